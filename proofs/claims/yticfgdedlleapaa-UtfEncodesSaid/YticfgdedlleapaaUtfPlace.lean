/- Place, of the program and of the document: the line and the column of a byte. -/
import Derived.Test.YticfgdedlleapaaUtfPFirst
import Derived.Test.YticfgdedlleapaaShelfUtf
import Derived.WalkMore
import Derived.Deep.LoopGhost
namespace Go.Proofs.Yticfgdedlleapaa
open Go.RowKit
set_option linter.unusedVariables false

/-- What Place hands back. -/
def placeR (l : List UInt8) (n : Int) : Value :=
  if 0 ≤ n ∧ n ≤ l.length then .tuple #[.int .i64 (1 + (l.take n.toNat).count 10 : Nat), .int .i64 (Utf.col l n.toNat (Utf.start l n.toNat) 1 : Nat), .int .i64 0]
  else .tuple #[.int .i64 0, .int .i64 0, .int .i64 2]

theorem placeR_in (l : List UInt8) (n : Nat) (h : n ≤ l.length) : placeR l n = .tuple #[.int .i64 (1 + (l.take n).count 10 : Nat), .int .i64 (Utf.col l n (Utf.start l n) 1 : Nat), .int .i64 0] := by
  rw [placeR, if_pos ⟨by omega, by omega⟩, Int.toNat_natCast]

theorem placeR_out (l : List UInt8) (n : Int) (h : ¬(0 ≤ n ∧ n ≤ l.length)) : placeR l n = .tuple #[.int .i64 0, .int .i64 0, .int .i64 2] := by
  rw [placeR, if_neg h]

theorem ext_data (s : ByteArray) (n : Nat) : (s.extract 0 n).data.toList = s.data.toList.take n := by
  have := ByteArray.extract_mk s.data.toList 0 n
  have e : s.extract 0 n = ⟨(s.data.toList.take n).toArray⟩ := this
  rw [e]

theorem last_start (s : ByteArray) (n : Nat) (hn : n ≤ s.size) : ∀ k, k ≤ n → Lib.lastIdx (s.extract 0 n) 10 k = (Utf.start s.data.toList k : Int) - 1
  | 0, _ => rfl
  | k + 1, hk => by
    have hz := Lib.size_eq s
    have hkl : k < s.data.toList.length := by omega
    have hget : (s.extract 0 n).data[k]! = s.data.toList[k] := by
      have h1 : k < (s.extract 0 n).data.toList.length := by rw [ext_data, List.length_take]; omega
      have h2 : (s.extract 0 n).data[k]! = (s.extract 0 n).data.toList[k] := by
        rw [getElem!_pos (s.extract 0 n).data k (by simpa using h1)]
        simp
      rw [h2]
      simp only [ext_data, List.getElem_take]
    by_cases h : s.data.toList[k] = 10
    · rw [Lib.lastIdx_hit _ _ _ (by rw [hget, h]; rfl), Utf.start_hit hkl h]
      omega
    · rw [Lib.lastIdx_miss _ _ _ (by
        rw [hget]; intro h'
        exact h (UInt8.toNat_inj.1 (by show _ = 10; omega))), Utf.start_miss hkl h]
      exact last_start s n hn k (by omega)

theorem last_line (s : ByteArray) (n : Nat) (hn : n ≤ s.size) : Lib.lastIndexByte (s.extract 0 n) 10 = (Utf.start s.data.toList n : Int) - 1 := by
  have hz : (s.extract 0 n).size = n := by rw [Lib.size_eq, ext_data, List.length_take, ← Lib.size_eq]; omega
  unfold Lib.lastIndexByte
  rw [hz]
  exact last_start s n hn n (Nat.le_refl _)

set_option maxRecDepth 100000 in
theorem place_bad (s : ByteArray) (n : Int) (hs : s.size ≤ 1000000000) (h : ¬(0 ≤ n ∧ n ≤ s.size)) (w : World) :
    Calls Try.prog 15 #[.string s, .int .i64 n] w fun e w' => e = .returned (placeR s.data.toList n) ∧ Below w.heap.size w w' := by
  rw [placeR_out _ _ (by rw [← Lib.size_eq]; exact h)]
  by_cases h0 : n < 0
  · clear h
    go_enter Try.func15, Try.ntmps15
    go_wp2
    go_step3
    go_wp2
    try rw [Exit.noGoto_ret]
    go_ret3
    exact ⟨rfl, Below.refl _ _⟩
  · have h1 : (s.size : Int) < n := by omega
    clear h
    go_enter Try.func15, Try.ntmps15
    go_wp2
    go_step3
    go_wp2
    try rw [Exit.noGoto_ret]
    go_ret3
    exact ⟨rfl, Below.refl _ _⟩

set_option maxRecDepth 100000 in
theorem rplace_bad (s : ByteArray) (n : Int) (hs : s.size ≤ 1000000000) (h : ¬(0 ≤ n ∧ n ≤ s.size)) (w : World) :
    Calls Try.prog 16 #[.string s, .int .i64 n] w fun e w' => e = .returned (placeR s.data.toList n) ∧ Below w.heap.size w w' := by
  rw [placeR_out _ _ (by rw [← Lib.size_eq]; exact h)]
  by_cases h0 : n < 0
  · clear h
    go_enter Try.func16, Try.ntmps16
    go_wp2
    go_ret3
    exact ⟨rfl, Below.refl _ _⟩
  · have h1 : (s.size : Int) < n := by omega
    clear h
    go_enter Try.func16, Try.ntmps16
    go_wp2
    go_ret3
    exact ⟨rfl, Below.refl _ _⟩

set_option maxRecDepth 100000 in
set_option maxHeartbeats 1000000 in
theorem place_in (s : ByteArray) (n : Nat) (hs : s.size ≤ 1000000000) (hn : n ≤ s.size) (w : World) :
    Calls Try.prog 15 #[.string s, .int .i64 n] w fun e w' => e = .returned (placeR s.data.toList n) ∧ Below w.heap.size w w' := by
  have hz := Lib.hid (Lib.size_eq s)
  have HR := Lib.hid (placeR_in s.data.toList n (by rw [← hz.out]; exact hn))
  have HL := Lib.hid (last_line s n hn)
  have hst := Utf.start_le s.data.toList n
  obtain ⟨q, hq⟩ : ∃ q, q = Utf.start s.data.toList n := ⟨_, rfl⟩
  obtain ⟨c, hc⟩ : ∃ c, c = (s.data.toList.take n).count 10 := ⟨_, rfl⟩
  have hcl : c ≤ n := by
    rw [hc]
    exact Nat.le_trans List.count_le_length (by rw [List.length_take]; omega)
  rw [← hq] at hst HL HR
  rw [← hc] at HR
  have HC : Hid (Lib.countByte (s.extract 0 n).data.toList 10 = c) := Lib.hid (by rw [ext_data, hc]; rfl)
  have HQ := Lib.hid hq
  clear hq hc
  go_enter Try.func15, Try.ntmps15
  go_wp2
  go_step3
  go_wp2_with fail
  refine (Try.count_one _ 10 _).mono ?_
  rintro e w' ⟨he, hw⟩
  rw [HC.out] at he
  subst he
  subst hw
  go_wp2_with fail
  refine (Try.last_byte _ 10 (by rw [Lib.size_eq, ext_data, List.length_take, ← hz.out]; omega) _).mono ?_
  rintro e w' ⟨he, hw⟩
  rw [HL.out] at he
  subst he
  subst hw
  go_wp2_with fail
  go_step3
  go_wp2_with fail
  go_loop [8, 9] (fun cc f => ∃ k d : Nat, f = .int .i64 k ∧ cc = .int .i64 d ∧ d ≤ k + 1 ∧ k ≤ n ∧ Hid (Utf.col s.data.toList n q 1 = Utf.col s.data.toList n k d))
    (fun _ f => n - (intOf f).toNat)
  case atStart => exact ⟨q, 1, rfl, rfl, by omega, hst, Lib.hid rfl⟩
  case round =>
    obtain ⟨k, d, rfl, rfl, hd, hk, HK⟩ := hrel
    by_cases hlt : k < n
    · obtain ⟨r, hsl, hr1, hr2, hr3, _, _⟩ := rest_of s k (by omega)
      obtain ⟨x, m, hxm⟩ : ∃ x m, Utf.first (s.data.toList.drop k) = (x, m) := ⟨_, _, rfl⟩
      have HF : Hid (Utf.first r.data.toList = (x, m)) := Lib.hid (by rw [hr1, hxm])
      have HS : Hid (Utf.step s.data.toList k = if m = 0 then 1 else m) := Lib.hid (by rw [Utf.step, hxm])
      have hm4 : m ≤ 4 := by
        by_cases hm : m = 0
        · omega
        · have := Utf.first_some hxm hm; rw [this.2.1]; exact (Utf.width_pos x).2
      clear hr1 hxm
      by_cases hm0 : m = 0
      · subst hm0
        have HN : Hid (Utf.col s.data.toList n k d = Utf.col s.data.toList n (k + 1) (d + 1)) := Lib.hid (by
          have h1 : Utf.step s.data.toList k = 1 := by rw [HS.out, if_pos rfl]
          rw [Utf.col_on hlt (by rw [h1]; omega), h1])
        go_wp2_with fail
        refine (first_walk r hr3 (by omega) _).mono ?_
        rintro e w' ⟨he, rfl⟩
        rw [HF.out, duo] at he
        subst he
        go_wp2_with fail
        go_round
        case rel => exact ⟨k + 1, d + 1, by go_num, by go_num, by omega, by omega, Lib.hid (HK.out.trans HN.out)⟩
        case measure => simp [intOf]; omega
      · have hm1 : ((m : Int) == 0) = false := by rw [beq_eq_false_iff_ne]; omega
        by_cases hfit : k + m ≤ n
        · have HN : Hid (Utf.col s.data.toList n k d = Utf.col s.data.toList n (k + m) (d + 1)) := Lib.hid (by
            have h1 : Utf.step s.data.toList k = m := by rw [HS.out, if_neg hm0]
            rw [Utf.col_on hlt (by rw [h1]; omega), h1])
          go_wp2_with fail
          refine (first_walk r hr3 (by omega) _).mono ?_
          rintro e w' ⟨he, rfl⟩
          rw [HF.out, duo] at he
          subst he
          go_wp2_with fail
          go_round
          case rel => exact ⟨k + m, d + 1, by go_num, by go_num, by omega, by omega, Lib.hid (HK.out.trans HN.out)⟩
          case measure => simp [intOf]; omega
        · have HN : Hid (Utf.col s.data.toList n k d = d) := Lib.hid (by
            have h1 : Utf.step s.data.toList k = m := by rw [HS.out, if_neg hm0]
            rw [Utf.col_out hlt (by rw [h1]; omega)])
          go_wp2_with fail
          refine (first_walk r hr3 (by omega) _).mono ?_
          rintro e w' ⟨he, rfl⟩
          rw [HF.out, duo] at he
          subst he
          go_wp2
          try rw [Exit.noGoto_ret]
          go_ret3
          refine ⟨?_, Below.refl _ _⟩
          rw [HR.out, HK.out, HN.out]
          rfl
    · have HN : Hid (Utf.col s.data.toList n k d = d) := Lib.hid (Utf.col_end hlt)
      go_wp2
      try rw [Exit.noGoto_ret]
      go_ret3
      refine ⟨?_, Below.refl _ _⟩
      rw [HR.out, HK.out, HN.out]
      rfl

theorem place_walk (s : ByteArray) (n : Int) (hs : s.size ≤ 1000000000) (w : World) :
    Calls Try.prog 15 #[.string s, .int .i64 n] w fun e w' => e = .returned (placeR s.data.toList n) ∧ Below w.heap.size w w' := by
  by_cases h : 0 ≤ n ∧ n ≤ s.size
  · obtain ⟨m, rfl⟩ := Int.eq_ofNat_of_zero_le h.1
    exact place_in s m hs (by omega) w
  · exact place_bad s n hs h w

set_option maxRecDepth 100000 in
set_option maxHeartbeats 1000000 in
theorem rplace_in (s : ByteArray) (n : Nat) (hs : s.size ≤ 1000000000) (hn : n ≤ s.size) (w : World) :
    Calls Try.prog 16 #[.string s, .int .i64 n] w fun e w' => e = .returned (placeR s.data.toList n) ∧ Below w.heap.size w w' := by
  have hz := Lib.hid (Lib.size_eq s)
  have HR := Lib.hid (placeR_in s.data.toList n (by rw [← hz.out]; exact hn))
  have hst := Utf.start_le s.data.toList n
  go_enter Try.func16, Try.ntmps16
  go_wp2_with fail
  go_loop [7, 8, 9] (fun l f i => ∃ k c : Nat, i = .int .i64 k ∧ k ≤ n ∧ l = .int .i64 (1 + c : Nat) ∧ c ≤ k ∧ Hid (c = (s.data.toList.take k).count 10) ∧ f = .int .i64 (Utf.start s.data.toList k : Nat))
    (fun _ _ i => n - (intOf i).toNat)
  case atStart => exact ⟨0, 0, rfl, by omega, rfl, by omega, Lib.hid rfl, rfl⟩
  case round =>
    obtain ⟨k, c, rfl, hk, rfl, hck, HC, rfl⟩ := hrel
    have hsk := Utf.start_le s.data.toList k
    by_cases hlt : k < n
    · have hks : k < s.size := by omega
      have hkl : k < s.data.toList.length := by rw [← hz.out]; exact hks
      have hget : s[k]'hks = s.data.toList[k]'hkl := rfl
      by_cases hb : (s[k]'hks).toNat = 10
      · have hb' : s.data.toList[k]'hkl = 10 := UInt8.toNat_inj.1 (by rw [← hget, hb]; rfl)
        have H1 := Lib.hid (Utf.count_hit hkl hb')
        have H2 := Lib.hid (Utf.start_hit hkl hb')
        have hb2 : (((s[k]'hks).toNat : Int) == 10) = true := by rw [beq_iff_eq]; omega
        clear hb hb' hget
        go_wp2_with fail
        go_round
        case rel => exact ⟨k + 1, c + 1, by go_num, by omega, by go_num, by omega, Lib.hid (by rw [H1.out, HC.out]), by rw [H2.out]; go_num⟩
        case measure => simp [intOf]; omega
      · have hb' : s.data.toList[k]'hkl ≠ 10 := fun h => hb (by rw [hget, h]; rfl)
        have H1 := Lib.hid (Utf.count_miss hkl hb')
        have H2 := Lib.hid (Utf.start_miss hkl hb')
        have hb2 : (((s[k]'hks).toNat : Int) == 10) = false := by rw [beq_eq_false_iff_ne]; omega
        clear hb hb' hget
        go_wp2_with fail
        go_round
        case rel => exact ⟨k + 1, c, by go_num, by omega, rfl, by omega, Lib.hid (by rw [H1.out, HC.out]), by rw [H2.out]⟩
        case measure => simp [intOf]; omega
    · obtain rfl : k = n := by omega
      rw [← HC.out] at HR
      obtain ⟨q, hq⟩ : ∃ q, q = Utf.start s.data.toList k := ⟨_, rfl⟩
      rw [← hq] at HR hst
      rw [← hq]
      clear hq hsk
      go_wp2_with fail
      go_loopw [8, 10] (fun f cc wr => ∃ j d : Nat, f = .int .i64 j ∧ cc = .int .i64 d ∧ d ≤ j + 1 ∧ j ≤ k + 4 ∧ Hid (Utf.col s.data.toList k q 1 = Utf.col s.data.toList k j d) ∧ Below w.heap.size w wr)
        (fun f _ _ => k + 4 - (intOf f).toNat)
      case atStart => exact ⟨q, 1, rfl, rfl, by omega, by omega, Lib.hid rfl, Below.refl _ _⟩
      case round =>
        obtain ⟨j, d, rfl, rfl, hd, hj, HK, hbel⟩ := hrel
        by_cases hlt : j < k
        · obtain ⟨r, hsl, hr1, hr2, hr3, _, _⟩ := rest_of s j (by omega)
          obtain ⟨x, m, hxm⟩ : ∃ x m, Utf.first (s.data.toList.drop j) = (x, m) := ⟨_, _, rfl⟩
          have HF : Hid (Utf.first r.data.toList = (x, m)) := Lib.hid (by rw [hr1, hxm])
          have HS : Hid (Utf.step s.data.toList j = if m = 0 then 1 else m) := Lib.hid (by rw [Utf.step, hxm])
          have hm4 : m ≤ 4 := by
            by_cases hm : m = 0
            · omega
            · have := Utf.first_some hxm hm; rw [this.2.1]; exact (Utf.width_pos x).2
          clear hr1 hxm
          by_cases hm0 : m = 0
          · subst hm0
            have HN : Hid (Utf.col s.data.toList k j d = Utf.col s.data.toList k (j + 1) (d + 1)) := Lib.hid (by
              have h1 : Utf.step s.data.toList j = 1 := by rw [HS.out, if_pos rfl]
              rw [Utf.col_on hlt (by rw [h1]; omega), h1])
            go_wp2_with fail
            refine (rfirst_walk r (by omega) _).mono ?_
            rintro e w' ⟨he, hb2⟩
            rw [HF.out, duo] at he
            subst he
            have hb3 := below_next hbel hb2
            clear hb2
            go_wp2_with fail
            go_roundw
            case rel => exact ⟨j + 1, d + 1, by go_num, by go_num, by omega, by omega, Lib.hid (HK.out.trans HN.out), hb3⟩
            case measure => simp [intOf]; omega
          · have hm1 : ((m : Int) == 0) = false := by rw [beq_eq_false_iff_ne]; omega
            by_cases hfit : j + m ≤ k
            · have HN : Hid (Utf.col s.data.toList k j d = Utf.col s.data.toList k (j + m) (d + 1)) := Lib.hid (by
                have h1 : Utf.step s.data.toList j = m := by rw [HS.out, if_neg hm0]
                rw [Utf.col_on hlt (by rw [h1]; omega), h1])
              go_wp2_with fail
              refine (rfirst_walk r (by omega) _).mono ?_
              rintro e w' ⟨he, hb2⟩
              rw [HF.out, duo] at he
              subst he
              have hb3 := below_next hbel hb2
              clear hb2
              go_wp2_with fail
              go_roundw
              case rel => exact ⟨j + m, d + 1, by go_num, by go_num, by omega, by omega, Lib.hid (HK.out.trans HN.out), hb3⟩
              case measure => simp [intOf]; omega
            · have HN : Hid (Utf.col s.data.toList k j d = Utf.col s.data.toList k (j + m) d) := Lib.hid (by
                have h1 : Utf.step s.data.toList j = m := by rw [HS.out, if_neg hm0]
                rw [Utf.col_out hlt (by rw [h1]; omega), Utf.col_end (by omega)])
              go_wp2_with fail
              refine (rfirst_walk r (by omega) _).mono ?_
              rintro e w' ⟨he, hb2⟩
              rw [HF.out, duo] at he
              subst he
              have hb3 := below_next hbel hb2
              clear hb2
              go_wp2_with fail
              go_roundw
              case rel => exact ⟨j + m, d, by go_num, rfl, by omega, by omega, Lib.hid (HK.out.trans HN.out), hb3⟩
              case measure => simp [intOf]; omega
        · have HN : Hid (Utf.col s.data.toList k j d = d) := Lib.hid (Utf.col_end hlt)
          go_wp2
          go_ret3
          refine ⟨?_, hbel⟩
          rw [HR.out, HK.out, HN.out]
          rfl

theorem rplace_walk (s : ByteArray) (n : Int) (hs : s.size ≤ 1000000000) (w : World) :
    Calls Try.prog 16 #[.string s, .int .i64 n] w fun e w' => e = .returned (placeR s.data.toList n) ∧ Below w.heap.size w w' := by
  by_cases h : 0 ≤ n ∧ n ≤ s.size
  · obtain ⟨m, rfl⟩ := Int.eq_ofNat_of_zero_le h.1
    exact rplace_in s m hs (by omega) w
  · exact rplace_bad s n hs h w
end Go.Proofs.Yticfgdedlleapaa
