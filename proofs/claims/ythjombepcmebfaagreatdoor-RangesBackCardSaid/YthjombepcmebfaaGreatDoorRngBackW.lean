/- The walk of RangesBack. -/
import Derived.Test.YthjombepcmebfaaGreatDoorGRngC
import Derived.Test.YthjombepcmebfaaGreatDoorRngNormalW
namespace Go.Proofs.YthjombepcmebfaaGreatDoor
open Go.RowKit
set_option linter.unusedVariables false

theorem showB_ok {l : List Rng.Bd} (h : Rng.may l = true) : showB l = .tuple #[.string ⟨(Rng.text l).toArray⟩, .int .i64 0] := by unfold showB; rw [if_pos h]

/-- Of a text that is a range, what is written of it is read as it. -/
theorem back_walk (l : List Rng.Bd) (h : Rng.may l = true) (w : World) (hg : RGlobs w) :
    Calls Tryz.prog 12 #[.string ⟨(Rng.text l).toArray⟩] w fun e w' => ∃ (A : Option Addr) (c : Nat), e = .returned (.tuple #[.slice A l.length c, .int .i64 0]) ∧ l.length ≤ c ∧ Bds w' w'.heap.size A l ∧ Below w.heap.size w w' := by
  have hp := Rng.parse_text h
  have hl := Rng.text_length h
  refine (rparseL_walk (Rng.text l) (by omega) w hg).mono ?_
  rintro e w' ⟨A, c, he, hc, hA, hb⟩
  rw [hp] at he hc hA
  exact ⟨A, c, he, hc, hA, hb⟩

set_option maxRecDepth 100000 in
set_option maxHeartbeats 8000000 in
/-- The part behind: a text that is read. -/
theorem rngBack_walk (A : Option Addr) (cap : Nat) (l : List Rng.Bd) (s : ByteArray) (w : World) (hA : Bds w w.heap.size A l) (hs : s.size ≤ 140737488351232) (hp : ∀ b ∈ l, b.v.pre.length ≤ 9223372036854775807) (hg : RGlobs w) :
    Calls Tryz.prog 7 #[.slice A l.length cap, .string s] w fun e w' => e = .returned (.bool true) ∧ Below w.heap.size w w' := by
  obtain ⟨t, ht⟩ : ∃ t, t = s.data.toList := ⟨_, rfl⟩
  have hst : s = ⟨t.toArray⟩ := by rw [ht]
  have hsz : t.length = s.size := by rw [ht, ← Lib.size_eq]
  rw [← hsz] at hs
  subst hst
  clear ht hsz
  have hz : (⟨t.toArray⟩ : ByteArray).size = t.length := size_list _
  have HA := Lib.hid hA
  have HP := Lib.hid hp
  clear hA hp
  by_cases h5 : 5000 < t.length
  · have h5i : (5000 : Int) < (t.length : Int) := by omega
    go_enter Tryz.func7, Tryz.ntmps7
    go_wp2_with fail
    refine (rawake_walk _ hg).mono ?_
    rintro e w1 ⟨rfl, hb⟩
    go_wp2
    go_ret
    exact ⟨rfl, hb⟩
  · have h5i : ¬ (5000 : Int) < (t.length : Int) := by omega
    go_enter Tryz.func7, Tryz.ntmps7
    go_wp2_with fail
    refine (bcheck_walk A cap l _ HA.out HP.out).mono ?_
    rintro e w1 ⟨he, hb1⟩
    have HG1 := Lib.hid (hg.next hb1)
    have HA1 := Lib.hid (HA.out.next hb1)
    have key : ∀ w4, Below w.heap.size w w4 → Calls Tryz.prog 12 #[.string ⟨t.toArray⟩] w4 fun e w' => BdsE w4 (Rng.parse t) e w' := fun w4 hb => rparseL_walk t (by omega) w4 (hg.next hb)
    have KEY := Lib.hid key
    have HPS : Hid (∀ m, Rng.parse t = some m → Rng.may m = true ∧ (Rng.text m = t ∨ t.head? = some 94)) := Lib.hid (fun m h => Rng.parse_some h)
    clear key
    cases hm : Rng.may l
    · rw [chkB_no hm] at he
      subst he
      have HB4 := Lib.hid hb1
      clear hb1 HA1 hm HG1
      generalize w1 = w4 at HB4 ⊢
      go_wp2_with fail
      refine (KEY.out _ HB4.out).mono ?_
      rintro e w5 ⟨D, d, he, hd, hD, hb5⟩
      have HB5 := Lib.hid (below_next HB4.out hb5)
      cases hpt : Rng.parse t with
      | none =>
        rw [hpt] at he
        simp only [Option.getD_none, Option.isSome_none, List.length_nil] at he
        subst he
        clear hD hd hb5
        go_wp2_with fail
        refine (rawake_walk _ (hg.next HB5.out)).mono ?_
        rintro e w6 ⟨rfl, hb6⟩
        go_wp2
        go_ret
        exact ⟨rfl, below_next HB5.out hb6⟩
      | some m =>
        rw [hpt] at he hd hD
        simp only [Option.getD_some, Option.isSome_some, if_true] at he hd hD
        subst he
        have HD := Lib.hid hD
        obtain ⟨hmm, htx⟩ := HPS.out _ hpt
        have HMM := Lib.hid hmm
        have hm20 := ((Rng.may_iff m).1 hmm).1
        clear hD hb5 hmm hpt
        go_wp2_with fail
        refine (bshow_walk D d m _ HD.out (fun x hx => Nat.le_trans (may_pre HMM.out x hx) (by decide)) (hg.next HB5.out)).mono ?_
        rintro e w6 ⟨he, hb6⟩
        rw [showB_ok HMM.out] at he
        subst he
        have HB6 := Lib.hid (below_next HB5.out hb6)
        have HD6 := Lib.hid (HD.out.next hb6)
        clear hb6
        go_wp2_with fail
        refine (back_walk m HMM.out _ (hg.next HB6.out)).mono ?_
        rintro e w7 ⟨K, k7, rfl, hk7, hK, hb7⟩
        have HB7 := Lib.hid (below_next HB6.out hb7)
        have HD7 := Lib.hid (HD6.out.next hb7)
        have HK7 := Lib.hid hK
        clear hb7 hK
        go_wp2_with fail
        refine (rsame_walk K D k7 d m m _ HK7.out HD7.out (by omega)).mono ?_
        rintro e w8 ⟨he, hb8⟩
        rw [decide_eq_true rfl] at he
        subst he
        have HB8 := Lib.hid (below_next HB7.out hb8)
        clear hb8
        cases hq : (Rng.text m == t)
        · have hh : t.head? = some 94 := by
            rcases htx with h | h
            · rw [h] at hq; simp at hq
            · exact h
          have hidx : ∀ W, (Instr.index 9 (.string ⟨t.toArray⟩) (.int .i64 0)).run Tryz.prog W = .ok (.int .u8 94) W := fun W => by
            cases t with
            | nil => cases hh
            | cons c r =>
              obtain rfl : c = 94 := by simpa using hh
              rfl
          clear htx hh
          go_wp2_with fail
          refine (rawake_walk _ (hg.next HB8.out)).mono ?_
          rintro e w9 ⟨rfl, hb9⟩
          go_wp2
          go_ret
          exact ⟨rfl, below_next HB8.out hb9⟩
        · clear htx
          go_wp2_with fail
          refine (rawake_walk _ (hg.next HB8.out)).mono ?_
          rintro e w9 ⟨rfl, hb9⟩
          go_wp2
          go_ret
          exact ⟨rfl, below_next HB8.out hb9⟩
    · rw [chkB_ok hm] at he
      subst he
      have HM := Lib.hid hm
      clear hm
      go_wp2_with fail
      refine (bshow_walk A cap l _ HA1.out HP.out HG1.out).mono ?_
      rintro e w2 ⟨he, hb2⟩
      rw [showB_ok HM.out] at he
      subst he
      have HG2 := Lib.hid (HG1.out.next hb2)
      have HA2 := Lib.hid (HA1.out.next hb2)
      have hb12 := below_next hb1 hb2
      clear hb1 hb2
      go_wp2_with fail
      refine (back_walk l HM.out _ HG2.out).mono ?_
      rintro e w3 ⟨B, c, rfl, hc, hB, hb3⟩
      have HB3 := Lib.hid hB
      have HA3 := Lib.hid (HA2.out.next hb3)
      have hb13 := below_next hb12 hb3
      have hl20 := ((Rng.may_iff l).1 HM.out).1
      clear hB hb12 hb3
      go_wp2_with fail
      refine (rsame_walk B A c cap l l _ HB3.out HA3.out (by omega)).mono ?_
      rintro e w4 ⟨he, hb4⟩
      rw [decide_eq_true rfl] at he
      subst he
      have HB4 := Lib.hid (below_next hb13 hb4)
      clear hb13 hb4
      go_wp2_with fail
      refine (KEY.out _ HB4.out).mono ?_
      rintro e w5 ⟨D, d, he, hd, hD, hb5⟩
      have HB5 := Lib.hid (below_next HB4.out hb5)
      cases hpt : Rng.parse t with
      | none =>
        rw [hpt] at he
        simp only [Option.getD_none, Option.isSome_none, List.length_nil] at he
        subst he
        clear hD hd hb5
        go_wp2_with fail
        refine (rawake_walk _ (hg.next HB5.out)).mono ?_
        rintro e w6 ⟨rfl, hb6⟩
        go_wp2
        go_ret
        exact ⟨rfl, below_next HB5.out hb6⟩
      | some m =>
        rw [hpt] at he hd hD
        simp only [Option.getD_some, Option.isSome_some, if_true] at he hd hD
        subst he
        have HD := Lib.hid hD
        obtain ⟨hmm, htx⟩ := HPS.out _ hpt
        have HMM := Lib.hid hmm
        have hm20 := ((Rng.may_iff m).1 hmm).1
        clear hD hb5 hmm hpt
        go_wp2_with fail
        refine (bshow_walk D d m _ HD.out (fun x hx => Nat.le_trans (may_pre HMM.out x hx) (by decide)) (hg.next HB5.out)).mono ?_
        rintro e w6 ⟨he, hb6⟩
        rw [showB_ok HMM.out] at he
        subst he
        have HB6 := Lib.hid (below_next HB5.out hb6)
        have HD6 := Lib.hid (HD.out.next hb6)
        clear hb6
        go_wp2_with fail
        refine (back_walk m HMM.out _ (hg.next HB6.out)).mono ?_
        rintro e w7 ⟨K, k7, rfl, hk7, hK, hb7⟩
        have HB7 := Lib.hid (below_next HB6.out hb7)
        have HD7 := Lib.hid (HD6.out.next hb7)
        have HK7 := Lib.hid hK
        clear hb7 hK
        go_wp2_with fail
        refine (rsame_walk K D k7 d m m _ HK7.out HD7.out (by omega)).mono ?_
        rintro e w8 ⟨he, hb8⟩
        rw [decide_eq_true rfl] at he
        subst he
        have HB8 := Lib.hid (below_next HB7.out hb8)
        clear hb8
        cases hq : (Rng.text m == t)
        · have hh : t.head? = some 94 := by
            rcases htx with h | h
            · rw [h] at hq; simp at hq
            · exact h
          have hidx : ∀ W, (Instr.index 9 (.string ⟨t.toArray⟩) (.int .i64 0)).run Tryz.prog W = .ok (.int .u8 94) W := fun W => by
            cases t with
            | nil => cases hh
            | cons c r =>
              obtain rfl : c = 94 := by simpa using hh
              rfl
          clear htx hh
          go_wp2_with fail
          refine (rawake_walk _ (hg.next HB8.out)).mono ?_
          rintro e w9 ⟨rfl, hb9⟩
          go_wp2
          go_ret
          exact ⟨rfl, below_next HB8.out hb9⟩
        · clear htx
          go_wp2_with fail
          refine (rawake_walk _ (hg.next HB8.out)).mono ?_
          rintro e w9 ⟨rfl, hb9⟩
          go_wp2
          go_ret
          exact ⟨rfl, below_next HB8.out hb9⟩
end Go.Proofs.YthjombepcmebfaaGreatDoor
