/- The document's part: may a part of Pre be? -/
import Derived.Test.YtifblpbikngjeaaDoorSemSmall
namespace Go.Proofs.YtifblpbikngjeaaDoor
open Go.RowKit
set_option linter.unusedVariables false

theorem byte_kinds (n : Nat) (h : n < 256) : (0 ≤ n ∧ n ≤ 44) ∨ (45 ≤ n ∧ n ≤ 45) ∨ (46 ≤ n ∧ n ≤ 47) ∨ (48 ≤ n ∧ n ≤ 57) ∨ (58 ≤ n ∧ n ≤ 64) ∨ (65 ≤ n ∧ n ≤ 90) ∨ (91 ≤ n ∧ n ≤ 96) ∨ (97 ≤ n ∧ n ≤ 122) ∨ (123 ≤ n ∧ n ≤ 255) := by omega

theorem okc_at (c : UInt8) : Sem.okc c = ((decide (97 ≤ c.toNat) && decide (c.toNat ≤ 122)) || (decide (65 ≤ c.toNat) && decide (c.toNat ≤ 90)) || decide (c.toNat = 45) || (decide (48 ≤ c.toNat) && decide (c.toNat ≤ 57))) := rfl

theorem all_okc_next {s : ByteArray} {k : Nat} (h : k < s.size) : (s.data.toList.take (k + 1)).all Sem.okc = ((s.data.toList.take k).all Sem.okc && Sem.okc (s[k]'h)) := by
  rw [List.take_succ_eq_append_getElem (by rw [← Lib.size_eq]; exact h), List.all_append]
  simp
  rfl

theorem part_bad {s : ByteArray} {k : Nat} (h : k < s.size) (hc : Sem.okc (s[k]'h) = false) : Sem.part s.data.toList = false := by
  have : s.data.toList.all Sem.okc = false := by
    rw [List.all_eq_false]
    exact ⟨s[k]'h, by rw [show s[k]'h = s.data.toList[k]'(by rw [← Lib.size_eq]; exact h) from rfl]; exact List.getElem_mem _, by rw [hc]; simp⟩
  unfold Sem.part
  rw [this, Bool.and_false, Bool.false_and]

set_option maxRecDepth 100000 in
set_option maxHeartbeats 1000000 in
theorem part_walk (s : ByteArray) (hs : s.size ≤ 9223372036854775807) (w : World) :
    Calls Tryd.prog 32 #[.string s] w fun e w' => e = .returned (.bool (Sem.part s.data.toList)) ∧ w = w' := by
  go_enter Tryd.func32, Tryd.ntmps32
  go_wp2_with fail
  go_loop [3] (fun i => ∃ k : Nat, i = .int .i64 k ∧ k ≤ s.size ∧ Hid ((s.data.toList.take k).all Sem.okc = true)) (fun i => s.size - (intOf i).toNat)
  case atStart => exact ⟨0, rfl, Nat.zero_le _, Lib.hid rfl⟩
  case round =>
    obtain ⟨k, rfl, hk, HP⟩ := hrel
    by_cases hlt : k < s.size
    · have hb := (s[k]'hlt).toNat_lt
      have ho := okc_at (s[k]'hlt)
      rcases byte_kinds (s[k]'hlt).toNat (by omega) with ⟨h1, h2⟩ | ⟨h1, h2⟩ | ⟨h1, h2⟩ | ⟨h1, h2⟩ | ⟨h1, h2⟩ | ⟨h1, h2⟩ | ⟨h1, h2⟩ | ⟨h1, h2⟩ | ⟨h1, h2⟩
      · have HN : Hid (Sem.part s.data.toList = false) := Lib.hid (part_bad hlt (by rw [ho]; simp; omega))
        clear ho
        have h3 : (((s[k]'hlt).toNat : Int) != 45) = true := by rw [bne_iff_ne]; omega
        go_wp2
        go_ret
        exact ⟨by rw [HN.out]; rfl, rfl⟩
      · have HN : Hid ((s.data.toList.take (k + 1)).all Sem.okc = true) := Lib.hid (by rw [all_okc_next hlt, HP.out, ho]; simp; omega)
        clear ho
        have h3 : (((s[k]'hlt).toNat : Int) != 45) = false := by rw [bne_eq_false_iff_eq]; omega
        go_wp2
        go_round
        case rel => exact ⟨k + 1, by go_num, by omega, HN⟩
        case measure => simp [intOf]; omega
      · have HN : Hid (Sem.part s.data.toList = false) := Lib.hid (part_bad hlt (by rw [ho]; simp; omega))
        clear ho
        have h3 : (((s[k]'hlt).toNat : Int) != 45) = true := by rw [bne_iff_ne]; omega
        go_wp2
        go_ret
        exact ⟨by rw [HN.out]; rfl, rfl⟩
      · have HN : Hid ((s.data.toList.take (k + 1)).all Sem.okc = true) := Lib.hid (by rw [all_okc_next hlt, HP.out, ho]; simp; omega)
        clear ho
        have h3 : (((s[k]'hlt).toNat : Int) != 45) = true := by rw [bne_iff_ne]; omega
        go_wp2
        go_round
        case rel => exact ⟨k + 1, by go_num, by omega, HN⟩
        case measure => simp [intOf]; omega
      · have HN : Hid (Sem.part s.data.toList = false) := Lib.hid (part_bad hlt (by rw [ho]; simp; omega))
        clear ho
        have h3 : (((s[k]'hlt).toNat : Int) != 45) = true := by rw [bne_iff_ne]; omega
        go_wp2
        go_ret
        exact ⟨by rw [HN.out]; rfl, rfl⟩
      · have HN : Hid ((s.data.toList.take (k + 1)).all Sem.okc = true) := Lib.hid (by rw [all_okc_next hlt, HP.out, ho]; simp; omega)
        clear ho
        have h3 : (((s[k]'hlt).toNat : Int) != 45) = true := by rw [bne_iff_ne]; omega
        go_wp2
        go_round
        case rel => exact ⟨k + 1, by go_num, by omega, HN⟩
        case measure => simp [intOf]; omega
      · have HN : Hid (Sem.part s.data.toList = false) := Lib.hid (part_bad hlt (by rw [ho]; simp; omega))
        clear ho
        have h3 : (((s[k]'hlt).toNat : Int) != 45) = true := by rw [bne_iff_ne]; omega
        have h4 : decide (((s[k]'hlt).toNat : Int) ≤ 90) = false := by rw [decide_eq_false_iff_not]; omega
        go_wp2
        go_ret
        exact ⟨by rw [HN.out]; rfl, rfl⟩
      · have HN : Hid ((s.data.toList.take (k + 1)).all Sem.okc = true) := Lib.hid (by rw [all_okc_next hlt, HP.out, ho]; simp; omega)
        clear ho
        have h3 : (((s[k]'hlt).toNat : Int) != 45) = true := by rw [bne_iff_ne]; omega
        go_wp2
        go_round
        case rel => exact ⟨k + 1, by go_num, by omega, HN⟩
        case measure => simp [intOf]; omega
      · have HN : Hid (Sem.part s.data.toList = false) := Lib.hid (part_bad hlt (by rw [ho]; simp; omega))
        clear ho
        have h3 : (((s[k]'hlt).toNat : Int) != 45) = true := by rw [bne_iff_ne]; omega
        have h4 : decide (((s[k]'hlt).toNat : Int) ≤ 90) = false := by rw [decide_eq_false_iff_not]; omega
        have h5 : decide (((s[k]'hlt).toNat : Int) ≤ 122) = false := by rw [decide_eq_false_iff_not]; omega
        go_wp2
        go_ret
        exact ⟨by rw [HN.out]; rfl, rfl⟩
    · have hall : s.data.toList.all Sem.okc = true := by have := HP.out; rwa [List.take_of_length_le (by rw [← Lib.size_eq]; omega)] at this
      have he0 : s.toList.isEmpty = s.data.toList.isEmpty := by rw [tx_list]
      have HS : Hid (Sem.part s.data.toList = (!s.data.toList.isEmpty && (!Sem.digits s.data.toList || s.data.toList == [48] || s.data.toList.head? != some 48))) := Lib.hid (by unfold Sem.part; rw [hall, Bool.and_true])
      clear hall
      by_cases hz : s.data.toList = []
      · have he : s.toList.isEmpty = true := by rw [he0, hz]; rfl
        have HN : Hid (Sem.part s.data.toList = false) := Lib.hid (by rw [HS.out, hz]; rfl)
        clear he0 hz
        go_wp2
        go_ret
        exact ⟨by rw [HN.out]; rfl, rfl⟩
      · have he : s.toList.isEmpty = false := by rw [he0]; simpa using hz
        have hpos : 0 < s.size := by rw [Lib.size_eq]; exact List.length_pos_iff.2 hz
        have hhead : s.data.toList.head? = some (s[0]'hpos) := by
          rw [List.head?_eq_getElem?, List.getElem?_eq_getElem (by rw [← Lib.size_eq]; exact hpos)]; rfl
        cases hd : Sem.digits s.data.toList
        · have HN : Hid (Sem.part s.data.toList = true) := Lib.hid (by rw [HS.out, hd]; simpa using hz)
          clear he0 hz hhead
          go_wp2_with (go_at_call 49; refine (digits_walk s hs _).mono ?_; rintro e w' ⟨rfl, rfl⟩)
          go_ret
          exact ⟨by rw [HN.out]; rfl, rfl⟩
        · have HD : Hid (Sem.part s.data.toList = (s.data.toList == [48] || s.data.toList.head? != some 48)) := Lib.hid (by
            rw [HS.out, hd]
            have : s.data.toList.isEmpty = false := by simpa using hz
            rw [this]; rfl)
          rw [hhead] at HD
          cases h48 : (s.toList == [48])
          · have h49 : (s.data.toList == [48]) = false := by rw [← tx_list]; exact h48
            by_cases hh : (s[0]'hpos).toNat = 48
            · have HN : Hid (Sem.part s.data.toList = false) := Lib.hid (by
                have : s[0]'hpos = 48 := UInt8.toNat_inj.1 hh
                rw [HD.out, h49, this]; rfl)
              have h50 : (((s[0]'hpos).toNat : Int) != 48) = false := by rw [bne_eq_false_iff_eq]; omega
              clear he0 hz hhead h49 hh
              go_wp2_with (go_at_call 49; refine (digits_walk s hs _).mono ?_; rintro e w' ⟨rfl, rfl⟩)
              go_ret
              exact ⟨by rw [HN.out]; rfl, rfl⟩
            · have HN : Hid (Sem.part s.data.toList = true) := Lib.hid (by
                have : s[0]'hpos ≠ 48 := fun h => hh (by rw [h]; rfl)
                rw [HD.out, h49]; simpa using this)
              have h50 : (((s[0]'hpos).toNat : Int) != 48) = true := by rw [bne_iff_ne]; omega
              clear he0 hz hhead h49 hh
              go_wp2_with (go_at_call 49; refine (digits_walk s hs _).mono ?_; rintro e w' ⟨rfl, rfl⟩)
              go_ret
              exact ⟨by rw [HN.out]; rfl, rfl⟩
          · have HN : Hid (Sem.part s.data.toList = true) := Lib.hid (by
              have h49 : (s.data.toList == [48]) = true := by rw [← tx_list]; exact h48
              rw [HD.out, h49]; rfl)
            clear he0 hz hhead
            go_wp2_with (go_at_call 49; refine (digits_walk s hs _).mono ?_; rintro e w' ⟨rfl, rfl⟩)
            go_ret
            exact ⟨by rw [HN.out]; rfl, rfl⟩
end Go.Proofs.YtifblpbikngjeaaDoor
