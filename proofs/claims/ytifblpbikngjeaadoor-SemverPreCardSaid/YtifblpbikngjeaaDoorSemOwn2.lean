/- The program's partMayBe: may a part of Pre be? -/
import Derived.Test.YtifblpbikngjeaaDoorSemOwn1
namespace Go.Proofs.YtifblpbikngjeaaDoor
open Go.RowKit
set_option linter.unusedVariables false

set_option maxRecDepth 100000 in
set_option maxHeartbeats 1000000 in
theorem partMayBe_walk (s : ByteArray) (hs : s.size ≤ 9223372036854775807) (w : World) :
    Calls Tryd.prog 30 #[.string s] w fun e w' => e = .returned (.bool (Sem.part s.data.toList)) ∧ w = w' := by
  have he0 : s.toList.isEmpty = s.data.toList.isEmpty := by rw [tx_list]
  by_cases hz : s.data.toList = []
  · have he : s.toList.isEmpty = true := by rw [he0, hz]; rfl
    have HN : Hid (Sem.part s.data.toList = false) := Lib.hid (by rw [hz]; rfl)
    clear he0 hz
    go_enter Tryd.func30, Tryd.ntmps30
    go_wp2
    go_ret
    exact ⟨by rw [HN.out]; rfl, rfl⟩
  · have he : s.toList.isEmpty = false := by rw [he0]; simpa using hz
    have hpos : 0 < s.size := by rw [Lib.size_eq]; exact List.length_pos_iff.2 hz
    have hhead : s.data.toList.head? = some (s[0]'hpos) := by
      rw [List.head?_eq_getElem?, List.getElem?_eq_getElem (by rw [← Lib.size_eq]; exact hpos)]; rfl
    have HHEAD := Lib.hid hhead
    have HZ := Lib.hid hz
    clear he0 hz hhead
    go_enter Tryd.func30, Tryd.ntmps30
    go_wp2_with fail
    go_loop [8] (fun i => ∃ k : Nat, i = .int .i64 k ∧ k ≤ s.size ∧ Hid ((s.data.toList.take k).all Sem.okc = true)) (fun i => s.size - (intOf i).toNat)
    case atStart => exact ⟨0, rfl, Nat.zero_le _, Lib.hid rfl⟩
    case round =>
      obtain ⟨k, rfl, hk, HP⟩ := hrel
      by_cases hlt : k < s.size
      · have hb := (s[k]'hlt).toNat_lt
        obtain ⟨n, hn⟩ : ∃ n, n = (s[k]'hlt).toNat := ⟨_, rfl⟩
        have ho : Sem.okc (s[k]'hlt) = (isLet n || decide (n = 45) || isDig n) := by rw [okc_at, hn]; rfl
        have hcd : ∀ w, Calls Tryd.prog 46 #[.int .u8 (s[k]'hlt).toNat] w fun e w' => e = .returned (.bool (isDig n)) ∧ w = w' := fun w => by rw [hn]; exact isDigit_walk _ hb w
        have hcl : ∀ w, Calls Tryd.prog 47 #[.int .u8 (s[k]'hlt).toNat] w fun e w' => e = .returned (.bool (isLet n)) ∧ w = w' := fun w => by rw [hn]; exact isLetter_walk _ hb w
        have HN : Hid (isDig n = true ∨ isLet n = true ∨ n = 45 → (s.data.toList.take (k + 1)).all Sem.okc = true) := Lib.hid (by
          intro h
          rw [all_okc_next hlt, HP.out, ho]
          rcases h with h | h | h <;> rw [h] <;> simp)
        have HF : Hid (isDig n = false ∧ isLet n = false ∧ n ≠ 45 → Sem.part s.data.toList = false) := Lib.hid (by
          rintro ⟨h1, h2, h3⟩
          exact part_bad hlt (by rw [ho, h1, h2]; simp [h3]))
        clear ho
        cases hd : isDig n
        · rw [hd] at hcd
          cases hl : isLet n
          · rw [hl] at hcl
            by_cases h45 : n = 45
            · have HM := Lib.hid (HN.out (Or.inr (Or.inr h45)))
              have h3 : (((s[k]'hlt).toNat : Int) != 45) = false := by rw [bne_eq_false_iff_eq]; omega
              clear hn hd hl
              go_wp2_with (first | (go_at_call 46; refine (hcd _).mono ?_; rintro e w' ⟨rfl, rfl⟩) | (go_at_call 47; refine (hcl _).mono ?_; rintro e w' ⟨rfl, rfl⟩))
              go_round
              case rel => exact ⟨k + 1, by go_num, by omega, HM⟩
              case measure => simp [intOf]; omega
            · have HM := Lib.hid (HF.out ⟨hd, hl, h45⟩)
              have h3 : (((s[k]'hlt).toNat : Int) != 45) = true := by rw [bne_iff_ne]; omega
              clear hn hd hl
              go_wp2_with (first | (go_at_call 46; refine (hcd _).mono ?_; rintro e w' ⟨rfl, rfl⟩) | (go_at_call 47; refine (hcl _).mono ?_; rintro e w' ⟨rfl, rfl⟩))
              go_ret
              exact ⟨by rw [HM.out]; rfl, rfl⟩
          · rw [hl] at hcl
            have HM := Lib.hid (HN.out (Or.inr (Or.inl hl)))
            clear hn hd hl
            go_wp2_with (first | (go_at_call 46; refine (hcd _).mono ?_; rintro e w' ⟨rfl, rfl⟩) | (go_at_call 47; refine (hcl _).mono ?_; rintro e w' ⟨rfl, rfl⟩))
            go_round
            case rel => exact ⟨k + 1, by go_num, by omega, HM⟩
            case measure => simp [intOf]; omega
        · rw [hd] at hcd
          have HM := Lib.hid (HN.out (Or.inl hd))
          clear hn hd hcl
          go_wp2_with (first | (go_at_call 46; refine (hcd _).mono ?_; rintro e w' ⟨rfl, rfl⟩))
          go_round
          case rel => exact ⟨k + 1, by go_num, by omega, HM⟩
          case measure => simp [intOf]; omega
      · have hall : s.data.toList.all Sem.okc = true := by have := HP.out; rwa [List.take_of_length_le (by rw [← Lib.size_eq]; omega)] at this
        have HS : Hid (Sem.part s.data.toList = (!Sem.digits s.data.toList || s.data.toList == [48] || s.data.toList.head? != some 48)) := Lib.hid (by
          have : s.data.toList.isEmpty = false := by simpa using HZ.out
          unfold Sem.part; rw [hall, this]; rfl)
        rw [HHEAD.out] at HS
        clear hall
        cases h48 : (s.toList == [48])
        · have h49 : (s.data.toList == [48]) = false := by rw [← tx_list]; exact h48
          by_cases hh : (s[0]'hpos).toNat = 48
          · have HN : Hid (Sem.part s.data.toList = !Sem.digits s.data.toList) := Lib.hid (by
              have : s[0]'hpos = 48 := UInt8.toNat_inj.1 hh
              rw [HS.out, h49, this]; simp)
            have h50 : (((s[0]'hpos).toNat : Int) != 48) = false := by rw [bne_eq_false_iff_eq]; omega
            clear h49 hh
            go_wp2_with (go_at_call 48; refine (isNumber_walk s hs _).mono ?_; rintro e w' ⟨rfl, rfl⟩)
            go_ret
            exact ⟨by rw [HN.out]; rfl, rfl⟩
          · have HN : Hid (Sem.part s.data.toList = true) := Lib.hid (by
              have : s[0]'hpos ≠ 48 := fun h => hh (by rw [h]; rfl)
              rw [HS.out, h49]; simp [this])
            have h50 : (((s[0]'hpos).toNat : Int) != 48) = true := by rw [bne_iff_ne]; omega
            clear h49 hh
            go_wp2_with (go_at_call 48; refine (isNumber_walk s hs _).mono ?_; rintro e w' ⟨rfl, rfl⟩)
            go_ret
            exact ⟨by rw [HN.out]; rfl, rfl⟩
        · have HN : Hid (Sem.part s.data.toList = true) := Lib.hid (by
            have h49 : (s.data.toList == [48]) = true := by rw [← tx_list]; exact h48
            rw [HS.out, h49]; simp)
          go_wp2_with (go_at_call 48; refine (isNumber_walk s hs _).mono ?_; rintro e w' ⟨rfl, rfl⟩)
          go_ret
          exact ⟨by rw [HN.out]; rfl, rfl⟩
end Go.Proofs.YtifblpbikngjeaaDoor
