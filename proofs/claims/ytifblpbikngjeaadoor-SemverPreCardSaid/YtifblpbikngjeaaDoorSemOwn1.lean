/- The program's small functions of layer 4: isDigit, isLetter, isNumber, partMayBe. -/
import Derived.Test.YtifblpbikngjeaaDoorSemPart
namespace Go.Proofs.YtifblpbikngjeaaDoor
open Go.RowKit
set_option linter.unusedVariables false

def isLet (n : Nat) : Bool := (decide (97 ≤ n) && decide (n ≤ 122)) || (decide (65 ≤ n) && decide (n ≤ 90))
def isDig (n : Nat) : Bool := decide (48 ≤ n) && decide (n ≤ 57)

theorem isDigit_walk (n : Nat) (h : n < 256) (w : World) :
    Calls Tryd.prog 46 #[.int .u8 n] w fun e w' => e = .returned (.bool (isDig n)) ∧ w = w' := by
  have H : n ≤ 47 ∨ (48 ≤ n ∧ n ≤ 57) ∨ 58 ≤ n := by omega
  rcases H with h1 | ⟨h1, h2⟩ | h1
  · have HB : Hid (isDig n = false) := Lib.hid (by simp [isDig]; omega)
    go_enter Tryd.func46, Tryd.ntmps46
    go_wp2
    go_ret
    exact ⟨by rw [HB.out]; rfl, rfl⟩
  · have HB : Hid (isDig n = true) := Lib.hid (by simp [isDig]; omega)
    have h3 : decide ((n : Int) ≤ 57) = true := decide_eq_true (by omega)
    go_enter Tryd.func46, Tryd.ntmps46
    go_wp2
    go_ret
    exact ⟨by rw [HB.out]; rfl, rfl⟩
  · have HB : Hid (isDig n = false) := Lib.hid (by simp [isDig]; omega)
    have h3 : decide ((n : Int) ≤ 57) = false := decide_eq_false (by omega)
    go_enter Tryd.func46, Tryd.ntmps46
    go_wp2
    go_ret
    exact ⟨by rw [HB.out]; rfl, rfl⟩

theorem isLetter_walk (n : Nat) (h : n < 256) (w : World) :
    Calls Tryd.prog 47 #[.int .u8 n] w fun e w' => e = .returned (.bool (isLet n)) ∧ w = w' := by
  have H : n ≤ 64 ∨ (65 ≤ n ∧ n ≤ 90) ∨ (91 ≤ n ∧ n ≤ 96) ∨ (97 ≤ n ∧ n ≤ 122) ∨ 123 ≤ n := by omega
  rcases H with h1 | ⟨h1, h2⟩ | ⟨h1, h2⟩ | ⟨h1, h2⟩ | h1
  · have HB : Hid (isLet n = false) := Lib.hid (by simp [isLet]; omega)
    go_enter Tryd.func47, Tryd.ntmps47
    go_wp2
    go_ret
    exact ⟨by rw [HB.out]; rfl, rfl⟩
  · have HB : Hid (isLet n = true) := Lib.hid (by simp [isLet]; omega)
    have h3 : decide ((n : Int) ≤ 90) = true := decide_eq_true (by omega)
    go_enter Tryd.func47, Tryd.ntmps47
    go_wp2
    go_ret
    exact ⟨by rw [HB.out]; rfl, rfl⟩
  · have HB : Hid (isLet n = false) := Lib.hid (by simp [isLet]; omega)
    have h3 : decide ((n : Int) ≤ 90) = false := decide_eq_false (by omega)
    go_enter Tryd.func47, Tryd.ntmps47
    go_wp2
    go_ret
    exact ⟨by rw [HB.out]; rfl, rfl⟩
  · have HB : Hid (isLet n = true) := Lib.hid (by simp [isLet]; omega)
    have h3 : decide ((n : Int) ≤ 122) = true := decide_eq_true (by omega)
    go_enter Tryd.func47, Tryd.ntmps47
    go_wp2
    go_ret
    exact ⟨by rw [HB.out]; rfl, rfl⟩
  · have HB : Hid (isLet n = false) := Lib.hid (by simp [isLet]; omega)
    have h3 : decide ((n : Int) ≤ 122) = false := decide_eq_false (by omega)
    have h4 : decide ((n : Int) ≤ 90) = false := decide_eq_false (by omega)
    go_enter Tryd.func47, Tryd.ntmps47
    go_wp2
    go_ret
    exact ⟨by rw [HB.out]; rfl, rfl⟩

set_option maxRecDepth 100000 in
theorem isNumber_walk (s : ByteArray) (hs : s.size ≤ 9223372036854775807) (w : World) :
    Calls Tryd.prog 48 #[.string s] w fun e w' => e = .returned (.bool (Sem.digits s.data.toList)) ∧ w = w' := by
  go_enter Tryd.func48, Tryd.ntmps48
  go_wp2_with fail
  go_loop [6] (fun i => ∃ k : Nat, i = .int .i64 k ∧ k ≤ s.size ∧ Hid ((s.data.toList.take k).all Sem.dig = true)) (fun i => s.size - (intOf i).toNat)
  case atStart => exact ⟨0, rfl, Nat.zero_le _, Lib.hid rfl⟩
  case round =>
    obtain ⟨k, rfl, hk, HP⟩ := hrel
    by_cases hlt : k < s.size
    · have hb := (s[k]'hlt).toNat_lt
      cases hd : isDig (s[k]'hlt).toNat
      · have HN : Hid (Sem.digits s.data.toList = false) := Lib.hid (by
          unfold Sem.digits
          rw [Bool.and_eq_false_iff]; right
          rw [List.all_eq_false]
          exact ⟨s[k]'hlt, by rw [show s[k]'hlt = s.data.toList[k]'(by rw [← Lib.size_eq]; exact hlt) from rfl]; exact List.getElem_mem _, by rw [show Sem.dig (s[k]'hlt) = false from hd]; simp⟩)
        have hcon : ∀ w, Calls Tryd.prog 46 #[.int .u8 (s[k]'hlt).toNat] w fun e w' => e = .returned (.bool false) ∧ w = w' := fun w => by rw [← hd]; exact isDigit_walk _ hb w
        clear hd
        go_wp2_with (go_at_call 46; refine (hcon _).mono ?_; rintro e w' ⟨rfl, rfl⟩)
        go_ret
        exact ⟨by rw [HN.out]; rfl, rfl⟩
      · have HN : Hid ((s.data.toList.take (k + 1)).all Sem.dig = true) := Lib.hid (by rw [all_dig_next hlt, HP.out, show Sem.dig (s[k]'hlt) = true from hd]; rfl)
        have hcon : ∀ w, Calls Tryd.prog 46 #[.int .u8 (s[k]'hlt).toNat] w fun e w' => e = .returned (.bool true) ∧ w = w' := fun w => by rw [← hd]; exact isDigit_walk _ hb w
        clear hd
        go_wp2_with (go_at_call 46; refine (hcon _).mono ?_; rintro e w' ⟨rfl, rfl⟩)
        go_round
        case rel => exact ⟨k + 1, by go_num, by omega, HN⟩
        case measure => simp [intOf]; omega
    · have hall : s.data.toList.all Sem.dig = true := by have := HP.out; rwa [List.take_of_length_le (by rw [← Lib.size_eq]; omega)] at this
      have HN : Hid (Sem.digits s.data.toList = !s.toList.isEmpty) := Lib.hid (by unfold Sem.digits; rw [hall, Bool.and_true, tx_list])
      clear hall
      go_wp2
      go_ret
      exact ⟨by rw [HN.out]; rfl, rfl⟩
end Go.Proofs.YtifblpbikngjeaaDoor
