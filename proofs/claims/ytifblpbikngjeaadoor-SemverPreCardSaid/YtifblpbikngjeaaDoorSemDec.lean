/- The document's Digits: a number in decimal. -/
import Derived.Test.YtifblpbikngjeaaDoorSemSmall
namespace Go.Proofs.YtifblpbikngjeaaDoor
open Go.RowKit
set_option linter.unusedVariables false

/-- The byte of a digit. -/
def digB (d : Nat) : UInt8 := UInt8.ofNat (48 + d)

set_option maxRecDepth 100000 in
/-- One digit out of "0123456789". -/
theorem one_digit (d : Nat) (h : d < 10) (W : World) :
    (Instr.slice 9 (.string ⟨#[48, 49, 50, 51, 52, 53, 54, 55, 56, 57]⟩) (some (.int .i64 d)) (some (.int .i64 (d + 1))) none).run Tryd.prog W = .ok (.string ⟨[digB d].toArray⟩) W := by
  have hz : (⟨#[48, 49, 50, 51, 52, 53, 54, 55, 56, 57]⟩ : ByteArray).size = 10 := by decide
  have := slice_mid ⟨#[48, 49, 50, 51, 52, 53, 54, 55, 56, 57]⟩ d (d + 1) (by omega) (by rw [hz]; omega) W
  rw [this, show ((d : Int) + 1).toNat - d = 1 from by omega]
  have e : (([48, 49, 50, 51, 52, 53, 54, 55, 56, 57] : List UInt8).drop d).take 1 = [digB d] := by
    match d, h with
    | 0, _ => rfl
    | 1, _ => rfl
    | 2, _ => rfl
    | 3, _ => rfl
    | 4, _ => rfl
    | 5, _ => rfl
    | 6, _ => rfl
    | 7, _ => rfl
    | 8, _ => rfl
    | 9, _ => rfl
  exact congrArg (fun l : List UInt8 => Result.ok (Value.string ⟨l.toArray⟩) W) e

set_option maxRecDepth 100000 in
theorem dec_walk (N : Nat) (h : N ≤ 999999) (w : World) :
    Calls Tryd.prog 28 #[.int .i64 N] w fun e w' => e = .returned (.string ⟨(Sem.dec N).toArray⟩) ∧ w = w' := by
  obtain ⟨d, hd⟩ : ∃ d : Nat, (N : Int) % 10 = d := ⟨N % 10, by omega⟩
  have hd9 : d < 10 := by omega
  have hsl := one_digit d hd9
  have HD : Hid (Sem.dec N = Sem.ahead N ++ [digB d]) := Lib.hid (by rw [Sem.dec_last, show N % 10 = d from by omega]; rfl)
  go_enter Tryd.func28, Tryd.ntmps28
  go_wp2_with fail
  clear hsl
  go_loop [0, 3, 4] (fun n d o => ∃ (m : Nat) (x : Int) (out : List UInt8), n = .int .i64 m ∧ d = .int .i64 x ∧ o = .string ⟨out.toArray⟩ ∧ out.length + m ≤ N + 1 ∧ Hid (Sem.dec N = Sem.ahead m ++ out))
    (fun n _ _ => (intOf n).toNat)
  case atStart => exact ⟨N, _, _, rfl, rfl, rfl, by simp; omega, HD⟩
  case round =>
    clear hd HD hd9
    obtain ⟨m, x, out, rfl, rfl, rfl, hm, HM⟩ := hrel
    by_cases hlt : 10 ≤ m
    · obtain ⟨c, hc⟩ : ∃ c : Nat, (m : Int) / 10 % 10 = c := ⟨m / 10 % 10, by omega⟩
      have hc9 : c < 10 := by omega
      have hsl := one_digit c hc9
      have HN : Hid (Sem.dec N = Sem.ahead (m / 10) ++ (digB c :: out)) := Lib.hid (by
        rw [HM.out]
        have e : Sem.ahead m = Sem.dec (m / 10) := by unfold Sem.ahead; rw [if_neg (by omega)]
        rw [e, Sem.dec_last, show m / 10 % 10 = c from by omega, List.append_assoc]; rfl)
      have hol : out.length ≤ 1000000 := by omega
      go_wp2
      go_round
      case rel => exact ⟨m / 10, _, digB c :: out, by go_num, rfl, congrArg Value.string (tx_append [digB c] out), by simp; omega, HN⟩
      case measure => simp [intOf]; omega
    · have HN : Hid (Sem.dec N = out) := Lib.hid (by
        rw [HM.out]
        have e : Sem.ahead m = [] := by unfold Sem.ahead; rw [if_pos (by omega)]
        rw [e, List.nil_append])
      go_wp2
      go_ret
      exact ⟨by rw [HN.out]; rfl, rfl⟩
end Go.Proofs.YtifblpbikngjeaaDoor
