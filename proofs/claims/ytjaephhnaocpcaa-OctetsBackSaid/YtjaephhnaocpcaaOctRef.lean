/- The document's answer lays a number's bytes: Oct.num. -/
import Derived.Test.YtjaephhnaocpcaaOctNum
namespace Go.Proofs.Ytjaephhnaocpcaa
open Go.RowKit

set_option maxHeartbeats 400000 in
theorem rnumber_small (n : Nat) (w : World) (h : n ≤ 247) :
    Calls Try.prog 11 #[.int .u64 n] w fun e w' => e = .returned (.string ⟨(Oct.num n).toArray⟩) ∧ Below w.heap.size w w' := by
  have hconv := conv_byte (n := n) w h
  go_enter Try.func11, Try.ntmps11
  go_wp2
  go_ret
  exact ⟨ret_str (by rw [Oct.num, if_pos h]), (Below.refl _ _).alloc (Nat.le_refl _) _⟩

theorem ref_digit (n j : Nat) (h0 : 0 < n) (h : n < 2 ^ 64) : (0 < n / 256 ^ j ↔ j < Oct.wid n) := by
  obtain ⟨a, b, c, d⟩ := Oct.wid_spec n h0 h
  constructor
  · intro hp
    have h1 : 256 ^ j ≤ n := by
      rcases Nat.lt_or_ge n (256 ^ j) with h' | h'
      · rw [Nat.div_eq_of_lt h'] at hp; omega
      · exact h'
    exact (Nat.pow_lt_pow_iff_right (a := 256) (by omega)).1 (Nat.lt_of_le_of_lt h1 a)
  · intro hj
    exact Nat.div_pos (Nat.le_trans (Nat.pow_le_pow_right (by omega) (by omega)) b) (Nat.pow_pos (by omega))

set_option maxHeartbeats 400000 in
theorem rnumber_big (n : Nat) (w : World) (h : 247 < n) (h2 : n < 18446744073709551616) :
    Calls Try.prog 11 #[.int .u64 n] w fun e w' => e = .returned (.string ⟨(Oct.num n).toArray⟩) ∧ Below w.heap.size w w' := by
  have hw8 : Oct.wid n ≤ 8 := (Oct.wid_spec n (by omega) h2).2.2.2
  go_enter Try.func11, Try.ntmps11
  go_wp2_with fail
  go_loopw [0, 3, 4] (fun m o k wr => ∃ j x : Nat, k = .int .i64 j ∧ m = .int .u64 x ∧ x < 18446744073709551616 ∧ Hid (x = n / 256 ^ j) ∧ o = .string ⟨(Oct.be j n).toArray⟩ ∧ j ≤ Oct.wid n ∧ Below w.heap.size w wr)
    (fun _ _ k _ => 8 - (intOf k).toNat)
  case atStart => exact ⟨0, n, rfl, rfl, h2, by rw [Nat.pow_zero, Nat.div_one]; exact Lib.hid rfl, rfl, by omega, Below.refl _ _⟩
  case round =>
    obtain ⟨j, x, rfl, rfl, hx2, HX, rfl, hj, hb⟩ := hrel
    have hlen : (Oct.be j n).length ≤ 8 := by rw [Oct.be_length]; omega
    have hd := ref_digit n j (by omega) h2
    rw [← HX.out] at hd
    have hsz := hb.size
    by_cases hx : 0 < x
    · have hconv := conv_rem (x := x) wr
      have hjw : j < Oct.wid n := hd.1 hx
      clear hd
      go_wp2
      go_roundw
      case rel =>
        refine ⟨j + 1, x / 256, by go_num, by go_num, by omega, Lib.hid (by rw [HX.out, Nat.div_div_eq_div_mul, ← Nat.pow_succ]), ?_, by omega, hb.alloc hsz _⟩
        rw [Oct.be_cons, ← HX.out]
        exact congrArg Value.string (Oct.ba_append [UInt8.ofNat x] (Oct.be j n))
      case measure => simp [intOf]; omega
    · have hjw : j = Oct.wid n := by
        have h3 : ¬ j < Oct.wid n := fun e => hx (hd.2 e)
        omega
      have hconv := conv_cell wr (Oct.hd (Oct.wid n)) (x := 247 + j) (by rw [Oct.hd_toNat _ hw8]; omega)
      have HJ := Lib.hid hjw
      clear hd hjw
      go_wp2
      go_ret
      refine ⟨?_, hb.alloc hsz _⟩
      rw [Oct.num, if_neg (by omega), ← HJ.out]
      exact congrArg (fun b => Ending.returned (Value.string b)) (Oct.ba_append [_] (Oct.be j n))

/-- Whatever the number: its bytes. -/
theorem rnumber (n : Nat) (w : World) (h : n < 18446744073709551616) :
    Calls Try.prog 11 #[.int .u64 n] w fun e w' => e = .returned (.string ⟨(Oct.num n).toArray⟩) ∧ Below w.heap.size w w' := by
  by_cases h1 : n ≤ 247
  · exact rnumber_small n w h1
  · exact rnumber_big n w (by omega) h

theorem number (n : Nat) (w : World) (h : n < 18446744073709551616) :
    Calls Try.prog 10 #[.int .u64 n] w fun e w' => e = .returned (.string ⟨(Oct.num n).toArray⟩) ∧ Below w.heap.size w w' := by
  by_cases h1 : n ≤ 247
  · exact number_small n w h1
  · exact number_big n w (by omega) h
end Go.Proofs.Ytjaephhnaocpcaa
