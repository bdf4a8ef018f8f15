/- The plain mathematics of layer 1, third part: the bytes of numbers stand in the order of the numbers, and none begins with another's. -/
import Derived.Test.YtjaephhnaocpcaaOctMath
import GoSem.Op.String
namespace Go.Proofs.Ytjaephhnaocpcaa.Oct

theorem less_irrefl : ∀ l : List UInt8, Op.bytesLess l l = false
  | [] => rfl
  | a :: l => by
    rw [Op.bytesLess, less_irrefl l]
    simp

theorem less_val : ∀ l m : List UInt8, l.length = m.length → Op.bytesLess l m = decide (val l < val m)
  | [], [], _ => rfl
  | a :: l, b :: m, h => by
    have hl : l.length = m.length := by simpa using h
    have h1 := val_lt l
    have h2 := val_lt m
    rw [Op.bytesLess, less_val l m hl, val_cons, val_cons, hl]
    rw [hl] at h1
    rcases Nat.lt_trichotomy a.toNat b.toNat with h3 | h3 | h3
    · have e1 : (a < b) = True := by simp [UInt8.lt_iff_toNat_lt, h3]
      have e2 : a.toNat * 256 ^ m.length + val l < b.toNat * 256 ^ m.length + val m := by
        have := Nat.mul_le_mul_right (256 ^ m.length) h3
        rw [Nat.succ_mul] at this
        omega
      simp [e1, e2]
    · have e0 : a = b := UInt8.toNat_inj.1 h3
      subst e0
      simp
    · have e1 : ¬ a < b := by rw [UInt8.lt_iff_toNat_lt]; omega
      have e2 : ¬ a = b := by intro e; subst e; omega
      have e3 : ¬ a.toNat * 256 ^ m.length + val l < b.toNat * 256 ^ m.length + val m := by
        have := Nat.mul_le_mul_right (256 ^ m.length) h3
        rw [Nat.succ_mul] at this
        omega
      simp [e1, e2, e3]

theorem less_be (k a b : Nat) (ha : a < 256 ^ k) (hb : b < 256 ^ k) : Op.bytesLess (be k a) (be k b) = decide (a < b) := by
  rw [less_val _ _ (by rw [be_length, be_length]), val_be k a ha, val_be k b hb]

theorem less_num (a b : Nat) (ha : a < 18446744073709551616) (hb : b < 18446744073709551616) : Op.bytesLess (num a) (num b) = decide (a < b) := by
  unfold num
  by_cases h1 : a ≤ 247 <;> by_cases h2 : b ≤ 247
  · rw [if_pos h1, if_pos h2, less_val [UInt8.ofNat a] [UInt8.ofNat b] rfl]
    simp [val]
    rw [Nat.mod_eq_of_lt (by omega), Nat.mod_eq_of_lt (by omega)]
  · rw [if_pos h1, if_neg h2]
    have h8 := wid_spec b (by omega) hb
    have hh := hd_toNat (wid b) h8.2.2.2
    have e1 : UInt8.ofNat a < hd (wid b) := by
      rw [UInt8.lt_iff_toNat_lt, hh, UInt8.toNat_ofNat']
      omega
    simp [Op.bytesLess, e1]
    omega
  · rw [if_neg h1, if_pos h2]
    have h8 := wid_spec a (by omega) ha
    have hh := hd_toNat (wid a) h8.2.2.2
    have e1 : ¬ hd (wid a) < UInt8.ofNat b := by
      rw [UInt8.lt_iff_toNat_lt, hh, UInt8.toNat_ofNat']
      omega
    simp [Op.bytesLess, e1]
    omega
  · rw [if_neg h1, if_neg h2]
    have wa := wid_spec a (by omega) ha
    have wb := wid_spec b (by omega) hb
    have hha := hd_toNat (wid a) wa.2.2.2
    have hhb := hd_toNat (wid b) wb.2.2.2
    rcases Nat.lt_trichotomy (wid a) (wid b) with h3 | h3 | h3
    · have e1 : hd (wid a) < hd (wid b) := by rw [UInt8.lt_iff_toNat_lt]; omega
      have e2 : a < b := Nat.lt_of_lt_of_le wa.1 (Nat.le_trans (Nat.pow_le_pow_right (by omega) (by omega)) wb.2.1)
      simp [Op.bytesLess, e1, e2]
    · rw [h3, Op.bytesLess, less_be (wid b) a b (by rw [← h3]; exact wa.1) wb.1]
      simp
    · have e1 : ¬ hd (wid a) < hd (wid b) := by rw [UInt8.lt_iff_toNat_lt]; omega
      have e0 : ¬ hd (wid a) = hd (wid b) := by intro e; have := congrArg UInt8.toNat e; omega
      have e2 : b < a := Nat.lt_of_lt_of_le wb.1 (Nat.le_trans (Nat.pow_le_pow_right (by omega) (by omega)) wa.2.1)
      have e3 : ¬ a < b := by omega
      simp [Op.bytesLess, e1, e0, e3]

theorem num_inj (a b : Nat) (ha : a < 18446744073709551616) (hb : b < 18446744073709551616) (h : num a = num b) : a = b := by
  have h1 := less_num a b ha hb
  have h2 := less_num b a hb ha
  rw [h, less_irrefl] at h1 h2
  have h1' : ¬ a < b := by simpa using h1.symm
  have h2' : ¬ b < a := by simpa using h2.symm
  omega

/-- The first byte says how many follow. -/
theorem num_head (n : Nat) (h : n < 18446744073709551616) : ∃ b t, num n = b :: t ∧ t.length = b.toNat - 247 := by
  unfold num
  by_cases h1 : n ≤ 247
  · refine ⟨_, _, if_pos h1, ?_⟩
    rw [UInt8.toNat_ofNat']
    simp
    omega
  · refine ⟨_, _, if_neg h1, ?_⟩
    rw [hd_toNat _ (wid_spec n (by omega) h).2.2.2, be_length]
    omega

theorem num_ends (a b : Nat) (ha : a < 18446744073709551616) (hb : b < 18446744073709551616) (hne : a ≠ b) : (num b).take (num a).length ≠ num a := by
  intro h
  obtain ⟨x, t, h1, h2⟩ := num_head a ha
  obtain ⟨y, u, h3, h4⟩ := num_head b hb
  rw [h1, h3] at h
  rw [List.length_cons, List.take_succ_cons] at h
  injection h with h5 h6
  subst h5
  have h7 : u.length = t.length := by omega
  rw [← h7, List.take_length] at h6
  subst h6
  exact hne (num_inj a b ha hb (by rw [h1, h3]))
end Go.Proofs.Ytjaephhnaocpcaa.Oct
