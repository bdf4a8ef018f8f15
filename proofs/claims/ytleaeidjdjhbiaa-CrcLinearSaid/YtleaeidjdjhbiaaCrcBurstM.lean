/- The plain mathematics of bursts: bits of a text turned within 32 places of each other. -/
import Derived.Test.YtleaeidjdjhbiaaCrcMath
namespace Go.Proofs.Ytleaeidjdjhbiaa.Crc

theorem bits8_get (b t : Nat) (h : t < (bits8 b).length) : (bits8 b)[t] = b / 2 ^ t % 2 := by
  match t, h with
  | 0, _ => simp [bits8]
  | 1, _ => rfl
  | 2, _ => rfl
  | 3, _ => rfl
  | 4, _ => rfl
  | 5, _ => rfl
  | 6, _ => rfl
  | 7, _ => rfl

theorem bitsOf_get : ∀ (l : List UInt8) (j : Nat) (h : j < (bitsOf l).length) (h' : j / 8 < l.length), (bitsOf l)[j] = (l[j / 8]'h').toNat / 2 ^ (j % 8) % 2
  | b :: l, j, h, h' => by
    have h8 : (bits8 b.toNat).length = 8 := rfl
    simp only [bitsOf]
    by_cases hj : j < 8
    · rw [List.getElem_append_left (by omega), bits8_get]
      have e : j / 8 = 0 := by omega
      simp only [e, List.getElem_cons_zero, Nat.mod_eq_of_lt hj]
    · rw [List.getElem_append_right (by omega)]
      have hl := bitsOf_length l
      have hl2 : j - 8 < (bitsOf l).length := by
        have := h
        rw [bitsOf, List.length_append] at this
        omega
      have h1 := bitsOf_get l (j - 8) hl2 (by omega)
      simp only [h8]
      rw [h1]
      have e : j / 8 = (j - 8) / 8 + 1 := by omega
      have e2 : (j - 8) % 8 = j % 8 := by omega
      simp only [e, e2, List.getElem_cons_succ]

/-- One bit of a text turned (none, if it is not there). -/
def flip (l : List UInt8) (j : Nat) : List UInt8 := l.modify (j / 8) fun b => UInt8.ofNat (b.toNat ^^^ 2 ^ (j % 8))

theorem flip_length (l : List UInt8) (j : Nat) : (flip l j).length = l.length := by simp [flip]

theorem bit_turned (b t m : Nat) : (b ^^^ 2 ^ t) / 2 ^ m % 2 = (b / 2 ^ m % 2) ^^^ (if m = t then 1 else 0) := by
  rw [Nat.xor_div_two_pow, xor_mod]
  congr 1
  by_cases h : m = t
  · subst h
    rw [Nat.div_self (Nat.pow_pos (by omega)), if_pos rfl]
  · rw [if_neg h]
    rcases Nat.lt_or_gt_of_ne h with h1 | h1
    · obtain ⟨d, rfl⟩ : ∃ d, t = m + (d + 1) := ⟨t - m - 1, by omega⟩
      rw [Nat.pow_add, Nat.mul_div_cancel_left _ (Nat.pow_pos (by omega)), Nat.pow_succ]
      omega
    · rw [Nat.div_eq_of_lt (Nat.pow_lt_pow_right (by omega) h1)]

theorem flip_get (l : List UInt8) (j i : Nat) (hi : i < 8 * l.length) :
    (bitsOf (flip l j))[i]'(by rw [bitsOf_length, flip_length]; exact hi) = (bitsOf l)[i]'(by rw [bitsOf_length]; exact hi) ^^^ (if i = j then 1 else 0) := by
  rw [bitsOf_get _ _ _ (by rw [flip_length]; omega), bitsOf_get _ _ _ (by omega)]
  have hb := (l[i / 8]'(by omega)).toNat_lt
  have hx : (l[i / 8]'(by omega)).toNat ^^^ 2 ^ (j % 8) < 2 ^ 8 := Nat.xor_lt_two_pow hb (Nat.pow_lt_pow_right (by omega) (by omega))
  simp only [flip, List.getElem_modify]
  by_cases h : j / 8 = i / 8
  · rw [if_pos h, UInt8.toNat_ofNat', Nat.mod_eq_of_lt hx, bit_turned]
    congr 1
    by_cases h2 : i = j
    · rw [if_pos h2, if_pos (by omega)]
    · rw [if_neg h2, if_neg (by omega)]
  · rw [if_neg h, if_neg (by intro e; exact h (by rw [e])), xor_zero]

/-- The text behind k rounds. -/
def turned (l : List UInt8) (p : Nat) (m : Nat) : Nat → List UInt8
  | 0 => l
  | k + 1 => if m.testBit k ∧ (p + k) / 8 < l.length then flip (turned l p m k) (p + k) else turned l p m k

/-- Has a bit been met? -/
def met (n p m : Nat) : Nat → Bool
  | 0 => false
  | k + 1 => if m.testBit k ∧ (p + k) / 8 < n then true else met n p m k

theorem turned_length (l : List UInt8) (p m : Nat) : ∀ k, (turned l p m k).length = l.length
  | 0 => rfl
  | k + 1 => by
    rw [turned]
    split
    · rw [flip_length, turned_length l p m k]
    · exact turned_length l p m k

theorem turned_get (l : List UInt8) (p m : Nat) : ∀ (k i : Nat) (hi : i < 8 * l.length),
    (bitsOf (turned l p m k))[i]'(by rw [bitsOf_length, turned_length]; exact hi) = (bitsOf l)[i]'(by rw [bitsOf_length]; exact hi) ^^^ (if p ≤ i ∧ i < p + k ∧ m.testBit (i - p) then 1 else 0)
  | 0, i, hi => by
    rw [if_neg (by omega), xor_zero]
    rfl
  | k + 1, i, hi => by
    have ih := turned_get l p m k i hi
    have hlen := turned_length l p m k
    by_cases h : m.testBit k ∧ (p + k) / 8 < l.length
    · have e : turned l p m (k + 1) = flip (turned l p m k) (p + k) := by rw [turned, if_pos h]
      simp only [e]
      rw [flip_get _ _ _ (by rw [hlen]; exact hi), ih, Nat.xor_assoc]
      congr 1
      by_cases h2 : i = p + k
      · subst h2
        rw [if_neg (by omega), if_pos rfl, if_pos ⟨by omega, by omega, by rw [show p + k - p = k from by omega]; exact h.1⟩]
        decide
      · rw [if_neg h2, xor_zero]
        by_cases h3 : p ≤ i ∧ i < p + k ∧ m.testBit (i - p)
        · rw [if_pos h3, if_pos ⟨h3.1, by omega, h3.2.2⟩]
        · rw [if_neg h3, if_neg (fun h4 => h3 ⟨h4.1, by omega, h4.2.2⟩)]
    · have e : turned l p m (k + 1) = turned l p m k := by rw [turned, if_neg h]
      simp only [e]
      rw [ih]
      congr 1
      by_cases h3 : p ≤ i ∧ i < p + k ∧ m.testBit (i - p)
      · rw [if_pos h3, if_pos ⟨h3.1, by omega, h3.2.2⟩]
      · rw [if_neg h3, if_neg (fun h4 => ?_)]
        by_cases h5 : i = p + k
        · subst h5
          rw [show p + k - p = k from by omega] at h4
          exact h ⟨h4.2.2, by omega⟩
        · exact h3 ⟨h4.1, by omega, h4.2.2⟩

theorem met_iff (n p m : Nat) : ∀ k, met n p m k = true ↔ ∃ i, i < k ∧ m.testBit i ∧ (p + i) / 8 < n
  | 0 => by simp [met]
  | k + 1 => by
    rw [met]
    by_cases h : m.testBit k ∧ (p + k) / 8 < n
    · rw [if_pos h]
      exact ⟨fun _ => ⟨k, by omega, h⟩, fun _ => rfl⟩
    · rw [if_neg h, met_iff n p m k]
      constructor
      · rintro ⟨i, hi, h1⟩
        exact ⟨i, by omega, h1⟩
      · rintro ⟨i, hi, h1⟩
        by_cases e : i = k
        · subst e; exact absurd h1 h
        · exact ⟨i, by omega, h1⟩

theorem not_met (l : List UInt8) (p m : Nat) : ∀ k, met l.length p m k = false → turned l p m k = l
  | 0, _ => rfl
  | k + 1, h => by
    rw [met] at h
    by_cases h1 : m.testBit k ∧ (p + k) / 8 < l.length
    · rw [if_pos h1] at h; simp at h
    · rw [if_neg h1] at h
      rw [turned, if_neg h1]
      exact not_met l p m k h

/-- A burst is told by the sum. -/
theorem burst (l : List UInt8) (p m : Nat) (h : met l.length p m 32 = true) : sum (turned l p m 32) ≠ sum l := by
  have hlen := turned_length l p m 32
  have h1 := behind_lt 4294967295 l (by omega)
  have h2 := behind_lt 4294967295 (turned l p m 32) (by omega)
  intro he
  have he2 : behind 4294967295 (turned l p m 32) = behind 4294967295 l := by unfold sum at he; omega
  have hx := run_xor (bitsOf l) (bitsOf (turned l p m 32)) 4294967295 4294967295 (by rw [bitsOf_length, bitsOf_length, hlen]) (bitsOf_lt _) (bitsOf_lt _)
  have hz : run (4294967295 ^^^ 4294967295) (List.zipWith (· ^^^ ·) (bitsOf l) (bitsOf (turned l p m 32))) = 0 := by
    rw [hx]
    show behind _ l ^^^ behind _ (turned l p m 32) = 0
    rw [he2, Nat.xor_self]
  rw [Nat.xor_self] at hz
  have hget : ∀ (j : Nat) (hj : j < (List.zipWith (· ^^^ ·) (bitsOf l) (bitsOf (turned l p m 32))).length), (List.zipWith (· ^^^ ·) (bitsOf l) (bitsOf (turned l p m 32)))[j] = if p ≤ j ∧ j < p + 32 ∧ m.testBit (j - p) then 1 else 0 := by
    intro j hj
    rw [List.getElem_zipWith, turned_get l p m 32 j (by rw [List.length_zipWith, bitsOf_length] at hj; omega), ← Nat.xor_assoc, Nat.xor_self]
    split <;> rfl
  obtain ⟨i, hi, hb, hn⟩ := (met_iff l.length p m 32).1 h
  refine run_burst _ p ?_ ?_ ?_ hz
  · intro b hbm
    obtain ⟨j, hj, rfl⟩ := List.mem_iff_getElem.1 hbm
    rw [hget j hj]
    split <;> omega
  · intro j hj hne
    rw [hget j hj] at hne
    by_cases hc : p ≤ j ∧ j < p + 32 ∧ m.testBit (j - p)
    · exact ⟨hc.1, hc.2.1⟩
    · rw [if_neg hc] at hne; omega
  · have hj : p + i < (List.zipWith (· ^^^ ·) (bitsOf l) (bitsOf (turned l p m 32))).length := by
      rw [List.length_zipWith, bitsOf_length, bitsOf_length, hlen]; omega
    refine ⟨p + i, hj, ?_⟩
    rw [hget _ hj, if_pos ⟨by omega, by omega, by rw [show p + i - p = i from by omega]; exact hb⟩]
    omega

theorem burst_iff (l : List UInt8) (p m : Nat) : (sum (turned l p m 32) != sum l) = met l.length p m 32 := by
  cases h : met l.length p m 32
  · rw [not_met l p m 32 h]; simp
  · exact bne_iff_ne.2 (burst l p m h)

/-! ### The sums of three texts and of their exclusive or -/

theorem bits8_xor (a b : Nat) : bits8 (a ^^^ b) = List.zipWith (· ^^^ ·) (bits8 a) (bits8 b) := by
  have h : ∀ k, (a ^^^ b) / 2 ^ k % 2 = (a / 2 ^ k % 2) ^^^ (b / 2 ^ k % 2) := fun k => by rw [Nat.xor_div_two_pow, xor_mod]
  have h0 := h 0
  simp only [Nat.pow_zero, Nat.div_one] at h0
  simp only [bits8, List.zipWith_cons_cons, List.zipWith_nil_left]
  rw [h0, h 1, h 2, h 3, h 4, h 5, h 6, h 7]

theorem bitsOf_xor : ∀ (l m : List UInt8), l.length = m.length → bitsOf (List.zipWith (· ^^^ ·) l m) = List.zipWith (· ^^^ ·) (bitsOf l) (bitsOf m)
  | [], [], _ => rfl
  | a :: l, b :: m, h => by
    rw [List.zipWith_cons_cons, bitsOf, bitsOf, bitsOf, List.zipWith_append (by rfl), bitsOf_xor l m (by simpa using h), UInt8.toNat_xor, bits8_xor]

theorem behind_xor (r s : Nat) (l m : List UInt8) (h : l.length = m.length) : behind (r ^^^ s) (List.zipWith (· ^^^ ·) l m) = behind r l ^^^ behind s m := by
  rw [behind, bitsOf_xor l m h]
  exact run_xor _ _ _ _ (by rw [bitsOf_length, bitsOf_length, h]) (bitsOf_lt _) (bitsOf_lt _)

theorem linear (a b c : List UInt8) (h1 : a.length = b.length) (h2 : b.length = c.length) :
    ((sum a ^^^ sum b) ^^^ sum c) ^^^ sum (List.zipWith (· ^^^ ·) (List.zipWith (· ^^^ ·) a b) c) = 0 := by
  have la := behind_lt 4294967295 a (by omega)
  have lb := behind_lt 4294967295 b (by omega)
  have lc := behind_lt 4294967295 c (by omega)
  have ld := behind_lt 4294967295 (List.zipWith (· ^^^ ·) (List.zipWith (· ^^^ ·) a b) c) (by omega)
  have e : behind ((4294967295 ^^^ 4294967295) ^^^ 4294967295) (List.zipWith (· ^^^ ·) (List.zipWith (· ^^^ ·) a b) c) = (behind 4294967295 a ^^^ behind 4294967295 b) ^^^ behind 4294967295 c := by
    rw [behind_xor _ _ _ _ (by rw [List.length_zipWith]; omega), behind_xor _ _ _ _ h1]
  have e2 : (4294967295 ^^^ 4294967295) ^^^ 4294967295 = 4294967295 := by decide
  rw [e2] at e
  rw [sum, sum, sum, sum, all_ones _ la, all_ones _ lb, all_ones _ lc, all_ones _ ld, e]
  apply Nat.eq_of_testBit_eq
  intro i
  simp only [Nat.testBit_xor, Nat.zero_testBit]
  cases (4294967295 : Nat).testBit i <;> cases (behind 4294967295 a).testBit i <;> cases (behind 4294967295 b).testBit i <;> cases (behind 4294967295 c).testBit i <;> rfl
end Go.Proofs.Ytleaeidjdjhbiaa.Crc
