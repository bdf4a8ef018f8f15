/- The plain mathematics of layer 2: the register as a number; its steps are linear; a burst of up to 32 bits leaves a trace. No program is named here. -/
import Derived.Lib.Strings
namespace Go.Proofs.Ytleaeidjdjhbiaa.Crc

def poly : Nat := 2197175160

/-- A step of the register with a bit. -/
def step (r b : Nat) : Nat := if r % 2 = b then r / 2 else (r / 2) ^^^ poly

/-- A step with the bit 0. -/
def shift (y : Nat) : Nat := step y 0

/-- The register behind some bits. -/
def run (r : Nat) (bs : List Nat) : Nat := bs.foldl step r

theorem xor_zero (a : Nat) : a ^^^ 0 = a := by apply Nat.eq_of_testBit_eq; intro i; simp
theorem xor_swap (a b c d : Nat) : (a ^^^ b) ^^^ (c ^^^ d) = (a ^^^ c) ^^^ (b ^^^ d) := by
  apply Nat.eq_of_testBit_eq
  intro i
  simp only [Nat.testBit_xor]
  cases a.testBit i <;> cases b.testBit i <;> cases c.testBit i <;> cases d.testBit i <;> rfl
theorem xor_assoc (a b c : Nat) : (a ^^^ b) ^^^ c = a ^^^ (b ^^^ c) := Nat.xor_assoc a b c
theorem xor_mod (a b : Nat) : (a ^^^ b) % 2 = (a % 2) ^^^ (b % 2) := Nat.xor_mod_two_pow (n := 1)
theorem xor_cancel {a b : Nat} (h : a ^^^ b = 0) : a = b := by
  apply Nat.eq_of_testBit_eq
  intro i
  have := congrArg (·.testBit i) h
  simp only [Nat.testBit_xor, Nat.zero_testBit] at this
  cases ha : a.testBit i <;> cases hb : b.testBit i <;> simp_all

theorem shift_eq (y : Nat) : shift y = (y / 2) ^^^ (if y % 2 = 0 then 0 else poly) := by
  unfold shift step
  split
  · rw [xor_zero]
  · rfl

theorem step_eq (r b : Nat) (hb : b < 2) : step r b = shift (r ^^^ b) := by
  rw [shift_eq, Nat.xor_div_two, xor_mod, Nat.div_eq_of_lt hb, xor_zero, Nat.mod_eq_of_lt hb, step]
  have h2 : r % 2 < 2 := Nat.mod_lt _ (by omega)
  generalize r % 2 = t at h2
  match t, b, h2, hb with
  | 0, 0, _, _ => simp
  | 0, 1, _, _ => simp
  | 1, 0, _, _ => simp
  | 1, 1, _, _ => simp

theorem shift_xor (x y : Nat) : shift (x ^^^ y) = shift x ^^^ shift y := by
  rw [shift_eq, shift_eq, shift_eq, Nat.xor_div_two, xor_mod, xor_swap (x / 2)]
  congr 1
  have h1 : x % 2 < 2 := Nat.mod_lt _ (by omega)
  have h2 : y % 2 < 2 := Nat.mod_lt _ (by omega)
  generalize x % 2 = s at h1
  generalize y % 2 = t at h2
  match s, t, h1, h2 with
  | 0, 0, _, _ => rfl
  | 0, 1, _, _ => decide
  | 1, 0, _, _ => decide
  | 1, 1, _, _ => decide

theorem shift_two (y : Nat) : shift (2 * y) = y := by
  rw [shift_eq, if_pos (by omega), xor_zero]
  omega

theorem run_nil (r : Nat) : run r [] = r := rfl
theorem run_cons (r b : Nat) (bs : List Nat) : run r (b :: bs) = run (step r b) bs := rfl
theorem run_append (r : Nat) (a b : List Nat) : run r (a ++ b) = run (run r a) b := by simp [run]

theorem xor_lt2 {b c : Nat} (hb : b < 2) (hc : c < 2) : b ^^^ c < 2 := Nat.xor_lt_two_pow (n := 1) hb hc

/-- The register is linear. -/
theorem run_xor : ∀ (bs cs : List Nat) (r s : Nat), bs.length = cs.length → (∀ b ∈ bs, b < 2) → (∀ c ∈ cs, c < 2) →
    run (r ^^^ s) (List.zipWith (· ^^^ ·) bs cs) = run r bs ^^^ run s cs
  | [], [], r, s, _, _, _ => rfl
  | b :: bs, c :: cs, r, s, hl, hb, hc => by
    have hb0 := hb b (by simp)
    have hc0 := hc c (by simp)
    rw [List.zipWith_cons_cons, run_cons, run_cons, run_cons, step_eq _ _ (xor_lt2 hb0 hc0), step_eq _ _ hb0, step_eq _ _ hc0, xor_swap, shift_xor]
    exact run_xor bs cs _ _ (by simpa using hl) (fun x hx => hb x (by simp [hx])) (fun x hx => hc x (by simp [hx]))

/-! ### Bursts -/

def it : Nat → Nat → Nat
  | 0, x => x
  | m + 1, x => it m (shift x)

def word : List Nat → Nat
  | [] => 0
  | b :: bs => b + 2 * word bs

theorem word_xor (b w : Nat) (hb : b < 2) : b + 2 * w = b ^^^ (2 * w) := by
  have h1 : (b ^^^ (2 * w)) / 2 = w := by rw [Nat.xor_div_two, Nat.div_eq_of_lt hb, Nat.mul_div_cancel_left _ (by omega)]; simp
  have h2 : (b ^^^ (2 * w)) % 2 = b := by rw [xor_mod, Nat.mod_eq_of_lt hb, Nat.mul_mod_right, xor_zero]
  omega

theorem run_word : ∀ (bs : List Nat) (x : Nat), (∀ b ∈ bs, b < 2) → run x bs = it bs.length (x ^^^ word bs)
  | [], x, _ => by rw [word, xor_zero]; rfl
  | b :: bs, x, h => by
    have hb := h b (by simp)
    rw [run_cons, step_eq _ _ hb, run_word bs _ (fun y hy => h y (by simp [hy])), List.length_cons, it, word, word_xor b _ hb, ← xor_assoc, shift_xor (x ^^^ b), shift_two]

theorem word_lt : ∀ (bs : List Nat), (∀ b ∈ bs, b < 2) → word bs < 2 ^ bs.length
  | [], _ => by simp [word]
  | b :: bs, h => by
    have h1 := word_lt bs (fun y hy => h y (by simp [hy]))
    have h2 := h b (by simp)
    rw [word, List.length_cons, Nat.pow_succ]
    omega

theorem word_zero : ∀ (bs : List Nat), word bs = 0 → ∀ b ∈ bs, b = 0
  | b :: bs, h, x, hx => by
    rw [word] at h
    rcases List.mem_cons.1 hx with rfl | hx
    · omega
    · exact word_zero bs (by omega) x hx

theorem shift_ne (y : Nat) (h : y < 2 ^ 32) (h0 : y ≠ 0) : shift y ≠ 0 ∧ shift y < 2 ^ 32 := by
  rw [shift_eq]
  by_cases hy : y % 2 = 0
  · rw [if_pos hy, xor_zero]
    omega
  · rw [if_neg hy]
    refine ⟨fun e => ?_, ?_⟩
    · have := xor_cancel e
      unfold poly at this
      omega
    · exact Nat.xor_lt_two_pow (by omega) (by decide)

theorem it_ne : ∀ (m y : Nat), y < 2 ^ 32 → y ≠ 0 → it m y ≠ 0 ∧ it m y < 2 ^ 32
  | 0, y, h, h0 => ⟨h0, h⟩
  | m + 1, y, h, h0 => by
    obtain ⟨h1, h2⟩ := shift_ne y h h0
    exact it_ne m _ h2 h1

theorem run_zeros : ∀ (bs : List Nat) (x : Nat), (∀ b ∈ bs, b = 0) → run x bs = it bs.length x
  | [], _, _ => rfl
  | b :: bs, x, h => by
    have hb := h b (by simp)
    subst hb
    rw [run_cons, List.length_cons, it, run_zeros bs _ (fun y hy => h y (by simp [hy]))]
    rfl

theorem it_zero : ∀ m, it m 0 = 0
  | 0 => rfl
  | m + 1 => by rw [it]; exact it_zero m

/-- Bits of which only some within 32 places are not 0, and not all are 0. -/
theorem run_burst (e : List Nat) (p : Nat) (hb : ∀ b ∈ e, b < 2) (hw : ∀ (j : Nat) (h : j < e.length), e[j] ≠ 0 → p ≤ j ∧ j < p + 32) (hne : ∃ (j : Nat) (h : j < e.length), e[j] ≠ 0) : run 0 e ≠ 0 := by
  have h1 : e = e.take p ++ ((e.drop p).take 32 ++ (e.drop p).drop 32) := by rw [List.take_append_drop, List.take_append_drop]
  have hz1 : ∀ b ∈ e.take p, b = 0 := by
    intro b hbm
    obtain ⟨j, hj, rfl⟩ := List.mem_iff_getElem.1 hbm
    rw [List.getElem_take]
    rw [List.length_take] at hj
    by_cases h : e[j]'(by omega) = 0
    · exact h
    · have := hw j (by omega) h; omega
  have hz3 : ∀ b ∈ (e.drop p).drop 32, b = 0 := by
    intro b hbm
    obtain ⟨j, hj, rfl⟩ := List.mem_iff_getElem.1 hbm
    rw [List.getElem_drop, List.getElem_drop]
    rw [List.length_drop, List.length_drop] at hj
    by_cases h : e[p + (32 + j)]'(by omega) = 0
    · exact h
    · have := hw _ (by omega) h; omega
  have hb2 : ∀ b ∈ (e.drop p).take 32, b < 2 := fun b h => hb b (List.mem_of_mem_drop (List.mem_of_mem_take h))
  have hwn : word ((e.drop p).take 32) ≠ 0 := by
    intro h0
    have hz2 := word_zero _ h0
    obtain ⟨j, hj, hne⟩ := hne
    obtain ⟨h2, h3⟩ := hw j hj hne
    refine hne (hz2 _ ?_)
    refine List.mem_iff_getElem.2 ⟨j - p, by rw [List.length_take, List.length_drop]; omega, ?_⟩
    rw [List.getElem_take, List.getElem_drop]
    congr 1
    omega
  have hlt := word_lt _ hb2
  have hlen : ((e.drop p).take 32).length ≤ 32 := by rw [List.length_take]; omega
  have hlt2 : word ((e.drop p).take 32) < 2 ^ 32 := Nat.lt_of_lt_of_le hlt (Nat.pow_le_pow_right (by omega) hlen)
  rw [h1, run_append, run_append, run_zeros _ _ hz1, it_zero, run_word _ _ hb2, run_zeros _ _ hz3]
  have h4 : (0 : Nat) ^^^ word ((e.drop p).take 32) = word ((e.drop p).take 32) := by apply Nat.eq_of_testBit_eq; intro i; simp
  rw [h4]
  obtain ⟨h5, h6⟩ := it_ne ((e.drop p).take 32).length _ hlt2 hwn
  exact (it_ne _ _ h6 h5).1

/-! ### Bytes -/

def bits8 (b : Nat) : List Nat := [b % 2, b / 2 % 2, b / 4 % 2, b / 8 % 2, b / 16 % 2, b / 32 % 2, b / 64 % 2, b / 128 % 2]

def bitsOf : List UInt8 → List Nat
  | [] => []
  | b :: l => bits8 b.toNat ++ bitsOf l

/-- The register behind some bytes. -/
def behind (r : Nat) (l : List UInt8) : Nat := run r (bitsOf l)

def sum (l : List UInt8) : Nat := 4294967295 - behind 4294967295 l
def more (s : Nat) (l : List UInt8) : Nat := 4294967295 - behind (4294967295 - s) l

theorem bits8_lt (b : Nat) : ∀ x ∈ bits8 b, x < 2 := by
  intro x hx
  simp only [bits8, List.mem_cons, List.not_mem_nil, or_false] at hx
  rcases hx with rfl | rfl | rfl | rfl | rfl | rfl | rfl | rfl <;> exact Nat.mod_lt _ (by omega)

theorem bitsOf_lt : ∀ (l : List UInt8), ∀ x ∈ bitsOf l, x < 2
  | b :: l, x, hx => by
    rw [bitsOf] at hx
    rcases List.mem_append.1 hx with hx | hx
    · exact bits8_lt _ x hx
    · exact bitsOf_lt l x hx

theorem bitsOf_length : ∀ (l : List UInt8), (bitsOf l).length = 8 * l.length
  | [] => rfl
  | b :: l => by rw [bitsOf, List.length_append, bitsOf_length l, List.length_cons]; simp [bits8]; omega

theorem bitsOf_append : ∀ (a b : List UInt8), bitsOf (a ++ b) = bitsOf a ++ bitsOf b
  | [], _ => rfl
  | x :: a, b => by rw [List.cons_append, bitsOf, bitsOf, bitsOf_append a b, List.append_assoc]

theorem behind_append (r : Nat) (a b : List UInt8) : behind r (a ++ b) = behind (behind r a) b := by
  rw [behind, bitsOf_append, run_append]; rfl

theorem behind_snoc (r : Nat) (a : List UInt8) (x : UInt8) : behind r (a ++ [x]) = run (behind r a) (bits8 x.toNat) := by
  rw [behind_append]
  simp [behind, bitsOf]

/-- One bit more of a byte. -/
theorem bits8_next (r b k : Nat) (h : k < 8) : run r ((bits8 b).take (k + 1)) = step (run r ((bits8 b).take k)) (b / 2 ^ k % 2) := by
  match k, h with
  | 0, _ => simp [bits8, run]
  | 1, _ => rfl
  | 2, _ => rfl
  | 3, _ => rfl
  | 4, _ => rfl
  | 5, _ => rfl
  | 6, _ => rfl
  | 7, _ => rfl
theorem bits8_all (r b : Nat) : run r ((bits8 b).take 8) = run r (bits8 b) := rfl

theorem step_lt (r b : Nat) (h : r < 2 ^ 32) : step r b < 2 ^ 32 := by
  unfold step
  split
  · omega
  · exact Nat.xor_lt_two_pow (by omega) (by decide)

theorem run_lt : ∀ (bs : List Nat) (r : Nat), r < 2 ^ 32 → run r bs < 2 ^ 32
  | [], _, h => h
  | b :: bs, r, h => run_lt bs _ (step_lt r b h)

theorem behind_lt (r : Nat) (l : List UInt8) (h : r < 4294967296) : behind r l < 4294967296 := run_lt _ r h

theorem all_ones (x : Nat) (h : x < 4294967296) : 4294967295 - x = 4294967295 ^^^ x := by
  have h1 := Nat.testBit_two_pow_sub_succ (x := x) (n := 32) h
  apply Nat.eq_of_testBit_eq
  intro i
  have h2 := h1 i
  rw [show 2 ^ 32 - (x + 1) = 4294967295 - x from by omega] at h2
  rw [h2, Nat.testBit_xor, show 4294967295 = 2 ^ 32 - 1 from rfl, Nat.testBit_two_pow_sub_one]
  by_cases hi : i < 32
  · simp [hi]
  · have hp : (2 : Nat) ^ 32 ≤ 2 ^ i := Nat.pow_le_pow_right (by omega) (by omega)
    have hx : x.testBit i = false := Nat.testBit_lt_two_pow (Nat.lt_of_lt_of_le h hp)
    simp [hi, hx]

theorem more_sum (a b : List UInt8) : more (sum a) b = sum (a ++ b) := by
  have h := behind_lt 4294967295 a (by omega)
  rw [more, sum, sum, behind_append]
  congr 2
  omega

/-- The bytes of all parts, one behind the other. -/
def cat : List ByteArray → List UInt8
  | [] => []
  | s :: r => s.data.toList ++ cat r

theorem cat_snoc : ∀ (a : List ByteArray) (s : ByteArray), cat (a ++ [s]) = cat a ++ s.data.toList
  | [], s => by simp [cat]
  | x :: a, s => by rw [List.cons_append, cat, cat, cat_snoc a s, List.append_assoc]

theorem cat_append : ∀ a b : List ByteArray, cat (a ++ b) = cat a ++ cat b
  | [], _ => rfl
  | x :: a, b => by rw [List.cons_append, cat, cat, cat_append a b, List.append_assoc]

theorem cat_take (ss : List ByteArray) (k : Nat) : (cat (ss.take k)).length ≤ (cat ss).length := by
  conv => rhs; rw [← List.take_append_drop k ss, cat_append, List.length_append]
  omega

theorem sum_lt (l : List UInt8) : sum l < 4294967296 := by unfold sum; omega

end Go.Proofs.Ytleaeidjdjhbiaa.Crc
