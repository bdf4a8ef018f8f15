/- The plain mathematics of layer 1: the bytes of a number, and what stands of numbers, texts and lists at a place of some bytes; no program is named here. -/
import Derived.Lib.BitFns
namespace Go.Proofs.Ytjaephhnaocpcaa.Oct

/-- n in k bytes, the highest first. -/
def be : Nat → Nat → List UInt8
  | 0, _ => []
  | k + 1, n => be k (n / 256) ++ [UInt8.ofNat n]

/-- How many bytes hold n. -/
def wid (n : Nat) : Nat := (Lib.bitLen n + 7) / 8

/-- The byte that says how many bytes follow. -/
def hd (k : Nat) : UInt8 := UInt8.ofNat (247 + k)

/-- A number's bytes. -/
def num (n : Nat) : List UInt8 := if n ≤ 247 then [UInt8.ofNat n] else hd (wid n) :: be (wid n) n

/-- The number that bytes say, the highest first. -/
def val (l : List UInt8) : Nat := l.foldl (fun a b => a * 256 + b.toNat) 0

theorem be_length : ∀ k n, (be k n).length = k
  | 0, _ => rfl
  | k + 1, n => by simp [be, be_length k]

theorem be_snoc (k n : Nat) : be (k + 1) n = be k (n / 256) ++ [UInt8.ofNat n] := rfl

theorem be_cons : ∀ k n, be (k + 1) n = UInt8.ofNat (n / 256 ^ k) :: be k n
  | 0, n => by simp [be]
  | k + 1, n => by
    rw [be_snoc, be_cons k (n / 256), be_snoc k n, Nat.div_div_eq_div_mul, ← Nat.pow_succ']
    rfl

theorem bitLen_lt : ∀ n, n < 2 ^ 64 → n < 2 ^ Lib.bitLen n ∧ (0 < n → 2 ^ (Lib.bitLen n - 1) ≤ n ∧ 0 < Lib.bitLen n) := by
  intro n
  induction n using Nat.strongRecOn with
  | ind n ih =>
    intro h
    by_cases h0 : n = 0
    · subst h0
      exact ⟨by decide, fun h => absurd h (by omega)⟩
    · have hh := Lib.bitLen_half n h0 h
      obtain ⟨h1, h2⟩ := ih (n / 2) (by omega) (by omega)
      rw [hh]
      refine ⟨?_, fun _ => ⟨?_, by omega⟩⟩
      · rw [Nat.add_comm, Nat.pow_succ]; omega
      · by_cases h3 : n / 2 = 0
        · rw [h3]; have : n = 1 := by omega
          subst this; decide
        · obtain ⟨h4, h5⟩ := h2 (by omega)
          rw [show 1 + Lib.bitLen (n / 2) - 1 = (Lib.bitLen (n / 2) - 1) + 1 from by omega, Nat.pow_succ]
          omega

theorem bitLen_le (n : Nat) (h : n < 2 ^ 64) : Lib.bitLen n ≤ 64 := by
  by_cases h0 : n = 0
  · subst h0; decide
  · obtain ⟨_, h2⟩ := bitLen_lt n h
    obtain ⟨h3, h4⟩ := h2 (by omega)
    have h5 : 2 ^ (Lib.bitLen n - 1) < 2 ^ 64 := Nat.lt_of_le_of_lt h3 h
    have := (Nat.pow_lt_pow_iff_right (a := 2) (by omega)).1 h5
    omega

theorem pow256 (k : Nat) : (256 : Nat) ^ k = 2 ^ (8 * k) := by rw [Nat.pow_mul]

theorem wid_spec (n : Nat) (h0 : 0 < n) (h : n < 2 ^ 64) : n < 256 ^ wid n ∧ 256 ^ (wid n - 1) ≤ n ∧ 1 ≤ wid n ∧ wid n ≤ 8 := by
  obtain ⟨h1, h2⟩ := bitLen_lt n h
  obtain ⟨h3, h4⟩ := h2 h0
  have h5 := bitLen_le n h
  unfold wid
  refine ⟨?_, ?_, by omega, by omega⟩
  · rw [pow256]
    exact Nat.lt_of_lt_of_le h1 (Nat.pow_le_pow_right (by omega) (by omega))
  · rw [pow256]
    exact Nat.le_trans (Nat.pow_le_pow_right (by omega) (by omega)) h3

theorem wid_unique (n k : Nat) (h0 : 0 < n) (h : n < 2 ^ 64) (h1 : n < 256 ^ k) (h2 : 256 ^ (k - 1) ≤ n) (hk : 1 ≤ k) : k = wid n := by
  obtain ⟨a, b, c, _⟩ := wid_spec n h0 h
  have x : k - 1 < wid n := (Nat.pow_lt_pow_iff_right (a := 256) (by omega)).1 (Nat.lt_of_le_of_lt h2 a)
  have y : wid n - 1 < k := (Nat.pow_lt_pow_iff_right (a := 256) (by omega)).1 (Nat.lt_of_le_of_lt b h1)
  omega

theorem num_length (n : Nat) : (num n).length = if n ≤ 247 then 1 else 1 + wid n := by
  unfold num
  by_cases h1 : n ≤ 247
  · simp [h1]
  · simp [h1, be_length]; omega

theorem hd_toNat (k : Nat) (h : k ≤ 8) : (hd k).toNat = 247 + k := by
  unfold hd
  rw [UInt8.toNat_ofNat']
  omega

theorem num_le9 (n : Nat) (h : n < 2 ^ 64) : 1 ≤ (num n).length ∧ (num n).length ≤ 9 := by
  rw [num_length n]
  split
  · omega
  · have := wid_spec n (by omega) h
    omega

theorem ba_append (a b : List UInt8) : (⟨a.toArray⟩ : ByteArray) ++ ⟨b.toArray⟩ = ⟨(a ++ b).toArray⟩ := by
  apply ByteArray.ext
  simp [ByteArray.data_append]

/-! ### What bytes say -/

theorem val_foldl : ∀ (l : List UInt8) (a : Nat), l.foldl (fun a b => a * 256 + b.toNat) a = a * 256 ^ l.length + val l
  | [], a => by simp [val]
  | b :: l, a => by
    have h1 := val_foldl l (a * 256 + b.toNat)
    have h2 := val_foldl l (0 * 256 + b.toNat)
    simp only [val, List.foldl_cons, List.length_cons] at *
    rw [h1, h2, Nat.pow_succ, Nat.add_mul, Nat.zero_mul, Nat.zero_add, Nat.mul_assoc, Nat.mul_comm 256, Nat.add_assoc]

theorem val_cons (b : UInt8) (l : List UInt8) : val (b :: l) = b.toNat * 256 ^ l.length + val l := by
  have := val_foldl l (0 * 256 + b.toNat)
  simp only [val, List.foldl_cons] at *
  rw [this, Nat.zero_mul, Nat.zero_add]

theorem val_snoc (l : List UInt8) (b : UInt8) : val (l ++ [b]) = val l * 256 + b.toNat := by simp [val]

theorem val_lt : ∀ l : List UInt8, val l < 256 ^ l.length
  | [] => by simp [val]
  | b :: l => by
    rw [val_cons, List.length_cons, Nat.pow_succ]
    have h1 := val_lt l
    have h2 := b.toNat_lt
    have h3 : b.toNat * 256 ^ l.length + 256 ^ l.length ≤ 256 * 256 ^ l.length := by
      rw [← Nat.succ_mul]; exact Nat.mul_le_mul_right _ h2
    rw [Nat.mul_comm] at h3
    rw [Nat.mul_comm (256 ^ l.length)] at h3 ⊢
    omega

theorem val_take_lt (l : List UInt8) (j : Nat) : val (l.take j) < 256 ^ j :=
  Nat.lt_of_lt_of_le (val_lt _) (Nat.pow_le_pow_right (by omega) (by rw [List.length_take]; omega))

theorem val_take_succ (l : List UInt8) (j : Nat) (h : j < l.length) : val (l.take (j + 1)) = val (l.take j) * 256 + (l[j]'h).toNat := by
  rw [List.take_succ_eq_append_getElem h, val_snoc]

theorem val_be : ∀ k n, n < 256 ^ k → val (be k n) = n
  | 0, n, h => by simp at h; subst h; rfl
  | k + 1, n, h => by
    rw [be_snoc, val_snoc, val_be k (n / 256) (by rw [Nat.pow_succ] at h; omega)]
    simp
    omega

theorem be_val_of : ∀ (k : Nat) (l : List UInt8), l.length = k → be k (val l) = l
  | 0, l, h => by rw [List.eq_nil_of_length_eq_zero h]; rfl
  | k + 1, l, h => by
    have hne : l ≠ [] := by intro e; subst e; simp at h
    have hd := List.dropLast_concat_getLast hne
    have hlen : l.dropLast.length = k := by rw [List.length_dropLast]; omega
    generalize l.getLast hne = b at hd
    generalize l.dropLast = m at hd hlen
    subst hd
    have hb := b.toNat_lt
    rw [val_snoc, be_snoc, show (val m * 256 + b.toNat) / 256 = val m from by omega, be_val_of k m hlen]
    congr 1
    congr 1
    apply UInt8.toNat_inj.1
    simp

theorem be_val (l : List UInt8) : be l.length (val l) = l := be_val_of _ l rfl

/-! ### What stands at a place: the number, the place behind it, the error (0: none; 2, 10, 11 as the document counts them) -/

def takeAt (l : List UInt8) (p : Nat) : Nat × Nat × Nat :=
  match l.drop p with
  | [] => (0, 0, 10)
  | b :: _ =>
    if b.toNat ≤ 247 then (b.toNat, p + 1, 0)
    else if l.length < p + 1 + (b.toNat - 247) then (0, 0, 10)
    else if num (val ((l.drop (p + 1)).take (b.toNat - 247))) = (l.drop p).take (b.toNat - 247 + 1) then (val ((l.drop (p + 1)).take (b.toNat - 247)), p + 1 + (b.toNat - 247), 0)
    else (0, 0, 11)

def takeNum (l : List UInt8) (p : Int) : Nat × Nat × Nat :=
  if p < 0 ∨ (l.length : Int) < p then (0, 0, 2) else takeAt l p.toNat

theorem takeNum_low {l : List UInt8} {p : Int} (h : p < 0) : takeNum l p = (0, 0, 2) := by rw [takeNum, if_pos (Or.inl h)]
theorem takeNum_high {l : List UInt8} {p : Int} (h : (l.length : Int) < p) : takeNum l p = (0, 0, 2) := by rw [takeNum, if_pos (Or.inr h)]
theorem takeNum_in {l : List UInt8} {p : Nat} (h : p ≤ l.length) : takeNum l p = takeAt l p := by
  rw [takeNum, if_neg (by omega), Int.toNat_natCast]
theorem takeNum_end (l : List UInt8) : takeNum l l.length = (0, 0, 10) := by
  rw [takeNum_in (Nat.le_refl _), takeAt, List.drop_length]
theorem takeNum_one {l : List UInt8} {p : Nat} (h : p < l.length) (hb : (l[p]'h).toNat ≤ 247) : takeNum l p = ((l[p]'h).toNat, p + 1, 0) := by
  rw [takeNum_in (by omega), takeAt, List.drop_eq_getElem_cons h]
  simp only [hb, if_true]
theorem takeNum_short {l : List UInt8} {p : Nat} (h : p < l.length) (hb : 247 < (l[p]'h).toNat) (hk : l.length < p + 1 + ((l[p]'h).toNat - 247)) : takeNum l p = (0, 0, 10) := by
  rw [takeNum_in (by omega), takeAt, List.drop_eq_getElem_cons h]
  simp only
  rw [if_neg (by omega), if_pos hk]
theorem takeNum_form {l : List UInt8} {p : Nat} (h : p < l.length) (hb : 247 < (l[p]'h).toNat) (hk : p + 1 + ((l[p]'h).toNat - 247) ≤ l.length)
    (hn : num (val ((l.drop (p + 1)).take ((l[p]'h).toNat - 247))) ≠ (l.drop p).take ((l[p]'h).toNat - 247 + 1)) : takeNum l p = (0, 0, 11) := by
  rw [takeNum_in (by omega), takeAt]
  rw [List.drop_eq_getElem_cons h] at hn ⊢
  simp only
  rw [if_neg (by omega), if_neg (by omega), if_neg hn]
theorem takeNum_ok {l : List UInt8} {p : Nat} (h : p < l.length) (hb : 247 < (l[p]'h).toNat) (hk : p + 1 + ((l[p]'h).toNat - 247) ≤ l.length)
    (hn : num (val ((l.drop (p + 1)).take ((l[p]'h).toNat - 247))) = (l.drop p).take ((l[p]'h).toNat - 247 + 1)) :
    takeNum l p = (val ((l.drop (p + 1)).take ((l[p]'h).toNat - 247)), p + 1 + ((l[p]'h).toNat - 247), 0) := by
  rw [takeNum_in (by omega), takeAt]
  rw [List.drop_eq_getElem_cons h] at hn ⊢
  simp only
  rw [if_neg (by omega), if_neg (by omega), if_pos hn]

/-! ### Texts and lists -/

def text (l : List UInt8) : List UInt8 := num l.length ++ l

/-- The texts, one behind the other. -/
def texts : List ByteArray → List UInt8
  | [] => []
  | s :: r => text s.data.toList ++ texts r

def list (ss : List ByteArray) : List UInt8 := num ss.length ++ texts ss

theorem texts_append : ∀ a b : List ByteArray, texts (a ++ b) = texts a ++ texts b
  | [], _ => rfl
  | s :: a, b => by simp [texts, texts_append a b]

theorem texts_snoc (a : List ByteArray) (s : ByteArray) : texts (a ++ [s]) = texts a ++ text s.data.toList := by
  rw [texts_append]; simp [texts]

theorem texts_take_le : ∀ (ss : List ByteArray) (i : Nat), (texts (ss.take i)).length ≤ (texts ss).length := by
  intro ss i
  conv => rhs; rw [← List.take_append_drop i ss, texts_append, List.length_append]
  omega

end Go.Proofs.Ytjaephhnaocpcaa.Oct
