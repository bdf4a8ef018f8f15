/- Mathematics of layer 3: code points and their bytes, what a text begins with, reading and places. -/
namespace Utf

/-- A code point. -/
def pt (p : Int) : Bool := decide (0 ≤ p) && decide (p ≤ 1114111) && (decide (p < 55296) || decide (57343 < p))

theorem pt_iff (p : Int) : pt p = true ↔ 0 ≤ p ∧ p ≤ 1114111 ∧ (p < 55296 ∨ 57343 < p) := by
  simp only [pt, Bool.and_eq_true, Bool.or_eq_true, decide_eq_true_eq]
  exact ⟨fun ⟨⟨a, b⟩, c⟩ => ⟨a, b, c⟩, fun ⟨a, b, c⟩ => ⟨⟨a, b⟩, c⟩⟩

def byte (x : Int) : UInt8 := UInt8.ofNat (x % 256).toNat

theorem byte_toNat (x : Int) : ((byte x).toNat : Int) = x % 256 := by
  have h1 : (UInt8.ofNat (x % 256).toNat).toNat = (x % 256).toNat % 256 := by simp
  unfold byte
  rw [h1]
  omega

theorem byte_eq {x : Int} {b : UInt8} (h : x = b.toNat) : byte x = b := by
  apply UInt8.toNat_inj.1
  have h1 := byte_toNat x
  have h2 := b.toNat_lt
  omega

/-- A code point's bytes. -/
def bytes (p : Int) : List UInt8 :=
  if p < 128 then [byte p]
  else if p < 2048 then [byte (192 + p / 64), byte (128 + p % 64)]
  else if p < 65536 then [byte (224 + p / 4096), byte (128 + p / 64 % 64), byte (128 + p % 64)]
  else [byte (240 + p / 262144), byte (128 + p / 4096 % 64), byte (128 + p / 64 % 64), byte (128 + p % 64)]

def width (p : Int) : Nat := if p < 128 then 1 else if p < 2048 then 2 else if p < 65536 then 3 else 4

theorem bytes_length (p : Int) : (bytes p).length = width p := by
  unfold bytes width; repeat (split <;> try rfl)

theorem width_pos (p : Int) : 1 ≤ width p ∧ width p ≤ 4 := by
  unfold width; repeat (split <;> try omega)

/-- How many bytes a first byte asks for, and its bits. -/
def lead (a : Nat) : Nat × Int :=
  if 240 ≤ a then (4, (a : Int) - 240) else if 224 ≤ a then (3, (a : Int) - 224) else if 192 ≤ a then (2, (a : Int) - 192) else (1, a)

theorem lead_pos (a : Nat) : 1 ≤ (lead a).1 ∧ (lead a).1 ≤ 4 := by
  unfold lead; repeat (split <;> try (simp))

/-- The number behind more bytes. -/
def val (p : Int) : List UInt8 → Int
  | [] => p
  | b :: r => val (p * 64 + b.toNat - 128) r

theorem val_snoc (p : Int) (l : List UInt8) (b : UInt8) : val p (l ++ [b]) = val p l * 64 + b.toNat - 128 := by
  induction l generalizing p with
  | nil => rfl
  | cons a r ih => exact ih _

theorem val_bound {p : Int} {l : List UInt8} (h0 : 0 ≤ p) (h1 : p ≤ 255) (hl : l.length ≤ 2) : -100000000 ≤ val p l ∧ val p l ≤ 100000000 := by
  match l, hl with
  | [], _ => simp only [val]; omega
  | [b], _ => have := b.toNat_lt; simp only [val]; omega
  | [b, c], _ => have := b.toNat_lt; have := c.toNat_lt; simp only [val]; omega

theorem lead_cases (a : Nat) : (a < 192 ∧ lead a = (1, (a : Int))) ∨ (192 ≤ a ∧ a < 224 ∧ lead a = (2, (a : Int) - 192)) ∨ (224 ≤ a ∧ a < 240 ∧ lead a = (3, (a : Int) - 224)) ∨ (240 ≤ a ∧ lead a = (4, (a : Int) - 240)) := by
  unfold lead
  by_cases h1 : 240 ≤ a
  · exact Or.inr (Or.inr (Or.inr ⟨h1, by rw [if_pos h1]⟩))
  · by_cases h2 : 224 ≤ a
    · exact Or.inr (Or.inr (Or.inl ⟨h2, by omega, by rw [if_neg h1, if_pos h2]⟩))
    · by_cases h3 : 192 ≤ a
      · exact Or.inr (Or.inl ⟨h3, by omega, by rw [if_neg h1, if_neg h2, if_pos h3]⟩)
      · exact Or.inl ⟨by omega, by rw [if_neg h1, if_neg h2, if_neg h3]⟩

/-- The code point whose bytes a text begins with, and how many these are; (0, 0): none's. -/
def first : List UInt8 → Int × Nat
  | [] => (0, 0)
  | a :: r =>
    if (lead a.toNat).1 ≤ r.length + 1 ∧ pt (val (lead a.toNat).2 (r.take ((lead a.toNat).1 - 1))) = true ∧
        bytes (val (lead a.toNat).2 (r.take ((lead a.toNat).1 - 1))) = (a :: r).take (lead a.toNat).1
    then (val (lead a.toNat).2 (r.take ((lead a.toNat).1 - 1)), (lead a.toNat).1) else (0, 0)

/-- What the bytes of a code point come to. -/
theorem val_bytes (p : Int) (h : pt p = true) : ∃ a r, bytes p = a :: r ∧ (lead a.toNat).1 = r.length + 1 ∧ val (lead a.toNat).2 r = p := by
  rw [pt_iff] at h
  obtain ⟨h0, h1, _⟩ := h
  unfold bytes
  split
  · refine ⟨_, _, rfl, ?_⟩
    have hb := byte_toNat p
    have : (lead (byte p).toNat) = (1, ((byte p).toNat : Int)) := by
      unfold lead; rw [if_neg (by omega), if_neg (by omega), if_neg (by omega)]
    rw [this]
    exact ⟨rfl, by simp only [val]; omega⟩
  · split
    · refine ⟨_, _, rfl, ?_⟩
      have hb := byte_toNat (192 + p / 64)
      have hc := byte_toNat (128 + p % 64)
      have : (lead (byte (192 + p / 64)).toNat) = (2, ((byte (192 + p / 64)).toNat : Int) - 192) := by
        unfold lead; rw [if_neg (by omega), if_neg (by omega), if_pos (by omega)]
      rw [this]
      exact ⟨rfl, by simp only [val]; omega⟩
    · split
      · refine ⟨_, _, rfl, ?_⟩
        have hb := byte_toNat (224 + p / 4096)
        have hc := byte_toNat (128 + p / 64 % 64)
        have hd := byte_toNat (128 + p % 64)
        have : (lead (byte (224 + p / 4096)).toNat) = (3, ((byte (224 + p / 4096)).toNat : Int) - 224) := by
          unfold lead; rw [if_neg (by omega), if_pos (by omega)]
        rw [this]
        exact ⟨rfl, by simp only [val]; omega⟩
      · refine ⟨_, _, rfl, ?_⟩
        have hb := byte_toNat (240 + p / 262144)
        have hc := byte_toNat (128 + p / 4096 % 64)
        have hd := byte_toNat (128 + p / 64 % 64)
        have he := byte_toNat (128 + p % 64)
        have : (lead (byte (240 + p / 262144)).toNat) = (4, ((byte (240 + p / 262144)).toNat : Int) - 240) := by
          unfold lead; rw [if_pos (by omega)]
        rw [this]
        exact ⟨rfl, by simp only [val]; omega⟩

/-- What the bytes of a code point are: the first one no more than 244 and none of those that go on, the others ones that go on. -/
theorem bytes_kind (p : Int) (h : pt p = true) : ∃ a r, bytes p = a :: r ∧ (a.toNat < 128 ∨ 194 ≤ a.toNat) ∧ a.toNat ≤ 244 ∧ ∀ b ∈ r, 128 ≤ b.toNat ∧ b.toNat < 192 := by
  rw [pt_iff] at h
  obtain ⟨h0, h1, _⟩ := h
  have ha := byte_toNat p
  have h2 := byte_toNat (192 + p / 64)
  have h3 := byte_toNat (224 + p / 4096)
  have h4 := byte_toNat (240 + p / 262144)
  have hb := byte_toNat (128 + p % 64)
  have hc := byte_toNat (128 + p / 64 % 64)
  have hd := byte_toNat (128 + p / 4096 % 64)
  unfold bytes
  split
  · exact ⟨_, _, rfl, by omega, by omega, by simp⟩
  · split
    · exact ⟨_, _, rfl, by omega, by omega, by intro b hb; simp at hb; subst hb; omega⟩
    · split
      · exact ⟨_, _, rfl, by omega, by omega, by intro b hb; simp at hb; rcases hb with rfl | rfl <;> omega⟩
      · exact ⟨_, _, rfl, by omega, by omega, by intro b hb; simp at hb; rcases hb with rfl | rfl | rfl <;> omega⟩

theorem first_bytes (p : Int) (h : pt p = true) (l : List UInt8) : first (bytes p ++ l) = (p, width p) := by
  obtain ⟨a, r, hb, hl, hv⟩ := val_bytes p h
  have hw := bytes_length p
  rw [hb] at hw ⊢
  rw [List.cons_append, first]
  have ht : (r ++ l).take ((lead a.toNat).1 - 1) = r := by rw [hl, Nat.add_sub_cancel, List.take_left]
  have h3 : bytes p = (a :: (r ++ l)).take (lead a.toNat).1 := by
    rw [hb, hl, ← List.cons_append, show r.length + 1 = (a :: r).length from rfl, List.take_left]
  rw [ht, hv, if_pos ⟨by rw [hl, List.length_append]; omega, h, h3⟩, hl, ← hw]
  rfl

theorem first_some {l : List UInt8} {p : Int} {n : Nat} (h : first l = (p, n)) (hn : n ≠ 0) : pt p = true ∧ n = width p ∧ l = bytes p ++ l.drop n ∧ n ≤ l.length := by
  match l, h with
  | [], h => simp [first] at h; omega
  | a :: r, h =>
    rw [first] at h
    split at h
    · rename_i hc
      obtain ⟨h1, h2, h3⟩ := hc
      simp only [Prod.mk.injEq] at h
      obtain ⟨hp, hm⟩ := h
      rw [hp] at h2 h3
      have hw := bytes_length p
      rw [h3, List.length_take, hm] at hw
      rw [hm] at h1 h3
      refine ⟨h2, by rw [← hw, List.length_cons]; omega, ?_, by rw [List.length_cons]; exact h1⟩
      rw [h3, List.take_append_drop]
    · simp at h; omega

theorem first_none {l : List UInt8} (h : (first l).2 = 0) : first l = (0, 0) := by
  match l, h with
  | [], _ => rfl
  | a :: r, h =>
    rw [first] at h ⊢
    split at h
    · have := lead_pos a.toNat; simp at h; omega
    · rename_i hc; rw [if_neg hc]

theorem first_no {l : List UInt8} (h : ∀ p m, pt p = true → l ≠ bytes p ++ m) : first l = (0, 0) := by
  rcases hf : first l with ⟨p, n⟩
  by_cases hn : n = 0
  · have := first_none (l := l) (by rw [hf]; exact hn)
    rw [← hf, this]
  · obtain ⟨h1, _, h2, _⟩ := first_some hf hn
    exact absurd h2 (h p _ h1)

/-- A code point's bytes that are cut begin none's. -/
theorem first_cut (p : Int) (h : pt p = true) (k : Nat) (hk : k < width p) : first ((bytes p).take k) = (0, 0) := by
  rcases hf : first ((bytes p).take k) with ⟨q, n⟩
  by_cases hn : n = 0
  · have := first_none (l := (bytes p).take k) (by rw [hf]; exact hn)
    rw [← hf, this]
  · obtain ⟨h1, h2, h3, h4⟩ := first_some hf hn
    exfalso
    have e1 := first_bytes q h1 (((bytes p).take k).drop n ++ (bytes p).drop k)
    rw [← List.append_assoc, ← h3, List.take_append_drop] at e1
    have e2 := first_bytes p h []
    rw [List.append_nil, e1] at e2
    simp only [Prod.mk.injEq] at e2
    rw [List.length_take] at h4
    omega

/-- What the program asks of the first byte. -/
def plead (a : Nat) : Int × Nat :=
  if a < 128 then ((a : Int), 1) else if a < 192 then (0, 0) else if a < 224 then ((a : Int) - 192, 2) else if a < 240 then ((a : Int) - 224, 3)
  else if a < 248 then ((a : Int) - 240, 4) else (0, 0)

theorem plead_cases (a : Nat) : (a < 128 ∧ plead a = ((a : Int), 1)) ∨ (192 ≤ a ∧ a < 224 ∧ plead a = ((a : Int) - 192, 2)) ∨ (224 ≤ a ∧ a < 240 ∧ plead a = ((a : Int) - 224, 3)) ∨
    (240 ≤ a ∧ a < 248 ∧ plead a = ((a : Int) - 240, 4)) ∨ ((128 ≤ a ∧ a < 192 ∨ 248 ≤ a) ∧ plead a = (0, 0)) := by
  unfold plead
  by_cases h1 : a < 128
  · exact Or.inl ⟨h1, by rw [if_pos h1]⟩
  · by_cases h2 : a < 192
    · exact Or.inr (Or.inr (Or.inr (Or.inr ⟨Or.inl ⟨by omega, h2⟩, by rw [if_neg h1, if_pos h2]⟩)))
    · by_cases h3 : a < 224
      · exact Or.inr (Or.inl ⟨by omega, h3, by rw [if_neg h1, if_neg h2, if_pos h3]⟩)
      · by_cases h4 : a < 240
        · exact Or.inr (Or.inr (Or.inl ⟨by omega, h4, by rw [if_neg h1, if_neg h2, if_neg h3, if_pos h4]⟩))
        · by_cases h5 : a < 248
          · exact Or.inr (Or.inr (Or.inr (Or.inl ⟨by omega, h5, by rw [if_neg h1, if_neg h2, if_neg h3, if_neg h4, if_pos h5]⟩)))
          · exact Or.inr (Or.inr (Or.inr (Or.inr ⟨Or.inr (by omega), by rw [if_neg h1, if_neg h2, if_neg h3, if_neg h4, if_neg h5]⟩)))

theorem plead_some {a : Nat} (h : (plead a).2 ≠ 0) : lead a = ((plead a).2, (plead a).1) := by
  rcases plead_cases a with ⟨h1, e⟩ | ⟨h1, h2, e⟩ | ⟨h1, h2, e⟩ | ⟨h1, h2, e⟩ | ⟨h1, e⟩ <;> rw [e] at h ⊢ <;> unfold lead
  · rw [if_neg (by omega), if_neg (by omega), if_neg (by omega)]
  · rw [if_neg (by omega), if_neg (by omega), if_pos (by omega)]
  · rw [if_neg (by omega), if_pos (by omega)]
  · rw [if_pos (by omega)]
  · exact absurd rfl h

theorem first_nolead {a : UInt8} {r : List UInt8} (h : (plead a.toNat).2 = 0) : first (a :: r) = (0, 0) := by
  refine first_no fun p m hp he => ?_
  obtain ⟨b, t, hb, h1, h2, _⟩ := bytes_kind p hp
  rw [hb, List.cons_append] at he
  simp only [List.cons.injEq] at he
  obtain ⟨rfl, _⟩ := he
  rcases plead_cases a.toNat with ⟨h1, e⟩ | ⟨h1, h2, e⟩ | ⟨h1, h2, e⟩ | ⟨h1, h2, e⟩ | ⟨h1, e⟩ <;> rw [e] at h <;> first | omega | simp at h

theorem first_short {a : UInt8} {r : List UInt8} (h : (plead a.toNat).2 ≠ 0) (hl : r.length + 1 < (plead a.toNat).2) : first (a :: r) = (0, 0) := by
  rw [first, plead_some h, if_neg (by omega)]

/-- A byte that does not go on. -/
theorem first_stop {a : UInt8} {r : List UInt8} {i : Nat} (h : (plead a.toNat).2 ≠ 0) (hi : i + 1 < (plead a.toNat).2) (hl : i < r.length) (hb : r[i].toNat < 128 ∨ 192 ≤ r[i].toNat) : first (a :: r) = (0, 0) := by
  rw [first, plead_some h, if_neg]
  rintro ⟨h1, h2, h3⟩
  simp only at h1 h2 h3
  obtain ⟨b, t, hb', _, _, ht⟩ := bytes_kind _ h2
  rw [hb'] at h3
  obtain ⟨n, hn⟩ : ∃ n, (plead a.toNat).2 = n + 1 := ⟨(plead a.toNat).2 - 1, by omega⟩
  rw [hn, List.take_succ_cons] at h3
  simp only [List.cons.injEq] at h3
  obtain ⟨_, rfl⟩ := h3
  have : r[i] ∈ r.take n := by
    rw [List.mem_take_iff_getElem]
    exact ⟨i, by omega, rfl⟩
  have := ht _ this
  omega

theorem bytes_of_val {a : UInt8} {r : List UInt8} (h : (plead a.toNat).2 = r.length + 1) (hr : ∀ b ∈ r, 128 ≤ b.toNat ∧ b.toNat < 192) (hw : width (val (plead a.toNat).1 r) = r.length + 1) :
    bytes (val (plead a.toNat).1 r) = a :: r := by
  have ha := a.toNat_lt
  rcases plead_cases a.toNat with ⟨h1, e⟩ | ⟨h1, h2, e⟩ | ⟨h1, h2, e⟩ | ⟨h1, h2, e⟩ | ⟨h1, e⟩ <;> rw [e] at h hw ⊢
  · obtain rfl : r = [] := List.eq_nil_of_length_eq_zero (by simpa using h.symm)
    simp only [val]
    unfold bytes
    rw [if_pos (by omega), byte_eq rfl]
  · match r, h with
    | [b], _ =>
      have hb := hr b (by simp)
      simp only [val] at hw ⊢
      generalize hp : ((a.toNat : Int) - 192) * 64 + b.toNat - 128 = p at hw ⊢
      unfold width at hw
      simp only [List.length_cons, List.length_nil] at hw
      split at hw
      · omega
      · split at hw
        · unfold bytes
          rw [if_neg (by omega), if_pos (by omega), byte_eq (b := a) (by omega), byte_eq (b := b) (by omega)]
        · split at hw <;> omega
  · match r, h with
    | [b, c], _ =>
      have hb := hr b (by simp)
      have hc := hr c (by simp)
      simp only [val] at hw ⊢
      generalize hp : (((a.toNat : Int) - 224) * 64 + b.toNat - 128) * 64 + c.toNat - 128 = p at hw ⊢
      unfold width at hw
      simp only [List.length_cons, List.length_nil] at hw
      split at hw
      · omega
      · split at hw
        · omega
        · split at hw
          · unfold bytes
            rw [if_neg (by omega), if_neg (by omega), if_pos (by omega), byte_eq (b := a) (by omega), byte_eq (b := b) (by omega), byte_eq (b := c) (by omega)]
          · omega
  · match r, h with
    | [b, c, d], _ =>
      have hb := hr b (by simp)
      have hc := hr c (by simp)
      have hd := hr d (by simp)
      simp only [val] at hw ⊢
      generalize hp : ((((a.toNat : Int) - 240) * 64 + b.toNat - 128) * 64 + c.toNat - 128) * 64 + d.toNat - 128 = p at hw ⊢
      unfold width at hw
      simp only [List.length_cons, List.length_nil] at hw
      split at hw
      · omega
      · split at hw
        · omega
        · split at hw
          · omega
          · unfold bytes
            rw [if_neg (by omega), if_neg (by omega), if_neg (by omega), byte_eq (b := a) (by omega), byte_eq (b := b) (by omega), byte_eq (b := c) (by omega), byte_eq (b := d) (by omega)]
  · simp at h

/-- All go on: it hangs on the number. -/
theorem first_all {a : UInt8} {r : List UInt8} (h : (plead a.toNat).2 ≠ 0) (hl : (plead a.toNat).2 ≤ r.length + 1) (hr : ∀ b ∈ r.take ((plead a.toNat).2 - 1), 128 ≤ b.toNat ∧ b.toNat < 192) :
    first (a :: r) = if pt (val (plead a.toNat).1 (r.take ((plead a.toNat).2 - 1))) = true ∧ width (val (plead a.toNat).1 (r.take ((plead a.toNat).2 - 1))) = (plead a.toNat).2
      then (val (plead a.toNat).1 (r.take ((plead a.toNat).2 - 1)), (plead a.toNat).2) else (0, 0) := by
  rw [first, plead_some h]
  simp only
  obtain ⟨n, hn⟩ : ∃ n, (plead a.toNat).2 = n + 1 := ⟨(plead a.toNat).2 - 1, by omega⟩
  rw [hn, Nat.add_sub_cancel] at hr ⊢
  rw [hn] at hl
  have hlen : (r.take n).length = n := by rw [List.length_take]; omega
  by_cases hc : pt (val (plead a.toNat).1 (r.take n)) = true ∧ width (val (plead a.toNat).1 (r.take n)) = n + 1
  · have h3 : bytes (val (plead a.toNat).1 (r.take n)) = (a :: r).take (n + 1) := by
      rw [List.take_succ_cons]
      exact bytes_of_val (by rw [hn, hlen]) hr (by rw [hlen]; exact hc.2)
    rw [if_pos hc, if_pos ⟨hl, hc.1, h3⟩]
  · rw [if_neg hc, if_neg]
    rintro ⟨_, h2, h3⟩
    refine hc ⟨h2, ?_⟩
    rw [← bytes_length, h3, List.take_succ_cons, List.length_cons, hlen]

/-- The bytes of code points, one behind the other. -/
def enc (ps : List Int) : List UInt8 := ps.flatMap bytes

theorem enc_nil : enc [] = [] := rfl
theorem enc_cons (p : Int) (ps : List Int) : enc (p :: ps) = bytes p ++ enc ps := by simp [enc]
theorem enc_append (a b : List Int) : enc (a ++ b) = enc a ++ enc b := by simp [enc]
theorem enc_snoc (a : List Int) (p : Int) : enc (a ++ [p]) = enc a ++ bytes p := by simp [enc]
theorem enc_count (ps : List Int) : ps.length ≤ (enc ps).length := by
  induction ps with
  | nil => simp
  | cons p r ih => rw [enc_cons, List.length_append, bytes_length, List.length_cons]; have := width_pos p; omega
theorem enc_most (ps : List Int) : (enc ps).length ≤ 4 * ps.length := by
  induction ps with
  | nil => simp [enc]
  | cons p r ih => rw [enc_cons, List.length_append, bytes_length, List.length_cons]; have := width_pos p; omega

/-- A text is these code points' bytes, and behind them a rest that begins with none's (or nothing). -/
structure Reads (l : List UInt8) (ps : List Int) (rest : List UInt8) : Prop where
  pts : ∀ p ∈ ps, pt p = true
  text : l = enc ps ++ rest
  none : first rest = (0, 0)

theorem reads_all (n : Nat) : ∀ l : List UInt8, l.length ≤ n → ∃ ps rest, Reads l ps rest := by
  induction n with
  | zero =>
    intro l hl
    obtain rfl : l = [] := List.eq_nil_of_length_eq_zero (by omega)
    exact ⟨[], [], by simp, rfl, rfl⟩
  | succ n ih =>
    intro l hl
    rcases hf : first l with ⟨p, k⟩
    by_cases hk : k = 0
    · exact ⟨[], l, by simp, rfl, first_none (by rw [hf]; exact hk)⟩
    · obtain ⟨h1, h2, h3, h4⟩ := first_some hf hk
      obtain ⟨ps, rest, hp, ht, hn⟩ := ih (l.drop k) (by rw [List.length_drop]; omega)
      refine ⟨p :: ps, rest, ?_, ?_, hn⟩
      · intro q hq
        rcases List.mem_cons.1 hq with rfl | hq
        · exact h1
        · exact hp q hq
      · rw [enc_cons, List.append_assoc, ← ht]; exact h3

theorem reads (l : List UInt8) : ∃ ps rest, Reads l ps rest := reads_all l.length l (Nat.le_refl _)

theorem reads_enc {ps : List Int} (h : ∀ p ∈ ps, pt p = true) : Reads (enc ps) ps [] := ⟨h, by simp, rfl⟩

theorem reads_two {a b : List UInt8} {l m : List Int} {rest : List UInt8} (ha : Reads a l []) (hb : Reads b m rest) : Reads (a ++ b) (l ++ m) rest :=
  ⟨fun p hp => by rcases List.mem_append.1 hp with h | h; exact ha.pts p h; exact hb.pts p h,
   by rw [ha.text, hb.text, enc_append, List.append_nil, List.append_assoc], hb.none⟩

theorem reads_cut {l : List Int} (h : ∀ p ∈ l, pt p = true) {p : Int} (hp : pt p = true) {k : Nat} (hk : k < width p) : Reads (enc l ++ (bytes p).take k) l ((bytes p).take k) :=
  ⟨h, rfl, first_cut p hp k hk⟩

/-- Where the reading stands behind k code points. -/
theorem reads_at {l : List UInt8} {ps : List Int} {rest : List UInt8} (h : Reads l ps rest) (k : Nat) (hk : k < ps.length) :
    first (l.drop (enc (ps.take k)).length) = (ps[k], width ps[k]) ∧ enc (ps.take (k + 1)) = enc (ps.take k) ++ bytes ps[k] ∧ (enc (ps.take k)).length + width ps[k] ≤ l.length := by
  have hs : ps.take (k + 1) = ps.take k ++ [ps[k]] := List.take_succ_eq_append_getElem hk
  have he : enc (ps.take (k + 1)) = enc (ps.take k) ++ bytes ps[k] := by rw [hs, enc_snoc]
  have ht : l = enc (ps.take k) ++ (bytes ps[k] ++ (enc (ps.drop (k + 1)) ++ rest)) := by
    rw [h.text, ← List.append_assoc, ← he, ← List.append_assoc, ← enc_append, List.take_append_drop]
  refine ⟨?_, he, ?_⟩
  · have hd : l.drop (enc (ps.take k)).length = bytes ps[k] ++ (enc (ps.drop (k + 1)) ++ rest) := by
      conv => lhs; rw [ht]
      rw [List.drop_left]
    rw [hd]
    exact first_bytes _ (h.pts _ (List.getElem_mem hk)) _
  · have := congrArg List.length ht
    simp only [List.length_append, bytes_length] at this ⊢
    omega

theorem reads_end {l : List UInt8} {ps : List Int} {rest : List UInt8} (h : Reads l ps rest) : first (l.drop (enc ps).length) = (0, 0) ∧ l.length = (enc ps).length + rest.length := by
  refine ⟨?_, by rw [h.text, List.length_append]⟩
  have hd : l.drop (enc ps).length = rest := by
    conv => lhs; rw [h.text]
    rw [List.drop_left]
  rw [hd]
  exact h.none

/-- How far a reading goes on. -/
def step (l : List UInt8) (k : Nat) : Nat := if (first (l.drop k)).2 = 0 then 1 else (first (l.drop k)).2

theorem step_pos (l : List UInt8) (k : Nat) : 1 ≤ step l k := by unfold step; split <;> omega

/-- The column of byte number n, c being the one of byte number k. -/
def col (l : List UInt8) (n k c : Nat) : Nat :=
  if h : k < n then (if k + step l k ≤ n then col l n (k + step l k) (c + 1) else c) else c
termination_by n - k
decreasing_by have := step_pos l k; omega

theorem col_end {l : List UInt8} {n k c : Nat} (h : ¬ k < n) : col l n k c = c := by rw [col, dif_neg h]
theorem col_out {l : List UInt8} {n k c : Nat} (h : k < n) (h2 : ¬ k + step l k ≤ n) : col l n k c = c := by rw [col, dif_pos h, if_neg h2]
theorem col_on {l : List UInt8} {n k c : Nat} (h : k < n) (h2 : k + step l k ≤ n) : col l n k c = col l n (k + step l k) (c + 1) := by rw [col, dif_pos h, if_pos h2]

/-- Where the line of byte number n begins. -/
def start (l : List UInt8) : Nat → Nat
  | 0 => 0
  | k + 1 => if l[k]? = some 10 then k + 1 else start l k

theorem start_le (l : List UInt8) : ∀ n, start l n ≤ n
  | 0 => Nat.le_refl _
  | k + 1 => by rw [start]; split; exact Nat.le_refl _; exact Nat.le_succ_of_le (start_le l k)

theorem start_hit {l : List UInt8} {k : Nat} (h : k < l.length) (hb : l[k] = 10) : start l (k + 1) = k + 1 := by
  rw [start, List.getElem?_eq_getElem h, hb, if_pos rfl]
theorem start_miss {l : List UInt8} {k : Nat} (h : k < l.length) (hb : l[k] ≠ 10) : start l (k + 1) = start l k := by
  rw [start, List.getElem?_eq_getElem h, if_neg (by simpa using hb)]

theorem count_hit {l : List UInt8} {k : Nat} (h : k < l.length) (hb : l[k] = 10) : (l.take (k + 1)).count 10 = (l.take k).count 10 + 1 := by
  rw [List.take_succ_eq_append_getElem h, hb]; simp
theorem count_miss {l : List UInt8} {k : Nat} (h : k < l.length) (hb : l[k] ≠ 10) : (l.take (k + 1)).count 10 = (l.take k).count 10 := by
  rw [List.take_succ_eq_append_getElem h, List.count_append]
  have : List.count 10 [l[k]] = 0 := by rw [List.count_eq_zero]; simpa using fun h => hb h.symm
  omega

end Utf
