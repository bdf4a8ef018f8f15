/- UtfMath, SemMath, SemOrd, SemLead, LexMath, LexScan, LexParts, LexShow, LexLaws, LexPass, LexOwnM, together. -/

/- Mathematics of layer 3: code points and their bytes, what a text begins with, reading and places. -/
namespace Utf

/-- A code point. -/
def pt (p : Int) : Bool := decide (0 ≤ p) && decide (p ≤ 1114111) && (decide (p < 55296) || decide (57343 < p))

theorem pt_iff (p : Int) : pt p = true ↔ 0 ≤ p ∧ p ≤ 1114111 ∧ (p < 55296 ∨ 57343 < p) := by
  simp only [pt, Bool.and_eq_true, Bool.or_eq_true, decide_eq_true_eq]
  exact ⟨fun ⟨⟨a, b⟩, c⟩ => ⟨a, b, c⟩, fun ⟨a, b, c⟩ => ⟨⟨a, b⟩, c⟩⟩

def byte (x : Int) : UInt8 := UInt8.ofNat (x % 256).toNat

theorem byte_toNat (x : Int) : ((byte x).toNat : Int) = x % 256 := by
  have h1 : (UInt8.ofNat (x % 256).toNat).toNat = (x % 256).toNat % 256 := by simp
  unfold byte
  rw [h1]
  omega

theorem byte_eq {x : Int} {b : UInt8} (h : x = b.toNat) : byte x = b := by
  apply UInt8.toNat_inj.1
  have h1 := byte_toNat x
  have h2 := b.toNat_lt
  omega

/-- A code point's bytes. -/
def bytes (p : Int) : List UInt8 :=
  if p < 128 then [byte p]
  else if p < 2048 then [byte (192 + p / 64), byte (128 + p % 64)]
  else if p < 65536 then [byte (224 + p / 4096), byte (128 + p / 64 % 64), byte (128 + p % 64)]
  else [byte (240 + p / 262144), byte (128 + p / 4096 % 64), byte (128 + p / 64 % 64), byte (128 + p % 64)]

def width (p : Int) : Nat := if p < 128 then 1 else if p < 2048 then 2 else if p < 65536 then 3 else 4

theorem bytes_length (p : Int) : (bytes p).length = width p := by
  unfold bytes width; repeat (split <;> try rfl)

theorem width_pos (p : Int) : 1 ≤ width p ∧ width p ≤ 4 := by
  unfold width; repeat (split <;> try omega)

/-- How many bytes a first byte asks for, and its bits. -/
def lead (a : Nat) : Nat × Int :=
  if 240 ≤ a then (4, (a : Int) - 240) else if 224 ≤ a then (3, (a : Int) - 224) else if 192 ≤ a then (2, (a : Int) - 192) else (1, a)

theorem lead_pos (a : Nat) : 1 ≤ (lead a).1 ∧ (lead a).1 ≤ 4 := by
  unfold lead; repeat (split <;> try (simp))

/-- The number behind more bytes. -/
def val (p : Int) : List UInt8 → Int
  | [] => p
  | b :: r => val (p * 64 + b.toNat - 128) r

theorem val_snoc (p : Int) (l : List UInt8) (b : UInt8) : val p (l ++ [b]) = val p l * 64 + b.toNat - 128 := by
  induction l generalizing p with
  | nil => rfl
  | cons a r ih => exact ih _

theorem val_bound {p : Int} {l : List UInt8} (h0 : 0 ≤ p) (h1 : p ≤ 255) (hl : l.length ≤ 2) : -100000000 ≤ val p l ∧ val p l ≤ 100000000 := by
  match l, hl with
  | [], _ => simp only [val]; omega
  | [b], _ => have := b.toNat_lt; simp only [val]; omega
  | [b, c], _ => have := b.toNat_lt; have := c.toNat_lt; simp only [val]; omega

theorem lead_cases (a : Nat) : (a < 192 ∧ lead a = (1, (a : Int))) ∨ (192 ≤ a ∧ a < 224 ∧ lead a = (2, (a : Int) - 192)) ∨ (224 ≤ a ∧ a < 240 ∧ lead a = (3, (a : Int) - 224)) ∨ (240 ≤ a ∧ lead a = (4, (a : Int) - 240)) := by
  unfold lead
  by_cases h1 : 240 ≤ a
  · exact Or.inr (Or.inr (Or.inr ⟨h1, by rw [if_pos h1]⟩))
  · by_cases h2 : 224 ≤ a
    · exact Or.inr (Or.inr (Or.inl ⟨h2, by omega, by rw [if_neg h1, if_pos h2]⟩))
    · by_cases h3 : 192 ≤ a
      · exact Or.inr (Or.inl ⟨h3, by omega, by rw [if_neg h1, if_neg h2, if_pos h3]⟩)
      · exact Or.inl ⟨by omega, by rw [if_neg h1, if_neg h2, if_neg h3]⟩

/-- The code point whose bytes a text begins with, and how many these are; (0, 0): none's. -/
def first : List UInt8 → Int × Nat
  | [] => (0, 0)
  | a :: r =>
    if (lead a.toNat).1 ≤ r.length + 1 ∧ pt (val (lead a.toNat).2 (r.take ((lead a.toNat).1 - 1))) = true ∧
        bytes (val (lead a.toNat).2 (r.take ((lead a.toNat).1 - 1))) = (a :: r).take (lead a.toNat).1
    then (val (lead a.toNat).2 (r.take ((lead a.toNat).1 - 1)), (lead a.toNat).1) else (0, 0)

/-- What the bytes of a code point come to. -/
theorem val_bytes (p : Int) (h : pt p = true) : ∃ a r, bytes p = a :: r ∧ (lead a.toNat).1 = r.length + 1 ∧ val (lead a.toNat).2 r = p := by
  rw [pt_iff] at h
  obtain ⟨h0, h1, _⟩ := h
  unfold bytes
  split
  · refine ⟨_, _, rfl, ?_⟩
    have hb := byte_toNat p
    have : (lead (byte p).toNat) = (1, ((byte p).toNat : Int)) := by
      unfold lead; rw [if_neg (by omega), if_neg (by omega), if_neg (by omega)]
    rw [this]
    exact ⟨rfl, by simp only [val]; omega⟩
  · split
    · refine ⟨_, _, rfl, ?_⟩
      have hb := byte_toNat (192 + p / 64)
      have hc := byte_toNat (128 + p % 64)
      have : (lead (byte (192 + p / 64)).toNat) = (2, ((byte (192 + p / 64)).toNat : Int) - 192) := by
        unfold lead; rw [if_neg (by omega), if_neg (by omega), if_pos (by omega)]
      rw [this]
      exact ⟨rfl, by simp only [val]; omega⟩
    · split
      · refine ⟨_, _, rfl, ?_⟩
        have hb := byte_toNat (224 + p / 4096)
        have hc := byte_toNat (128 + p / 64 % 64)
        have hd := byte_toNat (128 + p % 64)
        have : (lead (byte (224 + p / 4096)).toNat) = (3, ((byte (224 + p / 4096)).toNat : Int) - 224) := by
          unfold lead; rw [if_neg (by omega), if_pos (by omega)]
        rw [this]
        exact ⟨rfl, by simp only [val]; omega⟩
      · refine ⟨_, _, rfl, ?_⟩
        have hb := byte_toNat (240 + p / 262144)
        have hc := byte_toNat (128 + p / 4096 % 64)
        have hd := byte_toNat (128 + p / 64 % 64)
        have he := byte_toNat (128 + p % 64)
        have : (lead (byte (240 + p / 262144)).toNat) = (4, ((byte (240 + p / 262144)).toNat : Int) - 240) := by
          unfold lead; rw [if_pos (by omega)]
        rw [this]
        exact ⟨rfl, by simp only [val]; omega⟩

/-- What the bytes of a code point are: the first one no more than 244 and none of those that go on, the others ones that go on. -/
theorem bytes_kind (p : Int) (h : pt p = true) : ∃ a r, bytes p = a :: r ∧ (a.toNat < 128 ∨ 194 ≤ a.toNat) ∧ a.toNat ≤ 244 ∧ ∀ b ∈ r, 128 ≤ b.toNat ∧ b.toNat < 192 := by
  rw [pt_iff] at h
  obtain ⟨h0, h1, _⟩ := h
  have ha := byte_toNat p
  have h2 := byte_toNat (192 + p / 64)
  have h3 := byte_toNat (224 + p / 4096)
  have h4 := byte_toNat (240 + p / 262144)
  have hb := byte_toNat (128 + p % 64)
  have hc := byte_toNat (128 + p / 64 % 64)
  have hd := byte_toNat (128 + p / 4096 % 64)
  unfold bytes
  split
  · exact ⟨_, _, rfl, by omega, by omega, by simp⟩
  · split
    · exact ⟨_, _, rfl, by omega, by omega, by intro b hb; simp at hb; subst hb; omega⟩
    · split
      · exact ⟨_, _, rfl, by omega, by omega, by intro b hb; simp at hb; rcases hb with rfl | rfl <;> omega⟩
      · exact ⟨_, _, rfl, by omega, by omega, by intro b hb; simp at hb; rcases hb with rfl | rfl | rfl <;> omega⟩

theorem first_bytes (p : Int) (h : pt p = true) (l : List UInt8) : first (bytes p ++ l) = (p, width p) := by
  obtain ⟨a, r, hb, hl, hv⟩ := val_bytes p h
  have hw := bytes_length p
  rw [hb] at hw ⊢
  rw [List.cons_append, first]
  have ht : (r ++ l).take ((lead a.toNat).1 - 1) = r := by rw [hl, Nat.add_sub_cancel, List.take_left]
  have h3 : bytes p = (a :: (r ++ l)).take (lead a.toNat).1 := by
    rw [hb, hl, ← List.cons_append, show r.length + 1 = (a :: r).length from rfl, List.take_left]
  rw [ht, hv, if_pos ⟨by rw [hl, List.length_append]; omega, h, h3⟩, hl, ← hw]
  rfl

theorem first_some {l : List UInt8} {p : Int} {n : Nat} (h : first l = (p, n)) (hn : n ≠ 0) : pt p = true ∧ n = width p ∧ l = bytes p ++ l.drop n ∧ n ≤ l.length := by
  match l, h with
  | [], h => simp [first] at h; omega
  | a :: r, h =>
    rw [first] at h
    split at h
    · rename_i hc
      obtain ⟨h1, h2, h3⟩ := hc
      simp only [Prod.mk.injEq] at h
      obtain ⟨hp, hm⟩ := h
      rw [hp] at h2 h3
      have hw := bytes_length p
      rw [h3, List.length_take, hm] at hw
      rw [hm] at h1 h3
      refine ⟨h2, by rw [← hw, List.length_cons]; omega, ?_, by rw [List.length_cons]; exact h1⟩
      rw [h3, List.take_append_drop]
    · simp at h; omega

theorem first_none {l : List UInt8} (h : (first l).2 = 0) : first l = (0, 0) := by
  match l, h with
  | [], _ => rfl
  | a :: r, h =>
    rw [first] at h ⊢
    split at h
    · have := lead_pos a.toNat; simp at h; omega
    · rename_i hc; rw [if_neg hc]

theorem first_no {l : List UInt8} (h : ∀ p m, pt p = true → l ≠ bytes p ++ m) : first l = (0, 0) := by
  rcases hf : first l with ⟨p, n⟩
  by_cases hn : n = 0
  · have := first_none (l := l) (by rw [hf]; exact hn)
    rw [← hf, this]
  · obtain ⟨h1, _, h2, _⟩ := first_some hf hn
    exact absurd h2 (h p _ h1)

/-- A code point's bytes that are cut begin none's. -/
theorem first_cut (p : Int) (h : pt p = true) (k : Nat) (hk : k < width p) : first ((bytes p).take k) = (0, 0) := by
  rcases hf : first ((bytes p).take k) with ⟨q, n⟩
  by_cases hn : n = 0
  · have := first_none (l := (bytes p).take k) (by rw [hf]; exact hn)
    rw [← hf, this]
  · obtain ⟨h1, h2, h3, h4⟩ := first_some hf hn
    exfalso
    have e1 := first_bytes q h1 (((bytes p).take k).drop n ++ (bytes p).drop k)
    rw [← List.append_assoc, ← h3, List.take_append_drop] at e1
    have e2 := first_bytes p h []
    rw [List.append_nil, e1] at e2
    simp only [Prod.mk.injEq] at e2
    rw [List.length_take] at h4
    omega

/-- What the program asks of the first byte. -/
def plead (a : Nat) : Int × Nat :=
  if a < 128 then ((a : Int), 1) else if a < 192 then (0, 0) else if a < 224 then ((a : Int) - 192, 2) else if a < 240 then ((a : Int) - 224, 3)
  else if a < 248 then ((a : Int) - 240, 4) else (0, 0)

theorem plead_cases (a : Nat) : (a < 128 ∧ plead a = ((a : Int), 1)) ∨ (192 ≤ a ∧ a < 224 ∧ plead a = ((a : Int) - 192, 2)) ∨ (224 ≤ a ∧ a < 240 ∧ plead a = ((a : Int) - 224, 3)) ∨
    (240 ≤ a ∧ a < 248 ∧ plead a = ((a : Int) - 240, 4)) ∨ ((128 ≤ a ∧ a < 192 ∨ 248 ≤ a) ∧ plead a = (0, 0)) := by
  unfold plead
  by_cases h1 : a < 128
  · exact Or.inl ⟨h1, by rw [if_pos h1]⟩
  · by_cases h2 : a < 192
    · exact Or.inr (Or.inr (Or.inr (Or.inr ⟨Or.inl ⟨by omega, h2⟩, by rw [if_neg h1, if_pos h2]⟩)))
    · by_cases h3 : a < 224
      · exact Or.inr (Or.inl ⟨by omega, h3, by rw [if_neg h1, if_neg h2, if_pos h3]⟩)
      · by_cases h4 : a < 240
        · exact Or.inr (Or.inr (Or.inl ⟨by omega, h4, by rw [if_neg h1, if_neg h2, if_neg h3, if_pos h4]⟩))
        · by_cases h5 : a < 248
          · exact Or.inr (Or.inr (Or.inr (Or.inl ⟨by omega, h5, by rw [if_neg h1, if_neg h2, if_neg h3, if_neg h4, if_pos h5]⟩)))
          · exact Or.inr (Or.inr (Or.inr (Or.inr ⟨Or.inr (by omega), by rw [if_neg h1, if_neg h2, if_neg h3, if_neg h4, if_neg h5]⟩)))

theorem plead_some {a : Nat} (h : (plead a).2 ≠ 0) : lead a = ((plead a).2, (plead a).1) := by
  rcases plead_cases a with ⟨h1, e⟩ | ⟨h1, h2, e⟩ | ⟨h1, h2, e⟩ | ⟨h1, h2, e⟩ | ⟨h1, e⟩ <;> rw [e] at h ⊢ <;> unfold lead
  · rw [if_neg (by omega), if_neg (by omega), if_neg (by omega)]
  · rw [if_neg (by omega), if_neg (by omega), if_pos (by omega)]
  · rw [if_neg (by omega), if_pos (by omega)]
  · rw [if_pos (by omega)]
  · exact absurd rfl h

theorem first_nolead {a : UInt8} {r : List UInt8} (h : (plead a.toNat).2 = 0) : first (a :: r) = (0, 0) := by
  refine first_no fun p m hp he => ?_
  obtain ⟨b, t, hb, h1, h2, _⟩ := bytes_kind p hp
  rw [hb, List.cons_append] at he
  simp only [List.cons.injEq] at he
  obtain ⟨rfl, _⟩ := he
  rcases plead_cases a.toNat with ⟨h1, e⟩ | ⟨h1, h2, e⟩ | ⟨h1, h2, e⟩ | ⟨h1, h2, e⟩ | ⟨h1, e⟩ <;> rw [e] at h <;> first | omega | simp at h

theorem first_short {a : UInt8} {r : List UInt8} (h : (plead a.toNat).2 ≠ 0) (hl : r.length + 1 < (plead a.toNat).2) : first (a :: r) = (0, 0) := by
  rw [first, plead_some h, if_neg (by omega)]

/-- A byte that does not go on. -/
theorem first_stop {a : UInt8} {r : List UInt8} {i : Nat} (h : (plead a.toNat).2 ≠ 0) (hi : i + 1 < (plead a.toNat).2) (hl : i < r.length) (hb : r[i].toNat < 128 ∨ 192 ≤ r[i].toNat) : first (a :: r) = (0, 0) := by
  rw [first, plead_some h, if_neg]
  rintro ⟨h1, h2, h3⟩
  simp only at h1 h2 h3
  obtain ⟨b, t, hb', _, _, ht⟩ := bytes_kind _ h2
  rw [hb'] at h3
  obtain ⟨n, hn⟩ : ∃ n, (plead a.toNat).2 = n + 1 := ⟨(plead a.toNat).2 - 1, by omega⟩
  rw [hn, List.take_succ_cons] at h3
  simp only [List.cons.injEq] at h3
  obtain ⟨_, rfl⟩ := h3
  have : r[i] ∈ r.take n := by
    rw [List.mem_take_iff_getElem]
    exact ⟨i, by omega, rfl⟩
  have := ht _ this
  omega

theorem bytes_of_val {a : UInt8} {r : List UInt8} (h : (plead a.toNat).2 = r.length + 1) (hr : ∀ b ∈ r, 128 ≤ b.toNat ∧ b.toNat < 192) (hw : width (val (plead a.toNat).1 r) = r.length + 1) :
    bytes (val (plead a.toNat).1 r) = a :: r := by
  have ha := a.toNat_lt
  rcases plead_cases a.toNat with ⟨h1, e⟩ | ⟨h1, h2, e⟩ | ⟨h1, h2, e⟩ | ⟨h1, h2, e⟩ | ⟨h1, e⟩ <;> rw [e] at h hw ⊢
  · obtain rfl : r = [] := List.eq_nil_of_length_eq_zero (by simpa using h.symm)
    simp only [val]
    unfold bytes
    rw [if_pos (by omega), byte_eq rfl]
  · match r, h with
    | [b], _ =>
      have hb := hr b (by simp)
      simp only [val] at hw ⊢
      generalize hp : ((a.toNat : Int) - 192) * 64 + b.toNat - 128 = p at hw ⊢
      unfold width at hw
      simp only [List.length_cons, List.length_nil] at hw
      split at hw
      · omega
      · split at hw
        · unfold bytes
          rw [if_neg (by omega), if_pos (by omega), byte_eq (b := a) (by omega), byte_eq (b := b) (by omega)]
        · split at hw <;> omega
  · match r, h with
    | [b, c], _ =>
      have hb := hr b (by simp)
      have hc := hr c (by simp)
      simp only [val] at hw ⊢
      generalize hp : (((a.toNat : Int) - 224) * 64 + b.toNat - 128) * 64 + c.toNat - 128 = p at hw ⊢
      unfold width at hw
      simp only [List.length_cons, List.length_nil] at hw
      split at hw
      · omega
      · split at hw
        · omega
        · split at hw
          · unfold bytes
            rw [if_neg (by omega), if_neg (by omega), if_pos (by omega), byte_eq (b := a) (by omega), byte_eq (b := b) (by omega), byte_eq (b := c) (by omega)]
          · omega
  · match r, h with
    | [b, c, d], _ =>
      have hb := hr b (by simp)
      have hc := hr c (by simp)
      have hd := hr d (by simp)
      simp only [val] at hw ⊢
      generalize hp : ((((a.toNat : Int) - 240) * 64 + b.toNat - 128) * 64 + c.toNat - 128) * 64 + d.toNat - 128 = p at hw ⊢
      unfold width at hw
      simp only [List.length_cons, List.length_nil] at hw
      split at hw
      · omega
      · split at hw
        · omega
        · split at hw
          · omega
          · unfold bytes
            rw [if_neg (by omega), if_neg (by omega), if_neg (by omega), byte_eq (b := a) (by omega), byte_eq (b := b) (by omega), byte_eq (b := c) (by omega), byte_eq (b := d) (by omega)]
  · simp at h

/-- All go on: it hangs on the number. -/
theorem first_all {a : UInt8} {r : List UInt8} (h : (plead a.toNat).2 ≠ 0) (hl : (plead a.toNat).2 ≤ r.length + 1) (hr : ∀ b ∈ r.take ((plead a.toNat).2 - 1), 128 ≤ b.toNat ∧ b.toNat < 192) :
    first (a :: r) = if pt (val (plead a.toNat).1 (r.take ((plead a.toNat).2 - 1))) = true ∧ width (val (plead a.toNat).1 (r.take ((plead a.toNat).2 - 1))) = (plead a.toNat).2
      then (val (plead a.toNat).1 (r.take ((plead a.toNat).2 - 1)), (plead a.toNat).2) else (0, 0) := by
  rw [first, plead_some h]
  simp only
  obtain ⟨n, hn⟩ : ∃ n, (plead a.toNat).2 = n + 1 := ⟨(plead a.toNat).2 - 1, by omega⟩
  rw [hn, Nat.add_sub_cancel] at hr ⊢
  rw [hn] at hl
  have hlen : (r.take n).length = n := by rw [List.length_take]; omega
  by_cases hc : pt (val (plead a.toNat).1 (r.take n)) = true ∧ width (val (plead a.toNat).1 (r.take n)) = n + 1
  · have h3 : bytes (val (plead a.toNat).1 (r.take n)) = (a :: r).take (n + 1) := by
      rw [List.take_succ_cons]
      exact bytes_of_val (by rw [hn, hlen]) hr (by rw [hlen]; exact hc.2)
    rw [if_pos hc, if_pos ⟨hl, hc.1, h3⟩]
  · rw [if_neg hc, if_neg]
    rintro ⟨_, h2, h3⟩
    refine hc ⟨h2, ?_⟩
    rw [← bytes_length, h3, List.take_succ_cons, List.length_cons, hlen]

/-- The bytes of code points, one behind the other. -/
def enc (ps : List Int) : List UInt8 := ps.flatMap bytes

theorem enc_nil : enc [] = [] := rfl
theorem enc_cons (p : Int) (ps : List Int) : enc (p :: ps) = bytes p ++ enc ps := by simp [enc]
theorem enc_append (a b : List Int) : enc (a ++ b) = enc a ++ enc b := by simp [enc]
theorem enc_snoc (a : List Int) (p : Int) : enc (a ++ [p]) = enc a ++ bytes p := by simp [enc]
theorem enc_count (ps : List Int) : ps.length ≤ (enc ps).length := by
  induction ps with
  | nil => simp
  | cons p r ih => rw [enc_cons, List.length_append, bytes_length, List.length_cons]; have := width_pos p; omega
theorem enc_most (ps : List Int) : (enc ps).length ≤ 4 * ps.length := by
  induction ps with
  | nil => simp [enc]
  | cons p r ih => rw [enc_cons, List.length_append, bytes_length, List.length_cons]; have := width_pos p; omega

/-- A text is these code points' bytes, and behind them a rest that begins with none's (or nothing). -/
structure Reads (l : List UInt8) (ps : List Int) (rest : List UInt8) : Prop where
  pts : ∀ p ∈ ps, pt p = true
  text : l = enc ps ++ rest
  none : first rest = (0, 0)

theorem reads_all (n : Nat) : ∀ l : List UInt8, l.length ≤ n → ∃ ps rest, Reads l ps rest := by
  induction n with
  | zero =>
    intro l hl
    obtain rfl : l = [] := List.eq_nil_of_length_eq_zero (by omega)
    exact ⟨[], [], by simp, rfl, rfl⟩
  | succ n ih =>
    intro l hl
    rcases hf : first l with ⟨p, k⟩
    by_cases hk : k = 0
    · exact ⟨[], l, by simp, rfl, first_none (by rw [hf]; exact hk)⟩
    · obtain ⟨h1, h2, h3, h4⟩ := first_some hf hk
      obtain ⟨ps, rest, hp, ht, hn⟩ := ih (l.drop k) (by rw [List.length_drop]; omega)
      refine ⟨p :: ps, rest, ?_, ?_, hn⟩
      · intro q hq
        rcases List.mem_cons.1 hq with rfl | hq
        · exact h1
        · exact hp q hq
      · rw [enc_cons, List.append_assoc, ← ht]; exact h3

theorem reads (l : List UInt8) : ∃ ps rest, Reads l ps rest := reads_all l.length l (Nat.le_refl _)

theorem reads_enc {ps : List Int} (h : ∀ p ∈ ps, pt p = true) : Reads (enc ps) ps [] := ⟨h, by simp, rfl⟩

theorem reads_two {a b : List UInt8} {l m : List Int} {rest : List UInt8} (ha : Reads a l []) (hb : Reads b m rest) : Reads (a ++ b) (l ++ m) rest :=
  ⟨fun p hp => by rcases List.mem_append.1 hp with h | h; exact ha.pts p h; exact hb.pts p h,
   by rw [ha.text, hb.text, enc_append, List.append_nil, List.append_assoc], hb.none⟩

theorem reads_cut {l : List Int} (h : ∀ p ∈ l, pt p = true) {p : Int} (hp : pt p = true) {k : Nat} (hk : k < width p) : Reads (enc l ++ (bytes p).take k) l ((bytes p).take k) :=
  ⟨h, rfl, first_cut p hp k hk⟩

/-- Where the reading stands behind k code points. -/
theorem reads_at {l : List UInt8} {ps : List Int} {rest : List UInt8} (h : Reads l ps rest) (k : Nat) (hk : k < ps.length) :
    first (l.drop (enc (ps.take k)).length) = (ps[k], width ps[k]) ∧ enc (ps.take (k + 1)) = enc (ps.take k) ++ bytes ps[k] ∧ (enc (ps.take k)).length + width ps[k] ≤ l.length := by
  have hs : ps.take (k + 1) = ps.take k ++ [ps[k]] := List.take_succ_eq_append_getElem hk
  have he : enc (ps.take (k + 1)) = enc (ps.take k) ++ bytes ps[k] := by rw [hs, enc_snoc]
  have ht : l = enc (ps.take k) ++ (bytes ps[k] ++ (enc (ps.drop (k + 1)) ++ rest)) := by
    rw [h.text, ← List.append_assoc, ← he, ← List.append_assoc, ← enc_append, List.take_append_drop]
  refine ⟨?_, he, ?_⟩
  · have hd : l.drop (enc (ps.take k)).length = bytes ps[k] ++ (enc (ps.drop (k + 1)) ++ rest) := by
      conv => lhs; rw [ht]
      rw [List.drop_left]
    rw [hd]
    exact first_bytes _ (h.pts _ (List.getElem_mem hk)) _
  · have := congrArg List.length ht
    simp only [List.length_append, bytes_length] at this ⊢
    omega

theorem reads_end {l : List UInt8} {ps : List Int} {rest : List UInt8} (h : Reads l ps rest) : first (l.drop (enc ps).length) = (0, 0) ∧ l.length = (enc ps).length + rest.length := by
  refine ⟨?_, by rw [h.text, List.length_append]⟩
  have hd : l.drop (enc ps).length = rest := by
    conv => lhs; rw [h.text]
    rw [List.drop_left]
  rw [hd]
  exact h.none

/-- How far a reading goes on. -/
def step (l : List UInt8) (k : Nat) : Nat := if (first (l.drop k)).2 = 0 then 1 else (first (l.drop k)).2

theorem step_pos (l : List UInt8) (k : Nat) : 1 ≤ step l k := by unfold step; split <;> omega

/-- The column of byte number n, c being the one of byte number k. -/
def col (l : List UInt8) (n k c : Nat) : Nat :=
  if h : k < n then (if k + step l k ≤ n then col l n (k + step l k) (c + 1) else c) else c
termination_by n - k
decreasing_by have := step_pos l k; omega

theorem col_end {l : List UInt8} {n k c : Nat} (h : ¬ k < n) : col l n k c = c := by rw [col, dif_neg h]
theorem col_out {l : List UInt8} {n k c : Nat} (h : k < n) (h2 : ¬ k + step l k ≤ n) : col l n k c = c := by rw [col, dif_pos h, if_neg h2]
theorem col_on {l : List UInt8} {n k c : Nat} (h : k < n) (h2 : k + step l k ≤ n) : col l n k c = col l n (k + step l k) (c + 1) := by rw [col, dif_pos h, if_pos h2]

/-- Where the line of byte number n begins. -/
def start (l : List UInt8) : Nat → Nat
  | 0 => 0
  | k + 1 => if l[k]? = some 10 then k + 1 else start l k

theorem start_le (l : List UInt8) : ∀ n, start l n ≤ n
  | 0 => Nat.le_refl _
  | k + 1 => by rw [start]; split; exact Nat.le_refl _; exact Nat.le_succ_of_le (start_le l k)

theorem start_hit {l : List UInt8} {k : Nat} (h : k < l.length) (hb : l[k] = 10) : start l (k + 1) = k + 1 := by
  rw [start, List.getElem?_eq_getElem h, hb, if_pos rfl]
theorem start_miss {l : List UInt8} {k : Nat} (h : k < l.length) (hb : l[k] ≠ 10) : start l (k + 1) = start l k := by
  rw [start, List.getElem?_eq_getElem h, if_neg (by simpa using hb)]

theorem count_hit {l : List UInt8} {k : Nat} (h : k < l.length) (hb : l[k] = 10) : (l.take (k + 1)).count 10 = (l.take k).count 10 + 1 := by
  rw [List.take_succ_eq_append_getElem h, hb]; simp
theorem count_miss {l : List UInt8} {k : Nat} (h : k < l.length) (hb : l[k] ≠ 10) : (l.take (k + 1)).count 10 = (l.take k).count 10 := by
  rw [List.take_succ_eq_append_getElem h, List.count_append]
  have : List.count 10 [l[k]] = 0 := by rw [List.count_eq_zero]; simpa using fun h => hb h.symm
  omega

end Utf

/- Mathematics of layer 4: versions, their texts, reading them. -/
namespace Sem

def dig (c : UInt8) : Bool := decide (48 ≤ c.toNat) && decide (c.toNat ≤ 57)
def okc (c : UInt8) : Bool := (decide (97 ≤ c.toNat) && decide (c.toNat ≤ 122)) || (decide (65 ≤ c.toNat) && decide (c.toNat ≤ 90)) || decide (c.toNat = 45) || dig c

/-- A part of digits. -/
def digits (l : List UInt8) : Bool := !l.isEmpty && l.all dig
/-- A part that may be. -/
def part (l : List UInt8) : Bool := !l.isEmpty && l.all okc && (!digits l || l == [48] || l.head? != some 48)

/-- A text's parts, at its dots. -/
def parts : List UInt8 → List (List UInt8)
  | [] => [[]]
  | c :: r => if c = 46 then [] :: parts r else match parts r with
    | [] => [[c]]
    | p :: ps => (c :: p) :: ps

theorem parts_ne (l : List UInt8) : parts l ≠ [] := by
  cases l with
  | nil => simp [parts]
  | cons c r => rw [parts]; split; simp; split <;> simp

theorem parts_cons {c : UInt8} {r p : List UInt8} {ps : List (List UInt8)} (h : c ≠ 46) (hr : parts r = p :: ps) : parts (c :: r) = (c :: p) :: ps := by
  rw [parts, if_neg h, hr]

theorem parts_dot (r : List UInt8) : parts (46 :: r) = [] :: parts r := by rw [parts, if_pos rfl]

/-- A part more behind a dot. -/
theorem parts_snoc_dot : ∀ l : List UInt8, parts (l ++ [46]) = parts l ++ [[]]
  | [] => rfl
  | c :: r => by
    have ih := parts_snoc_dot r
    by_cases h : c = 46
    · subst h; rw [List.cons_append, parts_dot, ih, parts_dot, List.cons_append]
    · rw [List.cons_append]
      rcases hr : parts r with _ | ⟨p, ps⟩
      · exact absurd hr (parts_ne r)
      · rw [hr, List.cons_append] at ih
        rw [parts_cons h ih, parts_cons h hr, List.cons_append]

/-- A byte more: behind the last part. -/
theorem parts_snoc {d : UInt8} (hd : d ≠ 46) : ∀ (l : List UInt8), ∃ ps p, parts l = ps ++ [p] ∧ parts (l ++ [d]) = ps ++ [p ++ [d]]
  | [] => ⟨[], [], rfl, by rw [List.nil_append, parts, if_neg hd]; rfl⟩
  | c :: r => by
    obtain ⟨ps, p, h1, h2⟩ := parts_snoc hd r
    by_cases h : c = 46
    · subst h
      exact ⟨[] :: ps, p, by rw [parts_dot, h1]; rfl, by rw [List.cons_append, parts_dot, h2]; rfl⟩
    · match ps, h1, h2 with
      | [], h1, h2 => exact ⟨[], c :: p, by rw [parts_cons h h1]; rfl, by rw [List.cons_append, parts_cons h h2]; rfl⟩
      | q :: qs, h1, h2 => exact ⟨(c :: q) :: qs, p, by rw [parts_cons h h1]; rfl, by rw [List.cons_append, parts_cons h h2]; rfl⟩

/-- Parts, with dots between. -/
def join : List (List UInt8) → List UInt8
  | [] => []
  | [p] => p
  | p :: q :: ps => p ++ 46 :: join (q :: ps)

theorem join_parts : ∀ l : List UInt8, join (parts l) = l
  | [] => rfl
  | c :: r => by
    have ih := join_parts r
    by_cases h : c = 46
    · subst h
      rw [parts_dot]
      rcases hr : parts r with _ | ⟨p, ps⟩
      · exact absurd hr (parts_ne r)
      · rw [join, ← hr, ih]; rfl
    · rcases hr : parts r with _ | ⟨p, ps⟩
      · exact absurd hr (parts_ne r)
      · rw [parts_cons h hr]
        rw [hr] at ih
        cases ps with
        | nil => rw [join] at ih ⊢; rw [ih]
        | cons q qs => rw [join] at ih ⊢; rw [List.cons_append, ih]

theorem parts_inj {l m : List UInt8} (h : parts l = parts m) : l = m := by rw [← join_parts l, h, join_parts]

theorem parts_nodot : ∀ (l : List UInt8), ∀ p ∈ parts l, ∀ c ∈ p, c ≠ 46
  | [], p, hp, c, hc => by simp [parts] at hp; subst hp; simp at hc
  | d :: r, p, hp, c, hc => by
    have ih := parts_nodot r
    by_cases h : d = 46
    · subst h
      rw [parts_dot] at hp
      rcases List.mem_cons.1 hp with rfl | hp
      · simp at hc
      · exact ih p hp c hc
    · rcases hr : parts r with _ | ⟨q, qs⟩
      · exact absurd hr (parts_ne r)
      · rw [parts_cons h hr] at hp
        rw [hr] at ih
        rcases List.mem_cons.1 hp with rfl | hp
        · rcases List.mem_cons.1 hc with rfl | hc
          · exact h
          · exact ih q (by simp) c hc
        · exact ih p (by simp [hp]) c hc

theorem parts_len : ∀ (l : List UInt8), ∀ p ∈ parts l, p.length ≤ l.length
  | [], p, hp => by simp [parts] at hp; subst hp; simp
  | d :: r, p, hp => by
    have ih := parts_len r
    by_cases h : d = 46
    · subst h
      rw [parts_dot] at hp
      rcases List.mem_cons.1 hp with rfl | hp
      · simp
      · have := ih p hp; rw [List.length_cons]; omega
    · rcases hr : parts r with _ | ⟨q, qs⟩
      · exact absurd hr (parts_ne r)
      · rw [parts_cons h hr] at hp
        rw [hr] at ih
        rcases List.mem_cons.1 hp with rfl | hp
        · have := ih q (by simp); rw [List.length_cons, List.length_cons]; omega
        · have := ih p (by simp [hp]); rw [List.length_cons]; omega

theorem parts_count : ∀ l : List UInt8, (parts l).length ≤ l.length + 1
  | [] => by simp [parts]
  | d :: r => by
    have ih := parts_count r
    by_cases h : d = 46
    · subst h; rw [parts_dot]; simp; omega
    · rcases hr : parts r with _ | ⟨q, qs⟩
      · exact absurd hr (parts_ne r)
      · rw [parts_cons h hr]; rw [hr] at ih; simp at ih ⊢; omega

/-- A version. -/
structure Ver where
  maj : Int
  min : Int
  pat : Int
  pre : List UInt8
deriving DecidableEq

def numOk (n : Int) : Bool := decide (0 ≤ n) && decide (n ≤ 999999)
def preOk (p : List UInt8) : Bool := p.isEmpty || (parts p).all part

/-- A version that may be. -/
def may (v : Ver) : Bool := numOk v.maj && numOk v.min && numOk v.pat && decide (v.pre.length ≤ 24) && preOk v.pre

theorem numOk_iff (n : Int) : numOk n = true ↔ 0 ≤ n ∧ n ≤ 999999 := by simp [numOk]

theorem may_iff (v : Ver) : may v = true ↔ (0 ≤ v.maj ∧ v.maj ≤ 999999) ∧ (0 ≤ v.min ∧ v.min ≤ 999999) ∧ (0 ≤ v.pat ∧ v.pat ≤ 999999) ∧ v.pre.length ≤ 24 ∧ preOk v.pre = true := by
  simp only [may, Bool.and_eq_true, numOk_iff, decide_eq_true_eq]
  exact ⟨fun ⟨⟨⟨⟨a, b⟩, c⟩, d⟩, e⟩ => ⟨a, b, c, d, e⟩, fun ⟨a, b, c, d, e⟩ => ⟨⟨⟨⟨a, b⟩, c⟩, d⟩, e⟩⟩

/-- A number in decimal digits. -/
def dec (n : Nat) : List UInt8 := if h : n < 10 then [UInt8.ofNat (48 + n)] else dec (n / 10) ++ [UInt8.ofNat (48 + n % 10)]
termination_by n

theorem dec_small {n : Nat} (h : n < 10) : dec n = [UInt8.ofNat (48 + n)] := by rw [dec, dif_pos h]
theorem dec_big {n : Nat} (h : ¬ n < 10) : dec n = dec (n / 10) ++ [UInt8.ofNat (48 + n % 10)] := by rw [dec, dif_neg h]
/-- The digits ahead of the last one. -/
def ahead (n : Nat) : List UInt8 := if n < 10 then [] else dec (n / 10)
theorem dec_last (n : Nat) : dec n = ahead n ++ [UInt8.ofNat (48 + n % 10)] := by
  unfold ahead
  by_cases h : n < 10
  · rw [dec_small h, if_pos h, Nat.mod_eq_of_lt h]; rfl
  · rw [dec_big h, if_neg h]

theorem dec_dig : ∀ n : Nat, ∀ c ∈ dec n, 48 ≤ c.toNat ∧ c.toNat ≤ 57 := by
  intro n
  induction n using Nat.strongRecOn with
  | ind n ih =>
    intro c hc
    by_cases h : n < 10
    · rw [dec_small h] at hc
      simp at hc
      subst hc
      simp; omega
    · rw [dec_big h, List.mem_append] at hc
      rcases hc with hc | hc
      · exact ih _ (by omega) c hc
      · simp at hc
        subst hc
        simp; omega

theorem dec_ne (n : Nat) : dec n ≠ [] := by
  by_cases h : n < 10
  · rw [dec_small h]; simp
  · rw [dec_big h]; simp

theorem dec_len : ∀ (k n : Nat), n < 10 ^ k → 1 ≤ k → (dec n).length ≤ k
  | 0, _, _, h => absurd h (by omega)
  | k + 1, n, hn, _ => by
    by_cases h : n < 10
    · rw [dec_small h]; simp
    · rw [dec_big h, List.length_append]
      have hk : 1 ≤ k := by
        rcases Nat.eq_zero_or_pos k with rfl | h'
        · omega
        · exact h'
      have := dec_len k (n / 10) (by rw [Nat.pow_succ] at hn; omega) hk
      simp; omega

/-- The text of a version. -/
def text (v : Ver) : List UInt8 := dec v.maj.toNat ++ 46 :: (dec v.min.toNat ++ 46 :: (dec v.pat.toNat ++ if v.pre = [] then [] else 45 :: v.pre))

theorem text_len {v : Ver} (h : may v = true) : (text v).length ≤ 45 := by
  rw [may_iff] at h
  have h1 := dec_len 6 v.maj.toNat (by have : (10 : Nat) ^ 6 = 1000000 := rfl; omega) (by omega)
  have h2 := dec_len 6 v.min.toNat (by have : (10 : Nat) ^ 6 = 1000000 := rfl; omega) (by omega)
  have h3 := dec_len 6 v.pat.toNat (by have : (10 : Nat) ^ 6 = 1000000 := rfl; omega) (by omega)
  unfold text
  simp only [List.length_append, List.length_cons]
  split <;> simp <;> omega

/-- A number goes on by a digit, as the document reads it. -/
def rd (a : Nat) (c : UInt8) : Nat := if a ≤ 999999 then 10 * a + (c.toNat - 48) else a

theorem rd_dec : ∀ n : Nat, n ≤ 999999 → (dec n).foldl rd 0 = n := by
  intro n
  induction n using Nat.strongRecOn with
  | ind n ih =>
    intro hn
    by_cases h : n < 10
    · rw [dec_small h]
      simp [rd]; omega
    · rw [dec_big h, List.foldl_append, ih _ (by omega) (by omega), List.foldl_cons, List.foldl_nil]
      have e : (UInt8.ofNat (48 + n % 10)).toNat = 48 + n % 10 := by simp; omega
      unfold rd
      rw [if_pos (by omega), e]
      omega

/-- The three numbers, number k another one. -/
def put (t : Nat × Nat × Nat) (k x : Nat) : Nat × Nat × Nat := if k = 0 then (x, t.2.1, t.2.2) else if k = 1 then (t.1, x, t.2.2) else (t.1, t.2.1, x)
def get (t : Nat × Nat × Nat) (k : Nat) : Nat := if k = 0 then t.1 else if k = 1 then t.2.1 else t.2.2

/-- The numbers ahead of a -, as the document reads them, and the rest. -/
def scan : List UInt8 → Nat → Nat × Nat × Nat → Option ((Nat × Nat × Nat) × List UInt8)
  | [], _, t => some (t, [])
  | c :: r, k, t =>
    if c = 45 then some (t, c :: r)
    else if c = 46 then (if k < 2 then scan r (k + 1) t else none)
    else if dig c = true then scan r k (put t k (rd (get t k) c)) else none

theorem put_put (t : Nat × Nat × Nat) (k x y : Nat) : put (put t k x) k y = put t k y := by
  unfold put; split <;> simp_all
theorem get_put (t : Nat × Nat × Nat) (k x : Nat) : get (put t k x) k = x := by
  unfold get put; split <;> simp_all

theorem scan_digits : ∀ (l r : List UInt8) (k : Nat) (t : Nat × Nat × Nat), k ≤ 2 → (∀ c ∈ l, 48 ≤ c.toNat ∧ c.toNat ≤ 57) → l ≠ [] → scan (l ++ r) k t = scan r k (put t k (l.foldl rd (get t k)))
  | [], _, _, _, _, _, h => absurd rfl h
  | c :: l, r, k, t, hk, hl, _ => by
    have hc := hl c (by simp)
    have h1 : c ≠ 45 := by rintro rfl; simp at hc
    have h2 : c ≠ 46 := by rintro rfl; simp at hc
    have h3 : dig c = true := by simp [dig]; omega
    rw [List.cons_append, scan, if_neg h1, if_neg h2, if_pos h3, List.foldl_cons]
    by_cases hn : l = []
    · subst hn; rfl
    · rw [scan_digits l r k _ hk (fun d hd => hl d (by simp [hd])) hn, get_put, put_put]

theorem scan_dot (r : List UInt8) (k : Nat) (t : Nat × Nat × Nat) (h : k < 2) : scan (46 :: r) k t = scan r (k + 1) t := by
  rw [scan, if_neg (by decide), if_pos rfl, if_pos h]

theorem scan_end (p : List UInt8) (k : Nat) (t : Nat × Nat × Nat) : scan (if p = [] then [] else 45 :: p) k t = some (t, if p = [] then [] else 45 :: p) := by
  split
  · rfl
  · rw [scan, if_pos rfl]

theorem scan_text {v : Ver} (h : may v = true) : scan (text v) 0 (0, 0, 0) = some ((v.maj.toNat, v.min.toNat, v.pat.toNat), if v.pre = [] then [] else 45 :: v.pre) := by
  rw [may_iff] at h
  unfold text
  rw [scan_digits _ _ _ _ (by omega) (dec_dig _) (dec_ne _), scan_dot _ _ _ (by omega), scan_digits _ _ _ _ (by omega) (dec_dig _) (dec_ne _), scan_dot _ _ _ (by omega),
    scan_digits _ _ _ _ (by omega) (dec_dig _) (dec_ne _), scan_end]
  show some (put (put (put (0, 0, 0) 0 ((dec v.maj.toNat).foldl rd 0)) 1 ((dec v.min.toNat).foldl rd 0)) 2 ((dec v.pat.toNat).foldl rd 0), _) = _
  rw [rd_dec v.maj.toNat (by omega), rd_dec v.min.toNat (by omega), rd_dec v.pat.toNat (by omega)]
  rfl

/-- The version that a text is. -/
def parse (l : List UInt8) : Option Ver :=
  match scan l 0 (0, 0, 0) with
  | none => none
  | some (t, rest) =>
    if may ⟨t.1, t.2.1, t.2.2, rest.tail⟩ = true ∧ text ⟨t.1, t.2.1, t.2.2, rest.tail⟩ = l then some ⟨t.1, t.2.1, t.2.2, rest.tail⟩ else none

theorem parse_text {v : Ver} (h : may v = true) : parse (text v) = some v := by
  have h' := h
  rw [may_iff] at h'
  have e : (⟨(v.maj.toNat : Int), (v.min.toNat : Int), (v.pat.toNat : Int), (if v.pre = [] then [] else 45 :: v.pre).tail⟩ : Ver) = v := by
    obtain ⟨a, b, c, p⟩ := v
    simp only at h'
    have e4 : (if p = [] then [] else 45 :: p).tail = p := by split <;> simp_all
    rw [e4]
    rw [Ver.mk.injEq]
    exact ⟨Int.toNat_of_nonneg h'.1.1, Int.toNat_of_nonneg h'.2.1.1, Int.toNat_of_nonneg h'.2.2.1.1, rfl⟩
  rw [parse, scan_text h]
  simp only
  rw [e, if_pos ⟨h, rfl⟩]

theorem parse_some {l : List UInt8} {v : Ver} (h : parse l = some v) : may v = true ∧ text v = l := by
  rw [parse] at h
  split at h
  · cases h
  · split at h
    · rename_i hc; cases h; exact hc
    · cases h

theorem parse_none {l : List UInt8} (h : parse l = none) (v : Ver) (hv : may v = true) : text v ≠ l := by
  rintro rfl
  rw [parse_text hv] at h
  cases h

/-! ### The order -/

/-- The number that digits are. -/
def num (l : List UInt8) : Nat := l.foldl (fun a c => 10 * a + (c.toNat - 48)) 0

theorem num_from (l : List UInt8) (a : Nat) : l.foldl (fun a c => 10 * a + (c.toNat - 48)) a = a * 10 ^ l.length + num l := by
  induction l generalizing a with
  | nil => simp [num]
  | cons c r ih =>
    have e : num (c :: r) = (c.toNat - 48) * 10 ^ r.length + num r := by
      show List.foldl _ (10 * 0 + (c.toNat - 48)) r = _
      rw [ih, Nat.mul_zero, Nat.zero_add]
    rw [List.foldl_cons, ih, e, List.length_cons, Nat.pow_succ, Nat.add_mul, Nat.add_assoc]
    congr 1
    rw [Nat.mul_comm 10 a, Nat.mul_assoc, Nat.mul_comm (10 ^ r.length) 10]

theorem num_cons (c : UInt8) (r : List UInt8) : num (c :: r) = (c.toNat - 48) * 10 ^ r.length + num r := by
  rw [num, List.foldl_cons, num_from]; simp

theorem num_lt (l : List UInt8) (h : ∀ c ∈ l, 48 ≤ c.toNat ∧ c.toNat ≤ 57) : num l < 10 ^ l.length := by
  induction l with
  | nil => simp [num]
  | cons c r ih =>
    have h1 := ih (fun d hd => h d (by simp [hd]))
    have hc := h c (by simp)
    rw [num_cons, List.length_cons, Nat.pow_succ]
    have : (c.toNat - 48) * 10 ^ r.length ≤ 9 * 10 ^ r.length := Nat.mul_le_mul_right _ (by omega)
    omega

/-- Digits of one length stand in the order of their numbers. -/
theorem num_order : ∀ (l m : List UInt8), l.length = m.length → (∀ c ∈ l, 48 ≤ c.toNat ∧ c.toNat ≤ 57) → (∀ c ∈ m, 48 ≤ c.toNat ∧ c.toNat ≤ 57) → (l < m ↔ num l < num m)
  | [], [], _, _, _ => by simp [num]
  | [], _ :: _, h, _, _ => by simp at h
  | _ :: _, [], h, _, _ => by simp at h
  | c :: l, d :: m, h, hl, hm => by
    have hlen : l.length = m.length := by simpa using h
    have ih := num_order l m hlen (fun x hx => hl x (by simp [hx])) (fun x hx => hm x (by simp [hx]))
    have hc := hl c (by simp)
    have hd := hm d (by simp)
    have n1 := num_lt l (fun x hx => hl x (by simp [hx]))
    have n2 := num_lt m (fun x hx => hm x (by simp [hx]))
    rw [List.cons_lt_cons_iff, num_cons, num_cons, ih, ← hlen]
    rw [← hlen] at n2
    obtain ⟨x, hx⟩ : ∃ x, x = 10 ^ l.length := ⟨_, rfl⟩
    rw [← hx] at n1 n2 ⊢
    constructor
    · rintro (h' | ⟨rfl, h'⟩)
      · have h2 : c.toNat < d.toNat := UInt8.lt_iff_toNat_lt.1 h'
        have : (c.toNat - 48 + 1) * x ≤ (d.toNat - 48) * x := Nat.mul_le_mul_right _ (by omega)
        rw [Nat.add_mul] at this
        omega
      · omega
    · intro h'
      rcases Nat.lt_trichotomy c.toNat d.toNat with h2 | h2 | h2
      · exact Or.inl (UInt8.lt_iff_toNat_lt.2 h2)
      · obtain rfl := UInt8.toNat_inj.1 h2
        exact Or.inr ⟨rfl, by omega⟩
      · have : (d.toNat - 48 + 1) * x ≤ (c.toNat - 48) * x := Nat.mul_le_mul_right _ (by omega)
        rw [Nat.add_mul] at this
        omega

theorem num_same {l m : List UInt8} (hlen : l.length = m.length) (hl : ∀ c ∈ l, 48 ≤ c.toNat ∧ c.toNat ≤ 57) (hm : ∀ c ∈ m, 48 ≤ c.toNat ∧ c.toNat ≤ 57) (h : num l = num m) : l = m := by
  have h1 := num_order l m hlen hl hm
  have h2 := num_order m l hlen.symm hm hl
  exact List.le_antisymm (List.not_lt.1 (by rw [h2]; omega)) (List.not_lt.1 (by rw [h1]; omega))

/-- 0s ahead change nothing of the number. -/
theorem num_zero (l : List UInt8) : num (48 :: l) = num l := by rw [num_cons]; simp

/-- Where a version stands: smaller for what is below. -/
def partKey (p : List UInt8) : List Int := if digits p then [0, (num p : Int)] else 1 :: p.map fun c => (c.toNat : Int)
def preKey (p : List UInt8) : List (List Int) := if p = [] then [[2]] else [1] :: (parts p).map partKey
def key (v : Ver) : List (List Int) := [v.maj] :: [v.min] :: [v.pat] :: preKey v.pre

/-- -1, 0, 1 of keys. -/
def three {α : Type} [LT α] [DecidableLT α] (a b : α) : Int := if a < b then -1 else if b < a then 1 else 0
def cmp (a b : Ver) : Int := three (key a) (key b)

theorem three_turn {a b : List (List Int)} : three b a = - three a b := by
  unfold three
  by_cases h : a < b
  · rw [if_neg (List.lt_asymm h), if_pos h, if_pos h]; rfl
  · by_cases h2 : b < a
    · rw [if_pos h2, if_neg h, if_pos h2]
    · rw [if_neg h2, if_neg h, if_neg h, if_neg h2]; rfl

theorem three_zero {a b : List (List Int)} : three a b = 0 ↔ a = b := by
  unfold three
  constructor
  · intro h
    by_cases h1 : a < b
    · rw [if_pos h1] at h; omega
    · rw [if_neg h1] at h
      by_cases h2 : b < a
      · rw [if_pos h2] at h; omega
      · exact List.le_antisymm (List.not_lt.1 h2) (List.not_lt.1 h1)
  · rintro rfl
    rw [if_neg (List.lt_irrefl a), if_neg (List.lt_irrefl a)]

theorem three_le {a b : List (List Int)} : three a b ≤ 0 ↔ ¬ b < a := by
  unfold three
  by_cases h : a < b
  · rw [if_pos h]; exact ⟨fun _ => List.lt_asymm h, fun _ => by omega⟩
  · rw [if_neg h]
    by_cases h2 : b < a
    · rw [if_pos h2]; exact ⟨fun h' => absurd h' (by omega), fun h' => absurd h2 h'⟩
    · rw [if_neg h2]; exact ⟨fun _ => h2, fun _ => by omega⟩

theorem three_trans {a b c : List (List Int)} (h1 : three a b ≤ 0) (h2 : three b c ≤ 0) : three a c ≤ 0 := by
  rw [three_le] at h1 h2 ⊢
  exact List.not_lt.2 (List.le_trans (List.not_lt.1 h1) (List.not_lt.1 h2))

theorem three_range (a b : List (List Int)) : three a b = -1 ∨ three a b = 0 ∨ three a b = 1 := by
  unfold three; split; exact Or.inl rfl; split; exact Or.inr (Or.inr rfl); exact Or.inr (Or.inl rfl)

end Sem

/- Mathematics of layer 4, the order step by step: parts, versions. -/
namespace Sem

theorem three_congr {α β : Type} [LT α] [DecidableLT α] [LT β] [DecidableLT β] {a b : α} {c d : β} (h1 : a < b ↔ c < d) (h2 : b < a ↔ d < c) : three a b = three c d := by
  unfold three
  by_cases h : a < b
  · rw [if_pos h, if_pos (h1.1 h)]
  · rw [if_neg h, if_neg (fun h' => h (h1.2 h'))]
    by_cases h' : b < a
    · rw [if_pos h', if_pos (h2.1 h')]
    · rw [if_neg h', if_neg (fun h'' => h' (h2.2 h''))]

theorem three_same {α : Type} [LT α] [DecidableLT α] {a : α} (h : ¬ a < a) : three a a = 0 := by
  unfold three; rw [if_neg h, if_neg h]

/-- By the first thing, then by the rest. -/
theorem three_cons {α : Type} [LT α] [DecidableLT α] [DecidableEq α] [DecidableLT (List α)] (irr : ∀ x : α, ¬ x < x) (x y : α) (l m : List α) :
    three (x :: l) (y :: m) = if x = y then three l m else if x < y then -1 else if y < x then 1 else 0 := by
  by_cases e : x = y
  · subst e
    rw [if_pos rfl]
    refine three_congr ?_ ?_ <;> rw [List.cons_lt_cons_iff] <;> exact ⟨fun h => h.elim (fun h => absurd h (irr _)) (·.2), fun h => Or.inr ⟨rfl, h⟩⟩
  · rw [if_neg e]
    refine three_congr (α := List α) (β := α) (c := x) (d := y) ?_ ?_ |>.trans rfl <;> rw [List.cons_lt_cons_iff]
    · exact ⟨fun h => h.elim id (fun h => absurd h.1 e), Or.inl⟩
    · exact ⟨fun h => h.elim id (fun h => absurd h.1.symm e), Or.inl⟩

theorem bytes_lt : ∀ (l m : List UInt8), l.map (fun c => (c.toNat : Int)) < m.map (fun c => (c.toNat : Int)) ↔ l < m
  | [], [] => by simp
  | [], _ :: _ => by simp
  | _ :: _, [] => by simp
  | a :: l, b :: m => by
    rw [List.map_cons, List.map_cons, List.cons_lt_cons_iff, List.cons_lt_cons_iff, bytes_lt l m]
    have h1 : ((a.toNat : Int) < b.toNat) ↔ a < b := by rw [UInt8.lt_iff_toNat_lt]; omega
    have h2 : ((a.toNat : Int) = b.toNat) ↔ a = b := by
      constructor
      · intro h; exact UInt8.toNat_inj.1 (by omega)
      · rintro rfl; rfl
    rw [h1, h2]

theorem num_pad (k : Nat) (l : List UInt8) : num (List.replicate k 48 ++ l) = num l := by
  induction k with
  | zero => rfl
  | succ k ih => rw [List.replicate_succ, List.cons_append, num_zero, ih]

theorem digits_all {l : List UInt8} (h : digits l = true) : ∀ c ∈ l, 48 ≤ c.toNat ∧ c.toNat ≤ 57 := by
  intro c hc
  unfold digits at h
  rw [Bool.and_eq_true] at h
  have := List.all_eq_true.1 h.2 c hc
  simp [dig] at this
  exact this

/-- Two parts. -/
def cmpPart (a b : List UInt8) : Int := three (partKey a) (partKey b)

theorem irrI (x : Int) : ¬ x < x := Int.lt_irrefl x

theorem cmpPart_dn {a b : List UInt8} (ha : digits a = true) (hb : digits b = false) : cmpPart a b = -1 := by
  unfold cmpPart partKey
  rw [ha, hb, if_pos rfl, if_neg (by simp), three_cons irrI, if_neg (by decide), if_pos (by decide)]
theorem cmpPart_nd {a b : List UInt8} (ha : digits a = false) (hb : digits b = true) : cmpPart a b = 1 := by
  unfold cmpPart partKey
  rw [ha, hb, if_pos rfl, if_neg (by simp), three_cons irrI, if_neg (by decide), if_neg (by decide), if_pos (by decide)]
theorem cmpPart_nn {a b : List UInt8} (ha : digits a = false) (hb : digits b = false) : cmpPart a b = three a b := by
  unfold cmpPart partKey
  rw [ha, hb, if_neg (by simp), if_neg (by simp), three_cons irrI, if_pos rfl]
  exact three_congr (bytes_lt _ _) (bytes_lt _ _)
theorem cmpPart_dd {a b : List UInt8} (ha : digits a = true) (hb : digits b = true) (j k : Nat) (h : j + a.length = k + b.length) :
    cmpPart a b = three (List.replicate j 48 ++ a) (List.replicate k 48 ++ b) := by
  have h1 : ∀ c ∈ List.replicate j 48 ++ a, 48 ≤ (c : UInt8).toNat ∧ c.toNat ≤ 57 := by
    intro c hc
    rcases List.mem_append.1 hc with hc | hc
    · rw [List.mem_replicate] at hc; obtain ⟨_, rfl⟩ := hc; decide
    · exact digits_all ha c hc
  have h2 : ∀ c ∈ List.replicate k 48 ++ b, 48 ≤ (c : UInt8).toNat ∧ c.toNat ≤ 57 := by
    intro c hc
    rcases List.mem_append.1 hc with hc | hc
    · rw [List.mem_replicate] at hc; obtain ⟨_, rfl⟩ := hc; decide
    · exact digits_all hb c hc
  have hl : (List.replicate j 48 ++ a).length = (List.replicate k (48 : UInt8) ++ b).length := by simp; omega
  unfold cmpPart partKey
  rw [ha, hb, if_pos rfl, if_pos rfl, three_cons irrI, if_pos rfl]
  refine three_congr ?_ ?_
  · rw [num_order _ _ hl h1 h2, num_pad, num_pad, List.cons_lt_cons_iff]
    simp
  · rw [num_order _ _ hl.symm h2 h1, num_pad, num_pad, List.cons_lt_cons_iff]
    simp

/-- Parts one by one. -/
def cmpParts : List (List UInt8) → List (List UInt8) → Int
  | [], [] => 0
  | [], _ :: _ => -1
  | _ :: _, [] => 1
  | a :: l, b :: m => if cmpPart a b = 0 then cmpParts l m else cmpPart a b

theorem irrL (x : List Int) : ¬ x < x := List.lt_irrefl x

theorem cmpParts_key : ∀ l m : List (List UInt8), three (l.map partKey) (m.map partKey) = cmpParts l m
  | [], [] => by simp [three, cmpParts]
  | [], _ :: _ => by simp [three, cmpParts]
  | _ :: _, [] => by simp [three, cmpParts]
  | a :: l, b :: m => by
    have h0 : cmpPart a b = 0 ↔ partKey a = partKey b := by
      unfold cmpPart three
      constructor
      · intro h
        by_cases h1 : partKey a < partKey b
        · rw [if_pos h1] at h; omega
        · rw [if_neg h1] at h
          by_cases h2 : partKey b < partKey a
          · rw [if_pos h2] at h; omega
          · exact List.le_antisymm (List.not_lt.1 h2) (List.not_lt.1 h1)
      · intro h; rw [h, if_neg (irrL _), if_neg (irrL _)]
    rw [List.map_cons, List.map_cons, three_cons irrL, cmpParts, cmpParts_key l m]
    by_cases h : partKey a = partKey b
    · rw [if_pos h, if_pos (h0.2 h)]
    · rw [if_neg h, if_neg (fun h' => h (h0.1 h'))]
      rfl

theorem cmp_steps (v w : Ver) : cmp v w = if v.maj = w.maj then (if v.min = w.min then (if v.pat = w.pat then three (preKey v.pre) (preKey w.pre)
      else if v.pat < w.pat then -1 else if w.pat < v.pat then 1 else 0) else if v.min < w.min then -1 else if w.min < v.min then 1 else 0) else if v.maj < w.maj then -1 else if w.maj < v.maj then 1 else 0 := by
  have one : ∀ x y : Int, ([x] = [y]) = (x = y) := by intro x y; simp
  have lt1 : ∀ x y : Int, ([x] < [y]) = (x < y) := by intro x y; rw [List.cons_lt_cons_iff]; simp
  unfold cmp key
  rw [three_cons irrL, three_cons irrL, three_cons irrL]
  simp only [one, lt1]

theorem preKey_cases (p q : List UInt8) : three (preKey p) (preKey q) = if p = [] then (if q = [] then 0 else 1) else if q = [] then -1 else cmpParts (parts p) (parts q) := by
  unfold preKey
  by_cases h1 : p = []
  · rw [if_pos h1, if_pos h1]
    by_cases h2 : q = []
    · rw [if_pos h2, if_pos h2]; exact three_same (List.lt_irrefl _)
    · rw [if_neg h2, if_neg h2, three_cons irrL, if_neg (by decide), if_neg (by decide), if_pos (by decide)]
  · rw [if_neg h1, if_neg h1]
    by_cases h2 : q = []
    · rw [if_pos h2, if_pos h2, three_cons irrL, if_neg (by decide), if_pos (by decide)]
    · rw [if_neg h2, if_neg h2, three_cons irrL, if_pos rfl, cmpParts_key]

/-- Keys of parts that may be are unlike. -/
theorem part_digits_len {p : List UInt8} (h : part p = true) (hd : digits p = true) : p = [48] ∨ 10 ^ (p.length - 1) ≤ num p := by
  unfold part at h
  rw [hd] at h
  match p, h with
  | c :: r, h =>
    by_cases e : c :: r = [48]
    · exact Or.inl e
    · right
      have hc := digits_all hd c (by simp)
      have h48 : c.toNat ≠ 48 := by
        intro h'
        have : c = 48 := UInt8.toNat_inj.1 h'
        subst this
        simp at h e
        exact absurd h.2 e
      rw [num_cons, List.length_cons, Nat.add_sub_cancel]
      have : 1 * 10 ^ r.length ≤ (c.toNat - 48) * 10 ^ r.length := Nat.mul_le_mul_right _ (by omega)
      omega

theorem partKey_inj {p q : List UInt8} (hp : part p = true) (hq : part q = true) (h : partKey p = partKey q) : p = q := by
  unfold partKey at h
  cases hdp : digits p
  · cases hdq : digits q
    · rw [hdp, hdq, if_neg (by simp), if_neg (by simp)] at h
      simp only [List.cons.injEq, true_and] at h
      have : ∀ l m : List UInt8, l.map (fun c => (c.toNat : Int)) = m.map (fun c => (c.toNat : Int)) → l = m := by
        intro l
        induction l with
        | nil => intro m h; simpa using h
        | cons a l ih =>
          intro m h
          match m, h with
          | [], h => simp at h
          | b :: m, h =>
            simp only [List.map_cons, List.cons.injEq] at h
            rw [ih m h.2, UInt8.toNat_inj.1 (show a.toNat = b.toNat by omega)]
      exact this p q h
    · rw [hdp, hdq] at h; simp at h
  · cases hdq : digits q
    · rw [hdp, hdq] at h; simp at h
    · rw [hdp, hdq] at h
      have hn : num p = num q := by
        have h' : ((num p : Nat) : Int) = ((num q : Nat) : Int) := by simpa using h
        omega
      have n1 := num_lt p (digits_all hdp)
      have n2 := num_lt q (digits_all hdq)
      have hpl : 1 ≤ p.length := by
        cases p with
        | nil => simp [digits] at hdp
        | cons => simp
      have hql : 1 ≤ q.length := by
        cases q with
        | nil => simp [digits] at hdq
        | cons => simp
      have hlen : p.length = q.length := by
        rcases Nat.lt_trichotomy p.length q.length with h' | h' | h'
        · rcases part_digits_len hq hdq with e | e
          · rw [e, List.length_singleton] at h'; omega
          · have := Nat.pow_le_pow_right (n := 10) (by omega) (show p.length ≤ q.length - 1 by omega); omega
        · exact h'
        · rcases part_digits_len hp hdp with e | e
          · rw [e, List.length_singleton] at h'; omega
          · have := Nat.pow_le_pow_right (n := 10) (by omega) (show q.length ≤ p.length - 1 by omega); omega
      exact num_same hlen (digits_all hdp) (digits_all hdq) hn

theorem keys_inj : ∀ {l m : List (List UInt8)}, (∀ p ∈ l, part p = true) → (∀ p ∈ m, part p = true) → l.map partKey = m.map partKey → l = m
  | [], [], _, _, _ => rfl
  | [], _ :: _, _, _, h => by simp at h
  | _ :: _, [], _, _, h => by simp at h
  | a :: l, b :: m, hl, hm, h => by
    simp only [List.map_cons, List.cons.injEq] at h
    rw [partKey_inj (hl a (by simp)) (hm b (by simp)) h.1, keys_inj (fun p hp => hl p (by simp [hp])) (fun p hp => hm p (by simp [hp])) h.2]

theorem key_inj {v w : Ver} (hv : may v = true) (hw : may w = true) (h : key v = key w) : v = w := by
  rw [may_iff] at hv hw
  obtain ⟨a, b, c, p⟩ := v
  obtain ⟨a', b', c', q⟩ := w
  unfold key at h
  simp only [List.cons.injEq, and_true] at h
  obtain ⟨rfl, rfl, rfl, h⟩ := h
  have : p = q := by
    unfold preKey at h
    by_cases h1 : p = []
    · by_cases h2 : q = []
      · rw [h1, h2]
      · rw [if_pos h1, if_neg h2] at h; simp at h
    · by_cases h2 : q = []
      · rw [if_neg h1, if_pos h2] at h; simp at h
      · rw [if_neg h1, if_neg h2] at h
        simp only [List.cons.injEq, true_and] at h
        have e1 : (parts p).all part = true := by
          have := hv.2.2.2.2; unfold preOk at this; simpa [h1] using this
        have e2 : (parts q).all part = true := by
          have := hw.2.2.2.2; unfold preOk at this; simpa [h2] using this
        exact parts_inj (keys_inj (List.all_eq_true.1 e1) (List.all_eq_true.1 e2) h)
  rw [this]

end Sem

/- Mathematics of layer 4 for the laws: the highest one by one look, cores, the order of versions. -/
namespace Sem

/-- No other one is above. -/
def top (l : List Ver) (v : Ver) : Bool := l.all fun u => decide (cmp u v ≤ 0)
/-- The first one that no other one is above. -/
def best (l : List Ver) : Option Ver := l.find? (top l)

theorem best_at {l : List Ver} {i : Nat} (hi : i < l.length) (h : top l l[i] = true) (hb : ∀ j (hj : j < l.length), j < i → top l l[j] = false) : best l = some l[i] := by
  unfold best
  rw [List.find?_eq_some_iff_getElem]
  exact ⟨h, i, hi, rfl, fun j hj => by simp [hb j (by omega) hj]⟩

theorem best_none {l : List Ver} (hb : ∀ j (hj : j < l.length), top l l[j] = false) : best l = none := by
  unfold best
  rw [List.find?_eq_none]
  intro v hv
  obtain ⟨j, hj, rfl⟩ := List.getElem_of_mem hv
  simp [hb j hj]

theorem cmp_turn (a b : Ver) : cmp b a = - cmp a b := three_turn
theorem cmp_same (a : Ver) : cmp a a = 0 := three_zero.2 rfl
theorem cmp_trans {a b c : Ver} (h1 : cmp a b ≤ 0) (h2 : cmp b c ≤ 0) : cmp a c ≤ 0 := three_trans h1 h2
theorem cmp_range (a b : Ver) : cmp a b = -1 ∨ cmp a b = 0 ∨ cmp a b = 1 := three_range _ _
theorem cmp_zero {a b : Ver} (ha : may a = true) (hb : may b = true) : cmp a b = 0 ↔ a = b :=
  ⟨fun h => key_inj ha hb (three_zero.1 h), fun h => by rw [h]; exact cmp_same b⟩

/-- Number i leads among the first k. -/
structure Lead (l : List Ver) (k i : Nat) : Prop where
  lt : i < k
  le : k ≤ l.length
  most : ∀ j (h : j < k), cmp (l[j]'(by omega)) (l[i]'(by omega)) ≤ 0
  first : ∀ j (h : j < i), cmp (l[j]'(by omega)) (l[i]'(by omega)) < 0

theorem lead_first {l : List Ver} (h : 0 < l.length) : Lead l 1 0 :=
  ⟨by omega, h, fun j hj => by obtain rfl : j = 0 := by omega
                               rw [cmp_same]; omega, fun j hj => absurd hj (by omega)⟩

theorem lead_keep {l : List Ver} {k i : Nat} (h : Lead l k i) (hk : k < l.length) (hc : cmp l[k] (l[i]'(by have := h.lt; omega)) ≤ 0) : Lead l (k + 1) i :=
  ⟨by have := h.lt; omega, hk, fun j hj => by
    rcases Nat.lt_succ_iff_lt_or_eq.1 hj with h' | rfl
    · exact h.most j h'
    · exact hc, h.first⟩

theorem lead_take {l : List Ver} {k i : Nat} (h : Lead l k i) (hk : k < l.length) (hc : 0 < cmp l[k] (l[i]'(by have := h.lt; omega))) : Lead l (k + 1) k := by
  have hi := h.lt
  have strict : ∀ j (hj : j < k), cmp (l[j]'(by omega)) l[k] < 0 := fun j hj => by
    have h1 := h.most j hj
    rcases Nat.lt_or_ge 0 (if cmp (l[j]'(by omega)) l[k] < 0 then 1 else 0) with h2 | h2
    · split at h2
      · assumption
      · omega
    · have h3 : ¬ cmp (l[j]'(by omega)) l[k] < 0 := by
        intro h'; rw [if_pos h'] at h2; omega
      have h4 : cmp l[k] (l[j]'(by omega)) ≤ 0 := by rw [cmp_turn]; omega
      have h5 := cmp_trans h4 h1
      omega
  exact ⟨by omega, hk, fun j hj => by
    rcases Nat.lt_succ_iff_lt_or_eq.1 hj with h' | rfl
    · exact Int.le_of_lt (strict j h')
    · rw [cmp_same]; omega, strict⟩

theorem lead_best {l : List Ver} {i : Nat} (h : Lead l l.length i) : best l = some (l[i]'h.lt) := by
  refine best_at h.lt ?_ fun j hj hji => ?_
  · unfold top
    rw [List.all_eq_true]
    intro v hv
    obtain ⟨j, hj, rfl⟩ := List.getElem_of_mem hv
    exact decide_eq_true (h.most j hj)
  · unfold top
    rw [List.all_eq_false]
    refine ⟨l[i]'h.lt, List.getElem_mem _, ?_⟩
    have h1 := h.first j hji
    have h2 := cmp_turn l[j] (l[i]'h.lt)
    simp only [decide_eq_true_eq]
    omega

/-- A version's core. -/
def core (v : Ver) : Ver := ⟨v.maj, v.min, v.pat, []⟩

theorem core_core (v : Ver) : core (core v) = core v := rfl

theorem pre_below {v : Ver} (h : v.pre ≠ []) : cmp v (core v) = -1 := by
  rw [cmp_steps]
  simp only [core, if_true]
  rw [preKey_cases, if_neg h, if_pos rfl]

theorem core_first {a b : Ver} (h : cmp (core b) (core a) ≠ 0) : cmp b a = cmp (core b) (core a) := by
  have e1 := cmp_steps b a
  have e2 : cmp (core b) (core a) = if b.maj = a.maj then (if b.min = a.min then (if b.pat = a.pat then three (preKey []) (preKey [])
      else if b.pat < a.pat then -1 else if a.pat < b.pat then 1 else 0) else if b.min < a.min then -1 else if a.min < b.min then 1 else 0) else if b.maj < a.maj then -1 else if a.maj < b.maj then 1 else 0 := cmp_steps (core b) (core a)
  rw [e2] at h ⊢
  rw [e1]
  by_cases h1 : b.maj = a.maj
  · simp only [if_pos h1] at h ⊢
    by_cases h2 : b.min = a.min
    · simp only [if_pos h2] at h ⊢
      by_cases h3 : b.pat = a.pat
      · simp only [if_pos h3] at h
        rw [preKey_cases, if_pos rfl, if_pos rfl] at h
        exact absurd rfl h
      · simp only [if_neg h3]
    · simp only [if_neg h2]
  · simp only [if_neg h1]

/-- Two tops: the core is the highest of a version with something behind the - and its core. -/
theorem best_core {a : Ver} (h : a.pre ≠ []) : best [a, core a] = some (core a) := by
  have h1 := pre_below h
  have h2 : cmp (core a) a = 1 := by rw [cmp_turn, h1]; rfl
  exact lead_best (l := [a, core a]) (i := 1) (lead_take (lead_first (by simp)) (by simp) (by show 0 < cmp (core a) a; omega))

theorem may_core {v : Ver} (h : may v = true) : may (core v) = true := by
  rw [may_iff] at h ⊢
  exact ⟨h.1, h.2.1, h.2.2.1, by simp [core], by simp [core, preOk]⟩

end Sem

/- Mathematics of layer 6: tokens of a source. -/
namespace Lex

def small (c : UInt8) : Bool := decide (97 ≤ c.toNat) && decide (c.toNat ≤ 122)
def great (c : UInt8) : Bool := decide (65 ≤ c.toNat) && decide (c.toNat ≤ 90)
def digit (c : UInt8) : Bool := decide (48 ≤ c.toNat) && decide (c.toNat ≤ 57)
def nameB (c : UInt8) : Bool := small c || great c || digit c || c == 95
def lumpB (c : UInt8) : Bool := small c || great c || digit c || c == 46 || c == 45
def blank (c : UInt8) : Bool := c == 9 || c == 10 || c == 13 || c == 32

/-- The words that are kept. -/
def words : List (List UInt8) := [[109, 111, 100, 117, 108, 101], [105, 109, 112, 111, 114, 116], [112, 105, 110], [114, 97, 110, 103, 101], [116, 121, 112, 101], [111, 112, 97, 113, 117, 101], [108, 101, 116], [105, 110], [101, 120, 112, 111, 114, 116], [102, 117, 110], [105, 102], [116, 104, 101, 110], [101, 108, 115, 101], [99, 97, 115, 101], [111, 102], [97, 115], [110, 101, 119], [114, 97, 119], [116, 114, 117, 101], [102, 97, 108, 115, 101]]
def signs : List (List UInt8) := [[40], [41], [123], [125], [91], [93], [60], [62], [60, 61], [62, 61], [61], [94], [42], [44], [58], [46], [47], [64], [124], [45, 62]]

def isWord (s : List UInt8) : Bool := words.contains s
def isSign (s : List UInt8) : Bool := signs.contains s
def isName (s : List UInt8) : Bool := match s with
  | [] => false
  | c :: _ => decide (s.length ≤ 24) && small c && s.all nameB && !isWord s
def isUpper (s : List UInt8) : Bool := match s with
  | [] => false
  | c :: _ => decide (s.length ≤ 24) && great c && s.all nameB
def number (s : List UInt8) : Bool := s.all digit && decide (1 ≤ s.length) && decide (s.length ≤ 15) && (decide (s.length = 1) || decide (s.head? ≠ some 48))

/-- A token, without its place. -/
structure Tok where
  kind : Int
  text : List UInt8
deriving DecidableEq

/-- What stands for a code point in a quoted text. -/
def escP (p : Int) : List UInt8 := if p = 10 then [92, 110] else if p = 9 then [92, 116] else if p = 34 then [92, 34] else if p = 92 then [92, 92] else Utf.bytes p
def okP (p : Int) : Bool := Utf.pt p && (decide (32 ≤ p) || decide (p = 10) || decide (p = 9))

/-- The code point that the inner of a quoted text begins with, and how many bytes stand for it. -/
def one : List UInt8 → Option (Int × Nat)
  | [] => none
  | c :: r => if c = 34 ∨ c.toNat < 32 then none else if c = 92 then
      (match r with
      | [] => none
      | d :: _ => if d = 110 then some (10, 2) else if d = 116 then some (9, 2) else if d = 34 then some (34, 2) else if d = 92 then some (92, 2) else none)
    else if (Utf.first (c :: r)).2 = 0 then none else some (Utf.first (c :: r))

theorem one_cons (c : UInt8) (r : List UInt8) : one (c :: r) = if c = 34 ∨ c.toNat < 32 then none else if c = 92 then
      (match r with
      | [] => none
      | d :: _ => if d = 110 then some ((10 : Int), 2) else if d = 116 then some ((9 : Int), 2) else if d = 34 then some ((34 : Int), 2) else if d = 92 then some ((92 : Int), 2) else none)
    else if (Utf.first (c :: r)).2 = 0 then none else some (Utf.first (c :: r)) := rfl

theorem escP_len (p : Int) : 1 ≤ (escP p).length ∧ (escP p).length ≤ 4 := by
  unfold escP
  have := Utf.width_pos p
  split; · simp
  split; · simp
  split; · simp
  split; · simp
  rw [Utf.bytes_length]; omega

/-- One code point's bytes, from 32 on, are no sign of another kind. -/
theorem bytes_plain {p : Int} (h : Utf.pt p = true) (h32 : 32 ≤ p) (n1 : p ≠ 34) (n2 : p ≠ 92) : ∃ a r, Utf.bytes p = a :: r ∧ a ≠ 34 ∧ ¬ a.toNat < 32 ∧ a ≠ 92 := by
  obtain ⟨a, r, e, hk, _, _⟩ := Utf.bytes_kind p h
  refine ⟨a, r, e, ?_⟩
  by_cases hp : p < 128
  · have hb : Utf.bytes p = [Utf.byte p] := by unfold Utf.bytes; rw [if_pos hp]
    rw [hb] at e
    obtain ⟨rfl, _⟩ : Utf.byte p = a ∧ [] = r := by simpa using e
    have ht := Utf.byte_toNat p
    have hm : p % 256 = p := Int.emod_eq_of_lt (by omega) (by omega)
    rw [hm] at ht
    refine ⟨?_, by omega, ?_⟩
    · intro h; rw [h] at ht; exact n1 (by rw [← ht]; rfl)
    · intro h; rw [h] at ht; exact n2 (by rw [← ht]; rfl)
  · have h194 : 194 ≤ a.toNat := by
      rcases hk with hk | hk
      · exfalso
        have hf := Utf.first_bytes p h []
        rw [List.append_nil, e] at hf
        have hw : 2 ≤ Utf.width p := by unfold Utf.width; rw [if_neg hp]; split; omega; split <;> omega
        have := Utf.bytes_length p
        obtain ⟨a', r', e', h1, h2⟩ := Utf.val_bytes p h
        rw [e] at e'
        obtain ⟨rfl, rfl⟩ : a = a' ∧ r = r' := by simpa using e'
        rcases Utf.lead_cases a.toNat with ⟨_, hl⟩ | ⟨h3, _, _⟩ | ⟨h3, _, _⟩ | ⟨h3, _⟩
        · rw [hl] at h1
          rw [e, List.length_cons] at this
          simp only at h1
          omega
        all_goals omega
      · exact hk
    refine ⟨?_, by omega, ?_⟩
    · rintro rfl; revert h194; decide
    · rintro rfl; revert h194; decide

theorem one_esc {p : Int} (h : okP p = true) (l : List UInt8) : one (escP p ++ l) = some (p, (escP p).length) := by
  simp only [okP, Bool.and_eq_true, Bool.or_eq_true, decide_eq_true_eq] at h
  obtain ⟨h1, h2⟩ := h
  unfold escP
  by_cases e1 : p = 10
  · subst e1; rfl
  rw [if_neg e1]
  by_cases e2 : p = 9
  · subst e2; rfl
  rw [if_neg e2]
  by_cases e3 : p = 34
  · subst e3; rfl
  rw [if_neg e3]
  by_cases e4 : p = 92
  · subst e4; rfl
  rw [if_neg e4]
  obtain ⟨a, r, e, n1, n2, n3⟩ := bytes_plain h1 (by omega) e3 e4
  have hf := Utf.first_bytes p h1 l
  have hw := Utf.width_pos p
  have hl := Utf.bytes_length p
  rw [e] at hf hl ⊢
  rw [List.cons_append] at hf ⊢
  rw [one_cons, if_neg (by rintro (h | h); exact n1 h; exact n2 h), if_neg n3, hf, if_neg (by simp only; omega), hl]

theorem one_some {l : List UInt8} {p : Int} {n : Nat} (h : one l = some (p, n)) : okP p = true ∧ n = (escP p).length ∧ l = escP p ++ l.drop n ∧ 1 ≤ n ∧ n ≤ l.length := by
  cases l with
  | nil => cases h
  | cons c r =>
    rw [one_cons] at h
    split at h
    · cases h
    · rename_i hc
      split at h
      · rename_i h92
        subst h92
        cases r with
        | nil => cases h
        | cons d q =>
          simp only at h
          split at h
          · rename_i hd; subst hd
            obtain ⟨rfl, rfl⟩ : 10 = p ∧ 2 = n := by simpa using h
            exact ⟨rfl, rfl, rfl, by omega, by simp⟩
          split at h
          · rename_i hd; subst hd
            obtain ⟨rfl, rfl⟩ : 9 = p ∧ 2 = n := by simpa using h
            exact ⟨rfl, rfl, rfl, by omega, by simp⟩
          split at h
          · rename_i hd; subst hd
            obtain ⟨rfl, rfl⟩ : 34 = p ∧ 2 = n := by simpa using h
            exact ⟨rfl, rfl, rfl, by omega, by simp⟩
          split at h
          · rename_i hd; subst hd
            obtain ⟨rfl, rfl⟩ : 92 = p ∧ 2 = n := by simpa using h
            exact ⟨rfl, rfl, rfl, by omega, by simp⟩
          · cases h
      · rename_i h92
        split at h
        · cases h
        · rename_i hn
          have hf : Utf.first (c :: r) = (p, n) := by simpa using h
          rw [hf] at hn
          obtain ⟨hp, hw, hl, hle⟩ := Utf.first_some hf hn
          have hpos := Utf.width_pos p
          -- the first byte tells that p is none of the four, and 32 at least
          obtain ⟨a, q, e, _⟩ := Utf.bytes_kind p hp
          have hca : c = a := by
            rw [e, List.cons_append] at hl
            exact (List.cons.inj hl).1
          have h32 : 32 ≤ p ∧ p ≠ 34 ∧ p ≠ 92 := by
            by_cases hp128 : p < 128
            · have hb : Utf.bytes p = [Utf.byte p] := by unfold Utf.bytes; rw [if_pos hp128]
              have hpt := (Utf.pt_iff p).1 hp
              have hm : p % 256 = p := Int.emod_eq_of_lt (by omega) (by omega)
              have ht := Utf.byte_toNat p
              rw [hm] at ht
              rw [hb] at e
              obtain ⟨rfl, _⟩ : Utf.byte p = a ∧ [] = q := by simpa using e
              rw [← hca] at ht
              refine ⟨?_, ?_, ?_⟩
              · have : ¬ c.toNat < 32 := fun h => hc (Or.inr h)
                omega
              · intro h34
                refine hc (Or.inl (UInt8.toNat_inj.1 ?_))
                rw [h34] at ht
                have : (c.toNat : Int) = 34 := ht
                show c.toNat = 34
                omega
              · intro h34
                refine h92 (UInt8.toNat_inj.1 ?_)
                rw [h34] at ht
                have : (c.toNat : Int) = 92 := ht
                show c.toNat = 92
                omega
            · omega
          have he : escP p = Utf.bytes p := by unfold escP; rw [if_neg (by omega), if_neg (by omega), if_neg h32.2.1, if_neg h32.2.2]
          refine ⟨?_, ?_, ?_, by omega, hle⟩
          · simp only [okP, hp, Bool.true_and, Bool.or_eq_true, decide_eq_true_eq]; exact Or.inl (Or.inl h32.1)
          · rw [he, Utf.bytes_length]; exact hw
          · rw [he]; exact hl

/-- More behind changes nothing. -/
theorem one_more {l : List UInt8} {p : Int} {n : Nat} (h : one l = some (p, n)) (m : List UInt8) : one (l ++ m) = some (p, n) := by
  obtain ⟨h1, h2, h3, _⟩ := one_some h
  rw [h3, List.append_assoc, one_esc h1, h2]

/-- A line's end behind makes no piece of what is none. -/
theorem one_line {l : List UInt8} (h : one l = none) (b : List UInt8) : one (l ++ 10 :: b) = none := by
  cases l with
  | nil => rfl
  | cons c r =>
    cases hq : one ((c :: r) ++ 10 :: b) with
    | none => rfl
    | some x =>
      exfalso
      obtain ⟨p, n⟩ := x
      obtain ⟨h1, h2, h3, h4, h5⟩ := one_some hq
      -- the piece lies within, or holds the line's end: no piece does
      by_cases hn : n ≤ (c :: r).length
      · have e : (c :: r) = escP p ++ (c :: r).drop n := by
          have ht := congrArg (List.take n) h3
          rw [List.take_append_of_le_length hn, h2, List.take_left] at ht
          rw [← h2] at ht
          conv => lhs; rw [← List.take_append_drop n (c :: r)]
          rw [ht]
        rw [e, one_esc h1] at h
        cases h
      · have hin : (10 : UInt8) ∈ escP p := by
          have ht := congrArg (List.take n) h3
          rw [h2, List.take_left, ← h2] at ht
          rw [← ht]
          have : n = (c :: r).length + 1 + (n - (c :: r).length - 1) := by omega
          rw [this, List.take_append]
          refine List.mem_append.2 (Or.inr ?_)
          rw [show (c :: r).length + 1 + (n - (c :: r).length - 1) - (c :: r).length = (n - (c :: r).length - 1) + 1 from by omega]
          simp
        have hno : ∀ x ∈ escP p, x ≠ 10 := by
          intro x hx
          simp only [okP, Bool.and_eq_true, Bool.or_eq_true, decide_eq_true_eq] at h1
          unfold escP at hx
          by_cases e1 : p = 10
          · rw [if_pos e1] at hx; simp at hx; rcases hx with rfl | rfl <;> decide
          rw [if_neg e1] at hx
          by_cases e2 : p = 9
          · rw [if_pos e2] at hx; simp at hx; rcases hx with rfl | rfl <;> decide
          rw [if_neg e2] at hx
          by_cases e3 : p = 34
          · rw [if_pos e3] at hx; simp at hx; rcases hx with rfl | rfl <;> decide
          rw [if_neg e3] at hx
          by_cases e4 : p = 92
          · rw [if_pos e4] at hx; simp at hx; subst hx; decide
          rw [if_neg e4] at hx
          obtain ⟨a, q, e, n1, n2, n3⟩ := bytes_plain h1.1 (by omega) e3 e4
          obtain ⟨a', q', e', _, _, hk⟩ := Utf.bytes_kind p h1.1
          rw [e] at e'
          obtain ⟨rfl, rfl⟩ : a = a' ∧ q = q' := by simpa using e'
          rw [e] at hx
          rcases List.mem_cons.1 hx with rfl | hx
          · rintro rfl; exact n2 (by decide)
          · have := (hk x hx).1
            rintro rfl; revert this; decide
        exact hno 10 hin rfl

/-- A quoted text's inner, and what stands behind its last whole piece. -/
def body : Nat → List UInt8 → List Int × List UInt8
  | 0, l => ([], l)
  | f + 1, l => match one l with
    | none => ([], l)
    | some (p, n) => (p :: (body f (l.drop n)).1, (body f (l.drop n)).2)

def esc (ps : List Int) : List UInt8 := ps.flatMap escP

theorem body_spec : ∀ (f : Nat) (l : List UInt8), l.length ≤ f → (∀ p ∈ (body f l).1, okP p = true) ∧ l = esc (body f l).1 ++ (body f l).2 ∧ one (body f l).2 = none
  | 0, l, h => by
    obtain rfl : l = [] := List.eq_nil_of_length_eq_zero (by omega)
    exact ⟨(fun p hp => by cases hp), rfl, rfl⟩
  | f + 1, l, h => by
    rw [body]
    cases hq : one l with
    | none => exact ⟨(fun p hp => by cases hp), rfl, hq⟩
    | some x =>
      obtain ⟨p, n⟩ := x
      obtain ⟨h1, h2, h3, h4, h5⟩ := one_some hq
      obtain ⟨i1, i2, i3⟩ := body_spec f (l.drop n) (by rw [List.length_drop]; omega)
      refine ⟨fun q hq => ?_, ?_, i3⟩
      · rcases List.mem_cons.1 hq with rfl | hq
        · exact h1
        · exact i1 q hq
      · simp only
        conv => lhs; rw [h3, i2]
        simp [esc]

/-- One reading alone. -/
theorem body_of : ∀ {ps : List Int} {rest : List UInt8} (f : Nat), (∀ p ∈ ps, okP p = true) → one rest = none → (esc ps ++ rest).length ≤ f → body f (esc ps ++ rest) = (ps, rest)
  | [], rest, f, _, hr, _ => by
    cases f with
    | zero => rfl
    | succ f => simp only [esc, List.flatMap_nil, List.nil_append]; rw [body, hr]
  | p :: ps, rest, f, hp, hr, hf => by
    have e : esc (p :: ps) ++ rest = escP p ++ (esc ps ++ rest) := by simp [esc]
    rw [e] at hf ⊢
    have hl := escP_len p
    cases f with
    | zero => rw [List.length_append] at hf; omega
    | succ f =>
      rw [body, one_esc (hp p (by simp))]
      simp only
      rw [List.drop_left, body_of f (fun q hq => hp q (List.mem_cons_of_mem _ hq)) hr (by rw [List.length_append] at hf; omega)]

/-- What a quoted text's inner tells. -/
def finish (x : List Int × List UInt8) : Except (Int × Nat) (Tok × Nat) := match x.2 with
  | [] => .error (60, 0)
  | c :: _ => if c = 34 then .ok (⟨4, Utf.enc x.1⟩, (esc x.1).length + 2) else if c.toNat < 32 ∨ c = 92 then .error (60, 0) else .error (30, (esc x.1).length + 1)

/-- What begins with a quote: the text and its end, or the fault. -/
def quoted (s : List UInt8) : Except (Int × Nat) (Tok × Nat) := finish (body s.length s.tail)

/-- How long a remark is, or where it is none of code points. -/
def remark : Nat → List UInt8 → Except Nat Nat
  | 0, _ => .ok 0
  | f + 1, l => match l with
    | [] => .ok 0
    | c :: r => if c = 10 then .ok 0 else if (Utf.first (c :: r)).2 = 0 then .error 0 else
      match remark f ((c :: r).drop (Utf.first (c :: r)).2) with
      | .ok n => .ok ((Utf.first (c :: r)).2 + n)
      | .error n => .error ((Utf.first (c :: r)).2 + n)

/-- The token that a text begins with, and how many bytes it has. -/
def token (s : List UInt8) : Except (Int × Nat) (Tok × Nat) := match s with
  | [] => .error (60, 0)
  | c :: r =>
    if small c || great c then
      (let t := (c :: r).takeWhile nameB
       if isWord t then .ok (⟨5, t⟩, t.length) else if isName t then .ok (⟨1, t⟩, t.length) else if isUpper t then .ok (⟨2, t⟩, t.length) else .error (60, 0))
    else if digit c then
      (let t := (c :: r).takeWhile lumpB
       if number t then .ok (⟨3, t⟩, t.length) else if (Sem.parse t).isSome then .ok (⟨7, t⟩, t.length) else .error (60, 0))
    else if c = 34 then quoted (c :: r)
    else if decide (2 ≤ (c :: r).length) && isSign ((c :: r).take 2) then .ok (⟨6, (c :: r).take 2⟩, 2)
    else if isSign [c] then .ok (⟨6, [c]⟩, 1)
    else .error (60, 0)

def hasRemark (s : List UInt8) : Bool := match s with
  | 45 :: 45 :: _ => true
  | _ => false

/-- A source's tokens and their places, or its first fault. -/
def scan : Nat → List UInt8 → Nat → Except (Int × Nat) (List (Tok × Nat))
  | 0, _, _ => .ok []
  | f + 1, l, i => match l with
    | [] => .ok []
    | c :: r =>
      if blank c then scan f r (i + 1)
      else if hasRemark (c :: r) then (match remark (c :: r).length (c :: r) with
        | .error k => .error (30, i + k)
        | .ok n => scan f ((c :: r).drop n) (i + n))
      else match token (c :: r) with
        | .error (e, k) => .error (e, i + k)
        | .ok (t, n) => (scan f ((c :: r).drop n) (i + n)).map ((t, i) :: ·)
end Lex

/- Mathematics of layer 6: what stands behind a token changes nothing; two sources with a line's end between. -/
namespace Lex

theorem tw_more {p : UInt8 → Bool} {c : UInt8} (h : p c = false) (b : List UInt8) : ∀ s : List UInt8, (s ++ c :: b).takeWhile p = s.takeWhile p
  | [] => by simp [h]
  | x :: r => by
    rw [List.cons_append]
    by_cases hx : p x = true
    · rw [List.takeWhile_cons_of_pos hx, List.takeWhile_cons_of_pos hx, tw_more h b r]
    · rw [List.takeWhile_cons_of_neg hx, List.takeWhile_cons_of_neg hx]

theorem tw_len (p : UInt8 → Bool) : ∀ s : List UInt8, (s.takeWhile p).length ≤ s.length ∧ s.take (s.takeWhile p).length = s.takeWhile p
  | [] => ⟨Nat.le_refl _, rfl⟩
  | x :: r => by
    obtain ⟨h1, h2⟩ := tw_len p r
    by_cases hx : p x = true
    · rw [List.takeWhile_cons_of_pos hx, List.length_cons, List.length_cons, List.take_succ_cons, h2]; exact ⟨by omega, rfl⟩
    · rw [List.takeWhile_cons_of_neg hx]; exact ⟨Nat.zero_le _, rfl⟩

theorem quoted_line {s : List UInt8} (hs : s ≠ []) (b : List UInt8) : quoted (s ++ 10 :: b) = quoted s := by
  obtain ⟨x, r, rfl⟩ : ∃ x r, s = x :: r := by cases s with
    | nil => exact absurd rfl hs
    | cons x r => exact ⟨x, r, rfl⟩
  obtain ⟨h1, h2, h3⟩ := body_spec (x :: r).length r (by simp)
  have hb : body ((x :: r) ++ 10 :: b).length ((x :: r) ++ 10 :: b).tail = ((body (x :: r).length r).1, (body (x :: r).length r).2 ++ 10 :: b) := by
    have e : ((x :: r) ++ 10 :: b).tail = esc (body (x :: r).length r).1 ++ ((body (x :: r).length r).2 ++ 10 :: b) := by
      show r ++ 10 :: b = _
      conv => lhs; rw [h2]
      rw [List.append_assoc]
    rw [e]
    refine body_of _ h1 (one_line h3 b) ?_
    rw [← e]; simp
  unfold quoted
  rw [hb]
  show _ = finish (body (x :: r).length r)
  rcases hq : body (x :: r).length r with ⟨ps, rest⟩
  cases rest with
  | nil => simp [finish]
  | cons c q => rfl

theorem quoted_more {s : List UInt8} {t : Tok} {n : Nat} (h : quoted s = .ok (t, n)) (m : List UInt8) : quoted (s ++ m) = .ok (t, n) := by
  cases s with
  | nil => cases h
  | cons x r =>
    obtain ⟨h1, h2, h3⟩ := body_spec (x :: r).length r (by simp)
    unfold quoted at h ⊢
    rw [List.tail_cons] at h
    rcases hq : body (x :: r).length r with ⟨ps, rest⟩
    rw [hq] at h h1 h2 h3
    unfold finish at h ⊢
    simp only at h h1 h2 h3
    cases rest with
    | nil => cases h
    | cons c q =>
      simp only at h
      split at h
      · rename_i hc
        subst hc
        have e : ((x :: r) ++ m).tail = esc ps ++ (34 :: (q ++ m)) := by
          show r ++ m = _
          rw [h2]; simp
        have hb : body ((x :: r) ++ m).length ((x :: r) ++ m).tail = (ps, 34 :: (q ++ m)) := by
          rw [e]
          refine body_of _ h1 (by rw [one_cons, if_pos (Or.inl rfl)]) ?_
          rw [← e]; simp
        rw [hb]
        simp only [if_true]
        exact h
      · split at h <;> cases h

theorem sign_line (x : UInt8) : isSign [x, 10] = false ∧ isSign [x, 32] = false := by
  constructor <;> simp [isSign, signs]

theorem token_line {s : List UInt8} (hs : s ≠ []) (b : List UInt8) : token (s ++ 10 :: b) = token s := by
  cases s with
  | nil => exact absurd rfl hs
  | cons x r =>
    rw [List.cons_append]
    unfold token
    simp only
    rw [← List.cons_append, tw_more (p := nameB) (c := 10) (by decide), tw_more (p := lumpB) (c := 10) (by decide), quoted_line (by simp)]
    have e : (decide (2 ≤ ((x :: r) ++ 10 :: b).length) && isSign (((x :: r) ++ 10 :: b).take 2)) = (decide (2 ≤ (x :: r).length) && isSign ((x :: r).take 2)) := by
      cases r with
      | nil => simp [(sign_line x).1]
      | cons y q => simp
    rw [e]
    cases r with
    | nil => simp
    | cons y q => simp

theorem token_more {s : List UInt8} {t : Tok} {n : Nat} (h : token s = .ok (t, n)) {c : UInt8} (hc : c = 10 ∨ c = 32) (b : List UInt8) : token (s ++ c :: b) = .ok (t, n) := by
  cases s with
  | nil => cases h
  | cons x r =>
    rcases hc with rfl | rfl
    · rw [token_line (by simp)]; exact h
    · unfold token at h
      rw [List.cons_append]
      unfold token
      simp only at h ⊢
      rw [← List.cons_append, tw_more (p := nameB) (c := 32) (by decide), tw_more (p := lumpB) (c := 32) (by decide)]
      have e : (decide (2 ≤ ((x :: r) ++ 32 :: b).length) && isSign (((x :: r) ++ 32 :: b).take 2)) = (decide (2 ≤ (x :: r).length) && isSign ((x :: r).take 2)) := by
        cases r with
        | nil => simp [(sign_line x).2]
        | cons y q => simp
      have e2 : isSign (((x :: r) ++ 32 :: b).take 2) = isSign ((x :: r).take 2) ∨ r = [] := by
        cases r with
        | nil => exact Or.inr rfl
        | cons y q => exact Or.inl (by simp)
      rw [e]
      split
      · rename_i h1; rw [if_pos h1] at h; exact h
      · rename_i h1; rw [if_neg h1] at h
        split
        · rename_i h2; rw [if_pos h2] at h; exact h
        · rename_i h2; rw [if_neg h2] at h
          split
          · rename_i h3; rw [if_pos h3] at h; exact quoted_more h _
          · rename_i h3; rw [if_neg h3] at h
            split
            · rename_i h4
              rw [if_pos h4] at h
              have h5 : 2 ≤ (x :: r).length := by
                simp only [Bool.and_eq_true, decide_eq_true_eq] at h4; exact h4.1
              rw [List.take_append_of_le_length h5]
              exact h
            · rename_i h4; rw [if_neg h4] at h
              exact h

theorem remark_start {s : List UInt8} (hs : s ≠ []) {c : UInt8} (hc : c ≠ 45) (b : List UInt8) : hasRemark (s ++ c :: b) = hasRemark s := by
  match s with
  | [] => exact absurd rfl hs
  | [x] =>
    have : hasRemark [x] = false := by
      unfold hasRemark; split
      · rename_i h; simp at h
      · rfl
    rw [this]
    unfold hasRemark
    split
    · rename_i h; simp at h; exact absurd h.2.1 hc
    · rfl
  | x :: y :: r => 
    rw [List.cons_append, List.cons_append]
    by_cases h1 : x = 45
    · by_cases h2 : y = 45
      · subst h1; subst h2; rfl
      · have : hasRemark (x :: y :: r) = false := by
          unfold hasRemark; split
          · rename_i h; simp at h; exact absurd h.2.1 h2
          · rfl
        rw [this]
        unfold hasRemark; split
        · rename_i h; simp at h; exact absurd h.2.1 h2
        · rfl
    · have : hasRemark (x :: y :: r) = false := by
        unfold hasRemark; split
        · rename_i h; simp at h; exact absurd h.1 h1
        · rfl
      rw [this]
      unfold hasRemark; split
      · rename_i h; simp at h; exact absurd h.1 h1
      · rfl

theorem first_more {l : List UInt8} (h : (Utf.first l).2 ≠ 0) (m : List UInt8) : Utf.first (l ++ m) = Utf.first l := by
  rcases hq : Utf.first l with ⟨p, n⟩
  rw [hq] at h
  obtain ⟨h1, h2, h3, h4⟩ := Utf.first_some hq h
  rw [h3, List.append_assoc, Utf.first_bytes p h1, ← h2]

theorem first_line {c : UInt8} {r : List UInt8} (hc : c ≠ 10) (h : (Utf.first (c :: r)).2 = 0) (b : List UInt8) : (Utf.first ((c :: r) ++ 10 :: b)).2 = 0 := by
  rcases hq : Utf.first ((c :: r) ++ 10 :: b) with ⟨p, n⟩
  by_cases hn : n = 0
  · exact hn
  · exfalso
    obtain ⟨h1, h2, h3, h4⟩ := Utf.first_some hq hn
    have hw := Utf.bytes_length p
    by_cases hle : n ≤ (c :: r).length
    · have e : (c :: r) = Utf.bytes p ++ (c :: r).drop n := by
        have ht := congrArg (List.take n) h3
        rw [List.take_append_of_le_length hle, h2, ← hw, List.take_left] at ht
        rw [hw, ← h2] at ht
        conv => lhs; rw [← List.take_append_drop n (c :: r)]
        rw [ht]
      rw [e, Utf.first_bytes p h1] at h
      simp only at h
      omega
    · have hin : (10 : UInt8) ∈ Utf.bytes p := by
        have ht := congrArg (List.take n) h3
        rw [h2, ← hw, List.take_left, hw, ← h2] at ht
        rw [← ht]
        have : n = (c :: r).length + 1 + (n - (c :: r).length - 1) := by omega
        rw [this, List.take_append]
        refine List.mem_append.2 (Or.inr ?_)
        rw [show (c :: r).length + 1 + (n - (c :: r).length - 1) - (c :: r).length = (n - (c :: r).length - 1) + 1 from by omega]
        simp
      obtain ⟨a, q, e, _, _, hk⟩ := Utf.bytes_kind p h1
      have hca : c = a := by
        rw [e, List.cons_append, List.cons_append] at h3
        exact (List.cons.inj h3).1
      rw [e] at hin
      rcases List.mem_cons.1 hin with h' | h'
      · exact hc (hca.trans h'.symm)
      · have := (hk 10 h').1
        revert this; decide

theorem remark_line : ∀ (f g : Nat) (l b : List UInt8), l.length ≤ f → l.length + 1 + b.length ≤ g → remark g (l ++ 10 :: b) = remark f l
  | f, g, [], b, hf, hg => by
    cases g with
    | zero => omega
    | succ g => cases f <;> simp [remark]
  | f, g, c :: r, b, hf, hg => by
    rw [List.length_cons] at hf hg
    cases f with
    | zero => omega
    | succ f =>
      cases g with
      | zero => omega
      | succ g =>
        rw [List.cons_append, remark, remark]
        by_cases hc : c = 10
        · rw [if_pos hc, if_pos hc]
        · rw [if_neg hc, if_neg hc]
          by_cases h0 : (Utf.first (c :: r)).2 = 0
          · have h1 := first_line hc h0 b
            rw [List.cons_append] at h1
            rw [if_pos h0, if_pos h1]
          · have h1 := first_more h0 (10 :: b)
            rw [List.cons_append] at h1
            rw [h1, if_neg h0, if_neg h0]
            rcases hq : Utf.first (c :: r) with ⟨p, n⟩
            rw [hq] at h0
            obtain ⟨_, _, _, h4⟩ := Utf.first_some hq h0
            simp only at h0 ⊢
            rw [← List.cons_append, List.drop_append_of_le_length h4]
            rw [remark_line f g ((c :: r).drop n) b (by rw [List.length_drop, List.length_cons]; omega) (by rw [List.length_drop, List.length_cons]; omega)]
termination_by f => f
end Lex

/- Mathematics of layer 6: scanning two sources with a line's end between; places. -/
namespace Lex

theorem enc_one (p : Int) : Utf.enc [p] = Utf.bytes p := by simp [Utf.enc]

theorem token_len {s : List UInt8} {t : Tok} {n : Nat} (h : token s = .ok (t, n)) : 1 ≤ n ∧ n ≤ s.length ∧ (t.kind ≠ 4 → t.text = s.take n) ∧ 1 ≤ t.kind ∧ t.kind ≤ 7 := by
  cases s with
  | nil => cases h
  | cons x r =>
    unfold token at h
    simp only at h
    have hn1 : ∀ p : UInt8 → Bool, p x = true → 1 ≤ ((x :: r).takeWhile p).length := fun p hp => by
      rw [List.takeWhile_cons_of_pos hp]; simp
    split at h
    · rename_i h1
      have hx : nameB x = true := by
        simp only [Bool.or_eq_true] at h1
        unfold nameB
        rcases h1 with h1 | h1 <;> simp [h1]
      have hl := tw_len nameB (x :: r)
      have hp := hn1 nameB hx
      split at h
      · obtain ⟨rfl, rfl⟩ := Prod.mk.inj (Except.ok.inj h)
        exact ⟨hp, hl.1, fun _ => hl.2.symm, by simp, by simp⟩
      split at h
      · obtain ⟨rfl, rfl⟩ := Prod.mk.inj (Except.ok.inj h)
        exact ⟨hp, hl.1, fun _ => hl.2.symm, by simp, by simp⟩
      split at h
      · obtain ⟨rfl, rfl⟩ := Prod.mk.inj (Except.ok.inj h)
        exact ⟨hp, hl.1, fun _ => hl.2.symm, by simp, by simp⟩
      · cases h
    split at h
    · rename_i h1
      have hx : lumpB x = true := by unfold lumpB; simp [h1]
      have hl := tw_len lumpB (x :: r)
      have hp := hn1 lumpB hx
      split at h
      · obtain ⟨rfl, rfl⟩ := Prod.mk.inj (Except.ok.inj h)
        exact ⟨hp, hl.1, fun _ => hl.2.symm, by simp, by simp⟩
      split at h
      · obtain ⟨rfl, rfl⟩ := Prod.mk.inj (Except.ok.inj h)
        exact ⟨hp, hl.1, fun _ => hl.2.symm, by simp, by simp⟩
      · cases h
    split at h
    · obtain ⟨h1, h2, h3⟩ := body_spec (x :: r).length r (by simp)
      unfold quoted finish at h
      rw [List.tail_cons] at h
      rcases hq : body (x :: r).length r with ⟨ps, rest⟩
      rw [hq] at h h2
      simp only at h h2
      cases rest with
      | nil => cases h
      | cons c q =>
        simp only at h
        split at h
        · obtain ⟨rfl, rfl⟩ := Prod.mk.inj (Except.ok.inj h)
          have := congrArg List.length h2
          rw [List.length_append, List.length_cons] at this
          exact ⟨by omega, by rw [List.length_cons]; omega, fun h => absurd rfl h, by simp, by simp⟩
        · split at h <;> cases h
    split at h
    · rename_i h4
      obtain ⟨rfl, rfl⟩ := Prod.mk.inj (Except.ok.inj h)
      simp only [Bool.and_eq_true, decide_eq_true_eq] at h4
      exact ⟨by omega, h4.1, fun _ => rfl, by simp, by simp⟩
    split at h
    · obtain ⟨rfl, rfl⟩ := Prod.mk.inj (Except.ok.inj h)
      exact ⟨by omega, by simp, fun _ => rfl, by simp, by simp⟩
    · cases h

theorem remark_len : ∀ (f : Nat) (l : List UInt8) (n : Nat), remark f l = .ok n → n ≤ l.length
  | 0, l, n, h => by
    obtain rfl : 0 = n := Except.ok.inj h
    omega
  | f + 1, [], n, h => by
    obtain rfl : 0 = n := Except.ok.inj h
    omega
  | f + 1, c :: r, n, h => by
    rw [remark] at h
    split at h
    · obtain rfl : 0 = n := Except.ok.inj h
      omega
    split at h
    · cases h
    · rename_i h0
      rcases hq : Utf.first (c :: r) with ⟨p, k⟩
      rw [hq] at h h0
      obtain ⟨_, _, _, h4⟩ := Utf.first_some hq h0
      simp only at h
      split at h
      · rename_i m hm
        obtain rfl : k + m = n := Except.ok.inj h
        have := remark_len f _ m hm
        rw [List.length_drop] at this
        omega
      · cases h

theorem remark_pos {l : List UInt8} (hr : hasRemark l = true) {f n : Nat} (h : remark (f + 1) l = .ok n) : 1 ≤ n := by
  unfold hasRemark at hr
  split at hr
  · rename_i q
    rw [remark, if_neg (by decide)] at h
    have hf : Utf.first (45 :: 45 :: q) = (45, 1) := Utf.first_bytes 45 (by decide) (45 :: q)
    rw [hf, if_neg (by decide)] at h
    simp only at h
    split at h
    · obtain rfl := Except.ok.inj h
      omega
    · cases h
  · cases hr

theorem scan_cons (f : Nat) (c : UInt8) (r : List UInt8) (i : Nat) : scan (f + 1) (c :: r) i = if blank c then scan f r (i + 1)
      else if hasRemark (c :: r) then (match remark (c :: r).length (c :: r) with
        | .error k => .error (30, i + k)
        | .ok n => scan f ((c :: r).drop n) (i + n))
      else match token (c :: r) with
        | .error (e, k) => .error (e, i + k)
        | .ok (t, n) => (scan f ((c :: r).drop n) (i + n)).map ((t, i) :: ·) := rfl

theorem scan_nil (f i : Nat) : scan f [] i = .ok [] := by cases f <;> rfl

theorem scan_fuel : ∀ (f g : Nat) (l : List UInt8) (i : Nat), l.length ≤ f → l.length ≤ g → scan f l i = scan g l i
  | f, g, [], i, _, _ => by rw [scan_nil, scan_nil]
  | 0, _, c :: r, _, h, _ => by simp at h
  | f + 1, 0, c :: r, _, _, h => by simp at h
  | f + 1, g + 1, c :: r, i, hf, hg => by
    rw [scan_cons, scan_cons]
    rw [List.length_cons] at hf hg
    split
    · exact scan_fuel f g r (i + 1) (by omega) (by omega)
    split
    · rename_i hr
      cases hm : remark (c :: r).length (c :: r) with
      | error k => rfl
      | ok n =>
        have h1 := remark_pos hr (f := r.length) hm
        exact scan_fuel f g _ _ (by rw [List.length_drop, List.length_cons]; omega) (by rw [List.length_drop, List.length_cons]; omega)
    · cases ht : token (c :: r) with
      | error x => rfl
      | ok x =>
        obtain ⟨t, n⟩ := x
        have h1 := token_len ht
        simp only
        rw [scan_fuel f g _ _ (by rw [List.length_drop, List.length_cons]; omega) (by rw [List.length_drop, List.length_cons]; omega)]

/-- The tokens of a source. -/
def toks (l : List UInt8) (i : Nat) : Except (Int × Nat) (List (Tok × Nat)) := scan l.length l i

theorem toks_nil (i : Nat) : toks [] i = .ok [] := rfl
theorem toks_blank {c : UInt8} (h : blank c = true) (r : List UInt8) (i : Nat) : toks (c :: r) i = toks r (i + 1) := by
  unfold toks; rw [List.length_cons, scan_cons, if_pos h]
theorem toks_remark {l : List UInt8} (hb : ∀ c ∈ l.head?, blank c = false) (hr : hasRemark l = true) (i : Nat) : toks l i = match remark l.length l with
    | .error k => .error (30, i + k)
    | .ok n => toks (l.drop n) (i + n) := by
  cases l with
  | nil => cases hr
  | cons c r =>
    have hc : blank c = false := hb c rfl
    unfold toks
    rw [List.length_cons, scan_cons, if_neg (by rw [hc]; simp), if_pos hr]
    rw [← List.length_cons (a := c)]
    cases hm : remark (c :: r).length (c :: r) with
    | error k => rfl
    | ok n =>
      have h1 := remark_pos hr (f := r.length) hm
      exact scan_fuel _ _ _ _ (by rw [List.length_drop, List.length_cons]; omega) (Nat.le_refl _)
theorem toks_token {l : List UInt8} (hl : l ≠ []) (hb : ∀ c ∈ l.head?, blank c = false) (hr : hasRemark l = false) (i : Nat) : toks l i = match token l with
    | .error (e, k) => .error (e, i + k)
    | .ok (t, n) => (toks (l.drop n) (i + n)).map ((t, i) :: ·) := by
  cases l with
  | nil => exact absurd rfl hl
  | cons c r =>
    have hc : blank c = false := hb c rfl
    unfold toks
    rw [List.length_cons, scan_cons, if_neg (by rw [hc]; simp), if_neg (by rw [hr]; simp)]
    cases ht : token (c :: r) with
    | error x => rfl
    | ok x =>
      obtain ⟨t, n⟩ := x
      have h1 := token_len ht
      simp only
      rw [scan_fuel r.length ((c :: r).drop n).length _ _ (by rw [List.length_drop, List.length_cons]; omega) (Nat.le_refl _)]

/-- P6.6: two sources with a line's end between. -/
theorem toks_parts : ∀ (k : Nat) (a b : List UInt8) (i : Nat), a.length ≤ k → toks (a ++ 10 :: b) i = match toks a i with
    | .error e => .error e
    | .ok l => (toks b (i + a.length + 1)).map (l ++ ·)
  | _, [], b, i, _ => by
    rw [List.nil_append, toks_blank (by decide), toks_nil]
    simp only [List.length_nil, Nat.add_zero]
    cases toks b (i + 1) <;> simp [Except.map]
  | 0, c :: r, _, _, h => by simp at h
  | k + 1, c :: r, b, i, hk => by
    rw [List.length_cons] at hk
    by_cases hb : blank c = true
    · rw [List.cons_append, toks_blank hb, toks_blank hb, toks_parts k r b (i + 1) (by omega)]
      rw [show i + 1 + r.length + 1 = i + (c :: r).length + 1 from by rw [List.length_cons]; omega]
    · have hbf : blank c = false := by simpa using hb
      have hh1 : ∀ x ∈ (c :: r).head?, blank x = false := fun x hx => by
        obtain rfl : c = x := by simpa using hx
        exact hbf
      have hh2 : ∀ x ∈ ((c :: r) ++ 10 :: b).head?, blank x = false := fun x hx => by
        obtain rfl : c = x := by simpa using hx
        exact hbf
      have hrs := remark_start (s := c :: r) (by simp) (c := 10) (by decide) b
      cases hr : hasRemark (c :: r) with
      | true =>
        rw [hr] at hrs
        rw [toks_remark hh2 hrs, toks_remark hh1 hr]
        rw [remark_line (c :: r).length _ (c :: r) b (Nat.le_refl _) (by simp; omega)]
        cases hm : remark (c :: r).length (c :: r) with
        | error j => rfl
        | ok n =>
          have h1 := remark_pos hr (f := r.length) hm
          have h2 := remark_len _ _ _ hm
          simp only
          rw [List.drop_append_of_le_length h2, toks_parts k ((c :: r).drop n) b (i + n) (by rw [List.length_drop, List.length_cons]; omega)]
          rw [show i + n + ((c :: r).drop n).length + 1 = i + (c :: r).length + 1 from by rw [List.length_drop]; omega]
      | false =>
        rw [hr] at hrs
        rw [toks_token (by simp) hh2 hrs, toks_token (by simp) hh1 hr, token_line (by simp)]
        cases ht : token (c :: r) with
        | error x => rfl
        | ok x =>
          obtain ⟨t, n⟩ := x
          obtain ⟨h1, h2, _⟩ := token_len ht
          simp only
          rw [List.drop_append_of_le_length h2, toks_parts k ((c :: r).drop n) b (i + n) (by rw [List.length_drop, List.length_cons]; omega)]
          rw [show i + n + ((c :: r).drop n).length + 1 = i + (c :: r).length + 1 from by rw [List.length_drop]; omega]
          cases toks ((c :: r).drop n) (i + n) with
          | error e => rfl
          | ok l => cases toks b (i + (c :: r).length + 1) <;> simp [Except.map]

/-- Further on. -/
theorem toks_shift : ∀ (k : Nat) (a : List UInt8) (i d : Nat), a.length ≤ k → toks a (i + d) = match toks a i with
    | .error (e, j) => .error (e, j + d)
    | .ok l => .ok (l.map fun x => (x.1, x.2 + d))
  | _, [], i, d, _ => rfl
  | 0, c :: r, _, _, h => by simp at h
  | k + 1, c :: r, i, d, hk => by
    rw [List.length_cons] at hk
    by_cases hb : blank c = true
    · rw [toks_blank hb, toks_blank hb, show i + d + 1 = (i + 1) + d from by omega, toks_shift k r (i + 1) d (by omega)]
    · have hbf : blank c = false := by simpa using hb
      have hh1 : ∀ x ∈ (c :: r).head?, blank x = false := fun x hx => by
        obtain rfl : c = x := by simpa using hx
        exact hbf
      cases hr : hasRemark (c :: r) with
      | true =>
        rw [toks_remark hh1 hr, toks_remark hh1 hr]
        cases hm : remark (c :: r).length (c :: r) with
        | error j => simp only; rw [show i + d + j = i + j + d from by omega]
        | ok n =>
          have h1 := remark_pos hr (f := r.length) hm
          simp only
          rw [show i + d + n = (i + n) + d from by omega, toks_shift k _ (i + n) d (by rw [List.length_drop, List.length_cons]; omega)]
      | false =>
        rw [toks_token (by simp) hh1 hr, toks_token (by simp) hh1 hr]
        cases ht : token (c :: r) with
        | error x => obtain ⟨e, j⟩ := x; simp only; rw [show i + d + j = i + j + d from by omega]
        | ok x =>
          obtain ⟨t, n⟩ := x
          obtain ⟨h1, h2, _⟩ := token_len ht
          simp only
          rw [show i + d + n = (i + n) + d from by omega, toks_shift k _ (i + n) d (by rw [List.length_drop, List.length_cons]; omega)]
          cases toks ((c :: r).drop n) (i + n) with
          | error e => rfl
          | ok l => simp [Except.map]
end Lex

/- Mathematics of layer 6: tokens as text, read as they were written; what stands where. -/
namespace Lex

def escB (c : UInt8) : List UInt8 := if c = 10 then [92, 110] else if c = 9 then [92, 116] else if c = 34 ∨ c = 92 then [92, c] else [c]

/-- A token as it is read. -/
def written (t : Tok) : List UInt8 := if t.kind = 4 then 34 :: (t.text.flatMap escB ++ [34]) else t.text

theorem escB_high {l : List UInt8} (h : ∀ b ∈ l, 128 ≤ b.toNat) : l.flatMap escB = l := by
  induction l with
  | nil => rfl
  | cons b r ih =>
    have hb := h b (by simp)
    have h10 : b ≠ 10 := by rintro rfl; revert hb; decide
    have h9 : b ≠ 9 := by rintro rfl; revert hb; decide
    have h34 : b ≠ 34 := by rintro rfl; revert hb; decide
    have h92 : b ≠ 92 := by rintro rfl; revert hb; decide
    rw [List.flatMap_cons, ih (fun c hc => h c (List.mem_cons_of_mem _ hc))]
    simp [escB, h10, h9, h34, h92]

theorem escB_one {p : Int} (h : Utf.pt p = true) : (Utf.bytes p).flatMap escB = escP p := by
  have hpt := (Utf.pt_iff p).1 h
  by_cases hp : p < 128
  · have hb : Utf.bytes p = [Utf.byte p] := by unfold Utf.bytes; rw [if_pos hp]
    have hm : p % 256 = p := Int.emod_eq_of_lt (by omega) (by omega)
    have ht := Utf.byte_toNat p
    rw [hm] at ht
    have key : ∀ n : Nat, n < 256 → (p = (n : Int) ↔ Utf.byte p = UInt8.ofNat n) := fun n hn => by
      constructor
      · intro e
        apply UInt8.toNat_inj.1
        have : (UInt8.ofNat n).toNat = n := by simp; omega
        rw [this]; omega
      · intro e
        have : (UInt8.ofNat n).toNat = n := by simp; omega
        rw [← e] at this; omega
    have k10 : p = 10 ↔ Utf.byte p = 10 := key 10 (by decide)
    have k9 : p = 9 ↔ Utf.byte p = 9 := key 9 (by decide)
    have k34 : p = 34 ↔ Utf.byte p = 34 := key 34 (by decide)
    have k92 : p = 92 ↔ Utf.byte p = 92 := key 92 (by decide)
    unfold escP
    rw [hb]
    simp only [List.flatMap_cons, List.flatMap_nil, List.append_nil]
    unfold escB
    by_cases e1 : p = 10
    · rw [if_pos e1, if_pos (k10.1 e1)]
    rw [if_neg e1, if_neg (fun h => e1 (k10.2 h))]
    by_cases e2 : p = 9
    · rw [if_pos e2, if_pos (k9.1 e2)]
    rw [if_neg e2, if_neg (fun h => e2 (k9.2 h))]
    by_cases e3 : p = 34
    · rw [if_pos e3, if_pos (Or.inl (k34.1 e3)), k34.1 e3]
    rw [if_neg e3]
    by_cases e4 : p = 92
    · rw [if_pos e4, if_pos (Or.inr (k92.1 e4)), k92.1 e4]
    rw [if_neg e4, if_neg (by rintro (h | h); exact e3 (k34.2 h); exact e4 (k92.2 h))]
  · have hall : ∀ b ∈ Utf.bytes p, 128 ≤ b.toNat := by
      obtain ⟨a, r, e, hk, _, hr⟩ := Utf.bytes_kind p h
      intro b hb
      rw [e] at hb
      rcases List.mem_cons.1 hb with rfl | hb
      · rcases hk with hk | hk
        · exfalso
          have hw := Utf.bytes_length p
          obtain ⟨a', r', e', h1, h2⟩ := Utf.val_bytes p h
          rw [e] at e'
          obtain ⟨rfl, rfl⟩ : b = a' ∧ r = r' := by simpa using e'
          have hw2 : 2 ≤ Utf.width p := by unfold Utf.width; rw [if_neg hp]; split; omega; split <;> omega
          rcases Utf.lead_cases b.toNat with ⟨_, hl⟩ | ⟨h3, _, _⟩ | ⟨h3, _, _⟩ | ⟨h3, _⟩
          · rw [hl] at h1
            rw [e, List.length_cons] at hw
            simp only at h1
            omega
          all_goals omega
        · omega
      · exact (hr b hb).1
    rw [escB_high hall]
    unfold escP
    rw [if_neg (by omega), if_neg (by omega), if_neg (by omega), if_neg (by omega)]

theorem escB_enc : ∀ {ps : List Int}, (∀ p ∈ ps, okP p = true) → (Utf.enc ps).flatMap escB = esc ps
  | [], _ => rfl
  | p :: ps, h => by
    have hp := h p (by simp)
    simp only [okP, Bool.and_eq_true] at hp
    rw [Utf.enc_cons, List.flatMap_append, escB_one hp.1, escB_enc (fun q hq => h q (List.mem_cons_of_mem _ hq))]
    simp [esc]

theorem tw_self (p : UInt8 → Bool) : ∀ s : List UInt8, (s.takeWhile p).takeWhile p = s.takeWhile p
  | [] => rfl
  | x :: r => by
    by_cases hx : p x = true
    · rw [List.takeWhile_cons_of_pos hx, List.takeWhile_cons_of_pos hx, tw_self p r]
    · rw [List.takeWhile_cons_of_neg hx]; rfl

/-- A token stands for itself, and is written so. -/
theorem token_self {s : List UInt8} {t : Tok} {n : Nat} (h : token s = .ok (t, n)) : token (s.take n) = .ok (t, n) ∧ written t = s.take n := by
  obtain ⟨hn1, hn2, htx, hk1, hk7⟩ := token_len h
  cases s with
  | nil => cases h
  | cons x r =>
    obtain ⟨m, rfl⟩ : ∃ m, n = m + 1 := ⟨n - 1, by omega⟩
    have hw : t.kind ≠ 4 → written t = (x :: r).take (m + 1) := fun hk => by unfold written; rw [if_neg hk, htx hk]
    have htake : (x :: r).take (m + 1) = x :: r.take m := rfl
    have tok : ∀ (y : UInt8) (q : List UInt8), token (y :: q) = if small y || great y then
      (let t := (y :: q).takeWhile nameB
       if isWord t then .ok (⟨5, t⟩, t.length) else if isName t then .ok (⟨1, t⟩, t.length) else if isUpper t then .ok (⟨2, t⟩, t.length) else .error (60, 0))
    else if digit y then
      (let t := (y :: q).takeWhile lumpB
       if number t then .ok (⟨3, t⟩, t.length) else if (Sem.parse t).isSome then .ok (⟨7, t⟩, t.length) else .error (60, 0))
    else if y = 34 then quoted (y :: q)
    else if decide (2 ≤ (y :: q).length) && isSign ((y :: q).take 2) then .ok (⟨6, (y :: q).take 2⟩, 2)
    else if isSign [y] then .ok (⟨6, [y]⟩, 1)
    else .error (60, 0) := fun _ _ => rfl
    by_cases h1 : (small x || great x) = true
    · have h' := h
      rw [tok, if_pos h1] at h'
      simp only at h'
      have hl := tw_len nameB (x :: r)
      have hlen : m + 1 = ((x :: r).takeWhile nameB).length ∧ t.kind ≠ 4 := by
        split at h'
        · obtain ⟨rfl, e⟩ := Prod.mk.inj (Except.ok.inj h'); exact ⟨e.symm, by simp⟩
        split at h'
        · obtain ⟨rfl, e⟩ := Prod.mk.inj (Except.ok.inj h'); exact ⟨e.symm, by simp⟩
        split at h'
        · obtain ⟨rfl, e⟩ := Prod.mk.inj (Except.ok.inj h'); exact ⟨e.symm, by simp⟩
        · cases h'
      refine ⟨?_, hw hlen.2⟩
      have e : (x :: r).take (m + 1) = (x :: r).takeWhile nameB := by rw [hlen.1]; exact hl.2
      have e2 : ((x :: r).take (m + 1)).takeWhile nameB = (x :: r).takeWhile nameB := by rw [e, tw_self]
      rw [htake] at e2 ⊢
      rw [tok, if_pos h1, e2]
      exact h'
    · by_cases h2 : digit x = true
      · have h' := h
        rw [tok, if_neg h1, if_pos h2] at h'
        simp only at h'
        have hl := tw_len lumpB (x :: r)
        have hlen : m + 1 = ((x :: r).takeWhile lumpB).length ∧ t.kind ≠ 4 := by
          split at h'
          · obtain ⟨rfl, e⟩ := Prod.mk.inj (Except.ok.inj h'); exact ⟨e.symm, by simp⟩
          split at h'
          · obtain ⟨rfl, e⟩ := Prod.mk.inj (Except.ok.inj h'); exact ⟨e.symm, by simp⟩
          · cases h'
        refine ⟨?_, hw hlen.2⟩
        have e : (x :: r).take (m + 1) = (x :: r).takeWhile lumpB := by rw [hlen.1]; exact hl.2
        have e2 : ((x :: r).take (m + 1)).takeWhile lumpB = (x :: r).takeWhile lumpB := by rw [e, tw_self]
        rw [htake] at e2 ⊢
        rw [tok, if_neg h1, if_pos h2, e2]
        exact h'
      · by_cases h3 : x = 34
        · subst h3
          have h' := h
          rw [tok, if_neg h1, if_neg h2, if_pos rfl] at h'
          obtain ⟨b1, b2, b3⟩ := body_spec ((34 : UInt8) :: r).length r (by simp)
          unfold quoted finish at h'
          rw [List.tail_cons] at h'
          rcases hq : body ((34 : UInt8) :: r).length r with ⟨ps, rest⟩
          rw [hq] at h' b1 b2
          simp only at h' b1 b2
          cases rest with
          | nil => cases h'
          | cons c q =>
            simp only at h'
            split at h'
            · rename_i hc
              subst hc
              obtain ⟨rfl, e⟩ := Prod.mk.inj (Except.ok.inj h')
              have ht : (34 :: r).take (m + 1) = 34 :: (esc ps ++ [34]) := by
                rw [List.take_succ_cons, b2]
                have : m = (esc ps).length + 1 := by omega
                rw [this, List.take_append, List.take_of_length_le (by omega)]
                simp
              constructor
              · rw [ht, tok, if_neg h1, if_neg h2, if_pos rfl]
                unfold quoted
                rw [List.tail_cons, body_of ((34 : UInt8) :: (esc ps ++ [34])).length b1 (by rw [one_cons, if_pos (Or.inl rfl)]) (by simp)]
                unfold finish
                simp only [if_true]
                rw [e]
              · rw [ht]
                unfold written
                rw [if_pos rfl]
                simp only
                rw [escB_enc b1]
            · split at h' <;> cases h'
        · have h' := h
          rw [tok, if_neg h1, if_neg h2, if_neg h3] at h'
          split at h'
          · rename_i h4
            obtain ⟨rfl, e⟩ := Prod.mk.inj (Except.ok.inj h')
            obtain rfl : m = 1 := by omega
            simp only [Bool.and_eq_true, decide_eq_true_eq] at h4
            refine ⟨?_, hw (by simp)⟩
            cases r with
            | nil => simp at h4
            | cons y q =>
              have h5 : isSign [x, y] = true := h4.2
              show token [x, y] = _
              rw [tok, if_neg h1, if_neg h2, if_neg h3, if_pos (by simp [h5])]
              rfl
          split at h'
          · rename_i h4 h5
            obtain ⟨rfl, e⟩ := Prod.mk.inj (Except.ok.inj h')
            obtain rfl : m = 0 := by omega
            refine ⟨?_, hw (by simp)⟩
            show token [x] = _
            rw [tok, if_neg h1, if_neg h2, if_neg h3, if_neg (by simp), if_pos h5]
          · cases h'

/-- May it be written? -/
def good (t : Tok) : Prop := ∃ c r, written t = c :: r ∧ (c :: r).length ≤ 4096 ∧ blank c = false ∧ token (c :: r) = .ok (t, (c :: r).length)

theorem no_remark {s : List UInt8} {t : Tok} {n : Nat} (h : token s = .ok (t, n)) : hasRemark s = false := by
  cases hr : hasRemark s with
  | false => rfl
  | true =>
    exfalso
    unfold hasRemark at hr
    split at hr
    · rename_i q
      unfold token at h
      simp [small, great, digit, isSign, signs] at h
    · cases hr

/-- Texts with a blank between. -/
def join : List (List UInt8) → List UInt8
  | [] => []
  | [p] => p
  | p :: q :: ps => p ++ 32 :: join (q :: ps)

/-- P6.4: tokens are read as they were written. -/
theorem toks_written : ∀ (ts : List Tok) (i : Nat), (∀ t ∈ ts, good t) → ∃ l, toks (join (ts.map written)) i = .ok l ∧ l.map (·.1) = ts
  | [], i, _ => ⟨[], rfl, rfl⟩
  | [t], i, h => by
    obtain ⟨c, r, hw, hl, hb, ht⟩ := h t (by simp)
    refine ⟨[(t, i)], ?_, rfl⟩
    show toks (written t) i = _
    rw [hw, toks_token (by simp) (fun x hx => by obtain rfl : c = x := by simpa using hx
                                                 exact hb) (no_remark ht), ht]
    simp only [List.drop_length, toks_nil]
    rfl
  | t :: u :: ts, i, h => by
    obtain ⟨c, r, hw, hl, hb, ht⟩ := h t (by simp)
    obtain ⟨l, h1, h2⟩ := toks_written (u :: ts) (i + (c :: r).length + 1) (fun q hq => h q (List.mem_cons_of_mem _ hq))
    refine ⟨(t, i) :: l, ?_, by rw [List.map_cons, h2]⟩
    show toks (written t ++ 32 :: join ((u :: ts).map written)) i = _
    rw [hw]
    have hm := token_more ht (c := 32) (Or.inr rfl) (join ((u :: ts).map written))
    rw [toks_token (by simp) (fun x hx => by obtain rfl : c = x := by simpa using hx
                                             exact hb) (no_remark hm), hm]
    simp only [List.drop_left]
    rw [toks_blank (by decide), h1]
    rfl

/-- P6.5: what was read may be written. -/
theorem toks_good : ∀ (k : Nat) (a : List UInt8) (i : Nat) (l : List (Tok × Nat)), a.length ≤ k → a.length ≤ 4096 → toks a i = .ok l → ∀ x ∈ l, good x.1 ∧ 1 ≤ x.1.kind
  | _, [], i, l, _, _, h => by
    obtain rfl : [] = l := Except.ok.inj h
    intro x hx; cases hx
  | 0, c :: r, _, _, h, _, _ => by simp at h
  | k + 1, c :: r, i, l, hk, h4, h => by
    rw [List.length_cons] at hk h4
    by_cases hb : blank c = true
    · rw [toks_blank hb] at h
      exact toks_good k r (i + 1) l (by omega) (by omega) h
    · have hbf : blank c = false := by simpa using hb
      have hh1 : ∀ x ∈ (c :: r).head?, blank x = false := fun x hx => by
        obtain rfl : c = x := by simpa using hx
        exact hbf
      cases hr : hasRemark (c :: r) with
      | true =>
        rw [toks_remark hh1 hr] at h
        cases hm : remark (c :: r).length (c :: r) with
        | error j => rw [hm] at h; cases h
        | ok n =>
          rw [hm] at h
          have h1 := remark_pos hr (f := r.length) hm
          exact toks_good k _ _ l (by rw [List.length_drop, List.length_cons]; omega) (by rw [List.length_drop, List.length_cons]; omega) h
      | false =>
        rw [toks_token (by simp) hh1 hr] at h
        cases ht : token (c :: r) with
        | error x => rw [ht] at h; cases h
        | ok x =>
          obtain ⟨t, n⟩ := x
          rw [ht] at h
          simp only at h
          obtain ⟨h1, h2, _, h3, _⟩ := token_len ht
          cases hq : toks ((c :: r).drop n) (i + n) with
          | error e => rw [hq] at h; cases h
          | ok m =>
            rw [hq] at h
            obtain rfl : (t, i) :: m = l := Except.ok.inj h
            intro x hx
            rcases List.mem_cons.1 hx with rfl | hx
            · obtain ⟨s1, s2⟩ := token_self ht
              obtain ⟨j, rfl⟩ : ∃ j, n = j + 1 := ⟨n - 1, by omega⟩
              rw [List.take_succ_cons] at s1 s2
              have hlen : (c :: r.take j).length = j + 1 := by
                rw [List.length_cons, List.length_take]; rw [List.length_cons] at h2; omega
              refine ⟨⟨c, r.take j, s2, ?_, hbf, ?_⟩, h3⟩
              · rw [hlen]; rw [List.length_cons] at h2; omega
              · rw [hlen]; exact s1
            · exact toks_good k _ _ m (by rw [List.length_drop, List.length_cons]; omega) (by rw [List.length_drop, List.length_cons]; omega) hq x hx
end Lex

/- Mathematics of layer 6: blanks and remarks around a source; places; the whole of Scan. -/
namespace Lex

def ahead : List UInt8 := [32, 45, 45, 32, 97, 32, 114, 101, 109, 97, 114, 107, 32, 195, 169, 10, 9]
def behind : List UInt8 := [10, 45, 45, 32, 97, 110, 111, 116, 104, 101, 114]

theorem bytes_line {p : Int} (h : Utf.pt p = true) (hn : p ≠ 10) : ∃ a r, Utf.bytes p = a :: r ∧ a ≠ 10 := by
  have hpt := (Utf.pt_iff p).1 h
  by_cases hp : p < 128
  · have hb : Utf.bytes p = [Utf.byte p] := by unfold Utf.bytes; rw [if_pos hp]
    have hm : p % 256 = p := Int.emod_eq_of_lt (by omega) (by omega)
    have ht := Utf.byte_toNat p
    rw [hm] at ht
    refine ⟨_, _, hb, fun e => hn ?_⟩
    rw [e] at ht
    exact ht.symm
  · obtain ⟨a, r, e, h1, h2, _⟩ := bytes_plain h (by omega) (by omega) (by omega)
    refine ⟨a, r, e, ?_⟩
    rintro rfl
    exact h2 (by decide)

theorem remark_enc : ∀ (ps : List Int) (f : Nat), (∀ p ∈ ps, Utf.pt p = true ∧ p ≠ 10) → (Utf.enc ps).length ≤ f → remark f (Utf.enc ps) = .ok (Utf.enc ps).length
  | [], f, _, _ => by cases f <;> rfl
  | p :: ps, f, h, hf => by
    obtain ⟨hp, hn⟩ := h p (by simp)
    obtain ⟨a, r, e, ha⟩ := bytes_line hp hn
    have hw := Utf.width_pos p
    have hl := Utf.bytes_length p
    rw [Utf.enc_cons, List.length_append] at hf
    cases f with
    | zero => omega
    | succ f =>
      have hfb := Utf.first_bytes p hp (Utf.enc ps)
      have hdr : (Utf.bytes p ++ Utf.enc ps).drop (Utf.width p) = Utf.enc ps := by rw [← hl, List.drop_left]
      have ih := remark_enc ps f (fun q hq => h q (List.mem_cons_of_mem _ hq)) (by omega)
      rw [Utf.enc_cons, List.length_append]
      rw [e, List.cons_append] at hfb hdr ⊢
      rw [remark, if_neg ha, hfb, if_neg (by simp only; omega)]
      simp only
      rw [hdr, ih]
      simp only
      rw [← e, hl]

theorem remark_ahead (s : List UInt8) : remark ([45, 45, 32, 97, 32, 114, 101, 109, 97, 114, 107, 32, 195, 169] ++ 10 :: s).length ([45, 45, 32, 97, 32, 114, 101, 109, 97, 114, 107, 32, 195, 169] ++ 10 :: s) = .ok 14 := by
  rw [remark_line 14 _ _ s (by decide) (by simp; omega)]
  exact remark_enc [45, 45, 32, 97, 32, 114, 101, 109, 97, 114, 107, 32, 233] 14 (by decide) (by decide)

theorem toks_ahead (s : List UInt8) (i : Nat) : toks (ahead ++ s) i = toks s (i + 17) := by
  obtain ⟨m, hm⟩ : ∃ m, m = [45, 45, 32, 97, 32, 114, 101, 109, 97, 114, 107, 32, 195, 169] ++ 10 :: 9 :: s := ⟨_, rfl⟩
  have e : ahead ++ s = 32 :: m := by rw [hm]; rfl
  have h1 := remark_ahead (9 :: s)
  have h2 : hasRemark m = true := by rw [hm]; rfl
  have h3 : m.drop 14 = 10 :: 9 :: s := by rw [hm]; rfl
  have h4 : ∀ c ∈ m.head?, blank c = false := fun c hc => by
    rw [hm] at hc
    obtain rfl : 45 = c := by simpa using hc
    decide
  rw [← hm] at h1
  clear hm
  rw [e, toks_blank (by decide), toks_remark h4 h2, h1]
  simp only
  rw [h3, toks_blank (by decide), toks_blank (by decide)]

theorem toks_behind (i : Nat) : toks [45, 45, 32, 97, 110, 111, 116, 104, 101, 114] i = .ok [] := by
  rw [toks_remark (fun c hc => by
    obtain rfl : 45 = c := by simpa using hc
    decide) rfl]
  have : remark ([45, 45, 32, 97, 110, 111, 116, 104, 101, 114] : List UInt8).length [45, 45, 32, 97, 110, 111, 116, 104, 101, 114] = .ok 10 := remark_enc [45, 45, 32, 97, 110, 111, 116, 104, 101, 114] 10 (by decide) (by decide)
  rw [this]
  rfl

/-- P6.5: blanks and remarks around. -/
theorem toks_around {s : List UInt8} {l : List (Tok × Nat)} (h : toks s 0 = .ok l) : toks (ahead ++ s ++ behind) 0 = .ok (l.map fun x => (x.1, x.2 + 17)) := by
  have e : ahead ++ s ++ behind = ahead ++ (s ++ 10 :: [45, 45, 32, 97, 110, 111, 116, 104, 101, 114]) := by simp [behind]
  rw [e, toks_ahead, toks_parts s.length s _ _ (Nat.le_refl _), toks_shift s.length s 0 17 (Nat.le_refl _), h]
  simp only
  rw [toks_behind]
  simp [Except.map]

/-- Each token stands where it says, behind the one ahead. -/
def Placed (s : List UInt8) : Nat → List (Tok × Nat) → Prop
  | a, [] => a ≤ s.length
  | a, (t, p) :: r => a ≤ p ∧ p ≤ s.length ∧ 1 ≤ t.kind ∧ t.kind ≤ 7 ∧ (t.kind = 4 → Placed s (p + 2) r) ∧ (t.kind ≠ 4 → p + t.text.length ≤ s.length ∧ (s.drop p).take t.text.length = t.text ∧ Placed s (p + t.text.length) r)

theorem Placed.less {s : List UInt8} {a b : Nat} (hab : b ≤ a) : ∀ {l : List (Tok × Nat)}, Placed s a l → Placed s b l
  | [], h => Nat.le_trans hab h
  | (t, p) :: r, h => by
    obtain ⟨h1, h2⟩ := h
    exact ⟨Nat.le_trans hab h1, h2⟩

theorem quoted_two {s : List UInt8} {t : Tok} {n : Nat} (h : token s = .ok (t, n)) (hk : t.kind = 4) : 2 ≤ n := by
  obtain ⟨_, h2⟩ := token_self h
  obtain ⟨h3, h4, _⟩ := token_len h
  have := congrArg List.length h2
  unfold written at this
  rw [if_pos hk, List.length_take, List.length_cons, List.length_append] at this
  simp only [List.length_cons, List.length_nil] at this
  omega

/-- P6.2: the tokens stand in the source. -/
theorem toks_placed (s : List UInt8) : ∀ (k i : Nat) (l : List (Tok × Nat)), s.length - i ≤ k → i ≤ s.length → toks (s.drop i) i = .ok l → Placed s i l
  | k, i, l, hk, hi, h => by
    cases hd : s.drop i with
    | nil =>
      rw [hd] at h
      obtain rfl : [] = l := Except.ok.inj h
      exact hi
    | cons c r =>
      have hlen : (s.drop i).length = r.length + 1 := by rw [hd]; rfl
      rw [List.length_drop] at hlen
      cases k with
      | zero => omega
      | succ k =>
        have hr1 : s.drop (i + 1) = r := by
          have := congrArg List.tail hd
          simpa [List.tail_drop] using this
        by_cases hb : blank c = true
        · rw [hd, toks_blank hb, ← hr1] at h
          exact (toks_placed s k (i + 1) l (by omega) (by omega) h).less (by omega)
        · have hbf : blank c = false := by simpa using hb
          have hh1 : ∀ x ∈ (c :: r).head?, blank x = false := fun x hx => by
            obtain rfl : c = x := by simpa using hx
            exact hbf
          have hdd : ∀ n, (c :: r).drop n = s.drop (i + n) := fun n => by rw [← hd, List.drop_drop]
          cases hr : hasRemark (c :: r) with
          | true =>
            rw [hd, toks_remark hh1 hr] at h
            cases hm : remark (c :: r).length (c :: r) with
            | error j => rw [hm] at h; cases h
            | ok n =>
              rw [hm] at h
              have h1 := remark_pos hr (f := r.length) hm
              have h2 := remark_len _ _ _ hm
              rw [List.length_cons] at h2
              simp only at h
              rw [hdd] at h
              exact (toks_placed s k (i + n) l (by omega) (by omega) h).less (by omega)
          | false =>
            rw [hd, toks_token (by simp) hh1 hr] at h
            cases ht : token (c :: r) with
            | error x => rw [ht] at h; cases h
            | ok x =>
              obtain ⟨t, n⟩ := x
              rw [ht] at h
              simp only at h
              rw [hdd] at h
              obtain ⟨h1, h2, h3, h4, h5⟩ := token_len ht
              have h2n := fun hk4 => quoted_two ht hk4
              rw [List.length_cons] at h2
              cases hq : toks (s.drop (i + n)) (i + n) with
              | error e => rw [hq] at h; cases h
              | ok m =>
                rw [hq] at h
                obtain rfl : (t, i) :: m = l := Except.ok.inj h
                have ih := toks_placed s k (i + n) m (by omega) (by omega) hq
                refine ⟨Nat.le_refl _, hi, h4, h5, fun hk4 => ih.less (by have := h2n hk4; omega), fun hk4 => ?_⟩
                have htx := h3 hk4
                have htl : t.text.length = n := by rw [htx, List.length_take, List.length_cons]; omega
                refine ⟨by omega, ?_, by rw [htl]; exact ih⟩
                rw [htl, hd]
                exact htx.symm

/-- The whole of Scan. -/
def scanR (s : List UInt8) : Except (Int × Nat) (List (Tok × Nat)) := if 4096 < s.length then .error (3, 4096) else match toks s 0 with
  | .error x => .error x
  | .ok l => .ok (l ++ [(⟨0, []⟩, s.length)])

/-- A fault lies in the source. -/
theorem first_err {s : List UInt8} {e : Int} {k : Nat} (h : token s = .error (e, k)) : k ≤ s.length ∧ (e = 60 ∨ e = 30) := by
  cases s with
  | nil =>
    obtain ⟨rfl, rfl⟩ := Prod.mk.inj (Except.error.inj h)
    exact ⟨Nat.zero_le _, Or.inl rfl⟩
  | cons x r =>
    unfold token at h
    simp only at h
    have fin : ∀ {e : Int} {k : Nat}, (Except.error (60, 0) : Except (Int × Nat) (Tok × Nat)) = .error (e, k) → k ≤ (x :: r).length ∧ (e = 60 ∨ e = 30) := fun h => by
      obtain ⟨rfl, rfl⟩ := Prod.mk.inj (Except.error.inj h)
      exact ⟨Nat.zero_le _, Or.inl rfl⟩
    split at h
    · split at h
      · cases h
      split at h
      · cases h
      split at h
      · cases h
      · exact fin h
    split at h
    · split at h
      · cases h
      split at h
      · cases h
      · exact fin h
    split at h
    · obtain ⟨h1, h2, h3⟩ := body_spec (x :: r).length r (by simp)
      unfold quoted finish at h
      rw [List.tail_cons] at h
      rcases hq : body (x :: r).length r with ⟨ps, rest⟩
      rw [hq] at h h2
      simp only at h h2
      cases rest with
      | nil => exact fin h
      | cons c q =>
        simp only at h
        split at h
        · cases h
        split at h
        · exact fin h
        · obtain ⟨rfl, rfl⟩ := Prod.mk.inj (Except.error.inj h)
          have := congrArg List.length h2
          rw [List.length_append, List.length_cons] at this
          exact ⟨by rw [List.length_cons]; omega, Or.inr rfl⟩
    split at h
    · cases h
    split at h
    · cases h
    · exact fin h

theorem remark_err : ∀ (f : Nat) (l : List UInt8) (n : Nat), remark f l = .error n → n ≤ l.length
  | 0, l, n, h => by cases h
  | f + 1, [], n, h => by cases h
  | f + 1, c :: r, n, h => by
    rw [remark] at h
    split at h
    · cases h
    split at h
    · obtain rfl := Except.error.inj h
      omega
    · rename_i h0
      rcases hq : Utf.first (c :: r) with ⟨p, k⟩
      rw [hq] at h h0
      obtain ⟨_, _, _, h4⟩ := Utf.first_some hq h0
      simp only at h
      split at h
      · cases h
      · rename_i m hm
        obtain rfl : k + m = n := Except.error.inj h
        have := remark_err f _ m hm
        rw [List.length_drop] at this
        omega

theorem toks_err : ∀ (k : Nat) (a : List UInt8) (i : Nat) (e : Int) (j : Nat), a.length ≤ k → toks a i = .error (e, j) → j ≤ i + a.length ∧ (e = 60 ∨ e = 30)
  | _, [], _, _, _, _, h => by cases h
  | 0, c :: r, _, _, _, h, _ => by simp at h
  | k + 1, c :: r, i, e, j, hk, h => by
    rw [List.length_cons] at hk ⊢
    by_cases hb : blank c = true
    · rw [toks_blank hb] at h
      have := toks_err k r (i + 1) e j (by omega) h
      exact ⟨by omega, this.2⟩
    · have hbf : blank c = false := by simpa using hb
      have hh1 : ∀ x ∈ (c :: r).head?, blank x = false := fun x hx => by
        obtain rfl : c = x := by simpa using hx
        exact hbf
      cases hr : hasRemark (c :: r) with
      | true =>
        rw [toks_remark hh1 hr] at h
        cases hm : remark (c :: r).length (c :: r) with
        | error n =>
          rw [hm] at h
          obtain ⟨rfl, rfl⟩ := Prod.mk.inj (Except.error.inj h)
          have := remark_err _ _ _ hm
          rw [List.length_cons] at this
          exact ⟨by omega, Or.inr rfl⟩
        | ok n =>
          rw [hm] at h
          have h1 := remark_pos hr (f := r.length) hm
          have h2 := remark_len _ _ _ hm
          rw [List.length_cons] at h2
          have := toks_err k _ (i + n) e j (by rw [List.length_drop, List.length_cons]; omega) h
          rw [List.length_drop, List.length_cons] at this
          exact ⟨by omega, this.2⟩
      | false =>
        rw [toks_token (by simp) hh1 hr] at h
        cases ht : token (c :: r) with
        | error x =>
          obtain ⟨e', n⟩ := x
          rw [ht] at h
          obtain ⟨rfl, rfl⟩ := Prod.mk.inj (Except.error.inj h)
          have := first_err ht
          rw [List.length_cons] at this
          exact ⟨by omega, this.2⟩
        | ok x =>
          obtain ⟨t, n⟩ := x
          rw [ht] at h
          simp only at h
          obtain ⟨h1, h2, _⟩ := token_len ht
          rw [List.length_cons] at h2
          cases hq : toks ((c :: r).drop n) (i + n) with
          | ok m => rw [hq] at h; cases h
          | error y =>
            rw [hq] at h
            obtain rfl : y = (e, j) := Except.error.inj h
            have := toks_err k _ (i + n) e j (by rw [List.length_drop, List.length_cons]; omega) hq
            rw [List.length_drop, List.length_cons] at this
            exact ⟨by omega, this.2⟩
end Lex

/- Mathematics of layer 6: what stands ahead of a token. -/
namespace Lex

theorem remark_fuel : ∀ (f g : Nat) (l : List UInt8), l.length ≤ f → l.length ≤ g → remark f l = remark g l
  | f, g, [], _, _ => by cases f <;> cases g <;> rfl
  | 0, _, c :: r, h, _ => by simp at h
  | f + 1, 0, c :: r, _, h => by simp at h
  | f + 1, g + 1, c :: r, hf, hg => by
    rw [List.length_cons] at hf hg
    rw [remark, remark]
    split
    · rfl
    split
    · rfl
    · rename_i h0
      rcases hq : Utf.first (c :: r) with ⟨p, k⟩
      rw [hq] at h0
      simp only at h0 ⊢
      rw [remark_fuel f g ((c :: r).drop k) (by rw [List.length_drop, List.length_cons]; omega) (by rw [List.length_drop, List.length_cons]; omega)]

def remarkOf (l : List UInt8) : Except Nat Nat := remark l.length l

def up (k : Nat) : Except Nat Nat → Except Nat Nat
  | .ok n => .ok (k + n)
  | .error n => .error (k + n)

theorem up_zero (x : Except Nat Nat) : up 0 x = x := by cases x <;> simp [up]
theorem up_up (a b : Nat) (x : Except Nat Nat) : up a (up b x) = up (a + b) x := by cases x <;> simp [up, Nat.add_assoc]

theorem remarkOf_nil : remarkOf [] = .ok 0 := rfl
theorem remarkOf_line (r : List UInt8) : remarkOf (10 :: r) = .ok 0 := by unfold remarkOf; rw [List.length_cons, remark, if_pos rfl]
theorem remarkOf_bad {c : UInt8} {r : List UInt8} (hc : c ≠ 10) (h : (Utf.first (c :: r)).2 = 0) : remarkOf (c :: r) = .error 0 := by
  unfold remarkOf; rw [List.length_cons, remark, if_neg hc, if_pos h]
theorem remarkOf_step {c : UInt8} {r : List UInt8} {p : Int} {k : Nat} (hc : c ≠ 10) (h : Utf.first (c :: r) = (p, k)) (hk : k ≠ 0) : remarkOf (c :: r) = up k (remarkOf ((c :: r).drop k)) := by
  unfold remarkOf
  rw [List.length_cons, remark, if_neg hc, h, if_neg hk]
  simp only
  rw [remark_fuel r.length ((c :: r).drop k).length _ (by rw [List.length_drop, List.length_cons]; omega) (Nat.le_refl _)]
  cases remark ((c :: r).drop k).length ((c :: r).drop k) <;> rfl

/-- Blanks and one remark. -/
def passed (l : List UInt8) : Except Nat Nat :=
  if hasRemark (l.drop (l.takeWhile blank).length) then up (l.takeWhile blank).length (remarkOf (l.drop (l.takeWhile blank).length)) else .ok (l.takeWhile blank).length

theorem hasRemark_two (x y : UInt8) (q : List UInt8) : hasRemark (x :: y :: q) = (x == 45 && y == 45) := by
  by_cases h1 : x = 45
  · by_cases h2 : y = 45
    · subst h1; subst h2; rfl
    · have : (y == 45) = false := beq_eq_false_iff_ne.2 h2
      rw [this, Bool.and_false]
      unfold hasRemark; split
      · rename_i h; simp at h; exact absurd h.2.1 h2
      · rfl
  · have : (x == 45) = false := beq_eq_false_iff_ne.2 h1
    rw [this, Bool.false_and]
    unfold hasRemark; split
    · rename_i h; simp at h; exact absurd h.1 h1
    · rfl
theorem hasRemark_short {l : List UInt8} (h : l.length ≤ 1) : hasRemark l = false := by
  match l, h with
  | [], _ => rfl
  | [x], _ =>
    unfold hasRemark; split
    · rename_i h; simp at h
    · rfl

theorem toks_blanks : ∀ (l : List UInt8) (i : Nat), toks l i = toks (l.drop (l.takeWhile blank).length) (i + (l.takeWhile blank).length)
  | [], i => rfl
  | c :: r, i => by
    by_cases hb : blank c = true
    · rw [toks_blank hb, List.takeWhile_cons_of_pos hb, List.length_cons, List.drop_succ_cons, toks_blanks r (i + 1)]
      rw [show i + 1 + (r.takeWhile blank).length = i + ((r.takeWhile blank).length + 1) from by omega]
    · rw [List.takeWhile_cons_of_neg hb]; rfl

theorem drop_tw (p : UInt8 → Bool) : ∀ l : List UInt8, ∀ c ∈ (l.drop (l.takeWhile p).length).head?, p c = false
  | [], c, h => by simp at h
  | x :: r, c, h => by
    by_cases hx : p x = true
    · rw [List.takeWhile_cons_of_pos hx, List.length_cons, List.drop_succ_cons] at h
      exact drop_tw p r c h
    · rw [List.takeWhile_cons_of_neg hx] at h
      simp at h
      subst h
      simpa using hx

/-- What passed tells of a source's tokens. -/
theorem passed_toks (l : List UInt8) (i : Nat) : match passed l with
    | .error k => toks l i = .error (30, i + k)
    | .ok 0 => hasRemark l = false ∧ ∀ c ∈ l.head?, blank c = false
    | .ok (n + 1) => toks l i = toks (l.drop (n + 1)) (i + (n + 1)) := by
  obtain ⟨b, hb⟩ : ∃ b, b = (l.takeWhile blank).length := ⟨_, rfl⟩
  have h1 := toks_blanks l i
  have h2 := drop_tw blank l
  unfold passed
  rw [← hb] at h1 h2 ⊢
  cases hr : hasRemark (l.drop b) with
  | false =>
    rw [if_neg (by simp)]
    cases b with
    | zero => simp only; rw [List.drop_zero] at hr h2; exact ⟨hr, h2⟩
    | succ b => exact h1
  | true =>
    rw [if_pos rfl]
    have h3 := toks_remark h2 hr (i + b)
    unfold remarkOf
    cases hm : remark (l.drop b).length (l.drop b) with
    | error k =>
      rw [hm] at h3
      simp only [up]
      rw [h1, h3]
      simp only [Nat.add_assoc]
    | ok n =>
      rw [hm] at h3
      have hpos : 1 ≤ n := by
        have hl : (l.drop b).length = (l.drop b).length - 1 + 1 := by
          have : 1 ≤ (l.drop b).length := by
            cases hd : l.drop b with
            | nil => rw [hd] at hr; cases hr
            | cons c r => simp
          omega
        rw [hl] at hm
        exact remark_pos hr hm
      obtain ⟨m, rfl⟩ : ∃ m, n = m + 1 := ⟨n - 1, by omega⟩
      show toks l i = toks (l.drop (b + m + 1)) (i + (b + m + 1))
      rw [h1, h3]
      simp only
      rw [List.drop_drop]
      rw [show b + (m + 1) = b + m + 1 from by omega, show i + b + (m + 1) = i + (b + m + 1) from by omega]
end Lex

/- The program's own ways of layer 6 (mathematics): the kind of a token's bytes, how far a token goes, quoted texts and remarks read byte by byte. -/
namespace Lex

/-- The kind of the token whose bytes these are. -/
def kindR (l : List UInt8) : Option Int := if isWord l then some 5 else if isName l then some 1 else if isUpper l then some 2 else if isSign l then some 6 else if number l then some 3 else if (Sem.parse l).isSome then some 7 else none

/-- The bytes that have to be one token. -/
def longest : List UInt8 → List UInt8
  | [] => []
  | c :: r => if small c || great c then (c :: r).takeWhile nameB else if digit c then (c :: r).takeWhile lumpB else if isSign ((c :: r).take 2) then (c :: r).take 2 else [c]

theorem contains_head {L : List (List UInt8)} {p : UInt8 → Bool} (hL : L.all (fun x => match x with | [] => false | a :: _ => p a) = true) {c : UInt8} {t : List UInt8} (hc : p c = false) : L.contains (c :: t) = false := by
  cases h : L.contains (c :: t) with
  | false => rfl
  | true =>
    have := List.all_eq_true.1 hL _ (List.contains_iff_mem.1 h)
    simp only at this
    rw [this] at hc; cases hc

theorem word_no {c : UInt8} {t : List UInt8} (h : small c = false) : isWord (c :: t) = false :=
  contains_head (p := small) (by decide) h

theorem sign_no {c : UInt8} {t : List UInt8} (h : (small c || great c || digit c) = true) : isSign (c :: t) = false :=
  contains_head (p := fun c => !(small c || great c || digit c)) (by decide) (by rw [h]; rfl)

theorem number_no {c : UInt8} {t : List UInt8} (h : digit c = false) : number (c :: t) = false := by
  unfold number; simp [h]

theorem classes (c : UInt8) : (digit c = true → small c = false ∧ great c = false) ∧ (small c = true → digit c = false ∧ great c = false) ∧ (great c = true → digit c = false ∧ small c = false) := by
  unfold digit small great
  simp only [Bool.and_eq_true, decide_eq_true_eq, Bool.and_eq_false_iff, decide_eq_false_iff_not]
  omega

theorem parse_no {c : UInt8} {t : List UInt8} (h : digit c = false) : Sem.parse (c :: t) = none := by
  cases hp : Sem.parse (c :: t) with
  | none => rfl
  | some v =>
    exfalso
    obtain ⟨_, h2⟩ := Sem.parse_some hp
    cases hd : Sem.dec v.maj.toNat with
    | nil => exact Sem.dec_ne _ hd
    | cons a q =>
      have := Sem.dec_dig v.maj.toNat a (by rw [hd]; simp)
      unfold Sem.text at h2
      rw [hd, List.cons_append] at h2
      rw [← (List.cons.inj h2).1] at h
      unfold digit at h
      simp only [Bool.and_eq_false_iff, decide_eq_false_iff_not] at h
      omega

theorem token_cons (c : UInt8) (r : List UInt8) : token (c :: r) =
    if small c || great c then
      (let t := (c :: r).takeWhile nameB
       if isWord t then .ok (⟨5, t⟩, t.length) else if isName t then .ok (⟨1, t⟩, t.length) else if isUpper t then .ok (⟨2, t⟩, t.length) else .error (60, 0))
    else if digit c then
      (let t := (c :: r).takeWhile lumpB
       if number t then .ok (⟨3, t⟩, t.length) else if (Sem.parse t).isSome then .ok (⟨7, t⟩, t.length) else .error (60, 0))
    else if c = 34 then quoted (c :: r)
    else if decide (2 ≤ (c :: r).length) && isSign ((c :: r).take 2) then .ok (⟨6, (c :: r).take 2⟩, 2)
    else if isSign [c] then .ok (⟨6, [c]⟩, 1)
    else .error (60, 0) := rfl

theorem longest_cons (c : UInt8) (r : List UInt8) : longest (c :: r) = if small c || great c then (c :: r).takeWhile nameB else if digit c then (c :: r).takeWhile lumpB else if isSign ((c :: r).take 2) then (c :: r).take 2 else [c] := rfl

/-- A token that is no quoted text, as the program finds it. -/
theorem token_own {c : UInt8} {r : List UInt8} (h34 : c ≠ 34) : token (c :: r) = match kindR (longest (c :: r)) with
    | some k => .ok (⟨k, longest (c :: r)⟩, (longest (c :: r)).length)
    | none => .error (60, 0) := by
  obtain ⟨k1, k2, k3⟩ := classes c
  rw [token_cons, longest_cons]
  by_cases h1 : (small c || great c) = true
  · rw [if_pos h1, if_pos h1]
    have hn : nameB c = true := by unfold nameB; rw [h1]; rfl
    have hd : digit c = false := by
      rcases Bool.or_eq_true _ _ ▸ h1 with h | h
      · exact (k2 h).1
      · exact (k3 h).1
    have hs : (small c || great c || digit c) = true := by rw [h1]; rfl
    rw [List.takeWhile_cons_of_pos hn]
    unfold kindR
    simp only
    rw [sign_no hs, number_no hd, parse_no hd]
    split
    · rfl
    split
    · rfl
    split
    · rfl
    · rfl
  · rw [if_neg h1, if_neg h1]
    have hsm : small c = false := by simpa using (fun h => h1 (by rw [h]; rfl) : small c ≠ true)
    have hgr : great c = false := by simpa using (fun h => h1 (by rw [h]; simp) : great c ≠ true)
    have hname : ∀ t, isName (c :: t) = false := fun t => by show (decide ((c :: t).length ≤ 24) && small c && (c :: t).all nameB && !isWord (c :: t)) = false; rw [hsm]; simp
    have hupper : ∀ t, isUpper (c :: t) = false := fun t => by show (decide ((c :: t).length ≤ 24) && great c && (c :: t).all nameB) = false; rw [hgr]; simp
    by_cases h2 : digit c = true
    · rw [if_pos h2, if_pos h2]
      have hn : lumpB c = true := by unfold lumpB; rw [h2]; simp
      have hs : (small c || great c || digit c) = true := by rw [h2]; simp
      rw [List.takeWhile_cons_of_pos hn]
      unfold kindR
      rw [word_no hsm, hname, hupper, sign_no hs]
      simp only [Bool.false_eq_true, if_false]
      split
      · rfl
      split
      · rfl
      · rfl
    · rw [if_neg h2, if_neg h2, if_neg h34]
      have hdg : digit c = false := by simpa using h2
      have hk : ∀ t, kindR (c :: t) = if isSign (c :: t) then some 6 else none := fun t => by
        unfold kindR
        rw [word_no hsm, hname, hupper, number_no hdg, parse_no hdg]
        simp
      cases r with
      | nil =>
        have ht : ([c] : List UInt8).take 2 = [c] := rfl
        rw [ht]
        simp only [ite_self, List.length_cons, List.length_nil]
        rw [hk]
        by_cases hsg : isSign [c] = true
        · simp [hsg]
        · simp [hsg]
      | cons d q =>
        have ht : (c :: d :: q).take 2 = [c, d] := rfl
        rw [ht]
        have hl : decide (2 ≤ (c :: d :: q).length) = true := by simp
        rw [hl, Bool.true_and]
        by_cases hsg : isSign [c, d] = true
        · rw [if_pos hsg, if_pos hsg, hk, if_pos hsg]; rfl
        · rw [if_neg hsg, if_neg hsg, hk]
          by_cases hs1 : isSign [c] = true
          · rw [if_pos hs1, if_pos hs1]; rfl
          · rw [if_neg hs1, if_neg hs1]

/-- The byte that a letter stands for. -/
def unesc (d : UInt8) : Option UInt8 := if d = 110 then some 10 else if d = 116 then some 9 else if d = 34 then some 34 else if d = 92 then some 92 else none

/-- A quoted text's inner, byte by byte: what was read, how many bytes, and whether it ended well. -/
def unq : List UInt8 → List UInt8 × Nat × Bool
  | [] => ([], 0, false)
  | c :: r => if c = 34 then ([], 1, true) else if c = 92 then
      (match r with
      | [] => ([], 0, false)
      | d :: q => match unesc d with
        | none => ([], 0, false)
        | some x => (x :: (unq q).1, (unq q).2.1 + 2, (unq q).2.2))
    else if c.toNat < 32 then ([], 0, false) else (c :: (unq r).1, (unq r).2.1 + 1, (unq r).2.2)

theorem unq_cons (c : UInt8) (r : List UInt8) : unq (c :: r) = if c = 34 then ([], 1, true) else if c = 92 then
      (match r with
      | [] => ([], 0, false)
      | d :: q => match unesc d with
        | none => ([], 0, false)
        | some x => (x :: (unq q).1, (unq q).2.1 + 2, (unq q).2.2))
    else if c.toNat < 32 then ([], 0, false) else (c :: (unq r).1, (unq r).2.1 + 1, (unq r).2.2) := by cases r <;> rfl

theorem unq_len : ∀ (k : Nat) (l : List UInt8), l.length ≤ k → (unq l).2.1 ≤ l.length ∧ (unq l).1.length ≤ (unq l).2.1
  | _, [], _ => ⟨Nat.le_refl _, Nat.le_refl _⟩
  | 0, c :: r, h => by simp at h
  | k + 1, c :: r, h => by
    rw [List.length_cons] at h
    rw [unq_cons]
    split
    · simp
    split
    · cases r with
      | nil => simp
      | cons d q =>
        rw [List.length_cons] at h
        simp only
        have := unq_len k q (by omega)
        split
        · simp
        · simp only [List.length_cons]; omega
    split
    · simp
    · have := unq_len k r (by omega)
      simp only [List.length_cons]; omega

/-- A piece that is no sign of another kind. -/
theorem unq_plain : ∀ (b l : List UInt8), (∀ x ∈ b, x ≠ 34 ∧ x ≠ 92 ∧ 32 ≤ x.toNat) → unq (b ++ l) = (b ++ (unq l).1, (unq l).2.1 + b.length, (unq l).2.2)
  | [], l, _ => by simp
  | x :: b, l, h => by
    obtain ⟨h1, h2, h3⟩ := h x (by simp)
    rw [List.cons_append, unq_cons, if_neg h1, if_neg h2, if_neg (by omega), unq_plain b l (fun y hy => h y (List.mem_cons_of_mem _ hy))]
    simp only [List.cons_append, List.length_cons]
    congr 2

theorem bytes_all {p : Int} (h : Utf.pt p = true) (h32 : 32 ≤ p) (n1 : p ≠ 34) (n2 : p ≠ 92) : ∀ x ∈ Utf.bytes p, x ≠ 34 ∧ x ≠ 92 ∧ 32 ≤ x.toNat := by
  obtain ⟨a, r, e, h1, h2, h3⟩ := bytes_plain h h32 n1 n2
  obtain ⟨a', r', e', _, _, h4⟩ := Utf.bytes_kind p h
  rw [e] at e'
  obtain ⟨rfl, rfl⟩ := List.cons.inj e'
  rw [e]
  intro x hx
  rcases List.mem_cons.1 hx with rfl | hx
  · exact ⟨h1, h3, by omega⟩
  · have := (h4 x hx).1
    refine ⟨?_, ?_, by omega⟩
    · rintro rfl; revert this; decide
    · rintro rfl; revert this; decide

theorem unq_esc {p : Int} (h : okP p = true) (l : List UInt8) : unq (escP p ++ l) = (Utf.bytes p ++ (unq l).1, (unq l).2.1 + (escP p).length, (unq l).2.2) := by
  simp only [okP, Bool.and_eq_true, Bool.or_eq_true, decide_eq_true_eq] at h
  obtain ⟨h1, h2⟩ := h
  unfold escP
  by_cases e1 : p = 10
  · subst e1; rw [if_pos rfl]; show unq (92 :: 110 :: l) = _; rw [unq_cons]; simp [unesc]; rfl
  rw [if_neg e1]
  by_cases e2 : p = 9
  · subst e2; rw [if_pos rfl]; show unq (92 :: 116 :: l) = _; rw [unq_cons]; simp [unesc]; rfl
  rw [if_neg e2]
  by_cases e3 : p = 34
  · subst e3; rw [if_pos rfl]; show unq (92 :: 34 :: l) = _; rw [unq_cons]; simp [unesc]; rfl
  rw [if_neg e3]
  by_cases e4 : p = 92
  · subst e4; rw [if_pos rfl]; show unq (92 :: 92 :: l) = _; rw [unq_cons]; simp [unesc]; rfl
  rw [if_neg e4]
  exact unq_plain _ _ (bytes_all h1 (by omega) e3 e4)

theorem unq_body : ∀ (ps : List Int) (l : List UInt8), (∀ p ∈ ps, okP p = true) → unq (esc ps ++ l) = (Utf.enc ps ++ (unq l).1, (unq l).2.1 + (esc ps).length, (unq l).2.2)
  | [], l, _ => by simp [esc, Utf.enc]
  | p :: ps, l, h => by
    have e : esc (p :: ps) ++ l = escP p ++ (esc ps ++ l) := by simp [esc]
    have e2 : (esc (p :: ps)).length = (escP p).length + (esc ps).length := by simp [esc]
    rw [e, unq_esc (h p (by simp)), unq_body ps l (fun q hq => h q (List.mem_cons_of_mem _ hq)), Utf.enc_cons, e2]
    simp only [List.append_assoc]
    congr 2
    omega

/-- A quoted text's inner, as it stands, is code points' bytes. -/
theorem esc_pts : ∀ (ps : List Int), (∀ p ∈ ps, okP p = true) → ∃ qs, esc ps = Utf.enc qs ∧ ∀ q ∈ qs, Utf.pt q = true
  | [], _ => ⟨[], rfl, by simp⟩
  | p :: ps, h => by
    obtain ⟨qs, h1, h2⟩ := esc_pts ps (fun q hq => h q (List.mem_cons_of_mem _ hq))
    have hp := h p (by simp)
    simp only [okP, Bool.and_eq_true, Bool.or_eq_true, decide_eq_true_eq] at hp
    have e : esc (p :: ps) = escP p ++ esc ps := by simp [esc]
    have two : ∀ x : Int, x = 110 ∨ x = 116 ∨ x = 34 ∨ x = 92 → escP p = Utf.bytes 92 ++ Utf.bytes x → ∃ qs, esc (p :: ps) = Utf.enc qs ∧ ∀ q ∈ qs, Utf.pt q = true := fun x hx he => by
      refine ⟨92 :: x :: qs, by rw [e, he, h1, Utf.enc_cons, Utf.enc_cons, List.append_assoc], fun q hq => ?_⟩
      rcases List.mem_cons.1 hq with rfl | hq
      · rfl
      rcases List.mem_cons.1 hq with rfl | hq
      · rcases hx with rfl | rfl | rfl | rfl <;> rfl
      · exact h2 q hq
    by_cases e1 : p = 10
    · exact two 110 (by simp) (by subst e1; rfl)
    by_cases e2 : p = 9
    · exact two 116 (by simp) (by subst e2; rfl)
    by_cases e3 : p = 34
    · exact two 34 (by simp) (by subst e3; rfl)
    by_cases e4 : p = 92
    · exact two 92 (by simp) (by subst e4; rfl)
    · have he : escP p = Utf.bytes p := by unfold escP; rw [if_neg e1, if_neg e2, if_neg e3, if_neg e4]
      refine ⟨p :: qs, by rw [e, he, h1, Utf.enc_cons], fun q hq => ?_⟩
      rcases List.mem_cons.1 hq with rfl | hq
      · exact hp.1
      · exact h2 q hq

/-- What the program makes of a quoted text: the bytes up to where it stopped are read as code points first. -/
theorem quoted_own (r : List UInt8) : ∃ ps rest, Utf.Reads ((34 :: r).take (1 + (unq r).2.1)) ps rest ∧
    quoted (34 :: r) = if rest ≠ [] then .error (30, (Utf.enc ps).length) else if (unq r).2.2 then .ok (⟨4, (unq r).1⟩, 1 + (unq r).2.1) else .error (60, 0) := by
  obtain ⟨b1, b2, b3⟩ := body_spec (34 :: r).length r (by simp)
  have hq : quoted (34 :: r) = finish (body (34 :: r).length r) := rfl
  rcases hx : body (34 :: r).length r with ⟨ps, tl⟩
  rw [hx] at b1 b2 b3 hq
  simp only at b1 b2 b3
  rw [hq, b2, unq_body ps tl b1]
  obtain ⟨qs, hqs, hpt⟩ := esc_pts ps b1
  have hpt34 : ∀ q ∈ 34 :: qs, Utf.pt q = true := fun q hq => by
    rcases List.mem_cons.1 hq with rfl | hq
    · rfl
    · exact hpt q hq
  have h34 : Utf.enc (34 :: qs) = 34 :: Utf.enc qs := rfl
  -- how far the bytes go
  have htake : ∀ n, (34 :: (esc ps ++ tl)).take (1 + (n + (esc ps).length)) = Utf.enc (34 :: qs) ++ tl.take n := fun n => by
    rw [show 1 + (n + (esc ps).length) = ((esc ps).length + n) + 1 by omega, List.take_succ_cons, List.take_length_add_append, h34, ← hqs]
    rfl
  have stop : tl.length = 0 ∨ (∃ c q, tl = c :: q ∧ c ≠ 34 ∧ (c = 92 ∨ c.toNat < 32)) → unq tl = ([], 0, false) → finish (ps, tl) = .error (60, 0) → ∃ ps_1 rest, Utf.Reads ((34 :: (esc ps ++ tl)).take (1 + ((unq tl).2.1 + (esc ps).length))) ps_1 rest ∧
      finish (ps, tl) = if rest ≠ [] then .error (30, (Utf.enc ps_1).length) else if (unq tl).2.2 then .ok (⟨4, Utf.enc ps ++ (unq tl).1⟩, 1 + ((unq tl).2.1 + (esc ps).length)) else .error (60, 0) := fun _ hu hf => by
    refine ⟨34 :: qs, [], ⟨hpt34, ?_, rfl⟩, ?_⟩
    · rw [hu, htake]; rfl
    · rw [hu, hf]; rfl
  cases tl with
  | nil => exact stop (Or.inl rfl) rfl rfl
  | cons c q =>
    by_cases c34 : c = 34
    · have hu : unq (c :: q) = ([], 1, true) := by rw [unq_cons, if_pos c34]
      have hf : finish (ps, c :: q) = .ok (⟨4, Utf.enc ps⟩, (esc ps).length + 2) := by unfold finish; simp only; rw [if_pos c34]
      rw [hu, hf]
      refine ⟨34 :: qs ++ [34], [], ⟨fun p hp => ?_, ?_, rfl⟩, ?_⟩
      · rcases List.mem_append.1 hp with hp | hp
        · exact hpt34 p hp
        · obtain rfl : p = 34 := by simpa using hp
          rfl
      · rw [htake, c34, List.append_nil, Utf.enc_append]; rfl
      · simp only [ne_eq, not_true_eq_false, if_false, List.append_nil, if_true]
        rw [show 1 + (1 + (esc ps).length) = (esc ps).length + 2 by omega]
    · have hf : finish (ps, c :: q) = if c.toNat < 32 ∨ c = 92 then .error (60, 0) else .error (30, (esc ps).length + 1) := by unfold finish; simp only; rw [if_neg c34]
      by_cases c92 : c = 92
      · refine stop (Or.inr ⟨c, q, rfl, c34, Or.inl c92⟩) ?_ (by rw [hf, if_pos (Or.inr c92)])
        rw [one_cons, if_neg (by rintro (h | h); exact c34 h; rw [c92] at h; revert h; decide), if_pos c92] at b3
        rw [unq_cons, if_neg c34, if_pos c92]
        cases q with
        | nil => rfl
        | cons d u =>
          simp only at b3 ⊢
          have : unesc d = none := by
            unfold unesc
            by_cases d1 : d = 110
            · rw [if_pos d1] at b3; cases b3
            rw [if_neg d1] at b3 ⊢
            by_cases d2 : d = 116
            · rw [if_pos d2] at b3; cases b3
            rw [if_neg d2] at b3 ⊢
            by_cases d3 : d = 34
            · rw [if_pos d3] at b3; cases b3
            rw [if_neg d3] at b3 ⊢
            by_cases d4 : d = 92
            · rw [if_pos d4] at b3; cases b3
            rw [if_neg d4]
          rw [this]
      · by_cases c32 : c.toNat < 32
        · exact stop (Or.inr ⟨c, q, rfl, c34, Or.inr c32⟩) (by rw [unq_cons, if_neg c34, if_neg c92, if_pos c32]) (by rw [hf, if_pos (Or.inl c32)])
        · have hu : unq (c :: q) = (c :: (unq q).1, (unq q).2.1 + 1, (unq q).2.2) := by rw [unq_cons, if_neg c34, if_neg c92, if_neg c32]
          rw [hf, if_neg (by rintro (h | h); exact c32 h; exact c92 h)]
          rw [one_cons, if_neg (by rintro (h | h); exact c34 h; exact c32 h), if_neg c92] at b3
          have hno : (Utf.first (c :: q)).2 = 0 := by
            by_cases h : (Utf.first (c :: q)).2 = 0
            · exact h
            · rw [if_neg h] at b3; cases b3
          have hl : (unq (c :: q)).2.1 = (unq q).2.1 + 1 := by rw [hu]
          refine ⟨34 :: qs, (c :: q).take ((unq q).2.1 + 1), ⟨hpt34, by rw [hl, htake], ?_⟩, ?_⟩
          · apply Utf.first_none
            by_cases h : (Utf.first ((c :: q).take ((unq q).2.1 + 1))).2 = 0
            · exact h
            · have := first_more h ((c :: q).drop ((unq q).2.1 + 1))
              rw [List.take_append_drop] at this
              rw [this] at hno; exact absurd hno h
          · rw [if_pos (by simp), h34, List.length_cons, hqs]

/-- What the program makes of a remark: the bytes up to the line's end are read as code points. -/
theorem remark_own : ∀ (f : Nat) (l : List UInt8), l.length ≤ f → ∃ ps rest, Utf.Reads (l.takeWhile (· != 10)) ps rest ∧
    remark f l = if rest ≠ [] then .error (Utf.enc ps).length else .ok (l.takeWhile (· != 10)).length
  | 0, l, h => by
    obtain rfl : l = [] := List.eq_nil_of_length_eq_zero (by omega)
    exact ⟨[], [], ⟨by simp, rfl, rfl⟩, rfl⟩
  | f + 1, [], _ => ⟨[], [], ⟨by simp, rfl, rfl⟩, rfl⟩
  | f + 1, c :: r, h => by
    rw [List.length_cons] at h
    by_cases c10 : c = 10
    · subst c10
      exact ⟨[], [], ⟨by simp, rfl, rfl⟩, by rw [remark, if_pos rfl]; rfl⟩
    · have hp : (c != 10) = true := by simpa using c10
      obtain ⟨t, ht⟩ : ∃ t, t = (c :: r).takeWhile (· != 10) := ⟨_, rfl⟩
      obtain ⟨d, hd⟩ : ∃ d, c :: r = t ++ d := ⟨_, by rw [ht]; exact (List.takeWhile_append_dropWhile).symm⟩
      by_cases hk : (Utf.first (c :: r)).2 = 0
      · refine ⟨[], t, ⟨by simp, by rw [← ht]; rfl, ?_⟩, ?_⟩
        · apply Utf.first_none
          by_cases h : (Utf.first t).2 = 0
          · exact h
          · have := first_more h d
            rw [← hd] at this
            rw [this] at hk; exact absurd hk h
        · have hne : t ≠ [] := by rw [ht, List.takeWhile_cons, if_pos hp]; simp
          rw [if_pos hne, remark, if_neg c10, if_pos hk]; rfl
      · rcases hf : Utf.first (c :: r) with ⟨p, k⟩
        rw [hf] at hk
        simp only at hk
        obtain ⟨h1, h2, h3, h4⟩ := Utf.first_some hf hk
        obtain ⟨ps, rest, i1, i2⟩ := remark_own f ((c :: r).drop k) (by rw [List.length_drop, List.length_cons]; omega)
        have hb10 : ∀ x ∈ Utf.bytes p, (x != 10) = true := by
          obtain ⟨a, q, e, _, _, h5⟩ := Utf.bytes_kind p h1
          rw [e] at h3 ⊢
          intro x hx
          rcases List.mem_cons.1 hx with rfl | hx
          · rw [List.cons_append] at h3
            rw [← (List.cons.inj h3).1]; exact hp
          · have := (h5 x hx).1
            have : x ≠ 10 := by rintro rfl; revert this; decide
            simpa using this
        have htw : (c :: r).takeWhile (· != 10) = Utf.bytes p ++ ((c :: r).drop k).takeWhile (· != 10) := by
          conv => lhs; rw [h3]
          rw [List.takeWhile_append_of_pos hb10]
        refine ⟨p :: ps, rest, ⟨fun x hx => ?_, ?_, i1.none⟩, ?_⟩
        · rcases List.mem_cons.1 hx with rfl | hx
          · exact h1
          · exact i1.pts x hx
        · rw [htw, Utf.enc_cons, List.append_assoc, ← i1.text]
        · rw [remark, if_neg c10, hf]
          simp only
          rw [if_neg hk, i2, htw, Utf.enc_cons, List.length_append, List.length_append, Utf.bytes_length, ← h2]
          by_cases hr : rest = []
          · subst hr; simp
          · rw [if_pos hr, if_pos hr]

end Lex
