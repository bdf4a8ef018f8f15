/- SemMath, SemOrd, SemNum, SemLead, RngMath, RngForm, RngText, RngOwnM, together. -/

/- Mathematics of layer 4: versions, their texts, reading them. -/
namespace Sem

def dig (c : UInt8) : Bool := decide (48 ≤ c.toNat) && decide (c.toNat ≤ 57)
def okc (c : UInt8) : Bool := (decide (97 ≤ c.toNat) && decide (c.toNat ≤ 122)) || (decide (65 ≤ c.toNat) && decide (c.toNat ≤ 90)) || decide (c.toNat = 45) || dig c

/-- A part of digits. -/
def digits (l : List UInt8) : Bool := !l.isEmpty && l.all dig
/-- A part that may be. -/
def part (l : List UInt8) : Bool := !l.isEmpty && l.all okc && (!digits l || l == [48] || l.head? != some 48)

/-- A text's parts, at its dots. -/
def parts : List UInt8 → List (List UInt8)
  | [] => [[]]
  | c :: r => if c = 46 then [] :: parts r else match parts r with
    | [] => [[c]]
    | p :: ps => (c :: p) :: ps

theorem parts_ne (l : List UInt8) : parts l ≠ [] := by
  cases l with
  | nil => simp [parts]
  | cons c r => rw [parts]; split; simp; split <;> simp

theorem parts_cons {c : UInt8} {r p : List UInt8} {ps : List (List UInt8)} (h : c ≠ 46) (hr : parts r = p :: ps) : parts (c :: r) = (c :: p) :: ps := by
  rw [parts, if_neg h, hr]

theorem parts_dot (r : List UInt8) : parts (46 :: r) = [] :: parts r := by rw [parts, if_pos rfl]

/-- A part more behind a dot. -/
theorem parts_snoc_dot : ∀ l : List UInt8, parts (l ++ [46]) = parts l ++ [[]]
  | [] => rfl
  | c :: r => by
    have ih := parts_snoc_dot r
    by_cases h : c = 46
    · subst h; rw [List.cons_append, parts_dot, ih, parts_dot, List.cons_append]
    · rw [List.cons_append]
      rcases hr : parts r with _ | ⟨p, ps⟩
      · exact absurd hr (parts_ne r)
      · rw [hr, List.cons_append] at ih
        rw [parts_cons h ih, parts_cons h hr, List.cons_append]

/-- A byte more: behind the last part. -/
theorem parts_snoc {d : UInt8} (hd : d ≠ 46) : ∀ (l : List UInt8), ∃ ps p, parts l = ps ++ [p] ∧ parts (l ++ [d]) = ps ++ [p ++ [d]]
  | [] => ⟨[], [], rfl, by rw [List.nil_append, parts, if_neg hd]; rfl⟩
  | c :: r => by
    obtain ⟨ps, p, h1, h2⟩ := parts_snoc hd r
    by_cases h : c = 46
    · subst h
      exact ⟨[] :: ps, p, by rw [parts_dot, h1]; rfl, by rw [List.cons_append, parts_dot, h2]; rfl⟩
    · match ps, h1, h2 with
      | [], h1, h2 => exact ⟨[], c :: p, by rw [parts_cons h h1]; rfl, by rw [List.cons_append, parts_cons h h2]; rfl⟩
      | q :: qs, h1, h2 => exact ⟨(c :: q) :: qs, p, by rw [parts_cons h h1]; rfl, by rw [List.cons_append, parts_cons h h2]; rfl⟩

/-- Parts, with dots between. -/
def join : List (List UInt8) → List UInt8
  | [] => []
  | [p] => p
  | p :: q :: ps => p ++ 46 :: join (q :: ps)

theorem join_parts : ∀ l : List UInt8, join (parts l) = l
  | [] => rfl
  | c :: r => by
    have ih := join_parts r
    by_cases h : c = 46
    · subst h
      rw [parts_dot]
      rcases hr : parts r with _ | ⟨p, ps⟩
      · exact absurd hr (parts_ne r)
      · rw [join, ← hr, ih]; rfl
    · rcases hr : parts r with _ | ⟨p, ps⟩
      · exact absurd hr (parts_ne r)
      · rw [parts_cons h hr]
        rw [hr] at ih
        cases ps with
        | nil => rw [join] at ih ⊢; rw [ih]
        | cons q qs => rw [join] at ih ⊢; rw [List.cons_append, ih]

theorem parts_inj {l m : List UInt8} (h : parts l = parts m) : l = m := by rw [← join_parts l, h, join_parts]

theorem parts_nodot : ∀ (l : List UInt8), ∀ p ∈ parts l, ∀ c ∈ p, c ≠ 46
  | [], p, hp, c, hc => by simp [parts] at hp; subst hp; simp at hc
  | d :: r, p, hp, c, hc => by
    have ih := parts_nodot r
    by_cases h : d = 46
    · subst h
      rw [parts_dot] at hp
      rcases List.mem_cons.1 hp with rfl | hp
      · simp at hc
      · exact ih p hp c hc
    · rcases hr : parts r with _ | ⟨q, qs⟩
      · exact absurd hr (parts_ne r)
      · rw [parts_cons h hr] at hp
        rw [hr] at ih
        rcases List.mem_cons.1 hp with rfl | hp
        · rcases List.mem_cons.1 hc with rfl | hc
          · exact h
          · exact ih q (by simp) c hc
        · exact ih p (by simp [hp]) c hc

theorem parts_len : ∀ (l : List UInt8), ∀ p ∈ parts l, p.length ≤ l.length
  | [], p, hp => by simp [parts] at hp; subst hp; simp
  | d :: r, p, hp => by
    have ih := parts_len r
    by_cases h : d = 46
    · subst h
      rw [parts_dot] at hp
      rcases List.mem_cons.1 hp with rfl | hp
      · simp
      · have := ih p hp; rw [List.length_cons]; omega
    · rcases hr : parts r with _ | ⟨q, qs⟩
      · exact absurd hr (parts_ne r)
      · rw [parts_cons h hr] at hp
        rw [hr] at ih
        rcases List.mem_cons.1 hp with rfl | hp
        · have := ih q (by simp); rw [List.length_cons, List.length_cons]; omega
        · have := ih p (by simp [hp]); rw [List.length_cons]; omega

theorem parts_count : ∀ l : List UInt8, (parts l).length ≤ l.length + 1
  | [] => by simp [parts]
  | d :: r => by
    have ih := parts_count r
    by_cases h : d = 46
    · subst h; rw [parts_dot]; simp; omega
    · rcases hr : parts r with _ | ⟨q, qs⟩
      · exact absurd hr (parts_ne r)
      · rw [parts_cons h hr]; rw [hr] at ih; simp at ih ⊢; omega

/-- A version. -/
structure Ver where
  maj : Int
  min : Int
  pat : Int
  pre : List UInt8
deriving DecidableEq

def numOk (n : Int) : Bool := decide (0 ≤ n) && decide (n ≤ 999999)
def preOk (p : List UInt8) : Bool := p.isEmpty || (parts p).all part

/-- A version that may be. -/
def may (v : Ver) : Bool := numOk v.maj && numOk v.min && numOk v.pat && decide (v.pre.length ≤ 24) && preOk v.pre

theorem numOk_iff (n : Int) : numOk n = true ↔ 0 ≤ n ∧ n ≤ 999999 := by simp [numOk]

theorem may_iff (v : Ver) : may v = true ↔ (0 ≤ v.maj ∧ v.maj ≤ 999999) ∧ (0 ≤ v.min ∧ v.min ≤ 999999) ∧ (0 ≤ v.pat ∧ v.pat ≤ 999999) ∧ v.pre.length ≤ 24 ∧ preOk v.pre = true := by
  simp only [may, Bool.and_eq_true, numOk_iff, decide_eq_true_eq]
  exact ⟨fun ⟨⟨⟨⟨a, b⟩, c⟩, d⟩, e⟩ => ⟨a, b, c, d, e⟩, fun ⟨a, b, c, d, e⟩ => ⟨⟨⟨⟨a, b⟩, c⟩, d⟩, e⟩⟩

/-- A number in decimal digits. -/
def dec (n : Nat) : List UInt8 := if h : n < 10 then [UInt8.ofNat (48 + n)] else dec (n / 10) ++ [UInt8.ofNat (48 + n % 10)]
termination_by n

theorem dec_small {n : Nat} (h : n < 10) : dec n = [UInt8.ofNat (48 + n)] := by rw [dec, dif_pos h]
theorem dec_big {n : Nat} (h : ¬ n < 10) : dec n = dec (n / 10) ++ [UInt8.ofNat (48 + n % 10)] := by rw [dec, dif_neg h]
/-- The digits ahead of the last one. -/
def ahead (n : Nat) : List UInt8 := if n < 10 then [] else dec (n / 10)
theorem dec_last (n : Nat) : dec n = ahead n ++ [UInt8.ofNat (48 + n % 10)] := by
  unfold ahead
  by_cases h : n < 10
  · rw [dec_small h, if_pos h, Nat.mod_eq_of_lt h]; rfl
  · rw [dec_big h, if_neg h]

theorem dec_dig : ∀ n : Nat, ∀ c ∈ dec n, 48 ≤ c.toNat ∧ c.toNat ≤ 57 := by
  intro n
  induction n using Nat.strongRecOn with
  | ind n ih =>
    intro c hc
    by_cases h : n < 10
    · rw [dec_small h] at hc
      simp at hc
      subst hc
      simp; omega
    · rw [dec_big h, List.mem_append] at hc
      rcases hc with hc | hc
      · exact ih _ (by omega) c hc
      · simp at hc
        subst hc
        simp; omega

theorem dec_ne (n : Nat) : dec n ≠ [] := by
  by_cases h : n < 10
  · rw [dec_small h]; simp
  · rw [dec_big h]; simp

theorem dec_len : ∀ (k n : Nat), n < 10 ^ k → 1 ≤ k → (dec n).length ≤ k
  | 0, _, _, h => absurd h (by omega)
  | k + 1, n, hn, _ => by
    by_cases h : n < 10
    · rw [dec_small h]; simp
    · rw [dec_big h, List.length_append]
      have hk : 1 ≤ k := by
        rcases Nat.eq_zero_or_pos k with rfl | h'
        · omega
        · exact h'
      have := dec_len k (n / 10) (by rw [Nat.pow_succ] at hn; omega) hk
      simp; omega

/-- The text of a version. -/
def text (v : Ver) : List UInt8 := dec v.maj.toNat ++ 46 :: (dec v.min.toNat ++ 46 :: (dec v.pat.toNat ++ if v.pre = [] then [] else 45 :: v.pre))

theorem text_len {v : Ver} (h : may v = true) : (text v).length ≤ 45 := by
  rw [may_iff] at h
  have h1 := dec_len 6 v.maj.toNat (by have : (10 : Nat) ^ 6 = 1000000 := rfl; omega) (by omega)
  have h2 := dec_len 6 v.min.toNat (by have : (10 : Nat) ^ 6 = 1000000 := rfl; omega) (by omega)
  have h3 := dec_len 6 v.pat.toNat (by have : (10 : Nat) ^ 6 = 1000000 := rfl; omega) (by omega)
  unfold text
  simp only [List.length_append, List.length_cons]
  split <;> simp <;> omega

/-- A number goes on by a digit, as the document reads it. -/
def rd (a : Nat) (c : UInt8) : Nat := if a ≤ 999999 then 10 * a + (c.toNat - 48) else a

theorem rd_dec : ∀ n : Nat, n ≤ 999999 → (dec n).foldl rd 0 = n := by
  intro n
  induction n using Nat.strongRecOn with
  | ind n ih =>
    intro hn
    by_cases h : n < 10
    · rw [dec_small h]
      simp [rd]; omega
    · rw [dec_big h, List.foldl_append, ih _ (by omega) (by omega), List.foldl_cons, List.foldl_nil]
      have e : (UInt8.ofNat (48 + n % 10)).toNat = 48 + n % 10 := by simp; omega
      unfold rd
      rw [if_pos (by omega), e]
      omega

/-- The three numbers, number k another one. -/
def put (t : Nat × Nat × Nat) (k x : Nat) : Nat × Nat × Nat := if k = 0 then (x, t.2.1, t.2.2) else if k = 1 then (t.1, x, t.2.2) else (t.1, t.2.1, x)
def get (t : Nat × Nat × Nat) (k : Nat) : Nat := if k = 0 then t.1 else if k = 1 then t.2.1 else t.2.2

/-- The numbers ahead of a -, as the document reads them, and the rest. -/
def scan : List UInt8 → Nat → Nat × Nat × Nat → Option ((Nat × Nat × Nat) × List UInt8)
  | [], _, t => some (t, [])
  | c :: r, k, t =>
    if c = 45 then some (t, c :: r)
    else if c = 46 then (if k < 2 then scan r (k + 1) t else none)
    else if dig c = true then scan r k (put t k (rd (get t k) c)) else none

theorem put_put (t : Nat × Nat × Nat) (k x y : Nat) : put (put t k x) k y = put t k y := by
  unfold put; split <;> simp_all
theorem get_put (t : Nat × Nat × Nat) (k x : Nat) : get (put t k x) k = x := by
  unfold get put; split <;> simp_all

theorem scan_digits : ∀ (l r : List UInt8) (k : Nat) (t : Nat × Nat × Nat), k ≤ 2 → (∀ c ∈ l, 48 ≤ c.toNat ∧ c.toNat ≤ 57) → l ≠ [] → scan (l ++ r) k t = scan r k (put t k (l.foldl rd (get t k)))
  | [], _, _, _, _, _, h => absurd rfl h
  | c :: l, r, k, t, hk, hl, _ => by
    have hc := hl c (by simp)
    have h1 : c ≠ 45 := by rintro rfl; simp at hc
    have h2 : c ≠ 46 := by rintro rfl; simp at hc
    have h3 : dig c = true := by simp [dig]; omega
    rw [List.cons_append, scan, if_neg h1, if_neg h2, if_pos h3, List.foldl_cons]
    by_cases hn : l = []
    · subst hn; rfl
    · rw [scan_digits l r k _ hk (fun d hd => hl d (by simp [hd])) hn, get_put, put_put]

theorem scan_dot (r : List UInt8) (k : Nat) (t : Nat × Nat × Nat) (h : k < 2) : scan (46 :: r) k t = scan r (k + 1) t := by
  rw [scan, if_neg (by decide), if_pos rfl, if_pos h]

theorem scan_end (p : List UInt8) (k : Nat) (t : Nat × Nat × Nat) : scan (if p = [] then [] else 45 :: p) k t = some (t, if p = [] then [] else 45 :: p) := by
  split
  · rfl
  · rw [scan, if_pos rfl]

theorem scan_text {v : Ver} (h : may v = true) : scan (text v) 0 (0, 0, 0) = some ((v.maj.toNat, v.min.toNat, v.pat.toNat), if v.pre = [] then [] else 45 :: v.pre) := by
  rw [may_iff] at h
  unfold text
  rw [scan_digits _ _ _ _ (by omega) (dec_dig _) (dec_ne _), scan_dot _ _ _ (by omega), scan_digits _ _ _ _ (by omega) (dec_dig _) (dec_ne _), scan_dot _ _ _ (by omega),
    scan_digits _ _ _ _ (by omega) (dec_dig _) (dec_ne _), scan_end]
  show some (put (put (put (0, 0, 0) 0 ((dec v.maj.toNat).foldl rd 0)) 1 ((dec v.min.toNat).foldl rd 0)) 2 ((dec v.pat.toNat).foldl rd 0), _) = _
  rw [rd_dec v.maj.toNat (by omega), rd_dec v.min.toNat (by omega), rd_dec v.pat.toNat (by omega)]
  rfl

/-- The version that a text is. -/
def parse (l : List UInt8) : Option Ver :=
  match scan l 0 (0, 0, 0) with
  | none => none
  | some (t, rest) =>
    if may ⟨t.1, t.2.1, t.2.2, rest.tail⟩ = true ∧ text ⟨t.1, t.2.1, t.2.2, rest.tail⟩ = l then some ⟨t.1, t.2.1, t.2.2, rest.tail⟩ else none

theorem parse_text {v : Ver} (h : may v = true) : parse (text v) = some v := by
  have h' := h
  rw [may_iff] at h'
  have e : (⟨(v.maj.toNat : Int), (v.min.toNat : Int), (v.pat.toNat : Int), (if v.pre = [] then [] else 45 :: v.pre).tail⟩ : Ver) = v := by
    obtain ⟨a, b, c, p⟩ := v
    simp only at h'
    have e4 : (if p = [] then [] else 45 :: p).tail = p := by split <;> simp_all
    rw [e4]
    rw [Ver.mk.injEq]
    exact ⟨Int.toNat_of_nonneg h'.1.1, Int.toNat_of_nonneg h'.2.1.1, Int.toNat_of_nonneg h'.2.2.1.1, rfl⟩
  rw [parse, scan_text h]
  simp only
  rw [e, if_pos ⟨h, rfl⟩]

theorem parse_some {l : List UInt8} {v : Ver} (h : parse l = some v) : may v = true ∧ text v = l := by
  rw [parse] at h
  split at h
  · cases h
  · split at h
    · rename_i hc; cases h; exact hc
    · cases h

theorem parse_none {l : List UInt8} (h : parse l = none) (v : Ver) (hv : may v = true) : text v ≠ l := by
  rintro rfl
  rw [parse_text hv] at h
  cases h

/-! ### The order -/

/-- The number that digits are. -/
def num (l : List UInt8) : Nat := l.foldl (fun a c => 10 * a + (c.toNat - 48)) 0

theorem num_from (l : List UInt8) (a : Nat) : l.foldl (fun a c => 10 * a + (c.toNat - 48)) a = a * 10 ^ l.length + num l := by
  induction l generalizing a with
  | nil => simp [num]
  | cons c r ih =>
    have e : num (c :: r) = (c.toNat - 48) * 10 ^ r.length + num r := by
      show List.foldl _ (10 * 0 + (c.toNat - 48)) r = _
      rw [ih, Nat.mul_zero, Nat.zero_add]
    rw [List.foldl_cons, ih, e, List.length_cons, Nat.pow_succ, Nat.add_mul, Nat.add_assoc]
    congr 1
    rw [Nat.mul_comm 10 a, Nat.mul_assoc, Nat.mul_comm (10 ^ r.length) 10]

theorem num_cons (c : UInt8) (r : List UInt8) : num (c :: r) = (c.toNat - 48) * 10 ^ r.length + num r := by
  rw [num, List.foldl_cons, num_from]; simp

theorem num_lt (l : List UInt8) (h : ∀ c ∈ l, 48 ≤ c.toNat ∧ c.toNat ≤ 57) : num l < 10 ^ l.length := by
  induction l with
  | nil => simp [num]
  | cons c r ih =>
    have h1 := ih (fun d hd => h d (by simp [hd]))
    have hc := h c (by simp)
    rw [num_cons, List.length_cons, Nat.pow_succ]
    have : (c.toNat - 48) * 10 ^ r.length ≤ 9 * 10 ^ r.length := Nat.mul_le_mul_right _ (by omega)
    omega

/-- Digits of one length stand in the order of their numbers. -/
theorem num_order : ∀ (l m : List UInt8), l.length = m.length → (∀ c ∈ l, 48 ≤ c.toNat ∧ c.toNat ≤ 57) → (∀ c ∈ m, 48 ≤ c.toNat ∧ c.toNat ≤ 57) → (l < m ↔ num l < num m)
  | [], [], _, _, _ => by simp [num]
  | [], _ :: _, h, _, _ => by simp at h
  | _ :: _, [], h, _, _ => by simp at h
  | c :: l, d :: m, h, hl, hm => by
    have hlen : l.length = m.length := by simpa using h
    have ih := num_order l m hlen (fun x hx => hl x (by simp [hx])) (fun x hx => hm x (by simp [hx]))
    have hc := hl c (by simp)
    have hd := hm d (by simp)
    have n1 := num_lt l (fun x hx => hl x (by simp [hx]))
    have n2 := num_lt m (fun x hx => hm x (by simp [hx]))
    rw [List.cons_lt_cons_iff, num_cons, num_cons, ih, ← hlen]
    rw [← hlen] at n2
    obtain ⟨x, hx⟩ : ∃ x, x = 10 ^ l.length := ⟨_, rfl⟩
    rw [← hx] at n1 n2 ⊢
    constructor
    · rintro (h' | ⟨rfl, h'⟩)
      · have h2 : c.toNat < d.toNat := UInt8.lt_iff_toNat_lt.1 h'
        have : (c.toNat - 48 + 1) * x ≤ (d.toNat - 48) * x := Nat.mul_le_mul_right _ (by omega)
        rw [Nat.add_mul] at this
        omega
      · omega
    · intro h'
      rcases Nat.lt_trichotomy c.toNat d.toNat with h2 | h2 | h2
      · exact Or.inl (UInt8.lt_iff_toNat_lt.2 h2)
      · obtain rfl := UInt8.toNat_inj.1 h2
        exact Or.inr ⟨rfl, by omega⟩
      · have : (d.toNat - 48 + 1) * x ≤ (c.toNat - 48) * x := Nat.mul_le_mul_right _ (by omega)
        rw [Nat.add_mul] at this
        omega

theorem num_same {l m : List UInt8} (hlen : l.length = m.length) (hl : ∀ c ∈ l, 48 ≤ c.toNat ∧ c.toNat ≤ 57) (hm : ∀ c ∈ m, 48 ≤ c.toNat ∧ c.toNat ≤ 57) (h : num l = num m) : l = m := by
  have h1 := num_order l m hlen hl hm
  have h2 := num_order m l hlen.symm hm hl
  exact List.le_antisymm (List.not_lt.1 (by rw [h2]; omega)) (List.not_lt.1 (by rw [h1]; omega))

/-- 0s ahead change nothing of the number. -/
theorem num_zero (l : List UInt8) : num (48 :: l) = num l := by rw [num_cons]; simp

/-- Where a version stands: smaller for what is below. -/
def partKey (p : List UInt8) : List Int := if digits p then [0, (num p : Int)] else 1 :: p.map fun c => (c.toNat : Int)
def preKey (p : List UInt8) : List (List Int) := if p = [] then [[2]] else [1] :: (parts p).map partKey
def key (v : Ver) : List (List Int) := [v.maj] :: [v.min] :: [v.pat] :: preKey v.pre

/-- -1, 0, 1 of keys. -/
def three {α : Type} [LT α] [DecidableLT α] (a b : α) : Int := if a < b then -1 else if b < a then 1 else 0
def cmp (a b : Ver) : Int := three (key a) (key b)

theorem three_turn {a b : List (List Int)} : three b a = - three a b := by
  unfold three
  by_cases h : a < b
  · rw [if_neg (List.lt_asymm h), if_pos h, if_pos h]; rfl
  · by_cases h2 : b < a
    · rw [if_pos h2, if_neg h, if_pos h2]
    · rw [if_neg h2, if_neg h, if_neg h, if_neg h2]; rfl

theorem three_zero {a b : List (List Int)} : three a b = 0 ↔ a = b := by
  unfold three
  constructor
  · intro h
    by_cases h1 : a < b
    · rw [if_pos h1] at h; omega
    · rw [if_neg h1] at h
      by_cases h2 : b < a
      · rw [if_pos h2] at h; omega
      · exact List.le_antisymm (List.not_lt.1 h2) (List.not_lt.1 h1)
  · rintro rfl
    rw [if_neg (List.lt_irrefl a), if_neg (List.lt_irrefl a)]

theorem three_le {a b : List (List Int)} : three a b ≤ 0 ↔ ¬ b < a := by
  unfold three
  by_cases h : a < b
  · rw [if_pos h]; exact ⟨fun _ => List.lt_asymm h, fun _ => by omega⟩
  · rw [if_neg h]
    by_cases h2 : b < a
    · rw [if_pos h2]; exact ⟨fun h' => absurd h' (by omega), fun h' => absurd h2 h'⟩
    · rw [if_neg h2]; exact ⟨fun _ => h2, fun _ => by omega⟩

theorem three_trans {a b c : List (List Int)} (h1 : three a b ≤ 0) (h2 : three b c ≤ 0) : three a c ≤ 0 := by
  rw [three_le] at h1 h2 ⊢
  exact List.not_lt.2 (List.le_trans (List.not_lt.1 h1) (List.not_lt.1 h2))

theorem three_range (a b : List (List Int)) : three a b = -1 ∨ three a b = 0 ∨ three a b = 1 := by
  unfold three; split; exact Or.inl rfl; split; exact Or.inr (Or.inr rfl); exact Or.inr (Or.inl rfl)

end Sem

/- Mathematics of layer 4, the order step by step: parts, versions. -/
namespace Sem

theorem three_congr {α β : Type} [LT α] [DecidableLT α] [LT β] [DecidableLT β] {a b : α} {c d : β} (h1 : a < b ↔ c < d) (h2 : b < a ↔ d < c) : three a b = three c d := by
  unfold three
  by_cases h : a < b
  · rw [if_pos h, if_pos (h1.1 h)]
  · rw [if_neg h, if_neg (fun h' => h (h1.2 h'))]
    by_cases h' : b < a
    · rw [if_pos h', if_pos (h2.1 h')]
    · rw [if_neg h', if_neg (fun h'' => h' (h2.2 h''))]

theorem three_same {α : Type} [LT α] [DecidableLT α] {a : α} (h : ¬ a < a) : three a a = 0 := by
  unfold three; rw [if_neg h, if_neg h]

/-- By the first thing, then by the rest. -/
theorem three_cons {α : Type} [LT α] [DecidableLT α] [DecidableEq α] [DecidableLT (List α)] (irr : ∀ x : α, ¬ x < x) (x y : α) (l m : List α) :
    three (x :: l) (y :: m) = if x = y then three l m else if x < y then -1 else if y < x then 1 else 0 := by
  by_cases e : x = y
  · subst e
    rw [if_pos rfl]
    refine three_congr ?_ ?_ <;> rw [List.cons_lt_cons_iff] <;> exact ⟨fun h => h.elim (fun h => absurd h (irr _)) (·.2), fun h => Or.inr ⟨rfl, h⟩⟩
  · rw [if_neg e]
    refine three_congr (α := List α) (β := α) (c := x) (d := y) ?_ ?_ |>.trans rfl <;> rw [List.cons_lt_cons_iff]
    · exact ⟨fun h => h.elim id (fun h => absurd h.1 e), Or.inl⟩
    · exact ⟨fun h => h.elim id (fun h => absurd h.1.symm e), Or.inl⟩

theorem bytes_lt : ∀ (l m : List UInt8), l.map (fun c => (c.toNat : Int)) < m.map (fun c => (c.toNat : Int)) ↔ l < m
  | [], [] => by simp
  | [], _ :: _ => by simp
  | _ :: _, [] => by simp
  | a :: l, b :: m => by
    rw [List.map_cons, List.map_cons, List.cons_lt_cons_iff, List.cons_lt_cons_iff, bytes_lt l m]
    have h1 : ((a.toNat : Int) < b.toNat) ↔ a < b := by rw [UInt8.lt_iff_toNat_lt]; omega
    have h2 : ((a.toNat : Int) = b.toNat) ↔ a = b := by
      constructor
      · intro h; exact UInt8.toNat_inj.1 (by omega)
      · rintro rfl; rfl
    rw [h1, h2]

theorem num_pad (k : Nat) (l : List UInt8) : num (List.replicate k 48 ++ l) = num l := by
  induction k with
  | zero => rfl
  | succ k ih => rw [List.replicate_succ, List.cons_append, num_zero, ih]

theorem digits_all {l : List UInt8} (h : digits l = true) : ∀ c ∈ l, 48 ≤ c.toNat ∧ c.toNat ≤ 57 := by
  intro c hc
  unfold digits at h
  rw [Bool.and_eq_true] at h
  have := List.all_eq_true.1 h.2 c hc
  simp [dig] at this
  exact this

/-- Two parts. -/
def cmpPart (a b : List UInt8) : Int := three (partKey a) (partKey b)

theorem irrI (x : Int) : ¬ x < x := Int.lt_irrefl x

theorem cmpPart_dn {a b : List UInt8} (ha : digits a = true) (hb : digits b = false) : cmpPart a b = -1 := by
  unfold cmpPart partKey
  rw [ha, hb, if_pos rfl, if_neg (by simp), three_cons irrI, if_neg (by decide), if_pos (by decide)]
theorem cmpPart_nd {a b : List UInt8} (ha : digits a = false) (hb : digits b = true) : cmpPart a b = 1 := by
  unfold cmpPart partKey
  rw [ha, hb, if_pos rfl, if_neg (by simp), three_cons irrI, if_neg (by decide), if_neg (by decide), if_pos (by decide)]
theorem cmpPart_nn {a b : List UInt8} (ha : digits a = false) (hb : digits b = false) : cmpPart a b = three a b := by
  unfold cmpPart partKey
  rw [ha, hb, if_neg (by simp), if_neg (by simp), three_cons irrI, if_pos rfl]
  exact three_congr (bytes_lt _ _) (bytes_lt _ _)
theorem cmpPart_dd {a b : List UInt8} (ha : digits a = true) (hb : digits b = true) (j k : Nat) (h : j + a.length = k + b.length) :
    cmpPart a b = three (List.replicate j 48 ++ a) (List.replicate k 48 ++ b) := by
  have h1 : ∀ c ∈ List.replicate j 48 ++ a, 48 ≤ (c : UInt8).toNat ∧ c.toNat ≤ 57 := by
    intro c hc
    rcases List.mem_append.1 hc with hc | hc
    · rw [List.mem_replicate] at hc; obtain ⟨_, rfl⟩ := hc; decide
    · exact digits_all ha c hc
  have h2 : ∀ c ∈ List.replicate k 48 ++ b, 48 ≤ (c : UInt8).toNat ∧ c.toNat ≤ 57 := by
    intro c hc
    rcases List.mem_append.1 hc with hc | hc
    · rw [List.mem_replicate] at hc; obtain ⟨_, rfl⟩ := hc; decide
    · exact digits_all hb c hc
  have hl : (List.replicate j 48 ++ a).length = (List.replicate k (48 : UInt8) ++ b).length := by simp; omega
  unfold cmpPart partKey
  rw [ha, hb, if_pos rfl, if_pos rfl, three_cons irrI, if_pos rfl]
  refine three_congr ?_ ?_
  · rw [num_order _ _ hl h1 h2, num_pad, num_pad, List.cons_lt_cons_iff]
    simp
  · rw [num_order _ _ hl.symm h2 h1, num_pad, num_pad, List.cons_lt_cons_iff]
    simp

/-- Parts one by one. -/
def cmpParts : List (List UInt8) → List (List UInt8) → Int
  | [], [] => 0
  | [], _ :: _ => -1
  | _ :: _, [] => 1
  | a :: l, b :: m => if cmpPart a b = 0 then cmpParts l m else cmpPart a b

theorem irrL (x : List Int) : ¬ x < x := List.lt_irrefl x

theorem cmpParts_key : ∀ l m : List (List UInt8), three (l.map partKey) (m.map partKey) = cmpParts l m
  | [], [] => by simp [three, cmpParts]
  | [], _ :: _ => by simp [three, cmpParts]
  | _ :: _, [] => by simp [three, cmpParts]
  | a :: l, b :: m => by
    have h0 : cmpPart a b = 0 ↔ partKey a = partKey b := by
      unfold cmpPart three
      constructor
      · intro h
        by_cases h1 : partKey a < partKey b
        · rw [if_pos h1] at h; omega
        · rw [if_neg h1] at h
          by_cases h2 : partKey b < partKey a
          · rw [if_pos h2] at h; omega
          · exact List.le_antisymm (List.not_lt.1 h2) (List.not_lt.1 h1)
      · intro h; rw [h, if_neg (irrL _), if_neg (irrL _)]
    rw [List.map_cons, List.map_cons, three_cons irrL, cmpParts, cmpParts_key l m]
    by_cases h : partKey a = partKey b
    · rw [if_pos h, if_pos (h0.2 h)]
    · rw [if_neg h, if_neg (fun h' => h (h0.1 h'))]
      rfl

theorem cmp_steps (v w : Ver) : cmp v w = if v.maj = w.maj then (if v.min = w.min then (if v.pat = w.pat then three (preKey v.pre) (preKey w.pre)
      else if v.pat < w.pat then -1 else if w.pat < v.pat then 1 else 0) else if v.min < w.min then -1 else if w.min < v.min then 1 else 0) else if v.maj < w.maj then -1 else if w.maj < v.maj then 1 else 0 := by
  have one : ∀ x y : Int, ([x] = [y]) = (x = y) := by intro x y; simp
  have lt1 : ∀ x y : Int, ([x] < [y]) = (x < y) := by intro x y; rw [List.cons_lt_cons_iff]; simp
  unfold cmp key
  rw [three_cons irrL, three_cons irrL, three_cons irrL]
  simp only [one, lt1]

theorem preKey_cases (p q : List UInt8) : three (preKey p) (preKey q) = if p = [] then (if q = [] then 0 else 1) else if q = [] then -1 else cmpParts (parts p) (parts q) := by
  unfold preKey
  by_cases h1 : p = []
  · rw [if_pos h1, if_pos h1]
    by_cases h2 : q = []
    · rw [if_pos h2, if_pos h2]; exact three_same (List.lt_irrefl _)
    · rw [if_neg h2, if_neg h2, three_cons irrL, if_neg (by decide), if_neg (by decide), if_pos (by decide)]
  · rw [if_neg h1, if_neg h1]
    by_cases h2 : q = []
    · rw [if_pos h2, if_pos h2, three_cons irrL, if_neg (by decide), if_pos (by decide)]
    · rw [if_neg h2, if_neg h2, three_cons irrL, if_pos rfl, cmpParts_key]

/-- Keys of parts that may be are unlike. -/
theorem part_digits_len {p : List UInt8} (h : part p = true) (hd : digits p = true) : p = [48] ∨ 10 ^ (p.length - 1) ≤ num p := by
  unfold part at h
  rw [hd] at h
  match p, h with
  | c :: r, h =>
    by_cases e : c :: r = [48]
    · exact Or.inl e
    · right
      have hc := digits_all hd c (by simp)
      have h48 : c.toNat ≠ 48 := by
        intro h'
        have : c = 48 := UInt8.toNat_inj.1 h'
        subst this
        simp at h e
        exact absurd h.2 e
      rw [num_cons, List.length_cons, Nat.add_sub_cancel]
      have : 1 * 10 ^ r.length ≤ (c.toNat - 48) * 10 ^ r.length := Nat.mul_le_mul_right _ (by omega)
      omega

theorem partKey_inj {p q : List UInt8} (hp : part p = true) (hq : part q = true) (h : partKey p = partKey q) : p = q := by
  unfold partKey at h
  cases hdp : digits p
  · cases hdq : digits q
    · rw [hdp, hdq, if_neg (by simp), if_neg (by simp)] at h
      simp only [List.cons.injEq, true_and] at h
      have : ∀ l m : List UInt8, l.map (fun c => (c.toNat : Int)) = m.map (fun c => (c.toNat : Int)) → l = m := by
        intro l
        induction l with
        | nil => intro m h; simpa using h
        | cons a l ih =>
          intro m h
          match m, h with
          | [], h => simp at h
          | b :: m, h =>
            simp only [List.map_cons, List.cons.injEq] at h
            rw [ih m h.2, UInt8.toNat_inj.1 (show a.toNat = b.toNat by omega)]
      exact this p q h
    · rw [hdp, hdq] at h; simp at h
  · cases hdq : digits q
    · rw [hdp, hdq] at h; simp at h
    · rw [hdp, hdq] at h
      have hn : num p = num q := by
        have h' : ((num p : Nat) : Int) = ((num q : Nat) : Int) := by simpa using h
        omega
      have n1 := num_lt p (digits_all hdp)
      have n2 := num_lt q (digits_all hdq)
      have hpl : 1 ≤ p.length := by
        cases p with
        | nil => simp [digits] at hdp
        | cons => simp
      have hql : 1 ≤ q.length := by
        cases q with
        | nil => simp [digits] at hdq
        | cons => simp
      have hlen : p.length = q.length := by
        rcases Nat.lt_trichotomy p.length q.length with h' | h' | h'
        · rcases part_digits_len hq hdq with e | e
          · rw [e, List.length_singleton] at h'; omega
          · have := Nat.pow_le_pow_right (n := 10) (by omega) (show p.length ≤ q.length - 1 by omega); omega
        · exact h'
        · rcases part_digits_len hp hdp with e | e
          · rw [e, List.length_singleton] at h'; omega
          · have := Nat.pow_le_pow_right (n := 10) (by omega) (show q.length ≤ p.length - 1 by omega); omega
      exact num_same hlen (digits_all hdp) (digits_all hdq) hn

theorem keys_inj : ∀ {l m : List (List UInt8)}, (∀ p ∈ l, part p = true) → (∀ p ∈ m, part p = true) → l.map partKey = m.map partKey → l = m
  | [], [], _, _, _ => rfl
  | [], _ :: _, _, _, h => by simp at h
  | _ :: _, [], _, _, h => by simp at h
  | a :: l, b :: m, hl, hm, h => by
    simp only [List.map_cons, List.cons.injEq] at h
    rw [partKey_inj (hl a (by simp)) (hm b (by simp)) h.1, keys_inj (fun p hp => hl p (by simp [hp])) (fun p hp => hm p (by simp [hp])) h.2]

theorem key_inj {v w : Ver} (hv : may v = true) (hw : may w = true) (h : key v = key w) : v = w := by
  rw [may_iff] at hv hw
  obtain ⟨a, b, c, p⟩ := v
  obtain ⟨a', b', c', q⟩ := w
  unfold key at h
  simp only [List.cons.injEq, and_true] at h
  obtain ⟨rfl, rfl, rfl, h⟩ := h
  have : p = q := by
    unfold preKey at h
    by_cases h1 : p = []
    · by_cases h2 : q = []
      · rw [h1, h2]
      · rw [if_pos h1, if_neg h2] at h; simp at h
    · by_cases h2 : q = []
      · rw [if_neg h1, if_pos h2] at h; simp at h
      · rw [if_neg h1, if_neg h2] at h
        simp only [List.cons.injEq, true_and] at h
        have e1 : (parts p).all part = true := by
          have := hv.2.2.2.2; unfold preOk at this; simpa [h1] using this
        have e2 : (parts q).all part = true := by
          have := hw.2.2.2.2; unfold preOk at this; simpa [h2] using this
        exact parts_inj (keys_inj (List.all_eq_true.1 e1) (List.all_eq_true.1 e2) h)
  rw [this]

end Sem

/- Mathematics of layer 4: numbers without 0s ahead; cutting at a byte; a version's text cut in its pieces. -/
namespace Sem

/-- Without the 0s ahead. -/
def trim (l : List UInt8) : List UInt8 := l.dropWhile (· == 48)

theorem trim_num : ∀ l : List UInt8, num (trim l) = num l
  | [] => rfl
  | c :: r => by
    unfold trim
    rw [List.dropWhile_cons]
    by_cases h : (c == 48) = true
    · rw [if_pos h]
      obtain rfl : c = 48 := by simpa using h
      rw [num_zero]; exact trim_num r
    · rw [if_neg h]

theorem trim_mem {l : List UInt8} {c : UInt8} (h : c ∈ trim l) : c ∈ l := (List.dropWhile_sublist _).mem h

theorem trim_low {l : List UInt8} (hl : ∀ c ∈ l, 48 ≤ c.toNat ∧ c.toNat ≤ 57) : trim l = [] ∨ 10 ^ ((trim l).length - 1) ≤ num (trim l) := by
  rcases h : trim l with _ | ⟨c, r⟩
  · exact Or.inl rfl
  · right
    have hc : ¬ (c == 48) = true := by
      have := List.head?_dropWhile_not (· == (48 : UInt8)) l
      rw [show l.dropWhile (· == 48) = c :: r from h] at this
      simpa using this
    have hcm := hl c (trim_mem (l := l) (by rw [h]; simp))
    have h48 : c.toNat ≠ 48 := fun h' => hc (by rw [beq_iff_eq]; exact UInt8.toNat_inj.1 h')
    rw [num_cons, List.length_cons, Nat.add_sub_cancel]
    have : 1 * 10 ^ r.length ≤ (c.toNat - 48) * 10 ^ r.length := Nat.mul_le_mul_right _ (by omega)
    omega

theorem trim_short {a b : List UInt8} (ha : ∀ c ∈ a, 48 ≤ c.toNat ∧ c.toNat ≤ 57) (hb : ∀ c ∈ b, 48 ≤ c.toNat ∧ c.toNat ≤ 57) (h : (trim a).length < (trim b).length) : num a < num b := by
  have h1 := num_lt (trim a) (fun c hc => ha c (trim_mem hc))
  rcases trim_low hb with h2 | h2
  · rw [h2] at h; simp at h
  · have h3 := Nat.pow_le_pow_right (n := 10) (by omega) (show (trim a).length ≤ (trim b).length - 1 by omega)
    rw [← trim_num a, ← trim_num b]; omega

/-- Two parts of digits: by their lengths without the 0s ahead, then byte by byte. -/
theorem cmpPart_trim {a b : List UInt8} (ha : digits a = true) (hb : digits b = true) :
    cmpPart a b = if (trim a).length < (trim b).length then -1 else if (trim b).length < (trim a).length then 1 else three (trim a) (trim b) := by
  have h1 := digits_all ha
  have h2 := digits_all hb
  have e : cmpPart a b = three (num a) (num b) := by
    unfold cmpPart partKey
    rw [ha, hb, if_pos rfl, if_pos rfl, three_cons irrI, if_pos rfl]
    refine three_congr ?_ ?_ <;> rw [List.cons_lt_cons_iff] <;> simp
  rw [e]
  by_cases c1 : (trim a).length < (trim b).length
  · have := trim_short h1 h2 c1
    rw [if_pos c1]; unfold three; rw [if_pos this]
  · rw [if_neg c1]
    by_cases c2 : (trim b).length < (trim a).length
    · have := trim_short h2 h1 c2
      rw [if_pos c2]; unfold three; rw [if_neg (by omega), if_pos this]
    · rw [if_neg c2]
      have hl : (trim a).length = (trim b).length := by omega
      refine (three_congr ?_ ?_).symm
      · rw [num_order _ _ hl (fun c hc => h1 c (trim_mem hc)) (fun c hc => h2 c (trim_mem hc)), trim_num, trim_num]
      · rw [num_order _ _ hl.symm (fun c hc => h2 c (trim_mem hc)) (fun c hc => h1 c (trim_mem hc)), trim_num, trim_num]

/-- A part that is the same. -/
theorem cmpParts_same : ∀ l : List (List UInt8), cmpParts l l = 0
  | [] => rfl
  | a :: l => by
    have h : cmpPart a a = 0 := three_same (irrL _)
    rw [cmpParts, if_pos h, cmpParts_same l]

/-- Cut at the first such byte: what stands ahead of it, what stands behind it, and is there one? -/
def cut (c : UInt8) : List UInt8 → List UInt8 × List UInt8 × Bool
  | [] => ([], [], false)
  | d :: r => if d = c then ([], r, true) else (d :: (cut c r).1, (cut c r).2.1, (cut c r).2.2)

theorem cut_no {c : UInt8} : ∀ {l : List UInt8}, (∀ d ∈ l, d ≠ c) → cut c l = (l, [], false)
  | [], _ => rfl
  | d :: r, h => by rw [cut, if_neg (h d (by simp)), cut_no (fun e he => h e (by simp [he]))]

theorem cut_at {c : UInt8} : ∀ {p : List UInt8} (q : List UInt8), (∀ d ∈ p, d ≠ c) → cut c (p ++ c :: q) = (p, q, true)
  | [], q, _ => by rw [List.nil_append, cut, if_pos rfl]
  | d :: r, q, h => by rw [List.cons_append, cut, if_neg (h d (by simp)), cut_at q (fun e he => h e (by simp [he]))]

/-- Cut at dots, part by part. -/
theorem parts_cut (l : List UInt8) : parts l = if (cut 46 l).2.2 = true then (cut 46 l).1 :: parts (cut 46 l).2.1 else [l] := by
  induction l with
  | nil => rfl
  | cons d r ih =>
    by_cases h : d = 46
    · subst h; rw [parts_dot, cut, if_pos rfl]; rfl
    · rw [cut, if_neg h]
      simp only
      rcases hp : parts r with _ | ⟨p, ps⟩
      · exact absurd hp (parts_ne r)
      · rw [parts_cons h hp]
        rw [hp] at ih
        by_cases hc : (cut 46 r).2.2 = true
        · rw [if_pos hc] at ih ⊢
          simp only [List.cons.injEq] at ih
          rw [ih.1, ih.2]
        · rw [if_neg hc] at ih ⊢
          simp only [List.cons.injEq] at ih
          rw [ih.1, ih.2]

theorem cut_len (c : UInt8) : ∀ l : List UInt8, (cut c l).1.length ≤ l.length ∧ (cut c l).2.1.length ≤ l.length ∧ ((cut c l).2.2 = true → (cut c l).2.1.length < l.length)
  | [] => by simp [cut]
  | d :: r => by
    obtain ⟨h1, h2, h3⟩ := cut_len c r
    rw [cut]
    split
    · simp
    · simp only [List.length_cons]
      exact ⟨by omega, by omega, fun h => by have := h3 h; omega⟩

theorem cut_first (c : UInt8) : ∀ l : List UInt8, ¬ (cut c l).2.2 = true → (cut c l).1 = l
  | [], _ => rfl
  | d :: r, h => by
    rw [cut] at h ⊢
    split at h
    · exact absurd rfl h
    · rename_i hd
      rw [if_neg hd]
      simp only at h ⊢
      rw [cut_first c r h]

theorem cut_miss (c : UInt8) : ∀ l : List UInt8, ¬ (cut c l).2.2 = true → (cut c l).2.1 = []
  | [], _ => rfl
  | d :: r, h => by
    rw [cut] at h ⊢
    split at h
    · exact absurd rfl h
    · rename_i hd
      rw [if_neg hd]
      exact cut_miss c r h

end Sem

/- Mathematics of layer 4 for the laws: the highest one by one look, cores, the order of versions. -/
namespace Sem

/-- No other one is above. -/
def top (l : List Ver) (v : Ver) : Bool := l.all fun u => decide (cmp u v ≤ 0)
/-- The first one that no other one is above. -/
def best (l : List Ver) : Option Ver := l.find? (top l)

theorem best_at {l : List Ver} {i : Nat} (hi : i < l.length) (h : top l l[i] = true) (hb : ∀ j (hj : j < l.length), j < i → top l l[j] = false) : best l = some l[i] := by
  unfold best
  rw [List.find?_eq_some_iff_getElem]
  exact ⟨h, i, hi, rfl, fun j hj => by simp [hb j (by omega) hj]⟩

theorem best_none {l : List Ver} (hb : ∀ j (hj : j < l.length), top l l[j] = false) : best l = none := by
  unfold best
  rw [List.find?_eq_none]
  intro v hv
  obtain ⟨j, hj, rfl⟩ := List.getElem_of_mem hv
  simp [hb j hj]

theorem cmp_turn (a b : Ver) : cmp b a = - cmp a b := three_turn
theorem cmp_same (a : Ver) : cmp a a = 0 := three_zero.2 rfl
theorem cmp_trans {a b c : Ver} (h1 : cmp a b ≤ 0) (h2 : cmp b c ≤ 0) : cmp a c ≤ 0 := three_trans h1 h2
theorem cmp_range (a b : Ver) : cmp a b = -1 ∨ cmp a b = 0 ∨ cmp a b = 1 := three_range _ _
theorem cmp_zero {a b : Ver} (ha : may a = true) (hb : may b = true) : cmp a b = 0 ↔ a = b :=
  ⟨fun h => key_inj ha hb (three_zero.1 h), fun h => by rw [h]; exact cmp_same b⟩

/-- Number i leads among the first k. -/
structure Lead (l : List Ver) (k i : Nat) : Prop where
  lt : i < k
  le : k ≤ l.length
  most : ∀ j (h : j < k), cmp (l[j]'(by omega)) (l[i]'(by omega)) ≤ 0
  first : ∀ j (h : j < i), cmp (l[j]'(by omega)) (l[i]'(by omega)) < 0

theorem lead_first {l : List Ver} (h : 0 < l.length) : Lead l 1 0 :=
  ⟨by omega, h, fun j hj => by obtain rfl : j = 0 := by omega
                               rw [cmp_same]; omega, fun j hj => absurd hj (by omega)⟩

theorem lead_keep {l : List Ver} {k i : Nat} (h : Lead l k i) (hk : k < l.length) (hc : cmp l[k] (l[i]'(by have := h.lt; omega)) ≤ 0) : Lead l (k + 1) i :=
  ⟨by have := h.lt; omega, hk, fun j hj => by
    rcases Nat.lt_succ_iff_lt_or_eq.1 hj with h' | rfl
    · exact h.most j h'
    · exact hc, h.first⟩

theorem lead_take {l : List Ver} {k i : Nat} (h : Lead l k i) (hk : k < l.length) (hc : 0 < cmp l[k] (l[i]'(by have := h.lt; omega))) : Lead l (k + 1) k := by
  have hi := h.lt
  have strict : ∀ j (hj : j < k), cmp (l[j]'(by omega)) l[k] < 0 := fun j hj => by
    have h1 := h.most j hj
    rcases Nat.lt_or_ge 0 (if cmp (l[j]'(by omega)) l[k] < 0 then 1 else 0) with h2 | h2
    · split at h2
      · assumption
      · omega
    · have h3 : ¬ cmp (l[j]'(by omega)) l[k] < 0 := by
        intro h'; rw [if_pos h'] at h2; omega
      have h4 : cmp l[k] (l[j]'(by omega)) ≤ 0 := by rw [cmp_turn]; omega
      have h5 := cmp_trans h4 h1
      omega
  exact ⟨by omega, hk, fun j hj => by
    rcases Nat.lt_succ_iff_lt_or_eq.1 hj with h' | rfl
    · exact Int.le_of_lt (strict j h')
    · rw [cmp_same]; omega, strict⟩

theorem lead_best {l : List Ver} {i : Nat} (h : Lead l l.length i) : best l = some (l[i]'h.lt) := by
  refine best_at h.lt ?_ fun j hj hji => ?_
  · unfold top
    rw [List.all_eq_true]
    intro v hv
    obtain ⟨j, hj, rfl⟩ := List.getElem_of_mem hv
    exact decide_eq_true (h.most j hj)
  · unfold top
    rw [List.all_eq_false]
    refine ⟨l[i]'h.lt, List.getElem_mem _, ?_⟩
    have h1 := h.first j hji
    have h2 := cmp_turn l[j] (l[i]'h.lt)
    simp only [decide_eq_true_eq]
    omega

/-- A version's core. -/
def core (v : Ver) : Ver := ⟨v.maj, v.min, v.pat, []⟩

theorem core_core (v : Ver) : core (core v) = core v := rfl

theorem pre_below {v : Ver} (h : v.pre ≠ []) : cmp v (core v) = -1 := by
  rw [cmp_steps]
  simp only [core, if_true]
  rw [preKey_cases, if_neg h, if_pos rfl]

theorem core_first {a b : Ver} (h : cmp (core b) (core a) ≠ 0) : cmp b a = cmp (core b) (core a) := by
  have e1 := cmp_steps b a
  have e2 : cmp (core b) (core a) = if b.maj = a.maj then (if b.min = a.min then (if b.pat = a.pat then three (preKey []) (preKey [])
      else if b.pat < a.pat then -1 else if a.pat < b.pat then 1 else 0) else if b.min < a.min then -1 else if a.min < b.min then 1 else 0) else if b.maj < a.maj then -1 else if a.maj < b.maj then 1 else 0 := cmp_steps (core b) (core a)
  rw [e2] at h ⊢
  rw [e1]
  by_cases h1 : b.maj = a.maj
  · simp only [if_pos h1] at h ⊢
    by_cases h2 : b.min = a.min
    · simp only [if_pos h2] at h ⊢
      by_cases h3 : b.pat = a.pat
      · simp only [if_pos h3] at h
        rw [preKey_cases, if_pos rfl, if_pos rfl] at h
        exact absurd rfl h
      · simp only [if_neg h3]
    · simp only [if_neg h2]
  · simp only [if_neg h1]

/-- Two tops: the core is the highest of a version with something behind the - and its core. -/
theorem best_core {a : Ver} (h : a.pre ≠ []) : best [a, core a] = some (core a) := by
  have h1 := pre_below h
  have h2 : cmp (core a) a = 1 := by rw [cmp_turn, h1]; rfl
  exact lead_best (l := [a, core a]) (i := 1) (lead_take (lead_first (by simp)) (by simp) (by show 0 < cmp (core a) a; omega))

theorem may_core {v : Ver} (h : may v = true) : may (core v) = true := by
  rw [may_iff] at h ⊢
  exact ⟨h.1, h.2.1, h.2.2.1, by simp [core], by simp [core, preOk]⟩

end Sem

/- Mathematics of layer 5: bounds, what meets them, their least form. -/
namespace Rng
open Sem

/-- A bound. -/
structure Bd where
  op : Int
  v : Ver
deriving DecidableEq

def Bd.may (b : Bd) : Bool := decide (1 ≤ b.op) && decide (b.op ≤ 5) && Sem.may b.v
def may (l : List Bd) : Bool := decide (l.length ≤ 20) && l.all Bd.may

theorem Bd.may_iff (b : Bd) : b.may = true ↔ 1 ≤ b.op ∧ b.op ≤ 5 ∧ Sem.may b.v = true := by
  simp only [Bd.may, Bool.and_eq_true, decide_eq_true_eq]; exact ⟨fun ⟨⟨a, b⟩, c⟩ => ⟨a, b, c⟩, fun ⟨a, b, c⟩ => ⟨⟨a, b⟩, c⟩⟩

theorem may_iff (l : List Bd) : may l = true ↔ l.length ≤ 20 ∧ ∀ b ∈ l, b.may = true := by
  simp [may]

/-- Does a version meet a bound? -/
def one (v : Ver) (b : Bd) : Bool :=
  if b.op = 1 then decide (cmp v b.v < 0) else if b.op = 2 then decide (cmp v b.v ≤ 0) else if b.op = 3 then decide (cmp v b.v = 0)
  else if b.op = 4 then decide (0 ≤ cmp v b.v) else if b.op = 5 then decide (0 < cmp v b.v) else false

def meets (v : Ver) (l : List Bd) : Bool := l.all (one v)

/-- The next version that may break things. -/
def next (v : Ver) : Ver := if v.maj = 0 then ⟨0, v.min + 1, 0, []⟩ else ⟨v.maj + 1, 0, 0, []⟩

def near (v : Ver) : List Bd :=
  if Sem.may v = true ∧ (next v).maj ≤ 999999 ∧ (next v).min ≤ 999999 then [⟨4, v⟩, ⟨1, next v⟩] else [⟨3, v⟩]

/-- Of two bounds the one that is kept: one more looked at behind the one kept so far. -/
def pick (way strict : Int) (x b : Bd) : Bd := if 0 < way * cmp b.v x.v ∨ (way * cmp b.v x.v = 0 ∧ b.op = strict ∧ x.op ≠ strict) then b else x

def best (way strict : Int) : List Bd → Option Bd
  | [] => none
  | x :: r => some (r.foldl (pick way strict) x)

/-- The bound that nothing meets. -/
def nil : Bd := ⟨1, ⟨0, 0, 0, [48]⟩⟩
def fix (b : Bd) : Bd := if b.op < 1 ∨ 5 < b.op then nil else b

def low (l : List Bd) : List Bd := (l.map fix).filter fun b => decide (3 ≤ b.op)
def high (l : List Bd) : List Bd := (l.map fix).filter fun b => decide (b.op ≤ 3)

def least (b : Bd) : Bd := if b.op = 3 then ⟨4, b.v⟩ else b
def most (b : Bd) : Bd := if b.op = 3 then ⟨2, b.v⟩ else b

/-- The two together. -/
def close : Option Bd → Option Bd → List Bd
  | none, none => []
  | some a, none => [a]
  | none, some b => [b]
  | some a, some b => if cmp a.v b.v < 0 then [a, b] else if cmp a.v b.v = 0 ∧ a.op = 4 ∧ b.op = 2 then [⟨3, a.v⟩] else [nil]

def normal (l : List Bd) : List Bd := close ((best 1 5 (low l)).map least) ((best (-1) 1 (high l)).map most)

/-- Three versions stand in a line. -/
theorem line (a b c : Ver) :
    (cmp b a = - cmp a b ∧ cmp c a = - cmp a c ∧ cmp c b = - cmp b c) ∧
    (cmp a b ≤ 0 → cmp b c ≤ 0 → cmp a c ≤ 0) ∧ (cmp a c ≤ 0 → cmp c b ≤ 0 → cmp a b ≤ 0) ∧ (cmp b a ≤ 0 → cmp a c ≤ 0 → cmp b c ≤ 0) ∧
    (cmp b c ≤ 0 → cmp c a ≤ 0 → cmp b a ≤ 0) ∧ (cmp c a ≤ 0 → cmp a b ≤ 0 → cmp c b ≤ 0) ∧ (cmp c b ≤ 0 → cmp b a ≤ 0 → cmp c a ≤ 0) :=
  ⟨⟨cmp_turn a b, cmp_turn a c, cmp_turn b c⟩, cmp_trans, cmp_trans, cmp_trans, cmp_trans, cmp_trans, cmp_trans⟩

theorem fix_op (b : Bd) : 1 ≤ (fix b).op ∧ (fix b).op ≤ 5 := by
  unfold fix
  split
  · decide
  · omega

theorem fix_id {b : Bd} (h : 1 ≤ b.op ∧ b.op ≤ 5) : fix b = b := by
  unfold fix; rw [if_neg (by omega)]

/-- 0.0.0-0 is the least version that may be. -/
theorem floor {v : Ver} (h : Sem.may v = true) : 0 ≤ cmp v ⟨0, 0, 0, [48]⟩ := by
  rw [Sem.may_iff] at h
  obtain ⟨h1, h2, h3, h4, h5⟩ := h
  rw [cmp_steps]
  simp only
  by_cases e1 : v.maj = 0
  · rw [if_pos e1]
    by_cases e2 : v.min = 0
    · rw [if_pos e2]
      by_cases e3 : v.pat = 0
      · rw [if_pos e3, preKey_cases]
        by_cases e4 : v.pre = []
        · rw [if_pos e4, if_neg (by simp)]; decide
        · rw [if_neg e4, if_neg (by simp)]
          have hp : (parts v.pre).all part = true := by
            have : v.pre.isEmpty = false := by simpa using e4
            unfold preOk at h5; rw [this] at h5; simpa using h5
          rcases hq : parts v.pre with _ | ⟨p, ps⟩
          · exact absurd hq (parts_ne _)
          · rw [hq] at hp
            have h48 : parts [48] = [[48]] := by decide
            rw [h48]
            have hp0 : part p = true := by simp at hp; exact hp.1
            have hk : 0 ≤ cmpPart p [48] := by
              cases hd : digits p
              · rw [cmpPart_nd hd (by decide)]; decide
              · have : cmpPart p [48] = three (partKey p) (partKey [48]) := rfl
                rw [this]
                have e : partKey [48] = [0, 0] := by decide
                have e' : partKey p = [0, (num p : Int)] := by unfold partKey; rw [if_pos hd]
                rw [e, e', three_cons irrI, if_pos rfl, three_cons irrI]
                split
                · unfold three; simp
                · split
                  · omega
                  · split <;> decide
            have : cmpParts (p :: ps) [[48]] = if cmpPart p [48] = 0 then cmpParts ps [] else cmpPart p [48] := by
              simp [cmpParts]
            rw [this]
            split
            · cases ps <;> simp [cmpParts]
            · exact hk
      · rw [if_neg e3, if_neg (by omega)]; split <;> decide
    · rw [if_neg e2, if_neg (by omega)]; split <;> decide
  · rw [if_neg e1, if_neg (by omega)]; split <;> decide

theorem one_fix {v : Ver} (h : Sem.may v = true) (b : Bd) : one v (fix b) = one v b := by
  unfold fix
  split
  · rename_i hb
    have hf := floor h
    have e1 : one v nil = false := by
      unfold one nil; rw [if_pos rfl]; simp; omega
    rw [e1]
    unfold one
    rw [if_neg (by omega), if_neg (by omega), if_neg (by omega), if_neg (by omega), if_neg (by omega)]
  · rfl

/-- The lower side of a bound. -/
def lo (v : Ver) (b : Bd) : Bool := if b.op = 5 then decide (0 < cmp v b.v) else decide (0 ≤ cmp v b.v)
def hi (v : Ver) (b : Bd) : Bool := if b.op = 1 then decide (cmp v b.v < 0) else decide (cmp v b.v ≤ 0)

theorem one_sides (v : Ver) {b : Bd} (h : 1 ≤ b.op ∧ b.op ≤ 5) : one v b = ((!decide (3 ≤ b.op) || lo v b) && (!decide (b.op ≤ 3) || hi v b)) := by
  obtain ⟨op, u⟩ := b
  unfold one lo hi
  simp only at h ⊢
  rcases (by omega : op = 1 ∨ op = 2 ∨ op = 3 ∨ op = 4 ∨ op = 5) with rfl | rfl | rfl | rfl | rfl
  · simp
  · simp
  · simp
    rw [Bool.eq_iff_iff]; simp; omega
  · simp
  · simp

theorem all_sides (v : Ver) : ∀ l : List Bd, (∀ b ∈ l, 1 ≤ b.op ∧ b.op ≤ 5) → l.all (one v) = ((l.filter fun b => decide (3 ≤ b.op)).all (lo v) && (l.filter fun b => decide (b.op ≤ 3)).all (hi v))
  | [], _ => rfl
  | b :: r, h => by
    have ih := all_sides v r (fun c hc => h c (List.mem_cons_of_mem _ hc))
    rw [List.all_cons, one_sides v (h b (by simp)), ih, List.filter_cons, List.filter_cons]
    cases decide (3 ≤ b.op) <;> cases decide (b.op ≤ 3) <;> simp [List.all_cons] <;> cases lo v b <;> cases hi v b <;> simp

theorem meets_sides {v : Ver} (h : Sem.may v = true) (l : List Bd) : meets v l = ((low l).all (lo v) && (high l).all (hi v)) := by
  have h1 : meets v l = (l.map fix).all (one v) := by
    unfold meets
    rw [List.all_map]
    congr 1
    funext b
    exact (one_fix h b).symm
  rw [h1, all_sides v (l.map fix) (fun b hb => by
    obtain ⟨c, _, rfl⟩ := List.mem_map.1 hb
    exact fix_op c)]
  rfl

theorem lo_pick (v : Ver) (x b : Bd) : lo v (pick 1 5 x b) = (lo v x && lo v b) := by
  have L := line v x.v b.v
  unfold pick lo
  rw [Bool.eq_iff_iff]
  by_cases hx : x.op = 5 <;> by_cases hb : b.op = 5 <;> simp only [hx, hb] <;> split <;> simp_all <;> omega

theorem hi_pick (v : Ver) (x b : Bd) : hi v (pick (-1) 1 x b) = (hi v x && hi v b) := by
  have L := line v x.v b.v
  unfold pick hi
  rw [Bool.eq_iff_iff]
  by_cases hx : x.op = 1 <;> by_cases hb : b.op = 1 <;> simp only [hx, hb] <;> split <;> simp_all <;> omega

theorem fold_all {f : Bd → Bool} {g : Bd → Bd → Bd} (h : ∀ x b, f (g x b) = (f x && f b)) : ∀ (r : List Bd) (x : Bd), f (r.foldl g x) = (f x && r.all f)
  | [], x => by simp
  | b :: r, x => by rw [List.foldl_cons, fold_all h r, h, List.all_cons, Bool.and_assoc]

theorem lo_best (v : Ver) (l : List Bd) : l.all (lo v) = (match best 1 5 l with | none => true | some b => lo v b) := by
  cases l with
  | nil => rfl
  | cons x r => simp only [best]; rw [fold_all (lo_pick v)]; rfl

theorem hi_best (v : Ver) (l : List Bd) : l.all (hi v) = (match best (-1) 1 l with | none => true | some b => hi v b) := by
  cases l with
  | nil => rfl
  | cons x r => simp only [best]; rw [fold_all (hi_pick v)]; rfl

theorem pick_mem (way strict : Int) (x b : Bd) : pick way strict x b = x ∨ pick way strict x b = b := by unfold pick; split <;> simp

theorem fold_mem (way strict : Int) : ∀ (r : List Bd) (x : Bd), r.foldl (pick way strict) x ∈ x :: r
  | [], x => by simp
  | y :: r, x => by
    rw [List.foldl_cons]
    have := fold_mem way strict r (pick way strict x y)
    rcases List.mem_cons.1 this with h | h
    · rw [h]
      rcases pick_mem way strict x y with e | e <;> rw [e] <;> simp
    · simp [h]

theorem best_mem {way strict : Int} {l : List Bd} {b : Bd} (h : best way strict l = some b) : b ∈ l := by
  cases l with
  | nil => cases h
  | cons x r =>
    simp only [best, Option.some.injEq] at h
    subst h
    exact fold_mem way strict r x

theorem low_op {l : List Bd} {b : Bd} (h : b ∈ low l) : 3 ≤ b.op ∧ b.op ≤ 5 := by
  unfold low at h
  obtain ⟨h1, h2⟩ := List.mem_filter.1 h
  obtain ⟨c, _, rfl⟩ := List.mem_map.1 h1
  exact ⟨of_decide_eq_true h2, (fix_op c).2⟩

theorem high_op {l : List Bd} {b : Bd} (h : b ∈ high l) : 1 ≤ b.op ∧ b.op ≤ 3 := by
  unfold high at h
  obtain ⟨h1, h2⟩ := List.mem_filter.1 h
  obtain ⟨c, _, rfl⟩ := List.mem_map.1 h1
  exact ⟨(fix_op c).1, of_decide_eq_true h2⟩

theorem one_least (v : Ver) {b : Bd} (h : 3 ≤ b.op ∧ b.op ≤ 5) : one v (least b) = lo v b := by
  obtain ⟨op, u⟩ := b
  simp only at h
  rcases (by omega : op = 3 ∨ op = 4 ∨ op = 5) with rfl | rfl | rfl <;> simp [one, least, lo]

theorem one_most (v : Ver) {b : Bd} (h : 1 ≤ b.op ∧ b.op ≤ 3) : one v (most b) = hi v b := by
  obtain ⟨op, u⟩ := b
  simp only at h
  rcases (by omega : op = 1 ∨ op = 2 ∨ op = 3) with rfl | rfl | rfl <;> simp [one, most, hi]

theorem least_op {b : Bd} (h : 3 ≤ b.op ∧ b.op ≤ 5) : (least b).op = 4 ∧ b.op ≠ 5 ∨ (least b).op = 5 ∧ b.op = 5 := by
  unfold least; split
  · left; exact ⟨rfl, by omega⟩
  · omega
theorem most_op {b : Bd} (h : 1 ≤ b.op ∧ b.op ≤ 3) : (most b).op = 2 ∧ b.op ≠ 1 ∨ (most b).op = 1 ∧ b.op = 1 := by
  unfold most; split
  · left; exact ⟨rfl, by omega⟩
  · omega
theorem least_v (b : Bd) : (least b).v = b.v := by unfold least; split <;> rfl
theorem most_v (b : Bd) : (most b).v = b.v := by unfold most; split <;> rfl

/-- P5.5: what meets the least form meets all. -/
theorem meets_normal {v : Ver} (h : Sem.may v = true) (l : List Bd) : meets v (normal l) = meets v l := by
  rw [meets_sides h l, lo_best, hi_best]
  unfold normal
  cases ha : best 1 5 (low l) with
  | none =>
    cases hb : best (-1) 1 (high l) with
    | none => rfl
    | some b =>
      have := one_most v (high_op (best_mem hb))
      simp [close, meets, this]
  | some a =>
    have hao := low_op (best_mem ha)
    have e1 := one_least v hao
    cases hb : best (-1) 1 (high l) with
    | none => simp [close, meets, e1]
    | some b =>
      have hbo := high_op (best_mem hb)
      have e2 := one_most v hbo
      have L := line v a.v b.v
      simp only [Option.map_some, close, least_v, most_v]
      split
      · simp [meets, e1, e2]
      · rename_i hc
        have o1 := least_op hao
        have o2 := most_op hbo
        split
        · rename_i hd
          have a5 : a.op ≠ 5 := by omega
          have b1 : b.op ≠ 1 := by omega
          simp only [meets, List.all_cons, List.all_nil, Bool.and_true]
          unfold lo hi
          rw [if_neg a5, if_neg b1]
          have : one v ⟨3, a.v⟩ = decide (cmp v a.v = 0) := by simp [one]
          rw [this, Bool.eq_iff_iff]
          simp only [Bool.and_eq_true, decide_eq_true_eq]
          omega
        · rename_i hd
          have en : one v nil = false := by
            have hf := floor h
            unfold one nil; rw [if_pos rfl]; simp; omega
          simp only [meets, List.all_cons, List.all_nil, Bool.and_true, en]
          symm
          rw [Bool.and_eq_false_iff]
          unfold lo hi
          by_cases a5 : a.op = 5 <;> by_cases b1 : b.op = 1 <;> simp only [a5, b1, if_true, if_false, decide_eq_false_iff_not] <;> omega

theorem meets_append (v : Ver) (a b : List Bd) : meets v (a ++ b) = (meets v a && meets v b) := by simp [meets]

theorem close_len (a b : Option Bd) : (close a b).length ≤ 2 := by
  cases a <;> cases b <;> simp [close]
  split
  · simp
  · split <;> simp

theorem normal_len (l : List Bd) : (normal l).length ≤ 2 := close_len _ _

end Rng

/- Mathematics of layer 5: the least form's least form; in whatever order; what is near. -/
namespace Rng
open Sem

theorem low_mem {l : List Bd} {b : Bd} : b ∈ low l ↔ (∃ c ∈ l, fix c = b) ∧ 3 ≤ b.op := by
  unfold low; rw [List.mem_filter, List.mem_map]; simp
theorem high_mem {l : List Bd} {b : Bd} : b ∈ high l ↔ (∃ c ∈ l, fix c = b) ∧ b.op ≤ 3 := by
  unfold high; rw [List.mem_filter, List.mem_map]; simp

theorem low_append (a b : List Bd) : low (a ++ b) = low a ++ low b := by simp [low]
theorem high_append (a b : List Bd) : high (a ++ b) = high a ++ high b := by simp [high]

/-- Kept: none stands before it. -/
def Kept (way strict : Int) (x : Bd) (l : List Bd) : Prop := ∀ b ∈ l, way * cmp b.v x.v ≤ 0 ∧ (way * cmp b.v x.v = 0 → b.op = strict → x.op = strict)

theorem kept_fold {way strict : Int} (hw : way = 1 ∨ way = -1) : ∀ (r : List Bd) (x : Bd) (l : List Bd), Kept way strict x l → Kept way strict (r.foldl (pick way strict) x) (l ++ r)
  | [], x, l, h => by simpa using h
  | y :: r, x, l, h => by
    rw [List.foldl_cons]
    have hk : Kept way strict (pick way strict x y) (l ++ [y]) := by
      intro b hb
      have L := line b.v x.v y.v
      have hs := cmp_same y.v
      rcases List.mem_append.1 hb with hb | hb
      · obtain ⟨h1, h2⟩ := h b hb
        unfold pick
        rcases hw with rfl | rfl
        · split
          · rename_i hc
            refine ⟨by omega, fun he ho => ?_⟩
            rcases hc with hc | ⟨_, hc, _⟩
            · omega
            · exact hc
          · exact ⟨h1, h2⟩
        · split
          · rename_i hc
            refine ⟨by omega, fun he ho => ?_⟩
            rcases hc with hc | ⟨_, hc, _⟩
            · omega
            · exact hc
          · exact ⟨h1, h2⟩
      · obtain rfl : b = y := by simpa using hb
        unfold pick
        rcases hw with rfl | rfl
        · split
          · exact ⟨by omega, fun _ ho => ho⟩
          · rename_i hc
            refine ⟨by omega, fun he ho => ?_⟩
            by_cases hx : x.op = strict
            · exact hx
            · exact absurd (Or.inr ⟨he, ho, hx⟩) hc
        · split
          · exact ⟨by omega, fun _ ho => ho⟩
          · rename_i hc
            refine ⟨by omega, fun he ho => ?_⟩
            by_cases hx : x.op = strict
            · exact hx
            · exact absurd (Or.inr ⟨he, ho, hx⟩) hc
    have := kept_fold hw r _ _ hk
    rwa [List.append_assoc, List.singleton_append] at this

theorem best_kept {way strict : Int} (hw : way = 1 ∨ way = -1) {l : List Bd} {x : Bd} (h : best way strict l = some x) : Kept way strict x l := by
  cases l with
  | nil => cases h
  | cons y r =>
    simp only [best, Option.some.injEq] at h
    subst h
    have := kept_fold (strict := strict) hw r y [y] (by
      intro b hb
      obtain rfl : b = y := by simpa using hb
      have := cmp_same b.v
      exact ⟨by rw [this]; omega, fun _ h => h⟩)
    exact this

theorem best_some {way strict : Int} {l : List Bd} {b : Bd} (h : b ∈ l) : ∃ x, best way strict l = some x := by
  cases l with
  | nil => cases h
  | cons y r => exact ⟨_, rfl⟩

theorem best_nil {way strict : Int} {l : List Bd} (h : best way strict l = none) : l = [] := by
  cases l with
  | nil => rfl
  | cons y r => cases h

/-- What the lower side is, whatever order: one of them, loosened, that none stands before. -/
structure IsLow (S : Bd → Prop) (x : Bd) : Prop where
  mem : ∃ b, S b ∧ least b = x
  kept : ∀ b, S b → cmp b.v x.v ≤ 0 ∧ (cmp b.v x.v = 0 → b.op = 5 → x.op = 5)
structure IsHigh (S : Bd → Prop) (x : Bd) : Prop where
  mem : ∃ b, S b ∧ most b = x
  kept : ∀ b, S b → 0 ≤ cmp b.v x.v ∧ (cmp b.v x.v = 0 → b.op = 1 → x.op = 1)

theorem low_is {l : List Bd} {x : Bd} (h : (best 1 5 (low l)).map least = some x) : IsLow (· ∈ low l) x := by
  cases hb : best 1 5 (low l) with
  | none => rw [hb] at h; cases h
  | some b =>
    rw [hb] at h
    obtain rfl : least b = x := by simpa using h
    have hm := best_mem hb
    have hk := best_kept (Or.inl rfl) hb
    refine ⟨⟨b, hm, rfl⟩, fun c hc => ?_⟩
    obtain ⟨h1, h2⟩ := hk c hc
    rw [least_v]
    have := least_op (low_op hm)
    refine ⟨by omega, fun e o => ?_⟩
    have := h2 (by omega) o
    omega

theorem high_is {l : List Bd} {x : Bd} (h : (best (-1) 1 (high l)).map most = some x) : IsHigh (· ∈ high l) x := by
  cases hb : best (-1) 1 (high l) with
  | none => rw [hb] at h; cases h
  | some b =>
    rw [hb] at h
    obtain rfl : most b = x := by simpa using h
    have hm := best_mem hb
    have hk := best_kept (Or.inr rfl) hb
    refine ⟨⟨b, hm, rfl⟩, fun c hc => ?_⟩
    obtain ⟨h1, h2⟩ := hk c hc
    rw [most_v]
    have := most_op (high_op hm)
    refine ⟨by omega, fun e o => ?_⟩
    have := h2 (by omega) o
    omega

theorem bd_ext {x y : Bd} (h1 : x.op = y.op) (h2 : x.v = y.v) : x = y := by
  obtain ⟨_, _⟩ := x; obtain ⟨_, _⟩ := y; simp only at h1 h2; rw [h1, h2]

/-- Of versions that may be there is one lower side alone. -/
theorem low_one {S T : Bd → Prop} {x y : Bd} (hx : IsLow S x) (hy : IsLow T y) (hS : ∀ b, S b → Sem.may b.v = true ∧ 3 ≤ b.op ∧ b.op ≤ 5) (hT : ∀ b, T b → Sem.may b.v = true ∧ 3 ≤ b.op ∧ b.op ≤ 5)
    (hST : ∀ b, S b → ∃ c, T c ∧ least c = least b) (hTS : ∀ b, T b → ∃ c, S c ∧ least c = least b) : x = y := by
  obtain ⟨b, hb, rfl⟩ := hx.mem
  obtain ⟨c, hc, rfl⟩ := hy.mem
  obtain ⟨b', hb', eb⟩ := hST b hb
  obtain ⟨c', hc', ec⟩ := hTS c hc
  have k1 := hy.kept b' hb'
  have k2 := hx.kept c' hc'
  have vb : b'.v = b.v := by rw [← least_v b', eb, least_v]
  have vc : c'.v = c.v := by rw [← least_v c', ec, least_v]
  rw [least_v, vb] at k1
  rw [least_v, vc] at k2
  have ht := cmp_turn b.v c.v
  have e : cmp b.v c.v = 0 := by omega
  have hv : b.v = c.v := (cmp_zero (hS b hb).1 (hT c hc).1).1 e
  have ob := least_op (hS b hb).2
  have oc := least_op (hT c hc).2
  have ob' := least_op (hT b' hb').2
  have oc' := least_op (hS c' hc').2
  rw [eb] at ob'
  rw [ec] at oc'
  have e2 : cmp c.v b.v = 0 := by omega
  have f1 := k1.2 e
  have f2 := k2.2 e2
  refine bd_ext ?_ (by rw [least_v, least_v, hv])
  omega

theorem high_one {S T : Bd → Prop} {x y : Bd} (hx : IsHigh S x) (hy : IsHigh T y) (hS : ∀ b, S b → Sem.may b.v = true ∧ 1 ≤ b.op ∧ b.op ≤ 3) (hT : ∀ b, T b → Sem.may b.v = true ∧ 1 ≤ b.op ∧ b.op ≤ 3)
    (hST : ∀ b, S b → ∃ c, T c ∧ most c = most b) (hTS : ∀ b, T b → ∃ c, S c ∧ most c = most b) : x = y := by
  obtain ⟨b, hb, rfl⟩ := hx.mem
  obtain ⟨c, hc, rfl⟩ := hy.mem
  obtain ⟨b', hb', eb⟩ := hST b hb
  obtain ⟨c', hc', ec⟩ := hTS c hc
  have k1 := hy.kept b' hb'
  have k2 := hx.kept c' hc'
  have vb : b'.v = b.v := by rw [← most_v b', eb, most_v]
  have vc : c'.v = c.v := by rw [← most_v c', ec, most_v]
  rw [most_v, vb] at k1
  rw [most_v, vc] at k2
  have ht := cmp_turn b.v c.v
  have e : cmp b.v c.v = 0 := by omega
  have hv : b.v = c.v := (cmp_zero (hS b hb).1 (hT c hc).1).1 e
  have ob := most_op (hS b hb).2
  have oc := most_op (hT c hc).2
  have ob' := most_op (hT b' hb').2
  have oc' := most_op (hS c' hc').2
  rw [eb] at ob'
  rw [ec] at oc'
  have e2 : cmp c.v b.v = 0 := by omega
  have f1 := k1.2 e
  have f2 := k2.2 e2
  refine bd_ext ?_ (by rw [most_v, most_v, hv])
  omega

/-- All versions may be, and all signs. -/
def good (l : List Bd) : Prop := ∀ b ∈ l, b.may = true

theorem good_low {l : List Bd} (h : good l) : ∀ b, b ∈ low l → Sem.may b.v = true ∧ 3 ≤ b.op ∧ b.op ≤ 5 := by
  intro b hb
  obtain ⟨⟨c, hc, rfl⟩, _⟩ := low_mem.1 hb
  have hm := (Bd.may_iff c).1 (h c hc)
  refine ⟨?_, low_op hb⟩
  rw [fix_id ⟨hm.1, hm.2.1⟩]
  exact hm.2.2
theorem good_high {l : List Bd} (h : good l) : ∀ b, b ∈ high l → Sem.may b.v = true ∧ 1 ≤ b.op ∧ b.op ≤ 3 := by
  intro b hb
  obtain ⟨⟨c, hc, rfl⟩, _⟩ := high_mem.1 hb
  have hm := (Bd.may_iff c).1 (h c hc)
  refine ⟨?_, high_op hb⟩
  rw [fix_id ⟨hm.1, hm.2.1⟩]
  exact hm.2.2

theorem low_same {l m : List Bd} (hl : good l) (hm : good m) (h1 : ∀ b ∈ low l, ∃ c ∈ low m, least c = least b) (h2 : ∀ b ∈ low m, ∃ c ∈ low l, least c = least b) :
    (best 1 5 (low l)).map least = (best 1 5 (low m)).map least := by
  cases ha : best 1 5 (low l) with
  | none =>
    have e := best_nil ha
    cases hb : best 1 5 (low m) with
    | none => rfl
    | some b => obtain ⟨c, hc, _⟩ := h2 b (best_mem hb); rw [e] at hc; cases hc
  | some a =>
    cases hb : best 1 5 (low m) with
    | none => obtain ⟨c, hc, _⟩ := h1 a (best_mem ha); rw [best_nil hb] at hc; cases hc
    | some b =>
      have := low_one (low_is (l := l) (x := least a) (by rw [ha]; rfl)) (low_is (l := m) (x := least b) (by rw [hb]; rfl)) (good_low hl) (good_low hm) h1 h2
      simp [this]

theorem high_same {l m : List Bd} (hl : good l) (hm : good m) (h1 : ∀ b ∈ high l, ∃ c ∈ high m, most c = most b) (h2 : ∀ b ∈ high m, ∃ c ∈ high l, most c = most b) :
    (best (-1) 1 (high l)).map most = (best (-1) 1 (high m)).map most := by
  cases ha : best (-1) 1 (high l) with
  | none =>
    have e := best_nil ha
    cases hb : best (-1) 1 (high m) with
    | none => rfl
    | some b => obtain ⟨c, hc, _⟩ := h2 b (best_mem hb); rw [e] at hc; cases hc
  | some a =>
    cases hb : best (-1) 1 (high m) with
    | none => obtain ⟨c, hc, _⟩ := h1 a (best_mem ha); rw [best_nil hb] at hc; cases hc
    | some b =>
      have := high_one (high_is (l := l) (x := most a) (by rw [ha]; rfl)) (high_is (l := m) (x := most b) (by rw [hb]; rfl)) (good_high hl) (good_high hm) h1 h2
      simp [this]

/-- P5.5: in whatever order. -/
theorem normal_turn {a b : List Bd} (ha : good a) (hb : good b) : normal (b ++ a) = normal (a ++ b) := by
  have g1 : good (a ++ b) := fun c hc => (List.mem_append.1 hc).elim (ha c) (hb c)
  have g2 : good (b ++ a) := fun c hc => (List.mem_append.1 hc).elim (hb c) (ha c)
  unfold normal
  rw [low_same g2 g1 (fun c hc => ⟨c, by rw [low_append] at hc ⊢; simpa [or_comm] using hc, rfl⟩) (fun c hc => ⟨c, by rw [low_append] at hc ⊢; simpa [or_comm] using hc, rfl⟩),
    high_same g2 g1 (fun c hc => ⟨c, by rw [high_append] at hc ⊢; simpa [or_comm] using hc, rfl⟩) (fun c hc => ⟨c, by rw [high_append] at hc ⊢; simpa [or_comm] using hc, rfl⟩)]

theorem fix_nil : fix nil = nil := fix_id (by decide)
theorem nil_good : nil.may = true := by decide

theorem low_single {b : Bd} (h : 1 ≤ b.op ∧ b.op ≤ 5) : low [b] = if 3 ≤ b.op then [b] else [] := by
  simp [low, fix_id h, List.filter_cons]
theorem high_single {b : Bd} (h : 1 ≤ b.op ∧ b.op ≤ 5) : high [b] = if b.op ≤ 3 then [b] else [] := by
  simp [high, fix_id h, List.filter_cons]

theorem normal_nil : normal [nil] = [nil] := by decide

/-- What a least form can be. -/
theorem normal_forms (l : List Bd) :
    (normal l = [] ∧ low l = [] ∧ high l = []) ∨
    (∃ a, (a.op = 4 ∨ a.op = 5) ∧ normal l = [a] ∧ (best 1 5 (low l)).map least = some a ∧ high l = []) ∨
    (∃ b, (b.op = 1 ∨ b.op = 2) ∧ normal l = [b] ∧ low l = [] ∧ (best (-1) 1 (high l)).map most = some b) ∨
    (∃ a b, (a.op = 4 ∨ a.op = 5) ∧ (b.op = 1 ∨ b.op = 2) ∧ (best 1 5 (low l)).map least = some a ∧ (best (-1) 1 (high l)).map most = some b ∧
      ((cmp a.v b.v < 0 ∧ normal l = [a, b]) ∨ (cmp a.v b.v = 0 ∧ a.op = 4 ∧ b.op = 2 ∧ normal l = [⟨3, a.v⟩]) ∨ (¬ cmp a.v b.v < 0 ∧ ¬ (cmp a.v b.v = 0 ∧ a.op = 4 ∧ b.op = 2) ∧ normal l = [nil]))) := by
  cases ha : best 1 5 (low l) with
  | none =>
    cases hb : best (-1) 1 (high l) with
    | none => left; exact ⟨by unfold normal; rw [ha, hb]; rfl, best_nil ha, best_nil hb⟩
    | some b =>
      right; right; left
      have := most_op (high_op (best_mem hb))
      exact ⟨most b, by omega, by unfold normal; rw [ha, hb]; rfl, best_nil ha, rfl⟩
  | some a =>
    have o1 := least_op (low_op (best_mem ha))
    cases hb : best (-1) 1 (high l) with
    | none => right; left; exact ⟨least a, by omega, by unfold normal; rw [ha, hb]; rfl, rfl, best_nil hb⟩
    | some b =>
      right; right; right
      have o2 := most_op (high_op (best_mem hb))
      have e : normal l = close (some (least a)) (some (most b)) := by unfold normal; rw [ha, hb]; rfl
      refine ⟨least a, most b, by omega, by omega, rfl, rfl, ?_⟩
      rw [e]
      unfold close
      simp only
      by_cases h1 : cmp (least a).v (most b).v < 0
      · left; exact ⟨h1, if_pos h1⟩
      · rw [if_neg h1]
        by_cases h2 : cmp (least a).v (most b).v = 0 ∧ (least a).op = 4 ∧ (most b).op = 2
        · right; left; exact ⟨h2.1, h2.2.1, h2.2.2, if_pos h2⟩
        · right; right; exact ⟨h1, h2, if_neg h2⟩

/-- P5.5: the least form of a least form is it. -/
theorem normal_normal (l : List Bd) : normal (normal l) = normal l := by
  rcases normal_forms l with ⟨e, _, _⟩ | ⟨a, ho, e, _, _⟩ | ⟨b, ho, e, _, _⟩ | ⟨a, b, h1, h2, _, _, ⟨hc, e⟩ | ⟨hc, h4, h5, e⟩ | ⟨_, _, e⟩⟩
  · rw [e]; rfl
  · rw [e]
    have e1 := low_single (b := a) (by omega)
    have e2 := high_single (b := a) (by omega)
    rw [if_pos (by omega)] at e1
    rw [if_neg (by omega)] at e2
    unfold normal
    rw [e1, e2]
    simp [best, close, least]; omega
  · rw [e]
    have e1 := low_single (b := b) (by omega)
    have e2 := high_single (b := b) (by omega)
    rw [if_neg (by omega)] at e1
    rw [if_pos (by omega)] at e2
    unfold normal
    rw [e1, e2]
    simp [best, close, most]; omega
  · rw [e]
    have e1 : low [a, b] = [a] := by
      rw [show [a, b] = [a] ++ [b] from rfl, low_append, low_single (by omega), low_single (by omega), if_pos (by omega), if_neg (by omega)]; rfl
    have e2 : high [a, b] = [b] := by
      rw [show [a, b] = [a] ++ [b] from rfl, high_append, high_single (by omega), high_single (by omega), if_neg (by omega), if_pos (by omega)]; rfl
    unfold normal
    rw [e1, e2]
    have f1 : least a = a := by unfold least; rw [if_neg (by omega)]
    have f2 : most b = b := by unfold most; rw [if_neg (by omega)]
    simp [best, close, f1, f2, hc]
  · rw [e]
    have e1 := low_single (b := ⟨3, a.v⟩) (by simp)
    have e2 := high_single (b := ⟨3, a.v⟩) (by simp)
    unfold normal
    rw [e1, e2]
    simp [best, close, least, most, cmp_same]
  · rw [e]; exact normal_nil

theorem good_mem_low {l : List Bd} (h : good l) {a : Bd} (ha : (best 1 5 (low l)).map least = some a) : Sem.may a.v = true := by
  obtain ⟨b, hb, rfl⟩ := (low_is ha).mem
  rw [least_v]; exact (good_low h b hb).1
theorem good_mem_high {l : List Bd} (h : good l) {a : Bd} (ha : (best (-1) 1 (high l)).map most = some a) : Sem.may a.v = true := by
  obtain ⟨b, hb, rfl⟩ := (high_is ha).mem
  rw [most_v]; exact (good_high h b hb).1

theorem normal_good {l : List Bd} (h : good l) : good (normal l) := by
  rcases normal_forms l with ⟨e, _, _⟩ | ⟨a, ho, e, ha, _⟩ | ⟨b, ho, e, _, hb⟩ | ⟨a, b, h1, h2, ha, hb, ⟨hc, e⟩ | ⟨hc, h4, h5, e⟩ | ⟨_, _, e⟩⟩ <;> rw [e] <;> intro c hc'
  · cases hc'
  · obtain rfl : c = a := by simpa using hc'
    exact (Bd.may_iff _).2 ⟨by omega, by omega, good_mem_low h ha⟩
  · obtain rfl : c = b := by simpa using hc'
    exact (Bd.may_iff _).2 ⟨by omega, by omega, good_mem_high h hb⟩
  · rcases List.mem_cons.1 hc' with rfl | hc'
    · exact (Bd.may_iff _).2 ⟨by omega, by omega, good_mem_low h ha⟩
    · obtain rfl : c = b := by simpa using hc'
      exact (Bd.may_iff _).2 ⟨by omega, by omega, good_mem_high h hb⟩
  · obtain rfl : c = ⟨3, a.v⟩ := by simpa using hc'
    exact (Bd.may_iff _).2 ⟨by simp, by simp, good_mem_low (a := a) h ha⟩
  · obtain rfl : c = nil := by simpa using hc'
    exact nil_good

theorem normal_may {l : List Bd} (h : good l) : may (normal l) = true :=
  (may_iff _).2 ⟨by have := normal_len l; omega, normal_good h⟩

theorem good_append {a b : List Bd} (ha : good a) (hb : good b) : good (a ++ b) := fun c hc => (List.mem_append.1 hc).elim (ha c) (hb c)

theorem sides_eq {l m : List Bd} (h1 : (best 1 5 (low l)).map least = (best 1 5 (low m)).map least) (h2 : (best (-1) 1 (high l)).map most = (best (-1) 1 (high m)).map most) : normal l = normal m := by
  unfold normal; rw [h1, h2]

/-- Bounds that add nothing on either side change nothing. -/
theorem normal_more {l n : List Bd} (hl : good l) (hn : good n) (h1 : ∀ b ∈ low n, ∃ c ∈ low l, least c = least b) (h2 : ∀ b ∈ high n, ∃ c ∈ high l, most c = most b) : normal (n ++ l ++ n) = normal l := by
  have g := good_append (good_append hn hl) hn
  refine sides_eq (low_same g hl ?_ ?_) (high_same g hl ?_ ?_)
  · intro b hb
    simp only [low_append, List.mem_append] at hb
    rcases hb with (hb | hb) | hb
    · exact h1 b hb
    · exact ⟨b, hb, rfl⟩
    · exact h1 b hb
  · intro b hb
    exact ⟨b, by simp only [low_append, List.mem_append]; exact Or.inl (Or.inr hb), rfl⟩
  · intro b hb
    simp only [high_append, List.mem_append] at hb
    rcases hb with (hb | hb) | hb
    · exact h2 b hb
    · exact ⟨b, hb, rfl⟩
    · exact h2 b hb
  · intro b hb
    exact ⟨b, by simp only [high_append, List.mem_append]; exact Or.inl (Or.inr hb), rfl⟩

theorem least_loose {a : Bd} (h : a.op = 4 ∨ a.op = 5) : least a = a := by unfold least; rw [if_neg (by omega)]
theorem most_loose {a : Bd} (h : a.op = 1 ∨ a.op = 2) : most a = a := by unfold most; rw [if_neg (by omega)]

/-- P5.5: together with itself. -/
theorem normal_self {l : List Bd} (hl : good l) : normal (normal l ++ l ++ normal l) = normal l := by
  have hn := normal_good hl
  rcases normal_forms l with ⟨e, _, _⟩ | ⟨a, ho, e, ha, _⟩ | ⟨b, ho, e, _, hb⟩ | ⟨a, b, h1, h2, ha, hb, ⟨hc, e⟩ | ⟨hc, h4, h5, e⟩ | ⟨hc1, hc2, e⟩⟩
  · rw [e]; simpa using e
  · refine normal_more hl hn ?_ ?_ <;> rw [e]
    · intro c hc
      rw [low_single (by omega), if_pos (by omega)] at hc
      obtain rfl : c = a := by simpa using hc
      obtain ⟨d, hd, hde⟩ := (low_is ha).mem
      exact ⟨d, hd, by rw [hde, least_loose ho]⟩
    · intro c hc
      rw [high_single (by omega), if_neg (by omega)] at hc
      cases hc
  · refine normal_more hl hn ?_ ?_ <;> rw [e]
    · intro c hc
      rw [low_single (by omega), if_neg (by omega)] at hc
      cases hc
    · intro c hc
      rw [high_single (by omega), if_pos (by omega)] at hc
      obtain rfl : c = b := by simpa using hc
      obtain ⟨d, hd, hde⟩ := (high_is hb).mem
      exact ⟨d, hd, by rw [hde, most_loose ho]⟩
  · have e1 : low [a, b] = [a] := by
      rw [show [a, b] = [a] ++ [b] from rfl, low_append, low_single (by omega), low_single (by omega), if_pos (by omega), if_neg (by omega)]; rfl
    have e2 : high [a, b] = [b] := by
      rw [show [a, b] = [a] ++ [b] from rfl, high_append, high_single (by omega), high_single (by omega), if_neg (by omega), if_pos (by omega)]; rfl
    refine normal_more hl hn ?_ ?_ <;> rw [e]
    · intro c hc
      rw [e1] at hc
      obtain rfl : c = a := by simpa using hc
      obtain ⟨d, hd, hde⟩ := (low_is ha).mem
      exact ⟨d, hd, by rw [hde, least_loose h1]⟩
    · intro c hc
      rw [e2] at hc
      obtain rfl : c = b := by simpa using hc
      obtain ⟨d, hd, hde⟩ := (high_is hb).mem
      exact ⟨d, hd, by rw [hde, most_loose h2]⟩
  · have hv : a.v = b.v := (cmp_zero (good_mem_low hl ha) (good_mem_high hl hb)).1 hc
    refine normal_more hl hn ?_ ?_ <;> rw [e]
    · intro c hc
      rw [low_single (by simp)] at hc
      obtain rfl : c = ⟨3, a.v⟩ := by simpa using hc
      obtain ⟨d, hd, hde⟩ := (low_is ha).mem
      exact ⟨d, hd, by rw [hde]; exact bd_ext (by rw [h4]; rfl) rfl⟩
    · intro c hc
      rw [high_single (by simp)] at hc
      obtain rfl : c = ⟨3, a.v⟩ := by simpa using hc
      obtain ⟨d, hd, hde⟩ := (high_is hb).mem
      exact ⟨d, hd, by rw [hde]; exact bd_ext (by rw [h5]; rfl) hv.symm⟩
  · rw [e]
    have hnil : good [nil] := by rw [← e]; exact hn
    have g := good_append (good_append hnil hl) hnil
    have l0 : low [nil] = [] := by decide
    have h0 : high [nil] = [nil] := by decide
    have s1 : (best 1 5 (low ([nil] ++ l ++ [nil]))).map least = some a := by rw [low_append, low_append, l0, List.nil_append, List.append_nil, ha]
    obtain ⟨x, hx⟩ : ∃ x, best (-1) 1 (high ([nil] ++ l ++ [nil])) = some x := best_some (b := nil) (by rw [high_append, high_append, h0]; simp)
    have s2 : (best (-1) 1 (high ([nil] ++ l ++ [nil]))).map most = some (most x) := by rw [hx]; rfl
    have hi := high_is s2
    have hk := hi.kept nil (by rw [high_append, high_append, h0]; simp)
    have hxm := good_mem_high g s2
    have hf := floor hxm
    have ht := cmp_turn (most x).v nil.v
    have hnv : nil.v = (⟨0, 0, 0, [48]⟩ : Ver) := rfl
    rw [hnv] at hk ht
    have h00 : cmp (⟨0, 0, 0, [48]⟩ : Ver) (most x).v = 0 := by omega
    have hx1 : (most x).op = 1 := hk.2 h00 rfl
    have hxv : (⟨0, 0, 0, [48]⟩ : Ver) = (most x).v := (cmp_zero (by decide) hxm).1 h00
    have ha0 := floor (good_mem_low hl ha)
    unfold normal
    rw [s1, s2]
    unfold close
    simp only
    rw [← hxv, if_neg (by omega), if_neg (by omega)]

/-- P5.6. -/
theorem near_of {v : Ver} (hv : Sem.may v = true) (h1 : 1 ≤ v.maj) (h2 : v.maj ≠ 999999) : near v = [⟨4, v⟩, ⟨1, ⟨v.maj + 1, 0, 0, []⟩⟩] := by
  have := (Sem.may_iff v).1 hv
  have e : next v = ⟨v.maj + 1, 0, 0, []⟩ := by unfold next; rw [if_neg (by omega)]
  unfold near
  rw [e, if_pos ⟨hv, by simp only; omega, by simp⟩]

theorem cmp_next {v w : Ver} (h : w.maj ≤ v.maj) : cmp w ⟨v.maj + 1, 0, 0, []⟩ < 0 := by
  rw [cmp_steps]; simp only
  rw [if_neg (by omega), if_pos (by omega)]; decide

theorem cmp_far {v w : Ver} (hw : Sem.may w = true) (h : v.maj < w.maj) (hp : w.pre = []) : 0 ≤ cmp w ⟨v.maj + 1, 0, 0, []⟩ := by
  have := (Sem.may_iff w).1 hw
  rw [cmp_steps, preKey_cases]; simp only [hp, if_true]
  split
  · split
    · split
      · decide
      · rw [if_neg (by omega)]; split <;> decide
    · rw [if_neg (by omega)]; split <;> decide
  · rw [if_neg (by omega)]; split <;> decide

theorem near_meets {v w : Ver} (hv : Sem.may v = true) (h1 : 1 ≤ v.maj) (h2 : v.maj ≠ 999999) : meets w (near v) = (decide (0 ≤ cmp w v) && decide (cmp w ⟨v.maj + 1, 0, 0, []⟩ < 0)) := by
  rw [near_of hv h1 h2]
  simp [meets, one]

theorem near_may {v : Ver} (hv : Sem.may v = true) : may (near v) = true := by
  have h := (Sem.may_iff v).1 hv
  have hz : ∀ n, 0 ≤ n → n ≤ 999999 → Sem.may ⟨n, 0, 0, []⟩ = true := fun n h0 h1 => (Sem.may_iff _).2 ⟨⟨h0, h1⟩, by simp, by simp, by simp, rfl⟩
  have hy : ∀ n, 0 ≤ n → n ≤ 999999 → Sem.may ⟨0, n, 0, []⟩ = true := fun n h0 h1 => (Sem.may_iff _).2 ⟨by simp, ⟨h0, h1⟩, by simp, by simp, rfl⟩
  unfold near
  split
  · rename_i hc
    refine (may_iff _).2 ⟨by simp, fun b hb => ?_⟩
    rcases List.mem_cons.1 hb with rfl | hb
    · exact (Bd.may_iff _).2 ⟨by simp, by simp, hv⟩
    · obtain rfl : b = ⟨1, next v⟩ := by simpa using hb
      refine (Bd.may_iff _).2 ⟨by simp, by simp, ?_⟩
      obtain ⟨_, h3, h4⟩ := hc
      unfold next at h3 h4 ⊢
      split
      · rename_i h0
        rw [if_pos h0] at h4
        exact hy _ (by omega) h4
      · rename_i h0
        rw [if_neg h0] at h3
        exact hz _ (by omega) h3
  · refine (may_iff _).2 ⟨by simp, fun b hb => ?_⟩
    obtain rfl : b = ⟨3, v⟩ := by simpa using hb
    exact (Bd.may_iff _).2 ⟨by simp, by simp, hv⟩

end Rng

/- Mathematics of layer 5: a range's text, and reading it. -/
namespace Rng
open Sem

def sign (n : Int) : List UInt8 := if n = 1 then [60] else if n = 2 then [60, 61] else if n = 3 then [61] else if n = 4 then [62, 61] else if n = 5 then [62] else []

def Bd.text (b : Bd) : List UInt8 := sign b.op ++ Sem.text b.v

/-- A text's words, at its blanks. -/
def words : List UInt8 → List (List UInt8)
  | [] => [[]]
  | c :: r => if c = 32 then [] :: words r else match words r with
    | [] => [[c]]
    | p :: ps => (c :: p) :: ps

/-- Words, with a blank between. -/
def join : List (List UInt8) → List UInt8
  | [] => []
  | [p] => p
  | p :: q :: ps => p ++ 32 :: join (q :: ps)

def text (l : List Bd) : List UInt8 := if l = [] then [42] else join (l.map Bd.text)

theorem words_ne (l : List UInt8) : words l ≠ [] := by
  cases l with
  | nil => simp [words]
  | cons c r => rw [words]; split; simp; split <;> simp

theorem words_cons {c : UInt8} {r p : List UInt8} {ps : List (List UInt8)} (h : c ≠ 32) (hr : words r = p :: ps) : words (c :: r) = (c :: p) :: ps := by
  rw [words, if_neg h, hr]

theorem words_blank (r : List UInt8) : words (32 :: r) = [] :: words r := by rw [words, if_pos rfl]

theorem join_words : ∀ l : List UInt8, join (words l) = l
  | [] => rfl
  | c :: r => by
    have ih := join_words r
    by_cases h : c = 32
    · subst h
      rw [words_blank]
      rcases hr : words r with _ | ⟨p, ps⟩
      · exact absurd hr (words_ne r)
      · rw [join, ← hr, ih]; rfl
    · rcases hr : words r with _ | ⟨p, ps⟩
      · exact absurd hr (words_ne r)
      · rw [words_cons h hr]
        rw [hr] at ih
        cases ps with
        | nil => rw [join] at ih ⊢; rw [ih]
        | cons q qs => rw [join] at ih ⊢; rw [List.cons_append, ih]

/-- A blank more: a word more behind. -/
theorem words_snoc_blank : ∀ l : List UInt8, words (l ++ [32]) = words l ++ [[]]
  | [] => rfl
  | c :: r => by
    have ih := words_snoc_blank r
    by_cases h : c = 32
    · subst h; rw [List.cons_append, words_blank, ih, words_blank, List.cons_append]
    · rw [List.cons_append]
      rcases hr : words r with _ | ⟨p, ps⟩
      · exact absurd hr (words_ne r)
      · rw [hr, List.cons_append] at ih
        rw [words_cons h ih, words_cons h hr, List.cons_append]

/-- A byte more: behind the last word. -/
theorem words_snoc {d : UInt8} (hd : d ≠ 32) : ∀ (l : List UInt8), ∃ ps p, words l = ps ++ [p] ∧ words (l ++ [d]) = ps ++ [p ++ [d]]
  | [] => ⟨[], [], rfl, by rw [List.nil_append, words, if_neg hd]; rfl⟩
  | c :: r => by
    obtain ⟨ps, p, h1, h2⟩ := words_snoc hd r
    by_cases h : c = 32
    · subst h
      exact ⟨[] :: ps, p, by rw [words_blank, h1]; rfl, by rw [List.cons_append, words_blank, h2]; rfl⟩
    · match ps, h1, h2 with
      | [], h1, h2 => exact ⟨[], c :: p, by rw [words_cons h h1]; rfl, by rw [List.cons_append, words_cons h h2]; rfl⟩
      | q :: qs, h1, h2 => exact ⟨(c :: q) :: qs, p, by rw [words_cons h h1]; rfl, by rw [List.cons_append, words_cons h h2]; rfl⟩

theorem words_one : ∀ {l : List UInt8}, (∀ c ∈ l, c ≠ 32) → words l = [l]
  | [], _ => rfl
  | c :: r, h => words_cons (h c (by simp)) (words_one (fun d hd => h d (List.mem_cons_of_mem _ hd)))

theorem words_two : ∀ {p : List UInt8} (q : List UInt8), (∀ c ∈ p, c ≠ 32) → words (p ++ 32 :: q) = p :: words q
  | [], q, _ => words_blank q
  | c :: r, q, h => by
    have ih := words_two (p := r) q (fun d hd => h d (List.mem_cons_of_mem _ hd))
    exact words_cons (h c (by simp)) ih

theorem words_join : ∀ {l : List (List UInt8)}, l ≠ [] → (∀ p ∈ l, ∀ c ∈ p, c ≠ 32) → words (join l) = l
  | [], h, _ => absurd rfl h
  | [p], _, h => by rw [join]; exact words_one (h p (by simp))
  | p :: q :: ps, _, h => by
    rw [join, words_two _ (h p (by simp)), words_join (by simp) (fun r hr => h r (List.mem_cons_of_mem _ hr))]

theorem words_len : ∀ (l : List UInt8), ∀ p ∈ words l, p.length ≤ l.length
  | [], p, hp => by simp [words] at hp; subst hp; simp
  | d :: r, p, hp => by
    have ih := words_len r
    by_cases h : d = 32
    · subst h
      rw [words_blank] at hp
      rcases List.mem_cons.1 hp with rfl | hp
      · simp
      · have := ih p hp; rw [List.length_cons]; omega
    · rcases hr : words r with _ | ⟨q, qs⟩
      · exact absurd hr (words_ne r)
      · rw [words_cons h hr] at hp
        rw [hr] at ih
        rcases List.mem_cons.1 hp with rfl | hp
        · have := ih q (by simp); rw [List.length_cons, List.length_cons]; omega
        · have := ih p (by simp [hp]); rw [List.length_cons]; omega

theorem words_count : ∀ l : List UInt8, (words l).length ≤ l.length + 1
  | [] => by simp [words]
  | d :: r => by
    have ih := words_count r
    by_cases h : d = 32
    · subst h; rw [words_blank]; simp; omega
    · rcases hr : words r with _ | ⟨p, ps⟩
      · exact absurd hr (words_ne r)
      · rw [words_cons h hr]; rw [hr] at ih; simp at ih ⊢; omega

/-- A word as a bound of one sign. -/
def try1 (w : List UInt8) (op : Int) : Option Bd := if sign op <+: w then (Sem.parse (w.drop (sign op).length)).map fun v => ⟨op, v⟩ else none

/-- A word as a bound, the signs in their order. -/
def bound (w : List UInt8) : Option Bd := [1, 2, 3, 4, 5].findSome? (try1 w)

/-- The text of a version begins with a digit. -/
theorem text_head {v : Ver} : ∃ c r, Sem.text v = c :: r ∧ 48 ≤ c.toNat ∧ c.toNat ≤ 57 := by
  rcases h : dec v.maj.toNat with _ | ⟨c, r⟩
  · exact absurd h (dec_ne _)
  · have := dec_dig v.maj.toNat c (by rw [h]; simp)
    exact ⟨c, _, by unfold Sem.text; rw [h]; rfl, this⟩

theorem try1_some {w : List UInt8} {op : Int} {b : Bd} (h : try1 w op = some b) : b.op = op ∧ Sem.may b.v = true ∧ b.text = w := by
  unfold try1 at h
  split at h
  · rename_i hp
    cases hq : Sem.parse (w.drop (sign op).length) with
    | none => rw [hq] at h; cases h
    | some v =>
      rw [hq] at h
      obtain rfl : (⟨op, v⟩ : Bd) = b := by simpa using h
      obtain ⟨h1, h2⟩ := parse_some hq
      refine ⟨rfl, h1, ?_⟩
      unfold Bd.text
      simp only
      rw [h2]
      obtain ⟨t, rfl⟩ := hp
      rw [List.drop_left]
  · cases h

theorem bound_some {w : List UInt8} {b : Bd} (h : bound w = some b) : b.may = true ∧ b.text = w := by
  obtain ⟨op, ho, hb⟩ := List.exists_of_findSome?_eq_some h
  obtain ⟨h1, h2, h3⟩ := try1_some hb
  refine ⟨(Bd.may_iff b).2 ?_, h3⟩
  rw [h1]
  simp at ho
  exact ⟨by omega, by omega, h2⟩

theorem try1_text {v : Ver} {op : Int} (h : Sem.may v = true) : try1 (sign op ++ Sem.text v) op = some ⟨op, v⟩ := by
  unfold try1
  rw [if_pos (List.prefix_append _ _), List.drop_left, parse_text h]; rfl

/-- One text is that of one bound alone. -/
theorem text_inj {b c : Bd} (hb : b.may = true) (hc : c.may = true) (h : b.text = c.text) : b = c := by
  obtain ⟨b1, b2, b3⟩ := (Bd.may_iff b).1 hb
  obtain ⟨c1, c2, c3⟩ := (Bd.may_iff c).1 hc
  obtain ⟨p, q⟩ := b
  obtain ⟨m, n⟩ := c
  simp only at b1 b2 b3 c1 c2 c3
  unfold Bd.text at h
  simp only at h
  obtain ⟨x, r, hx, hx1, hx2⟩ := text_head (v := q)
  obtain ⟨y, s, hy, hy1, hy2⟩ := text_head (v := n)
  have key : p = m ∧ Sem.text q = Sem.text n := by
    have n60 : ∀ z : UInt8, z.toNat ≤ 57 → z ≠ 60 ∧ z ≠ 61 ∧ z ≠ 62 := fun z hz => ⟨by rintro rfl; simp at hz, by rintro rfl; simp at hz, by rintro rfl; simp at hz⟩
    obtain ⟨xa, xb, xc⟩ := n60 x hx2
    obtain ⟨ya, yb, yc⟩ := n60 y hy2
    rw [hx, hy] at h ⊢
    rcases (by omega : p = 1 ∨ p = 2 ∨ p = 3 ∨ p = 4 ∨ p = 5) with rfl | rfl | rfl | rfl | rfl <;>
    rcases (by omega : m = 1 ∨ m = 2 ∨ m = 3 ∨ m = 4 ∨ m = 5) with rfl | rfl | rfl | rfl | rfl <;>
    simp [sign] at h ⊢ <;> first | exact h | exact absurd h.1 xb | exact absurd h.1.symm yb | (simp_all)
  obtain ⟨rfl, ht⟩ := key
  have h1 := parse_text b3
  rw [ht, parse_text c3] at h1
  obtain rfl : n = q := by simpa using h1
  rfl

theorem bound_text {b : Bd} (h : b.may = true) : bound b.text = some b := by
  obtain ⟨b1, b2, b3⟩ := (Bd.may_iff b).1 h
  cases hq : bound b.text with
  | none =>
    exfalso
    have := List.findSome?_eq_none_iff.1 hq b.op (by simp; omega)
    unfold Bd.text at this
    rw [try1_text b3] at this
    cases this
  | some c =>
    obtain ⟨h1, h2⟩ := bound_some hq
    rw [text_inj h1 h h2]

/-- All words as bounds. -/
def bounds : List (List UInt8) → Option (List Bd)
  | [] => some []
  | w :: r => match bound w with
    | none => none
    | some b => (bounds r).map (b :: ·)

theorem bounds_some : ∀ {ws : List (List UInt8)} {l : List Bd}, bounds ws = some l → l.map Bd.text = ws ∧ ∀ b ∈ l, b.may = true
  | [], l, h => by
    obtain rfl : [] = l := by simpa [bounds] using h
    exact ⟨rfl, fun b hb => by cases hb⟩
  | w :: r, l, h => by
    rw [bounds] at h
    cases hb : bound w with
    | none => rw [hb] at h; cases h
    | some b =>
      rw [hb] at h
      cases hr : bounds r with
      | none => rw [hr] at h; cases h
      | some m =>
        rw [hr] at h
        obtain rfl : b :: m = l := by simpa using h
        obtain ⟨h1, h2⟩ := bounds_some hr
        obtain ⟨h3, h4⟩ := bound_some hb
        refine ⟨by rw [List.map_cons, h4, h1], fun c hc => ?_⟩
        rcases List.mem_cons.1 hc with rfl | hc
        · exact h3
        · exact h2 c hc

theorem bounds_text : ∀ {l : List Bd}, (∀ b ∈ l, b.may = true) → bounds (l.map Bd.text) = some l
  | [], _ => rfl
  | b :: r, h => by
    rw [List.map_cons, bounds, bound_text (h b (by simp))]
    simp only
    rw [bounds_text (fun c hc => h c (List.mem_cons_of_mem _ hc))]; rfl

/-- P5.1: the range whose text this is; of a text with a ^ ahead what is near. -/
def parse (s : List UInt8) : Option (List Bd) :=
  if s = [42] then some [] else if 3000 < s.length then none
  else if s.head? = some 94 then (Sem.parse s.tail).map near
  else match bounds (words s) with
    | none => none
    | some l => if may l = true then some l else none

theorem okc_blank : ∀ c : UInt8, okc c = true → c ≠ 32 := by
  intro c hc; rintro rfl; revert hc; decide

/-- No blank in a version's text. -/
theorem text_noblank {v : Ver} (h : Sem.may v = true) : ∀ c ∈ Sem.text v, c ≠ 32 := by
  have hd : ∀ n : Nat, ∀ c ∈ dec n, c ≠ 32 := fun n c hc => by
    have := dec_dig n c hc
    rintro rfl
    simp at this
  obtain ⟨_, _, _, _, h5⟩ := (Sem.may_iff v).1 h
  intro c hc
  unfold Sem.text at hc
  simp only [List.mem_append, List.mem_cons] at hc
  rcases hc with hc | rfl | hc | rfl | hc | hc
  · exact hd _ c hc
  · decide
  · exact hd _ c hc
  · decide
  · exact hd _ c hc
  · split at hc
    · cases hc
    · rename_i hne
      rcases List.mem_cons.1 hc with rfl | hc
      · decide
      · have hp : (parts v.pre).all part = true := by
          have : v.pre.isEmpty = false := by simpa using hne
          unfold preOk at h5; rw [this] at h5; simpa using h5
        have hin : ∀ (l : List UInt8) (c : UInt8), c ∈ l → c = 46 ∨ ∃ p ∈ parts l, c ∈ p := by
          intro l
          induction l with
          | nil => intro c hc; cases hc
          | cons d r ih =>
            intro c hc
            by_cases hd46 : d = 46
            · subst hd46
              rcases List.mem_cons.1 hc with rfl | hc
              · exact Or.inl rfl
              · rcases ih c hc with h | ⟨p, hp, hcp⟩
                · exact Or.inl h
                · exact Or.inr ⟨p, by rw [parts_dot]; exact List.mem_cons_of_mem _ hp, hcp⟩
            · rcases hr : parts r with _ | ⟨q, qs⟩
              · exact absurd hr (parts_ne r)
              · rw [parts_cons hd46 hr]
                rcases List.mem_cons.1 hc with rfl | hc
                · exact Or.inr ⟨c :: q, by simp, by simp⟩
                · rcases ih c hc with h | ⟨p, hp, hcp⟩
                  · exact Or.inl h
                  · rw [hr] at hp
                    rcases List.mem_cons.1 hp with rfl | hp
                    · exact Or.inr ⟨d :: p, by simp, List.mem_cons_of_mem _ hcp⟩
                    · exact Or.inr ⟨p, List.mem_cons_of_mem _ hp, hcp⟩
        rcases hin v.pre c hc with rfl | ⟨p, hpp, hcp⟩
        · decide
        · have hpart := List.all_eq_true.1 hp p hpp
          unfold part at hpart
          simp only [Bool.and_eq_true] at hpart
          exact okc_blank c (List.all_eq_true.1 hpart.1.2 c hcp)

theorem sign_noblank (n : Int) : ∀ c ∈ sign n, c ≠ 32 := by
  unfold sign
  intro c hc
  repeat (split at hc; (simp at hc; first | (subst hc; decide) | (rcases hc with rfl | rfl <;> decide)))
  cases hc

theorem bd_noblank {b : Bd} (h : b.may = true) : ∀ c ∈ b.text, c ≠ 32 := by
  intro c hc
  rcases List.mem_append.1 hc with hc | hc
  · exact sign_noblank _ c hc
  · exact text_noblank ((Bd.may_iff b).1 h).2.2 c hc

theorem sign_head {n : Int} (h : 1 ≤ n ∧ n ≤ 5) : ∃ c r, sign n = c :: r ∧ c ≠ 94 ∧ c ≠ 42 ∧ r.length ≤ 1 := by
  rcases (by omega : n = 1 ∨ n = 2 ∨ n = 3 ∨ n = 4 ∨ n = 5) with rfl | rfl | rfl | rfl | rfl
  · exact ⟨60, [], rfl, by decide, by decide, by decide⟩
  · exact ⟨60, [61], rfl, by decide, by decide, by decide⟩
  · exact ⟨61, [], rfl, by decide, by decide, by decide⟩
  · exact ⟨62, [61], rfl, by decide, by decide, by decide⟩
  · exact ⟨62, [], rfl, by decide, by decide, by decide⟩

theorem bd_len {b : Bd} (h : b.may = true) : b.text.length ≤ 47 := by
  obtain ⟨h1, h2, h3⟩ := (Bd.may_iff b).1 h
  obtain ⟨c, r, e, _, _, hr⟩ := sign_head ⟨h1, h2⟩
  have := text_len h3
  unfold Bd.text
  rw [e, List.length_append, List.length_cons]
  omega

theorem join_len : ∀ (l : List (List UInt8)), (∀ p ∈ l, p.length ≤ 47) → (join l).length ≤ 48 * l.length
  | [], _ => by simp [join]
  | [p], h => by have := h p (by simp); simp [join]; omega
  | p :: q :: ps, h => by
    have h1 := h p (by simp)
    have h2 := join_len (q :: ps) (fun r hr => h r (List.mem_cons_of_mem _ hr))
    rw [join, List.length_append, List.length_cons]
    simp only [List.length_cons] at h2 ⊢
    omega

theorem join_head {b : Bd} {r : List Bd} (h : 1 ≤ b.op ∧ b.op ≤ 5) : ∃ c t, join ((b :: r).map Bd.text) = c :: t ∧ c ≠ 94 ∧ c ≠ 42 := by
  obtain ⟨c, t, e, h1, h2, _⟩ := sign_head h
  cases r with
  | nil => exact ⟨c, t ++ Sem.text b.v, by simp [join, Bd.text, e], h1, h2⟩
  | cons d r => exact ⟨c, _, by rw [List.map_cons, List.map_cons, join, Bd.text, e]; rfl, h1, h2⟩

theorem text_length {l : List Bd} (h : may l = true) : (text l).length ≤ 960 := by
  obtain ⟨h1, h2⟩ := (may_iff l).1 h
  unfold text
  split
  · simp
  · have := join_len (l.map Bd.text) (fun p hp => by
      obtain ⟨b, hb, rfl⟩ := List.mem_map.1 hp
      exact bd_len (h2 b hb))
    rw [List.length_map] at this
    omega

/-- P5.4: Parse of Show is it. -/
theorem parse_text {l : List Bd} (h : may l = true) : parse (text l) = some l := by
  have hlen := text_length h
  obtain ⟨h1, h2⟩ := (may_iff l).1 h
  cases l with
  | nil => rfl
  | cons b r =>
    have hb := (Bd.may_iff b).1 (h2 b (by simp))
    obtain ⟨c, t, e, n1, n2⟩ := join_head (r := r) ⟨hb.1, hb.2.1⟩
    have ht : text (b :: r) = join ((b :: r).map Bd.text) := by unfold text; rw [if_neg (by simp)]
    rw [ht] at hlen ⊢
    have hw : words (join ((b :: r).map Bd.text)) = (b :: r).map Bd.text := words_join (by simp) (fun p hp => by
      obtain ⟨d, hd, rfl⟩ := List.mem_map.1 hp
      exact bd_noblank (h2 d hd))
    unfold parse
    rw [if_neg (by rw [e]; simp [n2]), if_neg (by omega), if_neg (by rw [e]; simp [n1]), hw, bounds_text h2]
    simp only
    rw [if_pos h]

/-- What is read may be, and its text is the text, or that has a ^ ahead. -/
theorem parse_some {s : List UInt8} {l : List Bd} (h : parse s = some l) : may l = true ∧ (text l = s ∨ s.head? = some 94) := by
  unfold parse at h
  split at h
  · rename_i hs
    obtain rfl : [] = l := by simpa using h
    exact ⟨rfl, Or.inl hs.symm⟩
  · split at h
    · cases h
    · split at h
      · rename_i hh
        cases hp : Sem.parse s.tail with
        | none => rw [hp] at h; cases h
        | some v =>
          rw [hp] at h
          obtain rfl : near v = l := by simpa using h
          exact ⟨near_may (Sem.parse_some hp).1, Or.inr hh⟩
      · cases hb : bounds (words s) with
        | none => rw [hb] at h; cases h
        | some m =>
          rw [hb] at h
          simp only at h
          split at h
          · rename_i hm
            obtain rfl : m = l := by simpa using h
            refine ⟨hm, Or.inl ?_⟩
            obtain ⟨h1, _⟩ := bounds_some hb
            unfold text
            rw [if_neg (by
              rintro rfl
              exact words_ne s h1.symm), h1, join_words]
          · cases h

theorem parse_empty : parse [] = none := by decide

end Rng

/- Mathematics of the program's own ways in layer 5: a word's sign cut off ahead, the ends of ranges narrowed bound by bound. -/
namespace Rng
open Sem

/-- A byte of a sign. -/
def isSign (c : UInt8) : Bool := c == 60 || c == 61 || c == 62

def opOf (g : List UInt8) : Option Int := if g = [60] then some 1 else if g = [60, 61] then some 2 else if g = [61] then some 3 else if g = [62, 61] then some 4 else if g = [62] then some 5 else none

def bound1 (w : List UInt8) : Option Bd := match opOf (w.takeWhile isSign) with
  | none => none
  | some op => (Sem.parse (w.dropWhile isSign)).map fun v => ⟨op, v⟩

theorem opOf_sign {g : List UInt8} {op : Int} (h : opOf g = some op) : 1 ≤ op ∧ op ≤ 5 ∧ sign op = g := by
  unfold opOf at h
  repeat (split at h; (rename_i hg; obtain rfl := Option.some.inj h; rw [hg]; exact ⟨by decide, by decide, rfl⟩))
  cases h

theorem sign_opOf {op : Int} (h : 1 ≤ op ∧ op ≤ 5) : opOf (sign op) = some op := by
  rcases (by omega : op = 1 ∨ op = 2 ∨ op = 3 ∨ op = 4 ∨ op = 5) with rfl | rfl | rfl | rfl | rfl <;> decide

theorem sign_isSign (op : Int) : ∀ c ∈ sign op, isSign c = true := by
  unfold sign
  intro c hc
  repeat (split at hc; (simp at hc; first | (subst hc; decide) | (rcases hc with rfl | rfl <;> decide)))
  cases hc

theorem text_sign {op : Int} {v : Ver} : (sign op ++ Sem.text v).takeWhile isSign = sign op ∧ (sign op ++ Sem.text v).dropWhile isSign = Sem.text v := by
  obtain ⟨c, r, e, h1, h2⟩ := text_head (v := v)
  have hc : isSign c = false := by
    have a : c ≠ 60 := by rintro rfl; revert h2; decide
    have b : c ≠ 61 := by rintro rfl; revert h2; decide
    have d : c ≠ 62 := by rintro rfl; revert h2; decide
    simp [isSign, a, b, d]
  have key : ∀ g : List UInt8, (∀ x ∈ g, isSign x = true) → (g ++ Sem.text v).takeWhile isSign = g ∧ (g ++ Sem.text v).dropWhile isSign = Sem.text v := by
    intro g hg
    induction g with
    | nil => rw [e]; simp [hc]
    | cons x t ih =>
      obtain ⟨i1, i2⟩ := ih (fun y hy => hg y (List.mem_cons_of_mem _ hy))
      have hx := hg x (by simp)
      rw [List.cons_append, List.takeWhile_cons_of_pos hx, List.dropWhile_cons_of_pos hx, i1, i2]
      exact ⟨rfl, rfl⟩
  exact key _ (sign_isSign op)

theorem bound1_eq (w : List UInt8) : bound1 w = bound w := by
  cases h : bound w with
  | some b =>
    obtain ⟨h1, h2⟩ := bound_some h
    obtain ⟨b1, b2, b3⟩ := (Bd.may_iff b).1 h1
    rw [← h2]
    unfold Bd.text bound1
    obtain ⟨e1, e2⟩ := text_sign (op := b.op) (v := b.v)
    rw [e1, e2, sign_opOf ⟨b1, b2⟩]
    simp only
    rw [Sem.parse_text b3]; rfl
  | none =>
    cases h' : bound1 w with
    | none => rfl
    | some b =>
      exfalso
      unfold bound1 at h'
      cases ho : opOf (w.takeWhile isSign) with
      | none => rw [ho] at h'; cases h'
      | some op =>
        rw [ho] at h'
        simp only at h'
        cases hp : Sem.parse (w.dropWhile isSign) with
        | none => rw [hp] at h'; cases h'
        | some v =>
          obtain ⟨o1, o2, o3⟩ := opOf_sign ho
          obtain ⟨p1, p2⟩ := Sem.parse_some hp
          have hw : (⟨op, v⟩ : Bd).text = w := by
            unfold Bd.text
            simp only
            rw [o3, p2]
            exact List.takeWhile_append_dropWhile
          have := bound_text (b := ⟨op, v⟩) ((Bd.may_iff _).2 ⟨o1, o2, p1⟩)
          rw [hw, h] at this
          cases this

theorem bounds_len : ∀ {ws : List (List UInt8)} {l : List Bd}, bounds ws = some l → l.length = ws.length := fun {ws l} h => by
  have := (bounds_some h).1
  rw [← this, List.length_map]

/-- P5.1, as the program reads: no text is too long by itself. -/
theorem parse_own (s : List UInt8) : parse s = if s = [42] then some [] else if s.head? = some 94 then (Sem.parse s.tail).map near
    else if 20 < (words s).length then none else bounds (words s) := by
  unfold parse
  by_cases h1 : s = [42]
  · rw [if_pos h1, if_pos h1]
  · rw [if_neg h1, if_neg h1]
    by_cases h2 : s.head? = some 94
    · rw [if_pos h2, if_pos h2]
      split
      · rename_i hl
        cases hp : Sem.parse s.tail with
        | none => rfl
        | some v =>
          exfalso
          obtain ⟨p1, p2⟩ := Sem.parse_some hp
          have := text_len p1
          rw [p2, List.length_tail] at this
          omega
      · rfl
    · rw [if_neg h2, if_neg h2]
      cases hb : bounds (words s) with
      | none =>
        simp only
        split
        · split <;> rfl
        · split <;> rfl
      | some l =>
        simp only
        have hlen := bounds_len hb
        obtain ⟨b1, b2⟩ := bounds_some hb
        have hm : may l = true ↔ l.length ≤ 20 := by
          rw [may_iff]; exact ⟨fun h => h.1, fun h => ⟨h, b2⟩⟩
        by_cases hl : 20 < (words s).length
        · rw [if_pos hl]
          have : ¬ may l = true := by rw [hm]; omega
          rw [if_neg this]
          split <;> rfl
        · rw [if_neg hl]
          have hml : may l = true := hm.2 (by omega)
          rw [if_pos hml, if_neg]
          have ht := text_length hml
          have : text l = s := by
            unfold text
            rw [if_neg (by rintro rfl; exact words_ne s b1.symm), b1, join_words]
          rw [this] at ht
          omega

/-- No bound yet. -/
def zero : Bd := ⟨0, ⟨0, 0, 0, []⟩⟩
def bdO : Option Bd → Bd
  | none => zero
  | some b => b

def low1 (x b : Bd) : Bd := if x.op = 0 ∨ 0 < cmp b.v x.v ∨ (cmp b.v x.v = 0 ∧ b.op = 5 ∧ x.op ≠ 5) then b else x
def high1 (x b : Bd) : Bd := if x.op = 0 ∨ cmp b.v x.v < 0 ∨ (cmp b.v x.v = 0 ∧ b.op = 1 ∧ x.op ≠ 1) then b else x

def narrow (e : Bd × Bd) (b : Bd) : Bd × Bd := (if 3 ≤ (fix b).op then low1 e.1 (fix b) else e.1, if (fix b).op ≤ 3 then high1 e.2 (fix b) else e.2)

theorem best_snoc (way strict : Int) (l : List Bd) (b : Bd) : best way strict (l ++ [b]) = some (match best way strict l with | none => b | some x => pick way strict x b) := by
  cases l with
  | nil => rfl
  | cons x r => simp [best, List.foldl_append]

theorem low1_pick {x b : Bd} (h : x.op ≠ 0) : low1 x b = pick 1 5 x b := by
  unfold low1 pick
  simp only [h, false_or, Int.one_mul]

theorem high1_pick {x b : Bd} (h : x.op ≠ 0) : high1 x b = pick (-1) 1 x b := by
  unfold high1 pick
  have e1 : (0 < -1 * cmp b.v x.v) = (cmp b.v x.v < 0) := by rw [eq_iff_iff]; omega
  have e2 : (-1 * cmp b.v x.v = 0) = (cmp b.v x.v = 0) := by rw [eq_iff_iff]; omega
  simp only [h, false_or, e1, e2]

/-- What the program holds behind some bounds. -/
def ends (l : List Bd) : Bd × Bd := (bdO (best 1 5 (low l)), bdO (best (-1) 1 (high l)))

theorem ends_nil : ends [] = (zero, zero) := rfl

theorem best_low {l : List Bd} {x : Bd} (h : best 1 5 (low l) = some x) : x.op ≠ 0 := by have := low_op (best_mem h); omega
theorem best_high {l : List Bd} {x : Bd} (h : best (-1) 1 (high l) = some x) : x.op ≠ 0 := by have := high_op (best_mem h); omega

theorem ends_snoc (l : List Bd) (b : Bd) : ends (l ++ [b]) = narrow (ends l) b := by
  unfold ends narrow
  rw [low_append, high_append]
  have e1 : low [b] = if 3 ≤ (fix b).op then [fix b] else [] := by unfold low; simp [List.filter_cons]
  have e2 : high [b] = if (fix b).op ≤ 3 then [fix b] else [] := by unfold high; simp [List.filter_cons]
  rw [e1, e2]
  congr 1
  · by_cases h : 3 ≤ (fix b).op
    · rw [if_pos h, if_pos h, best_snoc]
      simp only
      cases hx : best 1 5 (low l) with
      | none => simp [bdO, low1, zero]
      | some x => simp only [bdO]; rw [low1_pick (best_low hx)]
    · rw [if_neg h, if_neg h, List.append_nil]
  · by_cases h : (fix b).op ≤ 3
    · rw [if_pos h, if_pos h, best_snoc]
      simp only
      cases hx : best (-1) 1 (high l) with
      | none => simp [bdO, high1, zero]
      | some x => simp only [bdO]; rw [high1_pick (best_high hx)]
    · rw [if_neg h, if_neg h, List.append_nil]

/-- The ends as a range. -/
def shut (e : Bd × Bd) : List Bd :=
  if e.1.op = 0 ∧ e.2.op = 0 then [] else if e.2.op = 0 then [least e.1] else if e.1.op = 0 then [most e.2]
  else if cmp e.1.v e.2.v < 0 then [least e.1, most e.2]
  else if cmp e.1.v e.2.v = 0 ∧ (least e.1).op = 4 ∧ (most e.2).op = 2 then [⟨3, e.1.v⟩] else [nil]

theorem shut_ends (l : List Bd) : shut (ends l) = normal l := by
  unfold normal shut ends
  cases h1 : best 1 5 (low l) with
  | none =>
    cases h2 : best (-1) 1 (high l) with
    | none => simp [bdO, close, zero]
    | some y => have := best_high h2; simp [bdO, close, zero, this]
  | some x =>
    have hx := best_low h1
    cases h2 : best (-1) 1 (high l) with
    | none => simp [bdO, close, zero, hx]
    | some y =>
      have := best_high h2
      by_cases c1 : cmp x.v y.v < 0
      · simp [bdO, close, hx, this, least_v, most_v, c1]
      · by_cases c2 : cmp x.v y.v = 0 ∧ (least x).op = 4 ∧ (most y).op = 2
        · simp [bdO, close, hx, this, least_v, most_v, c2]
        · simp [bdO, close, hx, this, least_v, most_v, c1]
          first | exact if_neg c2 | exact (if_neg c2).trans (if_neg c2).symm

theorem near_own {v : Ver} : near v = if Sem.may v = true ∧ Sem.may (next v) = true then [⟨4, v⟩, ⟨1, next v⟩] else [⟨3, v⟩] := by
  unfold near
  by_cases hv : Sem.may v = true
  · have key : (Sem.may (next v) = true) ↔ ((next v).maj ≤ 999999 ∧ (next v).min ≤ 999999) := by
      rw [Sem.may_iff] at hv ⊢
      obtain ⟨h1, h2, h3, h4, h5⟩ := hv
      unfold next
      split
      · simp only
        have : preOk [] = true := rfl
        simp only [this]
        constructor
        · rintro ⟨_, _, _, _, _⟩; omega
        · rintro ⟨_, _⟩; refine ⟨?_, ?_, ?_, ?_, trivial⟩ <;> first | omega | decide
      · simp only
        have : preOk [] = true := rfl
        simp only [this]
        constructor
        · rintro ⟨_, _, _, _, _⟩; omega
        · rintro ⟨_, _⟩; refine ⟨?_, ?_, ?_, ?_, trivial⟩ <;> first | omega | decide
    simp only [hv, key]
  · simp [hv]
end Rng
