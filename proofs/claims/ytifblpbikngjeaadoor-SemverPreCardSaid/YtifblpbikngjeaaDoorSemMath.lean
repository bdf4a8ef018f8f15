/- Mathematics of layer 4: versions, their texts, reading them. -/
namespace Sem

def dig (c : UInt8) : Bool := decide (48 ≤ c.toNat) && decide (c.toNat ≤ 57)
def okc (c : UInt8) : Bool := (decide (97 ≤ c.toNat) && decide (c.toNat ≤ 122)) || (decide (65 ≤ c.toNat) && decide (c.toNat ≤ 90)) || decide (c.toNat = 45) || dig c

/-- A part of digits. -/
def digits (l : List UInt8) : Bool := !l.isEmpty && l.all dig
/-- A part that may be. -/
def part (l : List UInt8) : Bool := !l.isEmpty && l.all okc && (!digits l || l == [48] || l.head? != some 48)

/-- A text's parts, at its dots. -/
def parts : List UInt8 → List (List UInt8)
  | [] => [[]]
  | c :: r => if c = 46 then [] :: parts r else match parts r with
    | [] => [[c]]
    | p :: ps => (c :: p) :: ps

theorem parts_ne (l : List UInt8) : parts l ≠ [] := by
  cases l with
  | nil => simp [parts]
  | cons c r => rw [parts]; split; simp; split <;> simp

theorem parts_cons {c : UInt8} {r p : List UInt8} {ps : List (List UInt8)} (h : c ≠ 46) (hr : parts r = p :: ps) : parts (c :: r) = (c :: p) :: ps := by
  rw [parts, if_neg h, hr]

theorem parts_dot (r : List UInt8) : parts (46 :: r) = [] :: parts r := by rw [parts, if_pos rfl]

/-- A part more behind a dot. -/
theorem parts_snoc_dot : ∀ l : List UInt8, parts (l ++ [46]) = parts l ++ [[]]
  | [] => rfl
  | c :: r => by
    have ih := parts_snoc_dot r
    by_cases h : c = 46
    · subst h; rw [List.cons_append, parts_dot, ih, parts_dot, List.cons_append]
    · rw [List.cons_append]
      rcases hr : parts r with _ | ⟨p, ps⟩
      · exact absurd hr (parts_ne r)
      · rw [hr, List.cons_append] at ih
        rw [parts_cons h ih, parts_cons h hr, List.cons_append]

/-- A byte more: behind the last part. -/
theorem parts_snoc {d : UInt8} (hd : d ≠ 46) : ∀ (l : List UInt8), ∃ ps p, parts l = ps ++ [p] ∧ parts (l ++ [d]) = ps ++ [p ++ [d]]
  | [] => ⟨[], [], rfl, by rw [List.nil_append, parts, if_neg hd]; rfl⟩
  | c :: r => by
    obtain ⟨ps, p, h1, h2⟩ := parts_snoc hd r
    by_cases h : c = 46
    · subst h
      exact ⟨[] :: ps, p, by rw [parts_dot, h1]; rfl, by rw [List.cons_append, parts_dot, h2]; rfl⟩
    · match ps, h1, h2 with
      | [], h1, h2 => exact ⟨[], c :: p, by rw [parts_cons h h1]; rfl, by rw [List.cons_append, parts_cons h h2]; rfl⟩
      | q :: qs, h1, h2 => exact ⟨(c :: q) :: qs, p, by rw [parts_cons h h1]; rfl, by rw [List.cons_append, parts_cons h h2]; rfl⟩

/-- Parts, with dots between. -/
def join : List (List UInt8) → List UInt8
  | [] => []
  | [p] => p
  | p :: q :: ps => p ++ 46 :: join (q :: ps)

theorem join_parts : ∀ l : List UInt8, join (parts l) = l
  | [] => rfl
  | c :: r => by
    have ih := join_parts r
    by_cases h : c = 46
    · subst h
      rw [parts_dot]
      rcases hr : parts r with _ | ⟨p, ps⟩
      · exact absurd hr (parts_ne r)
      · rw [join, ← hr, ih]; rfl
    · rcases hr : parts r with _ | ⟨p, ps⟩
      · exact absurd hr (parts_ne r)
      · rw [parts_cons h hr]
        rw [hr] at ih
        cases ps with
        | nil => rw [join] at ih ⊢; rw [ih]
        | cons q qs => rw [join] at ih ⊢; rw [List.cons_append, ih]

theorem parts_inj {l m : List UInt8} (h : parts l = parts m) : l = m := by rw [← join_parts l, h, join_parts]

theorem parts_nodot : ∀ (l : List UInt8), ∀ p ∈ parts l, ∀ c ∈ p, c ≠ 46
  | [], p, hp, c, hc => by simp [parts] at hp; subst hp; simp at hc
  | d :: r, p, hp, c, hc => by
    have ih := parts_nodot r
    by_cases h : d = 46
    · subst h
      rw [parts_dot] at hp
      rcases List.mem_cons.1 hp with rfl | hp
      · simp at hc
      · exact ih p hp c hc
    · rcases hr : parts r with _ | ⟨q, qs⟩
      · exact absurd hr (parts_ne r)
      · rw [parts_cons h hr] at hp
        rw [hr] at ih
        rcases List.mem_cons.1 hp with rfl | hp
        · rcases List.mem_cons.1 hc with rfl | hc
          · exact h
          · exact ih q (by simp) c hc
        · exact ih p (by simp [hp]) c hc

theorem parts_len : ∀ (l : List UInt8), ∀ p ∈ parts l, p.length ≤ l.length
  | [], p, hp => by simp [parts] at hp; subst hp; simp
  | d :: r, p, hp => by
    have ih := parts_len r
    by_cases h : d = 46
    · subst h
      rw [parts_dot] at hp
      rcases List.mem_cons.1 hp with rfl | hp
      · simp
      · have := ih p hp; rw [List.length_cons]; omega
    · rcases hr : parts r with _ | ⟨q, qs⟩
      · exact absurd hr (parts_ne r)
      · rw [parts_cons h hr] at hp
        rw [hr] at ih
        rcases List.mem_cons.1 hp with rfl | hp
        · have := ih q (by simp); rw [List.length_cons, List.length_cons]; omega
        · have := ih p (by simp [hp]); rw [List.length_cons]; omega

theorem parts_count : ∀ l : List UInt8, (parts l).length ≤ l.length + 1
  | [] => by simp [parts]
  | d :: r => by
    have ih := parts_count r
    by_cases h : d = 46
    · subst h; rw [parts_dot]; simp; omega
    · rcases hr : parts r with _ | ⟨q, qs⟩
      · exact absurd hr (parts_ne r)
      · rw [parts_cons h hr]; rw [hr] at ih; simp at ih ⊢; omega

/-- A version. -/
structure Ver where
  maj : Int
  min : Int
  pat : Int
  pre : List UInt8
deriving DecidableEq

def numOk (n : Int) : Bool := decide (0 ≤ n) && decide (n ≤ 999999)
def preOk (p : List UInt8) : Bool := p.isEmpty || (parts p).all part

/-- A version that may be. -/
def may (v : Ver) : Bool := numOk v.maj && numOk v.min && numOk v.pat && decide (v.pre.length ≤ 24) && preOk v.pre

theorem numOk_iff (n : Int) : numOk n = true ↔ 0 ≤ n ∧ n ≤ 999999 := by simp [numOk]

theorem may_iff (v : Ver) : may v = true ↔ (0 ≤ v.maj ∧ v.maj ≤ 999999) ∧ (0 ≤ v.min ∧ v.min ≤ 999999) ∧ (0 ≤ v.pat ∧ v.pat ≤ 999999) ∧ v.pre.length ≤ 24 ∧ preOk v.pre = true := by
  simp only [may, Bool.and_eq_true, numOk_iff, decide_eq_true_eq]
  exact ⟨fun ⟨⟨⟨⟨a, b⟩, c⟩, d⟩, e⟩ => ⟨a, b, c, d, e⟩, fun ⟨a, b, c, d, e⟩ => ⟨⟨⟨⟨a, b⟩, c⟩, d⟩, e⟩⟩

/-- A number in decimal digits. -/
def dec (n : Nat) : List UInt8 := if h : n < 10 then [UInt8.ofNat (48 + n)] else dec (n / 10) ++ [UInt8.ofNat (48 + n % 10)]
termination_by n

theorem dec_small {n : Nat} (h : n < 10) : dec n = [UInt8.ofNat (48 + n)] := by rw [dec, dif_pos h]
theorem dec_big {n : Nat} (h : ¬ n < 10) : dec n = dec (n / 10) ++ [UInt8.ofNat (48 + n % 10)] := by rw [dec, dif_neg h]
/-- The digits ahead of the last one. -/
def ahead (n : Nat) : List UInt8 := if n < 10 then [] else dec (n / 10)
theorem dec_last (n : Nat) : dec n = ahead n ++ [UInt8.ofNat (48 + n % 10)] := by
  unfold ahead
  by_cases h : n < 10
  · rw [dec_small h, if_pos h, Nat.mod_eq_of_lt h]; rfl
  · rw [dec_big h, if_neg h]

theorem dec_dig : ∀ n : Nat, ∀ c ∈ dec n, 48 ≤ c.toNat ∧ c.toNat ≤ 57 := by
  intro n
  induction n using Nat.strongRecOn with
  | ind n ih =>
    intro c hc
    by_cases h : n < 10
    · rw [dec_small h] at hc
      simp at hc
      subst hc
      simp; omega
    · rw [dec_big h, List.mem_append] at hc
      rcases hc with hc | hc
      · exact ih _ (by omega) c hc
      · simp at hc
        subst hc
        simp; omega

theorem dec_ne (n : Nat) : dec n ≠ [] := by
  by_cases h : n < 10
  · rw [dec_small h]; simp
  · rw [dec_big h]; simp

theorem dec_len : ∀ (k n : Nat), n < 10 ^ k → 1 ≤ k → (dec n).length ≤ k
  | 0, _, _, h => absurd h (by omega)
  | k + 1, n, hn, _ => by
    by_cases h : n < 10
    · rw [dec_small h]; simp
    · rw [dec_big h, List.length_append]
      have hk : 1 ≤ k := by
        rcases Nat.eq_zero_or_pos k with rfl | h'
        · omega
        · exact h'
      have := dec_len k (n / 10) (by rw [Nat.pow_succ] at hn; omega) hk
      simp; omega

/-- The text of a version. -/
def text (v : Ver) : List UInt8 := dec v.maj.toNat ++ 46 :: (dec v.min.toNat ++ 46 :: (dec v.pat.toNat ++ if v.pre = [] then [] else 45 :: v.pre))

theorem text_len {v : Ver} (h : may v = true) : (text v).length ≤ 45 := by
  rw [may_iff] at h
  have h1 := dec_len 6 v.maj.toNat (by have : (10 : Nat) ^ 6 = 1000000 := rfl; omega) (by omega)
  have h2 := dec_len 6 v.min.toNat (by have : (10 : Nat) ^ 6 = 1000000 := rfl; omega) (by omega)
  have h3 := dec_len 6 v.pat.toNat (by have : (10 : Nat) ^ 6 = 1000000 := rfl; omega) (by omega)
  unfold text
  simp only [List.length_append, List.length_cons]
  split <;> simp <;> omega

/-- A number goes on by a digit, as the document reads it. -/
def rd (a : Nat) (c : UInt8) : Nat := if a ≤ 999999 then 10 * a + (c.toNat - 48) else a

theorem rd_dec : ∀ n : Nat, n ≤ 999999 → (dec n).foldl rd 0 = n := by
  intro n
  induction n using Nat.strongRecOn with
  | ind n ih =>
    intro hn
    by_cases h : n < 10
    · rw [dec_small h]
      simp [rd]; omega
    · rw [dec_big h, List.foldl_append, ih _ (by omega) (by omega), List.foldl_cons, List.foldl_nil]
      have e : (UInt8.ofNat (48 + n % 10)).toNat = 48 + n % 10 := by simp; omega
      unfold rd
      rw [if_pos (by omega), e]
      omega

/-- The three numbers, number k another one. -/
def put (t : Nat × Nat × Nat) (k x : Nat) : Nat × Nat × Nat := if k = 0 then (x, t.2.1, t.2.2) else if k = 1 then (t.1, x, t.2.2) else (t.1, t.2.1, x)
def get (t : Nat × Nat × Nat) (k : Nat) : Nat := if k = 0 then t.1 else if k = 1 then t.2.1 else t.2.2

/-- The numbers ahead of a -, as the document reads them, and the rest. -/
def scan : List UInt8 → Nat → Nat × Nat × Nat → Option ((Nat × Nat × Nat) × List UInt8)
  | [], _, t => some (t, [])
  | c :: r, k, t =>
    if c = 45 then some (t, c :: r)
    else if c = 46 then (if k < 2 then scan r (k + 1) t else none)
    else if dig c = true then scan r k (put t k (rd (get t k) c)) else none

theorem put_put (t : Nat × Nat × Nat) (k x y : Nat) : put (put t k x) k y = put t k y := by
  unfold put; split <;> simp_all
theorem get_put (t : Nat × Nat × Nat) (k x : Nat) : get (put t k x) k = x := by
  unfold get put; split <;> simp_all

theorem scan_digits : ∀ (l r : List UInt8) (k : Nat) (t : Nat × Nat × Nat), k ≤ 2 → (∀ c ∈ l, 48 ≤ c.toNat ∧ c.toNat ≤ 57) → l ≠ [] → scan (l ++ r) k t = scan r k (put t k (l.foldl rd (get t k)))
  | [], _, _, _, _, _, h => absurd rfl h
  | c :: l, r, k, t, hk, hl, _ => by
    have hc := hl c (by simp)
    have h1 : c ≠ 45 := by rintro rfl; simp at hc
    have h2 : c ≠ 46 := by rintro rfl; simp at hc
    have h3 : dig c = true := by simp [dig]; omega
    rw [List.cons_append, scan, if_neg h1, if_neg h2, if_pos h3, List.foldl_cons]
    by_cases hn : l = []
    · subst hn; rfl
    · rw [scan_digits l r k _ hk (fun d hd => hl d (by simp [hd])) hn, get_put, put_put]

theorem scan_dot (r : List UInt8) (k : Nat) (t : Nat × Nat × Nat) (h : k < 2) : scan (46 :: r) k t = scan r (k + 1) t := by
  rw [scan, if_neg (by decide), if_pos rfl, if_pos h]

theorem scan_end (p : List UInt8) (k : Nat) (t : Nat × Nat × Nat) : scan (if p = [] then [] else 45 :: p) k t = some (t, if p = [] then [] else 45 :: p) := by
  split
  · rfl
  · rw [scan, if_pos rfl]

theorem scan_text {v : Ver} (h : may v = true) : scan (text v) 0 (0, 0, 0) = some ((v.maj.toNat, v.min.toNat, v.pat.toNat), if v.pre = [] then [] else 45 :: v.pre) := by
  rw [may_iff] at h
  unfold text
  rw [scan_digits _ _ _ _ (by omega) (dec_dig _) (dec_ne _), scan_dot _ _ _ (by omega), scan_digits _ _ _ _ (by omega) (dec_dig _) (dec_ne _), scan_dot _ _ _ (by omega),
    scan_digits _ _ _ _ (by omega) (dec_dig _) (dec_ne _), scan_end]
  show some (put (put (put (0, 0, 0) 0 ((dec v.maj.toNat).foldl rd 0)) 1 ((dec v.min.toNat).foldl rd 0)) 2 ((dec v.pat.toNat).foldl rd 0), _) = _
  rw [rd_dec v.maj.toNat (by omega), rd_dec v.min.toNat (by omega), rd_dec v.pat.toNat (by omega)]
  rfl

/-- The version that a text is. -/
def parse (l : List UInt8) : Option Ver :=
  match scan l 0 (0, 0, 0) with
  | none => none
  | some (t, rest) =>
    if may ⟨t.1, t.2.1, t.2.2, rest.tail⟩ = true ∧ text ⟨t.1, t.2.1, t.2.2, rest.tail⟩ = l then some ⟨t.1, t.2.1, t.2.2, rest.tail⟩ else none

theorem parse_text {v : Ver} (h : may v = true) : parse (text v) = some v := by
  have h' := h
  rw [may_iff] at h'
  have e : (⟨(v.maj.toNat : Int), (v.min.toNat : Int), (v.pat.toNat : Int), (if v.pre = [] then [] else 45 :: v.pre).tail⟩ : Ver) = v := by
    obtain ⟨a, b, c, p⟩ := v
    simp only at h'
    have e4 : (if p = [] then [] else 45 :: p).tail = p := by split <;> simp_all
    rw [e4]
    rw [Ver.mk.injEq]
    exact ⟨Int.toNat_of_nonneg h'.1.1, Int.toNat_of_nonneg h'.2.1.1, Int.toNat_of_nonneg h'.2.2.1.1, rfl⟩
  rw [parse, scan_text h]
  simp only
  rw [e, if_pos ⟨h, rfl⟩]

theorem parse_some {l : List UInt8} {v : Ver} (h : parse l = some v) : may v = true ∧ text v = l := by
  rw [parse] at h
  split at h
  · cases h
  · split at h
    · rename_i hc; cases h; exact hc
    · cases h

theorem parse_none {l : List UInt8} (h : parse l = none) (v : Ver) (hv : may v = true) : text v ≠ l := by
  rintro rfl
  rw [parse_text hv] at h
  cases h

/-! ### The order -/

/-- The number that digits are. -/
def num (l : List UInt8) : Nat := l.foldl (fun a c => 10 * a + (c.toNat - 48)) 0

theorem num_from (l : List UInt8) (a : Nat) : l.foldl (fun a c => 10 * a + (c.toNat - 48)) a = a * 10 ^ l.length + num l := by
  induction l generalizing a with
  | nil => simp [num]
  | cons c r ih =>
    have e : num (c :: r) = (c.toNat - 48) * 10 ^ r.length + num r := by
      show List.foldl _ (10 * 0 + (c.toNat - 48)) r = _
      rw [ih, Nat.mul_zero, Nat.zero_add]
    rw [List.foldl_cons, ih, e, List.length_cons, Nat.pow_succ, Nat.add_mul, Nat.add_assoc]
    congr 1
    rw [Nat.mul_comm 10 a, Nat.mul_assoc, Nat.mul_comm (10 ^ r.length) 10]

theorem num_cons (c : UInt8) (r : List UInt8) : num (c :: r) = (c.toNat - 48) * 10 ^ r.length + num r := by
  rw [num, List.foldl_cons, num_from]; simp

theorem num_lt (l : List UInt8) (h : ∀ c ∈ l, 48 ≤ c.toNat ∧ c.toNat ≤ 57) : num l < 10 ^ l.length := by
  induction l with
  | nil => simp [num]
  | cons c r ih =>
    have h1 := ih (fun d hd => h d (by simp [hd]))
    have hc := h c (by simp)
    rw [num_cons, List.length_cons, Nat.pow_succ]
    have : (c.toNat - 48) * 10 ^ r.length ≤ 9 * 10 ^ r.length := Nat.mul_le_mul_right _ (by omega)
    omega

/-- Digits of one length stand in the order of their numbers. -/
theorem num_order : ∀ (l m : List UInt8), l.length = m.length → (∀ c ∈ l, 48 ≤ c.toNat ∧ c.toNat ≤ 57) → (∀ c ∈ m, 48 ≤ c.toNat ∧ c.toNat ≤ 57) → (l < m ↔ num l < num m)
  | [], [], _, _, _ => by simp [num]
  | [], _ :: _, h, _, _ => by simp at h
  | _ :: _, [], h, _, _ => by simp at h
  | c :: l, d :: m, h, hl, hm => by
    have hlen : l.length = m.length := by simpa using h
    have ih := num_order l m hlen (fun x hx => hl x (by simp [hx])) (fun x hx => hm x (by simp [hx]))
    have hc := hl c (by simp)
    have hd := hm d (by simp)
    have n1 := num_lt l (fun x hx => hl x (by simp [hx]))
    have n2 := num_lt m (fun x hx => hm x (by simp [hx]))
    rw [List.cons_lt_cons_iff, num_cons, num_cons, ih, ← hlen]
    rw [← hlen] at n2
    obtain ⟨x, hx⟩ : ∃ x, x = 10 ^ l.length := ⟨_, rfl⟩
    rw [← hx] at n1 n2 ⊢
    constructor
    · rintro (h' | ⟨rfl, h'⟩)
      · have h2 : c.toNat < d.toNat := UInt8.lt_iff_toNat_lt.1 h'
        have : (c.toNat - 48 + 1) * x ≤ (d.toNat - 48) * x := Nat.mul_le_mul_right _ (by omega)
        rw [Nat.add_mul] at this
        omega
      · omega
    · intro h'
      rcases Nat.lt_trichotomy c.toNat d.toNat with h2 | h2 | h2
      · exact Or.inl (UInt8.lt_iff_toNat_lt.2 h2)
      · obtain rfl := UInt8.toNat_inj.1 h2
        exact Or.inr ⟨rfl, by omega⟩
      · have : (d.toNat - 48 + 1) * x ≤ (c.toNat - 48) * x := Nat.mul_le_mul_right _ (by omega)
        rw [Nat.add_mul] at this
        omega

theorem num_same {l m : List UInt8} (hlen : l.length = m.length) (hl : ∀ c ∈ l, 48 ≤ c.toNat ∧ c.toNat ≤ 57) (hm : ∀ c ∈ m, 48 ≤ c.toNat ∧ c.toNat ≤ 57) (h : num l = num m) : l = m := by
  have h1 := num_order l m hlen hl hm
  have h2 := num_order m l hlen.symm hm hl
  exact List.le_antisymm (List.not_lt.1 (by rw [h2]; omega)) (List.not_lt.1 (by rw [h1]; omega))

/-- 0s ahead change nothing of the number. -/
theorem num_zero (l : List UInt8) : num (48 :: l) = num l := by rw [num_cons]; simp

/-- Where a version stands: smaller for what is below. -/
def partKey (p : List UInt8) : List Int := if digits p then [0, (num p : Int)] else 1 :: p.map fun c => (c.toNat : Int)
def preKey (p : List UInt8) : List (List Int) := if p = [] then [[2]] else [1] :: (parts p).map partKey
def key (v : Ver) : List (List Int) := [v.maj] :: [v.min] :: [v.pat] :: preKey v.pre

/-- -1, 0, 1 of keys. -/
def three {α : Type} [LT α] [DecidableLT α] (a b : α) : Int := if a < b then -1 else if b < a then 1 else 0
def cmp (a b : Ver) : Int := three (key a) (key b)

theorem three_turn {a b : List (List Int)} : three b a = - three a b := by
  unfold three
  by_cases h : a < b
  · rw [if_neg (List.lt_asymm h), if_pos h, if_pos h]; rfl
  · by_cases h2 : b < a
    · rw [if_pos h2, if_neg h, if_pos h2]
    · rw [if_neg h2, if_neg h, if_neg h, if_neg h2]; rfl

theorem three_zero {a b : List (List Int)} : three a b = 0 ↔ a = b := by
  unfold three
  constructor
  · intro h
    by_cases h1 : a < b
    · rw [if_pos h1] at h; omega
    · rw [if_neg h1] at h
      by_cases h2 : b < a
      · rw [if_pos h2] at h; omega
      · exact List.le_antisymm (List.not_lt.1 h2) (List.not_lt.1 h1)
  · rintro rfl
    rw [if_neg (List.lt_irrefl a), if_neg (List.lt_irrefl a)]

theorem three_le {a b : List (List Int)} : three a b ≤ 0 ↔ ¬ b < a := by
  unfold three
  by_cases h : a < b
  · rw [if_pos h]; exact ⟨fun _ => List.lt_asymm h, fun _ => by omega⟩
  · rw [if_neg h]
    by_cases h2 : b < a
    · rw [if_pos h2]; exact ⟨fun h' => absurd h' (by omega), fun h' => absurd h2 h'⟩
    · rw [if_neg h2]; exact ⟨fun _ => h2, fun _ => by omega⟩

theorem three_trans {a b c : List (List Int)} (h1 : three a b ≤ 0) (h2 : three b c ≤ 0) : three a c ≤ 0 := by
  rw [three_le] at h1 h2 ⊢
  exact List.not_lt.2 (List.le_trans (List.not_lt.1 h1) (List.not_lt.1 h2))

theorem three_range (a b : List (List Int)) : three a b = -1 ∨ three a b = 0 ∨ three a b = 1 := by
  unfold three; split; exact Or.inl rfl; split; exact Or.inr (Or.inr rfl); exact Or.inr (Or.inl rfl)

end Sem
