/- Mathematics of layer 4, the order step by step: parts, versions. -/
import Derived.Test.YtifblpbikngjeaaDoorSemMath
namespace Sem

theorem three_congr {α β : Type} [LT α] [DecidableLT α] [LT β] [DecidableLT β] {a b : α} {c d : β} (h1 : a < b ↔ c < d) (h2 : b < a ↔ d < c) : three a b = three c d := by
  unfold three
  by_cases h : a < b
  · rw [if_pos h, if_pos (h1.1 h)]
  · rw [if_neg h, if_neg (fun h' => h (h1.2 h'))]
    by_cases h' : b < a
    · rw [if_pos h', if_pos (h2.1 h')]
    · rw [if_neg h', if_neg (fun h'' => h' (h2.2 h''))]

theorem three_same {α : Type} [LT α] [DecidableLT α] {a : α} (h : ¬ a < a) : three a a = 0 := by
  unfold three; rw [if_neg h, if_neg h]

/-- By the first thing, then by the rest. -/
theorem three_cons {α : Type} [LT α] [DecidableLT α] [DecidableEq α] [DecidableLT (List α)] (irr : ∀ x : α, ¬ x < x) (x y : α) (l m : List α) :
    three (x :: l) (y :: m) = if x = y then three l m else if x < y then -1 else if y < x then 1 else 0 := by
  by_cases e : x = y
  · subst e
    rw [if_pos rfl]
    refine three_congr ?_ ?_ <;> rw [List.cons_lt_cons_iff] <;> exact ⟨fun h => h.elim (fun h => absurd h (irr _)) (·.2), fun h => Or.inr ⟨rfl, h⟩⟩
  · rw [if_neg e]
    refine three_congr (α := List α) (β := α) (c := x) (d := y) ?_ ?_ |>.trans rfl <;> rw [List.cons_lt_cons_iff]
    · exact ⟨fun h => h.elim id (fun h => absurd h.1 e), Or.inl⟩
    · exact ⟨fun h => h.elim id (fun h => absurd h.1.symm e), Or.inl⟩

theorem bytes_lt : ∀ (l m : List UInt8), l.map (fun c => (c.toNat : Int)) < m.map (fun c => (c.toNat : Int)) ↔ l < m
  | [], [] => by simp
  | [], _ :: _ => by simp
  | _ :: _, [] => by simp
  | a :: l, b :: m => by
    rw [List.map_cons, List.map_cons, List.cons_lt_cons_iff, List.cons_lt_cons_iff, bytes_lt l m]
    have h1 : ((a.toNat : Int) < b.toNat) ↔ a < b := by rw [UInt8.lt_iff_toNat_lt]; omega
    have h2 : ((a.toNat : Int) = b.toNat) ↔ a = b := by
      constructor
      · intro h; exact UInt8.toNat_inj.1 (by omega)
      · rintro rfl; rfl
    rw [h1, h2]

theorem num_pad (k : Nat) (l : List UInt8) : num (List.replicate k 48 ++ l) = num l := by
  induction k with
  | zero => rfl
  | succ k ih => rw [List.replicate_succ, List.cons_append, num_zero, ih]

theorem digits_all {l : List UInt8} (h : digits l = true) : ∀ c ∈ l, 48 ≤ c.toNat ∧ c.toNat ≤ 57 := by
  intro c hc
  unfold digits at h
  rw [Bool.and_eq_true] at h
  have := List.all_eq_true.1 h.2 c hc
  simp [dig] at this
  exact this

/-- Two parts. -/
def cmpPart (a b : List UInt8) : Int := three (partKey a) (partKey b)

theorem irrI (x : Int) : ¬ x < x := Int.lt_irrefl x

theorem cmpPart_dn {a b : List UInt8} (ha : digits a = true) (hb : digits b = false) : cmpPart a b = -1 := by
  unfold cmpPart partKey
  rw [ha, hb, if_pos rfl, if_neg (by simp), three_cons irrI, if_neg (by decide), if_pos (by decide)]
theorem cmpPart_nd {a b : List UInt8} (ha : digits a = false) (hb : digits b = true) : cmpPart a b = 1 := by
  unfold cmpPart partKey
  rw [ha, hb, if_pos rfl, if_neg (by simp), three_cons irrI, if_neg (by decide), if_neg (by decide), if_pos (by decide)]
theorem cmpPart_nn {a b : List UInt8} (ha : digits a = false) (hb : digits b = false) : cmpPart a b = three a b := by
  unfold cmpPart partKey
  rw [ha, hb, if_neg (by simp), if_neg (by simp), three_cons irrI, if_pos rfl]
  exact three_congr (bytes_lt _ _) (bytes_lt _ _)
theorem cmpPart_dd {a b : List UInt8} (ha : digits a = true) (hb : digits b = true) (j k : Nat) (h : j + a.length = k + b.length) :
    cmpPart a b = three (List.replicate j 48 ++ a) (List.replicate k 48 ++ b) := by
  have h1 : ∀ c ∈ List.replicate j 48 ++ a, 48 ≤ (c : UInt8).toNat ∧ c.toNat ≤ 57 := by
    intro c hc
    rcases List.mem_append.1 hc with hc | hc
    · rw [List.mem_replicate] at hc; obtain ⟨_, rfl⟩ := hc; decide
    · exact digits_all ha c hc
  have h2 : ∀ c ∈ List.replicate k 48 ++ b, 48 ≤ (c : UInt8).toNat ∧ c.toNat ≤ 57 := by
    intro c hc
    rcases List.mem_append.1 hc with hc | hc
    · rw [List.mem_replicate] at hc; obtain ⟨_, rfl⟩ := hc; decide
    · exact digits_all hb c hc
  have hl : (List.replicate j 48 ++ a).length = (List.replicate k (48 : UInt8) ++ b).length := by simp; omega
  unfold cmpPart partKey
  rw [ha, hb, if_pos rfl, if_pos rfl, three_cons irrI, if_pos rfl]
  refine three_congr ?_ ?_
  · rw [num_order _ _ hl h1 h2, num_pad, num_pad, List.cons_lt_cons_iff]
    simp
  · rw [num_order _ _ hl.symm h2 h1, num_pad, num_pad, List.cons_lt_cons_iff]
    simp

/-- Parts one by one. -/
def cmpParts : List (List UInt8) → List (List UInt8) → Int
  | [], [] => 0
  | [], _ :: _ => -1
  | _ :: _, [] => 1
  | a :: l, b :: m => if cmpPart a b = 0 then cmpParts l m else cmpPart a b

theorem irrL (x : List Int) : ¬ x < x := List.lt_irrefl x

theorem cmpParts_key : ∀ l m : List (List UInt8), three (l.map partKey) (m.map partKey) = cmpParts l m
  | [], [] => by simp [three, cmpParts]
  | [], _ :: _ => by simp [three, cmpParts]
  | _ :: _, [] => by simp [three, cmpParts]
  | a :: l, b :: m => by
    have h0 : cmpPart a b = 0 ↔ partKey a = partKey b := by
      unfold cmpPart three
      constructor
      · intro h
        by_cases h1 : partKey a < partKey b
        · rw [if_pos h1] at h; omega
        · rw [if_neg h1] at h
          by_cases h2 : partKey b < partKey a
          · rw [if_pos h2] at h; omega
          · exact List.le_antisymm (List.not_lt.1 h2) (List.not_lt.1 h1)
      · intro h; rw [h, if_neg (irrL _), if_neg (irrL _)]
    rw [List.map_cons, List.map_cons, three_cons irrL, cmpParts, cmpParts_key l m]
    by_cases h : partKey a = partKey b
    · rw [if_pos h, if_pos (h0.2 h)]
    · rw [if_neg h, if_neg (fun h' => h (h0.1 h'))]
      rfl

theorem cmp_steps (v w : Ver) : cmp v w = if v.maj = w.maj then (if v.min = w.min then (if v.pat = w.pat then three (preKey v.pre) (preKey w.pre)
      else if v.pat < w.pat then -1 else if w.pat < v.pat then 1 else 0) else if v.min < w.min then -1 else if w.min < v.min then 1 else 0) else if v.maj < w.maj then -1 else if w.maj < v.maj then 1 else 0 := by
  have one : ∀ x y : Int, ([x] = [y]) = (x = y) := by intro x y; simp
  have lt1 : ∀ x y : Int, ([x] < [y]) = (x < y) := by intro x y; rw [List.cons_lt_cons_iff]; simp
  unfold cmp key
  rw [three_cons irrL, three_cons irrL, three_cons irrL]
  simp only [one, lt1]

theorem preKey_cases (p q : List UInt8) : three (preKey p) (preKey q) = if p = [] then (if q = [] then 0 else 1) else if q = [] then -1 else cmpParts (parts p) (parts q) := by
  unfold preKey
  by_cases h1 : p = []
  · rw [if_pos h1, if_pos h1]
    by_cases h2 : q = []
    · rw [if_pos h2, if_pos h2]; exact three_same (List.lt_irrefl _)
    · rw [if_neg h2, if_neg h2, three_cons irrL, if_neg (by decide), if_neg (by decide), if_pos (by decide)]
  · rw [if_neg h1, if_neg h1]
    by_cases h2 : q = []
    · rw [if_pos h2, if_pos h2, three_cons irrL, if_neg (by decide), if_pos (by decide)]
    · rw [if_neg h2, if_neg h2, three_cons irrL, if_pos rfl, cmpParts_key]

/-- Keys of parts that may be are unlike. -/
theorem part_digits_len {p : List UInt8} (h : part p = true) (hd : digits p = true) : p = [48] ∨ 10 ^ (p.length - 1) ≤ num p := by
  unfold part at h
  rw [hd] at h
  match p, h with
  | c :: r, h =>
    by_cases e : c :: r = [48]
    · exact Or.inl e
    · right
      have hc := digits_all hd c (by simp)
      have h48 : c.toNat ≠ 48 := by
        intro h'
        have : c = 48 := UInt8.toNat_inj.1 h'
        subst this
        simp at h e
        exact absurd h.2 e
      rw [num_cons, List.length_cons, Nat.add_sub_cancel]
      have : 1 * 10 ^ r.length ≤ (c.toNat - 48) * 10 ^ r.length := Nat.mul_le_mul_right _ (by omega)
      omega

theorem partKey_inj {p q : List UInt8} (hp : part p = true) (hq : part q = true) (h : partKey p = partKey q) : p = q := by
  unfold partKey at h
  cases hdp : digits p
  · cases hdq : digits q
    · rw [hdp, hdq, if_neg (by simp), if_neg (by simp)] at h
      simp only [List.cons.injEq, true_and] at h
      have : ∀ l m : List UInt8, l.map (fun c => (c.toNat : Int)) = m.map (fun c => (c.toNat : Int)) → l = m := by
        intro l
        induction l with
        | nil => intro m h; simpa using h
        | cons a l ih =>
          intro m h
          match m, h with
          | [], h => simp at h
          | b :: m, h =>
            simp only [List.map_cons, List.cons.injEq] at h
            rw [ih m h.2, UInt8.toNat_inj.1 (show a.toNat = b.toNat by omega)]
      exact this p q h
    · rw [hdp, hdq] at h; simp at h
  · cases hdq : digits q
    · rw [hdp, hdq] at h; simp at h
    · rw [hdp, hdq] at h
      have hn : num p = num q := by
        have h' : ((num p : Nat) : Int) = ((num q : Nat) : Int) := by simpa using h
        omega
      have n1 := num_lt p (digits_all hdp)
      have n2 := num_lt q (digits_all hdq)
      have hpl : 1 ≤ p.length := by
        cases p with
        | nil => simp [digits] at hdp
        | cons => simp
      have hql : 1 ≤ q.length := by
        cases q with
        | nil => simp [digits] at hdq
        | cons => simp
      have hlen : p.length = q.length := by
        rcases Nat.lt_trichotomy p.length q.length with h' | h' | h'
        · rcases part_digits_len hq hdq with e | e
          · rw [e, List.length_singleton] at h'; omega
          · have := Nat.pow_le_pow_right (n := 10) (by omega) (show p.length ≤ q.length - 1 by omega); omega
        · exact h'
        · rcases part_digits_len hp hdp with e | e
          · rw [e, List.length_singleton] at h'; omega
          · have := Nat.pow_le_pow_right (n := 10) (by omega) (show q.length ≤ p.length - 1 by omega); omega
      exact num_same hlen (digits_all hdp) (digits_all hdq) hn

theorem keys_inj : ∀ {l m : List (List UInt8)}, (∀ p ∈ l, part p = true) → (∀ p ∈ m, part p = true) → l.map partKey = m.map partKey → l = m
  | [], [], _, _, _ => rfl
  | [], _ :: _, _, _, h => by simp at h
  | _ :: _, [], _, _, h => by simp at h
  | a :: l, b :: m, hl, hm, h => by
    simp only [List.map_cons, List.cons.injEq] at h
    rw [partKey_inj (hl a (by simp)) (hm b (by simp)) h.1, keys_inj (fun p hp => hl p (by simp [hp])) (fun p hp => hm p (by simp [hp])) h.2]

theorem key_inj {v w : Ver} (hv : may v = true) (hw : may w = true) (h : key v = key w) : v = w := by
  rw [may_iff] at hv hw
  obtain ⟨a, b, c, p⟩ := v
  obtain ⟨a', b', c', q⟩ := w
  unfold key at h
  simp only [List.cons.injEq, and_true] at h
  obtain ⟨rfl, rfl, rfl, h⟩ := h
  have : p = q := by
    unfold preKey at h
    by_cases h1 : p = []
    · by_cases h2 : q = []
      · rw [h1, h2]
      · rw [if_pos h1, if_neg h2] at h; simp at h
    · by_cases h2 : q = []
      · rw [if_neg h1, if_pos h2] at h; simp at h
      · rw [if_neg h1, if_neg h2] at h
        simp only [List.cons.injEq, true_and] at h
        have e1 : (parts p).all part = true := by
          have := hv.2.2.2.2; unfold preOk at this; simpa [h1] using this
        have e2 : (parts q).all part = true := by
          have := hw.2.2.2.2; unfold preOk at this; simpa [h2] using this
        exact parts_inj (keys_inj (List.all_eq_true.1 e1) (List.all_eq_true.1 e2) h)
  rw [this]

end Sem
