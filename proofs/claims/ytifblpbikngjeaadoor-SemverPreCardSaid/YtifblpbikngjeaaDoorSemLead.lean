/- Mathematics of layer 4 for the laws: the highest one by one look, cores, the order of versions. -/
import Derived.Test.YtifblpbikngjeaaDoorSemOrd
namespace Sem

/-- No other one is above. -/
def top (l : List Ver) (v : Ver) : Bool := l.all fun u => decide (cmp u v ≤ 0)
/-- The first one that no other one is above. -/
def best (l : List Ver) : Option Ver := l.find? (top l)

theorem best_at {l : List Ver} {i : Nat} (hi : i < l.length) (h : top l l[i] = true) (hb : ∀ j (hj : j < l.length), j < i → top l l[j] = false) : best l = some l[i] := by
  unfold best
  rw [List.find?_eq_some_iff_getElem]
  exact ⟨h, i, hi, rfl, fun j hj => by simp [hb j (by omega) hj]⟩

theorem best_none {l : List Ver} (hb : ∀ j (hj : j < l.length), top l l[j] = false) : best l = none := by
  unfold best
  rw [List.find?_eq_none]
  intro v hv
  obtain ⟨j, hj, rfl⟩ := List.getElem_of_mem hv
  simp [hb j hj]

theorem cmp_turn (a b : Ver) : cmp b a = - cmp a b := three_turn
theorem cmp_same (a : Ver) : cmp a a = 0 := three_zero.2 rfl
theorem cmp_trans {a b c : Ver} (h1 : cmp a b ≤ 0) (h2 : cmp b c ≤ 0) : cmp a c ≤ 0 := three_trans h1 h2
theorem cmp_range (a b : Ver) : cmp a b = -1 ∨ cmp a b = 0 ∨ cmp a b = 1 := three_range _ _
theorem cmp_zero {a b : Ver} (ha : may a = true) (hb : may b = true) : cmp a b = 0 ↔ a = b :=
  ⟨fun h => key_inj ha hb (three_zero.1 h), fun h => by rw [h]; exact cmp_same b⟩

/-- Number i leads among the first k. -/
structure Lead (l : List Ver) (k i : Nat) : Prop where
  lt : i < k
  le : k ≤ l.length
  most : ∀ j (h : j < k), cmp (l[j]'(by omega)) (l[i]'(by omega)) ≤ 0
  first : ∀ j (h : j < i), cmp (l[j]'(by omega)) (l[i]'(by omega)) < 0

theorem lead_first {l : List Ver} (h : 0 < l.length) : Lead l 1 0 :=
  ⟨by omega, h, fun j hj => by obtain rfl : j = 0 := by omega
                               rw [cmp_same]; omega, fun j hj => absurd hj (by omega)⟩

theorem lead_keep {l : List Ver} {k i : Nat} (h : Lead l k i) (hk : k < l.length) (hc : cmp l[k] (l[i]'(by have := h.lt; omega)) ≤ 0) : Lead l (k + 1) i :=
  ⟨by have := h.lt; omega, hk, fun j hj => by
    rcases Nat.lt_succ_iff_lt_or_eq.1 hj with h' | rfl
    · exact h.most j h'
    · exact hc, h.first⟩

theorem lead_take {l : List Ver} {k i : Nat} (h : Lead l k i) (hk : k < l.length) (hc : 0 < cmp l[k] (l[i]'(by have := h.lt; omega))) : Lead l (k + 1) k := by
  have hi := h.lt
  have strict : ∀ j (hj : j < k), cmp (l[j]'(by omega)) l[k] < 0 := fun j hj => by
    have h1 := h.most j hj
    rcases Nat.lt_or_ge 0 (if cmp (l[j]'(by omega)) l[k] < 0 then 1 else 0) with h2 | h2
    · split at h2
      · assumption
      · omega
    · have h3 : ¬ cmp (l[j]'(by omega)) l[k] < 0 := by
        intro h'; rw [if_pos h'] at h2; omega
      have h4 : cmp l[k] (l[j]'(by omega)) ≤ 0 := by rw [cmp_turn]; omega
      have h5 := cmp_trans h4 h1
      omega
  exact ⟨by omega, hk, fun j hj => by
    rcases Nat.lt_succ_iff_lt_or_eq.1 hj with h' | rfl
    · exact Int.le_of_lt (strict j h')
    · rw [cmp_same]; omega, strict⟩

theorem lead_best {l : List Ver} {i : Nat} (h : Lead l l.length i) : best l = some (l[i]'h.lt) := by
  refine best_at h.lt ?_ fun j hj hji => ?_
  · unfold top
    rw [List.all_eq_true]
    intro v hv
    obtain ⟨j, hj, rfl⟩ := List.getElem_of_mem hv
    exact decide_eq_true (h.most j hj)
  · unfold top
    rw [List.all_eq_false]
    refine ⟨l[i]'h.lt, List.getElem_mem _, ?_⟩
    have h1 := h.first j hji
    have h2 := cmp_turn l[j] (l[i]'h.lt)
    simp only [decide_eq_true_eq]
    omega

/-- A version's core. -/
def core (v : Ver) : Ver := ⟨v.maj, v.min, v.pat, []⟩

theorem core_core (v : Ver) : core (core v) = core v := rfl

theorem pre_below {v : Ver} (h : v.pre ≠ []) : cmp v (core v) = -1 := by
  rw [cmp_steps]
  simp only [core, if_true]
  rw [preKey_cases, if_neg h, if_pos rfl]

theorem core_first {a b : Ver} (h : cmp (core b) (core a) ≠ 0) : cmp b a = cmp (core b) (core a) := by
  have e1 := cmp_steps b a
  have e2 : cmp (core b) (core a) = if b.maj = a.maj then (if b.min = a.min then (if b.pat = a.pat then three (preKey []) (preKey [])
      else if b.pat < a.pat then -1 else if a.pat < b.pat then 1 else 0) else if b.min < a.min then -1 else if a.min < b.min then 1 else 0) else if b.maj < a.maj then -1 else if a.maj < b.maj then 1 else 0 := cmp_steps (core b) (core a)
  rw [e2] at h ⊢
  rw [e1]
  by_cases h1 : b.maj = a.maj
  · simp only [if_pos h1] at h ⊢
    by_cases h2 : b.min = a.min
    · simp only [if_pos h2] at h ⊢
      by_cases h3 : b.pat = a.pat
      · simp only [if_pos h3] at h
        rw [preKey_cases, if_pos rfl, if_pos rfl] at h
        exact absurd rfl h
      · simp only [if_neg h3]
    · simp only [if_neg h2]
  · simp only [if_neg h1]

/-- Two tops: the core is the highest of a version with something behind the - and its core. -/
theorem best_core {a : Ver} (h : a.pre ≠ []) : best [a, core a] = some (core a) := by
  have h1 := pre_below h
  have h2 : cmp (core a) a = 1 := by rw [cmp_turn, h1]; rfl
  exact lead_best (l := [a, core a]) (i := 1) (lead_take (lead_first (by simp)) (by simp) (by show 0 < cmp (core a) a; omega))

theorem may_core {v : Ver} (h : may v = true) : may (core v) = true := by
  rw [may_iff] at h ⊢
  exact ⟨h.1, h.2.1, h.2.2.1, by simp [core], by simp [core, preOk]⟩

end Sem
