/- ShpMath, ShpMath2, ShpMath3, together. -/
import Derived.Test.YtkehnmapnckdgaaDoorGPure
/- Layer 7: types as trees: what the document says of them. -/
set_option linter.unusedVariables false
namespace Shp

structure Sh where
  kind : Int
  of_ : List UInt8
  name : List UInt8
  names : List (List UInt8)
  parts : List Sh

mutual
def size : Sh → Nat
  | ⟨_, _, _, _, ps⟩ => 1 + sizes ps
def sizes : List Sh → Nat
  | [] => 0
  | p :: ps => size p + sizes ps
end

mutual
def deep : Sh → Nat
  | ⟨_, _, _, _, ps⟩ => deeps ps + 1
def deeps : List Sh → Nat
  | [] => 0
  | p :: ps => max (deep p) (deeps ps)
end

theorem size_eq (t : Sh) : size t = 1 + sizes t.parts := by cases t; rfl
theorem deep_eq (t : Sh) : deep t = deeps t.parts + 1 := by cases t; rfl
theorem size_pos (t : Sh) : 1 ≤ size t := by rw [size_eq]; omega
theorem sizes_mem {l : List Sh} {p : Sh} (h : p ∈ l) : size p ≤ sizes l := by
  induction l with
  | nil => cases h
  | cons a l ih =>
    rcases List.mem_cons.1 h with rfl | h
    · simp [sizes]
    · have := ih h; simp [sizes]; omega
theorem deeps_mem {l : List Sh} {p : Sh} (h : p ∈ l) : deep p ≤ deeps l := by
  induction l with
  | nil => cases h
  | cons a l ih =>
    rcases List.mem_cons.1 h with rfl | h
    · simp [deeps]; omega
    · have := ih h; simp [deeps]; omega

/-- From the parts to the whole. -/
theorem Sh.ind {P : Sh → Prop} (h : ∀ t, (∀ p ∈ t.parts, P p) → P t) (t : Sh) : P t := by
  have : ∀ n t, size t ≤ n → P t := by
    intro n
    induction n with
    | zero => intro t ht; have := size_pos t; omega
    | succ n ih =>
      intro t ht
      refine h t (fun p hp => ih p ?_)
      have := sizes_mem hp
      rw [size_eq] at ht
      omega
  exact this _ t (Nat.le_refl _)

theorem sizes_append (l m : List Sh) : sizes (l ++ m) = sizes l + sizes m := by
  induction l with
  | nil => simp [sizes]
  | cons a l ih => simp [sizes, ih]; omega
theorem deeps_append (l m : List Sh) : deeps (l ++ m) = max (deeps l) (deeps m) := by
  induction l with
  | nil => simp [deeps]
  | cons a l ih => simp [deeps, ih, Nat.max_assoc]
theorem take_next {α : Type} {l : List α} {i : Nat} (h : i < l.length) : l.take (i + 1) = l.take i ++ [l[i]'h] := by rw [List.take_succ_eq_append_getElem h]
theorem sizes_next {l : List Sh} {i : Nat} (h : i < l.length) : sizes (l.take (i + 1)) = sizes (l.take i) + size (l[i]'h) := by rw [take_next h, sizes_append]; simp [sizes]
theorem deeps_next {l : List Sh} {i : Nat} (h : i < l.length) : deeps (l.take (i + 1)) = max (deeps (l.take i)) (deep (l[i]'h)) := by rw [take_next h, deeps_append]; simp [deeps]
theorem sizes_take (l : List Sh) (i : Nat) : sizes (l.take i) ≤ sizes l := by
  have := sizes_append (l.take i) (l.drop i)
  rw [List.take_append_drop] at this
  omega
theorem deeps_take (l : List Sh) (i : Nat) : deeps (l.take i) ≤ deeps l := by
  have := deeps_append (l.take i) (l.drop i)
  rw [List.take_append_drop] at this
  omega
theorem length_sizes (l : List Sh) : l.length ≤ sizes l := by
  induction l with
  | nil => simp
  | cons a l ih => have := size_pos a; simp [sizes]; omega
theorem deep_size (t : Sh) : deep t ≤ size t := by
  induction t using Sh.ind with
  | h t ih =>
    rw [deep_eq, size_eq]
    have : ∀ l : List Sh, (∀ p ∈ l, deep p ≤ size p) → deeps l ≤ sizes l := by
      intro l
      induction l with
      | nil => simp [deeps]
      | cons a l ihl =>
        intro h
        have h1 := h a (by simp)
        have h2 := ihl (fun p hp => h p (by simp [hp]))
        simp [deeps, sizes]; omega
    have := this _ ih
    omega
/-- Size with a bound. -/
def sizeTo (m : Nat) (t : Sh) : Nat := min (size t) (m + 1)

/-! ### What fits -/
def noDup : List (List UInt8) → Bool
  | [] => true
  | x :: l => !l.contains x && noDup l
def areNames (l : List (List UInt8)) : Bool := l.all Lex.isName && noDup l
def plain (s : List UInt8) : Bool := s == [73, 110, 116] || s == [66, 111, 111, 108] || s == [84, 101, 120, 116] || s == [65, 110, 121]
def bare (t : Sh) : Bool := t.of_ == [] && t.name == []
def fits (t : Sh) : Bool :=
  if t.kind = 9 ∨ t.kind = 10 then Lex.isUpper t.name && (Lex.isName t.of_ || (t.of_ == [] && decide (t.kind = 9) && !plain t.name)) && decide (t.names.length = 0) && decide (t.parts.length = 0)
  else if bare t = false then false
  else if t.kind = 6 ∨ t.kind = 7 then areNames t.names && decide (t.names.length = t.parts.length)
  else if 0 < t.names.length then false
  else if t.kind = 8 then decide (1 ≤ t.parts.length)
  else if t.kind = 5 then decide (t.parts.length = 1)
  else decide (1 ≤ t.kind) && decide (t.kind ≤ 4) && decide (t.parts.length = 0)

mutual
def right : Sh → Bool
  | ⟨k, o, n, ns, ps⟩ => fits ⟨k, o, n, ns, ps⟩ && rights ps
def rights : List Sh → Bool
  | [] => true
  | p :: ps => right p && rights ps
end
theorem right_eq (t : Sh) : right t = (fits t && rights t.parts) := by cases t; rfl
theorem rights_all (l : List Sh) : rights l = l.all right := by
  induction l with
  | nil => rfl
  | cons a l ih => simp [rights, ih]
mutual
def opened : Sh → Bool
  | ⟨k, _, _, _, ps⟩ => decide (k = 9) || openeds ps
def openeds : List Sh → Bool
  | [] => false
  | p :: ps => opened p || openeds ps
end
theorem opened_eq (t : Sh) : opened t = (decide (t.kind = 9) || openeds t.parts) := by cases t; rfl
theorem openeds_any (l : List Sh) : openeds l = l.any opened := by
  induction l with
  | nil => rfl
  | cons a l ih => simp [openeds, ih]

def check (t : Sh) : Int := if 400 < size t then 3 else if 40 < deep t then 91 else if right t = false then 70 else 0
def closed (t : Sh) : Bool := decide (check t = 0) && !opened t

/-! ### The order -/
abbrev Fld := List UInt8 × Sh
def ins (x : Fld) : List Fld → List Fld
  | [] => [x]
  | y :: l => if y.1 < x.1 then y :: ins x l else x :: y :: l
def sortF (l : List Fld) : List Fld := l.foldl (fun a x => ins x a) []
mutual
def sorted : Sh → Sh
  | ⟨k, o, n, ns, ps⟩ => if ns = [] then ⟨k, o, n, [], sorteds ps⟩ else ⟨k, o, n, (sortF (ns.zip (sorteds ps))).map Prod.fst, (sortF (ns.zip (sorteds ps))).map Prod.snd⟩
def sorteds : List Sh → List Sh
  | [] => []
  | p :: ps => sorted p :: sorteds ps
end
theorem sorteds_map (l : List Sh) : sorteds l = l.map sorted := by
  induction l with
  | nil => rfl
  | cons a l ih => simp [sorteds, ih]
theorem sorted_eq (t : Sh) : sorted t = if t.names = [] then ⟨t.kind, t.of_, t.name, [], t.parts.map sorted⟩ else ⟨t.kind, t.of_, t.name, (sortF (t.names.zip (t.parts.map sorted))).map Prod.fst, (sortF (t.names.zip (t.parts.map sorted))).map Prod.snd⟩ := by
  cases t with
  | mk k o n ns ps => rw [← sorteds_map]; rfl

/-! ### Just the same -/
mutual
def eqB : Sh → Sh → Bool
  | ⟨k, o, n, ns, ps⟩, ⟨k', o', n', ns', ps'⟩ => k == k' && o == o' && n == n' && ns == ns' && eqs ps ps'
def eqs : List Sh → List Sh → Bool
  | [], [] => true
  | p :: ps, q :: qs => eqB p q && eqs ps qs
  | [], _ :: _ => false
  | _ :: _, [] => false
end
theorem eqB_eq (t u : Sh) : eqB t u = (t.kind == u.kind && t.of_ == u.of_ && t.name == u.name && t.names == u.names && eqs t.parts u.parts) := by cases t; cases u; rfl
theorem eqs_iff_of {l : List Sh} (h : ∀ p ∈ l, ∀ u, eqB p u = true ↔ p = u) : ∀ m, eqs l m = true ↔ l = m := by
  induction l with
  | nil => intro m; cases m <;> simp [eqs]
  | cons a l ih =>
    intro m
    cases m with
    | nil => simp [eqs]
    | cons b m => simp [eqs, h a (by simp) b, ih (fun p hp => h p (by simp [hp])) m]
theorem eqB_iff (t u : Sh) : eqB t u = true ↔ t = u := by
  induction t using Sh.ind generalizing u with
  | h t ih =>
    rw [eqB_eq]
    cases t; cases u
    simp [eqs_iff_of ih, and_assoc]
theorem eqs_iff (l m : List Sh) : eqs l m = true ↔ l = m := eqs_iff_of (fun p _ u => eqB_iff p u) m
theorem eqB_refl (t : Sh) : eqB t t = true := (eqB_iff t t).2 rfl
theorem eqB_off {t u : Sh} (h : t ≠ u) : eqB t u = false := by
  cases e : eqB t u with
  | false => rfl
  | true => exact absurd ((eqB_iff t u).1 e) h
def same (t u : Sh) : Bool := decide (check t = 0) && decide (check u = 0) && eqB (sorted t) (sorted u)

/-! ### The text -/
def field (n t : List UInt8) : List UInt8 := n ++ [58, 32] ++ t
def fields (ns ts : List (List UInt8)) : List (List UInt8) := if ns = [] then ts else List.zipWith field ns ts
def named (t : Sh) : List UInt8 := if t.of_ = [] then t.name else t.of_ ++ [47] ++ t.name
def join (sep : List UInt8) (l : List (List UInt8)) : List UInt8 := sep.intercalate l
def textOf (k : Int) (o n : List UInt8) (ns ts : List (List UInt8)) : List UInt8 :=
  if k = 1 then [73, 110, 116] else if k = 2 then [66, 111, 111, 108] else if k = 3 then [84, 101, 120, 116] else if k = 4 then [65, 110, 121]
  else if k = 5 then [91] ++ ts.headD [] ++ [93]
  else if k = 6 then [123] ++ join [44, 32] (fields ns ts) ++ [125]
  else if k = 7 then [60] ++ join [32, 124, 32] (fields ns ts) ++ [62]
  else if k = 8 then [40] ++ join [44, 32] ts.dropLast ++ [41, 32, 45, 62, 32] ++ ts.getLastD []
  else if o = [] then n else o ++ [47] ++ n
mutual
def text : Sh → List UInt8
  | ⟨k, o, n, ns, ps⟩ => textOf k o n ns (texts ps)
def texts : List Sh → List (List UInt8)
  | [] => []
  | p :: ps => text p :: texts ps
end
theorem texts_map (l : List Sh) : texts l = l.map text := by
  induction l with
  | nil => rfl
  | cons a l ih => simp [texts, ih]
theorem text_eq (t : Sh) : text t = textOf t.kind t.of_ t.name t.names (t.parts.map text) := by
  cases t; rw [← texts_map]; rfl

/-! ### The other way round -/
mutual
def turned : Sh → Sh
  | ⟨k, o, n, ns, ps⟩ => if ns = [] then ⟨k, o, n, [], turneds ps⟩ else ⟨k, o, n, ns.reverse, (turneds ps).reverse⟩
def turneds : List Sh → List Sh
  | [] => []
  | p :: ps => turned p :: turneds ps
end
theorem turneds_map (l : List Sh) : turneds l = l.map turned := by
  induction l with
  | nil => rfl
  | cons a l ih => simp [turneds, ih]
theorem turned_eq (t : Sh) : turned t = if t.names = [] then ⟨t.kind, t.of_, t.name, [], t.parts.map turned⟩ else ⟨t.kind, t.of_, t.name, t.names.reverse, (t.parts.map turned).reverse⟩ := by
  cases t with
  | mk k o n ns ps => rw [← turneds_map]; rfl
end Shp

/- Layer 7: names that stand together; what a part's fields are. -/
set_option linter.unusedVariables false
namespace Shp
theorem deeps_sizes (l : List Sh) : deeps l ≤ sizes l := by
  induction l with
  | nil => simp [deeps]
  | cons a l ih => have := deep_size a; simp [deeps, sizes]; omega
theorem noDup_iff (l : List (List UInt8)) : noDup l = true ↔ l.Nodup := by
  induction l with
  | nil => simp [noDup]
  | cons a l ih => simp [noDup, ih]
theorem areNames_iff (l : List (List UInt8)) : areNames l = true ↔ (∀ x ∈ l, Lex.isName x = true) ∧ l.Nodup := by
  simp [areNames, noDup_iff]
theorem areNames_off {l : List (List UInt8)} {i : Nat} (hi : i < l.length) (h : Lex.isName (l[i]'hi) = false) : areNames l = false := by
  cases e : areNames l with
  | false => rfl
  | true => rw [((areNames_iff l).1 e).1 _ (List.getElem_mem hi)] at h; cases h
theorem areNames_twice {l : List (List UInt8)} {i k : Nat} (hi : i < l.length) (hk : k < i) (h : l[k]'(by omega) = l[i]'hi) : areNames l = false := by
  cases e : areNames l with
  | false => rfl
  | true =>
    have := ((areNames_iff l).1 e).2
    have := (List.pairwise_iff_getElem.1 this) k i (by omega) hi hk
    exact absurd h this
theorem areNames_on {l : List (List UInt8)} (h1 : ∀ i (hi : i < l.length), Lex.isName (l[i]'hi) = true) (h2 : ∀ i (hi : i < l.length), ∀ k (hk : k < i), l[k]'(by omega) ≠ l[i]'hi) : areNames l = true := by
  refine (areNames_iff l).2 ⟨fun x hx => ?_, ?_⟩
  · obtain ⟨i, hi, rfl⟩ := List.getElem_of_mem hx; exact h1 i hi
  · exact List.pairwise_iff_getElem.2 (fun k i hk hi hki => h2 i hi k hki)

/-! ### What fits, kind by kind -/
/-- Of a name. -/
def ofOk (t : Sh) : Bool := Lex.isName t.of_ || (t.of_ == [] && decide (t.kind = 9) && !plain t.name)
theorem fits_name {t : Sh} (h : t.kind = 9 ∨ t.kind = 10) : fits t = (Lex.isUpper t.name && ofOk t && decide (t.names.length = 0) && decide (t.parts.length = 0)) := by unfold fits ofOk; rw [if_pos h]
theorem fits_full {t : Sh} (h : ¬ (t.kind = 9 ∨ t.kind = 10)) (hb : bare t = false) : fits t = false := by unfold fits; rw [if_neg h, if_pos hb]
theorem fits_rec {t : Sh} (hb : bare t = true) (h : t.kind = 6 ∨ t.kind = 7) : fits t = (areNames t.names && decide (t.names.length = t.parts.length)) := by
  unfold fits; rw [if_neg (by omega), if_neg (by rw [hb]; decide), if_pos h]
theorem fits_more {t : Sh} (h : ¬ (t.kind = 9 ∨ t.kind = 10)) (hb : bare t = true) (h2 : ¬ (t.kind = 6 ∨ t.kind = 7)) (h3 : 0 < t.names.length) : fits t = false := by
  unfold fits; rw [if_neg h, if_neg (by rw [hb]; decide), if_neg h2, if_pos h3]
theorem fits_fun {t : Sh} (hb : bare t = true) (h : t.kind = 8) (h3 : ¬ 0 < t.names.length) : fits t = decide (1 ≤ t.parts.length) := by
  unfold fits; rw [if_neg (by omega), if_neg (by rw [hb]; decide), if_neg (by omega), if_neg h3, if_pos h]
theorem fits_list {t : Sh} (hb : bare t = true) (h : t.kind = 5) (h3 : ¬ 0 < t.names.length) : fits t = decide (t.parts.length = 1) := by
  unfold fits; rw [if_neg (by omega), if_neg (by rw [hb]; decide), if_neg (by omega), if_neg h3, if_neg (by omega), if_pos h]
theorem fits_rest {t : Sh} (hb : bare t = true) (h : ¬ (t.kind = 9 ∨ t.kind = 10)) (h2 : ¬ (t.kind = 6 ∨ t.kind = 7)) (h3 : ¬ 0 < t.names.length) (h4 : t.kind ≠ 8) (h5 : t.kind ≠ 5) :
    fits t = (decide (1 ≤ t.kind) && decide (t.kind ≤ 4) && decide (t.parts.length = 0)) := by
  unfold fits; rw [if_neg h, if_neg (by rw [hb]; decide), if_neg h2, if_neg h3, if_neg h4, if_neg h5]
theorem bare_iff (t : Sh) : bare t = true ↔ t.of_ = [] ∧ t.name = [] := by simp [bare]
theorem bare_of {t : Sh} (h : (t.of_ == []) = false) : bare t = false := by simp [bare, h]
theorem bare_name {t : Sh} (h : (t.name == []) = false) : bare t = false := by simp [bare, h]
theorem right_fits {t : Sh} (h : right t = true) : fits t = true := by rw [right_eq, Bool.and_eq_true] at h; exact h.1
theorem right_part {t p : Sh} (h : right t = true) (hp : p ∈ t.parts) : right p = true := by
  rw [right_eq, rights_all, Bool.and_eq_true, List.all_eq_true] at h; exact h.2 p hp
theorem right_on {t : Sh} (h : fits t = true) (hp : ∀ p ∈ t.parts, right p = true) : right t = true := by
  rw [right_eq, rights_all, Bool.and_eq_true, List.all_eq_true]; exact ⟨h, hp⟩
theorem right_off {t p : Sh} (hp : p ∈ t.parts) (h : right p = false) : right t = false := by
  cases e : right t with
  | false => rfl
  | true => rw [right_part e hp] at h; cases h
end Shp

/- Layer 7: the texts of types that may be, and how long they are. -/
set_option linter.unusedVariables false
namespace Shp
theorem isName_len {s : List UInt8} (h : Lex.isName s = true) : s.length ≤ 24 := by
  cases s with
  | nil => simp
  | cons c r =>
    have : Lex.isName (c :: r) = (decide ((c :: r).length ≤ 24) && Lex.small c && (c :: r).all Lex.nameB && !Lex.isWord (c :: r)) := rfl
    rw [this] at h
    simp only [Bool.and_eq_true, decide_eq_true_eq] at h
    exact h.1.1.1
theorem isUpper_len {s : List UInt8} (h : Lex.isUpper s = true) : s.length ≤ 24 := by
  cases s with
  | nil => simp
  | cons c r =>
    have : Lex.isUpper (c :: r) = (decide ((c :: r).length ≤ 24) && Lex.great c && (c :: r).all Lex.nameB) := rfl
    rw [this] at h
    simp only [Bool.and_eq_true, decide_eq_true_eq] at h
    exact h.1.1
/-- What a type that fits has of its own. -/
theorem fits_kinds {t : Sh} (h : fits t = true) :
    (1 ≤ t.kind ∧ t.kind ≤ 4 ∧ t.names = [] ∧ t.parts = []) ∨ (t.kind = 5 ∧ t.names = [] ∧ t.parts.length = 1) ∨ ((t.kind = 6 ∨ t.kind = 7) ∧ t.names.length = t.parts.length ∧ areNames t.names = true) ∨
    (t.kind = 8 ∧ t.names = [] ∧ 1 ≤ t.parts.length) ∨ ((t.kind = 9 ∨ t.kind = 10) ∧ t.names = [] ∧ t.parts = [] ∧ t.name.length ≤ 24 ∧ t.of_.length ≤ 24) := by
  by_cases h9 : t.kind = 9 ∨ t.kind = 10
  · rw [fits_name h9] at h
    simp only [Bool.and_eq_true, decide_eq_true_eq] at h
    obtain ⟨⟨⟨h1, h2⟩, h3⟩, h4⟩ := h
    refine Or.inr (Or.inr (Or.inr (Or.inr ⟨h9, List.eq_nil_of_length_eq_zero h3, List.eq_nil_of_length_eq_zero h4, isUpper_len h1, ?_⟩)))
    unfold ofOk at h2
    cases hn : Lex.isName t.of_ with
    | true => exact isName_len hn
    | false =>
      rw [hn] at h2
      simp at h2
      rw [h2.1.1]; simp
  · cases hb : bare t with
    | false => rw [fits_full h9 hb] at h; cases h
    | true =>
      by_cases h6 : t.kind = 6 ∨ t.kind = 7
      · rw [fits_rec hb h6, Bool.and_eq_true, decide_eq_true_eq] at h
        exact Or.inr (Or.inr (Or.inl ⟨h6, h.2, h.1⟩))
      · by_cases hz : 0 < t.names.length
        · rw [fits_more h9 hb h6 hz] at h; cases h
        · have hn : t.names = [] := List.eq_nil_of_length_eq_zero (by omega)
          by_cases h8 : t.kind = 8
          · rw [fits_fun hb h8 hz, decide_eq_true_eq] at h
            exact Or.inr (Or.inr (Or.inr (Or.inl ⟨h8, hn, h⟩)))
          · by_cases h5 : t.kind = 5
            · rw [fits_list hb h5 hz, decide_eq_true_eq] at h
              exact Or.inr (Or.inl ⟨h5, hn, h⟩)
            · rw [fits_rest hb h9 h6 hz h8 h5] at h
              simp only [Bool.and_eq_true, decide_eq_true_eq] at h
              exact Or.inl ⟨h.1.1, h.1.2, hn, List.eq_nil_of_length_eq_zero h.2⟩
theorem areNames_len {l : List (List UInt8)} (h : areNames l = true) : ∀ x ∈ l, x.length ≤ 24 := fun x hx => isName_len (((areNames_iff l).1 h).1 x hx)

/-! ### How long a text is -/
def total (l : List (List UInt8)) : Nat := (l.map List.length).sum
theorem join_len (sep : List UInt8) (l : List (List UInt8)) : (join sep l).length ≤ total l + sep.length * l.length := by
  unfold join total
  match l with
  | [] => simp [List.intercalate]
  | [a] => simp [List.intercalate]
  | a :: b :: r =>
    have ih := join_len sep (b :: r)
    unfold join total at ih
    have e : sep.intercalate (a :: b :: r) = a ++ sep ++ sep.intercalate (b :: r) := by simp [List.intercalate]
    rw [e]
    simp only [List.length_append, List.map_cons, List.sum_cons, List.length_cons] at ih ⊢
    rw [Nat.mul_succ]
    omega
theorem total_take (l : List (List UInt8)) (i : Nat) : total (l.take i) ≤ total l := by
  induction l generalizing i with
  | nil => simp
  | cons a l ih => cases i with
    | zero => simp [total]
    | succ i => have := ih i; simp [total] at this ⊢; omega
theorem total_fields {ns ts : List (List UInt8)} (h : ∀ x ∈ ns, x.length ≤ 24) : total (List.zipWith field ns ts) ≤ total ts + 26 * ts.length := by
  induction ns generalizing ts with
  | nil => simp [total]
  | cons n ns ih =>
    cases ts with
    | nil => simp [total]
    | cons t ts =>
      have h1 := h n (by simp)
      have h2 := ih (ts := ts) (fun x hx => h x (by simp [hx]))
      simp [total, field] at h2 ⊢
      omega
theorem total_texts {l : List Sh} (h : ∀ p ∈ l, (text p).length + 29 ≤ 100 * size p) : total (l.map text) + 29 * l.length ≤ 100 * sizes l := by
  induction l with
  | nil => simp [total, sizes]
  | cons a l ih =>
    have h1 := h a (by simp)
    have h2 := ih (fun p hp => h p (by simp [hp]))
    simp [total, sizes] at h2 ⊢
    omega
theorem total_mem {l : List (List UInt8)} {x : List UInt8} (h : x ∈ l) : x.length ≤ total l := by
  induction l with
  | nil => cases h
  | cons a l ih =>
    rcases List.mem_cons.1 h with rfl | h
    · simp [total]
    · have := ih h; simp [total] at this ⊢; omega
theorem total_append (l m : List (List UInt8)) : total (l ++ m) = total l + total m := by simp [total]

theorem text_kind_1 {t : Sh} (h : t.kind = 1) : text t = [73, 110, 116] := by rw [text_eq]; unfold textOf; rw [if_pos h]
theorem text_kind_2 {t : Sh} (h : t.kind = 2) : text t = [66, 111, 111, 108] := by rw [text_eq]; unfold textOf; rw [if_neg (by omega), if_pos h]
theorem text_kind_3 {t : Sh} (h : t.kind = 3) : text t = [84, 101, 120, 116] := by rw [text_eq]; unfold textOf; rw [if_neg (by omega), if_neg (by omega), if_pos h]
theorem text_kind_4 {t : Sh} (h : t.kind = 4) : text t = [65, 110, 121] := by rw [text_eq]; unfold textOf; rw [if_neg (by omega), if_neg (by omega), if_neg (by omega), if_pos h]
theorem text_kind_5 {t : Sh} (h : t.kind = 5) : text t = [91] ++ (t.parts.map text).headD [] ++ [93] := by
  rw [text_eq]; unfold textOf; rw [if_neg (by omega), if_neg (by omega), if_neg (by omega), if_neg (by omega), if_pos h]
theorem text_kind_6 {t : Sh} (h : t.kind = 6) : text t = [123] ++ join [44, 32] (fields t.names (t.parts.map text)) ++ [125] := by
  rw [text_eq]; unfold textOf; rw [if_neg (by omega), if_neg (by omega), if_neg (by omega), if_neg (by omega), if_neg (by omega), if_pos h]
theorem text_kind_7 {t : Sh} (h : t.kind = 7) : text t = [60] ++ join [32, 124, 32] (fields t.names (t.parts.map text)) ++ [62] := by
  rw [text_eq]; unfold textOf; rw [if_neg (by omega), if_neg (by omega), if_neg (by omega), if_neg (by omega), if_neg (by omega), if_neg (by omega), if_pos h]
theorem text_kind_8 {t : Sh} (h : t.kind = 8) : text t = [40] ++ join [44, 32] (t.parts.map text).dropLast ++ [41, 32, 45, 62, 32] ++ (t.parts.map text).getLastD [] := by
  rw [text_eq]; unfold textOf; rw [if_neg (by omega), if_neg (by omega), if_neg (by omega), if_neg (by omega), if_neg (by omega), if_neg (by omega), if_neg (by omega), if_pos h]
theorem text_kind_9 {t : Sh} (h : t.kind = 9 ∨ t.kind = 10) : text t = named t := by
  rw [text_eq]; unfold textOf named
  rw [if_neg (by omega), if_neg (by omega), if_neg (by omega), if_neg (by omega), if_neg (by omega), if_neg (by omega), if_neg (by omega), if_neg (by omega)]

theorem fields_total {t : Sh} (hn : t.names.length = t.parts.length) (ha : areNames t.names = true) : total (fields t.names (t.parts.map text)) ≤ total (t.parts.map text) + 26 * t.parts.length ∧ (fields t.names (t.parts.map text)).length = t.parts.length := by
  unfold fields
  by_cases hz : t.names = []
  · rw [if_pos hz]; exact ⟨by omega, by simp⟩
  · rw [if_neg hz]
    exact ⟨by have := total_fields (ts := t.parts.map text) (areNames_len ha); rwa [List.length_map] at this, by simp [hn]⟩

theorem text_len {t : Sh} (h : right t = true) : (text t).length + 29 ≤ 100 * size t := by
  induction t using Sh.ind with
  | h t ih =>
    have hp := total_texts (l := t.parts) (fun p hp => ih p hp (right_part h hp))
    rw [size_eq]
    rcases fits_kinds (right_fits h) with ⟨h1, h2, _, _⟩ | ⟨h5, _, _⟩ | ⟨h6, hn, ha⟩ | ⟨h8, _, _⟩ | ⟨h9, _, _, hl, ho⟩
    · have : t.kind = 1 ∨ t.kind = 2 ∨ t.kind = 3 ∨ t.kind = 4 := by omega
      rcases this with h | h | h | h
      · rw [text_kind_1 h]; simp; omega
      · rw [text_kind_2 h]; simp; omega
      · rw [text_kind_3 h]; simp; omega
      · rw [text_kind_4 h]; simp; omega
    · rw [text_kind_5 h5]
      have : ((t.parts.map text).headD []).length ≤ total (t.parts.map text) := by
        cases t.parts.map text with
        | nil => simp
        | cons a l => exact total_mem (by simp)
      simp only [List.length_append, List.length_cons, List.length_nil]
      omega
    · obtain ⟨hf, hl⟩ := fields_total hn ha
      rcases h6 with h | h
      · rw [text_kind_6 h]
        have := join_len [44, 32] (fields t.names (t.parts.map text))
        simp only [List.length_append, List.length_cons, List.length_nil] at this ⊢
        omega
      · rw [text_kind_7 h]
        have := join_len [32, 124, 32] (fields t.names (t.parts.map text))
        simp only [List.length_append, List.length_cons, List.length_nil] at this ⊢
        omega
    · rw [text_kind_8 h8]
      have h1 := join_len [44, 32] (t.parts.map text).dropLast
      have h3 : total (t.parts.map text).dropLast + ((t.parts.map text).getLastD []).length ≤ total (t.parts.map text) := by
        rcases List.eq_nil_or_concat (t.parts.map text) with e | ⟨l, a, e⟩
        · rw [e]; simp [total]
        · rw [e, List.concat_eq_append, List.dropLast_concat, total_append]; simp [total]
      have h4 : (t.parts.map text).dropLast.length ≤ t.parts.length := by simp
      simp only [List.length_append, List.length_cons, List.length_nil] at h1 ⊢
      omega
    · rw [text_kind_9 h9]
      unfold named
      split
      · omega
      · simp only [List.length_append, List.length_cons, List.length_nil]; omega
theorem text_small {t : Sh} (h : right t = true) (hz : size t ≤ 400) : (text t).length ≤ 40000 := by have := text_len h; omega
end Shp
