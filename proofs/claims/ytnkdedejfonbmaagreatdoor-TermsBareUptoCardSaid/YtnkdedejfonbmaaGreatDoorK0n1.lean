/- What the proofs of TermsBare, TermsChecks, TermsDeep, TermsSame, TermsSames want, part 1. -/
import Derived.Test.YtnkdedejfonbmaaGreatDoorRows
import Derived.WalkKit
import Derived.Below
import Derived.Lib.Hide
import Derived.Lib.Strings
import Derived.Lib.Builder
import Derived.Deep.QuietTactic
import Derived.BigQuiet
import Derived.Laws.Cover1
import Derived.SliceStrings
import Derived.SizedLaws
import Derived.OpenShut
import Derived.Deep.AppendLies
import Derived.StillTailTactics
import Derived.IntWalk
import Derived.Laws.Strings
import Derived.Deep.Slices
import Derived.Deep.Fields
import Derived.ChangeSame
import Derived.Test.YtnkdedejfonbmaaGreatDoorK0n0
set_option linter.unusedVariables false
set_option linter.unusedSimpArgs false
set_option maxRecDepth 100000
set_option maxHeartbeats 16000000
namespace Tms
open Shp (Sh Z0C)
structure Tm where
 kind : Int
 of_ : List UInt8
 name : List UInt8
 n : Int
 names : List (List UInt8)
 vars : List (List UInt8)
 shapes : List Sh
 parts : List Tm
 at_ : Int
mutual
def size : Tm -> Nat
 | ⟨_, _, _, _, _, _, _, ps, _⟩ => 1 + sizes ps
def sizes : List Tm -> Nat
 | [] => 0
 | p :: ps => size p + sizes ps
end
mutual
def deep : Tm -> Nat
 | ⟨_, _, _, _, _, _, _, ps, _⟩ => deeps ps + 1
def deeps : List Tm -> Nat
 | [] => 0
 | p :: ps => max (deep p) (deeps ps)
end
theorem size_eq (t : Tm) : size t = 1 + sizes t.parts := by cases t; rfl
theorem deep_eq (t : Tm) : deep t = deeps t.parts + 1 := by cases t; rfl
theorem size_pos (t : Tm) : 1 <= size t := by rw [size_eq]; omega
theorem sizes_mem {l : List Tm} {p : Tm} (h : p ∈ l) : size p <= sizes l := by
 induction l with
 | nil => cases h
 | cons a l ih =>
  rcases List.mem_cons.1 h with rfl | h
  {simp [sizes]}
  {have := ih h; simp [sizes]; omega}
theorem deeps_mem {l : List Tm} {p : Tm} (h : p ∈ l) : deep p <= deeps l := by
 induction l with
 | nil => cases h
 | cons a l ih =>
  rcases List.mem_cons.1 h with rfl | h
  {simp [deeps]; omega}
  {have := ih h; simp [deeps]; omega}
theorem Tm.ind {P : Tm -> Prop} (h : ∀ t, (∀ p ∈ t.parts, P p) -> P t) (t : Tm) : P t := by
 have : ∀ n t, size t <= n -> P t := by
  intro n
  induction n with
  | zero => intro t ht; have := size_pos t; omega
  | succ n ih =>
   intro t ht
   refine h t (fun p hp => ih p ?_)
   have := sizes_mem hp
   rw [size_eq] at ht
   omega
 exact this _ t (Nat.le_refl _)
theorem sizes_append (l m : List Tm) : sizes (l ++ m) = sizes l + sizes m := by
 induction l with
 | nil => simp [sizes]
 | cons a l ih => simp [sizes, ih]; omega
theorem deeps_append (l m : List Tm) : deeps (l ++ m) = max (deeps l) (deeps m) := by
 induction l with
 | nil => simp [deeps]
 | cons a l ih => simp [deeps, ih, Nat.max_assoc]
theorem sizes_next {l : List Tm} {i : Nat} (h : i < l.length) : sizes (l.take (i + 1)) = sizes (l.take i) + size (l[i]'h) := by rw [Z0C h, sizes_append]; simp [sizes]
theorem deeps_next {l : List Tm} {i : Nat} (h : i < l.length) : deeps (l.take (i + 1)) = max (deeps (l.take i)) (deep (l[i]'h)) := by rw [Z0C h, deeps_append]; simp [deeps]
theorem sizes_take (l : List Tm) (i : Nat) : sizes (l.take i) <= sizes l := by
 have := sizes_append (l.take i) (l.drop i)
 rw [List.take_append_drop] at this
 omega
theorem deeps_take (l : List Tm) (i : Nat) : deeps (l.take i) <= deeps l := by
 have := deeps_append (l.take i) (l.drop i)
 rw [List.take_append_drop] at this
 omega
theorem length_sizes (l : List Tm) : l.length <= sizes l := by
 induction l with
 | nil => simp
 | cons a l ih => have := size_pos a; simp [sizes]; omega
theorem deep_size (t : Tm) : deep t <= size t := by
 induction t using Tm.ind with
 | h t ih =>
  rw [deep_eq, size_eq]
  have : ∀ l : List Tm, (∀ p ∈ l, deep p <= size p) -> deeps l <= sizes l := by
   intro l
   induction l with
   | nil => simp [deeps]
   | cons a l ihl =>
    intro h
    have h1 := h a (by simp)
    have h2 := ihl (fun p hp => h p (by simp [hp]))
    simp [deeps, sizes]; omega
  have := this _ ih
  omega
def sizeTo (m : Nat) (t : Tm) : Nat := min (size t) (m + 1)
def names (l : List (List UInt8)) (apart : Bool) : Bool := l.all Lex.isName && (!apart || Shp.noDup l)
mutual
def hasOpaque : Sh -> Bool
 | ⟨k, _, _, _, ps⟩ => decide (k = 10) || hasOpaques ps
def hasOpaques : List Sh -> Bool
 | [] => false
 | p :: ps => hasOpaque p || hasOpaques ps
end
theorem Z4C (t : Sh) : hasOpaque t = (decide (t.kind = 10) || hasOpaques t.parts) := by cases t; rfl
theorem Z2n (l : List Sh) : hasOpaques l = l.any hasOpaque := by
 induction l with
 | nil => rfl
 | cons a l ih => simp [hasOpaques, ih]
def shapesOk (l : List Sh) : Bool := l.all fun s => decide (Shp.check s = 0) && !hasOpaque s
def plainB (b : UInt8) : Bool := decide (32 <= b.toNat) || b == 9 || b == 10
def validGo : Nat -> List UInt8 -> Bool
 | 0, s => s.isEmpty
 | k + 1, s => s.isEmpty || (decide ((Utf.first s).2 ≠ 0) && validGo k (s.drop (Utf.first s).2))
def valid (s : List UInt8) : Bool := validGo s.length s
def textOk (s : List UInt8) : Bool := s.all plainB && valid s
def lists (t : Tm) (n v s p : Nat) : Bool := decide (t.names.length = n) && decide (t.vars.length = v) && decide (t.shapes.length = s) && decide (t.parts.length = p)
def fitsK (t : Tm) : Bool :=
 if t.kind = 1 then t.name == [] && decide (0 <= t.n) && decide (t.n <= 999999999999999) && lists t 0 0 0 0
 else if t.kind = 2 then textOk t.name && lists t 0 0 0 0
 else if t.kind = 3 \/ t.kind = 4 then t.name == [] && lists t 0 0 0 0
 else if t.kind = 5 then Lex.isName t.name && (t.of_ == [] || Lex.isName t.of_) && lists t 0 0 0 0
 else if t.kind = 6 then t.name == [] && lists t t.names.length 0 t.names.length 1
 else if t.kind = 7 then t.name == [] && decide (1 <= t.parts.length) && lists t 0 0 0 t.parts.length
 else if t.kind = 8 then t.name == [] && lists t t.names.length 0 0 t.names.length
 else if t.kind = 9 \/ t.kind = 10 then Lex.isName t.name && lists t 0 0 0 1
 else if t.kind = 11 then t.name == [] && lists t 0 0 1 t.parts.length
 else if t.kind = 12 then t.name == [] && lists t 0 0 1 3
 else if t.kind = 13 then t.name == [] && lists t t.names.length t.names.length (t.names.length + 1) (t.names.length + 1)
 else if t.kind = 14 then Lex.isName t.name && lists t 0 0 0 2
 else if t.kind = 15 then t.name == [] && lists t 0 0 1 1
 else if t.kind = 16 \/ t.kind = 17 then Lex.isUpper t.name && lists t 0 0 0 1
 else false
def fits (t : Tm) : Bool := decide (0 <= t.at_) && names t.names true && names t.vars false && shapesOk t.shapes && (decide (t.kind = 1) || decide (t.n = 0)) && (decide (t.kind = 5) || t.of_ == []) && fitsK t
mutual
def right : Tm -> Bool
 | ⟨k, o, na, n, ns, vs, ss, ps, a⟩ => fits ⟨k, o, na, n, ns, vs, ss, ps, a⟩ && rights ps
def rights : List Tm -> Bool
 | [] => true
 | p :: ps => right p && rights ps
end
theorem right_eq (t : Tm) : right t = (fits t && rights t.parts) := by cases t; rfl
theorem rights_all (l : List Tm) : rights l = l.all right := by
 induction l with
 | nil => rfl
 | cons a l ih => simp [rights, ih]
theorem right_fits {t : Tm} (h : right t = true) : fits t = true := by rw [right_eq, Bool.and_eq_true] at h; exact h.1
theorem right_part {t p : Tm} (h : right t = true) (hp : p ∈ t.parts) : right p = true := by
 rw [right_eq, rights_all, Bool.and_eq_true, List.all_eq_true] at h; exact h.2 p hp
def check (t : Tm) : Int := if 4096 < size t then 3 else if 40 < deep t then 91 else if right t = false then 80 else 0
theorem check_ok {t : Tm} (h : check t = 0) : size t <= 4096 /\ deep t <= 40 /\ right t = true := by
 unfold check at h
 split at h
 {cases h}
 {split at h
  {cases h}
  {split at h
   {cases h}
   {rename_i h1 h2 h3
    refine ⟨by omega, by omega, ?_⟩
    simpa using h3}}}
mutual
def eqB (places : Bool) : Tm -> Tm -> Bool
 | ⟨k, o, na, n, ns, vs, ss, ps, a⟩, ⟨k', o', na', n', ns', vs', ss', ps', a'⟩ => k == k' && o == o' && na == na' && n == n' && (!places || a == a') && ns == ns' && vs == vs' && Shp.eqs ss ss' && eqs places ps ps'
def eqs (places : Bool) : List Tm -> List Tm -> Bool
 | [], [] => true
 | p :: ps, q :: qs => eqB places p q && eqs places ps qs
 | [], _ :: _ => false
 | _ :: _, [] => false
end
theorem eqB_eq (pl : Bool) (t u : Tm) : eqB pl t u = (t.kind == u.kind && t.of_ == u.of_ && t.name == u.name && t.n == u.n && (!pl || t.at_ == u.at_) && t.names == u.names && t.vars == u.vars && Shp.eqs t.shapes u.shapes && eqs pl t.parts u.parts) := by cases t; cases u; rfl
mutual
def strip : Tm -> Tm
 | ⟨k, o, na, n, ns, vs, ss, ps, _⟩ => ⟨k, o, na, n, ns, vs, ss, strips ps, 0⟩
def strips : List Tm -> List Tm
 | [] => []
 | p :: ps => strip p :: strips ps
end
theorem ZbN (l : List Tm) : strips l = l.map strip := by
 induction l with
 | nil => rfl
 | cons a l ih => simp [strips, ih]
theorem Z0A (t : Tm) : strip t = ⟨t.kind, t.of_, t.name, t.n, t.names, t.vars, t.shapes, t.parts.map strip, 0⟩ := by
 cases t; rw [<- ZbN]; rfl
def same (l : List Tm) : Bool := l.all fun t => decide (check t = 0) && eqB false t (l.headD t)
mutual
def weight : Tm -> Nat
 | ⟨_, _, na, _, ns, _, _, ps, _⟩ => 1 + na.length + ns.length + weights ps
def weights : List Tm -> Nat
 | [] => 0
 | p :: ps => weight p + weights ps
end
theorem Z14 (t : Tm) : weight t = 1 + t.name.length + t.names.length + weights t.parts := by cases t; rfl
theorem Z5j {l : List Tm} {p : Tm} (h : p ∈ l) : weight p <= weights l := by
 induction l with
 | nil => cases h
 | cons a l ih =>
  rcases List.mem_cons.1 h with rfl | h
  {simp [weights]}
  {have := ih h; simp [weights]; omega}
def tame (t : Tm) : Bool := decide (weight t <= 1048576)
theorem Z0x {t : Tm} (h : tame t = true) : t.name.length <= 1000000000 /\ t.names.length <= 1000000000 := by
 have h1 := of_decide_eq_true h; rw [Z14] at h1; omega
theorem Z1C {t p : Tm} (h : tame t = true) (hp : p ∈ t.parts) : tame p = true := by
 have h1 := of_decide_eq_true h; have h2 := Z5j hp; rw [Z14] at h1
 exact decide_eq_true (by omega)
theorem Z7P (k : Nat) : ∀ (s : List UInt8), s.length <= k -> ∀ {ps : List Int} {rest : List UInt8}, Utf.Reads s ps rest -> (validGo k s = true ↔ rest = []) := by
 induction k with
 | zero =>
  intro s hk ps rest h
  have hs : s = [] := List.eq_nil_of_length_eq_zero (by omega)
  subst hs
  have := (Utf.Z2a h).2
  simp only [List.length_nil] at this
  have hr : rest = [] := List.eq_nil_of_length_eq_zero (by omega)
  rw [hr]; simp [validGo]
 | succ k ih =>
  intro s hk ps rest h
  cases ps with
  | nil =>
   obtain rfl : s = rest := by have := h.text; simpa [Utf.Z3O] using this
   cases s with
   | nil => simp [validGo]
   | cons a r =>
    have hf : (Utf.first (a :: r)).2 = 0 := by rw [h.none]
    simp [validGo, hf]
  | cons p ps =>
   have ht : s = Utf.bytes p ++ (Utf.enc ps ++ rest) := by rw [h.text, Utf.Z0F, List.append_assoc]
   have hf : Utf.first s = (p, Utf.width p) := by rw [ht]; exact Utf.Z0N p (h.pts p (by simp)) _
   have hw := Utf.Z0X p
   have hl : (Utf.bytes p).length = Utf.width p := Utf.Z0q p
   have hd : s.drop (Utf.width p) = Utf.enc ps ++ rest := by rw [ht, <- hl, List.drop_left]
   have hsl : s.length = Utf.width p + (Utf.enc ps ++ rest).length := by rw [ht, List.length_append, hl]
   have he : s.isEmpty = false := by
    cases s with
    | nil => simp at hsl; omega
    | cons a r => rfl
   have := ih (s.drop (Utf.width p)) (by rw [hd]; omega) (ps := ps) (rest := rest) ⟨fun x hx => h.pts x (by simp [hx]), hd, h.none⟩
   unfold validGo
   rw [hf, he]
   simp only [Bool.false_or, Bool.and_eq_true, decide_eq_true_eq]
   rw [this]
   constructor
   {exact fun h => h.2}
   {exact fun h => ⟨by omega, h⟩}
theorem Z2B {s : List UInt8} {ps : List Int} {rest : List UInt8} (h : Utf.Reads s ps rest) : valid s = true ↔ rest = [] := Z7P s.length s (Nat.le_refl _) h
theorem Z1t (b : UInt8) : plainB b = true ↔ ¬ (b.toNat < 32 /\ b ≠ 9 /\ b ≠ 10) := by
 unfold plainB
 simp only [Bool.or_eq_true, decide_eq_true_eq, beq_iff_eq]
 constructor
 {rintro ((h | h) | h) ⟨h1, h2, h3⟩
  {omega}
  {exact h2 h}
  {exact h3 h}}
 {intro h
  by_cases h1 : 32 <= b.toNat
  {exact Or.inl (Or.inl h1)}
  {by_cases h2 : b = 9
   {exact Or.inl (Or.inr h2)}
   {by_cases h3 : b = 10
    {exact Or.inr h3}
    {exact absurd ⟨by omega, h2, h3⟩ h}}}}
end Tms
namespace Go.Proofs.YtnkdedejfonbmaaGreatDoor
open Go.RowKit
theorem Z0k {B : Nat} {a w : World} (h : Below B a w) (n : Nat) : Below B a (w.drewN n) := ⟨h.os, h.tape, h.output, h.size, h.block⟩
abbrev Y9 (f : FuncId) (a : Array Value) (w : World) (v : Value) : Prop := Calls Tryz.prog f a w fun e w' => e = .returned v /\ Below w.heap.size w w'
theorem Y1 {P : Prop} (h : P) : Hid P := Lib.hid h
theorem Y2 {B : Nat} {w : World} : Below B w w := Below.refl _ _
theorem Y3 {k n : Int} (m : Int) (h : k = n) (e : (n == m) = false) : (k == m) = false := by rw [h]; exact e
theorem Y4 {k n : Int} (m : Int) (h : k = n) (e : (n == m) = true) : (k == m) = true := by rw [h]; exact e
theorem Y5 {k n : Int} (m : Int) (h : k = n) (e : (n != m) = false) : (k != m) = false := by rw [h]; exact e
theorem Y6 {k n : Int} (m : Int) (h : k = n) (e : (n != m) = true) : (k != m) = true := by rw [h]; exact e
theorem Z1D (s : ByteArray) (p : Nat) (q : Int) (h1 : (p : Int) <= q) (h2 : q <= s.size) (W : World) :
 (Instr.slice 9 (.string s) (some (.int .i64 p)) (some (.int .i64 q)) none).run Tryz.prog W = .ok (.string ⟨((s.data.toList.drop p).take (q.toNat - p)).toArray⟩) W := by
 rw [run_slice_string (P := Tryz.prog) W 9 s .i64 .i64 p q Tryz.underlying9 (by omega) h1 h2]
 have := ByteArray.extract_mk s.data.toList p q.toNat
 rw [Int.toNat_natCast]
 exact congrArg (fun b => Result.ok (Value.string b) W) this
theorem Z1T (s : ByteArray) (p : Nat) (h : p <= s.size) (W : World) :
 (Instr.slice 9 (.string s) (some (.int .i64 p)) none none).run Tryz.prog W = .ok (.string ⟨(s.data.toList.drop p).toArray⟩) W := by
 rw [run_slice_string_from_if (P := Tryz.prog) W 9 s .i64 p Tryz.underlying9, if_pos ⟨by omega, by omega⟩]
 have := ByteArray.extract_mk s.data.toList p s.size
 rw [Int.toNat_natCast]
 refine congrArg (fun b => Result.ok (Value.string b) W) (this.trans ?_)
 rw [List.take_of_length_le (by rw [List.length_drop, <- Lib.size_eq]; omega)]
theorem Zft (s : ByteArray) (q : Int) (h0 : 0 <= q) (h : q <= s.size) (W : World) :
 (Instr.slice 9 (.string s) none (some (.int .i64 q)) none).run Tryz.prog W = .ok (.string ⟨(s.data.toList.take q.toNat).toArray⟩) W := by
 rw [run_slice_string_to_if (P := Tryz.prog) W 9 s .i64 q Tryz.underlying9, if_pos ⟨by omega, by omega⟩]
 have := ByteArray.extract_mk s.data.toList 0 q.toNat
 exact congrArg (fun b => Result.ok (Value.string b) W) this
theorem Z04 (l : List UInt8) : (⟨l.toArray⟩ : ByteArray).size = l.length := by simp [ByteArray.size]
theorem Z59 (s : ByteArray) (p : Nat) (hp : p < s.size) : ∃ r : ByteArray, (∀ W : World, (Instr.slice 9 (.string s) (some (.int .i64 p)) none none).run Tryz.prog W = .ok (.string r) W) /\
 r.data.toList = s.data.toList.drop p /\ r.size + p = s.size /\ 0 < r.size /\ r.toList.isEmpty = false /\ ∀ (i : Nat) (h : i < r.size) (h' : p + i < s.size), r[i]'h = s[p + i]'h' := by
 refine ⟨⟨(s.data.toList.drop p).toArray⟩, fun W => Z1T s p (by omega) W, rfl, ?_, ?_, ?_, ?_⟩
 {rw [Z04, List.length_drop, <- Lib.size_eq]; omega}
 {rw [Z04, List.length_drop, <- Lib.size_eq]; omega}
 {rw [ByteArray.toList_mk, List.isEmpty_eq_false_iff]
  intro h
  have := congrArg List.length h
  rw [List.length_drop, <- Lib.size_eq] at this
  simp at this
  omega}
 {intro i h h'
  show (s.data.toList.drop p).toArray[i] = s.data[p + i]
  simp}
theorem Z1l {B : Nat} {w w' : World} (h : Below B w w') (hB : w.heap.size <= B) (row : Option Nat) : w.grownBy w' row :=
 ⟨h.os, h.tape, h.output, h.size, fun i hi _ => h.block i (Nat.lt_of_lt_of_le hi hB)⟩
theorem Z3c {T e : TypeId} {B b : Nat} {p : Value} {bs : List Value} {w w' : World} (h : Lib.BuilderAt T e B b p bs w) (hb : Below w.heap.size w w') : Lib.BuilderAt T e B b p bs w' := by
 have hlt := h.lt
 obtain ⟨hB, v, hbk, hown, hne⟩ := h
 exact ⟨hB, v, (hb.block b hlt).trans hbk, hown.kept (Z1l hb (Nat.le_refl _) none) (by
  rcases h : v.ownBlock with _ | x
  {exact Or.inl rfl}
  · exact Or.inr (by simp)), hne⟩
theorem Z19 {T e : TypeId} {B b : Nat} {bs : List Value} {w w' : World} (h : Lib.IsBuilder T e B b bs w) (hb : Below w.heap.size w w') : Lib.IsBuilder T e B b bs w' := by
 rcases h with h | h
 {exact Or.inl (Z3c h hb)}
 {exact Or.inr (Z3c h hb)}
theorem Z00 {w W w' : World} (h : Below w.heap.size w W) (hb : Below W.heap.size W w') : Below w.heap.size w w' := h.trans (hb.mono h.size)
theorem Z08 {w W : World} (h : Below w.heap.size w W) (o : Obj) : Below w.heap.size w (W.alloc o) := h.alloc h.size o
theorem Z02 (w : World) (o : Obj) : Below w.heap.size w (w.alloc o) := (Below.refl _ _).alloc (Nat.le_refl _) _
theorem Z0n {W w : World} {b o : Nat} (hb : Below W.heap.size W w) (h : b < W.heap.size) : w.cell? ⟨b, o, none⟩ = W.cell? ⟨b, o, none⟩ /\ w.frozen? ⟨b, o, none⟩ = W.frozen? ⟨b, o, none⟩ :=
 ⟨hb.cell (p := ⟨b, o, none⟩) h, hb.frozen (p := ⟨b, o, none⟩) h⟩
theorem Zgs (s : ByteArray) : s = ⟨s.data.toList.toArray⟩ := by
 apply ByteArray.ext
 simp
theorem Z5a (s : ByteArray) : s.toList = s.data.toList := by
 conv => lhs; rw [Zgs s]
 rw [ByteArray.toList_mk]
def nz (a b : List UInt8) : Int := if a = [] /\ b = [] then 0 else 1
theorem Z8q {s : ByteArray} {k : Nat} (h : k < s.size) : (s.data.toList.take (k + 1)).all Sem.dig = ((s.data.toList.take k).all Sem.dig && Sem.dig (s[k]'h)) := by
 rw [List.take_succ_eq_append_getElem (by rw [<- Lib.size_eq]; exact h), List.all_append]
 simp
 rfl
def Strs (w : World) (B : Nat) (A : Option Addr) (ss : List ByteArray) : Prop :=
 ss.length = 0 \/ ∃ b off, A = some ⟨b, off, none⟩ /\ b < B /\ ∀ i (h : i < ss.length), w.cell? ⟨b, off + i, none⟩ = some (.string (ss[i]'h))
theorem Strs.keep {w w' : World} {B B' : Nat} {A : Option Addr} {ss : List ByteArray} (h : Strs w B A ss) (hb : Below B' w w') (hB : B <= B') : Strs w' B A ss := by
 rcases h with h | ⟨b, off, hA, hlt, hc⟩
 {exact Or.inl h}
 {exact Or.inr ⟨b, off, hA, hlt, fun i hi => (hb.cell (p := ⟨b, off + i, none⟩) (Nat.lt_of_lt_of_le hlt hB)).trans (hc i hi)⟩}
theorem Strs.more {w : World} {B B' : Nat} {A : Option Addr} {ss : List ByteArray} (h : Strs w B A ss) (hB : B <= B') : Strs w B' A ss := by
 rcases h with h | ⟨b, off, hA, hlt, hc⟩
 {exact Or.inl h}
 {exact Or.inr ⟨b, off, hA, Nat.lt_of_lt_of_le hlt hB, hc⟩}
theorem Strs.next {w w' : World} {A : Option Addr} {ss : List ByteArray} (h : Strs w w.heap.size A ss) (hb : Below w.heap.size w w') : Strs w' w'.heap.size A ss :=
 (h.keep hb (Nat.le_refl _)).more hb.size
theorem lt_of_cell {w : World} {b o : Nat} {v : Value} (h : w.cell? ⟨b, o, none⟩ = some v) : b < w.heap.size := by
 rcases Nat.lt_or_ge b w.heap.size with h' | h'
 {exact h'}
 {simp [World.cell?, Array.getElem?_eq_none h'] at h}
theorem Z4p {w : World} {a : Addr} {ss : List ByteArray} {len : Nat} (hc : ∀ i, i < ss.length -> w.cell? (a.add i) = some (.string (ss.getD i ByteArray.empty))) : Strs w w.heap.size (some a) (ss.take len) := by
 by_cases h0 : (ss.take len).length = 0
 {exact Or.inl h0}
 {have hpos : 0 < ss.length := by rw [List.length_take] at h0; omega
  obtain ⟨b, off, spot⟩ := a
  have h1 := hc 0 hpos
  have hspot : spot = none := by simpa [Addr.add] using World.cell?_spot h1
  subst hspot
  refine Or.inr ⟨b, off, rfl, lt_of_cell (o := off) (by simpa [Addr.add] using h1), fun i hi => ?_⟩
  rw [List.length_take] at hi
  have hplain : (⟨b, off, none⟩ : Addr).add i = ⟨b, off + i, none⟩ := by unfold Addr.add; split <;> simp_all
  rw [<- hplain, hc i (by omega), List.getElem_take]
  simp [List.getD, List.getElem?_eq_getElem (show i < ss.length by omega)]}
def strs (l : List (List UInt8)) : List ByteArray := l.map fun p => ⟨p.toArray⟩
end Go.Proofs.YtnkdedejfonbmaaGreatDoor
namespace Lex
theorem Z8g {p : UInt8 -> Bool} : ∀ {s : List UInt8} {n : Nat}, n <= s.length -> (∀ j (hj : j < s.length), j < n -> p (s[j]'hj) = true) -> (∀ (h : n < s.length), p (s[n]'h) = false) -> (s.takeWhile p).length = n
 | [], n, h, _, _ => by simp at h; simp [h]
 | x :: r, 0, _, _, h => by
  have := h (by simp)
  simp at this
  rw [List.takeWhile_cons_of_neg (by simp [this])]; rfl
 | x :: r, n + 1, h1, h2, h3 => by
  have hx := h2 0 (by simp) (by omega)
  simp at hx
  rw [List.takeWhile_cons_of_pos hx, List.length_cons, Z8g (s := r) (n := n) (by simpa using h1) (fun j hj hn => by
   have := h2 (j + 1) (by simpa using hj) (by omega)
   simpa using this) (fun h => by
   have := h3 (by simpa using h)
   simpa using this)]
end Lex
namespace Go.Proofs.YtnkdedejfonbmaaGreatDoor
open Go.RowKit
theorem Z0K (s : ByteArray) (n : Nat) (h : n < s.size) (W : World) : (Instr.index 9 (.string s) (.int .i64 (n : Int))).run Tryz.prog W = .ok (.int .u8 (s[n]'h).toNat) W := by
 rw [run_index_string (P := Tryz.prog) _ _ _ _ _ Tryz.underlying9, dif_pos ⟨by omega, by omega⟩]
 simp
theorem Zbl (c : UInt8) : ((c.toNat : Int) == 95) = (c == 95) := by
 rw [Bool.eq_iff_iff, beq_iff_eq, beq_iff_eq]
 constructor
 {intro h; apply UInt8.toNat_inj.1; show c.toNat = 95; omega}
 {rintro rfl; rfl}
end Go.Proofs.YtnkdedejfonbmaaGreatDoor
namespace Go.Proofs.YtnkdedejfonbmaaGreatDoor
open Go.RowKit Shp
theorem Z0v {k : IntKind} {a b : Int} (h : a = b) : Ending.returned (.int k a) = .returned (.int k b) := by rw [h]
theorem Z03 {a b : Bool} (h : a = b) : Ending.returned (.bool a) = .returned (.bool b) := by rw [h]
structure Ptr where
 A : Option Addr
 c : Nat
 P : Option Addr
 d : Nat
abbrev Y8 (t : Shp.Sh) (q : Ptr) : Array Value := #[.int .i64 t.kind, .string ⟨t.of_.toArray⟩, .string ⟨t.name.toArray⟩, .slice q.A t.names.length q.c, .slice q.P t.parts.length q.d]
def Sh5 (w : World) (g o : Nat) (t : Sh) (q : Ptr) : Prop :=
 w.cell? ⟨g, o, none⟩ = some (.int .i64 t.kind) /\ w.cell? ⟨g, o + 1, none⟩ = some (.string ⟨t.of_.toArray⟩) /\ w.cell? ⟨g, o + 2, none⟩ = some (.string ⟨t.name.toArray⟩) /\
 w.cell? ⟨g, o + 3, none⟩ = some (.slice q.A t.names.length q.c) /\ w.cell? ⟨g, o + 4, none⟩ = some (.slice q.P t.parts.length q.d)
theorem Sh5.of {w w' : World} {g o : Nat} {t : Sh} {q : Ptr} (h : Sh5 w g o t q) (hc : ∀ k, w'.cell? ⟨g, k, none⟩ = w.cell? ⟨g, k, none⟩) : Sh5 w' g o t q := by
 obtain ⟨h0, h1, h2, h3, h4⟩ := h
 exact ⟨(hc _).trans h0, (hc _).trans h1, (hc _).trans h2, (hc _).trans h3, (hc _).trans h4⟩
theorem Sh5.keep {w w' : World} {g o B : Nat} {t : Sh} {q : Ptr} (h : Sh5 w g o t q) (hg : g < B) (hb : Below B w w') : Sh5 w' g o t q :=
 h.of (fun k => hb.cell (p := ⟨g, k, none⟩) hg)
structure Small (t : Sh) (q : Ptr) : Prop where
 o : t.of_.length <= 9223372036854775807
 n : t.name.length <= 9223372036854775807
 ns : ∀ x ∈ t.names, x.length <= 9223372036854775807
 l : t.names.length <= 9223372036854775807
 m : t.parts.length <= 9223372036854775807
 c : t.names.length <= q.c
 d : t.parts.length <= q.d
 A0 : q.A = none -> q.c = 0
 P0 : q.P = none -> q.d = 0
inductive ShAt (w : World) (B : Nat) : Ptr -> Sh -> Prop
 | mk (q : Ptr) (t : Sh) (g off : Nat) (qs : Nat -> Ptr) (hs : Small t q) (hn : Strs w B q.A (strs t.names)) (hp : t.parts.length = 0 \/ q.P = some ⟨g, off, none⟩ /\ g < B)
  (hc : ∀ i (h : i < t.parts.length), Sh5 w g (off + i * 5) (t.parts[i]'h) (qs i)) (hr : ∀ i (h : i < t.parts.length), ShAt w B (qs i) (t.parts[i]'h)) : ShAt w B q t
theorem ShAt.small {w : World} {B : Nat} {q : Ptr} {t : Sh} (h : ShAt w B q t) : Small t q := by cases h; assumption
theorem ShAt.strs {w : World} {B : Nat} {q : Ptr} {t : Sh} (h : ShAt w B q t) : Strs w B q.A (strs t.names) := by cases h; assumption
theorem ShAt.part {w : World} {B : Nat} {q : Ptr} {t : Sh} (h : ShAt w B q t) : t.parts.length = 0 \/ ∃ (g off : Nat) (qs : Nat -> Ptr), q.P = some ⟨g, off, none⟩ /\ g < B /\ (∀ i (h : i < t.parts.length), Sh5 w g (off + i * 5) (t.parts[i]'h) (qs i)) /\ ∀ i (h : i < t.parts.length), ShAt w B (qs i) (t.parts[i]'h) := by
 cases h with
 | mk _ _ g off qs hs hn hp hc hr =>
  rcases hp with hp | ⟨hp, hg⟩
  {exact Or.inl hp}
  {exact Or.inr ⟨g, off, qs, hp, hg, hc, hr⟩}
theorem ShAt.of {w w' : World} {B B' : Nat} {q : Ptr} {t : Sh} (h : ShAt w B q t) (hB : B <= B') (hc : ∀ g k, g < B -> w'.cell? ⟨g, k, none⟩ = w.cell? ⟨g, k, none⟩) : ShAt w' B' q t := by
 induction h with
 | mk q t g off qs hs hn hp hc' hr ih =>
  refine .mk q t g off qs hs ?_ ?_ ?_ ih
  {rcases hn with h | ⟨b, o, hA, hlt, hcc⟩
   {exact Or.inl h}
   {exact Or.inr ⟨b, o, hA, Nat.lt_of_lt_of_le hlt hB, fun i hi => (hc b _ hlt).trans (hcc i hi)⟩}}
  {rcases hp with h | ⟨h, hg⟩
   {exact Or.inl h}
   {exact Or.inr ⟨h, Nat.lt_of_lt_of_le hg hB⟩}}
  {intro i hi
   rcases hp with h | ⟨h, hg⟩
   {omega}
   {exact (hc' i hi).of (fun k => hc g k hg)}}
theorem ShAt.keep {w w' : World} {B B' : Nat} {q : Ptr} {t : Sh} (h : ShAt w B q t) (hb : Below B' w w') (hB : B <= B') : ShAt w' B q t :=
 h.of (Nat.le_refl _) (fun g k hg => hb.cell (p := ⟨g, k, none⟩) (Nat.lt_of_lt_of_le hg hB))
theorem ShAt.more {w : World} {B B' : Nat} {q : Ptr} {t : Sh} (h : ShAt w B q t) (hB : B <= B') : ShAt w B' q t := h.of hB (fun _ _ _ => rfl)
theorem ShAt.next {w w' : World} {q : Ptr} {t : Sh} (h : ShAt w w.heap.size q t) (hb : Below w.heap.size w w') : ShAt w' w'.heap.size q t := (h.keep hb (Nat.le_refl _)).more hb.size
def Box5 (w : World) (g : Nat) (t : Sh) (q : Ptr) : Prop :=
 g < w.heap.size /\ Sh5 w g 0 t q /\ w.frozen? ⟨g, 0, none⟩ = false /\ w.frozen? ⟨g, 1, none⟩ = false /\ w.frozen? ⟨g, 2, none⟩ = false /\ w.frozen? ⟨g, 3, none⟩ = false /\ w.frozen? ⟨g, 4, none⟩ = false
theorem Box5.keep {W W' : World} {g B : Nat} {t : Sh} {q : Ptr} (h : Box5 W g t q) (hg : g < B) (hb : Below B W W') : Box5 W' g t q := by
 obtain ⟨h0, h1, f0, f1, f2, f3, f4⟩ := h
 exact ⟨Nat.lt_of_lt_of_le h0 hb.size, h1.keep hg hb, (hb.frozen (p := ⟨g, 0, none⟩) hg).trans f0, (hb.frozen (p := ⟨g, 1, none⟩) hg).trans f1, (hb.frozen (p := ⟨g, 2, none⟩) hg).trans f2, (hb.frozen (p := ⟨g, 3, none⟩) hg).trans f3, (hb.frozen (p := ⟨g, 4, none⟩) hg).trans f4⟩
theorem Box5.next {W W' : World} {g : Nat} {t : Sh} {q : Ptr} (h : Box5 W g t q) (hb : Below W.heap.size W W') : Box5 W' g t q := h.keep h.1 hb
theorem Z0c (w : World) (t : Sh) (q : Ptr) : Box5 (w.alloc (.cells (Y8 t q) 45)) w.heap.size t q :=
 ⟨by simp, ⟨by simp [go_sem], by simp [go_sem], by simp [go_sem], by simp [go_sem], by simp [go_sem]⟩, by simp [go_sem], by simp [go_sem], by simp [go_sem], by simp [go_sem], by simp [go_sem]⟩
theorem Z1c (b off k : Nat) : (⟨b, off, none⟩ : Addr).add k = ⟨b, off + k, none⟩ := by unfold Addr.add; split <;> simp_all
theorem ZdJ (ss : List ByteArray) : strs (ss.map fun s => s.data.toList) = ss := by
 unfold strs
 rw [List.map_map]
 conv => rhs; rw [<- List.map_id ss]
 rfl
section
variable {H : Type} {enc : TypeId × Value -> H} {W : World} {base : Nat} {held : Bool}
theorem Z1G {fuel : Nat} {cs : List Value} {x : DataW H × List MemPlace} (h : DataW.trod enc Tryz.prog W base (fun _ => true) held fuel 22 cs = some x) :
 ∃ (A : Option Addr) (l : List (List UInt8)) (c : Nat), cs = [.slice A l.length c] /\ Strs W W.heap.size A (strs l) /\ l.length <= 9223372036854775807 /\ l.length <= c /\ (A = none -> c = 0) /\ ∀ y ∈ l, y.length <= 9223372036854775807 := by
 rcases Go.ChangeShapes.open_strings Tryz.underlying22 Tryz.underlying9 (by kernel_rfl) h with ⟨hcs, _⟩ | ⟨a, len, cap, ss, hcs, _, hl, hm, hz, _, hcell, hws⟩
 {exact ⟨none, [], 0, hcs, Or.inl rfl, by simp, by simp, fun _ => rfl, by simp⟩}
 {have hz' : ss.length = cap := by simpa using hz
  unfold maxLen at hm
  refine ⟨some a, (ss.take len).map (fun s => s.data.toList), cap, ?_, ?_, ?_, ?_, by simp, ?_⟩
  {rw [hcs, List.length_map, List.length_take, Nat.min_eq_left (by omega)]}
  {rw [ZdJ]; exact Z4p hcell}
  {rw [List.length_map, List.length_take]; omega}
  {rw [List.length_map, List.length_take]; omega}
  {intro y hy
   obtain ⟨s, hs, rfl⟩ := List.mem_map.1 hy
   have := hws s (List.mem_of_mem_take hs)
   unfold maxLen at this
   rwa [Lib.size_eq] at this}}
theorem ZbQ : ∀ (fuel : Nat) {cs : List Value} {x : DataW H × List MemPlace}, DataW.trod enc Tryz.prog W base (fun _ => true) held fuel 45 cs = some x ->
 ∃ (t : Sh) (q : Ptr), cs = [.int .i64 t.kind, .string ⟨t.of_.toArray⟩, .string ⟨t.name.toArray⟩, .slice q.A t.names.length q.c, .slice q.P t.parts.length q.d] /\ ShAt W W.heap.size q t := by
 intro fuel
 induction fuel using Nat.strongRecOn with
 | _ fuel IH =>
 intro cs x h
 obtain ⟨xs, n, hn, _, hlen, hxl, hf⟩ := DataW.trod_struct Tryz.underlying45 h
 have hC : Tryz.prog.cellsOf 45 = 5 := by kernel_rfl
 have c1 : Tryz.prog.cellsOf 3 = 1 := by kernel_rfl
 have c9 : Tryz.prog.cellsOf 9 = 1 := by kernel_rfl
 have c22 : Tryz.prog.cellsOf 22 = 1 := by kernel_rfl
 have c23 : Tryz.prog.cellsOf 23 = 1 := by kernel_rfl
 rw [hC] at hlen
 match cs, hlen with
 | [a0, a1, a2, a3, a4], _ =>
  have f0 := hf 0 _ rfl
  have f1 := hf 1 _ rfl
  have f2 := hf 2 _ rfl
  have f3 := hf 3 _ rfl
  have f4 := hf 4 _ rfl
  have hz : xs.length = 5 := hxl
  change DataW.trod enc _ W base _ held n 3 (([a0, a1, a2, a3, a4].drop 0).take (Tryz.prog.cellsOf 3)) = _ at f0
  change DataW.trod enc _ W base _ held n 9 (([a0, a1, a2, a3, a4].drop 1).take (Tryz.prog.cellsOf 9)) = _ at f1
  change DataW.trod enc _ W base _ held n 9 (([a0, a1, a2, a3, a4].drop 2).take (Tryz.prog.cellsOf 9)) = _ at f2
  change DataW.trod enc _ W base _ held n 22 (([a0, a1, a2, a3, a4].drop 3).take (Tryz.prog.cellsOf 22)) = _ at f3
  change DataW.trod enc _ W base _ held n 23 (([a0, a1, a2, a3, a4].drop 4).take (Tryz.prog.cellsOf 23)) = _ at f4
  rw [c1, List.getElem?_eq_getElem (by omega)] at f0
  rw [c9, List.getElem?_eq_getElem (by omega)] at f1 f2
  rw [c22, List.getElem?_eq_getElem (by omega)] at f3
  rw [c23, List.getElem?_eq_getElem (by omega)] at f4
  obtain ⟨b0, hb0, _, _⟩ := DataW.trod_int Tryz.underlying3 f0
  obtain ⟨b1, hb1, _, hm1⟩ := DataW.trod_string Tryz.underlying9 f1
  obtain ⟨b2, hb2, _, hm2⟩ := DataW.trod_string Tryz.underlying9 f2
  obtain ⟨A, l, c, hb3, hS, hl, hlc, hA0, hly⟩ := Z1G f3
  unfold maxLen at hm1 hm2
  simp at hb0 hb1 hb2 hb3
  subst hb0 hb1 hb2 hb3
  rcases DataW.trod_slice Tryz.underlying23 f4 with ⟨hb4, _⟩ | ⟨a, len, cap, elems, rest, n2, hn2, hb4, _, hb, hle, hmm, hel, hx, _⟩
  {simp at hb4
   subst hb4
   exact ⟨⟨b0, b1.data.toList, b2.data.toList, l, []⟩, ⟨A, c, none, 0⟩, rfl,
    .mk _ _ 0 0 (fun _ => ⟨none, 0, none, 0⟩) ⟨by rw [<- Lib.size_eq]; exact hm1, by rw [<- Lib.size_eq]; exact hm2, hly, hl, by simp, hlc, by simp, hA0, fun _ => rfl⟩ hS (Or.inl rfl) (fun i h => absurd h (by simp)) (fun i h => absurd h (by simp))⟩}
  {simp at hb4
   subst hb4
   unfold maxLen at hmm
   have hv : ∀ i, ∃ u : Sh × Ptr, i < len -> W.cell? (a.add (i * 5 + 0)) = some (.int .i64 u.1.kind) /\ W.cell? (a.add (i * 5 + 1)) = some (.string ⟨u.1.of_.toArray⟩) /\ W.cell? (a.add (i * 5 + 2)) = some (.string ⟨u.1.name.toArray⟩) /\
    W.cell? (a.add (i * 5 + 3)) = some (.slice u.2.A u.1.names.length u.2.c) /\ W.cell? (a.add (i * 5 + 4)) = some (.slice u.2.P u.1.parts.length u.2.d) /\ ShAt W W.heap.size u.2 u.1 := by
    intro i
    by_cases hi : i < len
    {have h1 := hx i hi
     rw [hC, List.getElem?_eq_getElem (by omega)] at h1
     cases hcs : W.cells? base (a.add (i * 5)) 5 with
     | none => rw [hcs] at h1; cases h1
     | some cs' =>
      rw [hcs] at h1
      obtain ⟨u, q, hu, hat⟩ := IH n2 (by omega) h1
      subst hu
      obtain ⟨_, hcl, hat'⟩ := World.cells?_some hcs
      refine ⟨(u, q), fun _ => ⟨?_, ?_, ?_, ?_, ?_, hat⟩⟩
      {rw [<- Go.Deep.add_add]; exact hat' 0 (by omega)}
      {rw [<- Go.Deep.add_add]; exact hat' 1 (by omega)}
      {rw [<- Go.Deep.add_add]; exact hat' 2 (by omega)}
      {rw [<- Go.Deep.add_add]; exact hat' 3 (by omega)}
      {rw [<- Go.Deep.add_add]; exact hat' 4 (by omega)}}
    {exact ⟨(⟨0, [], [], [], []⟩, ⟨none, 0, none, 0⟩), fun h => absurd h hi⟩}
   let f := fun i => (hv i).choose
   have hf2 : ∀ i, i < len -> W.cell? (a.add (i * 5 + 0)) = some (.int .i64 (f i).1.kind) /\ W.cell? (a.add (i * 5 + 1)) = some (.string ⟨(f i).1.of_.toArray⟩) /\ W.cell? (a.add (i * 5 + 2)) = some (.string ⟨(f i).1.name.toArray⟩) /\
    W.cell? (a.add (i * 5 + 3)) = some (.slice (f i).2.A (f i).1.names.length (f i).2.c) /\ W.cell? (a.add (i * 5 + 4)) = some (.slice (f i).2.P (f i).1.parts.length (f i).2.d) /\ ShAt W W.heap.size (f i).2 (f i).1 := fun i => (hv i).choose_spec
   have hln : ((List.range len).map fun i => (f i).1).length = len := by simp
   refine ⟨⟨b0, b1.data.toList, b2.data.toList, l, (List.range len).map fun i => (f i).1⟩, ⟨A, c, some a, cap⟩, by simp, ?_⟩
   obtain ⟨b, off, spot⟩ := a
   have hsm : Small ⟨b0, b1.data.toList, b2.data.toList, l, (List.range len).map fun i => (f i).1⟩ ⟨A, c, some ⟨b, off, spot⟩, cap⟩ :=
    ⟨by rw [<- Lib.size_eq]; exact hm1, by rw [<- Lib.size_eq]; exact hm2, hly, hl, by simp; omega, hlc, by simp; omega, hA0, fun h => by cases h⟩
   by_cases h0 : len = 0
   {exact .mk _ _ 0 0 (fun _ => ⟨none, 0, none, 0⟩) hsm hS (Or.inl (by simp [h0])) (fun i h => absurd h (by simp [h0])) (fun i h => absurd h (by simp [h0]))}
   {have h1 := (hf2 0 (by omega)).1
    have hspot : spot = none := by simpa [Addr.add] using World.cell?_spot h1
    subst hspot
    have hplain : ∀ k, (⟨b, off, none⟩ : Addr).add k = ⟨b, off + k, none⟩ := fun k => Z1c b off k
    refine .mk _ _ b off (fun i => (f i).2) hsm hS (Or.inr ⟨rfl, ?_⟩) ?_ ?_
    {rw [hplain] at h1
     exact lt_of_cell h1}
    {intro i hi
     have hin : i < len := by simpa using hi
     obtain ⟨g0, g1, g2, g3, g4, _⟩ := hf2 i hin
     simp only [hplain] at g0 g1 g2 g3 g4
     simp only [List.getElem_map, List.getElem_range]
     exact ⟨g0, g1, g2, g3, g4⟩}
    {intro i hi
     have hin : i < len := by simpa using hi
     simp only [List.getElem_map, List.getElem_range]
     exact (hf2 i hin).2.2.2.2.2}}}
end
end Go.Proofs.YtnkdedejfonbmaaGreatDoor
namespace Go.Proofs.YtnkdedejfonbmaaGreatDoor
open Go.RowKit Tms
open Shp (Sh)
structure TP where
 A : Option Addr
 c : Nat
 V : Option Addr
 e : Nat
 S : Option Addr
 s : Nat
 P : Option Addr
 d : Nat
abbrev Y7 (t : Tms.Tm) (q : TP) : Array Value := #[.int .i64 t.kind, .string ⟨t.of_.toArray⟩, .string ⟨t.name.toArray⟩, .int .i64 t.n, .slice q.A t.names.length q.c, .slice q.V t.vars.length q.e, .slice q.S t.shapes.length q.s, .slice q.P t.parts.length q.d, .int .i64 t.at_]
def Tm9 (w : World) (g o : Nat) (t : Tm) (q : TP) : Prop :=
 w.cell? ⟨g, o, none⟩ = some (.int .i64 t.kind) /\ w.cell? ⟨g, o + 1, none⟩ = some (.string ⟨t.of_.toArray⟩) /\ w.cell? ⟨g, o + 2, none⟩ = some (.string ⟨t.name.toArray⟩) /\ w.cell? ⟨g, o + 3, none⟩ = some (.int .i64 t.n) /\
 w.cell? ⟨g, o + 4, none⟩ = some (.slice q.A t.names.length q.c) /\ w.cell? ⟨g, o + 5, none⟩ = some (.slice q.V t.vars.length q.e) /\ w.cell? ⟨g, o + 6, none⟩ = some (.slice q.S t.shapes.length q.s) /\ w.cell? ⟨g, o + 7, none⟩ = some (.slice q.P t.parts.length q.d) /\ w.cell? ⟨g, o + 8, none⟩ = some (.int .i64 t.at_)
theorem Tm9.of {w w' : World} {g o : Nat} {t : Tm} {q : TP} (h : Tm9 w g o t q) (hc : ∀ k, w'.cell? ⟨g, k, none⟩ = w.cell? ⟨g, k, none⟩) : Tm9 w' g o t q := by
 obtain ⟨h0, h1, h2, h3, h4, h5, h6, h7, h8⟩ := h
 exact ⟨(hc _).trans h0, (hc _).trans h1, (hc _).trans h2, (hc _).trans h3, (hc _).trans h4, (hc _).trans h5, (hc _).trans h6, (hc _).trans h7, (hc _).trans h8⟩
theorem Tm9.keep {w w' : World} {g o B : Nat} {t : Tm} {q : TP} (h : Tm9 w g o t q) (hg : g < B) (hb : Below B w w') : Tm9 w' g o t q := h.of (fun k => hb.cell (p := ⟨g, k, none⟩) hg)
structure TSmall (t : Tm) (q : TP) : Prop where
 o : t.of_.length <= 9223372036854775807
 n : t.name.length <= 9223372036854775807
 ns : ∀ x ∈ t.names, x.length <= 9223372036854775807
 vs : ∀ x ∈ t.vars, x.length <= 9223372036854775807
 l : t.names.length <= 9223372036854775807
 v : t.vars.length <= 9223372036854775807
 sh : t.shapes.length <= 9223372036854775807
 m : t.parts.length <= 9223372036854775807
 c : t.names.length <= q.c
 e : t.vars.length <= q.e
 s : t.shapes.length <= q.s
 d : t.parts.length <= q.d
 A0 : q.A = none -> q.c = 0
 V0 : q.V = none -> q.e = 0
 S0 : q.S = none -> q.s = 0
 P0 : q.P = none -> q.d = 0
 i3 : -9223372036854775808 <= t.n /\ t.n <= 9223372036854775807
 i8 : -9223372036854775808 <= t.at_ /\ t.at_ <= 9223372036854775807
 i0 : -9223372036854775808 <= t.kind /\ t.kind <= 9223372036854775807
def ShsAt (w : World) (B : Nat) (S : Option Addr) (l : List Sh) : Prop :=
 l.length = 0 \/ ∃ (g off : Nat) (rs : Nat -> Ptr), S = some ⟨g, off, none⟩ /\ g < B /\ (∀ i (h : i < l.length), Sh5 w g (off + i * 5) (l[i]'h) (rs i)) /\ ∀ i (h : i < l.length), ShAt w B (rs i) (l[i]'h)
theorem ShsAt.of {w w' : World} {B B' : Nat} {S : Option Addr} {l : List Sh} (h : ShsAt w B S l) (hB : B <= B') (hc : ∀ g k, g < B -> w'.cell? ⟨g, k, none⟩ = w.cell? ⟨g, k, none⟩) : ShsAt w' B' S l := by
 rcases h with h | ⟨g, off, rs, h1, h2, h3, h4⟩
 {exact Or.inl h}
 {exact Or.inr ⟨g, off, rs, h1, Nat.lt_of_lt_of_le h2 hB, fun i hi => (h3 i hi).of (fun k => hc g k h2), fun i hi => (h4 i hi).of hB hc⟩}
inductive TmAt (w : World) (B : Nat) : TP -> Tm -> Prop
 | mk (q : TP) (t : Tm) (g off : Nat) (qs : Nat -> TP) (hs : TSmall t q) (hn : Strs w B q.A (strs t.names)) (hv : Strs w B q.V (strs t.vars)) (hS : ShsAt w B q.S t.shapes) (hp : t.parts.length = 0 \/ q.P = some ⟨g, off, none⟩ /\ g < B)
  (hc : ∀ i (h : i < t.parts.length), Tm9 w g (off + i * 9) (t.parts[i]'h) (qs i)) (hr : ∀ i (h : i < t.parts.length), TmAt w B (qs i) (t.parts[i]'h)) : TmAt w B q t
theorem TmAt.small {w : World} {B : Nat} {q : TP} {t : Tm} (h : TmAt w B q t) : TSmall t q := by cases h; assumption
theorem TmAt.vars {w : World} {B : Nat} {q : TP} {t : Tm} (h : TmAt w B q t) : Strs w B q.V (strs t.vars) := by cases h; assumption
theorem TmAt.shapes {w : World} {B : Nat} {q : TP} {t : Tm} (h : TmAt w B q t) : ShsAt w B q.S t.shapes := by cases h; assumption
theorem TmAt.strs {w : World} {B : Nat} {q : TP} {t : Tm} (h : TmAt w B q t) : Strs w B q.A (strs t.names) := by cases h; assumption
theorem TmAt.part {w : World} {B : Nat} {q : TP} {t : Tm} (h : TmAt w B q t) : t.parts.length = 0 \/ ∃ (g off : Nat) (qs : Nat -> TP), q.P = some ⟨g, off, none⟩ /\ g < B /\ (∀ i (h : i < t.parts.length), Tm9 w g (off + i * 9) (t.parts[i]'h) (qs i)) /\ ∀ i (h : i < t.parts.length), TmAt w B (qs i) (t.parts[i]'h) := by
 cases h with
 | mk _ _ g off qs hs hn hv hS hp hc hr =>
  rcases hp with hp | ⟨hp, hg⟩
  {exact Or.inl hp}
  {exact Or.inr ⟨g, off, qs, hp, hg, hc, hr⟩}
theorem Z1m {w w' : World} {B B' : Nat} {A : Option Addr} {l : List ByteArray} (h : Strs w B A l) (hB : B <= B') (hc : ∀ g k, g < B -> w'.cell? ⟨g, k, none⟩ = w.cell? ⟨g, k, none⟩) : Strs w' B' A l := by
 rcases h with h | ⟨b, o, hA, hlt, hcc⟩
 {exact Or.inl h}
 {exact Or.inr ⟨b, o, hA, Nat.lt_of_lt_of_le hlt hB, fun i hi => (hc b _ hlt).trans (hcc i hi)⟩}
theorem TmAt.of {w w' : World} {B B' : Nat} {q : TP} {t : Tm} (h : TmAt w B q t) (hB : B <= B') (hc : ∀ g k, g < B -> w'.cell? ⟨g, k, none⟩ = w.cell? ⟨g, k, none⟩) : TmAt w' B' q t := by
 induction h with
 | mk q t g off qs hs hn hv hS hp hc' hr ih =>
  refine .mk q t g off qs hs (Z1m hn hB hc) (Z1m hv hB hc) (hS.of hB hc) ?_ ?_ ih
  {rcases hp with h | ⟨h, hg⟩
   {exact Or.inl h}
   {exact Or.inr ⟨h, Nat.lt_of_lt_of_le hg hB⟩}}
  {intro i hi
   rcases hp with h | ⟨h, hg⟩
   {omega}
   {exact (hc' i hi).of (fun k => hc g k hg)}}
theorem TmAt.keep {w w' : World} {B B' : Nat} {q : TP} {t : Tm} (h : TmAt w B q t) (hb : Below B' w w') (hB : B <= B') : TmAt w' B q t :=
 h.of (Nat.le_refl _) (fun g k hg => hb.cell (p := ⟨g, k, none⟩) (Nat.lt_of_lt_of_le hg hB))
theorem TmAt.more {w : World} {B B' : Nat} {q : TP} {t : Tm} (h : TmAt w B q t) (hB : B <= B') : TmAt w B' q t := h.of hB (fun _ _ _ => rfl)
theorem TmAt.next {w w' : World} {q : TP} {t : Tm} (h : TmAt w w.heap.size q t) (hb : Below w.heap.size w w') : TmAt w' w'.heap.size q t := (h.keep hb (Nat.le_refl _)).more hb.size
theorem ShsAt.next {w w' : World} {S : Option Addr} {l : List Sh} (h : ShsAt w w.heap.size S l) (hb : Below w.heap.size w w') : ShsAt w' w'.heap.size S l := h.of hb.size (fun g k hg => hb.cell (p := ⟨g, k, none⟩) hg)
def Box9 (w : World) (g : Nat) (t : Tm) (q : TP) : Prop := g < w.heap.size /\ Tm9 w g 0 t q /\ ∀ k, w.frozen? ⟨g, k, none⟩ = false
theorem Box9.keep {W W' : World} {g B : Nat} {t : Tm} {q : TP} (h : Box9 W g t q) (hg : g < B) (hb : Below B W W') : Box9 W' g t q :=
 ⟨Nat.lt_of_lt_of_le h.1 hb.size, h.2.1.keep hg hb, fun k => (hb.frozen (p := ⟨g, k, none⟩) hg).trans (h.2.2 k)⟩
theorem Box9.next {W W' : World} {g : Nat} {t : Tm} {q : TP} (h : Box9 W g t q) (hb : Below W.heap.size W W') : Box9 W' g t q := h.keep h.1 hb
theorem Z07 (w : World) (t : Tm) (q : TP) : Box9 (w.alloc (.cells (Y7 t q) 26)) w.heap.size t q :=
 ⟨by simp, ⟨by simp [go_sem], by simp [go_sem], by simp [go_sem], by simp [go_sem], by simp [go_sem], by simp [go_sem], by simp [go_sem], by simp [go_sem], by simp [go_sem]⟩, fun k => by simp [go_sem]⟩
section
variable {H : Type} {enc : TypeId × Value -> H} {W : World} {base : Nat} {held : Bool}
theorem wf64 {b : Int} (h : (Lit.int .i64 b).wf = true) : -9223372036854775808 <= b /\ b <= 9223372036854775807 := by
 have e : (Lit.int .i64 b).wf = (decide (-9223372036854775808 <= b) && decide (b <= 9223372036854775807)) := rfl
 rw [e] at h
 simpa using h
theorem Z3d {fuel : Nat} {cs : List Value} {x : DataW H × List MemPlace} (h : DataW.trod enc Tryz.prog W base (fun _ => true) held fuel 23 cs = some x) :
 ∃ (S : Option Addr) (l : List Sh) (c : Nat), cs = [.slice S l.length c] /\ ShsAt W W.heap.size S l /\ l.length <= 9223372036854775807 /\ l.length <= c /\ (S = none -> c = 0) := by
 have hC : Tryz.prog.cellsOf 45 = 5 := by kernel_rfl
 rcases DataW.trod_slice Tryz.underlying23 h with ⟨hb4, _⟩ | ⟨a, len, cap, elems, rest, n2, hn2, hb4, _, hb, hle, hmm, hel, hx, _⟩
 {exact ⟨none, [], 0, hb4, Or.inl rfl, by simp, by simp, fun _ => rfl⟩}
 {unfold maxLen at hmm
  have hv : ∀ i, ∃ u : Sh × Ptr, i < len -> W.cell? (a.add (i * 5 + 0)) = some (.int .i64 u.1.kind) /\ W.cell? (a.add (i * 5 + 1)) = some (.string ⟨u.1.of_.toArray⟩) /\ W.cell? (a.add (i * 5 + 2)) = some (.string ⟨u.1.name.toArray⟩) /\
   W.cell? (a.add (i * 5 + 3)) = some (.slice u.2.A u.1.names.length u.2.c) /\ W.cell? (a.add (i * 5 + 4)) = some (.slice u.2.P u.1.parts.length u.2.d) /\ ShAt W W.heap.size u.2 u.1 := by
   intro i
   by_cases hi : i < len
   {have h1 := hx i hi
    rw [hC, List.getElem?_eq_getElem (by omega)] at h1
    cases hcs : W.cells? base (a.add (i * 5)) 5 with
    | none => rw [hcs] at h1; cases h1
    | some cs' =>
     rw [hcs] at h1
     obtain ⟨u, q, hu, hat⟩ := ZbQ n2 h1
     subst hu
     obtain ⟨_, hcl, hat'⟩ := World.cells?_some hcs
     refine ⟨(u, q), fun _ => ⟨?_, ?_, ?_, ?_, ?_, hat⟩⟩
     {rw [<- Go.Deep.add_add]; exact hat' 0 (by omega)}
     {rw [<- Go.Deep.add_add]; exact hat' 1 (by omega)}
     {rw [<- Go.Deep.add_add]; exact hat' 2 (by omega)}
     {rw [<- Go.Deep.add_add]; exact hat' 3 (by omega)}
     {rw [<- Go.Deep.add_add]; exact hat' 4 (by omega)}}
   {exact ⟨(⟨0, [], [], [], []⟩, ⟨none, 0, none, 0⟩), fun h => absurd h hi⟩}
  let f := fun i => (hv i).choose
  have hf2 : ∀ i, i < len -> W.cell? (a.add (i * 5 + 0)) = some (.int .i64 (f i).1.kind) /\ W.cell? (a.add (i * 5 + 1)) = some (.string ⟨(f i).1.of_.toArray⟩) /\ W.cell? (a.add (i * 5 + 2)) = some (.string ⟨(f i).1.name.toArray⟩) /\
   W.cell? (a.add (i * 5 + 3)) = some (.slice (f i).2.A (f i).1.names.length (f i).2.c) /\ W.cell? (a.add (i * 5 + 4)) = some (.slice (f i).2.P (f i).1.parts.length (f i).2.d) /\ ShAt W W.heap.size (f i).2 (f i).1 := fun i => (hv i).choose_spec
  have hln : ((List.range len).map fun i => (f i).1).length = len := by simp
  obtain ⟨b, off, spot⟩ := a
  refine ⟨some ⟨b, off, spot⟩, (List.range len).map fun i => (f i).1, cap, by rw [hln]; exact hb4, ?_, by rw [hln]; omega, by rw [hln]; omega, fun h => by cases h⟩
  by_cases h0 : len = 0
  {exact Or.inl (by rw [hln]; exact h0)}
  {have h1 := (hf2 0 (by omega)).1
   have hspot : spot = none := by simpa [Addr.add] using World.cell?_spot h1
   subst hspot
   have hplain : ∀ k, (⟨b, off, none⟩ : Addr).add k = ⟨b, off + k, none⟩ := fun k => Z1c b off k
   refine Or.inr ⟨b, off, fun i => (f i).2, rfl, ?_, ?_, ?_⟩
   {rw [hplain] at h1; exact lt_of_cell h1}
   {intro i hi
    have hin : i < len := by simpa using hi
    obtain ⟨g0, g1, g2, g3, g4, _⟩ := hf2 i hin
    simp only [hplain] at g0 g1 g2 g3 g4
    simp only [List.getElem_map, List.getElem_range]
    exact ⟨g0, g1, g2, g3, g4⟩}
   {intro i hi
    have hin : i < len := by simpa using hi
    simp only [List.getElem_map, List.getElem_range]
    exact (hf2 i hin).2.2.2.2.2}}}
end
end Go.Proofs.YtnkdedejfonbmaaGreatDoor
