/- What the proofs of TermsBare, TermsChecks, TermsDeep, TermsSame, TermsSames want, part 3. -/
import Derived.Test.YtnkdedejfonbmaaGreatDoorK0n2
set_option linter.unusedVariables false
set_option linter.unusedSimpArgs false
set_option maxRecDepth 100000
set_option maxHeartbeats 16000000
namespace Tms
open Shp (Sh join field total)
def quoteT (s : List UInt8) : List UInt8 := [34] ++ s.flatMap Lex.escB ++ [34]
def oper (k : Int) (x : List UInt8) : List UInt8 := if k = 1 \/ k = 6 \/ k = 11 \/ k = 12 \/ k = 13 \/ k = 14 then [40] ++ x ++ [41] else x
def Z2i : List Tm -> Int
 | [] => 0
 | p :: _ => p.kind
def rfield (n x : List UInt8) : List UInt8 := n ++ [32, 61, 32] ++ x
def way (n v s x : List UInt8) : List UInt8 := n ++ [40] ++ field v s ++ [41, 32, 45, 62, 32] ++ x
def binds (ns ss : List (List UInt8)) : List (List UInt8) := (List.range ns.length).map fun i => field (ns.getD i []) (ss.getD i [])
def recs (ns xs : List (List UInt8)) : List (List UInt8) := (List.range ns.length).map fun i => rfield (ns.getD i []) (xs.getD i [])
def ways (ns vs ss xs : List (List UInt8)) : List (List UInt8) := (List.range ns.length).map fun i => way (ns.getD i []) (vs.getD i []) (ss.getD i []) (xs.getD (i + 1) [])
def textOf (t : Tm) (k0 : Int) (ss xs : List (List UInt8)) : List UInt8 :=
 if t.kind = 1 then Sem.dec t.n.toNat
 else if t.kind = 2 then quoteT t.name
 else if t.kind = 3 then [116, 114, 117, 101]
 else if t.kind = 4 then [102, 97, 108, 115, 101]
 else if t.kind = 5 then (if t.of_ = [] then t.name else t.of_ ++ [47] ++ t.name)
 else if t.kind = 6 then [102, 117, 110, 32, 40] ++ join [44, 32] (binds t.names ss) ++ [41, 32, 45, 62, 32] ++ xs.getD 0 []
 else if t.kind = 7 then oper k0 (xs.getD 0 []) ++ [40] ++ join [44, 32] xs.tail ++ [41]
 else if t.kind = 8 then [123] ++ join [44, 32] (recs t.names xs) ++ [125]
 else if t.kind = 9 then oper k0 (xs.getD 0 []) ++ [46] ++ t.name
 else if t.kind = 10 then [64] ++ t.name ++ [40] ++ xs.getD 0 [] ++ [41]
 else if t.kind = 11 then [91] ++ join [44, 32] xs ++ [93, 32, 111, 102, 32] ++ ss.getD 0 []
 else if t.kind = 12 then [105, 102, 32] ++ xs.getD 0 [] ++ [32, 116, 104, 101, 110, 32] ++ xs.getD 1 [] ++ [32, 101, 108, 115, 101, 32] ++ xs.getD 2 [] ++ [32, 97, 115, 32] ++ ss.getD 0 []
 else if t.kind = 13 then [99, 97, 115, 101, 32] ++ xs.getD 0 [] ++ [32, 111, 102, 32, 123] ++ join [32, 124, 32] (ways t.names t.vars ss xs) ++ [125, 32, 97, 115, 32] ++ ss.getD t.names.length []
 else if t.kind = 14 then [108, 101, 116, 32] ++ t.name ++ [32, 61, 32] ++ xs.getD 0 [] ++ [32, 105, 110, 32] ++ xs.getD 1 []
 else if t.kind = 15 then [40] ++ xs.getD 0 [] ++ [32, 97, 115, 32] ++ ss.getD 0 [] ++ [41]
 else if t.kind = 16 then [110, 101, 119, 32] ++ t.name ++ [40] ++ xs.getD 0 [] ++ [41]
 else [114, 97, 119, 32] ++ t.name ++ [40] ++ xs.getD 0 [] ++ [41]
mutual
def text : Tm -> List UInt8
 | ⟨k, o, na, n, ns, vs, ss, ps, a⟩ => textOf ⟨k, o, na, n, ns, vs, ss, ps, a⟩ (Z2i ps) (ss.map Shp.text) (texts ps)
def texts : List Tm -> List (List UInt8)
 | [] => []
 | p :: ps => text p :: texts ps
end
theorem texts_map (l : List Tm) : texts l = l.map text := by
 induction l with
 | nil => rfl
 | cons a l ih => simp [texts, ih]
theorem text_eq (t : Tm) : text t = textOf t (Z2i t.parts) (t.shapes.map Shp.text) (t.parts.map text) := by
 cases t; rw [<- texts_map]; rfl
theorem Zbn {t : Tm} (h : t.kind = 1) : text t = Sem.dec t.n.toNat := by
 rw [text_eq]; unfold textOf; rw [if_pos h]
theorem Zbo {t : Tm} (h : t.kind = 2) : text t = quoteT t.name := by
 rw [text_eq]; unfold textOf; rw [if_neg (by omega), if_pos h]
theorem Zbp {t : Tm} (h : t.kind = 3) : text t = [116, 114, 117, 101] := by
 rw [text_eq]; unfold textOf; rw [if_neg (by omega), if_neg (by omega), if_pos h]
theorem Zbq {t : Tm} (h : t.kind = 4) : text t = [102, 97, 108, 115, 101] := by
 rw [text_eq]; unfold textOf; rw [if_neg (by omega), if_neg (by omega), if_neg (by omega), if_pos h]
theorem Zbr {t : Tm} (h : t.kind = 5) : text t = (if t.of_ = [] then t.name else t.of_ ++ [47] ++ t.name) := by
 rw [text_eq]; unfold textOf; rw [if_neg (by omega), if_neg (by omega), if_neg (by omega), if_neg (by omega), if_pos h]
theorem Zbs {t : Tm} (h : t.kind = 6) : text t = [102, 117, 110, 32, 40] ++ join [44, 32] (binds t.names (t.shapes.map Shp.text)) ++ [41, 32, 45, 62, 32] ++ (t.parts.map text).getD 0 [] := by
 rw [text_eq]; unfold textOf; rw [if_neg (by omega), if_neg (by omega), if_neg (by omega), if_neg (by omega), if_neg (by omega), if_pos h]
theorem Zbt {t : Tm} (h : t.kind = 7) : text t = oper (Z2i t.parts) ((t.parts.map text).getD 0 []) ++ [40] ++ join [44, 32] (t.parts.map text).tail ++ [41] := by
 rw [text_eq]; unfold textOf; rw [if_neg (by omega), if_neg (by omega), if_neg (by omega), if_neg (by omega), if_neg (by omega), if_neg (by omega), if_pos h]
theorem Zbu {t : Tm} (h : t.kind = 8) : text t = [123] ++ join [44, 32] (recs t.names (t.parts.map text)) ++ [125] := by
 rw [text_eq]; unfold textOf; rw [if_neg (by omega), if_neg (by omega), if_neg (by omega), if_neg (by omega), if_neg (by omega), if_neg (by omega), if_neg (by omega), if_pos h]
theorem Zbv {t : Tm} (h : t.kind = 9) : text t = oper (Z2i t.parts) ((t.parts.map text).getD 0 []) ++ [46] ++ t.name := by
 rw [text_eq]; unfold textOf; rw [if_neg (by omega), if_neg (by omega), if_neg (by omega), if_neg (by omega), if_neg (by omega), if_neg (by omega), if_neg (by omega), if_neg (by omega), if_pos h]
theorem Z8v {t : Tm} (h : t.kind = 10) : text t = [64] ++ t.name ++ [40] ++ (t.parts.map text).getD 0 [] ++ [41] := by
 rw [text_eq]; unfold textOf; rw [if_neg (by omega), if_neg (by omega), if_neg (by omega), if_neg (by omega), if_neg (by omega), if_neg (by omega), if_neg (by omega), if_neg (by omega), if_neg (by omega), if_pos h]
theorem Z8w {t : Tm} (h : t.kind = 11) : text t = [91] ++ join [44, 32] (t.parts.map text) ++ [93, 32, 111, 102, 32] ++ (t.shapes.map Shp.text).getD 0 [] := by
 rw [text_eq]; unfold textOf; rw [if_neg (by omega), if_neg (by omega), if_neg (by omega), if_neg (by omega), if_neg (by omega), if_neg (by omega), if_neg (by omega), if_neg (by omega), if_neg (by omega), if_neg (by omega), if_pos h]
theorem Z8x {t : Tm} (h : t.kind = 12) : text t = [105, 102, 32] ++ (t.parts.map text).getD 0 [] ++ [32, 116, 104, 101, 110, 32] ++ (t.parts.map text).getD 1 [] ++ [32, 101, 108, 115, 101, 32] ++ (t.parts.map text).getD 2 [] ++ [32, 97, 115, 32] ++ (t.shapes.map Shp.text).getD 0 [] := by
 rw [text_eq]; unfold textOf; rw [if_neg (by omega), if_neg (by omega), if_neg (by omega), if_neg (by omega), if_neg (by omega), if_neg (by omega), if_neg (by omega), if_neg (by omega), if_neg (by omega), if_neg (by omega), if_neg (by omega), if_pos h]
theorem Z8y {t : Tm} (h : t.kind = 13) : text t = [99, 97, 115, 101, 32] ++ (t.parts.map text).getD 0 [] ++ [32, 111, 102, 32, 123] ++ join [32, 124, 32] (ways t.names t.vars (t.shapes.map Shp.text) (t.parts.map text)) ++ [125, 32, 97, 115, 32] ++ (t.shapes.map Shp.text).getD t.names.length [] := by
 rw [text_eq]; unfold textOf; rw [if_neg (by omega), if_neg (by omega), if_neg (by omega), if_neg (by omega), if_neg (by omega), if_neg (by omega), if_neg (by omega), if_neg (by omega), if_neg (by omega), if_neg (by omega), if_neg (by omega), if_neg (by omega), if_pos h]
theorem Z8z {t : Tm} (h : t.kind = 14) : text t = [108, 101, 116, 32] ++ t.name ++ [32, 61, 32] ++ (t.parts.map text).getD 0 [] ++ [32, 105, 110, 32] ++ (t.parts.map text).getD 1 [] := by
 rw [text_eq]; unfold textOf; rw [if_neg (by omega), if_neg (by omega), if_neg (by omega), if_neg (by omega), if_neg (by omega), if_neg (by omega), if_neg (by omega), if_neg (by omega), if_neg (by omega), if_neg (by omega), if_neg (by omega), if_neg (by omega), if_neg (by omega), if_pos h]
theorem Z8A {t : Tm} (h : t.kind = 15) : text t = [40] ++ (t.parts.map text).getD 0 [] ++ [32, 97, 115, 32] ++ (t.shapes.map Shp.text).getD 0 [] ++ [41] := by
 rw [text_eq]; unfold textOf; rw [if_neg (by omega), if_neg (by omega), if_neg (by omega), if_neg (by omega), if_neg (by omega), if_neg (by omega), if_neg (by omega), if_neg (by omega), if_neg (by omega), if_neg (by omega), if_neg (by omega), if_neg (by omega), if_neg (by omega), if_neg (by omega), if_pos h]
theorem Z8B {t : Tm} (h : t.kind = 16) : text t = [110, 101, 119, 32] ++ t.name ++ [40] ++ (t.parts.map text).getD 0 [] ++ [41] := by
 rw [text_eq]; unfold textOf; rw [if_neg (by omega), if_neg (by omega), if_neg (by omega), if_neg (by omega), if_neg (by omega), if_neg (by omega), if_neg (by omega), if_neg (by omega), if_neg (by omega), if_neg (by omega), if_neg (by omega), if_neg (by omega), if_neg (by omega), if_neg (by omega), if_neg (by omega), if_pos h]
theorem Z8C {t : Tm} (h : t.kind = 17) : text t = [114, 97, 119, 32] ++ t.name ++ [40] ++ (t.parts.map text).getD 0 [] ++ [41] := by
 rw [text_eq]; unfold textOf; rw [if_neg (by omega), if_neg (by omega), if_neg (by omega), if_neg (by omega), if_neg (by omega), if_neg (by omega), if_neg (by omega), if_neg (by omega), if_neg (by omega), if_neg (by omega), if_neg (by omega), if_neg (by omega), if_neg (by omega), if_neg (by omega), if_neg (by omega), if_neg (by omega)]
theorem Z0e {t : Tm} {n v s p : Nat} : lists t n v s p = true ↔ t.names.length = n /\ t.vars.length = v /\ t.shapes.length = s /\ t.parts.length = p := by
 unfold lists; simp [and_assoc]
inductive Kinds (t : Tm) : Prop
 | int (h : t.kind = 1) (a : 0 <= t.n /\ t.n <= 999999999999999)
 | text (h : t.kind = 2) (a : textOk t.name = true)
 | yes (h : t.kind = 3)
 | no (h : t.kind = 4)
 | var (h : t.kind = 5) (a : Lex.isName t.name = true) (b : t.of_ = [] \/ Lex.isName t.of_ = true)
 | fn (h : t.kind = 6) (s : t.shapes.length = t.names.length) (p : t.parts.length = 1)
 | call (h : t.kind = 7) (p : 1 <= t.parts.length)
 | rec_ (h : t.kind = 8) (p : t.parts.length = t.names.length)
 | field (h : t.kind = 9) (a : Lex.isName t.name = true) (p : t.parts.length = 1)
 | case_ (h : t.kind = 10) (a : Lex.isName t.name = true) (p : t.parts.length = 1)
 | list (h : t.kind = 11) (s : t.shapes.length = 1)
 | if_ (h : t.kind = 12) (s : t.shapes.length = 1) (p : t.parts.length = 3)
 | match_ (h : t.kind = 13) (v : t.vars.length = t.names.length) (s : t.shapes.length = t.names.length + 1) (p : t.parts.length = t.names.length + 1)
 | let_ (h : t.kind = 14) (a : Lex.isName t.name = true) (p : t.parts.length = 2)
 | as_ (h : t.kind = 15) (s : t.shapes.length = 1) (p : t.parts.length = 1)
 | new (h : t.kind = 16) (a : Lex.isUpper t.name = true) (p : t.parts.length = 1)
 | raw (h : t.kind = 17) (a : Lex.isUpper t.name = true) (p : t.parts.length = 1)
theorem Z5u {t : Tm} (hf : fits t = true) : Kinds t := by
 have h : fitsK t = true := by unfold fits at hf; simp only [Bool.and_eq_true] at hf; exact hf.2
 unfold fitsK at h
 by_cases k1 : t.kind = 1
 {rw [if_pos k1] at h; simp only [Bool.and_eq_true, decide_eq_true_eq] at h; exact .int k1 ⟨h.1.1.2, h.1.2⟩}
 rw [if_neg k1] at h
 by_cases k2 : t.kind = 2
 {rw [if_pos k2] at h; simp only [Bool.and_eq_true] at h; exact .text k2 h.1}
 rw [if_neg k2] at h
 by_cases k3 : t.kind = 3 \/ t.kind = 4
 {rcases k3 with k3 | k3
  {exact .yes k3}
  {exact .no k3}}
 rw [if_neg k3] at h
 by_cases k5 : t.kind = 5
 {rw [if_pos k5] at h; simp only [Bool.and_eq_true, Bool.or_eq_true, beq_iff_eq] at h; exact .var k5 h.1.1 h.1.2}
 rw [if_neg k5] at h
 by_cases k6 : t.kind = 6
 {rw [if_pos k6] at h; simp only [Bool.and_eq_true, Z0e] at h; exact .fn k6 h.2.2.2.1 h.2.2.2.2}
 rw [if_neg k6] at h
 by_cases k7 : t.kind = 7
 {rw [if_pos k7] at h; simp only [Bool.and_eq_true, decide_eq_true_eq] at h; exact .call k7 h.1.2}
 rw [if_neg k7] at h
 by_cases k8 : t.kind = 8
 {rw [if_pos k8] at h; simp only [Bool.and_eq_true, Z0e] at h; exact .rec_ k8 h.2.2.2.2}
 rw [if_neg k8] at h
 by_cases k9 : t.kind = 9 \/ t.kind = 10
 {rw [if_pos k9] at h; simp only [Bool.and_eq_true, Z0e] at h
  rcases k9 with k9 | k9
  {exact .field k9 h.1 h.2.2.2.2}
  {exact .case_ k9 h.1 h.2.2.2.2}}
 rw [if_neg k9] at h
 by_cases k11 : t.kind = 11
 {rw [if_pos k11] at h; simp only [Bool.and_eq_true, Z0e] at h; exact .list k11 h.2.2.2.1}
 rw [if_neg k11] at h
 by_cases k12 : t.kind = 12
 {rw [if_pos k12] at h; simp only [Bool.and_eq_true, Z0e] at h; exact .if_ k12 h.2.2.2.1 h.2.2.2.2}
 rw [if_neg k12] at h
 by_cases k13 : t.kind = 13
 {rw [if_pos k13] at h; simp only [Bool.and_eq_true, Z0e] at h; exact .match_ k13 h.2.2.1 h.2.2.2.1 h.2.2.2.2}
 rw [if_neg k13] at h
 by_cases k14 : t.kind = 14
 {rw [if_pos k14] at h; simp only [Bool.and_eq_true, Z0e] at h; exact .let_ k14 h.1 h.2.2.2.2}
 rw [if_neg k14] at h
 by_cases k15 : t.kind = 15
 {rw [if_pos k15] at h; simp only [Bool.and_eq_true, Z0e] at h; exact .as_ k15 h.2.2.2.1 h.2.2.2.2}
 rw [if_neg k15] at h
 by_cases k16 : t.kind = 16 \/ t.kind = 17
 {rw [if_pos k16] at h; simp only [Bool.and_eq_true, Z0e] at h
  rcases k16 with k | k
  {exact .new k h.1 h.2.2.2.2}
  {exact .raw k h.1 h.2.2.2.2}}
 rw [if_neg k16] at h; cases h
theorem Z0V {t : Tm} (hf : fits t = true) : (∀ x ∈ t.names, Lex.isName x = true) /\ (∀ x ∈ t.vars, Lex.isName x = true) /\ (∀ s ∈ t.shapes, Shp.check s = 0 /\ hasOpaque s = false) := by
 unfold fits names shapesOk at hf
 simp only [Bool.and_eq_true, List.all_eq_true, decide_eq_true_eq, Bool.not_eq_true'] at hf
 exact ⟨hf.1.1.1.1.1.2.1, hf.1.1.1.1.2.1, hf.1.1.1.2⟩
theorem Z4c {t : Sh} (h : Shp.check t = 0) : Shp.size t <= 400 /\ Shp.right t = true := by
 unfold Shp.check at h
 by_cases h4 : 400 < Shp.size t
 {rw [if_pos h4] at h; omega}
 {rw [if_neg h4] at h
  by_cases h40 : 40 < Shp.deep t
  {rw [if_pos h40] at h; omega}
  {rw [if_neg h40] at h
   cases hr : Shp.right t with
   | false => rw [hr] at h; simp at h
   | true => exact ⟨by omega, rfl⟩}}
theorem ZbX (l : List (List UInt8)) (i : Nat) : (l.getD i []).length <= total l := by
 rw [List.getD_eq_getElem?_getD]
 cases h : l[i]? with
 | none => simp
 | some x => exact Shp.Z7n (List.mem_of_getElem? h)
theorem Z1Q {l : List (List UInt8)} {m : Nat} (h : ∀ x ∈ l, x.length <= m) (i : Nat) : (l.getD i []).length <= m := by
 rw [List.getD_eq_getElem?_getD]
 cases h1 : l[i]? with
 | none => simp
 | some x => exact h x (List.mem_of_getElem? h1)
theorem Z3G {n m : Nat} {f : Nat -> List UInt8} {g : Nat -> Nat} (h : ∀ i, (f i).length <= m + g i) : total ((List.range n).map f) <= m * n + ((List.range n).map g).sum := by
 induction n with
 | zero => simp [total]
 | succ n ih =>
  have := h n
  rw [List.range_succ, List.map_append, List.map_append, Shp.Z2g, List.sum_append, Nat.mul_succ]
  simp [total] at ih ⊢
  omega
theorem Zfz (n : Nat) : ((List.range n).map fun _ => 0).sum = 0 := by
 induction n with
 | zero => rfl
 | succ n ih => rw [List.range_succ, List.map_append, List.sum_append, ih]; rfl
theorem Z5V (xs : List (List UInt8)) : ∀ (n : Nat), ((List.range n).map fun i => (xs.getD i []).length).sum <= total (xs.take n)
 | 0 => by simp
 | n + 1 => by
  have ih := Z5V xs n
  rw [List.range_succ, List.map_append, List.sum_append]
  by_cases h : n < xs.length
  {rw [Shp.Z0C h, Shp.Z2g]
   simp [total, h] at ih ⊢
   omega}
  {have e : xs.take (n + 1) = xs.take n := by rw [List.take_of_length_le (by omega), List.take_of_length_le (by omega)]
   rw [e]
   simp [List.getD_eq_getElem?_getD, List.getElem?_eq_none (Nat.le_of_not_lt h)] at ih ⊢
   omega}
theorem ZdU (xs : List (List UInt8)) (n : Nat) : ((List.range n).map fun i => (xs.getD (i + 1) []).length).sum + (xs.getD 0 []).length <= total xs := by
 have h1 : ∀ n, ((List.range n).map fun i => (xs.getD (i + 1) []).length).sum + (xs.getD 0 []).length = ((List.range (n + 1)).map fun i => (xs.getD i []).length).sum := by
  intro n
  induction n with
  | zero => simp
  | succ n ih =>
   rw [List.range_succ, List.map_append, List.sum_append, List.range_succ (n := n + 1), List.map_append, List.sum_append, <- ih]
   simp; omega
 rw [h1]
 have h2 := Z5V xs (n + 1)
 have h3 := Shp.Z47 xs (n + 1)
 omega
theorem Z6X (s : List UInt8) : (s.flatMap Lex.escB).length <= 2 * s.length := by
 induction s with
 | nil => simp
 | cons c s ih =>
  have : (Lex.escB c).length <= 2 := by
   unfold Lex.escB; split
   {simp}
   {split
    {simp}
    {split <;> simp}}
  rw [List.flatMap_cons, List.length_append, List.length_cons]; omega
theorem ZbY (s : List UInt8) : (quoteT s).length <= 2 * s.length + 2 := by
 have := Z6X s
 unfold quoteT
 simp only [List.length_append, List.length_cons, List.length_nil]; omega
theorem Z8D (k : Int) (x : List UInt8) : (oper k x).length <= x.length + 2 := by
 unfold oper; split
 {simp only [List.length_append, List.length_cons, List.length_nil]; omega}
 {omega}
theorem Z8E {l : List Tm} (h : ∀ p ∈ l, (text p).length + 10 <= 50000 * weight p) : total (l.map text) + 10 * l.length <= 50000 * weights l := by
 induction l with
 | nil => simp [total]
 | cons a l ih =>
  have h1 := h a (by simp)
  have h2 := ih (fun p hp => h p (by simp [hp]))
  simp [total, weights] at h2 ⊢
  omega
theorem ZbZ (l : List (List UInt8)) : (l.getD 0 []).length + total l.tail = total l := by
 cases l with
 | nil => simp [total]
 | cons a l => simp [total]
theorem Za5 {l : List (List UInt8)} (h : l.length = 3) : (l.getD 0 []).length + (l.getD 1 []).length + (l.getD 2 []).length = total l := by
 match l, h with
 | [a, b, c], _ => simp [total]; omega
theorem ZdV {l : List (List UInt8)} (h : l.length = 2) : (l.getD 0 []).length + (l.getD 1 []).length = total l := by
 match l, h with
 | [a, b], _ => simp [total]
theorem Z0t {t : Tm} (h : right t = true) : (text t).length + 10 <= 50000 * weight t := by
 induction t using Tm.ind with
 | h t ih =>
  have hp := Z8E (l := t.parts) (fun p hp => ih p hp (right_part h hp))
  have hf := right_fits h
  obtain ⟨hn, hv, hs⟩ := Z0V hf
  have hn2 : ∀ x ∈ t.names, x.length <= 24 := fun x hx => Shp.Z0U (hn x hx)
  have hv2 : ∀ x ∈ t.vars, x.length <= 24 := fun x hx => Shp.Z0U (hv x hx)
  have hs2 : ∀ x ∈ t.shapes.map Shp.text, x.length <= 40000 := fun x hx => by
   obtain ⟨s, h1, rfl⟩ := List.mem_map.1 hx
   obtain ⟨h2, h3⟩ := Z4c (hs s h1).1
   exact Shp.Z1H h3 h2
  have hx0 := ZbX (t.parts.map text) 0
  have hs0 := Z1Q hs2 0
  rw [Z14]
  cases Z5u hf with
  | int k a =>
   have := Sem.Z36 15 t.n.toNat (by have : (10 : Nat) ^ 15 = 1000000000000000 := rfl; omega) (by omega)
   rw [Zbn k]; omega
  | text k a =>
   have := ZbY t.name
   rw [Zbo k]; omega
  | yes k => rw [Zbp k]; simp; omega
  | no k => rw [Zbq k]; simp; omega
  | var k a b =>
   have h1 := Shp.Z0U a
   rw [Zbr k]
   split
   {omega}
   {rcases b with b | b
    {contradiction}
    {have h2 := Shp.Z0U b
     simp only [List.length_append, List.length_cons, List.length_nil]; omega}}
  | fn k s p =>
   have h1 : total (binds t.names (t.shapes.map Shp.text)) <= 40026 * t.names.length := by
    have := Z3G (n := t.names.length) (m := 40026) (f := fun i => field (t.names.getD i []) ((t.shapes.map Shp.text).getD i [])) (g := fun _ => 0) (fun i => by
     have h1 := Z1Q hn2 i
     have h2 := Z1Q hs2 i
     unfold field
     simp only [List.length_append, List.length_cons, List.length_nil]; omega)
    rw [Zfz] at this
    exact this
   have h2 := Shp.join_len [44, 32] (binds t.names (t.shapes.map Shp.text))
   have h3 : (binds t.names (t.shapes.map Shp.text)).length = t.names.length := by simp [binds]
   rw [Zbs k]
   rw [h3] at h2
   simp only [List.length_append, List.length_cons, List.length_nil] at h2 ⊢
   omega
  | call k p =>
   have h1 := Shp.join_len [44, 32] (t.parts.map text).tail
   have h2 := ZbZ (t.parts.map text)
   have h3 := Z8D (Z2i t.parts) ((t.parts.map text).getD 0 [])
   have h4 : (t.parts.map text).tail.length <= t.parts.length := by simp
   rw [Zbt k]
   simp only [List.length_append, List.length_cons, List.length_nil] at h1 ⊢
   omega
  | rec_ k p =>
   have h1 : total (recs t.names (t.parts.map text)) <= 27 * t.names.length + total (t.parts.map text) := by
    have := Z3G (n := t.names.length) (m := 27) (f := fun i => rfield (t.names.getD i []) ((t.parts.map text).getD i [])) (g := fun i => ((t.parts.map text).getD i []).length) (fun i => by
     have h1 := Z1Q hn2 i
     unfold rfield
     simp only [List.length_append, List.length_cons, List.length_nil]; omega)
    have h2 := Z5V (t.parts.map text) t.names.length
    have h3 := Shp.Z47 (t.parts.map text) t.names.length
    unfold recs
    omega
   have h2 := Shp.join_len [44, 32] (recs t.names (t.parts.map text))
   have h3 : (recs t.names (t.parts.map text)).length = t.names.length := by simp [recs]
   rw [Zbu k]
   rw [h3] at h2
   simp only [List.length_append, List.length_cons, List.length_nil] at h2 ⊢
   omega
  | field k a p =>
   have h3 := Z8D (Z2i t.parts) ((t.parts.map text).getD 0 [])
   rw [Zbv k]
   simp only [List.length_append, List.length_cons, List.length_nil]
   omega
  | case_ k a p =>
   rw [Z8v k]
   simp only [List.length_append, List.length_cons, List.length_nil]
   omega
  | list k s =>
   have h1 := Shp.join_len [44, 32] (t.parts.map text)
   rw [Z8w k]
   simp only [List.length_append, List.length_cons, List.length_nil, List.length_map] at h1 ⊢
   omega
  | if_ k s p =>
   have h1 := Za5 (l := t.parts.map text) (by rw [List.length_map]; exact p)
   rw [Z8x k]
   simp only [List.length_append, List.length_cons, List.length_nil]
   omega
  | match_ k v s p =>
   have h1 : total (ways t.names t.vars (t.shapes.map Shp.text) (t.parts.map text)) + ((t.parts.map text).getD 0 []).length <= 40056 * t.names.length + total (t.parts.map text) := by
    have := Z3G (n := t.names.length) (m := 40056) (f := fun i => way (t.names.getD i []) (t.vars.getD i []) ((t.shapes.map Shp.text).getD i []) ((t.parts.map text).getD (i + 1) [])) (g := fun i => ((t.parts.map text).getD (i + 1) []).length) (fun i => by
     have h1 := Z1Q hn2 i
     have h2 := Z1Q hv2 i
     have h3 := Z1Q hs2 i
     unfold way field
     simp only [List.length_append, List.length_cons, List.length_nil]; omega)
    have h2 := ZdU (t.parts.map text) t.names.length
    unfold ways
    omega
   have h2 := Shp.join_len [32, 124, 32] (ways t.names t.vars (t.shapes.map Shp.text) (t.parts.map text))
   have h3 : (ways t.names t.vars (t.shapes.map Shp.text) (t.parts.map text)).length = t.names.length := by simp [ways]
   have h4 := Z1Q hs2 t.names.length
   rw [Z8y k]
   rw [h3] at h2
   simp only [List.length_append, List.length_cons, List.length_nil] at h2 ⊢
   omega
  | let_ k a p =>
   have h1 := ZdV (l := t.parts.map text) (by rw [List.length_map]; exact p)
   rw [Z8z k]
   simp only [List.length_append, List.length_cons, List.length_nil]
   omega
  | as_ k s p =>
   rw [Z8A k]
   simp only [List.length_append, List.length_cons, List.length_nil]
   omega
  | new k a p =>
   rw [Z8B k]
   simp only [List.length_append, List.length_cons, List.length_nil]
   omega
  | raw k a p =>
   rw [Z8C k]
   simp only [List.length_append, List.length_cons, List.length_nil]
   omega
end Tms
namespace Tms
open Shp (Sh)
def numB (t : Tm) : Bool := t.n == 0 || (t.kind == 1 && decide (0 < t.n) && decide (t.n <= 999999999999999))
def ofB (t : Tm) : Bool := t.of_ == [] || (t.kind == 5 && Lex.isName t.of_)
def nameB (t : Tm) : Bool :=
 if t.kind = 2 then textOk t.name else if t.kind = 5 \/ t.kind = 9 \/ t.kind = 10 \/ t.kind = 14 then Lex.isName t.name else if t.kind = 16 \/ t.kind = 17 then Lex.isUpper t.name else t.name == []
def cntN (k : Int) (n v s p : Nat) : Bool :=
 if k = 1 \/ k = 2 \/ k = 3 \/ k = 4 \/ k = 5 then decide (n = 0 /\ v = 0 /\ s = 0 /\ p = 0)
 else if k = 6 then decide (v = 0 /\ s = n /\ p = 1)
 else if k = 7 then decide (n = 0 /\ v = 0 /\ s = 0 /\ 1 <= p)
 else if k = 8 then decide (v = 0 /\ s = 0 /\ p = n)
 else if k = 9 \/ k = 10 \/ k = 16 \/ k = 17 then decide (n = 0 /\ v = 0 /\ s = 0 /\ p = 1)
 else if k = 11 then decide (n = 0 /\ v = 0 /\ s = 1)
 else if k = 12 then decide (n = 0 /\ v = 0 /\ s = 1 /\ p = 3)
 else if k = 13 then decide (v = n /\ s = n + 1 /\ p = n + 1)
 else if k = 14 then decide (n = 0 /\ v = 0 /\ s = 0 /\ p = 2)
 else if k = 15 then decide (n = 0 /\ v = 0 /\ s = 1 /\ p = 1)
 else false
def cntB (t : Tm) : Bool := cntN t.kind t.names.length t.vars.length t.shapes.length t.parts.length
def fitsP (t : Tm) : Bool := decide (0 <= t.at_) && numB t && ofB t && nameB t && cntB t && t.names.all Lex.isName && Shp.noDup t.names && t.vars.all Lex.isName && shapesOk t.shapes
theorem ZeU (t : Tm) : ((decide (t.kind = 1) || decide (t.n = 0)) && (decide (t.kind = 5) || t.of_ == []) && fitsK t) = (numB t && ofB t && nameB t && cntB t) := by
 unfold numB ofB nameB cntB cntN fitsK lists
 generalize t.names.length = n
 generalize t.vars.length = v
 generalize t.shapes.length = s
 generalize t.parts.length = p
 generalize hN : Lex.isName t.name = bn
 generalize hU : Lex.isUpper t.name = bu
 generalize hO : Lex.isName t.of_ = bo
 generalize hT : textOk t.name = bt
 generalize (t.name == []) = be
 generalize (t.of_ == []) = bf
 generalize t.n = N
 generalize t.kind = k
 clear hN hU hO hT
 by_cases h : k < 1 \/ 17 < k
 {rw [if_neg (by omega), if_neg (by omega), if_neg (by omega), if_neg (by omega), if_neg (by omega), if_neg (by omega), if_neg (by omega), if_neg (by omega), if_neg (by omega), if_neg (by omega), if_neg (by omega), if_neg (by omega), if_neg (by omega), if_neg (by omega)]
  rw [if_neg (by omega), if_neg (by omega), if_neg (by omega)]
  rw [if_neg (by omega), if_neg (by omega), if_neg (by omega), if_neg (by omega), if_neg (by omega), if_neg (by omega), if_neg (by omega), if_neg (by omega), if_neg (by omega), if_neg (by omega)]
  simp}
 {have : k = 1 \/ k = 2 \/ k = 3 \/ k = 4 \/ k = 5 \/ k = 6 \/ k = 7 \/ k = 8 \/ k = 9 \/ k = 10 \/ k = 11 \/ k = 12 \/ k = 13 \/ k = 14 \/ k = 15 \/ k = 16 \/ k = 17 := by omega
  clear h
  rcases this with h | h | h | h | h | h | h | h | h | h | h | h | h | h | h | h | h
  all_goals
   subst h
   rw [Bool.eq_iff_iff]
   simp
   cases bn <;> cases bu <;> cases bo <;> cases bt <;> cases be <;> cases bf <;> simp <;> omega}
theorem Zgb (t : Tm) : fitsP t = fits t := by
 have h := ZeU t
 unfold fitsP fits names
 rw [Bool.eq_iff_iff]
 have h' := Bool.eq_iff_iff.1 h
 simp only [Bool.and_eq_true, Bool.or_eq_true, Bool.not_true, Bool.not_false, decide_eq_true_eq] at h' ⊢
 constructor
 {rintro ⟨⟨⟨⟨⟨⟨⟨⟨a, b⟩, c⟩, d⟩, e⟩, f⟩, g⟩, i⟩, j⟩
  obtain ⟨⟨x, y⟩, z⟩ := h'.2 ⟨⟨⟨b, c⟩, d⟩, e⟩
  exact ⟨⟨⟨⟨⟨⟨a, f, Or.inr g⟩, i, Or.inl trivial⟩, j⟩, x⟩, y⟩, z⟩}
 {rintro ⟨⟨⟨⟨⟨⟨a, f, g⟩, i, _⟩, j⟩, x⟩, y⟩, z⟩
  obtain ⟨⟨⟨b, c⟩, d⟩, e⟩ := h'.1 ⟨⟨x, y⟩, z⟩
  refine ⟨⟨⟨⟨⟨⟨⟨⟨a, b⟩, c⟩, d⟩, e⟩, f⟩, ?_⟩, i⟩, j⟩
  rcases g with g | g
  {cases g}
  {exact g}}
mutual
def few : Tm -> Bool
 | ⟨_, _, _, _, ns, _, _, ps, _⟩ => decide (ns.length <= 9223372036854775806) && fews ps
def fews : List Tm -> Bool
 | [] => true
 | p :: ps => few p && fews ps
end
theorem Z3n (t : Tm) : few t = (decide (t.names.length <= 9223372036854775806) && fews t.parts) := by cases t; rfl
theorem Z3o (l : List Tm) : fews l = l.all few := by
 induction l with
 | nil => rfl
 | cons a l ih => simp [fews, ih]
theorem Zh1 {t : Tm} (h : few t = true) : t.names.length <= 9223372036854775806 := by
 rw [Z3n, Bool.and_eq_true, decide_eq_true_eq] at h; exact h.1
theorem Zgc {t p : Tm} (h : few t = true) (hp : p ∈ t.parts) : few p = true := by
 rw [Z3n, Z3o, Bool.and_eq_true, List.all_eq_true] at h; exact h.2 p hp
theorem Z09 {t : Tm} (h : tame t = true) : few t = true := by
 induction t using Tm.ind with
 | h t ih =>
  rw [Z3n, Z3o, Bool.and_eq_true, decide_eq_true_eq, List.all_eq_true]
  exact ⟨by have := (Z0x h).2; omega, fun p hp => ih p hp (Z1C h hp)⟩
end Tms
namespace Lex
def scanR (s : List UInt8) : Except (Int × Nat) (List (Tok × Nat)) := if 4096 < s.length then .error (3, 4096) else match toks s 0 with
 | .error x => .error x
 | .ok l => .ok (l ++ [(⟨0, []⟩, s.length)])
theorem Zea {s : List UInt8} {e : Int} {k : Nat} (h : token s = .error (e, k)) : k <= s.length /\ (e = 60 \/ e = 30) := by
 cases s with
 | nil =>
  obtain ⟨rfl, rfl⟩ := Prod.mk.inj (Except.error.inj h)
  exact ⟨Nat.zero_le _, Or.inl rfl⟩
 | cons x r =>
  unfold token at h
  simp only at h
  have fin : ∀ {e : Int} {k : Nat}, (Except.error (60, 0) : Except (Int × Nat) (Tok × Nat)) = .error (e, k) -> k <= (x :: r).length /\ (e = 60 \/ e = 30) := fun h => by
   obtain ⟨rfl, rfl⟩ := Prod.mk.inj (Except.error.inj h)
   exact ⟨Nat.zero_le _, Or.inl rfl⟩
  split at h
  {split at h
   {cases h}
   split at h
   {cases h}
   split at h
   {cases h}
   {exact fin h}}
  split at h
  {split at h
   {cases h}
   split at h
   {cases h}
   {exact fin h}}
  split at h
  {obtain ⟨h1, h2, h3⟩ := Z1P (x :: r).length r (by simp)
   unfold quoted finish at h
   rw [List.tail_cons] at h
   rcases hq : body (x :: r).length r with ⟨ps, rest⟩
   rw [hq] at h h2
   simp only at h h2
   cases rest with
   | nil => exact fin h
   | cons c q =>
    simp only at h
    split at h
    {cases h}
    split at h
    {exact fin h}
    {obtain ⟨rfl, rfl⟩ := Prod.mk.inj (Except.error.inj h)
     have := congrArg List.length h2
     rw [List.length_append, List.length_cons] at this
     exact ⟨by rw [List.length_cons]; omega, Or.inr rfl⟩}}
  split at h
  {cases h}
  split at h
  {cases h}
  {exact fin h}
theorem Z6i : ∀ (f : Nat) (l : List UInt8) (n : Nat), remark f l = .error n -> n <= l.length
 | 0, l, n, h => by cases h
 | f + 1, [], n, h => by cases h
 | f + 1, c :: r, n, h => by
  rw [remark] at h
  split at h
  {cases h}
  split at h
  {obtain rfl := Except.error.inj h
   omega}
  {rename_i h0
   rcases hq : Utf.first (c :: r) with ⟨p, k⟩
   rw [hq] at h h0
   obtain ⟨_, _, _, h4⟩ := Utf.Z10 hq h0
   simp only at h
   split at h
   {cases h}
   {rename_i m hm
    obtain rfl : k + m = n := Except.error.inj h
    have := Z6i f _ m hm
    rw [List.length_drop] at this
    omega}}
theorem Z2p : ∀ (k : Nat) (a : List UInt8) (i : Nat) (e : Int) (j : Nat), a.length <= k -> toks a i = .error (e, j) -> j <= i + a.length /\ (e = 60 \/ e = 30)
 | _, [], _, _, _, _, h => by cases h
 | 0, c :: r, _, _, _, h, _ => by simp at h
 | k + 1, c :: r, i, e, j, hk, h => by
  rw [List.length_cons] at hk ⊢
  by_cases hb : blank c = true
  {rw [Z0B hb] at h
   have := Z2p k r (i + 1) e j (by omega) h
   exact ⟨by omega, this.2⟩}
  {have hbf : blank c = false := by simpa using hb
   have hh1 : ∀ x ∈ (c :: r).head?, blank x = false := fun x hx => by
    obtain rfl : c = x := by simpa using hx
    exact hbf
   cases hr : hasRemark (c :: r) with
   | true =>
    rw [Z0H hh1 hr] at h
    cases hm : remark (c :: r).length (c :: r) with
    | error n =>
     rw [hm] at h
     obtain ⟨rfl, rfl⟩ := Prod.mk.inj (Except.error.inj h)
     have := Z6i _ _ _ hm
     rw [List.length_cons] at this
     exact ⟨by omega, Or.inr rfl⟩
    | ok n =>
     rw [hm] at h
     have h1 := Z11 hr (f := r.length) hm
     have h2 := Z1U _ _ _ hm
     rw [List.length_cons] at h2
     have := Z2p k _ (i + n) e j (by rw [List.length_drop, List.length_cons]; omega) h
     rw [List.length_drop, List.length_cons] at this
     exact ⟨by omega, this.2⟩
   | false =>
    rw [Z0P (by simp) hh1 hr] at h
    cases ht : token (c :: r) with
    | error x =>
     obtain ⟨e', n⟩ := x
     rw [ht] at h
     obtain ⟨rfl, rfl⟩ := Prod.mk.inj (Except.error.inj h)
     have := Zea ht
     rw [List.length_cons] at this
     exact ⟨by omega, this.2⟩
    | ok x =>
     obtain ⟨t, n⟩ := x
     rw [ht] at h
     simp only at h
     obtain ⟨h1, h2, _⟩ := Z0Q ht
     rw [List.length_cons] at h2
     cases hq : toks ((c :: r).drop n) (i + n) with
     | ok m => rw [hq] at h; cases h
     | error y =>
      rw [hq] at h
      obtain rfl : y = (e, j) := Except.error.inj h
      have := Z2p k _ (i + n) e j (by rw [List.length_drop, List.length_cons]; omega) hq
      rw [List.length_drop, List.length_cons] at this
      exact ⟨by omega, this.2⟩}
def up (k : Nat) : Except Nat Nat -> Except Nat Nat
 | .ok n => .ok (k + n)
 | .error n => .error (k + n)
theorem Z7U (x y : UInt8) (q : List UInt8) : hasRemark (x :: y :: q) = (x == 45 && y == 45) := by
 by_cases h1 : x = 45
 {by_cases h2 : y = 45
  {subst h1; subst h2; rfl}
  {have : (y == 45) = false := beq_eq_false_iff_ne.2 h2
   rw [this, Bool.and_false]
   unfold hasRemark; split
   {rename_i h; simp at h; exact absurd h.2.1 h2}
   {rfl}}}
 {have : (x == 45) = false := beq_eq_false_iff_ne.2 h1
  rw [this, Bool.false_and]
  unfold hasRemark; split
  {rename_i h; simp at h; exact absurd h.1 h1}
  {rfl}}
def kindR (l : List UInt8) : Option Int := if isWord l then some 5 else if isName l then some 1 else if isUpper l then some 2 else if isSign l then some 6 else if number l then some 3 else if (Sem.parse l).isSome then some 7 else none
def longest : List UInt8 -> List UInt8
 | [] => []
 | c :: r => if small c || great c then (c :: r).takeWhile nameB else if digit c then (c :: r).takeWhile lumpB else if isSign ((c :: r).take 2) then (c :: r).take 2 else [c]
theorem Z4r {L : List (List UInt8)} {p : UInt8 -> Bool} (hL : L.all (fun x => match x with | [] => false | a :: _ => p a) = true) {c : UInt8} {t : List UInt8} (hc : p c = false) : L.contains (c :: t) = false := by
 cases h : L.contains (c :: t) with
 | false => rfl
 | true =>
  have := List.all_eq_true.1 hL _ (List.contains_iff_mem.1 h)
  simp only at this
  rw [this] at hc; cases hc
theorem Zby {c : UInt8} {t : List UInt8} (h : small c = false) : isWord (c :: t) = false :=
 Z4r (p := small) (by decide) h
theorem Zbz {c : UInt8} {t : List UInt8} (h : (small c || great c || digit c) = true) : isSign (c :: t) = false :=
 Z4r (p := fun c => !(small c || great c || digit c)) (by decide) (by rw [h]; rfl)
theorem Z7t {c : UInt8} {t : List UInt8} (h : digit c = false) : number (c :: t) = false := by
 unfold number; simp [h]
theorem classes (c : UInt8) : (digit c = true -> small c = false /\ great c = false) /\ (small c = true -> digit c = false /\ great c = false) /\ (great c = true -> digit c = false /\ small c = false) := by
 unfold digit small great
 simp only [Bool.and_eq_true, decide_eq_true_eq, Bool.and_eq_false_iff, decide_eq_false_iff_not]
 omega
theorem Z8G {c : UInt8} {t : List UInt8} (h : digit c = false) : Sem.parse (c :: t) = none := by
 cases hp : Sem.parse (c :: t) with
 | none => rfl
 | some v =>
  exfalso
  obtain ⟨_, h2⟩ := Sem.Z2S hp
  cases hd : Sem.dec v.maj.toNat with
  | nil => exact Sem.Z3a _ hd
  | cons a q =>
   have := Sem.Z35 v.maj.toNat a (by rw [hd]; simp)
   unfold Sem.text at h2
   rw [hd, List.cons_append] at h2
   rw [<- (List.cons.inj h2).1] at h
   unfold digit at h
   simp only [Bool.and_eq_false_iff, decide_eq_false_iff_not] at h
   omega
theorem Zc9 (c : UInt8) (r : List UInt8) : token (c :: r) =
 if small c || great c then
  (let t := (c :: r).takeWhile nameB
   if isWord t then .ok (⟨5, t⟩, t.length) else if isName t then .ok (⟨1, t⟩, t.length) else if isUpper t then .ok (⟨2, t⟩, t.length) else .error (60, 0))
 else if digit c then
  (let t := (c :: r).takeWhile lumpB
   if number t then .ok (⟨3, t⟩, t.length) else if (Sem.parse t).isSome then .ok (⟨7, t⟩, t.length) else .error (60, 0))
 else if c = 34 then quoted (c :: r)
 else if decide (2 <= (c :: r).length) && isSign ((c :: r).take 2) then .ok (⟨6, (c :: r).take 2⟩, 2)
 else if isSign [c] then .ok (⟨6, [c]⟩, 1)
 else .error (60, 0) := rfl
theorem Z3h (c : UInt8) (r : List UInt8) : longest (c :: r) = if small c || great c then (c :: r).takeWhile nameB else if digit c then (c :: r).takeWhile lumpB else if isSign ((c :: r).take 2) then (c :: r).take 2 else [c] := rfl
theorem Zeb {c : UInt8} {r : List UInt8} (h34 : c ≠ 34) : token (c :: r) = match kindR (longest (c :: r)) with
 | some k => .ok (⟨k, longest (c :: r)⟩, (longest (c :: r)).length)
 | none => .error (60, 0) := by
 obtain ⟨k1, k2, k3⟩ := classes c
 rw [Zc9, Z3h]
 by_cases h1 : (small c || great c) = true
 {rw [if_pos h1, if_pos h1]
  have hn : nameB c = true := by unfold nameB; rw [h1]; rfl
  have hd : digit c = false := by
   rcases Bool.or_eq_true _ _ ▸ h1 with h | h
   {exact (k2 h).1}
   {exact (k3 h).1}
  have hs : (small c || great c || digit c) = true := by rw [h1]; rfl
  rw [List.takeWhile_cons_of_pos hn]
  unfold kindR
  simp only
  rw [Zbz hs, Z7t hd, Z8G hd]
  split
  {rfl}
  split
  {rfl}
  split
  {rfl}
  {rfl}}
 {rw [if_neg h1, if_neg h1]
  have hsm : small c = false := by simpa using (fun h => h1 (by rw [h]; rfl) : small c ≠ true)
  have hgr : great c = false := by simpa using (fun h => h1 (by rw [h]; simp) : great c ≠ true)
  have hname : ∀ t, isName (c :: t) = false := fun t => by show (decide ((c :: t).length <= 24) && small c && (c :: t).all nameB && !isWord (c :: t)) = false; rw [hsm]; simp
  have hupper : ∀ t, isUpper (c :: t) = false := fun t => by show (decide ((c :: t).length <= 24) && great c && (c :: t).all nameB) = false; rw [hgr]; simp
  by_cases h2 : digit c = true
  {rw [if_pos h2, if_pos h2]
   have hn : lumpB c = true := by unfold lumpB; rw [h2]; simp
   have hs : (small c || great c || digit c) = true := by rw [h2]; simp
   rw [List.takeWhile_cons_of_pos hn]
   unfold kindR
   rw [Zby hsm, hname, hupper, Zbz hs]
   simp only [Bool.false_eq_true, if_false]
   split
   {rfl}
   split
   {rfl}
   {rfl}}
  {rw [if_neg h2, if_neg h2, if_neg h34]
   have hdg : digit c = false := by simpa using h2
   have hk : ∀ t, kindR (c :: t) = if isSign (c :: t) then some 6 else none := fun t => by
    unfold kindR
    rw [Zby hsm, hname, hupper, Z7t hdg, Z8G hdg]
    simp
   cases r with
   | nil =>
    have ht : ([c] : List UInt8).take 2 = [c] := rfl
    rw [ht]
    simp only [ite_self, List.length_cons, List.length_nil]
    rw [hk]
    by_cases hsg : isSign [c] = true
    {simp [hsg]}
    {simp [hsg]}
   | cons d q =>
    have ht : (c :: d :: q).take 2 = [c, d] := rfl
    rw [ht]
    have hl : decide (2 <= (c :: d :: q).length) = true := by simp
    rw [hl, Bool.true_and]
    by_cases hsg : isSign [c, d] = true
    {rw [if_pos hsg, if_pos hsg, hk, if_pos hsg]; rfl}
    {rw [if_neg hsg, if_neg hsg, hk]
     by_cases hs1 : isSign [c] = true
     {rw [if_pos hs1, if_pos hs1]; rfl}
     {rw [if_neg hs1, if_neg hs1]}}}}
def unesc (d : UInt8) : Option UInt8 := if d = 110 then some 10 else if d = 116 then some 9 else if d = 34 then some 34 else if d = 92 then some 92 else none
def unq : List UInt8 -> List UInt8 × Nat × Bool
 | [] => ([], 0, false)
 | c :: r => if c = 34 then ([], 1, true) else if c = 92 then
  (match r with
  | [] => ([], 0, false)
  | d :: q => match unesc d with
   | none => ([], 0, false)
   | some x => (x :: (unq q).1, (unq q).2.1 + 2, (unq q).2.2))
  else if c.toNat < 32 then ([], 0, false) else (c :: (unq r).1, (unq r).2.1 + 1, (unq r).2.2)
theorem Z1n (c : UInt8) (r : List UInt8) : unq (c :: r) = if c = 34 then ([], 1, true) else if c = 92 then
 (match r with
 | [] => ([], 0, false)
 | d :: q => match unesc d with
  | none => ([], 0, false)
  | some x => (x :: (unq q).1, (unq q).2.1 + 2, (unq q).2.2))
 else if c.toNat < 32 then ([], 0, false) else (c :: (unq r).1, (unq r).2.1 + 1, (unq r).2.2) := by cases r <;> rfl
theorem Z6Y : ∀ (k : Nat) (l : List UInt8), l.length <= k -> (unq l).2.1 <= l.length /\ (unq l).1.length <= (unq l).2.1
 | _, [], _ => ⟨Nat.le_refl _, Nat.le_refl _⟩
 | 0, c :: r, h => by simp at h
 | k + 1, c :: r, h => by
  rw [List.length_cons] at h
  rw [Z1n]
  split
  {simp}
  split
  {cases r with
   | nil => simp
   | cons d q =>
    rw [List.length_cons] at h
    simp only
    have := Z6Y k q (by omega)
    split
    {simp}
    {simp only [List.length_cons]; omega}}
  split
  {simp}
  {have := Z6Y k r (by omega)
   simp only [List.length_cons]; omega}
theorem Z7u : ∀ (b l : List UInt8), (∀ x ∈ b, x ≠ 34 /\ x ≠ 92 /\ 32 <= x.toNat) -> unq (b ++ l) = (b ++ (unq l).1, (unq l).2.1 + b.length, (unq l).2.2)
 | [], l, _ => by simp
 | x :: b, l, h => by
  obtain ⟨h1, h2, h3⟩ := h x (by simp)
  rw [List.cons_append, Z1n, if_neg h1, if_neg h2, if_neg (by omega), Z7u b l (fun y hy => h y (List.mem_cons_of_mem _ hy))]
  simp only [List.cons_append, List.length_cons]
  congr 2
theorem Zec {p : Int} (h : Utf.pt p = true) (h32 : 32 <= p) (n1 : p ≠ 34) (n2 : p ≠ 92) : ∀ x ∈ Utf.bytes p, x ≠ 34 /\ x ≠ 92 /\ 32 <= x.toNat := by
 obtain ⟨a, r, e, h1, h2, h3⟩ := Z2A h h32 n1 n2
 obtain ⟨a', r', e', _, _, h4⟩ := Utf.Z0S p h
 rw [e] at e'
 obtain ⟨rfl, rfl⟩ := List.cons.inj e'
 rw [e]
 intro x hx
 rcases List.mem_cons.1 hx with rfl | hx
 {exact ⟨h1, h3, by omega⟩}
 {have := (h4 x hx).1
  refine ⟨?_, ?_, by omega⟩
  {rintro rfl; revert this; decide}
  {rintro rfl; revert this; decide}}
theorem ZgD {p : Int} (h : okP p = true) (l : List UInt8) : unq (escP p ++ l) = (Utf.bytes p ++ (unq l).1, (unq l).2.1 + (escP p).length, (unq l).2.2) := by
 simp only [okP, Bool.and_eq_true, Bool.or_eq_true, decide_eq_true_eq] at h
 obtain ⟨h1, h2⟩ := h
 unfold escP
 by_cases e1 : p = 10
 {subst e1; rw [if_pos rfl]; show unq (92 :: 110 :: l) = _; rw [Z1n]; simp [unesc]; rfl}
 rw [if_neg e1]
 by_cases e2 : p = 9
 {subst e2; rw [if_pos rfl]; show unq (92 :: 116 :: l) = _; rw [Z1n]; simp [unesc]; rfl}
 rw [if_neg e2]
 by_cases e3 : p = 34
 {subst e3; rw [if_pos rfl]; show unq (92 :: 34 :: l) = _; rw [Z1n]; simp [unesc]; rfl}
 rw [if_neg e3]
 by_cases e4 : p = 92
 {subst e4; rw [if_pos rfl]; show unq (92 :: 92 :: l) = _; rw [Z1n]; simp [unesc]; rfl}
 rw [if_neg e4]
 exact Z7u _ _ (Zec h1 (by omega) e3 e4)
theorem Z8H : ∀ (ps : List Int) (l : List UInt8), (∀ p ∈ ps, okP p = true) -> unq (esc ps ++ l) = (Utf.enc ps ++ (unq l).1, (unq l).2.1 + (esc ps).length, (unq l).2.2)
 | [], l, _ => by simp [esc, Utf.enc]
 | p :: ps, l, h => by
  have e : esc (p :: ps) ++ l = escP p ++ (esc ps ++ l) := by simp [esc]
  have e2 : (esc (p :: ps)).length = (escP p).length + (esc ps).length := by simp [esc]
  rw [e, ZgD (h p (by simp)), Z8H ps l (fun q hq => h q (List.mem_cons_of_mem _ hq)), Utf.Z0F, e2]
  simp only [List.append_assoc]
  congr 2
  omega
theorem ZbA : ∀ (ps : List Int), (∀ p ∈ ps, okP p = true) -> ∃ qs, esc ps = Utf.enc qs /\ ∀ q ∈ qs, Utf.pt q = true
 | [], _ => ⟨[], rfl, by simp⟩
 | p :: ps, h => by
  obtain ⟨qs, h1, h2⟩ := ZbA ps (fun q hq => h q (List.mem_cons_of_mem _ hq))
  have hp := h p (by simp)
  simp only [okP, Bool.and_eq_true, Bool.or_eq_true, decide_eq_true_eq] at hp
  have e : esc (p :: ps) = escP p ++ esc ps := by simp [esc]
  have two : ∀ x : Int, x = 110 \/ x = 116 \/ x = 34 \/ x = 92 -> escP p = Utf.bytes 92 ++ Utf.bytes x -> ∃ qs, esc (p :: ps) = Utf.enc qs /\ ∀ q ∈ qs, Utf.pt q = true := fun x hx he => by
   refine ⟨92 :: x :: qs, by rw [e, he, h1, Utf.Z0F, Utf.Z0F, List.append_assoc], fun q hq => ?_⟩
   rcases List.mem_cons.1 hq with rfl | hq
   {rfl}
   rcases List.mem_cons.1 hq with rfl | hq
   {rcases hx with rfl | rfl | rfl | rfl <;> rfl}
   {exact h2 q hq}
  by_cases e1 : p = 10
  {exact two 110 (by simp) (by subst e1; rfl)}
  by_cases e2 : p = 9
  {exact two 116 (by simp) (by subst e2; rfl)}
  by_cases e3 : p = 34
  {exact two 34 (by simp) (by subst e3; rfl)}
  by_cases e4 : p = 92
  {exact two 92 (by simp) (by subst e4; rfl)}
  {have he : escP p = Utf.bytes p := by unfold escP; rw [if_neg e1, if_neg e2, if_neg e3, if_neg e4]
   refine ⟨p :: qs, by rw [e, he, h1, Utf.Z0F], fun q hq => ?_⟩
   rcases List.mem_cons.1 hq with rfl | hq
   {exact hp.1}
   {exact h2 q hq}}
theorem Zca (r : List UInt8) : ∃ ps rest, Utf.Reads ((34 :: r).take (1 + (unq r).2.1)) ps rest /\
 quoted (34 :: r) = if rest ≠ [] then .error (30, (Utf.enc ps).length) else if (unq r).2.2 then .ok (⟨4, (unq r).1⟩, 1 + (unq r).2.1) else .error (60, 0) := by
 obtain ⟨b1, b2, b3⟩ := Z1P (34 :: r).length r (by simp)
 have hq : quoted (34 :: r) = finish (body (34 :: r).length r) := rfl
 rcases hx : body (34 :: r).length r with ⟨ps, tl⟩
 rw [hx] at b1 b2 b3 hq
 simp only at b1 b2 b3
 rw [hq, b2, Z8H ps tl b1]
 obtain ⟨qs, hqs, hpt⟩ := ZbA ps b1
 have hpt34 : ∀ q ∈ 34 :: qs, Utf.pt q = true := fun q hq => by
  rcases List.mem_cons.1 hq with rfl | hq
  {rfl}
  {exact hpt q hq}
 have h34 : Utf.enc (34 :: qs) = 34 :: Utf.enc qs := rfl
 -- how far the bytes go
 have htake : ∀ n, (34 :: (esc ps ++ tl)).take (1 + (n + (esc ps).length)) = Utf.enc (34 :: qs) ++ tl.take n := fun n => by
  rw [show 1 + (n + (esc ps).length) = ((esc ps).length + n) + 1 by omega, List.take_succ_cons, List.take_length_add_append, h34, <- hqs]
  rfl
 have stop : tl.length = 0 \/ (∃ c q, tl = c :: q /\ c ≠ 34 /\ (c = 92 \/ c.toNat < 32)) -> unq tl = ([], 0, false) -> finish (ps, tl) = .error (60, 0) -> ∃ ps_1 rest, Utf.Reads ((34 :: (esc ps ++ tl)).take (1 + ((unq tl).2.1 + (esc ps).length))) ps_1 rest /\
  finish (ps, tl) = if rest ≠ [] then .error (30, (Utf.enc ps_1).length) else if (unq tl).2.2 then .ok (⟨4, Utf.enc ps ++ (unq tl).1⟩, 1 + ((unq tl).2.1 + (esc ps).length)) else .error (60, 0) := fun _ hu hf => by
  refine ⟨34 :: qs, [], ⟨hpt34, ?_, rfl⟩, ?_⟩
  {rw [hu, htake]; rfl}
  {rw [hu, hf]; rfl}
 cases tl with
 | nil => exact stop (Or.inl rfl) rfl rfl
 | cons c q =>
  by_cases c34 : c = 34
  {have hu : unq (c :: q) = ([], 1, true) := by rw [Z1n, if_pos c34]
   have hf : finish (ps, c :: q) = .ok (⟨4, Utf.enc ps⟩, (esc ps).length + 2) := by unfold finish; simp only; rw [if_pos c34]
   rw [hu, hf]
   refine ⟨34 :: qs ++ [34], [], ⟨fun p hp => ?_, ?_, rfl⟩, ?_⟩
   {rcases List.mem_append.1 hp with hp | hp
    {exact hpt34 p hp}
    {obtain rfl : p = 34 := by simpa using hp
     rfl}}
   {rw [htake, c34, List.append_nil, Utf.Z1F]; rfl}
   {simp only [ne_eq, not_true_eq_false, if_false, List.append_nil, if_true]
    rw [show 1 + (1 + (esc ps).length) = (esc ps).length + 2 by omega]}}
  {have hf : finish (ps, c :: q) = if c.toNat < 32 \/ c = 92 then .error (60, 0) else .error (30, (esc ps).length + 1) := by unfold finish; simp only; rw [if_neg c34]
   by_cases c92 : c = 92
   {refine stop (Or.inr ⟨c, q, rfl, c34, Or.inl c92⟩) ?_ (by rw [hf, if_pos (Or.inr c92)])
    rw [Z24, if_neg (by rintro (h | h); exact c34 h; rw [c92] at h; revert h; decide), if_pos c92] at b3
    rw [Z1n, if_neg c34, if_pos c92]
    cases q with
    | nil => rfl
    | cons d u =>
     simp only at b3 ⊢
     have : unesc d = none := by
      unfold unesc
      by_cases d1 : d = 110
      {rw [if_pos d1] at b3; cases b3}
      rw [if_neg d1] at b3 ⊢
      by_cases d2 : d = 116
      {rw [if_pos d2] at b3; cases b3}
      rw [if_neg d2] at b3 ⊢
      by_cases d3 : d = 34
      {rw [if_pos d3] at b3; cases b3}
      rw [if_neg d3] at b3 ⊢
      by_cases d4 : d = 92
      {rw [if_pos d4] at b3; cases b3}
      rw [if_neg d4]
     rw [this]}
   {by_cases c32 : c.toNat < 32
    {exact stop (Or.inr ⟨c, q, rfl, c34, Or.inr c32⟩) (by rw [Z1n, if_neg c34, if_neg c92, if_pos c32]) (by rw [hf, if_pos (Or.inl c32)])}
    {have hu : unq (c :: q) = (c :: (unq q).1, (unq q).2.1 + 1, (unq q).2.2) := by rw [Z1n, if_neg c34, if_neg c92, if_neg c32]
     rw [hf, if_neg (by rintro (h | h); exact c32 h; exact c92 h)]
     rw [Z24, if_neg (by rintro (h | h); exact c34 h; exact c32 h), if_neg c92] at b3
     have hno : (Utf.first (c :: q)).2 = 0 := by
      by_cases h : (Utf.first (c :: q)).2 = 0
      {exact h}
      {rw [if_neg h] at b3; cases b3}
     have hl : (unq (c :: q)).2.1 = (unq q).2.1 + 1 := by rw [hu]
     refine ⟨34 :: qs, (c :: q).take ((unq q).2.1 + 1), ⟨hpt34, by rw [hl, htake], ?_⟩, ?_⟩
     {apply Utf.Z2e
      by_cases h : (Utf.first ((c :: q).take ((unq q).2.1 + 1))).2 = 0
      {exact h}
      {have := Z48 h ((c :: q).drop ((unq q).2.1 + 1))
       rw [List.take_append_drop] at this
       rw [this] at hno; exact absurd hno h}}
     {rw [if_pos (by simp), h34, List.length_cons, hqs]}}}}
theorem Z6j : ∀ (f : Nat) (l : List UInt8), l.length <= f -> ∃ ps rest, Utf.Reads (l.takeWhile (· != 10)) ps rest /\
 remark f l = if rest ≠ [] then .error (Utf.enc ps).length else .ok (l.takeWhile (· != 10)).length
 | 0, l, h => by
  obtain rfl : l = [] := List.eq_nil_of_length_eq_zero (by omega)
  exact ⟨[], [], ⟨by simp, rfl, rfl⟩, rfl⟩
 | f + 1, [], _ => ⟨[], [], ⟨by simp, rfl, rfl⟩, rfl⟩
 | f + 1, c :: r, h => by
  rw [List.length_cons] at h
  by_cases c10 : c = 10
  {subst c10
   exact ⟨[], [], ⟨by simp, rfl, rfl⟩, by rw [remark, if_pos rfl]; rfl⟩}
  {have hp : (c != 10) = true := by simpa using c10
   obtain ⟨t, ht⟩ : ∃ t, t = (c :: r).takeWhile (· != 10) := ⟨_, rfl⟩
   obtain ⟨d, hd⟩ : ∃ d, c :: r = t ++ d := ⟨_, by rw [ht]; exact (List.takeWhile_append_dropWhile).symm⟩
   by_cases hk : (Utf.first (c :: r)).2 = 0
   {refine ⟨[], t, ⟨by simp, by rw [<- ht]; rfl, ?_⟩, ?_⟩
    {apply Utf.Z2e
     by_cases h : (Utf.first t).2 = 0
     {exact h}
     {have := Z48 h d
      rw [<- hd] at this
      rw [this] at hk; exact absurd hk h}}
    {have hne : t ≠ [] := by rw [ht, List.takeWhile_cons, if_pos hp]; simp
     rw [if_pos hne, remark, if_neg c10, if_pos hk]; rfl}}
   {rcases hf : Utf.first (c :: r) with ⟨p, k⟩
    rw [hf] at hk
    simp only at hk
    obtain ⟨h1, h2, h3, h4⟩ := Utf.Z10 hf hk
    obtain ⟨ps, rest, i1, i2⟩ := Z6j f ((c :: r).drop k) (by rw [List.length_drop, List.length_cons]; omega)
    have hb10 : ∀ x ∈ Utf.bytes p, (x != 10) = true := by
     obtain ⟨a, q, e, _, _, h5⟩ := Utf.Z0S p h1
     rw [e] at h3 ⊢
     intro x hx
     rcases List.mem_cons.1 hx with rfl | hx
     {rw [List.cons_append] at h3
      rw [<- (List.cons.inj h3).1]; exact hp}
     {have := (h5 x hx).1
      have : x ≠ 10 := by rintro rfl; revert this; decide
      simpa using this}
    have htw : (c :: r).takeWhile (· != 10) = Utf.bytes p ++ ((c :: r).drop k).takeWhile (· != 10) := by
     conv => lhs; rw [h3]
     rw [List.takeWhile_append_of_pos hb10]
    refine ⟨p :: ps, rest, ⟨fun x hx => ?_, ?_, i1.none⟩, ?_⟩
    {rcases List.mem_cons.1 hx with rfl | hx
     {exact h1}
     {exact i1.pts x hx}}
    {rw [htw, Utf.Z0F, List.append_assoc, <- i1.text]}
    {rw [remark, if_neg c10, hf]
     simp only
     rw [if_neg hk, i2, htw, Utf.Z0F, List.length_append, List.length_append, Utf.Z0q, <- h2]
     by_cases hr : rest = []
     {subst hr; simp}
     {rw [if_pos hr, if_pos hr]}}}}
end Lex
