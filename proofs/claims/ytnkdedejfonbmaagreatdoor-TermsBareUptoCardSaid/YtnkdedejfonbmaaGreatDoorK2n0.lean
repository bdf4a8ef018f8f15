/- What the proofs of TermsBare, TermsChecks, TermsSame, TermsSames want, part 0. -/
import Derived.Test.YtnkdedejfonbmaaGreatDoorRows
import Derived.Deep.DeepHandedRow
import Derived.LaidLaws
import Derived.WalkKit
import Derived.ProofKit
import Derived.OpenShut
import Derived.Lib.SmallJoins
import Derived.Test.YtnkdedejfonbmaaGreatDoorK0n5
set_option linter.unusedVariables false
set_option linter.unusedSimpArgs false
set_option maxRecDepth 100000
set_option maxHeartbeats 16000000
namespace Go.Proofs.YtnkdedejfonbmaaGreatDoor
open Go.RowKit Tms
open Shp (Sh)
theorem ZdL {H : Type} (d : DataW H) : 1 <= Rows.uptoBulk d := by
 cases d with
 | lit l => cases l <;> simp [Rows.uptoBulk]
 | _ => simp [Rows.uptoBulk]
theorem Z7h {H : Type} : ∀ (l : List (DataW H)), l.length <= Rows.uptoBulkAll l
 | [] => Nat.le_refl _
 | a :: l => by
  have h1 := ZdL a
  have h2 := Z7h l
  simp only [Rows.uptoBulkAll, List.length_cons]
  omega
section
variable {H : Type} {enc : TypeId × Value -> H} {W : World} {base : Nat} {held : Bool}
theorem ZbR {l : List (DataW H)} (h : l.length = 9) : Rows.uptoBulk l[2] + Rows.uptoBulk l[4] + Rows.uptoBulk l[7] <= Rows.uptoBulkAll l := by
 match l, h with
 | [a, b, c, d, e, f, g, h, i], _ => simp [Rows.uptoBulkAll]; omega
theorem Z3R {n : Nat} {f : Nat -> Tm} {b : Nat -> Nat} (h : ∀ i, i < n -> weight (f i) <= b i) : weights ((List.range n).map f) <= ((List.range n).map b).sum := by
 induction n with
 | zero => simp [weights]
 | succ n ih =>
  have h1 := ih (fun i hi => h i (by omega))
  have h2 := h n (by omega)
  have e : ∀ (l m : List Tm), weights (l ++ m) = weights l + weights m := by
   intro l m
   induction l with
   | nil => simp [weights]
   | cons a l ih => simp [weights, ih]; omega
  rw [List.range_succ, List.map_append, List.map_append, List.sum_append, e]
  simp [weights]
  omega
theorem Z7i (l : List (DataW H)) : Rows.uptoBulkAll l = (l.map Rows.uptoBulk).sum := by
 induction l with
 | nil => rfl
 | cons a l ih => simp [Rows.uptoBulkAll, ih]
theorem Z5k {l : List Nat} {n : Nat} (h : l.length = n) : (List.range n).map (fun i => l.getD i 0) = l := by
 subst h
 refine List.ext_getElem (by simp) (fun i h1 h2 => ?_)
 simp only [List.getElem_map, List.getElem_range, List.getD_eq_getElem?_getD, List.getElem?_eq_getElem h2, Option.getD_some]
theorem Z9Z {fuel : Nat} {cs : List Value} {x : DataW H × List MemPlace} {t e : TypeId} {A : Option Addr} {n c : Nat} (hu : Tryz.prog.underlying t = some (.slice e)) (h : DataW.trod enc Tryz.prog W base (fun _ => true) held fuel t cs = some x) (hcs : cs = [.slice A n c]) : n <= Rows.uptoBulk x.1 := by
 rcases DataW.trod_slice hu h with ⟨h4, _⟩ | ⟨a, len, cap, elems, rest, n2, _, h4, hx, _, _, _, hel, _⟩
 {rw [h4] at hcs; simp at hcs; omega}
 {rw [h4] at hcs
  simp only [List.cons.injEq, Value.slice.injEq, and_true] at hcs
  rw [hx]
  simp only [Rows.uptoBulk]
  have := Z7h (elems.map (·.1))
  rw [List.length_map] at this
  omega}
theorem Z7j : ∀ (fuel : Nat) {cs : List Value} {x : DataW H × List MemPlace}, DataW.trod enc Tryz.prog W base (fun _ => true) held fuel 26 cs = some x ->
 ∃ (t : Tm) (q : TP), cs = [.int .i64 t.kind, .string ⟨t.of_.toArray⟩, .string ⟨t.name.toArray⟩, .int .i64 t.n, .slice q.A t.names.length q.c, .slice q.V t.vars.length q.e, .slice q.S t.shapes.length q.s, .slice q.P t.parts.length q.d, .int .i64 t.at_] /\ TmAt W W.heap.size q t /\ weight t <= Rows.uptoBulk x.1 := by
 intro fuel
 induction fuel using Nat.strongRecOn with
 | _ fuel IH =>
 intro cs x h
 obtain ⟨xs, n, hn, hxe, hlen, hxl, hf⟩ := DataW.trod_struct Tryz.underlying26 h
 have hC : Tryz.prog.cellsOf 26 = 9 := by kernel_rfl
 have c1 : Tryz.prog.cellsOf 3 = 1 := by kernel_rfl
 have c9 : Tryz.prog.cellsOf 9 = 1 := by kernel_rfl
 have c22 : Tryz.prog.cellsOf 22 = 1 := by kernel_rfl
 have c23 : Tryz.prog.cellsOf 23 = 1 := by kernel_rfl
 have c24 : Tryz.prog.cellsOf 24 = 1 := by kernel_rfl
 rw [hC] at hlen
 match cs, hlen with
 | [a0, a1, a2, a3, a4, a5, a6, a7, a8], _ =>
  have hz : xs.length = 9 := hxl
  have hbx : Rows.uptoBulk x.1 = Rows.uptoBulkAll (xs.map (·.1)) + 1 := by rw [hxe]; rfl
  have h9 := ZbR (l := xs.map (·.1)) (by rw [List.length_map]; exact hxl)
  simp only [List.getElem_map] at h9
  have f0 := hf 0 _ rfl
  have f1 := hf 1 _ rfl
  have f2 := hf 2 _ rfl
  have f3 := hf 3 _ rfl
  have f4 := hf 4 _ rfl
  have f5 := hf 5 _ rfl
  have f6 := hf 6 _ rfl
  have f7 := hf 7 _ rfl
  have f8 := hf 8 _ rfl
  change DataW.trod enc _ W base _ held n 3 (([a0, a1, a2, a3, a4, a5, a6, a7, a8].drop 0).take (Tryz.prog.cellsOf 3)) = _ at f0
  change DataW.trod enc _ W base _ held n 9 (([a0, a1, a2, a3, a4, a5, a6, a7, a8].drop 1).take (Tryz.prog.cellsOf 9)) = _ at f1
  change DataW.trod enc _ W base _ held n 9 (([a0, a1, a2, a3, a4, a5, a6, a7, a8].drop 2).take (Tryz.prog.cellsOf 9)) = _ at f2
  change DataW.trod enc _ W base _ held n 3 (([a0, a1, a2, a3, a4, a5, a6, a7, a8].drop 3).take (Tryz.prog.cellsOf 3)) = _ at f3
  change DataW.trod enc _ W base _ held n 22 (([a0, a1, a2, a3, a4, a5, a6, a7, a8].drop 4).take (Tryz.prog.cellsOf 22)) = _ at f4
  change DataW.trod enc _ W base _ held n 22 (([a0, a1, a2, a3, a4, a5, a6, a7, a8].drop 5).take (Tryz.prog.cellsOf 22)) = _ at f5
  change DataW.trod enc _ W base _ held n 23 (([a0, a1, a2, a3, a4, a5, a6, a7, a8].drop 6).take (Tryz.prog.cellsOf 23)) = _ at f6
  change DataW.trod enc _ W base _ held n 24 (([a0, a1, a2, a3, a4, a5, a6, a7, a8].drop 7).take (Tryz.prog.cellsOf 24)) = _ at f7
  change DataW.trod enc _ W base _ held n 3 (([a0, a1, a2, a3, a4, a5, a6, a7, a8].drop 8).take (Tryz.prog.cellsOf 3)) = _ at f8
  rw [c1, List.getElem?_eq_getElem (by omega)] at f0
  rw [c9, List.getElem?_eq_getElem (by omega)] at f1
  rw [c9, List.getElem?_eq_getElem (by omega)] at f2
  rw [c1, List.getElem?_eq_getElem (by omega)] at f3
  rw [c22, List.getElem?_eq_getElem (by omega)] at f4
  rw [c22, List.getElem?_eq_getElem (by omega)] at f5
  rw [c23, List.getElem?_eq_getElem (by omega)] at f6
  rw [c24, List.getElem?_eq_getElem (by omega)] at f7
  rw [c1, List.getElem?_eq_getElem (by omega)] at f8
  obtain ⟨b0, hb0, _, w0⟩ := DataW.trod_int Tryz.underlying3 f0
  obtain ⟨b1, hb1, _, hm1⟩ := DataW.trod_string Tryz.underlying9 f1
  obtain ⟨b2, hb2, hx2, hm2⟩ := DataW.trod_string Tryz.underlying9 f2
  obtain ⟨b3, hb3, _, w3⟩ := DataW.trod_int Tryz.underlying3 f3
  obtain ⟨A, l, c, hb4, hS, hl, hlc, hA0, hly⟩ := Z1G f4
  obtain ⟨V, lv, e, hb5, hSv, hlv, hlve, hV0, hlvy⟩ := Z1G f5
  obtain ⟨S, ls, s, hb6, hSs, hls, hlss, hS0⟩ := Z3d f6
  obtain ⟨b8, hb8, _, w8⟩ := DataW.trod_int Tryz.underlying3 f8
  have hlnm : ∀ A' n' c', [a4] = [Value.slice A' n' c'] -> n' <= Rows.uptoBulk (xs[4]'(by omega)).1 := fun A' n' c' e => Z9Z Tryz.underlying22 (by simpa using f4) (by simpa using e)
  unfold maxLen at hm1 hm2
  simp at hb0 hb1 hb2 hb3 hb4 hb5 hb6 hb8
  subst hb0 hb1 hb2 hb3 hb4 hb5 hb6 hb8
  have ht2 : b2.data.toList.length + 1 <= Rows.uptoBulk (xs[2]'(by omega)).1 := by
   rw [hx2]
   simp only [Rows.uptoBulk]
   omega
  have ht4 : l.length <= Rows.uptoBulk (xs[4]'(by omega)).1 := hlnm _ _ _ rfl
  have i0 : -9223372036854775808 <= b0 /\ b0 <= 9223372036854775807 := wf64 w0
  have i3 : -9223372036854775808 <= b3 /\ b3 <= 9223372036854775807 := wf64 w3
  have i8 : -9223372036854775808 <= b8 /\ b8 <= 9223372036854775807 := wf64 w8
  rcases DataW.trod_slice Tryz.underlying24 f7 with ⟨hb7, _⟩ | ⟨a, len, cap, elems, rest, n2, hn2, hb7, hx7, hb, hle, hmm, hel, hx, _⟩
  {simp at hb7
   subst hb7
   exact ⟨⟨b0, b1.data.toList, b2.data.toList, b3, l, lv, ls, [], b8⟩, ⟨A, c, V, e, S, s, none, 0⟩, rfl,
    .mk _ _ 0 0 (fun _ => ⟨none, 0, none, 0, none, 0, none, 0⟩) ⟨by rw [<- Lib.size_eq]; exact hm1, by rw [<- Lib.size_eq]; exact hm2, hly, hlvy, hl, hlv, hls, by simp, hlc, hlve, hlss, by simp, hA0, hV0, hS0, fun _ => rfl, i3, i8, i0⟩ hS hSv hSs (Or.inl rfl) (fun i h => absurd h (by simp)) (fun i h => absurd h (by simp)), by rw [Z14, hbx]; simp only [weights]; omega⟩}
  {simp at hb7
   subst hb7
   unfold maxLen at hmm
   have hv : ∀ i, ∃ u : Tm × TP, i < len -> (TmAt W W.heap.size u.2 u.1 /\ weight u.1 <= (elems.map fun e => Rows.uptoBulk e.1).getD i 0) /\ ∀ j (hj : j < 9), W.cell? (a.add (i * 9 + j)) = some ([.int .i64 u.1.kind, .string ⟨u.1.of_.toArray⟩, .string ⟨u.1.name.toArray⟩, .int .i64 u.1.n, .slice u.2.A u.1.names.length u.2.c, .slice u.2.V u.1.vars.length u.2.e, .slice u.2.S u.1.shapes.length u.2.s, .slice u.2.P u.1.parts.length u.2.d, .int .i64 u.1.at_][j]'hj) := by
    intro i
    by_cases hi : i < len
    {have h1 := hx i hi
     rw [hC, List.getElem?_eq_getElem (by omega)] at h1
     cases hcs : W.cells? base (a.add (i * 9)) 9 with
     | none => rw [hcs] at h1; cases h1
     | some cs' =>
      rw [hcs] at h1
      obtain ⟨u, q, hu, hat, htm⟩ := IH n2 (by omega) h1
      subst hu
      obtain ⟨_, hcl, hat'⟩ := World.cells?_some hcs
      refine ⟨(u, q), fun _ => ⟨⟨hat, by rw [List.getD_eq_getElem?_getD, List.getElem?_eq_getElem (by rw [List.length_map]; omega)]; simpa using htm⟩, fun j hj => ?_⟩⟩
      rw [<- Go.Deep.add_add]; exact (hat' j (by simpa using hj)).trans (List.getElem?_eq_getElem _)}
    {exact ⟨(⟨0, [], [], 0, [], [], [], [], 0⟩, ⟨none, 0, none, 0, none, 0, none, 0⟩), fun h => absurd h hi⟩}
   let f := fun i => (hv i).choose
   have hf2 : ∀ i, i < len -> (TmAt W W.heap.size (f i).2 (f i).1 /\ weight (f i).1 <= (elems.map fun e => Rows.uptoBulk e.1).getD i 0) /\ ∀ j (hj : j < 9), W.cell? (a.add (i * 9 + j)) = some ([.int .i64 (f i).1.kind, .string ⟨(f i).1.of_.toArray⟩, .string ⟨(f i).1.name.toArray⟩, .int .i64 (f i).1.n, .slice (f i).2.A (f i).1.names.length (f i).2.c, .slice (f i).2.V (f i).1.vars.length (f i).2.e, .slice (f i).2.S (f i).1.shapes.length (f i).2.s, .slice (f i).2.P (f i).1.parts.length (f i).2.d, .int .i64 (f i).1.at_][j]'hj) := fun i => (hv i).choose_spec
   have hln : ((List.range len).map fun i => (f i).1).length = len := by simp
   refine ⟨⟨b0, b1.data.toList, b2.data.toList, b3, l, lv, ls, (List.range len).map fun i => (f i).1, b8⟩, ⟨A, c, V, e, S, s, some a, cap⟩, by simp, ?_, ?_⟩
   rotate_left
   {have hw := Z3R (fun i hi => (hf2 i hi).1.2)
    rw [Z5k (by rw [List.length_map]; exact hel)] at hw
    rw [Z14, hbx]
    have h7 : Rows.uptoBulk (xs[7]'(by omega)).1 = Rows.uptoBulkAll (elems.map (·.1)) + Rows.uptoBulkAll (rest.map (·.1)) + 1 := by rw [hx7]; rfl
    rw [Z7i, List.map_map] at h7
    have h8 : (elems.map (Rows.uptoBulk ∘ fun x => x.1)).sum = (elems.map fun e => Rows.uptoBulk e.1).sum := rfl
    simp only
    omega}
   obtain ⟨b, off, spot⟩ := a
   have hsm : TSmall ⟨b0, b1.data.toList, b2.data.toList, b3, l, lv, ls, (List.range len).map fun i => (f i).1, b8⟩ ⟨A, c, V, e, S, s, some ⟨b, off, spot⟩, cap⟩ :=
    ⟨by rw [<- Lib.size_eq]; exact hm1, by rw [<- Lib.size_eq]; exact hm2, hly, hlvy, hl, hlv, hls, by simp; omega, hlc, hlve, hlss, by simp; omega, hA0, hV0, hS0, (fun h => by cases h), i3, i8, i0⟩
   by_cases h0 : len = 0
   {exact .mk _ _ 0 0 (fun _ => ⟨none, 0, none, 0, none, 0, none, 0⟩) hsm hS hSv hSs (Or.inl (by simp [h0])) (fun i h => absurd h (by simp [h0])) (fun i h => absurd h (by simp [h0]))}
   {have h1 := (hf2 0 (by omega)).2 0 (by omega)
    have hspot : spot = none := by simpa [Addr.add] using World.cell?_spot h1
    subst hspot
    have hplain : ∀ k, (⟨b, off, none⟩ : Addr).add k = ⟨b, off + k, none⟩ := fun k => Z1c b off k
    refine .mk _ _ b off (fun i => (f i).2) hsm hS hSv hSs (Or.inr ⟨rfl, ?_⟩) ?_ ?_
    {rw [hplain] at h1; exact lt_of_cell h1}
    {intro i hi
     have hin : i < len := by simpa using hi
     have g := (hf2 i hin).2
     simp only [hplain] at g
     simp only [List.getElem_map, List.getElem_range]
     exact ⟨g 0 (by omega), g 1 (by omega), g 2 (by omega), g 3 (by omega), g 4 (by omega), g 5 (by omega), g 6 (by omega), g 7 (by omega), g 8 (by omega)⟩}
    {intro i hi
     have hin : i < len := by simpa using hi
     simp only [List.getElem_map, List.getElem_range]
     exact (hf2 i hin).1.1}}}
end
end Go.Proofs.YtnkdedejfonbmaaGreatDoor
namespace Go.Proofs.YtnkdedejfonbmaaGreatDoor
open Go.RowKit Tms
open Shp (Sh)
theorem Z37 {t : Tm} {n : Nat} (h : weight t <= n) (h2 : n <= 1048576) : tame t = true := decide_eq_true (Nat.le_trans h h2)
end Go.Proofs.YtnkdedejfonbmaaGreatDoor
