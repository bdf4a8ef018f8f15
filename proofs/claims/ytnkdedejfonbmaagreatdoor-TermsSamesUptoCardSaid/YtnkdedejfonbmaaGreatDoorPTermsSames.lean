/- TermsSames: any trees are the same expression, or not, as the document says; for all values of a bulk of at most 1048576 that the row lets in, with the program's variables laid as their texts lay them. -/
import Derived.Test.YtnkdedejfonbmaaGreatDoorRows
import Derived.Deep.DeepHandedRow
import Derived.LaidLaws
import Derived.WalkKit
import Derived.ProofKit
import Derived.OpenShut
import Derived.Lib.SmallJoins
import Derived.Deep.RegionHeld3
import Derived.StillTailTactics
import Derived.ShutString
import Derived.SizedLaws
import Derived.ChangeOld
import Derived.Below
import Derived.JoinedCond
import Derived.Test.YtnkdedejfonbmaaGreatDoorTie
import Derived.Test.YtnkdedejfonbmaaGreatDoorCards
import Derived.LaidMore
import Derived.Lay
import Derived.SevenTiedAt
import Derived.Test.YtnkdedejfonbmaaGreatDoorK2n0
import Derived.Test.YtnkdedejfonbmaaGreatDoorK7n0
import Derived.Test.YtnkdedejfonbmaaGreatDoorK8n2
import Derived.Test.YtnkdedejfonbmaaGreatDoorK0n23
set_option linter.unusedVariables false
set_option linter.unusedSimpArgs false
set_option maxRecDepth 100000
set_option maxHeartbeats 16000000
namespace Go.Proofs.YtnkdedejfonbmaaGreatDoor
open Go.RowKit Tms
open Shp (Sh)
section
variable {H : Type} {enc : TypeId × Value -> H} {W : World} {base : Nat} {held : Bool}
theorem ZbS {fuel : Nat} {cs : List Value} {x : DataW H × List MemPlace} (h : DataW.trod enc Tryz.prog W base (fun _ => true) held fuel 24 cs = some x) :
 ∃ (S : Option Addr) (l : List Tm) (c : Nat), cs = [.slice S l.length c] /\ TmsAt W W.heap.size S l /\ l.length <= 9223372036854775807 /\ l.length <= c /\ (S = none -> c = 0) /\ weights l <= Rows.uptoBulk x.1 := by
 have hC : Tryz.prog.cellsOf 26 = 9 := by kernel_rfl
 rcases DataW.trod_slice Tryz.underlying24 h with ⟨hb4, _⟩ | ⟨a, len, cap, elems, rest, n2, hn2, hb4, hx7, hb, hle, hmm, hel, hx, _⟩
 {exact ⟨none, [], 0, hb4, Or.inl rfl, by simp, by simp, fun _ => rfl, Nat.zero_le _⟩}
 {unfold maxLen at hmm
  have hv : ∀ i, ∃ u : Tm × TP, i < len -> (TmAt W W.heap.size u.2 u.1 /\ weight u.1 <= (elems.map fun e => Rows.uptoBulk e.1).getD i 0) /\ ∀ j (hj : j < 9), W.cell? (a.add (i * 9 + j)) = some ([.int .i64 u.1.kind, .string ⟨u.1.of_.toArray⟩, .string ⟨u.1.name.toArray⟩, .int .i64 u.1.n, .slice u.2.A u.1.names.length u.2.c, .slice u.2.V u.1.vars.length u.2.e, .slice u.2.S u.1.shapes.length u.2.s, .slice u.2.P u.1.parts.length u.2.d, .int .i64 u.1.at_][j]'hj) := by
   intro i
   by_cases hi : i < len
   {have h1 := hx i hi
    rw [hC, List.getElem?_eq_getElem (by omega)] at h1
    cases hcs : W.cells? base (a.add (i * 9)) 9 with
    | none => rw [hcs] at h1; cases h1
    | some cs' =>
     rw [hcs] at h1
     obtain ⟨u, q, hu, hat, htm⟩ := Z7j n2 h1
     subst hu
     obtain ⟨_, hcl, hat'⟩ := World.cells?_some hcs
     refine ⟨(u, q), fun _ => ⟨⟨hat, by rw [List.getD_eq_getElem?_getD, List.getElem?_eq_getElem (by rw [List.length_map]; omega)]; simpa using htm⟩, fun j hj => ?_⟩⟩
     rw [<- Go.Deep.add_add]; exact (hat' j (by simpa using hj)).trans (List.getElem?_eq_getElem _)}
   {exact ⟨(⟨0, [], [], 0, [], [], [], [], 0⟩, ⟨none, 0, none, 0, none, 0, none, 0⟩), fun h => absurd h hi⟩}
  let f := fun i => (hv i).choose
  have hf2 : ∀ i, i < len -> (TmAt W W.heap.size (f i).2 (f i).1 /\ weight (f i).1 <= (elems.map fun e => Rows.uptoBulk e.1).getD i 0) /\ ∀ j (hj : j < 9), W.cell? (a.add (i * 9 + j)) = some ([.int .i64 (f i).1.kind, .string ⟨(f i).1.of_.toArray⟩, .string ⟨(f i).1.name.toArray⟩, .int .i64 (f i).1.n, .slice (f i).2.A (f i).1.names.length (f i).2.c, .slice (f i).2.V (f i).1.vars.length (f i).2.e, .slice (f i).2.S (f i).1.shapes.length (f i).2.s, .slice (f i).2.P (f i).1.parts.length (f i).2.d, .int .i64 (f i).1.at_][j]'hj) := fun i => (hv i).choose_spec
  have hln : ((List.range len).map fun i => (f i).1).length = len := by simp
  obtain ⟨b, off, spot⟩ := a
  refine ⟨some ⟨b, off, spot⟩, (List.range len).map fun i => (f i).1, cap, by rw [hln]; exact hb4, ?_, by rw [hln]; omega, by rw [hln]; omega, (fun h => by cases h), ?_⟩
  rotate_left
  {have hw := Z3R (fun i hi => (hf2 i hi).1.2)
   rw [Z5k (by rw [List.length_map]; exact hel)] at hw
   have h7 : Rows.uptoBulk x.1 = Rows.uptoBulkAll (elems.map (·.1)) + Rows.uptoBulkAll (rest.map (·.1)) + 1 := by rw [hx7]; rfl
   rw [Z7i, List.map_map] at h7
   have h8 : (elems.map (Rows.uptoBulk ∘ fun x => x.1)).sum = (elems.map fun e => Rows.uptoBulk e.1).sum := rfl
   omega}
  by_cases h0 : len = 0
  {exact Or.inl (by rw [hln]; exact h0)}
  {have h1 := (hf2 0 (by omega)).2 0 (by omega)
   have hspot : spot = none := by simpa [Addr.add] using World.cell?_spot h1
   subst hspot
   have hplain : ∀ k, (⟨b, off, none⟩ : Addr).add k = ⟨b, off + k, none⟩ := fun k => Z1c b off k
   refine Or.inr ⟨b, off, fun i => (f i).2, rfl, ?_, ?_, ?_⟩
   {rw [hplain] at h1; exact lt_of_cell h1}
   {intro i hi
    have hin : i < len := by simpa using hi
    have g := (hf2 i hin).2
    simp only [hplain] at g
    simp only [List.getElem_map, List.getElem_range]
    exact ⟨g 0 (by omega), g 1 (by omega), g 2 (by omega), g 3 (by omega), g 4 (by omega), g 5 (by omega), g 6 (by omega), g 7 (by omega), g 8 (by omega)⟩}
   {intro i hi
    have hin : i < len := by simpa using hi
    simp only [List.getElem_map, List.getElem_range]
    exact (hf2 i hin).1.1}}}
end
end Go.Proofs.YtnkdedejfonbmaaGreatDoor
namespace Go.Proofs.YtnkdedejfonbmaaGreatDoor
open Go.RowKit Tms
open Shp (Sh)
theorem ZbT {H : Type} {enc : TypeId × Value -> H} {W : World} {base : Nat} {held : Bool} {A : Option Addr} {n c : Nat} {d : DataW H} {p : List MemPlace}
 (h : DataW.Trod enc Tryz.prog W base (fun _ => true) held 24 (.slice A n c) d p) :
 ∃ l : List Tm, n = l.length /\ TmsAt W W.heap.size A l /\ l.length <= 9223372036854775807 /\ weights l <= Rows.uptoBulk d := by
 obtain ⟨n', hn⟩ := h
 obtain ⟨S, l, c', hcs, hat, hl, _, _, hw⟩ := ZbS hn
 simp only [Value.cells, List.cons.injEq, Value.slice.injEq, and_true] at hcs
 obtain ⟨rfl, rfl, rfl⟩ := hcs
 exact ⟨l, rfl, hat, hl, hw⟩
theorem Zfw {l : List Tm} {n : Nat} (h : weights l <= n) (h2 : n <= 1048576) : ∀ t ∈ l, tame t = true := fun t ht => Z37 (Nat.le_trans (Z5j ht) h) h2
theorem Z55 (t u : Tm) (q r : TP) (w : World) (hq : TmAt w w.heap.size q t) (hr : TmAt w w.heap.size r u) (hh : hd1 false t u = false) :
 Y9 18 #[.agg (Y7 t q), .agg (Y7 u r), .bool false] w (.bool (eqB false t u)) := by
 have HF := Y1 (ZbH hh)
 have hb0 := Z02 w (.cells (Y7 t q) 26)
 have hb1 := Z08 hb0 (.cells (Y7 u r) 26)
 have HB1 := Y1 hb1
 have hB := (Z07 w t q).next (Z02 _ (.cells (Y7 u r) 26))
 have hC := Z07 (w.alloc (.cells (Y7 t q) 26)) u r
 rw [World.size_alloc] at hC
 have HB := Y1 hB
 have HC := Y1 hC
 have HH := Y1 hh
 clear hh hb0 hb1 hq hr
 obtain ⟨_, ⟨c0, c1, c2, c3, c4, c5, c6, c7, c8⟩, _⟩ := hB
 obtain ⟨_, ⟨d0, d1, d2, d3, d4, d5, d6, d7, d8⟩, _⟩ := hC
 unfold hd1 at HH
 cases e1 : (t.kind == u.kind)
 {have n1 : (t.kind != u.kind) = true := by unfold bne; rw [e1]; rfl
  go_enter Tryz.func18, Tryz.ntmps18
  go_wp2
  go_ret
  exact ⟨by rw [HF.out]; rfl, HB1.out⟩}
 {have n1 : (t.kind != u.kind) = false := by unfold bne; rw [e1]; rfl
  cases e2 : (t.of_ == u.of_)
  {have n2 : (t.of_ != u.of_) = true := by unfold bne; rw [e2]; rfl
   go_enter Tryz.func18, Tryz.ntmps18
   go_wp2
   go_ret
   exact ⟨by rw [HF.out]; rfl, HB1.out⟩}
  {have n2 : (t.of_ != u.of_) = false := by unfold bne; rw [e2]; rfl
   cases e3 : (t.name == u.name)
   {have n3 : (t.name != u.name) = true := by unfold bne; rw [e3]; rfl
    go_enter Tryz.func18, Tryz.ntmps18
    go_wp2
    go_ret
    exact ⟨by rw [HF.out]; rfl, HB1.out⟩}
   {have n3 : (t.name != u.name) = false := by unfold bne; rw [e3]; rfl
    cases e4 : (t.n == u.n)
    {have n4 : (t.n != u.n) = true := by unfold bne; rw [e4]; rfl
     go_enter Tryz.func18, Tryz.ntmps18
     go_wp2
     go_ret
     exact ⟨by rw [HF.out]; rfl, HB1.out⟩}
    {have n4 : (t.n != u.n) = false := by unfold bne; rw [e4]; rfl
     exact absurd HH.out (by simp [e1, e2, e3, e4])}}}}
theorem Z56 (t u : Tm) (q r : TP) (w : World) (hq : TmAt w w.heap.size q t) (hr : TmAt w w.heap.size r u) (hh1 : hd1 false t u = true) (hh2 : hd2 t u = false) :
 Y9 18 #[.agg (Y7 t q), .agg (Y7 u r), .bool false] w (.bool (eqB false t u)) := by
 have HF := Y1 (ZbI (pl := false) hh2)
 have HH := Y1 hh2
 clear hh2
 have hb0 := Z02 w (.cells (Y7 t q) 26)
 have hb1 := Z08 hb0 (.cells (Y7 u r) 26)
 have HB1 := Y1 hb1
 have hB := (Z07 w t q).next (Z02 _ (.cells (Y7 u r) 26))
 have hC := Z07 (w.alloc (.cells (Y7 t q) 26)) u r
 rw [World.size_alloc] at hC
 have HB := Y1 hB
 have HC := Y1 hC
 have HQ := Y1 hq
 have HR := Y1 hr
 clear hb0 hb1 hq hr
 obtain ⟨_, ⟨c0, c1, c2, c3, c4, c5, c6, c7, c8⟩, _⟩ := hB
 obtain ⟨_, ⟨d0, d1, d2, d3, d4, d5, d6, d7, d8⟩, _⟩ := hC
 have hs := hh1
 simp only [hd1, Bool.and_eq_true, beq_iff_eq, Bool.or_eq_true, Bool.not_eq_true', Bool.not_true, Bool.not_false, Bool.false_or, Bool.true_or, Bool.true_eq_false, Bool.and_true, false_or, true_or, and_true] at hs
 obtain ⟨⟨⟨g1, g2⟩, g3⟩, g4⟩ := hs
 have n1 : (t.kind != u.kind) = false := by rw [g1]; simp
 have e1 : (t.kind == u.kind) = true := by rw [g1]; simp
 have n2 : (t.of_ != u.of_) = false := by rw [g2]; simp
 have e2 : (t.of_ == u.of_) = true := by rw [g2]; simp
 have n3 : (t.name != u.name) = false := by rw [g3]; simp
 have e3 : (t.name == u.name) = true := by rw [g3]; simp
 have n4 : (t.n != u.n) = false := by rw [g4]; simp
 have e4 : (t.n == u.n) = true := by rw [g4]; simp
 clear g1 g2 g3 g4
 go_enter Tryz.func18, Tryz.ntmps18
 go_wp2_with fail
 generalize hW0 : (w.alloc (.cells (Y7 t q) 26)).alloc (.cells (Y7 u r) 26) = W0 at HB HC HB1 ⊢
 clear hW0 c0 c1 c2 c3 c4 c5 c6 c7 c8 d0 d1 d2 d3 d4 d5 d6 d7 d8 n1 e1 n2 e2 n3 e3 n4 e4
 have HBW0 : Hid (Below w.heap.size w W0) := Y1 HB1.out
 have HB0 := HB
 have HC0 := HC
 clear HB HC
 obtain ⟨_, ⟨c0, c1, c2, c3, c4, c5, c6, c7, c8⟩, _⟩ := HB0.out
 obtain ⟨_, ⟨d0, d1, d2, d3, d4, d5, d6, d7, d8⟩, _⟩ := HC0.out
 have hs1 := Z0Y q.A r.A q.c r.c t.names u.names W0 (HQ.out.strs.next HBW0.out) (HR.out.strs.next HBW0.out) HQ.out.small.l HR.out.small.l
 go_wp2_with fail
 cases e6 : (t.names == u.names)
 {rw [e6] at hs1
  refine hs1.mono ?_
  rintro e w1 ⟨rfl, hb1⟩
  go_wp2
  go_ret
  exact ⟨by rw [HF.out]; rfl, Z00 HBW0.out hb1⟩}
 {rw [e6] at hs1
  refine hs1.mono ?_
  rintro e w1 ⟨rfl, hb1⟩
  have HBW1 := Y1 (Z00 HBW0.out hb1)
  have HB1' := Y1 (HB0.out.next hb1)
  have HC1' := Y1 (HC0.out.next hb1)
  clear hs1 hb1 HB0 HC0 HB1
  clear c0 c1 c2 c3 c4 c5 c6 c7 c8 d0 d1 d2 d3 d4 d5 d6 d7 d8
  obtain ⟨_, ⟨c0, c1, c2, c3, c4, c5, c6, c7, c8⟩, _⟩ := HB1'.out
  obtain ⟨_, ⟨d0, d1, d2, d3, d4, d5, d6, d7, d8⟩, _⟩ := HC1'.out
  have hs2 := Z0Y q.V r.V q.e r.e t.vars u.vars w1 (HQ.out.vars.next HBW1.out) (HR.out.vars.next HBW1.out) HQ.out.small.v HR.out.small.v
  go_wp2_with fail
  cases e7 : (t.vars == u.vars)
  {rw [e7] at hs2
   refine hs2.mono ?_
   rintro e w2 ⟨rfl, hb2⟩
   go_wp2
   go_ret
   exact ⟨by rw [HF.out]; rfl, Z00 HBW1.out hb2⟩}
  {rw [e7] at hs2
   refine hs2.mono ?_
   rintro e w2 ⟨rfl, hb2⟩
   have HBW2 := Y1 (Z00 HBW1.out hb2)
   have HB2 := Y1 (HB1'.out.next hb2)
   have HC2 := Y1 (HC1'.out.next hb2)
   clear hs2 hb2 HB1' HC1'
   clear c0 c1 c2 c3 c4 c5 c6 c7 c8 d0 d1 d2 d3 d4 d5 d6 d7 d8
   obtain ⟨_, ⟨c0, c1, c2, c3, c4, c5, c6, c7, c8⟩, _⟩ := HB2.out
   obtain ⟨_, ⟨d0, d1, d2, d3, d4, d5, d6, d7, d8⟩, _⟩ := HC2.out
   cases e8 : ((t.shapes.length : Int) == (u.shapes.length : Int))
   {have n8 : ((t.shapes.length : Int) != (u.shapes.length : Int)) = true := by unfold bne; rw [e8]; rfl
    go_wp2
    go_ret
    exact ⟨by rw [HF.out]; rfl, HBW2.out⟩}
   {have n8 : ((t.shapes.length : Int) != (u.shapes.length : Int)) = false := by unfold bne; rw [e8]; rfl
    cases e9 : ((t.parts.length : Int) == (u.parts.length : Int))
    {have n9 : ((t.parts.length : Int) != (u.parts.length : Int)) = true := by unfold bne; rw [e9]; rfl
     go_wp2
     go_ret
     exact ⟨by rw [HF.out]; rfl, HBW2.out⟩}
    {refine absurd HH.out ?_
     have g8 := eq_of_beq e8
     have g9 := eq_of_beq e9
     simp only [hd2, e6, e7, Bool.true_and, Bool.and_eq_false_iff, decide_eq_false_iff_not]
     omega}}}}
theorem Z2R (t : Tm) : ∀ (u : Tm) (q r : TP) (w : World), TmAt w w.heap.size q t -> TmAt w w.heap.size r u ->
 Y9 18 #[.agg (Y7 t q), .agg (Y7 u r), .bool false] w (.bool (eqB false t u)) := by
 induction t using Tm.ind with
 | h t ih =>
 intro u q r w hq hr
 cases hh1 : hd1 false t u with
 | false => exact Z55 t u q r w hq hr hh1
 | true =>
 cases hh2 : hd2 t u with
 | false => exact Z56 t u q r w hq hr hh1 hh2
 | true =>
 have HH1 := Y1 hh1
 have HH2 := Y1 hh2
 have hs2 := hh2
 simp only [hd2, Bool.and_eq_true, decide_eq_true_eq] at hs2
 obtain ⟨⟨⟨g6, g7⟩, g8⟩, g9⟩ := hs2
 have HG6 := Y1 g6
 have HG7 := Y1 g7
 have HG8 := Y1 g8
 have HG9 := Y1 g9
 have IHH := Y1 ih
 clear g6 g7 g8 g9 hh2 ih
 have hb0 := Z02 w (.cells (Y7 t q) 26)
 have hb1 := Z08 hb0 (.cells (Y7 u r) 26)
 have HB1 := Y1 hb1
 have hB := (Z07 w t q).next (Z02 _ (.cells (Y7 u r) 26))
 have hC := Z07 (w.alloc (.cells (Y7 t q) 26)) u r
 rw [World.size_alloc] at hC
 have HB := Y1 hB
 have HC := Y1 hC
 have HQ := Y1 hq
 have HR := Y1 hr
 clear hb0 hb1 hq hr
 obtain ⟨_, ⟨c0, c1, c2, c3, c4, c5, c6, c7, c8⟩, _⟩ := hB
 obtain ⟨_, ⟨d0, d1, d2, d3, d4, d5, d6, d7, d8⟩, _⟩ := hC
 have hs := hh1
 simp only [hd1, Bool.and_eq_true, beq_iff_eq, Bool.or_eq_true, Bool.not_eq_true', Bool.not_true, Bool.not_false, Bool.false_or, Bool.true_or, Bool.true_eq_false, Bool.and_true, false_or, true_or, and_true] at hs
 obtain ⟨⟨⟨g1, g2⟩, g3⟩, g4⟩ := hs
 have n1 : (t.kind != u.kind) = false := by rw [g1]; simp
 have e1 : (t.kind == u.kind) = true := by rw [g1]; simp
 have n2 : (t.of_ != u.of_) = false := by rw [g2]; simp
 have e2 : (t.of_ == u.of_) = true := by rw [g2]; simp
 have n3 : (t.name != u.name) = false := by rw [g3]; simp
 have e3 : (t.name == u.name) = true := by rw [g3]; simp
 have n4 : (t.n != u.n) = false := by rw [g4]; simp
 have e4 : (t.n == u.n) = true := by rw [g4]; simp
 clear g1 g2 g3 g4
 go_enter Tryz.func18, Tryz.ntmps18
 go_wp2_with fail
 generalize hW0 : (w.alloc (.cells (Y7 t q) 26)).alloc (.cells (Y7 u r) 26) = W0 at HB HC HB1 ⊢
 clear hW0 c0 c1 c2 c3 c4 c5 c6 c7 c8 d0 d1 d2 d3 d4 d5 d6 d7 d8 n1 e1 n2 e2 n3 e3 n4 e4
 have HBW0 : Hid (Below w.heap.size w W0) := Y1 HB1.out
 have HB0 := HB
 have HC0 := HC
 clear HB HC
 obtain ⟨_, ⟨c0, c1, c2, c3, c4, c5, c6, c7, c8⟩, _⟩ := HB0.out
 obtain ⟨_, ⟨d0, d1, d2, d3, d4, d5, d6, d7, d8⟩, _⟩ := HC0.out
 have hs1 := Z0Y q.A r.A q.c r.c t.names u.names W0 (HQ.out.strs.next HBW0.out) (HR.out.strs.next HBW0.out) HQ.out.small.l HR.out.small.l
 go_wp2_with fail
 rw [HG6.out] at hs1
 refine hs1.mono ?_
 rintro e w1 ⟨rfl, hb1⟩
 have HBW1 := Y1 (Z00 HBW0.out hb1)
 have HB1' := Y1 (HB0.out.next hb1)
 have HC1' := Y1 (HC0.out.next hb1)
 clear hs1 hb1 HB0 HC0 HB1 HBW0 hh1
 clear c0 c1 c2 c3 c4 c5 c6 c7 c8 d0 d1 d2 d3 d4 d5 d6 d7 d8
 obtain ⟨_, ⟨c0, c1, c2, c3, c4, c5, c6, c7, c8⟩, _⟩ := HB1'.out
 obtain ⟨_, ⟨d0, d1, d2, d3, d4, d5, d6, d7, d8⟩, _⟩ := HC1'.out
 have hs2 := Z0Y q.V r.V q.e r.e t.vars u.vars w1 (HQ.out.vars.next HBW1.out) (HR.out.vars.next HBW1.out) HQ.out.small.v HR.out.small.v
 go_wp2_with fail
 rw [HG7.out] at hs2
 refine hs2.mono ?_
 rintro e w2 ⟨rfl, hb2⟩
 have HBW2 := Y1 (Z00 HBW1.out hb2)
 have HB2 := Y1 (HB1'.out.next hb2)
 have HC2 := Y1 (HC1'.out.next hb2)
 clear hs2 hb2 HB1' HC1' HBW1
 clear c0 c1 c2 c3 c4 c5 c6 c7 c8 d0 d1 d2 d3 d4 d5 d6 d7 d8
 obtain ⟨_, ⟨c0, c1, c2, c3, c4, c5, c6, c7, c8⟩, _⟩ := HB2.out
 obtain ⟨_, ⟨d0, d1, d2, d3, d4, d5, d6, d7, d8⟩, _⟩ := HC2.out
 have e8 : ((t.shapes.length : Int) == (u.shapes.length : Int)) = true := by rw [HG8.out]; simp
 have n8 : ((t.shapes.length : Int) != (u.shapes.length : Int)) = false := by rw [HG8.out]; simp
 have e9 : ((t.parts.length : Int) == (u.parts.length : Int)) = true := by rw [HG9.out]; simp
 have n9 : ((t.parts.length : Int) != (u.parts.length : Int)) = false := by rw [HG9.out]; simp
 go_wp2_with fail
 clear e8 n8 e9 n9
 clear c0 c1 c2 c3 c4 c5 c6 c7 c8 d0 d1 d2 d3 d4 d5 d6 d7 d8
 go_loopw [7] (fun ii wr => ∃ i : Nat, ii = .int .i64 i /\ i <= t.shapes.length /\ Hid (∀ j (h : j < t.shapes.length) (h' : j < u.shapes.length), j < i -> Shp.eqB (t.shapes[j]'h) (u.shapes[j]'h') = true) /\ Hid (Below w2.heap.size w2 wr)) (fun i _ => t.shapes.length - (intOf i).toNat)
 case atStart => exact ⟨0, rfl, Nat.zero_le _, Y1 (fun j _ _ hj => absurd hj (by omega)), Y1 Y2⟩
 case round =>
  obtain ⟨i, rfl, hi, HN, HBX⟩ := hrel
  have hb := HBX.out
  have hbw : Below w.heap.size w wr := HBW2.out.trans (hb.mono HBW2.out.size)
  have hl := HQ.out.small.sh
  obtain ⟨_, ⟨c0, _, _, _, _, _, c6, _, _⟩, _⟩ := HB2.out.next hb
  obtain ⟨_, ⟨d0, _, _, _, _, _, d6, _, _⟩, _⟩ := HC2.out.next hb
  by_cases hlt : i < t.shapes.length
  {have hi1 : (i : Int) < (t.shapes.length : Int) := by omega
   have hi2 : (i : Int) < (u.shapes.length : Int) := by have := HG8.out; omega
   have hi3 : i < u.shapes.length := by omega
   rcases HQ.out.shapes with h0 | ⟨g, off, qs, hqP, hg, hc, hra⟩
   {omega}
   {rcases HR.out.shapes with h0 | ⟨g', off', qs', hrP, hg', hc', hra'⟩
    {omega}
    {obtain ⟨x, hx⟩ : ∃ x, x = t.shapes[i]'hlt := ⟨_, rfl⟩
     obtain ⟨y, hy⟩ : ∃ y, y = u.shapes[i]'hi3 := ⟨_, rfl⟩
     obtain ⟨p0, p1, p2, p3, p4⟩ := (hc i hlt).keep hg hbw
     obtain ⟨s0, s1, s2, s3, s4⟩ := (hc' i hi3).keep hg' hbw
     have hat : ShAt wr wr.heap.size (qs i) x := by rw [hx]; exact (hra i hlt).next hbw
     have hat' : ShAt wr wr.heap.size (qs' i) y := by rw [hy]; exact (hra' i hi3).next hbw
     rw [<- hx] at p0 p1 p2 p3 p4
     rw [<- hy] at s0 s1 s2 s3 s4
     have IH := Z5M x y (qs i) (qs' i) wr.drew (hat.next Y2.drew) (hat'.next Y2.drew)
     rw [hqP] at c6
     rw [hrP] at d6
     have HX := Y1 hx
     have HY := Y1 hy
     clear hx hy hc hc' hra hra' hat hat' hqP hrP
     go_wp2_with fail
     cases hxy : Shp.eqB x y
     {have HF : Hid (eqB false t u = false) := Y1 (Z6K hlt hi3 (by rw [<- HX.out, <- HY.out]; exact hxy))
      rw [hxy] at IH
      clear hxy
      go_still_tail 10, (by kernel_rfl)
      change wpList _ _ _ _ _ wr.drew
      go_wp2_with fail
      refine IH.mono ?_
      rintro e w3 ⟨rfl, hb2⟩
      go_wp2
      go_ret
      exact ⟨by rw [HF.out]; rfl, Z00 hbw.drew hb2⟩}
     {have HE : Hid (Shp.eqB (t.shapes[i]'hlt) (u.shapes[i]'hi3) = true) := Y1 (by rw [<- HX.out, <- HY.out]; exact hxy)
      rw [hxy] at IH
      clear hxy
      go_still_tail 10, (by kernel_rfl)
      change wpList _ _ _ _ _ wr.drew
      go_wp2_with fail
      refine IH.mono ?_
      rintro e w3 ⟨rfl, hb2⟩
      go_wp2
      go_roundw
      case rel => exact ⟨i + 1, by go_num, by omega, Y1 (fun j hj hj' hji => by
       rcases Nat.lt_succ_iff_lt_or_eq.1 hji with h | rfl
       {exact HN.out j hj hj' h}
       · exact HE.out), Y1 (Z00 hb.drew hb2)⟩
      case measure => simp [intOf]; omega}}}}
  {have HSS : Hid (∀ j (h : j < t.shapes.length) (h' : j < u.shapes.length), Shp.eqB (t.shapes[j]'h) (u.shapes[j]'h') = true) := Y1 (fun j h h' => HN.out j h h' (by omega))
   have HBW := Y1 hb
   clear hbw hb HN HBX
   go_wp2_with fail
   go_loopw [8] (fun ii wx => ∃ k : Nat, ii = .int .i64 k /\ k <= t.parts.length /\ Hid (∀ j (h : j < t.parts.length) (h' : j < u.parts.length), j < k -> eqB false (t.parts[j]'h) (u.parts[j]'h') = true) /\ Hid (Below w2.heap.size w2 wx)) (fun i _ => t.parts.length - (intOf i).toNat)
   case atStart => exact ⟨0, rfl, Nat.zero_le _, Y1 (fun j _ _ hj => absurd hj (by omega)), HBW⟩
   case round =>
    obtain ⟨k, rfl, hk, HN, HBX⟩ := hrel
    have hb := HBX.out
    have hbw : Below w.heap.size w wr := HBW2.out.trans (hb.mono HBW2.out.size)
    have hm := HQ.out.small.m
    clear c0 c6 d0 d6
    obtain ⟨_, ⟨c0, _, _, _, _, _, _, c7, _⟩, _⟩ := HB2.out.next hb
    obtain ⟨_, ⟨d0, _, _, _, _, _, _, d7, _⟩, _⟩ := HC2.out.next hb
    by_cases hlt2 : k < t.parts.length
    {have hi1 : (k : Int) < (t.parts.length : Int) := by omega
     have hi2 : (k : Int) < (u.parts.length : Int) := by have := HG9.out; omega
     have hi3 : k < u.parts.length := by omega
     rcases HQ.out.part with h0 | ⟨g, off, qs, hqP, hg, hc, hra⟩
     {omega}
     {rcases HR.out.part with h0 | ⟨g', off', qs', hrP, hg', hc', hra'⟩
      {omega}
      {obtain ⟨x, hx⟩ : ∃ x, x = t.parts[k]'hlt2 := ⟨_, rfl⟩
       obtain ⟨y, hy⟩ : ∃ y, y = u.parts[k]'hi3 := ⟨_, rfl⟩
       obtain ⟨p0, p1, p2, p3, p4, p5, p6, p7, p8⟩ := (hc k hlt2).keep hg hbw
       obtain ⟨s0, s1, s2, s3, s4, s5, s6, s7, s8⟩ := (hc' k hi3).keep hg' hbw
       have hat : TmAt wr wr.heap.size (qs k) x := by rw [hx]; exact (hra k hlt2).next hbw
       have hat' : TmAt wr wr.heap.size (qs' k) y := by rw [hy]; exact (hra' k hi3).next hbw
       have ihx := IHH.out t.parts[k] (List.getElem_mem _) y (qs k) (qs' k) wr.drew
       rw [<- hx] at p0 p1 p2 p3 p4 p5 p6 p7 p8 ihx
       rw [<- hy] at s0 s1 s2 s3 s4 s5 s6 s7 s8
       have IH := ihx (hat.next Y2.drew) (hat'.next Y2.drew)
       rw [hqP] at c7
       rw [hrP] at d7
       have HX := Y1 hx
       have HY := Y1 hy
       clear hx hy hc hc' hra hra' hat hat' ihx hqP hrP
       go_wp2_with fail
       cases hxy : eqB false x y
       {have HF : Hid (eqB false t u = false) := Y1 (Z6L hlt2 hi3 (by rw [<- HX.out, <- HY.out]; exact hxy))
        rw [hxy] at IH
        clear hxy
        go_still_tail 11, (by kernel_rfl)
        change wpList _ _ _ _ _ wr.drew
        go_wp2_with fail
        refine IH.mono ?_
        rintro e w3 ⟨rfl, hb2⟩
        go_wp2
        go_ret
        exact ⟨by rw [HF.out]; rfl, Z00 hbw.drew hb2⟩}
       {have HE : Hid (eqB false (t.parts[k]'hlt2) (u.parts[k]'hi3) = true) := Y1 (by rw [<- HX.out, <- HY.out]; exact hxy)
        rw [hxy] at IH
        clear hxy
        go_still_tail 11, (by kernel_rfl)
        change wpList _ _ _ _ _ wr.drew
        go_wp2_with fail
        refine IH.mono ?_
        rintro e w3 ⟨rfl, hb2⟩
        go_wp2
        go_roundw
        case rel => exact ⟨k + 1, by go_num, by omega, Y1 (fun j hj hj' hji => by
         rcases Nat.lt_succ_iff_lt_or_eq.1 hji with h | rfl
         {exact HN.out j hj hj' h}
         · exact HE.out), Y1 (Z00 hb.drew hb2)⟩
        case measure => simp [intOf]; omega}}}}
    {have HF : Hid (eqB false t u = true) := Y1 (Z9I HH1.out HH2.out HSS.out (fun j hj hj' => HN.out j hj hj' (by omega)))
     go_wp2
     go_ret
     exact ⟨by rw [HF.out]; rfl, hbw⟩}}
theorem Zdl {l : List Tm} {i : Nat} (hi : i < l.length) (h : check (l[i]'hi) ≠ 0) : same l = false := by
 cases e : same l with
 | false => rfl
 | true =>
  unfold same at e
  have := List.all_eq_true.1 e _ (List.getElem_mem hi)
  simp only [Bool.and_eq_true, decide_eq_true_eq] at this
  exact absurd this.1 h
theorem Z7N {l : List Tm} {t : Tm} (h : 0 < l.length) : l.headD t = l[0]'h := by cases l with
 | nil => simp at h
 | cons a l => rfl
theorem Zh6 {l : List Tm} {i : Nat} (hi : i < l.length) (h : eqB false (l[i]'hi) (l[0]'(by omega)) = false) : same l = false := by
 cases e : same l with
 | false => rfl
 | true =>
  unfold same at e
  have := List.all_eq_true.1 e _ (List.getElem_mem hi)
  rw [Z7N (by omega), h] at this
  simp at this
theorem Zgl {l : List Tm} (h : ∀ j (hj : j < l.length), check (l[j]'hj) = 0 /\ eqB false (l[j]'hj) (l[0]'(by omega)) = true) : same l = true := by
 unfold same
 rw [List.all_eq_true]
 intro t ht
 obtain ⟨j, hj, rfl⟩ := List.getElem_of_mem ht
 rw [Z7N (by omega), (h j hj).2, decide_eq_true (h j hj).1]
 rfl
def Zdm (x y : Tm) (qx qy : TP) (g off i n c : Nat) : Nat -> Want
 | 0 => .val (.slice (some { block := g, off := off }) n c)
 | 1 => .val (.int .i64 ↑i)
 | 2 => .val (.pointer (some ⟨g, off + i * 9, none⟩))
 | 3 => .val (.agg (Y7 x qx))
 | 4 => .val (.int .i64 (check x))
 | 5 => .val (.bool true)
 | 6 => .val (.bool true)
 | 16 => .val (.bool true)
 | _ => .any
def Zbc (x y : Tm) (qx qy : TP) (g off i n c : Nat) : Nat -> Want
 | 0 => .val (.slice (some { block := g, off := off }) n c)
 | 1 => .val (.int .i64 ↑i)
 | 2 => .val (.pointer (some ⟨g, off + i * 9, none⟩))
 | 3 => .val (.agg (Y7 x qx))
 | 4 => .val (.int .i64 (check x))
 | 5 => .val (.bool false)
 | 6 => .val (.bool false)
 | 7 => .val (.slice (some { block := g, off := off }) n c)
 | 8 => .val (.int .i64 ↑i)
 | 9 => .val (.pointer (some ⟨g, off + i * 9, none⟩))
 | 10 => .val (.agg (Y7 x qx))
 | 11 => .val (.slice (some { block := g, off := off }) n c)
 | 12 => .val (.pointer (some ⟨g, off, none⟩))
 | 13 => .val (.agg (Y7 y qy))
 | 14 => .val (.bool false)
 | 15 => .val (.bool true)
 | 16 => .val (.bool true)
 | _ => .any
def Zdn (x y : Tm) (qx qy : TP) (g off i n c : Nat) : Nat -> Want
 | 0 => .val (.slice (some { block := g, off := off }) n c)
 | 1 => .val (.int .i64 ↑i)
 | 2 => .val (.pointer (some ⟨g, off + i * 9, none⟩))
 | 3 => .val (.agg (Y7 x qx))
 | 4 => .val (.int .i64 (check x))
 | 5 => .val (.bool false)
 | 6 => .val (.bool false)
 | 7 => .val (.slice (some { block := g, off := off }) n c)
 | 8 => .val (.int .i64 ↑i)
 | 9 => .val (.pointer (some ⟨g, off + i * 9, none⟩))
 | 10 => .val (.agg (Y7 x qx))
 | 11 => .val (.slice (some { block := g, off := off }) n c)
 | 12 => .val (.pointer (some ⟨g, off, none⟩))
 | 13 => .val (.agg (Y7 y qy))
 | 14 => .val (.bool true)
 | 15 => .val (.bool false)
 | 16 => .val (.bool false)
 | _ => .any
theorem Zbd (P : Option Addr) (c : Nat) (l : List Tm) (w : World) (hP : TmsAt w w.heap.size P l) (hl : l.length <= 9223372036854775807) (hta : ∀ t ∈ l, tame t = true) :
 Y9 14 #[.slice P l.length c] w (.bool (same l)) := by
 have HP := Y1 hP
 have HTA := Y1 hta
 clear hP hta
 go_enter Tryz.func14, Tryz.ntmps14
 go_wp2_with fail
 go_loopw [3] (fun ii wr => ∃ i : Nat, ii = .int .i64 i /\ i <= l.length /\ Hid (∀ j (h : j < l.length), j < i -> check (l[j]'h) = 0 /\ eqB false (l[j]'h) (l[0]'(by omega)) = true) /\ Below w.heap.size w wr) (fun i _ => l.length - (intOf i).toNat)
 case atStart => exact ⟨0, rfl, Nat.zero_le _, Y1 (fun j _ hj => absurd hj (by omega)), Below.refl _ _⟩
 case round =>
  obtain ⟨i, rfl, hi, HN, hb⟩ := hrel
  by_cases hlt : i < l.length
  {have hi1 : (i : Int) < (l.length : Int) := by omega
   have hi0 : (0 : Int) < (l.length : Int) := by omega
   have hi2 : 0 < l.length := by omega
   rcases HP.out.next hb with h0 | ⟨g, off, qs, rfl, hg, hc, hr⟩
   {omega}
   {obtain ⟨x, hx⟩ : ∃ x, x = l[i]'hlt := ⟨_, rfl⟩
    obtain ⟨y, hy⟩ : ∃ y, y = l[0]'hi2 := ⟨_, rfl⟩
    have p := hc i hlt
    have s := hc 0 hi2
    have hax := hr i hlt
    have hay := hr 0 hi2
    rw [show off + 0 * 9 = off from by omega] at s
    rw [<- hx] at p hax
    rw [<- hy] at s hay
    have HTX : Hid (tame x = true) := Y1 (by rw [hx]; exact HTA.out _ (List.getElem_mem _))
    generalize qs i = qx at p hax
    generalize qs 0 = qy at s hay
    have HPX := Y1 p
    have HPY := Y1 s
    have HAX := Y1 hax
    have HAY := Y1 hay
    have HX := Y1 hx
    have HY := Y1 hy
    have HB := Y1 hb
    clear p s hax hay hx hy hc hr hb
    go_wp2_with fail
    by_cases hck : check x = 0
    {cases hxy : eqB false x y
     {have HF : Hid (same l = false) := Y1 (Zh6 hlt (by rw [<- HX.out, <- HY.out]; exact hxy))
      have HEQ : Hid (∀ W, Below wr.heap.size wr W -> Y9 18 #[.agg (Y7 x qx), .agg (Y7 y qy), .bool false] W (.bool false)) := Y1 (fun W hJ => by have h := Z2R x y qx qy W (HAX.out.next hJ) (HAY.out.next hJ); rw [hxy] at h; exact h)
      refine Z0p (rs := [0, 1, 2, 3, 4, 5, 6, 7, 8, 9, 10, 11, 12, 13, 14, 15, 16])
       (fun u' => { tmps := #[.slice (some { block := g, off := off }) l.length c, undef, u2, .int .i64 ↑i, .int .i64 ↑i, .slice (some { block := g, off := off }) l.length c, .int .i64 ↑l.length, .bool true, u8, u9, u' 0, u' 1, u' 2, u' 3, u' 4, u' 5, u' 6, u' 7, u' 8, u' 9, u' 10, u' 11, u' 12, u' 13, u' 14, u' 15, u' 16], defers := [] })
       (fun j => ([u10, u11, u12, u13, u14, u15, u16, u17, u18, u19, u20, u21, u22, u23, u24, u25, u26] : List Value).getD j undef) (Zbc x y qx qy g off i l.length c) (fun W => Below wr.heap.size wr W) (by kernel_rfl) (by kernel_rfl) (by kernel_rfl) Y2.drew ?_ ?_
      refine StepsAt.cons _ rfl (fun u' W K' hJ hd hK => ?_) ?_
      {refine Y0 hK hJ rfl rfl rfl ?_
       try dsimp only
       go_simp
       try omega}
      refine StepsAt.cons _ rfl (fun u' W K' hJ hd hK => ?_) ?_
      {refine Y0 hK hJ rfl rfl rfl ?_
       try dsimp only
       go_simp
       try omega}
      refine StepsAt.cons _ rfl (fun u' W K' hJ hd hK => ?_) ?_
      {have d0 : _ = _ := hd 0 (by kernel_rfl)
       have d1 : _ = _ := hd 1 (by kernel_rfl)
       refine Y0 hK hJ rfl rfl rfl ?_
       try dsimp only
       go_simp
       try omega}
      refine StepsAt.cons _ rfl (fun u' W K' hJ hd hK => ?_) ?_
      {have d2 : _ = _ := hd 2 (by kernel_rfl)
       obtain ⟨y0, y1, y2, y3, y4, y5, y6, y7, y8⟩ := HPX.out.keep hg hJ
       refine Y0 hK hJ rfl rfl rfl ?_
       try dsimp only
       go_simp
       try omega}
      refine StepsAt.cons _ rfl (fun u' W K' hJ hd hK => ?_) ?_
      {have d3 : _ = _ := hd 3 (by kernel_rfl)
       refine Z05 (f := 9) (args := #[.agg (Y7 x qx)]) (W' := W) rfl ?_ ((Z2I x qx W (HAX.out.next hJ) HTX.out).mono fun e w' h => ⟨_, h.1, hK.out _ _ rfl (Z00 hJ h.2) h.2⟩)
       try dsimp only
       go_simp
       try omega}
      refine StepsAt.cons _ rfl (fun u' W K' hJ hd hK => ?_) ?_
      {have d4 : _ = _ := hd 4 (by kernel_rfl)
       have e1 : (check x == 0) = true := beq_iff_eq.2 hck
       have n1 : (check x != 0) = false := by unfold bne; rw [e1]; rfl
       refine Y0 hK hJ rfl rfl rfl ?_
       try dsimp only
       go_simp
       try omega}
      refine StepsAt.cons _ rfl (fun u' W K' hJ hd hK => ?_) ?_
      {have d5 : _ = _ := hd 5 (by kernel_rfl)
       refine Y0 hK hJ rfl rfl rfl ?_
       try dsimp only
       go_simp
       try omega}
      refine StepsAt.cons _ rfl (fun u' W K' hJ hd hK => ?_) ?_
      {have dg : _ = _ := hd 6 (by kernel_rfl)
       refine Y0 hK hJ rfl rfl ?_ ?_
       {simp [Region.wanted, yielded, dg]}
       {try dsimp only
        go_simp
        try omega}}
      refine StepsAt.cons _ rfl (fun u' W K' hJ hd hK => ?_) ?_
      {have dg : _ = _ := hd 6 (by kernel_rfl)
       refine Y0 hK hJ rfl rfl ?_ ?_
       {simp [Region.wanted, yielded, dg]}
       {try dsimp only
        go_simp
        try omega}}
      refine StepsAt.cons _ rfl (fun u' W K' hJ hd hK => ?_) ?_
      {have dg : _ = _ := hd 6 (by kernel_rfl)
       have d7 : _ = _ := hd 7 (by kernel_rfl)
       have d8 : _ = _ := hd 8 (by kernel_rfl)
       refine Y0 hK hJ rfl rfl ?_ ?_
       {simp [Region.wanted, yielded, dg]}
       {try dsimp only
        go_simp
        try omega}}
      refine StepsAt.cons _ rfl (fun u' W K' hJ hd hK => ?_) ?_
      {have dg : _ = _ := hd 6 (by kernel_rfl)
       have d9 : _ = _ := hd 9 (by kernel_rfl)
       obtain ⟨y0, y1, y2, y3, y4, y5, y6, y7, y8⟩ := HPX.out.keep hg hJ
       refine Y0 hK hJ rfl rfl ?_ ?_
       {simp [Region.wanted, yielded, dg]}
       {try dsimp only
        go_simp
        try omega}}
      refine StepsAt.cons _ rfl (fun u' W K' hJ hd hK => ?_) ?_
      {have dg : _ = _ := hd 6 (by kernel_rfl)
       refine Y0 hK hJ rfl rfl ?_ ?_
       {simp [Region.wanted, yielded, dg]}
       {try dsimp only
        go_simp
        try omega}}
      refine StepsAt.cons _ rfl (fun u' W K' hJ hd hK => ?_) ?_
      {have dg : _ = _ := hd 6 (by kernel_rfl)
       have d11 : _ = _ := hd 11 (by kernel_rfl)
       refine Y0 hK hJ rfl rfl ?_ ?_
       {simp [Region.wanted, yielded, dg]}
       {try dsimp only
        go_simp
        try omega}}
      refine StepsAt.cons _ rfl (fun u' W K' hJ hd hK => ?_) ?_
      {have dg : _ = _ := hd 6 (by kernel_rfl)
       have d12 : _ = _ := hd 12 (by kernel_rfl)
       obtain ⟨y0, y1, y2, y3, y4, y5, y6, y7, y8⟩ := HPY.out.keep hg hJ
       refine Y0 hK hJ rfl rfl ?_ ?_
       {simp [Region.wanted, yielded, dg]}
       {try dsimp only
        go_simp
        try omega}}
      refine StepsAt.cons _ rfl (fun u' W K' hJ hd hK => ?_) ?_
      {have dg : _ = _ := hd 6 (by kernel_rfl)
       have d10 : _ = _ := hd 10 (by kernel_rfl)
       have d13 : _ = _ := hd 13 (by kernel_rfl)
       refine Z05 (f := 18) (args := #[.agg (Y7 x qx), .agg (Y7 y qy), .bool false]) (W' := W) ?_ ?_ ((HEQ.out W hJ).mono fun e w' h => ⟨_, h.1, hK.out _ _ rfl (Z00 hJ h.2) h.2⟩)
       {simp [Region.wanted, yielded, dg]}
       {try dsimp only
        go_simp
        try omega}}
      refine StepsAt.cons _ rfl (fun u' W K' hJ hd hK => ?_) ?_
      {have dg : _ = _ := hd 6 (by kernel_rfl)
       have d14 : _ = _ := hd 14 (by kernel_rfl)
       refine Y0 hK hJ rfl rfl ?_ ?_
       {simp [Region.wanted, yielded, dg]}
       {try dsimp only
        go_simp
        try omega}}
      refine StepsAt.cons _ rfl (fun u' W K' hJ hd hK => ?_) StepsAt.nil
      {have d6 : _ = _ := hd 6 (by kernel_rfl)
       have d15 : _ = _ := hd 15 (by kernel_rfl)
       refine Y0 hK hJ rfl rfl rfl ?_
       try dsimp only
       go_simp
       try omega}
      intro u' W' hJ' hok
      try dsimp only
      rw [show u' 16 = .bool true from hok 16 (by decide)]
      clear hok
      go_wp2
      go_ret
      exact ⟨by rw [HF.out]; rfl, HB.out.trans (hJ'.mono HB.out.size)⟩}
     {have HE : Hid (check (l[i]'hlt) = 0 /\ eqB false (l[i]'hlt) (l[0]'hi2) = true) := Y1 (by rw [<- HX.out, <- HY.out]; exact ⟨hck, hxy⟩)
      have HEQ : Hid (∀ W, Below wr.heap.size wr W -> Y9 18 #[.agg (Y7 x qx), .agg (Y7 y qy), .bool false] W (.bool true)) := Y1 (fun W hJ => by have h := Z2R x y qx qy W (HAX.out.next hJ) (HAY.out.next hJ); rw [hxy] at h; exact h)
      refine Z0p (rs := [0, 1, 2, 3, 4, 5, 6, 7, 8, 9, 10, 11, 12, 13, 14, 15, 16])
       (fun u' => { tmps := #[.slice (some { block := g, off := off }) l.length c, undef, u2, .int .i64 ↑i, .int .i64 ↑i, .slice (some { block := g, off := off }) l.length c, .int .i64 ↑l.length, .bool true, u8, u9, u' 0, u' 1, u' 2, u' 3, u' 4, u' 5, u' 6, u' 7, u' 8, u' 9, u' 10, u' 11, u' 12, u' 13, u' 14, u' 15, u' 16], defers := [] })
       (fun j => ([u10, u11, u12, u13, u14, u15, u16, u17, u18, u19, u20, u21, u22, u23, u24, u25, u26] : List Value).getD j undef) (Zdn x y qx qy g off i l.length c) (fun W => Below wr.heap.size wr W) (by kernel_rfl) (by kernel_rfl) (by kernel_rfl) Y2.drew ?_ ?_
      refine StepsAt.cons _ rfl (fun u' W K' hJ hd hK => ?_) ?_
      {refine Y0 hK hJ rfl rfl rfl ?_
       try dsimp only
       go_simp
       try omega}
      refine StepsAt.cons _ rfl (fun u' W K' hJ hd hK => ?_) ?_
      {refine Y0 hK hJ rfl rfl rfl ?_
       try dsimp only
       go_simp
       try omega}
      refine StepsAt.cons _ rfl (fun u' W K' hJ hd hK => ?_) ?_
      {have d0 : _ = _ := hd 0 (by kernel_rfl)
       have d1 : _ = _ := hd 1 (by kernel_rfl)
       refine Y0 hK hJ rfl rfl rfl ?_
       try dsimp only
       go_simp
       try omega}
      refine StepsAt.cons _ rfl (fun u' W K' hJ hd hK => ?_) ?_
      {have d2 : _ = _ := hd 2 (by kernel_rfl)
       obtain ⟨y0, y1, y2, y3, y4, y5, y6, y7, y8⟩ := HPX.out.keep hg hJ
       refine Y0 hK hJ rfl rfl rfl ?_
       try dsimp only
       go_simp
       try omega}
      refine StepsAt.cons _ rfl (fun u' W K' hJ hd hK => ?_) ?_
      {have d3 : _ = _ := hd 3 (by kernel_rfl)
       refine Z05 (f := 9) (args := #[.agg (Y7 x qx)]) (W' := W) rfl ?_ ((Z2I x qx W (HAX.out.next hJ) HTX.out).mono fun e w' h => ⟨_, h.1, hK.out _ _ rfl (Z00 hJ h.2) h.2⟩)
       try dsimp only
       go_simp
       try omega}
      refine StepsAt.cons _ rfl (fun u' W K' hJ hd hK => ?_) ?_
      {have d4 : _ = _ := hd 4 (by kernel_rfl)
       have e1 : (check x == 0) = true := beq_iff_eq.2 hck
       have n1 : (check x != 0) = false := by unfold bne; rw [e1]; rfl
       refine Y0 hK hJ rfl rfl rfl ?_
       try dsimp only
       go_simp
       try omega}
      refine StepsAt.cons _ rfl (fun u' W K' hJ hd hK => ?_) ?_
      {have d5 : _ = _ := hd 5 (by kernel_rfl)
       refine Y0 hK hJ rfl rfl rfl ?_
       try dsimp only
       go_simp
       try omega}
      refine StepsAt.cons _ rfl (fun u' W K' hJ hd hK => ?_) ?_
      {have dg : _ = _ := hd 6 (by kernel_rfl)
       refine Y0 hK hJ rfl rfl ?_ ?_
       {simp [Region.wanted, yielded, dg]}
       {try dsimp only
        go_simp
        try omega}}
      refine StepsAt.cons _ rfl (fun u' W K' hJ hd hK => ?_) ?_
      {have dg : _ = _ := hd 6 (by kernel_rfl)
       refine Y0 hK hJ rfl rfl ?_ ?_
       {simp [Region.wanted, yielded, dg]}
       {try dsimp only
        go_simp
        try omega}}
      refine StepsAt.cons _ rfl (fun u' W K' hJ hd hK => ?_) ?_
      {have dg : _ = _ := hd 6 (by kernel_rfl)
       have d7 : _ = _ := hd 7 (by kernel_rfl)
       have d8 : _ = _ := hd 8 (by kernel_rfl)
       refine Y0 hK hJ rfl rfl ?_ ?_
       {simp [Region.wanted, yielded, dg]}
       {try dsimp only
        go_simp
        try omega}}
      refine StepsAt.cons _ rfl (fun u' W K' hJ hd hK => ?_) ?_
      {have dg : _ = _ := hd 6 (by kernel_rfl)
       have d9 : _ = _ := hd 9 (by kernel_rfl)
       obtain ⟨y0, y1, y2, y3, y4, y5, y6, y7, y8⟩ := HPX.out.keep hg hJ
       refine Y0 hK hJ rfl rfl ?_ ?_
       {simp [Region.wanted, yielded, dg]}
       {try dsimp only
        go_simp
        try omega}}
      refine StepsAt.cons _ rfl (fun u' W K' hJ hd hK => ?_) ?_
      {have dg : _ = _ := hd 6 (by kernel_rfl)
       refine Y0 hK hJ rfl rfl ?_ ?_
       {simp [Region.wanted, yielded, dg]}
       {try dsimp only
        go_simp
        try omega}}
      refine StepsAt.cons _ rfl (fun u' W K' hJ hd hK => ?_) ?_
      {have dg : _ = _ := hd 6 (by kernel_rfl)
       have d11 : _ = _ := hd 11 (by kernel_rfl)
       refine Y0 hK hJ rfl rfl ?_ ?_
       {simp [Region.wanted, yielded, dg]}
       {try dsimp only
        go_simp
        try omega}}
      refine StepsAt.cons _ rfl (fun u' W K' hJ hd hK => ?_) ?_
      {have dg : _ = _ := hd 6 (by kernel_rfl)
       have d12 : _ = _ := hd 12 (by kernel_rfl)
       obtain ⟨y0, y1, y2, y3, y4, y5, y6, y7, y8⟩ := HPY.out.keep hg hJ
       refine Y0 hK hJ rfl rfl ?_ ?_
       {simp [Region.wanted, yielded, dg]}
       {try dsimp only
        go_simp
        try omega}}
      refine StepsAt.cons _ rfl (fun u' W K' hJ hd hK => ?_) ?_
      {have dg : _ = _ := hd 6 (by kernel_rfl)
       have d10 : _ = _ := hd 10 (by kernel_rfl)
       have d13 : _ = _ := hd 13 (by kernel_rfl)
       refine Z05 (f := 18) (args := #[.agg (Y7 x qx), .agg (Y7 y qy), .bool false]) (W' := W) ?_ ?_ ((HEQ.out W hJ).mono fun e w' h => ⟨_, h.1, hK.out _ _ rfl (Z00 hJ h.2) h.2⟩)
       {simp [Region.wanted, yielded, dg]}
       {try dsimp only
        go_simp
        try omega}}
      refine StepsAt.cons _ rfl (fun u' W K' hJ hd hK => ?_) ?_
      {have dg : _ = _ := hd 6 (by kernel_rfl)
       have d14 : _ = _ := hd 14 (by kernel_rfl)
       refine Y0 hK hJ rfl rfl ?_ ?_
       {simp [Region.wanted, yielded, dg]}
       {try dsimp only
        go_simp
        try omega}}
      refine StepsAt.cons _ rfl (fun u' W K' hJ hd hK => ?_) StepsAt.nil
      {have d6 : _ = _ := hd 6 (by kernel_rfl)
       have d15 : _ = _ := hd 15 (by kernel_rfl)
       refine Y0 hK hJ rfl rfl rfl ?_
       try dsimp only
       go_simp
       try omega}
      intro u' W' hJ' hok
      try dsimp only
      rw [show u' 16 = .bool false from hok 16 (by decide)]
      clear hok
      go_wp2
      go_roundw
      case rel => exact ⟨i + 1, by go_num, by omega, Y1 (fun j hj hji => by
       rcases Nat.lt_succ_iff_lt_or_eq.1 hji with h | rfl
       {exact HN.out j hj h}
       · exact HE.out), HB.out.trans (hJ'.mono HB.out.size)⟩
      case measure => simp [intOf]; omega}}
    {have HF : Hid (same l = false) := Y1 (Zdl hlt (by rw [<- HX.out]; exact hck))
     refine Z0p (rs := [0, 1, 2, 3, 4, 5, 6, 7, 8, 9, 10, 11, 12, 13, 14, 15, 16])
      (fun u' => { tmps := #[.slice (some { block := g, off := off }) l.length c, undef, u2, .int .i64 ↑i, .int .i64 ↑i, .slice (some { block := g, off := off }) l.length c, .int .i64 ↑l.length, .bool true, u8, u9, u' 0, u' 1, u' 2, u' 3, u' 4, u' 5, u' 6, u' 7, u' 8, u' 9, u' 10, u' 11, u' 12, u' 13, u' 14, u' 15, u' 16], defers := [] })
      (fun j => ([u10, u11, u12, u13, u14, u15, u16, u17, u18, u19, u20, u21, u22, u23, u24, u25, u26] : List Value).getD j undef) (Zdm x y qx qy g off i l.length c) (fun W => Below wr.heap.size wr W) (by kernel_rfl) (by kernel_rfl) (by kernel_rfl) Y2.drew ?_ ?_
     refine StepsAt.cons _ rfl (fun u' W K' hJ hd hK => ?_) ?_
     {refine Y0 hK hJ rfl rfl rfl ?_
      try dsimp only
      go_simp
      try omega}
     refine StepsAt.cons _ rfl (fun u' W K' hJ hd hK => ?_) ?_
     {refine Y0 hK hJ rfl rfl rfl ?_
      try dsimp only
      go_simp
      try omega}
     refine StepsAt.cons _ rfl (fun u' W K' hJ hd hK => ?_) ?_
     {have d0 : _ = _ := hd 0 (by kernel_rfl)
      have d1 : _ = _ := hd 1 (by kernel_rfl)
      refine Y0 hK hJ rfl rfl rfl ?_
      try dsimp only
      go_simp
      try omega}
     refine StepsAt.cons _ rfl (fun u' W K' hJ hd hK => ?_) ?_
     {have d2 : _ = _ := hd 2 (by kernel_rfl)
      obtain ⟨y0, y1, y2, y3, y4, y5, y6, y7, y8⟩ := HPX.out.keep hg hJ
      refine Y0 hK hJ rfl rfl rfl ?_
      try dsimp only
      go_simp
      try omega}
     refine StepsAt.cons _ rfl (fun u' W K' hJ hd hK => ?_) ?_
     {have d3 : _ = _ := hd 3 (by kernel_rfl)
      refine Z05 (f := 9) (args := #[.agg (Y7 x qx)]) (W' := W) rfl ?_ ((Z2I x qx W (HAX.out.next hJ) HTX.out).mono fun e w' h => ⟨_, h.1, hK.out _ _ rfl (Z00 hJ h.2) h.2⟩)
      try dsimp only
      go_simp
      try omega}
     refine StepsAt.cons _ rfl (fun u' W K' hJ hd hK => ?_) ?_
     {have d4 : _ = _ := hd 4 (by kernel_rfl)
      have e1 : (check x == 0) = false := beq_eq_false_iff_ne.2 hck
      have n1 : (check x != 0) = true := by unfold bne; rw [e1]; rfl
      refine Y0 hK hJ rfl rfl rfl ?_
      try dsimp only
      go_simp
      try omega}
     refine StepsAt.cons _ rfl (fun u' W K' hJ hd hK => ?_) ?_
     {have d5 : _ = _ := hd 5 (by kernel_rfl)
      refine Y0 hK hJ rfl rfl rfl ?_
      try dsimp only
      go_simp
      try omega}
     refine StepsAt.cons _ rfl (fun u' W K' hJ hd hK => ?_) ?_
     {have dg : _ = _ := hd 6 (by kernel_rfl)
      exact Z0i (by simp [Region.wanted, yielded, dg]) (hK.out _ _ trivial hJ Y2)}
     refine StepsAt.cons _ rfl (fun u' W K' hJ hd hK => ?_) ?_
     {have dg : _ = _ := hd 6 (by kernel_rfl)
      exact Z0i (by simp [Region.wanted, yielded, dg]) (hK.out _ _ trivial hJ Y2)}
     refine StepsAt.cons _ rfl (fun u' W K' hJ hd hK => ?_) ?_
     {have dg : _ = _ := hd 6 (by kernel_rfl)
      exact Z0i (by simp [Region.wanted, yielded, dg]) (hK.out _ _ trivial hJ Y2)}
     refine StepsAt.cons _ rfl (fun u' W K' hJ hd hK => ?_) ?_
     {have dg : _ = _ := hd 6 (by kernel_rfl)
      exact Z0i (by simp [Region.wanted, yielded, dg]) (hK.out _ _ trivial hJ Y2)}
     refine StepsAt.cons _ rfl (fun u' W K' hJ hd hK => ?_) ?_
     {have dg : _ = _ := hd 6 (by kernel_rfl)
      exact Z0i (by simp [Region.wanted, yielded, dg]) (hK.out _ _ trivial hJ Y2)}
     refine StepsAt.cons _ rfl (fun u' W K' hJ hd hK => ?_) ?_
     {have dg : _ = _ := hd 6 (by kernel_rfl)
      exact Z0i (by simp [Region.wanted, yielded, dg]) (hK.out _ _ trivial hJ Y2)}
     refine StepsAt.cons _ rfl (fun u' W K' hJ hd hK => ?_) ?_
     {have dg : _ = _ := hd 6 (by kernel_rfl)
      exact Z0i (by simp [Region.wanted, yielded, dg]) (hK.out _ _ trivial hJ Y2)}
     refine StepsAt.cons _ rfl (fun u' W K' hJ hd hK => ?_) ?_
     {have dg : _ = _ := hd 6 (by kernel_rfl)
      exact Z0i (by simp [Region.wanted, yielded, dg]) (hK.out _ _ trivial hJ Y2)}
     refine StepsAt.cons _ rfl (fun u' W K' hJ hd hK => ?_) ?_
     {have dg : _ = _ := hd 6 (by kernel_rfl)
      exact Z0i (by simp [Region.wanted, yielded, dg]) (hK.out _ _ trivial hJ Y2)}
     refine StepsAt.cons _ rfl (fun u' W K' hJ hd hK => ?_) StepsAt.nil
     {have d6 : _ = _ := hd 6 (by kernel_rfl)
      refine Y0 hK hJ rfl rfl rfl ?_
      try dsimp only
      go_simp
      try omega}
     intro u' W' hJ' hok
     try dsimp only
     rw [show u' 16 = .bool true from hok 16 (by decide)]
     clear hok
     go_wp2
     go_ret
     exact ⟨by rw [HF.out]; rfl, HB.out.trans (hJ'.mono HB.out.size)⟩}}}
  {have HF : Hid (same l = true) := Y1 (Zgl (fun j hj => HN.out j hj (by omega)))
   go_wp2
   go_ret
   exact ⟨by rw [HF.out]; rfl, hb⟩}
end Go.Proofs.YtnkdedejfonbmaaGreatDoor
namespace Go.Proofs.YtnkdedejfonbmaaGreatDoor
open Go.RowKit Tms
theorem Z6M (P : Option Addr) (c : Nat) (l : List Tm) (w : World) (hP : TmsAt w w.heap.size P l) (hl : l.length <= 9223372036854775807) (hta : ∀ t ∈ l, tame t = true) (hG : Globs w) (hg : WGlobs w) (hu : Z0l w) :
 Y9 4 #[.slice P l.length c] w (.bool true) := by
 have HA := Y1 (Z0J w hG hg hu)
 have HS := Y1 (Z0g P c l w hP hl (fun t ht => Z09 (hta t ht)) hg hu)
 have HR := Y1 (fun (W : World) (h : Below w.heap.size w W) => Zbd P c l W (TmsAt.next hP h) hl hta)
 have HW := Y1 (fun (W : World) (h : Below w.heap.size w W) => Z0J W (hG.next h) (hg.next h) (hu.next h))
 clear hP hta hG hg hu
 by_cases h20 : 20 < l.length
 {have hi : (20 : Int) < (l.length : Int) := by omega
  go_enter Tryz.func4, Tryz.ntmps4
  go_wp2_with fail
  refine HA.out.mono ?_
  rintro e w1 ⟨rfl, hb1⟩
  have HB := Y1 hb1
  clear hb1
  go_wp2
  go_ret
  exact ⟨rfl, HB.out⟩}
 {have hi : ¬ (20 : Int) < (l.length : Int) := by omega
  generalize same l = b at HS HR
  go_enter Tryz.func4, Tryz.ntmps4
  go_wp2_with fail
  refine HS.out.mono ?_
  rintro e w1 ⟨rfl, hb1⟩
  have HB1 := Y1 hb1
  clear hb1
  go_wp2_with fail
  refine (HR.out w1 HB1.out).mono ?_
  rintro e w2 ⟨rfl, hb2⟩
  have HB2 := Y1 (Z00 HB1.out hb2)
  have hbb : (b == b) = true := by cases b <;> rfl
  clear hb2
  go_wp2_with fail
  refine (HW.out w2 HB2.out).mono ?_
  rintro e w3 ⟨rfl, hb3⟩
  have HB3 := Y1 (Z00 HB2.out hb3)
  clear hb3
  go_wp2
  go_ret
  exact ⟨rfl, HB3.out⟩}
end Go.Proofs.YtnkdedejfonbmaaGreatDoor
namespace Go.Proofs.YtnkdedejfonbmaaGreatDoor.termsSames
open Go.ChangeShapes Go.WideShapes Go.ChangeAt Go.RowKit
open Go.ChangeMaps (open_string shut_string)
theorem own : ownKnob Tryz.prog.godebug = none := by kernel_rfl
theorem laidOut : laidOutB Tryz.prog = true := by kernel_rfl
theorem contract (H : Type) (enc : TypeId × Value -> H) (W : World) (base : Nat) (args : Array Value) (ds gs : List (DataW H)) (before : List MemPlace)
 (hval : ∀ (j : Nat) t v, Tryz.f4.params[j]? = some t -> args[j]? = some v -> Value.okWide Tryz.prog W .any base t v)
 (hW : DataW.Whole enc Tryz.prog Tryz.f4.params.toList Rows.termsSamesSpec.vars false W args.toList ds gs before) (hL : laidMetH Tryz.prog Rows.termsSamesUptoRow.laid W) (hk : Rows.uptoSmall H (ds ++ gs) = true)
 (hsz : (DataW.weightsEach Tryz.prog (Tryz.f4.params.toList ++ Rows.termsSamesSpec.plain.varTypes Tryz.prog) (ds ++ gs)).all (· <= reachBytes) = true) :
 Calls Tryz.prog 4 args W fun e W' => ∃ v, e = .returned v /\ Rows.termsSamesSpec.post enc Tryz.prog Tryz.f4 false true false false W args v W' := by
 have hW' := hW
 obtain ⟨p, q, hA0, hV, rfl, hfz, hnd⟩ := hW
 have hA : DataW.TrodAll enc Tryz.prog W 0 (fun _ => true) true Tryz.f4.params.toList args.toList ds p := hA0
 rw [Tryz.params4] at hA hval hsz
 obtain ⟨v0, vs0, d0, ds0, p0, q0, hargs, rfl, rfl, h0, t0⟩ := trodAll_cons hA
 obtain ⟨rfl, rfl, rfl⟩ := trodAll_nil t0
 obtain rfl : args = #[v0] := by cases args; simp_all
 obtain ⟨rfl, rfl⟩ := trodVars_none hV
 simp only [List.append_nil] at hk
 have hbulk : Rows.uptoBulkAll (H := H) _ <= 1048576 := of_decide_eq_true hk
 simp only [Rows.uptoBulkAll] at hbulk
 have k0 := h0
 have lt0 : ∀ x ∈ p0, x.block < W.heap.size := by obtain ⟨m, hm⟩ := k0; exact DataW.trod_lt m _ _ _ hm
 obtain ⟨A0, n0, c0, rfl⟩ := okWide_slice Tryz.underlying24 (hval 0 24 v0 rfl rfl)
 obtain ⟨s0, rfl, S0, m0, b0⟩ := ZbT h0
 have t0 : ∀ t ∈ s0, Tms.tame t = true := Zfw b0 (by omega)
 clear hA0
 rw [MakeChecks.laidMetH_plain _ _ _ (by kernel_rfl)] at hL
 have g0 : Globs W := Z3j hL (List.Mem.tail _ (List.Mem.tail _ (List.Mem.tail _ (List.Mem.tail _ (List.Mem.tail _ (List.Mem.head _)))))) (List.Mem.tail _ (List.Mem.tail _ (List.Mem.tail _ (List.Mem.tail _ (List.Mem.head _))))) (List.Mem.tail _ (List.Mem.tail _ (List.Mem.head _)))
 have g1 : WGlobs W := Z2M hL (List.Mem.tail _ (List.Mem.tail _ (List.Mem.tail _ (List.Mem.tail _ (List.Mem.tail _ (List.Mem.tail _ (List.Mem.head _)))))))
 have g2 : Z0l W := Z2k hL (List.Mem.tail _ (List.Mem.tail _ (List.Mem.tail _ (List.Mem.tail _ (List.Mem.tail _ (List.Mem.tail _ (List.Mem.tail _ (List.Mem.head _)))))))) (List.Mem.tail _ (List.Mem.tail _ (List.Mem.tail _ (List.Mem.head _))))
 refine (Z6M A0 c0 s0 W S0 m0 t0 g0 g1 g2).mono fun e W' ⟨he, bel⟩ => ?_
 subst he
 exact ⟨_, rfl, _, _, _, [], _, [], hW', trodAll_mk1 (shut_bool Tryz.underlying4 _), (trodAll_cons_mk (Below.trod laidOut (by kernel_rfl) (of_decide_eq_true (by kernel_rfl)) k0 bel lt0) trodAll_mk0), rfl, bel.frame _, fun h => by cases h⟩
theorem reads (os : Os) {H : Type} (enc : TypeId × Value -> H) : ∃ places, DataW.whole enc Tryz.prog ((World.laidAll Tryz.prog os Rows.termsSamesUptoRow.laid).forCall (fun _ _ => 0) ⟨#[], #[(.slice none 0 0)], []⟩).memory Tryz.f4.params.toList Rows.termsSamesSpec.vars false #[(.slice none 0 0)].toList 8 = some ([.nil], [], places) :=
 ⟨[], by kernel_rfl⟩
theorem lifted (os : Os) (started : os.Started) (H : Type) (enc : TypeId × Value -> H) (F : Stop.Interp) :
 ReturnsInHanded {} Tryz.checked os 4 .any ((Rows.OpenSpec.upto Rows.termsSamesSpec).preRow enc Tryz.prog Tryz.f4 Rows.termsSamesUptoRow.domain false Rows.termsSamesUptoRow.laid) (((Rows.OpenSpec.upto Rows.termsSamesSpec).at F).post enc Tryz.prog Tryz.f4 false true false false) := by
 obtain ⟨places, hx⟩ := reads os enc
 refine returnsInHanded_of_row (C := Tryz.checked) (s := Rows.OpenSpec.upto Rows.termsSamesSpec) own started (by kernel_rfl) Tryz.func4
  (Z15 (enc := enc) (C := Tryz.checked) (s := Rows.OpenSpec.upto Rows.termsSamesSpec) false (World.laidAll Tryz.prog os Rows.termsSamesUptoRow.laid) #[(.slice none 0 0)] (World.laidAll_os _ _ _)
   (World.shaped_of_ZipB (by kernel_rfl) (by kernel_rfl)) (by kernel_rfl)
   (OpenSpec.preRow_of_cond 8 hx (by kernel_rfl) (fun k hk => by cases hk; kernel_rfl) (by kernel_rfl)
    (by rw [MakeChecks.laidMetH_plain _ _ _ (by kernel_rfl)]; exact laidMet_laidAll _ (by kernel_rfl) (by kernel_rfl)))) ?_
 intro W base args ds gs before hval hW _ hcond hsz hL _ _
 exact contract H enc W base args ds gs before hval hW hL (hcond _ rfl) hsz
theorem proved : Rows.TermsSamesUptoSaid :=
 OpenClaim.holds_of_cond 4 Tryz.f4 rfl rfl rfl rfl rfl rfl rfl ⟨rfl, rfl, rfl, rfl, rfl⟩ rfl rfl rfl rfl rfl (by kernel_rfl) Tryz.func4 (by kernel_rfl)
  (of_decide_eq_true (by kernel_rfl)) (by unfold Func.isWrapper; first | (rw [if_pos (by decide +kernel)]; kernel_rfl) | (rw [if_neg (by decide +kernel)]; exact ⟨rfl, rfl⟩))
  (fun os started H enc _ F => by rw [OpenClaim.pre_eq_preRow]; exact lifted os started H enc F)
theorem card : Rows.TermsSamesUptoCardSaid :=
 Claim7.holds_tied_plain_at .later [] _ _ _ _ proved (fun _ h => by cases h) (by kernel_rfl) (fun _ h => by cases h) termsSamesUpto_row_tie rfl ⟨rfl, rfl⟩ (by kernel_rfl) rfl
  (fun f fn hf hfn => by
   obtain rfl : f = 4 := Option.some.inj ((show Tryz.prog.funcNamed "pandect/pandectlaw08.TermsSames" = some 4 by kernel_rfl).symm.trans hf) |>.symm
   obtain rfl : fn = Tryz.f4 := (Option.some.inj (Tryz.func4.symm.trans hfn)).symm
   exact ⟨by kernel_rfl, fun j t ht => by
    rw [Tryz.params4] at ht
    have hm : t ∈ [24] := by simpa using Array.mem_of_getElem? ht
    have hall : ([24].all fun u => !Tryz.prog.wantsStandIn u) = true := by kernel_rfl
    exact (show Tryz.prog.wantsStandIn t = false by simpa using List.all_eq_true.1 hall t hm)⟩)
  (by kernel_rfl)
end Go.Proofs.YtnkdedejfonbmaaGreatDoor.termsSames
