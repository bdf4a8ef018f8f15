/- The program's Cmp, way C. -/
import Derived.Test.YtifblpbikngjeaaDoorSemCmpOwn3
import Derived.Deep.RegionHeld3
import Derived.StillTailTactics
namespace Go.Proofs.YtifblpbikngjeaaDoor
open Go.RowKit
set_option linter.unusedVariables false

set_option maxRecDepth 100000 in
set_option maxHeartbeats 4000000 in
theorem cmp_walkC (v u : Sem.Ver) (hv : v.pre.length ≤ 1000000) (hu : u.pre.length ≤ 1000000) (w : World) (hx : (v.maj == u.maj) = true) (hy : (v.min == u.min) = false) :
    Calls Tryd.prog 19 #[verV v, verV u] w fun e w' => e = .returned (.int .i64 (Sem.cmp v u)) ∧ Below w.heap.size w w' := by
  have hV : verV v = .agg #[.int .i64 v.maj, .int .i64 v.min, .int .i64 v.pat, .string ⟨v.pre.toArray⟩] := rfl
  have hU : verV u = .agg #[.int .i64 u.maj, .int .i64 u.min, .int .i64 u.pat, .string ⟨u.pre.toArray⟩] := rfl
  have HC := Lib.hid (orR_cmp v u (fun h => absurd h.2.1 (by simpa using hy)))
  rw [hV, hU]
  clear hV hU
  go_enter Tryd.func19, Tryd.ntmps19
  go_wp2_with fail
  generalize hW : (w.alloc (Obj.cells #[Value.int IntKind.i64 v.maj, Value.int IntKind.i64 v.min, Value.int IntKind.i64 v.pat, Value.string ⟨v.pre.toArray⟩] 23)).alloc (Obj.cells #[Value.int IntKind.i64 u.maj, Value.int IntKind.i64 u.min, Value.int IntKind.i64 u.pat, Value.string ⟨u.pre.toArray⟩] 23) = W
  have hA : VerAt W w.heap.size v := by rw [← hW]; exact (ver_new w v).next (below_one _ _)
  have hB : VerAt W (w.heap.size + 1) u := by
    have := ver_new (w.alloc (Obj.cells #[Value.int IntKind.i64 v.maj, Value.int IntKind.i64 v.min, Value.int IntKind.i64 v.pat, Value.string ⟨v.pre.toArray⟩] 23)) u
    rw [hW] at this
    simpa using this
  have hbW : Below w.heap.size w W := by rw [← hW]; exact below_new (below_one _ _) _
  clear hW
  obtain ⟨_, a0, a1, a2, a3⟩ := hA
  obtain ⟨hg, b0, b1, b2, b3⟩ := hB
  have hS0 : w.heap.size + 1 < W.heap.size ∧ W.cell? ⟨w.heap.size, 0, none⟩ = some (.int .i64 v.maj) ∧ W.cell? ⟨w.heap.size, 1, none⟩ = some (.int .i64 v.min) ∧ W.cell? ⟨w.heap.size, 2, none⟩ = some (.int .i64 v.pat) ∧ W.cell? ⟨w.heap.size, 3, none⟩ = some (.string ⟨v.pre.toArray⟩) ∧ W.cell? ⟨w.heap.size + 1, 0, none⟩ = some (.int .i64 u.maj) ∧ W.cell? ⟨w.heap.size + 1, 1, none⟩ = some (.int .i64 u.min) ∧ W.cell? ⟨w.heap.size + 1, 2, none⟩ = some (.int .i64 u.pat) ∧ W.cell? ⟨w.heap.size + 1, 3, none⟩ = some (.string ⟨u.pre.toArray⟩) ∧ Below w.heap.size w W := ⟨hg, a0, a1, a2, a3, b0, b1, b2, b3, hbW⟩
  have hg2 : w.heap.size < W.heap.size := by omega
  go_region_held3 (fun w' => w.heap.size + 1 < w'.heap.size ∧ w'.cell? ⟨w.heap.size, 0, none⟩ = some (.int .i64 v.maj) ∧ w'.cell? ⟨w.heap.size, 1, none⟩ = some (.int .i64 v.min) ∧ w'.cell? ⟨w.heap.size, 2, none⟩ = some (.int .i64 v.pat) ∧ w'.cell? ⟨w.heap.size, 3, none⟩ = some (.string ⟨v.pre.toArray⟩) ∧ w'.cell? ⟨w.heap.size + 1, 0, none⟩ = some (.int .i64 u.maj) ∧ w'.cell? ⟨w.heap.size + 1, 1, none⟩ = some (.int .i64 u.min) ∧ w'.cell? ⟨w.heap.size + 1, 2, none⟩ = some (.int .i64 u.pat) ∧ w'.cell? ⟨w.heap.size + 1, 3, none⟩ = some (.string ⟨u.pre.toArray⟩) ∧ Below w.heap.size w w')
    (first | exact two8_drew hS0 | exact two8_next (by assumption) (by assumption) | assumption)
    (first | (go_at_call 18; refine (coreL_walk v _).mono ?_; rintro e w4 ⟨rfl, hb4⟩) | (go_at_call 18; refine (coreL_walk u _).mono ?_; rintro e w5 ⟨rfl, hb5⟩))
  have hH : Two8 w w5 w.heap.size v u := by assumption
  obtain ⟨hg5, c0, c1, c2, c3, d0, d1, d2, d3, hb6⟩ := hH
  go_wp2_with fail
  refine wp_region_still_tail 15 (by kernel_rfl) (by kernel_rfl) ?_
  simp only [List.take_succ_cons, List.take_zero, List.drop_succ_cons, List.drop_zero]
  repeat (first | still_step | still_call (flip (compare_walk _ _ _)))
  refine wpStill_nil ?_
  change wpList _ _ _ _ _ w5.drew
  clear c0 c1 c2 c3 d0 d1 d2 d3
  go_wp2_with fail
  have hO := or_walk (some ⟨w5.drew.heap.size, 0, none⟩) 3 [ord v.maj u.maj, ord v.min u.min, ord v.pat u.pat] _ (ints_lit w5.drew [ord v.maj u.maj, ord v.min u.min, ord v.pat u.pat] (cs := #[Value.int IntKind.i64 (ord v.maj u.maj), Value.int IntKind.i64 (ord v.min u.min), Value.int IntKind.i64 (ord v.pat u.pat)]) rfl) (by simp)
  refine hO.mono ?_
  rintro e w6 ⟨rfl, rfl⟩
  go_wp2
  go_ret
  exact ⟨by rw [← HC.out]; rfl, below_new hb6.drew _⟩
end Go.Proofs.YtifblpbikngjeaaDoor
