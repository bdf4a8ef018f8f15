/- The program's Cmp, way A. -/
import Derived.Test.YtifblpbikngjeaaDoorSemCmpOwn3
import Derived.Deep.RegionHeld3
import Derived.StillTailTactics
namespace Go.Proofs.YtifblpbikngjeaaDoor
open Go.RowKit
set_option linter.unusedVariables false

set_option maxRecDepth 100000 in
set_option maxHeartbeats 4000000 in
theorem cmp_walkA (v u : Sem.Ver) (hv : v.pre.length ≤ 1000000) (hu : u.pre.length ≤ 1000000) (w : World) (hx : (v.maj == u.maj) = true) (hy : (v.min == u.min) = true) (hz : (v.pat == u.pat) = true) :
    Calls Tryd.prog 19 #[verV v, verV u] w fun e w' => e = .returned (.int .i64 (Sem.cmp v u)) ∧ Below w.heap.size w w' := by
  have hV : verV v = .agg #[.int .i64 v.maj, .int .i64 v.min, .int .i64 v.pat, .string ⟨v.pre.toArray⟩] := rfl
  have hU : verV u = .agg #[.int .i64 u.maj, .int .i64 u.min, .int .i64 u.pat, .string ⟨u.pre.toArray⟩] := rfl
  have HC : Hid (Sem.cmp v u = Sem.three (Sem.preKey v.pre) (Sem.preKey u.pre)) := Lib.hid (by
    rw [Sem.cmp_steps, if_pos (by simpa using hx), if_pos (by simpa using hy), if_pos (by simpa using hz)])
  rw [hV, hU]
  clear hV hU
  go_enter Tryd.func19, Tryd.ntmps19
  go_wp2_with fail
  generalize hW : (w.alloc (Obj.cells #[Value.int IntKind.i64 v.maj, Value.int IntKind.i64 v.min, Value.int IntKind.i64 v.pat, Value.string ⟨v.pre.toArray⟩] 23)).alloc (Obj.cells #[Value.int IntKind.i64 u.maj, Value.int IntKind.i64 u.min, Value.int IntKind.i64 u.pat, Value.string ⟨u.pre.toArray⟩] 23) = W
  have hA : VerAt W w.heap.size v := by rw [← hW]; exact (ver_new w v).next (below_one _ _)
  have hB : VerAt W (w.heap.size + 1) u := by
    have := ver_new (w.alloc (Obj.cells #[Value.int IntKind.i64 v.maj, Value.int IntKind.i64 v.min, Value.int IntKind.i64 v.pat, Value.string ⟨v.pre.toArray⟩] 23)) u
    rw [hW] at this
    simpa using this
  have hbW : Below w.heap.size w W := by rw [← hW]; exact below_new (below_one _ _) _
  clear hW
  obtain ⟨_, a0, a1, a2, a3⟩ := hA
  obtain ⟨hg, b0, b1, b2, b3⟩ := hB
  have hS0 : w.heap.size + 1 < W.heap.size ∧ W.cell? ⟨w.heap.size, 0, none⟩ = some (.int .i64 v.maj) ∧ W.cell? ⟨w.heap.size, 1, none⟩ = some (.int .i64 v.min) ∧ W.cell? ⟨w.heap.size, 2, none⟩ = some (.int .i64 v.pat) ∧ W.cell? ⟨w.heap.size, 3, none⟩ = some (.string ⟨v.pre.toArray⟩) ∧ W.cell? ⟨w.heap.size + 1, 0, none⟩ = some (.int .i64 u.maj) ∧ W.cell? ⟨w.heap.size + 1, 1, none⟩ = some (.int .i64 u.min) ∧ W.cell? ⟨w.heap.size + 1, 2, none⟩ = some (.int .i64 u.pat) ∧ W.cell? ⟨w.heap.size + 1, 3, none⟩ = some (.string ⟨u.pre.toArray⟩) ∧ Below w.heap.size w W := ⟨hg, a0, a1, a2, a3, b0, b1, b2, b3, hbW⟩
  have hg2 : w.heap.size < W.heap.size := by omega
  go_region_held3 (fun w' => w.heap.size + 1 < w'.heap.size ∧ w'.cell? ⟨w.heap.size, 0, none⟩ = some (.int .i64 v.maj) ∧ w'.cell? ⟨w.heap.size, 1, none⟩ = some (.int .i64 v.min) ∧ w'.cell? ⟨w.heap.size, 2, none⟩ = some (.int .i64 v.pat) ∧ w'.cell? ⟨w.heap.size, 3, none⟩ = some (.string ⟨v.pre.toArray⟩) ∧ w'.cell? ⟨w.heap.size + 1, 0, none⟩ = some (.int .i64 u.maj) ∧ w'.cell? ⟨w.heap.size + 1, 1, none⟩ = some (.int .i64 u.min) ∧ w'.cell? ⟨w.heap.size + 1, 2, none⟩ = some (.int .i64 u.pat) ∧ w'.cell? ⟨w.heap.size + 1, 3, none⟩ = some (.string ⟨u.pre.toArray⟩) ∧ Below w.heap.size w w')
    (first | exact two8_drew hS0 | exact two8_next (by assumption) (by assumption) | assumption)
    (first | (go_at_call 18; refine (coreL_walk v _).mono ?_; rintro e w4 ⟨rfl, hb4⟩) | (go_at_call 18; refine (coreL_walk u _).mono ?_; rintro e w5 ⟨rfl, hb5⟩))
  have hH : Two8 w w5 w.heap.size v u := by assumption
  obtain ⟨hg5, c0, c1, c2, c3, d0, d1, d2, d3, hb6⟩ := hH
  go_wp2_with fail
  refine (cmpPre_walk _ _ hv hu _).mono ?_
  rintro e w6 ⟨rfl, hb7⟩
  go_wp2
  go_ret
  exact ⟨by rw [HC.out]; rfl, below_next hb6 hb7⟩
end Go.Proofs.YtifblpbikngjeaaDoor
