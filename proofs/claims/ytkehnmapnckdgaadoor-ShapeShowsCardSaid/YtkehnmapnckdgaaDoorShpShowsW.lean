/- The walk of ShapeShows. -/
import Derived.Test.YtkehnmapnckdgaaDoorShpAwake
import Derived.Test.YtkehnmapnckdgaaDoorGT
namespace Go.Proofs.YtkehnmapnckdgaaDoor
open Go.RowKit Shp
set_option linter.unusedVariables false

set_option maxRecDepth 100000 in
set_option maxHeartbeats 8000000 in
theorem shows_walk (t : Sh) (q : Ptr) (w : World) (hq : ShAt w w.heap.size q t) (hg : WGlobs w) :
    Calls Tryd.prog 6 #[.agg #[.int .i64 t.kind, .string ⟨t.of_.toArray⟩, .string ⟨t.name.toArray⟩, .slice q.A t.names.length q.c, .slice q.P t.parts.length q.d]] w fun e w' => e = .returned (.bool true) ∧ Below w.heap.size w w' := by
  have HB0 := Lib.hid (below_one w (.cells #[.int .i64 t.kind, .string ⟨t.of_.toArray⟩, .string ⟨t.name.toArray⟩, .slice q.A t.names.length q.c, .slice q.P t.parts.length q.d] 25))
  have HB := Lib.hid (box5_new w t q)
  have HQ := Lib.hid (hq.next HB0.out)
  have HG := Lib.hid (hg.next HB0.out)
  obtain ⟨a1, ⟨c0, c1, c2, c3, c4⟩, a2⟩ := HB.out
  clear hq hg a1 a2
  go_enter Tryd.func6, Tryd.ntmps6
  go_wp2_with fail
  generalize w.alloc (.cells #[.int .i64 t.kind, .string ⟨t.of_.toArray⟩, .string ⟨t.name.toArray⟩, .slice q.A t.names.length q.c, .slice q.P t.parts.length q.d] 25) = W0 at HB HB0 HQ HG c0 c1 c2 c3 c4 ⊢
  refine (oShow_walk t q W0 HQ.out HG.out).mono ?_
  rintro e W1 ⟨rfl, hb1⟩
  have HBW := Lib.hid hb1
  obtain ⟨a1, ⟨x0, x1, x2, x3, x4⟩, a2⟩ := HB.out.next hb1
  clear hb1 a1 a2 c0 c1 c2 c3 c4
  go_wp2_with fail
  refine (rshow7_walk t q W1 (HQ.out.next HBW.out)).mono ?_
  rintro e W2 ⟨rfl, hb2⟩
  have HBW2 := Lib.hid (below_next HBW.out hb2)
  obtain ⟨S, hS⟩ : ∃ S, S = show7 t := ⟨_, rfl⟩
  obtain ⟨C, hC⟩ : ∃ C, C = check t := ⟨_, rfl⟩
  rw [← hS, ← hC]
  clear hb2 x0 x1 x2 x3 x4 hS hC
  go_wp2_with fail
  refine (awake7_walk W2 (HG.out.next HBW2.out)).mono ?_
  rintro e W3 ⟨rfl, hb3⟩
  have HBW3 := Lib.hid (below_next HBW2.out hb3)
  clear hb3
  go_wp2
  go_ret
  exact ⟨rfl, below_next HB0.out HBW3.out⟩
end Go.Proofs.YtkehnmapnckdgaaDoor
