/- The walk of ShapeSame. -/
import Derived.Test.YtkehnmapnckdgaaDoorShpAwake
import Derived.Test.YtkehnmapnckdgaaDoorShpU4
import Derived.Test.YtkehnmapnckdgaaDoorGEq
namespace Go.Proofs.YtkehnmapnckdgaaDoor
open Go.RowKit Shp
set_option linter.unusedVariables false
set_option linter.unusedSimpArgs false

set_option maxRecDepth 100000 in
set_option maxHeartbeats 16000000 in
theorem same_no1 (t u v : Sh) (q r s : Ptr) (w : World) (hq : ShAt w w.heap.size q t) (hr : ShAt w w.heap.size r u) (hs : ShAt w w.heap.size s v) (hg : WGlobs w) (h1 : check t ≠ 0) :
    Calls Tryd.prog 8 #[.agg #[.int .i64 t.kind, .string ⟨t.of_.toArray⟩, .string ⟨t.name.toArray⟩, .slice q.A t.names.length q.c, .slice q.P t.parts.length q.d], .agg #[.int .i64 u.kind, .string ⟨u.of_.toArray⟩, .string ⟨u.name.toArray⟩, .slice r.A u.names.length r.c, .slice r.P u.parts.length r.d], .agg #[.int .i64 v.kind, .string ⟨v.of_.toArray⟩, .string ⟨v.name.toArray⟩, .slice s.A v.names.length s.c, .slice s.P v.parts.length s.d]] w fun e w' => e = .returned (.bool true) ∧ Below w.heap.size w w' := by
  have e1t : (check t != 0) = true := by simpa using h1
  have e2t : (check t == 0) = false := by simpa using h1
  clear h1
  have HB1 : Hid (Box5 (((w.alloc (.cells #[.int .i64 t.kind, .string ⟨t.of_.toArray⟩, .string ⟨t.name.toArray⟩, .slice q.A t.names.length q.c, .slice q.P t.parts.length q.d] 25)).alloc (.cells #[.int .i64 u.kind, .string ⟨u.of_.toArray⟩, .string ⟨u.name.toArray⟩, .slice r.A u.names.length r.c, .slice r.P u.parts.length r.d] 25)).alloc (.cells #[.int .i64 v.kind, .string ⟨v.of_.toArray⟩, .string ⟨v.name.toArray⟩, .slice s.A v.names.length s.c, .slice s.P v.parts.length s.d] 25)) w.heap.size t q) := Lib.hid (((box5_new w t q).next (below_one _ _)).next (below_one _ _))
  have HB2 : Hid (Box5 (((w.alloc (.cells #[.int .i64 t.kind, .string ⟨t.of_.toArray⟩, .string ⟨t.name.toArray⟩, .slice q.A t.names.length q.c, .slice q.P t.parts.length q.d] 25)).alloc (.cells #[.int .i64 u.kind, .string ⟨u.of_.toArray⟩, .string ⟨u.name.toArray⟩, .slice r.A u.names.length r.c, .slice r.P u.parts.length r.d] 25)).alloc (.cells #[.int .i64 v.kind, .string ⟨v.of_.toArray⟩, .string ⟨v.name.toArray⟩, .slice s.A v.names.length s.c, .slice s.P v.parts.length s.d] 25)) (w.heap.size + 1) u r) := by
    have h := box5_new (w.alloc (.cells #[.int .i64 t.kind, .string ⟨t.of_.toArray⟩, .string ⟨t.name.toArray⟩, .slice q.A t.names.length q.c, .slice q.P t.parts.length q.d] 25)) u r
    have e : (w.alloc (.cells #[.int .i64 t.kind, .string ⟨t.of_.toArray⟩, .string ⟨t.name.toArray⟩, .slice q.A t.names.length q.c, .slice q.P t.parts.length q.d] 25)).heap.size = w.heap.size + 1 := by simp
    rw [e] at h
    exact Lib.hid (h.next (below_one _ _))
  have HB3 : Hid (Box5 (((w.alloc (.cells #[.int .i64 t.kind, .string ⟨t.of_.toArray⟩, .string ⟨t.name.toArray⟩, .slice q.A t.names.length q.c, .slice q.P t.parts.length q.d] 25)).alloc (.cells #[.int .i64 u.kind, .string ⟨u.of_.toArray⟩, .string ⟨u.name.toArray⟩, .slice r.A u.names.length r.c, .slice r.P u.parts.length r.d] 25)).alloc (.cells #[.int .i64 v.kind, .string ⟨v.of_.toArray⟩, .string ⟨v.name.toArray⟩, .slice s.A v.names.length s.c, .slice s.P v.parts.length s.d] 25)) (w.heap.size + 1 + 1) v s) := by
    have h := box5_new ((w.alloc (.cells #[.int .i64 t.kind, .string ⟨t.of_.toArray⟩, .string ⟨t.name.toArray⟩, .slice q.A t.names.length q.c, .slice q.P t.parts.length q.d] 25)).alloc (.cells #[.int .i64 u.kind, .string ⟨u.of_.toArray⟩, .string ⟨u.name.toArray⟩, .slice r.A u.names.length r.c, .slice r.P u.parts.length r.d] 25)) v s
    have e : ((w.alloc (.cells #[.int .i64 t.kind, .string ⟨t.of_.toArray⟩, .string ⟨t.name.toArray⟩, .slice q.A t.names.length q.c, .slice q.P t.parts.length q.d] 25)).alloc (.cells #[.int .i64 u.kind, .string ⟨u.of_.toArray⟩, .string ⟨u.name.toArray⟩, .slice r.A u.names.length r.c, .slice r.P u.parts.length r.d] 25)).heap.size = w.heap.size + 1 + 1 := by simp
    rw [e] at h
    exact Lib.hid h
  have hb0 : Below w.heap.size w (((w.alloc (.cells #[.int .i64 t.kind, .string ⟨t.of_.toArray⟩, .string ⟨t.name.toArray⟩, .slice q.A t.names.length q.c, .slice q.P t.parts.length q.d] 25)).alloc (.cells #[.int .i64 u.kind, .string ⟨u.of_.toArray⟩, .string ⟨u.name.toArray⟩, .slice r.A u.names.length r.c, .slice r.P u.parts.length r.d] 25)).alloc (.cells #[.int .i64 v.kind, .string ⟨v.of_.toArray⟩, .string ⟨v.name.toArray⟩, .slice s.A v.names.length s.c, .slice s.P v.parts.length s.d] 25)) := below_new (below_new (below_one _ _) _) _
  have HQ := Lib.hid (hq.next hb0)
  have HR := Lib.hid (hr.next hb0)
  have HS := Lib.hid (hs.next hb0)
  have HG := Lib.hid (hg.next hb0)
  have HB0 := Lib.hid hb0
  obtain ⟨a1, ⟨c0, c1, c2, c3, c4⟩, a2⟩ := HB1.out
  clear hq hr hs hg hb0 a1 a2
  go_enter Tryd.func8, Tryd.ntmps8
  go_wp2_with fail
  generalize ((w.alloc (.cells #[.int .i64 t.kind, .string ⟨t.of_.toArray⟩, .string ⟨t.name.toArray⟩, .slice q.A t.names.length q.c, .slice q.P t.parts.length q.d] 25)).alloc (.cells #[.int .i64 u.kind, .string ⟨u.of_.toArray⟩, .string ⟨u.name.toArray⟩, .slice r.A u.names.length r.c, .slice r.P u.parts.length r.d] 25)).alloc (.cells #[.int .i64 v.kind, .string ⟨v.of_.toArray⟩, .string ⟨v.name.toArray⟩, .slice s.A v.names.length s.c, .slice s.P v.parts.length s.d] 25) = W0 at HB1 HB2 HB3 HQ HR HS HG HB0 c0 c1 c2 c3 c4 ⊢
  refine (oCheck_walk t q W0 HQ.out HG.out).mono ?_
  rintro e W1 ⟨rfl, hb⟩
  have HBW1 := Lib.hid hb
  clear hb c0 c1 c2 c3 c4
  go_wp2_with fail
  refine (awake7_walk W1 (HG.out.next HBW1.out)).mono ?_
  rintro e W9 ⟨rfl, hb9⟩
  have HBW9 := Lib.hid (below_next HBW1.out hb9)
  clear hb9
  go_wp2
  go_ret
  exact ⟨rfl, below_next HB0.out HBW9.out⟩

set_option maxRecDepth 100000 in
set_option maxHeartbeats 16000000 in
theorem same_no2 (t u v : Sh) (q r s : Ptr) (w : World) (hq : ShAt w w.heap.size q t) (hr : ShAt w w.heap.size r u) (hs : ShAt w w.heap.size s v) (hg : WGlobs w) (h1 : check t = 0) (h2 : check u ≠ 0) :
    Calls Tryd.prog 8 #[.agg #[.int .i64 t.kind, .string ⟨t.of_.toArray⟩, .string ⟨t.name.toArray⟩, .slice q.A t.names.length q.c, .slice q.P t.parts.length q.d], .agg #[.int .i64 u.kind, .string ⟨u.of_.toArray⟩, .string ⟨u.name.toArray⟩, .slice r.A u.names.length r.c, .slice r.P u.parts.length r.d], .agg #[.int .i64 v.kind, .string ⟨v.of_.toArray⟩, .string ⟨v.name.toArray⟩, .slice s.A v.names.length s.c, .slice s.P v.parts.length s.d]] w fun e w' => e = .returned (.bool true) ∧ Below w.heap.size w w' := by
  have e1t : (check t != 0) = false := by simpa using h1
  have e2t : (check t == 0) = true := by simpa using h1
  have e1u : (check u != 0) = true := by simpa using h2
  have e2u : (check u == 0) = false := by simpa using h2
  clear h1 h2
  have HB1 : Hid (Box5 (((w.alloc (.cells #[.int .i64 t.kind, .string ⟨t.of_.toArray⟩, .string ⟨t.name.toArray⟩, .slice q.A t.names.length q.c, .slice q.P t.parts.length q.d] 25)).alloc (.cells #[.int .i64 u.kind, .string ⟨u.of_.toArray⟩, .string ⟨u.name.toArray⟩, .slice r.A u.names.length r.c, .slice r.P u.parts.length r.d] 25)).alloc (.cells #[.int .i64 v.kind, .string ⟨v.of_.toArray⟩, .string ⟨v.name.toArray⟩, .slice s.A v.names.length s.c, .slice s.P v.parts.length s.d] 25)) w.heap.size t q) := Lib.hid (((box5_new w t q).next (below_one _ _)).next (below_one _ _))
  have HB2 : Hid (Box5 (((w.alloc (.cells #[.int .i64 t.kind, .string ⟨t.of_.toArray⟩, .string ⟨t.name.toArray⟩, .slice q.A t.names.length q.c, .slice q.P t.parts.length q.d] 25)).alloc (.cells #[.int .i64 u.kind, .string ⟨u.of_.toArray⟩, .string ⟨u.name.toArray⟩, .slice r.A u.names.length r.c, .slice r.P u.parts.length r.d] 25)).alloc (.cells #[.int .i64 v.kind, .string ⟨v.of_.toArray⟩, .string ⟨v.name.toArray⟩, .slice s.A v.names.length s.c, .slice s.P v.parts.length s.d] 25)) (w.heap.size + 1) u r) := by
    have h := box5_new (w.alloc (.cells #[.int .i64 t.kind, .string ⟨t.of_.toArray⟩, .string ⟨t.name.toArray⟩, .slice q.A t.names.length q.c, .slice q.P t.parts.length q.d] 25)) u r
    have e : (w.alloc (.cells #[.int .i64 t.kind, .string ⟨t.of_.toArray⟩, .string ⟨t.name.toArray⟩, .slice q.A t.names.length q.c, .slice q.P t.parts.length q.d] 25)).heap.size = w.heap.size + 1 := by simp
    rw [e] at h
    exact Lib.hid (h.next (below_one _ _))
  have HB3 : Hid (Box5 (((w.alloc (.cells #[.int .i64 t.kind, .string ⟨t.of_.toArray⟩, .string ⟨t.name.toArray⟩, .slice q.A t.names.length q.c, .slice q.P t.parts.length q.d] 25)).alloc (.cells #[.int .i64 u.kind, .string ⟨u.of_.toArray⟩, .string ⟨u.name.toArray⟩, .slice r.A u.names.length r.c, .slice r.P u.parts.length r.d] 25)).alloc (.cells #[.int .i64 v.kind, .string ⟨v.of_.toArray⟩, .string ⟨v.name.toArray⟩, .slice s.A v.names.length s.c, .slice s.P v.parts.length s.d] 25)) (w.heap.size + 1 + 1) v s) := by
    have h := box5_new ((w.alloc (.cells #[.int .i64 t.kind, .string ⟨t.of_.toArray⟩, .string ⟨t.name.toArray⟩, .slice q.A t.names.length q.c, .slice q.P t.parts.length q.d] 25)).alloc (.cells #[.int .i64 u.kind, .string ⟨u.of_.toArray⟩, .string ⟨u.name.toArray⟩, .slice r.A u.names.length r.c, .slice r.P u.parts.length r.d] 25)) v s
    have e : ((w.alloc (.cells #[.int .i64 t.kind, .string ⟨t.of_.toArray⟩, .string ⟨t.name.toArray⟩, .slice q.A t.names.length q.c, .slice q.P t.parts.length q.d] 25)).alloc (.cells #[.int .i64 u.kind, .string ⟨u.of_.toArray⟩, .string ⟨u.name.toArray⟩, .slice r.A u.names.length r.c, .slice r.P u.parts.length r.d] 25)).heap.size = w.heap.size + 1 + 1 := by simp
    rw [e] at h
    exact Lib.hid h
  have hb0 : Below w.heap.size w (((w.alloc (.cells #[.int .i64 t.kind, .string ⟨t.of_.toArray⟩, .string ⟨t.name.toArray⟩, .slice q.A t.names.length q.c, .slice q.P t.parts.length q.d] 25)).alloc (.cells #[.int .i64 u.kind, .string ⟨u.of_.toArray⟩, .string ⟨u.name.toArray⟩, .slice r.A u.names.length r.c, .slice r.P u.parts.length r.d] 25)).alloc (.cells #[.int .i64 v.kind, .string ⟨v.of_.toArray⟩, .string ⟨v.name.toArray⟩, .slice s.A v.names.length s.c, .slice s.P v.parts.length s.d] 25)) := below_new (below_new (below_one _ _) _) _
  have HQ := Lib.hid (hq.next hb0)
  have HR := Lib.hid (hr.next hb0)
  have HS := Lib.hid (hs.next hb0)
  have HG := Lib.hid (hg.next hb0)
  have HB0 := Lib.hid hb0
  obtain ⟨a1, ⟨c0, c1, c2, c3, c4⟩, a2⟩ := HB1.out
  clear hq hr hs hg hb0 a1 a2
  go_enter Tryd.func8, Tryd.ntmps8
  go_wp2_with fail
  generalize ((w.alloc (.cells #[.int .i64 t.kind, .string ⟨t.of_.toArray⟩, .string ⟨t.name.toArray⟩, .slice q.A t.names.length q.c, .slice q.P t.parts.length q.d] 25)).alloc (.cells #[.int .i64 u.kind, .string ⟨u.of_.toArray⟩, .string ⟨u.name.toArray⟩, .slice r.A u.names.length r.c, .slice r.P u.parts.length r.d] 25)).alloc (.cells #[.int .i64 v.kind, .string ⟨v.of_.toArray⟩, .string ⟨v.name.toArray⟩, .slice s.A v.names.length s.c, .slice s.P v.parts.length s.d] 25) = W0 at HB1 HB2 HB3 HQ HR HS HG HB0 c0 c1 c2 c3 c4 ⊢
  refine (oCheck_walk t q W0 HQ.out HG.out).mono ?_
  rintro e W1 ⟨rfl, hb⟩
  have HBW1 := Lib.hid hb
  clear hb c0 c1 c2 c3 c4
  obtain ⟨a1, ⟨x0, x1, x2, x3, x4⟩, a2⟩ := HB2.out.next HBW1.out
  simp only [Nat.zero_add] at x0 x1 x2 x3 x4
  clear a1 a2
  go_wp2_with fail
  refine (oCheck_walk u r W1 (HR.out.next HBW1.out) (HG.out.next HBW1.out)).mono ?_
  rintro e W2 ⟨rfl, hb⟩
  have HBW2 := Lib.hid (below_next HBW1.out hb)
  clear hb x0 x1 x2 x3 x4
  go_wp2_with fail
  refine (awake7_walk W2 (HG.out.next HBW2.out)).mono ?_
  rintro e W9 ⟨rfl, hb9⟩
  have HBW9 := Lib.hid (below_next HBW2.out hb9)
  clear hb9
  go_wp2
  go_ret
  exact ⟨rfl, below_next HB0.out HBW9.out⟩

set_option maxRecDepth 100000 in
set_option maxHeartbeats 16000000 in
theorem same_no3 (t u v : Sh) (q r s : Ptr) (w : World) (hq : ShAt w w.heap.size q t) (hr : ShAt w w.heap.size r u) (hs : ShAt w w.heap.size s v) (hg : WGlobs w) (h1 : check t = 0) (h2 : check u = 0) (h3 : check v ≠ 0) :
    Calls Tryd.prog 8 #[.agg #[.int .i64 t.kind, .string ⟨t.of_.toArray⟩, .string ⟨t.name.toArray⟩, .slice q.A t.names.length q.c, .slice q.P t.parts.length q.d], .agg #[.int .i64 u.kind, .string ⟨u.of_.toArray⟩, .string ⟨u.name.toArray⟩, .slice r.A u.names.length r.c, .slice r.P u.parts.length r.d], .agg #[.int .i64 v.kind, .string ⟨v.of_.toArray⟩, .string ⟨v.name.toArray⟩, .slice s.A v.names.length s.c, .slice s.P v.parts.length s.d]] w fun e w' => e = .returned (.bool true) ∧ Below w.heap.size w w' := by
  have e1t : (check t != 0) = false := by simpa using h1
  have e2t : (check t == 0) = true := by simpa using h1
  have e1u : (check u != 0) = false := by simpa using h2
  have e2u : (check u == 0) = true := by simpa using h2
  have e1v : (check v != 0) = true := by simpa using h3
  have e2v : (check v == 0) = false := by simpa using h3
  clear h1 h2 h3
  have HB1 : Hid (Box5 (((w.alloc (.cells #[.int .i64 t.kind, .string ⟨t.of_.toArray⟩, .string ⟨t.name.toArray⟩, .slice q.A t.names.length q.c, .slice q.P t.parts.length q.d] 25)).alloc (.cells #[.int .i64 u.kind, .string ⟨u.of_.toArray⟩, .string ⟨u.name.toArray⟩, .slice r.A u.names.length r.c, .slice r.P u.parts.length r.d] 25)).alloc (.cells #[.int .i64 v.kind, .string ⟨v.of_.toArray⟩, .string ⟨v.name.toArray⟩, .slice s.A v.names.length s.c, .slice s.P v.parts.length s.d] 25)) w.heap.size t q) := Lib.hid (((box5_new w t q).next (below_one _ _)).next (below_one _ _))
  have HB2 : Hid (Box5 (((w.alloc (.cells #[.int .i64 t.kind, .string ⟨t.of_.toArray⟩, .string ⟨t.name.toArray⟩, .slice q.A t.names.length q.c, .slice q.P t.parts.length q.d] 25)).alloc (.cells #[.int .i64 u.kind, .string ⟨u.of_.toArray⟩, .string ⟨u.name.toArray⟩, .slice r.A u.names.length r.c, .slice r.P u.parts.length r.d] 25)).alloc (.cells #[.int .i64 v.kind, .string ⟨v.of_.toArray⟩, .string ⟨v.name.toArray⟩, .slice s.A v.names.length s.c, .slice s.P v.parts.length s.d] 25)) (w.heap.size + 1) u r) := by
    have h := box5_new (w.alloc (.cells #[.int .i64 t.kind, .string ⟨t.of_.toArray⟩, .string ⟨t.name.toArray⟩, .slice q.A t.names.length q.c, .slice q.P t.parts.length q.d] 25)) u r
    have e : (w.alloc (.cells #[.int .i64 t.kind, .string ⟨t.of_.toArray⟩, .string ⟨t.name.toArray⟩, .slice q.A t.names.length q.c, .slice q.P t.parts.length q.d] 25)).heap.size = w.heap.size + 1 := by simp
    rw [e] at h
    exact Lib.hid (h.next (below_one _ _))
  have HB3 : Hid (Box5 (((w.alloc (.cells #[.int .i64 t.kind, .string ⟨t.of_.toArray⟩, .string ⟨t.name.toArray⟩, .slice q.A t.names.length q.c, .slice q.P t.parts.length q.d] 25)).alloc (.cells #[.int .i64 u.kind, .string ⟨u.of_.toArray⟩, .string ⟨u.name.toArray⟩, .slice r.A u.names.length r.c, .slice r.P u.parts.length r.d] 25)).alloc (.cells #[.int .i64 v.kind, .string ⟨v.of_.toArray⟩, .string ⟨v.name.toArray⟩, .slice s.A v.names.length s.c, .slice s.P v.parts.length s.d] 25)) (w.heap.size + 1 + 1) v s) := by
    have h := box5_new ((w.alloc (.cells #[.int .i64 t.kind, .string ⟨t.of_.toArray⟩, .string ⟨t.name.toArray⟩, .slice q.A t.names.length q.c, .slice q.P t.parts.length q.d] 25)).alloc (.cells #[.int .i64 u.kind, .string ⟨u.of_.toArray⟩, .string ⟨u.name.toArray⟩, .slice r.A u.names.length r.c, .slice r.P u.parts.length r.d] 25)) v s
    have e : ((w.alloc (.cells #[.int .i64 t.kind, .string ⟨t.of_.toArray⟩, .string ⟨t.name.toArray⟩, .slice q.A t.names.length q.c, .slice q.P t.parts.length q.d] 25)).alloc (.cells #[.int .i64 u.kind, .string ⟨u.of_.toArray⟩, .string ⟨u.name.toArray⟩, .slice r.A u.names.length r.c, .slice r.P u.parts.length r.d] 25)).heap.size = w.heap.size + 1 + 1 := by simp
    rw [e] at h
    exact Lib.hid h
  have hb0 : Below w.heap.size w (((w.alloc (.cells #[.int .i64 t.kind, .string ⟨t.of_.toArray⟩, .string ⟨t.name.toArray⟩, .slice q.A t.names.length q.c, .slice q.P t.parts.length q.d] 25)).alloc (.cells #[.int .i64 u.kind, .string ⟨u.of_.toArray⟩, .string ⟨u.name.toArray⟩, .slice r.A u.names.length r.c, .slice r.P u.parts.length r.d] 25)).alloc (.cells #[.int .i64 v.kind, .string ⟨v.of_.toArray⟩, .string ⟨v.name.toArray⟩, .slice s.A v.names.length s.c, .slice s.P v.parts.length s.d] 25)) := below_new (below_new (below_one _ _) _) _
  have HQ := Lib.hid (hq.next hb0)
  have HR := Lib.hid (hr.next hb0)
  have HS := Lib.hid (hs.next hb0)
  have HG := Lib.hid (hg.next hb0)
  have HB0 := Lib.hid hb0
  obtain ⟨a1, ⟨c0, c1, c2, c3, c4⟩, a2⟩ := HB1.out
  clear hq hr hs hg hb0 a1 a2
  go_enter Tryd.func8, Tryd.ntmps8
  go_wp2_with fail
  generalize ((w.alloc (.cells #[.int .i64 t.kind, .string ⟨t.of_.toArray⟩, .string ⟨t.name.toArray⟩, .slice q.A t.names.length q.c, .slice q.P t.parts.length q.d] 25)).alloc (.cells #[.int .i64 u.kind, .string ⟨u.of_.toArray⟩, .string ⟨u.name.toArray⟩, .slice r.A u.names.length r.c, .slice r.P u.parts.length r.d] 25)).alloc (.cells #[.int .i64 v.kind, .string ⟨v.of_.toArray⟩, .string ⟨v.name.toArray⟩, .slice s.A v.names.length s.c, .slice s.P v.parts.length s.d] 25) = W0 at HB1 HB2 HB3 HQ HR HS HG HB0 c0 c1 c2 c3 c4 ⊢
  refine (oCheck_walk t q W0 HQ.out HG.out).mono ?_
  rintro e W1 ⟨rfl, hb⟩
  have HBW1 := Lib.hid hb
  clear hb c0 c1 c2 c3 c4
  obtain ⟨a1, ⟨x0, x1, x2, x3, x4⟩, a2⟩ := HB2.out.next HBW1.out
  simp only [Nat.zero_add] at x0 x1 x2 x3 x4
  clear a1 a2
  go_wp2_with fail
  refine (oCheck_walk u r W1 (HR.out.next HBW1.out) (HG.out.next HBW1.out)).mono ?_
  rintro e W2 ⟨rfl, hb⟩
  have HBW2 := Lib.hid (below_next HBW1.out hb)
  clear hb x0 x1 x2 x3 x4
  obtain ⟨a1, ⟨x0, x1, x2, x3, x4⟩, a2⟩ := HB3.out.next HBW2.out
  simp only [Nat.zero_add] at x0 x1 x2 x3 x4
  clear a1 a2
  go_wp2_with fail
  refine (oCheck_walk v s W2 (HS.out.next HBW2.out) (HG.out.next HBW2.out)).mono ?_
  rintro e W3 ⟨rfl, hb⟩
  have HBW3 := Lib.hid (below_next HBW2.out hb)
  clear hb x0 x1 x2 x3 x4
  go_wp2_with fail
  refine (awake7_walk W3 (HG.out.next HBW3.out)).mono ?_
  rintro e W9 ⟨rfl, hb9⟩
  have HBW9 := Lib.hid (below_next HBW3.out hb9)
  clear hb9
  go_wp2
  go_ret
  exact ⟨rfl, below_next HB0.out HBW9.out⟩

def same4T (t z : Sh) (q p : Ptr) : Nat → Want
  | 0 => .val (.agg #[.int .i64 t.kind, .string ⟨t.of_.toArray⟩, .string ⟨t.name.toArray⟩, .slice q.A t.names.length q.c, .slice q.P t.parts.length q.d])
  | 1 => .val (.agg #[.int .i64 t.kind, .string ⟨t.of_.toArray⟩, .string ⟨t.name.toArray⟩, .slice q.A t.names.length q.c, .slice q.P t.parts.length q.d])
  | 2 => .val (.bool true)
  | 3 => .val (.bool false)
  | 4 => .val (.bool false)
  | 5 => .val (.agg #[.int .i64 t.kind, .string ⟨t.of_.toArray⟩, .string ⟨t.name.toArray⟩, .slice q.A t.names.length q.c, .slice q.P t.parts.length q.d])
  | 6 => .val (.agg #[.int .i64 z.kind, .string ⟨z.of_.toArray⟩, .string ⟨z.name.toArray⟩, .slice p.A z.names.length p.c, .slice p.P z.parts.length p.d])
  | 7 => .val (.bool true)
  | 8 => .val (.bool false)
  | 9 => .val (.bool false)
  | 10 => .val (.bool false)
  | 11 => .val (.agg #[.int .i64 z.kind, .string ⟨z.of_.toArray⟩, .string ⟨z.name.toArray⟩, .slice p.A z.names.length p.c, .slice p.P z.parts.length p.d])
  | 12 => wantSh (sorted z)
  | 13 => .val (.agg #[.int .i64 z.kind, .string ⟨z.of_.toArray⟩, .string ⟨z.name.toArray⟩, .slice p.A z.names.length p.c, .slice p.P z.parts.length p.d])
  | 14 => .val (.bool true)
  | 15 => .val (.bool false)
  | 16 => .val (.bool false)
  | 17 => .val (.bool false)
  | 18 => .val (.agg #[.int .i64 z.kind, .string ⟨z.of_.toArray⟩, .string ⟨z.name.toArray⟩, .slice p.A z.names.length p.c, .slice p.P z.parts.length p.d])
  | 19 => .val (.int .i64 (sizeTo 400 t : Int))
  | 20 => .val (.agg #[.int .i64 t.kind, .string ⟨t.of_.toArray⟩, .string ⟨t.name.toArray⟩, .slice q.A t.names.length q.c, .slice q.P t.parts.length q.d])
  | 21 => .val (.int .i64 (sizeTo 400 t : Int))
  | 22 => .val (.bool false)
  | 23 => .val (.bool false)
  | 24 => .val (.bool false)
  | 25 => .val (.agg #[.int .i64 z.kind, .string ⟨z.of_.toArray⟩, .string ⟨z.name.toArray⟩, .slice p.A z.names.length p.c, .slice p.P z.parts.length p.d])
  | 26 => .val (.int .i64 (deepTo t))
  | 27 => .val (.agg #[.int .i64 t.kind, .string ⟨t.of_.toArray⟩, .string ⟨t.name.toArray⟩, .slice q.A t.names.length q.c, .slice q.P t.parts.length q.d])
  | 28 => .val (.int .i64 (deepTo t))
  | 29 => .val (.bool false)
  | 30 => .val (.bool false)
  | _ => .any

def same6aT (t u v : Sh) (q r s : Ptr) : Nat → Want
  | 0 => .val (.agg #[.int .i64 t.kind, .string ⟨t.of_.toArray⟩, .string ⟨t.name.toArray⟩, .slice q.A t.names.length q.c, .slice q.P t.parts.length q.d])
  | 1 => .val (.agg #[.int .i64 u.kind, .string ⟨u.of_.toArray⟩, .string ⟨u.name.toArray⟩, .slice r.A u.names.length r.c, .slice r.P u.parts.length r.d])
  | 2 => .val (.bool false)
  | 3 => .val (.agg #[.int .i64 u.kind, .string ⟨u.of_.toArray⟩, .string ⟨u.name.toArray⟩, .slice r.A u.names.length r.c, .slice r.P u.parts.length r.d])
  | 4 => .val (.agg #[.int .i64 t.kind, .string ⟨t.of_.toArray⟩, .string ⟨t.name.toArray⟩, .slice q.A t.names.length q.c, .slice q.P t.parts.length q.d])
  | 5 => .val (.bool false)
  | 6 => .val (.bool false)
  | 7 => .val (.bool false)
  | 8 => .val (.agg #[.int .i64 t.kind, .string ⟨t.of_.toArray⟩, .string ⟨t.name.toArray⟩, .slice q.A t.names.length q.c, .slice q.P t.parts.length q.d])
  | 9 => .val (.agg #[.int .i64 u.kind, .string ⟨u.of_.toArray⟩, .string ⟨u.name.toArray⟩, .slice r.A u.names.length r.c, .slice r.P u.parts.length r.d])
  | 10 => .val (.bool false)
  | 11 => .val (.bool false)
  | 15 => .val (.bool false)
  | 16 => .val (.bool false)
  | 21 => .val (.bool false)
  | 22 => .val (.bool false)
  | _ => .any

def same6bT (t u v : Sh) (q r s : Ptr) : Nat → Want
  | 0 => .val (.agg #[.int .i64 t.kind, .string ⟨t.of_.toArray⟩, .string ⟨t.name.toArray⟩, .slice q.A t.names.length q.c, .slice q.P t.parts.length q.d])
  | 1 => .val (.agg #[.int .i64 u.kind, .string ⟨u.of_.toArray⟩, .string ⟨u.name.toArray⟩, .slice r.A u.names.length r.c, .slice r.P u.parts.length r.d])
  | 2 => .val (.bool true)
  | 3 => .val (.agg #[.int .i64 u.kind, .string ⟨u.of_.toArray⟩, .string ⟨u.name.toArray⟩, .slice r.A u.names.length r.c, .slice r.P u.parts.length r.d])
  | 4 => .val (.agg #[.int .i64 t.kind, .string ⟨t.of_.toArray⟩, .string ⟨t.name.toArray⟩, .slice q.A t.names.length q.c, .slice q.P t.parts.length q.d])
  | 5 => .val (.bool true)
  | 6 => .val (.bool false)
  | 7 => .val (.bool false)
  | 8 => .val (.agg #[.int .i64 t.kind, .string ⟨t.of_.toArray⟩, .string ⟨t.name.toArray⟩, .slice q.A t.names.length q.c, .slice q.P t.parts.length q.d])
  | 9 => .val (.agg #[.int .i64 u.kind, .string ⟨u.of_.toArray⟩, .string ⟨u.name.toArray⟩, .slice r.A u.names.length r.c, .slice r.P u.parts.length r.d])
  | 10 => .val (.bool true)
  | 11 => .val (.bool true)
  | 12 => .val (.agg #[.int .i64 u.kind, .string ⟨u.of_.toArray⟩, .string ⟨u.name.toArray⟩, .slice r.A u.names.length r.c, .slice r.P u.parts.length r.d])
  | 13 => .val (.agg #[.int .i64 v.kind, .string ⟨v.of_.toArray⟩, .string ⟨v.name.toArray⟩, .slice s.A v.names.length s.c, .slice s.P v.parts.length s.d])
  | 14 => .val (.bool false)
  | 15 => .val (.bool false)
  | 16 => .val (.bool false)
  | 21 => .val (.bool false)
  | 22 => .val (.bool false)
  | _ => .any

def same6cT (t u v : Sh) (q r s : Ptr) : Nat → Want
  | 0 => .val (.agg #[.int .i64 t.kind, .string ⟨t.of_.toArray⟩, .string ⟨t.name.toArray⟩, .slice q.A t.names.length q.c, .slice q.P t.parts.length q.d])
  | 1 => .val (.agg #[.int .i64 u.kind, .string ⟨u.of_.toArray⟩, .string ⟨u.name.toArray⟩, .slice r.A u.names.length r.c, .slice r.P u.parts.length r.d])
  | 2 => .val (.bool true)
  | 3 => .val (.agg #[.int .i64 u.kind, .string ⟨u.of_.toArray⟩, .string ⟨u.name.toArray⟩, .slice r.A u.names.length r.c, .slice r.P u.parts.length r.d])
  | 4 => .val (.agg #[.int .i64 t.kind, .string ⟨t.of_.toArray⟩, .string ⟨t.name.toArray⟩, .slice q.A t.names.length q.c, .slice q.P t.parts.length q.d])
  | 5 => .val (.bool true)
  | 6 => .val (.bool false)
  | 7 => .val (.bool false)
  | 8 => .val (.agg #[.int .i64 t.kind, .string ⟨t.of_.toArray⟩, .string ⟨t.name.toArray⟩, .slice q.A t.names.length q.c, .slice q.P t.parts.length q.d])
  | 9 => .val (.agg #[.int .i64 u.kind, .string ⟨u.of_.toArray⟩, .string ⟨u.name.toArray⟩, .slice r.A u.names.length r.c, .slice r.P u.parts.length r.d])
  | 10 => .val (.bool true)
  | 11 => .val (.bool true)
  | 12 => .val (.agg #[.int .i64 u.kind, .string ⟨u.of_.toArray⟩, .string ⟨u.name.toArray⟩, .slice r.A u.names.length r.c, .slice r.P u.parts.length r.d])
  | 13 => .val (.agg #[.int .i64 v.kind, .string ⟨v.of_.toArray⟩, .string ⟨v.name.toArray⟩, .slice s.A v.names.length s.c, .slice s.P v.parts.length s.d])
  | 14 => .val (.bool true)
  | 15 => .val (.bool true)
  | 16 => .val (.bool true)
  | 17 => .val (.agg #[.int .i64 t.kind, .string ⟨t.of_.toArray⟩, .string ⟨t.name.toArray⟩, .slice q.A t.names.length q.c, .slice q.P t.parts.length q.d])
  | 18 => .val (.agg #[.int .i64 v.kind, .string ⟨v.of_.toArray⟩, .string ⟨v.name.toArray⟩, .slice s.A v.names.length s.c, .slice s.P v.parts.length s.d])
  | 19 => .val (.bool true)
  | 20 => .val (.bool false)
  | 21 => .val (.bool false)
  | 22 => .val (.bool false)
  | _ => .any

set_option maxRecDepth 100000 in
set_option maxHeartbeats 16000000 in
theorem same_yes (t u v : Sh) (q r s : Ptr) (w : World) (hq : ShAt w w.heap.size q t) (hr : ShAt w w.heap.size r u) (hs : ShAt w w.heap.size s v) (hg : WGlobs w) (h1 : check t = 0) (h2 : check u = 0) (h3 : check v = 0) :
    Calls Tryd.prog 8 #[.agg #[.int .i64 t.kind, .string ⟨t.of_.toArray⟩, .string ⟨t.name.toArray⟩, .slice q.A t.names.length q.c, .slice q.P t.parts.length q.d], .agg #[.int .i64 u.kind, .string ⟨u.of_.toArray⟩, .string ⟨u.name.toArray⟩, .slice r.A u.names.length r.c, .slice r.P u.parts.length r.d], .agg #[.int .i64 v.kind, .string ⟨v.of_.toArray⟩, .string ⟨v.name.toArray⟩, .slice s.A v.names.length s.c, .slice s.P v.parts.length s.d]] w fun e w' => e = .returned (.bool true) ∧ Below w.heap.size w w' := by
  have HC1 := Lib.hid h1
  have HC2 := Lib.hid h2
  have HC3 := Lib.hid h3
  have e1t : (check t != 0) = false := by simpa using h1
  have e2t : (check t == 0) = true := by simpa using h1
  have e1u : (check u != 0) = false := by simpa using h2
  have e2u : (check u == 0) = true := by simpa using h2
  have e1v : (check v != 0) = false := by simpa using h3
  have e2v : (check v == 0) = true := by simpa using h3
  clear h1 h2 h3
  have HB1 : Hid (Box5 (((w.alloc (.cells #[.int .i64 t.kind, .string ⟨t.of_.toArray⟩, .string ⟨t.name.toArray⟩, .slice q.A t.names.length q.c, .slice q.P t.parts.length q.d] 25)).alloc (.cells #[.int .i64 u.kind, .string ⟨u.of_.toArray⟩, .string ⟨u.name.toArray⟩, .slice r.A u.names.length r.c, .slice r.P u.parts.length r.d] 25)).alloc (.cells #[.int .i64 v.kind, .string ⟨v.of_.toArray⟩, .string ⟨v.name.toArray⟩, .slice s.A v.names.length s.c, .slice s.P v.parts.length s.d] 25)) w.heap.size t q) := Lib.hid (((box5_new w t q).next (below_one _ _)).next (below_one _ _))
  have HB2 : Hid (Box5 (((w.alloc (.cells #[.int .i64 t.kind, .string ⟨t.of_.toArray⟩, .string ⟨t.name.toArray⟩, .slice q.A t.names.length q.c, .slice q.P t.parts.length q.d] 25)).alloc (.cells #[.int .i64 u.kind, .string ⟨u.of_.toArray⟩, .string ⟨u.name.toArray⟩, .slice r.A u.names.length r.c, .slice r.P u.parts.length r.d] 25)).alloc (.cells #[.int .i64 v.kind, .string ⟨v.of_.toArray⟩, .string ⟨v.name.toArray⟩, .slice s.A v.names.length s.c, .slice s.P v.parts.length s.d] 25)) (w.heap.size + 1) u r) := by
    have h := box5_new (w.alloc (.cells #[.int .i64 t.kind, .string ⟨t.of_.toArray⟩, .string ⟨t.name.toArray⟩, .slice q.A t.names.length q.c, .slice q.P t.parts.length q.d] 25)) u r
    have e : (w.alloc (.cells #[.int .i64 t.kind, .string ⟨t.of_.toArray⟩, .string ⟨t.name.toArray⟩, .slice q.A t.names.length q.c, .slice q.P t.parts.length q.d] 25)).heap.size = w.heap.size + 1 := by simp
    rw [e] at h
    exact Lib.hid (h.next (below_one _ _))
  have HB3 : Hid (Box5 (((w.alloc (.cells #[.int .i64 t.kind, .string ⟨t.of_.toArray⟩, .string ⟨t.name.toArray⟩, .slice q.A t.names.length q.c, .slice q.P t.parts.length q.d] 25)).alloc (.cells #[.int .i64 u.kind, .string ⟨u.of_.toArray⟩, .string ⟨u.name.toArray⟩, .slice r.A u.names.length r.c, .slice r.P u.parts.length r.d] 25)).alloc (.cells #[.int .i64 v.kind, .string ⟨v.of_.toArray⟩, .string ⟨v.name.toArray⟩, .slice s.A v.names.length s.c, .slice s.P v.parts.length s.d] 25)) (w.heap.size + 1 + 1) v s) := by
    have h := box5_new ((w.alloc (.cells #[.int .i64 t.kind, .string ⟨t.of_.toArray⟩, .string ⟨t.name.toArray⟩, .slice q.A t.names.length q.c, .slice q.P t.parts.length q.d] 25)).alloc (.cells #[.int .i64 u.kind, .string ⟨u.of_.toArray⟩, .string ⟨u.name.toArray⟩, .slice r.A u.names.length r.c, .slice r.P u.parts.length r.d] 25)) v s
    have e : ((w.alloc (.cells #[.int .i64 t.kind, .string ⟨t.of_.toArray⟩, .string ⟨t.name.toArray⟩, .slice q.A t.names.length q.c, .slice q.P t.parts.length q.d] 25)).alloc (.cells #[.int .i64 u.kind, .string ⟨u.of_.toArray⟩, .string ⟨u.name.toArray⟩, .slice r.A u.names.length r.c, .slice r.P u.parts.length r.d] 25)).heap.size = w.heap.size + 1 + 1 := by simp
    rw [e] at h
    exact Lib.hid h
  have hb0 : Below w.heap.size w (((w.alloc (.cells #[.int .i64 t.kind, .string ⟨t.of_.toArray⟩, .string ⟨t.name.toArray⟩, .slice q.A t.names.length q.c, .slice q.P t.parts.length q.d] 25)).alloc (.cells #[.int .i64 u.kind, .string ⟨u.of_.toArray⟩, .string ⟨u.name.toArray⟩, .slice r.A u.names.length r.c, .slice r.P u.parts.length r.d] 25)).alloc (.cells #[.int .i64 v.kind, .string ⟨v.of_.toArray⟩, .string ⟨v.name.toArray⟩, .slice s.A v.names.length s.c, .slice s.P v.parts.length s.d] 25)) := below_new (below_new (below_one _ _) _) _
  have HQ := Lib.hid (hq.next hb0)
  have HR := Lib.hid (hr.next hb0)
  have HS := Lib.hid (hs.next hb0)
  have HG := Lib.hid (hg.next hb0)
  have HB0 := Lib.hid hb0
  obtain ⟨a1, ⟨c0, c1, c2, c3, c4⟩, a2⟩ := HB1.out
  clear hq hr hs hg hb0 a1 a2
  go_enter Tryd.func8, Tryd.ntmps8
  go_wp2_with fail
  generalize ((w.alloc (.cells #[.int .i64 t.kind, .string ⟨t.of_.toArray⟩, .string ⟨t.name.toArray⟩, .slice q.A t.names.length q.c, .slice q.P t.parts.length q.d] 25)).alloc (.cells #[.int .i64 u.kind, .string ⟨u.of_.toArray⟩, .string ⟨u.name.toArray⟩, .slice r.A u.names.length r.c, .slice r.P u.parts.length r.d] 25)).alloc (.cells #[.int .i64 v.kind, .string ⟨v.of_.toArray⟩, .string ⟨v.name.toArray⟩, .slice s.A v.names.length s.c, .slice s.P v.parts.length s.d] 25) = W0 at HB1 HB2 HB3 HQ HR HS HG HB0 c0 c1 c2 c3 c4 ⊢
  refine (oCheck_walk t q W0 HQ.out HG.out).mono ?_
  rintro e W1 ⟨rfl, hb⟩
  have HBW1 := Lib.hid hb
  clear hb c0 c1 c2 c3 c4
  obtain ⟨a1, ⟨x0, x1, x2, x3, x4⟩, a2⟩ := HB2.out.next HBW1.out
  simp only [Nat.zero_add] at x0 x1 x2 x3 x4
  clear a1 a2
  go_wp2_with fail
  refine (oCheck_walk u r W1 (HR.out.next HBW1.out) (HG.out.next HBW1.out)).mono ?_
  rintro e W2 ⟨rfl, hb⟩
  have HBW2 := Lib.hid (below_next HBW1.out hb)
  clear hb x0 x1 x2 x3 x4
  obtain ⟨a1, ⟨x0, x1, x2, x3, x4⟩, a2⟩ := HB3.out.next HBW2.out
  simp only [Nat.zero_add] at x0 x1 x2 x3 x4
  clear a1 a2
  go_wp2_with fail
  refine (oCheck_walk v s W2 (HS.out.next HBW2.out) (HG.out.next HBW2.out)).mono ?_
  rintro e W3 ⟨rfl, hb⟩
  have HBW3 := Lib.hid (below_next HBW2.out hb)
  clear hb x0 x1 x2 x3 x4
  obtain ⟨a1, ⟨x0, x1, x2, x3, x4⟩, a2⟩ := HB1.out.next HBW3.out
  simp only [Nat.zero_add] at x0 x1 x2 x3 x4
  clear a1 a2
  go_wp2_with fail
  refine (oSort_walk t q W3 (HQ.out.next HBW3.out) (HG.out.next HBW3.out) HC1.out).mono ?_
  rintro e Wa ⟨p, rfl, hat, hba⟩
  obtain ⟨z, hz⟩ : ∃ z, z = sorted t := ⟨_, rfl⟩
  rw [← hz] at hat ⊢
  have HZE := Lib.hid hz
  have HBWa := Lib.hid (below_next (below_next HBW3.out hba) (below_one Wa (.cells #[.int .i64 z.kind, .string ⟨z.of_.toArray⟩, .string ⟨z.name.toArray⟩, .slice p.A z.names.length p.c, .slice p.P z.parts.length p.d] 25)))
  have HZA := Lib.hid (hat.next (below_one Wa (.cells #[.int .i64 z.kind, .string ⟨z.of_.toArray⟩, .string ⟨z.name.toArray⟩, .slice p.A z.names.length p.c, .slice p.P z.parts.length p.d] 25)))
  have HZ7 := Lib.hid (box5_new Wa z p)
  have HX1 := Lib.hid (HB1.out.next HBWa.out)
  have HCZ0 : Hid (check z = 0) := Lib.hid (by rw [hz]; exact check_sorted HC1.out)
  have HSO : Hid (sorted z = z) := Lib.hid (by rw [hz]; exact sorted_sorted t (check_ok HC1.out).2.2)
  have HTT : Hid (same t t = true) := Lib.hid (same_of HC1.out HC1.out rfl)
  have HTZ : Hid (same t z = true) := Lib.hid (by rw [hz]; exact same_sorted HC1.out)
  have HSZ : Hid (sizeTo 400 z = sizeTo 400 t) := Lib.hid (by unfold sizeTo; rw [hz, size_sorted t (check_ok HC1.out).2.2])
  have HDZ : Hid (deepTo z = deepTo t) := Lib.hid (by unfold deepTo; rw [hz, size_sorted t (check_ok HC1.out).2.2, deep_sorted t (check_ok HC1.out).2.2])
  clear hat hba hz x0 x1 x2 x3 x4
  go_wp2_with fail
  generalize Wa.alloc (.cells #[.int .i64 z.kind, .string ⟨z.of_.toArray⟩, .string ⟨z.name.toArray⟩, .slice p.A z.names.length p.c, .slice p.P z.parts.length p.d] 25) = W4 at HBWa HZA HZ7 HX1 ⊢
  refine wp_orders (rs := [0, 1, 2, 3, 4, 5, 6, 7, 8, 9, 10, 11, 12, 13, 14, 15, 16, 17, 18, 19, 20, 21, 22, 23, 24, 25, 26, 27, 28, 29, 30])
    (fun u' => { tmps := #[.agg #[.int .i64 t.kind, .string { data := t.of_.toArray }, .string { data := t.name.toArray }, .slice q.A t.names.length q.c, .slice q.P t.parts.length q.d], .agg #[.int .i64 u.kind, .string { data := u.of_.toArray }, .string { data := u.name.toArray }, .slice r.A u.names.length r.c, .slice r.P u.parts.length r.d], .agg #[.int .i64 v.kind, .string { data := v.of_.toArray }, .string { data := v.name.toArray }, .slice s.A v.names.length s.c, .slice s.P v.parts.length s.d], .pointer (some { block := w.heap.size, off := 0 }), .pointer (some { block := w.heap.size + 1, off := 0 }), .pointer (some { block := w.heap.size + 1 + 1, off := 0 }), .bool false, .pointer (some { block := Wa.heap.size, off := 0 }), undef, undef, undef, undef, .agg #[.int .i64 t.kind, .string { data := t.of_.toArray }, .string { data := t.name.toArray }, .slice q.A t.names.length q.c, .slice q.P t.parts.length q.d], .int .i64 (check t), .bool false, .bool false, .agg #[.int .i64 u.kind, .string { data := u.of_.toArray }, .string { data := u.name.toArray }, .slice r.A u.names.length r.c, .slice r.P u.parts.length r.d], .int .i64 (check u), .bool false, .bool false, .bool false, .agg #[.int .i64 v.kind, .string { data := v.of_.toArray }, .string { data := v.name.toArray }, .slice s.A v.names.length s.c, .slice s.P v.parts.length s.d], .int .i64 (check v), .bool false, .bool false, undef, .agg #[.int .i64 t.kind, .string { data := t.of_.toArray }, .string { data := t.name.toArray }, .slice q.A t.names.length q.c, .slice q.P t.parts.length q.d], .agg #[.int .i64 z.kind, .string { data := z.of_.toArray }, .string { data := z.name.toArray }, .slice p.A z.names.length p.c, .slice p.P z.parts.length p.d], u' 0, u' 1, u' 2, u' 3, u' 4, u' 5, u' 6, u' 7, u' 8, u' 9, u' 10, u' 11, u' 12, u' 13, u' 14, u' 15, u' 16, u' 17, u' 18, u' 19, u' 20, u' 21, u' 22, u' 23, u' 24, u' 25, u' 26, u' 27, u' 28, u' 29, u' 30, undef, undef, undef, undef, undef, undef, undef, undef, undef, undef, undef, undef, undef, undef, undef, undef, undef, undef, undef, undef, undef, undef, undef, undef, undef, undef, undef, undef, undef, undef, undef, undef, undef, undef, undef, undef, undef, undef, undef, undef, undef, undef, undef, undef, undef, undef, undef, undef, undef, undef, undef, undef, undef, undef, undef], defers := [] })
    (fun j => ([undef, undef, undef, undef, undef, undef, undef, undef, undef, undef, undef, undef, undef, undef, undef, undef, undef, undef, undef, undef, undef, undef, undef, undef, undef, undef, undef, undef, undef, undef, undef] : List Value).getD j undef) (same4T t z q p) (fun W => Below W4.heap.size W4 W) (by kernel_rfl) (by kernel_rfl) (by kernel_rfl) (Below.refl _ _).drew ?_ ?_
  refine StepsAt.cons _ rfl (fun u' W K' hJ hd hK => ?_) ?_
  · obtain ⟨_, ⟨y0, y1, y2, y3, y4⟩, _⟩ := HX1.out.next hJ
    simp only [Nat.zero_add] at y0 y1 y2 y3 y4
    refine step_value (v := .agg #[.int .i64 t.kind, .string ⟨t.of_.toArray⟩, .string ⟨t.name.toArray⟩, .slice q.A t.names.length q.c, .slice q.P t.parts.length q.d]) (W' := W) rfl ?_ (hK.out _ _ rfl hJ (Below.refl _ _))
    try dsimp only
    go_simp
    try omega
  refine StepsAt.cons _ rfl (fun u' W K' hJ hd hK => ?_) ?_
  · obtain ⟨_, ⟨y0, y1, y2, y3, y4⟩, _⟩ := HX1.out.next hJ
    simp only [Nat.zero_add] at y0 y1 y2 y3 y4
    refine step_value (v := .agg #[.int .i64 t.kind, .string ⟨t.of_.toArray⟩, .string ⟨t.name.toArray⟩, .slice q.A t.names.length q.c, .slice q.P t.parts.length q.d]) (W' := W) rfl ?_ (hK.out _ _ rfl hJ (Below.refl _ _))
    try dsimp only
    go_simp
    try omega
  refine StepsAt.cons _ rfl (fun u' W K' hJ hd hK => ?_) ?_
  · have d0 : u' 0 = .agg #[.int .i64 t.kind, .string ⟨t.of_.toArray⟩, .string ⟨t.name.toArray⟩, .slice q.A t.names.length q.c, .slice q.P t.parts.length q.d] := hd 0 (by kernel_rfl)
    have d1 : u' 1 = .agg #[.int .i64 t.kind, .string ⟨t.of_.toArray⟩, .string ⟨t.name.toArray⟩, .slice q.A t.names.length q.c, .slice q.P t.parts.length q.d] := hd 1 (by kernel_rfl)
    refine step_enter (f := 21) (args := #[.agg #[.int .i64 t.kind, .string ⟨t.of_.toArray⟩, .string ⟨t.name.toArray⟩, .slice q.A t.names.length q.c, .slice q.P t.parts.length q.d], .agg #[.int .i64 t.kind, .string ⟨t.of_.toArray⟩, .string ⟨t.name.toArray⟩, .slice q.A t.names.length q.c, .slice q.P t.parts.length q.d]]) (W' := W) rfl ?_ ((osame_walk t t q q W (HQ.out.next (below_next HBWa.out hJ)) (HQ.out.next (below_next HBWa.out hJ)) (HG.out.next (below_next HBWa.out hJ))).mono fun e w' h => ⟨_, h.1, hK.out _ _ (by rw [HTT.out]; rfl) (below_next hJ h.2) h.2⟩)
    try dsimp only
    go_simp
    try omega
  refine StepsAt.cons _ rfl (fun u' W K' hJ hd hK => ?_) ?_
  · have d2 : u' 2 = .bool true := hd 2 (by kernel_rfl)
    refine step_value (v := .bool false) (W' := W) rfl ?_ (hK.out _ _ rfl hJ (Below.refl _ _))
    try dsimp only
    go_simp
    try omega
  refine StepsAt.cons _ rfl (fun u' W K' hJ hd hK => ?_) ?_
  · have d3 : u' 3 = .bool false := hd 3 (by kernel_rfl)
    refine step_value (v := .bool false) (W' := W) rfl ?_ (hK.out _ _ rfl hJ (Below.refl _ _))
    try dsimp only
    go_simp
    try omega
  refine StepsAt.cons _ rfl (fun u' W K' hJ hd hK => ?_) ?_
  · have dg : u' 4 = .bool false := hd 4 (by kernel_rfl)
    obtain ⟨_, ⟨y0, y1, y2, y3, y4⟩, _⟩ := HX1.out.next hJ
    simp only [Nat.zero_add] at y0 y1 y2 y3 y4
    refine step_value (v := .agg #[.int .i64 t.kind, .string ⟨t.of_.toArray⟩, .string ⟨t.name.toArray⟩, .slice q.A t.names.length q.c, .slice q.P t.parts.length q.d]) (W' := W) ?_ ?_ (hK.out _ _ rfl hJ (Below.refl _ _))
    · simp [Region.wanted, yielded, dg]
    · try dsimp only
      go_simp
      try omega
  refine StepsAt.cons _ rfl (fun u' W K' hJ hd hK => ?_) ?_
  · have dg : u' 4 = .bool false := hd 4 (by kernel_rfl)
    obtain ⟨_, ⟨y0, y1, y2, y3, y4⟩, _⟩ := HZ7.out.next hJ
    simp only [Nat.zero_add] at y0 y1 y2 y3 y4
    refine step_value (v := .agg #[.int .i64 z.kind, .string ⟨z.of_.toArray⟩, .string ⟨z.name.toArray⟩, .slice p.A z.names.length p.c, .slice p.P z.parts.length p.d]) (W' := W) ?_ ?_ (hK.out _ _ rfl hJ (Below.refl _ _))
    · simp [Region.wanted, yielded, dg]
    · try dsimp only
      go_simp
      try omega
  refine StepsAt.cons _ rfl (fun u' W K' hJ hd hK => ?_) ?_
  · have dg : u' 4 = .bool false := hd 4 (by kernel_rfl)
    have d5 : u' 5 = .agg #[.int .i64 t.kind, .string ⟨t.of_.toArray⟩, .string ⟨t.name.toArray⟩, .slice q.A t.names.length q.c, .slice q.P t.parts.length q.d] := hd 5 (by kernel_rfl)
    have d6 : u' 6 = .agg #[.int .i64 z.kind, .string ⟨z.of_.toArray⟩, .string ⟨z.name.toArray⟩, .slice p.A z.names.length p.c, .slice p.P z.parts.length p.d] := hd 6 (by kernel_rfl)
    refine step_enter (f := 21) (args := #[.agg #[.int .i64 t.kind, .string ⟨t.of_.toArray⟩, .string ⟨t.name.toArray⟩, .slice q.A t.names.length q.c, .slice q.P t.parts.length q.d], .agg #[.int .i64 z.kind, .string ⟨z.of_.toArray⟩, .string ⟨z.name.toArray⟩, .slice p.A z.names.length p.c, .slice p.P z.parts.length p.d]]) (W' := W) ?_ ?_ ((osame_walk t z q p W (HQ.out.next (below_next HBWa.out hJ)) (HZA.out.next hJ) (HG.out.next (below_next HBWa.out hJ))).mono fun e w' h => ⟨_, h.1, hK.out _ _ (by rw [HTZ.out]; rfl) (below_next hJ h.2) h.2⟩)
    · simp [Region.wanted, yielded, dg]
    · try dsimp only
      go_simp
      try omega
  refine StepsAt.cons _ rfl (fun u' W K' hJ hd hK => ?_) ?_
  · have dg : u' 4 = .bool false := hd 4 (by kernel_rfl)
    have d7 : u' 7 = .bool true := hd 7 (by kernel_rfl)
    refine step_value (v := .bool false) (W' := W) ?_ ?_ (hK.out _ _ rfl hJ (Below.refl _ _))
    · simp [Region.wanted, yielded, dg]
    · try dsimp only
      go_simp
      try omega
  refine StepsAt.cons _ rfl (fun u' W K' hJ hd hK => ?_) ?_
  · have d4 : u' 4 = .bool false := hd 4 (by kernel_rfl)
    have d8 : u' 8 = .bool false := hd 8 (by kernel_rfl)
    refine step_value (v := .bool false) (W' := W) rfl ?_ (hK.out _ _ rfl hJ (Below.refl _ _))
    try dsimp only
    go_simp
    try omega
  refine StepsAt.cons _ rfl (fun u' W K' hJ hd hK => ?_) ?_
  · have d9 : u' 9 = .bool false := hd 9 (by kernel_rfl)
    refine step_value (v := .bool false) (W' := W) rfl ?_ (hK.out _ _ rfl hJ (Below.refl _ _))
    try dsimp only
    go_simp
    try omega
  refine StepsAt.cons _ rfl (fun u' W K' hJ hd hK => ?_) ?_
  · have dg : u' 10 = .bool false := hd 10 (by kernel_rfl)
    obtain ⟨_, ⟨y0, y1, y2, y3, y4⟩, _⟩ := HZ7.out.next hJ
    simp only [Nat.zero_add] at y0 y1 y2 y3 y4
    refine step_value (v := .agg #[.int .i64 z.kind, .string ⟨z.of_.toArray⟩, .string ⟨z.name.toArray⟩, .slice p.A z.names.length p.c, .slice p.P z.parts.length p.d]) (W' := W) ?_ ?_ (hK.out _ _ rfl hJ (Below.refl _ _))
    · simp [Region.wanted, yielded, dg]
    · try dsimp only
      go_simp
      try omega
  refine StepsAt.cons _ rfl (fun u' W K' hJ hd hK => ?_) ?_
  · have dg : u' 10 = .bool false := hd 10 (by kernel_rfl)
    have d11 : u' 11 = .agg #[.int .i64 z.kind, .string ⟨z.of_.toArray⟩, .string ⟨z.name.toArray⟩, .slice p.A z.names.length p.c, .slice p.P z.parts.length p.d] := hd 11 (by kernel_rfl)
    refine step_enter (f := 19) (args := #[.agg #[.int .i64 z.kind, .string ⟨z.of_.toArray⟩, .string ⟨z.name.toArray⟩, .slice p.A z.names.length p.c, .slice p.P z.parts.length p.d]]) (W' := W) ?_ ?_ ((oSort_walk z p W (HZA.out.next hJ) (HG.out.next (below_next HBWa.out hJ)) HCZ0.out).mono fun e w' ⟨q', he, ha, hb⟩ => ⟨_, he, hK.out _ _ ⟨q', rfl, ha⟩ (below_next hJ hb) hb⟩)
    · simp [Region.wanted, yielded, dg]
    · try dsimp only
      go_simp
      try omega
  refine StepsAt.cons _ rfl (fun u' W K' hJ hd hK => ?_) ?_
  · have dg : u' 10 = .bool false := hd 10 (by kernel_rfl)
    obtain ⟨_, ⟨y0, y1, y2, y3, y4⟩, _⟩ := HZ7.out.next hJ
    simp only [Nat.zero_add] at y0 y1 y2 y3 y4
    refine step_value (v := .agg #[.int .i64 z.kind, .string ⟨z.of_.toArray⟩, .string ⟨z.name.toArray⟩, .slice p.A z.names.length p.c, .slice p.P z.parts.length p.d]) (W' := W) ?_ ?_ (hK.out _ _ rfl hJ (Below.refl _ _))
    · simp [Region.wanted, yielded, dg]
    · try dsimp only
      go_simp
      try omega
  refine StepsAt.cons _ rfl (fun u' W K' hJ hd hK => ?_) ?_
  · have dg : u' 10 = .bool false := hd 10 (by kernel_rfl)
    obtain ⟨qa, d12, a1⟩ := hd 12 (by kernel_rfl)
    have d13 : u' 13 = .agg #[.int .i64 z.kind, .string ⟨z.of_.toArray⟩, .string ⟨z.name.toArray⟩, .slice p.A z.names.length p.c, .slice p.P z.parts.length p.d] := hd 13 (by kernel_rfl)
    refine step_enter (f := 18) (args := #[.agg #[.int .i64 (sorted z).kind, .string ⟨(sorted z).of_.toArray⟩, .string ⟨(sorted z).name.toArray⟩, .slice qa.A (sorted z).names.length qa.c, .slice qa.P (sorted z).parts.length qa.d], .agg #[.int .i64 z.kind, .string ⟨z.of_.toArray⟩, .string ⟨z.name.toArray⟩, .slice p.A z.names.length p.c, .slice p.P z.parts.length p.d]]) (W' := W) ?_ ?_ ((requal_walk (sorted z) z qa p W a1 (HZA.out.next hJ)).mono fun e w' h => ⟨_, h.1, hK.out _ _ (by rw [HSO.out, eqB_refl]; rfl) (below_next hJ h.2) h.2⟩)
    · simp [Region.wanted, yielded, dg]
    · try dsimp only
      go_simp
      try omega
  refine StepsAt.cons _ rfl (fun u' W K' hJ hd hK => ?_) ?_
  · have dg : u' 10 = .bool false := hd 10 (by kernel_rfl)
    have d14 : u' 14 = .bool true := hd 14 (by kernel_rfl)
    refine step_value (v := .bool false) (W' := W) ?_ ?_ (hK.out _ _ rfl hJ (Below.refl _ _))
    · simp [Region.wanted, yielded, dg]
    · try dsimp only
      go_simp
      try omega
  refine StepsAt.cons _ rfl (fun u' W K' hJ hd hK => ?_) ?_
  · have d10 : u' 10 = .bool false := hd 10 (by kernel_rfl)
    have d15 : u' 15 = .bool false := hd 15 (by kernel_rfl)
    refine step_value (v := .bool false) (W' := W) rfl ?_ (hK.out _ _ rfl hJ (Below.refl _ _))
    try dsimp only
    go_simp
    try omega
  refine StepsAt.cons _ rfl (fun u' W K' hJ hd hK => ?_) ?_
  · have d16 : u' 16 = .bool false := hd 16 (by kernel_rfl)
    refine step_value (v := .bool false) (W' := W) rfl ?_ (hK.out _ _ rfl hJ (Below.refl _ _))
    try dsimp only
    go_simp
    try omega
  refine StepsAt.cons _ rfl (fun u' W K' hJ hd hK => ?_) ?_
  · have dg : u' 17 = .bool false := hd 17 (by kernel_rfl)
    obtain ⟨_, ⟨y0, y1, y2, y3, y4⟩, _⟩ := HZ7.out.next hJ
    simp only [Nat.zero_add] at y0 y1 y2 y3 y4
    refine step_value (v := .agg #[.int .i64 z.kind, .string ⟨z.of_.toArray⟩, .string ⟨z.name.toArray⟩, .slice p.A z.names.length p.c, .slice p.P z.parts.length p.d]) (W' := W) ?_ ?_ (hK.out _ _ rfl hJ (Below.refl _ _))
    · simp [Region.wanted, yielded, dg]
    · try dsimp only
      go_simp
      try omega
  refine StepsAt.cons _ rfl (fun u' W K' hJ hd hK => ?_) ?_
  · have dg : u' 17 = .bool false := hd 17 (by kernel_rfl)
    have d18 : u' 18 = .agg #[.int .i64 z.kind, .string ⟨z.of_.toArray⟩, .string ⟨z.name.toArray⟩, .slice p.A z.names.length p.c, .slice p.P z.parts.length p.d] := hd 18 (by kernel_rfl)
    refine step_enter (f := 13) (args := #[.agg #[.int .i64 z.kind, .string ⟨z.of_.toArray⟩, .string ⟨z.name.toArray⟩, .slice p.A z.names.length p.c, .slice p.P z.parts.length p.d]]) (W' := W) ?_ ?_ ((oSize_walk z p W (HZA.out.next hJ)).mono fun e w' h => ⟨_, h.1, hK.out _ _ (by rw [HSZ.out]; rfl) (below_next hJ h.2) h.2⟩)
    · simp [Region.wanted, yielded, dg]
    · try dsimp only
      go_simp
      try omega
  refine StepsAt.cons _ rfl (fun u' W K' hJ hd hK => ?_) ?_
  · have dg : u' 17 = .bool false := hd 17 (by kernel_rfl)
    obtain ⟨_, ⟨y0, y1, y2, y3, y4⟩, _⟩ := HX1.out.next hJ
    simp only [Nat.zero_add] at y0 y1 y2 y3 y4
    refine step_value (v := .agg #[.int .i64 t.kind, .string ⟨t.of_.toArray⟩, .string ⟨t.name.toArray⟩, .slice q.A t.names.length q.c, .slice q.P t.parts.length q.d]) (W' := W) ?_ ?_ (hK.out _ _ rfl hJ (Below.refl _ _))
    · simp [Region.wanted, yielded, dg]
    · try dsimp only
      go_simp
      try omega
  refine StepsAt.cons _ rfl (fun u' W K' hJ hd hK => ?_) ?_
  · have dg : u' 17 = .bool false := hd 17 (by kernel_rfl)
    have d20 : u' 20 = .agg #[.int .i64 t.kind, .string ⟨t.of_.toArray⟩, .string ⟨t.name.toArray⟩, .slice q.A t.names.length q.c, .slice q.P t.parts.length q.d] := hd 20 (by kernel_rfl)
    refine step_enter (f := 13) (args := #[.agg #[.int .i64 t.kind, .string ⟨t.of_.toArray⟩, .string ⟨t.name.toArray⟩, .slice q.A t.names.length q.c, .slice q.P t.parts.length q.d]]) (W' := W) ?_ ?_ ((oSize_walk t q W (HQ.out.next (below_next HBWa.out hJ))).mono fun e w' h => ⟨_, h.1, hK.out _ _ rfl (below_next hJ h.2) h.2⟩)
    · simp [Region.wanted, yielded, dg]
    · try dsimp only
      go_simp
      try omega
  refine StepsAt.cons _ rfl (fun u' W K' hJ hd hK => ?_) ?_
  · have dg : u' 17 = .bool false := hd 17 (by kernel_rfl)
    have d19 : u' 19 = .int .i64 (sizeTo 400 t : Int) := hd 19 (by kernel_rfl)
    have d21 : u' 21 = .int .i64 (sizeTo 400 t : Int) := hd 21 (by kernel_rfl)
    refine step_value (v := .bool false) (W' := W) ?_ ?_ (hK.out _ _ rfl hJ (Below.refl _ _))
    · simp [Region.wanted, yielded, dg]
    · try dsimp only
      go_simp
      try omega
  refine StepsAt.cons _ rfl (fun u' W K' hJ hd hK => ?_) ?_
  · have d17 : u' 17 = .bool false := hd 17 (by kernel_rfl)
    have d22 : u' 22 = .bool false := hd 22 (by kernel_rfl)
    refine step_value (v := .bool false) (W' := W) rfl ?_ (hK.out _ _ rfl hJ (Below.refl _ _))
    try dsimp only
    go_simp
    try omega
  refine StepsAt.cons _ rfl (fun u' W K' hJ hd hK => ?_) ?_
  · have d23 : u' 23 = .bool false := hd 23 (by kernel_rfl)
    refine step_value (v := .bool false) (W' := W) rfl ?_ (hK.out _ _ rfl hJ (Below.refl _ _))
    try dsimp only
    go_simp
    try omega
  refine StepsAt.cons _ rfl (fun u' W K' hJ hd hK => ?_) ?_
  · have dg : u' 24 = .bool false := hd 24 (by kernel_rfl)
    obtain ⟨_, ⟨y0, y1, y2, y3, y4⟩, _⟩ := HZ7.out.next hJ
    simp only [Nat.zero_add] at y0 y1 y2 y3 y4
    refine step_value (v := .agg #[.int .i64 z.kind, .string ⟨z.of_.toArray⟩, .string ⟨z.name.toArray⟩, .slice p.A z.names.length p.c, .slice p.P z.parts.length p.d]) (W' := W) ?_ ?_ (hK.out _ _ rfl hJ (Below.refl _ _))
    · simp [Region.wanted, yielded, dg]
    · try dsimp only
      go_simp
      try omega
  refine StepsAt.cons _ rfl (fun u' W K' hJ hd hK => ?_) ?_
  · have dg : u' 24 = .bool false := hd 24 (by kernel_rfl)
    have d25 : u' 25 = .agg #[.int .i64 z.kind, .string ⟨z.of_.toArray⟩, .string ⟨z.name.toArray⟩, .slice p.A z.names.length p.c, .slice p.P z.parts.length p.d] := hd 25 (by kernel_rfl)
    refine step_enter (f := 14) (args := #[.agg #[.int .i64 z.kind, .string ⟨z.of_.toArray⟩, .string ⟨z.name.toArray⟩, .slice p.A z.names.length p.c, .slice p.P z.parts.length p.d]]) (W' := W) ?_ ?_ ((oDeep_walk z p W (HZA.out.next hJ)).mono fun e w' h => ⟨_, h.1, hK.out _ _ (by rw [HDZ.out]; rfl) (below_next hJ h.2) h.2⟩)
    · simp [Region.wanted, yielded, dg]
    · try dsimp only
      go_simp
      try omega
  refine StepsAt.cons _ rfl (fun u' W K' hJ hd hK => ?_) ?_
  · have dg : u' 24 = .bool false := hd 24 (by kernel_rfl)
    obtain ⟨_, ⟨y0, y1, y2, y3, y4⟩, _⟩ := HX1.out.next hJ
    simp only [Nat.zero_add] at y0 y1 y2 y3 y4
    refine step_value (v := .agg #[.int .i64 t.kind, .string ⟨t.of_.toArray⟩, .string ⟨t.name.toArray⟩, .slice q.A t.names.length q.c, .slice q.P t.parts.length q.d]) (W' := W) ?_ ?_ (hK.out _ _ rfl hJ (Below.refl _ _))
    · simp [Region.wanted, yielded, dg]
    · try dsimp only
      go_simp
      try omega
  refine StepsAt.cons _ rfl (fun u' W K' hJ hd hK => ?_) ?_
  · have dg : u' 24 = .bool false := hd 24 (by kernel_rfl)
    have d27 : u' 27 = .agg #[.int .i64 t.kind, .string ⟨t.of_.toArray⟩, .string ⟨t.name.toArray⟩, .slice q.A t.names.length q.c, .slice q.P t.parts.length q.d] := hd 27 (by kernel_rfl)
    refine step_enter (f := 14) (args := #[.agg #[.int .i64 t.kind, .string ⟨t.of_.toArray⟩, .string ⟨t.name.toArray⟩, .slice q.A t.names.length q.c, .slice q.P t.parts.length q.d]]) (W' := W) ?_ ?_ ((oDeep_walk t q W (HQ.out.next (below_next HBWa.out hJ))).mono fun e w' h => ⟨_, h.1, hK.out _ _ rfl (below_next hJ h.2) h.2⟩)
    · simp [Region.wanted, yielded, dg]
    · try dsimp only
      go_simp
      try omega
  refine StepsAt.cons _ rfl (fun u' W K' hJ hd hK => ?_) ?_
  · have dg : u' 24 = .bool false := hd 24 (by kernel_rfl)
    have d26 : u' 26 = .int .i64 (deepTo t) := hd 26 (by kernel_rfl)
    have d28 : u' 28 = .int .i64 (deepTo t) := hd 28 (by kernel_rfl)
    refine step_value (v := .bool false) (W' := W) ?_ ?_ (hK.out _ _ rfl hJ (Below.refl _ _))
    · simp [Region.wanted, yielded, dg]
    · try dsimp only
      go_simp
      try omega
  refine StepsAt.cons _ rfl (fun u' W K' hJ hd hK => ?_) StepsAt.nil
  · have d24 : u' 24 = .bool false := hd 24 (by kernel_rfl)
    have d29 : u' 29 = .bool false := hd 29 (by kernel_rfl)
    refine step_value (v := .bool false) (W' := W) rfl ?_ (hK.out _ _ rfl hJ (Below.refl _ _))
    try dsimp only
    go_simp
    try omega
  intro ua W5 hJ5 hok
  try dsimp only
  rw [show ua 30 = .bool false from hok 30 (by decide)]
  clear hok
  have HBW5 := Lib.hid (below_next HBWa.out hJ5)
  clear hJ5 HZA HZ7 HX1
  go_wp2_with fail
  rcases (by cases hx : same t u with
    | false => exact Or.inl rfl
    | true => cases hy : same u v with
      | false => exact Or.inr (Or.inl ⟨rfl, rfl⟩)
      | true => exact Or.inr (Or.inr ⟨rfl, rfl⟩) : same t u = false ∨ (same t u = true ∧ same u v = false) ∨ (same t u = true ∧ same u v = true)) with h5 | ⟨h5, h6⟩ | ⟨h5, h6⟩
  · have HTU : Hid (same t u = false) := Lib.hid h5
    clear h5
    have HY1 := Lib.hid (HB1.out.next HBW5.out)
    have HY2 := Lib.hid (HB2.out.next HBW5.out)
    have HY3 := Lib.hid (HB3.out.next HBW5.out)
    refine wp_orders (rs := [0, 1, 2, 3, 4, 5, 6, 7, 8, 9, 10, 11, 12, 13, 14, 15, 16, 17, 18, 19, 20, 21, 22])
      (fun u' => { tmps := #[.agg #[.int .i64 t.kind, .string { data := t.of_.toArray }, .string { data := t.name.toArray }, .slice q.A t.names.length q.c, .slice q.P t.parts.length q.d], .agg #[.int .i64 u.kind, .string { data := u.of_.toArray }, .string { data := u.name.toArray }, .slice r.A u.names.length r.c, .slice r.P u.parts.length r.d], .agg #[.int .i64 v.kind, .string { data := v.of_.toArray }, .string { data := v.name.toArray }, .slice s.A v.names.length s.c, .slice s.P v.parts.length s.d], .pointer (some { block := w.heap.size, off := 0 }), .pointer (some { block := w.heap.size + 1, off := 0 }), .pointer (some { block := w.heap.size + 1 + 1, off := 0 }), .bool false, .pointer (some { block := Wa.heap.size, off := 0 }), undef, undef, undef, undef, .agg #[.int .i64 t.kind, .string { data := t.of_.toArray }, .string { data := t.name.toArray }, .slice q.A t.names.length q.c, .slice q.P t.parts.length q.d], .int .i64 (check t), .bool false, .bool false, .agg #[.int .i64 u.kind, .string { data := u.of_.toArray }, .string { data := u.name.toArray }, .slice r.A u.names.length r.c, .slice r.P u.parts.length r.d], .int .i64 (check u), .bool false, .bool false, .bool false, .agg #[.int .i64 v.kind, .string { data := v.of_.toArray }, .string { data := v.name.toArray }, .slice s.A v.names.length s.c, .slice s.P v.parts.length s.d], .int .i64 (check v), .bool false, .bool false, undef, .agg #[.int .i64 t.kind, .string { data := t.of_.toArray }, .string { data := t.name.toArray }, .slice q.A t.names.length q.c, .slice q.P t.parts.length q.d], .agg #[.int .i64 z.kind, .string { data := z.of_.toArray }, .string { data := z.name.toArray }, .slice p.A z.names.length p.c, .slice p.P z.parts.length p.d], ua 0, ua 1, ua 2, ua 3, ua 4, ua 5, ua 6, ua 7, ua 8, ua 9, ua 10, ua 11, ua 12, ua 13, ua 14, ua 15, ua 16, ua 17, ua 18, ua 19, ua 20, ua 21, ua 22, ua 23, ua 24, ua 25, ua 26, ua 27, ua 28, ua 29, .bool false, u' 0, u' 1, u' 2, u' 3, u' 4, u' 5, u' 6, u' 7, u' 8, u' 9, u' 10, u' 11, u' 12, u' 13, u' 14, u' 15, u' 16, u' 17, u' 18, u' 19, u' 20, u' 21, u' 22, undef, undef, undef, undef, undef, undef, undef, undef, undef, undef, undef, undef, undef, undef, undef, undef, undef, undef, undef, undef, undef, undef, undef, undef, undef, undef, undef, undef, undef, undef, undef, undef], defers := [] })
      (fun j => ([undef, undef, undef, undef, undef, undef, undef, undef, undef, undef, undef, undef, undef, undef, undef, undef, undef, undef, undef, undef, undef, undef, undef] : List Value).getD j undef) (same6aT t u v q r s) (fun W => Below W5.heap.size W5 W) (by kernel_rfl) (by kernel_rfl) (by kernel_rfl) (Below.refl _ _).drew ?_ ?_
    refine StepsAt.cons _ rfl (fun u' W K' hJ hd hK => ?_) ?_
    · obtain ⟨_, ⟨y0, y1, y2, y3, y4⟩, _⟩ := HY1.out.next hJ
      simp only [Nat.zero_add] at y0 y1 y2 y3 y4
      refine step_value (v := .agg #[.int .i64 t.kind, .string ⟨t.of_.toArray⟩, .string ⟨t.name.toArray⟩, .slice q.A t.names.length q.c, .slice q.P t.parts.length q.d]) (W' := W) rfl ?_ (hK.out _ _ rfl hJ (Below.refl _ _))
      try dsimp only
      go_simp
      try omega
    refine StepsAt.cons _ rfl (fun u' W K' hJ hd hK => ?_) ?_
    · obtain ⟨_, ⟨y0, y1, y2, y3, y4⟩, _⟩ := HY2.out.next hJ
      simp only [Nat.zero_add] at y0 y1 y2 y3 y4
      refine step_value (v := .agg #[.int .i64 u.kind, .string ⟨u.of_.toArray⟩, .string ⟨u.name.toArray⟩, .slice r.A u.names.length r.c, .slice r.P u.parts.length r.d]) (W' := W) rfl ?_ (hK.out _ _ rfl hJ (Below.refl _ _))
      try dsimp only
      go_simp
      try omega
    refine StepsAt.cons _ rfl (fun u' W K' hJ hd hK => ?_) ?_
    · have d0 : u' 0 = .agg #[.int .i64 t.kind, .string ⟨t.of_.toArray⟩, .string ⟨t.name.toArray⟩, .slice q.A t.names.length q.c, .slice q.P t.parts.length q.d] := hd 0 (by kernel_rfl)
      have d1 : u' 1 = .agg #[.int .i64 u.kind, .string ⟨u.of_.toArray⟩, .string ⟨u.name.toArray⟩, .slice r.A u.names.length r.c, .slice r.P u.parts.length r.d] := hd 1 (by kernel_rfl)
      refine step_enter (f := 21) (args := #[.agg #[.int .i64 t.kind, .string ⟨t.of_.toArray⟩, .string ⟨t.name.toArray⟩, .slice q.A t.names.length q.c, .slice q.P t.parts.length q.d], .agg #[.int .i64 u.kind, .string ⟨u.of_.toArray⟩, .string ⟨u.name.toArray⟩, .slice r.A u.names.length r.c, .slice r.P u.parts.length r.d]]) (W' := W) rfl ?_ ((osame_walk t u q r W (HQ.out.next (below_next HBW5.out hJ)) (HR.out.next (below_next HBW5.out hJ)) (HG.out.next (below_next HBW5.out hJ))).mono fun e w' h => ⟨_, h.1, hK.out _ _ (by rw [HTU.out]; rfl) (below_next hJ h.2) h.2⟩)
      try dsimp only
      go_simp
      try omega
    refine StepsAt.cons _ rfl (fun u' W K' hJ hd hK => ?_) ?_
    · obtain ⟨_, ⟨y0, y1, y2, y3, y4⟩, _⟩ := HY2.out.next hJ
      simp only [Nat.zero_add] at y0 y1 y2 y3 y4
      refine step_value (v := .agg #[.int .i64 u.kind, .string ⟨u.of_.toArray⟩, .string ⟨u.name.toArray⟩, .slice r.A u.names.length r.c, .slice r.P u.parts.length r.d]) (W' := W) rfl ?_ (hK.out _ _ rfl hJ (Below.refl _ _))
      try dsimp only
      go_simp
      try omega
    refine StepsAt.cons _ rfl (fun u' W K' hJ hd hK => ?_) ?_
    · obtain ⟨_, ⟨y0, y1, y2, y3, y4⟩, _⟩ := HY1.out.next hJ
      simp only [Nat.zero_add] at y0 y1 y2 y3 y4
      refine step_value (v := .agg #[.int .i64 t.kind, .string ⟨t.of_.toArray⟩, .string ⟨t.name.toArray⟩, .slice q.A t.names.length q.c, .slice q.P t.parts.length q.d]) (W' := W) rfl ?_ (hK.out _ _ rfl hJ (Below.refl _ _))
      try dsimp only
      go_simp
      try omega
    refine StepsAt.cons _ rfl (fun u' W K' hJ hd hK => ?_) ?_
    · have d3 : u' 3 = .agg #[.int .i64 u.kind, .string ⟨u.of_.toArray⟩, .string ⟨u.name.toArray⟩, .slice r.A u.names.length r.c, .slice r.P u.parts.length r.d] := hd 3 (by kernel_rfl)
      have d4 : u' 4 = .agg #[.int .i64 t.kind, .string ⟨t.of_.toArray⟩, .string ⟨t.name.toArray⟩, .slice q.A t.names.length q.c, .slice q.P t.parts.length q.d] := hd 4 (by kernel_rfl)
      refine step_enter (f := 21) (args := #[.agg #[.int .i64 u.kind, .string ⟨u.of_.toArray⟩, .string ⟨u.name.toArray⟩, .slice r.A u.names.length r.c, .slice r.P u.parts.length r.d], .agg #[.int .i64 t.kind, .string ⟨t.of_.toArray⟩, .string ⟨t.name.toArray⟩, .slice q.A t.names.length q.c, .slice q.P t.parts.length q.d]]) (W' := W) rfl ?_ ((osame_walk u t r q W (HR.out.next (below_next HBW5.out hJ)) (HQ.out.next (below_next HBW5.out hJ)) (HG.out.next (below_next HBW5.out hJ))).mono fun e w' h => ⟨_, h.1, hK.out _ _ (by rw [same_comm, HTU.out]; rfl) (below_next hJ h.2) h.2⟩)
      try dsimp only
      go_simp
      try omega
    refine StepsAt.cons _ rfl (fun u' W K' hJ hd hK => ?_) ?_
    · have d2 : u' 2 = .bool false := hd 2 (by kernel_rfl)
      have d5 : u' 5 = .bool false := hd 5 (by kernel_rfl)
      refine step_value (v := .bool false) (W' := W) rfl ?_ (hK.out _ _ rfl hJ (Below.refl _ _))
      try dsimp only
      go_simp
      try omega
    refine StepsAt.cons _ rfl (fun u' W K' hJ hd hK => ?_) ?_
    · have d6 : u' 6 = .bool false := hd 6 (by kernel_rfl)
      refine step_value (v := .bool false) (W' := W) rfl ?_ (hK.out _ _ rfl hJ (Below.refl _ _))
      try dsimp only
      go_simp
      try omega
    refine StepsAt.cons _ rfl (fun u' W K' hJ hd hK => ?_) ?_
    · have dg : u' 7 = .bool false := hd 7 (by kernel_rfl)
      obtain ⟨_, ⟨y0, y1, y2, y3, y4⟩, _⟩ := HY1.out.next hJ
      simp only [Nat.zero_add] at y0 y1 y2 y3 y4
      refine step_value (v := .agg #[.int .i64 t.kind, .string ⟨t.of_.toArray⟩, .string ⟨t.name.toArray⟩, .slice q.A t.names.length q.c, .slice q.P t.parts.length q.d]) (W' := W) ?_ ?_ (hK.out _ _ rfl hJ (Below.refl _ _))
      · simp [Region.wanted, yielded, dg]
      · try dsimp only
        go_simp
        try omega
    refine StepsAt.cons _ rfl (fun u' W K' hJ hd hK => ?_) ?_
    · have dg : u' 7 = .bool false := hd 7 (by kernel_rfl)
      obtain ⟨_, ⟨y0, y1, y2, y3, y4⟩, _⟩ := HY2.out.next hJ
      simp only [Nat.zero_add] at y0 y1 y2 y3 y4
      refine step_value (v := .agg #[.int .i64 u.kind, .string ⟨u.of_.toArray⟩, .string ⟨u.name.toArray⟩, .slice r.A u.names.length r.c, .slice r.P u.parts.length r.d]) (W' := W) ?_ ?_ (hK.out _ _ rfl hJ (Below.refl _ _))
      · simp [Region.wanted, yielded, dg]
      · try dsimp only
        go_simp
        try omega
    refine StepsAt.cons _ rfl (fun u' W K' hJ hd hK => ?_) ?_
    · have dg : u' 7 = .bool false := hd 7 (by kernel_rfl)
      have d8 : u' 8 = .agg #[.int .i64 t.kind, .string ⟨t.of_.toArray⟩, .string ⟨t.name.toArray⟩, .slice q.A t.names.length q.c, .slice q.P t.parts.length q.d] := hd 8 (by kernel_rfl)
      have d9 : u' 9 = .agg #[.int .i64 u.kind, .string ⟨u.of_.toArray⟩, .string ⟨u.name.toArray⟩, .slice r.A u.names.length r.c, .slice r.P u.parts.length r.d] := hd 9 (by kernel_rfl)
      refine step_enter (f := 21) (args := #[.agg #[.int .i64 t.kind, .string ⟨t.of_.toArray⟩, .string ⟨t.name.toArray⟩, .slice q.A t.names.length q.c, .slice q.P t.parts.length q.d], .agg #[.int .i64 u.kind, .string ⟨u.of_.toArray⟩, .string ⟨u.name.toArray⟩, .slice r.A u.names.length r.c, .slice r.P u.parts.length r.d]]) (W' := W) ?_ ?_ ((osame_walk t u q r W (HQ.out.next (below_next HBW5.out hJ)) (HR.out.next (below_next HBW5.out hJ)) (HG.out.next (below_next HBW5.out hJ))).mono fun e w' h => ⟨_, h.1, hK.out _ _ (by rw [HTU.out]; rfl) (below_next hJ h.2) h.2⟩)
      · simp [Region.wanted, yielded, dg]
      · try dsimp only
        go_simp
        try omega
    refine StepsAt.cons _ rfl (fun u' W K' hJ hd hK => ?_) ?_
    · have dg : u' 7 = .bool false := hd 7 (by kernel_rfl)
      have d10 : u' 10 = .bool false := hd 10 (by kernel_rfl)
      refine step_value (v := .bool false) (W' := W) ?_ ?_ (hK.out _ _ rfl hJ (Below.refl _ _))
      · simp [Region.wanted, yielded, dg]
      · try dsimp only
        go_simp
        try omega
    refine StepsAt.cons _ rfl (fun u' W K' hJ hd hK => ?_) ?_
    · have dg : u' 11 = .bool false := hd 11 (by kernel_rfl)
      exact step_skip (by simp [Region.wanted, yielded, dg]) (hK.out _ _ trivial hJ (Below.refl _ _))
    refine StepsAt.cons _ rfl (fun u' W K' hJ hd hK => ?_) ?_
    · have dg : u' 11 = .bool false := hd 11 (by kernel_rfl)
      exact step_skip (by simp [Region.wanted, yielded, dg]) (hK.out _ _ trivial hJ (Below.refl _ _))
    refine StepsAt.cons _ rfl (fun u' W K' hJ hd hK => ?_) ?_
    · have dg : u' 11 = .bool false := hd 11 (by kernel_rfl)
      exact step_skip (by simp [Region.wanted, yielded, dg]) (hK.out _ _ trivial hJ (Below.refl _ _))
    refine StepsAt.cons _ rfl (fun u' W K' hJ hd hK => ?_) ?_
    · have dg : u' 7 = .bool false := hd 7 (by kernel_rfl)
      have d11 : u' 11 = .bool false := hd 11 (by kernel_rfl)
      refine step_value (v := .bool false) (W' := W) ?_ ?_ (hK.out _ _ rfl hJ (Below.refl _ _))
      · simp [Region.wanted, yielded, dg]
      · try dsimp only
        go_simp
        try omega
    refine StepsAt.cons _ rfl (fun u' W K' hJ hd hK => ?_) ?_
    · have dg : u' 7 = .bool false := hd 7 (by kernel_rfl)
      have d15 : u' 15 = .bool false := hd 15 (by kernel_rfl)
      refine step_value (v := .bool false) (W' := W) ?_ ?_ (hK.out _ _ rfl hJ (Below.refl _ _))
      · simp [Region.wanted, yielded, dg]
      · try dsimp only
        go_simp
        try omega
    refine StepsAt.cons _ rfl (fun u' W K' hJ hd hK => ?_) ?_
    · have dg : u' 16 = .bool false := hd 16 (by kernel_rfl)
      exact step_skip (by simp [Region.wanted, yielded, dg]) (hK.out _ _ trivial hJ (Below.refl _ _))
    refine StepsAt.cons _ rfl (fun u' W K' hJ hd hK => ?_) ?_
    · have dg : u' 16 = .bool false := hd 16 (by kernel_rfl)
      exact step_skip (by simp [Region.wanted, yielded, dg]) (hK.out _ _ trivial hJ (Below.refl _ _))
    refine StepsAt.cons _ rfl (fun u' W K' hJ hd hK => ?_) ?_
    · have dg : u' 16 = .bool false := hd 16 (by kernel_rfl)
      exact step_skip (by simp [Region.wanted, yielded, dg]) (hK.out _ _ trivial hJ (Below.refl _ _))
    refine StepsAt.cons _ rfl (fun u' W K' hJ hd hK => ?_) ?_
    · have dg : u' 16 = .bool false := hd 16 (by kernel_rfl)
      exact step_skip (by simp [Region.wanted, yielded, dg]) (hK.out _ _ trivial hJ (Below.refl _ _))
    refine StepsAt.cons _ rfl (fun u' W K' hJ hd hK => ?_) ?_
    · have dg : u' 7 = .bool false := hd 7 (by kernel_rfl)
      have d16 : u' 16 = .bool false := hd 16 (by kernel_rfl)
      refine step_value (v := .bool false) (W' := W) ?_ ?_ (hK.out _ _ rfl hJ (Below.refl _ _))
      · simp [Region.wanted, yielded, dg]
      · try dsimp only
        go_simp
        try omega
    refine StepsAt.cons _ rfl (fun u' W K' hJ hd hK => ?_) StepsAt.nil
    · have d7 : u' 7 = .bool false := hd 7 (by kernel_rfl)
      have d21 : u' 21 = .bool false := hd 21 (by kernel_rfl)
      refine step_value (v := .bool false) (W' := W) rfl ?_ (hK.out _ _ rfl hJ (Below.refl _ _))
      try dsimp only
      go_simp
      try omega
    intro ub W6 hJ6 hok
    try dsimp only
    rw [show ub 22 = .bool false from hok 22 (by decide)]
    clear hok
    have HBW6 := Lib.hid (below_next HBW5.out hJ6)
    obtain ⟨a1, ⟨x0, x1, x2, x3, x4⟩, a2⟩ := HB1.out.next HBW6.out
    simp only [Nat.zero_add] at x0 x1 x2 x3 x4
    clear hJ6 a1 a2
    go_wp2_with fail
    refine (oSort_walk t q W6 (HQ.out.next HBW6.out) (HG.out.next HBW6.out) HC1.out).mono ?_
    rintro e W7 ⟨p2, rfl, hat, hb7⟩
    have HBW7 := Lib.hid (below_next HBW6.out hb7)
    have hsh := oShow_walk (sorted t) p2 W7 hat (HG.out.next HBW7.out)
    rw [check_sorted HC1.out] at hsh
    obtain ⟨zt, hzt⟩ : ∃ zt, zt = sorted t := ⟨_, rfl⟩
    have HZT := Lib.hid hzt
    rw [← hzt] at hsh ⊢
    have HSH := Lib.hid hsh
    clear hb7 hat hsh hzt x0 x1 x2 x3 x4
    go_wp2_with fail
    refine HSH.out.mono ?_
    rintro e W8 ⟨rfl, hb8⟩
    have HBW8 := Lib.hid (below_next HBW7.out hb8)
    obtain ⟨St, hSt⟩ : ∃ St, St = show7 zt := ⟨_, rfl⟩
    have HST := Lib.hid hSt
    rw [← hSt]
    obtain ⟨a1, ⟨x0, x1, x2, x3, x4⟩, a2⟩ := HB2.out.next HBW8.out
    simp only [Nat.zero_add] at x0 x1 x2 x3 x4
    clear hb8 HSH hSt a1 a2
    go_wp2_with fail
    refine (oSort_walk u r W8 (HR.out.next HBW8.out) (HG.out.next HBW8.out) HC2.out).mono ?_
    rintro e W9 ⟨p3, rfl, hat, hb9⟩
    have HBW9 := Lib.hid (below_next HBW8.out hb9)
    have hsh := oShow_walk (sorted u) p3 W9 hat (HG.out.next HBW9.out)
    rw [check_sorted HC2.out] at hsh
    obtain ⟨zu, hzu⟩ : ∃ zu, zu = sorted u := ⟨_, rfl⟩
    rw [← hzu] at hsh ⊢
    have HSH := Lib.hid hsh
    clear hb9 hat hsh hzu x0 x1 x2 x3 x4
    go_wp2_with fail
    refine HSH.out.mono ?_
    rintro e WA ⟨rfl, hbA⟩
    obtain ⟨Su, hSu⟩ : ∃ Su, Su = show7 zu := ⟨_, rfl⟩
    rw [← hSu]
    have HBWA := Lib.hid (below_next HBW9.out hbA)
    clear hbA HSH hSu
    obtain ⟨a1, ⟨x0, x1, x2, x3, x4⟩, a2⟩ := HB1.out.next HBWA.out
    obtain ⟨a3, ⟨y0, y1, y2, y3, y4⟩, a4⟩ := HB2.out.next HBWA.out
    simp only [Nat.zero_add] at x0 x1 x2 x3 x4 y0 y1 y2 y3 y4
    have hsm := osame_walk t u q r WA (HQ.out.next HBWA.out) (HR.out.next HBWA.out) (HG.out.next HBWA.out)
    rw [HTU.out] at hsm
    have HSM := Lib.hid hsm
    clear hsm a1 a2 a3 a4
    go_wp2_with fail
    refine HSM.out.mono ?_
    rintro e WB ⟨rfl, hbB⟩
    have HBWB := Lib.hid (below_next HBWA.out hbB)
    clear hbB HSM x0 x1 x2 x3 x4 y0 y1 y2 y3 y4
    go_wp2_with fail
    refine (awake7_walk WB (HG.out.next HBWB.out)).mono ?_
    rintro e WC ⟨rfl, hbC⟩
    have HBWC := Lib.hid (below_next HBWB.out hbC)
    clear hbC
    go_wp2
    go_ret
    exact ⟨rfl, below_next HB0.out HBWC.out⟩
  · have HTU : Hid (same t u = true) := Lib.hid h5
    have HUV : Hid (same u v = false) := Lib.hid h6
    clear h5 h6
    have HY1 := Lib.hid (HB1.out.next HBW5.out)
    have HY2 := Lib.hid (HB2.out.next HBW5.out)
    have HY3 := Lib.hid (HB3.out.next HBW5.out)
    refine wp_orders (rs := [0, 1, 2, 3, 4, 5, 6, 7, 8, 9, 10, 11, 12, 13, 14, 15, 16, 17, 18, 19, 20, 21, 22])
      (fun u' => { tmps := #[.agg #[.int .i64 t.kind, .string { data := t.of_.toArray }, .string { data := t.name.toArray }, .slice q.A t.names.length q.c, .slice q.P t.parts.length q.d], .agg #[.int .i64 u.kind, .string { data := u.of_.toArray }, .string { data := u.name.toArray }, .slice r.A u.names.length r.c, .slice r.P u.parts.length r.d], .agg #[.int .i64 v.kind, .string { data := v.of_.toArray }, .string { data := v.name.toArray }, .slice s.A v.names.length s.c, .slice s.P v.parts.length s.d], .pointer (some { block := w.heap.size, off := 0 }), .pointer (some { block := w.heap.size + 1, off := 0 }), .pointer (some { block := w.heap.size + 1 + 1, off := 0 }), .bool false, .pointer (some { block := Wa.heap.size, off := 0 }), undef, undef, undef, undef, .agg #[.int .i64 t.kind, .string { data := t.of_.toArray }, .string { data := t.name.toArray }, .slice q.A t.names.length q.c, .slice q.P t.parts.length q.d], .int .i64 (check t), .bool false, .bool false, .agg #[.int .i64 u.kind, .string { data := u.of_.toArray }, .string { data := u.name.toArray }, .slice r.A u.names.length r.c, .slice r.P u.parts.length r.d], .int .i64 (check u), .bool false, .bool false, .bool false, .agg #[.int .i64 v.kind, .string { data := v.of_.toArray }, .string { data := v.name.toArray }, .slice s.A v.names.length s.c, .slice s.P v.parts.length s.d], .int .i64 (check v), .bool false, .bool false, undef, .agg #[.int .i64 t.kind, .string { data := t.of_.toArray }, .string { data := t.name.toArray }, .slice q.A t.names.length q.c, .slice q.P t.parts.length q.d], .agg #[.int .i64 z.kind, .string { data := z.of_.toArray }, .string { data := z.name.toArray }, .slice p.A z.names.length p.c, .slice p.P z.parts.length p.d], ua 0, ua 1, ua 2, ua 3, ua 4, ua 5, ua 6, ua 7, ua 8, ua 9, ua 10, ua 11, ua 12, ua 13, ua 14, ua 15, ua 16, ua 17, ua 18, ua 19, ua 20, ua 21, ua 22, ua 23, ua 24, ua 25, ua 26, ua 27, ua 28, ua 29, .bool false, u' 0, u' 1, u' 2, u' 3, u' 4, u' 5, u' 6, u' 7, u' 8, u' 9, u' 10, u' 11, u' 12, u' 13, u' 14, u' 15, u' 16, u' 17, u' 18, u' 19, u' 20, u' 21, u' 22, undef, undef, undef, undef, undef, undef, undef, undef, undef, undef, undef, undef, undef, undef, undef, undef, undef, undef, undef, undef, undef, undef, undef, undef, undef, undef, undef, undef, undef, undef, undef, undef], defers := [] })
      (fun j => ([undef, undef, undef, undef, undef, undef, undef, undef, undef, undef, undef, undef, undef, undef, undef, undef, undef, undef, undef, undef, undef, undef, undef] : List Value).getD j undef) (same6bT t u v q r s) (fun W => Below W5.heap.size W5 W) (by kernel_rfl) (by kernel_rfl) (by kernel_rfl) (Below.refl _ _).drew ?_ ?_
    refine StepsAt.cons _ rfl (fun u' W K' hJ hd hK => ?_) ?_
    · obtain ⟨_, ⟨y0, y1, y2, y3, y4⟩, _⟩ := HY1.out.next hJ
      simp only [Nat.zero_add] at y0 y1 y2 y3 y4
      refine step_value (v := .agg #[.int .i64 t.kind, .string ⟨t.of_.toArray⟩, .string ⟨t.name.toArray⟩, .slice q.A t.names.length q.c, .slice q.P t.parts.length q.d]) (W' := W) rfl ?_ (hK.out _ _ rfl hJ (Below.refl _ _))
      try dsimp only
      go_simp
      try omega
    refine StepsAt.cons _ rfl (fun u' W K' hJ hd hK => ?_) ?_
    · obtain ⟨_, ⟨y0, y1, y2, y3, y4⟩, _⟩ := HY2.out.next hJ
      simp only [Nat.zero_add] at y0 y1 y2 y3 y4
      refine step_value (v := .agg #[.int .i64 u.kind, .string ⟨u.of_.toArray⟩, .string ⟨u.name.toArray⟩, .slice r.A u.names.length r.c, .slice r.P u.parts.length r.d]) (W' := W) rfl ?_ (hK.out _ _ rfl hJ (Below.refl _ _))
      try dsimp only
      go_simp
      try omega
    refine StepsAt.cons _ rfl (fun u' W K' hJ hd hK => ?_) ?_
    · have d0 : u' 0 = .agg #[.int .i64 t.kind, .string ⟨t.of_.toArray⟩, .string ⟨t.name.toArray⟩, .slice q.A t.names.length q.c, .slice q.P t.parts.length q.d] := hd 0 (by kernel_rfl)
      have d1 : u' 1 = .agg #[.int .i64 u.kind, .string ⟨u.of_.toArray⟩, .string ⟨u.name.toArray⟩, .slice r.A u.names.length r.c, .slice r.P u.parts.length r.d] := hd 1 (by kernel_rfl)
      refine step_enter (f := 21) (args := #[.agg #[.int .i64 t.kind, .string ⟨t.of_.toArray⟩, .string ⟨t.name.toArray⟩, .slice q.A t.names.length q.c, .slice q.P t.parts.length q.d], .agg #[.int .i64 u.kind, .string ⟨u.of_.toArray⟩, .string ⟨u.name.toArray⟩, .slice r.A u.names.length r.c, .slice r.P u.parts.length r.d]]) (W' := W) rfl ?_ ((osame_walk t u q r W (HQ.out.next (below_next HBW5.out hJ)) (HR.out.next (below_next HBW5.out hJ)) (HG.out.next (below_next HBW5.out hJ))).mono fun e w' h => ⟨_, h.1, hK.out _ _ (by rw [HTU.out]; rfl) (below_next hJ h.2) h.2⟩)
      try dsimp only
      go_simp
      try omega
    refine StepsAt.cons _ rfl (fun u' W K' hJ hd hK => ?_) ?_
    · obtain ⟨_, ⟨y0, y1, y2, y3, y4⟩, _⟩ := HY2.out.next hJ
      simp only [Nat.zero_add] at y0 y1 y2 y3 y4
      refine step_value (v := .agg #[.int .i64 u.kind, .string ⟨u.of_.toArray⟩, .string ⟨u.name.toArray⟩, .slice r.A u.names.length r.c, .slice r.P u.parts.length r.d]) (W' := W) rfl ?_ (hK.out _ _ rfl hJ (Below.refl _ _))
      try dsimp only
      go_simp
      try omega
    refine StepsAt.cons _ rfl (fun u' W K' hJ hd hK => ?_) ?_
    · obtain ⟨_, ⟨y0, y1, y2, y3, y4⟩, _⟩ := HY1.out.next hJ
      simp only [Nat.zero_add] at y0 y1 y2 y3 y4
      refine step_value (v := .agg #[.int .i64 t.kind, .string ⟨t.of_.toArray⟩, .string ⟨t.name.toArray⟩, .slice q.A t.names.length q.c, .slice q.P t.parts.length q.d]) (W' := W) rfl ?_ (hK.out _ _ rfl hJ (Below.refl _ _))
      try dsimp only
      go_simp
      try omega
    refine StepsAt.cons _ rfl (fun u' W K' hJ hd hK => ?_) ?_
    · have d3 : u' 3 = .agg #[.int .i64 u.kind, .string ⟨u.of_.toArray⟩, .string ⟨u.name.toArray⟩, .slice r.A u.names.length r.c, .slice r.P u.parts.length r.d] := hd 3 (by kernel_rfl)
      have d4 : u' 4 = .agg #[.int .i64 t.kind, .string ⟨t.of_.toArray⟩, .string ⟨t.name.toArray⟩, .slice q.A t.names.length q.c, .slice q.P t.parts.length q.d] := hd 4 (by kernel_rfl)
      refine step_enter (f := 21) (args := #[.agg #[.int .i64 u.kind, .string ⟨u.of_.toArray⟩, .string ⟨u.name.toArray⟩, .slice r.A u.names.length r.c, .slice r.P u.parts.length r.d], .agg #[.int .i64 t.kind, .string ⟨t.of_.toArray⟩, .string ⟨t.name.toArray⟩, .slice q.A t.names.length q.c, .slice q.P t.parts.length q.d]]) (W' := W) rfl ?_ ((osame_walk u t r q W (HR.out.next (below_next HBW5.out hJ)) (HQ.out.next (below_next HBW5.out hJ)) (HG.out.next (below_next HBW5.out hJ))).mono fun e w' h => ⟨_, h.1, hK.out _ _ (by rw [same_comm, HTU.out]; rfl) (below_next hJ h.2) h.2⟩)
      try dsimp only
      go_simp
      try omega
    refine StepsAt.cons _ rfl (fun u' W K' hJ hd hK => ?_) ?_
    · have d2 : u' 2 = .bool true := hd 2 (by kernel_rfl)
      have d5 : u' 5 = .bool true := hd 5 (by kernel_rfl)
      refine step_value (v := .bool false) (W' := W) rfl ?_ (hK.out _ _ rfl hJ (Below.refl _ _))
      try dsimp only
      go_simp
      try omega
    refine StepsAt.cons _ rfl (fun u' W K' hJ hd hK => ?_) ?_
    · have d6 : u' 6 = .bool false := hd 6 (by kernel_rfl)
      refine step_value (v := .bool false) (W' := W) rfl ?_ (hK.out _ _ rfl hJ (Below.refl _ _))
      try dsimp only
      go_simp
      try omega
    refine StepsAt.cons _ rfl (fun u' W K' hJ hd hK => ?_) ?_
    · have dg : u' 7 = .bool false := hd 7 (by kernel_rfl)
      obtain ⟨_, ⟨y0, y1, y2, y3, y4⟩, _⟩ := HY1.out.next hJ
      simp only [Nat.zero_add] at y0 y1 y2 y3 y4
      refine step_value (v := .agg #[.int .i64 t.kind, .string ⟨t.of_.toArray⟩, .string ⟨t.name.toArray⟩, .slice q.A t.names.length q.c, .slice q.P t.parts.length q.d]) (W' := W) ?_ ?_ (hK.out _ _ rfl hJ (Below.refl _ _))
      · simp [Region.wanted, yielded, dg]
      · try dsimp only
        go_simp
        try omega
    refine StepsAt.cons _ rfl (fun u' W K' hJ hd hK => ?_) ?_
    · have dg : u' 7 = .bool false := hd 7 (by kernel_rfl)
      obtain ⟨_, ⟨y0, y1, y2, y3, y4⟩, _⟩ := HY2.out.next hJ
      simp only [Nat.zero_add] at y0 y1 y2 y3 y4
      refine step_value (v := .agg #[.int .i64 u.kind, .string ⟨u.of_.toArray⟩, .string ⟨u.name.toArray⟩, .slice r.A u.names.length r.c, .slice r.P u.parts.length r.d]) (W' := W) ?_ ?_ (hK.out _ _ rfl hJ (Below.refl _ _))
      · simp [Region.wanted, yielded, dg]
      · try dsimp only
        go_simp
        try omega
    refine StepsAt.cons _ rfl (fun u' W K' hJ hd hK => ?_) ?_
    · have dg : u' 7 = .bool false := hd 7 (by kernel_rfl)
      have d8 : u' 8 = .agg #[.int .i64 t.kind, .string ⟨t.of_.toArray⟩, .string ⟨t.name.toArray⟩, .slice q.A t.names.length q.c, .slice q.P t.parts.length q.d] := hd 8 (by kernel_rfl)
      have d9 : u' 9 = .agg #[.int .i64 u.kind, .string ⟨u.of_.toArray⟩, .string ⟨u.name.toArray⟩, .slice r.A u.names.length r.c, .slice r.P u.parts.length r.d] := hd 9 (by kernel_rfl)
      refine step_enter (f := 21) (args := #[.agg #[.int .i64 t.kind, .string ⟨t.of_.toArray⟩, .string ⟨t.name.toArray⟩, .slice q.A t.names.length q.c, .slice q.P t.parts.length q.d], .agg #[.int .i64 u.kind, .string ⟨u.of_.toArray⟩, .string ⟨u.name.toArray⟩, .slice r.A u.names.length r.c, .slice r.P u.parts.length r.d]]) (W' := W) ?_ ?_ ((osame_walk t u q r W (HQ.out.next (below_next HBW5.out hJ)) (HR.out.next (below_next HBW5.out hJ)) (HG.out.next (below_next HBW5.out hJ))).mono fun e w' h => ⟨_, h.1, hK.out _ _ (by rw [HTU.out]; rfl) (below_next hJ h.2) h.2⟩)
      · simp [Region.wanted, yielded, dg]
      · try dsimp only
        go_simp
        try omega
    refine StepsAt.cons _ rfl (fun u' W K' hJ hd hK => ?_) ?_
    · have dg : u' 7 = .bool false := hd 7 (by kernel_rfl)
      have d10 : u' 10 = .bool true := hd 10 (by kernel_rfl)
      refine step_value (v := .bool true) (W' := W) ?_ ?_ (hK.out _ _ rfl hJ (Below.refl _ _))
      · simp [Region.wanted, yielded, dg]
      · try dsimp only
        go_simp
        try omega
    refine StepsAt.cons _ rfl (fun u' W K' hJ hd hK => ?_) ?_
    · have dg : u' 11 = .bool true := hd 11 (by kernel_rfl)
      obtain ⟨_, ⟨y0, y1, y2, y3, y4⟩, _⟩ := HY2.out.next hJ
      simp only [Nat.zero_add] at y0 y1 y2 y3 y4
      refine step_value (v := .agg #[.int .i64 u.kind, .string ⟨u.of_.toArray⟩, .string ⟨u.name.toArray⟩, .slice r.A u.names.length r.c, .slice r.P u.parts.length r.d]) (W' := W) ?_ ?_ (hK.out _ _ rfl hJ (Below.refl _ _))
      · simp [Region.wanted, yielded, dg]
      · try dsimp only
        go_simp
        try omega
    refine StepsAt.cons _ rfl (fun u' W K' hJ hd hK => ?_) ?_
    · have dg : u' 11 = .bool true := hd 11 (by kernel_rfl)
      obtain ⟨_, ⟨y0, y1, y2, y3, y4⟩, _⟩ := HY3.out.next hJ
      simp only [Nat.zero_add] at y0 y1 y2 y3 y4
      refine step_value (v := .agg #[.int .i64 v.kind, .string ⟨v.of_.toArray⟩, .string ⟨v.name.toArray⟩, .slice s.A v.names.length s.c, .slice s.P v.parts.length s.d]) (W' := W) ?_ ?_ (hK.out _ _ rfl hJ (Below.refl _ _))
      · simp [Region.wanted, yielded, dg]
      · try dsimp only
        go_simp
        try omega
    refine StepsAt.cons _ rfl (fun u' W K' hJ hd hK => ?_) ?_
    · have dg : u' 11 = .bool true := hd 11 (by kernel_rfl)
      have d12 : u' 12 = .agg #[.int .i64 u.kind, .string ⟨u.of_.toArray⟩, .string ⟨u.name.toArray⟩, .slice r.A u.names.length r.c, .slice r.P u.parts.length r.d] := hd 12 (by kernel_rfl)
      have d13 : u' 13 = .agg #[.int .i64 v.kind, .string ⟨v.of_.toArray⟩, .string ⟨v.name.toArray⟩, .slice s.A v.names.length s.c, .slice s.P v.parts.length s.d] := hd 13 (by kernel_rfl)
      refine step_enter (f := 21) (args := #[.agg #[.int .i64 u.kind, .string ⟨u.of_.toArray⟩, .string ⟨u.name.toArray⟩, .slice r.A u.names.length r.c, .slice r.P u.parts.length r.d], .agg #[.int .i64 v.kind, .string ⟨v.of_.toArray⟩, .string ⟨v.name.toArray⟩, .slice s.A v.names.length s.c, .slice s.P v.parts.length s.d]]) (W' := W) ?_ ?_ ((osame_walk u v r s W (HR.out.next (below_next HBW5.out hJ)) (HS.out.next (below_next HBW5.out hJ)) (HG.out.next (below_next HBW5.out hJ))).mono fun e w' h => ⟨_, h.1, hK.out _ _ (by rw [HUV.out]; rfl) (below_next hJ h.2) h.2⟩)
      · simp [Region.wanted, yielded, dg]
      · try dsimp only
        go_simp
        try omega
    refine StepsAt.cons _ rfl (fun u' W K' hJ hd hK => ?_) ?_
    · have dg : u' 7 = .bool false := hd 7 (by kernel_rfl)
      have d11 : u' 11 = .bool true := hd 11 (by kernel_rfl)
      have d14 : u' 14 = .bool false := hd 14 (by kernel_rfl)
      refine step_value (v := .bool false) (W' := W) ?_ ?_ (hK.out _ _ rfl hJ (Below.refl _ _))
      · simp [Region.wanted, yielded, dg]
      · try dsimp only
        go_simp
        try omega
    refine StepsAt.cons _ rfl (fun u' W K' hJ hd hK => ?_) ?_
    · have dg : u' 7 = .bool false := hd 7 (by kernel_rfl)
      have d15 : u' 15 = .bool false := hd 15 (by kernel_rfl)
      refine step_value (v := .bool false) (W' := W) ?_ ?_ (hK.out _ _ rfl hJ (Below.refl _ _))
      · simp [Region.wanted, yielded, dg]
      · try dsimp only
        go_simp
        try omega
    refine StepsAt.cons _ rfl (fun u' W K' hJ hd hK => ?_) ?_
    · have dg : u' 16 = .bool false := hd 16 (by kernel_rfl)
      exact step_skip (by simp [Region.wanted, yielded, dg]) (hK.out _ _ trivial hJ (Below.refl _ _))
    refine StepsAt.cons _ rfl (fun u' W K' hJ hd hK => ?_) ?_
    · have dg : u' 16 = .bool false := hd 16 (by kernel_rfl)
      exact step_skip (by simp [Region.wanted, yielded, dg]) (hK.out _ _ trivial hJ (Below.refl _ _))
    refine StepsAt.cons _ rfl (fun u' W K' hJ hd hK => ?_) ?_
    · have dg : u' 16 = .bool false := hd 16 (by kernel_rfl)
      exact step_skip (by simp [Region.wanted, yielded, dg]) (hK.out _ _ trivial hJ (Below.refl _ _))
    refine StepsAt.cons _ rfl (fun u' W K' hJ hd hK => ?_) ?_
    · have dg : u' 16 = .bool false := hd 16 (by kernel_rfl)
      exact step_skip (by simp [Region.wanted, yielded, dg]) (hK.out _ _ trivial hJ (Below.refl _ _))
    refine StepsAt.cons _ rfl (fun u' W K' hJ hd hK => ?_) ?_
    · have dg : u' 7 = .bool false := hd 7 (by kernel_rfl)
      have d16 : u' 16 = .bool false := hd 16 (by kernel_rfl)
      refine step_value (v := .bool false) (W' := W) ?_ ?_ (hK.out _ _ rfl hJ (Below.refl _ _))
      · simp [Region.wanted, yielded, dg]
      · try dsimp only
        go_simp
        try omega
    refine StepsAt.cons _ rfl (fun u' W K' hJ hd hK => ?_) StepsAt.nil
    · have d7 : u' 7 = .bool false := hd 7 (by kernel_rfl)
      have d21 : u' 21 = .bool false := hd 21 (by kernel_rfl)
      refine step_value (v := .bool false) (W' := W) rfl ?_ (hK.out _ _ rfl hJ (Below.refl _ _))
      try dsimp only
      go_simp
      try omega
    intro ub W6 hJ6 hok
    try dsimp only
    rw [show ub 22 = .bool false from hok 22 (by decide)]
    clear hok
    have HBW6 := Lib.hid (below_next HBW5.out hJ6)
    obtain ⟨a1, ⟨x0, x1, x2, x3, x4⟩, a2⟩ := HB1.out.next HBW6.out
    simp only [Nat.zero_add] at x0 x1 x2 x3 x4
    clear hJ6 a1 a2
    go_wp2_with fail
    refine (oSort_walk t q W6 (HQ.out.next HBW6.out) (HG.out.next HBW6.out) HC1.out).mono ?_
    rintro e W7 ⟨p2, rfl, hat, hb7⟩
    have HBW7 := Lib.hid (below_next HBW6.out hb7)
    have hsh := oShow_walk (sorted t) p2 W7 hat (HG.out.next HBW7.out)
    rw [check_sorted HC1.out] at hsh
    obtain ⟨zt, hzt⟩ : ∃ zt, zt = sorted t := ⟨_, rfl⟩
    have HZT := Lib.hid hzt
    rw [← hzt] at hsh ⊢
    have HSH := Lib.hid hsh
    clear hb7 hat hsh hzt x0 x1 x2 x3 x4
    go_wp2_with fail
    refine HSH.out.mono ?_
    rintro e W8 ⟨rfl, hb8⟩
    have HBW8 := Lib.hid (below_next HBW7.out hb8)
    obtain ⟨St, hSt⟩ : ∃ St, St = show7 zt := ⟨_, rfl⟩
    have HST := Lib.hid hSt
    rw [← hSt]
    obtain ⟨a1, ⟨x0, x1, x2, x3, x4⟩, a2⟩ := HB2.out.next HBW8.out
    simp only [Nat.zero_add] at x0 x1 x2 x3 x4
    clear hb8 HSH hSt a1 a2
    go_wp2_with fail
    refine (oSort_walk u r W8 (HR.out.next HBW8.out) (HG.out.next HBW8.out) HC2.out).mono ?_
    rintro e W9 ⟨p3, rfl, hat, hb9⟩
    have HBW9 := Lib.hid (below_next HBW8.out hb9)
    have hsh := oShow_walk (sorted u) p3 W9 hat (HG.out.next HBW9.out)
    rw [check_sorted HC2.out] at hsh
    have hzu : sorted u = zt := by rw [HZT.out]; exact ((same_iff t u).1 HTU.out).2.2.symm
    rw [hzu] at hsh ⊢
    rw [← HST.out] at hsh
    have HSH := Lib.hid hsh
    clear hb9 hat hsh hzu x0 x1 x2 x3 x4
    go_wp2_with fail
    refine HSH.out.mono ?_
    rintro e WA ⟨rfl, hbA⟩
    have HBWA := Lib.hid (below_next HBW9.out hbA)
    clear hbA HSH
    obtain ⟨a1, ⟨x0, x1, x2, x3, x4⟩, a2⟩ := HB1.out.next HBWA.out
    obtain ⟨a3, ⟨y0, y1, y2, y3, y4⟩, a4⟩ := HB2.out.next HBWA.out
    simp only [Nat.zero_add] at x0 x1 x2 x3 x4 y0 y1 y2 y3 y4
    have hsm := osame_walk t u q r WA (HQ.out.next HBWA.out) (HR.out.next HBWA.out) (HG.out.next HBWA.out)
    rw [HTU.out] at hsm
    have HSM := Lib.hid hsm
    clear hsm a1 a2 a3 a4
    go_wp2_with fail
    refine HSM.out.mono ?_
    rintro e WB ⟨rfl, hbB⟩
    have HBWB := Lib.hid (below_next HBWA.out hbB)
    clear hbB HSM x0 x1 x2 x3 x4 y0 y1 y2 y3 y4
    go_wp2_with fail
    refine (awake7_walk WB (HG.out.next HBWB.out)).mono ?_
    rintro e WC ⟨rfl, hbC⟩
    have HBWC := Lib.hid (below_next HBWB.out hbC)
    clear hbC
    go_wp2
    go_ret
    exact ⟨rfl, below_next HB0.out HBWC.out⟩
  · have HTU : Hid (same t u = true) := Lib.hid h5
    have HUV : Hid (same u v = true) := Lib.hid h6
    have HTV : Hid (same t v = true) := Lib.hid (same_trans h5 h6)
    clear h5 h6
    have HY1 := Lib.hid (HB1.out.next HBW5.out)
    have HY2 := Lib.hid (HB2.out.next HBW5.out)
    have HY3 := Lib.hid (HB3.out.next HBW5.out)
    refine wp_orders (rs := [0, 1, 2, 3, 4, 5, 6, 7, 8, 9, 10, 11, 12, 13, 14, 15, 16, 17, 18, 19, 20, 21, 22])
      (fun u' => { tmps := #[.agg #[.int .i64 t.kind, .string { data := t.of_.toArray }, .string { data := t.name.toArray }, .slice q.A t.names.length q.c, .slice q.P t.parts.length q.d], .agg #[.int .i64 u.kind, .string { data := u.of_.toArray }, .string { data := u.name.toArray }, .slice r.A u.names.length r.c, .slice r.P u.parts.length r.d], .agg #[.int .i64 v.kind, .string { data := v.of_.toArray }, .string { data := v.name.toArray }, .slice s.A v.names.length s.c, .slice s.P v.parts.length s.d], .pointer (some { block := w.heap.size, off := 0 }), .pointer (some { block := w.heap.size + 1, off := 0 }), .pointer (some { block := w.heap.size + 1 + 1, off := 0 }), .bool false, .pointer (some { block := Wa.heap.size, off := 0 }), undef, undef, undef, undef, .agg #[.int .i64 t.kind, .string { data := t.of_.toArray }, .string { data := t.name.toArray }, .slice q.A t.names.length q.c, .slice q.P t.parts.length q.d], .int .i64 (check t), .bool false, .bool false, .agg #[.int .i64 u.kind, .string { data := u.of_.toArray }, .string { data := u.name.toArray }, .slice r.A u.names.length r.c, .slice r.P u.parts.length r.d], .int .i64 (check u), .bool false, .bool false, .bool false, .agg #[.int .i64 v.kind, .string { data := v.of_.toArray }, .string { data := v.name.toArray }, .slice s.A v.names.length s.c, .slice s.P v.parts.length s.d], .int .i64 (check v), .bool false, .bool false, undef, .agg #[.int .i64 t.kind, .string { data := t.of_.toArray }, .string { data := t.name.toArray }, .slice q.A t.names.length q.c, .slice q.P t.parts.length q.d], .agg #[.int .i64 z.kind, .string { data := z.of_.toArray }, .string { data := z.name.toArray }, .slice p.A z.names.length p.c, .slice p.P z.parts.length p.d], ua 0, ua 1, ua 2, ua 3, ua 4, ua 5, ua 6, ua 7, ua 8, ua 9, ua 10, ua 11, ua 12, ua 13, ua 14, ua 15, ua 16, ua 17, ua 18, ua 19, ua 20, ua 21, ua 22, ua 23, ua 24, ua 25, ua 26, ua 27, ua 28, ua 29, .bool false, u' 0, u' 1, u' 2, u' 3, u' 4, u' 5, u' 6, u' 7, u' 8, u' 9, u' 10, u' 11, u' 12, u' 13, u' 14, u' 15, u' 16, u' 17, u' 18, u' 19, u' 20, u' 21, u' 22, undef, undef, undef, undef, undef, undef, undef, undef, undef, undef, undef, undef, undef, undef, undef, undef, undef, undef, undef, undef, undef, undef, undef, undef, undef, undef, undef, undef, undef, undef, undef, undef], defers := [] })
      (fun j => ([undef, undef, undef, undef, undef, undef, undef, undef, undef, undef, undef, undef, undef, undef, undef, undef, undef, undef, undef, undef, undef, undef, undef] : List Value).getD j undef) (same6cT t u v q r s) (fun W => Below W5.heap.size W5 W) (by kernel_rfl) (by kernel_rfl) (by kernel_rfl) (Below.refl _ _).drew ?_ ?_
    refine StepsAt.cons _ rfl (fun u' W K' hJ hd hK => ?_) ?_
    · obtain ⟨_, ⟨y0, y1, y2, y3, y4⟩, _⟩ := HY1.out.next hJ
      simp only [Nat.zero_add] at y0 y1 y2 y3 y4
      refine step_value (v := .agg #[.int .i64 t.kind, .string ⟨t.of_.toArray⟩, .string ⟨t.name.toArray⟩, .slice q.A t.names.length q.c, .slice q.P t.parts.length q.d]) (W' := W) rfl ?_ (hK.out _ _ rfl hJ (Below.refl _ _))
      try dsimp only
      go_simp
      try omega
    refine StepsAt.cons _ rfl (fun u' W K' hJ hd hK => ?_) ?_
    · obtain ⟨_, ⟨y0, y1, y2, y3, y4⟩, _⟩ := HY2.out.next hJ
      simp only [Nat.zero_add] at y0 y1 y2 y3 y4
      refine step_value (v := .agg #[.int .i64 u.kind, .string ⟨u.of_.toArray⟩, .string ⟨u.name.toArray⟩, .slice r.A u.names.length r.c, .slice r.P u.parts.length r.d]) (W' := W) rfl ?_ (hK.out _ _ rfl hJ (Below.refl _ _))
      try dsimp only
      go_simp
      try omega
    refine StepsAt.cons _ rfl (fun u' W K' hJ hd hK => ?_) ?_
    · have d0 : u' 0 = .agg #[.int .i64 t.kind, .string ⟨t.of_.toArray⟩, .string ⟨t.name.toArray⟩, .slice q.A t.names.length q.c, .slice q.P t.parts.length q.d] := hd 0 (by kernel_rfl)
      have d1 : u' 1 = .agg #[.int .i64 u.kind, .string ⟨u.of_.toArray⟩, .string ⟨u.name.toArray⟩, .slice r.A u.names.length r.c, .slice r.P u.parts.length r.d] := hd 1 (by kernel_rfl)
      refine step_enter (f := 21) (args := #[.agg #[.int .i64 t.kind, .string ⟨t.of_.toArray⟩, .string ⟨t.name.toArray⟩, .slice q.A t.names.length q.c, .slice q.P t.parts.length q.d], .agg #[.int .i64 u.kind, .string ⟨u.of_.toArray⟩, .string ⟨u.name.toArray⟩, .slice r.A u.names.length r.c, .slice r.P u.parts.length r.d]]) (W' := W) rfl ?_ ((osame_walk t u q r W (HQ.out.next (below_next HBW5.out hJ)) (HR.out.next (below_next HBW5.out hJ)) (HG.out.next (below_next HBW5.out hJ))).mono fun e w' h => ⟨_, h.1, hK.out _ _ (by rw [HTU.out]; rfl) (below_next hJ h.2) h.2⟩)
      try dsimp only
      go_simp
      try omega
    refine StepsAt.cons _ rfl (fun u' W K' hJ hd hK => ?_) ?_
    · obtain ⟨_, ⟨y0, y1, y2, y3, y4⟩, _⟩ := HY2.out.next hJ
      simp only [Nat.zero_add] at y0 y1 y2 y3 y4
      refine step_value (v := .agg #[.int .i64 u.kind, .string ⟨u.of_.toArray⟩, .string ⟨u.name.toArray⟩, .slice r.A u.names.length r.c, .slice r.P u.parts.length r.d]) (W' := W) rfl ?_ (hK.out _ _ rfl hJ (Below.refl _ _))
      try dsimp only
      go_simp
      try omega
    refine StepsAt.cons _ rfl (fun u' W K' hJ hd hK => ?_) ?_
    · obtain ⟨_, ⟨y0, y1, y2, y3, y4⟩, _⟩ := HY1.out.next hJ
      simp only [Nat.zero_add] at y0 y1 y2 y3 y4
      refine step_value (v := .agg #[.int .i64 t.kind, .string ⟨t.of_.toArray⟩, .string ⟨t.name.toArray⟩, .slice q.A t.names.length q.c, .slice q.P t.parts.length q.d]) (W' := W) rfl ?_ (hK.out _ _ rfl hJ (Below.refl _ _))
      try dsimp only
      go_simp
      try omega
    refine StepsAt.cons _ rfl (fun u' W K' hJ hd hK => ?_) ?_
    · have d3 : u' 3 = .agg #[.int .i64 u.kind, .string ⟨u.of_.toArray⟩, .string ⟨u.name.toArray⟩, .slice r.A u.names.length r.c, .slice r.P u.parts.length r.d] := hd 3 (by kernel_rfl)
      have d4 : u' 4 = .agg #[.int .i64 t.kind, .string ⟨t.of_.toArray⟩, .string ⟨t.name.toArray⟩, .slice q.A t.names.length q.c, .slice q.P t.parts.length q.d] := hd 4 (by kernel_rfl)
      refine step_enter (f := 21) (args := #[.agg #[.int .i64 u.kind, .string ⟨u.of_.toArray⟩, .string ⟨u.name.toArray⟩, .slice r.A u.names.length r.c, .slice r.P u.parts.length r.d], .agg #[.int .i64 t.kind, .string ⟨t.of_.toArray⟩, .string ⟨t.name.toArray⟩, .slice q.A t.names.length q.c, .slice q.P t.parts.length q.d]]) (W' := W) rfl ?_ ((osame_walk u t r q W (HR.out.next (below_next HBW5.out hJ)) (HQ.out.next (below_next HBW5.out hJ)) (HG.out.next (below_next HBW5.out hJ))).mono fun e w' h => ⟨_, h.1, hK.out _ _ (by rw [same_comm, HTU.out]; rfl) (below_next hJ h.2) h.2⟩)
      try dsimp only
      go_simp
      try omega
    refine StepsAt.cons _ rfl (fun u' W K' hJ hd hK => ?_) ?_
    · have d2 : u' 2 = .bool true := hd 2 (by kernel_rfl)
      have d5 : u' 5 = .bool true := hd 5 (by kernel_rfl)
      refine step_value (v := .bool false) (W' := W) rfl ?_ (hK.out _ _ rfl hJ (Below.refl _ _))
      try dsimp only
      go_simp
      try omega
    refine StepsAt.cons _ rfl (fun u' W K' hJ hd hK => ?_) ?_
    · have d6 : u' 6 = .bool false := hd 6 (by kernel_rfl)
      refine step_value (v := .bool false) (W' := W) rfl ?_ (hK.out _ _ rfl hJ (Below.refl _ _))
      try dsimp only
      go_simp
      try omega
    refine StepsAt.cons _ rfl (fun u' W K' hJ hd hK => ?_) ?_
    · have dg : u' 7 = .bool false := hd 7 (by kernel_rfl)
      obtain ⟨_, ⟨y0, y1, y2, y3, y4⟩, _⟩ := HY1.out.next hJ
      simp only [Nat.zero_add] at y0 y1 y2 y3 y4
      refine step_value (v := .agg #[.int .i64 t.kind, .string ⟨t.of_.toArray⟩, .string ⟨t.name.toArray⟩, .slice q.A t.names.length q.c, .slice q.P t.parts.length q.d]) (W' := W) ?_ ?_ (hK.out _ _ rfl hJ (Below.refl _ _))
      · simp [Region.wanted, yielded, dg]
      · try dsimp only
        go_simp
        try omega
    refine StepsAt.cons _ rfl (fun u' W K' hJ hd hK => ?_) ?_
    · have dg : u' 7 = .bool false := hd 7 (by kernel_rfl)
      obtain ⟨_, ⟨y0, y1, y2, y3, y4⟩, _⟩ := HY2.out.next hJ
      simp only [Nat.zero_add] at y0 y1 y2 y3 y4
      refine step_value (v := .agg #[.int .i64 u.kind, .string ⟨u.of_.toArray⟩, .string ⟨u.name.toArray⟩, .slice r.A u.names.length r.c, .slice r.P u.parts.length r.d]) (W' := W) ?_ ?_ (hK.out _ _ rfl hJ (Below.refl _ _))
      · simp [Region.wanted, yielded, dg]
      · try dsimp only
        go_simp
        try omega
    refine StepsAt.cons _ rfl (fun u' W K' hJ hd hK => ?_) ?_
    · have dg : u' 7 = .bool false := hd 7 (by kernel_rfl)
      have d8 : u' 8 = .agg #[.int .i64 t.kind, .string ⟨t.of_.toArray⟩, .string ⟨t.name.toArray⟩, .slice q.A t.names.length q.c, .slice q.P t.parts.length q.d] := hd 8 (by kernel_rfl)
      have d9 : u' 9 = .agg #[.int .i64 u.kind, .string ⟨u.of_.toArray⟩, .string ⟨u.name.toArray⟩, .slice r.A u.names.length r.c, .slice r.P u.parts.length r.d] := hd 9 (by kernel_rfl)
      refine step_enter (f := 21) (args := #[.agg #[.int .i64 t.kind, .string ⟨t.of_.toArray⟩, .string ⟨t.name.toArray⟩, .slice q.A t.names.length q.c, .slice q.P t.parts.length q.d], .agg #[.int .i64 u.kind, .string ⟨u.of_.toArray⟩, .string ⟨u.name.toArray⟩, .slice r.A u.names.length r.c, .slice r.P u.parts.length r.d]]) (W' := W) ?_ ?_ ((osame_walk t u q r W (HQ.out.next (below_next HBW5.out hJ)) (HR.out.next (below_next HBW5.out hJ)) (HG.out.next (below_next HBW5.out hJ))).mono fun e w' h => ⟨_, h.1, hK.out _ _ (by rw [HTU.out]; rfl) (below_next hJ h.2) h.2⟩)
      · simp [Region.wanted, yielded, dg]
      · try dsimp only
        go_simp
        try omega
    refine StepsAt.cons _ rfl (fun u' W K' hJ hd hK => ?_) ?_
    · have dg : u' 7 = .bool false := hd 7 (by kernel_rfl)
      have d10 : u' 10 = .bool true := hd 10 (by kernel_rfl)
      refine step_value (v := .bool true) (W' := W) ?_ ?_ (hK.out _ _ rfl hJ (Below.refl _ _))
      · simp [Region.wanted, yielded, dg]
      · try dsimp only
        go_simp
        try omega
    refine StepsAt.cons _ rfl (fun u' W K' hJ hd hK => ?_) ?_
    · have dg : u' 11 = .bool true := hd 11 (by kernel_rfl)
      obtain ⟨_, ⟨y0, y1, y2, y3, y4⟩, _⟩ := HY2.out.next hJ
      simp only [Nat.zero_add] at y0 y1 y2 y3 y4
      refine step_value (v := .agg #[.int .i64 u.kind, .string ⟨u.of_.toArray⟩, .string ⟨u.name.toArray⟩, .slice r.A u.names.length r.c, .slice r.P u.parts.length r.d]) (W' := W) ?_ ?_ (hK.out _ _ rfl hJ (Below.refl _ _))
      · simp [Region.wanted, yielded, dg]
      · try dsimp only
        go_simp
        try omega
    refine StepsAt.cons _ rfl (fun u' W K' hJ hd hK => ?_) ?_
    · have dg : u' 11 = .bool true := hd 11 (by kernel_rfl)
      obtain ⟨_, ⟨y0, y1, y2, y3, y4⟩, _⟩ := HY3.out.next hJ
      simp only [Nat.zero_add] at y0 y1 y2 y3 y4
      refine step_value (v := .agg #[.int .i64 v.kind, .string ⟨v.of_.toArray⟩, .string ⟨v.name.toArray⟩, .slice s.A v.names.length s.c, .slice s.P v.parts.length s.d]) (W' := W) ?_ ?_ (hK.out _ _ rfl hJ (Below.refl _ _))
      · simp [Region.wanted, yielded, dg]
      · try dsimp only
        go_simp
        try omega
    refine StepsAt.cons _ rfl (fun u' W K' hJ hd hK => ?_) ?_
    · have dg : u' 11 = .bool true := hd 11 (by kernel_rfl)
      have d12 : u' 12 = .agg #[.int .i64 u.kind, .string ⟨u.of_.toArray⟩, .string ⟨u.name.toArray⟩, .slice r.A u.names.length r.c, .slice r.P u.parts.length r.d] := hd 12 (by kernel_rfl)
      have d13 : u' 13 = .agg #[.int .i64 v.kind, .string ⟨v.of_.toArray⟩, .string ⟨v.name.toArray⟩, .slice s.A v.names.length s.c, .slice s.P v.parts.length s.d] := hd 13 (by kernel_rfl)
      refine step_enter (f := 21) (args := #[.agg #[.int .i64 u.kind, .string ⟨u.of_.toArray⟩, .string ⟨u.name.toArray⟩, .slice r.A u.names.length r.c, .slice r.P u.parts.length r.d], .agg #[.int .i64 v.kind, .string ⟨v.of_.toArray⟩, .string ⟨v.name.toArray⟩, .slice s.A v.names.length s.c, .slice s.P v.parts.length s.d]]) (W' := W) ?_ ?_ ((osame_walk u v r s W (HR.out.next (below_next HBW5.out hJ)) (HS.out.next (below_next HBW5.out hJ)) (HG.out.next (below_next HBW5.out hJ))).mono fun e w' h => ⟨_, h.1, hK.out _ _ (by rw [HUV.out]; rfl) (below_next hJ h.2) h.2⟩)
      · simp [Region.wanted, yielded, dg]
      · try dsimp only
        go_simp
        try omega
    refine StepsAt.cons _ rfl (fun u' W K' hJ hd hK => ?_) ?_
    · have dg : u' 7 = .bool false := hd 7 (by kernel_rfl)
      have d11 : u' 11 = .bool true := hd 11 (by kernel_rfl)
      have d14 : u' 14 = .bool true := hd 14 (by kernel_rfl)
      refine step_value (v := .bool true) (W' := W) ?_ ?_ (hK.out _ _ rfl hJ (Below.refl _ _))
      · simp [Region.wanted, yielded, dg]
      · try dsimp only
        go_simp
        try omega
    refine StepsAt.cons _ rfl (fun u' W K' hJ hd hK => ?_) ?_
    · have dg : u' 7 = .bool false := hd 7 (by kernel_rfl)
      have d15 : u' 15 = .bool true := hd 15 (by kernel_rfl)
      refine step_value (v := .bool true) (W' := W) ?_ ?_ (hK.out _ _ rfl hJ (Below.refl _ _))
      · simp [Region.wanted, yielded, dg]
      · try dsimp only
        go_simp
        try omega
    refine StepsAt.cons _ rfl (fun u' W K' hJ hd hK => ?_) ?_
    · have dg : u' 16 = .bool true := hd 16 (by kernel_rfl)
      obtain ⟨_, ⟨y0, y1, y2, y3, y4⟩, _⟩ := HY1.out.next hJ
      simp only [Nat.zero_add] at y0 y1 y2 y3 y4
      refine step_value (v := .agg #[.int .i64 t.kind, .string ⟨t.of_.toArray⟩, .string ⟨t.name.toArray⟩, .slice q.A t.names.length q.c, .slice q.P t.parts.length q.d]) (W' := W) ?_ ?_ (hK.out _ _ rfl hJ (Below.refl _ _))
      · simp [Region.wanted, yielded, dg]
      · try dsimp only
        go_simp
        try omega
    refine StepsAt.cons _ rfl (fun u' W K' hJ hd hK => ?_) ?_
    · have dg : u' 16 = .bool true := hd 16 (by kernel_rfl)
      obtain ⟨_, ⟨y0, y1, y2, y3, y4⟩, _⟩ := HY3.out.next hJ
      simp only [Nat.zero_add] at y0 y1 y2 y3 y4
      refine step_value (v := .agg #[.int .i64 v.kind, .string ⟨v.of_.toArray⟩, .string ⟨v.name.toArray⟩, .slice s.A v.names.length s.c, .slice s.P v.parts.length s.d]) (W' := W) ?_ ?_ (hK.out _ _ rfl hJ (Below.refl _ _))
      · simp [Region.wanted, yielded, dg]
      · try dsimp only
        go_simp
        try omega
    refine StepsAt.cons _ rfl (fun u' W K' hJ hd hK => ?_) ?_
    · have dg : u' 16 = .bool true := hd 16 (by kernel_rfl)
      have d17 : u' 17 = .agg #[.int .i64 t.kind, .string ⟨t.of_.toArray⟩, .string ⟨t.name.toArray⟩, .slice q.A t.names.length q.c, .slice q.P t.parts.length q.d] := hd 17 (by kernel_rfl)
      have d18 : u' 18 = .agg #[.int .i64 v.kind, .string ⟨v.of_.toArray⟩, .string ⟨v.name.toArray⟩, .slice s.A v.names.length s.c, .slice s.P v.parts.length s.d] := hd 18 (by kernel_rfl)
      refine step_enter (f := 21) (args := #[.agg #[.int .i64 t.kind, .string ⟨t.of_.toArray⟩, .string ⟨t.name.toArray⟩, .slice q.A t.names.length q.c, .slice q.P t.parts.length q.d], .agg #[.int .i64 v.kind, .string ⟨v.of_.toArray⟩, .string ⟨v.name.toArray⟩, .slice s.A v.names.length s.c, .slice s.P v.parts.length s.d]]) (W' := W) ?_ ?_ ((osame_walk t v q s W (HQ.out.next (below_next HBW5.out hJ)) (HS.out.next (below_next HBW5.out hJ)) (HG.out.next (below_next HBW5.out hJ))).mono fun e w' h => ⟨_, h.1, hK.out _ _ (by rw [HTV.out]; rfl) (below_next hJ h.2) h.2⟩)
      · simp [Region.wanted, yielded, dg]
      · try dsimp only
        go_simp
        try omega
    refine StepsAt.cons _ rfl (fun u' W K' hJ hd hK => ?_) ?_
    · have dg : u' 16 = .bool true := hd 16 (by kernel_rfl)
      have d19 : u' 19 = .bool true := hd 19 (by kernel_rfl)
      refine step_value (v := .bool false) (W' := W) ?_ ?_ (hK.out _ _ rfl hJ (Below.refl _ _))
      · simp [Region.wanted, yielded, dg]
      · try dsimp only
        go_simp
        try omega
    refine StepsAt.cons _ rfl (fun u' W K' hJ hd hK => ?_) ?_
    · have dg : u' 7 = .bool false := hd 7 (by kernel_rfl)
      have d16 : u' 16 = .bool true := hd 16 (by kernel_rfl)
      have d20 : u' 20 = .bool false := hd 20 (by kernel_rfl)
      refine step_value (v := .bool false) (W' := W) ?_ ?_ (hK.out _ _ rfl hJ (Below.refl _ _))
      · simp [Region.wanted, yielded, dg]
      · try dsimp only
        go_simp
        try omega
    refine StepsAt.cons _ rfl (fun u' W K' hJ hd hK => ?_) StepsAt.nil
    · have d7 : u' 7 = .bool false := hd 7 (by kernel_rfl)
      have d21 : u' 21 = .bool false := hd 21 (by kernel_rfl)
      refine step_value (v := .bool false) (W' := W) rfl ?_ (hK.out _ _ rfl hJ (Below.refl _ _))
      try dsimp only
      go_simp
      try omega
    intro ub W6 hJ6 hok
    try dsimp only
    rw [show ub 22 = .bool false from hok 22 (by decide)]
    clear hok
    have HBW6 := Lib.hid (below_next HBW5.out hJ6)
    obtain ⟨a1, ⟨x0, x1, x2, x3, x4⟩, a2⟩ := HB1.out.next HBW6.out
    simp only [Nat.zero_add] at x0 x1 x2 x3 x4
    clear hJ6 a1 a2
    go_wp2_with fail
    refine (oSort_walk t q W6 (HQ.out.next HBW6.out) (HG.out.next HBW6.out) HC1.out).mono ?_
    rintro e W7 ⟨p2, rfl, hat, hb7⟩
    have HBW7 := Lib.hid (below_next HBW6.out hb7)
    have hsh := oShow_walk (sorted t) p2 W7 hat (HG.out.next HBW7.out)
    rw [check_sorted HC1.out] at hsh
    obtain ⟨zt, hzt⟩ : ∃ zt, zt = sorted t := ⟨_, rfl⟩
    have HZT := Lib.hid hzt
    rw [← hzt] at hsh ⊢
    have HSH := Lib.hid hsh
    clear hb7 hat hsh hzt x0 x1 x2 x3 x4
    go_wp2_with fail
    refine HSH.out.mono ?_
    rintro e W8 ⟨rfl, hb8⟩
    have HBW8 := Lib.hid (below_next HBW7.out hb8)
    obtain ⟨St, hSt⟩ : ∃ St, St = show7 zt := ⟨_, rfl⟩
    have HST := Lib.hid hSt
    rw [← hSt]
    obtain ⟨a1, ⟨x0, x1, x2, x3, x4⟩, a2⟩ := HB2.out.next HBW8.out
    simp only [Nat.zero_add] at x0 x1 x2 x3 x4
    clear hb8 HSH hSt a1 a2
    go_wp2_with fail
    refine (oSort_walk u r W8 (HR.out.next HBW8.out) (HG.out.next HBW8.out) HC2.out).mono ?_
    rintro e W9 ⟨p3, rfl, hat, hb9⟩
    have HBW9 := Lib.hid (below_next HBW8.out hb9)
    have hsh := oShow_walk (sorted u) p3 W9 hat (HG.out.next HBW9.out)
    rw [check_sorted HC2.out] at hsh
    have hzu : sorted u = zt := by rw [HZT.out]; exact ((same_iff t u).1 HTU.out).2.2.symm
    rw [hzu] at hsh ⊢
    rw [← HST.out] at hsh
    have HSH := Lib.hid hsh
    clear hb9 hat hsh hzu x0 x1 x2 x3 x4
    go_wp2_with fail
    refine HSH.out.mono ?_
    rintro e WA ⟨rfl, hbA⟩
    have HBWA := Lib.hid (below_next HBW9.out hbA)
    clear hbA HSH
    obtain ⟨a1, ⟨x0, x1, x2, x3, x4⟩, a2⟩ := HB1.out.next HBWA.out
    obtain ⟨a3, ⟨y0, y1, y2, y3, y4⟩, a4⟩ := HB2.out.next HBWA.out
    simp only [Nat.zero_add] at x0 x1 x2 x3 x4 y0 y1 y2 y3 y4
    have hsm := osame_walk t u q r WA (HQ.out.next HBWA.out) (HR.out.next HBWA.out) (HG.out.next HBWA.out)
    rw [HTU.out] at hsm
    have HSM := Lib.hid hsm
    clear hsm a1 a2 a3 a4
    go_wp2_with fail
    refine HSM.out.mono ?_
    rintro e WB ⟨rfl, hbB⟩
    have HBWB := Lib.hid (below_next HBWA.out hbB)
    clear hbB HSM x0 x1 x2 x3 x4 y0 y1 y2 y3 y4
    go_wp2_with fail
    refine (awake7_walk WB (HG.out.next HBWB.out)).mono ?_
    rintro e WC ⟨rfl, hbC⟩
    have HBWC := Lib.hid (below_next HBWB.out hbC)
    clear hbC
    go_wp2
    go_ret
    exact ⟨rfl, below_next HB0.out HBWC.out⟩

set_option maxRecDepth 100000 in
set_option maxHeartbeats 16000000 in
theorem same_walk (t u v : Sh) (q r s : Ptr) (w : World) (hq : ShAt w w.heap.size q t) (hr : ShAt w w.heap.size r u) (hs : ShAt w w.heap.size s v) (hg : WGlobs w)  :
    Calls Tryd.prog 8 #[.agg #[.int .i64 t.kind, .string ⟨t.of_.toArray⟩, .string ⟨t.name.toArray⟩, .slice q.A t.names.length q.c, .slice q.P t.parts.length q.d], .agg #[.int .i64 u.kind, .string ⟨u.of_.toArray⟩, .string ⟨u.name.toArray⟩, .slice r.A u.names.length r.c, .slice r.P u.parts.length r.d], .agg #[.int .i64 v.kind, .string ⟨v.of_.toArray⟩, .string ⟨v.name.toArray⟩, .slice s.A v.names.length s.c, .slice s.P v.parts.length s.d]] w fun e w' => e = .returned (.bool true) ∧ Below w.heap.size w w' := by
  by_cases h1 : check t = 0
  · by_cases h2 : check u = 0
    · by_cases h3 : check v = 0
      · exact same_yes t u v q r s w hq hr hs hg h1 h2 h3
      · exact same_no3 t u v q r s w hq hr hs hg h1 h2 h3
    · exact same_no2 t u v q r s w hq hr hs hg h1 h2
  · exact same_no1 t u v q r s w hq hr hs hg h1
end Go.Proofs.YtkehnmapnckdgaaDoor
