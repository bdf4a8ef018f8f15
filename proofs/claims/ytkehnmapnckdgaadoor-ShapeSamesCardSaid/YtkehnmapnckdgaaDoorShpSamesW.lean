/- The walk of ShapeSames. -/
import Derived.Test.YtkehnmapnckdgaaDoorShpAwake
import Derived.Test.YtkehnmapnckdgaaDoorShpU4
namespace Go.Proofs.YtkehnmapnckdgaaDoor
open Go.RowKit Shp
set_option linter.unusedVariables false
set_option linter.unusedSimpArgs false

def samesT (t u : Sh) (q r : Ptr) : Nat → Want
  | 0 => .val (.agg #[.int .i64 t.kind, .string ⟨t.of_.toArray⟩, .string ⟨t.name.toArray⟩, .slice q.A t.names.length q.c, .slice q.P t.parts.length q.d])
  | 1 => .val (.agg #[.int .i64 u.kind, .string ⟨u.of_.toArray⟩, .string ⟨u.name.toArray⟩, .slice r.A u.names.length r.c, .slice r.P u.parts.length r.d])
  | 2 => .val (.bool (same t u))
  | 3 => .val (.agg #[.int .i64 t.kind, .string ⟨t.of_.toArray⟩, .string ⟨t.name.toArray⟩, .slice q.A t.names.length q.c, .slice q.P t.parts.length q.d])
  | 4 => .val (.agg #[.int .i64 u.kind, .string ⟨u.of_.toArray⟩, .string ⟨u.name.toArray⟩, .slice r.A u.names.length r.c, .slice r.P u.parts.length r.d])
  | 5 => .val (.bool (same t u))
  | 6 => .val (.bool true)
  | 7 => .val (.bool true)
  | 8 => .val (.bool true)
  | 9 => .val (.bool true)
  | 10 => .val (.bool true)
  | _ => .any

set_option maxRecDepth 100000 in
set_option maxHeartbeats 8000000 in
theorem sames_walk (t u : Sh) (q r : Ptr) (w : World) (hq : ShAt w w.heap.size q t) (hr : ShAt w w.heap.size r u) (hg : WGlobs w) :
    Calls Tryd.prog 5 #[.agg #[.int .i64 t.kind, .string ⟨t.of_.toArray⟩, .string ⟨t.name.toArray⟩, .slice q.A t.names.length q.c, .slice q.P t.parts.length q.d], .agg #[.int .i64 u.kind, .string ⟨u.of_.toArray⟩, .string ⟨u.name.toArray⟩, .slice r.A u.names.length r.c, .slice r.P u.parts.length r.d]] w fun e w' => e = .returned (.bool true) ∧ Below w.heap.size w w' := by
  have HB1 := Lib.hid (((box5_new w t q).next (below_one _ _)) : Box5 ((w.alloc (.cells #[.int .i64 t.kind, .string ⟨t.of_.toArray⟩, .string ⟨t.name.toArray⟩, .slice q.A t.names.length q.c, .slice q.P t.parts.length q.d] 25)).alloc (.cells #[.int .i64 u.kind, .string ⟨u.of_.toArray⟩, .string ⟨u.name.toArray⟩, .slice r.A u.names.length r.c, .slice r.P u.parts.length r.d] 25)) w.heap.size t q)
  have HB2 : Hid (Box5 ((w.alloc (.cells #[.int .i64 t.kind, .string ⟨t.of_.toArray⟩, .string ⟨t.name.toArray⟩, .slice q.A t.names.length q.c, .slice q.P t.parts.length q.d] 25)).alloc (.cells #[.int .i64 u.kind, .string ⟨u.of_.toArray⟩, .string ⟨u.name.toArray⟩, .slice r.A u.names.length r.c, .slice r.P u.parts.length r.d] 25)) (w.heap.size + 1) u r) := by
    have h := box5_new (w.alloc (.cells #[.int .i64 t.kind, .string ⟨t.of_.toArray⟩, .string ⟨t.name.toArray⟩, .slice q.A t.names.length q.c, .slice q.P t.parts.length q.d] 25)) u r
    have e : (w.alloc (.cells #[.int .i64 t.kind, .string ⟨t.of_.toArray⟩, .string ⟨t.name.toArray⟩, .slice q.A t.names.length q.c, .slice q.P t.parts.length q.d] 25)).heap.size = w.heap.size + 1 := by simp
    rw [e] at h
    exact Lib.hid h
  have hb0 : Below w.heap.size w ((w.alloc (.cells #[.int .i64 t.kind, .string ⟨t.of_.toArray⟩, .string ⟨t.name.toArray⟩, .slice q.A t.names.length q.c, .slice q.P t.parts.length q.d] 25)).alloc (.cells #[.int .i64 u.kind, .string ⟨u.of_.toArray⟩, .string ⟨u.name.toArray⟩, .slice r.A u.names.length r.c, .slice r.P u.parts.length r.d] 25)) := below_new (below_one _ _) _
  have HQ := Lib.hid (hq.next hb0)
  have HR := Lib.hid (hr.next hb0)
  have HG := Lib.hid (hg.next hb0)
  have HB0 := Lib.hid hb0
  clear hq hr hg hb0
  go_enter Tryd.func5, Tryd.ntmps5
  go_wp2_with fail
  generalize (w.alloc (.cells #[.int .i64 t.kind, .string ⟨t.of_.toArray⟩, .string ⟨t.name.toArray⟩, .slice q.A t.names.length q.c, .slice q.P t.parts.length q.d] 25)).alloc (.cells #[.int .i64 u.kind, .string ⟨u.of_.toArray⟩, .string ⟨u.name.toArray⟩, .slice r.A u.names.length r.c, .slice r.P u.parts.length r.d] 25) = W0 at HB1 HB2 HQ HR HG HB0 ⊢
  refine wp_orders (rs := [0, 1, 2, 3, 4, 5, 6, 7, 8, 9, 10])
    (fun u' => { tmps := #[.agg #[.int .i64 t.kind, .string { data := t.of_.toArray }, .string { data := t.name.toArray }, .slice q.A t.names.length q.c, .slice q.P t.parts.length q.d], .agg #[.int .i64 u.kind, .string { data := u.of_.toArray }, .string { data := u.name.toArray }, .slice r.A u.names.length r.c, .slice r.P u.parts.length r.d], .pointer (some { block := w.heap.size, off := 0 }), .pointer (some { block := w.heap.size + 1, off := 0 }), u' 10, u' 0, u' 1, u' 2, u' 3, u' 4, u' 5, u' 6, u' 7, u' 8, u' 9], defers := [] })
    (fun j => ([undef, undef, undef, undef, undef, undef, undef, undef, undef, undef, .bool false] : List Value).getD j undef) (samesT t u q r) (fun W => Below W0.heap.size W0 W) (by kernel_rfl) (by kernel_rfl) (by kernel_rfl) (Below.refl _ _).drew ?_ ?_
  refine StepsAt.cons _ rfl (fun u' W K' hJ hd hK => ?_) ?_
  · obtain ⟨_, ⟨y0, y1, y2, y3, y4⟩, _⟩ := HB1.out.next hJ
    simp only [Nat.zero_add] at y0 y1 y2 y3 y4
    refine step_value (v := .agg #[.int .i64 t.kind, .string ⟨t.of_.toArray⟩, .string ⟨t.name.toArray⟩, .slice q.A t.names.length q.c, .slice q.P t.parts.length q.d]) (W' := W) rfl ?_ (hK.out _ _ rfl hJ (Below.refl _ _))
    try dsimp only
    go_simp
    try omega
  refine StepsAt.cons _ rfl (fun u' W K' hJ hd hK => ?_) ?_
  · obtain ⟨_, ⟨y0, y1, y2, y3, y4⟩, _⟩ := HB2.out.next hJ
    simp only [Nat.zero_add] at y0 y1 y2 y3 y4
    refine step_value (v := .agg #[.int .i64 u.kind, .string ⟨u.of_.toArray⟩, .string ⟨u.name.toArray⟩, .slice r.A u.names.length r.c, .slice r.P u.parts.length r.d]) (W' := W) rfl ?_ (hK.out _ _ rfl hJ (Below.refl _ _))
    try dsimp only
    go_simp
    try omega
  refine StepsAt.cons _ rfl (fun u' W K' hJ hd hK => ?_) ?_
  · have d0 : u' 0 = .agg #[.int .i64 t.kind, .string ⟨t.of_.toArray⟩, .string ⟨t.name.toArray⟩, .slice q.A t.names.length q.c, .slice q.P t.parts.length q.d] := hd 0 (by kernel_rfl)
    have d1 : u' 1 = .agg #[.int .i64 u.kind, .string ⟨u.of_.toArray⟩, .string ⟨u.name.toArray⟩, .slice r.A u.names.length r.c, .slice r.P u.parts.length r.d] := hd 1 (by kernel_rfl)
    refine step_enter (f := 21) (args := #[.agg #[.int .i64 t.kind, .string ⟨t.of_.toArray⟩, .string ⟨t.name.toArray⟩, .slice q.A t.names.length q.c, .slice q.P t.parts.length q.d], .agg #[.int .i64 u.kind, .string ⟨u.of_.toArray⟩, .string ⟨u.name.toArray⟩, .slice r.A u.names.length r.c, .slice r.P u.parts.length r.d]]) (W' := W) rfl ?_ ((osame_walk t u q r W (HQ.out.next hJ) (HR.out.next hJ) (HG.out.next hJ)).mono fun e w' h => ⟨_, h.1, hK.out _ _ rfl (below_next hJ h.2) h.2⟩)
    try dsimp only
    go_simp
    try omega
  refine StepsAt.cons _ rfl (fun u' W K' hJ hd hK => ?_) ?_
  · obtain ⟨_, ⟨y0, y1, y2, y3, y4⟩, _⟩ := HB1.out.next hJ
    simp only [Nat.zero_add] at y0 y1 y2 y3 y4
    refine step_value (v := .agg #[.int .i64 t.kind, .string ⟨t.of_.toArray⟩, .string ⟨t.name.toArray⟩, .slice q.A t.names.length q.c, .slice q.P t.parts.length q.d]) (W' := W) rfl ?_ (hK.out _ _ rfl hJ (Below.refl _ _))
    try dsimp only
    go_simp
    try omega
  refine StepsAt.cons _ rfl (fun u' W K' hJ hd hK => ?_) ?_
  · obtain ⟨_, ⟨y0, y1, y2, y3, y4⟩, _⟩ := HB2.out.next hJ
    simp only [Nat.zero_add] at y0 y1 y2 y3 y4
    refine step_value (v := .agg #[.int .i64 u.kind, .string ⟨u.of_.toArray⟩, .string ⟨u.name.toArray⟩, .slice r.A u.names.length r.c, .slice r.P u.parts.length r.d]) (W' := W) rfl ?_ (hK.out _ _ rfl hJ (Below.refl _ _))
    try dsimp only
    go_simp
    try omega
  refine StepsAt.cons _ rfl (fun u' W K' hJ hd hK => ?_) ?_
  · have d3 : u' 3 = .agg #[.int .i64 t.kind, .string ⟨t.of_.toArray⟩, .string ⟨t.name.toArray⟩, .slice q.A t.names.length q.c, .slice q.P t.parts.length q.d] := hd 3 (by kernel_rfl)
    have d4 : u' 4 = .agg #[.int .i64 u.kind, .string ⟨u.of_.toArray⟩, .string ⟨u.name.toArray⟩, .slice r.A u.names.length r.c, .slice r.P u.parts.length r.d] := hd 4 (by kernel_rfl)
    refine step_enter (f := 22) (args := #[.agg #[.int .i64 t.kind, .string ⟨t.of_.toArray⟩, .string ⟨t.name.toArray⟩, .slice q.A t.names.length q.c, .slice q.P t.parts.length q.d], .agg #[.int .i64 u.kind, .string ⟨u.of_.toArray⟩, .string ⟨u.name.toArray⟩, .slice r.A u.names.length r.c, .slice r.P u.parts.length r.d]]) (W' := W) rfl ?_ ((rsame7_walk t u q r W (HQ.out.next hJ) (HR.out.next hJ)).mono fun e w' h => ⟨_, h.1, hK.out _ _ rfl (below_next hJ h.2) h.2⟩)
    try dsimp only
    go_simp
    try omega
  refine StepsAt.cons _ rfl (fun u' W K' hJ hd hK => ?_) ?_
  · have d2 : u' 2 = .bool (same t u) := hd 2 (by kernel_rfl)
    have d5 : u' 5 = .bool (same t u) := hd 5 (by kernel_rfl)
    refine step_value (v := .bool true) (W' := W) rfl ?_ (hK.out _ _ rfl hJ (Below.refl _ _))
    try dsimp only
    go_simp
    try omega
  refine StepsAt.cons _ rfl (fun u' W K' hJ hd hK => ?_) ?_
  · have d6 : u' 6 = .bool true := hd 6 (by kernel_rfl)
    refine step_value (v := .bool true) (W' := W) rfl ?_ (hK.out _ _ rfl hJ (Below.refl _ _))
    try dsimp only
    go_simp
    try omega
  refine StepsAt.cons _ rfl (fun u' W K' hJ hd hK => ?_) ?_
  · have dg : u' 7 = .bool true := hd 7 (by kernel_rfl)
    refine step_enter (f := 17) (args := #[]) (W' := W) ?_ ?_ ((awake7_walk W (HG.out.next hJ)).mono fun e w' h => ⟨_, h.1, hK.out _ _ rfl (below_next hJ h.2) h.2⟩)
    · simp [Region.wanted, yielded, dg]
    · try dsimp only
      go_simp
      try omega
  refine StepsAt.cons _ rfl (fun u' W K' hJ hd hK => ?_) ?_
  · have d7 : u' 7 = .bool true := hd 7 (by kernel_rfl)
    have d8 : u' 8 = .bool true := hd 8 (by kernel_rfl)
    refine step_value (v := .bool true) (W' := W) rfl ?_ (hK.out _ _ rfl hJ (Below.refl _ _))
    try dsimp only
    go_simp
    try omega
  refine StepsAt.cons _ rfl (fun u' W K' hJ hd hK => ?_) StepsAt.nil
  · have d9 : u' 9 = .bool true := hd 9 (by kernel_rfl)
    refine step_value (v := .bool true) (W' := W) rfl ?_ (hK.out _ _ rfl hJ (Below.refl _ _))
    try dsimp only
    go_simp
    try omega
  intro u' W' hJ' hok
  try dsimp only
  rw [show u' 10 = .bool true from hok 10 (by decide)]
  clear hok
  go_wp2
  go_ret
  exact ⟨rfl, below_next HB0.out hJ'⟩
end Go.Proofs.YtkehnmapnckdgaaDoor
