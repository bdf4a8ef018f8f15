/- The program's Same. -/
import Derived.Test.YtkehnmapnckdgaaDoorGEq
import Derived.Test.YtkehnmapnckdgaaDoorGO8
import Derived.Test.YtkehnmapnckdgaaDoorGOrd
namespace Go.Proofs.YtkehnmapnckdgaaDoor
open Go.RowKit Shp
set_option linter.unusedVariables false

/-- A type that comes to lie in memory. -/
def wantSh (t : Sh) : Want := ⟨fun v W => ∃ q : Ptr, v = .agg #[.int .i64 t.kind, .string ⟨t.of_.toArray⟩, .string ⟨t.name.toArray⟩, .slice q.A t.names.length q.c, .slice q.P t.parts.length q.d] ∧ ShAt W W.heap.size q t, fun v w w' hb ⟨q, hv, h⟩ => ⟨q, hv, h.next hb⟩⟩

def osame_noT (t u : Sh) (q r : Ptr) : Nat → Want
  | 0 => .val (.agg #[.int .i64 t.kind, .string ⟨t.of_.toArray⟩, .string ⟨t.name.toArray⟩, .slice q.A t.names.length q.c, .slice q.P t.parts.length q.d])
  | 1 => .val (.bool false)
  | 2 => .val (.bool false)
  | 5 => .val (.bool false)
  | 6 => .val (.bool false)
  | 12 => .val (.bool false)
  | 13 => .val (.bool false)
  | _ => .any

def osame_halfT (t u : Sh) (q r : Ptr) : Nat → Want
  | 0 => .val (.agg #[.int .i64 t.kind, .string ⟨t.of_.toArray⟩, .string ⟨t.name.toArray⟩, .slice q.A t.names.length q.c, .slice q.P t.parts.length q.d])
  | 1 => .val (.bool true)
  | 2 => .val (.bool true)
  | 3 => .val (.agg #[.int .i64 u.kind, .string ⟨u.of_.toArray⟩, .string ⟨u.name.toArray⟩, .slice r.A u.names.length r.c, .slice r.P u.parts.length r.d])
  | 4 => .val (.bool false)
  | 5 => .val (.bool false)
  | 6 => .val (.bool false)
  | 12 => .val (.bool false)
  | 13 => .val (.bool false)
  | _ => .any

def osame_yesT (t u : Sh) (q r : Ptr) : Nat → Want
  | 0 => .val (.agg #[.int .i64 t.kind, .string ⟨t.of_.toArray⟩, .string ⟨t.name.toArray⟩, .slice q.A t.names.length q.c, .slice q.P t.parts.length q.d])
  | 1 => .val (.bool true)
  | 2 => .val (.bool true)
  | 3 => .val (.agg #[.int .i64 u.kind, .string ⟨u.of_.toArray⟩, .string ⟨u.name.toArray⟩, .slice r.A u.names.length r.c, .slice r.P u.parts.length r.d])
  | 4 => .val (.bool true)
  | 5 => .val (.bool true)
  | 6 => .val (.bool true)
  | 7 => .val (.agg #[.int .i64 t.kind, .string ⟨t.of_.toArray⟩, .string ⟨t.name.toArray⟩, .slice q.A t.names.length q.c, .slice q.P t.parts.length q.d])
  | 8 => wantSh (sorted t)
  | 9 => .val (.agg #[.int .i64 u.kind, .string ⟨u.of_.toArray⟩, .string ⟨u.name.toArray⟩, .slice r.A u.names.length r.c, .slice r.P u.parts.length r.d])
  | 10 => wantSh (sorted u)
  | 11 => .val (.bool (eqB (sorted t) (sorted u)))
  | 12 => .val (.bool (eqB (sorted t) (sorted u)))
  | 13 => .val (.bool (eqB (sorted t) (sorted u)))
  | _ => .any

set_option maxRecDepth 100000 in
set_option maxHeartbeats 4000000 in
theorem osame_no (t u : Sh) (q r : Ptr) (w : World) (hq : ShAt w w.heap.size q t) (hr : ShAt w w.heap.size r u) (hg : WGlobs w) (hc : check t ≠ 0) :
    Calls Tryd.prog 21 #[.agg #[.int .i64 t.kind, .string ⟨t.of_.toArray⟩, .string ⟨t.name.toArray⟩, .slice q.A t.names.length q.c, .slice q.P t.parts.length q.d], .agg #[.int .i64 u.kind, .string ⟨u.of_.toArray⟩, .string ⟨u.name.toArray⟩, .slice r.A u.names.length r.c, .slice r.P u.parts.length r.d]] w fun e w' => e = .returned (.bool (same t u)) ∧ Below w.heap.size w w' := by
  have HB1 := Lib.hid (((box5_new w t q).next (below_one _ _)) : Box5 ((w.alloc (.cells #[.int .i64 t.kind, .string ⟨t.of_.toArray⟩, .string ⟨t.name.toArray⟩, .slice q.A t.names.length q.c, .slice q.P t.parts.length q.d] 25)).alloc (.cells #[.int .i64 u.kind, .string ⟨u.of_.toArray⟩, .string ⟨u.name.toArray⟩, .slice r.A u.names.length r.c, .slice r.P u.parts.length r.d] 25)) w.heap.size t q)
  have HB2 : Hid (Box5 ((w.alloc (.cells #[.int .i64 t.kind, .string ⟨t.of_.toArray⟩, .string ⟨t.name.toArray⟩, .slice q.A t.names.length q.c, .slice q.P t.parts.length q.d] 25)).alloc (.cells #[.int .i64 u.kind, .string ⟨u.of_.toArray⟩, .string ⟨u.name.toArray⟩, .slice r.A u.names.length r.c, .slice r.P u.parts.length r.d] 25)) (w.heap.size + 1) u r) := by
    have h := box5_new (w.alloc (.cells #[.int .i64 t.kind, .string ⟨t.of_.toArray⟩, .string ⟨t.name.toArray⟩, .slice q.A t.names.length q.c, .slice q.P t.parts.length q.d] 25)) u r
    have e : (w.alloc (.cells #[.int .i64 t.kind, .string ⟨t.of_.toArray⟩, .string ⟨t.name.toArray⟩, .slice q.A t.names.length q.c, .slice q.P t.parts.length q.d] 25)).heap.size = w.heap.size + 1 := by simp
    rw [e] at h
    exact Lib.hid h
  have hb0 : Below w.heap.size w ((w.alloc (.cells #[.int .i64 t.kind, .string ⟨t.of_.toArray⟩, .string ⟨t.name.toArray⟩, .slice q.A t.names.length q.c, .slice q.P t.parts.length q.d] 25)).alloc (.cells #[.int .i64 u.kind, .string ⟨u.of_.toArray⟩, .string ⟨u.name.toArray⟩, .slice r.A u.names.length r.c, .slice r.P u.parts.length r.d] 25)) := below_new (below_one _ _) _
  have HQ := Lib.hid (hq.next hb0)
  have HR := Lib.hid (hr.next hb0)
  have HG := Lib.hid (hg.next hb0)
  have HB0 := Lib.hid hb0
  have HC := Lib.hid hc
  clear hq hr hg hb0 hc
  go_enter Tryd.func21, Tryd.ntmps21
  go_wp2_with fail
  generalize (w.alloc (.cells #[.int .i64 t.kind, .string ⟨t.of_.toArray⟩, .string ⟨t.name.toArray⟩, .slice q.A t.names.length q.c, .slice q.P t.parts.length q.d] 25)).alloc (.cells #[.int .i64 u.kind, .string ⟨u.of_.toArray⟩, .string ⟨u.name.toArray⟩, .slice r.A u.names.length r.c, .slice r.P u.parts.length r.d] 25) = W0 at HB1 HB2 HQ HR HG HB0 ⊢
  refine wp_orders (rs := [0, 1, 2, 3, 4, 5, 6, 7, 8, 9, 10, 11, 12, 13])
    (fun u' => { tmps := #[.agg #[.int .i64 t.kind, .string { data := t.of_.toArray }, .string { data := t.name.toArray }, .slice q.A t.names.length q.c, .slice q.P t.parts.length q.d], .agg #[.int .i64 u.kind, .string { data := u.of_.toArray }, .string { data := u.name.toArray }, .slice r.A u.names.length r.c, .slice r.P u.parts.length r.d], .pointer (some { block := w.heap.size, off := 0 }), .pointer (some { block := w.heap.size + 1, off := 0 }), u' 13, u' 0, u' 1, u' 2, u' 3, u' 4, u' 5, u' 6, u' 7, u' 8, u' 9, u' 10, u' 11, u' 12], defers := [] })
    (fun j => ([undef, undef, undef, undef, undef, undef, undef, undef, undef, undef, undef, undef, undef, .bool false] : List Value).getD j undef) (osame_noT t u q r) (fun W => Below W0.heap.size W0 W) (by kernel_rfl) (by kernel_rfl) (by kernel_rfl) (Below.refl _ _).drew ?_ ?_
  refine StepsAt.cons _ rfl (fun u' W K' hJ hd hK => ?_) ?_
  · obtain ⟨_, ⟨y0, y1, y2, y3, y4⟩, _⟩ := HB1.out.next hJ
    simp only [Nat.zero_add] at y0 y1 y2 y3 y4
    refine step_value (v := .agg #[.int .i64 t.kind, .string ⟨t.of_.toArray⟩, .string ⟨t.name.toArray⟩, .slice q.A t.names.length q.c, .slice q.P t.parts.length q.d]) (W' := W) rfl ?_ (hK.out _ _ rfl hJ (Below.refl _ _))
    try dsimp only
    go_simp
  refine StepsAt.cons _ rfl (fun u' W K' hJ hd hK => ?_) ?_
  · have d0 : u' 0 = .agg #[.int .i64 t.kind, .string ⟨t.of_.toArray⟩, .string ⟨t.name.toArray⟩, .slice q.A t.names.length q.c, .slice q.P t.parts.length q.d] := hd 0 (by kernel_rfl)
    refine step_enter (f := 29) (args := #[.agg #[.int .i64 t.kind, .string ⟨t.of_.toArray⟩, .string ⟨t.name.toArray⟩, .slice q.A t.names.length q.c, .slice q.P t.parts.length q.d]]) (W' := W) rfl ?_ ((mayBe_walk t q W (HQ.out.next hJ) (HG.out.next hJ)).mono fun e w' h => ⟨_, h.1, hK.out _ _ (by rw [decide_eq_false HC.out]; rfl) (below_next hJ h.2) h.2⟩)
    try dsimp only
    go_simp
  refine StepsAt.cons _ rfl (fun u' W K' hJ hd hK => ?_) ?_
  · have d1 : u' 1 = .bool false := hd 1 (by kernel_rfl)
    refine step_value (v := .bool false) (W' := W) rfl ?_ (hK.out _ _ rfl hJ (Below.refl _ _))
    try dsimp only
    go_simp
  refine StepsAt.cons _ rfl (fun u' W K' hJ hd hK => ?_) ?_
  · have dg : u' 2 = .bool false := hd 2 (by kernel_rfl)
    exact step_skip (by simp [Region.wanted, yielded, dg]) (hK.out _ _ trivial hJ (Below.refl _ _))
  refine StepsAt.cons _ rfl (fun u' W K' hJ hd hK => ?_) ?_
  · have dg : u' 2 = .bool false := hd 2 (by kernel_rfl)
    exact step_skip (by simp [Region.wanted, yielded, dg]) (hK.out _ _ trivial hJ (Below.refl _ _))
  refine StepsAt.cons _ rfl (fun u' W K' hJ hd hK => ?_) ?_
  · have d2 : u' 2 = .bool false := hd 2 (by kernel_rfl)
    refine step_value (v := .bool false) (W' := W) rfl ?_ (hK.out _ _ rfl hJ (Below.refl _ _))
    try dsimp only
    go_simp
  refine StepsAt.cons _ rfl (fun u' W K' hJ hd hK => ?_) ?_
  · have d5 : u' 5 = .bool false := hd 5 (by kernel_rfl)
    refine step_value (v := .bool false) (W' := W) rfl ?_ (hK.out _ _ rfl hJ (Below.refl _ _))
    try dsimp only
    go_simp
  refine StepsAt.cons _ rfl (fun u' W K' hJ hd hK => ?_) ?_
  · have dg : u' 6 = .bool false := hd 6 (by kernel_rfl)
    exact step_skip (by simp [Region.wanted, yielded, dg]) (hK.out _ _ trivial hJ (Below.refl _ _))
  refine StepsAt.cons _ rfl (fun u' W K' hJ hd hK => ?_) ?_
  · have dg : u' 6 = .bool false := hd 6 (by kernel_rfl)
    exact step_skip (by simp [Region.wanted, yielded, dg]) (hK.out _ _ trivial hJ (Below.refl _ _))
  refine StepsAt.cons _ rfl (fun u' W K' hJ hd hK => ?_) ?_
  · have dg : u' 6 = .bool false := hd 6 (by kernel_rfl)
    exact step_skip (by simp [Region.wanted, yielded, dg]) (hK.out _ _ trivial hJ (Below.refl _ _))
  refine StepsAt.cons _ rfl (fun u' W K' hJ hd hK => ?_) ?_
  · have dg : u' 6 = .bool false := hd 6 (by kernel_rfl)
    exact step_skip (by simp [Region.wanted, yielded, dg]) (hK.out _ _ trivial hJ (Below.refl _ _))
  refine StepsAt.cons _ rfl (fun u' W K' hJ hd hK => ?_) ?_
  · have dg : u' 6 = .bool false := hd 6 (by kernel_rfl)
    exact step_skip (by simp [Region.wanted, yielded, dg]) (hK.out _ _ trivial hJ (Below.refl _ _))
  refine StepsAt.cons _ rfl (fun u' W K' hJ hd hK => ?_) ?_
  · have d6 : u' 6 = .bool false := hd 6 (by kernel_rfl)
    refine step_value (v := .bool false) (W' := W) rfl ?_ (hK.out _ _ rfl hJ (Below.refl _ _))
    try dsimp only
    go_simp
  refine StepsAt.cons _ rfl (fun u' W K' hJ hd hK => ?_) StepsAt.nil
  · have d12 : u' 12 = .bool false := hd 12 (by kernel_rfl)
    refine step_value (v := .bool false) (W' := W) rfl ?_ (hK.out _ _ rfl hJ (Below.refl _ _))
    try dsimp only
    go_simp
  intro u' W' hJ' hok
  try dsimp only
  rw [show u' 13 = .bool false from hok 13 (by decide)]
  clear hok
  go_wp2
  go_ret
  exact ⟨ret_bool7 (by rw [same_off HC.out u]), below_next HB0.out hJ'⟩

set_option maxRecDepth 100000 in
set_option maxHeartbeats 4000000 in
theorem osame_half (t u : Sh) (q r : Ptr) (w : World) (hq : ShAt w w.heap.size q t) (hr : ShAt w w.heap.size r u) (hg : WGlobs w) (hc : check t = 0 ∧ check u ≠ 0) :
    Calls Tryd.prog 21 #[.agg #[.int .i64 t.kind, .string ⟨t.of_.toArray⟩, .string ⟨t.name.toArray⟩, .slice q.A t.names.length q.c, .slice q.P t.parts.length q.d], .agg #[.int .i64 u.kind, .string ⟨u.of_.toArray⟩, .string ⟨u.name.toArray⟩, .slice r.A u.names.length r.c, .slice r.P u.parts.length r.d]] w fun e w' => e = .returned (.bool (same t u)) ∧ Below w.heap.size w w' := by
  have HB1 := Lib.hid (((box5_new w t q).next (below_one _ _)) : Box5 ((w.alloc (.cells #[.int .i64 t.kind, .string ⟨t.of_.toArray⟩, .string ⟨t.name.toArray⟩, .slice q.A t.names.length q.c, .slice q.P t.parts.length q.d] 25)).alloc (.cells #[.int .i64 u.kind, .string ⟨u.of_.toArray⟩, .string ⟨u.name.toArray⟩, .slice r.A u.names.length r.c, .slice r.P u.parts.length r.d] 25)) w.heap.size t q)
  have HB2 : Hid (Box5 ((w.alloc (.cells #[.int .i64 t.kind, .string ⟨t.of_.toArray⟩, .string ⟨t.name.toArray⟩, .slice q.A t.names.length q.c, .slice q.P t.parts.length q.d] 25)).alloc (.cells #[.int .i64 u.kind, .string ⟨u.of_.toArray⟩, .string ⟨u.name.toArray⟩, .slice r.A u.names.length r.c, .slice r.P u.parts.length r.d] 25)) (w.heap.size + 1) u r) := by
    have h := box5_new (w.alloc (.cells #[.int .i64 t.kind, .string ⟨t.of_.toArray⟩, .string ⟨t.name.toArray⟩, .slice q.A t.names.length q.c, .slice q.P t.parts.length q.d] 25)) u r
    have e : (w.alloc (.cells #[.int .i64 t.kind, .string ⟨t.of_.toArray⟩, .string ⟨t.name.toArray⟩, .slice q.A t.names.length q.c, .slice q.P t.parts.length q.d] 25)).heap.size = w.heap.size + 1 := by simp
    rw [e] at h
    exact Lib.hid h
  have hb0 : Below w.heap.size w ((w.alloc (.cells #[.int .i64 t.kind, .string ⟨t.of_.toArray⟩, .string ⟨t.name.toArray⟩, .slice q.A t.names.length q.c, .slice q.P t.parts.length q.d] 25)).alloc (.cells #[.int .i64 u.kind, .string ⟨u.of_.toArray⟩, .string ⟨u.name.toArray⟩, .slice r.A u.names.length r.c, .slice r.P u.parts.length r.d] 25)) := below_new (below_one _ _) _
  have HQ := Lib.hid (hq.next hb0)
  have HR := Lib.hid (hr.next hb0)
  have HG := Lib.hid (hg.next hb0)
  have HB0 := Lib.hid hb0
  have HC := Lib.hid hc
  clear hq hr hg hb0 hc
  go_enter Tryd.func21, Tryd.ntmps21
  go_wp2_with fail
  generalize (w.alloc (.cells #[.int .i64 t.kind, .string ⟨t.of_.toArray⟩, .string ⟨t.name.toArray⟩, .slice q.A t.names.length q.c, .slice q.P t.parts.length q.d] 25)).alloc (.cells #[.int .i64 u.kind, .string ⟨u.of_.toArray⟩, .string ⟨u.name.toArray⟩, .slice r.A u.names.length r.c, .slice r.P u.parts.length r.d] 25) = W0 at HB1 HB2 HQ HR HG HB0 ⊢
  refine wp_orders (rs := [0, 1, 2, 3, 4, 5, 6, 7, 8, 9, 10, 11, 12, 13])
    (fun u' => { tmps := #[.agg #[.int .i64 t.kind, .string { data := t.of_.toArray }, .string { data := t.name.toArray }, .slice q.A t.names.length q.c, .slice q.P t.parts.length q.d], .agg #[.int .i64 u.kind, .string { data := u.of_.toArray }, .string { data := u.name.toArray }, .slice r.A u.names.length r.c, .slice r.P u.parts.length r.d], .pointer (some { block := w.heap.size, off := 0 }), .pointer (some { block := w.heap.size + 1, off := 0 }), u' 13, u' 0, u' 1, u' 2, u' 3, u' 4, u' 5, u' 6, u' 7, u' 8, u' 9, u' 10, u' 11, u' 12], defers := [] })
    (fun j => ([undef, undef, undef, undef, undef, undef, undef, undef, undef, undef, undef, undef, undef, .bool false] : List Value).getD j undef) (osame_halfT t u q r) (fun W => Below W0.heap.size W0 W) (by kernel_rfl) (by kernel_rfl) (by kernel_rfl) (Below.refl _ _).drew ?_ ?_
  refine StepsAt.cons _ rfl (fun u' W K' hJ hd hK => ?_) ?_
  · obtain ⟨_, ⟨y0, y1, y2, y3, y4⟩, _⟩ := HB1.out.next hJ
    simp only [Nat.zero_add] at y0 y1 y2 y3 y4
    refine step_value (v := .agg #[.int .i64 t.kind, .string ⟨t.of_.toArray⟩, .string ⟨t.name.toArray⟩, .slice q.A t.names.length q.c, .slice q.P t.parts.length q.d]) (W' := W) rfl ?_ (hK.out _ _ rfl hJ (Below.refl _ _))
    try dsimp only
    go_simp
  refine StepsAt.cons _ rfl (fun u' W K' hJ hd hK => ?_) ?_
  · have d0 : u' 0 = .agg #[.int .i64 t.kind, .string ⟨t.of_.toArray⟩, .string ⟨t.name.toArray⟩, .slice q.A t.names.length q.c, .slice q.P t.parts.length q.d] := hd 0 (by kernel_rfl)
    refine step_enter (f := 29) (args := #[.agg #[.int .i64 t.kind, .string ⟨t.of_.toArray⟩, .string ⟨t.name.toArray⟩, .slice q.A t.names.length q.c, .slice q.P t.parts.length q.d]]) (W' := W) rfl ?_ ((mayBe_walk t q W (HQ.out.next hJ) (HG.out.next hJ)).mono fun e w' h => ⟨_, h.1, hK.out _ _ (by rw [decide_eq_true HC.out.1]; rfl) (below_next hJ h.2) h.2⟩)
    try dsimp only
    go_simp
  refine StepsAt.cons _ rfl (fun u' W K' hJ hd hK => ?_) ?_
  · have d1 : u' 1 = .bool true := hd 1 (by kernel_rfl)
    refine step_value (v := .bool true) (W' := W) rfl ?_ (hK.out _ _ rfl hJ (Below.refl _ _))
    try dsimp only
    go_simp
  refine StepsAt.cons _ rfl (fun u' W K' hJ hd hK => ?_) ?_
  · have dg : u' 2 = .bool true := hd 2 (by kernel_rfl)
    obtain ⟨_, ⟨y0, y1, y2, y3, y4⟩, _⟩ := HB2.out.next hJ
    simp only [Nat.zero_add] at y0 y1 y2 y3 y4
    refine step_value (v := .agg #[.int .i64 u.kind, .string ⟨u.of_.toArray⟩, .string ⟨u.name.toArray⟩, .slice r.A u.names.length r.c, .slice r.P u.parts.length r.d]) (W' := W) ?_ ?_ (hK.out _ _ rfl hJ (Below.refl _ _))
    · simp [Region.wanted, yielded, dg]
    · try dsimp only
      go_simp
  refine StepsAt.cons _ rfl (fun u' W K' hJ hd hK => ?_) ?_
  · have dg : u' 2 = .bool true := hd 2 (by kernel_rfl)
    have d3 : u' 3 = .agg #[.int .i64 u.kind, .string ⟨u.of_.toArray⟩, .string ⟨u.name.toArray⟩, .slice r.A u.names.length r.c, .slice r.P u.parts.length r.d] := hd 3 (by kernel_rfl)
    refine step_enter (f := 29) (args := #[.agg #[.int .i64 u.kind, .string ⟨u.of_.toArray⟩, .string ⟨u.name.toArray⟩, .slice r.A u.names.length r.c, .slice r.P u.parts.length r.d]]) (W' := W) ?_ ?_ ((mayBe_walk u r W (HR.out.next hJ) (HG.out.next hJ)).mono fun e w' h => ⟨_, h.1, hK.out _ _ (by rw [decide_eq_false HC.out.2]; rfl) (below_next hJ h.2) h.2⟩)
    · simp [Region.wanted, yielded, dg]
    · try dsimp only
      go_simp
  refine StepsAt.cons _ rfl (fun u' W K' hJ hd hK => ?_) ?_
  · have d2 : u' 2 = .bool true := hd 2 (by kernel_rfl)
    have d4 : u' 4 = .bool false := hd 4 (by kernel_rfl)
    refine step_value (v := .bool false) (W' := W) rfl ?_ (hK.out _ _ rfl hJ (Below.refl _ _))
    try dsimp only
    go_simp
  refine StepsAt.cons _ rfl (fun u' W K' hJ hd hK => ?_) ?_
  · have d5 : u' 5 = .bool false := hd 5 (by kernel_rfl)
    refine step_value (v := .bool false) (W' := W) rfl ?_ (hK.out _ _ rfl hJ (Below.refl _ _))
    try dsimp only
    go_simp
  refine StepsAt.cons _ rfl (fun u' W K' hJ hd hK => ?_) ?_
  · have dg : u' 6 = .bool false := hd 6 (by kernel_rfl)
    exact step_skip (by simp [Region.wanted, yielded, dg]) (hK.out _ _ trivial hJ (Below.refl _ _))
  refine StepsAt.cons _ rfl (fun u' W K' hJ hd hK => ?_) ?_
  · have dg : u' 6 = .bool false := hd 6 (by kernel_rfl)
    exact step_skip (by simp [Region.wanted, yielded, dg]) (hK.out _ _ trivial hJ (Below.refl _ _))
  refine StepsAt.cons _ rfl (fun u' W K' hJ hd hK => ?_) ?_
  · have dg : u' 6 = .bool false := hd 6 (by kernel_rfl)
    exact step_skip (by simp [Region.wanted, yielded, dg]) (hK.out _ _ trivial hJ (Below.refl _ _))
  refine StepsAt.cons _ rfl (fun u' W K' hJ hd hK => ?_) ?_
  · have dg : u' 6 = .bool false := hd 6 (by kernel_rfl)
    exact step_skip (by simp [Region.wanted, yielded, dg]) (hK.out _ _ trivial hJ (Below.refl _ _))
  refine StepsAt.cons _ rfl (fun u' W K' hJ hd hK => ?_) ?_
  · have dg : u' 6 = .bool false := hd 6 (by kernel_rfl)
    exact step_skip (by simp [Region.wanted, yielded, dg]) (hK.out _ _ trivial hJ (Below.refl _ _))
  refine StepsAt.cons _ rfl (fun u' W K' hJ hd hK => ?_) ?_
  · have d6 : u' 6 = .bool false := hd 6 (by kernel_rfl)
    refine step_value (v := .bool false) (W' := W) rfl ?_ (hK.out _ _ rfl hJ (Below.refl _ _))
    try dsimp only
    go_simp
  refine StepsAt.cons _ rfl (fun u' W K' hJ hd hK => ?_) StepsAt.nil
  · have d12 : u' 12 = .bool false := hd 12 (by kernel_rfl)
    refine step_value (v := .bool false) (W' := W) rfl ?_ (hK.out _ _ rfl hJ (Below.refl _ _))
    try dsimp only
    go_simp
  intro u' W' hJ' hok
  try dsimp only
  rw [show u' 13 = .bool false from hok 13 (by decide)]
  clear hok
  go_wp2
  go_ret
  exact ⟨ret_bool7 (by rw [same_comm, same_off HC.out.2 t]), below_next HB0.out hJ'⟩

set_option maxRecDepth 100000 in
set_option maxHeartbeats 4000000 in
theorem osame_yes (t u : Sh) (q r : Ptr) (w : World) (hq : ShAt w w.heap.size q t) (hr : ShAt w w.heap.size r u) (hg : WGlobs w) (hc : check t = 0 ∧ check u = 0) :
    Calls Tryd.prog 21 #[.agg #[.int .i64 t.kind, .string ⟨t.of_.toArray⟩, .string ⟨t.name.toArray⟩, .slice q.A t.names.length q.c, .slice q.P t.parts.length q.d], .agg #[.int .i64 u.kind, .string ⟨u.of_.toArray⟩, .string ⟨u.name.toArray⟩, .slice r.A u.names.length r.c, .slice r.P u.parts.length r.d]] w fun e w' => e = .returned (.bool (same t u)) ∧ Below w.heap.size w w' := by
  have HB1 := Lib.hid (((box5_new w t q).next (below_one _ _)) : Box5 ((w.alloc (.cells #[.int .i64 t.kind, .string ⟨t.of_.toArray⟩, .string ⟨t.name.toArray⟩, .slice q.A t.names.length q.c, .slice q.P t.parts.length q.d] 25)).alloc (.cells #[.int .i64 u.kind, .string ⟨u.of_.toArray⟩, .string ⟨u.name.toArray⟩, .slice r.A u.names.length r.c, .slice r.P u.parts.length r.d] 25)) w.heap.size t q)
  have HB2 : Hid (Box5 ((w.alloc (.cells #[.int .i64 t.kind, .string ⟨t.of_.toArray⟩, .string ⟨t.name.toArray⟩, .slice q.A t.names.length q.c, .slice q.P t.parts.length q.d] 25)).alloc (.cells #[.int .i64 u.kind, .string ⟨u.of_.toArray⟩, .string ⟨u.name.toArray⟩, .slice r.A u.names.length r.c, .slice r.P u.parts.length r.d] 25)) (w.heap.size + 1) u r) := by
    have h := box5_new (w.alloc (.cells #[.int .i64 t.kind, .string ⟨t.of_.toArray⟩, .string ⟨t.name.toArray⟩, .slice q.A t.names.length q.c, .slice q.P t.parts.length q.d] 25)) u r
    have e : (w.alloc (.cells #[.int .i64 t.kind, .string ⟨t.of_.toArray⟩, .string ⟨t.name.toArray⟩, .slice q.A t.names.length q.c, .slice q.P t.parts.length q.d] 25)).heap.size = w.heap.size + 1 := by simp
    rw [e] at h
    exact Lib.hid h
  have hb0 : Below w.heap.size w ((w.alloc (.cells #[.int .i64 t.kind, .string ⟨t.of_.toArray⟩, .string ⟨t.name.toArray⟩, .slice q.A t.names.length q.c, .slice q.P t.parts.length q.d] 25)).alloc (.cells #[.int .i64 u.kind, .string ⟨u.of_.toArray⟩, .string ⟨u.name.toArray⟩, .slice r.A u.names.length r.c, .slice r.P u.parts.length r.d] 25)) := below_new (below_one _ _) _
  have HQ := Lib.hid (hq.next hb0)
  have HR := Lib.hid (hr.next hb0)
  have HG := Lib.hid (hg.next hb0)
  have HB0 := Lib.hid hb0
  have HC := Lib.hid hc
  clear hq hr hg hb0 hc
  go_enter Tryd.func21, Tryd.ntmps21
  go_wp2_with fail
  generalize (w.alloc (.cells #[.int .i64 t.kind, .string ⟨t.of_.toArray⟩, .string ⟨t.name.toArray⟩, .slice q.A t.names.length q.c, .slice q.P t.parts.length q.d] 25)).alloc (.cells #[.int .i64 u.kind, .string ⟨u.of_.toArray⟩, .string ⟨u.name.toArray⟩, .slice r.A u.names.length r.c, .slice r.P u.parts.length r.d] 25) = W0 at HB1 HB2 HQ HR HG HB0 ⊢
  refine wp_orders (rs := [0, 1, 2, 3, 4, 5, 6, 7, 8, 9, 10, 11, 12, 13])
    (fun u' => { tmps := #[.agg #[.int .i64 t.kind, .string { data := t.of_.toArray }, .string { data := t.name.toArray }, .slice q.A t.names.length q.c, .slice q.P t.parts.length q.d], .agg #[.int .i64 u.kind, .string { data := u.of_.toArray }, .string { data := u.name.toArray }, .slice r.A u.names.length r.c, .slice r.P u.parts.length r.d], .pointer (some { block := w.heap.size, off := 0 }), .pointer (some { block := w.heap.size + 1, off := 0 }), u' 13, u' 0, u' 1, u' 2, u' 3, u' 4, u' 5, u' 6, u' 7, u' 8, u' 9, u' 10, u' 11, u' 12], defers := [] })
    (fun j => ([undef, undef, undef, undef, undef, undef, undef, undef, undef, undef, undef, undef, undef, .bool false] : List Value).getD j undef) (osame_yesT t u q r) (fun W => Below W0.heap.size W0 W) (by kernel_rfl) (by kernel_rfl) (by kernel_rfl) (Below.refl _ _).drew ?_ ?_
  refine StepsAt.cons _ rfl (fun u' W K' hJ hd hK => ?_) ?_
  · obtain ⟨_, ⟨y0, y1, y2, y3, y4⟩, _⟩ := HB1.out.next hJ
    simp only [Nat.zero_add] at y0 y1 y2 y3 y4
    refine step_value (v := .agg #[.int .i64 t.kind, .string ⟨t.of_.toArray⟩, .string ⟨t.name.toArray⟩, .slice q.A t.names.length q.c, .slice q.P t.parts.length q.d]) (W' := W) rfl ?_ (hK.out _ _ rfl hJ (Below.refl _ _))
    try dsimp only
    go_simp
  refine StepsAt.cons _ rfl (fun u' W K' hJ hd hK => ?_) ?_
  · have d0 : u' 0 = .agg #[.int .i64 t.kind, .string ⟨t.of_.toArray⟩, .string ⟨t.name.toArray⟩, .slice q.A t.names.length q.c, .slice q.P t.parts.length q.d] := hd 0 (by kernel_rfl)
    refine step_enter (f := 29) (args := #[.agg #[.int .i64 t.kind, .string ⟨t.of_.toArray⟩, .string ⟨t.name.toArray⟩, .slice q.A t.names.length q.c, .slice q.P t.parts.length q.d]]) (W' := W) rfl ?_ ((mayBe_walk t q W (HQ.out.next hJ) (HG.out.next hJ)).mono fun e w' h => ⟨_, h.1, hK.out _ _ (by rw [decide_eq_true HC.out.1]; rfl) (below_next hJ h.2) h.2⟩)
    try dsimp only
    go_simp
  refine StepsAt.cons _ rfl (fun u' W K' hJ hd hK => ?_) ?_
  · have d1 : u' 1 = .bool true := hd 1 (by kernel_rfl)
    refine step_value (v := .bool true) (W' := W) rfl ?_ (hK.out _ _ rfl hJ (Below.refl _ _))
    try dsimp only
    go_simp
  refine StepsAt.cons _ rfl (fun u' W K' hJ hd hK => ?_) ?_
  · have dg : u' 2 = .bool true := hd 2 (by kernel_rfl)
    obtain ⟨_, ⟨y0, y1, y2, y3, y4⟩, _⟩ := HB2.out.next hJ
    simp only [Nat.zero_add] at y0 y1 y2 y3 y4
    refine step_value (v := .agg #[.int .i64 u.kind, .string ⟨u.of_.toArray⟩, .string ⟨u.name.toArray⟩, .slice r.A u.names.length r.c, .slice r.P u.parts.length r.d]) (W' := W) ?_ ?_ (hK.out _ _ rfl hJ (Below.refl _ _))
    · simp [Region.wanted, yielded, dg]
    · try dsimp only
      go_simp
  refine StepsAt.cons _ rfl (fun u' W K' hJ hd hK => ?_) ?_
  · have dg : u' 2 = .bool true := hd 2 (by kernel_rfl)
    have d3 : u' 3 = .agg #[.int .i64 u.kind, .string ⟨u.of_.toArray⟩, .string ⟨u.name.toArray⟩, .slice r.A u.names.length r.c, .slice r.P u.parts.length r.d] := hd 3 (by kernel_rfl)
    refine step_enter (f := 29) (args := #[.agg #[.int .i64 u.kind, .string ⟨u.of_.toArray⟩, .string ⟨u.name.toArray⟩, .slice r.A u.names.length r.c, .slice r.P u.parts.length r.d]]) (W' := W) ?_ ?_ ((mayBe_walk u r W (HR.out.next hJ) (HG.out.next hJ)).mono fun e w' h => ⟨_, h.1, hK.out _ _ (by rw [decide_eq_true HC.out.2]; rfl) (below_next hJ h.2) h.2⟩)
    · simp [Region.wanted, yielded, dg]
    · try dsimp only
      go_simp
  refine StepsAt.cons _ rfl (fun u' W K' hJ hd hK => ?_) ?_
  · have d2 : u' 2 = .bool true := hd 2 (by kernel_rfl)
    have d4 : u' 4 = .bool true := hd 4 (by kernel_rfl)
    refine step_value (v := .bool true) (W' := W) rfl ?_ (hK.out _ _ rfl hJ (Below.refl _ _))
    try dsimp only
    go_simp
  refine StepsAt.cons _ rfl (fun u' W K' hJ hd hK => ?_) ?_
  · have d5 : u' 5 = .bool true := hd 5 (by kernel_rfl)
    refine step_value (v := .bool true) (W' := W) rfl ?_ (hK.out _ _ rfl hJ (Below.refl _ _))
    try dsimp only
    go_simp
  refine StepsAt.cons _ rfl (fun u' W K' hJ hd hK => ?_) ?_
  · have dg : u' 6 = .bool true := hd 6 (by kernel_rfl)
    obtain ⟨_, ⟨y0, y1, y2, y3, y4⟩, _⟩ := HB1.out.next hJ
    simp only [Nat.zero_add] at y0 y1 y2 y3 y4
    refine step_value (v := .agg #[.int .i64 t.kind, .string ⟨t.of_.toArray⟩, .string ⟨t.name.toArray⟩, .slice q.A t.names.length q.c, .slice q.P t.parts.length q.d]) (W' := W) ?_ ?_ (hK.out _ _ rfl hJ (Below.refl _ _))
    · simp [Region.wanted, yielded, dg]
    · try dsimp only
      go_simp
  refine StepsAt.cons _ rfl (fun u' W K' hJ hd hK => ?_) ?_
  · have dg : u' 6 = .bool true := hd 6 (by kernel_rfl)
    have d7 : u' 7 = .agg #[.int .i64 t.kind, .string ⟨t.of_.toArray⟩, .string ⟨t.name.toArray⟩, .slice q.A t.names.length q.c, .slice q.P t.parts.length q.d] := hd 7 (by kernel_rfl)
    refine step_enter (f := 19) (args := #[.agg #[.int .i64 t.kind, .string ⟨t.of_.toArray⟩, .string ⟨t.name.toArray⟩, .slice q.A t.names.length q.c, .slice q.P t.parts.length q.d]]) (W' := W) ?_ ?_ ((oSort_walk t q W (HQ.out.next hJ) (HG.out.next hJ) HC.out.1).mono fun e w' ⟨q', he, ha, hb⟩ => ⟨_, he, hK.out _ _ ⟨q', rfl, ha⟩ (below_next hJ hb) hb⟩)
    · simp [Region.wanted, yielded, dg]
    · try dsimp only
      go_simp
  refine StepsAt.cons _ rfl (fun u' W K' hJ hd hK => ?_) ?_
  · have dg : u' 6 = .bool true := hd 6 (by kernel_rfl)
    obtain ⟨_, ⟨y0, y1, y2, y3, y4⟩, _⟩ := HB2.out.next hJ
    simp only [Nat.zero_add] at y0 y1 y2 y3 y4
    refine step_value (v := .agg #[.int .i64 u.kind, .string ⟨u.of_.toArray⟩, .string ⟨u.name.toArray⟩, .slice r.A u.names.length r.c, .slice r.P u.parts.length r.d]) (W' := W) ?_ ?_ (hK.out _ _ rfl hJ (Below.refl _ _))
    · simp [Region.wanted, yielded, dg]
    · try dsimp only
      go_simp
  refine StepsAt.cons _ rfl (fun u' W K' hJ hd hK => ?_) ?_
  · have dg : u' 6 = .bool true := hd 6 (by kernel_rfl)
    have d9 : u' 9 = .agg #[.int .i64 u.kind, .string ⟨u.of_.toArray⟩, .string ⟨u.name.toArray⟩, .slice r.A u.names.length r.c, .slice r.P u.parts.length r.d] := hd 9 (by kernel_rfl)
    refine step_enter (f := 19) (args := #[.agg #[.int .i64 u.kind, .string ⟨u.of_.toArray⟩, .string ⟨u.name.toArray⟩, .slice r.A u.names.length r.c, .slice r.P u.parts.length r.d]]) (W' := W) ?_ ?_ ((oSort_walk u r W (HR.out.next hJ) (HG.out.next hJ) HC.out.2).mono fun e w' ⟨q', he, ha, hb⟩ => ⟨_, he, hK.out _ _ ⟨q', rfl, ha⟩ (below_next hJ hb) hb⟩)
    · simp [Region.wanted, yielded, dg]
    · try dsimp only
      go_simp
  refine StepsAt.cons _ rfl (fun u' W K' hJ hd hK => ?_) ?_
  · have dg : u' 6 = .bool true := hd 6 (by kernel_rfl)
    obtain ⟨qt, d8, at1⟩ := hd 8 (by kernel_rfl)
    obtain ⟨qu, d10, au⟩ := hd 10 (by kernel_rfl)
    refine step_enter (f := 35) (args := #[.agg #[.int .i64 (sorted t).kind, .string ⟨(sorted t).of_.toArray⟩, .string ⟨(sorted t).name.toArray⟩, .slice qt.A (sorted t).names.length qt.c, .slice qt.P (sorted t).parts.length qt.d], .agg #[.int .i64 (sorted u).kind, .string ⟨(sorted u).of_.toArray⟩, .string ⟨(sorted u).name.toArray⟩, .slice qu.A (sorted u).names.length qu.c, .slice qu.P (sorted u).parts.length qu.d]]) (W' := W) ?_ ?_ ((oequal_walk (sorted t) (sorted u) qt qu W at1 au).mono fun e w' h => ⟨_, h.1, hK.out _ _ rfl (below_next hJ h.2) h.2⟩)
    · simp [Region.wanted, yielded, dg]
    · try dsimp only
      go_simp
  refine StepsAt.cons _ rfl (fun u' W K' hJ hd hK => ?_) ?_
  · have d6 : u' 6 = .bool true := hd 6 (by kernel_rfl)
    have d11 : u' 11 = .bool (eqB (sorted t) (sorted u)) := hd 11 (by kernel_rfl)
    refine step_value (v := .bool (eqB (sorted t) (sorted u))) (W' := W) rfl ?_ (hK.out _ _ rfl hJ (Below.refl _ _))
    try dsimp only
    go_simp
  refine StepsAt.cons _ rfl (fun u' W K' hJ hd hK => ?_) StepsAt.nil
  · have d12 : u' 12 = .bool (eqB (sorted t) (sorted u)) := hd 12 (by kernel_rfl)
    refine step_value (v := .bool (eqB (sorted t) (sorted u))) (W' := W) rfl ?_ (hK.out _ _ rfl hJ (Below.refl _ _))
    try dsimp only
    go_simp
  intro u' W' hJ' hok
  try dsimp only
  rw [show u' 13 = .bool (eqB (sorted t) (sorted u)) from hok 13 (by decide)]
  clear hok
  go_wp2
  go_ret
  exact ⟨ret_bool7 (by unfold same; rw [decide_eq_true HC.out.1, decide_eq_true HC.out.2]; rfl), below_next HB0.out hJ'⟩

theorem osame_walk (t u : Sh) (q r : Ptr) (w : World) (hq : ShAt w w.heap.size q t) (hr : ShAt w w.heap.size r u) (hg : WGlobs w) :
    Calls Tryd.prog 21 #[.agg #[.int .i64 t.kind, .string ⟨t.of_.toArray⟩, .string ⟨t.name.toArray⟩, .slice q.A t.names.length q.c, .slice q.P t.parts.length q.d], .agg #[.int .i64 u.kind, .string ⟨u.of_.toArray⟩, .string ⟨u.name.toArray⟩, .slice r.A u.names.length r.c, .slice r.P u.parts.length r.d]] w fun e w' => e = .returned (.bool (same t u)) ∧ Below w.heap.size w w' := by
  by_cases h1 : check t = 0
  · by_cases h2 : check u = 0
    · exact osame_yes t u q r w hq hr hg ⟨h1, h2⟩
    · exact osame_half t u q r w hq hr hg ⟨h1, h2⟩
  · exact osame_no t u q r w hq hr hg h1
end Go.Proofs.YtkehnmapnckdgaaDoor
