/- The document's Sort and Same. -/
import Derived.Test.YtkehnmapnckdgaaDoorShpU3
import Derived.Test.YtkehnmapnckdgaaDoorShpF8
import Derived.Test.YtkehnmapnckdgaaDoorGR
import Derived.Test.YtkehnmapnckdgaaDoorGR5
namespace Go.Proofs.YtkehnmapnckdgaaDoor
open Go.RowKit Shp
set_option linter.unusedVariables false
set_option linter.unusedSimpArgs false

set_option maxRecDepth 100000 in
set_option maxHeartbeats 2000000 in
theorem rSort_walk (t : Sh) (q : Ptr) (w : World) (hq : ShAt w w.heap.size q t) (hck : check t = 0) :
    Calls Tryd.prog 20 #[.agg #[.int .i64 t.kind, .string ⟨t.of_.toArray⟩, .string ⟨t.name.toArray⟩, .slice q.A t.names.length q.c, .slice q.P t.parts.length q.d]] w fun e w' => ∃ q', e = .returned (.agg #[.int .i64 (sorted t).kind, .string ⟨(sorted t).of_.toArray⟩, .string ⟨(sorted t).name.toArray⟩, .slice q'.A (sorted t).names.length q'.c, .slice q'.P (sorted t).parts.length q'.d]) ∧ ShAt w' w'.heap.size q' (sorted t) ∧ Below w.heap.size w w' := by
  obtain ⟨hz, _, hr⟩ := check_ok hck
  have HS := Lib.hid (sW_below w t q)
  have HB := Lib.hid (sW_arg w t q)
  have HE := Lib.hid (sW_res w t q)
  have hc := rcheck_walk t q (sW w t q) (hq.next (sW_below w t q))
  rw [hck] at hc
  have HC := Lib.hid hc
  have HQ := Lib.hid hq
  have HR := Lib.hid hr
  have HB0 := Lib.hid (box5_new w t q)
  obtain ⟨b1, ⟨c0, c1, c2, c3, c4⟩, b2⟩ := HB0.out
  clear hq hr hck hc b1 b2
  go_enter Tryd.func20, Tryd.ntmps20
  go_wp2_with fail
  clear c0 c1 c2 c3 c4 HB0
  change Calls _ _ _ (sW w t q) _
  generalize sW w t q = W at HS HB HE HC ⊢
  refine HC.out.mono ?_
  rintro e w1 ⟨rfl, hb1⟩
  have HS1 := Lib.hid (below_next HS.out hb1)
  have HB1 := Lib.hid (HB.out.next hb1)
  have HE1 := Lib.hid (HE.out.next hb1)
  have HW := Lib.hid (rsorted_walk t q w1 (HQ.out.next HS1.out) HR.out hz)
  obtain ⟨b1, ⟨c0, c1, c2, c3, c4⟩, b2⟩ := HB1.out
  clear hb1 HC b1 b2
  go_wp2_with fail
  refine HW.out.mono ?_
  rintro e w2 ⟨q', F, rfl, ho, hF, hb2⟩
  have HS2 := Lib.hid (below_next HS1.out hb2)
  have HE2 := Lib.hid (HE1.out.next hb2)
  have HO := Lib.hid ho
  have HNF : Hid (∀ b ∈ F, w.heap.size + 1 ≠ b) := Lib.hid (fun b hb e => by have := hF b hb; have := HE1.out.1; omega)
  obtain ⟨z, hz'⟩ : ∃ z, z = sorted t := ⟨_, rfl⟩
  rw [← hz'] at HO ⊢
  have HZ := Lib.hid hz'
  obtain ⟨b1, ⟨r0, r1, r2, r3, r4⟩, f0, f1, f2, f3, f4⟩ := HE2.out
  simp only [Nat.zero_add] at r0 r1 r2 r3 r4
  clear ho hF hb2 HW c0 c1 c2 c3 c4 b1 hz'
  go_wp2
  refine bodyPost_ret (v := .agg #[.int .i64 z.kind, .string ⟨z.of_.toArray⟩, .string ⟨z.name.toArray⟩, .slice q'.A z.names.length q'.c, .slice q'.P z.parts.length q'.d]) (by simp [results, Tryd.results20, go_sem, r0, r1, r2, r3, r4]) rfl ?_
  have h5 := own_set5 (b := w.heap.size + 1) HO.out HNF.out (.int .i64 z.kind) (.string ⟨z.of_.toArray⟩) (.string ⟨z.name.toArray⟩) (.slice q'.A z.names.length q'.c) (.slice q'.P z.parts.length q'.d)
  have h6 := below_put5 (b := w.heap.size + 1) HS2.out (by omega) (.int .i64 z.kind) (.string ⟨z.of_.toArray⟩) (.string ⟨z.name.toArray⟩) (.slice q'.A z.names.length q'.c) (.slice q'.P z.parts.length q'.d)
  refine ⟨q', by rw [← HZ.out], ?_, h6⟩
  rw [← HZ.out]
  exact h5.at_ h5.lt

def rsame_noT (t u : Sh) (q r : Ptr) : Nat → Want
  | 0 => .val (.agg #[.int .i64 t.kind, .string ⟨t.of_.toArray⟩, .string ⟨t.name.toArray⟩, .slice q.A t.names.length q.c, .slice q.P t.parts.length q.d])
  | 1 => .val (.int .i64 (check t))
  | 2 => .val (.bool false)
  | 3 => .val (.bool false)
  | 7 => .val (.bool false)
  | 8 => .val (.bool false)
  | 14 => .val (.bool false)
  | 15 => .val (.bool false)
  | _ => .any

def rsame_halfT (t u : Sh) (q r : Ptr) : Nat → Want
  | 0 => .val (.agg #[.int .i64 t.kind, .string ⟨t.of_.toArray⟩, .string ⟨t.name.toArray⟩, .slice q.A t.names.length q.c, .slice q.P t.parts.length q.d])
  | 1 => .val (.int .i64 (check t))
  | 2 => .val (.bool true)
  | 3 => .val (.bool true)
  | 4 => .val (.agg #[.int .i64 u.kind, .string ⟨u.of_.toArray⟩, .string ⟨u.name.toArray⟩, .slice r.A u.names.length r.c, .slice r.P u.parts.length r.d])
  | 5 => .val (.int .i64 (check u))
  | 6 => .val (.bool false)
  | 7 => .val (.bool false)
  | 8 => .val (.bool false)
  | 14 => .val (.bool false)
  | 15 => .val (.bool false)
  | _ => .any

def rsame_yesT (t u : Sh) (q r : Ptr) : Nat → Want
  | 0 => .val (.agg #[.int .i64 t.kind, .string ⟨t.of_.toArray⟩, .string ⟨t.name.toArray⟩, .slice q.A t.names.length q.c, .slice q.P t.parts.length q.d])
  | 1 => .val (.int .i64 (check t))
  | 2 => .val (.bool true)
  | 3 => .val (.bool true)
  | 4 => .val (.agg #[.int .i64 u.kind, .string ⟨u.of_.toArray⟩, .string ⟨u.name.toArray⟩, .slice r.A u.names.length r.c, .slice r.P u.parts.length r.d])
  | 5 => .val (.int .i64 (check u))
  | 6 => .val (.bool true)
  | 7 => .val (.bool true)
  | 8 => .val (.bool true)
  | 9 => .val (.agg #[.int .i64 t.kind, .string ⟨t.of_.toArray⟩, .string ⟨t.name.toArray⟩, .slice q.A t.names.length q.c, .slice q.P t.parts.length q.d])
  | 10 => wantSh (sorted t)
  | 11 => .val (.agg #[.int .i64 u.kind, .string ⟨u.of_.toArray⟩, .string ⟨u.name.toArray⟩, .slice r.A u.names.length r.c, .slice r.P u.parts.length r.d])
  | 12 => wantSh (sorted u)
  | 13 => .val (.bool (eqB (sorted t) (sorted u)))
  | 14 => .val (.bool (eqB (sorted t) (sorted u)))
  | 15 => .val (.bool (eqB (sorted t) (sorted u)))
  | _ => .any

set_option maxRecDepth 100000 in
set_option maxHeartbeats 4000000 in
theorem rsame_no (t u : Sh) (q r : Ptr) (w : World) (hq : ShAt w w.heap.size q t) (hr : ShAt w w.heap.size r u) (hc : check t ≠ 0) :
    Calls Tryd.prog 22 #[.agg #[.int .i64 t.kind, .string ⟨t.of_.toArray⟩, .string ⟨t.name.toArray⟩, .slice q.A t.names.length q.c, .slice q.P t.parts.length q.d], .agg #[.int .i64 u.kind, .string ⟨u.of_.toArray⟩, .string ⟨u.name.toArray⟩, .slice r.A u.names.length r.c, .slice r.P u.parts.length r.d]] w fun e w' => e = .returned (.bool (same t u)) ∧ Below w.heap.size w w' := by
  have HB1 := Lib.hid (((box5_new w t q).next (below_one _ _)) : Box5 ((w.alloc (.cells #[.int .i64 t.kind, .string ⟨t.of_.toArray⟩, .string ⟨t.name.toArray⟩, .slice q.A t.names.length q.c, .slice q.P t.parts.length q.d] 25)).alloc (.cells #[.int .i64 u.kind, .string ⟨u.of_.toArray⟩, .string ⟨u.name.toArray⟩, .slice r.A u.names.length r.c, .slice r.P u.parts.length r.d] 25)) w.heap.size t q)
  have HB2 : Hid (Box5 ((w.alloc (.cells #[.int .i64 t.kind, .string ⟨t.of_.toArray⟩, .string ⟨t.name.toArray⟩, .slice q.A t.names.length q.c, .slice q.P t.parts.length q.d] 25)).alloc (.cells #[.int .i64 u.kind, .string ⟨u.of_.toArray⟩, .string ⟨u.name.toArray⟩, .slice r.A u.names.length r.c, .slice r.P u.parts.length r.d] 25)) (w.heap.size + 1) u r) := by
    have h := box5_new (w.alloc (.cells #[.int .i64 t.kind, .string ⟨t.of_.toArray⟩, .string ⟨t.name.toArray⟩, .slice q.A t.names.length q.c, .slice q.P t.parts.length q.d] 25)) u r
    have e : (w.alloc (.cells #[.int .i64 t.kind, .string ⟨t.of_.toArray⟩, .string ⟨t.name.toArray⟩, .slice q.A t.names.length q.c, .slice q.P t.parts.length q.d] 25)).heap.size = w.heap.size + 1 := by simp
    rw [e] at h
    exact Lib.hid h
  have hb0 : Below w.heap.size w ((w.alloc (.cells #[.int .i64 t.kind, .string ⟨t.of_.toArray⟩, .string ⟨t.name.toArray⟩, .slice q.A t.names.length q.c, .slice q.P t.parts.length q.d] 25)).alloc (.cells #[.int .i64 u.kind, .string ⟨u.of_.toArray⟩, .string ⟨u.name.toArray⟩, .slice r.A u.names.length r.c, .slice r.P u.parts.length r.d] 25)) := below_new (below_one _ _) _
  have HQ := Lib.hid (hq.next hb0)
  have HR := Lib.hid (hr.next hb0)
  have HB0 := Lib.hid hb0
  have HC := Lib.hid hc
  clear hq hr hb0 hc
  go_enter Tryd.func22, Tryd.ntmps22
  go_wp2_with fail
  generalize (w.alloc (.cells #[.int .i64 t.kind, .string ⟨t.of_.toArray⟩, .string ⟨t.name.toArray⟩, .slice q.A t.names.length q.c, .slice q.P t.parts.length q.d] 25)).alloc (.cells #[.int .i64 u.kind, .string ⟨u.of_.toArray⟩, .string ⟨u.name.toArray⟩, .slice r.A u.names.length r.c, .slice r.P u.parts.length r.d] 25) = W0 at HB1 HB2 HQ HR HB0 ⊢
  refine wp_orders (rs := [0, 1, 2, 3, 4, 5, 6, 7, 8, 9, 10, 11, 12, 13, 14, 15])
    (fun u' => { tmps := #[.agg #[.int .i64 t.kind, .string { data := t.of_.toArray }, .string { data := t.name.toArray }, .slice q.A t.names.length q.c, .slice q.P t.parts.length q.d], .agg #[.int .i64 u.kind, .string { data := u.of_.toArray }, .string { data := u.name.toArray }, .slice r.A u.names.length r.c, .slice r.P u.parts.length r.d], .pointer (some { block := w.heap.size, off := 0 }), .pointer (some { block := w.heap.size + 1, off := 0 }), u' 15, u' 0, u' 1, u' 2, u' 3, u' 4, u' 5, u' 6, u' 7, u' 8, u' 9, u' 10, u' 11, u' 12, u' 13, u' 14], defers := [] })
    (fun j => ([undef, undef, undef, undef, undef, undef, undef, undef, undef, undef, undef, undef, undef, undef, undef, .bool false] : List Value).getD j undef) (rsame_noT t u q r) (fun W => Below W0.heap.size W0 W) (by kernel_rfl) (by kernel_rfl) (by kernel_rfl) (Below.refl _ _).drew ?_ ?_
  refine StepsAt.cons _ rfl (fun u' W K' hJ hd hK => ?_) ?_
  · obtain ⟨_, ⟨y0, y1, y2, y3, y4⟩, _⟩ := HB1.out.next hJ
    simp only [Nat.zero_add] at y0 y1 y2 y3 y4
    refine step_value (v := .agg #[.int .i64 t.kind, .string ⟨t.of_.toArray⟩, .string ⟨t.name.toArray⟩, .slice q.A t.names.length q.c, .slice q.P t.parts.length q.d]) (W' := W) rfl ?_ (hK.out _ _ rfl hJ (Below.refl _ _))
    try dsimp only
    go_simp
    try omega
  refine StepsAt.cons _ rfl (fun u' W K' hJ hd hK => ?_) ?_
  · have d0 : u' 0 = .agg #[.int .i64 t.kind, .string ⟨t.of_.toArray⟩, .string ⟨t.name.toArray⟩, .slice q.A t.names.length q.c, .slice q.P t.parts.length q.d] := hd 0 (by kernel_rfl)
    refine step_enter (f := 12) (args := #[.agg #[.int .i64 t.kind, .string ⟨t.of_.toArray⟩, .string ⟨t.name.toArray⟩, .slice q.A t.names.length q.c, .slice q.P t.parts.length q.d]]) (W' := W) rfl ?_ ((rcheck_walk t q W (HQ.out.next hJ)).mono fun e w' h => ⟨_, h.1, hK.out _ _ rfl (below_next hJ h.2) h.2⟩)
    try dsimp only
    go_simp
    try omega
  refine StepsAt.cons _ rfl (fun u' W K' hJ hd hK => ?_) ?_
  · have d1 : u' 1 = .int .i64 (check t) := hd 1 (by kernel_rfl)
    have e1 : (check t == 0) = false := beq_eq_false_iff_ne.2 HC.out
    refine step_value (v := .bool false) (W' := W) rfl ?_ (hK.out _ _ rfl hJ (Below.refl _ _))
    try dsimp only
    go_simp
    try omega
  refine StepsAt.cons _ rfl (fun u' W K' hJ hd hK => ?_) ?_
  · have d2 : u' 2 = .bool false := hd 2 (by kernel_rfl)
    refine step_value (v := .bool false) (W' := W) rfl ?_ (hK.out _ _ rfl hJ (Below.refl _ _))
    try dsimp only
    go_simp
    try omega
  refine StepsAt.cons _ rfl (fun u' W K' hJ hd hK => ?_) ?_
  · have dg : u' 3 = .bool false := hd 3 (by kernel_rfl)
    exact step_skip (by simp [Region.wanted, yielded, dg]) (hK.out _ _ trivial hJ (Below.refl _ _))
  refine StepsAt.cons _ rfl (fun u' W K' hJ hd hK => ?_) ?_
  · have dg : u' 3 = .bool false := hd 3 (by kernel_rfl)
    exact step_skip (by simp [Region.wanted, yielded, dg]) (hK.out _ _ trivial hJ (Below.refl _ _))
  refine StepsAt.cons _ rfl (fun u' W K' hJ hd hK => ?_) ?_
  · have dg : u' 3 = .bool false := hd 3 (by kernel_rfl)
    exact step_skip (by simp [Region.wanted, yielded, dg]) (hK.out _ _ trivial hJ (Below.refl _ _))
  refine StepsAt.cons _ rfl (fun u' W K' hJ hd hK => ?_) ?_
  · have d3 : u' 3 = .bool false := hd 3 (by kernel_rfl)
    refine step_value (v := .bool false) (W' := W) rfl ?_ (hK.out _ _ rfl hJ (Below.refl _ _))
    try dsimp only
    go_simp
    try omega
  refine StepsAt.cons _ rfl (fun u' W K' hJ hd hK => ?_) ?_
  · have d7 : u' 7 = .bool false := hd 7 (by kernel_rfl)
    refine step_value (v := .bool false) (W' := W) rfl ?_ (hK.out _ _ rfl hJ (Below.refl _ _))
    try dsimp only
    go_simp
    try omega
  refine StepsAt.cons _ rfl (fun u' W K' hJ hd hK => ?_) ?_
  · have dg : u' 8 = .bool false := hd 8 (by kernel_rfl)
    exact step_skip (by simp [Region.wanted, yielded, dg]) (hK.out _ _ trivial hJ (Below.refl _ _))
  refine StepsAt.cons _ rfl (fun u' W K' hJ hd hK => ?_) ?_
  · have dg : u' 8 = .bool false := hd 8 (by kernel_rfl)
    exact step_skip (by simp [Region.wanted, yielded, dg]) (hK.out _ _ trivial hJ (Below.refl _ _))
  refine StepsAt.cons _ rfl (fun u' W K' hJ hd hK => ?_) ?_
  · have dg : u' 8 = .bool false := hd 8 (by kernel_rfl)
    exact step_skip (by simp [Region.wanted, yielded, dg]) (hK.out _ _ trivial hJ (Below.refl _ _))
  refine StepsAt.cons _ rfl (fun u' W K' hJ hd hK => ?_) ?_
  · have dg : u' 8 = .bool false := hd 8 (by kernel_rfl)
    exact step_skip (by simp [Region.wanted, yielded, dg]) (hK.out _ _ trivial hJ (Below.refl _ _))
  refine StepsAt.cons _ rfl (fun u' W K' hJ hd hK => ?_) ?_
  · have dg : u' 8 = .bool false := hd 8 (by kernel_rfl)
    exact step_skip (by simp [Region.wanted, yielded, dg]) (hK.out _ _ trivial hJ (Below.refl _ _))
  refine StepsAt.cons _ rfl (fun u' W K' hJ hd hK => ?_) ?_
  · have d8 : u' 8 = .bool false := hd 8 (by kernel_rfl)
    refine step_value (v := .bool false) (W' := W) rfl ?_ (hK.out _ _ rfl hJ (Below.refl _ _))
    try dsimp only
    go_simp
    try omega
  refine StepsAt.cons _ rfl (fun u' W K' hJ hd hK => ?_) StepsAt.nil
  · have d14 : u' 14 = .bool false := hd 14 (by kernel_rfl)
    refine step_value (v := .bool false) (W' := W) rfl ?_ (hK.out _ _ rfl hJ (Below.refl _ _))
    try dsimp only
    go_simp
    try omega
  intro u' W' hJ' hok
  try dsimp only
  rw [show u' 15 = .bool false from hok 15 (by decide)]
  clear hok
  go_wp2
  go_ret
  exact ⟨ret_bool7 (by rw [same_off HC.out u]), below_next HB0.out hJ'⟩

set_option maxRecDepth 100000 in
set_option maxHeartbeats 4000000 in
theorem rsame_half (t u : Sh) (q r : Ptr) (w : World) (hq : ShAt w w.heap.size q t) (hr : ShAt w w.heap.size r u) (hc : check t = 0 ∧ check u ≠ 0) :
    Calls Tryd.prog 22 #[.agg #[.int .i64 t.kind, .string ⟨t.of_.toArray⟩, .string ⟨t.name.toArray⟩, .slice q.A t.names.length q.c, .slice q.P t.parts.length q.d], .agg #[.int .i64 u.kind, .string ⟨u.of_.toArray⟩, .string ⟨u.name.toArray⟩, .slice r.A u.names.length r.c, .slice r.P u.parts.length r.d]] w fun e w' => e = .returned (.bool (same t u)) ∧ Below w.heap.size w w' := by
  have HB1 := Lib.hid (((box5_new w t q).next (below_one _ _)) : Box5 ((w.alloc (.cells #[.int .i64 t.kind, .string ⟨t.of_.toArray⟩, .string ⟨t.name.toArray⟩, .slice q.A t.names.length q.c, .slice q.P t.parts.length q.d] 25)).alloc (.cells #[.int .i64 u.kind, .string ⟨u.of_.toArray⟩, .string ⟨u.name.toArray⟩, .slice r.A u.names.length r.c, .slice r.P u.parts.length r.d] 25)) w.heap.size t q)
  have HB2 : Hid (Box5 ((w.alloc (.cells #[.int .i64 t.kind, .string ⟨t.of_.toArray⟩, .string ⟨t.name.toArray⟩, .slice q.A t.names.length q.c, .slice q.P t.parts.length q.d] 25)).alloc (.cells #[.int .i64 u.kind, .string ⟨u.of_.toArray⟩, .string ⟨u.name.toArray⟩, .slice r.A u.names.length r.c, .slice r.P u.parts.length r.d] 25)) (w.heap.size + 1) u r) := by
    have h := box5_new (w.alloc (.cells #[.int .i64 t.kind, .string ⟨t.of_.toArray⟩, .string ⟨t.name.toArray⟩, .slice q.A t.names.length q.c, .slice q.P t.parts.length q.d] 25)) u r
    have e : (w.alloc (.cells #[.int .i64 t.kind, .string ⟨t.of_.toArray⟩, .string ⟨t.name.toArray⟩, .slice q.A t.names.length q.c, .slice q.P t.parts.length q.d] 25)).heap.size = w.heap.size + 1 := by simp
    rw [e] at h
    exact Lib.hid h
  have hb0 : Below w.heap.size w ((w.alloc (.cells #[.int .i64 t.kind, .string ⟨t.of_.toArray⟩, .string ⟨t.name.toArray⟩, .slice q.A t.names.length q.c, .slice q.P t.parts.length q.d] 25)).alloc (.cells #[.int .i64 u.kind, .string ⟨u.of_.toArray⟩, .string ⟨u.name.toArray⟩, .slice r.A u.names.length r.c, .slice r.P u.parts.length r.d] 25)) := below_new (below_one _ _) _
  have HQ := Lib.hid (hq.next hb0)
  have HR := Lib.hid (hr.next hb0)
  have HB0 := Lib.hid hb0
  have HC := Lib.hid hc
  clear hq hr hb0 hc
  go_enter Tryd.func22, Tryd.ntmps22
  go_wp2_with fail
  generalize (w.alloc (.cells #[.int .i64 t.kind, .string ⟨t.of_.toArray⟩, .string ⟨t.name.toArray⟩, .slice q.A t.names.length q.c, .slice q.P t.parts.length q.d] 25)).alloc (.cells #[.int .i64 u.kind, .string ⟨u.of_.toArray⟩, .string ⟨u.name.toArray⟩, .slice r.A u.names.length r.c, .slice r.P u.parts.length r.d] 25) = W0 at HB1 HB2 HQ HR HB0 ⊢
  refine wp_orders (rs := [0, 1, 2, 3, 4, 5, 6, 7, 8, 9, 10, 11, 12, 13, 14, 15])
    (fun u' => { tmps := #[.agg #[.int .i64 t.kind, .string { data := t.of_.toArray }, .string { data := t.name.toArray }, .slice q.A t.names.length q.c, .slice q.P t.parts.length q.d], .agg #[.int .i64 u.kind, .string { data := u.of_.toArray }, .string { data := u.name.toArray }, .slice r.A u.names.length r.c, .slice r.P u.parts.length r.d], .pointer (some { block := w.heap.size, off := 0 }), .pointer (some { block := w.heap.size + 1, off := 0 }), u' 15, u' 0, u' 1, u' 2, u' 3, u' 4, u' 5, u' 6, u' 7, u' 8, u' 9, u' 10, u' 11, u' 12, u' 13, u' 14], defers := [] })
    (fun j => ([undef, undef, undef, undef, undef, undef, undef, undef, undef, undef, undef, undef, undef, undef, undef, .bool false] : List Value).getD j undef) (rsame_halfT t u q r) (fun W => Below W0.heap.size W0 W) (by kernel_rfl) (by kernel_rfl) (by kernel_rfl) (Below.refl _ _).drew ?_ ?_
  refine StepsAt.cons _ rfl (fun u' W K' hJ hd hK => ?_) ?_
  · obtain ⟨_, ⟨y0, y1, y2, y3, y4⟩, _⟩ := HB1.out.next hJ
    simp only [Nat.zero_add] at y0 y1 y2 y3 y4
    refine step_value (v := .agg #[.int .i64 t.kind, .string ⟨t.of_.toArray⟩, .string ⟨t.name.toArray⟩, .slice q.A t.names.length q.c, .slice q.P t.parts.length q.d]) (W' := W) rfl ?_ (hK.out _ _ rfl hJ (Below.refl _ _))
    try dsimp only
    go_simp
    try omega
  refine StepsAt.cons _ rfl (fun u' W K' hJ hd hK => ?_) ?_
  · have d0 : u' 0 = .agg #[.int .i64 t.kind, .string ⟨t.of_.toArray⟩, .string ⟨t.name.toArray⟩, .slice q.A t.names.length q.c, .slice q.P t.parts.length q.d] := hd 0 (by kernel_rfl)
    refine step_enter (f := 12) (args := #[.agg #[.int .i64 t.kind, .string ⟨t.of_.toArray⟩, .string ⟨t.name.toArray⟩, .slice q.A t.names.length q.c, .slice q.P t.parts.length q.d]]) (W' := W) rfl ?_ ((rcheck_walk t q W (HQ.out.next hJ)).mono fun e w' h => ⟨_, h.1, hK.out _ _ rfl (below_next hJ h.2) h.2⟩)
    try dsimp only
    go_simp
    try omega
  refine StepsAt.cons _ rfl (fun u' W K' hJ hd hK => ?_) ?_
  · have d1 : u' 1 = .int .i64 (check t) := hd 1 (by kernel_rfl)
    have e1 : (check t == 0) = true := beq_iff_eq.2 HC.out.1
    refine step_value (v := .bool true) (W' := W) rfl ?_ (hK.out _ _ rfl hJ (Below.refl _ _))
    try dsimp only
    go_simp
    try omega
  refine StepsAt.cons _ rfl (fun u' W K' hJ hd hK => ?_) ?_
  · have d2 : u' 2 = .bool true := hd 2 (by kernel_rfl)
    refine step_value (v := .bool true) (W' := W) rfl ?_ (hK.out _ _ rfl hJ (Below.refl _ _))
    try dsimp only
    go_simp
    try omega
  refine StepsAt.cons _ rfl (fun u' W K' hJ hd hK => ?_) ?_
  · have dg : u' 3 = .bool true := hd 3 (by kernel_rfl)
    obtain ⟨_, ⟨y0, y1, y2, y3, y4⟩, _⟩ := HB2.out.next hJ
    simp only [Nat.zero_add] at y0 y1 y2 y3 y4
    refine step_value (v := .agg #[.int .i64 u.kind, .string ⟨u.of_.toArray⟩, .string ⟨u.name.toArray⟩, .slice r.A u.names.length r.c, .slice r.P u.parts.length r.d]) (W' := W) ?_ ?_ (hK.out _ _ rfl hJ (Below.refl _ _))
    · simp [Region.wanted, yielded, dg]
    · try dsimp only
      go_simp
      try omega
  refine StepsAt.cons _ rfl (fun u' W K' hJ hd hK => ?_) ?_
  · have dg : u' 3 = .bool true := hd 3 (by kernel_rfl)
    have d4 : u' 4 = .agg #[.int .i64 u.kind, .string ⟨u.of_.toArray⟩, .string ⟨u.name.toArray⟩, .slice r.A u.names.length r.c, .slice r.P u.parts.length r.d] := hd 4 (by kernel_rfl)
    refine step_enter (f := 12) (args := #[.agg #[.int .i64 u.kind, .string ⟨u.of_.toArray⟩, .string ⟨u.name.toArray⟩, .slice r.A u.names.length r.c, .slice r.P u.parts.length r.d]]) (W' := W) ?_ ?_ ((rcheck_walk u r W (HR.out.next hJ)).mono fun e w' h => ⟨_, h.1, hK.out _ _ rfl (below_next hJ h.2) h.2⟩)
    · simp [Region.wanted, yielded, dg]
    · try dsimp only
      go_simp
      try omega
  refine StepsAt.cons _ rfl (fun u' W K' hJ hd hK => ?_) ?_
  · have dg : u' 3 = .bool true := hd 3 (by kernel_rfl)
    have d5 : u' 5 = .int .i64 (check u) := hd 5 (by kernel_rfl)
    have e1 : (check u == 0) = false := beq_eq_false_iff_ne.2 HC.out.2
    refine step_value (v := .bool false) (W' := W) ?_ ?_ (hK.out _ _ rfl hJ (Below.refl _ _))
    · simp [Region.wanted, yielded, dg]
    · try dsimp only
      go_simp
      try omega
  refine StepsAt.cons _ rfl (fun u' W K' hJ hd hK => ?_) ?_
  · have d3 : u' 3 = .bool true := hd 3 (by kernel_rfl)
    have d6 : u' 6 = .bool false := hd 6 (by kernel_rfl)
    refine step_value (v := .bool false) (W' := W) rfl ?_ (hK.out _ _ rfl hJ (Below.refl _ _))
    try dsimp only
    go_simp
    try omega
  refine StepsAt.cons _ rfl (fun u' W K' hJ hd hK => ?_) ?_
  · have d7 : u' 7 = .bool false := hd 7 (by kernel_rfl)
    refine step_value (v := .bool false) (W' := W) rfl ?_ (hK.out _ _ rfl hJ (Below.refl _ _))
    try dsimp only
    go_simp
    try omega
  refine StepsAt.cons _ rfl (fun u' W K' hJ hd hK => ?_) ?_
  · have dg : u' 8 = .bool false := hd 8 (by kernel_rfl)
    exact step_skip (by simp [Region.wanted, yielded, dg]) (hK.out _ _ trivial hJ (Below.refl _ _))
  refine StepsAt.cons _ rfl (fun u' W K' hJ hd hK => ?_) ?_
  · have dg : u' 8 = .bool false := hd 8 (by kernel_rfl)
    exact step_skip (by simp [Region.wanted, yielded, dg]) (hK.out _ _ trivial hJ (Below.refl _ _))
  refine StepsAt.cons _ rfl (fun u' W K' hJ hd hK => ?_) ?_
  · have dg : u' 8 = .bool false := hd 8 (by kernel_rfl)
    exact step_skip (by simp [Region.wanted, yielded, dg]) (hK.out _ _ trivial hJ (Below.refl _ _))
  refine StepsAt.cons _ rfl (fun u' W K' hJ hd hK => ?_) ?_
  · have dg : u' 8 = .bool false := hd 8 (by kernel_rfl)
    exact step_skip (by simp [Region.wanted, yielded, dg]) (hK.out _ _ trivial hJ (Below.refl _ _))
  refine StepsAt.cons _ rfl (fun u' W K' hJ hd hK => ?_) ?_
  · have dg : u' 8 = .bool false := hd 8 (by kernel_rfl)
    exact step_skip (by simp [Region.wanted, yielded, dg]) (hK.out _ _ trivial hJ (Below.refl _ _))
  refine StepsAt.cons _ rfl (fun u' W K' hJ hd hK => ?_) ?_
  · have d8 : u' 8 = .bool false := hd 8 (by kernel_rfl)
    refine step_value (v := .bool false) (W' := W) rfl ?_ (hK.out _ _ rfl hJ (Below.refl _ _))
    try dsimp only
    go_simp
    try omega
  refine StepsAt.cons _ rfl (fun u' W K' hJ hd hK => ?_) StepsAt.nil
  · have d14 : u' 14 = .bool false := hd 14 (by kernel_rfl)
    refine step_value (v := .bool false) (W' := W) rfl ?_ (hK.out _ _ rfl hJ (Below.refl _ _))
    try dsimp only
    go_simp
    try omega
  intro u' W' hJ' hok
  try dsimp only
  rw [show u' 15 = .bool false from hok 15 (by decide)]
  clear hok
  go_wp2
  go_ret
  exact ⟨ret_bool7 (by rw [same_comm, same_off HC.out.2 t]), below_next HB0.out hJ'⟩

set_option maxRecDepth 100000 in
set_option maxHeartbeats 4000000 in
theorem rsame_yes (t u : Sh) (q r : Ptr) (w : World) (hq : ShAt w w.heap.size q t) (hr : ShAt w w.heap.size r u) (hc : check t = 0 ∧ check u = 0) :
    Calls Tryd.prog 22 #[.agg #[.int .i64 t.kind, .string ⟨t.of_.toArray⟩, .string ⟨t.name.toArray⟩, .slice q.A t.names.length q.c, .slice q.P t.parts.length q.d], .agg #[.int .i64 u.kind, .string ⟨u.of_.toArray⟩, .string ⟨u.name.toArray⟩, .slice r.A u.names.length r.c, .slice r.P u.parts.length r.d]] w fun e w' => e = .returned (.bool (same t u)) ∧ Below w.heap.size w w' := by
  have HB1 := Lib.hid (((box5_new w t q).next (below_one _ _)) : Box5 ((w.alloc (.cells #[.int .i64 t.kind, .string ⟨t.of_.toArray⟩, .string ⟨t.name.toArray⟩, .slice q.A t.names.length q.c, .slice q.P t.parts.length q.d] 25)).alloc (.cells #[.int .i64 u.kind, .string ⟨u.of_.toArray⟩, .string ⟨u.name.toArray⟩, .slice r.A u.names.length r.c, .slice r.P u.parts.length r.d] 25)) w.heap.size t q)
  have HB2 : Hid (Box5 ((w.alloc (.cells #[.int .i64 t.kind, .string ⟨t.of_.toArray⟩, .string ⟨t.name.toArray⟩, .slice q.A t.names.length q.c, .slice q.P t.parts.length q.d] 25)).alloc (.cells #[.int .i64 u.kind, .string ⟨u.of_.toArray⟩, .string ⟨u.name.toArray⟩, .slice r.A u.names.length r.c, .slice r.P u.parts.length r.d] 25)) (w.heap.size + 1) u r) := by
    have h := box5_new (w.alloc (.cells #[.int .i64 t.kind, .string ⟨t.of_.toArray⟩, .string ⟨t.name.toArray⟩, .slice q.A t.names.length q.c, .slice q.P t.parts.length q.d] 25)) u r
    have e : (w.alloc (.cells #[.int .i64 t.kind, .string ⟨t.of_.toArray⟩, .string ⟨t.name.toArray⟩, .slice q.A t.names.length q.c, .slice q.P t.parts.length q.d] 25)).heap.size = w.heap.size + 1 := by simp
    rw [e] at h
    exact Lib.hid h
  have hb0 : Below w.heap.size w ((w.alloc (.cells #[.int .i64 t.kind, .string ⟨t.of_.toArray⟩, .string ⟨t.name.toArray⟩, .slice q.A t.names.length q.c, .slice q.P t.parts.length q.d] 25)).alloc (.cells #[.int .i64 u.kind, .string ⟨u.of_.toArray⟩, .string ⟨u.name.toArray⟩, .slice r.A u.names.length r.c, .slice r.P u.parts.length r.d] 25)) := below_new (below_one _ _) _
  have HQ := Lib.hid (hq.next hb0)
  have HR := Lib.hid (hr.next hb0)
  have HB0 := Lib.hid hb0
  have HC := Lib.hid hc
  clear hq hr hb0 hc
  go_enter Tryd.func22, Tryd.ntmps22
  go_wp2_with fail
  generalize (w.alloc (.cells #[.int .i64 t.kind, .string ⟨t.of_.toArray⟩, .string ⟨t.name.toArray⟩, .slice q.A t.names.length q.c, .slice q.P t.parts.length q.d] 25)).alloc (.cells #[.int .i64 u.kind, .string ⟨u.of_.toArray⟩, .string ⟨u.name.toArray⟩, .slice r.A u.names.length r.c, .slice r.P u.parts.length r.d] 25) = W0 at HB1 HB2 HQ HR HB0 ⊢
  refine wp_orders (rs := [0, 1, 2, 3, 4, 5, 6, 7, 8, 9, 10, 11, 12, 13, 14, 15])
    (fun u' => { tmps := #[.agg #[.int .i64 t.kind, .string { data := t.of_.toArray }, .string { data := t.name.toArray }, .slice q.A t.names.length q.c, .slice q.P t.parts.length q.d], .agg #[.int .i64 u.kind, .string { data := u.of_.toArray }, .string { data := u.name.toArray }, .slice r.A u.names.length r.c, .slice r.P u.parts.length r.d], .pointer (some { block := w.heap.size, off := 0 }), .pointer (some { block := w.heap.size + 1, off := 0 }), u' 15, u' 0, u' 1, u' 2, u' 3, u' 4, u' 5, u' 6, u' 7, u' 8, u' 9, u' 10, u' 11, u' 12, u' 13, u' 14], defers := [] })
    (fun j => ([undef, undef, undef, undef, undef, undef, undef, undef, undef, undef, undef, undef, undef, undef, undef, .bool false] : List Value).getD j undef) (rsame_yesT t u q r) (fun W => Below W0.heap.size W0 W) (by kernel_rfl) (by kernel_rfl) (by kernel_rfl) (Below.refl _ _).drew ?_ ?_
  refine StepsAt.cons _ rfl (fun u' W K' hJ hd hK => ?_) ?_
  · obtain ⟨_, ⟨y0, y1, y2, y3, y4⟩, _⟩ := HB1.out.next hJ
    simp only [Nat.zero_add] at y0 y1 y2 y3 y4
    refine step_value (v := .agg #[.int .i64 t.kind, .string ⟨t.of_.toArray⟩, .string ⟨t.name.toArray⟩, .slice q.A t.names.length q.c, .slice q.P t.parts.length q.d]) (W' := W) rfl ?_ (hK.out _ _ rfl hJ (Below.refl _ _))
    try dsimp only
    go_simp
    try omega
  refine StepsAt.cons _ rfl (fun u' W K' hJ hd hK => ?_) ?_
  · have d0 : u' 0 = .agg #[.int .i64 t.kind, .string ⟨t.of_.toArray⟩, .string ⟨t.name.toArray⟩, .slice q.A t.names.length q.c, .slice q.P t.parts.length q.d] := hd 0 (by kernel_rfl)
    refine step_enter (f := 12) (args := #[.agg #[.int .i64 t.kind, .string ⟨t.of_.toArray⟩, .string ⟨t.name.toArray⟩, .slice q.A t.names.length q.c, .slice q.P t.parts.length q.d]]) (W' := W) rfl ?_ ((rcheck_walk t q W (HQ.out.next hJ)).mono fun e w' h => ⟨_, h.1, hK.out _ _ rfl (below_next hJ h.2) h.2⟩)
    try dsimp only
    go_simp
    try omega
  refine StepsAt.cons _ rfl (fun u' W K' hJ hd hK => ?_) ?_
  · have d1 : u' 1 = .int .i64 (check t) := hd 1 (by kernel_rfl)
    have e1 : (check t == 0) = true := beq_iff_eq.2 HC.out.1
    refine step_value (v := .bool true) (W' := W) rfl ?_ (hK.out _ _ rfl hJ (Below.refl _ _))
    try dsimp only
    go_simp
    try omega
  refine StepsAt.cons _ rfl (fun u' W K' hJ hd hK => ?_) ?_
  · have d2 : u' 2 = .bool true := hd 2 (by kernel_rfl)
    refine step_value (v := .bool true) (W' := W) rfl ?_ (hK.out _ _ rfl hJ (Below.refl _ _))
    try dsimp only
    go_simp
    try omega
  refine StepsAt.cons _ rfl (fun u' W K' hJ hd hK => ?_) ?_
  · have dg : u' 3 = .bool true := hd 3 (by kernel_rfl)
    obtain ⟨_, ⟨y0, y1, y2, y3, y4⟩, _⟩ := HB2.out.next hJ
    simp only [Nat.zero_add] at y0 y1 y2 y3 y4
    refine step_value (v := .agg #[.int .i64 u.kind, .string ⟨u.of_.toArray⟩, .string ⟨u.name.toArray⟩, .slice r.A u.names.length r.c, .slice r.P u.parts.length r.d]) (W' := W) ?_ ?_ (hK.out _ _ rfl hJ (Below.refl _ _))
    · simp [Region.wanted, yielded, dg]
    · try dsimp only
      go_simp
      try omega
  refine StepsAt.cons _ rfl (fun u' W K' hJ hd hK => ?_) ?_
  · have dg : u' 3 = .bool true := hd 3 (by kernel_rfl)
    have d4 : u' 4 = .agg #[.int .i64 u.kind, .string ⟨u.of_.toArray⟩, .string ⟨u.name.toArray⟩, .slice r.A u.names.length r.c, .slice r.P u.parts.length r.d] := hd 4 (by kernel_rfl)
    refine step_enter (f := 12) (args := #[.agg #[.int .i64 u.kind, .string ⟨u.of_.toArray⟩, .string ⟨u.name.toArray⟩, .slice r.A u.names.length r.c, .slice r.P u.parts.length r.d]]) (W' := W) ?_ ?_ ((rcheck_walk u r W (HR.out.next hJ)).mono fun e w' h => ⟨_, h.1, hK.out _ _ rfl (below_next hJ h.2) h.2⟩)
    · simp [Region.wanted, yielded, dg]
    · try dsimp only
      go_simp
      try omega
  refine StepsAt.cons _ rfl (fun u' W K' hJ hd hK => ?_) ?_
  · have dg : u' 3 = .bool true := hd 3 (by kernel_rfl)
    have d5 : u' 5 = .int .i64 (check u) := hd 5 (by kernel_rfl)
    have e1 : (check u == 0) = true := beq_iff_eq.2 HC.out.2
    refine step_value (v := .bool true) (W' := W) ?_ ?_ (hK.out _ _ rfl hJ (Below.refl _ _))
    · simp [Region.wanted, yielded, dg]
    · try dsimp only
      go_simp
      try omega
  refine StepsAt.cons _ rfl (fun u' W K' hJ hd hK => ?_) ?_
  · have d3 : u' 3 = .bool true := hd 3 (by kernel_rfl)
    have d6 : u' 6 = .bool true := hd 6 (by kernel_rfl)
    refine step_value (v := .bool true) (W' := W) rfl ?_ (hK.out _ _ rfl hJ (Below.refl _ _))
    try dsimp only
    go_simp
    try omega
  refine StepsAt.cons _ rfl (fun u' W K' hJ hd hK => ?_) ?_
  · have d7 : u' 7 = .bool true := hd 7 (by kernel_rfl)
    refine step_value (v := .bool true) (W' := W) rfl ?_ (hK.out _ _ rfl hJ (Below.refl _ _))
    try dsimp only
    go_simp
    try omega
  refine StepsAt.cons _ rfl (fun u' W K' hJ hd hK => ?_) ?_
  · have dg : u' 8 = .bool true := hd 8 (by kernel_rfl)
    obtain ⟨_, ⟨y0, y1, y2, y3, y4⟩, _⟩ := HB1.out.next hJ
    simp only [Nat.zero_add] at y0 y1 y2 y3 y4
    refine step_value (v := .agg #[.int .i64 t.kind, .string ⟨t.of_.toArray⟩, .string ⟨t.name.toArray⟩, .slice q.A t.names.length q.c, .slice q.P t.parts.length q.d]) (W' := W) ?_ ?_ (hK.out _ _ rfl hJ (Below.refl _ _))
    · simp [Region.wanted, yielded, dg]
    · try dsimp only
      go_simp
      try omega
  refine StepsAt.cons _ rfl (fun u' W K' hJ hd hK => ?_) ?_
  · have dg : u' 8 = .bool true := hd 8 (by kernel_rfl)
    have d9 : u' 9 = .agg #[.int .i64 t.kind, .string ⟨t.of_.toArray⟩, .string ⟨t.name.toArray⟩, .slice q.A t.names.length q.c, .slice q.P t.parts.length q.d] := hd 9 (by kernel_rfl)
    refine step_enter (f := 34) (args := #[.agg #[.int .i64 t.kind, .string ⟨t.of_.toArray⟩, .string ⟨t.name.toArray⟩, .slice q.A t.names.length q.c, .slice q.P t.parts.length q.d]]) (W' := W) ?_ ?_ ((rsorted_walk t q W (HQ.out.next hJ) (check_ok HC.out.1).2.2 (check_ok HC.out.1).1).mono fun e w' ⟨q', F, he, ha, hF, hb⟩ => ⟨_, he, hK.out _ _ ⟨q', rfl, ha.at_ ha.lt⟩ (below_next hJ hb) hb⟩)
    · simp [Region.wanted, yielded, dg]
    · try dsimp only
      go_simp
      try omega
  refine StepsAt.cons _ rfl (fun u' W K' hJ hd hK => ?_) ?_
  · have dg : u' 8 = .bool true := hd 8 (by kernel_rfl)
    obtain ⟨_, ⟨y0, y1, y2, y3, y4⟩, _⟩ := HB2.out.next hJ
    simp only [Nat.zero_add] at y0 y1 y2 y3 y4
    refine step_value (v := .agg #[.int .i64 u.kind, .string ⟨u.of_.toArray⟩, .string ⟨u.name.toArray⟩, .slice r.A u.names.length r.c, .slice r.P u.parts.length r.d]) (W' := W) ?_ ?_ (hK.out _ _ rfl hJ (Below.refl _ _))
    · simp [Region.wanted, yielded, dg]
    · try dsimp only
      go_simp
      try omega
  refine StepsAt.cons _ rfl (fun u' W K' hJ hd hK => ?_) ?_
  · have dg : u' 8 = .bool true := hd 8 (by kernel_rfl)
    have d11 : u' 11 = .agg #[.int .i64 u.kind, .string ⟨u.of_.toArray⟩, .string ⟨u.name.toArray⟩, .slice r.A u.names.length r.c, .slice r.P u.parts.length r.d] := hd 11 (by kernel_rfl)
    refine step_enter (f := 34) (args := #[.agg #[.int .i64 u.kind, .string ⟨u.of_.toArray⟩, .string ⟨u.name.toArray⟩, .slice r.A u.names.length r.c, .slice r.P u.parts.length r.d]]) (W' := W) ?_ ?_ ((rsorted_walk u r W (HR.out.next hJ) (check_ok HC.out.2).2.2 (check_ok HC.out.2).1).mono fun e w' ⟨q', F, he, ha, hF, hb⟩ => ⟨_, he, hK.out _ _ ⟨q', rfl, ha.at_ ha.lt⟩ (below_next hJ hb) hb⟩)
    · simp [Region.wanted, yielded, dg]
    · try dsimp only
      go_simp
      try omega
  refine StepsAt.cons _ rfl (fun u' W K' hJ hd hK => ?_) ?_
  · have dg : u' 8 = .bool true := hd 8 (by kernel_rfl)
    obtain ⟨qt, d10, at1⟩ := hd 10 (by kernel_rfl)
    obtain ⟨qu, d12, au⟩ := hd 12 (by kernel_rfl)
    refine step_enter (f := 18) (args := #[.agg #[.int .i64 (sorted t).kind, .string ⟨(sorted t).of_.toArray⟩, .string ⟨(sorted t).name.toArray⟩, .slice qt.A (sorted t).names.length qt.c, .slice qt.P (sorted t).parts.length qt.d], .agg #[.int .i64 (sorted u).kind, .string ⟨(sorted u).of_.toArray⟩, .string ⟨(sorted u).name.toArray⟩, .slice qu.A (sorted u).names.length qu.c, .slice qu.P (sorted u).parts.length qu.d]]) (W' := W) ?_ ?_ ((requal_walk (sorted t) (sorted u) qt qu W at1 au).mono fun e w' h => ⟨_, h.1, hK.out _ _ rfl (below_next hJ h.2) h.2⟩)
    · simp [Region.wanted, yielded, dg]
    · try dsimp only
      go_simp
      try omega
  refine StepsAt.cons _ rfl (fun u' W K' hJ hd hK => ?_) ?_
  · have d8 : u' 8 = .bool true := hd 8 (by kernel_rfl)
    have d13 : u' 13 = .bool (eqB (sorted t) (sorted u)) := hd 13 (by kernel_rfl)
    refine step_value (v := .bool (eqB (sorted t) (sorted u))) (W' := W) rfl ?_ (hK.out _ _ rfl hJ (Below.refl _ _))
    try dsimp only
    go_simp
    try omega
  refine StepsAt.cons _ rfl (fun u' W K' hJ hd hK => ?_) StepsAt.nil
  · have d14 : u' 14 = .bool (eqB (sorted t) (sorted u)) := hd 14 (by kernel_rfl)
    refine step_value (v := .bool (eqB (sorted t) (sorted u))) (W' := W) rfl ?_ (hK.out _ _ rfl hJ (Below.refl _ _))
    try dsimp only
    go_simp
    try omega
  intro u' W' hJ' hok
  try dsimp only
  rw [show u' 15 = .bool (eqB (sorted t) (sorted u)) from hok 15 (by decide)]
  clear hok
  go_wp2
  go_ret
  exact ⟨ret_bool7 (by unfold same; rw [decide_eq_true HC.out.1, decide_eq_true HC.out.2]; rfl), below_next HB0.out hJ'⟩

theorem rsame7_walk (t u : Sh) (q r : Ptr) (w : World) (hq : ShAt w w.heap.size q t) (hr : ShAt w w.heap.size r u) :
    Calls Tryd.prog 22 #[.agg #[.int .i64 t.kind, .string ⟨t.of_.toArray⟩, .string ⟨t.name.toArray⟩, .slice q.A t.names.length q.c, .slice q.P t.parts.length q.d], .agg #[.int .i64 u.kind, .string ⟨u.of_.toArray⟩, .string ⟨u.name.toArray⟩, .slice r.A u.names.length r.c, .slice r.P u.parts.length r.d]] w fun e w' => e = .returned (.bool (same t u)) ∧ Below w.heap.size w w' := by
  by_cases h1 : check t = 0
  · by_cases h2 : check u = 0
    · exact rsame_yes t u q r w hq hr ⟨h1, h2⟩
    · exact rsame_half t u q r w hq hr ⟨h1, h2⟩
  · exact rsame_no t u q r w hq hr h1
end Go.Proofs.YtkehnmapnckdgaaDoor
