/- The walk of ShapeChecks. -/
import Derived.Test.YtkehnmapnckdgaaDoorShpAwake
import Derived.Test.YtkehnmapnckdgaaDoorGR
import Derived.Test.YtkehnmapnckdgaaDoorShpO7
namespace Go.Proofs.YtkehnmapnckdgaaDoor
open Go.RowKit Shp
set_option linter.unusedVariables false

def checks_bigT (t : Sh) (q : Ptr) (N : Int) : Nat → Want
  | 0 => .val (.agg #[.int .i64 t.kind, .string ⟨t.of_.toArray⟩, .string ⟨t.name.toArray⟩, .slice q.A t.names.length q.c, .slice q.P t.parts.length q.d])
  | 1 => .val (.int .i64 (check t))
  | 2 => .val (.agg #[.int .i64 t.kind, .string ⟨t.of_.toArray⟩, .string ⟨t.name.toArray⟩, .slice q.A t.names.length q.c, .slice q.P t.parts.length q.d])
  | 3 => .val (.int .i64 (check t))
  | 4 => .val (.bool true)
  | 5 => .val (.bool true)
  | 6 => .val (.agg #[.int .i64 t.kind, .string ⟨t.of_.toArray⟩, .string ⟨t.name.toArray⟩, .slice q.A t.names.length q.c, .slice q.P t.parts.length q.d])
  | 7 => .val (.int .i64 N)
  | 8 => .val (.int .i64 N)
  | 9 => .val (.bool true)
  | 10 => .val (.bool true)
  | 11 => .val (.bool true)
  | 12 => .val (.agg #[.int .i64 t.kind, .string ⟨t.of_.toArray⟩, .string ⟨t.name.toArray⟩, .slice q.A t.names.length q.c, .slice q.P t.parts.length q.d])
  | 13 => .val (.int .i64 0)
  | 14 => .val (.int .i64 0)
  | 15 => .val (.bool true)
  | 16 => .val (.bool true)
  | 17 => .val (.bool true)
  | 18 => .val (.agg #[.int .i64 t.kind, .string ⟨t.of_.toArray⟩, .string ⟨t.name.toArray⟩, .slice q.A t.names.length q.c, .slice q.P t.parts.length q.d])
  | 19 => .val (.bool (closed t))
  | 20 => .val (.agg #[.int .i64 t.kind, .string ⟨t.of_.toArray⟩, .string ⟨t.name.toArray⟩, .slice q.A t.names.length q.c, .slice q.P t.parts.length q.d])
  | 21 => .val (.bool (closed t))
  | 22 => .val (.bool true)
  | 23 => .val (.bool true)
  | 24 => .val (.bool true)
  | 25 => .val (.bool true)
  | 26 => .val (.bool true)
  | 27 => .val (.bool true)
  | _ => .any

def checks_smallT (t : Sh) (q : Ptr) (N DD : Int) : Nat → Want
  | 0 => .val (.agg #[.int .i64 t.kind, .string ⟨t.of_.toArray⟩, .string ⟨t.name.toArray⟩, .slice q.A t.names.length q.c, .slice q.P t.parts.length q.d])
  | 1 => .val (.int .i64 (check t))
  | 2 => .val (.agg #[.int .i64 t.kind, .string ⟨t.of_.toArray⟩, .string ⟨t.name.toArray⟩, .slice q.A t.names.length q.c, .slice q.P t.parts.length q.d])
  | 3 => .val (.int .i64 (check t))
  | 4 => .val (.bool true)
  | 5 => .val (.bool true)
  | 6 => .val (.agg #[.int .i64 t.kind, .string ⟨t.of_.toArray⟩, .string ⟨t.name.toArray⟩, .slice q.A t.names.length q.c, .slice q.P t.parts.length q.d])
  | 7 => .val (.int .i64 N)
  | 8 => .val (.int .i64 N)
  | 9 => .val (.bool true)
  | 10 => .val (.bool true)
  | 11 => .val (.bool true)
  | 12 => .val (.agg #[.int .i64 t.kind, .string ⟨t.of_.toArray⟩, .string ⟨t.name.toArray⟩, .slice q.A t.names.length q.c, .slice q.P t.parts.length q.d])
  | 13 => .val (.int .i64 DD)
  | 14 => .val (.int .i64 DD)
  | 15 => .val (.bool true)
  | 16 => .val (.bool true)
  | 17 => .val (.bool true)
  | 18 => .val (.agg #[.int .i64 t.kind, .string ⟨t.of_.toArray⟩, .string ⟨t.name.toArray⟩, .slice q.A t.names.length q.c, .slice q.P t.parts.length q.d])
  | 19 => .val (.bool (closed t))
  | 20 => .val (.agg #[.int .i64 t.kind, .string ⟨t.of_.toArray⟩, .string ⟨t.name.toArray⟩, .slice q.A t.names.length q.c, .slice q.P t.parts.length q.d])
  | 21 => .val (.bool (closed t))
  | 22 => .val (.bool true)
  | 23 => .val (.bool true)
  | 24 => .val (.bool true)
  | 25 => .val (.bool true)
  | 26 => .val (.bool true)
  | 27 => .val (.bool true)
  | _ => .any

set_option maxRecDepth 100000 in
set_option maxHeartbeats 8000000 in
theorem checks_big (t : Sh) (q : Ptr) (w : World) (hq : ShAt w w.heap.size q t) (hg : WGlobs w) (hc : 400 < size t) :
    Calls Tryd.prog 3 #[.agg #[.int .i64 t.kind, .string ⟨t.of_.toArray⟩, .string ⟨t.name.toArray⟩, .slice q.A t.names.length q.c, .slice q.P t.parts.length q.d]] w fun e w' => e = .returned (.bool true) ∧ Below w.heap.size w w' := by
  have HC := Lib.hid hc
  have hsz := rsize_walk t q 400 _ (hq.next (below_one w (.cells #[.int .i64 t.kind, .string ⟨t.of_.toArray⟩, .string ⟨t.name.toArray⟩, .slice q.A t.names.length q.c, .slice q.P t.parts.length q.d] 25))) (by decide)
  rw [show ((400 : Nat) : Int) = (400 : Int) from rfl] at hsz
  have hle : ¬ (sizeTo 400 t : Int) ≤ 400 := by rw [sizeTo_big hc]; decide
  have HSZ := Lib.hid hsz
  clear hsz hc
  have HB0 := Lib.hid (below_one w (.cells #[.int .i64 t.kind, .string ⟨t.of_.toArray⟩, .string ⟨t.name.toArray⟩, .slice q.A t.names.length q.c, .slice q.P t.parts.length q.d] 25))
  have HB := Lib.hid (box5_new w t q)
  have HQ := Lib.hid (hq.next HB0.out)
  have HG := Lib.hid (hg.next HB0.out)
  obtain ⟨a1, ⟨c0, c1, c2, c3, c4⟩, a2⟩ := HB.out
  clear hq hg a1 a2
  go_enter Tryd.func3, Tryd.ntmps3
  go_wp2_with fail
  generalize w.alloc (.cells #[.int .i64 t.kind, .string ⟨t.of_.toArray⟩, .string ⟨t.name.toArray⟩, .slice q.A t.names.length q.c, .slice q.P t.parts.length q.d] 25) = W0 at HB HB0 HQ HG HSZ c0 c1 c2 c3 c4 ⊢
  refine HSZ.out.mono ?_
  rintro e W1 ⟨rfl, hb1⟩
  have HBW := Lib.hid hb1
  have HB1 := Lib.hid (HB.out.next hb1)
  obtain ⟨a1, ⟨x0, x1, x2, x3, x4⟩, a2⟩ := HB1.out
  obtain ⟨N, hN⟩ : ∃ N, N = (sizeTo 400 t : Int) := ⟨_, rfl⟩
  have HN := Lib.hid hN
  rw [← hN] at hle ⊢
  clear hb1 HSZ a1 a2 c0 c1 c2 c3 c4 hN
  go_wp2_with fail
  refine wp_orders (rs := [0, 1, 2, 3, 4, 5, 6, 7, 8, 9, 10, 11, 12, 13, 14, 15, 16, 17, 18, 19, 20, 21, 22, 23, 24, 25, 26, 27])
    (fun u' => { tmps := #[.agg #[.int .i64 t.kind, .string { data := t.of_.toArray }, .string { data := t.name.toArray }, .slice q.A t.names.length q.c, .slice q.P t.parts.length q.d], .pointer (some { block := w.heap.size, off := 0 }), u' 27, .int .i64 N, .int .i64 0, .agg #[.int .i64 t.kind, .string { data := t.of_.toArray }, .string { data := t.name.toArray }, .slice q.A t.names.length q.c, .slice q.P t.parts.length q.d], .int .i64 N, .int .i64 N, .bool (decide (N ≤ 400)), undef, undef, u' 0, u' 1, u' 2, u' 3, u' 4, u' 5, u' 6, u' 7, u' 8, u' 9, u' 10, u' 11, u' 12, u' 13, u' 14, u' 15, u' 16, u' 17, u' 18, u' 19, u' 20, u' 21, u' 22, u' 23, u' 24, u' 25, u' 26], defers := [] })
    (fun j => ([undef, undef, undef, undef, undef, undef, undef, undef, undef, undef, undef, undef, undef, undef, undef, undef, undef, undef, undef, undef, undef, undef, undef, undef, undef, undef, undef, .bool false] : List Value).getD j undef) (checks_bigT t q N) (fun W => Below W1.heap.size W1 W) (by kernel_rfl) (by kernel_rfl) (by kernel_rfl) (Below.refl _ _).drew ?_ ?_
  refine StepsAt.cons _ rfl (fun u' W K' hJ hd hK => ?_) ?_
  · obtain ⟨_, ⟨y0, y1, y2, y3, y4⟩, _⟩ := HB1.out.next hJ
    simp only [Nat.zero_add] at y0 y1 y2 y3 y4
    refine step_value (v := .agg #[.int .i64 t.kind, .string ⟨t.of_.toArray⟩, .string ⟨t.name.toArray⟩, .slice q.A t.names.length q.c, .slice q.P t.parts.length q.d]) (W' := W) rfl ?_ (hK.out _ _ rfl hJ (Below.refl _ _))
    try dsimp only
    go_simp
    try omega
  refine StepsAt.cons _ rfl (fun u' W K' hJ hd hK => ?_) ?_
  · have d0 : u' 0 = .agg #[.int .i64 t.kind, .string ⟨t.of_.toArray⟩, .string ⟨t.name.toArray⟩, .slice q.A t.names.length q.c, .slice q.P t.parts.length q.d] := hd 0 (by kernel_rfl)
    refine step_enter (f := 11) (args := #[.agg #[.int .i64 t.kind, .string ⟨t.of_.toArray⟩, .string ⟨t.name.toArray⟩, .slice q.A t.names.length q.c, .slice q.P t.parts.length q.d]]) (W' := W) rfl ?_ ((oCheck_walk t q W (HQ.out.next (below_next HBW.out hJ)) (HG.out.next (below_next HBW.out hJ))).mono fun e w' h => ⟨_, h.1, hK.out _ _ rfl (below_next hJ h.2) h.2⟩)
    try dsimp only
    go_simp
    try omega
  refine StepsAt.cons _ rfl (fun u' W K' hJ hd hK => ?_) ?_
  · obtain ⟨_, ⟨y0, y1, y2, y3, y4⟩, _⟩ := HB1.out.next hJ
    simp only [Nat.zero_add] at y0 y1 y2 y3 y4
    refine step_value (v := .agg #[.int .i64 t.kind, .string ⟨t.of_.toArray⟩, .string ⟨t.name.toArray⟩, .slice q.A t.names.length q.c, .slice q.P t.parts.length q.d]) (W' := W) rfl ?_ (hK.out _ _ rfl hJ (Below.refl _ _))
    try dsimp only
    go_simp
    try omega
  refine StepsAt.cons _ rfl (fun u' W K' hJ hd hK => ?_) ?_
  · have d2 : u' 2 = .agg #[.int .i64 t.kind, .string ⟨t.of_.toArray⟩, .string ⟨t.name.toArray⟩, .slice q.A t.names.length q.c, .slice q.P t.parts.length q.d] := hd 2 (by kernel_rfl)
    refine step_enter (f := 12) (args := #[.agg #[.int .i64 t.kind, .string ⟨t.of_.toArray⟩, .string ⟨t.name.toArray⟩, .slice q.A t.names.length q.c, .slice q.P t.parts.length q.d]]) (W' := W) rfl ?_ ((rcheck_walk t q W (HQ.out.next (below_next HBW.out hJ))).mono fun e w' h => ⟨_, h.1, hK.out _ _ rfl (below_next hJ h.2) h.2⟩)
    try dsimp only
    go_simp
    try omega
  refine StepsAt.cons _ rfl (fun u' W K' hJ hd hK => ?_) ?_
  · have d1 : u' 1 = .int .i64 (check t) := hd 1 (by kernel_rfl)
    have d3 : u' 3 = .int .i64 (check t) := hd 3 (by kernel_rfl)
    refine step_value (v := .bool true) (W' := W) rfl ?_ (hK.out _ _ rfl hJ (Below.refl _ _))
    try dsimp only
    go_simp
    try omega
  refine StepsAt.cons _ rfl (fun u' W K' hJ hd hK => ?_) ?_
  · have d4 : u' 4 = .bool true := hd 4 (by kernel_rfl)
    refine step_value (v := .bool true) (W' := W) rfl ?_ (hK.out _ _ rfl hJ (Below.refl _ _))
    try dsimp only
    go_simp
    try omega
  refine StepsAt.cons _ rfl (fun u' W K' hJ hd hK => ?_) ?_
  · have dg : u' 5 = .bool true := hd 5 (by kernel_rfl)
    obtain ⟨_, ⟨y0, y1, y2, y3, y4⟩, _⟩ := HB1.out.next hJ
    simp only [Nat.zero_add] at y0 y1 y2 y3 y4
    refine step_value (v := .agg #[.int .i64 t.kind, .string ⟨t.of_.toArray⟩, .string ⟨t.name.toArray⟩, .slice q.A t.names.length q.c, .slice q.P t.parts.length q.d]) (W' := W) ?_ ?_ (hK.out _ _ rfl hJ (Below.refl _ _))
    · simp [Region.wanted, yielded, dg]
    · try dsimp only
      go_simp
      try omega
  refine StepsAt.cons _ rfl (fun u' W K' hJ hd hK => ?_) ?_
  · have dg : u' 5 = .bool true := hd 5 (by kernel_rfl)
    have d6 : u' 6 = .agg #[.int .i64 t.kind, .string ⟨t.of_.toArray⟩, .string ⟨t.name.toArray⟩, .slice q.A t.names.length q.c, .slice q.P t.parts.length q.d] := hd 6 (by kernel_rfl)
    refine step_enter (f := 13) (args := #[.agg #[.int .i64 t.kind, .string ⟨t.of_.toArray⟩, .string ⟨t.name.toArray⟩, .slice q.A t.names.length q.c, .slice q.P t.parts.length q.d]]) (W' := W) ?_ ?_ ((oSize_walk t q W (HQ.out.next (below_next HBW.out hJ))).mono fun e w' h => ⟨_, h.1, hK.out _ _ (by rw [← HN.out]; rfl) (below_next hJ h.2) h.2⟩)
    · simp [Region.wanted, yielded, dg]
    · try dsimp only
      go_simp
      try omega
  refine StepsAt.cons _ rfl (fun u' W K' hJ hd hK => ?_) ?_
  · have dg : u' 5 = .bool true := hd 5 (by kernel_rfl)
    refine step_value (v := .int .i64 N) (W' := W) ?_ ?_ (hK.out _ _ rfl hJ (Below.refl _ _))
    · simp [Region.wanted, yielded, dg]
    · try dsimp only
      go_simp
      try omega
  refine StepsAt.cons _ rfl (fun u' W K' hJ hd hK => ?_) ?_
  · have dg : u' 5 = .bool true := hd 5 (by kernel_rfl)
    have d7 : u' 7 = .int .i64 N := hd 7 (by kernel_rfl)
    have d8 : u' 8 = .int .i64 N := hd 8 (by kernel_rfl)
    refine step_value (v := .bool true) (W' := W) ?_ ?_ (hK.out _ _ rfl hJ (Below.refl _ _))
    · simp [Region.wanted, yielded, dg]
    · try dsimp only
      go_simp
      try omega
  refine StepsAt.cons _ rfl (fun u' W K' hJ hd hK => ?_) ?_
  · have d5 : u' 5 = .bool true := hd 5 (by kernel_rfl)
    have d9 : u' 9 = .bool true := hd 9 (by kernel_rfl)
    refine step_value (v := .bool true) (W' := W) rfl ?_ (hK.out _ _ rfl hJ (Below.refl _ _))
    try dsimp only
    go_simp
    try omega
  refine StepsAt.cons _ rfl (fun u' W K' hJ hd hK => ?_) ?_
  · have d10 : u' 10 = .bool true := hd 10 (by kernel_rfl)
    refine step_value (v := .bool true) (W' := W) rfl ?_ (hK.out _ _ rfl hJ (Below.refl _ _))
    try dsimp only
    go_simp
    try omega
  refine StepsAt.cons _ rfl (fun u' W K' hJ hd hK => ?_) ?_
  · have dg : u' 11 = .bool true := hd 11 (by kernel_rfl)
    obtain ⟨_, ⟨y0, y1, y2, y3, y4⟩, _⟩ := HB1.out.next hJ
    simp only [Nat.zero_add] at y0 y1 y2 y3 y4
    refine step_value (v := .agg #[.int .i64 t.kind, .string ⟨t.of_.toArray⟩, .string ⟨t.name.toArray⟩, .slice q.A t.names.length q.c, .slice q.P t.parts.length q.d]) (W' := W) ?_ ?_ (hK.out _ _ rfl hJ (Below.refl _ _))
    · simp [Region.wanted, yielded, dg]
    · try dsimp only
      go_simp
      try omega
  refine StepsAt.cons _ rfl (fun u' W K' hJ hd hK => ?_) ?_
  · have dg : u' 11 = .bool true := hd 11 (by kernel_rfl)
    have d12 : u' 12 = .agg #[.int .i64 t.kind, .string ⟨t.of_.toArray⟩, .string ⟨t.name.toArray⟩, .slice q.A t.names.length q.c, .slice q.P t.parts.length q.d] := hd 12 (by kernel_rfl)
    refine step_enter (f := 14) (args := #[.agg #[.int .i64 t.kind, .string ⟨t.of_.toArray⟩, .string ⟨t.name.toArray⟩, .slice q.A t.names.length q.c, .slice q.P t.parts.length q.d]]) (W' := W) ?_ ?_ ((oDeep_walk t q W (HQ.out.next (below_next HBW.out hJ))).mono fun e w' h => ⟨_, h.1, hK.out _ _ (by rw [show deepTo t = 0 by unfold deepTo; rw [if_pos HC.out]]; rfl) (below_next hJ h.2) h.2⟩)
    · simp [Region.wanted, yielded, dg]
    · try dsimp only
      go_simp
      try omega
  refine StepsAt.cons _ rfl (fun u' W K' hJ hd hK => ?_) ?_
  · have dg : u' 11 = .bool true := hd 11 (by kernel_rfl)
    refine step_value (v := .int .i64 0) (W' := W) ?_ ?_ (hK.out _ _ rfl hJ (Below.refl _ _))
    · simp [Region.wanted, yielded, dg]
    · try dsimp only
      go_simp
      try omega
  refine StepsAt.cons _ rfl (fun u' W K' hJ hd hK => ?_) ?_
  · have dg : u' 11 = .bool true := hd 11 (by kernel_rfl)
    have d13 : u' 13 = .int .i64 0 := hd 13 (by kernel_rfl)
    have d14 : u' 14 = .int .i64 0 := hd 14 (by kernel_rfl)
    refine step_value (v := .bool true) (W' := W) ?_ ?_ (hK.out _ _ rfl hJ (Below.refl _ _))
    · simp [Region.wanted, yielded, dg]
    · try dsimp only
      go_simp
      try omega
  refine StepsAt.cons _ rfl (fun u' W K' hJ hd hK => ?_) ?_
  · have d11 : u' 11 = .bool true := hd 11 (by kernel_rfl)
    have d15 : u' 15 = .bool true := hd 15 (by kernel_rfl)
    refine step_value (v := .bool true) (W' := W) rfl ?_ (hK.out _ _ rfl hJ (Below.refl _ _))
    try dsimp only
    go_simp
    try omega
  refine StepsAt.cons _ rfl (fun u' W K' hJ hd hK => ?_) ?_
  · have d16 : u' 16 = .bool true := hd 16 (by kernel_rfl)
    refine step_value (v := .bool true) (W' := W) rfl ?_ (hK.out _ _ rfl hJ (Below.refl _ _))
    try dsimp only
    go_simp
    try omega
  refine StepsAt.cons _ rfl (fun u' W K' hJ hd hK => ?_) ?_
  · have dg : u' 17 = .bool true := hd 17 (by kernel_rfl)
    obtain ⟨_, ⟨y0, y1, y2, y3, y4⟩, _⟩ := HB1.out.next hJ
    simp only [Nat.zero_add] at y0 y1 y2 y3 y4
    refine step_value (v := .agg #[.int .i64 t.kind, .string ⟨t.of_.toArray⟩, .string ⟨t.name.toArray⟩, .slice q.A t.names.length q.c, .slice q.P t.parts.length q.d]) (W' := W) ?_ ?_ (hK.out _ _ rfl hJ (Below.refl _ _))
    · simp [Region.wanted, yielded, dg]
    · try dsimp only
      go_simp
      try omega
  refine StepsAt.cons _ rfl (fun u' W K' hJ hd hK => ?_) ?_
  · have dg : u' 17 = .bool true := hd 17 (by kernel_rfl)
    have d18 : u' 18 = .agg #[.int .i64 t.kind, .string ⟨t.of_.toArray⟩, .string ⟨t.name.toArray⟩, .slice q.A t.names.length q.c, .slice q.P t.parts.length q.d] := hd 18 (by kernel_rfl)
    refine step_enter (f := 15) (args := #[.agg #[.int .i64 t.kind, .string ⟨t.of_.toArray⟩, .string ⟨t.name.toArray⟩, .slice q.A t.names.length q.c, .slice q.P t.parts.length q.d]]) (W' := W) ?_ ?_ ((oClosed_walk t q W (HQ.out.next (below_next HBW.out hJ)) (HG.out.next (below_next HBW.out hJ))).mono fun e w' h => ⟨_, h.1, hK.out _ _ rfl (below_next hJ h.2) h.2⟩)
    · simp [Region.wanted, yielded, dg]
    · try dsimp only
      go_simp
      try omega
  refine StepsAt.cons _ rfl (fun u' W K' hJ hd hK => ?_) ?_
  · have dg : u' 17 = .bool true := hd 17 (by kernel_rfl)
    obtain ⟨_, ⟨y0, y1, y2, y3, y4⟩, _⟩ := HB1.out.next hJ
    simp only [Nat.zero_add] at y0 y1 y2 y3 y4
    refine step_value (v := .agg #[.int .i64 t.kind, .string ⟨t.of_.toArray⟩, .string ⟨t.name.toArray⟩, .slice q.A t.names.length q.c, .slice q.P t.parts.length q.d]) (W' := W) ?_ ?_ (hK.out _ _ rfl hJ (Below.refl _ _))
    · simp [Region.wanted, yielded, dg]
    · try dsimp only
      go_simp
      try omega
  refine StepsAt.cons _ rfl (fun u' W K' hJ hd hK => ?_) ?_
  · have dg : u' 17 = .bool true := hd 17 (by kernel_rfl)
    have d20 : u' 20 = .agg #[.int .i64 t.kind, .string ⟨t.of_.toArray⟩, .string ⟨t.name.toArray⟩, .slice q.A t.names.length q.c, .slice q.P t.parts.length q.d] := hd 20 (by kernel_rfl)
    refine step_enter (f := 16) (args := #[.agg #[.int .i64 t.kind, .string ⟨t.of_.toArray⟩, .string ⟨t.name.toArray⟩, .slice q.A t.names.length q.c, .slice q.P t.parts.length q.d]]) (W' := W) ?_ ?_ ((rclosed_walk t q W (HQ.out.next (below_next HBW.out hJ))).mono fun e w' h => ⟨_, h.1, hK.out _ _ rfl (below_next hJ h.2) h.2⟩)
    · simp [Region.wanted, yielded, dg]
    · try dsimp only
      go_simp
      try omega
  refine StepsAt.cons _ rfl (fun u' W K' hJ hd hK => ?_) ?_
  · have dg : u' 17 = .bool true := hd 17 (by kernel_rfl)
    have d19 : u' 19 = .bool (closed t) := hd 19 (by kernel_rfl)
    have d21 : u' 21 = .bool (closed t) := hd 21 (by kernel_rfl)
    refine step_value (v := .bool true) (W' := W) ?_ ?_ (hK.out _ _ rfl hJ (Below.refl _ _))
    · simp [Region.wanted, yielded, dg]
    · try dsimp only
      go_simp
      try omega
  refine StepsAt.cons _ rfl (fun u' W K' hJ hd hK => ?_) ?_
  · have d17 : u' 17 = .bool true := hd 17 (by kernel_rfl)
    have d22 : u' 22 = .bool true := hd 22 (by kernel_rfl)
    refine step_value (v := .bool true) (W' := W) rfl ?_ (hK.out _ _ rfl hJ (Below.refl _ _))
    try dsimp only
    go_simp
    try omega
  refine StepsAt.cons _ rfl (fun u' W K' hJ hd hK => ?_) ?_
  · have d23 : u' 23 = .bool true := hd 23 (by kernel_rfl)
    refine step_value (v := .bool true) (W' := W) rfl ?_ (hK.out _ _ rfl hJ (Below.refl _ _))
    try dsimp only
    go_simp
    try omega
  refine StepsAt.cons _ rfl (fun u' W K' hJ hd hK => ?_) ?_
  · have dg : u' 24 = .bool true := hd 24 (by kernel_rfl)
    refine step_enter (f := 17) (args := #[]) (W' := W) ?_ ?_ ((awake7_walk W (HG.out.next (below_next HBW.out hJ))).mono fun e w' h => ⟨_, h.1, hK.out _ _ rfl (below_next hJ h.2) h.2⟩)
    · simp [Region.wanted, yielded, dg]
    · try dsimp only
      go_simp
      try omega
  refine StepsAt.cons _ rfl (fun u' W K' hJ hd hK => ?_) ?_
  · have d24 : u' 24 = .bool true := hd 24 (by kernel_rfl)
    have d25 : u' 25 = .bool true := hd 25 (by kernel_rfl)
    refine step_value (v := .bool true) (W' := W) rfl ?_ (hK.out _ _ rfl hJ (Below.refl _ _))
    try dsimp only
    go_simp
    try omega
  refine StepsAt.cons _ rfl (fun u' W K' hJ hd hK => ?_) StepsAt.nil
  · have d26 : u' 26 = .bool true := hd 26 (by kernel_rfl)
    refine step_value (v := .bool true) (W' := W) rfl ?_ (hK.out _ _ rfl hJ (Below.refl _ _))
    try dsimp only
    go_simp
    try omega
  intro u' W' hJ' hok
  try dsimp only
  rw [show u' 27 = .bool true from hok 27 (by decide)]
  clear hok
  go_wp2
  go_ret
  exact ⟨rfl, below_next HB0.out (below_next HBW.out hJ')⟩

set_option maxRecDepth 100000 in
set_option maxHeartbeats 8000000 in
theorem checks_small (t : Sh) (q : Ptr) (w : World) (hq : ShAt w w.heap.size q t) (hg : WGlobs w) (hc : ¬ 400 < size t) :
    Calls Tryd.prog 3 #[.agg #[.int .i64 t.kind, .string ⟨t.of_.toArray⟩, .string ⟨t.name.toArray⟩, .slice q.A t.names.length q.c, .slice q.P t.parts.length q.d]] w fun e w' => e = .returned (.bool true) ∧ Below w.heap.size w w' := by
  have HC := Lib.hid hc
  have hsz := rsize_walk t q 400 _ (hq.next (below_one w (.cells #[.int .i64 t.kind, .string ⟨t.of_.toArray⟩, .string ⟨t.name.toArray⟩, .slice q.A t.names.length q.c, .slice q.P t.parts.length q.d] 25))) (by decide)
  rw [show ((400 : Nat) : Int) = (400 : Int) from rfl] at hsz
  have hle : (sizeTo 400 t : Int) ≤ 400 := by rw [sizeTo_ok hc]; omega
  have HDP := Lib.hid (Nat.le_trans (deep_size t) (Nat.le_trans (Nat.le_of_not_lt hc) (by decide : 400 ≤ 1000000)))
  have HSZ := Lib.hid hsz
  clear hsz hc
  have HB0 := Lib.hid (below_one w (.cells #[.int .i64 t.kind, .string ⟨t.of_.toArray⟩, .string ⟨t.name.toArray⟩, .slice q.A t.names.length q.c, .slice q.P t.parts.length q.d] 25))
  have HB := Lib.hid (box5_new w t q)
  have HQ := Lib.hid (hq.next HB0.out)
  have HG := Lib.hid (hg.next HB0.out)
  obtain ⟨a1, ⟨c0, c1, c2, c3, c4⟩, a2⟩ := HB.out
  clear hq hg a1 a2
  go_enter Tryd.func3, Tryd.ntmps3
  go_wp2_with fail
  generalize w.alloc (.cells #[.int .i64 t.kind, .string ⟨t.of_.toArray⟩, .string ⟨t.name.toArray⟩, .slice q.A t.names.length q.c, .slice q.P t.parts.length q.d] 25) = W0 at HB HB0 HQ HG HSZ c0 c1 c2 c3 c4 ⊢
  refine HSZ.out.mono ?_
  rintro e W1 ⟨rfl, hb1⟩
  have HBW := Lib.hid hb1
  have HB1 := Lib.hid (HB.out.next hb1)
  obtain ⟨a1, ⟨x0, x1, x2, x3, x4⟩, a2⟩ := HB1.out
  obtain ⟨N, hN⟩ : ∃ N, N = (sizeTo 400 t : Int) := ⟨_, rfl⟩
  have HN := Lib.hid hN
  rw [← hN] at hle ⊢
  clear hb1 HSZ a1 a2 c0 c1 c2 c3 c4 hN
  have HD := Lib.hid (rdeep_walk t q W1 (HQ.out.next HBW.out) HDP.out)
  go_wp2_with fail
  refine HD.out.mono ?_
  rintro e W2 ⟨rfl, hb2⟩
  have HBW2 := Lib.hid (below_next HBW.out hb2)
  have HB2 := Lib.hid (HB1.out.next hb2)
  obtain ⟨a1, ⟨y0, y1, y2, y3, y4⟩, a2⟩ := HB2.out
  obtain ⟨DD, hDD⟩ : ∃ DD, DD = (deep t : Int) := ⟨_, rfl⟩
  have HDD := Lib.hid hDD
  rw [← hDD]
  clear hb2 a1 a2 x0 x1 x2 x3 x4 HD hDD
  go_wp2_with fail
  refine wp_orders (rs := [0, 1, 2, 3, 4, 5, 6, 7, 8, 9, 10, 11, 12, 13, 14, 15, 16, 17, 18, 19, 20, 21, 22, 23, 24, 25, 26, 27])
    (fun u' => { tmps := #[.agg #[.int .i64 t.kind, .string { data := t.of_.toArray }, .string { data := t.name.toArray }, .slice q.A t.names.length q.c, .slice q.P t.parts.length q.d], .pointer (some { block := w.heap.size, off := 0 }), u' 27, .int .i64 N, .int .i64 DD, .agg #[.int .i64 t.kind, .string { data := t.of_.toArray }, .string { data := t.name.toArray }, .slice q.A t.names.length q.c, .slice q.P t.parts.length q.d], .int .i64 N, .int .i64 N, .bool true, .agg #[.int .i64 t.kind, .string { data := t.of_.toArray }, .string { data := t.name.toArray }, .slice q.A t.names.length q.c, .slice q.P t.parts.length q.d], .int .i64 DD, u' 0, u' 1, u' 2, u' 3, u' 4, u' 5, u' 6, u' 7, u' 8, u' 9, u' 10, u' 11, u' 12, u' 13, u' 14, u' 15, u' 16, u' 17, u' 18, u' 19, u' 20, u' 21, u' 22, u' 23, u' 24, u' 25, u' 26], defers := [] })
    (fun j => ([undef, undef, undef, undef, undef, undef, undef, undef, undef, undef, undef, undef, undef, undef, undef, undef, undef, undef, undef, undef, undef, undef, undef, undef, undef, undef, undef, .bool false] : List Value).getD j undef) (checks_smallT t q N DD) (fun W => Below W2.heap.size W2 W) (by kernel_rfl) (by kernel_rfl) (by kernel_rfl) (Below.refl _ _).drew ?_ ?_
  refine StepsAt.cons _ rfl (fun u' W K' hJ hd hK => ?_) ?_
  · obtain ⟨_, ⟨y0, y1, y2, y3, y4⟩, _⟩ := HB2.out.next hJ
    simp only [Nat.zero_add] at y0 y1 y2 y3 y4
    refine step_value (v := .agg #[.int .i64 t.kind, .string ⟨t.of_.toArray⟩, .string ⟨t.name.toArray⟩, .slice q.A t.names.length q.c, .slice q.P t.parts.length q.d]) (W' := W) rfl ?_ (hK.out _ _ rfl hJ (Below.refl _ _))
    try dsimp only
    go_simp
    try omega
  refine StepsAt.cons _ rfl (fun u' W K' hJ hd hK => ?_) ?_
  · have d0 : u' 0 = .agg #[.int .i64 t.kind, .string ⟨t.of_.toArray⟩, .string ⟨t.name.toArray⟩, .slice q.A t.names.length q.c, .slice q.P t.parts.length q.d] := hd 0 (by kernel_rfl)
    refine step_enter (f := 11) (args := #[.agg #[.int .i64 t.kind, .string ⟨t.of_.toArray⟩, .string ⟨t.name.toArray⟩, .slice q.A t.names.length q.c, .slice q.P t.parts.length q.d]]) (W' := W) rfl ?_ ((oCheck_walk t q W (HQ.out.next (below_next HBW2.out hJ)) (HG.out.next (below_next HBW2.out hJ))).mono fun e w' h => ⟨_, h.1, hK.out _ _ rfl (below_next hJ h.2) h.2⟩)
    try dsimp only
    go_simp
    try omega
  refine StepsAt.cons _ rfl (fun u' W K' hJ hd hK => ?_) ?_
  · obtain ⟨_, ⟨y0, y1, y2, y3, y4⟩, _⟩ := HB2.out.next hJ
    simp only [Nat.zero_add] at y0 y1 y2 y3 y4
    refine step_value (v := .agg #[.int .i64 t.kind, .string ⟨t.of_.toArray⟩, .string ⟨t.name.toArray⟩, .slice q.A t.names.length q.c, .slice q.P t.parts.length q.d]) (W' := W) rfl ?_ (hK.out _ _ rfl hJ (Below.refl _ _))
    try dsimp only
    go_simp
    try omega
  refine StepsAt.cons _ rfl (fun u' W K' hJ hd hK => ?_) ?_
  · have d2 : u' 2 = .agg #[.int .i64 t.kind, .string ⟨t.of_.toArray⟩, .string ⟨t.name.toArray⟩, .slice q.A t.names.length q.c, .slice q.P t.parts.length q.d] := hd 2 (by kernel_rfl)
    refine step_enter (f := 12) (args := #[.agg #[.int .i64 t.kind, .string ⟨t.of_.toArray⟩, .string ⟨t.name.toArray⟩, .slice q.A t.names.length q.c, .slice q.P t.parts.length q.d]]) (W' := W) rfl ?_ ((rcheck_walk t q W (HQ.out.next (below_next HBW2.out hJ))).mono fun e w' h => ⟨_, h.1, hK.out _ _ rfl (below_next hJ h.2) h.2⟩)
    try dsimp only
    go_simp
    try omega
  refine StepsAt.cons _ rfl (fun u' W K' hJ hd hK => ?_) ?_
  · have d1 : u' 1 = .int .i64 (check t) := hd 1 (by kernel_rfl)
    have d3 : u' 3 = .int .i64 (check t) := hd 3 (by kernel_rfl)
    refine step_value (v := .bool true) (W' := W) rfl ?_ (hK.out _ _ rfl hJ (Below.refl _ _))
    try dsimp only
    go_simp
    try omega
  refine StepsAt.cons _ rfl (fun u' W K' hJ hd hK => ?_) ?_
  · have d4 : u' 4 = .bool true := hd 4 (by kernel_rfl)
    refine step_value (v := .bool true) (W' := W) rfl ?_ (hK.out _ _ rfl hJ (Below.refl _ _))
    try dsimp only
    go_simp
    try omega
  refine StepsAt.cons _ rfl (fun u' W K' hJ hd hK => ?_) ?_
  · have dg : u' 5 = .bool true := hd 5 (by kernel_rfl)
    obtain ⟨_, ⟨y0, y1, y2, y3, y4⟩, _⟩ := HB2.out.next hJ
    simp only [Nat.zero_add] at y0 y1 y2 y3 y4
    refine step_value (v := .agg #[.int .i64 t.kind, .string ⟨t.of_.toArray⟩, .string ⟨t.name.toArray⟩, .slice q.A t.names.length q.c, .slice q.P t.parts.length q.d]) (W' := W) ?_ ?_ (hK.out _ _ rfl hJ (Below.refl _ _))
    · simp [Region.wanted, yielded, dg]
    · try dsimp only
      go_simp
      try omega
  refine StepsAt.cons _ rfl (fun u' W K' hJ hd hK => ?_) ?_
  · have dg : u' 5 = .bool true := hd 5 (by kernel_rfl)
    have d6 : u' 6 = .agg #[.int .i64 t.kind, .string ⟨t.of_.toArray⟩, .string ⟨t.name.toArray⟩, .slice q.A t.names.length q.c, .slice q.P t.parts.length q.d] := hd 6 (by kernel_rfl)
    refine step_enter (f := 13) (args := #[.agg #[.int .i64 t.kind, .string ⟨t.of_.toArray⟩, .string ⟨t.name.toArray⟩, .slice q.A t.names.length q.c, .slice q.P t.parts.length q.d]]) (W' := W) ?_ ?_ ((oSize_walk t q W (HQ.out.next (below_next HBW2.out hJ))).mono fun e w' h => ⟨_, h.1, hK.out _ _ (by rw [← HN.out]; rfl) (below_next hJ h.2) h.2⟩)
    · simp [Region.wanted, yielded, dg]
    · try dsimp only
      go_simp
      try omega
  refine StepsAt.cons _ rfl (fun u' W K' hJ hd hK => ?_) ?_
  · have dg : u' 5 = .bool true := hd 5 (by kernel_rfl)
    refine step_value (v := .int .i64 N) (W' := W) ?_ ?_ (hK.out _ _ rfl hJ (Below.refl _ _))
    · simp [Region.wanted, yielded, dg]
    · try dsimp only
      go_simp
      try omega
  refine StepsAt.cons _ rfl (fun u' W K' hJ hd hK => ?_) ?_
  · have dg : u' 5 = .bool true := hd 5 (by kernel_rfl)
    have d7 : u' 7 = .int .i64 N := hd 7 (by kernel_rfl)
    have d8 : u' 8 = .int .i64 N := hd 8 (by kernel_rfl)
    refine step_value (v := .bool true) (W' := W) ?_ ?_ (hK.out _ _ rfl hJ (Below.refl _ _))
    · simp [Region.wanted, yielded, dg]
    · try dsimp only
      go_simp
      try omega
  refine StepsAt.cons _ rfl (fun u' W K' hJ hd hK => ?_) ?_
  · have d5 : u' 5 = .bool true := hd 5 (by kernel_rfl)
    have d9 : u' 9 = .bool true := hd 9 (by kernel_rfl)
    refine step_value (v := .bool true) (W' := W) rfl ?_ (hK.out _ _ rfl hJ (Below.refl _ _))
    try dsimp only
    go_simp
    try omega
  refine StepsAt.cons _ rfl (fun u' W K' hJ hd hK => ?_) ?_
  · have d10 : u' 10 = .bool true := hd 10 (by kernel_rfl)
    refine step_value (v := .bool true) (W' := W) rfl ?_ (hK.out _ _ rfl hJ (Below.refl _ _))
    try dsimp only
    go_simp
    try omega
  refine StepsAt.cons _ rfl (fun u' W K' hJ hd hK => ?_) ?_
  · have dg : u' 11 = .bool true := hd 11 (by kernel_rfl)
    obtain ⟨_, ⟨y0, y1, y2, y3, y4⟩, _⟩ := HB2.out.next hJ
    simp only [Nat.zero_add] at y0 y1 y2 y3 y4
    refine step_value (v := .agg #[.int .i64 t.kind, .string ⟨t.of_.toArray⟩, .string ⟨t.name.toArray⟩, .slice q.A t.names.length q.c, .slice q.P t.parts.length q.d]) (W' := W) ?_ ?_ (hK.out _ _ rfl hJ (Below.refl _ _))
    · simp [Region.wanted, yielded, dg]
    · try dsimp only
      go_simp
      try omega
  refine StepsAt.cons _ rfl (fun u' W K' hJ hd hK => ?_) ?_
  · have dg : u' 11 = .bool true := hd 11 (by kernel_rfl)
    have d12 : u' 12 = .agg #[.int .i64 t.kind, .string ⟨t.of_.toArray⟩, .string ⟨t.name.toArray⟩, .slice q.A t.names.length q.c, .slice q.P t.parts.length q.d] := hd 12 (by kernel_rfl)
    refine step_enter (f := 14) (args := #[.agg #[.int .i64 t.kind, .string ⟨t.of_.toArray⟩, .string ⟨t.name.toArray⟩, .slice q.A t.names.length q.c, .slice q.P t.parts.length q.d]]) (W' := W) ?_ ?_ ((oDeep_walk t q W (HQ.out.next (below_next HBW2.out hJ))).mono fun e w' h => ⟨_, h.1, hK.out _ _ (by rw [show deepTo t = (deep t : Int) by unfold deepTo; rw [if_neg HC.out], ← HDD.out]; rfl) (below_next hJ h.2) h.2⟩)
    · simp [Region.wanted, yielded, dg]
    · try dsimp only
      go_simp
      try omega
  refine StepsAt.cons _ rfl (fun u' W K' hJ hd hK => ?_) ?_
  · have dg : u' 11 = .bool true := hd 11 (by kernel_rfl)
    refine step_value (v := .int .i64 DD) (W' := W) ?_ ?_ (hK.out _ _ rfl hJ (Below.refl _ _))
    · simp [Region.wanted, yielded, dg]
    · try dsimp only
      go_simp
      try omega
  refine StepsAt.cons _ rfl (fun u' W K' hJ hd hK => ?_) ?_
  · have dg : u' 11 = .bool true := hd 11 (by kernel_rfl)
    have d13 : u' 13 = .int .i64 DD := hd 13 (by kernel_rfl)
    have d14 : u' 14 = .int .i64 DD := hd 14 (by kernel_rfl)
    refine step_value (v := .bool true) (W' := W) ?_ ?_ (hK.out _ _ rfl hJ (Below.refl _ _))
    · simp [Region.wanted, yielded, dg]
    · try dsimp only
      go_simp
      try omega
  refine StepsAt.cons _ rfl (fun u' W K' hJ hd hK => ?_) ?_
  · have d11 : u' 11 = .bool true := hd 11 (by kernel_rfl)
    have d15 : u' 15 = .bool true := hd 15 (by kernel_rfl)
    refine step_value (v := .bool true) (W' := W) rfl ?_ (hK.out _ _ rfl hJ (Below.refl _ _))
    try dsimp only
    go_simp
    try omega
  refine StepsAt.cons _ rfl (fun u' W K' hJ hd hK => ?_) ?_
  · have d16 : u' 16 = .bool true := hd 16 (by kernel_rfl)
    refine step_value (v := .bool true) (W' := W) rfl ?_ (hK.out _ _ rfl hJ (Below.refl _ _))
    try dsimp only
    go_simp
    try omega
  refine StepsAt.cons _ rfl (fun u' W K' hJ hd hK => ?_) ?_
  · have dg : u' 17 = .bool true := hd 17 (by kernel_rfl)
    obtain ⟨_, ⟨y0, y1, y2, y3, y4⟩, _⟩ := HB2.out.next hJ
    simp only [Nat.zero_add] at y0 y1 y2 y3 y4
    refine step_value (v := .agg #[.int .i64 t.kind, .string ⟨t.of_.toArray⟩, .string ⟨t.name.toArray⟩, .slice q.A t.names.length q.c, .slice q.P t.parts.length q.d]) (W' := W) ?_ ?_ (hK.out _ _ rfl hJ (Below.refl _ _))
    · simp [Region.wanted, yielded, dg]
    · try dsimp only
      go_simp
      try omega
  refine StepsAt.cons _ rfl (fun u' W K' hJ hd hK => ?_) ?_
  · have dg : u' 17 = .bool true := hd 17 (by kernel_rfl)
    have d18 : u' 18 = .agg #[.int .i64 t.kind, .string ⟨t.of_.toArray⟩, .string ⟨t.name.toArray⟩, .slice q.A t.names.length q.c, .slice q.P t.parts.length q.d] := hd 18 (by kernel_rfl)
    refine step_enter (f := 15) (args := #[.agg #[.int .i64 t.kind, .string ⟨t.of_.toArray⟩, .string ⟨t.name.toArray⟩, .slice q.A t.names.length q.c, .slice q.P t.parts.length q.d]]) (W' := W) ?_ ?_ ((oClosed_walk t q W (HQ.out.next (below_next HBW2.out hJ)) (HG.out.next (below_next HBW2.out hJ))).mono fun e w' h => ⟨_, h.1, hK.out _ _ rfl (below_next hJ h.2) h.2⟩)
    · simp [Region.wanted, yielded, dg]
    · try dsimp only
      go_simp
      try omega
  refine StepsAt.cons _ rfl (fun u' W K' hJ hd hK => ?_) ?_
  · have dg : u' 17 = .bool true := hd 17 (by kernel_rfl)
    obtain ⟨_, ⟨y0, y1, y2, y3, y4⟩, _⟩ := HB2.out.next hJ
    simp only [Nat.zero_add] at y0 y1 y2 y3 y4
    refine step_value (v := .agg #[.int .i64 t.kind, .string ⟨t.of_.toArray⟩, .string ⟨t.name.toArray⟩, .slice q.A t.names.length q.c, .slice q.P t.parts.length q.d]) (W' := W) ?_ ?_ (hK.out _ _ rfl hJ (Below.refl _ _))
    · simp [Region.wanted, yielded, dg]
    · try dsimp only
      go_simp
      try omega
  refine StepsAt.cons _ rfl (fun u' W K' hJ hd hK => ?_) ?_
  · have dg : u' 17 = .bool true := hd 17 (by kernel_rfl)
    have d20 : u' 20 = .agg #[.int .i64 t.kind, .string ⟨t.of_.toArray⟩, .string ⟨t.name.toArray⟩, .slice q.A t.names.length q.c, .slice q.P t.parts.length q.d] := hd 20 (by kernel_rfl)
    refine step_enter (f := 16) (args := #[.agg #[.int .i64 t.kind, .string ⟨t.of_.toArray⟩, .string ⟨t.name.toArray⟩, .slice q.A t.names.length q.c, .slice q.P t.parts.length q.d]]) (W' := W) ?_ ?_ ((rclosed_walk t q W (HQ.out.next (below_next HBW2.out hJ))).mono fun e w' h => ⟨_, h.1, hK.out _ _ rfl (below_next hJ h.2) h.2⟩)
    · simp [Region.wanted, yielded, dg]
    · try dsimp only
      go_simp
      try omega
  refine StepsAt.cons _ rfl (fun u' W K' hJ hd hK => ?_) ?_
  · have dg : u' 17 = .bool true := hd 17 (by kernel_rfl)
    have d19 : u' 19 = .bool (closed t) := hd 19 (by kernel_rfl)
    have d21 : u' 21 = .bool (closed t) := hd 21 (by kernel_rfl)
    refine step_value (v := .bool true) (W' := W) ?_ ?_ (hK.out _ _ rfl hJ (Below.refl _ _))
    · simp [Region.wanted, yielded, dg]
    · try dsimp only
      go_simp
      try omega
  refine StepsAt.cons _ rfl (fun u' W K' hJ hd hK => ?_) ?_
  · have d17 : u' 17 = .bool true := hd 17 (by kernel_rfl)
    have d22 : u' 22 = .bool true := hd 22 (by kernel_rfl)
    refine step_value (v := .bool true) (W' := W) rfl ?_ (hK.out _ _ rfl hJ (Below.refl _ _))
    try dsimp only
    go_simp
    try omega
  refine StepsAt.cons _ rfl (fun u' W K' hJ hd hK => ?_) ?_
  · have d23 : u' 23 = .bool true := hd 23 (by kernel_rfl)
    refine step_value (v := .bool true) (W' := W) rfl ?_ (hK.out _ _ rfl hJ (Below.refl _ _))
    try dsimp only
    go_simp
    try omega
  refine StepsAt.cons _ rfl (fun u' W K' hJ hd hK => ?_) ?_
  · have dg : u' 24 = .bool true := hd 24 (by kernel_rfl)
    refine step_enter (f := 17) (args := #[]) (W' := W) ?_ ?_ ((awake7_walk W (HG.out.next (below_next HBW2.out hJ))).mono fun e w' h => ⟨_, h.1, hK.out _ _ rfl (below_next hJ h.2) h.2⟩)
    · simp [Region.wanted, yielded, dg]
    · try dsimp only
      go_simp
      try omega
  refine StepsAt.cons _ rfl (fun u' W K' hJ hd hK => ?_) ?_
  · have d24 : u' 24 = .bool true := hd 24 (by kernel_rfl)
    have d25 : u' 25 = .bool true := hd 25 (by kernel_rfl)
    refine step_value (v := .bool true) (W' := W) rfl ?_ (hK.out _ _ rfl hJ (Below.refl _ _))
    try dsimp only
    go_simp
    try omega
  refine StepsAt.cons _ rfl (fun u' W K' hJ hd hK => ?_) StepsAt.nil
  · have d26 : u' 26 = .bool true := hd 26 (by kernel_rfl)
    refine step_value (v := .bool true) (W' := W) rfl ?_ (hK.out _ _ rfl hJ (Below.refl _ _))
    try dsimp only
    go_simp
    try omega
  intro u' W' hJ' hok
  try dsimp only
  rw [show u' 27 = .bool true from hok 27 (by decide)]
  clear hok
  go_wp2
  go_ret
  exact ⟨rfl, below_next HB0.out (below_next HBW2.out hJ')⟩

set_option maxRecDepth 100000 in
set_option maxHeartbeats 8000000 in
theorem checks_walk (t : Sh) (q : Ptr) (w : World) (hq : ShAt w w.heap.size q t) (hg : WGlobs w) :
    Calls Tryd.prog 3 #[.agg #[.int .i64 t.kind, .string ⟨t.of_.toArray⟩, .string ⟨t.name.toArray⟩, .slice q.A t.names.length q.c, .slice q.P t.parts.length q.d]] w fun e w' => e = .returned (.bool true) ∧ Below w.heap.size w w' := by
  by_cases hc : 400 < size t
  · exact checks_big t q w hq hg hc
  · exact checks_small t q w hq hg hc
end Go.Proofs.YtkehnmapnckdgaaDoor
