/- The walk of ShapeTurned. -/
import Derived.Test.YtkehnmapnckdgaaDoorShpAwake
import Derived.Test.YtkehnmapnckdgaaDoorShpU4
import Derived.Test.YtkehnmapnckdgaaDoorShpU5
import Derived.Test.YtkehnmapnckdgaaDoorGEq
namespace Go.Proofs.YtkehnmapnckdgaaDoor
open Go.RowKit Shp
set_option linter.unusedVariables false
set_option linter.unusedSimpArgs false

set_option maxRecDepth 100000 in
set_option maxHeartbeats 8000000 in
theorem turned_no (t : Sh) (q : Ptr) (w : World) (hq : ShAt w w.heap.size q t) (hg : WGlobs w) (hc : check t ≠ 0) :
    Calls Tryd.prog 7 #[.agg #[.int .i64 t.kind, .string ⟨t.of_.toArray⟩, .string ⟨t.name.toArray⟩, .slice q.A t.names.length q.c, .slice q.P t.parts.length q.d]] w fun e w' => e = .returned (.bool true) ∧ Below w.heap.size w w' := by
  have HSO := Lib.hid (same_off hc t)
  have e1 : (check t != 0) = true := by simpa using hc
  have e2 : (check t == 0) = false := by simpa using hc
  clear hc
  have HB0 := Lib.hid (below_one w (.cells #[.int .i64 t.kind, .string ⟨t.of_.toArray⟩, .string ⟨t.name.toArray⟩, .slice q.A t.names.length q.c, .slice q.P t.parts.length q.d] 25))
  have HB := Lib.hid (box5_new w t q)
  have HQ := Lib.hid (hq.next HB0.out)
  have HG := Lib.hid (hg.next HB0.out)
  obtain ⟨a1, ⟨c0, c1, c2, c3, c4⟩, a2⟩ := HB.out
  clear hq hg a1 a2
  go_enter Tryd.func7, Tryd.ntmps7
  go_wp2_with fail
  generalize w.alloc (.cells #[.int .i64 t.kind, .string ⟨t.of_.toArray⟩, .string ⟨t.name.toArray⟩, .slice q.A t.names.length q.c, .slice q.P t.parts.length q.d] 25) = W0 at HB HB0 HQ HG c0 c1 c2 c3 c4 ⊢
  refine (oCheck_walk t q W0 HQ.out HG.out).mono ?_
  rintro e W1 ⟨rfl, hb1⟩
  have HBW := Lib.hid hb1
  obtain ⟨a1, ⟨x0, x1, x2, x3, x4⟩, a2⟩ := HB.out.next hb1
  have hs := osame_walk t t q q W1 (HQ.out.next hb1) (HQ.out.next hb1) (HG.out.next hb1)
  rw [HSO.out] at hs
  have HS := Lib.hid hs
  clear hb1 a1 a2 c0 c1 c2 c3 c4 hs
  go_wp2_with fail
  refine HS.out.mono ?_
  rintro e W2 ⟨rfl, hb2⟩
  have HBW2 := Lib.hid (below_next HBW.out hb2)
  clear hb2 x0 x1 x2 x3 x4 HS
  go_wp2_with fail
  refine (awake7_walk W2 (HG.out.next HBW2.out)).mono ?_
  rintro e W3 ⟨rfl, hb3⟩
  have HBW3 := Lib.hid (below_next HBW2.out hb3)
  clear hb3
  go_wp2
  go_ret
  exact ⟨rfl, below_next HB0.out HBW3.out⟩

def turnedT (t z : Sh) (q q' : Ptr) : Nat → Want
  | 0 => .val (.agg #[.int .i64 t.kind, .string ⟨t.of_.toArray⟩, .string ⟨t.name.toArray⟩, .slice q.A t.names.length q.c, .slice q.P t.parts.length q.d])
  | 1 => .val (.agg #[.int .i64 z.kind, .string ⟨z.of_.toArray⟩, .string ⟨z.name.toArray⟩, .slice q'.A z.names.length q'.c, .slice q'.P z.parts.length q'.d])
  | 2 => .val (.bool true)
  | 3 => .val (.bool true)
  | 4 => .val (.agg #[.int .i64 z.kind, .string ⟨z.of_.toArray⟩, .string ⟨z.name.toArray⟩, .slice q'.A z.names.length q'.c, .slice q'.P z.parts.length q'.d])
  | 5 => .val (.agg #[.int .i64 t.kind, .string ⟨t.of_.toArray⟩, .string ⟨t.name.toArray⟩, .slice q.A t.names.length q.c, .slice q.P t.parts.length q.d])
  | 6 => .val (.bool true)
  | 7 => .val (.bool true)
  | 8 => .val (.bool true)
  | 9 => .val (.agg #[.int .i64 t.kind, .string ⟨t.of_.toArray⟩, .string ⟨t.name.toArray⟩, .slice q.A t.names.length q.c, .slice q.P t.parts.length q.d])
  | 10 => wantSh (sorted t)
  | 11 => .val (.agg #[.int .i64 z.kind, .string ⟨z.of_.toArray⟩, .string ⟨z.name.toArray⟩, .slice q'.A z.names.length q'.c, .slice q'.P z.parts.length q'.d])
  | 12 => wantSh (sorted z)
  | 13 => .val (.bool true)
  | 14 => .val (.bool true)
  | 15 => .val (.bool true)
  | 16 => .val (.agg #[.int .i64 t.kind, .string ⟨t.of_.toArray⟩, .string ⟨t.name.toArray⟩, .slice q.A t.names.length q.c, .slice q.P t.parts.length q.d])
  | 17 => .val (.int .i64 (sizeTo 400 t : Int))
  | 18 => .val (.agg #[.int .i64 z.kind, .string ⟨z.of_.toArray⟩, .string ⟨z.name.toArray⟩, .slice q'.A z.names.length q'.c, .slice q'.P z.parts.length q'.d])
  | 19 => .val (.int .i64 (sizeTo 400 t : Int))
  | 20 => .val (.bool true)
  | 21 => .val (.bool true)
  | 22 => .val (.bool true)
  | 23 => .val (.bool true)
  | 24 => .val (.bool true)
  | 25 => .val (.bool true)
  | _ => .any

set_option maxRecDepth 100000 in
set_option maxHeartbeats 8000000 in
theorem turned_yes (t : Sh) (q : Ptr) (w : World) (hq : ShAt w w.heap.size q t) (hg : WGlobs w) (hc : check t = 0) :
    Calls Tryd.prog 7 #[.agg #[.int .i64 t.kind, .string ⟨t.of_.toArray⟩, .string ⟨t.name.toArray⟩, .slice q.A t.names.length q.c, .slice q.P t.parts.length q.d]] w fun e w' => e = .returned (.bool true) ∧ Below w.heap.size w w' := by
  have HC := Lib.hid hc
  have e1 : (check t != 0) = false := by simpa using hc
  have e2 : (check t == 0) = true := by simpa using hc
  clear hc
  have HB0 := Lib.hid (below_one w (.cells #[.int .i64 t.kind, .string ⟨t.of_.toArray⟩, .string ⟨t.name.toArray⟩, .slice q.A t.names.length q.c, .slice q.P t.parts.length q.d] 25))
  have HB := Lib.hid (box5_new w t q)
  have HQ := Lib.hid (hq.next HB0.out)
  have HG := Lib.hid (hg.next HB0.out)
  obtain ⟨a1, ⟨c0, c1, c2, c3, c4⟩, a2⟩ := HB.out
  clear hq hg a1 a2
  go_enter Tryd.func7, Tryd.ntmps7
  go_wp2_with fail
  generalize w.alloc (.cells #[.int .i64 t.kind, .string ⟨t.of_.toArray⟩, .string ⟨t.name.toArray⟩, .slice q.A t.names.length q.c, .slice q.P t.parts.length q.d] 25) = W0 at HB HB0 HQ HG c0 c1 c2 c3 c4 ⊢
  refine (oCheck_walk t q W0 HQ.out HG.out).mono ?_
  rintro e W1 ⟨rfl, hb1⟩
  have HBW := Lib.hid hb1
  have HB1 := Lib.hid (HB.out.next hb1)
  obtain ⟨a1, ⟨x0, x1, x2, x3, x4⟩, a2⟩ := HB1.out
  have HT := Lib.hid (rturned_walk t q W1 (HQ.out.next hb1) (check_ok HC.out).2.2 (check_ok HC.out).1)
  clear hb1 a1 a2 c0 c1 c2 c3 c4
  go_wp2_with fail
  refine HT.out.mono ?_
  rintro e W2 ⟨q', F, rfl, ho, hF, hb2⟩
  have HAT := Lib.hid (ho.at_ ho.lt)
  have HBW2 := Lib.hid (below_next HBW.out hb2)
  have HB2 := Lib.hid (HB1.out.next hb2)
  obtain ⟨z, hz⟩ : ∃ z, z = turned t := ⟨_, rfl⟩
  rw [← hz] at HAT ⊢
  have HZ := Lib.hid hz
  have HAT3 := Lib.hid (HAT.out.next (below_one W2 (.cells #[.int .i64 z.kind, .string ⟨z.of_.toArray⟩, .string ⟨z.name.toArray⟩, .slice q'.A z.names.length q'.c, .slice q'.P z.parts.length q'.d] 25)))
  have HBW3 := Lib.hid (below_next HBW2.out (below_one W2 (.cells #[.int .i64 z.kind, .string ⟨z.of_.toArray⟩, .string ⟨z.name.toArray⟩, .slice q'.A z.names.length q'.c, .slice q'.P z.parts.length q'.d] 25)))
  have HB3 := Lib.hid (HB2.out.next (below_one W2 (.cells #[.int .i64 z.kind, .string ⟨z.of_.toArray⟩, .string ⟨z.name.toArray⟩, .slice q'.A z.names.length q'.c, .slice q'.P z.parts.length q'.d] 25)))
  have HZ3 := Lib.hid (box5_new W2 z q')
  have HKZ : Hid (check z = 0) := Lib.hid (by rw [hz]; exact check_turned HC.out)
  have HSO : Hid (sorted z = sorted t) := Lib.hid (by rw [hz]; exact sorted_turned t (check_ok HC.out).2.2)
  have HTZ : Hid (same t z = true) := Lib.hid (by rw [hz]; exact same_turned HC.out)
  have HZT : Hid (same z t = true) := Lib.hid (by rw [same_comm]; exact HTZ.out)
  have HSZ : Hid (sizeTo 400 z = sizeTo 400 t) := Lib.hid (by unfold sizeTo; rw [hz, size_turned t (check_ok HC.out).2.2])
  clear ho hF hb2 hz HT x0 x1 x2 x3 x4
  go_wp2_with fail
  generalize W2.alloc (.cells #[.int .i64 z.kind, .string ⟨z.of_.toArray⟩, .string ⟨z.name.toArray⟩, .slice q'.A z.names.length q'.c, .slice q'.P z.parts.length q'.d] 25) = W3 at HAT3 HBW3 HB3 HZ3 ⊢
  refine wp_orders (rs := [0, 1, 2, 3, 4, 5, 6, 7, 8, 9, 10, 11, 12, 13, 14, 15, 16, 17, 18, 19, 20, 21, 22, 23, 24, 25])
    (fun u' => { tmps := #[.agg #[.int .i64 t.kind, .string { data := t.of_.toArray }, .string { data := t.name.toArray }, .slice q.A t.names.length q.c, .slice q.P t.parts.length q.d], .pointer (some { block := w.heap.size, off := 0 }), u' 25, .pointer (some { block := W2.heap.size, off := 0 }), .agg #[.int .i64 t.kind, .string { data := t.of_.toArray }, .string { data := t.name.toArray }, .slice q.A t.names.length q.c, .slice q.P t.parts.length q.d], .int .i64 (check t), .bool false, undef, undef, undef, undef, undef, undef, undef, .agg #[.int .i64 t.kind, .string { data := t.of_.toArray }, .string { data := t.name.toArray }, .slice q.A t.names.length q.c, .slice q.P t.parts.length q.d], .agg #[.int .i64 z.kind, .string { data := z.of_.toArray }, .string { data := z.name.toArray }, .slice q'.A z.names.length q'.c, .slice q'.P z.parts.length q'.d], u' 0, u' 1, u' 2, u' 3, u' 4, u' 5, u' 6, u' 7, u' 8, u' 9, u' 10, u' 11, u' 12, u' 13, u' 14, u' 15, u' 16, u' 17, u' 18, u' 19, u' 20, u' 21, u' 22, u' 23, u' 24], defers := [] })
    (fun j => ([undef, undef, undef, undef, undef, undef, undef, undef, undef, undef, undef, undef, undef, undef, undef, undef, undef, undef, undef, undef, undef, undef, undef, undef, undef, .bool false] : List Value).getD j undef) (turnedT t z q q') (fun W => Below W3.heap.size W3 W) (by kernel_rfl) (by kernel_rfl) (by kernel_rfl) (Below.refl _ _).drew ?_ ?_
  refine StepsAt.cons _ rfl (fun u' W K' hJ hd hK => ?_) ?_
  · obtain ⟨_, ⟨y0, y1, y2, y3, y4⟩, _⟩ := HB3.out.next hJ
    simp only [Nat.zero_add] at y0 y1 y2 y3 y4
    refine step_value (v := .agg #[.int .i64 t.kind, .string ⟨t.of_.toArray⟩, .string ⟨t.name.toArray⟩, .slice q.A t.names.length q.c, .slice q.P t.parts.length q.d]) (W' := W) rfl ?_ (hK.out _ _ rfl hJ (Below.refl _ _))
    try dsimp only
    go_simp
    try omega
  refine StepsAt.cons _ rfl (fun u' W K' hJ hd hK => ?_) ?_
  · obtain ⟨_, ⟨y0, y1, y2, y3, y4⟩, _⟩ := HZ3.out.next hJ
    simp only [Nat.zero_add] at y0 y1 y2 y3 y4
    refine step_value (v := .agg #[.int .i64 z.kind, .string ⟨z.of_.toArray⟩, .string ⟨z.name.toArray⟩, .slice q'.A z.names.length q'.c, .slice q'.P z.parts.length q'.d]) (W' := W) rfl ?_ (hK.out _ _ rfl hJ (Below.refl _ _))
    try dsimp only
    go_simp
    try omega
  refine StepsAt.cons _ rfl (fun u' W K' hJ hd hK => ?_) ?_
  · have d0 : u' 0 = .agg #[.int .i64 t.kind, .string ⟨t.of_.toArray⟩, .string ⟨t.name.toArray⟩, .slice q.A t.names.length q.c, .slice q.P t.parts.length q.d] := hd 0 (by kernel_rfl)
    have d1 : u' 1 = .agg #[.int .i64 z.kind, .string ⟨z.of_.toArray⟩, .string ⟨z.name.toArray⟩, .slice q'.A z.names.length q'.c, .slice q'.P z.parts.length q'.d] := hd 1 (by kernel_rfl)
    refine step_enter (f := 21) (args := #[.agg #[.int .i64 t.kind, .string ⟨t.of_.toArray⟩, .string ⟨t.name.toArray⟩, .slice q.A t.names.length q.c, .slice q.P t.parts.length q.d], .agg #[.int .i64 z.kind, .string ⟨z.of_.toArray⟩, .string ⟨z.name.toArray⟩, .slice q'.A z.names.length q'.c, .slice q'.P z.parts.length q'.d]]) (W' := W) rfl ?_ ((osame_walk t z q q' W (HQ.out.next (below_next HBW3.out hJ)) (HAT3.out.next hJ) (HG.out.next (below_next HBW3.out hJ))).mono fun e w' h => ⟨_, h.1, hK.out _ _ (by rw [HTZ.out]; rfl) (below_next hJ h.2) h.2⟩)
    try dsimp only
    go_simp
    try omega
  refine StepsAt.cons _ rfl (fun u' W K' hJ hd hK => ?_) ?_
  · have d2 : u' 2 = .bool true := hd 2 (by kernel_rfl)
    refine step_value (v := .bool true) (W' := W) rfl ?_ (hK.out _ _ rfl hJ (Below.refl _ _))
    try dsimp only
    go_simp
    try omega
  refine StepsAt.cons _ rfl (fun u' W K' hJ hd hK => ?_) ?_
  · have dg : u' 3 = .bool true := hd 3 (by kernel_rfl)
    obtain ⟨_, ⟨y0, y1, y2, y3, y4⟩, _⟩ := HZ3.out.next hJ
    simp only [Nat.zero_add] at y0 y1 y2 y3 y4
    refine step_value (v := .agg #[.int .i64 z.kind, .string ⟨z.of_.toArray⟩, .string ⟨z.name.toArray⟩, .slice q'.A z.names.length q'.c, .slice q'.P z.parts.length q'.d]) (W' := W) ?_ ?_ (hK.out _ _ rfl hJ (Below.refl _ _))
    · simp [Region.wanted, yielded, dg]
    · try dsimp only
      go_simp
      try omega
  refine StepsAt.cons _ rfl (fun u' W K' hJ hd hK => ?_) ?_
  · have dg : u' 3 = .bool true := hd 3 (by kernel_rfl)
    obtain ⟨_, ⟨y0, y1, y2, y3, y4⟩, _⟩ := HB3.out.next hJ
    simp only [Nat.zero_add] at y0 y1 y2 y3 y4
    refine step_value (v := .agg #[.int .i64 t.kind, .string ⟨t.of_.toArray⟩, .string ⟨t.name.toArray⟩, .slice q.A t.names.length q.c, .slice q.P t.parts.length q.d]) (W' := W) ?_ ?_ (hK.out _ _ rfl hJ (Below.refl _ _))
    · simp [Region.wanted, yielded, dg]
    · try dsimp only
      go_simp
      try omega
  refine StepsAt.cons _ rfl (fun u' W K' hJ hd hK => ?_) ?_
  · have dg : u' 3 = .bool true := hd 3 (by kernel_rfl)
    have d4 : u' 4 = .agg #[.int .i64 z.kind, .string ⟨z.of_.toArray⟩, .string ⟨z.name.toArray⟩, .slice q'.A z.names.length q'.c, .slice q'.P z.parts.length q'.d] := hd 4 (by kernel_rfl)
    have d5 : u' 5 = .agg #[.int .i64 t.kind, .string ⟨t.of_.toArray⟩, .string ⟨t.name.toArray⟩, .slice q.A t.names.length q.c, .slice q.P t.parts.length q.d] := hd 5 (by kernel_rfl)
    refine step_enter (f := 21) (args := #[.agg #[.int .i64 z.kind, .string ⟨z.of_.toArray⟩, .string ⟨z.name.toArray⟩, .slice q'.A z.names.length q'.c, .slice q'.P z.parts.length q'.d], .agg #[.int .i64 t.kind, .string ⟨t.of_.toArray⟩, .string ⟨t.name.toArray⟩, .slice q.A t.names.length q.c, .slice q.P t.parts.length q.d]]) (W' := W) ?_ ?_ ((osame_walk z t q' q W (HAT3.out.next hJ) (HQ.out.next (below_next HBW3.out hJ)) (HG.out.next (below_next HBW3.out hJ))).mono fun e w' h => ⟨_, h.1, hK.out _ _ (by rw [HZT.out]; rfl) (below_next hJ h.2) h.2⟩)
    · simp [Region.wanted, yielded, dg]
    · try dsimp only
      go_simp
      try omega
  refine StepsAt.cons _ rfl (fun u' W K' hJ hd hK => ?_) ?_
  · have d3 : u' 3 = .bool true := hd 3 (by kernel_rfl)
    have d6 : u' 6 = .bool true := hd 6 (by kernel_rfl)
    refine step_value (v := .bool true) (W' := W) rfl ?_ (hK.out _ _ rfl hJ (Below.refl _ _))
    try dsimp only
    go_simp
    try omega
  refine StepsAt.cons _ rfl (fun u' W K' hJ hd hK => ?_) ?_
  · have d7 : u' 7 = .bool true := hd 7 (by kernel_rfl)
    refine step_value (v := .bool true) (W' := W) rfl ?_ (hK.out _ _ rfl hJ (Below.refl _ _))
    try dsimp only
    go_simp
    try omega
  refine StepsAt.cons _ rfl (fun u' W K' hJ hd hK => ?_) ?_
  · have dg : u' 8 = .bool true := hd 8 (by kernel_rfl)
    obtain ⟨_, ⟨y0, y1, y2, y3, y4⟩, _⟩ := HB3.out.next hJ
    simp only [Nat.zero_add] at y0 y1 y2 y3 y4
    refine step_value (v := .agg #[.int .i64 t.kind, .string ⟨t.of_.toArray⟩, .string ⟨t.name.toArray⟩, .slice q.A t.names.length q.c, .slice q.P t.parts.length q.d]) (W' := W) ?_ ?_ (hK.out _ _ rfl hJ (Below.refl _ _))
    · simp [Region.wanted, yielded, dg]
    · try dsimp only
      go_simp
      try omega
  refine StepsAt.cons _ rfl (fun u' W K' hJ hd hK => ?_) ?_
  · have dg : u' 8 = .bool true := hd 8 (by kernel_rfl)
    have d9 : u' 9 = .agg #[.int .i64 t.kind, .string ⟨t.of_.toArray⟩, .string ⟨t.name.toArray⟩, .slice q.A t.names.length q.c, .slice q.P t.parts.length q.d] := hd 9 (by kernel_rfl)
    refine step_enter (f := 19) (args := #[.agg #[.int .i64 t.kind, .string ⟨t.of_.toArray⟩, .string ⟨t.name.toArray⟩, .slice q.A t.names.length q.c, .slice q.P t.parts.length q.d]]) (W' := W) ?_ ?_ ((oSort_walk t q W (HQ.out.next (below_next HBW3.out hJ)) (HG.out.next (below_next HBW3.out hJ)) HC.out).mono fun e w' ⟨q', he, ha, hb⟩ => ⟨_, he, hK.out _ _ ⟨q', rfl, ha⟩ (below_next hJ hb) hb⟩)
    · simp [Region.wanted, yielded, dg]
    · try dsimp only
      go_simp
      try omega
  refine StepsAt.cons _ rfl (fun u' W K' hJ hd hK => ?_) ?_
  · have dg : u' 8 = .bool true := hd 8 (by kernel_rfl)
    obtain ⟨_, ⟨y0, y1, y2, y3, y4⟩, _⟩ := HZ3.out.next hJ
    simp only [Nat.zero_add] at y0 y1 y2 y3 y4
    refine step_value (v := .agg #[.int .i64 z.kind, .string ⟨z.of_.toArray⟩, .string ⟨z.name.toArray⟩, .slice q'.A z.names.length q'.c, .slice q'.P z.parts.length q'.d]) (W' := W) ?_ ?_ (hK.out _ _ rfl hJ (Below.refl _ _))
    · simp [Region.wanted, yielded, dg]
    · try dsimp only
      go_simp
      try omega
  refine StepsAt.cons _ rfl (fun u' W K' hJ hd hK => ?_) ?_
  · have dg : u' 8 = .bool true := hd 8 (by kernel_rfl)
    have d11 : u' 11 = .agg #[.int .i64 z.kind, .string ⟨z.of_.toArray⟩, .string ⟨z.name.toArray⟩, .slice q'.A z.names.length q'.c, .slice q'.P z.parts.length q'.d] := hd 11 (by kernel_rfl)
    refine step_enter (f := 19) (args := #[.agg #[.int .i64 z.kind, .string ⟨z.of_.toArray⟩, .string ⟨z.name.toArray⟩, .slice q'.A z.names.length q'.c, .slice q'.P z.parts.length q'.d]]) (W' := W) ?_ ?_ ((oSort_walk z q' W (HAT3.out.next hJ) (HG.out.next (below_next HBW3.out hJ)) HKZ.out).mono fun e w' ⟨q', he, ha, hb⟩ => ⟨_, he, hK.out _ _ ⟨q', rfl, ha⟩ (below_next hJ hb) hb⟩)
    · simp [Region.wanted, yielded, dg]
    · try dsimp only
      go_simp
      try omega
  refine StepsAt.cons _ rfl (fun u' W K' hJ hd hK => ?_) ?_
  · have dg : u' 8 = .bool true := hd 8 (by kernel_rfl)
    obtain ⟨qa, d10, a1⟩ := hd 10 (by kernel_rfl)
    obtain ⟨qb, d12, a3⟩ := hd 12 (by kernel_rfl)
    refine step_enter (f := 18) (args := #[.agg #[.int .i64 (sorted t).kind, .string ⟨(sorted t).of_.toArray⟩, .string ⟨(sorted t).name.toArray⟩, .slice qa.A (sorted t).names.length qa.c, .slice qa.P (sorted t).parts.length qa.d], .agg #[.int .i64 (sorted z).kind, .string ⟨(sorted z).of_.toArray⟩, .string ⟨(sorted z).name.toArray⟩, .slice qb.A (sorted z).names.length qb.c, .slice qb.P (sorted z).parts.length qb.d]]) (W' := W) ?_ ?_ ((requal_walk (sorted t) (sorted z) qa qb W a1 a3).mono fun e w' h => ⟨_, h.1, hK.out _ _ (by rw [HSO.out, eqB_refl]; rfl) (below_next hJ h.2) h.2⟩)
    · simp [Region.wanted, yielded, dg]
    · try dsimp only
      go_simp
      try omega
  refine StepsAt.cons _ rfl (fun u' W K' hJ hd hK => ?_) ?_
  · have d8 : u' 8 = .bool true := hd 8 (by kernel_rfl)
    have d13 : u' 13 = .bool true := hd 13 (by kernel_rfl)
    refine step_value (v := .bool true) (W' := W) rfl ?_ (hK.out _ _ rfl hJ (Below.refl _ _))
    try dsimp only
    go_simp
    try omega
  refine StepsAt.cons _ rfl (fun u' W K' hJ hd hK => ?_) ?_
  · have d14 : u' 14 = .bool true := hd 14 (by kernel_rfl)
    refine step_value (v := .bool true) (W' := W) rfl ?_ (hK.out _ _ rfl hJ (Below.refl _ _))
    try dsimp only
    go_simp
    try omega
  refine StepsAt.cons _ rfl (fun u' W K' hJ hd hK => ?_) ?_
  · have dg : u' 15 = .bool true := hd 15 (by kernel_rfl)
    obtain ⟨_, ⟨y0, y1, y2, y3, y4⟩, _⟩ := HB3.out.next hJ
    simp only [Nat.zero_add] at y0 y1 y2 y3 y4
    refine step_value (v := .agg #[.int .i64 t.kind, .string ⟨t.of_.toArray⟩, .string ⟨t.name.toArray⟩, .slice q.A t.names.length q.c, .slice q.P t.parts.length q.d]) (W' := W) ?_ ?_ (hK.out _ _ rfl hJ (Below.refl _ _))
    · simp [Region.wanted, yielded, dg]
    · try dsimp only
      go_simp
      try omega
  refine StepsAt.cons _ rfl (fun u' W K' hJ hd hK => ?_) ?_
  · have dg : u' 15 = .bool true := hd 15 (by kernel_rfl)
    have d16 : u' 16 = .agg #[.int .i64 t.kind, .string ⟨t.of_.toArray⟩, .string ⟨t.name.toArray⟩, .slice q.A t.names.length q.c, .slice q.P t.parts.length q.d] := hd 16 (by kernel_rfl)
    refine step_enter (f := 13) (args := #[.agg #[.int .i64 t.kind, .string ⟨t.of_.toArray⟩, .string ⟨t.name.toArray⟩, .slice q.A t.names.length q.c, .slice q.P t.parts.length q.d]]) (W' := W) ?_ ?_ ((oSize_walk t q W (HQ.out.next (below_next HBW3.out hJ))).mono fun e w' h => ⟨_, h.1, hK.out _ _ rfl (below_next hJ h.2) h.2⟩)
    · simp [Region.wanted, yielded, dg]
    · try dsimp only
      go_simp
      try omega
  refine StepsAt.cons _ rfl (fun u' W K' hJ hd hK => ?_) ?_
  · have dg : u' 15 = .bool true := hd 15 (by kernel_rfl)
    obtain ⟨_, ⟨y0, y1, y2, y3, y4⟩, _⟩ := HZ3.out.next hJ
    simp only [Nat.zero_add] at y0 y1 y2 y3 y4
    refine step_value (v := .agg #[.int .i64 z.kind, .string ⟨z.of_.toArray⟩, .string ⟨z.name.toArray⟩, .slice q'.A z.names.length q'.c, .slice q'.P z.parts.length q'.d]) (W' := W) ?_ ?_ (hK.out _ _ rfl hJ (Below.refl _ _))
    · simp [Region.wanted, yielded, dg]
    · try dsimp only
      go_simp
      try omega
  refine StepsAt.cons _ rfl (fun u' W K' hJ hd hK => ?_) ?_
  · have dg : u' 15 = .bool true := hd 15 (by kernel_rfl)
    have d18 : u' 18 = .agg #[.int .i64 z.kind, .string ⟨z.of_.toArray⟩, .string ⟨z.name.toArray⟩, .slice q'.A z.names.length q'.c, .slice q'.P z.parts.length q'.d] := hd 18 (by kernel_rfl)
    refine step_enter (f := 13) (args := #[.agg #[.int .i64 z.kind, .string ⟨z.of_.toArray⟩, .string ⟨z.name.toArray⟩, .slice q'.A z.names.length q'.c, .slice q'.P z.parts.length q'.d]]) (W' := W) ?_ ?_ ((oSize_walk z q' W (HAT3.out.next hJ)).mono fun e w' h => ⟨_, h.1, hK.out _ _ (by rw [HSZ.out]; rfl) (below_next hJ h.2) h.2⟩)
    · simp [Region.wanted, yielded, dg]
    · try dsimp only
      go_simp
      try omega
  refine StepsAt.cons _ rfl (fun u' W K' hJ hd hK => ?_) ?_
  · have dg : u' 15 = .bool true := hd 15 (by kernel_rfl)
    have d17 : u' 17 = .int .i64 (sizeTo 400 t : Int) := hd 17 (by kernel_rfl)
    have d19 : u' 19 = .int .i64 (sizeTo 400 t : Int) := hd 19 (by kernel_rfl)
    refine step_value (v := .bool true) (W' := W) ?_ ?_ (hK.out _ _ rfl hJ (Below.refl _ _))
    · simp [Region.wanted, yielded, dg]
    · try dsimp only
      go_simp
      try omega
  refine StepsAt.cons _ rfl (fun u' W K' hJ hd hK => ?_) ?_
  · have d15 : u' 15 = .bool true := hd 15 (by kernel_rfl)
    have d20 : u' 20 = .bool true := hd 20 (by kernel_rfl)
    refine step_value (v := .bool true) (W' := W) rfl ?_ (hK.out _ _ rfl hJ (Below.refl _ _))
    try dsimp only
    go_simp
    try omega
  refine StepsAt.cons _ rfl (fun u' W K' hJ hd hK => ?_) ?_
  · have d21 : u' 21 = .bool true := hd 21 (by kernel_rfl)
    refine step_value (v := .bool true) (W' := W) rfl ?_ (hK.out _ _ rfl hJ (Below.refl _ _))
    try dsimp only
    go_simp
    try omega
  refine StepsAt.cons _ rfl (fun u' W K' hJ hd hK => ?_) ?_
  · have dg : u' 22 = .bool true := hd 22 (by kernel_rfl)
    refine step_enter (f := 17) (args := #[]) (W' := W) ?_ ?_ ((awake7_walk W (HG.out.next (below_next HBW3.out hJ))).mono fun e w' h => ⟨_, h.1, hK.out _ _ rfl (below_next hJ h.2) h.2⟩)
    · simp [Region.wanted, yielded, dg]
    · try dsimp only
      go_simp
      try omega
  refine StepsAt.cons _ rfl (fun u' W K' hJ hd hK => ?_) ?_
  · have d22 : u' 22 = .bool true := hd 22 (by kernel_rfl)
    have d23 : u' 23 = .bool true := hd 23 (by kernel_rfl)
    refine step_value (v := .bool true) (W' := W) rfl ?_ (hK.out _ _ rfl hJ (Below.refl _ _))
    try dsimp only
    go_simp
    try omega
  refine StepsAt.cons _ rfl (fun u' W K' hJ hd hK => ?_) StepsAt.nil
  · have d24 : u' 24 = .bool true := hd 24 (by kernel_rfl)
    refine step_value (v := .bool true) (W' := W) rfl ?_ (hK.out _ _ rfl hJ (Below.refl _ _))
    try dsimp only
    go_simp
    try omega
  intro u' W' hJ' hok
  try dsimp only
  rw [show u' 25 = .bool true from hok 25 (by decide)]
  clear hok
  go_wp2
  go_ret
  exact ⟨rfl, below_next HB0.out (below_next HBW3.out hJ')⟩

set_option maxRecDepth 100000 in
set_option maxHeartbeats 8000000 in
theorem turned_walk (t : Sh) (q : Ptr) (w : World) (hq : ShAt w w.heap.size q t) (hg : WGlobs w) :
    Calls Tryd.prog 7 #[.agg #[.int .i64 t.kind, .string ⟨t.of_.toArray⟩, .string ⟨t.name.toArray⟩, .slice q.A t.names.length q.c, .slice q.P t.parts.length q.d]] w fun e w' => e = .returned (.bool true) ∧ Below w.heap.size w w' := by
  by_cases hc : check t = 0
  · exact turned_yes t q w hq hg hc
  · exact turned_no t q w hq hg hc
end Go.Proofs.YtkehnmapnckdgaaDoor
