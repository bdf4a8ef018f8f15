/- The walk of ShapeSorts. -/
import Derived.Test.YtkehnmapnckdgaaDoorShpAwake
import Derived.Test.YtkehnmapnckdgaaDoorShpU4
namespace Go.Proofs.YtkehnmapnckdgaaDoor
open Go.RowKit Shp
set_option linter.unusedVariables false
set_option linter.unusedSimpArgs false

set_option maxRecDepth 100000 in
set_option maxHeartbeats 8000000 in
theorem sorts_no (t : Sh) (q : Ptr) (w : World) (hq : ShAt w w.heap.size q t) (hg : WGlobs w) (hc : check t ≠ 0) :
    Calls Tryd.prog 4 #[.agg #[.int .i64 t.kind, .string ⟨t.of_.toArray⟩, .string ⟨t.name.toArray⟩, .slice q.A t.names.length q.c, .slice q.P t.parts.length q.d]] w fun e w' => e = .returned (.bool true) ∧ Below w.heap.size w w' := by
  have HC := Lib.hid hc
  have e1 : (check t != 0) = true := by simpa using hc
  have e2 : (check t == 0) = false := by simpa using hc
  clear hc
  have HB0 := Lib.hid (below_one w (.cells #[.int .i64 t.kind, .string ⟨t.of_.toArray⟩, .string ⟨t.name.toArray⟩, .slice q.A t.names.length q.c, .slice q.P t.parts.length q.d] 25))
  have HB := Lib.hid (box5_new w t q)
  have HQ := Lib.hid (hq.next HB0.out)
  have HG := Lib.hid (hg.next HB0.out)
  obtain ⟨a1, ⟨c0, c1, c2, c3, c4⟩, a2⟩ := HB.out
  clear hq hg a1 a2
  go_enter Tryd.func4, Tryd.ntmps4
  go_wp2_with fail
  generalize w.alloc (.cells #[.int .i64 t.kind, .string ⟨t.of_.toArray⟩, .string ⟨t.name.toArray⟩, .slice q.A t.names.length q.c, .slice q.P t.parts.length q.d] 25) = W0 at HB HB0 HQ HG c0 c1 c2 c3 c4 ⊢
  refine (rcheck_walk t q W0 HQ.out).mono ?_
  rintro e W1 ⟨rfl, hb1⟩
  have HBW := Lib.hid hb1
  obtain ⟨a1, ⟨x0, x1, x2, x3, x4⟩, a2⟩ := HB.out.next hb1
  clear hb1 a1 a2 c0 c1 c2 c3 c4
  go_wp2_with fail
  refine (oCheck_walk t q W1 (HQ.out.next HBW.out) (HG.out.next HBW.out)).mono ?_
  rintro e W2 ⟨rfl, hb2⟩
  have HBW2 := Lib.hid (below_next HBW.out hb2)
  clear hb2 x0 x1 x2 x3 x4
  go_wp2_with fail
  refine (awake7_walk W2 (HG.out.next HBW2.out)).mono ?_
  rintro e W3 ⟨rfl, hb3⟩
  have HBW3 := Lib.hid (below_next HBW2.out hb3)
  clear hb3
  go_wp2
  go_ret
  exact ⟨rfl, below_next HB0.out HBW3.out⟩

def sortsT (t : Sh) (q : Ptr) : Nat → Want
  | 0 => .val (.agg #[.int .i64 t.kind, .string ⟨t.of_.toArray⟩, .string ⟨t.name.toArray⟩, .slice q.A t.names.length q.c, .slice q.P t.parts.length q.d])
  | 1 => wantSh (sorted t)
  | 2 => .val (.agg #[.int .i64 t.kind, .string ⟨t.of_.toArray⟩, .string ⟨t.name.toArray⟩, .slice q.A t.names.length q.c, .slice q.P t.parts.length q.d])
  | 3 => wantSh (sorted t)
  | 4 => .val (.bool true)
  | 5 => .val (.bool true)
  | 6 => .val (.bool true)
  | 7 => .val (.bool true)
  | 8 => .val (.bool true)
  | _ => .any

set_option maxRecDepth 100000 in
set_option maxHeartbeats 8000000 in
theorem sorts_yes (t : Sh) (q : Ptr) (w : World) (hq : ShAt w w.heap.size q t) (hg : WGlobs w) (hc : check t = 0) :
    Calls Tryd.prog 4 #[.agg #[.int .i64 t.kind, .string ⟨t.of_.toArray⟩, .string ⟨t.name.toArray⟩, .slice q.A t.names.length q.c, .slice q.P t.parts.length q.d]] w fun e w' => e = .returned (.bool true) ∧ Below w.heap.size w w' := by
  have HC := Lib.hid hc
  have e1 : (check t != 0) = false := by simpa using hc
  have e2 : (check t == 0) = true := by simpa using hc
  clear hc
  have HB0 := Lib.hid (below_one w (.cells #[.int .i64 t.kind, .string ⟨t.of_.toArray⟩, .string ⟨t.name.toArray⟩, .slice q.A t.names.length q.c, .slice q.P t.parts.length q.d] 25))
  have HB := Lib.hid (box5_new w t q)
  have HQ := Lib.hid (hq.next HB0.out)
  have HG := Lib.hid (hg.next HB0.out)
  obtain ⟨a1, ⟨c0, c1, c2, c3, c4⟩, a2⟩ := HB.out
  clear hq hg a1 a2
  go_enter Tryd.func4, Tryd.ntmps4
  go_wp2_with fail
  generalize w.alloc (.cells #[.int .i64 t.kind, .string ⟨t.of_.toArray⟩, .string ⟨t.name.toArray⟩, .slice q.A t.names.length q.c, .slice q.P t.parts.length q.d] 25) = W0 at HB HB0 HQ HG c0 c1 c2 c3 c4 ⊢
  refine (rcheck_walk t q W0 HQ.out).mono ?_
  rintro e W1 ⟨rfl, hb1⟩
  have HBW := Lib.hid hb1
  have HB1 := Lib.hid (HB.out.next hb1)
  clear hb1 c0 c1 c2 c3 c4
  go_wp2_with fail
  refine wp_orders (rs := [0, 1, 2, 3, 4, 5, 6, 7, 8])
    (fun u' => { tmps := #[.agg #[.int .i64 t.kind, .string { data := t.of_.toArray }, .string { data := t.name.toArray }, .slice q.A t.names.length q.c, .slice q.P t.parts.length q.d], .pointer (some { block := w.heap.size, off := 0 }), u' 8, .agg #[.int .i64 t.kind, .string { data := t.of_.toArray }, .string { data := t.name.toArray }, .slice q.A t.names.length q.c, .slice q.P t.parts.length q.d], .int .i64 (check t), .bool false, undef, undef, undef, undef, undef, undef, u' 0, u' 1, u' 2, u' 3, u' 4, u' 5, u' 6, u' 7], defers := [] })
    (fun j => ([undef, undef, undef, undef, undef, undef, undef, undef, .bool false] : List Value).getD j undef) (sortsT t q) (fun W => Below W1.heap.size W1 W) (by kernel_rfl) (by kernel_rfl) (by kernel_rfl) (Below.refl _ _).drew ?_ ?_
  refine StepsAt.cons _ rfl (fun u' W K' hJ hd hK => ?_) ?_
  · obtain ⟨_, ⟨y0, y1, y2, y3, y4⟩, _⟩ := HB1.out.next hJ
    simp only [Nat.zero_add] at y0 y1 y2 y3 y4
    refine step_value (v := .agg #[.int .i64 t.kind, .string ⟨t.of_.toArray⟩, .string ⟨t.name.toArray⟩, .slice q.A t.names.length q.c, .slice q.P t.parts.length q.d]) (W' := W) rfl ?_ (hK.out _ _ rfl hJ (Below.refl _ _))
    try dsimp only
    go_simp
    try omega
  refine StepsAt.cons _ rfl (fun u' W K' hJ hd hK => ?_) ?_
  · have d0 : u' 0 = .agg #[.int .i64 t.kind, .string ⟨t.of_.toArray⟩, .string ⟨t.name.toArray⟩, .slice q.A t.names.length q.c, .slice q.P t.parts.length q.d] := hd 0 (by kernel_rfl)
    refine step_enter (f := 19) (args := #[.agg #[.int .i64 t.kind, .string ⟨t.of_.toArray⟩, .string ⟨t.name.toArray⟩, .slice q.A t.names.length q.c, .slice q.P t.parts.length q.d]]) (W' := W) rfl ?_ ((oSort_walk t q W (HQ.out.next (below_next HBW.out hJ)) (HG.out.next (below_next HBW.out hJ)) HC.out).mono fun e w' ⟨q', he, ha, hb⟩ => ⟨_, he, hK.out _ _ ⟨q', rfl, ha⟩ (below_next hJ hb) hb⟩)
    try dsimp only
    go_simp
    try omega
  refine StepsAt.cons _ rfl (fun u' W K' hJ hd hK => ?_) ?_
  · obtain ⟨_, ⟨y0, y1, y2, y3, y4⟩, _⟩ := HB1.out.next hJ
    simp only [Nat.zero_add] at y0 y1 y2 y3 y4
    refine step_value (v := .agg #[.int .i64 t.kind, .string ⟨t.of_.toArray⟩, .string ⟨t.name.toArray⟩, .slice q.A t.names.length q.c, .slice q.P t.parts.length q.d]) (W' := W) rfl ?_ (hK.out _ _ rfl hJ (Below.refl _ _))
    try dsimp only
    go_simp
    try omega
  refine StepsAt.cons _ rfl (fun u' W K' hJ hd hK => ?_) ?_
  · have d2 : u' 2 = .agg #[.int .i64 t.kind, .string ⟨t.of_.toArray⟩, .string ⟨t.name.toArray⟩, .slice q.A t.names.length q.c, .slice q.P t.parts.length q.d] := hd 2 (by kernel_rfl)
    refine step_enter (f := 20) (args := #[.agg #[.int .i64 t.kind, .string ⟨t.of_.toArray⟩, .string ⟨t.name.toArray⟩, .slice q.A t.names.length q.c, .slice q.P t.parts.length q.d]]) (W' := W) rfl ?_ ((rSort_walk t q W (HQ.out.next (below_next HBW.out hJ)) HC.out).mono fun e w' ⟨q', he, ha, hb⟩ => ⟨_, he, hK.out _ _ ⟨q', rfl, ha⟩ (below_next hJ hb) hb⟩)
    try dsimp only
    go_simp
    try omega
  refine StepsAt.cons _ rfl (fun u' W K' hJ hd hK => ?_) ?_
  · obtain ⟨qa, d1, a1⟩ := hd 1 (by kernel_rfl)
    obtain ⟨qb, d3, a3⟩ := hd 3 (by kernel_rfl)
    refine step_enter (f := 18) (args := #[.agg #[.int .i64 (sorted t).kind, .string ⟨(sorted t).of_.toArray⟩, .string ⟨(sorted t).name.toArray⟩, .slice qa.A (sorted t).names.length qa.c, .slice qa.P (sorted t).parts.length qa.d], .agg #[.int .i64 (sorted t).kind, .string ⟨(sorted t).of_.toArray⟩, .string ⟨(sorted t).name.toArray⟩, .slice qb.A (sorted t).names.length qb.c, .slice qb.P (sorted t).parts.length qb.d]]) (W' := W) rfl ?_ ((requal_walk (sorted t) (sorted t) qa qb W a1 a3).mono fun e w' h => ⟨_, h.1, hK.out _ _ (by rw [eqB_refl]; rfl) (below_next hJ h.2) h.2⟩)
    try dsimp only
    go_simp
    try omega
  refine StepsAt.cons _ rfl (fun u' W K' hJ hd hK => ?_) ?_
  · have d4 : u' 4 = .bool true := hd 4 (by kernel_rfl)
    refine step_value (v := .bool true) (W' := W) rfl ?_ (hK.out _ _ rfl hJ (Below.refl _ _))
    try dsimp only
    go_simp
    try omega
  refine StepsAt.cons _ rfl (fun u' W K' hJ hd hK => ?_) ?_
  · have dg : u' 5 = .bool true := hd 5 (by kernel_rfl)
    refine step_enter (f := 17) (args := #[]) (W' := W) ?_ ?_ ((awake7_walk W (HG.out.next (below_next HBW.out hJ))).mono fun e w' h => ⟨_, h.1, hK.out _ _ rfl (below_next hJ h.2) h.2⟩)
    · simp [Region.wanted, yielded, dg]
    · try dsimp only
      go_simp
      try omega
  refine StepsAt.cons _ rfl (fun u' W K' hJ hd hK => ?_) ?_
  · have d5 : u' 5 = .bool true := hd 5 (by kernel_rfl)
    have d6 : u' 6 = .bool true := hd 6 (by kernel_rfl)
    refine step_value (v := .bool true) (W' := W) rfl ?_ (hK.out _ _ rfl hJ (Below.refl _ _))
    try dsimp only
    go_simp
    try omega
  refine StepsAt.cons _ rfl (fun u' W K' hJ hd hK => ?_) StepsAt.nil
  · have d7 : u' 7 = .bool true := hd 7 (by kernel_rfl)
    refine step_value (v := .bool true) (W' := W) rfl ?_ (hK.out _ _ rfl hJ (Below.refl _ _))
    try dsimp only
    go_simp
    try omega
  intro u' W' hJ' hok
  try dsimp only
  rw [show u' 8 = .bool true from hok 8 (by decide)]
  clear hok
  go_wp2
  go_ret
  exact ⟨rfl, below_next HB0.out (below_next HBW.out hJ')⟩

set_option maxRecDepth 100000 in
set_option maxHeartbeats 8000000 in
theorem sorts_walk (t : Sh) (q : Ptr) (w : World) (hq : ShAt w w.heap.size q t) (hg : WGlobs w) :
    Calls Tryd.prog 4 #[.agg #[.int .i64 t.kind, .string ⟨t.of_.toArray⟩, .string ⟨t.name.toArray⟩, .slice q.A t.names.length q.c, .slice q.P t.parts.length q.d]] w fun e w' => e = .returned (.bool true) ∧ Below w.heap.size w w' := by
  by_cases hc : check t = 0
  · exact sorts_yes t q w hq hg hc
  · exact sorts_no t q w hq hg hc
end Go.Proofs.YtkehnmapnckdgaaDoor
