/- The walk of SemverCmps, over the program's contracts: each operation of the region one step. -/
import Derived.Test.YtifblpbikngjeaaDoorSemAwake
import Derived.Test.YtifblpbikngjeaaDoorSemCmpAll
namespace Go.Proofs.YtifblpbikngjeaaDoor
open Go.RowKit
set_option linter.unusedVariables false

theorem vers_two (w : World) (v u : Sem.Ver) : Vers (w.alloc (.cells #[.int .i64 v.maj, .int .i64 v.min, .int .i64 v.pat, .string ⟨v.pre.toArray⟩, .int .i64 u.maj, .int .i64 u.min, .int .i64 u.pat, .string ⟨u.pre.toArray⟩] 23)) (w.alloc (.cells #[.int .i64 v.maj, .int .i64 v.min, .int .i64 v.pat, .string ⟨v.pre.toArray⟩, .int .i64 u.maj, .int .i64 u.min, .int .i64 u.pat, .string ⟨u.pre.toArray⟩] 23)).heap.size (some ⟨w.heap.size, 0, none⟩) [v, u] := by
  refine Or.inr ⟨w.heap.size, 0, rfl, by simp, fun i hi => ?_⟩
  match i, hi with
  | 0, _ => exact ⟨by simp [go_sem], by simp [go_sem], by simp [go_sem], by simp [go_sem]⟩
  | 1, _ => exact ⟨by simp [go_sem], by simp [go_sem], by simp [go_sem], by simp [go_sem]⟩

def cmpsT (v u : Sem.Ver) : Nat → Want
  | 0 => .val (.agg #[.int .i64 v.maj, .int .i64 v.min, .int .i64 v.pat, .string ⟨v.pre.toArray⟩])
  | 1 => .val (.agg #[.int .i64 u.maj, .int .i64 u.min, .int .i64 u.pat, .string ⟨u.pre.toArray⟩])
  | 2 => .vers [v, u]
  | 3 => .val (.bool true)
  | 4 => .val (.bool false)
  | 5 => .val (.bool false)
  | 6 => .val (.agg #[.int .i64 v.maj, .int .i64 v.min, .int .i64 v.pat, .string ⟨v.pre.toArray⟩])
  | 7 => .val (.agg #[.int .i64 u.maj, .int .i64 u.min, .int .i64 u.pat, .string ⟨u.pre.toArray⟩])
  | 8 => .val (.int .i64 (Sem.cmp v u))
  | 9 => .val (.agg #[.int .i64 v.maj, .int .i64 v.min, .int .i64 v.pat, .string ⟨v.pre.toArray⟩])
  | 10 => .val (.agg #[.int .i64 u.maj, .int .i64 u.min, .int .i64 u.pat, .string ⟨u.pre.toArray⟩])
  | 11 => .val (.int .i64 (Sem.cmp v u))
  | 12 => .val (.bool true)
  | 13 => .val (.bool true)
  | 14 => .val (.bool true)
  | 15 => .val (.bool true)
  | 16 => .val (.bool true)
  | 17 => .val (.bool true)
  | _ => .any

def cmpsF (v u : Sem.Ver) : Nat → Want
  | 0 => .val (.agg #[.int .i64 v.maj, .int .i64 v.min, .int .i64 v.pat, .string ⟨v.pre.toArray⟩])
  | 1 => .val (.agg #[.int .i64 u.maj, .int .i64 u.min, .int .i64 u.pat, .string ⟨u.pre.toArray⟩])
  | 2 => .vers [v, u]
  | 3 => .val (.bool false)
  | 4 => .val (.bool true)
  | 5 => .val (.bool true)
  | 6 => .any
  | 7 => .any
  | 8 => .any
  | 9 => .any
  | 10 => .any
  | 11 => .any
  | 12 => .any
  | 13 => .val (.bool true)
  | 14 => .val (.bool true)
  | 15 => .val (.bool true)
  | 16 => .val (.bool true)
  | 17 => .val (.bool true)
  | _ => .any

set_option maxRecDepth 100000 in
set_option maxHeartbeats 4000000 in
theorem cmps_short (v u : Sem.Ver) (hv : v.pre.length ≤ 300) (hu : u.pre.length ≤ 300) (w : World) (hg : Globs w) :
    Calls Tryd.prog 5 #[verV v, verV u] w fun e w' => e = .returned (.bool true) ∧ Below w.heap.size w w' := by
  have hL : lightB [v, u] = true := by unfold lightB; simp; omega
  have HL := Lib.hid hL
  clear hL
  have hV : verV v = .agg #[.int .i64 v.maj, .int .i64 v.min, .int .i64 v.pat, .string ⟨v.pre.toArray⟩] := rfl
  have hU : verV u = .agg #[.int .i64 u.maj, .int .i64 u.min, .int .i64 u.pat, .string ⟨u.pre.toArray⟩] := rfl
  rw [hV, hU]
  clear hV hU
  go_enter Tryd.func5, Tryd.ntmps5
  go_wp2_with fail
  have HD := duo_new w v u
  generalize (w.alloc (Obj.cells #[.int .i64 v.maj, .int .i64 v.min, .int .i64 v.pat, .string ⟨v.pre.toArray⟩] 23)).alloc (Obj.cells #[.int .i64 u.maj, .int .i64 u.min, .int .i64 u.pat, .string ⟨u.pre.toArray⟩] 23) = W at HD ⊢
  refine wp_orders (rs := [0, 1, 2, 3, 4, 5, 6, 7, 8, 9, 10, 11, 12, 13, 14, 15, 16, 17])
    (fun u' => { tmps := #[.agg #[.int .i64 v.maj, .int .i64 v.min, .int .i64 v.pat, .string ⟨v.pre.toArray⟩], .agg #[.int .i64 u.maj, .int .i64 u.min, .int .i64 u.pat, .string ⟨u.pre.toArray⟩], .pointer (some ⟨w.heap.size, 0, none⟩), .pointer (some ⟨w.heap.size + 1, 0, none⟩), u' 17, u' 0, u' 1, u' 2, u' 3, u' 4, u' 5, u' 6, u' 7, u' 8, u' 9, u' 10, u' 11, u' 12, u' 13, u' 14, u' 15, u' 16], defers := [] })
    (fun j => cond (Nat.beq j 17) (.bool false) undef) (cmpsT v u) (fun W => Duo w W v u) (by kernel_rfl) (by kernel_rfl) (by kernel_rfl) HD.drew ?_ ?_
  refine StepsAt.cons _ rfl (fun u' W K' hJ hd hK => ?_) ?_
  · obtain ⟨z0, y0, y1, y2, y3⟩ := hJ.a
    refine step_value (v := .agg #[.int .i64 v.maj, .int .i64 v.min, .int .i64 v.pat, .string ⟨v.pre.toArray⟩]) (W' := W) rfl ?_ (hK.out _ _ rfl hJ (Below.refl _ _))
    try dsimp only
    go_simp
  refine StepsAt.cons _ rfl (fun u' W K' hJ hd hK => ?_) ?_
  · obtain ⟨z0, y0, y1, y2, y3⟩ := hJ.b
    refine step_value (v := .agg #[.int .i64 u.maj, .int .i64 u.min, .int .i64 u.pat, .string ⟨u.pre.toArray⟩]) (W' := W) rfl ?_ (hK.out _ _ rfl hJ (Below.refl _ _))
    try dsimp only
    go_simp
  refine StepsAt.cons _ rfl (fun u' W K' hJ hd hK => ?_) ?_
  · have d0 : u' 0 = .agg #[.int .i64 v.maj, .int .i64 v.min, .int .i64 v.pat, .string ⟨v.pre.toArray⟩] := hd 0 (by kernel_rfl)
    have d1 : u' 1 = .agg #[.int .i64 u.maj, .int .i64 u.min, .int .i64 u.pat, .string ⟨u.pre.toArray⟩] := hd 1 (by kernel_rfl)
    refine step_value (v := .slice (some ⟨W.heap.size, 0, none⟩) 2 2) (W' := W.alloc (.cells #[.int .i64 v.maj, .int .i64 v.min, .int .i64 v.pat, .string ⟨v.pre.toArray⟩, .int .i64 u.maj, .int .i64 u.min, .int .i64 u.pat, .string ⟨u.pre.toArray⟩] 23)) rfl ?_ (hK.out _ _ ⟨W.heap.size, rfl, vers_two W v u⟩ (hJ.call (below_one _ _)) (below_one _ _))
    try dsimp only
    go_simp
  refine StepsAt.cons _ rfl (fun u' W K' hJ hd hK => ?_) ?_
  · obtain ⟨g, d2, hS⟩ : ∃ g : Nat, u' 2 = .slice (some ⟨g, 0, none⟩) 2 2 ∧ Vers W W.heap.size (some ⟨g, 0, none⟩) [v, u] := hd 2 (by kernel_rfl)
    refine step_enter (f := 13) (args := #[.slice (some ⟨g, 0, none⟩) 2 2]) (W' := W) rfl ?_ ((light_walk (some ⟨g, 0, none⟩) 2 [v, u] W hS (by simp)).mono fun e w' h => ⟨_, h.1.trans (by rw [HL.out]), by rw [← h.2]; exact hK.out _ _ rfl hJ (Below.refl _ _)⟩)
    try dsimp only
    go_simp
  refine StepsAt.cons _ rfl (fun u' W K' hJ hd hK => ?_) ?_
  · have d3 : u' 3 = .bool true := hd 3 (by kernel_rfl)
    refine step_value (v := .bool false) (W' := W) rfl ?_ (hK.out _ _ rfl hJ (Below.refl _ _))
    try dsimp only
    go_simp
  refine StepsAt.cons _ rfl (fun u' W K' hJ hd hK => ?_) ?_
  · have d4 : u' 4 = .bool false := hd 4 (by kernel_rfl)
    exact step_value rfl (run_mv (.tmp 9) rfl W) (hK.out _ _ d4 hJ (Below.refl _ _))
  refine StepsAt.cons _ rfl (fun u' W K' hJ hd hK => ?_) ?_
  · obtain ⟨z0, y0, y1, y2, y3⟩ := hJ.a
    have d5 : u' 5 = .bool false := hd 5 (by kernel_rfl)
    refine step_value (v := .agg #[.int .i64 v.maj, .int .i64 v.min, .int .i64 v.pat, .string ⟨v.pre.toArray⟩]) (W' := W) ?_ ?_ (hK.out _ _ rfl hJ (Below.refl _ _))
    · simp [Region.wanted, yielded, d5]
    · try dsimp only
      go_simp
  refine StepsAt.cons _ rfl (fun u' W K' hJ hd hK => ?_) ?_
  · obtain ⟨z0, y0, y1, y2, y3⟩ := hJ.b
    have d5 : u' 5 = .bool false := hd 5 (by kernel_rfl)
    refine step_value (v := .agg #[.int .i64 u.maj, .int .i64 u.min, .int .i64 u.pat, .string ⟨u.pre.toArray⟩]) (W' := W) ?_ ?_ (hK.out _ _ rfl hJ (Below.refl _ _))
    · simp [Region.wanted, yielded, d5]
    · try dsimp only
      go_simp
  refine StepsAt.cons _ rfl (fun u' W K' hJ hd hK => ?_) ?_
  · have d5 : u' 5 = .bool false := hd 5 (by kernel_rfl)
    have d1 : u' 6 = .agg #[.int .i64 v.maj, .int .i64 v.min, .int .i64 v.pat, .string ⟨v.pre.toArray⟩] := hd 6 (by kernel_rfl)
    have d2 : u' 7 = .agg #[.int .i64 u.maj, .int .i64 u.min, .int .i64 u.pat, .string ⟨u.pre.toArray⟩] := hd 7 (by kernel_rfl)
    refine step_enter (f := 19) (args := #[.agg #[.int .i64 v.maj, .int .i64 v.min, .int .i64 v.pat, .string ⟨v.pre.toArray⟩], .agg #[.int .i64 u.maj, .int .i64 u.min, .int .i64 u.pat, .string ⟨u.pre.toArray⟩]]) (W' := W) ?_ ?_ ((cmp_walk v u (by omega) (by omega) W).mono fun e w' h => ⟨_, h.1, hK.out _ _ rfl (hJ.call h.2) h.2⟩)
    · simp [Region.wanted, yielded, d5]
    · try dsimp only
      go_simp
  refine StepsAt.cons _ rfl (fun u' W K' hJ hd hK => ?_) ?_
  · obtain ⟨z0, y0, y1, y2, y3⟩ := hJ.a
    have d5 : u' 5 = .bool false := hd 5 (by kernel_rfl)
    refine step_value (v := .agg #[.int .i64 v.maj, .int .i64 v.min, .int .i64 v.pat, .string ⟨v.pre.toArray⟩]) (W' := W) ?_ ?_ (hK.out _ _ rfl hJ (Below.refl _ _))
    · simp [Region.wanted, yielded, d5]
    · try dsimp only
      go_simp
  refine StepsAt.cons _ rfl (fun u' W K' hJ hd hK => ?_) ?_
  · obtain ⟨z0, y0, y1, y2, y3⟩ := hJ.b
    have d5 : u' 5 = .bool false := hd 5 (by kernel_rfl)
    refine step_value (v := .agg #[.int .i64 u.maj, .int .i64 u.min, .int .i64 u.pat, .string ⟨u.pre.toArray⟩]) (W' := W) ?_ ?_ (hK.out _ _ rfl hJ (Below.refl _ _))
    · simp [Region.wanted, yielded, d5]
    · try dsimp only
      go_simp
  refine StepsAt.cons _ rfl (fun u' W K' hJ hd hK => ?_) ?_
  · have d5 : u' 5 = .bool false := hd 5 (by kernel_rfl)
    have d1 : u' 9 = .agg #[.int .i64 v.maj, .int .i64 v.min, .int .i64 v.pat, .string ⟨v.pre.toArray⟩] := hd 9 (by kernel_rfl)
    have d2 : u' 10 = .agg #[.int .i64 u.maj, .int .i64 u.min, .int .i64 u.pat, .string ⟨u.pre.toArray⟩] := hd 10 (by kernel_rfl)
    refine step_enter (f := 20) (args := #[.agg #[.int .i64 v.maj, .int .i64 v.min, .int .i64 v.pat, .string ⟨v.pre.toArray⟩], .agg #[.int .i64 u.maj, .int .i64 u.min, .int .i64 u.pat, .string ⟨u.pre.toArray⟩]]) (W' := W) ?_ ?_ ((rcmp_walk v u (by omega) (by omega) W).mono fun e w' h => ⟨_, h.1, hK.out _ _ rfl (hJ.call h.2) h.2⟩)
    · simp [Region.wanted, yielded, d5]
    · try dsimp only
      go_simp
  refine StepsAt.cons _ rfl (fun u' W K' hJ hd hK => ?_) ?_
  · have d5 : u' 5 = .bool false := hd 5 (by kernel_rfl)
    have d1 : u' 8 = .int .i64 (Sem.cmp v u) := hd 8 (by kernel_rfl)
    have d2 : u' 11 = .int .i64 (Sem.cmp v u) := hd 11 (by kernel_rfl)
    have hkk : (Sem.cmp v u == Sem.cmp v u) = true := by simp
    refine step_value (v := .bool true) (W' := W) ?_ ?_ (hK.out _ _ rfl hJ (Below.refl _ _))
    · simp [Region.wanted, yielded, d5]
    · try dsimp only
      go_simp
  refine StepsAt.cons _ rfl (fun u' W K' hJ hd hK => ?_) ?_
  · have d5 : u' 5 = .bool false := hd 5 (by kernel_rfl)
    have d12 : u' 12 = .bool true := hd 12 (by kernel_rfl)
    refine step_value (v := .bool true) (W' := W) rfl ?_ (hK.out _ _ rfl hJ (Below.refl _ _))
    try dsimp only
    go_simp
  refine StepsAt.cons _ rfl (fun u' W K' hJ hd hK => ?_) ?_
  · have d13 : u' 13 = .bool true := hd 13 (by kernel_rfl)
    exact step_value rfl (run_mv (.tmp 18) rfl W) (hK.out _ _ d13 hJ (Below.refl _ _))
  refine StepsAt.cons _ rfl (fun u' W K' hJ hd hK => ?_) ?_
  · have d14 : u' 14 = .bool true := hd 14 (by kernel_rfl)
    refine step_enter (f := 12) (args := #[]) (W' := W) ?_ ?_ ((awake_walk W (hg.next hJ.bel)).mono fun e w' h => ⟨_, h.1, hK.out _ _ rfl (hJ.call h.2) h.2⟩)
    · simp [Region.wanted, yielded, d14]
    · try dsimp only
      go_simp
  refine StepsAt.cons _ rfl (fun u' W K' hJ hd hK => ?_) ?_
  · have d14 : u' 14 = .bool true := hd 14 (by kernel_rfl)
    have d15 : u' 15 = .bool true := hd 15 (by kernel_rfl)
    refine step_value (v := .bool true) (W' := W) rfl ?_ (hK.out _ _ rfl hJ (Below.refl _ _))
    try dsimp only
    go_simp
  refine StepsAt.cons _ rfl (fun u' W K' hJ hd hK => ?_) StepsAt.nil
  · have d16 : u' 16 = .bool true := hd 16 (by kernel_rfl)
    exact step_value rfl (run_as (.tmp 21) rfl W) (hK.out _ _ d16 hJ (Below.refl _ _))
  intro u' W5 hJ hok
  have d1 : u' 17 = .bool true := hok 17 (by decide)
  have hbel := hJ.bel
  try dsimp only
  rw [d1]
  go_wp2
  go_ret
  exact ⟨rfl, hbel⟩

set_option maxRecDepth 100000 in
set_option maxHeartbeats 4000000 in
theorem cmps_long (v u : Sem.Ver) (h : 300 < v.pre.length ∨ 300 < u.pre.length) (w : World) (hg : Globs w) :
    Calls Tryd.prog 5 #[verV v, verV u] w fun e w' => e = .returned (.bool true) ∧ Below w.heap.size w w' := by
  have hL : lightB [v, u] = false := by unfold lightB; simp; omega
  have HL := Lib.hid hL
  clear hL
  have hV : verV v = .agg #[.int .i64 v.maj, .int .i64 v.min, .int .i64 v.pat, .string ⟨v.pre.toArray⟩] := rfl
  have hU : verV u = .agg #[.int .i64 u.maj, .int .i64 u.min, .int .i64 u.pat, .string ⟨u.pre.toArray⟩] := rfl
  rw [hV, hU]
  clear hV hU
  go_enter Tryd.func5, Tryd.ntmps5
  go_wp2_with fail
  have HD := duo_new w v u
  generalize (w.alloc (Obj.cells #[.int .i64 v.maj, .int .i64 v.min, .int .i64 v.pat, .string ⟨v.pre.toArray⟩] 23)).alloc (Obj.cells #[.int .i64 u.maj, .int .i64 u.min, .int .i64 u.pat, .string ⟨u.pre.toArray⟩] 23) = W at HD ⊢
  refine wp_orders (rs := [0, 1, 2, 3, 4, 5, 6, 7, 8, 9, 10, 11, 12, 13, 14, 15, 16, 17])
    (fun u' => { tmps := #[.agg #[.int .i64 v.maj, .int .i64 v.min, .int .i64 v.pat, .string ⟨v.pre.toArray⟩], .agg #[.int .i64 u.maj, .int .i64 u.min, .int .i64 u.pat, .string ⟨u.pre.toArray⟩], .pointer (some ⟨w.heap.size, 0, none⟩), .pointer (some ⟨w.heap.size + 1, 0, none⟩), u' 17, u' 0, u' 1, u' 2, u' 3, u' 4, u' 5, u' 6, u' 7, u' 8, u' 9, u' 10, u' 11, u' 12, u' 13, u' 14, u' 15, u' 16], defers := [] })
    (fun j => cond (Nat.beq j 17) (.bool false) undef) (cmpsF v u) (fun W => Duo w W v u) (by kernel_rfl) (by kernel_rfl) (by kernel_rfl) HD.drew ?_ ?_
  refine StepsAt.cons _ rfl (fun u' W K' hJ hd hK => ?_) ?_
  · obtain ⟨z0, y0, y1, y2, y3⟩ := hJ.a
    refine step_value (v := .agg #[.int .i64 v.maj, .int .i64 v.min, .int .i64 v.pat, .string ⟨v.pre.toArray⟩]) (W' := W) rfl ?_ (hK.out _ _ rfl hJ (Below.refl _ _))
    try dsimp only
    go_simp
  refine StepsAt.cons _ rfl (fun u' W K' hJ hd hK => ?_) ?_
  · obtain ⟨z0, y0, y1, y2, y3⟩ := hJ.b
    refine step_value (v := .agg #[.int .i64 u.maj, .int .i64 u.min, .int .i64 u.pat, .string ⟨u.pre.toArray⟩]) (W' := W) rfl ?_ (hK.out _ _ rfl hJ (Below.refl _ _))
    try dsimp only
    go_simp
  refine StepsAt.cons _ rfl (fun u' W K' hJ hd hK => ?_) ?_
  · have d0 : u' 0 = .agg #[.int .i64 v.maj, .int .i64 v.min, .int .i64 v.pat, .string ⟨v.pre.toArray⟩] := hd 0 (by kernel_rfl)
    have d1 : u' 1 = .agg #[.int .i64 u.maj, .int .i64 u.min, .int .i64 u.pat, .string ⟨u.pre.toArray⟩] := hd 1 (by kernel_rfl)
    refine step_value (v := .slice (some ⟨W.heap.size, 0, none⟩) 2 2) (W' := W.alloc (.cells #[.int .i64 v.maj, .int .i64 v.min, .int .i64 v.pat, .string ⟨v.pre.toArray⟩, .int .i64 u.maj, .int .i64 u.min, .int .i64 u.pat, .string ⟨u.pre.toArray⟩] 23)) rfl ?_ (hK.out _ _ ⟨W.heap.size, rfl, vers_two W v u⟩ (hJ.call (below_one _ _)) (below_one _ _))
    try dsimp only
    go_simp
  refine StepsAt.cons _ rfl (fun u' W K' hJ hd hK => ?_) ?_
  · obtain ⟨g, d2, hS⟩ : ∃ g : Nat, u' 2 = .slice (some ⟨g, 0, none⟩) 2 2 ∧ Vers W W.heap.size (some ⟨g, 0, none⟩) [v, u] := hd 2 (by kernel_rfl)
    refine step_enter (f := 13) (args := #[.slice (some ⟨g, 0, none⟩) 2 2]) (W' := W) rfl ?_ ((light_walk (some ⟨g, 0, none⟩) 2 [v, u] W hS (by simp)).mono fun e w' h => ⟨_, h.1.trans (by rw [HL.out]), by rw [← h.2]; exact hK.out _ _ rfl hJ (Below.refl _ _)⟩)
    try dsimp only
    go_simp
  refine StepsAt.cons _ rfl (fun u' W K' hJ hd hK => ?_) ?_
  · have d3 : u' 3 = .bool false := hd 3 (by kernel_rfl)
    refine step_value (v := .bool true) (W' := W) rfl ?_ (hK.out _ _ rfl hJ (Below.refl _ _))
    try dsimp only
    go_simp
  refine StepsAt.cons _ rfl (fun u' W K' hJ hd hK => ?_) ?_
  · have d4 : u' 4 = .bool true := hd 4 (by kernel_rfl)
    exact step_value rfl (run_mv (.tmp 9) rfl W) (hK.out _ _ d4 hJ (Below.refl _ _))
  refine StepsAt.cons _ rfl (fun u' W K' hJ hd hK => ?_) ?_
  · have d5 : u' 5 = .bool true := hd 5 (by kernel_rfl)
    exact step_skip (by simp [Region.wanted, yielded, d5]) (hK.out _ _ trivial hJ (Below.refl _ _))
  refine StepsAt.cons _ rfl (fun u' W K' hJ hd hK => ?_) ?_
  · have d5 : u' 5 = .bool true := hd 5 (by kernel_rfl)
    exact step_skip (by simp [Region.wanted, yielded, d5]) (hK.out _ _ trivial hJ (Below.refl _ _))
  refine StepsAt.cons _ rfl (fun u' W K' hJ hd hK => ?_) ?_
  · have d5 : u' 5 = .bool true := hd 5 (by kernel_rfl)
    exact step_skip (by simp [Region.wanted, yielded, d5]) (hK.out _ _ trivial hJ (Below.refl _ _))
  refine StepsAt.cons _ rfl (fun u' W K' hJ hd hK => ?_) ?_
  · have d5 : u' 5 = .bool true := hd 5 (by kernel_rfl)
    exact step_skip (by simp [Region.wanted, yielded, d5]) (hK.out _ _ trivial hJ (Below.refl _ _))
  refine StepsAt.cons _ rfl (fun u' W K' hJ hd hK => ?_) ?_
  · have d5 : u' 5 = .bool true := hd 5 (by kernel_rfl)
    exact step_skip (by simp [Region.wanted, yielded, d5]) (hK.out _ _ trivial hJ (Below.refl _ _))
  refine StepsAt.cons _ rfl (fun u' W K' hJ hd hK => ?_) ?_
  · have d5 : u' 5 = .bool true := hd 5 (by kernel_rfl)
    exact step_skip (by simp [Region.wanted, yielded, d5]) (hK.out _ _ trivial hJ (Below.refl _ _))
  refine StepsAt.cons _ rfl (fun u' W K' hJ hd hK => ?_) ?_
  · have d5 : u' 5 = .bool true := hd 5 (by kernel_rfl)
    exact step_skip (by simp [Region.wanted, yielded, d5]) (hK.out _ _ trivial hJ (Below.refl _ _))
  refine StepsAt.cons _ rfl (fun u' W K' hJ hd hK => ?_) ?_
  · have d5 : u' 5 = .bool true := hd 5 (by kernel_rfl)
    refine step_value (v := .bool true) (W' := W) rfl ?_ (hK.out _ _ rfl hJ (Below.refl _ _))
    try dsimp only
    go_simp
  refine StepsAt.cons _ rfl (fun u' W K' hJ hd hK => ?_) ?_
  · have d13 : u' 13 = .bool true := hd 13 (by kernel_rfl)
    exact step_value rfl (run_mv (.tmp 18) rfl W) (hK.out _ _ d13 hJ (Below.refl _ _))
  refine StepsAt.cons _ rfl (fun u' W K' hJ hd hK => ?_) ?_
  · have d14 : u' 14 = .bool true := hd 14 (by kernel_rfl)
    refine step_enter (f := 12) (args := #[]) (W' := W) ?_ ?_ ((awake_walk W (hg.next hJ.bel)).mono fun e w' h => ⟨_, h.1, hK.out _ _ rfl (hJ.call h.2) h.2⟩)
    · simp [Region.wanted, yielded, d14]
    · try dsimp only
      go_simp
  refine StepsAt.cons _ rfl (fun u' W K' hJ hd hK => ?_) ?_
  · have d14 : u' 14 = .bool true := hd 14 (by kernel_rfl)
    have d15 : u' 15 = .bool true := hd 15 (by kernel_rfl)
    refine step_value (v := .bool true) (W' := W) rfl ?_ (hK.out _ _ rfl hJ (Below.refl _ _))
    try dsimp only
    go_simp
  refine StepsAt.cons _ rfl (fun u' W K' hJ hd hK => ?_) StepsAt.nil
  · have d16 : u' 16 = .bool true := hd 16 (by kernel_rfl)
    exact step_value rfl (run_as (.tmp 21) rfl W) (hK.out _ _ d16 hJ (Below.refl _ _))
  intro u' W5 hJ hok
  have d1 : u' 17 = .bool true := hok 17 (by decide)
  have hbel := hJ.bel
  try dsimp only
  rw [d1]
  go_wp2
  go_ret
  exact ⟨rfl, hbel⟩

theorem cmps_walk (v u : Sem.Ver) (w : World) (hg : Globs w) :
    Calls Tryd.prog 5 #[verV v, verV u] w fun e w' => e = .returned (.bool true) ∧ Below w.heap.size w w' := by
  by_cases h : 300 < v.pre.length ∨ 300 < u.pre.length
  · exact cmps_long v u h w hg
  · exact cmps_short v u (by omega) (by omega) w hg
end Go.Proofs.YtifblpbikngjeaaDoor
