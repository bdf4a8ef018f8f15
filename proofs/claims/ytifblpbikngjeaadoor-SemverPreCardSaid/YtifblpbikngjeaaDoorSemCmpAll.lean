/- The program's Cmp. -/
import Derived.Test.YtifblpbikngjeaaDoorSemCmpOwn3
import Derived.Test.YtifblpbikngjeaaDoorOrders2
import Derived.StillTailTactics
namespace Go.Proofs.YtifblpbikngjeaaDoor
open Go.RowKit
set_option linter.unusedVariables false

/-- Two versions in boxes, one behind the other. -/
structure Duo (w W : World) (v u : Sem.Ver) : Prop where
  a : VerAt W w.heap.size v
  b : VerAt W (w.heap.size + 1) u
  bel : Below w.heap.size w W

theorem Duo.call {w W W' : World} {v u : Sem.Ver} (h : Duo w W v u) (hb : Below W.heap.size W W') : Duo w W' v u := ⟨h.a.next hb, h.b.next hb, below_next h.bel hb⟩
theorem Duo.drew {w W : World} {v u : Sem.Ver} (h : Duo w W v u) : Duo w W.drew v u := ⟨h.a, h.b, h.bel.drew⟩

theorem duo_new (w : World) (v u : Sem.Ver) : Duo w ((w.alloc (.cells #[.int .i64 v.maj, .int .i64 v.min, .int .i64 v.pat, .string ⟨v.pre.toArray⟩] 23)).alloc (.cells #[.int .i64 u.maj, .int .i64 u.min, .int .i64 u.pat, .string ⟨u.pre.toArray⟩] 23)) v u := by
  refine ⟨(ver_new w v).next (below_one _ _), ?_, below_new (below_one _ _) _⟩
  have h := ver_new (w.alloc (.cells #[.int .i64 v.maj, .int .i64 v.min, .int .i64 v.pat, .string ⟨v.pre.toArray⟩] 23)) u
  rw [World.size_alloc] at h
  exact h

/-- One core? -/
def oneCore (v u : Sem.Ver) : Bool := v.maj == u.maj && v.min == u.min && v.pat == u.pat

def cmpT (v u : Sem.Ver) : Nat → Want
  | 0 => .val (.agg #[.int .i64 v.maj, .int .i64 v.min, .int .i64 v.pat, .string ⟨v.pre.toArray⟩])
  | 1 => .val (.agg #[.int .i64 v.maj, .int .i64 v.min, .int .i64 v.pat, .string ⟨#[]⟩])
  | 2 => .val (.agg #[.int .i64 u.maj, .int .i64 u.min, .int .i64 u.pat, .string ⟨u.pre.toArray⟩])
  | 3 => .val (.agg #[.int .i64 u.maj, .int .i64 u.min, .int .i64 u.pat, .string ⟨#[]⟩])
  | 4 => .val (.bool (oneCore v u))
  | _ => .any

set_option maxRecDepth 100000 in
set_option maxHeartbeats 4000000 in
theorem cmp_walk (v u : Sem.Ver) (hv : v.pre.length ≤ 1000000) (hu : u.pre.length ≤ 1000000) (w : World) :
    Calls Tryd.prog 19 #[verV v, verV u] w fun e w' => e = .returned (.int .i64 (Sem.cmp v u)) ∧ Below w.heap.size w w' := by
  have hV : verV v = .agg #[.int .i64 v.maj, .int .i64 v.min, .int .i64 v.pat, .string ⟨v.pre.toArray⟩] := rfl
  have hU : verV u = .agg #[.int .i64 u.maj, .int .i64 u.min, .int .i64 u.pat, .string ⟨u.pre.toArray⟩] := rfl
  rw [hV, hU]
  clear hV hU
  go_enter Tryd.func19, Tryd.ntmps19
  go_wp2_with fail
  have HD := duo_new w v u
  generalize (w.alloc (Obj.cells #[.int .i64 v.maj, .int .i64 v.min, .int .i64 v.pat, .string ⟨v.pre.toArray⟩] 23)).alloc (Obj.cells #[.int .i64 u.maj, .int .i64 u.min, .int .i64 u.pat, .string ⟨u.pre.toArray⟩] 23) = W at HD ⊢
  refine wp_orders (rs := [0, 1, 2, 3, 4])
    (fun u' => { tmps := #[.agg #[.int .i64 v.maj, .int .i64 v.min, .int .i64 v.pat, .string ⟨v.pre.toArray⟩], .agg #[.int .i64 u.maj, .int .i64 u.min, .int .i64 u.pat, .string ⟨u.pre.toArray⟩], .pointer (some ⟨w.heap.size, 0, none⟩), .pointer (some ⟨w.heap.size + 1, 0, none⟩), .int .i64 0, u' 0, u' 1, u' 2, u' 3, u' 4, undef, undef, undef, undef, undef, undef, undef, undef, undef, undef, undef, undef, undef, undef, undef, undef, undef, undef, undef, undef, undef, undef], defers := [] })
    (fun _ => undef) (cmpT v u) (fun W => Duo w W v u) (by kernel_rfl) (by kernel_rfl) (by kernel_rfl) HD.drew ?_ ?_
  refine StepsAt.cons _ rfl (fun u' W K' hJ hd hK => ?_) ?_
  · obtain ⟨z0, y0, y1, y2, y3⟩ := hJ.a
    refine step_value (v := .agg #[.int .i64 v.maj, .int .i64 v.min, .int .i64 v.pat, .string ⟨v.pre.toArray⟩]) (W' := W) rfl ?_ (hK.out _ _ rfl hJ (Below.refl _ _))
    try dsimp only
    go_simp
  refine StepsAt.cons _ rfl (fun u' W K' hJ hd hK => ?_) ?_
  · have d1 : u' 0 = .agg #[.int .i64 v.maj, .int .i64 v.min, .int .i64 v.pat, .string ⟨v.pre.toArray⟩] := hd 0 (by kernel_rfl)
    refine step_enter (f := 18) (args := #[.agg #[.int .i64 v.maj, .int .i64 v.min, .int .i64 v.pat, .string ⟨v.pre.toArray⟩]]) (W' := W) rfl ?_ ((coreL_walk v W).mono fun e w' h => ⟨_, h.1, hK.out _ _ rfl (hJ.call h.2) h.2⟩)
    try dsimp only
    go_simp
  refine StepsAt.cons _ rfl (fun u' W K' hJ hd hK => ?_) ?_
  · obtain ⟨z0, y0, y1, y2, y3⟩ := hJ.b
    refine step_value (v := .agg #[.int .i64 u.maj, .int .i64 u.min, .int .i64 u.pat, .string ⟨u.pre.toArray⟩]) (W' := W) rfl ?_ (hK.out _ _ rfl hJ (Below.refl _ _))
    try dsimp only
    go_simp
  refine StepsAt.cons _ rfl (fun u' W K' hJ hd hK => ?_) ?_
  · have d1 : u' 2 = .agg #[.int .i64 u.maj, .int .i64 u.min, .int .i64 u.pat, .string ⟨u.pre.toArray⟩] := hd 2 (by kernel_rfl)
    refine step_enter (f := 18) (args := #[.agg #[.int .i64 u.maj, .int .i64 u.min, .int .i64 u.pat, .string ⟨u.pre.toArray⟩]]) (W' := W) rfl ?_ ((coreL_walk u W).mono fun e w' h => ⟨_, h.1, hK.out _ _ rfl (hJ.call h.2) h.2⟩)
    try dsimp only
    go_simp
  refine StepsAt.cons _ rfl (fun u' W K' hJ hd hK => ?_) StepsAt.nil
  · have d1 : u' 1 = .agg #[.int .i64 v.maj, .int .i64 v.min, .int .i64 v.pat, .string ⟨#[]⟩] := hd 1 (by kernel_rfl)
    have d2 : u' 3 = .agg #[.int .i64 u.maj, .int .i64 u.min, .int .i64 u.pat, .string ⟨#[]⟩] := hd 3 (by kernel_rfl)
    refine step_value (v := .bool (oneCore v u)) (W' := W) rfl ?_ (hK.out _ _ rfl hJ (Below.refl _ _))
    unfold oneCore
    cases hx : (v.maj == u.maj)
    · try dsimp only
      go_simp
    · cases hy : (v.min == u.min)
      · try dsimp only
        go_simp
      · cases hz : (v.pat == u.pat)
        · try dsimp only
          go_simp
        · try dsimp only
          go_simp
  intro u' W5 hJ hok
  have e0 : u' 0 = .agg #[.int .i64 v.maj, .int .i64 v.min, .int .i64 v.pat, .string ⟨v.pre.toArray⟩] := hok 0 (by decide)
  have e1 : u' 1 = .agg #[.int .i64 v.maj, .int .i64 v.min, .int .i64 v.pat, .string ⟨#[]⟩] := hok 1 (by decide)
  have e2 : u' 2 = .agg #[.int .i64 u.maj, .int .i64 u.min, .int .i64 u.pat, .string ⟨u.pre.toArray⟩] := hok 2 (by decide)
  have e3 : u' 3 = .agg #[.int .i64 u.maj, .int .i64 u.min, .int .i64 u.pat, .string ⟨#[]⟩] := hok 3 (by decide)
  have e4 : u' 4 = .bool (oneCore v u) := hok 4 (by decide)
  try dsimp only
  rw [e0, e1, e2, e3, e4]
  obtain ⟨_, c0, c1, c2, c3⟩ := hJ.a
  obtain ⟨_, d0, d1, d2, d3⟩ := hJ.b
  have hb6 := hJ.bel
  cases ho : oneCore v u
  · have HC : Hid (orR [ord v.maj u.maj, ord v.min u.min, ord v.pat u.pat] = Sem.cmp v u) := Lib.hid (orR_cmp v u (fun h => by
      obtain ⟨h1, h2, h3⟩ := h
      unfold oneCore at ho
      rw [h1, h2, h3] at ho
      simp at ho))
    clear ho
    go_wp2_with fail
    refine wp_region_still_tail 15 (by kernel_rfl) (by kernel_rfl) ?_
    simp only [List.take_succ_cons, List.take_zero, List.drop_succ_cons, List.drop_zero]
    repeat (first | still_step | still_call (flip (compare_walk _ _ _)))
    refine wpStill_nil ?_
    change wpList _ _ _ _ _ W5.drew
    clear c0 c1 c2 c3 d0 d1 d2 d3
    go_wp2_with fail
    have hO := or_walk (some ⟨W5.drew.heap.size, 0, none⟩) 3 [ord v.maj u.maj, ord v.min u.min, ord v.pat u.pat] _ (ints_lit W5.drew [ord v.maj u.maj, ord v.min u.min, ord v.pat u.pat] (cs := #[Value.int IntKind.i64 (ord v.maj u.maj), Value.int IntKind.i64 (ord v.min u.min), Value.int IntKind.i64 (ord v.pat u.pat)]) rfl) (by simp)
    refine hO.mono ?_
    rintro e w6 ⟨rfl, rfl⟩
    go_wp2
    go_ret
    exact ⟨by rw [← HC.out]; rfl, below_new hb6.drew _⟩
  · have HC : Hid (Sem.cmp v u = Sem.three (Sem.preKey v.pre) (Sem.preKey u.pre)) := Lib.hid (by
      unfold oneCore at ho
      simp only [Bool.and_eq_true, beq_iff_eq] at ho
      rw [Sem.cmp_steps, if_pos ho.1.1, if_pos ho.1.2, if_pos ho.2])
    clear ho
    go_wp2_with fail
    refine (cmpPre_walk _ _ hv hu _).mono ?_
    rintro e w6 ⟨rfl, hb7⟩
    go_wp2
    go_ret
    exact ⟨by rw [HC.out]; rfl, below_next hb6 hb7⟩
end Go.Proofs.YtifblpbikngjeaaDoor
