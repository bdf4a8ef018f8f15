/- The walk of SemverOrder, over the program's contracts. -/
import Derived.Test.YtifblpbikngjeaaDoorSemAwake
import Derived.Test.YtifblpbikngjeaaDoorOrders2
namespace Go.Proofs.YtifblpbikngjeaaDoor
open Go.RowKit
set_option linter.unusedVariables false

/-- Three versions in boxes, one behind the other. -/
structure Tri (w W : World) (a b c : Sem.Ver) : Prop where
  a : VerAt W w.heap.size a
  b : VerAt W (w.heap.size + 1) b
  c : VerAt W (w.heap.size + 2) c
  bel : Below w.heap.size w W

theorem Tri.call {w W W' : World} {a b c : Sem.Ver} (h : Tri w W a b c) (hb : Below W.heap.size W W') : Tri w W' a b c := ⟨h.a.next hb, h.b.next hb, h.c.next hb, below_next h.bel hb⟩
theorem Tri.drew {w W : World} {a b c : Sem.Ver} (h : Tri w W a b c) : Tri w W.drew a b c := ⟨h.a, h.b, h.c, h.bel.drew⟩

theorem tri_new (w : World) (a b c : Sem.Ver) : Tri w (((w.alloc (.cells #[.int .i64 a.maj, .int .i64 a.min, .int .i64 a.pat, .string ⟨a.pre.toArray⟩] 23)).alloc (.cells #[.int .i64 b.maj, .int .i64 b.min, .int .i64 b.pat, .string ⟨b.pre.toArray⟩] 23)).alloc (.cells #[.int .i64 c.maj, .int .i64 c.min, .int .i64 c.pat, .string ⟨c.pre.toArray⟩] 23)) a b c := by
  refine ⟨((ver_new w a).next (below_one _ _)).next (below_one _ _), ?_, ?_, below_new (below_new (below_one _ _) _) _⟩
  · have h := (ver_new (w.alloc (.cells #[.int .i64 a.maj, .int .i64 a.min, .int .i64 a.pat, .string ⟨a.pre.toArray⟩] 23)) b).next (below_one _ (.cells #[.int .i64 c.maj, .int .i64 c.min, .int .i64 c.pat, .string ⟨c.pre.toArray⟩] 23))
    rw [World.size_alloc] at h
    exact h
  · have h := ver_new ((w.alloc (.cells #[.int .i64 a.maj, .int .i64 a.min, .int .i64 a.pat, .string ⟨a.pre.toArray⟩] 23)).alloc (.cells #[.int .i64 b.maj, .int .i64 b.min, .int .i64 b.pat, .string ⟨b.pre.toArray⟩] 23)) c
    rw [World.size_alloc, World.size_alloc] at h
    exact h

def ordT (a b c : Sem.Ver) : Nat → Want
  | 0 => .val (.agg #[.int .i64 a.maj, .int .i64 a.min, .int .i64 a.pat, .string ⟨a.pre.toArray⟩])
  | 1 => .val (.agg #[.int .i64 b.maj, .int .i64 b.min, .int .i64 b.pat, .string ⟨b.pre.toArray⟩])
  | 2 => .val (.int .i64 (Sem.cmp a b))
  | 3 => .val (.agg #[.int .i64 b.maj, .int .i64 b.min, .int .i64 b.pat, .string ⟨b.pre.toArray⟩])
  | 4 => .val (.agg #[.int .i64 c.maj, .int .i64 c.min, .int .i64 c.pat, .string ⟨c.pre.toArray⟩])
  | 5 => .val (.int .i64 (Sem.cmp b c))
  | 6 => .val (.agg #[.int .i64 a.maj, .int .i64 a.min, .int .i64 a.pat, .string ⟨a.pre.toArray⟩])
  | 7 => .val (.agg #[.int .i64 c.maj, .int .i64 c.min, .int .i64 c.pat, .string ⟨c.pre.toArray⟩])
  | 8 => .val (.int .i64 (Sem.cmp a c))
  | 9 => .val (.int .i64 (Sem.cmp a b))
  | 10 => .val (.int .i64 (Sem.cmp b c))
  | 11 => .val (.int .i64 (Sem.cmp a c))
  | _ => .any

set_option maxRecDepth 100000 in
set_option maxHeartbeats 2000000 in
theorem order_noa (a b c : Sem.Ver) (ha : a.pre.length ≤ 140737488351232) (hb : b.pre.length ≤ 140737488351232) (hc : c.pre.length ≤ 140737488351232) (ma : Sem.may a = false) (w : World) (hg : Globs w) :
    Calls Tryd.prog 8 #[verV a, verV b, verV c] w fun e w' => e = .returned (.bool true) ∧ Below w.heap.size w w' := by
  have Ha : Hid (chk a = 40) := Lib.hid (by rw [chk, ma, if_neg (by simp)])
  have hA : verV a = .agg #[.int .i64 a.maj, .int .i64 a.min, .int .i64 a.pat, .string ⟨a.pre.toArray⟩] := rfl
  have hB : verV b = .agg #[.int .i64 b.maj, .int .i64 b.min, .int .i64 b.pat, .string ⟨b.pre.toArray⟩] := rfl
  have hC : verV c = .agg #[.int .i64 c.maj, .int .i64 c.min, .int .i64 c.pat, .string ⟨c.pre.toArray⟩] := rfl
  rw [hA, hB, hC]
  clear hA hB hC
  go_enter Tryd.func8, Tryd.ntmps8
  go_wp2_with fail
  have HT := tri_new w a b c
  generalize ((w.alloc (Obj.cells #[.int .i64 a.maj, .int .i64 a.min, .int .i64 a.pat, .string ⟨a.pre.toArray⟩] 23)).alloc (Obj.cells #[.int .i64 b.maj, .int .i64 b.min, .int .i64 b.pat, .string ⟨b.pre.toArray⟩] 23)).alloc (Obj.cells #[.int .i64 c.maj, .int .i64 c.min, .int .i64 c.pat, .string ⟨c.pre.toArray⟩] 23) = W at HT ⊢
  obtain ⟨⟨z0, a0, a1, a2, a3⟩, bl0⟩ : VerAt W (w.heap.size) a ∧ True := ⟨HT.a, trivial⟩
  go_wp2_with fail
  refine (check_walk a ha _).mono ?_
  rintro e W1 ⟨he, hb1⟩
  rw [Ha.out] at he
  subst he
  have HT1 := HT.call hb1
  clear z0 a0 a1 a2 a3
  go_wp2_with fail
  refine (awake_walk _ (hg.next HT1.bel)).mono ?_
  rintro e w9 ⟨rfl, hb9⟩
  go_wp2
  go_ret
  exact ⟨rfl, below_next HT1.bel hb9⟩

set_option maxRecDepth 100000 in
set_option maxHeartbeats 2000000 in
theorem order_nob (a b c : Sem.Ver) (ha : a.pre.length ≤ 140737488351232) (hb : b.pre.length ≤ 140737488351232) (hc : c.pre.length ≤ 140737488351232) (ma : Sem.may a = true) (mb : Sem.may b = false) (w : World) (hg : Globs w) :
    Calls Tryd.prog 8 #[verV a, verV b, verV c] w fun e w' => e = .returned (.bool true) ∧ Below w.heap.size w w' := by
  have Ha : Hid (chk a = 0) := Lib.hid (by rw [chk, if_pos ma])
  have Hb : Hid (chk b = 40) := Lib.hid (by rw [chk, mb, if_neg (by simp)])
  have hA : verV a = .agg #[.int .i64 a.maj, .int .i64 a.min, .int .i64 a.pat, .string ⟨a.pre.toArray⟩] := rfl
  have hB : verV b = .agg #[.int .i64 b.maj, .int .i64 b.min, .int .i64 b.pat, .string ⟨b.pre.toArray⟩] := rfl
  have hC : verV c = .agg #[.int .i64 c.maj, .int .i64 c.min, .int .i64 c.pat, .string ⟨c.pre.toArray⟩] := rfl
  rw [hA, hB, hC]
  clear hA hB hC
  go_enter Tryd.func8, Tryd.ntmps8
  go_wp2_with fail
  have HT := tri_new w a b c
  generalize ((w.alloc (Obj.cells #[.int .i64 a.maj, .int .i64 a.min, .int .i64 a.pat, .string ⟨a.pre.toArray⟩] 23)).alloc (Obj.cells #[.int .i64 b.maj, .int .i64 b.min, .int .i64 b.pat, .string ⟨b.pre.toArray⟩] 23)).alloc (Obj.cells #[.int .i64 c.maj, .int .i64 c.min, .int .i64 c.pat, .string ⟨c.pre.toArray⟩] 23) = W at HT ⊢
  obtain ⟨⟨z0, a0, a1, a2, a3⟩, bl0⟩ : VerAt W (w.heap.size) a ∧ True := ⟨HT.a, trivial⟩
  go_wp2_with fail
  refine (check_walk a ha _).mono ?_
  rintro e W1 ⟨he, hb1⟩
  rw [Ha.out] at he
  subst he
  have HT1 := HT.call hb1
  clear z0 a0 a1 a2 a3
  obtain ⟨⟨z1, b0, b1, b2, b3⟩, bl1⟩ : VerAt W1 (w.heap.size + 1) b ∧ True := ⟨HT1.b, trivial⟩
  go_wp2_with fail
  refine (check_walk b hb _).mono ?_
  rintro e W2 ⟨he, hb2⟩
  rw [Hb.out] at he
  subst he
  have HT2 := HT1.call hb2
  clear z1 b0 b1 b2 b3
  go_wp2_with fail
  refine (awake_walk _ (hg.next HT2.bel)).mono ?_
  rintro e w9 ⟨rfl, hb9⟩
  go_wp2
  go_ret
  exact ⟨rfl, below_next HT2.bel hb9⟩

set_option maxRecDepth 100000 in
set_option maxHeartbeats 2000000 in
theorem order_noc (a b c : Sem.Ver) (ha : a.pre.length ≤ 140737488351232) (hb : b.pre.length ≤ 140737488351232) (hc : c.pre.length ≤ 140737488351232) (ma : Sem.may a = true) (mb : Sem.may b = true) (mc : Sem.may c = false) (w : World) (hg : Globs w) :
    Calls Tryd.prog 8 #[verV a, verV b, verV c] w fun e w' => e = .returned (.bool true) ∧ Below w.heap.size w w' := by
  have Ha : Hid (chk a = 0) := Lib.hid (by rw [chk, if_pos ma])
  have Hb : Hid (chk b = 0) := Lib.hid (by rw [chk, if_pos mb])
  have Hc : Hid (chk c = 40) := Lib.hid (by rw [chk, mc, if_neg (by simp)])
  have hA : verV a = .agg #[.int .i64 a.maj, .int .i64 a.min, .int .i64 a.pat, .string ⟨a.pre.toArray⟩] := rfl
  have hB : verV b = .agg #[.int .i64 b.maj, .int .i64 b.min, .int .i64 b.pat, .string ⟨b.pre.toArray⟩] := rfl
  have hC : verV c = .agg #[.int .i64 c.maj, .int .i64 c.min, .int .i64 c.pat, .string ⟨c.pre.toArray⟩] := rfl
  rw [hA, hB, hC]
  clear hA hB hC
  go_enter Tryd.func8, Tryd.ntmps8
  go_wp2_with fail
  have HT := tri_new w a b c
  generalize ((w.alloc (Obj.cells #[.int .i64 a.maj, .int .i64 a.min, .int .i64 a.pat, .string ⟨a.pre.toArray⟩] 23)).alloc (Obj.cells #[.int .i64 b.maj, .int .i64 b.min, .int .i64 b.pat, .string ⟨b.pre.toArray⟩] 23)).alloc (Obj.cells #[.int .i64 c.maj, .int .i64 c.min, .int .i64 c.pat, .string ⟨c.pre.toArray⟩] 23) = W at HT ⊢
  obtain ⟨⟨z0, a0, a1, a2, a3⟩, bl0⟩ : VerAt W (w.heap.size) a ∧ True := ⟨HT.a, trivial⟩
  go_wp2_with fail
  refine (check_walk a ha _).mono ?_
  rintro e W1 ⟨he, hb1⟩
  rw [Ha.out] at he
  subst he
  have HT1 := HT.call hb1
  clear z0 a0 a1 a2 a3
  obtain ⟨⟨z1, b0, b1, b2, b3⟩, bl1⟩ : VerAt W1 (w.heap.size + 1) b ∧ True := ⟨HT1.b, trivial⟩
  go_wp2_with fail
  refine (check_walk b hb _).mono ?_
  rintro e W2 ⟨he, hb2⟩
  rw [Hb.out] at he
  subst he
  have HT2 := HT1.call hb2
  clear z1 b0 b1 b2 b3
  obtain ⟨⟨z2, c0, c1, c2, c3⟩, bl2⟩ : VerAt W2 (w.heap.size + 2) c ∧ True := ⟨HT2.c, trivial⟩
  go_wp2_with fail
  refine (check_walk c hc _).mono ?_
  rintro e W3 ⟨he, hb3⟩
  rw [Hc.out] at he
  subst he
  have HT3 := HT2.call hb3
  clear z2 c0 c1 c2 c3
  go_wp2_with fail
  refine (awake_walk _ (hg.next HT3.bel)).mono ?_
  rintro e w9 ⟨rfl, hb9⟩
  go_wp2
  go_ret
  exact ⟨rfl, below_next HT3.bel hb9⟩

set_option maxRecDepth 100000 in
set_option maxHeartbeats 8000000 in
theorem order_yes (a b c : Sem.Ver) (ha : a.pre.length ≤ 140737488351232) (hb : b.pre.length ≤ 140737488351232) (hc : c.pre.length ≤ 140737488351232) (ma : Sem.may a = true) (mb : Sem.may b = true) (mc : Sem.may c = true) (w : World) (hg : Globs w) :
    Calls Tryd.prog 8 #[verV a, verV b, verV c] w fun e w' => e = .returned (.bool true) ∧ Below w.heap.size w w' := by
  have Ha : Hid (chk a = 0) := Lib.hid (by rw [chk, if_pos ma])
  have la : a.pre.length ≤ 1000000 := by have := ((Sem.may_iff a).1 ma).2.2.2.1; omega
  have Hb : Hid (chk b = 0) := Lib.hid (by rw [chk, if_pos mb])
  have lb : b.pre.length ≤ 1000000 := by have := ((Sem.may_iff b).1 mb).2.2.2.1; omega
  have Hc : Hid (chk c = 0) := Lib.hid (by rw [chk, if_pos mc])
  have lc : c.pre.length ≤ 1000000 := by have := ((Sem.may_iff c).1 mc).2.2.2.1; omega
  have hA : verV a = .agg #[.int .i64 a.maj, .int .i64 a.min, .int .i64 a.pat, .string ⟨a.pre.toArray⟩] := rfl
  have hB : verV b = .agg #[.int .i64 b.maj, .int .i64 b.min, .int .i64 b.pat, .string ⟨b.pre.toArray⟩] := rfl
  have hC : verV c = .agg #[.int .i64 c.maj, .int .i64 c.min, .int .i64 c.pat, .string ⟨c.pre.toArray⟩] := rfl
  rw [hA, hB, hC]
  clear hA hB hC
  go_enter Tryd.func8, Tryd.ntmps8
  go_wp2_with fail
  have HT := tri_new w a b c
  generalize ((w.alloc (Obj.cells #[.int .i64 a.maj, .int .i64 a.min, .int .i64 a.pat, .string ⟨a.pre.toArray⟩] 23)).alloc (Obj.cells #[.int .i64 b.maj, .int .i64 b.min, .int .i64 b.pat, .string ⟨b.pre.toArray⟩] 23)).alloc (Obj.cells #[.int .i64 c.maj, .int .i64 c.min, .int .i64 c.pat, .string ⟨c.pre.toArray⟩] 23) = W at HT ⊢
  obtain ⟨⟨z0, a0, a1, a2, a3⟩, bl0⟩ : VerAt W (w.heap.size) a ∧ True := ⟨HT.a, trivial⟩
  go_wp2_with fail
  refine (check_walk a ha _).mono ?_
  rintro e W1 ⟨he, hb1⟩
  rw [Ha.out] at he
  subst he
  have HT1 := HT.call hb1
  clear z0 a0 a1 a2 a3
  obtain ⟨⟨z1, b0, b1, b2, b3⟩, bl1⟩ : VerAt W1 (w.heap.size + 1) b ∧ True := ⟨HT1.b, trivial⟩
  go_wp2_with fail
  refine (check_walk b hb _).mono ?_
  rintro e W2 ⟨he, hb2⟩
  rw [Hb.out] at he
  subst he
  have HT2 := HT1.call hb2
  clear z1 b0 b1 b2 b3
  obtain ⟨⟨z2, c0, c1, c2, c3⟩, bl2⟩ : VerAt W2 (w.heap.size + 2) c ∧ True := ⟨HT2.c, trivial⟩
  go_wp2_with fail
  refine (check_walk c hc _).mono ?_
  rintro e W3 ⟨he, hb3⟩
  rw [Hc.out] at he
  subst he
  have HT3 := HT2.call hb3
  clear z2 c0 c1 c2 c3
  go_wp2_with fail
  refine wp_orders (rs := [0, 1, 2, 3, 4, 5, 6, 7, 8, 9, 10, 11])
    (fun u => { tmps := #[.agg #[.int .i64 a.maj, .int .i64 a.min, .int .i64 a.pat, .string ⟨a.pre.toArray⟩], .agg #[.int .i64 b.maj, .int .i64 b.min, .int .i64 b.pat, .string ⟨b.pre.toArray⟩], .agg #[.int .i64 c.maj, .int .i64 c.min, .int .i64 c.pat, .string ⟨c.pre.toArray⟩], .pointer (some ⟨w.heap.size, 0, none⟩), .pointer (some ⟨w.heap.size + 1, 0, none⟩), .pointer (some ⟨w.heap.size + 2, 0, none⟩), .bool false, u 9, u 10, u 11, .agg #[.int .i64 a.maj, .int .i64 a.min, .int .i64 a.pat, .string ⟨a.pre.toArray⟩], .int .i64 0, .bool false, .bool false, .agg #[.int .i64 b.maj, .int .i64 b.min, .int .i64 b.pat, .string ⟨b.pre.toArray⟩], .int .i64 0, .bool false, .bool false, .bool false, .agg #[.int .i64 c.maj, .int .i64 c.min, .int .i64 c.pat, .string ⟨c.pre.toArray⟩], .int .i64 0, .bool false, .bool false, undef, u 0, u 1, u 2, u 3, u 4, u 5, u 6, u 7, u 8, undef, undef, undef, undef, undef, undef, undef, undef, undef, undef, undef, undef, undef, undef, undef, undef, undef, undef, undef, undef, undef, undef, undef, undef, undef, undef, undef, undef, undef], defers := [] })
    (fun _ => undef) (ordT a b c) (fun W => Tri w W a b c) (by kernel_rfl) (by kernel_rfl) (by kernel_rfl) HT3.drew ?_ ?_
  refine StepsAt.cons _ rfl (fun u W K' hJ hd hK => ?_) ?_
  · obtain ⟨z0, y0, y1, y2, y3⟩ := hJ.a
    refine step_value (v := .agg #[.int .i64 a.maj, .int .i64 a.min, .int .i64 a.pat, .string ⟨a.pre.toArray⟩]) (W' := W) rfl ?_ (hK.out _ _ rfl hJ (Below.refl _ _))
    try dsimp only
    go_simp
  refine StepsAt.cons _ rfl (fun u W K' hJ hd hK => ?_) ?_
  · obtain ⟨z0, y0, y1, y2, y3⟩ := hJ.b
    refine step_value (v := .agg #[.int .i64 b.maj, .int .i64 b.min, .int .i64 b.pat, .string ⟨b.pre.toArray⟩]) (W' := W) rfl ?_ (hK.out _ _ rfl hJ (Below.refl _ _))
    try dsimp only
    go_simp
  refine StepsAt.cons _ rfl (fun u W K' hJ hd hK => ?_) ?_
  · have d1 : u 0 = .agg #[.int .i64 a.maj, .int .i64 a.min, .int .i64 a.pat, .string ⟨a.pre.toArray⟩] := hd 0 (by kernel_rfl)
    have d2 : u 1 = .agg #[.int .i64 b.maj, .int .i64 b.min, .int .i64 b.pat, .string ⟨b.pre.toArray⟩] := hd 1 (by kernel_rfl)
    refine step_enter (f := 19) (args := #[.agg #[.int .i64 a.maj, .int .i64 a.min, .int .i64 a.pat, .string ⟨a.pre.toArray⟩], .agg #[.int .i64 b.maj, .int .i64 b.min, .int .i64 b.pat, .string ⟨b.pre.toArray⟩]]) (W' := W) rfl ?_ ((cmp_walk a b la lb W).mono fun e w' h => ⟨_, h.1, hK.out _ _ rfl (hJ.call h.2) h.2⟩)
    try dsimp only
    go_simp
  refine StepsAt.cons _ rfl (fun u W K' hJ hd hK => ?_) ?_
  · obtain ⟨z0, y0, y1, y2, y3⟩ := hJ.b
    refine step_value (v := .agg #[.int .i64 b.maj, .int .i64 b.min, .int .i64 b.pat, .string ⟨b.pre.toArray⟩]) (W' := W) rfl ?_ (hK.out _ _ rfl hJ (Below.refl _ _))
    try dsimp only
    go_simp
  refine StepsAt.cons _ rfl (fun u W K' hJ hd hK => ?_) ?_
  · obtain ⟨z0, y0, y1, y2, y3⟩ := hJ.c
    refine step_value (v := .agg #[.int .i64 c.maj, .int .i64 c.min, .int .i64 c.pat, .string ⟨c.pre.toArray⟩]) (W' := W) rfl ?_ (hK.out _ _ rfl hJ (Below.refl _ _))
    try dsimp only
    go_simp
  refine StepsAt.cons _ rfl (fun u W K' hJ hd hK => ?_) ?_
  · have d1 : u 3 = .agg #[.int .i64 b.maj, .int .i64 b.min, .int .i64 b.pat, .string ⟨b.pre.toArray⟩] := hd 3 (by kernel_rfl)
    have d2 : u 4 = .agg #[.int .i64 c.maj, .int .i64 c.min, .int .i64 c.pat, .string ⟨c.pre.toArray⟩] := hd 4 (by kernel_rfl)
    refine step_enter (f := 19) (args := #[.agg #[.int .i64 b.maj, .int .i64 b.min, .int .i64 b.pat, .string ⟨b.pre.toArray⟩], .agg #[.int .i64 c.maj, .int .i64 c.min, .int .i64 c.pat, .string ⟨c.pre.toArray⟩]]) (W' := W) rfl ?_ ((cmp_walk b c lb lc W).mono fun e w' h => ⟨_, h.1, hK.out _ _ rfl (hJ.call h.2) h.2⟩)
    try dsimp only
    go_simp
  refine StepsAt.cons _ rfl (fun u W K' hJ hd hK => ?_) ?_
  · obtain ⟨z0, y0, y1, y2, y3⟩ := hJ.a
    refine step_value (v := .agg #[.int .i64 a.maj, .int .i64 a.min, .int .i64 a.pat, .string ⟨a.pre.toArray⟩]) (W' := W) rfl ?_ (hK.out _ _ rfl hJ (Below.refl _ _))
    try dsimp only
    go_simp
  refine StepsAt.cons _ rfl (fun u W K' hJ hd hK => ?_) ?_
  · obtain ⟨z0, y0, y1, y2, y3⟩ := hJ.c
    refine step_value (v := .agg #[.int .i64 c.maj, .int .i64 c.min, .int .i64 c.pat, .string ⟨c.pre.toArray⟩]) (W' := W) rfl ?_ (hK.out _ _ rfl hJ (Below.refl _ _))
    try dsimp only
    go_simp
  refine StepsAt.cons _ rfl (fun u W K' hJ hd hK => ?_) ?_
  · have d1 : u 6 = .agg #[.int .i64 a.maj, .int .i64 a.min, .int .i64 a.pat, .string ⟨a.pre.toArray⟩] := hd 6 (by kernel_rfl)
    have d2 : u 7 = .agg #[.int .i64 c.maj, .int .i64 c.min, .int .i64 c.pat, .string ⟨c.pre.toArray⟩] := hd 7 (by kernel_rfl)
    refine step_enter (f := 19) (args := #[.agg #[.int .i64 a.maj, .int .i64 a.min, .int .i64 a.pat, .string ⟨a.pre.toArray⟩], .agg #[.int .i64 c.maj, .int .i64 c.min, .int .i64 c.pat, .string ⟨c.pre.toArray⟩]]) (W' := W) rfl ?_ ((cmp_walk a c la lc W).mono fun e w' h => ⟨_, h.1, hK.out _ _ rfl (hJ.call h.2) h.2⟩)
    try dsimp only
    go_simp
  refine StepsAt.cons _ rfl (fun u W K' hJ hd hK => step_value rfl (run_as (.tmp 26) rfl W) (hK.out _ _ (hd 2 (by kernel_rfl)) hJ (Below.refl _ _))) ?_
  refine StepsAt.cons _ rfl (fun u W K' hJ hd hK => step_value rfl (run_as (.tmp 29) rfl W) (hK.out _ _ (hd 5 (by kernel_rfl)) hJ (Below.refl _ _))) ?_
  refine StepsAt.cons _ rfl (fun u W K' hJ hd hK => step_value rfl (run_as (.tmp 32) rfl W) (hK.out _ _ (hd 8 (by kernel_rfl)) hJ (Below.refl _ _))) StepsAt.nil
  intro u W9 hJ hok
  have e9 : u 9 = .int .i64 (Sem.cmp a b) := hok 9 (by decide)
  have e10 : u 10 = .int .i64 (Sem.cmp b c) := hok 10 (by decide)
  have e11 : u 11 = .int .i64 (Sem.cmp a c) := hok 11 (by decide)
  try dsimp only
  rw [e9, e10, e11]
  have hturn := Sem.cmp_turn a b
  have hrange := Sem.cmp_range a b
  have htr := @Sem.cmp_trans a b c
  have hz := @Sem.cmp_zero a b ma mb
  obtain ⟨k1, hk1⟩ : ∃ k, k = Sem.cmp a b := ⟨_, rfl⟩
  obtain ⟨k2, hk2⟩ : ∃ k, k = Sem.cmp b c := ⟨_, rfl⟩
  obtain ⟨k3, hk3⟩ : ∃ k, k = Sem.cmp a c := ⟨_, rfl⟩
  obtain ⟨k4, hk4⟩ : ∃ k, k = Sem.cmp b a := ⟨_, rfl⟩
  have HK4 := Lib.hid hk4.symm
  rw [← hk1, ← hk4] at hturn
  rw [← hk1] at hrange hz
  rw [← hk1, ← hk2, ← hk3] at htr
  rw [← hk1, ← hk2, ← hk3]
  clear hk1 hk2 hk3 hk4 e9 e10 e11 hok
  have hw : IntKind.i64.wrap (-k4) = -k4 := IntWalk.i64_in _ (by omega)
  have he1 : (k1 == -k4) = true := by rw [beq_iff_eq]; omega
  have HE : Hid (∃ x0 x1 x2 x3 t : Bool, (a.maj == b.maj) = x0 ∧ (a.min == b.min) = x1 ∧ (a.pat == b.pat) = x2 ∧ (a.pre == b.pre) = x3 ∧ (k1 == 0) = t ∧ t = (x0 && x1 && x2 && x3)) := Lib.hid (by
    refine ⟨_, _, _, _, _, rfl, rfl, rfl, rfl, rfl, ?_⟩
    rw [Bool.eq_iff_iff]
    simp only [Bool.and_eq_true, beq_iff_eq]
    rw [hz]
    constructor
    · rintro rfl; exact ⟨⟨⟨rfl, rfl⟩, rfl⟩, rfl⟩
    · rintro ⟨⟨⟨h1, h2⟩, h3⟩, h4⟩
      obtain ⟨_, _, _, _⟩ := a
      obtain ⟨_, _, _, _⟩ := b
      simp only at h1 h2 h3 h4
      rw [h1, h2, h3, h4])
  obtain ⟨z0, a0, a1, a2, a3⟩ := hJ.a
  obtain ⟨z1, b0, b1, b2, b3⟩ := hJ.b
  have HJ := Lib.hid hJ
  clear hz hJ
  go_wp2_with fail
  refine (cmp_walk b a lb la _).mono ?_
  rintro e W10 ⟨he, hb10⟩
  rw [HK4.out] at he
  subst he
  have hJ2 := HJ.out.call hb10
  clear a0 a1 a2 a3 b0 b1 b2 b3 z0 z1 hb10
  obtain ⟨z0, a0, a1, a2, a3⟩ := hJ2.a
  obtain ⟨z1, b0, b1, b2, b3⟩ := hJ2.b
  have hbel := hJ2.bel
  have hgl := hg.next hbel
  clear hJ2
  obtain ⟨x0, x1, x2, x3, t, y0, y1, y2, y3, yt, ht⟩ := HE.out
  have H3 : Hid ((decide (0 < k1) = true) ∨ (decide (0 < k1) = false ∧ decide (0 < k2) = true) ∨ (decide (0 < k1) = false ∧ decide (0 < k2) = false ∧ decide (k3 ≤ 0) = true)) := Lib.hid (by
    by_cases h1 : 0 < k1
    · exact Or.inl (decide_eq_true h1)
    · by_cases h2 : 0 < k2
      · exact Or.inr (Or.inl ⟨decide_eq_false h1, decide_eq_true h2⟩)
      · exact Or.inr (Or.inr ⟨decide_eq_false h1, decide_eq_false h2, decide_eq_true (htr (by omega) (by omega))⟩))
  clear htr hrange hturn
  rcases H3.out with g1 | ⟨g1, g2⟩ | ⟨g1, g2, g3⟩
  all_goals (
    cases x0
    · obtain rfl : t = false := ht
      go_wp2_with fail
      refine (awake_walk _ hgl).mono ?_
      rintro e W11 ⟨rfl, hb11⟩
      go_wp2
      go_ret
      exact ⟨rfl, below_next hbel hb11⟩
    · cases x1
      · obtain rfl : t = false := ht
        go_wp2_with fail
        refine (awake_walk _ hgl).mono ?_
        rintro e W11 ⟨rfl, hb11⟩
        go_wp2
        go_ret
        exact ⟨rfl, below_next hbel hb11⟩
      · cases x2
        · obtain rfl : t = false := ht
          go_wp2_with fail
          refine (awake_walk _ hgl).mono ?_
          rintro e W11 ⟨rfl, hb11⟩
          go_wp2
          go_ret
          exact ⟨rfl, below_next hbel hb11⟩
        · cases x3
          · obtain rfl : t = false := ht
            go_wp2_with fail
            refine (awake_walk _ hgl).mono ?_
            rintro e W11 ⟨rfl, hb11⟩
            go_wp2
            go_ret
            exact ⟨rfl, below_next hbel hb11⟩
          · obtain rfl : t = true := ht
            go_wp2_with fail
            refine (awake_walk _ hgl).mono ?_
            rintro e W11 ⟨rfl, hb11⟩
            go_wp2
            go_ret
            exact ⟨rfl, below_next hbel hb11⟩)

theorem order_walk3 (a b c : Sem.Ver) (ha : a.pre.length ≤ 140737488351232) (hb : b.pre.length ≤ 140737488351232) (hc : c.pre.length ≤ 140737488351232) (w : World) (hg : Globs w) :
    Calls Tryd.prog 8 #[verV a, verV b, verV c] w fun e w' => e = .returned (.bool true) ∧ Below w.heap.size w w' := by
  cases ma : Sem.may a
  · exact order_noa a b c ha hb hc ma w hg
  · cases mb : Sem.may b
    · exact order_nob a b c ha hb hc ma mb w hg
    · cases mc : Sem.may c
      · exact order_noc a b c ha hb hc ma mb mc w hg
      · exact order_yes a b c ha hb hc ma mb mc w hg
end Go.Proofs.YtifblpbikngjeaaDoor
