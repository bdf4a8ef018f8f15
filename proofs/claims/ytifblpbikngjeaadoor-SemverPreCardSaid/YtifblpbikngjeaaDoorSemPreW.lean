/- The walk of SemverPre, over the program's contracts. -/
import Derived.Test.YtifblpbikngjeaaDoorSemAwake
import Derived.Test.YtifblpbikngjeaaDoorSemCmpsW
import Derived.Test.YtifblpbikngjeaaDoorOrders3
namespace Go.Proofs.YtifblpbikngjeaaDoor
open Go.RowKit
set_option linter.unusedVariables false

set_option maxRecDepth 100000 in
set_option maxHeartbeats 4000000 in
theorem pre_noa (a b : Sem.Ver) (ha : a.pre.length ≤ 140737488351232) (hb : b.pre.length ≤ 140737488351232) (ma : Sem.may a = false) (w : World) (hg : Globs w) :
    Calls Tryd.prog 9 #[verV a, verV b] w fun e w' => e = .returned (.bool true) ∧ Below w.heap.size w w' := by
  have Ha : Hid (chk a = 40) := Lib.hid (by rw [chk, ma, if_neg (by simp)])
  have hA : verV a = .agg #[.int .i64 a.maj, .int .i64 a.min, .int .i64 a.pat, .string ⟨a.pre.toArray⟩] := rfl
  have hB : verV b = .agg #[.int .i64 b.maj, .int .i64 b.min, .int .i64 b.pat, .string ⟨b.pre.toArray⟩] := rfl
  rw [hA, hB]
  clear hA hB
  go_enter Tryd.func9, Tryd.ntmps9
  go_wp2_with fail
  have HT := duo_new w a b
  generalize (w.alloc (Obj.cells #[.int .i64 a.maj, .int .i64 a.min, .int .i64 a.pat, .string ⟨a.pre.toArray⟩] 23)).alloc (Obj.cells #[.int .i64 b.maj, .int .i64 b.min, .int .i64 b.pat, .string ⟨b.pre.toArray⟩] 23) = W at HT ⊢
  obtain ⟨za, a0, a1, a2, a3⟩ := HT.a
  go_wp2_with fail
  refine (check_walk a ha _).mono ?_
  rintro e W1 ⟨he, hb1⟩
  rw [Ha.out] at he
  subst he
  have HT1 := HT.call hb1
  clear za a0 a1 a2 a3
  go_wp2_with fail
  refine (awake_walk _ (hg.next HT1.bel)).mono ?_
  rintro e w9 ⟨rfl, hb9⟩
  go_wp2
  go_ret
  exact ⟨rfl, below_next HT1.bel hb9⟩

set_option maxRecDepth 100000 in
set_option maxHeartbeats 4000000 in
theorem pre_nob (a b : Sem.Ver) (ha : a.pre.length ≤ 140737488351232) (hb : b.pre.length ≤ 140737488351232) (ma : Sem.may a = true) (mb : Sem.may b = false) (w : World) (hg : Globs w) :
    Calls Tryd.prog 9 #[verV a, verV b] w fun e w' => e = .returned (.bool true) ∧ Below w.heap.size w w' := by
  have Ha : Hid (chk a = 0) := Lib.hid (by rw [chk, if_pos ma])
  have Hb : Hid (chk b = 40) := Lib.hid (by rw [chk, mb, if_neg (by simp)])
  have hA : verV a = .agg #[.int .i64 a.maj, .int .i64 a.min, .int .i64 a.pat, .string ⟨a.pre.toArray⟩] := rfl
  have hB : verV b = .agg #[.int .i64 b.maj, .int .i64 b.min, .int .i64 b.pat, .string ⟨b.pre.toArray⟩] := rfl
  rw [hA, hB]
  clear hA hB
  go_enter Tryd.func9, Tryd.ntmps9
  go_wp2_with fail
  have HT := duo_new w a b
  generalize (w.alloc (Obj.cells #[.int .i64 a.maj, .int .i64 a.min, .int .i64 a.pat, .string ⟨a.pre.toArray⟩] 23)).alloc (Obj.cells #[.int .i64 b.maj, .int .i64 b.min, .int .i64 b.pat, .string ⟨b.pre.toArray⟩] 23) = W at HT ⊢
  obtain ⟨za, a0, a1, a2, a3⟩ := HT.a
  go_wp2_with fail
  refine (check_walk a ha _).mono ?_
  rintro e W1 ⟨he, hb1⟩
  rw [Ha.out] at he
  subst he
  have HT1 := HT.call hb1
  clear za a0 a1 a2 a3
  obtain ⟨zb, b0, b1, b2, b3⟩ := HT1.b
  go_wp2_with fail
  refine (check_walk b hb _).mono ?_
  rintro e W2 ⟨he, hb2⟩
  rw [Hb.out] at he
  subst he
  have HT2 := HT1.call hb2
  clear zb b0 b1 b2 b3
  go_wp2_with fail
  refine (awake_walk _ (hg.next HT2.bel)).mono ?_
  rintro e w9 ⟨rfl, hb9⟩
  go_wp2
  go_ret
  exact ⟨rfl, below_next HT2.bel hb9⟩

set_option maxRecDepth 100000 in
set_option maxHeartbeats 4000000 in
theorem pre_nop (a b : Sem.Ver) (ha : a.pre.length ≤ 140737488351232) (hb : b.pre.length ≤ 140737488351232) (ma : Sem.may a = true) (mb : Sem.may b = true) (hz : a.pre = []) (w : World) (hg : Globs w) :
    Calls Tryd.prog 9 #[verV a, verV b] w fun e w' => e = .returned (.bool true) ∧ Below w.heap.size w w' := by
  have Ha : Hid (chk a = 0) := Lib.hid (by rw [chk, if_pos ma])
  have Hb : Hid (chk b = 0) := Lib.hid (by rw [chk, if_pos mb])
  have he : a.pre.isEmpty = true := by rw [hz]; rfl
  clear hz
  have hA : verV a = .agg #[.int .i64 a.maj, .int .i64 a.min, .int .i64 a.pat, .string ⟨a.pre.toArray⟩] := rfl
  have hB : verV b = .agg #[.int .i64 b.maj, .int .i64 b.min, .int .i64 b.pat, .string ⟨b.pre.toArray⟩] := rfl
  rw [hA, hB]
  clear hA hB
  go_enter Tryd.func9, Tryd.ntmps9
  go_wp2_with fail
  have HT := duo_new w a b
  generalize (w.alloc (Obj.cells #[.int .i64 a.maj, .int .i64 a.min, .int .i64 a.pat, .string ⟨a.pre.toArray⟩] 23)).alloc (Obj.cells #[.int .i64 b.maj, .int .i64 b.min, .int .i64 b.pat, .string ⟨b.pre.toArray⟩] 23) = W at HT ⊢
  obtain ⟨za, a0, a1, a2, a3⟩ := HT.a
  go_wp2_with fail
  refine (check_walk a ha _).mono ?_
  rintro e W1 ⟨he, hb1⟩
  rw [Ha.out] at he
  subst he
  have HT1 := HT.call hb1
  clear za a0 a1 a2 a3
  obtain ⟨zb, b0, b1, b2, b3⟩ := HT1.b
  go_wp2_with fail
  refine (check_walk b hb _).mono ?_
  rintro e W2 ⟨he, hb2⟩
  rw [Hb.out] at he
  subst he
  have HT2 := HT1.call hb2
  clear zb b0 b1 b2 b3
  obtain ⟨za, a0, a1, a2, a3⟩ := HT2.a
  go_wp2_with fail
  refine (awake_walk _ (hg.next HT2.bel)).mono ?_
  rintro e w9 ⟨rfl, hb9⟩
  go_wp2
  go_ret
  exact ⟨rfl, below_next HT2.bel hb9⟩

theorem also_same (d : Nat → Bool) (i : Nat) : also d i i = true := by
  have : Nat.beq i i = true := Nat.beq_refl i
  unfold also; rw [this]; rfl

theorem also_other (d : Nat → Bool) {i j : Nat} (h : j ≠ i) : also d i j = d j := by
  have : Nat.beq j i = false := by cases hb : Nat.beq j i <;> first | rfl | exact absurd (Nat.eq_of_beq_eq_true hb) h
  unfold also; rw [this]; rfl

theorem VerAt.put {W : World} {g x : Nat} {v : Sem.Ver} (h : VerAt W g v) (hne : x ≠ g) (p q r s : Value) :
    VerAt ((((W.setCell ⟨x, 0, none⟩ p).setCell ⟨x, 1, none⟩ q).setCell ⟨x, 2, none⟩ r).setCell ⟨x, 3, none⟩ s) g v := by
  obtain ⟨h0, h1, h2, h3, h4⟩ := h
  have k : ∀ (V : World) (i j : Nat) (z : Value), (V.setCell ⟨x, i, none⟩ z).cell? ⟨g, j, none⟩ = V.cell? ⟨g, j, none⟩ := fun V i j z => World.cell?_setCell_other _ _ _ _ (fun e => hne (congrArg Addr.block e))
  refine ⟨by simpa using h0, ?_, ?_, ?_, ?_⟩ <;> rw [k, k, k, k] <;> assumption

theorem Box4.put {W : World} {g x : Nat} {v : Sem.Ver} (h : Box4 W g v) (hne : x ≠ g) (p q r s : Value) :
    Box4 ((((W.setCell ⟨x, 0, none⟩ p).setCell ⟨x, 1, none⟩ q).setCell ⟨x, 2, none⟩ r).setCell ⟨x, 3, none⟩ s) g v := by
  obtain ⟨h1, f0, f1, f2, f3⟩ := h
  exact ⟨h1.put hne p q r s, by simp [go_sem, f0], by simp [go_sem, f1], by simp [go_sem, f2], by simp [go_sem, f3]⟩

theorem below_put4 {B : Nat} {a W : World} (h : Below B a W) {x : Nat} (hx : B ≤ x) (p q r s : Value) :
    Below B a ((((W.setCell ⟨x, 0, none⟩ p).setCell ⟨x, 1, none⟩ q).setCell ⟨x, 2, none⟩ r).setCell ⟨x, 3, none⟩ s) :=
  (((h.setCell (p := ⟨x, 0, none⟩) hx _).setCell (p := ⟨x, 1, none⟩) hx _).setCell (p := ⟨x, 2, none⟩) hx _).setCell (p := ⟨x, 3, none⟩) hx _

theorem Duo.put {w W : World} {a b : Sem.Ver} (h : Duo w W a b) {x : Nat} (hx : w.heap.size + 2 ≤ x) (p q r s : Value) :
    Duo w ((((W.setCell ⟨x, 0, none⟩ p).setCell ⟨x, 1, none⟩ q).setCell ⟨x, 2, none⟩ r).setCell ⟨x, 3, none⟩ s) a b :=
  ⟨h.a.put (by omega) p q r s, h.b.put (by omega) p q r s, below_put4 h.bel (by omega) p q r s⟩

/-- The invariant of 'x, y := Core(a), Core(b)': what each operation has left. -/
structure PreI (w : World) (a b : Sem.Ver) (d : Nat → Bool) (u : Nat → Value) (W : World) : Prop where
  duo : Duo w W a b
  s0 : d 0 = true → u 0 = .agg #[.int .i64 a.maj, .int .i64 a.min, .int .i64 a.pat, .string ⟨a.pre.toArray⟩]
  s1 : d 1 = true → u 1 = .agg #[.int .i64 a.maj, .int .i64 a.min, .int .i64 a.pat, .string ⟨#[]⟩]
  s2 : d 2 = true → u 2 = .agg #[.int .i64 b.maj, .int .i64 b.min, .int .i64 b.pat, .string ⟨b.pre.toArray⟩]
  s3 : d 3 = true → u 3 = .agg #[.int .i64 b.maj, .int .i64 b.min, .int .i64 b.pat, .string ⟨#[]⟩]
  s4 : d 4 = true → ∃ x, u 4 = .pointer (some ⟨x, 0, none⟩) ∧ w.heap.size + 2 ≤ x ∧ Box4 W x (if d 6 = true then Sem.core a else ⟨0, 0, 0, []⟩)
  s5 : d 5 = true → ∃ y, u 5 = .pointer (some ⟨y, 0, none⟩) ∧ w.heap.size + 2 ≤ y ∧ Box4 W y (if d 7 = true then Sem.core b else ⟨0, 0, 0, []⟩)
  ne : d 4 = true → d 5 = true → u 4 ≠ u 5
  f6 : d 6 = true → d 4 = true
  f7 : d 7 = true → d 5 = true

theorem PreI.size {w W : World} {a b : Sem.Ver} {d : Nat → Bool} {u : Nat → Value} (h : PreI w a b d u W) : w.heap.size + 2 ≤ W.heap.size := h.duo.b.1

/-- A step that leaves a value and makes memory at most. -/
theorem PreI.step {w W W' : World} {a b : Sem.Ver} {d : Nat → Bool} {u : Nat → Value} (h : PreI w a b d u W) (hb : Below W.heap.size W W') (i : Nat) (v : Value) (hi : i < 4)
    (hv : v = (match i with | 0 => .agg #[.int .i64 a.maj, .int .i64 a.min, .int .i64 a.pat, .string ⟨a.pre.toArray⟩] | 1 => .agg #[.int .i64 a.maj, .int .i64 a.min, .int .i64 a.pat, .string ⟨#[]⟩] | 2 => .agg #[.int .i64 b.maj, .int .i64 b.min, .int .i64 b.pat, .string ⟨b.pre.toArray⟩] | _ => .agg #[.int .i64 b.maj, .int .i64 b.min, .int .i64 b.pat, .string ⟨#[]⟩])) : PreI w a b (also d i) (upd u i v) W' := by
  have k4 := also_other d (show 4 ≠ i by omega)
  have k5 := also_other d (show 5 ≠ i by omega)
  have k6 := also_other d (show 6 ≠ i by omega)
  have k7 := also_other d (show 7 ≠ i by omega)
  have l4 := upd_other u v (show 4 ≠ i by omega)
  have l5 := upd_other u v (show 5 ≠ i by omega)
  refine ⟨h.duo.call hb, ?_, ?_, ?_, ?_, ?_, ?_, ?_, ?_, ?_⟩
  · intro hd
    by_cases h0 : 0 = i
    · subst h0; rw [upd_same]; exact hv
    · rw [also_other d h0] at hd; rw [upd_other u v h0]; exact h.s0 hd
  · intro hd
    by_cases h0 : 1 = i
    · subst h0; rw [upd_same]; exact hv
    · rw [also_other d h0] at hd; rw [upd_other u v h0]; exact h.s1 hd
  · intro hd
    by_cases h0 : 2 = i
    · subst h0; rw [upd_same]; exact hv
    · rw [also_other d h0] at hd; rw [upd_other u v h0]; exact h.s2 hd
  · intro hd
    by_cases h0 : 3 = i
    · subst h0; rw [upd_same]; exact hv
    · rw [also_other d h0] at hd; rw [upd_other u v h0]; exact h.s3 hd
  · rw [k4, l4, k6]
    intro hd
    obtain ⟨x, h1, h2, h3⟩ := h.s4 hd
    exact ⟨x, h1, h2, h3.keep h3.1.1 hb⟩
  · rw [k5, l5, k7]
    intro hd
    obtain ⟨x, h1, h2, h3⟩ := h.s5 hd
    exact ⟨x, h1, h2, h3.keep h3.1.1 hb⟩
  · rw [k4, k5, l4, l5]
    exact h.ne
  · rw [k6, k4]; exact h.f6
  · rw [k7, k5]; exact h.f7

theorem PreI.newX {w W : World} {a b : Sem.Ver} {d : Nat → Bool} {u : Nat → Value} (h : PreI w a b d u W) (hi : d 4 = false) :
    PreI w a b (also d 4) (upd u 4 (.pointer (some ⟨W.heap.size, 0, none⟩))) (W.alloc (.cells #[.int .i64 0, .int .i64 0, .int .i64 0, .string ⟨#[]⟩] 23)) := by
  have hs : d 6 = false := by
    cases e : d 6
    · rfl
    · have := h.f6 e
      rw [hi] at this
      cases this
  refine ⟨h.duo.call (below_one _ _), ?_, ?_, ?_, ?_, ?_, ?_, ?_, ?_, ?_⟩
  · rw [also_other _ (by decide), upd_other _ _ (by decide)]; exact h.s0
  · rw [also_other _ (by decide), upd_other _ _ (by decide)]; exact h.s1
  · rw [also_other _ (by decide), upd_other _ _ (by decide)]; exact h.s2
  · rw [also_other _ (by decide), upd_other _ _ (by decide)]; exact h.s3
  · intro _
    rw [upd_same, also_other _ (by decide), hs]
    exact ⟨W.heap.size, rfl, h.size, box_new W ⟨0, 0, 0, []⟩⟩
  · rw [also_other _ (by decide), upd_other _ _ (by decide), also_other _ (by decide)]
    intro hd
    obtain ⟨y, h1, h2, h3⟩ := h.s5 hd
    exact ⟨y, h1, h2, h3.keep h3.1.1 (below_one _ _)⟩
  · intro _ hd; rw [upd_same, upd_other _ _ (by decide)]; rw [also_other _ (by decide)] at hd
    obtain ⟨y, h1, _, h3⟩ := h.s5 hd
    rw [h1]; intro e; have := h3.1.1; simp at e; try omega
  · rw [also_other _ (by decide), also_same]; intro _; rfl
  · rw [also_other _ (by decide), also_other _ (by decide)]; exact h.f7

theorem PreI.newY {w W : World} {a b : Sem.Ver} {d : Nat → Bool} {u : Nat → Value} (h : PreI w a b d u W) (hi : d 5 = false) :
    PreI w a b (also d 5) (upd u 5 (.pointer (some ⟨W.heap.size, 0, none⟩))) (W.alloc (.cells #[.int .i64 0, .int .i64 0, .int .i64 0, .string ⟨#[]⟩] 23)) := by
  have hs : d 7 = false := by
    cases e : d 7
    · rfl
    · have := h.f7 e
      rw [hi] at this
      cases this
  refine ⟨h.duo.call (below_one _ _), ?_, ?_, ?_, ?_, ?_, ?_, ?_, ?_, ?_⟩
  · rw [also_other _ (by decide), upd_other _ _ (by decide)]; exact h.s0
  · rw [also_other _ (by decide), upd_other _ _ (by decide)]; exact h.s1
  · rw [also_other _ (by decide), upd_other _ _ (by decide)]; exact h.s2
  · rw [also_other _ (by decide), upd_other _ _ (by decide)]; exact h.s3
  · rw [also_other _ (by decide), upd_other _ _ (by decide), also_other _ (by decide)]
    intro hd
    obtain ⟨y, h1, h2, h3⟩ := h.s4 hd
    exact ⟨y, h1, h2, h3.keep h3.1.1 (below_one _ _)⟩
  · intro _
    rw [upd_same, also_other _ (by decide), hs]
    exact ⟨W.heap.size, rfl, h.size, box_new W ⟨0, 0, 0, []⟩⟩
  · intro hd _; rw [upd_same, upd_other _ _ (by decide)]; rw [also_other _ (by decide)] at hd
    obtain ⟨y, h1, _, h3⟩ := h.s4 hd
    rw [h1]; intro e; have := h3.1.1; simp at e; try omega
  · rw [also_other _ (by decide), also_other _ (by decide)]; exact h.f6
  · rw [also_other _ (by decide), also_same]; intro _; rfl

theorem PreI.putX {w W : World} {a b : Sem.Ver} {d : Nat → Bool} {u : Nat → Value} (h : PreI w a b d u W) (hi : d 4 = true) {x : Nat} (hx : u 4 = .pointer (some ⟨x, 0, none⟩)) (z : Value) :
    PreI w a b (also d 6) (upd u 6 z) ((((W.setCell ⟨x, 0, none⟩ (.int .i64 a.maj)).setCell ⟨x, 1, none⟩ (.int .i64 a.min)).setCell ⟨x, 2, none⟩ (.int .i64 a.pat)).setCell ⟨x, 3, none⟩ (.string ⟨#[]⟩)) := by
  obtain ⟨x', e, hx2, hbx⟩ := h.s4 hi
  rw [hx] at e
  simp at e
  subst e
  refine ⟨h.duo.put hx2 _ _ _ _, ?_, ?_, ?_, ?_, ?_, ?_, ?_, ?_, ?_⟩
  · rw [also_other _ (by decide), upd_other _ _ (by decide)]; exact h.s0
  · rw [also_other _ (by decide), upd_other _ _ (by decide)]; exact h.s1
  · rw [also_other _ (by decide), upd_other _ _ (by decide)]; exact h.s2
  · rw [also_other _ (by decide), upd_other _ _ (by decide)]; exact h.s3
  · intro _
    rw [upd_other _ _ (by decide), also_same]
    exact ⟨x, hx, hx2, hbx.set (Sem.core a)⟩
  · rw [also_other _ (by decide), upd_other _ _ (by decide), also_other _ (by decide)]
    intro hd
    obtain ⟨y, h1, h2, h3⟩ := h.s5 hd
    exact ⟨y, h1, h2, h3.put (fun e => h.ne hi hd (by rw [hx, h1, e])) _ _ _ _⟩
  · rw [also_other _ (by decide), also_other _ (by decide), upd_other _ _ (by decide), upd_other _ _ (by decide)]; exact h.ne
  · intro _; rw [also_other _ (by decide)]; exact hi
  · rw [also_other _ (by decide), also_other _ (by decide)]; exact h.f7

theorem PreI.putY {w W : World} {a b : Sem.Ver} {d : Nat → Bool} {u : Nat → Value} (h : PreI w a b d u W) (hi : d 5 = true) {x : Nat} (hx : u 5 = .pointer (some ⟨x, 0, none⟩)) (z : Value) :
    PreI w a b (also d 7) (upd u 7 z) ((((W.setCell ⟨x, 0, none⟩ (.int .i64 b.maj)).setCell ⟨x, 1, none⟩ (.int .i64 b.min)).setCell ⟨x, 2, none⟩ (.int .i64 b.pat)).setCell ⟨x, 3, none⟩ (.string ⟨#[]⟩)) := by
  obtain ⟨x', e, hx2, hbx⟩ := h.s5 hi
  rw [hx] at e
  simp at e
  subst e
  refine ⟨h.duo.put hx2 _ _ _ _, ?_, ?_, ?_, ?_, ?_, ?_, ?_, ?_, ?_⟩
  · rw [also_other _ (by decide), upd_other _ _ (by decide)]; exact h.s0
  · rw [also_other _ (by decide), upd_other _ _ (by decide)]; exact h.s1
  · rw [also_other _ (by decide), upd_other _ _ (by decide)]; exact h.s2
  · rw [also_other _ (by decide), upd_other _ _ (by decide)]; exact h.s3
  · rw [also_other _ (by decide), upd_other _ _ (by decide), also_other _ (by decide)]
    intro hd
    obtain ⟨y, h1, h2, h3⟩ := h.s4 hd
    exact ⟨y, h1, h2, h3.put (fun e => h.ne hd hi (by rw [hx, h1, e])) _ _ _ _⟩
  · intro _
    rw [upd_other _ _ (by decide), also_same]
    exact ⟨x, hx, hx2, hbx.set (Sem.core b)⟩
  · rw [also_other _ (by decide), also_other _ (by decide), upd_other _ _ (by decide), upd_other _ _ (by decide)]; exact h.ne
  · rw [also_other _ (by decide), also_other _ (by decide)]; exact h.f6
  · intro _; rw [also_other _ (by decide)]; exact hi

/-- The two versions and their two cores. -/
structure Quad (w W : World) (a b : Sem.Ver) (x y : Nat) : Prop where
  duo : Duo w W a b
  x : VerAt W x (Sem.core a)
  y : VerAt W y (Sem.core b)

theorem Quad.call {w W W' : World} {a b : Sem.Ver} {x y : Nat} (h : Quad w W a b x y) (hb : Below W.heap.size W W') : Quad w W' a b x y := ⟨h.duo.call hb, h.x.next hb, h.y.next hb⟩
theorem Quad.drew {w W : World} {a b : Sem.Ver} {x y : Nat} (h : Quad w W a b x y) : Quad w W.drew a b x y := ⟨h.duo.drew, h.x, h.y⟩
theorem Quad.x4 {w W : World} {a b : Sem.Ver} {x y : Nat} (h : Quad w W a b x y) : (x < W.heap.size ∧ W.cell? ⟨x, 0, none⟩ = some (.int .i64 a.maj) ∧ W.cell? ⟨x, 1, none⟩ = some (.int .i64 a.min) ∧ W.cell? ⟨x, 2, none⟩ = some (.int .i64 a.pat) ∧ W.cell? ⟨x, 3, none⟩ = some (.string ⟨#[]⟩)) := h.x
theorem Quad.y4 {w W : World} {a b : Sem.Ver} {x y : Nat} (h : Quad w W a b x y) : (y < W.heap.size ∧ W.cell? ⟨y, 0, none⟩ = some (.int .i64 b.maj) ∧ W.cell? ⟨y, 1, none⟩ = some (.int .i64 b.min) ∧ W.cell? ⟨y, 2, none⟩ = some (.int .i64 b.pat) ∧ W.cell? ⟨y, 3, none⟩ = some (.string ⟨#[]⟩)) := h.y

def preT (a : Sem.Ver) (x : Nat) : Nat → Want
  | 0 => .val (.agg #[.int .i64 a.maj, .int .i64 a.min, .int .i64 a.pat, .string ⟨a.pre.toArray⟩])
  | 1 => .val (.agg #[.int .i64 a.maj, .int .i64 a.min, .int .i64 a.pat, .string ⟨#[]⟩])
  | 2 => .val (.int .i64 (-1))
  | 3 => .val (.bool false)
  | 4 => .val (.bool false)
  | 5 => .val (.pointer (some ⟨x, 3, none⟩))
  | 6 => .val (.string ⟨#[]⟩)
  | 7 => .val (.bool false)
  | 8 => .val (.bool false)
  | 9 => .val (.bool false)
  | 10 => .val (.agg #[.int .i64 a.maj, .int .i64 a.min, .int .i64 a.pat, .string ⟨#[]⟩])
  | 11 => .val (.agg #[.int .i64 a.maj, .int .i64 a.min, .int .i64 a.pat, .string ⟨#[]⟩])
  | 12 => .val (.agg #[.int .i64 a.maj, .int .i64 a.min, .int .i64 a.pat, .string ⟨#[]⟩])
  | 13 => .val (.bool false)
  | 14 => .val (.bool false)
  | _ => .any

set_option maxRecDepth 100000 in
set_option maxHeartbeats 8000000 in
theorem pre_yes (a b : Sem.Ver) (ha : a.pre.length ≤ 140737488351232) (hb : b.pre.length ≤ 140737488351232) (ma : Sem.may a = true) (mb : Sem.may b = true) (hz : a.pre ≠ []) (w : World) (hg : Globs w) :
    Calls Tryd.prog 9 #[verV a, verV b] w fun e w' => e = .returned (.bool true) ∧ Below w.heap.size w w' := by
  have Ha : Hid (chk a = 0) := Lib.hid (by rw [chk, if_pos ma])
  have Hb : Hid (chk b = 0) := Lib.hid (by rw [chk, if_pos mb])
  have la : a.pre.length ≤ 1000000 := by have := ((Sem.may_iff a).1 ma).2.2.2.1; omega
  have lb : b.pre.length ≤ 1000000 := by have := ((Sem.may_iff b).1 mb).2.2.2.1; omega
  have he : a.pre.isEmpty = false := by simpa using hz
  have HM := Lib.hid (Sem.pre_below hz)
  have HB := Lib.hid (Sem.best_core hz)
  have HF := Lib.hid (@Sem.core_first a b)
  clear hz
  have hA : verV a = .agg #[.int .i64 a.maj, .int .i64 a.min, .int .i64 a.pat, .string ⟨a.pre.toArray⟩] := rfl
  have hB : verV b = .agg #[.int .i64 b.maj, .int .i64 b.min, .int .i64 b.pat, .string ⟨b.pre.toArray⟩] := rfl
  rw [hA, hB]
  clear hA hB
  go_enter Tryd.func9, Tryd.ntmps9
  go_wp2_with fail
  have HT := duo_new w a b
  generalize (w.alloc (Obj.cells #[.int .i64 a.maj, .int .i64 a.min, .int .i64 a.pat, .string ⟨a.pre.toArray⟩] 23)).alloc (Obj.cells #[.int .i64 b.maj, .int .i64 b.min, .int .i64 b.pat, .string ⟨b.pre.toArray⟩] 23) = W at HT ⊢
  obtain ⟨za, a0, a1, a2, a3⟩ := HT.a
  go_wp2_with fail
  refine (check_walk a ha _).mono ?_
  rintro e W1 ⟨he, hb1⟩
  rw [Ha.out] at he
  subst he
  have HT1 := HT.call hb1
  clear za a0 a1 a2 a3
  obtain ⟨zb, b0, b1, b2, b3⟩ := HT1.b
  go_wp2_with fail
  refine (check_walk b hb _).mono ?_
  rintro e W2 ⟨he, hb2⟩
  rw [Hb.out] at he
  subst he
  have HT2 := HT1.call hb2
  clear zb b0 b1 b2 b3
  obtain ⟨za, a0, a1, a2, a3⟩ := HT2.a
  go_wp2_with fail
  clear za a0 a1 a2 a3 he
  refine wp_inv (rs := [0, 1, 2, 3, 4, 5, 6, 7])
    (fun u => { tmps := #[.agg #[.int .i64 a.maj, .int .i64 a.min, .int .i64 a.pat, .string ⟨a.pre.toArray⟩], .agg #[.int .i64 b.maj, .int .i64 b.min, .int .i64 b.pat, .string ⟨b.pre.toArray⟩], .pointer (some ⟨w.heap.size, 0, none⟩), .pointer (some ⟨w.heap.size + 1, 0, none⟩), .bool false, u 4, u 5, undef, undef, undef, .agg #[.int .i64 a.maj, .int .i64 a.min, .int .i64 a.pat, .string ⟨a.pre.toArray⟩], .int .i64 0, .bool false, .bool false, .agg #[.int .i64 b.maj, .int .i64 b.min, .int .i64 b.pat, .string ⟨b.pre.toArray⟩], .int .i64 0, .bool false, .bool false, .bool false, .pointer (some ⟨w.heap.size, 3, none⟩), .string ⟨a.pre.toArray⟩, .bool false, .bool false, undef, u 0, u 1, u 2, u 3, undef, undef, undef, undef, undef, undef, undef, undef, undef, undef, undef, undef, undef, undef, undef, undef, undef, undef, undef, undef, undef, undef, undef, undef, undef, undef, undef, undef, undef, undef, undef, undef, undef, undef, undef, undef, undef, undef, undef, undef, undef, undef, undef], defers := [] })
    (fun _ => undef) (PreI w a b) (by kernel_rfl) (by kernel_rfl) (by kernel_rfl)
    ⟨HT2.drew, nofun, nofun, nofun, nofun, nofun, nofun, nofun, nofun, nofun⟩ ?_ ?_
  refine StepsInv.cons _ rfl (fun d u W K' hI hd hw hK => ?_) ?_
  · obtain ⟨z0, y0, y1, y2, y3⟩ := hI.duo.a
    refine step_value (v := .agg #[.int .i64 a.maj, .int .i64 a.min, .int .i64 a.pat, .string ⟨a.pre.toArray⟩]) (W' := W) rfl ?_ (hK.out _ _ (hI.step (Below.refl _ _) 0 _ (by decide) rfl))
    try dsimp only
    go_simp
  refine StepsInv.cons _ rfl (fun d u W K' hI hd hw hK => ?_) ?_
  · have d1 : u 0 = .agg #[.int .i64 a.maj, .int .i64 a.min, .int .i64 a.pat, .string ⟨a.pre.toArray⟩] := hI.s0 (hw 0 (by kernel_rfl))
    refine step_enter (f := 18) (args := #[.agg #[.int .i64 a.maj, .int .i64 a.min, .int .i64 a.pat, .string ⟨a.pre.toArray⟩]]) (W' := W) rfl ?_ ((coreL_walk a W).mono fun e w' h => ⟨_, h.1, hK.out _ _ (hI.step h.2 1 _ (by decide) rfl)⟩)
    try dsimp only
    go_simp
  refine StepsInv.cons _ rfl (fun d u W K' hI hd hw hK => ?_) ?_
  · obtain ⟨z0, y0, y1, y2, y3⟩ := hI.duo.b
    refine step_value (v := .agg #[.int .i64 b.maj, .int .i64 b.min, .int .i64 b.pat, .string ⟨b.pre.toArray⟩]) (W' := W) rfl ?_ (hK.out _ _ (hI.step (Below.refl _ _) 2 _ (by decide) rfl))
    try dsimp only
    go_simp
  refine StepsInv.cons _ rfl (fun d u W K' hI hd hw hK => ?_) ?_
  · have d1 : u 2 = .agg #[.int .i64 b.maj, .int .i64 b.min, .int .i64 b.pat, .string ⟨b.pre.toArray⟩] := hI.s2 (hw 2 (by kernel_rfl))
    refine step_enter (f := 18) (args := #[.agg #[.int .i64 b.maj, .int .i64 b.min, .int .i64 b.pat, .string ⟨b.pre.toArray⟩]]) (W' := W) rfl ?_ ((coreL_walk b W).mono fun e w' h => ⟨_, h.1, hK.out _ _ (hI.step h.2 3 _ (by decide) rfl)⟩)
    try dsimp only
    go_simp
  refine StepsInv.cons _ rfl (fun d u W K' hI hd hw hK => ?_) ?_
  · refine step_value (v := .pointer (some ⟨W.heap.size, 0, none⟩)) (W' := W.alloc (.cells #[.int .i64 0, .int .i64 0, .int .i64 0, .string ⟨#[]⟩] 23)) rfl ?_ (hK.out _ _ (hI.newX hd))
    try dsimp only
    go_simp
  refine StepsInv.cons _ rfl (fun d u W K' hI hd hw hK => ?_) ?_
  · refine step_value (v := .pointer (some ⟨W.heap.size, 0, none⟩)) (W' := W.alloc (.cells #[.int .i64 0, .int .i64 0, .int .i64 0, .string ⟨#[]⟩] 23)) rfl ?_ (hK.out _ _ (hI.newY hd))
    try dsimp only
    go_simp
  refine StepsInv.cons _ rfl (fun d u W K' hI hd hw hK => ?_) ?_
  · have h4 := hw 4 (by kernel_rfl)
    have d1 : u 1 = .agg #[.int .i64 a.maj, .int .i64 a.min, .int .i64 a.pat, .string ⟨#[]⟩] := hI.s1 (hw 1 (by kernel_rfl))
    obtain ⟨x, hx, hx2, hbx⟩ := hI.s4 h4
    obtain ⟨⟨z0, y0, y1, y2, y3⟩, f0, f1, f2, f3⟩ := hbx
    refine step_none (W' := ((((W.setCell ⟨x, 0, none⟩ (.int .i64 a.maj)).setCell ⟨x, 1, none⟩ (.int .i64 a.min)).setCell ⟨x, 2, none⟩ (.int .i64 a.pat)).setCell ⟨x, 3, none⟩ (.string ⟨#[]⟩))) rfl ?_ (hK.out undef _ (hI.putX h4 hx undef))
    try dsimp only
    go_simp
  refine StepsInv.cons _ rfl (fun d u W K' hI hd hw hK => ?_) StepsInv.nil
  · have h4 := hw 5 (by kernel_rfl)
    have d1 : u 3 = .agg #[.int .i64 b.maj, .int .i64 b.min, .int .i64 b.pat, .string ⟨#[]⟩] := hI.s3 (hw 3 (by kernel_rfl))
    obtain ⟨x, hx, hx2, hbx⟩ := hI.s5 h4
    obtain ⟨⟨z0, y0, y1, y2, y3⟩, f0, f1, f2, f3⟩ := hbx
    refine step_none (W' := ((((W.setCell ⟨x, 0, none⟩ (.int .i64 b.maj)).setCell ⟨x, 1, none⟩ (.int .i64 b.min)).setCell ⟨x, 2, none⟩ (.int .i64 b.pat)).setCell ⟨x, 3, none⟩ (.string ⟨#[]⟩))) rfl ?_ (hK.out undef _ (hI.putY h4 hx undef))
    try dsimp only
    go_simp
  intro d u W3 hI hdone
  have d0 := hdone 0 (by decide)
  have d1 := hdone 1 (by decide)
  have d2 := hdone 2 (by decide)
  have d3 := hdone 3 (by decide)
  have d4 := hdone 4 (by decide)
  have d5 := hdone 5 (by decide)
  have d6 := hdone 6 (by decide)
  have d7 := hdone 7 (by decide)
  obtain ⟨x, e4, hx2, hbx⟩ := hI.s4 d4
  obtain ⟨y, e5, hy2, hby⟩ := hI.s5 d5
  rw [if_pos d6] at hbx
  rw [if_pos d7] at hby
  have HQ : Quad w W3 a b x y := ⟨hI.duo, hbx.1, hby.1⟩
  try dsimp only
  rw [hI.s0 d0, hI.s1 d1, hI.s2 d2, hI.s3 d3, e4, e5]
  clear e4 e5 d0 d1 d2 d3 d4 d5 d6 d7 hdone hI hbx hby u d
  have hm1 := HM.out
  go_wp2_with fail
  refine wp_orders (rs := [0, 1, 2, 3, 4, 5, 6, 7, 8, 9, 10, 11, 12, 13, 14])
    (fun u' => { tmps := #[.agg #[.int .i64 a.maj, .int .i64 a.min, .int .i64 a.pat, .string ⟨a.pre.toArray⟩], .agg #[.int .i64 b.maj, .int .i64 b.min, .int .i64 b.pat, .string ⟨b.pre.toArray⟩], .pointer (some ⟨w.heap.size, 0, none⟩), .pointer (some ⟨w.heap.size + 1, 0, none⟩), .bool false, .pointer (some ⟨x, 0, none⟩), .pointer (some ⟨y, 0, none⟩), undef, undef, undef, .agg #[.int .i64 a.maj, .int .i64 a.min, .int .i64 a.pat, .string ⟨a.pre.toArray⟩], .int .i64 0, .bool false, .bool false, .agg #[.int .i64 b.maj, .int .i64 b.min, .int .i64 b.pat, .string ⟨b.pre.toArray⟩], .int .i64 0, .bool false, .bool false, .bool false, .pointer (some ⟨w.heap.size, 3, none⟩), .string ⟨a.pre.toArray⟩, .bool false, .bool false, undef, .agg #[.int .i64 a.maj, .int .i64 a.min, .int .i64 a.pat, .string ⟨a.pre.toArray⟩], .agg #[.int .i64 a.maj, .int .i64 a.min, .int .i64 a.pat, .string ⟨#[]⟩], .agg #[.int .i64 b.maj, .int .i64 b.min, .int .i64 b.pat, .string ⟨b.pre.toArray⟩], .agg #[.int .i64 b.maj, .int .i64 b.min, .int .i64 b.pat, .string ⟨#[]⟩], u' 0, u' 1, u' 2, u' 3, u' 4, u' 5, u' 6, u' 7, u' 8, u' 9, u' 10, u' 11, u' 12, u' 13, u' 14, undef, undef, undef, undef, undef, undef, undef, undef, undef, undef, undef, undef, undef, undef, undef, undef, undef, undef, undef, undef, undef, undef, undef, undef, undef, undef, undef, undef], defers := [] })
    (fun _ => undef) (preT a x) (fun W => Quad w W a b x y) (by kernel_rfl) (by kernel_rfl) (by kernel_rfl) HQ.drew ?_ ?_
  refine StepsAt.cons _ rfl (fun u' W K' hJ hd hK => ?_) ?_
  · skip
    obtain ⟨z0, y0, y1, y2, y3⟩ := hJ.duo.a
    refine step_value (v := .agg #[.int .i64 a.maj, .int .i64 a.min, .int .i64 a.pat, .string ⟨a.pre.toArray⟩]) (W' := W) ?_ ?_ (hK.out _ _ rfl hJ (Below.refl _ _))
    · rfl
    · try dsimp only
      go_simp
  refine StepsAt.cons _ rfl (fun u' W K' hJ hd hK => ?_) ?_
  · skip
    obtain ⟨z0, y0, y1, y2, y3⟩ := hJ.x4
    refine step_value (v := .agg #[.int .i64 a.maj, .int .i64 a.min, .int .i64 a.pat, .string ⟨#[]⟩]) (W' := W) ?_ ?_ (hK.out _ _ rfl hJ (Below.refl _ _))
    · rfl
    · try dsimp only
      go_simp
  refine StepsAt.cons _ rfl (fun u' W K' hJ hd hK => ?_) ?_
  · skip
    have d0 : u' 0 = .agg #[.int .i64 a.maj, .int .i64 a.min, .int .i64 a.pat, .string ⟨a.pre.toArray⟩] := hd 0 (by kernel_rfl)
    have d1 : u' 1 = .agg #[.int .i64 a.maj, .int .i64 a.min, .int .i64 a.pat, .string ⟨#[]⟩] := hd 1 (by kernel_rfl)
    refine step_enter (f := 19) (args := #[.agg #[.int .i64 a.maj, .int .i64 a.min, .int .i64 a.pat, .string ⟨a.pre.toArray⟩], .agg #[.int .i64 a.maj, .int .i64 a.min, .int .i64 a.pat, .string ⟨#[]⟩]]) (W' := W) rfl ?_ ((cmp_walk a (Sem.core a) la (by simp [Sem.core]) W).mono fun e w' h => ⟨_, h.1, hK.out _ _ (by rw [hm1]; rfl) (hJ.call h.2) h.2⟩)
    try dsimp only
    go_simp
  refine StepsAt.cons _ rfl (fun u' W K' hJ hd hK => ?_) ?_
  · skip
    have d2 : u' 2 = .int .i64 (-1) := hd 2 (by kernel_rfl)
    refine step_value (v := .bool false) (W' := W) ?_ ?_ (hK.out _ _ rfl hJ (Below.refl _ _))
    · rfl
    · try dsimp only
      go_simp
  refine StepsAt.cons _ rfl (fun u' W K' hJ hd hK => ?_) ?_
  · skip
    have d3 : u' 3 = .bool false := hd 3 (by kernel_rfl)
    exact step_value rfl (run_mv (.tmp 31) rfl W) (hK.out _ _ d3 hJ (Below.refl _ _))
  refine StepsAt.cons _ rfl (fun u' W K' hJ hd hK => ?_) ?_
  · skip
    have d4 : u' 4 = .bool false := hd 4 (by kernel_rfl)
    refine step_value (v := .pointer (some ⟨x, 3, none⟩)) (W' := W) ?_ ?_ (hK.out _ _ rfl hJ (Below.refl _ _))
    · simp [Region.wanted, yielded, d4]
    · try dsimp only
      go_simp
  refine StepsAt.cons _ rfl (fun u' W K' hJ hd hK => ?_) ?_
  · skip
    have d4 : u' 4 = .bool false := hd 4 (by kernel_rfl)
    have d5 : u' 5 = .pointer (some ⟨x, 3, none⟩) := hd 5 (by kernel_rfl)
    obtain ⟨z0, y0, y1, y2, y3⟩ := hJ.x4
    refine step_value (v := .string ⟨#[]⟩) (W' := W) ?_ ?_ (hK.out _ _ rfl hJ (Below.refl _ _))
    · simp [Region.wanted, yielded, d4]
    · try dsimp only
      go_simp
  refine StepsAt.cons _ rfl (fun u' W K' hJ hd hK => ?_) ?_
  · skip
    have d4 : u' 4 = .bool false := hd 4 (by kernel_rfl)
    have d6 : u' 6 = .string ⟨#[]⟩ := hd 6 (by kernel_rfl)
    refine step_value (v := .bool false) (W' := W) ?_ ?_ (hK.out _ _ rfl hJ (Below.refl _ _))
    · simp [Region.wanted, yielded, d4]
    · try dsimp only
      go_simp
  refine StepsAt.cons _ rfl (fun u' W K' hJ hd hK => ?_) ?_
  · skip
    have d4 : u' 4 = .bool false := hd 4 (by kernel_rfl)
    have d7 : u' 7 = .bool false := hd 7 (by kernel_rfl)
    refine step_value (v := .bool false) (W' := W) ?_ ?_ (hK.out _ _ rfl hJ (Below.refl _ _))
    · rfl
    · try dsimp only
      go_simp
  refine StepsAt.cons _ rfl (fun u' W K' hJ hd hK => ?_) ?_
  · skip
    have d8 : u' 8 = .bool false := hd 8 (by kernel_rfl)
    exact step_value rfl (run_mv (.tmp 36) rfl W) (hK.out _ _ d8 hJ (Below.refl _ _))
  refine StepsAt.cons _ rfl (fun u' W K' hJ hd hK => ?_) ?_
  · skip
    have d9 : u' 9 = .bool false := hd 9 (by kernel_rfl)
    obtain ⟨z0, y0, y1, y2, y3⟩ := hJ.x4
    refine step_value (v := .agg #[.int .i64 a.maj, .int .i64 a.min, .int .i64 a.pat, .string ⟨#[]⟩]) (W' := W) ?_ ?_ (hK.out _ _ rfl hJ (Below.refl _ _))
    · simp [Region.wanted, yielded, d9]
    · try dsimp only
      go_simp
  refine StepsAt.cons _ rfl (fun u' W K' hJ hd hK => ?_) ?_
  · skip
    have d9 : u' 9 = .bool false := hd 9 (by kernel_rfl)
    have d10 : u' 10 = .agg #[.int .i64 a.maj, .int .i64 a.min, .int .i64 a.pat, .string ⟨#[]⟩] := hd 10 (by kernel_rfl)
    refine step_enter (f := 18) (args := #[.agg #[.int .i64 a.maj, .int .i64 a.min, .int .i64 a.pat, .string ⟨#[]⟩]]) (W' := W) ?_ ?_ ((coreL_walk (Sem.core a) W).mono fun e w' h => ⟨_, h.1, hK.out _ _ rfl (hJ.call h.2) h.2⟩)
    · simp [Region.wanted, yielded, d9]
    · try dsimp only
      go_simp
  refine StepsAt.cons _ rfl (fun u' W K' hJ hd hK => ?_) ?_
  · skip
    have d9 : u' 9 = .bool false := hd 9 (by kernel_rfl)
    obtain ⟨z0, y0, y1, y2, y3⟩ := hJ.x4
    refine step_value (v := .agg #[.int .i64 a.maj, .int .i64 a.min, .int .i64 a.pat, .string ⟨#[]⟩]) (W' := W) ?_ ?_ (hK.out _ _ rfl hJ (Below.refl _ _))
    · simp [Region.wanted, yielded, d9]
    · try dsimp only
      go_simp
  refine StepsAt.cons _ rfl (fun u' W K' hJ hd hK => ?_) ?_
  · skip
    have d9 : u' 9 = .bool false := hd 9 (by kernel_rfl)
    have d11 : u' 11 = .agg #[.int .i64 a.maj, .int .i64 a.min, .int .i64 a.pat, .string ⟨#[]⟩] := hd 11 (by kernel_rfl)
    have d12 : u' 12 = .agg #[.int .i64 a.maj, .int .i64 a.min, .int .i64 a.pat, .string ⟨#[]⟩] := hd 12 (by kernel_rfl)
    refine step_value (v := .bool false) (W' := W) ?_ ?_ (hK.out _ _ rfl hJ (Below.refl _ _))
    · simp [Region.wanted, yielded, d9]
    · try dsimp only
      go_simp
  refine StepsAt.cons _ rfl (fun u' W K' hJ hd hK => ?_) StepsAt.nil
  · skip
    have d9 : u' 9 = .bool false := hd 9 (by kernel_rfl)
    have d13 : u' 13 = .bool false := hd 13 (by kernel_rfl)
    refine step_value (v := .bool false) (W' := W) ?_ ?_ (hK.out _ _ rfl hJ (Below.refl _ _))
    · rfl
    · try dsimp only
      go_simp
  intro u' W4 HQ4 hok
  try dsimp only
  rw [show u' 0 = .agg #[.int .i64 a.maj, .int .i64 a.min, .int .i64 a.pat, .string ⟨a.pre.toArray⟩] from hok 0 (by decide), show u' 1 = .agg #[.int .i64 a.maj, .int .i64 a.min, .int .i64 a.pat, .string ⟨#[]⟩] from hok 1 (by decide), show u' 2 = .int .i64 (-1) from hok 2 (by decide), show u' 3 = .bool false from hok 3 (by decide), show u' 4 = .bool false from hok 4 (by decide), show u' 5 = .pointer (some ⟨x, 3, none⟩) from hok 5 (by decide), show u' 6 = .string ⟨#[]⟩ from hok 6 (by decide), show u' 7 = .bool false from hok 7 (by decide), show u' 8 = .bool false from hok 8 (by decide), show u' 9 = .bool false from hok 9 (by decide), show u' 10 = .agg #[.int .i64 a.maj, .int .i64 a.min, .int .i64 a.pat, .string ⟨#[]⟩] from hok 10 (by decide), show u' 11 = .agg #[.int .i64 a.maj, .int .i64 a.min, .int .i64 a.pat, .string ⟨#[]⟩] from hok 11 (by decide), show u' 12 = .agg #[.int .i64 a.maj, .int .i64 a.min, .int .i64 a.pat, .string ⟨#[]⟩] from hok 12 (by decide), show u' 13 = .bool false from hok 13 (by decide), show u' 14 = .bool false from hok 14 (by decide)]
  clear hok hm1 HQ
  have HQH4 := Lib.hid HQ4
  obtain ⟨za, a0, a1, a2, a3⟩ := HQ4.duo.a
  obtain ⟨zb, b0, b1, b2, b3⟩ := HQ4.duo.b
  obtain ⟨zx, x0, x1, x2, x3⟩ := HQ4.x4
  obtain ⟨zy, y0, y1, y2, y3⟩ := HQ4.y4
  clear HQ4
  go_wp2_with fail
  refine (cmp_walk (Sem.core b) (Sem.core a) (by simp [Sem.core]) (by simp [Sem.core]) _).mono ?_
  rintro e W5 ⟨he, hb5⟩
  have HQ5 := HQH4.out.call hb5
  obtain ⟨k, hk⟩ : ∃ k, k = Sem.cmp (Sem.core b) (Sem.core a) := ⟨_, rfl⟩
  rw [← hk] at he
  have HK : Hid (k ≠ 0 → Sem.cmp b a = k) := Lib.hid (by have := HF.out; rw [← hk] at this; exact this)
  subst he
  clear HF hk hb5 HQH4
  clear za a0 a1 a2 a3 zb b0 b1 b2 b3 zx x0 x1 x2 x3 zy y0 y1 y2 y3
  have hgl : Globs W5 := hg.next HQ5.duo.bel
  have HQH5 := Lib.hid HQ5
  obtain ⟨za, a0, a1, a2, a3⟩ := HQ5.duo.a
  obtain ⟨zb, b0, b1, b2, b3⟩ := HQ5.duo.b
  obtain ⟨zx, x0, x1, x2, x3⟩ := HQ5.x4
  obtain ⟨zy, y0, y1, y2, y3⟩ := HQ5.y4
  clear HQ5
  by_cases hk0 : k = 0
  · subst hk0
    go_wp2_with fail
    refine (high_walk (some ⟨W5.heap.size, 0, none⟩) 2 [a, Sem.core a] _ (vers_two W5 a (Sem.core a)) (by simp) (by simp) (by
      intro v hv
      simp at hv
      rcases hv with rfl | rfl
      · exact la
      · simp [Sem.core])).mono ?_
    rintro e W6 ⟨he, hbW6⟩
    rw [HB.out] at he
    have he2 : e = .returned (.tuple #[.agg #[.int .i64 a.maj, .int .i64 a.min, .int .i64 a.pat, .string ⟨#[]⟩], .bool true]) := he
    clear he
    subst he2
    have HQW6 := HQH5.out.call (below_next (below_one _ _) hbW6)
    clear hbW6 HQH5
    clear za a0 a1 a2 a3 zb b0 b1 b2 b3 zx x0 x1 x2 x3 zy y0 y1 y2 y3
    obtain ⟨zx, x0, x1, x2, x3⟩ := HQW6.x4
    have hbel := HQW6.duo.bel
    have hbn := below_new hbel (.cells #[.int .i64 a.maj, .int .i64 a.min, .int .i64 a.pat, .string ⟨#[]⟩] 23)
    clear HQW6
    go_wp2_with fail
    refine (awake_walk _ (hg.next hbn)).mono ?_
    rintro e W9 ⟨rfl, hb9⟩
    go_wp2
    go_ret
    exact ⟨rfl, below_next hbn hb9⟩
  · have hkn : (k == 0) = false := beq_eq_false_iff_ne.2 hk0
    have HK2 := Lib.hid (HK.out hk0)
    go_wp2_with fail
    refine (cmp_walk b a lb la _).mono ?_
    rintro e W6 ⟨he, hb6⟩
    rw [HK2.out] at he
    subst he
    have HQ6 := HQH5.out.call hb6
    clear hb6 HQH5 hgl
    clear za a0 a1 a2 a3 zb b0 b1 b2 b3 zx x0 x1 x2 x3 zy y0 y1 y2 y3
    have hgl : Globs W6 := hg.next HQ6.duo.bel
    have HQH6 := Lib.hid HQ6
    obtain ⟨za, a0, a1, a2, a3⟩ := HQ6.duo.a
    obtain ⟨zb, b0, b1, b2, b3⟩ := HQ6.duo.b
    obtain ⟨zx, x0, x1, x2, x3⟩ := HQ6.x4
    obtain ⟨zy, y0, y1, y2, y3⟩ := HQ6.y4
    clear HQ6
    have hkk : (k == k) = true := beq_self_eq_true k
    go_wp2_with fail
    refine (high_walk (some ⟨W6.heap.size, 0, none⟩) 2 [a, Sem.core a] _ (vers_two W6 a (Sem.core a)) (by simp) (by simp) (by
      intro v hv
      simp at hv
      rcases hv with rfl | rfl
      · exact la
      · simp [Sem.core])).mono ?_
    rintro e W7 ⟨he, hbW7⟩
    rw [HB.out] at he
    have he2 : e = .returned (.tuple #[.agg #[.int .i64 a.maj, .int .i64 a.min, .int .i64 a.pat, .string ⟨#[]⟩], .bool true]) := he
    clear he
    subst he2
    have HQW7 := HQH6.out.call (below_next (below_one _ _) hbW7)
    clear hbW7 HQH6
    clear za a0 a1 a2 a3 zb b0 b1 b2 b3 zx x0 x1 x2 x3 zy y0 y1 y2 y3
    obtain ⟨zx, x0, x1, x2, x3⟩ := HQW7.x4
    have hbel := HQW7.duo.bel
    have hbn := below_new hbel (.cells #[.int .i64 a.maj, .int .i64 a.min, .int .i64 a.pat, .string ⟨#[]⟩] 23)
    clear HQW7
    go_wp2_with fail
    refine (awake_walk _ (hg.next hbn)).mono ?_
    rintro e W9 ⟨rfl, hb9⟩
    go_wp2
    go_ret
    exact ⟨rfl, below_next hbn hb9⟩

theorem pre_walk (a b : Sem.Ver) (ha : a.pre.length ≤ 140737488351232) (hb : b.pre.length ≤ 140737488351232) (w : World) (hg : Globs w) :
    Calls Tryd.prog 9 #[verV a, verV b] w fun e w' => e = .returned (.bool true) ∧ Below w.heap.size w w' := by
  cases ma : Sem.may a
  · exact pre_noa a b ha hb ma w hg
  · cases mb : Sem.may b
    · exact pre_nob a b ha hb ma mb w hg
    · by_cases hz : a.pre = []
      · exact pre_nop a b ha hb ma mb hz w hg
      · exact pre_yes a b ha hb ma mb hz w hg
end Go.Proofs.YtifblpbikngjeaaDoor
