/- awake of layer 7: what the laws ask of the program at some types. -/
import Derived.Test.YtkehnmapnckdgaaDoorShpF8
namespace Go.Proofs.YtkehnmapnckdgaaDoor
open Go.RowKit Shp
set_option linter.unusedVariables false

def aI : Sh := ⟨1, [], [], [], []⟩
def aT : Sh := ⟨3, [], [], [], []⟩
def aL : Sh := ⟨5, [], [], [], [aT]⟩
def aA : Sh := ⟨4, [], [], [], []⟩
def aR : Sh := ⟨6, [], [], [[98], [97]], [aA, aI]⟩
def aX : Sh := ⟨8, [], [], [], [aI, aL, aR]⟩
def aY : Sh := ⟨6, [], [], [[97], [97]], [aI, aI]⟩

theorem aX_check : check aX = 0 := by decide +kernel
theorem aX_show : show7 aX = [40, 73, 110, 116, 44, 32, 91, 84, 101, 120, 116, 93, 41, 32, 45, 62, 32, 123, 98, 58, 32, 65, 110, 121, 44, 32, 97, 58, 32, 73, 110, 116, 125] := by decide +kernel
theorem aX_show2 : show7 (sorted aX) = [40, 73, 110, 116, 44, 32, 91, 84, 101, 120, 116, 93, 41, 32, 45, 62, 32, 123, 97, 58, 32, 73, 110, 116, 44, 32, 98, 58, 32, 65, 110, 121, 125] := by decide +kernel
theorem aX_check2 : check (sorted aX) = 0 := check_sorted aX_check
theorem aX_size : sizeTo 400 aX = 7 := by decide +kernel
theorem aX_deep : deepTo aX = 3 := by decide +kernel
theorem aX_closed : closed aX = true := by decide +kernel
theorem aY_check : check aY = 70 := by decide +kernel

theorem leaf_at (W : World) (B : Nat) (k : Int) : ShAt W B noneQ ⟨k, [], [], [], []⟩ :=
  .mk _ _ 0 0 (fun _ => noneQ) ⟨by simp, by simp, nofun, by simp, by simp, by simp, by simp, fun _ => rfl, fun _ => rfl⟩ (Or.inl rfl) (Or.inl rfl) (fun i h => absurd h (by simp)) (fun i h => absurd h (by simp))

/-- The cells of a type that has a kind alone. -/
def cK (k : Int) : List Value := [.int .i64 k, .string ⟨#[]⟩, .string ⟨#[]⟩, .slice none 0 0, .slice none 0 0]
/-- A list of types that have a kind alone. -/
theorem leaves_at {W : World} {B g : Nat} {t : Sh} {A : Option Addr} {c d : Nat} (hs : Small t ⟨A, c, some ⟨g, 0, none⟩, d⟩) (hn : Strs W B A (strs t.names)) (hg : g < B) (hl : ∀ p ∈ t.parts, p = ⟨p.kind, [], [], [], []⟩)
    (hc : ∀ i (h : i < t.parts.length) j, j < 5 → W.cell? ⟨g, i * 5 + j, none⟩ = (cK (t.parts[i]'h).kind)[j]?) : ShAt W B ⟨A, c, some ⟨g, 0, none⟩, d⟩ t := by
  refine .mk _ _ g 0 (fun _ => noneQ) hs hn (Or.inr ⟨rfl, hg⟩) (fun i h => ?_) (fun i h => ?_)
  · have e := hl _ (List.getElem_mem h)
    have k := hc i h
    rw [Nat.zero_add]
    unfold Sh5
    rw [e]
    exact ⟨k 0 (by omega), k 1 (by omega), k 2 (by omega), k 3 (by omega), k 4 (by omega)⟩
  · rw [hl _ (List.getElem_mem h)]; exact leaf_at _ _ _

/-- The memory that awake makes for its type. -/
def xW (w : World) : World := ((((((w.alloc (.cells #[.int .i64 1, .string ⟨#[]⟩, .string ⟨#[]⟩, .slice none 0 0, .slice none 0 0] 25)).alloc (.cells #[.int .i64 3, .string ⟨#[]⟩, .string ⟨#[]⟩, .slice none 0 0, .slice none 0 0] 25)).alloc (.cells #[.string ⟨#[98]⟩, .string ⟨#[97]⟩] 9)).alloc (.cells #[.int .i64 4, .string ⟨#[]⟩, .string ⟨#[]⟩, .slice none 0 0, .slice none 0 0, .int .i64 1, .string ⟨#[]⟩, .string ⟨#[]⟩, .slice none 0 0, .slice none 0 0] 25)).alloc
  (.cells #[.int .i64 1, .string ⟨#[]⟩, .string ⟨#[]⟩, .slice none 0 0, .slice none 0 0, .int .i64 5, .string ⟨#[]⟩, .string ⟨#[]⟩, .slice none 0 0, .slice (some ⟨w.heap.size + 1, 0, none⟩) 1 1, .int .i64 6, .string ⟨#[]⟩, .string ⟨#[]⟩, .slice (some ⟨w.heap.size + 1 + 1, 0, none⟩) 2 2, .slice (some ⟨w.heap.size + 1 + 1 + 1, 0, none⟩) 2 2] 25)).alloc
  (.cells #[.int .i64 8, .string ⟨#[]⟩, .string ⟨#[]⟩, .slice none 0 0, .slice (some ⟨w.heap.size + 1 + 1 + 1 + 1, 0, none⟩) 3 3] 25))
def qX (H : Nat) : Ptr := ⟨none, 0, some ⟨H + 1 + 1 + 1 + 1, 0, none⟩, 3⟩
def qsX (H : Nat) : Nat → Ptr
  | 0 => noneQ
  | 1 => ⟨none, 0, some ⟨H + 1, 0, none⟩, 1⟩
  | _ => ⟨some ⟨H + 1 + 1, 0, none⟩, 2, some ⟨H + 1 + 1 + 1, 0, none⟩, 2⟩
theorem xW_size (w : World) : (xW w).heap.size = w.heap.size + 6 := by simp [xW]
theorem xW_below (w : World) : Below w.heap.size w (xW w) := below_new (below_new (below_new (below_new (below_new (below_one _ _) _) _) _) _) _
theorem xW_i (w : World) : Box5 (xW w) w.heap.size aI noneQ := by
  refine ⟨by rw [xW_size]; omega, ⟨?_, ?_, ?_, ?_, ?_⟩, ?_, ?_, ?_, ?_, ?_⟩ <;> simp [xW, go_sem, aI, noneQ]
theorem xW_x (w : World) : Box5 (xW w) (w.heap.size + 1 + 1 + 1 + 1 + 1) aX (qX w.heap.size) := by
  refine ⟨by rw [xW_size]; omega, ⟨?_, ?_, ?_, ?_, ?_⟩, ?_, ?_, ?_, ?_, ?_⟩ <;> simp [xW, go_sem, aX, qX]
theorem xW_at (w : World) : ShAt (xW w) (xW w).heap.size (qX w.heap.size) aX := by
  have hz := xW_size w
  refine .mk _ _ (w.heap.size + 1 + 1 + 1 + 1) 0 (qsX w.heap.size) ⟨by decide, by decide, by decide, by decide, by decide, Nat.le_refl _, Nat.le_refl _, fun _ => rfl, nofun⟩ (Or.inl rfl) (Or.inr ⟨rfl, by omega⟩) (fun i h => ?_) (fun i h => ?_)
  · have h3 : i < 3 := h
    match i, h3 with
    | 0, _ => refine ⟨?_, ?_, ?_, ?_, ?_⟩ <;> simp [xW, go_sem, aX, aI, qsX, noneQ]
    | 1, _ => refine ⟨?_, ?_, ?_, ?_, ?_⟩ <;> simp [xW, go_sem, aX, aL, qsX]
    | 2, _ => refine ⟨?_, ?_, ?_, ?_, ?_⟩ <;> simp [xW, go_sem, aX, aR, qsX]
  · have h3 : i < 3 := h
    match i, h3 with
    | 0, _ => exact leaf_at _ _ 1
    | 1, _ =>
      refine leaves_at (t := aL) ⟨by decide, by decide, by decide, by decide, by decide, Nat.le_refl _, Nat.le_refl _, fun _ => rfl, nofun⟩ (Or.inl rfl) (by omega) (by intro p hp; simp [aL, aT] at hp; subst hp; rfl) (fun i h j hj => ?_)
      have h1 : i < 1 := h
      match i, h1 with
      | 0, _ =>
        match j, hj with
        | 0, _ => simp [xW, go_sem, aL, aT, cK]
        | 1, _ => simp [xW, go_sem, aL, aT, cK]
        | 2, _ => simp [xW, go_sem, aL, aT, cK]
        | 3, _ => simp [xW, go_sem, aL, aT, cK]
        | 4, _ => simp [xW, go_sem, aL, aT, cK]
    | 2, _ =>
      refine leaves_at (t := aR) ⟨by decide, by decide, by decide, by decide, by decide, Nat.le_refl _, Nat.le_refl _, nofun, nofun⟩ (Or.inr ⟨w.heap.size + 1 + 1, 0, rfl, by omega, fun i hi => ?_⟩) (by omega) (by intro p hp; simp [aR, aA, aI] at hp; rcases hp with rfl | rfl <;> rfl) (fun i h j hj => ?_)
      · have h2 : i < 2 := hi
        match i, h2 with
        | 0, _ => simp [xW, go_sem, aR, strs]
        | 1, _ => simp [xW, go_sem, aR, strs]
      · have h2 : i < 2 := h
        match i, h2 with
        | 0, _ =>
          match j, hj with
          | 0, _ => simp [xW, go_sem, aR, aA, cK]
          | 1, _ => simp [xW, go_sem, aR, aA, cK]
          | 2, _ => simp [xW, go_sem, aR, aA, cK]
          | 3, _ => simp [xW, go_sem, aR, aA, cK]
          | 4, _ => simp [xW, go_sem, aR, aA, cK]
        | 1, _ =>
          match j, hj with
          | 0, _ => simp [xW, go_sem, aR, aI, cK]
          | 1, _ => simp [xW, go_sem, aR, aI, cK]
          | 2, _ => simp [xW, go_sem, aR, aI, cK]
          | 3, _ => simp [xW, go_sem, aR, aI, cK]
          | 4, _ => simp [xW, go_sem, aR, aI, cK]

/-- The memory of the type that may not be. -/
def yW (w : World) : World := (w.alloc (.cells #[.string ⟨#[97]⟩, .string ⟨#[97]⟩] 9)).alloc (.cells #[.int .i64 1, .string ⟨#[]⟩, .string ⟨#[]⟩, .slice none 0 0, .slice none 0 0, .int .i64 1, .string ⟨#[]⟩, .string ⟨#[]⟩, .slice none 0 0, .slice none 0 0] 25)
def qY (H : Nat) : Ptr := ⟨some ⟨H, 0, none⟩, 2, some ⟨H + 1, 0, none⟩, 2⟩
theorem yW_below (w : World) : Below w.heap.size w (yW w) := below_new (below_one _ _) _
theorem yW_at (w : World) : ShAt (yW w) (yW w).heap.size (qY w.heap.size) aY := by
  have hz : (yW w).heap.size = w.heap.size + 2 := by simp [yW]
  refine leaves_at (t := aY) ⟨by decide, by decide, by decide, by decide, by decide, Nat.le_refl _, Nat.le_refl _, nofun, nofun⟩ (Or.inr ⟨w.heap.size, 0, rfl, by omega, fun i hi => ?_⟩) (by omega) (by intro p hp; simp [aY, aI] at hp; subst hp; rfl) (fun i h j hj => ?_)
  · have h2 : i < 2 := hi
    match i, h2 with
    | 0, _ => simp [yW, go_sem, aY, strs]
    | 1, _ => simp [yW, go_sem, aY, strs]
  · have h2 : i < 2 := h
    match i, h2 with
    | 0, _ =>
      match j, hj with
      | 0, _ => simp [yW, go_sem, aY, aI, cK]
      | 1, _ => simp [yW, go_sem, aY, aI, cK]
      | 2, _ => simp [yW, go_sem, aY, aI, cK]
      | 3, _ => simp [yW, go_sem, aY, aI, cK]
      | 4, _ => simp [yW, go_sem, aY, aI, cK]
    | 1, _ =>
      match j, hj with
      | 0, _ => simp [yW, go_sem, aY, aI, cK]
      | 1, _ => simp [yW, go_sem, aY, aI, cK]
      | 2, _ => simp [yW, go_sem, aY, aI, cK]
      | 3, _ => simp [yW, go_sem, aY, aI, cK]
      | 4, _ => simp [yW, go_sem, aY, aI, cK]

set_option maxRecDepth 100000 in
set_option maxHeartbeats 8000000 in
theorem awake7_walk (w : World) (hg : WGlobs w) : Calls Tryd.prog 17 #[] w fun e w' => e = .returned (.bool true) ∧ Below w.heap.size w w' := by
  have HBW := Lib.hid (xW_below w)
  have HG := Lib.hid (hg.next (xW_below w))
  have HXI := Lib.hid (xW_i w)
  have HXX := Lib.hid (xW_x w)
  have HXA := Lib.hid (xW_at w)
  clear hg
  go_enter Tryd.func17, Tryd.ntmps17
  go_wp2_with fail
  change Calls _ _ _ (xW w) _
  obtain ⟨H, hH⟩ : ∃ H, H = w.heap.size := ⟨_, rfl⟩
  have HH := Lib.hid hH
  rw [← hH] at HXI HXX HXA ⊢
  generalize xW w = W0 at HBW HG HXI HXX HXA ⊢
  clear hH
  have hs := oShow_walk aX (qX H) W0 HXA.out HG.out
  rw [aX_show, aX_check] at hs
  have HSH := Lib.hid hs
  clear hs
  refine HSH.out.mono ?_
  rintro e w1 ⟨rfl, hb1⟩
  have HB1 := Lib.hid hb1
  obtain ⟨z1, ⟨x0, x1, x2, x3, x4⟩, z2⟩ := HXX.out.next hb1
  simp only [Nat.zero_add] at x0 x1 x2 x3 x4
  change w1.cell? _ = some (.int .i64 8) at x0
  change w1.cell? _ = some (.string ⟨#[]⟩) at x1
  change w1.cell? _ = some (.string ⟨#[]⟩) at x2
  change w1.cell? _ = some (.slice none 0 0) at x3
  change w1.cell? _ = some (.slice (some ⟨H + 1 + 1 + 1 + 1, 0, none⟩) 3 3) at x4
  clear z1 z2
  have HSO := Lib.hid (oSort_walk aX (qX H) w1 (HXA.out.next hb1) (HG.out.next hb1) aX_check)
  clear hb1 HSH
  go_wp2_with fail
  refine HSO.out.mono ?_
  rintro e w2 ⟨q', rfl, hat, hb2⟩
  have HB2 := Lib.hid (below_next HB1.out hb2)
  obtain ⟨z, hz⟩ : ∃ z, z = sorted aX := ⟨_, rfl⟩
  have hs := oShow_walk (sorted aX) q' w2 hat (HG.out.next HB2.out)
  rw [aX_show2, aX_check2] at hs
  rw [← hz] at hs hat ⊢
  have HSH := Lib.hid hs
  clear x0 x1 x2 x3 x4
  clear hat hb2 hs hz HSO
  go_wp2_with fail
  refine HSH.out.mono ?_
  rintro e w3 ⟨rfl, hb3⟩
  have HB3 := Lib.hid (below_next HB2.out hb3)
  obtain ⟨z1, ⟨x0, x1, x2, x3, x4⟩, z2⟩ := HXX.out.next HB3.out
  simp only [Nat.zero_add] at x0 x1 x2 x3 x4
  change w3.cell? _ = some (.int .i64 8) at x0
  change w3.cell? _ = some (.string ⟨#[]⟩) at x1
  change w3.cell? _ = some (.string ⟨#[]⟩) at x2
  change w3.cell? _ = some (.slice none 0 0) at x3
  change w3.cell? _ = some (.slice (some ⟨H + 1 + 1 + 1 + 1, 0, none⟩) 3 3) at x4
  clear z1 z2
  have hw := oSize_walk aX (qX H) w3 (HXA.out.next HB3.out)
  rw [aX_size] at hw
  have HW := Lib.hid hw
  clear hb3 HSH hw
  go_wp2_with fail
  refine HW.out.mono ?_
  rintro e w4 ⟨rfl, hb4⟩
  have HB4 := Lib.hid (below_next HB3.out hb4)
  clear x0 x1 x2 x3 x4
  obtain ⟨z1, ⟨x0, x1, x2, x3, x4⟩, z2⟩ := HXX.out.next HB4.out
  simp only [Nat.zero_add] at x0 x1 x2 x3 x4
  change w4.cell? _ = some (.int .i64 8) at x0
  change w4.cell? _ = some (.string ⟨#[]⟩) at x1
  change w4.cell? _ = some (.string ⟨#[]⟩) at x2
  change w4.cell? _ = some (.slice none 0 0) at x3
  change w4.cell? _ = some (.slice (some ⟨H + 1 + 1 + 1 + 1, 0, none⟩) 3 3) at x4
  clear z1 z2
  have hw := oDeep_walk aX (qX H) w4 (HXA.out.next HB4.out)
  rw [aX_deep] at hw
  have HW4 := Lib.hid hw
  clear hb4 HW hw
  go_wp2_with fail
  refine HW4.out.mono ?_
  rintro e w5 ⟨rfl, hb5⟩
  have HB5 := Lib.hid (below_next HB4.out hb5)
  clear x0 x1 x2 x3 x4
  obtain ⟨z1, ⟨x0, x1, x2, x3, x4⟩, z2⟩ := HXX.out.next HB5.out
  simp only [Nat.zero_add] at x0 x1 x2 x3 x4
  change w5.cell? _ = some (.int .i64 8) at x0
  change w5.cell? _ = some (.string ⟨#[]⟩) at x1
  change w5.cell? _ = some (.string ⟨#[]⟩) at x2
  change w5.cell? _ = some (.slice none 0 0) at x3
  change w5.cell? _ = some (.slice (some ⟨H + 1 + 1 + 1 + 1, 0, none⟩) 3 3) at x4
  clear z1 z2
  have hw := oClosed_walk aX (qX H) w5 (HXA.out.next HB5.out) (HG.out.next HB5.out)
  rw [aX_closed] at hw
  have HW5 := Lib.hid hw
  clear hb5 HW4 hw
  go_wp2_with fail
  refine HW5.out.mono ?_
  rintro e w6 ⟨rfl, hb6⟩
  have HB6 := Lib.hid (below_next HB5.out hb6)
  clear x0 x1 x2 x3 x4
  obtain ⟨z1, ⟨i0, i1, i2, i3, i4⟩, z2⟩ := HXI.out.next HB6.out
  simp only [Nat.zero_add] at i0 i1 i2 i3 i4
  change w6.cell? _ = some (.int .i64 1) at i0
  change w6.cell? _ = some (.string ⟨#[]⟩) at i1
  change w6.cell? _ = some (.string ⟨#[]⟩) at i2
  change w6.cell? _ = some (.slice none 0 0) at i3
  change w6.cell? _ = some (.slice none 0 0) at i4
  clear z1 z2
  have hw := oCheck_walk aY (qY w6.heap.size) (yW w6) (yW_at w6) ((HG.out.next HB6.out).next (yW_below w6))
  rw [aY_check] at hw
  have HW6 := Lib.hid hw
  have HB7 := Lib.hid (below_next HB6.out (yW_below w6))
  have hl6 : H < w6.heap.size := Nat.lt_of_lt_of_le HXI.out.1 HB6.out.size
  clear hb6 HW5 hw
  go_wp2_with fail
  change Calls _ _ _ (yW w6) _
  generalize yW w6 = w7 at HW6 HB7 ⊢
  refine HW6.out.mono ?_
  rintro e w8 ⟨rfl, hb8⟩
  have HB8 := Lib.hid (below_next HBW.out (below_next HB7.out hb8))
  clear hb8 HW6 i0 i1 i2 i3 i4
  go_wp2
  go_ret
  exact ⟨rfl, HB8.out⟩
end Go.Proofs.YtkehnmapnckdgaaDoor
