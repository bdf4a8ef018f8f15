/- What the proofs of TermsBare, TermsChecks, TermsDeep, TermsSame, TermsSames want, part 23. -/
import Derived.StillTailTactics
import Derived.Deep.RegionHeld3
import Derived.Test.YtnkdedejfonbmaaGreatDoorK0n22
set_option linter.unusedVariables false
set_option linter.unusedSimpArgs false
set_option maxRecDepth 100000
set_option maxHeartbeats 16000000
namespace Go.Proofs.YtnkdedejfonbmaaGreatDoor
open Go.RowKit Tms
open Shp (Sh)
def vX : Tm := ⟨5, [], [120], 0, [], [], [], [], 3⟩
def iS : Sh := ⟨1, [], [], [], []⟩
def fX : Tm := ⟨6, [], [], 0, [[120]], [], [iS], [vX], 0⟩
def nX : Tm := ⟨1, [], [], 2, [], [], [], [], 0⟩
def cX : Tm := ⟨7, [], [], 0, [], [], [], [fX, nX], 0⟩
def lX : Tm := ⟨14, [], [120], 0, [], [], [], [vX], 0⟩
theorem Z9B : Tms.check cX = 0 := by decide +kernel
theorem Zh2 : Tms.text cX = [40, 102, 117, 110, 32, 40, 120, 58, 32, 73, 110, 116, 41, 32, 45, 62, 32, 120, 41, 40, 50, 41] := by decide +kernel
theorem ZbG : tame cX = true := by decide +kernel
theorem Zgh : Tms.check lX = 80 := by decide +kernel
def yW (w : World) : World := ((((((w.alloc (.cells #[.int .i64 5, .string ⟨#[]⟩, .string ⟨#[120]⟩, .int .i64 0, .slice none 0 0, .slice none 0 0, .slice none 0 0, .slice none 0 0, .int .i64 3] 26)).alloc (.cells #[.string ⟨#[120]⟩] 9)).alloc (.cells #[.int .i64 1, .string ⟨#[]⟩, .string ⟨#[]⟩, .slice none 0 0, .slice none 0 0] 45)).alloc (.cells #[.int .i64 5, .string ⟨#[]⟩, .string ⟨#[120]⟩, .int .i64 0, .slice none 0 0, .slice none 0 0, .slice none 0 0, .slice none 0 0, .int .i64 3] 26)).alloc (.cells #[.int .i64 6, .string ⟨#[]⟩, .string ⟨#[]⟩, .int .i64 0, .slice (some ⟨w.heap.size + 1, 0, none⟩) 1 1, .slice none 0 0, .slice (some ⟨w.heap.size + 1 + 1, 0, none⟩) 1 1, .slice (some ⟨w.heap.size + 1 + 1 + 1, 0, none⟩) 1 1, .int .i64 0] 26)).alloc (.cells #[.int .i64 6, .string ⟨#[]⟩, .string ⟨#[]⟩, .int .i64 0, .slice (some ⟨w.heap.size + 1, 0, none⟩) 1 1, .slice none 0 0, .slice (some ⟨w.heap.size + 1 + 1, 0, none⟩) 1 1, .slice (some ⟨w.heap.size + 1 + 1 + 1, 0, none⟩) 1 1, .int .i64 0, .int .i64 1, .string ⟨#[]⟩, .string ⟨#[]⟩, .int .i64 2, .slice none 0 0, .slice none 0 0, .slice none 0 0, .slice none 0 0, .int .i64 0] 26)).alloc (.cells #[.int .i64 7, .string ⟨#[]⟩, .string ⟨#[]⟩, .int .i64 0, .slice none 0 0, .slice none 0 0, .slice none 0 0, .slice (some ⟨w.heap.size + 1 + 1 + 1 + 1 + 1, 0, none⟩) 2 2, .int .i64 0] 26)
def qF8 (H : Nat) : TP := ⟨some ⟨H + 1, 0, none⟩, 1, none, 0, some ⟨H + 1 + 1, 0, none⟩, 1, some ⟨H + 1 + 1 + 1, 0, none⟩, 1⟩
def qC8 (H : Nat) : TP := ⟨none, 0, none, 0, none, 0, some ⟨H + 1 + 1 + 1 + 1 + 1, 0, none⟩, 2⟩
def qs8 (H : Nat) : Nat -> TP
 | 0 => qF8 H
 | _ => noneT
theorem Z40 (w : World) : (yW w).heap.size = w.heap.size + 7 := by simp [yW]
theorem Z4n (w : World) : Below w.heap.size w (yW w) := Z08 (Z08 (Z08 (Z08 (Z08 (Z08 (Z02 _ _) _) _) _) _) _) _
theorem yW_v (w : World) : Box9 (yW w) w.heap.size vX noneT := by
 refine ⟨by rw [Z40]; omega, ⟨?_, ?_, ?_, ?_, ?_, ?_, ?_, ?_, ?_⟩, fun k => ?_⟩ <;> simp [yW, go_sem, vX, noneT]
theorem yW_f (w : World) : Box9 (yW w) (w.heap.size + 1 + 1 + 1 + 1) fX (qF8 w.heap.size) := by
 refine ⟨by rw [Z40]; omega, ⟨?_, ?_, ?_, ?_, ?_, ?_, ?_, ?_, ?_⟩, fun k => ?_⟩ <;> simp [yW, go_sem, fX, qF8]
theorem yW_c (w : World) : Box9 (yW w) (w.heap.size + 1 + 1 + 1 + 1 + 1 + 1) cX (qC8 w.heap.size) := by
 refine ⟨by rw [Z40]; omega, ⟨?_, ?_, ?_, ?_, ?_, ?_, ?_, ?_, ?_⟩, fun k => ?_⟩ <;> simp [yW, go_sem, cX, qC8]
theorem Z63 (W : World) (B : Nat) (k n a : Int) (s : List UInt8) (hk : -9223372036854775808 <= k /\ k <= 9223372036854775807) (hn : -9223372036854775808 <= n /\ n <= 9223372036854775807) (ha : -9223372036854775808 <= a /\ a <= 9223372036854775807) (hs : s.length <= 9223372036854775807) : TmAt W B noneT ⟨k, [], s, n, [], [], [], [], a⟩ :=
 .mk _ _ 0 0 (fun _ => noneT) ⟨by simp, hs, nofun, nofun, by simp, by simp, by simp, by simp, by simp, by simp, by simp, by simp, fun _ => rfl, fun _ => rfl, fun _ => rfl, fun _ => rfl, hn, ha, hk⟩ (Or.inl rfl) (Or.inl rfl) (Or.inl rfl) (Or.inl rfl) (fun i h => absurd h (by simp)) (fun i h => absurd h (by simp))
theorem Zgt (W : World) (B : Nat) : TmAt W B noneT vX := Z63 W B 5 0 3 [120] (by omega) (by omega) (by omega) (by simp)
theorem Zi8 (W : World) (B : Nat) : TmAt W B noneT nX := Z63 W B 1 2 0 [] (by omega) (by omega) (by omega) (by simp)
theorem Zi9 (W : World) (B : Nat) : ShAt W B noneQ iS :=
 .mk _ _ 0 0 (fun _ => noneQ) ⟨by simp [iS], by simp [iS], nofun, by simp [iS], by simp [iS], by simp [iS], by simp [iS], fun _ => rfl, fun _ => rfl⟩ (Or.inl rfl) (Or.inl rfl) (fun i h => absurd h (by simp [iS])) (fun i h => absurd h (by simp [iS]))
theorem Zf6 (w : World) : TmAt (yW w) (yW w).heap.size (qF8 w.heap.size) fX := by
 have hz := Z40 w
 refine .mk _ _ (w.heap.size + 1 + 1 + 1) 0 (fun _ => noneT) ⟨by decide, by decide, by decide, by decide, by decide, by decide, by decide, by decide, Nat.le_refl _, Nat.le_refl _, Nat.le_refl _, Nat.le_refl _, nofun, fun _ => rfl, nofun, nofun, by decide, by decide, by decide⟩ (Or.inr ⟨w.heap.size + 1, 0, rfl, by omega, fun i hi => ?_⟩) (Or.inl rfl) (Or.inr ⟨w.heap.size + 1 + 1, 0, fun _ => noneQ, rfl, by omega, fun i hi => ?_, fun i hi => ?_⟩) (Or.inr ⟨rfl, by omega⟩) (fun i hi => ?_) (fun i hi => ?_)
 {have h1 : i < 1 := hi
  match i, h1 with
  | 0, _ => simp [yW, go_sem, fX, strs]}
 {have h1 : i < 1 := hi
  match i, h1 with
  | 0, _ => refine ⟨?_, ?_, ?_, ?_, ?_⟩ <;> simp [yW, go_sem, fX, iS, noneQ]}
 {have h1 : i < 1 := hi
  match i, h1 with
  | 0, _ => exact Zi9 _ _}
 {have h1 : i < 1 := hi
  match i, h1 with
  | 0, _ => refine ⟨?_, ?_, ?_, ?_, ?_, ?_, ?_, ?_, ?_⟩ <;> simp [yW, go_sem, fX, vX, noneT]}
 {have h1 : i < 1 := hi
  match i, h1 with
  | 0, _ => exact Zgt _ _}
theorem ZhH (w : World) : TmAt (yW w) (yW w).heap.size (qC8 w.heap.size) cX := by
 have hz := Z40 w
 refine .mk _ _ (w.heap.size + 1 + 1 + 1 + 1 + 1) 0 (qs8 w.heap.size) ⟨by decide, by decide, by decide, by decide, by decide, by decide, by decide, by decide, Nat.le_refl _, Nat.le_refl _, Nat.le_refl _, Nat.le_refl _, fun _ => rfl, fun _ => rfl, fun _ => rfl, nofun, by decide, by decide, by decide⟩ (Or.inl rfl) (Or.inl rfl) (Or.inl rfl) (Or.inr ⟨rfl, by omega⟩) (fun i hi => ?_) (fun i hi => ?_)
 {have h1 : i < 2 := hi
  match i, h1 with
  | 0, _ => refine ⟨?_, ?_, ?_, ?_, ?_, ?_, ?_, ?_, ?_⟩ <;> simp [yW, go_sem, cX, fX, qs8, qF8]
  | 1, _ => refine ⟨?_, ?_, ?_, ?_, ?_, ?_, ?_, ?_, ?_⟩ <;> simp [yW, go_sem, cX, nX, qs8, noneT]}
 {have h1 : i < 2 := hi
  match i, h1 with
  | 0, _ => exact Zf6 w
  | 1, _ => exact Zi8 _ _}
def ZhI : Want := ⟨fun v W => ∃ q' : TP, v = .agg (Y7 (strip cX) q') /\ TmAt W W.heap.size q' (strip cX), fun v w w' hb ⟨q', h1, h2⟩ => ⟨q', h1, h2.next hb⟩⟩
def Zf7 (l : List Tm) : Want := ⟨fun v W => ∃ g, v = .slice (some ⟨g, 0, none⟩) 2 2 /\ TmsIn W W.heap.size (some ⟨g, 0, none⟩) l, fun v w w' hb ⟨g, h1, h2⟩ => ⟨g, h1, h2.next hb⟩⟩
def ZhJ : Want := ⟨fun v W => ∃ g, v = .slice (some ⟨g, 0, none⟩) 1 1 /\ g < W.heap.size /\ Tm9 W g 0 vX noneT, fun v w w' hb ⟨g, h1, h2, h3⟩ => ⟨g, h1, Nat.lt_of_lt_of_le h2 hb.size, h3.keep h2 hb⟩⟩
def ZhK : Want := ⟨fun v W => ∃ g, v = .agg #[.int .i64 14, .string ⟨#[]⟩, .string ⟨#[120]⟩, .int .i64 0, .slice none 0 0, .slice none 0 0, .slice none 0 0, .slice (some ⟨g, 0, none⟩) 1 1, .int .i64 0] /\ g < W.heap.size /\ Tm9 W g 0 vX noneT, fun v w w' hb ⟨g, h1, h2, h3⟩ => ⟨g, h1, Nat.lt_of_lt_of_le h2 hb.size, h3.keep h2 hb⟩⟩
def qL8 (g : Nat) : TP := ⟨none, 0, none, 0, none, 0, some ⟨g, 0, none⟩, 1⟩
theorem Zia {W : World} {g : Nat} (h : g < W.heap.size) (h9 : Tm9 W g 0 vX noneT) : TmAt W W.heap.size (qL8 g) lX := by
 refine .mk _ _ g 0 (fun _ => noneT) ⟨by decide, by decide, by decide, by decide, by decide, by decide, by decide, by decide, Nat.le_refl _, Nat.le_refl _, Nat.le_refl _, Nat.le_refl _, fun _ => rfl, fun _ => rfl, fun _ => rfl, nofun, by decide, by decide, by decide⟩ (Or.inl rfl) (Or.inl rfl) (Or.inl rfl) (Or.inr ⟨rfl, h⟩) (fun i hi => ?_) (fun i hi => ?_)
 {have h1 : i < 1 := hi
  match i, h1 with
  | 0, _ => exact h9}
 {have h1 : i < 1 := hi
  match i, h1 with
  | 0, _ => exact Zgt _ _}
def Z0m (W : World) (x y : Tm) (qx qy : TP) : World := W.alloc (.cells #[.int .i64 x.kind, .string ⟨x.of_.toArray⟩, .string ⟨x.name.toArray⟩, .int .i64 x.n, .slice qx.A x.names.length qx.c, .slice qx.V x.vars.length qx.e, .slice qx.S x.shapes.length qx.s, .slice qx.P x.parts.length qx.d, .int .i64 x.at_, .int .i64 y.kind, .string ⟨y.of_.toArray⟩, .string ⟨y.name.toArray⟩, .int .i64 y.n, .slice qy.A y.names.length qy.c, .slice qy.V y.vars.length qy.e, .slice qy.S y.shapes.length qy.s, .slice qy.P y.parts.length qy.d, .int .i64 y.at_] 26)
theorem two8 (W : World) (x y : Tm) (qx qy : TP) (hx : TmAt W W.heap.size qx x) (hy : TmAt W W.heap.size qy y) : TmsIn (Z0m W x y qx qy) (Z0m W x y qx qy).heap.size (some ⟨W.heap.size, 0, none⟩) [x, y] := by
 refine Or.inr ⟨W.heap.size, 0, fun i => if i = 0 then qx else qy, rfl, by simp [Z0m], fun i hi => ?_, fun i hi => ?_⟩
 {have h1 : i < 2 := hi
  match i, h1 with
  | 0, _ => refine ⟨?_, ?_, ?_, ?_, ?_, ?_, ?_, ?_, ?_⟩ <;> simp [Z0m, go_sem]
  | 1, _ => refine ⟨?_, ?_, ?_, ?_, ?_, ?_, ?_, ?_, ?_⟩ <;> simp [Z0m, go_sem]}
 {have h1 : i < 2 := hi
  match i, h1 with
  | 0, _ => exact hx.next (Z02 W _)
  | 1, _ => exact hy.next (Z02 W _)}
theorem Zh3 : Tms.same [cX, strip cX] = true := by decide +kernel
theorem Zh4 : Tms.same [cX, fX] = false := by decide +kernel
theorem Zb7 : few (strip cX) = true := by decide +kernel
theorem Zf8 : few cX = true := by decide +kernel
theorem ZhL : few fX = true := by decide +kernel
theorem ZhM : few lX = true := by decide +kernel
def awk8 (H : Nat) : Nat -> Want
 | 0 => .val (.string ⟨#[40, 102, 117, 110, 32, 40, 120, 58, 32, 73, 110, 116, 41, 32, 45, 62, 32, 120, 41, 40, 50, 41]⟩)
 | 1 => .val (.bool true)
 | 2 => .val (.bool true)
 | 3 => .val (.int .i64 0)
 | 4 => .val (.bool true)
 | 5 => .val (.bool true)
 | 6 => .val (.bool true)
 | 7 => .val (.agg (Y7 cX (qC8 H)))
 | 8 => .val (.int .i64 4)
 | 9 => .val (.bool true)
 | 10 => .val (.bool true)
 | 11 => .val (.bool true)
 | 12 => .val (.agg (Y7 cX (qC8 H)))
 | 13 => .val (.agg (Y7 cX (qC8 H)))
 | 14 => ZhI
 | 15 => (Zf7 [cX, strip cX])
 | 16 => .val (.bool true)
 | 17 => .val (.bool true)
 | 18 => .val (.bool true)
 | 19 => .val (.agg (Y7 cX (qC8 H)))
 | 20 => .val (.agg (Y7 fX (qF8 H)))
 | 21 => (Zf7 [cX, fX])
 | 22 => .val (.bool false)
 | 23 => .val (.bool true)
 | 24 => .val (.bool true)
 | 25 => .val (.bool true)
 | 26 => .val (.agg (Y7 vX noneT))
 | 27 => ZhJ
 | 28 => ZhK
 | 29 => .val (.int .i64 80)
 | 30 => .val (.bool true)
 | 31 => .val (.bool true)
 | 32 => .val (.bool true)
 | _ => .any
theorem Z0J (w : World) (hG : Globs w) (hg : WGlobs w) (hu : Z0l w) : Y9 12 #[] w (.bool true) := by
 have HBW := Y1 (Z4n w)
 have HG0 := Y1 (hG.next (Z4n w))
 have HG := Y1 (hg.next (Z4n w))
 have HU := Y1 (hu.next (Z4n w))
 have HV := Y1 (yW_v w)
 have HF := Y1 (yW_f w)
 have HC := Y1 (yW_c w)
 have HFA := Y1 (Zf6 w)
 have HCA := Y1 (ZhH w)
 clear hG hg hu
 go_enter Tryz.func12, Tryz.ntmps12
 go_wp2_with fail
 change Calls _ _ _ (yW w) _
 obtain ⟨H, hH⟩ : ∃ H, H = w.heap.size := ⟨_, rfl⟩
 have HH := Y1 hH
 rw [<- hH] at HV HF HC HFA HCA ⊢
 generalize yW w = W0 at HBW HG0 HG HU HV HF HC HFA HCA ⊢
 clear hH
 have hs := Z12 cX (qC8 H) W0 HCA.out HG0.out HG.out HU.out ZbG Z9B
 rw [Zh2] at hs
 refine hs.mono ?_
 rintro e w1 ⟨rfl, hb1⟩
 have HB1 := Y1 hb1
 clear hs hb1
 go_wp2_with fail
 refine Z0p (rs := [0, 1, 2, 3, 4, 5, 6, 7, 8, 9, 10, 11, 12, 13, 14, 15, 16, 17, 18, 19, 20, 21, 22, 23, 24, 25, 26, 27, 28, 29, 30, 31, 32])
  (fun u' => { tmps := #[u' 32, .pointer (some { block := H, off := 0 }), .pointer (some { block := H + 1 + 1 + 1 + 1, off := 0 }), .pointer (some { block := H + 1 + 1 + 1 + 1 + 1 + 1, off := 0 }), .string { data := #[40, 102, 117, 110, 32, 40, 120, 58, 32, 73, 110, 116, 41, 32, 45, 62, 32, 120, 41, 40, 50, 41] }, .int .i64 0, .agg #[.int .i64 5, .string { data := #[] }, .string { data := #[120] }, .int .i64 0, .slice none 0 0, .slice none 0 0, .slice none 0 0, .slice none 0 0, .int .i64 3], .slice (some { block := H + 1, off := 0 }) 1 1, .agg #[.int .i64 1, .string { data := #[] }, .string { data := #[] }, .slice none 0 0, .slice none 0 0], .slice (some { block := H + 1 + 1, off := 0 }) 1 1, .agg #[.int .i64 5, .string { data := #[] }, .string { data := #[120] }, .int .i64 0, .slice none 0 0, .slice none 0 0, .slice none 0 0, .slice none 0 0, .int .i64 3], .slice (some { block := H + 1 + 1 + 1, off := 0 }) 1 1, .agg #[.int .i64 6, .string { data := #[] }, .string { data := #[] }, .int .i64 0, .slice (some { block := H + 1, off := 0 }) 1 1, .slice none 0 0, .slice (some { block := H + 1 + 1, off := 0 }) 1 1, .slice (some { block := H + 1 + 1 + 1, off := 0 }) 1 1, .int .i64 0], .agg #[.int .i64 6, .string { data := #[] }, .string { data := #[] }, .int .i64 0, .slice (some { block := H + 1, off := 0 }) 1 1, .slice none 0 0, .slice (some { block := H + 1 + 1, off := 0 }) 1 1, .slice (some { block := H + 1 + 1 + 1, off := 0 }) 1 1, .int .i64 0], .agg #[.int .i64 1, .string { data := #[] }, .string { data := #[] }, .int .i64 2, .slice none 0 0, .slice none 0 0, .slice none 0 0, .slice none 0 0, .int .i64 0], .slice (some { block := H + 1 + 1 + 1 + 1 + 1, off := 0 }) 2 2, .agg #[.int .i64 7, .string { data := #[] }, .string { data := #[] }, .int .i64 0, .slice none 0 0, .slice none 0 0, .slice none 0 0, .slice (some { block := H + 1 + 1 + 1 + 1 + 1, off := 0 }) 2 2, .int .i64 0], .tuple #[.string { data := #[40, 102, 117, 110, 32, 40, 120, 58, 32, 73, 110, 116, 41, 32, 45, 62, 32, 120, 41, 40, 50, 41] }, .int .i64 0], .agg #[.int .i64 7, .string { data := #[] }, .string { data := #[] }, .int .i64 0, .slice none 0 0, .slice none 0 0, .slice none 0 0, .slice (some { block := H + 1 + 1 + 1 + 1 + 1, off := 0 }) 2 2, .int .i64 0], .tuple #[.string { data := #[40, 102, 117, 110, 32, 40, 120, 58, 32, 73, 110, 116, 41, 32, 45, 62, 32, 120, 41, 40, 50, 41] }, .int .i64 0], .string { data := #[40, 102, 117, 110, 32, 40, 120, 58, 32, 73, 110, 116, 41, 32, 45, 62, 32, 120, 41, 40, 50, 41] }, .int .i64 0, u' 0, u' 1, u' 2, u' 3, u' 4, u' 5, u' 6, u' 7, u' 8, u' 9, u' 10, u' 11, u' 12, u' 13, u' 14, u' 15, u' 16, u' 17, u' 18, u' 19, u' 20, u' 21, u' 22, u' 23, u' 24, u' 25, u' 26, u' 27, u' 28, u' 29, u' 30, u' 31], defers := [] })
  (fun j => ([undef, undef, undef, undef, undef, undef, undef, undef, undef, undef, undef, undef, undef, undef, undef, undef, undef, undef, undef, undef, undef, undef, undef, undef, undef, undef, undef, undef, undef, undef, undef, undef, .bool false] : List Value).getD j undef) (awk8 H) (fun W => Below w1.heap.size w1 W) (by kernel_rfl) (by kernel_rfl) (by kernel_rfl) Y2.drew ?_ ?_
 refine StepsAt.cons _ rfl (fun u' W K' hJ hd hK => ?_) ?_
 {refine Y0 hK hJ rfl rfl rfl ?_
  try dsimp only
  go_simp}
 refine StepsAt.cons _ rfl (fun u' W K' hJ hd hK => ?_) ?_
 {have d0 : _ = _ := hd 0 (by kernel_rfl)
  refine Y0 hK hJ rfl rfl rfl ?_
  try dsimp only
  go_simp}
 refine StepsAt.cons _ rfl (fun u' W K' hJ hd hK => ?_) ?_
 {have d1 : _ = _ := hd 1 (by kernel_rfl)
  refine Y0 hK hJ rfl rfl rfl ?_
  try dsimp only
  go_simp}
 refine StepsAt.cons _ rfl (fun u' W K' hJ hd hK => ?_) ?_
 {have dg : _ = _ := hd 2 (by kernel_rfl)
  refine Y0 hK hJ rfl rfl ?_ ?_
  {simp [Region.wanted, yielded, dg]}
  {try dsimp only
   go_simp}}
 refine StepsAt.cons _ rfl (fun u' W K' hJ hd hK => ?_) ?_
 {have dg : _ = _ := hd 2 (by kernel_rfl)
  have d3 : _ = _ := hd 3 (by kernel_rfl)
  refine Y0 hK hJ rfl rfl ?_ ?_
  {simp [Region.wanted, yielded, dg]}
  {try dsimp only
   go_simp}}
 refine StepsAt.cons _ rfl (fun u' W K' hJ hd hK => ?_) ?_
 {have d2 : _ = _ := hd 2 (by kernel_rfl)
  have d4 : _ = _ := hd 4 (by kernel_rfl)
  refine Y0 hK hJ rfl rfl rfl ?_
  try dsimp only
  go_simp}
 refine StepsAt.cons _ rfl (fun u' W K' hJ hd hK => ?_) ?_
 {have d5 : _ = _ := hd 5 (by kernel_rfl)
  refine Y0 hK hJ rfl rfl rfl ?_
  try dsimp only
  go_simp}
 refine StepsAt.cons _ rfl (fun u' W K' hJ hd hK => ?_) ?_
 {have dg : _ = _ := hd 6 (by kernel_rfl)
  obtain ⟨_, ⟨y0, y1, y2, y3, y4, y5, y6, y7, y8⟩, _⟩ := HC.out.next (Z00 HB1.out hJ)
  simp only [Nat.zero_add] at y0 y1 y2 y3 y4 y5 y6 y7 y8
  refine Y0 hK hJ rfl rfl ?_ ?_
  {simp [Region.wanted, yielded, dg]}
  {try dsimp only
   go_simp}}
 refine StepsAt.cons _ rfl (fun u' W K' hJ hd hK => ?_) ?_
 {have dg : _ = _ := hd 6 (by kernel_rfl)
  have d7 : _ = _ := hd 7 (by kernel_rfl)
  have hw := Z1y cX (qC8 H) W (HCA.out.next (Z00 HB1.out hJ))
  rw [show sizeTo 4096 cX = 4 from by decide +kernel] at hw
  refine Z05 (f := 10) (args := #[.agg (Y7 cX (qC8 H))]) (W' := W) ?_ ?_ ((hw).mono fun e w' h => ⟨_, h.1, hK.out _ _ rfl (Z00 hJ h.2) h.2⟩)
  {simp [Region.wanted, yielded, dg]}
  {try dsimp only
   go_simp}}
 refine StepsAt.cons _ rfl (fun u' W K' hJ hd hK => ?_) ?_
 {have dg : _ = _ := hd 6 (by kernel_rfl)
  have d8 : _ = _ := hd 8 (by kernel_rfl)
  refine Y0 hK hJ rfl rfl ?_ ?_
  {simp [Region.wanted, yielded, dg]}
  {try dsimp only
   go_simp}}
 refine StepsAt.cons _ rfl (fun u' W K' hJ hd hK => ?_) ?_
 {have d6 : _ = _ := hd 6 (by kernel_rfl)
  have d9 : _ = _ := hd 9 (by kernel_rfl)
  refine Y0 hK hJ rfl rfl rfl ?_
  try dsimp only
  go_simp}
 refine StepsAt.cons _ rfl (fun u' W K' hJ hd hK => ?_) ?_
 {have d10 : _ = _ := hd 10 (by kernel_rfl)
  refine Y0 hK hJ rfl rfl rfl ?_
  try dsimp only
  go_simp}
 refine StepsAt.cons _ rfl (fun u' W K' hJ hd hK => ?_) ?_
 {have dg : _ = _ := hd 11 (by kernel_rfl)
  obtain ⟨_, ⟨y0, y1, y2, y3, y4, y5, y6, y7, y8⟩, _⟩ := HC.out.next (Z00 HB1.out hJ)
  simp only [Nat.zero_add] at y0 y1 y2 y3 y4 y5 y6 y7 y8
  refine Y0 hK hJ rfl rfl ?_ ?_
  {simp [Region.wanted, yielded, dg]}
  {try dsimp only
   go_simp}}
 refine StepsAt.cons _ rfl (fun u' W K' hJ hd hK => ?_) ?_
 {have dg : _ = _ := hd 11 (by kernel_rfl)
  obtain ⟨_, ⟨y0, y1, y2, y3, y4, y5, y6, y7, y8⟩, _⟩ := HC.out.next (Z00 HB1.out hJ)
  simp only [Nat.zero_add] at y0 y1 y2 y3 y4 y5 y6 y7 y8
  refine Y0 hK hJ rfl rfl ?_ ?_
  {simp [Region.wanted, yielded, dg]}
  {try dsimp only
   go_simp}}
 refine StepsAt.cons _ rfl (fun u' W K' hJ hd hK => ?_) ?_
 {have dg : _ = _ := hd 11 (by kernel_rfl)
  have d13 : _ = _ := hd 13 (by kernel_rfl)
  refine Z05 (f := 15) (args := #[.agg (Y7 cX (qC8 H))]) (W' := W) ?_ ?_ ((Z6G cX (qC8 H) W (HCA.out.next (Z00 HB1.out hJ)) (HG.out.next (Z00 HB1.out hJ)) (HU.out.next (Z00 HB1.out hJ)) ZbG Z9B).mono fun e w' h => by
   obtain ⟨q', h1, h2, h3⟩ := h
   exact ⟨_, h1, hK.out _ _ ⟨q', rfl, h2⟩ (Z00 hJ h3) h3⟩)
  {simp [Region.wanted, yielded, dg]}
  {try dsimp only
   go_simp}}
 refine StepsAt.cons _ rfl (fun u' W K' hJ hd hK => ?_) ?_
 {have dg : _ = _ := hd 11 (by kernel_rfl)
  have d12 : _ = _ := hd 12 (by kernel_rfl)
  obtain ⟨q', d14, h14⟩ := hd 14 (by kernel_rfl)
  have hb := Z02 W (.cells #[.int .i64 cX.kind, .string ⟨cX.of_.toArray⟩, .string ⟨cX.name.toArray⟩, .int .i64 cX.n, .slice ((qC8 H)).A cX.names.length ((qC8 H)).c, .slice ((qC8 H)).V cX.vars.length ((qC8 H)).e, .slice ((qC8 H)).S cX.shapes.length ((qC8 H)).s, .slice ((qC8 H)).P cX.parts.length ((qC8 H)).d, .int .i64 cX.at_, .int .i64 (strip cX).kind, .string ⟨(strip cX).of_.toArray⟩, .string ⟨(strip cX).name.toArray⟩, .int .i64 (strip cX).n, .slice q'.A (strip cX).names.length q'.c, .slice q'.V (strip cX).vars.length q'.e, .slice q'.S (strip cX).shapes.length q'.s, .slice q'.P (strip cX).parts.length q'.d, .int .i64 (strip cX).at_] 26)
  have ht := two8 W cX (strip cX) (qC8 H) q' (HCA.out.next (Z00 HB1.out hJ)) h14
  refine Z01 (v := .slice (some ⟨W.heap.size, 0, none⟩) 2 2) (W' := Z0m W cX (strip cX) (qC8 H) q') ?_ ?_ (hK.out _ _ ⟨_, rfl, ht⟩ (Z00 hJ hb) hb)
  {simp [Region.wanted, yielded, dg]}
  {unfold Z0m
   try dsimp only
   go_simp}}
 refine StepsAt.cons _ rfl (fun u' W K' hJ hd hK => ?_) ?_
 {have dg : _ = _ := hd 11 (by kernel_rfl)
  obtain ⟨g, d15, h15⟩ := hd 15 (by kernel_rfl)
  have hfw : ∀ t ∈ [cX, strip cX], few t = true := by
   intro t ht
   simp only [List.mem_cons, List.not_mem_nil, or_false] at ht
   rcases ht with rfl | rfl
   {exact Zf8}
   {exact Zb7}
  have hw := Z0g (some ⟨g, 0, none⟩) 2 [cX, strip cX] W h15 (by simp) hfw (HG.out.next (Z00 HB1.out hJ)) (HU.out.next (Z00 HB1.out hJ))
  rw [Zh3] at hw
  refine Z05 (f := 13) (args := #[.slice (some ⟨g, 0, none⟩) 2 2]) (W' := W) ?_ ?_ ((hw).mono fun e w' h => ⟨_, h.1, hK.out _ _ rfl (Z00 hJ h.2) h.2⟩)
  {simp [Region.wanted, yielded, dg]}
  {try dsimp only
   go_simp}}
 refine StepsAt.cons _ rfl (fun u' W K' hJ hd hK => ?_) ?_
 {have d11 : _ = _ := hd 11 (by kernel_rfl)
  have d16 : _ = _ := hd 16 (by kernel_rfl)
  refine Y0 hK hJ rfl rfl rfl ?_
  try dsimp only
  go_simp}
 refine StepsAt.cons _ rfl (fun u' W K' hJ hd hK => ?_) ?_
 {have d17 : _ = _ := hd 17 (by kernel_rfl)
  refine Y0 hK hJ rfl rfl rfl ?_
  try dsimp only
  go_simp}
 refine StepsAt.cons _ rfl (fun u' W K' hJ hd hK => ?_) ?_
 {have dg : _ = _ := hd 18 (by kernel_rfl)
  obtain ⟨_, ⟨y0, y1, y2, y3, y4, y5, y6, y7, y8⟩, _⟩ := HC.out.next (Z00 HB1.out hJ)
  simp only [Nat.zero_add] at y0 y1 y2 y3 y4 y5 y6 y7 y8
  refine Y0 hK hJ rfl rfl ?_ ?_
  {simp [Region.wanted, yielded, dg]}
  {try dsimp only
   go_simp}}
 refine StepsAt.cons _ rfl (fun u' W K' hJ hd hK => ?_) ?_
 {have dg : _ = _ := hd 18 (by kernel_rfl)
  obtain ⟨_, ⟨y0, y1, y2, y3, y4, y5, y6, y7, y8⟩, _⟩ := HF.out.next (Z00 HB1.out hJ)
  simp only [Nat.zero_add] at y0 y1 y2 y3 y4 y5 y6 y7 y8
  refine Y0 hK hJ rfl rfl ?_ ?_
  {simp [Region.wanted, yielded, dg]}
  {try dsimp only
   go_simp}}
 refine StepsAt.cons _ rfl (fun u' W K' hJ hd hK => ?_) ?_
 {have dg : _ = _ := hd 18 (by kernel_rfl)
  have d19 : _ = _ := hd 19 (by kernel_rfl)
  have d20 : _ = _ := hd 20 (by kernel_rfl)
  have hb := Z02 W (.cells #[.int .i64 cX.kind, .string ⟨cX.of_.toArray⟩, .string ⟨cX.name.toArray⟩, .int .i64 cX.n, .slice ((qC8 H)).A cX.names.length ((qC8 H)).c, .slice ((qC8 H)).V cX.vars.length ((qC8 H)).e, .slice ((qC8 H)).S cX.shapes.length ((qC8 H)).s, .slice ((qC8 H)).P cX.parts.length ((qC8 H)).d, .int .i64 cX.at_, .int .i64 fX.kind, .string ⟨fX.of_.toArray⟩, .string ⟨fX.name.toArray⟩, .int .i64 fX.n, .slice ((qF8 H)).A fX.names.length ((qF8 H)).c, .slice ((qF8 H)).V fX.vars.length ((qF8 H)).e, .slice ((qF8 H)).S fX.shapes.length ((qF8 H)).s, .slice ((qF8 H)).P fX.parts.length ((qF8 H)).d, .int .i64 fX.at_] 26)
  have ht := two8 W cX fX (qC8 H) (qF8 H) (HCA.out.next (Z00 HB1.out hJ)) (HFA.out.next (Z00 HB1.out hJ))
  refine Z01 (v := .slice (some ⟨W.heap.size, 0, none⟩) 2 2) (W' := Z0m W cX fX (qC8 H) (qF8 H)) ?_ ?_ (hK.out _ _ ⟨_, rfl, ht⟩ (Z00 hJ hb) hb)
  {simp [Region.wanted, yielded, dg]}
  {unfold Z0m
   try dsimp only
   go_simp}}
 refine StepsAt.cons _ rfl (fun u' W K' hJ hd hK => ?_) ?_
 {have dg : _ = _ := hd 18 (by kernel_rfl)
  obtain ⟨g, d21, h21⟩ := hd 21 (by kernel_rfl)
  have hfw : ∀ t ∈ [cX, fX], few t = true := by
   intro t ht
   simp only [List.mem_cons, List.not_mem_nil, or_false] at ht
   rcases ht with rfl | rfl
   {exact Zf8}
   {exact ZhL}
  have hw := Z0g (some ⟨g, 0, none⟩) 2 [cX, fX] W h21 (by simp) hfw (HG.out.next (Z00 HB1.out hJ)) (HU.out.next (Z00 HB1.out hJ))
  rw [Zh4] at hw
  refine Z05 (f := 13) (args := #[.slice (some ⟨g, 0, none⟩) 2 2]) (W' := W) ?_ ?_ ((hw).mono fun e w' h => ⟨_, h.1, hK.out _ _ rfl (Z00 hJ h.2) h.2⟩)
  {simp [Region.wanted, yielded, dg]}
  {try dsimp only
   go_simp}}
 refine StepsAt.cons _ rfl (fun u' W K' hJ hd hK => ?_) ?_
 {have dg : _ = _ := hd 18 (by kernel_rfl)
  have d22 : _ = _ := hd 22 (by kernel_rfl)
  refine Y0 hK hJ rfl rfl ?_ ?_
  {simp [Region.wanted, yielded, dg]}
  {try dsimp only
   go_simp}}
 refine StepsAt.cons _ rfl (fun u' W K' hJ hd hK => ?_) ?_
 {have d18 : _ = _ := hd 18 (by kernel_rfl)
  have d23 : _ = _ := hd 23 (by kernel_rfl)
  refine Y0 hK hJ rfl rfl rfl ?_
  try dsimp only
  go_simp}
 refine StepsAt.cons _ rfl (fun u' W K' hJ hd hK => ?_) ?_
 {have d24 : _ = _ := hd 24 (by kernel_rfl)
  refine Y0 hK hJ rfl rfl rfl ?_
  try dsimp only
  go_simp}
 refine StepsAt.cons _ rfl (fun u' W K' hJ hd hK => ?_) ?_
 {have dg : _ = _ := hd 25 (by kernel_rfl)
  obtain ⟨_, ⟨y0, y1, y2, y3, y4, y5, y6, y7, y8⟩, _⟩ := HV.out.next (Z00 HB1.out hJ)
  simp only [Nat.zero_add] at y0 y1 y2 y3 y4 y5 y6 y7 y8
  refine Y0 hK hJ rfl rfl ?_ ?_
  {simp [Region.wanted, yielded, dg]}
  {try dsimp only
   go_simp}}
 refine StepsAt.cons _ rfl (fun u' W K' hJ hd hK => ?_) ?_
 {have dg : _ = _ := hd 25 (by kernel_rfl)
  have d26 : _ = _ := hd 26 (by kernel_rfl)
  have hb := Z02 W (.cells (Y7 vX noneT) 26)
  have h9 := Z07 W vX noneT
  refine Z01 (v := .slice (some ⟨W.heap.size, 0, none⟩) 1 1) (W' := W.alloc (.cells (Y7 vX noneT) 26)) ?_ ?_ (hK.out _ _ ⟨_, rfl, h9.1, h9.2.1⟩ (Z00 hJ hb) hb)
  {simp [Region.wanted, yielded, dg]}
  {try dsimp only
   go_simp}}
 refine StepsAt.cons _ rfl (fun u' W K' hJ hd hK => ?_) ?_
 {have dg : _ = _ := hd 25 (by kernel_rfl)
  obtain ⟨g, d27, h27, i27⟩ := hd 27 (by kernel_rfl)
  refine Z01 (v := .agg #[.int .i64 14, .string ⟨#[]⟩, .string ⟨#[120]⟩, .int .i64 0, .slice none 0 0, .slice none 0 0, .slice none 0 0, .slice (some ⟨g, 0, none⟩) 1 1, .int .i64 0]) (W' := W) ?_ ?_ (hK.out _ _ ⟨g, rfl, h27, i27⟩ hJ Y2)
  {simp [Region.wanted, yielded, dg]}
  {try dsimp only
   go_simp}}
 refine StepsAt.cons _ rfl (fun u' W K' hJ hd hK => ?_) ?_
 {have dg : _ = _ := hd 25 (by kernel_rfl)
  obtain ⟨g, d28, h28, i28⟩ := hd 28 (by kernel_rfl)
  have hw := Z0j lX (qL8 g) W (Zia h28 i28) (HG.out.next (Z00 HB1.out hJ)) (HU.out.next (Z00 HB1.out hJ)) ZhM
  rw [Zgh] at hw
  refine Z05 (f := 8) (args := #[.agg (Y7 lX (qL8 g))]) (W' := W) ?_ ?_ ((hw).mono fun e w' h => ⟨_, h.1, hK.out _ _ rfl (Z00 hJ h.2) h.2⟩)
  {simp [Region.wanted, yielded, dg]}
  {try dsimp only
   go_simp
   simp [lX, qL8]}}
 refine StepsAt.cons _ rfl (fun u' W K' hJ hd hK => ?_) ?_
 {have dg : _ = _ := hd 25 (by kernel_rfl)
  have d29 : _ = _ := hd 29 (by kernel_rfl)
  refine Y0 hK hJ rfl rfl ?_ ?_
  {simp [Region.wanted, yielded, dg]}
  {try dsimp only
   go_simp}}
 refine StepsAt.cons _ rfl (fun u' W K' hJ hd hK => ?_) ?_
 {have d25 : _ = _ := hd 25 (by kernel_rfl)
  have d30 : _ = _ := hd 30 (by kernel_rfl)
  refine Y0 hK hJ rfl rfl rfl ?_
  try dsimp only
  go_simp}
 refine StepsAt.cons _ rfl (fun u' W K' hJ hd hK => ?_) StepsAt.nil
 {have d31 : _ = _ := hd 31 (by kernel_rfl)
  refine Y0 hK hJ rfl rfl rfl ?_
  try dsimp only
  go_simp}
 intro u' W5 hJ hok
 have eL : u' 32 = .bool true := hok 32 (by decide)
 try dsimp only
 rw [eL]
 have HBX := Y1 (HBW.out.trans ((Z00 HB1.out hJ).mono HBW.out.size))
 clear hok eL hJ
 go_wp2
 go_ret
 exact ⟨rfl, HBX.out⟩
end Go.Proofs.YtnkdedejfonbmaaGreatDoor
