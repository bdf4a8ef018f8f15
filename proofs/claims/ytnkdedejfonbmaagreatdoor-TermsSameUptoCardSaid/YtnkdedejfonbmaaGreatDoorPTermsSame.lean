/- TermsSame: being the same goes both ways and through a third one, and the same have one text; for all values of a bulk of at most 1048576 that the row lets in, with the program's variables laid as their texts lay them. -/
import Derived.Test.YtnkdedejfonbmaaGreatDoorRows
import Derived.WalkKit
import Derived.ProofKit
import Derived.OpenShut
import Derived.ShutString
import Derived.SizedLaws
import Derived.ChangeOld
import Derived.Below
import Derived.JoinedCond
import Derived.Test.YtnkdedejfonbmaaGreatDoorTie
import Derived.Test.YtnkdedejfonbmaaGreatDoorCards
import Derived.LaidMore
import Derived.Lay
import Derived.SevenTiedAt
import Derived.StillTailTactics
import Derived.Deep.RegionHeld3
import Derived.Test.YtnkdedejfonbmaaGreatDoorK6n0
import Derived.Test.YtnkdedejfonbmaaGreatDoorK3n0
set_option linter.unusedVariables false
set_option linter.unusedSimpArgs false
set_option maxRecDepth 100000
set_option maxHeartbeats 16000000
namespace Tms
open Shp (Sh)
theorem Z25 {t u : Tm} : same [t, u] = true ↔ check t = 0 /\ check u = 0 /\ strip u = strip t := by
 rw [Z5T]; simp
theorem Z3t (t u : Tm) : same [t, u] = same [u, t] := by
 rw [Bool.eq_iff_iff, Z25, Z25]
 exact ⟨fun ⟨a, b, c⟩ => ⟨b, a, c.symm⟩, fun ⟨a, b, c⟩ => ⟨b, a, c.symm⟩⟩
theorem Z46 {t u v : Tm} (h1 : same [t, u] = true) (h2 : same [u, v] = true) : same [t, v] = true := by
 rw [Z25] at *
 exact ⟨h1.1, h2.2.1, h2.2.2.trans h1.2.2⟩
theorem Z2o (t u v : Tm) : same [t, u, v] = (same [t, u] && same [t, v]) := by
 rw [Bool.eq_iff_iff, Bool.and_eq_true, Z25, Z25, Z6b]
 exact ⟨fun ⟨a, ⟨b, c⟩, d, e⟩ => ⟨⟨a, b, c⟩, a, d, e⟩, fun ⟨⟨a, b, c⟩, _, d, e⟩ => ⟨a, ⟨b, c⟩, d, e⟩⟩
theorem Z4F {t : Tm} (h : check t = 0) : same [t, t] = true := Z25.2 ⟨h, h, rfl⟩
theorem Z7k {t u : Tm} (h : same [t, u] = true) : strip t = strip u := (Z25.1 h).2.2.symm
end Tms
namespace Tms
open Shp (Sh join field total)
theorem Z7p {t u : Tm} (h : strip t = strip u) : text t = text u := by rw [<- Z4b t, h, Z4b]
end Tms
namespace Go.Proofs.YtnkdedejfonbmaaGreatDoor
open Go.RowKit Tms
theorem Z0w {x y : Tm} (hx : few x = true) (hy : few y = true) : ∀ t ∈ [x, y], few t = true := by
 intro t ht; simp only [List.mem_cons, List.not_mem_nil, or_false] at ht
 rcases ht with rfl | rfl
 {exact hx}
 {exact hy}
theorem Zfe (t u v : Tm) (q r s : TP) (w : World) (hq : TmAt w w.heap.size q t) (hr : TmAt w w.heap.size r u) (hs : TmAt w w.heap.size s v) (tt : tame t = true) (tu : tame u = true) (tv : tame v = true) (hG : Globs w) (hg : WGlobs w) (hu : Z0l w) (h1 : Tms.check t ≠ 0) :
 Y9 6 #[.agg (Y7 t q), .agg (Y7 u r), .agg (Y7 v s)] w (.bool true) := by
 have et : (Tms.check t != 0) = true := by simpa using h1
 clear h1
 have HB1 : Hid (Box9 (((w.alloc (.cells (Y7 t q) 26)).alloc (.cells (Y7 u r) 26)).alloc (.cells (Y7 v s) 26)) w.heap.size t q) := Y1 (((Z07 w t q).next (Z02 _ _)).next (Z02 _ _))
 have HB2 : Hid (Box9 (((w.alloc (.cells (Y7 t q) 26)).alloc (.cells (Y7 u r) 26)).alloc (.cells (Y7 v s) 26)) (w.heap.size + 1) u r) := by
  have h := Z07 (w.alloc (.cells (Y7 t q) 26)) u r
  have e : (w.alloc (.cells (Y7 t q) 26)).heap.size = w.heap.size + 1 := by simp
  rw [e] at h
  exact Y1 (h.next (Z02 _ _))
 have HB3 : Hid (Box9 (((w.alloc (.cells (Y7 t q) 26)).alloc (.cells (Y7 u r) 26)).alloc (.cells (Y7 v s) 26)) (w.heap.size + 1 + 1) v s) := by
  have h := Z07 ((w.alloc (.cells (Y7 t q) 26)).alloc (.cells (Y7 u r) 26)) v s
  have e : ((w.alloc (.cells (Y7 t q) 26)).alloc (.cells (Y7 u r) 26)).heap.size = w.heap.size + 1 + 1 := by simp
  rw [e] at h
  exact Y1 h
 have hb0 : Below w.heap.size w (((w.alloc (.cells (Y7 t q) 26)).alloc (.cells (Y7 u r) 26)).alloc (.cells (Y7 v s) 26)) := Z08 (Z08 (Z02 _ _) _) _
 have HQ := Y1 (hq.next hb0)
 have HR := Y1 (hr.next hb0)
 have HS := Y1 (hs.next hb0)
 have HG := Y1 (hG.next hb0)
 have HW := Y1 (hg.next hb0)
 have HU := Y1 (hu.next hb0)
 have HTA := Y1 tt
 have HTB := Y1 tu
 have HTC := Y1 tv
 have HB0 := Y1 hb0
 obtain ⟨a1, ⟨c0, c1, c2, c3, c4, c5, c6, c7, c8⟩, a2⟩ := HB1.out
 simp only [Nat.zero_add] at c0 c1 c2 c3 c4 c5 c6 c7 c8
 clear hq hr hs hG hg hu tt tu tv hb0 a1 a2
 go_enter Tryz.func6, Tryz.ntmps6
 go_wp2_with fail
 generalize ((w.alloc (.cells (Y7 t q) 26)).alloc (.cells (Y7 u r) 26)).alloc (.cells (Y7 v s) 26) = W0 at HB1 HB2 HB3 HQ HR HS HG HW HU HB0 c0 c1 c2 c3 c4 c5 c6 c7 c8 ⊢
 refine (Z0j t q W0 (HQ.out) (HW.out) (HU.out) (Z09 HTA.out)).mono ?_
 rintro e W1 ⟨rfl, hb⟩
 have HBW1 := Y1 hb
 clear hb c0 c1 c2 c3 c4 c5 c6 c7 c8
 go_wp2_with fail
 refine (Z0J W1 (HG.out.next HBW1.out) (HW.out.next HBW1.out) (HU.out.next HBW1.out)).mono ?_
 rintro e W9 ⟨rfl, hb9⟩
 have HBW9 := Y1 (Z00 HBW1.out hb9)
 clear hb9
 go_wp2
 go_ret
 exact ⟨rfl, Z00 HB0.out HBW9.out⟩
theorem Zff (t u v : Tm) (q r s : TP) (w : World) (hq : TmAt w w.heap.size q t) (hr : TmAt w w.heap.size r u) (hs : TmAt w w.heap.size s v) (tt : tame t = true) (tu : tame u = true) (tv : tame v = true) (hG : Globs w) (hg : WGlobs w) (hu : Z0l w) (h1 : Tms.check t = 0) (h2 : Tms.check u ≠ 0) :
 Y9 6 #[.agg (Y7 t q), .agg (Y7 u r), .agg (Y7 v s)] w (.bool true) := by
 have et : (Tms.check t != 0) = false := by simpa using h1
 have eu : (Tms.check u != 0) = true := by simpa using h2
 clear h1 h2
 have HB1 : Hid (Box9 (((w.alloc (.cells (Y7 t q) 26)).alloc (.cells (Y7 u r) 26)).alloc (.cells (Y7 v s) 26)) w.heap.size t q) := Y1 (((Z07 w t q).next (Z02 _ _)).next (Z02 _ _))
 have HB2 : Hid (Box9 (((w.alloc (.cells (Y7 t q) 26)).alloc (.cells (Y7 u r) 26)).alloc (.cells (Y7 v s) 26)) (w.heap.size + 1) u r) := by
  have h := Z07 (w.alloc (.cells (Y7 t q) 26)) u r
  have e : (w.alloc (.cells (Y7 t q) 26)).heap.size = w.heap.size + 1 := by simp
  rw [e] at h
  exact Y1 (h.next (Z02 _ _))
 have HB3 : Hid (Box9 (((w.alloc (.cells (Y7 t q) 26)).alloc (.cells (Y7 u r) 26)).alloc (.cells (Y7 v s) 26)) (w.heap.size + 1 + 1) v s) := by
  have h := Z07 ((w.alloc (.cells (Y7 t q) 26)).alloc (.cells (Y7 u r) 26)) v s
  have e : ((w.alloc (.cells (Y7 t q) 26)).alloc (.cells (Y7 u r) 26)).heap.size = w.heap.size + 1 + 1 := by simp
  rw [e] at h
  exact Y1 h
 have hb0 : Below w.heap.size w (((w.alloc (.cells (Y7 t q) 26)).alloc (.cells (Y7 u r) 26)).alloc (.cells (Y7 v s) 26)) := Z08 (Z08 (Z02 _ _) _) _
 have HQ := Y1 (hq.next hb0)
 have HR := Y1 (hr.next hb0)
 have HS := Y1 (hs.next hb0)
 have HG := Y1 (hG.next hb0)
 have HW := Y1 (hg.next hb0)
 have HU := Y1 (hu.next hb0)
 have HTA := Y1 tt
 have HTB := Y1 tu
 have HTC := Y1 tv
 have HB0 := Y1 hb0
 obtain ⟨a1, ⟨c0, c1, c2, c3, c4, c5, c6, c7, c8⟩, a2⟩ := HB1.out
 simp only [Nat.zero_add] at c0 c1 c2 c3 c4 c5 c6 c7 c8
 clear hq hr hs hG hg hu tt tu tv hb0 a1 a2
 go_enter Tryz.func6, Tryz.ntmps6
 go_wp2_with fail
 generalize ((w.alloc (.cells (Y7 t q) 26)).alloc (.cells (Y7 u r) 26)).alloc (.cells (Y7 v s) 26) = W0 at HB1 HB2 HB3 HQ HR HS HG HW HU HB0 c0 c1 c2 c3 c4 c5 c6 c7 c8 ⊢
 refine (Z0j t q W0 (HQ.out) (HW.out) (HU.out) (Z09 HTA.out)).mono ?_
 rintro e W1 ⟨rfl, hb⟩
 have HBW1 := Y1 hb
 clear hb c0 c1 c2 c3 c4 c5 c6 c7 c8
 obtain ⟨a1, ⟨x0, x1, x2, x3, x4, x5, x6, x7, x8⟩, a2⟩ := HB2.out.next HBW1.out
 simp only [Nat.zero_add] at x0 x1 x2 x3 x4 x5 x6 x7 x8
 clear a1 a2
 go_wp2_with fail
 refine (Z0j u r W1 (HR.out.next HBW1.out) (HW.out.next HBW1.out) (HU.out.next HBW1.out) (Z09 HTB.out)).mono ?_
 rintro e W2 ⟨rfl, hb⟩
 have HBW2 := Y1 (Z00 HBW1.out hb)
 clear hb x0 x1 x2 x3 x4 x5 x6 x7 x8
 go_wp2_with fail
 refine (Z0J W2 (HG.out.next HBW2.out) (HW.out.next HBW2.out) (HU.out.next HBW2.out)).mono ?_
 rintro e W9 ⟨rfl, hb9⟩
 have HBW9 := Y1 (Z00 HBW2.out hb9)
 clear hb9
 go_wp2
 go_ret
 exact ⟨rfl, Z00 HB0.out HBW9.out⟩
theorem Zfg (t u v : Tm) (q r s : TP) (w : World) (hq : TmAt w w.heap.size q t) (hr : TmAt w w.heap.size r u) (hs : TmAt w w.heap.size s v) (tt : tame t = true) (tu : tame u = true) (tv : tame v = true) (hG : Globs w) (hg : WGlobs w) (hu : Z0l w) (h1 : Tms.check t = 0) (h2 : Tms.check u = 0) (h3 : Tms.check v ≠ 0) :
 Y9 6 #[.agg (Y7 t q), .agg (Y7 u r), .agg (Y7 v s)] w (.bool true) := by
 have et : (Tms.check t != 0) = false := by simpa using h1
 have eu : (Tms.check u != 0) = false := by simpa using h2
 have ev : (Tms.check v != 0) = true := by simpa using h3
 clear h1 h2 h3
 have HB1 : Hid (Box9 (((w.alloc (.cells (Y7 t q) 26)).alloc (.cells (Y7 u r) 26)).alloc (.cells (Y7 v s) 26)) w.heap.size t q) := Y1 (((Z07 w t q).next (Z02 _ _)).next (Z02 _ _))
 have HB2 : Hid (Box9 (((w.alloc (.cells (Y7 t q) 26)).alloc (.cells (Y7 u r) 26)).alloc (.cells (Y7 v s) 26)) (w.heap.size + 1) u r) := by
  have h := Z07 (w.alloc (.cells (Y7 t q) 26)) u r
  have e : (w.alloc (.cells (Y7 t q) 26)).heap.size = w.heap.size + 1 := by simp
  rw [e] at h
  exact Y1 (h.next (Z02 _ _))
 have HB3 : Hid (Box9 (((w.alloc (.cells (Y7 t q) 26)).alloc (.cells (Y7 u r) 26)).alloc (.cells (Y7 v s) 26)) (w.heap.size + 1 + 1) v s) := by
  have h := Z07 ((w.alloc (.cells (Y7 t q) 26)).alloc (.cells (Y7 u r) 26)) v s
  have e : ((w.alloc (.cells (Y7 t q) 26)).alloc (.cells (Y7 u r) 26)).heap.size = w.heap.size + 1 + 1 := by simp
  rw [e] at h
  exact Y1 h
 have hb0 : Below w.heap.size w (((w.alloc (.cells (Y7 t q) 26)).alloc (.cells (Y7 u r) 26)).alloc (.cells (Y7 v s) 26)) := Z08 (Z08 (Z02 _ _) _) _
 have HQ := Y1 (hq.next hb0)
 have HR := Y1 (hr.next hb0)
 have HS := Y1 (hs.next hb0)
 have HG := Y1 (hG.next hb0)
 have HW := Y1 (hg.next hb0)
 have HU := Y1 (hu.next hb0)
 have HTA := Y1 tt
 have HTB := Y1 tu
 have HTC := Y1 tv
 have HB0 := Y1 hb0
 obtain ⟨a1, ⟨c0, c1, c2, c3, c4, c5, c6, c7, c8⟩, a2⟩ := HB1.out
 simp only [Nat.zero_add] at c0 c1 c2 c3 c4 c5 c6 c7 c8
 clear hq hr hs hG hg hu tt tu tv hb0 a1 a2
 go_enter Tryz.func6, Tryz.ntmps6
 go_wp2_with fail
 generalize ((w.alloc (.cells (Y7 t q) 26)).alloc (.cells (Y7 u r) 26)).alloc (.cells (Y7 v s) 26) = W0 at HB1 HB2 HB3 HQ HR HS HG HW HU HB0 c0 c1 c2 c3 c4 c5 c6 c7 c8 ⊢
 refine (Z0j t q W0 (HQ.out) (HW.out) (HU.out) (Z09 HTA.out)).mono ?_
 rintro e W1 ⟨rfl, hb⟩
 have HBW1 := Y1 hb
 clear hb c0 c1 c2 c3 c4 c5 c6 c7 c8
 obtain ⟨a1, ⟨x0, x1, x2, x3, x4, x5, x6, x7, x8⟩, a2⟩ := HB2.out.next HBW1.out
 simp only [Nat.zero_add] at x0 x1 x2 x3 x4 x5 x6 x7 x8
 clear a1 a2
 go_wp2_with fail
 refine (Z0j u r W1 (HR.out.next HBW1.out) (HW.out.next HBW1.out) (HU.out.next HBW1.out) (Z09 HTB.out)).mono ?_
 rintro e W2 ⟨rfl, hb⟩
 have HBW2 := Y1 (Z00 HBW1.out hb)
 clear hb x0 x1 x2 x3 x4 x5 x6 x7 x8
 obtain ⟨a1, ⟨x0, x1, x2, x3, x4, x5, x6, x7, x8⟩, a2⟩ := HB3.out.next HBW2.out
 simp only [Nat.zero_add] at x0 x1 x2 x3 x4 x5 x6 x7 x8
 clear a1 a2
 go_wp2_with fail
 refine (Z0j v s W2 (HS.out.next HBW2.out) (HW.out.next HBW2.out) (HU.out.next HBW2.out) (Z09 HTC.out)).mono ?_
 rintro e W3 ⟨rfl, hb⟩
 have HBW3 := Y1 (Z00 HBW2.out hb)
 clear hb x0 x1 x2 x3 x4 x5 x6 x7 x8
 go_wp2_with fail
 refine (Z0J W3 (HG.out.next HBW3.out) (HW.out.next HBW3.out) (HU.out.next HBW3.out)).mono ?_
 rintro e W9 ⟨rfl, hb9⟩
 have HBW9 := Y1 (Z00 HBW3.out hb9)
 clear hb9
 go_wp2
 go_ret
 exact ⟨rfl, Z00 HB0.out HBW9.out⟩
def Zhb (t u v : Tm) (q r s : TP) : Nat -> Want
 | 0 => .val (.agg (Y7 t q))
 | 1 => .val (.agg (Y7 t q))
 | 2 => Z0D 2 [t, t]
 | 3 => .val (.bool true)
 | 4 => .val (.bool false)
 | 5 => .val (.bool false)
 | 6 => .val (.agg (Y7 t q))
 | 7 => .val (.agg (Y7 u r))
 | 8 => Z0D 2 [t, u]
 | 9 => .val (.bool false)
 | 10 => .val (.agg (Y7 u r))
 | 11 => .val (.agg (Y7 t q))
 | 12 => Z0D 2 [u, t]
 | 13 => .val (.bool false)
 | 14 => .val (.bool false)
 | 15 => .val (.bool false)
 | 16 => .val (.bool false)
 | 17 => .val (.agg (Y7 t q))
 | 18 => .val (.agg (Y7 u r))
 | 19 => Z0D 2 [t, u]
 | 20 => .val (.bool false)
 | 21 => .val (.bool false)
 | 26 => .val (.bool false)
 | 27 => .val (.bool false)
 | 33 => .val (.bool false)
 | 34 => .val (.bool false)
 | 35 => .val (.bool false)
 | 36 => .val (.agg (Y7 t q))
 | 37 => .val (.agg (Y7 u r))
 | 38 => .val (.agg (Y7 v s))
 | 39 => Z0D 3 [t, u, v]
 | 40 => .val (.bool false)
 | 41 => .val (.agg (Y7 t q))
 | 42 => .val (.agg (Y7 u r))
 | 43 => Z0D 2 [t, u]
 | 44 => .val (.bool false)
 | 45 => .val (.bool false)
 | 50 => .val (.bool false)
 | 51 => .val (.bool false)
 | 52 => .val (.bool false)
 | _ => .any
def Zhc (t u v : Tm) (q r s : TP) : Nat -> Want
 | 0 => .val (.agg (Y7 t q))
 | 1 => .val (.agg (Y7 t q))
 | 2 => Z0D 2 [t, t]
 | 3 => .val (.bool true)
 | 4 => .val (.bool false)
 | 5 => .val (.bool false)
 | 6 => .val (.agg (Y7 t q))
 | 7 => .val (.agg (Y7 u r))
 | 8 => Z0D 2 [t, u]
 | 9 => .val (.bool true)
 | 10 => .val (.agg (Y7 u r))
 | 11 => .val (.agg (Y7 t q))
 | 12 => Z0D 2 [u, t]
 | 13 => .val (.bool true)
 | 14 => .val (.bool false)
 | 15 => .val (.bool false)
 | 16 => .val (.bool false)
 | 17 => .val (.agg (Y7 t q))
 | 18 => .val (.agg (Y7 u r))
 | 19 => Z0D 2 [t, u]
 | 20 => .val (.bool true)
 | 21 => .val (.bool true)
 | 22 => .val (.agg (Y7 u r))
 | 23 => .val (.agg (Y7 v s))
 | 24 => Z0D 2 [u, v]
 | 25 => .val (.bool false)
 | 26 => .val (.bool false)
 | 27 => .val (.bool false)
 | 33 => .val (.bool false)
 | 34 => .val (.bool false)
 | 35 => .val (.bool false)
 | 36 => .val (.agg (Y7 t q))
 | 37 => .val (.agg (Y7 u r))
 | 38 => .val (.agg (Y7 v s))
 | 39 => Z0D 3 [t, u, v]
 | 40 => .val (.bool false)
 | 41 => .val (.agg (Y7 t q))
 | 42 => .val (.agg (Y7 u r))
 | 43 => Z0D 2 [t, u]
 | 44 => .val (.bool true)
 | 45 => .val (.bool true)
 | 46 => .val (.agg (Y7 t q))
 | 47 => .val (.agg (Y7 v s))
 | 48 => Z0D 2 [t, v]
 | 49 => .val (.bool false)
 | 50 => .val (.bool false)
 | 51 => .val (.bool false)
 | 52 => .val (.bool false)
 | _ => .any
def Zhd (t u v : Tm) (q r s : TP) : Nat -> Want
 | 0 => .val (.agg (Y7 t q))
 | 1 => .val (.agg (Y7 t q))
 | 2 => Z0D 2 [t, t]
 | 3 => .val (.bool true)
 | 4 => .val (.bool false)
 | 5 => .val (.bool false)
 | 6 => .val (.agg (Y7 t q))
 | 7 => .val (.agg (Y7 u r))
 | 8 => Z0D 2 [t, u]
 | 9 => .val (.bool true)
 | 10 => .val (.agg (Y7 u r))
 | 11 => .val (.agg (Y7 t q))
 | 12 => Z0D 2 [u, t]
 | 13 => .val (.bool true)
 | 14 => .val (.bool false)
 | 15 => .val (.bool false)
 | 16 => .val (.bool false)
 | 17 => .val (.agg (Y7 t q))
 | 18 => .val (.agg (Y7 u r))
 | 19 => Z0D 2 [t, u]
 | 20 => .val (.bool true)
 | 21 => .val (.bool true)
 | 22 => .val (.agg (Y7 u r))
 | 23 => .val (.agg (Y7 v s))
 | 24 => Z0D 2 [u, v]
 | 25 => .val (.bool true)
 | 26 => .val (.bool true)
 | 27 => .val (.bool true)
 | 28 => .val (.agg (Y7 t q))
 | 29 => .val (.agg (Y7 v s))
 | 30 => Z0D 2 [t, v]
 | 31 => .val (.bool true)
 | 32 => .val (.bool false)
 | 33 => .val (.bool false)
 | 34 => .val (.bool false)
 | 35 => .val (.bool false)
 | 36 => .val (.agg (Y7 t q))
 | 37 => .val (.agg (Y7 u r))
 | 38 => .val (.agg (Y7 v s))
 | 39 => Z0D 3 [t, u, v]
 | 40 => .val (.bool true)
 | 41 => .val (.agg (Y7 t q))
 | 42 => .val (.agg (Y7 u r))
 | 43 => Z0D 2 [t, u]
 | 44 => .val (.bool true)
 | 45 => .val (.bool true)
 | 46 => .val (.agg (Y7 t q))
 | 47 => .val (.agg (Y7 v s))
 | 48 => Z0D 2 [t, v]
 | 49 => .val (.bool true)
 | 50 => .val (.bool true)
 | 51 => .val (.bool false)
 | 52 => .val (.bool false)
 | _ => .any
theorem Zdr (t u v : Tm) (q r s : TP) (w : World) (hq : TmAt w w.heap.size q t) (hr : TmAt w w.heap.size r u) (hs : TmAt w w.heap.size s v) (tt : tame t = true) (tu : tame u = true) (tv : tame v = true) (hG : Globs w) (hg : WGlobs w) (hu : Z0l w) (h1 : Tms.check t = 0) (h2 : Tms.check u = 0) (h3 : Tms.check v = 0) (h5 : same [t, u] = false) :
 Y9 6 #[.agg (Y7 t q), .agg (Y7 u r), .agg (Y7 v s)] w (.bool true) := by
 have HC1 := Y1 h1
 have HC2 := Y1 h2
 have HC3 := Y1 h3
 have HTT : Hid (same [t, t] = true) := Y1 (Z4F h1)
 have HTU : Hid (same [t, u] = false) := Y1 h5
 have HUT : Hid (same [u, t] = false) := Y1 (by rw [Z3t]; exact h5)
 have HTUV : Hid (same [t, u, v] = false) := Y1 (by rw [Z2o, h5]; rfl)
 have et : (Tms.check t != 0) = false := by simpa using h1
 have eu : (Tms.check u != 0) = false := by simpa using h2
 have ev : (Tms.check v != 0) = false := by simpa using h3
 clear h1 h2 h3 h5
 have HB1 : Hid (Box9 (((w.alloc (.cells (Y7 t q) 26)).alloc (.cells (Y7 u r) 26)).alloc (.cells (Y7 v s) 26)) w.heap.size t q) := Y1 (((Z07 w t q).next (Z02 _ _)).next (Z02 _ _))
 have HB2 : Hid (Box9 (((w.alloc (.cells (Y7 t q) 26)).alloc (.cells (Y7 u r) 26)).alloc (.cells (Y7 v s) 26)) (w.heap.size + 1) u r) := by
  have h := Z07 (w.alloc (.cells (Y7 t q) 26)) u r
  have e : (w.alloc (.cells (Y7 t q) 26)).heap.size = w.heap.size + 1 := by simp
  rw [e] at h
  exact Y1 (h.next (Z02 _ _))
 have HB3 : Hid (Box9 (((w.alloc (.cells (Y7 t q) 26)).alloc (.cells (Y7 u r) 26)).alloc (.cells (Y7 v s) 26)) (w.heap.size + 1 + 1) v s) := by
  have h := Z07 ((w.alloc (.cells (Y7 t q) 26)).alloc (.cells (Y7 u r) 26)) v s
  have e : ((w.alloc (.cells (Y7 t q) 26)).alloc (.cells (Y7 u r) 26)).heap.size = w.heap.size + 1 + 1 := by simp
  rw [e] at h
  exact Y1 h
 have hb0 : Below w.heap.size w (((w.alloc (.cells (Y7 t q) 26)).alloc (.cells (Y7 u r) 26)).alloc (.cells (Y7 v s) 26)) := Z08 (Z08 (Z02 _ _) _) _
 have HQ := Y1 (hq.next hb0)
 have HR := Y1 (hr.next hb0)
 have HS := Y1 (hs.next hb0)
 have HG := Y1 (hG.next hb0)
 have HW := Y1 (hg.next hb0)
 have HU := Y1 (hu.next hb0)
 have HTA := Y1 tt
 have HTB := Y1 tu
 have HTC := Y1 tv
 have HB0 := Y1 hb0
 obtain ⟨a1, ⟨c0, c1, c2, c3, c4, c5, c6, c7, c8⟩, a2⟩ := HB1.out
 simp only [Nat.zero_add] at c0 c1 c2 c3 c4 c5 c6 c7 c8
 clear hq hr hs hG hg hu tt tu tv hb0 a1 a2
 go_enter Tryz.func6, Tryz.ntmps6
 go_wp2_with fail
 generalize ((w.alloc (.cells (Y7 t q) 26)).alloc (.cells (Y7 u r) 26)).alloc (.cells (Y7 v s) 26) = W0 at HB1 HB2 HB3 HQ HR HS HG HW HU HB0 c0 c1 c2 c3 c4 c5 c6 c7 c8 ⊢
 refine (Z0j t q W0 (HQ.out) (HW.out) (HU.out) (Z09 HTA.out)).mono ?_
 rintro e W1 ⟨rfl, hb⟩
 have HBW1 := Y1 hb
 clear hb c0 c1 c2 c3 c4 c5 c6 c7 c8
 obtain ⟨a1, ⟨x0, x1, x2, x3, x4, x5, x6, x7, x8⟩, a2⟩ := HB2.out.next HBW1.out
 simp only [Nat.zero_add] at x0 x1 x2 x3 x4 x5 x6 x7 x8
 clear a1 a2
 go_wp2_with fail
 refine (Z0j u r W1 (HR.out.next HBW1.out) (HW.out.next HBW1.out) (HU.out.next HBW1.out) (Z09 HTB.out)).mono ?_
 rintro e W2 ⟨rfl, hb⟩
 have HBW2 := Y1 (Z00 HBW1.out hb)
 clear hb x0 x1 x2 x3 x4 x5 x6 x7 x8
 obtain ⟨a1, ⟨x0, x1, x2, x3, x4, x5, x6, x7, x8⟩, a2⟩ := HB3.out.next HBW2.out
 simp only [Nat.zero_add] at x0 x1 x2 x3 x4 x5 x6 x7 x8
 clear a1 a2
 go_wp2_with fail
 refine (Z0j v s W2 (HS.out.next HBW2.out) (HW.out.next HBW2.out) (HU.out.next HBW2.out) (Z09 HTC.out)).mono ?_
 rintro e W3 ⟨rfl, hb⟩
 have HBW3 := Y1 (Z00 HBW2.out hb)
 clear hb x0 x1 x2 x3 x4 x5 x6 x7 x8
 go_wp2_with fail
 refine Z0p (rs := [0, 1, 2, 3, 4, 5, 6, 7, 8, 9, 10, 11, 12, 13, 14, 15, 16, 17, 18, 19, 20, 21, 22, 23, 24, 25, 26, 27, 28, 29, 30, 31, 32, 33, 34, 35, 36, 37, 38, 39, 40, 41, 42, 43, 44, 45, 46, 47, 48, 49, 50, 51, 52])
  (fun u' => { tmps := #[.agg (Y7 t q), .agg (Y7 u r), .agg (Y7 v s), .pointer (some { block := w.heap.size, off := 0 }), .pointer (some { block := w.heap.size + 1, off := 0 }), .pointer (some { block := w.heap.size + 1 + 1, off := 0 }), .bool false, undef, undef, undef, undef, .agg (Y7 t q), .int .i64 (check t), .bool false, .bool false, .agg (Y7 u r), .int .i64 (check u), .bool false, .bool false, .bool false, .agg (Y7 v s), .int .i64 (check v), .bool false, .bool false, undef, u' 0, u' 1, u' 2, u' 3, u' 4, u' 5, u' 6, u' 7, u' 8, u' 9, u' 10, u' 11, u' 12, u' 13, u' 14, u' 15, u' 16, u' 17, u' 18, u' 19, u' 20, u' 21, u' 22, u' 23, u' 24, u' 25, u' 26, u' 27, u' 28, u' 29, u' 30, u' 31, u' 32, u' 33, u' 34, u' 35, u' 36, u' 37, u' 38, u' 39, u' 40, u' 41, u' 42, u' 43, u' 44, u' 45, u' 46, u' 47, u' 48, u' 49, u' 50, u' 51, u' 52, undef, undef, undef, undef, undef, undef, undef, undef, undef, undef, undef, undef, undef, undef, undef, undef, undef, undef, undef, undef, undef, undef, undef], defers := [] })
  (fun j => ([undef, undef, undef, undef, undef, undef, undef, undef, undef, undef, undef, undef, undef, undef, undef, undef, undef, undef, undef, undef, undef, undef, undef, undef, undef, undef, undef, undef, undef, undef, undef, undef, undef, undef, undef, undef, undef, undef, undef, undef, undef, undef, undef, undef, undef, undef, undef, undef, undef, undef, undef, undef, undef] : List Value).getD j undef) (Zhb t u v q r s) (fun W => Below W3.heap.size W3 W) (by kernel_rfl) (by kernel_rfl) (by kernel_rfl) Y2.drew ?_ ?_
 refine StepsAt.cons _ rfl (fun u' W K' hJ hd hK => ?_) ?_
 {obtain ⟨_, ⟨y0, y1, y2, y3, y4, y5, y6, y7, y8⟩, _⟩ := HB1.out.next (Z00 HBW3.out hJ)
  simp only [Nat.zero_add] at y0 y1 y2 y3 y4 y5 y6 y7 y8
  refine Y0 hK hJ rfl rfl rfl ?_
  try dsimp only
  go_simp}
 refine StepsAt.cons _ rfl (fun u' W K' hJ hd hK => ?_) ?_
 {obtain ⟨_, ⟨y0, y1, y2, y3, y4, y5, y6, y7, y8⟩, _⟩ := HB1.out.next (Z00 HBW3.out hJ)
  simp only [Nat.zero_add] at y0 y1 y2 y3 y4 y5 y6 y7 y8
  refine Y0 hK hJ rfl rfl rfl ?_
  try dsimp only
  go_simp}
 refine StepsAt.cons _ rfl (fun u' W K' hJ hd hK => ?_) ?_
 {have d0 : _ = _ := hd 0 (by kernel_rfl)
  have d1 : _ = _ := hd 1 (by kernel_rfl)
  have hb := Z02 W (.cells #[.int .i64 t.kind, .string ⟨t.of_.toArray⟩, .string ⟨t.name.toArray⟩, .int .i64 t.n, .slice q.A t.names.length q.c, .slice q.V t.vars.length q.e, .slice q.S t.shapes.length q.s, .slice q.P t.parts.length q.d, .int .i64 t.at_, .int .i64 t.kind, .string ⟨t.of_.toArray⟩, .string ⟨t.name.toArray⟩, .int .i64 t.n, .slice q.A t.names.length q.c, .slice q.V t.vars.length q.e, .slice q.S t.shapes.length q.s, .slice q.P t.parts.length q.d, .int .i64 t.at_] 26)
  have ht := two8 W t t q q (HQ.out.next (Z00 HBW3.out hJ)) (HQ.out.next (Z00 HBW3.out hJ))
  refine Z01 (v := .slice (some ⟨W.heap.size, 0, none⟩) 2 2) (W' := Z0m W t t q q) rfl ?_ (hK.out _ _ ⟨_, rfl, ht⟩ (Z00 hJ hb) hb)
  unfold Z0m
  try dsimp only
  go_simp}
 refine StepsAt.cons _ rfl (fun u' W K' hJ hd hK => ?_) ?_
 {obtain ⟨g, d2, h2⟩ := hd 2 (by kernel_rfl)
  have hw := Z0g (some ⟨g, 0, none⟩) 2 [t, t] W h2 (by simp) (Z0w (Z09 HTA.out) (Z09 HTA.out)) (HW.out.next (Z00 HBW3.out hJ)) (HU.out.next (Z00 HBW3.out hJ))
  rw [HTT.out] at hw
  refine Z05 (f := 13) (args := #[.slice (some ⟨g, 0, none⟩) 2 2]) (W' := W) rfl ?_ (hw.mono fun e w' h => ⟨_, h.1, hK.out _ _ rfl (Z00 hJ h.2) h.2⟩)
  try dsimp only
  go_simp}
 refine StepsAt.cons _ rfl (fun u' W K' hJ hd hK => ?_) ?_
 {have d3 : _ = _ := hd 3 (by kernel_rfl)
  refine Y0 hK hJ rfl rfl rfl ?_
  try dsimp only
  go_simp}
 refine StepsAt.cons _ rfl (fun u' W K' hJ hd hK => ?_) ?_
 {have d4 : _ = _ := hd 4 (by kernel_rfl)
  refine Y0 hK hJ rfl rfl rfl ?_
  try dsimp only
  go_simp}
 refine StepsAt.cons _ rfl (fun u' W K' hJ hd hK => ?_) ?_
 {have dg : _ = _ := hd 5 (by kernel_rfl)
  obtain ⟨_, ⟨y0, y1, y2, y3, y4, y5, y6, y7, y8⟩, _⟩ := HB1.out.next (Z00 HBW3.out hJ)
  simp only [Nat.zero_add] at y0 y1 y2 y3 y4 y5 y6 y7 y8
  refine Y0 hK hJ rfl rfl ?_ ?_
  {simp [Region.wanted, yielded, dg]}
  {try dsimp only
   go_simp}}
 refine StepsAt.cons _ rfl (fun u' W K' hJ hd hK => ?_) ?_
 {have dg : _ = _ := hd 5 (by kernel_rfl)
  obtain ⟨_, ⟨y0, y1, y2, y3, y4, y5, y6, y7, y8⟩, _⟩ := HB2.out.next (Z00 HBW3.out hJ)
  simp only [Nat.zero_add] at y0 y1 y2 y3 y4 y5 y6 y7 y8
  refine Y0 hK hJ rfl rfl ?_ ?_
  {simp [Region.wanted, yielded, dg]}
  {try dsimp only
   go_simp}}
 refine StepsAt.cons _ rfl (fun u' W K' hJ hd hK => ?_) ?_
 {have dg : _ = _ := hd 5 (by kernel_rfl)
  have d6 : _ = _ := hd 6 (by kernel_rfl)
  have d7 : _ = _ := hd 7 (by kernel_rfl)
  have hb := Z02 W (.cells #[.int .i64 t.kind, .string ⟨t.of_.toArray⟩, .string ⟨t.name.toArray⟩, .int .i64 t.n, .slice q.A t.names.length q.c, .slice q.V t.vars.length q.e, .slice q.S t.shapes.length q.s, .slice q.P t.parts.length q.d, .int .i64 t.at_, .int .i64 u.kind, .string ⟨u.of_.toArray⟩, .string ⟨u.name.toArray⟩, .int .i64 u.n, .slice r.A u.names.length r.c, .slice r.V u.vars.length r.e, .slice r.S u.shapes.length r.s, .slice r.P u.parts.length r.d, .int .i64 u.at_] 26)
  have ht := two8 W t u q r (HQ.out.next (Z00 HBW3.out hJ)) (HR.out.next (Z00 HBW3.out hJ))
  refine Z01 (v := .slice (some ⟨W.heap.size, 0, none⟩) 2 2) (W' := Z0m W t u q r) ?_ ?_ (hK.out _ _ ⟨_, rfl, ht⟩ (Z00 hJ hb) hb)
  {simp [Region.wanted, yielded, dg]}
  {unfold Z0m
   try dsimp only
   go_simp}}
 refine StepsAt.cons _ rfl (fun u' W K' hJ hd hK => ?_) ?_
 {have dg : _ = _ := hd 5 (by kernel_rfl)
  obtain ⟨g, d8, h8⟩ := hd 8 (by kernel_rfl)
  have hw := Z0g (some ⟨g, 0, none⟩) 2 [t, u] W h8 (by simp) (Z0w (Z09 HTA.out) (Z09 HTB.out)) (HW.out.next (Z00 HBW3.out hJ)) (HU.out.next (Z00 HBW3.out hJ))
  rw [HTU.out] at hw
  refine Z05 (f := 13) (args := #[.slice (some ⟨g, 0, none⟩) 2 2]) (W' := W) ?_ ?_ (hw.mono fun e w' h => ⟨_, h.1, hK.out _ _ rfl (Z00 hJ h.2) h.2⟩)
  {simp [Region.wanted, yielded, dg]}
  {try dsimp only
   go_simp}}
 refine StepsAt.cons _ rfl (fun u' W K' hJ hd hK => ?_) ?_
 {have dg : _ = _ := hd 5 (by kernel_rfl)
  obtain ⟨_, ⟨y0, y1, y2, y3, y4, y5, y6, y7, y8⟩, _⟩ := HB2.out.next (Z00 HBW3.out hJ)
  simp only [Nat.zero_add] at y0 y1 y2 y3 y4 y5 y6 y7 y8
  refine Y0 hK hJ rfl rfl ?_ ?_
  {simp [Region.wanted, yielded, dg]}
  {try dsimp only
   go_simp}}
 refine StepsAt.cons _ rfl (fun u' W K' hJ hd hK => ?_) ?_
 {have dg : _ = _ := hd 5 (by kernel_rfl)
  obtain ⟨_, ⟨y0, y1, y2, y3, y4, y5, y6, y7, y8⟩, _⟩ := HB1.out.next (Z00 HBW3.out hJ)
  simp only [Nat.zero_add] at y0 y1 y2 y3 y4 y5 y6 y7 y8
  refine Y0 hK hJ rfl rfl ?_ ?_
  {simp [Region.wanted, yielded, dg]}
  {try dsimp only
   go_simp}}
 refine StepsAt.cons _ rfl (fun u' W K' hJ hd hK => ?_) ?_
 {have dg : _ = _ := hd 5 (by kernel_rfl)
  have d10 : _ = _ := hd 10 (by kernel_rfl)
  have d11 : _ = _ := hd 11 (by kernel_rfl)
  have hb := Z02 W (.cells #[.int .i64 u.kind, .string ⟨u.of_.toArray⟩, .string ⟨u.name.toArray⟩, .int .i64 u.n, .slice r.A u.names.length r.c, .slice r.V u.vars.length r.e, .slice r.S u.shapes.length r.s, .slice r.P u.parts.length r.d, .int .i64 u.at_, .int .i64 t.kind, .string ⟨t.of_.toArray⟩, .string ⟨t.name.toArray⟩, .int .i64 t.n, .slice q.A t.names.length q.c, .slice q.V t.vars.length q.e, .slice q.S t.shapes.length q.s, .slice q.P t.parts.length q.d, .int .i64 t.at_] 26)
  have ht := two8 W u t r q (HR.out.next (Z00 HBW3.out hJ)) (HQ.out.next (Z00 HBW3.out hJ))
  refine Z01 (v := .slice (some ⟨W.heap.size, 0, none⟩) 2 2) (W' := Z0m W u t r q) ?_ ?_ (hK.out _ _ ⟨_, rfl, ht⟩ (Z00 hJ hb) hb)
  {simp [Region.wanted, yielded, dg]}
  {unfold Z0m
   try dsimp only
   go_simp}}
 refine StepsAt.cons _ rfl (fun u' W K' hJ hd hK => ?_) ?_
 {have dg : _ = _ := hd 5 (by kernel_rfl)
  obtain ⟨g, d12, h12⟩ := hd 12 (by kernel_rfl)
  have hw := Z0g (some ⟨g, 0, none⟩) 2 [u, t] W h12 (by simp) (Z0w (Z09 HTB.out) (Z09 HTA.out)) (HW.out.next (Z00 HBW3.out hJ)) (HU.out.next (Z00 HBW3.out hJ))
  rw [HUT.out] at hw
  refine Z05 (f := 13) (args := #[.slice (some ⟨g, 0, none⟩) 2 2]) (W' := W) ?_ ?_ (hw.mono fun e w' h => ⟨_, h.1, hK.out _ _ rfl (Z00 hJ h.2) h.2⟩)
  {simp [Region.wanted, yielded, dg]}
  {try dsimp only
   go_simp}}
 refine StepsAt.cons _ rfl (fun u' W K' hJ hd hK => ?_) ?_
 {have dg : _ = _ := hd 5 (by kernel_rfl)
  have d9 : _ = _ := hd 9 (by kernel_rfl)
  have d13 : _ = _ := hd 13 (by kernel_rfl)
  refine Y0 hK hJ rfl rfl ?_ ?_
  {simp [Region.wanted, yielded, dg]}
  {try dsimp only
   go_simp}}
 refine StepsAt.cons _ rfl (fun u' W K' hJ hd hK => ?_) ?_
 {have d5 : _ = _ := hd 5 (by kernel_rfl)
  have d14 : _ = _ := hd 14 (by kernel_rfl)
  refine Y0 hK hJ rfl rfl rfl ?_
  try dsimp only
  go_simp}
 refine StepsAt.cons _ rfl (fun u' W K' hJ hd hK => ?_) ?_
 {have d15 : _ = _ := hd 15 (by kernel_rfl)
  refine Y0 hK hJ rfl rfl rfl ?_
  try dsimp only
  go_simp}
 refine StepsAt.cons _ rfl (fun u' W K' hJ hd hK => ?_) ?_
 {have dg : _ = _ := hd 16 (by kernel_rfl)
  obtain ⟨_, ⟨y0, y1, y2, y3, y4, y5, y6, y7, y8⟩, _⟩ := HB1.out.next (Z00 HBW3.out hJ)
  simp only [Nat.zero_add] at y0 y1 y2 y3 y4 y5 y6 y7 y8
  refine Y0 hK hJ rfl rfl ?_ ?_
  {simp [Region.wanted, yielded, dg]}
  {try dsimp only
   go_simp}}
 refine StepsAt.cons _ rfl (fun u' W K' hJ hd hK => ?_) ?_
 {have dg : _ = _ := hd 16 (by kernel_rfl)
  obtain ⟨_, ⟨y0, y1, y2, y3, y4, y5, y6, y7, y8⟩, _⟩ := HB2.out.next (Z00 HBW3.out hJ)
  simp only [Nat.zero_add] at y0 y1 y2 y3 y4 y5 y6 y7 y8
  refine Y0 hK hJ rfl rfl ?_ ?_
  {simp [Region.wanted, yielded, dg]}
  {try dsimp only
   go_simp}}
 refine StepsAt.cons _ rfl (fun u' W K' hJ hd hK => ?_) ?_
 {have dg : _ = _ := hd 16 (by kernel_rfl)
  have d17 : _ = _ := hd 17 (by kernel_rfl)
  have d18 : _ = _ := hd 18 (by kernel_rfl)
  have hb := Z02 W (.cells #[.int .i64 t.kind, .string ⟨t.of_.toArray⟩, .string ⟨t.name.toArray⟩, .int .i64 t.n, .slice q.A t.names.length q.c, .slice q.V t.vars.length q.e, .slice q.S t.shapes.length q.s, .slice q.P t.parts.length q.d, .int .i64 t.at_, .int .i64 u.kind, .string ⟨u.of_.toArray⟩, .string ⟨u.name.toArray⟩, .int .i64 u.n, .slice r.A u.names.length r.c, .slice r.V u.vars.length r.e, .slice r.S u.shapes.length r.s, .slice r.P u.parts.length r.d, .int .i64 u.at_] 26)
  have ht := two8 W t u q r (HQ.out.next (Z00 HBW3.out hJ)) (HR.out.next (Z00 HBW3.out hJ))
  refine Z01 (v := .slice (some ⟨W.heap.size, 0, none⟩) 2 2) (W' := Z0m W t u q r) ?_ ?_ (hK.out _ _ ⟨_, rfl, ht⟩ (Z00 hJ hb) hb)
  {simp [Region.wanted, yielded, dg]}
  {unfold Z0m
   try dsimp only
   go_simp}}
 refine StepsAt.cons _ rfl (fun u' W K' hJ hd hK => ?_) ?_
 {have dg : _ = _ := hd 16 (by kernel_rfl)
  obtain ⟨g, d19, h19⟩ := hd 19 (by kernel_rfl)
  have hw := Z0g (some ⟨g, 0, none⟩) 2 [t, u] W h19 (by simp) (Z0w (Z09 HTA.out) (Z09 HTB.out)) (HW.out.next (Z00 HBW3.out hJ)) (HU.out.next (Z00 HBW3.out hJ))
  rw [HTU.out] at hw
  refine Z05 (f := 13) (args := #[.slice (some ⟨g, 0, none⟩) 2 2]) (W' := W) ?_ ?_ (hw.mono fun e w' h => ⟨_, h.1, hK.out _ _ rfl (Z00 hJ h.2) h.2⟩)
  {simp [Region.wanted, yielded, dg]}
  {try dsimp only
   go_simp}}
 refine StepsAt.cons _ rfl (fun u' W K' hJ hd hK => ?_) ?_
 {have dg : _ = _ := hd 16 (by kernel_rfl)
  have d20 : _ = _ := hd 20 (by kernel_rfl)
  refine Y0 hK hJ rfl rfl ?_ ?_
  {simp [Region.wanted, yielded, dg]}
  {try dsimp only
   go_simp}}
 refine StepsAt.cons _ rfl (fun u' W K' hJ hd hK => ?_) ?_
 {have dg : _ = _ := hd 21 (by kernel_rfl)
  exact Z0i (by simp [Region.wanted, yielded, dg]) (hK.out _ _ trivial hJ Y2)}
 refine StepsAt.cons _ rfl (fun u' W K' hJ hd hK => ?_) ?_
 {have dg : _ = _ := hd 21 (by kernel_rfl)
  exact Z0i (by simp [Region.wanted, yielded, dg]) (hK.out _ _ trivial hJ Y2)}
 refine StepsAt.cons _ rfl (fun u' W K' hJ hd hK => ?_) ?_
 {have dg : _ = _ := hd 21 (by kernel_rfl)
  exact Z0i (by simp [Region.wanted, yielded, dg]) (hK.out _ _ trivial hJ Y2)}
 refine StepsAt.cons _ rfl (fun u' W K' hJ hd hK => ?_) ?_
 {have dg : _ = _ := hd 21 (by kernel_rfl)
  exact Z0i (by simp [Region.wanted, yielded, dg]) (hK.out _ _ trivial hJ Y2)}
 refine StepsAt.cons _ rfl (fun u' W K' hJ hd hK => ?_) ?_
 {have dg : _ = _ := hd 16 (by kernel_rfl)
  have d21 : _ = _ := hd 21 (by kernel_rfl)
  refine Y0 hK hJ rfl rfl ?_ ?_
  {simp [Region.wanted, yielded, dg]}
  {try dsimp only
   go_simp}}
 refine StepsAt.cons _ rfl (fun u' W K' hJ hd hK => ?_) ?_
 {have dg : _ = _ := hd 16 (by kernel_rfl)
  have d26 : _ = _ := hd 26 (by kernel_rfl)
  refine Y0 hK hJ rfl rfl ?_ ?_
  {simp [Region.wanted, yielded, dg]}
  {try dsimp only
   go_simp}}
 refine StepsAt.cons _ rfl (fun u' W K' hJ hd hK => ?_) ?_
 {have dg : _ = _ := hd 27 (by kernel_rfl)
  exact Z0i (by simp [Region.wanted, yielded, dg]) (hK.out _ _ trivial hJ Y2)}
 refine StepsAt.cons _ rfl (fun u' W K' hJ hd hK => ?_) ?_
 {have dg : _ = _ := hd 27 (by kernel_rfl)
  exact Z0i (by simp [Region.wanted, yielded, dg]) (hK.out _ _ trivial hJ Y2)}
 refine StepsAt.cons _ rfl (fun u' W K' hJ hd hK => ?_) ?_
 {have dg : _ = _ := hd 27 (by kernel_rfl)
  exact Z0i (by simp [Region.wanted, yielded, dg]) (hK.out _ _ trivial hJ Y2)}
 refine StepsAt.cons _ rfl (fun u' W K' hJ hd hK => ?_) ?_
 {have dg : _ = _ := hd 27 (by kernel_rfl)
  exact Z0i (by simp [Region.wanted, yielded, dg]) (hK.out _ _ trivial hJ Y2)}
 refine StepsAt.cons _ rfl (fun u' W K' hJ hd hK => ?_) ?_
 {have dg : _ = _ := hd 27 (by kernel_rfl)
  exact Z0i (by simp [Region.wanted, yielded, dg]) (hK.out _ _ trivial hJ Y2)}
 refine StepsAt.cons _ rfl (fun u' W K' hJ hd hK => ?_) ?_
 {have dg : _ = _ := hd 16 (by kernel_rfl)
  have d27 : _ = _ := hd 27 (by kernel_rfl)
  refine Y0 hK hJ rfl rfl ?_ ?_
  {simp [Region.wanted, yielded, dg]}
  {try dsimp only
   go_simp}}
 refine StepsAt.cons _ rfl (fun u' W K' hJ hd hK => ?_) ?_
 {have d16 : _ = _ := hd 16 (by kernel_rfl)
  have d33 : _ = _ := hd 33 (by kernel_rfl)
  refine Y0 hK hJ rfl rfl rfl ?_
  try dsimp only
  go_simp}
 refine StepsAt.cons _ rfl (fun u' W K' hJ hd hK => ?_) ?_
 {have d34 : _ = _ := hd 34 (by kernel_rfl)
  refine Y0 hK hJ rfl rfl rfl ?_
  try dsimp only
  go_simp}
 refine StepsAt.cons _ rfl (fun u' W K' hJ hd hK => ?_) ?_
 {have dg : _ = _ := hd 35 (by kernel_rfl)
  obtain ⟨_, ⟨y0, y1, y2, y3, y4, y5, y6, y7, y8⟩, _⟩ := HB1.out.next (Z00 HBW3.out hJ)
  simp only [Nat.zero_add] at y0 y1 y2 y3 y4 y5 y6 y7 y8
  refine Y0 hK hJ rfl rfl ?_ ?_
  {simp [Region.wanted, yielded, dg]}
  {try dsimp only
   go_simp}}
 refine StepsAt.cons _ rfl (fun u' W K' hJ hd hK => ?_) ?_
 {have dg : _ = _ := hd 35 (by kernel_rfl)
  obtain ⟨_, ⟨y0, y1, y2, y3, y4, y5, y6, y7, y8⟩, _⟩ := HB2.out.next (Z00 HBW3.out hJ)
  simp only [Nat.zero_add] at y0 y1 y2 y3 y4 y5 y6 y7 y8
  refine Y0 hK hJ rfl rfl ?_ ?_
  {simp [Region.wanted, yielded, dg]}
  {try dsimp only
   go_simp}}
 refine StepsAt.cons _ rfl (fun u' W K' hJ hd hK => ?_) ?_
 {have dg : _ = _ := hd 35 (by kernel_rfl)
  obtain ⟨_, ⟨y0, y1, y2, y3, y4, y5, y6, y7, y8⟩, _⟩ := HB3.out.next (Z00 HBW3.out hJ)
  simp only [Nat.zero_add] at y0 y1 y2 y3 y4 y5 y6 y7 y8
  refine Y0 hK hJ rfl rfl ?_ ?_
  {simp [Region.wanted, yielded, dg]}
  {try dsimp only
   go_simp}}
 refine StepsAt.cons _ rfl (fun u' W K' hJ hd hK => ?_) ?_
 {have dg : _ = _ := hd 35 (by kernel_rfl)
  have d36 : _ = _ := hd 36 (by kernel_rfl)
  have d37 : _ = _ := hd 37 (by kernel_rfl)
  have d38 : _ = _ := hd 38 (by kernel_rfl)
  have hb := Z02 W (.cells #[.int .i64 t.kind, .string ⟨t.of_.toArray⟩, .string ⟨t.name.toArray⟩, .int .i64 t.n, .slice q.A t.names.length q.c, .slice q.V t.vars.length q.e, .slice q.S t.shapes.length q.s, .slice q.P t.parts.length q.d, .int .i64 t.at_, .int .i64 u.kind, .string ⟨u.of_.toArray⟩, .string ⟨u.name.toArray⟩, .int .i64 u.n, .slice r.A u.names.length r.c, .slice r.V u.vars.length r.e, .slice r.S u.shapes.length r.s, .slice r.P u.parts.length r.d, .int .i64 u.at_, .int .i64 v.kind, .string ⟨v.of_.toArray⟩, .string ⟨v.name.toArray⟩, .int .i64 v.n, .slice s.A v.names.length s.c, .slice s.V v.vars.length s.e, .slice s.S v.shapes.length s.s, .slice s.P v.parts.length s.d, .int .i64 v.at_] 26)
  have ht := Z6Q W t u v q r s (HQ.out.next (Z00 HBW3.out hJ)) (HR.out.next (Z00 HBW3.out hJ)) (HS.out.next (Z00 HBW3.out hJ))
  refine Z01 (v := .slice (some ⟨W.heap.size, 0, none⟩) 3 3) (W' := Z18 W t u v q r s) ?_ ?_ (hK.out _ _ ⟨_, rfl, ht⟩ (Z00 hJ hb) hb)
  {simp [Region.wanted, yielded, dg]}
  {unfold Z18
   try dsimp only
   go_simp}}
 refine StepsAt.cons _ rfl (fun u' W K' hJ hd hK => ?_) ?_
 {have dg : _ = _ := hd 35 (by kernel_rfl)
  obtain ⟨g, d39, h39⟩ := hd 39 (by kernel_rfl)
  have hw := Z0g (some ⟨g, 0, none⟩) 3 [t, u, v] W h39 (by simp) (Z33 (Z09 HTA.out) (Z09 HTB.out) (Z09 HTC.out)) (HW.out.next (Z00 HBW3.out hJ)) (HU.out.next (Z00 HBW3.out hJ))
  rw [HTUV.out] at hw
  refine Z05 (f := 13) (args := #[.slice (some ⟨g, 0, none⟩) 3 3]) (W' := W) ?_ ?_ (hw.mono fun e w' h => ⟨_, h.1, hK.out _ _ rfl (Z00 hJ h.2) h.2⟩)
  {simp [Region.wanted, yielded, dg]}
  {try dsimp only
   go_simp}}
 refine StepsAt.cons _ rfl (fun u' W K' hJ hd hK => ?_) ?_
 {have dg : _ = _ := hd 35 (by kernel_rfl)
  obtain ⟨_, ⟨y0, y1, y2, y3, y4, y5, y6, y7, y8⟩, _⟩ := HB1.out.next (Z00 HBW3.out hJ)
  simp only [Nat.zero_add] at y0 y1 y2 y3 y4 y5 y6 y7 y8
  refine Y0 hK hJ rfl rfl ?_ ?_
  {simp [Region.wanted, yielded, dg]}
  {try dsimp only
   go_simp}}
 refine StepsAt.cons _ rfl (fun u' W K' hJ hd hK => ?_) ?_
 {have dg : _ = _ := hd 35 (by kernel_rfl)
  obtain ⟨_, ⟨y0, y1, y2, y3, y4, y5, y6, y7, y8⟩, _⟩ := HB2.out.next (Z00 HBW3.out hJ)
  simp only [Nat.zero_add] at y0 y1 y2 y3 y4 y5 y6 y7 y8
  refine Y0 hK hJ rfl rfl ?_ ?_
  {simp [Region.wanted, yielded, dg]}
  {try dsimp only
   go_simp}}
 refine StepsAt.cons _ rfl (fun u' W K' hJ hd hK => ?_) ?_
 {have dg : _ = _ := hd 35 (by kernel_rfl)
  have d41 : _ = _ := hd 41 (by kernel_rfl)
  have d42 : _ = _ := hd 42 (by kernel_rfl)
  have hb := Z02 W (.cells #[.int .i64 t.kind, .string ⟨t.of_.toArray⟩, .string ⟨t.name.toArray⟩, .int .i64 t.n, .slice q.A t.names.length q.c, .slice q.V t.vars.length q.e, .slice q.S t.shapes.length q.s, .slice q.P t.parts.length q.d, .int .i64 t.at_, .int .i64 u.kind, .string ⟨u.of_.toArray⟩, .string ⟨u.name.toArray⟩, .int .i64 u.n, .slice r.A u.names.length r.c, .slice r.V u.vars.length r.e, .slice r.S u.shapes.length r.s, .slice r.P u.parts.length r.d, .int .i64 u.at_] 26)
  have ht := two8 W t u q r (HQ.out.next (Z00 HBW3.out hJ)) (HR.out.next (Z00 HBW3.out hJ))
  refine Z01 (v := .slice (some ⟨W.heap.size, 0, none⟩) 2 2) (W' := Z0m W t u q r) ?_ ?_ (hK.out _ _ ⟨_, rfl, ht⟩ (Z00 hJ hb) hb)
  {simp [Region.wanted, yielded, dg]}
  {unfold Z0m
   try dsimp only
   go_simp}}
 refine StepsAt.cons _ rfl (fun u' W K' hJ hd hK => ?_) ?_
 {have dg : _ = _ := hd 35 (by kernel_rfl)
  obtain ⟨g, d43, h43⟩ := hd 43 (by kernel_rfl)
  have hw := Z0g (some ⟨g, 0, none⟩) 2 [t, u] W h43 (by simp) (Z0w (Z09 HTA.out) (Z09 HTB.out)) (HW.out.next (Z00 HBW3.out hJ)) (HU.out.next (Z00 HBW3.out hJ))
  rw [HTU.out] at hw
  refine Z05 (f := 13) (args := #[.slice (some ⟨g, 0, none⟩) 2 2]) (W' := W) ?_ ?_ (hw.mono fun e w' h => ⟨_, h.1, hK.out _ _ rfl (Z00 hJ h.2) h.2⟩)
  {simp [Region.wanted, yielded, dg]}
  {try dsimp only
   go_simp}}
 refine StepsAt.cons _ rfl (fun u' W K' hJ hd hK => ?_) ?_
 {have dg : _ = _ := hd 35 (by kernel_rfl)
  have d44 : _ = _ := hd 44 (by kernel_rfl)
  refine Y0 hK hJ rfl rfl ?_ ?_
  {simp [Region.wanted, yielded, dg]}
  {try dsimp only
   go_simp}}
 refine StepsAt.cons _ rfl (fun u' W K' hJ hd hK => ?_) ?_
 {have dg : _ = _ := hd 45 (by kernel_rfl)
  exact Z0i (by simp [Region.wanted, yielded, dg]) (hK.out _ _ trivial hJ Y2)}
 refine StepsAt.cons _ rfl (fun u' W K' hJ hd hK => ?_) ?_
 {have dg : _ = _ := hd 45 (by kernel_rfl)
  exact Z0i (by simp [Region.wanted, yielded, dg]) (hK.out _ _ trivial hJ Y2)}
 refine StepsAt.cons _ rfl (fun u' W K' hJ hd hK => ?_) ?_
 {have dg : _ = _ := hd 45 (by kernel_rfl)
  exact Z0i (by simp [Region.wanted, yielded, dg]) (hK.out _ _ trivial hJ Y2)}
 refine StepsAt.cons _ rfl (fun u' W K' hJ hd hK => ?_) ?_
 {have dg : _ = _ := hd 45 (by kernel_rfl)
  exact Z0i (by simp [Region.wanted, yielded, dg]) (hK.out _ _ trivial hJ Y2)}
 refine StepsAt.cons _ rfl (fun u' W K' hJ hd hK => ?_) ?_
 {have dg : _ = _ := hd 35 (by kernel_rfl)
  have d45 : _ = _ := hd 45 (by kernel_rfl)
  refine Y0 hK hJ rfl rfl ?_ ?_
  {simp [Region.wanted, yielded, dg]}
  {try dsimp only
   go_simp}}
 refine StepsAt.cons _ rfl (fun u' W K' hJ hd hK => ?_) ?_
 {have dg : _ = _ := hd 35 (by kernel_rfl)
  have d40 : _ = _ := hd 40 (by kernel_rfl)
  have d50 : _ = _ := hd 50 (by kernel_rfl)
  refine Y0 hK hJ rfl rfl ?_ ?_
  {simp [Region.wanted, yielded, dg]}
  {try dsimp only
   go_simp}}
 refine StepsAt.cons _ rfl (fun u' W K' hJ hd hK => ?_) StepsAt.nil
 {have d35 : _ = _ := hd 35 (by kernel_rfl)
  have d51 : _ = _ := hd 51 (by kernel_rfl)
  refine Y0 hK hJ rfl rfl rfl ?_
  try dsimp only
  go_simp}
 intro u' W4 hJ4 hok
 have eL : u' 52 = .bool false := hok 52 (by decide)
 try dsimp only
 rw [eL]
 have HBW4 := Y1 (Z00 HBW3.out hJ4)
 clear hok eL hJ4
 obtain ⟨a1, ⟨x0, x1, x2, x3, x4, x5, x6, x7, x8⟩, a2⟩ := HB1.out.next HBW4.out
 simp only [Nat.zero_add] at x0 x1 x2 x3 x4 x5 x6 x7 x8
 clear a1 a2
 go_wp2_with fail
 refine (Z12 t q W4 (HQ.out.next HBW4.out) (HG.out.next HBW4.out) (HW.out.next HBW4.out) (HU.out.next HBW4.out) HTA.out HC1.out).mono ?_
 rintro e W5 ⟨rfl, hb5⟩
 have HBW5 := Y1 (Z00 HBW4.out hb5)
 obtain ⟨St, hSt⟩ : ∃ St, St = text t := ⟨_, rfl⟩
 have HST := Y1 hSt
 rw [<- hSt]
 clear hb5 hSt x0 x1 x2 x3 x4 x5 x6 x7 x8
 obtain ⟨a1, ⟨x0, x1, x2, x3, x4, x5, x6, x7, x8⟩, a2⟩ := HB2.out.next HBW5.out
 simp only [Nat.zero_add] at x0 x1 x2 x3 x4 x5 x6 x7 x8
 clear a1 a2
 go_wp2_with fail
 have hsh := Z12 u r W5 (HR.out.next HBW5.out) (HG.out.next HBW5.out) (HW.out.next HBW5.out) (HU.out.next HBW5.out) HTB.out HC2.out
 obtain ⟨Su, hSu⟩ : ∃ Su, Su = text u := ⟨_, rfl⟩
 rw [<- hSu] at hsh
 have HSH := Y1 hsh
 clear hSu hsh
 refine HSH.out.mono ?_
 rintro e W6 ⟨rfl, hb6⟩
 have HBW6 := Y1 (Z00 HBW5.out hb6)
 clear hb6 HSH x0 x1 x2 x3 x4 x5 x6 x7 x8
 obtain ⟨a1, ⟨x0, x1, x2, x3, x4, x5, x6, x7, x8⟩, a2⟩ := HB1.out.next HBW6.out
 obtain ⟨a3, ⟨z0, z1, z2, z3, z4, z5, z6, z7, z8⟩, a4⟩ := HB2.out.next HBW6.out
 simp only [Nat.zero_add] at x0 x1 x2 x3 x4 x5 x6 x7 x8 z0 z1 z2 z3 z4 z5 z6 z7 z8
 clear a1 a2 a3 a4
 have ht := two8 W6 t u q r (HQ.out.next HBW6.out) (HR.out.next HBW6.out)
 have HTW := Y1 (Z00 HBW6.out (Z02 W6 (.cells #[.int .i64 t.kind, .string ⟨t.of_.toArray⟩, .string ⟨t.name.toArray⟩, .int .i64 t.n, .slice q.A t.names.length q.c, .slice q.V t.vars.length q.e, .slice q.S t.shapes.length q.s, .slice q.P t.parts.length q.d, .int .i64 t.at_, .int .i64 u.kind, .string ⟨u.of_.toArray⟩, .string ⟨u.name.toArray⟩, .int .i64 u.n, .slice r.A u.names.length r.c, .slice r.V u.vars.length r.e, .slice r.S u.shapes.length r.s, .slice r.P u.parts.length r.d, .int .i64 u.at_] 26)))
 have hsm := Z0g (some ⟨W6.heap.size, 0, none⟩) 2 [t, u] (Z0m W6 t u q r) ht (by simp) (Z0w (Z09 HTA.out) (Z09 HTB.out)) (HW.out.next HTW.out) (HU.out.next HTW.out)
 rw [HTU.out] at hsm
 have HSM := Y1 hsm
 clear ht hsm
 go_wp2_with fail
 refine HSM.out.mono ?_
 rintro e W7 ⟨rfl, hb7⟩
 have HBW7 := Y1 (Z00 HTW.out hb7)
 clear hb7 HSM HTW x0 x1 x2 x3 x4 x5 x6 x7 x8 z0 z1 z2 z3 z4 z5 z6 z7 z8
 go_wp2_with fail
 refine (Z0J W7 (HG.out.next HBW7.out) (HW.out.next HBW7.out) (HU.out.next HBW7.out)).mono ?_
 rintro e W8 ⟨rfl, hb8⟩
 have HBW8 := Y1 (Z00 HBW7.out hb8)
 clear hb8
 go_wp2
 go_ret
 exact ⟨rfl, Z00 HB0.out HBW8.out⟩
theorem Zds (t u v : Tm) (q r s : TP) (w : World) (hq : TmAt w w.heap.size q t) (hr : TmAt w w.heap.size r u) (hs : TmAt w w.heap.size s v) (tt : tame t = true) (tu : tame u = true) (tv : tame v = true) (hG : Globs w) (hg : WGlobs w) (hu : Z0l w) (h1 : Tms.check t = 0) (h2 : Tms.check u = 0) (h3 : Tms.check v = 0) (h5 : same [t, u] = true) (h6 : same [u, v] = false) :
 Y9 6 #[.agg (Y7 t q), .agg (Y7 u r), .agg (Y7 v s)] w (.bool true) := by
 have HC1 := Y1 h1
 have HC2 := Y1 h2
 have HC3 := Y1 h3
 have HTT : Hid (same [t, t] = true) := Y1 (Z4F h1)
 have HTU : Hid (same [t, u] = true) := Y1 h5
 have HUT : Hid (same [u, t] = true) := Y1 (by rw [Z3t]; exact h5)
 have HUV : Hid (same [u, v] = false) := Y1 h6
 have h7 : same [t, v] = false := by
  cases h8 : same [t, v] with
  | false => rfl
  | true => rw [Z46 (by rw [Z3t]; exact h5) h8] at h6; cases h6
 have HTV : Hid (same [t, v] = false) := Y1 h7
 have HTUV : Hid (same [t, u, v] = false) := Y1 (by rw [Z2o, h5, h7]; rfl)
 clear h7
 have et : (Tms.check t != 0) = false := by simpa using h1
 have eu : (Tms.check u != 0) = false := by simpa using h2
 have ev : (Tms.check v != 0) = false := by simpa using h3
 clear h1 h2 h3 h5 h6
 have HB1 : Hid (Box9 (((w.alloc (.cells (Y7 t q) 26)).alloc (.cells (Y7 u r) 26)).alloc (.cells (Y7 v s) 26)) w.heap.size t q) := Y1 (((Z07 w t q).next (Z02 _ _)).next (Z02 _ _))
 have HB2 : Hid (Box9 (((w.alloc (.cells (Y7 t q) 26)).alloc (.cells (Y7 u r) 26)).alloc (.cells (Y7 v s) 26)) (w.heap.size + 1) u r) := by
  have h := Z07 (w.alloc (.cells (Y7 t q) 26)) u r
  have e : (w.alloc (.cells (Y7 t q) 26)).heap.size = w.heap.size + 1 := by simp
  rw [e] at h
  exact Y1 (h.next (Z02 _ _))
 have HB3 : Hid (Box9 (((w.alloc (.cells (Y7 t q) 26)).alloc (.cells (Y7 u r) 26)).alloc (.cells (Y7 v s) 26)) (w.heap.size + 1 + 1) v s) := by
  have h := Z07 ((w.alloc (.cells (Y7 t q) 26)).alloc (.cells (Y7 u r) 26)) v s
  have e : ((w.alloc (.cells (Y7 t q) 26)).alloc (.cells (Y7 u r) 26)).heap.size = w.heap.size + 1 + 1 := by simp
  rw [e] at h
  exact Y1 h
 have hb0 : Below w.heap.size w (((w.alloc (.cells (Y7 t q) 26)).alloc (.cells (Y7 u r) 26)).alloc (.cells (Y7 v s) 26)) := Z08 (Z08 (Z02 _ _) _) _
 have HQ := Y1 (hq.next hb0)
 have HR := Y1 (hr.next hb0)
 have HS := Y1 (hs.next hb0)
 have HG := Y1 (hG.next hb0)
 have HW := Y1 (hg.next hb0)
 have HU := Y1 (hu.next hb0)
 have HTA := Y1 tt
 have HTB := Y1 tu
 have HTC := Y1 tv
 have HB0 := Y1 hb0
 obtain ⟨a1, ⟨c0, c1, c2, c3, c4, c5, c6, c7, c8⟩, a2⟩ := HB1.out
 simp only [Nat.zero_add] at c0 c1 c2 c3 c4 c5 c6 c7 c8
 clear hq hr hs hG hg hu tt tu tv hb0 a1 a2
 go_enter Tryz.func6, Tryz.ntmps6
 go_wp2_with fail
 generalize ((w.alloc (.cells (Y7 t q) 26)).alloc (.cells (Y7 u r) 26)).alloc (.cells (Y7 v s) 26) = W0 at HB1 HB2 HB3 HQ HR HS HG HW HU HB0 c0 c1 c2 c3 c4 c5 c6 c7 c8 ⊢
 refine (Z0j t q W0 (HQ.out) (HW.out) (HU.out) (Z09 HTA.out)).mono ?_
 rintro e W1 ⟨rfl, hb⟩
 have HBW1 := Y1 hb
 clear hb c0 c1 c2 c3 c4 c5 c6 c7 c8
 obtain ⟨a1, ⟨x0, x1, x2, x3, x4, x5, x6, x7, x8⟩, a2⟩ := HB2.out.next HBW1.out
 simp only [Nat.zero_add] at x0 x1 x2 x3 x4 x5 x6 x7 x8
 clear a1 a2
 go_wp2_with fail
 refine (Z0j u r W1 (HR.out.next HBW1.out) (HW.out.next HBW1.out) (HU.out.next HBW1.out) (Z09 HTB.out)).mono ?_
 rintro e W2 ⟨rfl, hb⟩
 have HBW2 := Y1 (Z00 HBW1.out hb)
 clear hb x0 x1 x2 x3 x4 x5 x6 x7 x8
 obtain ⟨a1, ⟨x0, x1, x2, x3, x4, x5, x6, x7, x8⟩, a2⟩ := HB3.out.next HBW2.out
 simp only [Nat.zero_add] at x0 x1 x2 x3 x4 x5 x6 x7 x8
 clear a1 a2
 go_wp2_with fail
 refine (Z0j v s W2 (HS.out.next HBW2.out) (HW.out.next HBW2.out) (HU.out.next HBW2.out) (Z09 HTC.out)).mono ?_
 rintro e W3 ⟨rfl, hb⟩
 have HBW3 := Y1 (Z00 HBW2.out hb)
 clear hb x0 x1 x2 x3 x4 x5 x6 x7 x8
 go_wp2_with fail
 refine Z0p (rs := [0, 1, 2, 3, 4, 5, 6, 7, 8, 9, 10, 11, 12, 13, 14, 15, 16, 17, 18, 19, 20, 21, 22, 23, 24, 25, 26, 27, 28, 29, 30, 31, 32, 33, 34, 35, 36, 37, 38, 39, 40, 41, 42, 43, 44, 45, 46, 47, 48, 49, 50, 51, 52])
  (fun u' => { tmps := #[.agg (Y7 t q), .agg (Y7 u r), .agg (Y7 v s), .pointer (some { block := w.heap.size, off := 0 }), .pointer (some { block := w.heap.size + 1, off := 0 }), .pointer (some { block := w.heap.size + 1 + 1, off := 0 }), .bool false, undef, undef, undef, undef, .agg (Y7 t q), .int .i64 (check t), .bool false, .bool false, .agg (Y7 u r), .int .i64 (check u), .bool false, .bool false, .bool false, .agg (Y7 v s), .int .i64 (check v), .bool false, .bool false, undef, u' 0, u' 1, u' 2, u' 3, u' 4, u' 5, u' 6, u' 7, u' 8, u' 9, u' 10, u' 11, u' 12, u' 13, u' 14, u' 15, u' 16, u' 17, u' 18, u' 19, u' 20, u' 21, u' 22, u' 23, u' 24, u' 25, u' 26, u' 27, u' 28, u' 29, u' 30, u' 31, u' 32, u' 33, u' 34, u' 35, u' 36, u' 37, u' 38, u' 39, u' 40, u' 41, u' 42, u' 43, u' 44, u' 45, u' 46, u' 47, u' 48, u' 49, u' 50, u' 51, u' 52, undef, undef, undef, undef, undef, undef, undef, undef, undef, undef, undef, undef, undef, undef, undef, undef, undef, undef, undef, undef, undef, undef, undef], defers := [] })
  (fun j => ([undef, undef, undef, undef, undef, undef, undef, undef, undef, undef, undef, undef, undef, undef, undef, undef, undef, undef, undef, undef, undef, undef, undef, undef, undef, undef, undef, undef, undef, undef, undef, undef, undef, undef, undef, undef, undef, undef, undef, undef, undef, undef, undef, undef, undef, undef, undef, undef, undef, undef, undef, undef, undef] : List Value).getD j undef) (Zhc t u v q r s) (fun W => Below W3.heap.size W3 W) (by kernel_rfl) (by kernel_rfl) (by kernel_rfl) Y2.drew ?_ ?_
 refine StepsAt.cons _ rfl (fun u' W K' hJ hd hK => ?_) ?_
 {obtain ⟨_, ⟨y0, y1, y2, y3, y4, y5, y6, y7, y8⟩, _⟩ := HB1.out.next (Z00 HBW3.out hJ)
  simp only [Nat.zero_add] at y0 y1 y2 y3 y4 y5 y6 y7 y8
  refine Y0 hK hJ rfl rfl rfl ?_
  try dsimp only
  go_simp}
 refine StepsAt.cons _ rfl (fun u' W K' hJ hd hK => ?_) ?_
 {obtain ⟨_, ⟨y0, y1, y2, y3, y4, y5, y6, y7, y8⟩, _⟩ := HB1.out.next (Z00 HBW3.out hJ)
  simp only [Nat.zero_add] at y0 y1 y2 y3 y4 y5 y6 y7 y8
  refine Y0 hK hJ rfl rfl rfl ?_
  try dsimp only
  go_simp}
 refine StepsAt.cons _ rfl (fun u' W K' hJ hd hK => ?_) ?_
 {have d0 : _ = _ := hd 0 (by kernel_rfl)
  have d1 : _ = _ := hd 1 (by kernel_rfl)
  have hb := Z02 W (.cells #[.int .i64 t.kind, .string ⟨t.of_.toArray⟩, .string ⟨t.name.toArray⟩, .int .i64 t.n, .slice q.A t.names.length q.c, .slice q.V t.vars.length q.e, .slice q.S t.shapes.length q.s, .slice q.P t.parts.length q.d, .int .i64 t.at_, .int .i64 t.kind, .string ⟨t.of_.toArray⟩, .string ⟨t.name.toArray⟩, .int .i64 t.n, .slice q.A t.names.length q.c, .slice q.V t.vars.length q.e, .slice q.S t.shapes.length q.s, .slice q.P t.parts.length q.d, .int .i64 t.at_] 26)
  have ht := two8 W t t q q (HQ.out.next (Z00 HBW3.out hJ)) (HQ.out.next (Z00 HBW3.out hJ))
  refine Z01 (v := .slice (some ⟨W.heap.size, 0, none⟩) 2 2) (W' := Z0m W t t q q) rfl ?_ (hK.out _ _ ⟨_, rfl, ht⟩ (Z00 hJ hb) hb)
  unfold Z0m
  try dsimp only
  go_simp}
 refine StepsAt.cons _ rfl (fun u' W K' hJ hd hK => ?_) ?_
 {obtain ⟨g, d2, h2⟩ := hd 2 (by kernel_rfl)
  have hw := Z0g (some ⟨g, 0, none⟩) 2 [t, t] W h2 (by simp) (Z0w (Z09 HTA.out) (Z09 HTA.out)) (HW.out.next (Z00 HBW3.out hJ)) (HU.out.next (Z00 HBW3.out hJ))
  rw [HTT.out] at hw
  refine Z05 (f := 13) (args := #[.slice (some ⟨g, 0, none⟩) 2 2]) (W' := W) rfl ?_ (hw.mono fun e w' h => ⟨_, h.1, hK.out _ _ rfl (Z00 hJ h.2) h.2⟩)
  try dsimp only
  go_simp}
 refine StepsAt.cons _ rfl (fun u' W K' hJ hd hK => ?_) ?_
 {have d3 : _ = _ := hd 3 (by kernel_rfl)
  refine Y0 hK hJ rfl rfl rfl ?_
  try dsimp only
  go_simp}
 refine StepsAt.cons _ rfl (fun u' W K' hJ hd hK => ?_) ?_
 {have d4 : _ = _ := hd 4 (by kernel_rfl)
  refine Y0 hK hJ rfl rfl rfl ?_
  try dsimp only
  go_simp}
 refine StepsAt.cons _ rfl (fun u' W K' hJ hd hK => ?_) ?_
 {have dg : _ = _ := hd 5 (by kernel_rfl)
  obtain ⟨_, ⟨y0, y1, y2, y3, y4, y5, y6, y7, y8⟩, _⟩ := HB1.out.next (Z00 HBW3.out hJ)
  simp only [Nat.zero_add] at y0 y1 y2 y3 y4 y5 y6 y7 y8
  refine Y0 hK hJ rfl rfl ?_ ?_
  {simp [Region.wanted, yielded, dg]}
  {try dsimp only
   go_simp}}
 refine StepsAt.cons _ rfl (fun u' W K' hJ hd hK => ?_) ?_
 {have dg : _ = _ := hd 5 (by kernel_rfl)
  obtain ⟨_, ⟨y0, y1, y2, y3, y4, y5, y6, y7, y8⟩, _⟩ := HB2.out.next (Z00 HBW3.out hJ)
  simp only [Nat.zero_add] at y0 y1 y2 y3 y4 y5 y6 y7 y8
  refine Y0 hK hJ rfl rfl ?_ ?_
  {simp [Region.wanted, yielded, dg]}
  {try dsimp only
   go_simp}}
 refine StepsAt.cons _ rfl (fun u' W K' hJ hd hK => ?_) ?_
 {have dg : _ = _ := hd 5 (by kernel_rfl)
  have d6 : _ = _ := hd 6 (by kernel_rfl)
  have d7 : _ = _ := hd 7 (by kernel_rfl)
  have hb := Z02 W (.cells #[.int .i64 t.kind, .string ⟨t.of_.toArray⟩, .string ⟨t.name.toArray⟩, .int .i64 t.n, .slice q.A t.names.length q.c, .slice q.V t.vars.length q.e, .slice q.S t.shapes.length q.s, .slice q.P t.parts.length q.d, .int .i64 t.at_, .int .i64 u.kind, .string ⟨u.of_.toArray⟩, .string ⟨u.name.toArray⟩, .int .i64 u.n, .slice r.A u.names.length r.c, .slice r.V u.vars.length r.e, .slice r.S u.shapes.length r.s, .slice r.P u.parts.length r.d, .int .i64 u.at_] 26)
  have ht := two8 W t u q r (HQ.out.next (Z00 HBW3.out hJ)) (HR.out.next (Z00 HBW3.out hJ))
  refine Z01 (v := .slice (some ⟨W.heap.size, 0, none⟩) 2 2) (W' := Z0m W t u q r) ?_ ?_ (hK.out _ _ ⟨_, rfl, ht⟩ (Z00 hJ hb) hb)
  {simp [Region.wanted, yielded, dg]}
  {unfold Z0m
   try dsimp only
   go_simp}}
 refine StepsAt.cons _ rfl (fun u' W K' hJ hd hK => ?_) ?_
 {have dg : _ = _ := hd 5 (by kernel_rfl)
  obtain ⟨g, d8, h8⟩ := hd 8 (by kernel_rfl)
  have hw := Z0g (some ⟨g, 0, none⟩) 2 [t, u] W h8 (by simp) (Z0w (Z09 HTA.out) (Z09 HTB.out)) (HW.out.next (Z00 HBW3.out hJ)) (HU.out.next (Z00 HBW3.out hJ))
  rw [HTU.out] at hw
  refine Z05 (f := 13) (args := #[.slice (some ⟨g, 0, none⟩) 2 2]) (W' := W) ?_ ?_ (hw.mono fun e w' h => ⟨_, h.1, hK.out _ _ rfl (Z00 hJ h.2) h.2⟩)
  {simp [Region.wanted, yielded, dg]}
  {try dsimp only
   go_simp}}
 refine StepsAt.cons _ rfl (fun u' W K' hJ hd hK => ?_) ?_
 {have dg : _ = _ := hd 5 (by kernel_rfl)
  obtain ⟨_, ⟨y0, y1, y2, y3, y4, y5, y6, y7, y8⟩, _⟩ := HB2.out.next (Z00 HBW3.out hJ)
  simp only [Nat.zero_add] at y0 y1 y2 y3 y4 y5 y6 y7 y8
  refine Y0 hK hJ rfl rfl ?_ ?_
  {simp [Region.wanted, yielded, dg]}
  {try dsimp only
   go_simp}}
 refine StepsAt.cons _ rfl (fun u' W K' hJ hd hK => ?_) ?_
 {have dg : _ = _ := hd 5 (by kernel_rfl)
  obtain ⟨_, ⟨y0, y1, y2, y3, y4, y5, y6, y7, y8⟩, _⟩ := HB1.out.next (Z00 HBW3.out hJ)
  simp only [Nat.zero_add] at y0 y1 y2 y3 y4 y5 y6 y7 y8
  refine Y0 hK hJ rfl rfl ?_ ?_
  {simp [Region.wanted, yielded, dg]}
  {try dsimp only
   go_simp}}
 refine StepsAt.cons _ rfl (fun u' W K' hJ hd hK => ?_) ?_
 {have dg : _ = _ := hd 5 (by kernel_rfl)
  have d10 : _ = _ := hd 10 (by kernel_rfl)
  have d11 : _ = _ := hd 11 (by kernel_rfl)
  have hb := Z02 W (.cells #[.int .i64 u.kind, .string ⟨u.of_.toArray⟩, .string ⟨u.name.toArray⟩, .int .i64 u.n, .slice r.A u.names.length r.c, .slice r.V u.vars.length r.e, .slice r.S u.shapes.length r.s, .slice r.P u.parts.length r.d, .int .i64 u.at_, .int .i64 t.kind, .string ⟨t.of_.toArray⟩, .string ⟨t.name.toArray⟩, .int .i64 t.n, .slice q.A t.names.length q.c, .slice q.V t.vars.length q.e, .slice q.S t.shapes.length q.s, .slice q.P t.parts.length q.d, .int .i64 t.at_] 26)
  have ht := two8 W u t r q (HR.out.next (Z00 HBW3.out hJ)) (HQ.out.next (Z00 HBW3.out hJ))
  refine Z01 (v := .slice (some ⟨W.heap.size, 0, none⟩) 2 2) (W' := Z0m W u t r q) ?_ ?_ (hK.out _ _ ⟨_, rfl, ht⟩ (Z00 hJ hb) hb)
  {simp [Region.wanted, yielded, dg]}
  {unfold Z0m
   try dsimp only
   go_simp}}
 refine StepsAt.cons _ rfl (fun u' W K' hJ hd hK => ?_) ?_
 {have dg : _ = _ := hd 5 (by kernel_rfl)
  obtain ⟨g, d12, h12⟩ := hd 12 (by kernel_rfl)
  have hw := Z0g (some ⟨g, 0, none⟩) 2 [u, t] W h12 (by simp) (Z0w (Z09 HTB.out) (Z09 HTA.out)) (HW.out.next (Z00 HBW3.out hJ)) (HU.out.next (Z00 HBW3.out hJ))
  rw [HUT.out] at hw
  refine Z05 (f := 13) (args := #[.slice (some ⟨g, 0, none⟩) 2 2]) (W' := W) ?_ ?_ (hw.mono fun e w' h => ⟨_, h.1, hK.out _ _ rfl (Z00 hJ h.2) h.2⟩)
  {simp [Region.wanted, yielded, dg]}
  {try dsimp only
   go_simp}}
 refine StepsAt.cons _ rfl (fun u' W K' hJ hd hK => ?_) ?_
 {have dg : _ = _ := hd 5 (by kernel_rfl)
  have d9 : _ = _ := hd 9 (by kernel_rfl)
  have d13 : _ = _ := hd 13 (by kernel_rfl)
  refine Y0 hK hJ rfl rfl ?_ ?_
  {simp [Region.wanted, yielded, dg]}
  {try dsimp only
   go_simp}}
 refine StepsAt.cons _ rfl (fun u' W K' hJ hd hK => ?_) ?_
 {have d5 : _ = _ := hd 5 (by kernel_rfl)
  have d14 : _ = _ := hd 14 (by kernel_rfl)
  refine Y0 hK hJ rfl rfl rfl ?_
  try dsimp only
  go_simp}
 refine StepsAt.cons _ rfl (fun u' W K' hJ hd hK => ?_) ?_
 {have d15 : _ = _ := hd 15 (by kernel_rfl)
  refine Y0 hK hJ rfl rfl rfl ?_
  try dsimp only
  go_simp}
 refine StepsAt.cons _ rfl (fun u' W K' hJ hd hK => ?_) ?_
 {have dg : _ = _ := hd 16 (by kernel_rfl)
  obtain ⟨_, ⟨y0, y1, y2, y3, y4, y5, y6, y7, y8⟩, _⟩ := HB1.out.next (Z00 HBW3.out hJ)
  simp only [Nat.zero_add] at y0 y1 y2 y3 y4 y5 y6 y7 y8
  refine Y0 hK hJ rfl rfl ?_ ?_
  {simp [Region.wanted, yielded, dg]}
  {try dsimp only
   go_simp}}
 refine StepsAt.cons _ rfl (fun u' W K' hJ hd hK => ?_) ?_
 {have dg : _ = _ := hd 16 (by kernel_rfl)
  obtain ⟨_, ⟨y0, y1, y2, y3, y4, y5, y6, y7, y8⟩, _⟩ := HB2.out.next (Z00 HBW3.out hJ)
  simp only [Nat.zero_add] at y0 y1 y2 y3 y4 y5 y6 y7 y8
  refine Y0 hK hJ rfl rfl ?_ ?_
  {simp [Region.wanted, yielded, dg]}
  {try dsimp only
   go_simp}}
 refine StepsAt.cons _ rfl (fun u' W K' hJ hd hK => ?_) ?_
 {have dg : _ = _ := hd 16 (by kernel_rfl)
  have d17 : _ = _ := hd 17 (by kernel_rfl)
  have d18 : _ = _ := hd 18 (by kernel_rfl)
  have hb := Z02 W (.cells #[.int .i64 t.kind, .string ⟨t.of_.toArray⟩, .string ⟨t.name.toArray⟩, .int .i64 t.n, .slice q.A t.names.length q.c, .slice q.V t.vars.length q.e, .slice q.S t.shapes.length q.s, .slice q.P t.parts.length q.d, .int .i64 t.at_, .int .i64 u.kind, .string ⟨u.of_.toArray⟩, .string ⟨u.name.toArray⟩, .int .i64 u.n, .slice r.A u.names.length r.c, .slice r.V u.vars.length r.e, .slice r.S u.shapes.length r.s, .slice r.P u.parts.length r.d, .int .i64 u.at_] 26)
  have ht := two8 W t u q r (HQ.out.next (Z00 HBW3.out hJ)) (HR.out.next (Z00 HBW3.out hJ))
  refine Z01 (v := .slice (some ⟨W.heap.size, 0, none⟩) 2 2) (W' := Z0m W t u q r) ?_ ?_ (hK.out _ _ ⟨_, rfl, ht⟩ (Z00 hJ hb) hb)
  {simp [Region.wanted, yielded, dg]}
  {unfold Z0m
   try dsimp only
   go_simp}}
 refine StepsAt.cons _ rfl (fun u' W K' hJ hd hK => ?_) ?_
 {have dg : _ = _ := hd 16 (by kernel_rfl)
  obtain ⟨g, d19, h19⟩ := hd 19 (by kernel_rfl)
  have hw := Z0g (some ⟨g, 0, none⟩) 2 [t, u] W h19 (by simp) (Z0w (Z09 HTA.out) (Z09 HTB.out)) (HW.out.next (Z00 HBW3.out hJ)) (HU.out.next (Z00 HBW3.out hJ))
  rw [HTU.out] at hw
  refine Z05 (f := 13) (args := #[.slice (some ⟨g, 0, none⟩) 2 2]) (W' := W) ?_ ?_ (hw.mono fun e w' h => ⟨_, h.1, hK.out _ _ rfl (Z00 hJ h.2) h.2⟩)
  {simp [Region.wanted, yielded, dg]}
  {try dsimp only
   go_simp}}
 refine StepsAt.cons _ rfl (fun u' W K' hJ hd hK => ?_) ?_
 {have dg : _ = _ := hd 16 (by kernel_rfl)
  have d20 : _ = _ := hd 20 (by kernel_rfl)
  refine Y0 hK hJ rfl rfl ?_ ?_
  {simp [Region.wanted, yielded, dg]}
  {try dsimp only
   go_simp}}
 refine StepsAt.cons _ rfl (fun u' W K' hJ hd hK => ?_) ?_
 {have dg : _ = _ := hd 21 (by kernel_rfl)
  obtain ⟨_, ⟨y0, y1, y2, y3, y4, y5, y6, y7, y8⟩, _⟩ := HB2.out.next (Z00 HBW3.out hJ)
  simp only [Nat.zero_add] at y0 y1 y2 y3 y4 y5 y6 y7 y8
  refine Y0 hK hJ rfl rfl ?_ ?_
  {simp [Region.wanted, yielded, dg]}
  {try dsimp only
   go_simp}}
 refine StepsAt.cons _ rfl (fun u' W K' hJ hd hK => ?_) ?_
 {have dg : _ = _ := hd 21 (by kernel_rfl)
  obtain ⟨_, ⟨y0, y1, y2, y3, y4, y5, y6, y7, y8⟩, _⟩ := HB3.out.next (Z00 HBW3.out hJ)
  simp only [Nat.zero_add] at y0 y1 y2 y3 y4 y5 y6 y7 y8
  refine Y0 hK hJ rfl rfl ?_ ?_
  {simp [Region.wanted, yielded, dg]}
  {try dsimp only
   go_simp}}
 refine StepsAt.cons _ rfl (fun u' W K' hJ hd hK => ?_) ?_
 {have dg : _ = _ := hd 21 (by kernel_rfl)
  have d22 : _ = _ := hd 22 (by kernel_rfl)
  have d23 : _ = _ := hd 23 (by kernel_rfl)
  have hb := Z02 W (.cells #[.int .i64 u.kind, .string ⟨u.of_.toArray⟩, .string ⟨u.name.toArray⟩, .int .i64 u.n, .slice r.A u.names.length r.c, .slice r.V u.vars.length r.e, .slice r.S u.shapes.length r.s, .slice r.P u.parts.length r.d, .int .i64 u.at_, .int .i64 v.kind, .string ⟨v.of_.toArray⟩, .string ⟨v.name.toArray⟩, .int .i64 v.n, .slice s.A v.names.length s.c, .slice s.V v.vars.length s.e, .slice s.S v.shapes.length s.s, .slice s.P v.parts.length s.d, .int .i64 v.at_] 26)
  have ht := two8 W u v r s (HR.out.next (Z00 HBW3.out hJ)) (HS.out.next (Z00 HBW3.out hJ))
  refine Z01 (v := .slice (some ⟨W.heap.size, 0, none⟩) 2 2) (W' := Z0m W u v r s) ?_ ?_ (hK.out _ _ ⟨_, rfl, ht⟩ (Z00 hJ hb) hb)
  {simp [Region.wanted, yielded, dg]}
  {unfold Z0m
   try dsimp only
   go_simp}}
 refine StepsAt.cons _ rfl (fun u' W K' hJ hd hK => ?_) ?_
 {have dg : _ = _ := hd 21 (by kernel_rfl)
  obtain ⟨g, d24, h24⟩ := hd 24 (by kernel_rfl)
  have hw := Z0g (some ⟨g, 0, none⟩) 2 [u, v] W h24 (by simp) (Z0w (Z09 HTB.out) (Z09 HTC.out)) (HW.out.next (Z00 HBW3.out hJ)) (HU.out.next (Z00 HBW3.out hJ))
  rw [HUV.out] at hw
  refine Z05 (f := 13) (args := #[.slice (some ⟨g, 0, none⟩) 2 2]) (W' := W) ?_ ?_ (hw.mono fun e w' h => ⟨_, h.1, hK.out _ _ rfl (Z00 hJ h.2) h.2⟩)
  {simp [Region.wanted, yielded, dg]}
  {try dsimp only
   go_simp}}
 refine StepsAt.cons _ rfl (fun u' W K' hJ hd hK => ?_) ?_
 {have dg : _ = _ := hd 16 (by kernel_rfl)
  have d21 : _ = _ := hd 21 (by kernel_rfl)
  have d25 : _ = _ := hd 25 (by kernel_rfl)
  refine Y0 hK hJ rfl rfl ?_ ?_
  {simp [Region.wanted, yielded, dg]}
  {try dsimp only
   go_simp}}
 refine StepsAt.cons _ rfl (fun u' W K' hJ hd hK => ?_) ?_
 {have dg : _ = _ := hd 16 (by kernel_rfl)
  have d26 : _ = _ := hd 26 (by kernel_rfl)
  refine Y0 hK hJ rfl rfl ?_ ?_
  {simp [Region.wanted, yielded, dg]}
  {try dsimp only
   go_simp}}
 refine StepsAt.cons _ rfl (fun u' W K' hJ hd hK => ?_) ?_
 {have dg : _ = _ := hd 27 (by kernel_rfl)
  exact Z0i (by simp [Region.wanted, yielded, dg]) (hK.out _ _ trivial hJ Y2)}
 refine StepsAt.cons _ rfl (fun u' W K' hJ hd hK => ?_) ?_
 {have dg : _ = _ := hd 27 (by kernel_rfl)
  exact Z0i (by simp [Region.wanted, yielded, dg]) (hK.out _ _ trivial hJ Y2)}
 refine StepsAt.cons _ rfl (fun u' W K' hJ hd hK => ?_) ?_
 {have dg : _ = _ := hd 27 (by kernel_rfl)
  exact Z0i (by simp [Region.wanted, yielded, dg]) (hK.out _ _ trivial hJ Y2)}
 refine StepsAt.cons _ rfl (fun u' W K' hJ hd hK => ?_) ?_
 {have dg : _ = _ := hd 27 (by kernel_rfl)
  exact Z0i (by simp [Region.wanted, yielded, dg]) (hK.out _ _ trivial hJ Y2)}
 refine StepsAt.cons _ rfl (fun u' W K' hJ hd hK => ?_) ?_
 {have dg : _ = _ := hd 27 (by kernel_rfl)
  exact Z0i (by simp [Region.wanted, yielded, dg]) (hK.out _ _ trivial hJ Y2)}
 refine StepsAt.cons _ rfl (fun u' W K' hJ hd hK => ?_) ?_
 {have dg : _ = _ := hd 16 (by kernel_rfl)
  have d27 : _ = _ := hd 27 (by kernel_rfl)
  refine Y0 hK hJ rfl rfl ?_ ?_
  {simp [Region.wanted, yielded, dg]}
  {try dsimp only
   go_simp}}
 refine StepsAt.cons _ rfl (fun u' W K' hJ hd hK => ?_) ?_
 {have d16 : _ = _ := hd 16 (by kernel_rfl)
  have d33 : _ = _ := hd 33 (by kernel_rfl)
  refine Y0 hK hJ rfl rfl rfl ?_
  try dsimp only
  go_simp}
 refine StepsAt.cons _ rfl (fun u' W K' hJ hd hK => ?_) ?_
 {have d34 : _ = _ := hd 34 (by kernel_rfl)
  refine Y0 hK hJ rfl rfl rfl ?_
  try dsimp only
  go_simp}
 refine StepsAt.cons _ rfl (fun u' W K' hJ hd hK => ?_) ?_
 {have dg : _ = _ := hd 35 (by kernel_rfl)
  obtain ⟨_, ⟨y0, y1, y2, y3, y4, y5, y6, y7, y8⟩, _⟩ := HB1.out.next (Z00 HBW3.out hJ)
  simp only [Nat.zero_add] at y0 y1 y2 y3 y4 y5 y6 y7 y8
  refine Y0 hK hJ rfl rfl ?_ ?_
  {simp [Region.wanted, yielded, dg]}
  {try dsimp only
   go_simp}}
 refine StepsAt.cons _ rfl (fun u' W K' hJ hd hK => ?_) ?_
 {have dg : _ = _ := hd 35 (by kernel_rfl)
  obtain ⟨_, ⟨y0, y1, y2, y3, y4, y5, y6, y7, y8⟩, _⟩ := HB2.out.next (Z00 HBW3.out hJ)
  simp only [Nat.zero_add] at y0 y1 y2 y3 y4 y5 y6 y7 y8
  refine Y0 hK hJ rfl rfl ?_ ?_
  {simp [Region.wanted, yielded, dg]}
  {try dsimp only
   go_simp}}
 refine StepsAt.cons _ rfl (fun u' W K' hJ hd hK => ?_) ?_
 {have dg : _ = _ := hd 35 (by kernel_rfl)
  obtain ⟨_, ⟨y0, y1, y2, y3, y4, y5, y6, y7, y8⟩, _⟩ := HB3.out.next (Z00 HBW3.out hJ)
  simp only [Nat.zero_add] at y0 y1 y2 y3 y4 y5 y6 y7 y8
  refine Y0 hK hJ rfl rfl ?_ ?_
  {simp [Region.wanted, yielded, dg]}
  {try dsimp only
   go_simp}}
 refine StepsAt.cons _ rfl (fun u' W K' hJ hd hK => ?_) ?_
 {have dg : _ = _ := hd 35 (by kernel_rfl)
  have d36 : _ = _ := hd 36 (by kernel_rfl)
  have d37 : _ = _ := hd 37 (by kernel_rfl)
  have d38 : _ = _ := hd 38 (by kernel_rfl)
  have hb := Z02 W (.cells #[.int .i64 t.kind, .string ⟨t.of_.toArray⟩, .string ⟨t.name.toArray⟩, .int .i64 t.n, .slice q.A t.names.length q.c, .slice q.V t.vars.length q.e, .slice q.S t.shapes.length q.s, .slice q.P t.parts.length q.d, .int .i64 t.at_, .int .i64 u.kind, .string ⟨u.of_.toArray⟩, .string ⟨u.name.toArray⟩, .int .i64 u.n, .slice r.A u.names.length r.c, .slice r.V u.vars.length r.e, .slice r.S u.shapes.length r.s, .slice r.P u.parts.length r.d, .int .i64 u.at_, .int .i64 v.kind, .string ⟨v.of_.toArray⟩, .string ⟨v.name.toArray⟩, .int .i64 v.n, .slice s.A v.names.length s.c, .slice s.V v.vars.length s.e, .slice s.S v.shapes.length s.s, .slice s.P v.parts.length s.d, .int .i64 v.at_] 26)
  have ht := Z6Q W t u v q r s (HQ.out.next (Z00 HBW3.out hJ)) (HR.out.next (Z00 HBW3.out hJ)) (HS.out.next (Z00 HBW3.out hJ))
  refine Z01 (v := .slice (some ⟨W.heap.size, 0, none⟩) 3 3) (W' := Z18 W t u v q r s) ?_ ?_ (hK.out _ _ ⟨_, rfl, ht⟩ (Z00 hJ hb) hb)
  {simp [Region.wanted, yielded, dg]}
  {unfold Z18
   try dsimp only
   go_simp}}
 refine StepsAt.cons _ rfl (fun u' W K' hJ hd hK => ?_) ?_
 {have dg : _ = _ := hd 35 (by kernel_rfl)
  obtain ⟨g, d39, h39⟩ := hd 39 (by kernel_rfl)
  have hw := Z0g (some ⟨g, 0, none⟩) 3 [t, u, v] W h39 (by simp) (Z33 (Z09 HTA.out) (Z09 HTB.out) (Z09 HTC.out)) (HW.out.next (Z00 HBW3.out hJ)) (HU.out.next (Z00 HBW3.out hJ))
  rw [HTUV.out] at hw
  refine Z05 (f := 13) (args := #[.slice (some ⟨g, 0, none⟩) 3 3]) (W' := W) ?_ ?_ (hw.mono fun e w' h => ⟨_, h.1, hK.out _ _ rfl (Z00 hJ h.2) h.2⟩)
  {simp [Region.wanted, yielded, dg]}
  {try dsimp only
   go_simp}}
 refine StepsAt.cons _ rfl (fun u' W K' hJ hd hK => ?_) ?_
 {have dg : _ = _ := hd 35 (by kernel_rfl)
  obtain ⟨_, ⟨y0, y1, y2, y3, y4, y5, y6, y7, y8⟩, _⟩ := HB1.out.next (Z00 HBW3.out hJ)
  simp only [Nat.zero_add] at y0 y1 y2 y3 y4 y5 y6 y7 y8
  refine Y0 hK hJ rfl rfl ?_ ?_
  {simp [Region.wanted, yielded, dg]}
  {try dsimp only
   go_simp}}
 refine StepsAt.cons _ rfl (fun u' W K' hJ hd hK => ?_) ?_
 {have dg : _ = _ := hd 35 (by kernel_rfl)
  obtain ⟨_, ⟨y0, y1, y2, y3, y4, y5, y6, y7, y8⟩, _⟩ := HB2.out.next (Z00 HBW3.out hJ)
  simp only [Nat.zero_add] at y0 y1 y2 y3 y4 y5 y6 y7 y8
  refine Y0 hK hJ rfl rfl ?_ ?_
  {simp [Region.wanted, yielded, dg]}
  {try dsimp only
   go_simp}}
 refine StepsAt.cons _ rfl (fun u' W K' hJ hd hK => ?_) ?_
 {have dg : _ = _ := hd 35 (by kernel_rfl)
  have d41 : _ = _ := hd 41 (by kernel_rfl)
  have d42 : _ = _ := hd 42 (by kernel_rfl)
  have hb := Z02 W (.cells #[.int .i64 t.kind, .string ⟨t.of_.toArray⟩, .string ⟨t.name.toArray⟩, .int .i64 t.n, .slice q.A t.names.length q.c, .slice q.V t.vars.length q.e, .slice q.S t.shapes.length q.s, .slice q.P t.parts.length q.d, .int .i64 t.at_, .int .i64 u.kind, .string ⟨u.of_.toArray⟩, .string ⟨u.name.toArray⟩, .int .i64 u.n, .slice r.A u.names.length r.c, .slice r.V u.vars.length r.e, .slice r.S u.shapes.length r.s, .slice r.P u.parts.length r.d, .int .i64 u.at_] 26)
  have ht := two8 W t u q r (HQ.out.next (Z00 HBW3.out hJ)) (HR.out.next (Z00 HBW3.out hJ))
  refine Z01 (v := .slice (some ⟨W.heap.size, 0, none⟩) 2 2) (W' := Z0m W t u q r) ?_ ?_ (hK.out _ _ ⟨_, rfl, ht⟩ (Z00 hJ hb) hb)
  {simp [Region.wanted, yielded, dg]}
  {unfold Z0m
   try dsimp only
   go_simp}}
 refine StepsAt.cons _ rfl (fun u' W K' hJ hd hK => ?_) ?_
 {have dg : _ = _ := hd 35 (by kernel_rfl)
  obtain ⟨g, d43, h43⟩ := hd 43 (by kernel_rfl)
  have hw := Z0g (some ⟨g, 0, none⟩) 2 [t, u] W h43 (by simp) (Z0w (Z09 HTA.out) (Z09 HTB.out)) (HW.out.next (Z00 HBW3.out hJ)) (HU.out.next (Z00 HBW3.out hJ))
  rw [HTU.out] at hw
  refine Z05 (f := 13) (args := #[.slice (some ⟨g, 0, none⟩) 2 2]) (W' := W) ?_ ?_ (hw.mono fun e w' h => ⟨_, h.1, hK.out _ _ rfl (Z00 hJ h.2) h.2⟩)
  {simp [Region.wanted, yielded, dg]}
  {try dsimp only
   go_simp}}
 refine StepsAt.cons _ rfl (fun u' W K' hJ hd hK => ?_) ?_
 {have dg : _ = _ := hd 35 (by kernel_rfl)
  have d44 : _ = _ := hd 44 (by kernel_rfl)
  refine Y0 hK hJ rfl rfl ?_ ?_
  {simp [Region.wanted, yielded, dg]}
  {try dsimp only
   go_simp}}
 refine StepsAt.cons _ rfl (fun u' W K' hJ hd hK => ?_) ?_
 {have dg : _ = _ := hd 45 (by kernel_rfl)
  obtain ⟨_, ⟨y0, y1, y2, y3, y4, y5, y6, y7, y8⟩, _⟩ := HB1.out.next (Z00 HBW3.out hJ)
  simp only [Nat.zero_add] at y0 y1 y2 y3 y4 y5 y6 y7 y8
  refine Y0 hK hJ rfl rfl ?_ ?_
  {simp [Region.wanted, yielded, dg]}
  {try dsimp only
   go_simp}}
 refine StepsAt.cons _ rfl (fun u' W K' hJ hd hK => ?_) ?_
 {have dg : _ = _ := hd 45 (by kernel_rfl)
  obtain ⟨_, ⟨y0, y1, y2, y3, y4, y5, y6, y7, y8⟩, _⟩ := HB3.out.next (Z00 HBW3.out hJ)
  simp only [Nat.zero_add] at y0 y1 y2 y3 y4 y5 y6 y7 y8
  refine Y0 hK hJ rfl rfl ?_ ?_
  {simp [Region.wanted, yielded, dg]}
  {try dsimp only
   go_simp}}
 refine StepsAt.cons _ rfl (fun u' W K' hJ hd hK => ?_) ?_
 {have dg : _ = _ := hd 45 (by kernel_rfl)
  have d46 : _ = _ := hd 46 (by kernel_rfl)
  have d47 : _ = _ := hd 47 (by kernel_rfl)
  have hb := Z02 W (.cells #[.int .i64 t.kind, .string ⟨t.of_.toArray⟩, .string ⟨t.name.toArray⟩, .int .i64 t.n, .slice q.A t.names.length q.c, .slice q.V t.vars.length q.e, .slice q.S t.shapes.length q.s, .slice q.P t.parts.length q.d, .int .i64 t.at_, .int .i64 v.kind, .string ⟨v.of_.toArray⟩, .string ⟨v.name.toArray⟩, .int .i64 v.n, .slice s.A v.names.length s.c, .slice s.V v.vars.length s.e, .slice s.S v.shapes.length s.s, .slice s.P v.parts.length s.d, .int .i64 v.at_] 26)
  have ht := two8 W t v q s (HQ.out.next (Z00 HBW3.out hJ)) (HS.out.next (Z00 HBW3.out hJ))
  refine Z01 (v := .slice (some ⟨W.heap.size, 0, none⟩) 2 2) (W' := Z0m W t v q s) ?_ ?_ (hK.out _ _ ⟨_, rfl, ht⟩ (Z00 hJ hb) hb)
  {simp [Region.wanted, yielded, dg]}
  {unfold Z0m
   try dsimp only
   go_simp}}
 refine StepsAt.cons _ rfl (fun u' W K' hJ hd hK => ?_) ?_
 {have dg : _ = _ := hd 45 (by kernel_rfl)
  obtain ⟨g, d48, h48⟩ := hd 48 (by kernel_rfl)
  have hw := Z0g (some ⟨g, 0, none⟩) 2 [t, v] W h48 (by simp) (Z0w (Z09 HTA.out) (Z09 HTC.out)) (HW.out.next (Z00 HBW3.out hJ)) (HU.out.next (Z00 HBW3.out hJ))
  rw [HTV.out] at hw
  refine Z05 (f := 13) (args := #[.slice (some ⟨g, 0, none⟩) 2 2]) (W' := W) ?_ ?_ (hw.mono fun e w' h => ⟨_, h.1, hK.out _ _ rfl (Z00 hJ h.2) h.2⟩)
  {simp [Region.wanted, yielded, dg]}
  {try dsimp only
   go_simp}}
 refine StepsAt.cons _ rfl (fun u' W K' hJ hd hK => ?_) ?_
 {have dg : _ = _ := hd 35 (by kernel_rfl)
  have d45 : _ = _ := hd 45 (by kernel_rfl)
  have d49 : _ = _ := hd 49 (by kernel_rfl)
  refine Y0 hK hJ rfl rfl ?_ ?_
  {simp [Region.wanted, yielded, dg]}
  {try dsimp only
   go_simp}}
 refine StepsAt.cons _ rfl (fun u' W K' hJ hd hK => ?_) ?_
 {have dg : _ = _ := hd 35 (by kernel_rfl)
  have d40 : _ = _ := hd 40 (by kernel_rfl)
  have d50 : _ = _ := hd 50 (by kernel_rfl)
  refine Y0 hK hJ rfl rfl ?_ ?_
  {simp [Region.wanted, yielded, dg]}
  {try dsimp only
   go_simp}}
 refine StepsAt.cons _ rfl (fun u' W K' hJ hd hK => ?_) StepsAt.nil
 {have d35 : _ = _ := hd 35 (by kernel_rfl)
  have d51 : _ = _ := hd 51 (by kernel_rfl)
  refine Y0 hK hJ rfl rfl rfl ?_
  try dsimp only
  go_simp}
 intro u' W4 hJ4 hok
 have eL : u' 52 = .bool false := hok 52 (by decide)
 try dsimp only
 rw [eL]
 have HBW4 := Y1 (Z00 HBW3.out hJ4)
 clear hok eL hJ4
 obtain ⟨a1, ⟨x0, x1, x2, x3, x4, x5, x6, x7, x8⟩, a2⟩ := HB1.out.next HBW4.out
 simp only [Nat.zero_add] at x0 x1 x2 x3 x4 x5 x6 x7 x8
 clear a1 a2
 go_wp2_with fail
 refine (Z12 t q W4 (HQ.out.next HBW4.out) (HG.out.next HBW4.out) (HW.out.next HBW4.out) (HU.out.next HBW4.out) HTA.out HC1.out).mono ?_
 rintro e W5 ⟨rfl, hb5⟩
 have HBW5 := Y1 (Z00 HBW4.out hb5)
 obtain ⟨St, hSt⟩ : ∃ St, St = text t := ⟨_, rfl⟩
 have HST := Y1 hSt
 rw [<- hSt]
 clear hb5 hSt x0 x1 x2 x3 x4 x5 x6 x7 x8
 obtain ⟨a1, ⟨x0, x1, x2, x3, x4, x5, x6, x7, x8⟩, a2⟩ := HB2.out.next HBW5.out
 simp only [Nat.zero_add] at x0 x1 x2 x3 x4 x5 x6 x7 x8
 clear a1 a2
 go_wp2_with fail
 have hsh := Z12 u r W5 (HR.out.next HBW5.out) (HG.out.next HBW5.out) (HW.out.next HBW5.out) (HU.out.next HBW5.out) HTB.out HC2.out
 have hSu : St = text u := by rw [HST.out]; exact Z7p (Z7k HTU.out)
 rw [<- hSu] at hsh
 have HSH := Y1 hsh
 clear hSu hsh
 refine HSH.out.mono ?_
 rintro e W6 ⟨rfl, hb6⟩
 have HBW6 := Y1 (Z00 HBW5.out hb6)
 clear hb6 HSH x0 x1 x2 x3 x4 x5 x6 x7 x8
 obtain ⟨a1, ⟨x0, x1, x2, x3, x4, x5, x6, x7, x8⟩, a2⟩ := HB1.out.next HBW6.out
 obtain ⟨a3, ⟨z0, z1, z2, z3, z4, z5, z6, z7, z8⟩, a4⟩ := HB2.out.next HBW6.out
 simp only [Nat.zero_add] at x0 x1 x2 x3 x4 x5 x6 x7 x8 z0 z1 z2 z3 z4 z5 z6 z7 z8
 clear a1 a2 a3 a4
 have ht := two8 W6 t u q r (HQ.out.next HBW6.out) (HR.out.next HBW6.out)
 have HTW := Y1 (Z00 HBW6.out (Z02 W6 (.cells #[.int .i64 t.kind, .string ⟨t.of_.toArray⟩, .string ⟨t.name.toArray⟩, .int .i64 t.n, .slice q.A t.names.length q.c, .slice q.V t.vars.length q.e, .slice q.S t.shapes.length q.s, .slice q.P t.parts.length q.d, .int .i64 t.at_, .int .i64 u.kind, .string ⟨u.of_.toArray⟩, .string ⟨u.name.toArray⟩, .int .i64 u.n, .slice r.A u.names.length r.c, .slice r.V u.vars.length r.e, .slice r.S u.shapes.length r.s, .slice r.P u.parts.length r.d, .int .i64 u.at_] 26)))
 have hsm := Z0g (some ⟨W6.heap.size, 0, none⟩) 2 [t, u] (Z0m W6 t u q r) ht (by simp) (Z0w (Z09 HTA.out) (Z09 HTB.out)) (HW.out.next HTW.out) (HU.out.next HTW.out)
 rw [HTU.out] at hsm
 have HSM := Y1 hsm
 clear ht hsm
 go_wp2_with fail
 refine HSM.out.mono ?_
 rintro e W7 ⟨rfl, hb7⟩
 have HBW7 := Y1 (Z00 HTW.out hb7)
 clear hb7 HSM HTW x0 x1 x2 x3 x4 x5 x6 x7 x8 z0 z1 z2 z3 z4 z5 z6 z7 z8
 go_wp2_with fail
 refine (Z0J W7 (HG.out.next HBW7.out) (HW.out.next HBW7.out) (HU.out.next HBW7.out)).mono ?_
 rintro e W8 ⟨rfl, hb8⟩
 have HBW8 := Y1 (Z00 HBW7.out hb8)
 clear hb8
 go_wp2
 go_ret
 exact ⟨rfl, Z00 HB0.out HBW8.out⟩
theorem Zdt (t u v : Tm) (q r s : TP) (w : World) (hq : TmAt w w.heap.size q t) (hr : TmAt w w.heap.size r u) (hs : TmAt w w.heap.size s v) (tt : tame t = true) (tu : tame u = true) (tv : tame v = true) (hG : Globs w) (hg : WGlobs w) (hu : Z0l w) (h1 : Tms.check t = 0) (h2 : Tms.check u = 0) (h3 : Tms.check v = 0) (h5 : same [t, u] = true) (h6 : same [u, v] = true) :
 Y9 6 #[.agg (Y7 t q), .agg (Y7 u r), .agg (Y7 v s)] w (.bool true) := by
 have HC1 := Y1 h1
 have HC2 := Y1 h2
 have HC3 := Y1 h3
 have HTT : Hid (same [t, t] = true) := Y1 (Z4F h1)
 have HTU : Hid (same [t, u] = true) := Y1 h5
 have HUT : Hid (same [u, t] = true) := Y1 (by rw [Z3t]; exact h5)
 have HUV : Hid (same [u, v] = true) := Y1 h6
 have HTV : Hid (same [t, v] = true) := Y1 (Z46 h5 h6)
 have HTUV : Hid (same [t, u, v] = true) := Y1 (by rw [Z2o, h5, Z46 h5 h6]; rfl)
 have et : (Tms.check t != 0) = false := by simpa using h1
 have eu : (Tms.check u != 0) = false := by simpa using h2
 have ev : (Tms.check v != 0) = false := by simpa using h3
 clear h1 h2 h3 h5 h6
 have HB1 : Hid (Box9 (((w.alloc (.cells (Y7 t q) 26)).alloc (.cells (Y7 u r) 26)).alloc (.cells (Y7 v s) 26)) w.heap.size t q) := Y1 (((Z07 w t q).next (Z02 _ _)).next (Z02 _ _))
 have HB2 : Hid (Box9 (((w.alloc (.cells (Y7 t q) 26)).alloc (.cells (Y7 u r) 26)).alloc (.cells (Y7 v s) 26)) (w.heap.size + 1) u r) := by
  have h := Z07 (w.alloc (.cells (Y7 t q) 26)) u r
  have e : (w.alloc (.cells (Y7 t q) 26)).heap.size = w.heap.size + 1 := by simp
  rw [e] at h
  exact Y1 (h.next (Z02 _ _))
 have HB3 : Hid (Box9 (((w.alloc (.cells (Y7 t q) 26)).alloc (.cells (Y7 u r) 26)).alloc (.cells (Y7 v s) 26)) (w.heap.size + 1 + 1) v s) := by
  have h := Z07 ((w.alloc (.cells (Y7 t q) 26)).alloc (.cells (Y7 u r) 26)) v s
  have e : ((w.alloc (.cells (Y7 t q) 26)).alloc (.cells (Y7 u r) 26)).heap.size = w.heap.size + 1 + 1 := by simp
  rw [e] at h
  exact Y1 h
 have hb0 : Below w.heap.size w (((w.alloc (.cells (Y7 t q) 26)).alloc (.cells (Y7 u r) 26)).alloc (.cells (Y7 v s) 26)) := Z08 (Z08 (Z02 _ _) _) _
 have HQ := Y1 (hq.next hb0)
 have HR := Y1 (hr.next hb0)
 have HS := Y1 (hs.next hb0)
 have HG := Y1 (hG.next hb0)
 have HW := Y1 (hg.next hb0)
 have HU := Y1 (hu.next hb0)
 have HTA := Y1 tt
 have HTB := Y1 tu
 have HTC := Y1 tv
 have HB0 := Y1 hb0
 obtain ⟨a1, ⟨c0, c1, c2, c3, c4, c5, c6, c7, c8⟩, a2⟩ := HB1.out
 simp only [Nat.zero_add] at c0 c1 c2 c3 c4 c5 c6 c7 c8
 clear hq hr hs hG hg hu tt tu tv hb0 a1 a2
 go_enter Tryz.func6, Tryz.ntmps6
 go_wp2_with fail
 generalize ((w.alloc (.cells (Y7 t q) 26)).alloc (.cells (Y7 u r) 26)).alloc (.cells (Y7 v s) 26) = W0 at HB1 HB2 HB3 HQ HR HS HG HW HU HB0 c0 c1 c2 c3 c4 c5 c6 c7 c8 ⊢
 refine (Z0j t q W0 (HQ.out) (HW.out) (HU.out) (Z09 HTA.out)).mono ?_
 rintro e W1 ⟨rfl, hb⟩
 have HBW1 := Y1 hb
 clear hb c0 c1 c2 c3 c4 c5 c6 c7 c8
 obtain ⟨a1, ⟨x0, x1, x2, x3, x4, x5, x6, x7, x8⟩, a2⟩ := HB2.out.next HBW1.out
 simp only [Nat.zero_add] at x0 x1 x2 x3 x4 x5 x6 x7 x8
 clear a1 a2
 go_wp2_with fail
 refine (Z0j u r W1 (HR.out.next HBW1.out) (HW.out.next HBW1.out) (HU.out.next HBW1.out) (Z09 HTB.out)).mono ?_
 rintro e W2 ⟨rfl, hb⟩
 have HBW2 := Y1 (Z00 HBW1.out hb)
 clear hb x0 x1 x2 x3 x4 x5 x6 x7 x8
 obtain ⟨a1, ⟨x0, x1, x2, x3, x4, x5, x6, x7, x8⟩, a2⟩ := HB3.out.next HBW2.out
 simp only [Nat.zero_add] at x0 x1 x2 x3 x4 x5 x6 x7 x8
 clear a1 a2
 go_wp2_with fail
 refine (Z0j v s W2 (HS.out.next HBW2.out) (HW.out.next HBW2.out) (HU.out.next HBW2.out) (Z09 HTC.out)).mono ?_
 rintro e W3 ⟨rfl, hb⟩
 have HBW3 := Y1 (Z00 HBW2.out hb)
 clear hb x0 x1 x2 x3 x4 x5 x6 x7 x8
 go_wp2_with fail
 refine Z0p (rs := [0, 1, 2, 3, 4, 5, 6, 7, 8, 9, 10, 11, 12, 13, 14, 15, 16, 17, 18, 19, 20, 21, 22, 23, 24, 25, 26, 27, 28, 29, 30, 31, 32, 33, 34, 35, 36, 37, 38, 39, 40, 41, 42, 43, 44, 45, 46, 47, 48, 49, 50, 51, 52])
  (fun u' => { tmps := #[.agg (Y7 t q), .agg (Y7 u r), .agg (Y7 v s), .pointer (some { block := w.heap.size, off := 0 }), .pointer (some { block := w.heap.size + 1, off := 0 }), .pointer (some { block := w.heap.size + 1 + 1, off := 0 }), .bool false, undef, undef, undef, undef, .agg (Y7 t q), .int .i64 (check t), .bool false, .bool false, .agg (Y7 u r), .int .i64 (check u), .bool false, .bool false, .bool false, .agg (Y7 v s), .int .i64 (check v), .bool false, .bool false, undef, u' 0, u' 1, u' 2, u' 3, u' 4, u' 5, u' 6, u' 7, u' 8, u' 9, u' 10, u' 11, u' 12, u' 13, u' 14, u' 15, u' 16, u' 17, u' 18, u' 19, u' 20, u' 21, u' 22, u' 23, u' 24, u' 25, u' 26, u' 27, u' 28, u' 29, u' 30, u' 31, u' 32, u' 33, u' 34, u' 35, u' 36, u' 37, u' 38, u' 39, u' 40, u' 41, u' 42, u' 43, u' 44, u' 45, u' 46, u' 47, u' 48, u' 49, u' 50, u' 51, u' 52, undef, undef, undef, undef, undef, undef, undef, undef, undef, undef, undef, undef, undef, undef, undef, undef, undef, undef, undef, undef, undef, undef, undef], defers := [] })
  (fun j => ([undef, undef, undef, undef, undef, undef, undef, undef, undef, undef, undef, undef, undef, undef, undef, undef, undef, undef, undef, undef, undef, undef, undef, undef, undef, undef, undef, undef, undef, undef, undef, undef, undef, undef, undef, undef, undef, undef, undef, undef, undef, undef, undef, undef, undef, undef, undef, undef, undef, undef, undef, undef, undef] : List Value).getD j undef) (Zhd t u v q r s) (fun W => Below W3.heap.size W3 W) (by kernel_rfl) (by kernel_rfl) (by kernel_rfl) Y2.drew ?_ ?_
 refine StepsAt.cons _ rfl (fun u' W K' hJ hd hK => ?_) ?_
 {obtain ⟨_, ⟨y0, y1, y2, y3, y4, y5, y6, y7, y8⟩, _⟩ := HB1.out.next (Z00 HBW3.out hJ)
  simp only [Nat.zero_add] at y0 y1 y2 y3 y4 y5 y6 y7 y8
  refine Y0 hK hJ rfl rfl rfl ?_
  try dsimp only
  go_simp}
 refine StepsAt.cons _ rfl (fun u' W K' hJ hd hK => ?_) ?_
 {obtain ⟨_, ⟨y0, y1, y2, y3, y4, y5, y6, y7, y8⟩, _⟩ := HB1.out.next (Z00 HBW3.out hJ)
  simp only [Nat.zero_add] at y0 y1 y2 y3 y4 y5 y6 y7 y8
  refine Y0 hK hJ rfl rfl rfl ?_
  try dsimp only
  go_simp}
 refine StepsAt.cons _ rfl (fun u' W K' hJ hd hK => ?_) ?_
 {have d0 : _ = _ := hd 0 (by kernel_rfl)
  have d1 : _ = _ := hd 1 (by kernel_rfl)
  have hb := Z02 W (.cells #[.int .i64 t.kind, .string ⟨t.of_.toArray⟩, .string ⟨t.name.toArray⟩, .int .i64 t.n, .slice q.A t.names.length q.c, .slice q.V t.vars.length q.e, .slice q.S t.shapes.length q.s, .slice q.P t.parts.length q.d, .int .i64 t.at_, .int .i64 t.kind, .string ⟨t.of_.toArray⟩, .string ⟨t.name.toArray⟩, .int .i64 t.n, .slice q.A t.names.length q.c, .slice q.V t.vars.length q.e, .slice q.S t.shapes.length q.s, .slice q.P t.parts.length q.d, .int .i64 t.at_] 26)
  have ht := two8 W t t q q (HQ.out.next (Z00 HBW3.out hJ)) (HQ.out.next (Z00 HBW3.out hJ))
  refine Z01 (v := .slice (some ⟨W.heap.size, 0, none⟩) 2 2) (W' := Z0m W t t q q) rfl ?_ (hK.out _ _ ⟨_, rfl, ht⟩ (Z00 hJ hb) hb)
  unfold Z0m
  try dsimp only
  go_simp}
 refine StepsAt.cons _ rfl (fun u' W K' hJ hd hK => ?_) ?_
 {obtain ⟨g, d2, h2⟩ := hd 2 (by kernel_rfl)
  have hw := Z0g (some ⟨g, 0, none⟩) 2 [t, t] W h2 (by simp) (Z0w (Z09 HTA.out) (Z09 HTA.out)) (HW.out.next (Z00 HBW3.out hJ)) (HU.out.next (Z00 HBW3.out hJ))
  rw [HTT.out] at hw
  refine Z05 (f := 13) (args := #[.slice (some ⟨g, 0, none⟩) 2 2]) (W' := W) rfl ?_ (hw.mono fun e w' h => ⟨_, h.1, hK.out _ _ rfl (Z00 hJ h.2) h.2⟩)
  try dsimp only
  go_simp}
 refine StepsAt.cons _ rfl (fun u' W K' hJ hd hK => ?_) ?_
 {have d3 : _ = _ := hd 3 (by kernel_rfl)
  refine Y0 hK hJ rfl rfl rfl ?_
  try dsimp only
  go_simp}
 refine StepsAt.cons _ rfl (fun u' W K' hJ hd hK => ?_) ?_
 {have d4 : _ = _ := hd 4 (by kernel_rfl)
  refine Y0 hK hJ rfl rfl rfl ?_
  try dsimp only
  go_simp}
 refine StepsAt.cons _ rfl (fun u' W K' hJ hd hK => ?_) ?_
 {have dg : _ = _ := hd 5 (by kernel_rfl)
  obtain ⟨_, ⟨y0, y1, y2, y3, y4, y5, y6, y7, y8⟩, _⟩ := HB1.out.next (Z00 HBW3.out hJ)
  simp only [Nat.zero_add] at y0 y1 y2 y3 y4 y5 y6 y7 y8
  refine Y0 hK hJ rfl rfl ?_ ?_
  {simp [Region.wanted, yielded, dg]}
  {try dsimp only
   go_simp}}
 refine StepsAt.cons _ rfl (fun u' W K' hJ hd hK => ?_) ?_
 {have dg : _ = _ := hd 5 (by kernel_rfl)
  obtain ⟨_, ⟨y0, y1, y2, y3, y4, y5, y6, y7, y8⟩, _⟩ := HB2.out.next (Z00 HBW3.out hJ)
  simp only [Nat.zero_add] at y0 y1 y2 y3 y4 y5 y6 y7 y8
  refine Y0 hK hJ rfl rfl ?_ ?_
  {simp [Region.wanted, yielded, dg]}
  {try dsimp only
   go_simp}}
 refine StepsAt.cons _ rfl (fun u' W K' hJ hd hK => ?_) ?_
 {have dg : _ = _ := hd 5 (by kernel_rfl)
  have d6 : _ = _ := hd 6 (by kernel_rfl)
  have d7 : _ = _ := hd 7 (by kernel_rfl)
  have hb := Z02 W (.cells #[.int .i64 t.kind, .string ⟨t.of_.toArray⟩, .string ⟨t.name.toArray⟩, .int .i64 t.n, .slice q.A t.names.length q.c, .slice q.V t.vars.length q.e, .slice q.S t.shapes.length q.s, .slice q.P t.parts.length q.d, .int .i64 t.at_, .int .i64 u.kind, .string ⟨u.of_.toArray⟩, .string ⟨u.name.toArray⟩, .int .i64 u.n, .slice r.A u.names.length r.c, .slice r.V u.vars.length r.e, .slice r.S u.shapes.length r.s, .slice r.P u.parts.length r.d, .int .i64 u.at_] 26)
  have ht := two8 W t u q r (HQ.out.next (Z00 HBW3.out hJ)) (HR.out.next (Z00 HBW3.out hJ))
  refine Z01 (v := .slice (some ⟨W.heap.size, 0, none⟩) 2 2) (W' := Z0m W t u q r) ?_ ?_ (hK.out _ _ ⟨_, rfl, ht⟩ (Z00 hJ hb) hb)
  {simp [Region.wanted, yielded, dg]}
  {unfold Z0m
   try dsimp only
   go_simp}}
 refine StepsAt.cons _ rfl (fun u' W K' hJ hd hK => ?_) ?_
 {have dg : _ = _ := hd 5 (by kernel_rfl)
  obtain ⟨g, d8, h8⟩ := hd 8 (by kernel_rfl)
  have hw := Z0g (some ⟨g, 0, none⟩) 2 [t, u] W h8 (by simp) (Z0w (Z09 HTA.out) (Z09 HTB.out)) (HW.out.next (Z00 HBW3.out hJ)) (HU.out.next (Z00 HBW3.out hJ))
  rw [HTU.out] at hw
  refine Z05 (f := 13) (args := #[.slice (some ⟨g, 0, none⟩) 2 2]) (W' := W) ?_ ?_ (hw.mono fun e w' h => ⟨_, h.1, hK.out _ _ rfl (Z00 hJ h.2) h.2⟩)
  {simp [Region.wanted, yielded, dg]}
  {try dsimp only
   go_simp}}
 refine StepsAt.cons _ rfl (fun u' W K' hJ hd hK => ?_) ?_
 {have dg : _ = _ := hd 5 (by kernel_rfl)
  obtain ⟨_, ⟨y0, y1, y2, y3, y4, y5, y6, y7, y8⟩, _⟩ := HB2.out.next (Z00 HBW3.out hJ)
  simp only [Nat.zero_add] at y0 y1 y2 y3 y4 y5 y6 y7 y8
  refine Y0 hK hJ rfl rfl ?_ ?_
  {simp [Region.wanted, yielded, dg]}
  {try dsimp only
   go_simp}}
 refine StepsAt.cons _ rfl (fun u' W K' hJ hd hK => ?_) ?_
 {have dg : _ = _ := hd 5 (by kernel_rfl)
  obtain ⟨_, ⟨y0, y1, y2, y3, y4, y5, y6, y7, y8⟩, _⟩ := HB1.out.next (Z00 HBW3.out hJ)
  simp only [Nat.zero_add] at y0 y1 y2 y3 y4 y5 y6 y7 y8
  refine Y0 hK hJ rfl rfl ?_ ?_
  {simp [Region.wanted, yielded, dg]}
  {try dsimp only
   go_simp}}
 refine StepsAt.cons _ rfl (fun u' W K' hJ hd hK => ?_) ?_
 {have dg : _ = _ := hd 5 (by kernel_rfl)
  have d10 : _ = _ := hd 10 (by kernel_rfl)
  have d11 : _ = _ := hd 11 (by kernel_rfl)
  have hb := Z02 W (.cells #[.int .i64 u.kind, .string ⟨u.of_.toArray⟩, .string ⟨u.name.toArray⟩, .int .i64 u.n, .slice r.A u.names.length r.c, .slice r.V u.vars.length r.e, .slice r.S u.shapes.length r.s, .slice r.P u.parts.length r.d, .int .i64 u.at_, .int .i64 t.kind, .string ⟨t.of_.toArray⟩, .string ⟨t.name.toArray⟩, .int .i64 t.n, .slice q.A t.names.length q.c, .slice q.V t.vars.length q.e, .slice q.S t.shapes.length q.s, .slice q.P t.parts.length q.d, .int .i64 t.at_] 26)
  have ht := two8 W u t r q (HR.out.next (Z00 HBW3.out hJ)) (HQ.out.next (Z00 HBW3.out hJ))
  refine Z01 (v := .slice (some ⟨W.heap.size, 0, none⟩) 2 2) (W' := Z0m W u t r q) ?_ ?_ (hK.out _ _ ⟨_, rfl, ht⟩ (Z00 hJ hb) hb)
  {simp [Region.wanted, yielded, dg]}
  {unfold Z0m
   try dsimp only
   go_simp}}
 refine StepsAt.cons _ rfl (fun u' W K' hJ hd hK => ?_) ?_
 {have dg : _ = _ := hd 5 (by kernel_rfl)
  obtain ⟨g, d12, h12⟩ := hd 12 (by kernel_rfl)
  have hw := Z0g (some ⟨g, 0, none⟩) 2 [u, t] W h12 (by simp) (Z0w (Z09 HTB.out) (Z09 HTA.out)) (HW.out.next (Z00 HBW3.out hJ)) (HU.out.next (Z00 HBW3.out hJ))
  rw [HUT.out] at hw
  refine Z05 (f := 13) (args := #[.slice (some ⟨g, 0, none⟩) 2 2]) (W' := W) ?_ ?_ (hw.mono fun e w' h => ⟨_, h.1, hK.out _ _ rfl (Z00 hJ h.2) h.2⟩)
  {simp [Region.wanted, yielded, dg]}
  {try dsimp only
   go_simp}}
 refine StepsAt.cons _ rfl (fun u' W K' hJ hd hK => ?_) ?_
 {have dg : _ = _ := hd 5 (by kernel_rfl)
  have d9 : _ = _ := hd 9 (by kernel_rfl)
  have d13 : _ = _ := hd 13 (by kernel_rfl)
  refine Y0 hK hJ rfl rfl ?_ ?_
  {simp [Region.wanted, yielded, dg]}
  {try dsimp only
   go_simp}}
 refine StepsAt.cons _ rfl (fun u' W K' hJ hd hK => ?_) ?_
 {have d5 : _ = _ := hd 5 (by kernel_rfl)
  have d14 : _ = _ := hd 14 (by kernel_rfl)
  refine Y0 hK hJ rfl rfl rfl ?_
  try dsimp only
  go_simp}
 refine StepsAt.cons _ rfl (fun u' W K' hJ hd hK => ?_) ?_
 {have d15 : _ = _ := hd 15 (by kernel_rfl)
  refine Y0 hK hJ rfl rfl rfl ?_
  try dsimp only
  go_simp}
 refine StepsAt.cons _ rfl (fun u' W K' hJ hd hK => ?_) ?_
 {have dg : _ = _ := hd 16 (by kernel_rfl)
  obtain ⟨_, ⟨y0, y1, y2, y3, y4, y5, y6, y7, y8⟩, _⟩ := HB1.out.next (Z00 HBW3.out hJ)
  simp only [Nat.zero_add] at y0 y1 y2 y3 y4 y5 y6 y7 y8
  refine Y0 hK hJ rfl rfl ?_ ?_
  {simp [Region.wanted, yielded, dg]}
  {try dsimp only
   go_simp}}
 refine StepsAt.cons _ rfl (fun u' W K' hJ hd hK => ?_) ?_
 {have dg : _ = _ := hd 16 (by kernel_rfl)
  obtain ⟨_, ⟨y0, y1, y2, y3, y4, y5, y6, y7, y8⟩, _⟩ := HB2.out.next (Z00 HBW3.out hJ)
  simp only [Nat.zero_add] at y0 y1 y2 y3 y4 y5 y6 y7 y8
  refine Y0 hK hJ rfl rfl ?_ ?_
  {simp [Region.wanted, yielded, dg]}
  {try dsimp only
   go_simp}}
 refine StepsAt.cons _ rfl (fun u' W K' hJ hd hK => ?_) ?_
 {have dg : _ = _ := hd 16 (by kernel_rfl)
  have d17 : _ = _ := hd 17 (by kernel_rfl)
  have d18 : _ = _ := hd 18 (by kernel_rfl)
  have hb := Z02 W (.cells #[.int .i64 t.kind, .string ⟨t.of_.toArray⟩, .string ⟨t.name.toArray⟩, .int .i64 t.n, .slice q.A t.names.length q.c, .slice q.V t.vars.length q.e, .slice q.S t.shapes.length q.s, .slice q.P t.parts.length q.d, .int .i64 t.at_, .int .i64 u.kind, .string ⟨u.of_.toArray⟩, .string ⟨u.name.toArray⟩, .int .i64 u.n, .slice r.A u.names.length r.c, .slice r.V u.vars.length r.e, .slice r.S u.shapes.length r.s, .slice r.P u.parts.length r.d, .int .i64 u.at_] 26)
  have ht := two8 W t u q r (HQ.out.next (Z00 HBW3.out hJ)) (HR.out.next (Z00 HBW3.out hJ))
  refine Z01 (v := .slice (some ⟨W.heap.size, 0, none⟩) 2 2) (W' := Z0m W t u q r) ?_ ?_ (hK.out _ _ ⟨_, rfl, ht⟩ (Z00 hJ hb) hb)
  {simp [Region.wanted, yielded, dg]}
  {unfold Z0m
   try dsimp only
   go_simp}}
 refine StepsAt.cons _ rfl (fun u' W K' hJ hd hK => ?_) ?_
 {have dg : _ = _ := hd 16 (by kernel_rfl)
  obtain ⟨g, d19, h19⟩ := hd 19 (by kernel_rfl)
  have hw := Z0g (some ⟨g, 0, none⟩) 2 [t, u] W h19 (by simp) (Z0w (Z09 HTA.out) (Z09 HTB.out)) (HW.out.next (Z00 HBW3.out hJ)) (HU.out.next (Z00 HBW3.out hJ))
  rw [HTU.out] at hw
  refine Z05 (f := 13) (args := #[.slice (some ⟨g, 0, none⟩) 2 2]) (W' := W) ?_ ?_ (hw.mono fun e w' h => ⟨_, h.1, hK.out _ _ rfl (Z00 hJ h.2) h.2⟩)
  {simp [Region.wanted, yielded, dg]}
  {try dsimp only
   go_simp}}
 refine StepsAt.cons _ rfl (fun u' W K' hJ hd hK => ?_) ?_
 {have dg : _ = _ := hd 16 (by kernel_rfl)
  have d20 : _ = _ := hd 20 (by kernel_rfl)
  refine Y0 hK hJ rfl rfl ?_ ?_
  {simp [Region.wanted, yielded, dg]}
  {try dsimp only
   go_simp}}
 refine StepsAt.cons _ rfl (fun u' W K' hJ hd hK => ?_) ?_
 {have dg : _ = _ := hd 21 (by kernel_rfl)
  obtain ⟨_, ⟨y0, y1, y2, y3, y4, y5, y6, y7, y8⟩, _⟩ := HB2.out.next (Z00 HBW3.out hJ)
  simp only [Nat.zero_add] at y0 y1 y2 y3 y4 y5 y6 y7 y8
  refine Y0 hK hJ rfl rfl ?_ ?_
  {simp [Region.wanted, yielded, dg]}
  {try dsimp only
   go_simp}}
 refine StepsAt.cons _ rfl (fun u' W K' hJ hd hK => ?_) ?_
 {have dg : _ = _ := hd 21 (by kernel_rfl)
  obtain ⟨_, ⟨y0, y1, y2, y3, y4, y5, y6, y7, y8⟩, _⟩ := HB3.out.next (Z00 HBW3.out hJ)
  simp only [Nat.zero_add] at y0 y1 y2 y3 y4 y5 y6 y7 y8
  refine Y0 hK hJ rfl rfl ?_ ?_
  {simp [Region.wanted, yielded, dg]}
  {try dsimp only
   go_simp}}
 refine StepsAt.cons _ rfl (fun u' W K' hJ hd hK => ?_) ?_
 {have dg : _ = _ := hd 21 (by kernel_rfl)
  have d22 : _ = _ := hd 22 (by kernel_rfl)
  have d23 : _ = _ := hd 23 (by kernel_rfl)
  have hb := Z02 W (.cells #[.int .i64 u.kind, .string ⟨u.of_.toArray⟩, .string ⟨u.name.toArray⟩, .int .i64 u.n, .slice r.A u.names.length r.c, .slice r.V u.vars.length r.e, .slice r.S u.shapes.length r.s, .slice r.P u.parts.length r.d, .int .i64 u.at_, .int .i64 v.kind, .string ⟨v.of_.toArray⟩, .string ⟨v.name.toArray⟩, .int .i64 v.n, .slice s.A v.names.length s.c, .slice s.V v.vars.length s.e, .slice s.S v.shapes.length s.s, .slice s.P v.parts.length s.d, .int .i64 v.at_] 26)
  have ht := two8 W u v r s (HR.out.next (Z00 HBW3.out hJ)) (HS.out.next (Z00 HBW3.out hJ))
  refine Z01 (v := .slice (some ⟨W.heap.size, 0, none⟩) 2 2) (W' := Z0m W u v r s) ?_ ?_ (hK.out _ _ ⟨_, rfl, ht⟩ (Z00 hJ hb) hb)
  {simp [Region.wanted, yielded, dg]}
  {unfold Z0m
   try dsimp only
   go_simp}}
 refine StepsAt.cons _ rfl (fun u' W K' hJ hd hK => ?_) ?_
 {have dg : _ = _ := hd 21 (by kernel_rfl)
  obtain ⟨g, d24, h24⟩ := hd 24 (by kernel_rfl)
  have hw := Z0g (some ⟨g, 0, none⟩) 2 [u, v] W h24 (by simp) (Z0w (Z09 HTB.out) (Z09 HTC.out)) (HW.out.next (Z00 HBW3.out hJ)) (HU.out.next (Z00 HBW3.out hJ))
  rw [HUV.out] at hw
  refine Z05 (f := 13) (args := #[.slice (some ⟨g, 0, none⟩) 2 2]) (W' := W) ?_ ?_ (hw.mono fun e w' h => ⟨_, h.1, hK.out _ _ rfl (Z00 hJ h.2) h.2⟩)
  {simp [Region.wanted, yielded, dg]}
  {try dsimp only
   go_simp}}
 refine StepsAt.cons _ rfl (fun u' W K' hJ hd hK => ?_) ?_
 {have dg : _ = _ := hd 16 (by kernel_rfl)
  have d21 : _ = _ := hd 21 (by kernel_rfl)
  have d25 : _ = _ := hd 25 (by kernel_rfl)
  refine Y0 hK hJ rfl rfl ?_ ?_
  {simp [Region.wanted, yielded, dg]}
  {try dsimp only
   go_simp}}
 refine StepsAt.cons _ rfl (fun u' W K' hJ hd hK => ?_) ?_
 {have dg : _ = _ := hd 16 (by kernel_rfl)
  have d26 : _ = _ := hd 26 (by kernel_rfl)
  refine Y0 hK hJ rfl rfl ?_ ?_
  {simp [Region.wanted, yielded, dg]}
  {try dsimp only
   go_simp}}
 refine StepsAt.cons _ rfl (fun u' W K' hJ hd hK => ?_) ?_
 {have dg : _ = _ := hd 27 (by kernel_rfl)
  obtain ⟨_, ⟨y0, y1, y2, y3, y4, y5, y6, y7, y8⟩, _⟩ := HB1.out.next (Z00 HBW3.out hJ)
  simp only [Nat.zero_add] at y0 y1 y2 y3 y4 y5 y6 y7 y8
  refine Y0 hK hJ rfl rfl ?_ ?_
  {simp [Region.wanted, yielded, dg]}
  {try dsimp only
   go_simp}}
 refine StepsAt.cons _ rfl (fun u' W K' hJ hd hK => ?_) ?_
 {have dg : _ = _ := hd 27 (by kernel_rfl)
  obtain ⟨_, ⟨y0, y1, y2, y3, y4, y5, y6, y7, y8⟩, _⟩ := HB3.out.next (Z00 HBW3.out hJ)
  simp only [Nat.zero_add] at y0 y1 y2 y3 y4 y5 y6 y7 y8
  refine Y0 hK hJ rfl rfl ?_ ?_
  {simp [Region.wanted, yielded, dg]}
  {try dsimp only
   go_simp}}
 refine StepsAt.cons _ rfl (fun u' W K' hJ hd hK => ?_) ?_
 {have dg : _ = _ := hd 27 (by kernel_rfl)
  have d28 : _ = _ := hd 28 (by kernel_rfl)
  have d29 : _ = _ := hd 29 (by kernel_rfl)
  have hb := Z02 W (.cells #[.int .i64 t.kind, .string ⟨t.of_.toArray⟩, .string ⟨t.name.toArray⟩, .int .i64 t.n, .slice q.A t.names.length q.c, .slice q.V t.vars.length q.e, .slice q.S t.shapes.length q.s, .slice q.P t.parts.length q.d, .int .i64 t.at_, .int .i64 v.kind, .string ⟨v.of_.toArray⟩, .string ⟨v.name.toArray⟩, .int .i64 v.n, .slice s.A v.names.length s.c, .slice s.V v.vars.length s.e, .slice s.S v.shapes.length s.s, .slice s.P v.parts.length s.d, .int .i64 v.at_] 26)
  have ht := two8 W t v q s (HQ.out.next (Z00 HBW3.out hJ)) (HS.out.next (Z00 HBW3.out hJ))
  refine Z01 (v := .slice (some ⟨W.heap.size, 0, none⟩) 2 2) (W' := Z0m W t v q s) ?_ ?_ (hK.out _ _ ⟨_, rfl, ht⟩ (Z00 hJ hb) hb)
  {simp [Region.wanted, yielded, dg]}
  {unfold Z0m
   try dsimp only
   go_simp}}
 refine StepsAt.cons _ rfl (fun u' W K' hJ hd hK => ?_) ?_
 {have dg : _ = _ := hd 27 (by kernel_rfl)
  obtain ⟨g, d30, h30⟩ := hd 30 (by kernel_rfl)
  have hw := Z0g (some ⟨g, 0, none⟩) 2 [t, v] W h30 (by simp) (Z0w (Z09 HTA.out) (Z09 HTC.out)) (HW.out.next (Z00 HBW3.out hJ)) (HU.out.next (Z00 HBW3.out hJ))
  rw [HTV.out] at hw
  refine Z05 (f := 13) (args := #[.slice (some ⟨g, 0, none⟩) 2 2]) (W' := W) ?_ ?_ (hw.mono fun e w' h => ⟨_, h.1, hK.out _ _ rfl (Z00 hJ h.2) h.2⟩)
  {simp [Region.wanted, yielded, dg]}
  {try dsimp only
   go_simp}}
 refine StepsAt.cons _ rfl (fun u' W K' hJ hd hK => ?_) ?_
 {have dg : _ = _ := hd 27 (by kernel_rfl)
  have d31 : _ = _ := hd 31 (by kernel_rfl)
  refine Y0 hK hJ rfl rfl ?_ ?_
  {simp [Region.wanted, yielded, dg]}
  {try dsimp only
   go_simp}}
 refine StepsAt.cons _ rfl (fun u' W K' hJ hd hK => ?_) ?_
 {have dg : _ = _ := hd 16 (by kernel_rfl)
  have d27 : _ = _ := hd 27 (by kernel_rfl)
  have d32 : _ = _ := hd 32 (by kernel_rfl)
  refine Y0 hK hJ rfl rfl ?_ ?_
  {simp [Region.wanted, yielded, dg]}
  {try dsimp only
   go_simp}}
 refine StepsAt.cons _ rfl (fun u' W K' hJ hd hK => ?_) ?_
 {have d16 : _ = _ := hd 16 (by kernel_rfl)
  have d33 : _ = _ := hd 33 (by kernel_rfl)
  refine Y0 hK hJ rfl rfl rfl ?_
  try dsimp only
  go_simp}
 refine StepsAt.cons _ rfl (fun u' W K' hJ hd hK => ?_) ?_
 {have d34 : _ = _ := hd 34 (by kernel_rfl)
  refine Y0 hK hJ rfl rfl rfl ?_
  try dsimp only
  go_simp}
 refine StepsAt.cons _ rfl (fun u' W K' hJ hd hK => ?_) ?_
 {have dg : _ = _ := hd 35 (by kernel_rfl)
  obtain ⟨_, ⟨y0, y1, y2, y3, y4, y5, y6, y7, y8⟩, _⟩ := HB1.out.next (Z00 HBW3.out hJ)
  simp only [Nat.zero_add] at y0 y1 y2 y3 y4 y5 y6 y7 y8
  refine Y0 hK hJ rfl rfl ?_ ?_
  {simp [Region.wanted, yielded, dg]}
  {try dsimp only
   go_simp}}
 refine StepsAt.cons _ rfl (fun u' W K' hJ hd hK => ?_) ?_
 {have dg : _ = _ := hd 35 (by kernel_rfl)
  obtain ⟨_, ⟨y0, y1, y2, y3, y4, y5, y6, y7, y8⟩, _⟩ := HB2.out.next (Z00 HBW3.out hJ)
  simp only [Nat.zero_add] at y0 y1 y2 y3 y4 y5 y6 y7 y8
  refine Y0 hK hJ rfl rfl ?_ ?_
  {simp [Region.wanted, yielded, dg]}
  {try dsimp only
   go_simp}}
 refine StepsAt.cons _ rfl (fun u' W K' hJ hd hK => ?_) ?_
 {have dg : _ = _ := hd 35 (by kernel_rfl)
  obtain ⟨_, ⟨y0, y1, y2, y3, y4, y5, y6, y7, y8⟩, _⟩ := HB3.out.next (Z00 HBW3.out hJ)
  simp only [Nat.zero_add] at y0 y1 y2 y3 y4 y5 y6 y7 y8
  refine Y0 hK hJ rfl rfl ?_ ?_
  {simp [Region.wanted, yielded, dg]}
  {try dsimp only
   go_simp}}
 refine StepsAt.cons _ rfl (fun u' W K' hJ hd hK => ?_) ?_
 {have dg : _ = _ := hd 35 (by kernel_rfl)
  have d36 : _ = _ := hd 36 (by kernel_rfl)
  have d37 : _ = _ := hd 37 (by kernel_rfl)
  have d38 : _ = _ := hd 38 (by kernel_rfl)
  have hb := Z02 W (.cells #[.int .i64 t.kind, .string ⟨t.of_.toArray⟩, .string ⟨t.name.toArray⟩, .int .i64 t.n, .slice q.A t.names.length q.c, .slice q.V t.vars.length q.e, .slice q.S t.shapes.length q.s, .slice q.P t.parts.length q.d, .int .i64 t.at_, .int .i64 u.kind, .string ⟨u.of_.toArray⟩, .string ⟨u.name.toArray⟩, .int .i64 u.n, .slice r.A u.names.length r.c, .slice r.V u.vars.length r.e, .slice r.S u.shapes.length r.s, .slice r.P u.parts.length r.d, .int .i64 u.at_, .int .i64 v.kind, .string ⟨v.of_.toArray⟩, .string ⟨v.name.toArray⟩, .int .i64 v.n, .slice s.A v.names.length s.c, .slice s.V v.vars.length s.e, .slice s.S v.shapes.length s.s, .slice s.P v.parts.length s.d, .int .i64 v.at_] 26)
  have ht := Z6Q W t u v q r s (HQ.out.next (Z00 HBW3.out hJ)) (HR.out.next (Z00 HBW3.out hJ)) (HS.out.next (Z00 HBW3.out hJ))
  refine Z01 (v := .slice (some ⟨W.heap.size, 0, none⟩) 3 3) (W' := Z18 W t u v q r s) ?_ ?_ (hK.out _ _ ⟨_, rfl, ht⟩ (Z00 hJ hb) hb)
  {simp [Region.wanted, yielded, dg]}
  {unfold Z18
   try dsimp only
   go_simp}}
 refine StepsAt.cons _ rfl (fun u' W K' hJ hd hK => ?_) ?_
 {have dg : _ = _ := hd 35 (by kernel_rfl)
  obtain ⟨g, d39, h39⟩ := hd 39 (by kernel_rfl)
  have hw := Z0g (some ⟨g, 0, none⟩) 3 [t, u, v] W h39 (by simp) (Z33 (Z09 HTA.out) (Z09 HTB.out) (Z09 HTC.out)) (HW.out.next (Z00 HBW3.out hJ)) (HU.out.next (Z00 HBW3.out hJ))
  rw [HTUV.out] at hw
  refine Z05 (f := 13) (args := #[.slice (some ⟨g, 0, none⟩) 3 3]) (W' := W) ?_ ?_ (hw.mono fun e w' h => ⟨_, h.1, hK.out _ _ rfl (Z00 hJ h.2) h.2⟩)
  {simp [Region.wanted, yielded, dg]}
  {try dsimp only
   go_simp}}
 refine StepsAt.cons _ rfl (fun u' W K' hJ hd hK => ?_) ?_
 {have dg : _ = _ := hd 35 (by kernel_rfl)
  obtain ⟨_, ⟨y0, y1, y2, y3, y4, y5, y6, y7, y8⟩, _⟩ := HB1.out.next (Z00 HBW3.out hJ)
  simp only [Nat.zero_add] at y0 y1 y2 y3 y4 y5 y6 y7 y8
  refine Y0 hK hJ rfl rfl ?_ ?_
  {simp [Region.wanted, yielded, dg]}
  {try dsimp only
   go_simp}}
 refine StepsAt.cons _ rfl (fun u' W K' hJ hd hK => ?_) ?_
 {have dg : _ = _ := hd 35 (by kernel_rfl)
  obtain ⟨_, ⟨y0, y1, y2, y3, y4, y5, y6, y7, y8⟩, _⟩ := HB2.out.next (Z00 HBW3.out hJ)
  simp only [Nat.zero_add] at y0 y1 y2 y3 y4 y5 y6 y7 y8
  refine Y0 hK hJ rfl rfl ?_ ?_
  {simp [Region.wanted, yielded, dg]}
  {try dsimp only
   go_simp}}
 refine StepsAt.cons _ rfl (fun u' W K' hJ hd hK => ?_) ?_
 {have dg : _ = _ := hd 35 (by kernel_rfl)
  have d41 : _ = _ := hd 41 (by kernel_rfl)
  have d42 : _ = _ := hd 42 (by kernel_rfl)
  have hb := Z02 W (.cells #[.int .i64 t.kind, .string ⟨t.of_.toArray⟩, .string ⟨t.name.toArray⟩, .int .i64 t.n, .slice q.A t.names.length q.c, .slice q.V t.vars.length q.e, .slice q.S t.shapes.length q.s, .slice q.P t.parts.length q.d, .int .i64 t.at_, .int .i64 u.kind, .string ⟨u.of_.toArray⟩, .string ⟨u.name.toArray⟩, .int .i64 u.n, .slice r.A u.names.length r.c, .slice r.V u.vars.length r.e, .slice r.S u.shapes.length r.s, .slice r.P u.parts.length r.d, .int .i64 u.at_] 26)
  have ht := two8 W t u q r (HQ.out.next (Z00 HBW3.out hJ)) (HR.out.next (Z00 HBW3.out hJ))
  refine Z01 (v := .slice (some ⟨W.heap.size, 0, none⟩) 2 2) (W' := Z0m W t u q r) ?_ ?_ (hK.out _ _ ⟨_, rfl, ht⟩ (Z00 hJ hb) hb)
  {simp [Region.wanted, yielded, dg]}
  {unfold Z0m
   try dsimp only
   go_simp}}
 refine StepsAt.cons _ rfl (fun u' W K' hJ hd hK => ?_) ?_
 {have dg : _ = _ := hd 35 (by kernel_rfl)
  obtain ⟨g, d43, h43⟩ := hd 43 (by kernel_rfl)
  have hw := Z0g (some ⟨g, 0, none⟩) 2 [t, u] W h43 (by simp) (Z0w (Z09 HTA.out) (Z09 HTB.out)) (HW.out.next (Z00 HBW3.out hJ)) (HU.out.next (Z00 HBW3.out hJ))
  rw [HTU.out] at hw
  refine Z05 (f := 13) (args := #[.slice (some ⟨g, 0, none⟩) 2 2]) (W' := W) ?_ ?_ (hw.mono fun e w' h => ⟨_, h.1, hK.out _ _ rfl (Z00 hJ h.2) h.2⟩)
  {simp [Region.wanted, yielded, dg]}
  {try dsimp only
   go_simp}}
 refine StepsAt.cons _ rfl (fun u' W K' hJ hd hK => ?_) ?_
 {have dg : _ = _ := hd 35 (by kernel_rfl)
  have d44 : _ = _ := hd 44 (by kernel_rfl)
  refine Y0 hK hJ rfl rfl ?_ ?_
  {simp [Region.wanted, yielded, dg]}
  {try dsimp only
   go_simp}}
 refine StepsAt.cons _ rfl (fun u' W K' hJ hd hK => ?_) ?_
 {have dg : _ = _ := hd 45 (by kernel_rfl)
  obtain ⟨_, ⟨y0, y1, y2, y3, y4, y5, y6, y7, y8⟩, _⟩ := HB1.out.next (Z00 HBW3.out hJ)
  simp only [Nat.zero_add] at y0 y1 y2 y3 y4 y5 y6 y7 y8
  refine Y0 hK hJ rfl rfl ?_ ?_
  {simp [Region.wanted, yielded, dg]}
  {try dsimp only
   go_simp}}
 refine StepsAt.cons _ rfl (fun u' W K' hJ hd hK => ?_) ?_
 {have dg : _ = _ := hd 45 (by kernel_rfl)
  obtain ⟨_, ⟨y0, y1, y2, y3, y4, y5, y6, y7, y8⟩, _⟩ := HB3.out.next (Z00 HBW3.out hJ)
  simp only [Nat.zero_add] at y0 y1 y2 y3 y4 y5 y6 y7 y8
  refine Y0 hK hJ rfl rfl ?_ ?_
  {simp [Region.wanted, yielded, dg]}
  {try dsimp only
   go_simp}}
 refine StepsAt.cons _ rfl (fun u' W K' hJ hd hK => ?_) ?_
 {have dg : _ = _ := hd 45 (by kernel_rfl)
  have d46 : _ = _ := hd 46 (by kernel_rfl)
  have d47 : _ = _ := hd 47 (by kernel_rfl)
  have hb := Z02 W (.cells #[.int .i64 t.kind, .string ⟨t.of_.toArray⟩, .string ⟨t.name.toArray⟩, .int .i64 t.n, .slice q.A t.names.length q.c, .slice q.V t.vars.length q.e, .slice q.S t.shapes.length q.s, .slice q.P t.parts.length q.d, .int .i64 t.at_, .int .i64 v.kind, .string ⟨v.of_.toArray⟩, .string ⟨v.name.toArray⟩, .int .i64 v.n, .slice s.A v.names.length s.c, .slice s.V v.vars.length s.e, .slice s.S v.shapes.length s.s, .slice s.P v.parts.length s.d, .int .i64 v.at_] 26)
  have ht := two8 W t v q s (HQ.out.next (Z00 HBW3.out hJ)) (HS.out.next (Z00 HBW3.out hJ))
  refine Z01 (v := .slice (some ⟨W.heap.size, 0, none⟩) 2 2) (W' := Z0m W t v q s) ?_ ?_ (hK.out _ _ ⟨_, rfl, ht⟩ (Z00 hJ hb) hb)
  {simp [Region.wanted, yielded, dg]}
  {unfold Z0m
   try dsimp only
   go_simp}}
 refine StepsAt.cons _ rfl (fun u' W K' hJ hd hK => ?_) ?_
 {have dg : _ = _ := hd 45 (by kernel_rfl)
  obtain ⟨g, d48, h48⟩ := hd 48 (by kernel_rfl)
  have hw := Z0g (some ⟨g, 0, none⟩) 2 [t, v] W h48 (by simp) (Z0w (Z09 HTA.out) (Z09 HTC.out)) (HW.out.next (Z00 HBW3.out hJ)) (HU.out.next (Z00 HBW3.out hJ))
  rw [HTV.out] at hw
  refine Z05 (f := 13) (args := #[.slice (some ⟨g, 0, none⟩) 2 2]) (W' := W) ?_ ?_ (hw.mono fun e w' h => ⟨_, h.1, hK.out _ _ rfl (Z00 hJ h.2) h.2⟩)
  {simp [Region.wanted, yielded, dg]}
  {try dsimp only
   go_simp}}
 refine StepsAt.cons _ rfl (fun u' W K' hJ hd hK => ?_) ?_
 {have dg : _ = _ := hd 35 (by kernel_rfl)
  have d45 : _ = _ := hd 45 (by kernel_rfl)
  have d49 : _ = _ := hd 49 (by kernel_rfl)
  refine Y0 hK hJ rfl rfl ?_ ?_
  {simp [Region.wanted, yielded, dg]}
  {try dsimp only
   go_simp}}
 refine StepsAt.cons _ rfl (fun u' W K' hJ hd hK => ?_) ?_
 {have dg : _ = _ := hd 35 (by kernel_rfl)
  have d40 : _ = _ := hd 40 (by kernel_rfl)
  have d50 : _ = _ := hd 50 (by kernel_rfl)
  refine Y0 hK hJ rfl rfl ?_ ?_
  {simp [Region.wanted, yielded, dg]}
  {try dsimp only
   go_simp}}
 refine StepsAt.cons _ rfl (fun u' W K' hJ hd hK => ?_) StepsAt.nil
 {have d35 : _ = _ := hd 35 (by kernel_rfl)
  have d51 : _ = _ := hd 51 (by kernel_rfl)
  refine Y0 hK hJ rfl rfl rfl ?_
  try dsimp only
  go_simp}
 intro u' W4 hJ4 hok
 have eL : u' 52 = .bool false := hok 52 (by decide)
 try dsimp only
 rw [eL]
 have HBW4 := Y1 (Z00 HBW3.out hJ4)
 clear hok eL hJ4
 obtain ⟨a1, ⟨x0, x1, x2, x3, x4, x5, x6, x7, x8⟩, a2⟩ := HB1.out.next HBW4.out
 simp only [Nat.zero_add] at x0 x1 x2 x3 x4 x5 x6 x7 x8
 clear a1 a2
 go_wp2_with fail
 refine (Z12 t q W4 (HQ.out.next HBW4.out) (HG.out.next HBW4.out) (HW.out.next HBW4.out) (HU.out.next HBW4.out) HTA.out HC1.out).mono ?_
 rintro e W5 ⟨rfl, hb5⟩
 have HBW5 := Y1 (Z00 HBW4.out hb5)
 obtain ⟨St, hSt⟩ : ∃ St, St = text t := ⟨_, rfl⟩
 have HST := Y1 hSt
 rw [<- hSt]
 clear hb5 hSt x0 x1 x2 x3 x4 x5 x6 x7 x8
 obtain ⟨a1, ⟨x0, x1, x2, x3, x4, x5, x6, x7, x8⟩, a2⟩ := HB2.out.next HBW5.out
 simp only [Nat.zero_add] at x0 x1 x2 x3 x4 x5 x6 x7 x8
 clear a1 a2
 go_wp2_with fail
 have hsh := Z12 u r W5 (HR.out.next HBW5.out) (HG.out.next HBW5.out) (HW.out.next HBW5.out) (HU.out.next HBW5.out) HTB.out HC2.out
 have hSu : St = text u := by rw [HST.out]; exact Z7p (Z7k HTU.out)
 rw [<- hSu] at hsh
 have HSH := Y1 hsh
 clear hSu hsh
 refine HSH.out.mono ?_
 rintro e W6 ⟨rfl, hb6⟩
 have HBW6 := Y1 (Z00 HBW5.out hb6)
 clear hb6 HSH x0 x1 x2 x3 x4 x5 x6 x7 x8
 obtain ⟨a1, ⟨x0, x1, x2, x3, x4, x5, x6, x7, x8⟩, a2⟩ := HB1.out.next HBW6.out
 obtain ⟨a3, ⟨z0, z1, z2, z3, z4, z5, z6, z7, z8⟩, a4⟩ := HB2.out.next HBW6.out
 simp only [Nat.zero_add] at x0 x1 x2 x3 x4 x5 x6 x7 x8 z0 z1 z2 z3 z4 z5 z6 z7 z8
 clear a1 a2 a3 a4
 have ht := two8 W6 t u q r (HQ.out.next HBW6.out) (HR.out.next HBW6.out)
 have HTW := Y1 (Z00 HBW6.out (Z02 W6 (.cells #[.int .i64 t.kind, .string ⟨t.of_.toArray⟩, .string ⟨t.name.toArray⟩, .int .i64 t.n, .slice q.A t.names.length q.c, .slice q.V t.vars.length q.e, .slice q.S t.shapes.length q.s, .slice q.P t.parts.length q.d, .int .i64 t.at_, .int .i64 u.kind, .string ⟨u.of_.toArray⟩, .string ⟨u.name.toArray⟩, .int .i64 u.n, .slice r.A u.names.length r.c, .slice r.V u.vars.length r.e, .slice r.S u.shapes.length r.s, .slice r.P u.parts.length r.d, .int .i64 u.at_] 26)))
 have hsm := Z0g (some ⟨W6.heap.size, 0, none⟩) 2 [t, u] (Z0m W6 t u q r) ht (by simp) (Z0w (Z09 HTA.out) (Z09 HTB.out)) (HW.out.next HTW.out) (HU.out.next HTW.out)
 rw [HTU.out] at hsm
 have HSM := Y1 hsm
 clear ht hsm
 go_wp2_with fail
 refine HSM.out.mono ?_
 rintro e W7 ⟨rfl, hb7⟩
 have HBW7 := Y1 (Z00 HTW.out hb7)
 clear hb7 HSM HTW x0 x1 x2 x3 x4 x5 x6 x7 x8 z0 z1 z2 z3 z4 z5 z6 z7 z8
 go_wp2_with fail
 refine (Z0J W7 (HG.out.next HBW7.out) (HW.out.next HBW7.out) (HU.out.next HBW7.out)).mono ?_
 rintro e W8 ⟨rfl, hb8⟩
 have HBW8 := Y1 (Z00 HBW7.out hb8)
 clear hb8
 go_wp2
 go_ret
 exact ⟨rfl, Z00 HB0.out HBW8.out⟩
theorem Z7c (t u v : Tm) (q r s : TP) (w : World) (hq : TmAt w w.heap.size q t) (hr : TmAt w w.heap.size r u) (hs : TmAt w w.heap.size s v) (tt : tame t = true) (tu : tame u = true) (tv : tame v = true) (hG : Globs w) (hg : WGlobs w) (hu : Z0l w)  :
 Y9 6 #[.agg (Y7 t q), .agg (Y7 u r), .agg (Y7 v s)] w (.bool true) := by
 by_cases h1 : Tms.check t = 0
 {by_cases h2 : Tms.check u = 0
  {by_cases h3 : Tms.check v = 0
   {cases h5 : same [t, u] with
    | false => exact Zdr t u v q r s w hq hr hs tt tu tv hG hg hu h1 h2 h3 h5
    | true =>
     cases h6 : same [u, v] with
     | false => exact Zds t u v q r s w hq hr hs tt tu tv hG hg hu h1 h2 h3 h5 h6
     | true => exact Zdt t u v q r s w hq hr hs tt tu tv hG hg hu h1 h2 h3 h5 h6}
   {exact Zfg t u v q r s w hq hr hs tt tu tv hG hg hu h1 h2 h3}}
  {exact Zff t u v q r s w hq hr hs tt tu tv hG hg hu h1 h2}}
 {exact Zfe t u v q r s w hq hr hs tt tu tv hG hg hu h1}
end Go.Proofs.YtnkdedejfonbmaaGreatDoor
namespace Go.Proofs.YtnkdedejfonbmaaGreatDoor.termsSame
open Go.ChangeShapes Go.WideShapes Go.ChangeAt Go.RowKit
open Go.ChangeMaps (open_string shut_string)
theorem own : ownKnob Tryz.prog.godebug = none := by kernel_rfl
theorem laidOut : laidOutB Tryz.prog = true := by kernel_rfl
theorem contract (H : Type) (enc : TypeId × Value -> H) (W : World) (base : Nat) (args : Array Value) (ds gs : List (DataW H)) (before : List MemPlace)
 (hval : ∀ (j : Nat) t v, Tryz.f6.params[j]? = some t -> args[j]? = some v -> Value.okWide Tryz.prog W .any base t v)
 (hW : DataW.Whole enc Tryz.prog Tryz.f6.params.toList Rows.termsSameSpec.vars false W args.toList ds gs before) (hL : laidMetH Tryz.prog Rows.termsSameUptoRow.laid W) (hk : Rows.uptoSmall H (ds ++ gs) = true)
 (hsz : (DataW.weightsEach Tryz.prog (Tryz.f6.params.toList ++ Rows.termsSameSpec.plain.varTypes Tryz.prog) (ds ++ gs)).all (· <= reachBytes) = true) :
 Calls Tryz.prog 6 args W fun e W' => ∃ v, e = .returned v /\ Rows.termsSameSpec.post enc Tryz.prog Tryz.f6 false true false false W args v W' := by
 have hW' := hW
 obtain ⟨p, q, hA0, hV, rfl, hfz, hnd⟩ := hW
 have hA : DataW.TrodAll enc Tryz.prog W 0 (fun _ => true) true Tryz.f6.params.toList args.toList ds p := hA0
 rw [Tryz.params6] at hA hval hsz
 obtain ⟨v0, vs0, d0, ds0, p0, q0, hargs, rfl, rfl, h0, t0⟩ := trodAll_cons hA
 obtain ⟨v1, vs1, d1, ds1, p1, q1, rfl, rfl, rfl, h1, t1⟩ := trodAll_cons t0
 obtain ⟨v2, vs2, d2, ds2, p2, q2, rfl, rfl, rfl, h2, t2⟩ := trodAll_cons t1
 obtain ⟨rfl, rfl, rfl⟩ := trodAll_nil t2
 obtain rfl : args = #[v0, v1, v2] := by cases args; simp_all
 obtain ⟨rfl, rfl⟩ := trodVars_none hV
 simp only [List.append_nil] at hk
 have hbulk : Rows.uptoBulkAll (H := H) _ <= 1048576 := of_decide_eq_true hk
 simp only [Rows.uptoBulkAll] at hbulk
 have k0 := h0
 have lt0 : ∀ x ∈ p0, x.block < W.heap.size := by obtain ⟨m, hm⟩ := k0; exact DataW.trod_lt m _ _ _ hm
 obtain ⟨u0, y0, rfl, S0, b0⟩ := Z2J (hval 0 26 v0 rfl rfl) h0
 have k1 := h1
 have lt1 : ∀ x ∈ p1, x.block < W.heap.size := by obtain ⟨m, hm⟩ := k1; exact DataW.trod_lt m _ _ _ hm
 obtain ⟨u1, y1, rfl, S1, b1⟩ := Z2J (hval 1 26 v1 rfl rfl) h1
 have k2 := h2
 have lt2 : ∀ x ∈ p2, x.block < W.heap.size := by obtain ⟨m, hm⟩ := k2; exact DataW.trod_lt m _ _ _ hm
 obtain ⟨u2, y2, rfl, S2, b2⟩ := Z2J (hval 2 26 v2 rfl rfl) h2
 have t0 : Tms.tame u0 = true := Z37 b0 (by omega)
 have t1 : Tms.tame u1 = true := Z37 b1 (by omega)
 have t2 : Tms.tame u2 = true := Z37 b2 (by omega)
 clear hA0
 rw [MakeChecks.laidMetH_plain _ _ _ (by kernel_rfl)] at hL
 have g0 : Globs W := Z3j hL (List.Mem.tail _ (List.Mem.tail _ (List.Mem.tail _ (List.Mem.tail _ (List.Mem.tail _ (List.Mem.head _)))))) (List.Mem.tail _ (List.Mem.tail _ (List.Mem.tail _ (List.Mem.tail _ (List.Mem.head _))))) (List.Mem.tail _ (List.Mem.tail _ (List.Mem.head _)))
 have g1 : WGlobs W := Z2M hL (List.Mem.tail _ (List.Mem.tail _ (List.Mem.tail _ (List.Mem.tail _ (List.Mem.tail _ (List.Mem.tail _ (List.Mem.head _)))))))
 have g2 : Z0l W := Z2k hL (List.Mem.tail _ (List.Mem.tail _ (List.Mem.tail _ (List.Mem.tail _ (List.Mem.tail _ (List.Mem.tail _ (List.Mem.tail _ (List.Mem.head _)))))))) (List.Mem.tail _ (List.Mem.tail _ (List.Mem.tail _ (List.Mem.head _))))
 refine (Z7c u0 u1 u2 y0 y1 y2 W S0 S1 S2 t0 t1 t2 g0 g1 g2).mono fun e W' ⟨he, bel⟩ => ?_
 subst he
 exact ⟨_, rfl, _, _, _, [], _, [], hW', trodAll_mk1 (shut_bool Tryz.underlying4 _), (trodAll_cons_mk (Below.trod laidOut (by kernel_rfl) (of_decide_eq_true (by kernel_rfl)) k0 bel lt0) (trodAll_cons_mk (Below.trod laidOut (by kernel_rfl) (of_decide_eq_true (by kernel_rfl)) k1 bel lt1) (trodAll_cons_mk (Below.trod laidOut (by kernel_rfl) (of_decide_eq_true (by kernel_rfl)) k2 bel lt2) trodAll_mk0))), rfl, bel.frame _, fun h => by cases h⟩
theorem reads (os : Os) {H : Type} (enc : TypeId × Value -> H) : ∃ places, DataW.whole enc Tryz.prog ((World.laidAll Tryz.prog os Rows.termsSameUptoRow.laid).forCall (fun _ _ => 0) ⟨#[], #[(.agg #[.int .i64 0, .string ByteArray.empty, .string ByteArray.empty, .int .i64 0, .slice none 0 0, .slice none 0 0, .slice none 0 0, .slice none 0 0, .int .i64 0]), (.agg #[.int .i64 0, .string ByteArray.empty, .string ByteArray.empty, .int .i64 0, .slice none 0 0, .slice none 0 0, .slice none 0 0, .slice none 0 0, .int .i64 0]), (.agg #[.int .i64 0, .string ByteArray.empty, .string ByteArray.empty, .int .i64 0, .slice none 0 0, .slice none 0 0, .slice none 0 0, .slice none 0 0, .int .i64 0])], []⟩).memory Tryz.f6.params.toList Rows.termsSameSpec.vars false #[(.agg #[.int .i64 0, .string ByteArray.empty, .string ByteArray.empty, .int .i64 0, .slice none 0 0, .slice none 0 0, .slice none 0 0, .slice none 0 0, .int .i64 0]), (.agg #[.int .i64 0, .string ByteArray.empty, .string ByteArray.empty, .int .i64 0, .slice none 0 0, .slice none 0 0, .slice none 0 0, .slice none 0 0, .int .i64 0]), (.agg #[.int .i64 0, .string ByteArray.empty, .string ByteArray.empty, .int .i64 0, .slice none 0 0, .slice none 0 0, .slice none 0 0, .slice none 0 0, .int .i64 0])].toList 8 = some ([.agg [.lit (.int .i64 0), .lit (.string []), .lit (.string []), .lit (.int .i64 0), .nil, .nil, .nil, .nil, .lit (.int .i64 0)], .agg [.lit (.int .i64 0), .lit (.string []), .lit (.string []), .lit (.int .i64 0), .nil, .nil, .nil, .nil, .lit (.int .i64 0)], .agg [.lit (.int .i64 0), .lit (.string []), .lit (.string []), .lit (.int .i64 0), .nil, .nil, .nil, .nil, .lit (.int .i64 0)]], [], places) :=
 ⟨[], by kernel_rfl⟩
theorem lifted (os : Os) (started : os.Started) (H : Type) (enc : TypeId × Value -> H) (F : Stop.Interp) :
 ReturnsInHanded {} Tryz.checked os 6 .any ((Rows.OpenSpec.upto Rows.termsSameSpec).preRow enc Tryz.prog Tryz.f6 Rows.termsSameUptoRow.domain false Rows.termsSameUptoRow.laid) (((Rows.OpenSpec.upto Rows.termsSameSpec).at F).post enc Tryz.prog Tryz.f6 false true false false) := by
 obtain ⟨places, hx⟩ := reads os enc
 refine returnsInHanded_of_row (C := Tryz.checked) (s := Rows.OpenSpec.upto Rows.termsSameSpec) own started (by kernel_rfl) Tryz.func6
  (Z15 (enc := enc) (C := Tryz.checked) (s := Rows.OpenSpec.upto Rows.termsSameSpec) false (World.laidAll Tryz.prog os Rows.termsSameUptoRow.laid) #[(.agg #[.int .i64 0, .string ByteArray.empty, .string ByteArray.empty, .int .i64 0, .slice none 0 0, .slice none 0 0, .slice none 0 0, .slice none 0 0, .int .i64 0]), (.agg #[.int .i64 0, .string ByteArray.empty, .string ByteArray.empty, .int .i64 0, .slice none 0 0, .slice none 0 0, .slice none 0 0, .slice none 0 0, .int .i64 0]), (.agg #[.int .i64 0, .string ByteArray.empty, .string ByteArray.empty, .int .i64 0, .slice none 0 0, .slice none 0 0, .slice none 0 0, .slice none 0 0, .int .i64 0])] (World.laidAll_os _ _ _)
   (World.shaped_of_ZipB (by kernel_rfl) (by kernel_rfl)) (by kernel_rfl)
   (OpenSpec.preRow_of_cond 8 hx (by kernel_rfl) (fun k hk => by cases hk; kernel_rfl) (by kernel_rfl)
    (by rw [MakeChecks.laidMetH_plain _ _ _ (by kernel_rfl)]; exact laidMet_laidAll _ (by kernel_rfl) (by kernel_rfl)))) ?_
 intro W base args ds gs before hval hW _ hcond hsz hL _ _
 exact contract H enc W base args ds gs before hval hW hL (hcond _ rfl) hsz
theorem proved : Rows.TermsSameUptoSaid :=
 OpenClaim.holds_of_cond 6 Tryz.f6 rfl rfl rfl rfl rfl rfl rfl ⟨rfl, rfl, rfl, rfl, rfl⟩ rfl rfl rfl rfl rfl (by kernel_rfl) Tryz.func6 (by kernel_rfl)
  (of_decide_eq_true (by kernel_rfl)) (by unfold Func.isWrapper; first | (rw [if_pos (by decide +kernel)]; kernel_rfl) | (rw [if_neg (by decide +kernel)]; exact ⟨rfl, rfl⟩))
  (fun os started H enc _ F => by rw [OpenClaim.pre_eq_preRow]; exact lifted os started H enc F)
theorem card : Rows.TermsSameUptoCardSaid :=
 Claim7.holds_tied_plain_at .later [] _ _ _ _ proved (fun _ h => by cases h) (by kernel_rfl) (fun _ h => by cases h) termsSameUpto_row_tie rfl ⟨rfl, rfl⟩ (by kernel_rfl) rfl
  (fun f fn hf hfn => by
   obtain rfl : f = 6 := Option.some.inj ((show Tryz.prog.funcNamed "pandect/pandectlaw08.TermsSame" = some 6 by kernel_rfl).symm.trans hf) |>.symm
   obtain rfl : fn = Tryz.f6 := (Option.some.inj (Tryz.func6.symm.trans hfn)).symm
   exact ⟨by kernel_rfl, fun j t ht => by
    rw [Tryz.params6] at ht
    have hm : t ∈ [26, 26, 26] := by simpa using Array.mem_of_getElem? ht
    have hall : ([26, 26, 26].all fun u => !Tryz.prog.wantsStandIn u) = true := by kernel_rfl
    exact (show Tryz.prog.wantsStandIn t = false by simpa using List.all_eq_true.1 hall t hm)⟩)
  (by kernel_rfl)
end Go.Proofs.YtnkdedejfonbmaaGreatDoor.termsSame
