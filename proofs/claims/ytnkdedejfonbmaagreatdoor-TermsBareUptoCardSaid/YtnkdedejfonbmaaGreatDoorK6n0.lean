/- What the proofs of TermsBare, TermsSame want, part 0. -/
import Derived.StillTailTactics
import Derived.Deep.RegionHeld3
import Derived.Test.YtnkdedejfonbmaaGreatDoorK4n0
import Derived.Test.YtnkdedejfonbmaaGreatDoorK0n23
set_option linter.unusedVariables false
set_option linter.unusedSimpArgs false
set_option maxRecDepth 100000
set_option maxHeartbeats 16000000
namespace Tms
open Shp (Sh)
theorem Z5T (l : List Tm) : same l = true ↔ ∀ t ∈ l, check t = 0 /\ strip t = strip (l.headD t) := by
 unfold same
 rw [List.all_eq_true]
 constructor
 {intro h t ht
  have := h t ht
  simp only [Bool.and_eq_true, decide_eq_true_eq] at this
  exact ⟨this.1, (Z4D _ _).1 this.2⟩}
 {intro h t ht
  simp only [Bool.and_eq_true, decide_eq_true_eq]
  exact ⟨(h t ht).1, (Z4D _ _).2 (h t ht).2⟩}
theorem Z6b {t u v : Tm} : same [t, u, v] = true ↔ check t = 0 /\ (check u = 0 /\ strip u = strip t) /\ check v = 0 /\ strip v = strip t := by
 rw [Z5T]; simp
end Tms
namespace Tms
open Shp (Sh join field total)
theorem ZdT {l : List Tm} {f : Tm -> Tm} (h : ∀ p ∈ l, (f p).kind = p.kind) : Z2i (l.map f) = Z2i l := by
 cases l with
 | nil => rfl
 | cons a l => exact h a (by simp)
theorem ZbW (t : Tm) : (strip t).kind = t.kind := by rw [Z0A]
theorem Z4b (t : Tm) : text (strip t) = text t := by
 induction t using Tm.ind with
 | h t ih =>
  rw [text_eq, text_eq t, Z0A]
  simp only
  rw [ZdT (fun p _ => ZbW p), List.map_map, List.map_congr_left (f := text ∘ strip) (g := text) (fun p hp => ih p hp)]
  rfl
end Tms
namespace Go.Proofs.YtnkdedejfonbmaaGreatDoor
open Go.RowKit Tms
def Z0D (n : Nat) (l : List Tm) : Want := ⟨fun v W => ∃ g, v = .slice (some ⟨g, 0, none⟩) n n /\ TmsIn W W.heap.size (some ⟨g, 0, none⟩) l, fun v w w' hb ⟨g, h1, h2⟩ => ⟨g, h1, h2.next hb⟩⟩
def Z18 (W : World) (x y z : Tm) (qx qy qz : TP) : World := W.alloc (.cells #[.int .i64 x.kind, .string ⟨x.of_.toArray⟩, .string ⟨x.name.toArray⟩, .int .i64 x.n, .slice qx.A x.names.length qx.c, .slice qx.V x.vars.length qx.e, .slice qx.S x.shapes.length qx.s, .slice qx.P x.parts.length qx.d, .int .i64 x.at_, .int .i64 y.kind, .string ⟨y.of_.toArray⟩, .string ⟨y.name.toArray⟩, .int .i64 y.n, .slice qy.A y.names.length qy.c, .slice qy.V y.vars.length qy.e, .slice qy.S y.shapes.length qy.s, .slice qy.P y.parts.length qy.d, .int .i64 y.at_, .int .i64 z.kind, .string ⟨z.of_.toArray⟩, .string ⟨z.name.toArray⟩, .int .i64 z.n, .slice qz.A z.names.length qz.c, .slice qz.V z.vars.length qz.e, .slice qz.S z.shapes.length qz.s, .slice qz.P z.parts.length qz.d, .int .i64 z.at_] 26)
def qs3 (qx qy qz : TP) : Nat -> TP
 | 0 => qx
 | 1 => qy
 | _ => qz
theorem Z6Q (W : World) (x y z : Tm) (qx qy qz : TP) (hx : TmAt W W.heap.size qx x) (hy : TmAt W W.heap.size qy y) (hz : TmAt W W.heap.size qz z) : TmsIn (Z18 W x y z qx qy qz) (Z18 W x y z qx qy qz).heap.size (some ⟨W.heap.size, 0, none⟩) [x, y, z] := by
 refine Or.inr ⟨W.heap.size, 0, qs3 qx qy qz, rfl, by simp [Z18], fun i hi => ?_, fun i hi => ?_⟩
 {have h1 : i < 3 := hi
  match i, h1 with
  | 0, _ => refine ⟨?_, ?_, ?_, ?_, ?_, ?_, ?_, ?_, ?_⟩ <;> simp [Z18, go_sem, qs3]
  | 1, _ => refine ⟨?_, ?_, ?_, ?_, ?_, ?_, ?_, ?_, ?_⟩ <;> simp [Z18, go_sem, qs3]
  | 2, _ => refine ⟨?_, ?_, ?_, ?_, ?_, ?_, ?_, ?_, ?_⟩ <;> simp [Z18, go_sem, qs3]}
 {have h1 : i < 3 := hi
  match i, h1 with
  | 0, _ => exact hx.next (Z02 W _)
  | 1, _ => exact hy.next (Z02 W _)
  | 2, _ => exact hz.next (Z02 W _)}
theorem Z33 {x y z : Tm} (hx : few x = true) (hy : few y = true) (hz : few z = true) : ∀ t ∈ [x, y, z], few t = true := by
 intro t ht; simp only [List.mem_cons, List.not_mem_nil, or_false] at ht
 rcases ht with rfl | rfl | rfl
 {exact hx}
 {exact hy}
 {exact hz}
end Go.Proofs.YtnkdedejfonbmaaGreatDoor
