/- What the proofs of TermsBare, TermsSame, TermsSames want, part 0. -/
import Derived.Test.YtnkdedejfonbmaaGreatDoorK0n1
set_option linter.unusedVariables false
set_option linter.unusedSimpArgs false
set_option maxRecDepth 100000
set_option maxHeartbeats 16000000
namespace Shp
theorem eqs_iff_of {l : List Sh} (h : ∀ p ∈ l, ∀ u, eqB p u = true ↔ p = u) : ∀ m, eqs l m = true ↔ l = m := by
 induction l with
 | nil => intro m; cases m <;> simp [eqs]
 | cons a l ih =>
  intro m
  cases m with
  | nil => simp [eqs]
  | cons b m => simp [eqs, h a (by simp) b, ih (fun p hp => h p (by simp [hp])) m]
theorem eqB_iff (t u : Sh) : eqB t u = true ↔ t = u := by
 induction t using Sh.ind generalizing u with
 | h t ih =>
  rw [eqB_eq]
  cases t; cases u
  simp [eqs_iff_of ih, and_assoc]
theorem Z3Q (l m : List Sh) : eqs l m = true ↔ l = m := eqs_iff_of (fun p _ u => eqB_iff p u) m
end Shp
namespace Tms
open Shp (Sh Z0C)
theorem eqs_iff_of {pl : Bool} {f : Tm -> Tm} {l : List Tm} (h : ∀ p ∈ l, ∀ u, eqB pl p u = true ↔ f p = f u) : ∀ m, eqs pl l m = true ↔ l.map f = m.map f := by
 induction l with
 | nil => intro m; cases m <;> simp [eqs]
 | cons a l ih =>
  intro m
  cases m with
  | nil => simp [eqs]
  | cons b m => simp [eqs, h a (by simp) b, ih (fun p hp => h p (by simp [hp])) m]
theorem Z4D (t u : Tm) : eqB false t u = true ↔ strip t = strip u := by
 induction t using Tm.ind generalizing u with
 | h t ih =>
  rw [eqB_eq, Z0A, Z0A]
  simp [eqs_iff_of ih, and_assoc, Shp.Z3Q]
theorem eqB_iff (t u : Tm) : eqB true t u = true ↔ t = u := by
 induction t using Tm.ind generalizing u with
 | h t ih =>
  have hs := eqs_iff_of (f := id) ih u.parts
  rw [eqB_eq]
  cases t; cases u
  simp only [List.map_id] at hs
  simp [hs, and_assoc, Shp.Z3Q]
  intro _ _ _ _
  exact ⟨fun ⟨a, b, c, d, e⟩ => ⟨b, c, d, e, a⟩, fun ⟨b, c, d, e, a⟩ => ⟨a, b, c, d, e⟩⟩
end Tms
