/- What the proofs of TermsBare, TermsChecks, TermsDeep, TermsSames want, part 0. -/
import Derived.Test.YtnkdedejfonbmaaGreatDoorK0n1
set_option linter.unusedVariables false
set_option linter.unusedSimpArgs false
set_option maxRecDepth 100000
set_option maxHeartbeats 16000000
namespace Shp
theorem right_on {t : Sh} (h : fits t = true) (hp : ∀ p ∈ t.parts, right p = true) : right t = true := by
 rw [right_eq, rights_all, Bool.and_eq_true, List.all_eq_true]; exact ⟨h, hp⟩
end Shp
namespace Tms
open Shp (Sh Z0C)
theorem right_on {t : Tm} (h : fits t = true) (hp : ∀ p ∈ t.parts, right p = true) : right t = true := by
 rw [right_eq, rights_all, Bool.and_eq_true, List.all_eq_true]; exact ⟨h, hp⟩
end Tms
