/- What the proofs of TermsBare, TermsDeep want, part 0. -/
import Derived.Test.YtnkdedejfonbmaaGreatDoorK1n0
set_option linter.unusedVariables false
set_option linter.unusedSimpArgs false
set_option maxRecDepth 100000
set_option maxHeartbeats 16000000
namespace Tms
open Shp (Sh Z0C)
theorem Z44 {t : Tm} (h1 : size t <= 4096) (h2 : deep t <= 40) (h3 : right t = true) : check t = 0 := by
 unfold check
 rw [if_neg (by omega), if_neg (by omega), if_neg (by rw [h3]; decide)]
end Tms
