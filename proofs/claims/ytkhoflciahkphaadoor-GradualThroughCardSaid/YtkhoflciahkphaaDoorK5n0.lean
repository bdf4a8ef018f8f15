/- What the proofs of GradualAlike, GradualThrough want, part 0. -/
import Derived.Test.YtkhoflciahkphaaDoorK3n0
set_option linter.unusedVariables false
set_option linter.unusedSimpArgs false
set_option linter.unusedSectionVars false
set_option maxRecDepth 100000
set_option maxHeartbeats 16000000
namespace Grd
section
open Shp Sub Go.Proofs.YtkhoflciahkphaaDoor
theorem alike_near {a b:Sh} (h:alike a b=true):near a b=true:=by
 obtain ⟨ca,cb,r⟩:=Z0V.1 h;exact near_iff.2 ⟨ca,cb,r.near⟩
end
end Grd
