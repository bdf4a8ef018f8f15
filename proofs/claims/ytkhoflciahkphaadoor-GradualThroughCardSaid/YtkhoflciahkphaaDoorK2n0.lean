/- What the proofs of GradualAlike, GradualPlain, GradualThrough, GradualWitness want, part 0. -/
import Derived.Test.YtkhoflciahkphaaDoorK0n4
set_option linter.unusedVariables false
set_option linter.unusedSimpArgs false
set_option linter.unusedSectionVars false
set_option maxRecDepth 100000
set_option maxHeartbeats 16000000
namespace Grd
section
open Shp Sub Go.Proofs.YtkhoflciahkphaaDoor
theorem Z0V {a b:Sh}:alike a b=true ↔ check a=0/\check b=0/\R false 40 true a b:=by
 unfold alike;rw[Bool.and_eq_true,Bool.and_eq_true,decide_eq_true_eq,decide_eq_true_eq];constructor
 {rintro ⟨⟨ca,cb⟩,h⟩; exact ⟨ca,cb,(Z38 (Z05 ca).2.2 (Z05 cb).2.2).1 h⟩}
 {rintro ⟨ca,cb,h⟩; exact ⟨⟨ca,cb⟩,(Z38 (Z05 ca).2.2 (Z05 cb).2.2).2 h⟩}
end
end Grd
