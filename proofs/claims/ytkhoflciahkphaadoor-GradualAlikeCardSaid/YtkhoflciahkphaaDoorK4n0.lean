/- What the proofs of GradualAlike, GradualPlain want, part 0. -/
import Derived.Test.YtkhoflciahkphaaDoorK3n0
set_option linter.unusedVariables false
set_option linter.unusedSimpArgs false
set_option linter.unusedSectionVars false
set_option maxRecDepth 100000
set_option maxHeartbeats 16000000
namespace Grd
section
open Shp Sub Go.Proofs.YtkhoflciahkphaaDoor
theorem R.of_below {f:Nat} {up:Bool} {a b:Sh} (h:V f up a b) (hd:deep b<=f):R true f up a b:=R.down h (R.refl hd)
theorem below_near {a b:Sh} (h:below a b=true):near a b=true:=by
 obtain ⟨ca,cb,v⟩:=Z1N.1 h;exact near_iff.2 ⟨ca,cb,R.of_below v (Z05 cb).2.1⟩
end
end Grd
