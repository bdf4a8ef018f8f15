/- What the proofs of SubtypeGreatest, SubtypeLeast, SubtypeOrder want, part 0. -/
import Derived.Test.YtlomianlcnmfgaaDoorK1n0
set_option linter.unusedVariables false
set_option linter.unusedSimpArgs false
set_option linter.unusedSectionVars false
set_option maxRecDepth 100000
set_option maxHeartbeats 16000000
namespace Sub
section
open Shp Go.Proofs.YtlomianlcnmfgaaDoor
theorem Z1q {a b:Sh} (h:below a b=true):check a=0/\check b=0:=by
 by_cases e:check a=0/\check b=0
 {exact e}
 {rw[Z26 e] at h; cases h}
end
end Sub
