/- What the proofs of SubtypeBelows, SubtypeBoth, SubtypeOrder want, part 0. -/
import Derived.Test.YtlomianlcnmfgaaDoorK0n0
set_option linter.unusedVariables false
set_option linter.unusedSimpArgs false
set_option linter.unusedSectionVars false
set_option maxRecDepth 100000
set_option maxHeartbeats 16000000
namespace Shp
section
theorem Z2v (t:Sh):bare t=true ↔ t.of_= []/\t.name= []:=by simp[bare]
end
end Shp
