/- What the proofs of SubtypeBelows, SubtypeGreatest, SubtypeLeast want, part 0. -/
import Derived.Test.YtlomianlcnmfgaaDoorK0n0
set_option linter.unusedVariables false
set_option linter.unusedSimpArgs false
set_option linter.unusedSectionVars false
set_option maxRecDepth 100000
set_option maxHeartbeats 16000000
namespace Shp
section
def sizeTo (m:Nat) (t:Sh):Nat:=min (size t) (m+1)
end
end Shp
