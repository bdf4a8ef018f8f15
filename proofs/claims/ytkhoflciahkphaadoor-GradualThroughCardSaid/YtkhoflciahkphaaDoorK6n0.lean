/- What the proofs of GradualMoves, GradualThrough want, part 0. -/
import Derived.Test.YtkhoflciahkphaaDoorK1n0
set_option linter.unusedVariables false
set_option linter.unusedSimpArgs false
set_option linter.unusedSectionVars false
set_option maxRecDepth 100000
set_option maxHeartbeats 16000000
namespace Grd
section
open Shp Sub Go.Proofs.YtkhoflciahkphaaDoor
theorem R.up_ {f:Nat} {up:Bool} {c a b:Sh} (h:R true f up c a) (k:V f up a b):R true f up c b:=by
 have:=R.down k.flip h.flip;exact R.flip_iff.2 this
theorem moves1 {c a b:Sh} (h1:below c a=true) (h2:near a b=true):near c b=true:=by
 obtain ⟨cc,ca,v⟩:=Z1N.1 h1;obtain ⟨_,cb,r⟩:=near_iff.1 h2;exact near_iff.2 ⟨cc,cb,R.down v r⟩
theorem moves2 {c a b:Sh} (h1:near c a=true) (h2:below a b=true):near c b=true:=by
 obtain ⟨cc,ca,r⟩:=near_iff.1 h1;obtain ⟨_,cb,v⟩:=Z1N.1 h2;exact near_iff.2 ⟨cc,cb,r.up_ v⟩
end
end Grd
