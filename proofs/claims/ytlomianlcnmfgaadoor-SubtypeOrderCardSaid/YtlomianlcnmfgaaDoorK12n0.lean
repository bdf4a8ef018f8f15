/- What the proofs of SubtypeOrder want, part 0. -/
import Derived.Test.YtlomianlcnmfgaaDoorK5n0
import Derived.Test.YtlomianlcnmfgaaDoorK6n0
set_option linter.unusedVariables false
set_option linter.unusedSimpArgs false
set_option linter.unusedSectionVars false
set_option maxRecDepth 100000
set_option maxHeartbeats 16000000
namespace Sub
section
open Shp Go.Proofs.YtlomianlcnmfgaaDoor
theorem Z3q {a:Sh} (ca:check a=0):below a a=true:=(Z0g ca ca).2 (V.refl (Z09 ca).2.1)
theorem Z2C {a:Sh} (ca:check a=0):below a (sorted a)=true:=(Z0g ca (Z2B ca)).2 (V.sorted (Z09 ca).2.2 (Z09 ca).2.1)
theorem Z7d {a b c:Sh} (h1:below a b=true) (h2:below b c=true):below a c=true:=by
 obtain ⟨ca,cb⟩:=Z1q h1;obtain ⟨_,cc⟩:=Z1q h2;exact (Z0g ca cc).2 (((Z0g ca cb).1 h1).trans ((Z0g cb cc).1 h2))
theorem Z1O {a b:Sh} (ca:check a=0) (cb:check b=0): (below a b&&below b a)=same a b:=by
 rw[Bool.eq_iff_iff,Bool.and_eq_true,Z0g ca cb,Z0g cb ca,Z1m];obtain ⟨_,da,ra⟩:=Z09 ca;obtain ⟨_,db,rb⟩:=Z09 cb;constructor
 {rintro ⟨h1,h2⟩;exact ⟨ca,cb,V.anti ra rb h1 h2⟩}
 {rintro ⟨_,_,h⟩;have v1:V 40 true a (sorted a):=V.sorted ra da;have v2:V 40 true b (sorted b):=V.sorted rb db;exact ⟨(by rw[h] at v1; exact v1.trans (V.back rb db)),(by rw[<-h] at v2; exact v2.trans (V.back ra da))⟩}
end
end Sub
