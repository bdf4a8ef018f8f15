/- GradualAlike: alike goes both ways and holds for itself; what is below or alike is near; for all values that the row lets in, with the program's variable laid as its text lays it. -/
import Derived.Test.YtkhoflciahkphaaDoorTie
import Derived.Test.YtkhoflciahkphaaDoorCards
import Derived.LaidMore
import Derived.Lay
import Derived.Test.YtkhoflciahkphaaDoorK4n0
import Derived.Test.YtkhoflciahkphaaDoorK5n0
import Derived.Test.YtkhoflciahkphaaDoorK0n13
set_option linter.unusedVariables false
set_option linter.unusedSimpArgs false
set_option linter.unusedSectionVars false
set_option maxRecDepth 100000
set_option maxHeartbeats 16000000
namespace Grd
section
open Shp Sub Go.Proofs.YtkhoflciahkphaaDoor
section
variable {a b : Sh} (h : ¬ (check a = 0 /\ check b = 0))
include a b h
theorem near_off:near a b=false:=by
 cases e:near a b with
 | false=>rfl
 | true=>exact absurd ⟨(near_iff.1 e).1,(near_iff.1 e).2.1⟩ h
theorem alike_off:alike a b=false:=by
 cases e:alike a b with
 | false=>rfl
 | true=>exact absurd ⟨(Z0V.1 e).1,(Z0V.1 e).2.1⟩ h
end
theorem alike_self {a:Sh} (ca:check a=0):alike a a=true:=Z0V.2 ⟨ca,ca,R.refl (Z05 ca).2.1⟩
theorem alike_comm (a b:Sh):alike a b=alike b a:=by
 have key: ∀a b,alike a b=true->alike b a=true:=fun a b h=>by
  obtain ⟨ca,cb,r⟩:=Z0V.1 h;exact Z0V.2 ⟨cb,ca,r.symm⟩
 rw[Bool.eq_iff_iff];exact ⟨key a b,key b a⟩
end
end Grd
namespace Go.Proofs.YtkhoflciahkphaaDoor
open Go.RowKit Shp Sub
namespace SubM
theorem gradAlike_walk (a:Sh) (pa:Ptr) (b:Sh) (pb:Ptr) (w:World) (ha:ShAt w w.heap.size pa a) (hb:ShAt w w.heap.size pb b) (hg:WGlobs w):
 Y9 5 #[.agg (Y8 a pa),.agg (Y8 b pb)] w (.bool true):=by
 have hx1:=Z01 w (.cells (Y8 a pa) 25);obtain ⟨q1,hu1⟩: ∃z,w.alloc (.cells (Y8 a pa) 25)=z:=⟨_,rfl⟩;have hs1:q1.heap.size=w.heap.size+1:=by rw[<-hu1]; simp
 have hy1:=Z02 w a pa;rw[hu1] at hx1 hy1;have hx2:=Z01 q1 (.cells (Y8 b pb) 25);obtain ⟨q2,hu2⟩: ∃z,q1.alloc (.cells (Y8 b pb) 25)=z:=⟨_,rfl⟩;have hs2:q2.heap.size=w.heap.size+1+1:=by rw[<-hu2]; simp[hs1]
 have hy2:=Z02 q1 b pb;rw[hu2] at hx2 hy2;rw[hs1] at hy2;have hbw:=(Z00 hx1 hx2);have HXa:=Y1 (hy1.next hx2);have HAa:=Y1 (ha.next hbw);have HXb:=Y1 hy2;have HAb:=Y1 (hb.next hbw);have HG:=Y1 (hg.next hbw);have HB1:=Y1 hbw;have HB:=Y1 (Below.refl q2.heap.size q2);clear hbw hg hx1 hy1 ha hx2 hy2 hb;obtain ⟨_,⟨a0,a1,a2,a3,a4⟩,_⟩:=HXa.out.next HB.out;simp only[Nat.zero_add] at a0 a1 a2 a3 a4;have HU:=Y1 (Z1r a pa _ (HAa.out.next HB.out) (HG.out.next HB.out));go_enter Tryd.func5,Tryd.ntmps5
 go_wp2_with fail
 refine HU.out.mono ?_;rintro e w1 ⟨rfl,hb1⟩;have HB:=Y1 (Z00 HB.out hb1);clear hb1 HU a0 a1 a2 a3 a4;clear hu1 hs1 hu2 hs2;by_cases ca:check a=0
 {have HCA:=Y1 ca;have ma: (check a !=0)=false:=by rw[ca]; rfl
  clear ca;obtain ⟨_,⟨b0,b1,b2,b3,b4⟩,_⟩:=HXb.out.next HB.out;simp only[Nat.zero_add] at b0 b1 b2 b3 b4;have HU:=Y1 (Z1r b pb _ (HAb.out.next HB.out) (HG.out.next HB.out))
  go_wp2_with fail
  refine HU.out.mono ?_;rintro e w2 ⟨rfl,hb1⟩;have HB:=Y1 (Z00 HB.out hb1);clear hb1 HU b0 b1 b2 b3 b4;clear ma;by_cases cb:check b=0
  {have HCB:=Y1 cb;have mb: (check b !=0)=false:=by rw[cb]; rfl
   clear cb;obtain ⟨_,⟨a0,a1,a2,a3,a4⟩,_⟩:=HXa.out.next HB.out;simp only[Nat.zero_add] at a0 a1 a2 a3 a4;obtain ⟨_,⟨b0,b1,b2,b3,b4⟩,_⟩:=HXb.out.next HB.out;simp only[Nat.zero_add] at b0 b1 b2 b3 b4;have HU:=Y1 (Z0h a b pa pb _ (HAa.out.next HB.out) (HAb.out.next HB.out) (HG.out.next HB.out))
   try unfold sv at HU
   go_wp2_with fail
   refine HU.out.mono ?_;rintro e w3 ⟨rfl,hb1⟩;have HB:=Y1 (Z00 HB.out hb1);clear hb1 HU a0 a1 a2 a3 a4 b0 b1 b2 b3 b4;clear mb;cases h1:Grd.alike a b with
   | false=>
    have K4:=Y1 h1;clear h1;obtain ⟨_,⟨a0,a1,a2,a3,a4⟩,_⟩:=HXa.out.next HB.out;simp only[Nat.zero_add] at a0 a1 a2 a3 a4;have HU:=Y1 (Z0h a a pa pa _ (HAa.out.next HB.out) (HAa.out.next HB.out) (HG.out.next HB.out))
    try unfold sv at HU
    rw[Grd.alike_self HCA.out] at HU
    go_wp2_with fail
    refine HU.out.mono ?_;rintro e w5 ⟨rfl,hb1⟩;have HB:=Y1 (Z00 HB.out hb1);clear hb1 HU a0 a1 a2 a3 a4;obtain ⟨_,⟨b0,b1,b2,b3,b4⟩,_⟩:=HXb.out.next HB.out;simp only[Nat.zero_add] at b0 b1 b2 b3 b4;obtain ⟨_,⟨a0,a1,a2,a3,a4⟩,_⟩:=HXa.out.next HB.out;simp only[Nat.zero_add] at a0 a1 a2 a3 a4;have HU:=Y1 (Z0h b a pb pa _ (HAb.out.next HB.out) (HAa.out.next HB.out) (HG.out.next HB.out))
    try unfold sv at HU
    rw[(Grd.alike_comm b a).trans K4.out] at HU
    go_wp2_with fail
    refine HU.out.mono ?_;rintro e w6 ⟨rfl,hb1⟩;have HB:=Y1 (Z00 HB.out hb1);clear hb1 HU b0 b1 b2 b3 b4 a0 a1 a2 a3 a4;obtain ⟨_,⟨a0,a1,a2,a3,a4⟩,_⟩:=HXa.out.next HB.out;simp only[Nat.zero_add] at a0 a1 a2 a3 a4;obtain ⟨_,⟨b0,b1,b2,b3,b4⟩,_⟩:=HXb.out.next HB.out;simp only[Nat.zero_add] at b0 b1 b2 b3 b4;have HU:=Y1 (Z0r a b pa pb _ (HAa.out.next HB.out) (HAb.out.next HB.out) (HG.out.next HB.out))
    try unfold sv at HU
    go_wp2_with fail
    refine HU.out.mono ?_;rintro e w7 ⟨rfl,hb1⟩;have HB:=Y1 (Z00 HB.out hb1);clear hb1 HU a0 a1 a2 a3 a4 b0 b1 b2 b3 b4;cases h1:Sub.below a b with
    | false=>
     have K8:=Y1 h1;clear h1
     go_wp2_with fail
     refine (Z07 _ (HG.out.next HB.out)).mono ?_;rintro e w9 ⟨rfl,hb1⟩;have HB:=Y1 (Z00 HB1.out (Z00 HB.out hb1));clear hb1;go_wp2;go_ret;exact ⟨rfl,HB.out⟩
    | true=>
     have K8:=Y1 h1;clear h1;obtain ⟨_,⟨a0,a1,a2,a3,a4⟩,_⟩:=HXa.out.next HB.out;simp only[Nat.zero_add] at a0 a1 a2 a3 a4;obtain ⟨_,⟨b0,b1,b2,b3,b4⟩,_⟩:=HXb.out.next HB.out;simp only[Nat.zero_add] at b0 b1 b2 b3 b4;have HU:=Y1 (Z0a a b pa pb _ (HAa.out.next HB.out) (HAb.out.next HB.out) (HG.out.next HB.out))
     try unfold sv at HU
     rw[Grd.below_near K8.out] at HU
     go_wp2_with fail
     refine HU.out.mono ?_;rintro e w10 ⟨rfl,hb1⟩;have HB:=Y1 (Z00 HB.out hb1);clear hb1 HU a0 a1 a2 a3 a4 b0 b1 b2 b3 b4
     go_wp2_with fail
     refine (Z07 _ (HG.out.next HB.out)).mono ?_;rintro e w11 ⟨rfl,hb1⟩;have HB:=Y1 (Z00 HB1.out (Z00 HB.out hb1));clear hb1;go_wp2;go_ret;exact ⟨rfl,HB.out⟩
   | true=>
    have K4:=Y1 h1;clear h1;obtain ⟨_,⟨a0,a1,a2,a3,a4⟩,_⟩:=HXa.out.next HB.out;simp only[Nat.zero_add] at a0 a1 a2 a3 a4;have HU:=Y1 (Z0h a a pa pa _ (HAa.out.next HB.out) (HAa.out.next HB.out) (HG.out.next HB.out))
    try unfold sv at HU
    rw[Grd.alike_self HCA.out] at HU
    go_wp2_with fail
    refine HU.out.mono ?_;rintro e w12 ⟨rfl,hb1⟩;have HB:=Y1 (Z00 HB.out hb1);clear hb1 HU a0 a1 a2 a3 a4;obtain ⟨_,⟨b0,b1,b2,b3,b4⟩,_⟩:=HXb.out.next HB.out;simp only[Nat.zero_add] at b0 b1 b2 b3 b4;obtain ⟨_,⟨a0,a1,a2,a3,a4⟩,_⟩:=HXa.out.next HB.out;simp only[Nat.zero_add] at a0 a1 a2 a3 a4;have HU:=Y1 (Z0h b a pb pa _ (HAb.out.next HB.out) (HAa.out.next HB.out) (HG.out.next HB.out))
    try unfold sv at HU
    rw[(Grd.alike_comm b a).trans K4.out] at HU
    go_wp2_with fail
    refine HU.out.mono ?_;rintro e w13 ⟨rfl,hb1⟩;have HB:=Y1 (Z00 HB.out hb1);clear hb1 HU b0 b1 b2 b3 b4 a0 a1 a2 a3 a4;obtain ⟨_,⟨a0,a1,a2,a3,a4⟩,_⟩:=HXa.out.next HB.out;simp only[Nat.zero_add] at a0 a1 a2 a3 a4;obtain ⟨_,⟨b0,b1,b2,b3,b4⟩,_⟩:=HXb.out.next HB.out;simp only[Nat.zero_add] at b0 b1 b2 b3 b4;have HU:=Y1 (Z0a a b pa pb _ (HAa.out.next HB.out) (HAb.out.next HB.out) (HG.out.next HB.out))
    try unfold sv at HU
    rw[Grd.alike_near K4.out] at HU
    go_wp2_with fail
    refine HU.out.mono ?_;rintro e w14 ⟨rfl,hb1⟩;have HB:=Y1 (Z00 HB.out hb1);clear hb1 HU a0 a1 a2 a3 a4 b0 b1 b2 b3 b4;obtain ⟨_,⟨b0,b1,b2,b3,b4⟩,_⟩:=HXb.out.next HB.out;simp only[Nat.zero_add] at b0 b1 b2 b3 b4;obtain ⟨_,⟨a0,a1,a2,a3,a4⟩,_⟩:=HXa.out.next HB.out;simp only[Nat.zero_add] at a0 a1 a2 a3 a4;have HU:=Y1 (Z0a b a pb pa _ (HAb.out.next HB.out) (HAa.out.next HB.out) (HG.out.next HB.out))
    try unfold sv at HU
    rw[Grd.alike_near ((Grd.alike_comm b a).trans K4.out)] at HU
    go_wp2_with fail
    refine HU.out.mono ?_;rintro e w15 ⟨rfl,hb1⟩;have HB:=Y1 (Z00 HB.out hb1);clear hb1 HU b0 b1 b2 b3 b4 a0 a1 a2 a3 a4;obtain ⟨_,⟨a0,a1,a2,a3,a4⟩,_⟩:=HXa.out.next HB.out;simp only[Nat.zero_add] at a0 a1 a2 a3 a4;obtain ⟨_,⟨b0,b1,b2,b3,b4⟩,_⟩:=HXb.out.next HB.out;simp only[Nat.zero_add] at b0 b1 b2 b3 b4;have HU:=Y1 (Z0r a b pa pb _ (HAa.out.next HB.out) (HAb.out.next HB.out) (HG.out.next HB.out))
    try unfold sv at HU
    go_wp2_with fail
    refine HU.out.mono ?_;rintro e w16 ⟨rfl,hb1⟩;have HB:=Y1 (Z00 HB.out hb1);clear hb1 HU a0 a1 a2 a3 a4 b0 b1 b2 b3 b4;cases h1:Sub.below a b with
    | false=>
     have K17:=Y1 h1;clear h1
     go_wp2_with fail
     refine (Z07 _ (HG.out.next HB.out)).mono ?_;rintro e w18 ⟨rfl,hb1⟩;have HB:=Y1 (Z00 HB1.out (Z00 HB.out hb1));clear hb1;go_wp2;go_ret;exact ⟨rfl,HB.out⟩
    | true=>
     have K17:=Y1 h1;clear h1;obtain ⟨_,⟨a0,a1,a2,a3,a4⟩,_⟩:=HXa.out.next HB.out;simp only[Nat.zero_add] at a0 a1 a2 a3 a4;obtain ⟨_,⟨b0,b1,b2,b3,b4⟩,_⟩:=HXb.out.next HB.out;simp only[Nat.zero_add] at b0 b1 b2 b3 b4;have HU:=Y1 (Z0a a b pa pb _ (HAa.out.next HB.out) (HAb.out.next HB.out) (HG.out.next HB.out))
     try unfold sv at HU
     rw[Grd.below_near K17.out] at HU
     go_wp2_with fail
     refine HU.out.mono ?_;rintro e w19 ⟨rfl,hb1⟩;have HB:=Y1 (Z00 HB.out hb1);clear hb1 HU a0 a1 a2 a3 a4 b0 b1 b2 b3 b4
     go_wp2_with fail
     refine (Z07 _ (HG.out.next HB.out)).mono ?_;rintro e w20 ⟨rfl,hb1⟩;have HB:=Y1 (Z00 HB1.out (Z00 HB.out hb1));clear hb1;go_wp2;go_ret;exact ⟨rfl,HB.out⟩}
  {have HCB:=Y1 cb;have mb: (check b !=0)=true:=by simpa using cb
   clear cb;have HOA:Hid (Grd.alike a b=false):=Y1 (Grd.alike_off (fun h=>HCB.out h.2));have HON:Hid (Grd.near a b=false):=Y1 (Grd.near_off (fun h=>HCB.out h.2));obtain ⟨_,⟨a0,a1,a2,a3,a4⟩,_⟩:=HXa.out.next HB.out;simp only[Nat.zero_add] at a0 a1 a2 a3 a4;obtain ⟨_,⟨b0,b1,b2,b3,b4⟩,_⟩:=HXb.out.next HB.out;simp only[Nat.zero_add] at b0 b1 b2 b3 b4;have HU:=Y1 (Z0h a b pa pb _ (HAa.out.next HB.out) (HAb.out.next HB.out) (HG.out.next HB.out))
   try unfold sv at HU
   rw[HOA.out] at HU
   go_wp2_with fail
   refine HU.out.mono ?_;rintro e w21 ⟨rfl,hb1⟩;have HB:=Y1 (Z00 HB.out hb1);clear hb1 HU a0 a1 a2 a3 a4 b0 b1 b2 b3 b4;obtain ⟨_,⟨a0,a1,a2,a3,a4⟩,_⟩:=HXa.out.next HB.out;simp only[Nat.zero_add] at a0 a1 a2 a3 a4;obtain ⟨_,⟨b0,b1,b2,b3,b4⟩,_⟩:=HXb.out.next HB.out;simp only[Nat.zero_add] at b0 b1 b2 b3 b4;have HU:=Y1 (Z0a a b pa pb _ (HAa.out.next HB.out) (HAb.out.next HB.out) (HG.out.next HB.out))
   try unfold sv at HU
   rw[HON.out] at HU
   go_wp2_with fail
   refine HU.out.mono ?_;rintro e w22 ⟨rfl,hb1⟩;have HB:=Y1 (Z00 HB.out hb1);clear hb1 HU a0 a1 a2 a3 a4 b0 b1 b2 b3 b4
   go_wp2_with fail
   refine (Z07 _ (HG.out.next HB.out)).mono ?_;rintro e w23 ⟨rfl,hb1⟩;have HB:=Y1 (Z00 HB1.out (Z00 HB.out hb1));clear hb1;go_wp2;go_ret;exact ⟨rfl,HB.out⟩}}
 {have HCA:=Y1 ca;have ma: (check a !=0)=true:=by simpa using ca
  clear ca;have HOA:Hid (Grd.alike a b=false):=Y1 (Grd.alike_off (fun h=>HCA.out h.1));have HON:Hid (Grd.near a b=false):=Y1 (Grd.near_off (fun h=>HCA.out h.1));obtain ⟨_,⟨a0,a1,a2,a3,a4⟩,_⟩:=HXa.out.next HB.out;simp only[Nat.zero_add] at a0 a1 a2 a3 a4;obtain ⟨_,⟨b0,b1,b2,b3,b4⟩,_⟩:=HXb.out.next HB.out;simp only[Nat.zero_add] at b0 b1 b2 b3 b4;have HU:=Y1 (Z0h a b pa pb _ (HAa.out.next HB.out) (HAb.out.next HB.out) (HG.out.next HB.out))
  try unfold sv at HU
  rw[HOA.out] at HU
  go_wp2_with fail
  refine HU.out.mono ?_;rintro e w24 ⟨rfl,hb1⟩;have HB:=Y1 (Z00 HB.out hb1);clear hb1 HU a0 a1 a2 a3 a4 b0 b1 b2 b3 b4;obtain ⟨_,⟨a0,a1,a2,a3,a4⟩,_⟩:=HXa.out.next HB.out;simp only[Nat.zero_add] at a0 a1 a2 a3 a4;obtain ⟨_,⟨b0,b1,b2,b3,b4⟩,_⟩:=HXb.out.next HB.out;simp only[Nat.zero_add] at b0 b1 b2 b3 b4;have HU:=Y1 (Z0a a b pa pb _ (HAa.out.next HB.out) (HAb.out.next HB.out) (HG.out.next HB.out))
  try unfold sv at HU
  rw[HON.out] at HU
  go_wp2_with fail
  refine HU.out.mono ?_;rintro e w25 ⟨rfl,hb1⟩;have HB:=Y1 (Z00 HB.out hb1);clear hb1 HU a0 a1 a2 a3 a4 b0 b1 b2 b3 b4
  go_wp2_with fail
  refine (Z07 _ (HG.out.next HB.out)).mono ?_;rintro e w26 ⟨rfl,hb1⟩;have HB:=Y1 (Z00 HB1.out (Z00 HB.out hb1));clear hb1;go_wp2;go_ret;exact ⟨rfl,HB.out⟩}
end SubM
end Go.Proofs.YtkhoflciahkphaaDoor
namespace Go.Proofs.YtkhoflciahkphaaDoor.gradualAlike
section
open Go.ChangeShapes Go.WideShapes Go.ChangeAt Go.RowKit
open Go.ChangeMaps (open_string shut_string)
theorem walk (w:World) (u0:Shp.Sh) (p0:Ptr) (S0:ShAt w w.heap.size p0 u0) (u1:Shp.Sh) (p1:Ptr) (S1:ShAt w w.heap.size p1 u1) (hg:WGlobs w):Y9 5 #[.agg (Y8 u0 p0),.agg (Y8 u1 p1)] w (.bool true):=SubM.gradAlike_walk u0 p0 u1 p1 w S0 S1 hg
theorem own:ownKnob Tryd.prog.godebug=none:=by kernel_rfl
theorem laidOut:laidOutB Tryd.prog=true:=by kernel_rfl
theorem contract (H:Type) (enc:TypeId×Value->H) (W:World) (base:Nat) (args:Array Value) (ds gs:List (DataW H)) (before:List MemPlace)
 (hval0: ∀(j:Nat) t v,Tryd.f5.params[j]? =some t->args[j]? =some v->Value.okWide Tryd.prog W .any base t v)
 (hW:DataW.Whole enc Tryd.prog Tryd.f5.params.toList Rows.gradualAlikeSpec.vars false W args.toList ds gs before) (hL:laidMetH Tryd.prog Rows.gradualAlikeRow.laid W) (hsz0: (DataW.weightsEach Tryd.prog (Tryd.f5.params.toList++Rows.gradualAlikeSpec.plain.varTypes Tryd.prog) (ds++gs)).all (· <=reachBytes)=true):
 Calls Tryd.prog 5 args W fun e W'=> ∃v,e= .returned v/\Rows.gradualAlikeSpec.post enc Tryd.prog Tryd.f5 false true false false W args v W':=by
 have hval: ∀(j:Nat) t v,Tryd.f5.params[j]? =some t->args[j]? =some v->Value.okWide Tryd.prog W .any base t v:=hval0;have hsz: (DataW.weightsEach Tryd.prog (Tryd.f5.params.toList++Rows.gradualAlikeSpec.plain.varTypes Tryd.prog) (ds++gs)).all (· <=reachBytes)=true:=hsz0
 have hW':=hW;obtain ⟨p,q,hA0,hV,rfl,hfz,hnd⟩:=hW;have hA:DataW.TrodAll enc Tryd.prog W 0 (fun _=>true) true Tryd.f5.params.toList args.toList ds p:=hA0;rw[Tryd.params5] at hA hval hsz;obtain ⟨v0,vs0,d0,ds0,p0,q0,hargs,rfl,rfl,h0,t0⟩:=trodAll_cons hA;obtain ⟨v1,vs1,d1,ds1,p1,q1,rfl,rfl,rfl,h1,t1⟩:=trodAll_cons t0;obtain ⟨rfl,rfl,rfl⟩:=trodAll_nil t1;obtain rfl:args=#[v0,v1]:=by cases args; simp_all
 obtain ⟨rfl,rfl⟩:=trodVars_none hV;have k0:=h0;have lt0: ∀x∈p0,x.block < W.heap.size:=by obtain ⟨m,hm⟩:=k0; exact DataW.trod_lt m _ _ _ hm
 obtain ⟨u0,y0,rfl,S0⟩:=Z0A (hval 0 25 v0 rfl rfl) h0;have k1:=h1;have lt1: ∀x∈p1,x.block < W.heap.size:=by obtain ⟨m,hm⟩:=k1; exact DataW.trod_lt m _ _ _ hm
 obtain ⟨u1,y1,rfl,S1⟩:=Z0A (hval 1 25 v1 rfl rfl) h1;clear hA0 hval0;rw[MakeChecks.laidMetH_plain _ _ _ (by kernel_rfl)] at hL;have hglob:WGlobs W:=Z22 hL (List.Mem.head _);refine (walk W u0 y0 S0 u1 y1 S1 hglob).mono fun e W' ⟨he,bel⟩=> ?_;subst he;exact ⟨_,rfl,_,_,_,[],_,[],hW',trodAll_mk1 (shut_bool Tryd.underlying4 _),(trodAll_cons_mk (Below.trod laidOut (by kernel_rfl) (of_decide_eq_true (by kernel_rfl)) k0 bel lt0) (trodAll_cons_mk (Below.trod laidOut (by kernel_rfl) (of_decide_eq_true (by kernel_rfl)) k1 bel lt1) trodAll_mk0)),rfl,bel.frame _,fun h=>by cases h⟩
theorem lifted (os:Os) (started:os.Started) (H:Type) (enc:TypeId×Value->H):
 ReturnsInHanded {} Tryd.checked os 5 .any (fun w args=>(Rows.gradualAlikeSpec.pre enc Tryd.prog Tryd.f5 Rows.gradualAlikeRow.domain false w args/\laidMetH Tryd.prog Rows.gradualAlikeRow.laid w)/\sizedMet enc Tryd.prog Tryd.f5 (OpenSpec.ofChange Rows.gradualAlikeSpec) false w args)
  (Rows.gradualAlikeSpec.post enc Tryd.prog Tryd.f5 false true false false):=by
 refine returnsInHanded_of_change_and (C:=Tryd.checked) (X:=fun w _=>laidMetH Tryd.prog Rows.gradualAlikeRow.laid w) (fun _ _ _ hh h=>h.of_heap hh) own started (by kernel_rfl) Tryd.func5
  (ChangeSpec.witness_shaped (enc:=enc) (C:=Tryd.checked) (os:=os) (X:=fun w _=>laidMetH Tryd.prog Rows.gradualAlikeRow.laid w) false (World.laidAll Tryd.prog os Rows.gradualAlikeRow.laid) #[(.agg #[.int .i64 0,.string ByteArray.empty,.string ByteArray.empty,.slice none 0 0,.slice none 0 0]),(.agg #[.int .i64 0,.string ByteArray.empty,.string ByteArray.empty,.slice none 0 0,.slice none 0 0])] 8 (World.laidAll_os _ _ _)
   (World.shaped_of_ZipB (by kernel_rfl) (by kernel_rfl)) (by kernel_rfl) (by kernel_rfl) (by kernel_rfl)
   (by rw[MakeChecks.laidMetH_plain _ _ _ (by kernel_rfl)]; exact laidMet_laidAll _ (by kernel_rfl) (by kernel_rfl))) ?_
 intro W base args ds gs before hval hW _ hsz hL _;exact contract H enc W base args ds gs before hval hW hL hsz
theorem proved:Rows.GradualAlikeSaid:=
 OpenClaim.holds_of_wide 5 Tryd.f5 rfl rfl rfl rfl rfl rfl rfl ⟨rfl,rfl,rfl,rfl,rfl⟩ rfl rfl rfl rfl rfl (by kernel_rfl) Tryd.func5 (by kernel_rfl)
  (of_decide_eq_true (by kernel_rfl)) (by unfold Func.isWrapper; first | (rw[if_pos (by decide+kernel)]; kernel_rfl) | (rw[if_neg (by decide+kernel)]; exact ⟨rfl,rfl⟩))
  (fun os started H enc _=>lifted os started H enc)
theorem card:Rows.GradualAlikeCardSaid:=
 Claim7.holds_tied_plain_at .later [] [.data] true _ false proved (fun _ h=>by cases h) (by kernel_rfl) (fun _ h=>by cases h) gradualAlike_row_tie rfl ⟨rfl,rfl⟩ (by kernel_rfl) rfl
  (fun f fn hf hfn=>by
   obtain rfl:f=5:=Option.some.inj ((show Tryd.prog.funcNamed "pandect/pandectlaw13.GradualAlike" =some 5 by kernel_rfl).symm.trans hf) |>.symm;obtain rfl:fn=Tryd.f5:=(Option.some.inj (Tryd.func5.symm.trans hfn)).symm;exact ⟨by kernel_rfl,fun j t ht=>by
    rw[Tryd.params5] at ht;have hm:t∈ [25,25]:=by simpa using Array.mem_of_getElem? ht
    have hall: ([25,25].all fun u=> !Tryd.prog.wantsStandIn u)=true:=by kernel_rfl
    exact (show Tryd.prog.wantsStandIn t=false by simpa using List.all_eq_true.1 hall t hm)⟩)
  (by kernel_rfl)
end
end Go.Proofs.YtkhoflciahkphaaDoor.gradualAlike
