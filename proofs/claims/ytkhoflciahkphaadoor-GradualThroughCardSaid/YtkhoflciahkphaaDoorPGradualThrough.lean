/- GradualThrough: what is below a type that is alike to another one is near it, and what is alike to a type below another one too; for all values that the row lets in, with the program's variable laid as its text lays it. -/
import Derived.Test.YtkhoflciahkphaaDoorTie
import Derived.Test.YtkhoflciahkphaaDoorCards
import Derived.LaidMore
import Derived.Lay
import Derived.Test.YtkhoflciahkphaaDoorK5n0
import Derived.Test.YtkhoflciahkphaaDoorK6n0
import Derived.Test.YtkhoflciahkphaaDoorK0n13
set_option linter.unusedVariables false
set_option linter.unusedSimpArgs false
set_option linter.unusedSectionVars false
set_option maxRecDepth 100000
set_option maxHeartbeats 16000000
namespace Grd
section
open Shp Sub Go.Proofs.YtkhoflciahkphaaDoor
theorem through1 {a u b:Sh} (h1:below a u=true) (h2:alike u b=true):near a b=true:=moves1 h1 (alike_near h2)
theorem through2 {a u b:Sh} (h1:alike a u=true) (h2:below u b=true):near a b=true:=moves2 (alike_near h1) h2
end
end Grd
namespace Go.Proofs.YtkhoflciahkphaaDoor
open Go.RowKit Shp Sub
namespace SubM
theorem gradThrough_walk (a:Sh) (pa:Ptr) (m:Sh) (pm:Ptr) (b:Sh) (pb:Ptr) (w:World) (ha:ShAt w w.heap.size pa a) (hm:ShAt w w.heap.size pm m) (hb:ShAt w w.heap.size pb b) (hg:WGlobs w):
 Y9 7 #[.agg (Y8 a pa),.agg (Y8 m pm),.agg (Y8 b pb)] w (.bool true):=by
 have hx1:=Z01 w (.cells (Y8 a pa) 25);obtain ⟨q1,hu1⟩: ∃z,w.alloc (.cells (Y8 a pa) 25)=z:=⟨_,rfl⟩;have hs1:q1.heap.size=w.heap.size+1:=by rw[<-hu1]; simp
 have hy1:=Z02 w a pa;rw[hu1] at hx1 hy1;have hx2:=Z01 q1 (.cells (Y8 m pm) 25);obtain ⟨q2,hu2⟩: ∃z,q1.alloc (.cells (Y8 m pm) 25)=z:=⟨_,rfl⟩;have hs2:q2.heap.size=w.heap.size+1+1:=by rw[<-hu2]; simp[hs1]
 have hy2:=Z02 q1 m pm;rw[hu2] at hx2 hy2;rw[hs1] at hy2;have hx3:=Z01 q2 (.cells (Y8 b pb) 25);obtain ⟨q3,hu3⟩: ∃z,q2.alloc (.cells (Y8 b pb) 25)=z:=⟨_,rfl⟩;have hs3:q3.heap.size=w.heap.size+1+1+1:=by rw[<-hu3]; simp[hs2]
 have hy3:=Z02 q2 b pb;rw[hu3] at hx3 hy3;rw[hs2] at hy3;have hbw:=(Z00 hx1 (Z00 hx2 hx3));have HXa:=Y1 (hy1.next (Z00 hx2 hx3));have HAa:=Y1 (ha.next hbw);have HXm:=Y1 (hy2.next hx3);have HAm:=Y1 (hm.next hbw);have HXb:=Y1 hy3;have HAb:=Y1 (hb.next hbw);have HG:=Y1 (hg.next hbw);have HB1:=Y1 hbw;have HB:=Y1 (Below.refl q3.heap.size q3);clear hbw hg hx1 hy1 ha hx2 hy2 hm hx3 hy3 hb;obtain ⟨_,⟨a0,a1,a2,a3,a4⟩,_⟩:=HXa.out.next HB.out;simp only[Nat.zero_add] at a0 a1 a2 a3 a4;obtain ⟨_,⟨m0,m1,m2,m3,m4⟩,_⟩:=HXm.out.next HB.out;simp only[Nat.zero_add] at m0 m1 m2 m3 m4;have HU:=Y1 (Z0r a m pa pm _ (HAa.out.next HB.out) (HAm.out.next HB.out) (HG.out.next HB.out))
 try unfold sv at HU
 go_enter Tryd.func7,Tryd.ntmps7
 go_wp2_with fail
 refine HU.out.mono ?_;rintro e w1 ⟨rfl,hb1⟩;have HB:=Y1 (Z00 HB.out hb1);clear hb1 HU a0 a1 a2 a3 a4 m0 m1 m2 m3 m4;clear hu1 hs1 hu2 hs2 hu3 hs3;cases h1:Sub.below a m with
 | false=>
  have K2:=Y1 h1;clear h1;obtain ⟨_,⟨a0,a1,a2,a3,a4⟩,_⟩:=HXa.out.next HB.out;simp only[Nat.zero_add] at a0 a1 a2 a3 a4;obtain ⟨_,⟨m0,m1,m2,m3,m4⟩,_⟩:=HXm.out.next HB.out;simp only[Nat.zero_add] at m0 m1 m2 m3 m4;have HU:=Y1 (Z0h a m pa pm _ (HAa.out.next HB.out) (HAm.out.next HB.out) (HG.out.next HB.out))
  try unfold sv at HU
  go_wp2_with fail
  refine HU.out.mono ?_;rintro e w3 ⟨rfl,hb1⟩;have HB:=Y1 (Z00 HB.out hb1);clear hb1 HU a0 a1 a2 a3 a4 m0 m1 m2 m3 m4;cases h1:Grd.alike a m with
  | false=>
   have K4:=Y1 h1;clear h1
   go_wp2_with fail
   refine (Z07 _ (HG.out.next HB.out)).mono ?_;rintro e w5 ⟨rfl,hb1⟩;have HB:=Y1 (Z00 HB1.out (Z00 HB.out hb1));clear hb1;go_wp2;go_ret;exact ⟨rfl,HB.out⟩
  | true=>
   have K4:=Y1 h1;clear h1;obtain ⟨_,⟨m0,m1,m2,m3,m4⟩,_⟩:=HXm.out.next HB.out;simp only[Nat.zero_add] at m0 m1 m2 m3 m4;obtain ⟨_,⟨b0,b1,b2,b3,b4⟩,_⟩:=HXb.out.next HB.out;simp only[Nat.zero_add] at b0 b1 b2 b3 b4;have HU:=Y1 (Z0r m b pm pb _ (HAm.out.next HB.out) (HAb.out.next HB.out) (HG.out.next HB.out))
   try unfold sv at HU
   go_wp2_with fail
   refine HU.out.mono ?_;rintro e w6 ⟨rfl,hb1⟩;have HB:=Y1 (Z00 HB.out hb1);clear hb1 HU m0 m1 m2 m3 m4 b0 b1 b2 b3 b4;cases h1:Sub.below m b with
   | false=>
    have K7:=Y1 h1;clear h1
    go_wp2_with fail
    refine (Z07 _ (HG.out.next HB.out)).mono ?_;rintro e w8 ⟨rfl,hb1⟩;have HB:=Y1 (Z00 HB1.out (Z00 HB.out hb1));clear hb1;go_wp2;go_ret;exact ⟨rfl,HB.out⟩
   | true=>
    have K7:=Y1 h1;clear h1;obtain ⟨_,⟨a0,a1,a2,a3,a4⟩,_⟩:=HXa.out.next HB.out;simp only[Nat.zero_add] at a0 a1 a2 a3 a4;obtain ⟨_,⟨b0,b1,b2,b3,b4⟩,_⟩:=HXb.out.next HB.out;simp only[Nat.zero_add] at b0 b1 b2 b3 b4;have HU:=Y1 (Z0a a b pa pb _ (HAa.out.next HB.out) (HAb.out.next HB.out) (HG.out.next HB.out))
    try unfold sv at HU
    rw[Grd.through2 K4.out K7.out] at HU
    go_wp2_with fail
    refine HU.out.mono ?_;rintro e w9 ⟨rfl,hb1⟩;have HB:=Y1 (Z00 HB.out hb1);clear hb1 HU a0 a1 a2 a3 a4 b0 b1 b2 b3 b4
    go_wp2_with fail
    refine (Z07 _ (HG.out.next HB.out)).mono ?_;rintro e w10 ⟨rfl,hb1⟩;have HB:=Y1 (Z00 HB1.out (Z00 HB.out hb1));clear hb1;go_wp2;go_ret;exact ⟨rfl,HB.out⟩
 | true=>
  have K2:=Y1 h1;clear h1;obtain ⟨_,⟨m0,m1,m2,m3,m4⟩,_⟩:=HXm.out.next HB.out;simp only[Nat.zero_add] at m0 m1 m2 m3 m4;obtain ⟨_,⟨b0,b1,b2,b3,b4⟩,_⟩:=HXb.out.next HB.out;simp only[Nat.zero_add] at b0 b1 b2 b3 b4;have HU:=Y1 (Z0h m b pm pb _ (HAm.out.next HB.out) (HAb.out.next HB.out) (HG.out.next HB.out))
  try unfold sv at HU
  go_wp2_with fail
  refine HU.out.mono ?_;rintro e w11 ⟨rfl,hb1⟩;have HB:=Y1 (Z00 HB.out hb1);clear hb1 HU m0 m1 m2 m3 m4 b0 b1 b2 b3 b4;cases h1:Grd.alike m b with
  | false=>
   have K12:=Y1 h1;clear h1;obtain ⟨_,⟨a0,a1,a2,a3,a4⟩,_⟩:=HXa.out.next HB.out;simp only[Nat.zero_add] at a0 a1 a2 a3 a4;obtain ⟨_,⟨m0,m1,m2,m3,m4⟩,_⟩:=HXm.out.next HB.out;simp only[Nat.zero_add] at m0 m1 m2 m3 m4;have HU:=Y1 (Z0h a m pa pm _ (HAa.out.next HB.out) (HAm.out.next HB.out) (HG.out.next HB.out))
   try unfold sv at HU
   go_wp2_with fail
   refine HU.out.mono ?_;rintro e w13 ⟨rfl,hb1⟩;have HB:=Y1 (Z00 HB.out hb1);clear hb1 HU a0 a1 a2 a3 a4 m0 m1 m2 m3 m4;cases h1:Grd.alike a m with
   | false=>
    have K14:=Y1 h1;clear h1
    go_wp2_with fail
    refine (Z07 _ (HG.out.next HB.out)).mono ?_;rintro e w15 ⟨rfl,hb1⟩;have HB:=Y1 (Z00 HB1.out (Z00 HB.out hb1));clear hb1;go_wp2;go_ret;exact ⟨rfl,HB.out⟩
   | true=>
    have K14:=Y1 h1;clear h1;obtain ⟨_,⟨m0,m1,m2,m3,m4⟩,_⟩:=HXm.out.next HB.out;simp only[Nat.zero_add] at m0 m1 m2 m3 m4;obtain ⟨_,⟨b0,b1,b2,b3,b4⟩,_⟩:=HXb.out.next HB.out;simp only[Nat.zero_add] at b0 b1 b2 b3 b4;have HU:=Y1 (Z0r m b pm pb _ (HAm.out.next HB.out) (HAb.out.next HB.out) (HG.out.next HB.out))
    try unfold sv at HU
    go_wp2_with fail
    refine HU.out.mono ?_;rintro e w16 ⟨rfl,hb1⟩;have HB:=Y1 (Z00 HB.out hb1);clear hb1 HU m0 m1 m2 m3 m4 b0 b1 b2 b3 b4;cases h1:Sub.below m b with
    | false=>
     have K17:=Y1 h1;clear h1
     go_wp2_with fail
     refine (Z07 _ (HG.out.next HB.out)).mono ?_;rintro e w18 ⟨rfl,hb1⟩;have HB:=Y1 (Z00 HB1.out (Z00 HB.out hb1));clear hb1;go_wp2;go_ret;exact ⟨rfl,HB.out⟩
    | true=>
     have K17:=Y1 h1;clear h1;obtain ⟨_,⟨a0,a1,a2,a3,a4⟩,_⟩:=HXa.out.next HB.out;simp only[Nat.zero_add] at a0 a1 a2 a3 a4;obtain ⟨_,⟨b0,b1,b2,b3,b4⟩,_⟩:=HXb.out.next HB.out;simp only[Nat.zero_add] at b0 b1 b2 b3 b4;have HU:=Y1 (Z0a a b pa pb _ (HAa.out.next HB.out) (HAb.out.next HB.out) (HG.out.next HB.out))
     try unfold sv at HU
     rw[Grd.through2 K14.out K17.out] at HU
     go_wp2_with fail
     refine HU.out.mono ?_;rintro e w19 ⟨rfl,hb1⟩;have HB:=Y1 (Z00 HB.out hb1);clear hb1 HU a0 a1 a2 a3 a4 b0 b1 b2 b3 b4
     go_wp2_with fail
     refine (Z07 _ (HG.out.next HB.out)).mono ?_;rintro e w20 ⟨rfl,hb1⟩;have HB:=Y1 (Z00 HB1.out (Z00 HB.out hb1));clear hb1;go_wp2;go_ret;exact ⟨rfl,HB.out⟩
  | true=>
   have K12:=Y1 h1;clear h1;obtain ⟨_,⟨a0,a1,a2,a3,a4⟩,_⟩:=HXa.out.next HB.out;simp only[Nat.zero_add] at a0 a1 a2 a3 a4;obtain ⟨_,⟨b0,b1,b2,b3,b4⟩,_⟩:=HXb.out.next HB.out;simp only[Nat.zero_add] at b0 b1 b2 b3 b4;have HU:=Y1 (Z0a a b pa pb _ (HAa.out.next HB.out) (HAb.out.next HB.out) (HG.out.next HB.out))
   try unfold sv at HU
   rw[Grd.through1 K2.out K12.out] at HU
   go_wp2_with fail
   refine HU.out.mono ?_;rintro e w21 ⟨rfl,hb1⟩;have HB:=Y1 (Z00 HB.out hb1);clear hb1 HU a0 a1 a2 a3 a4 b0 b1 b2 b3 b4;obtain ⟨_,⟨a0,a1,a2,a3,a4⟩,_⟩:=HXa.out.next HB.out;simp only[Nat.zero_add] at a0 a1 a2 a3 a4;obtain ⟨_,⟨m0,m1,m2,m3,m4⟩,_⟩:=HXm.out.next HB.out;simp only[Nat.zero_add] at m0 m1 m2 m3 m4;have HU:=Y1 (Z0h a m pa pm _ (HAa.out.next HB.out) (HAm.out.next HB.out) (HG.out.next HB.out))
   try unfold sv at HU
   go_wp2_with fail
   refine HU.out.mono ?_;rintro e w22 ⟨rfl,hb1⟩;have HB:=Y1 (Z00 HB.out hb1);clear hb1 HU a0 a1 a2 a3 a4 m0 m1 m2 m3 m4;cases h1:Grd.alike a m with
   | false=>
    have K23:=Y1 h1;clear h1
    go_wp2_with fail
    refine (Z07 _ (HG.out.next HB.out)).mono ?_;rintro e w24 ⟨rfl,hb1⟩;have HB:=Y1 (Z00 HB1.out (Z00 HB.out hb1));clear hb1;go_wp2;go_ret;exact ⟨rfl,HB.out⟩
   | true=>
    have K23:=Y1 h1;clear h1;obtain ⟨_,⟨m0,m1,m2,m3,m4⟩,_⟩:=HXm.out.next HB.out;simp only[Nat.zero_add] at m0 m1 m2 m3 m4;obtain ⟨_,⟨b0,b1,b2,b3,b4⟩,_⟩:=HXb.out.next HB.out;simp only[Nat.zero_add] at b0 b1 b2 b3 b4;have HU:=Y1 (Z0r m b pm pb _ (HAm.out.next HB.out) (HAb.out.next HB.out) (HG.out.next HB.out))
    try unfold sv at HU
    go_wp2_with fail
    refine HU.out.mono ?_;rintro e w25 ⟨rfl,hb1⟩;have HB:=Y1 (Z00 HB.out hb1);clear hb1 HU m0 m1 m2 m3 m4 b0 b1 b2 b3 b4;cases h1:Sub.below m b with
    | false=>
     have K26:=Y1 h1;clear h1
     go_wp2_with fail
     refine (Z07 _ (HG.out.next HB.out)).mono ?_;rintro e w27 ⟨rfl,hb1⟩;have HB:=Y1 (Z00 HB1.out (Z00 HB.out hb1));clear hb1;go_wp2;go_ret;exact ⟨rfl,HB.out⟩
    | true=>
     have K26:=Y1 h1;clear h1;obtain ⟨_,⟨a0,a1,a2,a3,a4⟩,_⟩:=HXa.out.next HB.out;simp only[Nat.zero_add] at a0 a1 a2 a3 a4;obtain ⟨_,⟨b0,b1,b2,b3,b4⟩,_⟩:=HXb.out.next HB.out;simp only[Nat.zero_add] at b0 b1 b2 b3 b4;have HU:=Y1 (Z0a a b pa pb _ (HAa.out.next HB.out) (HAb.out.next HB.out) (HG.out.next HB.out))
     try unfold sv at HU
     rw[Grd.through2 K23.out K26.out] at HU
     go_wp2_with fail
     refine HU.out.mono ?_;rintro e w28 ⟨rfl,hb1⟩;have HB:=Y1 (Z00 HB.out hb1);clear hb1 HU a0 a1 a2 a3 a4 b0 b1 b2 b3 b4
     go_wp2_with fail
     refine (Z07 _ (HG.out.next HB.out)).mono ?_;rintro e w29 ⟨rfl,hb1⟩;have HB:=Y1 (Z00 HB1.out (Z00 HB.out hb1));clear hb1;go_wp2;go_ret;exact ⟨rfl,HB.out⟩
end SubM
end Go.Proofs.YtkhoflciahkphaaDoor
namespace Go.Proofs.YtkhoflciahkphaaDoor.gradualThrough
section
open Go.ChangeShapes Go.WideShapes Go.ChangeAt Go.RowKit
open Go.ChangeMaps (open_string shut_string)
theorem walk (w:World) (u0:Shp.Sh) (p0:Ptr) (S0:ShAt w w.heap.size p0 u0) (u1:Shp.Sh) (p1:Ptr) (S1:ShAt w w.heap.size p1 u1) (u2:Shp.Sh) (p2:Ptr) (S2:ShAt w w.heap.size p2 u2) (hg:WGlobs w):Y9 7 #[.agg (Y8 u0 p0),.agg (Y8 u1 p1),.agg (Y8 u2 p2)] w (.bool true):=SubM.gradThrough_walk u0 p0 u1 p1 u2 p2 w S0 S1 S2 hg
theorem own:ownKnob Tryd.prog.godebug=none:=by kernel_rfl
theorem laidOut:laidOutB Tryd.prog=true:=by kernel_rfl
theorem contract (H:Type) (enc:TypeId×Value->H) (W:World) (base:Nat) (args:Array Value) (ds gs:List (DataW H)) (before:List MemPlace)
 (hval0: ∀(j:Nat) t v,Tryd.f7.params[j]? =some t->args[j]? =some v->Value.okWide Tryd.prog W .any base t v)
 (hW:DataW.Whole enc Tryd.prog Tryd.f7.params.toList Rows.gradualThroughSpec.vars false W args.toList ds gs before) (hL:laidMetH Tryd.prog Rows.gradualThroughRow.laid W) (hsz0: (DataW.weightsEach Tryd.prog (Tryd.f7.params.toList++Rows.gradualThroughSpec.plain.varTypes Tryd.prog) (ds++gs)).all (· <=reachBytes)=true):
 Calls Tryd.prog 7 args W fun e W'=> ∃v,e= .returned v/\Rows.gradualThroughSpec.post enc Tryd.prog Tryd.f7 false true false false W args v W':=by
 have hval: ∀(j:Nat) t v,Tryd.f7.params[j]? =some t->args[j]? =some v->Value.okWide Tryd.prog W .any base t v:=hval0;have hsz: (DataW.weightsEach Tryd.prog (Tryd.f7.params.toList++Rows.gradualThroughSpec.plain.varTypes Tryd.prog) (ds++gs)).all (· <=reachBytes)=true:=hsz0
 have hW':=hW;obtain ⟨p,q,hA0,hV,rfl,hfz,hnd⟩:=hW;have hA:DataW.TrodAll enc Tryd.prog W 0 (fun _=>true) true Tryd.f7.params.toList args.toList ds p:=hA0;rw[Tryd.params7] at hA hval hsz;obtain ⟨v0,vs0,d0,ds0,p0,q0,hargs,rfl,rfl,h0,t0⟩:=trodAll_cons hA;obtain ⟨v1,vs1,d1,ds1,p1,q1,rfl,rfl,rfl,h1,t1⟩:=trodAll_cons t0;obtain ⟨v2,vs2,d2,ds2,p2,q2,rfl,rfl,rfl,h2,t2⟩:=trodAll_cons t1;obtain ⟨rfl,rfl,rfl⟩:=trodAll_nil t2;obtain rfl:args=#[v0,v1,v2]:=by cases args; simp_all
 obtain ⟨rfl,rfl⟩:=trodVars_none hV;have k0:=h0;have lt0: ∀x∈p0,x.block < W.heap.size:=by obtain ⟨m,hm⟩:=k0; exact DataW.trod_lt m _ _ _ hm
 obtain ⟨u0,y0,rfl,S0⟩:=Z0A (hval 0 25 v0 rfl rfl) h0;have k1:=h1;have lt1: ∀x∈p1,x.block < W.heap.size:=by obtain ⟨m,hm⟩:=k1; exact DataW.trod_lt m _ _ _ hm
 obtain ⟨u1,y1,rfl,S1⟩:=Z0A (hval 1 25 v1 rfl rfl) h1;have k2:=h2;have lt2: ∀x∈p2,x.block < W.heap.size:=by obtain ⟨m,hm⟩:=k2; exact DataW.trod_lt m _ _ _ hm
 obtain ⟨u2,y2,rfl,S2⟩:=Z0A (hval 2 25 v2 rfl rfl) h2;clear hA0 hval0;rw[MakeChecks.laidMetH_plain _ _ _ (by kernel_rfl)] at hL;have hglob:WGlobs W:=Z22 hL (List.Mem.head _);refine (walk W u0 y0 S0 u1 y1 S1 u2 y2 S2 hglob).mono fun e W' ⟨he,bel⟩=> ?_;subst he;exact ⟨_,rfl,_,_,_,[],_,[],hW',trodAll_mk1 (shut_bool Tryd.underlying4 _),(trodAll_cons_mk (Below.trod laidOut (by kernel_rfl) (of_decide_eq_true (by kernel_rfl)) k0 bel lt0) (trodAll_cons_mk (Below.trod laidOut (by kernel_rfl) (of_decide_eq_true (by kernel_rfl)) k1 bel lt1) (trodAll_cons_mk (Below.trod laidOut (by kernel_rfl) (of_decide_eq_true (by kernel_rfl)) k2 bel lt2) trodAll_mk0))),rfl,bel.frame _,fun h=>by cases h⟩
theorem lifted (os:Os) (started:os.Started) (H:Type) (enc:TypeId×Value->H):
 ReturnsInHanded {} Tryd.checked os 7 .any (fun w args=>(Rows.gradualThroughSpec.pre enc Tryd.prog Tryd.f7 Rows.gradualThroughRow.domain false w args/\laidMetH Tryd.prog Rows.gradualThroughRow.laid w)/\sizedMet enc Tryd.prog Tryd.f7 (OpenSpec.ofChange Rows.gradualThroughSpec) false w args)
  (Rows.gradualThroughSpec.post enc Tryd.prog Tryd.f7 false true false false):=by
 refine returnsInHanded_of_change_and (C:=Tryd.checked) (X:=fun w _=>laidMetH Tryd.prog Rows.gradualThroughRow.laid w) (fun _ _ _ hh h=>h.of_heap hh) own started (by kernel_rfl) Tryd.func7
  (ChangeSpec.witness_shaped (enc:=enc) (C:=Tryd.checked) (os:=os) (X:=fun w _=>laidMetH Tryd.prog Rows.gradualThroughRow.laid w) false (World.laidAll Tryd.prog os Rows.gradualThroughRow.laid) #[(.agg #[.int .i64 0,.string ByteArray.empty,.string ByteArray.empty,.slice none 0 0,.slice none 0 0]),(.agg #[.int .i64 0,.string ByteArray.empty,.string ByteArray.empty,.slice none 0 0,.slice none 0 0]),(.agg #[.int .i64 0,.string ByteArray.empty,.string ByteArray.empty,.slice none 0 0,.slice none 0 0])] 8 (World.laidAll_os _ _ _)
   (World.shaped_of_ZipB (by kernel_rfl) (by kernel_rfl)) (by kernel_rfl) (by kernel_rfl) (by kernel_rfl)
   (by rw[MakeChecks.laidMetH_plain _ _ _ (by kernel_rfl)]; exact laidMet_laidAll _ (by kernel_rfl) (by kernel_rfl))) ?_
 intro W base args ds gs before hval hW _ hsz hL _;exact contract H enc W base args ds gs before hval hW hL hsz
theorem proved:Rows.GradualThroughSaid:=
 OpenClaim.holds_of_wide 7 Tryd.f7 rfl rfl rfl rfl rfl rfl rfl ⟨rfl,rfl,rfl,rfl,rfl⟩ rfl rfl rfl rfl rfl (by kernel_rfl) Tryd.func7 (by kernel_rfl)
  (of_decide_eq_true (by kernel_rfl)) (by unfold Func.isWrapper; first | (rw[if_pos (by decide+kernel)]; kernel_rfl) | (rw[if_neg (by decide+kernel)]; exact ⟨rfl,rfl⟩))
  (fun os started H enc _=>lifted os started H enc)
theorem card:Rows.GradualThroughCardSaid:=
 Claim7.holds_tied_plain_at .later [] [.data] true _ false proved (fun _ h=>by cases h) (by kernel_rfl) (fun _ h=>by cases h) gradualThrough_row_tie rfl ⟨rfl,rfl⟩ (by kernel_rfl) rfl
  (fun f fn hf hfn=>by
   obtain rfl:f=7:=Option.some.inj ((show Tryd.prog.funcNamed "pandect/pandectlaw13.GradualThrough" =some 7 by kernel_rfl).symm.trans hf) |>.symm;obtain rfl:fn=Tryd.f7:=(Option.some.inj (Tryd.func7.symm.trans hfn)).symm;exact ⟨by kernel_rfl,fun j t ht=>by
    rw[Tryd.params7] at ht;have hm:t∈ [25,25,25]:=by simpa using Array.mem_of_getElem? ht
    have hall: ([25,25,25].all fun u=> !Tryd.prog.wantsStandIn u)=true:=by kernel_rfl
    exact (show Tryd.prog.wantsStandIn t=false by simpa using List.all_eq_true.1 hall t hm)⟩)
  (by kernel_rfl)
end
end Go.Proofs.YtkhoflciahkphaaDoor.gradualThrough
