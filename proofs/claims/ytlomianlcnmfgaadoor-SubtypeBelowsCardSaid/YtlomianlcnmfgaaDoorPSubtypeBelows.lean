/- SubtypeBelows: below is the document's; for all values that the row lets in, with the program's variable laid as its text lays it. -/
import Derived.Test.YtlomianlcnmfgaaDoorTie
import Derived.Test.YtlomianlcnmfgaaDoorCards
import Derived.LaidMore
import Derived.Lay
import Derived.Test.YtlomianlcnmfgaaDoorK8n1
import Derived.Test.YtlomianlcnmfgaaDoorK0n13
set_option linter.unusedVariables false
set_option linter.unusedSimpArgs false
set_option linter.unusedSectionVars false
set_option maxRecDepth 100000
set_option maxHeartbeats 16000000
namespace Go.Proofs.YtlomianlcnmfgaaDoor
open Go.RowKit Shp Sub
namespace SubM
theorem Z3G (a b:Sh) (pa pb:Ptr) (w:World) (ha:ShAt w w.heap.size pa a) (hb:ShAt w w.heap.size pb b) (hg:WGlobs w):
 Y9 9 #[.agg (Y8 a pa),.agg (Y8 b pb)] w (.bool (Sub.below a b)):=by
 have hx1:=Z02 w (.cells (Y8 a pa) 25);obtain ⟨u1,hu1⟩: ∃u1,w.alloc (.cells (Y8 a pa) 25)=u1:=⟨_,rfl⟩;have hs1:u1.heap.size=w.heap.size+1:=by rw[<-hu1]; simp
 have hy1:=Z03 w a pa;rw[hu1] at hx1 hy1;have hx2:=Z02 u1 (.cells (Y8 b pb) 25);obtain ⟨W0,hu2⟩: ∃u2,u1.alloc (.cells (Y8 b pb) 25)=u2:=⟨_,rfl⟩;have hy2:=Z03 u1 b pb;rw[hu2] at hx2 hy2;rw[hs1] at hy2;have hb12:=Z00 hx1 hx2;have HXA:=Y1 (hy1.next hx2);have HXB:=Y1 hy2;have HAA:=Y1 (ha.next hb12);have HAB:=Y1 (hb.next hb12);have HG:=Y1 (hg.next hb12);have HB:=Y1 hb12;clear hx1 hx2 hy1 hy2 hb12 ha hb hg;go_enter Tryd.func9,Tryd.ntmps9;obtain ⟨_,⟨a0,a1,a2,a3,a4⟩,_⟩:=HXA.out;simp only[Nat.zero_add] at a0 a1 a2 a3 a4
 go_wp2_with fail
 refine (Z42 a pa W0 HAA.out).mono ?_;rintro e w1 ⟨rfl,hb1⟩;have HB1:=Y1 hb1;clear hb1 a0 a1 a2 a3 a4 hu1 hu2 hs1;by_cases ca:check a=0
 {have HCA:=Y1 ca;rw[ca];clear ca;obtain ⟨_,⟨b0,b1,b2,b3,b4⟩,_⟩:=HXB.out.next HB1.out;simp only[Nat.zero_add] at b0 b1 b2 b3 b4
  go_wp2_with fail
  refine (Z42 b pb w1 (HAB.out.next HB1.out)).mono ?_;rintro e w2 ⟨rfl,hb2⟩;have HB2:=Y1 (Z00 HB1.out hb2);clear hb2 b0 b1 b2 b3 b4;by_cases cb:check b=0
  {have HCB:=Y1 cb;rw[cb];clear cb;have hta:Two 40 a b:=⟨(Z09 HCA.out).2.2,(Z09 HCB.out).2.2,(Z09 HCA.out).2.1,(Z09 HCB.out).2.1,(Z09 HCA.out).1,(Z09 HCB.out).1⟩;have HU:=Y1 (Z9c 40 a b pa pb w2 hta (HAA.out.next HB2.out) (HAB.out.next HB2.out));obtain ⟨_,⟨a0,a1,a2,a3,a4⟩,_⟩:=HXA.out.next HB2.out;obtain ⟨_,⟨b0,b1,b2,b3,b4⟩,_⟩:=HXB.out.next HB2.out;simp only[Nat.zero_add] at a0 a1 a2 a3 a4 b0 b1 b2 b3 b4;clear hta
   go_wp2_with fail
   refine HU.out.mono ?_;rintro e w3 ⟨rfl,hb3⟩;have HB3:=Y1 (Z00 HB.out (Z00 HB2.out hb3));clear hb3 HU a0 a1 a2 a3 a4 b0 b1 b2 b3 b4;go_wp2;go_ret;exact ⟨by unfold Sub.below; rw[decide_eq_true HCA.out,decide_eq_true HCB.out]; rfl,HB3.out⟩}
  {have hcb: (check b==0)=false:=by simpa using cb
   have HCB:=Y1 cb;go_wp2;go_ret;exact ⟨by rw[Z26 (fun h=>HCB.out h.2)]; rfl,Z00 HB.out HB2.out⟩}}
 {have hca: (check a==0)=false:=by simpa using ca
  have HCA:=Y1 ca;go_wp2;go_ret;exact ⟨by rw[Z26 (fun h=>HCA.out h.1)]; rfl,Z00 HB.out HB1.out⟩}
def belowsT (a:Sh) (pa:Ptr) (b:Sh) (pb:Ptr) (v1 v2:Bool):Nat->Want
 | 0=> .val (.agg (Y8 a pa))
 | 1=> .val (.agg (Y8 b pb))
 | 2=> .val (.bool v1)
 | 3=> .val (.agg (Y8 a pa))
 | 4=> .val (.agg (Y8 b pb))
 | 5=> .val (.bool v1)
 | 6=> .val (.bool true)
 | 7=> .val (.bool true)
 | 8=> .val (.agg (Y8 b pb))
 | 9=> .val (.agg (Y8 a pa))
 | 10=> .val (.bool v2)
 | 11=> .val (.agg (Y8 b pb))
 | 12=> .val (.agg (Y8 a pa))
 | 13=> .val (.bool v2)
 | 14=> .val (.bool true)
 | 15=> .val (.bool true)
 | 16=> .val (.bool true)
 | 17=> .val (.bool true)
 | 18=> .val (.bool true)
 | 19=> .val (.bool true)
 | _=> .any
theorem subBelows_walk (a:Sh) (pa:Ptr) (b:Sh) (pb:Ptr) (w:World) (ha:ShAt w w.heap.size pa a) (hb:ShAt w w.heap.size pb b) (hg:WGlobs w):
 Y9 3 #[.agg (Y8 a pa),.agg (Y8 b pb)] w (.bool true):=by
 have hx1:=Z02 w (.cells (Y8 a pa) 25);obtain ⟨u1,hu1⟩: ∃u1,w.alloc (.cells (Y8 a pa) 25)=u1:=⟨_,rfl⟩;have hs1:u1.heap.size=w.heap.size+1:=by rw[<-hu1]; simp
 have hy1:=Z03 w a pa;rw[hu1] at hx1 hy1;have hx2:=Z02 u1 (.cells (Y8 b pb) 25);obtain ⟨W0,hu2⟩: ∃u2,u1.alloc (.cells (Y8 b pb) 25)=u2:=⟨_,rfl⟩;have hy2:=Z03 u1 b pb;rw[hu2] at hx2 hy2;rw[hs1] at hy2;have hb12:=Z00 hx1 hx2;have HXA:=Y1 (hy1.next hx2);have HXB:=Y1 hy2;have HAA:=Y1 (ha.next hb12);have HAB:=Y1 (hb.next hb12);have HG:=Y1 (hg.next hb12);have HB:=Y1 hb12;clear hx1 hx2 hy1 hy2 hb12 ha hb hg;obtain ⟨v1,hv1⟩: ∃v,Sub.below a b=v:=⟨_,rfl⟩;obtain ⟨v2,hv2⟩: ∃v,Sub.below b a=v:=⟨_,rfl⟩;have HV1:=Y1 hv1;have HV2:=Y1 hv2;clear hv1 hv2;go_enter Tryd.func3,Tryd.ntmps3
 go_wp2_with fail
 clear hu1 hu2 hs1;refine Z0y (rs:= [0,1,2,3,4,5,6,7,8,9,10,11,12,13,14,15,16,17,18,19])
  (fun u'=> { tmps:=#[.agg (Y8 a pa),.agg (Y8 b pb),.pointer (some { block:=w.heap.size,off:=0 }),.pointer (some { block:=w.heap.size+1,off:=0 }),u' 19,u' 0,u' 1,u' 2,u' 3,u' 4,u' 5,u' 6,u' 7,u' 8,u' 9,u' 10,u' 11,u' 12,u' 13,u' 14,u' 15,u' 16,u' 17,u' 18],defers:= [] })
  (fun j=>([undef,undef,undef,undef,undef,undef,undef,undef,undef,undef,undef,undef,undef,undef,undef,undef,undef,undef,undef,.bool false]:List Value).getD j undef) (belowsT a pa b pb v1 v2) (fun W=>Below W0.heap.size W0 W) (by kernel_rfl) (by kernel_rfl) (by kernel_rfl) Y2.drew ?_ ?_
 refine StepsAt.cons _ rfl (fun u' W K' hJ hd hK=> ?_) ?_
 {obtain ⟨_,⟨y0,y1,y2,y3,y4⟩,_⟩:=HXA.out.next hJ;simp only[Nat.zero_add] at y0 y1 y2 y3 y4;refine Y0 hK hJ rfl rfl rfl ?_
  try dsimp only
  go_simp}
 refine StepsAt.cons _ rfl (fun u' W K' hJ hd hK=> ?_) ?_
 {obtain ⟨_,⟨y0,y1,y2,y3,y4⟩,_⟩:=HXB.out.next hJ;simp only[Nat.zero_add] at y0 y1 y2 y3 y4;refine Y0 hK hJ rfl rfl rfl ?_
  try dsimp only
  go_simp}
 refine StepsAt.cons _ rfl (fun u' W K' hJ hd hK=> ?_) ?_
 {have d0:_=_:=hd 0 (by kernel_rfl);have d1:_=_:=hd 1 (by kernel_rfl);refine Z04 (f:=8) (args:=#[.agg (Y8 a pa),.agg (Y8 b pb)]) (W':=W) rfl ?_ ((Z07 a b pa pb W (HAA.out.next hJ) (HAB.out.next hJ) (HG.out.next hJ)).mono fun e w' h=>⟨_,h.1,hK.out _ _ (congrArg Value.bool HV1.out) (Z00 hJ h.2) h.2⟩)
  try dsimp only
  go_simp}
 refine StepsAt.cons _ rfl (fun u' W K' hJ hd hK=> ?_) ?_
 {obtain ⟨_,⟨y0,y1,y2,y3,y4⟩,_⟩:=HXA.out.next hJ;simp only[Nat.zero_add] at y0 y1 y2 y3 y4;refine Y0 hK hJ rfl rfl rfl ?_
  try dsimp only
  go_simp}
 refine StepsAt.cons _ rfl (fun u' W K' hJ hd hK=> ?_) ?_
 {obtain ⟨_,⟨y0,y1,y2,y3,y4⟩,_⟩:=HXB.out.next hJ;simp only[Nat.zero_add] at y0 y1 y2 y3 y4;refine Y0 hK hJ rfl rfl rfl ?_
  try dsimp only
  go_simp}
 refine StepsAt.cons _ rfl (fun u' W K' hJ hd hK=> ?_) ?_
 {have d3:_=_:=hd 3 (by kernel_rfl);have d4:_=_:=hd 4 (by kernel_rfl);refine Z04 (f:=9) (args:=#[.agg (Y8 a pa),.agg (Y8 b pb)]) (W':=W) rfl ?_ ((Z3G a b pa pb W (HAA.out.next hJ) (HAB.out.next hJ) (HG.out.next hJ)).mono fun e w' h=>⟨_,h.1,hK.out _ _ (congrArg Value.bool HV1.out) (Z00 hJ h.2) h.2⟩)
  try dsimp only
  go_simp}
 refine StepsAt.cons _ rfl (fun u' W K' hJ hd hK=> ?_) ?_
 {have d2:_=_:=hd 2 (by kernel_rfl);have d5:_=_:=hd 5 (by kernel_rfl);refine Y0 hK hJ rfl rfl rfl ?_
  try dsimp only
  go_simp}
 refine StepsAt.cons _ rfl (fun u' W K' hJ hd hK=> ?_) ?_
 {have d6:_=_:=hd 6 (by kernel_rfl);refine Y0 hK hJ rfl rfl rfl ?_
  try dsimp only
  go_simp}
 refine StepsAt.cons _ rfl (fun u' W K' hJ hd hK=> ?_) ?_
 {have dg:_=_:=hd 7 (by kernel_rfl);obtain ⟨_,⟨y0,y1,y2,y3,y4⟩,_⟩:=HXB.out.next hJ;simp only[Nat.zero_add] at y0 y1 y2 y3 y4;refine Y0 hK hJ rfl rfl ?_ ?_
  {simp[Region.wanted,yielded,dg]}
  {try dsimp only
   go_simp}}
 refine StepsAt.cons _ rfl (fun u' W K' hJ hd hK=> ?_) ?_
 {have dg:_=_:=hd 7 (by kernel_rfl);obtain ⟨_,⟨y0,y1,y2,y3,y4⟩,_⟩:=HXA.out.next hJ;simp only[Nat.zero_add] at y0 y1 y2 y3 y4;refine Y0 hK hJ rfl rfl ?_ ?_
  {simp[Region.wanted,yielded,dg]}
  {try dsimp only
   go_simp}}
 refine StepsAt.cons _ rfl (fun u' W K' hJ hd hK=> ?_) ?_
 {have dg:_=_:=hd 7 (by kernel_rfl);have d8:_=_:=hd 8 (by kernel_rfl);have d9:_=_:=hd 9 (by kernel_rfl);refine Z04 (f:=8) (args:=#[.agg (Y8 b pb),.agg (Y8 a pa)]) (W':=W) ?_ ?_ ((Z07 b a pb pa W (HAB.out.next hJ) (HAA.out.next hJ) (HG.out.next hJ)).mono fun e w' h=>⟨_,h.1,hK.out _ _ (congrArg Value.bool HV2.out) (Z00 hJ h.2) h.2⟩)
  {simp[Region.wanted,yielded,dg]}
  {try dsimp only
   go_simp}}
 refine StepsAt.cons _ rfl (fun u' W K' hJ hd hK=> ?_) ?_
 {have dg:_=_:=hd 7 (by kernel_rfl);obtain ⟨_,⟨y0,y1,y2,y3,y4⟩,_⟩:=HXB.out.next hJ;simp only[Nat.zero_add] at y0 y1 y2 y3 y4;refine Y0 hK hJ rfl rfl ?_ ?_
  {simp[Region.wanted,yielded,dg]}
  {try dsimp only
   go_simp}}
 refine StepsAt.cons _ rfl (fun u' W K' hJ hd hK=> ?_) ?_
 {have dg:_=_:=hd 7 (by kernel_rfl);obtain ⟨_,⟨y0,y1,y2,y3,y4⟩,_⟩:=HXA.out.next hJ;simp only[Nat.zero_add] at y0 y1 y2 y3 y4;refine Y0 hK hJ rfl rfl ?_ ?_
  {simp[Region.wanted,yielded,dg]}
  {try dsimp only
   go_simp}}
 refine StepsAt.cons _ rfl (fun u' W K' hJ hd hK=> ?_) ?_
 {have dg:_=_:=hd 7 (by kernel_rfl);have d11:_=_:=hd 11 (by kernel_rfl);have d12:_=_:=hd 12 (by kernel_rfl);refine Z04 (f:=9) (args:=#[.agg (Y8 b pb),.agg (Y8 a pa)]) (W':=W) ?_ ?_ ((Z3G b a pb pa W (HAB.out.next hJ) (HAA.out.next hJ) (HG.out.next hJ)).mono fun e w' h=>⟨_,h.1,hK.out _ _ (congrArg Value.bool HV2.out) (Z00 hJ h.2) h.2⟩)
  {simp[Region.wanted,yielded,dg]}
  {try dsimp only
   go_simp}}
 refine StepsAt.cons _ rfl (fun u' W K' hJ hd hK=> ?_) ?_
 {have dg:_=_:=hd 7 (by kernel_rfl);have d10:_=_:=hd 10 (by kernel_rfl);have d13:_=_:=hd 13 (by kernel_rfl);refine Y0 hK hJ rfl rfl ?_ ?_
  {simp[Region.wanted,yielded,dg]}
  {try dsimp only
   go_simp}}
 refine StepsAt.cons _ rfl (fun u' W K' hJ hd hK=> ?_) ?_
 {have d7:_=_:=hd 7 (by kernel_rfl);have d14:_=_:=hd 14 (by kernel_rfl);refine Y0 hK hJ rfl rfl rfl ?_
  try dsimp only
  go_simp}
 refine StepsAt.cons _ rfl (fun u' W K' hJ hd hK=> ?_) ?_
 {have d15:_=_:=hd 15 (by kernel_rfl);refine Y0 hK hJ rfl rfl rfl ?_
  try dsimp only
  go_simp}
 refine StepsAt.cons _ rfl (fun u' W K' hJ hd hK=> ?_) ?_
 {have dg:_=_:=hd 16 (by kernel_rfl);refine Z04 (f:=10) (args:=#[]) (W':=W) ?_ ?_ ((Z0a W (HG.out.next hJ)).mono fun e w' h=>⟨_,h.1,hK.out _ _ rfl (Z00 hJ h.2) h.2⟩)
  {simp[Region.wanted,yielded,dg]}
  {try dsimp only
   go_simp}}
 refine StepsAt.cons _ rfl (fun u' W K' hJ hd hK=> ?_) ?_
 {have d16:_=_:=hd 16 (by kernel_rfl);have d17:_=_:=hd 17 (by kernel_rfl);refine Y0 hK hJ rfl rfl rfl ?_
  try dsimp only
  go_simp}
 refine StepsAt.cons _ rfl (fun u' W K' hJ hd hK=> ?_) StepsAt.nil
 {have d18:_=_:=hd 18 (by kernel_rfl);refine Y0 hK hJ rfl rfl rfl ?_
  try dsimp only
  go_simp}
 intro u' W' hJ' hok
 try dsimp only
 rw[show u' 19= .bool true from hok 19 (by decide)];clear hok;go_wp2;go_ret;exact ⟨rfl,Z00 HB.out hJ'⟩
end SubM
end Go.Proofs.YtlomianlcnmfgaaDoor
namespace Go.Proofs.YtlomianlcnmfgaaDoor.subtypeBelows
section
open Go.ChangeShapes Go.WideShapes Go.ChangeAt Go.RowKit
open Go.ChangeMaps (open_string shut_string)
theorem walk (w:World) (u0:Shp.Sh) (p0:Ptr) (S0:ShAt w w.heap.size p0 u0) (u1:Shp.Sh) (p1:Ptr) (S1:ShAt w w.heap.size p1 u1) (hg:WGlobs w):Y9 3 #[.agg (Y8 u0 p0),.agg (Y8 u1 p1)] w (.bool true):=SubM.subBelows_walk u0 p0 u1 p1 w S0 S1 hg
theorem own:ownKnob Tryd.prog.godebug=none:=by kernel_rfl
theorem laidOut:laidOutB Tryd.prog=true:=by kernel_rfl
theorem contract (H:Type) (enc:TypeId×Value->H) (W:World) (base:Nat) (args:Array Value) (ds gs:List (DataW H)) (before:List MemPlace)
 (hval0: ∀(j:Nat) t v,Tryd.f3.params[j]? =some t->args[j]? =some v->Value.okWide Tryd.prog W .any base t v)
 (hW:DataW.Whole enc Tryd.prog Tryd.f3.params.toList Rows.subtypeBelowsSpec.vars false W args.toList ds gs before) (hL:laidMetH Tryd.prog Rows.subtypeBelowsRow.laid W) (hsz0: (DataW.weightsEach Tryd.prog (Tryd.f3.params.toList++Rows.subtypeBelowsSpec.plain.varTypes Tryd.prog) (ds++gs)).all (· <=reachBytes)=true):
 Calls Tryd.prog 3 args W fun e W'=> ∃v,e= .returned v/\Rows.subtypeBelowsSpec.post enc Tryd.prog Tryd.f3 false true false false W args v W':=by
 have hval: ∀(j:Nat) t v,Tryd.f3.params[j]? =some t->args[j]? =some v->Value.okWide Tryd.prog W .any base t v:=hval0;have hsz: (DataW.weightsEach Tryd.prog (Tryd.f3.params.toList++Rows.subtypeBelowsSpec.plain.varTypes Tryd.prog) (ds++gs)).all (· <=reachBytes)=true:=hsz0
 have hW':=hW;obtain ⟨p,q,hA0,hV,rfl,hfz,hnd⟩:=hW;have hA:DataW.TrodAll enc Tryd.prog W 0 (fun _=>true) true Tryd.f3.params.toList args.toList ds p:=hA0;rw[Tryd.params3] at hA hval hsz;obtain ⟨v0,vs0,d0,ds0,p0,q0,hargs,rfl,rfl,h0,t0⟩:=trodAll_cons hA;obtain ⟨v1,vs1,d1,ds1,p1,q1,rfl,rfl,rfl,h1,t1⟩:=trodAll_cons t0;obtain ⟨rfl,rfl,rfl⟩:=trodAll_nil t1;obtain rfl:args=#[v0,v1]:=by cases args; simp_all
 obtain ⟨rfl,rfl⟩:=trodVars_none hV;have k0:=h0;have lt0: ∀x∈p0,x.block < W.heap.size:=by obtain ⟨m,hm⟩:=k0; exact DataW.trod_lt m _ _ _ hm
 obtain ⟨u0,y0,rfl,S0⟩:=Z0x (hval 0 25 v0 rfl rfl) h0;have k1:=h1;have lt1: ∀x∈p1,x.block < W.heap.size:=by obtain ⟨m,hm⟩:=k1; exact DataW.trod_lt m _ _ _ hm
 obtain ⟨u1,y1,rfl,S1⟩:=Z0x (hval 1 25 v1 rfl rfl) h1;clear hA0 hval0;rw[MakeChecks.laidMetH_plain _ _ _ (by kernel_rfl)] at hL;have hglob:WGlobs W:=Z29 hL (List.Mem.head _);refine (walk W u0 y0 S0 u1 y1 S1 hglob).mono fun e W' ⟨he,bel⟩=> ?_;subst he;exact ⟨_,rfl,_,_,_,[],_,[],hW',trodAll_mk1 (shut_bool Tryd.underlying4 _),(trodAll_cons_mk (Below.trod laidOut (by kernel_rfl) (of_decide_eq_true (by kernel_rfl)) k0 bel lt0) (trodAll_cons_mk (Below.trod laidOut (by kernel_rfl) (of_decide_eq_true (by kernel_rfl)) k1 bel lt1) trodAll_mk0)),rfl,bel.frame _,fun h=>by cases h⟩
theorem lifted (os:Os) (started:os.Started) (H:Type) (enc:TypeId×Value->H):
 ReturnsInHanded {} Tryd.checked os 3 .any (fun w args=>(Rows.subtypeBelowsSpec.pre enc Tryd.prog Tryd.f3 Rows.subtypeBelowsRow.domain false w args/\laidMetH Tryd.prog Rows.subtypeBelowsRow.laid w)/\sizedMet enc Tryd.prog Tryd.f3 (OpenSpec.ofChange Rows.subtypeBelowsSpec) false w args)
  (Rows.subtypeBelowsSpec.post enc Tryd.prog Tryd.f3 false true false false):=by
 refine returnsInHanded_of_change_and (C:=Tryd.checked) (X:=fun w _=>laidMetH Tryd.prog Rows.subtypeBelowsRow.laid w) (fun _ _ _ hh h=>h.of_heap hh) own started (by kernel_rfl) Tryd.func3
  (ChangeSpec.witness_shaped (enc:=enc) (C:=Tryd.checked) (os:=os) (X:=fun w _=>laidMetH Tryd.prog Rows.subtypeBelowsRow.laid w) false (World.laidAll Tryd.prog os Rows.subtypeBelowsRow.laid) #[(.agg #[.int .i64 0,.string ByteArray.empty,.string ByteArray.empty,.slice none 0 0,.slice none 0 0]),(.agg #[.int .i64 0,.string ByteArray.empty,.string ByteArray.empty,.slice none 0 0,.slice none 0 0])] 8 (World.laidAll_os _ _ _)
   (World.shaped_of_ZipB (by kernel_rfl) (by kernel_rfl)) (by kernel_rfl) (by kernel_rfl) (by kernel_rfl)
   (by rw[MakeChecks.laidMetH_plain _ _ _ (by kernel_rfl)]; exact laidMet_laidAll _ (by kernel_rfl) (by kernel_rfl))) ?_
 intro W base args ds gs before hval hW _ hsz hL _;exact contract H enc W base args ds gs before hval hW hL hsz
theorem proved:Rows.SubtypeBelowsSaid:=
 OpenClaim.holds_of_wide 3 Tryd.f3 rfl rfl rfl rfl rfl rfl rfl ⟨rfl,rfl,rfl,rfl,rfl⟩ rfl rfl rfl rfl rfl (by kernel_rfl) Tryd.func3 (by kernel_rfl)
  (of_decide_eq_true (by kernel_rfl)) (by unfold Func.isWrapper; first | (rw[if_pos (by decide+kernel)]; kernel_rfl) | (rw[if_neg (by decide+kernel)]; exact ⟨rfl,rfl⟩))
  (fun os started H enc _=>lifted os started H enc)
theorem card:Rows.SubtypeBelowsCardSaid:=
 Claim7.holds_tied_plain_at .later [] [.data] true _ false proved (fun _ h=>by cases h) (by kernel_rfl) (fun _ h=>by cases h) subtypeBelows_row_tie rfl ⟨rfl,rfl⟩ (by kernel_rfl) rfl
  (fun f fn hf hfn=>by
   obtain rfl:f=3:=Option.some.inj ((show Tryd.prog.funcNamed "pandect/pandectlaw12.SubtypeBelows" =some 3 by kernel_rfl).symm.trans hf) |>.symm;obtain rfl:fn=Tryd.f3:=(Option.some.inj (Tryd.func3.symm.trans hfn)).symm;exact ⟨by kernel_rfl,fun j t ht=>by
    rw[Tryd.params3] at ht;have hm:t∈ [25,25]:=by simpa using Array.mem_of_getElem? ht
    have hall: ([25,25].all fun u=> !Tryd.prog.wantsStandIn u)=true:=by kernel_rfl
    exact (show Tryd.prog.wantsStandIn t=false by simpa using List.all_eq_true.1 hall t hm)⟩)
  (by kernel_rfl)
end
end Go.Proofs.YtlomianlcnmfgaaDoor.subtypeBelows
