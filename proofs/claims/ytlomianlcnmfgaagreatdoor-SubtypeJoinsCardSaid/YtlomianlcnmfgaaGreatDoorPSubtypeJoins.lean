/- SubtypeJoins: the join is the document's, or none; for all values that the row lets in, with the program's variable laid as its text lays it. -/
import Derived.Test.YtlomianlcnmfgaaGreatDoorTie
import Derived.Test.YtlomianlcnmfgaaGreatDoorCards
import Derived.LaidMore
import Derived.Lay
import Derived.Test.YtlomianlcnmfgaaGreatDoorK0n27
set_option linter.unusedVariables false
set_option linter.unusedSimpArgs false
set_option linter.unusedSectionVars false
set_option maxRecDepth 100000
set_option maxHeartbeats 16000000
namespace Go.Proofs.YtlomianlcnmfgaaGreatDoor
open Go.RowKit Shp Sub
namespace SubM
theorem Zd8 (hD:DocOk true) (a b:Sh) (pa pb:Ptr) (w:World) (ha:ShAt w w.heap.size pa a) (hb:ShAt w w.heap.size pb b):
 Calls Tryz.prog 7 #[.agg (Y8 a pa),.agg (Y8 b pb)] w (JIs true a b w):=by
 have hx1:=Z01 w (.cells (Y8 a pa) 25);obtain ⟨u1,hu1⟩: ∃u1,w.alloc (.cells (Y8 a pa) 25)=u1:=⟨_,rfl⟩;have hs1:u1.heap.size=w.heap.size+1:=by rw[<-hu1]; simp
 have hy1:=Z05 w a pa;rw[hu1] at hx1 hy1;have hx2:=Z01 u1 (.cells (Y8 b pb) 25);obtain ⟨u2,hu2⟩: ∃u2,u1.alloc (.cells (Y8 b pb) 25)=u2:=⟨_,rfl⟩;have hs2:u2.heap.size=w.heap.size+1+1:=by rw[<-hu2]; simp[hs1]
 have hy2:=Z05 u1 b pb;rw[hu2] at hx2 hy2;rw[hs1] at hy2;have hx3:=Z01 u2 (.cells Yb 25);obtain ⟨W1,hW1⟩: ∃W,u2.alloc (.cells Yb 25)=W:=⟨_,rfl⟩;have hz:Box5 W1 (w.heap.size+1+1) Z0c noneQ12:=by rw[<-hW1, <-hs2]; exact Z05 u2 Z0c noneQ12
 rw[hW1] at hx3;have hb23:=Z00 hx2 hx3;have hb13:=Z00 hx1 hb23;have HXa:=Y1 (hy1.next hb23);have HXb:=Y1 (hy2.next hx3);have HAa:=Y1 (ha.next hb13);have HAb:=Y1 (hb.next hb13);have HZ:=Y1 hz;have HZ2:Hid (w.heap.size+1+1 < W1.heap.size):=Y1 hz.1;have HB1:=Y1 hb13;have HD:=Y1 hD;clear hx1 hx2 hx3 hy1 hy2 hb23 hb13 ha hb hz hD;go_enter Tryz.func7,Tryz.ntmps7;have none_end: ∀W:World,Below W1.heap.size W1 W->J true a b=none->JIs true a b w (.returned (.tuple #[.agg #[.int .i64 0,.string ⟨#[]⟩,.string ⟨#[]⟩,.slice none 0 0,.slice none 0 0],.bool false])) (put5 W (w.heap.size+1+1) (.int .i64 0) (.string ⟨#[]⟩) (.string ⟨#[]⟩) (.slice none 0 0) (.slice none 0 0)):=fun W hb h=>by
  exact ZbZ (Z1n (Z00 HB1.out hb) (by omega) _ _ _ _ _) h
 have NE:=Y1 none_end;clear none_end;obtain ⟨_,⟨a0,a1,a2,a3,a4⟩,_⟩:=HXa.out;simp only[Nat.zero_add] at a0 a1 a2 a3 a4
 go_wp2_with fail
 refine (Z1Z a pa W1 HAa.out).mono ?_;rintro e w2 ⟨rfl,hb2⟩;have HB2:=Y1 hb2;clear hb2 a0 a1 a2 a3 a4 hu1 hu2 hs1 hs2 hW1;by_cases ca:check a=0
 {have HCA:=Y1 ca;rw[ca];clear ca;obtain ⟨_,⟨b0,b1,b2,b3,b4⟩,_⟩:=HXb.out.next HB2.out;simp only[Nat.zero_add] at b0 b1 b2 b3 b4
  go_wp2_with fail
  refine (Z1Z b pb w2 (HAb.out.next HB2.out)).mono ?_;rintro e w3 ⟨rfl,hb3⟩;have HB3:=Y1 (Z00 HB2.out hb3);clear hb3 b0 b1 b2 b3 b4;by_cases cb:check b=0
  {have HCB:=Y1 cb;rw[cb];clear cb;have hta:Two 40 a b:=⟨(Z07 HCA.out).2.2,(Z07 HCB.out).2.2,(Z07 HCA.out).2.1,(Z07 HCB.out).2.1,(Z07 HCA.out).1,(Z07 HCB.out).1⟩;have HU:Hid (Calls Tryz.prog 21 #[.agg (Y8 a pa),.agg (Y8 b pb)] w3 fun e w'=> ∃(t:Sh) (q:Ptr),e= .returned (.tuple #[.agg (Y8 t q),.bool (bound 40 true a b).isSome])/\(∀j,bound 40 true a b=some j->t=j/\ShAt w' w'.heap.size q t)/\Below w3.heap.size w3 w'):=Y1 (HD.out a b pa pb w3 hta (HAa.out.next HB3.out) (HAb.out.next HB3.out));obtain ⟨_,⟨a0,a1,a2,a3,a4⟩,_⟩:=HXa.out.next HB3.out;obtain ⟨_,⟨b0,b1,b2,b3,b4⟩,_⟩:=HXb.out.next HB3.out;simp only[Nat.zero_add] at a0 a1 a2 a3 a4 b0 b1 b2 b3 b4;clear hta
   go_wp2_with fail
   refine HU.out.mono ?_;rintro e w4 ⟨t,q,rfl,hj,hb4⟩;have HB4:=Y1 (Z00 HB3.out hb4);have HWJ:=Y1 (ZcB HCA.out HCB.out (fun j h=>(hj j h).1));have hqt: (bound 40 true a b).isSome=true->ShAt w4 w4.heap.size q t:=fun h=>by
    obtain ⟨j,e⟩:=Option.isSome_iff_exists.1 h;exact (hj j e).2
   have HWW:=Y1 (Zca t q (bound 40 true a b).isSome w4 hqt);rw[HWJ.out] at HWW;clear hj hb4 hqt HU HWJ a0 a1 a2 a3 a4 b0 b1 b2 b3 b4
   go_wp2_with fail
   refine HWW.out.mono ?_;rintro e w5 ⟨q5,he,hat,hb5⟩;obtain ⟨r,hr⟩: ∃r,r=(J true a b).getD Z0c:=⟨_,rfl⟩;obtain ⟨ok,hok⟩: ∃ok,ok=(J true a b).isSome:=⟨_,rfl⟩;rw[<-hr, <-hok] at he;rw[<-hr] at hat;subst he;have HR:=Y1 (And.intro hr hok);have HAT:=Y1 hat;have HB5:=Y1 (Z00 HB4.out hb5);obtain ⟨_,⟨r0,r1,r2,r3,r4⟩,y0,y1,y2,y3,y4⟩:=HZ.out.next HB5.out;simp only[Nat.zero_add] at r0 r1 r2 r3 r4;clear hr hok hat hb5 HWW;go_wp2;refine bodyPost_ret (v:= .tuple #[.agg (Y8 r q5),.bool ok]) (by simp[results,Tryz.results7,go_sem,r0,r1,r2,r3,r4]) rfl ?_;have hu:=RX.lay_upd w5 (w.heap.size+1+1) r q5;refine ⟨q5,by rw[<-HR.out.1, <-HR.out.2], ?_,Z1n (Z00 HB1.out HB5.out) (by omega) _ _ _ _ _⟩;rw[<-HR.out.1];refine (HAT.out.upd hu (fun b _ hb e=> ?_)).more (fun b _ hb=>Nat.le_trans (Nat.le_trans HB1.out.size HB4.out.size) hb);have e:b=w.heap.size+1+1:=e;have hb:w4.heap.size<=b:=hb;have:=HZ2.out;have:=HB4.out.size;omega}
  {have hcn: (check b !=0)=true:=by simpa using cb
   have HN:Hid (J true a b=none):=Y1 (by unfold J; exact if_neg (fun h=>cb h.2));obtain ⟨_,⟨r0,r1,r2,r3,r4⟩,y0,y1,y2,y3,y4⟩:=HZ.out.next HB3.out;simp only[Nat.zero_add] at r0 r1 r2 r3 r4;clear cb;go_wp2;refine bodyPost_ret (v:= .tuple #[.agg #[.int .i64 0,.string ⟨#[]⟩,.string ⟨#[]⟩,.slice none 0 0,.slice none 0 0],.bool false]) (by simp[results,Tryz.results7,go_sem,r0,r1,r2,r3,r4]) rfl ?_;exact NE.out _ HB3.out HN.out}}
 {have hcn: (check a !=0)=true:=by simpa using ca
  have HN:Hid (J true a b=none):=Y1 (by unfold J; exact if_neg (fun h=>ca h.1));obtain ⟨_,⟨r0,r1,r2,r3,r4⟩,y0,y1,y2,y3,y4⟩:=HZ.out.next HB2.out;simp only[Nat.zero_add] at r0 r1 r2 r3 r4;clear ca;go_wp2;refine bodyPost_ret (v:= .tuple #[.agg #[.int .i64 0,.string ⟨#[]⟩,.string ⟨#[]⟩,.slice none 0 0,.slice none 0 0],.bool false]) (by simp[results,Tryz.results7,go_sem,r0,r1,r2,r3,r4]) rfl ?_;exact NE.out _ HB2.out HN.out}
theorem ZcH (hD:DocOk true) (a:Sh) (pa:Ptr) (b:Sh) (pb:Ptr) (w:World) (ha:ShAt w w.heap.size pa a) (hb:ShAt w w.heap.size pb b) (hg:WGlobs w):
 Y9 3 #[.agg (Y8 a pa),.agg (Y8 b pb)] w (.bool true):=by
 have hx1:=Z01 w (.cells (Y8 a pa) 25);obtain ⟨u1,hu1⟩: ∃u1,w.alloc (.cells (Y8 a pa) 25)=u1:=⟨_,rfl⟩;have hs1:u1.heap.size=w.heap.size+1:=by rw[<-hu1]; simp
 have hy1:=Z05 w a pa;rw[hu1] at hx1 hy1;have hx2:=Z01 u1 (.cells (Y8 b pb) 25);obtain ⟨W1,hu2⟩: ∃u2,u1.alloc (.cells (Y8 b pb) 25)=u2:=⟨_,rfl⟩;have hy2:=Z05 u1 b pb;rw[hu2] at hx2 hy2;rw[hs1] at hy2;have hb12:=Z00 hx1 hx2;have HXa:=Y1 (hy1.next hx2);have HXb:=Y1 hy2;have HAa:=Y1 (ha.next hb12);have HAb:=Y1 (hb.next hb12);have HG:=Y1 (hg.next hb12);have HB1:=Y1 hb12;have HD:=Y1 hD;clear hx1 hx2 hy1 hy2 hb12 ha hb hg hD;obtain ⟨j,hj⟩: ∃j,j=(J true a b).getD Z0c:=⟨_,rfl⟩;obtain ⟨ok,hok⟩: ∃ok,ok=(J true a b).isSome:=⟨_,rfl⟩;have HJ:=Y1 (And.intro hj hok);clear hj hok;obtain ⟨_,⟨a0,a1,a2,a3,a4⟩,_⟩:=HXa.out;obtain ⟨_,⟨b0,b1,b2,b3,b4⟩,_⟩:=HXb.out;simp only[Nat.zero_add] at a0 a1 a2 a3 a4 b0 b1 b2 b3 b4;have HU:=Y1 (Zc8 a b pa pb W1 HAa.out HAb.out HG.out);unfold sv at HU;go_enter Tryz.func3,Tryz.ntmps3
 go_wp2_with fail
 refine HU.out.mono ?_;rintro e v1 ⟨q1,he,hk,hb1⟩;rw[<-HJ.out.1, <-HJ.out.2] at he;rw[<-HJ.out.1] at hk;unfold sv at he;subst he;have hb2:=Z01 v1 (.cells (Y8 j q1) 25);have hbb:=Z00 hb1 hb2;have HXj:=Y1 (Z05 v1 j q1);have HAj:=Y1 (hk.here.next hb2);have HXa:=Y1 (HXa.out.next hbb);have HXb:=Y1 (HXb.out.next hbb);have HAa:=Y1 (HAa.out.next hbb);have HAb:=Y1 (HAb.out.next hbb);have HG:=Y1 (HG.out.next hbb);have HB1:=Y1 (Z00 HB1.out hbb);clear hk hb1 hb2 hbb HU a0 a1 a2 a3 a4 b0 b1 b2 b3 b4 hu1 hu2 hs1;obtain ⟨W2,hW⟩: ∃W,v1.alloc (.cells (Y8 j q1) 25)=W:=⟨_,rfl⟩;rw[hW] at HXj HAj HXa HXb HAa HAb HG HB1;obtain ⟨_,⟨a0,a1,a2,a3,a4⟩,_⟩:=HXa.out;obtain ⟨_,⟨b0,b1,b2,b3,b4⟩,_⟩:=HXb.out;simp only[Nat.zero_add] at a0 a1 a2 a3 a4 b0 b1 b2 b3 b4;have HU:=Y1 (Zd8 HD.out a b pa pb W2 HAa.out HAb.out)
 go_wp2_with fail
 refine HU.out.mono ?_;rintro e v2 ⟨q2,he,hk,hb1⟩;rw[<-HJ.out.1, <-HJ.out.2] at he;rw[<-HJ.out.1] at hk;unfold sv at he;subst he;have hb2:=Z01 v2 (.cells (Y8 j q2) 25);have hbb:=Z00 hb1 hb2;have HXk:=Y1 (Z05 v2 j q2);have HAk:=Y1 (hk.here.next hb2);have HXj:=Y1 (HXj.out.next hbb);have HAj:=Y1 (HAj.out.next hbb);have HG:=Y1 (HG.out.next hbb);have HB1:=Y1 (Z00 HB1.out hbb);clear hk hb1 hb2 hbb HU a0 a1 a2 a3 a4 b0 b1 b2 b3 b4 hW HXa HXb HAa HAb;obtain ⟨W3,hW⟩: ∃W,v2.alloc (.cells (Y8 j q2) 25)=W:=⟨_,rfl⟩;rw[hW] at HXj HAj HXk HAk HG HB1;obtain ⟨_,⟨a0,a1,a2,a3,a4⟩,_⟩:=HXj.out;obtain ⟨_,⟨b0,b1,b2,b3,b4⟩,_⟩:=HXk.out;simp only[Nat.zero_add] at a0 a1 a2 a3 a4 b0 b1 b2 b3 b4;have HE:=Y1 (Z39 j j q1 q2 W3 HAj.out HAk.out);rw[Z2y] at HE;have hbo: (ok==ok)=true:=by simp
 go_wp2_with fail
 refine HE.out.mono ?_;rintro e v3 ⟨rfl,hb3⟩;have HB3:=Y1 hb3;clear hb3 HE a0 a1 a2 a3 a4 b0 b1 b2 b3 b4 hW
 go_wp2_with fail
 refine (Zcd _ (HG.out.next HB3.out)).mono ?_;rintro e v4 ⟨rfl,hb4⟩;have HB4:=Y1 (Z00 HB1.out (Z00 HB3.out hb4));clear hb4;go_wp2;go_ret;exact ⟨rfl,HB4.out⟩
end SubM
end Go.Proofs.YtlomianlcnmfgaaGreatDoor
namespace Go.Proofs.YtlomianlcnmfgaaGreatDoor
open Go.RowKit Shp Sub
namespace SubM
theorem joins_walk (a:Sh) (pa:Ptr) (b:Sh) (pb:Ptr) (w:World) (ha:ShAt w w.heap.size pa a) (hb:ShAt w w.heap.size pb b) (hg:WGlobs w):
 Y9 3 #[.agg (Y8 a pa),.agg (Y8 b pb)] w (.bool true):=ZcH (docOk true) a pa b pb w ha hb hg
end SubM
end Go.Proofs.YtlomianlcnmfgaaGreatDoor
namespace Go.Proofs.YtlomianlcnmfgaaGreatDoor.subtypeJoins
section
open Go.ChangeShapes Go.WideShapes Go.ChangeAt Go.RowKit
open Go.ChangeMaps (open_string shut_string)
theorem walk (w:World) (u0:Shp.Sh) (p0:Ptr) (S0:ShAt w w.heap.size p0 u0) (u1:Shp.Sh) (p1:Ptr) (S1:ShAt w w.heap.size p1 u1) (hg:WGlobs w):Y9 3 #[.agg (Y8 u0 p0),.agg (Y8 u1 p1)] w (.bool true):=SubM.joins_walk u0 p0 u1 p1 w S0 S1 hg
theorem own:ownKnob Tryz.prog.godebug=none:=by kernel_rfl
theorem laidOut:laidOutB Tryz.prog=true:=by kernel_rfl
theorem contract (H:Type) (enc:TypeId×Value->H) (W:World) (base:Nat) (args:Array Value) (ds gs:List (DataW H)) (before:List MemPlace)
 (hval0: ∀(j:Nat) t v,Tryz.f3.params[j]? =some t->args[j]? =some v->Value.okWide Tryz.prog W .any base t v)
 (hW:DataW.Whole enc Tryz.prog Tryz.f3.params.toList Rows.subtypeJoinsSpec.vars false W args.toList ds gs before) (hL:laidMetH Tryz.prog Rows.subtypeJoinsRow.laid W) (hsz0: (DataW.weightsEach Tryz.prog (Tryz.f3.params.toList++Rows.subtypeJoinsSpec.plain.varTypes Tryz.prog) (ds++gs)).all (· <=reachBytes)=true):
 Calls Tryz.prog 3 args W fun e W'=> ∃v,e= .returned v/\Rows.subtypeJoinsSpec.post enc Tryz.prog Tryz.f3 false true false false W args v W':=by
 have hval: ∀(j:Nat) t v,Tryz.f3.params[j]? =some t->args[j]? =some v->Value.okWide Tryz.prog W .any base t v:=hval0;have hsz: (DataW.weightsEach Tryz.prog (Tryz.f3.params.toList++Rows.subtypeJoinsSpec.plain.varTypes Tryz.prog) (ds++gs)).all (· <=reachBytes)=true:=hsz0
 have hW':=hW;obtain ⟨p,q,hA0,hV,rfl,hfz,hnd⟩:=hW;have hA:DataW.TrodAll enc Tryz.prog W 0 (fun _=>true) true Tryz.f3.params.toList args.toList ds p:=hA0;rw[Tryz.params3] at hA hval hsz;obtain ⟨v0,vs0,d0,ds0,p0,q0,hargs,rfl,rfl,h0,t0⟩:=trodAll_cons hA;obtain ⟨v1,vs1,d1,ds1,p1,q1,rfl,rfl,rfl,h1,t1⟩:=trodAll_cons t0;obtain ⟨rfl,rfl,rfl⟩:=trodAll_nil t1;obtain rfl:args=#[v0,v1]:=by cases args; simp_all
 obtain ⟨rfl,rfl⟩:=trodVars_none hV;have k0:=h0;have lt0: ∀x∈p0,x.block < W.heap.size:=by obtain ⟨m,hm⟩:=k0; exact DataW.trod_lt m _ _ _ hm
 obtain ⟨u0,y0,rfl,S0⟩:=Z5a (hval 0 25 v0 rfl rfl) h0;have k1:=h1;have lt1: ∀x∈p1,x.block < W.heap.size:=by obtain ⟨m,hm⟩:=k1; exact DataW.trod_lt m _ _ _ hm
 obtain ⟨u1,y1,rfl,S1⟩:=Z5a (hval 1 25 v1 rfl rfl) h1;clear hA0 hval0;rw[MakeChecks.laidMetH_plain _ _ _ (by kernel_rfl)] at hL;have hglob:WGlobs W:=Zan hL (List.Mem.head _);refine (walk W u0 y0 S0 u1 y1 S1 hglob).mono fun e W' ⟨he,bel⟩=> ?_;subst he;exact ⟨_,rfl,_,_,_,[],_,[],hW',trodAll_mk1 (shut_bool Tryz.underlying4 _),(trodAll_cons_mk (Below.trod laidOut (by kernel_rfl) (of_decide_eq_true (by kernel_rfl)) k0 bel lt0) (trodAll_cons_mk (Below.trod laidOut (by kernel_rfl) (of_decide_eq_true (by kernel_rfl)) k1 bel lt1) trodAll_mk0)),rfl,bel.frame _,fun h=>by cases h⟩
theorem lifted (os:Os) (started:os.Started) (H:Type) (enc:TypeId×Value->H):
 ReturnsInHanded {} Tryz.checked os 3 .any (fun w args=>(Rows.subtypeJoinsSpec.pre enc Tryz.prog Tryz.f3 Rows.subtypeJoinsRow.domain false w args/\laidMetH Tryz.prog Rows.subtypeJoinsRow.laid w)/\sizedMet enc Tryz.prog Tryz.f3 (OpenSpec.ofChange Rows.subtypeJoinsSpec) false w args)
  (Rows.subtypeJoinsSpec.post enc Tryz.prog Tryz.f3 false true false false):=by
 refine returnsInHanded_of_change_and (C:=Tryz.checked) (X:=fun w _=>laidMetH Tryz.prog Rows.subtypeJoinsRow.laid w) (fun _ _ _ hh h=>h.of_heap hh) own started (by kernel_rfl) Tryz.func3
  (ChangeSpec.witness_shaped (enc:=enc) (C:=Tryz.checked) (os:=os) (X:=fun w _=>laidMetH Tryz.prog Rows.subtypeJoinsRow.laid w) false (World.laidAll Tryz.prog os Rows.subtypeJoinsRow.laid) #[(.agg #[.int .i64 0,.string ByteArray.empty,.string ByteArray.empty,.slice none 0 0,.slice none 0 0]),(.agg #[.int .i64 0,.string ByteArray.empty,.string ByteArray.empty,.slice none 0 0,.slice none 0 0])] 8 (World.laidAll_os _ _ _)
   (World.shaped_of_ZipB (by kernel_rfl) (by kernel_rfl)) (by kernel_rfl) (by kernel_rfl) (by kernel_rfl)
   (by rw[MakeChecks.laidMetH_plain _ _ _ (by kernel_rfl)]; exact laidMet_laidAll _ (by kernel_rfl) (by kernel_rfl))) ?_
 intro W base args ds gs before hval hW _ hsz hL _;exact contract H enc W base args ds gs before hval hW hL hsz
theorem proved:Rows.SubtypeJoinsSaid:=
 OpenClaim.holds_of_wide 3 Tryz.f3 rfl rfl rfl rfl rfl rfl rfl ⟨rfl,rfl,rfl,rfl,rfl⟩ rfl rfl rfl rfl rfl (by kernel_rfl) Tryz.func3 (by kernel_rfl)
  (of_decide_eq_true (by kernel_rfl)) (by unfold Func.isWrapper; first | (rw[if_pos (by decide+kernel)]; kernel_rfl) | (rw[if_neg (by decide+kernel)]; exact ⟨rfl,rfl⟩))
  (fun os started H enc _=>lifted os started H enc)
theorem card:Rows.SubtypeJoinsCardSaid:=
 Claim7.holds_tied_plain_at .later [] [.data] true _ false proved (fun _ h=>by cases h) (by kernel_rfl) (fun _ h=>by cases h) subtypeJoins_row_tie rfl ⟨rfl,rfl⟩ (by kernel_rfl) rfl
  (fun f fn hf hfn=>by
   obtain rfl:f=3:=Option.some.inj ((show Tryz.prog.funcNamed "pandect/pandectlaw12.SubtypeJoins" =some 3 by kernel_rfl).symm.trans hf) |>.symm;obtain rfl:fn=Tryz.f3:=(Option.some.inj (Tryz.func3.symm.trans hfn)).symm;exact ⟨by kernel_rfl,fun j t ht=>by
    rw[Tryz.params3] at ht;have hm:t∈ [25,25]:=by simpa using Array.mem_of_getElem? ht
    have hall: ([25,25].all fun u=> !Tryz.prog.wantsStandIn u)=true:=by kernel_rfl
    exact (show Tryz.prog.wantsStandIn t=false by simpa using List.all_eq_true.1 hall t hm)⟩)
  (by kernel_rfl)
end
end Go.Proofs.YtlomianlcnmfgaaGreatDoor.subtypeJoins
