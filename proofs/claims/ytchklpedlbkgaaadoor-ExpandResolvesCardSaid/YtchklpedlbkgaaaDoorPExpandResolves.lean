/- ExpandResolves: in any environment any type is put in place as the document says, or refused; for all values that the row lets in, with the program's variable laid as its text lays it. -/
import Derived.Test.YtchklpedlbkgaaaDoorTie
import Derived.Test.YtchklpedlbkgaaaDoorCards
import Derived.LaidMore
import Derived.Lay
import Derived.Test.YtchklpedlbkgaaaDoorK0n14
set_option linter.unusedVariables false
set_option linter.unusedSimpArgs false
set_option linter.unusedSectionVars false
set_option maxRecDepth 100000
set_option maxHeartbeats 16000000
namespace Go.Proofs.YtchklpedlbkgaaaDoor
section
open Go.RowKit Shp
open Expd (Bd fill keys find put Z0w)
section
variable (t : Sh) (q : Ptr) (L : List Bd) (A : Option Addr) (cap : Nat) (w : World) (hq : ShAt w w.heap.size q t)
include t q L A cap w hq
theorem Zak (hz:size t<=400) (hL:BdsAt w w.heap.size A L) (hl:L.length<=1000):
 Calls Tryd.prog 24 #[shV t q,.slice A L.length cap] w fun e w'=> ∃(u:Sh) (q':Ptr) (ok:Bool),e= .returned (.tuple #[shV u q',.bool ok])/\ok=(put (find L) t).isSome/\(ok=true->put (find L) t=some u)/\(ok=true->ShAt w' w'.heap.size q' u)/\Below w.heap.size w w':=by
 refine (SubM.put_walk (deep t) t q L A cap w.heap.size w (Nat.le_refl _) hz hq hL hl (Nat.le_refl _)).mono ?_;rintro e w' ⟨u,q',he,hb,hj⟩;refine ⟨u,q',_,he,rfl,fun h=> ?_,fun h=> ?_,hb⟩
 {obtain ⟨j,e1⟩:=Option.isSome_iff_exists.1 h;rw[e1,(hj j e1).1]}
 {obtain ⟨j,e1⟩:=Option.isSome_iff_exists.1 h;obtain ⟨e2,hk⟩:=hj j e1;subst e2;exact hk.here}
theorem Z5w (hL:BdsAt w w.heap.size A L) (hl:L.length<=1000):
 Calls Tryd.prog 10 #[shV t q,.slice A L.length cap] w (ResIs w L t):=by
 have hb0:Below w.heap.size w (fdW w t q):=Z0d (Z00 _ _) _;have c0:Sh5 (fdW w t q) w.heap.size 0 t q:=⟨by simp[fdW,go_sem],by simp[fdW,go_sem],by simp[fdW,go_sem],by simp[fdW,go_sem],by simp[fdW,go_sem]⟩;have hz0:w.heap.size+1 < (fdW w t q).heap.size:=by simp[fdW]
 have HB0:=Y1 hb0;have HZ0:=Y1 hz0;have HQ:=Y1 (hq.next hb0);have HC0:=Y1 c0;have HR0:=Y1 (Z4S w t q);have HLL:=Y1 (hL.next hb0);have HLN:=Y1 hl;obtain ⟨e0,e1,e2,e3,e4⟩:=c0;clear hb0 hq hL hl hz0;unfold shV;go_enter Tryd.func10,Tryd.ntmps10
 go_wp2_with fail
 change Calls _ _ _ (fdW w t q) _;generalize fdW w t q=W0 at HB0 HZ0 HQ HC0 HR0 HLL e0 e1 e2 e3 e4 ⊢;refine (Z2d t q W0 HQ.out).mono ?_;rintro e W1 ⟨rfl,hb1⟩;have hz1:=hb1.size;have HB1:=Y1 (HB0.out.trans (hb1.mono (by have:=HB0.out.size; omega)));have hR1:=HR0.out.keep hb1 HZ0.out;have HC1:=Y1 (HC0.out.keep (show w.heap.size < W0.heap.size by have:=HZ0.out; omega) hb1);have HQ1:=Y1 (HQ.out.next hb1);have HL1:=Y1 (HLL.out.next hb1);have HR1:=Y1 hR1;have HZ1:=Y1 (show w.heap.size+1 < W1.heap.size by have:=HZ0.out; omega);clear hb1 hR1 hz1 e0 e1 e2 e3 e4 HB0 HZ0 HQ HC0 HR0 HLL;by_cases hc:check t=0
 {rw[hc];obtain ⟨hz,_,hr⟩:=Z0a hc;have HCK:=Y1 hc;obtain ⟨x0,x1,x2,x3,x4⟩:=HC1.out;simp only[Nat.zero_add] at x0 x1 x2 x3 x4;have HF:=Y1 (Zak t q L A cap W1 HQ1.out hz HL1.out HLN.out);clear hc hz hr;unfold shV at HF
  go_wp2_with fail
  refine HF.out.mono ?_;rintro e W2 ⟨u,q',ok,rfl,hok,hu,hat,hb2⟩;have hb3:=Z02 hb2 (Z00 W2 (.cells (Y8 u q') 25));have hB3:=Z06 W2 u q';have hlt:=Nat.lt_of_lt_of_le HZ1.out hb2.size;have hat3:=fun h=>(hat h).next (Z00 W2 (.cells (Y8 u q') 25));have hR2:=HR1.out.keep hb2 HZ1.out;have hR3:=HR1.out.keep hb3 HZ1.out;have hne:w.heap.size+1≠W2.heap.size:=by omega
  have HOK:=Y1 hok;have HU:=Y1 hu;clear hok hu hat hb2 HF x0 x1 x2 x3 x4;simp only;cases ok with
  | false=>
   obtain ⟨W3,hW3⟩: ∃W3,W2.alloc (.cells (Y8 u q') 25)=W3:=⟨_,rfl⟩;rw[hW3] at hR3 hb3;obtain ⟨⟨r0,r1,r2,r3,r4⟩,rf⟩:=hR3;have y0:=rf 0;have y1:=rf 1;have y2:=rf 2;have y3:=rf 3;have y4:=rf 4;have HB3:=Y1 hb3;clear rf hat3 hB3 hb3 hR2;go_wp2;have hn:put (find L) t=none:=by
    have:=HOK.out;cases e:put (find L) t with
    | none=>rfl
    | some y=>rw[e] at this; cases this
   have hr:=Expd.resolve_name HCK.out hn;refine bodyPost_ret (v:= .tuple #[.agg #[.int .i64 0,.string ⟨#[]⟩,.string ⟨#[]⟩,.slice none 0 0,.slice none 0 0],.int .i64 110]) (by simp[results,Tryd.results10,go_sem,r0,r1,r2,r3,r4]) rfl ?_;refine ⟨⟨none,0,none,0⟩, ?_, ?_, ?_⟩
   {rw[hr]; rfl}
   {rw[hr]; exact Z1s _ _}
   {exact Z0e (HB1.out.trans (HB3.out.mono (by have:=HB1.out.size; omega))) (Nat.le_succ _) _ _ _ _ _}
  | true=>
   have hput:=HU.out rfl;have HP:=Y1 hput;have HB3:=Y1 hb3;have HR3:=Y1 hR3;have HA3:=Y1 (hat3 rfl);have HBX:=Y1 hB3;obtain ⟨_,⟨b0,b1,b2,b3,b4⟩,_⟩:=hB3;clear hput hb3 hR3 hR2 hat3 HOK HU;have HL3:=Y1 (show w.heap.size+1 < (W2.alloc (.cells (Y8 u q') 25)).heap.size from by simp; omega);have HW2:=Y1 hlt;clear hlt hne
   go_wp2_with fail
   generalize W2.alloc (.cells (Y8 u q') 25)=W3 at HB3 HR3 HA3 HBX HL3 b0 b1 b2 b3 b4 ⊢;refine (Z2d u q' W3 HA3.out).mono ?_;rintro e W4 ⟨rfl,hb4⟩;have hR4:=HR3.out.keep hb4 HL3.out;have HB4:=Y1 ((HB1.out.trans (HB3.out.mono (by have:=HB1.out.size; omega))).trans (hb4.mono (by have:=HB1.out.size; have:=HB3.out.size; omega)));have HA4:=Y1 (HA3.out.next hb4);have HL4:=Y1 (Nat.lt_of_lt_of_le HL3.out hb4.size);have HR4:=Y1 hR4;clear b0 b1 b2 b3 b4;obtain ⟨_,⟨b0,b1,b2,b3,b4⟩,_⟩:=HBX.out.next hb4;clear hR4 hb4 HB3 HR3 HA3 HBX HL3;by_cases hcu:check u=0
   {rw[hcu];have HCU:=Y1 hcu;have HS:=Y1 (Z5i u q' W4 HA4.out hcu);clear hcu
    go_wp2_with fail
    refine HS.out.mono ?_;rintro e W5 ⟨q5,F5,rfl,ho5,hF5,hb5⟩;obtain ⟨⟨r0,r1,r2,r3,r4⟩,rf⟩:=HR4.out.keep hb5 HL4.out;have y0:=rf 0;have y1:=rf 1;have y2:=rf 2;have y3:=rf 3;have y4:=rf 4;have HO5:=Y1 ho5;have HF5:=Y1 hF5;have HB5:=Y1 (HB4.out.trans (hb5.mono (by have:=HB4.out.size; omega)));obtain ⟨z,hz'⟩: ∃z,z=sorted u:=⟨_,rfl⟩;rw[<-hz'] at HO5 ⊢;have HZ:=Y1 hz';clear rf ho5 hF5 hb5 hz' b0 b1 b2 b3 b4;go_wp2;refine bodyPost_ret (v:= .tuple #[.agg (Y8 z q5),.int .i64 0]) (by simp[results,Tryd.results10,go_sem,r0,r1,r2,r3,r4]) rfl ?_;have hr:=Expd.resolve_ok HCK.out HP.out HCU.out;rw[<-HZ.out] at hr;have h5:=Z16 (b:=w.heap.size+1) HO5.out (fun x hx e=>by have:=HF5.out x hx; have:=HL4.out; omega) (.int .i64 z.kind) (.string ⟨z.of_.toArray⟩) (.string ⟨z.name.toArray⟩) (.slice q5.A z.names.length q5.c) (.slice q5.P z.parts.length q5.d);refine ⟨q5, ?_, ?_, ?_⟩
    {rw[hr]}
    {rw[hr]; exact h5.at_ h5.lt}
    {exact Z0e HB5.out (Nat.le_succ _) _ _ _ _ _}}
   {have hcu': (check u !=0)=true:=by simpa using hcu
    have HCU:=Y1 hcu;obtain ⟨⟨r0,r1,r2,r3,r4⟩,rf⟩:=HR4.out;have y0:=rf 0;have y1:=rf 1;have y2:=rf 2;have y3:=rf 3;have y4:=rf 4;clear rf hcu;go_wp2;refine bodyPost_ret (v:= .tuple #[.agg #[.int .i64 0,.string ⟨#[]⟩,.string ⟨#[]⟩,.slice none 0 0,.slice none 0 0],.int .i64 (check u)]) (by simp[results,Tryd.results10,go_sem,r0,r1,r2,r3,r4]) rfl ?_;have hr:=Expd.resolve_great HCK.out HP.out HCU.out;refine ⟨⟨none,0,none,0⟩, ?_, ?_, ?_⟩
    {rw[hr]; rfl}
    {rw[hr]; exact Z1s _ _}
    {exact Z0e HB4.out (Nat.le_succ _) _ _ _ _ _}}}
 {have hc': (check t !=0)=true:=by simpa using hc
  have HCK:=Y1 hc;obtain ⟨⟨r0,r1,r2,r3,r4⟩,rf⟩:=HR1.out;have y0:=rf 0;have y1:=rf 1;have y2:=rf 2;have y3:=rf 3;have y4:=rf 4;clear rf hc;go_wp2;refine bodyPost_ret (v:= .tuple #[.agg #[.int .i64 0,.string ⟨#[]⟩,.string ⟨#[]⟩,.slice none 0 0,.slice none 0 0],.int .i64 (check t)]) (by simp[results,Tryd.results10,go_sem,r0,r1,r2,r3,r4]) rfl ?_;refine ⟨⟨none,0,none,0⟩, ?_, ?_, ?_⟩
  {rw[Expd.resolve_bad HCK.out]; rfl}
  {rw[Expd.resolve_bad HCK.out]; exact Z1s _ _}
  {exact Z0e HB1.out (Nat.le_succ _) _ _ _ _ _}}
end
end
section
open Go.RowKit Shp
open Expd (Bd Z0w)
theorem Z3j (t:Sh) (q:Ptr) (L:List Bd) (A:Option Addr) (cap:Nat) (w:World) (hq:ShAt w w.heap.size q t) (hL:BdsAt w w.heap.size A L) (hl:L.length<=9223372036854775807) (hg:WGlobs w):
 Y9 3 #[shV t q,.slice A L.length cap] w (.bool true):=by
 have hb0:=Z00 w (.cells (Y8 t q) 25);have HB0:=Y1 hb0;have HB:=Y1 (Z06 w t q);have HQ:=Y1 (hq.next hb0);have HL:=Y1 (hL.next hb0);have HG:=Y1 (hg.next hb0);have HLL:=Y1 hl;clear hb0 hq hL hg hl;obtain ⟨W1,hW1⟩: ∃W1,w.alloc (.cells (Y8 t q) 25)=W1:=⟨_,rfl⟩;rw[hW1] at HB0 HB HQ HL HG;have HSM:=Y1 (Z8M L A cap W1 HL.out HLL.out);unfold shV;go_enter Tryd.func3,Tryd.ntmps3
 go_wp2_with fail
 refine HSM.out.mono ?_;rintro e v1 ⟨rfl,hb1⟩;have HB1:=Y1 (Z02 HB0.out hb1);have HB:=Y1 (HB.out.next hb1);have HQ:=Y1 (HQ.out.next hb1);have HL:=Y1 (HL.out.next hb1);have HG:=Y1 (HG.out.next hb1);clear hb1 HSM HB0 hW1;obtain ⟨sm,hsm⟩: ∃c,smallB L=c:=⟨_,rfl⟩;rw[hsm];cases sm with
 | false=>
  clear hsm
  go_wp2_with fail
  refine (Z3B _ HG.out).mono ?_;rintro e v2 ⟨rfl,hb2⟩;have HB2:=Y1 (Z02 HB1.out hb2);clear hb2;go_wp2;go_ret;exact ⟨rfl,HB2.out⟩
 | true=>
  have HLN:Hid (L.length<=1000):=Y1 (by have:=Z8L hsm; omega);clear hsm;obtain ⟨j,hj⟩: ∃j,j=(Expd.resolve L t).1:=⟨_,rfl⟩;obtain ⟨er,her⟩: ∃er,er=(Expd.resolve L t).2:=⟨_,rfl⟩;have HJ:=Y1 (And.intro hj her);clear hj her;obtain ⟨_,⟨a0,a1,a2,a3,a4⟩,_⟩:=HB.out;simp only[Nat.zero_add] at a0 a1 a2 a3 a4;have HU:=Y1 (Z2c t q L A cap v1 HQ.out HL.out HLN.out HG.out);unfold shV at HU
  go_wp2_with fail
  refine HU.out.mono ?_;rintro e v2 ⟨q1,he,hk,hb1⟩;rw[<-HJ.out.1, <-HJ.out.2] at he;rw[<-HJ.out.1] at hk;unfold shV at he;subst he;have hb2:=Z00 v2 (.cells (Y8 j q1) 25);have hbb:=Z02 hb1 hb2;have HXj:=Y1 (Z06 v2 j q1);have HAj:=Y1 (hk.next hb2);have HB:=Y1 (HB.out.next hbb);have HQ:=Y1 (HQ.out.next hbb);have HL:=Y1 (HL.out.next hbb);have HG:=Y1 (HG.out.next hbb);have HB1:=Y1 (Z02 HB1.out hbb);clear hk hb1 hb2 hbb HU a0 a1 a2 a3 a4;obtain ⟨W2,hW⟩: ∃W,v2.alloc (.cells (Y8 j q1) 25)=W:=⟨_,rfl⟩;rw[hW] at HXj HAj HB HQ HL HG HB1;obtain ⟨_,⟨a0,a1,a2,a3,a4⟩,_⟩:=HB.out;simp only[Nat.zero_add] at a0 a1 a2 a3 a4;have HU:=Y1 (Z5w t q L A cap W2 HQ.out HL.out HLN.out);unfold shV at HU
  go_wp2_with fail
  refine HU.out.mono ?_;rintro e v3 ⟨q2,he,hk,hb1⟩;rw[<-HJ.out.1, <-HJ.out.2] at he;rw[<-HJ.out.1] at hk;unfold shV at he;subst he;have hb2:=Z00 v3 (.cells (Y8 j q2) 25);have hbb:=Z02 hb1 hb2;have HXk:=Y1 (Z06 v3 j q2);have HAk:=Y1 (hk.next hb2);have HXj:=Y1 (HXj.out.next hbb);have HAj:=Y1 (HAj.out.next hbb);have HG:=Y1 (HG.out.next hbb);have HB1:=Y1 (Z02 HB1.out hbb);clear hk hb1 hb2 hbb HU a0 a1 a2 a3 a4 hW HB HQ HL;obtain ⟨W3,hW⟩: ∃W,v3.alloc (.cells (Y8 j q2) 25)=W:=⟨_,rfl⟩;rw[hW] at HXj HAj HXk HAk HG HB1;obtain ⟨_,⟨a0,a1,a2,a3,a4⟩,_⟩:=HXj.out;obtain ⟨_,⟨b0,b1,b2,b3,b4⟩,_⟩:=HXk.out;simp only[Nat.zero_add] at a0 a1 a2 a3 a4 b0 b1 b2 b3 b4;have HE:=Y1 (Z3Z j j q1 q2 W3 HAj.out HAk.out);rw[Z2Z] at HE;have hbo: (er==er)=true:=by simp
  go_wp2_with fail
  refine HE.out.mono ?_;rintro e v4 ⟨rfl,hb3⟩;have HB3:=Y1 hb3;clear hb3 HE a0 a1 a2 a3 a4 b0 b1 b2 b3 b4 hW
  go_wp2_with fail
  refine (Z3B _ (HG.out.next HB3.out)).mono ?_;rintro e v5 ⟨rfl,hb4⟩;have HB4:=Y1 (Z02 HB1.out (Z02 HB3.out hb4));clear hb4;go_wp2;go_ret;exact ⟨rfl,HB4.out⟩
end
end Go.Proofs.YtchklpedlbkgaaaDoor
namespace Go.Proofs.YtchklpedlbkgaaaDoor.expandResolves
section
open Go.ChangeShapes Go.WideShapes Go.ChangeAt Go.RowKit
open Go.ChangeMaps (open_string shut_string)
theorem walk (w:World) (u0:Shp.Sh) (p0:Ptr) (S0:ShAt w w.heap.size p0 u0) (A1:Option Addr) (c1:Nat) (s1:List Expd.Bd) (S1:BdsAt w w.heap.size A1 s1) (m1:s1.length<=9223372036854775807) (q1:s1.length<=c1) (hg:WGlobs w):Y9 3 #[.agg (Y8 u0 p0),.slice A1 s1.length c1] w (.bool true):=Z3j u0 p0 s1 A1 c1 w S0 S1 m1 hg
theorem own:ownKnob Tryd.prog.godebug=none:=by kernel_rfl
theorem laidOut:laidOutB Tryd.prog=true:=by kernel_rfl
theorem contract (H:Type) (enc:TypeId×Value->H) (W:World) (base:Nat) (args:Array Value) (ds gs:List (DataW H)) (before:List MemPlace)
 (hval0: ∀(j:Nat) t v,Tryd.f3.params[j]? =some t->args[j]? =some v->Value.okWide Tryd.prog W .any base t v)
 (hW:DataW.Whole enc Tryd.prog Tryd.f3.params.toList Rows.expandResolvesSpec.vars false W args.toList ds gs before) (hL:laidMetH Tryd.prog Rows.expandResolvesRow.laid W) (hsz0: (DataW.weightsEach Tryd.prog (Tryd.f3.params.toList++Rows.expandResolvesSpec.plain.varTypes Tryd.prog) (ds++gs)).all (· <=reachBytes)=true):
 Calls Tryd.prog 3 args W fun e W'=> ∃v,e= .returned v/\Rows.expandResolvesSpec.post enc Tryd.prog Tryd.f3 false true false false W args v W':=by
 have hval: ∀(j:Nat) t v,Tryd.f3.params[j]? =some t->args[j]? =some v->Value.okWide Tryd.prog W .any base t v:=hval0;have hsz: (DataW.weightsEach Tryd.prog (Tryd.f3.params.toList++Rows.expandResolvesSpec.plain.varTypes Tryd.prog) (ds++gs)).all (· <=reachBytes)=true:=hsz0
 have hW':=hW;obtain ⟨p,q,hA0,hV,rfl,hfz,hnd⟩:=hW;have hA:DataW.TrodAll enc Tryd.prog W 0 (fun _=>true) true Tryd.f3.params.toList args.toList ds p:=hA0;rw[Tryd.params3] at hA hval hsz;obtain ⟨v0,vs0,d0,ds0,p0,q0,hargs,rfl,rfl,h0,t0⟩:=trodAll_cons hA;obtain ⟨v1,vs1,d1,ds1,p1,q1,rfl,rfl,rfl,h1,t1⟩:=trodAll_cons t0;obtain ⟨rfl,rfl,rfl⟩:=trodAll_nil t1;obtain rfl:args=#[v0,v1]:=by cases args; simp_all
 obtain ⟨rfl,rfl⟩:=trodVars_none hV;have k0:=h0;have lt0: ∀x∈p0,x.block < W.heap.size:=by obtain ⟨m,hm⟩:=k0; exact DataW.trod_lt m _ _ _ hm
 obtain ⟨u0,y0,rfl,S0⟩:=Z8i (hval 0 25 v0 rfl rfl) h0;obtain ⟨A1,n1,c1,rfl⟩:=okWide_slice Tryd.underlying26 (hval 1 26 v1 rfl rfl);have k1:=h1;have lt1: ∀x∈p1,x.block < W.heap.size:=by obtain ⟨m,hm⟩:=k1; exact DataW.trod_lt m _ _ _ hm
 obtain ⟨s1,rfl,S1,m1,q1⟩:=Z8k h1;clear hA0 hval0;rw[MakeChecks.laidMetH_plain _ _ _ (by kernel_rfl)] at hL;have hglob:WGlobs W:=Z9N hL (List.Mem.head _);refine (walk W u0 y0 S0 A1 c1 s1 S1 m1 q1 hglob).mono fun e W' ⟨he,bel⟩=> ?_;subst he;exact ⟨_,rfl,_,_,_,[],_,[],hW',trodAll_mk1 (shut_bool Tryd.underlying4 _),(trodAll_cons_mk (Below.trod laidOut (by kernel_rfl) (of_decide_eq_true (by kernel_rfl)) k0 bel lt0) (trodAll_cons_mk (Below.trod laidOut (by kernel_rfl) (of_decide_eq_true (by kernel_rfl)) k1 bel lt1) trodAll_mk0)),rfl,bel.frame _,fun h=>by cases h⟩
theorem lifted (os:Os) (started:os.Started) (H:Type) (enc:TypeId×Value->H):
 ReturnsInHanded {} Tryd.checked os 3 .any (fun w args=>(Rows.expandResolvesSpec.pre enc Tryd.prog Tryd.f3 Rows.expandResolvesRow.domain false w args/\laidMetH Tryd.prog Rows.expandResolvesRow.laid w)/\sizedMet enc Tryd.prog Tryd.f3 (OpenSpec.ofChange Rows.expandResolvesSpec) false w args)
  (Rows.expandResolvesSpec.post enc Tryd.prog Tryd.f3 false true false false):=by
 refine returnsInHanded_of_change_and (C:=Tryd.checked) (X:=fun w _=>laidMetH Tryd.prog Rows.expandResolvesRow.laid w) (fun _ _ _ hh h=>h.of_heap hh) own started (by kernel_rfl) Tryd.func3
  (ChangeSpec.witness_shaped (enc:=enc) (C:=Tryd.checked) (os:=os) (X:=fun w _=>laidMetH Tryd.prog Rows.expandResolvesRow.laid w) false (World.laidAll Tryd.prog os Rows.expandResolvesRow.laid) #[(.agg #[.int .i64 0,.string ByteArray.empty,.string ByteArray.empty,.slice none 0 0,.slice none 0 0]),(.slice none 0 0)] 8 (World.laidAll_os _ _ _)
   (World.shaped_of_ZipB (by kernel_rfl) (by kernel_rfl)) (by kernel_rfl) (by kernel_rfl) (by kernel_rfl)
   (by rw[MakeChecks.laidMetH_plain _ _ _ (by kernel_rfl)]; exact laidMet_laidAll _ (by kernel_rfl) (by kernel_rfl))) ?_
 intro W base args ds gs before hval hW _ hsz hL _;exact contract H enc W base args ds gs before hval hW hL hsz
theorem proved:Rows.ExpandResolvesSaid:=
 OpenClaim.holds_of_wide 3 Tryd.f3 rfl rfl rfl rfl rfl rfl rfl ⟨rfl,rfl,rfl,rfl,rfl⟩ rfl rfl rfl rfl rfl (by kernel_rfl) Tryd.func3 (by kernel_rfl)
  (of_decide_eq_true (by kernel_rfl)) (by unfold Func.isWrapper; first | (rw[if_pos (by decide+kernel)]; kernel_rfl) | (rw[if_neg (by decide+kernel)]; exact ⟨rfl,rfl⟩))
  (fun os started H enc _=>lifted os started H enc)
theorem card:Rows.ExpandResolvesCardSaid:=
 Claim7.holds_tied_plain_at .later [] [.data] true _ false proved (fun _ h=>by cases h) (by kernel_rfl) (fun _ h=>by cases h) expandResolves_row_tie rfl ⟨rfl,rfl⟩ (by kernel_rfl) rfl
  (fun f fn hf hfn=>by
   obtain rfl:f=3:=Option.some.inj ((show Tryd.prog.funcNamed "pandect/pandectlaw11.ExpandResolves" =some 3 by kernel_rfl).symm.trans hf) |>.symm;obtain rfl:fn=Tryd.f3:=(Option.some.inj (Tryd.func3.symm.trans hfn)).symm;exact ⟨by kernel_rfl,fun j t ht=>by
    rw[Tryd.params3] at ht;have hm:t∈ [25,26]:=by simpa using Array.mem_of_getElem? ht
    have hall: ([25,26].all fun u=> !Tryd.prog.wantsStandIn u)=true:=by kernel_rfl
    exact (show Tryd.prog.wantsStandIn t=false by simpa using List.all_eq_true.1 hall t hm)⟩)
  (by kernel_rfl)
end
end Go.Proofs.YtchklpedlbkgaaaDoor.expandResolves
