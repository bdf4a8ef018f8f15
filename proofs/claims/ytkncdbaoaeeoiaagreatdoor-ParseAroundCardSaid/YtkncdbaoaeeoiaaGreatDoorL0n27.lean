/- What the proofs of ParseAround want, part 27. -/
import Derived.Test.YtkncdbaoaeeoiaaGreatDoorL0n26
set_option linter.unusedVariables false
set_option linter.unusedSimpArgs false
set_option linter.unusedSectionVars false
set_option maxRecDepth 100000
set_option maxHeartbeats 16000000
namespace Go.Proofs.YtkncdbaoaeeoiaaGreatDoor
section
open Go.RowKit Tms
open Shp (Sh)
open Pso (St Ok)
open Prs (sign R Flt)
def TmSaid (r:Except Flt Tm) (w:World) (e:Ending) (w':World):Prop:=
 Below w.heap.size w w'/\match r with
 | .ok y=> ∃x:ET,e= .returned (.tuple #[valT x,.agg #[.int .i64 0,.int .i64 0]])/\x.Is w'/\w.heap.size<=x.lo/\x.t=y
 | .error f=>e= .returned (.tuple #[.agg #[.int .i64 0,.string ⟨#[]⟩,.string ⟨#[]⟩,.int .i64 0,.slice none 0 0,.slice none 0 0,.slice none 0 0,.slice none 0 0,.int .i64 0],.agg #[.int .i64 f.1,.int .i64 f.2]])
def ZeY (fn:Nat) (whole:List Tk->St->Tm×St):Prop:= ∀(A:Option Addr) (c:Nat) (l:List Tk),Scanned l-> ∀(w:World),Tks w w.heap.size A l->Gl w->
 Calls Tryz.prog fn #[.slice A l.length c,.int .i64 0] w (TmOut (Pso.rd l 0 (whole l)) w)
theorem ZeL {F:List Nat} {V E:World} {x:ET} (d:x.Is V) (a: ∀b∈F,b < x.lo) (c:UpT F V E):x.Is E:=New.up d c (fun b hb=>Or.inl (a b hb))
theorem Z7K (s:List UInt8) (hs:s.length<=9223372036854775807) (fn:Nat) (j8: ∀args W,(callFunc fn args).run Tryz.prog W= .ok (.enter fn args) W) (whole:List Tk->St->Tm×St) (hR:ZeY fn whole) (hw: ∀l σ,Pse.Ok l σ->Pse.To l σ (whole l σ).2) (w:World) (hG:Gl w):
 Calls Tryz.prog 11 #[.string ⟨s.toArray⟩,.func (.func fn) #[] #[]] w (TmSaid (Pso.rdText s whole) w):=by
 have T:=Y1 (show Below w.heap.size w (bE w) from Z03 (Z0W w) _);have HZ:=Y1 (show Zero9 (bE w) w.heap.size from (Z5c w).next (Z01 _ _));have HX:=Y1 (show Box2 (bE w) (w.heap.size+1) 0 0 from (Z6o w).next (Z01 _ _));have K:=Y1 (ZaH w);have Z:=Y1 (hG.next T.out);have HS:=Y1 (Z3w s hs (bE w) Z.out.g);have L:=Y1 hR;have O:=Y1 hw;clear hR hw hG;cases Q:Lex.scanR s with
 | error xk=>
  obtain ⟨xx,k⟩:=xk;rw[Pso.rdText_err Q];have e1: (xx !=0)=true:=by simpa using Lex.Z4X Q
  have HM:=Y1 Q;clear Q;go_enter Tryz.func11,Tryz.ntmps11
  go_wp2_with fail
  change Calls _ _ _ (bE w) _;refine HS.out.mono ?_;generalize bE w=W0 at T HZ HX K Z HS ⊢;rintro e W1 hv;obtain ⟨A,cap,rfl,i⟩:=Z6j hv HM.out;have a:=Z01 W1 (.cells #[.int .i64 xx,.int .i64 (k:Int)] 29);have f5:=Y1 (Z00 (Z00 T.out i) a);obtain ⟨z1,z2,z3,z4,z5,z6,z7,z8,z9,h,z0⟩:=(HZ.out.next i).next a;have e0:=h 0;have e2:=h 1;have e3:=h 2;have e4:=h 3;have e6:=h 4;have e7:=h 5;have e8:=h 6;have e9:=h 7;have f0:=h 8;obtain ⟨x0,x1,x2,d8,d9⟩:=(HX.out.next i).next a;obtain ⟨n1,n2,n3,n4,n5,n6,n7,n8,n9,d,n0⟩:=(K.out.next i).next a;have c9:=d 0;have d0:=d 1;have d1:=d 2;have d2:=d 3;have d3:=d 4;have d4:=d 5;have d5:=d 6;have d6:=d 7;have d7:=d 8;obtain ⟨b0,b1,b2,D,E⟩:=Z0L W1 xx (k:Int);have Y:=K.out.lt;have p:=i.size;have g1:w.heap.size≠W1.heap.size:=by omega
  have g2:w.heap.size+1≠W1.heap.size:=by omega
  have g3:w.heap.size+1+1≠W1.heap.size:=by omega
  clear Y p;clear hv i a T HZ HX K Z HS HM L O
  go_wp2_with fail
  go_region
  all_goals go_wp2
  all_goals refine bodyPost_ret (v:= .tuple #[.agg #[.int .i64 0,.string ⟨#[]⟩,.string ⟨#[]⟩,.int .i64 0,.slice none 0 0,.slice none 0 0,.slice none 0 0,.slice none 0 0,.int .i64 0],.agg #[.int .i64 xx,.int .i64 (k:Int)]]) (by simp[results,Tryz.results11,go_sem,z0,x0,z1,z2,z3,z4,z5,z6,z7,z8,z9,x1,x2]) rfl ?_
  all_goals refine ⟨Z0U f5.out ?_,rfl⟩
  all_goals repeat' (with_reducible first | refine UpT.drew ?_ | refine UpT.set ?_ _ (Or.inr ?_) _ | exact UpT.refl _ _)
  all_goals simp
 | ok m=>
  rw[Pso.rdText_ok Q];have u:=Y1 (scanned Q);have HM:=Y1 Q;clear Q;obtain ⟨r,hr⟩: ∃r,r=Pso.rd (tkOf m) 0 (whole (tkOf m)):=⟨_,rfl⟩;have M:=Y1 hr;rw[<-hr];have J:Hid (∀y,r= .ok y->y.2 < (tkOf m).length):=Y1 (fun y hy=>Pso.rd_lt (O.out (tkOf m)) u.out.ends (by rw[<-hr]; exact hy));have V:Hid (∀f,r= .error f->f.1≠0):=Y1 (fun f hf=>Pso.rd_err (by rw[<-hr]; exact hf));clear hr;have a4:=Y1 u.out.len;obtain ⟨q,hq⟩: ∃q:Except Flt Tm,q=Pso.close (tkOf m) r:=⟨_,rfl⟩;have HQ:=Y1 hq;rw[<-hq];clear hq;obtain ⟨l,hl⟩: ∃l,l=tkOf m:=⟨_,rfl⟩;rw[<-hl] at u M J HQ a4;have f7:=Y1 hl;have k4:=a4.out;clear hl;go_enter Tryz.func11,Tryz.ntmps11
  go_wp2_with fail
  change Calls _ _ _ (bE w) _;refine HS.out.mono ?_;generalize bE w=W0 at T HZ HX K Z HS ⊢;rintro e W1 hv;obtain ⟨A,cap,rfl,P,S,i⟩:=Z4W hv HM.out;rw[<-f7.out] at P ⊢;have a:=Z01 W1 (.cells Yc 29);have z:=Y1 (Z00 (Z00 T.out i) a);have C:=Y1 ((HZ.out.next i).next a);have B:=Y1 ((HX.out.next i).next a);have o:=Y1 ((K.out.next i).next a);have n:=Y1 (Z0L W1 0 0);have N:=Y1 (P.on a);have a9:=Y1 P;have U:=Y1 a;have a7:Hid (∀g off,A=some ⟨g,off,none⟩->W0.heap.size<=g):=Y1 (fun g off hA=>(Z21 S g (by rw[hA]; rfl)).1);have X:Hid (w.heap.size+1+1 < W0.heap.size):=Y1 K.out.lt;have I:=Y1 ((Z.out.next i).next a);obtain ⟨b0,b1,b2,D,E⟩:=n.out;have Y:=K.out.lt;have p:=i.size;have g1:w.heap.size≠W1.heap.size:=by omega
  have g2:w.heap.size+1≠W1.heap.size:=by omega
  have g3:w.heap.size+1+1≠W1.heap.size:=by omega
  have HF:Hid (∀b∈ [w.heap.size,w.heap.size+1,W1.heap.size],w.heap.size<=b):=Y1 (by intro b i; simp at i; omega);clear Y p hv P S i a T HZ HX K Z HS HM
  go_wp2_with fail
  generalize W1.alloc (.cells Yc 29)=W2 at z C B o n N I U b0 b1 b2 D E ⊢;refine (L.out A cap l u.out W2 N.out I.out).mono ?_;rw[<-M.out];rintro e G ⟨c,ho⟩;clear b0 b1 b2 D E;cases r with
  | error f=>
   obtain rfl:=ho;have j9: (f.1 !=0)=true:=by simpa using V.out f rfl
   have t:Hid (q= .error f):=Y1 HQ.out;have a:=Z01 G (.cells Ya 26);have H:=Y1 (Z00 (Z00 z.out c) a);obtain ⟨z1,z2,z3,z4,z5,z6,z7,z8,z9,h,z0⟩:=(C.out.next c).next a;have e0:=h 0;have e2:=h 1;have e3:=h 2;have e4:=h 3;have e6:=h 4;have e7:=h 5;have e8:=h 6;have e9:=h 7;have f0:=h 8;obtain ⟨x0,x1,x2,d8,d9⟩:=(B.out.next c).next a;obtain ⟨n1,n2,n3,n4,n5,n6,n7,n8,n9,d,n0⟩:=(o.out.next c).next a;have c9:=d 0;have d0:=d 1;have d1:=d 2;have d2:=d 3;have d3:=d 4;have d4:=d 5;have d5:=d 6;have d6:=d 7;have d7:=d 8;obtain ⟨b0,b1,b2,D,E⟩:=(n.out.next c).next a;have Y:=o.out.lt;have p:=c.size;have hK:=n.out.1;have g4:w.heap.size≠G.heap.size:=by omega
   have g5:w.heap.size+1≠G.heap.size:=by omega
   have g6:w.heap.size+1+1≠G.heap.size:=by omega
   have g7:W1.heap.size≠G.heap.size:=by omega
   clear Y p hK;clear c a L O u M J V HQ z C B o n N I
   go_wp2_with fail
   go_region
   all_goals go_wp2
   all_goals refine bodyPost_ret (v:= .tuple #[.agg #[.int .i64 0,.string ⟨#[]⟩,.string ⟨#[]⟩,.int .i64 0,.slice none 0 0,.slice none 0 0,.slice none 0 0,.slice none 0 0,.int .i64 0],.agg #[.int .i64 f.1,.int .i64 f.2]]) (by simp[results,Tryz.results11,go_sem,valT,z0,x0,z1,z2,z3,z4,z5,z6,z7,z8,z9,x1,x2,g1,g2,g3]) rfl ?_
   all_goals rw[t.out]
   all_goals refine ⟨Z2o (F:= [w.heap.size,w.heap.size+1,W1.heap.size]) H.out HF.out ?_,rfl⟩
   all_goals repeat' (with_reducible first | refine UpT.drew ?_ | refine UpT.set ?_ _ (Or.inr ?_) _ | exact UpT.refl _ _)
   all_goals simp
  | ok y=>
   obtain ⟨x,rfl,hi,g0,ht⟩:=ho;obtain ⟨ys,j⟩:=y;have hj:j < l.length:=J.out _ rfl;simp only[valT];dsimp only at ht ⊢;have a:=Z01 G (.cells (Y7 x.t x.q) 26);have H:=Y1 (Z00 (Z00 z.out c) a);obtain ⟨z1,z2,z3,z4,z5,z6,z7,z8,z9,h,z0⟩:=(C.out.next c).next a;have e0:=h 0;have e2:=h 1;have e3:=h 2;have e4:=h 3;have e6:=h 4;have e7:=h 5;have e8:=h 6;have e9:=h 7;have f0:=h 8;obtain ⟨x0,x1,x2,d8,d9⟩:=(B.out.next c).next a;obtain ⟨n1,n2,n3,n4,n5,n6,n7,n8,n9,d,n0⟩:=(o.out.next c).next a;have c9:=d 0;have d0:=d 1;have d1:=d 2;have d2:=d 3;have d3:=d 4;have d4:=d 5;have d5:=d 6;have d6:=d 7;have d7:=d 8;obtain ⟨b0,b1,b2,D,E⟩:=(n.out.next c).next a;have Y:=o.out.lt;have p:=c.size;have hK:=n.out.1;have g4:w.heap.size≠G.heap.size:=by omega
   have g5:w.heap.size+1≠G.heap.size:=by omega
   have g6:w.heap.size+1+1≠G.heap.size:=by omega
   have g7:W1.heap.size≠G.heap.size:=by omega
   clear Y p hK;have HI:=Y1 (show x.Is _ from New.below hi a);have a5:Hid (∀b∈ [w.heap.size,w.heap.size+1,W1.heap.size],b < x.lo):=Y1 (by have h1:=n.out.1; have h2:=o.out.lt; intro b i; simp at i; omega);have b3:Hid (w.heap.size<=x.lo):=Y1 (by have h2:=o.out.lt; omega);have HT:=Y1 ht;have a8:=Y1 (a9.out.same (fun b i=>(Z05 (F:= []) (Z00 (Z00 U.out c) a)).same i (by simp)));clear c a hi g0 ht L O u M J V z C B o n N I;by_cases b8:j+1=l.length
   {have t:Hid (q= .ok ys):=Y1 (by rw[HQ.out]; exact if_pos b8);have e5: ((j:Int) !=(l.length:Int) - 1)=false:=by simp; omega
    go_wp2_with fail
    all_goals refine bodyPost_ret (v:= .tuple #[valT x,.agg #[.int .i64 0,.int .i64 0]]) (by simp[results,Tryz.results11,go_sem,valT,z0,x0,z1,z2,z3,z4,z5,z6,z7,z8,z9,x1,x2,g1,g2,g3]) rfl ?_
    all_goals rw[t.out]
    all_goals refine ⟨Z2o (F:= [w.heap.size,w.heap.size+1,W1.heap.size]) H.out HF.out ?_,x,rfl,ZeL HI.out a5.out ?_,b3.out,HT.out⟩
    all_goals repeat' (with_reducible first | refine UpT.drew ?_ | refine UpT.set ?_ _ (Or.inr ?_) _ | exact UpT.refl _ _)
    all_goals simp}
   {have t:Hid (q= .error (90,(Prs.look l j).at_)):=Y1 (by rw[HQ.out]; exact if_neg b8);have e5: ((j:Int) !=(l.length:Int) - 1)=true:=by simp; omega
    rcases a8.out with h0 | ⟨g,off,hA,g8,hc⟩
    {omega}
    {have k1:g≠W1.heap.size:=by omega
     have k0:=a7.out g off hA;have k2:g≠w.heap.size:=by have:=X.out; omega
     have k3:g≠w.heap.size+1:=by have:=X.out; omega
     obtain ⟨_,_,t2⟩:=hc j hj;rw[hA];have b9: (Prs.look l j).at_=(l[j]'hj).at_:=by rw[Prs.look_in hj]
     rw[b9] at t;clear hc a8 a9 U a7 X k0 g8 hA HI a5 b3 HT HQ b9
     go_wp2_with fail
     go_region
     all_goals go_wp2
     all_goals refine bodyPost_ret (v:= .tuple #[.agg #[.int .i64 0,.string ⟨#[]⟩,.string ⟨#[]⟩,.int .i64 0,.slice none 0 0,.slice none 0 0,.slice none 0 0,.slice none 0 0,.int .i64 0],.agg #[.int .i64 90,.int .i64 (l[j]'hj).at_]]) (by simp[results,Tryz.results11,go_sem,valT,z0,x0,z1,z2,z3,z4,z5,z6,z7,z8,z9,x1,x2,g1,g2,g3]) rfl ?_
     all_goals rw[t.out]
     all_goals refine ⟨Z2o (F:= [w.heap.size,w.heap.size+1,W1.heap.size]) H.out HF.out ?_,rfl⟩
     all_goals repeat' (with_reducible first | refine UpT.drew ?_ | refine UpT.set ?_ _ (Or.inr ?_) _ | exact UpT.refl _ _)
     all_goals simp}}
end
section
open Go.RowKit Tms
open Shp (Sh)
open Pso (St Ok)
open Prs (R)
open Go.Proofs.YtkncdbaoaeeoiaaGreatDoor (Tk)
theorem ZbZ {l:List Tk}: ∀σ,Pse.Ok l σ->Pse.To l σ (Pso.wholeE l σ).2:=fun σ h=>by
 have a:=Pse.to_expr (l.length+1) σ h;unfold Pso.wholeE;simp only;split
 {exact a}
 {next hc=>exact a.trans (Pse.to_fail a.1 hc _)}
theorem ZdC:ZeY 12 Pso.wholeE:=fun A c l hl w ht hg=>ZbY A c l 0 (fun b hb=>by have:=hl.tok b hb; omega) (by omega) (by have:=hl.len; omega) w ht hg
theorem Z2q (s:List UInt8) (J:s.length<=9223372036854775807) (w:World) (m:Gl w):
 Calls Tryz.prog 5 #[.string ⟨s.toArray⟩] w (TmSaid (Pso.rdText s Pso.wholeE) w):=by
 have i:=Y1 (Z0W w);have g:=Y1 (Z5c w);have d:=Y1 (Z6o w);have j:=Y1 (Z7K s J 12 (fun _ _=>rfl) Pso.wholeE ZdC (fun l=>ZbZ (l:=l)) (aE w) (m.next (Z0W w)));obtain ⟨r,p⟩: ∃r,r=Pso.rdText s Pso.wholeE:=⟨_,rfl⟩;rw[<-p] at j ⊢;clear m p;go_enter Tryz.func5,Tryz.ntmps5
 go_wp2_with fail
 change Calls _ _ _ (aE w) _;refine j.out.mono ?_;generalize aE w=W0 at i g d ⊢;rintro e W1 ⟨h,o⟩;have b:=Y1 (Z00 i.out h);have X:=g.out.lt;have K:=d.out.1;obtain ⟨u,z,A,B,C,D,E,F,G,a,t⟩:=g.out.next h;have N:=a 0;have O:=a 1;have P:=a 2;have Q:=a 3;have S:=a 4;have T:=a 5;have U:=a 6;have V:=a 7;have W:=a 8;obtain ⟨x0,x1,x2,L,M⟩:=d.out.next h;cases r with
 | ok y=>
  obtain ⟨x,rfl,n,k,q⟩:=o;have H:=Y1 n;have c:Hid (w.heap.size+1+1<=x.lo):=Y1 (by omega);have I:=Y1 q;clear n k q h i g d j;simp only[valT]
  go_wp2_with fail
  all_goals refine bodyPost_ret (v:= .tuple #[valT x,.agg #[.int .i64 0,.int .i64 0]]) (by simp[results,Tryz.results5,go_sem,valT,t,x0,u,z,A,B,C,D,E,F,G,x1,x2]) rfl ?_
  all_goals refine ⟨Z0U b.out ?_,x,rfl,Z6N H.out c.out ?_,by have:=c.out; omega,I.out⟩
  all_goals repeat' (with_reducible first | refine UpT.drew ?_ | refine UpT.set ?_ _ (Or.inr ?_) _ | exact UpT.refl _ _)
  all_goals simp
 | error f=>
  obtain rfl:=o;clear h i g d j
  go_wp2_with fail
  all_goals refine bodyPost_ret (v:= .tuple #[.agg #[.int .i64 0,.string ⟨#[]⟩,.string ⟨#[]⟩,.int .i64 0,.slice none 0 0,.slice none 0 0,.slice none 0 0,.slice none 0 0,.int .i64 0],.agg #[.int .i64 f.1,.int .i64 f.2]]) (by simp[results,Tryz.results5,go_sem,t,x0,u,z,A,B,C,D,E,F,G,x1,x2]) rfl ?_
  all_goals refine ⟨Z0U b.out ?_,rfl⟩
  all_goals repeat' (with_reducible first | refine UpT.drew ?_ | refine UpT.set ?_ _ (Or.inr ?_) _ | exact UpT.refl _ _)
  all_goals simp
end
section
open Go.RowKit Tms
open Shp (Sh)
def aw1:List UInt8:= [40,73,110,116,44,32,91,75,101,121,93,41,32,45,62,32,123,97,58,32,113,47,73,100,125]
def aw2:List UInt8:= [123,97,58,32,73,110,116,44,32,97,58,32,73,110,116,125]
def aw3:List UInt8:= [102,46,97,40,49,41]
def aw4:List UInt8:= [91,73,110,116]
theorem Zg9:Pso.rdText aw1 Pso.wholeT= .ok ⟨8,[],[],[],[⟨1,[],[],[],[]⟩,⟨5,[],[],[],[⟨9,[],[75,101,121],[],[]⟩]⟩,⟨6,[],[],[[97]],[⟨9,[113],[73,100],[],[]⟩]⟩]⟩:=by kernel_rfl
theorem Zga:Pso.rdText aw2 Pso.wholeT= .error (111,9):=by kernel_rfl
theorem Zgb:Pso.rdText aw3 Pso.wholeE= .ok ⟨7,[],[],0,[],[],[],[⟨9,[],[97],0,[],[],[],[⟨5,[],[102],0,[],[],[],[],0⟩],0⟩,⟨1,[],[],1,[],[],[],[],4⟩],0⟩:=by kernel_rfl
theorem Zgc:Pso.rdText aw4 Pso.wholeE= .error (90,1):=by kernel_rfl
section
variable (w : World) (h : Gl w)
include w h
theorem ZeM:Calls Tryz.prog 13 #[.string ⟨aw1.toArray⟩] w fun e w'=>Below w.heap.size w w'/\ ∃x:ES,e= .returned (.tuple #[valS x,.agg #[.int .i64 0,.int .i64 0]])/\x.t.kind=8/\x.t.parts.length=3:=by
 have a:=Z3M aw1 (by decide) w h;rw[Zg9] at a;refine a.mono ?_;rintro e w' ⟨c,x,rfl,_,_,b⟩;exact ⟨c,x,rfl,by rw[b],by rw[b]; rfl⟩
theorem ZeN:Calls Tryz.prog 13 #[.string ⟨aw2.toArray⟩] w fun e w'=>Below w.heap.size w w'/\e= .returned (.tuple #[.agg #[.int .i64 0,.string ⟨#[]⟩,.string ⟨#[]⟩,.slice none 0 0,.slice none 0 0],.agg #[.int .i64 111,.int .i64 9]]):=by
 have a:=Z3M aw2 (by decide) w h;rw[Zga] at a;exact a
theorem ZeO:Calls Tryz.prog 5 #[.string ⟨aw3.toArray⟩] w fun e w'=>Below w.heap.size w w'/\ ∃x:ET,e= .returned (.tuple #[valT x,.agg #[.int .i64 0,.int .i64 0]])/\x.t.kind=7/\x.t.parts.length=2/\ ∃g off,x.q.P=some ⟨g,off,none⟩/\g < w'.heap.size/\w'.cell? ⟨g,off+9+8,none⟩=some (.int .i64 4):=by
 have h1:=Z2q aw3 (by decide) w h;rw[Zgb] at h1;refine h1.mono ?_;rintro e w' ⟨f,x,rfl,i,_,a⟩;have j:x.t.parts.length=2:=by rw[a]; rfl
 refine ⟨f,x,rfl,by rw[a],j, ?_⟩;rcases i.here.part with k | ⟨g,off,qs,h1,h2,c,_⟩
 {omega}
 {have b:=(c 1 (by omega)).2.2.2.2.2.2.2.2;have d: (x.t.parts[1]'(by omega)).at_=4:=by
   have: ∀(t:Tm) (h:1 < t.parts.length),t=(⟨7,[],[],0,[],[],[],[⟨9,[],[97],0,[],[],[],[⟨5,[],[102],0,[],[],[],[],0⟩],0⟩,⟨1,[],[],1,[],[],[],[],4⟩],0⟩:Tm)->(t.parts[1]'h).at_=4:=by
    intro t h e; subst e; rfl
   exact this x.t (by omega) a
  rw[d] at b;exact ⟨g,off,h1,h2,by rw[show off+9+8=off+1 * 9+8 from by omega]; exact b⟩}
theorem ZeP:Calls Tryz.prog 5 #[.string ⟨aw4.toArray⟩] w fun e w'=>Below w.heap.size w w'/\e= .returned (.tuple #[.agg #[.int .i64 0,.string ⟨#[]⟩,.string ⟨#[]⟩,.int .i64 0,.slice none 0 0,.slice none 0 0,.slice none 0 0,.slice none 0 0,.int .i64 0],.agg #[.int .i64 90,.int .i64 1]]):=by
 have a:=Z2q aw4 (by decide) w h;rw[Zgc] at a;exact a
end
theorem box2 (W:World) (c1 c2:Array Value) (a b:TypeId):Below W.heap.size W ((W.alloc (.cells c1 a)).alloc (.cells c2 b))/\(∀k v,c1[k]? =some v->((W.alloc (.cells c1 a)).alloc (.cells c2 b)).cell? ⟨W.heap.size,k,none⟩=some v)/\(∀k v,c2[k]? =some v->((W.alloc (.cells c1 a)).alloc (.cells c2 b)).cell? ⟨W.heap.size+1,k,none⟩=some v)/\((W.alloc (.cells c1 a)).alloc (.cells c2 b)).heap.size=W.heap.size+2:=by
 refine ⟨Z03 (Z01 _ _) _,fun k v h=> ?_,fun k v h=> ?_,by simp⟩
 {simp[go_sem,h]}
 {simp[go_sem,h]}
theorem Below.cells {A:Nat} {W W':World} (h:Below A W W') {b:Nat} (a:b < A) (k:Nat):W'.cell? ⟨b,k,none⟩=W.cell? ⟨b,k,none⟩:=h.cell (p:=⟨b,k,none⟩) a
theorem Z5y (w:World) (hG:Gl w):
 Y9 6 #[] w (.bool true):=by
 have D:=Y1 hG;clear hG;go_enter Tryz.func6,Tryz.ntmps6
 go_wp2_with fail
 refine (ZeM w D.out).mono ?_;rintro e L ⟨i,x1,rfl,H,J⟩;simp only[valS,Y8];rw[H,J];have C:=Y1 i;clear i H J
 go_wp2_with fail
 have d:=box2 L #[.int .i64 (8:Nat),.string ⟨x1.t.of_.toArray⟩,.string ⟨x1.t.name.toArray⟩,.slice x1.q.A x1.t.names.length x1.q.c,.slice x1.q.P 3 x1.q.d] #[.int .i64 0,.int .i64 0] 43 29;simp only[show ((8:Nat):Int)=(8:Int) from rfl] at d;have r:=d.2.1 0 _ rfl;have s:=d.2.1 4 _ rfl;have t:=d.2.2.1 0 _ rfl;obtain ⟨a, -, -,l⟩:=d;generalize (L.alloc _).alloc _=W1 at a r s t l ⊢;have i:Below w.heap.size w W1:=Z00 C.out a;have q:=Y1 (And.intro l (And.intro i (And.intro r (And.intro s t))));clear l i r s t a;have U:=q.out.1;refine (ZeN W1 (D.out.next q.out.2.1)).mono ?_;rintro e M ⟨j,rfl⟩;have m:=Y1 j;clear j
 go_wp2_with fail
 have d:=box2 M #[.int .i64 0,.string ⟨#[]⟩,.string ⟨#[]⟩,.slice none 0 0,.slice none 0 0] #[.int .i64 111,.int .i64 9] 43 29;have u:=d.2.2.1 0 _ rfl;have v:=d.2.2.1 1 _ rfl;obtain ⟨a, -, -,l⟩:=d;generalize (M.alloc _).alloc _=W2 at a u v l ⊢;have j:Below W1.heap.size W1 W2:=Z00 m.out a;have V:W1.heap.size<=M.heap.size:=m.out.size;have N:=Y1 (And.intro l (And.intro j (And.intro u v)));clear l j u v a;refine (ZeO W2 (D.out.next (Z00 q.out.2.1 N.out.2.1))).mono ?_;rintro e B ⟨k,h,rfl,I,K,g,off,F,G,f⟩;simp only[valT,Y7];rw[I,K,F];have n:=Y1 k;have O:=Y1 (And.intro G f);clear k I K F G f
 go_wp2_with fail
 have d:=box2 B #[.int .i64 (7:Nat),.string ⟨h.t.of_.toArray⟩,.string ⟨h.t.name.toArray⟩,.int .i64 h.t.n,.slice h.q.A h.t.names.length h.q.c,.slice h.q.V h.t.vars.length h.q.e,.slice h.q.S h.t.shapes.length h.q.s,.slice (some ⟨g,off,none⟩) 2 h.q.d,.int .i64 h.t.at_] #[.int .i64 0,.int .i64 0] 26 29;simp only[show ((7:Nat):Int)=(7:Int) from rfl] at d;have y:=d.2.1 0 _ rfl;have z:=d.2.1 7 _ rfl;have A:=d.2.2.1 0 _ rfl;obtain ⟨a, -, -,l⟩:=d;generalize (B.alloc _).alloc _=W3 at a y z A l ⊢;have k:Below W2.heap.size W2 W3:=Z00 n.out a;have E:W3.cell? ⟨g,off+9+8,none⟩=some (.int .i64 4):=(Below.cells a O.out.1 _).trans O.out.2;have f:g < W3.heap.size:=by have:=O.out.1; omega
 have W:W2.heap.size<=B.heap.size:=n.out.size;have S:=Y1 (And.intro l (And.intro k (And.intro y (And.intro z (And.intro A (And.intro E f))))));clear l k y z A E a f;have p:Hid (Below w.heap.size w W3):=Y1 (Z00 (Z00 q.out.2.1 N.out.2.1) S.out.2.1);refine (ZeP W3 (D.out.next p.out)).mono ?_;rintro e w4 ⟨c,rfl⟩;have o:=Y1 c;clear c;have d:=box2 w4 #[.int .i64 0,.string ⟨#[]⟩,.string ⟨#[]⟩,.int .i64 0,.slice none 0 0,.slice none 0 0,.slice none 0 0,.slice none 0 0,.int .i64 0] #[.int .i64 90,.int .i64 1] 26 29;have a:=d.1;have f9:=d.2.2.1 0 _ rfl;clear d;have c:=Z00 o.out a;obtain ⟨Y, -,r,s,t⟩:=q.out;obtain ⟨Z,hD,u,v⟩:=N.out;obtain ⟨a0,hF,y,z,A,E,f⟩:=S.out;have X:W3.heap.size<=w4.heap.size:=o.out.size;have P:=Z00 hF c;have Q:=Z00 hD P;have f1:=(Below.cells Q (b:=L.heap.size) (by omega) _).trans r;have f2:=(Below.cells Q (b:=L.heap.size) (by omega) _).trans s;have f3:=(Below.cells Q (b:=L.heap.size+1) (by omega) _).trans t;have f4:=(Below.cells P (b:=M.heap.size+1) (by omega) _).trans u;have f5:=(Below.cells P (b:=M.heap.size+1) (by omega) _).trans v;have f6:=(Below.cells c (b:=B.heap.size) (by omega) _).trans y;have f7:=(Below.cells c (b:=B.heap.size) (by omega) _).trans z;have f8:=(Below.cells c (b:=B.heap.size+1) (by omega) _).trans A;have g9:=(Below.cells c (b:=g) f _).trans E;have T:=Y1 (Z00 p.out c);clear r s t u v y z A E P Q hF hD c a Y Z a0 U V W X f C m n o q N O S D p
 go_wp2_with fail
 go_ret;exact ⟨rfl,T.out⟩
end
end Go.Proofs.YtkncdbaoaeeoiaaGreatDoor
namespace Pso
open Prs (look sign no Flt upper tm num)
open Go.Proofs.YtkncdbaoaeeoiaaGreatDoor (Tk)
open Shp (Sh)
open Tms (Tm)
section
variable {l : List Tk}
include l
theorem back {σ τ:St} (h:To l σ τ) (a:τ.2.1=0):σ.2.1=0:=by
 by_cases b:σ.2.1=0
 {exact b}
 {have:=h.2.2 b; rw[this] at a; exact a}
theorem Z3Q {σ:St} {e a:Int} (c:e≠0): (fail l σ e a).2.1≠0:=by
 unfold fail;by_cases b:σ.2.1=0
 {rw[if_pos b]; exact c}
 {rw[if_neg b]; exact b}
theorem Zi7 {σ:St} {s:List UInt8} (a: (want l σ s).2.1=0):sign l σ.1 s=true/\want l σ s=(σ.1+1,σ.2):=by
 unfold want at a ⊢;by_cases b:sign l σ.1 s=true
 {exact ⟨b,if_pos b⟩}
 {rw[if_neg b] at a; exact absurd a (Z3Q (by decide))}
theorem ZaI {σ:St} {k:Int} {c:List UInt8->Bool} (b: (textOf l σ k c).2.2.1=0): (look l σ.1).t.kind=k/\textOf l σ k c=((look l σ.1).t.text,(σ.1+1,σ.2)):=by
 unfold textOf at b ⊢;by_cases a: (decide ((look l σ.1).t.kind=k)&&c (look l σ.1).t.text)=true
 {rw[if_pos a];simp only[Bool.and_eq_true,decide_eq_true_eq] at a;exact ⟨a.1,rfl⟩}
 {rw[if_neg a] at b; exact absurd b (Z3Q (by decide))}
end
inductive Stand (l:List Tk):Nat->Tm->Prop
 | mk (i j:Nat) (t:Tm):i<=j->(look l j).t.kind≠0->(look l j).at_=t.at_->(∀p∈t.parts,Stand l j p)->Stand l i t
theorem Stand.less {l:List Tk} {i k:Nat} {t:Tm} (h:Stand l i t) (e:k<=i):Stand l k t:=by
 obtain ⟨_,j,_,a,b,c,d⟩:=h;exact .mk k j t (Nat.le_trans e a) b c d
section
variable {l : List Tk} {ex : St -> Tm × St}
structure Beg (l:List Tk) (i:Nat) (a:Int) (σ:St):Prop where
 k: (look l i).t.kind≠0
 a: (look l i).at_=a
 le:i<=σ.1
theorem Beg.on {i:Nat} {a:Int} {σ τ:St} (h:Beg l i a σ) (b:To l σ τ):Beg l i a τ:=⟨h.k,h.a,Nat.le_trans h.le b.2.1⟩
def Ex (l:List Tk) (ex:St->Tm×St):Prop:= ∀σ,Ok l σ->(ex σ).2.2.1=0->Stand l σ.1 (ex σ).1
theorem Beg.one {i:Nat} {a:Int} {σ:St} (h:Beg l i a σ) {t:Tm} (b:t.at_=a) (c: ∀p∈t.parts,Stand l i p):Stand l i t:=
 .mk i i t (Nat.le_refl _) h.k (h.a.trans b.symm) c
theorem Z8W {α:Type} {s:List UInt8} {f:St->α->St×α} (d:Goes l f) (I:α->Prop) (k:Nat) (e: ∀σ a,Ok l σ->k<=σ.1->(f σ a).1.2.1=0->I a->I (f σ a).2): ∀n σ a,Ok l σ->k<=σ.1->(loop l s f n σ a).1.2.1=0->I a->I (loop l s f n σ a).2
 | 0,σ,a,_,_,_,h=>h
 | n+1,σ,a,hσ,hk,h0,h=>by
  unfold loop at h0 ⊢;split
  {next hs=>
   rw[if_pos hs] at h0;have b:=to_next hσ (sign_lt hs);have c:=d _ a b.1;have g:=to_loop (s:=s) d n _ (f (σ.1+1,σ.2) a).2 c.1;exact Z8W d I k e n _ _ c.1 (by have:=b.2.1; have:=c.2.1; omega) h0 (e _ a b.1 (by simp only; omega) (back g h0) h)}
  {exact h}
theorem Z4h {α:Type} {o s e:List UInt8} {f:St->α->St×α} (g:Goes l f) (I:α->Prop) (k:Nat) (m: ∀σ a,Ok l σ->k<=σ.1->(f σ a).1.2.1=0->I a->I (f σ a).2) {σ:St} {a:α} (r:Ok l σ) (t:k<=σ.1) (b: (betw l o s e f σ a).1.2.1=0) (h:I a):I (betw l o s e f σ a).2:=by
 unfold betw at b ⊢;have c:=to_want r o;have p:=c.2.1;simp only at b ⊢;split
 {exact h}
 {next hs=>
  rw[if_neg hs] at b;have d:=g _ a c.1;have j:=to_loop (s:=s) g (l.length+1) _ (f (want l σ o) a).2 d.1;have n:=to_want j.1 e;have i:=back n b;have q:=d.2.1;exact Z8W g I k m _ _ _ d.1 (by omega) i (m _ a c.1 (by omega) (back j i) h)}
def PartsI (l:List Tk) (k:Nat) (ps:List Tm):Prop:= ∀p∈ps,Stand l k p
theorem PartsI.one {k j:Nat} {ps:List Tm} (h:PartsI l k ps) {p:Tm} (c:Stand l j p) (b:k<=j):PartsI l k (ps++ [p]):=fun x a=>by
 rcases List.mem_append.1 a with a | a
 {exact h x a}
 {obtain rfl:x=p:=by simpa using a
  exact c.less b}
theorem Z8X (h:Ex l ex) (k:Nat): ∀σ a,Ok l σ->k<=σ.1->(argsR l ex σ a).1.2.1=0->PartsI l k a->PartsI l k (argsR l ex σ a).2:=
 fun σ a hσ hk h0 hi=>hi.one (h σ hσ h0) hk
section
variable (hT : Ty l ex) (h : Ex l ex)
include hT h
theorem ZfG (k:Nat): ∀σ a,Ok l σ->k<=σ.1->(recR l ex σ a).1.2.1=0->PartsI l k a.2->PartsI l k (recR l ex σ a).2.2:=fun σ a hσ hk h0 hi=>by
 have b:=to_another hσ a.1;have c:=to_want b.1 [61];exact hi.one (h _ c.1 h0) (by have:=b.2.1; have:=c.2.1; omega)
theorem ZfH (k:Nat): ∀σ a,Ok l σ->k<=σ.1->(wayR l ex σ a).1.2.1=0->PartsI l k a.parts->PartsI l k (wayR l ex σ a).2.parts:=fun σ a hσ hk h0 hi=>by
 have b:=to_another hσ a.names;have c:=to_want b.1 [40];have d:=to_name c.1;have e:=to_want d.1 [58];have f:=to_wholeT _ e.1;have g:=to_want f.1 [41];have i:=to_want g.1 [45,62];exact hi.one (h _ i.1 h0) (by have:=b.2.1; have:=c.2.1; have:=d.2.1; have:=e.2.1; have:=f.2.1; have:=g.2.1; have:=i.2.1; omega)
theorem Zgd {i:Nat} {a:Int} {σ:St} (g:Ok l σ) (d:Beg l i a σ) (f: (funE l ex σ a).2.2.1=0):Stand l i (funE l ex σ a).1:=by
 have b:=to_betw (o:= [40]) (s:= [44]) (e:= [41]) (goes_binds (l:=l)) ([],[]) g;have c:=to_want b.1 [45,62];refine d.one rfl (fun p hp=> ?_);obtain rfl:p=(ex (want l (betw l [40] [44] [41] (bindsR l) σ ([],[])).1 [45,62])).1:=by simpa[funE] using hp
 exact (h _ c.1 f).less ((d.on b).on c).le
theorem Zge {i:Nat} {a:Int} {σ:St} (r:Ok l σ) (k:Beg l i a σ) (f: (letE l ex σ a).2.2.1=0):Stand l i (letE l ex σ a).1:=by
 have g:=to_name r;have c:=to_want g.1 [61];have j:=hT _ c.1;have b:=to_want j.1 [105,110];have q:=hT _ b.1;have e:=(k.on g).on c;have m:=(e.on j).on b;have o:=back q f;have n:=back b o;refine k.one rfl (fun p hp=> ?_);have d:p=(ex (want l (name l σ).2 [61])).1\/p=(ex (want l (ex (want l (name l σ).2 [61])).2 [105,110])).1:=by simpa[letE] using hp
 rcases d with rfl | rfl
 {exact (h _ c.1 n).less e.le}
 {exact (h _ b.1 f).less m.le}
theorem ZdD {i:Nat} {a:Int} {σ:St} (q:Ok l σ) (e:Beg l i a σ) (t: (choiceE l ex σ a).2.2.1=0):Stand l i (choiceE l ex σ a).1:=by
 have m:=hT _ q;have b:=to_want m.1 [116,104,101,110];have d:=hT _ b.1;have c:=to_want d.1 [101,108,115,101];have n:=hT _ c.1;have o:=to_want n.1 [97,115];have u:=to_wholeT _ o.1;have g:=(e.on m).on b;have r:=(g.on d).on c;have k:=back o (back u t);have j:=back c (back n k);have s:=back b (back d j);refine e.one rfl (fun p hp=> ?_);have f:p=(ex σ).1\/p=(ex (want l (ex σ).2 [116,104,101,110])).1\/p=(ex (want l (ex (want l (ex σ).2 [116,104,101,110])).2 [101,108,115,101])).1:=by simpa[choiceE] using hp
 rcases f with rfl | rfl | rfl
 {exact (h _ q s).less e.le}
 {exact (h _ b.1 j).less g.le}
 {exact (h _ c.1 k).less r.le}
theorem ZeQ {i:Nat} {a:Int} {σ:St} (k:Ok l σ) (c:Beg l i a σ) (q: (matchE l ex σ a).2.2.1=0):Stand l i (matchE l ex σ a).1:=by
 have f:=hT _ k;have b:=to_want f.1 [111,102];have g:=to_betw (o:= [123]) (s:= [124]) (e:= [125]) (goes_way hT) ⟨[],[],[],[(ex σ).1]⟩ b.1;have j:=to_want g.1 [97,115];have r:=to_wholeT _ j.1;have d:=back j (back r q);have n:=back b (back g d);have m:=(c.on f).on b;refine c.one rfl ?_;exact Z4h (goes_way hT) (fun w:Ways=>PartsI l i w.parts) i (ZfH hT h i) b.1 m.le d (fun p hp=>by
  obtain rfl:p=(ex σ).1:=by simpa using hp
  exact (h _ k n).less c.le)
theorem ZfI {i:Nat} {a:Int} {σ:St} (d:Ok l σ) (c:Beg l i a σ) (g: (listE l ex σ a).2.2.1=0):Stand l i (listE l ex σ a).1:=by
 have j:=to_betw (o:= [91]) (s:= [44]) (e:= [93]) (goes_args hT) [] d;have b:=to_want j.1 [111,102];have k:=to_wholeT _ b.1;have f:=back b (back k g);refine c.one rfl ?_;exact Z4h (goes_args hT) (PartsI l i) i (Z8X h i) d c.le f (fun p hp=>by simp at hp)
theorem ZdE {i:Nat} {a:Int} {σ:St} (d:Ok l σ) (b:Beg l i a σ) (c: (recordE l ex σ a).2.2.1=0):Stand l i (recordE l ex σ a).1:=by
 refine b.one rfl ?_;exact Z4h (goes_rec hT) (fun w:List (List UInt8)×List Tm=>PartsI l i w.2) i (ZfG hT h i) d b.le c (fun p hp=>by simp at hp)
theorem Zc1 {i:Nat} {a:Int} {σ:St} (k:Int) (d:List UInt8) (j:Ok l σ) (c:Beg l i a σ) (e: (ofE l ex k d σ a).2.2.1=0):Stand l i (ofE l ex k d σ a).1:=by
 have b:=to_want j [40];have f:=hT _ b.1;have g:=to_want f.1 [41];refine c.one rfl (fun p hp=> ?_);obtain rfl:p=(ex (want l σ [40])).1:=by simpa[ofE] using hp
 exact (h _ b.1 (back g e)).less (c.on b).le
theorem Zae {i:Nat} {a:Int} {σ:St} (d:Ok l σ) (c:Beg l i a σ) (b: (enclosedE l ex σ a).2.2.1=0):Stand l i (enclosedE l ex σ a).1:=by
 have e:=hT _ d;unfold enclosedE at b ⊢;simp only at b ⊢;split
 {next hx=>
  rw[if_pos hx] at b;have f:=to_next e.1 (sign_lt hx);have g:=to_wholeT _ f.1;have k:=to_want g.1 [41];have j:=back f (back g (back k b));refine c.one rfl (fun p hp=> ?_);obtain rfl:p=(ex σ).1:=by simpa using hp
  exact (h _ d j).less c.le}
 {next hx=>
  rw[if_neg hx] at b;exact (h _ d (back (to_want e.1 [41]) b)).less c.le}
end
theorem ZeR {i:Nat} {a:Int} {σ:St} (b:Beg l i a σ):Stand l i (valueE l σ a).1:=by
 unfold valueE;simp only;split
 {exact b.one rfl (fun p hp=>by simp[tm] at hp)}
 {exact b.one rfl (fun p hp=>by simp[tm] at hp)}
theorem Zc2 {σ:St} {a:Int} (e:Ok l σ) (b: (valueE l σ a).2.2.1=0): (look l σ.1).t.kind=1:=by
 have d:=to_name e;unfold valueE at b;simp only at b;split at b
 {next hx=>
  have c:=to_next d.1 (sign_lt hx);exact (ZaI (back c (back (to_name c.1) b))).1}
 {exact (ZaI b).1}
theorem Z0n {i:Nat} {s:List UInt8} (h:sign l i s=true): (look l i).t.kind≠0:=Pse.sign_lt h
theorem ZfJ (g:Ty l ex) (h:Ex l ex) {σ:St} (e:Ok l σ) (a: (atomE l ex σ (look l σ.1).at_).2.2.1=0): (look l σ.1).t.kind≠0/\Stand l σ.1 (atomE l ex σ (look l σ.1).at_).1:=by
 have b: ∀(t:Tm),(look l σ.1).t.kind≠0->t.at_=(look l σ.1).at_->t.parts= []->(look l σ.1).t.kind≠0/\Stand l σ.1 t:=fun t d ha hp=>⟨d,.mk _ _ _ (Nat.le_refl _) d ha.symm (by rw[hp]; simp)⟩;have i: (look l σ.1).t.kind≠0->Beg l σ.1 (look l σ.1).at_ (σ.1+1,σ.2):=fun d=>⟨d,rfl,Nat.le_succ _⟩;unfold atomE at a ⊢;simp only at a ⊢;split
 {next hx=>exact b _ (Z0n hx) rfl rfl}
 next hx1=>
 rw[if_neg hx1] at a;split
 {next hx=>exact b _ (Z0n hx) rfl rfl}
 next hx2=>
 rw[if_neg hx2] at a;split
 {next hx=>
  rw[if_pos hx] at a;exact ⟨Z0n hx,Zae g h (to_next e (sign_lt hx)).1 (i (Z0n hx)) a⟩}
 next hx3=>
 rw[if_neg hx3] at a;split
 {next hx=>
  rw[if_pos hx] at a;exact ⟨Z0n hx,ZdE g h e ⟨Z0n hx,rfl,Nat.le_refl _⟩ a⟩}
 next hx4=>
 rw[if_neg hx4] at a;split
 {next hx=>
  rw[if_pos hx] at a;have f:=to_next e (sign_lt hx);have c:=to_name f.1;exact ⟨Z0n hx,Zc1 g h _ _ c.1 ((i (Z0n hx)).on c) a⟩}
 next hx5=>
 rw[if_neg hx5] at a;split
 {next hx=>
  rw[if_pos hx] at a;have f:=to_next e (sign_lt hx);have c:=to_upper f.1;exact ⟨Z0n hx,Zc1 g h _ _ c.1 ((i (Z0n hx)).on c) a⟩}
 next hx6=>
 rw[if_neg hx6] at a;split
 {next hx=>
  rw[if_pos hx] at a;have f:=to_next e (sign_lt hx);have c:=to_upper f.1;exact ⟨Z0n hx,Zc1 g h _ _ c.1 ((i (Z0n hx)).on c) a⟩}
 next hx7=>
 rw[if_neg hx7] at a;split
 {next hx=>exact b _ (by rw[hx]; decide) rfl rfl}
 next hx8=>
 rw[if_neg hx8] at a;split
 {next hx=>exact b _ (by rw[hx]; decide) rfl rfl}
 next hx9=>
 rw[if_neg hx9] at a;have d: (look l σ.1).t.kind≠0:=by rw[Zc2 e a]; decide
 exact ⟨d,ZeR ⟨d,rfl,Nat.le_refl _⟩⟩
theorem Z50 (c:Ty l ex) (h:Ex l ex) {i:Nat} {a:Int} (j: (look l i).t.kind≠0) (g: (look l i).at_=a): ∀n σ t,Ok l σ->i<=σ.1->(chainL l ex a n σ t).2.2.1=0->Stand l i t->Stand l i (chainL l ex a n σ t).1
 | 0,σ,t,_,_,_,ht=>ht
 | n+1,σ,t,hs,hi,h0,ht=>by
  unfold chainL at h0 ⊢;split
  {next hx=>
   rw[if_pos hx] at h0;have b:=to_betw (o:= [40]) (s:= [44]) (e:= [41]) (goes_args c) [t] hs;have f:=to_chainL c a n (betw l [40] [44] [41] (argsR l ex) σ [t]).1 { tm 7 a with parts:=(betw l [40] [44] [41] (argsR l ex) σ [t]).2 } b.1;have d:PartsI l i (betw l [40] [44] [41] (argsR l ex) σ [t]).2:=Z4h (goes_args c) (PartsI l i) i (Z8X h i) hs hi (back f h0) (fun p d=>by
    obtain rfl:p=t:=by simpa using d
    exact ht)
   exact Z50 c h j g n _ _ b.1 (Nat.le_trans hi b.2.1) h0 (.mk i i _ (Nat.le_refl _) j g d)}
  next hx1=>
  rw[if_neg hx1] at h0;split
  {next hx=>
   rw[if_pos hx] at h0;have b:=to_next hs (sign_lt hx);have f:=to_name b.1;exact Z50 c h j g n _ _ f.1 (Nat.le_trans hi (b.trans f).2.1) h0 (.mk i i _ (Nat.le_refl _) j g (fun p d=>by
    obtain rfl:p=t:=by simpa using d
    exact ht))}
  {exact ht}
theorem ZfK (b:Ty l ex) (h:Ex l ex):Ex l (bodyE l ex):=fun σ hσ h0=>by
 have c:=to_begin hσ;have e: (begin_ l σ).2.1=0:=back (by
  unfold bodyE;simp only;split
  {next hx=>
   have a:=to_next c.1 (sign_lt hx);exact a.trans (to_fun b _ _ a.1)}
  split
  {next hx=>
   have a:=to_next c.1 (sign_lt hx);exact a.trans (to_let b _ _ a.1)}
  split
  {next hx=>
   have a:=to_next c.1 (sign_lt hx);exact a.trans (to_choice b _ _ a.1)}
  split
  {next hx=>
   have a:=to_next c.1 (sign_lt hx);exact a.trans (to_match b _ _ a.1)}
  split
  {exact to_list b _ _ c.1}
  · exact to_chain b _ _ c.1) h0
 have g:begin_ l σ=σ:=by
  unfold begin_ at e ⊢;split
  {next hx=>rw[if_pos hx] at e; exact absurd e (Z3Q (by decide))}
  {rfl}
 have d: (look l σ.1).t.kind≠0->Beg l σ.1 (look l σ.1).at_ (σ.1+1,σ.2):=fun f=>⟨f,rfl,Nat.le_succ _⟩;unfold bodyE at h0 ⊢;simp only[g] at h0 ⊢;split
 {next hx=>
  rw[if_pos hx] at h0;exact Zgd b h (to_next hσ (sign_lt hx)).1 (d (Z0n hx)) h0}
 next hx1=>
 rw[if_neg hx1] at h0;split
 {next hx=>
  rw[if_pos hx] at h0;exact Zge b h (to_next hσ (sign_lt hx)).1 (d (Z0n hx)) h0}
 next hx2=>
 rw[if_neg hx2] at h0;split
 {next hx=>
  rw[if_pos hx] at h0;exact ZdD b h (to_next hσ (sign_lt hx)).1 (d (Z0n hx)) h0}
 next hx3=>
 rw[if_neg hx3] at h0;split
 {next hx=>
  rw[if_pos hx] at h0;exact ZeQ b h (to_next hσ (sign_lt hx)).1 (d (Z0n hx)) h0}
 next hx4=>
 rw[if_neg hx4] at h0;split
 {next hx=>
  rw[if_pos hx] at h0;exact ZfI b h hσ ⟨Z0n hx,rfl,Nat.le_refl _⟩ h0}
 next hx5=>
 rw[if_neg hx5] at h0;unfold chainE at h0 ⊢;simp only at h0 ⊢;have a:=to_atom b (look l σ.1).at_ σ hσ;have i:=to_chainL b (look l σ.1).at_ (l.length+1) _ (atomE l ex σ (look l σ.1).at_).1 a.1;obtain ⟨f,j⟩:=ZfJ b h hσ (back i h0);exact Z50 b h f rfl _ _ _ a.1 a.2.1 h0 j
theorem st_expr: ∀n,Ex l (expr l n)
 | 0=>fun σ _ h0=>absurd h0 (Z3Q (by decide))
 | n+1=>ZfK (to_expr n) (st_expr n)
end
end Pso
namespace Pso
section
open Go.Proofs.YtkncdbaoaeeoiaaGreatDoor (Tk tkOf scanned)
open Prs (Flt R look)
open Lex (Tok Placed)
open Tms (Tm)
theorem Z8Y {α:Type} {s:List UInt8} {whole:List Tk->St->α×St} {t:α} (h:rdText s whole= .ok t): ∃m,Lex.scanR s= .ok m/\(whole (tkOf m) (0,(0,0))).2.2.1=0/\(whole (tkOf m) (0,(0,0))).1=t/\(whole (tkOf m) (0,(0,0))).2.1+1=(tkOf m).length:=by
 unfold rdText at h;cases a:Lex.scanR s with
 | error x=>rw[a] at h; cases h
 | ok m=>
  rw[a] at h;simp only at h;refine ⟨m,rfl, ?_⟩;unfold rd close at h;split at h
  {cases h}
  next y hy=>
  split at hy
  {cases hy}
  split at hy
  {cases hy}
  split at hy
  {next hf=>
   obtain rfl:=Except.ok.inj hy;split at h
   {next he=>exact ⟨hf,Except.ok.inj h,he⟩}
   {cases h}}
  {cases hy}
end
end Pso
namespace Lex
end Lex
namespace Go.Proofs.YtkncdbaoaeeoiaaGreatDoor
open Go.RowKit
structure R3 (W:World) (h0 h1 h2:Nat):Prop where
 l0:h0 < W.heap.size
 l1:h1 < W.heap.size
 l2:h2 < W.heap.size
 t0:W.cell? ⟨h0,0,none⟩=some (.int .i64 0)
 t1:W.cell? ⟨h0,1,none⟩=some (.string ⟨#[]⟩)
 t2:W.cell? ⟨h0,2,none⟩=some (.int .i64 0)
 f0:W.cell? ⟨h1,0,none⟩=some (.int .i64 0)
 f1:W.cell? ⟨h1,1,none⟩=some (.int .i64 0)
 b0:W.cell? ⟨h2,0,none⟩=some (.int .i64 60)
 b1:W.cell? ⟨h2,1,none⟩=some (.int .i64 0)
 z0:W.frozen? ⟨h0,0,none⟩=false
 z1:W.frozen? ⟨h0,1,none⟩=false
 z2:W.frozen? ⟨h0,2,none⟩=false
 z3:W.frozen? ⟨h1,0,none⟩=false
 z4:W.frozen? ⟨h1,1,none⟩=false
theorem R3.keep {W W':World} {g h i B:Nat} (r:R3 W g h i) (a:g < B) (c:h < B) (d:i < B) (e:Below B W W'):R3 W' g h i:=by
 have k: ∀b o,b < B->W'.cell? ⟨b,o,none⟩=W.cell? ⟨b,o,none⟩:=fun b o hbl=>e.cell (p:=⟨b,o,none⟩) hbl;have f: ∀b o,b < B->W'.frozen? ⟨b,o,none⟩=W.frozen? ⟨b,o,none⟩:=fun b o hbl=>e.frozen (p:=⟨b,o,none⟩) hbl;exact ⟨Nat.lt_of_lt_of_le r.l0 e.size,Nat.lt_of_lt_of_le r.l1 e.size,Nat.lt_of_lt_of_le r.l2 e.size,(k _ _ a).trans r.t0,(k _ _ a).trans r.t1,(k _ _ a).trans r.t2,(k _ _ c).trans r.f0,(k _ _ c).trans r.f1,(k _ _ d).trans r.b0,(k _ _ d).trans r.b1,
  (f _ _ a).trans r.z0,(f _ _ a).trans r.z1,(f _ _ a).trans r.z2,(f _ _ c).trans r.z3,(f _ _ c).trans r.z4⟩
end Go.Proofs.YtkncdbaoaeeoiaaGreatDoor
namespace Lex
theorem ZeW {s:List UInt8} {x:Int×Nat} (h:scanR s= .error x):x.1≠0:=by
 unfold scanR at h;split at h
 {obtain rfl:=Except.error.inj h; decide}
 {cases a:toks s 0 with
  | error y=>
   rw[a] at h;obtain rfl:=Except.error.inj h;rcases (Z1d s.length s 0 y.1 y.2 (Nat.le_refl _) a).2 with b | b <;> rw[b] <;> decide
  | ok l=>rw[a] at h; cases h}
end Lex
namespace Pso
open Prs (Flt)
open Go.Proofs.YtkncdbaoaeeoiaaGreatDoor (Tk tkOf)
theorem rdText_ne {α:Type} {s:List UInt8} {whole:List Tk->St->α×St} {f:Flt} (h:rdText s whole= .error f):f.1≠0:=by
 unfold rdText at h;cases a:Lex.scanR s with
 | error x=>
  rw[a] at h;obtain rfl:=Except.error.inj h;exact Lex.ZeW a
 | ok m=>
  rw[a] at h;simp only at h;unfold close at h;split at h
  {next hy=>obtain rfl:=Except.error.inj h; exact rd_err hy}
  {split at h
   {cases h}
   {obtain rfl:=Except.error.inj h; exact (by decide: (90:Int)≠0)}}
end Pso
namespace Go.Proofs.YtkncdbaoaeeoiaaGreatDoor
open Go.RowKit Tms
open Shp (Sh)
end Go.Proofs.YtkncdbaoaeeoiaaGreatDoor
