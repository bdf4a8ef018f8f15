/- What the proofs of ParsePlaces want, part 29. -/
import Derived.Test.YtkncdbaoaeeoiaaGreatDoorK0n28
set_option linter.unusedVariables false
set_option linter.unusedSimpArgs false
set_option linter.unusedSectionVars false
set_option maxRecDepth 100000
set_option maxHeartbeats 16000000
namespace Go.Proofs.YtkncdbaoaeeoiaaGreatDoor
section
open Go.RowKit Tms
open Shp (Sh)
open Pso (St Ok)
open Prs (sign R Flt)
def TmSaid (r:Except Flt Tm) (w:World) (e:Ending) (w':World):Prop:=
 Below w.heap.size w w'/\match r with
 | .ok y=> ∃x:ET,e= .returned (.tuple #[valT x,.agg #[.int .i64 0,.int .i64 0]])/\x.Is w'/\w.heap.size<=x.lo/\x.t=y
 | .error f=>e= .returned (.tuple #[.agg #[.int .i64 0,.string ⟨#[]⟩,.string ⟨#[]⟩,.int .i64 0,.slice none 0 0,.slice none 0 0,.slice none 0 0,.slice none 0 0,.int .i64 0],.agg #[.int .i64 f.1,.int .i64 f.2]])
def ZeY (fn:Nat) (whole:List Tk->St->Tm×St):Prop:= ∀(A:Option Addr) (c:Nat) (l:List Tk),Scanned l-> ∀(w:World),Tks w w.heap.size A l->Gl w->
 Calls Tryz.prog fn #[.slice A l.length c,.int .i64 0] w (TmOut (Pso.rd l 0 (whole l)) w)
theorem ZeL {F:List Nat} {V E:World} {x:ET} (hx:x.Is V) (hF: ∀b∈F,b < x.lo) (hu:UpT F V E):x.Is E:=New.up hx hu (fun b hb=>Or.inl (hF b hb))
theorem Z7K (s:List UInt8) (hs:s.length<=9223372036854775807) (fn:Nat) (hen: ∀args W,(callFunc fn args).run Tryz.prog W= .ok (.enter fn args) W) (whole:List Tk->St->Tm×St) (hR:ZeY fn whole) (hw: ∀l σ,Pse.Ok l σ->Pse.To l σ (whole l σ).2) (w:World) (hG:Gl w):
 Calls Tryz.prog 11 #[.string ⟨s.toArray⟩,.func (.func fn) #[] #[]] w (TmSaid (Pso.rdText s whole) w):=by
 have HB:=Y1 (show Below w.heap.size w (bE w) from Z03 (Z0W w) _);have HZ:=Y1 (show Zero9 (bE w) w.heap.size from (Z5c w).next (Z01 _ _));have HX:=Y1 (show Box2 (bE w) (w.heap.size+1) 0 0 from (Z6o w).next (Z01 _ _));have HN:=Y1 (ZaH w);have HG:=Y1 (hG.next HB.out);have HS:=Y1 (Z3w s hs (bE w) HG.out.g);have HRD:=Y1 hR;have HWW:=Y1 hw;clear hR hw hG;cases hm:Lex.scanR s with
 | error xk=>
  obtain ⟨xx,k⟩:=xk;rw[Pso.rdText_err hm];have e1: (xx !=0)=true:=by simpa using Lex.Z4X hm
  have HM:=Y1 hm;clear hm;go_enter Tryz.func11,Tryz.ntmps11
  go_wp2_with fail
  change Calls _ _ _ (bE w) _;refine HS.out.mono ?_;generalize bE w=W0 at HB HZ HX HN HG HS ⊢;rintro e W1 hv;obtain ⟨A,cap,rfl,hb⟩:=Z6j hv HM.out;have hbl:=Z01 W1 (.cells #[.int .i64 xx,.int .i64 (k:Int)] 29);have HB1:=Y1 (Z00 (Z00 HB.out hb) hbl);obtain ⟨z1,z2,z3,z4,z5,z6,z7,z8,z9,zf,z0⟩:=(HZ.out.next hb).next hbl;have zf1:=zf 0;have zf2:=zf 1;have zf3:=zf 2;have zf4:=zf 3;have zf5:=zf 4;have zf6:=zf 5;have zf7:=zf 6;have zf8:=zf 7;have zf9:=zf 8;obtain ⟨x0,x1,x2,xf1,xf2⟩:=(HX.out.next hb).next hbl;obtain ⟨n1,n2,n3,n4,n5,n6,n7,n8,n9,nf,n0⟩:=(HN.out.next hb).next hbl;have nf1:=nf 0;have nf2:=nf 1;have nf3:=nf 2;have nf4:=nf 3;have nf5:=nf 4;have nf6:=nf 5;have nf7:=nf 6;have nf8:=nf 7;have nf9:=nf 8;obtain ⟨b0,b1,b2,bf1,bf2⟩:=Z0L W1 xx (k:Int);have hN:=HN.out.lt;have hsz:=hb.size;have g1:w.heap.size≠W1.heap.size:=by omega
  have g2:w.heap.size+1≠W1.heap.size:=by omega
  have g3:w.heap.size+1+1≠W1.heap.size:=by omega
  clear hN hsz;clear hv hb hbl HB HZ HX HN HG HS HM HRD HWW
  go_wp2_with fail
  go_region
  all_goals go_wp2
  all_goals refine bodyPost_ret (v:= .tuple #[.agg #[.int .i64 0,.string ⟨#[]⟩,.string ⟨#[]⟩,.int .i64 0,.slice none 0 0,.slice none 0 0,.slice none 0 0,.slice none 0 0,.int .i64 0],.agg #[.int .i64 xx,.int .i64 (k:Int)]]) (by simp[results,Tryz.results11,go_sem,z0,x0,z1,z2,z3,z4,z5,z6,z7,z8,z9,x1,x2]) rfl ?_
  all_goals refine ⟨Z0U HB1.out ?_,rfl⟩
  all_goals repeat' (with_reducible first | refine UpT.drew ?_ | refine UpT.set ?_ _ (Or.inr ?_) _ | exact UpT.refl _ _)
  all_goals simp
 | ok m=>
  rw[Pso.rdText_ok hm];have HSC:=Y1 (scanned hm);have HM:=Y1 hm;clear hm;obtain ⟨r,hr⟩: ∃r,r=Pso.rd (tkOf m) 0 (whole (tkOf m)):=⟨_,rfl⟩;have HRR:=Y1 hr;rw[<-hr];have HLT:Hid (∀y,r= .ok y->y.2 < (tkOf m).length):=Y1 (fun y hy=>Pso.rd_lt (HWW.out (tkOf m)) HSC.out.ends (by rw[<-hr]; exact hy));have HER:Hid (∀f,r= .error f->f.1≠0):=Y1 (fun f hf=>Pso.rd_err (by rw[<-hr]; exact hf));clear hr;have HL1:=Y1 HSC.out.len;obtain ⟨q,hq⟩: ∃q:Except Flt Tm,q=Pso.close (tkOf m) r:=⟨_,rfl⟩;have HQ:=Y1 hq;rw[<-hq];clear hq;obtain ⟨l,hl⟩: ∃l,l=tkOf m:=⟨_,rfl⟩;rw[<-hl] at HSC HRR HLT HQ HL1;have HLE:=Y1 hl;have hll:=HL1.out;clear hl;go_enter Tryz.func11,Tryz.ntmps11
  go_wp2_with fail
  change Calls _ _ _ (bE w) _;refine HS.out.mono ?_;generalize bE w=W0 at HB HZ HX HN HG HS ⊢;rintro e W1 hv;obtain ⟨A,cap,rfl,htk,hown,hb⟩:=Z4W hv HM.out;rw[<-HLE.out] at htk ⊢;have hbl:=Z01 W1 (.cells Yc 29);have HB2:=Y1 (Z00 (Z00 HB.out hb) hbl);have HZ2:=Y1 ((HZ.out.next hb).next hbl);have HX2:=Y1 ((HX.out.next hb).next hbl);have HN2:=Y1 ((HN.out.next hb).next hbl);have HK2:=Y1 (Z0L W1 0 0);have HT2:=Y1 (htk.on hbl);have HTK:=Y1 htk;have HBL:=Y1 hbl;have HOG:Hid (∀g off,A=some ⟨g,off,none⟩->W0.heap.size<=g):=Y1 (fun g off hA=>(Z21 hown g (by rw[hA]; rfl)).1);have HW0:Hid (w.heap.size+1+1 < W0.heap.size):=Y1 HN.out.lt;have HG2:=Y1 ((HG.out.next hb).next hbl);obtain ⟨b0,b1,b2,bf1,bf2⟩:=HK2.out;have hN:=HN.out.lt;have hsz:=hb.size;have g1:w.heap.size≠W1.heap.size:=by omega
  have g2:w.heap.size+1≠W1.heap.size:=by omega
  have g3:w.heap.size+1+1≠W1.heap.size:=by omega
  have HF:Hid (∀b∈ [w.heap.size,w.heap.size+1,W1.heap.size],w.heap.size<=b):=Y1 (by intro b hb; simp at hb; omega);clear hN hsz hv htk hown hb hbl HB HZ HX HN HG HS HM
  go_wp2_with fail
  generalize W1.alloc (.cells Yc 29)=W2 at HB2 HZ2 HX2 HN2 HK2 HT2 HG2 HBL b0 b1 b2 bf1 bf2 ⊢;refine (HRD.out A cap l HSC.out W2 HT2.out HG2.out).mono ?_;rw[<-HRR.out];rintro e W3 ⟨hb3,ho⟩;clear b0 b1 b2 bf1 bf2;cases r with
  | error f=>
   obtain rfl:=ho;have hf1: (f.1 !=0)=true:=by simpa using HER.out f rfl
   have HQ2:Hid (q= .error f):=Y1 HQ.out;have hbl:=Z01 W3 (.cells Ya 26);have HB3:=Y1 (Z00 (Z00 HB2.out hb3) hbl);obtain ⟨z1,z2,z3,z4,z5,z6,z7,z8,z9,zf,z0⟩:=(HZ2.out.next hb3).next hbl;have zf1:=zf 0;have zf2:=zf 1;have zf3:=zf 2;have zf4:=zf 3;have zf5:=zf 4;have zf6:=zf 5;have zf7:=zf 6;have zf8:=zf 7;have zf9:=zf 8;obtain ⟨x0,x1,x2,xf1,xf2⟩:=(HX2.out.next hb3).next hbl;obtain ⟨n1,n2,n3,n4,n5,n6,n7,n8,n9,nf,n0⟩:=(HN2.out.next hb3).next hbl;have nf1:=nf 0;have nf2:=nf 1;have nf3:=nf 2;have nf4:=nf 3;have nf5:=nf 4;have nf6:=nf 5;have nf7:=nf 6;have nf8:=nf 7;have nf9:=nf 8;obtain ⟨b0,b1,b2,bf1,bf2⟩:=(HK2.out.next hb3).next hbl;have hN:=HN2.out.lt;have hsz:=hb3.size;have hK:=HK2.out.1;have g4:w.heap.size≠W3.heap.size:=by omega
   have g5:w.heap.size+1≠W3.heap.size:=by omega
   have g6:w.heap.size+1+1≠W3.heap.size:=by omega
   have g7:W1.heap.size≠W3.heap.size:=by omega
   clear hN hsz hK;clear hb3 hbl HRD HWW HSC HRR HLT HER HQ HB2 HZ2 HX2 HN2 HK2 HT2 HG2
   go_wp2_with fail
   go_region
   all_goals go_wp2
   all_goals refine bodyPost_ret (v:= .tuple #[.agg #[.int .i64 0,.string ⟨#[]⟩,.string ⟨#[]⟩,.int .i64 0,.slice none 0 0,.slice none 0 0,.slice none 0 0,.slice none 0 0,.int .i64 0],.agg #[.int .i64 f.1,.int .i64 f.2]]) (by simp[results,Tryz.results11,go_sem,valT,z0,x0,z1,z2,z3,z4,z5,z6,z7,z8,z9,x1,x2,g1,g2,g3]) rfl ?_
   all_goals rw[HQ2.out]
   all_goals refine ⟨Z2o (F:= [w.heap.size,w.heap.size+1,W1.heap.size]) HB3.out HF.out ?_,rfl⟩
   all_goals repeat' (with_reducible first | refine UpT.drew ?_ | refine UpT.set ?_ _ (Or.inr ?_) _ | exact UpT.refl _ _)
   all_goals simp
  | ok y=>
   obtain ⟨x,rfl,hi,hlo,ht⟩:=ho;obtain ⟨ys,j⟩:=y;have hj:j < l.length:=HLT.out _ rfl;simp only[valT];dsimp only at ht ⊢;have hbl:=Z01 W3 (.cells (Y7 x.t x.q) 26);have HB3:=Y1 (Z00 (Z00 HB2.out hb3) hbl);obtain ⟨z1,z2,z3,z4,z5,z6,z7,z8,z9,zf,z0⟩:=(HZ2.out.next hb3).next hbl;have zf1:=zf 0;have zf2:=zf 1;have zf3:=zf 2;have zf4:=zf 3;have zf5:=zf 4;have zf6:=zf 5;have zf7:=zf 6;have zf8:=zf 7;have zf9:=zf 8;obtain ⟨x0,x1,x2,xf1,xf2⟩:=(HX2.out.next hb3).next hbl;obtain ⟨n1,n2,n3,n4,n5,n6,n7,n8,n9,nf,n0⟩:=(HN2.out.next hb3).next hbl;have nf1:=nf 0;have nf2:=nf 1;have nf3:=nf 2;have nf4:=nf 3;have nf5:=nf 4;have nf6:=nf 5;have nf7:=nf 6;have nf8:=nf 7;have nf9:=nf 8;obtain ⟨b0,b1,b2,bf1,bf2⟩:=(HK2.out.next hb3).next hbl;have hN:=HN2.out.lt;have hsz:=hb3.size;have hK:=HK2.out.1;have g4:w.heap.size≠W3.heap.size:=by omega
   have g5:w.heap.size+1≠W3.heap.size:=by omega
   have g6:w.heap.size+1+1≠W3.heap.size:=by omega
   have g7:W1.heap.size≠W3.heap.size:=by omega
   clear hN hsz hK;have HI:=Y1 (show x.Is _ from New.below hi hbl);have HLO:Hid (∀b∈ [w.heap.size,w.heap.size+1,W1.heap.size],b < x.lo):=Y1 (by have h1:=HK2.out.1; have h2:=HN2.out.lt; intro b hb; simp at hb; omega);have HWL:Hid (w.heap.size<=x.lo):=Y1 (by have h2:=HN2.out.lt; omega);have HT:=Y1 ht;have HT3:=Y1 (HTK.out.same (fun b hb=>(Z05 (F:= []) (Z00 (Z00 HBL.out hb3) hbl)).same hb (by simp)));clear hb3 hbl hi hlo ht HRD HWW HSC HRR HLT HER HB2 HZ2 HX2 HN2 HK2 HT2 HG2;by_cases hje:j+1=l.length
   {have HQ2:Hid (q= .ok ys):=Y1 (by rw[HQ.out]; exact if_pos hje);have e5: ((j:Int) !=(l.length:Int) - 1)=false:=by simp; omega
    go_wp2_with fail
    all_goals refine bodyPost_ret (v:= .tuple #[valT x,.agg #[.int .i64 0,.int .i64 0]]) (by simp[results,Tryz.results11,go_sem,valT,z0,x0,z1,z2,z3,z4,z5,z6,z7,z8,z9,x1,x2,g1,g2,g3]) rfl ?_
    all_goals rw[HQ2.out]
    all_goals refine ⟨Z2o (F:= [w.heap.size,w.heap.size+1,W1.heap.size]) HB3.out HF.out ?_,x,rfl,ZeL HI.out HLO.out ?_,HWL.out,HT.out⟩
    all_goals repeat' (with_reducible first | refine UpT.drew ?_ | refine UpT.set ?_ _ (Or.inr ?_) _ | exact UpT.refl _ _)
    all_goals simp}
   {have HQ2:Hid (q= .error (90,(Prs.look l j).at_)):=Y1 (by rw[HQ.out]; exact if_neg hje);have e5: ((j:Int) !=(l.length:Int) - 1)=true:=by simp; omega
    rcases HT3.out with h0 | ⟨g,off,hA,hlt,hc⟩
    {omega}
    {have k1:g≠W1.heap.size:=by omega
     have k0:=HOG.out g off hA;have k2:g≠w.heap.size:=by have:=HW0.out; omega
     have k3:g≠w.heap.size+1:=by have:=HW0.out; omega
     obtain ⟨_,_,t2⟩:=hc j hj;rw[hA];have hla: (Prs.look l j).at_=(l[j]'hj).at_:=by rw[Prs.look_in hj]
     rw[hla] at HQ2;clear hc HT3 HTK HBL HOG HW0 k0 hlt hA HI HLO HWL HT HQ hla
     go_wp2_with fail
     go_region
     all_goals go_wp2
     all_goals refine bodyPost_ret (v:= .tuple #[.agg #[.int .i64 0,.string ⟨#[]⟩,.string ⟨#[]⟩,.int .i64 0,.slice none 0 0,.slice none 0 0,.slice none 0 0,.slice none 0 0,.int .i64 0],.agg #[.int .i64 90,.int .i64 (l[j]'hj).at_]]) (by simp[results,Tryz.results11,go_sem,valT,z0,x0,z1,z2,z3,z4,z5,z6,z7,z8,z9,x1,x2,g1,g2,g3]) rfl ?_
     all_goals rw[HQ2.out]
     all_goals refine ⟨Z2o (F:= [w.heap.size,w.heap.size+1,W1.heap.size]) HB3.out HF.out ?_,rfl⟩
     all_goals repeat' (with_reducible first | refine UpT.drew ?_ | refine UpT.set ?_ _ (Or.inr ?_) _ | exact UpT.refl _ _)
     all_goals simp}}
end
section
open Go.RowKit Tms
open Shp (Sh)
open Pso (St Ok)
open Prs (R)
open Go.Proofs.YtkncdbaoaeeoiaaGreatDoor (Tk)
theorem ZbZ {l:List Tk}: ∀σ,Pse.Ok l σ->Pse.To l σ (Pso.wholeE l σ).2:=fun σ h=>by
 have h1:=Pse.to_expr (l.length+1) σ h;unfold Pso.wholeE;simp only;split
 {exact h1}
 {next hc=>exact h1.trans (Pse.to_fail h1.1 hc _)}
theorem ZdC:ZeY 12 Pso.wholeE:=fun A c l hl w ht hg=>ZbY A c l 0 (fun b hb=>by have:=hl.tok b hb; omega) (by omega) (by have:=hl.len; omega) w ht hg
theorem Z2q (s:List UInt8) (hs:s.length<=9223372036854775807) (w:World) (hG:Gl w):
 Calls Tryz.prog 5 #[.string ⟨s.toArray⟩] w (TmSaid (Pso.rdText s Pso.wholeE) w):=by
 have HB:=Y1 (Z0W w);have HZ:=Y1 (Z5c w);have HX:=Y1 (Z6o w);have HC:=Y1 (Z7K s hs 12 (fun _ _=>rfl) Pso.wholeE ZdC (fun l=>ZbZ (l:=l)) (aE w) (hG.next (Z0W w)));obtain ⟨r,hr⟩: ∃r,r=Pso.rdText s Pso.wholeE:=⟨_,rfl⟩;rw[<-hr] at HC ⊢;clear hG hr;go_enter Tryz.func5,Tryz.ntmps5
 go_wp2_with fail
 change Calls _ _ _ (aE w) _;refine HC.out.mono ?_;generalize aE w=W0 at HB HZ HX ⊢;rintro e W1 ⟨hb,hm⟩;have HB1:=Y1 (Z00 HB.out hb);have hz:=HZ.out.lt;have hx0:=HX.out.1;obtain ⟨z1,z2,z3,z4,z5,z6,z7,z8,z9,zf,z0⟩:=HZ.out.next hb;have zf1:=zf 0;have zf2:=zf 1;have zf3:=zf 2;have zf4:=zf 3;have zf5:=zf 4;have zf6:=zf 5;have zf7:=zf 6;have zf8:=zf 7;have zf9:=zf 8;obtain ⟨x0,x1,x2,xf1,xf2⟩:=HX.out.next hb;cases r with
 | ok y=>
  obtain ⟨x,rfl,hi,hlo,ht⟩:=hm;have HI:=Y1 hi;have HLO:Hid (w.heap.size+1+1<=x.lo):=Y1 (by omega);have HT:=Y1 ht;clear hi hlo ht hb HB HZ HX HC;simp only[valT]
  go_wp2_with fail
  all_goals refine bodyPost_ret (v:= .tuple #[valT x,.agg #[.int .i64 0,.int .i64 0]]) (by simp[results,Tryz.results5,go_sem,valT,z0,x0,z1,z2,z3,z4,z5,z6,z7,z8,z9,x1,x2]) rfl ?_
  all_goals refine ⟨Z0U HB1.out ?_,x,rfl,Z6N HI.out HLO.out ?_,by have:=HLO.out; omega,HT.out⟩
  all_goals repeat' (with_reducible first | refine UpT.drew ?_ | refine UpT.set ?_ _ (Or.inr ?_) _ | exact UpT.refl _ _)
  all_goals simp
 | error f=>
  obtain rfl:=hm;clear hb HB HZ HX HC
  go_wp2_with fail
  all_goals refine bodyPost_ret (v:= .tuple #[.agg #[.int .i64 0,.string ⟨#[]⟩,.string ⟨#[]⟩,.int .i64 0,.slice none 0 0,.slice none 0 0,.slice none 0 0,.slice none 0 0,.int .i64 0],.agg #[.int .i64 f.1,.int .i64 f.2]]) (by simp[results,Tryz.results5,go_sem,z0,x0,z1,z2,z3,z4,z5,z6,z7,z8,z9,x1,x2]) rfl ?_
  all_goals refine ⟨Z0U HB1.out ?_,rfl⟩
  all_goals repeat' (with_reducible first | refine UpT.drew ?_ | refine UpT.set ?_ _ (Or.inr ?_) _ | exact UpT.refl _ _)
  all_goals simp
end
section
open Go.RowKit Tms
open Shp (Sh)
def aw1:List UInt8:= [40,73,110,116,44,32,91,75,101,121,93,41,32,45,62,32,123,97,58,32,113,47,73,100,125]
def aw2:List UInt8:= [123,97,58,32,73,110,116,44,32,97,58,32,73,110,116,125]
def aw3:List UInt8:= [102,46,97,40,49,41]
def aw4:List UInt8:= [91,73,110,116]
theorem Zg9:Pso.rdText aw1 Pso.wholeT= .ok ⟨8,[],[],[],[⟨1,[],[],[],[]⟩,⟨5,[],[],[],[⟨9,[],[75,101,121],[],[]⟩]⟩,⟨6,[],[],[[97]],[⟨9,[113],[73,100],[],[]⟩]⟩]⟩:=by kernel_rfl
theorem Zga:Pso.rdText aw2 Pso.wholeT= .error (111,9):=by kernel_rfl
theorem Zgb:Pso.rdText aw3 Pso.wholeE= .ok ⟨7,[],[],0,[],[],[],[⟨9,[],[97],0,[],[],[],[⟨5,[],[102],0,[],[],[],[],0⟩],0⟩,⟨1,[],[],1,[],[],[],[],4⟩],0⟩:=by kernel_rfl
theorem Zgc:Pso.rdText aw4 Pso.wholeE= .error (90,1):=by kernel_rfl
section
variable (w : World) (h : Gl w)
include w h
theorem ZeM:Calls Tryz.prog 13 #[.string ⟨aw1.toArray⟩] w fun e w'=>Below w.heap.size w w'/\ ∃x:ES,e= .returned (.tuple #[valS x,.agg #[.int .i64 0,.int .i64 0]])/\x.t.kind=8/\x.t.parts.length=3:=by
 have h1:=Z3M aw1 (by decide) w h;rw[Zg9] at h1;refine h1.mono ?_;rintro e w' ⟨hb,x,rfl,_,_,ht⟩;exact ⟨hb,x,rfl,by rw[ht],by rw[ht]; rfl⟩
theorem ZeN:Calls Tryz.prog 13 #[.string ⟨aw2.toArray⟩] w fun e w'=>Below w.heap.size w w'/\e= .returned (.tuple #[.agg #[.int .i64 0,.string ⟨#[]⟩,.string ⟨#[]⟩,.slice none 0 0,.slice none 0 0],.agg #[.int .i64 111,.int .i64 9]]):=by
 have h1:=Z3M aw2 (by decide) w h;rw[Zga] at h1;exact h1
theorem ZeO:Calls Tryz.prog 5 #[.string ⟨aw3.toArray⟩] w fun e w'=>Below w.heap.size w w'/\ ∃x:ET,e= .returned (.tuple #[valT x,.agg #[.int .i64 0,.int .i64 0]])/\x.t.kind=7/\x.t.parts.length=2/\ ∃g off,x.q.P=some ⟨g,off,none⟩/\g < w'.heap.size/\w'.cell? ⟨g,off+9+8,none⟩=some (.int .i64 4):=by
 have h1:=Z2q aw3 (by decide) w h;rw[Zgb] at h1;refine h1.mono ?_;rintro e w' ⟨hb,x,rfl,hi,_,ht⟩;have hl:x.t.parts.length=2:=by rw[ht]; rfl
 refine ⟨hb,x,rfl,by rw[ht],hl, ?_⟩;rcases hi.here.part with h0 | ⟨g,off,qs,h1,h2,h3,_⟩
 {omega}
 {have h4:=(h3 1 (by omega)).2.2.2.2.2.2.2.2;have h5: (x.t.parts[1]'(by omega)).at_=4:=by
   have: ∀(t:Tm) (h:1 < t.parts.length),t=(⟨7,[],[],0,[],[],[],[⟨9,[],[97],0,[],[],[],[⟨5,[],[102],0,[],[],[],[],0⟩],0⟩,⟨1,[],[],1,[],[],[],[],4⟩],0⟩:Tm)->(t.parts[1]'h).at_=4:=by
    intro t h e; subst e; rfl
   exact this x.t (by omega) ht
  rw[h5] at h4;exact ⟨g,off,h1,h2,by rw[show off+9+8=off+1 * 9+8 from by omega]; exact h4⟩}
theorem ZeP:Calls Tryz.prog 5 #[.string ⟨aw4.toArray⟩] w fun e w'=>Below w.heap.size w w'/\e= .returned (.tuple #[.agg #[.int .i64 0,.string ⟨#[]⟩,.string ⟨#[]⟩,.int .i64 0,.slice none 0 0,.slice none 0 0,.slice none 0 0,.slice none 0 0,.int .i64 0],.agg #[.int .i64 90,.int .i64 1]]):=by
 have h1:=Z2q aw4 (by decide) w h;rw[Zgc] at h1;exact h1
end
theorem box2 (W:World) (c1 c2:Array Value) (t1 t2:TypeId):Below W.heap.size W ((W.alloc (.cells c1 t1)).alloc (.cells c2 t2))/\(∀k v,c1[k]? =some v->((W.alloc (.cells c1 t1)).alloc (.cells c2 t2)).cell? ⟨W.heap.size,k,none⟩=some v)/\(∀k v,c2[k]? =some v->((W.alloc (.cells c1 t1)).alloc (.cells c2 t2)).cell? ⟨W.heap.size+1,k,none⟩=some v)/\((W.alloc (.cells c1 t1)).alloc (.cells c2 t2)).heap.size=W.heap.size+2:=by
 refine ⟨Z03 (Z01 _ _) _,fun k v h=> ?_,fun k v h=> ?_,by simp⟩
 {simp[go_sem,h]}
 {simp[go_sem,h]}
theorem Below.cells {A:Nat} {W W':World} (h:Below A W W') {b:Nat} (hb:b < A) (k:Nat):W'.cell? ⟨b,k,none⟩=W.cell? ⟨b,k,none⟩:=h.cell (p:=⟨b,k,none⟩) hb
theorem Z5y (w:World) (hG:Gl w):
 Y9 6 #[] w (.bool true):=by
 have HG:=Y1 hG;clear hG;go_enter Tryz.func6,Tryz.ntmps6
 go_wp2_with fail
 refine (ZeM w HG.out).mono ?_;rintro e w1 ⟨hb1,x1,rfl,hk1,hp1⟩;simp only[valS,Y8];rw[hk1,hp1];have HB1:=Y1 hb1;clear hb1 hk1 hp1
 go_wp2_with fail
 have hx:=box2 w1 #[.int .i64 (8:Nat),.string ⟨x1.t.of_.toArray⟩,.string ⟨x1.t.name.toArray⟩,.slice x1.q.A x1.t.names.length x1.q.c,.slice x1.q.P 3 x1.q.d] #[.int .i64 0,.int .i64 0] 43 29;simp only[show ((8:Nat):Int)=(8:Int) from rfl] at hx;have e1:=hx.2.1 0 _ rfl;have e2:=hx.2.1 4 _ rfl;have e3:=hx.2.2.1 0 _ rfl;obtain ⟨hbx, -, -,hz⟩:=hx;generalize (w1.alloc _).alloc _=W1 at hbx e1 e2 e3 hz ⊢;have hb1:Below w.heap.size w W1:=Z00 HB1.out hbx;have HC:=Y1 (And.intro hz (And.intro hb1 (And.intro e1 (And.intro e2 e3))));clear hz hb1 e1 e2 e3 hbx;have hs1:=HC.out.1;refine (ZeN W1 (HG.out.next HC.out.2.1)).mono ?_;rintro e w2 ⟨hb2,rfl⟩;have HB2:=Y1 hb2;clear hb2
 go_wp2_with fail
 have hx:=box2 w2 #[.int .i64 0,.string ⟨#[]⟩,.string ⟨#[]⟩,.slice none 0 0,.slice none 0 0] #[.int .i64 111,.int .i64 9] 43 29;have e4:=hx.2.2.1 0 _ rfl;have e5:=hx.2.2.1 1 _ rfl;obtain ⟨hbx, -, -,hz⟩:=hx;generalize (w2.alloc _).alloc _=W2 at hbx e4 e5 hz ⊢;have hb2:Below W1.heap.size W1 W2:=Z00 HB2.out hbx;have hs2:W1.heap.size<=w2.heap.size:=HB2.out.size;have HD:=Y1 (And.intro hz (And.intro hb2 (And.intro e4 e5)));clear hz hb2 e4 e5 hbx;refine (ZeO W2 (HG.out.next (Z00 HC.out.2.1 HD.out.2.1))).mono ?_;rintro e w3 ⟨hb3,x3,rfl,hk3,hp3,g,off,hg1,hg2,hg3⟩;simp only[valT,Y7];rw[hk3,hp3,hg1];have HB3:=Y1 hb3;have HE:=Y1 (And.intro hg2 hg3);clear hb3 hk3 hp3 hg1 hg2 hg3
 go_wp2_with fail
 have hx:=box2 w3 #[.int .i64 (7:Nat),.string ⟨x3.t.of_.toArray⟩,.string ⟨x3.t.name.toArray⟩,.int .i64 x3.t.n,.slice x3.q.A x3.t.names.length x3.q.c,.slice x3.q.V x3.t.vars.length x3.q.e,.slice x3.q.S x3.t.shapes.length x3.q.s,.slice (some ⟨g,off,none⟩) 2 x3.q.d,.int .i64 x3.t.at_] #[.int .i64 0,.int .i64 0] 26 29;simp only[show ((7:Nat):Int)=(7:Int) from rfl] at hx;have e6:=hx.2.1 0 _ rfl;have e7:=hx.2.1 7 _ rfl;have e8:=hx.2.2.1 0 _ rfl;obtain ⟨hbx, -, -,hz⟩:=hx;generalize (w3.alloc _).alloc _=W3 at hbx e6 e7 e8 hz ⊢;have hb3:Below W2.heap.size W2 W3:=Z00 HB3.out hbx;have e9:W3.cell? ⟨g,off+9+8,none⟩=some (.int .i64 4):=(Below.cells hbx HE.out.1 _).trans HE.out.2;have hg3:g < W3.heap.size:=by have:=HE.out.1; omega
 have hs3:W2.heap.size<=w3.heap.size:=HB3.out.size;have HF:=Y1 (And.intro hz (And.intro hb3 (And.intro e6 (And.intro e7 (And.intro e8 (And.intro e9 hg3))))));clear hz hb3 e6 e7 e8 e9 hbx hg3;have HbW:Hid (Below w.heap.size w W3):=Y1 (Z00 (Z00 HC.out.2.1 HD.out.2.1) HF.out.2.1);refine (ZeP W3 (HG.out.next HbW.out)).mono ?_;rintro e w4 ⟨hb4,rfl⟩;have HB4:=Y1 hb4;clear hb4;have hx:=box2 w4 #[.int .i64 0,.string ⟨#[]⟩,.string ⟨#[]⟩,.int .i64 0,.slice none 0 0,.slice none 0 0,.slice none 0 0,.slice none 0 0,.int .i64 0] #[.int .i64 90,.int .i64 1] 26 29;have hbx:=hx.1;have f9:=hx.2.2.1 0 _ rfl;clear hx;have hb4:=Z00 HB4.out hbx;obtain ⟨hz1, -,e1,e2,e3⟩:=HC.out;obtain ⟨hz2,hD,e4,e5⟩:=HD.out;obtain ⟨hz3,hF,e6,e7,e8,e9,hg3⟩:=HF.out;have hs4:W3.heap.size<=w4.heap.size:=HB4.out.size;have hT:=Z00 hF hb4;have hU:=Z00 hD hT;have f1:=(Below.cells hU (b:=w1.heap.size) (by omega) _).trans e1;have f2:=(Below.cells hU (b:=w1.heap.size) (by omega) _).trans e2;have f3:=(Below.cells hU (b:=w1.heap.size+1) (by omega) _).trans e3;have f4:=(Below.cells hT (b:=w2.heap.size+1) (by omega) _).trans e4;have f5:=(Below.cells hT (b:=w2.heap.size+1) (by omega) _).trans e5;have f6:=(Below.cells hb4 (b:=w3.heap.size) (by omega) _).trans e6;have f7:=(Below.cells hb4 (b:=w3.heap.size) (by omega) _).trans e7;have f8:=(Below.cells hb4 (b:=w3.heap.size+1) (by omega) _).trans e8;have g9:=(Below.cells hb4 (b:=g) hg3 _).trans e9;have HbE:=Y1 (Z00 HbW.out hb4);clear e1 e2 e3 e4 e5 e6 e7 e8 e9 hT hU hF hD hb4 hbx hz1 hz2 hz3 hs1 hs2 hs3 hs4 hg3 HB1 HB2 HB3 HB4 HC HD HE HF HG HbW
 go_wp2_with fail
 go_ret;exact ⟨rfl,HbE.out⟩
end
end Go.Proofs.YtkncdbaoaeeoiaaGreatDoor
namespace Go.Proofs.YtkncdbaoaeeoiaaGreatDoor
open Go.RowKit
section
variable {P : Program} {ops : Array Oper} {Q : Exit -> Act -> World -> Prop}
def KeepI (T:Nat->Want) (J:World->Prop) (k:Nat) (v0:Value) (d:Nat->Bool) (u:Nat->Value) (W:World):Prop:=
 J W/\(∀j,d j=true->(T j).ok (u j) W)/\(d k=false->u k=v0)
theorem Z5z {d:Nat->Bool} {i j:Nat} (h:j≠i):also d i j=d j:=by
 unfold also;have:Nat.beq j i=false:=by cases hb:Nat.beq j i <;> first | rfl | exact absurd (Nat.eq_of_beq_eq_true hb) h
 rw[this]; rfl
theorem Zc0 {d:Nat->Bool} {i:Nat}:also d i i=true:=by
 unfold also;simp
theorem StepsInv.cons3 {A: (Nat->Value)->Act} {T:Nat->Want} {J:World->Prop} {k:Nat} {v0:Value} {i:Nat} {rs:List Nat} (o:Oper) (ho:ops[i]? =some o)
 (h: ∀(d:Nat->Bool) (u:Nat->Value) (W:World) (K':Act->World->Prop),Shutd ops d->J W->(d k=false->u k=v0)->d i=false->(∀j,waits o j=true->(T j).ok (u j) W)->
  Shut (∀v w',(T i).ok v w'->J w'->Below W.heap.size W w'->K' (A (upd u i v)) w')->
  if Region.wanted o (yielded ops (A u).tmps)=true then Oper.wp P o (A u) W K' Q else K' ((A u).put o.dst undef) W)
 (hs:StepsInv P ops Q A (fun d u W=>Shutd ops d/\KeepI T J k v0 d u W) rs):StepsInv P ops Q A (fun d u W=>Shutd ops d/\KeepI T J k v0 d u W) (i::rs):=by
 refine StepsInv.cons2 (I:=KeepI T J k v0) o ho (fun d u W K' hsh hI hd hw hK=>h d u W K' hsh hI.1 hI.2.2 hd (fun j hj=>hI.2.1 j (hw j hj)) (fun v w' h1 h2 h3=>hK.out v w' ⟨h2,fun j hj=> ?_,fun hk=> ?_⟩)) hs
 {by_cases e:j=i
  {subst e; rw[Z09]; exact h1}
  {rw[Z06 u v e]; rw[Z5z e] at hj; exact Want.mono h3 (hI.2.1 j hj)}}
 {by_cases e:k=i
  {subst e; rw[Zc0] at hk; cases hk}
  {rw[Z06 u v e]; rw[Z5z e] at hk; exact hI.2.2 hk}}
end
end Go.Proofs.YtkncdbaoaeeoiaaGreatDoor
namespace Pso
section
open Prs (look sign no Flt upper tm num)
open Go.Proofs.YtkncdbaoaeeoiaaGreatDoor (Tk)
open Shp (Sh)
open Tms (Tm)
theorem back {l:List Tk} {σ τ:St} (h:To l σ τ) (h0:τ.2.1=0):σ.2.1=0:=by
 by_cases hf:σ.2.1=0
 {exact hf}
 {have:=h.2.2 hf; rw[this] at h0; exact h0}
theorem Z3Q {l:List Tk} {σ:St} {e a:Int} (he:e≠0): (fail l σ e a).2.1≠0:=by
 unfold fail;by_cases hf:σ.2.1=0
 {rw[if_pos hf]; exact he}
 {rw[if_neg hf]; exact hf}
theorem ZaI {l:List Tk} {σ:St} {k:Int} {ok:List UInt8->Bool} (h0: (textOf l σ k ok).2.2.1=0): (look l σ.1).t.kind=k/\textOf l σ k ok=((look l σ.1).t.text,(σ.1+1,σ.2)):=by
 unfold textOf at h0 ⊢;by_cases hs: (decide ((look l σ.1).t.kind=k)&&ok (look l σ.1).t.text)=true
 {rw[if_pos hs];simp only[Bool.and_eq_true,decide_eq_true_eq] at hs;exact ⟨hs.1,rfl⟩}
 {rw[if_neg hs] at h0; exact absurd h0 (Z3Q (by decide))}
inductive Stand (l:List Tk):Nat->Tm->Prop
 | mk (i j:Nat) (t:Tm):i<=j->(look l j).t.kind≠0->(look l j).at_=t.at_->(∀p∈t.parts,Stand l j p)->Stand l i t
theorem Stand.less {l:List Tk} {i k:Nat} {t:Tm} (h:Stand l i t) (hk:k<=i):Stand l k t:=by
 obtain ⟨_,j,_,h1,h2,h3,h4⟩:=h;exact .mk k j t (Nat.le_trans hk h1) h2 h3 h4
section
variable {l : List Tk} {ex : St -> Tm × St}
structure Beg (l:List Tk) (i:Nat) (a:Int) (σ:St):Prop where
 k: (look l i).t.kind≠0
 a: (look l i).at_=a
 le:i<=σ.1
theorem Beg.on {i:Nat} {a:Int} {σ τ:St} (h:Beg l i a σ) (ht:To l σ τ):Beg l i a τ:=⟨h.k,h.a,Nat.le_trans h.le ht.2.1⟩
def Ex (l:List Tk) (ex:St->Tm×St):Prop:= ∀σ,Ok l σ->(ex σ).2.2.1=0->Stand l σ.1 (ex σ).1
theorem Beg.one {i:Nat} {a:Int} {σ:St} (h:Beg l i a σ) {t:Tm} (ha:t.at_=a) (hp: ∀p∈t.parts,Stand l i p):Stand l i t:=
 .mk i i t (Nat.le_refl _) h.k (h.a.trans ha.symm) hp
theorem Z8W {α:Type} {s:List UInt8} {f:St->α->St×α} (hG:Goes l f) (I:α->Prop) (k:Nat) (hI: ∀σ a,Ok l σ->k<=σ.1->(f σ a).1.2.1=0->I a->I (f σ a).2): ∀n σ a,Ok l σ->k<=σ.1->(loop l s f n σ a).1.2.1=0->I a->I (loop l s f n σ a).2
 | 0,σ,a,_,_,_,h=>h
 | n+1,σ,a,hσ,hk,h0,h=>by
  unfold loop at h0 ⊢;split
  {next hs=>
   rw[if_pos hs] at h0;have h1:=to_next hσ (sign_lt hs);have h2:=hG _ a h1.1;have h3:=to_loop (s:=s) hG n _ (f (σ.1+1,σ.2) a).2 h2.1;exact Z8W hG I k hI n _ _ h2.1 (by have:=h1.2.1; have:=h2.2.1; omega) h0 (hI _ a h1.1 (by simp only; omega) (back h3 h0) h)}
  {exact h}
theorem Z4h {α:Type} {o s e:List UInt8} {f:St->α->St×α} (hG:Goes l f) (I:α->Prop) (k:Nat) (hI: ∀σ a,Ok l σ->k<=σ.1->(f σ a).1.2.1=0->I a->I (f σ a).2) {σ:St} {a:α} (hσ:Ok l σ) (hk:k<=σ.1) (h0: (betw l o s e f σ a).1.2.1=0) (h:I a):I (betw l o s e f σ a).2:=by
 unfold betw at h0 ⊢;have h1:=to_want hσ o;have hk1:=h1.2.1;simp only at h0 ⊢;split
 {exact h}
 {next hs=>
  rw[if_neg hs] at h0;have h2:=hG _ a h1.1;have h3:=to_loop (s:=s) hG (l.length+1) _ (f (want l σ o) a).2 h2.1;have h4:=to_want h3.1 e;have e3:=back h4 h0;have hk2:=h2.2.1;exact Z8W hG I k hI _ _ _ h2.1 (by omega) e3 (hI _ a h1.1 (by omega) (back h3 e3) h)}
def PartsI (l:List Tk) (k:Nat) (ps:List Tm):Prop:= ∀p∈ps,Stand l k p
theorem PartsI.one {k j:Nat} {ps:List Tm} (h:PartsI l k ps) {p:Tm} (hp:Stand l j p) (hk:k<=j):PartsI l k (ps++ [p]):=fun x hx=>by
 rcases List.mem_append.1 hx with hx | hx
 {exact h x hx}
 {obtain rfl:x=p:=by simpa using hx
  exact hp.less hk}
theorem Z8X (h:Ex l ex) (k:Nat): ∀σ a,Ok l σ->k<=σ.1->(argsR l ex σ a).1.2.1=0->PartsI l k a->PartsI l k (argsR l ex σ a).2:=
 fun σ a hσ hk h0 hi=>hi.one (h σ hσ h0) hk
section
variable (hT : Ty l ex) (h : Ex l ex)
include hT h
theorem ZfG (k:Nat): ∀σ a,Ok l σ->k<=σ.1->(recR l ex σ a).1.2.1=0->PartsI l k a.2->PartsI l k (recR l ex σ a).2.2:=fun σ a hσ hk h0 hi=>by
 have h1:=to_another hσ a.1;have h2:=to_want h1.1 [61];exact hi.one (h _ h2.1 h0) (by have:=h1.2.1; have:=h2.2.1; omega)
theorem ZfH (k:Nat): ∀σ a,Ok l σ->k<=σ.1->(wayR l ex σ a).1.2.1=0->PartsI l k a.parts->PartsI l k (wayR l ex σ a).2.parts:=fun σ a hσ hk h0 hi=>by
 have h1:=to_another hσ a.names;have h2:=to_want h1.1 [40];have h3:=to_name h2.1;have h4:=to_want h3.1 [58];have h5:=to_wholeT _ h4.1;have h6:=to_want h5.1 [41];have h7:=to_want h6.1 [45,62];exact hi.one (h _ h7.1 h0) (by have:=h1.2.1; have:=h2.2.1; have:=h3.2.1; have:=h4.2.1; have:=h5.2.1; have:=h6.2.1; have:=h7.2.1; omega)
theorem Zgd {i:Nat} {a:Int} {σ:St} (hσ:Ok l σ) (hb:Beg l i a σ) (h0: (funE l ex σ a).2.2.1=0):Stand l i (funE l ex σ a).1:=by
 have h1:=to_betw (o:= [40]) (s:= [44]) (e:= [41]) (goes_binds (l:=l)) ([],[]) hσ;have h2:=to_want h1.1 [45,62];refine hb.one rfl (fun p hp=> ?_);obtain rfl:p=(ex (want l (betw l [40] [44] [41] (bindsR l) σ ([],[])).1 [45,62])).1:=by simpa[funE] using hp
 exact (h _ h2.1 h0).less ((hb.on h1).on h2).le
theorem Zge {i:Nat} {a:Int} {σ:St} (hσ:Ok l σ) (hb:Beg l i a σ) (h0: (letE l ex σ a).2.2.1=0):Stand l i (letE l ex σ a).1:=by
 have h1:=to_name hσ;have h2:=to_want h1.1 [61];have h3:=hT _ h2.1;have h4:=to_want h3.1 [105,110];have h5:=hT _ h4.1;have b2:=(hb.on h1).on h2;have b4:=(b2.on h3).on h4;have e4:=back h5 h0;have e3:=back h4 e4;refine hb.one rfl (fun p hp=> ?_);have hp':p=(ex (want l (name l σ).2 [61])).1\/p=(ex (want l (ex (want l (name l σ).2 [61])).2 [105,110])).1:=by simpa[letE] using hp
 rcases hp' with rfl | rfl
 {exact (h _ h2.1 e3).less b2.le}
 {exact (h _ h4.1 h0).less b4.le}
theorem ZdD {i:Nat} {a:Int} {σ:St} (hσ:Ok l σ) (hb:Beg l i a σ) (h0: (choiceE l ex σ a).2.2.1=0):Stand l i (choiceE l ex σ a).1:=by
 have h1:=hT _ hσ;have h2:=to_want h1.1 [116,104,101,110];have h3:=hT _ h2.1;have h4:=to_want h3.1 [101,108,115,101];have h5:=hT _ h4.1;have h6:=to_want h5.1 [97,115];have h7:=to_wholeT _ h6.1;have b2:=(hb.on h1).on h2;have b4:=(b2.on h3).on h4;have e5:=back h6 (back h7 h0);have e3:=back h4 (back h5 e5);have e1:=back h2 (back h3 e3);refine hb.one rfl (fun p hp=> ?_);have hp':p=(ex σ).1\/p=(ex (want l (ex σ).2 [116,104,101,110])).1\/p=(ex (want l (ex (want l (ex σ).2 [116,104,101,110])).2 [101,108,115,101])).1:=by simpa[choiceE] using hp
 rcases hp' with rfl | rfl | rfl
 {exact (h _ hσ e1).less hb.le}
 {exact (h _ h2.1 e3).less b2.le}
 {exact (h _ h4.1 e5).less b4.le}
theorem ZeQ {i:Nat} {a:Int} {σ:St} (hσ:Ok l σ) (hb:Beg l i a σ) (h0: (matchE l ex σ a).2.2.1=0):Stand l i (matchE l ex σ a).1:=by
 have h1:=hT _ hσ;have h2:=to_want h1.1 [111,102];have h3:=to_betw (o:= [123]) (s:= [124]) (e:= [125]) (goes_way hT) ⟨[],[],[],[(ex σ).1]⟩ h2.1;have h4:=to_want h3.1 [97,115];have h5:=to_wholeT _ h4.1;have e3:=back h4 (back h5 h0);have e1:=back h2 (back h3 e3);have b2:=(hb.on h1).on h2;refine hb.one rfl ?_;exact Z4h (goes_way hT) (fun w:Ways=>PartsI l i w.parts) i (ZfH hT h i) h2.1 b2.le e3 (fun p hp=>by
  obtain rfl:p=(ex σ).1:=by simpa using hp
  exact (h _ hσ e1).less hb.le)
theorem ZfI {i:Nat} {a:Int} {σ:St} (hσ:Ok l σ) (hb:Beg l i a σ) (h0: (listE l ex σ a).2.2.1=0):Stand l i (listE l ex σ a).1:=by
 have h1:=to_betw (o:= [91]) (s:= [44]) (e:= [93]) (goes_args hT) [] hσ;have h2:=to_want h1.1 [111,102];have h3:=to_wholeT _ h2.1;have e1:=back h2 (back h3 h0);refine hb.one rfl ?_;exact Z4h (goes_args hT) (PartsI l i) i (Z8X h i) hσ hb.le e1 (fun p hp=>by simp at hp)
theorem ZdE {i:Nat} {a:Int} {σ:St} (hσ:Ok l σ) (hb:Beg l i a σ) (h0: (recordE l ex σ a).2.2.1=0):Stand l i (recordE l ex σ a).1:=by
 refine hb.one rfl ?_;exact Z4h (goes_rec hT) (fun w:List (List UInt8)×List Tm=>PartsI l i w.2) i (ZfG hT h i) hσ hb.le h0 (fun p hp=>by simp at hp)
theorem Zc1 {i:Nat} {a:Int} {σ:St} (k:Int) (nm:List UInt8) (hσ:Ok l σ) (hb:Beg l i a σ) (h0: (ofE l ex k nm σ a).2.2.1=0):Stand l i (ofE l ex k nm σ a).1:=by
 have h1:=to_want hσ [40];have h2:=hT _ h1.1;have h3:=to_want h2.1 [41];refine hb.one rfl (fun p hp=> ?_);obtain rfl:p=(ex (want l σ [40])).1:=by simpa[ofE] using hp
 exact (h _ h1.1 (back h3 h0)).less (hb.on h1).le
theorem Zae {i:Nat} {a:Int} {σ:St} (hσ:Ok l σ) (hb:Beg l i a σ) (h0: (enclosedE l ex σ a).2.2.1=0):Stand l i (enclosedE l ex σ a).1:=by
 have h1:=hT _ hσ;unfold enclosedE at h0 ⊢;simp only at h0 ⊢;split
 {next hx=>
  rw[if_pos hx] at h0;have h2:=to_next h1.1 (sign_lt hx);have h3:=to_wholeT _ h2.1;have h4:=to_want h3.1 [41];have e1:=back h2 (back h3 (back h4 h0));refine hb.one rfl (fun p hp=> ?_);obtain rfl:p=(ex σ).1:=by simpa using hp
  exact (h _ hσ e1).less hb.le}
 {next hx=>
  rw[if_neg hx] at h0;exact (h _ hσ (back (to_want h1.1 [41]) h0)).less hb.le}
end
theorem ZeR {i:Nat} {a:Int} {σ:St} (hb:Beg l i a σ):Stand l i (valueE l σ a).1:=by
 unfold valueE;simp only;split
 {exact hb.one rfl (fun p hp=>by simp[tm] at hp)}
 {exact hb.one rfl (fun p hp=>by simp[tm] at hp)}
theorem Zc2 {σ:St} {a:Int} (hσ:Ok l σ) (h0: (valueE l σ a).2.2.1=0): (look l σ.1).t.kind=1:=by
 have h1:=to_name hσ;unfold valueE at h0;simp only at h0;split at h0
 {next hx=>
  have h2:=to_next h1.1 (sign_lt hx);exact (ZaI (back h2 (back (to_name h2.1) h0))).1}
 {exact (ZaI h0).1}
theorem Z0n {i:Nat} {s:List UInt8} (h:sign l i s=true): (look l i).t.kind≠0:=Pse.sign_lt h
theorem ZfJ (hT:Ty l ex) (h:Ex l ex) {σ:St} (hσ:Ok l σ) (h0: (atomE l ex σ (look l σ.1).at_).2.2.1=0): (look l σ.1).t.kind≠0/\Stand l σ.1 (atomE l ex σ (look l σ.1).at_).1:=by
 have leaf: ∀(t:Tm),(look l σ.1).t.kind≠0->t.at_=(look l σ.1).at_->t.parts= []->(look l σ.1).t.kind≠0/\Stand l σ.1 t:=fun t hk ha hp=>⟨hk,.mk _ _ _ (Nat.le_refl _) hk ha.symm (by rw[hp]; simp)⟩;have bg: (look l σ.1).t.kind≠0->Beg l σ.1 (look l σ.1).at_ (σ.1+1,σ.2):=fun hk=>⟨hk,rfl,Nat.le_succ _⟩;unfold atomE at h0 ⊢;simp only at h0 ⊢;split
 {next hx=>exact leaf _ (Z0n hx) rfl rfl}
 next hx1=>
 rw[if_neg hx1] at h0;split
 {next hx=>exact leaf _ (Z0n hx) rfl rfl}
 next hx2=>
 rw[if_neg hx2] at h0;split
 {next hx=>
  rw[if_pos hx] at h0;exact ⟨Z0n hx,Zae hT h (to_next hσ (sign_lt hx)).1 (bg (Z0n hx)) h0⟩}
 next hx3=>
 rw[if_neg hx3] at h0;split
 {next hx=>
  rw[if_pos hx] at h0;exact ⟨Z0n hx,ZdE hT h hσ ⟨Z0n hx,rfl,Nat.le_refl _⟩ h0⟩}
 next hx4=>
 rw[if_neg hx4] at h0;split
 {next hx=>
  rw[if_pos hx] at h0;have h1:=to_next hσ (sign_lt hx);have h2:=to_name h1.1;exact ⟨Z0n hx,Zc1 hT h _ _ h2.1 ((bg (Z0n hx)).on h2) h0⟩}
 next hx5=>
 rw[if_neg hx5] at h0;split
 {next hx=>
  rw[if_pos hx] at h0;have h1:=to_next hσ (sign_lt hx);have h2:=to_upper h1.1;exact ⟨Z0n hx,Zc1 hT h _ _ h2.1 ((bg (Z0n hx)).on h2) h0⟩}
 next hx6=>
 rw[if_neg hx6] at h0;split
 {next hx=>
  rw[if_pos hx] at h0;have h1:=to_next hσ (sign_lt hx);have h2:=to_upper h1.1;exact ⟨Z0n hx,Zc1 hT h _ _ h2.1 ((bg (Z0n hx)).on h2) h0⟩}
 next hx7=>
 rw[if_neg hx7] at h0;split
 {next hx=>exact leaf _ (by rw[hx]; decide) rfl rfl}
 next hx8=>
 rw[if_neg hx8] at h0;split
 {next hx=>exact leaf _ (by rw[hx]; decide) rfl rfl}
 next hx9=>
 rw[if_neg hx9] at h0;have hk: (look l σ.1).t.kind≠0:=by rw[Zc2 hσ h0]; decide
 exact ⟨hk,ZeR ⟨hk,rfl,Nat.le_refl _⟩⟩
theorem Z50 (hT:Ty l ex) (h:Ex l ex) {i:Nat} {a:Int} (hk: (look l i).t.kind≠0) (ha: (look l i).at_=a): ∀n σ t,Ok l σ->i<=σ.1->(chainL l ex a n σ t).2.2.1=0->Stand l i t->Stand l i (chainL l ex a n σ t).1
 | 0,σ,t,_,_,_,ht=>ht
 | n+1,σ,t,hs,hi,h0,ht=>by
  unfold chainL at h0 ⊢;split
  {next hx=>
   rw[if_pos hx] at h0;have h1:=to_betw (o:= [40]) (s:= [44]) (e:= [41]) (goes_args hT) [t] hs;have h2:=to_chainL hT a n (betw l [40] [44] [41] (argsR l ex) σ [t]).1 { tm 7 a with parts:=(betw l [40] [44] [41] (argsR l ex) σ [t]).2 } h1.1;have hp:PartsI l i (betw l [40] [44] [41] (argsR l ex) σ [t]).2:=Z4h (goes_args hT) (PartsI l i) i (Z8X h i) hs hi (back h2 h0) (fun p hp=>by
    obtain rfl:p=t:=by simpa using hp
    exact ht)
   exact Z50 hT h hk ha n _ _ h1.1 (Nat.le_trans hi h1.2.1) h0 (.mk i i _ (Nat.le_refl _) hk ha hp)}
  next hx1=>
  rw[if_neg hx1] at h0;split
  {next hx=>
   rw[if_pos hx] at h0;have h1:=to_next hs (sign_lt hx);have h2:=to_name h1.1;exact Z50 hT h hk ha n _ _ h2.1 (Nat.le_trans hi (h1.trans h2).2.1) h0 (.mk i i _ (Nat.le_refl _) hk ha (fun p hp=>by
    obtain rfl:p=t:=by simpa using hp
    exact ht))}
  {exact ht}
theorem ZfK (hT:Ty l ex) (h:Ex l ex):Ex l (bodyE l ex):=fun σ hσ h0=>by
 have hb:=to_begin hσ;have e0: (begin_ l σ).2.1=0:=back (by
  unfold bodyE;simp only;split
  {next hx=>
   have h1:=to_next hb.1 (sign_lt hx);exact h1.trans (to_fun hT _ _ h1.1)}
  split
  {next hx=>
   have h1:=to_next hb.1 (sign_lt hx);exact h1.trans (to_let hT _ _ h1.1)}
  split
  {next hx=>
   have h1:=to_next hb.1 (sign_lt hx);exact h1.trans (to_choice hT _ _ h1.1)}
  split
  {next hx=>
   have h1:=to_next hb.1 (sign_lt hx);exact h1.trans (to_match hT _ _ h1.1)}
  split
  {exact to_list hT _ _ hb.1}
  · exact to_chain hT _ _ hb.1) h0
 have eb:begin_ l σ=σ:=by
  unfold begin_ at e0 ⊢;split
  {next hx=>rw[if_pos hx] at e0; exact absurd e0 (Z3Q (by decide))}
  {rfl}
 have bg: (look l σ.1).t.kind≠0->Beg l σ.1 (look l σ.1).at_ (σ.1+1,σ.2):=fun hk=>⟨hk,rfl,Nat.le_succ _⟩;unfold bodyE at h0 ⊢;simp only[eb] at h0 ⊢;split
 {next hx=>
  rw[if_pos hx] at h0;exact Zgd hT h (to_next hσ (sign_lt hx)).1 (bg (Z0n hx)) h0}
 next hx1=>
 rw[if_neg hx1] at h0;split
 {next hx=>
  rw[if_pos hx] at h0;exact Zge hT h (to_next hσ (sign_lt hx)).1 (bg (Z0n hx)) h0}
 next hx2=>
 rw[if_neg hx2] at h0;split
 {next hx=>
  rw[if_pos hx] at h0;exact ZdD hT h (to_next hσ (sign_lt hx)).1 (bg (Z0n hx)) h0}
 next hx3=>
 rw[if_neg hx3] at h0;split
 {next hx=>
  rw[if_pos hx] at h0;exact ZeQ hT h (to_next hσ (sign_lt hx)).1 (bg (Z0n hx)) h0}
 next hx4=>
 rw[if_neg hx4] at h0;split
 {next hx=>
  rw[if_pos hx] at h0;exact ZfI hT h hσ ⟨Z0n hx,rfl,Nat.le_refl _⟩ h0}
 next hx5=>
 rw[if_neg hx5] at h0;unfold chainE at h0 ⊢;simp only at h0 ⊢;have h1:=to_atom hT (look l σ.1).at_ σ hσ;have h2:=to_chainL hT (look l σ.1).at_ (l.length+1) _ (atomE l ex σ (look l σ.1).at_).1 h1.1;obtain ⟨hk,ht⟩:=ZfJ hT h hσ (back h2 h0);exact Z50 hT h hk rfl _ _ _ h1.1 h1.2.1 h0 ht
theorem Zfp: ∀n,Ex l (expr l n)
 | 0=>fun σ _ h0=>absurd h0 (Z3Q (by decide))
 | n+1=>ZfK (to_expr n) (Zfp n)
theorem ZeS {σ:St} (hσ:Ok l σ) (h0: (wholeE l σ).2.2.1=0):Stand l σ.1 (wholeE l σ).1:=by
 unfold wholeE at h0 ⊢;simp only at h0 ⊢;split at h0
 {exact Zfp _ σ hσ h0}
 {next hc=>exact absurd h0 (Z3Q hc)}
end
def Goup (l:List Tk):Prop:= ∀i j,i<=j->j < l.length->(look l i).at_<=(look l j).at_
mutual
def stands (l:List Tk) (from_:Int):Tm->Bool
 | ⟨_,_,_,_,_,_,_,ps,a⟩=>(l.any fun x=>decide (x.at_=a)&& !decide (x.t.kind=0))&&decide (from_<=a)&&standss l a ps
def standss (l:List Tk) (from_:Int):List Tm->Bool
 | []=>true
 | p::ps=>stands l from_ p&&standss l from_ ps
end
theorem stands_eq (l:List Tk) (f:Int) (t:Tm):stands l f t=((l.any fun x=>decide (x.at_=t.at_)&& !decide (x.t.kind=0))&&decide (f<=t.at_)&&standss l t.at_ t.parts):=by cases t; rfl
theorem Z5A {l:List Tk} {f:Int}: ∀ {ps:List Tm},(∀p∈ps,stands l f p=true)->standss l f ps=true
 | [],_=>rfl
 | p::ps,h=>by simp only[standss,h p (by simp),Bool.true_and]; exact Z5A (fun q hq=>h q (by simp[hq]))
theorem ZdF {l:List Tk} (hg:Goup l) (t:Tm): ∀(i:Nat) (f:Int),Stand l i t->f<=(look l i).at_->stands l f t=true:=by
 induction t using Tms.Tm.ind with
 | h t ih=>
  intro i f h hf;obtain ⟨_,j,_,h1,h2,h3,h4⟩:=h;have hj:j < l.length:=kind_lt h2;have hij:=hg i j h1 hj;rw[stands_eq];simp only[Bool.and_eq_true,decide_eq_true_eq];refine ⟨⟨?_,by omega⟩,Z5A (fun p hp=>ih p hp j t.at_ (h4 p hp) (by omega))⟩;rw[List.any_eq_true];have hl:look l j=l[j]'hj:=by unfold look; rw[List.getElem?_eq_getElem hj]
  rw[hl] at h2 h3;exact ⟨l[j]'hj,List.getElem_mem _,by simp only[Bool.and_eq_true,decide_eq_true_eq,Bool.not_eq_true',decide_eq_false_iff_not]; exact ⟨h3,h2⟩⟩
end
section
open Go.Proofs.YtkncdbaoaeeoiaaGreatDoor (Tk tkOf scanned)
open Prs (Flt R look)
open Lex (Tok Placed)
open Tms (Tm)
theorem Z7i {s:List UInt8}: ∀(m:List (Tok×Nat)) (a:Nat),Placed s a m->List.Pairwise (fun x y=>x.2<=y.2) m/\ ∀x∈m,a<=x.2
 | [],_,_=>⟨List.Pairwise.nil,fun x hx=>by simp at hx⟩
 | (t,p)::r,a,h=>by
  obtain ⟨h1,h2,_,_,h4,h5⟩:=h;have hr:Placed s p r:=by
   by_cases hk:t.kind=4
   {exact (h4 hk).less (by omega)}
   {exact (h5 hk).2.2.less (by omega)}
  obtain ⟨i1,i2⟩:=Z7i r p hr;refine ⟨List.Pairwise.cons (fun x hx=>i2 x hx) i1,fun x hx=> ?_⟩;rcases List.mem_cons.1 hx with rfl | hx
  {exact h1}
  {exact Nat.le_trans h1 (i2 x hx)}
theorem ZfL {s:List UInt8} {m:List (Tok×Nat)} (h:Lex.scanR s= .ok m):Goup (tkOf m):=by
 obtain ⟨h4,l,hl,rfl⟩:=Lex.Z4V h;have hp:=Lex.Z1M s s.length 0 l (by omega) (Nat.zero_le _) hl;have h1:=(Z7i l 0 hp).1;have h2:=Lex.Z2D l 0 hp;have h3:List.Pairwise (fun x y:Tok×Nat=>x.2<=y.2) (l++ [(Lex.endTok,s.length)]):=by
  rw[List.pairwise_append];refine ⟨h1,List.pairwise_singleton _ _,fun x hx y hy=> ?_⟩;obtain rfl:y=(Lex.endTok,s.length):=by simpa using hy
  exact h2 x hx
 intro i j hij hj;have hj':j < (l++ [(Lex.endTok,s.length)]).length:=by simpa[tkOf] using hj
 have e: ∀k (hk:k < (l++ [(Lex.endTok,s.length)]).length),(look (tkOf (l++ [(Lex.endTok,s.length)])) k).at_=(((l++ [(Lex.endTok,s.length)])[k]'hk).2:Int):=by
  intro k hk;unfold look tkOf;rw[List.getElem?_map,List.getElem?_eq_getElem hk];rfl
 rw[e i (by omega),e j hj'];rcases Nat.lt_or_ge i j with hlt | hge
 {have:=(List.pairwise_iff_getElem.1 h3) i j (by omega) hj' hlt;omega}
 {obtain rfl:i=j:=by omega
  exact Int.le_refl _}
theorem Z8Y {α:Type} {s:List UInt8} {whole:List Tk->St->α×St} {t:α} (h:rdText s whole= .ok t): ∃m,Lex.scanR s= .ok m/\(whole (tkOf m) (0,(0,0))).2.2.1=0/\(whole (tkOf m) (0,(0,0))).1=t/\(whole (tkOf m) (0,(0,0))).2.1+1=(tkOf m).length:=by
 unfold rdText at h;cases hm:Lex.scanR s with
 | error x=>rw[hm] at h; cases h
 | ok m=>
  rw[hm] at h;simp only at h;refine ⟨m,rfl, ?_⟩;unfold rd close at h;split at h
  {cases h}
  next y hy=>
  split at hy
  {cases hy}
  split at hy
  {cases hy}
  split at hy
  {next hf=>
   obtain rfl:=Except.ok.inj hy;split at h
   {next he=>exact ⟨hf,Except.ok.inj h,he⟩}
   {cases h}}
  {cases hy}
theorem ZeT {l:List Tk}:Ok l (0,(0,0)):=⟨Nat.zero_le _,fun h=>absurd rfl h⟩
theorem places_hold {s:List UInt8} {t:Tm} (h:rdText s wholeE= .ok t): ∃m,Lex.scanR s= .ok m/\stands (tkOf m) t.at_ t=true:=by
 obtain ⟨m,hm,h0,ht,_⟩:=Z8Y h;refine ⟨m,hm, ?_⟩;have h1:=ZeS ZeT h0;rw[ht] at h1;obtain ⟨_,j,_,_,h2,h3,h4⟩:=h1;exact ZdF (ZfL hm) t j t.at_ (.mk j j t (Nat.le_refl _) h2 h3 h4) (by omega)
end
end Pso
