/- What the proofs of ParsePlaces want, part 13. -/
import Derived.Test.YtkncdbaoaeeoiaaGreatDoorK0n12
set_option linter.unusedVariables false
set_option linter.unusedSimpArgs false
set_option linter.unusedSectionVars false
set_option maxRecDepth 100000
set_option maxHeartbeats 16000000
namespace Go.Proofs.YtkncdbaoaeeoiaaGreatDoor
section
open Go.RowKit Shp
def Z3K (m:Nat) (t:Sh):Int:=if m < size t then (m:Int)+1 else size t
def Z3L (m:Nat) (t:Sh):Int:=if m < size t then 0 else deep t
section
variable (t : Sh) (q : Ptr) (w : World) (hq : ShAt w w.heap.size q t)
include t q w hq
theorem Z8z:
 Y9 105 #[.agg (Y8 t q)] w (.tuple #[.int .i64 (Z3K 400 t),.int .i64 (Z3L 400 t)]):=by
 unfold Z3K Z3L;by_cases h:400 < size t
 {rw[if_pos h,if_pos h]; exact Z8y t q w hq h}
 {rw[if_neg h,if_neg h]; exact Zbs t q w hq (by omega)}
theorem Z3s (hg:WGlobs w):
 Y9 73 #[.agg (Y8 t q)] w (.int .i64 (check t)):=by
 have hb0:=Z01 w (.cells (Y8 t q) 43);have hm:=Z8z t q _ (hq.next hb0);have HC:Hid (check t=if 400 < size t then 3 else if 40 < deep t then 91 else if right t=false then 70 else 0):=Y1 rfl;have HB0:=Y1 hb0;have HB:=Y1 (Z0k w t q);have HQ:=Y1 hq;have HG:=Y1 hg;obtain ⟨_,⟨c0,c1,c2,c3,c4⟩,_⟩:=HB.out;clear hb0 hq hg;by_cases h4:400 < size t
 {have HF:Hid (check t=3):=Y1 (by rw[HC.out,if_pos h4]);have hx:Z3K 400 t=401:=by unfold Z3K; rw[if_pos h4]; rfl
  rw[hx] at hm;generalize Z3L 400 t=y at hm;clear h4 hx;go_enter Tryz.func73,Tryz.ntmps73
  go_wp2_with fail
  refine hm.mono ?_;rintro e w' ⟨rfl,hb'⟩;go_wp2;go_ret;exact ⟨Z0p HF.out.symm,Z00 HB0.out hb'⟩}
 {have hx:Z3K 400 t=(size t:Int):=by unfold Z3K; rw[if_neg h4]
  have hy:Z3L 400 t=(deep t:Int):=by unfold Z3L; rw[if_neg h4]
  rw[hx,hy] at hm;have h4': ¬(400:Int) < (size t:Int):=by omega
  by_cases h40:40 < deep t
  {have HF:Hid (check t=91):=Y1 (by rw[HC.out,if_neg h4,if_pos h40]);have h40': (40:Int) < (deep t:Int):=by omega
   clear h4 h40 hx hy;go_enter Tryz.func73,Tryz.ntmps73
   go_wp2_with fail
   refine hm.mono ?_;rintro e w' ⟨rfl,hb'⟩;go_wp2;go_ret;exact ⟨Z0p HF.out.symm,Z00 HB0.out hb'⟩}
  {have h40': ¬(40:Int) < (deep t:Int):=by omega
   have HF:Hid (check t=if right t=false then 70 else 0):=Y1 (by rw[HC.out,if_neg h4,if_neg h40]);have HZ:Hid (size t<=1000000):=Y1 (by omega);clear h4 h40 hx hy;go_enter Tryz.func73,Tryz.ntmps73
   go_wp2_with fail
   refine hm.mono ?_;rintro e w2 ⟨rfl,hb2⟩;have hbw:=Z00 HB0.out hb2;have HBW2:=Y1 hbw;have HB2:=Y1 (HB.out.next hb2);have hr:=Z8x t q w2 (HQ.out.next hbw) (HG.out.next hbw) HZ.out;clear hm hb2 hbw c0 c1 c2 c3 c4;obtain ⟨_,⟨c0,c1,c2,c3,c4⟩,_⟩:=HB2.out;cases hrt:right t
   all_goals
    rw[hrt] at hr HF;clear hrt
    go_wp2_with fail
    refine hr.mono ?_;rintro e w' ⟨rfl,hb'⟩;go_wp2;go_ret;exact ⟨Z0p (by rw[HF.out]; rfl),Z00 HBW2.out hb'⟩}}
end
end
section
open Go.RowKit Tms
open Shp (Sh)
open Pso (St Ok Goes betw loop want)
open Prs (sign)
theorem Z0P (bp:Nat) (A:Option Addr) (c:Nat) (l:List Tk) (hl:l.length<=5000) (ht: ∀b∈l,b.t.text.length<=1000000) (σ:St) (hO:Ok l σ) (w:World) (hP:PAt w bp A c l σ):
 Calls Tryz.prog 39 #[.pointer (some ⟨bp,0,none⟩)] w (TyIs bp A c l (Pso.wholeT l σ) w):=by
 have HF:Hid (Pso.wholeT l σ=((Pso.anyT l (l.length+1) σ).1,if Shp.check (Pso.anyT l (l.length+1) σ).1=0 then (Pso.anyT l (l.length+1) σ).2 else Pso.fail l (Pso.anyT l (l.length+1) σ).2 (Shp.check (Pso.anyT l (l.length+1) σ).1) (Prs.look l σ.1).at_)):=Y1 rfl;rw[HF.out];have hb0:=Z01 w (.cells Yb 43);have HP0:=Y1 (hP.below hb0);have HB0:=Y1 hb0;have hbw:=hP.lt;have HT:=Y1 (fun (W:World) (h:PAt W bp A c l σ)=>Z4J bp A c l hl ht (l.length+1) W σ hO (by omega) h);have hfd:=Z47 (Prs.look l σ.1).t.kind ⟨(Prs.look l σ.1).t.text.toArray⟩ (Prs.look l σ.1).at_;obtain ⟨y,hy⟩: ∃y,y=Pso.anyT l (l.length+1) σ:=⟨_,rfl⟩;rw[<-hy] at HT ⊢;obtain ⟨k,hk⟩: ∃k,k=Shp.check y.1:=⟨_,rfl⟩;have HK:=Y1 hk;rw[<-hk];clear HF hb0 hP hy hk;by_cases hk0:k=0
 {have e0: (k !=0)=false:=by simpa using hk0
  rw[if_pos hk0];clear hk0;go_enter Tryz.func39,Tryz.ntmps39
  go_wp2_with fail
  refine (Z1A hl hO.1 _ HP0.out).mono ?_;rintro e w1 ⟨rfl,hp1,hu1⟩;have HP1:=Y1 hp1;have HV1:=Y1 hu1;clear hp1 hu1
  go_wp2_with fail
  refine (HT.out w1 HP1.out).mono ?_;rintro e w2 ⟨x,rfl,hp2,hu2,hx,hlo,hxt⟩;have hlz:w.heap.size+1<=x.lo:=by have h1:=HV1.out.size; simp at h1; omega
  have hbl:=Z01 w2 (.cells (Y8 x.t x.q) 43);have HP2:=Y1 (hp2.below hbl);have HV2:=Y1 ((HV1.out.trans hu2).below hbl);have HX2:=Y1 (show x.Is _ from New.below hx hbl);have HC2:=Y1 (Z0t w2 (.int .i64 x.t.kind) (.string ⟨x.t.of_.toArray⟩) (.string ⟨x.t.name.toArray⟩) (.slice x.q.A x.t.names.length x.q.c) (.slice x.q.P x.t.parts.length x.q.d) 43);have HXT:=Y1 hxt;clear hp2 hu2 hx hlo hxt hbl HT HP1;simp only[valS];obtain ⟨c0,c1,c2,c3,c4,cf,cl⟩:=HC2.out
  go_wp2_with fail
  generalize w2.alloc (.cells (Y8 x.t x.q) 43)=W2 at HP2 HV2 HX2 HC2 c0 c1 c2 c3 c4 cl ⊢;refine (Z3s x.t x.q W2 HX2.out.here HP2.out.gs.gl.s).mono ?_;rintro e w3 ⟨rfl,hb3⟩;rw[HXT.out, <-HK.out];have HP3:=Y1 (HP2.out.below hb3);have HV3:=Y1 (HV2.out.below hb3);have HX3:=Y1 (show x.Is w3 from New.below HX2.out hb3);have x0:=(hb3.cell (p:=⟨w2.heap.size,0,none⟩) cl).trans c0;have x1:=(hb3.cell (p:=⟨w2.heap.size,1,none⟩) cl).trans c1;have x2:=(hb3.cell (p:=⟨w2.heap.size,2,none⟩) cl).trans c2;have x3:=(hb3.cell (p:=⟨w2.heap.size,3,none⟩) cl).trans c3;have x4:=(hb3.cell (p:=⟨w2.heap.size,4,none⟩) cl).trans c4;have xl:w2.heap.size < w3.heap.size:=Nat.lt_of_lt_of_le cl hb3.size;obtain ⟨r0,r1,r2,r3,r4,g0,g1,g2,g3,g4,hrl⟩:=res5 HB0.out (Z0t w _ _ _ _ _ _) rfl HV3.out hbw;clear hb3 c0 c1 c2 c3 c4 cf cl HC2 HP2 HV2 HX2;go_wp2;refine bodyPost_ret (v:=valS x) (by simp[results,Tryz.results39,go_sem,valS,r0,r1,r2,r3,r4,hrl]) rfl ?_;have hE:=end5 HP3.out ((Z05 (F:= [bp]) HB0.out).trans HV3.out) HX3.out (rb:=w.heap.size) (Nat.le_refl _) (Or.inl (by omega)) hbw;exact ⟨x,rfl,(hE _ _ _ _ _).1,(hE _ _ _ _ _).2.1,(hE _ _ _ _ _).2.2,by omega,HXT.out⟩}
 {have e0: (k !=0)=true:=by simpa using hk0
  rw[if_neg hk0];clear hk0;go_enter Tryz.func39,Tryz.ntmps39
  go_wp2_with fail
  refine (Z1A hl hO.1 _ HP0.out).mono ?_;rintro e w1 ⟨rfl,hp1,hu1⟩;have HP1:=Y1 hp1;have HV1:=Y1 hu1;clear hp1 hu1
  go_wp2_with fail
  refine (HT.out w1 HP1.out).mono ?_;rintro e w2 ⟨x,rfl,hp2,hu2,hx,hlo,hxt⟩;have hlz:w.heap.size+1<=x.lo:=by have h1:=HV1.out.size; simp at h1; omega
  have hbl:=Z01 w2 (.cells (Y8 x.t x.q) 43);have HP2:=Y1 (hp2.below hbl);have HV2:=Y1 ((HV1.out.trans hu2).below hbl);have HX2:=Y1 (show x.Is _ from New.below hx hbl);have HC2:=Y1 (Z0t w2 (.int .i64 x.t.kind) (.string ⟨x.t.of_.toArray⟩) (.string ⟨x.t.name.toArray⟩) (.slice x.q.A x.t.names.length x.q.c) (.slice x.q.P x.t.parts.length x.q.d) 43);have HXT:=Y1 hxt;have HLW:Hid (bp < w2.heap.size):=Y1 hp2.lt;clear hp2 hu2 hx hlo hxt hbl HT HP1;simp only[valS];obtain ⟨c0,c1,c2,c3,c4,cf,cl⟩:=HC2.out
  go_wp2_with fail
  generalize w2.alloc (.cells (Y8 x.t x.q) 43)=W2 at HP2 HV2 HX2 HC2 c0 c1 c2 c3 c4 cl ⊢;refine (Z3s x.t x.q W2 HX2.out.here HP2.out.gs.gl.s).mono ?_;rintro e w3 ⟨rfl,hb3⟩;rw[HXT.out, <-HK.out];have HP3:=Y1 (HP2.out.below hb3);have HV3:=Y1 (HV2.out.below hb3);have HX3:=Y1 (show x.Is w3 from New.below HX2.out hb3);have HS3:=Y1 (show SameT W2 w3 w2.heap.size from (Z05 (F:= []) hb3).same cl (by simp));have HL3:Hid (w2.heap.size < w3.heap.size):=Y1 (Nat.lt_of_lt_of_le cl hb3.size);clear hb3
  go_wp2_with fail
  refine (Z3j bp A c l y.2 k (Prs.look l σ.1).at_ (by omega) w3 HP3.out).mono ?_;rintro e w4 ⟨rfl,hp4,hu4⟩;have hw2:bp < w2.heap.size:=HLW.out;have hs4:=HS3.out.trans (hu4.same HL3.out (by simp; omega));have HP4:=Y1 hp4;have HV4:=Y1 (HV3.out.trans hu4);have HX4:=Y1 (show x.Is w4 from New.up HX3.out hu4 (by simp; omega));have x0:=(hs4.1 0).trans c0;have x1:=(hs4.1 1).trans c1;have x2:=(hs4.1 2).trans c2;have x3:=(hs4.1 3).trans c3;have x4:=(hs4.1 4).trans c4;have xl:w2.heap.size < w4.heap.size:=Nat.lt_of_lt_of_le HL3.out hu4.size;obtain ⟨r0,r1,r2,r3,r4,g0,g1,g2,g3,g4,hrl⟩:=res5 HB0.out (Z0t w _ _ _ _ _ _) rfl HV4.out hbw;clear hp4 hu4 hs4 c0 c1 c2 c3 c4 cf cl HC2 HP2 HV2 HX2 HP3 HV3 HX3;go_wp2;refine bodyPost_ret (v:=valS x) (by simp[results,Tryz.results39,go_sem,valS,r0,r1,r2,r3,r4,hrl]) rfl ?_;have hE:=end5 HP4.out ((Z05 (F:= [bp]) HB0.out).trans HV4.out) HX4.out (rb:=w.heap.size) (Nat.le_refl _) (Or.inl (by omega)) hbw;exact ⟨x,rfl,(hE _ _ _ _ _).1,(hE _ _ _ _ _).2.1,(hE _ _ _ _ _).2.2,by omega,HXT.out⟩}
end
end Go.Proofs.YtkncdbaoaeeoiaaGreatDoor
namespace Prs
end Prs
namespace Go.Proofs.YtkncdbaoaeeoiaaGreatDoor
open Go.RowKit Prs
def Z1s (W:World) (g:Nat):Prop:=g < W.heap.size/\(W.cell? ⟨g,0,none⟩=some (.int .i64 0)/\W.cell? ⟨g,1,none⟩=some (.string ⟨#[]⟩)/\W.cell? ⟨g,2,none⟩=some (.string ⟨#[]⟩)/\W.cell? ⟨g,3,none⟩=some (.slice none 0 0)/\W.cell? ⟨g,4,none⟩=some (.slice none 0 0))/\
 W.frozen? ⟨g,0,none⟩=false/\W.frozen? ⟨g,1,none⟩=false/\W.frozen? ⟨g,2,none⟩=false/\W.frozen? ⟨g,3,none⟩=false/\W.frozen? ⟨g,4,none⟩=false
end Go.Proofs.YtkncdbaoaeeoiaaGreatDoor
namespace Go.Proofs.YtkncdbaoaeeoiaaGreatDoor
section
open Go.RowKit Shp
structure PaR (W:World) (b:Nat) (ps:List Sh) (qs:Nat->Ptr):Prop where
 lt:b < W.heap.size
 at_: ∀i (h:i < ps.length),Sh5 W b (i * 5) (ps[i]'h) (qs i)
 fz: ∀k,W.frozen? ⟨b,k,none⟩=false
def Z7N (W W':World) (b:Nat):Prop:=(∀k,W'.cell? ⟨b,k,none⟩=W.cell? ⟨b,k,none⟩)/\ ∀k,W'.frozen? ⟨b,k,none⟩=W.frozen? ⟨b,k,none⟩
theorem PaR.of {W W':World} {b:Nat} {ps:List Sh} {qs:Nat->Ptr} (h:PaR W b ps qs) (hs:Z7N W W' b) (hz:W.heap.size<=W'.heap.size):PaR W' b ps qs:=
 ⟨Nat.lt_of_lt_of_le h.lt hz,fun i hi=>(h.at_ i hi).of hs.1,fun k=>(hs.2 k).trans (h.fz k)⟩
theorem TxR.of {W W':World} {b:Nat} {ts:List (List UInt8)} (h:TxR W b ts) (hs:Z7N W W' b) (hz:W.heap.size<=W'.heap.size):TxR W' b ts:=
 ⟨Nat.lt_of_lt_of_le h.lt hz,fun i hi=>(hs.1 i).trans (h.at_ i hi),fun k=>(hs.2 k).trans (h.fz k)⟩
inductive Own (W:World):Ptr->Sh->List Nat->Prop
 | mk (q:Ptr) (t:Sh) (F FN FP:List Nat) (qs:Nat->Ptr) (Fs:Nat->List Nat) (hs:Small t q)
  (hn:t.names.length=0/\FN= []\/ ∃b,q.A=some ⟨b,0,none⟩/\FN= [b]/\TxR W b t.names)
  (hp:t.parts.length=0/\FP= []\/ ∃b,q.P=some ⟨b,0,none⟩/\FP= [b]/\PaR W b t.parts qs)
  (hr: ∀i (h:i < t.parts.length),Own W (qs i) (t.parts[i]'h) (Fs i)) (hF:F=FN++FP++(List.range t.parts.length).flatMap Fs):Own W q t F
theorem Own.small {W:World} {q:Ptr} {t:Sh} {F:List Nat} (h:Own W q t F):Small t q:=by cases h; assumption
theorem Own.of {W W':World} {q:Ptr} {t:Sh} {F:List Nat} (h:Own W q t F) (hc: ∀b∈F,Z7N W W' b) (hz:W.heap.size<=W'.heap.size):Own W' q t F:=by
 induction h with
 | mk q t F FN FP qs Fs hs hn hp hr hF ih=>
  subst hF;refine .mk q t _ FN FP qs Fs hs ?_ ?_ ?_ rfl
  {rcases hn with h | ⟨b,h1,rfl,h3⟩
   {exact Or.inl h}
   {exact Or.inr ⟨b,h1,rfl,h3.of (hc b (by simp)) hz⟩}}
  {rcases hp with h | ⟨b,h1,rfl,h3⟩
   {exact Or.inl h}
   {exact Or.inr ⟨b,h1,rfl,h3.of (hc b (by simp)) hz⟩}}
  {intro i hi;refine ih i hi (fun b hb=>hc b ?_);refine List.mem_append_right _ (List.mem_flatMap.2 ⟨i,List.mem_range.2 hi,hb⟩)}
theorem Own.at_ {W:World} {q:Ptr} {t:Sh} {F:List Nat} {B:Nat} (h:Own W q t F) (hB: ∀b∈F,b < B):ShAt W B q t:=by
 induction h with
 | mk q t F FN FP qs Fs hs hn hp hr hF ih=>
  subst hF;have hS:Strs W B q.A (strs t.names):=by
   rcases hn with ⟨h,_⟩ | ⟨b,h1,rfl,h3⟩
   {exact Or.inl (by rw[Z2j]; exact h)}
   {refine Or.inr ⟨b,0,h1,hB b (by simp),fun i hi=> ?_⟩;rw[Z2j] at hi;rw[Nat.zero_add,h3.at_ i hi];simp[strs]}
  have hrr: ∀i (h:i < t.parts.length),ShAt W B (qs i) (t.parts[i]'h):=fun i hi=>ih i hi (fun b hb=>hB b (List.mem_append_right _ (List.mem_flatMap.2 ⟨i,List.mem_range.2 hi,hb⟩)));rcases hp with ⟨h,_⟩ | ⟨b,h1,rfl,h3⟩
  {exact .mk q t 0 0 qs hs hS (Or.inl h) (fun i hi=>absurd hi (by omega)) hrr}
  {exact .mk q t b 0 qs hs hS (Or.inr ⟨h1,hB b (by simp)⟩) (fun i hi=>by rw[Nat.zero_add]; exact h3.at_ i hi) hrr}
theorem Own.lt {W:World} {q:Ptr} {t:Sh} {F:List Nat} (h:Own W q t F): ∀b∈F,b < W.heap.size:=by
 induction h with
 | mk q t F FN FP qs Fs hs hn hp hr hF ih=>
  subst hF;intro b hb;rcases List.mem_append.1 hb with hb | hb
  {rcases List.mem_append.1 hb with hb | hb
   {rcases hn with ⟨_,rfl⟩ | ⟨c,_,rfl,h3⟩
    {cases hb}
    {rw[List.mem_singleton] at hb; subst hb; exact h3.lt}}
   {rcases hp with ⟨_,rfl⟩ | ⟨c,_,rfl,h3⟩
    {cases hb}
    {rw[List.mem_singleton] at hb; subst hb; exact h3.lt}}}
  {obtain ⟨i,hi,hb⟩:=List.mem_flatMap.1 hb;exact ih i (List.mem_range.1 hi) b hb}
def Node (W:World) (g i:Nat) (t:Sh) (F:List Nat):Prop:= ∃q,Sh5 W g (i * 5) t q/\Own W q t F
structure Nd where
 g:Nat
 i:Nat
 t:Sh
 q:Ptr
def Ready (r:Nat) (T:Sh) (L:List Nd) (D:List Nat) (W:World):Prop:=
 ∀(W':World) (Fs:Nat->List Nat),W.heap.size<=W'.heap.size->
  (∀b∈D,∀k,(∀n∈L,¬(n.g=b/\(k=n.i * 5+3\/k=n.i * 5+4)))->W'.cell? ⟨b,k,none⟩=W.cell? ⟨b,k,none⟩)->
  (∀b∈D,∀k,W'.frozen? ⟨b,k,none⟩=W.frozen? ⟨b,k,none⟩)->
  (∀j (h:j < L.length),Node W' (L[j]'h).g (L[j]'h).i (L[j]'h).t (Fs j))->
  (∀j,j < L.length-> ∀b∈Fs j,b∉D)->((List.range L.length).flatMap Fs).Nodup->
  ∃F,Node W' r 0 T F/\F.Nodup/\ ∀b∈F,b∈D\/ ∃j,j < L.length/\b∈Fs j
theorem Ready.of {r:Nat} {T:Sh} {L:List Nd} {D:List Nat} {W W1:World} (h:Ready r T L D W) (hs: ∀b∈D,Z7N W W1 b) (hz:W.heap.size<=W1.heap.size):Ready r T L D W1:=
 fun W' Fs hz' hc hf hN hd hn=>h W' Fs (Nat.le_trans hz hz') (fun b hb k hx=>(hc b hb k hx).trans ((hs b hb).1 k)) (fun b hb k=>(hf b hb k).trans ((hs b hb).2 k)) hN hd hn
def kids (pb:Nat) (ps:List Sh) (qs:Nat->Ptr):List Nd:=ps.mapIdx fun i p=>⟨pb,i,p,qs i⟩
section
variable (pb : Nat) (ps : List Sh) (qs : Nat -> Ptr)
include pb ps qs
theorem Z5N: (kids pb ps qs).length=ps.length:=by simp[kids]
theorem ZaA (i:Nat) (h:i < (kids pb ps qs).length): (kids pb ps qs)[i]'h=⟨pb,i,ps[i]'(by rwa [Z5N] at h),qs i⟩:=by simp[kids]
end
theorem Zeo {pb:Nat} {ps:List Sh} {qs:Nat->Ptr} {n:Nd} (h:n∈kids pb ps qs):n.g=pb:=by
 obtain ⟨i,hi,rfl⟩:=List.getElem_of_mem h;rw[ZaA]
theorem Z7v {n m:Nat} (Fs:Nat->List Nat): (List.range (n+m)).flatMap Fs=(List.range n).flatMap Fs++(List.range m).flatMap (fun i=>Fs (n+i)):=by
 rw[List.range_add,List.flatMap_append,List.flatMap_map]
theorem Ready.step {r:Nat} {T:Sh} {L:List Nd} {a:Nd} {D DN DP:List Nat} {W W1:World} {q1:Ptr} {pb:Nat} {qs:Nat->Ptr} (hR:Ready r T (L++ [a]) D W) (hD: ∀b∈D,b < W.heap.size)
 (hag:a.g∈D) (hLg: ∀n∈L,n.g∈D) (hne: ∀n∈L,n.g=a.g->n.i≠a.i) (hsz:W.heap.size<=W1.heap.size) (ha:Sh5 W1 a.g (a.i * 5) a.t q1) (hs:Small a.t q1)
 (hk: ∀b∈D,∀k,¬(a.g=b/\(k=a.i * 5+3\/k=a.i * 5+4))->W1.cell? ⟨b,k,none⟩=W.cell? ⟨b,k,none⟩) (hf: ∀b∈D,∀k,W1.frozen? ⟨b,k,none⟩=W.frozen? ⟨b,k,none⟩)
 (hn:a.t.names.length=0/\DN= []\/ ∃b,q1.A=some ⟨b,0,none⟩/\DN= [b]/\W.heap.size<=b/\TxR W1 b a.t.names)
 (hp:a.t.parts.length=0/\DP= []\/q1.P=some ⟨pb,0,none⟩/\DP= [pb]/\W.heap.size<=pb/\pb∉DN/\PaR W1 pb a.t.parts qs):
 Ready r T (L++kids pb a.t.parts qs) (D++DN++DP) W1:=by
 intro W' Fs hsz' hcell hfr hN hdis hnd;have hlen: (L++kids pb a.t.parts qs).length=L.length+a.t.parts.length:=by rw[List.length_append,Z5N]
 have hpg: ∀n∈kids pb a.t.parts qs,a.t.parts.length≠0:=fun n hn h0=>by
  have:kids pb a.t.parts qs= []:=List.eq_nil_of_length_eq_zero (by rw[Z5N]; exact h0);rw[this] at hn; cases hn
 have hkid: ∀n∈kids pb a.t.parts qs,n.g=pb/\W.heap.size<=pb/\pb∉DN:=fun n hnm=>by
  rcases hp with ⟨h0,_⟩ | ⟨_,_,h3,h4,_⟩
  {exact absurd h0 (hpg n hnm)}
  {exact ⟨Zeo hnm,h3,h4⟩}
 have hDNb: ∀b∈DN,W.heap.size<=b:=fun b hb=>by
  rcases hn with ⟨_,rfl⟩ | ⟨c,_,rfl,h3,_⟩
  {cases hb}
  {rw[List.mem_singleton] at hb; subst hb; exact h3}
 have hDPb: ∀b∈DP,W.heap.size<=b/\b∉DN:=fun b hb=>by
  rcases hp with ⟨_,rfl⟩ | ⟨_,rfl,h3,h4,_⟩
  {cases hb}
  {rw[List.mem_singleton] at hb; subst hb; exact ⟨h3,h4⟩}
 have hDNn:DN.Nodup:=by
  rcases hn with ⟨_,rfl⟩ | ⟨c,_,rfl,_⟩ <;> simp
 have hDPn:DP.Nodup:=by
  rcases hp with ⟨_,rfl⟩ | ⟨_,rfl,_⟩ <;> simp
 let Fk:Nat->List Nat:=fun i=>Fs (L.length+i)
 let Fa:List Nat:=DN++DP++(List.range a.t.parts.length).flatMap Fk
 let Fs':Nat->List Nat:=fun j=>if j < L.length then Fs j else Fa
 rw[hlen] at hdis hnd;rw[Z7v] at hnd;have hnd':=List.nodup_append.1 hnd;have hdisD: ∀j,j < L.length+a.t.parts.length-> ∀b∈Fs j,b∉D/\b∉DN/\b∉DP:=fun j hj b hb=>by
  have:=hdis j hj b hb;simp only[List.mem_append,not_or] at this;exact ⟨this.1.1,this.1.2,this.2⟩
 -- the place that was copied
 have hkn: ∀i (h:i < a.t.parts.length),Node W' pb i (a.t.parts[i]'h) (Fk i):=fun i hi=>by
  have h1:=hN (L.length+i) (by rw[hlen]; omega);have e: (L++kids pb a.t.parts qs)[L.length+i]'(by rw[hlen]; omega)=⟨pb,i,a.t.parts[i]'hi,qs i⟩:=by
   rw[List.getElem_append_right (by omega)];simp only[Nat.add_sub_cancel_left];exact ZaA _ _ _ _ _
  rw[e] at h1;exact h1
 have hqk: ∃qk:Nat->Ptr,∀i (h:i < a.t.parts.length),Sh5 W' pb (i * 5) (a.t.parts[i]'h) (qk i)/\Own W' (qk i) (a.t.parts[i]'h) (Fk i):=by
  refine ⟨fun i=>if h:i < a.t.parts.length then (hkn i h).choose else ⟨none,0,none,0⟩,fun i h=> ?_⟩;simp only[dif_pos h];exact (hkn i h).choose_spec
 obtain ⟨qk,hqk⟩:=hqk;have hexc: ∀b∈D,∀k,(∀n∈L,¬(n.g=b/\(k=n.i * 5+3\/k=n.i * 5+4)))->W'.cell? ⟨b,k,none⟩=W1.cell? ⟨b,k,none⟩:=fun b hb k hx=>by
  refine hcell b (by simp[hb]) k (fun n hnm=> ?_);rcases List.mem_append.1 hnm with h | h
  {exact hx n h}
  {intro ⟨h1,_⟩;have h2:=hkid n h;have:=hD b hb;omega}
 have hNa:Node W' a.g a.i a.t Fa:=by
  refine ⟨q1, ?_,.mk q1 a.t Fa DN DP qk Fk hs ?_ ?_ (fun i hi=>(hqk i hi).2) rfl⟩
  {have e: ∀c,c < 5->W'.cell? ⟨a.g,a.i * 5+c,none⟩=W1.cell? ⟨a.g,a.i * 5+c,none⟩:=fun c hc=>hexc a.g hag _ (fun n hnm ⟨h1,h2⟩=>by
    have:=hne n hnm h1;omega)
   obtain ⟨h0,h1,h2,h3,h4⟩:=ha;exact ⟨(e 0 (by omega)).trans h0,(e 1 (by omega)).trans h1,(e 2 (by omega)).trans h2,(e 3 (by omega)).trans h3,(e 4 (by omega)).trans h4⟩}
  {rcases hn with h | ⟨b,h1,rfl,h3,h4⟩
   {exact Or.inl h}
   {refine Or.inr ⟨b,h1,rfl,h4.of ⟨fun k=>hcell b (by simp) k (fun n hnm=> ?_),fun k=>hfr b (by simp) k⟩ hsz'⟩;rcases List.mem_append.1 hnm with h | h
    {intro ⟨h5,_⟩;have:=hD _ (hLg n h);omega}
    {intro ⟨h5,_⟩;have h6:=hkid n h;rw[List.mem_singleton] at h6;omega}}}
  {rcases hp with h | ⟨h1,rfl,h3,h4,h5⟩
   {exact Or.inl h}
   {exact Or.inr ⟨pb,h1,rfl,Nat.lt_of_lt_of_le h5.lt hsz',fun i hi=>(hqk i hi).1,fun k=>(hfr pb (by simp) k).trans (h5.fz k)⟩}}
 have hFaD: ∀b∈Fa,b∉D:=fun b hb hbD=>by
  have hlt:=hD b hbD;rcases List.mem_append.1 hb with hb | hb
  {rcases List.mem_append.1 hb with hb | hb
   {have:=hDNb b hb; omega}
   {have:=(hDPb b hb).1; omega}}
  {obtain ⟨i,hi,hb⟩:=List.mem_flatMap.1 hb;exact (hdisD (L.length+i) (by have:=List.mem_range.1 hi; omega) b hb).1 hbD}
 have hFan:Fa.Nodup:=by
  refine List.nodup_append.2 ⟨List.nodup_append.2 ⟨hDNn,hDPn,fun x hx y hy e=>(hDPb y hy).2 (e▸hx)⟩,hnd'.2.1,fun x hx y hy e=> ?_⟩;subst e;obtain ⟨i,hi,hb⟩:=List.mem_flatMap.1 hy;have h1:=hdisD (L.length+i) (by have:=List.mem_range.1 hi; omega) x hb;rcases List.mem_append.1 hx with h | h
  {exact h1.2.1 h}
  {exact h1.2.2 h}
 have hll: (L++ [a]).length=L.length+1:=by simp
 have hFs': (List.range L.length).flatMap Fs'=(List.range L.length).flatMap Fs:=by
  have: ∀(l:List Nat),(∀j∈l,j < L.length)->l.flatMap Fs'=l.flatMap Fs:=by
   intro l;induction l with
   | nil=>intro _; rfl
   | cons j l ih=>
    intro h;rw[List.flatMap_cons,List.flatMap_cons,ih (fun j hj=>h j (by simp[hj]))];simp only[Fs',if_pos (h j (by simp))]
  exact this _ (fun j hj=>List.mem_range.1 hj)
 obtain ⟨F,h1,h2,h3⟩:=hR W' Fs' (Nat.le_trans hsz hsz') (fun b hb k hx=>by
  rw[hexc b hb k (fun n hnm=>hx n (by simp[hnm]))];exact hk b hb k (hx a (by simp)))
  (fun b hb k=>(hfr b (by simp[hb]) k).trans (hf b hb k))
  (fun j hj=>by
   rw[hll] at hj;by_cases hjl:j < L.length
   {have e: (L++ [a])[j]'(by rw[hll]; omega)=L[j]'hjl:=List.getElem_append_left hjl;have h1:=hN j (by rw[hlen]; omega);have e2: (L++kids pb a.t.parts qs)[j]'(by rw[hlen]; omega)=L[j]'hjl:=List.getElem_append_left hjl;rw[e2] at h1;rw[e];simp only[Fs',if_pos hjl];exact h1}
   · have hje:j=L.length:=by omega
     subst hje;have e: (L++ [a])[L.length]'(by rw[hll]; omega)=a:=by simp
     rw[e];simp only[Fs',if_neg hjl];exact hNa)
  (fun j hj b hb=>by
   rw[hll] at hj;by_cases hjl:j < L.length
   {simp only[Fs',if_pos hjl] at hb;exact (hdisD j (by omega) b hb).1}
   · simp only[Fs',if_neg hjl] at hb
     exact hFaD b hb)
  (by
   rw[hll,List.range_succ,List.flatMap_append,hFs'];have e: [L.length].flatMap Fs'=Fa:=by simp[Fs']
   rw[e];refine List.nodup_append.2 ⟨hnd'.1,hFan,fun x hx y hy e=> ?_⟩;subst e;obtain ⟨j,hj,hxj⟩:=List.mem_flatMap.1 hx;have hd:=hdisD j (by have:=List.mem_range.1 hj; omega) x hxj;rcases List.mem_append.1 hy with hy | hy
   {rcases List.mem_append.1 hy with hy | hy
    {exact hd.2.1 hy}
    {exact hd.2.2 hy}}
   · exact hnd'.2.2 x hx x hy rfl)
 refine ⟨F,h1,h2,fun b hb=> ?_⟩;rcases h3 b hb with h | ⟨j,hj,h⟩
 {exact Or.inl (by simp[h])}
 {rw[hll] at hj;by_cases hjl:j < L.length
  {simp only[Fs',if_pos hjl] at h;exact Or.inr ⟨j,by rw[hlen]; omega,h⟩}
  {simp only[Fs',if_neg hjl] at h;rcases List.mem_append.1 h with h | h
   {rcases List.mem_append.1 h with h | h
    {exact Or.inl (by simp[h])}
    {exact Or.inl (by simp[h])}}
   {obtain ⟨i,hi,h⟩:=List.mem_flatMap.1 h;exact Or.inr ⟨L.length+i,by rw[hlen]; have:=List.mem_range.1 hi; omega,h⟩}}}
end
end Go.Proofs.YtkncdbaoaeeoiaaGreatDoor
namespace Prs
open Go.Proofs.YtkncdbaoaeeoiaaGreatDoor (Tk)
end Prs
namespace Go.Proofs.YtkncdbaoaeeoiaaGreatDoor
open Go.RowKit Prs
open Shp (Sh)
def aW (w:World):World:=(w.alloc (.cells Yb 43)).alloc (.cells Yc 29)
theorem Z0V (w:World):Below w.heap.size w (aW w):=Z03 (Z01 _ _) _
theorem Z57 (w:World):Z1s (aW w) w.heap.size:=by
 refine ⟨by simp[aW]; omega,⟨?_, ?_, ?_, ?_, ?_⟩, ?_, ?_, ?_, ?_, ?_⟩ <;> simp[aW,go_sem]
theorem Z69 (w:World):Box2 (aW w) (w.heap.size+1) 0 0:=by
 refine ⟨by simp[aW], ?_, ?_, ?_, ?_⟩ <;> simp[aW,go_sem]
theorem Z1s.next {W W':World} {g:Nat} (h:Z1s W g) (hb:Below W.heap.size W W'):Z1s W' g:=by
 obtain ⟨h0,⟨h1,h2,h3,h4,h5⟩,f1,f2,f3,f4,f5⟩:=h;have c: ∀k,W'.cell? ⟨g,k,none⟩=W.cell? ⟨g,k,none⟩:=fun k=>hb.cell (p:=⟨g,k,none⟩) h0;have f: ∀k,W'.frozen? ⟨g,k,none⟩=W.frozen? ⟨g,k,none⟩:=fun k=>hb.frozen (p:=⟨g,k,none⟩) h0;exact ⟨Nat.lt_of_lt_of_le h0 hb.size,⟨(c 0).trans h1,(c 1).trans h2,(c 2).trans h3,(c 3).trans h4,(c 4).trans h5⟩,(f 0).trans f1,(f 1).trans f2,(f 2).trans f3,(f 3).trans f4,(f 4).trans f5⟩
end Go.Proofs.YtkncdbaoaeeoiaaGreatDoor
namespace Pso
open Go.Proofs.YtkncdbaoaeeoiaaGreatDoor (Tk)
open Prs (Flt R)
def rd {α:Type} (l:List Tk) (a:Int) (whole:St->α×St):R α:=
 if a < 0\/(l.length:Int) < a then .error (2,0)
 else if 4097 < l.length then .error (3,0)
 else if (whole (a.toNat,(0,0))).2.2.1=0 then .ok ((whole (a.toNat,(0,0))).1,(whole (a.toNat,(0,0))).2.1)
 else .error (whole (a.toNat,(0,0))).2.2
end Pso
namespace Go.Proofs.YtkncdbaoaeeoiaaGreatDoor
open Go.RowKit Tms
open Shp (Sh)
open Pso (St Ok Goes betw loop want)
open Prs (sign R Flt)
def TyOut (r:R Sh) (w:World) (e:Ending) (w':World):Prop:=
 Below w.heap.size w w'/\match r with
 | .ok y=> ∃x:ES,e= .returned (.tuple #[valS x,.int .i64 (y.2:Int),.agg #[.int .i64 0,.int .i64 0]])/\x.Is w'/\w.heap.size<=x.lo/\x.t=y.1
 | .error f=>e= .returned (.tuple #[.agg #[.int .i64 0,.string ⟨#[]⟩,.string ⟨#[]⟩,.slice none 0 0,.slice none 0 0],.int .i64 0,.agg #[.int .i64 f.1,.int .i64 f.2]])
def TyFn (fn:Nat) (whole:List Tk->St->Sh×St):Prop:= ∀(bp:Nat) (A:Option Addr) (c:Nat) (l:List Tk),l.length<=5000->(∀b∈l,b.t.text.length<=1000000)-> ∀(σ:St),Ok l σ-> ∀(w:World),PAt w bp A c l σ->
 Calls Tryz.prog fn #[.pointer (some ⟨bp,0,none⟩)] w (TyIs bp A c l (whole l σ) w)
def bW (w:World):World:=(aW w).alloc (.cells Yb 43)
theorem Zd1 (w:World):Z1s (w.alloc (.cells Yb 43)) w.heap.size:=by
 refine ⟨by simp,⟨?_, ?_, ?_, ?_, ?_⟩, ?_, ?_, ?_, ?_, ?_⟩ <;> simp[go_sem]
theorem ZaB (w:World):Z1s (bW w) (w.heap.size+1+1):=by
 have h:=Zd1 (aW w);rw[show (aW w).heap.size=w.heap.size+1+1 by simp[aW]] at h;exact h
theorem Z0U {w V E:World} (hB:Below w.heap.size w V) (hu:UpT [w.heap.size,w.heap.size+1] V E):Below w.heap.size w E:=
 ((Z05 (F:= [w.heap.size,w.heap.size+1]) hB).trans hu).low (by simp)
theorem Z8B {w V E:World} {x:ES} (hx:x.Is V) (hlo:w.heap.size+1+1<=x.lo) (hu:UpT [w.heap.size,w.heap.size+1] V E):x.Is E:=
 New.up hx hu (fun b hb=>by simp at hb; omega)
section
variable {F : List Nat} {W W' : World} {g : Nat}
include F W W' g
theorem Z1s.upT (h:Z1s W g) (hu:UpT F W W') (hF:g∉F):Z1s W' g:=by
 obtain ⟨h0,⟨h1,h2,h3,h4,h5⟩,f1,f2,f3,f4,f5⟩:=h;have hs:=hu.same h0 hF;exact ⟨Nat.lt_of_lt_of_le h0 hu.size,⟨(hs.1 _).trans h1,(hs.1 _).trans h2,(hs.1 _).trans h3,(hs.1 _).trans h4,(hs.1 _).trans h5⟩,(hs.2 _).trans f1,(hs.2 _).trans f2,(hs.2 _).trans f3,(hs.2 _).trans f4,(hs.2 _).trans f5⟩
theorem Box2.upT {a b:Int} (h:Box2 W g a b) (hu:UpT F W W') (hF:g∉F):Box2 W' g a b:=by
 obtain ⟨h0,h1,h2,f1,f2⟩:=h;have hs:=hu.same h0 hF;exact ⟨Nat.lt_of_lt_of_le h0 hu.size,(hs.1 _).trans h1,(hs.1 _).trans h2,(hs.2 _).trans f1,(hs.2 _).trans f2⟩
end
theorem Z6C (A:Option Addr) (c:Nat) (l:List Tk) (at_:Int) (hx: ∀b∈l,b.t.text.length<=1000000) (ha: -9223372036854775808<=at_/\at_<=9223372036854775807) (hl:l.length<=1000000000) (fn:Nat) (hen: ∀args W,(callFunc fn args).run Tryz.prog W= .ok (.enter fn args) W) (whole:List Tk->St->Sh×St) (hT:TyFn fn whole) (w:World) (h:Tks w w.heap.size A l) (hG:Gl w):
 Calls Tryz.prog 38 #[.slice A l.length c,.int .i64 at_,.func (.func fn) #[] #[]] w (TyOut (Pso.rd l at_ (whole l)) w):=by
 have HT:=Y1 hT;have HB:=Y1 (Z0V w);have HZ:=Y1 (Z57 w);have HX:=Y1 (Z69 w);have HK:=Y1 (h.on (Z0V w));have HG:=Y1 (hG.next (Z0V w));by_cases h1:at_ < 0
 {have HR:Hid (Pso.rd l at_ (whole l)= .error (2,0)):=Y1 (by unfold Pso.rd; rw[if_pos (Or.inl h1)]);rw[HR.out];have e1:decide (at_ < 0)=true:=by simpa using h1
  clear h h1 hT hx;go_enter Tryz.func38,Tryz.ntmps38
  go_wp2_with fail
  refine bodyPost_ret (v:= .tuple #[.agg #[.int .i64 0,.string ⟨#[]⟩,.string ⟨#[]⟩,.slice none 0 0,.slice none 0 0],.int .i64 0,.agg #[.int .i64 2,.int .i64 0]]) (by simp[results,Tryz.results38,go_sem]) rfl ?_;exact ⟨Z03 (Z03 (Z01 _ _) _) _,rfl⟩}
 {have e1:decide (at_ < 0)=false:=by simpa using h1
  obtain ⟨i,hi⟩: ∃i:Nat,at_=(i:Int):=⟨at_.toNat,by omega⟩;subst hi;by_cases h2:l.length < i
  {have HR:Hid (Pso.rd l (i:Int) (whole l)= .error (2,0)):=Y1 (by unfold Pso.rd; rw[if_pos (Or.inr (by omega))]);rw[HR.out];have e2:decide (l.length < i)=true:=by simpa using h2
   clear h h1 hT hx;go_enter Tryz.func38,Tryz.ntmps38
   go_wp2_with fail
   refine bodyPost_ret (v:= .tuple #[.agg #[.int .i64 0,.string ⟨#[]⟩,.string ⟨#[]⟩,.slice none 0 0,.slice none 0 0],.int .i64 0,.agg #[.int .i64 2,.int .i64 0]]) (by simp[results,Tryz.results38,go_sem]) rfl ?_;exact ⟨Z03 (Z03 (Z01 _ _) _) _,rfl⟩}
  {have e2:decide (l.length < i)=false:=by simpa using h2
   by_cases h3:4097 < l.length
   {have HR:Hid (Pso.rd l (i:Int) (whole l)= .error (3,0)):=Y1 (by unfold Pso.rd; rw[if_neg (by omega),if_pos h3]);rw[HR.out];have e3:decide ((4097:Int) < (l.length:Int))=true:=by simp; omega
    clear h h1 hT hx;go_enter Tryz.func38,Tryz.ntmps38
    go_wp2_with fail
    refine bodyPost_ret (v:= .tuple #[.agg #[.int .i64 0,.string ⟨#[]⟩,.string ⟨#[]⟩,.slice none 0 0,.slice none 0 0],.int .i64 0,.agg #[.int .i64 3,.int .i64 0]]) (by simp[results,Tryz.results38,go_sem]) rfl ?_;exact ⟨Z03 (Z03 (Z01 _ _) _) _,rfl⟩}
   {have e3:decide ((4097:Int) < (l.length:Int))=false:=by simp; omega
    have HR:Hid (Pso.rd l (i:Int) (whole l)=if (whole l (i,(0,0))).2.2.1=0 then .ok ((whole l (i,(0,0))).1,(whole l (i,(0,0))).2.1) else .error (whole l (i,(0,0))).2.2):=Y1 (by unfold Pso.rd; rw[if_neg (by omega),if_neg h3]; rfl);rw[HR.out];have hO:Ok l (i,(0,0)):=⟨by show i<=l.length; omega,fun h=>absurd rfl h⟩;have HP:=Y1 (show PAt ((bW w).alloc (.cells #[.slice A l.length c,.int .i64 (i:Int),.int .i64 0,.int .i64 0] 81)) (w.heap.size+1+1+1) A c l (i,(0,0)) from ?_);have HC:=Y1 (fun W h=>hT (w.heap.size+1+1+1) A c l (by omega) hx (i,(0,0)) hO W h);have HB3:=Y1 (show Below w.heap.size w ((bW w).alloc (.cells #[.slice A l.length c,.int .i64 (i:Int),.int .i64 0,.int .i64 0] 81)) from Z03 (Z03 (Z0V w) _) _);have HZ3:=Y1 (show Z1s ((bW w).alloc (.cells #[.slice A l.length c,.int .i64 (i:Int),.int .i64 0,.int .i64 0] 81)) w.heap.size/\Box2 ((bW w).alloc (.cells #[.slice A l.length c,.int .i64 (i:Int),.int .i64 0,.int .i64 0] 81)) (w.heap.size+1) 0 0/\Z1s ((bW w).alloc (.cells #[.slice A l.length c,.int .i64 (i:Int),.int .i64 0,.int .i64 0] 81)) (w.heap.size+1+1) from ⟨(HZ.out.next (Z01 _ _)).next (Z01 _ _),(HX.out.next (Z01 _ _)).next (Z01 _ _),Z1s.next (ZaB w) (Z01 _ _)⟩);clear h h1 h2 h3 hT hx HR HT;obtain ⟨y,hy⟩: ∃y,y=whole l (i,(0,0)):=⟨_,rfl⟩;rw[<-hy] at HC ⊢;clear hy;obtain ⟨ys,yj,ye,ya⟩:=y;obtain ⟨r,hr⟩: ∃r:R Sh,r=if ye=0 then .ok (ys,yj) else .error (ye,ya):=⟨_,rfl⟩;have HRR:=Y1 hr;dsimp only at HC ⊢;rw[<-hr];clear hr;go_enter Tryz.func38,Tryz.ntmps38
    go_wp2_with fail
    change Calls _ _ _ ((bW w).alloc (.cells #[.slice A l.length c,.int .i64 (i:Int),.int .i64 0,.int .i64 0] 81)) _;generalize (bW w).alloc (.cells #[.slice A l.length c,.int .i64 (i:Int),.int .i64 0,.int .i64 0] 81)=W3 at HP HB3 HZ3 ⊢;refine (HC.out W3 HP.out).mono ?_;rintro e W4 ⟨x,rfl,hp4,hu4,hx4,hlo4,hxt4⟩;simp only[valS];have hbl:=Z01 W4 (.cells (Y8 x.t x.q) 43);have hp5:=hp4.below hbl;have hbp:w.heap.size+1+1+1 < W3.heap.size:=HP.out.lt;have HB5:=Y1 (show Below w.heap.size w (W4.alloc (.cells (Y8 x.t x.q) 43)) from Z00 (((Z05 (F:= [w.heap.size+1+1+1]) HB3.out).trans hu4).low (by intro b hb; simp at hb; omega)) hbl);have HX5:=Y1 (show x.Is (W4.alloc (.cells (Y8 x.t x.q) 43)) from New.below hx4 hbl);have HL5:Hid (w.heap.size+1+1<=x.lo):=Y1 (by omega);have HT5:=Y1 hxt4;obtain ⟨z0,⟨z1,z2,z3,z4,z5⟩,zf1,zf2,zf3,zf4,zf5⟩:=(HZ3.out.1.upT hu4 (by intro hb; simp at hb; omega)).next hbl;obtain ⟨x0,x1,x2,xf1,xf2⟩:=(HZ3.out.2.1.upT hu4 (by intro hb; simp at hb)).next hbl;obtain ⟨n0,⟨n1,n2,n3,n4,n5⟩,nf1,nf2,nf3,nf4,nf5⟩:=(HZ3.out.2.2.upT hu4 (by simp)).next hbl;obtain ⟨c0,c1,c2,c3,c4,cf,cl⟩:=Z0t W4 (.int .i64 x.t.kind) (.string ⟨x.t.of_.toArray⟩) (.string ⟨x.t.name.toArray⟩) (.slice x.q.A x.t.names.length x.q.c) (.slice x.q.P x.t.parts.length x.q.d) 43;have p1:=hp5.c1;have p2:=hp5.c2;have p3:=hp5.c3;dsimp only at p1 p2 p3;clear hp4 hu4 hx4 hlo4 hxt4 hp5 hbl HP HB3 HZ3 HC hbp HB HZ HX HK HG hO ha hen hG;by_cases hye:ye=0
    {have HR2:Hid (r= .ok (ys,yj)):=Y1 (by rw[HRR.out,if_pos hye]);have e5: (ye !=0)=false:=by simpa using hye
     clear HRR hye
     go_wp2_with fail
     go_region
     all_goals go_wp2
     all_goals refine bodyPost_ret (v:= .tuple #[valS x,.int .i64 (yj:Int),.agg #[.int .i64 0,.int .i64 0]]) (by simp[results,Tryz.results38,go_sem,valS,z0,x0,z1,z2,z3,z4,z5,x1,x2]) rfl ?_
     all_goals rw[HR2.out]
     all_goals refine ⟨Z0U HB5.out ?_,x,rfl,Z8B HX5.out HL5.out ?_,by have:=HL5.out; omega,HT5.out⟩
     all_goals repeat' (with_reducible first | refine UpT.drew ?_ | refine UpT.set ?_ _ (Or.inr ?_) _ | exact UpT.refl _ _)
     all_goals simp}
    {have HR2:Hid (r= .error (ye,ya)):=Y1 (by rw[HRR.out,if_neg hye]);have e5: (ye !=0)=true:=by simpa using hye
     clear HRR hye
     go_wp2_with fail
     go_region
     all_goals go_wp2
     all_goals refine bodyPost_ret (v:= .tuple #[.agg #[.int .i64 0,.string ⟨#[]⟩,.string ⟨#[]⟩,.slice none 0 0,.slice none 0 0],.int .i64 0,.agg #[.int .i64 ye,.int .i64 ya]]) (by simp[results,Tryz.results38,go_sem,valS,z0,x0,z1,z2,z3,z4,z5,x1,x2]) rfl ?_
     all_goals rw[HR2.out]
     all_goals refine ⟨Z0U HB5.out ?_,rfl⟩
     all_goals repeat' (with_reducible first | refine UpT.drew ?_ | refine UpT.set ?_ _ (Or.inr ?_) _ | exact UpT.refl _ _)
     all_goals simp}
    {have e: (bW w).heap.size=w.heap.size+1+1+1:=by simp[bW,aW]
     have hk:Tks (bW w) (w.heap.size+1+1+1) A l:=by rw[<-e]; exact h.on (Z03 (Z0V w) _)
     refine ⟨by simp[bW,aW], ?_, ?_, ?_, ?_,fun k=> ?_,hk.same (fun b hb=>(Z05 (F:= []) (Z01 _ _)).same (by omega) (by simp)),⟨w,by omega,Z03 (Z03 (Z0V w) _) _,hG⟩,hx⟩
     all_goals rw[<-e]
     all_goals (first | done | simp[go_sem])}}}}
end Go.Proofs.YtkncdbaoaeeoiaaGreatDoor
namespace Go.Proofs.YtkncdbaoaeeoiaaGreatDoor
section
open Go.RowKit Tms
open Shp (Sh)
open Pso (St Ok)
open Prs (R)
theorem Zd2:TyFn 39 Pso.wholeT:=fun bp A c l hl hx σ hO w h=>Z0P bp A c l hl hx σ hO w h
theorem Zbt (A:Option Addr) (c:Nat) (l:List Tk) (at_:Int) (hx: ∀b∈l,b.t.text.length<=1000000) (ha: -9223372036854775808<=at_/\at_<=9223372036854775807) (hl:l.length<=1000000000) (w:World) (h:Tks w w.heap.size A l) (hG:Gl w):
 Calls Tryz.prog 24 #[.slice A l.length c,.int .i64 at_] w (TyOut (Pso.rd l at_ (Pso.wholeT l)) w):=by
 have HB:=Y1 (Z0V w);have HZ:=Y1 (Z57 w);have HX:=Y1 (Z69 w);have HC:=Y1 (Z6C A c l at_ hx ha hl 39 (fun _ _=>rfl) Pso.wholeT Zd2 (aW w) (h.on (Z0V w)) (hG.next (Z0V w)));obtain ⟨r,hr⟩: ∃r,r=Pso.rd l at_ (Pso.wholeT l):=⟨_,rfl⟩;rw[<-hr] at HC ⊢;clear h hG hx hr;go_enter Tryz.func24,Tryz.ntmps24
 go_wp2_with fail
 change Calls _ _ _ (aW w) _;refine HC.out.mono ?_;generalize aW w=W0 at HB HZ HX ⊢;rintro e W1 ⟨hb,hm⟩;have HB1:=Y1 (Z00 HB.out hb);have hz:=HZ.out.1;have hx0:=HX.out.1;obtain ⟨z0,⟨z1,z2,z3,z4,z5⟩,zf1,zf2,zf3,zf4,zf5⟩:=HZ.out.next hb;obtain ⟨x0,x1,x2,xf1,xf2⟩:=HX.out.next hb;cases r with
 | ok y=>
  obtain ⟨x,rfl,hi,hlo,ht⟩:=hm;have HI:=Y1 hi;have HLO:Hid (w.heap.size+1+1<=x.lo):=Y1 (by omega);have HT:=Y1 ht;clear hi hlo ht hb HB HZ HX HC;simp only[valS]
  go_wp2_with fail
  all_goals refine bodyPost_ret (v:= .tuple #[valS x,.int .i64 (y.2:Int),.agg #[.int .i64 0,.int .i64 0]]) (by simp[results,Tryz.results24,go_sem,valS,z0,x0,z1,z2,z3,z4,z5,x1,x2]) rfl ?_
  all_goals refine ⟨Z0U HB1.out ?_,x,rfl,Z8B HI.out HLO.out ?_,by have:=HLO.out; omega,HT.out⟩
  all_goals repeat' (with_reducible first | refine UpT.drew ?_ | refine UpT.set ?_ _ (Or.inr ?_) _ | exact UpT.refl _ _)
  all_goals simp
 | error f=>
  obtain rfl:=hm;clear hb HB HZ HX HC
  go_wp2_with fail
  all_goals refine bodyPost_ret (v:= .tuple #[.agg #[.int .i64 0,.string ⟨#[]⟩,.string ⟨#[]⟩,.slice none 0 0,.slice none 0 0],.int .i64 0,.agg #[.int .i64 f.1,.int .i64 f.2]]) (by simp[results,Tryz.results24,go_sem,z0,x0,z1,z2,z3,z4,z5,x1,x2]) rfl ?_
  all_goals refine ⟨Z0U HB1.out ?_,rfl⟩
  all_goals repeat' (with_reducible first | refine UpT.drew ?_ | refine UpT.set ?_ _ (Or.inr ?_) _ | exact UpT.refl _ _)
  all_goals simp
end
section
open Go.RowKit
def roundLeft (b:Nat) (I Ix:List (List UInt8)->World->Prop) (xs:List (List UInt8)) (W:World):Exit->Act->World->Prop
 | .normal,_,W'=>KeepsOthers W W'/\Below (b+3) W W'/\I xs W'
 | .ret,_,W'=>KeepsOthers W W'/\Ix xs W'
 | _,_,_=>False
theorem Z1j {B:Nat} {W:World} {l:Nat} (o:Obj) (h:B<=l):Below B W (W.putObj l o):=
 ⟨rfl,rfl,rfl,by simp,fun k hk=>World.putObj_heap_other (by omega)⟩
theorem Zd3 {g:Operand} {ps:Array Tmp} {assign body:Code} {Q:Exit->Act->World->Prop} {a:Act} {w:World} (n:Nat) (hn:3<=n) (b:Nat) (s:List UInt8)
 (hg:a.eval g= .func (.func 230) #[] #[.pointer (some ⟨b+1,0,none⟩),.pointer (some ⟨b,0,none⟩),.pointer (some ⟨b+2,0,none⟩)])
 (hS:SeqAt w b s) (hs:s.length<=24) (hps:ps.size=1) (I Ix:List (List UInt8)->World->Prop)
 (hI: ∀pre A B,I pre A->Below b A B->I pre B) (hIx: ∀pre A B,Ix pre A->Below b A B->Ix pre B) (h0:I [] w) (a₁:List UInt8->Act)
 (hassign: ∀(l:Nat) (x:List UInt8) (W:World) (K:Act->World->Prop),K (a₁ x) W->
  assign.wpIn (Fence.wide.inRound l) (n - 1 - 1) Tryz.prog (Exit.then K (fun _ _ _=>False)) { tmps:=(ps.zip #[.string ⟨x.toArray⟩]).foldl (fun t (p,v)=>t.setIfInBounds p v) a.tmps,defers:= [] } W)
 (hbody: ∀(l:Nat) (pre:List (List UInt8)) (x:List UInt8) (W:World),I pre W->x.length<=24->body.wpIn (Fence.wide.inRound l) (n - 1 - 1) Tryz.prog (roundLeft b I Ix (pre++ [x]) W) (a₁ x) W)
 (hdone: ∀(D:Nat) (W:World),I (Sem.parts s) W->W.heap[D]? =some (.deferred (some []))->w.heap.size<=D->Q .normal { a with defers:= { target:= .collected D,args:=#[] }::a.defers } W)
 (hstop: ∀(D:Nat) (pre suf:List (List UInt8)) (W:World),pre++suf=Sem.parts s->Ix pre W->W.heap[D]? =some (.deferred (some []))->w.heap.size<=D->Code.ret.wpIn Fence.wide n Tryz.prog Q { a with defers:= { target:= .collected D,args:=#[] }::a.defers } W):
 (Code.rangeFunc g ps assign body).wpIn Fence.wide n Tryz.prog Q a w:=by
 refine wpIn_rangeFunc ?_;intro fn hfn;obtain ⟨rec,hrec⟩: ∃rec:LoopState->Option Code->Loop,rec=fun st pe=> { state:=st,pending:=pe,fn,tmps:=a.tmps,params:=ps,assign,body,defers:=w.heap.size }:=⟨_,rfl⟩;obtain ⟨W1,hW1⟩: ∃W1,(w.alloc (.deferred (some []))).alloc (.loop (rec .ready none))=W1:=⟨_,rfl⟩;have hb3:b+3<=w.heap.size:=hS.1;have hL1:W1.heap[w.heap.size+1]? =some (.loop (rec .ready none)):=by
  rw[<-hW1]; have:=World.alloc_heap_new (w.alloc (.deferred (some []))) (.loop (rec .ready none)); rwa [World.size_alloc] at this
 have hK1:W1.heap[w.heap.size]? =some (.deferred (some [])):=by
  rw[<-hW1]; exact (Below.heap_alloc _ _ _ (by simp)).trans (World.alloc_heap_new w _)
 have hb1:Below w.heap.size w W1:=by rw[<-hW1]; exact Z03 (Z01 _ _) _
 have hI1:I [] W1:=hI _ _ _ h0 (hb1.mono (by omega));refine ⟨w.heap.size+1,[{ target:= .collected w.heap.size,args:=#[] }],W1,{ target:= .fn (.func 230) #[.pointer (some ⟨b+1,0,none⟩),.pointer (some ⟨b,0,none⟩),.pointer (some ⟨b+2,0,none⟩)],args:=#[.func (.yield (w.heap.size+1)) #[] #[]] },W1,230,
  #[.func (.yield (w.heap.size+1)) #[] #[],.pointer (some ⟨b+1,0,none⟩),.pointer (some ⟨b,0,none⟩),.pointer (some ⟨b+2,0,none⟩)],W1, ?_, ?_,fun _ _=>trivial, ?_,fun _=>by omega, ?_⟩
 {rw[<-hW1,hrec]; exact run_enterLoop_outer _ _ _ _ _}
 {simp only[resolve,hg];simp[go_sem]}
 {have e: ∀args w,(callFunc 230 args).run Tryz.prog w= .ok (.enter 230 args) w:=enters_of Tryz.func230 (by kernel_rfl) rfl;simp[invoke,go_sem,e]}
 {refine (Zej (n - 1) (by omega) (w.heap.size+1) b s hs
   (fun pre W=>I pre W/\W.heap[w.heap.size+1]? =some (.loop (rec .ready none))/\W.heap[w.heap.size]? =some (.deferred (some [])))
   (fun pre W=>Ix pre W/\W.heap[w.heap.size+1]? =some (.loop (rec .done (some .ret)))/\W.heap[w.heap.size]? =some (.deferred (some [])))
   W1 ?_ ?_ (hS.keep (hb1.mono (by omega))) ⟨hI1,hL1,hK1⟩).mono ?_
  {-- a round
   rintro pre x W ⟨hi,hl,hk⟩ hx;have hlt:w.heap.size+1 < W.heap.size:=(Array.getElem?_eq_some_iff.1 hl).1;have hy:=run_yield (P:=Tryz.prog) (args:=#[.string ⟨x.toArray⟩]) hl (by rw[hrec]; simp[hps]);rw[hrec] at hy;refine ⟨fn,_,assign,body,hy,roundIn_of_wpIn hfn (hassign _ x W _ ⟨_,run_beginRound hl (by rw[hrec]), ?_⟩)⟩;obtain ⟨W2,hW2⟩: ∃W2,W.putObj (w.heap.size+1) (.loop { rec .ready none with state:= .busy })=W2:=⟨_,rfl⟩;have hl2:W2.heap[w.heap.size+1]? =some (.loop { rec .ready none with state:= .busy }):=by rw[<-hW2]; exact World.putObj_heap_same hlt
   have hk2:W2.heap[w.heap.size]? =some (.deferred (some [])):=by rw[<-hW2]; exact (World.putObj_heap_other (by omega)).trans hk
   have hw2:Below (b+3) W W2:=by rw[<-hW2]; exact Z1j _ (by omega)
   rw[hW2];refine wpIn_mono (hbody _ pre x _ (hI _ _ _ hi (hw2.mono (by omega))) hx) ?_;have fin: ∀(jump:Option Code) (W3:World),KeepsOthers W2 W3->
    (Instr.endRound (w.heap.size+1) jump).run Tryz.prog W3= .ok (.bool jump.isNone) (W3.putObj (w.heap.size+1) (.loop (rec (if jump.isNone then .ready else .done) jump)))/\
    (W3.putObj (w.heap.size+1) (.loop (rec (if jump.isNone then .ready else .done) jump))).heap[w.heap.size+1]? =some (.loop (rec (if jump.isNone then .ready else .done) jump))/\
    (W3.putObj (w.heap.size+1) (.loop (rec (if jump.isNone then .ready else .done) jump))).heap[w.heap.size]? =some (.deferred (some [])):=fun jump W3 hk3=>by
    have hl3:=hk3.same _ _ hl2 rfl;have:=run_endRound (P:=Tryz.prog) jump hl3;rw[hrec] at this ⊢;exact ⟨this,World.putObj_heap_same (Array.getElem?_eq_some_iff.1 hl3).1,(World.putObj_heap_other (by omega)).trans (hk3.same _ _ hk2 rfl)⟩
   rintro e a3 W3 hp;cases e with
   | normal=>
    obtain ⟨hk3,hkp3,hi3⟩:=hp;obtain ⟨hr,hl4,hk4⟩:=fin none W3 hk3;exact ⟨_,_,hr,.inl ⟨rfl,⟨hI _ _ _ hi3 (Z1j _ (by omega)),hl4,hk4⟩,(hw2.trans hkp3).trans (Z1j _ (by omega))⟩⟩
   | ret=>
    obtain ⟨hk3,hi3⟩:=hp;obtain ⟨hr,hl4,hk4⟩:=fin (some .ret) W3 hk3;exact ⟨_,_,hr,.inr ⟨rfl,hIx _ _ _ hi3 (Z1j _ (by omega)),hl4,hk4⟩⟩
   | exit id=>exact hp.elim
   | goto t=>exact hp.elim
   | panic ch=>exact hp.elim
   | outgrown=>exact hp.elim}
  {-- the iterator's own cell
   rintro pre W v ⟨hi,hl,hk⟩;have hne1:w.heap.size+1≠b:=by omega
   have hne2:w.heap.size≠b:=by omega
   exact ⟨hI _ _ _ hi ((Below.refl b W).setCell (p:=⟨b,0,none⟩) (Nat.le_refl _) _),(Below.heap_setCell W ⟨b,0,none⟩ v _ hne1).trans hl,(Below.heap_setCell W ⟨b,0,none⟩ v _ hne2).trans hk⟩}
  {-- behind the iterator
   rintro e W2 ⟨⟨v,rfl⟩,(⟨hi,hl,hk⟩ | ⟨pre,suf,hp,hi,hl,hk⟩)⟩
   {exact ⟨none,_,by have:=run_endLoop (P:=Tryz.prog) hl (by rw[hrec]; simp); rw[hrec] at this; exact this,hdone _ _ (hI _ _ _ hi (Z1j _ (by omega))) ((World.putObj_heap_other (by omega)).trans hk) (Nat.le_refl _)⟩}
   {exact ⟨some .ret,_,by have:=run_endLoop (P:=Tryz.prog) hl (by rw[hrec]; simp); rw[hrec] at this; exact this,hstop _ pre suf _ hp (hIx _ _ _ hi (Z1j _ (by omega))) ((World.putObj_heap_other (by omega)).trans hk) (Nat.le_refl _)⟩}}}
theorem Zbu (n:Nat) (h:n < 256): (0<=n/\n<=44)\/(45<=n/\n<=45)\/(46<=n/\n<=47)\/(48<=n/\n<=57)\/(58<=n/\n<=64)\/(65<=n/\n<=90)\/(91<=n/\n<=96)\/(97<=n/\n<=122)\/(123<=n/\n<=255):=by omega
theorem Zd4 (c:UInt8):Sem.okc c=((decide (97<=c.toNat)&&decide (c.toNat<=122))||(decide (65<=c.toNat)&&decide (c.toNat<=90))||decide (c.toNat=45)||(decide (48<=c.toNat)&&decide (c.toNat<=57))):=rfl
section
variable {s : ByteArray} {k : Nat} (h : k < s.size)
include s k h
theorem Z1B: (s.data.toList.take (k+1)).all Sem.okc=((s.data.toList.take k).all Sem.okc&&Sem.okc (s[k]'h)):=by
 rw[List.take_succ_eq_append_getElem (by rw[<-Lib.size_eq]; exact h),List.all_append];simp;rfl
theorem Z2l (hc:Sem.okc (s[k]'h)=false):Sem.part s.data.toList=false:=by
 have:s.data.toList.all Sem.okc=false:=by
  rw[List.all_eq_false];exact ⟨s[k]'h,by rw[show s[k]'h=s.data.toList[k]'(by rw[<-Lib.size_eq]; exact h) from rfl]; exact List.getElem_mem _,by rw[hc]; simp⟩
 unfold Sem.part;rw[this,Bool.and_false,Bool.false_and]
end
theorem Z79 (s:ByteArray) (hs:s.size<=9223372036854775807) (w:World):
 Calls Tryz.prog 148 #[.string s] w fun e w'=>e= .returned (.bool (Sem.part s.data.toList))/\w=w':=by
 go_enter Tryz.func148,Tryz.ntmps148
 go_wp2_with fail
 go_loop [3] (fun i=> ∃k:Nat,i= .int .i64 k/\k<=s.size/\Hid ((s.data.toList.take k).all Sem.okc=true)) (fun i=>s.size - (intOf i).toNat)
 case atStart=>exact ⟨0,rfl,Nat.zero_le _,Y1 rfl⟩
 case round=>
  obtain ⟨k,rfl,hk,HP⟩:=hrel;by_cases hlt:k < s.size
  {have hb:=(s[k]'hlt).toNat_lt;have ho:=Zd4 (s[k]'hlt);rcases Zbu (s[k]'hlt).toNat (by omega) with ⟨h1,h2⟩ | ⟨h1,h2⟩ | ⟨h1,h2⟩ | ⟨h1,h2⟩ | ⟨h1,h2⟩ | ⟨h1,h2⟩ | ⟨h1,h2⟩ | ⟨h1,h2⟩ | ⟨h1,h2⟩
   {have HN:Hid (Sem.part s.data.toList=false):=Y1 (Z2l hlt (by rw[ho]; simp; omega));clear ho;have h3: (((s[k]'hlt).toNat:Int) !=45)=true:=by rw[bne_iff_ne]; omega
    go_wp2;go_ret;exact ⟨by rw[HN.out]; rfl,rfl⟩}
   {have HN:Hid ((s.data.toList.take (k+1)).all Sem.okc=true):=Y1 (by rw[Z1B hlt,HP.out,ho]; simp; omega);clear ho;have h3: (((s[k]'hlt).toNat:Int) !=45)=false:=by rw[bne_eq_false_iff_eq]; omega
    go_wp2
    go_round
    case rel=>exact ⟨k+1,by go_num,by omega,HN⟩
    case measure=>simp[intOf]; omega}
   {have HN:Hid (Sem.part s.data.toList=false):=Y1 (Z2l hlt (by rw[ho]; simp; omega));clear ho;have h3: (((s[k]'hlt).toNat:Int) !=45)=true:=by rw[bne_iff_ne]; omega
    go_wp2;go_ret;exact ⟨by rw[HN.out]; rfl,rfl⟩}
   {have HN:Hid ((s.data.toList.take (k+1)).all Sem.okc=true):=Y1 (by rw[Z1B hlt,HP.out,ho]; simp; omega);clear ho;have h3: (((s[k]'hlt).toNat:Int) !=45)=true:=by rw[bne_iff_ne]; omega
    go_wp2
    go_round
    case rel=>exact ⟨k+1,by go_num,by omega,HN⟩
    case measure=>simp[intOf]; omega}
   {have HN:Hid (Sem.part s.data.toList=false):=Y1 (Z2l hlt (by rw[ho]; simp; omega));clear ho;have h3: (((s[k]'hlt).toNat:Int) !=45)=true:=by rw[bne_iff_ne]; omega
    go_wp2;go_ret;exact ⟨by rw[HN.out]; rfl,rfl⟩}
   {have HN:Hid ((s.data.toList.take (k+1)).all Sem.okc=true):=Y1 (by rw[Z1B hlt,HP.out,ho]; simp; omega);clear ho;have h3: (((s[k]'hlt).toNat:Int) !=45)=true:=by rw[bne_iff_ne]; omega
    go_wp2
    go_round
    case rel=>exact ⟨k+1,by go_num,by omega,HN⟩
    case measure=>simp[intOf]; omega}
   {have HN:Hid (Sem.part s.data.toList=false):=Y1 (Z2l hlt (by rw[ho]; simp; omega));clear ho;have h3: (((s[k]'hlt).toNat:Int) !=45)=true:=by rw[bne_iff_ne]; omega
    have h4:decide (((s[k]'hlt).toNat:Int)<=90)=false:=by rw[decide_eq_false_iff_not]; omega
    go_wp2;go_ret;exact ⟨by rw[HN.out]; rfl,rfl⟩}
   {have HN:Hid ((s.data.toList.take (k+1)).all Sem.okc=true):=Y1 (by rw[Z1B hlt,HP.out,ho]; simp; omega);clear ho;have h3: (((s[k]'hlt).toNat:Int) !=45)=true:=by rw[bne_iff_ne]; omega
    go_wp2
    go_round
    case rel=>exact ⟨k+1,by go_num,by omega,HN⟩
    case measure=>simp[intOf]; omega}
   {have HN:Hid (Sem.part s.data.toList=false):=Y1 (Z2l hlt (by rw[ho]; simp; omega));clear ho;have h3: (((s[k]'hlt).toNat:Int) !=45)=true:=by rw[bne_iff_ne]; omega
    have h4:decide (((s[k]'hlt).toNat:Int)<=90)=false:=by rw[decide_eq_false_iff_not]; omega
    have h5:decide (((s[k]'hlt).toNat:Int)<=122)=false:=by rw[decide_eq_false_iff_not]; omega
    go_wp2;go_ret;exact ⟨by rw[HN.out]; rfl,rfl⟩}}
  {have hall:s.data.toList.all Sem.okc=true:=by have:=HP.out; rwa [List.take_of_length_le (by rw[<-Lib.size_eq]; omega)] at this
   have he0:s.toList.isEmpty=s.data.toList.isEmpty:=by rw[Z16]
   have HS:Hid (Sem.part s.data.toList=(!s.data.toList.isEmpty&&(!Sem.digits s.data.toList||s.data.toList== [48]||s.data.toList.head? !=some 48))):=Y1 (by unfold Sem.part; rw[hall,Bool.and_true]);clear hall;by_cases hz:s.data.toList= []
   {have he:s.toList.isEmpty=true:=by rw[he0,hz]; rfl
    have HN:Hid (Sem.part s.data.toList=false):=Y1 (by rw[HS.out,hz]; rfl);clear he0 hz;go_wp2;go_ret;exact ⟨by rw[HN.out]; rfl,rfl⟩}
   {have he:s.toList.isEmpty=false:=by rw[he0]; simpa using hz
    have hpos:0 < s.size:=by rw[Lib.size_eq]; exact List.length_pos_iff.2 hz
    have hhead:s.data.toList.head? =some (s[0]'hpos):=by
     rw[List.head?_eq_getElem?,List.getElem?_eq_getElem (by rw[<-Lib.size_eq]; exact hpos)]; rfl
    cases hd:Sem.digits s.data.toList
    {have HN:Hid (Sem.part s.data.toList=true):=Y1 (by rw[HS.out,hd]; simpa using hz);clear he0 hz hhead
     go_wp2_with (go_at_call 174; refine (Z2u s hs _).mono ?_; rintro e w' ⟨rfl,rfl⟩)
     go_ret;exact ⟨by rw[HN.out]; rfl,rfl⟩}
    {have HD:Hid (Sem.part s.data.toList=(s.data.toList== [48]||s.data.toList.head? !=some 48)):=Y1 (by
      rw[HS.out,hd];have:s.data.toList.isEmpty=false:=by simpa using hz
      rw[this]; rfl)
     rw[hhead] at HD;cases h48: (s.toList== [48])
     {have h49: (s.data.toList== [48])=false:=by rw[<-Z16]; exact h48
      by_cases hh: (s[0]'hpos).toNat=48
      {have HN:Hid (Sem.part s.data.toList=false):=Y1 (by
        have:s[0]'hpos=48:=UInt8.toNat_inj.1 hh;rw[HD.out,h49,this]; rfl)
       have h50: (((s[0]'hpos).toNat:Int) !=48)=false:=by rw[bne_eq_false_iff_eq]; omega
       clear he0 hz hhead h49 hh
       go_wp2_with (go_at_call 174; refine (Z2u s hs _).mono ?_; rintro e w' ⟨rfl,rfl⟩)
       go_ret;exact ⟨by rw[HN.out]; rfl,rfl⟩}
      {have HN:Hid (Sem.part s.data.toList=true):=Y1 (by
        have:s[0]'hpos≠48:=fun h=>hh (by rw[h]; rfl);rw[HD.out,h49]; simpa using this)
       have h50: (((s[0]'hpos).toNat:Int) !=48)=true:=by rw[bne_iff_ne]; omega
       clear he0 hz hhead h49 hh
       go_wp2_with (go_at_call 174; refine (Z2u s hs _).mono ?_; rintro e w' ⟨rfl,rfl⟩)
       go_ret;exact ⟨by rw[HN.out]; rfl,rfl⟩}}
     {have HN:Hid (Sem.part s.data.toList=true):=Y1 (by
       have h49: (s.data.toList== [48])=true:=by rw[<-Z16]; exact h48
       rw[HD.out,h49]; rfl)
      clear he0 hz hhead
      go_wp2_with (go_at_call 174; refine (Z2u s hs _).mono ?_; rintro e w' ⟨rfl,rfl⟩)
      go_ret;exact ⟨by rw[HN.out]; rfl,rfl⟩}}}}
end
end Go.Proofs.YtkncdbaoaeeoiaaGreatDoor
