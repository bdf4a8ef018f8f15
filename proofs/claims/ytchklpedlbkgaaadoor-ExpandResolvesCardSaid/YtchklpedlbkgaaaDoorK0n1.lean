/- What the proofs of ExpandResolves want, part 1. -/
import Derived.WalkSpells
import Derived.Deep.RegionLaw
import Derived.Test.YtchklpedlbkgaaaDoorK0n0
set_option linter.unusedVariables false
set_option linter.unusedSimpArgs false
set_option linter.unusedSectionVars false
set_option maxRecDepth 100000
set_option maxHeartbeats 16000000
namespace Go.Proofs.YtchklpedlbkgaaaDoor
section
open Go.RowKit Shp
structure PaR (W:World) (b:Nat) (ps:List Sh) (qs:Nat->Ptr):Prop where
 lt:b < W.heap.size
 at_: ∀i (h:i < ps.length),Sh5 W b (i * 5) (ps[i]'h) (qs i)
 fz: ∀k,W.frozen? ⟨b,k,none⟩=false
def Z0p (W W':World) (b:Nat):Prop:=(∀k,W'.cell? ⟨b,k,none⟩=W.cell? ⟨b,k,none⟩)/\ ∀k,W'.frozen? ⟨b,k,none⟩=W.frozen? ⟨b,k,none⟩
theorem PaR.of {W W':World} {b:Nat} {ps:List Sh} {qs:Nat->Ptr} (h:PaR W b ps qs) (hs:Z0p W W' b) (hz:W.heap.size<=W'.heap.size):PaR W' b ps qs:=
 ⟨Nat.lt_of_lt_of_le h.lt hz,fun i hi=>(h.at_ i hi).of hs.1,fun k=>(hs.2 k).trans (h.fz k)⟩
theorem TxR.of {W W':World} {b:Nat} {ts:List (List UInt8)} (h:TxR W b ts) (hs:Z0p W W' b) (hz:W.heap.size<=W'.heap.size):TxR W' b ts:=
 ⟨Nat.lt_of_lt_of_le h.lt hz,fun i hi=>(hs.1 i).trans (h.at_ i hi),fun k=>(hs.2 k).trans (h.fz k)⟩
inductive Own (W:World):Ptr->Sh->List Nat->Prop
 | mk (q:Ptr) (t:Sh) (F FN FP:List Nat) (qs:Nat->Ptr) (Fs:Nat->List Nat) (hs:Small t q)
  (hn:t.names.length=0/\FN= []\/ ∃b,q.A=some ⟨b,0,none⟩/\FN= [b]/\TxR W b t.names)
  (hp:t.parts.length=0/\FP= []\/ ∃b,q.P=some ⟨b,0,none⟩/\FP= [b]/\PaR W b t.parts qs)
  (hr: ∀i (h:i < t.parts.length),Own W (qs i) (t.parts[i]'h) (Fs i)) (hF:F=FN++FP++(List.range t.parts.length).flatMap Fs):Own W q t F
section
variable {W : World} {q : Ptr} {t : Sh} {F : List Nat} (h : Own W q t F)
include W q t F h
theorem Own.small:Small t q:=by cases h; assumption
theorem Own.inv: ∃(FN FP:List Nat) (qs:Nat->Ptr) (Fs:Nat->List Nat),
 (t.names.length=0/\FN= []\/ ∃b,q.A=some ⟨b,0,none⟩/\FN= [b]/\TxR W b t.names)/\
 (t.parts.length=0/\FP= []\/ ∃b,q.P=some ⟨b,0,none⟩/\FP= [b]/\PaR W b t.parts qs)/\
 (∀i (h:i < t.parts.length),Own W (qs i) (t.parts[i]'h) (Fs i))/\F=FN++FP++(List.range t.parts.length).flatMap Fs:=by
 cases h with
 | mk _ _ _ FN FP qs Fs hs hn hp hr hF=>exact ⟨FN,FP,qs,Fs,hn,hp,hr,hF⟩
end
theorem Own.of {W W':World} {q:Ptr} {t:Sh} {F:List Nat} (h:Own W q t F) (hc: ∀b∈F,Z0p W W' b) (hz:W.heap.size<=W'.heap.size):Own W' q t F:=by
 induction h with
 | mk q t F FN FP qs Fs hs hn hp hr hF ih=>
  subst hF;refine .mk q t _ FN FP qs Fs hs ?_ ?_ ?_ rfl
  {rcases hn with h | ⟨b,h1,rfl,h3⟩
   {exact Or.inl h}
   {exact Or.inr ⟨b,h1,rfl,h3.of (hc b (by simp)) hz⟩}}
  {rcases hp with h | ⟨b,h1,rfl,h3⟩
   {exact Or.inl h}
   {exact Or.inr ⟨b,h1,rfl,h3.of (hc b (by simp)) hz⟩}}
  {intro i hi;refine ih i hi (fun b hb=>hc b ?_);refine List.mem_append_right _ (List.mem_flatMap.2 ⟨i,List.mem_range.2 hi,hb⟩)}
theorem Own.at_ {W:World} {q:Ptr} {t:Sh} {F:List Nat} {B:Nat} (h:Own W q t F) (hB: ∀b∈F,b < B):ShAt W B q t:=by
 induction h with
 | mk q t F FN FP qs Fs hs hn hp hr hF ih=>
  subst hF;have hS:Strs W B q.A (strs t.names):=by
   rcases hn with ⟨h,_⟩ | ⟨b,h1,rfl,h3⟩
   {exact Or.inl (by rw[Z1h]; exact h)}
   {refine Or.inr ⟨b,0,h1,hB b (by simp),fun i hi=> ?_⟩;rw[Z1h] at hi;rw[Nat.zero_add,h3.at_ i hi];simp[strs]}
  have hrr: ∀i (h:i < t.parts.length),ShAt W B (qs i) (t.parts[i]'h):=fun i hi=>ih i hi (fun b hb=>hB b (List.mem_append_right _ (List.mem_flatMap.2 ⟨i,List.mem_range.2 hi,hb⟩)));rcases hp with ⟨h,_⟩ | ⟨b,h1,rfl,h3⟩
  {exact .mk q t 0 0 qs hs hS (Or.inl h) (fun i hi=>absurd hi (by omega)) hrr}
  {exact .mk q t b 0 qs hs hS (Or.inr ⟨h1,hB b (by simp)⟩) (fun i hi=>by rw[Nat.zero_add]; exact h3.at_ i hi) hrr}
theorem Own.lt {W:World} {q:Ptr} {t:Sh} {F:List Nat} (h:Own W q t F): ∀b∈F,b < W.heap.size:=by
 induction h with
 | mk q t F FN FP qs Fs hs hn hp hr hF ih=>
  subst hF;intro b hb;rcases List.mem_append.1 hb with hb | hb
  {rcases List.mem_append.1 hb with hb | hb
   {rcases hn with ⟨_,rfl⟩ | ⟨c,_,rfl,h3⟩
    {cases hb}
    {rw[List.mem_singleton] at hb; subst hb; exact h3.lt}}
   {rcases hp with ⟨_,rfl⟩ | ⟨c,_,rfl,h3⟩
    {cases hb}
    {rw[List.mem_singleton] at hb; subst hb; exact h3.lt}}}
  {obtain ⟨i,hi,hb⟩:=List.mem_flatMap.1 hb;exact ih i (List.mem_range.1 hi) b hb}
def Node (W:World) (g i:Nat) (t:Sh) (F:List Nat):Prop:= ∃q,Sh5 W g (i * 5) t q/\Own W q t F
structure Nd where
 g:Nat
 i:Nat
 t:Sh
 q:Ptr
def Ready (r:Nat) (T:Sh) (L:List Nd) (D:List Nat) (W:World):Prop:=
 ∀(W':World) (Fs:Nat->List Nat),W.heap.size<=W'.heap.size->
  (∀b∈D,∀k,(∀n∈L,¬(n.g=b/\(k=n.i * 5+3\/k=n.i * 5+4)))->W'.cell? ⟨b,k,none⟩=W.cell? ⟨b,k,none⟩)->
  (∀b∈D,∀k,W'.frozen? ⟨b,k,none⟩=W.frozen? ⟨b,k,none⟩)->
  (∀j (h:j < L.length),Node W' (L[j]'h).g (L[j]'h).i (L[j]'h).t (Fs j))->
  (∀j,j < L.length-> ∀b∈Fs j,b∉D)->((List.range L.length).flatMap Fs).Nodup->
  ∃F,Node W' r 0 T F/\F.Nodup/\ ∀b∈F,b∈D\/ ∃j,j < L.length/\b∈Fs j
theorem Z6E (r:Nat) (T:Sh) (q:Ptr) (D:List Nat) (W:World):Ready r T [⟨r,0,T,q⟩] D W:=by
 intro W' Fs _ _ _ hN _ hnd;refine ⟨Fs 0,hN 0 (by simp),by simpa using hnd,fun b hb=>Or.inr ⟨0,by simp,hb⟩⟩
theorem Z81 {r:Nat} {T:Sh} {D:List Nat} {W:World} (h:Ready r T [] D W): ∃F,Node W r 0 T F/\F.Nodup/\ ∀b∈F,b∈D:=by
 obtain ⟨F,h1,h2,h3⟩:=h W (fun _=> []) (Nat.le_refl _) (fun _ _ _ _=>rfl) (fun _ _ _=>rfl) (fun j hj=>absurd hj (by simp)) (fun j hj=>absurd hj (by simp)) (by simp);refine ⟨F,h1,h2,fun b hb=> ?_⟩;rcases h3 b hb with h | ⟨j,hj,_⟩
 {exact h}
 {exact absurd hj (by simp)}
theorem Ready.of {r:Nat} {T:Sh} {L:List Nd} {D:List Nat} {W W1:World} (h:Ready r T L D W) (hs: ∀b∈D,Z0p W W1 b) (hz:W.heap.size<=W1.heap.size):Ready r T L D W1:=
 fun W' Fs hz' hc hf hN hd hn=>h W' Fs (Nat.le_trans hz hz') (fun b hb k hx=>(hc b hb k hx).trans ((hs b hb).1 k)) (fun b hb k=>(hf b hb k).trans ((hs b hb).2 k)) hN hd hn
def kids (pb:Nat) (ps:List Sh) (qs:Nat->Ptr):List Nd:=ps.mapIdx fun i p=>⟨pb,i,p,qs i⟩
section
variable (pb : Nat) (ps : List Sh) (qs : Nat -> Ptr)
include pb ps qs
theorem Z0P: (kids pb ps qs).length=ps.length:=by simp[kids]
theorem Z1F (i:Nat) (h:i < (kids pb ps qs).length): (kids pb ps qs)[i]'h=⟨pb,i,ps[i]'(by rwa [Z0P] at h),qs i⟩:=by simp[kids]
end
theorem Z5F {pb:Nat} {ps:List Sh} {qs:Nat->Ptr} {n:Nd} (h:n∈kids pb ps qs):n.g=pb:=by
 obtain ⟨i,hi,rfl⟩:=List.getElem_of_mem h;rw[Z1F]
theorem Z5k {n m:Nat} (Fs:Nat->List Nat): (List.range (n+m)).flatMap Fs=(List.range n).flatMap Fs++(List.range m).flatMap (fun i=>Fs (n+i)):=by
 rw[List.range_add,List.flatMap_append,List.flatMap_map]
theorem Ready.step {r:Nat} {T:Sh} {L:List Nd} {a:Nd} {D DN DP:List Nat} {W W1:World} {q1:Ptr} {pb:Nat} {qs:Nat->Ptr} (hR:Ready r T (L++ [a]) D W) (hD: ∀b∈D,b < W.heap.size)
 (hag:a.g∈D) (hLg: ∀n∈L,n.g∈D) (hne: ∀n∈L,n.g=a.g->n.i≠a.i) (hsz:W.heap.size<=W1.heap.size) (ha:Sh5 W1 a.g (a.i * 5) a.t q1) (hs:Small a.t q1)
 (hk: ∀b∈D,∀k,¬(a.g=b/\(k=a.i * 5+3\/k=a.i * 5+4))->W1.cell? ⟨b,k,none⟩=W.cell? ⟨b,k,none⟩) (hf: ∀b∈D,∀k,W1.frozen? ⟨b,k,none⟩=W.frozen? ⟨b,k,none⟩)
 (hn:a.t.names.length=0/\DN= []\/ ∃b,q1.A=some ⟨b,0,none⟩/\DN= [b]/\W.heap.size<=b/\TxR W1 b a.t.names)
 (hp:a.t.parts.length=0/\DP= []\/q1.P=some ⟨pb,0,none⟩/\DP= [pb]/\W.heap.size<=pb/\pb∉DN/\PaR W1 pb a.t.parts qs):
 Ready r T (L++kids pb a.t.parts qs) (D++DN++DP) W1:=by
 intro W' Fs hsz' hcell hfr hN hdis hnd;have hlen: (L++kids pb a.t.parts qs).length=L.length+a.t.parts.length:=by rw[List.length_append,Z0P]
 have hpg: ∀n∈kids pb a.t.parts qs,a.t.parts.length≠0:=fun n hn h0=>by
  have:kids pb a.t.parts qs= []:=List.eq_nil_of_length_eq_zero (by rw[Z0P]; exact h0);rw[this] at hn; cases hn
 have hkid: ∀n∈kids pb a.t.parts qs,n.g=pb/\W.heap.size<=pb/\pb∉DN:=fun n hnm=>by
  rcases hp with ⟨h0,_⟩ | ⟨_,_,h3,h4,_⟩
  {exact absurd h0 (hpg n hnm)}
  {exact ⟨Z5F hnm,h3,h4⟩}
 have hDNb: ∀b∈DN,W.heap.size<=b:=fun b hb=>by
  rcases hn with ⟨_,rfl⟩ | ⟨c,_,rfl,h3,_⟩
  {cases hb}
  {rw[List.mem_singleton] at hb; subst hb; exact h3}
 have hDPb: ∀b∈DP,W.heap.size<=b/\b∉DN:=fun b hb=>by
  rcases hp with ⟨_,rfl⟩ | ⟨_,rfl,h3,h4,_⟩
  {cases hb}
  {rw[List.mem_singleton] at hb; subst hb; exact ⟨h3,h4⟩}
 have hDNn:DN.Nodup:=by
  rcases hn with ⟨_,rfl⟩ | ⟨c,_,rfl,_⟩ <;> simp
 have hDPn:DP.Nodup:=by
  rcases hp with ⟨_,rfl⟩ | ⟨_,rfl,_⟩ <;> simp
 let Fk:Nat->List Nat:=fun i=>Fs (L.length+i)
 let Fa:List Nat:=DN++DP++(List.range a.t.parts.length).flatMap Fk
 let Fs':Nat->List Nat:=fun j=>if j < L.length then Fs j else Fa
 rw[hlen] at hdis hnd;rw[Z5k] at hnd;have hnd':=List.nodup_append.1 hnd;have hdisD: ∀j,j < L.length+a.t.parts.length-> ∀b∈Fs j,b∉D/\b∉DN/\b∉DP:=fun j hj b hb=>by
  have:=hdis j hj b hb;simp only[List.mem_append,not_or] at this;exact ⟨this.1.1,this.1.2,this.2⟩
 -- the place that was copied
 have hkn: ∀i (h:i < a.t.parts.length),Node W' pb i (a.t.parts[i]'h) (Fk i):=fun i hi=>by
  have h1:=hN (L.length+i) (by rw[hlen]; omega);have e: (L++kids pb a.t.parts qs)[L.length+i]'(by rw[hlen]; omega)=⟨pb,i,a.t.parts[i]'hi,qs i⟩:=by
   rw[List.getElem_append_right (by omega)];simp only[Nat.add_sub_cancel_left];exact Z1F _ _ _ _ _
  rw[e] at h1;exact h1
 have hqk: ∃qk:Nat->Ptr,∀i (h:i < a.t.parts.length),Sh5 W' pb (i * 5) (a.t.parts[i]'h) (qk i)/\Own W' (qk i) (a.t.parts[i]'h) (Fk i):=by
  refine ⟨fun i=>if h:i < a.t.parts.length then (hkn i h).choose else ⟨none,0,none,0⟩,fun i h=> ?_⟩;simp only[dif_pos h];exact (hkn i h).choose_spec
 obtain ⟨qk,hqk⟩:=hqk;have hexc: ∀b∈D,∀k,(∀n∈L,¬(n.g=b/\(k=n.i * 5+3\/k=n.i * 5+4)))->W'.cell? ⟨b,k,none⟩=W1.cell? ⟨b,k,none⟩:=fun b hb k hx=>by
  refine hcell b (by simp[hb]) k (fun n hnm=> ?_);rcases List.mem_append.1 hnm with h | h
  {exact hx n h}
  {intro ⟨h1,_⟩;have h2:=hkid n h;have:=hD b hb;omega}
 have hNa:Node W' a.g a.i a.t Fa:=by
  refine ⟨q1, ?_,.mk q1 a.t Fa DN DP qk Fk hs ?_ ?_ (fun i hi=>(hqk i hi).2) rfl⟩
  {have e: ∀c,c < 5->W'.cell? ⟨a.g,a.i * 5+c,none⟩=W1.cell? ⟨a.g,a.i * 5+c,none⟩:=fun c hc=>hexc a.g hag _ (fun n hnm ⟨h1,h2⟩=>by
    have:=hne n hnm h1;omega)
   obtain ⟨h0,h1,h2,h3,h4⟩:=ha;exact ⟨(e 0 (by omega)).trans h0,(e 1 (by omega)).trans h1,(e 2 (by omega)).trans h2,(e 3 (by omega)).trans h3,(e 4 (by omega)).trans h4⟩}
  {rcases hn with h | ⟨b,h1,rfl,h3,h4⟩
   {exact Or.inl h}
   {refine Or.inr ⟨b,h1,rfl,h4.of ⟨fun k=>hcell b (by simp) k (fun n hnm=> ?_),fun k=>hfr b (by simp) k⟩ hsz'⟩;rcases List.mem_append.1 hnm with h | h
    {intro ⟨h5,_⟩;have:=hD _ (hLg n h);omega}
    {intro ⟨h5,_⟩;have h6:=hkid n h;rw[List.mem_singleton] at h6;omega}}}
  {rcases hp with h | ⟨h1,rfl,h3,h4,h5⟩
   {exact Or.inl h}
   {exact Or.inr ⟨pb,h1,rfl,Nat.lt_of_lt_of_le h5.lt hsz',fun i hi=>(hqk i hi).1,fun k=>(hfr pb (by simp) k).trans (h5.fz k)⟩}}
 have hFaD: ∀b∈Fa,b∉D:=fun b hb hbD=>by
  have hlt:=hD b hbD;rcases List.mem_append.1 hb with hb | hb
  {rcases List.mem_append.1 hb with hb | hb
   {have:=hDNb b hb; omega}
   {have:=(hDPb b hb).1; omega}}
  {obtain ⟨i,hi,hb⟩:=List.mem_flatMap.1 hb;exact (hdisD (L.length+i) (by have:=List.mem_range.1 hi; omega) b hb).1 hbD}
 have hFan:Fa.Nodup:=by
  refine List.nodup_append.2 ⟨List.nodup_append.2 ⟨hDNn,hDPn,fun x hx y hy e=>(hDPb y hy).2 (e▸hx)⟩,hnd'.2.1,fun x hx y hy e=> ?_⟩;subst e;obtain ⟨i,hi,hb⟩:=List.mem_flatMap.1 hy;have h1:=hdisD (L.length+i) (by have:=List.mem_range.1 hi; omega) x hb;rcases List.mem_append.1 hx with h | h
  {exact h1.2.1 h}
  {exact h1.2.2 h}
 have hll: (L++ [a]).length=L.length+1:=by simp
 have hFs': (List.range L.length).flatMap Fs'=(List.range L.length).flatMap Fs:=by
  have: ∀(l:List Nat),(∀j∈l,j < L.length)->l.flatMap Fs'=l.flatMap Fs:=by
   intro l;induction l with
   | nil=>intro _; rfl
   | cons j l ih=>
    intro h;rw[List.flatMap_cons,List.flatMap_cons,ih (fun j hj=>h j (by simp[hj]))];simp only[Fs',if_pos (h j (by simp))]
  exact this _ (fun j hj=>List.mem_range.1 hj)
 obtain ⟨F,h1,h2,h3⟩:=hR W' Fs' (Nat.le_trans hsz hsz') (fun b hb k hx=>by
  rw[hexc b hb k (fun n hnm=>hx n (by simp[hnm]))];exact hk b hb k (hx a (by simp)))
  (fun b hb k=>(hfr b (by simp[hb]) k).trans (hf b hb k))
  (fun j hj=>by
   rw[hll] at hj;by_cases hjl:j < L.length
   {have e: (L++ [a])[j]'(by rw[hll]; omega)=L[j]'hjl:=List.getElem_append_left hjl;have h1:=hN j (by rw[hlen]; omega);have e2: (L++kids pb a.t.parts qs)[j]'(by rw[hlen]; omega)=L[j]'hjl:=List.getElem_append_left hjl;rw[e2] at h1;rw[e];simp only[Fs',if_pos hjl];exact h1}
   · have hje:j=L.length:=by omega
     subst hje;have e: (L++ [a])[L.length]'(by rw[hll]; omega)=a:=by simp
     rw[e];simp only[Fs',if_neg hjl];exact hNa)
  (fun j hj b hb=>by
   rw[hll] at hj;by_cases hjl:j < L.length
   {simp only[Fs',if_pos hjl] at hb;exact (hdisD j (by omega) b hb).1}
   · simp only[Fs',if_neg hjl] at hb
     exact hFaD b hb)
  (by
   rw[hll,List.range_succ,List.flatMap_append,hFs'];have e: [L.length].flatMap Fs'=Fa:=by simp[Fs']
   rw[e];refine List.nodup_append.2 ⟨hnd'.1,hFan,fun x hx y hy e=> ?_⟩;subst e;obtain ⟨j,hj,hxj⟩:=List.mem_flatMap.1 hx;have hd:=hdisD j (by have:=List.mem_range.1 hj; omega) x hxj;rcases List.mem_append.1 hy with hy | hy
   {rcases List.mem_append.1 hy with hy | hy
    {exact hd.2.1 hy}
    {exact hd.2.2 hy}}
   · exact hnd'.2.2 x hx x hy rfl)
 refine ⟨F,h1,h2,fun b hb=> ?_⟩;rcases h3 b hb with h | ⟨j,hj,h⟩
 {exact Or.inl (by simp[h])}
 {rw[hll] at hj;by_cases hjl:j < L.length
  {simp only[Fs',if_pos hjl] at h;exact Or.inr ⟨j,by rw[hlen]; omega,h⟩}
  {simp only[Fs',if_neg hjl] at h;rcases List.mem_append.1 h with h | h
   {rcases List.mem_append.1 h with h | h
    {exact Or.inl (by simp[h])}
    {exact Or.inl (by simp[h])}}
   {obtain ⟨i,hi,h⟩:=List.mem_flatMap.1 h;exact Or.inr ⟨L.length+i,by rw[hlen]; have:=List.mem_range.1 hi; omega,h⟩}}}
theorem Strs.cell7 {w:World} {B:Nat} {A:Option Addr} {l:List (List UInt8)} (h:Strs w B A (strs l)):l.length=0\/ ∃g off,A=some ⟨g,off,none⟩/\g < B/\ ∀i (hi:i < l.length),w.cell? ⟨g,off+i,none⟩=some (.string ⟨(l[i]'hi).toArray⟩):=by
 rcases h with h | ⟨g,off,hA,hg,hc⟩
 {exact Or.inl (by rwa [Z1h] at h)}
 {refine Or.inr ⟨g,off,hA,hg,fun i hi=> ?_⟩;rw[hc i (by rwa [Z1h])];simp[strs]}
theorem Z4V: (Tryd.prog.info? 9).map (fun i=>(i.zero,i.size,i.bytes))=some (some (.string ByteArray.empty),1,16):=by kernel_rfl
theorem Z1P: (Tryd.prog.info? 25).map (fun i=>(i.zero,i.size,i.bytes))=some (some (.agg #[.int .i64 0,.string ByteArray.empty,.string ByteArray.empty,.slice none 0 0,.slice none 0 0]),5,88):=by kernel_rfl
def Z3L (t:Sh) (q:Ptr):Nat->Value
 | 0=> .int .i64 t.kind
 | 1=> .string ⟨t.of_.toArray⟩
 | 2=> .string ⟨t.name.toArray⟩
 | 3=> .slice q.A t.names.length q.c
 | _=> .slice q.P t.parts.length q.d
def Z5x:Sh:=⟨0,[],[],[],[]⟩
def Z1S (ps:List Sh) (qs:Nat->Ptr):List Value:=(List.range (ps.length * 5)).map fun j=>Z3L (ps.getD (j / 5) Z5x) (qs (j / 5)) (j % 5)
section
variable (ps : List Sh) (qs : Nat -> Ptr)
include ps qs
theorem Z4m: (Z1S ps qs).length=ps.length * 5:=by simp[Z1S]
theorem Z4W {i c:Nat} (hi:i < ps.length) (hc:c < 5): (Z1S ps qs)[i * 5+c]? =some (Z3L (ps[i]'hi) (qs i) c):=by
 have h1:i * 5+c < ps.length * 5:=by omega
 have h2: (i * 5+c) / 5=i:=by omega
 have h3: (i * 5+c) % 5=c:=by omega
 simp[Z1S,h1,h2,h3,List.getD,List.getElem?_eq_getElem hi]
theorem Z82: ∀u∈Z1S ps qs,u.oneCell'=true:=by
 intro u hu;obtain ⟨j,_,rfl⟩:=List.mem_map.1 hu;generalize j % 5=c
 match c with
 | 0=>rfl
 | 1=>rfl
 | 2=>rfl
 | 3=>rfl
 | _+4=>rfl
end
section
variable {W : World}
include W
theorem Z9h {g o:Nat} {t:Sh} {q:Ptr} (h:Sh5 W g o t q) {c:Nat} (hc:c < 5):W.cell? ⟨g,o+c,none⟩=some (Z3L t q c):=by
 obtain ⟨h0,h1,h2,h3,h4⟩:=h
 match c,hc with
 | 0,_=>exact h0
 | 1,_=>exact h1
 | 2,_=>exact h2
 | 3,_=>exact h3
 | 4,_=>exact h4
theorem Z9i {g o:Nat} {t:Sh} {q:Ptr} (h: ∀c,c < 5->W.cell? ⟨g,o+c,none⟩=some (Z3L t q c)):Sh5 W g o t q:=
 ⟨h 0 (by omega),h 1 (by omega),h 2 (by omega),h 3 (by omega),h 4 (by omega)⟩
theorem Zb2 {B b n cap:Nat} {ps:List Sh} {qs:Nat->Ptr} (h:W.ownsRow B 25 5 (.slice (some ⟨b,0,none⟩) n cap) n (Z1S ps qs)) (hn:n=ps.length):PaR W b ps qs:=by
 subst hn;refine ⟨(h.lt b rfl).2,fun i hi=>Z9i (fun c hc=> ?_),fun k=>h.frozenAt k⟩;rw[h.cellAt _ (by omega),Z4W ps qs hi hc]
theorem Zb3 {B b n cap:Nat} {l:List (List UInt8)} (h:W.ownsRow B 9 1 (.slice (some ⟨b,0,none⟩) n cap) n ((strs l).map Value.string)) (hn:n=l.length):TxR W b l:=by
 subst hn;refine ⟨(h.lt b rfl).2,fun i hi=> ?_,fun k=>h.frozenAt k⟩;rw[h.cellAt _ (by omega)];simp[strs,hi]
end
theorem Z5G (b o k:Nat): (⟨b,o,none⟩:Addr).add k=⟨b,o+k,none⟩:=Z0o b o k
theorem Z6F (A:Option Addr) (c:Nat) (l:List (List UInt8)) (w:World) (hA:Strs w w.heap.size A (strs l)) (hl:l.length<=1000000000) (hlc:l.length<=c) (hA0:A=none->c=0):
 Calls Tryd.prog 44 #[.slice A l.length c] w fun e w'=>(∃A' c',e= .returned (.slice A' l.length c')/\l.length<=c'/\(A'=none->c'=0)/\(l.length=0\/ ∃b,A'=some ⟨b,0,none⟩/\w.heap.size<=b/\TxR w' b l))/\Below w.heap.size w w':=by
 obtain ⟨i0,hi,hz0,hz1,hz2⟩:=info_parts (P:=Tryd.prog) (e:=9) (z:= .string ByteArray.empty) (size:=1) (bytes:=16) Z4V;have q22: ∀(w:World) (a:Option Addr) (n c n' c':Nat),(binOp .eql 22 (.slice a n c) (.slice none n' c')).run Tryd.prog w= .ok (.bool a.isNone) w:=fun w a n c n' c'=>Lib.run_eql_slice_nil w _ _ a n c n' c' Tryd.underlying22;cases A with
 | none=>
  obtain rfl:=hA0 rfl;have hl0:l= []:=List.eq_nil_of_length_eq_zero (by omega);subst hl0;go_enter Tryd.func44,Tryd.ntmps44;go_wp2;go_ret;exact ⟨⟨none,0,by simp⟩,Below.refl _ _⟩
 | some ad=>
  have HA:=Y1 hA.cell7;clear hA hA0;go_enter Tryd.func44,Tryd.ntmps44
  go_wp2_with (at_builtin; refine Z1c _ rfl _ _ 22 rfl w.heap.size 9 i0 (.string ByteArray.empty) 1 16 Tryd.underlying22 hi hz0 hz1 hz2 rfl (by decide) _ 0 [] rfl (World.ownsRow_made w #[] 0 (Nat.le_refl _) (Nat.zero_le _) rfl) (some ad) l.length c ((strs l).map Value.string) rfl nofun ?qc1 ?qc2 ?qc3 ?qc4 ?qc5 ?qc6 ?_)
  case qc1=>simp[strs]
  case qc2=>
   intro ad' had j u hj;cases had;have hjl:j < l.length:=by
    have:=(List.getElem?_eq_some_iff.1 hj).1;simpa[strs] using this
   rcases HA.out with h0 | ⟨g,off,hgo,hg,hc⟩
   {omega}
   {cases hgo;rw[Z5G];refine ((Z00 w _).cell (p:=⟨g,off+j,none⟩) hg).trans ((hc j hjl).trans ?_);simp[strs,hjl] at hj;rw[<-hj]}
  case qc3=>intro u hu; obtain ⟨x,_,rfl⟩:=List.mem_map.1 hu; rfl
  case qc4=>unfold maxLen; omega
  case qc5=>omega
  case qc6=>simp
  intro v' w' hown hb;have hown2:w'.ownsRow w.heap.size 9 1 v' l.length ((strs l).map Value.string):=by simpa using hown
  have HO:=Y1 hown2;have HB:Hid (Below w.heap.size w w'):=Y1 ((Z00 w (.cells #[] 9)).trans hb);clear hown hown2 hb;go_wp2;go_ret;refine ⟨?_,HB.out⟩;have h:=HO.out;rcases h.2 with ⟨hv,h0⟩ | ⟨g,cap,cur,hv,hBg,hh,hnc,_⟩
  {exact ⟨none,0,by rw[hv,h0]; rfl,by omega,fun _=>rfl,Or.inl h0⟩}
  {rw[hv] at h;exact ⟨some ⟨g,0,none⟩,cap,by rw[hv]; rfl,hnc,nofun,Or.inr ⟨g,rfl,hBg,Zb3 h rfl⟩⟩}
theorem Z6G (g off d:Nat) (ps:List Sh) (qs:Nat->Ptr) (w:World) (hg:g < w.heap.size) (hc: ∀i (h:i < ps.length),Sh5 w g (off+i * 5) (ps[i]'h) (qs i)) (hl:ps.length<=1000000000) (hpos:0 < ps.length):
 Calls Tryd.prog 67 #[.slice (some ⟨g,off,none⟩) ps.length d] w fun e w'=>(∃b c',e= .returned (.slice (some ⟨b,0,none⟩) ps.length c')/\ps.length<=c'/\w.heap.size<=b/\PaR w' b ps qs)/\Below w.heap.size w w':=by
 obtain ⟨i0,hi,hz0,hz1,hz2⟩:=info_parts (P:=Tryd.prog) (e:=25) (z:= .agg #[.int .i64 0,.string ByteArray.empty,.string ByteArray.empty,.slice none 0 0,.slice none 0 0]) (size:=5) (bytes:=88) Z1P;have q23: ∀(w:World) (a:Option Addr) (n c n' c':Nat),(binOp .eql 23 (.slice a n c) (.slice none n' c')).run Tryd.prog w= .ok (.bool a.isNone) w:=fun w a n c n' c'=>Lib.run_eql_slice_nil w _ _ a n c n' c' Tryd.underlying23;have HC:=Y1 hc;clear hc;go_enter Tryd.func67,Tryd.ntmps67
 go_wp2_with (at_builtin; refine Z1c _ rfl _ _ 23 rfl w.heap.size 25 i0 (.agg #[.int .i64 0,.string ByteArray.empty,.string ByteArray.empty,.slice none 0 0,.slice none 0 0]) 5 88 Tryd.underlying23 hi hz0 hz1 hz2 rfl (by decide) _ 0 [] rfl (World.ownsRow_made w #[] 0 (Nat.le_refl _) (Nat.zero_le _) rfl) (some ⟨g,off,none⟩) ps.length d (Z1S ps qs) rfl nofun ?qc1 ?qc2 ?qc3 ?qc4 ?qc5 ?qc6 ?_)
 case qc1=>rw[Z4m]
 case qc2=>
  intro ad' had j u hj;cases had;have hjl:j < ps.length * 5:=by
   have:=(List.getElem?_eq_some_iff.1 hj).1
   rwa [Z4m] at this
  obtain ⟨i,c,rfl,hci⟩: ∃i c,j=i * 5+c/\c < 5:=⟨j / 5,j % 5,by omega,by omega⟩;have hil:i < ps.length:=by omega
  rw[Z4W ps qs hil hci] at hj;rw[Z5G, <-Nat.add_assoc];refine ((Z00 w _).cell (p:=⟨g,off+i * 5+c,none⟩) hg).trans ((Z9h (HC.out i hil) hci).trans hj)
 case qc3=>exact Z82 ps qs
 case qc4=>unfold maxLen; omega
 case qc5=>omega
 case qc6=>simp
 intro v' w' hown hb;have hown2:w'.ownsRow w.heap.size 25 5 v' ps.length (Z1S ps qs):=by simpa using hown
 have HO:=Y1 hown2;have HB:Hid (Below w.heap.size w w'):=Y1 ((Z00 w (.cells #[] 25)).trans hb);clear hown hown2 hb;go_wp2;go_ret;refine ⟨?_,HB.out⟩;have h:=HO.out;rcases h.2 with ⟨hv,h0⟩ | ⟨b,cap,cur,hv,hBg,hh,hnc,_⟩
 {omega}
 {rw[hv] at h;exact ⟨b,cap,by rw[hv]; rfl,hnc,hBg,Zb2 h rfl⟩}
theorem Z83 (A:Option Addr) (d:Nat) (w:World) (hA0:A=none->d=0):
 Calls Tryd.prog 67 #[.slice A 0 d] w fun e w'=>(∃A' d',e= .returned (.slice A' 0 d')/\(A'=none->d'=0))/\Below w.heap.size w w':=by
 obtain ⟨i0,hi,hz0,hz1,hz2⟩:=info_parts (P:=Tryd.prog) (e:=25) (z:= .agg #[.int .i64 0,.string ByteArray.empty,.string ByteArray.empty,.slice none 0 0,.slice none 0 0]) (size:=5) (bytes:=88) Z1P;have q23: ∀(w:World) (a:Option Addr) (n c n' c':Nat),(binOp .eql 23 (.slice a n c) (.slice none n' c')).run Tryd.prog w= .ok (.bool a.isNone) w:=fun w a n c n' c'=>Lib.run_eql_slice_nil w _ _ a n c n' c' Tryd.underlying23;cases A with
 | none=>
  obtain rfl:=hA0 rfl;go_enter Tryd.func67,Tryd.ntmps67;go_wp2;go_ret;exact ⟨⟨none,0,by simp⟩,Below.refl _ _⟩
 | some ad=>
  clear hA0;go_enter Tryd.func67,Tryd.ntmps67
  go_wp2_with (at_builtin; refine Z1c _ rfl _ _ 23 rfl w.heap.size 25 i0 (.agg #[.int .i64 0,.string ByteArray.empty,.string ByteArray.empty,.slice none 0 0,.slice none 0 0]) 5 88 Tryd.underlying23 hi hz0 hz1 hz2 rfl (by decide) _ 0 [] rfl (World.ownsRow_made w #[] 0 (Nat.le_refl _) (Nat.zero_le _) rfl) (some ad) 0 d [] rfl nofun ?qc1 ?qc2 ?qc3 ?qc4 ?qc5 ?qc6 ?_)
  case qc1=>rfl
  case qc2=>
   intro ad' had j u hj;simp at hj
  case qc3=>intro u hu; cases hu
  case qc4=>unfold maxLen; omega
  case qc5=>omega
  case qc6=>simp
  intro v' w' hown hb;have hown2:w'.ownsRow w.heap.size 25 5 v' 0 []:=by simpa using hown
  have HO:=Y1 hown2;have HB:Hid (Below w.heap.size w w'):=Y1 ((Z00 w (.cells #[] 25)).trans hb);clear hown hown2 hb;go_wp2;go_ret;refine ⟨?_,HB.out⟩;rcases HO.out.2 with ⟨hv,h0⟩ | ⟨g,cap,cur,hv,hBg,hh,hnc,_⟩
  {exact ⟨none,0,by rw[hv]; rfl,fun _=>rfl⟩}
  {exact ⟨some ⟨g,0,none⟩,cap,by rw[hv]; rfl,nofun⟩}
end
end Go.Proofs.YtchklpedlbkgaaaDoor
namespace Shp
section
theorem Z6H (l:List Sh):deeps l<=sizes l:=by
 induction l with
 | nil=>simp[deeps]
 | cons a l ih=>have:=Z1p a; simp[deeps,sizes]; omega
theorem Z4X (l:List (List UInt8)):noDup l=true ↔ l.Nodup:=by
 induction l with
 | nil=>simp[noDup]
 | cons a l ih=>simp[noDup,ih]
theorem Z0v (l:List (List UInt8)):areNames l=true ↔ (∀x∈l,Lex.isName x=true)/\l.Nodup:=by
 simp[areNames,Z4X]
section
variable {l : List (List UInt8)}
include l
theorem Z3r {i:Nat} (hi:i < l.length) (h:Lex.isName (l[i]'hi)=false):areNames l=false:=by
 cases e:areNames l with
 | false=>rfl
 | true=>rw[((Z0v l).1 e).1 _ (List.getElem_mem hi)] at h; cases h
theorem Z2M {i k:Nat} (hi:i < l.length) (hk:k < i) (h:l[k]'(by omega)=l[i]'hi):areNames l=false:=by
 cases e:areNames l with
 | false=>rfl
 | true=>
  have:=((Z0v l).1 e).2;have:=(List.pairwise_iff_getElem.1 this) k i (by omega) hi hk;exact absurd h this
theorem Z3O (h1: ∀i (hi:i < l.length),Lex.isName (l[i]'hi)=true) (h2: ∀i (hi:i < l.length),∀k (hk:k < i),l[k]'(by omega)≠l[i]'hi):areNames l=true:=by
 refine (Z0v l).2 ⟨fun x hx=> ?_, ?_⟩
 {obtain ⟨i,hi,rfl⟩:=List.getElem_of_mem hx; exact h1 i hi}
 {exact List.pairwise_iff_getElem.2 (fun k i hk hi hki=>h2 i hi k hki)}
end
def ofOk (t:Sh):Bool:=Lex.isName t.of_||(t.of_== []&&decide (t.kind=9)&& !plain t.name)
section
variable {t : Sh}
include t
theorem Z1T (h:t.kind=9\/t.kind=10):fits t=(Lex.isUpper t.name&&ofOk t&&decide (t.names.length=0)&&decide (t.parts.length=0)):=by unfold fits ofOk; rw[if_pos h]
theorem Z0Q (h: ¬(t.kind=9\/t.kind=10)) (hb:bare t=false):fits t=false:=by unfold fits; rw[if_neg h,if_pos hb]
theorem Z27 (hb:bare t=true) (h:t.kind=6\/t.kind=7):fits t=(areNames t.names&&decide (t.names.length=t.parts.length)):=by
 unfold fits; rw[if_neg (by omega),if_neg (by rw[hb]; decide),if_pos h]
theorem Z1r (h: ¬(t.kind=9\/t.kind=10)) (hb:bare t=true) (h2: ¬(t.kind=6\/t.kind=7)) (h3:0 < t.names.length):fits t=false:=by
 unfold fits; rw[if_neg h,if_neg (by rw[hb]; decide),if_neg h2,if_pos h3]
theorem Z46 (hb:bare t=true) (h:t.kind=8) (h3: ¬0 < t.names.length):fits t=decide (1<=t.parts.length):=by
 unfold fits; rw[if_neg (by omega),if_neg (by rw[hb]; decide),if_neg (by omega),if_neg h3,if_pos h]
theorem Z3s (hb:bare t=true) (h:t.kind=5) (h3: ¬0 < t.names.length):fits t=decide (t.parts.length=1):=by
 unfold fits; rw[if_neg (by omega),if_neg (by rw[hb]; decide),if_neg (by omega),if_neg h3,if_neg (by omega),if_pos h]
theorem Z2j (hb:bare t=true) (h: ¬(t.kind=9\/t.kind=10)) (h2: ¬(t.kind=6\/t.kind=7)) (h3: ¬0 < t.names.length) (h4:t.kind≠8) (h5:t.kind≠5):
 fits t=(decide (1<=t.kind)&&decide (t.kind<=4)&&decide (t.parts.length=0)):=by
 unfold fits; rw[if_neg h,if_neg (by rw[hb]; decide),if_neg h2,if_neg h3,if_neg h4,if_neg h5]
end
theorem Z28 (t:Sh):bare t=true ↔ t.of_= []/\t.name= []:=by simp[bare]
theorem Zb4 {t:Sh} (h: (t.of_== [])=false):bare t=false:=by simp[bare,h]
theorem Z9j {t:Sh} (h: (t.name== [])=false):bare t=false:=by simp[bare,h]
theorem Z08 {t:Sh} (h:right t=true):fits t=true:=by rw[Z1g,Bool.and_eq_true] at h; exact h.1
theorem Z04 {t p:Sh} (h:right t=true) (hp:p∈t.parts):right p=true:=by
 rw[Z1g,Z1w,Bool.and_eq_true,List.all_eq_true] at h; exact h.2 p hp
theorem Z29 {t:Sh} (h:fits t=true) (hp: ∀p∈t.parts,right p=true):right t=true:=by
 rw[Z1g,Z1w,Bool.and_eq_true,List.all_eq_true]; exact ⟨h,hp⟩
theorem Z9k {t p:Sh} (hp:p∈t.parts) (h:right p=false):right t=false:=by
 cases e:right t with
 | false=>rfl
 | true=>rw[Z04 e hp] at h; cases h
end
end Shp
namespace Go.Proofs.YtchklpedlbkgaaaDoor
section
open Go.RowKit Shp
structure UpH (cb:Nat) (w w':World):Prop where
 os:w'.os=w.os
 tape:w'.tape=w.tape
 output:w'.output=w.output
 size:w'.heap.size=w.heap.size
 block: ∀k,k≠cb->w'.heap[k]? =w.heap[k]?
theorem UpH.refl (cb:Nat) (w:World):UpH cb w w:=⟨rfl,rfl,rfl,rfl,fun _ _=>rfl⟩
theorem UpH.trans {cb:Nat} {a b c:World} (h:UpH cb a b) (k:UpH cb b c):UpH cb a c:=
 ⟨k.os.trans h.os,k.tape.trans h.tape,k.output.trans h.output,k.size.trans h.size,fun i hn=>(k.block i hn).trans (h.block i hn)⟩
theorem UpH.set {cb:Nat} {a w:World} (h:UpH cb a w) (v:Value):UpH cb a (w.setCell ⟨cb,1,none⟩ v):=
 h.trans ⟨rfl,rfl,rfl,by simp[World.setCell],fun k hn=>Below.heap_setCell _ _ _ _ hn⟩
theorem UpH.cell {cb:Nat} {w w':World} (h:UpH cb w w') {g k:Nat} (hn:g≠cb):w'.cell? ⟨g,k,none⟩=w.cell? ⟨g,k,none⟩:=World.cell?_of_block (w:=w) (h.block g hn)
theorem UpH.frozen {cb:Nat} {w w':World} (h:UpH cb w w') {g k:Nat} (hn:g≠cb):w'.frozen? ⟨g,k,none⟩=w.frozen? ⟨g,k,none⟩:=World.frozen?_of_block (w:=w) (h.block g hn)
theorem UpH.toBelow {cb B:Nat} {w w':World} (h:UpH cb w w') (hB:B<=cb):Below B w w':=⟨h.os,h.tape,h.output,Nat.le_of_eq h.size.symm,fun k hk=>h.block k (by omega)⟩
structure CntH (w:World) (cb p:Nat) (f:Value):Prop where
 lt:cb < w.heap.size
 c0:w.cell? ⟨cb,0,none⟩=some f
 c1:w.cell? ⟨cb,1,none⟩=some (.int .i64 (p:Int))
 f1:w.frozen? ⟨cb,1,none⟩=false
theorem CntH.set {w:World} {cb p:Nat} {f:Value} (h:CntH w cb p f) (n:Nat):CntH (w.setCell ⟨cb,1,none⟩ (.int .i64 (n:Int))) cb n f:=
 ⟨by simpa[World.setCell] using h.lt,by simp[go_sem,h.c0],by simp[go_sem,h.c1],by simp[go_sem,h.f1]⟩
theorem ShAt.uph {w w':World} {B cb:Nat} {q:Ptr} {t:Sh} (h:ShAt w B q t) (hu:UpH cb w w') (h1:B<=cb):ShAt w' B q t:=
 h.of (Nat.le_refl _) (fun g k hg=>hu.cell (by omega))
theorem Z4n (g o:Nat) (w:World):Calls Tryd.prog 41 #[.pointer (some ⟨g,o,none⟩)] w fun e w'=>e= .returned (.pointer (some ⟨g,o+4,none⟩))/\w=w':=by
 go_enter Tryd.func41,Tryd.ntmps41;go_wp2;go_ret;exact ⟨rfl,rfl⟩
theorem Z84 (t:Sh): ∀(q:Ptr) (g o B cb p lv:Nat) (w:World),Sh5 w g o t q->g≠cb->ShAt w B q t->B<=cb->CntH w cb p (.func (.func 41) #[] #[])->p+size t<=1000000->lv+deep t<=60000->
 Calls Tryd.prog 54 #[.pointer (some ⟨cb,0,none⟩),.pointer (some ⟨g,o,none⟩),.int .i64 (lv:Int)] w
  fun e w'=>e= .returned (.bool true)/\UpH cb w w'/\CntH w' cb (p+size t) (.func (.func 41) #[] #[]):=by
 induction t using Sh.ind with
 | h t ih=>
 intro q g o B cb p lv w hs hgc hq hBc hc hpm hlv;have HP:=Y1 hq.part;have HM:=Y1 hq.small.m;have HD:Hid (deep t=deeps t.parts+1):=Y1 (Z0h t);have HZ:Hid (size t=1+sizes t.parts):=Y1 (size_eq t);have HPM:Hid (p+size t<=1000000):=Y1 hpm;have HLV:Hid (lv+deep t<=60000):=Y1 hlv;have hp1: (p:Int)<=1000000:=by omega
 have hg1: ¬(16777216:Int) < (p:Int)+1:=by omega
 have hg2: ¬(65536:Int) < (lv:Int):=by omega
 have hlvi: (lv:Int)<=60000:=by omega
 have e1:decide ((16777216:Int) < (p:Int)+1)=false:=decide_eq_false hg1;have e2:decide ((65536:Int) < (lv:Int))=false:=decide_eq_false hg2;have HS:=Y1 hs;have HC:=Y1 hc;obtain ⟨_,_,_,_,k4⟩:=hs;obtain ⟨_,c0,c1,f1⟩:=hc;have hne2:cb≠g:=Ne.symm hgc;have L1:=fun (W:World)=>Z4n g o W;clear hpm hlv hq;go_enter Tryd.func54,Tryd.ntmps54
 go_wp2_with fail
 obtain ⟨W0,hW0⟩: ∃W0,W0=w.setCell ⟨cb,1,none⟩ (.int .i64 ((p:Int)+1)):=⟨_,rfl⟩;have HU0:Hid (UpH cb w W0):=Y1 (by rw[hW0]; exact (UpH.refl cb w).set _);have HC0:Hid (CntH W0 cb (p+1) (.func (.func 41) #[] #[])):=Y1 (by rw[hW0]; exact HC.out.set (p+1));have k4':W0.cell? ⟨g,o+4,none⟩=some (.slice q.P t.parts.length q.d):=(HU0.out.cell hgc).trans k4;rw[<-hW0];clear hW0 k4 c0 c1 f1 hp1 hg1 hg2 e1 e2;refine (L1 W0).mono ?_;rintro e w1 ⟨rfl,rfl⟩
 go_wp2_with fail
 clear k4'
 go_loopw [35] (fun ii wr=> ∃i:Nat,ii= .int .i64 i/\i<=t.parts.length/\Hid (UpH cb w wr)/\Hid (CntH wr cb (p+1+sizes (t.parts.take i)) (.func (.func 41) #[] #[]))) (fun i _=>t.parts.length - (intOf i).toNat)
 case atStart=>exact ⟨0,rfl,Nat.zero_le _,HU0,by rw[List.take_zero]; exact HC0⟩
 case round=>
  obtain ⟨i,rfl,hi,HUR,HCR⟩:=hrel;have hmm:=HM.out;by_cases hlt:i < t.parts.length
  {rcases HP.out with h0 | ⟨g',off,qs,hqP,hg',hc,hr⟩
   {omega}
   {obtain ⟨x,hx⟩: ∃x,x=t.parts[i]:=⟨_,rfl⟩;have hxs:=hc i hlt;have hxa:=hr i hlt;have ihx:=ih t.parts[i] (List.getElem_mem _) (qs i) g' (off+i * 5) B cb (p+1+sizes (t.parts.take i)) (lv+1) wr;rw[<-hx] at ihx hxs hxa;have HN:Hid (sizes (t.parts.take (i+1))=sizes (t.parts.take i)+size x):=Y1 (by rw[hx]; exact Z1v hlt);have hdx:deep x<=deeps t.parts:=by rw[hx]; exact Z0y (List.getElem_mem _)
    have IH:=ihx (hxs.of (fun k=>HUR.out.cell (by omega))) (by omega) (hxa.uph HUR.out hBc) hBc HCR.out (by
     have:=Z2X t.parts (i+1);have:=HN.out;have:=HPM.out;have:=HZ.out;omega) (by have:=HD.out; have:=HLV.out; omega)
    have hi1: (i:Int) < (t.parts.length:Int):=by omega
    rw[show (((lv+1:Nat)):Int)=(lv:Int)+1 from by omega] at IH;clear hxs hxa ihx hc hr hx hdx ih;rw[hqP];clear hqP
    go_wp2_with fail
    refine IH.mono ?_;rintro e w2 ⟨rfl,hu2,hc2⟩;have HU2:Hid (UpH cb w w2):=Y1 (HUR.out.trans hu2);have HC2:Hid (CntH w2 cb (p+1+sizes (t.parts.take (i+1))) (.func (.func 41) #[] #[])):=Y1 (by rw[HN.out, <-Nat.add_assoc]; exact hc2);clear hu2 hc2 IH;go_wp2
    go_roundw
    case rel=>exact ⟨i+1,by go_num,by omega,HU2,HC2⟩
    case measure=>simp[intOf]; omega}}
  {have HG:Hid (p+size t=p+1+sizes (t.parts.take i)):=Y1 (by rw[HZ.out,show i=t.parts.length from by omega,List.take_length]; omega);have hi1: ¬(i:Int) < (t.parts.length:Int):=by omega
   go_wp2;go_ret;exact ⟨rfl,HUR.out,by rw[HG.out]; exact HCR.out⟩}
theorem Z2k (W:World) (a:Addr) (u:Value): (W.setCell a u).heap.size=W.heap.size:=by simp[World.setCell]
theorem Z9l: (Tryd.prog.info? 71).map (fun i=>(i.zero,i.size,i.bytes))=some (some (.pointer none),1,8):=by kernel_rfl
theorem ZbJ (a:Option Addr) (n:Int) (W:World): (Instr.lookup 93 (.map none) (.agg #[.pointer a,.int .i64 n]) true).run Tryd.prog W= .ok (.tuple #[.slice none 0 0,.bool false]) W:=by kernel_rfl
def TxC (w W:World) (l:List (List UInt8)) (A':Option Addr) (c':Nat):Prop:=l.length<=c'/\(A'=none->c'=0)/\(l.length=0\/ ∃b,A'=some ⟨b,0,none⟩/\w.heap.size<=b/\TxR W b l)
theorem Z9m (g o:Nat) (A:Option Addr) (c:Nat) (l:List (List UInt8)) (w:World) (hg:g < w.heap.size) (k3:w.cell? ⟨g,o+3,none⟩=some (.slice A l.length c)) (f3:w.frozen? ⟨g,o+3,none⟩=false) (hA:Strs w w.heap.size A (strs l)) (hl:l.length<=1000000000) (hlc:l.length<=c) (hA0:A=none->c=0):
 Calls Tryd.prog 43 #[.pointer (some ⟨g,o,none⟩)] w fun e w'=>e= .returned (.tuple #[])/\ ∃A' c' W2,Below w.heap.size w W2/\TxC w W2 l A' c'/\w'=W2.setCell ⟨g,o+3,none⟩ (.slice A' l.length c'):=by
 have HC:=Y1 (Z6F A c l w hA hl hlc hA0);clear hA hl hlc hA0;go_enter Tryd.func43,Tryd.ntmps43
 go_wp2_with fail
 refine HC.out.mono ?_;rintro e W2 ⟨⟨A',c',rfl,h1,h2,h3⟩,hb⟩;have x3:=(hb.cell (p:=⟨g,o+3,none⟩) hg).trans k3;have y3:=(hb.frozen (p:=⟨g,o+3,none⟩) hg).trans f3;have HB:=Y1 hb;have HT:Hid (TxC w W2 l A' c'):=Y1 ⟨h1,h2,h3⟩;clear hb h1 h2 h3 k3 f3 HC;go_wp2;refine bodyPost_end (v:= .tuple #[]) (by simp[results,Tryd.results43,go_sem]) rfl ?_;exact ⟨rfl,A',c',W2,HB.out,HT.out,rfl⟩
theorem Z85 (g o:Nat) (P:Option Addr) (d:Nat) (w:World) (hg:g < w.heap.size) (k4:w.cell? ⟨g,o,none⟩=some (.slice P 0 d)) (f4:w.frozen? ⟨g,o,none⟩=false) (hP0:P=none->d=0):
 Calls Tryd.prog 55 #[.pointer (some ⟨g,o,none⟩),.map none] w fun e w'=>e= .returned (.bool false)/\ ∃P' d' W2,Below w.heap.size w W2/\(P'=none->d'=0)/\w'=W2.setCell ⟨g,o,none⟩ (.slice P' 0 d'):=by
 have HC:=Y1 (Z83 P d w hP0);clear hP0;go_enter Tryd.func55,Tryd.ntmps55
 go_wp2_with fail
 refine HC.out.mono ?_;rintro e W2 ⟨⟨P',d',rfl,h2⟩,hb⟩;have x4:=(hb.cell (p:=⟨g,o,none⟩) hg).trans k4;have y4:=(hb.frozen (p:=⟨g,o,none⟩) hg).trans f4;have HB:=Y1 hb;have HT:=Y1 h2;clear hb h2 k4 f4 HC;go_wp2;go_ret;exact ⟨rfl,P',d',W2,HB.out,HT.out,rfl⟩
theorem Z86 (g o g' off d:Nat) (ps:List Sh) (qs:Nat->Ptr) (w:World) (hg:g < w.heap.size) (k4:w.cell? ⟨g,o,none⟩=some (.slice (some ⟨g',off,none⟩) ps.length d)) (f4:w.frozen? ⟨g,o,none⟩=false)
 (hg':g' < w.heap.size) (hc: ∀i (h:i < ps.length),Sh5 w g' (off+i * 5) (ps[i]'h) (qs i)) (hl:ps.length<=1000000000) (hpos:0 < ps.length):
 Calls Tryd.prog 55 #[.pointer (some ⟨g,o,none⟩),.map none] w fun e w'=>e= .returned (.bool true)/\ ∃b d' W2,Below w.heap.size w W2/\ps.length<=d'/\w.heap.size<=b/\PaR W2 b ps qs/\w'=W2.setCell ⟨g,o,none⟩ (.slice (some ⟨b,0,none⟩) ps.length d'):=by
 have HC:=Y1 (fun (W:World) (hb:Below w.heap.size w W)=>Z6G g' off d ps qs W (Nat.lt_of_lt_of_le hg' hb.size) (fun i hi=>(hc i hi).keep hg' hb) hl hpos);have hl0: ((ps.length:Int)==0)=false:=by rw[beq_eq_false_iff_ne]; omega
 have hi0: (0:Int) < (ps.length:Int):=by omega
 have q48: ∀(w:World) (r:Option Nat),(binOp .neq 93 (.map r) (.map none)).run Tryd.prog w= .ok (.bool (!r.isNone)) w:=fun w r=>run_neq_map_nil w _ _ _ r Tryd.underlying93;have hlk:=ZbJ (some ⟨g',off,none⟩) (ps.length:Int);clear hc;go_enter Tryd.func55,Tryd.ntmps55
 go_wp2_with fail
 go_region
 obtain ⟨W1,hW1⟩: ∃W1,W1=(w.alloc (.cells #[.pointer (some ⟨g',off,none⟩),.int .i64 (ps.length:Int)] 112)).drew:=⟨_,rfl⟩;have hb1:Below w.heap.size w W1:=by rw[hW1]; exact (Z00 _ _).drew
 have p0:W1.cell? ⟨w.heap.size,0,none⟩=some (.pointer (some ⟨g',off,none⟩)):=by rw[hW1]; simp[go_sem]
 have p1:W1.cell? ⟨w.heap.size,1,none⟩=some (.int .i64 (ps.length:Int)):=by rw[hW1]; simp[go_sem]
 have x4:=(hb1.cell (p:=⟨g,o,none⟩) hg).trans k4;have y4:=(hb1.frozen (p:=⟨g,o,none⟩) hg).trans f4;have hz1:w.heap.size < W1.heap.size:=by rw[hW1]; simp
 have hgz:g < W1.heap.size:=Nat.lt_trans hg hz1;have hcl:=HC.out W1 hb1;rw[<-hW1];have HB1:=Y1 hb1;have HCL:=Y1 hcl;have HHL:=Y1 hl;clear hW1 hb1 hcl k4 f4 HC hl
 go_wp2_with fail
 refine HCL.out.mono ?_;rintro e W2 ⟨⟨b,d',rfl,h1,h2,h3⟩,hb2⟩;have x5:=(hb2.cell (p:=⟨g,o,none⟩) hgz).trans x4;have y5:=(hb2.frozen (p:=⟨g,o,none⟩) hgz).trans y4;have HB2:=Y1 (Z02 HB1.out hb2);have HT:=Y1 h3;have HL:=Y1 h1;have HBB:=Y1 (show w.heap.size<=b from by omega);clear hb2 h1 h2 h3 x4 y4 p0 p1 HCL hgz hz1;go_wp2;go_ret;exact ⟨rfl,b,d',W2,HB2.out,HL.out,HBB.out,HT.out,rfl⟩
end
end Go.Proofs.YtchklpedlbkgaaaDoor
