/- What the proofs of ParseAround want, part 12. -/
import Derived.Test.YtkncdbaoaeeoiaaGreatDoorL0n11
set_option linter.unusedVariables false
set_option linter.unusedSimpArgs false
set_option linter.unusedSectionVars false
set_option maxRecDepth 100000
set_option maxHeartbeats 16000000
namespace Go.Proofs.YtkncdbaoaeeoiaaGreatDoor
section
open Go.RowKit Shp
def Z3K (m:Nat) (t:Sh):Int:=if m < size t then (m:Int)+1 else size t
def Z3L (m:Nat) (t:Sh):Int:=if m < size t then 0 else deep t
section
variable (t : Sh) (q : Ptr) (w : World) (hq : ShAt w w.heap.size q t)
include t q w hq
theorem Z8z:
 Y9 105 #[.agg (Y8 t q)] w (.tuple #[.int .i64 (Z3K 400 t),.int .i64 (Z3L 400 t)]):=by
 unfold Z3K Z3L;by_cases h:400 < size t
 {rw[if_pos h,if_pos h]; exact Z8y t q w hq h}
 {rw[if_neg h,if_neg h]; exact Zbs t q w hq (by omega)}
theorem Z3s (u:WGlobs w):
 Y9 73 #[.agg (Y8 t q)] w (.int .i64 (check t)):=by
 have hb0:=Z01 w (.cells (Y8 t q) 43);have h:=Z8z t q _ (hq.next hb0);have o:Hid (check t=if 400 < size t then 3 else if 40 < deep t then 91 else if right t=false then 70 else 0):=Y1 rfl;have f:=Y1 hb0;have r:=Y1 (Z0k w t q);have A:=Y1 hq;have z:=Y1 u;obtain ⟨_,⟨s,c1,c2,c3,c4⟩,_⟩:=r.out;clear hb0 hq u;by_cases b:400 < size t
 {have i:Hid (check t=3):=Y1 (by rw[o.out,if_pos b]);have j:Z3K 400 t=401:=by unfold Z3K; rw[if_pos b]; rfl
  rw[j] at h;generalize Z3L 400 t=y at h;clear b j;go_enter Tryz.func73,Tryz.ntmps73
  go_wp2_with fail
  refine h.mono ?_;rintro e w' ⟨rfl,a⟩;go_wp2;go_ret;exact ⟨Z0p i.out.symm,Z00 f.out a⟩}
 {have j:Z3K 400 t=(size t:Int):=by unfold Z3K; rw[if_neg b]
  have p:Z3L 400 t=(deep t:Int):=by unfold Z3L; rw[if_neg b]
  rw[j,p] at h;have C: ¬(400:Int) < (size t:Int):=by omega
  by_cases c:40 < deep t
  {have i:Hid (check t=91):=Y1 (by rw[o.out,if_neg b,if_pos c]);have l: (40:Int) < (deep t:Int):=by omega
   clear b c j p;go_enter Tryz.func73,Tryz.ntmps73
   go_wp2_with fail
   refine h.mono ?_;rintro e w' ⟨rfl,a⟩;go_wp2;go_ret;exact ⟨Z0p i.out.symm,Z00 f.out a⟩}
  {have l: ¬(40:Int) < (deep t:Int):=by omega
   have i:Hid (check t=if right t=false then 70 else 0):=Y1 (by rw[o.out,if_neg b,if_neg c]);have B:Hid (size t<=1000000):=Y1 (by omega);clear b c j p;go_enter Tryz.func73,Tryz.ntmps73
   go_wp2_with fail
   refine h.mono ?_;rintro e D ⟨rfl,g⟩;have d:=Z00 f.out g;have k:=Y1 d;have n:=Y1 (r.out.next g);have v:=Z8x t q D (A.out.next d) (z.out.next d) B.out;clear h g d s c1 c2 c3 c4;obtain ⟨_,⟨s,c1,c2,c3,c4⟩,_⟩:=n.out;cases m:right t
   all_goals
    rw[m] at v i;clear m
    go_wp2_with fail
    refine v.mono ?_;rintro e w' ⟨rfl,a⟩;go_wp2;go_ret;exact ⟨Z0p (by rw[i.out]; rfl),Z00 k.out a⟩}}
end
end
section
open Go.RowKit Tms
open Shp (Sh)
open Pso (St Ok Goes betw loop want)
open Prs (sign)
theorem Z0P (bp:Nat) (A:Option Addr) (c:Nat) (l:List Tk) (hl:l.length<=5000) (ht: ∀b∈l,b.t.text.length<=1000000) (σ:St) (X:Ok l σ) (w:World) (Y:PAt w bp A c l σ):
 Calls Tryz.prog 39 #[.pointer (some ⟨bp,0,none⟩)] w (TyIs bp A c l (Pso.wholeT l σ) w):=by
 have HF:Hid (Pso.wholeT l σ=((Pso.anyT l (l.length+1) σ).1,if Shp.check (Pso.anyT l (l.length+1) σ).1=0 then (Pso.anyT l (l.length+1) σ).2 else Pso.fail l (Pso.anyT l (l.length+1) σ).2 (Shp.check (Pso.anyT l (l.length+1) σ).1) (Prs.look l σ.1).at_)):=Y1 rfl;rw[HF.out];have hb0:=Z01 w (.cells Yb 43);have N:=Y1 (Y.below hb0);have D:=Y1 hb0;have H:=Y.lt;have O:=Y1 (fun (W:World) (h:PAt W bp A c l σ)=>Z4J bp A c l hl ht (l.length+1) W σ X (by omega) h);have a8:=Z47 (Prs.look l σ.1).t.kind ⟨(Prs.look l σ.1).t.text.toArray⟩ (Prs.look l σ.1).at_;obtain ⟨y,hy⟩: ∃y,y=Pso.anyT l (l.length+1) σ:=⟨_,rfl⟩;rw[<-hy] at O ⊢;obtain ⟨k,Z⟩: ∃k,k=Shp.check y.1:=⟨_,rfl⟩;have HK:=Y1 Z;rw[<-Z];clear HF hb0 Y hy Z;by_cases o:k=0
 {have e0: (k !=0)=false:=by simpa using o
  rw[if_pos o];clear o;go_enter Tryz.func39,Tryz.ntmps39
  go_wp2_with fail
  refine (Z1A hl X.1 _ N.out).mono ?_;rintro e w1 ⟨rfl,hp1,z⟩;have r:=Y1 hp1;have s:=Y1 z;clear hp1 z
  go_wp2_with fail
  refine (O.out w1 r.out).mono ?_;rintro e i ⟨x,rfl,hp2,hu2,hx,hlo,C⟩;have a1:w.heap.size+1<=x.lo:=by have V:=s.out.size; simp at V; omega
  have g:=Z01 i (.cells (Y8 x.t x.q) 43);have d:=Y1 (hp2.below g);have m:=Y1 ((s.out.trans hu2).below g);have f:=Y1 (show x.Is _ from New.below hx g);have j:=Y1 (Z0t i (.int .i64 x.t.kind) (.string ⟨x.t.of_.toArray⟩) (.string ⟨x.t.name.toArray⟩) (.slice x.q.A x.t.names.length x.q.c) (.slice x.q.P x.t.parts.length x.q.d) 43);have u:=Y1 C;clear hp2 hu2 hx hlo C g O r;simp only[valS];obtain ⟨I,c1,c2,c3,c4,cf,n⟩:=j.out
  go_wp2_with fail
  generalize i.alloc (.cells (Y8 x.t x.q) 43)=W2 at d m f j I c1 c2 c3 c4 n ⊢;refine (Z3s x.t x.q W2 f.out.here d.out.gs.gl.s).mono ?_;rintro e L ⟨rfl,a⟩;rw[u.out, <-HK.out];have E:=Y1 (d.out.below a);have t:=Y1 (m.out.below a);have G:=Y1 (show x.Is L from New.below f.out a);have x0:=(a.cell (p:=⟨i.heap.size,0,none⟩) n).trans I;have x1:=(a.cell (p:=⟨i.heap.size,1,none⟩) n).trans c1;have x2:=(a.cell (p:=⟨i.heap.size,2,none⟩) n).trans c2;have x3:=(a.cell (p:=⟨i.heap.size,3,none⟩) n).trans c3;have x4:=(a.cell (p:=⟨i.heap.size,4,none⟩) n).trans c4;have xl:i.heap.size < L.heap.size:=Nat.lt_of_lt_of_le n a.size;obtain ⟨r0,r1,r2,r3,r4,g0,g1,g2,g3,g4,K⟩:=res5 D.out (Z0t w _ _ _ _ _ _) rfl t.out H;clear a I c1 c2 c3 c4 cf n j d m f;go_wp2;refine bodyPost_ret (v:=valS x) (by simp[results,Tryz.results39,go_sem,valS,r0,r1,r2,r3,r4,K]) rfl ?_;have J:=end5 E.out ((Z05 (F:= [bp]) D.out).trans t.out) G.out (rb:=w.heap.size) (Nat.le_refl _) (Or.inl (by omega)) H;exact ⟨x,rfl,(J _ _ _ _ _).1,(J _ _ _ _ _).2.1,(J _ _ _ _ _).2.2,by omega,u.out⟩}
 {have e0: (k !=0)=true:=by simpa using o
  rw[if_neg o];clear o;go_enter Tryz.func39,Tryz.ntmps39
  go_wp2_with fail
  refine (Z1A hl X.1 _ N.out).mono ?_;rintro e w1 ⟨rfl,hp1,z⟩;have r:=Y1 hp1;have s:=Y1 z;clear hp1 z
  go_wp2_with fail
  refine (O.out w1 r.out).mono ?_;rintro e i ⟨x,rfl,hp2,hu2,hx,hlo,C⟩;have a1:w.heap.size+1<=x.lo:=by have V:=s.out.size; simp at V; omega
  have g:=Z01 i (.cells (Y8 x.t x.q) 43);have d:=Y1 (hp2.below g);have m:=Y1 ((s.out.trans hu2).below g);have f:=Y1 (show x.Is _ from New.below hx g);have j:=Y1 (Z0t i (.int .i64 x.t.kind) (.string ⟨x.t.of_.toArray⟩) (.string ⟨x.t.name.toArray⟩) (.slice x.q.A x.t.names.length x.q.c) (.slice x.q.P x.t.parts.length x.q.d) 43);have u:=Y1 C;have Q:Hid (bp < i.heap.size):=Y1 hp2.lt;clear hp2 hu2 hx hlo C g O r;simp only[valS];obtain ⟨I,c1,c2,c3,c4,cf,n⟩:=j.out
  go_wp2_with fail
  generalize i.alloc (.cells (Y8 x.t x.q) 43)=W2 at d m f j I c1 c2 c3 c4 n ⊢;refine (Z3s x.t x.q W2 f.out.here d.out.gs.gl.s).mono ?_;rintro e L ⟨rfl,a⟩;rw[u.out, <-HK.out];have E:=Y1 (d.out.below a);have t:=Y1 (m.out.below a);have G:=Y1 (show x.Is L from New.below f.out a);have T:=Y1 (show SameT W2 L i.heap.size from (Z05 (F:= []) a).same n (by simp));have M:Hid (i.heap.size < L.heap.size):=Y1 (Nat.lt_of_lt_of_le n a.size);clear a
  go_wp2_with fail
  refine (Z3j bp A c l y.2 k (Prs.look l σ.1).at_ (by omega) L E.out).mono ?_;rintro e w4 ⟨rfl,hp4,B⟩;have b0:bp < i.heap.size:=Q.out;have q:=T.out.trans (B.same M.out (by simp; omega));have S:=Y1 hp4;have P:=Y1 (t.out.trans B);have U:=Y1 (show x.Is w4 from New.up G.out B (by simp; omega));have x0:=(q.1 0).trans I;have x1:=(q.1 1).trans c1;have x2:=(q.1 2).trans c2;have x3:=(q.1 3).trans c3;have x4:=(q.1 4).trans c4;have xl:i.heap.size < w4.heap.size:=Nat.lt_of_lt_of_le M.out B.size;obtain ⟨r0,r1,r2,r3,r4,g0,g1,g2,g3,g4,K⟩:=res5 D.out (Z0t w _ _ _ _ _ _) rfl P.out H;clear hp4 B q I c1 c2 c3 c4 cf n j d m f E t G;go_wp2;refine bodyPost_ret (v:=valS x) (by simp[results,Tryz.results39,go_sem,valS,r0,r1,r2,r3,r4,K]) rfl ?_;have J:=end5 S.out ((Z05 (F:= [bp]) D.out).trans P.out) U.out (rb:=w.heap.size) (Nat.le_refl _) (Or.inl (by omega)) H;exact ⟨x,rfl,(J _ _ _ _ _).1,(J _ _ _ _ _).2.1,(J _ _ _ _ _).2.2,by omega,u.out⟩}
end
end Go.Proofs.YtkncdbaoaeeoiaaGreatDoor
namespace Prs
end Prs
namespace Go.Proofs.YtkncdbaoaeeoiaaGreatDoor
open Go.RowKit Prs
def Z1s (W:World) (g:Nat):Prop:=g < W.heap.size/\(W.cell? ⟨g,0,none⟩=some (.int .i64 0)/\W.cell? ⟨g,1,none⟩=some (.string ⟨#[]⟩)/\W.cell? ⟨g,2,none⟩=some (.string ⟨#[]⟩)/\W.cell? ⟨g,3,none⟩=some (.slice none 0 0)/\W.cell? ⟨g,4,none⟩=some (.slice none 0 0))/\
 W.frozen? ⟨g,0,none⟩=false/\W.frozen? ⟨g,1,none⟩=false/\W.frozen? ⟨g,2,none⟩=false/\W.frozen? ⟨g,3,none⟩=false/\W.frozen? ⟨g,4,none⟩=false
end Go.Proofs.YtkncdbaoaeeoiaaGreatDoor
namespace Go.Proofs.YtkncdbaoaeeoiaaGreatDoor
section
open Go.RowKit Shp
structure PaR (W:World) (b:Nat) (ps:List Sh) (qs:Nat->Ptr):Prop where
 lt:b < W.heap.size
 at_: ∀i (h:i < ps.length),Sh5 W b (i * 5) (ps[i]'h) (qs i)
 fz: ∀k,W.frozen? ⟨b,k,none⟩=false
def Z7N (W W':World) (b:Nat):Prop:=(∀k,W'.cell? ⟨b,k,none⟩=W.cell? ⟨b,k,none⟩)/\ ∀k,W'.frozen? ⟨b,k,none⟩=W.frozen? ⟨b,k,none⟩
theorem PaR.of {W W':World} {b:Nat} {ps:List Sh} {qs:Nat->Ptr} (h:PaR W b ps qs) (a:Z7N W W' b) (c:W.heap.size<=W'.heap.size):PaR W' b ps qs:=
 ⟨Nat.lt_of_lt_of_le h.lt c,fun i hi=>(h.at_ i hi).of a.1,fun k=>(a.2 k).trans (h.fz k)⟩
theorem TxR.of {W W':World} {b:Nat} {ts:List (List UInt8)} (h:TxR W b ts) (a:Z7N W W' b) (c:W.heap.size<=W'.heap.size):TxR W' b ts:=
 ⟨Nat.lt_of_lt_of_le h.lt c,fun i hi=>(a.1 i).trans (h.at_ i hi),fun k=>(a.2 k).trans (h.fz k)⟩
inductive Own (W:World):Ptr->Sh->List Nat->Prop
 | mk (q:Ptr) (t:Sh) (F FN FP:List Nat) (qs:Nat->Ptr) (Fs:Nat->List Nat) (hs:Small t q)
  (hn:t.names.length=0/\FN= []\/ ∃b,q.A=some ⟨b,0,none⟩/\FN= [b]/\TxR W b t.names)
  (hp:t.parts.length=0/\FP= []\/ ∃b,q.P=some ⟨b,0,none⟩/\FP= [b]/\PaR W b t.parts qs)
  (hr: ∀i (h:i < t.parts.length),Own W (qs i) (t.parts[i]'h) (Fs i)) (hF:F=FN++FP++(List.range t.parts.length).flatMap Fs):Own W q t F
theorem Own.small {W:World} {q:Ptr} {t:Sh} {F:List Nat} (h:Own W q t F):Small t q:=by cases h; assumption
theorem Own.of {W W':World} {q:Ptr} {t:Sh} {F:List Nat} (h:Own W q t F) (d: ∀b∈F,Z7N W W' b) (f:W.heap.size<=W'.heap.size):Own W' q t F:=by
 induction h with
 | mk q t F FN FP qs Fs hs hn hp hr hF ih=>
  subst hF;refine .mk q t _ FN FP qs Fs hs ?_ ?_ ?_ rfl
  {rcases hn with h | ⟨b,a,rfl,c⟩
   {exact Or.inl h}
   {exact Or.inr ⟨b,a,rfl,c.of (d b (by simp)) f⟩}}
  {rcases hp with h | ⟨b,a,rfl,c⟩
   {exact Or.inl h}
   {exact Or.inr ⟨b,a,rfl,c.of (d b (by simp)) f⟩}}
  {intro i e;refine ih i e (fun b hb=>d b ?_);refine List.mem_append_right _ (List.mem_flatMap.2 ⟨i,List.mem_range.2 e,hb⟩)}
theorem Own.at_ {W:World} {q:Ptr} {t:Sh} {F:List Nat} {B:Nat} (h:Own W q t F) (e: ∀b∈F,b < B):ShAt W B q t:=by
 induction h with
 | mk q t F FN FP qs Fs hs hn hp hr hF ih=>
  subst hF;have f:Strs W B q.A (strs t.names):=by
   rcases hn with ⟨h,_⟩ | ⟨b,c,rfl,d⟩
   {exact Or.inl (by rw[Z2j]; exact h)}
   {refine Or.inr ⟨b,0,c,e b (by simp),fun i hi=> ?_⟩;rw[Z2j] at hi;rw[Nat.zero_add,d.at_ i hi];simp[strs]}
  have a: ∀i (h:i < t.parts.length),ShAt W B (qs i) (t.parts[i]'h):=fun i hi=>ih i hi (fun b hb=>e b (List.mem_append_right _ (List.mem_flatMap.2 ⟨i,List.mem_range.2 hi,hb⟩)));rcases hp with ⟨h,_⟩ | ⟨b,c,rfl,d⟩
  {exact .mk q t 0 0 qs hs f (Or.inl h) (fun i hi=>absurd hi (by omega)) a}
  {exact .mk q t b 0 qs hs f (Or.inr ⟨c,e b (by simp)⟩) (fun i hi=>by rw[Nat.zero_add]; exact d.at_ i hi) a}
theorem Own.lt {W:World} {q:Ptr} {t:Sh} {F:List Nat} (h:Own W q t F): ∀b∈F,b < W.heap.size:=by
 induction h with
 | mk q t F FN FP qs Fs hs hn hp hr hF ih=>
  subst hF;intro b a;rcases List.mem_append.1 a with a | a
  {rcases List.mem_append.1 a with a | a
   {rcases hn with ⟨_,rfl⟩ | ⟨c,_,rfl,d⟩
    {cases a}
    {rw[List.mem_singleton] at a; subst a; exact d.lt}}
   {rcases hp with ⟨_,rfl⟩ | ⟨c,_,rfl,d⟩
    {cases a}
    {rw[List.mem_singleton] at a; subst a; exact d.lt}}}
  {obtain ⟨i,hi,a⟩:=List.mem_flatMap.1 a;exact ih i (List.mem_range.1 hi) b a}
def Node (W:World) (g i:Nat) (t:Sh) (F:List Nat):Prop:= ∃q,Sh5 W g (i * 5) t q/\Own W q t F
structure Nd where
 g:Nat
 i:Nat
 t:Sh
 q:Ptr
def Ready (r:Nat) (T:Sh) (L:List Nd) (D:List Nat) (W:World):Prop:=
 ∀(W':World) (Fs:Nat->List Nat),W.heap.size<=W'.heap.size->
  (∀b∈D,∀k,(∀n∈L,¬(n.g=b/\(k=n.i * 5+3\/k=n.i * 5+4)))->W'.cell? ⟨b,k,none⟩=W.cell? ⟨b,k,none⟩)->
  (∀b∈D,∀k,W'.frozen? ⟨b,k,none⟩=W.frozen? ⟨b,k,none⟩)->
  (∀j (h:j < L.length),Node W' (L[j]'h).g (L[j]'h).i (L[j]'h).t (Fs j))->
  (∀j,j < L.length-> ∀b∈Fs j,b∉D)->((List.range L.length).flatMap Fs).Nodup->
  ∃F,Node W' r 0 T F/\F.Nodup/\ ∀b∈F,b∈D\/ ∃j,j < L.length/\b∈Fs j
theorem ZhS (r:Nat) (T:Sh) (q:Ptr) (D:List Nat) (W:World):Ready r T [⟨r,0,T,q⟩] D W:=by
 intro W' Fs _ _ _ c _ a;refine ⟨Fs 0,c 0 (by simp),by simpa using a,fun b hb=>Or.inr ⟨0,by simp,hb⟩⟩
theorem Zih {r:Nat} {T:Sh} {D:List Nat} {W:World} (h:Ready r T [] D W): ∃F,Node W r 0 T F/\F.Nodup/\ ∀b∈F,b∈D:=by
 obtain ⟨F,c,d,e⟩:=h W (fun _=> []) (Nat.le_refl _) (fun _ _ _ _=>rfl) (fun _ _ _=>rfl) (fun j a=>absurd a (by simp)) (fun j a=>absurd a (by simp)) (by simp);refine ⟨F,c,d,fun b hb=> ?_⟩;rcases e b hb with h | ⟨j,a,_⟩
 {exact h}
 {exact absurd a (by simp)}
theorem Ready.of {r:Nat} {T:Sh} {L:List Nd} {D:List Nat} {W W1:World} (h:Ready r T L D W) (a: ∀b∈D,Z7N W W1 b) (c:W.heap.size<=W1.heap.size):Ready r T L D W1:=
 fun W' Fs hz' hc hf hN hd hn=>h W' Fs (Nat.le_trans c hz') (fun b hb k hx=>(hc b hb k hx).trans ((a b hb).1 k)) (fun b hb k=>(hf b hb k).trans ((a b hb).2 k)) hN hd hn
def kids (pb:Nat) (ps:List Sh) (qs:Nat->Ptr):List Nd:=ps.mapIdx fun i p=>⟨pb,i,p,qs i⟩
section
variable (pb : Nat) (ps : List Sh) (qs : Nat -> Ptr)
include pb ps qs
theorem Z5N: (kids pb ps qs).length=ps.length:=by simp[kids]
theorem ZaA (i:Nat) (h:i < (kids pb ps qs).length): (kids pb ps qs)[i]'h=⟨pb,i,ps[i]'(by rwa [Z5N] at h),qs i⟩:=by simp[kids]
end
theorem Zeo {pb:Nat} {ps:List Sh} {qs:Nat->Ptr} {n:Nd} (h:n∈kids pb ps qs):n.g=pb:=by
 obtain ⟨i,a,rfl⟩:=List.getElem_of_mem h;rw[ZaA]
theorem Z7v {n m:Nat} (a:Nat->List Nat): (List.range (n+m)).flatMap a=(List.range n).flatMap a++(List.range m).flatMap (fun i=>a (n+i)):=by
 rw[List.range_add,List.flatMap_append,List.flatMap_map]
theorem Ready.step {r:Nat} {T:Sh} {L:List Nd} {a:Nd} {D DN DP:List Nat} {W W1:World} {q1:Ptr} {pb:Nat} {qs:Nat->Ptr} (hR:Ready r T (L++ [a]) D W) (X: ∀b∈D,b < W.heap.size)
 (a0:a.g∈D) (Y: ∀n∈L,n.g∈D) (a2: ∀n∈L,n.g=a.g->n.i≠a.i) (a4:W.heap.size<=W1.heap.size) (ha:Sh5 W1 a.g (a.i * 5) a.t q1) (hs:Small a.t q1)
 (hk: ∀b∈D,∀k,¬(a.g=b/\(k=a.i * 5+3\/k=a.i * 5+4))->W1.cell? ⟨b,k,none⟩=W.cell? ⟨b,k,none⟩) (hf: ∀b∈D,∀k,W1.frozen? ⟨b,k,none⟩=W.frozen? ⟨b,k,none⟩)
 (H:a.t.names.length=0/\DN= []\/ ∃b,q1.A=some ⟨b,0,none⟩/\DN= [b]/\W.heap.size<=b/\TxR W1 b a.t.names)
 (U:a.t.parts.length=0/\DP= []\/q1.P=some ⟨pb,0,none⟩/\DP= [pb]/\W.heap.size<=pb/\pb∉DN/\PaR W1 pb a.t.parts qs):
 Ready r T (L++kids pb a.t.parts qs) (D++DN++DP) W1:=by
 intro W' Fs u s E hN A G;have g: (L++kids pb a.t.parts qs).length=L.length+a.t.parts.length:=by rw[List.length_append,Z5N]
 have a3: ∀n∈kids pb a.t.parts qs,a.t.parts.length≠0:=fun n H I=>by
  have:kids pb a.t.parts qs= []:=List.eq_nil_of_length_eq_zero (by rw[Z5N]; exact I);rw[this] at H; cases H
 have C: ∀n∈kids pb a.t.parts qs,n.g=pb/\W.heap.size<=pb/\pb∉DN:=fun n hnm=>by
  rcases U with ⟨I,_⟩ | ⟨_,_,h3,w,_⟩
  {exact absurd I (a3 n hnm)}
  {exact ⟨Zeo hnm,h3,w⟩}
 have J: ∀b∈DN,W.heap.size<=b:=fun b d=>by
  rcases H with ⟨_,rfl⟩ | ⟨c,_,rfl,h3,_⟩
  {cases d}
  {rw[List.mem_singleton] at d; subst d; exact h3}
 have z: ∀b∈DP,W.heap.size<=b/\b∉DN:=fun b d=>by
  rcases U with ⟨_,rfl⟩ | ⟨_,rfl,h3,w,_⟩
  {cases d}
  {rw[List.mem_singleton] at d; subst d; exact ⟨h3,w⟩}
 have K:DN.Nodup:=by
  rcases H with ⟨_,rfl⟩ | ⟨c,_,rfl,_⟩ <;> simp
 have M:DP.Nodup:=by
  rcases U with ⟨_,rfl⟩ | ⟨_,rfl,_⟩ <;> simp
 let Fk:Nat->List Nat:=fun i=>Fs (L.length+i)
 let Fa:List Nat:=DN++DP++(List.range a.t.parts.length).flatMap Fk
 let Fs':Nat->List Nat:=fun j=>if j < L.length then Fs j else Fa
 rw[g] at A G;rw[Z7v] at G;have t:=List.nodup_append.1 G;have m: ∀j,j < L.length+a.t.parts.length-> ∀b∈Fs j,b∉D/\b∉DN/\b∉DP:=fun j o b d=>by
  have:=A j o b d;simp only[List.mem_append,not_or] at this;exact ⟨this.1.1,this.1.2,this.2⟩
 -- the place that was copied
 have Q: ∀i (h:i < a.t.parts.length),Node W' pb i (a.t.parts[i]'h) (Fk i):=fun i hi=>by
  have h1:=hN (L.length+i) (by rw[g]; omega);have e: (L++kids pb a.t.parts qs)[L.length+i]'(by rw[g]; omega)=⟨pb,i,a.t.parts[i]'hi,qs i⟩:=by
   rw[List.getElem_append_right (by omega)];simp only[Nat.add_sub_cancel_left];exact ZaA _ _ _ _ _
  rw[e] at h1;exact h1
 have v: ∃V:Nat->Ptr,∀i (h:i < a.t.parts.length),Sh5 W' pb (i * 5) (a.t.parts[i]'h) (V i)/\Own W' (V i) (a.t.parts[i]'h) (Fk i):=by
  refine ⟨fun i=>if h:i < a.t.parts.length then (Q i h).choose else ⟨none,0,none,0⟩,fun i h=> ?_⟩;simp only[dif_pos h];exact (Q i h).choose_spec
 obtain ⟨V,v⟩:=v;have B: ∀b∈D,∀k,(∀n∈L,¬(n.g=b/\(k=n.i * 5+3\/k=n.i * 5+4)))->W'.cell? ⟨b,k,none⟩=W1.cell? ⟨b,k,none⟩:=fun b d k hx=>by
  refine s b (by simp[d]) k (fun n hnm=> ?_);rcases List.mem_append.1 hnm with h | h
  {exact hx n h}
  {intro ⟨h1,_⟩;have h2:=C n h;have:=X b d;omega}
 have Z:Node W' a.g a.i a.t Fa:=by
  refine ⟨q1, ?_,.mk q1 a.t Fa DN DP V Fk hs ?_ ?_ (fun i hi=>(v i hi).2) rfl⟩
  {have e: ∀c,c < 5->W'.cell? ⟨a.g,a.i * 5+c,none⟩=W1.cell? ⟨a.g,a.i * 5+c,none⟩:=fun c hc=>B a.g a0 _ (fun n hnm ⟨h1,h2⟩=>by
    have:=a2 n hnm h1;omega)
   obtain ⟨I,h1,h2,h3,w⟩:=ha;exact ⟨(e 0 (by omega)).trans I,(e 1 (by omega)).trans h1,(e 2 (by omega)).trans h2,(e 3 (by omega)).trans h3,(e 4 (by omega)).trans w⟩}
  {rcases H with h | ⟨b,h1,rfl,h3,w⟩
   {exact Or.inl h}
   {refine Or.inr ⟨b,h1,rfl,w.of ⟨fun k=>s b (by simp) k (fun n hnm=> ?_),fun k=>E b (by simp) k⟩ u⟩;rcases List.mem_append.1 hnm with h | h
    {intro ⟨S,_⟩;have:=X _ (Y n h);omega}
    {intro ⟨S,_⟩;have h6:=C n h;rw[List.mem_singleton] at h6;omega}}}
  {rcases U with h | ⟨h1,rfl,h3,w,S⟩
   {exact Or.inl h}
   {exact Or.inr ⟨pb,h1,rfl,Nat.lt_of_lt_of_le S.lt u,fun i hi=>(v i hi).1,fun k=>(E pb (by simp) k).trans (S.fz k)⟩}}
 have N: ∀b∈Fa,b∉D:=fun b d hbD=>by
  have b4:=X b hbD;rcases List.mem_append.1 d with d | d
  {rcases List.mem_append.1 d with d | d
   {have:=J b d; omega}
   {have:=(z b d).1; omega}}
  {obtain ⟨i,hi,d⟩:=List.mem_flatMap.1 d;exact (m (L.length+i) (by have:=List.mem_range.1 hi; omega) b d).1 hbD}
 have O:Fa.Nodup:=by
  refine List.nodup_append.2 ⟨List.nodup_append.2 ⟨K,M,fun x hx y q e=>(z y q).2 (e▸hx)⟩,t.2.1,fun x hx y q e=> ?_⟩;subst e;obtain ⟨i,hi,d⟩:=List.mem_flatMap.1 q;have h1:=m (L.length+i) (by have:=List.mem_range.1 hi; omega) x d;rcases List.mem_append.1 hx with h | h
  {exact h1.2.1 h}
  {exact h1.2.2 h}
 have p: (L++ [a]).length=L.length+1:=by simp
 have P: (List.range L.length).flatMap Fs'=(List.range L.length).flatMap Fs:=by
  have: ∀(l:List Nat),(∀j∈l,j < L.length)->l.flatMap Fs'=l.flatMap Fs:=by
   intro l;induction l with
   | nil=>intro _; rfl
   | cons j l ih=>
    intro h;rw[List.flatMap_cons,List.flatMap_cons,ih (fun j o=>h j (by simp[o]))];simp only[Fs',if_pos (h j (by simp))]
  exact this _ (fun j o=>List.mem_range.1 o)
 obtain ⟨F,h1,h2,h3⟩:=hR W' Fs' (Nat.le_trans a4 u) (fun b d k hx=>by
  rw[B b d k (fun n hnm=>hx n (by simp[hnm]))];exact hk b d k (hx a (by simp)))
  (fun b d k=>(E b (by simp[d]) k).trans (hf b d k))
  (fun j o=>by
   rw[p] at o;by_cases f:j < L.length
   {have e: (L++ [a])[j]'(by rw[p]; omega)=L[j]'f:=List.getElem_append_left f;have h1:=hN j (by rw[g]; omega);have e2: (L++kids pb a.t.parts qs)[j]'(by rw[g]; omega)=L[j]'f:=List.getElem_append_left f;rw[e2] at h1;rw[e];simp only[Fs',if_pos f];exact h1}
   · have a1:j=L.length:=by omega
     subst a1;have e: (L++ [a])[L.length]'(by rw[p]; omega)=a:=by simp
     rw[e];simp only[Fs',if_neg f];exact Z)
  (fun j o b d=>by
   rw[p] at o;by_cases f:j < L.length
   {simp only[Fs',if_pos f] at d;exact (m j (by omega) b d).1}
   · simp only[Fs',if_neg f] at d
     exact N b d)
  (by
   rw[p,List.range_succ,List.flatMap_append,P];have e: [L.length].flatMap Fs'=Fa:=by simp[Fs']
   rw[e];refine List.nodup_append.2 ⟨t.1,O,fun x hx y q e=> ?_⟩;subst e;obtain ⟨j,o,a5⟩:=List.mem_flatMap.1 hx;have hd:=m j (by have:=List.mem_range.1 o; omega) x a5;rcases List.mem_append.1 q with q | q
   {rcases List.mem_append.1 q with q | q
    {exact hd.2.1 q}
    {exact hd.2.2 q}}
   · exact t.2.2 x hx x q rfl)
 refine ⟨F,h1,h2,fun b d=> ?_⟩;rcases h3 b d with h | ⟨j,o,h⟩
 {exact Or.inl (by simp[h])}
 {rw[p] at o;by_cases f:j < L.length
  {simp only[Fs',if_pos f] at h;exact Or.inr ⟨j,by rw[g]; omega,h⟩}
  {simp only[Fs',if_neg f] at h;rcases List.mem_append.1 h with h | h
   {rcases List.mem_append.1 h with h | h
    {exact Or.inl (by simp[h])}
    {exact Or.inl (by simp[h])}}
   {obtain ⟨i,hi,h⟩:=List.mem_flatMap.1 h;exact Or.inr ⟨L.length+i,by rw[g]; have:=List.mem_range.1 hi; omega,h⟩}}}
end
end Go.Proofs.YtkncdbaoaeeoiaaGreatDoor
namespace Prs
open Go.Proofs.YtkncdbaoaeeoiaaGreatDoor (Tk)
end Prs
namespace Go.Proofs.YtkncdbaoaeeoiaaGreatDoor
open Go.RowKit Prs
open Shp (Sh)
def aW (w:World):World:=(w.alloc (.cells Yb 43)).alloc (.cells Yc 29)
theorem Z0V (w:World):Below w.heap.size w (aW w):=Z03 (Z01 _ _) _
theorem Z57 (w:World):Z1s (aW w) w.heap.size:=by
 refine ⟨by simp[aW]; omega,⟨?_, ?_, ?_, ?_, ?_⟩, ?_, ?_, ?_, ?_, ?_⟩ <;> simp[aW,go_sem]
theorem Z69 (w:World):Box2 (aW w) (w.heap.size+1) 0 0:=by
 refine ⟨by simp[aW], ?_, ?_, ?_, ?_⟩ <;> simp[aW,go_sem]
theorem Z1s.next {W W':World} {g:Nat} (h:Z1s W g) (b:Below W.heap.size W W'):Z1s W' g:=by
 obtain ⟨a,⟨m,n,o,q,r⟩,d,e,i,j,l⟩:=h;have c: ∀k,W'.cell? ⟨g,k,none⟩=W.cell? ⟨g,k,none⟩:=fun k=>b.cell (p:=⟨g,k,none⟩) a;have f: ∀k,W'.frozen? ⟨g,k,none⟩=W.frozen? ⟨g,k,none⟩:=fun k=>b.frozen (p:=⟨g,k,none⟩) a;exact ⟨Nat.lt_of_lt_of_le a b.size,⟨(c 0).trans m,(c 1).trans n,(c 2).trans o,(c 3).trans q,(c 4).trans r⟩,(f 0).trans d,(f 1).trans e,(f 2).trans i,(f 3).trans j,(f 4).trans l⟩
end Go.Proofs.YtkncdbaoaeeoiaaGreatDoor
namespace Pso
open Go.Proofs.YtkncdbaoaeeoiaaGreatDoor (Tk)
open Prs (Flt R)
def rd {α:Type} (l:List Tk) (a:Int) (whole:St->α×St):R α:=
 if a < 0\/(l.length:Int) < a then .error (2,0)
 else if 4097 < l.length then .error (3,0)
 else if (whole (a.toNat,(0,0))).2.2.1=0 then .ok ((whole (a.toNat,(0,0))).1,(whole (a.toNat,(0,0))).2.1)
 else .error (whole (a.toNat,(0,0))).2.2
end Pso
namespace Go.Proofs.YtkncdbaoaeeoiaaGreatDoor
open Go.RowKit Tms
open Shp (Sh)
open Pso (St Ok Goes betw loop want)
open Prs (sign R Flt)
def TyOut (r:R Sh) (w:World) (e:Ending) (w':World):Prop:=
 Below w.heap.size w w'/\match r with
 | .ok y=> ∃x:ES,e= .returned (.tuple #[valS x,.int .i64 (y.2:Int),.agg #[.int .i64 0,.int .i64 0]])/\x.Is w'/\w.heap.size<=x.lo/\x.t=y.1
 | .error f=>e= .returned (.tuple #[.agg #[.int .i64 0,.string ⟨#[]⟩,.string ⟨#[]⟩,.slice none 0 0,.slice none 0 0],.int .i64 0,.agg #[.int .i64 f.1,.int .i64 f.2]])
def TyFn (fn:Nat) (whole:List Tk->St->Sh×St):Prop:= ∀(bp:Nat) (A:Option Addr) (c:Nat) (l:List Tk),l.length<=5000->(∀b∈l,b.t.text.length<=1000000)-> ∀(σ:St),Ok l σ-> ∀(w:World),PAt w bp A c l σ->
 Calls Tryz.prog fn #[.pointer (some ⟨bp,0,none⟩)] w (TyIs bp A c l (whole l σ) w)
def bW (w:World):World:=(aW w).alloc (.cells Yb 43)
theorem Zd1 (w:World):Z1s (w.alloc (.cells Yb 43)) w.heap.size:=by
 refine ⟨by simp,⟨?_, ?_, ?_, ?_, ?_⟩, ?_, ?_, ?_, ?_, ?_⟩ <;> simp[go_sem]
theorem ZaB (w:World):Z1s (bW w) (w.heap.size+1+1):=by
 have h:=Zd1 (aW w);rw[show (aW w).heap.size=w.heap.size+1+1 by simp[aW]] at h;exact h
theorem Z0U {w V E:World} (a:Below w.heap.size w V) (b:UpT [w.heap.size,w.heap.size+1] V E):Below w.heap.size w E:=
 ((Z05 (F:= [w.heap.size,w.heap.size+1]) a).trans b).low (by simp)
theorem Z8B {w V E:World} {x:ES} (d:x.Is V) (a:w.heap.size+1+1<=x.lo) (c:UpT [w.heap.size,w.heap.size+1] V E):x.Is E:=
 New.up d c (fun b hb=>by simp at hb; omega)
section
variable {F : List Nat} {W W' : World} {g : Nat}
include F W W' g
theorem Z1s.upT (h:Z1s W g) (c:UpT F W W') (p:g∉F):Z1s W' g:=by
 obtain ⟨b,⟨k,l,m,n,o⟩,d,e,f,i,j⟩:=h;have a:=c.same b p;exact ⟨Nat.lt_of_lt_of_le b c.size,⟨(a.1 _).trans k,(a.1 _).trans l,(a.1 _).trans m,(a.1 _).trans n,(a.1 _).trans o⟩,(a.2 _).trans d,(a.2 _).trans e,(a.2 _).trans f,(a.2 _).trans i,(a.2 _).trans j⟩
theorem Box2.upT {a b:Int} (h:Box2 W g a b) (e:UpT F W W') (l:g∉F):Box2 W' g a b:=by
 obtain ⟨d,j,k,f,i⟩:=h;have c:=e.same d l;exact ⟨Nat.lt_of_lt_of_le d e.size,(c.1 _).trans j,(c.1 _).trans k,(c.2 _).trans f,(c.2 _).trans i⟩
end
theorem Z6C (A:Option Addr) (c:Nat) (l:List Tk) (at_:Int) (B: ∀b∈l,b.t.text.length<=1000000) (ha: -9223372036854775808<=at_/\at_<=9223372036854775807) (hl:l.length<=1000000000) (L:Nat) (T: ∀args W,(callFunc L args).run Tryz.prog W= .ok (.enter L args) W) (whole:List Tk->St->Sh×St) (u:TyFn L whole) (w:World) (h:Tks w w.heap.size A l) (Q:Gl w):
 Calls Tryz.prog 38 #[.slice A l.length c,.int .i64 at_,.func (.func L) #[] #[]] w (TyOut (Pso.rd l at_ (whole l)) w):=by
 have HT:=Y1 u;have HB:=Y1 (Z0V w);have Z:=Y1 (Z57 w);have Y:=Y1 (Z69 w);have HK:=Y1 (h.on (Z0V w));have HG:=Y1 (Q.next (Z0V w));by_cases s:at_ < 0
 {have n:Hid (Pso.rd l at_ (whole l)= .error (2,0)):=Y1 (by unfold Pso.rd; rw[if_pos (Or.inl s)]);rw[n.out];have e1:decide (at_ < 0)=true:=by simpa using s
  clear h s u B;go_enter Tryz.func38,Tryz.ntmps38
  go_wp2_with fail
  refine bodyPost_ret (v:= .tuple #[.agg #[.int .i64 0,.string ⟨#[]⟩,.string ⟨#[]⟩,.slice none 0 0,.slice none 0 0],.int .i64 0,.agg #[.int .i64 2,.int .i64 0]]) (by simp[results,Tryz.results38,go_sem]) rfl ?_;exact ⟨Z03 (Z03 (Z01 _ _) _) _,rfl⟩}
 {have e1:decide (at_ < 0)=false:=by simpa using s
  obtain ⟨i,hi⟩: ∃i:Nat,at_=(i:Int):=⟨at_.toNat,by omega⟩;subst hi;by_cases O:l.length < i
  {have n:Hid (Pso.rd l (i:Int) (whole l)= .error (2,0)):=Y1 (by unfold Pso.rd; rw[if_pos (Or.inr (by omega))]);rw[n.out];have e2:decide (l.length < i)=true:=by simpa using O
   clear h s u B;go_enter Tryz.func38,Tryz.ntmps38
   go_wp2_with fail
   refine bodyPost_ret (v:= .tuple #[.agg #[.int .i64 0,.string ⟨#[]⟩,.string ⟨#[]⟩,.slice none 0 0,.slice none 0 0],.int .i64 0,.agg #[.int .i64 2,.int .i64 0]]) (by simp[results,Tryz.results38,go_sem]) rfl ?_;exact ⟨Z03 (Z03 (Z01 _ _) _) _,rfl⟩}
  {have e2:decide (l.length < i)=false:=by simpa using O
   by_cases P:4097 < l.length
   {have n:Hid (Pso.rd l (i:Int) (whole l)= .error (3,0)):=Y1 (by unfold Pso.rd; rw[if_neg (by omega),if_pos P]);rw[n.out];have e3:decide ((4097:Int) < (l.length:Int))=true:=by simp; omega
    clear h s u B;go_enter Tryz.func38,Tryz.ntmps38
    go_wp2_with fail
    refine bodyPost_ret (v:= .tuple #[.agg #[.int .i64 0,.string ⟨#[]⟩,.string ⟨#[]⟩,.slice none 0 0,.slice none 0 0],.int .i64 0,.agg #[.int .i64 3,.int .i64 0]]) (by simp[results,Tryz.results38,go_sem]) rfl ?_;exact ⟨Z03 (Z03 (Z01 _ _) _) _,rfl⟩}
   {have e3:decide ((4097:Int) < (l.length:Int))=false:=by simp; omega
    have n:Hid (Pso.rd l (i:Int) (whole l)=if (whole l (i,(0,0))).2.2.1=0 then .ok ((whole l (i,(0,0))).1,(whole l (i,(0,0))).2.1) else .error (whole l (i,(0,0))).2.2):=Y1 (by unfold Pso.rd; rw[if_neg (by omega),if_neg P]; rfl);rw[n.out];have hO:Ok l (i,(0,0)):=⟨by show i<=l.length; omega,fun h=>absurd rfl h⟩;have J:=Y1 (show PAt ((bW w).alloc (.cells #[.slice A l.length c,.int .i64 (i:Int),.int .i64 0,.int .i64 0] 81)) (w.heap.size+1+1+1) A c l (i,(0,0)) from ?_);have I:=Y1 (fun W h=>u (w.heap.size+1+1+1) A c l (by omega) B (i,(0,0)) hO W h);have p:=Y1 (show Below w.heap.size w ((bW w).alloc (.cells #[.slice A l.length c,.int .i64 (i:Int),.int .i64 0,.int .i64 0] 81)) from Z03 (Z03 (Z0V w) _) _);have f:=Y1 (show Z1s ((bW w).alloc (.cells #[.slice A l.length c,.int .i64 (i:Int),.int .i64 0,.int .i64 0] 81)) w.heap.size/\Box2 ((bW w).alloc (.cells #[.slice A l.length c,.int .i64 (i:Int),.int .i64 0,.int .i64 0] 81)) (w.heap.size+1) 0 0/\Z1s ((bW w).alloc (.cells #[.slice A l.length c,.int .i64 (i:Int),.int .i64 0,.int .i64 0] 81)) (w.heap.size+1+1) from ⟨(Z.out.next (Z01 _ _)).next (Z01 _ _),(Y.out.next (Z01 _ _)).next (Z01 _ _),Z1s.next (ZaB w) (Z01 _ _)⟩);clear h s O P u B n HT;obtain ⟨y,hy⟩: ∃y,y=whole l (i,(0,0)):=⟨_,rfl⟩;rw[<-hy] at I ⊢;clear hy;obtain ⟨ys,X,t,V⟩:=y;obtain ⟨r,U⟩: ∃r:R Sh,r=if t=0 then .ok (ys,X) else .error (t,V):=⟨_,rfl⟩;have j:=Y1 U;dsimp only at I ⊢;rw[<-U];clear U;go_enter Tryz.func38,Tryz.ntmps38
    go_wp2_with fail
    change Calls _ _ _ ((bW w).alloc (.cells #[.slice A l.length c,.int .i64 (i:Int),.int .i64 0,.int .i64 0] 81)) _;generalize (bW w).alloc (.cells #[.slice A l.length c,.int .i64 (i:Int),.int .i64 0,.int .i64 0] 81)=W3 at J p f ⊢;refine (I.out W3 J.out).mono ?_;rintro e K ⟨x,rfl,G,g,H,E,o⟩;simp only[valS];have a:=Z01 K (.cells (Y8 x.t x.q) 43);have m:=G.below a;have S:w.heap.size+1+1+1 < W3.heap.size:=J.out.lt;have C:=Y1 (show Below w.heap.size w (K.alloc (.cells (Y8 x.t x.q) 43)) from Z00 (((Z05 (F:= [w.heap.size+1+1+1]) p.out).trans g).low (by intro b z; simp at z; omega)) a);have N:=Y1 (show x.Is (K.alloc (.cells (Y8 x.t x.q) 43)) from New.below H a);have D:Hid (w.heap.size+1+1<=x.lo):=Y1 (by omega);have M:=Y1 o;obtain ⟨z0,⟨z1,z2,z3,z4,z5⟩,c9,d0,d1,d2,d3⟩:=(f.out.1.upT g (by intro z; simp at z; omega)).next a;obtain ⟨x0,x1,x2,b9,c8⟩:=(f.out.2.1.upT g (by intro z; simp at z)).next a;obtain ⟨n0,⟨n1,n2,n3,n4,n5⟩,b4,b5,b6,b7,b8⟩:=(f.out.2.2.upT g (by simp)).next a;obtain ⟨c0,c1,c2,c3,c4,cf,cl⟩:=Z0t K (.int .i64 x.t.kind) (.string ⟨x.t.of_.toArray⟩) (.string ⟨x.t.name.toArray⟩) (.slice x.q.A x.t.names.length x.q.c) (.slice x.q.P x.t.parts.length x.q.d) 43;have p1:=m.c1;have p2:=m.c2;have p3:=m.c3;dsimp only at p1 p2 p3;clear G g H E o m a J p f I S HB Z Y HK HG hO ha T Q;by_cases d:t=0
    {have q:Hid (r= .ok (ys,X)):=Y1 (by rw[j.out,if_pos d]);have e5: (t !=0)=false:=by simpa using d
     clear j d
     go_wp2_with fail
     go_region
     all_goals go_wp2
     all_goals refine bodyPost_ret (v:= .tuple #[valS x,.int .i64 (X:Int),.agg #[.int .i64 0,.int .i64 0]]) (by simp[results,Tryz.results38,go_sem,valS,z0,x0,z1,z2,z3,z4,z5,x1,x2]) rfl ?_
     all_goals rw[q.out]
     all_goals refine ⟨Z0U C.out ?_,x,rfl,Z8B N.out D.out ?_,by have:=D.out; omega,M.out⟩
     all_goals repeat' (with_reducible first | refine UpT.drew ?_ | refine UpT.set ?_ _ (Or.inr ?_) _ | exact UpT.refl _ _)
     all_goals simp}
    {have q:Hid (r= .error (t,V)):=Y1 (by rw[j.out,if_neg d]);have e5: (t !=0)=true:=by simpa using d
     clear j d
     go_wp2_with fail
     go_region
     all_goals go_wp2
     all_goals refine bodyPost_ret (v:= .tuple #[.agg #[.int .i64 0,.string ⟨#[]⟩,.string ⟨#[]⟩,.slice none 0 0,.slice none 0 0],.int .i64 0,.agg #[.int .i64 t,.int .i64 V]]) (by simp[results,Tryz.results38,go_sem,valS,z0,x0,z1,z2,z3,z4,z5,x1,x2]) rfl ?_
     all_goals rw[q.out]
     all_goals refine ⟨Z0U C.out ?_,rfl⟩
     all_goals repeat' (with_reducible first | refine UpT.drew ?_ | refine UpT.set ?_ _ (Or.inr ?_) _ | exact UpT.refl _ _)
     all_goals simp}
    {have e: (bW w).heap.size=w.heap.size+1+1+1:=by simp[bW,aW]
     have hk:Tks (bW w) (w.heap.size+1+1+1) A l:=by rw[<-e]; exact h.on (Z03 (Z0V w) _)
     refine ⟨by simp[bW,aW], ?_, ?_, ?_, ?_,fun k=> ?_,hk.same (fun b z=>(Z05 (F:= []) (Z01 _ _)).same (by omega) (by simp)),⟨w,by omega,Z03 (Z03 (Z0V w) _) _,Q⟩,B⟩
     all_goals rw[<-e]
     all_goals (first | done | simp[go_sem])}}}}
end Go.Proofs.YtkncdbaoaeeoiaaGreatDoor
namespace Go.Proofs.YtkncdbaoaeeoiaaGreatDoor
section
open Go.RowKit Tms
open Shp (Sh)
open Pso (St Ok)
open Prs (R)
theorem Zd2:TyFn 39 Pso.wholeT:=fun bp A c l hl hx σ hO w h=>Z0P bp A c l hl hx σ hO w h
theorem Zbt (A:Option Addr) (c:Nat) (l:List Tk) (at_:Int) (u: ∀b∈l,b.t.text.length<=1000000) (I: -9223372036854775808<=at_/\at_<=9223372036854775807) (J:l.length<=1000000000) (w:World) (h:Tks w w.heap.size A l) (o:Gl w):
 Calls Tryz.prog 24 #[.slice A l.length c,.int .i64 at_] w (TyOut (Pso.rd l at_ (Pso.wholeT l)) w):=by
 have k:=Y1 (Z0V w);have i:=Y1 (Z57 w);have g:=Y1 (Z69 w);have m:=Y1 (Z6C A c l at_ u I J 39 (fun _ _=>rfl) Pso.wholeT Zd2 (aW w) (h.on (Z0V w)) (o.next (Z0V w)));obtain ⟨r,s⟩: ∃r,r=Pso.rd l at_ (Pso.wholeT l):=⟨_,rfl⟩;rw[<-s] at m ⊢;clear h o u s;go_enter Tryz.func24,Tryz.ntmps24
 go_wp2_with fail
 change Calls _ _ _ (aW w) _;refine m.out.mono ?_;generalize aW w=W0 at k i g ⊢;rintro e W1 ⟨j,q⟩;have a:=Y1 (Z00 k.out j);have T:=i.out.1;have K:=g.out.1;obtain ⟨z,⟨B,C,D,E,F⟩,N,O,P,Q,S⟩:=i.out.next j;obtain ⟨x0,x1,x2,L,M⟩:=g.out.next j;cases r with
 | ok y=>
  obtain ⟨x,rfl,p,n,t⟩:=q;have G:=Y1 p;have d:Hid (w.heap.size+1+1<=x.lo):=Y1 (by omega);have H:=Y1 t;clear p n t j k i g m;simp only[valS]
  go_wp2_with fail
  all_goals refine bodyPost_ret (v:= .tuple #[valS x,.int .i64 (y.2:Int),.agg #[.int .i64 0,.int .i64 0]]) (by simp[results,Tryz.results24,go_sem,valS,z,x0,B,C,D,E,F,x1,x2]) rfl ?_
  all_goals refine ⟨Z0U a.out ?_,x,rfl,Z8B G.out d.out ?_,by have:=d.out; omega,H.out⟩
  all_goals repeat' (with_reducible first | refine UpT.drew ?_ | refine UpT.set ?_ _ (Or.inr ?_) _ | exact UpT.refl _ _)
  all_goals simp
 | error f=>
  obtain rfl:=q;clear j k i g m
  go_wp2_with fail
  all_goals refine bodyPost_ret (v:= .tuple #[.agg #[.int .i64 0,.string ⟨#[]⟩,.string ⟨#[]⟩,.slice none 0 0,.slice none 0 0],.int .i64 0,.agg #[.int .i64 f.1,.int .i64 f.2]]) (by simp[results,Tryz.results24,go_sem,z,x0,B,C,D,E,F,x1,x2]) rfl ?_
  all_goals refine ⟨Z0U a.out ?_,rfl⟩
  all_goals repeat' (with_reducible first | refine UpT.drew ?_ | refine UpT.set ?_ _ (Or.inr ?_) _ | exact UpT.refl _ _)
  all_goals simp
end
section
open Go.RowKit
def roundLeft (b:Nat) (I Ix:List (List UInt8)->World->Prop) (xs:List (List UInt8)) (W:World):Exit->Act->World->Prop
 | .normal,_,W'=>KeepsOthers W W'/\Below (b+3) W W'/\I xs W'
 | .ret,_,W'=>KeepsOthers W W'/\Ix xs W'
 | _,_,_=>False
theorem Z1j {B:Nat} {W:World} {l:Nat} (o:Obj) (h:B<=l):Below B W (W.putObj l o):=
 ⟨rfl,rfl,rfl,by simp,fun k hk=>World.putObj_heap_other (by omega)⟩
theorem Zd3 {g:Operand} {ps:Array Tmp} {assign body:Code} {Q:Exit->Act->World->Prop} {a:Act} {w:World} (n:Nat) (hn:3<=n) (b:Nat) (s:List UInt8)
 (hg:a.eval g= .func (.func 230) #[] #[.pointer (some ⟨b+1,0,none⟩),.pointer (some ⟨b,0,none⟩),.pointer (some ⟨b+2,0,none⟩)])
 (hS:SeqAt w b s) (hs:s.length<=24) (hps:ps.size=1) (I Ix:List (List UInt8)->World->Prop)
 (hI: ∀pre A B,I pre A->Below b A B->I pre B) (hIx: ∀pre A B,Ix pre A->Below b A B->Ix pre B) (h0:I [] w) (a₁:List UInt8->Act)
 (hassign: ∀(l:Nat) (x:List UInt8) (W:World) (K:Act->World->Prop),K (a₁ x) W->
  assign.wpIn (Fence.wide.inRound l) (n - 1 - 1) Tryz.prog (Exit.then K (fun _ _ _=>False)) { tmps:=(ps.zip #[.string ⟨x.toArray⟩]).foldl (fun t (p,v)=>t.setIfInBounds p v) a.tmps,defers:= [] } W)
 (hbody: ∀(l:Nat) (pre:List (List UInt8)) (x:List UInt8) (W:World),I pre W->x.length<=24->body.wpIn (Fence.wide.inRound l) (n - 1 - 1) Tryz.prog (roundLeft b I Ix (pre++ [x]) W) (a₁ x) W)
 (hdone: ∀(D:Nat) (W:World),I (Sem.parts s) W->W.heap[D]? =some (.deferred (some []))->w.heap.size<=D->Q .normal { a with defers:= { target:= .collected D,args:=#[] }::a.defers } W)
 (hstop: ∀(D:Nat) (pre suf:List (List UInt8)) (W:World),pre++suf=Sem.parts s->Ix pre W->W.heap[D]? =some (.deferred (some []))->w.heap.size<=D->Code.ret.wpIn Fence.wide n Tryz.prog Q { a with defers:= { target:= .collected D,args:=#[] }::a.defers } W):
 (Code.rangeFunc g ps assign body).wpIn Fence.wide n Tryz.prog Q a w:=by
 refine wpIn_rangeFunc ?_;intro fn hfn;obtain ⟨rec,hrec⟩: ∃rec:LoopState->Option Code->Loop,rec=fun st pe=> { state:=st,pending:=pe,fn,tmps:=a.tmps,params:=ps,assign,body,defers:=w.heap.size }:=⟨_,rfl⟩;obtain ⟨W1,hW1⟩: ∃W1,(w.alloc (.deferred (some []))).alloc (.loop (rec .ready none))=W1:=⟨_,rfl⟩;have hb3:b+3<=w.heap.size:=hS.1;have hL1:W1.heap[w.heap.size+1]? =some (.loop (rec .ready none)):=by
  rw[<-hW1]; have:=World.alloc_heap_new (w.alloc (.deferred (some []))) (.loop (rec .ready none)); rwa [World.size_alloc] at this
 have hK1:W1.heap[w.heap.size]? =some (.deferred (some [])):=by
  rw[<-hW1]; exact (Below.heap_alloc _ _ _ (by simp)).trans (World.alloc_heap_new w _)
 have hb1:Below w.heap.size w W1:=by rw[<-hW1]; exact Z03 (Z01 _ _) _
 have hI1:I [] W1:=hI _ _ _ h0 (hb1.mono (by omega));refine ⟨w.heap.size+1,[{ target:= .collected w.heap.size,args:=#[] }],W1,{ target:= .fn (.func 230) #[.pointer (some ⟨b+1,0,none⟩),.pointer (some ⟨b,0,none⟩),.pointer (some ⟨b+2,0,none⟩)],args:=#[.func (.yield (w.heap.size+1)) #[] #[]] },W1,230,
  #[.func (.yield (w.heap.size+1)) #[] #[],.pointer (some ⟨b+1,0,none⟩),.pointer (some ⟨b,0,none⟩),.pointer (some ⟨b+2,0,none⟩)],W1, ?_, ?_,fun _ _=>trivial, ?_,fun _=>by omega, ?_⟩
 {rw[<-hW1,hrec]; exact run_enterLoop_outer _ _ _ _ _}
 {simp only[resolve,hg];simp[go_sem]}
 {have e: ∀args w,(callFunc 230 args).run Tryz.prog w= .ok (.enter 230 args) w:=enters_of Tryz.func230 (by kernel_rfl) rfl;simp[invoke,go_sem,e]}
 {refine (Zej (n - 1) (by omega) (w.heap.size+1) b s hs
   (fun pre W=>I pre W/\W.heap[w.heap.size+1]? =some (.loop (rec .ready none))/\W.heap[w.heap.size]? =some (.deferred (some [])))
   (fun pre W=>Ix pre W/\W.heap[w.heap.size+1]? =some (.loop (rec .done (some .ret)))/\W.heap[w.heap.size]? =some (.deferred (some [])))
   W1 ?_ ?_ (hS.keep (hb1.mono (by omega))) ⟨hI1,hL1,hK1⟩).mono ?_
  {-- a round
   rintro pre x W ⟨hi,hl,hk⟩ hx;have hlt:w.heap.size+1 < W.heap.size:=(Array.getElem?_eq_some_iff.1 hl).1;have hy:=run_yield (P:=Tryz.prog) (args:=#[.string ⟨x.toArray⟩]) hl (by rw[hrec]; simp[hps]);rw[hrec] at hy;refine ⟨fn,_,assign,body,hy,roundIn_of_wpIn hfn (hassign _ x W _ ⟨_,run_beginRound hl (by rw[hrec]), ?_⟩)⟩;obtain ⟨W2,hW2⟩: ∃W2,W.putObj (w.heap.size+1) (.loop { rec .ready none with state:= .busy })=W2:=⟨_,rfl⟩;have hl2:W2.heap[w.heap.size+1]? =some (.loop { rec .ready none with state:= .busy }):=by rw[<-hW2]; exact World.putObj_heap_same hlt
   have hk2:W2.heap[w.heap.size]? =some (.deferred (some [])):=by rw[<-hW2]; exact (World.putObj_heap_other (by omega)).trans hk
   have hw2:Below (b+3) W W2:=by rw[<-hW2]; exact Z1j _ (by omega)
   rw[hW2];refine wpIn_mono (hbody _ pre x _ (hI _ _ _ hi (hw2.mono (by omega))) hx) ?_;have fin: ∀(jump:Option Code) (W3:World),KeepsOthers W2 W3->
    (Instr.endRound (w.heap.size+1) jump).run Tryz.prog W3= .ok (.bool jump.isNone) (W3.putObj (w.heap.size+1) (.loop (rec (if jump.isNone then .ready else .done) jump)))/\
    (W3.putObj (w.heap.size+1) (.loop (rec (if jump.isNone then .ready else .done) jump))).heap[w.heap.size+1]? =some (.loop (rec (if jump.isNone then .ready else .done) jump))/\
    (W3.putObj (w.heap.size+1) (.loop (rec (if jump.isNone then .ready else .done) jump))).heap[w.heap.size]? =some (.deferred (some [])):=fun jump W3 hk3=>by
    have hl3:=hk3.same _ _ hl2 rfl;have:=run_endRound (P:=Tryz.prog) jump hl3;rw[hrec] at this ⊢;exact ⟨this,World.putObj_heap_same (Array.getElem?_eq_some_iff.1 hl3).1,(World.putObj_heap_other (by omega)).trans (hk3.same _ _ hk2 rfl)⟩
   rintro e a3 W3 hp;cases e with
   | normal=>
    obtain ⟨hk3,hkp3,hi3⟩:=hp;obtain ⟨hr,hl4,hk4⟩:=fin none W3 hk3;exact ⟨_,_,hr,.inl ⟨rfl,⟨hI _ _ _ hi3 (Z1j _ (by omega)),hl4,hk4⟩,(hw2.trans hkp3).trans (Z1j _ (by omega))⟩⟩
   | ret=>
    obtain ⟨hk3,hi3⟩:=hp;obtain ⟨hr,hl4,hk4⟩:=fin (some .ret) W3 hk3;exact ⟨_,_,hr,.inr ⟨rfl,hIx _ _ _ hi3 (Z1j _ (by omega)),hl4,hk4⟩⟩
   | exit id=>exact hp.elim
   | goto t=>exact hp.elim
   | panic ch=>exact hp.elim
   | outgrown=>exact hp.elim}
  {-- the iterator's own cell
   rintro pre W v ⟨hi,hl,hk⟩;have hne1:w.heap.size+1≠b:=by omega
   have hne2:w.heap.size≠b:=by omega
   exact ⟨hI _ _ _ hi ((Below.refl b W).setCell (p:=⟨b,0,none⟩) (Nat.le_refl _) _),(Below.heap_setCell W ⟨b,0,none⟩ v _ hne1).trans hl,(Below.heap_setCell W ⟨b,0,none⟩ v _ hne2).trans hk⟩}
  {-- behind the iterator
   rintro e W2 ⟨⟨v,rfl⟩,(⟨hi,hl,hk⟩ | ⟨pre,suf,hp,hi,hl,hk⟩)⟩
   {exact ⟨none,_,by have:=run_endLoop (P:=Tryz.prog) hl (by rw[hrec]; simp); rw[hrec] at this; exact this,hdone _ _ (hI _ _ _ hi (Z1j _ (by omega))) ((World.putObj_heap_other (by omega)).trans hk) (Nat.le_refl _)⟩}
   {exact ⟨some .ret,_,by have:=run_endLoop (P:=Tryz.prog) hl (by rw[hrec]; simp); rw[hrec] at this; exact this,hstop _ pre suf _ hp (hIx _ _ _ hi (Z1j _ (by omega))) ((World.putObj_heap_other (by omega)).trans hk) (Nat.le_refl _)⟩}}}
theorem Zd4 (c:UInt8):Sem.okc c=((decide (97<=c.toNat)&&decide (c.toNat<=122))||(decide (65<=c.toNat)&&decide (c.toNat<=90))||decide (c.toNat=45)||(decide (48<=c.toNat)&&decide (c.toNat<=57))):=rfl
section
variable {s : ByteArray} {k : Nat} (h : k < s.size)
include s k h
theorem Z1B: (s.data.toList.take (k+1)).all Sem.okc=((s.data.toList.take k).all Sem.okc&&Sem.okc (s[k]'h)):=by
 rw[List.take_succ_eq_append_getElem (by rw[<-Lib.size_eq]; exact h),List.all_append];simp;rfl
theorem Z2l (a:Sem.okc (s[k]'h)=false):Sem.part s.data.toList=false:=by
 have:s.data.toList.all Sem.okc=false:=by
  rw[List.all_eq_false];exact ⟨s[k]'h,by rw[show s[k]'h=s.data.toList[k]'(by rw[<-Lib.size_eq]; exact h) from rfl]; exact List.getElem_mem _,by rw[a]; simp⟩
 unfold Sem.part;rw[this,Bool.and_false,Bool.false_and]
end
def isLet (n:Nat):Bool:=(decide (97<=n)&&decide (n<=122))||(decide (65<=n)&&decide (n<=90))
def isDig (n:Nat):Bool:=decide (48<=n)&&decide (n<=57)
section
variable (n : Nat) (h : n < 256) (w : World)
include n h w
theorem Z3b:
 Calls Tryz.prog 225 #[.int .u8 n] w fun e w'=>e= .returned (.bool (isDig n))/\w=w':=by
 have H:n<=47\/(48<=n/\n<=57)\/58<=n:=by omega
 rcases H with b | ⟨b,d⟩ | b
 {have a:Hid (isDig n=false):=Y1 (by simp[isDig]; omega);go_enter Tryz.func225,Tryz.ntmps225;go_wp2;go_ret;exact ⟨by rw[a.out]; rfl,rfl⟩}
 {have a:Hid (isDig n=true):=Y1 (by simp[isDig]; omega);have c:decide ((n:Int)<=57)=true:=decide_eq_true (by omega);go_enter Tryz.func225,Tryz.ntmps225;go_wp2;go_ret;exact ⟨by rw[a.out]; rfl,rfl⟩}
 {have a:Hid (isDig n=false):=Y1 (by simp[isDig]; omega);have c:decide ((n:Int)<=57)=false:=decide_eq_false (by omega);go_enter Tryz.func225,Tryz.ntmps225;go_wp2;go_ret;exact ⟨by rw[a.out]; rfl,rfl⟩}
theorem Z7w:
 Calls Tryz.prog 226 #[.int .u8 n] w fun e w'=>e= .returned (.bool (isLet n))/\w=w':=by
 have H:n<=64\/(65<=n/\n<=90)\/(91<=n/\n<=96)\/(97<=n/\n<=122)\/123<=n:=by omega
 rcases H with b | ⟨b,d⟩ | ⟨b,d⟩ | ⟨b,d⟩ | b
 {have a:Hid (isLet n=false):=Y1 (by simp[isLet]; omega);go_enter Tryz.func226,Tryz.ntmps226;go_wp2;go_ret;exact ⟨by rw[a.out]; rfl,rfl⟩}
 {have a:Hid (isLet n=true):=Y1 (by simp[isLet]; omega);have c:decide ((n:Int)<=90)=true:=decide_eq_true (by omega);go_enter Tryz.func226,Tryz.ntmps226;go_wp2;go_ret;exact ⟨by rw[a.out]; rfl,rfl⟩}
 {have a:Hid (isLet n=false):=Y1 (by simp[isLet]; omega);have c:decide ((n:Int)<=90)=false:=decide_eq_false (by omega);go_enter Tryz.func226,Tryz.ntmps226;go_wp2;go_ret;exact ⟨by rw[a.out]; rfl,rfl⟩}
 {have a:Hid (isLet n=true):=Y1 (by simp[isLet]; omega);have c:decide ((n:Int)<=122)=true:=decide_eq_true (by omega);go_enter Tryz.func226,Tryz.ntmps226;go_wp2;go_ret;exact ⟨by rw[a.out]; rfl,rfl⟩}
 {have a:Hid (isLet n=false):=Y1 (by simp[isLet]; omega);have c:decide ((n:Int)<=122)=false:=decide_eq_false (by omega);have f:decide ((n:Int)<=90)=false:=decide_eq_false (by omega);go_enter Tryz.func226,Tryz.ntmps226;go_wp2;go_ret;exact ⟨by rw[a.out]; rfl,rfl⟩}
end
section
variable (s : ByteArray) (hs : s.size <= 9223372036854775807) (w : World)
include s hs w
theorem Z2K:
 Calls Tryz.prog 227 #[.string s] w fun e w'=>e= .returned (.bool (Sem.digits s.data.toList))/\w=w':=by
 go_enter Tryz.func227,Tryz.ntmps227
 go_wp2_with fail
 go_loop [6] (fun i=> ∃k:Nat,i= .int .i64 k/\k<=s.size/\Hid ((s.data.toList.take k).all Sem.dig=true)) (fun i=>s.size - (intOf i).toNat)
 case atStart=>exact ⟨0,rfl,Nat.zero_le _,Y1 rfl⟩
 case round=>
  obtain ⟨k,rfl,j,g⟩:=hrel;by_cases a:k < s.size
  {have h:=(s[k]'a).toNat_lt;cases d:isDig (s[k]'a).toNat
   {have f:Hid (Sem.digits s.data.toList=false):=Y1 (by
     unfold Sem.digits;rw[Bool.and_eq_false_iff]; right;rw[List.all_eq_false];exact ⟨s[k]'a,by rw[show s[k]'a=s.data.toList[k]'(by rw[<-Lib.size_eq]; exact a) from rfl]; exact List.getElem_mem _,by rw[show Sem.dig (s[k]'a)=false from d]; simp⟩)
    have b: ∀w,Calls Tryz.prog 225 #[.int .u8 (s[k]'a).toNat] w fun e w'=>e= .returned (.bool false)/\w=w':=fun w=>by rw[<-d]; exact Z3b _ h w
    clear d
    go_wp2_with (go_at_call 225; refine (b _).mono ?_; rintro e w' ⟨rfl,rfl⟩)
    go_ret;exact ⟨by rw[f.out]; rfl,rfl⟩}
   {have f:Hid ((s.data.toList.take (k+1)).all Sem.dig=true):=Y1 (by rw[Z4x a,g.out,show Sem.dig (s[k]'a)=true from d]; rfl);have b: ∀w,Calls Tryz.prog 225 #[.int .u8 (s[k]'a).toNat] w fun e w'=>e= .returned (.bool true)/\w=w':=fun w=>by rw[<-d]; exact Z3b _ h w
    clear d
    go_wp2_with (go_at_call 225; refine (b _).mono ?_; rintro e w' ⟨rfl,rfl⟩)
    go_round
    case rel=>exact ⟨k+1,by go_num,by omega,f⟩
    case measure=>simp[intOf]; omega}}
  {have c:s.data.toList.all Sem.dig=true:=by have:=g.out; rwa [List.take_of_length_le (by rw[<-Lib.size_eq]; omega)] at this
   have f:Hid (Sem.digits s.data.toList= !s.toList.isEmpty):=Y1 (by unfold Sem.digits; rw[c,Bool.and_true,Z16]);clear c;go_wp2;go_ret;exact ⟨by rw[f.out]; rfl,rfl⟩}
theorem Z6D:
 Calls Tryz.prog 216 #[.string s] w fun e w'=>e= .returned (.bool (Sem.part s.data.toList))/\w=w':=by
 have he0:s.toList.isEmpty=s.data.toList.isEmpty:=by rw[Z16]
 by_cases hz:s.data.toList= []
 {have he:s.toList.isEmpty=true:=by rw[he0,hz]; rfl
  have HN:Hid (Sem.part s.data.toList=false):=Y1 (by rw[hz]; rfl);clear he0 hz;go_enter Tryz.func216,Tryz.ntmps216;go_wp2;go_ret;exact ⟨by rw[HN.out]; rfl,rfl⟩}
 {have he:s.toList.isEmpty=false:=by rw[he0]; simpa using hz
  have hpos:0 < s.size:=by rw[Lib.size_eq]; exact List.length_pos_iff.2 hz
  have hhead:s.data.toList.head? =some (s[0]'hpos):=by
   rw[List.head?_eq_getElem?,List.getElem?_eq_getElem (by rw[<-Lib.size_eq]; exact hpos)]; rfl
  have HHEAD:=Y1 hhead;have HZ:=Y1 hz;clear he0 hz hhead;go_enter Tryz.func216,Tryz.ntmps216
  go_wp2_with fail
  go_loop [8] (fun i=> ∃k:Nat,i= .int .i64 k/\k<=s.size/\Hid ((s.data.toList.take k).all Sem.okc=true)) (fun i=>s.size - (intOf i).toNat)
  case atStart=>exact ⟨0,rfl,Nat.zero_le _,Y1 rfl⟩
  case round=>
   obtain ⟨k,rfl,hk,HP⟩:=hrel;by_cases hlt:k < s.size
   {have hb:=(s[k]'hlt).toNat_lt;obtain ⟨n,hn⟩: ∃n,n=(s[k]'hlt).toNat:=⟨_,rfl⟩;have ho:Sem.okc (s[k]'hlt)=(isLet n||decide (n=45)||isDig n):=by rw[Zd4,hn]; rfl
    have hcd: ∀w,Calls Tryz.prog 225 #[.int .u8 (s[k]'hlt).toNat] w fun e w'=>e= .returned (.bool (isDig n))/\w=w':=fun w=>by rw[hn]; exact Z3b _ hb w
    have hcl: ∀w,Calls Tryz.prog 226 #[.int .u8 (s[k]'hlt).toNat] w fun e w'=>e= .returned (.bool (isLet n))/\w=w':=fun w=>by rw[hn]; exact Z7w _ hb w
    have HN:Hid (isDig n=true\/isLet n=true\/n=45->(s.data.toList.take (k+1)).all Sem.okc=true):=Y1 (by
     intro h;rw[Z1B hlt,HP.out,ho];rcases h with h | h | h <;> rw[h] <;> simp)
    have HF:Hid (isDig n=false/\isLet n=false/\n≠45->Sem.part s.data.toList=false):=Y1 (by
     rintro ⟨h1,h2,h3⟩;exact Z2l hlt (by rw[ho,h1,h2]; simp[h3]))
    clear ho;cases hd:isDig n
    {rw[hd] at hcd;cases hl:isLet n
     {rw[hl] at hcl;by_cases h45:n=45
      {have HM:=Y1 (HN.out (Or.inr (Or.inr h45)));have h3: (((s[k]'hlt).toNat:Int) !=45)=false:=by rw[bne_eq_false_iff_eq]; omega
       clear hn hd hl
       go_wp2_with (first | (go_at_call 225; refine (hcd _).mono ?_; rintro e w' ⟨rfl,rfl⟩) | (go_at_call 226; refine (hcl _).mono ?_; rintro e w' ⟨rfl,rfl⟩))
       go_round
       case rel=>exact ⟨k+1,by go_num,by omega,HM⟩
       case measure=>simp[intOf]; omega}
      {have HM:=Y1 (HF.out ⟨hd,hl,h45⟩);have h3: (((s[k]'hlt).toNat:Int) !=45)=true:=by rw[bne_iff_ne]; omega
       clear hn hd hl
       go_wp2_with (first | (go_at_call 225; refine (hcd _).mono ?_; rintro e w' ⟨rfl,rfl⟩) | (go_at_call 226; refine (hcl _).mono ?_; rintro e w' ⟨rfl,rfl⟩))
       go_ret;exact ⟨by rw[HM.out]; rfl,rfl⟩}}
     {rw[hl] at hcl;have HM:=Y1 (HN.out (Or.inr (Or.inl hl)));clear hn hd hl
      go_wp2_with (first | (go_at_call 225; refine (hcd _).mono ?_; rintro e w' ⟨rfl,rfl⟩) | (go_at_call 226; refine (hcl _).mono ?_; rintro e w' ⟨rfl,rfl⟩))
      go_round
      case rel=>exact ⟨k+1,by go_num,by omega,HM⟩
      case measure=>simp[intOf]; omega}}
    {rw[hd] at hcd;have HM:=Y1 (HN.out (Or.inl hd));clear hn hd hcl
     go_wp2_with (first | (go_at_call 225; refine (hcd _).mono ?_; rintro e w' ⟨rfl,rfl⟩))
     go_round
     case rel=>exact ⟨k+1,by go_num,by omega,HM⟩
     case measure=>simp[intOf]; omega}}
   {have hall:s.data.toList.all Sem.okc=true:=by have:=HP.out; rwa [List.take_of_length_le (by rw[<-Lib.size_eq]; omega)] at this
    have HS:Hid (Sem.part s.data.toList=(!Sem.digits s.data.toList||s.data.toList== [48]||s.data.toList.head? !=some 48)):=Y1 (by
     have:s.data.toList.isEmpty=false:=by simpa using HZ.out
     unfold Sem.part; rw[hall,this]; rfl)
    rw[HHEAD.out] at HS;clear hall;cases h48: (s.toList== [48])
    {have h49: (s.data.toList== [48])=false:=by rw[<-Z16]; exact h48
     by_cases hh: (s[0]'hpos).toNat=48
     {have HN:Hid (Sem.part s.data.toList= !Sem.digits s.data.toList):=Y1 (by
       have:s[0]'hpos=48:=UInt8.toNat_inj.1 hh;rw[HS.out,h49,this]; simp)
      have h50: (((s[0]'hpos).toNat:Int) !=48)=false:=by rw[bne_eq_false_iff_eq]; omega
      clear h49 hh
      go_wp2_with (go_at_call 227; refine (Z2K s hs _).mono ?_; rintro e w' ⟨rfl,rfl⟩)
      go_ret;exact ⟨by rw[HN.out]; rfl,rfl⟩}
     {have HN:Hid (Sem.part s.data.toList=true):=Y1 (by
       have:s[0]'hpos≠48:=fun h=>hh (by rw[h]; rfl);rw[HS.out,h49]; simp[this])
      have h50: (((s[0]'hpos).toNat:Int) !=48)=true:=by rw[bne_iff_ne]; omega
      clear h49 hh
      go_wp2_with (go_at_call 227; refine (Z2K s hs _).mono ?_; rintro e w' ⟨rfl,rfl⟩)
      go_ret;exact ⟨by rw[HN.out]; rfl,rfl⟩}}
    {have HN:Hid (Sem.part s.data.toList=true):=Y1 (by
      have h49: (s.data.toList== [48])=true:=by rw[<-Z16]; exact h48
      rw[HS.out,h49]; simp)
     go_wp2_with (go_at_call 227; refine (Z2K s hs _).mono ?_; rintro e w' ⟨rfl,rfl⟩)
     go_ret;exact ⟨by rw[HN.out]; rfl,rfl⟩}}}
end
end
end Go.Proofs.YtkncdbaoaeeoiaaGreatDoor
