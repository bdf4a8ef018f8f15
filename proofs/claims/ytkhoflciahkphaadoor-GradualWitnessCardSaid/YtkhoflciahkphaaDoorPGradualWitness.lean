/- GradualWitness: between and beside two types that are near stand types that are below and alike; for all values that the row lets in, with the program's variable laid as its text lays it. -/
import Derived.Test.YtkhoflciahkphaaDoorTie
import Derived.Test.YtkhoflciahkphaaDoorCards
import Derived.LaidMore
import Derived.Lay
import Derived.Test.YtkhoflciahkphaaDoorK7n0
import Derived.Test.YtkhoflciahkphaaDoorK2n0
import Derived.Test.YtkhoflciahkphaaDoorK0n13
set_option linter.unusedVariables false
set_option linter.unusedSimpArgs false
set_option linter.unusedSectionVars false
set_option maxRecDepth 100000
set_option maxHeartbeats 16000000
namespace Shp
section
def sizeTo (m:Nat) (t:Sh):Nat:=min (size t) (m+1)
theorem Z1L {t:Sh} (h:fits t=true) (hp: ∀p∈t.parts,right p=true):right t=true:=by
 rw[Z2U,Z2V,Bool.and_eq_true,List.all_eq_true]; exact ⟨h,hp⟩
end
end Shp
namespace Sub
section
open Shp
theorem Rec.fits {t:Sh} (h:Rec t):fits t=true:=by rw[Z2W h.b h.k,h.a,h.l]; simp
theorem Z4S {t u:Sh} (hk:u.kind=t.kind) (ho:u.of_=t.of_) (hn:u.name=t.name) (hns:u.names=t.names) (hp:u.parts.length=t.parts.length):fits u=fits t:=by
 unfold fits bare;rw[hk,ho,hn,hns,hp]
theorem Z7A {a b:Sh} (A:Rec a): (callsA a b).map Prod.fst=a.names:=by
 unfold callsA;rw[List.map_map];exact List.map_fst_zip (by rw[A.l]; exact Nat.le_refl _)
theorem Z11 {a b:Sh} (A:Rec a) (B:Rec b): ((calls a b).map Prod.fst).Nodup:=by
 unfold calls;rw[List.map_append,Z7A A,List.nodup_append];have h2: ((callsB a b).map Prod.fst).Sublist b.names:=by
  unfold callsB;rw[List.map_map];have h3:=(List.filter_sublist (p:=fun x:Fld=>(get a x.1).isNone) (l:=b.names.zip b.parts)).map Prod.fst;rw[List.map_fst_zip (by rw[B.l]; exact Nat.le_refl _)] at h3;exact h3
 refine ⟨A.nodup,h2.nodup B.nodup,fun x hx y hy e=> ?_⟩;subst e;unfold callsB at hy;rw[List.map_map,List.mem_map] at hy;obtain ⟨⟨m,p⟩,hm,rfl⟩:=hy;have:=(List.mem_filter.1 hm).2;rw[Option.isNone_iff_eq_none] at this;exact A.get_none.1 this hx
theorem Zag (x:List UInt8) (c:Nat) (g:List UInt8->Nat) {N:List (List UInt8)} (h:N.Nodup): (N.map (fun n=>if x=n then c else g n)).sum<=c+(N.map g).sum:=by
 induction N with
 | nil=>simp
 | cons n N ih=>
  rw[List.nodup_cons] at h;simp only[List.map_cons,List.sum_cons];have:=ih h.2;by_cases e:x=n
  {subst e;have h0: ∀M:List (List UInt8),x∉M->M.map (fun n=>if x=n then c else g n)=M.map g:=by
    intro M hM;refine List.map_congr_left (fun y hy=> ?_);rw[if_neg (fun (e:x=y)=>hM (e▸hy))]
   rw[if_pos rfl,h0 N h.1];omega}
  {rw[if_neg e]; omega}
theorem Z5z (ns:List (List UInt8)): ∀(ps:List Sh) {N:List (List UInt8)},N.Nodup->(N.map (fun n=>sz (look ns ps n))).sum<=sizes ps:=by
 induction ns with
 | nil=>
  intro ps N _;have: ∀M:List (List UInt8),(M.map (fun n=>sz (look [] ps n))).sum=0:=by
   intro M;induction M with
   | nil=>rfl
   | cons a M ih=>rw[List.map_cons,List.sum_cons,ih]; cases ps <;> simp[look,sz]
  rw[this]; omega
 | cons x ns ih=>
  intro ps N h;cases ps with
  | nil=>
   have: ∀M:List (List UInt8),(M.map (fun n=>sz (look (x::ns) [] n))).sum=0:=by
    intro M;induction M with
    | nil=>rfl
    | cons a M ih=>rw[List.map_cons,List.sum_cons,ih]; simp[look,sz]
   rw[this]; omega
  | cons p ps=>
   have e: (fun n=>sz (look (x::ns) (p::ps) n))=fun n=>if x=n then size p else sz (look ns ps n):=by
    funext n;rw[show look (x::ns) (p::ps) n=if x=n then some p else look ns ps n from rfl];by_cases e:x=n
    {rw[if_pos e,if_pos e]; rfl}
    {rw[if_neg e,if_neg e]}
   rw[e];have:=Zag x (size p) (fun n=>sz (look ns ps n)) h;have:=ih ps h;simp only[sizes];omega
def wt (c:Cl):Nat:=sz c.2.1+sz c.2.2
theorem Z2k {a b:Sh} (A:Rec a) (B:Rec b): ((calls a b).map wt).sum<=sizes a.parts+sizes b.parts:=by
 have h1: ∀l:List Cl,(∀c∈l,c∈calls a b)->(l.map wt).sum=((l.map Prod.fst).map (fun n=>sz (get a n))).sum+((l.map Prod.fst).map (fun n=>sz (get b n))).sum:=by
  intro l;induction l with
  | nil=>intro _; rfl
  | cons c l ih=>
   intro h;have h2:=ih (fun c hc=>h c (by simp[hc]));obtain ⟨n,x,y⟩:=c;obtain ⟨rfl,rfl,_⟩:=(Z0c A B).1 (h (n,x,y) (by simp));simp only[List.map_cons,List.sum_cons,wt] at h2 ⊢;omega
 rw[h1 _ (fun _ h=>h)];have h2:=Z5z a.names a.parts (Z11 A B);have h3:=Z5z b.names b.parts (Z11 A B);unfold get;omega
theorem Z2l {l:List Sh} {D:Nat} (h: ∀p∈l,deep p<=D):deeps l<=D:=by
 induction l with
 | nil=>simp[deeps]
 | cons a l ih=>
  have h1:=h a (by simp);have h2:=ih (fun p hp=>h p (by simp[hp]));simp only[deeps];omega
theorem Z46 {k:Int} (hk:k=6\/k=7) {l:List Fld} (hd: (l.map Prod.fst).Nodup) (hn: ∀n∈l.map Prod.fst,Lex.isName n=true):Rec (made k l):=
 ⟨hk,rfl,by simp[made],(Z0G _).2 ⟨hn,hd⟩⟩
theorem Z1v {k:Int} {l:List Fld} (hd: (l.map Prod.fst).Nodup) {n:List UInt8} {x:Sh}:get (made k l) n=some x ↔ (n,x)∈l:=Z5y hd
end
end Sub
namespace Go.Proofs.YtkhoflciahkphaaDoor
section
open Shp
theorem Z5f {l m:List (List UInt8)} (h:l.Perm m):areNames l=areNames m:=by
 rw[Bool.eq_iff_iff,Z0G,Z0G];exact ⟨fun ⟨h1,h2⟩=>⟨fun x hx=>h1 x (h.mem_iff.2 hx),h.nodup_iff.1 h2⟩,fun ⟨h1,h2⟩=>⟨fun x hx=>h1 x (h.mem_iff.1 hx),h.nodup_iff.2 h2⟩⟩
theorem Z8Z {t u:Sh} (hk:u.kind=t.kind) (ho:u.of_=t.of_) (hn:u.name=t.name) (hns:u.names.Perm t.names) (hp:u.parts.length=t.parts.length):fits u=fits t:=by
 have ha:=Z5f hns;unfold fits bare;rw[hk,ho,hn,hns.length_eq,hp,ha]
theorem Z7X {l m:List Sh} (h:l.Perm m):deeps l=deeps m:=by
 induction h with
 | nil=>rfl
 | cons x _ ih=>simp[deeps,ih]
 | swap x y l=>simp[deeps]; omega
 | trans _ _ ih1 ih2=>exact ih1.trans ih2
theorem Z91 {f:Sh->Sh} {l:List Sh} (h: ∀p∈l,deep (f p)=deep p):deeps (l.map f)=deeps l:=by
 induction l with
 | nil=>rfl
 | cons a l ih=>simp[deeps,h a (by simp),ih (fun p hp=>h p (by simp[hp]))]
theorem Like.deep {f:Sh->Sh} {t u:Sh} (h:Like f t u) (hp: ∀p∈t.parts,deep (f p)=deep p):deep u=deep t:=by
 rw[Z0d,Z0d,Z7X h.ps,Z91 hp]
theorem Like.right {f:Sh->Sh} {t u:Sh} (h:Like f t u) (ht:right t=true) (hp: ∀p∈t.parts,right (f p)=true):right u=true:=by
 refine Z1L ?_ (fun p hm=> ?_)
 {rw[Z8Z h.k h.o h.n h.ns (by rw[h.ps.length_eq,List.length_map])];exact Z08 ht}
 {obtain ⟨x,hx,rfl⟩:=List.mem_map.1 (h.ps.mem_iff.1 hm);exact hp x hx}
theorem Z3O {t:Sh} (h:right t=true) (h0:t.names≠ []):t.names.length=t.parts.length/\t.names.Nodup:=(Z28 h).resolve_left h0
theorem Z1p {t:Sh} (h:right t=true):Like sorted t (sorted t):=by
 obtain ⟨h1,h2,h3⟩:=Z2A t;refine ⟨h1,h2,h3, ?_, ?_⟩
 {rw[Z0k];split
  {rename_i h0; rw[h0]}
  {rename_i h0
   have:=(Z0S (t.names.zip (t.parts.map sorted))).map Prod.fst
   rwa [List.map_fst_zip (by rw[List.length_map,(Z3O h h0).1]; exact Nat.le_refl _)] at this}}
 {rw[Z0k];split
  {exact List.Perm.refl _}
  {rename_i h0
   have:=(Z0S (t.names.zip (t.parts.map sorted))).map Prod.snd
   rwa [List.map_snd_zip (by rw[List.length_map,(Z3O h h0).1]; exact Nat.le_refl _)] at this}}
theorem Z2D (t:Sh):right t=true->size (sorted t)=size t:=by
 induction t using Sh.ind with
 | h t ih=>exact fun h=>(Z1p h).size fun p hp=>ih p hp (Z04 h hp)
theorem Z2E (t:Sh):right t=true->deep (sorted t)=deep t:=by
 induction t using Sh.ind with
 | h t ih=>exact fun h=>(Z1p h).deep fun p hp=>ih p hp (Z04 h hp)
theorem Z5K (t:Sh):right t=true->right (sorted t)=true:=by
 induction t using Sh.ind with
 | h t ih=>exact fun h=>(Z1p h).right h fun p hp=>ih p hp (Z04 h hp)
theorem Z2p {t:Sh} (h1:size t<=400) (h2:deep t<=40) (h3:right t=true):check t=0:=by
 unfold check;rw[if_neg (by omega),if_neg (by omega),if_neg (by rw[h3]; decide)]
theorem Z14 {t:Sh} (h:check t=0):check (sorted t)=0:=by
 obtain ⟨h1,h2,h3⟩:=Z05 h;exact Z2p (by rw[Z2D t h3]; exact h1) (by rw[Z2E t h3]; exact h2) (Z5K t h3)
end
end Go.Proofs.YtkhoflciahkphaaDoor
namespace Sub
section
open Shp Go.Proofs.YtkhoflciahkphaaDoor
theorem Z36 {o:Option Sh} {j:Sh} (h:whole o=some j): ∃x,o=some x/\check x=0/\j=sorted x:=by
 unfold whole at h;obtain ⟨x,hx,h⟩:=Option.bind_eq_some_iff.1 h;split at h
 {rename_i e; cases h; exact ⟨x,hx,e,rfl⟩}
 {cases h}
end
end Sub
namespace Grd
section
open Shp Sub Go.Proofs.YtkhoflciahkphaaDoor
section
variable {g : Sh -> Sh -> Sh}
include g
theorem Z94 {a b:Sh} (A:Rec a) (B:Rec b) {n:List UInt8} {x:Sh}:
 (n,x)∈(calls a b).filterMap (nstep g) ↔ ∃q,get b n=some q/\((∃p,get a n=some p/\x=g p q)\/(get a n=none/\x=q)):=by
 rw[List.mem_filterMap];constructor
 {rintro ⟨⟨m,u,v⟩,hm,h⟩;obtain ⟨hu,hv,_⟩:=(Z0c A B).1 hm;unfold nstep at h;split at h
  {rename_i e
   simp only[Prod.mk.injEq] at e;obtain ⟨rfl,rfl,rfl⟩:=e;cases h;exact ⟨_,hv.symm,Or.inl ⟨_,hu.symm,rfl⟩⟩}
  {rename_i e
   simp only[Prod.mk.injEq] at e;obtain ⟨rfl,rfl,rfl⟩:=e;cases h;exact ⟨_,hv.symm,Or.inr ⟨hu.symm,rfl⟩⟩}
  {cases h}}
 {rintro ⟨q,hq,⟨p,hp,rfl⟩ | ⟨hp,rfl⟩⟩
  {exact ⟨(n,some p,some q),(Z0c A B).2 ⟨hp.symm,hq.symm,Or.inr (Z0Q hq)⟩,rfl⟩}
  {exact ⟨(n,none,some x),(Z0c A B).2 ⟨hp.symm,hq.symm,Or.inr (Z0Q hq)⟩,rfl⟩}}
theorem Z5O {l:List Cl} (h: ∀c∈l,∀x,nstep g c=some x->size x.2<=wt c):sizes ((l.filterMap (nstep g)).map Prod.snd)<=(l.map wt).sum:=by
 induction l with
 | nil=>simp[sizes]
 | cons c l ih=>
  have h1:=ih (fun c hc=>h c (by simp[hc]));cases e:nstep g c with
  | none=>rw[List.filterMap_cons_none e,List.map_cons,List.sum_cons]; omega
  | some x=>
   have:=h c (by simp) x e;rw[List.filterMap_cons_some e,List.map_cons,List.map_cons,List.sum_cons];simp only[sizes];omega
theorem Z81 {us vs:List Sh} (h: ∀(i:Nat) (p q:Sh),us[i]? =some p->vs[i]? =some q->size (g p q)<=size p+size q):sizes (List.zipWith g us vs)<=sizes us+sizes vs:=by
 induction us generalizing vs with
 | nil=>simp[sizes]
 | cons a us ih=>
  cases vs with
  | nil=>simp[sizes]
  | cons b vs=>
   have h1:=ih (vs:=vs) (fun i p q hp hq=>h (i+1) p q (by simpa using hp) (by simpa using hq));have h2:=h 0 a b (by simp) (by simp);rw[List.zipWith_cons_cons];simp only[sizes];omega
end
structure Nis (f:Nat) (up:Bool) (s t j:Sh):Prop where
 r:right j=true
 z:size j<=size s+size t
 d:deep j<=max (deep s) (deep t)
 v:V f up s j
 l:R false f up j t
theorem Z39 {f:Nat}: ∀ {up:Bool} {s t:Sh},right s=true->right t=true->deep s<=f->deep t<=f->R true f up s t->Nis f up s t (named f s t):=by
 induction f with
 | zero=>intro up s t _ _ _ _ h; exact h.elim
 | succ f ih=>
  intro up s t rs rt ds dt h;have pa: ∀p∈s.parts,right p=true/\deep p<=f/\deep p+1<=deep s:=fun p hp=>⟨Z04 rs hp,by have:=Z0t hp; rw[Z0d] at ds; omega,by have:=Z0t hp; rw[Z0d s]; omega⟩;have pb: ∀p∈t.parts,right p=true/\deep p<=f/\deep p+1<=deep t:=fun p hp=>⟨Z04 rt hp,by have:=Z0t hp; rw[Z0d] at dt; omega,by have:=Z0t hp; rw[Z0d t]; omega⟩;have hdm:1<=deep s:=by rw[Z0d]; omega
  unfold named;by_cases h4:s.kind=4\/t.kind=4
  {rw[if_pos h4];exact ⟨rs,by omega,by omega,V.refl ds,h4.elim Or.inl (fun h=>Or.inr (Or.inl h))⟩}
  rw[if_neg h4];have h4a:s.kind≠4:=fun h=>h4 (Or.inl h);have h4b:t.kind≠4:=fun h=>h4 (Or.inr h);rcases h with h | h | ⟨hk,h1,h2⟩
  {exact absurd h h4a}
  {exact absurd h h4b}
  by_cases h6:s.kind=6\/s.kind=7
  {rw[if_pos h6];have A:=Z0s (Z08 rs) h6;have B:=Z0s (Z08 rt) (hk▸h6);obtain ⟨g1,g2,g3⟩:=h1 h6;have hof:s.of_= []/\s.name= []:=(Z1u s).1 A.b;obtain ⟨L,hL⟩: ∃L,L=(calls s t).filterMap (nstep (named f)):=⟨_,rfl⟩;have hm: ∀n x,(n,x)∈L ↔ ∃q,get t n=some q/\((∃p,get s n=some p/\x=named f p q)\/(get s n=none/\x=q)):=fun n x=>by rw[hL]; exact Z94 A B
   have hsub: (L.map Prod.fst).Sublist ((calls s t).map Prod.fst):=by rw[hL]; exact Z1s (fun c x h=>nstep_fst h) _
   have hd: (L.map Prod.fst).Nodup:=hsub.nodup (Z11 A B);have hR:=Z46 (k:=s.kind) h6 hd (fun n hn=>Z26 A B (hsub.subset hn));rw[<-hL,hof.1,hof.2];change Nis (f+1) up s t (made s.kind L);have hI: ∀n p q,get s n=some p->get t n=some q->Nis f up p q (named f p q):=fun n p q hp hq=>ih (pa p (Z06 hp)).1 (pb q (Z06 hq)).1 (pa p (Z06 hp)).2.1 (pb q (Z06 hq)).2.1 (g1 n p q hp hq);have hG: ∀n x,get (made s.kind L) n=some x ↔ _:=fun n x=>(Z1v hd).trans (hm n x);have hP: ∀y∈L.map Prod.snd,∃n,(n,y)∈L:=fun y hy=>by
    obtain ⟨⟨n,y⟩,h,rfl⟩:=List.mem_map.1 hy;exact ⟨n,h⟩
   refine ⟨Z1L hR.fits (fun y hy=> ?_), ?_, ?_,⟨rfl,fun hw n x hx=> ?_,fun hw n p hp=> ?_,fun h=>absurd h6 h⟩,Or.inr (Or.inr ⟨hk,fun _=>⟨fun n x q hx hq=> ?_,fun n x hx hq=> ?_,fun n q hx hq=> ?_⟩,fun h=>absurd h6 h⟩)⟩
   {obtain ⟨n,h⟩:=hP y hy;obtain ⟨q,hq,⟨p,hp,rfl⟩ | ⟨_,rfl⟩⟩:=(hm n y).1 h
    {exact (hI n p q hp hq).r}
    {exact (pb _ (Z06 hq)).1}}
   {have h1:sizes (L.map Prod.snd)<=((calls s t).map wt).sum:=by
     rw[hL];refine Z5O (fun c hc x hx=> ?_);obtain ⟨n,u,v⟩:=c;obtain ⟨m,y⟩:=x;have e:m=n:=nstep_fst hx;subst e;obtain ⟨hu,hv,_⟩:=(Z0c A B).1 hc;have hmm: (m,y)∈L:=by rw[hL]; exact List.mem_filterMap.2 ⟨_,hc,hx⟩
     obtain ⟨q,hq,⟨p,hp,rfl⟩ | ⟨hp,rfl⟩⟩:=(hm m y).1 hmm
     {rw[hp] at hu; rw[hq] at hv; rw[hu,hv]; exact (hI m p q hp hq).z}
     {rw[hp] at hu; rw[hq] at hv; rw[hu,hv]; simp[wt,sz]}
    have h2:=Z2k A B;rw[size_eq,size_eq s,size_eq t];unfold made;simp only;omega}
   {rw[Z0d];have:deeps (made s.kind L).parts<=max (deep s) (deep t) - 1:=Z2l (fun y hy=>by
     obtain ⟨n,h⟩:=hP y hy;obtain ⟨q,hq,⟨p,hp,rfl⟩ | ⟨hp,rfl⟩⟩:=(hm n y).1 h
     {have h1:=(pa p (Z06 hp)).2.2;have h2:=(pb q (Z06 hq)).2.2;have h3:=(hI n p q hp hq).d;omega}
     · have:=(pb _ (Z06 hq)).2.2
       omega)
    omega}
   {obtain ⟨q,hq,⟨p,hp,rfl⟩ | ⟨hp,rfl⟩⟩:=(hG n x).1 hx
    {exact ⟨p,hp,(hI n p q hp hq).v⟩}
    {exact absurd (g3 n _ hp hq).2 (Z0K hw)}}
   {cases hq:get t n with
    | none=>exact absurd hw (Z0K (g2 n p hp hq).2)
    | some q=>exact ⟨_,(hG n _).2 ⟨q,hq,Or.inl ⟨p,hp,rfl⟩⟩,(hI n p q hp hq).v⟩}
   {obtain ⟨q',hq',⟨p,hp,rfl⟩ | ⟨hp,rfl⟩⟩:=(hG n x).1 hx
    {rw[hq] at hq'; cases hq';exact (hI n p q hp hq).l}
    {rw[hq] at hq'; cases hq';exact R.refl (pb _ (Z06 hq)).2.1}}
   {obtain ⟨q',hq',_⟩:=(hG n x).1 hx;rw[hq] at hq'; cases hq'}
   {cases hp:get s n with
    | none=>rw[(hG n q).2 ⟨q,hq,Or.inr ⟨hp,rfl⟩⟩] at hx; cases hx
    | some p=>rw[(hG n _).2 ⟨q,hq,Or.inl ⟨p,hp,rfl⟩⟩] at hx; cases hx}}
  {rw[if_neg h6];obtain ⟨e1,e2,e3,e4⟩:=h2 h6;have hns:=Z1Y (Z08 rs) h6;obtain ⟨ps,hps⟩: ∃ps,ps=List.zipWith (named f) s.parts t.parts:=⟨_,rfl⟩;have hl:ps.length=s.parts.length:=by rw[hps,List.length_zipWith, <-e3,Nat.min_self]
   have hat: ∀i p q,s.parts[i]? =some p->t.parts[i]? =some q->ps[i]? =some (named f p q):=fun i p q hp hq=>by rw[hps,List.getElem?_zipWith,hp,hq]
   have hI: ∀i p q,s.parts[i]? =some p->t.parts[i]? =some q->Nis f (if i+1=s.parts.length then up else !up) p q (named f p q):=fun i p q hp hq=>by
    obtain ⟨r1,d1,_⟩:=pa p (List.mem_of_getElem? hp);obtain ⟨r2,d2,_⟩:=pb q (List.mem_of_getElem? hq);exact ih r1 r2 d1 d2 (e4 i p q hp hq)
   have hP: ∀y∈ps,∃i p q,s.parts[i]? =some p/\t.parts[i]? =some q/\y=named f p q:=fun y hy=>by
    obtain ⟨i,hi,e⟩:=List.getElem_of_mem hy;have h1:=List.getElem?_eq_getElem (l:=s.parts) (i:=i) (by omega);have h2:=List.getElem?_eq_getElem (l:=t.parts) (i:=i) (by omega);have h3:=hat i _ _ h1 h2;rw[List.getElem?_eq_getElem hi,e] at h3;exact ⟨i,_,_,h1,h2,Option.some.inj h3⟩
   rw[<-hps];refine ⟨Z1L ?_ (fun y hy=> ?_), ?_, ?_,⟨rfl,fun h=>absurd (Z0x h) h6,fun h=>absurd (Z0H h) h6,fun _=>⟨rfl,rfl,hl.symm,fun i p x hp hx=> ?_⟩⟩,Or.inr (Or.inr ⟨hk,fun h=>absurd h h6,fun _=>⟨e1,e2,hl.trans e3,fun i x q hx hq=> ?_⟩⟩)⟩
   {rw[Z4S (t:=s) (u:=⟨s.kind,s.of_,s.name,[],ps⟩) rfl rfl rfl hns.symm hl]; exact Z08 rs}
   {obtain ⟨i,p,q,hp,hq,rfl⟩:=hP y hy;exact (hI i p q hp hq).r}
   {have h1:sizes ps<=sizes s.parts+sizes t.parts:=by rw[hps]; exact Z81 (fun i p q hp hq=>(hI i p q hp hq).z)
    rw[size_eq,size_eq s,size_eq t];simp only;omega}
   {rw[Z0d];have:deeps ps<=max (deep s) (deep t) - 1:=Z2l (fun y hy=>by
     obtain ⟨i,p,q,hp,hq,rfl⟩:=hP y hy;have h1:=(pa p (List.mem_of_getElem? hp)).2.2;have h2:=(pb q (List.mem_of_getElem? hq)).2.2;have h3:=(hI i p q hp hq).d;omega)
    simp only;omega}
   {have hi:i < s.parts.length:=(List.getElem?_eq_some_iff.1 hp).1;have h2:=List.getElem?_eq_getElem (l:=t.parts) (i:=i) (by omega);rw[hat i p _ hp h2] at hx;cases hx;exact (hI i p _ hp h2).v}
   {simp only at hx;have hi:i < t.parts.length:=(List.getElem?_eq_some_iff.1 hq).1;have h1:=List.getElem?_eq_getElem (l:=s.parts) (i:=i) (by omega);rw[hat i _ q h1 hq] at hx;cases hx;have:=(hI i _ q h1 hq).l;simp only[hl];exact this}}
def beside (a b:Sh):Option Sh:=if near a b=true then whole (some (named 40 b a)) else none
theorem size_small {a:Sh} (ca:check a=0) (h:sizeTo 400 a<=200):size a<=200:=by
 have:=(Z05 ca).1;unfold sizeTo at h;omega
theorem between_is {a b u:Sh} (h:between a b=some u):below a u=true/\alike u b=true:=by
 unfold between at h;split at h
 {rename_i hn
  obtain ⟨ca,cb,r⟩:=near_iff.1 hn;obtain ⟨_,da,ra⟩:=Z05 ca;obtain ⟨_,db,rb⟩:=Z05 cb;have hi:=Z39 ra rb da db r;obtain ⟨x,hx,cx,rfl⟩:=Z36 h;cases hx;obtain ⟨_,dx,rx⟩:=Z05 cx;refine ⟨Z1N.2 ⟨ca,Z14 cx,hi.v.trans (V.sorted rx dx)⟩,Z0V.2 ⟨Z14 cx,cb,R.same (V.back rx dx) (V.back rx dx) hi.l⟩⟩}
 {cases h}
theorem beside_is {a b v:Sh} (h:beside a b=some v):alike v a=true/\below v b=true:=by
 unfold beside at h;split at h
 {rename_i hn
  obtain ⟨ca,cb,r⟩:=near_iff.1 hn;obtain ⟨_,da,ra⟩:=Z05 ca;obtain ⟨_,db,rb⟩:=Z05 cb;have hi:=Z39 rb ra db da r.flip;obtain ⟨x,hx,cx,rfl⟩:=Z36 h;cases hx;obtain ⟨_,dx,rx⟩:=Z05 cx;have hv:=(hi.v.trans (V.sorted rx dx)).flip;rw[Bool.not_not] at hv;refine ⟨Z0V.2 ⟨Z14 cx,ca,(R.same (V.back rx dx) (V.back rx dx) hi.l).any⟩,Z1N.2 ⟨Z14 cx,cb,hv⟩⟩}
 {cases h}
theorem between_off {a b:Sh} (h:near a b=false):between a b=none/\beside a b=none:=by
 unfold between beside; rw[h]; exact ⟨rfl,rfl⟩
theorem between_on {a b:Sh} (h:near a b=true) (sa:size a<=200) (sb:size b<=200): (between a b).isSome=true/\(beside a b).isSome=true:=by
 obtain ⟨ca,cb,r⟩:=near_iff.1 h;obtain ⟨_,da,ra⟩:=Z05 ca;obtain ⟨_,db,rb⟩:=Z05 cb;have h1:=Z39 ra rb da db r;have h2:=Z39 rb ra db da r.flip;unfold between beside whole;rw[if_pos h,if_pos h];have:=h1.z; have:=h1.d; have:=h2.z; have:=h2.d;simp only[Option.bind_some];rw[if_pos (Z2p (by omega) (by omega) h1.r),if_pos (Z2p (by omega) (by omega) h2.r)];exact ⟨rfl,rfl⟩
end
end Grd
namespace Go.Proofs.YtkhoflciahkphaaDoor
section
open Go.RowKit Shp
theorem Z1m (t:Sh) (q:Ptr) (w:World) (hq:ShAt w w.heap.size q t):
 Y9 17 #[.agg (Y8 t q)] w (.int .i64 (sizeTo 400 t:Int)):=by
 have hb0:=Z01 w (.cells (Y8 t q) 25);have hm:=Z3E t q _ (hq.next hb0);have HF:Hid (Z1I 400 t=(sizeTo 400 t:Int)):=Y1 (by unfold Z1I sizeTo; split <;> omega);have HB0:=Y1 hb0;generalize Z1I 400 t=x at hm HF;generalize Z2g 400 t=y at hm;obtain ⟨_,⟨c0,c1,c2,c3,c4⟩,_⟩:=Z02 w t q;clear hb0 hq;go_enter Tryd.func17,Tryd.ntmps17
 go_wp2_with fail
 refine hm.mono ?_;rintro e w' ⟨rfl,hb'⟩;go_wp2;go_ret;exact ⟨Z1x HF.out,Z00 HB0.out hb'⟩
end
end Go.Proofs.YtkhoflciahkphaaDoor
namespace Go.Proofs.YtkhoflciahkphaaDoor
open Go.RowKit Shp Sub
namespace SubM
theorem Z1i (a b:Sh) (pa pb:Ptr) (w:World) (ha:ShAt w w.heap.size pa a) (hb:ShAt w w.heap.size pb b) (hg:WGlobs w):
 Calls Tryd.prog 16 #[sv a pa,sv b pb] w (WIs (Grd.beside a b) w):=by
 have hb1:=Z01 w (.cells (Y8 a pa) 25);obtain ⟨w1,hw1⟩: ∃w1,w1=w.alloc (.cells (Y8 a pa) 25):=⟨_,rfl⟩;have hs1:w1.heap.size=w.heap.size+1:=by rw[hw1]; simp
 have hb2:=Z01 w1 (.cells (Y8 b pb) 25);obtain ⟨w2,hw2⟩: ∃w2,w2=w1.alloc (.cells (Y8 b pb) 25):=⟨_,rfl⟩;have hs2:w2.heap.size=w.heap.size+1+1:=by rw[hw2]; simp[hs1]
 have hb3:=Z01 w2 (.cells Yb 25);obtain ⟨w3,hw3⟩: ∃w3,w3=w2.alloc (.cells Yb 25):=⟨_,rfl⟩;have hs3:w3.heap.size=w.heap.size+1+1+1:=by rw[hw3]; simp[hs2]
 rw[<-hw1] at hb1;rw[<-hw2] at hb2;rw[<-hw3] at hb3;have hbw:=Z00 hb1 (Z00 hb2 hb3);have hrc:Rc (w.heap.size+1+1) w3:=by have h:=Z3G hw3; rwa [hs2] at h
 have hB1:Box5 w1 w.heap.size a pa:=by rw[hw1]; exact Z02 w a pa
 have hB2:Box5 w2 w1.heap.size b pb:=by rw[hw2]; exact Z02 w1 b pb
 have hBA:=(hB1.next hb2).next hb3;have hBB:=hB2.next hb3;rw[hs1] at hBB;have HBA:=Y1 hBA;have HBB:=Y1 hBB;have HA:=Y1 (ha.next hbw);have HB:=Y1 (hb.next hbw);have HG:=Y1 (hg.next hbw);have HW:=Y1 hbw;have HR:=Y1 hrc;obtain ⟨_,⟨a0,a1,a2,a3,a4⟩,_⟩:=hBA;obtain ⟨_,⟨b0,b1,b2,b3,b4⟩,_⟩:=hBB;simp only[Nat.zero_add] at a0 a1 a2 a3 a4 b0 b1 b2 b3 b4;have hw1':=hw1.symm;have hw2':=hw2.symm;have hw3':=hw3.symm;have lw:w.heap.size+1+1 < w3.heap.size:=by omega
 clear hw1 hw2 hw3 hb1 hb2 hb3 hB1 hB2 hbw ha hb hg hrc;have HU:=Y1 (Z0a a b pa pb w3 HA.out HB.out HG.out);unfold sv at HU ⊢;go_enter Tryd.func16,Tryd.ntmps16
 go_wp2_with fail
 refine HU.out.mono ?_;rintro e w4 ⟨rfl,hb4⟩;have HB4:=Y1 hb4;clear hb4 a0 a1 a2 a3 a4 b0 b1 b2 b3 b4 HU;cases hnr:Grd.near a b with
 | false=>
  have HN:Hid (Grd.beside a b=none):=Y1 (by unfold Grd.beside; rw[hnr]; rfl);clear hnr;have hR:=HR.out.upd (T:=fun _=>False) (Upd.new (HB4.out)) (fun h=>h);have HLY:=Y1 (RX.lay_at Z0p noneQ12 (W:=w4) (g:=w.heap.size+1+1) hR.ex);have HUP:=Y1 (RX.lay_upd w4 (w.heap.size+1+1) Z0p noneQ12);obtain ⟨v0,y0⟩:=hR.ex 0 (by omega);obtain ⟨v1,y1⟩:=hR.ex 1 (by omega);obtain ⟨v2,y2⟩:=hR.ex 2 (by omega);obtain ⟨v3,y3⟩:=hR.ex 3 (by omega);obtain ⟨v4,y4⟩:=hR.ex 4 (by omega);have z0:=hR.fz 0;have z1:=hR.fz 1;have z2:=hR.fz 2;have z3:=hR.fz 3;have z4:=hR.fz 4;clear hR;go_wp2;obtain ⟨u0,u1,u2,u3,u4⟩:=HLY.out;unfold RX.lay Z0p at u0 u1 u2 u3 u4;simp only[Nat.zero_add,List.length_nil] at u0 u1 u2 u3 u4;refine bodyPost_ret (v:= .tuple #[.agg #[.int .i64 0,.string ⟨#[]⟩,.string ⟨#[]⟩,.slice none 0 0,.slice none 0 0],.bool false]) (by simp[results,Tryd.results16,go_sem,u0,u1,u2,u3,u4]) rfl ?_;exact Z4b ((Z00 HW.out (HB4.out)).trans (HUP.out.below (by have h1:=HW.out.size; have h2:=(HB4.out).size; omega) (fun x hx=>by omega))) (HN.out)
 | true=>
  have HV:Hid (Grd.beside a b=Sub.whole (some (Grd.named 40 b a))):=Y1 (by unfold Grd.beside; rw[if_pos hnr]);obtain ⟨ca,cb,hrr⟩:=Grd.near_iff.1 hnr;have hta:Two 40 a b:=⟨(Z05 ca).2.2,(Z05 cb).2.2,(Z05 ca).2.1,(Z05 cb).2.1,(Z05 ca).1,(Z05 cb).1⟩;obtain ⟨_,⟨a0,a1,a2,a3,a4⟩,_⟩:=HBA.out.next HB4.out;obtain ⟨_,⟨b0,b1,b2,b3,b4⟩,_⟩:=HBB.out.next HB4.out;simp only[Nat.zero_add] at a0 a1 a2 a3 a4 b0 b1 b2 b3 b4;have HU:=Y1 (Z4G 40 _ b a pb pa w4.heap.size w4 hta.swap hrr.flip (HB.out.next HB4.out) (HA.out.next HB4.out) (Nat.le_refl _));obtain ⟨t,ht⟩: ∃t,t=Grd.named 40 b a:=⟨_,rfl⟩;rw[<-ht] at HU HV;unfold sv at HU;clear hnr ca cb hrr hta ht
  go_wp2_with fail
  refine HU.out.mono ?_;rintro e w5 ⟨q,rfl,hb5,hk5⟩;have HB5:=Y1 (Z00 HB4.out hb5);have HU2:=Y1 (Z3Z t q w5 hk5.here (HG.out.next HB5.out));unfold sv at HU2;clear hb5 hk5 HU a0 a1 a2 a3 a4 b0 b1 b2 b3 b4
  go_wp2_with fail
  refine HU2.out.mono ?_;rintro e w6 ⟨q9,rfl,hk,hb6⟩;rw[<-HV.out] at hk ⊢;obtain ⟨o,ho⟩: ∃o,o=Grd.beside a b:=⟨_,rfl⟩;rw[<-ho] at hk ⊢;obtain ⟨z,hz⟩: ∃z,z=o.getD Z0p:=⟨_,rfl⟩;obtain ⟨ok,hok⟩: ∃ok,ok=o.isSome:=⟨_,rfl⟩;rw[<-hz] at hk;have hb36:=Z00 HB5.out hb6;have hR:=HR.out.upd (T:=fun _=>False) (Upd.new hb36) (fun h=>h);have HK:=Y1 (hk.move (S':=fun b=>w.heap.size<=b) (RX.lay_upd w6 (w.heap.size+1+1) z q9) (fun b _ hf=>⟨fun e=>by have e:b=w.heap.size+1+1:=e; have:=HB5.out.size; omega,by have:=HW.out.size; have:=HB5.out.size; omega⟩));have HBF:=Y1 ((Z00 HW.out hb36).trans ((RX.lay_upd w6 (w.heap.size+1+1) z q9).below (by have h1:=HW.out.size; have h2:=hb36.size; omega) (fun x hx=>by omega)));have HLY:=Y1 (RX.lay_at z q9 (W:=w6) (g:=w.heap.size+1+1) hR.ex);have HZ:=Y1 hz;have HOK:=Y1 hok;have HO:=Y1 ho;rw[<-hz, <-hok];obtain ⟨v0,y0⟩:=hR.ex 0 (by omega);obtain ⟨v1,y1⟩:=hR.ex 1 (by omega);obtain ⟨v2,y2⟩:=hR.ex 2 (by omega);obtain ⟨v3,y3⟩:=hR.ex 3 (by omega);obtain ⟨v4,y4⟩:=hR.ex 4 (by omega);have z0:=hR.fz 0;have z1:=hR.fz 1;have z2:=hR.fz 2;have z3:=hR.fz 3;have z4:=hR.fz 4;clear hR hk hb36 hb6 hz hok ho HU2;unfold sv;go_wp2;obtain ⟨u0,u1,u2,u3,u4⟩:=HLY.out;unfold RX.lay at u0 u1 u2 u3 u4;simp only[Nat.zero_add] at u0 u1 u2 u3 u4;refine bodyPost_ret (v:= .tuple #[sv z q9,.bool ok]) (by simp[results,Tryd.results16,go_sem,u0,u1,u2,u3,u4]) rfl ?_;refine ⟨q9, ?_, ?_,HBF.out⟩
  {rw[<-HO.out, <-HZ.out, <-HOK.out]}
  {rw[<-HO.out, <-HZ.out]; exact HK.out}
end SubM
end Go.Proofs.YtkhoflciahkphaaDoor
namespace Go.Proofs.YtkhoflciahkphaaDoor
open Go.RowKit Shp Sub
namespace SubM
theorem gradWitness_walk (a:Sh) (pa:Ptr) (b:Sh) (pb:Ptr) (w:World) (ha:ShAt w w.heap.size pa a) (hb:ShAt w w.heap.size pb b) (hg:WGlobs w):
 Y9 6 #[.agg (Y8 a pa),.agg (Y8 b pb)] w (.bool true):=by
 have hx1:=Z01 w (.cells (Y8 a pa) 25);obtain ⟨q1,hu1⟩: ∃z,w.alloc (.cells (Y8 a pa) 25)=z:=⟨_,rfl⟩;have hs1:q1.heap.size=w.heap.size+1:=by rw[<-hu1]; simp
 have hy1:=Z02 w a pa;rw[hu1] at hx1 hy1;have hx2:=Z01 q1 (.cells (Y8 b pb) 25);obtain ⟨q2,hu2⟩: ∃z,q1.alloc (.cells (Y8 b pb) 25)=z:=⟨_,rfl⟩;have hs2:q2.heap.size=w.heap.size+1+1:=by rw[<-hu2]; simp[hs1]
 have hy2:=Z02 q1 b pb;rw[hu2] at hx2 hy2;rw[hs1] at hy2;have hbw:=(Z00 hx1 hx2);have HXa:=Y1 (hy1.next hx2);have HAa:=Y1 (ha.next hbw);have HXb:=Y1 hy2;have HAb:=Y1 (hb.next hbw);have HG:=Y1 (hg.next hbw);have HB1:=Y1 hbw;have HB:=Y1 (Below.refl q2.heap.size q2);clear hbw hg hx1 hy1 ha hx2 hy2 hb;cases h0:Grd.near a b with
 | false=>
  have HN:=Y1 h0;have HO:=Y1 (Grd.between_off h0).1;have HP:=Y1 (Grd.between_off h0).2;clear h0;obtain ⟨_,⟨a0,a1,a2,a3,a4⟩,_⟩:=HXa.out.next HB.out;simp only[Nat.zero_add] at a0 a1 a2 a3 a4;obtain ⟨_,⟨b0,b1,b2,b3,b4⟩,_⟩:=HXb.out.next HB.out;simp only[Nat.zero_add] at b0 b1 b2 b3 b4;have HU:=Y1 (Z0X a b pa pb _ (HAa.out.next HB.out) (HAb.out.next HB.out) (HG.out.next HB.out))
  try unfold sv at HU
  go_enter Tryd.func6,Tryd.ntmps6
  go_wp2_with fail
  refine HU.out.mono ?_;rintro e w1 ⟨qu,he,hat,hb1⟩;rw[HO.out] at he hat;obtain ⟨u,hu⟩: ∃z,z=Z0p:=⟨_,rfl⟩;have HEu:=Y1 hu;simp only[Option.getD_some,Option.isSome_some,Option.getD_none,Option.isSome_none, <-hu] at he hat;subst he;have hb2:=Z01 w1 (.cells (Y8 u qu) 25);have HXu:=Y1 (Z02 w1 u qu);have HAu:=Y1 (hat.here.next hb2);have HB:=Y1 (Z00 HB.out (Z00 hb1 hb2));obtain ⟨W1,hW1⟩: ∃z,w1.alloc (.cells (Y8 u qu) 25)=z:=⟨_,rfl⟩;rw[hW1] at HXu HAu HB;clear hb1 hb2 hat HU hu a0 a1 a2 a3 a4 b0 b1 b2 b3 b4;have HXa:=Y1 (HXa.out.next HB.out);have HXb:=Y1 (HXb.out.next HB.out);have HAa:=Y1 (HAa.out.next HB.out);have HAb:=Y1 (HAb.out.next HB.out);have HG:=Y1 (HG.out.next HB.out);have HB1:=Y1 (Z00 HB1.out HB.out);have HB:=Y1 (Below.refl W1.heap.size W1)
  try unfold sv
  clear hu1 hs1 hu2 hs2;obtain ⟨_,⟨a0,a1,a2,a3,a4⟩,_⟩:=HXa.out.next HB.out;simp only[Nat.zero_add] at a0 a1 a2 a3 a4;obtain ⟨_,⟨b0,b1,b2,b3,b4⟩,_⟩:=HXb.out.next HB.out;simp only[Nat.zero_add] at b0 b1 b2 b3 b4;have HU:=Y1 (Z1i a b pa pb _ (HAa.out.next HB.out) (HAb.out.next HB.out) (HG.out.next HB.out))
  try unfold sv at HU
  go_wp2_with fail
  refine HU.out.mono ?_;rintro e w2 ⟨qv,he,hat,hb1⟩;rw[HP.out] at he hat;obtain ⟨v,hv⟩: ∃z,z=Z0p:=⟨_,rfl⟩;have HEv:=Y1 hv;simp only[Option.getD_some,Option.isSome_some,Option.getD_none,Option.isSome_none, <-hv] at he hat;subst he;have hb2:=Z01 w2 (.cells (Y8 v qv) 25);have HXv:=Y1 (Z02 w2 v qv);have HAv:=Y1 (hat.here.next hb2);have HB:=Y1 (Z00 HB.out (Z00 hb1 hb2));obtain ⟨W2,hW2⟩: ∃z,w2.alloc (.cells (Y8 v qv) 25)=z:=⟨_,rfl⟩;rw[hW2] at HXv HAv HB;clear hb1 hb2 hat HU hv a0 a1 a2 a3 a4 b0 b1 b2 b3 b4;have HXa:=Y1 (HXa.out.next HB.out);have HXb:=Y1 (HXb.out.next HB.out);have HAa:=Y1 (HAa.out.next HB.out);have HAb:=Y1 (HAb.out.next HB.out);have HG:=Y1 (HG.out.next HB.out);have HB1:=Y1 (Z00 HB1.out HB.out);have HXu:=Y1 (HXu.out.next HB.out);have HAu:=Y1 (HAu.out.next HB.out);have HB:=Y1 (Below.refl W2.heap.size W2)
  try unfold sv
  obtain ⟨_,⟨a0,a1,a2,a3,a4⟩,_⟩:=HXa.out.next HB.out;simp only[Nat.zero_add] at a0 a1 a2 a3 a4;obtain ⟨_,⟨b0,b1,b2,b3,b4⟩,_⟩:=HXb.out.next HB.out;simp only[Nat.zero_add] at b0 b1 b2 b3 b4;have HU:=Y1 (Z0a a b pa pb _ (HAa.out.next HB.out) (HAb.out.next HB.out) (HG.out.next HB.out))
  try unfold sv at HU
  rw[HN.out] at HU
  go_wp2_with fail
  refine HU.out.mono ?_;rintro e w3 ⟨rfl,hb1⟩;have HB:=Y1 (Z00 HB.out hb1);clear hb1 HU a0 a1 a2 a3 a4 b0 b1 b2 b3 b4;clear hW1 hW2
  go_wp2_with fail
  refine (Z07 _ (HG.out.next HB.out)).mono ?_;rintro e w4 ⟨rfl,hb1⟩;have HB:=Y1 (Z00 HB1.out (Z00 HB.out hb1));clear hb1;go_wp2;go_ret;exact ⟨rfl,HB.out⟩
 | true=>
  have HN:=Y1 h0;clear h0;cases h1:Grd.between a b with
  | none=>
   have HO:=Y1 h1;clear h1;cases h1:Grd.beside a b with
   | none=>
    have HP:=Y1 h1;clear h1;obtain ⟨_,⟨a0,a1,a2,a3,a4⟩,_⟩:=HXa.out.next HB.out;simp only[Nat.zero_add] at a0 a1 a2 a3 a4;obtain ⟨_,⟨b0,b1,b2,b3,b4⟩,_⟩:=HXb.out.next HB.out;simp only[Nat.zero_add] at b0 b1 b2 b3 b4;have HU:=Y1 (Z0X a b pa pb _ (HAa.out.next HB.out) (HAb.out.next HB.out) (HG.out.next HB.out))
    try unfold sv at HU
    go_enter Tryd.func6,Tryd.ntmps6
    go_wp2_with fail
    refine HU.out.mono ?_;rintro e w5 ⟨qu,he,hat,hb1⟩;rw[HO.out] at he hat;obtain ⟨u,hu⟩: ∃z,z=Z0p:=⟨_,rfl⟩;have HEu:=Y1 hu;simp only[Option.getD_some,Option.isSome_some,Option.getD_none,Option.isSome_none, <-hu] at he hat;subst he;have hb2:=Z01 w5 (.cells (Y8 u qu) 25);have HXu:=Y1 (Z02 w5 u qu);have HAu:=Y1 (hat.here.next hb2);have HB:=Y1 (Z00 HB.out (Z00 hb1 hb2));obtain ⟨W5,hW5⟩: ∃z,w5.alloc (.cells (Y8 u qu) 25)=z:=⟨_,rfl⟩;rw[hW5] at HXu HAu HB;clear hb1 hb2 hat HU hu a0 a1 a2 a3 a4 b0 b1 b2 b3 b4;have HXa:=Y1 (HXa.out.next HB.out);have HXb:=Y1 (HXb.out.next HB.out);have HAa:=Y1 (HAa.out.next HB.out);have HAb:=Y1 (HAb.out.next HB.out);have HG:=Y1 (HG.out.next HB.out);have HB1:=Y1 (Z00 HB1.out HB.out);have HB:=Y1 (Below.refl W5.heap.size W5)
    try unfold sv
    clear hu1 hs1 hu2 hs2;obtain ⟨_,⟨a0,a1,a2,a3,a4⟩,_⟩:=HXa.out.next HB.out;simp only[Nat.zero_add] at a0 a1 a2 a3 a4;obtain ⟨_,⟨b0,b1,b2,b3,b4⟩,_⟩:=HXb.out.next HB.out;simp only[Nat.zero_add] at b0 b1 b2 b3 b4;have HU:=Y1 (Z1i a b pa pb _ (HAa.out.next HB.out) (HAb.out.next HB.out) (HG.out.next HB.out))
    try unfold sv at HU
    go_wp2_with fail
    refine HU.out.mono ?_;rintro e w6 ⟨qv,he,hat,hb1⟩;rw[HP.out] at he hat;obtain ⟨v,hv⟩: ∃z,z=Z0p:=⟨_,rfl⟩;have HEv:=Y1 hv;simp only[Option.getD_some,Option.isSome_some,Option.getD_none,Option.isSome_none, <-hv] at he hat;subst he;have hb2:=Z01 w6 (.cells (Y8 v qv) 25);have HXv:=Y1 (Z02 w6 v qv);have HAv:=Y1 (hat.here.next hb2);have HB:=Y1 (Z00 HB.out (Z00 hb1 hb2));obtain ⟨W6,hW6⟩: ∃z,w6.alloc (.cells (Y8 v qv) 25)=z:=⟨_,rfl⟩;rw[hW6] at HXv HAv HB;clear hb1 hb2 hat HU hv a0 a1 a2 a3 a4 b0 b1 b2 b3 b4;have HXa:=Y1 (HXa.out.next HB.out);have HXb:=Y1 (HXb.out.next HB.out);have HAa:=Y1 (HAa.out.next HB.out);have HAb:=Y1 (HAb.out.next HB.out);have HG:=Y1 (HG.out.next HB.out);have HB1:=Y1 (Z00 HB1.out HB.out);have HXu:=Y1 (HXu.out.next HB.out);have HAu:=Y1 (HAu.out.next HB.out);have HB:=Y1 (Below.refl W6.heap.size W6)
    try unfold sv
    obtain ⟨_,⟨a0,a1,a2,a3,a4⟩,_⟩:=HXa.out.next HB.out;simp only[Nat.zero_add] at a0 a1 a2 a3 a4;obtain ⟨_,⟨b0,b1,b2,b3,b4⟩,_⟩:=HXb.out.next HB.out;simp only[Nat.zero_add] at b0 b1 b2 b3 b4;have HU:=Y1 (Z0a a b pa pb _ (HAa.out.next HB.out) (HAb.out.next HB.out) (HG.out.next HB.out))
    try unfold sv at HU
    rw[HN.out] at HU
    go_wp2_with fail
    refine HU.out.mono ?_;rintro e w7 ⟨rfl,hb1⟩;have HB:=Y1 (Z00 HB.out hb1);clear hb1 HU a0 a1 a2 a3 a4 b0 b1 b2 b3 b4;clear hW5 hW6;obtain ⟨_,⟨a0,a1,a2,a3,a4⟩,_⟩:=HXa.out.next HB.out;simp only[Nat.zero_add] at a0 a1 a2 a3 a4;have HU:=Y1 (Z1m a pa _ (HAa.out.next HB.out))
    go_wp2_with fail
    refine HU.out.mono ?_;rintro e w8 ⟨rfl,hb1⟩;have HB:=Y1 (Z00 HB.out hb1);clear hb1 HU a0 a1 a2 a3 a4;by_cases sa:sizeTo 400 a<=200
    {have sa2: ¬((200:Int) < (sizeTo 400 a:Int)):=by omega
     have HSA:=Y1 sa;clear sa;obtain ⟨_,⟨b0,b1,b2,b3,b4⟩,_⟩:=HXb.out.next HB.out;simp only[Nat.zero_add] at b0 b1 b2 b3 b4;have HU:=Y1 (Z1m b pb _ (HAb.out.next HB.out))
     go_wp2_with fail
     refine HU.out.mono ?_;rintro e w9 ⟨rfl,hb1⟩;have HB:=Y1 (Z00 HB.out hb1);clear hb1 HU b0 b1 b2 b3 b4;by_cases sb:sizeTo 400 b<=200
     {exact absurd (Grd.between_on HN.out (Grd.size_small (Grd.near_iff.1 HN.out).1 HSA.out) (Grd.size_small (Grd.near_iff.1 HN.out).2.1 sb)).1 (by rw[HO.out]; simp)}
     {have sb2: (200:Int) < (sizeTo 400 b:Int):=by omega
      clear sb
      go_wp2_with fail
      refine (Z07 _ (HG.out.next HB.out)).mono ?_;rintro e w10 ⟨rfl,hb1⟩;have HB:=Y1 (Z00 HB1.out (Z00 HB.out hb1));clear hb1;go_wp2;go_ret;exact ⟨rfl,HB.out⟩}}
    {have sa2: (200:Int) < (sizeTo 400 a:Int):=by omega
     clear sa
     go_wp2_with fail
     refine (Z07 _ (HG.out.next HB.out)).mono ?_;rintro e w11 ⟨rfl,hb1⟩;have HB:=Y1 (Z00 HB1.out (Z00 HB.out hb1));clear hb1;go_wp2;go_ret;exact ⟨rfl,HB.out⟩}
   | some v0x=>
    have HP:=Y1 h1;clear h1;obtain ⟨_,⟨a0,a1,a2,a3,a4⟩,_⟩:=HXa.out.next HB.out;simp only[Nat.zero_add] at a0 a1 a2 a3 a4;obtain ⟨_,⟨b0,b1,b2,b3,b4⟩,_⟩:=HXb.out.next HB.out;simp only[Nat.zero_add] at b0 b1 b2 b3 b4;have HU:=Y1 (Z0X a b pa pb _ (HAa.out.next HB.out) (HAb.out.next HB.out) (HG.out.next HB.out))
    try unfold sv at HU
    go_enter Tryd.func6,Tryd.ntmps6
    go_wp2_with fail
    refine HU.out.mono ?_;rintro e w12 ⟨qu,he,hat,hb1⟩;rw[HO.out] at he hat;obtain ⟨u,hu⟩: ∃z,z=Z0p:=⟨_,rfl⟩;have HEu:=Y1 hu;simp only[Option.getD_some,Option.isSome_some,Option.getD_none,Option.isSome_none, <-hu] at he hat;subst he;have hb2:=Z01 w12 (.cells (Y8 u qu) 25);have HXu:=Y1 (Z02 w12 u qu);have HAu:=Y1 (hat.here.next hb2);have HB:=Y1 (Z00 HB.out (Z00 hb1 hb2));obtain ⟨W12,hW12⟩: ∃z,w12.alloc (.cells (Y8 u qu) 25)=z:=⟨_,rfl⟩;rw[hW12] at HXu HAu HB;clear hb1 hb2 hat HU hu a0 a1 a2 a3 a4 b0 b1 b2 b3 b4;have HXa:=Y1 (HXa.out.next HB.out);have HXb:=Y1 (HXb.out.next HB.out);have HAa:=Y1 (HAa.out.next HB.out);have HAb:=Y1 (HAb.out.next HB.out);have HG:=Y1 (HG.out.next HB.out);have HB1:=Y1 (Z00 HB1.out HB.out);have HB:=Y1 (Below.refl W12.heap.size W12)
    try unfold sv
    clear hu1 hs1 hu2 hs2;obtain ⟨_,⟨a0,a1,a2,a3,a4⟩,_⟩:=HXa.out.next HB.out;simp only[Nat.zero_add] at a0 a1 a2 a3 a4;obtain ⟨_,⟨b0,b1,b2,b3,b4⟩,_⟩:=HXb.out.next HB.out;simp only[Nat.zero_add] at b0 b1 b2 b3 b4;have HU:=Y1 (Z1i a b pa pb _ (HAa.out.next HB.out) (HAb.out.next HB.out) (HG.out.next HB.out))
    try unfold sv at HU
    go_wp2_with fail
    refine HU.out.mono ?_;rintro e w13 ⟨qv,he,hat,hb1⟩;rw[HP.out] at he hat;obtain ⟨v,hv⟩: ∃z,z=v0x:=⟨_,rfl⟩;have HEv:=Y1 hv;simp only[Option.getD_some,Option.isSome_some,Option.getD_none,Option.isSome_none, <-hv] at he hat;subst he;have hb2:=Z01 w13 (.cells (Y8 v qv) 25);have HXv:=Y1 (Z02 w13 v qv);have HAv:=Y1 (hat.here.next hb2);have HB:=Y1 (Z00 HB.out (Z00 hb1 hb2));obtain ⟨W13,hW13⟩: ∃z,w13.alloc (.cells (Y8 v qv) 25)=z:=⟨_,rfl⟩;rw[hW13] at HXv HAv HB;clear hb1 hb2 hat HU hv a0 a1 a2 a3 a4 b0 b1 b2 b3 b4;have HXa:=Y1 (HXa.out.next HB.out);have HXb:=Y1 (HXb.out.next HB.out);have HAa:=Y1 (HAa.out.next HB.out);have HAb:=Y1 (HAb.out.next HB.out);have HG:=Y1 (HG.out.next HB.out);have HB1:=Y1 (Z00 HB1.out HB.out);have HXu:=Y1 (HXu.out.next HB.out);have HAu:=Y1 (HAu.out.next HB.out);have HB:=Y1 (Below.refl W13.heap.size W13)
    try unfold sv
    obtain ⟨_,⟨v0,v1,v2,v3,v4⟩,_⟩:=HXv.out.next HB.out;simp only[Nat.zero_add] at v0 v1 v2 v3 v4;obtain ⟨_,⟨a0,a1,a2,a3,a4⟩,_⟩:=HXa.out.next HB.out;simp only[Nat.zero_add] at a0 a1 a2 a3 a4;have HU:=Y1 (Z0h v a qv pa _ (HAv.out.next HB.out) (HAa.out.next HB.out) (HG.out.next HB.out))
    try unfold sv at HU
    rw[show Grd.alike v a=true from by rw[HEv.out]; exact (Grd.beside_is HP.out).1] at HU
    go_wp2_with fail
    refine HU.out.mono ?_;rintro e w14 ⟨rfl,hb1⟩;have HB:=Y1 (Z00 HB.out hb1);clear hb1 HU v0 v1 v2 v3 v4 a0 a1 a2 a3 a4;clear hW12 hW13;obtain ⟨_,⟨v0,v1,v2,v3,v4⟩,_⟩:=HXv.out.next HB.out;simp only[Nat.zero_add] at v0 v1 v2 v3 v4;obtain ⟨_,⟨b0,b1,b2,b3,b4⟩,_⟩:=HXb.out.next HB.out;simp only[Nat.zero_add] at b0 b1 b2 b3 b4;have HU:=Y1 (Z0r v b qv pb _ (HAv.out.next HB.out) (HAb.out.next HB.out) (HG.out.next HB.out))
    try unfold sv at HU
    rw[show Sub.below v b=true from by rw[HEv.out]; exact (Grd.beside_is HP.out).2] at HU
    go_wp2_with fail
    refine HU.out.mono ?_;rintro e w15 ⟨rfl,hb1⟩;have HB:=Y1 (Z00 HB.out hb1);clear hb1 HU v0 v1 v2 v3 v4 b0 b1 b2 b3 b4;obtain ⟨_,⟨a0,a1,a2,a3,a4⟩,_⟩:=HXa.out.next HB.out;simp only[Nat.zero_add] at a0 a1 a2 a3 a4;obtain ⟨_,⟨b0,b1,b2,b3,b4⟩,_⟩:=HXb.out.next HB.out;simp only[Nat.zero_add] at b0 b1 b2 b3 b4;have HU:=Y1 (Z0a a b pa pb _ (HAa.out.next HB.out) (HAb.out.next HB.out) (HG.out.next HB.out))
    try unfold sv at HU
    rw[HN.out] at HU
    go_wp2_with fail
    refine HU.out.mono ?_;rintro e w16 ⟨rfl,hb1⟩;have HB:=Y1 (Z00 HB.out hb1);clear hb1 HU a0 a1 a2 a3 a4 b0 b1 b2 b3 b4;obtain ⟨_,⟨a0,a1,a2,a3,a4⟩,_⟩:=HXa.out.next HB.out;simp only[Nat.zero_add] at a0 a1 a2 a3 a4;have HU:=Y1 (Z1m a pa _ (HAa.out.next HB.out))
    go_wp2_with fail
    refine HU.out.mono ?_;rintro e w17 ⟨rfl,hb1⟩;have HB:=Y1 (Z00 HB.out hb1);clear hb1 HU a0 a1 a2 a3 a4;by_cases sa:sizeTo 400 a<=200
    {have sa2: ¬((200:Int) < (sizeTo 400 a:Int)):=by omega
     have HSA:=Y1 sa;clear sa;obtain ⟨_,⟨b0,b1,b2,b3,b4⟩,_⟩:=HXb.out.next HB.out;simp only[Nat.zero_add] at b0 b1 b2 b3 b4;have HU:=Y1 (Z1m b pb _ (HAb.out.next HB.out))
     go_wp2_with fail
     refine HU.out.mono ?_;rintro e w18 ⟨rfl,hb1⟩;have HB:=Y1 (Z00 HB.out hb1);clear hb1 HU b0 b1 b2 b3 b4;by_cases sb:sizeTo 400 b<=200
     {exact absurd (Grd.between_on HN.out (Grd.size_small (Grd.near_iff.1 HN.out).1 HSA.out) (Grd.size_small (Grd.near_iff.1 HN.out).2.1 sb)).1 (by rw[HO.out]; simp)}
     {have sb2: (200:Int) < (sizeTo 400 b:Int):=by omega
      clear sb
      go_wp2_with fail
      refine (Z07 _ (HG.out.next HB.out)).mono ?_;rintro e w19 ⟨rfl,hb1⟩;have HB:=Y1 (Z00 HB1.out (Z00 HB.out hb1));clear hb1;go_wp2;go_ret;exact ⟨rfl,HB.out⟩}}
    {have sa2: (200:Int) < (sizeTo 400 a:Int):=by omega
     clear sa
     go_wp2_with fail
     refine (Z07 _ (HG.out.next HB.out)).mono ?_;rintro e w20 ⟨rfl,hb1⟩;have HB:=Y1 (Z00 HB1.out (Z00 HB.out hb1));clear hb1;go_wp2;go_ret;exact ⟨rfl,HB.out⟩}
  | some u0x=>
   have HO:=Y1 h1;clear h1;cases h1:Grd.beside a b with
   | none=>
    have HP:=Y1 h1;clear h1;obtain ⟨_,⟨a0,a1,a2,a3,a4⟩,_⟩:=HXa.out.next HB.out;simp only[Nat.zero_add] at a0 a1 a2 a3 a4;obtain ⟨_,⟨b0,b1,b2,b3,b4⟩,_⟩:=HXb.out.next HB.out;simp only[Nat.zero_add] at b0 b1 b2 b3 b4;have HU:=Y1 (Z0X a b pa pb _ (HAa.out.next HB.out) (HAb.out.next HB.out) (HG.out.next HB.out))
    try unfold sv at HU
    go_enter Tryd.func6,Tryd.ntmps6
    go_wp2_with fail
    refine HU.out.mono ?_;rintro e w21 ⟨qu,he,hat,hb1⟩;rw[HO.out] at he hat;obtain ⟨u,hu⟩: ∃z,z=u0x:=⟨_,rfl⟩;have HEu:=Y1 hu;simp only[Option.getD_some,Option.isSome_some,Option.getD_none,Option.isSome_none, <-hu] at he hat;subst he;have hb2:=Z01 w21 (.cells (Y8 u qu) 25);have HXu:=Y1 (Z02 w21 u qu);have HAu:=Y1 (hat.here.next hb2);have HB:=Y1 (Z00 HB.out (Z00 hb1 hb2));obtain ⟨W21,hW21⟩: ∃z,w21.alloc (.cells (Y8 u qu) 25)=z:=⟨_,rfl⟩;rw[hW21] at HXu HAu HB;clear hb1 hb2 hat HU hu a0 a1 a2 a3 a4 b0 b1 b2 b3 b4;have HXa:=Y1 (HXa.out.next HB.out);have HXb:=Y1 (HXb.out.next HB.out);have HAa:=Y1 (HAa.out.next HB.out);have HAb:=Y1 (HAb.out.next HB.out);have HG:=Y1 (HG.out.next HB.out);have HB1:=Y1 (Z00 HB1.out HB.out);have HB:=Y1 (Below.refl W21.heap.size W21)
    try unfold sv
    clear hu1 hs1 hu2 hs2;obtain ⟨_,⟨a0,a1,a2,a3,a4⟩,_⟩:=HXa.out.next HB.out;simp only[Nat.zero_add] at a0 a1 a2 a3 a4;obtain ⟨_,⟨b0,b1,b2,b3,b4⟩,_⟩:=HXb.out.next HB.out;simp only[Nat.zero_add] at b0 b1 b2 b3 b4;have HU:=Y1 (Z1i a b pa pb _ (HAa.out.next HB.out) (HAb.out.next HB.out) (HG.out.next HB.out))
    try unfold sv at HU
    go_wp2_with fail
    refine HU.out.mono ?_;rintro e w22 ⟨qv,he,hat,hb1⟩;rw[HP.out] at he hat;obtain ⟨v,hv⟩: ∃z,z=Z0p:=⟨_,rfl⟩;have HEv:=Y1 hv;simp only[Option.getD_some,Option.isSome_some,Option.getD_none,Option.isSome_none, <-hv] at he hat;subst he;have hb2:=Z01 w22 (.cells (Y8 v qv) 25);have HXv:=Y1 (Z02 w22 v qv);have HAv:=Y1 (hat.here.next hb2);have HB:=Y1 (Z00 HB.out (Z00 hb1 hb2));obtain ⟨W22,hW22⟩: ∃z,w22.alloc (.cells (Y8 v qv) 25)=z:=⟨_,rfl⟩;rw[hW22] at HXv HAv HB;clear hb1 hb2 hat HU hv a0 a1 a2 a3 a4 b0 b1 b2 b3 b4;have HXa:=Y1 (HXa.out.next HB.out);have HXb:=Y1 (HXb.out.next HB.out);have HAa:=Y1 (HAa.out.next HB.out);have HAb:=Y1 (HAb.out.next HB.out);have HG:=Y1 (HG.out.next HB.out);have HB1:=Y1 (Z00 HB1.out HB.out);have HXu:=Y1 (HXu.out.next HB.out);have HAu:=Y1 (HAu.out.next HB.out);have HB:=Y1 (Below.refl W22.heap.size W22)
    try unfold sv
    obtain ⟨_,⟨a0,a1,a2,a3,a4⟩,_⟩:=HXa.out.next HB.out;simp only[Nat.zero_add] at a0 a1 a2 a3 a4;obtain ⟨_,⟨u0,u1,u2,u3,u4⟩,_⟩:=HXu.out.next HB.out;simp only[Nat.zero_add] at u0 u1 u2 u3 u4;have HU:=Y1 (Z0r a u pa qu _ (HAa.out.next HB.out) (HAu.out.next HB.out) (HG.out.next HB.out))
    try unfold sv at HU
    rw[show Sub.below a u=true from by rw[HEu.out]; exact (Grd.between_is HO.out).1] at HU
    go_wp2_with fail
    refine HU.out.mono ?_;rintro e w23 ⟨rfl,hb1⟩;have HB:=Y1 (Z00 HB.out hb1);clear hb1 HU a0 a1 a2 a3 a4 u0 u1 u2 u3 u4;clear hW21 hW22;obtain ⟨_,⟨u0,u1,u2,u3,u4⟩,_⟩:=HXu.out.next HB.out;simp only[Nat.zero_add] at u0 u1 u2 u3 u4;obtain ⟨_,⟨b0,b1,b2,b3,b4⟩,_⟩:=HXb.out.next HB.out;simp only[Nat.zero_add] at b0 b1 b2 b3 b4;have HU:=Y1 (Z0h u b qu pb _ (HAu.out.next HB.out) (HAb.out.next HB.out) (HG.out.next HB.out))
    try unfold sv at HU
    rw[show Grd.alike u b=true from by rw[HEu.out]; exact (Grd.between_is HO.out).2] at HU
    go_wp2_with fail
    refine HU.out.mono ?_;rintro e w24 ⟨rfl,hb1⟩;have HB:=Y1 (Z00 HB.out hb1);clear hb1 HU u0 u1 u2 u3 u4 b0 b1 b2 b3 b4;obtain ⟨_,⟨a0,a1,a2,a3,a4⟩,_⟩:=HXa.out.next HB.out;simp only[Nat.zero_add] at a0 a1 a2 a3 a4;obtain ⟨_,⟨b0,b1,b2,b3,b4⟩,_⟩:=HXb.out.next HB.out;simp only[Nat.zero_add] at b0 b1 b2 b3 b4;have HU:=Y1 (Z0a a b pa pb _ (HAa.out.next HB.out) (HAb.out.next HB.out) (HG.out.next HB.out))
    try unfold sv at HU
    rw[HN.out] at HU
    go_wp2_with fail
    refine HU.out.mono ?_;rintro e w25 ⟨rfl,hb1⟩;have HB:=Y1 (Z00 HB.out hb1);clear hb1 HU a0 a1 a2 a3 a4 b0 b1 b2 b3 b4;obtain ⟨_,⟨a0,a1,a2,a3,a4⟩,_⟩:=HXa.out.next HB.out;simp only[Nat.zero_add] at a0 a1 a2 a3 a4;have HU:=Y1 (Z1m a pa _ (HAa.out.next HB.out))
    go_wp2_with fail
    refine HU.out.mono ?_;rintro e w26 ⟨rfl,hb1⟩;have HB:=Y1 (Z00 HB.out hb1);clear hb1 HU a0 a1 a2 a3 a4;by_cases sa:sizeTo 400 a<=200
    {have sa2: ¬((200:Int) < (sizeTo 400 a:Int)):=by omega
     have HSA:=Y1 sa;clear sa;obtain ⟨_,⟨b0,b1,b2,b3,b4⟩,_⟩:=HXb.out.next HB.out;simp only[Nat.zero_add] at b0 b1 b2 b3 b4;have HU:=Y1 (Z1m b pb _ (HAb.out.next HB.out))
     go_wp2_with fail
     refine HU.out.mono ?_;rintro e w27 ⟨rfl,hb1⟩;have HB:=Y1 (Z00 HB.out hb1);clear hb1 HU b0 b1 b2 b3 b4;by_cases sb:sizeTo 400 b<=200
     {exact absurd (Grd.between_on HN.out (Grd.size_small (Grd.near_iff.1 HN.out).1 HSA.out) (Grd.size_small (Grd.near_iff.1 HN.out).2.1 sb)).2 (by rw[HP.out]; simp)}
     {have sb2: (200:Int) < (sizeTo 400 b:Int):=by omega
      clear sb
      go_wp2_with fail
      refine (Z07 _ (HG.out.next HB.out)).mono ?_;rintro e w28 ⟨rfl,hb1⟩;have HB:=Y1 (Z00 HB1.out (Z00 HB.out hb1));clear hb1;go_wp2;go_ret;exact ⟨rfl,HB.out⟩}}
    {have sa2: (200:Int) < (sizeTo 400 a:Int):=by omega
     clear sa
     go_wp2_with fail
     refine (Z07 _ (HG.out.next HB.out)).mono ?_;rintro e w29 ⟨rfl,hb1⟩;have HB:=Y1 (Z00 HB1.out (Z00 HB.out hb1));clear hb1;go_wp2;go_ret;exact ⟨rfl,HB.out⟩}
   | some v0x=>
    have HP:=Y1 h1;clear h1;obtain ⟨_,⟨a0,a1,a2,a3,a4⟩,_⟩:=HXa.out.next HB.out;simp only[Nat.zero_add] at a0 a1 a2 a3 a4;obtain ⟨_,⟨b0,b1,b2,b3,b4⟩,_⟩:=HXb.out.next HB.out;simp only[Nat.zero_add] at b0 b1 b2 b3 b4;have HU:=Y1 (Z0X a b pa pb _ (HAa.out.next HB.out) (HAb.out.next HB.out) (HG.out.next HB.out))
    try unfold sv at HU
    go_enter Tryd.func6,Tryd.ntmps6
    go_wp2_with fail
    refine HU.out.mono ?_;rintro e w30 ⟨qu,he,hat,hb1⟩;rw[HO.out] at he hat;obtain ⟨u,hu⟩: ∃z,z=u0x:=⟨_,rfl⟩;have HEu:=Y1 hu;simp only[Option.getD_some,Option.isSome_some,Option.getD_none,Option.isSome_none, <-hu] at he hat;subst he;have hb2:=Z01 w30 (.cells (Y8 u qu) 25);have HXu:=Y1 (Z02 w30 u qu);have HAu:=Y1 (hat.here.next hb2);have HB:=Y1 (Z00 HB.out (Z00 hb1 hb2));obtain ⟨W30,hW30⟩: ∃z,w30.alloc (.cells (Y8 u qu) 25)=z:=⟨_,rfl⟩;rw[hW30] at HXu HAu HB;clear hb1 hb2 hat HU hu a0 a1 a2 a3 a4 b0 b1 b2 b3 b4;have HXa:=Y1 (HXa.out.next HB.out);have HXb:=Y1 (HXb.out.next HB.out);have HAa:=Y1 (HAa.out.next HB.out);have HAb:=Y1 (HAb.out.next HB.out);have HG:=Y1 (HG.out.next HB.out);have HB1:=Y1 (Z00 HB1.out HB.out);have HB:=Y1 (Below.refl W30.heap.size W30)
    try unfold sv
    clear hu1 hs1 hu2 hs2;obtain ⟨_,⟨a0,a1,a2,a3,a4⟩,_⟩:=HXa.out.next HB.out;simp only[Nat.zero_add] at a0 a1 a2 a3 a4;obtain ⟨_,⟨b0,b1,b2,b3,b4⟩,_⟩:=HXb.out.next HB.out;simp only[Nat.zero_add] at b0 b1 b2 b3 b4;have HU:=Y1 (Z1i a b pa pb _ (HAa.out.next HB.out) (HAb.out.next HB.out) (HG.out.next HB.out))
    try unfold sv at HU
    go_wp2_with fail
    refine HU.out.mono ?_;rintro e w31 ⟨qv,he,hat,hb1⟩;rw[HP.out] at he hat;obtain ⟨v,hv⟩: ∃z,z=v0x:=⟨_,rfl⟩;have HEv:=Y1 hv;simp only[Option.getD_some,Option.isSome_some,Option.getD_none,Option.isSome_none, <-hv] at he hat;subst he;have hb2:=Z01 w31 (.cells (Y8 v qv) 25);have HXv:=Y1 (Z02 w31 v qv);have HAv:=Y1 (hat.here.next hb2);have HB:=Y1 (Z00 HB.out (Z00 hb1 hb2));obtain ⟨W31,hW31⟩: ∃z,w31.alloc (.cells (Y8 v qv) 25)=z:=⟨_,rfl⟩;rw[hW31] at HXv HAv HB;clear hb1 hb2 hat HU hv a0 a1 a2 a3 a4 b0 b1 b2 b3 b4;have HXa:=Y1 (HXa.out.next HB.out);have HXb:=Y1 (HXb.out.next HB.out);have HAa:=Y1 (HAa.out.next HB.out);have HAb:=Y1 (HAb.out.next HB.out);have HG:=Y1 (HG.out.next HB.out);have HB1:=Y1 (Z00 HB1.out HB.out);have HXu:=Y1 (HXu.out.next HB.out);have HAu:=Y1 (HAu.out.next HB.out);have HB:=Y1 (Below.refl W31.heap.size W31)
    try unfold sv
    obtain ⟨_,⟨a0,a1,a2,a3,a4⟩,_⟩:=HXa.out.next HB.out;simp only[Nat.zero_add] at a0 a1 a2 a3 a4;obtain ⟨_,⟨u0,u1,u2,u3,u4⟩,_⟩:=HXu.out.next HB.out;simp only[Nat.zero_add] at u0 u1 u2 u3 u4;have HU:=Y1 (Z0r a u pa qu _ (HAa.out.next HB.out) (HAu.out.next HB.out) (HG.out.next HB.out))
    try unfold sv at HU
    rw[show Sub.below a u=true from by rw[HEu.out]; exact (Grd.between_is HO.out).1] at HU
    go_wp2_with fail
    refine HU.out.mono ?_;rintro e w32 ⟨rfl,hb1⟩;have HB:=Y1 (Z00 HB.out hb1);clear hb1 HU a0 a1 a2 a3 a4 u0 u1 u2 u3 u4;clear hW30 hW31;obtain ⟨_,⟨u0,u1,u2,u3,u4⟩,_⟩:=HXu.out.next HB.out;simp only[Nat.zero_add] at u0 u1 u2 u3 u4;obtain ⟨_,⟨b0,b1,b2,b3,b4⟩,_⟩:=HXb.out.next HB.out;simp only[Nat.zero_add] at b0 b1 b2 b3 b4;have HU:=Y1 (Z0h u b qu pb _ (HAu.out.next HB.out) (HAb.out.next HB.out) (HG.out.next HB.out))
    try unfold sv at HU
    rw[show Grd.alike u b=true from by rw[HEu.out]; exact (Grd.between_is HO.out).2] at HU
    go_wp2_with fail
    refine HU.out.mono ?_;rintro e w33 ⟨rfl,hb1⟩;have HB:=Y1 (Z00 HB.out hb1);clear hb1 HU u0 u1 u2 u3 u4 b0 b1 b2 b3 b4;obtain ⟨_,⟨v0,v1,v2,v3,v4⟩,_⟩:=HXv.out.next HB.out;simp only[Nat.zero_add] at v0 v1 v2 v3 v4;obtain ⟨_,⟨a0,a1,a2,a3,a4⟩,_⟩:=HXa.out.next HB.out;simp only[Nat.zero_add] at a0 a1 a2 a3 a4;have HU:=Y1 (Z0h v a qv pa _ (HAv.out.next HB.out) (HAa.out.next HB.out) (HG.out.next HB.out))
    try unfold sv at HU
    rw[show Grd.alike v a=true from by rw[HEv.out]; exact (Grd.beside_is HP.out).1] at HU
    go_wp2_with fail
    refine HU.out.mono ?_;rintro e w34 ⟨rfl,hb1⟩;have HB:=Y1 (Z00 HB.out hb1);clear hb1 HU v0 v1 v2 v3 v4 a0 a1 a2 a3 a4;obtain ⟨_,⟨v0,v1,v2,v3,v4⟩,_⟩:=HXv.out.next HB.out;simp only[Nat.zero_add] at v0 v1 v2 v3 v4;obtain ⟨_,⟨b0,b1,b2,b3,b4⟩,_⟩:=HXb.out.next HB.out;simp only[Nat.zero_add] at b0 b1 b2 b3 b4;have HU:=Y1 (Z0r v b qv pb _ (HAv.out.next HB.out) (HAb.out.next HB.out) (HG.out.next HB.out))
    try unfold sv at HU
    rw[show Sub.below v b=true from by rw[HEv.out]; exact (Grd.beside_is HP.out).2] at HU
    go_wp2_with fail
    refine HU.out.mono ?_;rintro e w35 ⟨rfl,hb1⟩;have HB:=Y1 (Z00 HB.out hb1);clear hb1 HU v0 v1 v2 v3 v4 b0 b1 b2 b3 b4;obtain ⟨_,⟨a0,a1,a2,a3,a4⟩,_⟩:=HXa.out.next HB.out;simp only[Nat.zero_add] at a0 a1 a2 a3 a4;obtain ⟨_,⟨b0,b1,b2,b3,b4⟩,_⟩:=HXb.out.next HB.out;simp only[Nat.zero_add] at b0 b1 b2 b3 b4;have HU:=Y1 (Z0a a b pa pb _ (HAa.out.next HB.out) (HAb.out.next HB.out) (HG.out.next HB.out))
    try unfold sv at HU
    rw[HN.out] at HU
    go_wp2_with fail
    refine HU.out.mono ?_;rintro e w36 ⟨rfl,hb1⟩;have HB:=Y1 (Z00 HB.out hb1);clear hb1 HU a0 a1 a2 a3 a4 b0 b1 b2 b3 b4
    go_wp2_with fail
    refine (Z07 _ (HG.out.next HB.out)).mono ?_;rintro e w37 ⟨rfl,hb1⟩;have HB:=Y1 (Z00 HB1.out (Z00 HB.out hb1));clear hb1;go_wp2;go_ret;exact ⟨rfl,HB.out⟩
end SubM
end Go.Proofs.YtkhoflciahkphaaDoor
namespace Go.Proofs.YtkhoflciahkphaaDoor.gradualWitness
section
open Go.ChangeShapes Go.WideShapes Go.ChangeAt Go.RowKit
open Go.ChangeMaps (open_string shut_string)
theorem walk (w:World) (u0:Shp.Sh) (p0:Ptr) (S0:ShAt w w.heap.size p0 u0) (u1:Shp.Sh) (p1:Ptr) (S1:ShAt w w.heap.size p1 u1) (hg:WGlobs w):Y9 6 #[.agg (Y8 u0 p0),.agg (Y8 u1 p1)] w (.bool true):=SubM.gradWitness_walk u0 p0 u1 p1 w S0 S1 hg
theorem own:ownKnob Tryd.prog.godebug=none:=by kernel_rfl
theorem laidOut:laidOutB Tryd.prog=true:=by kernel_rfl
theorem contract (H:Type) (enc:TypeId×Value->H) (W:World) (base:Nat) (args:Array Value) (ds gs:List (DataW H)) (before:List MemPlace)
 (hval0: ∀(j:Nat) t v,Tryd.f6.params[j]? =some t->args[j]? =some v->Value.okWide Tryd.prog W .any base t v)
 (hW:DataW.Whole enc Tryd.prog Tryd.f6.params.toList Rows.gradualWitnessSpec.vars false W args.toList ds gs before) (hL:laidMetH Tryd.prog Rows.gradualWitnessRow.laid W) (hsz0: (DataW.weightsEach Tryd.prog (Tryd.f6.params.toList++Rows.gradualWitnessSpec.plain.varTypes Tryd.prog) (ds++gs)).all (· <=reachBytes)=true):
 Calls Tryd.prog 6 args W fun e W'=> ∃v,e= .returned v/\Rows.gradualWitnessSpec.post enc Tryd.prog Tryd.f6 false true false false W args v W':=by
 have hval: ∀(j:Nat) t v,Tryd.f6.params[j]? =some t->args[j]? =some v->Value.okWide Tryd.prog W .any base t v:=hval0;have hsz: (DataW.weightsEach Tryd.prog (Tryd.f6.params.toList++Rows.gradualWitnessSpec.plain.varTypes Tryd.prog) (ds++gs)).all (· <=reachBytes)=true:=hsz0
 have hW':=hW;obtain ⟨p,q,hA0,hV,rfl,hfz,hnd⟩:=hW;have hA:DataW.TrodAll enc Tryd.prog W 0 (fun _=>true) true Tryd.f6.params.toList args.toList ds p:=hA0;rw[Tryd.params6] at hA hval hsz;obtain ⟨v0,vs0,d0,ds0,p0,q0,hargs,rfl,rfl,h0,t0⟩:=trodAll_cons hA;obtain ⟨v1,vs1,d1,ds1,p1,q1,rfl,rfl,rfl,h1,t1⟩:=trodAll_cons t0;obtain ⟨rfl,rfl,rfl⟩:=trodAll_nil t1;obtain rfl:args=#[v0,v1]:=by cases args; simp_all
 obtain ⟨rfl,rfl⟩:=trodVars_none hV;have k0:=h0;have lt0: ∀x∈p0,x.block < W.heap.size:=by obtain ⟨m,hm⟩:=k0; exact DataW.trod_lt m _ _ _ hm
 obtain ⟨u0,y0,rfl,S0⟩:=Z0A (hval 0 25 v0 rfl rfl) h0;have k1:=h1;have lt1: ∀x∈p1,x.block < W.heap.size:=by obtain ⟨m,hm⟩:=k1; exact DataW.trod_lt m _ _ _ hm
 obtain ⟨u1,y1,rfl,S1⟩:=Z0A (hval 1 25 v1 rfl rfl) h1;clear hA0 hval0;rw[MakeChecks.laidMetH_plain _ _ _ (by kernel_rfl)] at hL;have hglob:WGlobs W:=Z22 hL (List.Mem.head _);refine (walk W u0 y0 S0 u1 y1 S1 hglob).mono fun e W' ⟨he,bel⟩=> ?_;subst he;exact ⟨_,rfl,_,_,_,[],_,[],hW',trodAll_mk1 (shut_bool Tryd.underlying4 _),(trodAll_cons_mk (Below.trod laidOut (by kernel_rfl) (of_decide_eq_true (by kernel_rfl)) k0 bel lt0) (trodAll_cons_mk (Below.trod laidOut (by kernel_rfl) (of_decide_eq_true (by kernel_rfl)) k1 bel lt1) trodAll_mk0)),rfl,bel.frame _,fun h=>by cases h⟩
theorem lifted (os:Os) (started:os.Started) (H:Type) (enc:TypeId×Value->H):
 ReturnsInHanded {} Tryd.checked os 6 .any (fun w args=>(Rows.gradualWitnessSpec.pre enc Tryd.prog Tryd.f6 Rows.gradualWitnessRow.domain false w args/\laidMetH Tryd.prog Rows.gradualWitnessRow.laid w)/\sizedMet enc Tryd.prog Tryd.f6 (OpenSpec.ofChange Rows.gradualWitnessSpec) false w args)
  (Rows.gradualWitnessSpec.post enc Tryd.prog Tryd.f6 false true false false):=by
 refine returnsInHanded_of_change_and (C:=Tryd.checked) (X:=fun w _=>laidMetH Tryd.prog Rows.gradualWitnessRow.laid w) (fun _ _ _ hh h=>h.of_heap hh) own started (by kernel_rfl) Tryd.func6
  (ChangeSpec.witness_shaped (enc:=enc) (C:=Tryd.checked) (os:=os) (X:=fun w _=>laidMetH Tryd.prog Rows.gradualWitnessRow.laid w) false (World.laidAll Tryd.prog os Rows.gradualWitnessRow.laid) #[(.agg #[.int .i64 0,.string ByteArray.empty,.string ByteArray.empty,.slice none 0 0,.slice none 0 0]),(.agg #[.int .i64 0,.string ByteArray.empty,.string ByteArray.empty,.slice none 0 0,.slice none 0 0])] 8 (World.laidAll_os _ _ _)
   (World.shaped_of_ZipB (by kernel_rfl) (by kernel_rfl)) (by kernel_rfl) (by kernel_rfl) (by kernel_rfl)
   (by rw[MakeChecks.laidMetH_plain _ _ _ (by kernel_rfl)]; exact laidMet_laidAll _ (by kernel_rfl) (by kernel_rfl))) ?_
 intro W base args ds gs before hval hW _ hsz hL _;exact contract H enc W base args ds gs before hval hW hL hsz
theorem proved:Rows.GradualWitnessSaid:=
 OpenClaim.holds_of_wide 6 Tryd.f6 rfl rfl rfl rfl rfl rfl rfl ⟨rfl,rfl,rfl,rfl,rfl⟩ rfl rfl rfl rfl rfl (by kernel_rfl) Tryd.func6 (by kernel_rfl)
  (of_decide_eq_true (by kernel_rfl)) (by unfold Func.isWrapper; first | (rw[if_pos (by decide+kernel)]; kernel_rfl) | (rw[if_neg (by decide+kernel)]; exact ⟨rfl,rfl⟩))
  (fun os started H enc _=>lifted os started H enc)
theorem card:Rows.GradualWitnessCardSaid:=
 Claim7.holds_tied_plain_at .later [] [.data] true _ false proved (fun _ h=>by cases h) (by kernel_rfl) (fun _ h=>by cases h) gradualWitness_row_tie rfl ⟨rfl,rfl⟩ (by kernel_rfl) rfl
  (fun f fn hf hfn=>by
   obtain rfl:f=6:=Option.some.inj ((show Tryd.prog.funcNamed "pandect/pandectlaw13.GradualWitness" =some 6 by kernel_rfl).symm.trans hf) |>.symm;obtain rfl:fn=Tryd.f6:=(Option.some.inj (Tryd.func6.symm.trans hfn)).symm;exact ⟨by kernel_rfl,fun j t ht=>by
    rw[Tryd.params6] at ht;have hm:t∈ [25,25]:=by simpa using Array.mem_of_getElem? ht
    have hall: ([25,25].all fun u=> !Tryd.prog.wantsStandIn u)=true:=by kernel_rfl
    exact (show Tryd.prog.wantsStandIn t=false by simpa using List.all_eq_true.1 hall t hm)⟩)
  (by kernel_rfl)
end
end Go.Proofs.YtkhoflciahkphaaDoor.gradualWitness
