/- What the proofs of SubtypeBoth, SubtypeGreatest, SubtypeLeast want, part 0. -/
import Derived.Test.YtlomianlcnmfgaaDoorK1n0
set_option linter.unusedVariables false
set_option linter.unusedSimpArgs false
set_option linter.unusedSectionVars false
set_option maxRecDepth 100000
set_option maxHeartbeats 16000000
namespace Sub
section
open Shp
theorem Rec.fits {t:Sh} (h:Rec t):fits t=true:=by rw[Z2u h.b h.k,h.a,h.l]; simp
theorem Z9t {t u:Sh} (hk:u.kind=t.kind) (ho:u.of_=t.of_) (hn:u.name=t.name) (hns:u.names=t.names) (hp:u.parts.length=t.parts.length):fits u=fits t:=by
 unfold fits bare;rw[hk,ho,hn,hns,hp]
theorem Z88 {a b:Sh} (A:Rec a): (callsA a b).map Prod.fst=a.names:=by
 unfold callsA;rw[List.map_map];exact List.map_fst_zip (by rw[A.l]; exact Nat.le_refl _)
theorem Z1f {a b:Sh} (A:Rec a) (B:Rec b): ((calls a b).map Prod.fst).Nodup:=by
 unfold calls;rw[List.map_append,Z88 A,List.nodup_append];have h2: ((callsB a b).map Prod.fst).Sublist b.names:=by
  unfold callsB;rw[List.map_map];have h3:=(List.filter_sublist (p:=fun x:Fld=>(get a x.1).isNone) (l:=b.names.zip b.parts)).map Prod.fst;rw[List.map_fst_zip (by rw[B.l]; exact Nat.le_refl _)] at h3;exact h3
 refine ⟨A.nodup,h2.nodup B.nodup,fun x hx y hy e=> ?_⟩;subst e;unfold callsB at hy;rw[List.map_map,List.mem_map] at hy;obtain ⟨⟨m,p⟩,hm,rfl⟩:=hy;have:=(List.mem_filter.1 hm).2;rw[Option.isNone_iff_eq_none] at this;exact A.get_none.1 this hx
section
variable {s : Cl -> Option Fld} {l : List Cl}
include s l
theorem Z3T {L:List Fld} (h:allOf s l=some L) (x:Fld):x∈L ↔ ∃c∈l,s c=some x:=by
 induction l generalizing L with
 | nil=>unfold allOf at h; cases h; simp
 | cons c l ih=>
  unfold allOf at h;obtain ⟨y,hy,h⟩:=Option.bind_eq_some_iff.1 h;obtain ⟨xs,hxs,rfl⟩:=Option.map_eq_some_iff.1 h;rw[List.mem_cons,ih hxs];constructor
  {rintro (rfl | ⟨c',h1,h2⟩)
   {exact ⟨c,by simp,hy⟩}
   {exact ⟨c',by simp[h1],h2⟩}}
  {rintro ⟨c',h1,h2⟩;rcases List.mem_cons.1 h1 with rfl | h1
   {rw[hy] at h2; cases h2; exact Or.inl rfl}
   {exact Or.inr ⟨c',h1,h2⟩}}
theorem Z89 (h: ∀c∈l,∃x,s c=some x): ∃L,allOf s l=some L:=by
 induction l with
 | nil=>exact ⟨[],rfl⟩
 | cons c l ih=>
  obtain ⟨x,hx⟩:=h c (by simp);obtain ⟨L,hL⟩:=ih (fun c hc=>h c (by simp[hc]));exact ⟨x::L,by unfold allOf; rw[hx,hL]; rfl⟩
end
theorem Zbv (x:List UInt8) (c:Nat) (g:List UInt8->Nat) {N:List (List UInt8)} (h:N.Nodup): (N.map (fun n=>if x=n then c else g n)).sum<=c+(N.map g).sum:=by
 induction N with
 | nil=>simp
 | cons n N ih=>
  rw[List.nodup_cons] at h;simp only[List.map_cons,List.sum_cons];have:=ih h.2;by_cases e:x=n
  {subst e;have h0: ∀M:List (List UInt8),x∉M->M.map (fun n=>if x=n then c else g n)=M.map g:=by
    intro M hM;refine List.map_congr_left (fun y hy=> ?_);rw[if_neg (fun (e:x=y)=>hM (e▸hy))]
   rw[if_pos rfl,h0 N h.1];omega}
  {rw[if_neg e]; omega}
theorem Z5V (ns:List (List UInt8)): ∀(ps:List Sh) {N:List (List UInt8)},N.Nodup->(N.map (fun n=>sz (look ns ps n))).sum<=sizes ps:=by
 induction ns with
 | nil=>
  intro ps N _;have: ∀M:List (List UInt8),(M.map (fun n=>sz (look [] ps n))).sum=0:=by
   intro M;induction M with
   | nil=>rfl
   | cons a M ih=>rw[List.map_cons,List.sum_cons,ih]; cases ps <;> simp[look,sz]
  rw[this]; omega
 | cons x ns ih=>
  intro ps N h;cases ps with
  | nil=>
   have: ∀M:List (List UInt8),(M.map (fun n=>sz (look (x::ns) [] n))).sum=0:=by
    intro M;induction M with
    | nil=>rfl
    | cons a M ih=>rw[List.map_cons,List.sum_cons,ih]; simp[look,sz]
   rw[this]; omega
  | cons p ps=>
   have e: (fun n=>sz (look (x::ns) (p::ps) n))=fun n=>if x=n then size p else sz (look ns ps n):=by
    funext n;rw[show look (x::ns) (p::ps) n=if x=n then some p else look ns ps n from rfl];by_cases e:x=n
    {rw[if_pos e,if_pos e]; rfl}
    {rw[if_neg e,if_neg e]}
   rw[e];have:=Zbv x (size p) (fun n=>sz (look ns ps n)) h;have:=ih ps h;simp only[sizes];omega
def wt (c:Cl):Nat:=sz c.2.1+sz c.2.2
theorem Z3U {a b:Sh} (A:Rec a) (B:Rec b): ((calls a b).map wt).sum<=sizes a.parts+sizes b.parts:=by
 have h1: ∀l:List Cl,(∀c∈l,c∈calls a b)->(l.map wt).sum=((l.map Prod.fst).map (fun n=>sz (get a n))).sum+((l.map Prod.fst).map (fun n=>sz (get b n))).sum:=by
  intro l;induction l with
  | nil=>intro _; rfl
  | cons c l ih=>
   intro h;have h2:=ih (fun c hc=>h c (by simp[hc]));obtain ⟨n,x,y⟩:=c;obtain ⟨rfl,rfl,_⟩:=(Z0p A B).1 (h (n,x,y) (by simp));simp only[List.map_cons,List.sum_cons,wt] at h2 ⊢;omega
 rw[h1 _ (fun _ h=>h)];have h2:=Z5V a.names a.parts (Z1f A B);have h3:=Z5V b.names b.parts (Z1f A B);unfold get;omega
theorem Z5z {g:Sh->Sh->Option Sh} {l:List Cl} (h: ∀c∈l,∀x,narrowStep g c=some x->size x.2<=wt c):sizes ((l.filterMap (narrowStep g)).map Prod.snd)<=(l.map wt).sum:=by
 induction l with
 | nil=>simp[sizes]
 | cons c l ih=>
  have h1:=ih (fun c hc=>h c (by simp[hc]));cases e:narrowStep g c with
  | none=>rw[List.filterMap_cons_none e,List.map_cons,List.sum_cons]; omega
  | some x=>
   have:=h c (by simp) x e;rw[List.filterMap_cons_some e,List.map_cons,List.map_cons,List.sum_cons];simp only[sizes];omega
theorem Z6X {s:Cl->Option Fld} {l:List Cl} {L:List Fld} (e:allOf s l=some L) (h: ∀c∈l,∀x,s c=some x->size x.2<=wt c):sizes (L.map Prod.snd)<=(l.map wt).sum:=by
 induction l generalizing L with
 | nil=>unfold allOf at e; cases e; simp[sizes]
 | cons c l ih=>
  unfold allOf at e;obtain ⟨x,hx,e⟩:=Option.bind_eq_some_iff.1 e;obtain ⟨xs,hxs,rfl⟩:=Option.map_eq_some_iff.1 e;have h1:=ih hxs (fun c hc=>h c (by simp[hc]));have h2:=h c (by simp) x hx;rw[List.map_cons,List.map_cons,List.sum_cons];simp only[sizes];omega
theorem Z5A {ga gr:Sh->Sh->Option Sh} {us bs xs:List Sh} (e:placesOf ga gr us bs=some xs)
 (h: ∀p∈us,∀q∈bs,∀x,(ga p q=some x\/gr p q=some x)->size x<=size p+size q):sizes xs<=sizes us+sizes bs:=by
 induction us generalizing bs xs with
 | nil=>cases bs <;> unfold placesOf at e <;> cases e; simp[sizes]
 | cons a us ih=>
  cases bs with
  | nil=>unfold placesOf at e; cases e
  | cons b bs=>
   unfold placesOf at e;obtain ⟨x,hx,e⟩:=Option.bind_eq_some_iff.1 e;obtain ⟨xs,hxs,rfl⟩:=Option.map_eq_some_iff.1 e;have h1:=ih hxs (fun p hp q hq=>h p (by simp[hp]) q (by simp[hq]));have h2:=h a (by simp) b (by simp) x (by split at hx <;> simp[hx]);simp only[sizes];omega
theorem Z4t {l:List Sh} {D:Nat} (h: ∀p∈l,deep p<=D):deeps l<=D:=by
 induction l with
 | nil=>simp[deeps]
 | cons a l ih=>
  have h1:=h a (by simp);have h2:=ih (fun p hp=>h p (by simp[hp]));simp only[deeps];omega
structure Is (f:Nat) (up:Bool) (a b j:Sh):Prop where
 r:right j=true
 s:size j<=size a+size b
 d:deep j<=max (deep a) (deep b)
 l:V f up a j
 m:V f up b j
theorem Z5W {k:Int} (hk:k=6\/k=7) {l:List Fld} (hd: (l.map Prod.fst).Nodup) (hn: ∀n∈l.map Prod.fst,Lex.isName n=true):Rec (made k l):=
 ⟨hk,rfl,by simp[made],(Z0F _).2 ⟨hn,hd⟩⟩
theorem Z1V {k:Int} {l:List Fld} (hd: (l.map Prod.fst).Nodup) {n:List UInt8} {x:Sh}:get (made k l) n=some x ↔ (n,x)∈l:=Z5U hd
theorem Z4H {f:Nat} {up:Bool} {a b:Sh} (A:Rec a) (B:Rec b) {n:List UInt8} {x:Sh}:
 (n,x)∈(calls a b).filterMap (narrowStep (bound f up)) ↔ ∃p q,get a n=some p/\get b n=some q/\bound f up p q=some x:=by
 rw[List.mem_filterMap];constructor
 {rintro ⟨⟨m,u,v⟩,hm,h⟩;obtain ⟨hu,hv,_⟩:=(Z0p A B).1 hm;unfold narrowStep at h;split at h
  {rename_i e
   simp only[Prod.mk.injEq] at e;obtain ⟨rfl,rfl,rfl⟩:=e;obtain ⟨y,hy,e⟩:=Option.map_eq_some_iff.1 h;simp only[Prod.mk.injEq] at e;obtain ⟨rfl,rfl⟩:=e;exact ⟨_,_,hu.symm,hv.symm,hy⟩}
  {cases h}
  {cases h}}
 {rintro ⟨p,q,hp,hq,hx⟩;refine ⟨(n,some p,some q),(Z0p A B).2 ⟨hp.symm,hq.symm,Or.inl (Z1A hp)⟩, ?_⟩;unfold narrowStep;simp[hx]}
theorem Z7L {g:Sh->Sh->Option Sh} {n:List UInt8} {x:Sh} {u v:Option Sh} (h:wideStep g (n,u,v)=some (n,x)):
 (∃p q,u=some p/\v=some q/\g p q=some x)\/(u=some x/\v=none)\/(u=none/\v=some x):=by
 unfold wideStep at h;split at h
 {rename_i e
  simp only[Prod.mk.injEq] at e;obtain ⟨rfl,rfl,rfl⟩:=e;obtain ⟨y,hy,e⟩:=Option.map_eq_some_iff.1 h;simp only[Prod.mk.injEq] at e;obtain ⟨_,rfl⟩:=e;exact Or.inl ⟨_,_,rfl,rfl,hy⟩}
 {rename_i e
  simp only[Prod.mk.injEq] at e;obtain ⟨rfl,rfl,rfl⟩:=e;cases h;exact Or.inr (Or.inl ⟨rfl,rfl⟩)}
 {rename_i e
  simp only[Prod.mk.injEq] at e;obtain ⟨rfl,rfl,rfl⟩:=e;cases h;exact Or.inr (Or.inr ⟨rfl,rfl⟩)}
 {cases h}
theorem Z1D {f:Nat}: ∀ {up:Bool} {a b j:Sh},right a=true->right b=true->deep a<=f->deep b<=f->bound f up a b=some j->Is f up a b j:=by
 induction f with
 | zero=>intro up a b j _ _ _ _ h; unfold bound at h; cases h
 | succ f ih=>
  intro up a b j ra rb da db h;have pa: ∀p∈a.parts,right p=true/\deep p<=f/\deep p+1<=deep a:=fun p hp=>⟨Z05 ra hp,by have:=Z0P hp; rw[Z0q] at da; omega,by have:=Z0P hp; rw[Z0q a]; omega⟩;have pb: ∀p∈b.parts,right p=true/\deep p<=f/\deep p+1<=deep b:=fun p hp=>⟨Z05 rb hp,by have:=Z0P hp; rw[Z0q] at db; omega,by have:=Z0P hp; rw[Z0q b]; omega⟩;have hdm:1<=deep a:=by rw[Z0q]; omega
  unfold bound at h;split at h
  {cases h}
  rename_i hk
  have hk:a.kind=b.kind:=Decidable.of_not_not hk;split at h
  {rename_i hw
   have A:=Z0n (Z08 ra) (Z0v hw);have B:=Z0n (Z08 rb) (hk▸Z0v hw);cases h;obtain ⟨L,hL⟩: ∃L,L=(calls a b).filterMap (narrowStep (bound f up)):=⟨_,rfl⟩;have hm: ∀n x,(n,x)∈L ↔ ∃p q,get a n=some p/\get b n=some q/\bound f up p q=some x:=fun n x=>by rw[hL]; exact Z4H A B
   have hsub: (L.map Prod.fst).Sublist ((calls a b).map Prod.fst):=by rw[hL]; exact Z2a (fun c x h=>Z2e h) _
   have hd: (L.map Prod.fst).Nodup:=hsub.nodup (Z1f A B);have hR:=Z5W (k:=a.kind) (Z0v hw) hd (fun n hn=>Z2d A B (hsub.subset hn));have hI: ∀n x,(n,x)∈L-> ∃p q,get a n=some p/\get b n=some q/\Is f up p q x:=fun n x hx=>by
    obtain ⟨p,q,hp,hq,hb⟩:=(hm n x).1 hx;obtain ⟨r1,d1,_⟩:=pa p (Z06 hp);obtain ⟨r2,d2,_⟩:=pb q (Z06 hq);exact ⟨p,q,hp,hq,ih r1 r2 d1 d2 hb⟩
   have hP: ∀y∈L.map Prod.snd,∃n,(n,y)∈L:=fun y hy=>by
    obtain ⟨⟨n,y⟩,h,rfl⟩:=List.mem_map.1 hy;exact ⟨n,h⟩
   rw[<-hL];refine ⟨Z2w hR.fits (fun y hy=> ?_), ?_, ?_,⟨rfl,fun _ n x hx=> ?_,fun h=>absurd h (Z1B hw),fun h=>absurd (Z0v hw) h⟩,⟨hk.symm,fun _ n x hx=> ?_,fun h=>absurd h (by rw[<-hk]; exact Z1B hw),fun h=>absurd (Z0v hw) (by rw[hk]; exact h)⟩⟩
   {obtain ⟨n,h⟩:=hP y hy;obtain ⟨p,q,_,_,hi⟩:=hI n y h;exact hi.r}
   {have h1:sizes (L.map Prod.snd)<=((calls a b).map wt).sum:=by
     rw[hL];refine Z5z (fun c hc x hx=> ?_);obtain ⟨n,u,v⟩:=c;obtain ⟨m,y⟩:=x;have e:m=n:=Z2e hx;subst e;obtain ⟨p,q,hp,hq,hi⟩:=hI m y (by rw[hL]; exact List.mem_filterMap.2 ⟨_,hc,hx⟩);obtain ⟨hu,hv,_⟩:=(Z0p A B).1 hc;rw[hp] at hu;rw[hq] at hv;rw[hu,hv];exact hi.s
    have h2:=Z3U A B;rw[size_eq,size_eq a,size_eq b];unfold made;simp only;omega}
   {rw[Z0q];have:deeps (made a.kind L).parts<=max (deep a) (deep b) - 1:=Z4t (fun y hy=>by
     obtain ⟨n,h⟩:=hP y hy;obtain ⟨p,q,hp,hq,hi⟩:=hI n y h;have h1:=(pa p (Z06 hp)).2.2;have h2:=(pb q (Z06 hq)).2.2;have h3:=hi.d;omega)
    omega}
   {obtain ⟨p,q,hp,_,hi⟩:=hI n x ((Z1V hd).1 hx);exact ⟨p,hp,hi.l⟩}
   {obtain ⟨p,q,_,hq,hi⟩:=hI n x ((Z1V hd).1 hx);exact ⟨q,hq,hi.m⟩}}
  split at h
  {rename_i hnw hw
   have A:=Z0n (Z08 ra) (Z0H hw);have B:=Z0n (Z08 rb) (hk▸Z0H hw);obtain ⟨L,hL,rfl⟩:=Option.map_eq_some_iff.1 h;have hfst:=Z2I (fun c x h=>Z1C h) hL;have hd: (L.map Prod.fst).Nodup:=by rw[hfst]; exact Z1f A B
   have hR:=Z5W (k:=a.kind) (Z0H hw) hd (fun n hn=>by rw[hfst] at hn; exact Z2d A B hn)
   -- what stands by a name
   have hI: ∀n x,(n,x)∈L->(∃p q,get a n=some p/\get b n=some q/\Is f up p q x)\/(get a n=some x/\get b n=none)\/(get a n=none/\get b n=some x):=fun n x hx=>by
    obtain ⟨⟨m,u,v⟩,hc,hs⟩:=(Z3T hL _).1 hx;have e:n=m:=Z1C hs;subst e;obtain ⟨rfl,rfl,_⟩:=(Z0p A B).1 hc;rcases Z7L hs with ⟨p,q,hp,hq,hb⟩ | h | h
    {obtain ⟨r1,d1,_⟩:=pa p (Z06 hp);obtain ⟨r2,d2,_⟩:=pb q (Z06 hq);exact Or.inl ⟨p,q,hp,hq,ih r1 r2 d1 d2 hb⟩}
    {exact Or.inr (Or.inl h)}
    {exact Or.inr (Or.inr h)}
   have hP: ∀y∈L.map Prod.snd,∃n,(n,y)∈L:=fun y hy=>by
    obtain ⟨⟨n,y⟩,h,rfl⟩:=List.mem_map.1 hy;exact ⟨n,h⟩
   have hA: ∀n,n∈a.names\/n∈b.names-> ∃x,(n,x)∈L:=fun n hn=>by
    have:n∈L.map Prod.fst:=by
     rw[hfst];exact List.mem_map.2 ⟨(n,get a n,get b n),(Z0p A B).2 ⟨rfl,rfl,hn⟩,rfl⟩
    obtain ⟨⟨m,x⟩,h,rfl⟩:=List.mem_map.1 this;exact ⟨x,h⟩
   refine ⟨Z2w hR.fits (fun y hy=> ?_), ?_, ?_,⟨rfl,fun h=>absurd h hnw,fun _ n p hp=> ?_,fun h=>absurd (Z0H hw) h⟩,⟨hk.symm,fun h=>absurd h (by rw[<-hk]; exact hnw),fun _ n q hq=> ?_,fun h=>absurd (Z0H hw) (by rw[hk]; exact h)⟩⟩
   {obtain ⟨n,h⟩:=hP y hy;rcases hI n y h with ⟨p,q,_,_,hi⟩ | ⟨h1,_⟩ | ⟨_,h1⟩
    {exact hi.r}
    {exact (pa y (Z06 h1)).1}
    {exact (pb y (Z06 h1)).1}}
   {have h1:sizes (L.map Prod.snd)<=((calls a b).map wt).sum:=by
     refine Z6X hL (fun c hc x hx=> ?_);obtain ⟨n,u,v⟩:=c;obtain ⟨m,y⟩:=x;have e:m=n:=Z1C hx;subst e;have hmem: (m,y)∈L:=(Z3T hL _).2 ⟨_,hc,hx⟩;obtain ⟨hu,hv,_⟩:=(Z0p A B).1 hc;unfold wt;simp only;rcases hI m y hmem with ⟨p,q,hp,hq,hi⟩ | ⟨h1,h2⟩ | ⟨h1,h2⟩
     {rw[hu,hv,hp,hq]; exact hi.s}
     {rw[hu,hv,h1,h2]; simp[sz]}
     {rw[hu,hv,h1,h2]; simp[sz]}
    have h2:=Z3U A B;rw[size_eq,size_eq a,size_eq b];unfold made;simp only;omega}
   {rw[Z0q];have:deeps (made a.kind L).parts<=max (deep a) (deep b) - 1:=Z4t (fun y hy=>by
     obtain ⟨n,h⟩:=hP y hy;rcases hI n y h with ⟨p,q,hp,hq,hi⟩ | ⟨h1,_⟩ | ⟨_,h1⟩
     {have h1:=(pa p (Z06 hp)).2.2;have h2:=(pb q (Z06 hq)).2.2;have h3:=hi.d;omega}
     {have:=(pa y (Z06 h1)).2.2; omega}
     · have:=(pb y (Z06 h1)).2.2; omega)
    omega}
   {obtain ⟨x,hx⟩:=hA n (Or.inl (Z1A hp));refine ⟨x,(Z1V hd).2 hx, ?_⟩;rcases hI n x hx with ⟨p',q,hp',_,hi⟩ | ⟨h1,_⟩ | ⟨h1,_⟩
    {rw[hp] at hp'; cases hp'; exact hi.l}
    {rw[hp] at h1; cases h1; exact V.refl (pa _ (Z06 hp)).2.1}
    {rw[hp] at h1; cases h1}}
   {obtain ⟨x,hx⟩:=hA n (Or.inr (Z1A hq));refine ⟨x,(Z1V hd).2 hx, ?_⟩;rcases hI n x hx with ⟨p,q',_,hq',hi⟩ | ⟨_,h1⟩ | ⟨_,h1⟩
    {rw[hq] at hq'; cases hq'; exact hi.m}
    {rw[hq] at h1; cases h1}
    {rw[hq] at h1; cases h1; exact V.refl (pb _ (Z06 hq)).2.1}}}
  split at h
  {rename_i hnw hww he
   obtain ⟨ps,hps,rfl⟩:=Option.map_eq_some_iff.1 h;obtain ⟨l1,l2⟩:=Z1N hps;have hno: ¬(a.kind=6\/a.kind=7):=fun h=>(Z1U h up).elim hnw hww;have hI: ∀i p q x,a.parts[i]? =some p->b.parts[i]? =some q->ps[i]? =some x->Is f (if i+1=a.parts.length then up else !up) p q x:=fun i p q x hp hq hx=>by
    obtain ⟨y,hy,hb⟩:=Z21 hps i p q hp hq;rw[hx] at hy; cases hy;obtain ⟨r1,d1,_⟩:=pa p (List.mem_of_getElem? hp);obtain ⟨r2,d2,_⟩:=pb q (List.mem_of_getElem? hq);by_cases e:i+1=a.parts.length
    {rw[if_pos e] at hb ⊢; exact ih r1 r2 d1 d2 hb}
    {rw[if_neg e] at hb ⊢; exact ih r1 r2 d1 d2 hb}
   have hP: ∀y∈ps,∃i p q,a.parts[i]? =some p/\b.parts[i]? =some q/\ps[i]? =some y:=fun y hy=>by
    obtain ⟨i,hi,e⟩:=List.getElem_of_mem hy;exact ⟨i,_,_,List.getElem?_eq_getElem (by omega),List.getElem?_eq_getElem (by omega),by rw[List.getElem?_eq_getElem hi,e]⟩
   have hns:=Z2H (Z08 ra) hno;refine ⟨Z2w ?_ (fun y hy=> ?_), ?_, ?_,⟨rfl,fun h=>absurd h hnw,fun h=>absurd h hww,fun _=>⟨rfl,rfl,l1.symm,fun i p x hp hx=> ?_⟩⟩,⟨hk.symm,fun h=>absurd h (by rw[<-hk]; exact hnw),fun h=>absurd h (by rw[<-hk]; exact hww),fun _=>⟨he.1.symm,he.2.symm,(l1.trans l2).symm,fun i q x hq hx=> ?_⟩⟩⟩
   {rw[Z9t (t:=a) (u:=⟨a.kind,a.of_,a.name,[],ps⟩) rfl rfl rfl hns.symm l1]; exact Z08 ra}
   {obtain ⟨i,p,q,hp,hq,hx⟩:=hP y hy;exact (hI i p q y hp hq hx).r}
   {have h1:sizes ps<=sizes a.parts+sizes b.parts:=Z5A hps (fun p hp q hq x hx=>by
     obtain ⟨r1,d1,_⟩:=pa p hp;obtain ⟨r2,d2,_⟩:=pb q hq;rcases hx with hx | hx
     {exact (ih r1 r2 d1 d2 hx).s}
     · exact (ih r1 r2 d1 d2 hx).s)
    rw[size_eq,size_eq a,size_eq b];simp only;omega}
   {rw[Z0q];have:deeps ps<=max (deep a) (deep b) - 1:=Z4t (fun y hy=>by
     obtain ⟨i,p,q,hp,hq,hx⟩:=hP y hy;have h1:=(pa p (List.mem_of_getElem? hp)).2.2;have h2:=(pb q (List.mem_of_getElem? hq)).2.2;have h3:=(hI i p q y hp hq hx).d;omega)
    simp only;omega}
   {have hi:i < a.parts.length:=(List.getElem?_eq_some_iff.1 hp).1;have hib:i < b.parts.length:=by omega
    exact (hI i p _ x hp (List.getElem?_eq_getElem hib) hx).l}
   {have hi:i < b.parts.length:=(List.getElem?_eq_some_iff.1 hq).1;have hia:i < a.parts.length:=by omega
    have:=(hI i _ q x (List.getElem?_eq_getElem hia) hq hx).m
    rwa [l2] at this}}
  {cases h}
theorem Z1v {f:Nat}: ∀ {up:Bool} {a b c:Sh},right a=true->right b=true->V f up a c->V f up b c-> ∃j,bound f up a b=some j/\V f up j c:=by
 induction f with
 | zero=>intro up a b c _ _ h; exact h.elim
 | succ f ih=>
  intro up a b c ra rb h k;obtain ⟨hk,h1,h2,h3⟩:=h;obtain ⟨kk,k1,k2,k3⟩:=k;have hkk:a.kind=b.kind:=hk.trans kk.symm;rw[<-hkk] at k1 k2 k3;unfold bound;rw[if_neg (fun h=>h hkk)];by_cases hw:Narrow up a.kind
  {have A:=Z0n (Z08 ra) (Z0v hw);have B:=Z0n (Z08 rb) (hkk▸Z0v hw);rw[if_pos hw];have hsub:=Z2a (fun c x h=>Z2e (g:=bound f up) h) (calls a b);have hd:=hsub.nodup (Z1f A B);refine ⟨_,rfl,hk,fun _ n r hr=> ?_,fun h=>absurd h (Z1B hw),fun h=>absurd (Z0v hw) h⟩;obtain ⟨p,hp,v1⟩:=h1 hw n r hr;obtain ⟨q,hq,v2⟩:=k1 hw n r hr;obtain ⟨x,hx,v⟩:=ih (Z05 ra (Z06 hp)) (Z05 rb (Z06 hq)) v1 v2;exact ⟨x,(Z1V hd).2 ((Z4H A B).2 ⟨p,q,hp,hq,hx⟩),v⟩}
  rw[if_neg hw];by_cases hw2:Wide up a.kind
  {have A:=Z0n (Z08 ra) (Z0H hw2);have B:=Z0n (Z08 rb) (hkk▸Z0H hw2);rw[if_pos hw2];have hE: ∀n p q,get a n=some p->get b n=some q-> ∃x r,bound f up p q=some x/\get c n=some r/\V f up x r:=fun n p q hp hq=>by
    obtain ⟨r,hr,v1⟩:=h2 hw2 n p hp;obtain ⟨r',hr',v2⟩:=k2 hw2 n q hq;rw[hr] at hr'; cases hr';obtain ⟨x,hx,v⟩:=ih (Z05 ra (Z06 hp)) (Z05 rb (Z06 hq)) v1 v2;exact ⟨x,r,hx,hr,v⟩
   obtain ⟨L,hL⟩:=Z89 (s:=wideStep (bound f up)) (l:=calls a b) (fun c' hc=>by
    obtain ⟨n,u,v⟩:=c';obtain ⟨hu,hv,hn⟩:=(Z0p A B).1 hc;cases u with
    | some p=>
     cases v with
     | some q=>
      obtain ⟨x,r,hx,_⟩:=hE n p q hu.symm hv.symm;exact ⟨(n,x),by unfold wideStep; simp[hx]⟩
     | none=>exact ⟨(n,p),rfl⟩
    | none=>
     cases v with
     | some q=>exact ⟨(n,q),rfl⟩
     | none=>
      rcases hn with h | h
      {exact absurd h (A.get_none.1 hu.symm)}
      · exact absurd h (B.get_none.1 hv.symm))
   have hfst:=Z2I (fun c x h=>Z1C h) hL;have hd: (L.map Prod.fst).Nodup:=by rw[hfst]; exact Z1f A B
   refine ⟨made a.kind L,by rw[hL]; rfl,hk,fun h=>absurd hw2 (Z1B h),fun _ n x hx=> ?_,fun h=>absurd (Z0H hw2) h⟩;obtain ⟨⟨m,u,v⟩,hc,hs⟩:=(Z3T hL _).1 ((Z1V hd).1 hx);have e:n=m:=Z1C hs;subst e;obtain ⟨hu,hv,hn⟩:=(Z0p A B).1 hc;rcases Z7L hs with ⟨p,q,hp,hq,hb⟩ | ⟨e1,e2⟩ | ⟨e1,e2⟩
   {obtain ⟨y,r,hy,hr,v⟩:=hE n p q (hu.symm.trans hp) (hv.symm.trans hq);rw[hb] at hy; cases hy;exact ⟨r,hr,v⟩}
   {exact h2 hw2 n x (hu.symm.trans e1)}
   {exact k2 hw2 n x (hv.symm.trans e2)}}
  {rw[if_neg hw2];have hno: ¬(a.kind=6\/a.kind=7):=fun h=>(Z1U h up).elim hw hw2;obtain ⟨e1,e2,e3,e4⟩:=h3 hno;obtain ⟨g1,g2,g3,g4⟩:=k3 hno;rw[if_pos ⟨e1.trans g1.symm,e2.trans g2.symm⟩];have hlen:a.parts.length=b.parts.length:=e3.trans g3.symm;have hE: ∀i p q r,a.parts[i]? =some p->b.parts[i]? =some q->c.parts[i]? =some r-> ∃x,(if i+1=a.parts.length then bound f up p q else bound f (!up) p q)=some x/\V f (if i+1=a.parts.length then up else !up) x r:=fun i p q r hp hq hr=>by
    have v1:=e4 i p r hp hr;have v2:=g4 i q r hq hr;rw[<-hlen] at v2;by_cases e:i+1=a.parts.length
    {rw[if_pos e] at v1 v2 ⊢;rw[if_pos e];exact ih (Z05 ra (List.mem_of_getElem? hp)) (Z05 rb (List.mem_of_getElem? hq)) v1 v2}
    {rw[if_neg e] at v1 v2 ⊢;rw[if_neg e];exact ih (Z05 ra (List.mem_of_getElem? hp)) (Z05 rb (List.mem_of_getElem? hq)) v1 v2}
   obtain ⟨xs,hxs⟩:=Z2b (ga:=bound f (!up)) (gr:=bound f up) hlen (fun i p q hp hq=>by
    have hi:i < a.parts.length:=(List.getElem?_eq_some_iff.1 hp).1;have hic:i < c.parts.length:=by omega
    obtain ⟨x,hx,_⟩:=hE i p q _ hp hq (List.getElem?_eq_getElem hic);exact ⟨x,hx⟩)
   obtain ⟨l1,l2⟩:=Z1N hxs;refine ⟨⟨a.kind,a.of_,a.name,[],xs⟩,by rw[hxs]; rfl,hk,fun h=>absurd h hw,fun h=>absurd h hw2,fun _=>⟨e1,e2,l1.trans e3,fun i x r hx hr=> ?_⟩⟩;simp only at hx ⊢;have hi:i < xs.length:=(List.getElem?_eq_some_iff.1 hx).1;have hia:i < a.parts.length:=by omega
   have hib:i < b.parts.length:=by omega
   have hp:=List.getElem?_eq_getElem hia;have hq:=List.getElem?_eq_getElem hib;obtain ⟨y,hy,v⟩:=hE i _ _ r hp hq hr;obtain ⟨z,hz,e⟩:=Z21 hxs i _ _ hp hq;rw[hx] at hz; cases hz;rw[e] at hy; cases hy;rw[l1]; exact v}
end
end Sub
namespace Go.Proofs.YtlomianlcnmfgaaDoor
section
open Shp
theorem ZaP {f:Sh->Sh} {l:List Sh} (h: ∀p∈l,f p=p):l.map f=l:=by
 conv=>rhs; rw[<-List.map_id l]
 exact List.map_congr_left fun p hp=>h p hp
theorem Z9S (L:List Fld): (L.map Prod.fst).zip (L.map Prod.snd)=L:=by
 induction L with
 | nil=>rfl
 | cons a l ih=>simp[ih]
theorem Zbz (u:Sh):u=⟨u.kind,u.of_,u.name,u.names,u.parts⟩:=by cases u; rfl
theorem Z3z (t:Sh):right t=true->sorted (sorted t)=sorted t:=by
 induction t using Sh.ind with
 | h t ih=>
  intro h;have hp: ∀p∈(sorted t).parts,sorted p=p:=fun p hm=>by
   obtain ⟨x,hx,rfl⟩:=List.mem_map.1 ((Z1w h).ps.mem_iff.1 hm);exact ih x hx (Z05 h hx)
  have hm:=ZaP hp;by_cases h0:t.names= []
  {have hn: (sorted t).names= []:=by rw[Z0j,if_pos h0]
   rw[Z0j (sorted t),if_pos hn,hm];rw[<-hn];exact (Zbz _).symm}
  {have hl:=Z4b h h0;have hs:sorted t=⟨t.kind,t.of_,t.name,(sortF (t.names.zip (t.parts.map sorted))).map Prod.fst,(sortF (t.names.zip (t.parts.map sorted))).map Prod.snd⟩:=by rw[Z0j,if_neg h0]
   have hfst: (t.names.zip (t.parts.map sorted)).map Prod.fst=t.names:=List.map_fst_zip (by rw[List.length_map,hl.1]; exact Nat.le_refl _);have hnd: ((sortF (t.names.zip (t.parts.map sorted))).map Prod.fst).Nodup:=(((Z0V _).map Prod.fst).nodup_iff).2 (by rw[hfst]; exact hl.2);have hne: (sorted t).names≠ []:=fun e=>h0 (by
    have:=(Z1w h).ns.length_eq;rw[e] at this;exact List.eq_nil_of_length_eq_zero this.symm)
   have hu:sortF (sortF (t.names.zip (t.parts.map sorted)))=sortF (t.names.zip (t.parts.map sorted)):=(Z1M (List.Perm.refl _) (Z1L _) hnd).symm;rw[Z0j (sorted t),if_neg hne,hm];generalize hL:sortF (t.names.zip (t.parts.map sorted))=L at hs hu;rw[hs];simp only[Z9S,hu]}
end
end Go.Proofs.YtlomianlcnmfgaaDoor
namespace Sub
section
open Shp Go.Proofs.YtlomianlcnmfgaaDoor
theorem Z8y {o:Option Sh} {j:Sh} (h:whole o=some j): ∃x,o=some x/\check x=0/\j=sorted x:=by
 unfold whole at h;obtain ⟨x,hx,h⟩:=Option.bind_eq_some_iff.1 h;split at h
 {rename_i e; cases h; exact ⟨x,hx,e,rfl⟩}
 {cases h}
theorem Z9T {up:Bool} {a b j:Sh} (h:J up a b=some j):check a=0/\check b=0/\ ∃x,bound 40 up a b=some x/\check x=0/\j=sorted x:=by
 unfold J at h;split at h
 {rename_i e; exact ⟨e.1,e.2,Z8y h⟩}
 {cases h}
structure Bounds (up:Bool) (a b j:Sh):Prop where
 ca:check a=0
 cb:check b=0
 cj:check j=0
 s:sorted j=j
 l:V 40 up a j
 m:V 40 up b j
theorem J_is {up:Bool} {a b j:Sh} (h:J up a b=some j):Bounds up a b j:=by
 obtain ⟨ca,cb,x,hx,cx,rfl⟩:=Z9T h;obtain ⟨_,da,ra⟩:=Z09 ca;obtain ⟨_,db,rb⟩:=Z09 cb;obtain ⟨_,dx,rx⟩:=Z09 cx;have hi:=Z1D ra rb da db hx;exact ⟨ca,cb,Z2B cx,Z3z x rx,hi.l.trans (V.sorted rx dx),hi.m.trans (V.sorted rx dx)⟩
end
end Sub
