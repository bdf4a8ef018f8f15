/- What the proofs of SubtypeJoins, SubtypeMeets want, part 15. -/
import Derived.Test.YtlomianlcnmfgaaGreatDoorK0n14
set_option linter.unusedVariables false
set_option linter.unusedSimpArgs false
set_option linter.unusedSectionVars false
set_option maxRecDepth 100000
set_option maxHeartbeats 16000000
namespace Go.Proofs.YtlomianlcnmfgaaGreatDoor
open Go.RowKit Shp Sub
namespace SubM
def EIs (f:Nat) (up:Bool) (a b:Sh) (n0:Nat) (w:World) (rc gm hi:Nat) (e:Ending) (W':World):Prop:=
 e= .returned (.bool (bound f up a b).isSome)/\Rc rc W'/\Below w.heap.size w W'/\ ∃t q,Sh5 W' gm 0 t q/\ ∀j,bound f up a b=some j->t=j/\Kept (fun b=>b < n0\/hi<=b) W' (j,q)
theorem Zcz {f:Nat} {up:Bool} {a b:Sh} {n0:Nat} {w:World} {rc gm hi:Nat} {W':World} {t:Sh} {q:Ptr} (hn:n0<=w.heap.size) (h1:w.heap.size<=rc) (h2:rc < hi) (hb:Below w.heap.size w W') (hj: ∀j,bound f up a b=some j->t=j/\Kept (fun b=>b < n0\/hi<=b) W' (j,q)):
 BIs f up a b n0 w (.returned (.tuple #[sv t q,.bool (bound f up a b).isSome])) (RX.lay W' rc t q):=by
 have hu:=RX.lay_upd W' rc t q;refine ⟨t,q,rfl,hb.trans (hu.below hb.size (fun x hx=>by omega)),fun j hb2=> ?_⟩;obtain ⟨e,hk⟩:=hj j hb2;exact ⟨e,hk.move hu (fun b _ hf=>⟨fun e=>by have e:b=rc:=e; rcases hf with hf | hf <;> omega,by rcases hf with hf | hf <;> omega⟩)⟩
theorem Zds (s:Cl->Option Fld) (l:List Cl):l.all (fun c=>(s c).isSome)=(allOf s l).isSome:=by
 induction l with
 | nil=>rfl
 | cons c l ih=>
  rw[List.all_cons,ih];show ((s c).isSome&&(allOf s l).isSome)=((s c).bind (fun x=>(allOf s l).map (fun xs=>x::xs))).isSome;cases s c with
  | none=>rfl
  | some x=>cases allOf s l <;> rfl
theorem Zd5 {s:Cl->Option Fld} {l:List Cl} {L:List Fld} {c:Cl} {x:Fld} (h:allOf s l=some L) (hx:s c=some x):allOf s (l++ [c])=some (L++ [x]):=by
 induction l generalizing L with
 | nil=>unfold allOf at h; cases h; simp[allOf,hx]
 | cons c' l ih=>
  unfold allOf at h;obtain ⟨y,hy,h⟩:=Option.bind_eq_some_iff.1 h;obtain ⟨xs,hxs,rfl⟩:=Option.map_eq_some_iff.1 h;rw[List.cons_append];unfold allOf;rw[hy,ih hxs];rfl
section
variable {f : Nat} {up : Bool} {a b : Sh} {pa pb : Ptr} {n0 : Nat} {w W5 : World} {rc gm pf : Nat}
theorem Zdf (hI:BoundOk f) (h2:Two (f+1) a b) (A:Rec a) (B:Rec b) (hk:a.kind=b.kind) (hw:Narrow up a.kind) (ha:ShAt W5 n0 pa a) (hb:ShAt W5 n0 pb b) (hn:n0<=w.heap.size)
 (hS:St0 w gm pf (.func (.func (bfn up)) #[] #[]) a.kind W5) (hR:Rc rc W5) (hpf:w.heap.size<=pf) (hpg:pf≠gm) (hrg:rc≠gm):
 Calls Tryz.prog 51 #[sv a pa,sv b pb,.func (.func 64) #[] [.pointer (some ⟨pf,0,none⟩),.pointer (some ⟨gm,0,none⟩)].toArray] W5 (EIs (f+1) up a b n0 w rc gm (W5.heap.size+3)):=by
 have hlo:=hS.lo;have hgw:=hS.gw;have hpw:=hS.pw;have hrw:=hR.lt;have hz:=hS.up.size;have hcl:=Zaz A B;have ln:=h2.ln A;have lm:=h2.swap.ln B;have hT:Takes n0 W5.heap.size a b 64 [.pointer (some ⟨pf,0,none⟩),.pointer (some ⟨gm,0,none⟩)] (fun _=>true)
  (fun _ done W=>Rc rc W/\(done= []/\St0 w gm pf (.func (.func (bfn up)) #[] #[]) a.kind W\/KN w n0 gm (W5.heap.size+3) pf (.func (.func (bfn up)) #[] #[]) a.kind true (done.filterMap (narrowStep (bound f up))) W)):=by
  refine ⟨fun _ done W W' hK hu=>⟨hK.1.upd hu (by omega), ?_⟩,fun done c rest W x y hcut hsz hK hx hy=> ?_⟩
  {rcases hK.2 with ⟨e,h⟩ | h
   {exact Or.inl ⟨e,h.mid hu (fun b hb=>by omega)⟩}
   {exact Or.inr (h.mid hu (fun b hb=>by omega) (by omega) (by omega))}}
  {obtain ⟨nm,o1,o2⟩:=c;have hm: (nm,o1,o2)∈calls a b:=by rw[hcut]; simp
   obtain ⟨e1,e2,_⟩:=(Z0l A B).1 hm;have hkn:KN w n0 gm (W5.heap.size+3) pf (.func (.func (bfn up)) #[] #[]) a.kind true (done.filterMap (narrowStep (bound f up))) W:=by
    rcases hK.2 with ⟨e,h⟩ | h
    {rw[e]; exact h.kn (by omega) hsz true}
    {exact h}
   have hlen: (done.filterMap (narrowStep (bound f up))).length<=900:=by
    have h1:=List.length_filterMap_le (narrowStep (bound f up)) done;have h2:=congrArg List.length hcut;rw[List.length_append] at h2;omega
   refine (Zde hI up w n0 gm (W5.heap.size+3) pf a.kind _ nm o1 o2 x y W (fun p q hp hq=> ?_) (by omega) (by omega) hpg hlen hx hy hkn).mono ?_
   {rw[e1] at hp; rw[e2] at hq;exact h2.part (Z06 hp) (Z06 hq)}
   {rintro e W' ⟨rfl,hk',hu⟩;refine ⟨rfl,⟨hK.1.upd hu (by omega),Or.inr ?_⟩,hu.mono (fun b _ hb=>by omega)⟩;rw[List.filterMap_append];cases h:narrowStep (bound f up) (nm,o1,o2) with
    | none=>rw[h] at hk'; simpa[h] using hk'
    | some z=>rw[h] at hk'; simpa[h] using hk'}}
 refine (Z1J a b pa pb n0 W5 A B ha hb (by omega) (by omega) (by omega) 64 (enters_of Tryz.func64 (by kernel_rfl) rfl) _ _ _ hT ⟨hR,Or.inl ⟨rfl,hS⟩⟩).mono ?_;rintro e W6 ⟨rfl,⟨D,hK,hD⟩,hU⟩;have hall: ((calls a b).all fun _=>true)=true:=by simp
 obtain rfl:=hD hall;have hbd:bound (f+1) up a b=some (made a.kind ((calls a b).filterMap (narrowStep (bound f up)))):=by conv=>lhs; unfold bound; rw[if_neg (fun h=>h hk),if_pos hw]
 have hz6:=hU.size;refine ⟨by rw[hall,hbd]; rfl,hK.1, ?_, ?_⟩
 {rcases hK.2 with ⟨_,h⟩ | h
  {exact h.up}
  {exact h.below.1}}
 {rcases hK.2 with ⟨e,h⟩ | h
  {have hf:=h.fin (fun b=>b < n0\/W5.heap.size+3<=b);refine ⟨_,_,hf.1,fun j hj=> ?_⟩;rw[hbd,e] at hj;cases hj;exact ⟨rfl,hf.2⟩}
  {obtain ⟨q,h5,hkp⟩:=h.fin;refine ⟨_,q,h5,fun j hj=> ?_⟩;rw[hbd] at hj;cases hj;refine ⟨rfl,hkp rfl (fun x hx=> ?_) ?_⟩
   {exact Z6J (Z2n A B ((Z1o (fun c x h=>Z3t h) _).subset hx))}
   {have:=List.length_filterMap_le (narrowStep (bound f up)) (calls a b); omega}}}
end
end SubM
end Go.Proofs.YtlomianlcnmfgaaGreatDoor
namespace Go.Proofs.YtlomianlcnmfgaaGreatDoor
open Go.RowKit Shp Sub
namespace SubM
section
variable {f : Nat} {up : Bool} {a b : Sh} {pa pb : Ptr} {n0 : Nat} {w W5 : World} {rc gm pf p1 p2 : Nat}
theorem ZcV (hI:BoundOk f) (h2:Two (f+1) a b) (A:Rec a) (B:Rec b) (hk:a.kind=b.kind) (hw:Wide up a.kind) (ha:ShAt W5 n0 pa a) (hb:ShAt W5 n0 pb b) (hn:n0<=w.heap.size)
 (hS:St0 w gm pf (.func (.func (bfn up)) #[] #[]) a.kind W5) (hR:Rc rc W5) (hpf:w.heap.size<=pf) (hpg:pf≠gm) (hrg:rc≠gm):
 Calls Tryz.prog 51 #[sv a pa,sv b pb,.func (.func 66) #[] [.pointer (some ⟨pf,0,none⟩),.pointer (some ⟨gm,0,none⟩)].toArray] W5 (EIs (f+1) up a b n0 w rc gm (W5.heap.size+3)):=by
 have hlo:=hS.lo;have hgw:=hS.gw;have hpw:=hS.pw;have hrw:=hR.lt;have hz:=hS.up.size;have hcl:=Zaz A B;have ln:=h2.ln A;have lm:=h2.swap.ln B;have hT:Takes n0 W5.heap.size a b 66 [.pointer (some ⟨pf,0,none⟩),.pointer (some ⟨gm,0,none⟩)] (fun c=>(wideStep (bound f up) c).isSome)
  (fun ok done W=>Rc rc W/\(done= []/\ok=true/\St0 w gm pf (.func (.func (bfn up)) #[] #[]) a.kind W\/
   (ok=true/\ ∃L,allOf (wideStep (bound f up)) done=some L/\KN w n0 gm (W5.heap.size+3) pf (.func (.func (bfn up)) #[] #[]) a.kind true L W)\/
   (ok=false/\ ∃L,KN w n0 gm (W5.heap.size+3) pf (.func (.func (bfn up)) #[] #[]) a.kind false L W))):=by
  refine ⟨fun _ done W W' hK hu=>⟨hK.1.upd hu (by omega), ?_⟩,fun done c rest W x y hcut hsz hK hx hy=> ?_⟩
  {rcases hK.2 with ⟨e,e2,h⟩ | ⟨e,L,h1,h⟩ | ⟨e,L,h⟩
   {exact Or.inl ⟨e,e2,h.mid hu (fun b hb=>by omega)⟩}
   {exact Or.inr (Or.inl ⟨e,L,h1,h.mid hu (fun b hb=>by omega) (by omega) (by omega)⟩)}
   {exact Or.inr (Or.inr ⟨e,L,h.mid hu (fun b hb=>by omega) (by omega) (by omega)⟩)}}
  {obtain ⟨nm,o1,o2⟩:=c;have hm: (nm,o1,o2)∈calls a b:=by rw[hcut]; simp
   obtain ⟨e1,e2,e3⟩:=(Z0l A B).1 hm;obtain ⟨L,hL,hkn⟩: ∃L,allOf (wideStep (bound f up)) done=some L/\KN w n0 gm (W5.heap.size+3) pf (.func (.func (bfn up)) #[] #[]) a.kind true L W:=by
    rcases hK.2 with ⟨e,_,h⟩ | ⟨_,h⟩ | ⟨e,_⟩
    {exact ⟨[],by rw[e]; rfl,h.kn (by omega) hsz true⟩}
    {exact h}
    {cases e}
   have hlen:L.length<=900:=by
    have h1:=congrArg List.length (Z5k (fun c x h=>Z2B h) hL);rw[List.length_map,List.length_map] at h1;have h2:=congrArg List.length hcut;rw[List.length_append] at h2;omega
   have hne:o1≠none\/o2≠none:=by
    rcases e3 with h | h
    {exact Or.inl (fun e=>A.get_none.1 (e1.symm.trans e) h)}
    {exact Or.inr (fun e=>B.get_none.1 (e2.symm.trans e) h)}
   refine (ZcU hI up w n0 gm (W5.heap.size+3) pf a.kind L nm o1 o2 x y W (fun p q hp hq=> ?_) hne (by omega) (by omega) hpg hlen hx hy hkn).mono ?_
   {rw[e1] at hp; rw[e2] at hq;exact h2.part (Z06 hp) (Z06 hq)}
   {rintro e W' ⟨rfl,hsome,hnone,hu⟩;refine ⟨rfl,⟨hK.1.upd hu (by omega), ?_⟩,hu.mono (fun b _ hb=>by omega)⟩;cases h:wideStep (bound f up) (nm,o1,o2) with
    | none=>
     obtain ⟨t,ht⟩:=hnone h;exact Or.inr (Or.inr ⟨rfl,_,ht⟩)
    | some z=>exact Or.inr (Or.inl ⟨rfl,_,Zd5 hL h,hsome z h⟩)}}
 refine (Z1J a b pa pb n0 W5 A B ha hb (by omega) (by omega) (by omega) 66 (enters_of Tryz.func66 (by kernel_rfl) rfl) _ _ _ hT ⟨hR,Or.inl ⟨rfl,rfl,hS⟩⟩).mono ?_;rintro e W6 ⟨rfl,⟨D,hK,hD⟩,hU⟩;have hall:=Zds (wideStep (bound f up)) (calls a b);have hbd:bound (f+1) up a b=(allOf (wideStep (bound f up)) (calls a b)).map (made a.kind):=by conv=>lhs; unfold bound; rw[if_neg (fun h=>h hk),if_neg (fun h=>Z0R h hw),if_pos hw]
 refine ⟨by rw[hall,hbd,Option.isSome_map],hK.1, ?_, ?_⟩
 {rcases hK.2 with ⟨_,_,h⟩ | ⟨_,L,_,h⟩ | ⟨_,L,h⟩
  {exact h.up}
  {exact h.below.1}
  {exact h.below.1}}
 {rcases hK.2 with ⟨e,e2,h⟩ | ⟨e2,L,hL,h⟩ | ⟨e2,L,h⟩
  {have hf:=h.fin (fun b=>b < n0\/W5.heap.size+3<=b);refine ⟨_,_,hf.1,fun j hj=> ?_⟩;rw[hbd, <-hD e2,e] at hj;cases hj;exact ⟨rfl,hf.2⟩}
  {obtain ⟨q,h5,hkp⟩:=h.fin;refine ⟨_,q,h5,fun j hj=> ?_⟩;rw[hD e2] at hL;rw[hbd,hL] at hj;cases hj;have hfst:=Z5k (fun c x h=>Z2B h) hL;refine ⟨rfl,hkp rfl (fun x hx=> ?_) ?_⟩
   {rw[hfst] at hx; exact Z6J (Z2n A B hx)}
   {have h1:=congrArg List.length hfst; rw[List.length_map,List.length_map] at h1; omega}}
  {obtain ⟨q,h5,_⟩:=h.fin;refine ⟨_,q,h5,fun j hj=> ?_⟩;rw[hall] at e2;rw[hbd] at hj;obtain ⟨L2,h2,_⟩:=Option.map_eq_some_iff.1 hj;rw[h2] at e2;cases e2}}
def plStep (f:Nat) (up:Bool) (a b:Sh) (k:Nat):Option Sh:=
 match a.parts[k]?,b.parts[k]? with
 | some p,some q=>if k+1=a.parts.length then bound f up p q else bound f (!up) p q
 | some _,none=>none
 | none,_=>none
theorem Zdg {f:Nat} {up:Bool} {a b:Sh} {k:Nat} (h1:k < a.parts.length) (h2:k < b.parts.length):plStep f up a b k=bound f (if decide (k+1=a.parts.length)=true then up else !up) (a.parts[k]'h1) (b.parts[k]'h2):=by
 unfold plStep;rw[List.getElem?_eq_getElem h1,List.getElem?_eq_getElem h2];simp only[decide_eq_true_eq];split <;> rfl
theorem Zci {f:Nat} {up:Bool} {a b:Sh} (hl:a.parts.length=b.parts.length) {ps:List Sh} (hp:ps.length=a.parts.length) (h: ∀k,k < a.parts.length->plStep f up a b k=ps[k]?):placesOf (bound f (!up)) (bound f up) a.parts b.parts=some ps:=by
 have key: ∀(i:Nat) (p q:Sh),a.parts[i]? =some p->b.parts[i]? =some q->(if i+1=a.parts.length then bound f up p q else bound f (!up) p q)=ps[i]? :=fun i p q hp hq=>by
  have:=h i (List.getElem?_eq_some_iff.1 hp).1;unfold plStep at this;rw[hp,hq] at this;exact this
 obtain ⟨xs,hxs⟩:=Z5G (ga:=bound f (!up)) (gr:=bound f up) hl (fun i p q hp2 hq=>by
  have hi:=(List.getElem?_eq_some_iff.1 hp2).1;exact ⟨_,(key i p q hp2 hq).trans (List.getElem?_eq_getElem (show i < ps.length by omega))⟩)
 obtain ⟨l1,l2⟩:=Z40 hxs;rw[hxs];congr 1;refine List.ext_getElem? (fun i=> ?_);by_cases hi:i < a.parts.length
 {have hib:i < b.parts.length:=by omega
  obtain ⟨x,hx,e⟩:=Z4i hxs i _ _ (List.getElem?_eq_getElem hi) (List.getElem?_eq_getElem hib);rw[hx, <-key i _ _ (List.getElem?_eq_getElem hi) (List.getElem?_eq_getElem hib),e]}
 {rw[List.getElem?_eq_none (by omega),List.getElem?_eq_none (by omega)]}
theorem ZcW {f:Nat} {up:Bool} {a b:Sh} {xs:List Sh} (h:placesOf (bound f (!up)) (bound f up) a.parts b.parts=some xs):a.parts.length=b.parts.length/\(List.range a.parts.length).all (fun k=>(plStep f up a b k).isSome)=true:=by
 obtain ⟨l1,l2⟩:=Z40 h;refine ⟨l2,List.all_eq_true.2 (fun k hk=> ?_)⟩;have hk:=List.mem_range.1 hk;have hk2:k < b.parts.length:=by omega
 obtain ⟨x,_,e⟩:=Z4i h k _ _ (List.getElem?_eq_getElem hk) (List.getElem?_eq_getElem hk2);unfold plStep;rw[List.getElem?_eq_getElem hk,List.getElem?_eq_getElem hk2];simp only;rw[e]; rfl
theorem ZcX (hI:BoundOk f) (h2:Two (f+1) a b) (hk:a.kind=b.kind) (hno: ¬(a.kind=6\/a.kind=7)) (ha:ShAt W5 n0 pa a) (hb:ShAt W5 n0 pb b) (hn:n0<=w.heap.size)
 (hS:St0p w gm p1 p2 (.func (.func (bfn !up)) #[] #[]) (.func (.func (bfn up)) #[] #[]) a.kind a.of_ a.name W5) (hR:Rc rc W5) (h1:w.heap.size<=p1) (h1':w.heap.size<=p2) (hpg:p1≠gm) (hpg':p2≠gm) (hrg:rc≠gm):
 Calls Tryz.prog 54 #[sv a pa,sv b pb,.func (.func 67) #[] [.pointer (some ⟨p1,0,none⟩),.pointer (some ⟨p2,0,none⟩),.pointer (some ⟨gm,0,none⟩)].toArray] W5 (EIs (f+1) up a b n0 w rc gm (W5.heap.size+2)):=by
 have hlo:=hS.lo;have hgw:=hS.gw;have hpw:=hS.pw;have hqw:=hS.qw;have hrw:=hR.lt;have hz:=hS.up.size;have hla:a.parts.length<=400:=by have:=h2.sa; have:=Z0L a.parts; rw[size_eq] at *; omega
 have hT:TakesP n0 W5.heap.size a b 67 [.pointer (some ⟨p1,0,none⟩),.pointer (some ⟨p2,0,none⟩),.pointer (some ⟨gm,0,none⟩)] (fun k=>(plStep f up a b k).isSome)
  (fun ok k W=>Rc rc W/\(k=0/\ok=true/\St0p w gm p1 p2 (.func (.func (bfn !up)) #[] #[]) (.func (.func (bfn up)) #[] #[]) a.kind a.of_ a.name W\/
   (ok=true/\ ∃ps,ps.length=k/\(∀i,i < k->plStep f up a b i=ps[i]?)/\KP w n0 gm (W5.heap.size+2) p1 p2 (.func (.func (bfn !up)) #[] #[]) (.func (.func (bfn up)) #[] #[]) a.kind a.of_ a.name true ps W)\/
   (ok=false/\ ∃ps,KP w n0 gm (W5.heap.size+2) p1 p2 (.func (.func (bfn !up)) #[] #[]) (.func (.func (bfn up)) #[] #[]) a.kind a.of_ a.name false ps W))):=by
  have hmid: ∀ {ok ps W W'},KP w n0 gm (W5.heap.size+2) p1 p2 (.func (.func (bfn !up)) #[] #[]) (.func (.func (bfn up)) #[] #[]) a.kind a.of_ a.name ok ps W->Upd (fun x=>W5.heap.size<=x/\x < W5.heap.size+2) W W'->KP w n0 gm (W5.heap.size+2) p1 p2 (.func (.func (bfn !up)) #[] #[]) (.func (.func (bfn up)) #[] #[]) a.kind a.of_ a.name ok ps W':=fun h hu=>by
   obtain ⟨l,AP,cP,h⟩:=h;exact ⟨l,AP,cP,h.mid hu (fun b hb=>by omega) (by omega) (by omega) (by omega)⟩
  refine ⟨fun _ k W W' hK hu=>⟨hK.1.upd hu (by omega), ?_⟩,fun k hk hk2 W x y hsz hK hx hy=> ?_⟩
  {rcases hK.2 with ⟨e,e2,h⟩ | ⟨e,ps,h1,h3,h⟩ | ⟨e,ps,h⟩
   {exact Or.inl ⟨e,e2,h.mid hu (fun b hb=>by omega)⟩}
   {exact Or.inr (Or.inl ⟨e,ps,h1,h3,hmid h hu⟩)}
   {exact Or.inr (Or.inr ⟨e,ps,hmid h hu⟩)}}
  {obtain ⟨ps,hl,hps,hkp⟩: ∃ps,ps.length=k/\(∀i,i < k->plStep f up a b i=ps[i]?)/\KP w n0 gm (W5.heap.size+2) p1 p2 (.func (.func (bfn !up)) #[] #[]) (.func (.func (bfn up)) #[] #[]) a.kind a.of_ a.name true ps W:=by
    rcases hK.2 with ⟨e,_,h⟩ | ⟨_,h⟩ | ⟨e,_⟩
    {exact ⟨[],by rw[e]; rfl,fun i hi=>by omega,h.kp (by omega) hsz true⟩}
    {exact h}
    {cases e}
   refine (Zd4 hI up w n0 gm (W5.heap.size+2) p1 p2 a.kind a.of_ a.name ps _ _ x y _ W (h2.part (List.getElem_mem hk) (List.getElem_mem hk2)) (by omega) (by omega) (by omega) hpg hpg' (by omega) hx hy hkp).mono ?_;rintro e W' ⟨rfl,hsome,hnone,hu⟩;have hst:=Zdg (f:=f) (up:=up) hk hk2;refine ⟨by rw[hst],⟨hK.1.upd hu (by omega), ?_⟩,hu.mono (fun b _ hb=>by omega)⟩;cases h:plStep f up a b k with
   | none=>
    obtain ⟨t,ht⟩:=hnone (hst.symm.trans h);exact Or.inr (Or.inr ⟨rfl,_,ht⟩)
   | some z=>
    refine Or.inr (Or.inl ⟨rfl,ps++ [z],by simp[hl],fun i hi=> ?_,hsome z (hst.symm.trans h)⟩);by_cases e:i=k
    {subst e;rw[h,List.getElem?_append_right (by omega),hl,Nat.sub_self]; rfl}
    {rw[hps i (by omega),List.getElem?_append_left (by omega)]}}
 refine (Z27 a b pa pb n0 W5 ha hb (by omega) (by omega) 67 (enters_of Tryz.func67 (by kernel_rfl) rfl) _ _ _ hT ⟨hR,Or.inl ⟨rfl,rfl,hS⟩⟩).mono ?_;rintro e W6 ⟨rfl,⟨D,hK,hD⟩,hU⟩;have hnn: ¬Narrow up a.kind:=fun h=>hno (Z0w h);have hnw: ¬Wide up a.kind:=fun h=>hno (Z0D h);have hbd:bound (f+1) up a b=if a.of_=b.of_/\a.name=b.name then (placesOf (bound f (!up)) (bound f up) a.parts b.parts).map (fun ps=>⟨a.kind,a.of_,a.name,[],ps⟩) else none:=by
  conv=>lhs; unfold bound; rw[if_neg (fun h=>h hk),if_neg hnn,if_neg hnw]
 have hbs:bound (f+1) up a b≠none->headEq a b=true/\(List.range a.parts.length).all (fun k=>(plStep f up a b k).isSome)=true:=fun h=>by
  rw[hbd] at h;split at h
  {rename_i e
   cases hp:placesOf (bound f (!up)) (bound f up) a.parts b.parts with
   | none=>rw[hp] at h; exact absurd rfl h
   | some xs=>
    obtain ⟨h1,h2⟩:=ZcW hp;exact ⟨by unfold headEq; exact decide_eq_true ⟨e.1,e.2,h1⟩,h2⟩}
  {exact absurd rfl h}
 have ho:=ha.small.o;have hnm:=ha.small.n;refine ⟨?_,hK.1, ?_, ?_⟩
 {cases hh: (headEq a b&&(List.range a.parts.length).all (fun k=>(plStep f up a b k).isSome)) with
  | false=>
   cases hb:bound (f+1) up a b with
   | none=>rfl
   | some j=>
    obtain ⟨h1,h2⟩:=hbs (by rw[hb]; nofun);rw[h1,h2] at hh;cases hh
  | true=>
   have hDD:=hD hh;rw[Bool.and_eq_true] at hh;obtain ⟨e1,e2,e3⟩:a.of_=b.of_/\a.name=b.name/\a.parts.length=b.parts.length:=of_decide_eq_true hh.1;rw[hh.2,Bool.or_true] at hK;have: ∃ps,placesOf (bound f (!up)) (bound f up) a.parts b.parts=some ps:=by
    refine Z5G e3 (fun i p q hp hq=> ?_);have:=List.all_eq_true.1 hh.2 i (List.mem_range.2 (List.getElem?_eq_some_iff.1 hp).1);unfold plStep at this;rw[hp,hq] at this;exact Option.isSome_iff_exists.1 this
   obtain ⟨ps,hp⟩:=this;rw[hbd,if_pos ⟨e1,e2⟩,hp]; rfl}
 {rcases hK.2 with ⟨_,_,h⟩ | ⟨_,ps,_,_,h⟩ | ⟨_,ps,h⟩
  {exact h.up}
  {exact h.below}
  {exact h.below}}
 {rcases hK.2 with ⟨e,e2,h⟩ | ⟨e2,ps,hl,hps,h⟩ | ⟨e2,ps,h⟩
  {refine ⟨_,_,h.c5,fun j hj=> ?_⟩;obtain ⟨h1,h2⟩:=hbs (by rw[hj]; nofun);have hDD:=hD (by rw[h1,h2]; rfl);obtain ⟨g1,g2,g3⟩:a.of_=b.of_/\a.name=b.name/\a.parts.length=b.parts.length:=of_decide_eq_true h1;have hpl:=Zci (f:=f) (up:=up) g3 (ps:= []) (by simp; omega) (fun k hk=>by omega);rw[hbd,if_pos ⟨g1,g2⟩,hpl] at hj;cases hj;refine ⟨rfl,fun W' _ _=> .mk _ _ 0 0 (fun _=>noneQ12) ⟨ho,hnm,by simp,by simp,by simp,by simp,by simp,fun _=>rfl,fun _=>rfl⟩ (Or.inl rfl) (Or.inl rfl) (fun i hi=>by simp at hi) (fun i hi=>by simp at hi)⟩}
  {obtain ⟨q,h5,hkp⟩:=h.fin;refine ⟨_,q,h5,fun j hj=> ?_⟩;obtain ⟨h1,h2⟩:=hbs (by rw[hj]; nofun);have hDD:=hD (by rw[h1,h2]; rfl);subst hDD;obtain ⟨g1,g2,g3⟩:a.of_=b.of_/\a.name=b.name/\a.parts.length=b.parts.length:=of_decide_eq_true h1;have hpl:=Zci (f:=f) (up:=up) g3 hl hps;rw[hbd,if_pos ⟨g1,g2⟩,hpl] at hj;cases hj;exact ⟨rfl,hkp rfl ho hnm (by omega)⟩}
  {obtain ⟨q,h5,_⟩:=h.fin;refine ⟨_,q,h5,fun j hj=> ?_⟩;obtain ⟨h1,h2⟩:=hbs (by rw[hj]; nofun);rw[h1,h2] at e2;cases e2}}
end
end SubM
end Go.Proofs.YtlomianlcnmfgaaGreatDoor
namespace Go.Proofs.YtlomianlcnmfgaaGreatDoor
open Go.RowKit Shp Sub
namespace SubM
theorem ZbU {w W:World} (h:Below w.heap.size w W) {n0:Nat} {q:Ptr} {t:Sh} (hs:ShAt w n0 q t) (hn:n0<=w.heap.size):ShAt W n0 q t:=Z0a hs hn (Upd.new (S:=fun _=>False) h) (fun _ _ h=>h)
section
variable {f : Nat} (hI : BoundOk f) (up : Bool) (a b : Sh) (pa pb : Ptr) (n0 : Nat) (w : World) (h2 : Two (f + 1) a b)
include f hI up a b pa pb n0 w h2
theorem Zcj (A:Rec a) (B:Rec b) (hk:a.kind=b.kind) (hw:Narrow up a.kind) (ha:ShAt w n0 pa a) (hb:ShAt w n0 pb b) (hn:n0<=w.heap.size):
 Calls Tryz.prog 37 #[sv a pa,sv b pb,.func (.func (bfn up)) #[] #[]] w (BIs (f+1) up a b n0 w):=by
 have hb1:=Z01 w (.cells (Y8 a pa) 25);obtain ⟨w1,hw1⟩: ∃w1,w1=w.alloc (.cells (Y8 a pa) 25):=⟨_,rfl⟩;have hs1:w1.heap.size=w.heap.size+1:=by rw[hw1]; simp
 have hb2:=Z01 w1 (.cells (Y8 b pb) 25);obtain ⟨w2,hw2⟩: ∃w2,w2=w1.alloc (.cells (Y8 b pb) 25):=⟨_,rfl⟩;have hs2:w2.heap.size=w1.heap.size+1:=by rw[hw2]; simp
 have hb3:=Z01 w2 (.cells #[.func (.func (bfn up)) #[] #[]] 37);obtain ⟨w3,hw3⟩: ∃w3,w3=w2.alloc (.cells #[.func (.func (bfn up)) #[] #[]] 37):=⟨_,rfl⟩;have hs3:w3.heap.size=w2.heap.size+1:=by rw[hw3]; simp
 have hb4:=Z01 w3 (.cells Yb 25);obtain ⟨w4,hw4⟩: ∃w4,w4=w3.alloc (.cells Yb 25):=⟨_,rfl⟩;have hs4:w4.heap.size=w3.heap.size+1:=by rw[hw4]; simp
 have hb5:=Z01 w4 (.cells #[.int .i64 a.kind,.string ⟨#[]⟩,.string ⟨#[]⟩,.slice none 0 0,.slice none 0 0] 25);obtain ⟨w5,hw5⟩: ∃w5,w5=w4.alloc (.cells #[.int .i64 a.kind,.string ⟨#[]⟩,.string ⟨#[]⟩,.slice none 0 0,.slice none 0 0] 25):=⟨_,rfl⟩;have hs5:w5.heap.size=w4.heap.size+1:=by rw[hw5]; simp
 rw[<-hw1] at hb1;rw[<-hw2] at hb2;rw[<-hw3] at hb3;rw[<-hw4] at hb4;rw[<-hw5] at hb5;have hbw:=(Z00 hb1 (Z00 hb2 (Z00 hb3 (Z00 hb4 hb5))));have hz0:w5.heap.size=w.heap.size+1+1+1+1+1:=by omega
 have hrc:Rc (w.heap.size+1+1+1) w5:=by
  have h:=Z0I hw4;rw[show w3.heap.size=w.heap.size+1+1+1 from by omega] at h;exact h.upd (T:=fun _=>False) (Upd.new hb5) (fun h=>h)
 have hst:St0 w (w.heap.size+1+1+1+1) (w.heap.size+1+1) (.func (.func (bfn up)) #[] #[]) a.kind w5:=by
  refine ⟨hbw,by omega,by omega, ?_,fun j=> ?_,by omega, ?_⟩
  {rw[show w.heap.size+1+1+1+1=w4.heap.size from by omega,hw5]; refine ⟨?_, ?_, ?_, ?_, ?_⟩ <;> simp[go_sem]}
  {rw[show w.heap.size+1+1+1+1=w4.heap.size from by omega,hw5]; simp[go_sem]}
  {rw[((Z00 hb4 hb5).cell (p:=⟨w.heap.size+1+1,0,none⟩) (by show w.heap.size+1+1 < w3.heap.size; omega)),show w.heap.size+1+1=w2.heap.size from by omega,hw3]; simp[go_sem]}
 have HE:=Y1 (Zdf hI h2 A B hk hw (ZbU hbw ha hn) (ZbU hbw hb hn) hn hst hrc (by omega) (by omega) (by omega));have HN:=Y1 hn;have HZ:=Y1 hz0;have HW:Hid ((((((w.alloc (.cells (Y8 a pa) 25)).alloc (.cells (Y8 b pb) 25)).alloc (.cells #[.func (.func (bfn up)) #[] #[]] 37)).alloc (.cells Yb 25)).alloc (.cells #[.int .i64 a.kind,.string ⟨#[]⟩,.string ⟨#[]⟩,.slice none 0 0,.slice none 0 0] 25))=w5):=Y1 (by rw[hw5,hw4,hw3,hw2,hw1]);clear hst hrc ha hb hn hk hw h2 hI hbw hz0 hb1 hs1 hb2 hs2 hb3 hs3 hb4 hs4 hb5 hs5 A B;clear hw5 hw4 hw3 hw2 hw1;unfold sv at HE ⊢;go_enter Tryz.func37,Tryz.ntmps37
 go_wp2_with fail
 rw[HW.out];clear HW;refine HE.out.mono ?_;rintro e W6 ⟨rfl,hR,hB,t,q,⟨x0,x1,x2,x3,x4⟩,hj⟩;obtain ⟨v0,y0⟩:=hR.ex 0 (by omega);obtain ⟨v1,y1⟩:=hR.ex 1 (by omega);obtain ⟨v2,y2⟩:=hR.ex 2 (by omega);obtain ⟨v3,y3⟩:=hR.ex 3 (by omega);obtain ⟨v4,y4⟩:=hR.ex 4 (by omega);have z0:=hR.fz 0;have z1:=hR.fz 1;have z2:=hR.fz 2;have z3:=hR.fz 3;have z4:=hR.fz 4;simp only[Nat.zero_add] at x0 x1 x2 x3 x4;have hfin:=Zcz (gm:=0) (rc:=w.heap.size+1+1+1) (hi:=w5.heap.size+3) HN.out (by omega) (by have:=HZ.out; omega) hB hj;have HF:=Y1 hfin;have hlayat:=RX.lay_at t q (W:=W6) (g:=w.heap.size+1+1+1) hR.ex;obtain ⟨u0,u1,u2,u3,u4⟩:=hlayat;simp only[Nat.zero_add] at u0 u1 u2 u3 u4;have HU:=Y1 (And.intro u0 (And.intro u1 (And.intro u2 (And.intro u3 u4))));clear hfin hB hj HE hR u0 u1 u2 u3 u4;go_wp2;obtain ⟨u0,u1,u2,u3,u4⟩:=HU.out;unfold RX.lay at u0 u1 u2 u3 u4;refine bodyPost_ret (v:= .tuple #[sv t q,.bool (bound (f+1) up a b).isSome]) (by simp[results,Tryz.results37,go_sem,u0,u1,u2,u3,u4]) rfl ?_;exact HF.out
theorem Zcb (A:Rec a) (B:Rec b) (hk:a.kind=b.kind) (hw:Wide up a.kind) (ha:ShAt w n0 pa a) (hb:ShAt w n0 pb b) (hn:n0<=w.heap.size):
 Calls Tryz.prog 38 #[sv a pa,sv b pb,.func (.func (bfn up)) #[] #[]] w (BIs (f+1) up a b n0 w):=by
 have hb1:=Z01 w (.cells (Y8 a pa) 25);obtain ⟨w1,hw1⟩: ∃w1,w1=w.alloc (.cells (Y8 a pa) 25):=⟨_,rfl⟩;have hs1:w1.heap.size=w.heap.size+1:=by rw[hw1]; simp
 have hb2:=Z01 w1 (.cells (Y8 b pb) 25);obtain ⟨w2,hw2⟩: ∃w2,w2=w1.alloc (.cells (Y8 b pb) 25):=⟨_,rfl⟩;have hs2:w2.heap.size=w1.heap.size+1:=by rw[hw2]; simp
 have hb3:=Z01 w2 (.cells #[.func (.func (bfn up)) #[] #[]] 37);obtain ⟨w3,hw3⟩: ∃w3,w3=w2.alloc (.cells #[.func (.func (bfn up)) #[] #[]] 37):=⟨_,rfl⟩;have hs3:w3.heap.size=w2.heap.size+1:=by rw[hw3]; simp
 have hb4:=Z01 w3 (.cells Yb 25);obtain ⟨w4,hw4⟩: ∃w4,w4=w3.alloc (.cells Yb 25):=⟨_,rfl⟩;have hs4:w4.heap.size=w3.heap.size+1:=by rw[hw4]; simp
 have hb5:=Z01 w4 (.cells #[.int .i64 a.kind,.string ⟨#[]⟩,.string ⟨#[]⟩,.slice none 0 0,.slice none 0 0] 25);obtain ⟨w5,hw5⟩: ∃w5,w5=w4.alloc (.cells #[.int .i64 a.kind,.string ⟨#[]⟩,.string ⟨#[]⟩,.slice none 0 0,.slice none 0 0] 25):=⟨_,rfl⟩;have hs5:w5.heap.size=w4.heap.size+1:=by rw[hw5]; simp
 rw[<-hw1] at hb1;rw[<-hw2] at hb2;rw[<-hw3] at hb3;rw[<-hw4] at hb4;rw[<-hw5] at hb5;have hbw:=(Z00 hb1 (Z00 hb2 (Z00 hb3 (Z00 hb4 hb5))));have hz0:w5.heap.size=w.heap.size+1+1+1+1+1:=by omega
 have hrc:Rc (w.heap.size+1+1+1) w5:=by
  have h:=Z0I hw4;rw[show w3.heap.size=w.heap.size+1+1+1 from by omega] at h;exact h.upd (T:=fun _=>False) (Upd.new hb5) (fun h=>h)
 have hst:St0 w (w.heap.size+1+1+1+1) (w.heap.size+1+1) (.func (.func (bfn up)) #[] #[]) a.kind w5:=by
  refine ⟨hbw,by omega,by omega, ?_,fun j=> ?_,by omega, ?_⟩
  {rw[show w.heap.size+1+1+1+1=w4.heap.size from by omega,hw5]; refine ⟨?_, ?_, ?_, ?_, ?_⟩ <;> simp[go_sem]}
  {rw[show w.heap.size+1+1+1+1=w4.heap.size from by omega,hw5]; simp[go_sem]}
  {rw[((Z00 hb4 hb5).cell (p:=⟨w.heap.size+1+1,0,none⟩) (by show w.heap.size+1+1 < w3.heap.size; omega)),show w.heap.size+1+1=w2.heap.size from by omega,hw3]; simp[go_sem]}
 have HE:=Y1 (ZcV hI h2 A B hk hw (ZbU hbw ha hn) (ZbU hbw hb hn) hn hst hrc (by omega) (by omega) (by omega));have HN:=Y1 hn;have HZ:=Y1 hz0;have HW:Hid ((((((w.alloc (.cells (Y8 a pa) 25)).alloc (.cells (Y8 b pb) 25)).alloc (.cells #[.func (.func (bfn up)) #[] #[]] 37)).alloc (.cells Yb 25)).alloc (.cells #[.int .i64 a.kind,.string ⟨#[]⟩,.string ⟨#[]⟩,.slice none 0 0,.slice none 0 0] 25))=w5):=Y1 (by rw[hw5,hw4,hw3,hw2,hw1]);clear hst hrc ha hb hn hk hw h2 hI hbw hz0 hb1 hs1 hb2 hs2 hb3 hs3 hb4 hs4 hb5 hs5 A B;clear hw5 hw4 hw3 hw2 hw1;unfold sv at HE ⊢;go_enter Tryz.func38,Tryz.ntmps38
 go_wp2_with fail
 rw[HW.out];clear HW;refine HE.out.mono ?_;rintro e W6 ⟨rfl,hR,hB,t,q,⟨x0,x1,x2,x3,x4⟩,hj⟩;obtain ⟨v0,y0⟩:=hR.ex 0 (by omega);obtain ⟨v1,y1⟩:=hR.ex 1 (by omega);obtain ⟨v2,y2⟩:=hR.ex 2 (by omega);obtain ⟨v3,y3⟩:=hR.ex 3 (by omega);obtain ⟨v4,y4⟩:=hR.ex 4 (by omega);have z0:=hR.fz 0;have z1:=hR.fz 1;have z2:=hR.fz 2;have z3:=hR.fz 3;have z4:=hR.fz 4;simp only[Nat.zero_add] at x0 x1 x2 x3 x4;have hfin:=Zcz (gm:=0) (rc:=w.heap.size+1+1+1) (hi:=w5.heap.size+3) HN.out (by omega) (by have:=HZ.out; omega) hB hj;have HF:=Y1 hfin;have hlayat:=RX.lay_at t q (W:=W6) (g:=w.heap.size+1+1+1) hR.ex;obtain ⟨u0,u1,u2,u3,u4⟩:=hlayat;simp only[Nat.zero_add] at u0 u1 u2 u3 u4;have HU:=Y1 (And.intro u0 (And.intro u1 (And.intro u2 (And.intro u3 u4))));clear hfin hB hj HE hR u0 u1 u2 u3 u4;go_wp2;obtain ⟨u0,u1,u2,u3,u4⟩:=HU.out;unfold RX.lay at u0 u1 u2 u3 u4;refine bodyPost_ret (v:= .tuple #[sv t q,.bool (bound (f+1) up a b).isSome]) (by simp[results,Tryz.results38,go_sem,u0,u1,u2,u3,u4]) rfl ?_;exact HF.out
theorem Zcc (hk:a.kind=b.kind) (hw: ¬(a.kind=6\/a.kind=7)) (ha:ShAt w n0 pa a) (hb:ShAt w n0 pb b) (hn:n0<=w.heap.size):
 Calls Tryz.prog 39 #[sv a pa,sv b pb,.func (.func (bfn !up)) #[] #[],.func (.func (bfn up)) #[] #[]] w (BIs (f+1) up a b n0 w):=by
 have hb1:=Z01 w (.cells (Y8 a pa) 25);obtain ⟨w1,hw1⟩: ∃w1,w1=w.alloc (.cells (Y8 a pa) 25):=⟨_,rfl⟩;have hs1:w1.heap.size=w.heap.size+1:=by rw[hw1]; simp
 have hb2:=Z01 w1 (.cells (Y8 b pb) 25);obtain ⟨w2,hw2⟩: ∃w2,w2=w1.alloc (.cells (Y8 b pb) 25):=⟨_,rfl⟩;have hs2:w2.heap.size=w1.heap.size+1:=by rw[hw2]; simp
 have hb3:=Z01 w2 (.cells #[.func (.func (bfn !up)) #[] #[]] 37);obtain ⟨w3,hw3⟩: ∃w3,w3=w2.alloc (.cells #[.func (.func (bfn !up)) #[] #[]] 37):=⟨_,rfl⟩;have hs3:w3.heap.size=w2.heap.size+1:=by rw[hw3]; simp
 have hb4:=Z01 w3 (.cells #[.func (.func (bfn up)) #[] #[]] 37);obtain ⟨w4,hw4⟩: ∃w4,w4=w3.alloc (.cells #[.func (.func (bfn up)) #[] #[]] 37):=⟨_,rfl⟩;have hs4:w4.heap.size=w3.heap.size+1:=by rw[hw4]; simp
 have hb5:=Z01 w4 (.cells Yb 25);obtain ⟨w5,hw5⟩: ∃w5,w5=w4.alloc (.cells Yb 25):=⟨_,rfl⟩;have hs5:w5.heap.size=w4.heap.size+1:=by rw[hw5]; simp
 have hb6:=Z01 w5 (.cells #[.int .i64 a.kind,.string ⟨a.of_.toArray⟩,.string ⟨a.name.toArray⟩,.slice none 0 0,.slice none 0 0] 25);obtain ⟨w6,hw6⟩: ∃w6,w6=w5.alloc (.cells #[.int .i64 a.kind,.string ⟨a.of_.toArray⟩,.string ⟨a.name.toArray⟩,.slice none 0 0,.slice none 0 0] 25):=⟨_,rfl⟩;have hs6:w6.heap.size=w5.heap.size+1:=by rw[hw6]; simp
 rw[<-hw1] at hb1;rw[<-hw2] at hb2;rw[<-hw3] at hb3;rw[<-hw4] at hb4;rw[<-hw5] at hb5;rw[<-hw6] at hb6;have hbw:=(Z00 hb1 (Z00 hb2 (Z00 hb3 (Z00 hb4 (Z00 hb5 hb6)))));have hz0:w6.heap.size=w.heap.size+1+1+1+1+1+1:=by omega
 have hrc:Rc (w.heap.size+1+1+1+1) w6:=by
  have h:=Z0I hw5;rw[show w4.heap.size=w.heap.size+1+1+1+1 from by omega] at h;exact h.upd (T:=fun _=>False) (Upd.new hb6) (fun h=>h)
 have hst:St0p w (w.heap.size+1+1+1+1+1) (w.heap.size+1+1) (w.heap.size+1+1+1) (.func (.func (bfn !up)) #[] #[]) (.func (.func (bfn up)) #[] #[]) a.kind a.of_ a.name w6:=by
  refine ⟨hbw,by omega,by omega, ?_,fun j=> ?_,by omega,by omega, ?_, ?_⟩
  {rw[show w.heap.size+1+1+1+1+1=w5.heap.size from by omega,hw6]; refine ⟨?_, ?_, ?_, ?_, ?_⟩ <;> simp[go_sem]}
  {rw[show w.heap.size+1+1+1+1+1=w5.heap.size from by omega,hw6]; simp[go_sem]}
  {rw[((Z00 hb4 (Z00 hb5 hb6)).cell (p:=⟨w.heap.size+1+1,0,none⟩) (by show w.heap.size+1+1 < w3.heap.size; omega)),show w.heap.size+1+1=w2.heap.size from by omega,hw3]; simp[go_sem]}
  {rw[((Z00 hb5 hb6).cell (p:=⟨w.heap.size+1+1+1,0,none⟩) (by show w.heap.size+1+1+1 < w4.heap.size; omega)),show w.heap.size+1+1+1=w3.heap.size from by omega,hw4]; simp[go_sem]}
 have HE:=Y1 (ZcX hI h2 hk hw (ZbU hbw ha hn) (ZbU hbw hb hn) hn hst hrc (by omega) (by omega) (by omega) (by omega) (by omega));have HN:=Y1 hn;have HZ:=Y1 hz0;have HW:Hid (((((((w.alloc (.cells (Y8 a pa) 25)).alloc (.cells (Y8 b pb) 25)).alloc (.cells #[.func (.func (bfn !up)) #[] #[]] 37)).alloc (.cells #[.func (.func (bfn up)) #[] #[]] 37)).alloc (.cells Yb 25)).alloc (.cells #[.int .i64 a.kind,.string ⟨a.of_.toArray⟩,.string ⟨a.name.toArray⟩,.slice none 0 0,.slice none 0 0] 25))=w6):=Y1 (by rw[hw6,hw5,hw4,hw3,hw2,hw1]);clear hst hrc ha hb hn hk hw h2 hI hbw hz0 hb1 hs1 hb2 hs2 hb3 hs3 hb4 hs4 hb5 hs5 hb6 hs6;clear hw6 hw5 hw4 hw3 hw2 hw1;unfold sv at HE ⊢;go_enter Tryz.func39,Tryz.ntmps39
 go_wp2_with fail
 rw[HW.out];clear HW;refine HE.out.mono ?_;rintro e W6 ⟨rfl,hR,hB,t,q,⟨x0,x1,x2,x3,x4⟩,hj⟩;obtain ⟨v0,y0⟩:=hR.ex 0 (by omega);obtain ⟨v1,y1⟩:=hR.ex 1 (by omega);obtain ⟨v2,y2⟩:=hR.ex 2 (by omega);obtain ⟨v3,y3⟩:=hR.ex 3 (by omega);obtain ⟨v4,y4⟩:=hR.ex 4 (by omega);have z0:=hR.fz 0;have z1:=hR.fz 1;have z2:=hR.fz 2;have z3:=hR.fz 3;have z4:=hR.fz 4;simp only[Nat.zero_add] at x0 x1 x2 x3 x4;have hfin:=Zcz (gm:=0) (rc:=w.heap.size+1+1+1+1) (hi:=w6.heap.size+2) HN.out (by omega) (by have:=HZ.out; omega) hB hj;have HF:=Y1 hfin;have hlayat:=RX.lay_at t q (W:=W6) (g:=w.heap.size+1+1+1+1) hR.ex;obtain ⟨u0,u1,u2,u3,u4⟩:=hlayat;simp only[Nat.zero_add] at u0 u1 u2 u3 u4;have HU:=Y1 (And.intro u0 (And.intro u1 (And.intro u2 (And.intro u3 u4))));clear hfin hB hj HE hR u0 u1 u2 u3 u4;go_wp2;obtain ⟨u0,u1,u2,u3,u4⟩:=HU.out;unfold RX.lay at u0 u1 u2 u3 u4;refine bodyPost_ret (v:= .tuple #[sv t q,.bool (bound (f+1) up a b).isSome]) (by simp[results,Tryz.results39,go_sem,u0,u1,u2,u3,u4]) rfl ?_;exact HF.out
end
end SubM
end Go.Proofs.YtlomianlcnmfgaaGreatDoor
namespace Go.Proofs.YtlomianlcnmfgaaGreatDoor
open Go.RowKit Shp Sub
namespace SubM
section
variable {f : Nat} {up : Bool} {a b : Sh} {n0 : Nat}
include f up a b n0
theorem ZbY {w w3 W:World} {t:Sh} {q:Ptr} {rc:Nat} (hn:n0<=w.heap.size) (hb3:Below w.heap.size w w3) (h1:w.heap.size<=rc) (h2:rc < w3.heap.size) (hb:Below w3.heap.size w3 W)
 (hj: ∀j,bound f up a b=some j->t=j/\Kept (fun b=>b < n0\/w3.heap.size<=b) W (j,q)):BIs f up a b n0 w (.returned (.tuple #[sv t q,.bool (bound f up a b).isSome])) (RX.lay W rc t q):=by
 have hu:=RX.lay_upd W rc t q;refine ⟨t,q,rfl,(Z00 hb3 hb).trans (hu.below (by have:=hb3.size; have:=hb.size; omega) (fun x hx=>by omega)),fun j hb2=> ?_⟩;obtain ⟨e,hk⟩:=hj j hb2;have:=hb3.size;exact ⟨e,hk.move hu (fun b _ hf=>⟨fun e=>by have e:b=rc:=e; rcases hf with hf | hf <;> omega,by rcases hf with hf | hf <;> omega⟩)⟩
theorem ZcL {w W:World} (hb:Below w.heap.size w W) (h:bound f up a b=none):BIs f up a b n0 w (.returned (.tuple #[.agg #[.int .i64 0,.string ⟨#[]⟩,.string ⟨#[]⟩,.slice none 0 0,.slice none 0 0],.bool false])) W:=
 ⟨⟨0,[],[],[],[]⟩,noneQ12,by rw[h]; rfl,hb,fun j hj=>by rw[h] at hj; cases hj⟩
end
section
variable {f : Nat} (hI : BoundOk f) (a b : Sh) (pa pb : Ptr) (n0 : Nat) (w : World) (h2 : Two (f + 1) a b) (ha : ShAt w n0 pa a) (hb : ShAt w n0 pb b) (hn : n0 <= w.heap.size)
include f hI a b pa pb n0 w h2 ha hb hn
theorem Zdh:
 Calls Tryz.prog 18 #[sv a pa,sv b pb] w (BIs (f+1) true a b n0 w):=by
 have hb1:=Z01 w (.cells (Y8 a pa) 25);obtain ⟨w1,hw1⟩: ∃w1,w1=w.alloc (.cells (Y8 a pa) 25):=⟨_,rfl⟩;have hs1:w1.heap.size=w.heap.size+1:=by rw[hw1]; simp
 have hb2:=Z01 w1 (.cells (Y8 b pb) 25);obtain ⟨w2,hw2⟩: ∃w2,w2=w1.alloc (.cells (Y8 b pb) 25):=⟨_,rfl⟩;have hs2:w2.heap.size=w1.heap.size+1:=by rw[hw2]; simp
 have hb3:=Z01 w2 (.cells Yb 25);obtain ⟨w3,hw3⟩: ∃w3,w3=w2.alloc (.cells Yb 25):=⟨_,rfl⟩;have hs3:w3.heap.size=w2.heap.size+1:=by rw[hw3]; simp
 rw[<-hw1] at hb1;rw[<-hw2] at hb2;rw[<-hw3] at hb3;have hbw:=Z00 hb1 (Z00 hb2 hb3);have hrc:Rc (w.heap.size+1+1) w3:=by
  have h:=Z0I hw3
  rwa [show w2.heap.size=w.heap.size+1+1 from by omega] at h
 have hB1:Box5 w1 w.heap.size a pa:=by rw[hw1]; exact Z05 w a pa
 have hB2:Box5 w2 w1.heap.size b pb:=by rw[hw2]; exact Z05 w1 b pb
 have hBA:=(hB1.next hb2).next hb3;have hBB:=hB2.next hb3;rw[hs1] at hBB;have HA:=Y1 (ZbU hbw ha hn);have HB:=Y1 (ZbU hbw hb hn);have HN:=Y1 hn;have HN3:Hid (n0<=w3.heap.size):=Y1 (by omega);have HW:=Y1 hbw;have HZ:Hid (w3.heap.size=w.heap.size+1+1+1):=Y1 (by omega);have HR:=Y1 hrc;have H2:=Y1 h2;have HI:=Y1 hI;obtain ⟨_,⟨a0,a1,a2,a3,a4⟩,_⟩:=hBA;obtain ⟨_,⟨b0,b1,b2,b3,b4⟩,_⟩:=hBB;simp only[Nat.zero_add] at a0 a1 a2 a3 a4 b0 b1 b2 b3 b4;obtain ⟨v0,y0⟩:=hrc.ex 0 (by omega);obtain ⟨v1,y1⟩:=hrc.ex 1 (by omega);obtain ⟨v2,y2⟩:=hrc.ex 2 (by omega);obtain ⟨v3,y3⟩:=hrc.ex 3 (by omega);obtain ⟨v4,y4⟩:=hrc.ex 4 (by omega);have z0:=hrc.fz 0;have z1:=hrc.fz 1;have z2:=hrc.fz 2;have z3:=hrc.fz 3;have z4:=hrc.fz 4;have hw1':=hw1.symm;have hw2':=hw2.symm;have hw3':=hw3.symm;have lw:w.heap.size+1+1 < w3.heap.size:=by omega
 clear hw1 hw2 hw3 hb1 hb2 hb3 hB1 hB2 hbw ha hb hn h2 hI hrc;unfold sv;by_cases hk:a.kind=b.kind
 {have HK:=Y1 hk;have m0: (a.kind !=b.kind)=false:=by rw[hk]; simp
  have m1: (a.kind==b.kind)=true:=by rw[hk]; simp
  by_cases h6:a.kind=6
  {have m6: (a.kind==6)=true:=by rw[h6]; rfl
   have HE:=Y1 (Zcj HI.out true a b pa pb n0 w3 H2.out (Z0p (Z0b H2.out.ra) (Or.inl h6)) (Z0p (Z0b H2.out.rb) (Or.inl (hk▸h6))) hk (Or.inl ⟨rfl,h6⟩) HA.out HB.out HN3.out);unfold sv bfn at HE;simp only[Bool.not_true,Bool.not_false,Bool.false_eq_true,if_true,if_false] at HE;clear hk h6;go_enter Tryz.func18,Tryz.ntmps18
   go_wp2_with fail
   refine HE.out.mono ?_;rintro e W6 ⟨t,q,rfl,hB,hj⟩;have hR:=HR.out.upd (T:=fun _=>False) (Upd.new hB) (fun h=>h);have HF:=Y1 (ZbY (rc:=w.heap.size+1+1) HN.out HW.out (by omega) lw hB hj);have HLY:=Y1 (RX.lay_at t q (W:=W6) (g:=w.heap.size+1+1) hR.ex);clear y0 y1 y2 y3 y4 z0 z1 z2 z3 z4 v0 v1 v2 v3 v4;obtain ⟨v0,y0⟩:=hR.ex 0 (by omega);obtain ⟨v1,y1⟩:=hR.ex 1 (by omega);obtain ⟨v2,y2⟩:=hR.ex 2 (by omega);obtain ⟨v3,y3⟩:=hR.ex 3 (by omega);obtain ⟨v4,y4⟩:=hR.ex 4 (by omega);have z0:=hR.fz 0;have z1:=hR.fz 1;have z2:=hR.fz 2;have z3:=hR.fz 3;have z4:=hR.fz 4;clear hB hj HE hR a0 a1 a2 a3 a4 b0 b1 b2 b3 b4;unfold sv;go_wp2;obtain ⟨u0,u1,u2,u3,u4⟩:=HLY.out;unfold RX.lay at u0 u1 u2 u3 u4;simp only[Nat.zero_add] at u0 u1 u2 u3 u4;refine bodyPost_ret (v:= .tuple #[sv t q,.bool (bound (f+1) true a b).isSome]) (by simp[results,Tryz.results18,go_sem,u0,u1,u2,u3,u4]) rfl ?_;exact HF.out}
  {have m6: (a.kind==6)=false:=by simpa using h6
   by_cases h7:a.kind=7
   {have m7: (a.kind==7)=true:=by rw[h7]; rfl
    have HE:=Y1 (Zcb HI.out true a b pa pb n0 w3 H2.out (Z0p (Z0b H2.out.ra) (Or.inr h7)) (Z0p (Z0b H2.out.rb) (Or.inr (hk▸h7))) hk (Or.inl ⟨rfl,h7⟩) HA.out HB.out HN3.out);unfold sv bfn at HE;simp only[Bool.not_true,Bool.not_false,Bool.false_eq_true,if_true,if_false] at HE;clear hk h6 h7;go_enter Tryz.func18,Tryz.ntmps18
    go_wp2_with fail
    refine HE.out.mono ?_;rintro e W6 ⟨t,q,rfl,hB,hj⟩;have hR:=HR.out.upd (T:=fun _=>False) (Upd.new hB) (fun h=>h);have HF:=Y1 (ZbY (rc:=w.heap.size+1+1) HN.out HW.out (by omega) lw hB hj);have HLY:=Y1 (RX.lay_at t q (W:=W6) (g:=w.heap.size+1+1) hR.ex);clear y0 y1 y2 y3 y4 z0 z1 z2 z3 z4 v0 v1 v2 v3 v4;obtain ⟨v0,y0⟩:=hR.ex 0 (by omega);obtain ⟨v1,y1⟩:=hR.ex 1 (by omega);obtain ⟨v2,y2⟩:=hR.ex 2 (by omega);obtain ⟨v3,y3⟩:=hR.ex 3 (by omega);obtain ⟨v4,y4⟩:=hR.ex 4 (by omega);have z0:=hR.fz 0;have z1:=hR.fz 1;have z2:=hR.fz 2;have z3:=hR.fz 3;have z4:=hR.fz 4;clear hB hj HE hR a0 a1 a2 a3 a4 b0 b1 b2 b3 b4;unfold sv;go_wp2;obtain ⟨u0,u1,u2,u3,u4⟩:=HLY.out;unfold RX.lay at u0 u1 u2 u3 u4;simp only[Nat.zero_add] at u0 u1 u2 u3 u4;refine bodyPost_ret (v:= .tuple #[sv t q,.bool (bound (f+1) true a b).isSome]) (by simp[results,Tryz.results18,go_sem,u0,u1,u2,u3,u4]) rfl ?_;exact HF.out}
   {have m7: (a.kind==7)=false:=by simpa using h7
    have HE:=Y1 (Zcc HI.out true a b pa pb n0 w3 H2.out hk (fun h=>h.elim h6 h7) HA.out HB.out HN3.out);unfold sv bfn at HE;simp only[Bool.not_true,Bool.not_false,Bool.false_eq_true,if_true,if_false] at HE;clear hk h6 h7;go_enter Tryz.func18,Tryz.ntmps18
    go_wp2_with fail
    refine HE.out.mono ?_;rintro e W6 ⟨t,q,rfl,hB,hj⟩;have hR:=HR.out.upd (T:=fun _=>False) (Upd.new hB) (fun h=>h);have HF:=Y1 (ZbY (rc:=w.heap.size+1+1) HN.out HW.out (by omega) lw hB hj);have HLY:=Y1 (RX.lay_at t q (W:=W6) (g:=w.heap.size+1+1) hR.ex);clear y0 y1 y2 y3 y4 z0 z1 z2 z3 z4 v0 v1 v2 v3 v4;obtain ⟨v0,y0⟩:=hR.ex 0 (by omega);obtain ⟨v1,y1⟩:=hR.ex 1 (by omega);obtain ⟨v2,y2⟩:=hR.ex 2 (by omega);obtain ⟨v3,y3⟩:=hR.ex 3 (by omega);obtain ⟨v4,y4⟩:=hR.ex 4 (by omega);have z0:=hR.fz 0;have z1:=hR.fz 1;have z2:=hR.fz 2;have z3:=hR.fz 3;have z4:=hR.fz 4;clear hB hj HE hR a0 a1 a2 a3 a4 b0 b1 b2 b3 b4;unfold sv;go_wp2;obtain ⟨u0,u1,u2,u3,u4⟩:=HLY.out;unfold RX.lay at u0 u1 u2 u3 u4;simp only[Nat.zero_add] at u0 u1 u2 u3 u4;refine bodyPost_ret (v:= .tuple #[sv t q,.bool (bound (f+1) true a b).isSome]) (by simp[results,Tryz.results18,go_sem,u0,u1,u2,u3,u4]) rfl ?_;exact HF.out}}}
 {have m0: (a.kind !=b.kind)=true:=by simpa using hk
  have m1: (a.kind==b.kind)=false:=by simpa using hk
  have HBD:Hid (bound (f+1) true a b=none):=Y1 (by unfold bound; rw[if_pos hk]);have HLY:=Y1 (RX.lay_at ⟨0,[],[],[],[]⟩ noneQ12 (W:=w3) (g:=w.heap.size+1+1) HR.out.ex);have HUP:=Y1 (RX.lay_upd w3 (w.heap.size+1+1) ⟨0,[],[],[],[]⟩ noneQ12);clear hk;go_enter Tryz.func18,Tryz.ntmps18;go_wp2;obtain ⟨u0,u1,u2,u3,u4⟩:=HLY.out;unfold RX.lay at u0 u1 u2 u3 u4;simp only[Nat.zero_add,List.length_nil] at u0 u1 u2 u3 u4;refine bodyPost_ret (v:= .tuple #[.agg #[.int .i64 0,.string ⟨#[]⟩,.string ⟨#[]⟩,.slice none 0 0,.slice none 0 0],.bool false]) (by simp[results,Tryz.results18,go_sem,u0,u1,u2,u3,u4]) rfl ?_;exact ZcL (HW.out.trans (HUP.out.below HW.out.size (fun x hx=>by omega))) HBD.out}
theorem Zdi:
 Calls Tryz.prog 24 #[sv a pa,sv b pb] w (BIs (f+1) false a b n0 w):=by
 have hb1:=Z01 w (.cells (Y8 a pa) 25);obtain ⟨w1,hw1⟩: ∃w1,w1=w.alloc (.cells (Y8 a pa) 25):=⟨_,rfl⟩;have hs1:w1.heap.size=w.heap.size+1:=by rw[hw1]; simp
 have hb2:=Z01 w1 (.cells (Y8 b pb) 25);obtain ⟨w2,hw2⟩: ∃w2,w2=w1.alloc (.cells (Y8 b pb) 25):=⟨_,rfl⟩;have hs2:w2.heap.size=w1.heap.size+1:=by rw[hw2]; simp
 have hb3:=Z01 w2 (.cells Yb 25);obtain ⟨w3,hw3⟩: ∃w3,w3=w2.alloc (.cells Yb 25):=⟨_,rfl⟩;have hs3:w3.heap.size=w2.heap.size+1:=by rw[hw3]; simp
 rw[<-hw1] at hb1;rw[<-hw2] at hb2;rw[<-hw3] at hb3;have hbw:=Z00 hb1 (Z00 hb2 hb3);have hrc:Rc (w.heap.size+1+1) w3:=by
  have h:=Z0I hw3
  rwa [show w2.heap.size=w.heap.size+1+1 from by omega] at h
 have hB1:Box5 w1 w.heap.size a pa:=by rw[hw1]; exact Z05 w a pa
 have hB2:Box5 w2 w1.heap.size b pb:=by rw[hw2]; exact Z05 w1 b pb
 have hBA:=(hB1.next hb2).next hb3;have hBB:=hB2.next hb3;rw[hs1] at hBB;have HA:=Y1 (ZbU hbw ha hn);have HB:=Y1 (ZbU hbw hb hn);have HN:=Y1 hn;have HN3:Hid (n0<=w3.heap.size):=Y1 (by omega);have HW:=Y1 hbw;have HZ:Hid (w3.heap.size=w.heap.size+1+1+1):=Y1 (by omega);have HR:=Y1 hrc;have H2:=Y1 h2;have HI:=Y1 hI;obtain ⟨_,⟨a0,a1,a2,a3,a4⟩,_⟩:=hBA;obtain ⟨_,⟨b0,b1,b2,b3,b4⟩,_⟩:=hBB;simp only[Nat.zero_add] at a0 a1 a2 a3 a4 b0 b1 b2 b3 b4;obtain ⟨v0,y0⟩:=hrc.ex 0 (by omega);obtain ⟨v1,y1⟩:=hrc.ex 1 (by omega);obtain ⟨v2,y2⟩:=hrc.ex 2 (by omega);obtain ⟨v3,y3⟩:=hrc.ex 3 (by omega);obtain ⟨v4,y4⟩:=hrc.ex 4 (by omega);have z0:=hrc.fz 0;have z1:=hrc.fz 1;have z2:=hrc.fz 2;have z3:=hrc.fz 3;have z4:=hrc.fz 4;have hw1':=hw1.symm;have hw2':=hw2.symm;have hw3':=hw3.symm;have lw:w.heap.size+1+1 < w3.heap.size:=by omega
 clear hw1 hw2 hw3 hb1 hb2 hb3 hB1 hB2 hbw ha hb hn h2 hI hrc;unfold sv;by_cases hk:a.kind=b.kind
 {have HK:=Y1 hk;have m0: (a.kind !=b.kind)=false:=by rw[hk]; simp
  have m1: (a.kind==b.kind)=true:=by rw[hk]; simp
  by_cases h6:a.kind=6
  {have m6: (a.kind==6)=true:=by rw[h6]; rfl
   have HE:=Y1 (Zcb HI.out false a b pa pb n0 w3 H2.out (Z0p (Z0b H2.out.ra) (Or.inl h6)) (Z0p (Z0b H2.out.rb) (Or.inl (hk▸h6))) hk (Or.inr ⟨rfl,h6⟩) HA.out HB.out HN3.out);unfold sv bfn at HE;simp only[Bool.not_true,Bool.not_false,Bool.false_eq_true,if_true,if_false] at HE;clear hk h6;go_enter Tryz.func24,Tryz.ntmps24
   go_wp2_with fail
   refine HE.out.mono ?_;rintro e W6 ⟨t,q,rfl,hB,hj⟩;have hR:=HR.out.upd (T:=fun _=>False) (Upd.new hB) (fun h=>h);have HF:=Y1 (ZbY (rc:=w.heap.size+1+1) HN.out HW.out (by omega) lw hB hj);have HLY:=Y1 (RX.lay_at t q (W:=W6) (g:=w.heap.size+1+1) hR.ex);clear y0 y1 y2 y3 y4 z0 z1 z2 z3 z4 v0 v1 v2 v3 v4;obtain ⟨v0,y0⟩:=hR.ex 0 (by omega);obtain ⟨v1,y1⟩:=hR.ex 1 (by omega);obtain ⟨v2,y2⟩:=hR.ex 2 (by omega);obtain ⟨v3,y3⟩:=hR.ex 3 (by omega);obtain ⟨v4,y4⟩:=hR.ex 4 (by omega);have z0:=hR.fz 0;have z1:=hR.fz 1;have z2:=hR.fz 2;have z3:=hR.fz 3;have z4:=hR.fz 4;clear hB hj HE hR a0 a1 a2 a3 a4 b0 b1 b2 b3 b4;unfold sv;go_wp2;obtain ⟨u0,u1,u2,u3,u4⟩:=HLY.out;unfold RX.lay at u0 u1 u2 u3 u4;simp only[Nat.zero_add] at u0 u1 u2 u3 u4;refine bodyPost_ret (v:= .tuple #[sv t q,.bool (bound (f+1) false a b).isSome]) (by simp[results,Tryz.results24,go_sem,u0,u1,u2,u3,u4]) rfl ?_;exact HF.out}
  {have m6: (a.kind==6)=false:=by simpa using h6
   by_cases h7:a.kind=7
   {have m7: (a.kind==7)=true:=by rw[h7]; rfl
    have HE:=Y1 (Zcj HI.out false a b pa pb n0 w3 H2.out (Z0p (Z0b H2.out.ra) (Or.inr h7)) (Z0p (Z0b H2.out.rb) (Or.inr (hk▸h7))) hk (Or.inr ⟨rfl,h7⟩) HA.out HB.out HN3.out);unfold sv bfn at HE;simp only[Bool.not_true,Bool.not_false,Bool.false_eq_true,if_true,if_false] at HE;clear hk h6 h7;go_enter Tryz.func24,Tryz.ntmps24
    go_wp2_with fail
    refine HE.out.mono ?_;rintro e W6 ⟨t,q,rfl,hB,hj⟩;have hR:=HR.out.upd (T:=fun _=>False) (Upd.new hB) (fun h=>h);have HF:=Y1 (ZbY (rc:=w.heap.size+1+1) HN.out HW.out (by omega) lw hB hj);have HLY:=Y1 (RX.lay_at t q (W:=W6) (g:=w.heap.size+1+1) hR.ex);clear y0 y1 y2 y3 y4 z0 z1 z2 z3 z4 v0 v1 v2 v3 v4;obtain ⟨v0,y0⟩:=hR.ex 0 (by omega);obtain ⟨v1,y1⟩:=hR.ex 1 (by omega);obtain ⟨v2,y2⟩:=hR.ex 2 (by omega);obtain ⟨v3,y3⟩:=hR.ex 3 (by omega);obtain ⟨v4,y4⟩:=hR.ex 4 (by omega);have z0:=hR.fz 0;have z1:=hR.fz 1;have z2:=hR.fz 2;have z3:=hR.fz 3;have z4:=hR.fz 4;clear hB hj HE hR a0 a1 a2 a3 a4 b0 b1 b2 b3 b4;unfold sv;go_wp2;obtain ⟨u0,u1,u2,u3,u4⟩:=HLY.out;unfold RX.lay at u0 u1 u2 u3 u4;simp only[Nat.zero_add] at u0 u1 u2 u3 u4;refine bodyPost_ret (v:= .tuple #[sv t q,.bool (bound (f+1) false a b).isSome]) (by simp[results,Tryz.results24,go_sem,u0,u1,u2,u3,u4]) rfl ?_;exact HF.out}
   {have m7: (a.kind==7)=false:=by simpa using h7
    have HE:=Y1 (Zcc HI.out false a b pa pb n0 w3 H2.out hk (fun h=>h.elim h6 h7) HA.out HB.out HN3.out);unfold sv bfn at HE;simp only[Bool.not_true,Bool.not_false,Bool.false_eq_true,if_true,if_false] at HE;clear hk h6 h7;go_enter Tryz.func24,Tryz.ntmps24
    go_wp2_with fail
    refine HE.out.mono ?_;rintro e W6 ⟨t,q,rfl,hB,hj⟩;have hR:=HR.out.upd (T:=fun _=>False) (Upd.new hB) (fun h=>h);have HF:=Y1 (ZbY (rc:=w.heap.size+1+1) HN.out HW.out (by omega) lw hB hj);have HLY:=Y1 (RX.lay_at t q (W:=W6) (g:=w.heap.size+1+1) hR.ex);clear y0 y1 y2 y3 y4 z0 z1 z2 z3 z4 v0 v1 v2 v3 v4;obtain ⟨v0,y0⟩:=hR.ex 0 (by omega);obtain ⟨v1,y1⟩:=hR.ex 1 (by omega);obtain ⟨v2,y2⟩:=hR.ex 2 (by omega);obtain ⟨v3,y3⟩:=hR.ex 3 (by omega);obtain ⟨v4,y4⟩:=hR.ex 4 (by omega);have z0:=hR.fz 0;have z1:=hR.fz 1;have z2:=hR.fz 2;have z3:=hR.fz 3;have z4:=hR.fz 4;clear hB hj HE hR a0 a1 a2 a3 a4 b0 b1 b2 b3 b4;unfold sv;go_wp2;obtain ⟨u0,u1,u2,u3,u4⟩:=HLY.out;unfold RX.lay at u0 u1 u2 u3 u4;simp only[Nat.zero_add] at u0 u1 u2 u3 u4;refine bodyPost_ret (v:= .tuple #[sv t q,.bool (bound (f+1) false a b).isSome]) (by simp[results,Tryz.results24,go_sem,u0,u1,u2,u3,u4]) rfl ?_;exact HF.out}}}
 {have m0: (a.kind !=b.kind)=true:=by simpa using hk
  have m1: (a.kind==b.kind)=false:=by simpa using hk
  have HBD:Hid (bound (f+1) false a b=none):=Y1 (by unfold bound; rw[if_pos hk]);have HLY:=Y1 (RX.lay_at ⟨0,[],[],[],[]⟩ noneQ12 (W:=w3) (g:=w.heap.size+1+1) HR.out.ex);have HUP:=Y1 (RX.lay_upd w3 (w.heap.size+1+1) ⟨0,[],[],[],[]⟩ noneQ12);clear hk;go_enter Tryz.func24,Tryz.ntmps24;go_wp2;obtain ⟨u0,u1,u2,u3,u4⟩:=HLY.out;unfold RX.lay at u0 u1 u2 u3 u4;simp only[Nat.zero_add,List.length_nil] at u0 u1 u2 u3 u4;refine bodyPost_ret (v:= .tuple #[.agg #[.int .i64 0,.string ⟨#[]⟩,.string ⟨#[]⟩,.slice none 0 0,.slice none 0 0],.bool false]) (by simp[results,Tryz.results24,go_sem,u0,u1,u2,u3,u4]) rfl ?_;exact ZcL (HW.out.trans (HUP.out.below HW.out.size (fun x hx=>by omega))) HBD.out}
end
theorem Zd6 (f:Nat):BoundOk f:=by
 induction f with
 | zero=>intro up a b pa pb n0 w h; have:=h.da; rw[Z0j] at this; omega
 | succ f hI=>
  intro up a b pa pb n0 w h ha hb hn;cases up
  {exact Zdi hI a b pa pb n0 w h ha hb hn}
  {exact Zdh hI a b pa pb n0 w h ha hb hn}
end SubM
end Go.Proofs.YtlomianlcnmfgaaGreatDoor
