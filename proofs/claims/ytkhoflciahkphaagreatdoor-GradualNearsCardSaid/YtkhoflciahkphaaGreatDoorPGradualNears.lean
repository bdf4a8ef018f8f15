/- GradualNears: plain, alike and near are the document's; for all values that the row lets in, with the program's variable laid as its text lays it. -/
import Derived.Lib.SmallJoins
import Derived.Test.YtkhoflciahkphaaGreatDoorTie
import Derived.Test.YtkhoflciahkphaaGreatDoorCards
import Derived.LaidMore
import Derived.Lay
import Derived.Test.YtkhoflciahkphaaGreatDoorK0n2
set_option linter.unusedVariables false
set_option linter.unusedSimpArgs false
set_option linter.unusedSectionVars false
set_option maxRecDepth 100000
set_option maxHeartbeats 16000000
namespace Grd
open Shp Sub Go.Proofs.YtkhoflciahkphaaGreatDoor
section
variable {w : Bool} {f : Nat} {a b : Sh}
theorem Zaz (ra:right a=true) (rb:right b=true) (h: ¬R w f true a b):hold w f a b=false:=by
 cases e:hold w f a b with
 | false=>rfl
 | true=>exact absurd ((Z38 ra rb).1 e) h
theorem nd_any (h:a.kind=4\/b.kind=4):hold w (f+1) a b=true:=by unfold hold; rw[if_pos h]
theorem ZaE (h4: ¬(a.kind=4\/b.kind=4)) (h:R w (f+1) true a b):a.kind=b.kind/\
 (a.kind=6\/a.kind=7->(∀n p q,get a n=some p->get b n=some q->R w f true p q)/\
  (∀n p,get a n=some p->get b n=none->w=true/\Narrow true a.kind)/\
  (∀n q,get a n=none->get b n=some q->w=true/\Wide true a.kind))/\
 (¬(a.kind=6\/a.kind=7)->a.of_=b.of_/\a.name=b.name/\a.parts.length=b.parts.length/\
  ∀(i:Nat) (p q:Sh),a.parts[i]? =some p->b.parts[i]? =some q->R w f (if i+1=a.parts.length then true else !true) p q):=by
 rcases h with h | h | h
 {exact absurd (Or.inl h) h4}
 {exact absurd (Or.inr h) h4}
 {exact h}
section
variable (ra : right a = true) (rb : right b = true)
include ra rb
theorem nd_head (h4: ¬(a.kind=4\/b.kind=4)) (h: ¬(a.kind=b.kind/\a.of_=b.of_/\a.name=b.name)):hold w (f+1) a b=false:=by
 refine Zaz ra rb (fun hr=>h ?_);obtain ⟨hk,_,h2⟩:=ZaE h4 hr;by_cases h6:a.kind=6\/a.kind=7
 {have e1:=(Z1u a).1 (Zaw ra h6).b;have e2:=(Z1u b).1 (Zaw rb (hk▸h6)).b;exact ⟨hk,e1.1.trans e2.1.symm,e1.2.trans e2.2.symm⟩}
 {exact ⟨hk,(h2 h6).1,(h2 h6).2.1⟩}
theorem nr_yes (hk:a.kind=b.kind) (h6:a.kind=6)
 (h: ∀j (h1:j < b.names.length) (h2:j < b.parts.length),∃p,get a (b.names[j]'h1)=some p/\hold true f p (b.parts[j]'h2)=true):hold true (f+1) a b=true:=by
 have hB:=Zaw rb (by rw[<-hk]; exact Or.inl h6);refine (Z38 ra rb).2 (Or.inr (Or.inr ⟨hk,fun _=>⟨fun n p q hp hq=> ?_,fun n p hp hq=>⟨rfl,by rw[h6]; decide⟩,fun n q hp hq=> ?_⟩,fun e=>absurd (Or.inl h6) e⟩))
 {obtain ⟨i,h1,h2,e1,e2⟩:=ZaC hB hq;obtain ⟨p',hp',hv⟩:=h i h1 h2;rw[e1,hp] at hp'; cases hp';rw[e2] at hv;exact (Z38 (Z04 ra (Z06 hp)) (Z04 rb (Z06 hq))).1 hv}
 {obtain ⟨i,h1,h2,e1,e2⟩:=ZaC hB hq;obtain ⟨p',hp',hv⟩:=h i h1 h2;rw[e1,hp] at hp'; cases hp'}
theorem nr_none (hk:a.kind=b.kind) (h6:a.kind=6) {j:Nat} (h1:j < b.names.length) (h:get a (b.names[j]'h1)=none):hold true (f+1) a b=false:=by
 have hB:=Zaw rb (by rw[<-hk]; exact Or.inl h6);refine Zaz ra rb (fun hr=> ?_);obtain ⟨_,h3,_⟩:=ZaE (by omega) hr;have:=(h3 (Or.inl h6)).2.2 _ _ h (ZaD hB h1 (by rw[<-hB.l]; exact h1));rw[h6] at this;exact absurd this.2 (by decide)
theorem nr_no (hk:a.kind=b.kind) (h6:a.kind=6) {j:Nat} (h1:j < b.names.length) (h2:j < b.parts.length) {p:Sh} (hp:get a (b.names[j]'h1)=some p) (h:hold true f p (b.parts[j]'h2)=false):hold true (f+1) a b=false:=by
 have hB:=Zaw rb (by rw[<-hk]; exact Or.inl h6);refine Zaz ra rb (fun hr=> ?_);obtain ⟨_,h3,_⟩:=ZaE (by omega) hr;have hq:=ZaD hB h1 h2;have:=(h3 (Or.inl h6)).1 _ _ _ hp hq;rw[(Z38 (Z04 ra (Z06 hp)) (Z04 rb (Z06 hq))).2 this] at h; cases h
theorem nv_yes (hk:a.kind=b.kind) (h6:a.kind=7)
 (h: ∀j (h1:j < a.names.length) (h2:j < a.parts.length),∃p,get b (a.names[j]'h1)=some p/\hold true f (a.parts[j]'h2) p=true):hold true (f+1) a b=true:=by
 have hA:=Zaw ra (Or.inr h6);refine (Z38 ra rb).2 (Or.inr (Or.inr ⟨hk,fun _=>⟨fun n p q hp hq=> ?_,fun n p hp hq=> ?_,fun n q hp hq=>⟨rfl,by rw[h6]; decide⟩⟩,fun e=>absurd (Or.inr h6) e⟩))
 {obtain ⟨i,h1,h2,e1,e2⟩:=ZaC hA hp;obtain ⟨p',hp',hv⟩:=h i h1 h2;rw[e1,hq] at hp'; cases hp';rw[e2] at hv;exact (Z38 (Z04 ra (Z06 hp)) (Z04 rb (Z06 hq))).1 hv}
 {obtain ⟨i,h1,h2,e1,e2⟩:=ZaC hA hp;obtain ⟨p',hp',hv⟩:=h i h1 h2;rw[e1,hq] at hp'; cases hp'}
theorem nv_none (hk:a.kind=b.kind) (h6:a.kind=7) {j:Nat} (h1:j < a.names.length) (h:get b (a.names[j]'h1)=none):hold true (f+1) a b=false:=by
 have hA:=Zaw ra (Or.inr h6);refine Zaz ra rb (fun hr=> ?_);obtain ⟨_,h3,_⟩:=ZaE (by omega) hr;have:=(h3 (Or.inr h6)).2.1 _ _ (ZaD hA h1 (by rw[<-hA.l]; exact h1)) h;rw[h6] at this;exact absurd this.2 (by decide)
theorem nv_no (hk:a.kind=b.kind) (h6:a.kind=7) {j:Nat} (h1:j < a.names.length) (h2:j < a.parts.length) {p:Sh} (hp:get b (a.names[j]'h1)=some p) (h:hold true f (a.parts[j]'h2) p=false):hold true (f+1) a b=false:=by
 have hA:=Zaw ra (Or.inr h6);refine Zaz ra rb (fun hr=> ?_);obtain ⟨_,h3,_⟩:=ZaE (by omega) hr;have hq:=ZaD hA h1 h2;have:=(h3 (Or.inr h6)).1 _ _ _ hq hp;rw[(Z38 (Z04 ra (Z06 hq)) (Z04 rb (Z06 hp))).2 this] at h; cases h
theorem np_len (h4: ¬(a.kind=4\/b.kind=4)) (h6: ¬(a.kind=6\/a.kind=7)) (h:a.parts.length≠b.parts.length):hold w (f+1) a b=false:=
 Zaz ra rb (fun hr=>h ((ZaE h4 hr).2.2 h6).2.2.1)
theorem np_yes (hk:a.kind=b.kind) (ho:a.of_=b.of_) (hn:a.name=b.name) (h6: ¬(a.kind=6\/a.kind=7)) (hl:a.parts.length=b.parts.length)
 (h: ∀j (h1:j < a.parts.length) (h2:j < b.parts.length),(if j+1=a.parts.length then hold w f (a.parts[j]'h1) (b.parts[j]'h2) else hold w f (b.parts[j]'h2) (a.parts[j]'h1))=true):hold w (f+1) a b=true:=by
 refine (Z38 ra rb).2 (Or.inr (Or.inr ⟨hk,fun e=>absurd e h6,fun _=>⟨ho,hn,hl,fun i p q hp hq=> ?_⟩⟩));obtain ⟨h1,rfl⟩:=List.getElem?_eq_some_iff.1 hp;obtain ⟨h2,rfl⟩:=List.getElem?_eq_some_iff.1 hq;have r1:=Z04 ra (List.getElem_mem h1);have r2:=Z04 rb (List.getElem_mem h2);have:=h i h1 h2;by_cases e:i+1=a.parts.length
 {rw[if_pos e] at this ⊢; exact (Z38 r1 r2).1 this}
 {rw[if_neg e] at this ⊢; exact R.flip_iff.2 (by rw[Bool.not_not]; exact (Z38 r2 r1).1 this)}
theorem np_last (h4: ¬(a.kind=4\/b.kind=4)) (h6: ¬(a.kind=6\/a.kind=7)) {j:Nat} (h1:j < a.parts.length) (h2:j < b.parts.length) (e:j+1=a.parts.length) (h:hold w f (a.parts[j]'h1) (b.parts[j]'h2)=false):hold w (f+1) a b=false:=by
 refine Zaz ra rb (fun hr=> ?_);have:=((ZaE h4 hr).2.2 h6).2.2.2 j _ _ (List.getElem?_eq_getElem h1) (List.getElem?_eq_getElem h2);rw[if_pos e] at this;rw[(Z38 (Z04 ra (List.getElem_mem h1)) (Z04 rb (List.getElem_mem h2))).2 this] at h; cases h
theorem np_more (h4: ¬(a.kind=4\/b.kind=4)) (h6: ¬(a.kind=6\/a.kind=7)) {j:Nat} (h1:j < a.parts.length) (h2:j < b.parts.length) (e:j+1≠a.parts.length) (h:hold w f (b.parts[j]'h2) (a.parts[j]'h1)=false):hold w (f+1) a b=false:=by
 refine Zaz ra rb (fun hr=> ?_);have:=((ZaE h4 hr).2.2 h6).2.2.2 j _ _ (List.getElem?_eq_getElem h1) (List.getElem?_eq_getElem h2);rw[if_neg e] at this;have:=R.flip_iff.1 this;rw[Bool.not_not] at this;rw[(Z38 (Z04 rb (List.getElem_mem h2)) (Z04 ra (List.getElem_mem h1))).2 this] at h; cases h
theorem np_leaf (hk:a.kind=b.kind) (ho:a.of_=b.of_) (hn:a.name=b.name) (h5:a.kind≠5) (h6: ¬(a.kind=6\/a.kind=7)) (h8:a.kind≠8):hold w (f+1) a b=true:=by
 have key: ∀ {t:Sh},right t=true->t.kind≠5-> ¬(t.kind=6\/t.kind=7)->t.kind≠8->t.parts= []:=fun rt k5 k6 k8=>by
  rcases Z2Y (Z08 rt) with h | h | h | h | h
  {exact h.2.2.2}
  {exact absurd h.1 k5}
  {exact absurd h.1 k6}
  {exact absurd h.1 k8}
  {exact h.2.2.1}
 have pa:=key ra h5 h6 h8;have pb:=key rb (by rw[<-hk]; exact h5) (by rw[<-hk]; exact h6) (by rw[<-hk]; exact h8);exact np_yes ra rb hk ho hn h6 (by rw[pa,pb]) (fun j h1 _=>by rw[pa] at h1; exact absurd h1 (by simp))
end
theorem list_one {t:Sh} (rt:right t=true) (h:t.kind=5):t.parts.length=1:=by
 rcases Z2Y (Z08 rt) with h1 | h1 | h1 | h1 | h1
 {omega}
 {exact h1.2.2}
 {omega}
 {omega}
 {omega}
theorem fun_one {t:Sh} (rt:right t=true) (h:t.kind=8):1<=t.parts.length:=by
 rcases Z2Y (Z08 rt) with h1 | h1 | h1 | h1 | h1
 {omega}
 {omega}
 {omega}
 {exact h1.2.2}
 {omega}
theorem np_list (ra:right a=true) (rb:right b=true) (hk:a.kind=b.kind) (ho:a.of_=b.of_) (hn:a.name=b.name) (h5:a.kind=5) (h1:0 < a.parts.length) (h2:0 < b.parts.length):hold w (f+1) a b=hold w f (a.parts[0]'h1) (b.parts[0]'h2):=by
 have la:=list_one ra h5;have lb:=list_one rb (by rw[<-hk]; exact h5);cases h:hold w f (a.parts[0]'h1) (b.parts[0]'h2) with
 | false=>exact np_last ra rb (by omega) (by omega) h1 h2 (by omega) h
 | true=>
  refine np_yes ra rb hk ho hn (by omega) (by omega) (fun j g1 g2=> ?_);obtain rfl:j=0:=by omega
  rw[if_pos (by omega)]; exact h
theorem Zbv {l m:List (List UInt8)} (hl:l.Nodup) (hs: ∀x∈l,x∈m) (hn:m.length<=l.length): ∀x∈m,x∈l:=by
 induction l generalizing m with
 | nil=>
  cases m with
  | nil=>intro x hx; cases hx
  | cons a m=>simp at hn
 | cons a l ih=>
  rw[List.nodup_cons] at hl;obtain ⟨s,t,rfl⟩:=List.append_of_mem (hs a (by simp));have:=ih (m:=s++t) hl.2 (fun x hx=>by
   have h1:=hs x (by simp[hx]);rw[List.mem_append,List.mem_cons] at h1;rw[List.mem_append];rcases h1 with h1 | h1 | h1
   {exact Or.inl h1}
   {subst h1; exact absurd hx hl.1}
   · exact Or.inr h1) (by simp at hn ⊢; omega)
  intro x hx;rw[List.mem_append,List.mem_cons] at hx;rcases hx with h1 | h1 | h1
  {exact List.mem_cons_of_mem _ (this x (by simp[h1]))}
  {simp[h1]}
  {exact List.mem_cons_of_mem _ (this x (by simp[h1]))}
section
variable (ra : right a = true) (rb : right b = true)
include ra rb
theorem al_len (h4: ¬(a.kind=4\/b.kind=4)) (h:a.parts.length≠b.parts.length):hold false (f+1) a b=false:=by
 refine Zaz ra rb (fun hr=>h ?_);obtain ⟨hk,h1,h2⟩:=ZaE h4 hr;by_cases h6:a.kind=6\/a.kind=7
 {have A:=Zaw ra h6;have B:=Zaw rb (hk▸h6);obtain ⟨_,g2,g3⟩:=h1 h6;have s1: ∀x∈a.names,x∈b.names:=fun x hx=>by
   cases hq:get b x with
   | some q=>exact Z0Q hq
   | none=>
    cases hp:get a x with
    | none=>exact absurd hx (A.get_none.1 hp)
    | some p=>exact absurd (g2 x p hp hq).1 (by simp)
  have s2: ∀x∈b.names,x∈a.names:=fun x hx=>by
   cases hp:get a x with
   | some p=>exact Z0Q hp
   | none=>
    cases hq:get b x with
    | none=>exact absurd hx (B.get_none.1 hq)
    | some q=>exact absurd (g3 x q hp hq).1 (by simp)
  have l1:a.names.length<=b.names.length:=by
   refine Nat.le_of_not_lt (fun hlt=> ?_);have:=List.Nodup.length_le_of_subset A.nodup s1;omega
  have l2:=List.Nodup.length_le_of_subset B.nodup s2;rw[<-A.l, <-B.l];omega}
 {exact (h2 h6).2.2.1}
theorem al_yes (hk:a.kind=b.kind) (ho:a.of_=b.of_) (hn:a.name=b.name) (h6:a.kind=6\/a.kind=7) (hl:a.parts.length=b.parts.length)
 (h: ∀j (h1:j < a.names.length) (h2:j < a.parts.length),∃p,get b (a.names[j]'h1)=some p/\hold false f (a.parts[j]'h2) p=true):hold false (f+1) a b=true:=by
 have A:=Zaw ra h6;have B:=Zaw rb (hk▸h6);have s1: ∀x∈a.names,x∈b.names:=fun x hx=>by
  obtain ⟨i,hi,rfl⟩:=List.getElem_of_mem hx;obtain ⟨p,hp,_⟩:=h i hi (by rw[<-A.l]; exact hi);exact Z0Q hp
 have s2:=Zbv A.nodup s1 (by rw[A.l,B.l]; omega);refine (Z38 ra rb).2 (Or.inr (Or.inr ⟨hk,fun _=>⟨fun n p q hp hq=> ?_,fun n p hp hq=> ?_,fun n q hp hq=> ?_⟩,fun e=>absurd h6 e⟩))
 {obtain ⟨i,h1,h2,e1,e2⟩:=ZaC A hp;obtain ⟨p',hp',hv⟩:=h i h1 h2;rw[e1,hq] at hp'; cases hp';rw[e2] at hv;exact (Z38 (Z04 ra (Z06 hp)) (Z04 rb (Z06 hq))).1 hv}
 {exact absurd (s1 n (Z0Q hp)) (B.get_none.1 hq)}
 {exact absurd (s2 n (Z0Q hq)) (A.get_none.1 hp)}
theorem al_none (h4: ¬(a.kind=4\/b.kind=4)) (h6:a.kind=6\/a.kind=7) {j:Nat} (h1:j < a.names.length) (h:get b (a.names[j]'h1)=none):hold false (f+1) a b=false:=by
 have A:=Zaw ra h6;refine Zaz ra rb (fun hr=> ?_);obtain ⟨_,h3,_⟩:=ZaE h4 hr;exact absurd ((h3 h6).2.1 _ _ (ZaD A h1 (by rw[<-A.l]; exact h1)) h).1 (by simp)
theorem al_no (h4: ¬(a.kind=4\/b.kind=4)) (h6:a.kind=6\/a.kind=7) {j:Nat} (h1:j < a.names.length) (h2:j < a.parts.length) {p:Sh} (hp:get b (a.names[j]'h1)=some p) (h:hold false f (a.parts[j]'h2) p=false):hold false (f+1) a b=false:=by
 have A:=Zaw ra h6;refine Zaz ra rb (fun hr=> ?_);obtain ⟨_,h3,_⟩:=ZaE h4 hr;have hq:=ZaD A h1 h2;have:=(h3 h6).1 _ _ _ hq hp;rw[(Z38 (Z04 ra (Z06 hq)) (Z04 rb (Z06 hp))).2 this] at h; cases h
theorem al_pyes (hk:a.kind=b.kind) (ho:a.of_=b.of_) (hn:a.name=b.name) (h6: ¬(a.kind=6\/a.kind=7)) (hl:a.parts.length=b.parts.length)
 (h: ∀j (h1:j < a.parts.length) (h2:j < b.parts.length),hold false f (a.parts[j]'h1) (b.parts[j]'h2)=true):hold false (f+1) a b=true:=by
 refine (Z38 ra rb).2 (Or.inr (Or.inr ⟨hk,fun e=>absurd e h6,fun _=>⟨ho,hn,hl,fun i p q hp hq=> ?_⟩⟩));obtain ⟨h1,rfl⟩:=List.getElem?_eq_some_iff.1 hp;obtain ⟨h2,rfl⟩:=List.getElem?_eq_some_iff.1 hq;exact ((Z38 (Z04 ra (List.getElem_mem h1)) (Z04 rb (List.getElem_mem h2))).1 (h i h1 h2)).any
theorem al_pno (h4: ¬(a.kind=4\/b.kind=4)) (h6: ¬(a.kind=6\/a.kind=7)) {j:Nat} (h1:j < a.parts.length) (h2:j < b.parts.length) (h:hold false f (a.parts[j]'h1) (b.parts[j]'h2)=false):hold false (f+1) a b=false:=by
 refine Zaz ra rb (fun hr=> ?_);have:=((ZaE h4 hr).2.2 h6).2.2.2 j _ _ (List.getElem?_eq_getElem h1) (List.getElem?_eq_getElem h2);rw[(Z38 (Z04 ra (List.getElem_mem h1)) (Z04 rb (List.getElem_mem h2))).2 this.any] at h; cases h
end
end
end Grd
namespace Go.Proofs.YtkhoflciahkphaaGreatDoor
open Go.RowKit Shp Sub
namespace SubM
def NearOk (f:Nat):Prop:=
 ∀(a b:Sh) (pa pb:Ptr) (w:World),Two f a b->ShAt w w.heap.size pa a->ShAt w w.heap.size pb b->
  Y9 32 #[.agg (Y8 a pa),.agg (Y8 b pb)] w (.bool (Grd.hold true f a b))
def gtakeT (v0 v1 v2 v3 v4 v5:Value) (W0:World) (p:Sh) (ok:Bool):Nat->Value->Prop
 | 0,v=>v=v0
 | 1,v=>v=v1
 | 2,v=>v=v2
 | 3,v=>v=v3
 | 4,v=>v=v4
 | 5,v=>v=v5
 | 6,v=> ∃q:Ptr,v= .tuple #[.agg (Y8 p q),.bool ok]/\ShAt W0 W0.heap.size q p
 | 7,v=> ∃q:Ptr,v= .tuple #[.agg (Y8 p q),.bool ok]/\ShAt W0 W0.heap.size q p
 | 8,v=> ∃q:Ptr,v= .agg (Y8 p q)/\ShAt W0 W0.heap.size q p
 | 9,v=>v= .bool ok
 | 12,v=>v= .bool ok
 | _,_=>True
theorem ZaP {a:Sh} {pa:Ptr} {x:List UInt8} {W0 W:World} (ha:ShAt W0 W0.heap.size pa a) (hR:Rec a) {p:Sh} {ok:Bool} (hp: (get a x).getD Z0p=p) (hok: (get a x).isSome=ok) (hJ:Below W0.heap.size W0 W):
 Calls Tryz.prog 53 #[.agg (Y8 a pa),.string ⟨x.toArray⟩] W fun e w'=> ∃q:Ptr,e= .returned (.tuple #[.agg (Y8 p q),.bool ok])/\ShAt W0 W0.heap.size q p/\Below W.heap.size W w':=by
 refine (ZaJ a pa x W0.heap.size W hJ.size (ha.keep hJ (Nat.le_refl _)) hR).mono ?_;rintro e w' ⟨q,he,hs,hb⟩;rw[hp,hok] at he;rw[hp] at hs;exact ⟨q,he,hs.of (Nat.le_refl _) (fun g c hg=>(hJ.cell (p:=⟨g,c,none⟩) hg).symm),hb⟩
theorem Zbm {f:Nat} (hI:NearOk f) (a b:Sh) (pa pb:Ptr) (w:World) (h2:Two (f+1) a b) (ha:ShAt w w.heap.size pa a) (hb:ShAt w w.heap.size pb b) (hk:a.kind=b.kind) (ho:a.of_=b.of_) (hn:a.name=b.name) (h6:a.kind=6):
 Y9 32 #[.agg (Y8 a pa),.agg (Y8 b pb)] w (.bool (Grd.hold true (f+1) a b)):=by
 have hx1:=Z01 w (.cells (Y8 a pa) 25);obtain ⟨u1,hu1⟩: ∃u1,w.alloc (.cells (Y8 a pa) 25)=u1:=⟨_,rfl⟩;have hs1:u1.heap.size=w.heap.size+1:=by rw[<-hu1]; simp
 have hy1:=Z02 w a pa;rw[hu1] at hx1 hy1;have hx2:=Z01 u1 (.cells (Y8 b pb) 25);obtain ⟨W1,hu2⟩: ∃u2,u1.alloc (.cells (Y8 b pb) 25)=u2:=⟨_,rfl⟩;have hy2:=Z02 u1 b pb;rw[hu2] at hx2 hy2;rw[hs1] at hy2;have hb12:=Z00 hx1 hx2;have hxa:=hy1.next hx2;have HXa:=Y1 hxa;have HXb:=Y1 hy2;have HAa:=Y1 (ha.next hb12);have HAb:=Y1 (hb.next hb12);have HB1:=Y1 hb12;have H2:=Y1 h2;have HI:=Y1 hI;have HRt:=Y1 (Zaw h2.ra (by left; exact h6));have HRo:=Y1 (Zaw h2.rb (by rw[<-hk]; left; exact h6));have HL:=Y1 (hb.small.l);have HM:=Y1 (hb.small.m);have HL':=Y1 (ha.small.l);have HM':=Y1 (ha.small.m);have HK:=Y1 (And.intro hk h6);obtain ⟨_,⟨a0,a1,a2,a3,a4⟩,_⟩:=hxa;obtain ⟨_,⟨b0,b1,b2,b3,b4⟩,_⟩:=hy2;simp only[Nat.zero_add] at a0 a1 a2 a3 a4 b0 b1 b2 b3 b4;have m4a:=Y3 4 h6 rfl;have m4b: (b.kind==4)=false:=by rw[<-hk,h6]; rfl
 have n1: (a.kind !=b.kind)=false:=by rw[hk]; simp
 have n2: (a.of_ !=b.of_)=false:=by rw[ho]; simp
 have n3: (a.name !=b.name)=false:=by rw[hn]; simp
 have e1: (a.kind==b.kind)=true:=by rw[hk]; simp
 have e2: (a.of_==b.of_)=true:=by rw[ho]; simp
 have e3: (a.name==b.name)=true:=by rw[hn]; simp
 have n6:=Y4 6 h6 rfl;clear hx1 hx2 hy1 hb12 ha hb h2 hI;go_enter Tryz.func32,Tryz.ntmps32;clear hk ho hn h6
 go_wp2_with fail
 clear hs1 hu1 hu2 m4a m4b a0 a1 a2 a3 a4 b0 b1 b2 b3 b4 n1 n2 n3 e1 e2 e3 n6
 go_loopw [5] (fun ii wr=> ∃i:Nat,ii= .int .i64 i/\i<=b.names.length/\Hid (∀j (h1:j < b.names.length) (h2:j < b.parts.length),j < i-> ∃p,get a (b.names[j]'h1)=some p/\Grd.hold true f p (b.parts[j]'h2)=true)/\Below W1.heap.size W1 wr) (fun i _=>b.names.length - (intOf i).toNat)
 case atStart=>exact ⟨0,rfl,Nat.zero_le _,Y1 (fun j _ _ hj=>absurd hj (by omega)),Below.refl _ _⟩
 case round=>
  obtain ⟨i,rfl,hi,HN,hb⟩:=hrel;have hl:=HL.out;have hm:=HM.out;have hl':=HL'.out;have hm':=HM'.out;have HB:=Y1 hb;obtain ⟨_,⟨a0,a1,a2,a3,a4⟩,_⟩:=HXa.out.next hb;obtain ⟨_,⟨b0,b1,b2,b3,b4⟩,_⟩:=HXb.out.next hb;simp only[Nat.zero_add] at a0 a1 a2 a3 a4 b0 b1 b2 b3 b4;by_cases hlt:i < b.names.length
  {have hi1: (i:Int) < (b.names.length:Int):=by omega
   have hip:i < b.parts.length:=by have:=HRo.out.l; omega
   have hi2: (i:Int) < (b.parts.length:Int):=by omega
   rcases (HAb.out.strs.next hb).cell7 with h0 | ⟨g,off,hqA,hg,hc⟩
   {omega}
   have hcx:=hc i hlt;obtain ⟨x,hx⟩: ∃x,x=b.names[i]'hlt:=⟨_,rfl⟩;rw[<-hx] at hcx;have HX:=Y1 hx;rcases HAb.out.part with h0 | ⟨g',off',qs,hqP,hg',hc',hra⟩
   {omega}
   obtain ⟨y,hy⟩: ∃y,y=b.parts[i]'hip:=⟨_,rfl⟩;have hY5:=(hc' i hip).keep hg' hb;have hYA:=(hra i hip).next hb;have hpe:b.parts[i]'hip=y:=hy.symm;rw[hpe] at hY5 hYA;have HY:=Y1 hy;have HY5:=Y1 hY5;have HYA:=Y1 hYA;have HG':=Y1 hg';rw[hqA] at b3;rw[hqP] at b4;have HCX:=Y1 hcx;have HQA:=Y1 hqA;have HQP:=Y1 hqP;have HAt:=Y1 (HAa.out.next hb);have HGX:=Y1 hg;obtain ⟨p,hp⟩: ∃p,(get a x).getD Z0p=p:=⟨_,rfl⟩;obtain ⟨ok,hok⟩: ∃ok,(get a x).isSome=ok:=⟨_,rfl⟩;have HP:=Y1 (And.intro hp hok);clear hp hok hpe hY5 hYA hy hra hc' hc hx hg hg' hcx hb hqA hqP
   go_wp2_with fail
   refine Zaq (rs:= [0,1,2,3,4,5,6,7,8,9,10,11,12])
    (fun u'=> { tmps:=#[.agg (Y8 a pa),.agg (Y8 b pb),.pointer (some { block:=w.heap.size,off:=0 }),.pointer (some { block:=w.heap.size+1,off:=0 }),u4,.int .i64 ↑i,u' 10,u' 12,undef,undef,undef,undef,undef,.pointer (some { block:=w.heap.size,off:=0 }),.int .i64 a.kind,.bool false,.bool false,.pointer (some { block:=w.heap.size+1,off:=0 }),.int .i64 b.kind,.bool false,.bool false,.pointer (some { block:=w.heap.size,off:=0 }),.int .i64 a.kind,.pointer (some { block:=w.heap.size+1,off:=0 }),.int .i64 b.kind,.bool false,.bool false,.pointer (some { block:=w.heap.size,off:=1 }),.string { data:=a.of_.toArray },.pointer (some { block:=w.heap.size+1,off:=1 }),.string { data:=b.of_.toArray },.bool false,.bool false,.bool false,.pointer (some { block:=w.heap.size,off:=2 }),.string { data:=a.name.toArray },.pointer (some { block:=w.heap.size+1,off:=2 }),.string { data:=b.name.toArray },.bool false,.bool false,.pointer (some { block:=w.heap.size,off:=0 }),.int .i64 a.kind,.bool true,.bool true,.int .i64 ↑i,.pointer (some { block:=w.heap.size+1,off:=3 }),.slice (some { block:=g,off:=off }) b.names.length pb.c,.int .i64 ↑b.names.length,.bool true,u49,u50,u' 7,u' 0,u' 1,u' 2,u' 3,u' 4,u' 5,u' 6,u' 8,u' 9,u61,u62,u63,u64,u65,u66,u67,u68,u69,u70,u71,u72,undef,undef,undef,undef,undef,undef,undef,undef,undef,undef,undef,undef,undef,undef,undef,undef,undef,undef,undef,undef,undef,undef,undef,undef,undef,undef,undef,undef,undef,undef,undef,undef,undef,undef,undef,undef,undef,undef,undef,undef,undef,undef,undef,undef,undef,undef,undef,undef,undef,undef,undef,undef,undef,undef,undef,undef,undef,undef,undef,undef,undef,undef,undef,undef,undef,undef,undef,undef,undef,undef,undef,undef,undef,undef,undef,undef,undef,undef,undef,undef,undef,undef,undef,undef,undef],defers:= [] })
    (fun j=>([u52,u53,u54,u55,u56,u57,u58,u51,u59,u60,u6,undef,u7]:List Value).getD j undef) (TakeI wr (gtakeT (.agg (Y8 a pa)) (.pointer (some ⟨w.heap.size+1,3,none⟩)) (.slice (some ⟨g,off,none⟩) b.names.length pb.c) (.int .i64 (i:Int)) (.pointer (some ⟨g,off+i,none⟩)) (.string ⟨x.toArray⟩) wr p ok) p) (by kernel_rfl) (by kernel_rfl) (by kernel_rfl) TakeI.start ?_ ?_
   refine StepsInv.cons _ rfl (fun d u' W K' hI hd hw hK=> ?_) ?_
   {obtain ⟨_,⟨y0,y1,y2,y3,y4⟩,_⟩:=HXa.out.next (Z00 HB.out hI.up);simp only[Nat.zero_add] at y0 y1 y2 y3 y4;refine Z03 (v:=(.agg (Y8 a pa))) (W':=W) rfl ?_ (hK.out _ _ (hI.step (by decide) (by decide) rfl Y2))
    try dsimp only
    go_simp}
   refine StepsInv.cons _ rfl (fun d u' W K' hI hd hw hK=> ?_) ?_
   {refine Z03 (v:=(.pointer (some ⟨w.heap.size+1,3,none⟩))) (W':=W) rfl ?_ (hK.out _ _ (hI.step (by decide) (by decide) rfl Y2))
    try dsimp only
    go_simp}
   refine StepsInv.cons _ rfl (fun d u' W K' hI hd hw hK=> ?_) ?_
   {have d1:u' 1=(.pointer (some ⟨w.heap.size+1,3,none⟩)):=hI.vals 1 (hw 1 (by kernel_rfl));obtain ⟨_,⟨y0,y1,y2,y3,y4⟩,_⟩:=HXb.out.next (Z00 HB.out hI.up);simp only[Nat.zero_add] at y0 y1 y2 y3 y4;rw[HQA.out] at y3;refine Z03 (v:=(.slice (some ⟨g,off,none⟩) b.names.length pb.c)) (W':=W) rfl ?_ (hK.out _ _ (hI.step (by decide) (by decide) rfl Y2))
    try dsimp only
    go_simp}
   refine StepsInv.cons _ rfl (fun d u' W K' hI hd hw hK=> ?_) ?_
   {refine Z03 (v:=(.int .i64 (i:Int))) (W':=W) rfl ?_ (hK.out _ _ (hI.step (by decide) (by decide) rfl Y2))
    try dsimp only
    go_simp}
   refine StepsInv.cons _ rfl (fun d u' W K' hI hd hw hK=> ?_) ?_
   {have d2:u' 2=(.slice (some ⟨g,off,none⟩) b.names.length pb.c):=hI.vals 2 (hw 2 (by kernel_rfl));have d3:u' 3=(.int .i64 (i:Int)):=hI.vals 3 (hw 3 (by kernel_rfl));refine Z03 (v:=(.pointer (some ⟨g,off+i,none⟩))) (W':=W) rfl ?_ (hK.out _ _ (hI.step (by decide) (by decide) rfl Y2))
    try dsimp only
    go_simp}
   refine StepsInv.cons _ rfl (fun d u' W K' hI hd hw hK=> ?_) ?_
   {have d4:u' 4=(.pointer (some ⟨g,off+i,none⟩)):=hI.vals 4 (hw 4 (by kernel_rfl));have hcx:=(hI.up.cell (p:=⟨g,off+i,none⟩) HGX.out).trans HCX.out;refine Z03 (v:=(.string ⟨x.toArray⟩)) (W':=W) rfl ?_ (hK.out _ _ (hI.step (by decide) (by decide) rfl Y2))
    try dsimp only
    go_simp}
   refine StepsInv.cons _ rfl (fun d u' W K' hI hd hw hK=> ?_) ?_
   {have d0:u' 0=(.agg (Y8 a pa)):=hI.vals 0 (hw 0 (by kernel_rfl));have d5:u' 5=(.string ⟨x.toArray⟩):=hI.vals 5 (hw 5 (by kernel_rfl));refine Z0j (f:=53) (args:=#[(.agg (Y8 a pa)),(.string ⟨x.toArray⟩)]) (W':=W) rfl ?_ ((ZaP HAt.out HRt.out HP.out.1 HP.out.2 hI.up).mono fun e w' ⟨q,he,hs,hb⟩=>⟨_,he,hK.out _ _ (hI.step (by decide) (by decide) ⟨q,rfl,hs⟩ hb)⟩)
    try dsimp only
    go_simp}
   refine StepsInv.cons _ rfl (fun d u' W K' hI hd hw hK=> ?_) ?_
   {obtain ⟨q,d6,hs⟩:=hI.vals 6 (hw 6 (by kernel_rfl));refine Z03 (v:= .tuple #[.agg (Y8 p q),.bool ok]) (W':=W) rfl ?_ (hK.out _ _ (hI.step (by decide) (by decide) ⟨q,rfl,hs⟩ Y2))
    try dsimp only
    go_simp}
   refine StepsInv.cons _ rfl (fun d u' W K' hI hd hw hK=> ?_) ?_
   {obtain ⟨q,d7,hs⟩:=hI.vals 7 (hw 7 (by kernel_rfl));refine Z03 (v:= .agg (Y8 p q)) (W':=W) rfl ?_ (hK.out _ _ (hI.step (by decide) (by decide) ⟨q,rfl,hs⟩ Y2))
    try dsimp only
    go_simp}
   refine StepsInv.cons _ rfl (fun d u' W K' hI hd hw hK=> ?_) ?_
   {obtain ⟨q,d7,hs⟩:=hI.vals 7 (hw 7 (by kernel_rfl));refine Z03 (v:= .bool ok) (W':=W) rfl ?_ (hK.out _ _ (hI.step (by decide) (by decide) rfl Y2))
    try dsimp only
    go_simp}
   refine StepsInv.cons _ rfl (fun d u' W K' hI hd hw hK=> ?_) ?_
   {refine Z03 (v:= .pointer (some ⟨W.heap.size,0,none⟩)) (W':=W.alloc (.cells Yb 25)) rfl ?_ (hK.out _ _ (hI.alloc hd (fun _=>trivial)))
    try dsimp only
    go_simp}
   refine StepsInv.cons _ rfl (fun d u' W K' hI hd hw hK=> ?_) ?_
   {obtain ⟨q,d8,hs⟩:=hI.vals 8 (hw 8 (by kernel_rfl));obtain ⟨b',d10,hb1,hr⟩:=hI.al (hw 10 (by kernel_rfl)) hd;obtain ⟨v0,y0⟩:=hr.ex 0 (by omega);obtain ⟨v1,y1⟩:=hr.ex 1 (by omega);obtain ⟨v2,y2⟩:=hr.ex 2 (by omega);obtain ⟨v3,y3⟩:=hr.ex 3 (by omega);obtain ⟨v4,y4⟩:=hr.ex 4 (by omega);have z0:=hr.fz 0;have z1:=hr.fz 1;have z2:=hr.fz 2;have z3:=hr.fz 3;have z4:=hr.fz 4;refine Z2u (W':=RX.lay W b' p q) rfl ?_ (hK.out _ _ (hI.store (hw 10 (by kernel_rfl)) hd (fun _=>trivial) d10 hs));unfold RX.lay
    try dsimp only
    go_simp}
   refine StepsInv.cons _ rfl (fun d u' W K' hI hd hw hK=> ?_) StepsInv.nil
   {have d9:u' 9= .bool ok:=hI.vals 9 (hw 9 (by kernel_rfl));refine Z03 (v:= .bool ok) (W':=W) rfl ?_ (hK.out _ _ (hI.step (by decide) (by decide) rfl Y2))
    try dsimp only
    go_simp}
   intro dd z' W2 hI hdn
   try dsimp only
   obtain ⟨h10,b',q,z10,hb1,hs,hbx⟩:=hI.st (hdn 11 (by decide));rw[z10,show z' 12= .bool ok from hI.vals 12 (hdn 12 (by decide))];have hb3:=hI.up;clear hI hdn h10 z10 hb1;have HB2:=Y1 hb3;have HBX:=Y1 hbx;have HSP:=Y1 (hs.next hb3);have HY5:=Y1 (HY5.out.keep (Nat.lt_of_lt_of_le HG'.out (by have:=HB.out.size; omega)) hb3);have HYA:=Y1 (HYA.out.next hb3);have HBB:=Y1 (Z00 HB.out hb3);clear hb3 hbx hs a0 a1 a2 a3 a4 b0 b1 b2 b3 b4;obtain ⟨_,⟨b0,b1,b2,b3,b4⟩,_⟩:=HXb.out.next HBB.out;simp only[Nat.zero_add] at b0 b1 b2 b3 b4;rw[HQP.out] at b4;cases ok with
   | false=>
    have HF:Hid (Grd.hold true (f+1) a b=false):=Y1 (Grd.nr_none H2.out.ra H2.out.rb HK.out.1 HK.out.2 hlt (by
     rw[<-HX.out];cases hq:get a x with
     | none=>rfl
     | some v=>have:=HP.out.2; rw[hq] at this; cases this))
    go_wp2_with fail
    go_quiet (fail)
    go_wp2;go_ret;exact ⟨by rw[HF.out]; rfl,Z0D (Z00 HB1.out HBB.out) _⟩
   | true=>
    have HG:Hid (get a x=some p):=Y1 (by
     cases hq:get a x with
     | none=>have:=HP.out.2; rw[hq] at this; cases this
     | some v=>have:=HP.out.1; rw[hq] at this; rw[<-this]; rfl)
    have hdr:Below W2.heap.size W2 W2.drew:=Y2.drew;have HD:=Y1 hdr;have HT:Hid (Two f p y):=Y1 (H2.out.part (Z06 HG.out) (by rw[HY.out]; exact List.getElem_mem hip));have HC:=Y1 (HI.out p y q (qs i) W2.drew HT.out (HSP.out.next hdr) (HYA.out.next hdr));obtain ⟨_,⟨x0,x1,x2,x3,x4⟩,_⟩:=HBX.out;obtain ⟨s0,s1,s2,s3,s4⟩:=HY5.out;simp only[Nat.zero_add] at x0 x1 x2 x3 x4;clear hdr
    go_wp2_with fail
    go_still_tail 9,(by kernel_rfl)
    change wpList _ _ _ _ _ W2.drew
    go_wp2_with fail
    refine HC.out.mono ?_;rintro e W3 ⟨rfl,hb4⟩;have HB3:=Y1 (Z00 HBB.out (Z00 HD.out hb4));clear hb4 HC x0 x1 x2 x3 x4 s0 s1 s2 s3 s4;cases hbw:Grd.hold true f p y with
    | false=>
     have HF:Hid (Grd.hold true (f+1) a b=false):=Y1 (Grd.nr_no H2.out.ra H2.out.rb HK.out.1 HK.out.2 hlt hip (p:=p) (by rw[<-HX.out]; exact HG.out) (by rw[<-HY.out]; exact hbw));go_wp2;go_ret;exact ⟨by rw[HF.out]; rfl,Z00 HB1.out HB3.out⟩
    | true=>
     have HE:Hid (∃p,get a (b.names[i]'hlt)=some p/\Grd.hold true f p (b.parts[i]'hip)=true):=Y1 ⟨p,by rw[<-HX.out]; exact HG.out,by rw[<-HY.out]; exact hbw⟩;go_wp2
     go_roundw
     case rel=>exact ⟨i+1,by go_num,by omega,Y1 (fun j h1 h2 hji=>by
      rcases Nat.lt_succ_iff_lt_or_eq.1 hji with h | rfl
      {exact HN.out j h1 h2 h}
      · exact HE.out),HB3.out⟩
     case measure=>simp[intOf]; omega}
  {have hi1: ¬(i:Int) < (b.names.length:Int):=by omega
   have HF:Hid (Grd.hold true (f+1) a b=true):=Y1 (Grd.nr_yes H2.out.ra H2.out.rb HK.out.1 HK.out.2 (fun j h1 h2=>HN.out j h1 h2 (by omega)));clear hb;go_wp2;go_ret;exact ⟨by rw[HF.out]; rfl,Z00 HB1.out HB.out⟩}
end SubM
end Go.Proofs.YtkhoflciahkphaaGreatDoor
namespace Go.Proofs.YtkhoflciahkphaaGreatDoor
open Go.RowKit Shp Sub
namespace SubM
theorem Zbn {f:Nat} (hI:NearOk f) (a b:Sh) (pa pb:Ptr) (w:World) (h2:Two (f+1) a b) (ha:ShAt w w.heap.size pa a) (hb:ShAt w w.heap.size pb b) (hk:a.kind=b.kind) (ho:a.of_=b.of_) (hn:a.name=b.name) (h6:a.kind=7):
 Y9 32 #[.agg (Y8 a pa),.agg (Y8 b pb)] w (.bool (Grd.hold true (f+1) a b)):=by
 have hx1:=Z01 w (.cells (Y8 a pa) 25);obtain ⟨u1,hu1⟩: ∃u1,w.alloc (.cells (Y8 a pa) 25)=u1:=⟨_,rfl⟩;have hs1:u1.heap.size=w.heap.size+1:=by rw[<-hu1]; simp
 have hy1:=Z02 w a pa;rw[hu1] at hx1 hy1;have hx2:=Z01 u1 (.cells (Y8 b pb) 25);obtain ⟨W1,hu2⟩: ∃u2,u1.alloc (.cells (Y8 b pb) 25)=u2:=⟨_,rfl⟩;have hy2:=Z02 u1 b pb;rw[hu2] at hx2 hy2;rw[hs1] at hy2;have hb12:=Z00 hx1 hx2;have hxa:=hy1.next hx2;have HXa:=Y1 hxa;have HXb:=Y1 hy2;have HAa:=Y1 (ha.next hb12);have HAb:=Y1 (hb.next hb12);have HB1:=Y1 hb12;have H2:=Y1 h2;have HI:=Y1 hI;have HRt:=Y1 (Zaw h2.rb (by rw[<-hk]; right; exact h6));have HRo:=Y1 (Zaw h2.ra (by right; exact h6));have HL:=Y1 (hb.small.l);have HM:=Y1 (hb.small.m);have HL':=Y1 (ha.small.l);have HM':=Y1 (ha.small.m);have HK:=Y1 (And.intro hk h6);obtain ⟨_,⟨a0,a1,a2,a3,a4⟩,_⟩:=hxa;obtain ⟨_,⟨b0,b1,b2,b3,b4⟩,_⟩:=hy2;simp only[Nat.zero_add] at a0 a1 a2 a3 a4 b0 b1 b2 b3 b4;have m4a:=Y3 4 h6 rfl;have m4b: (b.kind==4)=false:=by rw[<-hk,h6]; rfl
 have n1: (a.kind !=b.kind)=false:=by rw[hk]; simp
 have n2: (a.of_ !=b.of_)=false:=by rw[ho]; simp
 have n3: (a.name !=b.name)=false:=by rw[hn]; simp
 have e1: (a.kind==b.kind)=true:=by rw[hk]; simp
 have e2: (a.of_==b.of_)=true:=by rw[ho]; simp
 have e3: (a.name==b.name)=true:=by rw[hn]; simp
 have n6:=Y3 6 h6 rfl;have n7:=Y4 7 h6 rfl;clear hx1 hx2 hy1 hb12 ha hb h2 hI;go_enter Tryz.func32,Tryz.ntmps32;clear hk ho hn h6
 go_wp2_with fail
 clear hs1 hu1 hu2 m4a m4b a0 a1 a2 a3 a4 b0 b1 b2 b3 b4 n1 n2 n3 e1 e2 e3 n6 n7
 go_loopw [8] (fun ii wr=> ∃i:Nat,ii= .int .i64 i/\i<=a.names.length/\Hid (∀j (h1:j < a.names.length) (h2:j < a.parts.length),j < i-> ∃p,get b (a.names[j]'h1)=some p/\Grd.hold true f (a.parts[j]'h2) p=true)/\Below W1.heap.size W1 wr) (fun i _=>a.names.length - (intOf i).toNat)
 case atStart=>exact ⟨0,rfl,Nat.zero_le _,Y1 (fun j _ _ hj=>absurd hj (by omega)),Below.refl _ _⟩
 case round=>
  obtain ⟨i,rfl,hi,HN,hb⟩:=hrel;have hl:=HL.out;have hm:=HM.out;have hl':=HL'.out;have hm':=HM'.out;have HB:=Y1 hb;obtain ⟨_,⟨a0,a1,a2,a3,a4⟩,_⟩:=HXa.out.next hb;obtain ⟨_,⟨b0,b1,b2,b3,b4⟩,_⟩:=HXb.out.next hb;simp only[Nat.zero_add] at a0 a1 a2 a3 a4 b0 b1 b2 b3 b4;by_cases hlt:i < a.names.length
  {have hi1: (i:Int) < (a.names.length:Int):=by omega
   have hip:i < a.parts.length:=by have:=HRo.out.l; omega
   have hi2: (i:Int) < (a.parts.length:Int):=by omega
   rcases (HAa.out.strs.next hb).cell7 with h0 | ⟨g,off,hqA,hg,hc⟩
   {omega}
   have hcx:=hc i hlt;obtain ⟨x,hx⟩: ∃x,x=a.names[i]'hlt:=⟨_,rfl⟩;rw[<-hx] at hcx;have HX:=Y1 hx;rcases HAa.out.part with h0 | ⟨g',off',qs,hqP,hg',hc',hra⟩
   {omega}
   obtain ⟨y,hy⟩: ∃y,y=a.parts[i]'hip:=⟨_,rfl⟩;have hY5:=(hc' i hip).keep hg' hb;have hYA:=(hra i hip).next hb;have hpe:a.parts[i]'hip=y:=hy.symm;rw[hpe] at hY5 hYA;have HY:=Y1 hy;have HY5:=Y1 hY5;have HYA:=Y1 hYA;have HG':=Y1 hg';rw[hqA] at a3;rw[hqP] at a4;have HCX:=Y1 hcx;have HQA:=Y1 hqA;have HQP:=Y1 hqP;have HAt:=Y1 (HAb.out.next hb);have HGX:=Y1 hg;obtain ⟨p,hp⟩: ∃p,(get b x).getD Z0p=p:=⟨_,rfl⟩;obtain ⟨ok,hok⟩: ∃ok,(get b x).isSome=ok:=⟨_,rfl⟩;have HP:=Y1 (And.intro hp hok);clear hp hok hpe hY5 hYA hy hra hc' hc hx hg hg' hcx hb hqA hqP
   go_wp2_with fail
   refine Zaq (rs:= [0,1,2,3,4,5,6,7,8,9,10,11,12])
    (fun u'=> { tmps:=#[.agg (Y8 a pa),.agg (Y8 b pb),.pointer (some { block:=w.heap.size,off:=0 }),.pointer (some { block:=w.heap.size+1,off:=0 }),u4,undef,undef,undef,.int .i64 ↑i,u' 10,u' 12,undef,undef,.pointer (some { block:=w.heap.size,off:=0 }),.int .i64 a.kind,.bool false,.bool false,.pointer (some { block:=w.heap.size+1,off:=0 }),.int .i64 b.kind,.bool false,.bool false,.pointer (some { block:=w.heap.size,off:=0 }),.int .i64 a.kind,.pointer (some { block:=w.heap.size+1,off:=0 }),.int .i64 b.kind,.bool false,.bool false,.pointer (some { block:=w.heap.size,off:=1 }),.string { data:=a.of_.toArray },.pointer (some { block:=w.heap.size+1,off:=1 }),.string { data:=b.of_.toArray },.bool false,.bool false,.bool false,.pointer (some { block:=w.heap.size,off:=2 }),.string { data:=a.name.toArray },.pointer (some { block:=w.heap.size+1,off:=2 }),.string { data:=b.name.toArray },.bool false,.bool false,.pointer (some { block:=w.heap.size,off:=0 }),.int .i64 a.kind,.bool false,.bool false,undef,undef,undef,undef,undef,undef,undef,undef,undef,undef,undef,undef,undef,undef,undef,undef,undef,undef,undef,undef,undef,undef,undef,undef,undef,undef,undef,undef,undef,.bool true,.bool true,.int .i64 ↑i,.pointer (some { block:=w.heap.size,off:=3 }),.slice (some { block:=g,off:=off }) a.names.length pa.c,.int .i64 ↑a.names.length,.bool true,u80,u81,u' 7,u' 0,u' 1,u' 2,u' 3,u' 4,u' 5,u' 6,u' 8,u' 9,u92,u93,u94,u95,u96,u97,u98,u99,u100,u101,u102,u103,undef,undef,undef,undef,undef,undef,undef,undef,undef,undef,undef,undef,undef,undef,undef,undef,undef,undef,undef,undef,undef,undef,undef,undef,undef,undef,undef,undef,undef,undef,undef,undef,undef,undef,undef,undef,undef,undef,undef,undef,undef,undef,undef,undef,undef,undef,undef,undef,undef,undef,undef,undef,undef,undef],defers:= [] })
    (fun j=>([u83,u84,u85,u86,u87,u88,u89,u82,u90,u91,u9,undef,u10]:List Value).getD j undef) (TakeI wr (gtakeT (.agg (Y8 b pb)) (.pointer (some ⟨w.heap.size,3,none⟩)) (.slice (some ⟨g,off,none⟩) a.names.length pa.c) (.int .i64 (i:Int)) (.pointer (some ⟨g,off+i,none⟩)) (.string ⟨x.toArray⟩) wr p ok) p) (by kernel_rfl) (by kernel_rfl) (by kernel_rfl) TakeI.start ?_ ?_
   refine StepsInv.cons _ rfl (fun d u' W K' hI hd hw hK=> ?_) ?_
   {obtain ⟨_,⟨y0,y1,y2,y3,y4⟩,_⟩:=HXb.out.next (Z00 HB.out hI.up);simp only[Nat.zero_add] at y0 y1 y2 y3 y4;refine Z03 (v:=(.agg (Y8 b pb))) (W':=W) rfl ?_ (hK.out _ _ (hI.step (by decide) (by decide) rfl Y2))
    try dsimp only
    go_simp}
   refine StepsInv.cons _ rfl (fun d u' W K' hI hd hw hK=> ?_) ?_
   {refine Z03 (v:=(.pointer (some ⟨w.heap.size,3,none⟩))) (W':=W) rfl ?_ (hK.out _ _ (hI.step (by decide) (by decide) rfl Y2))
    try dsimp only
    go_simp}
   refine StepsInv.cons _ rfl (fun d u' W K' hI hd hw hK=> ?_) ?_
   {have d1:u' 1=(.pointer (some ⟨w.heap.size,3,none⟩)):=hI.vals 1 (hw 1 (by kernel_rfl));obtain ⟨_,⟨y0,y1,y2,y3,y4⟩,_⟩:=HXa.out.next (Z00 HB.out hI.up);simp only[Nat.zero_add] at y0 y1 y2 y3 y4;rw[HQA.out] at y3;refine Z03 (v:=(.slice (some ⟨g,off,none⟩) a.names.length pa.c)) (W':=W) rfl ?_ (hK.out _ _ (hI.step (by decide) (by decide) rfl Y2))
    try dsimp only
    go_simp}
   refine StepsInv.cons _ rfl (fun d u' W K' hI hd hw hK=> ?_) ?_
   {refine Z03 (v:=(.int .i64 (i:Int))) (W':=W) rfl ?_ (hK.out _ _ (hI.step (by decide) (by decide) rfl Y2))
    try dsimp only
    go_simp}
   refine StepsInv.cons _ rfl (fun d u' W K' hI hd hw hK=> ?_) ?_
   {have d2:u' 2=(.slice (some ⟨g,off,none⟩) a.names.length pa.c):=hI.vals 2 (hw 2 (by kernel_rfl));have d3:u' 3=(.int .i64 (i:Int)):=hI.vals 3 (hw 3 (by kernel_rfl));refine Z03 (v:=(.pointer (some ⟨g,off+i,none⟩))) (W':=W) rfl ?_ (hK.out _ _ (hI.step (by decide) (by decide) rfl Y2))
    try dsimp only
    go_simp}
   refine StepsInv.cons _ rfl (fun d u' W K' hI hd hw hK=> ?_) ?_
   {have d4:u' 4=(.pointer (some ⟨g,off+i,none⟩)):=hI.vals 4 (hw 4 (by kernel_rfl));have hcx:=(hI.up.cell (p:=⟨g,off+i,none⟩) HGX.out).trans HCX.out;refine Z03 (v:=(.string ⟨x.toArray⟩)) (W':=W) rfl ?_ (hK.out _ _ (hI.step (by decide) (by decide) rfl Y2))
    try dsimp only
    go_simp}
   refine StepsInv.cons _ rfl (fun d u' W K' hI hd hw hK=> ?_) ?_
   {have d0:u' 0=(.agg (Y8 b pb)):=hI.vals 0 (hw 0 (by kernel_rfl));have d5:u' 5=(.string ⟨x.toArray⟩):=hI.vals 5 (hw 5 (by kernel_rfl));refine Z0j (f:=53) (args:=#[(.agg (Y8 b pb)),(.string ⟨x.toArray⟩)]) (W':=W) rfl ?_ ((ZaP HAt.out HRt.out HP.out.1 HP.out.2 hI.up).mono fun e w' ⟨q,he,hs,hb⟩=>⟨_,he,hK.out _ _ (hI.step (by decide) (by decide) ⟨q,rfl,hs⟩ hb)⟩)
    try dsimp only
    go_simp}
   refine StepsInv.cons _ rfl (fun d u' W K' hI hd hw hK=> ?_) ?_
   {obtain ⟨q,d6,hs⟩:=hI.vals 6 (hw 6 (by kernel_rfl));refine Z03 (v:= .tuple #[.agg (Y8 p q),.bool ok]) (W':=W) rfl ?_ (hK.out _ _ (hI.step (by decide) (by decide) ⟨q,rfl,hs⟩ Y2))
    try dsimp only
    go_simp}
   refine StepsInv.cons _ rfl (fun d u' W K' hI hd hw hK=> ?_) ?_
   {obtain ⟨q,d7,hs⟩:=hI.vals 7 (hw 7 (by kernel_rfl));refine Z03 (v:= .agg (Y8 p q)) (W':=W) rfl ?_ (hK.out _ _ (hI.step (by decide) (by decide) ⟨q,rfl,hs⟩ Y2))
    try dsimp only
    go_simp}
   refine StepsInv.cons _ rfl (fun d u' W K' hI hd hw hK=> ?_) ?_
   {obtain ⟨q,d7,hs⟩:=hI.vals 7 (hw 7 (by kernel_rfl));refine Z03 (v:= .bool ok) (W':=W) rfl ?_ (hK.out _ _ (hI.step (by decide) (by decide) rfl Y2))
    try dsimp only
    go_simp}
   refine StepsInv.cons _ rfl (fun d u' W K' hI hd hw hK=> ?_) ?_
   {refine Z03 (v:= .pointer (some ⟨W.heap.size,0,none⟩)) (W':=W.alloc (.cells Yb 25)) rfl ?_ (hK.out _ _ (hI.alloc hd (fun _=>trivial)))
    try dsimp only
    go_simp}
   refine StepsInv.cons _ rfl (fun d u' W K' hI hd hw hK=> ?_) ?_
   {obtain ⟨q,d8,hs⟩:=hI.vals 8 (hw 8 (by kernel_rfl));obtain ⟨b',d10,hb1,hr⟩:=hI.al (hw 10 (by kernel_rfl)) hd;obtain ⟨v0,y0⟩:=hr.ex 0 (by omega);obtain ⟨v1,y1⟩:=hr.ex 1 (by omega);obtain ⟨v2,y2⟩:=hr.ex 2 (by omega);obtain ⟨v3,y3⟩:=hr.ex 3 (by omega);obtain ⟨v4,y4⟩:=hr.ex 4 (by omega);have z0:=hr.fz 0;have z1:=hr.fz 1;have z2:=hr.fz 2;have z3:=hr.fz 3;have z4:=hr.fz 4;refine Z2u (W':=RX.lay W b' p q) rfl ?_ (hK.out _ _ (hI.store (hw 10 (by kernel_rfl)) hd (fun _=>trivial) d10 hs));unfold RX.lay
    try dsimp only
    go_simp}
   refine StepsInv.cons _ rfl (fun d u' W K' hI hd hw hK=> ?_) StepsInv.nil
   {have d9:u' 9= .bool ok:=hI.vals 9 (hw 9 (by kernel_rfl));refine Z03 (v:= .bool ok) (W':=W) rfl ?_ (hK.out _ _ (hI.step (by decide) (by decide) rfl Y2))
    try dsimp only
    go_simp}
   intro dd z' W2 hI hdn
   try dsimp only
   obtain ⟨h10,b',q,z10,hb1,hs,hbx⟩:=hI.st (hdn 11 (by decide));rw[z10,show z' 12= .bool ok from hI.vals 12 (hdn 12 (by decide))];have hb3:=hI.up;clear hI hdn h10 z10 hb1;have HB2:=Y1 hb3;have HBX:=Y1 hbx;have HSP:=Y1 (hs.next hb3);have HY5:=Y1 (HY5.out.keep (Nat.lt_of_lt_of_le HG'.out (by have:=HB.out.size; omega)) hb3);have HYA:=Y1 (HYA.out.next hb3);have HBB:=Y1 (Z00 HB.out hb3);clear hb3 hbx hs a0 a1 a2 a3 a4 b0 b1 b2 b3 b4;obtain ⟨_,⟨a0,a1,a2,a3,a4⟩,_⟩:=HXa.out.next HBB.out;simp only[Nat.zero_add] at a0 a1 a2 a3 a4;rw[HQP.out] at a4;cases ok with
   | false=>
    have HF:Hid (Grd.hold true (f+1) a b=false):=Y1 (Grd.nv_none H2.out.ra H2.out.rb HK.out.1 HK.out.2 hlt (by
     rw[<-HX.out];cases hq:get b x with
     | none=>rfl
     | some v=>have:=HP.out.2; rw[hq] at this; cases this))
    go_wp2_with fail
    go_quiet (fail)
    go_wp2;go_ret;exact ⟨by rw[HF.out]; rfl,Z0D (Z00 HB1.out HBB.out) _⟩
   | true=>
    have HG:Hid (get b x=some p):=Y1 (by
     cases hq:get b x with
     | none=>have:=HP.out.2; rw[hq] at this; cases this
     | some v=>have:=HP.out.1; rw[hq] at this; rw[<-this]; rfl)
    have hdr:Below W2.heap.size W2 W2.drew:=Y2.drew;have HD:=Y1 hdr;have HT:Hid (Two f y p):=Y1 (H2.out.part (by rw[HY.out]; exact List.getElem_mem hip) (Z06 HG.out));have HC:=Y1 (HI.out y p (qs i) q W2.drew HT.out (HYA.out.next hdr) (HSP.out.next hdr));obtain ⟨_,⟨x0,x1,x2,x3,x4⟩,_⟩:=HBX.out;obtain ⟨s0,s1,s2,s3,s4⟩:=HY5.out;simp only[Nat.zero_add] at x0 x1 x2 x3 x4;clear hdr
    go_wp2_with fail
    go_still_tail 9,(by kernel_rfl)
    change wpList _ _ _ _ _ W2.drew
    go_wp2_with fail
    refine HC.out.mono ?_;rintro e W3 ⟨rfl,hb4⟩;have HB3:=Y1 (Z00 HBB.out (Z00 HD.out hb4));clear hb4 HC x0 x1 x2 x3 x4 s0 s1 s2 s3 s4;cases hbw:Grd.hold true f y p with
    | false=>
     have HF:Hid (Grd.hold true (f+1) a b=false):=Y1 (Grd.nv_no H2.out.ra H2.out.rb HK.out.1 HK.out.2 hlt hip (p:=p) (by rw[<-HX.out]; exact HG.out) (by rw[<-HY.out]; exact hbw));go_wp2;go_ret;exact ⟨by rw[HF.out]; rfl,Z00 HB1.out HB3.out⟩
    | true=>
     have HE:Hid (∃p,get b (a.names[i]'hlt)=some p/\Grd.hold true f (a.parts[i]'hip) p=true):=Y1 ⟨p,by rw[<-HX.out]; exact HG.out,by rw[<-HY.out]; exact hbw⟩;go_wp2
     go_roundw
     case rel=>exact ⟨i+1,by go_num,by omega,Y1 (fun j h1 h2 hji=>by
      rcases Nat.lt_succ_iff_lt_or_eq.1 hji with h | rfl
      {exact HN.out j h1 h2 h}
      · exact HE.out),HB3.out⟩
     case measure=>simp[intOf]; omega}
  {have hi1: ¬(i:Int) < (a.names.length:Int):=by omega
   have HF:Hid (Grd.hold true (f+1) a b=true):=Y1 (Grd.nv_yes H2.out.ra H2.out.rb HK.out.1 HK.out.2 (fun j h1 h2=>HN.out j h1 h2 (by omega)));clear hb;go_wp2;go_ret;exact ⟨by rw[HF.out]; rfl,Z00 HB1.out HB.out⟩}
end SubM
end Go.Proofs.YtkhoflciahkphaaGreatDoor
namespace Go.Proofs.YtkhoflciahkphaaGreatDoor
open Go.RowKit Shp Sub
namespace SubM
section
variable {f : Nat} (a b : Sh) (pa pb : Ptr) (w : World) (h2 : Two (f + 1) a b) (ha : ShAt w w.heap.size pa a) (hb : ShAt w w.heap.size pb b)
include f a b pa pb w h2 ha hb
theorem Zbo (h4:a.kind=4\/b.kind=4):
 Y9 32 #[.agg (Y8 a pa),.agg (Y8 b pb)] w (.bool (Grd.hold true (f+1) a b)):=by
 have hx1:=Z01 w (.cells (Y8 a pa) 25);obtain ⟨u1,hu1⟩: ∃u1,w.alloc (.cells (Y8 a pa) 25)=u1:=⟨_,rfl⟩;have hs1:u1.heap.size=w.heap.size+1:=by rw[<-hu1]; simp
 have hy1:=Z02 w a pa;rw[hu1] at hx1 hy1;have hx2:=Z01 u1 (.cells (Y8 b pb) 25);obtain ⟨W1,hu2⟩: ∃u2,u1.alloc (.cells (Y8 b pb) 25)=u2:=⟨_,rfl⟩;have hy2:=Z02 u1 b pb;rw[hu2] at hx2 hy2;rw[hs1] at hy2;have hb12:=Z00 hx1 hx2;have hxa:=hy1.next hx2;have HXa:=Y1 hxa;have HXb:=Y1 hy2;have HAa:=Y1 (ha.next hb12);have HAb:=Y1 (hb.next hb12);have HB1:=Y1 hb12;have H2:=Y1 h2;have HL:=Y1 (hb.small.l);have HM:=Y1 (hb.small.m);have HL':=Y1 (ha.small.l);have HM':=Y1 (ha.small.m);have hm1:=hb.small.m;have hm2:=ha.small.m;obtain ⟨_,⟨a0,a1,a2,a3,a4⟩,_⟩:=hxa;obtain ⟨_,⟨b0,b1,b2,b3,b4⟩,_⟩:=hy2;simp only[Nat.zero_add] at a0 a1 a2 a3 a4 b0 b1 b2 b3 b4;rw[Grd.nd_any h4];clear hx1 hx2 hy1 hb12 ha hb h2;by_cases e:a.kind=4
 {have m4a: (a.kind==4)=true:=by rw[e]; rfl
  clear h4 e;go_enter Tryz.func32,Tryz.ntmps32;go_wp2;go_ret;exact ⟨rfl,HB1.out⟩}
 {have m4a: (a.kind==4)=false:=by simpa using e
  have m4b: (b.kind==4)=true:=by rw[h4.resolve_left e]; rfl
  clear h4 e;go_enter Tryz.func32,Tryz.ntmps32;go_wp2;go_ret;exact ⟨rfl,HB1.out⟩}
theorem Zbb (h4: ¬(a.kind=4\/b.kind=4)) (hd: ¬(a.kind=b.kind/\a.of_=b.of_/\a.name=b.name)):
 Y9 32 #[.agg (Y8 a pa),.agg (Y8 b pb)] w (.bool (Grd.hold true (f+1) a b)):=by
 have hx1:=Z01 w (.cells (Y8 a pa) 25);obtain ⟨u1,hu1⟩: ∃u1,w.alloc (.cells (Y8 a pa) 25)=u1:=⟨_,rfl⟩;have hs1:u1.heap.size=w.heap.size+1:=by rw[<-hu1]; simp
 have hy1:=Z02 w a pa;rw[hu1] at hx1 hy1;have hx2:=Z01 u1 (.cells (Y8 b pb) 25);obtain ⟨W1,hu2⟩: ∃u2,u1.alloc (.cells (Y8 b pb) 25)=u2:=⟨_,rfl⟩;have hy2:=Z02 u1 b pb;rw[hu2] at hx2 hy2;rw[hs1] at hy2;have hb12:=Z00 hx1 hx2;have hxa:=hy1.next hx2;have HXa:=Y1 hxa;have HXb:=Y1 hy2;have HAa:=Y1 (ha.next hb12);have HAb:=Y1 (hb.next hb12);have HB1:=Y1 hb12;have H2:=Y1 h2;have HL:=Y1 (hb.small.l);have HM:=Y1 (hb.small.m);have HL':=Y1 (ha.small.l);have HM':=Y1 (ha.small.m);have hm1:=hb.small.m;have hm2:=ha.small.m;obtain ⟨_,⟨a0,a1,a2,a3,a4⟩,_⟩:=hxa;obtain ⟨_,⟨b0,b1,b2,b3,b4⟩,_⟩:=hy2;simp only[Nat.zero_add] at a0 a1 a2 a3 a4 b0 b1 b2 b3 b4;rw[Grd.nd_head h2.ra h2.rb h4 hd];have m4a: (a.kind==4)=false:=by simpa using fun h=>h4 (Or.inl h)
 have m4b: (b.kind==4)=false:=by simpa using fun h=>h4 (Or.inr h)
 clear h4;by_cases h1:a.kind=b.kind
 {have n1: (a.kind !=b.kind)=false:=by rw[h1]; simp
  have e1: (a.kind==b.kind)=true:=by rw[h1]; simp
  by_cases h3:a.of_=b.of_
  {have n2: (a.of_ !=b.of_)=false:=by rw[h3]; simp
   have e2: (a.of_==b.of_)=true:=by rw[h3]; simp
   have h4:a.name≠b.name:=fun h4=>hd ⟨h1,h3,h4⟩;have e3: (a.name==b.name)=false:=by simpa using h4
   have n3: (a.name !=b.name)=true:=by unfold bne; rw[e3]; rfl
   clear hx1 hx2 hy1 hb12 ha hb h2 hd h1 h3 h4;go_enter Tryz.func32,Tryz.ntmps32;go_wp2;go_ret;exact ⟨rfl,HB1.out⟩}
  {have e2: (a.of_==b.of_)=false:=by simpa using h3
   have n2: (a.of_ !=b.of_)=true:=by unfold bne; rw[e2]; rfl
   clear hx1 hx2 hy1 hb12 ha hb h2 hd h1 h3;go_enter Tryz.func32,Tryz.ntmps32;go_wp2;go_ret;exact ⟨rfl,HB1.out⟩}}
 {have e1: (a.kind==b.kind)=false:=by simpa using h1
  have n1: (a.kind !=b.kind)=true:=by unfold bne; rw[e1]; rfl
  clear hx1 hx2 hy1 hb12 ha hb h2 hd h1;go_enter Tryz.func32,Tryz.ntmps32;go_wp2;go_ret;exact ⟨rfl,HB1.out⟩}
theorem Zbc (hk:a.kind=b.kind) (ho:a.of_=b.of_) (hn:a.name=b.name) (h4:a.kind≠4) (h5:a.kind≠5) (h6: ¬(a.kind=6\/a.kind=7)) (h8:a.kind≠8):
 Y9 32 #[.agg (Y8 a pa),.agg (Y8 b pb)] w (.bool (Grd.hold true (f+1) a b)):=by
 have hx1:=Z01 w (.cells (Y8 a pa) 25);obtain ⟨u1,hu1⟩: ∃u1,w.alloc (.cells (Y8 a pa) 25)=u1:=⟨_,rfl⟩;have hs1:u1.heap.size=w.heap.size+1:=by rw[<-hu1]; simp
 have hy1:=Z02 w a pa;rw[hu1] at hx1 hy1;have hx2:=Z01 u1 (.cells (Y8 b pb) 25);obtain ⟨W1,hu2⟩: ∃u2,u1.alloc (.cells (Y8 b pb) 25)=u2:=⟨_,rfl⟩;have hy2:=Z02 u1 b pb;rw[hu2] at hx2 hy2;rw[hs1] at hy2;have hb12:=Z00 hx1 hx2;have hxa:=hy1.next hx2;have HXa:=Y1 hxa;have HXb:=Y1 hy2;have HAa:=Y1 (ha.next hb12);have HAb:=Y1 (hb.next hb12);have HB1:=Y1 hb12;have H2:=Y1 h2;have HL:=Y1 (hb.small.l);have HM:=Y1 (hb.small.m);have HL':=Y1 (ha.small.l);have HM':=Y1 (ha.small.m);have hm1:=hb.small.m;have hm2:=ha.small.m;obtain ⟨_,⟨a0,a1,a2,a3,a4⟩,_⟩:=hxa;obtain ⟨_,⟨b0,b1,b2,b3,b4⟩,_⟩:=hy2;simp only[Nat.zero_add] at a0 a1 a2 a3 a4 b0 b1 b2 b3 b4;rw[Grd.np_leaf h2.ra h2.rb hk ho hn h5 h6 h8];have m4a: (a.kind==4)=false:=by simpa using h4
 have m4b: (b.kind==4)=false:=by rw[<-hk]; simpa using h4
 have n1: (a.kind !=b.kind)=false:=by rw[hk]; simp
 have n2: (a.of_ !=b.of_)=false:=by rw[ho]; simp
 have n3: (a.name !=b.name)=false:=by rw[hn]; simp
 have e1: (a.kind==b.kind)=true:=by rw[hk]; simp
 have e2: (a.of_==b.of_)=true:=by rw[ho]; simp
 have e3: (a.name==b.name)=true:=by rw[hn]; simp
 have k5: (a.kind==5)=false:=by simpa using h5
 have k6: (a.kind==6)=false:=by simpa using fun h=>h6 (Or.inl h)
 have k7: (a.kind==7)=false:=by simpa using fun h=>h6 (Or.inr h)
 have k8: (a.kind==8)=false:=by simpa using h8
 clear hx1 hx2 hy1 hb12 ha hb h2 hk ho hn h4 h5 h6 h8;go_enter Tryz.func32,Tryz.ntmps32;go_wp2;go_ret;exact ⟨rfl,HB1.out⟩
end
section
variable {f : Nat} (hI : NearOk f) (a b : Sh) (pa pb : Ptr) (w : World) (h2 : Two (f + 1) a b) (ha : ShAt w w.heap.size pa a) (hb : ShAt w w.heap.size pb b) (hk : a.kind = b.kind) (ho : a.of_ = b.of_) (hn : a.name = b.name)
include f hI a b pa pb w h2 ha hb hk ho hn
theorem Zbd (h5:a.kind=5):
 Y9 32 #[.agg (Y8 a pa),.agg (Y8 b pb)] w (.bool (Grd.hold true (f+1) a b)):=by
 have hx1:=Z01 w (.cells (Y8 a pa) 25);obtain ⟨u1,hu1⟩: ∃u1,w.alloc (.cells (Y8 a pa) 25)=u1:=⟨_,rfl⟩;have hs1:u1.heap.size=w.heap.size+1:=by rw[<-hu1]; simp
 have hy1:=Z02 w a pa;rw[hu1] at hx1 hy1;have hx2:=Z01 u1 (.cells (Y8 b pb) 25);obtain ⟨W1,hu2⟩: ∃u2,u1.alloc (.cells (Y8 b pb) 25)=u2:=⟨_,rfl⟩;have hy2:=Z02 u1 b pb;rw[hu2] at hx2 hy2;rw[hs1] at hy2;have hb12:=Z00 hx1 hx2;have hxa:=hy1.next hx2;have HXa:=Y1 hxa;have HXb:=Y1 hy2;have HAa:=Y1 (ha.next hb12);have HAb:=Y1 (hb.next hb12);have HB1:=Y1 hb12;have H2:=Y1 h2;have HL:=Y1 (hb.small.l);have HM:=Y1 (hb.small.m);have HL':=Y1 (ha.small.l);have HM':=Y1 (ha.small.m);have hm1:=hb.small.m;have hm2:=ha.small.m;obtain ⟨_,⟨a0,a1,a2,a3,a4⟩,_⟩:=hxa;obtain ⟨_,⟨b0,b1,b2,b3,b4⟩,_⟩:=hy2;simp only[Nat.zero_add] at a0 a1 a2 a3 a4 b0 b1 b2 b3 b4;have h4:a.kind≠4:=by omega
 have la:=Grd.list_one h2.ra h5;have lb:=Grd.list_one h2.rb (by rw[<-hk]; exact h5);have ia:0 < a.parts.length:=by omega
 have ib:0 < b.parts.length:=by omega
 have ia': (0:Int) < (a.parts.length:Int):=by omega
 have ib': (0:Int) < (b.parts.length:Int):=by omega
 rw[Grd.np_list h2.ra h2.rb hk ho hn h5 ia ib];have m4a: (a.kind==4)=false:=by simpa using h4
 have m4b: (b.kind==4)=false:=by rw[<-hk]; simpa using h4
 have n1: (a.kind !=b.kind)=false:=by rw[hk]; simp
 have n2: (a.of_ !=b.of_)=false:=by rw[ho]; simp
 have n3: (a.name !=b.name)=false:=by rw[hn]; simp
 have e1: (a.kind==b.kind)=true:=by rw[hk]; simp
 have e2: (a.of_==b.of_)=true:=by rw[ho]; simp
 have e3: (a.name==b.name)=true:=by rw[hn]; simp
 have k5:=Y4 5 h5 rfl;have k6:=Y3 6 h5 rfl;have k7:=Y3 7 h5 rfl;have k8:=Y3 8 h5 rfl;have hT:Two f (a.parts[0]'ia) (b.parts[0]'ib):=h2.part (List.getElem_mem ia) (List.getElem_mem ib);rcases HAa.out.part with h0 | ⟨g,off,qs,hqP,hg,hc,hra⟩
 {omega}
 rcases HAb.out.part with h0 | ⟨g',off',qs',hqP',hg',hc',hra'⟩
 {omega}
 have hX5:=hc 0 ia;have hXA:=hra 0 ia;have hY5:=hc' 0 ib;have hYA:=hra' 0 ib;obtain ⟨x,hx⟩: ∃x,x=a.parts[0]'ia:=⟨_,rfl⟩;obtain ⟨y,hy⟩: ∃y,y=b.parts[0]'ib:=⟨_,rfl⟩;rw[<-hx] at hX5 hXA hT ⊢;rw[<-hy] at hY5 hYA hT ⊢;obtain ⟨qx,hqx⟩: ∃z,z=qs 0:=⟨_,rfl⟩;obtain ⟨qy,hqy⟩: ∃z,z=qs' 0:=⟨_,rfl⟩;rw[<-hqx] at hX5 hXA;rw[<-hqy] at hY5 hYA;have hdr:Below W1.heap.size W1 W1.drew:=Y2.drew;have HD:=Y1 hdr;have HC:=Y1 (hI x y qx qy W1.drew hT (hXA.next hdr) (hYA.next hdr));obtain ⟨x0,x1,x2,x3,x4⟩:=hX5;obtain ⟨y0,y1,y2,y3,y4⟩:=hY5;simp only[Nat.zero_mul,Nat.add_zero] at x0 x1 x2 x3 x4 y0 y1 y2 y3 y4;have PA:=Y1 hqP;have PB:=Y1 hqP';clear hx1 hx2 hy1 hb12 ha hb h2 hk ho hn h4 h5 la lb hx hy hqx hqy hdr hc hra hc' hra' hg hg' hXA hYA hT hI hqP hqP';go_enter Tryz.func32,Tryz.ntmps32
 go_wp2_with fail
 rw[PA.out] at a4;rw[PB.out] at b4
 go_still_tail 8,(by kernel_rfl)
 change wpList _ _ _ _ _ W1.drew
 go_wp2_with fail
 refine HC.out.mono ?_;rintro e W3 ⟨rfl,hb4⟩;have HB3:=Y1 (Z00 HB1.out (Z00 HD.out hb4));clear hb4 HC x0 x1 x2 x3 x4 y0 y1 y2 y3 y4;go_wp2;go_ret;exact ⟨rfl,HB3.out⟩
theorem Zbp (h8:a.kind=8):
 Y9 32 #[.agg (Y8 a pa),.agg (Y8 b pb)] w (.bool (Grd.hold true (f+1) a b)):=by
 have hx1:=Z01 w (.cells (Y8 a pa) 25);obtain ⟨u1,hu1⟩: ∃u1,w.alloc (.cells (Y8 a pa) 25)=u1:=⟨_,rfl⟩;have hs1:u1.heap.size=w.heap.size+1:=by rw[<-hu1]; simp
 have hy1:=Z02 w a pa;rw[hu1] at hx1 hy1;have hx2:=Z01 u1 (.cells (Y8 b pb) 25);obtain ⟨W1,hu2⟩: ∃u2,u1.alloc (.cells (Y8 b pb) 25)=u2:=⟨_,rfl⟩;have hy2:=Z02 u1 b pb;rw[hu2] at hx2 hy2;rw[hs1] at hy2;have hb12:=Z00 hx1 hx2;have hxa:=hy1.next hx2;have HXa:=Y1 hxa;have HXb:=Y1 hy2;have HAa:=Y1 (ha.next hb12);have HAb:=Y1 (hb.next hb12);have HB1:=Y1 hb12;have H2:=Y1 h2;have HL:=Y1 (hb.small.l);have HM:=Y1 (hb.small.m);have HL':=Y1 (ha.small.l);have HM':=Y1 (ha.small.m);have hm1:=hb.small.m;have hm2:=ha.small.m;obtain ⟨_,⟨a0,a1,a2,a3,a4⟩,_⟩:=hxa;obtain ⟨_,⟨b0,b1,b2,b3,b4⟩,_⟩:=hy2;simp only[Nat.zero_add] at a0 a1 a2 a3 a4 b0 b1 b2 b3 b4;have h4:a.kind≠4:=by omega
 have h6: ¬(a.kind=6\/a.kind=7):=by omega
 have la:=Grd.fun_one h2.ra h8;obtain ⟨k,hkl⟩: ∃k,a.parts.length=k+1:=⟨a.parts.length - 1,by omega⟩;have h44: ¬(a.kind=4\/b.kind=4):=by omega
 have m4a: (a.kind==4)=false:=by simpa using h4
 have m4b: (b.kind==4)=false:=by rw[<-hk]; simpa using h4
 have n1: (a.kind !=b.kind)=false:=by rw[hk]; simp
 have n2: (a.of_ !=b.of_)=false:=by rw[ho]; simp
 have n3: (a.name !=b.name)=false:=by rw[hn]; simp
 have e1: (a.kind==b.kind)=true:=by rw[hk]; simp
 have e2: (a.of_==b.of_)=true:=by rw[ho]; simp
 have e3: (a.name==b.name)=true:=by rw[hn]; simp
 have k6:=Y3 6 h8 rfl;have k7:=Y3 7 h8 rfl;have k8:=Y4 8 h8 rfl;have hsub: (a.parts.length:Int) - 1=(k:Int):=by omega
 have kw:IntKind.i64.wrap (k:Int)=(k:Int):=IntWalk.i64_in _ (by omega);have kw1:IntKind.i64.wrap ((k:Int)+1)=(k:Int)+1:=IntWalk.i64_in _ (by omega);have HI:=Y1 hI;have HK:=Y1 (And.intro h44 (And.intro hk (And.intro ho (And.intro hn h6))));have HKL:=Y1 hkl;by_cases hpl:a.parts.length=b.parts.length
 {have HPL:=Y1 hpl;have n5: ((b.parts.length:Int) !=(k:Int)+1)=false:=by simp; omega
  have ia:k < a.parts.length:=by omega
  have ib:k < b.parts.length:=by omega
  have ia': (k:Int) < (a.parts.length:Int):=by omega
  have ib': (k:Int) < (b.parts.length:Int):=by omega
  have hT:Two f (a.parts[k]'ia) (b.parts[k]'ib):=h2.part (List.getElem_mem ia) (List.getElem_mem ib);rcases HAa.out.part with h0 | ⟨g,off,qs,hqP,hg,hc,hra⟩
  {omega}
  rcases HAb.out.part with h0 | ⟨g',off',qs',hqP',hg',hc',hra'⟩
  {omega}
  have hX5:=hc k ia;have hXA:=hra k ia;have hY5:=hc' k ib;have hYA:=hra' k ib;obtain ⟨x,hx⟩: ∃x,x=a.parts[k]'ia:=⟨_,rfl⟩;obtain ⟨y,hy⟩: ∃y,y=b.parts[k]'ib:=⟨_,rfl⟩;rw[<-hx] at hX5 hXA hT;rw[<-hy] at hY5 hYA hT;obtain ⟨qx,hqx⟩: ∃z,z=qs k:=⟨_,rfl⟩;obtain ⟨qy,hqy⟩: ∃z,z=qs' k:=⟨_,rfl⟩;rw[<-hqx] at hX5 hXA;rw[<-hqy] at hY5 hYA;have hdr:Below W1.heap.size W1 W1.drew:=Y2.drew;have HD:=Y1 hdr;have HC:=Y1 (hI x y qx qy W1.drew hT (hXA.next hdr) (hYA.next hdr));obtain ⟨x0,x1,x2,x3,x4⟩:=hX5;obtain ⟨y0,y1,y2,y3,y4⟩:=hY5;have PA:=Y1 hqP;have PB:=Y1 hqP';have HX:=Y1 hx;have HY:=Y1 hy;have HIA:=Y1 ia;have HIB:=Y1 ib;clear hx1 hx2 hy1 hb12 ha hb h2 hk ho hn h4 h44 h6 h8 la hx hy hqx hqy hdr hc hra hc' hra' hg hg' hXA hYA hT hI hpl hkl hqP hqP';go_enter Tryz.func32,Tryz.ntmps32
  go_wp2_with fail
  rw[PA.out] at a4;rw[PB.out] at b4
  go_still_tail 17,(by kernel_rfl)
  change wpList _ _ _ _ _ W1.drew
  go_wp2_with fail
  refine HC.out.mono ?_;rintro e W3 ⟨rfl,hb4⟩;have HB3:=Y1 (Z00 HD.out hb4);clear hb4 HC x0 x1 x2 x3 x4 y0 y1 y2 y3 y4 a0 a1 a2 a3 a4 b0 b1 b2 b3 b4 hu1 hu2 hs1;cases hbw:Grd.hold true f x y with
  | false=>
   have HF:Hid (Grd.hold true (f+1) a b=false):=Y1 (Grd.np_last H2.out.ra H2.out.rb HK.out.1 HK.out.2.2.2.2 HIA.out HIB.out HKL.out.symm (by rw[<-HX.out, <-HY.out]; exact hbw));go_wp2;go_ret;exact ⟨by rw[HF.out]; rfl,Z00 HB1.out HB3.out⟩
  | true=>
   have HLAST:Hid (Grd.hold true f (a.parts[k]'HIA.out) (b.parts[k]'HIB.out)=true):=Y1 (by rw[<-HX.out, <-HY.out]; exact hbw);clear hbw;clear m4a m4b n1 n2 n3 e1 e2 e3 n5 k6 k7 k8
   go_wp2_with fail
   go_loopw [12] (fun ii wr=> ∃i:Nat,ii= .int .i64 i/\i<=k/\Hid (∀j (h1:j < a.parts.length) (h2:j < b.parts.length),j < i->Grd.hold true f (b.parts[j]'h2) (a.parts[j]'h1)=true)/\Below W1.heap.size W1 wr) (fun i _=>k - (intOf i).toNat)
   case atStart=>exact ⟨0,rfl,Nat.zero_le _,Y1 (fun j _ _ hj=>absurd hj (by omega)),HB3.out⟩
   case round=>
    obtain ⟨i,rfl,hi,HN,hb⟩:=hrel;have HBR:=Y1 hb;have hkl:=HKL.out;have hpl:=HPL.out;by_cases hlt:i < k
    {have hi1: (i:Int) < (k:Int):=by omega
     have ja:i < a.parts.length:=by omega
     have jb:i < b.parts.length:=by omega
     have ja': (i:Int) < (a.parts.length:Int):=by omega
     have jb': (i:Int) < (b.parts.length:Int):=by omega
     obtain ⟨_,⟨a0,a1,a2,a3,a4⟩,_⟩:=HXa.out.next hb;obtain ⟨_,⟨b0,b1,b2,b3,b4⟩,_⟩:=HXb.out.next hb;simp only[Nat.zero_add] at a0 a1 a2 a3 a4 b0 b1 b2 b3 b4;rcases (HAa.out.next hb).part with h0 | ⟨g2,off2,rs,hrP,hg,hc,hra⟩
     {omega}
     rcases (HAb.out.next hb).part with h0 | ⟨g3,off3,rs',hrP',hg',hc',hra'⟩
     {omega}
     have hX5:=hc i ja;have hXA:=hra i ja;have hY5:=hc' i jb;have hYA:=hra' i jb;have hT:Two f (b.parts[i]'jb) (a.parts[i]'ja):=(H2.out.part (List.getElem_mem ja) (List.getElem_mem jb)).swap;obtain ⟨x,hx⟩: ∃x,x=a.parts[i]'ja:=⟨_,rfl⟩;obtain ⟨y,hy⟩: ∃y,y=b.parts[i]'jb:=⟨_,rfl⟩;rw[<-hx] at hX5 hXA hT;rw[<-hy] at hY5 hYA hT;obtain ⟨rx,hrx⟩: ∃z,z=rs i:=⟨_,rfl⟩;obtain ⟨ry,hry⟩: ∃z,z=rs' i:=⟨_,rfl⟩;rw[<-hrx] at hX5 hXA;rw[<-hry] at hY5 hYA;have hdr:Below wr.heap.size wr wr.drew:=Y2.drew;have HD2:=Y1 hdr;have HC:=Y1 (HI.out y x ry rx wr.drew hT (hYA.next hdr) (hXA.next hdr));obtain ⟨x0,x1,x2,x3,x4⟩:=hX5;obtain ⟨y0,y1,y2,y3,y4⟩:=hY5;rw[hrP] at a4;rw[hrP'] at b4;have HX:=Y1 hx;have HY:=Y1 hy;have HJA:=Y1 ja;have HJB:=Y1 jb;clear hx hy hrx hry hdr hc hra hc' hra' hg hg' hXA hYA hT hrP hrP' hkl hpl hb
     go_wp2_with fail
     go_still_tail 10,(by kernel_rfl)
     change wpList _ _ _ _ _ wr.drew
     go_wp2_with fail
     refine HC.out.mono ?_;rintro e W4 ⟨rfl,hb4⟩;have HB4:=Y1 (Z00 HBR.out (Z00 HD2.out hb4));clear hb4 HC x0 x1 x2 x3 x4 y0 y1 y2 y3 y4 a0 a1 a2 a3 a4 b0 b1 b2 b3 b4;cases hbw:Grd.hold true f y x with
     | false=>
      have HF:Hid (Grd.hold true (f+1) a b=false):=Y1 (Grd.np_more H2.out.ra H2.out.rb HK.out.1 HK.out.2.2.2.2 HJA.out HJB.out (by have:=HKL.out; omega) (by rw[<-HX.out, <-HY.out]; exact hbw));go_wp2;go_ret;exact ⟨by rw[HF.out]; rfl,Z00 HB1.out HB4.out⟩
     | true=>
      have HE:Hid (Grd.hold true f (b.parts[i]'HJB.out) (a.parts[i]'HJA.out)=true):=Y1 (by rw[<-HX.out, <-HY.out]; exact hbw);clear hbw;go_wp2
      go_roundw
      case rel=>exact ⟨i+1,by go_num,by omega,Y1 (fun j h1 h2 hji=>by
       rcases Nat.lt_succ_iff_lt_or_eq.1 hji with h | rfl
       {exact HN.out j h1 h2 h}
       · exact HE.out),HB4.out⟩
      case measure=>simp[intOf]; omega}
    {have hi1: ¬(i:Int) < (k:Int):=by omega
     have HF:Hid (Grd.hold true (f+1) a b=true):=Y1 (Grd.np_yes H2.out.ra H2.out.rb HK.out.2.1 HK.out.2.2.1 HK.out.2.2.2.1 HK.out.2.2.2.2 hpl (fun j h1 h2=>by
      by_cases e:j+1=a.parts.length
      {rw[if_pos e];obtain rfl:j=k:=by omega
       exact HLAST.out}
      · rw[if_neg e]; exact HN.out j h1 h2 (by omega)))
     clear hb hkl hpl;go_wp2;go_ret;exact ⟨by rw[HF.out]; rfl,Z00 HB1.out HBR.out⟩}}
 {have n5: ((b.parts.length:Int) !=(k:Int)+1)=true:=by simp; omega
  have HF:Hid (Grd.hold true (f+1) a b=false):=Y1 (Grd.np_len h2.ra h2.rb h44 h6 hpl);clear hx1 hx2 hy1 hb12 ha hb h2 hk ho hn h4 h44 h6 h8 la hI hpl hkl;go_enter Tryz.func32,Tryz.ntmps32
  go_wp2_with fail
  go_quiet (fail)
  go_wp2;go_ret;exact ⟨by rw[HF.out]; rfl,Z0D HB1.out _⟩}
end
theorem Zbe (f:Nat):NearOk f:=by
 induction f with
 | zero=>intro a b pa pb w h; have:=h.da; rw[Z0d] at this; omega
 | succ f hI=>
  intro a b pa pb w h2 ha hb;by_cases h4:a.kind=4\/b.kind=4
  {exact Zbo a b pa pb w h2 ha hb h4}
  by_cases hd:a.kind=b.kind/\a.of_=b.of_/\a.name=b.name
  {obtain ⟨hk,ho,hn⟩:=hd;by_cases h6:a.kind=6
   {exact Zbm hI a b pa pb w h2 ha hb hk ho hn h6}
   by_cases h7:a.kind=7
   {exact Zbn hI a b pa pb w h2 ha hb hk ho hn h7}
   by_cases h8:a.kind=8
   {exact Zbp hI a b pa pb w h2 ha hb hk ho hn h8}
   by_cases h5:a.kind=5
   {exact Zbd hI a b pa pb w h2 ha hb hk ho hn h5}
   exact Zbc a b pa pb w h2 ha hb hk ho hn (fun h=>h4 (Or.inl h)) h5 (fun h=>h.elim h6 h7) h8}
  {exact Zbb a b pa pb w h2 ha hb h4 hd}
end SubM
end Go.Proofs.YtkhoflciahkphaaGreatDoor
namespace Go.Proofs.YtkhoflciahkphaaGreatDoor
open Go.RowKit Shp Sub
namespace SubM
structure TakeN (n0:Nat) (W0:World) (tk:Nat->Value->Prop) (p:Sh) (d:Nat->Bool) (u:Nat->Value) (W:World):Prop where
 up:Below W0.heap.size W0 W
 vals: ∀j,d j=true->tk j (u j)
 al:d 10=true->d 11=false-> ∃b,u 10= .pointer (some ⟨b,0,none⟩)/\W0.heap.size<=b/\Rc b W
 st:d 11=true->d 10=true/\ ∃(b:Nat) (q:Ptr),u 10= .pointer (some ⟨b,0,none⟩)/\W0.heap.size<=b/\ShAt W0 n0 q p/\Box5 W b p q
variable {n0 : Nat} {W0 W W' : World} {tk : Nat -> Value -> Prop} {p : Sh} {d : Nat -> Bool} {u : Nat -> Value}
theorem TakeN.vals' (h:TakeN n0 W0 tk p d u W) {i:Nat} {v:Value} (hv:tk i v): ∀j,also d i j=true->tk j (upd u i v j):=fun j hj=>by
 by_cases e:j=i
 {subst e; rw[Z0q]; exact hv}
 {rw[Z0b u v e]; rw[Zax e] at hj; exact h.vals j hj}
theorem TakeN.start:TakeN n0 W0 tk p (fun _=>false) u W0.drew:=⟨Y2.drew,nofun,nofun,nofun⟩
theorem TakeN.step (h:TakeN n0 W0 tk p d u W) {i:Nat} {v:Value} (hi:i≠10) (hj:i≠11) (hv:tk i v) (hb:Below W.heap.size W W'):TakeN n0 W0 tk p (also d i) (upd u i v) W':=by
 refine ⟨Z00 h.up hb,h.vals' hv, ?_, ?_⟩
 {rw[Zax (Ne.symm hi),Zax (Ne.symm hj),Z0b u v (Ne.symm hi)];intro h1 h2;obtain ⟨b,e,hb1,hr⟩:=h.al h1 h2;exact ⟨b,e,hb1,hr.upd (T:=fun _=>False) (Upd.new hb) (fun h=>h)⟩}
 {rw[Zax (Ne.symm hi),Zax (Ne.symm hj),Z0b u v (Ne.symm hi)];intro h1;obtain ⟨h2,b,q,e,hb1,hs,hx⟩:=h.st h1;exact ⟨h2,b,q,e,hb1,hs,hx.next hb⟩}
theorem TakeN.alloc (h:TakeN n0 W0 tk p d u W) (hd:d 10=false) (ht: ∀v,tk 10 v):
 TakeN n0 W0 tk p (also d 10) (upd u 10 (.pointer (some ⟨W.heap.size,0,none⟩))) (W.alloc (.cells Yb 25)):=by
 refine ⟨Z00 h.up (Z01 _ _),h.vals' (ht _),fun _ _=>⟨W.heap.size,Z0q _ _ _,h.up.size,Z3G rfl⟩,fun h1=> ?_⟩;rw[Zax (by decide)] at h1;rw[(h.st h1).1] at hd; cases hd
theorem TakeN.store (h:TakeN n0 W0 tk p d u W) (h10:d 10=true) (h11:d 11=false) (ht: ∀v,tk 11 v) {b:Nat} {q:Ptr} (hb:u 10= .pointer (some ⟨b,0,none⟩)) (hs:ShAt W0 n0 q p):
 TakeN n0 W0 tk p (also d 11) (upd u 11 undef) (RX.lay W b p q):=by
 obtain ⟨b',e,hb1,hr⟩:=h.al h10 h11;obtain rfl:b'=b:=by rw[hb] at e; simp at e; exact e.symm
 have hu:=RX.lay_upd W b' p q;refine ⟨h.up.trans (hu.below h.up.size (fun x hx=>by omega)),h.vals' (ht _),fun _ h2=> ?_,fun _=>⟨by rw[Zax (by decide)]; exact h10,b',q,by rw[Z0b u undef (by decide)]; exact hb,hb1,hs, ?_⟩⟩
 {rw[ZaI] at h2; cases h2}
 {have hf:=fun j=>(RX.lay_fz W b' p q j).trans (hr.fz j);exact ⟨by rw[RX.lay_size]; exact hr.lt,RX.lay_at p q hr.ex,hf 0,hf 1,hf 2,hf 3,hf 4⟩}
end SubM
end Go.Proofs.YtkhoflciahkphaaGreatDoor
namespace Go.Proofs.YtkhoflciahkphaaGreatDoor
open Go.RowKit Shp Sub
namespace SubM
def AlikeOk (f:Nat):Prop:=
 ∀(a b:Sh) (pa pb:Ptr) (w:World),Two f a b->ShAt w w.heap.size pa a->ShAt w w.heap.size pb b->
  Y9 30 #[.agg (Y8 a pa),.agg (Y8 b pb)] w (.bool (Grd.hold false f a b))
def gtakeN (v0 v1 v2 v3 v4 v5:Value) (n0:Nat) (W0:World) (p:Sh) (ok:Bool):Nat->Value->Prop
 | 0,v=>v=v0
 | 1,v=>v=v1
 | 2,v=>v=v2
 | 3,v=>v=v3
 | 4,v=>v=v4
 | 5,v=>v=v5
 | 6,v=> ∃q:Ptr,v= .tuple #[.agg (Y8 p q),.bool ok]/\ShAt W0 n0 q p
 | 7,v=> ∃q:Ptr,v= .tuple #[.agg (Y8 p q),.bool ok]/\ShAt W0 n0 q p
 | 8,v=> ∃q:Ptr,v= .agg (Y8 p q)/\ShAt W0 n0 q p
 | 9,v=>v= .bool ok
 | 12,v=>v= .bool ok
 | _,_=>True
theorem Zbq {a:Sh} {pa:Ptr} {x:List UInt8} {n0:Nat} {W0 W:World} (hn:n0<=W0.heap.size) (ha:ShAt W0 n0 pa a) (hR:Rec a) {p:Sh} {ok:Bool} (hp: (get a x).getD Z0p=p) (hok: (get a x).isSome=ok) (hJ:Below W0.heap.size W0 W):
 Calls Tryz.prog 53 #[.agg (Y8 a pa),.string ⟨x.toArray⟩] W fun e w'=> ∃q:Ptr,e= .returned (.tuple #[.agg (Y8 p q),.bool ok])/\ShAt W0 n0 q p/\Below W.heap.size W w':=by
 refine (ZaJ a pa x n0 W (Nat.le_trans hn hJ.size) (ha.keep hJ hn) hR).mono ?_;rintro e w' ⟨q,he,hs,hb⟩;rw[hp,hok] at he;rw[hp] at hs;exact ⟨q,he,hs.of (Nat.le_refl _) (fun g c hg=>(hJ.cell (p:=⟨g,c,none⟩) (Nat.lt_of_lt_of_le hg hn)).symm),hb⟩
theorem ZaQ (W:World) (t:Sh) (q:Ptr):Rc W.heap.size (W.alloc (.cells (Y8 t q) 25)):=by
 obtain ⟨_,⟨c0,c1,c2,c3,c4⟩,_⟩:=Z02 W t q;simp only[Nat.zero_add] at c0 c1 c2 c3 c4;refine ⟨by simp,fun j hj=> ?_,fun j=>by simp[go_sem]⟩;rcases j with _ | _ | _ | _ | _ | j
 {exact ⟨_,c0⟩}
 {exact ⟨_,c1⟩}
 {exact ⟨_,c2⟩}
 {exact ⟨_,c3⟩}
 {exact ⟨_,c4⟩}
 {omega}
section
variable {f : Nat} (a b : Sh) (pa pb : Ptr) (w : World) (h2 : Two (f + 1) a b) (ha : ShAt w w.heap.size pa a) (hb : ShAt w w.heap.size pb b)
include f a b pa pb w h2 ha hb
theorem Zbf (h4:a.kind=4\/b.kind=4):
 Y9 30 #[.agg (Y8 a pa),.agg (Y8 b pb)] w (.bool (Grd.hold false (f+1) a b)):=by
 have hx1:=Z01 w (.cells (Y8 a pa) 25);obtain ⟨u1,hu1⟩: ∃u1,w.alloc (.cells (Y8 a pa) 25)=u1:=⟨_,rfl⟩;have hs1:u1.heap.size=w.heap.size+1:=by rw[<-hu1]; simp
 have hy1:=Z02 w a pa;rw[hu1] at hx1 hy1;have hx2:=Z01 u1 (.cells (Y8 b pb) 25);obtain ⟨W1,hu2⟩: ∃u2,u1.alloc (.cells (Y8 b pb) 25)=u2:=⟨_,rfl⟩;have hs2:W1.heap.size=w.heap.size+2:=by rw[<-hu2]; simp[hs1]
 have hy2:=Z02 u1 b pb;rw[hu2] at hx2 hy2;rw[hs1] at hy2;have hb12:=Z00 hx1 hx2;have hxa:=hy1.next hx2;have HXa:=Y1 hxa;have HXb:=Y1 hy2;have HS2:=Y1 hs2;clear hs2;have HAa:=Y1 (ha.next hb12);have HAb:=Y1 (hb.next hb12);have HB1:=Y1 hb12;have H2:=Y1 h2;have HL:=Y1 (hb.small.l);have HM:=Y1 (hb.small.m);have HL':=Y1 (ha.small.l);have HM':=Y1 (ha.small.m);have hm1:=hb.small.m;have hm2:=ha.small.m;obtain ⟨_,⟨a0,a1,a2,a3,a4⟩,_⟩:=hxa;obtain ⟨_,⟨b0,b1,b2,b3,b4⟩,_⟩:=hy2;simp only[Nat.zero_add] at a0 a1 a2 a3 a4 b0 b1 b2 b3 b4;rw[Grd.nd_any h4];clear hx1 hx2 hy1 hb12 ha hb h2;by_cases e:a.kind=4
 {have m4a: (a.kind==4)=true:=by rw[e]; rfl
  clear h4 e;go_enter Tryz.func30,Tryz.ntmps30;go_wp2;go_ret;exact ⟨rfl,HB1.out⟩}
 {have m4a: (a.kind==4)=false:=by simpa using e
  have m4b: (b.kind==4)=true:=by rw[h4.resolve_left e]; rfl
  clear h4 e;go_enter Tryz.func30,Tryz.ntmps30;go_wp2;go_ret;exact ⟨rfl,HB1.out⟩}
theorem ZaK (h4: ¬(a.kind=4\/b.kind=4)) (hd: ¬(a.kind=b.kind/\a.of_=b.of_/\a.name=b.name/\a.parts.length=b.parts.length)) (hF:Grd.hold false (f+1) a b=false):
 Y9 30 #[.agg (Y8 a pa),.agg (Y8 b pb)] w (.bool (Grd.hold false (f+1) a b)):=by
 have hx1:=Z01 w (.cells (Y8 a pa) 25);obtain ⟨u1,hu1⟩: ∃u1,w.alloc (.cells (Y8 a pa) 25)=u1:=⟨_,rfl⟩;have hs1:u1.heap.size=w.heap.size+1:=by rw[<-hu1]; simp
 have hy1:=Z02 w a pa;rw[hu1] at hx1 hy1;have hx2:=Z01 u1 (.cells (Y8 b pb) 25);obtain ⟨W1,hu2⟩: ∃u2,u1.alloc (.cells (Y8 b pb) 25)=u2:=⟨_,rfl⟩;have hs2:W1.heap.size=w.heap.size+2:=by rw[<-hu2]; simp[hs1]
 have hy2:=Z02 u1 b pb;rw[hu2] at hx2 hy2;rw[hs1] at hy2;have hb12:=Z00 hx1 hx2;have hxa:=hy1.next hx2;have HXa:=Y1 hxa;have HXb:=Y1 hy2;have HS2:=Y1 hs2;clear hs2;have HAa:=Y1 (ha.next hb12);have HAb:=Y1 (hb.next hb12);have HB1:=Y1 hb12;have H2:=Y1 h2;have HL:=Y1 (hb.small.l);have HM:=Y1 (hb.small.m);have HL':=Y1 (ha.small.l);have HM':=Y1 (ha.small.m);have hm1:=hb.small.m;have hm2:=ha.small.m;obtain ⟨_,⟨a0,a1,a2,a3,a4⟩,_⟩:=hxa;obtain ⟨_,⟨b0,b1,b2,b3,b4⟩,_⟩:=hy2;simp only[Nat.zero_add] at a0 a1 a2 a3 a4 b0 b1 b2 b3 b4;rw[hF];have m4a: (a.kind==4)=false:=by simpa using fun h=>h4 (Or.inl h)
 have m4b: (b.kind==4)=false:=by simpa using fun h=>h4 (Or.inr h)
 clear h4 hF;by_cases h1:a.kind=b.kind
 {have n1: (a.kind !=b.kind)=false:=by rw[h1]; simp
  have e1: (a.kind==b.kind)=true:=by rw[h1]; simp
  by_cases h3:a.of_=b.of_
  {have n2: (a.of_ !=b.of_)=false:=by rw[h3]; simp
   have e2: (a.of_==b.of_)=true:=by rw[h3]; simp
   by_cases h4:a.name=b.name
   {have n3: (a.name !=b.name)=false:=by rw[h4]; simp
    have e3: (a.name==b.name)=true:=by rw[h4]; simp
    have h5:a.parts.length≠b.parts.length:=fun h5=>hd ⟨h1,h3,h4,h5⟩;have n5: ((a.parts.length:Int) !=(b.parts.length:Int))=true:=by simp; omega
    have e5: ((a.parts.length:Int)==(b.parts.length:Int))=false:=by simp; omega
    clear hx1 hx2 hy1 hb12 ha hb h2 hd h1 h3 h4 h5;go_enter Tryz.func30,Tryz.ntmps30;go_wp2;go_ret;exact ⟨rfl,HB1.out⟩}
   {have e3: (a.name==b.name)=false:=by simpa using h4
    have n3: (a.name !=b.name)=true:=by unfold bne; rw[e3]; rfl
    clear hx1 hx2 hy1 hb12 ha hb h2 hd h1 h3 h4;go_enter Tryz.func30,Tryz.ntmps30;go_wp2;go_ret;exact ⟨rfl,HB1.out⟩}}
  {have e2: (a.of_==b.of_)=false:=by simpa using h3
   have n2: (a.of_ !=b.of_)=true:=by unfold bne; rw[e2]; rfl
   clear hx1 hx2 hy1 hb12 ha hb h2 hd h1 h3;go_enter Tryz.func30,Tryz.ntmps30;go_wp2;go_ret;exact ⟨rfl,HB1.out⟩}}
 {have e1: (a.kind==b.kind)=false:=by simpa using h1
  have n1: (a.kind !=b.kind)=true:=by unfold bne; rw[e1]; rfl
  clear hx1 hx2 hy1 hb12 ha hb h2 hd h1;go_enter Tryz.func30,Tryz.ntmps30;go_wp2;go_ret;exact ⟨rfl,HB1.out⟩}
end
section
variable {f : Nat} (hI : AlikeOk f) (a b : Sh) (pa pb : Ptr) (w : World) (h2 : Two (f + 1) a b) (ha : ShAt w w.heap.size pa a) (hb : ShAt w w.heap.size pb b) (h4 : ¬ (a.kind = 4 \/ b.kind = 4)) (hk : a.kind = b.kind) (ho : a.of_ = b.of_) (hn : a.name = b.name) (hl : a.parts.length = b.parts.length)
include f hI a b pa pb w h2 ha hb h4 hk ho hn hl
theorem ZaR (h6:a.kind=6\/a.kind=7):
 Y9 30 #[.agg (Y8 a pa),.agg (Y8 b pb)] w (.bool (Grd.hold false (f+1) a b)):=by
 have hx1:=Z01 w (.cells (Y8 a pa) 25);obtain ⟨u1,hu1⟩: ∃u1,w.alloc (.cells (Y8 a pa) 25)=u1:=⟨_,rfl⟩;have hs1:u1.heap.size=w.heap.size+1:=by rw[<-hu1]; simp
 have hy1:=Z02 w a pa;rw[hu1] at hx1 hy1;have hx2:=Z01 u1 (.cells (Y8 b pb) 25);obtain ⟨W1,hu2⟩: ∃u2,u1.alloc (.cells (Y8 b pb) 25)=u2:=⟨_,rfl⟩;have hs2:W1.heap.size=w.heap.size+2:=by rw[<-hu2]; simp[hs1]
 have hy2:=Z02 u1 b pb;rw[hu2] at hx2 hy2;rw[hs1] at hy2;have hb12:=Z00 hx1 hx2;have hxa:=hy1.next hx2;have HXa:=Y1 hxa;have HXb:=Y1 hy2;have HS2:=Y1 hs2;clear hs2;have HAa:=Y1 (ha.next hb12);have HAb:=Y1 (hb.next hb12);have HB1:=Y1 hb12;have H2:=Y1 h2;have HL:=Y1 (hb.small.l);have HM:=Y1 (hb.small.m);have HL':=Y1 (ha.small.l);have HM':=Y1 (ha.small.m);have hm1:=hb.small.m;have hm2:=ha.small.m;obtain ⟨_,⟨a0,a1,a2,a3,a4⟩,_⟩:=hxa;obtain ⟨_,⟨b0,b1,b2,b3,b4⟩,_⟩:=hy2;simp only[Nat.zero_add] at a0 a1 a2 a3 a4 b0 b1 b2 b3 b4;have HRo:=Y1 (Zaw h2.ra h6);have HRt:=Y1 (Zaw h2.rb (by rw[<-hk]; exact h6));have m4a: (a.kind==4)=false:=by simpa using fun h=>h4 (Or.inl h)
 have m4b: (b.kind==4)=false:=by simpa using fun h=>h4 (Or.inr h)
 have n1: (a.kind !=b.kind)=false:=by rw[hk]; simp
 have n2: (a.of_ !=b.of_)=false:=by rw[ho]; simp
 have n3: (a.name !=b.name)=false:=by rw[hn]; simp
 have e1: (a.kind==b.kind)=true:=by rw[hk]; simp
 have e2: (a.of_==b.of_)=true:=by rw[ho]; simp
 have e3: (a.name==b.name)=true:=by rw[hn]; simp
 have n5: ((a.parts.length:Int) !=(b.parts.length:Int))=false:=by rw[hl]; simp
 have e5: ((a.parts.length:Int)==(b.parts.length:Int))=true:=by rw[hl]; simp
 have HI:=Y1 hI;have HK:=Y1 (And.intro h4 (And.intro hk (And.intro ho (And.intro hn (And.intro h6 hl)))));clear hx1 hx2 hy1 hb12 ha hb h2 hI;go_enter Tryz.func30,Tryz.ntmps30;clear hk ho hn h6 h4 hl
 go_wp2_with fail
 clear hs1 hu1 hu2 a0 a1 a2 a3 a4 b0 b1 b2 b3 b4 m4a m4b n1 n2 n3 e1 e2 e3 n5 e5
 go_loopw [5] (fun ii wr=> ∃i:Nat,ii= .int .i64 i/\i<=a.parts.length/\Hid (∀j (h1:j < a.names.length) (h2:j < a.parts.length),j < i-> ∃p,get b (a.names[j]'h1)=some p/\Grd.hold false f (a.parts[j]'h2) p=true)/\Below W1.heap.size W1 wr) (fun i _=>a.parts.length - (intOf i).toNat)
 case atStart=>exact ⟨0,rfl,Nat.zero_le _,Y1 (fun j _ _ hj=>absurd hj (by omega)),Below.refl _ _⟩
 case round=>
  obtain ⟨i,rfl,hi,HN,hb⟩:=hrel;have hl:=HL.out;have hm:=HM.out;have hl':=HL'.out;have hm':=HM'.out;have HB:=Y1 hb;obtain ⟨_,⟨a0,a1,a2,a3,a4⟩,_⟩:=HXa.out.next hb;obtain ⟨_,⟨b0,b1,b2,b3,b4⟩,_⟩:=HXb.out.next hb;simp only[Nat.zero_add] at a0 a1 a2 a3 a4 b0 b1 b2 b3 b4;by_cases hlt:i < a.parts.length
  {have hi1: (i:Int) < (a.parts.length:Int):=by omega
   have hib:i < b.parts.length:=by have:=HK.out.2.2.2.2.2; omega
   have hi2: (i:Int) < (b.parts.length:Int):=by omega
   rcases HAa.out.part with h0 | ⟨g',off',qs,hqP,hg',hc',hra⟩
   {omega}
   rcases HAb.out.part with h0 | ⟨g2,off2,qs2,hqB,hg2,hc2,hra2⟩
   {omega}
   obtain ⟨y,hy⟩: ∃y,y=a.parts[i]'hlt:=⟨_,rfl⟩;have hY5:=(hc' i hlt).keep hg' hb;have hYA:=(hra i hlt).next hb;obtain ⟨z,hz⟩: ∃z,z=b.parts[i]'hib:=⟨_,rfl⟩;have hZ5:=(hc2 i hib).keep hg2 hb;have hZA:=(hra2 i hib).next hb;rw[<-hy] at hY5 hYA;rw[<-hz] at hZ5 hZA;obtain ⟨qz,hqz⟩: ∃q,q=qs2 i:=⟨_,rfl⟩;rw[<-hqz] at hZ5 hZA;have HY:=Y1 hy;have HZ:=Y1 hz;have HY5:=Y1 hY5;have HYA:=Y1 hYA;have HZA:=Y1 hZA;have HG':=Y1 hg';have HQP:=Y1 hqP;have HIB:=Y1 hib;have HLT:=Y1 hlt;obtain ⟨z0,z1,z2,z3,z4⟩:=hZ5;rw[hqP] at a4;rw[hqB] at b4;have hb6:=Z01 wr (.cells (Y8 z qz) 25);have hx6:=Z02 wr z qz;have hr0:=ZaQ wr z qz;obtain ⟨w6,hw6⟩: ∃w6,wr.alloc (.cells (Y8 z qz) 25)=w6:=⟨_,rfl⟩;have hs6:w6.heap.size=wr.heap.size+1:=by rw[<-hw6]; simp
   rw[hw6] at hb6 hx6 hr0;have HX6:=Y1 hx6;have HB6:=Y1 hb6;have HW6:=Y1 hs6;have HR0:=Y1 hr0;have HBW:=Y1 (Z00 hb hb6);obtain ⟨_,⟨k0,k1,k2,k3,k4⟩,_⟩:=HXa.out.next HBW.out;simp only[Nat.zero_add] at k0 k1 k2 k3 k4;clear hr0;have hin:i < a.names.length:=by have:=HRo.out.l; omega
   have hi3: (i:Int) < (a.names.length:Int):=by omega
   have hpos:0 < a.names.length:=by omega
   have hpos': (0:Int) < (a.names.length:Int):=by omega
   rcases (HAa.out.strs.next hb).cell7 with h0 | ⟨g,off,hqA,hg,hc⟩
   {omega}
   have hcx:=hc i hin;obtain ⟨x,hx⟩: ∃x,x=a.names[i]'hin:=⟨_,rfl⟩;rw[<-hx] at hcx;have HX:=Y1 hx;have HIN:=Y1 hin;rw[hqA] at k3;have HCX:=Y1 hcx;have HQA:=Y1 hqA;have HAt:Hid (ShAt w6 wr.heap.size pb b):=Y1 ((HAb.out.next hb).keep hb6 (Nat.le_refl _));have HGX:=Y1 hg;obtain ⟨p,hp⟩: ∃p,(get b x).getD Z0p=p:=⟨_,rfl⟩;obtain ⟨ok,hok⟩: ∃ok,(get b x).isSome=ok:=⟨_,rfl⟩;have HP:=Y1 (And.intro hp hok);clear hp hok hY5 hYA hZA hy hz hqz hra hc' hra2 hc2 hc hx hg hg' hg2 hcx hb hqA hqP hqB hx6 hb6
   go_wp2_with fail
   refine Zaq (rs:= [0,1,2,3,4,5,6,7,8,9,10,11,12])
    (fun u'=> { tmps:=#[.agg (Y8 a pa),.agg (Y8 b pb),.pointer (some { block:=w.heap.size,off:=0 }),.pointer (some { block:=w.heap.size+1,off:=0 }),u4,.int .i64 ↑i,.pointer (some { block:=wr.heap.size,off:=0 }),u' 10,u' 12,.pointer (some { block:=w.heap.size,off:=0 }),.int .i64 a.kind,.bool false,.bool false,.pointer (some { block:=w.heap.size+1,off:=0 }),.int .i64 b.kind,.bool false,.bool false,.pointer (some { block:=w.heap.size,off:=0 }),.int .i64 a.kind,.pointer (some { block:=w.heap.size+1,off:=0 }),.int .i64 b.kind,.bool false,.bool false,.pointer (some { block:=w.heap.size,off:=1 }),.string { data:=a.of_.toArray },.pointer (some { block:=w.heap.size+1,off:=1 }),.string { data:=b.of_.toArray },.bool false,.bool false,.bool false,.pointer (some { block:=w.heap.size,off:=2 }),.string { data:=a.name.toArray },.pointer (some { block:=w.heap.size+1,off:=2 }),.string { data:=b.name.toArray },.bool false,.bool false,.bool false,.pointer (some { block:=w.heap.size,off:=4 }),.slice pa.P a.parts.length pa.d,.int .i64 ↑a.parts.length,.pointer (some { block:=w.heap.size+1,off:=4 }),.slice pb.P b.parts.length pb.d,.int .i64 ↑b.parts.length,.bool false,.bool false,.int .i64 ↑i,.pointer (some { block:=w.heap.size,off:=4 }),.slice (some { block:=g',off:=off' }) a.parts.length pa.d,.int .i64 ↑a.parts.length,.bool true,u50,u51,.pointer (some { block:=w.heap.size+1,off:=4 }),.slice (some { block:=g2,off:=off2 }) b.parts.length pb.d,.int .i64 ↑i,.pointer (some { block:=g2,off:=off2+i * 5 }),.agg (Y8 z qz),.pointer (some { block:=w.heap.size,off:=3 }),.slice (some { block:=g,off:=off }) a.names.length pa.c,.int .i64 ↑a.names.length,.bool true,u' 7,u' 0,u' 1,u' 2,u' 3,u' 4,u' 5,u' 6,u' 8,u' 9,u71,u72,u73,u74,u75,u76,u77,u78,u79,u80,u81],defers:= [] })
    (fun j=>([u62,u63,u64,u65,u66,u67,u68,u61,u69,u70,u7,undef,u8]:List Value).getD j undef) (TakeN wr.heap.size w6 (gtakeN (.agg (Y8 b pb)) (.pointer (some ⟨w.heap.size,3,none⟩)) (.slice (some ⟨g,off,none⟩) a.names.length pa.c) (.int .i64 (i:Int)) (.pointer (some ⟨g,off+i,none⟩)) (.string ⟨x.toArray⟩) wr.heap.size w6 p ok) p) (by kernel_rfl) (by kernel_rfl) (by kernel_rfl) TakeN.start ?_ ?_
   refine StepsInv.cons _ rfl (fun d u' W K' hI hd hw hK=> ?_) ?_
   {obtain ⟨_,⟨y0,y1,y2,y3,y4⟩,_⟩:=HXb.out.next (Z00 HBW.out hI.up);simp only[Nat.zero_add] at y0 y1 y2 y3 y4;refine Z03 (v:=(.agg (Y8 b pb))) (W':=W) rfl ?_ (hK.out _ _ (hI.step (by decide) (by decide) rfl Y2))
    try dsimp only
    go_simp}
   refine StepsInv.cons _ rfl (fun d u' W K' hI hd hw hK=> ?_) ?_
   {refine Z03 (v:=(.pointer (some ⟨w.heap.size,3,none⟩))) (W':=W) rfl ?_ (hK.out _ _ (hI.step (by decide) (by decide) rfl Y2))
    try dsimp only
    go_simp}
   refine StepsInv.cons _ rfl (fun d u' W K' hI hd hw hK=> ?_) ?_
   {have d1:u' 1=(.pointer (some ⟨w.heap.size,3,none⟩)):=hI.vals 1 (hw 1 (by kernel_rfl));obtain ⟨_,⟨y0,y1,y2,y3,y4⟩,_⟩:=HXa.out.next (Z00 HBW.out hI.up);simp only[Nat.zero_add] at y0 y1 y2 y3 y4;rw[HQA.out] at y3;refine Z03 (v:=(.slice (some ⟨g,off,none⟩) a.names.length pa.c)) (W':=W) rfl ?_ (hK.out _ _ (hI.step (by decide) (by decide) rfl Y2))
    try dsimp only
    go_simp}
   refine StepsInv.cons _ rfl (fun d u' W K' hI hd hw hK=> ?_) ?_
   {refine Z03 (v:=(.int .i64 (i:Int))) (W':=W) rfl ?_ (hK.out _ _ (hI.step (by decide) (by decide) rfl Y2))
    try dsimp only
    go_simp}
   refine StepsInv.cons _ rfl (fun d u' W K' hI hd hw hK=> ?_) ?_
   {have d2:u' 2=(.slice (some ⟨g,off,none⟩) a.names.length pa.c):=hI.vals 2 (hw 2 (by kernel_rfl));have d3:u' 3=(.int .i64 (i:Int)):=hI.vals 3 (hw 3 (by kernel_rfl));refine Z03 (v:=(.pointer (some ⟨g,off+i,none⟩))) (W':=W) rfl ?_ (hK.out _ _ (hI.step (by decide) (by decide) rfl Y2))
    try dsimp only
    go_simp}
   refine StepsInv.cons _ rfl (fun d u' W K' hI hd hw hK=> ?_) ?_
   {have d4:u' 4=(.pointer (some ⟨g,off+i,none⟩)):=hI.vals 4 (hw 4 (by kernel_rfl));have hcx:=(((Z00 HB6.out hI.up)).cell (p:=⟨g,off+i,none⟩) HGX.out).trans HCX.out;refine Z03 (v:=(.string ⟨x.toArray⟩)) (W':=W) rfl ?_ (hK.out _ _ (hI.step (by decide) (by decide) rfl Y2))
    try dsimp only
    go_simp}
   refine StepsInv.cons _ rfl (fun d u' W K' hI hd hw hK=> ?_) ?_
   {have d0:u' 0=(.agg (Y8 b pb)):=hI.vals 0 (hw 0 (by kernel_rfl));have d5:u' 5=(.string ⟨x.toArray⟩):=hI.vals 5 (hw 5 (by kernel_rfl));refine Z0j (f:=53) (args:=#[(.agg (Y8 b pb)),(.string ⟨x.toArray⟩)]) (W':=W) rfl ?_ ((Zbq (by rw[HW6.out]; exact Nat.le_succ _) HAt.out HRt.out HP.out.1 HP.out.2 hI.up).mono fun e w' ⟨q,he,hs,hb⟩=>⟨_,he,hK.out _ _ (hI.step (by decide) (by decide) ⟨q,rfl,hs⟩ hb)⟩)
    try dsimp only
    go_simp}
   refine StepsInv.cons _ rfl (fun d u' W K' hI hd hw hK=> ?_) ?_
   {obtain ⟨q,d6,hs⟩:=hI.vals 6 (hw 6 (by kernel_rfl));refine Z03 (v:= .tuple #[.agg (Y8 p q),.bool ok]) (W':=W) rfl ?_ (hK.out _ _ (hI.step (by decide) (by decide) ⟨q,rfl,hs⟩ Y2))
    try dsimp only
    go_simp}
   refine StepsInv.cons _ rfl (fun d u' W K' hI hd hw hK=> ?_) ?_
   {obtain ⟨q,d7,hs⟩:=hI.vals 7 (hw 7 (by kernel_rfl));refine Z03 (v:= .agg (Y8 p q)) (W':=W) rfl ?_ (hK.out _ _ (hI.step (by decide) (by decide) ⟨q,rfl,hs⟩ Y2))
    try dsimp only
    go_simp}
   refine StepsInv.cons _ rfl (fun d u' W K' hI hd hw hK=> ?_) ?_
   {obtain ⟨q,d7,hs⟩:=hI.vals 7 (hw 7 (by kernel_rfl));refine Z03 (v:= .bool ok) (W':=W) rfl ?_ (hK.out _ _ (hI.step (by decide) (by decide) rfl Y2))
    try dsimp only
    go_simp}
   refine StepsInv.cons _ rfl (fun d u' W K' hI hd hw hK=> ?_) ?_
   {refine Z03 (v:= .pointer (some ⟨W.heap.size,0,none⟩)) (W':=W.alloc (.cells Yb 25)) rfl ?_ (hK.out _ _ (hI.alloc hd (fun _=>trivial)))
    try dsimp only
    go_simp}
   refine StepsInv.cons _ rfl (fun d u' W K' hI hd hw hK=> ?_) ?_
   {obtain ⟨q,d8,hs⟩:=hI.vals 8 (hw 8 (by kernel_rfl));obtain ⟨b',d10,hb1,hr⟩:=hI.al (hw 10 (by kernel_rfl)) hd;obtain ⟨v0,y0⟩:=hr.ex 0 (by omega);obtain ⟨v1,y1⟩:=hr.ex 1 (by omega);obtain ⟨v2,y2⟩:=hr.ex 2 (by omega);obtain ⟨v3,y3⟩:=hr.ex 3 (by omega);obtain ⟨v4,y4⟩:=hr.ex 4 (by omega);have z0:=hr.fz 0;have z1:=hr.fz 1;have z2:=hr.fz 2;have z3:=hr.fz 3;have z4:=hr.fz 4;refine Z2u (W':=RX.lay W b' p q) rfl ?_ (hK.out _ _ (hI.store (hw 10 (by kernel_rfl)) hd (fun _=>trivial) d10 hs));unfold RX.lay
    try dsimp only
    go_simp}
   refine StepsInv.cons _ rfl (fun d u' W K' hI hd hw hK=> ?_) StepsInv.nil
   {have d9:u' 9= .bool ok:=hI.vals 9 (hw 9 (by kernel_rfl));refine Z03 (v:= .bool ok) (W':=W) rfl ?_ (hK.out _ _ (hI.step (by decide) (by decide) rfl Y2))
    try dsimp only
    go_simp}
   intro dd z' W2 hI hdn
   try dsimp only
   obtain ⟨h10,b',q,z10,hb1,hs,hbx⟩:=hI.st (hdn 11 (by decide));rw[z10,show z' 12= .bool ok from hI.vals 12 (hdn 12 (by decide))];have hb3:=hI.up;clear hI hdn h10 z10;have HBX:=Y1 hbx;have hb62:=Z00 HB6.out hb3;have HB62:=Y1 hb62;have HSP:Hid (ShAt W2 wr.heap.size q p):=Y1 (hs.keep hb3 (by rw[HW6.out]; exact Nat.le_succ _));have HY5:=Y1 (HY5.out.keep (Nat.lt_of_lt_of_le HG'.out HB.out.size) hb62);have HYA:Hid (ShAt W2 wr.heap.size (qs i) y):=Y1 (HYA.out.keep hb62 (Nat.le_refl _));have hr6:Rc wr.heap.size W2:=HR0.out.upd (T:=fun _=>False) (Upd.new hb3) (fun h=>h);have HR6:=Y1 hr6;have HBB:=Y1 (Z00 HBW.out hb3);clear hb3 hbx hs hb62 a0 a1 a2 a3 a4 b0 b1 b2 b3 b4 z0 z1 z2 z3 z4 k0 k1 k2 k3 k4 hw6 hs6;cases ok with
   | false=>
    have HF:Hid (Grd.hold false (f+1) a b=false):=Y1 (Grd.al_none H2.out.ra H2.out.rb HK.out.1 HK.out.2.2.2.2.1 HIN.out (by
     rw[<-HX.out];cases hq:get b x with
     | none=>rfl
     | some v=>have:=HP.out.2; rw[hq] at this; cases this))
    clear hr6 hb1;go_wp2;go_ret;exact ⟨by rw[HF.out]; rfl,Z00 HB1.out HBB.out⟩
   | true=>
    have HG:Hid (get b x=some p):=Y1 (by
     cases hq:get b x with
     | none=>have:=HP.out.2; rw[hq] at this; cases this
     | some v=>have:=HP.out.1; rw[hq] at this; rw[<-this]; rfl)
    obtain ⟨_,⟨x0,x1,x2,x3,x4⟩,_⟩:=HBX.out;simp only[Nat.zero_add] at x0 x1 x2 x3 x4;obtain ⟨v0,r0⟩:=hr6.ex 0 (by omega);obtain ⟨v1,r1⟩:=hr6.ex 1 (by omega);obtain ⟨v2,r2⟩:=hr6.ex 2 (by omega);obtain ⟨v3,r3⟩:=hr6.ex 3 (by omega);obtain ⟨v4,r4⟩:=hr6.ex 4 (by omega);have f0:=hr6.fz 0;have f1:=hr6.fz 1;have f2:=hr6.fz 2;have f3:=hr6.fz 3;have f4:=hr6.fz 4;have hls:wr.heap.size < W2.heap.size:=hr6.lt;have hwr:W1.heap.size<=wr.heap.size:=HB.out.size;clear hr6 hb1
    go_wp2_with fail
    obtain ⟨W3,hW3⟩: ∃W3,RX.lay W2 wr.heap.size p q=W3:=⟨_,rfl⟩;have hU:=RX.lay_upd W2 wr.heap.size p q;have hq6:=RX.lay_at p q (W:=W2) (g:=wr.heap.size) HR6.out.ex;rw[hW3] at hU hq6;have hSP:=Z0f HSP.out (by omega) hU (fun x hx he=>by have he:x=wr.heap.size:=he; omega);have hYA:=Z0f HYA.out (by omega) hU (fun x hx he=>by have he:x=wr.heap.size:=he; omega);have hgl:=HG'.out;have hY5:=HY5.out.of (w':=W3) (fun k=>hU.cell (by omega) (by omega));have hz3:wr.heap.size<=W3.heap.size:=by have:=hU.size; omega
    have hXa:=Z1h (HXa.out.next HBB.out) hU (by have:=HS2.out; omega);have hB3:Below W1.heap.size W1 W3:=HBB.out.trans (hU.below HBB.out.size (fun x hx=>by omega));have HB3:=Y1 hB3;unfold RX.lay at hW3;rw[hW3];clear hW3 hU x0 x1 x2 x3 x4 r0 r1 r2 r3 r4 f0 f1 f2 f3 f4 hB3;have hdr:Below W3.heap.size W3 W3.drew:=Y2.drew;have HD:=Y1 hdr;have HT:Hid (Two f y p):=Y1 (H2.out.part (by rw[HY.out]; exact List.getElem_mem HLT.out) (Z06 HG.out));have HC:=Y1 (HI.out y p (qs i) q W3.drew HT.out ((hYA.more hz3).next hdr) ((hSP.more hz3).next hdr));obtain ⟨_,⟨a0,a1,a2,a3,a4⟩,_⟩:=hXa;obtain ⟨s0,s1,s2,s3,s4⟩:=hY5;obtain ⟨x0,x1,x2,x3,x4⟩:=hq6;simp only[Nat.zero_add] at a0 a1 a2 a3 a4 x0 x1 x2 x3 x4;rw[HQP.out] at a4;clear hdr hz3 hSP hYA hgl hls hwr
    go_wp2_with fail
    go_still_tail 6,(by kernel_rfl)
    change wpList _ _ _ _ _ W3.drew
    go_wp2_with fail
    refine HC.out.mono ?_;rintro e W4 ⟨rfl,hb4⟩;have HB4:=Y1 (Z00 HB3.out (Z00 HD.out hb4));clear hb4 HC x0 x1 x2 x3 x4 s0 s1 s2 s3 s4 a0 a1 a2 a3 a4;cases hbw:Grd.hold false f y p with
    | false=>
     have HF:Hid (Grd.hold false (f+1) a b=false):=Y1 (Grd.al_no H2.out.ra H2.out.rb HK.out.1 HK.out.2.2.2.2.1 HIN.out HLT.out (p:=p) (by rw[<-HX.out]; exact HG.out) (by rw[<-HY.out]; exact hbw));go_wp2;go_ret;exact ⟨by rw[HF.out]; rfl,Z00 HB1.out HB4.out⟩
    | true=>
     have HE:Hid (∃p,get b (a.names[i]'HIN.out)=some p/\Grd.hold false f (a.parts[i]'HLT.out) p=true):=Y1 ⟨p,by rw[<-HX.out]; exact HG.out,by rw[<-HY.out]; exact hbw⟩;go_wp2
     go_roundw
     case rel=>exact ⟨i+1,by go_num,by omega,Y1 (fun j h1 h2 hji=>by
      rcases Nat.lt_succ_iff_lt_or_eq.1 hji with h | rfl
      {exact HN.out j h1 h2 h}
      · exact HE.out),HB4.out⟩
     case measure=>simp[intOf]; omega}
  {have hi1: ¬(i:Int) < (a.parts.length:Int):=by omega
   have HF:Hid (Grd.hold false (f+1) a b=true):=Y1 (Grd.al_yes H2.out.ra H2.out.rb HK.out.2.1 HK.out.2.2.1 HK.out.2.2.2.1 HK.out.2.2.2.2.1 HK.out.2.2.2.2.2 (fun j h1 h2=>HN.out j h1 h2 (by omega)));clear hb;go_wp2;go_ret;exact ⟨by rw[HF.out]; rfl,Z00 HB1.out HB.out⟩}
theorem ZaO (h6: ¬(a.kind=6\/a.kind=7)):
 Y9 30 #[.agg (Y8 a pa),.agg (Y8 b pb)] w (.bool (Grd.hold false (f+1) a b)):=by
 have hx1:=Z01 w (.cells (Y8 a pa) 25);obtain ⟨u1,hu1⟩: ∃u1,w.alloc (.cells (Y8 a pa) 25)=u1:=⟨_,rfl⟩;have hs1:u1.heap.size=w.heap.size+1:=by rw[<-hu1]; simp
 have hy1:=Z02 w a pa;rw[hu1] at hx1 hy1;have hx2:=Z01 u1 (.cells (Y8 b pb) 25);obtain ⟨W1,hu2⟩: ∃u2,u1.alloc (.cells (Y8 b pb) 25)=u2:=⟨_,rfl⟩;have hs2:W1.heap.size=w.heap.size+2:=by rw[<-hu2]; simp[hs1]
 have hy2:=Z02 u1 b pb;rw[hu2] at hx2 hy2;rw[hs1] at hy2;have hb12:=Z00 hx1 hx2;have hxa:=hy1.next hx2;have HXa:=Y1 hxa;have HXb:=Y1 hy2;have HS2:=Y1 hs2;clear hs2;have HAa:=Y1 (ha.next hb12);have HAb:=Y1 (hb.next hb12);have HB1:=Y1 hb12;have H2:=Y1 h2;have HL:=Y1 (hb.small.l);have HM:=Y1 (hb.small.m);have HL':=Y1 (ha.small.l);have HM':=Y1 (ha.small.m);have hm1:=hb.small.m;have hm2:=ha.small.m;obtain ⟨_,⟨a0,a1,a2,a3,a4⟩,_⟩:=hxa;obtain ⟨_,⟨b0,b1,b2,b3,b4⟩,_⟩:=hy2;simp only[Nat.zero_add] at a0 a1 a2 a3 a4 b0 b1 b2 b3 b4;have HNN:=Y1 (Z1Y (Z08 h2.ra) h6);have m4a: (a.kind==4)=false:=by simpa using fun h=>h4 (Or.inl h)
 have m4b: (b.kind==4)=false:=by simpa using fun h=>h4 (Or.inr h)
 have n1: (a.kind !=b.kind)=false:=by rw[hk]; simp
 have n2: (a.of_ !=b.of_)=false:=by rw[ho]; simp
 have n3: (a.name !=b.name)=false:=by rw[hn]; simp
 have e1: (a.kind==b.kind)=true:=by rw[hk]; simp
 have e2: (a.of_==b.of_)=true:=by rw[ho]; simp
 have e3: (a.name==b.name)=true:=by rw[hn]; simp
 have n5: ((a.parts.length:Int) !=(b.parts.length:Int))=false:=by rw[hl]; simp
 have e5: ((a.parts.length:Int)==(b.parts.length:Int))=true:=by rw[hl]; simp
 have HI:=Y1 hI;have HK:=Y1 (And.intro h4 (And.intro hk (And.intro ho (And.intro hn (And.intro h6 hl)))));clear hx1 hx2 hy1 hb12 ha hb h2 hI;go_enter Tryz.func30,Tryz.ntmps30;clear hk ho hn h6 h4 hl
 go_wp2_with fail
 clear hs1 hu1 hu2 a0 a1 a2 a3 a4 b0 b1 b2 b3 b4 m4a m4b n1 n2 n3 e1 e2 e3 n5 e5
 go_loopw [5] (fun ii wr=> ∃i:Nat,ii= .int .i64 i/\i<=a.parts.length/\Hid (∀j (h1:j < a.parts.length) (h2:j < b.parts.length),j < i->Grd.hold false f (a.parts[j]'h1) (b.parts[j]'h2)=true)/\Below W1.heap.size W1 wr) (fun i _=>a.parts.length - (intOf i).toNat)
 case atStart=>exact ⟨0,rfl,Nat.zero_le _,Y1 (fun j _ _ hj=>absurd hj (by omega)),Below.refl _ _⟩
 case round=>
  obtain ⟨i,rfl,hi,HN,hb⟩:=hrel;have hl:=HL.out;have hm:=HM.out;have hl':=HL'.out;have hm':=HM'.out;have HB:=Y1 hb;obtain ⟨_,⟨a0,a1,a2,a3,a4⟩,_⟩:=HXa.out.next hb;obtain ⟨_,⟨b0,b1,b2,b3,b4⟩,_⟩:=HXb.out.next hb;simp only[Nat.zero_add] at a0 a1 a2 a3 a4 b0 b1 b2 b3 b4;by_cases hlt:i < a.parts.length
  {have hi1: (i:Int) < (a.parts.length:Int):=by omega
   have hib:i < b.parts.length:=by have:=HK.out.2.2.2.2.2; omega
   have hi2: (i:Int) < (b.parts.length:Int):=by omega
   rcases HAa.out.part with h0 | ⟨g',off',qs,hqP,hg',hc',hra⟩
   {omega}
   rcases HAb.out.part with h0 | ⟨g2,off2,qs2,hqB,hg2,hc2,hra2⟩
   {omega}
   obtain ⟨y,hy⟩: ∃y,y=a.parts[i]'hlt:=⟨_,rfl⟩;have hY5:=(hc' i hlt).keep hg' hb;have hYA:=(hra i hlt).next hb;obtain ⟨z,hz⟩: ∃z,z=b.parts[i]'hib:=⟨_,rfl⟩;have hZ5:=(hc2 i hib).keep hg2 hb;have hZA:=(hra2 i hib).next hb;rw[<-hy] at hY5 hYA;rw[<-hz] at hZ5 hZA;obtain ⟨qz,hqz⟩: ∃q,q=qs2 i:=⟨_,rfl⟩;rw[<-hqz] at hZ5 hZA;have HY:=Y1 hy;have HZ:=Y1 hz;have HY5:=Y1 hY5;have HYA:=Y1 hYA;have HZA:=Y1 hZA;have HG':=Y1 hg';have HQP:=Y1 hqP;have HIB:=Y1 hib;have HLT:=Y1 hlt;obtain ⟨z0,z1,z2,z3,z4⟩:=hZ5;rw[hqP] at a4;rw[hqB] at b4;have hb6:=Z01 wr (.cells (Y8 z qz) 25);have hx6:=Z02 wr z qz;have hr0:=ZaQ wr z qz;obtain ⟨w6,hw6⟩: ∃w6,wr.alloc (.cells (Y8 z qz) 25)=w6:=⟨_,rfl⟩;have hs6:w6.heap.size=wr.heap.size+1:=by rw[<-hw6]; simp
   rw[hw6] at hb6 hx6 hr0;have HX6:=Y1 hx6;have HB6:=Y1 hb6;have HW6:=Y1 hs6;have HR0:=Y1 hr0;have HBW:=Y1 (Z00 hb hb6);obtain ⟨_,⟨k0,k1,k2,k3,k4⟩,_⟩:=HXa.out.next HBW.out;simp only[Nat.zero_add] at k0 k1 k2 k3 k4;clear hr0;have hneg: ¬0 < a.names.length:=by rw[HNN.out]; simp
   have hneg': ¬(0:Int) < (a.names.length:Int):=by omega
   have HT:Hid (Two f y z):=Y1 (H2.out.part (by rw[hy]; exact List.getElem_mem hlt) (by rw[hz]; exact List.getElem_mem hib));have hdr:Below w6.heap.size w6 w6.drew:=Y2.drew;have HD:=Y1 hdr;have HC:=Y1 (HI.out y z (qs i) qz w6.drew HT.out ((hYA.next hb6).next hdr) ((hZA.next hb6).next hdr));have hbw6:=Z00 hb hb6;have hXa:=HXa.out.next hbw6;have hY6:=hY5.keep (Nat.lt_of_lt_of_le hg' hb.size) hb6;clear hY5 hYA hZA hy hz hqz hra hc' hra2 hc2 hg' hg2 hb hqP hqB hb6 hdr hbw6
   go_wp2_with fail
   clear hw6 a0 a1 a2 a3 a4 b0 b1 b2 b3 b4 z0 z1 z2 z3 z4 k0 k1 k2 k3 k4 hneg hneg';obtain ⟨_,⟨a0,a1,a2,a3,a4⟩,_⟩:=hXa;obtain ⟨s0,s1,s2,s3,s4⟩:=hY6;obtain ⟨_,⟨x0,x1,x2,x3,x4⟩,_⟩:=hx6;simp only[Nat.zero_add] at a0 a1 a2 a3 a4 x0 x1 x2 x3 x4;rw[HQP.out] at a4
   go_still_tail 6,(by kernel_rfl)
   change wpList _ _ _ _ _ w6.drew
   go_wp2_with fail
   refine HC.out.mono ?_;rintro e W4 ⟨rfl,hb4⟩;have HB4:=Y1 (Z00 HBW.out (Z00 HD.out hb4));clear hb4 HC x0 x1 x2 x3 x4 s0 s1 s2 s3 s4 a0 a1 a2 a3 a4;cases hbw:Grd.hold false f y z with
   | false=>
    have HF:Hid (Grd.hold false (f+1) a b=false):=Y1 (Grd.al_pno H2.out.ra H2.out.rb HK.out.1 HK.out.2.2.2.2.1 HLT.out HIB.out (by rw[<-HY.out, <-HZ.out]; exact hbw));go_wp2;go_ret;exact ⟨by rw[HF.out]; rfl,Z00 HB1.out HB4.out⟩
   | true=>
    have HE:Hid (Grd.hold false f (a.parts[i]'HLT.out) (b.parts[i]'HIB.out)=true):=Y1 (by rw[<-HY.out, <-HZ.out]; exact hbw);have hlt:=HLT.out;go_wp2
    go_roundw
    case rel=>exact ⟨i+1,by go_num,by omega,Y1 (fun j h1 h2 hji=>by
     rcases Nat.lt_succ_iff_lt_or_eq.1 hji with h | rfl
     {exact HN.out j h1 h2 h}
     · exact HE.out),HB4.out⟩
    case measure=>simp[intOf]; omega}
  {have hi1: ¬(i:Int) < (a.parts.length:Int):=by omega
   have HF:Hid (Grd.hold false (f+1) a b=true):=Y1 (Grd.al_pyes H2.out.ra H2.out.rb HK.out.2.1 HK.out.2.2.1 HK.out.2.2.2.1 HK.out.2.2.2.2.1 HK.out.2.2.2.2.2 (fun j h1 h2=>HN.out j h1 h2 (by omega)));clear hb;go_wp2;go_ret;exact ⟨by rw[HF.out]; rfl,Z00 HB1.out HB.out⟩}
end
theorem ZaZ (f:Nat):AlikeOk f:=by
 induction f with
 | zero=>intro a b pa pb w h; have:=h.da; rw[Z0d] at this; omega
 | succ f hI=>
  intro a b pa pb w h2 ha hb;by_cases h4:a.kind=4\/b.kind=4
  {exact Zbf a b pa pb w h2 ha hb h4}
  by_cases hd:a.kind=b.kind/\a.of_=b.of_/\a.name=b.name
  {obtain ⟨hk,ho,hn⟩:=hd;by_cases hl:a.parts.length=b.parts.length
   {by_cases h6:a.kind=6\/a.kind=7
    {exact ZaR hI a b pa pb w h2 ha hb h4 hk ho hn hl h6}
    {exact ZaO hI a b pa pb w h2 ha hb h4 hk ho hn hl h6}}
   {exact ZaK a b pa pb w h2 ha hb h4 (fun h=>hl h.2.2.2) (Grd.al_len h2.ra h2.rb h4 hl)}}
  {exact ZaK a b pa pb w h2 ha hb h4 (fun h=>hd ⟨h.1,h.2.1,h.2.2.1⟩) (Grd.nd_head h2.ra h2.rb h4 hd)}
end SubM
end Go.Proofs.YtkhoflciahkphaaGreatDoor
namespace Go.Proofs.YtkhoflciahkphaaGreatDoor
open Go.RowKit Shp Sub
namespace SubM
def KnownOk (f:Nat):Prop:= ∀(s:Sh) (q:Ptr) (w:World),deep s<=f->ShAt w w.heap.size q s->
 Y9 27 #[.agg (Y8 s q)] w (.bool (Grd.known s))
theorem Zb0 (f:Nat):KnownOk f:=by
 induction f with
 | zero=>intro s q w h; rw[Z0d] at h; omega
 | succ f hI=>
  intro t q w hd hs;have hb1:=Z01 w (.cells (Y8 t q) 25);obtain ⟨w1,hw1⟩: ∃w1,w1=w.alloc (.cells (Y8 t q) 25):=⟨_,rfl⟩;rw[<-hw1] at hb1;have hB1:Box5 w1 w.heap.size t q:=by rw[hw1]; exact Z02 w t q
  have HW:=Y1 hb1;have HX:=Y1 hB1;have HT:=Y1 (hs.next hb1);have HI:=Y1 hI;have HD:=Y1 hd;have HL:=Y1 hs.small.m;have hw1':=hw1.symm;obtain ⟨_,⟨a0,a1,a2,a3,a4⟩,_⟩:=hB1;simp only[Nat.zero_add] at a0 a1 a2 a3 a4;clear hw1 hb1 hI hd hs;go_enter Tryz.func27,Tryz.ntmps27
  go_wp2_with fail
  clear a0 a1 a2 a3 a4 hw1'
  go_loopw [3] (fun ii wr=> ∃k:Nat,k<=t.parts.length/\ii= .int .i64 (k:Int)/\Hid (∀(i:Nat) (hi:i < t.parts.length),i < k->Grd.known (t.parts[i]'hi)=true)/\Hid (Below w1.heap.size w1 wr)) (fun i _=>t.parts.length - (intOf i).toNat)
  case atStart=>exact ⟨0,Nat.zero_le _,rfl,Y1 (fun i hi h=>absurd h (by omega)),Y1 Y2⟩
  case round=>
   obtain ⟨k,hk,rfl,HK,HB⟩:=hrel;have hl:=HL.out;obtain ⟨_,⟨a0,a1,a2,a3,a4⟩,_⟩:=HX.out.next HB.out;simp only[Nat.zero_add] at a0 a1 a2 a3 a4;by_cases hlt:k < t.parts.length
   {have hi1: (k:Int) < (t.parts.length:Int):=by omega
    rcases (HT.out.next HB.out).part with h | ⟨g,off,rs,hP,hgP,h5,hra⟩
    {omega}
    have h5k:=h5 k hlt;have hrk:=hra k hlt;have hdp:deep (t.parts[k]'hlt)<=f:=by have h1:=Z0t (List.getElem_mem hlt); have h2:=HD.out; rw[Z0d] at h2; omega
    obtain ⟨p,hpp⟩: ∃p,p=t.parts[k]'hlt:=⟨_,rfl⟩;rw[<-hpp] at h5k hdp hrk;obtain ⟨qk,hqk⟩: ∃z,z=rs k:=⟨_,rfl⟩;rw[<-hqk] at h5k hrk;have HU:=Y1 (HI.out p qk wr hdp hrk);obtain ⟨x0,x1,x2,x3,x4⟩:=h5k;have HPP:=Y1 hpp;rw[hP] at a4;clear h5 hra hgP hdp hpp hqk hrk hP
    go_wp2_with fail
    refine HU.out.mono ?_;rintro e w2 ⟨rfl,hb2⟩;have HB2:=Y1 (Z00 HB.out hb2);clear hb2 HU x0 x1 x2 x3 x4 a0 a1 a2 a3 a4;cases hkn:Grd.known p with
    | false=>
     have HF:Hid (Grd.known t=false):=Y1 (by rw[Grd.known_eq,Z8t hlt (by rw[<-HPP.out]; exact hkn),Bool.and_false]);clear hkn;go_wp2;go_ret;exact ⟨by rw[HF.out]; rfl,Z00 HW.out HB2.out⟩
    | true=>
     have HK2:Hid (∀(i:Nat) (hi:i < t.parts.length),i < k+1->Grd.known (t.parts[i]'hi)=true):=Y1 (fun i hi h=>by
      by_cases e:i=k
      {subst e; rw[<-HPP.out]; exact hkn}
      · exact HK.out i hi (by omega))
     clear hkn;go_wp2
     go_roundw
     case rel=>exact ⟨k+1,by omega,by go_num,HK2,HB2⟩
     case measure=>simp[intOf]; omega}
   {obtain rfl:k=t.parts.length:=by omega
    have hi1: ¬(t.parts.length:Int) < (t.parts.length:Int):=by omega
    have HF:Hid (Grd.known t=(t.kind !=4)):=Y1 (by rw[Grd.known_eq,Z7b HK.out (Nat.le_refl _),Bool.and_true]; by_cases e:t.kind=4 <;> simp[e]);go_wp2;go_ret;exact ⟨by rw[HF.out]; rfl,Z00 HW.out HB.out⟩}
theorem Zb1 (s:Sh) (q:Ptr) (w:World) (hs:ShAt w w.heap.size q s):
 Y9 8 #[.agg (Y8 s q)] w (.bool (Grd.plain s)):=by
 have hb1:=Z01 w (.cells (Y8 s q) 25);obtain ⟨w1,hw1⟩: ∃w1,w1=w.alloc (.cells (Y8 s q) 25):=⟨_,rfl⟩;rw[<-hw1] at hb1;have hB1:Box5 w1 w.heap.size s q:=by rw[hw1]; exact Z02 w s q
 have HW:=Y1 hb1;have HA:=Y1 (hs.next hb1);have HBX:=Y1 hB1;obtain ⟨_,⟨a0,a1,a2,a3,a4⟩,_⟩:=hB1;simp only[Nat.zero_add] at a0 a1 a2 a3 a4;have hw1':=hw1.symm;clear hw1 hb1 hs;go_enter Tryz.func8,Tryz.ntmps8
 go_wp2_with fail
 refine (ZaB s q w1 HA.out).mono ?_;rintro e w2 ⟨rfl,hb2⟩;have HB2:=Y1 hb2;clear hb2 a0 a1 a2 a3 a4;by_cases ca:check s=0
 {have HCA:=Y1 ca;rw[ca];clear ca;have HU:=Y1 (Zb0 40 s q w2 (Z05 HCA.out).2.1 (HA.out.next HB2.out));obtain ⟨_,⟨a0,a1,a2,a3,a4⟩,_⟩:=HBX.out.next HB2.out;simp only[Nat.zero_add] at a0 a1 a2 a3 a4
  go_wp2_with fail
  refine HU.out.mono ?_;rintro e w3 ⟨rfl,hb3⟩;have HB3:=Y1 (Z00 HW.out (Z00 HB2.out hb3));clear hb3 HU a0 a1 a2 a3 a4;go_wp2;go_ret;exact ⟨by unfold Grd.plain; rw[decide_eq_true HCA.out,Bool.true_and]; rfl,HB3.out⟩}
 {have hca: (check s==0)=false:=by simpa using ca
  have HCA:=Y1 ca;clear ca;go_wp2;go_ret;exact ⟨by unfold Grd.plain; rw[decide_eq_false HCA.out,Bool.false_and]; rfl,Z00 HW.out HB2.out⟩}
section
variable (a b : Sh) (pa pb : Ptr) (w : World) (ha : ShAt w w.heap.size pa a) (hb : ShAt w w.heap.size pb b) (hg : WGlobs w)
include a b pa pb w ha hb hg
theorem ZaN:
 Y9 12 #[.agg (Y8 a pa),.agg (Y8 b pb)] w (.bool (Grd.near a b)):=by
 have hx1:=Z01 w (.cells (Y8 a pa) 25);obtain ⟨u1,hu1⟩: ∃u1,w.alloc (.cells (Y8 a pa) 25)=u1:=⟨_,rfl⟩;have hs1:u1.heap.size=w.heap.size+1:=by rw[<-hu1]; simp
 have hy1:=Z02 w a pa;rw[hu1] at hx1 hy1;have hx2:=Z01 u1 (.cells (Y8 b pb) 25);obtain ⟨W0,hu2⟩: ∃u2,u1.alloc (.cells (Y8 b pb) 25)=u2:=⟨_,rfl⟩;have hy2:=Z02 u1 b pb;rw[hu2] at hx2 hy2;rw[hs1] at hy2;have hb12:=Z00 hx1 hx2;have HXA:=Y1 (hy1.next hx2);have HXB:=Y1 hy2;have HAA:=Y1 (ha.next hb12);have HAB:=Y1 (hb.next hb12);have HG:=Y1 (hg.next hb12);have HB:=Y1 hb12;clear hx1 hx2 hy1 hy2 hb12 ha hb hg;go_enter Tryz.func12,Tryz.ntmps12;obtain ⟨_,⟨a0,a1,a2,a3,a4⟩,_⟩:=HXA.out;simp only[Nat.zero_add] at a0 a1 a2 a3 a4
 go_wp2_with fail
 refine (ZaB a pa W0 HAA.out).mono ?_;rintro e w1 ⟨rfl,hb1⟩;have HB1:=Y1 hb1;clear hb1 a0 a1 a2 a3 a4 hu1 hu2 hs1;by_cases ca:check a=0
 {have HCA:=Y1 ca;rw[ca];clear ca;obtain ⟨_,⟨b0,b1,b2,b3,b4⟩,_⟩:=HXB.out.next HB1.out;simp only[Nat.zero_add] at b0 b1 b2 b3 b4
  go_wp2_with fail
  refine (ZaB b pb w1 (HAB.out.next HB1.out)).mono ?_;rintro e w2 ⟨rfl,hb2⟩;have HB2:=Y1 (Z00 HB1.out hb2);clear hb2 b0 b1 b2 b3 b4;by_cases cb:check b=0
  {have HCB:=Y1 cb;rw[cb];clear cb;have hta:Two 40 a b:=⟨(Z05 HCA.out).2.2,(Z05 HCB.out).2.2,(Z05 HCA.out).2.1,(Z05 HCB.out).2.1,(Z05 HCA.out).1,(Z05 HCB.out).1⟩;have HU:=Y1 (Zbe 40 a b pa pb w2 hta (HAA.out.next HB2.out) (HAB.out.next HB2.out));obtain ⟨_,⟨a0,a1,a2,a3,a4⟩,_⟩:=HXA.out.next HB2.out;obtain ⟨_,⟨b0,b1,b2,b3,b4⟩,_⟩:=HXB.out.next HB2.out;simp only[Nat.zero_add] at a0 a1 a2 a3 a4 b0 b1 b2 b3 b4;clear hta
   go_wp2_with fail
   refine HU.out.mono ?_;rintro e w3 ⟨rfl,hb3⟩;have HB3:=Y1 (Z00 HB.out (Z00 HB2.out hb3));clear hb3 HU a0 a1 a2 a3 a4 b0 b1 b2 b3 b4;go_wp2;go_ret;exact ⟨by unfold Grd.near; rw[decide_eq_true HCA.out,decide_eq_true HCB.out]; rfl,HB3.out⟩}
  {have hcb: (check b==0)=false:=by simpa using cb
   have HCB:=Y1 cb;go_wp2;go_ret;exact ⟨by rw[Grd.near_off (fun h=>HCB.out h.2)]; rfl,Z00 HB.out HB2.out⟩}}
 {have hca: (check a==0)=false:=by simpa using ca
  have HCA:=Y1 ca;go_wp2;go_ret;exact ⟨by rw[Grd.near_off (fun h=>HCA.out h.1)]; rfl,Z00 HB.out HB1.out⟩}
theorem Zb2:
 Y9 10 #[.agg (Y8 a pa),.agg (Y8 b pb)] w (.bool (Grd.alike a b)):=by
 have hx1:=Z01 w (.cells (Y8 a pa) 25);obtain ⟨u1,hu1⟩: ∃u1,w.alloc (.cells (Y8 a pa) 25)=u1:=⟨_,rfl⟩;have hs1:u1.heap.size=w.heap.size+1:=by rw[<-hu1]; simp
 have hy1:=Z02 w a pa;rw[hu1] at hx1 hy1;have hx2:=Z01 u1 (.cells (Y8 b pb) 25);obtain ⟨W0,hu2⟩: ∃u2,u1.alloc (.cells (Y8 b pb) 25)=u2:=⟨_,rfl⟩;have hy2:=Z02 u1 b pb;rw[hu2] at hx2 hy2;rw[hs1] at hy2;have hb12:=Z00 hx1 hx2;have HXA:=Y1 (hy1.next hx2);have HXB:=Y1 hy2;have HAA:=Y1 (ha.next hb12);have HAB:=Y1 (hb.next hb12);have HG:=Y1 (hg.next hb12);have HB:=Y1 hb12;clear hx1 hx2 hy1 hy2 hb12 ha hb hg;go_enter Tryz.func10,Tryz.ntmps10;obtain ⟨_,⟨a0,a1,a2,a3,a4⟩,_⟩:=HXA.out;simp only[Nat.zero_add] at a0 a1 a2 a3 a4
 go_wp2_with fail
 refine (ZaB a pa W0 HAA.out).mono ?_;rintro e w1 ⟨rfl,hb1⟩;have HB1:=Y1 hb1;clear hb1 a0 a1 a2 a3 a4 hu1 hu2 hs1;by_cases ca:check a=0
 {have HCA:=Y1 ca;rw[ca];clear ca;obtain ⟨_,⟨b0,b1,b2,b3,b4⟩,_⟩:=HXB.out.next HB1.out;simp only[Nat.zero_add] at b0 b1 b2 b3 b4
  go_wp2_with fail
  refine (ZaB b pb w1 (HAB.out.next HB1.out)).mono ?_;rintro e w2 ⟨rfl,hb2⟩;have HB2:=Y1 (Z00 HB1.out hb2);clear hb2 b0 b1 b2 b3 b4;by_cases cb:check b=0
  {have HCB:=Y1 cb;rw[cb];clear cb;have hta:Two 40 a b:=⟨(Z05 HCA.out).2.2,(Z05 HCB.out).2.2,(Z05 HCA.out).2.1,(Z05 HCB.out).2.1,(Z05 HCA.out).1,(Z05 HCB.out).1⟩;have HU:=Y1 (ZaZ 40 a b pa pb w2 hta (HAA.out.next HB2.out) (HAB.out.next HB2.out));obtain ⟨_,⟨a0,a1,a2,a3,a4⟩,_⟩:=HXA.out.next HB2.out;obtain ⟨_,⟨b0,b1,b2,b3,b4⟩,_⟩:=HXB.out.next HB2.out;simp only[Nat.zero_add] at a0 a1 a2 a3 a4 b0 b1 b2 b3 b4;clear hta
   go_wp2_with fail
   refine HU.out.mono ?_;rintro e w3 ⟨rfl,hb3⟩;have HB3:=Y1 (Z00 HB.out (Z00 HB2.out hb3));clear hb3 HU a0 a1 a2 a3 a4 b0 b1 b2 b3 b4;go_wp2;go_ret;exact ⟨by unfold Grd.alike; rw[decide_eq_true HCA.out,decide_eq_true HCB.out]; rfl,HB3.out⟩}
  {have hcb: (check b==0)=false:=by simpa using cb
   have HCB:=Y1 cb;go_wp2;go_ret;exact ⟨by rw[Grd.alike_off (fun h=>HCB.out h.2)]; rfl,Z00 HB.out HB2.out⟩}}
 {have hca: (check a==0)=false:=by simpa using ca
  have HCA:=Y1 ca;go_wp2;go_ret;exact ⟨by rw[Grd.alike_off (fun h=>HCA.out h.1)]; rfl,Z00 HB.out HB1.out⟩}
end
end SubM
end Go.Proofs.YtkhoflciahkphaaGreatDoor
namespace Go.Proofs.YtkhoflciahkphaaGreatDoor
open Go.RowKit Shp Sub
namespace SubM
def grdNeT (a:Sh) (pa:Ptr) (b:Sh) (pb:Ptr) (v1 v2 v3 v4:Bool):Nat->Want
 | 0=> .val (.agg (Y8 a pa))
 | 1=> .val (.bool v1)
 | 2=> .val (.agg (Y8 a pa))
 | 3=> .val (.bool v1)
 | 4=> .val (.bool true)
 | 5=> .val (.bool true)
 | 6=> .val (.agg (Y8 a pa))
 | 7=> .val (.agg (Y8 b pb))
 | 8=> .val (.bool v2)
 | 9=> .val (.agg (Y8 a pa))
 | 10=> .val (.agg (Y8 b pb))
 | 11=> .val (.bool v2)
 | 12=> .val (.bool true)
 | 13=> .val (.bool true)
 | 14=> .val (.bool true)
 | 15=> .val (.agg (Y8 a pa))
 | 16=> .val (.agg (Y8 b pb))
 | 17=> .val (.bool v3)
 | 18=> .val (.agg (Y8 a pa))
 | 19=> .val (.agg (Y8 b pb))
 | 20=> .val (.bool v3)
 | 21=> .val (.bool true)
 | 22=> .val (.bool true)
 | 23=> .val (.bool true)
 | 24=> .val (.agg (Y8 b pb))
 | 25=> .val (.agg (Y8 a pa))
 | 26=> .val (.bool v4)
 | 27=> .val (.agg (Y8 b pb))
 | 28=> .val (.agg (Y8 a pa))
 | 29=> .val (.bool v4)
 | 30=> .val (.bool true)
 | 31=> .val (.bool true)
 | 32=> .val (.bool true)
 | 33=> .val (.bool true)
 | 34=> .val (.bool true)
 | 35=> .val (.bool true)
 | _=> .any
theorem gradNears_walk (a:Sh) (pa:Ptr) (b:Sh) (pb:Ptr) (w:World) (ha:ShAt w w.heap.size pa a) (hb:ShAt w w.heap.size pb b) (hg:WGlobs w):
 Y9 3 #[.agg (Y8 a pa),.agg (Y8 b pb)] w (.bool true):=by
 have hx1:=Z01 w (.cells (Y8 a pa) 25);obtain ⟨q1,hu1⟩: ∃z,w.alloc (.cells (Y8 a pa) 25)=z:=⟨_,rfl⟩;have hs1:q1.heap.size=w.heap.size+1:=by rw[<-hu1]; simp
 have hy1:=Z02 w a pa;rw[hu1] at hx1 hy1;have hx2:=Z01 q1 (.cells (Y8 b pb) 25);obtain ⟨q2,hu2⟩: ∃z,q1.alloc (.cells (Y8 b pb) 25)=z:=⟨_,rfl⟩;have hs2:q2.heap.size=w.heap.size+1+1:=by rw[<-hu2]; simp[hs1]
 have hy2:=Z02 q1 b pb;rw[hu2] at hx2 hy2;rw[hs1] at hy2;have hbw:=(Z00 hx1 hx2);have HXa:=Y1 (hy1.next hx2);have HAa:=Y1 (ha.next hbw);have HXb:=Y1 hy2;have HAb:=Y1 (hb.next hbw);have HG:=Y1 (hg.next hbw);have HB1:=Y1 hbw;have HB:=Y1 (Below.refl q2.heap.size q2);clear hbw hg hx1 hy1 ha hx2 hy2 hb;obtain ⟨v1,hv1⟩: ∃z,z=Grd.plain a:=⟨_,rfl⟩;obtain ⟨v2,hv2⟩: ∃z,z=Grd.alike a b:=⟨_,rfl⟩;obtain ⟨v3,hv3⟩: ∃z,z=Grd.near a b:=⟨_,rfl⟩;obtain ⟨v4,hv4⟩: ∃z,z=Grd.near b a:=⟨_,rfl⟩;have HV1:=Y1 hv1;have HV2:=Y1 hv2;have HV3:=Y1 hv3;have HV4:=Y1 hv4;clear hv1 hv2 hv3 hv4;go_enter Tryz.func3,Tryz.ntmps3
 go_wp2_with fail
 clear hu1 hs1 hu2 hs2;refine Z1A (rs:= [0,1,2,3,4,5,6,7,8,9,10,11,12,13,14,15,16,17,18,19,20,21,22,23,24,25,26,27,28,29,30,31,32,33,34,35])
  (fun u'=> { tmps:=#[.agg (Y8 a pa),.agg (Y8 b pb),.pointer (some { block:=w.heap.size,off:=0 }),.pointer (some { block:=w.heap.size+1,off:=0 }),u' 35,u' 0,u' 1,u' 2,u' 3,u' 4,u' 5,u' 6,u' 7,u' 8,u' 9,u' 10,u' 11,u' 12,u' 13,u' 14,u' 15,u' 16,u' 17,u' 18,u' 19,u' 20,u' 21,u' 22,u' 23,u' 24,u' 25,u' 26,u' 27,u' 28,u' 29,u' 30,u' 31,u' 32,u' 33,u' 34],defers:= [] })
  (fun j=>([undef,undef,undef,undef,undef,undef,undef,undef,undef,undef,undef,undef,undef,undef,undef,undef,undef,undef,undef,undef,undef,undef,undef,undef,undef,undef,undef,undef,undef,undef,undef,undef,undef,undef,undef,.bool false]:List Value).getD j undef) (grdNeT a pa b pb v1 v2 v3 v4) (fun W=>Below q2.heap.size q2 W) (by kernel_rfl) (by kernel_rfl) (by kernel_rfl) Y2.drew ?_ ?_
 refine StepsAt.cons _ rfl (fun u' W K' hJ hd hK=> ?_) ?_
 {obtain ⟨_,⟨y0,y1,y2,y3,y4⟩,_⟩:=HXa.out.next hJ;simp only[Nat.zero_add] at y0 y1 y2 y3 y4;refine Y0 hK hJ rfl rfl rfl ?_
  try dsimp only
  go_simp}
 refine StepsAt.cons _ rfl (fun u' W K' hJ hd hK=> ?_) ?_
 {have d0:_=_:=hd 0 (by kernel_rfl);refine Z0j (f:=7) (args:=#[.agg (Y8 a pa)]) (W':=W) rfl ?_ ((Z1T a pa W (HAa.out.next hJ) (HG.out.next hJ)).mono fun e w' h=>⟨_,h.1,hK.out _ _ (by rw[HV1.out]; rfl) (Z00 hJ h.2) h.2⟩)
  try dsimp only
  go_simp}
 refine StepsAt.cons _ rfl (fun u' W K' hJ hd hK=> ?_) ?_
 {obtain ⟨_,⟨y0,y1,y2,y3,y4⟩,_⟩:=HXa.out.next hJ;simp only[Nat.zero_add] at y0 y1 y2 y3 y4;refine Y0 hK hJ rfl rfl rfl ?_
  try dsimp only
  go_simp}
 refine StepsAt.cons _ rfl (fun u' W K' hJ hd hK=> ?_) ?_
 {have d2:_=_:=hd 2 (by kernel_rfl);refine Z0j (f:=8) (args:=#[.agg (Y8 a pa)]) (W':=W) rfl ?_ ((Zb1 a pa W (HAa.out.next hJ)).mono fun e w' h=>⟨_,h.1,hK.out _ _ (by rw[HV1.out]; rfl) (Z00 hJ h.2) h.2⟩)
  try dsimp only
  go_simp}
 refine StepsAt.cons _ rfl (fun u' W K' hJ hd hK=> ?_) ?_
 {have d1:_=_:=hd 1 (by kernel_rfl);have d3:_=_:=hd 3 (by kernel_rfl);refine Y0 hK hJ rfl rfl rfl ?_
  try dsimp only
  go_simp}
 refine StepsAt.cons _ rfl (fun u' W K' hJ hd hK=> ?_) ?_
 {have d4:_=_:=hd 4 (by kernel_rfl);refine Y0 hK hJ rfl rfl rfl ?_
  try dsimp only
  go_simp}
 refine StepsAt.cons _ rfl (fun u' W K' hJ hd hK=> ?_) ?_
 {have dg:_=_:=hd 5 (by kernel_rfl);obtain ⟨_,⟨y0,y1,y2,y3,y4⟩,_⟩:=HXa.out.next hJ;simp only[Nat.zero_add] at y0 y1 y2 y3 y4;refine Y0 hK hJ rfl rfl ?_ ?_
  {simp[Region.wanted,yielded,dg]}
  {try dsimp only
   go_simp}}
 refine StepsAt.cons _ rfl (fun u' W K' hJ hd hK=> ?_) ?_
 {have dg:_=_:=hd 5 (by kernel_rfl);obtain ⟨_,⟨y0,y1,y2,y3,y4⟩,_⟩:=HXb.out.next hJ;simp only[Nat.zero_add] at y0 y1 y2 y3 y4;refine Y0 hK hJ rfl rfl ?_ ?_
  {simp[Region.wanted,yielded,dg]}
  {try dsimp only
   go_simp}}
 refine StepsAt.cons _ rfl (fun u' W K' hJ hd hK=> ?_) ?_
 {have dg:_=_:=hd 5 (by kernel_rfl);have d6:_=_:=hd 6 (by kernel_rfl);have d7:_=_:=hd 7 (by kernel_rfl);refine Z0j (f:=9) (args:=#[.agg (Y8 a pa),.agg (Y8 b pb)]) (W':=W) ?_ ?_ ((Z0h a b pa pb W (HAa.out.next hJ) (HAb.out.next hJ) (HG.out.next hJ)).mono fun e w' h=>⟨_,h.1,hK.out _ _ (by rw[HV2.out]; rfl) (Z00 hJ h.2) h.2⟩)
  {simp[Region.wanted,yielded,dg]}
  {try dsimp only
   go_simp}}
 refine StepsAt.cons _ rfl (fun u' W K' hJ hd hK=> ?_) ?_
 {have dg:_=_:=hd 5 (by kernel_rfl);obtain ⟨_,⟨y0,y1,y2,y3,y4⟩,_⟩:=HXa.out.next hJ;simp only[Nat.zero_add] at y0 y1 y2 y3 y4;refine Y0 hK hJ rfl rfl ?_ ?_
  {simp[Region.wanted,yielded,dg]}
  {try dsimp only
   go_simp}}
 refine StepsAt.cons _ rfl (fun u' W K' hJ hd hK=> ?_) ?_
 {have dg:_=_:=hd 5 (by kernel_rfl);obtain ⟨_,⟨y0,y1,y2,y3,y4⟩,_⟩:=HXb.out.next hJ;simp only[Nat.zero_add] at y0 y1 y2 y3 y4;refine Y0 hK hJ rfl rfl ?_ ?_
  {simp[Region.wanted,yielded,dg]}
  {try dsimp only
   go_simp}}
 refine StepsAt.cons _ rfl (fun u' W K' hJ hd hK=> ?_) ?_
 {have dg:_=_:=hd 5 (by kernel_rfl);have d9:_=_:=hd 9 (by kernel_rfl);have d10:_=_:=hd 10 (by kernel_rfl);refine Z0j (f:=10) (args:=#[.agg (Y8 a pa),.agg (Y8 b pb)]) (W':=W) ?_ ?_ ((Zb2 a b pa pb W (HAa.out.next hJ) (HAb.out.next hJ) (HG.out.next hJ)).mono fun e w' h=>⟨_,h.1,hK.out _ _ (by rw[HV2.out]; rfl) (Z00 hJ h.2) h.2⟩)
  {simp[Region.wanted,yielded,dg]}
  {try dsimp only
   go_simp}}
 refine StepsAt.cons _ rfl (fun u' W K' hJ hd hK=> ?_) ?_
 {have dg:_=_:=hd 5 (by kernel_rfl);have d8:_=_:=hd 8 (by kernel_rfl);have d11:_=_:=hd 11 (by kernel_rfl);refine Y0 hK hJ rfl rfl ?_ ?_
  {simp[Region.wanted,yielded,dg]}
  {try dsimp only
   go_simp}}
 refine StepsAt.cons _ rfl (fun u' W K' hJ hd hK=> ?_) ?_
 {have d5:_=_:=hd 5 (by kernel_rfl);have d12:_=_:=hd 12 (by kernel_rfl);refine Y0 hK hJ rfl rfl rfl ?_
  try dsimp only
  go_simp}
 refine StepsAt.cons _ rfl (fun u' W K' hJ hd hK=> ?_) ?_
 {have d13:_=_:=hd 13 (by kernel_rfl);refine Y0 hK hJ rfl rfl rfl ?_
  try dsimp only
  go_simp}
 refine StepsAt.cons _ rfl (fun u' W K' hJ hd hK=> ?_) ?_
 {have dg:_=_:=hd 14 (by kernel_rfl);obtain ⟨_,⟨y0,y1,y2,y3,y4⟩,_⟩:=HXa.out.next hJ;simp only[Nat.zero_add] at y0 y1 y2 y3 y4;refine Y0 hK hJ rfl rfl ?_ ?_
  {simp[Region.wanted,yielded,dg]}
  {try dsimp only
   go_simp}}
 refine StepsAt.cons _ rfl (fun u' W K' hJ hd hK=> ?_) ?_
 {have dg:_=_:=hd 14 (by kernel_rfl);obtain ⟨_,⟨y0,y1,y2,y3,y4⟩,_⟩:=HXb.out.next hJ;simp only[Nat.zero_add] at y0 y1 y2 y3 y4;refine Y0 hK hJ rfl rfl ?_ ?_
  {simp[Region.wanted,yielded,dg]}
  {try dsimp only
   go_simp}}
 refine StepsAt.cons _ rfl (fun u' W K' hJ hd hK=> ?_) ?_
 {have dg:_=_:=hd 14 (by kernel_rfl);have d15:_=_:=hd 15 (by kernel_rfl);have d16:_=_:=hd 16 (by kernel_rfl);refine Z0j (f:=11) (args:=#[.agg (Y8 a pa),.agg (Y8 b pb)]) (W':=W) ?_ ?_ ((Z0a a b pa pb W (HAa.out.next hJ) (HAb.out.next hJ) (HG.out.next hJ)).mono fun e w' h=>⟨_,h.1,hK.out _ _ (by rw[HV3.out]; rfl) (Z00 hJ h.2) h.2⟩)
  {simp[Region.wanted,yielded,dg]}
  {try dsimp only
   go_simp}}
 refine StepsAt.cons _ rfl (fun u' W K' hJ hd hK=> ?_) ?_
 {have dg:_=_:=hd 14 (by kernel_rfl);obtain ⟨_,⟨y0,y1,y2,y3,y4⟩,_⟩:=HXa.out.next hJ;simp only[Nat.zero_add] at y0 y1 y2 y3 y4;refine Y0 hK hJ rfl rfl ?_ ?_
  {simp[Region.wanted,yielded,dg]}
  {try dsimp only
   go_simp}}
 refine StepsAt.cons _ rfl (fun u' W K' hJ hd hK=> ?_) ?_
 {have dg:_=_:=hd 14 (by kernel_rfl);obtain ⟨_,⟨y0,y1,y2,y3,y4⟩,_⟩:=HXb.out.next hJ;simp only[Nat.zero_add] at y0 y1 y2 y3 y4;refine Y0 hK hJ rfl rfl ?_ ?_
  {simp[Region.wanted,yielded,dg]}
  {try dsimp only
   go_simp}}
 refine StepsAt.cons _ rfl (fun u' W K' hJ hd hK=> ?_) ?_
 {have dg:_=_:=hd 14 (by kernel_rfl);have d18:_=_:=hd 18 (by kernel_rfl);have d19:_=_:=hd 19 (by kernel_rfl);refine Z0j (f:=12) (args:=#[.agg (Y8 a pa),.agg (Y8 b pb)]) (W':=W) ?_ ?_ ((ZaN a b pa pb W (HAa.out.next hJ) (HAb.out.next hJ) (HG.out.next hJ)).mono fun e w' h=>⟨_,h.1,hK.out _ _ (by rw[HV3.out]; rfl) (Z00 hJ h.2) h.2⟩)
  {simp[Region.wanted,yielded,dg]}
  {try dsimp only
   go_simp}}
 refine StepsAt.cons _ rfl (fun u' W K' hJ hd hK=> ?_) ?_
 {have dg:_=_:=hd 14 (by kernel_rfl);have d17:_=_:=hd 17 (by kernel_rfl);have d20:_=_:=hd 20 (by kernel_rfl);refine Y0 hK hJ rfl rfl ?_ ?_
  {simp[Region.wanted,yielded,dg]}
  {try dsimp only
   go_simp}}
 refine StepsAt.cons _ rfl (fun u' W K' hJ hd hK=> ?_) ?_
 {have d14:_=_:=hd 14 (by kernel_rfl);have d21:_=_:=hd 21 (by kernel_rfl);refine Y0 hK hJ rfl rfl rfl ?_
  try dsimp only
  go_simp}
 refine StepsAt.cons _ rfl (fun u' W K' hJ hd hK=> ?_) ?_
 {have d22:_=_:=hd 22 (by kernel_rfl);refine Y0 hK hJ rfl rfl rfl ?_
  try dsimp only
  go_simp}
 refine StepsAt.cons _ rfl (fun u' W K' hJ hd hK=> ?_) ?_
 {have dg:_=_:=hd 23 (by kernel_rfl);obtain ⟨_,⟨y0,y1,y2,y3,y4⟩,_⟩:=HXb.out.next hJ;simp only[Nat.zero_add] at y0 y1 y2 y3 y4;refine Y0 hK hJ rfl rfl ?_ ?_
  {simp[Region.wanted,yielded,dg]}
  {try dsimp only
   go_simp}}
 refine StepsAt.cons _ rfl (fun u' W K' hJ hd hK=> ?_) ?_
 {have dg:_=_:=hd 23 (by kernel_rfl);obtain ⟨_,⟨y0,y1,y2,y3,y4⟩,_⟩:=HXa.out.next hJ;simp only[Nat.zero_add] at y0 y1 y2 y3 y4;refine Y0 hK hJ rfl rfl ?_ ?_
  {simp[Region.wanted,yielded,dg]}
  {try dsimp only
   go_simp}}
 refine StepsAt.cons _ rfl (fun u' W K' hJ hd hK=> ?_) ?_
 {have dg:_=_:=hd 23 (by kernel_rfl);have d24:_=_:=hd 24 (by kernel_rfl);have d25:_=_:=hd 25 (by kernel_rfl);refine Z0j (f:=11) (args:=#[.agg (Y8 b pb),.agg (Y8 a pa)]) (W':=W) ?_ ?_ ((Z0a b a pb pa W (HAb.out.next hJ) (HAa.out.next hJ) (HG.out.next hJ)).mono fun e w' h=>⟨_,h.1,hK.out _ _ (by rw[HV4.out]; rfl) (Z00 hJ h.2) h.2⟩)
  {simp[Region.wanted,yielded,dg]}
  {try dsimp only
   go_simp}}
 refine StepsAt.cons _ rfl (fun u' W K' hJ hd hK=> ?_) ?_
 {have dg:_=_:=hd 23 (by kernel_rfl);obtain ⟨_,⟨y0,y1,y2,y3,y4⟩,_⟩:=HXb.out.next hJ;simp only[Nat.zero_add] at y0 y1 y2 y3 y4;refine Y0 hK hJ rfl rfl ?_ ?_
  {simp[Region.wanted,yielded,dg]}
  {try dsimp only
   go_simp}}
 refine StepsAt.cons _ rfl (fun u' W K' hJ hd hK=> ?_) ?_
 {have dg:_=_:=hd 23 (by kernel_rfl);obtain ⟨_,⟨y0,y1,y2,y3,y4⟩,_⟩:=HXa.out.next hJ;simp only[Nat.zero_add] at y0 y1 y2 y3 y4;refine Y0 hK hJ rfl rfl ?_ ?_
  {simp[Region.wanted,yielded,dg]}
  {try dsimp only
   go_simp}}
 refine StepsAt.cons _ rfl (fun u' W K' hJ hd hK=> ?_) ?_
 {have dg:_=_:=hd 23 (by kernel_rfl);have d27:_=_:=hd 27 (by kernel_rfl);have d28:_=_:=hd 28 (by kernel_rfl);refine Z0j (f:=12) (args:=#[.agg (Y8 b pb),.agg (Y8 a pa)]) (W':=W) ?_ ?_ ((ZaN b a pb pa W (HAb.out.next hJ) (HAa.out.next hJ) (HG.out.next hJ)).mono fun e w' h=>⟨_,h.1,hK.out _ _ (by rw[HV4.out]; rfl) (Z00 hJ h.2) h.2⟩)
  {simp[Region.wanted,yielded,dg]}
  {try dsimp only
   go_simp}}
 refine StepsAt.cons _ rfl (fun u' W K' hJ hd hK=> ?_) ?_
 {have dg:_=_:=hd 23 (by kernel_rfl);have d26:_=_:=hd 26 (by kernel_rfl);have d29:_=_:=hd 29 (by kernel_rfl);refine Y0 hK hJ rfl rfl ?_ ?_
  {simp[Region.wanted,yielded,dg]}
  {try dsimp only
   go_simp}}
 refine StepsAt.cons _ rfl (fun u' W K' hJ hd hK=> ?_) ?_
 {have d23:_=_:=hd 23 (by kernel_rfl);have d30:_=_:=hd 30 (by kernel_rfl);refine Y0 hK hJ rfl rfl rfl ?_
  try dsimp only
  go_simp}
 refine StepsAt.cons _ rfl (fun u' W K' hJ hd hK=> ?_) ?_
 {have d31:_=_:=hd 31 (by kernel_rfl);refine Y0 hK hJ rfl rfl rfl ?_
  try dsimp only
  go_simp}
 refine StepsAt.cons _ rfl (fun u' W K' hJ hd hK=> ?_) ?_
 {have dg:_=_:=hd 32 (by kernel_rfl);refine Z0j (f:=13) (args:=#[]) (W':=W) ?_ ?_ ((Z07 W (HG.out.next hJ)).mono fun e w' h=>⟨_,h.1,hK.out _ _ rfl (Z00 hJ h.2) h.2⟩)
  {simp[Region.wanted,yielded,dg]}
  {try dsimp only
   go_simp}}
 refine StepsAt.cons _ rfl (fun u' W K' hJ hd hK=> ?_) ?_
 {have d32:_=_:=hd 32 (by kernel_rfl);have d33:_=_:=hd 33 (by kernel_rfl);refine Y0 hK hJ rfl rfl rfl ?_
  try dsimp only
  go_simp}
 refine StepsAt.cons _ rfl (fun u' W K' hJ hd hK=> ?_) StepsAt.nil
 {have d34:_=_:=hd 34 (by kernel_rfl);refine Y0 hK hJ rfl rfl rfl ?_
  try dsimp only
  go_simp}
 intro u' W' hJ' hok
 try dsimp only
 rw[show u' 35= .bool true from hok 35 (by decide)];clear hok;go_wp2;go_ret;exact ⟨rfl,Z00 HB1.out hJ'⟩
end SubM
end Go.Proofs.YtkhoflciahkphaaGreatDoor
namespace Go.Proofs.YtkhoflciahkphaaGreatDoor
section
open Go.RowKit Shp
theorem Z0A {H:Type} {enc:TypeId×Value->H} {W:World} {base b0:Nat} {held:Bool} {v:Value} {d:DataW H} {p:List MemPlace}
 (hv:Value.okWide Tryz.prog W .any b0 25 v) (h:DataW.Trod enc Tryz.prog W base (fun _=>true) held 25 v d p):
 ∃(t:Sh) (q:Ptr),v= .agg (Y8 t q)/\ShAt W W.heap.size q t:=by
 obtain ⟨cs,rfl,hsz⟩:=Go.WideShapes.okWide_struct Tryz.underlying25 hv;obtain ⟨n,hn⟩:=h;obtain ⟨t,q,hcs,hat⟩:=Z7F n hn;refine ⟨t,q, ?_,hat⟩;congr 1;apply Array.ext';exact hcs
end
end Go.Proofs.YtkhoflciahkphaaGreatDoor
namespace Go.Proofs.YtkhoflciahkphaaGreatDoor.gradualNears
section
open Go.ChangeShapes Go.WideShapes Go.ChangeAt Go.RowKit
open Go.ChangeMaps (open_string shut_string)
theorem walk (w:World) (u0:Shp.Sh) (p0:Ptr) (S0:ShAt w w.heap.size p0 u0) (u1:Shp.Sh) (p1:Ptr) (S1:ShAt w w.heap.size p1 u1) (hg:WGlobs w):Y9 3 #[.agg (Y8 u0 p0),.agg (Y8 u1 p1)] w (.bool true):=SubM.gradNears_walk u0 p0 u1 p1 w S0 S1 hg
theorem own:ownKnob Tryz.prog.godebug=none:=by kernel_rfl
theorem laidOut:laidOutB Tryz.prog=true:=by kernel_rfl
theorem contract (H:Type) (enc:TypeId×Value->H) (W:World) (base:Nat) (args:Array Value) (ds gs:List (DataW H)) (before:List MemPlace)
 (hval0: ∀(j:Nat) t v,Tryz.f3.params[j]? =some t->args[j]? =some v->Value.okWide Tryz.prog W .any base t v)
 (hW:DataW.Whole enc Tryz.prog Tryz.f3.params.toList Rows.gradualNearsSpec.vars false W args.toList ds gs before) (hL:laidMetH Tryz.prog Rows.gradualNearsRow.laid W) (hsz0: (DataW.weightsEach Tryz.prog (Tryz.f3.params.toList++Rows.gradualNearsSpec.plain.varTypes Tryz.prog) (ds++gs)).all (· <=reachBytes)=true):
 Calls Tryz.prog 3 args W fun e W'=> ∃v,e= .returned v/\Rows.gradualNearsSpec.post enc Tryz.prog Tryz.f3 false true false false W args v W':=by
 have hval: ∀(j:Nat) t v,Tryz.f3.params[j]? =some t->args[j]? =some v->Value.okWide Tryz.prog W .any base t v:=hval0;have hsz: (DataW.weightsEach Tryz.prog (Tryz.f3.params.toList++Rows.gradualNearsSpec.plain.varTypes Tryz.prog) (ds++gs)).all (· <=reachBytes)=true:=hsz0
 have hW':=hW;obtain ⟨p,q,hA0,hV,rfl,hfz,hnd⟩:=hW;have hA:DataW.TrodAll enc Tryz.prog W 0 (fun _=>true) true Tryz.f3.params.toList args.toList ds p:=hA0;rw[Tryz.params3] at hA hval hsz;obtain ⟨v0,vs0,d0,ds0,p0,q0,hargs,rfl,rfl,h0,t0⟩:=trodAll_cons hA;obtain ⟨v1,vs1,d1,ds1,p1,q1,rfl,rfl,rfl,h1,t1⟩:=trodAll_cons t0;obtain ⟨rfl,rfl,rfl⟩:=trodAll_nil t1;obtain rfl:args=#[v0,v1]:=by cases args; simp_all
 obtain ⟨rfl,rfl⟩:=trodVars_none hV;have k0:=h0;have lt0: ∀x∈p0,x.block < W.heap.size:=by obtain ⟨m,hm⟩:=k0; exact DataW.trod_lt m _ _ _ hm
 obtain ⟨u0,y0,rfl,S0⟩:=Z0A (hval 0 25 v0 rfl rfl) h0;have k1:=h1;have lt1: ∀x∈p1,x.block < W.heap.size:=by obtain ⟨m,hm⟩:=k1; exact DataW.trod_lt m _ _ _ hm
 obtain ⟨u1,y1,rfl,S1⟩:=Z0A (hval 1 25 v1 rfl rfl) h1;clear hA0 hval0;rw[MakeChecks.laidMetH_plain _ _ _ (by kernel_rfl)] at hL;have hglob:WGlobs W:=Z22 hL (List.Mem.head _);refine (walk W u0 y0 S0 u1 y1 S1 hglob).mono fun e W' ⟨he,bel⟩=> ?_;subst he;exact ⟨_,rfl,_,_,_,[],_,[],hW',trodAll_mk1 (shut_bool Tryz.underlying4 _),(trodAll_cons_mk (Below.trod laidOut (by kernel_rfl) (of_decide_eq_true (by kernel_rfl)) k0 bel lt0) (trodAll_cons_mk (Below.trod laidOut (by kernel_rfl) (of_decide_eq_true (by kernel_rfl)) k1 bel lt1) trodAll_mk0)),rfl,bel.frame _,fun h=>by cases h⟩
theorem lifted (os:Os) (started:os.Started) (H:Type) (enc:TypeId×Value->H):
 ReturnsInHanded {} Tryz.checked os 3 .any (fun w args=>(Rows.gradualNearsSpec.pre enc Tryz.prog Tryz.f3 Rows.gradualNearsRow.domain false w args/\laidMetH Tryz.prog Rows.gradualNearsRow.laid w)/\sizedMet enc Tryz.prog Tryz.f3 (OpenSpec.ofChange Rows.gradualNearsSpec) false w args)
  (Rows.gradualNearsSpec.post enc Tryz.prog Tryz.f3 false true false false):=by
 refine returnsInHanded_of_change_and (C:=Tryz.checked) (X:=fun w _=>laidMetH Tryz.prog Rows.gradualNearsRow.laid w) (fun _ _ _ hh h=>h.of_heap hh) own started (by kernel_rfl) Tryz.func3
  (ChangeSpec.witness_shaped (enc:=enc) (C:=Tryz.checked) (os:=os) (X:=fun w _=>laidMetH Tryz.prog Rows.gradualNearsRow.laid w) false (World.laidAll Tryz.prog os Rows.gradualNearsRow.laid) #[(.agg #[.int .i64 0,.string ByteArray.empty,.string ByteArray.empty,.slice none 0 0,.slice none 0 0]),(.agg #[.int .i64 0,.string ByteArray.empty,.string ByteArray.empty,.slice none 0 0,.slice none 0 0])] 8 (World.laidAll_os _ _ _)
   (World.shaped_of_ZipB (by kernel_rfl) (by kernel_rfl)) (by kernel_rfl) (by kernel_rfl) (by kernel_rfl)
   (by rw[MakeChecks.laidMetH_plain _ _ _ (by kernel_rfl)]; exact laidMet_laidAll _ (by kernel_rfl) (by kernel_rfl))) ?_
 intro W base args ds gs before hval hW _ hsz hL _;exact contract H enc W base args ds gs before hval hW hL hsz
theorem proved:Rows.GradualNearsSaid:=
 OpenClaim.holds_of_wide 3 Tryz.f3 rfl rfl rfl rfl rfl rfl rfl ⟨rfl,rfl,rfl,rfl,rfl⟩ rfl rfl rfl rfl rfl (by kernel_rfl) Tryz.func3 (by kernel_rfl)
  (of_decide_eq_true (by kernel_rfl)) (by unfold Func.isWrapper; first | (rw[if_pos (by decide+kernel)]; kernel_rfl) | (rw[if_neg (by decide+kernel)]; exact ⟨rfl,rfl⟩))
  (fun os started H enc _=>lifted os started H enc)
theorem card:Rows.GradualNearsCardSaid:=
 Claim7.holds_tied_plain_at .later [] [.data] true _ false proved (fun _ h=>by cases h) (by kernel_rfl) (fun _ h=>by cases h) gradualNears_row_tie rfl ⟨rfl,rfl⟩ (by kernel_rfl) rfl
  (fun f fn hf hfn=>by
   obtain rfl:f=3:=Option.some.inj ((show Tryz.prog.funcNamed "pandect/pandectlaw13.GradualNears" =some 3 by kernel_rfl).symm.trans hf) |>.symm;obtain rfl:fn=Tryz.f3:=(Option.some.inj (Tryz.func3.symm.trans hfn)).symm;exact ⟨by kernel_rfl,fun j t ht=>by
    rw[Tryz.params3] at ht;have hm:t∈ [25,25]:=by simpa using Array.mem_of_getElem? ht
    have hall: ([25,25].all fun u=> !Tryz.prog.wantsStandIn u)=true:=by kernel_rfl
    exact (show Tryz.prog.wantsStandIn t=false by simpa using List.all_eq_true.1 hall t hm)⟩)
  (by kernel_rfl)
end
end Go.Proofs.YtkhoflciahkphaaGreatDoor.gradualNears
