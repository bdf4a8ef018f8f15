/- What the proofs of ExpandClosed, ExpandTwice want, part 9. -/
import Derived.WalkLawsBesides
import Derived.Test.YtfgcocpdaghlnaaDoorK0n8
set_option linter.unusedVariables false
set_option linter.unusedSimpArgs false
set_option linter.unusedSectionVars false
set_option maxRecDepth 100000
set_option maxHeartbeats 16000000
namespace Go.Proofs.YtfgcocpdaghlnaaDoor
section
open Go.RowKit Shp
def Z0o (p:Sh->Bool) (l:List Sh):Int:=match l.findIdx? p with
 | some i=>(i:Int)
 | none=> -1
theorem Z4t {p:Sh->Bool} {l:List Sh} {i:Nat} (hi:i < l.length) (h:p (l[i]'hi)=true) (hn: ∀j (hj:j < l.length),j < i->p (l[j]'hj)=false):Z0o p l=(i:Int):=by
 have:l.findIdx? p=some i:=List.findIdx?_eq_some_iff_getElem.2 ⟨hi,h,fun j hj=>by rw[hn j (by omega) hj]; simp⟩;unfold Z0o; rw[this]
theorem Z3m {p:Sh->Bool} {l:List Sh} (hn: ∀j (hj:j < l.length),p (l[j]'hj)=false):Z0o p l= -1:=by
 have:l.findIdx? p=none:=List.findIdx?_eq_none_iff.2 (fun x hx=>by
  obtain ⟨j,hj,rfl⟩:=List.getElem_of_mem hx;exact hn j hj)
 unfold Z0o; rw[this]
theorem Z44 (p:Sh->Bool) (l:List Sh):decide (0<=Z0o p l)=l.any p:=by
 unfold Z0o;cases h:l.findIdx? p with
 | some i=>
  obtain ⟨hi,hp,_⟩:=List.findIdx?_eq_some_iff_getElem.1 h;show decide ((0:Int)<=(i:Int))=_;rw[decide_eq_true (by omega)];exact (List.any_eq_true.2 ⟨_,List.getElem_mem hi,hp⟩).symm
 | none=>
  have:=List.findIdx?_eq_none_iff.1 h;show false=_;symm;rw[List.any_eq_false];intro x hx; rw[this x hx]; simp
theorem Z4u (p:Sh->Bool) (l:List Sh): -1<=Z0o p l:=by
 unfold Z0o;cases l.findIdx? p with
 | some i=>show (-1:Int)<=(i:Int); omega
 | none=>show (-1:Int)<= -1; omega
theorem Z4E (l:List Sh):l.any (fun p=> !right p)= !rights l:=by
 rw[Z1b];induction l with
 | nil=>rfl
 | cons a l ih=>simp[ih]
section
variable (P : Option Addr) (d : Nat) (l : List Sh) (g off : Nat) (qs : Nat -> Ptr) (w : World) (hl : l.length <= 1000000) (hp : l.length = 0 \/ P = some ⟨g, off, none⟩ /\ g < w.heap.size /\ (∀ i (h : i < l.length), Sh5 w g (off + i * 5) (l[i]'h) (qs i)) /\ ∀ i (h : i < l.length), ShAt w w.heap.size (qs i) (l[i]'h)) (hg : WGlobs w) (hf : ∀ x ∈ l, ∀ (q : Ptr) (w : World), ShAt w w.heap.size q x -> WGlobs w -> Y9 36 #[.agg (Y8 x q)] w (.bool (!right x)))
include P d l g off qs w hl hp hg hf
theorem Z8B:
 Y9 60 #[.slice P l.length d,.func (.func 36) #[] #[]] w (.int .i64 (Z0o (fun p=> !right p) l)):=by
 have HP:=Y1 hp;have HF:=Y1 hf;have HG:=Y1 hg;clear hg;clear hp hf;go_enter Tryd.func60,Tryd.ntmps60
 go_wp2_with fail
 go_loopw [8] (fun ii wr=> ∃i:Nat,ii= .int .i64 i/\i<=l.length/\Hid (∀j (h:j < l.length),j < i->(!right (l[j]'h))=false)/\Below w.heap.size w wr) (fun i _=>l.length - (intOf i).toNat)
 case atStart=>exact ⟨0,rfl,Nat.zero_le _,Y1 (fun j _ hj=>absurd hj (by omega)),Below.refl _ _⟩
 case round=>
  obtain ⟨i,rfl,hi,HN,hb⟩:=hrel;by_cases hlt:i < l.length
  {rcases HP.out with h0 | ⟨rfl,hg,hc,hr⟩
   {omega}
   {obtain ⟨x,hx⟩: ∃x,x=l[i]'hlt:=⟨_,rfl⟩;obtain ⟨p0,p1,p2,p3,p4⟩:=(hc i hlt).keep hg hb;have hat:ShAt wr wr.heap.size (qs i) x:=by rw[hx]; exact (hr i hlt).next hb
    have ihx:=HF.out l[i] (List.getElem_mem _) (qs i) wr;rw[<-hx] at p0 p1 p2 p3 p4 ihx;have IH:=ihx hat (HG.out.next hb);have HX:=Y1 hx;clear hx hc hr hat ihx;have hi1: (i:Int) < (l.length:Int):=by omega
    cases hox: !right x with
    | true=>
     rw[hox] at IH;have HV:Hid (Z0o (fun p=> !right p) l=(i:Int)):=Y1 (Z4t hlt (by show (!right _)=true; rw[<-HX.out]; exact hox) (fun j hj hji=>HN.out j hj hji));clear hox
     go_wp2_with fail
     refine IH.mono ?_;rintro e w' ⟨rfl,hb'⟩;go_wp2;go_ret;exact ⟨Z0w HV.out.symm,Z00 hb hb'⟩
    | false=>
     rw[hox] at IH;have HO:=Y1 hox;clear hox
     go_wp2_with fail
     refine IH.mono ?_;rintro e w' ⟨rfl,hb'⟩;go_wp2
     go_roundw
     case rel=>exact ⟨i+1,by go_num,by omega,Y1 (fun j hj hji=>by
      rcases Nat.lt_succ_iff_lt_or_eq.1 hji with h | rfl
      {exact HN.out j hj h}
      · rw[<-HX.out]; exact HO.out),Z00 hb hb'⟩
     case measure=>simp[intOf]; omega}}
  {have hi1: ¬(i:Int) < (l.length:Int):=by omega
   have HV:Hid (Z0o (fun p=> !right p) l= -1):=Y1 (Z3m (fun j hj=>HN.out j hj (by omega)));go_wp2;go_ret;exact ⟨Z0w HV.out.symm,hb⟩}
theorem Z5m:
 Y9 50 #[.slice P l.length d,.func (.func 36) #[] #[]] w (.bool (l.any (fun p=> !right p))):=by
 have HI:=Z8B P d l g off qs w hl hp hg hf;have HV:=Y1 (Z44 (fun p=> !right p) l);have hge:=Z4u (fun p=> !right p) l;generalize Z0o (fun p=> !right p) l=r at HI HV hge;clear hp hf;go_enter Tryd.func50,Tryd.ntmps50
 go_wp2_with fail
 refine HI.mono ?_;rintro e w' ⟨rfl,hb'⟩;go_wp2;go_ret;exact ⟨Z08 HV.out,hb'⟩
end
theorem Z6E {w:World} {q:Ptr} {t:Sh} (h:ShAt w w.heap.size q t): ∃(g off:Nat) (qs:Nat->Ptr),t.parts.length=0\/q.P=some ⟨g,off,none⟩/\g < w.heap.size/\(∀i (h:i < t.parts.length),Sh5 w g (off+i * 5) (t.parts[i]'h) (qs i))/\ ∀i (h:i < t.parts.length),ShAt w w.heap.size (qs i) (t.parts[i]'h):=by
 rcases h.part with h0 | ⟨g,off,qs,h1,h2,h3,h4⟩
 {exact ⟨0,0,fun _=>q,Or.inl h0⟩}
 {exact ⟨g,off,qs,Or.inr ⟨h1,h2,h3,h4⟩⟩}
theorem Z5n (t:Sh): ∀(q:Ptr) (w:World),ShAt w w.heap.size q t->WGlobs w->size t<=1000000->
 Y9 36 #[.agg (Y8 t q)] w (.bool (!right t)):=by
 induction t using Sh.ind with
 | h t ih=>
 intro q w hq hg hz;have hpl:t.parts.length<=1000000:=by have:=Z0P t.parts; rw[size_eq] at hz; omega
 have hb0:=Z01 w (.cells (Y8 t q) 25);have hf:=Z7r t q _ (hq.next hb0) (hg.next hb0) hpl;have HC:=Y1 (fun W (h:Below w.heap.size w W)=>by
  obtain ⟨g,off,qs,h1⟩:=Z6E (hq.next h);exact Z5m q.P q.d t.parts g off qs W hpl h1 (hg.next h) (fun x hx q' w' hat hg'=>ih x hx q' w' hat hg' (by have:=Z1O hx; rw[size_eq] at hz; omega)))
 have HD:=Y1 (Z0Z t);have HA:=Y1 (Z4E t.parts);have HB0:=Y1 hb0;have HB:=Y1 (Z03 w t q);obtain ⟨_,⟨c0,c1,c2,c3,c4⟩,_⟩:=HB.out;clear hb0 hq hg hz hpl ih;cases hft:fits t
 {have HF:Hid (right t=false):=Y1 (by rw[HD.out,hft]; rfl);rw[hft] at hf;clear hft;go_enter Tryd.func36,Tryd.ntmps36
  go_wp2_with fail
  refine hf.mono ?_;rintro e w' ⟨rfl,hb'⟩;go_wp2;go_ret;exact ⟨by rw[HF.out]; rfl,Z00 HB0.out hb'⟩}
 {have HF:Hid ((!right t)=t.parts.any (fun p=> !right p)):=Y1 (by rw[HD.out,hft,HA.out]; rfl);rw[hft] at hf;clear hft;go_enter Tryd.func36,Tryd.ntmps36
  go_wp2_with fail
  refine hf.mono ?_;rintro e w1 ⟨rfl,hb'⟩;have hbw:=Z00 HB0.out hb';have hc:=HC.out w1 hbw;obtain ⟨_,⟨d0,d1,d2,d3,d4⟩,_⟩:=HB.out.next hb';clear hf c0 c1 c2 c3 c4 hb'
  go_wp2_with fail
  refine hc.mono ?_;rintro e w' ⟨rfl,hb2⟩;go_wp2;go_ret;exact ⟨Z08 HF.out.symm,Z00 hbw hb2⟩}
section
variable (P : Option Addr) (d : Nat) (l : List Sh) (g off : Nat) (qs : Nat -> Ptr) (w : World) (hl : l.length <= 1000000) (hp : l.length = 0 \/ P = some ⟨g, off, none⟩ /\ g < w.heap.size /\ (∀ i (h : i < l.length), Sh5 w g (off + i * 5) (l[i]'h) (qs i)) /\ ∀ i (h : i < l.length), ShAt w w.heap.size (qs i) (l[i]'h)) (hf : ∀ x ∈ l, ∀ (q : Ptr) (w : World), ShAt w w.heap.size q x -> Y9 33 #[.agg (Y8 x q)] w (.bool (opened x)))
include P d l g off qs w hl hp hf
theorem Z8C:
 Y9 60 #[.slice P l.length d,.func (.func 33) #[] #[]] w (.int .i64 (Z0o opened l)):=by
 have HP:=Y1 hp;have HF:=Y1 hf;clear hp hf;go_enter Tryd.func60,Tryd.ntmps60
 go_wp2_with fail
 go_loopw [8] (fun ii wr=> ∃i:Nat,ii= .int .i64 i/\i<=l.length/\Hid (∀j (h:j < l.length),j < i->opened (l[j]'h)=false)/\Below w.heap.size w wr) (fun i _=>l.length - (intOf i).toNat)
 case atStart=>exact ⟨0,rfl,Nat.zero_le _,Y1 (fun j _ hj=>absurd hj (by omega)),Below.refl _ _⟩
 case round=>
  obtain ⟨i,rfl,hi,HN,hb⟩:=hrel;by_cases hlt:i < l.length
  {rcases HP.out with h0 | ⟨rfl,hg,hc,hr⟩
   {omega}
   {obtain ⟨x,hx⟩: ∃x,x=l[i]'hlt:=⟨_,rfl⟩;obtain ⟨p0,p1,p2,p3,p4⟩:=(hc i hlt).keep hg hb;have hat:ShAt wr wr.heap.size (qs i) x:=by rw[hx]; exact (hr i hlt).next hb
    have ihx:=HF.out l[i] (List.getElem_mem _) (qs i) wr;rw[<-hx] at p0 p1 p2 p3 p4 ihx;have IH:=ihx hat;have HX:=Y1 hx;clear hx hc hr hat ihx;have hi1: (i:Int) < (l.length:Int):=by omega
    cases hox:opened x with
    | true=>
     rw[hox] at IH;have HV:Hid (Z0o opened l=(i:Int)):=Y1 (Z4t hlt (by show opened _=true; rw[<-HX.out]; exact hox) (fun j hj hji=>HN.out j hj hji));clear hox
     go_wp2_with fail
     refine IH.mono ?_;rintro e w' ⟨rfl,hb'⟩;go_wp2;go_ret;exact ⟨Z0w HV.out.symm,Z00 hb hb'⟩
    | false=>
     rw[hox] at IH;have HO:=Y1 hox;clear hox
     go_wp2_with fail
     refine IH.mono ?_;rintro e w' ⟨rfl,hb'⟩;go_wp2
     go_roundw
     case rel=>exact ⟨i+1,by go_num,by omega,Y1 (fun j hj hji=>by
      rcases Nat.lt_succ_iff_lt_or_eq.1 hji with h | rfl
      {exact HN.out j hj h}
      · rw[<-HX.out]; exact HO.out),Z00 hb hb'⟩
     case measure=>simp[intOf]; omega}}
  {have hi1: ¬(i:Int) < (l.length:Int):=by omega
   have HV:Hid (Z0o opened l= -1):=Y1 (Z3m (fun j hj=>HN.out j hj (by omega)));go_wp2;go_ret;exact ⟨Z0w HV.out.symm,hb⟩}
theorem Z5o:
 Y9 50 #[.slice P l.length d,.func (.func 33) #[] #[]] w (.bool (l.any opened)):=by
 have HI:=Z8C P d l g off qs w hl hp hf;have HV:=Y1 (Z44 opened l);have hge:=Z4u opened l;generalize Z0o opened l=r at HI HV hge;clear hp hf;go_enter Tryd.func50,Tryd.ntmps50
 go_wp2_with fail
 refine HI.mono ?_;rintro e w' ⟨rfl,hb'⟩;go_wp2;go_ret;exact ⟨Z08 HV.out,hb'⟩
end
theorem Z5p (t:Sh): ∀(q:Ptr) (w:World),ShAt w w.heap.size q t->size t<=1000000->
 Y9 33 #[.agg (Y8 t q)] w (.bool (opened t)):=by
 induction t using Sh.ind with
 | h t ih=>
 intro q w hq hz;have hpl:t.parts.length<=1000000:=by have:=Z0P t.parts; rw[size_eq] at hz; omega
 have hb0:=Z01 w (.cells (Y8 t q) 25);have HC:=Y1 (fun W (h:Below w.heap.size w W)=>by
  obtain ⟨g,off,qs,h1⟩:=Z6E (hq.next h);exact Z5o q.P q.d t.parts g off qs W hpl h1 (fun x hx q' w' hat=>ih x hx q' w' hat (by have:=Z1O hx; rw[size_eq] at hz; omega)))
 have HD:=Y1 (Z1s t);have HA:=Y1 (Z0W t.parts);have HB0:=Y1 hb0;have HB:=Y1 (Z03 w t q);obtain ⟨_,⟨c0,c1,c2,c3,c4⟩,_⟩:=HB.out;clear hb0 hq hz hpl ih;by_cases hk:t.kind=9
 {have HF:Hid (opened t=true):=Y1 (by rw[HD.out,decide_eq_true hk]; rfl);have hk2:=Y4 9 hk rfl;clear hk;go_enter Tryd.func33,Tryd.ntmps33;go_wp2;go_ret;exact ⟨by rw[HF.out]; rfl,HB0.out⟩}
 {have HF:Hid (opened t=t.parts.any opened):=Y1 (by rw[HD.out,decide_eq_false hk,HA.out]; rfl);have hk2: (t.kind==9)=false:=by rw[beq_eq_false_iff_ne]; exact hk
  have hc:=HC.out _ HB0.out;clear hk;go_enter Tryd.func33,Tryd.ntmps33
  go_wp2_with fail
  refine hc.mono ?_;rintro e w' ⟨rfl,hb2⟩;go_wp2;go_ret;exact ⟨Z08 HF.out.symm,Z00 HB0.out hb2⟩}
structure UpC (cb B:Nat) (w w':World):Prop where
 os:w'.os=w.os
 tape:w'.tape=w.tape
 output:w'.output=w.output
 size:w.heap.size<=w'.heap.size
 block: ∀k,k < B->k≠cb->w'.heap[k]? =w.heap[k]?
 c1:w'.cell? ⟨cb,1,none⟩=w.cell? ⟨cb,1,none⟩
 f0:w'.frozen? ⟨cb,0,none⟩=w.frozen? ⟨cb,0,none⟩
theorem UpC.refl (cb B:Nat) (w:World):UpC cb B w w:=⟨rfl,rfl,rfl,Nat.le_refl _,fun _ _ _=>rfl,rfl,rfl⟩
theorem UpC.trans {cb B:Nat} {a b c:World} (h:UpC cb B a b) (k:UpC cb B b c):UpC cb B a c:=
 ⟨k.os.trans h.os,k.tape.trans h.tape,k.output.trans h.output,Nat.le_trans h.size k.size,fun i hi hn=>(k.block i hi hn).trans (h.block i hi hn),k.c1.trans h.c1,k.f0.trans h.f0⟩
theorem UpC.mono {cb B B':Nat} {w w':World} (h:UpC cb B w w') (hB:B'<=B):UpC cb B' w w':=⟨h.os,h.tape,h.output,h.size,fun k hk=>h.block k (Nat.lt_of_lt_of_le hk hB),h.c1,h.f0⟩
theorem UpC.below {cb B:Nat} {a w w':World} (h:UpC cb B a w) (hb:Below B w w') (hc:cb < B):UpC cb B a w':=
 h.trans ⟨hb.os,hb.tape,hb.output,hb.size,fun k hk _=>hb.block k hk,hb.cell (p:=⟨cb,1,none⟩) hc,hb.frozen (p:=⟨cb,0,none⟩) hc⟩
theorem UpC.set {cb B:Nat} {a w:World} (h:UpC cb B a w) (v:Value):UpC cb B a (w.setCell ⟨cb,0,none⟩ v):=
 h.trans ⟨rfl,rfl,rfl,by simp[World.setCell],fun k hk hn=>Below.heap_setCell _ _ _ _ hn,by simp[go_sem],by simp[go_sem]⟩
theorem UpC.next {cb:Nat} {a b c:World} (h:UpC cb a.heap.size a b) (k:UpC cb b.heap.size b c):UpC cb a.heap.size a c:=h.trans (k.mono h.size)
theorem UpC.cell {cb B:Nat} {w w':World} (h:UpC cb B w w') {g k:Nat} (hg:g < B) (hn:g≠cb):w'.cell? ⟨g,k,none⟩=w.cell? ⟨g,k,none⟩:=World.cell?_of_block (w:=w) (h.block g hg hn)
theorem UpC.toBelow {cb B:Nat} {w w':World} (h:UpC cb B w w') (hB:B<=cb):Below B w w':=⟨h.os,h.tape,h.output,h.size,fun k hk=>h.block k hk (by omega)⟩
structure Cnt (w:World) (cb p m:Nat):Prop where
 lt:cb < w.heap.size
 c0:w.cell? ⟨cb,0,none⟩=some (.int .i64 (p:Int))
 c1:m=400
 f0:w.frozen? ⟨cb,0,none⟩=false
theorem Cnt.below {w w':World} {cb p m:Nat} (h:Cnt w cb p m) (hb:Below w.heap.size w w'):Cnt w' cb p m:=
 ⟨Nat.lt_of_lt_of_le h.lt hb.size,(hb.cell (p:=⟨cb,0,none⟩) h.lt).trans h.c0,h.c1,(hb.frozen (p:=⟨cb,0,none⟩) h.lt).trans h.f0⟩
theorem Cnt.set {w:World} {cb p m:Nat} (h:Cnt w cb p m) (n:Nat):Cnt (w.setCell ⟨cb,0,none⟩ (.int .i64 (n:Int))) cb n m:=
 ⟨by simpa[World.setCell] using h.lt,by simp[go_sem,h.c0],h.c1,by simp[go_sem,h.f0]⟩
theorem ShAt.upc {w w':World} {B C cb:Nat} {q:Ptr} {t:Sh} (h:ShAt w B q t) (hu:UpC cb C w w') (h1:B<=cb) (h2:B<=C):ShAt w' B q t:=
 h.of (Nat.le_refl _) (fun g k hg=>hu.cell (by omega) (by omega))
theorem Z4v (t:Sh): ∀(q:Ptr) (B cb p m:Nat) (w:World),ShAt w B q t->B<=cb->Cnt w cb p m->p+size t<=m->m<=1000000->
 Calls Tryd.prog 53 #[.pointer (some ⟨cb,0,none⟩),.agg (Y8 t q)] w
  fun e w'=>e= .returned (.int .i64 (deep t:Int))/\UpC cb w.heap.size w w'/\Cnt w' cb (p+size t) m:=by
 induction t using Sh.ind with
 | h t ih=>
 intro q B cb p m w hq hBc hc hpm hm;have HQ:=Y1 hq;have HM:=Y1 hq.small.m;have HP:=Y1 hq.part;have HD:Hid (deep t=deeps t.parts+1):=Y1 (Z0T t);have HZ:Hid (size t=1+sizes t.parts):=Y1 (size_eq t);have HDS:=Y1 (Z13 t);have HPM:Hid (p+size t<=m):=Y1 hpm;have hlt:p < m:=by have:=HZ.out; omega
 have hpe: ((p:Int)==400)=false:=by rw[beq_eq_false_iff_ne]; have:=hc.c1; omega
 have hpi: (p:Int)<=1000000:=by omega
 have hb0:=Z01 w (.cells (Y8 t q) 25);have HC:=Y1 hc;have hB:=Z03 w t q;have HB:=Y1 hB;have HC1:=Y1 (hc.below hb0);have HU:=Y1 ((UpC.refl cb w.heap.size w).below hb0 hc.lt);have hcl:=hc.lt;obtain ⟨_,k0,k1,k2⟩:=hc.below hb0;clear k1;clear hb0 hc hB hpm hq;have hne:w.heap.size≠cb:=by omega
 have hne2:cb≠w.heap.size:=by omega
 go_enter Tryd.func53,Tryd.ntmps53
 go_wp2_with fail
 obtain ⟨W0,hW0⟩: ∃W0,W0=(w.setCell ⟨cb,0,none⟩ (.int .i64 ((p:Int)+1))).alloc (.cells (Y8 t q) 25):=⟨_,rfl⟩;have hsz0:W0.heap.size=w.heap.size+1:=by rw[hW0]; simp[World.setCell]
 have hU0:UpC cb w.heap.size w W0:=by
  rw[hW0];exact ((UpC.refl cb w.heap.size w).set _).below ((Z01 _ _).mono (by simp[World.setCell])) hcl
 have hC0:Cnt W0 cb (p+1) m:=by
  rw[hW0];exact (HC.out.set (p+1)).below (Z01 _ _)
 have hB0:Box5 W0 w.heap.size t q:=by
  have e: (w.setCell ⟨cb,0,none⟩ (.int .i64 ((p:Int)+1))).heap.size=w.heap.size:=by simp[World.setCell]
  have h5:=Z03 (w.setCell ⟨cb,0,none⟩ (.int .i64 ((p:Int)+1))) t q;rw[e] at h5;rw[hW0]; exact h5
 have HU0:=Y1 hU0;have HC0:=Y1 hC0;have HB0:=Y1 hB0;clear hU0 hC0 hB0;rw[<-hW0];have HSZ:=Y1 hsz0;clear hW0 k0 k2 HU HC1 HB hsz0
 go_loopw [5,24] (fun dd ii wr=> ∃i:Nat,ii= .int .i64 i/\i<=t.parts.length/\dd= .int .i64 (deeps (t.parts.take i):Int)/\Hid (UpC cb W0.heap.size W0 wr)/\Hid (Cnt wr cb (p+1+sizes (t.parts.take i)) m)) (fun _ i _=>t.parts.length - (intOf i).toNat)
 case atStart=>exact ⟨0,rfl,Nat.zero_le _,rfl,Y1 (UpC.refl _ _ _),HC0⟩
 case round=>
  obtain ⟨i,rfl,hi,rfl,HUR,HCR⟩:=hrel;have hmm:=HM.out;have htk:=Z2n t.parts i;have hds:=HDS.out;have hd2:deeps t.parts<=1000000:=by have:=HD.out; have:=HPM.out; omega
  by_cases hlt:i < t.parts.length
  {rcases HP.out with h0 | ⟨g,off,qs,hqP,hg,hc,hr⟩
   {omega}
   {have hur:UpC cb w.heap.size w wr:=HU0.out.next HUR.out;obtain ⟨x,hx⟩: ∃x,x=t.parts[i]:=⟨_,rfl⟩;have hgw:g < w.heap.size:=by omega
    obtain ⟨p0,p1,p2,p3,p4⟩:=(hc i hlt).of (w':=wr) (fun k=>hur.cell hgw (by omega));have hbx:=Z01 wr (.cells (Y8 x (qs i)) 25);have hat:ShAt (wr.alloc (.cells (Y8 x (qs i)) 25)) B (qs i) x:=by
     rw[hx];exact ((hr i hlt).upc hur hBc (by omega)).keep (Z01 wr _) (by have:=hur.size; omega)
    have hcx:=HCR.out.below hbx;have HN:Hid (sizes (t.parts.take (i+1))=sizes (t.parts.take i)+size x):=Y1 (by rw[hx]; exact Z1a hlt);have HE:Hid (deeps (t.parts.take (i+1))=max (deeps (t.parts.take i)) (deep x)):=Y1 (by rw[hx]; exact Z2l hlt);have ihx:=ih t.parts[i] (List.getElem_mem _) (qs i) B cb (p+1+sizes (t.parts.take i)) m (wr.alloc (.cells (Y8 x (qs i)) 25));rw[<-hx] at p0 p1 p2 p3 p4 ihx;have hdx:deep x<=1000000:=by rw[hx]; exact Nat.le_trans (Z2N (List.getElem_mem _)) hd2
    have hbd:p+1+sizes (t.parts.take i)+size x<=m:=by
     have:=Z2m t.parts (i+1);have:=HN.out;have:=HPM.out;have:=HZ.out;omega
    have IH:=ihx hat hBc hcx hbd hm;have HBX:=Y1 (HB0.out);clear hx hc hr hat ihx hcx hbd hd2 hur hbx ih;have hi1: (i:Int) < (t.parts.length:Int):=by omega
    obtain ⟨a,ha⟩: ∃a,a=deeps (t.parts.take i):=⟨_,rfl⟩;rw[<-ha] at HE htk ⊢;clear ha;rw[hqP];clear hqP
    go_wp2_with fail
    refine IH.mono ?_;rintro e w2 ⟨rfl,hu2,hc2⟩;have HU2:Hid (UpC cb W0.heap.size W0 w2):=Y1 ((HUR.out.below ((Z01 wr _).mono HUR.out.size) (by have:=HSZ.out; omega)).trans (hu2.mono (by have:=HUR.out.size; simp; omega)));have HC2:Hid (Cnt w2 cb (p+1+sizes (t.parts.take (i+1))) m):=Y1 (by rw[HN.out, <-Nat.add_assoc]; exact hc2);clear hu2 hc2 IH;by_cases hgt: (a:Int) < (deep x:Int)
    all_goals
     go_wp2
     go_roundw
     case rel=>exact ⟨i+1,by go_num,by omega,by rw[HE.out]; go_num,HU2,HC2⟩
     case measure=>simp[intOf]; omega}}
  {have HF:Hid (deep t=deeps (t.parts.take i)+1):=Y1 (by rw[HD.out,show i=t.parts.length from by omega,List.take_length]);have HG:Hid (p+size t=p+1+sizes (t.parts.take i)):=Y1 (by rw[HZ.out,show i=t.parts.length from by omega,List.take_length]; omega);have hi1: ¬(i:Int) < (t.parts.length:Int):=by omega
   go_wp2;go_ret;exact ⟨Z0w (by rw[HF.out]; go_num),HU0.out.next HUR.out,by rw[HG.out]; exact HCR.out⟩}
theorem Z6l (t:Sh): ∀(q:Ptr) (B cb p m:Nat) (w:World),ShAt w B q t->B<=cb->Cnt w cb p m->p<=m->m < p+size t->m<=1000000->
 Calls Tryd.prog 53 #[.pointer (some ⟨cb,0,none⟩),.agg (Y8 t q)] w
  fun e w'=>e= .panicked [{ v:= .iface 29 (.int .i64 3),recovered:=false }]/\UpC cb w.heap.size w w':=by
 induction t using Sh.ind with
 | h t ih=>
 intro q B cb p m w hq hBc hc hpm hov hm;have HQ:=Y1 hq;have HM:=Y1 hq.small.m;have HP:=Y1 hq.part;have HD:Hid (deep t=deeps t.parts+1):=Y1 (Z0T t);have HZ:Hid (size t=1+sizes t.parts):=Y1 (size_eq t);have HDS:=Y1 (Z13 t);have HOV:Hid (m < p+size t):=Y1 hov;have hpi: (p:Int)<=1000000:=by omega
 have hb0:=Z01 w (.cells (Y8 t q) 25);have HC:=Y1 hc;have hB:=Z03 w t q;have HB:=Y1 hB;have HC1:=Y1 (hc.below hb0);have HU:=Y1 ((UpC.refl cb w.heap.size w).below hb0 hc.lt);have hcl:=hc.lt;obtain ⟨_,k0,k1,k2⟩:=hc.below hb0;clear k1;clear hb0 hc hB hov hq;have hne:w.heap.size≠cb:=by omega
 have hne2:cb≠w.heap.size:=by omega
 by_cases hpm2:p=m
 {have hpe: ((p:Int)==400)=true:=by rw[beq_iff_eq]; have:=HC.out.c1; omega
  have HUX:=HU;clear hpm2 hpm ih;go_enter Tryd.func53,Tryd.ntmps53
  go_wp2_with fail
  exact ⟨rfl,rfl,HU.out⟩}
 have hlt:p < m:=by omega
 have hpe: ((p:Int)==400)=false:=by rw[beq_eq_false_iff_ne]; have:=HC.out.c1; omega
 clear hpm2;go_enter Tryd.func53,Tryd.ntmps53
 go_wp2_with fail
 obtain ⟨W0,hW0⟩: ∃W0,W0=(w.setCell ⟨cb,0,none⟩ (.int .i64 ((p:Int)+1))).alloc (.cells (Y8 t q) 25):=⟨_,rfl⟩;have hsz0:W0.heap.size=w.heap.size+1:=by rw[hW0]; simp[World.setCell]
 have hU0:UpC cb w.heap.size w W0:=by
  rw[hW0];exact ((UpC.refl cb w.heap.size w).set _).below ((Z01 _ _).mono (by simp[World.setCell])) hcl
 have hC0:Cnt W0 cb (p+1) m:=by
  rw[hW0];exact (HC.out.set (p+1)).below (Z01 _ _)
 have hB0:Box5 W0 w.heap.size t q:=by
  have e: (w.setCell ⟨cb,0,none⟩ (.int .i64 ((p:Int)+1))).heap.size=w.heap.size:=by simp[World.setCell]
  have h5:=Z03 (w.setCell ⟨cb,0,none⟩ (.int .i64 ((p:Int)+1))) t q;rw[e] at h5;rw[hW0]; exact h5
 have HU0:=Y1 hU0;have HC0:=Y1 hC0;have HB0:=Y1 hB0;clear hU0 hC0 hB0;rw[<-hW0];have HSZ:=Y1 hsz0;clear hW0 k0 k2 HU HC1 HB hsz0
 go_loopw [5,24] (fun dd ii wr=> ∃i:Nat,ii= .int .i64 i/\i<=t.parts.length/\dd= .int .i64 (deeps (t.parts.take i):Int)/\Hid (UpC cb W0.heap.size W0 wr)/\p+1+sizes (t.parts.take i)<=m/\Hid (Cnt wr cb (p+1+sizes (t.parts.take i)) m)) (fun _ i _=>t.parts.length - (intOf i).toNat)
 case atStart=>exact ⟨0,rfl,Nat.zero_le _,rfl,Y1 (UpC.refl _ _ _),by simp[sizes]; omega,HC0⟩
 case round=>
  obtain ⟨i,rfl,hi,rfl,HUR,hpi2,HCR⟩:=hrel;have hmm:=HM.out;have htk:deeps (t.parts.take i)<=1000000:=by have:=Z5E (t.parts.take i); omega
  by_cases hlt:i < t.parts.length
  {rcases HP.out with h0 | ⟨g,off,qs,hqP,hg,hc,hr⟩
   {omega}
   {have hur:UpC cb w.heap.size w wr:=HU0.out.next HUR.out;obtain ⟨x,hx⟩: ∃x,x=t.parts[i]:=⟨_,rfl⟩;have hgw:g < w.heap.size:=by omega
    obtain ⟨p0,p1,p2,p3,p4⟩:=(hc i hlt).of (w':=wr) (fun k=>hur.cell hgw (by omega));have hbx:=Z01 wr (.cells (Y8 x (qs i)) 25);have hat:ShAt (wr.alloc (.cells (Y8 x (qs i)) 25)) B (qs i) x:=by
     rw[hx];exact ((hr i hlt).upc hur hBc (by omega)).keep (Z01 wr _) (by have:=hur.size; omega)
    have hcx:=HCR.out.below hbx;have HN:Hid (sizes (t.parts.take (i+1))=sizes (t.parts.take i)+size x):=Y1 (by rw[hx]; exact Z1a hlt);have HE:Hid (deeps (t.parts.take (i+1))=max (deeps (t.parts.take i)) (deep x)):=Y1 (by rw[hx]; exact Z2l hlt);have ihx:=ih t.parts[i] (List.getElem_mem _) (qs i) B cb (p+1+sizes (t.parts.take i)) m (wr.alloc (.cells (Y8 x (qs i)) 25));rw[<-hx] at p0 p1 p2 p3 p4 ihx;have hml:=fun hbd=>Z4v x (qs i) B cb (p+1+sizes (t.parts.take i)) m (wr.alloc (.cells (Y8 x (qs i)) 25)) hat hBc hcx hbd hm;have hmo:=fun hbd=>ihx hat hBc hcx hpi2 hbd hm;have HSB:=Y1 hur;have HBX:=Y1 (HB0.out);clear hx hc hr hat ihx hcx hur hbx ih;have hi1: (i:Int) < (t.parts.length:Int):=by omega
    obtain ⟨a,ha⟩: ∃a,a=deeps (t.parts.take i):=⟨_,rfl⟩;rw[<-ha] at HE htk ⊢;clear ha;rw[hqP];clear hqP;by_cases hfit:m < p+1+sizes (t.parts.take i)+size x
    {have IH:=hmo hfit;clear hml hmo hfit
     go_wp2_with fail
     refine IH.mono ?_;rintro e w2 ⟨rfl,hu2⟩;have HU2:Hid (UpC cb w.heap.size w w2):=Y1 ((HSB.out.below ((Z01 wr _).mono HSB.out.size) hcl).trans (hu2.mono (by have:=HSB.out.size; simp; omega)));clear hu2 IH;go_wp2;exact ⟨rfl,rfl,HU2.out⟩}
    have IH:=hml (by omega);have hdx:deep x<=1000000:=by have:=Z13 x; omega
    have HF1:Hid (p+1+sizes (t.parts.take (i+1))<=m):=Y1 (by rw[HN.out]; omega);clear hml hmo hfit
    go_wp2_with fail
    refine IH.mono ?_;rintro e w2 ⟨rfl,hu2,hc2⟩;have HU2:Hid (UpC cb W0.heap.size W0 w2):=Y1 ((HUR.out.below ((Z01 wr _).mono HUR.out.size) (by have:=HSZ.out; omega)).trans (hu2.mono (by have:=HUR.out.size; simp; omega)));have HC2:Hid (Cnt w2 cb (p+1+sizes (t.parts.take (i+1))) m):=Y1 (by rw[HN.out, <-Nat.add_assoc]; exact hc2);clear hu2 hc2 IH;by_cases hgt: (a:Int) < (deep x:Int)
    all_goals
     go_wp2
     go_roundw
     case rel=>exact ⟨i+1,by go_num,by omega,by rw[HE.out]; go_num,HU2,HF1.out,HC2⟩
     case measure=>simp[intOf]; omega}}
  {exfalso;have:=HOV.out;rw[show i=t.parts.length from by omega,List.take_length] at hpi2;rw[HZ.out] at this;omega}
theorem Z7s (b c:Addr) (x y:Int) (u:TypeId) (pv:Value) (older:List PanicEntry) (w:World) (hb:w.cell? b=some (.int .i64 x)) (hc:w.cell? c=some (.int .i64 y)) (fb:w.frozen? b=false) (fc:w.frozen? c=false)
 (hbc:b≠c):
 CallsD Tryd.prog 52 #[.pointer (some b),.pointer (some c)] (.panicking ({ v:= .iface u pv,recovered:=false }::older)) w fun e u' w'=>
  e= .returned (.tuple #[])/\u'= .panicking ({ v:= .iface u pv,recovered:=true }::older)/\w'=(w.setCell b (.int .i64 401)).setCell c (.int .i64 0):=by
 have hc2: (w.setCell b (.int .i64 401)).cell? c=some (.int .i64 y):=(World.cell?_setCell_other _ _ _ _ hbc).trans hc;refine callsD_of_wpS Tryd.func52 rfl fun c₀ cs hu=> ?_;apply wpS_seq;apply wpS_region;simp[wpOpsS,go_sem,recoverD,hu,Tryd.ntmps52,Exit.thenS];refine wpS_cond (t:=true) (by simp[Act.eval,Array.replicate]) ?_;simp only[if_true];apply wpS_region;simp[wpOpsS,go_sem,hb,hc2,fb,fc,bodyPostS,results,Tryd.results52]
theorem Z7t (b c:Addr) (w:World):
 CallsD Tryd.prog 52 #[.pointer (some b),.pointer (some c)] .returning w fun e u' w'=>e= .returned (.tuple #[])/\u'= .returning/\w'=w:=by
 refine callsD_of_wpS Tryd.func52 rfl fun c₀ cs hu=> ?_;apply wpS_seq;apply wpS_region;simp[wpOpsS,go_sem,recoverD,hu,Tryd.ntmps52,Exit.thenS];refine wpS_cond (t:=false) (by simp[Act.eval,Array.replicate]) ?_;simp only[Bool.false_eq_true,if_false];refine wpS_of_wp (wp_skip ?_);cases c₀;simp_all [bodyPostS,results,Tryd.results52]
def mW (w:World) (t:Sh) (q:Ptr):World:=
 (((w.alloc (.cells (Y8 t q) 25)).alloc (.cells #[.int .i64 0] 3)).alloc (.cells #[.int .i64 0] 3)).alloc (.cells #[.int .i64 0] 90)
structure MW (w W:World) (x y:Int):Prop where
 bel:Below w.heap.size w W
 size:w.heap.size+4<=W.heap.size
 b:W.cell? ⟨w.heap.size+1,0,none⟩=some (.int .i64 x)
 c:W.cell? ⟨w.heap.size+1+1,0,none⟩=some (.int .i64 y)
 fb:W.frozen? ⟨w.heap.size+1,0,none⟩=false
 fc:W.frozen? ⟨w.heap.size+1+1,0,none⟩=false
theorem Z8D (w:World) (t:Sh) (q:Ptr):Cnt (mW w t q) (w.heap.size+1+1+1) 0 400:=by
 unfold mW;exact ⟨by simp,by simp[go_sem],rfl,by simp[go_sem]⟩
theorem Z4F (w:World) (t:Sh) (q:Ptr):MW w (mW w t q) 0 0:=by
 unfold mW;refine ⟨Z06 (Z06 (Z06 (Z01 _ _) _) _) _,by simp, ?_, ?_, ?_, ?_⟩ <;> simp[go_sem]
theorem MW.upc {w W W':World} {x y:Int} (h:MW w W x y) (hu:UpC (w.heap.size+1+1+1) W.heap.size W W'):MW w W' x y:=by
 have e: ∀g,g < w.heap.size+3->W'.heap[g]? =W.heap[g]? :=fun g hg=>hu.block g (by have:=h.size; omega) (by omega);refine ⟨h.bel.trans ⟨hu.os,hu.tape,hu.output,hu.size,fun k hk=>e k (by omega)⟩,Nat.le_trans h.size hu.size, ?_, ?_, ?_, ?_⟩
 {exact (World.cell?_of_block (w:=W) (e (w.heap.size+1) (by omega))).trans h.b}
 {exact (World.cell?_of_block (w:=W) (e (w.heap.size+1+1) (by omega))).trans h.c}
 {exact (World.frozen?_of_block (w:=W) (e (w.heap.size+1) (by omega))).trans h.fb}
 {exact (World.frozen?_of_block (w:=W) (e (w.heap.size+1+1) (by omega))).trans h.fc}
section
variable (t : Sh) (q : Ptr) (w : World) (hq : ShAt w w.heap.size q t)
include t q w hq
theorem Z5q (hov:400 < size t):
 Y9 35 #[.agg (Y8 t q)] w (.tuple #[.int .i64 401,.int .i64 0]):=by
 have hmf: ∀(fn:Fn) (first cap:Array Value) (w:World),(Instr.makeFunc fn first cap).run Tryd.prog w= .ok (.func fn first cap) w:=fun _ _ _ _=>rfl;have HL:=Y1 (Z6l t q w.heap.size _ 0 400 _ (hq.keep (Z4F w t q).bel (Nat.le_refl _)) (by omega) (Z8D w t q) (Nat.zero_le _) (by omega) (by omega));have HW:=Y1 (Z4F w t q);clear hq hov
 go_enter_defers Tryd.func35,Tryd.ntmps35
 go_wp2_with fail
 change Calls _ _ _ (mW w t q) _;generalize mW w t q=W at HL HW ⊢;refine HL.out.mono ?_;rintro e w2 ⟨rfl,hu⟩;obtain ⟨hbel,hsz,cb,cc,fb,fc⟩:=HW.out.upc hu;have HBEL:=Y1 hbel;clear hbel hu HL
 go_wp2_with fail
 refine leaves_cons (f:=52) (args:=#[.pointer (some ⟨w.heap.size+1,0,none⟩),.pointer (some ⟨w.heap.size+1+1,0,none⟩)]) (by simp) (by simp[go_sem]) ?_;refine (Z7s ⟨w.heap.size+1,0,none⟩ ⟨w.heap.size+1+1,0,none⟩ 0 0 29 _ [] _ cb cc fb fc (by simp)).mono ?_;rintro e u' w'' ⟨rfl,rfl,rfl⟩;simp[Leaves,settle,results,Tryd.results35,go_sem,cb,cc];exact (HBEL.out.setCell (p:=⟨w.heap.size+1,0,none⟩) (by simp) _).setCell (p:=⟨w.heap.size+1+1,0,none⟩) (by simp; omega) _
theorem Z7u (hov:size t<=400):
 Y9 35 #[.agg (Y8 t q)] w (.tuple #[.int .i64 (size t:Int),.int .i64 (deep t:Int)]):=by
 have hmf: ∀(fn:Fn) (first cap:Array Value) (w:World),(Instr.makeFunc fn first cap).run Tryd.prog w= .ok (.func fn first cap) w:=fun _ _ _ _=>rfl;have HL:=Y1 (Z4v t q w.heap.size _ 0 400 _ (hq.keep (Z4F w t q).bel (Nat.le_refl _)) (by omega) (Z8D w t q) (by omega) (by omega));have HW:=Y1 (Z4F w t q);clear hq hov
 go_enter_defers Tryd.func35,Tryd.ntmps35
 go_wp2_with fail
 change Calls _ _ _ (mW w t q) _;generalize mW w t q=W at HL HW ⊢;refine HL.out.mono ?_;rintro e w2 ⟨rfl,hu,hcn⟩;obtain ⟨hbel,hsz,cb,cc,fb,fc⟩:=HW.out.upc hu;have k0:=hcn.c0;have HBEL:=Y1 hbel;rw[Nat.zero_add] at k0;clear hbel hu HL hcn
 go_wp2_with fail
 have HB3:Hid (Below w.heap.size w (w2.setCell ⟨w.heap.size+1+1,0,none⟩ (.int .i64 (deep t:Int)))):=Y1 (HBEL.out.setCell (by simp; omega) _);have k3: (w2.setCell ⟨w.heap.size+1+1,0,none⟩ (.int .i64 (deep t:Int))).cell? ⟨w.heap.size+1+1+1,0,none⟩=some (.int .i64 (size t:Int)):=(World.cell?_setCell_other _ _ _ _ (fun e=>by have:=congrArg Addr.block e; simp at this)).trans k0;have b3: (w2.setCell ⟨w.heap.size+1+1,0,none⟩ (.int .i64 (deep t:Int))).cell? ⟨w.heap.size+1,0,none⟩=some (.int .i64 0):=(World.cell?_setCell_other _ _ _ _ (fun e=>by have:=congrArg Addr.block e; simp at this)).trans cb;have c3: (w2.setCell ⟨w.heap.size+1+1,0,none⟩ (.int .i64 (deep t:Int))).cell? ⟨w.heap.size+1+1,0,none⟩=some (.int .i64 (deep t:Int)):=by simp[go_sem,cc]
 have fb3: (w2.setCell ⟨w.heap.size+1+1,0,none⟩ (.int .i64 (deep t:Int))).frozen? ⟨w.heap.size+1,0,none⟩=false:=by rw[World.frozen?_setCell]; exact fb
 have fc3: (w2.setCell ⟨w.heap.size+1+1,0,none⟩ (.int .i64 (deep t:Int))).frozen? ⟨w.heap.size+1+1,0,none⟩=false:=by rw[World.frozen?_setCell]; exact fc
 generalize w2.setCell ⟨w.heap.size+1+1,0,none⟩ (.int .i64 (deep t:Int))=W3 at HB3 k3 b3 c3 fb3 fc3 ⊢;clear k0 cb cc fb fc hsz HBEL
 go_region
 all_goals
  go_wp2_with fail
  refine leaves_cons (f:=52) (args:=#[.pointer (some ⟨w.heap.size+1,0,none⟩),.pointer (some ⟨w.heap.size+1+1,0,none⟩)]) (by simp) (by simp[go_sem]) ?_;refine (Z7t ⟨w.heap.size+1,0,none⟩ ⟨w.heap.size+1+1,0,none⟩ _).mono ?_;rintro e u' w'' ⟨rfl,rfl,rfl⟩;simp[Leaves,settle,results,Tryd.results35,go_sem,b3,c3];exact ((HB3.out.setCell (p:=⟨w.heap.size+1,0,none⟩) (by simp) _).setCell (p:=⟨w.heap.size+1+1,0,none⟩) (by simp; omega) _).drew
end
def Z2g (m:Nat) (t:Sh):Int:=if m < size t then (m:Int)+1 else size t
def Z2h (m:Nat) (t:Sh):Int:=if m < size t then 0 else deep t
section
variable (t : Sh) (q : Ptr) (w : World) (hq : ShAt w w.heap.size q t)
include t q w hq
theorem Z5r:
 Y9 35 #[.agg (Y8 t q)] w (.tuple #[.int .i64 (Z2g 400 t),.int .i64 (Z2h 400 t)]):=by
 unfold Z2g Z2h;by_cases h:400 < size t
 {rw[if_pos h,if_pos h]; exact Z5q t q w hq h}
 {rw[if_neg h,if_neg h]; exact Z7u t q w hq (by omega)}
theorem Z0v (hg:WGlobs w):
 Y9 22 #[.agg (Y8 t q)] w (.int .i64 (check t)):=by
 have hb0:=Z01 w (.cells (Y8 t q) 25);have hm:=Z5r t q _ (hq.next hb0);have HC:Hid (check t=if 400 < size t then 3 else if 40 < deep t then 91 else if right t=false then 70 else 0):=Y1 rfl;have HB0:=Y1 hb0;have HB:=Y1 (Z03 w t q);have HQ:=Y1 hq;have HG:=Y1 hg;obtain ⟨_,⟨c0,c1,c2,c3,c4⟩,_⟩:=HB.out;clear hb0 hq hg;by_cases h4:400 < size t
 {have HF:Hid (check t=3):=Y1 (by rw[HC.out,if_pos h4]);have hx:Z2g 400 t=401:=by unfold Z2g; rw[if_pos h4]; rfl
  rw[hx] at hm;generalize Z2h 400 t=y at hm;clear h4 hx;go_enter Tryd.func22,Tryd.ntmps22
  go_wp2_with fail
  refine hm.mono ?_;rintro e w' ⟨rfl,hb'⟩;go_wp2;go_ret;exact ⟨Z0w HF.out.symm,Z00 HB0.out hb'⟩}
 {have hx:Z2g 400 t=(size t:Int):=by unfold Z2g; rw[if_neg h4]
  have hy:Z2h 400 t=(deep t:Int):=by unfold Z2h; rw[if_neg h4]
  rw[hx,hy] at hm;have h4': ¬(400:Int) < (size t:Int):=by omega
  by_cases h40:40 < deep t
  {have HF:Hid (check t=91):=Y1 (by rw[HC.out,if_neg h4,if_pos h40]);have h40': (40:Int) < (deep t:Int):=by omega
   clear h4 h40 hx hy;go_enter Tryd.func22,Tryd.ntmps22
   go_wp2_with fail
   refine hm.mono ?_;rintro e w' ⟨rfl,hb'⟩;go_wp2;go_ret;exact ⟨Z0w HF.out.symm,Z00 HB0.out hb'⟩}
  {have h40': ¬(40:Int) < (deep t:Int):=by omega
   have HF:Hid (check t=if right t=false then 70 else 0):=Y1 (by rw[HC.out,if_neg h4,if_neg h40]);have HZ:Hid (size t<=1000000):=Y1 (by omega);clear h4 h40 hx hy;go_enter Tryd.func22,Tryd.ntmps22
   go_wp2_with fail
   refine hm.mono ?_;rintro e w2 ⟨rfl,hb2⟩;have hbw:=Z00 HB0.out hb2;have HBW2:=Y1 hbw;have HB2:=Y1 (HB.out.next hb2);have hr:=Z5n t q w2 (HQ.out.next hbw) (HG.out.next hbw) HZ.out;clear hm hb2 hbw c0 c1 c2 c3 c4;obtain ⟨_,⟨c0,c1,c2,c3,c4⟩,_⟩:=HB2.out;cases hrt:right t
   all_goals
    rw[hrt] at hr HF;clear hrt
    go_wp2_with fail
    refine hr.mono ?_;rintro e w' ⟨rfl,hb'⟩;go_wp2;go_ret;exact ⟨Z0w (by rw[HF.out]; rfl),Z00 HBW2.out hb'⟩}}
theorem Z45 (hg:WGlobs w):
 Y9 32 #[.agg (Y8 t q)] w (.bool (decide (check t=0))):=by
 have hb0:=Z01 w (.cells (Y8 t q) 25);have hm:=Z0v t q _ (hq.next hb0) (hg.next hb0);have HB0:=Y1 hb0;obtain ⟨_,⟨c0,c1,c2,c3,c4⟩,_⟩:=Z03 w t q;clear hb0 hq hg;go_enter Tryd.func32,Tryd.ntmps32
 go_wp2_with fail
 refine hm.mono ?_;rintro e w' ⟨rfl,hb'⟩;go_wp2;go_ret;exact ⟨Z08 (by rw[Bool.eq_iff_iff]; simp),Z00 HB0.out hb'⟩
theorem Z1i (hg:WGlobs w):
 Y9 20 #[.agg (Y8 t q)] w (.bool (closed t)):=by
 have hb0:=Z01 w (.cells (Y8 t q) 25);have hm:=Z45 t q _ (hq.next hb0) (hg.next hb0);have HC:Hid (closed t=(decide (check t=0)&& !opened t)):=Y1 rfl;have HB0:=Y1 hb0;have HB:=Y1 (Z03 w t q);have HQ:=Y1 hq;obtain ⟨_,⟨c0,c1,c2,c3,c4⟩,_⟩:=HB.out;clear hb0 hq hg;cases h0:decide (check t=0)
 {have HF:Hid (closed t=false):=Y1 (by rw[HC.out,h0]; rfl);rw[h0] at hm;clear h0;go_enter Tryd.func20,Tryd.ntmps20
  go_wp2_with fail
  refine hm.mono ?_;rintro e w1 ⟨rfl,hb1⟩;go_wp2;go_ret;exact ⟨by rw[HF.out]; rfl,Z00 HB0.out hb1⟩}
 {have HF:Hid (closed t= !opened t):=Y1 (by rw[HC.out,h0]; rfl);rw[h0] at hm;have HZ:Hid (size t<=1000000):=Y1 (by
   have:=of_decide_eq_true h0;unfold check at this;by_cases h4:400 < size t
   {rw[if_pos h4] at this; omega}
   · omega)
  clear h0;go_enter Tryd.func20,Tryd.ntmps20
  go_wp2_with fail
  refine hm.mono ?_;rintro e w1 ⟨rfl,hb1⟩;have hbw:=Z00 HB0.out hb1;have hd:=Z5p t q w1 (HQ.out.next hbw) HZ.out;obtain ⟨_,⟨d0,d1,d2,d3,d4⟩,_⟩:=HB.out.next hb1;clear hm hb1 c0 c1 c2 c3 c4
  go_wp2_with fail
  refine hd.mono ?_;rintro e w' ⟨rfl,hb'⟩;go_wp2;go_ret;exact ⟨Z08 HF.out.symm,Z00 hbw hb'⟩}
end
end
section
open Go.RowKit Shp Go.Sort
theorem Z7v {t:Sh} (q:Ptr) (hr:right t=true):
 (.agg #[.int .i64 t.kind,.string ⟨t.of_.toArray⟩,.string ⟨t.name.toArray⟩,.slice q.A t.names.length q.c,.slice q.P t.parts.length q.d]:Value)= .agg #[.int .i64 (sorted t).kind,.string ⟨(sorted t).of_.toArray⟩,.string ⟨(sorted t).name.toArray⟩,.slice q.A (sorted t).names.length q.c,.slice q.P (sorted t).parts.length q.d]:=by
 obtain ⟨k1,k2,k3⟩:=Z1Y t;obtain ⟨l1,l2⟩:=Z3c (t:=t) ((Z1B hr).imp id And.left);rw[k1,k2,k3,l1,l2]
theorem UpF.toBelow {F:List Nat} {w w':World} {B:Nat} (h:UpF F w w') (hF: ∀b∈F,B<=b) (hB:B<=w.heap.size):Below B w w':=
 ⟨h.os,h.tape,h.output,h.size,fun k hk=>h.block k (Nat.lt_of_lt_of_le hk hB) (fun hm=>by have:=hF k hm; omega)⟩
section
variable (t : Sh) (q : Ptr) (w : World) (hq : ShAt w w.heap.size q t) (hg : WGlobs w) (hck : check t = 0)
include t q w hq hg hck
theorem Z4w:
 Calls Tryd.prog 21 #[.agg (Y8 t q)] w fun e w'=> ∃q' F,e= .returned (.agg (Y8 (sorted t) q'))/\Own w' q' (sorted t) F/\(∀b∈F,w.heap.size<=b)/\Below w.heap.size w w':=by
 obtain ⟨hz,_,hr⟩:=Z0C hck;have HQ:=Y1 hq;have HG:=Y1 hg;have HR:=Y1 hr;have HCK:=Y1 hck;have HS:=Y1 (Z2r w t q);have HB:=Y1 (Z9I w t q);have HE:=Y1 (Z81 w t q);have HCP:=Y1 (Z3b t q (sW w t q) (hq.next (Z2r w t q)) hz hr);have HB0:=Y1 (Z03 w t q);obtain ⟨_,⟨c0,c1,c2,c3,c4⟩,_⟩:=HB0.out;clear hq hg hr hck;go_enter Tryd.func21,Tryd.ntmps21
 go_wp2_with fail
 clear c0 c1 c2 c3 c4 HB0;change Calls _ _ _ (sW w t q) _;generalize sW w t q=W at HS HB HE HCP ⊢;refine HCP.out.mono ?_;rintro e w1 ⟨q',F,rfl,ho,hnd,hF,hb1⟩;have HO:=Y1 ho;have HND:=Y1 hnd;have HF:=Y1 hF;have HS1:=Y1 (Z00 HS.out hb1);have HB1:=Y1 (HB.out.next hb1);have HE1:=Y1 (HE.out.next hb1);have HLF:=Y1 ho.lt;have hbw:=Z01 w1 (.cells (Y8 t q') 25);have HBW:=Y1 hbw;have HB2:=Y1 (HB1.out.next hbw);have HE2:=Y1 (HE1.out.next hbw);have HT2:=Y1 (Z03 w1 t q');have HO2:=Y1 (Z17 ho hbw);have HS2:=Y1 (Z00 HS1.out hbw);have hm:=Z45 t q _ (HQ.out.next HS2.out) (HG.out.next HS2.out);rw[show decide (check t=0)=true from by rw[HCK.out]; rfl] at hm;have HM:=Y1 hm;obtain ⟨_,⟨c0,c1,c2,c3,c4⟩,_⟩:=HB2.out;clear ho hnd hF hb1 hbw hm HCP
 go_wp2_with fail
 refine HM.out.mono ?_;rintro e w3 ⟨rfl,hb3⟩;have HS3:=Y1 (Z00 HS2.out hb3);have HE3:=Y1 (HE2.out.next hb3);have HT3:=Y1 (HT2.out.next hb3);have HO3:=Y1 (Z17 HO2.out hb3);clear c0 c1 c2 c3 c4;obtain ⟨_,⟨c0,c1,c2,c3,c4⟩,_⟩:=HT3.out;have HW:=Y1 (Z3Z t q' F w3 HO3.out HND.out HR.out hz);have hbl:w1.heap.size+1<=w3.heap.size:=by have:=hb3.size; simp at this; exact this
 have HLT:=Y1 hbl;clear hb3 HM hbl
 go_wp2_with fail
 refine HW.out.mono ?_;rintro e w4 ⟨rfl,hu,F',hp,ho⟩;have HLN:=Y1 (show w.heap.size+1∉F from fun hm=>by have:=HF.out _ hm; have:=HE.out.1; omega);have HLT2:=Y1 (show w1.heap.size∉F from fun hm=>by have:=HLF.out _ hm; omega);have HT4:=Y1 (HT3.out.same (hu.same HT3.out.1 HLT2.out) hu.size);have HE4:=Y1 (HE3.out.same (hu.same HE3.out.1 HLN.out) hu.size);have HS4:=Y1 (HS3.out.trans (hu.toBelow (fun b hb=>by have:=HF.out b hb; have:=HB.out.1; omega) HS3.out.size));have HO4:=Y1 ho;have HNF:=Y1 (show ∀b∈F',w.heap.size+1≠b from fun b hb e=>HLN.out (by rw[e]; exact hp.mem_iff.1 hb));have HGE:Hid (∀b∈F',w.heap.size<=b):=Y1 (fun b hb=>by have:=HF.out b (hp.mem_iff.1 hb); have:=HB.out.1; omega);clear hu hp ho HW c0 c1 c2 c3 c4;obtain ⟨_,⟨c0,c1,c2,c3,c4⟩,_⟩:=HT4.out;obtain ⟨_,⟨r0,r1,r2,r3,r4⟩,f0,f1,f2,f3,f4⟩:=HE4.out;simp only[Nat.zero_add] at c0 c1 c2 c3 c4 r0 r1 r2 r3 r4;have hne:w1.heap.size≠w.heap.size+1:=fun e=>by have:=HE1.out.1; omega
 go_wp2;refine bodyPost_ret (v:= .agg (Y8 t q')) (by simp[results,Tryd.results21,go_sem,r0,r1,r2,r3,r4]) rfl ?_;refine ⟨q',F',by rw[Z7v q' HR.out], ?_,fun b hb=>HGE.out b hb,Z0I HS4.out (by omega) _ _ _ _ _⟩;have h5:=Z2s HO4.out HNF.out (.int .i64 t.kind) (.string ⟨t.of_.toArray⟩) (.string ⟨t.name.toArray⟩) (.slice q'.A t.names.length q'.c) (.slice q'.P t.parts.length q'.d);exact h5
theorem Z2B:
 Calls Tryd.prog 21 #[.agg (Y8 t q)] w fun e w'=> ∃q',e= .returned (.agg (Y8 (sorted t) q'))/\ShAt w' w'.heap.size q' (sorted t)/\Below w.heap.size w w':=
 (Z4w t q w hq hg hck).mono fun e w' ⟨q',F,h1,h2,_,h4⟩=>⟨q',h1,h2.at_ h2.lt,h4⟩
end
end
section
open Go.RowKit Shp
open Expd (Bd fill keys find put Z0r)
def ResIs (w:World) (L:List Bd) (t:Sh) (e:Ending) (w':World):Prop:=
 ∃q',e= .returned (.tuple #[shV (Expd.resolve L t).1 q',.int .i64 (Expd.resolve L t).2])/\ShAt w' w'.heap.size q' (Expd.resolve L t).1/\Below w.heap.size w w'
theorem Z37 (w:World) (B:Nat):ShAt w B ⟨none,0,none,0⟩ Z0r:=by
 refine .mk _ _ 0 0 (fun _=>⟨none,0,none,0⟩) ⟨?_, ?_, ?_, ?_, ?_, ?_, ?_,fun _=>rfl,fun _=>rfl⟩ (Or.inl rfl) (Or.inl rfl) (fun i h=>absurd h (by simp[Z0r])) (fun i h=>absurd h (by simp[Z0r])) <;> simp[Z0r]
theorem Z0S (t:Sh) (q:Ptr) (L:List Bd) (A:Option Addr) (cap:Nat) (w:World) (hq:ShAt w w.heap.size q t) (hL:BdsAt w w.heap.size A L) (hl:L.length<=1000) (hg:WGlobs w):
 Calls Tryd.prog 11 #[shV t q,.slice A L.length cap] w (ResIs w L t):=by
 have hb0:Below w.heap.size w (fdW w t q):=Z06 (Z01 _ _) _;have c0:Sh5 (fdW w t q) w.heap.size 0 t q:=⟨by simp[fdW,go_sem],by simp[fdW,go_sem],by simp[fdW,go_sem],by simp[fdW,go_sem],by simp[fdW,go_sem]⟩;have hz0:w.heap.size+1 < (fdW w t q).heap.size:=by simp[fdW]
 have HB0:=Y1 hb0;have HZ0:=Y1 hz0;have HQ:=Y1 (hq.next hb0);have HC0:=Y1 c0;have HR0:=Y1 (Z6x w t q);have HLL:=Y1 (hL.next hb0);have HG:=Y1 (hg.next hb0);have HLN:=Y1 hl;obtain ⟨e0,e1,e2,e3,e4⟩:=c0;clear hb0 hq hL hl hg hz0;unfold shV;go_enter Tryd.func11,Tryd.ntmps11
 go_wp2_with fail
 change Calls _ _ _ (fdW w t q) _;generalize fdW w t q=W0 at HB0 HZ0 HQ HC0 HR0 HLL HG e0 e1 e2 e3 e4 ⊢;refine (Z0v t q W0 HQ.out HG.out).mono ?_;rintro e W1 ⟨rfl,hb1⟩;have hz1:=hb1.size;have HB1:=Y1 (HB0.out.trans (hb1.mono (by have:=HB0.out.size; omega)));have hR1:=HR0.out.keep hb1 HZ0.out;have HC1:=Y1 (HC0.out.keep (show w.heap.size < W0.heap.size by have:=HZ0.out; omega) hb1);have HQ1:=Y1 (HQ.out.next hb1);have HL1:=Y1 (HLL.out.next hb1);have HG1:=Y1 (HG.out.next hb1);have HR1:=Y1 hR1;have HZ1:=Y1 (show w.heap.size+1 < W1.heap.size by have:=HZ0.out; omega);clear hb1 hR1 hz1 e0 e1 e2 e3 e4 HB0 HZ0 HQ HC0 HR0 HLL HG;by_cases hc:check t=0
 {rw[hc];obtain ⟨hz,_,hr⟩:=Z0C hc;have HCK:=Y1 hc;obtain ⟨x0,x1,x2,x3,x4⟩:=HC1.out;simp only[Nat.zero_add] at x0 x1 x2 x3 x4;have HF:=Y1 (Z68 t q L A cap W1 HQ1.out hz hr HL1.out HLN.out);clear hc hz hr;unfold shV at HF
  go_wp2_with fail
  refine HF.out.mono ?_;rintro e W2 ⟨u,q',ok,rfl,hok,hu,hat,hb2⟩;have hb3:=Z00 hb2 (Z01 W2 (.cells (Y8 u q') 25));have hB3:=Z03 W2 u q';have hlt:=Nat.lt_of_lt_of_le HZ1.out hb2.size;have hat3:=hat.next (Z01 W2 (.cells (Y8 u q') 25));have hR2:=HR1.out.keep hb2 HZ1.out;have hR3:=HR1.out.keep hb3 HZ1.out;have hne:w.heap.size+1≠W2.heap.size:=by omega
  have HOK:=Y1 hok;have HU:=Y1 hu;clear hok hu hat hb2 HF x0 x1 x2 x3 x4;simp only;cases ok with
  | false=>
   obtain ⟨W3,hW3⟩: ∃W3,W2.alloc (.cells (Y8 u q') 25)=W3:=⟨_,rfl⟩;rw[hW3] at hR3 hb3;obtain ⟨⟨r0,r1,r2,r3,r4⟩,rf⟩:=hR3;have y0:=rf 0;have y1:=rf 1;have y2:=rf 2;have y3:=rf 3;have y4:=rf 4;have HB3:=Y1 hb3;clear rf hat3 hB3 hb3 hR2;go_wp2;have hn:put (find L) t=none:=by
    have:=HOK.out;cases e:put (find L) t with
    | none=>rfl
    | some y=>rw[e] at this; cases this
   have hr:=Expd.resolve_name HCK.out hn;refine bodyPost_ret (v:= .tuple #[.agg #[.int .i64 0,.string ⟨#[]⟩,.string ⟨#[]⟩,.slice none 0 0,.slice none 0 0],.int .i64 110]) (by simp[results,Tryd.results11,go_sem,r0,r1,r2,r3,r4]) rfl ?_;refine ⟨⟨none,0,none,0⟩, ?_, ?_, ?_⟩
   {rw[hr]; rfl}
   {rw[hr]; exact Z37 _ _}
   {exact Z0I (HB1.out.trans (HB3.out.mono (by have:=HB1.out.size; omega))) (Nat.le_succ _) _ _ _ _ _}
  | true=>
   have hput:=HU.out rfl;have HP:=Y1 hput;have HB3:=Y1 hb3;have HR3:=Y1 hR3;have HA3:=Y1 hat3;have HG3:=Y1 (HG1.out.next hb3);have HBX:=Y1 hB3;obtain ⟨_,⟨b0,b1,b2,b3,b4⟩,_⟩:=hB3;clear hput hb3 hR3 hR2 hat3 HOK HU;have HL3:=Y1 (show w.heap.size+1 < (W2.alloc (.cells (Y8 u q') 25)).heap.size from by simp; omega);have HW2:=Y1 hlt;clear hlt hne
   go_wp2_with fail
   generalize W2.alloc (.cells (Y8 u q') 25)=W3 at HB3 HR3 HA3 HG3 HBX HL3 b0 b1 b2 b3 b4 ⊢;refine (Z0v u q' W3 HA3.out HG3.out).mono ?_;rintro e W4 ⟨rfl,hb4⟩;have hR4:=HR3.out.keep hb4 HL3.out;have HB4:=Y1 ((HB1.out.trans (HB3.out.mono (by have:=HB1.out.size; omega))).trans (hb4.mono (by have:=HB1.out.size; have:=HB3.out.size; omega)));have HA4:=Y1 (HA3.out.next hb4);have HG4:=Y1 (HG3.out.next hb4);have HL4:=Y1 (Nat.lt_of_lt_of_le HL3.out hb4.size);have HR4:=Y1 hR4;clear b0 b1 b2 b3 b4;obtain ⟨_,⟨b0,b1,b2,b3,b4⟩,_⟩:=HBX.out.next hb4;clear hR4 hb4 HB3 HR3 HA3 HG3 HBX HL3;by_cases hcu:check u=0
   {rw[hcu];have HCU:=Y1 hcu;have HS:=Y1 (Z4w u q' W4 HA4.out HG4.out hcu);clear hcu
    go_wp2_with fail
    refine HS.out.mono ?_;rintro e W5 ⟨q5,F5,rfl,ho5,hF5,hb5⟩;obtain ⟨⟨r0,r1,r2,r3,r4⟩,rf⟩:=HR4.out.keep hb5 HL4.out;have y0:=rf 0;have y1:=rf 1;have y2:=rf 2;have y3:=rf 3;have y4:=rf 4;have HO5:=Y1 ho5;have HF5:=Y1 hF5;have HB5:=Y1 (HB4.out.trans (hb5.mono (by have:=HB4.out.size; omega)));obtain ⟨z,hz'⟩: ∃z,z=sorted u:=⟨_,rfl⟩;rw[<-hz'] at HO5 ⊢;have HZ:=Y1 hz';clear rf ho5 hF5 hb5 hz' b0 b1 b2 b3 b4;go_wp2;refine bodyPost_ret (v:= .tuple #[.agg (Y8 z q5),.int .i64 0]) (by simp[results,Tryd.results11,go_sem,r0,r1,r2,r3,r4]) rfl ?_;have hr:=Expd.resolve_ok HCK.out HP.out HCU.out;rw[<-HZ.out] at hr;have h5:=Z2s (b:=w.heap.size+1) HO5.out (fun x hx e=>by have:=HF5.out x hx; have:=HL4.out; omega) (.int .i64 z.kind) (.string ⟨z.of_.toArray⟩) (.string ⟨z.name.toArray⟩) (.slice q5.A z.names.length q5.c) (.slice q5.P z.parts.length q5.d);refine ⟨q5, ?_, ?_, ?_⟩
    {rw[hr]}
    {rw[hr]; exact h5.at_ h5.lt}
    {exact Z0I HB5.out (Nat.le_succ _) _ _ _ _ _}}
   {have hcu': (check u !=0)=true:=by simpa using hcu
    have HCU:=Y1 hcu;obtain ⟨⟨r0,r1,r2,r3,r4⟩,rf⟩:=HR4.out;have y0:=rf 0;have y1:=rf 1;have y2:=rf 2;have y3:=rf 3;have y4:=rf 4;clear rf hcu;go_wp2;refine bodyPost_ret (v:= .tuple #[.agg #[.int .i64 0,.string ⟨#[]⟩,.string ⟨#[]⟩,.slice none 0 0,.slice none 0 0],.int .i64 (check u)]) (by simp[results,Tryd.results11,go_sem,r0,r1,r2,r3,r4]) rfl ?_;have hr:=Expd.resolve_great HCK.out HP.out HCU.out;refine ⟨⟨none,0,none,0⟩, ?_, ?_, ?_⟩
    {rw[hr]; rfl}
    {rw[hr]; exact Z37 _ _}
    {exact Z0I HB4.out (Nat.le_succ _) _ _ _ _ _}}}
 {have hc': (check t !=0)=true:=by simpa using hc
  have HCK:=Y1 hc;obtain ⟨⟨r0,r1,r2,r3,r4⟩,rf⟩:=HR1.out;have y0:=rf 0;have y1:=rf 1;have y2:=rf 2;have y3:=rf 3;have y4:=rf 4;clear rf hc;go_wp2;refine bodyPost_ret (v:= .tuple #[.agg #[.int .i64 0,.string ⟨#[]⟩,.string ⟨#[]⟩,.slice none 0 0,.slice none 0 0],.int .i64 (check t)]) (by simp[results,Tryd.results11,go_sem,r0,r1,r2,r3,r4]) rfl ?_;refine ⟨⟨none,0,none,0⟩, ?_, ?_, ?_⟩
  {rw[Expd.resolve_bad HCK.out]; rfl}
  {rw[Expd.resolve_bad HCK.out]; exact Z37 _ _}
  {exact Z0I HB1.out (Nat.le_succ _) _ _ _ _ _}}
end
section
open Go.RowKit Shp
theorem Z6m {l:List Sh} {i m:Nat} (hi:i < l.length) (h:1+sizes (l.take i)<=m):min (1+sizes (l.take i)) (m+1)+sizeTo (m - min (1+sizes (l.take i)) (m+1)) (l[i]'hi)=min (1+sizes (l.take (i+1))) (m+1):=by
 rw[Z1a hi]; unfold sizeTo; omega
theorem Z46 (t:Sh): ∀(q:Ptr) (m:Nat) (w:World),ShAt w w.heap.size q t->m<=1000000->
 Calls Tryd.prog 14 #[.agg (Y8 t q),.int .i64 (m:Int)] w
  fun e w'=>e= .returned (.int .i64 (sizeTo m t:Int))/\Below w.heap.size w w':=by
 induction t using Sh.ind with
 | h t ih=>
 intro q m w hq hmm;have HM:=Y1 hq.small.m;have HP:=Y1 hq.part;have HZ:Hid (size t=1+sizes t.parts):=Y1 (size_eq t);have hB:=Z03 w t q;have HB:=Y1 hB;have hb0:=Z01 w (.cells (Y8 t q) 25);have HB0:=Y1 hb0;clear hB hb0 hq;go_enter Tryd.func14,Tryd.ntmps14
 go_wp2_with fail
 generalize hW0:w.alloc (.cells (Y8 t q) 25)=W0 at HB HB0 ⊢;clear hW0
 go_loopw [5,6] (fun nn ii wr=> ∃i:Nat,ii= .int .i64 i/\i<=t.parts.length/\nn= .int .i64 ((min (1+sizes (t.parts.take i)) (m+1):Nat):Int)/\Below W0.heap.size W0 wr) (fun _ i _=>t.parts.length - (intOf i).toNat)
 case atStart=>exact ⟨0,rfl,Nat.zero_le _,by rw[List.take_zero]; show Value.int .i64 1= .int .i64 ((min (1+0) (m+1):Nat):Int); rw[Nat.min_eq_left (by omega)]; rfl,Below.refl _ _⟩
 case round=>
  obtain ⟨i,rfl,hi,rfl,hb⟩:=hrel;have hm:=HM.out;obtain ⟨_,⟨_,_,_,_,c4⟩,_⟩:=HB.out.next hb;obtain ⟨n,hn⟩: ∃n,n=min (1+sizes (t.parts.take i)) (m+1):=⟨_,rfl⟩;rw[<-hn];have HE:=Y1 hn;have hn1:1<=n:=by omega
  have hn2:n<=m+1:=by omega
  by_cases hlt:i < t.parts.length
  {have hi1: (i:Int) < (t.parts.length:Int):=by omega
   by_cases hnm:n<=m
   {rcases HP.out with h0 | ⟨g,off,qs,hqP,hg,hc,hr⟩
    {omega}
    {have hbw:Below w.heap.size w wr:=HB0.out.trans (hb.mono HB0.out.size);obtain ⟨x,hx⟩: ∃x,x=t.parts[i]:=⟨_,rfl⟩;obtain ⟨p0,p1,p2,p3,p4⟩:=(hc i hlt).keep hg hbw;have hat:ShAt wr wr.heap.size (qs i) x:=by rw[hx]; exact (hr i hlt).next hbw
     have ihx:=ih t.parts[i] (List.getElem_mem _) (qs i) (m - n) wr;have HN:Hid (n+sizeTo (m - n) x=min (1+sizes (t.parts.take (i+1))) (m+1)):=Y1 (by rw[hx,hn]; exact Z6m hlt (by omega));rw[<-hx] at p0 p1 p2 p3 p4 ihx;have IH:=ihx hat (by omega);rw[show ((m - n:Nat):Int)=(m:Int) - (n:Int) from by omega] at IH;rw[hqP] at c4;have hsz:sizeTo (m - n) x<=m - n+1:=Nat.min_le_right _ _;have d2:decide (n<=m)=true:=decide_eq_true (by omega);have d3:decide (i < t.parts.length)=true:=decide_eq_true (by omega);have hnm2: (n:Int)<=(m:Int):=by omega
     have hmm2: (m:Int)<=1000000:=by omega
     generalize sizeTo (m - n) x=z at IH HN hsz;have hz2: (n:Int)+(z:Int)<=1000001:=by omega
     clear hx hc hr hat ihx ih hqP hn
     go_wp2_with (refine IH.mono ?_; rintro e w' ⟨rfl,hb'⟩)
     go_roundw
     case rel=>exact ⟨i+1,by go_num,by omega,by rw[<-HN.out]; go_num,hb.trans (hb'.mono hb.size)⟩
     case measure=>simp[intOf]; omega}}
   {have HF:Hid (n=sizeTo m t):=Y1 (by
     have:=Z2m t.parts i;unfold sizeTo; have:=HZ.out; omega)
    have d2:decide (n<=m)=false:=decide_eq_false (by omega);have d3:decide (i < t.parts.length)=true:=decide_eq_true (by omega);clear hn;go_wp2;go_ret;exact ⟨by rw[<-HF.out]; rfl,HB0.out.trans (hb.mono HB0.out.size)⟩}}
  {have HF:Hid (n=sizeTo m t):=Y1 (by
    rw[show i=t.parts.length from by omega,List.take_length] at hn;unfold sizeTo; have:=HZ.out; omega)
   have d3:decide (i < t.parts.length)=false:=decide_eq_false (by omega);clear hn;go_wp2;go_ret;exact ⟨by rw[<-HF.out]; rfl,HB0.out.trans (hb.mono HB0.out.size)⟩}
end
end Go.Proofs.YtfgcocpdaghlnaaDoor
