/- What the proofs of ParsePlaces want, part 2. -/
import Derived.WalkLawsBesides
import Derived.Test.YtkncdbaoaeeoiaaGreatDoorK0n1
set_option linter.unusedVariables false
set_option linter.unusedSimpArgs false
set_option linter.unusedSectionVars false
set_option maxRecDepth 100000
set_option maxHeartbeats 16000000
namespace Go.Proofs.YtkncdbaoaeeoiaaGreatDoor
section
open Go.RowKit Shp
structure UpC (cb B:Nat) (w w':World):Prop where
 os:w'.os=w.os
 tape:w'.tape=w.tape
 output:w'.output=w.output
 size:w.heap.size<=w'.heap.size
 block: ∀k,k < B->k≠cb->w'.heap[k]? =w.heap[k]?
 c1:w'.cell? ⟨cb,1,none⟩=w.cell? ⟨cb,1,none⟩
 f0:w'.frozen? ⟨cb,0,none⟩=w.frozen? ⟨cb,0,none⟩
theorem UpC.refl (cb B:Nat) (w:World):UpC cb B w w:=⟨rfl,rfl,rfl,Nat.le_refl _,fun _ _ _=>rfl,rfl,rfl⟩
theorem UpC.trans {cb B:Nat} {a b c:World} (h:UpC cb B a b) (k:UpC cb B b c):UpC cb B a c:=
 ⟨k.os.trans h.os,k.tape.trans h.tape,k.output.trans h.output,Nat.le_trans h.size k.size,fun i hi hn=>(k.block i hi hn).trans (h.block i hi hn),k.c1.trans h.c1,k.f0.trans h.f0⟩
theorem UpC.mono {cb B B':Nat} {w w':World} (h:UpC cb B w w') (hB:B'<=B):UpC cb B' w w':=⟨h.os,h.tape,h.output,h.size,fun k hk=>h.block k (Nat.lt_of_lt_of_le hk hB),h.c1,h.f0⟩
theorem UpC.below {cb B:Nat} {a w w':World} (h:UpC cb B a w) (hb:Below B w w') (hc:cb < B):UpC cb B a w':=
 h.trans ⟨hb.os,hb.tape,hb.output,hb.size,fun k hk _=>hb.block k hk,hb.cell (p:=⟨cb,1,none⟩) hc,hb.frozen (p:=⟨cb,0,none⟩) hc⟩
theorem UpC.set {cb B:Nat} {a w:World} (h:UpC cb B a w) (v:Value):UpC cb B a (w.setCell ⟨cb,0,none⟩ v):=
 h.trans ⟨rfl,rfl,rfl,by simp[World.setCell],fun k hk hn=>Below.heap_setCell _ _ _ _ hn,by simp[go_sem],by simp[go_sem]⟩
theorem UpC.next {cb:Nat} {a b c:World} (h:UpC cb a.heap.size a b) (k:UpC cb b.heap.size b c):UpC cb a.heap.size a c:=h.trans (k.mono h.size)
theorem UpC.cell {cb B:Nat} {w w':World} (h:UpC cb B w w') {g k:Nat} (hg:g < B) (hn:g≠cb):w'.cell? ⟨g,k,none⟩=w.cell? ⟨g,k,none⟩:=World.cell?_of_block (w:=w) (h.block g hg hn)
theorem UpC.toBelow {cb B:Nat} {w w':World} (h:UpC cb B w w') (hB:B<=cb):Below B w w':=⟨h.os,h.tape,h.output,h.size,fun k hk=>h.block k hk (by omega)⟩
structure Cnt (w:World) (cb p m:Nat):Prop where
 lt:cb < w.heap.size
 c0:w.cell? ⟨cb,0,none⟩=some (.int .i64 (p:Int))
 c1:m=400
 f0:w.frozen? ⟨cb,0,none⟩=false
theorem Cnt.below {w w':World} {cb p m:Nat} (h:Cnt w cb p m) (hb:Below w.heap.size w w'):Cnt w' cb p m:=
 ⟨Nat.lt_of_lt_of_le h.lt hb.size,(hb.cell (p:=⟨cb,0,none⟩) h.lt).trans h.c0,h.c1,(hb.frozen (p:=⟨cb,0,none⟩) h.lt).trans h.f0⟩
theorem Cnt.set {w:World} {cb p m:Nat} (h:Cnt w cb p m) (n:Nat):Cnt (w.setCell ⟨cb,0,none⟩ (.int .i64 (n:Int))) cb n m:=
 ⟨by simpa[World.setCell] using h.lt,by simp[go_sem,h.c0],h.c1,by simp[go_sem,h.f0]⟩
theorem ShAt.upc {w w':World} {B C cb:Nat} {q:Ptr} {t:Sh} (h:ShAt w B q t) (hu:UpC cb C w w') (h1:B<=cb) (h2:B<=C):ShAt w' B q t:=
 h.of (Nat.le_refl _) (fun g k hg=>hu.cell (by omega) (by omega))
theorem Z6S (t:Sh): ∀(q:Ptr) (B cb p m:Nat) (w:World),ShAt w B q t->B<=cb->Cnt w cb p m->p+size t<=m->m<=1000000->
 Calls Tryz.prog 139 #[.pointer (some ⟨cb,0,none⟩),.agg (Y8 t q)] w
  fun e w'=>e= .returned (.int .i64 (deep t:Int))/\UpC cb w.heap.size w w'/\Cnt w' cb (p+size t) m:=by
 induction t using Sh.ind with
 | h t ih=>
 intro q B cb p m w hq hBc hc hpm hm;have HQ:=Y1 hq;have HM:=Y1 hq.small.m;have HP:=Y1 hq.part;have HD:Hid (deep t=deeps t.parts+1):=Y1 (deep_eq t);have HZ:Hid (size t=1+sizes t.parts):=Y1 (size_eq t);have HDS:=Y1 (deep_size t);have HPM:Hid (p+size t<=m):=Y1 hpm;have hlt:p < m:=by have:=HZ.out; omega
 have hpe: ((p:Int)==400)=false:=by rw[beq_eq_false_iff_ne]; have:=hc.c1; omega
 have hpi: (p:Int)<=1000000:=by omega
 have hb0:=Z01 w (.cells (Y8 t q) 43);have HC:=Y1 hc;have hB:=Z0k w t q;have HB:=Y1 hB;have HC1:=Y1 (hc.below hb0);have HU:=Y1 ((UpC.refl cb w.heap.size w).below hb0 hc.lt);have hcl:=hc.lt;obtain ⟨_,k0,k1,k2⟩:=hc.below hb0;clear k1;clear hb0 hc hB hpm hq;have hne:w.heap.size≠cb:=by omega
 have hne2:cb≠w.heap.size:=by omega
 go_enter Tryz.func139,Tryz.ntmps139
 go_wp2_with fail
 obtain ⟨W0,hW0⟩: ∃W0,W0=(w.setCell ⟨cb,0,none⟩ (.int .i64 ((p:Int)+1))).alloc (.cells (Y8 t q) 43):=⟨_,rfl⟩;have hsz0:W0.heap.size=w.heap.size+1:=by rw[hW0]; simp[World.setCell]
 have hU0:UpC cb w.heap.size w W0:=by
  rw[hW0];exact ((UpC.refl cb w.heap.size w).set _).below ((Z01 _ _).mono (by simp[World.setCell])) hcl
 have hC0:Cnt W0 cb (p+1) m:=by
  rw[hW0];exact (HC.out.set (p+1)).below (Z01 _ _)
 have hB0:Box5 W0 w.heap.size t q:=by
  have e: (w.setCell ⟨cb,0,none⟩ (.int .i64 ((p:Int)+1))).heap.size=w.heap.size:=by simp[World.setCell]
  have h5:=Z0k (w.setCell ⟨cb,0,none⟩ (.int .i64 ((p:Int)+1))) t q;rw[e] at h5;rw[hW0]; exact h5
 have HU0:=Y1 hU0;have HC0:=Y1 hC0;have HB0:=Y1 hB0;clear hU0 hC0 hB0;rw[<-hW0];have HSZ:=Y1 hsz0;clear hW0 k0 k2 HU HC1 HB hsz0
 go_loopw [5,24] (fun dd ii wr=> ∃i:Nat,ii= .int .i64 i/\i<=t.parts.length/\dd= .int .i64 (deeps (t.parts.take i):Int)/\Hid (UpC cb W0.heap.size W0 wr)/\Hid (Cnt wr cb (p+1+sizes (t.parts.take i)) m)) (fun _ i _=>t.parts.length - (intOf i).toNat)
 case atStart=>exact ⟨0,rfl,Nat.zero_le _,rfl,Y1 (UpC.refl _ _ _),HC0⟩
 case round=>
  obtain ⟨i,rfl,hi,rfl,HUR,HCR⟩:=hrel;have hmm:=HM.out;have htk:=deeps_take t.parts i;have hds:=HDS.out;have hd2:deeps t.parts<=1000000:=by have:=HD.out; have:=HPM.out; omega
  by_cases hlt:i < t.parts.length
  {rcases HP.out with h0 | ⟨g,off,qs,hqP,hg,hc,hr⟩
   {omega}
   {have hur:UpC cb w.heap.size w wr:=HU0.out.next HUR.out;obtain ⟨x,hx⟩: ∃x,x=t.parts[i]:=⟨_,rfl⟩;have hgw:g < w.heap.size:=by omega
    obtain ⟨p0,p1,p2,p3,p4⟩:=(hc i hlt).of (w':=wr) (fun k=>hur.cell hgw (by omega));have hbx:=Z01 wr (.cells (Y8 x (qs i)) 43);have hat:ShAt (wr.alloc (.cells (Y8 x (qs i)) 43)) B (qs i) x:=by
     rw[hx];exact ((hr i hlt).upc hur hBc (by omega)).keep (Z01 wr _) (by have:=hur.size; omega)
    have hcx:=HCR.out.below hbx;have HN:Hid (sizes (t.parts.take (i+1))=sizes (t.parts.take i)+size x):=Y1 (by rw[hx]; exact sizes_next hlt);have HE:Hid (deeps (t.parts.take (i+1))=max (deeps (t.parts.take i)) (deep x)):=Y1 (by rw[hx]; exact deeps_next hlt);have ihx:=ih t.parts[i] (List.getElem_mem _) (qs i) B cb (p+1+sizes (t.parts.take i)) m (wr.alloc (.cells (Y8 x (qs i)) 43));rw[<-hx] at p0 p1 p2 p3 p4 ihx;have hdx:deep x<=1000000:=by rw[hx]; exact Nat.le_trans (deeps_mem (List.getElem_mem _)) hd2
    have hbd:p+1+sizes (t.parts.take i)+size x<=m:=by
     have:=sizes_take t.parts (i+1);have:=HN.out;have:=HPM.out;have:=HZ.out;omega
    have IH:=ihx hat hBc hcx hbd hm;have HBX:=Y1 (HB0.out);clear hx hc hr hat ihx hcx hbd hd2 hur hbx ih;have hi1: (i:Int) < (t.parts.length:Int):=by omega
    obtain ⟨a,ha⟩: ∃a,a=deeps (t.parts.take i):=⟨_,rfl⟩;rw[<-ha] at HE htk ⊢;clear ha;rw[hqP];clear hqP
    go_wp2_with fail
    refine IH.mono ?_;rintro e w2 ⟨rfl,hu2,hc2⟩;have HU2:Hid (UpC cb W0.heap.size W0 w2):=Y1 ((HUR.out.below ((Z01 wr _).mono HUR.out.size) (by have:=HSZ.out; omega)).trans (hu2.mono (by have:=HUR.out.size; simp; omega)));have HC2:Hid (Cnt w2 cb (p+1+sizes (t.parts.take (i+1))) m):=Y1 (by rw[HN.out, <-Nat.add_assoc]; exact hc2);clear hu2 hc2 IH;by_cases hgt: (a:Int) < (deep x:Int)
    all_goals
     go_wp2
     go_roundw
     case rel=>exact ⟨i+1,by go_num,by omega,by rw[HE.out]; go_num,HU2,HC2⟩
     case measure=>simp[intOf]; omega}}
  {have HF:Hid (deep t=deeps (t.parts.take i)+1):=Y1 (by rw[HD.out,show i=t.parts.length from by omega,List.take_length]);have HG:Hid (p+size t=p+1+sizes (t.parts.take i)):=Y1 (by rw[HZ.out,show i=t.parts.length from by omega,List.take_length]; omega);have hi1: ¬(i:Int) < (t.parts.length:Int):=by omega
   go_wp2;go_ret;exact ⟨Z0p (by rw[HF.out]; go_num),HU0.out.next HUR.out,by rw[HG.out]; exact HCR.out⟩}
theorem Z9d (t:Sh): ∀(q:Ptr) (B cb p m:Nat) (w:World),ShAt w B q t->B<=cb->Cnt w cb p m->p<=m->m < p+size t->m<=1000000->
 Calls Tryz.prog 139 #[.pointer (some ⟨cb,0,none⟩),.agg (Y8 t q)] w
  fun e w'=>e= .panicked [{ v:= .iface 27 (.int .i64 3),recovered:=false }]/\UpC cb w.heap.size w w':=by
 induction t using Sh.ind with
 | h t ih=>
 intro q B cb p m w hq hBc hc hpm hov hm;have HQ:=Y1 hq;have HM:=Y1 hq.small.m;have HP:=Y1 hq.part;have HD:Hid (deep t=deeps t.parts+1):=Y1 (deep_eq t);have HZ:Hid (size t=1+sizes t.parts):=Y1 (size_eq t);have HDS:=Y1 (deep_size t);have HOV:Hid (m < p+size t):=Y1 hov;have hpi: (p:Int)<=1000000:=by omega
 have hb0:=Z01 w (.cells (Y8 t q) 43);have HC:=Y1 hc;have hB:=Z0k w t q;have HB:=Y1 hB;have HC1:=Y1 (hc.below hb0);have HU:=Y1 ((UpC.refl cb w.heap.size w).below hb0 hc.lt);have hcl:=hc.lt;obtain ⟨_,k0,k1,k2⟩:=hc.below hb0;clear k1;clear hb0 hc hB hov hq;have hne:w.heap.size≠cb:=by omega
 have hne2:cb≠w.heap.size:=by omega
 by_cases hpm2:p=m
 {have hpe: ((p:Int)==400)=true:=by rw[beq_iff_eq]; have:=HC.out.c1; omega
  have HUX:=HU;clear hpm2 hpm ih;go_enter Tryz.func139,Tryz.ntmps139
  go_wp2_with fail
  exact ⟨rfl,rfl,HU.out⟩}
 have hlt:p < m:=by omega
 have hpe: ((p:Int)==400)=false:=by rw[beq_eq_false_iff_ne]; have:=HC.out.c1; omega
 clear hpm2;go_enter Tryz.func139,Tryz.ntmps139
 go_wp2_with fail
 obtain ⟨W0,hW0⟩: ∃W0,W0=(w.setCell ⟨cb,0,none⟩ (.int .i64 ((p:Int)+1))).alloc (.cells (Y8 t q) 43):=⟨_,rfl⟩;have hsz0:W0.heap.size=w.heap.size+1:=by rw[hW0]; simp[World.setCell]
 have hU0:UpC cb w.heap.size w W0:=by
  rw[hW0];exact ((UpC.refl cb w.heap.size w).set _).below ((Z01 _ _).mono (by simp[World.setCell])) hcl
 have hC0:Cnt W0 cb (p+1) m:=by
  rw[hW0];exact (HC.out.set (p+1)).below (Z01 _ _)
 have hB0:Box5 W0 w.heap.size t q:=by
  have e: (w.setCell ⟨cb,0,none⟩ (.int .i64 ((p:Int)+1))).heap.size=w.heap.size:=by simp[World.setCell]
  have h5:=Z0k (w.setCell ⟨cb,0,none⟩ (.int .i64 ((p:Int)+1))) t q;rw[e] at h5;rw[hW0]; exact h5
 have HU0:=Y1 hU0;have HC0:=Y1 hC0;have HB0:=Y1 hB0;clear hU0 hC0 hB0;rw[<-hW0];have HSZ:=Y1 hsz0;clear hW0 k0 k2 HU HC1 HB hsz0
 go_loopw [5,24] (fun dd ii wr=> ∃i:Nat,ii= .int .i64 i/\i<=t.parts.length/\dd= .int .i64 (deeps (t.parts.take i):Int)/\Hid (UpC cb W0.heap.size W0 wr)/\p+1+sizes (t.parts.take i)<=m/\Hid (Cnt wr cb (p+1+sizes (t.parts.take i)) m)) (fun _ i _=>t.parts.length - (intOf i).toNat)
 case atStart=>exact ⟨0,rfl,Nat.zero_le _,rfl,Y1 (UpC.refl _ _ _),by simp[sizes]; omega,HC0⟩
 case round=>
  obtain ⟨i,rfl,hi,rfl,HUR,hpi2,HCR⟩:=hrel;have hmm:=HM.out;have htk:deeps (t.parts.take i)<=1000000:=by have:=Z99 (t.parts.take i); omega
  by_cases hlt:i < t.parts.length
  {rcases HP.out with h0 | ⟨g,off,qs,hqP,hg,hc,hr⟩
   {omega}
   {have hur:UpC cb w.heap.size w wr:=HU0.out.next HUR.out;obtain ⟨x,hx⟩: ∃x,x=t.parts[i]:=⟨_,rfl⟩;have hgw:g < w.heap.size:=by omega
    obtain ⟨p0,p1,p2,p3,p4⟩:=(hc i hlt).of (w':=wr) (fun k=>hur.cell hgw (by omega));have hbx:=Z01 wr (.cells (Y8 x (qs i)) 43);have hat:ShAt (wr.alloc (.cells (Y8 x (qs i)) 43)) B (qs i) x:=by
     rw[hx];exact ((hr i hlt).upc hur hBc (by omega)).keep (Z01 wr _) (by have:=hur.size; omega)
    have hcx:=HCR.out.below hbx;have HN:Hid (sizes (t.parts.take (i+1))=sizes (t.parts.take i)+size x):=Y1 (by rw[hx]; exact sizes_next hlt);have HE:Hid (deeps (t.parts.take (i+1))=max (deeps (t.parts.take i)) (deep x)):=Y1 (by rw[hx]; exact deeps_next hlt);have ihx:=ih t.parts[i] (List.getElem_mem _) (qs i) B cb (p+1+sizes (t.parts.take i)) m (wr.alloc (.cells (Y8 x (qs i)) 43));rw[<-hx] at p0 p1 p2 p3 p4 ihx;have hml:=fun hbd=>Z6S x (qs i) B cb (p+1+sizes (t.parts.take i)) m (wr.alloc (.cells (Y8 x (qs i)) 43)) hat hBc hcx hbd hm;have hmo:=fun hbd=>ihx hat hBc hcx hpi2 hbd hm;have HSB:=Y1 hur;have HBX:=Y1 (HB0.out);clear hx hc hr hat ihx hcx hur hbx ih;have hi1: (i:Int) < (t.parts.length:Int):=by omega
    obtain ⟨a,ha⟩: ∃a,a=deeps (t.parts.take i):=⟨_,rfl⟩;rw[<-ha] at HE htk ⊢;clear ha;rw[hqP];clear hqP;by_cases hfit:m < p+1+sizes (t.parts.take i)+size x
    {have IH:=hmo hfit;clear hml hmo hfit
     go_wp2_with fail
     refine IH.mono ?_;rintro e w2 ⟨rfl,hu2⟩;have HU2:Hid (UpC cb w.heap.size w w2):=Y1 ((HSB.out.below ((Z01 wr _).mono HSB.out.size) hcl).trans (hu2.mono (by have:=HSB.out.size; simp; omega)));clear hu2 IH;go_wp2;exact ⟨rfl,rfl,HU2.out⟩}
    have IH:=hml (by omega);have hdx:deep x<=1000000:=by have:=deep_size x; omega
    have HF1:Hid (p+1+sizes (t.parts.take (i+1))<=m):=Y1 (by rw[HN.out]; omega);clear hml hmo hfit
    go_wp2_with fail
    refine IH.mono ?_;rintro e w2 ⟨rfl,hu2,hc2⟩;have HU2:Hid (UpC cb W0.heap.size W0 w2):=Y1 ((HUR.out.below ((Z01 wr _).mono HUR.out.size) (by have:=HSZ.out; omega)).trans (hu2.mono (by have:=HUR.out.size; simp; omega)));have HC2:Hid (Cnt w2 cb (p+1+sizes (t.parts.take (i+1))) m):=Y1 (by rw[HN.out, <-Nat.add_assoc]; exact hc2);clear hu2 hc2 IH;by_cases hgt: (a:Int) < (deep x:Int)
    all_goals
     go_wp2
     go_roundw
     case rel=>exact ⟨i+1,by go_num,by omega,by rw[HE.out]; go_num,HU2,HF1.out,HC2⟩
     case measure=>simp[intOf]; omega}}
  {exfalso;have:=HOV.out;rw[show i=t.parts.length from by omega,List.take_length] at hpi2;rw[HZ.out] at this;omega}
end
section
open Go.RowKit Tms
open Shp (Sh)
theorem TmAt.upc {w w':World} {B C cb:Nat} {q:TP} {t:Tm} (h:TmAt w B q t) (hu:UpC cb C w w') (h1:B<=cb) (h2:B<=C):TmAt w' B q t:=
 h.of (Nat.le_refl _) (fun g k hg=>hu.cell (by omega) (by omega))
structure Cnt8 (w:World) (cb p:Nat):Prop where
 lt:cb < w.heap.size
 c0:w.cell? ⟨cb,0,none⟩=some (.int .i64 (p:Int))
 f0:w.frozen? ⟨cb,0,none⟩=false
theorem Cnt8.below {w w':World} {cb p:Nat} (h:Cnt8 w cb p) (hb:Below w.heap.size w w'):Cnt8 w' cb p:=
 ⟨Nat.lt_of_lt_of_le h.lt hb.size,(hb.cell (p:=⟨cb,0,none⟩) h.lt).trans h.c0,(hb.frozen (p:=⟨cb,0,none⟩) h.lt).trans h.f0⟩
theorem Cnt8.set {w:World} {cb p:Nat} (h:Cnt8 w cb p) (n:Nat):Cnt8 (w.setCell ⟨cb,0,none⟩ (.int .i64 (n:Int))) cb n:=
 ⟨by simpa[World.setCell] using h.lt,by simp[go_sem,h.c0],by simp[go_sem,h.f0]⟩
theorem Z81 (t:Tm): ∀(q:TP) (B cb p:Nat) (w:World),TmAt w B q t->B<=cb->Cnt8 w cb p->p<=4096->
 Calls Tryz.prog 77 #[.pointer (some ⟨cb,0,none⟩),.agg (Y7 t q)] w
  fun e w'=> ∃r:Nat,e= .returned (.int .i64 (r:Int))/\(p+size t<=4096->r=deep t)/\p+r<=min (p+size t) 4097/\UpC cb w.heap.size w w'/\Cnt8 w' cb (min (p+size t) 4097):=by
 induction t using Tm.ind with
 | h t ih=>
 intro q B cb p w hq hBc hc hpm;have HM:=Y1 hq.small.m;have HP:=Y1 hq.part;have HD:Hid (deep t=deeps t.parts+1):=Y1 (deep_eq t);have HZ:Hid (size t=1+sizes t.parts):=Y1 (size_eq t);have hpi: (p:Int)<=4096:=by omega
 have hcl:=hc.lt;have HC:=Y1 hc;obtain ⟨_,k0,k2⟩:=hc.below (Z01 w (.cells (Y7 t q) 26));have hne:w.heap.size≠cb:=by omega
 have hne2:cb≠w.heap.size:=by omega
 clear hc hq;go_enter Tryz.func77,Tryz.ntmps77
 go_wp2_with fail
 obtain ⟨W0,hW0⟩: ∃W0,W0=(w.setCell ⟨cb,0,none⟩ (.int .i64 ((p:Int)+1))).alloc (.cells (Y7 t q) 26):=⟨_,rfl⟩;have hsz0:W0.heap.size=w.heap.size+1:=by rw[hW0]; simp[World.setCell]
 have hU0:UpC cb w.heap.size w W0:=by
  rw[hW0];exact ((UpC.refl cb w.heap.size w).set _).below ((Z01 _ _).mono (by simp[World.setCell])) hcl
 have hC0:Cnt8 W0 cb (p+1):=by
  rw[hW0];exact (HC.out.set (p+1)).below (Z01 _ _)
 have hB0:Box9 W0 w.heap.size t q:=by
  have e: (w.setCell ⟨cb,0,none⟩ (.int .i64 ((p:Int)+1))).heap.size=w.heap.size:=by simp[World.setCell]
  have h5:=Z1c (w.setCell ⟨cb,0,none⟩ (.int .i64 ((p:Int)+1))) t q;rw[e] at h5;rw[hW0]; exact h5
 have HU0:=Y1 hU0;have HC0:=Y1 hC0;have HB0:=Y1 hB0;clear hU0 hC0 hB0;rw[<-hW0];have HSZ:=Y1 hsz0;clear hW0 k0 k2 hsz0
 go_loopw [5,18] (fun dd ii wr=> ∃i d:Nat,ii= .int .i64 i/\i<=t.parts.length/\dd= .int .i64 (d:Int)/\(p+1+sizes (t.parts.take i)<=4096->d=deeps (t.parts.take i))/\p+1+d<=min (p+1+sizes (t.parts.take i)) 4097/\Hid (UpC cb W0.heap.size W0 wr)/\Hid (Cnt8 wr cb (min (p+1+sizes (t.parts.take i)) 4097))) (fun _ i _=>t.parts.length - (intOf i).toNat)
 case atStart=>exact ⟨0,0,rfl,Nat.zero_le _,rfl,fun _=>rfl,by simp[sizes]; omega,Y1 (UpC.refl _ _ _),by
  have:min (p+1+sizes (t.parts.take 0)) 4097=p+1:=by simp[sizes]; omega
  rw[this]; exact HC0⟩
 case round=>
  obtain ⟨i,d,rfl,hi,rfl,hd,hdm,HUR,HCR⟩:=hrel;have hmm:=HM.out;have hdi: (d:Int)<=4097:=by omega
  by_cases hlt:i < t.parts.length
  {rcases HP.out with h0 | ⟨g,off,qs,hqP,hg,hc,hr⟩
   {omega}
   {have hur:UpC cb w.heap.size w wr:=HU0.out.next HUR.out;obtain ⟨x,hx⟩: ∃x,x=t.parts[i]:=⟨_,rfl⟩;have hgw:g < w.heap.size:=by omega
    obtain ⟨p0,p1,p2,p3,p4,p5,p6,p7,p8⟩:=(hc i hlt).of (w':=wr) (fun k=>hur.cell hgw (by omega));have hbx:=Z01 wr (.cells (Y7 x ((qs i))) 26);have hat:TmAt (wr.alloc (.cells (Y7 x ((qs i))) 26)) B (qs i) x:=by
     rw[hx];exact ((hr i hlt).upc hur hBc (by omega)).keep (Z01 wr _) (by have:=hur.size; omega)
    have hcx:=HCR.out.below hbx;have HN:Hid (sizes (t.parts.take (i+1))=sizes (t.parts.take i)+size x):=Y1 (by rw[hx]; exact sizes_next hlt);have HE:Hid (deeps (t.parts.take (i+1))=max (deeps (t.parts.take i)) (deep x)):=Y1 (by rw[hx]; exact deeps_next hlt);have hxs:=size_pos x;have ihx:=ih t.parts[i] (List.getElem_mem _) (qs i) B cb (min (p+1+sizes (t.parts.take i)) 4097) (wr.alloc (.cells (Y7 x ((qs i))) 26));rw[<-hx] at p0 p1 p2 p3 p4 p5 p6 p7 p8 ihx;have IH0:=fun h=>ihx hat hBc hcx h;have HXL:Hid (∀n,n<=i->sizes (t.parts.take n)<=sizes (t.parts.take i)):=Y1 (fun n hn=>by
     have:=sizes_take (t.parts.take i) n
     rwa [List.take_take,Nat.min_eq_left hn] at this)
    have HBX:=Y1 (HB0.out);have hsl:sizes (t.parts.take i)+size x<=sizes t.parts:=by rw[<-HN.out]; exact sizes_take _ _
    clear hx hc hr hat ihx hcx hbx ih;have hi1: (i:Int) < (t.parts.length:Int):=by omega
    have HDI:=Y1 hd;have HDM:=Y1 hdm;rw[hqP];clear hqP hd hdm;obtain ⟨c,hcq⟩: ∃c,c=min (p+1+sizes (t.parts.take i)) 4097:=⟨_,rfl⟩;rw[<-hcq] at HCR IH0 HDM;have HCQ:=Y1 hcq;have hcc:=HCR.out.c0;have hccl:=HCR.out.lt;have hcwr:cb≠wr.heap.size:=by omega
    clear hcq;by_cases hbig:4096 < c
    {have hbi: (4096:Int) < (c:Int):=by omega
     have HF:Hid (min (p+size t) 4097=c):=Y1 (by rw[HCQ.out] at hbig ⊢; rw[HZ.out]; omega);have HR:Hid (p+(d+1)<=c):=Y1 (by have:=HDM.out; omega);have HU2:Hid (UpC cb w.heap.size w (wr.alloc (.cells (Y7 x ((qs i))) 26))):=Y1 (hur.below ((Z01 wr _).mono hur.size) hcl);have HC2:=Y1 (HCR.out.below (Z01 wr (.cells (Y7 x ((qs i))) 26)));clear hur IH0;go_wp2;go_ret;refine ⟨d+1,by go_num,fun h=> ?_,by rw[HF.out]; exact HR.out,HU2.out,by rw[HF.out]; exact HC2.out⟩;have:=HF.out;omega}
    {have hbi: ¬(4096:Int) < (c:Int):=by omega
     have IH:=IH0 (by omega);have HUR2:=Y1 hur;clear IH0 hur
     go_wp2_with fail
     refine IH.mono ?_;rintro e w2 ⟨r,rfl,hr1,hr2,hu2,hc2⟩;have HU2:Hid (UpC cb W0.heap.size W0 w2):=Y1 ((HUR.out.below ((Z01 wr _).mono HUR.out.size) (by have:=HSZ.out; omega)).trans (hu2.mono (by have:=HUR.out.size; simp; omega)));have HMN:Hid (min (c+size x) 4097=min (p+1+sizes (t.parts.take (i+1))) 4097):=Y1 (by rw[HN.out,HCQ.out]; omega);have HC2:Hid (Cnt8 w2 cb (min (p+1+sizes (t.parts.take (i+1))) 4097)):=Y1 (by rw[<-HMN.out]; exact hc2);have HR1:Hid (p+1+sizes (t.parts.take (i+1))<=4096->max d r=deeps (t.parts.take (i+1))):=Y1 (fun h=>by
      have h1:=HN.out;have h2:=HCQ.out;rw[HE.out,HDI.out (by omega),hr1 (by omega)])
     have HR2:Hid (p+1+max d r<=min (p+1+sizes (t.parts.take (i+1))) 4097):=Y1 (by
      rw[<-HMN.out];have:=HDM.out;have:=HCQ.out;omega)
     have hri: (r:Int)<=4097:=by omega
     clear hu2 hc2 IH hr1 hr2;by_cases hgt: (d:Int) < (r:Int)
     all_goals
      go_wp2
      go_roundw
      case rel=>exact ⟨i+1,max d r,by go_num,by omega,by go_num,HR1.out,HR2.out,HU2,HC2⟩
      case measure=>simp[intOf]; omega}}}
  {have hie:i=t.parts.length:=by omega
   have HF:Hid (p+1+sizes (t.parts.take i)=p+size t):=Y1 (by rw[HZ.out,hie,List.take_length]; omega);have HG:Hid (p+size t<=4096->d+1=deep t):=Y1 (fun h=>by rw[HD.out,hd (by rw[HF.out]; exact h),hie,List.take_length]);have HK:Hid (p+(d+1)<=min (p+size t) 4097):=Y1 (by rw[<-HF.out]; omega);have hi1: ¬(i:Int) < (t.parts.length:Int):=by omega
   clear hie hd hdm;go_wp2;go_ret;exact ⟨d+1,by go_num,HG.out,HK.out,HU0.out.next HUR.out,by rw[<-HF.out]; exact HCR.out⟩}
end
end Go.Proofs.YtkncdbaoaeeoiaaGreatDoor
namespace Tms
section
open Shp (Sh)
def bare (t:Tm):Tm:=if check t=0 then strip t else t
end
end Tms
namespace Shp
section
theorem Z1G {s:List UInt8} (h:Lex.isName s=true):s.length<=24:=by
 cases s with
 | nil=>simp
 | cons c r=>
  have:Lex.isName (c::r)=(decide ((c::r).length<=24)&&Lex.small c&&(c::r).all Lex.nameB&& !Lex.isWord (c::r)):=rfl;rw[this] at h;simp only[Bool.and_eq_true,decide_eq_true_eq] at h;exact h.1.1.1
theorem Z9g {s:List UInt8} (h:Lex.isUpper s=true):s.length<=24:=by
 cases s with
 | nil=>simp
 | cons c r=>
  have:Lex.isUpper (c::r)=(decide ((c::r).length<=24)&&Lex.great c&&(c::r).all Lex.nameB):=rfl;rw[this] at h;simp only[Bool.and_eq_true,decide_eq_true_eq] at h;exact h.1.1
theorem ZaR {t:Sh} (h:fits t=true):
 (1<=t.kind/\t.kind<=4/\t.names= []/\t.parts= [])\/(t.kind=5/\t.names= []/\t.parts.length=1)\/((t.kind=6\/t.kind=7)/\t.names.length=t.parts.length/\areNames t.names=true)\/
 (t.kind=8/\t.names= []/\1<=t.parts.length)\/((t.kind=9\/t.kind=10)/\t.names= []/\t.parts= []/\t.name.length<=24/\t.of_.length<=24):=by
 by_cases h9:t.kind=9\/t.kind=10
 {rw[Z4u h9] at h;simp only[Bool.and_eq_true,decide_eq_true_eq] at h;obtain ⟨⟨⟨h1,h2⟩,h3⟩,h4⟩:=h;refine Or.inr (Or.inr (Or.inr (Or.inr ⟨h9,List.eq_nil_of_length_eq_zero h3,List.eq_nil_of_length_eq_zero h4,Z9g h1, ?_⟩)));unfold ofOk at h2;cases hn:Lex.isName t.of_ with
  | true=>exact Z1G hn
  | false=>
   rw[hn] at h2;simp at h2;rw[h2.1.1]; simp}
 {cases hb:bare t with
  | false=>rw[Z20 h9 hb] at h; cases h
  | true=>
   by_cases h6:t.kind=6\/t.kind=7
   {rw[Z7X hb h6,Bool.and_eq_true,decide_eq_true_eq] at h;exact Or.inr (Or.inr (Or.inl ⟨h6,h.2,h.1⟩))}
   {by_cases hz:0 < t.names.length
    {rw[Z2E h9 hb h6 hz] at h; cases h}
    {have hn:t.names= []:=List.eq_nil_of_length_eq_zero (by omega);by_cases h8:t.kind=8
     {rw[Z7Y hb h8 hz,decide_eq_true_eq] at h;exact Or.inr (Or.inr (Or.inr (Or.inl ⟨h8,hn,h⟩)))}
     {by_cases h5:t.kind=5
      {rw[Z6P hb h5 hz,decide_eq_true_eq] at h;exact Or.inr (Or.inl ⟨h5,hn,h⟩)}
      {rw[Z4v hb h9 h6 hz h8 h5] at h;simp only[Bool.and_eq_true,decide_eq_true_eq] at h;exact Or.inl ⟨h.1.1,h.1.2,hn,List.eq_nil_of_length_eq_zero h.2⟩}}}}}
theorem Z82 {l:List (List UInt8)} (h:areNames l=true): ∀x∈l,x.length<=24:=fun x hx=>Z1G (((Z25 l).1 h).1 x hx)
def total (l:List (List UInt8)):Nat:=(l.map List.length).sum
theorem join_len (sep:List UInt8) (l:List (List UInt8)): (join sep l).length<=total l+sep.length * l.length:=by
 unfold join total
 match l with
 | []=>simp[List.intercalate]
 | [a]=>simp[List.intercalate]
 | a::b::r=>
  have ih:=join_len sep (b::r);unfold join total at ih;have e:sep.intercalate (a::b::r)=a++sep++sep.intercalate (b::r):=by simp[List.intercalate]
  rw[e];simp only[List.length_append,List.map_cons,List.sum_cons,List.length_cons] at ih ⊢;rw[Nat.mul_succ];omega
theorem Z83 {ns ts:List (List UInt8)} (h: ∀x∈ns,x.length<=24):total (List.zipWith field ns ts)<=total ts+26 * ts.length:=by
 induction ns generalizing ts with
 | nil=>simp[total]
 | cons n ns ih=>
  cases ts with
  | nil=>simp[total]
  | cons t ts=>
   have h1:=h n (by simp);have h2:=ih (ts:=ts) (fun x hx=>h x (by simp[hx]));simp[total,field] at h2 ⊢;omega
theorem Z9h {l:List Sh} (h: ∀p∈l,(text p).length+29<=100 * size p):total (l.map text)+29 * l.length<=100 * sizes l:=by
 induction l with
 | nil=>simp[total,sizes]
 | cons a l ih=>
  have h1:=h a (by simp);have h2:=ih (fun p hp=>h p (by simp[hp]));simp[total,sizes] at h2 ⊢;omega
theorem Z6W {l:List (List UInt8)} {x:List UInt8} (h:x∈l):x.length<=total l:=by
 induction l with
 | nil=>cases h
 | cons a l ih=>
  rcases List.mem_cons.1 h with rfl | h
  {simp[total]}
  {have:=ih h; simp[total] at this ⊢; omega}
theorem Z27 (l m:List (List UInt8)):total (l++m)=total l+total m:=by simp[total]
section
variable {t : Sh}
include t
theorem Z9i (h:t.kind=1):text t= [73,110,116]:=by rw[text_eq]; unfold textOf; rw[if_pos h]
theorem Z9j (h:t.kind=2):text t= [66,111,111,108]:=by rw[text_eq]; unfold textOf; rw[if_neg (by omega),if_pos h]
theorem Z9k (h:t.kind=3):text t= [84,101,120,116]:=by rw[text_eq]; unfold textOf; rw[if_neg (by omega),if_neg (by omega),if_pos h]
theorem Z9l (h:t.kind=4):text t= [65,110,121]:=by rw[text_eq]; unfold textOf; rw[if_neg (by omega),if_neg (by omega),if_neg (by omega),if_pos h]
theorem Z9m (h:t.kind=5):text t= [91]++(t.parts.map text).headD []++ [93]:=by
 rw[text_eq]; unfold textOf; rw[if_neg (by omega),if_neg (by omega),if_neg (by omega),if_neg (by omega),if_pos h]
theorem Z9n (h:t.kind=6):text t= [123]++join [44,32] (fields t.names (t.parts.map text))++ [125]:=by
 rw[text_eq]; unfold textOf; rw[if_neg (by omega),if_neg (by omega),if_neg (by omega),if_neg (by omega),if_neg (by omega),if_pos h]
theorem Z9o (h:t.kind=7):text t= [60]++join [32,124,32] (fields t.names (t.parts.map text))++ [62]:=by
 rw[text_eq]; unfold textOf; rw[if_neg (by omega),if_neg (by omega),if_neg (by omega),if_neg (by omega),if_neg (by omega),if_neg (by omega),if_pos h]
theorem Z9p (h:t.kind=8):text t= [40]++join [44,32] (t.parts.map text).dropLast++ [41,32,45,62,32]++(t.parts.map text).getLastD []:=by
 rw[text_eq]; unfold textOf; rw[if_neg (by omega),if_neg (by omega),if_neg (by omega),if_neg (by omega),if_neg (by omega),if_neg (by omega),if_neg (by omega),if_pos h]
theorem Z9q (h:t.kind=9\/t.kind=10):text t=named t:=by
 rw[text_eq]; unfold textOf named;rw[if_neg (by omega),if_neg (by omega),if_neg (by omega),if_neg (by omega),if_neg (by omega),if_neg (by omega),if_neg (by omega),if_neg (by omega)]
theorem Z84 (hn:t.names.length=t.parts.length) (ha:areNames t.names=true):total (fields t.names (t.parts.map text))<=total (t.parts.map text)+26 * t.parts.length/\(fields t.names (t.parts.map text)).length=t.parts.length:=by
 unfold fields;by_cases hz:t.names= []
 {rw[if_pos hz]; exact ⟨by omega,by simp⟩}
 {rw[if_neg hz];exact ⟨by have:=Z83 (ts:=t.parts.map text) (Z82 ha); rwa [List.length_map] at this,by simp[hn]⟩}
theorem text_len (h:right t=true): (text t).length+29<=100 * size t:=by
 induction t using Sh.ind with
 | h t ih=>
  have hp:=Z9h (l:=t.parts) (fun p hp=>ih p hp (right_part h hp));rw[size_eq];rcases ZaR (right_fits h) with ⟨h1,h2,_,_⟩ | ⟨h5,_,_⟩ | ⟨h6,hn,ha⟩ | ⟨h8,_,_⟩ | ⟨h9,_,_,hl,ho⟩
  {have:t.kind=1\/t.kind=2\/t.kind=3\/t.kind=4:=by omega
   rcases this with h | h | h | h
   {rw[Z9i h]; simp; omega}
   {rw[Z9j h]; simp; omega}
   {rw[Z9k h]; simp; omega}
   {rw[Z9l h]; simp; omega}}
  {rw[Z9m h5];have: ((t.parts.map text).headD []).length<=total (t.parts.map text):=by
    cases t.parts.map text with
    | nil=>simp
    | cons a l=>exact Z6W (by simp)
   simp only[List.length_append,List.length_cons,List.length_nil];omega}
  {obtain ⟨hf,hl⟩:=Z84 hn ha;rcases h6 with h | h
   {rw[Z9n h];have:=join_len [44,32] (fields t.names (t.parts.map text));simp only[List.length_append,List.length_cons,List.length_nil] at this ⊢;omega}
   {rw[Z9o h];have:=join_len [32,124,32] (fields t.names (t.parts.map text));simp only[List.length_append,List.length_cons,List.length_nil] at this ⊢;omega}}
  {rw[Z9p h8];have h1:=join_len [44,32] (t.parts.map text).dropLast;have h3:total (t.parts.map text).dropLast+((t.parts.map text).getLastD []).length<=total (t.parts.map text):=by
    rcases List.eq_nil_or_concat (t.parts.map text) with e | ⟨l,a,e⟩
    {rw[e]; simp[total]}
    {rw[e,List.concat_eq_append,List.dropLast_concat,Z27]; simp[total]}
   have h4: (t.parts.map text).dropLast.length<=t.parts.length:=by simp
   simp only[List.length_append,List.length_cons,List.length_nil] at h1 ⊢;omega}
  {rw[Z9q h9];unfold named;split
   {omega}
   {simp only[List.length_append,List.length_cons,List.length_nil]; omega}}
end
end
end Shp
namespace Lex
section
theorem Z1g (p:UInt8->Bool): ∀s:List UInt8,(s.takeWhile p).length<=s.length/\s.take (s.takeWhile p).length=s.takeWhile p
 | []=>⟨Nat.le_refl _,rfl⟩
 | x::r=>by
  obtain ⟨h1,h2⟩:=Z1g p r;by_cases hx:p x=true
  {rw[List.takeWhile_cons_of_pos hx,List.length_cons,List.length_cons,List.take_succ_cons,h2]; exact ⟨by omega,rfl⟩}
  {rw[List.takeWhile_cons_of_neg hx]; exact ⟨Nat.zero_le _,rfl⟩}
theorem Z41 {l:List UInt8} (h: (Utf.first l).2≠0) (m:List UInt8):Utf.first (l++m)=Utf.first l:=by
 rcases hq:Utf.first l with ⟨p,n⟩;rw[hq] at h;obtain ⟨h1,h2,h3,h4⟩:=Utf.Z0E hq h;rw[h3,List.append_assoc,Utf.Z0D p h1, <-h2]
theorem Z0I {s:List UInt8} {t:Tok} {n:Nat} (h:token s= .ok (t,n)):1<=n/\n<=s.length/\(t.kind≠4->t.text=s.take n)/\1<=t.kind/\t.kind<=7:=by
 cases s with
 | nil=>cases h
 | cons x r=>
  unfold token at h;simp only at h;have hn1: ∀p:UInt8->Bool,p x=true->1<=((x::r).takeWhile p).length:=fun p hp=>by
   rw[List.takeWhile_cons_of_pos hp]; simp
  split at h
  {rename_i h1
   have hx:nameB x=true:=by
    simp only[Bool.or_eq_true] at h1;unfold nameB;rcases h1 with h1 | h1 <;> simp[h1]
   have hl:=Z1g nameB (x::r);have hp:=hn1 nameB hx;split at h
   {obtain ⟨rfl,rfl⟩:=Prod.mk.inj (Except.ok.inj h);exact ⟨hp,hl.1,fun _=>hl.2.symm,by simp,by simp⟩}
   split at h
   {obtain ⟨rfl,rfl⟩:=Prod.mk.inj (Except.ok.inj h);exact ⟨hp,hl.1,fun _=>hl.2.symm,by simp,by simp⟩}
   split at h
   {obtain ⟨rfl,rfl⟩:=Prod.mk.inj (Except.ok.inj h);exact ⟨hp,hl.1,fun _=>hl.2.symm,by simp,by simp⟩}
   {cases h}}
  split at h
  {rename_i h1
   have hx:lumpB x=true:=by unfold lumpB; simp[h1]
   have hl:=Z1g lumpB (x::r);have hp:=hn1 lumpB hx;split at h
   {obtain ⟨rfl,rfl⟩:=Prod.mk.inj (Except.ok.inj h);exact ⟨hp,hl.1,fun _=>hl.2.symm,by simp,by simp⟩}
   split at h
   {obtain ⟨rfl,rfl⟩:=Prod.mk.inj (Except.ok.inj h);exact ⟨hp,hl.1,fun _=>hl.2.symm,by simp,by simp⟩}
   {cases h}}
  split at h
  {obtain ⟨h1,h2,h3⟩:=Z1u (x::r).length r (by simp);unfold quoted finish at h;rw[List.tail_cons] at h;rcases hq:body (x::r).length r with ⟨ps,rest⟩;rw[hq] at h h2;simp only at h h2;cases rest with
   | nil=>cases h
   | cons c q=>
    simp only at h;split at h
    {obtain ⟨rfl,rfl⟩:=Prod.mk.inj (Except.ok.inj h);have:=congrArg List.length h2;rw[List.length_append,List.length_cons] at this;exact ⟨by omega,by rw[List.length_cons]; omega,fun h=>absurd rfl h,by simp,by simp⟩}
    {split at h <;> cases h}}
  split at h
  {rename_i h4
   obtain ⟨rfl,rfl⟩:=Prod.mk.inj (Except.ok.inj h);simp only[Bool.and_eq_true,decide_eq_true_eq] at h4;exact ⟨by omega,h4.1,fun _=>rfl,by simp,by simp⟩}
  split at h
  {obtain ⟨rfl,rfl⟩:=Prod.mk.inj (Except.ok.inj h);exact ⟨by omega,by simp,fun _=>rfl,by simp,by simp⟩}
  {cases h}
theorem Z1m: ∀(f:Nat) (l:List UInt8) (n:Nat),remark f l= .ok n->n<=l.length
 | 0,l,n,h=>by
  obtain rfl:0=n:=Except.ok.inj h;omega
 | f+1,[],n,h=>by
  obtain rfl:0=n:=Except.ok.inj h;omega
 | f+1,c::r,n,h=>by
  rw[remark] at h;split at h
  {obtain rfl:0=n:=Except.ok.inj h;omega}
  split at h
  {cases h}
  {rename_i h0
   rcases hq:Utf.first (c::r) with ⟨p,k⟩;rw[hq] at h h0;obtain ⟨_,_,_,h4⟩:=Utf.Z0E hq h0;simp only at h;split at h
   {rename_i m hm
    obtain rfl:k+m=n:=Except.ok.inj h;have:=Z1m f _ m hm;rw[List.length_drop] at this;omega}
   {cases h}}
theorem Z0Q {l:List UInt8} (hr:hasRemark l=true) {f n:Nat} (h:remark (f+1) l= .ok n):1<=n:=by
 unfold hasRemark at hr;split at hr
 {rename_i q
  rw[remark,if_neg (by decide)] at h;have hf:Utf.first (45::45::q)=(45,1):=Utf.Z0D 45 (by decide) (45::q);rw[hf,if_neg (by decide)] at h;simp only at h;split at h
  {obtain rfl:=Except.ok.inj h;omega}
  {cases h}}
 {cases hr}
theorem Z2G (f:Nat) (c:UInt8) (r:List UInt8) (i:Nat):scan (f+1) (c::r) i=if blank c then scan f r (i+1)
 else if hasRemark (c::r) then (match remark (c::r).length (c::r) with
  | .error k=> .error (30,i+k)
  | .ok n=>scan f ((c::r).drop n) (i+n))
 else match token (c::r) with
  | .error (e,k)=> .error (e,i+k)
  | .ok (t,n)=>(scan f ((c::r).drop n) (i+n)).map ((t,i):: ·):=rfl
theorem Z86 (f i:Nat):scan f [] i= .ok []:=by cases f <;> rfl
theorem Z2H: ∀(f g:Nat) (l:List UInt8) (i:Nat),l.length<=f->l.length<=g->scan f l i=scan g l i
 | f,g,[],i,_,_=>by rw[Z86,Z86]
 | 0,_,c::r,_,h,_=>by simp at h
 | f+1,0,c::r,_,_,h=>by simp at h
 | f+1,g+1,c::r,i,hf,hg=>by
  rw[Z2G,Z2G];rw[List.length_cons] at hf hg;split
  {exact Z2H f g r (i+1) (by omega) (by omega)}
  split
  {rename_i hr
   cases hm:remark (c::r).length (c::r) with
   | error k=>rfl
   | ok n=>
    have h1:=Z0Q hr (f:=r.length) hm;exact Z2H f g _ _ (by rw[List.length_drop,List.length_cons]; omega) (by rw[List.length_drop,List.length_cons]; omega)}
  {cases ht:token (c::r) with
   | error x=>rfl
   | ok x=>
    obtain ⟨t,n⟩:=x;have h1:=Z0I ht;simp only;rw[Z2H f g _ _ (by rw[List.length_drop,List.length_cons]; omega) (by rw[List.length_drop,List.length_cons]; omega)]}
def toks (l:List UInt8) (i:Nat):Except (Int×Nat) (List (Tok×Nat)):=scan l.length l i
theorem Z36 (i:Nat):toks [] i= .ok []:=rfl
theorem Z0l {c:UInt8} (h:blank c=true) (r:List UInt8) (i:Nat):toks (c::r) i=toks r (i+1):=by
 unfold toks; rw[List.length_cons,Z2G,if_pos h]
theorem Z0y {l:List UInt8} (hb: ∀c∈l.head?,blank c=false) (hr:hasRemark l=true) (i:Nat):toks l i=match remark l.length l with
 | .error k=> .error (30,i+k)
 | .ok n=>toks (l.drop n) (i+n):=by
 cases l with
 | nil=>cases hr
 | cons c r=>
  have hc:blank c=false:=hb c rfl;unfold toks;rw[List.length_cons,Z2G,if_neg (by rw[hc]; simp),if_pos hr];rw[<-List.length_cons (a:=c)];cases hm:remark (c::r).length (c::r) with
  | error k=>rfl
  | ok n=>
   have h1:=Z0Q hr (f:=r.length) hm;exact Z2H _ _ _ _ (by rw[List.length_drop,List.length_cons]; omega) (Nat.le_refl _)
theorem Z0G {l:List UInt8} (hl:l≠ []) (hb: ∀c∈l.head?,blank c=false) (hr:hasRemark l=false) (i:Nat):toks l i=match token l with
 | .error (e,k)=> .error (e,i+k)
 | .ok (t,n)=>(toks (l.drop n) (i+n)).map ((t,i):: ·):=by
 cases l with
 | nil=>exact absurd rfl hl
 | cons c r=>
  have hc:blank c=false:=hb c rfl;unfold toks;rw[List.length_cons,Z2G,if_neg (by rw[hc]; simp),if_neg (by rw[hr]; simp)];cases ht:token (c::r) with
  | error x=>rfl
  | ok x=>
   obtain ⟨t,n⟩:=x;have h1:=Z0I ht;simp only;rw[Z2H r.length ((c::r).drop n).length _ _ (by rw[List.length_drop,List.length_cons]; omega) (Nat.le_refl _)]
def escB (c:UInt8):List UInt8:=if c=10 then [92,110] else if c=9 then [92,116] else if c=34\/c=92 then [92,c] else [c]
def written (t:Tok):List UInt8:=if t.kind=4 then 34::(t.text.flatMap escB++ [34]) else t.text
theorem Zct {l:List UInt8} (h: ∀b∈l,128<=b.toNat):l.flatMap escB=l:=by
 induction l with
 | nil=>rfl
 | cons b r ih=>
  have hb:=h b (by simp);have h10:b≠10:=by rintro rfl; revert hb; decide
  have h9:b≠9:=by rintro rfl; revert hb; decide
  have h34:b≠34:=by rintro rfl; revert hb; decide
  have h92:b≠92:=by rintro rfl; revert hb; decide
  rw[List.flatMap_cons,ih (fun c hc=>h c (List.mem_cons_of_mem _ hc))];simp[escB,h10,h9,h34,h92]
theorem ZdV {p:Int} (h:Utf.pt p=true): (Utf.bytes p).flatMap escB=escP p:=by
 have hpt:=(Utf.Z1f p).1 h;by_cases hp:p < 128
 {have hb:Utf.bytes p= [Utf.byte p]:=by unfold Utf.bytes; rw[if_pos hp]
  have hm:p % 256=p:=Int.emod_eq_of_lt (by omega) (by omega);have ht:=Utf.Z0a p;rw[hm] at ht;have key: ∀n:Nat,n < 256->(p=(n:Int) ↔ Utf.byte p=UInt8.ofNat n):=fun n hn=>by
   constructor
   {intro e;apply UInt8.toNat_inj.1;have: (UInt8.ofNat n).toNat=n:=by simp; omega
    rw[this]; omega}
   {intro e;have: (UInt8.ofNat n).toNat=n:=by simp; omega
    rw[<-e] at this; omega}
  have k10:p=10 ↔ Utf.byte p=10:=key 10 (by decide);have k9:p=9 ↔ Utf.byte p=9:=key 9 (by decide);have k34:p=34 ↔ Utf.byte p=34:=key 34 (by decide);have k92:p=92 ↔ Utf.byte p=92:=key 92 (by decide);unfold escP;rw[hb];simp only[List.flatMap_cons,List.flatMap_nil,List.append_nil];unfold escB;by_cases e1:p=10
  {rw[if_pos e1,if_pos (k10.1 e1)]}
  rw[if_neg e1,if_neg (fun h=>e1 (k10.2 h))];by_cases e2:p=9
  {rw[if_pos e2,if_pos (k9.1 e2)]}
  rw[if_neg e2,if_neg (fun h=>e2 (k9.2 h))];by_cases e3:p=34
  {rw[if_pos e3,if_pos (Or.inl (k34.1 e3)),k34.1 e3]}
  rw[if_neg e3];by_cases e4:p=92
  {rw[if_pos e4,if_pos (Or.inr (k92.1 e4)),k92.1 e4]}
  rw[if_neg e4,if_neg (by rintro (h | h); exact e3 (k34.2 h); exact e4 (k92.2 h))]}
 {have hall: ∀b∈Utf.bytes p,128<=b.toNat:=by
   obtain ⟨a,r,e,hk,_,hr⟩:=Utf.Z0X p h;intro b hb;rw[e] at hb;rcases List.mem_cons.1 hb with rfl | hb
   {rcases hk with hk | hk
    {exfalso;have hw:=Utf.Z0c p;obtain ⟨a',r',e',h1,h2⟩:=Utf.Z4p p h;rw[e] at e';obtain ⟨rfl,rfl⟩:b=a'/\r=r':=by simpa using e'
     have hw2:2<=Utf.width p:=by unfold Utf.width; rw[if_neg hp]; split; omega; split <;> omega
     rcases Utf.Z3S b.toNat with ⟨_,hl⟩ | ⟨h3,_,_⟩ | ⟨h3,_,_⟩ | ⟨h3,_⟩
     {rw[hl] at h1;rw[e,List.length_cons] at hw;simp only at h1;omega}
     all_goals omega}
    {omega}}
   {exact (hr b hb).1}
  rw[Zct hall];unfold escP;rw[if_neg (by omega),if_neg (by omega),if_neg (by omega),if_neg (by omega)]}
theorem Z87: ∀ {ps:List Int},(∀p∈ps,okP p=true)->(Utf.enc ps).flatMap escB=esc ps
 | [],_=>rfl
 | p::ps,h=>by
  have hp:=h p (by simp);simp only[okP,Bool.and_eq_true] at hp;rw[Utf.Z0H,List.flatMap_append,ZdV hp.1,Z87 (fun q hq=>h q (List.mem_cons_of_mem _ hq))];simp[esc]
theorem Z6u (p:UInt8->Bool): ∀s:List UInt8,(s.takeWhile p).takeWhile p=s.takeWhile p
 | []=>rfl
 | x::r=>by
  by_cases hx:p x=true
  {rw[List.takeWhile_cons_of_pos hx,List.takeWhile_cons_of_pos hx,Z6u p r]}
  {rw[List.takeWhile_cons_of_neg hx]; rfl}
theorem Z42 {s:List UInt8} {t:Tok} {n:Nat} (h:token s= .ok (t,n)):token (s.take n)= .ok (t,n)/\written t=s.take n:=by
 obtain ⟨hn1,hn2,htx,hk1,hk7⟩:=Z0I h;cases s with
 | nil=>cases h
 | cons x r=>
  obtain ⟨m,rfl⟩: ∃m,n=m+1:=⟨n - 1,by omega⟩;have hw:t.kind≠4->written t=(x::r).take (m+1):=fun hk=>by unfold written; rw[if_neg hk,htx hk]
  have htake: (x::r).take (m+1)=x::r.take m:=rfl;have tok: ∀(y:UInt8) (q:List UInt8),token (y::q)=if small y||great y then
   (let t:=(y::q).takeWhile nameB
    if isWord t then .ok (⟨5,t⟩,t.length) else if isName t then .ok (⟨1,t⟩,t.length) else if isUpper t then .ok (⟨2,t⟩,t.length) else .error (60,0))
  else if digit y then
   (let t:=(y::q).takeWhile lumpB
    if number t then .ok (⟨3,t⟩,t.length) else if (Sem.parse t).isSome then .ok (⟨7,t⟩,t.length) else .error (60,0))
  else if y=34 then quoted (y::q)
  else if decide (2<=(y::q).length)&&isSign ((y::q).take 2) then .ok (⟨6,(y::q).take 2⟩,2)
  else if isSign [y] then .ok (⟨6,[y]⟩,1)
  else .error (60,0):=fun _ _=>rfl
  by_cases h1: (small x||great x)=true
  {have h':=h;rw[tok,if_pos h1] at h';simp only at h';have hl:=Z1g nameB (x::r);have hlen:m+1=((x::r).takeWhile nameB).length/\t.kind≠4:=by
    split at h'
    {obtain ⟨rfl,e⟩:=Prod.mk.inj (Except.ok.inj h'); exact ⟨e.symm,by simp⟩}
    split at h'
    {obtain ⟨rfl,e⟩:=Prod.mk.inj (Except.ok.inj h'); exact ⟨e.symm,by simp⟩}
    split at h'
    {obtain ⟨rfl,e⟩:=Prod.mk.inj (Except.ok.inj h'); exact ⟨e.symm,by simp⟩}
    {cases h'}
   refine ⟨?_,hw hlen.2⟩;have e: (x::r).take (m+1)=(x::r).takeWhile nameB:=by rw[hlen.1]; exact hl.2
   have e2: ((x::r).take (m+1)).takeWhile nameB=(x::r).takeWhile nameB:=by rw[e,Z6u]
   rw[htake] at e2 ⊢;rw[tok,if_pos h1,e2];exact h'}
  {by_cases h2:digit x=true
   {have h':=h;rw[tok,if_neg h1,if_pos h2] at h';simp only at h';have hl:=Z1g lumpB (x::r);have hlen:m+1=((x::r).takeWhile lumpB).length/\t.kind≠4:=by
     split at h'
     {obtain ⟨rfl,e⟩:=Prod.mk.inj (Except.ok.inj h'); exact ⟨e.symm,by simp⟩}
     split at h'
     {obtain ⟨rfl,e⟩:=Prod.mk.inj (Except.ok.inj h'); exact ⟨e.symm,by simp⟩}
     {cases h'}
    refine ⟨?_,hw hlen.2⟩;have e: (x::r).take (m+1)=(x::r).takeWhile lumpB:=by rw[hlen.1]; exact hl.2
    have e2: ((x::r).take (m+1)).takeWhile lumpB=(x::r).takeWhile lumpB:=by rw[e,Z6u]
    rw[htake] at e2 ⊢;rw[tok,if_neg h1,if_pos h2,e2];exact h'}
   {by_cases h3:x=34
    {subst h3;have h':=h;rw[tok,if_neg h1,if_neg h2,if_pos rfl] at h';obtain ⟨b1,b2,b3⟩:=Z1u ((34:UInt8)::r).length r (by simp);unfold quoted finish at h';rw[List.tail_cons] at h';rcases hq:body ((34:UInt8)::r).length r with ⟨ps,rest⟩;rw[hq] at h' b1 b2;simp only at h' b1 b2;cases rest with
     | nil=>cases h'
     | cons c q=>
      simp only at h';split at h'
      {rename_i hc
       subst hc;obtain ⟨rfl,e⟩:=Prod.mk.inj (Except.ok.inj h');have ht: (34::r).take (m+1)=34::(esc ps++ [34]):=by
        rw[List.take_succ_cons,b2];have:m=(esc ps).length+1:=by omega
        rw[this,List.take_append,List.take_of_length_le (by omega)];simp
       constructor
       {rw[ht,tok,if_neg h1,if_neg h2,if_pos rfl];unfold quoted;rw[List.tail_cons,Z3z ((34:UInt8)::(esc ps++ [34])).length b1 (by rw[Z1T,if_pos (Or.inl rfl)]) (by simp)];unfold finish;simp only[if_true];rw[e]}
       {rw[ht];unfold written;rw[if_pos rfl];simp only;rw[Z87 b1]}}
      {split at h' <;> cases h'}}
    {have h':=h;rw[tok,if_neg h1,if_neg h2,if_neg h3] at h';split at h'
     {rename_i h4
      obtain ⟨rfl,e⟩:=Prod.mk.inj (Except.ok.inj h');obtain rfl:m=1:=by omega
      simp only[Bool.and_eq_true,decide_eq_true_eq] at h4;refine ⟨?_,hw (by simp)⟩;cases r with
      | nil=>simp at h4
      | cons y q=>
       have h5:isSign [x,y]=true:=h4.2;show token [x,y]=_;rw[tok,if_neg h1,if_neg h2,if_neg h3,if_pos (by simp[h5])];rfl}
     split at h'
     {rename_i h4 h5
      obtain ⟨rfl,e⟩:=Prod.mk.inj (Except.ok.inj h');obtain rfl:m=0:=by omega
      refine ⟨?_,hw (by simp)⟩;show token [x]=_;rw[tok,if_neg h1,if_neg h2,if_neg h3,if_neg (by simp),if_pos h5]}
     {cases h'}}}}
def good (t:Tok):Prop:= ∃c r,written t=c::r/\(c::r).length<=4096/\blank c=false/\token (c::r)= .ok (t,(c::r).length)
theorem Z4z {s:List UInt8} {t:Tok} {n:Nat} (h:token s= .ok (t,n)):hasRemark s=false:=by
 cases hr:hasRemark s with
 | false=>rfl
 | true=>
  exfalso;unfold hasRemark at hr;split at hr
  {rename_i q
   unfold token at h;simp[small,great,digit,isSign,signs] at h}
  {cases hr}
def join:List (List UInt8)->List UInt8
 | []=> []
 | [p]=>p
 | p::q::ps=>p++32::join (q::ps)
theorem Z3f: ∀(k:Nat) (a:List UInt8) (i:Nat) (l:List (Tok×Nat)),a.length<=k->a.length<=4096->toks a i= .ok l-> ∀x∈l,good x.1/\1<=x.1.kind
 | _,[],i,l,_,_,h=>by
  obtain rfl: []=l:=Except.ok.inj h;intro x hx; cases hx
 | 0,c::r,_,_,h,_,_=>by simp at h
 | k+1,c::r,i,l,hk,h4,h=>by
  rw[List.length_cons] at hk h4;by_cases hb:blank c=true
  {rw[Z0l hb] at h;exact Z3f k r (i+1) l (by omega) (by omega) h}
  {have hbf:blank c=false:=by simpa using hb
   have hh1: ∀x∈(c::r).head?,blank x=false:=fun x hx=>by
    obtain rfl:c=x:=by simpa using hx
    exact hbf
   cases hr:hasRemark (c::r) with
   | true=>
    rw[Z0y hh1 hr] at h;cases hm:remark (c::r).length (c::r) with
    | error j=>rw[hm] at h; cases h
    | ok n=>
     rw[hm] at h;have h1:=Z0Q hr (f:=r.length) hm;exact Z3f k _ _ l (by rw[List.length_drop,List.length_cons]; omega) (by rw[List.length_drop,List.length_cons]; omega) h
   | false=>
    rw[Z0G (by simp) hh1 hr] at h;cases ht:token (c::r) with
    | error x=>rw[ht] at h; cases h
    | ok x=>
     obtain ⟨t,n⟩:=x;rw[ht] at h;simp only at h;obtain ⟨h1,h2,_,h3,_⟩:=Z0I ht;cases hq:toks ((c::r).drop n) (i+n) with
     | error e=>rw[hq] at h; cases h
     | ok m=>
      rw[hq] at h;obtain rfl: (t,i)::m=l:=Except.ok.inj h;intro x hx;rcases List.mem_cons.1 hx with rfl | hx
      {obtain ⟨s1,s2⟩:=Z42 ht;obtain ⟨j,rfl⟩: ∃j,n=j+1:=⟨n - 1,by omega⟩;rw[List.take_succ_cons] at s1 s2;have hlen: (c::r.take j).length=j+1:=by
        rw[List.length_cons,List.length_take]; rw[List.length_cons] at h2; omega
       refine ⟨⟨c,r.take j,s2, ?_,hbf, ?_⟩,h3⟩
       {rw[hlen]; rw[List.length_cons] at h2; omega}
       {rw[hlen]; exact s1}}
      {exact Z3f k _ _ m (by rw[List.length_drop,List.length_cons]; omega) (by rw[List.length_drop,List.length_cons]; omega) hq x hx}}
end
end Lex
namespace Tms
section
open Shp (Sh join field total)
def quoteT (s:List UInt8):List UInt8:= [34]++s.flatMap Lex.escB++ [34]
def oper (k:Int) (x:List UInt8):List UInt8:=if k=1\/k=6\/k=11\/k=12\/k=13\/k=14 then [40]++x++ [41] else x
def Z3g:List Tm->Int
 | []=>0
 | p::_=>p.kind
def rfield (n x:List UInt8):List UInt8:=n++ [32,61,32]++x
def way (n v s x:List UInt8):List UInt8:=n++ [40]++field v s++ [41,32,45,62,32]++x
def binds (ns ss:List (List UInt8)):List (List UInt8):=(List.range ns.length).map fun i=>field (ns.getD i []) (ss.getD i [])
def recs (ns xs:List (List UInt8)):List (List UInt8):=(List.range ns.length).map fun i=>rfield (ns.getD i []) (xs.getD i [])
def ways (ns vs ss xs:List (List UInt8)):List (List UInt8):=(List.range ns.length).map fun i=>way (ns.getD i []) (vs.getD i []) (ss.getD i []) (xs.getD (i+1) [])
def textOf (t:Tm) (k0:Int) (ss xs:List (List UInt8)):List UInt8:=
 if t.kind=1 then Sem.dec t.n.toNat
 else if t.kind=2 then quoteT t.name
 else if t.kind=3 then [116,114,117,101]
 else if t.kind=4 then [102,97,108,115,101]
 else if t.kind=5 then (if t.of_= [] then t.name else t.of_++ [47]++t.name)
 else if t.kind=6 then [102,117,110,32,40]++join [44,32] (binds t.names ss)++ [41,32,45,62,32]++xs.getD 0 []
 else if t.kind=7 then oper k0 (xs.getD 0 [])++ [40]++join [44,32] xs.tail++ [41]
 else if t.kind=8 then [123]++join [44,32] (recs t.names xs)++ [125]
 else if t.kind=9 then oper k0 (xs.getD 0 [])++ [46]++t.name
 else if t.kind=10 then [64]++t.name++ [40]++xs.getD 0 []++ [41]
 else if t.kind=11 then [91]++join [44,32] xs++ [93,32,111,102,32]++ss.getD 0 []
 else if t.kind=12 then [105,102,32]++xs.getD 0 []++ [32,116,104,101,110,32]++xs.getD 1 []++ [32,101,108,115,101,32]++xs.getD 2 []++ [32,97,115,32]++ss.getD 0 []
 else if t.kind=13 then [99,97,115,101,32]++xs.getD 0 []++ [32,111,102,32,123]++join [32,124,32] (ways t.names t.vars ss xs)++ [125,32,97,115,32]++ss.getD t.names.length []
 else if t.kind=14 then [108,101,116,32]++t.name++ [32,61,32]++xs.getD 0 []++ [32,105,110,32]++xs.getD 1 []
 else if t.kind=15 then [40]++xs.getD 0 []++ [32,97,115,32]++ss.getD 0 []++ [41]
 else if t.kind=16 then [110,101,119,32]++t.name++ [40]++xs.getD 0 []++ [41]
 else [114,97,119,32]++t.name++ [40]++xs.getD 0 []++ [41]
mutual
def text:Tm->List UInt8
 | ⟨k,o,na,n,ns,vs,ss,ps,a⟩=>textOf ⟨k,o,na,n,ns,vs,ss,ps,a⟩ (Z3g ps) (ss.map Shp.text) (texts ps)
def texts:List Tm->List (List UInt8)
 | []=> []
 | p::ps=>text p::texts ps
end
theorem texts_map (l:List Tm):texts l=l.map text:=by
 induction l with
 | nil=>rfl
 | cons a l ih=>simp[texts,ih]
theorem text_eq (t:Tm):text t=textOf t (Z3g t.parts) (t.shapes.map Shp.text) (t.parts.map text):=by
 cases t; rw[<-texts_map]; rfl
end
section
open Shp (Sh)
def numB (t:Tm):Bool:=t.n==0||(t.kind==1&&decide (0 < t.n)&&decide (t.n<=999999999999999))
def ofB (t:Tm):Bool:=t.of_== []||(t.kind==5&&Lex.isName t.of_)
def nameB (t:Tm):Bool:=
 if t.kind=2 then textOk t.name else if t.kind=5\/t.kind=9\/t.kind=10\/t.kind=14 then Lex.isName t.name else if t.kind=16\/t.kind=17 then Lex.isUpper t.name else t.name== []
def cntN (k:Int) (n v s p:Nat):Bool:=
 if k=1\/k=2\/k=3\/k=4\/k=5 then decide (n=0/\v=0/\s=0/\p=0)
 else if k=6 then decide (v=0/\s=n/\p=1)
 else if k=7 then decide (n=0/\v=0/\s=0/\1<=p)
 else if k=8 then decide (v=0/\s=0/\p=n)
 else if k=9\/k=10\/k=16\/k=17 then decide (n=0/\v=0/\s=0/\p=1)
 else if k=11 then decide (n=0/\v=0/\s=1)
 else if k=12 then decide (n=0/\v=0/\s=1/\p=3)
 else if k=13 then decide (v=n/\s=n+1/\p=n+1)
 else if k=14 then decide (n=0/\v=0/\s=0/\p=2)
 else if k=15 then decide (n=0/\v=0/\s=1/\p=1)
 else false
def cntB (t:Tm):Bool:=cntN t.kind t.names.length t.vars.length t.shapes.length t.parts.length
def fitsP (t:Tm):Bool:=decide (0<=t.at_)&&numB t&&ofB t&&nameB t&&cntB t&&t.names.all Lex.isName&&Shp.noDup t.names&&t.vars.all Lex.isName&&shapesOk t.shapes
theorem Zcx (t:Tm): ((decide (t.kind=1)||decide (t.n=0))&&(decide (t.kind=5)||t.of_== [])&&fitsK t)=(numB t&&ofB t&&nameB t&&cntB t):=by
 unfold numB ofB nameB cntB cntN fitsK lists;generalize t.names.length=n;generalize t.vars.length=v;generalize t.shapes.length=s;generalize t.parts.length=p;generalize hN:Lex.isName t.name=bn;generalize hU:Lex.isUpper t.name=bu;generalize hO:Lex.isName t.of_=bo;generalize hT:textOk t.name=bt;generalize (t.name== [])=be;generalize (t.of_== [])=bf;generalize t.n=N;generalize t.kind=k;clear hN hU hO hT;by_cases h:k < 1\/17 < k
 {rw[if_neg (by omega),if_neg (by omega),if_neg (by omega),if_neg (by omega),if_neg (by omega),if_neg (by omega),if_neg (by omega),if_neg (by omega),if_neg (by omega),if_neg (by omega),if_neg (by omega),if_neg (by omega),if_neg (by omega),if_neg (by omega)];rw[if_neg (by omega),if_neg (by omega),if_neg (by omega)];rw[if_neg (by omega),if_neg (by omega),if_neg (by omega),if_neg (by omega),if_neg (by omega),if_neg (by omega),if_neg (by omega),if_neg (by omega),if_neg (by omega),if_neg (by omega)];simp}
 {have:k=1\/k=2\/k=3\/k=4\/k=5\/k=6\/k=7\/k=8\/k=9\/k=10\/k=11\/k=12\/k=13\/k=14\/k=15\/k=16\/k=17:=by omega
  clear h;rcases this with h | h | h | h | h | h | h | h | h | h | h | h | h | h | h | h | h
  all_goals
   subst h;rw[Bool.eq_iff_iff];simp;cases bn <;> cases bu <;> cases bo <;> cases bt <;> cases be <;> cases bf <;> simp <;> omega}
theorem Ze6 (t:Tm):fitsP t=fits t:=by
 have h:=Zcx t;unfold fitsP fits names;rw[Bool.eq_iff_iff];have h':=Bool.eq_iff_iff.1 h;simp only[Bool.and_eq_true,Bool.or_eq_true,Bool.not_true,Bool.not_false,decide_eq_true_eq] at h' ⊢;constructor
 {rintro ⟨⟨⟨⟨⟨⟨⟨⟨a,b⟩,c⟩,d⟩,e⟩,f⟩,g⟩,i⟩,j⟩;obtain ⟨⟨x,y⟩,z⟩:=h'.2 ⟨⟨⟨b,c⟩,d⟩,e⟩;exact ⟨⟨⟨⟨⟨⟨a,f,Or.inr g⟩,i,Or.inl trivial⟩,j⟩,x⟩,y⟩,z⟩}
 {rintro ⟨⟨⟨⟨⟨⟨a,f,g⟩,i,_⟩,j⟩,x⟩,y⟩,z⟩;obtain ⟨⟨⟨b,c⟩,d⟩,e⟩:=h'.1 ⟨⟨x,y⟩,z⟩;refine ⟨⟨⟨⟨⟨⟨⟨⟨a,b⟩,c⟩,d⟩,e⟩,f⟩, ?_⟩,i⟩,j⟩;rcases g with g | g
  {cases g}
  {exact g}}
mutual
def few:Tm->Bool
 | ⟨_,_,_,_,ns,_,_,ps,_⟩=>decide (ns.length<=9223372036854775806)&&fews ps
def fews:List Tm->Bool
 | []=>true
 | p::ps=>few p&&fews ps
end
theorem Z3C (t:Tm):few t=(decide (t.names.length<=9223372036854775806)&&fews t.parts):=by cases t; rfl
theorem Z43 (l:List Tm):fews l=l.all few:=by
 induction l with
 | nil=>rfl
 | cons a l ih=>simp[fews,ih]
theorem Zfe {t:Tm} (h:few t=true):t.names.length<=9223372036854775806:=by
 rw[Z3C,Bool.and_eq_true,decide_eq_true_eq] at h; exact h.1
theorem Ze7 {t p:Tm} (h:few t=true) (hp:p∈t.parts):few p=true:=by
 rw[Z3C,Z43,Bool.and_eq_true,List.all_eq_true] at h; exact h.2 p hp
end
end Tms
