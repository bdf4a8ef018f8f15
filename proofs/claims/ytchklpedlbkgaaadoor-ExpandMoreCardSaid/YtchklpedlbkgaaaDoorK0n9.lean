/- What the proofs of ExpandMore want, part 9. -/
import Derived.WalkLawsBesides
import Derived.Test.YtchklpedlbkgaaaDoorK0n8
set_option linter.unusedVariables false
set_option linter.unusedSimpArgs false
set_option linter.unusedSectionVars false
set_option maxRecDepth 100000
set_option maxHeartbeats 16000000
namespace Go.Proofs.YtchklpedlbkgaaaDoor
section
open Go.RowKit Shp
structure UpC (cb B:Nat) (w w':World):Prop where
 os:w'.os=w.os
 tape:w'.tape=w.tape
 output:w'.output=w.output
 size:w.heap.size<=w'.heap.size
 block: ∀k,k < B->k≠cb->w'.heap[k]? =w.heap[k]?
 c1:w'.cell? ⟨cb,1,none⟩=w.cell? ⟨cb,1,none⟩
 f0:w'.frozen? ⟨cb,0,none⟩=w.frozen? ⟨cb,0,none⟩
theorem UpC.refl (cb B:Nat) (w:World):UpC cb B w w:=⟨rfl,rfl,rfl,Nat.le_refl _,fun _ _ _=>rfl,rfl,rfl⟩
theorem UpC.trans {cb B:Nat} {a b c:World} (h:UpC cb B a b) (k:UpC cb B b c):UpC cb B a c:=
 ⟨k.os.trans h.os,k.tape.trans h.tape,k.output.trans h.output,Nat.le_trans h.size k.size,fun i hi hn=>(k.block i hi hn).trans (h.block i hi hn),k.c1.trans h.c1,k.f0.trans h.f0⟩
theorem UpC.mono {cb B B':Nat} {w w':World} (h:UpC cb B w w') (hB:B'<=B):UpC cb B' w w':=⟨h.os,h.tape,h.output,h.size,fun k hk=>h.block k (Nat.lt_of_lt_of_le hk hB),h.c1,h.f0⟩
theorem UpC.below {cb B:Nat} {a w w':World} (h:UpC cb B a w) (hb:Below B w w') (hc:cb < B):UpC cb B a w':=
 h.trans ⟨hb.os,hb.tape,hb.output,hb.size,fun k hk _=>hb.block k hk,hb.cell (p:=⟨cb,1,none⟩) hc,hb.frozen (p:=⟨cb,0,none⟩) hc⟩
theorem UpC.set {cb B:Nat} {a w:World} (h:UpC cb B a w) (v:Value):UpC cb B a (w.setCell ⟨cb,0,none⟩ v):=
 h.trans ⟨rfl,rfl,rfl,by simp[World.setCell],fun k hk hn=>Below.heap_setCell _ _ _ _ hn,by simp[go_sem],by simp[go_sem]⟩
theorem UpC.next {cb:Nat} {a b c:World} (h:UpC cb a.heap.size a b) (k:UpC cb b.heap.size b c):UpC cb a.heap.size a c:=h.trans (k.mono h.size)
theorem UpC.cell {cb B:Nat} {w w':World} (h:UpC cb B w w') {g k:Nat} (hg:g < B) (hn:g≠cb):w'.cell? ⟨g,k,none⟩=w.cell? ⟨g,k,none⟩:=World.cell?_of_block (w:=w) (h.block g hg hn)
theorem UpC.toBelow {cb B:Nat} {w w':World} (h:UpC cb B w w') (hB:B<=cb):Below B w w':=⟨h.os,h.tape,h.output,h.size,fun k hk=>h.block k hk (by omega)⟩
structure Cnt (w:World) (cb p m:Nat):Prop where
 lt:cb < w.heap.size
 c0:w.cell? ⟨cb,0,none⟩=some (.int .i64 (p:Int))
 c1:m=400
 f0:w.frozen? ⟨cb,0,none⟩=false
theorem Cnt.below {w w':World} {cb p m:Nat} (h:Cnt w cb p m) (hb:Below w.heap.size w w'):Cnt w' cb p m:=
 ⟨Nat.lt_of_lt_of_le h.lt hb.size,(hb.cell (p:=⟨cb,0,none⟩) h.lt).trans h.c0,h.c1,(hb.frozen (p:=⟨cb,0,none⟩) h.lt).trans h.f0⟩
theorem Cnt.set {w:World} {cb p m:Nat} (h:Cnt w cb p m) (n:Nat):Cnt (w.setCell ⟨cb,0,none⟩ (.int .i64 (n:Int))) cb n m:=
 ⟨by simpa[World.setCell] using h.lt,by simp[go_sem,h.c0],h.c1,by simp[go_sem,h.f0]⟩
theorem ShAt.upc {w w':World} {B C cb:Nat} {q:Ptr} {t:Sh} (h:ShAt w B q t) (hu:UpC cb C w w') (h1:B<=cb) (h2:B<=C):ShAt w' B q t:=
 h.of (Nat.le_refl _) (fun g k hg=>hu.cell (by omega) (by omega))
theorem Z5B (t:Sh): ∀(q:Ptr) (B cb p m:Nat) (w:World),ShAt w B q t->B<=cb->Cnt w cb p m->p+size t<=m->m<=1000000->
 Calls Tryd.prog 47 #[.pointer (some ⟨cb,0,none⟩),.agg (Y8 t q)] w
  fun e w'=>e= .returned (.int .i64 (deep t:Int))/\UpC cb w.heap.size w w'/\Cnt w' cb (p+size t) m:=by
 induction t using Sh.ind with
 | h t ih=>
 intro q B cb p m w hq hBc hc hpm hm;have HQ:=Y1 hq;have HM:=Y1 hq.small.m;have HP:=Y1 hq.part;have HD:Hid (deep t=deeps t.parts+1):=Y1 (Z0l t);have HZ:Hid (size t=1+sizes t.parts):=Y1 (size_eq t);have HDS:=Y1 (Z1G t);have HPM:Hid (p+size t<=m):=Y1 hpm;have hlt:p < m:=by have:=HZ.out; omega
 have hpe: ((p:Int)==400)=false:=by rw[beq_eq_false_iff_ne]; have:=hc.c1; omega
 have hpi: (p:Int)<=1000000:=by omega
 have hb0:=Z00 w (.cells (Y8 t q) 25);have HC:=Y1 hc;have hB:=Z07 w t q;have HB:=Y1 hB;have HC1:=Y1 (hc.below hb0);have HU:=Y1 ((UpC.refl cb w.heap.size w).below hb0 hc.lt);have hcl:=hc.lt;obtain ⟨_,k0,k1,k2⟩:=hc.below hb0;clear k1;clear hb0 hc hB hpm hq;have hne:w.heap.size≠cb:=by omega
 have hne2:cb≠w.heap.size:=by omega
 go_enter Tryd.func47,Tryd.ntmps47
 go_wp2_with fail
 obtain ⟨W0,hW0⟩: ∃W0,W0=(w.setCell ⟨cb,0,none⟩ (.int .i64 ((p:Int)+1))).alloc (.cells (Y8 t q) 25):=⟨_,rfl⟩;have hsz0:W0.heap.size=w.heap.size+1:=by rw[hW0]; simp[World.setCell]
 have hU0:UpC cb w.heap.size w W0:=by
  rw[hW0];exact ((UpC.refl cb w.heap.size w).set _).below ((Z00 _ _).mono (by simp[World.setCell])) hcl
 have hC0:Cnt W0 cb (p+1) m:=by
  rw[hW0];exact (HC.out.set (p+1)).below (Z00 _ _)
 have hB0:Box5 W0 w.heap.size t q:=by
  have e: (w.setCell ⟨cb,0,none⟩ (.int .i64 ((p:Int)+1))).heap.size=w.heap.size:=by simp[World.setCell]
  have h5:=Z07 (w.setCell ⟨cb,0,none⟩ (.int .i64 ((p:Int)+1))) t q;rw[e] at h5;rw[hW0]; exact h5
 have HU0:=Y1 hU0;have HC0:=Y1 hC0;have HB0:=Y1 hB0;clear hU0 hC0 hB0;rw[<-hW0];have HSZ:=Y1 hsz0;clear hW0 k0 k2 HU HC1 HB hsz0
 go_loopw [5,24] (fun dd ii wr=> ∃i:Nat,ii= .int .i64 i/\i<=t.parts.length/\dd= .int .i64 (deeps (t.parts.take i):Int)/\Hid (UpC cb W0.heap.size W0 wr)/\Hid (Cnt wr cb (p+1+sizes (t.parts.take i)) m)) (fun _ i _=>t.parts.length - (intOf i).toNat)
 case atStart=>exact ⟨0,rfl,Nat.zero_le _,rfl,Y1 (UpC.refl _ _ _),HC0⟩
 case round=>
  obtain ⟨i,rfl,hi,rfl,HUR,HCR⟩:=hrel;have hmm:=HM.out;have htk:=Z39 t.parts i;have hds:=HDS.out;have hd2:deeps t.parts<=1000000:=by have:=HD.out; have:=HPM.out; omega
  by_cases hlt:i < t.parts.length
  {rcases HP.out with h0 | ⟨g,off,qs,hqP,hg,hc,hr⟩
   {omega}
   {have hur:UpC cb w.heap.size w wr:=HU0.out.next HUR.out;obtain ⟨x,hx⟩: ∃x,x=t.parts[i]:=⟨_,rfl⟩;have hgw:g < w.heap.size:=by omega
    obtain ⟨p0,p1,p2,p3,p4⟩:=(hc i hlt).of (w':=wr) (fun k=>hur.cell hgw (by omega));have hbx:=Z00 wr (.cells (Y8 x (qs i)) 25);have hat:ShAt (wr.alloc (.cells (Y8 x (qs i)) 25)) B (qs i) x:=by
     rw[hx];exact ((hr i hlt).upc hur hBc (by omega)).keep (Z00 wr _) (by have:=hur.size; omega)
    have hcx:=HCR.out.below hbx;have HN:Hid (sizes (t.parts.take (i+1))=sizes (t.parts.take i)+size x):=Y1 (by rw[hx]; exact Z1L hlt);have HE:Hid (deeps (t.parts.take (i+1))=max (deeps (t.parts.take i)) (deep x)):=Y1 (by rw[hx]; exact Z37 hlt);have ihx:=ih t.parts[i] (List.getElem_mem _) (qs i) B cb (p+1+sizes (t.parts.take i)) m (wr.alloc (.cells (Y8 x (qs i)) 25));rw[<-hx] at p0 p1 p2 p3 p4 ihx;have hdx:deep x<=1000000:=by rw[hx]; exact Nat.le_trans (Z0F (List.getElem_mem _)) hd2
    have hbd:p+1+sizes (t.parts.take i)+size x<=m:=by
     have:=Z38 t.parts (i+1);have:=HN.out;have:=HPM.out;have:=HZ.out;omega
    have IH:=ihx hat hBc hcx hbd hm;have HBX:=Y1 (HB0.out);clear hx hc hr hat ihx hcx hbd hd2 hur hbx ih;have hi1: (i:Int) < (t.parts.length:Int):=by omega
    obtain ⟨a,ha⟩: ∃a,a=deeps (t.parts.take i):=⟨_,rfl⟩;rw[<-ha] at HE htk ⊢;clear ha;rw[hqP];clear hqP
    go_wp2_with fail
    refine IH.mono ?_;rintro e w2 ⟨rfl,hu2,hc2⟩;have HU2:Hid (UpC cb W0.heap.size W0 w2):=Y1 ((HUR.out.below ((Z00 wr _).mono HUR.out.size) (by have:=HSZ.out; omega)).trans (hu2.mono (by have:=HUR.out.size; simp; omega)));have HC2:Hid (Cnt w2 cb (p+1+sizes (t.parts.take (i+1))) m):=Y1 (by rw[HN.out, <-Nat.add_assoc]; exact hc2);clear hu2 hc2 IH;by_cases hgt: (a:Int) < (deep x:Int)
    all_goals
     go_wp2
     go_roundw
     case rel=>exact ⟨i+1,by go_num,by omega,by rw[HE.out]; go_num,HU2,HC2⟩
     case measure=>simp[intOf]; omega}}
  {have HF:Hid (deep t=deeps (t.parts.take i)+1):=Y1 (by rw[HD.out,show i=t.parts.length from by omega,List.take_length]);have HG:Hid (p+size t=p+1+sizes (t.parts.take i)):=Y1 (by rw[HZ.out,show i=t.parts.length from by omega,List.take_length]; omega);have hi1: ¬(i:Int) < (t.parts.length:Int):=by omega
   go_wp2;go_ret;exact ⟨Z19 (by rw[HF.out]; go_num),HU0.out.next HUR.out,by rw[HG.out]; exact HCR.out⟩}
theorem Z7J (t:Sh): ∀(q:Ptr) (B cb p m:Nat) (w:World),ShAt w B q t->B<=cb->Cnt w cb p m->p<=m->m < p+size t->m<=1000000->
 Calls Tryd.prog 47 #[.pointer (some ⟨cb,0,none⟩),.agg (Y8 t q)] w
  fun e w'=>e= .panicked [{ v:= .iface 29 (.int .i64 3),recovered:=false }]/\UpC cb w.heap.size w w':=by
 induction t using Sh.ind with
 | h t ih=>
 intro q B cb p m w hq hBc hc hpm hov hm;have HQ:=Y1 hq;have HM:=Y1 hq.small.m;have HP:=Y1 hq.part;have HD:Hid (deep t=deeps t.parts+1):=Y1 (Z0l t);have HZ:Hid (size t=1+sizes t.parts):=Y1 (size_eq t);have HDS:=Y1 (Z1G t);have HOV:Hid (m < p+size t):=Y1 hov;have hpi: (p:Int)<=1000000:=by omega
 have hb0:=Z00 w (.cells (Y8 t q) 25);have HC:=Y1 hc;have hB:=Z07 w t q;have HB:=Y1 hB;have HC1:=Y1 (hc.below hb0);have HU:=Y1 ((UpC.refl cb w.heap.size w).below hb0 hc.lt);have hcl:=hc.lt;obtain ⟨_,k0,k1,k2⟩:=hc.below hb0;clear k1;clear hb0 hc hB hov hq;have hne:w.heap.size≠cb:=by omega
 have hne2:cb≠w.heap.size:=by omega
 by_cases hpm2:p=m
 {have hpe: ((p:Int)==400)=true:=by rw[beq_iff_eq]; have:=HC.out.c1; omega
  have HUX:=HU;clear hpm2 hpm ih;go_enter Tryd.func47,Tryd.ntmps47
  go_wp2_with fail
  exact ⟨rfl,rfl,HU.out⟩}
 have hlt:p < m:=by omega
 have hpe: ((p:Int)==400)=false:=by rw[beq_eq_false_iff_ne]; have:=HC.out.c1; omega
 clear hpm2;go_enter Tryd.func47,Tryd.ntmps47
 go_wp2_with fail
 obtain ⟨W0,hW0⟩: ∃W0,W0=(w.setCell ⟨cb,0,none⟩ (.int .i64 ((p:Int)+1))).alloc (.cells (Y8 t q) 25):=⟨_,rfl⟩;have hsz0:W0.heap.size=w.heap.size+1:=by rw[hW0]; simp[World.setCell]
 have hU0:UpC cb w.heap.size w W0:=by
  rw[hW0];exact ((UpC.refl cb w.heap.size w).set _).below ((Z00 _ _).mono (by simp[World.setCell])) hcl
 have hC0:Cnt W0 cb (p+1) m:=by
  rw[hW0];exact (HC.out.set (p+1)).below (Z00 _ _)
 have hB0:Box5 W0 w.heap.size t q:=by
  have e: (w.setCell ⟨cb,0,none⟩ (.int .i64 ((p:Int)+1))).heap.size=w.heap.size:=by simp[World.setCell]
  have h5:=Z07 (w.setCell ⟨cb,0,none⟩ (.int .i64 ((p:Int)+1))) t q;rw[e] at h5;rw[hW0]; exact h5
 have HU0:=Y1 hU0;have HC0:=Y1 hC0;have HB0:=Y1 hB0;clear hU0 hC0 hB0;rw[<-hW0];have HSZ:=Y1 hsz0;clear hW0 k0 k2 HU HC1 HB hsz0
 go_loopw [5,24] (fun dd ii wr=> ∃i:Nat,ii= .int .i64 i/\i<=t.parts.length/\dd= .int .i64 (deeps (t.parts.take i):Int)/\Hid (UpC cb W0.heap.size W0 wr)/\p+1+sizes (t.parts.take i)<=m/\Hid (Cnt wr cb (p+1+sizes (t.parts.take i)) m)) (fun _ i _=>t.parts.length - (intOf i).toNat)
 case atStart=>exact ⟨0,rfl,Nat.zero_le _,rfl,Y1 (UpC.refl _ _ _),by simp[sizes]; omega,HC0⟩
 case round=>
  obtain ⟨i,rfl,hi,rfl,HUR,hpi2,HCR⟩:=hrel;have hmm:=HM.out;have htk:deeps (t.parts.take i)<=1000000:=by have:=Z73 (t.parts.take i); omega
  by_cases hlt:i < t.parts.length
  {rcases HP.out with h0 | ⟨g,off,qs,hqP,hg,hc,hr⟩
   {omega}
   {have hur:UpC cb w.heap.size w wr:=HU0.out.next HUR.out;obtain ⟨x,hx⟩: ∃x,x=t.parts[i]:=⟨_,rfl⟩;have hgw:g < w.heap.size:=by omega
    obtain ⟨p0,p1,p2,p3,p4⟩:=(hc i hlt).of (w':=wr) (fun k=>hur.cell hgw (by omega));have hbx:=Z00 wr (.cells (Y8 x (qs i)) 25);have hat:ShAt (wr.alloc (.cells (Y8 x (qs i)) 25)) B (qs i) x:=by
     rw[hx];exact ((hr i hlt).upc hur hBc (by omega)).keep (Z00 wr _) (by have:=hur.size; omega)
    have hcx:=HCR.out.below hbx;have HN:Hid (sizes (t.parts.take (i+1))=sizes (t.parts.take i)+size x):=Y1 (by rw[hx]; exact Z1L hlt);have HE:Hid (deeps (t.parts.take (i+1))=max (deeps (t.parts.take i)) (deep x)):=Y1 (by rw[hx]; exact Z37 hlt);have ihx:=ih t.parts[i] (List.getElem_mem _) (qs i) B cb (p+1+sizes (t.parts.take i)) m (wr.alloc (.cells (Y8 x (qs i)) 25));rw[<-hx] at p0 p1 p2 p3 p4 ihx;have hml:=fun hbd=>Z5B x (qs i) B cb (p+1+sizes (t.parts.take i)) m (wr.alloc (.cells (Y8 x (qs i)) 25)) hat hBc hcx hbd hm;have hmo:=fun hbd=>ihx hat hBc hcx hpi2 hbd hm;have HSB:=Y1 hur;have HBX:=Y1 (HB0.out);clear hx hc hr hat ihx hcx hur hbx ih;have hi1: (i:Int) < (t.parts.length:Int):=by omega
    obtain ⟨a,ha⟩: ∃a,a=deeps (t.parts.take i):=⟨_,rfl⟩;rw[<-ha] at HE htk ⊢;clear ha;rw[hqP];clear hqP;by_cases hfit:m < p+1+sizes (t.parts.take i)+size x
    {have IH:=hmo hfit;clear hml hmo hfit
     go_wp2_with fail
     refine IH.mono ?_;rintro e w2 ⟨rfl,hu2⟩;have HU2:Hid (UpC cb w.heap.size w w2):=Y1 ((HSB.out.below ((Z00 wr _).mono HSB.out.size) hcl).trans (hu2.mono (by have:=HSB.out.size; simp; omega)));clear hu2 IH;go_wp2;exact ⟨rfl,rfl,HU2.out⟩}
    have IH:=hml (by omega);have hdx:deep x<=1000000:=by have:=Z1G x; omega
    have HF1:Hid (p+1+sizes (t.parts.take (i+1))<=m):=Y1 (by rw[HN.out]; omega);clear hml hmo hfit
    go_wp2_with fail
    refine IH.mono ?_;rintro e w2 ⟨rfl,hu2,hc2⟩;have HU2:Hid (UpC cb W0.heap.size W0 w2):=Y1 ((HUR.out.below ((Z00 wr _).mono HUR.out.size) (by have:=HSZ.out; omega)).trans (hu2.mono (by have:=HUR.out.size; simp; omega)));have HC2:Hid (Cnt w2 cb (p+1+sizes (t.parts.take (i+1))) m):=Y1 (by rw[HN.out, <-Nat.add_assoc]; exact hc2);clear hu2 hc2 IH;by_cases hgt: (a:Int) < (deep x:Int)
    all_goals
     go_wp2
     go_roundw
     case rel=>exact ⟨i+1,by go_num,by omega,by rw[HE.out]; go_num,HU2,HF1.out,HC2⟩
     case measure=>simp[intOf]; omega}}
  {exfalso;have:=HOV.out;rw[show i=t.parts.length from by omega,List.take_length] at hpi2;rw[HZ.out] at this;omega}
theorem Z91 (b c:Addr) (x y:Int) (u:TypeId) (pv:Value) (older:List PanicEntry) (w:World) (hb:w.cell? b=some (.int .i64 x)) (hc:w.cell? c=some (.int .i64 y)) (fb:w.frozen? b=false) (fc:w.frozen? c=false)
 (hbc:b≠c):
 CallsD Tryd.prog 46 #[.pointer (some b),.pointer (some c)] (.panicking ({ v:= .iface u pv,recovered:=false }::older)) w fun e u' w'=>
  e= .returned (.tuple #[])/\u'= .panicking ({ v:= .iface u pv,recovered:=true }::older)/\w'=(w.setCell b (.int .i64 401)).setCell c (.int .i64 0):=by
 have hc2: (w.setCell b (.int .i64 401)).cell? c=some (.int .i64 y):=(World.cell?_setCell_other _ _ _ _ hbc).trans hc;refine callsD_of_wpS Tryd.func46 rfl fun c₀ cs hu=> ?_;apply wpS_seq;apply wpS_region;simp[wpOpsS,go_sem,recoverD,hu,Tryd.ntmps46,Exit.thenS];refine wpS_cond (t:=true) (by simp[Act.eval,Array.replicate]) ?_;simp only[if_true];apply wpS_region;simp[wpOpsS,go_sem,hb,hc2,fb,fc,bodyPostS,results,Tryd.results46]
theorem Z92 (b c:Addr) (w:World):
 CallsD Tryd.prog 46 #[.pointer (some b),.pointer (some c)] .returning w fun e u' w'=>e= .returned (.tuple #[])/\u'= .returning/\w'=w:=by
 refine callsD_of_wpS Tryd.func46 rfl fun c₀ cs hu=> ?_;apply wpS_seq;apply wpS_region;simp[wpOpsS,go_sem,recoverD,hu,Tryd.ntmps46,Exit.thenS];refine wpS_cond (t:=false) (by simp[Act.eval,Array.replicate]) ?_;simp only[Bool.false_eq_true,if_false];refine wpS_of_wp (wp_skip ?_);cases c₀;simp_all [bodyPostS,results,Tryd.results46]
def mW (w:World) (t:Sh) (q:Ptr):World:=
 (((w.alloc (.cells (Y8 t q) 25)).alloc (.cells #[.int .i64 0] 3)).alloc (.cells #[.int .i64 0] 3)).alloc (.cells #[.int .i64 0] 86)
structure MW (w W:World) (x y:Int):Prop where
 bel:Below w.heap.size w W
 size:w.heap.size+4<=W.heap.size
 b:W.cell? ⟨w.heap.size+1,0,none⟩=some (.int .i64 x)
 c:W.cell? ⟨w.heap.size+1+1,0,none⟩=some (.int .i64 y)
 fb:W.frozen? ⟨w.heap.size+1,0,none⟩=false
 fc:W.frozen? ⟨w.heap.size+1+1,0,none⟩=false
theorem Zas (w:World) (t:Sh) (q:Ptr):Cnt (mW w t q) (w.heap.size+1+1+1) 0 400:=by
 unfold mW;exact ⟨by simp,by simp[go_sem],rfl,by simp[go_sem]⟩
theorem Z5X (w:World) (t:Sh) (q:Ptr):MW w (mW w t q) 0 0:=by
 unfold mW;refine ⟨Z0i (Z0i (Z0i (Z00 _ _) _) _) _,by simp, ?_, ?_, ?_, ?_⟩ <;> simp[go_sem]
theorem MW.upc {w W W':World} {x y:Int} (h:MW w W x y) (hu:UpC (w.heap.size+1+1+1) W.heap.size W W'):MW w W' x y:=by
 have e: ∀g,g < w.heap.size+3->W'.heap[g]? =W.heap[g]? :=fun g hg=>hu.block g (by have:=h.size; omega) (by omega);refine ⟨h.bel.trans ⟨hu.os,hu.tape,hu.output,hu.size,fun k hk=>e k (by omega)⟩,Nat.le_trans h.size hu.size, ?_, ?_, ?_, ?_⟩
 {exact (World.cell?_of_block (w:=W) (e (w.heap.size+1) (by omega))).trans h.b}
 {exact (World.cell?_of_block (w:=W) (e (w.heap.size+1+1) (by omega))).trans h.c}
 {exact (World.frozen?_of_block (w:=W) (e (w.heap.size+1) (by omega))).trans h.fb}
 {exact (World.frozen?_of_block (w:=W) (e (w.heap.size+1+1) (by omega))).trans h.fc}
section
variable (t : Sh) (q : Ptr) (w : World) (hq : ShAt w w.heap.size q t)
include t q w hq
theorem Z6F (hov:400 < size t):
 Y9 29 #[.agg (Y8 t q)] w (.tuple #[.int .i64 401,.int .i64 0]):=by
 have hmf: ∀(fn:Fn) (first cap:Array Value) (w:World),(Instr.makeFunc fn first cap).run Tryd.prog w= .ok (.func fn first cap) w:=fun _ _ _ _=>rfl;have HL:=Y1 (Z7J t q w.heap.size _ 0 400 _ (hq.keep (Z5X w t q).bel (Nat.le_refl _)) (by omega) (Zas w t q) (Nat.zero_le _) (by omega) (by omega));have HW:=Y1 (Z5X w t q);clear hq hov
 go_enter_defers Tryd.func29,Tryd.ntmps29
 go_wp2_with fail
 change Calls _ _ _ (mW w t q) _;generalize mW w t q=W at HL HW ⊢;refine HL.out.mono ?_;rintro e w2 ⟨rfl,hu⟩;obtain ⟨hbel,hsz,cb,cc,fb,fc⟩:=HW.out.upc hu;have HBEL:=Y1 hbel;clear hbel hu HL
 go_wp2_with fail
 refine leaves_cons (f:=46) (args:=#[.pointer (some ⟨w.heap.size+1,0,none⟩),.pointer (some ⟨w.heap.size+1+1,0,none⟩)]) (by simp) (by simp[go_sem]) ?_;refine (Z91 ⟨w.heap.size+1,0,none⟩ ⟨w.heap.size+1+1,0,none⟩ 0 0 29 _ [] _ cb cc fb fc (by simp)).mono ?_;rintro e u' w'' ⟨rfl,rfl,rfl⟩;simp[Leaves,settle,results,Tryd.results29,go_sem,cb,cc];exact (HBEL.out.setCell (p:=⟨w.heap.size+1,0,none⟩) (by simp) _).setCell (p:=⟨w.heap.size+1+1,0,none⟩) (by simp; omega) _
theorem Z93 (hov:size t<=400):
 Y9 29 #[.agg (Y8 t q)] w (.tuple #[.int .i64 (size t:Int),.int .i64 (deep t:Int)]):=by
 have hmf: ∀(fn:Fn) (first cap:Array Value) (w:World),(Instr.makeFunc fn first cap).run Tryd.prog w= .ok (.func fn first cap) w:=fun _ _ _ _=>rfl;have HL:=Y1 (Z5B t q w.heap.size _ 0 400 _ (hq.keep (Z5X w t q).bel (Nat.le_refl _)) (by omega) (Zas w t q) (by omega) (by omega));have HW:=Y1 (Z5X w t q);clear hq hov
 go_enter_defers Tryd.func29,Tryd.ntmps29
 go_wp2_with fail
 change Calls _ _ _ (mW w t q) _;generalize mW w t q=W at HL HW ⊢;refine HL.out.mono ?_;rintro e w2 ⟨rfl,hu,hcn⟩;obtain ⟨hbel,hsz,cb,cc,fb,fc⟩:=HW.out.upc hu;have k0:=hcn.c0;have HBEL:=Y1 hbel;rw[Nat.zero_add] at k0;clear hbel hu HL hcn
 go_wp2_with fail
 have HB3:Hid (Below w.heap.size w (w2.setCell ⟨w.heap.size+1+1,0,none⟩ (.int .i64 (deep t:Int)))):=Y1 (HBEL.out.setCell (by simp; omega) _);have k3: (w2.setCell ⟨w.heap.size+1+1,0,none⟩ (.int .i64 (deep t:Int))).cell? ⟨w.heap.size+1+1+1,0,none⟩=some (.int .i64 (size t:Int)):=(World.cell?_setCell_other _ _ _ _ (fun e=>by have:=congrArg Addr.block e; simp at this)).trans k0;have b3: (w2.setCell ⟨w.heap.size+1+1,0,none⟩ (.int .i64 (deep t:Int))).cell? ⟨w.heap.size+1,0,none⟩=some (.int .i64 0):=(World.cell?_setCell_other _ _ _ _ (fun e=>by have:=congrArg Addr.block e; simp at this)).trans cb;have c3: (w2.setCell ⟨w.heap.size+1+1,0,none⟩ (.int .i64 (deep t:Int))).cell? ⟨w.heap.size+1+1,0,none⟩=some (.int .i64 (deep t:Int)):=by simp[go_sem,cc]
 have fb3: (w2.setCell ⟨w.heap.size+1+1,0,none⟩ (.int .i64 (deep t:Int))).frozen? ⟨w.heap.size+1,0,none⟩=false:=by rw[World.frozen?_setCell]; exact fb
 have fc3: (w2.setCell ⟨w.heap.size+1+1,0,none⟩ (.int .i64 (deep t:Int))).frozen? ⟨w.heap.size+1+1,0,none⟩=false:=by rw[World.frozen?_setCell]; exact fc
 generalize w2.setCell ⟨w.heap.size+1+1,0,none⟩ (.int .i64 (deep t:Int))=W3 at HB3 k3 b3 c3 fb3 fc3 ⊢;clear k0 cb cc fb fc hsz HBEL
 go_region
 all_goals
  go_wp2_with fail
  refine leaves_cons (f:=46) (args:=#[.pointer (some ⟨w.heap.size+1,0,none⟩),.pointer (some ⟨w.heap.size+1+1,0,none⟩)]) (by simp) (by simp[go_sem]) ?_;refine (Z92 ⟨w.heap.size+1,0,none⟩ ⟨w.heap.size+1+1,0,none⟩ _).mono ?_;rintro e u' w'' ⟨rfl,rfl,rfl⟩;simp[Leaves,settle,results,Tryd.results29,go_sem,b3,c3];exact ((HB3.out.setCell (p:=⟨w.heap.size+1,0,none⟩) (by simp) _).setCell (p:=⟨w.heap.size+1+1,0,none⟩) (by simp; omega) _).drew
end
def Z32 (m:Nat) (t:Sh):Int:=if m < size t then (m:Int)+1 else size t
def Z33 (m:Nat) (t:Sh):Int:=if m < size t then 0 else deep t
section
variable (t : Sh) (q : Ptr) (w : World) (hq : ShAt w w.heap.size q t)
include t q w hq
theorem Z6G:
 Y9 29 #[.agg (Y8 t q)] w (.tuple #[.int .i64 (Z32 400 t),.int .i64 (Z33 400 t)]):=by
 unfold Z32 Z33;by_cases h:400 < size t
 {rw[if_pos h,if_pos h]; exact Z6F t q w hq h}
 {rw[if_neg h,if_neg h]; exact Z93 t q w hq (by omega)}
theorem Z1g (hg:WGlobs w):
 Y9 18 #[.agg (Y8 t q)] w (.int .i64 (check t)):=by
 have hb0:=Z00 w (.cells (Y8 t q) 25);have hm:=Z6G t q _ (hq.next hb0);have HC:Hid (check t=if 400 < size t then 3 else if 40 < deep t then 91 else if right t=false then 70 else 0):=Y1 rfl;have HB0:=Y1 hb0;have HB:=Y1 (Z07 w t q);have HQ:=Y1 hq;have HG:=Y1 hg;obtain ⟨_,⟨c0,c1,c2,c3,c4⟩,_⟩:=HB.out;clear hb0 hq hg;by_cases h4:400 < size t
 {have HF:Hid (check t=3):=Y1 (by rw[HC.out,if_pos h4]);have hx:Z32 400 t=401:=by unfold Z32; rw[if_pos h4]; rfl
  rw[hx] at hm;generalize Z33 400 t=y at hm;clear h4 hx;go_enter Tryd.func18,Tryd.ntmps18
  go_wp2_with fail
  refine hm.mono ?_;rintro e w' ⟨rfl,hb'⟩;go_wp2;go_ret;exact ⟨Z19 HF.out.symm,Z02 HB0.out hb'⟩}
 {have hx:Z32 400 t=(size t:Int):=by unfold Z32; rw[if_neg h4]
  have hy:Z33 400 t=(deep t:Int):=by unfold Z33; rw[if_neg h4]
  rw[hx,hy] at hm;have h4': ¬(400:Int) < (size t:Int):=by omega
  by_cases h40:40 < deep t
  {have HF:Hid (check t=91):=Y1 (by rw[HC.out,if_neg h4,if_pos h40]);have h40': (40:Int) < (deep t:Int):=by omega
   clear h4 h40 hx hy;go_enter Tryd.func18,Tryd.ntmps18
   go_wp2_with fail
   refine hm.mono ?_;rintro e w' ⟨rfl,hb'⟩;go_wp2;go_ret;exact ⟨Z19 HF.out.symm,Z02 HB0.out hb'⟩}
  {have h40': ¬(40:Int) < (deep t:Int):=by omega
   have HF:Hid (check t=if right t=false then 70 else 0):=Y1 (by rw[HC.out,if_neg h4,if_neg h40]);have HZ:Hid (size t<=1000000):=Y1 (by omega);clear h4 h40 hx hy;go_enter Tryd.func18,Tryd.ntmps18
   go_wp2_with fail
   refine hm.mono ?_;rintro e w2 ⟨rfl,hb2⟩;have hbw:=Z02 HB0.out hb2;have HBW2:=Y1 hbw;have HB2:=Y1 (HB.out.next hb2);have hr:=Z6E t q w2 (HQ.out.next hbw) (HG.out.next hbw) HZ.out;clear hm hb2 hbw c0 c1 c2 c3 c4;obtain ⟨_,⟨c0,c1,c2,c3,c4⟩,_⟩:=HB2.out;cases hrt:right t
   all_goals
    rw[hrt] at hr HF;clear hrt
    go_wp2_with fail
    refine hr.mono ?_;rintro e w' ⟨rfl,hb'⟩;go_wp2;go_ret;exact ⟨Z19 (by rw[HF.out]; rfl),Z02 HBW2.out hb'⟩}}
theorem Z94 (hg:WGlobs w):
 Y9 35 #[.agg (Y8 t q)] w (.bool (decide (check t=0))):=by
 have hb0:=Z00 w (.cells (Y8 t q) 25);have hm:=Z1g t q _ (hq.next hb0) (hg.next hb0);have HB0:=Y1 hb0;obtain ⟨_,⟨c0,c1,c2,c3,c4⟩,_⟩:=Z07 w t q;clear hb0 hq hg;go_enter Tryd.func35,Tryd.ntmps35
 go_wp2_with fail
 refine hm.mono ?_;rintro e w' ⟨rfl,hb'⟩;go_wp2;go_ret;exact ⟨Z0o (by rw[Bool.eq_iff_iff]; simp),Z02 HB0.out hb'⟩
end
end
section
open Go.RowKit Shp Go.Sort
theorem Z95 {t:Sh} (q:Ptr) (hr:right t=true):
 (.agg #[.int .i64 t.kind,.string ⟨t.of_.toArray⟩,.string ⟨t.name.toArray⟩,.slice q.A t.names.length q.c,.slice q.P t.parts.length q.d]:Value)= .agg #[.int .i64 (sorted t).kind,.string ⟨(sorted t).of_.toArray⟩,.string ⟨(sorted t).name.toArray⟩,.slice q.A (sorted t).names.length q.c,.slice q.P (sorted t).parts.length q.d]:=by
 obtain ⟨k1,k2,k3⟩:=Z2D t;obtain ⟨l1,l2⟩:=Z4e (t:=t) ((Z1s hr).imp id And.left);rw[k1,k2,k3,l1,l2]
theorem UpF.toBelow {F:List Nat} {w w':World} {B:Nat} (h:UpF F w w') (hF: ∀b∈F,B<=b) (hB:B<=w.heap.size):Below B w w':=
 ⟨h.os,h.tape,h.output,h.size,fun k hk=>h.block k (Nat.lt_of_lt_of_le hk hB) (fun hm=>by have:=hF k hm; omega)⟩
theorem Z3S (t:Sh) (q:Ptr) (w:World) (hq:ShAt w w.heap.size q t) (hg:WGlobs w) (hck:check t=0):
 Calls Tryd.prog 22 #[.agg (Y8 t q)] w fun e w'=> ∃q' F,e= .returned (.agg (Y8 (sorted t) q'))/\Own w' q' (sorted t) F/\(∀b∈F,w.heap.size<=b)/\Below w.heap.size w w':=by
 obtain ⟨hz,_,hr⟩:=Z0f hck;have HQ:=Y1 hq;have HG:=Y1 hg;have HR:=Y1 hr;have HCK:=Y1 hck;have HS:=Y1 (Z2n w t q);have HB:=Y1 (Z9O w t q);have HE:=Y1 (Z6b w t q);have HCP:=Y1 (Z4d t q (sW w t q) (hq.next (Z2n w t q)) hz hr);have HB0:=Y1 (Z07 w t q);obtain ⟨_,⟨c0,c1,c2,c3,c4⟩,_⟩:=HB0.out;clear hq hg hr hck;go_enter Tryd.func22,Tryd.ntmps22
 go_wp2_with fail
 clear c0 c1 c2 c3 c4 HB0;change Calls _ _ _ (sW w t q) _;generalize sW w t q=W at HS HB HE HCP ⊢;refine HCP.out.mono ?_;rintro e w1 ⟨q',F,rfl,ho,hnd,hF,hb1⟩;have HO:=Y1 ho;have HND:=Y1 hnd;have HF:=Y1 hF;have HS1:=Y1 (Z02 HS.out hb1);have HB1:=Y1 (HB.out.next hb1);have HE1:=Y1 (HE.out.next hb1);have HLF:=Y1 ho.lt;have hbw:=Z00 w1 (.cells (Y8 t q') 25);have HBW:=Y1 hbw;have HB2:=Y1 (HB1.out.next hbw);have HE2:=Y1 (HE1.out.next hbw);have HT2:=Y1 (Z07 w1 t q');have HO2:=Y1 (Z0p ho hbw);have HS2:=Y1 (Z02 HS1.out hbw);have hm:=Z94 t q _ (HQ.out.next HS2.out) (HG.out.next HS2.out);rw[show decide (check t=0)=true from by rw[HCK.out]; rfl] at hm;have HM:=Y1 hm;obtain ⟨_,⟨c0,c1,c2,c3,c4⟩,_⟩:=HB2.out;clear ho hnd hF hb1 hbw hm HCP
 go_wp2_with fail
 refine HM.out.mono ?_;rintro e w3 ⟨rfl,hb3⟩;have HS3:=Y1 (Z02 HS2.out hb3);have HE3:=Y1 (HE2.out.next hb3);have HT3:=Y1 (HT2.out.next hb3);have HO3:=Y1 (Z0p HO2.out hb3);clear c0 c1 c2 c3 c4;obtain ⟨_,⟨c0,c1,c2,c3,c4⟩,_⟩:=HT3.out;have HW:=Y1 (Z4Y t q' F w3 HO3.out HND.out HR.out hz);have hbl:w1.heap.size+1<=w3.heap.size:=by have:=hb3.size; simp at this; exact this
 have HLT:=Y1 hbl;clear hb3 HM hbl
 go_wp2_with fail
 refine HW.out.mono ?_;rintro e w4 ⟨rfl,hu,F',hp,ho⟩;have HLN:=Y1 (show w.heap.size+1∉F from fun hm=>by have:=HF.out _ hm; have:=HE.out.1; omega);have HLT2:=Y1 (show w1.heap.size∉F from fun hm=>by have:=HLF.out _ hm; omega);have HT4:=Y1 (HT3.out.same (hu.same HT3.out.1 HLT2.out) hu.size);have HE4:=Y1 (HE3.out.same (hu.same HE3.out.1 HLN.out) hu.size);have HS4:=Y1 (HS3.out.trans (hu.toBelow (fun b hb=>by have:=HF.out b hb; have:=HB.out.1; omega) HS3.out.size));have HO4:=Y1 ho;have HNF:=Y1 (show ∀b∈F',w.heap.size+1≠b from fun b hb e=>HLN.out (by rw[e]; exact hp.mem_iff.1 hb));have HGE:Hid (∀b∈F',w.heap.size<=b):=Y1 (fun b hb=>by have:=HF.out b (hp.mem_iff.1 hb); have:=HB.out.1; omega);clear hu hp ho HW c0 c1 c2 c3 c4;obtain ⟨_,⟨c0,c1,c2,c3,c4⟩,_⟩:=HT4.out;obtain ⟨_,⟨r0,r1,r2,r3,r4⟩,f0,f1,f2,f3,f4⟩:=HE4.out;simp only[Nat.zero_add] at c0 c1 c2 c3 c4 r0 r1 r2 r3 r4;have hne:w1.heap.size≠w.heap.size+1:=fun e=>by have:=HE1.out.1; omega
 go_wp2;refine bodyPost_ret (v:= .agg (Y8 t q')) (by simp[results,Tryd.results22,go_sem,r0,r1,r2,r3,r4]) rfl ?_;refine ⟨q',F',by rw[Z95 q' HR.out], ?_,fun b hb=>HGE.out b hb,Z0n HS4.out (by omega) _ _ _ _ _⟩;have h5:=Z1a HO4.out HNF.out (.int .i64 t.kind) (.string ⟨t.of_.toArray⟩) (.string ⟨t.name.toArray⟩) (.slice q'.A t.names.length q'.c) (.slice q'.P t.parts.length q'.d);exact h5
end
section
open Go.RowKit Shp
open Expd (Bd fill keys find put Z0W)
def ResIs (w:World) (L:List Bd) (t:Sh) (e:Ending) (w':World):Prop:=
 ∃q',e= .returned (.tuple #[shV (Expd.resolve L t).1 q',.int .i64 (Expd.resolve L t).2])/\ShAt w' w'.heap.size q' (Expd.resolve L t).1/\Below w.heap.size w w'
theorem Z5l (w:World) (B:Nat):ShAt w B ⟨none,0,none,0⟩ Z0W:=by
 refine .mk _ _ 0 0 (fun _=>⟨none,0,none,0⟩) ⟨?_, ?_, ?_, ?_, ?_, ?_, ?_,fun _=>rfl,fun _=>rfl⟩ (Or.inl rfl) (Or.inl rfl) (fun i h=>absurd h (by simp[Z0W])) (fun i h=>absurd h (by simp[Z0W])) <;> simp[Z0W]
theorem Z13 (t:Sh) (q:Ptr) (L:List Bd) (A:Option Addr) (cap:Nat) (w:World) (hq:ShAt w w.heap.size q t) (hL:BdsAt w w.heap.size A L) (hl:L.length<=1000) (hg:WGlobs w):
 Calls Tryd.prog 9 #[shV t q,.slice A L.length cap] w (ResIs w L t):=by
 have hb0:Below w.heap.size w (fdW w t q):=Z0i (Z00 _ _) _;have c0:Sh5 (fdW w t q) w.heap.size 0 t q:=⟨by simp[fdW,go_sem],by simp[fdW,go_sem],by simp[fdW,go_sem],by simp[fdW,go_sem],by simp[fdW,go_sem]⟩;have hz0:w.heap.size+1 < (fdW w t q).heap.size:=by simp[fdW]
 have HB0:=Y1 hb0;have HZ0:=Y1 hz0;have HQ:=Y1 (hq.next hb0);have HC0:=Y1 c0;have HR0:=Y1 (Z5j w t q);have HLL:=Y1 (hL.next hb0);have HG:=Y1 (hg.next hb0);have HLN:=Y1 hl;obtain ⟨e0,e1,e2,e3,e4⟩:=c0;clear hb0 hq hL hl hg hz0;unfold shV;go_enter Tryd.func9,Tryd.ntmps9
 go_wp2_with fail
 change Calls _ _ _ (fdW w t q) _;generalize fdW w t q=W0 at HB0 HZ0 HQ HC0 HR0 HLL HG e0 e1 e2 e3 e4 ⊢;refine (Z1g t q W0 HQ.out HG.out).mono ?_;rintro e W1 ⟨rfl,hb1⟩;have hz1:=hb1.size;have HB1:=Y1 (HB0.out.trans (hb1.mono (by have:=HB0.out.size; omega)));have hR1:=HR0.out.keep hb1 HZ0.out;have HC1:=Y1 (HC0.out.keep (show w.heap.size < W0.heap.size by have:=HZ0.out; omega) hb1);have HQ1:=Y1 (HQ.out.next hb1);have HL1:=Y1 (HLL.out.next hb1);have HG1:=Y1 (HG.out.next hb1);have HR1:=Y1 hR1;have HZ1:=Y1 (show w.heap.size+1 < W1.heap.size by have:=HZ0.out; omega);clear hb1 hR1 hz1 e0 e1 e2 e3 e4 HB0 HZ0 HQ HC0 HR0 HLL HG;by_cases hc:check t=0
 {rw[hc];obtain ⟨hz,_,hr⟩:=Z0f hc;have HCK:=Y1 hc;obtain ⟨x0,x1,x2,x3,x4⟩:=HC1.out;simp only[Nat.zero_add] at x0 x1 x2 x3 x4;have HF:=Y1 (Z4k t q L A cap W1 HQ1.out hz hr HL1.out HLN.out);clear hc hz hr;unfold shV at HF
  go_wp2_with fail
  refine HF.out.mono ?_;rintro e W2 ⟨u,q',ok,rfl,hok,hu,hat,hb2⟩;have hb3:=Z02 hb2 (Z00 W2 (.cells (Y8 u q') 25));have hB3:=Z07 W2 u q';have hlt:=Nat.lt_of_lt_of_le HZ1.out hb2.size;have hat3:=hat.next (Z00 W2 (.cells (Y8 u q') 25));have hR2:=HR1.out.keep hb2 HZ1.out;have hR3:=HR1.out.keep hb3 HZ1.out;have hne:w.heap.size+1≠W2.heap.size:=by omega
  have HOK:=Y1 hok;have HU:=Y1 hu;clear hok hu hat hb2 HF x0 x1 x2 x3 x4;simp only;cases ok with
  | false=>
   obtain ⟨W3,hW3⟩: ∃W3,W2.alloc (.cells (Y8 u q') 25)=W3:=⟨_,rfl⟩;rw[hW3] at hR3 hb3;obtain ⟨⟨r0,r1,r2,r3,r4⟩,rf⟩:=hR3;have y0:=rf 0;have y1:=rf 1;have y2:=rf 2;have y3:=rf 3;have y4:=rf 4;have HB3:=Y1 hb3;clear rf hat3 hB3 hb3 hR2;go_wp2;have hn:put (find L) t=none:=by
    have:=HOK.out;cases e:put (find L) t with
    | none=>rfl
    | some y=>rw[e] at this; cases this
   have hr:=Expd.resolve_name HCK.out hn;refine bodyPost_ret (v:= .tuple #[.agg #[.int .i64 0,.string ⟨#[]⟩,.string ⟨#[]⟩,.slice none 0 0,.slice none 0 0],.int .i64 110]) (by simp[results,Tryd.results9,go_sem,r0,r1,r2,r3,r4]) rfl ?_;refine ⟨⟨none,0,none,0⟩, ?_, ?_, ?_⟩
   {rw[hr]; rfl}
   {rw[hr]; exact Z5l _ _}
   {exact Z0n (HB1.out.trans (HB3.out.mono (by have:=HB1.out.size; omega))) (Nat.le_succ _) _ _ _ _ _}
  | true=>
   have hput:=HU.out rfl;have HP:=Y1 hput;have HB3:=Y1 hb3;have HR3:=Y1 hR3;have HA3:=Y1 hat3;have HG3:=Y1 (HG1.out.next hb3);have HBX:=Y1 hB3;obtain ⟨_,⟨b0,b1,b2,b3,b4⟩,_⟩:=hB3;clear hput hb3 hR3 hR2 hat3 HOK HU;have HL3:=Y1 (show w.heap.size+1 < (W2.alloc (.cells (Y8 u q') 25)).heap.size from by simp; omega);have HW2:=Y1 hlt;clear hlt hne
   go_wp2_with fail
   generalize W2.alloc (.cells (Y8 u q') 25)=W3 at HB3 HR3 HA3 HG3 HBX HL3 b0 b1 b2 b3 b4 ⊢;refine (Z1g u q' W3 HA3.out HG3.out).mono ?_;rintro e W4 ⟨rfl,hb4⟩;have hR4:=HR3.out.keep hb4 HL3.out;have HB4:=Y1 ((HB1.out.trans (HB3.out.mono (by have:=HB1.out.size; omega))).trans (hb4.mono (by have:=HB1.out.size; have:=HB3.out.size; omega)));have HA4:=Y1 (HA3.out.next hb4);have HG4:=Y1 (HG3.out.next hb4);have HL4:=Y1 (Nat.lt_of_lt_of_le HL3.out hb4.size);have HR4:=Y1 hR4;clear b0 b1 b2 b3 b4;obtain ⟨_,⟨b0,b1,b2,b3,b4⟩,_⟩:=HBX.out.next hb4;clear hR4 hb4 HB3 HR3 HA3 HG3 HBX HL3;by_cases hcu:check u=0
   {rw[hcu];have HCU:=Y1 hcu;have HS:=Y1 (Z3S u q' W4 HA4.out HG4.out hcu);clear hcu
    go_wp2_with fail
    refine HS.out.mono ?_;rintro e W5 ⟨q5,F5,rfl,ho5,hF5,hb5⟩;obtain ⟨⟨r0,r1,r2,r3,r4⟩,rf⟩:=HR4.out.keep hb5 HL4.out;have y0:=rf 0;have y1:=rf 1;have y2:=rf 2;have y3:=rf 3;have y4:=rf 4;have HO5:=Y1 ho5;have HF5:=Y1 hF5;have HB5:=Y1 (HB4.out.trans (hb5.mono (by have:=HB4.out.size; omega)));obtain ⟨z,hz'⟩: ∃z,z=sorted u:=⟨_,rfl⟩;rw[<-hz'] at HO5 ⊢;have HZ:=Y1 hz';clear rf ho5 hF5 hb5 hz' b0 b1 b2 b3 b4;go_wp2;refine bodyPost_ret (v:= .tuple #[.agg (Y8 z q5),.int .i64 0]) (by simp[results,Tryd.results9,go_sem,r0,r1,r2,r3,r4]) rfl ?_;have hr:=Expd.resolve_ok HCK.out HP.out HCU.out;rw[<-HZ.out] at hr;have h5:=Z1a (b:=w.heap.size+1) HO5.out (fun x hx e=>by have:=HF5.out x hx; have:=HL4.out; omega) (.int .i64 z.kind) (.string ⟨z.of_.toArray⟩) (.string ⟨z.name.toArray⟩) (.slice q5.A z.names.length q5.c) (.slice q5.P z.parts.length q5.d);refine ⟨q5, ?_, ?_, ?_⟩
    {rw[hr]}
    {rw[hr]; exact h5.at_ h5.lt}
    {exact Z0n HB5.out (Nat.le_succ _) _ _ _ _ _}}
   {have hcu': (check u !=0)=true:=by simpa using hcu
    have HCU:=Y1 hcu;obtain ⟨⟨r0,r1,r2,r3,r4⟩,rf⟩:=HR4.out;have y0:=rf 0;have y1:=rf 1;have y2:=rf 2;have y3:=rf 3;have y4:=rf 4;clear rf hcu;go_wp2;refine bodyPost_ret (v:= .tuple #[.agg #[.int .i64 0,.string ⟨#[]⟩,.string ⟨#[]⟩,.slice none 0 0,.slice none 0 0],.int .i64 (check u)]) (by simp[results,Tryd.results9,go_sem,r0,r1,r2,r3,r4]) rfl ?_;have hr:=Expd.resolve_great HCK.out HP.out HCU.out;refine ⟨⟨none,0,none,0⟩, ?_, ?_, ?_⟩
    {rw[hr]; rfl}
    {rw[hr]; exact Z5l _ _}
    {exact Z0n HB4.out (Nat.le_succ _) _ _ _ _ _}}}
 {have hc': (check t !=0)=true:=by simpa using hc
  have HCK:=Y1 hc;obtain ⟨⟨r0,r1,r2,r3,r4⟩,rf⟩:=HR1.out;have y0:=rf 0;have y1:=rf 1;have y2:=rf 2;have y3:=rf 3;have y4:=rf 4;clear rf hc;go_wp2;refine bodyPost_ret (v:= .tuple #[.agg #[.int .i64 0,.string ⟨#[]⟩,.string ⟨#[]⟩,.slice none 0 0,.slice none 0 0],.int .i64 (check t)]) (by simp[results,Tryd.results9,go_sem,r0,r1,r2,r3,r4]) rfl ?_;refine ⟨⟨none,0,none,0⟩, ?_, ?_, ?_⟩
  {rw[Expd.resolve_bad HCK.out]; rfl}
  {rw[Expd.resolve_bad HCK.out]; exact Z5l _ _}
  {exact Z0n HB1.out (Nat.le_succ _) _ _ _ _ _}}
end
section
open Go.RowKit Shp
theorem Z7K {l:List Sh} {i m:Nat} (hi:i < l.length) (h:1+sizes (l.take i)<=m):min (1+sizes (l.take i)) (m+1)+sizeTo (m - min (1+sizes (l.take i)) (m+1)) (l[i]'hi)=min (1+sizes (l.take (i+1))) (m+1):=by
 rw[Z1L hi]; unfold sizeTo; omega
theorem Z3n (t:Sh): ∀(q:Ptr) (m:Nat) (w:World),ShAt w w.heap.size q t->m<=1000000->
 Calls Tryd.prog 12 #[.agg (Y8 t q),.int .i64 (m:Int)] w
  fun e w'=>e= .returned (.int .i64 (sizeTo m t:Int))/\Below w.heap.size w w':=by
 induction t using Sh.ind with
 | h t ih=>
 intro q m w hq hmm;have HM:=Y1 hq.small.m;have HP:=Y1 hq.part;have HZ:Hid (size t=1+sizes t.parts):=Y1 (size_eq t);have hB:=Z07 w t q;have HB:=Y1 hB;have hb0:=Z00 w (.cells (Y8 t q) 25);have HB0:=Y1 hb0;clear hB hb0 hq;go_enter Tryd.func12,Tryd.ntmps12
 go_wp2_with fail
 generalize hW0:w.alloc (.cells (Y8 t q) 25)=W0 at HB HB0 ⊢;clear hW0
 go_loopw [5,6] (fun nn ii wr=> ∃i:Nat,ii= .int .i64 i/\i<=t.parts.length/\nn= .int .i64 ((min (1+sizes (t.parts.take i)) (m+1):Nat):Int)/\Below W0.heap.size W0 wr) (fun _ i _=>t.parts.length - (intOf i).toNat)
 case atStart=>exact ⟨0,rfl,Nat.zero_le _,by rw[List.take_zero]; show Value.int .i64 1= .int .i64 ((min (1+0) (m+1):Nat):Int); rw[Nat.min_eq_left (by omega)]; rfl,Below.refl _ _⟩
 case round=>
  obtain ⟨i,rfl,hi,rfl,hb⟩:=hrel;have hm:=HM.out;obtain ⟨_,⟨_,_,_,_,c4⟩,_⟩:=HB.out.next hb;obtain ⟨n,hn⟩: ∃n,n=min (1+sizes (t.parts.take i)) (m+1):=⟨_,rfl⟩;rw[<-hn];have HE:=Y1 hn;have hn1:1<=n:=by omega
  have hn2:n<=m+1:=by omega
  by_cases hlt:i < t.parts.length
  {have hi1: (i:Int) < (t.parts.length:Int):=by omega
   by_cases hnm:n<=m
   {rcases HP.out with h0 | ⟨g,off,qs,hqP,hg,hc,hr⟩
    {omega}
    {have hbw:Below w.heap.size w wr:=HB0.out.trans (hb.mono HB0.out.size);obtain ⟨x,hx⟩: ∃x,x=t.parts[i]:=⟨_,rfl⟩;obtain ⟨p0,p1,p2,p3,p4⟩:=(hc i hlt).keep hg hbw;have hat:ShAt wr wr.heap.size (qs i) x:=by rw[hx]; exact (hr i hlt).next hbw
     have ihx:=ih t.parts[i] (List.getElem_mem _) (qs i) (m - n) wr;have HN:Hid (n+sizeTo (m - n) x=min (1+sizes (t.parts.take (i+1))) (m+1)):=Y1 (by rw[hx,hn]; exact Z7K hlt (by omega));rw[<-hx] at p0 p1 p2 p3 p4 ihx;have IH:=ihx hat (by omega);rw[show ((m - n:Nat):Int)=(m:Int) - (n:Int) from by omega] at IH;rw[hqP] at c4;have hsz:sizeTo (m - n) x<=m - n+1:=Nat.min_le_right _ _;have d2:decide (n<=m)=true:=decide_eq_true (by omega);have d3:decide (i < t.parts.length)=true:=decide_eq_true (by omega);have hnm2: (n:Int)<=(m:Int):=by omega
     have hmm2: (m:Int)<=1000000:=by omega
     generalize sizeTo (m - n) x=z at IH HN hsz;have hz2: (n:Int)+(z:Int)<=1000001:=by omega
     clear hx hc hr hat ihx ih hqP hn
     go_wp2_with (refine IH.mono ?_; rintro e w' ⟨rfl,hb'⟩)
     go_roundw
     case rel=>exact ⟨i+1,by go_num,by omega,by rw[<-HN.out]; go_num,hb.trans (hb'.mono hb.size)⟩
     case measure=>simp[intOf]; omega}}
   {have HF:Hid (n=sizeTo m t):=Y1 (by
     have:=Z38 t.parts i;unfold sizeTo; have:=HZ.out; omega)
    have d2:decide (n<=m)=false:=decide_eq_false (by omega);have d3:decide (i < t.parts.length)=true:=decide_eq_true (by omega);clear hn;go_wp2;go_ret;exact ⟨by rw[<-HF.out]; rfl,HB0.out.trans (hb.mono HB0.out.size)⟩}}
  {have HF:Hid (n=sizeTo m t):=Y1 (by
    rw[show i=t.parts.length from by omega,List.take_length] at hn;unfold sizeTo; have:=HZ.out; omega)
   have d3:decide (i < t.parts.length)=false:=decide_eq_false (by omega);clear hn;go_wp2;go_ret;exact ⟨by rw[<-HF.out]; rfl,HB0.out.trans (hb.mono HB0.out.size)⟩}
end
section
open Go.RowKit Shp
open Expd (Bd)
def smallB (L:List Bd):Bool:=decide (L.length<=60)&&L.all (fun b=>decide (size b.sh<=800))
section
variable {L : List Bd} (h : smallB L = true)
include L h
theorem Z97:L.length<=60:=by
 unfold smallB at h;simp only[Bool.and_eq_true,decide_eq_true_eq] at h;exact h.1
theorem Z7L: ∀b∈L,size b.sh<=800:=fun b hb=>by
 unfold smallB at h;simp only[Bool.and_eq_true,List.all_eq_true,decide_eq_true_eq] at h;exact h.2 b hb
end
theorem Z53 (L:List Bd) (A:Option Addr) (cap:Nat) (w:World) (hL:BdsAt w w.heap.size A L) (hl:L.length<=9223372036854775807):
 Y9 7 #[.slice A L.length cap] w (.bool (smallB L)):=by
 by_cases h60:60 < L.length
 {have hF:smallB L=false:=by unfold smallB; rw[decide_eq_false (by omega)]; rfl
  have h60': (60:Int) < (L.length:Int):=by omega
  rw[hF];clear hF hL;go_enter Tryd.func7,Tryd.ntmps7;go_wp2;go_ret;exact ⟨rfl,Below.refl _ _⟩}
 {have h60': ¬(60:Int) < (L.length:Int):=by omega
  have HL:=Y1 hL;clear hL;go_enter Tryd.func7,Tryd.ntmps7
  go_wp2_with fail
  go_loopw [3] (fun i wr=> ∃k:Nat,k<=L.length/\i= .int .i64 (k:Int)/\Hid (∀j (hj:j < L.length),j < k->size (L[j]'hj).sh<=800)/\Hid (Below w.heap.size w wr)) (fun i _=>L.length - (intOf i).toNat)
  case atStart=>exact ⟨0,Nat.zero_le _,rfl,Y1 (fun _ _ h=>absurd h (by omega)),Y1 Y2⟩
  case round=>
   obtain ⟨k,hk,rfl,hS,HB⟩:=hrel;by_cases hkl:k < L.length
   {have hkl': (k:Int) < (L.length:Int):=by omega
    obtain ⟨g,off,qs,hA,hg,hc⟩:=(HL.out.keep HB.out (Nat.le_refl _)).resolve_left (by omega);subst hA;obtain ⟨x0,x1,⟨z0,z1,z2,z3,z4⟩,hat,_⟩:=hc k hkl;change wr.cell? ⟨g,off+k * 7+3,none⟩=_ at z1;change wr.cell? ⟨g,off+k * 7+4,none⟩=_ at z2;change wr.cell? ⟨g,off+k * 7+5,none⟩=_ at z3;change wr.cell? ⟨g,off+k * 7+6,none⟩=_ at z4;obtain ⟨bk,hbk⟩: ∃bk,bk=L[k]'hkl:=⟨_,rfl⟩;rw[<-hbk] at x0 x1 z0 z1 z2 z3 z4 hat;have hcl:=Z3n bk.sh (qs k) 800 wr (hat.of HB.out.size (fun _ _ _=>rfl)) (by omega);rw[show (((800:Nat):Int))=(800:Int) from rfl] at hcl;have HC:=Y1 hcl;have HBK:=Y1 hbk;clear hc hat hg hbk hcl x0 x1
    go_wp2_with fail
    refine HC.out.mono ?_;rintro e wk ⟨rfl,hb2⟩;have HB2:=Y1 (HB.out.trans (hb2.mono HB.out.size));clear hb2 HC z0 z1 z2 z3 z4;by_cases h8:800 < size bk.sh
    {have hx: (800:Int) < (sizeTo 800 bk.sh:Int):=by unfold sizeTo; omega
     have hF:smallB L=false:=by
      cases hs:smallB L with
      | false=>rfl
      | true=>
       have:=Z7L hs (L[k]'hkl) (List.getElem_mem hkl);rw[<-HBK.out] at this;omega
     go_wp2;refine bodyPost_ret (v:= .bool false) (by simp[results,Tryd.results7,go_sem]) rfl ?_;exact ⟨by rw[hF],HB2.out⟩}
    {have hx: ¬(800:Int) < (sizeTo 800 bk.sh:Int):=by unfold sizeTo; omega
     have HS2:Hid (∀j (hj:j < L.length),j < k+1->size (L[j]'hj).sh<=800):=Y1 (fun j hj hjk=>by
      by_cases e:j=k
      {subst e; rw[<-HBK.out]; omega}
      · exact hS.out j hj (by omega))
     clear hS h8;go_wp2
     go_roundw
     case rel=>exact ⟨k+1,by omega,by go_num,HS2,HB2⟩
     case measure=>simp[intOf]; omega}}
   {obtain rfl:k=L.length:=by omega
    have hkl': ¬(L.length:Int) < (L.length:Int):=by omega
    have hT:smallB L=true:=by
     unfold smallB;rw[decide_eq_true (by omega),Bool.true_and,List.all_eq_true];intro b hb;obtain ⟨j,hj,rfl⟩:=List.getElem_of_mem hb;rw[decide_eq_true_eq];exact hS.out j hj hj
    clear hS;go_wp2;refine bodyPost_ret (v:= .bool true) (by simp[results,Tryd.results7,go_sem]) rfl ?_;exact ⟨by first | rfl | rw[hT],HB.out⟩}}
end
section
open Go.RowKit Shp
theorem ZbC {l m:List Sh} (hl:l.length=m.length) (h: ∀j (hj:j < l.length),eqB (l[j]'hj) (m[j]'(by omega))=true):eqs l m=true:=
 (Z7W l m).2 (List.ext_getElem hl (fun j h1 h2=>(Z2U _ _).1 (h j h1)))
def headB (t u:Sh):Bool:=t.kind==u.kind&&t.of_==u.of_&&t.name==u.name&&decide (t.names.length=u.names.length)&&decide (t.parts.length=u.parts.length)
theorem Zbf {t u:Sh} (h:headB t u=false):eqB t u=false:=by
 apply Z5e;rintro rfl;simp[headB] at h
theorem Zau {t u:Sh} {i:Nat} (hi:i < t.names.length) (hm:i < u.names.length) (h:t.names[i]'hi≠u.names[i]'hm):eqB t u=false:=by
 apply Z5e;rintro rfl;exact h rfl
theorem Zav {t u:Sh} {i:Nat} (hi:i < t.parts.length) (hm:i < u.parts.length) (h:eqB (t.parts[i]'hi) (u.parts[i]'hm)=false):eqB t u=false:=by
 apply Z5e;rintro rfl;rw[Z1n] at h; cases h
theorem ZbD {t u:Sh} (h:headB t u=true) (hn: ∀j (hj:j < t.names.length) (hj':j < u.names.length),t.names[j]'hj=u.names[j]'hj') (hp: ∀j (hj:j < t.parts.length) (hj':j < u.parts.length),eqB (t.parts[j]'hj) (u.parts[j]'hj')=true):eqB t u=true:=by
 simp only[headB,Bool.and_eq_true,beq_iff_eq,decide_eq_true_eq] at h;obtain ⟨⟨⟨⟨h1,h2⟩,h3⟩,h4⟩,h5⟩:=h;rw[Z9x,h1,h2,h3];simp only[beq_self_eq_true,Bool.true_and,Bool.and_eq_true];exact ⟨beq_iff_eq.2 (List.ext_getElem h4 (fun j a b=>hn j a b)),ZbC h5 (fun j hj=>hp j hj (by omega))⟩
theorem Z7O (t u:Sh) (q r:Ptr) (w:World) (hq:ShAt w w.heap.size q t) (hr:ShAt w w.heap.size r u) (hh:headB t u=false):
 Y9 11 #[.agg (Y8 t q),.agg (Y8 u r)] w (.bool (eqB t u)):=by
 have HF:=Y1 (Zbf hh);have hb0:=Z00 w (.cells (Y8 t q) 25);have hb1:=Z0i hb0 (.cells (Y8 u r) 25);have HB1:=Y1 hb1;have hB:=(Z07 w t q).next (Z00 _ (.cells (Y8 u r) 25));have hC:=Z07 (w.alloc (.cells (Y8 t q) 25)) u r;obtain ⟨_,⟨c0,c1,c2,c3,c4⟩,_⟩:=hB;obtain ⟨_,⟨d0,d1,d2,d3,d4⟩,_⟩:=hC;clear hb0 hb1;rw[World.size_alloc] at d0 d1 d2 d3 d4;have HH:=Y1 hh;clear hh;have h4: ((t.names.length:Int)==(u.names.length:Int))=decide (t.names.length=u.names.length):=by rw[Bool.eq_iff_iff,beq_iff_eq,decide_eq_true_eq]; omega
 have h5: ((t.parts.length:Int)==(u.parts.length:Int))=decide (t.parts.length=u.parts.length):=by rw[Bool.eq_iff_iff,beq_iff_eq,decide_eq_true_eq]; omega
 unfold headB at HH;rw[<-h4, <-h5] at HH;clear h4 h5;cases e1: (t.kind==u.kind)
 {have n1: (t.kind !=u.kind)=true:=by unfold bne; rw[e1]; rfl
  go_enter Tryd.func11,Tryd.ntmps11;go_wp2;go_ret;exact ⟨by rw[HF.out]; rfl,HB1.out⟩}
 {have n1: (t.kind !=u.kind)=false:=by unfold bne; rw[e1]; rfl
  rw[e1,Bool.true_and] at HH;cases e2: (t.of_==u.of_)
  {have n2: (t.of_ !=u.of_)=true:=by unfold bne; rw[e2]; rfl
   go_enter Tryd.func11,Tryd.ntmps11;go_wp2;go_ret;exact ⟨by rw[HF.out]; rfl,HB1.out⟩}
  {have n2: (t.of_ !=u.of_)=false:=by unfold bne; rw[e2]; rfl
   rw[e2,Bool.true_and] at HH;cases e3: (t.name==u.name)
   {have n3: (t.name !=u.name)=true:=by unfold bne; rw[e3]; rfl
    go_enter Tryd.func11,Tryd.ntmps11;go_wp2;go_ret;exact ⟨by rw[HF.out]; rfl,HB1.out⟩}
   {have n3: (t.name !=u.name)=false:=by unfold bne; rw[e3]; rfl
    rw[e3,Bool.true_and] at HH;cases e4: ((t.names.length:Int)==(u.names.length:Int))
    {have n4: ((t.names.length:Int) !=(u.names.length:Int))=true:=by unfold bne; rw[e4]; rfl
     go_enter Tryd.func11,Tryd.ntmps11;go_wp2;go_ret;exact ⟨by rw[HF.out]; rfl,HB1.out⟩}
    {have n4: ((t.names.length:Int) !=(u.names.length:Int))=false:=by unfold bne; rw[e4]; rfl
     rw[e4,Bool.true_and] at HH;have e5:=HH.out;have n5: ((t.parts.length:Int) !=(u.parts.length:Int))=true:=by unfold bne; rw[e5]; rfl
     go_enter Tryd.func11,Tryd.ntmps11;go_wp2;go_ret;exact ⟨by rw[HF.out]; rfl,HB1.out⟩}}}}
theorem Z1h (t:Sh): ∀(u:Sh) (q r:Ptr) (w:World),ShAt w w.heap.size q t->ShAt w w.heap.size r u->
 Y9 11 #[.agg (Y8 t q),.agg (Y8 u r)] w (.bool (eqB t u)):=by
 induction t using Sh.ind with
 | h t ih=>
 intro u q r w hq hr;cases hh:headB t u with
 | false=>exact Z7O t u q r w hq hr hh
 | true=>
 have HH:=Y1 hh;have hs:=hh;simp only[headB,Bool.and_eq_true,beq_iff_eq,decide_eq_true_eq] at hs;obtain ⟨⟨⟨⟨g1,g2⟩,g3⟩,g4⟩,g5⟩:=hs;have HG4:=Y1 g4;have HG5:=Y1 g5;have HL:=Y1 hq.small.l;have HM:=Y1 hq.small.m;have HP:=Y1 hq.part;have HR:=Y1 hr.part;have HSN:=Y1 hq.strs;have HSM:=Y1 hr.strs;have hb0:=Z00 w (.cells (Y8 t q) 25);have hb1:=Z0i hb0 (.cells (Y8 u r) 25);have HB1:=Y1 hb1;have hB:=(Z07 w t q).next (Z00 _ (.cells (Y8 u r) 25));have hC:=Z07 (w.alloc (.cells (Y8 t q) 25)) u r;rw[World.size_alloc] at hC;have HB:=Y1 hB;have HC:=Y1 hC;obtain ⟨_,⟨c0,c1,c2,c3,c4⟩,_⟩:=hB;obtain ⟨_,⟨d0,d1,d2,d3,d4⟩,_⟩:=hC;have n1: (t.kind !=u.kind)=false:=by rw[g1]; simp
 have n2: (t.of_ !=u.of_)=false:=by rw[g2]; simp
 have n3: (t.name !=u.name)=false:=by rw[g3]; simp
 have n4: ((t.names.length:Int) !=(u.names.length:Int))=false:=by rw[g4]; simp
 have n5: ((t.parts.length:Int) !=(u.parts.length:Int))=false:=by rw[g5]; simp
 have e1: (t.kind==u.kind)=true:=by rw[g1]; simp
 have e2: (t.of_==u.of_)=true:=by rw[g2]; simp
 have e3: (t.name==u.name)=true:=by rw[g3]; simp
 have e4: ((t.names.length:Int)==(u.names.length:Int))=true:=by rw[g4]; simp
 have e5: ((t.parts.length:Int)==(u.parts.length:Int))=true:=by rw[g5]; simp
 clear hb0 hb1 hq hr hh g1 g2 g3 g4 g5;go_enter Tryd.func11,Tryd.ntmps11
 go_wp2_with fail
 generalize hW0: (w.alloc (.cells (Y8 t q) 25)).alloc (.cells (Y8 u r) 25)=W0 at HB HC HB1 ⊢;clear hW0 c0 c1 c2 c3 c4 d0 d1 d2 d3 d4 n1 n2 n3 n4 n5 e1 e2 e3 e4 e5
 go_loopw [5] (fun ii wr=> ∃i:Nat,ii= .int .i64 i/\i<=t.names.length/\Hid (∀j (h:j < t.names.length) (h':j < u.names.length),j < i->t.names[j]'h=u.names[j]'h')/\Below W0.heap.size W0 wr) (fun i _=>t.names.length - (intOf i).toNat)
 case atStart=>exact ⟨0,rfl,Nat.zero_le _,Y1 (fun j _ _ hj=>absurd hj (by omega)),Below.refl _ _⟩
 case round=>
  obtain ⟨i,rfl,hi,HN,hb⟩:=hrel;have hbw:Below w.heap.size w wr:=HB1.out.trans (hb.mono HB1.out.size);have hl:=HL.out;obtain ⟨_,⟨c0,_,_,c3,c4⟩,_⟩:=HB.out.next hb;obtain ⟨_,⟨d0,_,_,d3,d4⟩,_⟩:=HC.out.next hb;by_cases hlt:i < t.names.length
  {have hi1: (i:Int) < (t.names.length:Int):=by omega
   have hi2: (i:Int) < (u.names.length:Int):=by have:=HG4.out; omega
   have hi3:i < u.names.length:=by omega
   rcases (HSN.out.next hbw).cell7 with h0 | ⟨g,off,hqA,hg,hc⟩
   {omega}
   {rcases (HSM.out.next hbw).cell7 with h0 | ⟨g',off',hrA,hg',hc'⟩
    {omega}
    {have p:=hc i hlt;have p':=hc' i hi3;obtain ⟨x,hx⟩: ∃x,x=t.names[i]'hlt:=⟨_,rfl⟩;obtain ⟨y,hy⟩: ∃y,y=u.names[i]'hi3:=⟨_,rfl⟩;rw[<-hx] at p;rw[<-hy] at p';have HX:=Y1 hx;have HY:=Y1 hy;rw[hqA] at c3;rw[hrA] at d3;clear hx hy hc hc' hqA hrA;cases hxy: (x==y)
     {have HF:Hid (eqB t u=false):=Y1 (Zau hlt hi3 (by rw[<-HX.out, <-HY.out]; intro h; rw[h] at hxy; simp at hxy));have n1: (x !=y)=true:=by unfold bne; rw[hxy]; rfl
      go_wp2_with fail
      go_quiet (fail)
      go_wp2;go_ret;exact ⟨by rw[HF.out]; rfl,Z0K hbw _⟩}
     {have n1: (x !=y)=false:=by unfold bne; rw[hxy]; rfl
      have HE:Hid (t.names[i]'hlt=u.names[i]'hi3):=Y1 (by rw[<-HX.out, <-HY.out]; simpa using hxy)
      go_wp2_with fail
      go_quiet (fail)
      go_wp2
      go_roundw
      case rel=>exact ⟨i+1,by go_num,by omega,Y1 (fun j hj hj' hji=>by
       rcases Nat.lt_succ_iff_lt_or_eq.1 hji with h | rfl
       {exact HN.out j hj hj' h}
       · exact HE.out),Z0K hb _⟩
      case measure=>simp[intOf]; omega}}}}
  {have HNN:Hid (∀j (h:j < t.names.length) (h':j < u.names.length),t.names[j]'h=u.names[j]'h'):=Y1 (fun j h h'=>HN.out j h h' (by omega));have HBW:=Y1 hb;clear hbw hb HN
   go_wp2_with fail
   go_loopw [6] (fun ii wx=> ∃k:Nat,ii= .int .i64 k/\k<=t.parts.length/\Hid (∀j (h:j < t.parts.length) (h':j < u.parts.length),j < k->eqB (t.parts[j]'h) (u.parts[j]'h')=true)/\Hid (Below W0.heap.size W0 wx)) (fun i _=>t.parts.length - (intOf i).toNat)
   case atStart=>exact ⟨0,rfl,Nat.zero_le _,Y1 (fun j _ _ hj=>absurd hj (by omega)),HBW⟩
   case round=>
    obtain ⟨k,rfl,hk,HN,HBX⟩:=hrel;have hb:=HBX.out;have hbw:Below w.heap.size w wr:=HB1.out.trans (hb.mono HB1.out.size);have hm:=HM.out;clear c0 c3 c4 d0 d3 d4;obtain ⟨_,⟨c0,_,_,c3,c4⟩,_⟩:=HB.out.next hb;obtain ⟨_,⟨d0,_,_,d3,d4⟩,_⟩:=HC.out.next hb;by_cases hlt2:k < t.parts.length
    {have hi1: (k:Int) < (t.parts.length:Int):=by omega
     have hi2: (k:Int) < (u.parts.length:Int):=by have:=HG5.out; omega
     have hi3:k < u.parts.length:=by omega
     rcases HP.out with h0 | ⟨g,off,qs,hqP,hg,hc,hra⟩
     {omega}
     {rcases HR.out with h0 | ⟨g',off',qs',hrP,hg',hc',hra'⟩
      {omega}
      {obtain ⟨x,hx⟩: ∃x,x=t.parts[k]:=⟨_,rfl⟩;obtain ⟨y,hy⟩: ∃y,y=u.parts[k]:=⟨_,rfl⟩;obtain ⟨p0,p1,p2,p3,p4⟩:=(hc k hlt2).keep hg hbw;obtain ⟨s0,s1,s2,s3,s4⟩:=(hc' k hi3).keep hg' hbw;have hat:ShAt wr wr.heap.size (qs k) x:=by rw[hx]; exact (hra k hlt2).next hbw
       have hat':ShAt wr wr.heap.size (qs' k) y:=by rw[hy]; exact (hra' k hi3).next hbw
       have ihx:=ih t.parts[k] (List.getElem_mem _) y (qs k) (qs' k) wr.drew;rw[<-hx] at p0 p1 p2 p3 p4 ihx;rw[<-hy] at s0 s1 s2 s3 s4;have IH:=ihx (hat.next Y2.drew) (hat'.next Y2.drew);rw[hqP] at c4;rw[hrP] at d4;have HX:=Y1 hx;have HY:=Y1 hy;clear hx hy hc hc' hra hra' hat hat' ihx ih hqP hrP
       go_wp2_with fail
       cases hxy:eqB x y
       {have HF:Hid (eqB t u=false):=Y1 (Zav hlt2 hi3 (by rw[<-HX.out, <-HY.out]; exact hxy));rw[hxy] at IH;clear hxy
        go_still_tail 10,(by kernel_rfl)
        change wpList _ _ _ _ _ wr.drew
        go_wp2_with fail
        refine IH.mono ?_;rintro e w2 ⟨rfl,hb2⟩;go_wp2;go_ret;exact ⟨by rw[HF.out]; rfl,Z02 hbw.drew hb2⟩}
       {have HE:Hid (eqB (t.parts[k]'hlt2) (u.parts[k]'hi3)=true):=Y1 (by rw[<-HX.out, <-HY.out]; exact hxy);rw[hxy] at IH;clear hxy
        go_still_tail 10,(by kernel_rfl)
        change wpList _ _ _ _ _ wr.drew
        go_wp2_with fail
        refine IH.mono ?_;rintro e w2 ⟨rfl,hb2⟩;go_wp2
        go_roundw
        case rel=>exact ⟨k+1,by go_num,by omega,Y1 (fun j hj hj' hji=>by
         rcases Nat.lt_succ_iff_lt_or_eq.1 hji with h | rfl
         {exact HN.out j hj hj' h}
         · exact HE.out),Y1 (Z02 hb.drew hb2)⟩
        case measure=>simp[intOf]; omega}}}}
    {have HF:Hid (eqB t u=true):=Y1 (ZbD HH.out HNN.out (fun j hj hj'=>HN.out j hj hj' (by omega)));go_wp2;go_ret;exact ⟨by rw[HF.out]; rfl,hbw⟩}}
end
end Go.Proofs.YtchklpedlbkgaaaDoor
