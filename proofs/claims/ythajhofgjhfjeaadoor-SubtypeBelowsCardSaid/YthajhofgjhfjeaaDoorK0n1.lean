/- What the proofs of SubtypeBelows want, part 1. -/
import Derived.Laws.EntriesVeiled
import Derived.Sort.AssemblyPlain
import Derived.Sort.WalkA6
import Derived.Sort.WalkB2
import Derived.Sort.WalkC4
import Derived.Deep.DeepCutAuto
import Derived.Shelf.Strings.Builder1
import Derived.Shelf.Strconv.Itoa0
import Derived.Sort.Walk7a
import Derived.Deep.CutBlock
import Derived.Test.YthajhofgjhfjeaaDoorK0n0
set_option linter.unusedVariables false
set_option linter.unusedSimpArgs false
set_option linter.unusedSectionVars false
set_option maxRecDepth 100000
set_option maxHeartbeats 16000000
namespace Go.Proofs.YthajhofgjhfjeaaDoor
section
open Go.RowKit Shp
structure UpH (cb:Nat) (w w':World):Prop where
 os:w'.os=w.os
 tape:w'.tape=w.tape
 output:w'.output=w.output
 size:w'.heap.size=w.heap.size
 block: ∀k,k≠cb->w'.heap[k]? =w.heap[k]?
theorem UpH.refl (cb:Nat) (w:World):UpH cb w w:=⟨rfl,rfl,rfl,rfl,fun _ _=>rfl⟩
theorem UpH.trans {cb:Nat} {a b c:World} (h:UpH cb a b) (k:UpH cb b c):UpH cb a c:=
 ⟨k.os.trans h.os,k.tape.trans h.tape,k.output.trans h.output,k.size.trans h.size,fun i hn=>(k.block i hn).trans (h.block i hn)⟩
theorem UpH.set {cb:Nat} {a w:World} (h:UpH cb a w) (v:Value):UpH cb a (w.setCell ⟨cb,1,none⟩ v):=
 h.trans ⟨rfl,rfl,rfl,by simp[World.setCell],fun k hn=>Below.heap_setCell _ _ _ _ hn⟩
theorem UpH.cell {cb:Nat} {w w':World} (h:UpH cb w w') {g k:Nat} (hn:g≠cb):w'.cell? ⟨g,k,none⟩=w.cell? ⟨g,k,none⟩:=World.cell?_of_block (w:=w) (h.block g hn)
theorem UpH.frozen {cb:Nat} {w w':World} (h:UpH cb w w') {g k:Nat} (hn:g≠cb):w'.frozen? ⟨g,k,none⟩=w.frozen? ⟨g,k,none⟩:=World.frozen?_of_block (w:=w) (h.block g hn)
theorem UpH.toBelow {cb B:Nat} {w w':World} (h:UpH cb w w') (hB:B<=cb):Below B w w':=⟨h.os,h.tape,h.output,Nat.le_of_eq h.size.symm,fun k hk=>h.block k (by omega)⟩
structure CntH (w:World) (cb p:Nat) (f:Value):Prop where
 lt:cb < w.heap.size
 c0:w.cell? ⟨cb,0,none⟩=some f
 c1:w.cell? ⟨cb,1,none⟩=some (.int .i64 (p:Int))
 f1:w.frozen? ⟨cb,1,none⟩=false
theorem CntH.set {w:World} {cb p:Nat} {f:Value} (h:CntH w cb p f) (n:Nat):CntH (w.setCell ⟨cb,1,none⟩ (.int .i64 (n:Int))) cb n f:=
 ⟨by simpa[World.setCell] using h.lt,by simp[go_sem,h.c0],by simp[go_sem,h.c1],by simp[go_sem,h.f1]⟩
theorem ShAt.uph {w w':World} {B cb:Nat} {q:Ptr} {t:Sh} (h:ShAt w B q t) (hu:UpH cb w w') (h1:B<=cb):ShAt w' B q t:=
 h.of (Nat.le_refl _) (fun g k hg=>hu.cell (by omega))
theorem Z3H (g o:Nat) (w:World):Calls Tryd.prog 46 #[.pointer (some ⟨g,o,none⟩)] w fun e w'=>e= .returned (.pointer (some ⟨g,o+4,none⟩))/\w=w':=by
 go_enter Tryd.func46,Tryd.ntmps46;go_wp2;go_ret;exact ⟨rfl,rfl⟩
theorem Z6U (t:Sh): ∀(q:Ptr) (g o B cb p lv:Nat) (w:World),Sh5 w g o t q->g≠cb->ShAt w B q t->B<=cb->CntH w cb p (.func (.func 46) #[] #[])->p+size t<=1000000->lv+deep t<=60000->
 Calls Tryd.prog 63 #[.pointer (some ⟨cb,0,none⟩),.pointer (some ⟨g,o,none⟩),.int .i64 (lv:Int)] w
  fun e w'=>e= .returned (.bool true)/\UpH cb w w'/\CntH w' cb (p+size t) (.func (.func 46) #[] #[]):=by
 induction t using Sh.ind with
 | h t ih=>
 intro q g o B cb p lv w hs hgc hq hBc hc hpm hlv;have HP:=Y1 hq.part;have HM:=Y1 hq.small.m;have HD:Hid (deep t=deeps t.parts+1):=Y1 (Z0T t);have HZ:Hid (size t=1+sizes t.parts):=Y1 (size_eq t);have HPM:Hid (p+size t<=1000000):=Y1 hpm;have HLV:Hid (lv+deep t<=60000):=Y1 hlv;have hp1: (p:Int)<=1000000:=by omega
 have hg1: ¬(16777216:Int) < (p:Int)+1:=by omega
 have hg2: ¬(65536:Int) < (lv:Int):=by omega
 have hlvi: (lv:Int)<=60000:=by omega
 have e1:decide ((16777216:Int) < (p:Int)+1)=false:=decide_eq_false hg1;have e2:decide ((65536:Int) < (lv:Int))=false:=decide_eq_false hg2;have HS:=Y1 hs;have HC:=Y1 hc;obtain ⟨_,_,_,_,k4⟩:=hs;obtain ⟨_,c0,c1,f1⟩:=hc;have hne2:cb≠g:=Ne.symm hgc;have L1:=fun (W:World)=>Z3H g o W;clear hpm hlv hq;go_enter Tryd.func63,Tryd.ntmps63
 go_wp2_with fail
 obtain ⟨W0,hW0⟩: ∃W0,W0=w.setCell ⟨cb,1,none⟩ (.int .i64 ((p:Int)+1)):=⟨_,rfl⟩;have HU0:Hid (UpH cb w W0):=Y1 (by rw[hW0]; exact (UpH.refl cb w).set _);have HC0:Hid (CntH W0 cb (p+1) (.func (.func 46) #[] #[])):=Y1 (by rw[hW0]; exact HC.out.set (p+1));have k4':W0.cell? ⟨g,o+4,none⟩=some (.slice q.P t.parts.length q.d):=(HU0.out.cell hgc).trans k4;rw[<-hW0];clear hW0 k4 c0 c1 f1 hp1 hg1 hg2 e1 e2;refine (L1 W0).mono ?_;rintro e w1 ⟨rfl,rfl⟩
 go_wp2_with fail
 clear k4'
 go_loopw [35] (fun ii wr=> ∃i:Nat,ii= .int .i64 i/\i<=t.parts.length/\Hid (UpH cb w wr)/\Hid (CntH wr cb (p+1+sizes (t.parts.take i)) (.func (.func 46) #[] #[]))) (fun i _=>t.parts.length - (intOf i).toNat)
 case atStart=>exact ⟨0,rfl,Nat.zero_le _,HU0,by rw[List.take_zero]; exact HC0⟩
 case round=>
  obtain ⟨i,rfl,hi,HUR,HCR⟩:=hrel;have hmm:=HM.out;by_cases hlt:i < t.parts.length
  {rcases HP.out with h0 | ⟨g',off,qs,hqP,hg',hc,hr⟩
   {omega}
   {obtain ⟨x,hx⟩: ∃x,x=t.parts[i]:=⟨_,rfl⟩;have hxs:=hc i hlt;have hxa:=hr i hlt;have ihx:=ih t.parts[i] (List.getElem_mem _) (qs i) g' (off+i * 5) B cb (p+1+sizes (t.parts.take i)) (lv+1) wr;rw[<-hx] at ihx hxs hxa;have HN:Hid (sizes (t.parts.take (i+1))=sizes (t.parts.take i)+size x):=Y1 (by rw[hx]; exact Z1a hlt);have hdx:deep x<=deeps t.parts:=by rw[hx]; exact Z2N (List.getElem_mem _)
    have IH:=ihx (hxs.of (fun k=>HUR.out.cell (by omega))) (by omega) (hxa.uph HUR.out hBc) hBc HCR.out (by
     have:=Z2m t.parts (i+1);have:=HN.out;have:=HPM.out;have:=HZ.out;omega) (by have:=HD.out; have:=HLV.out; omega)
    have hi1: (i:Int) < (t.parts.length:Int):=by omega
    rw[show (((lv+1:Nat)):Int)=(lv:Int)+1 from by omega] at IH;clear hxs hxa ihx hc hr hx hdx ih;rw[hqP];clear hqP
    go_wp2_with fail
    refine IH.mono ?_;rintro e w2 ⟨rfl,hu2,hc2⟩;have HU2:Hid (UpH cb w w2):=Y1 (HUR.out.trans hu2);have HC2:Hid (CntH w2 cb (p+1+sizes (t.parts.take (i+1))) (.func (.func 46) #[] #[])):=Y1 (by rw[HN.out, <-Nat.add_assoc]; exact hc2);clear hu2 hc2 IH;go_wp2
    go_roundw
    case rel=>exact ⟨i+1,by go_num,by omega,HU2,HC2⟩
    case measure=>simp[intOf]; omega}}
  {have HG:Hid (p+size t=p+1+sizes (t.parts.take i)):=Y1 (by rw[HZ.out,show i=t.parts.length from by omega,List.take_length]; omega);have hi1: ¬(i:Int) < (t.parts.length:Int):=by omega
   go_wp2;go_ret;exact ⟨rfl,HUR.out,by rw[HG.out]; exact HCR.out⟩}
theorem Z1R (W:World) (a:Addr) (u:Value): (W.setCell a u).heap.size=W.heap.size:=by simp[World.setCell]
theorem Z7W: (Tryd.prog.info? 42).map (fun i=>(i.zero,i.size,i.bytes))=some (some (.pointer none),1,8):=by kernel_rfl
theorem Z9V (a:Option Addr) (n:Int) (W:World): (Instr.lookup 68 (.map none) (.agg #[.pointer a,.int .i64 n]) true).run Tryd.prog W= .ok (.tuple #[.slice none 0 0,.bool false]) W:=by kernel_rfl
def TxC (w W:World) (l:List (List UInt8)) (A':Option Addr) (c':Nat):Prop:=l.length<=c'/\(A'=none->c'=0)/\(l.length=0\/ ∃b,A'=some ⟨b,0,none⟩/\w.heap.size<=b/\TxR W b l)
theorem Z7X (g o:Nat) (A:Option Addr) (c:Nat) (l:List (List UInt8)) (w:World) (hg:g < w.heap.size) (k3:w.cell? ⟨g,o+3,none⟩=some (.slice A l.length c)) (f3:w.frozen? ⟨g,o+3,none⟩=false) (hA:Strs w w.heap.size A (strs l)) (hl:l.length<=1000000000) (hlc:l.length<=c) (hA0:A=none->c=0):
 Calls Tryd.prog 48 #[.pointer (some ⟨g,o,none⟩)] w fun e w'=>e= .returned (.tuple #[])/\ ∃A' c' W2,Below w.heap.size w W2/\TxC w W2 l A' c'/\w'=W2.setCell ⟨g,o+3,none⟩ (.slice A' l.length c'):=by
 have HC:=Y1 (Z5C A c l w hA hl hlc hA0);clear hA hl hlc hA0;go_enter Tryd.func48,Tryd.ntmps48
 go_wp2_with fail
 refine HC.out.mono ?_;rintro e W2 ⟨⟨A',c',rfl,h1,h2,h3⟩,hb⟩;have x3:=(hb.cell (p:=⟨g,o+3,none⟩) hg).trans k3;have y3:=(hb.frozen (p:=⟨g,o+3,none⟩) hg).trans f3;have HB:=Y1 hb;have HT:Hid (TxC w W2 l A' c'):=Y1 ⟨h1,h2,h3⟩;clear hb h1 h2 h3 k3 f3 HC;go_wp2;refine bodyPost_end (v:= .tuple #[]) (by simp[results,Tryd.results48,go_sem]) rfl ?_;exact ⟨rfl,A',c',W2,HB.out,HT.out,rfl⟩
theorem Z6V (g o:Nat) (P:Option Addr) (d:Nat) (w:World) (hg:g < w.heap.size) (k4:w.cell? ⟨g,o,none⟩=some (.slice P 0 d)) (f4:w.frozen? ⟨g,o,none⟩=false) (hP0:P=none->d=0):
 Calls Tryd.prog 64 #[.pointer (some ⟨g,o,none⟩),.map none] w fun e w'=>e= .returned (.bool false)/\ ∃P' d' W2,Below w.heap.size w W2/\(P'=none->d'=0)/\w'=W2.setCell ⟨g,o,none⟩ (.slice P' 0 d'):=by
 have HC:=Y1 (Z6T P d w hP0);clear hP0;go_enter Tryd.func64,Tryd.ntmps64
 go_wp2_with fail
 refine HC.out.mono ?_;rintro e W2 ⟨⟨P',d',rfl,h2⟩,hb⟩;have x4:=(hb.cell (p:=⟨g,o,none⟩) hg).trans k4;have y4:=(hb.frozen (p:=⟨g,o,none⟩) hg).trans f4;have HB:=Y1 hb;have HT:=Y1 h2;clear hb h2 k4 f4 HC;go_wp2;go_ret;exact ⟨rfl,P',d',W2,HB.out,HT.out,rfl⟩
theorem Z6W (g o g' off d:Nat) (ps:List Sh) (qs:Nat->Ptr) (w:World) (hg:g < w.heap.size) (k4:w.cell? ⟨g,o,none⟩=some (.slice (some ⟨g',off,none⟩) ps.length d)) (f4:w.frozen? ⟨g,o,none⟩=false)
 (hg':g' < w.heap.size) (hc: ∀i (h:i < ps.length),Sh5 w g' (off+i * 5) (ps[i]'h) (qs i)) (hl:ps.length<=1000000000) (hpos:0 < ps.length):
 Calls Tryd.prog 64 #[.pointer (some ⟨g,o,none⟩),.map none] w fun e w'=>e= .returned (.bool true)/\ ∃b d' W2,Below w.heap.size w W2/\ps.length<=d'/\w.heap.size<=b/\PaR W2 b ps qs/\w'=W2.setCell ⟨g,o,none⟩ (.slice (some ⟨b,0,none⟩) ps.length d'):=by
 have HC:=Y1 (fun (W:World) (hb:Below w.heap.size w W)=>Z5D g' off d ps qs W (Nat.lt_of_lt_of_le hg' hb.size) (fun i hi=>(hc i hi).keep hg' hb) hl hpos);have hl0: ((ps.length:Int)==0)=false:=by rw[beq_eq_false_iff_ne]; omega
 have hi0: (0:Int) < (ps.length:Int):=by omega
 have q48: ∀(w:World) (r:Option Nat),(binOp .neq 68 (.map r) (.map none)).run Tryd.prog w= .ok (.bool (!r.isNone)) w:=fun w r=>run_neq_map_nil w _ _ _ r Tryd.underlying68;have hlk:=Z9V (some ⟨g',off,none⟩) (ps.length:Int);clear hc;go_enter Tryd.func64,Tryd.ntmps64
 go_wp2_with fail
 go_region
 obtain ⟨W1,hW1⟩: ∃W1,W1=(w.alloc (.cells #[.pointer (some ⟨g',off,none⟩),.int .i64 (ps.length:Int)] 89)).drew:=⟨_,rfl⟩;have hb1:Below w.heap.size w W1:=by rw[hW1]; exact (Z01 _ _).drew
 have p0:W1.cell? ⟨w.heap.size,0,none⟩=some (.pointer (some ⟨g',off,none⟩)):=by rw[hW1]; simp[go_sem]
 have p1:W1.cell? ⟨w.heap.size,1,none⟩=some (.int .i64 (ps.length:Int)):=by rw[hW1]; simp[go_sem]
 have x4:=(hb1.cell (p:=⟨g,o,none⟩) hg).trans k4;have y4:=(hb1.frozen (p:=⟨g,o,none⟩) hg).trans f4;have hz1:w.heap.size < W1.heap.size:=by rw[hW1]; simp
 have hgz:g < W1.heap.size:=Nat.lt_trans hg hz1;have hcl:=HC.out W1 hb1;rw[<-hW1];have HB1:=Y1 hb1;have HCL:=Y1 hcl;have HHL:=Y1 hl;clear hW1 hb1 hcl k4 f4 HC hl
 go_wp2_with fail
 refine HCL.out.mono ?_;rintro e W2 ⟨⟨b,d',rfl,h1,h2,h3⟩,hb2⟩;have x5:=(hb2.cell (p:=⟨g,o,none⟩) hgz).trans x4;have y5:=(hb2.frozen (p:=⟨g,o,none⟩) hgz).trans y4;have HB2:=Y1 (Z00 HB1.out hb2);have HT:=Y1 h3;have HL:=Y1 h1;have HBB:=Y1 (show w.heap.size<=b from by omega);clear hb2 h1 h2 h3 x4 y4 p0 p1 HCL hgz hz1;go_wp2;go_ret;exact ⟨rfl,b,d',W2,HB2.out,HL.out,HBB.out,HT.out,rfl⟩
def sumL (L:List Nd):Nat:=(L.map fun n=>size n.t).sum
theorem Z0t (L M:List Nd):sumL (L++M)=sumL L+sumL M:=by simp[sumL]
theorem Z4g (pb:Nat) (ps:List Sh) (qs:Nat->Ptr):sumL (kids pb ps qs)=sizes ps:=by
 unfold sumL kids;have: ∀(l:List Sh) (f:Nat->Sh->Nd),(∀i p,(f i p).t=p)->((l.mapIdx f).map fun n=>size n.t).sum=sizes l:=by
  intro l;induction l with
  | nil=>intro f _; rfl
  | cons p l ih=>
   intro f hf;rw[List.mapIdx_cons];simp only[List.map_cons,List.sum_cons,hf];rw[ih (fun i=>f (i+1)) (fun i p=>hf (i+1) p)]; rfl
 exact this ps _ (fun _ _=>rfl)
theorem Z8X (L:List Nd):L.length<=sumL L:=by
 induction L with
 | nil=>simp
 | cons n L ih=>have:=Z1I n.t; simp[sumL] at ih ⊢; omega
def ndP (n:Nd):Value:= .pointer (some ⟨n.g,n.i * 5,none⟩)
theorem Z8Y {W:World} {B:Nat} {e:TypeId} {size:Nat} {v:Value} {n:Nat} {xs:List Value} (h:W.ownsRow B e size v n xs) {a:Addr} (hne:v.ownBlock≠some a.block) (u:Value): (W.setCell a u).ownsRow B e size v n xs:=
 h.kept (row:=some a.block) ⟨rfl,rfl,rfl,by simp[World.setCell],fun k hk hn=>Below.heap_setCell _ _ _ _ (fun e=>hn (by rw[e]))⟩ (Or.inr hne)
theorem Z0d (W:World) (a:Addr) (u:Value) {b:Nat} (h:a.block≠b):Z0i W (W.setCell a u) b:=
 ⟨fun k=>World.cell?_setCell_other _ _ _ _ (fun e=>h (congrArg Addr.block e)),fun k=>World.frozen?_setCell ..⟩
theorem Z0i.trans {a b c:World} {x:Nat} (h:Z0i a b x) (k:Z0i b c x):Z0i a c x:=⟨fun j=>(k.1 j).trans (h.1 j),fun j=>(k.2 j).trans (h.2 j)⟩
theorem Z0i.below {a b:World} {x:Nat} (h:Below a.heap.size a b) (hx:x < a.heap.size):Z0i a b x:=⟨fun k=>h.cell (p:=⟨x,k,none⟩) hx,fun k=>h.frozen (p:=⟨x,k,none⟩) hx⟩
structure UpL (v:Value) (w w':World):Prop where
 os:w'.os=w.os
 tape:w'.tape=w.tape
 output:w'.output=w.output
 size:w.heap.size<=w'.heap.size
 block: ∀k,k < w.heap.size->v.ownBlock≠some k->w'.heap[k]? =w.heap[k]?
theorem UpL.refl (v:Value) (w:World):UpL v w w:=⟨rfl,rfl,rfl,Nat.le_refl _,fun _ _ _=>rfl⟩
theorem UpL.same {v:Value} {w w':World} (h:UpL v w w') {b:Nat} (h1:b < w.heap.size) (h3:v.ownBlock≠some b):Z0i w w' b:=
 ⟨fun k=>World.cell?_of_block (w:=w) (h.block b h1 h3),fun k=>World.frozen?_of_block (w:=w) (h.block b h1 h3)⟩
def Opn (W:World) (v:Value) (L:List Nd):Prop:=W.ownsRow 0 42 1 v L.length (L.map ndP)
theorem Opn.below {W W':World} {v:Value} {L:List Nd} (h:Opn W v L) (hb:Below W.heap.size W W'):Opn W' v L:=
 World.ownsRow.kept h (Z2a hb (Nat.le_refl _) none) (by
  rcases e:v.ownBlock with _ | x
  {exact Or.inl rfl}
  · exact Or.inr (by simp))
section
variable {W : World}
include W
theorem Opn.set {v:Value} {L:List Nd} (h:Opn W v L) {a:Addr} (h2:v.ownBlock≠some a.block) (u:Value):Opn (W.setCell a u) v L:=Z8Y h h2 u
theorem Opn.pop {cap g:Nat} {L:List Nd} {a:Nd} (h:Opn W (.slice (some ⟨g,0,none⟩) (L.length+1) cap) (L++ [a])):Opn W (.slice (some ⟨g,0,none⟩) L.length cap) L:=by
 obtain ⟨h1,h2⟩:=h;refine ⟨by simp, ?_⟩;rcases h2 with ⟨h2,_⟩ | ⟨g',cap',cur,hv,hB,hh,hn,hc,hcs,htk⟩
 {cases h2}
 {right;obtain ⟨rfl,rfl⟩:g=g'/\cap=cap':=by
   injection hv with h3 h4 h5;injection h3 with h3;injection h3 with h3;exact ⟨h3,h5⟩
  rw[List.length_append,List.length_singleton] at hn htk;refine ⟨g,cap,cur,rfl,hB,hh,by omega,hc,hcs, ?_⟩;have:=congrArg (List.take (L.length * 1)) htk;rw[List.take_take,Nat.min_eq_left (by omega)] at this;rw[this,List.map_append,List.take_left' (by simp)]}
theorem Opn.last {v:Value} {L:List Nd} {a:Nd} (h:Opn W v (L++ [a])): ∃g cap,v= .slice (some ⟨g,0,none⟩) (L.length+1) cap/\L.length+1<=cap/\W.cell? ⟨g,L.length,none⟩=some (ndP a)/\g < W.heap.size:=by
 have ho:W.ownsRow 0 42 1 v (L++ [a]).length ((L++ [a]).map ndP):=h;obtain ⟨h1,h2⟩:=h;rcases h2 with ⟨h2,h3⟩ | ⟨g,cap,cur,hv,hB,hh,hn,hc,hcs,htk⟩
 {rw[List.length_append,List.length_singleton] at h3; omega}
 {rw[List.length_append,List.length_singleton] at hv hn;rw[hv,List.length_append,List.length_singleton] at ho;refine ⟨g,cap,hv,hn, ?_,(ho.lt g rfl).2⟩;rw[ho.cellAt L.length (by omega)];simp}
theorem Opn.empty {v:Value} (h:Opn W v []): ∃A cp,v= .slice A 0 cp:=by
 rcases h.2 with ⟨rfl,_⟩ | ⟨g,cap,cur,rfl,_⟩
 {exact ⟨none,0,rfl⟩}
 {exact ⟨some ⟨g,0,none⟩,cap,rfl⟩}
end
structure Rnd7 (w wr:World) (v vr:Value) (pb:Nat) (ps:List Sh) (qs:Nat->Ptr) (L:List Nd) (i:Nat):Prop where
 opn:Opn wr vr (L++(kids pb ps qs).take i)
 row: ∀x,vr.ownBlock=some x->v.ownBlock=some x\/w.heap.size<=x
 ne:vr.ownBlock≠some pb
 up:UpL v w wr
 par:PaR wr pb ps qs
theorem Rnd7.start {w:World} {v:Value} {pb:Nat} {ps:List Sh} {qs:Nat->Ptr} {L:List Nd} (ho:Opn w v L) (hne:v.ownBlock≠some pb) (hp:PaR w pb ps qs):Rnd7 w w v v pb ps qs L 0:=
 ⟨by rw[List.take_zero,List.append_nil]; exact ho,fun _ h=>Or.inl h,hne,UpL.refl _ _,hp⟩
theorem Rnd7.step {w wr w2:World} {v vr:Value} {pb:Nat} {ps:List Sh} {qs:Nat->Ptr} {L:List Nd} {i g1 cap:Nat} {o:Obj} (h:Rnd7 w wr v vr pb ps qs L i) (hi:i < ps.length) (hpw:pb < w.heap.size)
 (hG: (wr.alloc o).grownBy w2 vr.ownBlock)
 (hW:w2.ownsRow 0 42 1 (.slice (some ⟨g1,0,none⟩) (L.length+i+1) cap) (L.length+i+1) ((L++(kids pb ps qs).take i).map ndP++ [.pointer (some ⟨pb,i * 5,none⟩)]))
 (hat:vr.ownBlock=some g1\/g1=(wr.alloc o).heap.size):Rnd7 w w2 v (.slice (some ⟨g1,0,none⟩) (L.length+i+1) cap) pb ps qs L (i+1):=by
 have hsz: (wr.alloc o).heap.size=wr.heap.size+1:=by simp
 have hws:=h.up.size;have hg1:g1≠pb/\(v.ownBlock=some g1\/w.heap.size<=g1):=by
  rcases hat with h1 | h1
  {exact ⟨fun e=>h.ne (e▸h1),h.row g1 h1⟩}
  {have:=h.par.lt;rw[hsz] at h1;exact ⟨by omega,Or.inr (by omega)⟩}
 have hblk: ∀k,k < wr.heap.size->vr.ownBlock≠some k->w2.heap[k]? =wr.heap[k]? :=fun k hk hn=>(hG.block k (by rw[hsz]; omega) (fun e=>hn e.symm)).trans (Below.heap_alloc _ _ _ hk);have h2s:=hG.size;rw[hsz] at h2s;have hk1: ((kids pb ps qs).take (i+1))=(kids pb ps qs).take i++ [⟨pb,i,ps[i]'hi,qs i⟩]:=by
  rw[Z1P (by rw[Z0x]; exact hi),Z1l]
 have hlen: (L++(kids pb ps qs).take (i+1)).length=L.length+i+1:=by rw[List.length_append,List.length_take,Z0x]; omega
 refine ⟨?_, ?_,fun e=>hg1.1 (Option.some.inj e),⟨hG.os.trans h.up.os,hG.tape.trans h.up.tape,hG.output.trans h.up.output,by omega, ?_⟩, ?_⟩
 {unfold Opn;rw[hlen,hk1, <-List.append_assoc,List.map_append];exact hW}
 {intro x hx;obtain rfl:g1=x:=Option.some.inj hx;exact hg1.2}
 {intro k hk h2;rw[hblk k (by omega) (fun e=>by
   rcases h.row k e with h3 | h3
   {exact h2 h3}
   · omega)]
  exact h.up.block k hk h2}
 {exact h.par.of ⟨fun k=>World.cell?_of_block (w:=wr) (hblk pb h.par.lt h.ne),fun k=>World.frozen?_of_block (w:=wr) (hblk pb h.par.lt h.ne)⟩ (by omega)}
structure Cst (w W:World) (r r1:Nat) (T:Sh) (v:Value) (L:List Nd) (D:List Nat):Prop where
 opn:Opn W v L
 rdy:Ready r T L D W
 lo: ∀b∈D,w.heap.size<=b/\b < W.heap.size/\v.ownBlock≠some b
 nd: ∀n∈L,n.g∈D/\n.g≠r1/\Sh5 W n.g (n.i * 5) n.t n.q/\ShAt W w.heap.size n.q n.t/\ ∀k,W.frozen? ⟨n.g,k,none⟩=false
 ap:L.Pairwise fun n m=>n.g=m.g->n.i≠m.i
 bel:Below w.heap.size w W
 res:r1∉D/\(w.heap.size<=r1/\r1 < W.heap.size/\v.ownBlock≠some r1)/\(∀c,c < 5-> ∃u,W.cell? ⟨r1,c,none⟩=some u)/\ ∀k,W.frozen? ⟨r1,k,none⟩=false
 row: ∀g,v.ownBlock=some g->w.heap.size<=g
 rin:r∈D/\r≠r1
theorem Z7Y (pb:Nat) (ps:List Sh) (qs:Nat->Ptr): (kids pb ps qs).Pairwise fun n m=>n.g=m.g->n.i≠m.i:=by
 refine List.pairwise_iff_getElem.2 (fun i j hi hj hij=> ?_);rw[Z1l,Z1l];intro _;show i≠j;omega
theorem Cst.step {w W W2 W3' W5:World} {r r1 g cap:Nat} {T:Sh} {L:List Nd} {a:Nd} {D:List Nat} {A' P':Option Addr} {c' d' pb:Nat} {qs:Nat->Ptr} {v5:Value}
 (h:Cst w W r r1 T (.slice (some ⟨g,0,none⟩) (L.length+1) cap) (L++ [a]) D)
 (hb2:Below W.heap.size W W2) (hn:TxC W W2 a.t.names A' c')
 (hb3:Below (W2.setCell ⟨a.g,a.i * 5+3,none⟩ (.slice A' a.t.names.length c')).heap.size (W2.setCell ⟨a.g,a.i * 5+3,none⟩ (.slice A' a.t.names.length c')) W3') (hd1:a.t.parts.length<=d') (hP0:P'=none->d'=0)
 (hp:a.t.parts.length=0/\W5=W3'.setCell ⟨a.g,a.i * 5+4,none⟩ (.slice P' a.t.parts.length d')/\v5= .slice (some ⟨g,0,none⟩) L.length cap\/
  P'=some ⟨pb,0,none⟩/\W2.heap.size<=pb/\(∀i (hi:i < a.t.parts.length),ShAt W w.heap.size (qs i) (a.t.parts[i]'hi))/\Rnd7 (W3'.setCell ⟨a.g,a.i * 5+4,none⟩ (.slice P' a.t.parts.length d')) W5 (.slice (some ⟨g,0,none⟩) L.length cap) v5 pb a.t.parts qs L a.t.parts.length):
 ∃D5,Cst w W5 r r1 T v5 (L++kids pb a.t.parts qs) D5:=by
 obtain ⟨hc1,hA0,hn⟩:=hn;obtain ⟨hagD,har1,haS,haA,haF⟩:=h.nd a (by simp);obtain ⟨hlo1,hlo2,hlo4⟩:=h.lo a.g hagD;have hgW:g < W.heap.size:=(World.ownsRow.lt h.opn g rfl).2;have hgw:w.heap.size<=g:=h.row g rfl;have hag:a.g≠g:=fun e=>hlo4 (by rw[e]; rfl);obtain ⟨W3,hW3⟩: ∃W3,W3=W2.setCell ⟨a.g,a.i * 5+3,none⟩ (.slice A' a.t.names.length c'):=⟨_,rfl⟩;obtain ⟨W4,hW4⟩: ∃W4,W4=W3'.setCell ⟨a.g,a.i * 5+4,none⟩ (.slice P' a.t.parts.length d'):=⟨_,rfl⟩;have hO1:Opn W (.slice (some ⟨g,0,none⟩) L.length cap) L:=h.opn.pop;rw[<-hW3] at hb3;rw[<-hW4] at hp;have z2:W.heap.size<=W2.heap.size:=hb2.size;have z3:W3.heap.size=W2.heap.size:=by rw[hW3,Z1R]
 have z3':W3.heap.size<=W3'.heap.size:=hb3.size;have z4:W4.heap.size=W3'.heap.size:=by rw[hW4,Z1R]
 have z5:W4.heap.size<=W5.heap.size:=by
  rcases hp with ⟨_,rfl,_⟩ | ⟨_,_,_,hr⟩
  {exact Nat.le_refl _}
  {exact hr.up.size}
 have hO4:Opn W4 (.slice (some ⟨g,0,none⟩) L.length cap) L:=by
  have e3:Opn W3 (.slice (some ⟨g,0,none⟩) L.length cap) L:=by
   rw[hW3]; exact (hO1.below hb2).set (fun e=>hag (Option.some.inj e).symm) _
  rw[hW4]; exact (e3.below hb3).set (fun e=>hag (Option.some.inj e).symm) _
 -- blocks that nothing turns
 have s45: ∀b,b < W4.heap.size->b≠g->Z0i W4 W5 b:=fun b h1 h3=>by
  rcases hp with ⟨_,rfl,_⟩ | ⟨_,_,_,hr⟩
  {exact ⟨fun _=>rfl,fun _=>rfl⟩}
  {exact hr.up.same h1 (fun e=>h3 (Option.some.inj e).symm)}
 have s12: ∀b,b < W.heap.size->Z0i W W2 b:=fun b h1=>Z0i.below hb2 h1;have s33: ∀b,b < W3.heap.size->Z0i W3 W3' b:=fun b h1=>Z0i.below hb3 h1;have s25: ∀b,b < W2.heap.size->b≠g->b≠a.g->Z0i W2 W5 b:=fun b h1 h3 h4=>by
  have e1:Z0i W2 W3 b:=by rw[hW3]; exact Z0d W2 _ _ (Ne.symm h4)
  have e2:=s33 b (by omega);have e3:Z0i W3' W4 b:=by rw[hW4]; exact Z0d W3' _ _ (Ne.symm h4)
  exact ((e1.trans e2).trans e3).trans (s45 b (by omega) h3)
 have hcl: ∀b,b < W.heap.size->b≠g-> ∀k,¬(a.g=b/\(k=a.i * 5+3\/k=a.i * 5+4))->W5.cell? ⟨b,k,none⟩=W.cell? ⟨b,k,none⟩:=fun b h1 h3 k hk=>by
  have e1:=(s12 b h1).1 k;have e2:W3.cell? ⟨b,k,none⟩=W2.cell? ⟨b,k,none⟩:=by
   rw[hW3];exact World.cell?_setCell_other _ _ _ _ (fun e=>hk ⟨congrArg Addr.block e,Or.inl (congrArg Addr.off e).symm⟩)
  have e3:=(s33 b (by omega)).1 k;have e4:W4.cell? ⟨b,k,none⟩=W3'.cell? ⟨b,k,none⟩:=by
   rw[hW4];exact World.cell?_setCell_other _ _ _ _ (fun e=>hk ⟨congrArg Addr.block e,Or.inr (congrArg Addr.off e).symm⟩)
  rw[(s45 b (by omega) h3).1 k,e4,e3,e2,e1]
 have hfz: ∀b,b < W.heap.size->b≠g-> ∀k,W5.frozen? ⟨b,k,none⟩=W.frozen? ⟨b,k,none⟩:=fun b h1 h3 k=>by
  rw[(s45 b (by omega) h3).2 k,hW4,World.frozen?_setCell,(s33 b (by omega)).2 k,hW3,World.frozen?_setCell,(s12 b h1).2 k]
 have hDlo: ∀b∈D,b < W.heap.size/\b≠g:=fun b hb=>by
  obtain ⟨_,h2,h4⟩:=h.lo b hb;exact ⟨h2,fun e=>h4 (by rw[e]; rfl)⟩
 have hbel:Below w.heap.size w W5:=by
  have b2:Below w.heap.size w W2:=h.bel.trans (hb2.mono h.bel.size);have b3:Below w.heap.size w W3:=by rw[hW3]; exact b2.setCell hlo1 _
  have b3':Below w.heap.size w W3':=b3.trans (hb3.mono b3.size);have b4:Below w.heap.size w W4:=by rw[hW4]; exact b3'.setCell hlo1 _
  rcases hp with ⟨_,rfl,_⟩ | ⟨_,_,_,hr⟩
  {exact b4}
  {exact b4.trans ⟨hr.up.os,hr.up.tape,hr.up.output,hr.up.size,fun k hk=>hr.up.block k (by have:=b4.size; omega) (fun e=>by have:g=k:=Option.some.inj e; omega)⟩}
 have hqs:ShAt W w.heap.size a.q a.t:=haA;obtain ⟨q0,q1',q2,q3,q4⟩:=haS
 -- the place's own cells
 have hSa:Sh5 W5 a.g (a.i * 5) a.t ⟨A',c',P',d'⟩:=by
  have hx: ∀c,c < 3->W5.cell? ⟨a.g,a.i * 5+c,none⟩=W.cell? ⟨a.g,a.i * 5+c,none⟩:=fun c hc=>hcl a.g hlo2 hag _ (fun ⟨_,e⟩=>by omega);have e3:W3.cell? ⟨a.g,a.i * 5+3,none⟩=some (.slice A' a.t.names.length c'):=by
   rw[hW3];exact World.cell?_setCell_same _ _ _ (((s12 a.g hlo2).1 _).trans q3)
  have e33:=s33 a.g (by omega);have e45:=s45 a.g (by omega) hag;have e5:W4.cell? ⟨a.g,a.i * 5+3,none⟩=W3'.cell? ⟨a.g,a.i * 5+3,none⟩:=by
   rw[hW4]; exact World.cell?_setCell_other _ _ _ _ (fun e=>by have:=congrArg Addr.off e; simp at this)
  have e4:W3'.cell? ⟨a.g,a.i * 5+4,none⟩=some (.slice a.q.P a.t.parts.length a.q.d):=by
   refine (e33.1 _).trans ?_;rw[hW3];exact (World.cell?_setCell_other _ _ _ _ (fun e=>by have:=congrArg Addr.off e; simp at this)).trans (((s12 a.g hlo2).1 _).trans q4)
  refine ⟨(hx 0 (by omega)).trans q0,(hx 1 (by omega)).trans q1',(hx 2 (by omega)).trans q2,(e45.1 _).trans (e5.trans ((e33.1 _).trans e3)),(e45.1 _).trans ?_⟩;rw[hW4];exact World.cell?_setCell_same _ _ _ e4
 have hsm:Small a.t ⟨A',c',P',d'⟩:=by
  obtain ⟨i1,i2,i3,i4,i5,_,_,_,_⟩:=hqs.small;exact ⟨i1,i2,i3,i4,i5,hc1,hd1,hA0,hP0⟩
 obtain ⟨DN,hDN⟩: ∃DN:List Nat,a.t.names.length=0/\DN= []\/ ∃b,A'=some ⟨b,0,none⟩/\DN= [b]/\W.heap.size<=b/\b < W2.heap.size/\TxR W5 b a.t.names:=by
  rcases hn with h0 | ⟨b,h1,h2,h3⟩
  {exact ⟨[],Or.inl ⟨h0,rfl⟩⟩}
  {exact ⟨[b],Or.inr ⟨b,h1,rfl,h2,h3.lt,h3.of (s25 b h3.lt (by omega) (by omega)) (by omega)⟩⟩}
 have hDNb: ∀b∈DN,W.heap.size<=b/\b < W2.heap.size:=fun b hb=>by
  rcases hDN with ⟨_,rfl⟩ | ⟨c,_,rfl,h3,h4,_⟩
  {cases hb}
  {rw[List.mem_singleton] at hb; subst hb; exact ⟨h3,h4⟩}
 obtain ⟨DP,hDP⟩: ∃DP:List Nat,a.t.parts.length=0/\DP= []\/P'=some ⟨pb,0,none⟩/\DP= [pb]/\W2.heap.size<=pb/\(∀i (hi:i < a.t.parts.length),ShAt W w.heap.size (qs i) (a.t.parts[i]'hi))/\PaR W5 pb a.t.parts qs:=by
  rcases hp with ⟨h0,_⟩ | ⟨h1,h2,h3,h4⟩
  {exact ⟨[],Or.inl ⟨h0,rfl⟩⟩}
  {exact ⟨[pb],Or.inr ⟨h1,rfl,h2,h3,h4.par⟩⟩}
 have hDPb: ∀b∈DP,b=pb/\W2.heap.size<=pb/\pb < W5.heap.size:=fun b hb=>by
  rcases hDP with ⟨_,rfl⟩ | ⟨_,rfl,h3,_,h5⟩
  {cases hb}
  {rw[List.mem_singleton] at hb; exact ⟨hb,h3,h5.lt⟩}
 have hap:=List.pairwise_append.1 h.ap;have hR:=h.rdy.step (W1:=W5) (DN:=DN) (DP:=DP) (q1:=⟨A',c',P',d'⟩) (pb:=pb) (qs:=qs) (fun b hb=>(hDlo b hb).1) hagD (fun n hn=>(h.nd n (by simp[hn])).1) (fun n hn=>hap.2.2 n hn a (by simp)) (by omega) hSa hsm
  (fun b hb k hk=>hcl b (hDlo b hb).1 (hDlo b hb).2 k hk) (fun b hb k=>hfz b (hDlo b hb).1 (hDlo b hb).2 k)
  (by
   rcases hDN with h1 | ⟨b,h1,h2,h3,_,h5⟩
   {exact Or.inl h1}
   · exact Or.inr ⟨b,h1,h2,h3,h5⟩)
  (by
   rcases hDP with h1 | ⟨h1,h2,h3,_,h5⟩
   {exact Or.inl h1}
   · exact Or.inr ⟨h1,h2,by omega,fun hm=>by have:=(hDNb pb hm).2; omega,h5⟩)
 -- the row of what is open
 obtain ⟨hO5,hv5⟩:Opn W5 v5 (L++kids pb a.t.parts qs)/\ ∀x,v5.ownBlock=some x->x=g\/W4.heap.size<=x/\x∉DP:=by
  rcases hp with ⟨h0,rfl,rfl⟩ | ⟨_,h2,_,hr⟩
  {have hk:kids pb a.t.parts qs= []:=List.eq_nil_of_length_eq_zero (by rw[Z0x]; exact h0);refine ⟨?_,fun x hx=>Or.inl (Option.some.inj (show some g=some x from hx)).symm⟩;rw[hk,List.append_nil];exact hO4}
  {have ho:=hr.opn;rw[List.take_of_length_le (by rw[Z0x]; exact Nat.le_refl _)] at ho;refine ⟨ho,fun x hx=> ?_⟩;rcases hr.row x hx with h3 | h3
   {exact Or.inl (Option.some.inj h3).symm}
   {refine Or.inr ⟨h3,fun hm=>hr.ne ?_⟩;rw[hx,(hDPb x hm).1]}}
 have hown5: ∀b,b≠g->b < W3.heap.size\/b∈DP->v5.ownBlock≠some b:=fun b h1 h2 e=>by
  rcases hv5 b e with h3 | ⟨h3,h4⟩
  {exact h1 h3}
  {rcases h2 with h2 | h2
   {omega}
   {exact h4 h2}}
 refine ⟨D++DN++DP,hO5,hR, ?_, ?_, ?_,hbel, ?_, ?_, ?_⟩
 {intro b hb;have hwW:=h.bel.size;rcases List.mem_append.1 hb with hb | hb
  {rcases List.mem_append.1 hb with hb | hb
   {obtain ⟨h1,h3⟩:=hDlo b hb;exact ⟨(h.lo b hb).1,by omega,hown5 b h3 (Or.inl (by omega))⟩}
   {have h1:=hDNb b hb;exact ⟨by omega,by omega,hown5 b (by omega) (Or.inl (by omega))⟩}}
  {obtain ⟨rfl,h2,h3⟩:=hDPb b hb;exact ⟨by omega,h3,hown5 b (by omega) (Or.inr hb)⟩}}
 {intro n hn;have hat: ∀ {q:Ptr} {t:Sh},ShAt W w.heap.size q t->ShAt W5 w.heap.size q t:=fun hx=>hx.of (Nat.le_refl _) (fun x k hx=>(hbel.cell (p:=⟨x,k,none⟩) hx).trans (h.bel.cell (p:=⟨x,k,none⟩) hx).symm);rcases List.mem_append.1 hn with hn | hn
  {obtain ⟨i1,i2,i3,i4,i5⟩:=h.nd n (by simp[hn]);obtain ⟨j1,j3⟩:=hDlo n.g i1;have hne:=hap.2.2 n hn a (by simp);have e: ∀c,c < 5->W5.cell? ⟨n.g,n.i * 5+c,none⟩=W.cell? ⟨n.g,n.i * 5+c,none⟩:=fun c hc=>hcl n.g j1 j3 _ (fun ⟨e1,e2⟩=>by
    have:=hne e1.symm;omega)
   obtain ⟨t0,t1,t2,t3,t4⟩:=i3;exact ⟨by simp[i1],i2,⟨(e 0 (by omega)).trans t0,(e 1 (by omega)).trans t1,(e 2 (by omega)).trans t2,(e 3 (by omega)).trans t3,(e 4 (by omega)).trans t4⟩,hat i4,fun k=>(hfz n.g j1 j3 k).trans (i5 k)⟩}
  {obtain ⟨i,hi,rfl⟩:=List.getElem_of_mem hn;have hil:i < a.t.parts.length:=by rwa [Z0x] at hi
   rw[Z1l];rcases hDP with ⟨h0,_⟩ | ⟨_,hd,h3,h4,h5⟩
   {omega}
   {refine ⟨by simp[hd], ?_,h5.at_ i hil,hat (h4 i hil),h5.fz⟩;have:=h.res.2.1.2.1;show pb≠r1;omega}}}
 {refine List.pairwise_append.2 ⟨hap.1,Z7Y _ _ _,fun n hn m hm e=> ?_⟩;have h1:=(hDlo n.g (h.nd n (by simp[hn])).1).1;have h2:=Z4M hm;rcases hDP with ⟨h0,_⟩ | ⟨_,_,h3,_⟩
  {have:kids pb a.t.parts qs= []:=List.eq_nil_of_length_eq_zero (by rw[Z0x]; exact h0);rw[this] at hm; cases hm}
  {omega}}
 {obtain ⟨h1,⟨j0,j1,j4⟩,h2,h3⟩:=h.res;have j3:r1≠g:=fun e=>j4 (by rw[e]; rfl);refine ⟨fun hm=> ?_,⟨j0,by omega,hown5 r1 j3 (Or.inl (by omega))⟩,fun c hc=> ?_,fun k=>(hfz r1 j1 j3 k).trans (h3 k)⟩
  {rcases List.mem_append.1 hm with hm | hm
   {rcases List.mem_append.1 hm with hm | hm
    {exact h1 hm}
    {have:=hDNb r1 hm; omega}}
   {have:=(hDPb r1 hm); omega}}
  obtain ⟨u,hu⟩:=h2 c hc;exact ⟨u,(hcl r1 j1 j3 c (fun ⟨e,_⟩=>har1 e)).trans hu⟩}
 {intro x hx;have hwW:=h.bel.size;rcases hv5 x hx with h3 | ⟨h3,_⟩
  {omega}
  {omega}}
 {exact ⟨by simp[h.rin.1],h.rin.2⟩}
theorem Z5Q {t:Sh} (h:right t=true) (hz:size t<=400):t.names.length<=400:=by
 have hp:=Z0P t.parts;rw[size_eq] at hz;rcases Z3J (Z1c h) with ⟨_,_,h,_⟩ | ⟨_,h,_⟩ | ⟨_,h,_⟩ | ⟨_,h,_⟩ | ⟨_,h,_⟩
 {rw[h]; simp}
 {rw[h]; simp}
 {omega}
 {rw[h]; simp}
 {rw[h]; simp}
def cW (w:World) (t:Sh) (q:Ptr):World:=
 ((w.alloc (.cells (Y8 t q) 25)).alloc (.cells Yb 25)).alloc (.cells #[.func (.func 46) #[] #[],.int .i64 0] 70)
section
variable (w : World) (t : Sh) (q : Ptr)
include w t q
theorem Z4T:Below w.heap.size w (cW w t q):=Z06 (Z06 (Z01 _ _) _) _
theorem Z9H:CntH (cW w t q) (w.heap.size+1+1) 0 (.func (.func 46) #[] #[]):=by
 unfold cW;exact ⟨by simp,by simp[go_sem],by simp[go_sem],by simp[go_sem]⟩
theorem Z4U:Sh5 (cW w t q) w.heap.size 0 t q/\ ∀k,(cW w t q).frozen? ⟨w.heap.size,k,none⟩=false:=by
 unfold cW;refine ⟨⟨?_, ?_, ?_, ?_, ?_⟩,fun k=> ?_⟩ <;> simp[go_sem]
theorem Z80: (∀c,c < 5-> ∃u,(cW w t q).cell? ⟨w.heap.size+1,c,none⟩=some u)/\ ∀k,(cW w t q).frozen? ⟨w.heap.size+1,k,none⟩=false:=by
 unfold cW;refine ⟨fun c hc=> ?_,fun k=>by simp[go_sem]⟩
 match c,hc with
 | 0,_=>exact ⟨_,by simp[go_sem]; rfl⟩
 | 1,_=>exact ⟨_,by simp[go_sem]; rfl⟩
 | 2,_=>exact ⟨_,by simp[go_sem]; rfl⟩
 | 3,_=>exact ⟨_,by simp[go_sem]; rfl⟩
 | 4,_=>exact ⟨_,by simp[go_sem]; rfl⟩
end
theorem Z9W (w W1:World) (t:Sh) (q:Ptr) (hq:ShAt w w.heap.size q t) (hu:UpH (w.heap.size+1+1) (cW w t q) W1):
 Cst w (W1.alloc (.cells #[.pointer (some ⟨w.heap.size,0,none⟩)] 42)) w.heap.size (w.heap.size+1) t (.slice (some ⟨W1.heap.size,0,none⟩) 1 1) [⟨w.heap.size,0,t,q⟩] [w.heap.size]:=by
 have hsz: (cW w t q).heap.size=w.heap.size+3:=by simp[cW]
 have hs1:W1.heap.size=w.heap.size+3:=hu.size.trans hsz;have hb0:=Z01 W1 (.cells #[.pointer (some ⟨w.heap.size,0,none⟩)] 42);have hb:Below w.heap.size w W1:=(Z4T w t q).trans (hu.toBelow (by omega));have hb2:Below w.heap.size w (W1.alloc (.cells #[.pointer (some ⟨w.heap.size,0,none⟩)] 42)):=Z00 hb hb0;have hz2: (W1.alloc (.cells #[.pointer (some ⟨w.heap.size,0,none⟩)] 42)).heap.size=w.heap.size+4:=by simp; omega
 have hcell: ∀g k,g < w.heap.size+2->(W1.alloc (.cells #[.pointer (some ⟨w.heap.size,0,none⟩)] 42)).cell? ⟨g,k,none⟩=(cW w t q).cell? ⟨g,k,none⟩:=fun g k hg=>(hb0.cell (p:=⟨g,k,none⟩) (by show g < W1.heap.size; omega)).trans (hu.cell (by omega));have hfz: ∀g k,g < w.heap.size+2->(W1.alloc (.cells #[.pointer (some ⟨w.heap.size,0,none⟩)] 42)).frozen? ⟨g,k,none⟩=(cW w t q).frozen? ⟨g,k,none⟩:=fun g k hg=>(hb0.frozen (p:=⟨g,k,none⟩) (by show g < W1.heap.size; omega)).trans (hu.frozen (by omega));refine ⟨?_,Z5B _ _ _ _ _, ?_, ?_,by simp,hb2,⟨by simp,⟨by omega,by omega,fun e=> ?_⟩, ?_, ?_⟩, ?_,⟨by simp,by omega⟩⟩
 {refine ⟨by simp,Or.inr ⟨W1.heap.size,1, #[.pointer (some ⟨w.heap.size,0,none⟩)],rfl,Nat.zero_le _,heap_alloc_new _ _,Nat.le_refl _,by decide,rfl,rfl⟩⟩}
 {intro b hb';simp only[List.mem_cons,List.not_mem_nil,or_false] at hb';subst hb';exact ⟨by omega,by omega,fun e=>by have:W1.heap.size=w.heap.size:=Option.some.inj e; omega⟩}
 {intro n hn;simp only[List.mem_cons,List.not_mem_nil,or_false] at hn;subst hn;refine ⟨by simp,by show w.heap.size≠w.heap.size+1; omega, ?_,hq.keep hb2 (Nat.le_refl _),fun k=>(hfz _ k (by simp)).trans ((Z4U w t q).2 k)⟩;have h5:=(Z4U w t q).1;simp only[Nat.zero_mul];exact h5.of (fun k=>hcell _ k (by omega))}
 {have:W1.heap.size=w.heap.size+1:=Option.some.inj e;omega}
 {intro c hc;obtain ⟨u,hu'⟩:=(Z80 w t q).1 c hc;exact ⟨u,(hcell _ c (by omega)).trans hu'⟩}
 {exact fun k=>(hfz _ k (by omega)).trans ((Z80 w t q).2 k)}
 {intro g e;have:W1.heap.size=g:=Option.some.inj e;omega}
theorem Z5R (t:Sh) (q:Ptr) (w:World) (hq:ShAt w w.heap.size q t) (hz:size t<=400) (hr:right t=true):
 Calls Tryd.prog 47 #[.agg (Y8 t q),.func (.func 46) #[] #[],.func (.func 48) #[] #[]] w fun e w'=> ∃q' F,e= .returned (.agg (Y8 t q'))/\Own w' q' t F/\F.Nodup/\(∀b∈F,w.heap.size<=b)/\Below w.heap.size w w':=by
 have hde:=Z13 t;have hcb:=Z4U w t q;have hm:=Z6U t q w.heap.size 0 w.heap.size (w.heap.size+1+1) 0 1 (cW w t q) hcb.1 (by omega) (hq.keep (Z4T w t q) (Nat.le_refl _)) (by omega) (Z9H w t q) (by omega) (by omega);rw[show (((1:Nat)):Int)=(1:Int) from rfl] at hm;have HM:=Y1 hm;have HST:=Y1 (fun W1 (hu:UpH (w.heap.size+1+1) (cW w t q) W1)=>Z9W w W1 t q hq hu);have L1:=fun (g o:Nat) (W:World)=>Z3H g o W;clear hq hm hcb hde;go_enter Tryd.func47,Tryd.ntmps47
 go_wp2_with fail
 change Calls _ _ _ (cW w t q) _;refine HM.out.mono ?_;rintro e W1 ⟨rfl,hu1,_⟩;have HS1:=Y1 (HST.out W1 hu1);clear HM HST hu1
 go_wp2_with fail
 go_loopg [9] (size t) (fun k s9 wr=> ∃L D,sumL L<=k/\sumL L<=400/\(∀n∈L,right n.t=true)/\Hid (Cst w wr w.heap.size (w.heap.size+1) t s9 L D))
 case atStart=>exact ⟨_,_,by simp[sumL],by simp[sumL]; omega,fun n hn=>by simp only[List.mem_cons,List.not_mem_nil,or_false] at hn; subst hn; exact hr,HS1⟩
 case round=>
  obtain ⟨L,D,hk,h400,hri,HC⟩:=hrel;clear HS1;rcases List.eq_nil_or_concat L with rfl | ⟨L',a,rfl⟩
  {obtain ⟨F,⟨q',hS,hO⟩,hnd,hFD⟩:=Z6Q HC.out.rdy;obtain ⟨A,cp,rfl⟩:=HC.out.opn.empty;obtain ⟨p0,p1,p2,p3,p4⟩:=hS;simp only[Nat.zero_mul,Nat.zero_add] at p0 p1 p2 p3 p4;obtain ⟨r1D,⟨_,_,_⟩,rcs,rfz⟩:=HC.out.res;obtain ⟨e0,r0⟩:=rcs 0 (by omega);obtain ⟨e1,r1⟩:=rcs 1 (by omega);obtain ⟨e2,r2⟩:=rcs 2 (by omega);obtain ⟨e3,r3⟩:=rcs 3 (by omega);obtain ⟨e4,r4⟩:=rcs 4 (by omega);have z0:=rfz 0;have z1:=rfz 1;have z2:=rfz 2;have z3:=rfz 3;have z4:=rfz 4;have HO:=Y1 hO;have HND:=Y1 hnd;have HFD:=Y1 (fun b hb=>(HC.out.lo b (hFD b hb)).1);have HNE:=Y1 (fun b hb (e:w.heap.size+1=b)=>r1D (by rw[e]; exact hFD b hb));have HBL:=Y1 HC.out.bel;clear hO hnd hFD rcs rfz r1D hri;go_wp2;refine bodyPost_ret (v:= .agg (Y8 t q')) (by simp[results,Tryd.results47,go_sem,r0,r1,r2,r3,r4]) rfl ?_;refine ⟨q',F,rfl,HO.out.of (fun b hb=> ?_) (by simp[World.setCell]),HND.out,HFD.out, ?_⟩
   {have hne:=HNE.out b hb;exact ((((Z0d _ ⟨w.heap.size+1,0,none⟩ _ hne).trans (Z0d _ ⟨w.heap.size+1,1,none⟩ _ hne)).trans (Z0d _ ⟨w.heap.size+1,2,none⟩ _ hne)).trans (Z0d _ ⟨w.heap.size+1,3,none⟩ _ hne)).trans (Z0d _ ⟨w.heap.size+1,4,none⟩ _ hne)}
   {exact ((((HBL.out.setCell (p:=⟨w.heap.size+1,0,none⟩) (Nat.le_succ _) _).setCell (p:=⟨w.heap.size+1,1,none⟩) (Nat.le_succ _) _).setCell (p:=⟨w.heap.size+1,2,none⟩) (Nat.le_succ _) _).setCell (p:=⟨w.heap.size+1,3,none⟩) (Nat.le_succ _) _).setCell (p:=⟨w.heap.size+1,4,none⟩) (Nat.le_succ _) _}}
  {rw[List.concat_eq_append] at hk h400 HC hri;obtain ⟨g,cap,rfl,hcap,hcl,hgW⟩:=HC.out.opn.last;obtain ⟨hagD,har1,hS5,hat,hfr⟩:=HC.out.nd a (by simp);obtain ⟨hlo1,hlo2,hlo4⟩:=HC.out.lo a.g hagD;obtain ⟨W,hW⟩: ∃W,W=wr:=⟨wr,rfl⟩;subst hW;have hi1: (0:Int) < ((L'.length+1:Nat):Int):=by omega
   have hL4:L'.length<=400:=by
    have:=Z8X L';rw[Z0t] at h400;omega
   have hag:a.g≠g:=fun e=>hlo4 (by rw[e]; rfl);unfold ndP at hcl;obtain ⟨p0,p1,p2,p3,p4⟩:=hS5;have hsm:=hat.small;have ha4:size a.t<=400:=by rw[Z0t] at h400; simp[sumL] at h400; omega
   have har:=hri a (by simp);have hnm:a.t.names.length<=1000000000:=by have:=Z5Q har ha4; omega
   have hsz:=HC.out.bel.size;have HOWN:=Y1 (Z7X a.g (a.i * 5) a.q.A a.q.c a.t.names W hlo2 p3 (hfr _) (hat.strs.more hsz) hnm hsm.c hsm.A0);have HRI:=Y1 hri;have HAT:=Y1 hat;have HSM:=Y1 hsm;have LA:=fun (W:World)=>L1 a.g (a.i * 5) W;clear hri hat hsm p0 p1 p2 p3
   go_wp2_with fail
   refine HOWN.out.mono ?_;rintro e w3 ⟨rfl,A',c',W2,hb2,htx,rfl⟩;have x4: (W2.setCell ⟨a.g,a.i * 5+3,none⟩ (.slice A' a.t.names.length c')).cell? ⟨a.g,a.i * 5+4,none⟩=some (.slice a.q.P a.t.parts.length a.q.d):=
    (World.cell?_setCell_other _ _ _ _ (fun e=>by have:=congrArg Addr.off e; simp at this)).trans ((hb2.cell (p:=⟨a.g,a.i * 5+4,none⟩) hlo2).trans p4)
   have f4: (W2.setCell ⟨a.g,a.i * 5+3,none⟩ (.slice A' a.t.names.length c')).frozen? ⟨a.g,a.i * 5+4,none⟩=false:=by
    rw[World.frozen?_setCell]; exact (hb2.frozen (p:=⟨a.g,a.i * 5+4,none⟩) hlo2).trans (hfr _)
   have hz2:W.heap.size<=W2.heap.size:=hb2.size;have hz3: (W2.setCell ⟨a.g,a.i * 5+3,none⟩ (.slice A' a.t.names.length c')).heap.size=W2.heap.size:=Z1R _ _ _;have hag3:a.g < (W2.setCell ⟨a.g,a.i * 5+3,none⟩ (.slice A' a.t.names.length c')).heap.size:=by omega
   have hbw3:Below w.heap.size w (W2.setCell ⟨a.g,a.i * 5+3,none⟩ (.slice A' a.t.names.length c')):=(HC.out.bel.trans (hb2.mono hsz)).setCell hlo1 _;have HB2:=Y1 hb2;have HTX:=Y1 htx;clear hb2 htx p4 HOWN hcl;by_cases hpz:a.t.parts.length=0
   {have hrn:=Z6V a.g (a.i * 5+4) a.q.P a.q.d (W2.setCell ⟨a.g,a.i * 5+3,none⟩ (.slice A' a.t.names.length c')) hag3 (by rw[x4,hpz]) f4 HSM.out.P0;have HRN:=Y1 hrn;clear hrn x4 f4 hbw3 hag3 hz3
    go_wp2_with fail
    refine (LA _).mono ?_;rintro e w4 ⟨rfl,rfl⟩
    go_wp2_with fail
    refine HRN.out.mono ?_;rintro e w5 ⟨rfl,P',d',W3',hb3,hP0,rfl⟩;have HST:=Y1 (HC.out.step (P':=P') (d':=d') (pb:=0) (qs:=fun _=>a.q) HB2.out HTX.out hb3 (by omega) hP0 (Or.inl ⟨hpz,by rw[hpz],rfl⟩));have hk0:kids 0 a.t.parts (fun _=>a.q)= []:=List.eq_nil_of_length_eq_zero (by rw[Z0x]; exact hpz);rw[hk0,List.append_nil] at HST;clear hk0 hb3 hP0 HRN;go_wp2
    go_roundg (sumL L')
    case measure=>rw[Z0t] at hk; have:=Z1I a.t; simp[sumL] at hk ⊢; omega
    case rel=>
     obtain ⟨D5,h5⟩:=HST.out;exact ⟨L',D5,Nat.le_refl _,by rw[Z0t] at h400; omega,fun n hn=>HRI.out n (by simp[hn]),Y1 h5⟩}
   {have hpos:0 < a.t.parts.length:=by omega
    rcases HAT.out.part with h0 | ⟨g',off,qs,hqP,hg',hcc,hrr⟩
    {omega}
    {have hpl:a.t.parts.length<=1000000000:=by have:=Z0P a.t.parts; rw[size_eq] at ha4; omega
     have hrn:=Z6W a.g (a.i * 5+4) g' off a.q.d a.t.parts qs (W2.setCell ⟨a.g,a.i * 5+3,none⟩ (.slice A' a.t.names.length c')) hag3 (by rw[x4,hqP]) f4 (by omega) (fun i hi=>(hcc i hi).of (fun k=>(hbw3.cell (p:=⟨g',k,none⟩) hg').trans (HC.out.bel.cell (p:=⟨g',k,none⟩) hg').symm)) hpl hpos;have HRN:=Y1 hrn;have HRR:=Y1 hrr;clear hrn hcc hrr hqP x4 f4 hbw3
     go_wp2_with fail
     refine (LA _).mono ?_;rintro e w4 ⟨rfl,rfl⟩
     go_wp2_with fail
     refine HRN.out.mono ?_;rintro e w5 ⟨rfl,pb,d',W3',hb3,hd1,hpb,hpar,rfl⟩;have hz4:=hb3.size;have hagz:a.g < W3'.heap.size:=by omega
     have hoc: ∃u,W3'.cell? ⟨a.g,a.i * 5+4,none⟩=some u:=⟨_,(hb3.cell (p:=⟨a.g,a.i * 5+4,none⟩) hag3).trans ((World.cell?_setCell_other _ _ _ _ (fun e=>by have:=congrArg Addr.off e; simp at this)).trans ((HB2.out.cell (p:=⟨a.g,a.i * 5+4,none⟩) hlo2).trans (HC.out.nd a (by simp)).2.2.1.2.2.2.2))⟩;obtain ⟨u0,hu0⟩:=hoc;have c4: (W3'.setCell ⟨a.g,a.i * 5+4,none⟩ (.slice (some ⟨pb,0,none⟩) a.t.parts.length d')).cell? ⟨a.g,a.i * 5+4,none⟩=some (.slice (some ⟨pb,0,none⟩) a.t.parts.length d'):=World.cell?_setCell_same _ _ _ hu0;have hz5: (W3'.setCell ⟨a.g,a.i * 5+4,none⟩ (.slice (some ⟨pb,0,none⟩) a.t.parts.length d')).heap.size=W3'.heap.size:=Z1R _ _ _;have hO4:Opn (W3'.setCell ⟨a.g,a.i * 5+4,none⟩ (.slice (some ⟨pb,0,none⟩) a.t.parts.length d')) (.slice (some ⟨g,0,none⟩) L'.length cap) L':=
      (((HC.out.opn.pop.below HB2.out).set (fun e=>hag (Option.some.inj e).symm) _).below hb3).set (fun e=>hag (Option.some.inj e).symm) _
     have hpbl:=hpar.lt;have hpag:pb≠a.g:=by omega
     have hR0:=Rnd7.start hO4 (fun e=>by have:g=pb:=Option.some.inj e; omega) (hpar.of (Z0d W3' ⟨a.g,a.i * 5+4,none⟩ (.slice (some ⟨pb,0,none⟩) a.t.parts.length d') (Ne.symm hpag)) (by omega));have HR0:=Y1 hR0;have HSTEP:=Y1 (fun (W5:World) (v5:Value) (hr:Rnd7 (W3'.setCell ⟨a.g,a.i * 5+4,none⟩ (.slice (some ⟨pb,0,none⟩) a.t.parts.length d')) W5 (.slice (some ⟨g,0,none⟩) L'.length cap) v5 pb a.t.parts qs L' a.t.parts.length)=>HC.out.step (P':=some ⟨pb,0,none⟩) (d':=d') (pb:=pb) (qs:=qs) HB2.out HTX.out hb3 hd1 nofun (Or.inr ⟨rfl,by omega,HRR.out,hr⟩));obtain ⟨W4,hW4⟩: ∃W4,W4=W3'.setCell ⟨a.g,a.i * 5+4,none⟩ (.slice (some ⟨pb,0,none⟩) a.t.parts.length d'):=⟨_,rfl⟩;rw[<-hW4] at c4 hz5 HR0 HSTEP ⊢;have hpw:pb < W4.heap.size:=by omega
     have hag4:a.g < W4.heap.size:=by omega
     clear hW4 hb3 hpb hpar hR0 hO4 hu0 hpbl HRN hz3 hag3 hz4 hagz
     go_wp2_with fail
     go_loopw [9,47] (fun s9 ii wr=> ∃i:Nat,ii= .int .i64 i/\i<=a.t.parts.length/\Hid (Rnd7 W4 wr (.slice (some ⟨g,0,none⟩) L'.length cap) s9 pb a.t.parts qs L' i)) (fun _ i _=>a.t.parts.length - (intOf i).toNat)
     case atStart=>exact ⟨0,rfl,Nat.zero_le _,HR0⟩
     case round=>
      obtain ⟨i,rfl,hi,HR⟩:=hrel;by_cases hlt:i < a.t.parts.length
      {have hi1: (i:Int) < (a.t.parts.length:Int):=by omega
       have k4:=(HR.out.up.same hag4 (fun e=>hag (Option.some.inj e).symm)).1 (a.i * 5+4);rw[c4] at k4;obtain ⟨i0,hi2,hz0,hz1,hz2⟩:=info_parts (P:=Tryd.prog) (e:=42) (z:= .pointer none) (size:=1) (bytes:=8) Z7W;have hlen: (L'++(kids pb a.t.parts qs).take i).length=L'.length+i:=by rw[List.length_append,List.length_take,Z0x]; omega
       have hown:=HR.out.opn;unfold Opn at hown;rw[hlen] at hown;have HOW:=Y1 hown;clear hown hlen
       go_wp2_with (at_builtin; refine wpList_append_lies _ rfl _ _ 72 rfl 0 42 i0 (.pointer none) 1 8 Tryd.underlying72 hi2 hz0 hz1 hz2 rfl (by decide) _ _ _ rfl (HOW.out.alloc _) ⟨wr.heap.size,0,none⟩ 1 1 [.pointer (some ⟨pb,i * 5,none⟩)] rfl rfl (World.news_of_block (cs:=#[.pointer (some ⟨pb,i * 5,none⟩)]) (t:=42) (fr:=(0,0)) (heap_alloc_new _ _)) (by simp[Value.oneCell']) (by decide) (by unfold maxLen; omega) (by omega) (by simp) _ rfl ?_)
       intro g1 cap1 w5 hown1 hgrow hat1 hlt1;have HN:=Y1 (HR.out.step hlt hpw hgrow (by simpa[List.map_append,List.append_assoc,List.map_take] using hown1) (by simpa using hat1));clear hown1 hgrow hat1 k4
       go_wp2_with fail
       exact ⟨⟨i+1,by go_num,by omega,HN⟩,by simp[intOf]; omega⟩}
      {have hie:i=a.t.parts.length:=by omega
       have HN:=Y1 (HSTEP.out wr _ (by have:=HR.out; rwa [hie] at this));have hi1: ¬(i:Int) < (a.t.parts.length:Int):=by omega
       clear hie HR HSTEP HR0;go_wp2
       go_roundg (sumL (L'++kids pb a.t.parts qs))
       case measure=>
        rw[Z0t,Z4g];rw[Z0t] at hk;have:=size_eq a.t;simp[sumL] at hk ⊢;omega
       case rel=>
        obtain ⟨D5,h5⟩:=HN.out;refine ⟨L'++kids pb a.t.parts qs,D5,Nat.le_refl _, ?_,fun n hn=> ?_,Y1 h5⟩
        {rw[Z0t,Z4g];rw[Z0t] at h400;have:=size_eq a.t;simp[sumL] at h400 ⊢;omega}
        {rcases List.mem_append.1 hn with hn | hn
         {exact HRI.out n (by simp[hn])}
         {obtain ⟨i,hi,rfl⟩:=List.getElem_of_mem hn;rw[Z1l];exact Z05 har (List.getElem_mem _)}}}}}}
def noneQ:Ptr:=⟨none,0,none,0⟩
def sW (w:World) (t:Sh) (q:Ptr):World:=(w.alloc (.cells (Y8 t q) 25)).alloc (.cells Yb 25)
section
variable (w : World) (t : Sh) (q : Ptr)
include w t q
theorem Z2r:Below w.heap.size w (sW w t q):=Z06 (Z01 _ _) _
theorem Z9I:Box5 (sW w t q) w.heap.size t q:=(Z03 w t q).next (Z01 _ _)
theorem Z81:Box5 (sW w t q) (w.heap.size+1) Z6R noneQ:=by
 have h:=Z03 (w.alloc (.cells (Y8 t q) 25)) Z6R noneQ;have e: (w.alloc (.cells (Y8 t q) 25)).heap.size=w.heap.size+1:=by simp
 rw[e] at h;exact h
end
def put5 (W:World) (b:Nat) (a0 a1 a2 a3 a4:Value):World:=((((W.setCell ⟨b,0,none⟩ a0).setCell ⟨b,1,none⟩ a1).setCell ⟨b,2,none⟩ a2).setCell ⟨b,3,none⟩ a3).setCell ⟨b,4,none⟩ a4
theorem Z2s {W:World} {q:Ptr} {t:Sh} {F:List Nat} (h:Own W q t F) {b:Nat} (hb: ∀x∈F,b≠x) (a0 a1 a2 a3 a4:Value):Own (put5 W b a0 a1 a2 a3 a4) q t F:=
 h.of (fun x hx=>((((Z0d _ ⟨b,0,none⟩ a0 (hb x hx)).trans (Z0d _ ⟨b,1,none⟩ a1 (hb x hx))).trans (Z0d _ ⟨b,2,none⟩ a2 (hb x hx))).trans (Z0d _ ⟨b,3,none⟩ a3 (hb x hx))).trans (Z0d _ ⟨b,4,none⟩ a4 (hb x hx))) (by simp[put5,World.setCell])
theorem Z0I {B:Nat} {a W:World} (h:Below B a W) {b:Nat} (hb:B<=b) (a0 a1 a2 a3 a4:Value):Below B a (put5 W b a0 a1 a2 a3 a4):=
 ((((h.setCell (p:=⟨b,0,none⟩) hb _).setCell (p:=⟨b,1,none⟩) hb _).setCell (p:=⟨b,2,none⟩) hb _).setCell (p:=⟨b,3,none⟩) hb _).setCell (p:=⟨b,4,none⟩) hb _
theorem Z3b (t:Sh) (q:Ptr) (w:World) (hq:ShAt w w.heap.size q t) (hz:size t<=400) (hr:right t=true):
 Calls Tryd.prog 25 #[.agg (Y8 t q)] w fun e w'=> ∃q' F,e= .returned (.agg (Y8 t q'))/\Own w' q' t F/\F.Nodup/\(∀b∈F,w.heap.size<=b)/\Below w.heap.size w w':=by
 have HS:=Y1 (Z2r w t q);have HE:=Y1 (Z81 w t q);have HZ:=Y1 (show (sW w t q).heap.size=w.heap.size+2 from by simp[sW]);have HCP:=Y1 (Z5R t q (sW w t q) (hq.next (Z2r w t q)) hz hr);obtain ⟨_,⟨c0,c1,c2,c3,c4⟩,_⟩:=Z03 w t q;clear hq hr;go_enter Tryd.func25,Tryd.ntmps25
 go_wp2_with fail
 clear c0 c1 c2 c3 c4;change Calls _ _ _ (sW w t q) _;generalize sW w t q=W at HS HE HCP HZ ⊢;refine HCP.out.mono ?_;rintro e w1 ⟨q',F,rfl,ho,hnd,hF,hb1⟩;have HO:=Y1 ho;have HND:=Y1 hnd;have HF:=Y1 (fun b hb=>show w.heap.size+2<=b from by have:=hF b hb; have:=HZ.out; omega);have HS1:=Y1 (Z00 HS.out hb1);have HE1:=Y1 (HE.out.next hb1);clear ho hnd hF hb1 HCP;obtain ⟨_,⟨r0,r1,r2,r3,r4⟩,f0,f1,f2,f3,f4⟩:=HE1.out;simp only[Nat.zero_add] at r0 r1 r2 r3 r4;go_wp2;refine bodyPost_ret (v:= .agg (Y8 t q')) (by simp[results,Tryd.results25,go_sem,r0,r1,r2,r3,r4]) rfl ?_;exact ⟨q',F,rfl,Z2s HO.out (fun x hx e=>by have:=HF.out x hx; omega) _ _ _ _ _,HND.out,fun b hb=>by have:=HF.out b hb; omega,Z0I HS1.out (by omega) _ _ _ _ _⟩
end
section
open Go.RowKit Go.Sort
def Kpt (B:Nat) (w w':World):Prop:=w.heap.size<=w'.heap.size/\ ∀b,B<=b->b < w.heap.size->w'.heap[b]? =w.heap[b]?
theorem Kpt.next {B:Nat} {a b c:World} (h:Kpt B a b) (k:Kpt B b c):Kpt B a c:=⟨Nat.le_trans h.1 k.1,fun x h1 h2=>(k.2 x h1 (Nat.lt_of_lt_of_le h2 h.1)).trans (h.2 x h1 h2)⟩
structure Srt {α:Type} [Inhabited α] (N B:Nat) (rv:Value) (lt:α->α->Bool) (St:Array α->World->Prop):Prop where
 less: ∀d w (i j:Int),St d w->0<=i->i < N->0<=j->j < N->Calls Tryd.prog 123 #[rv,.int .i64 i,.int .i64 j] w fun e w'=>e= .returned (.bool (lt d[i.toNat]! d[j.toNat]!))/\St d w'/\Kpt B w w'
 swap: ∀d w (i j:Int),St d w->0<=i->i < N->0<=j->j < N->Calls Tryd.prog 124 #[rv,.int .i64 i,.int .i64 j] w fun e w'=>e= .returned (.tuple #[])/\St (swp d i.toNat j.toNat) w'/\Kpt B w w'
 size: ∀d w,St d w->d.size=N
 big:N < 1000000
 base: ∀d w,St d w->B<=w.heap.size
 keep: ∀d w w',St d w->Below B w w'->St d w'
 mL: ∀w,Sem.run Tryd.prog (method (Tryd.prog.types.size+100) 57 rv "Less") w= .ok (123,rv) w
 mS: ∀w,Sem.run Tryd.prog (method (Tryd.prog.types.size+100) 57 rv "Swap") w= .ok (124,rv) w
variable {α : Type} [Inhabited α] {N B : Nat} {rv : Value} {lt : α -> α -> Bool} {St : Array α -> World -> Prop}
section
variable (H : Srt N B rv lt St) {d : Array α} {w : World} (h : St d w) (i j : Nat) {x y : Int}
include H d w h i j x y
theorem Srt.lessAt {v:Bool} (hv:lt d[i]! d[j]! =v) (hi:i < N) (hj:j < N) (hx:x=i) (hy:y=j):
 Calls Tryd.prog 123 #[rv,.int .i64 x,.int .i64 y] w fun e w'=>e= .returned (.bool v)/\St d w'/\Kpt B w w':=by
 subst hx; subst hy; subst hv;exact H.less d w i j h (by omega) (by omega) (by omega) (by omega)
theorem Srt.swapAt (hi:i < N) (hj:j < N) (hx:x=i) (hy:y=j):
 Calls Tryd.prog 124 #[rv,.int .i64 x,.int .i64 y] w fun e w'=>e= .returned (.tuple #[])/\St (swp d i j) w'/\Kpt B w w':=by
 subst hx; subst hy;exact H.swap d w i j h (by omega) (by omega) (by omega) (by omega)
end
theorem Z82 (H:Srt N B rv lt St) (a b:Nat) (d:Array α) (w:World) (hH:St d w) (hab:a<=b) (hb:b<=N):
 Calls Tryd.prog 82 #[.iface 57 rv,.int .i64 a,.int .i64 b] w fun e w'=>e= .returned (.tuple #[])/\St (Sort.insertionSort lt d a b) w':=by
 have mL:=H.mL;have mS:=H.mS;have hbig:=H.big;have hsz:=H.size d w hH;go_enter Tryd.func82,Tryd.ntmps82;go_wp2
 go_loopw [6] (fun vi wr=> ∃(i:Nat) (dk:Array α),vi= .int .i64 i/\a < i/\i<=b+1/\St dk wr/\insOuter lt a b i dk=insOuter lt a b (a+1) d) (fun vi _=>b+1 - (intOf vi).toNat)
 case atStart=>exact ⟨a+1,d,by go_num,by omega,by omega,hH,rfl⟩
 case round=>
  obtain ⟨i,dk,rfl,hai,hib,hwr,hO⟩:=hrel;have HO:Hid (insOuter lt a b i dk=insOuter lt a b (a+1) d):=hO;clear hO;go_wp2
  {go_loopw [7] (fun vj wr2=> ∃(j:Nat) (dj:Array α),vj= .int .i64 j/\a<=j/\j<=i/\St dj wr2/\insInner lt a j dj=insInner lt a i dk) (fun vj _=>(intOf vj).toNat)
   case atStart=>exact ⟨i,dk,rfl,by omega,Nat.le_refl _,hwr,rfl⟩
   case round=>
    obtain ⟨j,dj,rfl,haj,hji,hw2,hI⟩:=hrel;have hlt:i < b:=by assumption
    have HI:Hid (insInner lt a j dj=insInner lt a i dk):=hI;clear hI hwr;have out: (j<=a\/lt dj[j]! dj[j - 1]! =false)-> ∀w2,St dj w2-> ∃i' dk',Value.int .i64 ((i:Int)+1)= .int .i64 (i':Nat)/\a < i'/\i'<=b+1/\St dk' w2/\insOuter lt a b i' dk'=insOuter lt a b (a+1) d:=fun hs w2 h2=>
     ⟨i+1,dj,by go_num,by omega,by omega,h2,by rw[<-HO.out,insOuter_go _ _ _ _ _ hlt, <-HI.out,insInner_stop _ _ _ _ hs]⟩
    have OUT:Hid _:=out;clear out;by_cases hja:a < j
    {cases hlv:lt dj[j]! dj[j - 1]! with
     | true=>
      go_wp2_with fail
      refine (H.less dj _ _ _ hw2 (by omega) (by omega) (by omega) (by omega)).mono ?_;rintro e w' ⟨rfl,hS, -⟩;rw[show ((j:Int)).toNat=j by omega,show ((j:Int) - 1).toNat=j - 1 by omega,hlv]
      go_wp2_with fail
      refine (H.swap dj _ _ _ hS (by omega) (by omega) (by omega) (by omega)).mono ?_;rintro e w2 ⟨rfl,hS2, -⟩;rw[show ((j:Int)).toNat=j by omega,show ((j:Int) - 1).toNat=j - 1 by omega] at hS2
      go_wp2_with fail
      go_roundw
      case rel=>
       (repeat apply Exists.intro)
       exact ⟨⟨j - 1,swp dj j (j - 1),by congr 1 <;> omega,by omega,by omega,hS2,by rw[<-HI.out,insInner_go lt a j dj hja hlv]⟩,by rw[decide_eq_true hlt,show ((j - 1:Nat):Int)=(j:Int) - 1 by omega]⟩
      case measure=>simp[intOf]; omega
     | false=>
      go_wp2_with fail
      refine (H.less dj _ _ _ hw2 (by omega) (by omega) (by omega) (by omega)).mono ?_;rintro e w' ⟨rfl,hS, -⟩;rw[show ((j:Int)).toNat=j by omega,show ((j:Int) - 1).toNat=j - 1 by omega,hlv]
      go_wp2_with fail
      go_roundw
      case rel=>exact OUT.out (Or.inr hlv) _ hS
      case measure=>simp[intOf]; omega}
    {go_wp2
     go_roundw
     case rel=>exact OUT.out (Or.inl (by omega)) _ hw2
     case measure=>simp[intOf]; omega}}
  {have hge: ¬i < b:=by assumption
   go_end0
   exact ⟨rfl,by unfold Sort.insertionSort; rw[<-HO.out,insOuter_stop _ _ _ _ _ hge]; exact hwr⟩}
end
section
open Go.RowKit Go.Sort
variable {α : Type} [Inhabited α] {N B : Nat} {rv : Value} {lt : α -> α -> Bool} {St : Array α -> World -> Prop}
section
variable (H : Srt N B rv lt St)
include H
theorem Z3K (lo hi first:Nat) (d:Array α) (w:World) (hH:St d w) (hlo:lo<=hi) (hb:first+hi<=N):
 Calls Tryd.prog 95 #[.iface 57 rv,.int .i64 lo,.int .i64 hi,.int .i64 first] w fun e w'=>e= .returned (.tuple #[])/\St (siftDown lt hi first lo d) w':=by
 have mL:=H.mL;have mS:=H.mS;have hbig:=H.big;go_enter Tryd.func95,Tryd.ntmps95;go_wp2
 go_loopg [8] (hi - lo) (fun kx s8 wr=> ∃(root:Nat) (dk:Array α),s8= .int .i64 root/\root<=hi/\hi - root<=kx/\St dk wr/\Hid (siftDown lt hi first root dk=siftDown lt hi first lo d))
 case atStart=>exact ⟨lo,d,rfl,hlo,Nat.le_refl _,hH,rfl⟩
 case round=>
  obtain ⟨root,dk,rfl,hr,hkx,hS,HE⟩:=hrel;clear hH;by_cases h0:hi<=2 * root+1
  {have h0z: (hi:Int)<=2 * (root:Int)+1:=by omega
   go_wp2
   go_end0
   exact ⟨rfl,by rw[<-HE.out,sd_end lt dk h0]; exact hS⟩}
  {have h0z: ¬((hi:Int)<=2 * (root:Int)+1):=by omega
   go_upto_region 3 with fail
   go_cut [31] (fun p wx=> ∃v:Bool,p= .bool v/\St dk wx/\Hid (v=true->2 * root+2 < hi/\lt dk[first+(2 * root+1)]! dk[first+(2 * root+2)]! =true)/\Hid (v=false->2 * root+2 < hi->lt dk[first+(2 * root+1)]! dk[first+(2 * root+2)]! =false))
   case first=>
    clear HE;by_cases h1:2 * root+2 < hi
    {have h1z:2 * (root:Int)+1+1 < (hi:Int):=by omega
     cases hL:lt dk[first+(2 * root+1)]! dk[first+(2 * root+2)]! <;>
     {go_wp2_with fail
      refine (H.lessAt hS (first+(2 * root+1)) (first+(2 * root+2)) hL (by omega) (by omega) (by omega) (by omega)).mono ?_;rintro e w1 ⟨rfl,hS1, -⟩
      go_wp2_with fail
      go_meet
      exact ⟨_,rfl,hS1,(show Hid _ from fun h=>by first | exact ⟨h1,hL⟩ | cases h),(show Hid _ from fun h _=>by first | exact hL | cases h)⟩}}
    {have h1z: ¬(2 * (root:Int)+1+1 < (hi:Int)):=by omega
     go_wp2_with fail
     go_meet
     exact ⟨_,rfl,hS,(show Hid _ from fun h=>by cases h),(show Hid _ from fun h h2=>absurd h2 h1)⟩}
   case rest=>
    clear hS;obtain ⟨v,rfl,hS,V1,V2⟩:=hcut
    go_upto_if 31 with fail
    go_cut [9] (fun p wx=> ∃c:Nat,p= .int .i64 c/\root < c/\c < hi/\St dk wx/\Hid ((lt dk[first+root]! dk[first+c]! =false->siftDown lt hi first root dk=dk)/\
     (lt dk[first+root]! dk[first+c]! =true->siftDown lt hi first root dk=siftDown lt hi first c (swp dk (first+root) (first+c)))))
    case first=>
     clear HE;cases v with
     | true=>
      have h1:=V1.out rfl;have h1z:2 * (root:Int)+1+1 < (hi:Int):=by omega
      go_wp2_with fail
      go_meet
      exact ⟨2 * root+2,by go_num,by omega,by omega,hS,fun hG=>sd_right_stop lt dk h1.1 h1.2 hG,fun hG=>sd_right_go lt dk h1.1 h1.2 hG⟩
     | false=>
      go_wp2_with fail
      go_meet
      exact ⟨2 * root+1,by go_num,by omega,by omega,hS,fun hG=>sd_left_stop lt dk (by omega) (fun h=>V2.out (by first | trivial | rfl) h) hG,fun hG=>sd_left_go lt dk (by omega) (fun h=>V2.out (by first | trivial | rfl) h) hG⟩
    case rest=>
     clear hS;obtain ⟨c,rfl,hc1,hc2,hS,hC⟩:=hcut;cases hG:lt dk[first+root]! dk[first+c]! with
     | true=>
      go_wp2_with fail
      refine (H.lessAt hS (first+root) (first+c) hG (by omega) (by omega) (by omega) (by omega)).mono ?_;rintro e w2 ⟨rfl,hS2, -⟩
      go_wp2_with fail
      refine (H.swapAt hS2 (first+root) (first+c) (by omega) (by omega) (by omega) (by omega)).mono ?_;rintro e w3 ⟨rfl,hS3, -⟩
      go_wp2_with fail
      go_roundg (hi - c)
      case measure=>omega
      case rel=>exact ⟨c,swp dk (first+root) (first+c),rfl,by omega,Nat.le_refl _,hS3,(show Hid _ from by rw[<-HE.out,hC.out.2 hG]; exact rfl)⟩
     | false=>
      go_wp2_with fail
      refine (H.lessAt hS (first+root) (first+c) hG (by omega) (by omega) (by omega) (by omega)).mono ?_;rintro e w2 ⟨rfl,hS2, -⟩
      go_wp2_with fail
      (try simp only[Exit.inBlock,Exit.then]); refine bodyPost_ret (results_none rfl _ _ _) rfl ?_
      exact ⟨rfl,by rw[<-HE.out,hC.out.1 hG]; exact hS2⟩}
theorem Z6X (a b:Nat) (d:Array α) (w:World) (hH:St d w) (hab:a < b) (hb:b<=N):
 Calls Tryd.prog 83 #[.iface 57 rv,.int .i64 a,.int .i64 b] w fun e w'=>e= .returned (.tuple #[])/\St (heapSort lt d a b) w':=by
 have mL:=H.mL;have mS:=H.mS;have hbig:=H.big;go_enter Tryd.func83,Tryd.ntmps83;go_wp2
 go_loopg [9] ((b - a - 1) / 2+1) (fun kx s9 wr=> ∃(k:Nat) (dk:Array α),s9= .int .i64 ((k:Int) - 1)/\k<=(b - a - 1) / 2+1/\k<=kx/\St dk wr/\Hid (heapBuild lt (b - a) a k dk=heapBuild lt (b - a) a ((b - a - 1) / 2+1) d))
 case atStart=>exact ⟨(b - a - 1) / 2+1,d,by congr 1; omega,Nat.le_refl _,Nat.le_refl _,hH,rfl⟩
 case round=>
  obtain ⟨k,dk,rfl,hk,hkx,hS,HE⟩:=hrel;clear hH;cases k with
  | succ k=>
   have hz: (0:Int)<=((k+1:Nat):Int) - 1:=by omega
   go_wp2_with fail
   have hc:=Z3K H k (b - a) a dk _ hS (by omega) (by omega);rw[show (((b - a:Nat)):Int)=(b:Int) - (a:Int) by omega] at hc;refine hc.mono ?_;rintro e w1 ⟨rfl,hS1⟩;clear hc
   go_wp2_with fail
   go_roundg k
   case measure=>omega
   case rel=>exact ⟨k,_,rfl,by omega,Nat.le_refl _,hS1,(show Hid _ from by rw[<-HE.out]; exact rfl)⟩
  | zero=>
   have hD:heapBuild lt (b - a) a ((b - a - 1) / 2+1) d=dk:=HE.out.symm;have HD:Hid _:=hD;clear hD HE;go_wp2
   go_loopg [10] (b - a) (fun kx s10 wr=> ∃(k:Nat) (dj:Array α),s10= .int .i64 ((k:Int) - 1)/\k<=b - a/\k<=kx/\St dj wr/\Hid (heapPop lt a k dj=heapPop lt a (b - a) dk))
   case atStart=>exact ⟨b - a,dk,by congr 1; omega,Nat.le_refl _,Nat.le_refl _,hS,rfl⟩
   case round=>
    clear hS;obtain ⟨k,dj,rfl,hk2,hkx2,hS,HE⟩:=hrel;cases k with
    | succ k=>
     have hz: (0:Int)<=((k+1:Nat):Int) - 1:=by omega
     go_wp2_with fail
     refine (H.swapAt hS a (a+k) (by omega) (by omega) (by omega) (by omega)).mono ?_;rintro e w1 ⟨rfl,hS1, -⟩
     go_wp2_with fail
     have hc:=Z3K H 0 k a _ _ hS1 (by omega) (by omega);refine hc.mono ?_;rintro e w2 ⟨rfl,hS2⟩;clear hc
     go_wp2_with fail
     go_roundg k
     case measure=>omega
     case rel=>exact ⟨k,_,rfl,by omega,Nat.le_refl _,hS2,(show Hid _ from by rw[<-HE.out]; exact rfl)⟩
    | zero=>
     go_wp2
     go_end0
     exact ⟨rfl,by unfold heapSort; rw[HD.out, <-HE.out]; exact hS⟩
theorem Z83 (a b:Nat) (d:Array α) (w:World) (hH:St d w) (hab:a < b) (hb:b<=N):
 Calls Tryd.prog 86 #[.iface 57 rv,.int .i64 a,.int .i64 b] w fun e w'=>e= .returned (.tuple #[])/\ ∃d',PermIn a b d d'/\St d' w':=by
 have mL:=H.mL;have mS:=H.mS;have hbig:=H.big;have hsz:=H.size d w hH;go_enter Tryd.func86,Tryd.ntmps86;go_wp2
 go_loopg [6,7] (b - a) (fun k s6 s7 wr=> ∃(i j:Int) (dk:Array α),s6= .int .i64 i/\s7= .int .i64 j/\(a:Int)<=i/\i<=b/\(a:Int) - 1<=j/\j < b/\(j - i).toNat<=k/\St dk wr/\Hid (PermIn a b d dk))
 case atStart=>exact ⟨a,(b:Int) - 1,d,rfl,rfl,by omega,by omega,by omega,by omega,by omega,hH,permIn_refl _ _ _⟩
 case round=>
  obtain ⟨i,j,dk,rfl,rfl,h1,h2,h3,h4,hk,hS,HP⟩:=hrel;clear hH;by_cases hlt:i < j
  {have hsk:=H.size _ _ hS
   go_wp2_with fail
   refine (H.swapAt hS i.toNat j.toNat (by omega) (by omega) (by omega) (by omega)).mono ?_;rintro e w1 ⟨rfl,hS1, -⟩
   go_wp2_with fail
   go_roundg ((j - 1) - (i+1)).toNat
   case measure=>omega
   case rel=>exact ⟨i+1,j - 1,_,rfl,rfl,by omega,by omega,by omega,by omega,Nat.le_refl _,hS1,(show Hid _ from permIn_trans _ _ _ a b HP.out (swp_permIn _ _ _ _ _ (by omega) (by omega) (by omega) (by omega) (by omega)))⟩}
  {go_wp2
   go_end0
   exact ⟨rfl,dk,HP.out,hS⟩}
end
end
end Go.Proofs.YthajhofgjhfjeaaDoor
namespace Go.Proofs
open Go.Shelf
def Tryd.lays129_ren:Go.Shelf.Ren:=⟨fun | 129=>81 | n=>n,fun | 3=>3 | 4=>4 | 5=>5 | 9=>9 | 46=>78 | 53=>94 | n=>n,fun | n=>n⟩
theorem Tryd.lays129:Go.Proofs.Lays.n129 Tryd.prog Tryd.lays129_ren:= {
 mixed:=by kernel_rfl
 f129:=Tryd.func81.trans (congrArg some (by kernel_rfl))
 t3:=Tryd.underlying3
 a3:=Tryd.isAgg3
 z3:=Tryd.sizeOf3
 v3:=Tryd.zeroValue3
 t4:=Tryd.underlying4
 a4:=Tryd.isAgg4
 z4:=Tryd.sizeOf4
 v4:=Tryd.zeroValue4
 t5:=Tryd.underlying5
 a5:=Tryd.isAgg5
 z5:=Tryd.sizeOf5
 v5:=Tryd.zeroValue5
 t9:=Tryd.underlying9
 a9:=Tryd.isAgg9
 z9:=Tryd.sizeOf9
 v9:=Tryd.zeroValue9
 t46:=Tryd.underlying78
 a46:=Tryd.isAgg78
 z46:=Tryd.sizeOf78
 v46:=Tryd.zeroValue78
 t53:=Tryd.underlying94
 a53:=Tryd.isAgg94
 z53:=Tryd.sizeOf94
 v53:=Tryd.zeroValue94 }
section
open Go.RowKit
theorem Tryd.len64 (x:Int) (w:World) (h0:0<=x) (h1:x<=18446744073709551615):
 Calls Tryd.prog 81 #[.int .u64 x] w fun e w'=>e= .returned (.int .i64 (Lib.bitLen x.toNat))/\w'=w:=
 Any.bits_Len64 Tryd.lays129 x w h0 h1
end
end Go.Proofs
namespace Go.Proofs.YthajhofgjhfjeaaDoor
section
open Go.RowKit Go.Sort
variable {α : Type} [Inhabited α] {N B : Nat} {rv : Value} {lt : α -> α -> Bool} {St : Array α -> World -> Prop}
theorem Z6Y (b0 X:Nat) (hX:X < 18446744073709551616) (w:World) (hc:w.cell? ⟨b0,0,none⟩=some (.int .u64 X)) (hf:w.frozen? ⟨b0,0,none⟩=false):
 Calls Tryd.prog 97 #[.pointer (some ⟨b0,0,none⟩)] w fun e w'=>e= .returned (.int .u64 (xorNextN X:Nat))/\w'=(w.setCell ⟨b0,0,none⟩ (.int .u64 (xorNextN X:Nat))).drewN 3:=by
 obtain ⟨x1,h1⟩: ∃x1:Nat,x1=X ^^^ (X * 8192 % 18446744073709551616):=⟨_,rfl⟩;obtain ⟨x2,h2⟩: ∃x2:Nat,x2=x1 ^^^ (x1 / 128):=⟨_,rfl⟩;obtain ⟨x3,h3⟩: ∃x3:Nat,x3=x2 ^^^ (x2 * 131072 % 18446744073709551616):=⟨_,rfl⟩;have l1:x1 < 18446744073709551616:=by rw[h1]; exact Nat.xor_lt_two_pow (n:=64) (by omega) (by omega)
 have l2:x2 < 18446744073709551616:=by rw[h2]; exact Nat.xor_lt_two_pow (n:=64) (by omega) (by omega)
 have e1:bits .xor .u64 (X:Int) (IntKind.u64.wrap ((X:Int) * 8192))=(x1:Int):=by
  rw[IntKind.wrap_u64,show ((X:Int) * 8192 % 18446744073709551616)=((X * 8192 % 18446744073709551616:Nat):Int) by omega,bits_xor_u64_nat _ _ hX (by omega),h1]
 have e2:bits .xor .u64 (x1:Int) ((x1:Int) / 128)=(x2:Int):=by
  rw[show ((x1:Int) / 128)=((x1 / 128:Nat):Int) by omega,bits_xor_u64_nat _ _ l1 (by omega),h2]
 have e3:bits .xor .u64 (x2:Int) (IntKind.u64.wrap ((x2:Int) * 131072))=(x3:Int):=by
  rw[IntKind.wrap_u64,show ((x2:Int) * 131072 % 18446744073709551616)=((x2 * 131072 % 18446744073709551616:Nat):Int) by omega,bits_xor_u64_nat _ _ l2 (by omega),h3]
 have hv:xorNextN X=x3:=by unfold xorNextN; simp only[]; rw[<-h1, <-h2, <-h3]
 rw[hv];clear h1 h2 h3 hv;have hss: ∀v v',(w.setCell ⟨b0,0,none⟩ v).setCell ⟨b0,0,none⟩ v'=w.setCell ⟨b0,0,none⟩ v':=setCell_setCell w b0 0;go_enter Tryd.func97,Tryd.ntmps97;go_wp2
 go_region
 all_goals go_wp2
 all_goals go_region
 all_goals go_wp2
 all_goals go_region
 all_goals go_wp2
 go_ret;exact ⟨rfl,rfl⟩
section
variable (n : Nat) (hn : n < 4611686018427387904) (w : World)
include n hn w
theorem Z4h:Calls Tryd.prog 65 #[.int .u64 (n:Int)] w fun e w'=>e= .returned (.int .i64 (bitsLen n:Nat))/\w'=w:=by
 have h:=fun w=>Tryd.len64 (n:Int) w (by omega) (by omega);rw[Int.toNat_natCast,bitLen_eq _ (by omega)] at h;go_enter Tryd.func65,Tryd.ntmps65
 go_wp2_with fail
 refine (h _).mono ?_;rintro e w' ⟨rfl,rfl⟩;clear h
 go_wp2_with fail
 go_ret;exact ⟨rfl,rfl⟩
theorem Z5S:Calls Tryd.prog 96 #[.int .i64 n] w fun e w'=>e= .returned (.int .u64 ((1 <<< bitsLen n:Nat):Int))/\w'=w:=by
 have hk:bitsLen n<=62:=(bitsLen_le_iff n 62).2 (by omega);have hp:=wrap_two_pow (bitsLen n) hk;go_enter Tryd.func96,Tryd.ntmps96
 go_wp2_with fail
 refine (Z4h n hn _).mono ?_;rintro e w' ⟨rfl,rfl⟩
 go_wp2_with fail
 go_ret;exact ⟨rfl,rfl⟩
end
theorem Z5T (H:Srt N B rv lt St) (a b:Nat) (d:Array α) (w:World) (hH:St d w) (hab:a+8<=b) (hb:b<=N):
 Calls Tryd.prog 84 #[.iface 57 rv,.int .i64 a,.int .i64 b] w fun e w'=>e= .returned (.tuple #[])/\ ∃d',PermIn a b d d'/\St d' w':=by
 have mS:=H.mS;have hbig:=H.big;have hB:=H.base _ _ hH;obtain ⟨L,hL⟩: ∃L:Nat,L=b - a:=⟨_,rfl⟩;obtain ⟨M,hM⟩: ∃M:Nat,M=1 <<< bitsLen L:=⟨_,rfl⟩;have hM1:1<=M:=by rw[hM,Nat.one_shiftLeft]; exact Nat.two_pow_pos _
 have hM2:M<=2 * L:=by rw[hM,Nat.one_shiftLeft]; exact two_pow_bitsLen_le (by omega)
 have hLz: ((b:Int) - (a:Int))=(L:Int):=by omega
 have h8z: (8:Int)<=(L:Int):=by omega
 have hNP: ∀w,Calls Tryd.prog 96 #[.int .i64 (L:Int)] w fun e w'=>e= .returned (.int .u64 (M:Int))/\w'=w:=by rw[hM]; exact fun w=>Z5S L (by omega) w
 have HL:Hid (L=b - a):=hL;clear hM hL;have hC0: ∃R:Nat,R < 18446744073709551616/\(w.alloc (.cells #[.int .u64 (L:Int)] 107)).cell? ⟨w.heap.size,0,none⟩=some (.int .u64 (R:Int)):=⟨L,by omega,by rw[World.cell?_alloc_at _ _ _ _ rfl]; rfl⟩;have hF0: (w.alloc (.cells #[.int .u64 (L:Int)] 107)).frozen? ⟨w.heap.size,0,none⟩=false:=World.frozen?_alloc_at _ _ _ _ rfl;have hS0:St d (w.alloc (.cells #[.int .u64 (L:Int)] 107)):=H.keep _ _ _ hH (Y2.alloc hB _);have hZ0:w.heap.size < (w.alloc (.cells #[.int .u64 (L:Int)] 107)).heap.size:=by simp
 clear hH;go_enter Tryd.func84,Tryd.ntmps84
 go_wp2_with fail
 refine (hNP _).mono ?_;rintro e w' ⟨rfl,rfl⟩;clear hNP
 go_wp2_with fail
 generalize hW0:w.alloc (.cells #[.int .u64 (L:Int)] 107)=W0 at hC0 hF0 hS0 hZ0 ⊢;generalize w.heap.size=b0 at hC0 hF0 hZ0 hB ⊢;clear hW0
 go_loopg [9] 3 (fun g1 vi wr=> ∃(t R:Nat) (dk:Array α),vi= .int .i64 ((a:Int)+(L:Int) / 4 * 2 - 1+(t:Int))/\t<=3/\3 - t<=g1/\St dk wr/\Hid (PermIn a b d dk)/\R < 18446744073709551616/\
  b0 < wr.heap.size/\wr.cell? ⟨b0,0,none⟩=some (.int .u64 (R:Int))/\wr.frozen? ⟨b0,0,none⟩=false)
 case atStart=>
  obtain ⟨R,h1,h2⟩:=hC0;exact ⟨0,R,d,by simp,by omega,by omega,hS0,permIn_refl _ _ _,h1,hZ0,h2,hF0⟩
 case round=>
  clear hC0 hF0 hS0 hZ0;obtain ⟨t,R,dk,rfl,ht,hg1,hS,HP,lR,hz,cR,fR⟩:=hrel;have hsk:=H.size _ _ hS;have hLg:8<=L:=by have:=HL.out; omega
  by_cases ht3:t < 3
  {have hle: (a:Int)+(L:Int) / 4 * 2 - 1+(t:Int)<=(a:Int)+(L:Int) / 4 * 2+1:=by omega
   obtain ⟨R',hR'⟩: ∃R':Nat,R'=xorNextN R:=⟨_,rfl⟩;have lR':R' < 18446744073709551616:=by rw[hR']; exact xorNextN_lt R lR
   obtain ⟨O,hO⟩: ∃O:Nat,O=R' &&& (M - 1):=⟨_,rfl⟩;have lO:O<=M - 1:=by rw[hO]; exact Nat.and_le_right
   have eAnd:bits .and .u64 (R':Int) ((M:Int) - 1)=(O:Int):=by
    rw[show ((M:Int) - 1)=((M - 1:Nat):Int) by omega,bits_and_u64_nat _ _ lR' (by omega),hO]
   have hN:=Z6Y b0 R lR wr cR fR;rw[<-hR'] at hN;have hS2:St dk ((wr.setCell ⟨b0,0,none⟩ (.int .u64 (R':Int))).drewN 3):=H.keep _ _ _ hS (Z0K (Y2.setCell hB _) 3);have c2: ((wr.setCell ⟨b0,0,none⟩ (.int .u64 (R':Int))).drewN 3).cell? ⟨b0,0,none⟩=some (.int .u64 (R':Int)):=by rw[World.cell?_drewN]; exact World.cell?_setCell_same _ _ _ cR
   have f2: ((wr.setCell ⟨b0,0,none⟩ (.int .u64 (R':Int))).drewN 3).frozen? ⟨b0,0,none⟩=false:=by rw[World.frozen?_drewN]; simpa using fR
   have z2:b0 < ((wr.setCell ⟨b0,0,none⟩ (.int .u64 (R':Int))).drewN 3).heap.size:=by simpa[World.setCell] using hz
   generalize (wr.setCell ⟨b0,0,none⟩ (.int .u64 (R':Int))).drewN 3=w2 at hN hS2 c2 f2 z2;clear hR' hO cR fR hz hS;have hLn:a+L<=b:=by have:=HL.out; omega
   have hLn':b<=a+L:=by have:=HL.out; omega
   by_cases hLO:L<=O
   {have hLOz: (L:Int)<=(O:Int):=by omega
    go_wp2_with fail
    refine hN.mono ?_;rintro e w1 ⟨rfl,h1⟩;have hS1:St dk w1:=by rw[h1]; exact hS2
    have c1:w1.cell? ⟨b0,0,none⟩=some (.int .u64 (R':Int)):=by rw[h1]; exact c2
    have f1:w1.frozen? ⟨b0,0,none⟩=false:=by rw[h1]; exact f2
    have z1:b0 < w1.heap.size:=by rw[h1]; exact z2
    clear h1 hN c2 f2 z2 hS2
    go_wp2_with fail
    refine (H.swapAt hS1 (a+L / 4 * 2 - 1+t) (a+(O - L)) (by omega) (by omega) (by omega) (by omega)).mono ?_;rintro e w3 ⟨rfl,hS3,hk⟩
    go_wp2_with fail
    go_roundg (3 - (t+1))
    case measure=>omega
    case rel=>exact ⟨t+1,R',_,by congr 1; push_cast; omega,by omega,Nat.le_refl _,hS3,(show Hid _ from permIn_trans _ _ _ a b HP.out (swp_permIn _ _ _ _ _ (by omega) (by omega) (by omega) (by omega) (by omega))),lR',Nat.lt_of_lt_of_le z1 hk.1,(World.cell?_of_block (w:=w1) (hk.2 _ hB z1)).trans c1,(World.frozen?_of_block (w:=w1) (hk.2 _ hB z1)).trans f1⟩}
   {have hLOz: ¬(L:Int)<=(O:Int):=by omega
    go_wp2_with fail
    refine hN.mono ?_;rintro e w1 ⟨rfl,h1⟩;have hS1:St dk w1:=by rw[h1]; exact hS2
    have c1:w1.cell? ⟨b0,0,none⟩=some (.int .u64 (R':Int)):=by rw[h1]; exact c2
    have f1:w1.frozen? ⟨b0,0,none⟩=false:=by rw[h1]; exact f2
    have z1:b0 < w1.heap.size:=by rw[h1]; exact z2
    clear h1 hN c2 f2 z2 hS2
    go_wp2_with fail
    refine (H.swapAt hS1 (a+L / 4 * 2 - 1+t) (a+O) (by omega) (by omega) (by omega) (by omega)).mono ?_;rintro e w3 ⟨rfl,hS3,hk⟩
    go_wp2_with fail
    go_roundg (3 - (t+1))
    case measure=>omega
    case rel=>exact ⟨t+1,R',_,by congr 1; push_cast; omega,by omega,Nat.le_refl _,hS3,(show Hid _ from permIn_trans _ _ _ a b HP.out (swp_permIn _ _ _ _ _ (by omega) (by omega) (by omega) (by omega) (by omega))),lR',Nat.lt_of_lt_of_le z1 hk.1,(World.cell?_of_block (w:=w1) (hk.2 _ hB z1)).trans c1,(World.frozen?_of_block (w:=w1) (hk.2 _ hB z1)).trans f1⟩}}
  {obtain rfl:t=3:=by omega
   have hle: ¬((a:Int)+(L:Int) / 4 * 2 - 1+((3:Nat):Int)<=(a:Int)+(L:Int) / 4 * 2+1):=by omega
   go_wp2
   go_end0
   exact ⟨rfl,dk,HP.out,hS⟩}
structure Cntr (B:Nat) (w:World) (p:Addr) (s:Int):Prop where
 lo:B<=p.block
 lt:p.block < w.heap.size
 at_:w.cell? p=some (.int .i64 s)
 fz:w.frozen? p=false
theorem Cntr.kpt {w w':World} {p:Addr} {s:Int} (h:Cntr B w p s) (hk:Kpt B w w'):Cntr B w' p s:=
 ⟨h.lo,Nat.lt_of_lt_of_le h.lt hk.1,(World.cell?_of_block (w:=w) (hk.2 _ h.lo h.lt)).trans h.at_,(World.frozen?_of_block (w:=w) (hk.2 _ h.lo h.lt)).trans h.fz⟩
section
variable (H : Srt N B rv lt St)
include H
theorem Z1X (a b:Nat) (b0:Nat) (s:Int) (d:Array α) (w:World) (hH:St d w) (ha:a < N) (hb:b < N) (hC:Cntr B w ⟨b0,0,none⟩ s) (hs0:0<=s) (hs:s < 1000):
 Calls Tryd.prog 104 #[.iface 57 rv,.int .i64 a,.int .i64 b,.pointer (some ⟨b0,0,none⟩)] w fun e w'=> ∃(x y:Nat) (s':Int),e= .returned (.tuple #[.int .i64 x,.int .i64 y])/\(x=a/\y=b\/x=b/\y=a)/\St d w'/\Cntr B w' ⟨b0,0,none⟩ s'/\0<=s'/\s'<=s+1:=by
 have mL:=H.mL;have mS:=H.mS;have hbig:=H.big;go_enter Tryd.func104,Tryd.ntmps104;cases hlv:lt d[b]! d[a]! with
 | true=>
  go_wp2_with fail
  refine (H.lessAt hH b a hlv hb ha rfl rfl).mono ?_;rintro e w1 ⟨rfl,hS1,hk⟩;have hC1:=hC.kpt hk;have c0:=hC1.at_;have f0:=hC1.fz;have HC:Hid (Cntr B w1 ⟨b0,0,none⟩ s):=hC1;clear hC hC1 hk
  go_wp2_with fail
  go_ret2
  have hC1:=HC.out;refine ⟨b,a,s+1,rfl,Or.inr ⟨rfl,rfl⟩,H.keep _ _ _ hS1 (Y2.setCell hC1.lo _),⟨hC1.lo,by simpa[World.setCell] using hC1.lt,World.cell?_setCell_same _ _ _ c0,by simpa[World.frozen?_setCell] using f0⟩,by omega,by omega⟩
 | false=>
  go_wp2_with fail
  refine (H.lessAt hH b a hlv hb ha rfl rfl).mono ?_;rintro e w1 ⟨rfl,hS1,hk⟩;have hC1:=hC.kpt hk
  go_wp2_with fail
  go_ret2
  exact ⟨a,b,s,rfl,Or.inl ⟨rfl,rfl⟩,hS1,hC1,hs0,by omega⟩
theorem Z1K (a b c:Nat) (b0:Nat) (s:Int) (d:Array α) (w:World) (hH:St d w) (ha:a < N) (hb:b < N) (hc:c < N) (hC:Cntr B w ⟨b0,0,none⟩ s) (hs0:0<=s) (hs:s < 900):
 Calls Tryd.prog 99 #[.iface 57 rv,.int .i64 a,.int .i64 b,.int .i64 c,.pointer (some ⟨b0,0,none⟩)] w fun e w'=> ∃(x:Nat) (s':Int),e= .returned (.int .i64 x)/\(x=a\/x=b\/x=c)/\St d w'/\Cntr B w' ⟨b0,0,none⟩ s'/\0<=s'/\s'<=s+3:=by
 go_enter Tryd.func99,Tryd.ntmps99
 go_wp2_with fail
 refine (Z1X H a b b0 s d w hH ha hb hC hs0 (by omega)).mono ?_;rintro e w1 ⟨x1,y1,s1,rfl,h1,hS1,hC1,p1,q1⟩
 go_wp2_with fail
 refine (Z1X H y1 c b0 s1 d w1 hS1 (by omega) hc hC1 p1 (by omega)).mono ?_;rintro e w2 ⟨x2,y2,s2,rfl,h2,hS2,hC2,p2,q2⟩
 go_wp2_with fail
 refine (Z1X H x1 x2 b0 s2 d w2 hS2 (by omega) (by omega) hC2 p2 (by omega)).mono ?_;rintro e w3 ⟨x3,y3,s3,rfl,h3,hS3,hC3,p3,q3⟩
 go_wp2_with fail
 go_ret;exact ⟨y3,s3,rfl,by omega,hS3,hC3,p3,by omega⟩
theorem Z1L (a:Nat) (b0:Nat) (s:Int) (d:Array α) (w:World) (hH:St d w) (ha:1<=a) (hb:a+1 < N) (hC:Cntr B w ⟨b0,0,none⟩ s) (hs0:0<=s) (hs:s < 900):
 Calls Tryd.prog 98 #[.iface 57 rv,.int .i64 a,.pointer (some ⟨b0,0,none⟩)] w fun e w'=> ∃(x:Nat) (s':Int),e= .returned (.int .i64 x)/\(a - 1<=x/\x<=a+1)/\St d w'/\Cntr B w' ⟨b0,0,none⟩ s'/\0<=s'/\s'<=s+3:=by
 have hbig:=H.big;have hm:=Z1K H (a - 1) a (a+1) b0 s d w hH (by omega) (by omega) (by omega) hC hs0 hs;rw[show ((a - 1:Nat):Int)=(a:Int) - 1 by omega,show ((a+1:Nat):Int)=(a:Int)+1 by omega] at hm;go_enter Tryd.func98,Tryd.ntmps98
 go_wp2_with fail
 refine hm.mono ?_;rintro e w3 ⟨x3,s3,rfl,h3,hS3,hC3,p3,q3⟩;clear hm
 go_wp2_with fail
 go_ret;exact ⟨x3,s3,rfl,by omega,hS3,hC3,p3,by omega⟩
theorem Z5U (a b:Nat) (d:Array α) (w:World) (hH:St d w) (hab:a+8<=b) (hb:b<=N):
 Calls Tryd.prog 85 #[.iface 57 rv,.int .i64 a,.int .i64 b] w fun e w'=> ∃(p:Nat) (h:Int),e= .returned (.tuple #[.int .i64 p,.int .i64 h])/\a<=p/\p < b/\0<=h/\h<=2/\St d w':=by
 have hbig:=H.big;have hB:=H.base _ _ hH;have hC0:Cntr B (w.alloc (.cells #[.int .i64 0] 3)) ⟨w.heap.size,0,none⟩ 0:=⟨hB,by simp,by rw[World.cell?_alloc_at _ _ _ _ rfl]; rfl,World.frozen?_alloc_at _ _ _ _ rfl⟩;have hS0:St d (w.alloc (.cells #[.int .i64 0] 3)):=H.keep _ _ _ hH (Y2.alloc hB _);obtain ⟨I,hI⟩: ∃I:Nat,I=a+(b - a) / 4 * 1:=⟨_,rfl⟩;obtain ⟨J,hJ⟩: ∃J:Nat,J=a+(b - a) / 4 * 2:=⟨_,rfl⟩;obtain ⟨K,hK⟩: ∃K:Nat,K=a+(b - a) / 4 * 3:=⟨_,rfl⟩;have eI: ((a:Int)+((b:Int) - (a:Int)) / 4)=(I:Int):=by omega
 have eJ: ((a:Int)+((b:Int) - (a:Int)) / 4 * 2)=(J:Int):=by omega
 have eK: ((a:Int)+((b:Int) - (a:Int)) / 4 * 3)=(K:Int):=by omega
 have h8z: (8:Int)<=(b:Int) - (a:Int):=by omega
 have HI:Hid (I=a+(b - a) / 4 * 1):=hI;have HJ:Hid (J=a+(b - a) / 4 * 2):=hJ;have HK:Hid (K=a+(b - a) / 4 * 3):=hK;clear hI hJ hK hH;have cS:=hC0.at_;go_enter Tryd.func85,Tryd.ntmps85
 go_upto_region 3 with fail
 generalize hW0:w.alloc (.cells #[.int .i64 0] 3)=W0 at hC0 hS0 cS ⊢;generalize w.heap.size=b0 at hC0 cS ⊢;clear hW0 hB w cS;by_cases h50:b - a>=50
 {have h50z: (50:Int)<=(b:Int) - (a:Int):=by omega
  have g:1<=I/\K+2<=b/\I+2<=J/\J+2<=K/\a+1<=I:=by have:=HI.out; have:=HJ.out; have:=HK.out; omega
  go_upto_region 8 with fail
  (try rw[eI]); (try rw[eJ]); (try rw[eK])
  clear eI eJ eK
  go_wp2_with fail
  refine (Z1L H I b0 0 d W0 hS0 (by omega) (by omega) hC0 (by omega) (by omega)).mono ?_;rintro e w1 ⟨x1,s1,rfl,h1,hS1,hC1,p1,q1⟩
  go_wp2_with fail
  refine (Z1L H J b0 s1 d w1 hS1 (by omega) (by omega) hC1 (by omega) (by omega)).mono ?_;rintro e w2 ⟨x2,s2,rfl,h2,hS2,hC2,p2,q2⟩
  go_wp2_with fail
  refine (Z1L H K b0 s2 d w2 hS2 (by omega) (by omega) hC2 (by omega) (by omega)).mono ?_;rintro e w3 ⟨x3,s3,rfl,h3,hS3,hC3,p3,q3⟩
  go_wp2_with fail
  refine (Z1K H x1 x2 x3 b0 s3 d w3 hS3 (by omega) (by omega) (by omega) hC3 (by omega) (by omega)).mono ?_;rintro e w4 ⟨x4,s4,rfl,h4,hS4,hC4,p4,q4⟩;have c4:=hC4.at_;have hx:a<=x4/\x4 < b:=by omega
  clear hC4 hC3 hC2 hC1 hC0;by_cases z0:s4=0
  {subst z0
   go_wp2_with fail
   go_ret2
   exact ⟨x4,1,rfl,hx.1,hx.2,by omega,by omega,hS4⟩}
  {by_cases z1:s4=12
   {subst z1
    go_wp2_with fail
    go_ret2
    exact ⟨x4,2,rfl,hx.1,hx.2,by omega,by omega,hS4⟩}
   {go_wp2_with fail
    go_ret2
    exact ⟨x4,0,rfl,hx.1,hx.2,by omega,by omega,hS4⟩}}}
 {have h50z: ¬(50:Int)<=(b:Int) - (a:Int):=by omega
  have g:a<=I/\K < b/\I<=J/\J<=K:=by have:=HI.out; have:=HJ.out; have:=HK.out; omega
  go_upto_region 11 with fail
  (try rw[eI]); (try rw[eJ]); (try rw[eK])
  clear eI eJ eK
  go_wp2_with fail
  refine (Z1K H I J K b0 0 d W0 hS0 (by omega) (by omega) (by omega) hC0 (by omega) (by omega)).mono ?_;rintro e w4 ⟨x4,s4,rfl,h4,hS4,hC4,p4,q4⟩;have c4:=hC4.at_;have hx:a<=x4/\x4 < b:=by omega
  clear hC4 hC0;by_cases z0:s4=0
  {subst z0
   go_wp2_with fail
   go_ret2
   exact ⟨x4,1,rfl,hx.1,hx.2,by omega,by omega,hS4⟩}
  {have z1:s4≠12:=by omega
   go_wp2_with fail
   go_ret2
   exact ⟨x4,0,rfl,hx.1,hx.2,by omega,by omega,hS4⟩}}
theorem Z84 (a b pivot:Nat) (d:Array α) (w:World) (hH:St d w) (hap:a<=pivot) (hpb:pivot < b) (hb:b<=N):
 Calls Tryd.prog 88 #[.iface 57 rv,.int .i64 a,.int .i64 b,.int .i64 pivot] w fun e w'=>e= .returned (.int .i64 (Sort.partitionEqual lt d a b pivot).1)/\St (Sort.partitionEqual lt d a b pivot).2 w':=by
 have mL:=H.mL;have mS:=H.mS;have hbig:=H.big;go_enter Tryd.func88,Tryd.ntmps88
 go_wp2_with fail
 refine (H.swapAt hH a pivot (by omega) (by omega) rfl rfl).mono ?_;rintro e w1 ⟨rfl,hS0, -⟩;clear hH
 go_wp2_with fail
 go_loopw [9,10] (fun vi vj wr=> ∃(i j:Nat) (dk:Array α),vi= .int .i64 i/\vj= .int .i64 j/\a < i/\i<=j+1/\j < b/\St dk wr/\Hid (Sort.partEqLoop lt a i j dk=Sort.partEqLoop lt a (a+1) (b - 1) (Sort.swp d a pivot)))
  (fun vi vj _=>(intOf vj).toNat+1 - (intOf vi).toNat)
 case atStart=>exact ⟨a+1,b - 1,_,by go_num,by go_num,by omega,by omega,by omega,hS0,rfl⟩
 case round=>
  clear hS0;obtain ⟨i,j,dk,rfl,rfl,hai,hij,hjb,hS,HE⟩:=hrel
  go_upto_block 2 with fail
  go_cut [9] (fun p wx=> ∃i2:Nat,p= .int .i64 i2/\i<=i2/\i2<=j+1/\St dk wx/\Hid (i2=Sort.scanUp (fun x=> !lt dk[a]! x) dk j i))
  case first=>
   go_wp2_with fail
   go_loopw [9] (fun vi w1=> ∃i':Nat,vi= .int .i64 i'/\i<=i'/\i'<=j+1/\St dk w1/\Hid (Sort.scanUp (fun x=> !lt dk[a]! x) dk j i'=Sort.scanUp (fun x=> !lt dk[a]! x) dk j i)) (fun vi _=>j+1 - (intOf vi).toNat)
   case atStart=>exact ⟨i,rfl,Nat.le_refl _,by omega,hS,rfl⟩
   case round=>
    clear hS;obtain ⟨i',rfl,hii,hij',hS,hsc⟩:=hrel;by_cases hle:i'<=j
    {cases hlv:lt dk[a]! dk[i']! with
     | false=>
      go_wp2_with fail
      refine (H.lessAt hS a i' hlv (by omega) (by omega) rfl rfl).mono ?_;rintro e w' ⟨rfl,hS1, -⟩
      go_wp2_with fail
      go_roundw
      case rel=>exact ⟨i'+1,by go_num,by omega,by omega,hS1,(show Hid _ from (scanUp_go (fun x=> !lt dk[a]! x) dk j i' hle (by simp[hlv])).symm.trans hsc.out)⟩
      case measure=>simp[intOf]; omega
     | true=>
      go_wp2_with fail
      refine (H.lessAt hS a i' hlv (by omega) (by omega) rfl rfl).mono ?_;rintro e w' ⟨rfl,hS1, -⟩
      go_wp2_with fail
      go_meet
      exact ⟨i',rfl,hii,hij',hS1,(show Hid _ from (scanUp_end (fun x=> !lt dk[a]! x) dk j i' (Or.inr (by simp[hlv]))).symm.trans hsc.out)⟩}
    {go_wp2_with fail
     go_meet
     exact ⟨i',rfl,hii,hij',hS,(show Hid _ from (scanUp_end (fun x=> !lt dk[a]! x) dk j i' (Or.inl hle)).symm.trans hsc.out)⟩}
  case rest=>
   clear hS;obtain ⟨i2,rfl,hi2,hi2j,hS,HI⟩:=hcut
   go_upto_block 4 with fail
   go_cut [10] (fun p wx=> ∃j2:Nat,p= .int .i64 j2/\j2<=j/\i2<=j2+1/\St dk wx/\Hid (j2=Sort.scanDown (fun x=>lt dk[a]! x) dk i2 j))
   case first=>
    go_wp2_with fail
    go_loopw [10] (fun vj w1=> ∃j':Nat,vj= .int .i64 j'/\j'<=j/\i2<=j'+1/\St dk w1/\Hid (Sort.scanDown (fun x=>lt dk[a]! x) dk i2 j'=Sort.scanDown (fun x=>lt dk[a]! x) dk i2 j)) (fun vj _=>(intOf vj).toNat)
    case atStart=>exact ⟨j,rfl,Nat.le_refl _,by omega,hS,rfl⟩
    case round=>
     clear hS;obtain ⟨j',rfl,hjj,hij',hS,hsc⟩:=hrel;by_cases hle:i2<=j'
     {cases hlv:lt dk[a]! dk[j']! with
      | true=>
       go_wp2_with fail
       refine (H.lessAt hS a j' hlv (by omega) (by omega) rfl rfl).mono ?_;rintro e w' ⟨rfl,hS1, -⟩
       go_wp2_with fail
       go_roundw
       case rel=>exact ⟨j' - 1,by go_num,by omega,by omega,hS1,(show Hid _ from (scanDown_go (fun x=>lt dk[a]! x) dk i2 j' hle (by omega) (by simp[hlv])).symm.trans hsc.out)⟩
       case measure=>simp[intOf]; omega
      | false=>
       go_wp2_with fail
       refine (H.lessAt hS a j' hlv (by omega) (by omega) rfl rfl).mono ?_;rintro e w' ⟨rfl,hS1, -⟩
       go_wp2_with fail
       go_meet
       exact ⟨j',rfl,hjj,hij',hS1,(show Hid _ from (scanDown_end (fun x=>lt dk[a]! x) dk i2 j' (Or.inr (by simp[hlv]))).symm.trans hsc.out)⟩}
     {go_wp2_with fail
      go_meet
      exact ⟨j',rfl,hjj,hij',hS,(show Hid _ from (scanDown_end (fun x=>lt dk[a]! x) dk i2 j' (Or.inl hle)).symm.trans hsc.out)⟩}
   case rest=>
    clear hS;obtain ⟨j2,rfl,hj2,hj2i,hS,HJ⟩:=hcut;by_cases hgt:j2 < i2
    {go_wp2_with fail
     go_ret;have e:=partEq_break lt a i j dk HI.out HJ.out hgt;have e2:=HE.out.symm.trans e;unfold Sort.partitionEqual;rw[e2];exact ⟨rfl,hS⟩}
    {have hlt3:=scans_lt lt a i j dk (by omega) HI.out HJ.out (by omega)
     go_wp2_with fail
     refine (H.swapAt hS i2 j2 (by omega) (by omega) rfl rfl).mono ?_;rintro e w3 ⟨rfl,hS3, -⟩
     go_wp2_with fail
     go_roundw
     case rel=>exact ⟨i2+1,j2 - 1,_,by go_num,by go_num,by omega,by omega,by omega,hS3,(show Hid _ from by rw[<-HE.out]; exact (partEq_go lt a i j dk HI.out HJ.out (by omega)).symm)⟩
     case measure=>simp[intOf]; omega}
theorem Z6Z (a b pivot:Nat) (d:Array α) (w:World) (hH:St d w) (hap:a<=pivot) (hpb:pivot < b) (hb:b<=N):
 Calls Tryd.prog 89 #[.iface 57 rv,.int .i64 a,.int .i64 b,.int .i64 pivot] w fun e w'=>
  e= .returned (.tuple #[.int .i64 (Sort.partition lt d a b pivot).1,.bool (Sort.partition lt d a b pivot).2.1])/\St (Sort.partition lt d a b pivot).2.2 w':=by
 have mL:=H.mL;have mS:=H.mS;have hbig:=H.big;obtain ⟨i,hi⟩: ∃i:Nat,i=a+1:=⟨_,rfl⟩;obtain ⟨j,hj⟩: ∃j:Nat,j=b - 1:=⟨_,rfl⟩;obtain ⟨dk,hdk⟩: ∃dk:Array α,dk=Sort.swp d a pivot:=⟨_,rfl⟩;have eI: (a:Int)+1=(i:Int):=by omega
 have eJ: (b:Int) - 1=(j:Int):=by omega
 have hai:a < i:=by omega
 have hij:i<=j+1:=by omega
 have hjb:j < b:=by omega
 have HI0:Hid (i=a+1):=hi;have HJ0:Hid (j=b - 1):=hj;have HD0:Hid (dk=Sort.swp d a pivot):=hdk;clear hi hj;go_enter Tryd.func89,Tryd.ntmps89
 go_wp2_with fail
 refine (H.swapAt hH a pivot (by omega) (by omega) rfl rfl).mono ?_;rintro e w1 ⟨rfl,hS, -⟩;rw[<-hdk] at hS;clear hH hdk
 go_upto_block 0 with fail
 go_cut [10] (fun p wx=> ∃i2:Nat,p= .int .i64 i2/\i<=i2/\i2<=j+1/\St dk wx/\Hid (i2=Sort.scanUp (fun x=>lt x dk[a]!) dk j i))
 case first=>
  go_wp2_with fail
  go_loopw [10] (fun vi w1=> ∃i':Nat,vi= .int .i64 i'/\i<=i'/\i'<=j+1/\St dk w1/\Hid (Sort.scanUp (fun x=>lt x dk[a]!) dk j i'=Sort.scanUp (fun x=>lt x dk[a]!) dk j i)) (fun vi _=>j+1 - (intOf vi).toNat)
  case atStart=>exact ⟨i,rfl,Nat.le_refl _,by omega,hS,rfl⟩
  case round=>
   clear hS;obtain ⟨i',rfl,hii,hij',hS,hsc⟩:=hrel;by_cases hle:i'<=j
   {cases hlv:lt dk[i']! dk[a]! with
    | true=>
     go_wp2_with fail
     refine (H.lessAt hS i' a hlv (by omega) (by omega) rfl rfl).mono ?_;rintro e w' ⟨rfl,hS1, -⟩
     go_wp2_with fail
     go_roundw
     case rel=>exact ⟨i'+1,by go_num,by omega,by omega,hS1,(show Hid _ from (scanUp_go (fun x=>lt x dk[a]!) dk j i' hle (by simp[hlv])).symm.trans hsc.out)⟩
     case measure=>simp[intOf]; omega
    | false=>
     go_wp2_with fail
     refine (H.lessAt hS i' a hlv (by omega) (by omega) rfl rfl).mono ?_;rintro e w' ⟨rfl,hS1, -⟩
     go_wp2_with fail
     go_meet
     exact ⟨i',rfl,hii,hij',hS1,(show Hid _ from (scanUp_end (fun x=>lt x dk[a]!) dk j i' (Or.inr (by simp[hlv]))).symm.trans hsc.out)⟩}
   {go_wp2_with fail
    go_meet
    exact ⟨i',rfl,hii,hij',hS,(show Hid _ from (scanUp_end (fun x=>lt x dk[a]!) dk j i' (Or.inl hle)).symm.trans hsc.out)⟩}
 case rest=>
  clear hS;obtain ⟨i2,rfl,hi2,hi2j,hS,HI⟩:=hcut
  go_upto_block 2 with fail
  go_cut [11] (fun p wx=> ∃j2:Nat,p= .int .i64 j2/\j2<=j/\i2<=j2+1/\St dk wx/\Hid (j2=Sort.scanDown (fun x=> !lt x dk[a]!) dk i2 j))
  case first=>
   go_wp2_with fail
   go_loopw [11] (fun vj w1=> ∃j':Nat,vj= .int .i64 j'/\j'<=j/\i2<=j'+1/\St dk w1/\Hid (Sort.scanDown (fun x=> !lt x dk[a]!) dk i2 j'=Sort.scanDown (fun x=> !lt x dk[a]!) dk i2 j)) (fun vj _=>(intOf vj).toNat)
   case atStart=>exact ⟨j,rfl,Nat.le_refl _,by omega,hS,rfl⟩
   case round=>
    clear hS;obtain ⟨j',rfl,hjj,hij',hS,hsc⟩:=hrel;by_cases hle:i2<=j'
    {cases hlv:lt dk[j']! dk[a]! with
     | false=>
      go_wp2_with fail
      refine (H.lessAt hS j' a hlv (by omega) (by omega) rfl rfl).mono ?_;rintro e w' ⟨rfl,hS1, -⟩
      go_wp2_with fail
      go_roundw
      case rel=>exact ⟨j' - 1,by go_num,by omega,by omega,hS1,(show Hid _ from (scanDown_go (fun x=> !lt x dk[a]!) dk i2 j' hle (by omega) (by simp[hlv])).symm.trans hsc.out)⟩
      case measure=>simp[intOf]; omega
     | true=>
      go_wp2_with fail
      refine (H.lessAt hS j' a hlv (by omega) (by omega) rfl rfl).mono ?_;rintro e w' ⟨rfl,hS1, -⟩
      go_wp2_with fail
      go_meet
      exact ⟨j',rfl,hjj,hij',hS1,(show Hid _ from (scanDown_end (fun x=> !lt x dk[a]!) dk i2 j' (Or.inr (by simp[hlv]))).symm.trans hsc.out)⟩}
    {go_wp2_with fail
     go_meet
     exact ⟨j',rfl,hjj,hij',hS,(show Hid _ from (scanDown_end (fun x=> !lt x dk[a]!) dk i2 j' (Or.inl hle)).symm.trans hsc.out)⟩}
  case rest=>
   clear hS;obtain ⟨j2,rfl,hj2,hj2i,hS,HJ⟩:=hcut;clear eI eJ;by_cases hgt:j2 < i2
   {go_wp2_with fail
    refine (H.swapAt hS j2 a (by omega) (by omega) rfl rfl).mono ?_;rintro e w3 ⟨rfl,hS3, -⟩
    go_wp2_with fail
    go_ret2
    have e:=part_first_break lt d a b pivot HI0.out HJ0.out HD0.out HI.out HJ.out hgt;rw[e];exact ⟨rfl,hS3⟩}
   {have hlt3:=part_scans_lt lt a i j dk (by omega) HI.out HJ.out (by omega)
    go_wp2_with fail
    refine (H.swapAt hS i2 j2 (by omega) (by omega) rfl rfl).mono ?_;rintro e w3 ⟨rfl,hS3, -⟩
    go_wp2_with fail
    (try rw[decide_eq_false (show ¬j2 < i2 by omega)])
    obtain ⟨I0,hI0⟩: ∃I0:Nat,I0=i2+1:=⟨_,rfl⟩;obtain ⟨J0,hJ0⟩: ∃J0:Nat,J0=j2 - 1:=⟨_,rfl⟩;obtain ⟨D0,hD0⟩: ∃D0:Array α,D0=Sort.swp dk i2 j2:=⟨_,rfl⟩;have PF:Hid (Sort.partition lt d a b pivot=((Sort.partLoop lt a I0 J0 D0).1,false,Sort.swp (Sort.partLoop lt a I0 J0 D0).2 (Sort.partLoop lt a I0 J0 D0).1 a)):=by
     rw[hI0,hJ0,hD0]; exact part_first_go lt d a b pivot HI0.out HJ0.out HD0.out HI.out HJ.out (by omega)
    rw[<-hD0] at hS3
    go_loopw [10,11] (fun vi vj wr=> ∃(i j:Nat) (dk:Array α),vi= .int .i64 i/\vj= .int .i64 j/\a < i/\i<=j+1/\j < b/\St dk wr/\Hid (Sort.partLoop lt a i j dk=Sort.partLoop lt a I0 J0 D0))
     (fun vi vj _=>(intOf vj).toNat+1 - (intOf vi).toNat)
    case atStart=>exact ⟨I0,J0,D0,by rw[hI0]; go_num,by rw[hJ0]; go_num,by omega,by omega,by omega,hS3,rfl⟩
    case round=>
     clear hI0 hJ0 hD0 HJ HI hS hS3 hlt3 hgt HI0 HJ0 HD0 hj2 hj2i hi2 hi2j hai hij hjb;obtain ⟨i,j,dk,rfl,rfl,hai,hij,hjb,hS,HE⟩:=hrel
     go_upto_block 6 with fail
     go_cut [10] (fun p wx=> ∃i2:Nat,p= .int .i64 i2/\i<=i2/\i2<=j+1/\St dk wx/\Hid (i2=Sort.scanUp (fun x=>lt x dk[a]!) dk j i))
     case first=>
      go_wp2_with fail
      go_loopw [10] (fun vi w1=> ∃i':Nat,vi= .int .i64 i'/\i<=i'/\i'<=j+1/\St dk w1/\Hid (Sort.scanUp (fun x=>lt x dk[a]!) dk j i'=Sort.scanUp (fun x=>lt x dk[a]!) dk j i)) (fun vi _=>j+1 - (intOf vi).toNat)
      case atStart=>exact ⟨i,rfl,Nat.le_refl _,by omega,hS,rfl⟩
      case round=>
       clear hS;obtain ⟨i',rfl,hii,hij',hS,hsc⟩:=hrel;by_cases hle:i'<=j
       {cases hlv:lt dk[i']! dk[a]! with
        | true=>
         go_wp2_with fail
         refine (H.lessAt hS i' a hlv (by omega) (by omega) rfl rfl).mono ?_;rintro e w' ⟨rfl,hS1, -⟩
         go_wp2_with fail
         go_roundw
         case rel=>exact ⟨i'+1,by go_num,by omega,by omega,hS1,(show Hid _ from (scanUp_go (fun x=>lt x dk[a]!) dk j i' hle (by simp[hlv])).symm.trans hsc.out)⟩
         case measure=>simp[intOf]; omega
        | false=>
         go_wp2_with fail
         refine (H.lessAt hS i' a hlv (by omega) (by omega) rfl rfl).mono ?_;rintro e w' ⟨rfl,hS1, -⟩
         go_wp2_with fail
         go_meet
         exact ⟨i',rfl,hii,hij',hS1,(show Hid _ from (scanUp_end (fun x=>lt x dk[a]!) dk j i' (Or.inr (by simp[hlv]))).symm.trans hsc.out)⟩}
       {go_wp2_with fail
        go_meet
        exact ⟨i',rfl,hii,hij',hS,(show Hid _ from (scanUp_end (fun x=>lt x dk[a]!) dk j i' (Or.inl hle)).symm.trans hsc.out)⟩}
     case rest=>
      clear hS;obtain ⟨i2,rfl,hi2,hi2j,hS,HI⟩:=hcut
      go_upto_block 8 with fail
      go_cut [11] (fun p wx=> ∃j2:Nat,p= .int .i64 j2/\j2<=j/\i2<=j2+1/\St dk wx/\Hid (j2=Sort.scanDown (fun x=> !lt x dk[a]!) dk i2 j))
      case first=>
       go_wp2_with fail
       go_loopw [11] (fun vj w1=> ∃j':Nat,vj= .int .i64 j'/\j'<=j/\i2<=j'+1/\St dk w1/\Hid (Sort.scanDown (fun x=> !lt x dk[a]!) dk i2 j'=Sort.scanDown (fun x=> !lt x dk[a]!) dk i2 j)) (fun vj _=>(intOf vj).toNat)
       case atStart=>exact ⟨j,rfl,Nat.le_refl _,by omega,hS,rfl⟩
       case round=>
        clear hS;obtain ⟨j',rfl,hjj,hij',hS,hsc⟩:=hrel;by_cases hle:i2<=j'
        {cases hlv:lt dk[j']! dk[a]! with
         | false=>
          go_wp2_with fail
          refine (H.lessAt hS j' a hlv (by omega) (by omega) rfl rfl).mono ?_;rintro e w' ⟨rfl,hS1, -⟩
          go_wp2_with fail
          go_roundw
          case rel=>exact ⟨j' - 1,by go_num,by omega,by omega,hS1,(show Hid _ from (scanDown_go (fun x=> !lt x dk[a]!) dk i2 j' hle (by omega) (by simp[hlv])).symm.trans hsc.out)⟩
          case measure=>simp[intOf]; omega
         | true=>
          go_wp2_with fail
          refine (H.lessAt hS j' a hlv (by omega) (by omega) rfl rfl).mono ?_;rintro e w' ⟨rfl,hS1, -⟩
          go_wp2_with fail
          go_meet
          exact ⟨j',rfl,hjj,hij',hS1,(show Hid _ from (scanDown_end (fun x=> !lt x dk[a]!) dk i2 j' (Or.inr (by simp[hlv]))).symm.trans hsc.out)⟩}
        {go_wp2_with fail
         go_meet
         exact ⟨j',rfl,hjj,hij',hS,(show Hid _ from (scanDown_end (fun x=> !lt x dk[a]!) dk i2 j' (Or.inl hle)).symm.trans hsc.out)⟩}
      case rest=>
       clear hS;obtain ⟨j2,rfl,hj2,hj2i,hS,HJ⟩:=hcut;by_cases hgt:j2 < i2
       {have HE2:Hid (Sort.partLoop lt a I0 J0 D0=(j2,dk)):=HE.out.symm.trans (part_break lt a i j dk HI.out HJ.out hgt)
        go_wp2_with fail
        refine (H.swapAt hS j2 a (by omega) (by omega) rfl rfl).mono ?_;rintro e w3 ⟨rfl,hS3, -⟩
        go_wp2_with fail
        go_ret2
        rw[PF.out,HE2.out];exact ⟨rfl,hS3⟩}
       {have hlt3:=part_scans_lt lt a i j dk (by omega) HI.out HJ.out (by omega)
        go_wp2_with fail
        refine (H.swapAt hS i2 j2 (by omega) (by omega) rfl rfl).mono ?_;rintro e w3 ⟨rfl,hS3, -⟩
        go_wp2_with fail
        go_roundw
        case rel=>exact ⟨i2+1,j2 - 1,_,by go_num,by go_num,by omega,by omega,by omega,hS3,(show Hid _ from by rw[<-HE.out]; exact (part_go lt a i j dk HI.out HJ.out (by omega)).symm)⟩
        case measure=>simp[intOf]; omega}}
theorem Z8Z (a b:Nat) (d:Array α) (w:World) (hH:St d w) (hab:a < b) (hb:b<=N):
 Calls Tryd.prog 87 #[.iface 57 rv,.int .i64 a,.int .i64 b] w fun e w'=>
  e= .returned (.bool (Sort.partialInsertionSort lt d a b).2)/\St (Sort.partialInsertionSort lt d a b).1 w':=by
 have mL:=H.mL;have mS:=H.mS;have hbig:=H.big;go_enter Tryd.func87,Tryd.ntmps87
 go_wp2_with fail
 go_loopw [7,8] (fun vi vs wr=> ∃(i s:Nat) (dk:Array α),vi= .int .i64 i/\vs= .int .i64 s/\s<=5/\a < i/\i<=b/\St dk wr/\Hid (partialIns lt a b (5 - s) i dk=partialIns lt a b 5 (a+1) d)) (fun _ vs _=>5 - (intOf vs).toNat)
 case atStart=>exact ⟨a+1,0,d,by go_num,rfl,by omega,by omega,by omega,hH,rfl⟩
 case round=>
  clear hH;obtain ⟨i,s,dk,rfl,rfl,hs5,hai,hib,hS,HO⟩:=hrel;by_cases hs:s < 5
  {go_upto_block 2 with fail
   (try rw[decide_eq_true (show (s:Int) < 5 by omega)])
   go_cut [7] (fun p wx=> ∃k:Nat,p= .int .i64 k/\i<=k/\k<=b/\St dk wx/\Hid (scanSorted lt dk b i=k))
   case first=>
    go_wp2_with fail
    go_loopw [7] (fun vi w1=> ∃k:Nat,vi= .int .i64 k/\i<=k/\k<=b/\St dk w1/\Hid (scanSorted lt dk b i=scanSorted lt dk b k)) (fun vi _=>b - (intOf vi).toNat)
    case atStart=>exact ⟨i,rfl,Nat.le_refl _,hib,hS,rfl⟩
    case round=>
     clear hS;obtain ⟨k,rfl,hik,hkb,hS,hsc⟩:=hrel;by_cases hlt:k < b
     {cases hlv:lt dk[k]! dk[k - 1]! with
      | false=>
       go_wp2_with fail
       refine (H.lessAt hS k (k - 1) hlv (by omega) (by omega) (by omega) (by omega)).mono ?_;rintro e w' ⟨rfl,hS1, -⟩
       go_wp2_with fail
       go_roundw
       case rel=>exact ⟨k+1,by go_num,by omega,by omega,hS1,(show Hid _ from hsc.out.trans (scanSorted_go lt dk b k hlt hlv))⟩
       case measure=>simp[intOf]; omega
      | true=>
       go_wp2_with fail
       refine (H.lessAt hS k (k - 1) hlv (by omega) (by omega) (by omega) (by omega)).mono ?_;rintro e w' ⟨rfl,hS1, -⟩
       go_wp2_with fail
       go_meet
       exact ⟨k,rfl,hik,hkb,hS1,(show Hid _ from hsc.out.trans (scanSorted_stop lt dk b k (Or.inr hlv)))⟩}
     {go_wp2_with fail
      go_meet
      exact ⟨k,rfl,hik,hkb,hS,(show Hid _ from hsc.out.trans (scanSorted_stop lt dk b k (Or.inl hlt)))⟩}
   case rest=>
    clear hS;obtain ⟨k,rfl,hik,hkb,hS,HK⟩:=hcut;by_cases hkb':k=b
    {have hx:=HO.out.symm.trans (pi_true lt a b s i dk hs (by rw[HK.out,hkb']));have HX:Hid _:=hx;clear hx;subst hkb'
     go_wp2_with fail
     go_ret;unfold Sort.partialInsertionSort;rw[HX.out];exact ⟨rfl,hS⟩}
    {by_cases h50:b - a < 50
     {have hx:=HO.out.symm.trans (pi_short lt a b s i dk hs (by rw[HK.out]; exact hkb') h50);have HX:Hid _:=hx;clear hx;have h50z: (b:Int) - (a:Int) < 50:=by omega
      go_wp2_with fail
      go_ret;unfold Sort.partialInsertionSort;rw[HX.out];exact ⟨rfl,hS⟩}
     {have hx:=HO.out.symm.trans (pi_go lt a b s i k dk hs HK.out hkb' h50);have HX:Hid _:=hx;clear hx HO HK;have h50z: ¬(b:Int) - (a:Int) < 50:=by omega
      go_wp2_with fail
      refine (H.swapAt hS k (k - 1) (by omega) (by omega) (by omega) (by omega)).mono ?_;rintro e w1 ⟨rfl,hS1, -⟩;obtain ⟨d1,hd1⟩: ∃d1:Array α,d1=swp dk k (k - 1):=⟨_,rfl⟩;rw[<-hd1] at hS1 HX;clear hS hd1
      go_upto_if 45 with fail
      go_cut [9] (fun p wx=>St (fixDown lt a k d1) wx)
      case first=>
       clear HX;by_cases h2:k - a>=2
       {have h2z: (2:Int)<=(k:Int) - (a:Int):=by omega
        go_wp2_with fail
        (try rw[decide_eq_true h2z])
        go_loopw [9] (fun vj w1=> ∃(j:Nat) (dj:Array α),vj= .int .i64 j/\j < k/\St dj w1/\Hid (shiftDown lt j dj=fixDown lt a k d1)) (fun vj _=>(intOf vj).toNat)
        case atStart=>exact ⟨k - 1,d1,by go_num,by omega,hS1,(show Hid _ from by unfold fixDown; rw[if_pos h2]; rfl)⟩
        case round=>
         clear hS1;obtain ⟨j,dj,rfl,hjk,hS,HJ⟩:=hrel;by_cases hj:1<=j
         {cases hlv:lt dj[j]! dj[j - 1]! with
          | true=>
           go_wp2_with fail
           refine (H.lessAt hS j (j - 1) hlv (by omega) (by omega) (by omega) (by omega)).mono ?_;rintro e w' ⟨rfl,hS1, -⟩
           go_wp2_with fail
           refine (H.swapAt hS1 j (j - 1) (by omega) (by omega) (by omega) (by omega)).mono ?_;rintro e w2 ⟨rfl,hS2, -⟩
           go_wp2_with fail
           go_roundw
           case rel=>exact ⟨j - 1,_,by go_num,by omega,hS2,(show Hid _ from (shiftDown_go lt j dj hj hlv).symm.trans HJ.out)⟩
           case measure=>simp[intOf]; omega
          | false=>
           go_wp2_with fail
           refine (H.lessAt hS j (j - 1) hlv (by omega) (by omega) (by omega) (by omega)).mono ?_;rintro e w' ⟨rfl,hS1, -⟩
           go_wp2_with fail
           go_meet
           rw[<-HJ.out,shiftDown_stop lt j dj (Or.inr hlv)];exact hS1}
         {go_wp2_with fail
          go_meet
          rw[<-HJ.out,shiftDown_stop lt j dj (Or.inl (by omega))];exact hS}}
       {have h2z: ¬(2:Int)<=(k:Int) - (a:Int):=by omega
        go_wp2_with fail
        go_meet
        unfold fixDown;rw[if_neg h2];exact hS1}
      case rest=>
       clear hS1;generalize fixDown lt a k d1=d2 at hcut HX
       rename_i hS1
       have END: ∀d3 wx,St d3 wx->d3=fixUp lt b k d2-> ∃(i' s':Nat) (dk':Array α),Value.int .i64 (k:Int)= .int .i64 (i':Nat)/\Value.int .i64 ((s:Int)+1)= .int .i64 (s':Nat)/\s'<=5/\a < i'/\i'<=b/\St dk' wx/\Hid (partialIns lt a b (5 - s') i' dk'=partialIns lt a b 5 (a+1) d):=
        fun d3 wx h3 e3=>⟨k,s+1,d3,rfl,by go_num,by omega,by omega,by omega,h3,by rw[e3]; exact HX.out.symm⟩
       have HE:Hid _:=END;clear END;by_cases h2:b - k>=2
       {have h2z: (2:Int)<=(b:Int) - (k:Int):=by omega
        go_wp2_with fail
        (try rw[decide_eq_true h2z])
        go_loopw [10] (fun vj w1=> ∃(j:Nat) (dj:Array α),vj= .int .i64 j/\k < j/\j<=b/\St dj w1/\Hid (shiftUp lt b j dj=fixUp lt b k d2)) (fun vj _=>b - (intOf vj).toNat)
        case atStart=>exact ⟨k+1,d2,by go_num,by omega,by omega,hcut,(show Hid _ from by unfold fixUp; rw[if_pos h2]; rfl)⟩
        case round=>
         clear hcut;obtain ⟨j,dj,rfl,hkj,hjb,hS,HJ⟩:=hrel;by_cases hj:j < b
         {cases hlv:lt dj[j]! dj[j - 1]! with
          | true=>
           go_wp2_with fail
           refine (H.lessAt hS j (j - 1) hlv (by omega) (by omega) (by omega) (by omega)).mono ?_;rintro e w' ⟨rfl,hS1, -⟩
           go_wp2_with fail
           refine (H.swapAt hS1 j (j - 1) (by omega) (by omega) (by omega) (by omega)).mono ?_;rintro e w2 ⟨rfl,hS2, -⟩
           go_wp2_with fail
           go_roundw
           case rel=>exact ⟨j+1,_,by go_num,by omega,by omega,hS2,(show Hid _ from (shiftUp_go lt b j dj hj hlv).symm.trans HJ.out)⟩
           case measure=>simp[intOf]; omega
          | false=>
           go_wp2_with fail
           refine (H.lessAt hS j (j - 1) hlv (by omega) (by omega) (by omega) (by omega)).mono ?_;rintro e w' ⟨rfl,hS1, -⟩
           go_wp2_with fail
           go_roundw
           case rel=>exact HE.out dj _ hS1 (by rw[<-HJ.out,shiftUp_stop lt b j dj (Or.inr hlv)])
           case measure=>simp[intOf]; omega}
         {go_wp2_with fail
          go_roundw
          case rel=>exact HE.out dj _ hS (by rw[<-HJ.out,shiftUp_stop lt b j dj (Or.inl hj)])
          case measure=>simp[intOf]; omega}}
       {have h2z: ¬(2:Int)<=(b:Int) - (k:Int):=by omega
        go_wp2_with fail
        go_roundw
        case rel=>exact HE.out d2 _ hcut (by unfold fixUp; rw[if_neg h2])
        case measure=>simp[intOf]; omega}}}}
  {have hx:s=5:=by omega
   subst hx;have HX:Hid _:=HO.out.symm.trans (pi_end lt a b i dk);clear HO
   go_wp2_with fail
   go_ret;unfold Sort.partialInsertionSort;rw[HX.out];exact ⟨rfl,hS⟩}
end
def Sorts {α:Type} [Inhabited α] (lt:α->α->Bool) (a b:Nat) (d:Array α) (a' b':Nat) (dk:Array α):Prop:= ∀R,PermIn a' b' dk R->SortedIn lt a' b' R->PermIn a b d R/\SortedIn lt a b R
theorem Sorts.perm {a b a' b':Nat} {d dk d2:Array α} (h:Sorts lt a b d a' b' dk) (hp:PermIn a' b' dk d2):Sorts lt a b d a' b' d2:=fun R h1 h2=>h R (permIn_trans _ _ _ a' b' hp h1) h2
theorem Z85 (H:Srt N B rv lt St) (hO:SWO lt): ∀(n a b limit:Nat) (d:Array α) (w:World),b - a < n->St d w->a<=b->b<=N->limit < 1000000->Sort.Below lt a b d->
 Calls Tryd.prog 66 #[.iface 57 rv,.int .i64 a,.int .i64 b,.int .i64 limit] w fun e w'=>e= .returned (.tuple #[])/\ ∃d',PermIn a b d d'/\SortedIn lt a b d'/\St d' w':=by
 have mL:=H.mL;have mS:=H.mS;have hbig:=H.big;intro n;induction n with
 | zero=>intro _ _ _ _ _ h; exact absurd h (Nat.not_lt_zero _)
 | succ n ih=>
  intro a b limit d w hn hH hab hb hlimit hBel;have IH:Hid _:=ih;clear ih;go_enter Tryd.func66,Tryd.ntmps66;go_wp2
  go_loopg [1,2,3,8,9] (b - a) (fun k s1 s2 s3 s8 s9 wr=> ∃(a' b' lim:Nat) (wb wp:Bool) (dk:Array α),s1= .int .i64 a'/\s2= .int .i64 b'/\s3= .int .i64 lim/\s8= .bool wb/\s9= .bool wp/\
   a'<=b'/\b'<=b/\b' - a'<=k/\k<=b - a/\lim<=limit/\St dk wr/\Hid (Sort.Below lt a' b' dk)/\Hid (Sorts lt a b d a' b' dk))
  case atStart=>exact ⟨a,b,limit,true,true,d,rfl,rfl,rfl,rfl,rfl,hab,Nat.le_refl _,Nat.le_refl _,Nat.le_refl _,Nat.le_refl _,hH,hBel,(show Hid _ from fun R h1 h2=>⟨h1,h2⟩)⟩
  case round=>
   clear hH hBel;obtain ⟨a',b',lim,wb,wp,dk,rfl,rfl,rfl,rfl,rfl,hab',hb',hk,hkN,hlim,hS,HB,HA⟩:=hrel;have hsk:=H.size _ _ hS;by_cases h12:b' - a'<=12
   {have h12z: (b':Int) - (a':Int)<=12:=by omega
    go_wp2_with fail
    refine (Z82 H a' b' dk _ hS hab' (by omega)).mono ?_;rintro e w1 ⟨rfl,hS1⟩
    go_wp2_with fail
    (try simp only[Exit.inBlock,Exit.then]); refine bodyPost_ret (results_none rfl _ _ _) rfl ?_
    obtain ⟨r1,r2⟩:=insertionSort_holds hO dk a' b' hab' (by omega);exact ⟨rfl,_,(HA.out _ r1 r2).1,(HA.out _ r1 r2).2,hS1⟩}
   {have h12z: ¬(b':Int) - (a':Int)<=12:=by omega
    by_cases hl0:lim=0
    {subst hl0
     go_wp2_with fail
     refine (Z6X H a' b' dk _ hS (by omega) (by omega)).mono ?_;rintro e w1 ⟨rfl,hS1⟩
     go_wp2_with fail
     (try simp only[Exit.inBlock,Exit.then]); refine bodyPost_ret (results_none rfl _ _ _) rfl ?_
     obtain ⟨r1,r2⟩:=heapSort_holds hO dk a' b' hab' (by omega);exact ⟨rfl,_,(HA.out _ r1 r2).1,(HA.out _ r1 r2).2,hS1⟩}
    {have hl0z: ¬(lim:Int)=0:=by omega
     go_upto_if 35 with fail
     go_cut [3] (fun p wx=> ∃(l2:Nat) (d2:Array α),p= .int .i64 l2/\l2<=lim/\Hid (PermIn a' b' dk d2)/\St d2 wx)
     case first=>
      cases wb with
      | true=>
       go_wp2_with fail
       go_meet
       exact ⟨lim,dk,rfl,Nat.le_refl _,permIn_refl _ _ _,hS⟩
      | false=>
       go_wp2_with fail
       refine (Z5T H a' b' dk _ hS (by omega) (by omega)).mono ?_;rintro e w1 ⟨rfl,d2,hp,hS1⟩;have HP:Hid _:=hp;clear hp
       go_wp2_with fail
       go_meet
       exact ⟨lim - 1,d2,by go_num,by omega,HP,hS1⟩
     case rest=>
      clear hS;obtain ⟨l2,d2,rfl,hl2,HP2,hS⟩:=hcut;have HB2:Hid (Sort.Below lt a' b' d2):=HB.out.perm (by omega) HP2.out;have HA2:Hid (Sorts lt a b d a' b' d2):=HA.out.perm HP2.out;clear HB HA HP2 hsk
      go_wp2_with fail
      refine (Z5U H a' b' d2 _ hS (by omega) (by omega)).mono ?_;rintro e w1 ⟨pv,hint,rfl,hp1,hp2,hh0,hh2,hS1⟩;have hsk:=H.size _ _ hS1
      go_upto_if 50 with fail
      go_cut [11,12] (fun p h wx=> ∃(p2:Nat) (h2:Int) (d3:Array α),p= .int .i64 p2/\h= .int .i64 h2/\a'<=p2/\p2 < b'/\Hid (PermIn a' b' d2 d3)/\St d3 wx)
      case first=>
       by_cases h2:hint=2
       {subst h2
        go_wp2_with fail
        refine (Z83 H a' b' d2 _ hS1 (by omega) (by omega)).mono ?_;rintro e w2 ⟨rfl,d3,hp,hS2⟩;have HP:Hid _:=hp;clear hp
        go_wp2_with fail
        go_meet
        exact ⟨(b' - 1) - (pv - a'),1,d3,by congr 1; omega,rfl,by omega,by omega,HP,hS2⟩}
       {go_wp2_with fail
        go_meet
        exact ⟨pv,hint,d2,rfl,rfl,hp1,hp2,permIn_refl _ _ _,hS1⟩}
      case rest=>
       clear hS hS1 hp1 hp2 hh0 hh2;obtain ⟨p,h,d3,rfl,rfl,hp1,hp2,HP3,hS⟩:=hcut;have HB3:Hid (Sort.Below lt a' b' d3):=HB2.out.perm (by omega) HP3.out;have HA3:Hid (Sorts lt a b d a' b' d3):=HA2.out.perm HP3.out;clear HB2 HA2 HP3 hsk;have hsk:=H.size _ _ hS
       go_upto_region 15 with fail
       go_cut [68] (fun q wx=> ∃v:Bool,q= .bool v/\St d3 wx)
       case first=>
        cases wb with
        | false=>
         go_wp2_with fail
         go_meet
         exact ⟨_,rfl,hS⟩
        | true=>
         cases wp with
         | false=>
          go_wp2_with fail
          go_meet
          exact ⟨_,rfl,hS⟩
         | true=>
          go_wp2_with fail
          go_meet
          exact ⟨_,rfl,hS⟩
       case rest=>
        clear hS;obtain ⟨v,rfl,hS⟩:=hcut
        go_upto_if 68 with fail
        go_cut [0] (fun q wx=> ∃d4:Array α,q= .iface 57 rv/\Hid (PermIn a' b' d3 d4)/\St d4 wx)
        case first=>
         cases v with
         | false=>
          go_wp2_with fail
          go_meet
          exact ⟨d3,rfl,permIn_refl _ _ _,hS⟩
         | true=>
          have hpi:=partialInsertionSort_holds hO d3 a' b' (by omega) (by omega) HB3.out;have hc:=Z8Z H a' b' d3 wc hS (by omega) (by omega);generalize Sort.partialInsertionSort lt d3 a' b'=r at hpi hc;obtain ⟨d4,u⟩:=r;have HPI:Hid _:=hpi;clear hpi;cases u with
          | true=>
           go_wp2_with fail
           refine hc.mono ?_;rintro e w2 ⟨rfl,hS2⟩;clear hc
           go_wp2_with fail
           (try simp only[Exit.inBlock,Exit.then]); refine bodyPost_ret (results_none rfl _ _ _) rfl ?_
           obtain ⟨r1,r2⟩:=HPI.out;have r3:=r2 (by first | trivial | rfl);exact ⟨rfl,_,(HA3.out _ r1 r3).1,(HA3.out _ r1 r3).2,hS2⟩
          | false=>
           go_wp2_with fail
           refine hc.mono ?_;rintro e w2 ⟨rfl,hS2⟩;clear hc
           go_wp2_with fail
           go_meet
           exact ⟨d4,rfl,HPI.out.1,hS2⟩
        case rest=>
         clear hS;obtain ⟨d4,rfl,HP4,hS⟩:=hcut;have HB4:Hid (Sort.Below lt a' b' d4):=HB3.out.perm (by omega) HP4.out;have HA4:Hid (Sorts lt a b d a' b' d4):=HA3.out.perm HP4.out;clear HB3 HA3 HP4 hsk;have hsk:=H.size _ _ hS
         go_upto_region 17 with fail
         go_cut [82] (fun q wx=> ∃v:Bool,q= .bool v/\St d4 wx/\Hid (v=true->0 < a'/\lt d4[a' - 1]! d4[p]! =false))
         case first=>
          by_cases ha0:0 < a'
          {cases hlv:lt d4[a' - 1]! d4[p]! with
           | true=>
            go_wp2_with fail
            refine (H.lessAt hS (a' - 1) p hlv (by omega) (by omega) (by omega) rfl).mono ?_;rintro e w2 ⟨rfl,hS2, -⟩
            go_wp2_with fail
            go_meet
            exact ⟨_,rfl,hS2,(show Hid _ from fun h=>by cases h)⟩
           | false=>
            go_wp2_with fail
            refine (H.lessAt hS (a' - 1) p hlv (by omega) (by omega) (by omega) rfl).mono ?_;rintro e w2 ⟨rfl,hS2, -⟩
            go_wp2_with fail
            go_meet
            exact ⟨_,rfl,hS2,(show Hid _ from fun _=>⟨ha0,hlv⟩)⟩}
          {go_wp2_with fail
           go_meet
           exact ⟨_,rfl,hS,(show Hid _ from fun h=>by cases h)⟩}
         case rest=>
          clear hS;obtain ⟨v,rfl,hS,HV⟩:=hcut;cases v with
          | true=>
           have hv:=HV.out (by first | trivial | rfl);have hc:=Z84 H a' b' p d4 wc hS hp1 hp2 (by omega);obtain ⟨mid,d5,hx⟩: ∃mid d5,partitionEqual lt d4 a' b' p=(mid,d5):=⟨_,_,rfl⟩;obtain ⟨r1,r2,r3,r4,r5⟩:=round_eq hO (partitionEqual_holds lt) hv.1 hp1 hp2 (by omega) HB4.out hv.2 hx;rw[hx] at hc;have R4:Hid _:=r4;have R5:Hid _:=r5;clear r4 r5 hx hv
           go_wp2_with fail
           refine hc.mono ?_;rintro e w2 ⟨rfl,hS2⟩;clear hc
           go_wp2_with fail
           go_roundg (b' - mid)
           case measure=>omega
           case rel=>exact ⟨mid,b',l2,wb,wp,d5,rfl,rfl,rfl,rfl,rfl,r2,hb',Nat.le_refl _,by omega,by omega,hS2,R4,(show Hid _ from fun R h1 h2=>HA4.out R (R5.out R h1 h2).1 (R5.out R h1 h2).2)⟩
          | false=>
           have hc:=Z6Z H a' b' p d4 wc hS hp1 hp2 (by omega);obtain ⟨mid,ap,d5,hx⟩: ∃mid ap d5,partition lt d4 a' b' p=(mid,ap,d5):=⟨_,_,_,rfl⟩;obtain ⟨r1,r2,r3,r4,r5,r6,r7⟩:=round_part hO (partition_holds lt) hp1 hp2 (by omega) HB4.out hx;rw[hx] at hc;have R4:Hid _:=r4;have R5:Hid _:=r5;have R6:Hid _:=r6;have R7:Hid _:=r7;clear r4 r5 r6 r7 hx HV
           go_wp2_with fail
           refine hc.mono ?_;rintro e w2 ⟨rfl,hS2⟩;clear hc;by_cases h4:mid - a' < b' - mid
           {have h4z: (mid:Int) - (a':Int) < (b':Int) - (mid:Int):=by omega
            go_wp2_with fail
            refine (IH.out a' mid l2 d5 _ (by omega) hS2 (by omega) (by omega) (by omega) R4.out).mono ?_;rintro e w3 ⟨rfl,d6,q1,q2,hS3⟩;have Q:=R6.out d6 q1 q2;have Q1:Hid _:=Q;clear Q q1 q2
            go_wp2_with fail
            go_roundg (b' - (mid+1))
            case measure=>omega
            case rel=>exact ⟨mid+1,b',l2,_,ap,d6,by go_num,rfl,rfl,rfl,rfl,by omega,by omega,Nat.le_refl _,by omega,by omega,hS3,(show Hid _ from Q1.out.1),(show Hid _ from fun R h1 h2=>HA4.out R (Q1.out.2 R h1 h2).1 (Q1.out.2 R h1 h2).2)⟩}
           {have h4z: ¬(mid:Int) - (a':Int) < (b':Int) - (mid:Int):=by omega
            have hih:=IH.out (mid+1) b' l2 d5;rw[show ((mid+1:Nat):Int)=(mid:Int)+1 by omega] at hih
            go_wp2_with fail
            refine (hih _ (by omega) hS2 (by omega) (by omega) (by omega) R5.out).mono ?_;rintro e w3 ⟨rfl,d6,q1,q2,hS3⟩;have Q:=R7.out d6 q1 q2;have Q1:Hid _:=Q;clear Q q1 q2 hih
            go_wp2_with fail
            go_roundg (mid - a')
            case measure=>omega
            case rel=>exact ⟨a',mid,l2,_,ap,d6,rfl,rfl,rfl,rfl,rfl,by omega,by omega,Nat.le_refl _,by omega,by omega,hS3,(show Hid _ from Q1.out.1),(show Hid _ from fun R h1 h2=>HA4.out R (Q1.out.2 R h1 h2).1 (Q1.out.2 R h1 h2).2)⟩}}}
theorem Z86 (n:Nat) (hn:n < 1000000):bitsLen n<=20:=(bitsLen_le_iff n 20).2 (by omega)
theorem Z3L (H:Srt N B rv lt St) (hO:SWO lt) (mN: ∀w,Sem.run Tryd.prog (method (Tryd.prog.types.size+100) 57 rv "Len") w= .ok (122,rv) w)
 (hlen: ∀d w,St d w->Calls Tryd.prog 122 #[rv] w fun e w'=>e= .returned (.int .i64 (N:Int))/\St d w') (d:Array α) (w:World) (hH:St d w):
 Calls Tryd.prog 50 #[.iface 57 rv] w fun e w'=>e= .returned (.tuple #[])/\ ∃d',PermIn 0 N d d'/\SortedIn lt 0 N d'/\St d' w':=by
 have hbig:=H.big;have hsz:=H.size _ _ hH;have hb:=Z86 N hbig;by_cases h1:N<=1
 {have h1z: (N:Int)<=1:=by omega
  go_enter Tryd.func50,Tryd.ntmps50
  go_wp2_with fail
  refine (hlen d _ hH).mono ?_;rintro e w1 ⟨rfl,hS1⟩
  go_wp2_with fail
  (try simp only[Exit.inBlock,Exit.then]); refine bodyPost_ret (results_none rfl _ _ _) rfl ?_
  exact ⟨rfl,d,permIn_refl _ _ _,fun i j _ h2 h3=>absurd h3 (by omega),hS1⟩}
 {have h1z: ¬(N:Int)<=1:=by omega
  have wr:IntKind.u64.wrap (N:Int)=N:=by rw[IntKind.wrap_u64]; omega
  go_enter Tryd.func50,Tryd.ntmps50
  go_wp2_with fail
  refine (hlen d _ hH).mono ?_;rintro e w1 ⟨rfl,hS1⟩
  go_wp2_with fail
  refine (Z4h N (by omega) _).mono ?_;rintro e w2 ⟨rfl,rfl⟩
  go_wp2_with fail
  have hc:=Z85 H hO (N+1) 0 N (bitsLen N) d _ (by omega) hS1 (by omega) (by omega) (by omega) (Or.inl rfl);refine hc.mono ?_;rintro e w3 ⟨rfl,d',q1,q2,hS3⟩;clear hc
  go_wp2_with fail
  go_end0
  exact ⟨rfl,d',q1,q2,hS3⟩}
end
section
open Go.RowKit Shp
def fv (t:Sh) (q:Ptr):Value:= .agg (Y8 t q)
section
variable (t : Sh) (q : Ptr) (w : World)
include t q w
theorem Z4i:Calls Tryd.prog 122 #[.agg #[.int .i64 t.kind,.string ⟨t.of_.toArray⟩,.string ⟨t.name.toArray⟩,.slice q.A t.names.length q.c,.slice q.P t.parts.length q.d]] w fun e w'=>e= .returned (.int .i64 (t.names.length:Int))/\Below w.heap.size w w':=by
  go_enter Tryd.func122,Tryd.ntmps122;go_wp2;go_ret;exact ⟨rfl,Z01 _ _⟩
theorem fmL:Sem.run Tryd.prog (method (Tryd.prog.types.size+100) 57 (.agg #[.int .i64 t.kind,.string ⟨t.of_.toArray⟩,.string ⟨t.name.toArray⟩,.slice q.A t.names.length q.c,.slice q.P t.parts.length q.d]) "Less") w= .ok (123,.agg #[.int .i64 t.kind,.string ⟨t.of_.toArray⟩,.string ⟨t.name.toArray⟩,.slice q.A t.names.length q.c,.slice q.P t.parts.length q.d]) w:=by kernel_rfl
theorem fmS:Sem.run Tryd.prog (method (Tryd.prog.types.size+100) 57 (.agg #[.int .i64 t.kind,.string ⟨t.of_.toArray⟩,.string ⟨t.name.toArray⟩,.slice q.A t.names.length q.c,.slice q.P t.parts.length q.d]) "Swap") w= .ok (124,.agg #[.int .i64 t.kind,.string ⟨t.of_.toArray⟩,.string ⟨t.name.toArray⟩,.slice q.A t.names.length q.c,.slice q.P t.parts.length q.d]) w:=by kernel_rfl
theorem fmN:Sem.run Tryd.prog (method (Tryd.prog.types.size+100) 57 (.agg #[.int .i64 t.kind,.string ⟨t.of_.toArray⟩,.string ⟨t.name.toArray⟩,.slice q.A t.names.length q.c,.slice q.P t.parts.length q.d]) "Len") w= .ok (122,.agg #[.int .i64 t.kind,.string ⟨t.of_.toArray⟩,.string ⟨t.name.toArray⟩,.slice q.A t.names.length q.c,.slice q.P t.parts.length q.d]) w:=by kernel_rfl
end
theorem Z70 (K:Int) (o m:ByteArray) (bn n c d:Nat) (P:Option Addr) (l:Nat) (x y:List UInt8) (i j:Nat) (w:World) (hi:i < n) (hj:j < n) (hn:n < 1000000) (hb:bn < w.heap.size)
 (c1:w.cell? ⟨bn,i,none⟩=some (.string ⟨x.toArray⟩)) (c2:w.cell? ⟨bn,j,none⟩=some (.string ⟨y.toArray⟩)):
 Y9 123 #[.agg #[.int .i64 K,.string o,.string m,.slice (some ⟨bn,0,none⟩) n c,.slice P l d],.int .i64 i,.int .i64 j] w (.bool (decide (x < y))):=by
 have k1:=((Z01 w (.cells #[.int .i64 K,.string o,.string m,.slice (some ⟨bn,0,none⟩) n c,.slice P l d] 57)).cell (p:=⟨bn,i,none⟩) hb).trans c1;have k2:=((Z01 w (.cells #[.int .i64 K,.string o,.string m,.slice (some ⟨bn,0,none⟩) n c,.slice P l d] 57)).cell (p:=⟨bn,j,none⟩) hb).trans c2;have b3: (w.alloc (.cells #[.int .i64 K,.string o,.string m,.slice (some ⟨bn,0,none⟩) n c,.slice P l d] 57)).cell? ⟨w.heap.size,3,none⟩=some (.slice (some ⟨bn,0,none⟩) n c):=by rw[World.cell?_alloc_at _ _ _ _ rfl]; rfl
 have HW:=Z01 w (.cells #[.int .i64 K,.string o,.string m,.slice (some ⟨bn,0,none⟩) n c,.slice P l d] 57);clear c1 c2;go_enter Tryd.func123,Tryd.ntmps123
 go_upto_region 1 with fail
 generalize w.alloc (.cells #[.int .i64 K,.string o,.string m,.slice (some ⟨bn,0,none⟩) n c,.slice P l d] 57)=W0 at k1 k2 b3 HW ⊢;have HW0:Hid _:=HW;clear HW
 go_quiet (fail)
 go_wp2;go_ret;exact ⟨(show Ending.returned (.bool (Op.bytesLess x.toArray.toList y.toArray.toList))=_ from by rw[Z6s]),Z0K HW0.out _⟩
def set5 (W:World) (b o:Nat) (a0 a1 a2 a3 a4:Value):World:=((((W.setCell ⟨b,o,none⟩ a0).setCell ⟨b,o+1,none⟩ a1).setCell ⟨b,o+2,none⟩ a2).setCell ⟨b,o+3,none⟩ a3).setCell ⟨b,o+4,none⟩ a4
theorem Z71 (K:Int) (o m:ByteArray) (bn n c bp l d:Nat) (x y:ByteArray) (i j:Nat) (uk vk:Int) (u1 u2 v1 v2:ByteArray) (uA uP vA vP:Option Addr) (un uc um ud vn vc vm vd:Nat) (w:World) (hi:i < n) (hj:j < n) (hl:n<=l) (hn:l < 1000000) (hb:bn < w.heap.size) (hp:bp < w.heap.size) (hne:bn≠bp)
 (c1:w.cell? ⟨bn,i,none⟩=some (.string x)) (c2:w.cell? ⟨bn,j,none⟩=some (.string y)) (f1: ∀k,w.frozen? ⟨bn,k,none⟩=false) (f2: ∀k,w.frozen? ⟨bp,k,none⟩=false)
 (p0:w.cell? ⟨bp,i * 5,none⟩=some (.int .i64 uk)) (r0:w.cell? ⟨bp,j * 5,none⟩=some (.int .i64 vk))
 (p1:w.cell? ⟨bp,i * 5+1,none⟩=some (.string u1)) (r1:w.cell? ⟨bp,j * 5+1,none⟩=some (.string v1))
 (p2:w.cell? ⟨bp,i * 5+2,none⟩=some (.string u2)) (r2:w.cell? ⟨bp,j * 5+2,none⟩=some (.string v2))
 (p3:w.cell? ⟨bp,i * 5+3,none⟩=some (.slice uA un uc)) (r3:w.cell? ⟨bp,j * 5+3,none⟩=some (.slice vA vn vc))
 (p4:w.cell? ⟨bp,i * 5+4,none⟩=some (.slice uP um ud)) (r4:w.cell? ⟨bp,j * 5+4,none⟩=some (.slice vP vm vd)):
 Calls Tryd.prog 124 #[.agg #[.int .i64 K,.string o,.string m,.slice (some ⟨bn,0,none⟩) n c,.slice (some ⟨bp,0,none⟩) l d],.int .i64 i,.int .i64 j] w fun e w'=>e= .returned (.tuple #[])/\ ∃W0,Below w.heap.size w W0/\
  w'=(set5 (set5 (((W0.setCell ⟨bn,i,none⟩ (.string y)).setCell ⟨bn,j,none⟩ (.string x)).drew) bp (i * 5) (.int .i64 vk) (.string v1) (.string v2) (.slice vA vn vc) (.slice vP vm vd)) bp (j * 5) (.int .i64 uk) (.string u1) (.string u2) (.slice uA un uc) (.slice uP um ud)).drew:=by
 have HW:=Z01 w (.cells #[.int .i64 K,.string o,.string m,.slice (some ⟨bn,0,none⟩) n c,.slice (some ⟨bp,0,none⟩) l d] 57);have b3: (w.alloc (.cells #[.int .i64 K,.string o,.string m,.slice (some ⟨bn,0,none⟩) n c,.slice (some ⟨bp,0,none⟩) l d] 57)).cell? ⟨w.heap.size,3,none⟩=some (.slice (some ⟨bn,0,none⟩) n c):=by rw[World.cell?_alloc_at _ _ _ _ rfl]; rfl
 have b4: (w.alloc (.cells #[.int .i64 K,.string o,.string m,.slice (some ⟨bn,0,none⟩) n c,.slice (some ⟨bp,0,none⟩) l d] 57)).cell? ⟨w.heap.size,4,none⟩=some (.slice (some ⟨bp,0,none⟩) l d):=by rw[World.cell?_alloc_at _ _ _ _ rfl]; rfl
 have F1:=fun k=>(HW.frozen (p:=⟨bn,k,none⟩) hb).trans (f1 k);have F2:=fun k=>(HW.frozen (p:=⟨bp,k,none⟩) hp).trans (f2 k);have k1:=(HW.cell (p:=⟨bn,i,none⟩) hb).trans c1;have k2:=(HW.cell (p:=⟨bn,j,none⟩) hb).trans c2;clear c1 c2 f1 f2;go_enter Tryd.func124,Tryd.ntmps124
 go_upto_region 1 with fail
 generalize w.alloc (.cells #[.int .i64 K,.string o,.string m,.slice (some ⟨bn,0,none⟩) n c,.slice (some ⟨bp,0,none⟩) l d] 57)=W0 at k1 k2 b3 b4 F1 F2 HW ⊢;have HW0:Hid _:=HW;clear HW;generalize hg:w.heap.size=g at b3 b4 ⊢;have q1:=F1 i;have q2:=F1 j;obtain ⟨v',hy'⟩:=cell?_setCell_some (w:=W0) (p:=⟨bn,i,none⟩) (x:= .string y) (q:=⟨bn,j,none⟩) k2;have HF1:Hid _:=F1;have HF2:Hid _:=F2;clear F1 F2
 go_region
 have hgn:bn≠g:=by omega
 have hgp:bp≠g:=by omega
 have b40:=b4;have b4': (((W0.setCell ⟨bn,i,none⟩ (.string y)).setCell ⟨bn,j,none⟩ (.string x)).drew).cell? ⟨g,4,none⟩=some (.slice (some ⟨bp,0,none⟩) l d):=by
  rw[World.cell?_drew,World.cell?_setCell_far _ _ _ _ (by assumption),World.cell?_setCell_far _ _ _ _ (by assumption)]; exact b40
 have P00:=(HW0.out.cell (p:=⟨bp,i * 5,none⟩) hp).trans p0;have R00:=(HW0.out.cell (p:=⟨bp,j * 5,none⟩) hp).trans r0;have P0: (((W0.setCell ⟨bn,i,none⟩ (.string y)).setCell ⟨bn,j,none⟩ (.string x)).drew).cell? ⟨bp,i * 5,none⟩=some (.int .i64 uk):=by
  rw[World.cell?_drew,World.cell?_setCell_far _ _ _ _ (by assumption),World.cell?_setCell_far _ _ _ _ (by assumption)]; exact P00
 have R0: (((W0.setCell ⟨bn,i,none⟩ (.string y)).setCell ⟨bn,j,none⟩ (.string x)).drew).cell? ⟨bp,j * 5,none⟩=some (.int .i64 vk):=by
  rw[World.cell?_drew,World.cell?_setCell_far _ _ _ _ (by assumption),World.cell?_setCell_far _ _ _ _ (by assumption)]; exact R00
 have P10:=(HW0.out.cell (p:=⟨bp,i * 5+1,none⟩) hp).trans p1;have R10:=(HW0.out.cell (p:=⟨bp,j * 5+1,none⟩) hp).trans r1;have P1: (((W0.setCell ⟨bn,i,none⟩ (.string y)).setCell ⟨bn,j,none⟩ (.string x)).drew).cell? ⟨bp,i * 5+1,none⟩=some (.string u1):=by
  rw[World.cell?_drew,World.cell?_setCell_far _ _ _ _ (by assumption),World.cell?_setCell_far _ _ _ _ (by assumption)]; exact P10
 have R1: (((W0.setCell ⟨bn,i,none⟩ (.string y)).setCell ⟨bn,j,none⟩ (.string x)).drew).cell? ⟨bp,j * 5+1,none⟩=some (.string v1):=by
  rw[World.cell?_drew,World.cell?_setCell_far _ _ _ _ (by assumption),World.cell?_setCell_far _ _ _ _ (by assumption)]; exact R10
 have P20:=(HW0.out.cell (p:=⟨bp,i * 5+2,none⟩) hp).trans p2;have R20:=(HW0.out.cell (p:=⟨bp,j * 5+2,none⟩) hp).trans r2;have P2: (((W0.setCell ⟨bn,i,none⟩ (.string y)).setCell ⟨bn,j,none⟩ (.string x)).drew).cell? ⟨bp,i * 5+2,none⟩=some (.string u2):=by
  rw[World.cell?_drew,World.cell?_setCell_far _ _ _ _ (by assumption),World.cell?_setCell_far _ _ _ _ (by assumption)]; exact P20
 have R2: (((W0.setCell ⟨bn,i,none⟩ (.string y)).setCell ⟨bn,j,none⟩ (.string x)).drew).cell? ⟨bp,j * 5+2,none⟩=some (.string v2):=by
  rw[World.cell?_drew,World.cell?_setCell_far _ _ _ _ (by assumption),World.cell?_setCell_far _ _ _ _ (by assumption)]; exact R20
 have P30:=(HW0.out.cell (p:=⟨bp,i * 5+3,none⟩) hp).trans p3;have R30:=(HW0.out.cell (p:=⟨bp,j * 5+3,none⟩) hp).trans r3;have P3: (((W0.setCell ⟨bn,i,none⟩ (.string y)).setCell ⟨bn,j,none⟩ (.string x)).drew).cell? ⟨bp,i * 5+3,none⟩=some (.slice uA un uc):=by
  rw[World.cell?_drew,World.cell?_setCell_far _ _ _ _ (by assumption),World.cell?_setCell_far _ _ _ _ (by assumption)]; exact P30
 have R3: (((W0.setCell ⟨bn,i,none⟩ (.string y)).setCell ⟨bn,j,none⟩ (.string x)).drew).cell? ⟨bp,j * 5+3,none⟩=some (.slice vA vn vc):=by
  rw[World.cell?_drew,World.cell?_setCell_far _ _ _ _ (by assumption),World.cell?_setCell_far _ _ _ _ (by assumption)]; exact R30
 have P40:=(HW0.out.cell (p:=⟨bp,i * 5+4,none⟩) hp).trans p4;have R40:=(HW0.out.cell (p:=⟨bp,j * 5+4,none⟩) hp).trans r4;have P4: (((W0.setCell ⟨bn,i,none⟩ (.string y)).setCell ⟨bn,j,none⟩ (.string x)).drew).cell? ⟨bp,i * 5+4,none⟩=some (.slice uP um ud):=by
  rw[World.cell?_drew,World.cell?_setCell_far _ _ _ _ (by assumption),World.cell?_setCell_far _ _ _ _ (by assumption)]; exact P40
 have R4: (((W0.setCell ⟨bn,i,none⟩ (.string y)).setCell ⟨bn,j,none⟩ (.string x)).drew).cell? ⟨bp,j * 5+4,none⟩=some (.slice vP vm vd):=by
  rw[World.cell?_drew,World.cell?_setCell_far _ _ _ _ (by assumption),World.cell?_setCell_far _ _ _ _ (by assumption)]; exact R40
 clear P00 P10 P20 P30 P40 R00 R10 R20 R30 R40 b40 p0 p1 p2 p3 p4 r0 r1 r2 r3 r4;have G2: ∀k,(((W0.setCell ⟨bn,i,none⟩ (.string y)).setCell ⟨bn,j,none⟩ (.string x)).drew).frozen? ⟨bp,k,none⟩=false:=fun k=>by rw[World.frozen?_drew]; simpa using HF2.out k
 clear b3 q1 q2 k1 k2
 go_upto_region 2 with fail
 generalize hW1: (((W0.setCell ⟨bn,i,none⟩ (.string y)).setCell ⟨bn,j,none⟩ (.string x)).drew)=W1 at b4' P0 P1 P2 P3 P4 R0 R1 R2 R3 R4 G2 ⊢;have HW1:Hid _:=hW1;clear hW1 b4 hy';have g0:=G2 (i * 5);have h0:=G2 (j * 5);have g1:=G2 (i * 5+1);have h1:=G2 (j * 5+1);have g2:=G2 (i * 5+2);have h2:=G2 (j * 5+2);have g3:=G2 (i * 5+3);have h3:=G2 (j * 5+3);have g4:=G2 (i * 5+4);have h4:=G2 (j * 5+4);clear G2;have EX0: ∃v,(W1.setCell ⟨bp,i * 5,none⟩ (.int .i64 vk)).cell? ⟨bp,j * 5,none⟩=some v:=by
  obtain ⟨e10,E10⟩:=cell?_setCell_some (w:=W1) (p:=⟨bp,i * 5,none⟩) (x:=(.int .i64 vk)) (q:=⟨bp,j * 5,none⟩) R0;exact ⟨_,E10⟩
 obtain ⟨e0,E0⟩:=EX0;have EX1: ∃v,((W1.setCell ⟨bp,i * 5,none⟩ (.int .i64 vk)).setCell ⟨bp,i * 5+1,none⟩ (.string v1)).cell? ⟨bp,j * 5+1,none⟩=some v:=by
  obtain ⟨e11,E11⟩:=cell?_setCell_some (w:=W1) (p:=⟨bp,i * 5,none⟩) (x:=(.int .i64 vk)) (q:=⟨bp,j * 5+1,none⟩) R1;obtain ⟨e21,E21⟩:=cell?_setCell_some (w:=(W1.setCell ⟨bp,i * 5,none⟩ (.int .i64 vk))) (p:=⟨bp,i * 5+1,none⟩) (x:=(.string v1)) (q:=⟨bp,j * 5+1,none⟩) E11;exact ⟨_,E21⟩
 obtain ⟨e1,E1⟩:=EX1;have EX2: ∃v,(((W1.setCell ⟨bp,i * 5,none⟩ (.int .i64 vk)).setCell ⟨bp,i * 5+1,none⟩ (.string v1)).setCell ⟨bp,i * 5+2,none⟩ (.string v2)).cell? ⟨bp,j * 5+2,none⟩=some v:=by
  obtain ⟨e12,E12⟩:=cell?_setCell_some (w:=W1) (p:=⟨bp,i * 5,none⟩) (x:=(.int .i64 vk)) (q:=⟨bp,j * 5+2,none⟩) R2;obtain ⟨e22,E22⟩:=cell?_setCell_some (w:=(W1.setCell ⟨bp,i * 5,none⟩ (.int .i64 vk))) (p:=⟨bp,i * 5+1,none⟩) (x:=(.string v1)) (q:=⟨bp,j * 5+2,none⟩) E12;obtain ⟨e32,E32⟩:=cell?_setCell_some (w:=((W1.setCell ⟨bp,i * 5,none⟩ (.int .i64 vk)).setCell ⟨bp,i * 5+1,none⟩ (.string v1))) (p:=⟨bp,i * 5+2,none⟩) (x:=(.string v2)) (q:=⟨bp,j * 5+2,none⟩) E22;exact ⟨_,E32⟩
 obtain ⟨e2,E2⟩:=EX2;have EX3: ∃v,((((W1.setCell ⟨bp,i * 5,none⟩ (.int .i64 vk)).setCell ⟨bp,i * 5+1,none⟩ (.string v1)).setCell ⟨bp,i * 5+2,none⟩ (.string v2)).setCell ⟨bp,i * 5+3,none⟩ (.slice vA vn vc)).cell? ⟨bp,j * 5+3,none⟩=some v:=by
  obtain ⟨e13,E13⟩:=cell?_setCell_some (w:=W1) (p:=⟨bp,i * 5,none⟩) (x:=(.int .i64 vk)) (q:=⟨bp,j * 5+3,none⟩) R3;obtain ⟨e23,E23⟩:=cell?_setCell_some (w:=(W1.setCell ⟨bp,i * 5,none⟩ (.int .i64 vk))) (p:=⟨bp,i * 5+1,none⟩) (x:=(.string v1)) (q:=⟨bp,j * 5+3,none⟩) E13;obtain ⟨e33,E33⟩:=cell?_setCell_some (w:=((W1.setCell ⟨bp,i * 5,none⟩ (.int .i64 vk)).setCell ⟨bp,i * 5+1,none⟩ (.string v1))) (p:=⟨bp,i * 5+2,none⟩) (x:=(.string v2)) (q:=⟨bp,j * 5+3,none⟩) E23;obtain ⟨e43,E43⟩:=cell?_setCell_some (w:=(((W1.setCell ⟨bp,i * 5,none⟩ (.int .i64 vk)).setCell ⟨bp,i * 5+1,none⟩ (.string v1)).setCell ⟨bp,i * 5+2,none⟩ (.string v2))) (p:=⟨bp,i * 5+3,none⟩) (x:=(.slice vA vn vc)) (q:=⟨bp,j * 5+3,none⟩) E33;exact ⟨_,E43⟩
 obtain ⟨e3,E3⟩:=EX3;have EX4: ∃v,(((((W1.setCell ⟨bp,i * 5,none⟩ (.int .i64 vk)).setCell ⟨bp,i * 5+1,none⟩ (.string v1)).setCell ⟨bp,i * 5+2,none⟩ (.string v2)).setCell ⟨bp,i * 5+3,none⟩ (.slice vA vn vc)).setCell ⟨bp,i * 5+4,none⟩ (.slice vP vm vd)).cell? ⟨bp,j * 5+4,none⟩=some v:=by
  obtain ⟨e14,E14⟩:=cell?_setCell_some (w:=W1) (p:=⟨bp,i * 5,none⟩) (x:=(.int .i64 vk)) (q:=⟨bp,j * 5+4,none⟩) R4;obtain ⟨e24,E24⟩:=cell?_setCell_some (w:=(W1.setCell ⟨bp,i * 5,none⟩ (.int .i64 vk))) (p:=⟨bp,i * 5+1,none⟩) (x:=(.string v1)) (q:=⟨bp,j * 5+4,none⟩) E14;obtain ⟨e34,E34⟩:=cell?_setCell_some (w:=((W1.setCell ⟨bp,i * 5,none⟩ (.int .i64 vk)).setCell ⟨bp,i * 5+1,none⟩ (.string v1))) (p:=⟨bp,i * 5+2,none⟩) (x:=(.string v2)) (q:=⟨bp,j * 5+4,none⟩) E24;obtain ⟨e44,E44⟩:=cell?_setCell_some (w:=(((W1.setCell ⟨bp,i * 5,none⟩ (.int .i64 vk)).setCell ⟨bp,i * 5+1,none⟩ (.string v1)).setCell ⟨bp,i * 5+2,none⟩ (.string v2))) (p:=⟨bp,i * 5+3,none⟩) (x:=(.slice vA vn vc)) (q:=⟨bp,j * 5+4,none⟩) E34;obtain ⟨e54,E54⟩:=cell?_setCell_some (w:=((((W1.setCell ⟨bp,i * 5,none⟩ (.int .i64 vk)).setCell ⟨bp,i * 5+1,none⟩ (.string v1)).setCell ⟨bp,i * 5+2,none⟩ (.string v2)).setCell ⟨bp,i * 5+3,none⟩ (.slice vA vn vc))) (p:=⟨bp,i * 5+4,none⟩) (x:=(.slice vP vm vd)) (q:=⟨bp,j * 5+4,none⟩) E44;exact ⟨_,E54⟩
 obtain ⟨e4,E4⟩:=EX4;have hi2:i < l:=by omega
 have hj2:j < l:=by omega
 go_region
 go_end0
 refine ⟨rfl,W0,HW0.out, ?_⟩;rw[<-HW1.out];rfl
end
section
open Go.RowKit Shp Go.Sort
structure El where
 n:List UInt8
 t:Sh
 q:Ptr
 F:List Nat
instance:Inhabited El:=⟨⟨[],⟨0,[],[],[],[]⟩,⟨none,0,none,0⟩,[]⟩⟩
def ltEl (a b:El):Bool:=decide (a.n < b.n)
theorem Z87:SWO ltEl:=⟨fun x=>swo_ltStr.irrefl x.n,fun x y z=>swo_ltStr.trans x.n y.n z.n,fun x y z=>swo_ltStr.ntrans x.n y.n z.n⟩
structure Up2 (bn bp:Nat) (w w':World):Prop where
 os:w'.os=w.os
 tape:w'.tape=w.tape
 output:w'.output=w.output
 size:w.heap.size<=w'.heap.size
 block: ∀k,k < w.heap.size->k≠bn->k≠bp->w'.heap[k]? =w.heap[k]?
theorem Up2.refl (bn bp:Nat) (w:World):Up2 bn bp w w:=⟨rfl,rfl,rfl,Nat.le_refl _,fun _ _ _ _=>rfl⟩
theorem Up2.below {bn bp:Nat} {a b c:World} (h:Up2 bn bp a b) (k:Below a.heap.size b c):Up2 bn bp a c:=
 ⟨k.os.trans h.os,k.tape.trans h.tape,k.output.trans h.output,Nat.le_trans h.size k.size,fun x h1 h2 h3=>(k.block x h1).trans (h.block x h1 h2 h3)⟩
theorem Up2.set {bn bp:Nat} {a b:World} (h:Up2 bn bp a b) {p:Addr} (hp:p.block=bn\/p.block=bp) (v:Value):Up2 bn bp a (b.setCell p v):=
 ⟨h.os,h.tape,h.output,by simpa[World.setCell] using h.size,fun x h1 h2 h3=>(Below.heap_setCell _ _ _ _ (fun e=>by rcases hp with e2 | e2 <;> omega)).trans (h.block x h1 h2 h3)⟩
theorem Up2.drew {bn bp:Nat} {a b:World} (h:Up2 bn bp a b):Up2 bn bp a b.drew:=⟨h.os,h.tape,h.output,h.size,h.block⟩
theorem Up2.set5 {bn bp:Nat} {a b:World} (h:Up2 bn bp a b) (o:Nat) (a0 a1 a2 a3 a4:Value):Up2 bn bp a (set5 b bp o a0 a1 a2 a3 a4):=
 ((((h.set (Or.inr rfl) _).set (Or.inr rfl) _).set (Or.inr rfl) _).set (Or.inr rfl) _).set (Or.inr rfl) _
theorem Z4V (W:World) (b o:Nat) (a0 a1 a2 a3 a4:Value) (x:Addr) (h:b≠x.block): (set5 W b o a0 a1 a2 a3 a4).cell? x=W.cell? x:=by
 unfold set5;rw[World.cell?_setCell_far _ _ _ _ h,World.cell?_setCell_far _ _ _ _ h,World.cell?_setCell_far _ _ _ _ h,World.cell?_setCell_far _ _ _ _ h,World.cell?_setCell_far _ _ _ _ h]
theorem Z9J {b x y:Nat} (h:x≠y): (⟨b,x,none⟩:Addr)≠⟨b,y,none⟩:=fun e=>h (by injection e)
theorem so {W:World} {b x y:Nat} {v:Value} (h:x≠y): (W.setCell ⟨b,x,none⟩ v).cell? ⟨b,y,none⟩=W.cell? ⟨b,y,none⟩:=World.cell?_setCell_other _ _ _ _ (Z9J h)
theorem ss {W:World} {b x:Nat} {v u:Value} (h:W.cell? ⟨b,x,none⟩=some u): (W.setCell ⟨b,x,none⟩ v).cell? ⟨b,x,none⟩=some v:=World.cell?_setCell_same _ _ _ h
theorem Z90 (W:World) (b o:Nat) (a0 a1 a2 a3 a4:Value) (x:Nat) (h:x < o\/o+4 < x): (set5 W b o a0 a1 a2 a3 a4).cell? ⟨b,x,none⟩=W.cell? ⟨b,x,none⟩:=by
 unfold set5;rw[so,so,so,so,so] <;> omega
theorem Z35 (W:World) (b o:Nat) (t:Sh) (q:Ptr) (t':Sh) (q':Ptr) (h:Sh5 W b o t' q'):
 Sh5 (set5 W b o (.int .i64 t.kind) (.string ⟨t.of_.toArray⟩) (.string ⟨t.name.toArray⟩) (.slice q.A t.names.length q.c) (.slice q.P t.parts.length q.d)) b o t q:=by
 obtain ⟨h0,h1,h2,h3,h4⟩:=h;unfold set5;refine ⟨?_, ?_, ?_, ?_, ?_⟩
 {rw[so,so,so,so]
  {exact ss h0}
  all_goals omega}
 {rw[so,so,so]
  {exact ss ((so (by omega)).trans h1)}
  all_goals omega}
 {rw[so,so]
  {exact ss ((so (by omega)).trans ((so (by omega)).trans h2))}
  all_goals omega}
 {rw[so]
  {exact ss ((so (by omega)).trans ((so (by omega)).trans ((so (by omega)).trans h3)))}
  all_goals omega}
 {exact ss ((so (by omega)).trans ((so (by omega)).trans ((so (by omega)).trans ((so (by omega)).trans h4))))}
theorem Z2t (W:World) (b i k:Nat) (a0 a1 a2 a3 a4:Value) (t:Sh) (q:Ptr) (hne:k≠i) (h:Sh5 W b (k * 5) t q):Sh5 (set5 W b (i * 5) a0 a1 a2 a3 a4) b (k * 5) t q:=by
 obtain ⟨h0,h1,h2,h3,h4⟩:=h;refine ⟨?_, ?_, ?_, ?_, ?_⟩ <;> rw[Z90 _ _ _ _ _ _ _ _ _ (by omega)] <;> assumption
structure FSt (w0:World) (bn bp N:Nat) (d:Array El) (w:World):Prop where
 size:d.size=N
 tx: ∀i,i < N->w.cell? ⟨bn,i,none⟩=some (.string ⟨(d[i]!).n.toArray⟩)
 pa: ∀i,i < N->Sh5 w bp (i * 5) (d[i]!).t (d[i]!).q
 fn: ∀k,w.frozen? ⟨bn,k,none⟩=false
 fp: ∀k,w.frozen? ⟨bp,k,none⟩=false
 ln:bn < w0.heap.size
 lp:bp < w0.heap.size
 ne:bn≠bp
 up:Up2 bn bp w0 w
theorem FSt.keep {w0:World} {bn bp N:Nat} {d:Array El} {w w':World} (h:FSt w0 bn bp N d w) (hb:Below w0.heap.size w w'):FSt w0 bn bp N d w':=
 ⟨h.size,fun i hi=>(hb.cell (p:=⟨bn,i,none⟩) h.ln).trans (h.tx i hi),fun i hi=>(h.pa i hi).of (fun k=>hb.cell (p:=⟨bp,k,none⟩) h.lp),fun k=>(hb.frozen (p:=⟨bn,k,none⟩) h.ln).trans (h.fn k),
  fun k=>(hb.frozen (p:=⟨bp,k,none⟩) h.lp).trans (h.fp k),h.ln,h.lp,h.ne,h.up.below hb⟩
theorem Z4j {W:World} {b o c:Nat} {t:Sh} {q:Ptr} {v:Value} {x:Nat} (hne:b≠c) (h:Sh5 W c o t q):Sh5 (W.setCell ⟨b,x,none⟩ v) c o t q:=
 h.of fun k=>World.cell?_setCell_far _ _ _ _ hne
theorem Z72 (w0:World) (bn bp N:Nat) (K:Int) (o m:List UInt8) (c l dd:Nat) (hN:N < 400000) (hl:N<=l) (hl2:l < 1000000):
 Srt N w0.heap.size (.agg #[.int .i64 K,.string ⟨o.toArray⟩,.string ⟨m.toArray⟩,.slice (some ⟨bn,0,none⟩) N c,.slice (some ⟨bp,0,none⟩) l dd]) ltEl (FSt w0 bn bp N) where
 less d w i j h hi0 hi hj0 hj:=by
  obtain ⟨a,rfl⟩:=Int.eq_ofNat_of_zero_le hi0;obtain ⟨b,rfl⟩:=Int.eq_ofNat_of_zero_le hj0;have ha:a < N:=by omega
  have hb:b < N:=by omega
  refine (Z70 K ⟨o.toArray⟩ ⟨m.toArray⟩ bn N c dd (some ⟨bp,0,none⟩) l _ _ a b w ha hb (by omega) (Nat.lt_of_lt_of_le h.ln h.up.size) (h.tx a ha) (h.tx b hb)).mono ?_;rintro e w' ⟨rfl,hw⟩;exact ⟨rfl,h.keep (hw.mono h.up.size),hw.size,fun x _ hx=>hw.block x hx⟩
 swap d w i j h hi0 hi hj0 hj:=by
  obtain ⟨a,rfl⟩:=Int.eq_ofNat_of_zero_le hi0;obtain ⟨b,rfl⟩:=Int.eq_ofNat_of_zero_le hj0;have ha:a < N:=by omega
  have hb:b < N:=by omega
  have hs:=h.size;obtain ⟨p0,p1,p2,p3,p4⟩:=h.pa a ha;obtain ⟨r0,r1,r2,r3,r4⟩:=h.pa b hb;have hnw:=Nat.lt_of_lt_of_le h.ln h.up.size;have hpw:=Nat.lt_of_lt_of_le h.lp h.up.size;refine (Z71 K ⟨o.toArray⟩ ⟨m.toArray⟩ bn N c bp l dd _ _ a b _ _ _ _ _ _ _ _ _ _ _ _ _ _ _ _ _ _ w ha hb hl hl2 hnw hpw h.ne (h.tx a ha) (h.tx b hb) h.fn h.fp p0 r0 p1 r1 p2 r2 p3 r3 p4 r4).mono ?_;rintro e w' ⟨rfl,W0,hW0,rfl⟩;have h0:=h.keep (hW0.mono h.up.size);have hne:=h.ne;have ea: ((a:Nat):Int).toNat=a:=by omega
  have eb: ((b:Nat):Int).toNat=b:=by omega
  rw[ea,eb];have hget:=fun k=>swp_get d (i:=a) (j:=b) (by omega) (by omega) k;refine ⟨rfl,⟨by rw[size_swp]; exact hs,fun k hk=> ?_,fun k hk=> ?_,fun k=> ?_,fun k=> ?_,h.ln,h.lp,hne, ?_⟩, ?_, ?_⟩
  {rw[World.cell?_drew,Z4V _ _ _ _ _ _ _ _ _ hne.symm,Z4V _ _ _ _ _ _ _ _ _ hne.symm,World.cell?_drew];by_cases hkb:k=b
   {subst hkb;rw[swp_right d a k (by omega)];obtain ⟨v,hv⟩:=cell?_setCell_some (w:=W0) (p:=⟨bn,a,none⟩) (x:= .string ⟨(d[k]!).n.toArray⟩) (q:=⟨bn,k,none⟩) (h0.tx k hk);exact ss hv}
   {rw[so (Ne.symm hkb)];by_cases hka:k=a
    {subst hka;rw[swp_left d k b (by omega) hkb];exact ss (h0.tx k hk)}
    {rw[so (Ne.symm hka),swp_other d a b k hka hkb];exact h0.tx k hk}}}
  {have hz: ∀k,k < N->Sh5 ((((W0.setCell ⟨bn,a,none⟩ (.string ⟨(d[b]!).n.toArray⟩)).setCell ⟨bn,b,none⟩ (.string ⟨(d[a]!).n.toArray⟩)).drew)) bp (k * 5) (d[k]!).t (d[k]!).q:=fun k hk=>
    (Z4j hne (Z4j hne (h0.pa k hk))).of fun _=>World.cell?_drew _ _
   refine Sh5.of (w:=set5 _ _ _ _ _ _ _ _) ?_ (fun _=>World.cell?_drew _ _);by_cases hkb:k=b
   {subst hkb;rw[swp_right d a k (by omega)];by_cases hka:k=a
    {subst hka;exact Z35 _ _ _ _ _ _ _ (Z35 _ _ _ _ _ _ _ (hz k hk))}
    {exact Z35 _ _ _ _ _ _ _ (Z2t _ _ _ _ _ _ _ _ _ _ _ hka (hz k hk))}}
   {refine Z2t _ _ _ _ _ _ _ _ _ _ _ hkb ?_;by_cases hka:k=a
    {subst hka;rw[swp_left d k b (by omega) hkb];exact Z35 _ _ _ _ _ _ _ (hz k hk)}
    {rw[swp_other d a b k hka hkb];exact Z2t _ _ _ _ _ _ _ _ _ _ _ hka (hz k hk)}}}
  {have:=h0.fn k;simpa[set5,World.frozen?_drew] using this}
  {have:=h0.fp k;simpa[set5,World.frozen?_drew] using this}
  {exact (((((h0.up.set (Or.inl rfl) _).set (Or.inl rfl) _).drew).set5 _ _ _ _ _ _).set5 _ _ _ _ _ _).drew}
  {have:=hW0.size;simpa[set5,World.setCell] using this}
  {intro x hx1 hx2;have hn:x≠bn:=by have:=h.ln; omega
   have hp:x≠bp:=by have:=h.lp; omega
   have hU:=((((((Up2.refl bn bp W0).set (Or.inl rfl) (.string ⟨(d[b]!).n.toArray⟩) (p:=⟨bn,a,none⟩)).set (Or.inl rfl) (.string ⟨(d[a]!).n.toArray⟩) (p:=⟨bn,b,none⟩)).drew).set5 (a * 5) (.int .i64 (d[b]!).t.kind) (.string ⟨(d[b]!).t.of_.toArray⟩) (.string ⟨(d[b]!).t.name.toArray⟩) (.slice (d[b]!).q.A (d[b]!).t.names.length (d[b]!).q.c) (.slice (d[b]!).q.P (d[b]!).t.parts.length (d[b]!).q.d)).set5 (b * 5) (.int .i64 (d[a]!).t.kind) (.string ⟨(d[a]!).t.of_.toArray⟩) (.string ⟨(d[a]!).t.name.toArray⟩) (.slice (d[a]!).q.A (d[a]!).t.names.length (d[a]!).q.c) (.slice (d[a]!).q.P (d[a]!).t.parts.length (d[a]!).q.d)).drew;exact (hU.block x (Nat.lt_of_lt_of_le hx2 hW0.size) hn hp).trans (hW0.block x hx2)}
 size d w h:=h.size
 big:=by omega
 base d w h:=h.up.size
 keep d w w' h hb:=h.keep hb
 mL w:=by kernel_rfl
 mS w:=by kernel_rfl
theorem Z5V (t:Sh) (q:Ptr) (w:World) (h0:t.names.length=0):
 Y9 50 #[.iface 57 (.agg (Y8 t q))] w (.tuple #[]):=by
 have H:Srt t.names.length w.heap.size (.agg (Y8 t q)) ltEl (fun d w1=>d.size=t.names.length/\Below w.heap.size w w1):= {
  less:=fun d w1 i j h hi0 hi=>absurd hi (by omega)
  swap:=fun d w1 i j h hi0 hi=>absurd hi (by omega)
  size:=fun d w1 h=>h.1
  big:=by omega
  base:=fun d w1 h=>h.2.size
  keep:=fun d w1 w2 h hb=>⟨h.1,h.2.trans hb⟩
  mL:=fmL t q
  mS:=fmS t q }
 exact (Z3L H Z87 (fmN t q) (fun d w1 h=>(Z4i t q w1).mono fun e w2 ⟨he,hb⟩=>⟨he,h.1,Z00 h.2 hb⟩) #[] w ⟨by rw[h0]; rfl,Below.refl _ _⟩).mono fun e w' ⟨he,d',_,_,h⟩=>⟨he,h.2⟩
def els (t:Sh) (qs:Nat->Ptr) (Fs:Nat->List Nat):Array El:=((List.range t.names.length).map fun i=>(⟨t.names.getD i [],t.parts.getD i ⟨0,[],[],[],[]⟩,qs i,Fs i⟩:El)).toArray
section
variable (t : Sh) (qs : Nat -> Ptr) (Fs : Nat -> List Nat)
include t qs Fs
theorem Z2u: (els t qs Fs).size=t.names.length:=by simp[els]
theorem Z4W (i:Nat) (h:i < t.names.length) (h2:i < t.parts.length): (els t qs Fs)[i]! =⟨t.names[i],t.parts[i],qs i,Fs i⟩:=by
 rw[getElem!_pos (els t qs Fs) i (by rw[Z2u]; exact h)];simp[els,h,h2]
end
theorem Z73 (t:Sh) (q:Ptr) (qs:Nat->Ptr) (Fs:Nat->List Nat) (bn bp:Nat) (w:World) (hA:q.A=some ⟨bn,0,none⟩) (hP:q.P=some ⟨bp,0,none⟩) (hl:t.names.length=t.parts.length) (hN:t.names.length < 400000)
    (ht:TxR w bn t.names) (hp:PaR w bp t.parts qs) (hne:bn≠bp):
    Calls Tryd.prog 50 #[.iface 57 (.agg #[.int .i64 t.kind,.string ⟨t.of_.toArray⟩,.string ⟨t.name.toArray⟩,.slice q.A t.names.length q.c,.slice q.P t.parts.length q.d])] w fun e w'=>e= .returned (.tuple #[])/\
      ∃d',PermIn 0 t.names.length (els t qs Fs) d'/\SortedIn ltEl 0 t.names.length d'/\FSt w bn bp t.names.length d' w':=by
  have hlen:=Z4i t q;have mN:=fmN t q;rw[hA,hP] at hlen mN ⊢;have H:=Z72 w bn bp t.names.length t.kind t.of_ t.name q.c t.parts.length q.d hN (by omega) (by omega);refine Z3L H Z87 mN (fun d w1 h=>(hlen w1).mono fun e w2 ⟨he,hb⟩=>⟨he,h.keep (hb.mono h.up.size)⟩) (els t qs Fs) w ?_;exact ⟨Z2u t qs Fs,fun i hi=>by rw[Z4W t qs Fs i hi (by omega)]; exact ht.at_ i hi,fun i hi=>by rw[Z4W t qs Fs i hi (by omega)]; exact hp.at_ i (by omega),ht.fz,hp.fz,ht.lt,hp.lt,hne,Up2.refl _ _ _⟩
theorem Z74 {N:Nat} {d d':Array El} (h:PermIn 0 N d d') (hN:d.size=N):d'.toList.Perm d.toList:=by
 obtain ⟨h1,_,h3⟩:=h;have e:d.extract 0 N=d:=by rw[<-hN]; exact Array.extract_size
 have e':d'.extract 0 N=d':=by rw[<-hN, <-h1]; exact Array.extract_size
 rwa [e,e'] at h3
theorem Z4X {N:Nat} {d:Array El} (h:SortedIn ltEl 0 N d) (hN:d.size=N): (d.toList.map fun x=>(x.n,x.t)).Pairwise (fun a b:Fld=>a.1<=b.1):=by
 rw[List.pairwise_map,List.pairwise_iff_getElem];intro i j hi hj hij;have:=h i j (Nat.zero_le _) hij (by simpa[hN] using hj);simp only[ltEl,decide_eq_false_iff_not,List.not_lt] at this;rw[getElem!_pos d i (by simpa using hi),getElem!_pos d j (by simpa using hj)] at this;simpa using this
theorem Z75 {t t':Sh} {q:Ptr} (h:Small t q) (ho:t'.of_=t.of_) (hn:t'.name=t.name) (hns:t'.names.Perm t.names) (hp:t'.parts.length=t.parts.length):Small t' q:=by
 have hl:=hns.length_eq;obtain ⟨h1,h2,h3,h4,h5,h6,h7,h8,h9⟩:=h;exact ⟨by rw[ho]; exact h1,by rw[hn]; exact h2,fun x hx=>h3 x (hns.mem_iff.1 hx),by rw[hl]; exact h4,by rw[hp]; exact h5,by rw[hl]; exact h6,by rw[hp]; exact h7,h8,h9⟩
theorem Z91 {w0 W:World} {t:Sh} {q:Ptr} {bn bp N:Nat} {qs:Nat->Ptr} {Fs:Nat->List Nat} {d:Array El} (hA:q.A=some ⟨bn,0,none⟩) (hP:q.P=some ⟨bp,0,none⟩) (hs:Small t q)
 (hN:t.names.length=N) (hN2:t.parts.length=N) (hf:FSt w0 bn bp N d W) (hp:d.toList.Perm (els t qs Fs).toList) (hr: ∀i (h:i < t.parts.length),Own W (qs i) (t.parts[i]'h) (Fs i)):
 Own W q ⟨t.kind,t.of_,t.name,d.toList.map El.n,d.toList.map El.t⟩ ([bn]++ [bp]++d.toList.flatMap El.F)/\([bn]++ [bp]++d.toList.flatMap El.F).Perm ([bn]++ [bp]++(List.range t.parts.length).flatMap Fs):=by
 have hsz:=hf.size;have hall: ∀x∈d.toList,Own W x.q x.t x.F:=fun x hx=>by
  have hx2:=hp.mem_iff.1 hx;obtain ⟨i,hi,rfl⟩:=List.getElem_of_mem hx2;have hi2:i < t.names.length:=by simpa[els] using hi
  have:=Z4W t qs Fs i hi2 (by omega);rw[getElem!_pos (els t qs Fs) i (by rw[Z2u]; exact hi2)] at this;rw[Array.getElem_toList,this];exact hr i (by omega)
 have hen: ((els t qs Fs).toList.map El.n)=t.names:=by
  apply List.ext_getElem
  {simp[els]}
  {intro i h1 h2;simp[els,h2]}
 have heF: (els t qs Fs).toList.flatMap El.F=(List.range t.parts.length).flatMap Fs:=by
  rw[hN2, <-hN];simp[els,List.flatMap_map]
 have hget: ∀i (h:i < d.toList.length),d[i]! =d.toList[i]'h:=fun i h=>by
  rw[getElem!_pos d i (by simpa using h)];simp
 refine ⟨.mk q _ _ [bn] [bp] (fun i=>(d[i]!).q) (fun i=>(d[i]!).F) (Z75 hs rfl rfl ((hp.map El.n).trans (by rw[hen])) (by simp; omega)) ?_ ?_ ?_ ?_, ?_⟩
 {refine Or.inr ⟨bn,hA,rfl,Nat.lt_of_lt_of_le hf.ln hf.up.size,fun i hi=> ?_,hf.fn⟩;have hi2:i < d.toList.length:=by simpa using hi
  rw[hf.tx i (by simpa[hsz] using hi2),hget i hi2];simp}
 {refine Or.inr ⟨bp,hP,rfl,Nat.lt_of_lt_of_le hf.lp hf.up.size,fun i hi=> ?_,hf.fp⟩;have hi2:i < d.toList.length:=by simpa using hi
  have:=hf.pa i (by simpa[hsz] using hi2);rw[hget i hi2] at this;simpa[hget i hi2] using this}
 {intro i hi;have hi2:i < d.toList.length:=by simpa using hi
  have:=hall _ (List.getElem_mem hi2);simpa[hget i hi2] using this}
 {congr 1;show d.toList.flatMap El.F=(List.range (d.toList.map El.t).length).flatMap (fun i=>(d[i]!).F);rw[List.length_map];have:d.toList=(List.range d.toList.length).map (fun i=>d[i]!):=by
   apply List.ext_getElem
   {simp}
   {intro i h1 h2;simp[hget i h1]}
  conv=>lhs; rw[this]
  rw[List.flatMap_map]}
 {rw[<-heF];exact List.Perm.append_left _ (List.Perm.flatMap_right El.F hp)}
end
section
open Go.RowKit Shp
structure UpF (F:List Nat) (w w':World):Prop where
 os:w'.os=w.os
 tape:w'.tape=w.tape
 output:w'.output=w.output
 size:w.heap.size<=w'.heap.size
 block: ∀k,k < w.heap.size->k∉F->w'.heap[k]? =w.heap[k]?
theorem UpF.refl (F:List Nat) (w:World):UpF F w w:=⟨rfl,rfl,rfl,Nat.le_refl _,fun _ _ _=>rfl⟩
theorem UpF.below {F:List Nat} {a b c:World} (h:UpF F a b) (k:Below b.heap.size b c):UpF F a c:=
 ⟨k.os.trans h.os,k.tape.trans h.tape,k.output.trans h.output,Nat.le_trans h.size k.size,fun x h1 h2=>(k.block x (Nat.lt_of_lt_of_le h1 h.size)).trans (h.block x h1 h2)⟩
theorem UpF.next {F G:List Nat} {a b c:World} (h:UpF F a b) (k:UpF G b c) (hs: ∀x∈G,x∈F):UpF F a c:=
 ⟨k.os.trans h.os,k.tape.trans h.tape,k.output.trans h.output,Nat.le_trans h.size k.size,fun x h1 h2=>(k.block x (Nat.lt_of_lt_of_le h1 h.size) (fun e=>h2 (hs x e))).trans (h.block x h1 h2)⟩
theorem UpF.same {F:List Nat} {w w':World} (h:UpF F w w') {b:Nat} (h1:b < w.heap.size) (h2:b∉F):Z0i w w' b:=
 ⟨fun k=>World.cell?_of_block (w:=w) (h.block b h1 h2),fun k=>World.frozen?_of_block (w:=w) (h.block b h1 h2)⟩
theorem Up2.upF {bn bp:Nat} {w w':World} (h:Up2 bn bp w w') {F:List Nat} (h1:bn∈F) (h2:bp∈F):UpF F w w':=
 ⟨h.os,h.tape,h.output,h.size,fun k hk hn=>h.block k hk (fun e=>hn (e▸h1)) (fun e=>hn (e▸h2))⟩
theorem Z17 {W W':World} {q:Ptr} {t:Sh} {F:List Nat} (h:Own W q t F) (hb:Below W.heap.size W W'):Own W' q t F:=
 h.of (fun b hm=>⟨fun k=>hb.cell (p:=⟨b,k,none⟩) (h.lt b hm),fun k=>hb.frozen (p:=⟨b,k,none⟩) (h.lt b hm)⟩) hb.size
theorem Z1Y (t:Sh): (sorted t).kind=t.kind/\(sorted t).of_=t.of_/\(sorted t).name=t.name:=by
 rw[Z09]; split <;> exact ⟨rfl,rfl,rfl⟩
theorem Z3c {t:Sh} (h:t.names= []\/t.names.length=t.parts.length): (sorted t).names.length=t.names.length/\(sorted t).parts.length=t.parts.length:=by
 rw[Z09];split
 {rename_i h0
  simp[h0]}
 {rename_i h0
  rcases h with h | h
  {exact absurd h h0}
  {have:=(Z0y (t.names.zip (t.parts.map sorted))).length_eq;rw[List.length_zip,List.length_map] at this;simp only[List.length_map,this];omega}}
theorem Z1B {t:Sh} (h:right t=true):t.names= []\/t.names.length=t.parts.length/\t.names.Nodup:=by
 have hf:=Z1c h;unfold fits at hf;split at hf
 {simp only[Bool.and_eq_true,decide_eq_true_eq] at hf;exact Or.inl (List.eq_nil_of_length_eq_zero hf.1.2)}
 {split at hf
  {cases hf}
  {split at hf
   {simp only[Bool.and_eq_true,decide_eq_true_eq] at hf;refine Or.inr ⟨hf.2, ?_⟩;have:=hf.1;simp only[areNames,Bool.and_eq_true,Z4f] at this;exact this.2}
   {split at hf
    {cases hf}
    {rename_i h0
     exact Or.inl (List.eq_nil_of_length_eq_zero (by omega))}}}}
theorem Z3N {W:World} {b o:Nat} {t:Sh} {q:Ptr} (hr:right t=true) (h:Sh5 W b o t q):Sh5 W b o (sorted t) q:=by
 obtain ⟨k1,k2,k3⟩:=Z1Y t;obtain ⟨l1,l2⟩:=Z3c (t:=t) ((Z1B hr).imp id And.left);unfold Sh5 at *;rw[k1,k2,k3,l1,l2];exact h
theorem Z4Y {Fs:Nat->List Nat}: ∀n,((List.range n).flatMap Fs).Nodup->(∀j,j < n->(Fs j).Nodup)/\ ∀i j,i < j->j < n-> ∀b∈Fs i,b∉Fs j
 | 0,_=>⟨fun j hj=>absurd hj (by omega),fun i j _ hj=>absurd hj (by omega)⟩
 | n+1,h=>by
  rw[List.range_succ,List.flatMap_append,List.nodup_append] at h;obtain ⟨h1,h2,h3⟩:=h;obtain ⟨k1,k2⟩:=Z4Y n h1;have e: [n].flatMap Fs=Fs n:=by simp
  rw[e] at h2 h3;refine ⟨fun j hj=> ?_,fun i j hij hj b hb hb2=> ?_⟩
  {rcases Nat.lt_or_eq_of_le (Nat.le_of_lt_succ hj) with h | rfl
   {exact k1 j h}
   {exact h2}}
  {rcases Nat.lt_or_eq_of_le (Nat.le_of_lt_succ hj) with h | rfl
   {exact k2 i j hij h b hb hb2}
   {exact h3 b (List.mem_flatMap.2 ⟨i,List.mem_range.2 hij,hb⟩) b hb2 rfl}}
theorem Z1Z {FN FP:List Nat} {n:Nat} {Fs:Nat->List Nat} (h: (FN++FP++(List.range n).flatMap Fs).Nodup):
 (∀b∈FN,b∉FP)/\(∀b∈FN,∀j,j < n->b∉Fs j)/\(∀b∈FP,∀j,j < n->b∉Fs j)/\(∀j,j < n->(Fs j).Nodup)/\ ∀i j,i < n->j < n->i≠j-> ∀b∈Fs i,b∉Fs j:=by
 rw[List.nodup_append] at h;obtain ⟨h1,h2,h3⟩:=h;rw[List.nodup_append] at h1;have hm: ∀j,j < n-> ∀b∈Fs j,b∈(List.range n).flatMap Fs:=fun j hj b hb=>List.mem_flatMap.2 ⟨j,List.mem_range.2 hj,hb⟩;obtain ⟨h4,h5⟩:=Z4Y n h2;refine ⟨fun b hb hb2=>h1.2.2 b hb b hb2 rfl,fun b hb j hj hb2=>h3 b (List.mem_append_left _ hb) b (hm j hj b hb2) rfl,fun b hb j hj hb2=>h3 b (List.mem_append_right _ hb) b (hm j hj b hb2) rfl,h4,fun i j hi hj hne b hb hb2=> ?_⟩;rcases Nat.lt_or_gt_of_ne hne with h | h
 {exact h5 i j h hj b hb hb2}
 {exact h5 j i h hi b hb2 hb}
end
section
open Shp
theorem Z0C {t:Sh} (h:check t=0):size t<=400/\deep t<=40/\right t=true:=by
 unfold check at h;by_cases h4:400 < size t
 {rw[if_pos h4] at h; omega}
 {rw[if_neg h4] at h;by_cases h40:40 < deep t
  {rw[if_pos h40] at h; omega}
  {rw[if_neg h40] at h;cases hr:right t with
   | false=>rw[hr] at h; simp at h
   | true=>exact ⟨by omega,by omega,rfl⟩}}
theorem Z3O {l m:List Sh} (h:l.Perm m):sizes l=sizes m:=by
 induction h with
 | nil=>rfl
 | cons x _ ih=>simp[sizes,ih]
 | swap x y l=>simp[sizes]; omega
 | trans _ _ ih1 ih2=>exact ih1.trans ih2
theorem Z89 {f:Sh->Sh} {l:List Sh} (h: ∀p∈l,size (f p)=size p):sizes (l.map f)=sizes l:=by
 induction l with
 | nil=>rfl
 | cons a l ih=>simp[sizes,h a (by simp),ih (fun p hp=>h p (by simp[hp]))]
structure Like (f:Sh->Sh) (t u:Sh):Prop where
 k:u.kind=t.kind
 o:u.of_=t.of_
 n:u.name=t.name
 ns:u.names.Perm t.names
 ps:u.parts.Perm (t.parts.map f)
theorem Like.size {f:Sh->Sh} {t u:Sh} (h:Like f t u) (hp: ∀p∈t.parts,size (f p)=size p):size u=size t:=by
 rw[size_eq,size_eq,Z3O h.ps,Z89 hp]
end
end Go.Proofs.YthajhofgjhfjeaaDoor
namespace Sub
section
open Shp Go.Proofs.YthajhofgjhfjeaaDoor
def stepNarrow (g:Sh->Sh->Bool) (c:Cl):Bool:=
 match c with
 | (_,_,none)=>true
 | (_,some p,some q)=>g p q
 | (_,none,some _)=>false
def stepWide (g:Sh->Sh->Bool) (c:Cl):Bool:=
 match c with
 | (_,none,_)=>true
 | (_,some p,some q)=>g p q
 | (_,some _,none)=>false
def placesAll (g:Sh->Sh->Bool):List Sh->List Sh->Bool
 | [],[]=>true
 | a::us,b::vs=>(if us.isEmpty then g a b else g b a)&&placesAll g us vs
 | [],_::_=>false
 | _::_,[]=>false
def bw:Nat->Sh->Sh->Bool
 | 0,_,_=>false
 | f+1,a,b=>
  if a.kind≠b.kind then false
  else if a.kind=6 then (calls a b).all (stepNarrow (bw f))
  else if a.kind=7 then (calls a b).all (stepWide (bw f))
  else decide (a.of_=b.of_/\a.name=b.name)&&placesAll (bw f) a.parts b.parts
theorem ZaW {g:Sh->Sh->Bool} {us vs:List Sh}:placesAll g us vs=true ↔
 us.length=vs.length/\ ∀(i:Nat) (p q:Sh),us[i]? =some p->vs[i]? =some q->(if i+1=us.length then g p q else g q p)=true:=by
 induction us generalizing vs with
 | nil=>cases vs <;> simp[placesAll]
 | cons a us ih=>
  cases vs with
  | nil=>simp[placesAll]
  | cons b vs=>
   unfold placesAll;rw[Bool.and_eq_true,ih];constructor
   {rintro ⟨h1,h2,h3⟩;refine ⟨by simp[h2],fun i p q hp hq=> ?_⟩;cases i with
    | zero=>
     simp only[List.getElem?_cons_zero,Option.some.injEq] at hp hq;subst hp hq;by_cases e:us.isEmpty=true
     {rw[if_pos e] at h1; rw[if_pos (by have:=(Zai us).1 e; rw[List.length_cons]; omega)]; exact h1}
     {rw[if_neg e] at h1; rw[if_neg (fun h=>e ((Zai us).2 (by rw[List.length_cons] at h; omega)))]; exact h1}
    | succ i=>
     have:=h3 i p q (by simpa using hp) (by simpa using hq);rw[<-this]; simp}
   {rintro ⟨h1,h2⟩;refine ⟨?_,by simpa using h1,fun i p q hp hq=> ?_⟩
    {have:=h2 0 a b (by simp) (by simp);by_cases e:us.isEmpty=true
     {rw[if_pos e]; rw[if_pos (by have:=(Zai us).1 e; rw[List.length_cons]; omega)] at this; exact this}
     {rw[if_neg e]; rw[if_neg (fun h=>e ((Zai us).2 (by rw[List.length_cons] at h; omega)))] at this; exact this}}
    {have:=h2 (i+1) p q (by simpa using hp) (by simpa using hq);rw[<-this]; simp}}
theorem ZcW {f:Nat}: ∀ {a b:Sh},right a=true->right b=true->(bw f a b=true ↔ V f true a b):=by
 induction f with
 | zero=>intro a b _ _; unfold bw V; simp
 | succ f ih=>
  intro a b ra rb;unfold bw V;by_cases hk:a.kind=b.kind
  {rw[if_neg (fun h=>h hk)];by_cases h6:a.kind=6
   {have A:=Za4 (Z1c ra) (Or.inl h6);have B:=Za4 (Z1c rb) (Or.inl (hk▸h6));have hw:Narrow true a.kind:=Or.inl ⟨rfl,h6⟩;rw[if_pos h6,List.all_eq_true];constructor
    {intro h;refine ⟨hk,fun _ n q hq=> ?_,fun h=>absurd h (Zar hw),fun h=>absurd (Or.inl h6) h⟩;have:=h (n,get a n,get b n) ((Za5 A B).2 ⟨rfl,rfl,Or.inr (Zaq hq)⟩);rw[hq] at this;cases hp:get a n with
     | none=>rw[hp] at this; cases this
     | some p=>rw[hp] at this; exact ⟨p,rfl,(ih (Z05 ra (Z9Z hp)) (Z05 rb (Z9Z hq))).1 this⟩}
    {rintro ⟨_,h,_⟩ ⟨n,x,y⟩ hc;obtain ⟨rfl,rfl,_⟩:=(Za5 A B).1 hc;cases hq:get b n with
     | none=>cases get a n <;> rfl
     | some q=>
      obtain ⟨p,hp,v⟩:=h hw n q hq;rw[hp];exact (ih (Z05 ra (Z9Z hp)) (Z05 rb (Z9Z hq))).2 v}}
   {rw[if_neg h6];by_cases h7:a.kind=7
    {have A:=Za4 (Z1c ra) (Or.inr h7);have B:=Za4 (Z1c rb) (Or.inr (hk▸h7));have hw:Wide true a.kind:=Or.inl ⟨rfl,h7⟩;rw[if_pos h7,List.all_eq_true];constructor
     {intro h;refine ⟨hk,fun h=>absurd hw (Zar h),fun _ n p hp=> ?_,fun h=>absurd (Or.inr h7) h⟩;have:=h (n,get a n,get b n) ((Za5 A B).2 ⟨rfl,rfl,Or.inl (Zaq hp)⟩);rw[hp] at this;cases hq:get b n with
      | none=>rw[hq] at this; cases this
      | some q=>rw[hq] at this; exact ⟨q,rfl,(ih (Z05 ra (Z9Z hp)) (Z05 rb (Z9Z hq))).1 this⟩}
     {rintro ⟨_,_,h,_⟩ ⟨n,x,y⟩ hc;obtain ⟨rfl,rfl,_⟩:=(Za5 A B).1 hc;cases hp:get a n with
      | none=>cases get b n <;> rfl
      | some p=>
       obtain ⟨q,hq,v⟩:=h hw n p hp;rw[hq];exact (ih (Z05 ra (Z9Z hp)) (Z05 rb (Z9Z hq))).2 v}}
    {rw[if_neg h7,Bool.and_eq_true,decide_eq_true_eq,ZaW];constructor
     {rintro ⟨⟨h1,h2⟩,h3,h4⟩;refine ⟨hk,fun h=>absurd (Zaa h) (by omega),fun h=>absurd (Zae h) (by omega),fun _=>⟨h1,h2,h3,fun i p q hp hq=> ?_⟩⟩;have:=h4 i p q hp hq;have rp:=Z05 ra (List.mem_of_getElem? hp);have rq:=Z05 rb (List.mem_of_getElem? hq);by_cases e:i+1=a.parts.length
      {rw[if_pos e] at this ⊢; exact (ih rp rq).1 this}
      {rw[if_neg e] at this ⊢; exact ((ih rq rp).1 this).flip}}
     {rintro ⟨_,_,_,h⟩;obtain ⟨h1,h2,h3,h4⟩:=h (by omega);refine ⟨⟨h1,h2⟩,h3,fun i p q hp hq=> ?_⟩;have:=h4 i p q hp hq;have rp:=Z05 ra (List.mem_of_getElem? hp);have rq:=Z05 rb (List.mem_of_getElem? hq);by_cases e:i+1=a.parts.length
      {rw[if_pos e] at this ⊢; exact (ih rp rq).2 this}
      {rw[if_neg e] at this ⊢; exact (ih rq rp).2 (V.flip_iff.2 this)}}}}}
  {rw[if_pos hk];constructor
   {intro h; cases h}
   {rintro ⟨h,_⟩; exact absurd h hk}}
def whole (o:Option Sh):Option Sh:=o.bind (fun j=>if check j=0 then some (sorted j) else none)
def J (up:Bool) (a b:Sh):Option Sh:=if check a=0/\check b=0 then whole (bound 40 up a b) else none
def below (a b:Sh):Bool:=decide (check a=0)&&decide (check b=0)&&bw 40 a b
theorem Zb3 {a b:Sh} (h: ¬(check a=0/\check b=0)):below a b=false:=by
 unfold below;by_cases h1:check a=0
 {simp[h1,show check b≠0 from fun e=>h ⟨h1,e⟩]}
 {simp[h1]}
end
end Sub
namespace Go.Proofs.YthajhofgjhfjeaaDoor
open Go.RowKit Shp Sub
namespace SubM
def placeStep (g:Sh->Sh->Bool) (a b:Sh) (k:Nat):Bool:=
 match a.parts[k]?,b.parts[k]? with
 | some p,some q=>if k+1=a.parts.length then g p q else g q p
 | some _,none=>true
 | none,_=>true
theorem Zbu (g:Sh->Sh->Bool) (a b:Sh): (headEq a b&&(List.range a.parts.length).all (placeStep g a b))=(decide (a.of_=b.of_/\a.name=b.name)&&placesAll g a.parts b.parts):=by
 rw[Bool.eq_iff_iff,Bool.and_eq_true,Bool.and_eq_true,ZaW,List.all_eq_true];unfold headEq;rw[decide_eq_true_eq,decide_eq_true_eq];constructor
 {rintro ⟨⟨h1,h2,h3⟩,h4⟩;refine ⟨⟨h1,h2⟩,h3,fun i p q hp hq=> ?_⟩;have:=h4 i (List.mem_range.2 (List.getElem?_eq_some_iff.1 hp).1);unfold placeStep at this;rw[hp,hq] at this;exact this}
 {rintro ⟨⟨h1,h2⟩,h3,h4⟩;refine ⟨⟨h1,h2,h3⟩,fun i hi=> ?_⟩;have hi:=List.mem_range.1 hi;unfold placeStep;rw[List.getElem?_eq_getElem hi,List.getElem?_eq_getElem (show i < b.parts.length by omega)];exact h4 i _ _ (List.getElem?_eq_getElem hi) (List.getElem?_eq_getElem (by omega))}
structure Two (f:Nat) (a b:Sh):Prop where
 ra:right a=true
 rb:right b=true
 da:deep a<=f
 db:deep b<=f
 sa:size a<=400
 sb:size b<=400
theorem Two.part {f:Nat} {a b p q:Sh} (h:Two (f+1) a b) (hp:p∈a.parts) (hq:q∈b.parts):Two f p q:=by
 obtain ⟨ra,rb,da,db,sa,sb⟩:=h;have h1:=Z2N hp;have h2:=Z2N hq;have h3:=Z1O hp;have h4:=Z1O hq;rw[Z0T] at da db;rw[size_eq] at sa sb;exact ⟨Z05 ra hp,Z05 rb hq,by omega,by omega,by omega,by omega⟩
theorem Two.swap {f:Nat} {a b:Sh} (h:Two f a b):Two f b a:=⟨h.rb,h.ra,h.db,h.da,h.sb,h.sa⟩
theorem Two.la {f:Nat} {a b:Sh} (h:Two f a b):a.parts.length<=1000:=by have:=h.sa; have:=Z0P a.parts; rw[size_eq] at *; omega
def BelowOk (f:Nat):Prop:=
 ∀(a b:Sh) (pa pb:Ptr) (n0:Nat) (w:World),Two f a b->ShAt w n0 pa a->ShAt w n0 pb b->n0<=w.heap.size->
  Y9 19 #[sv a pa,sv b pb] w (.bool (bw f a b))
section
variable {f : Nat} {a b : Sh}
section
variable (hI : BelowOk f) (n0 : Nat) (nm : List UInt8) (o1 o2 : Option Sh) (x y : Value) (W : World) (h : ∀ p q, o1 = some p -> o2 = some q -> Two f p q) (hn : n0 <= W.heap.size) (hx : At W n0 o1 x) (hy : At W n0 o2 y)
include hI n0 nm o1 o2 x y W h hn hx hy
theorem ZbT:
 Calls Tryd.prog 34 (.string ⟨nm.toArray⟩::x::y:: []).toArray W fun e W'=>e= .returned (.bool (stepNarrow (bw f) (nm,o1,o2)))/\Below W.heap.size W W':=by
 cases o2 with
 | none=>
  have hy':y= .pointer none:=hy;subst hy';have HB:=Y1 (Below.refl W.heap.size W).drew;have hx': ∃p,x= .pointer p:=by
   cases o1 with
   | none=>exact ⟨none,hx⟩
   | some _=>obtain ⟨g,o,q,h1,_⟩:=hx; exact ⟨_,h1⟩
  obtain ⟨p,rfl⟩:=hx';have hr:stepNarrow (bw f) (nm,o1,none)=true:=by cases o1 <;> rfl
  rw[hr];clear hx h hI hn hr;go_enter Tryd.func34,Tryd.ntmps34
  go_wp2_with fail
  go_quiet (fail)
  go_wp2;go_ret;exact ⟨rfl,Z0K Y2 _⟩
 | some q=>
  obtain ⟨g,off,qy,rfl,hg,h5,hs⟩:=hy;cases o1 with
  | none=>
   have hx':x= .pointer none:=hx;subst hx';have hr:stepNarrow (bw f) (nm,none,some q)=false:=rfl;rw[hr];clear h hI hn hr hg h5 hs;go_enter Tryd.func34,Tryd.ntmps34
   go_wp2_with fail
   go_quiet (fail)
   go_wp2;go_ret;exact ⟨rfl,Z0K Y2 _⟩
  | some p=>
   obtain ⟨g',off',qx,rfl,hg',h5',hs'⟩:=hx;have hr:stepNarrow (bw f) (nm,some p,some q)=bw f p q:=rfl;rw[hr];obtain ⟨x0,x1,x2,x3,x4⟩:=h5';obtain ⟨y0,y1,y2,y3,y4⟩:=h5;have hu:Upd (fun _=>False) W W.drew:=(Upd.refl _ W).drew;have HC:=Y1 (hI p q qx qy n0 W.drew (h p q rfl rfl) (Za8 hs' hn hu (fun _ _ h=>h)) (Za8 hs hn hu (fun _ _ h=>h)) hn);have HZ:Hid (Below W.heap.size W W.drew):=Y1 (Below.refl _ W).drew;unfold sv at HC;clear h hI hn hr hg hg' hs hs' hu;go_enter Tryd.func34,Tryd.ntmps34
   go_wp2_with fail
   go_still_tail 12,(by kernel_rfl)
   change wpList _ _ _ _ _ W.drew
   go_wp2_with fail
   refine HC.out.mono ?_;rintro e W2 ⟨rfl,hb2⟩;have HB2:=Y1 (Z00 HZ.out hb2);clear hb2 HC;go_wp2;go_ret;exact ⟨rfl,HB2.out⟩
theorem ZbU:
 Calls Tryd.prog 35 (.string ⟨nm.toArray⟩::x::y:: []).toArray W fun e W'=>e= .returned (.bool (stepWide (bw f) (nm,o1,o2)))/\Below W.heap.size W W':=by
 cases o1 with
 | none=>
  have hx':x= .pointer none:=hx;subst hx';have hy': ∃p,y= .pointer p:=by
   cases o2 with
   | none=>exact ⟨none,hy⟩
   | some _=>obtain ⟨g,o,q,h1,_⟩:=hy; exact ⟨_,h1⟩
  obtain ⟨p,rfl⟩:=hy';have hr:stepWide (bw f) (nm,none,o2)=true:=by cases o2 <;> rfl
  rw[hr];clear hy h hI hn hr;go_enter Tryd.func35,Tryd.ntmps35
  go_wp2_with fail
  go_quiet (fail)
  go_wp2;go_ret;exact ⟨rfl,Z0K Y2 _⟩
 | some p=>
  obtain ⟨g,off,qx,rfl,hg,h5,hs⟩:=hx;cases o2 with
  | none=>
   have hy':y= .pointer none:=hy;subst hy';have hr:stepWide (bw f) (nm,some p,none)=false:=rfl;rw[hr];clear h hI hn hr hg h5 hs;go_enter Tryd.func35,Tryd.ntmps35
   go_wp2_with fail
   go_quiet (fail)
   go_wp2;go_ret;exact ⟨rfl,Z0K Y2 _⟩
  | some q=>
   obtain ⟨g',off',qy,rfl,hg',h5',hs'⟩:=hy;have hr:stepWide (bw f) (nm,some p,some q)=bw f p q:=rfl;rw[hr];obtain ⟨x0,x1,x2,x3,x4⟩:=h5;obtain ⟨y0,y1,y2,y3,y4⟩:=h5';have hu:Upd (fun _=>False) W W.drew:=(Upd.refl _ W).drew;have HC:=Y1 (hI p q qx qy n0 W.drew (h p q rfl rfl) (Za8 hs hn hu (fun _ _ h=>h)) (Za8 hs' hn hu (fun _ _ h=>h)) hn);have HZ:Hid (Below W.heap.size W W.drew):=Y1 (Below.refl _ W).drew;unfold sv at HC;clear h hI hn hr hg hg' hs hs' hu;go_enter Tryd.func35,Tryd.ntmps35
   go_wp2_with fail
   go_still_tail 12,(by kernel_rfl)
   change wpList _ _ _ _ _ W.drew
   go_wp2_with fail
   refine HC.out.mono ?_;rintro e W2 ⟨rfl,hb2⟩;have HB2:=Y1 (Z00 HZ.out hb2);clear hb2 HC;go_wp2;go_ret;exact ⟨rfl,HB2.out⟩
end
theorem ZbV (hI:BelowOk f) (n0:Nat) (p q:Sh) (x y:Ptr) (l:Bool) (W:World) (h:Two f p q) (hn:n0<=W.heap.size) (hx:ShAt W n0 x p) (hy:ShAt W n0 y q):
 Calls Tryd.prog 37 (sv p x::sv q y:: .bool l:: []).toArray W fun e W'=>e= .returned (.bool (if l=true then bw f p q else bw f q p))/\Below W.heap.size W W':=by
 have hb1:=Z01 W (.cells (Y8 p x) 25);obtain ⟨w1,hw1⟩: ∃w1,w1=W.alloc (.cells (Y8 p x) 25):=⟨_,rfl⟩;have hb2:=Z01 w1 (.cells (Y8 q y) 25);obtain ⟨w2,hw2⟩: ∃w2,w2=w1.alloc (.cells (Y8 q y) 25):=⟨_,rfl⟩;have hs1:w1.heap.size=W.heap.size+1:=by rw[hw1]; simp
 rw[<-hw1] at hb1;rw[<-hw2] at hb2;have hB1:Box5 w1 W.heap.size p x:=by rw[hw1]; exact Z03 W p x
 have hB2:Box5 w2 w1.heap.size q y:=by rw[hw2]; exact Z03 w1 q y
 have hBA:=hB1.next hb2;rw[hs1] at hB2;have hu:Upd (fun _=>False) W w2:=Upd.new (Z00 hb1 hb2);have hx2:=Za8 hx hn hu (fun _ _ h=>h);have hy2:=Za8 hy hn hu (fun _ _ h=>h);have hn2:n0<=w2.heap.size:=by have:=hu.size; omega
 have HA:=Y1 (hI p q x y n0 w2 h hx2 hy2 hn2);have HB:=Y1 (hI q p y x n0 w2 h.swap hy2 hx2 hn2);have HW:=Y1 (Z00 hb1 hb2);obtain ⟨_,⟨a0,a1,a2,a3,a4⟩,_⟩:=hBA;obtain ⟨_,⟨b0,b1,b2,b3,b4⟩,_⟩:=hB2;simp only[Nat.zero_add] at a0 a1 a2 a3 a4 b0 b1 b2 b3 b4;have hw1':=hw1.symm;have hw2':=hw2.symm;clear hw1 hw2 hb1 hb2 hB1 hu hx2 hy2 hx hy hn h hI;unfold sv at HA HB ⊢;cases l with
 | true=>
  go_enter Tryd.func37,Tryd.ntmps37
  go_wp2_with fail
  refine HA.out.mono ?_;rintro e W3 ⟨rfl,hb3⟩;have HB3:=Y1 (Z00 HW.out hb3);clear hb3 a0 a1 a2 a3 a4 b0 b1 b2 b3 b4 HA HB;go_wp2;go_ret;exact ⟨rfl,HB3.out⟩
 | false=>
  go_enter Tryd.func37,Tryd.ntmps37
  go_wp2_with fail
  refine HB.out.mono ?_;rintro e W3 ⟨rfl,hb3⟩;have HB3:=Y1 (Z00 HW.out hb3);clear hb3 a0 a1 a2 a3 a4 b0 b1 b2 b3 b4 HA HB;go_wp2;go_ret;exact ⟨rfl,HB3.out⟩
end
theorem ZbW (f:Nat):BelowOk f:=by
 induction f with
 | zero=>intro a b pa pb n0 w h; have:=h.da; rw[Z0T] at this; omega
 | succ f hI=>
  intro a b pa pb n0 w h ha hb hn;have hb1:=Z01 w (.cells (Y8 a pa) 25);obtain ⟨w1,hw1⟩: ∃w1,w1=w.alloc (.cells (Y8 a pa) 25):=⟨_,rfl⟩;have hb2:=Z01 w1 (.cells (Y8 b pb) 25);obtain ⟨w2,hw2⟩: ∃w2,w2=w1.alloc (.cells (Y8 b pb) 25):=⟨_,rfl⟩;have hs1:w1.heap.size=w.heap.size+1:=by rw[hw1]; simp
  rw[<-hw1] at hb1;rw[<-hw2] at hb2;have hB1:Box5 w1 w.heap.size a pa:=by rw[hw1]; exact Z03 w a pa
  have hB2:Box5 w2 w1.heap.size b pb:=by rw[hw2]; exact Z03 w1 b pb
  have hBA:=hB1.next hb2;rw[hs1] at hB2;have hbw:=Z00 hb1 hb2;have hu:Upd (fun _=>False) w w2:=Upd.new hbw;have HA:=Y1 (Za8 ha hn hu (fun _ _ h=>h));have HB:=Y1 (Za8 hb hn hu (fun _ _ h=>h));have HN:Hid (n0<=w2.heap.size):=Y1 (by have:=hu.size; omega);have HW:=Y1 hbw;have H2:=Y1 h;have HI:=Y1 hI;obtain ⟨_,⟨a0,a1,a2,a3,a4⟩,_⟩:=hBA;obtain ⟨_,⟨b0,b1,b2,b3,b4⟩,_⟩:=hB2;simp only[Nat.zero_add] at a0 a1 a2 a3 a4 b0 b1 b2 b3 b4;have hw1':=hw1.symm;have hw2':=hw2.symm;have hwz:w.heap.size<=w2.heap.size:=hbw.size
  -- what the closures keep
  have keepN: ∀(ok:Bool) (done:List Cl) W W',Below w.heap.size w W->Upd (fun x=>w2.heap.size<=x/\x < w2.heap.size+3) W W'->Below w.heap.size w W':=fun _ _ W W' h1 h2=>h1.trans (h2.below h1.size (fun x hx=>by omega));have keepP: ∀(ok:Bool) (k:Nat) W W',Below w.heap.size w W->Upd (fun x=>w2.heap.size<=x/\x < w2.heap.size+2) W W'->Below w.heap.size w W':=fun _ _ W W' h1 h2=>h1.trans (h2.below h1.size (fun x hx=>by omega));have HKN:=Y1 keepN;have HKP:=Y1 keepP;clear hw1 hw2 hb1 hb2 hB1 hu ha hb hn h hI hbw keepN keepP;unfold sv;by_cases hk:a.kind=b.kind
  {have m0: (a.kind !=b.kind)=false:=by rw[hk]; simp
   have n0': (a.kind==b.kind)=true:=by rw[hk]; simp
   by_cases h6:a.kind=6
   {have HR:Hid (bw (f+1) a b=(calls a b).all (stepNarrow (bw f))):=Y1 (by rw[show bw (f+1) a b=_ from rfl]; conv=>lhs; unfold bw; rw[if_neg (fun h=>h hk),if_pos h6]);have HRa:=Y1 (Za4 (Z1c H2.out.ra) (Or.inl h6));have HRb:=Y1 (Za4 (Z1c H2.out.rb) (Or.inl (hk▸h6)));have m6:=Y4 6 h6 rfl;have hT:Takes n0 w2.heap.size a b 34 [] (stepNarrow (bw f)) (fun _ _ W=>Below w.heap.size w W):=by
     refine ⟨HKN.out,fun done c rest W x y hcut hsz hK hx hy=> ?_⟩;obtain ⟨nm,o1,o2⟩:=c;have hm: (nm,o1,o2)∈calls a b:=by rw[hcut]; simp
     obtain ⟨e1,e2,_⟩:=(Za5 HRa.out HRb.out).1 hm;refine (ZbT HI.out n0 nm o1 o2 x y W (fun p q hp hq=> ?_) (by have:=HN.out; omega) hx hy).mono ?_
     {rw[e1] at hp; rw[e2] at hq;exact H2.out.part (Z9Z hp) (Z9Z hq)}
     {rintro e W' ⟨rfl,hb⟩;exact ⟨rfl,hK.trans (hb.mono hK.size),Upd.new hb⟩}
    have HE:=Y1 (Zap a b pa pb n0 w2 HRa.out HRb.out HA.out HB.out HN.out (by have:=H2.out.la; rw[<-HRa.out.l] at this; exact this) (by have:=H2.out.swap.la; rw[<-HRb.out.l] at this; exact this) 34 (enters_of Tryd.func34 (by kernel_rfl) rfl) [] _ _ hT HW.out);unfold sv at HE;rw[HR.out];clear hT hk h6;go_enter Tryd.func19,Tryd.ntmps19
    go_wp2_with fail
    refine HE.out.mono ?_;rintro e W3 ⟨rfl,⟨_,hK,_⟩,_⟩;have HK:=Y1 hK;clear hK HE a0 a1 a2 a3 a4 b0 b1 b2 b3 b4;go_wp2;go_ret;exact ⟨rfl,HK.out⟩}
   {have m6: (a.kind==6)=false:=by simpa using h6
    by_cases h7:a.kind=7
    {have HR:Hid (bw (f+1) a b=(calls a b).all (stepWide (bw f))):=Y1 (by conv=>lhs; unfold bw; rw[if_neg (fun h=>h hk),if_neg h6,if_pos h7]);have HRa:=Y1 (Za4 (Z1c H2.out.ra) (Or.inr h7));have HRb:=Y1 (Za4 (Z1c H2.out.rb) (Or.inr (hk▸h7)));have m7:=Y4 7 h7 rfl;have hT:Takes n0 w2.heap.size a b 35 [] (stepWide (bw f)) (fun _ _ W=>Below w.heap.size w W):=by
      refine ⟨HKN.out,fun done c rest W x y hcut hsz hK hx hy=> ?_⟩;obtain ⟨nm,o1,o2⟩:=c;have hm: (nm,o1,o2)∈calls a b:=by rw[hcut]; simp
      obtain ⟨e1,e2,_⟩:=(Za5 HRa.out HRb.out).1 hm;refine (ZbU HI.out n0 nm o1 o2 x y W (fun p q hp hq=> ?_) (by have:=HN.out; omega) hx hy).mono ?_
      {rw[e1] at hp; rw[e2] at hq;exact H2.out.part (Z9Z hp) (Z9Z hq)}
      {rintro e W' ⟨rfl,hb⟩;exact ⟨rfl,hK.trans (hb.mono hK.size),Upd.new hb⟩}
     have HE:=Y1 (Zap a b pa pb n0 w2 HRa.out HRb.out HA.out HB.out HN.out (by have:=H2.out.la; rw[<-HRa.out.l] at this; exact this) (by have:=H2.out.swap.la; rw[<-HRb.out.l] at this; exact this) 35 (enters_of Tryd.func35 (by kernel_rfl) rfl) [] _ _ hT HW.out);unfold sv at HE;rw[HR.out];clear hT hk h6 h7;go_enter Tryd.func19,Tryd.ntmps19
     go_wp2_with fail
     refine HE.out.mono ?_;rintro e W3 ⟨rfl,⟨_,hK,_⟩,_⟩;have HK:=Y1 hK;clear hK HE a0 a1 a2 a3 a4 b0 b1 b2 b3 b4;go_wp2;go_ret;exact ⟨rfl,HK.out⟩}
    {have m7: (a.kind==7)=false:=by simpa using h7
     have HR:Hid (bw (f+1) a b=(headEq a b&&(List.range a.parts.length).all (placeStep (bw f) a b))):=Y1 (by rw[Zbu]; conv=>lhs; unfold bw; rw[if_neg (fun h=>h hk),if_neg h6,if_neg h7]);have hT:TakesP n0 w2.heap.size a b 37 [] (placeStep (bw f) a b) (fun _ _ W=>Below w.heap.size w W):=by
      refine ⟨HKP.out,fun k hk hk2 W x y hsz hK hx hy=> ?_⟩;refine (ZbV HI.out n0 _ _ x y _ W (H2.out.part (List.getElem_mem _) (List.getElem_mem _)) (by have:=HN.out; omega) hx hy).mono ?_;rintro e W' ⟨rfl,hb⟩;refine ⟨?_,hK.trans (hb.mono hK.size),Upd.new hb⟩;unfold placeStep;rw[List.getElem?_eq_getElem hk,List.getElem?_eq_getElem hk2];simp only[decide_eq_true_eq]
     have HE:=Y1 (ZaQ a b pa pb n0 w2 HA.out HB.out HN.out H2.out.la 37 (enters_of Tryd.func37 (by kernel_rfl) rfl) [] _ _ hT HW.out);unfold sv at HE;rw[HR.out];clear hT hk h6 h7;go_enter Tryd.func19,Tryd.ntmps19
     go_wp2_with fail
     refine HE.out.mono ?_;rintro e W3 ⟨rfl,⟨_,hK,_⟩,_⟩;have HK:=Y1 hK;clear hK HE a0 a1 a2 a3 a4 b0 b1 b2 b3 b4;go_wp2;go_ret;exact ⟨rfl,HK.out⟩}}}
  {have m0: (a.kind !=b.kind)=true:=by simpa using hk
   have n0': (a.kind==b.kind)=false:=by simpa using hk
   have HR:Hid (bw (f+1) a b=false):=Y1 (by unfold bw; rw[if_pos hk]);rw[HR.out];clear hk;go_enter Tryd.func19,Tryd.ntmps19;go_wp2;go_ret;exact ⟨rfl,HW.out⟩}
end SubM
end Go.Proofs.YthajhofgjhfjeaaDoor
namespace Go.Proofs.YthajhofgjhfjeaaDoor
open Go.RowKit Shp Sub
namespace SubM
def bfn (up:Bool):Nat:=if up=true then 30 else 32
theorem ZaL (up:Bool): ∀args W,(callFunc (bfn up) args).run Tryd.prog W= .ok (.enter (bfn up) args) W:=by
 cases up
 {exact enters_of Tryd.func32 (by kernel_rfl) rfl}
 {exact enters_of Tryd.func30 (by kernel_rfl) rfl}
def BIs (f:Nat) (up:Bool) (a b:Sh) (n0:Nat) (w:World) (e:Ending) (w':World):Prop:=
 ∃(t:Sh) (q:Ptr),e= .returned (.tuple #[sv t q,.bool (bound f up a b).isSome])/\Below w.heap.size w w'/\ ∀j,bound f up a b=some j->t=j/\Kept (fun b=>b < n0\/w.heap.size<=b) w' (j,q)
def BoundOk (f:Nat):Prop:=
 ∀(up:Bool) (a b:Sh) (pa pb:Ptr) (n0:Nat) (w:World),Two f a b->ShAt w n0 pa a->ShAt w n0 pb b->n0<=w.heap.size->Calls Tryd.prog (bfn up) #[sv a pa,sv b pb] w (BIs f up a b n0 w)
structure RX where
 f:Nat
 up:Bool
 a:Sh
 b:Sh
 pa:Ptr
 pb:Ptr
 ga:Nat
 oa:Nat
 gb:Nat
 ob:Nat
 pf:Nat
 n0:Nat
 W0:World
namespace RX
variable (X : RX)
def val (j:Nat):Option Value:=match j with
 | 0=>some (.func (.func (bfn X.up)) #[] #[])
 | 1 | 2=>some (.pointer (some ⟨X.ga,X.oa,none⟩))
 | 3=>some (sv X.a X.pa)
 | 4 | 5=>some (.pointer (some ⟨X.gb,X.ob,none⟩))
 | 6=>some (sv X.b X.pb)
 | _=>none
structure Good:Prop where
 two:Two X.f X.a X.b
 hn:X.n0<=X.W0.heap.size
 gan:X.ga < X.n0
 gbn:X.gb < X.n0
 a5:Sh5 X.W0 X.ga X.oa X.a X.pa
 b5:Sh5 X.W0 X.gb X.ob X.b X.pb
 sa:ShAt X.W0 X.n0 X.pa X.a
 sb:ShAt X.W0 X.n0 X.pb X.b
 fc:X.W0.cell? ⟨X.pf,0,none⟩=some (.func (.func (bfn X.up)) #[] #[])
 fl:X.pf < X.W0.heap.size
 ok:BoundOk X.f
structure RI (d:Nat->Bool) (u:Nat->Value) (W:World):Prop where
 vals: ∀j,d j=true-> ∀v,X.val j=some v->u j=v
 up:Below X.W0.heap.size X.W0 W
 al:d 11=true-> ∃g,u 11= .pointer (some ⟨g,0,none⟩)/\X.W0.heap.size<=g/\g < W.heap.size/\(∀j,W.frozen? ⟨g,j,none⟩=false)/\ ∀j,j < 5-> ∃v,W.cell? ⟨g,j,none⟩=some v
 ca:d 7=true-> ∃(t:Sh) (q:Ptr) (W2:World) (s:Nat),u 7= .tuple #[sv t q,.bool (bound X.f X.up X.a X.b).isSome]/\X.W0.heap.size<=s/\s<=W2.heap.size/\
  (∀j,bound X.f X.up X.a X.b=some j->t=j/\Kept (fun b=>b < X.n0\/s<=b) W2 (j,q))/\
  (d 8=true->u 8=u 7)/\(d 9=true->u 9=sv t q)/\(d 10=true->u 10= .bool (bound X.f X.up X.a X.b).isSome)/\
  Upd (fun b=>d 11=true/\u 11= .pointer (some ⟨b,0,none⟩)) W2 W/\(∀g,d 11=true->u 11= .pointer (some ⟨g,0,none⟩)->g < s\/W2.heap.size<=g)/\(d 12=true-> ∀g,u 11= .pointer (some ⟨g,0,none⟩)->Sh5 W g 0 t q)/\(d 13=true->u 13= .bool (bound X.f X.up X.a X.b).isSome)
variable {X : RX} {d : Nat -> Bool} {u : Nat -> Value} {W W' : World}
theorem RI.vals' (h:X.RI d u W) {i:Nat} {v:Value} (hv: ∀v',X.val i=some v'->v=v'): ∀j,also d i j=true-> ∀v',X.val j=some v'->upd u i v j=v':=fun j hj v' hv'=>by
 by_cases hij:j=i
 {subst hij; rw[Z2p]; exact hv v' hv'}
 {rw[Za3 d hij] at hj; rw[Z15 u v hij]; exact h.vals j hj v' hv'}
theorem Good.start (h:X.Good):X.RI (fun _=>false) u X.W0.drew:=⟨nofun,Y2.drew,nofun,nofun⟩
theorem RI.pure (h:X.RI d u W) {i:Nat} (hi:i < 7) {v:Value} (hv: ∀v',X.val i=some v'->v=v'):X.RI (also d i) (upd u i v) W:=by
 have k: ∀j,7<=j->also d i j=d j/\upd u i v j=u j:=fun j hj=>⟨Za3 d (by omega),Z15 u v (by omega)⟩;refine ⟨h.vals' hv,h.up, ?_, ?_⟩
 {rw[(k 11 (by omega)).1,(k 11 (by omega)).2]; exact h.al}
 {rw[(k 7 (by omega)).1,(k 7 (by omega)).2,(k 8 (by omega)).1,(k 8 (by omega)).2,(k 9 (by omega)).1,(k 9 (by omega)).2,(k 10 (by omega)).1,(k 10 (by omega)).2,(k 11 (by omega)).1,(k 11 (by omega)).2,(k 12 (by omega)).1,(k 13 (by omega)).1,(k 13 (by omega)).2];exact h.ca}
def lay (W:World) (g:Nat) (t:Sh) (q:Ptr):World:=
 ((((W.setCell ⟨g,0,none⟩ (.int .i64 t.kind)).setCell ⟨g,1,none⟩ (.string ⟨t.of_.toArray⟩)).setCell ⟨g,2,none⟩ (.string ⟨t.name.toArray⟩)).setCell ⟨g,3,none⟩ (.slice q.A t.names.length q.c)).setCell ⟨g,4,none⟩ (.slice q.P t.parts.length q.d)
theorem lay_upd (W:World) (g:Nat) (t:Sh) (q:Ptr):Upd (fun b=>b=g) W (lay W g t q):=
 Upd.set (Upd.set (Upd.set (Upd.set (Upd.set (Upd.refl (fun b=>b=g) W) ⟨g,0,none⟩ (fun _=>rfl) _) ⟨g,1,none⟩ (fun _=>rfl) _) ⟨g,2,none⟩ (fun _=>rfl) _) ⟨g,3,none⟩ (fun _=>rfl) _) ⟨g,4,none⟩ (fun _=>rfl) _
theorem lay_size (W:World) (g:Nat) (t:Sh) (q:Ptr): (lay W g t q).heap.size=W.heap.size:=by simp[lay,World.setCell]
theorem lay_fz (W:World) (g:Nat) (t:Sh) (q:Ptr) (j:Nat): (lay W g t q).frozen? ⟨g,j,none⟩=W.frozen? ⟨g,j,none⟩:=by
 unfold lay; rw[World.frozen?_setCell,World.frozen?_setCell,World.frozen?_setCell,World.frozen?_setCell,World.frozen?_setCell]
theorem soc {W:World} {b x y:Nat} {v:Value} (h:x≠y): (W.setCell ⟨b,x,none⟩ v).cell? ⟨b,y,none⟩=W.cell? ⟨b,y,none⟩:=World.cell?_setCell_other _ _ _ _ (fun e=>by have:=congrArg Addr.off e; simp at this; omega)
theorem lay_at {W:World} {g:Nat} (t:Sh) (q:Ptr) (h: ∀j,j < 5-> ∃v,W.cell? ⟨g,j,none⟩=some v):Sh5 (lay W g t q) g 0 t q:=by
 obtain ⟨v0,h0⟩:=h 0 (by omega);obtain ⟨v1,h1⟩:=h 1 (by omega);obtain ⟨v2,h2⟩:=h 2 (by omega);obtain ⟨v3,h3⟩:=h 3 (by omega);obtain ⟨v4,h4⟩:=h 4 (by omega);unfold lay Sh5;simp only[Nat.zero_add];refine ⟨?_, ?_, ?_, ?_, ?_⟩
 {rw[soc (by omega),soc (by omega),soc (by omega),soc (by omega)]; exact World.cell?_setCell_same _ _ _ h0}
 {rw[soc (by omega),soc (by omega),soc (by omega)]; exact World.cell?_setCell_same _ _ _ (by rw[soc (by omega)]; exact h1)}
 {rw[soc (by omega),soc (by omega)]; exact World.cell?_setCell_same _ _ _ (by rw[soc (by omega),soc (by omega)]; exact h2)}
 {rw[soc (by omega)]; exact World.cell?_setCell_same _ _ _ (by rw[soc (by omega),soc (by omega),soc (by omega)]; exact h3)}
 {exact World.cell?_setCell_same _ _ _ (by rw[soc (by omega),soc (by omega),soc (by omega),soc (by omega)]; exact h4)}
section
variable (h : X.RI d u W)
include h
theorem RI.look (hX:X.Good):Sh5 W X.ga X.oa X.a X.pa/\Sh5 W X.gb X.ob X.b X.pb/\W.cell? ⟨X.pf,0,none⟩=some (.func (.func (bfn X.up)) #[] #[]):=
 ⟨hX.a5.keep (by have:=hX.gan; have:=hX.hn; omega) h.up,hX.b5.keep (by have:=hX.gbn; have:=hX.hn; omega) h.up,(h.up.cell (p:=⟨X.pf,0,none⟩) hX.fl).trans hX.fc⟩
theorem RI.call (hX:X.Good) (h7:d 7=false) (hd: ∀j,j=8\/j=9\/j=10\/j=12\/j=13->d j=false) {e:Ending} (hb:BIs X.f X.up X.a X.b X.n0 W e W'): ∃v,e= .returned v/\X.RI (also d 7) (upd u 7 v) W':=by
 obtain ⟨t,q,rfl,hbl,hj⟩:=hb;have k: ∀j,j≠7->also d 7 j=d j/\ ∀v,upd u 7 v j=u j:=fun j hj=>⟨Za3 d hj,fun v=>Z15 u v hj⟩;refine ⟨_,rfl,h.vals' (fun v' h=>by cases h),Z00 h.up hbl, ?_,fun _=>⟨t,q,W',W.heap.size,Z2p _ _ _,h.up.size,hbl.size,hj, ?_, ?_, ?_, ?_, ?_, ?_, ?_⟩⟩
 {rw[(k 11 (by omega)).1,(k 11 (by omega)).2];intro h11;obtain ⟨g,e,g1,g2,g3,g4⟩:=h.al h11;exact ⟨g,e,g1,Nat.lt_of_lt_of_le g2 hbl.size,fun j=>(hbl.frozen (p:=⟨g,j,none⟩) g2).trans (g3 j),fun j hj=>by
   obtain ⟨v,hv⟩:=g4 j hj;exact ⟨v,(hbl.cell (p:=⟨g,j,none⟩) g2).trans hv⟩⟩}
 {rw[(k 8 (by omega)).1,hd 8 (by omega)]; nofun}
 {rw[(k 9 (by omega)).1,hd 9 (by omega)]; nofun}
 {rw[(k 10 (by omega)).1,hd 10 (by omega)]; nofun}
 {exact Upd.refl _ _}
 {rw[(k 11 (by omega)).1,(k 11 (by omega)).2];intro g h11 e;obtain ⟨g',e',_,g2,_⟩:=h.al h11;rw[e'] at e;simp only[Value.pointer.injEq,Option.some.injEq,Addr.mk.injEq,and_true] at e;omega}
 {rw[(k 12 (by omega)).1,hd 12 (by omega)]; nofun}
 {rw[(k 13 (by omega)).1,hd 13 (by omega)]; nofun}
theorem RI.read (h7:d 7=true) {i:Nat} (hi:i=8\/i=9\/i=10\/i=13) {v:Value} (hd:d i=false) (hv: ∀t q,u 7= .tuple #[sv t q,.bool (bound X.f X.up X.a X.b).isSome]->
 (i=8->v=u 7)/\(i=9->v=sv t q)/\(i=10->v= .bool (bound X.f X.up X.a X.b).isSome)/\(i=13->v= .bool (bound X.f X.up X.a X.b).isSome)):X.RI (also d i) (upd u i v) W:=by
 have k: ∀j,j≠i->also d i j=d j/\upd u i v j=u j:=fun j hj=>⟨Za3 d hj,Z15 u v hj⟩;refine ⟨h.vals' (fun v' h=>by rcases hi with rfl | rfl | rfl | rfl <;> cases h),h.up, ?_, ?_⟩
 {rw[(k 11 (by omega)).1,(k 11 (by omega)).2]; exact h.al}
 {rw[(k 7 (by omega)).1,(k 7 (by omega)).2,(k 11 (by omega)).1,(k 11 (by omega)).2,(k 12 (by omega)).1];intro _;obtain ⟨t,q,W2,s,e7,s1,s2,hj,e8,e9,e10,hu,hg,h12,h13⟩:=h.ca h7;obtain ⟨v8,v9,v10,v13⟩:=hv t q e7;refine ⟨t,q,W2,s,e7,s1,s2,hj,fun hd=> ?_,fun hd=> ?_,fun hd=> ?_,hu,hg,h12,fun hd=> ?_⟩
  {by_cases e:i=8
   {rw[<-e,Z2p]; exact v8 e}
   {rw[(k 8 (Ne.symm e)).1] at hd; rw[(k 8 (Ne.symm e)).2]; exact e8 hd}}
  {by_cases e:i=9
   {rw[<-e,Z2p]; exact v9 e}
   {rw[(k 9 (Ne.symm e)).1] at hd; rw[(k 9 (Ne.symm e)).2]; exact e9 hd}}
  {by_cases e:i=10
   {rw[<-e,Z2p]; exact v10 e}
   {rw[(k 10 (Ne.symm e)).1] at hd; rw[(k 10 (Ne.symm e)).2]; exact e10 hd}}
  {by_cases e:i=13
   {rw[<-e,Z2p]; exact v13 e}
   {rw[(k 13 (Ne.symm e)).1] at hd; rw[(k 13 (Ne.symm e)).2]; exact h13 hd}}}
end
theorem RI.alloc (h:X.RI d u W) (hX:X.Good) (h11:d 11=false) (h12:d 12=false):X.RI (also d 11) (upd u 11 (.pointer (some ⟨W.heap.size,0,none⟩))) (W.alloc (.cells Yb 25)):=by
 have hb:=Z01 W (.cells Yb 25);have k: ∀j,j≠11->also d 11 j=d j/\ ∀v,upd u 11 v j=u j:=fun j hj=>⟨Za3 d hj,fun v=>Z15 u v hj⟩;refine ⟨h.vals' (fun v' h=>by cases h),Z00 h.up hb,fun _=>⟨W.heap.size,Z2p _ _ _,h.up.size,by simp,fun j=>by simp[go_sem],fun j hj=> ?_⟩, ?_⟩
 {rcases j with _ | _ | _ | _ | _ | j
  {exact ⟨.int .i64 0,by simp[go_sem]⟩}
  {exact ⟨.string ⟨#[]⟩,by simp[go_sem]⟩}
  {exact ⟨.string ⟨#[]⟩,by simp[go_sem]⟩}
  {exact ⟨.slice none 0 0,by simp[go_sem]⟩}
  {exact ⟨.slice none 0 0,by simp[go_sem]⟩}
  {omega}}
 {rw[(k 7 (by omega)).1,(k 7 (by omega)).2,(k 8 (by omega)).1,(k 8 (by omega)).2,(k 9 (by omega)).1,(k 9 (by omega)).2,(k 10 (by omega)).1,(k 10 (by omega)).2,(k 12 (by omega)).1,(k 13 (by omega)).1,(k 13 (by omega)).2,Zab,Z2p,h12];intro h7;obtain ⟨t,q,W2,s,e7,s1,s2,hj,e8,e9,e10,hu,hg,_,h13⟩:=h.ca h7;refine ⟨t,q,W2,s,e7,s1,s2,hj,e8,e9,e10, ?_,fun g _ e=> ?_,nofun,h13⟩
  {exact (hu.mono (fun b _ hb=>by rw[h11] at hb; exact absurd hb.1 (by decide))).trans (Upd.new hb)}
  {simp only[Value.pointer.injEq,Option.some.injEq,Addr.mk.injEq,and_true] at e;have:=hu.size;omega}}
theorem RI.store (h:X.RI d u W) (h7:d 7=true) (h11:d 11=true) {g:Nat} (hg:u 11= .pointer (some ⟨g,0,none⟩)) {t:Sh} {q:Ptr} (ht:u 7= .tuple #[sv t q,.bool (bound X.f X.up X.a X.b).isSome])
 (hsv: ∀t' q',sv t' q'=sv t q->t'.kind=t.kind/\t'.of_=t.of_/\t'.name=t.name/\q'.A=q.A/\t'.names.length=t.names.length/\q'.c=q.c/\q'.P=q.P/\t'.parts.length=t.parts.length/\q'.d=q.d):X.RI (also d 12) (upd u 12 undef) (lay W g t q):=by
 have k: ∀j,j≠12->also d 12 j=d j/\ ∀v,upd u 12 v j=u j:=fun j hj=>⟨Za3 d hj,fun v=>Z15 u v hj⟩;obtain ⟨g',e',g1,g2,g3,g4⟩:=h.al h11;obtain rfl:g'=g:=by rw[hg] at e'; simp at e'; exact e'.symm
 have hu:=lay_upd W g' t q;refine ⟨h.vals' (fun v' h=>by cases h),h.up.trans (hu.below h.up.size (fun b hb=>by omega)), ?_, ?_⟩
 {rw[(k 11 (by omega)).1,(k 11 (by omega)).2];intro _;have hl:=lay_at t q g4;obtain ⟨l0,l1,l2,l3,l4⟩:=hl;simp only[Nat.zero_add] at l0 l1 l2 l3 l4;refine ⟨g',hg,g1,by rw[lay_size]; exact g2,fun j=>(lay_fz W g' t q j).trans (g3 j),fun j hj=> ?_⟩;rcases j with _ | _ | _ | _ | _ | j
  {exact ⟨_,l0⟩}
  {exact ⟨_,l1⟩}
  {exact ⟨_,l2⟩}
  {exact ⟨_,l3⟩}
  {exact ⟨_,l4⟩}
  {omega}}
 {rw[(k 7 (by omega)).1,(k 7 (by omega)).2,(k 8 (by omega)).1,(k 8 (by omega)).2,(k 9 (by omega)).1,(k 9 (by omega)).2,(k 10 (by omega)).1,(k 10 (by omega)).2,(k 11 (by omega)).1,(k 11 (by omega)).2,(k 13 (by omega)).1,(k 13 (by omega)).2];intro _;obtain ⟨t',q',W2,s,e7,s1,s2,hj,e8,e9,e10,hu2,hgs,_,h13⟩:=h.ca h7;refine ⟨t',q',W2,s,e7,s1,s2,hj,e8,e9,e10,hu2.trans (hu.mono (fun b _ hb=>⟨h11,by rw[hb,hg]⟩)),hgs,fun _ g2 e=> ?_,h13⟩;obtain rfl:g'=g2:=by rw[hg] at e; simpa using e
  have e72:sv t' q'=sv t q:=by
   rw[ht] at e7;simp only[Value.tuple.injEq] at e7;have:=congrArg (fun a:Array Value=>a[0]?) e7;simp at this;simp[sv];exact ⟨this.1.symm,this.2.1.symm,this.2.2.1.symm,⟨this.2.2.2.1.1.symm,this.2.2.2.1.2.1.symm,this.2.2.2.1.2.2.symm⟩,this.2.2.2.2.1.symm,this.2.2.2.2.2.1.symm,this.2.2.2.2.2.2.symm⟩
  obtain ⟨c1,c2,c3,c4,c5,c6,c7,c8,c9⟩:=hsv t' q' e72;obtain ⟨l0,l1,l2,l3,l4⟩:=lay_at t q g4;exact ⟨by rw[c1]; exact l0,by rw[c2]; exact l1,by rw[c3]; exact l2,by rw[c4,c5,c6]; exact l3,by rw[c7,c8,c9]; exact l4⟩}
end RX
end SubM
end Go.Proofs.YthajhofgjhfjeaaDoor
namespace Go.Proofs.YthajhofgjhfjeaaDoor
open Go.RowKit Shp Sub
namespace SubM
theorem Zcw {t' t:Sh} {q' q:Ptr} (h:sv t' q'=sv t q):t'.kind=t.kind/\t'.of_=t.of_/\t'.name=t.name/\q'.A=q.A/\t'.names.length=t.names.length/\q'.c=q.c/\q'.P=q.P/\t'.parts.length=t.parts.length/\q'.d=q.d:=by
 simp[sv] at h;exact ⟨h.1,h.2.1,h.2.2.1,h.2.2.2.1.1,h.2.2.2.1.2.1,h.2.2.2.1.2.2,h.2.2.2.2.1,h.2.2.2.2.2.1,h.2.2.2.2.2.2⟩
theorem Kept.move {S S' T:Nat->Prop} {W W':World} {x:El} (h:Kept S W x) (hu:Upd T W W') (hd: ∀b,b < W.heap.size->S b-> ¬T b/\S' b):Kept S' W' x:=fun W2 h1 h2=>
 h W2 (Nat.le_trans hu.size h1) (fun b hb hs=>(h2 b (Nat.lt_of_lt_of_le hb hu.size) (hd b hb hs).2).trans (hu.block b hb (hd b hb hs).1))
structure KNs (w0:World) (n0 gm hi pf:Nat) (fv:Value) (k:Int) (ok:Bool) (L:List Fld) (l:List El) (AN:Option Addr) (cN:Nat) (AP:Option Addr) (cP:Nat) (W:World):Prop where
 mm:Mk w0 gm hi k [] [] (L.map Prod.fst) l AN cN AP cP W
 eq:l.map Prod.fst=L.map Prod.snd
 kp:ok=true-> ∀x∈l,Kept (Free n0 hi AN AP) W x
 fc:W.cell? ⟨pf,0,none⟩=some fv
def KN (w0:World) (n0 gm hi pf:Nat) (fv:Value) (k:Int) (ok:Bool) (L:List Fld) (W:World):Prop:= ∃l AN cN AP cP,KNs w0 n0 gm hi pf fv k ok L l AN cN AP cP W
section
variable {w0 W W' : World} {n0 gm hi pf : Nat} {fv : Value} {k : Int} {ok : Bool} {L : List Fld} {l : List El} {AN AP : Option Addr} {cN cP : Nat}
theorem KNs.len (h:KNs w0 n0 gm hi pf fv k ok L l AN cN AP cP W):l.length=L.length:=by have:=congrArg List.length h.eq; simpa using this
theorem KNs.new (h:KNs w0 n0 gm hi pf fv k ok L l AN cN AP cP W) (hpf:pf < hi) (hb:Below W.heap.size W W'):KNs w0 n0 gm hi pf fv k ok L l AN cN AP cP W':=
 ⟨h.mm.new hb,h.eq,fun ho x hx=>(h.kp ho x hx).upd (T:=fun _=>False) (Upd.new hb) (fun _ _ _ h=>h),(hb.cell (p:=⟨pf,0,none⟩) (Nat.lt_of_lt_of_le hpf h.mm.hw)).trans h.fc⟩
theorem KNs.mid {T:Nat->Prop} (h:KNs w0 n0 gm hi pf fv k ok L l AN cN AP cP W) (hu:Upd T W W') (hT: ∀b,T b->gm < b/\pf < b/\b < hi) (hn:n0<=gm) (hpf:pf < hi):KNs w0 n0 gm hi pf fv k ok L l AN cN AP cP W':=by
 have hg:=h.mm.gh;refine ⟨h.mm.upd hu (fun b hb ht=> ?_) (fun ht=> ?_) (fun b hb ht=> ?_) (fun b hb ht=> ?_),h.eq,fun ho x hx=>(h.kp ho x hx).upd hu (fun b hb hf ht=> ?_),(hu.cell (Nat.lt_of_lt_of_le hpf h.mm.hw) (fun ht=> ?_)).trans h.fc⟩
 {have:=(hT b ht).1; have:=h.mm.lo; omega}
 {have:=(hT gm ht).1; omega}
 {have:=(hT b ht).2.2; have:=(Za0 h.mm.rN b hb).1; omega}
 {have:=(hT b ht).2.2; have:=(Za0 h.mm.rP b hb).1; omega}
 {have:=hT b ht;rcases hf with hf | hf
  {omega}
  {have:=hf.1; omega}}
 {have:=(hT pf ht).2.1; omega}
theorem KN.mid {T:Nat->Prop} (h:KN w0 n0 gm hi pf fv k ok L W) (hu:Upd T W W') (hT: ∀b,T b->gm < b/\pf < b/\b < hi) (hn:n0<=gm) (hpf:pf < hi):KN w0 n0 gm hi pf fv k ok L W':=by
 obtain ⟨l,AN,cN,AP,cP,h⟩:=h;exact ⟨l,AN,cN,AP,cP,h.mid hu hT hn hpf⟩
section
variable (h : KNs w0 n0 gm hi pf fv k ok L l AN cN AP cP W)
include h
theorem KNs.put (hn:n0<=gm) (hpf:pf < hi) (hpg:pf≠gm) {nm:List UInt8} {t:Sh} {q:Ptr} {ok':Bool} (hok:ok'=true->ok=true) (hkp:ok'=true->Kept (Free n0 hi AN AP) W (t,q))
 {AN' AP':Option Addr} {cN' cP':Nat} (hm:Mk w0 gm hi k [] [] (L.map Prod.fst++ [nm]) (l++ [(t,q)]) AN' cN' AP' cP' W') (hp:PutOk W gm AN AP AN' AP' W'):KN w0 n0 gm hi pf fv k ok' (L++ [(nm,t)]) W':=by
 obtain ⟨hu,h1,h2⟩:=hp;have hg:=h.mm.gh;have key: ∀x,Kept (Free n0 hi AN AP) W x->Kept (Free n0 hi AN' AP') W' x:=fun x hx=>hx.move hu (fun b hb hf=>by
  refine ⟨fun ht=> ?_, ?_⟩
  {rcases hf with hf | ⟨hf,f1,f2⟩
   {rcases ht with ht | ht | ht
    {omega}
    {have:=(Za0 h.mm.rN b ht).1; omega}
    {have:=(Za0 h.mm.rP b ht).1; omega}}
   {rcases ht with ht | ht | ht
    {omega}
    {exact f1 ht}
    {exact f2 ht}}}
  · rcases hf with hf | ⟨hf,f1,f2⟩
    {exact Or.inl hf}
    · exact Or.inr ⟨hf,fun e=>(h1 b e).elim f1 (fun h=>by omega),fun e=>(h2 b e).elim f2 (fun h=>by omega)⟩)
 refine ⟨l++ [(t,q)],AN',cN',AP',cP',⟨by rw[List.map_append]; exact hm,by rw[List.map_append,List.map_append,h.eq]; rfl,fun ho x hx=> ?_, ?_⟩⟩
 {rcases List.mem_append.1 hx with hx | hx
  {exact key x (h.kp (hok ho) x hx)}
  {rw[List.mem_singleton.1 hx]; exact key _ (hkp ho)}}
 {refine (hu.cell (Nat.lt_of_lt_of_le hpf h.mm.hw) (fun ht=> ?_)).trans h.fc;rcases ht with ht | ht | ht
  {exact hpg ht}
  {have:=(Za0 h.mm.rN pf ht).1; omega}
  {have:=(Za0 h.mm.rP pf ht).1; omega}}
theorem KNs.turn {AN' AP':Option Addr} (hp:PutOk W gm AN AP AN' AP' W'):Upd (fun b=>b=gm\/hi<=b) W W':=
 hp.1.mono (fun b _ hb=>by
  rcases hb with hb | hb | hb
  {exact Or.inl hb}
  {exact Or.inr (Za0 h.mm.rN b hb).1}
  · exact Or.inr (Za0 h.mm.rP b hb).1)
end
end
theorem Zcx {f:Nat} (hI:BoundOk f) (up:Bool) (w0:World) (n0 gm hi pf:Nat) (k:Int) (L:List Fld) (nm:List UInt8) (o1 o2:Option Sh) (x y:Value) (W:World) (h2: ∀p q,o1=some p->o2=some q->Two f p q)
 (hn:n0<=gm) (hpf:pf < hi) (hpg:pf≠gm) (hL:L.length<=900) (hx:At W n0 o1 x) (hy:At W n0 o2 y) (hk:KN w0 n0 gm hi pf (.func (.func (bfn up)) #[] #[]) k true L W):
 Calls Tryd.prog 67 (.string ⟨nm.toArray⟩::x::y:: .pointer (some ⟨pf,0,none⟩):: .pointer (some ⟨gm,0,none⟩):: []).toArray W fun e W'=>e= .returned (.bool true)/\
  KN w0 n0 gm hi pf (.func (.func (bfn up)) #[] #[]) k true (L++(narrowStep (bound f up) (nm,o1,o2)).toList) W'/\Upd (fun b=>b=gm\/hi<=b) W W':=by
 cases o1 with
 | none=>
  have hx':x= .pointer none:=hx;subst hx';have hr:narrowStep (bound f up) (nm,none,o2)=none:=by cases o2 <;> rfl
  rw[hr];have HK:=Y1 hk;have hy': ∃p,y= .pointer p:=by
   cases o2 with
   | none=>exact ⟨none,hy⟩
   | some _=>obtain ⟨g,o,q,h1,_⟩:=hy; exact ⟨_,h1⟩
  obtain ⟨p,rfl⟩:=hy';clear hy h2 hI hr hk;go_enter Tryd.func67,Tryd.ntmps67;go_wp2;go_ret;exact ⟨rfl,by simpa using HK.out,Upd.refl _ _⟩
 | some p=>
  obtain ⟨ga,oa,qx,rfl,hga,h5a,hsa⟩:=hx;cases o2 with
  | none=>
   have hy':y= .pointer none:=hy;subst hy';have hr:narrowStep (bound f up) (nm,some p,none)=none:=rfl;rw[hr];have HK:=Y1 hk;clear h2 hI hr hk h5a hsa;go_enter Tryd.func67,Tryd.ntmps67;go_wp2;go_ret;exact ⟨rfl,by simpa using HK.out,Upd.refl _ _⟩
  | some q=>
   obtain ⟨gb,ob,qy,rfl,hgb,h5b,hsb⟩:=hy;obtain ⟨l,AN,cN,AP,cP,hks⟩:=hk;have hX:RX.Good ⟨f,up,p,q,qx,qy,ga,oa,gb,ob,pf,n0,W⟩:=⟨h2 p q rfl rfl,by have:=hks.mm.gh; have:=hks.mm.hw; show n0<=W.heap.size; omega,hga,hgb,h5a,h5b,hsa,hsb,hks.fc,Nat.lt_of_lt_of_le hpf hks.mm.hw,hI⟩;have HX:=Y1 hX;have HKS:=Y1 hks;have HL:=Y1 hL;clear hX hks hI h2 h5a h5b hsa hsb hL hga hgb;go_enter Tryd.func67,Tryd.ntmps67
   go_wp2_with fail
   refine ZaO (rs:= [0,1,2,3,4,5,6,7,8,9,10,11,12,13])
    (fun u=> { tmps:=#[.string ⟨nm.toArray⟩,.pointer (some ⟨ga,oa,none⟩),.pointer (some ⟨gb,ob,none⟩),.pointer (some ⟨pf,0,none⟩),.pointer (some ⟨gm,0,none⟩),undef,undef,undef,.bool false,u 11,u 13,.pointer (some ⟨ga,oa,none⟩),.bool false,.bool false,.pointer (some ⟨gb,ob,none⟩),.bool false,.bool false,u 8,u 0,u 1,u 2,u 3,u 4,u 5,u 6,u 7,u 9,u 10,undef,undef,undef,undef],defers:= [] })
    (fun j=>undef) (RX.RI ⟨f,up,p,q,qx,qy,ga,oa,gb,ob,pf,n0,W⟩) (by kernel_rfl) (by kernel_rfl) (by kernel_rfl) HX.out.start ?_ ?_
   refine StepsInv.cons2 _ rfl (fun d u W1 K' hs hI hd hw hK=> ?_) ?_
   {obtain ⟨_,_,c0⟩:=hI.look HX.out
    try dsimp only at c0
    refine Z02 (v:= .func (.func (bfn up)) #[] #[]) (W':=W1) rfl ?_ (hK.out _ _ (hI.pure (by decide) (fun v' h=>by cases h; rfl)));go_simp}
   refine StepsInv.cons2 _ rfl (fun d u W1 K' hs hI hd hw hK=> ?_) ?_
   {refine Z02 (v:= .pointer (some ⟨ga,oa,none⟩)) (W':=W1) rfl ?_ (hK.out _ _ (hI.pure (by decide) (fun v' h=>by cases h; rfl)));go_simp}
   refine StepsInv.cons2 _ rfl (fun d u W1 K' hs hI hd hw hK=> ?_) ?_
   {have d1:u 1= .pointer (some ⟨ga,oa,none⟩):=hI.vals 1 (hw 1 (by kernel_rfl)) _ rfl;refine Z02 (v:= .pointer (some ⟨ga,oa,none⟩)) (W':=W1) rfl ?_ (hK.out _ _ (hI.pure (by decide) (fun v' h=>by cases h; rfl)));go_simp}
   refine StepsInv.cons2 _ rfl (fun d u W1 K' hs hI hd hw hK=> ?_) ?_
   {have d2:u 2= .pointer (some ⟨ga,oa,none⟩):=hI.vals 2 (hw 2 (by kernel_rfl)) _ rfl;obtain ⟨⟨c0,c1,c2,c3,c4⟩,_,_⟩:=hI.look HX.out
    try dsimp only at c0 c1 c2 c3 c4
    refine Z02 (v:= .agg (Y8 p qx)) (W':=W1) rfl ?_ (hK.out _ _ (hI.pure (by decide) (fun v' h=>by cases h; rfl)));go_simp}
   refine StepsInv.cons2 _ rfl (fun d u W1 K' hs hI hd hw hK=> ?_) ?_
   {refine Z02 (v:= .pointer (some ⟨gb,ob,none⟩)) (W':=W1) rfl ?_ (hK.out _ _ (hI.pure (by decide) (fun v' h=>by cases h; rfl)));go_simp}
   refine StepsInv.cons2 _ rfl (fun d u W1 K' hs hI hd hw hK=> ?_) ?_
   {have d4:u 4= .pointer (some ⟨gb,ob,none⟩):=hI.vals 4 (hw 4 (by kernel_rfl)) _ rfl;refine Z02 (v:= .pointer (some ⟨gb,ob,none⟩)) (W':=W1) rfl ?_ (hK.out _ _ (hI.pure (by decide) (fun v' h=>by cases h; rfl)));go_simp}
   refine StepsInv.cons2 _ rfl (fun d u W1 K' hs hI hd hw hK=> ?_) ?_
   {have d5:u 5= .pointer (some ⟨gb,ob,none⟩):=hI.vals 5 (hw 5 (by kernel_rfl)) _ rfl;obtain ⟨_,⟨c0,c1,c2,c3,c4⟩,_⟩:=hI.look HX.out
    try dsimp only at c0 c1 c2 c3 c4
    refine Z02 (v:= .agg (Y8 q qy)) (W':=W1) rfl ?_ (hK.out _ _ (hI.pure (by decide) (fun v' h=>by cases h; rfl)));go_simp}
   refine StepsInv.cons2 _ rfl (fun d u W1 K' hs hI hd hw hK=> ?_) ?_
   {have d0:u 0= .func (.func (bfn up)) #[] #[]:=hI.vals 0 (hw 0 (by kernel_rfl)) _ rfl;have d3:u 3= .agg (Y8 p qx):=hI.vals 3 (hw 3 (by kernel_rfl)) _ rfl;have d6:u 6= .agg (Y8 q qy):=hI.vals 6 (hw 6 (by kernel_rfl)) _ rfl;have hen:=ZaL up;have h8:d 8=false:=Za2 hs rfl (by kernel_rfl) hd;have h9:d 9=false:=Za2 hs rfl (by kernel_rfl) h8;have h10:d 10=false:=Za2 hs rfl (by kernel_rfl) h8;have h12:d 12=false:=Za2 hs rfl (by kernel_rfl) h9;have h13:d 13=false:=Za2 hs rfl (by kernel_rfl) h10;have hup:=hI.up;have hx0:=HX.out;have hu:Upd (fun _=>False) W W1:=Upd.new hup;refine Z0q (f:=bfn up) (args:=#[.agg (Y8 p qx),.agg (Y8 q qy)]) (W':=W1) rfl ?_ ((hx0.ok up p q qx qy n0 W1 hx0.two (Za8 hx0.sa hx0.hn hu (fun _ _ h=>h)) (Za8 hx0.sb hx0.hn hu (fun _ _ h=>h)) (Nat.le_trans hx0.hn hu.size)).mono fun e w' hb=> ?_)
    {go_simp}
    {obtain ⟨v,he,hr⟩:=hI.call HX.out hd (fun j hj=>by rcases hj with rfl | rfl | rfl | rfl | rfl <;> assumption) hb;exact ⟨v,he,hK.out _ _ hr⟩}}
   refine StepsInv.cons2 _ rfl (fun d u W1 K' hs hI hd hw hK=> ?_) ?_
   {have w7:=hw 7 (by kernel_rfl);obtain ⟨t,qt,W2,s,e7,_⟩:=hI.ca w7
    try dsimp only at e7
    refine Z02 (v:= .tuple #[.agg (Y8 t qt),.bool (bound f up p q).isSome]) (W':=W1) rfl ?_ (hK.out _ _ (hI.read w7 (by decide) hd (fun t' q' h=>⟨fun _=>e7.symm,nofun,nofun,nofun⟩)));go_simp}
   refine StepsInv.cons2 _ rfl (fun d u W1 K' hs hI hd hw hK=> ?_) ?_
   {have w8:=hw 8 (by kernel_rfl);have w7:d 7=true:=hs 8 _ rfl w8 7 (by kernel_rfl);obtain ⟨t,qt,W2,s,e7,_,_,_,e8,_⟩:=hI.ca w7
    try dsimp only at e7
    have d8:=(e8 w8).trans e7;refine Z02 (v:= .agg (Y8 t qt)) (W':=W1) rfl ?_ (hK.out _ _ (hI.read w7 (by decide) hd (fun t' q' h=>⟨nofun,fun _=>by rw[e7] at h; simp only[Value.tuple.injEq] at h; have:=congrArg (fun a:Array Value=>a[0]?) h; simpa using this,nofun,nofun⟩)));go_simp}
   refine StepsInv.cons2 _ rfl (fun d u W1 K' hs hI hd hw hK=> ?_) ?_
   {have w8:=hw 8 (by kernel_rfl);have w7:d 7=true:=hs 8 _ rfl w8 7 (by kernel_rfl);obtain ⟨t,qt,W2,s,e7,_,_,_,e8,_⟩:=hI.ca w7
    try dsimp only at e7
    have d8:=(e8 w8).trans e7;refine Z02 (v:= .bool (bound f up p q).isSome) (W':=W1) rfl ?_ (hK.out _ _ (hI.read w7 (by decide) hd (fun t' q' h=>⟨nofun,nofun,fun _=>rfl,nofun⟩)));go_simp}
   refine StepsInv.cons2 _ rfl (fun d u W1 K' hs hI hd hw hK=> ?_) ?_
   {have h12:d 12=false:=Za2 hs rfl (by kernel_rfl) hd;refine Z02 (v:= .pointer (some ⟨W1.heap.size,0,none⟩)) (W':=W1.alloc (.cells Yb 25)) rfl ?_ (hK.out _ _ (hI.alloc HX.out hd h12));go_simp}
   refine StepsInv.cons2 _ rfl (fun d u W1 K' hs hI hd hw hK=> ?_) ?_
   {have w11:=hw 11 (by kernel_rfl);have w9:=hw 9 (by kernel_rfl);have w7:=hw 7 (by kernel_rfl);obtain ⟨t,qt,W2,s,e7,_,_,_,_,e9,_⟩:=hI.ca w7
    try dsimp only at e7
    have d9:=e9 w9;obtain ⟨g,e11,g1,g2,g3,g4⟩:=hI.al w11;have hst:=hI.store w7 w11 e11 e7 (fun t' q' h=>Zcw h);refine Z8i (W':=RX.lay W1 g t qt) rfl ?_ (hK.out undef _ hst);obtain ⟨v0,x0⟩:=g4 0 (by omega);obtain ⟨v1,x1⟩:=g4 1 (by omega);obtain ⟨v2,x2⟩:=g4 2 (by omega);obtain ⟨v3,x3⟩:=g4 3 (by omega);obtain ⟨v4,x4⟩:=g4 4 (by omega);have y0:=g3 0;have y1:=g3 1;have y2:=g3 2;have y3:=g3 3;have y4:=g3 4;unfold sv at d9;go_simp;rfl}
   refine StepsInv.cons2 _ rfl (fun d u W1 K' hs hI hd hw hK=> ?_) StepsInv.nil
   {have w10:=hw 10 (by kernel_rfl);have w8:d 8=true:=hs 10 _ rfl w10 8 (by kernel_rfl);have w7:d 7=true:=hs 8 _ rfl w8 7 (by kernel_rfl);obtain ⟨t,qt,W2,s,e7,_,_,_,_,_,e10,_⟩:=hI.ca w7
    try dsimp only at e7
    have d10:=e10 w10
    try dsimp only at d10
    refine Z02 (v:= .bool (bound f up p q).isSome) (W':=W1) rfl ?_ (hK.out _ _ (hI.read w7 (by decide) hd (fun t' q' h=>⟨nofun,nofun,nofun,fun _=>rfl⟩)));go_simp}
   {intro d u W1 hI hd;have w7:=hd 7 (by show 7 < 14; omega);have w11:=hd 11 (by show 11 < 14; omega);have w13:=hd 13 (by show 13 < 14; omega);obtain ⟨g,e11,g1,g2,g3,g4⟩:=hI.al w11;obtain ⟨t,qt,W2,s,e7,s1,s2,hj,_,_,_,hu,hgs,h12,h13⟩:=hI.ca w7
    try dsimp only at g1 s1 hj h13
    have d13:=h13 w13;obtain ⟨x0,x1,x2,x3,x4⟩:=h12 (hd 12 (by show 12 < 14; omega)) g e11;simp only[Nat.zero_add] at x0 x1 x2 x3 x4;have hup:=hI.up
    try dsimp only at hup
    have hK1:=HKS.out.new hpf hup;have hkp: ∀j,bound f up p q=some j->t=j/\Kept (Free n0 hi AN AP) W1 (j,qt):=fun j hb=>by
     obtain ⟨e1,e2⟩:=hj j hb;refine ⟨e1,e2.move hu (fun b hb hf=>⟨fun ht=> ?_, ?_⟩)⟩
     {have hz:=HX.out.hn
      try dsimp only at hz
      rw[e11] at ht;have e3:g=b:=by simpa using ht.2
      rcases hgs g w11 e11 with h | h
      {rcases hf with hf | hf <;> omega}
      {omega}}
     {rcases hf with hf | hf
      {exact Or.inl hf}
      {have hw:=HKS.out.mm.hw;exact Or.inr ⟨by omega,fun e=>by have:=(Za0 HKS.out.mm.rN b e).2; omega,fun e=>by have:=(Za0 HKS.out.mm.rP b e).2; omega⟩}}
    have HK1:=Y1 hK1;have HKP:=Y1 hkp;have HUP:=Y1 hup;rw[e11,d13];clear hI hd hj hu hgs h12 h13 hup hK1 hkp g3 g4 e7 w7 w11 w13;cases hb:bound f up p q with
    | none=>
     have HR:Hid (narrowStep (bound f up) (nm,some p,some q)=none):=Y1 (by show (bound f up p q).map _=_; rw[hb]; rfl);simp only[Option.isSome_none];clear hb d13;go_wp2;go_ret;rw[HR.out];refine ⟨rfl, ?_,Upd.new HUP.out⟩;rw[show L++(none:Option Fld).toList=L from by simp];exact ⟨_,_,_,_,_,HK1.out⟩
    | some j=>
     have HR:Hid (narrowStep (bound f up) (nm,some p,some q)=some (nm,j)):=Y1 (by show (bound f up p q).map _=_; rw[hb]; rfl);simp only[Option.isSome_some];obtain ⟨rfl,hkk⟩:=HKP.out j hb;have HKK:=Y1 hkk;have hlen:=HK1.out.len;have hL0:=HL.out;have HPW:=Y1 (Zbb w0 gm hi k [] [] (L.map Prod.fst) l AN cN AP cP nm t qt W1 HK1.out.mm (by rw[List.length_map]; omega) (by omega));unfold sv at HPW;clear hb d13 hkk hlen hL0 HKP
     go_wp2_with fail
     refine HPW.out.mono ?_;rintro e W3 ⟨rfl,AN',cN',AP',cP',hm,hp⟩;have HKN:=Y1 (HK1.out.put hn hpf hpg (nm:=nm) (t:=t) (q:=qt) (ok':=true) (fun _=>rfl) (fun _=>HKK.out) hm hp);have HUD:Hid (Upd (fun b=>b=gm\/hi<=b) W W3):=Y1 ((Upd.new HUP.out).trans (HK1.out.turn hp));clear hm hp HPW x0 x1 x2 x3 x4;go_wp2;go_ret;rw[HR.out];exact ⟨rfl,HKN.out,HUD.out⟩}
end SubM
end Go.Proofs.YthajhofgjhfjeaaDoor
namespace Go.Proofs.YthajhofgjhfjeaaDoor
open Go.RowKit Shp Sub
namespace SubM
def WideOk (w0:World) (n0 gm hi pf:Nat) (fv:Value) (k:Int) (L:List Fld) (nm:List UInt8) (o:Option Fld) (W:World) (e:Ending) (W':World):Prop:=
 e= .returned (.bool o.isSome)/\(∀x,o=some x->KN w0 n0 gm hi pf fv k true (L++ [x]) W')/\(o=none-> ∃t,KN w0 n0 gm hi pf fv k false (L++ [(nm,t)]) W')/\Upd (fun b=>b=gm\/hi<=b) W W'
section
variable {w0 W : World} {n0 gm hi pf : Nat} {fv : Value} {k : Int} {L : List Fld} {nm : List UInt8}
theorem ZbG (hn:n0<=gm) (hpf:pf < hi) (hpg:pf≠gm) (hL:L.length<=900) (hk:KN w0 n0 gm hi pf fv k true L W) (W3:World) (hb:Below W.heap.size W W3) (t:Sh) (q:Ptr) (hs:ShAt W n0 q t):
 Calls Tryd.prog 68 #[.pointer (some ⟨gm,0,none⟩),.string ⟨nm.toArray⟩,sv t q] W3 fun e W'=>e= .returned (.tuple #[])/\KN w0 n0 gm hi pf fv k true (L++ [(nm,t)]) W'/\Upd (fun b=>b=gm\/hi<=b) W W':=by
 obtain ⟨l,AN,cN,AP,cP,hks⟩:=hk;have hk3:=hks.new hpf hb;have hlen:=hk3.len;refine (Zbb w0 gm hi k [] [] (L.map Prod.fst) l AN cN AP cP nm t q W3 hk3.mm (by rw[List.length_map]; omega) (by omega)).mono ?_;rintro e W' ⟨rfl,AN',cN',AP',cP',hm,hp⟩;have hg:=hk3.mm.gh;have hw:=hk3.mm.hw;have hz:=hks.mm.hw;refine ⟨rfl,hk3.put hn hpf hpg (ok':=true) (fun _=>rfl) (fun _=> ?_) hm hp,(Upd.new hb).trans (hk3.turn hp)⟩;exact Kept.old (x:=(t,q)) (Za8 hs (by omega) (Upd.new (S:=fun _=>False) hb) (fun _ _ h=>h)) (by omega) (fun b hb=>Or.inl hb)
end
def tb (d:Nat->Bool) (j:Nat):Bool:=if j=11 then true else if j=12 then d 11 else if j=13 then d 12 else d j
def tu (g:Nat) (u:Nat->Value) (j:Nat):Value:=if j=11 then .pointer (some ⟨g,0,none⟩) else if j=12 then u 11 else if j=13 then u 12 else u j
def ti (i:Nat):Nat:=if i < 11 then i else i+1
theorem ZcS (d:Nat->Bool) {i:Nat} (hi:i < 13):tb (also d i)=also (tb d) (ti i):=by
 funext j;by_cases hj:j=ti i
 {subst hj;rw[Zab];unfold tb ti;by_cases h:i < 11
  {rw[if_pos h,if_neg (by omega),if_neg (by omega),if_neg (by omega),Zab]}
  {rw[if_neg h,if_neg (by omega)];by_cases h2:i=11
   {subst h2; rw[if_pos rfl,Zab]}
   {obtain rfl:i=12:=by omega
    rw[if_neg (by omega),if_pos rfl,Zab]}}}
 {rw[Za3 _ hj];unfold tb;unfold ti at hj;by_cases h11:j=11
  {rw[if_pos h11,if_pos h11]}
  {rw[if_neg h11,if_neg h11];by_cases h12:j=12
   {rw[if_pos h12,if_pos h12];by_cases h:i < 11
    {exact Za3 d (by omega)}
    {rw[if_neg h] at hj; exact Za3 d (by omega)}}
   {rw[if_neg h12,if_neg h12];by_cases h13:j=13
    {rw[if_pos h13,if_pos h13];by_cases h:i < 11
     {exact Za3 d (by omega)}
     {rw[if_neg h] at hj; exact Za3 d (by omega)}}
    {rw[if_neg h13,if_neg h13];by_cases h:i < 11
     {rw[if_pos h] at hj; exact Za3 d hj}
     {exact Za3 d (by omega)}}}}}
theorem Zd0 (g:Nat) (u:Nat->Value) {i:Nat} (hi:i < 13) (v:Value):tu g (upd u i v)=upd (tu g u) (ti i) v:=by
 funext j;by_cases hj:j=ti i
 {subst hj;rw[Z2p];unfold tu ti;by_cases h:i < 11
  {rw[if_pos h,if_neg (by omega),if_neg (by omega),if_neg (by omega),Z2p]}
  {rw[if_neg h,if_neg (by omega)];by_cases h2:i=11
   {subst h2; rw[if_pos rfl,Z2p]}
   {obtain rfl:i=12:=by omega
    rw[if_neg (by omega),if_pos rfl,Z2p]}}}
 {rw[Z15 _ _ hj];unfold tu;unfold ti at hj;by_cases h11:j=11
  {rw[if_pos h11,if_pos h11]}
  {rw[if_neg h11,if_neg h11];by_cases h12:j=12
   {rw[if_pos h12,if_pos h12];by_cases h:i < 11
    {exact Z15 u v (by omega)}
    {rw[if_neg h] at hj; exact Z15 u v (by omega)}}
   {rw[if_neg h12,if_neg h12];by_cases h13:j=13
    {rw[if_pos h13,if_pos h13];by_cases h:i < 11
     {exact Z15 u v (by omega)}
     {rw[if_neg h] at hj; exact Z15 u v (by omega)}}
    {rw[if_neg h13,if_neg h13];by_cases h:i < 11
     {rw[if_pos h] at hj; exact Z15 u v hj}
     {exact Z15 u v (by omega)}}}}}
def RJ (X:RX) (g:Nat) (d:Nat->Bool) (u:Nat->Value) (W:World):Prop:=X.RI (tb d) (tu g u) W
theorem RJ.mk' {X:RX} {g i:Nat} {d:Nat->Bool} {u:Nat->Value} {v:Value} {W:World} (hi:i < 13) (h:X.RI (also (tb d) (ti i)) (upd (tu g u) (ti i) v) W):RJ X g (also d i) (upd u i v) W:=by
 unfold RJ; rw[ZcS d hi,Zd0 g u hi v]; exact h
theorem ZbX {f:Nat} (hI:BoundOk f) (up:Bool) (w0:World) (n0 gm hi pf:Nat) (k:Int) (L:List Fld) (nm:List UInt8) (o1 o2:Option Sh) (x y:Value) (W:World) (h2: ∀p q,o1=some p->o2=some q->Two f p q) (hne:o1≠none\/o2≠none)
 (hn:n0<=gm) (hpf:pf < hi) (hpg:pf≠gm) (hL:L.length<=900) (hx:At W n0 o1 x) (hy:At W n0 o2 y) (hk:KN w0 n0 gm hi pf (.func (.func (bfn up)) #[] #[]) k true L W):
 Calls Tryd.prog 69 (.string ⟨nm.toArray⟩::x::y:: .pointer (some ⟨pf,0,none⟩):: .pointer (some ⟨gm,0,none⟩):: []).toArray W
  (WideOk w0 n0 gm hi pf (.func (.func (bfn up)) #[] #[]) k L nm (wideStep (bound f up) (nm,o1,o2)) W):=by
 cases o2 with
 | none=>
  have hy':y= .pointer none:=hy;subst hy';cases o1 with
  | none=>exact absurd rfl (hne.resolve_right (fun h=>h rfl))
  | some p=>
   obtain ⟨ga,oa,qx,rfl,hga,⟨x0,x1,x2,x3,x4⟩,hsa⟩:=hx;have hr:wideStep (bound f up) (nm,some p,none)=some (nm,p):=rfl;rw[hr];have hgw:ga < W.heap.size:=by obtain ⟨l,AN,cN,AP,cP,hks⟩:=hk; have:=hks.mm.gh; have:=hks.mm.hw; omega
   have HP:=Y1 (fun W3 hb=>ZbG (nm:=nm) hn hpf hpg hL hk W3 hb p qx hsa);have hbw:=Z01 W (.cells (Y8 p qx) 25);have HBW:=Y1 hbw;clear hI h2 hne hr hbw hk hsa hga hn hpf hpg hL;unfold sv at HP;go_enter Tryd.func69,Tryd.ntmps69
   go_wp2_with fail
   refine (HP.out _ HBW.out).mono ?_;rintro e W4 ⟨rfl,hk4,hu4⟩;have HK4:=Y1 hk4;have HU4:=Y1 hu4;clear hk4 hu4 HP x0 x1 x2 x3 x4;go_wp2;go_ret;exact ⟨rfl,fun x hx=>by cases hx; exact HK4.out,nofun,HU4.out⟩
 | some q=>
  obtain ⟨gb,ob,qy,rfl,hgb,h5b,hsb⟩:=hy;have hgb':gb < W.heap.size:=by obtain ⟨l,AN,cN,AP,cP,hks⟩:=hk; have:=hks.mm.gh; have:=hks.mm.hw; omega
  cases o1 with
  | none=>
   have hx':x= .pointer none:=hx;subst hx';obtain ⟨x0,x1,x2,x3,x4⟩:=h5b;have hr:wideStep (bound f up) (nm,none,some q)=some (nm,q):=rfl;rw[hr];have HP:=Y1 (fun W3 hb=>ZbG (nm:=nm) hn hpf hpg hL hk W3 hb q qy hsb);have hbw:=Z01 W (.cells (Y8 q qy) 25);have HBW:=Y1 hbw;clear hI h2 hne hr hbw hk hsb hgb hn hpf hpg hL;unfold sv at HP;go_enter Tryd.func69,Tryd.ntmps69
   go_wp2_with fail
   refine (HP.out _ HBW.out).mono ?_;rintro e W4 ⟨rfl,hk4,hu4⟩;have HK4:=Y1 hk4;have HU4:=Y1 hu4;clear hk4 hu4 HP x0 x1 x2 x3 x4;go_wp2;go_ret;exact ⟨rfl,fun x hx=>by cases hx; exact HK4.out,nofun,HU4.out⟩
  | some p=>
   obtain ⟨ga,oa,qx,rfl,hga,h5a,hsa⟩:=hx;obtain ⟨l,AN,cN,AP,cP,hks⟩:=hk;have hbw:=Z01 W (.cells Yb 25);obtain ⟨W1,hW1⟩: ∃W1,W1=W.alloc (.cells Yb 25):=⟨_,rfl⟩;have hz: ∀j,j < 5-> ∃v,W1.cell? ⟨W.heap.size,j,none⟩=some v:=fun j hj=>by
    rw[hW1];rcases j with _ | _ | _ | _ | _ | j
    {exact ⟨.int .i64 0,by simp[go_sem]⟩}
    {exact ⟨.string ⟨#[]⟩,by simp[go_sem]⟩}
    {exact ⟨.string ⟨#[]⟩,by simp[go_sem]⟩}
    {exact ⟨.slice none 0 0,by simp[go_sem]⟩}
    {exact ⟨.slice none 0 0,by simp[go_sem]⟩}
    {omega}
   have hzf: ∀j,W1.frozen? ⟨W.heap.size,j,none⟩=false:=fun j=>by rw[hW1]; simp[go_sem]
   have hs1:W1.heap.size=W.heap.size+1:=by rw[hW1]; simp
   rw[<-hW1] at hbw;have hnW:n0<=W.heap.size:=by have:=hks.mm.gh; have:=hks.mm.hw; omega
   have hu1:Upd (fun _=>False) W W1:=Upd.new hbw;have hX:RX.Good ⟨f,up,p,q,qx,qy,ga,oa,gb,ob,pf,n0,W⟩:=⟨h2 p q rfl rfl,hnW,hga,hgb,h5a,h5b,hsa,hsb,hks.fc,Nat.lt_of_lt_of_le hpf hks.mm.hw,hI⟩;have HX:=Y1 hX;have HKS0:=Y1 hks;have HNW:=Y1 hnW;have HL:=Y1 hL;have HZ:=Y1 hz;have HZF:=Y1 hzf;have HBW:=Y1 hbw;have HS1:=Y1 hs1;have HW1:=Y1 hW1;clear hX hks hI h2 h5a h5b hsa hsb hL hga hgb hbw hz hzf hW1 hu1 hs1 hnW;go_enter Tryd.func69,Tryd.ntmps69
   go_wp2_with fail
   rw[<-HW1.out];have hstart:RX.RI ⟨f,up,p,q,qx,qy,ga,oa,gb,ob,pf,n0,W⟩ (tb fun _=>false) (tu W.heap.size (fun j=>if j=12 then .bool true else undef)) W1.drew:=by
    refine ⟨fun j hj v hv=> ?_,HBW.out.drew,fun _=>⟨W.heap.size,rfl,Nat.le_refl _,by have:=HS1.out; show W.heap.size < W1.heap.size; omega,HZF.out,HZ.out⟩,nofun⟩;unfold tb at hj;by_cases h11:j=11
    {subst h11; cases hv}
    {rw[if_neg h11] at hj;split at hj
     {cases hj}
     {split at hj <;> cases hj}}
   refine ZaO (rs:= [0,1,2,3,4,5,6,7,8,9,10,11,12])
    (fun u=> { tmps:=#[.string ⟨nm.toArray⟩,.pointer (some ⟨ga,oa,none⟩),.pointer (some ⟨gb,ob,none⟩),.pointer (some ⟨pf,0,none⟩),.pointer (some ⟨gm,0,none⟩),undef,undef,undef,.bool false,.pointer (some ⟨W.heap.size,0,none⟩),u 12,.agg #[.int .i64 0,.string { data:=#[] },.string { data:=#[] },.slice none 0 0,.slice none 0 0],u 8,u 0,u 1,u 2,u 3,u 4,u 5,u 6,u 7,u 9,u 10,.bool false,.pointer (some ⟨gb,ob,none⟩),.bool false,undef,undef,undef,.bool false,.pointer (some ⟨ga,oa,none⟩),.bool false,undef,undef,undef,undef,undef,undef,undef],defers:= [] })
    (fun j=>if j=12 then .bool true else undef) (RJ ⟨f,up,p,q,qx,qy,ga,oa,gb,ob,pf,n0,W⟩ W.heap.size) (by kernel_rfl) (by kernel_rfl) (by kernel_rfl) hstart ?_ ?_
   refine StepsInv.cons2 _ rfl (fun d u W2 K' hs hI hd hw hK=> ?_) ?_
   {obtain ⟨_,_,c0⟩:=RX.RI.look hI HX.out
    try dsimp only at c0
    refine Z02 (v:= .func (.func (bfn up)) #[] #[]) (W':=W2) rfl ?_ (hK.out _ _ (RJ.mk' (by decide) (RX.RI.pure hI (by decide) (fun v' h=>by cases h; rfl))));go_simp}
   refine StepsInv.cons2 _ rfl (fun d u W2 K' hs hI hd hw hK=> ?_) ?_
   {refine Z02 (v:= .pointer (some ⟨ga,oa,none⟩)) (W':=W2) rfl ?_ (hK.out _ _ (RJ.mk' (by decide) (RX.RI.pure hI (by decide) (fun v' h=>by cases h; rfl))));go_simp}
   refine StepsInv.cons2 _ rfl (fun d u W2 K' hs hI hd hw hK=> ?_) ?_
   {have d1:u 1= .pointer (some ⟨ga,oa,none⟩):=RX.RI.vals hI 1 (hw 1 (by kernel_rfl)) _ rfl;refine Z02 (v:= .pointer (some ⟨ga,oa,none⟩)) (W':=W2) rfl ?_ (hK.out _ _ (RJ.mk' (by decide) (RX.RI.pure hI (by decide) (fun v' h=>by cases h; rfl))));go_simp}
   refine StepsInv.cons2 _ rfl (fun d u W2 K' hs hI hd hw hK=> ?_) ?_
   {have d2:u 2= .pointer (some ⟨ga,oa,none⟩):=RX.RI.vals hI 2 (hw 2 (by kernel_rfl)) _ rfl;obtain ⟨⟨c0,c1,c2,c3,c4⟩,_,_⟩:=RX.RI.look hI HX.out
    try dsimp only at c0 c1 c2 c3 c4
    refine Z02 (v:= .agg (Y8 p qx)) (W':=W2) rfl ?_ (hK.out _ _ (RJ.mk' (by decide) (RX.RI.pure hI (by decide) (fun v' h=>by cases h; rfl))));go_simp}
   refine StepsInv.cons2 _ rfl (fun d u W2 K' hs hI hd hw hK=> ?_) ?_
   {refine Z02 (v:= .pointer (some ⟨gb,ob,none⟩)) (W':=W2) rfl ?_ (hK.out _ _ (RJ.mk' (by decide) (RX.RI.pure hI (by decide) (fun v' h=>by cases h; rfl))));go_simp}
   refine StepsInv.cons2 _ rfl (fun d u W2 K' hs hI hd hw hK=> ?_) ?_
   {have d4:u 4= .pointer (some ⟨gb,ob,none⟩):=RX.RI.vals hI 4 (hw 4 (by kernel_rfl)) _ rfl;refine Z02 (v:= .pointer (some ⟨gb,ob,none⟩)) (W':=W2) rfl ?_ (hK.out _ _ (RJ.mk' (by decide) (RX.RI.pure hI (by decide) (fun v' h=>by cases h; rfl))));go_simp}
   refine StepsInv.cons2 _ rfl (fun d u W2 K' hs hI hd hw hK=> ?_) ?_
   {have d5:u 5= .pointer (some ⟨gb,ob,none⟩):=RX.RI.vals hI 5 (hw 5 (by kernel_rfl)) _ rfl;obtain ⟨_,⟨c0,c1,c2,c3,c4⟩,_⟩:=RX.RI.look hI HX.out
    try dsimp only at c0 c1 c2 c3 c4
    refine Z02 (v:= .agg (Y8 q qy)) (W':=W2) rfl ?_ (hK.out _ _ (RJ.mk' (by decide) (RX.RI.pure hI (by decide) (fun v' h=>by cases h; rfl))));go_simp}
   refine StepsInv.cons2 _ rfl (fun d u W2 K' hs hI hd hw hK=> ?_) ?_
   {have d0:u 0= .func (.func (bfn up)) #[] #[]:=RX.RI.vals hI 0 (hw 0 (by kernel_rfl)) _ rfl;have d3:u 3= .agg (Y8 p qx):=RX.RI.vals hI 3 (hw 3 (by kernel_rfl)) _ rfl;have d6:u 6= .agg (Y8 q qy):=RX.RI.vals hI 6 (hw 6 (by kernel_rfl)) _ rfl;have hen:=ZaL up;have h8:d 8=false:=Za2 hs rfl (by kernel_rfl) hd;have h9:d 9=false:=Za2 hs rfl (by kernel_rfl) h8;have h10:d 10=false:=Za2 hs rfl (by kernel_rfl) h8;have h12:d 11=false:=Za2 hs rfl (by kernel_rfl) h9;have h13:d 12=false:=Za2 hs rfl (by kernel_rfl) h10;have hup:=RX.RI.up hI;have hx0:=HX.out;have hu:Upd (fun _=>False) W W2:=Upd.new hup;refine Z0q (f:=bfn up) (args:=#[.agg (Y8 p qx),.agg (Y8 q qy)]) (W':=W2) rfl ?_ ((hx0.ok up p q qx qy n0 W2 hx0.two (Za8 hx0.sa hx0.hn hu (fun _ _ h=>h)) (Za8 hx0.sb hx0.hn hu (fun _ _ h=>h)) (Nat.le_trans hx0.hn hu.size)).mono fun e w' hb=> ?_)
    {go_simp}
    {obtain ⟨v,he,hr⟩:=RX.RI.call hI HX.out hd (fun j hj=>by rcases hj with rfl | rfl | rfl | rfl | rfl <;> assumption) hb;exact ⟨v,he,hK.out _ _ (RJ.mk' (by decide) hr)⟩}}
   refine StepsInv.cons2 _ rfl (fun d u W2 K' hs hI hd hw hK=> ?_) ?_
   {have w7:=hw 7 (by kernel_rfl);obtain ⟨t,qt,W3,s,e7,_⟩:=RX.RI.ca hI w7;change u 7=_ at e7
    try dsimp only at e7
    refine Z02 (v:= .tuple #[.agg (Y8 t qt),.bool (bound f up p q).isSome]) (W':=W2) rfl ?_ (hK.out _ _ (RJ.mk' (by decide) (RX.RI.read hI w7 (by decide) hd (fun t' q' h=>⟨fun _=>e7.symm,nofun,nofun,nofun⟩))));go_simp}
   refine StepsInv.cons2 _ rfl (fun d u W2 K' hs hI hd hw hK=> ?_) ?_
   {have w8:=hw 8 (by kernel_rfl);have w7:d 7=true:=hs 8 _ rfl w8 7 (by kernel_rfl);obtain ⟨t,qt,W3,s,e7,_,_,_,e8,_⟩:=RX.RI.ca hI w7;change u 7=_ at e7;change d 8=true->u 8=u 7 at e8
    try dsimp only at e7
    have d8:=(e8 w8).trans e7;refine Z02 (v:= .agg (Y8 t qt)) (W':=W2) rfl ?_ (hK.out _ _ (RJ.mk' (by decide) (RX.RI.read hI w7 (by decide) hd (fun t' q' h=>⟨nofun,fun _=>by change u 7=_ at h; rw[e7] at h; simp only[Value.tuple.injEq] at h; have:=congrArg (fun a:Array Value=>a[0]?) h; simpa using this,nofun,nofun⟩))));go_simp}
   refine StepsInv.cons2 _ rfl (fun d u W2 K' hs hI hd hw hK=> ?_) ?_
   {have w8:=hw 8 (by kernel_rfl);have w7:d 7=true:=hs 8 _ rfl w8 7 (by kernel_rfl);obtain ⟨t,qt,W3,s,e7,_,_,_,e8,_⟩:=RX.RI.ca hI w7;change u 7=_ at e7;change d 8=true->u 8=u 7 at e8
    try dsimp only at e7
    have d8:=(e8 w8).trans e7;refine Z02 (v:= .bool (bound f up p q).isSome) (W':=W2) rfl ?_ (hK.out _ _ (RJ.mk' (by decide) (RX.RI.read hI w7 (by decide) hd (fun t' q' h=>⟨nofun,nofun,fun _=>rfl,nofun⟩))));go_simp}
   refine StepsInv.cons2 _ rfl (fun d u W2 K' hs hI hd hw hK=> ?_) ?_
   {have w9:=hw 9 (by kernel_rfl);have w7:=hw 7 (by kernel_rfl);obtain ⟨t,qt,W3,s,e7,_,_,_,_,e9,_⟩:=RX.RI.ca hI w7;change u 7=_ at e7;change d 9=true->u 9=_ at e9
    try dsimp only at e7
    have d9:=e9 w9;obtain ⟨g,e11,g1,g2,g3,g4⟩:=RX.RI.al hI rfl;have hst:=RX.RI.store hI w7 rfl e11 e7 (fun t' q' h=>Zcw h);obtain rfl:W.heap.size=g:=by change Value.pointer _=_ at e11; simpa using e11
    refine Z8i (W':=RX.lay W2 W.heap.size t qt) rfl ?_ (hK.out undef _ (RJ.mk' (by decide) hst));obtain ⟨v0,x0⟩:=g4 0 (by omega);obtain ⟨v1,x1⟩:=g4 1 (by omega);obtain ⟨v2,x2⟩:=g4 2 (by omega);obtain ⟨v3,x3⟩:=g4 3 (by omega);obtain ⟨v4,x4⟩:=g4 4 (by omega);have y0:=g3 0;have y1:=g3 1;have y2:=g3 2;have y3:=g3 3;have y4:=g3 4;unfold sv at d9;go_simp;rfl}
   refine StepsInv.cons2 _ rfl (fun d u W2 K' hs hI hd hw hK=> ?_) StepsInv.nil
   {have w10:=hw 10 (by kernel_rfl);have w8:d 8=true:=hs 10 _ rfl w10 8 (by kernel_rfl);have w7:d 7=true:=hs 8 _ rfl w8 7 (by kernel_rfl);obtain ⟨t,qt,W3,s,e7,_,_,_,_,_,e10,_⟩:=RX.RI.ca hI w7;change d 10=true->u 10=_ at e10;have d10:=e10 w10
    try dsimp only at d10
    refine Z02 (v:= .bool (bound f up p q).isSome) (W':=W2) rfl ?_ (hK.out _ _ (RJ.mk' (by decide) (RX.RI.read hI w7 (by decide) hd (fun t' q' h=>⟨nofun,nofun,nofun,fun _=>rfl⟩))));go_simp}
   {intro d u W2 hI hd;have w7:=hd 7 (by show 7 < 13; omega);have w13:=hd 12 (by show 12 < 13; omega);obtain ⟨g,e11,g1,g2,g3,g4⟩:=RX.RI.al hI rfl;obtain ⟨t,qt,W3,s,e7,s1,s2,hj,_,_,_,hu,hgs,h12,h13⟩:=RX.RI.ca hI w7
    try dsimp only at g1 s1 hj h13
    have d13:u 12= .bool (bound f up p q).isSome:=h13 w13;obtain ⟨x0,x1,x2,x3,x4⟩:=h12 (hd 11 (by show 11 < 13; omega)) g e11;obtain rfl:W.heap.size=g:=by change Value.pointer _=_ at e11; simpa using e11
    simp only[Nat.zero_add] at x0 x1 x2 x3 x4;have hup:=RX.RI.up hI
    try dsimp only at hup
    have hK1:=HKS0.out.new hpf hup;have hkp: ∀j,bound f up p q=some j->t=j/\Kept (Free n0 hi AN AP) W2 (j,qt):=fun j hb=>by
     obtain ⟨e1,e2⟩:=hj j hb;refine ⟨e1,e2.move hu (fun b hb hf=>⟨fun ht=> ?_, ?_⟩)⟩
     {have e3:W.heap.size=b:=by have:=ht.2; change Value.pointer _=_ at this; simpa using this
      rcases hgs W.heap.size rfl e11 with h | h
      {have:=HNW.out; rcases hf with hf | hf <;> omega}
      {omega}}
     {rcases hf with hf | hf
      {exact Or.inl hf}
      {have hw:=HKS0.out.mm.hw;exact Or.inr ⟨by omega,fun e=>by have:=(Za0 HKS0.out.mm.rN b e).2; omega,fun e=>by have:=(Za0 HKS0.out.mm.rP b e).2; omega⟩}}
    have HK1:=Y1 hK1;have HKP:=Y1 hkp;have HUP:=Y1 hup;have hlen:=HK1.out.len;have hL0:=HL.out;have HPW:=Y1 (Zbb w0 gm hi k [] [] (L.map Prod.fst) l AN cN AP cP nm t qt W2 HK1.out.mm (by rw[List.length_map]; omega) (by omega));unfold sv at HPW;rw[d13];clear hI hd hj hu hgs h12 h13 hup hK1 hkp g3 g4 e7 w7 w13 d13 hlen hL0;have HR:Hid (wideStep (bound f up) (nm,some p,some q)=(bound f up p q).map (fun x=>(nm,x))):=Y1 rfl;obtain ⟨o,ho⟩: ∃o,o=bound f up p q:=⟨_,rfl⟩;rw[<-ho] at HR HKP ⊢;clear ho
    go_wp2_with fail
    refine HPW.out.mono ?_;rintro e W4 ⟨rfl,AN',cN',AP',cP',hm,hp⟩;have HKN:Hid (∀ok',(ok'=true-> ∃j,o=some j)->KN w0 n0 gm hi pf (.func (.func (bfn up)) #[] #[]) k ok' (L++ [(nm,t)]) W4):=Y1 (fun ok' h=>HK1.out.put hn hpf hpg (nm:=nm) (t:=t) (q:=qt) (ok':=ok') (fun _=>rfl) (fun h2=>by
     obtain ⟨j,hj⟩:=h h2;obtain ⟨rfl,hkk⟩:=HKP.out j hj;exact hkk) hm hp)
    have HUD:Hid (Upd (fun b=>b=gm\/hi<=b) W W4):=Y1 ((Upd.new HUP.out).trans (HK1.out.turn hp));clear hm hp HPW x0 x1 x2 x3 x4;go_wp2;go_ret;rw[HR.out];refine ⟨by cases o <;> rfl,fun y hy=> ?_,fun h=>⟨t,HKN.out false nofun⟩,HUD.out⟩;obtain ⟨j,hj,rfl⟩:=Option.map_eq_some_iff.1 hy;obtain ⟨rfl,_⟩:=HKP.out j hj;exact HKN.out true (fun _=>⟨_,hj⟩)}
end SubM
end Go.Proofs.YthajhofgjhfjeaaDoor
