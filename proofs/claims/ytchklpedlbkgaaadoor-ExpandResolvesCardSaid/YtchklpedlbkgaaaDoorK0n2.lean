/- What the proofs of ExpandResolves want, part 2. -/
import Derived.Laws.EntriesVeiled
import Derived.Sort.AssemblyPlain
import Derived.Sort.WalkA6
import Derived.Sort.WalkB2
import Derived.Sort.WalkC4
import Derived.Deep.DeepCutAuto
import Derived.Shelf.Strings.Builder1
import Derived.Shelf.Strconv.Itoa0
import Derived.Test.YtchklpedlbkgaaaDoorK0n1
set_option linter.unusedVariables false
set_option linter.unusedSimpArgs false
set_option linter.unusedSectionVars false
set_option maxRecDepth 100000
set_option maxHeartbeats 16000000
namespace Go.Proofs.YtchklpedlbkgaaaDoor
section
open Go.RowKit Shp
def sumL (L:List Nd):Nat:=(L.map fun n=>size n.t).sum
theorem Z0L (L M:List Nd):sumL (L++M)=sumL L+sumL M:=by simp[sumL]
theorem Z4Y (pb:Nat) (ps:List Sh) (qs:Nat->Ptr):sumL (kids pb ps qs)=sizes ps:=by
 unfold sumL kids;have: ∀(l:List Sh) (f:Nat->Sh->Nd),(∀i p,(f i p).t=p)->((l.mapIdx f).map fun n=>size n.t).sum=sizes l:=by
  intro l;induction l with
  | nil=>intro f _; rfl
  | cons p l ih=>
   intro f hf;rw[List.mapIdx_cons];simp only[List.map_cons,List.sum_cons,hf];rw[ih (fun i=>f (i+1)) (fun i p=>hf (i+1) p)]; rfl
 exact this ps _ (fun _ _=>rfl)
theorem Zaz (L:List Nd):L.length<=sumL L:=by
 induction L with
 | nil=>simp
 | cons n L ih=>have:=Z25 n.t; simp[sumL] at ih ⊢; omega
def ndP (n:Nd):Value:= .pointer (some ⟨n.g,n.i * 5,none⟩)
theorem Z1G {W:World} {B:Nat} {e:TypeId} {size:Nat} {v:Value} {n:Nat} {xs:List Value} (h:W.ownsRow B e size v n xs) {a:Addr} (hne:v.ownBlock≠some a.block) (u:Value): (W.setCell a u).ownsRow B e size v n xs:=
 h.kept (row:=some a.block) ⟨rfl,rfl,rfl,by simp[World.setCell],fun k hk hn=>Below.heap_setCell _ _ _ _ (fun e=>hn (by rw[e]))⟩ (Or.inr hne)
theorem Z0i (W:World) (a:Addr) (u:Value) {b:Nat} (h:a.block≠b):Z0p W (W.setCell a u) b:=
 ⟨fun k=>World.cell?_setCell_other _ _ _ _ (fun e=>h (congrArg Addr.block e)),fun k=>World.frozen?_setCell ..⟩
theorem Z0p.trans {a b c:World} {x:Nat} (h:Z0p a b x) (k:Z0p b c x):Z0p a c x:=⟨fun j=>(k.1 j).trans (h.1 j),fun j=>(k.2 j).trans (h.2 j)⟩
theorem Z0p.below {a b:World} {x:Nat} (h:Below a.heap.size a b) (hx:x < a.heap.size):Z0p a b x:=⟨fun k=>h.cell (p:=⟨x,k,none⟩) hx,fun k=>h.frozen (p:=⟨x,k,none⟩) hx⟩
structure UpL (v:Value) (w w':World):Prop where
 os:w'.os=w.os
 tape:w'.tape=w.tape
 output:w'.output=w.output
 size:w.heap.size<=w'.heap.size
 block: ∀k,k < w.heap.size->v.ownBlock≠some k->w'.heap[k]? =w.heap[k]?
theorem UpL.refl (v:Value) (w:World):UpL v w w:=⟨rfl,rfl,rfl,Nat.le_refl _,fun _ _ _=>rfl⟩
theorem UpL.same {v:Value} {w w':World} (h:UpL v w w') {b:Nat} (h1:b < w.heap.size) (h3:v.ownBlock≠some b):Z0p w w' b:=
 ⟨fun k=>World.cell?_of_block (w:=w) (h.block b h1 h3),fun k=>World.frozen?_of_block (w:=w) (h.block b h1 h3)⟩
def Opn (W:World) (v:Value) (L:List Nd):Prop:=W.ownsRow 0 71 1 v L.length (L.map ndP)
theorem Opn.below {W W':World} {v:Value} {L:List Nd} (h:Opn W v L) (hb:Below W.heap.size W W'):Opn W' v L:=
 World.ownsRow.kept h (Z2L hb (Nat.le_refl _) none) (by
  rcases e:v.ownBlock with _ | x
  {exact Or.inl rfl}
  · exact Or.inr (by simp))
section
variable {W : World}
include W
theorem Opn.set {v:Value} {L:List Nd} (h:Opn W v L) {a:Addr} (h2:v.ownBlock≠some a.block) (u:Value):Opn (W.setCell a u) v L:=Z1G h h2 u
theorem Opn.pop {cap g:Nat} {L:List Nd} {a:Nd} (h:Opn W (.slice (some ⟨g,0,none⟩) (L.length+1) cap) (L++ [a])):Opn W (.slice (some ⟨g,0,none⟩) L.length cap) L:=by
 obtain ⟨h1,h2⟩:=h;refine ⟨by simp, ?_⟩;rcases h2 with ⟨h2,_⟩ | ⟨g',cap',cur,hv,hB,hh,hn,hc,hcs,htk⟩
 {cases h2}
 {right;obtain ⟨rfl,rfl⟩:g=g'/\cap=cap':=by
   injection hv with h3 h4 h5;injection h3 with h3;injection h3 with h3;exact ⟨h3,h5⟩
  rw[List.length_append,List.length_singleton] at hn htk;refine ⟨g,cap,cur,rfl,hB,hh,by omega,hc,hcs, ?_⟩;have:=congrArg (List.take (L.length * 1)) htk;rw[List.take_take,Nat.min_eq_left (by omega)] at this;rw[this,List.map_append,List.take_left' (by simp)]}
theorem Opn.last {v:Value} {L:List Nd} {a:Nd} (h:Opn W v (L++ [a])): ∃g cap,v= .slice (some ⟨g,0,none⟩) (L.length+1) cap/\L.length+1<=cap/\W.cell? ⟨g,L.length,none⟩=some (ndP a)/\g < W.heap.size:=by
 have ho:W.ownsRow 0 71 1 v (L++ [a]).length ((L++ [a]).map ndP):=h;obtain ⟨h1,h2⟩:=h;rcases h2 with ⟨h2,h3⟩ | ⟨g,cap,cur,hv,hB,hh,hn,hc,hcs,htk⟩
 {rw[List.length_append,List.length_singleton] at h3; omega}
 {rw[List.length_append,List.length_singleton] at hv hn;rw[hv,List.length_append,List.length_singleton] at ho;refine ⟨g,cap,hv,hn, ?_,(ho.lt g rfl).2⟩;rw[ho.cellAt L.length (by omega)];simp}
theorem Opn.empty {v:Value} (h:Opn W v []): ∃A cp,v= .slice A 0 cp:=by
 rcases h.2 with ⟨rfl,_⟩ | ⟨g,cap,cur,rfl,_⟩
 {exact ⟨none,0,rfl⟩}
 {exact ⟨some ⟨g,0,none⟩,cap,rfl⟩}
end
structure Rnd7 (w wr:World) (v vr:Value) (pb:Nat) (ps:List Sh) (qs:Nat->Ptr) (L:List Nd) (i:Nat):Prop where
 opn:Opn wr vr (L++(kids pb ps qs).take i)
 row: ∀x,vr.ownBlock=some x->v.ownBlock=some x\/w.heap.size<=x
 ne:vr.ownBlock≠some pb
 up:UpL v w wr
 par:PaR wr pb ps qs
theorem Rnd7.start {w:World} {v:Value} {pb:Nat} {ps:List Sh} {qs:Nat->Ptr} {L:List Nd} (ho:Opn w v L) (hne:v.ownBlock≠some pb) (hp:PaR w pb ps qs):Rnd7 w w v v pb ps qs L 0:=
 ⟨by rw[List.take_zero,List.append_nil]; exact ho,fun _ h=>Or.inl h,hne,UpL.refl _ _,hp⟩
theorem Rnd7.step {w wr w2:World} {v vr:Value} {pb:Nat} {ps:List Sh} {qs:Nat->Ptr} {L:List Nd} {i g1 cap:Nat} {o:Obj} (h:Rnd7 w wr v vr pb ps qs L i) (hi:i < ps.length) (hpw:pb < w.heap.size)
 (hG: (wr.alloc o).grownBy w2 vr.ownBlock)
 (hW:w2.ownsRow 0 71 1 (.slice (some ⟨g1,0,none⟩) (L.length+i+1) cap) (L.length+i+1) ((L++(kids pb ps qs).take i).map ndP++ [.pointer (some ⟨pb,i * 5,none⟩)]))
 (hat:vr.ownBlock=some g1\/g1=(wr.alloc o).heap.size):Rnd7 w w2 v (.slice (some ⟨g1,0,none⟩) (L.length+i+1) cap) pb ps qs L (i+1):=by
 have hsz: (wr.alloc o).heap.size=wr.heap.size+1:=by simp
 have hws:=h.up.size;have hg1:g1≠pb/\(v.ownBlock=some g1\/w.heap.size<=g1):=by
  rcases hat with h1 | h1
  {exact ⟨fun e=>h.ne (e▸h1),h.row g1 h1⟩}
  {have:=h.par.lt;rw[hsz] at h1;exact ⟨by omega,Or.inr (by omega)⟩}
 have hblk: ∀k,k < wr.heap.size->vr.ownBlock≠some k->w2.heap[k]? =wr.heap[k]? :=fun k hk hn=>(hG.block k (by rw[hsz]; omega) (fun e=>hn e.symm)).trans (Below.heap_alloc _ _ _ hk);have h2s:=hG.size;rw[hsz] at h2s;have hk1: ((kids pb ps qs).take (i+1))=(kids pb ps qs).take i++ [⟨pb,i,ps[i]'hi,qs i⟩]:=by
  rw[Z1o (by rw[Z0P]; exact hi),Z1F]
 have hlen: (L++(kids pb ps qs).take (i+1)).length=L.length+i+1:=by rw[List.length_append,List.length_take,Z0P]; omega
 refine ⟨?_, ?_,fun e=>hg1.1 (Option.some.inj e),⟨hG.os.trans h.up.os,hG.tape.trans h.up.tape,hG.output.trans h.up.output,by omega, ?_⟩, ?_⟩
 {unfold Opn;rw[hlen,hk1, <-List.append_assoc,List.map_append];exact hW}
 {intro x hx;obtain rfl:g1=x:=Option.some.inj hx;exact hg1.2}
 {intro k hk h2;rw[hblk k (by omega) (fun e=>by
   rcases h.row k e with h3 | h3
   {exact h2 h3}
   · omega)]
  exact h.up.block k hk h2}
 {exact h.par.of ⟨fun k=>World.cell?_of_block (w:=wr) (hblk pb h.par.lt h.ne),fun k=>World.frozen?_of_block (w:=wr) (hblk pb h.par.lt h.ne)⟩ (by omega)}
structure Cst (w W:World) (r r1:Nat) (T:Sh) (v:Value) (L:List Nd) (D:List Nat):Prop where
 opn:Opn W v L
 rdy:Ready r T L D W
 lo: ∀b∈D,w.heap.size<=b/\b < W.heap.size/\v.ownBlock≠some b
 nd: ∀n∈L,n.g∈D/\n.g≠r1/\Sh5 W n.g (n.i * 5) n.t n.q/\ShAt W w.heap.size n.q n.t/\ ∀k,W.frozen? ⟨n.g,k,none⟩=false
 ap:L.Pairwise fun n m=>n.g=m.g->n.i≠m.i
 bel:Below w.heap.size w W
 res:r1∉D/\(w.heap.size<=r1/\r1 < W.heap.size/\v.ownBlock≠some r1)/\(∀c,c < 5-> ∃u,W.cell? ⟨r1,c,none⟩=some u)/\ ∀k,W.frozen? ⟨r1,k,none⟩=false
 row: ∀g,v.ownBlock=some g->w.heap.size<=g
 rin:r∈D/\r≠r1
theorem Z9n (pb:Nat) (ps:List Sh) (qs:Nat->Ptr): (kids pb ps qs).Pairwise fun n m=>n.g=m.g->n.i≠m.i:=by
 refine List.pairwise_iff_getElem.2 (fun i j hi hj hij=> ?_);rw[Z1F,Z1F];intro _;show i≠j;omega
theorem Cst.step {w W W2 W3' W5:World} {r r1 g cap:Nat} {T:Sh} {L:List Nd} {a:Nd} {D:List Nat} {A' P':Option Addr} {c' d' pb:Nat} {qs:Nat->Ptr} {v5:Value}
 (h:Cst w W r r1 T (.slice (some ⟨g,0,none⟩) (L.length+1) cap) (L++ [a]) D)
 (hb2:Below W.heap.size W W2) (hn:TxC W W2 a.t.names A' c')
 (hb3:Below (W2.setCell ⟨a.g,a.i * 5+3,none⟩ (.slice A' a.t.names.length c')).heap.size (W2.setCell ⟨a.g,a.i * 5+3,none⟩ (.slice A' a.t.names.length c')) W3') (hd1:a.t.parts.length<=d') (hP0:P'=none->d'=0)
 (hp:a.t.parts.length=0/\W5=W3'.setCell ⟨a.g,a.i * 5+4,none⟩ (.slice P' a.t.parts.length d')/\v5= .slice (some ⟨g,0,none⟩) L.length cap\/
  P'=some ⟨pb,0,none⟩/\W2.heap.size<=pb/\(∀i (hi:i < a.t.parts.length),ShAt W w.heap.size (qs i) (a.t.parts[i]'hi))/\Rnd7 (W3'.setCell ⟨a.g,a.i * 5+4,none⟩ (.slice P' a.t.parts.length d')) W5 (.slice (some ⟨g,0,none⟩) L.length cap) v5 pb a.t.parts qs L a.t.parts.length):
 ∃D5,Cst w W5 r r1 T v5 (L++kids pb a.t.parts qs) D5:=by
 obtain ⟨hc1,hA0,hn⟩:=hn;obtain ⟨hagD,har1,haS,haA,haF⟩:=h.nd a (by simp);obtain ⟨hlo1,hlo2,hlo4⟩:=h.lo a.g hagD;have hgW:g < W.heap.size:=(World.ownsRow.lt h.opn g rfl).2;have hgw:w.heap.size<=g:=h.row g rfl;have hag:a.g≠g:=fun e=>hlo4 (by rw[e]; rfl);obtain ⟨W3,hW3⟩: ∃W3,W3=W2.setCell ⟨a.g,a.i * 5+3,none⟩ (.slice A' a.t.names.length c'):=⟨_,rfl⟩;obtain ⟨W4,hW4⟩: ∃W4,W4=W3'.setCell ⟨a.g,a.i * 5+4,none⟩ (.slice P' a.t.parts.length d'):=⟨_,rfl⟩;have hO1:Opn W (.slice (some ⟨g,0,none⟩) L.length cap) L:=h.opn.pop;rw[<-hW3] at hb3;rw[<-hW4] at hp;have z2:W.heap.size<=W2.heap.size:=hb2.size;have z3:W3.heap.size=W2.heap.size:=by rw[hW3,Z2k]
 have z3':W3.heap.size<=W3'.heap.size:=hb3.size;have z4:W4.heap.size=W3'.heap.size:=by rw[hW4,Z2k]
 have z5:W4.heap.size<=W5.heap.size:=by
  rcases hp with ⟨_,rfl,_⟩ | ⟨_,_,_,hr⟩
  {exact Nat.le_refl _}
  {exact hr.up.size}
 have hO4:Opn W4 (.slice (some ⟨g,0,none⟩) L.length cap) L:=by
  have e3:Opn W3 (.slice (some ⟨g,0,none⟩) L.length cap) L:=by
   rw[hW3]; exact (hO1.below hb2).set (fun e=>hag (Option.some.inj e).symm) _
  rw[hW4]; exact (e3.below hb3).set (fun e=>hag (Option.some.inj e).symm) _
 -- blocks that nothing turns
 have s45: ∀b,b < W4.heap.size->b≠g->Z0p W4 W5 b:=fun b h1 h3=>by
  rcases hp with ⟨_,rfl,_⟩ | ⟨_,_,_,hr⟩
  {exact ⟨fun _=>rfl,fun _=>rfl⟩}
  {exact hr.up.same h1 (fun e=>h3 (Option.some.inj e).symm)}
 have s12: ∀b,b < W.heap.size->Z0p W W2 b:=fun b h1=>Z0p.below hb2 h1;have s33: ∀b,b < W3.heap.size->Z0p W3 W3' b:=fun b h1=>Z0p.below hb3 h1;have s25: ∀b,b < W2.heap.size->b≠g->b≠a.g->Z0p W2 W5 b:=fun b h1 h3 h4=>by
  have e1:Z0p W2 W3 b:=by rw[hW3]; exact Z0i W2 _ _ (Ne.symm h4)
  have e2:=s33 b (by omega);have e3:Z0p W3' W4 b:=by rw[hW4]; exact Z0i W3' _ _ (Ne.symm h4)
  exact ((e1.trans e2).trans e3).trans (s45 b (by omega) h3)
 have hcl: ∀b,b < W.heap.size->b≠g-> ∀k,¬(a.g=b/\(k=a.i * 5+3\/k=a.i * 5+4))->W5.cell? ⟨b,k,none⟩=W.cell? ⟨b,k,none⟩:=fun b h1 h3 k hk=>by
  have e1:=(s12 b h1).1 k;have e2:W3.cell? ⟨b,k,none⟩=W2.cell? ⟨b,k,none⟩:=by
   rw[hW3];exact World.cell?_setCell_other _ _ _ _ (fun e=>hk ⟨congrArg Addr.block e,Or.inl (congrArg Addr.off e).symm⟩)
  have e3:=(s33 b (by omega)).1 k;have e4:W4.cell? ⟨b,k,none⟩=W3'.cell? ⟨b,k,none⟩:=by
   rw[hW4];exact World.cell?_setCell_other _ _ _ _ (fun e=>hk ⟨congrArg Addr.block e,Or.inr (congrArg Addr.off e).symm⟩)
  rw[(s45 b (by omega) h3).1 k,e4,e3,e2,e1]
 have hfz: ∀b,b < W.heap.size->b≠g-> ∀k,W5.frozen? ⟨b,k,none⟩=W.frozen? ⟨b,k,none⟩:=fun b h1 h3 k=>by
  rw[(s45 b (by omega) h3).2 k,hW4,World.frozen?_setCell,(s33 b (by omega)).2 k,hW3,World.frozen?_setCell,(s12 b h1).2 k]
 have hDlo: ∀b∈D,b < W.heap.size/\b≠g:=fun b hb=>by
  obtain ⟨_,h2,h4⟩:=h.lo b hb;exact ⟨h2,fun e=>h4 (by rw[e]; rfl)⟩
 have hbel:Below w.heap.size w W5:=by
  have b2:Below w.heap.size w W2:=h.bel.trans (hb2.mono h.bel.size);have b3:Below w.heap.size w W3:=by rw[hW3]; exact b2.setCell hlo1 _
  have b3':Below w.heap.size w W3':=b3.trans (hb3.mono b3.size);have b4:Below w.heap.size w W4:=by rw[hW4]; exact b3'.setCell hlo1 _
  rcases hp with ⟨_,rfl,_⟩ | ⟨_,_,_,hr⟩
  {exact b4}
  {exact b4.trans ⟨hr.up.os,hr.up.tape,hr.up.output,hr.up.size,fun k hk=>hr.up.block k (by have:=b4.size; omega) (fun e=>by have:g=k:=Option.some.inj e; omega)⟩}
 have hqs:ShAt W w.heap.size a.q a.t:=haA;obtain ⟨q0,q1',q2,q3,q4⟩:=haS
 -- the place's own cells
 have hSa:Sh5 W5 a.g (a.i * 5) a.t ⟨A',c',P',d'⟩:=by
  have hx: ∀c,c < 3->W5.cell? ⟨a.g,a.i * 5+c,none⟩=W.cell? ⟨a.g,a.i * 5+c,none⟩:=fun c hc=>hcl a.g hlo2 hag _ (fun ⟨_,e⟩=>by omega);have e3:W3.cell? ⟨a.g,a.i * 5+3,none⟩=some (.slice A' a.t.names.length c'):=by
   rw[hW3];exact World.cell?_setCell_same _ _ _ (((s12 a.g hlo2).1 _).trans q3)
  have e33:=s33 a.g (by omega);have e45:=s45 a.g (by omega) hag;have e5:W4.cell? ⟨a.g,a.i * 5+3,none⟩=W3'.cell? ⟨a.g,a.i * 5+3,none⟩:=by
   rw[hW4]; exact World.cell?_setCell_other _ _ _ _ (fun e=>by have:=congrArg Addr.off e; simp at this)
  have e4:W3'.cell? ⟨a.g,a.i * 5+4,none⟩=some (.slice a.q.P a.t.parts.length a.q.d):=by
   refine (e33.1 _).trans ?_;rw[hW3];exact (World.cell?_setCell_other _ _ _ _ (fun e=>by have:=congrArg Addr.off e; simp at this)).trans (((s12 a.g hlo2).1 _).trans q4)
  refine ⟨(hx 0 (by omega)).trans q0,(hx 1 (by omega)).trans q1',(hx 2 (by omega)).trans q2,(e45.1 _).trans (e5.trans ((e33.1 _).trans e3)),(e45.1 _).trans ?_⟩;rw[hW4];exact World.cell?_setCell_same _ _ _ e4
 have hsm:Small a.t ⟨A',c',P',d'⟩:=by
  obtain ⟨i1,i2,i3,i4,i5,_,_,_,_⟩:=hqs.small;exact ⟨i1,i2,i3,i4,i5,hc1,hd1,hA0,hP0⟩
 obtain ⟨DN,hDN⟩: ∃DN:List Nat,a.t.names.length=0/\DN= []\/ ∃b,A'=some ⟨b,0,none⟩/\DN= [b]/\W.heap.size<=b/\b < W2.heap.size/\TxR W5 b a.t.names:=by
  rcases hn with h0 | ⟨b,h1,h2,h3⟩
  {exact ⟨[],Or.inl ⟨h0,rfl⟩⟩}
  {exact ⟨[b],Or.inr ⟨b,h1,rfl,h2,h3.lt,h3.of (s25 b h3.lt (by omega) (by omega)) (by omega)⟩⟩}
 have hDNb: ∀b∈DN,W.heap.size<=b/\b < W2.heap.size:=fun b hb=>by
  rcases hDN with ⟨_,rfl⟩ | ⟨c,_,rfl,h3,h4,_⟩
  {cases hb}
  {rw[List.mem_singleton] at hb; subst hb; exact ⟨h3,h4⟩}
 obtain ⟨DP,hDP⟩: ∃DP:List Nat,a.t.parts.length=0/\DP= []\/P'=some ⟨pb,0,none⟩/\DP= [pb]/\W2.heap.size<=pb/\(∀i (hi:i < a.t.parts.length),ShAt W w.heap.size (qs i) (a.t.parts[i]'hi))/\PaR W5 pb a.t.parts qs:=by
  rcases hp with ⟨h0,_⟩ | ⟨h1,h2,h3,h4⟩
  {exact ⟨[],Or.inl ⟨h0,rfl⟩⟩}
  {exact ⟨[pb],Or.inr ⟨h1,rfl,h2,h3,h4.par⟩⟩}
 have hDPb: ∀b∈DP,b=pb/\W2.heap.size<=pb/\pb < W5.heap.size:=fun b hb=>by
  rcases hDP with ⟨_,rfl⟩ | ⟨_,rfl,h3,_,h5⟩
  {cases hb}
  {rw[List.mem_singleton] at hb; exact ⟨hb,h3,h5.lt⟩}
 have hap:=List.pairwise_append.1 h.ap;have hR:=h.rdy.step (W1:=W5) (DN:=DN) (DP:=DP) (q1:=⟨A',c',P',d'⟩) (pb:=pb) (qs:=qs) (fun b hb=>(hDlo b hb).1) hagD (fun n hn=>(h.nd n (by simp[hn])).1) (fun n hn=>hap.2.2 n hn a (by simp)) (by omega) hSa hsm
  (fun b hb k hk=>hcl b (hDlo b hb).1 (hDlo b hb).2 k hk) (fun b hb k=>hfz b (hDlo b hb).1 (hDlo b hb).2 k)
  (by
   rcases hDN with h1 | ⟨b,h1,h2,h3,_,h5⟩
   {exact Or.inl h1}
   · exact Or.inr ⟨b,h1,h2,h3,h5⟩)
  (by
   rcases hDP with h1 | ⟨h1,h2,h3,_,h5⟩
   {exact Or.inl h1}
   · exact Or.inr ⟨h1,h2,by omega,fun hm=>by have:=(hDNb pb hm).2; omega,h5⟩)
 -- the row of what is open
 obtain ⟨hO5,hv5⟩:Opn W5 v5 (L++kids pb a.t.parts qs)/\ ∀x,v5.ownBlock=some x->x=g\/W4.heap.size<=x/\x∉DP:=by
  rcases hp with ⟨h0,rfl,rfl⟩ | ⟨_,h2,_,hr⟩
  {have hk:kids pb a.t.parts qs= []:=List.eq_nil_of_length_eq_zero (by rw[Z0P]; exact h0);refine ⟨?_,fun x hx=>Or.inl (Option.some.inj (show some g=some x from hx)).symm⟩;rw[hk,List.append_nil];exact hO4}
  {have ho:=hr.opn;rw[List.take_of_length_le (by rw[Z0P]; exact Nat.le_refl _)] at ho;refine ⟨ho,fun x hx=> ?_⟩;rcases hr.row x hx with h3 | h3
   {exact Or.inl (Option.some.inj h3).symm}
   {refine Or.inr ⟨h3,fun hm=>hr.ne ?_⟩;rw[hx,(hDPb x hm).1]}}
 have hown5: ∀b,b≠g->b < W3.heap.size\/b∈DP->v5.ownBlock≠some b:=fun b h1 h2 e=>by
  rcases hv5 b e with h3 | ⟨h3,h4⟩
  {exact h1 h3}
  {rcases h2 with h2 | h2
   {omega}
   {exact h4 h2}}
 refine ⟨D++DN++DP,hO5,hR, ?_, ?_, ?_,hbel, ?_, ?_, ?_⟩
 {intro b hb;have hwW:=h.bel.size;rcases List.mem_append.1 hb with hb | hb
  {rcases List.mem_append.1 hb with hb | hb
   {obtain ⟨h1,h3⟩:=hDlo b hb;exact ⟨(h.lo b hb).1,by omega,hown5 b h3 (Or.inl (by omega))⟩}
   {have h1:=hDNb b hb;exact ⟨by omega,by omega,hown5 b (by omega) (Or.inl (by omega))⟩}}
  {obtain ⟨rfl,h2,h3⟩:=hDPb b hb;exact ⟨by omega,h3,hown5 b (by omega) (Or.inr hb)⟩}}
 {intro n hn;have hat: ∀ {q:Ptr} {t:Sh},ShAt W w.heap.size q t->ShAt W5 w.heap.size q t:=fun hx=>hx.of (Nat.le_refl _) (fun x k hx=>(hbel.cell (p:=⟨x,k,none⟩) hx).trans (h.bel.cell (p:=⟨x,k,none⟩) hx).symm);rcases List.mem_append.1 hn with hn | hn
  {obtain ⟨i1,i2,i3,i4,i5⟩:=h.nd n (by simp[hn]);obtain ⟨j1,j3⟩:=hDlo n.g i1;have hne:=hap.2.2 n hn a (by simp);have e: ∀c,c < 5->W5.cell? ⟨n.g,n.i * 5+c,none⟩=W.cell? ⟨n.g,n.i * 5+c,none⟩:=fun c hc=>hcl n.g j1 j3 _ (fun ⟨e1,e2⟩=>by
    have:=hne e1.symm;omega)
   obtain ⟨t0,t1,t2,t3,t4⟩:=i3;exact ⟨by simp[i1],i2,⟨(e 0 (by omega)).trans t0,(e 1 (by omega)).trans t1,(e 2 (by omega)).trans t2,(e 3 (by omega)).trans t3,(e 4 (by omega)).trans t4⟩,hat i4,fun k=>(hfz n.g j1 j3 k).trans (i5 k)⟩}
  {obtain ⟨i,hi,rfl⟩:=List.getElem_of_mem hn;have hil:i < a.t.parts.length:=by rwa [Z0P] at hi
   rw[Z1F];rcases hDP with ⟨h0,_⟩ | ⟨_,hd,h3,h4,h5⟩
   {omega}
   {refine ⟨by simp[hd], ?_,h5.at_ i hil,hat (h4 i hil),h5.fz⟩;have:=h.res.2.1.2.1;show pb≠r1;omega}}}
 {refine List.pairwise_append.2 ⟨hap.1,Z9n _ _ _,fun n hn m hm e=> ?_⟩;have h1:=(hDlo n.g (h.nd n (by simp[hn])).1).1;have h2:=Z5F hm;rcases hDP with ⟨h0,_⟩ | ⟨_,_,h3,_⟩
  {have:kids pb a.t.parts qs= []:=List.eq_nil_of_length_eq_zero (by rw[Z0P]; exact h0);rw[this] at hm; cases hm}
  {omega}}
 {obtain ⟨h1,⟨j0,j1,j4⟩,h2,h3⟩:=h.res;have j3:r1≠g:=fun e=>j4 (by rw[e]; rfl);refine ⟨fun hm=> ?_,⟨j0,by omega,hown5 r1 j3 (Or.inl (by omega))⟩,fun c hc=> ?_,fun k=>(hfz r1 j1 j3 k).trans (h3 k)⟩
  {rcases List.mem_append.1 hm with hm | hm
   {rcases List.mem_append.1 hm with hm | hm
    {exact h1 hm}
    {have:=hDNb r1 hm; omega}}
   {have:=(hDPb r1 hm); omega}}
  obtain ⟨u,hu⟩:=h2 c hc;exact ⟨u,(hcl r1 j1 j3 c (fun ⟨e,_⟩=>har1 e)).trans hu⟩}
 {intro x hx;have hwW:=h.bel.size;rcases hv5 x hx with h3 | ⟨h3,_⟩
  {omega}
  {omega}}
 {exact ⟨by simp[h.rin.1],h.rin.2⟩}
end
end Go.Proofs.YtchklpedlbkgaaaDoor
namespace Shp
section
theorem Z31 {s:List UInt8} (h:Lex.isName s=true):s.length<=24:=by
 cases s with
 | nil=>simp
 | cons c r=>
  have:Lex.isName (c::r)=(decide ((c::r).length<=24)&&Lex.small c&&(c::r).all Lex.nameB&& !Lex.isWord (c::r)):=rfl;rw[this] at h;simp only[Bool.and_eq_true,decide_eq_true_eq] at h;exact h.1.1.1
theorem Z6I {s:List UInt8} (h:Lex.isUpper s=true):s.length<=24:=by
 cases s with
 | nil=>simp
 | cons c r=>
  have:Lex.isUpper (c::r)=(decide ((c::r).length<=24)&&Lex.great c&&(c::r).all Lex.nameB):=rfl;rw[this] at h;simp only[Bool.and_eq_true,decide_eq_true_eq] at h;exact h.1.1
theorem Z32 {t:Sh} (h:fits t=true):
 (1<=t.kind/\t.kind<=4/\t.names= []/\t.parts= [])\/(t.kind=5/\t.names= []/\t.parts.length=1)\/((t.kind=6\/t.kind=7)/\t.names.length=t.parts.length/\areNames t.names=true)\/
 (t.kind=8/\t.names= []/\1<=t.parts.length)\/((t.kind=9\/t.kind=10)/\t.names= []/\t.parts= []/\t.name.length<=24/\t.of_.length<=24):=by
 by_cases h9:t.kind=9\/t.kind=10
 {rw[Z1T h9] at h;simp only[Bool.and_eq_true,decide_eq_true_eq] at h;obtain ⟨⟨⟨h1,h2⟩,h3⟩,h4⟩:=h;refine Or.inr (Or.inr (Or.inr (Or.inr ⟨h9,List.eq_nil_of_length_eq_zero h3,List.eq_nil_of_length_eq_zero h4,Z6I h1, ?_⟩)));unfold ofOk at h2;cases hn:Lex.isName t.of_ with
  | true=>exact Z31 hn
  | false=>
   rw[hn] at h2;simp at h2;rw[h2.1.1]; simp}
 {cases hb:bare t with
  | false=>rw[Z0Q h9 hb] at h; cases h
  | true=>
   by_cases h6:t.kind=6\/t.kind=7
   {rw[Z27 hb h6,Bool.and_eq_true,decide_eq_true_eq] at h;exact Or.inr (Or.inr (Or.inl ⟨h6,h.2,h.1⟩))}
   {by_cases hz:0 < t.names.length
    {rw[Z1r h9 hb h6 hz] at h; cases h}
    {have hn:t.names= []:=List.eq_nil_of_length_eq_zero (by omega);by_cases h8:t.kind=8
     {rw[Z46 hb h8 hz,decide_eq_true_eq] at h;exact Or.inr (Or.inr (Or.inr (Or.inl ⟨h8,hn,h⟩)))}
     {by_cases h5:t.kind=5
      {rw[Z3s hb h5 hz,decide_eq_true_eq] at h;exact Or.inr (Or.inl ⟨h5,hn,h⟩)}
      {rw[Z2j hb h9 h6 hz h8 h5] at h;simp only[Bool.and_eq_true,decide_eq_true_eq] at h;exact Or.inl ⟨h.1.1,h.1.2,hn,List.eq_nil_of_length_eq_zero h.2⟩}}}}}
end
end Shp
namespace Go.Proofs.YtchklpedlbkgaaaDoor
section
open Go.RowKit Shp
theorem Z6T {t:Sh} (h:right t=true) (hz:size t<=400):t.names.length<=400:=by
 have hp:=Z0F t.parts;rw[size_eq] at hz;rcases Z32 (Z08 h) with ⟨_,_,h,_⟩ | ⟨_,h,_⟩ | ⟨_,h,_⟩ | ⟨_,h,_⟩ | ⟨_,h,_⟩
 {rw[h]; simp}
 {rw[h]; simp}
 {omega}
 {rw[h]; simp}
 {rw[h]; simp}
def cW (w:World) (t:Sh) (q:Ptr):World:=
 ((w.alloc (.cells (Y8 t q) 25)).alloc (.cells Yb 25)).alloc (.cells #[.func (.func 41) #[] #[],.int .i64 0] 95)
section
variable (w : World) (t : Sh) (q : Ptr)
include w t q
theorem Z5L:Below w.heap.size w (cW w t q):=Z0d (Z0d (Z00 _ _) _) _
theorem Zbt:CntH (cW w t q) (w.heap.size+1+1) 0 (.func (.func 41) #[] #[]):=by
 unfold cW;exact ⟨by simp,by simp[go_sem],by simp[go_sem],by simp[go_sem]⟩
theorem Z5M:Sh5 (cW w t q) w.heap.size 0 t q/\ ∀k,(cW w t q).frozen? ⟨w.heap.size,k,none⟩=false:=by
 unfold cW;refine ⟨⟨?_, ?_, ?_, ?_, ?_⟩,fun k=> ?_⟩ <;> simp[go_sem]
theorem Z9p: (∀c,c < 5-> ∃u,(cW w t q).cell? ⟨w.heap.size+1,c,none⟩=some u)/\ ∀k,(cW w t q).frozen? ⟨w.heap.size+1,k,none⟩=false:=by
 unfold cW;refine ⟨fun c hc=> ?_,fun k=>by simp[go_sem]⟩
 match c,hc with
 | 0,_=>exact ⟨_,by simp[go_sem]; rfl⟩
 | 1,_=>exact ⟨_,by simp[go_sem]; rfl⟩
 | 2,_=>exact ⟨_,by simp[go_sem]; rfl⟩
 | 3,_=>exact ⟨_,by simp[go_sem]; rfl⟩
 | 4,_=>exact ⟨_,by simp[go_sem]; rfl⟩
end
theorem ZbK (w W1:World) (t:Sh) (q:Ptr) (hq:ShAt w w.heap.size q t) (hu:UpH (w.heap.size+1+1) (cW w t q) W1):
 Cst w (W1.alloc (.cells #[.pointer (some ⟨w.heap.size,0,none⟩)] 71)) w.heap.size (w.heap.size+1) t (.slice (some ⟨W1.heap.size,0,none⟩) 1 1) [⟨w.heap.size,0,t,q⟩] [w.heap.size]:=by
 have hsz: (cW w t q).heap.size=w.heap.size+3:=by simp[cW]
 have hs1:W1.heap.size=w.heap.size+3:=hu.size.trans hsz;have hb0:=Z00 W1 (.cells #[.pointer (some ⟨w.heap.size,0,none⟩)] 71);have hb:Below w.heap.size w W1:=(Z5L w t q).trans (hu.toBelow (by omega));have hb2:Below w.heap.size w (W1.alloc (.cells #[.pointer (some ⟨w.heap.size,0,none⟩)] 71)):=Z02 hb hb0;have hz2: (W1.alloc (.cells #[.pointer (some ⟨w.heap.size,0,none⟩)] 71)).heap.size=w.heap.size+4:=by simp; omega
 have hcell: ∀g k,g < w.heap.size+2->(W1.alloc (.cells #[.pointer (some ⟨w.heap.size,0,none⟩)] 71)).cell? ⟨g,k,none⟩=(cW w t q).cell? ⟨g,k,none⟩:=fun g k hg=>(hb0.cell (p:=⟨g,k,none⟩) (by show g < W1.heap.size; omega)).trans (hu.cell (by omega));have hfz: ∀g k,g < w.heap.size+2->(W1.alloc (.cells #[.pointer (some ⟨w.heap.size,0,none⟩)] 71)).frozen? ⟨g,k,none⟩=(cW w t q).frozen? ⟨g,k,none⟩:=fun g k hg=>(hb0.frozen (p:=⟨g,k,none⟩) (by show g < W1.heap.size; omega)).trans (hu.frozen (by omega));refine ⟨?_,Z6E _ _ _ _ _, ?_, ?_,by simp,hb2,⟨by simp,⟨by omega,by omega,fun e=> ?_⟩, ?_, ?_⟩, ?_,⟨by simp,by omega⟩⟩
 {refine ⟨by simp,Or.inr ⟨W1.heap.size,1, #[.pointer (some ⟨w.heap.size,0,none⟩)],rfl,Nat.zero_le _,heap_alloc_new _ _,Nat.le_refl _,by decide,rfl,rfl⟩⟩}
 {intro b hb';simp only[List.mem_cons,List.not_mem_nil,or_false] at hb';subst hb';exact ⟨by omega,by omega,fun e=>by have:W1.heap.size=w.heap.size:=Option.some.inj e; omega⟩}
 {intro n hn;simp only[List.mem_cons,List.not_mem_nil,or_false] at hn;subst hn;refine ⟨by simp,by show w.heap.size≠w.heap.size+1; omega, ?_,hq.keep hb2 (Nat.le_refl _),fun k=>(hfz _ k (by simp)).trans ((Z5M w t q).2 k)⟩;have h5:=(Z5M w t q).1;simp only[Nat.zero_mul];exact h5.of (fun k=>hcell _ k (by omega))}
 {have:W1.heap.size=w.heap.size+1:=Option.some.inj e;omega}
 {intro c hc;obtain ⟨u,hu'⟩:=(Z9p w t q).1 c hc;exact ⟨u,(hcell _ c (by omega)).trans hu'⟩}
 {exact fun k=>(hfz _ k (by omega)).trans ((Z9p w t q).2 k)}
 {intro g e;have:W1.heap.size=g:=Option.some.inj e;omega}
theorem Z6U (t:Sh) (q:Ptr) (w:World) (hq:ShAt w w.heap.size q t) (hz:size t<=400) (hr:right t=true):
 Calls Tryd.prog 42 #[.agg (Y8 t q),.func (.func 41) #[] #[],.func (.func 43) #[] #[]] w fun e w'=> ∃q' F,e= .returned (.agg (Y8 t q'))/\Own w' q' t F/\F.Nodup/\(∀b∈F,w.heap.size<=b)/\Below w.heap.size w w':=by
 have hde:=Z1p t;have hcb:=Z5M w t q;have hm:=Z84 t q w.heap.size 0 w.heap.size (w.heap.size+1+1) 0 1 (cW w t q) hcb.1 (by omega) (hq.keep (Z5L w t q) (Nat.le_refl _)) (by omega) (Zbt w t q) (by omega) (by omega);rw[show (((1:Nat)):Int)=(1:Int) from rfl] at hm;have HM:=Y1 hm;have HST:=Y1 (fun W1 (hu:UpH (w.heap.size+1+1) (cW w t q) W1)=>ZbK w W1 t q hq hu);have L1:=fun (g o:Nat) (W:World)=>Z4n g o W;clear hq hm hcb hde;go_enter Tryd.func42,Tryd.ntmps42
 go_wp2_with fail
 change Calls _ _ _ (cW w t q) _;refine HM.out.mono ?_;rintro e W1 ⟨rfl,hu1,_⟩;have HS1:=Y1 (HST.out W1 hu1);clear HM HST hu1
 go_wp2_with fail
 go_loopg [9] (size t) (fun k s9 wr=> ∃L D,sumL L<=k/\sumL L<=400/\(∀n∈L,right n.t=true)/\Hid (Cst w wr w.heap.size (w.heap.size+1) t s9 L D))
 case atStart=>exact ⟨_,_,by simp[sumL],by simp[sumL]; omega,fun n hn=>by simp only[List.mem_cons,List.not_mem_nil,or_false] at hn; subst hn; exact hr,HS1⟩
 case round=>
  obtain ⟨L,D,hk,h400,hri,HC⟩:=hrel;clear HS1;rcases List.eq_nil_or_concat L with rfl | ⟨L',a,rfl⟩
  {obtain ⟨F,⟨q',hS,hO⟩,hnd,hFD⟩:=Z81 HC.out.rdy;obtain ⟨A,cp,rfl⟩:=HC.out.opn.empty;obtain ⟨p0,p1,p2,p3,p4⟩:=hS;simp only[Nat.zero_mul,Nat.zero_add] at p0 p1 p2 p3 p4;obtain ⟨r1D,⟨_,_,_⟩,rcs,rfz⟩:=HC.out.res;obtain ⟨e0,r0⟩:=rcs 0 (by omega);obtain ⟨e1,r1⟩:=rcs 1 (by omega);obtain ⟨e2,r2⟩:=rcs 2 (by omega);obtain ⟨e3,r3⟩:=rcs 3 (by omega);obtain ⟨e4,r4⟩:=rcs 4 (by omega);have z0:=rfz 0;have z1:=rfz 1;have z2:=rfz 2;have z3:=rfz 3;have z4:=rfz 4;have HO:=Y1 hO;have HND:=Y1 hnd;have HFD:=Y1 (fun b hb=>(HC.out.lo b (hFD b hb)).1);have HNE:=Y1 (fun b hb (e:w.heap.size+1=b)=>r1D (by rw[e]; exact hFD b hb));have HBL:=Y1 HC.out.bel;clear hO hnd hFD rcs rfz r1D hri;go_wp2;refine bodyPost_ret (v:= .agg (Y8 t q')) (by simp[results,Tryd.results42,go_sem,r0,r1,r2,r3,r4]) rfl ?_;refine ⟨q',F,rfl,HO.out.of (fun b hb=> ?_) (by simp[World.setCell]),HND.out,HFD.out, ?_⟩
   {have hne:=HNE.out b hb;exact ((((Z0i _ ⟨w.heap.size+1,0,none⟩ _ hne).trans (Z0i _ ⟨w.heap.size+1,1,none⟩ _ hne)).trans (Z0i _ ⟨w.heap.size+1,2,none⟩ _ hne)).trans (Z0i _ ⟨w.heap.size+1,3,none⟩ _ hne)).trans (Z0i _ ⟨w.heap.size+1,4,none⟩ _ hne)}
   {exact ((((HBL.out.setCell (p:=⟨w.heap.size+1,0,none⟩) (Nat.le_succ _) _).setCell (p:=⟨w.heap.size+1,1,none⟩) (Nat.le_succ _) _).setCell (p:=⟨w.heap.size+1,2,none⟩) (Nat.le_succ _) _).setCell (p:=⟨w.heap.size+1,3,none⟩) (Nat.le_succ _) _).setCell (p:=⟨w.heap.size+1,4,none⟩) (Nat.le_succ _) _}}
  {rw[List.concat_eq_append] at hk h400 HC hri;obtain ⟨g,cap,rfl,hcap,hcl,hgW⟩:=HC.out.opn.last;obtain ⟨hagD,har1,hS5,hat,hfr⟩:=HC.out.nd a (by simp);obtain ⟨hlo1,hlo2,hlo4⟩:=HC.out.lo a.g hagD;obtain ⟨W,hW⟩: ∃W,W=wr:=⟨wr,rfl⟩;subst hW;have hi1: (0:Int) < ((L'.length+1:Nat):Int):=by omega
   have hL4:L'.length<=400:=by
    have:=Zaz L';rw[Z0L] at h400;omega
   have hag:a.g≠g:=fun e=>hlo4 (by rw[e]; rfl);unfold ndP at hcl;obtain ⟨p0,p1,p2,p3,p4⟩:=hS5;have hsm:=hat.small;have ha4:size a.t<=400:=by rw[Z0L] at h400; simp[sumL] at h400; omega
   have har:=hri a (by simp);have hnm:a.t.names.length<=1000000000:=by have:=Z6T har ha4; omega
   have hsz:=HC.out.bel.size;have HOWN:=Y1 (Z9m a.g (a.i * 5) a.q.A a.q.c a.t.names W hlo2 p3 (hfr _) (hat.strs.more hsz) hnm hsm.c hsm.A0);have HRI:=Y1 hri;have HAT:=Y1 hat;have HSM:=Y1 hsm;have LA:=fun (W:World)=>L1 a.g (a.i * 5) W;clear hri hat hsm p0 p1 p2 p3
   go_wp2_with fail
   refine HOWN.out.mono ?_;rintro e w3 ⟨rfl,A',c',W2,hb2,htx,rfl⟩;have x4: (W2.setCell ⟨a.g,a.i * 5+3,none⟩ (.slice A' a.t.names.length c')).cell? ⟨a.g,a.i * 5+4,none⟩=some (.slice a.q.P a.t.parts.length a.q.d):=
    (World.cell?_setCell_other _ _ _ _ (fun e=>by have:=congrArg Addr.off e; simp at this)).trans ((hb2.cell (p:=⟨a.g,a.i * 5+4,none⟩) hlo2).trans p4)
   have f4: (W2.setCell ⟨a.g,a.i * 5+3,none⟩ (.slice A' a.t.names.length c')).frozen? ⟨a.g,a.i * 5+4,none⟩=false:=by
    rw[World.frozen?_setCell]; exact (hb2.frozen (p:=⟨a.g,a.i * 5+4,none⟩) hlo2).trans (hfr _)
   have hz2:W.heap.size<=W2.heap.size:=hb2.size;have hz3: (W2.setCell ⟨a.g,a.i * 5+3,none⟩ (.slice A' a.t.names.length c')).heap.size=W2.heap.size:=Z2k _ _ _;have hag3:a.g < (W2.setCell ⟨a.g,a.i * 5+3,none⟩ (.slice A' a.t.names.length c')).heap.size:=by omega
   have hbw3:Below w.heap.size w (W2.setCell ⟨a.g,a.i * 5+3,none⟩ (.slice A' a.t.names.length c')):=(HC.out.bel.trans (hb2.mono hsz)).setCell hlo1 _;have HB2:=Y1 hb2;have HTX:=Y1 htx;clear hb2 htx p4 HOWN hcl;by_cases hpz:a.t.parts.length=0
   {have hrn:=Z85 a.g (a.i * 5+4) a.q.P a.q.d (W2.setCell ⟨a.g,a.i * 5+3,none⟩ (.slice A' a.t.names.length c')) hag3 (by rw[x4,hpz]) f4 HSM.out.P0;have HRN:=Y1 hrn;clear hrn x4 f4 hbw3 hag3 hz3
    go_wp2_with fail
    refine (LA _).mono ?_;rintro e w4 ⟨rfl,rfl⟩
    go_wp2_with fail
    refine HRN.out.mono ?_;rintro e w5 ⟨rfl,P',d',W3',hb3,hP0,rfl⟩;have HST:=Y1 (HC.out.step (P':=P') (d':=d') (pb:=0) (qs:=fun _=>a.q) HB2.out HTX.out hb3 (by omega) hP0 (Or.inl ⟨hpz,by rw[hpz],rfl⟩));have hk0:kids 0 a.t.parts (fun _=>a.q)= []:=List.eq_nil_of_length_eq_zero (by rw[Z0P]; exact hpz);rw[hk0,List.append_nil] at HST;clear hk0 hb3 hP0 HRN;go_wp2
    go_roundg (sumL L')
    case measure=>rw[Z0L] at hk; have:=Z25 a.t; simp[sumL] at hk ⊢; omega
    case rel=>
     obtain ⟨D5,h5⟩:=HST.out;exact ⟨L',D5,Nat.le_refl _,by rw[Z0L] at h400; omega,fun n hn=>HRI.out n (by simp[hn]),Y1 h5⟩}
   {have hpos:0 < a.t.parts.length:=by omega
    rcases HAT.out.part with h0 | ⟨g',off,qs,hqP,hg',hcc,hrr⟩
    {omega}
    {have hpl:a.t.parts.length<=1000000000:=by have:=Z0F a.t.parts; rw[size_eq] at ha4; omega
     have hrn:=Z86 a.g (a.i * 5+4) g' off a.q.d a.t.parts qs (W2.setCell ⟨a.g,a.i * 5+3,none⟩ (.slice A' a.t.names.length c')) hag3 (by rw[x4,hqP]) f4 (by omega) (fun i hi=>(hcc i hi).of (fun k=>(hbw3.cell (p:=⟨g',k,none⟩) hg').trans (HC.out.bel.cell (p:=⟨g',k,none⟩) hg').symm)) hpl hpos;have HRN:=Y1 hrn;have HRR:=Y1 hrr;clear hrn hcc hrr hqP x4 f4 hbw3
     go_wp2_with fail
     refine (LA _).mono ?_;rintro e w4 ⟨rfl,rfl⟩
     go_wp2_with fail
     refine HRN.out.mono ?_;rintro e w5 ⟨rfl,pb,d',W3',hb3,hd1,hpb,hpar,rfl⟩;have hz4:=hb3.size;have hagz:a.g < W3'.heap.size:=by omega
     have hoc: ∃u,W3'.cell? ⟨a.g,a.i * 5+4,none⟩=some u:=⟨_,(hb3.cell (p:=⟨a.g,a.i * 5+4,none⟩) hag3).trans ((World.cell?_setCell_other _ _ _ _ (fun e=>by have:=congrArg Addr.off e; simp at this)).trans ((HB2.out.cell (p:=⟨a.g,a.i * 5+4,none⟩) hlo2).trans (HC.out.nd a (by simp)).2.2.1.2.2.2.2))⟩;obtain ⟨u0,hu0⟩:=hoc;have c4: (W3'.setCell ⟨a.g,a.i * 5+4,none⟩ (.slice (some ⟨pb,0,none⟩) a.t.parts.length d')).cell? ⟨a.g,a.i * 5+4,none⟩=some (.slice (some ⟨pb,0,none⟩) a.t.parts.length d'):=World.cell?_setCell_same _ _ _ hu0;have hz5: (W3'.setCell ⟨a.g,a.i * 5+4,none⟩ (.slice (some ⟨pb,0,none⟩) a.t.parts.length d')).heap.size=W3'.heap.size:=Z2k _ _ _;have hO4:Opn (W3'.setCell ⟨a.g,a.i * 5+4,none⟩ (.slice (some ⟨pb,0,none⟩) a.t.parts.length d')) (.slice (some ⟨g,0,none⟩) L'.length cap) L':=
      (((HC.out.opn.pop.below HB2.out).set (fun e=>hag (Option.some.inj e).symm) _).below hb3).set (fun e=>hag (Option.some.inj e).symm) _
     have hpbl:=hpar.lt;have hpag:pb≠a.g:=by omega
     have hR0:=Rnd7.start hO4 (fun e=>by have:g=pb:=Option.some.inj e; omega) (hpar.of (Z0i W3' ⟨a.g,a.i * 5+4,none⟩ (.slice (some ⟨pb,0,none⟩) a.t.parts.length d') (Ne.symm hpag)) (by omega));have HR0:=Y1 hR0;have HSTEP:=Y1 (fun (W5:World) (v5:Value) (hr:Rnd7 (W3'.setCell ⟨a.g,a.i * 5+4,none⟩ (.slice (some ⟨pb,0,none⟩) a.t.parts.length d')) W5 (.slice (some ⟨g,0,none⟩) L'.length cap) v5 pb a.t.parts qs L' a.t.parts.length)=>HC.out.step (P':=some ⟨pb,0,none⟩) (d':=d') (pb:=pb) (qs:=qs) HB2.out HTX.out hb3 hd1 nofun (Or.inr ⟨rfl,by omega,HRR.out,hr⟩));obtain ⟨W4,hW4⟩: ∃W4,W4=W3'.setCell ⟨a.g,a.i * 5+4,none⟩ (.slice (some ⟨pb,0,none⟩) a.t.parts.length d'):=⟨_,rfl⟩;rw[<-hW4] at c4 hz5 HR0 HSTEP ⊢;have hpw:pb < W4.heap.size:=by omega
     have hag4:a.g < W4.heap.size:=by omega
     clear hW4 hb3 hpb hpar hR0 hO4 hu0 hpbl HRN hz3 hag3 hz4 hagz
     go_wp2_with fail
     go_loopw [9,47] (fun s9 ii wr=> ∃i:Nat,ii= .int .i64 i/\i<=a.t.parts.length/\Hid (Rnd7 W4 wr (.slice (some ⟨g,0,none⟩) L'.length cap) s9 pb a.t.parts qs L' i)) (fun _ i _=>a.t.parts.length - (intOf i).toNat)
     case atStart=>exact ⟨0,rfl,Nat.zero_le _,HR0⟩
     case round=>
      obtain ⟨i,rfl,hi,HR⟩:=hrel;by_cases hlt:i < a.t.parts.length
      {have hi1: (i:Int) < (a.t.parts.length:Int):=by omega
       have k4:=(HR.out.up.same hag4 (fun e=>hag (Option.some.inj e).symm)).1 (a.i * 5+4);rw[c4] at k4;obtain ⟨i0,hi2,hz0,hz1,hz2⟩:=info_parts (P:=Tryd.prog) (e:=71) (z:= .pointer none) (size:=1) (bytes:=8) Z9l;have hlen: (L'++(kids pb a.t.parts qs).take i).length=L'.length+i:=by rw[List.length_append,List.length_take,Z0P]; omega
       have hown:=HR.out.opn;unfold Opn at hown;rw[hlen] at hown;have HOW:=Y1 hown;clear hown hlen
       go_wp2_with (at_builtin; refine wpList_append_lies _ rfl _ _ 90 rfl 0 71 i0 (.pointer none) 1 8 Tryd.underlying90 hi2 hz0 hz1 hz2 rfl (by decide) _ _ _ rfl (HOW.out.alloc _) ⟨wr.heap.size,0,none⟩ 1 1 [.pointer (some ⟨pb,i * 5,none⟩)] rfl rfl (World.news_of_block (cs:=#[.pointer (some ⟨pb,i * 5,none⟩)]) (t:=71) (fr:=(0,0)) (heap_alloc_new _ _)) (by simp[Value.oneCell']) (by decide) (by unfold maxLen; omega) (by omega) (by simp) _ rfl ?_)
       intro g1 cap1 w5 hown1 hgrow hat1 hlt1;have HN:=Y1 (HR.out.step hlt hpw hgrow (by simpa[List.map_append,List.append_assoc,List.map_take] using hown1) (by simpa using hat1));clear hown1 hgrow hat1 k4
       go_wp2_with fail
       exact ⟨⟨i+1,by go_num,by omega,HN⟩,by simp[intOf]; omega⟩}
      {have hie:i=a.t.parts.length:=by omega
       have HN:=Y1 (HSTEP.out wr _ (by have:=HR.out; rwa [hie] at this));have hi1: ¬(i:Int) < (a.t.parts.length:Int):=by omega
       clear hie HR HSTEP HR0;go_wp2
       go_roundg (sumL (L'++kids pb a.t.parts qs))
       case measure=>
        rw[Z0L,Z4Y];rw[Z0L] at hk;have:=size_eq a.t;simp[sumL] at hk ⊢;omega
       case rel=>
        obtain ⟨D5,h5⟩:=HN.out;refine ⟨L'++kids pb a.t.parts qs,D5,Nat.le_refl _, ?_,fun n hn=> ?_,Y1 h5⟩
        {rw[Z0L,Z4Y];rw[Z0L] at h400;have:=size_eq a.t;simp[sumL] at h400 ⊢;omega}
        {rcases List.mem_append.1 hn with hn | hn
         {exact HRI.out n (by simp[hn])}
         {obtain ⟨i,hi,rfl⟩:=List.getElem_of_mem hn;rw[Z1F];exact Z04 har (List.getElem_mem _)}}}}}}
def noneQ:Ptr:=⟨none,0,none,0⟩
def sW (w:World) (t:Sh) (q:Ptr):World:=(w.alloc (.cells (Y8 t q) 25)).alloc (.cells Yb 25)
section
variable (w : World) (t : Sh) (q : Ptr)
include w t q
theorem Z1i:Below w.heap.size w (sW w t q):=Z0d (Z00 _ _) _
theorem Z5N:Box5 (sW w t q) w.heap.size t q:=(Z06 w t q).next (Z00 _ _)
theorem Z4o:Box5 (sW w t q) (w.heap.size+1) Z5x noneQ:=by
 have h:=Z06 (w.alloc (.cells (Y8 t q) 25)) Z5x noneQ;have e: (w.alloc (.cells (Y8 t q) 25)).heap.size=w.heap.size+1:=by simp
 rw[e] at h;exact h
end
def put5 (W:World) (b:Nat) (a0 a1 a2 a3 a4:Value):World:=((((W.setCell ⟨b,0,none⟩ a0).setCell ⟨b,1,none⟩ a1).setCell ⟨b,2,none⟩ a2).setCell ⟨b,3,none⟩ a3).setCell ⟨b,4,none⟩ a4
theorem Z16 {W:World} {q:Ptr} {t:Sh} {F:List Nat} (h:Own W q t F) {b:Nat} (hb: ∀x∈F,b≠x) (a0 a1 a2 a3 a4:Value):Own (put5 W b a0 a1 a2 a3 a4) q t F:=
 h.of (fun x hx=>((((Z0i _ ⟨b,0,none⟩ a0 (hb x hx)).trans (Z0i _ ⟨b,1,none⟩ a1 (hb x hx))).trans (Z0i _ ⟨b,2,none⟩ a2 (hb x hx))).trans (Z0i _ ⟨b,3,none⟩ a3 (hb x hx))).trans (Z0i _ ⟨b,4,none⟩ a4 (hb x hx))) (by simp[put5,World.setCell])
theorem Z0e {B:Nat} {a W:World} (h:Below B a W) {b:Nat} (hb:B<=b) (a0 a1 a2 a3 a4:Value):Below B a (put5 W b a0 a1 a2 a3 a4):=
 ((((h.setCell (p:=⟨b,0,none⟩) hb _).setCell (p:=⟨b,1,none⟩) hb _).setCell (p:=⟨b,2,none⟩) hb _).setCell (p:=⟨b,3,none⟩) hb _).setCell (p:=⟨b,4,none⟩) hb _
theorem Z3P (t:Sh) (q:Ptr) (w:World) (hq:ShAt w w.heap.size q t) (hz:size t<=400) (hr:right t=true):
 Calls Tryd.prog 26 #[.agg (Y8 t q)] w fun e w'=> ∃q' F,e= .returned (.agg (Y8 t q'))/\Own w' q' t F/\F.Nodup/\(∀b∈F,w.heap.size<=b)/\Below w.heap.size w w':=by
 have HS:=Y1 (Z1i w t q);have HE:=Y1 (Z4o w t q);have HZ:=Y1 (show (sW w t q).heap.size=w.heap.size+2 from by simp[sW]);have HCP:=Y1 (Z6U t q (sW w t q) (hq.next (Z1i w t q)) hz hr);obtain ⟨_,⟨c0,c1,c2,c3,c4⟩,_⟩:=Z06 w t q;clear hq hr;go_enter Tryd.func26,Tryd.ntmps26
 go_wp2_with fail
 clear c0 c1 c2 c3 c4;change Calls _ _ _ (sW w t q) _;generalize sW w t q=W at HS HE HCP HZ ⊢;refine HCP.out.mono ?_;rintro e w1 ⟨q',F,rfl,ho,hnd,hF,hb1⟩;have HO:=Y1 ho;have HND:=Y1 hnd;have HF:=Y1 (fun b hb=>show w.heap.size+2<=b from by have:=hF b hb; have:=HZ.out; omega);have HS1:=Y1 (Z02 HS.out hb1);have HE1:=Y1 (HE.out.next hb1);clear ho hnd hF hb1 HCP;obtain ⟨_,⟨r0,r1,r2,r3,r4⟩,f0,f1,f2,f3,f4⟩:=HE1.out;simp only[Nat.zero_add] at r0 r1 r2 r3 r4;go_wp2;refine bodyPost_ret (v:= .agg (Y8 t q')) (by simp[results,Tryd.results26,go_sem,r0,r1,r2,r3,r4]) rfl ?_;exact ⟨q',F,rfl,Z16 HO.out (fun x hx e=>by have:=HF.out x hx; omega) _ _ _ _ _,HND.out,fun b hb=>by have:=HF.out b hb; omega,Z0e HS1.out (by omega) _ _ _ _ _⟩
end
section
open Go.RowKit Go.Sort
def Kpt (B:Nat) (w w':World):Prop:=w.heap.size<=w'.heap.size/\ ∀b,B<=b->b < w.heap.size->w'.heap[b]? =w.heap[b]?
theorem Kpt.next {B:Nat} {a b c:World} (h:Kpt B a b) (k:Kpt B b c):Kpt B a c:=⟨Nat.le_trans h.1 k.1,fun x h1 h2=>(k.2 x h1 (Nat.lt_of_lt_of_le h2 h.1)).trans (h.2 x h1 h2)⟩
structure Srt {α:Type} [Inhabited α] (N B:Nat) (rv:Value) (lt:α->α->Bool) (St:Array α->World->Prop):Prop where
 less: ∀d w (i j:Int),St d w->0<=i->i < N->0<=j->j < N->Calls Tryd.prog 116 #[rv,.int .i64 i,.int .i64 j] w fun e w'=>e= .returned (.bool (lt d[i.toNat]! d[j.toNat]!))/\St d w'/\Kpt B w w'
 swap: ∀d w (i j:Int),St d w->0<=i->i < N->0<=j->j < N->Calls Tryd.prog 117 #[rv,.int .i64 i,.int .i64 j] w fun e w'=>e= .returned (.tuple #[])/\St (swp d i.toNat j.toNat) w'/\Kpt B w w'
 size: ∀d w,St d w->d.size=N
 big:N < 1000000
 base: ∀d w,St d w->B<=w.heap.size
 keep: ∀d w w',St d w->Below B w w'->St d w'
 mL: ∀w,Sem.run Tryd.prog (method (Tryd.prog.types.size+100) 92 rv "Less") w= .ok (116,rv) w
 mS: ∀w,Sem.run Tryd.prog (method (Tryd.prog.types.size+100) 92 rv "Swap") w= .ok (117,rv) w
variable {α : Type} [Inhabited α] {N B : Nat} {rv : Value} {lt : α -> α -> Bool} {St : Array α -> World -> Prop}
section
variable (H : Srt N B rv lt St) {d : Array α} {w : World} (h : St d w) (i j : Nat) {x y : Int}
include H d w h i j x y
theorem Srt.lessAt {v:Bool} (hv:lt d[i]! d[j]! =v) (hi:i < N) (hj:j < N) (hx:x=i) (hy:y=j):
 Calls Tryd.prog 116 #[rv,.int .i64 x,.int .i64 y] w fun e w'=>e= .returned (.bool v)/\St d w'/\Kpt B w w':=by
 subst hx; subst hy; subst hv;exact H.less d w i j h (by omega) (by omega) (by omega) (by omega)
theorem Srt.swapAt (hi:i < N) (hj:j < N) (hx:x=i) (hy:y=j):
 Calls Tryd.prog 117 #[rv,.int .i64 x,.int .i64 y] w fun e w'=>e= .returned (.tuple #[])/\St (swp d i j) w'/\Kpt B w w':=by
 subst hx; subst hy;exact H.swap d w i j h (by omega) (by omega) (by omega) (by omega)
end
theorem Z9q (H:Srt N B rv lt St) (a b:Nat) (d:Array α) (w:World) (hH:St d w) (hab:a<=b) (hb:b<=N):
 Calls Tryd.prog 75 #[.iface 92 rv,.int .i64 a,.int .i64 b] w fun e w'=>e= .returned (.tuple #[])/\St (Sort.insertionSort lt d a b) w':=by
 have mL:=H.mL;have mS:=H.mS;have hbig:=H.big;have hsz:=H.size d w hH;go_enter Tryd.func75,Tryd.ntmps75;go_wp2
 go_loopw [6] (fun vi wr=> ∃(i:Nat) (dk:Array α),vi= .int .i64 i/\a < i/\i<=b+1/\St dk wr/\insOuter lt a b i dk=insOuter lt a b (a+1) d) (fun vi _=>b+1 - (intOf vi).toNat)
 case atStart=>exact ⟨a+1,d,by go_num,by omega,by omega,hH,rfl⟩
 case round=>
  obtain ⟨i,dk,rfl,hai,hib,hwr,hO⟩:=hrel;have HO:Hid (insOuter lt a b i dk=insOuter lt a b (a+1) d):=hO;clear hO;go_wp2
  {go_loopw [7] (fun vj wr2=> ∃(j:Nat) (dj:Array α),vj= .int .i64 j/\a<=j/\j<=i/\St dj wr2/\insInner lt a j dj=insInner lt a i dk) (fun vj _=>(intOf vj).toNat)
   case atStart=>exact ⟨i,dk,rfl,by omega,Nat.le_refl _,hwr,rfl⟩
   case round=>
    obtain ⟨j,dj,rfl,haj,hji,hw2,hI⟩:=hrel;have hlt:i < b:=by assumption
    have HI:Hid (insInner lt a j dj=insInner lt a i dk):=hI;clear hI hwr;have out: (j<=a\/lt dj[j]! dj[j - 1]! =false)-> ∀w2,St dj w2-> ∃i' dk',Value.int .i64 ((i:Int)+1)= .int .i64 (i':Nat)/\a < i'/\i'<=b+1/\St dk' w2/\insOuter lt a b i' dk'=insOuter lt a b (a+1) d:=fun hs w2 h2=>
     ⟨i+1,dj,by go_num,by omega,by omega,h2,by rw[<-HO.out,insOuter_go _ _ _ _ _ hlt, <-HI.out,insInner_stop _ _ _ _ hs]⟩
    have OUT:Hid _:=out;clear out;by_cases hja:a < j
    {cases hlv:lt dj[j]! dj[j - 1]! with
     | true=>
      go_wp2_with fail
      refine (H.less dj _ _ _ hw2 (by omega) (by omega) (by omega) (by omega)).mono ?_;rintro e w' ⟨rfl,hS, -⟩;rw[show ((j:Int)).toNat=j by omega,show ((j:Int) - 1).toNat=j - 1 by omega,hlv]
      go_wp2_with fail
      refine (H.swap dj _ _ _ hS (by omega) (by omega) (by omega) (by omega)).mono ?_;rintro e w2 ⟨rfl,hS2, -⟩;rw[show ((j:Int)).toNat=j by omega,show ((j:Int) - 1).toNat=j - 1 by omega] at hS2
      go_wp2_with fail
      go_roundw
      case rel=>
       (repeat apply Exists.intro)
       exact ⟨⟨j - 1,swp dj j (j - 1),by congr 1 <;> omega,by omega,by omega,hS2,by rw[<-HI.out,insInner_go lt a j dj hja hlv]⟩,by rw[decide_eq_true hlt,show ((j - 1:Nat):Int)=(j:Int) - 1 by omega]⟩
      case measure=>simp[intOf]; omega
     | false=>
      go_wp2_with fail
      refine (H.less dj _ _ _ hw2 (by omega) (by omega) (by omega) (by omega)).mono ?_;rintro e w' ⟨rfl,hS, -⟩;rw[show ((j:Int)).toNat=j by omega,show ((j:Int) - 1).toNat=j - 1 by omega,hlv]
      go_wp2_with fail
      go_roundw
      case rel=>exact OUT.out (Or.inr hlv) _ hS
      case measure=>simp[intOf]; omega}
    {go_wp2
     go_roundw
     case rel=>exact OUT.out (Or.inl (by omega)) _ hw2
     case measure=>simp[intOf]; omega}}
  {have hge: ¬i < b:=by assumption
   go_end0
   exact ⟨rfl,by unfold Sort.insertionSort; rw[<-HO.out,insOuter_stop _ _ _ _ _ hge]; exact hwr⟩}
end
section
open Go.RowKit Go.Sort
variable {α : Type} [Inhabited α] {N B : Nat} {rv : Value} {lt : α -> α -> Bool} {St : Array α -> World -> Prop}
section
variable (H : Srt N B rv lt St)
include H
theorem Z4p (lo hi first:Nat) (d:Array α) (w:World) (hH:St d w) (hlo:lo<=hi) (hb:first+hi<=N):
 Calls Tryd.prog 88 #[.iface 92 rv,.int .i64 lo,.int .i64 hi,.int .i64 first] w fun e w'=>e= .returned (.tuple #[])/\St (siftDown lt hi first lo d) w':=by
 have mL:=H.mL;have mS:=H.mS;have hbig:=H.big;go_enter Tryd.func88,Tryd.ntmps88;go_wp2
 go_loopg [8] (hi - lo) (fun kx s8 wr=> ∃(root:Nat) (dk:Array α),s8= .int .i64 root/\root<=hi/\hi - root<=kx/\St dk wr/\Hid (siftDown lt hi first root dk=siftDown lt hi first lo d))
 case atStart=>exact ⟨lo,d,rfl,hlo,Nat.le_refl _,hH,rfl⟩
 case round=>
  obtain ⟨root,dk,rfl,hr,hkx,hS,HE⟩:=hrel;clear hH;by_cases h0:hi<=2 * root+1
  {have h0z: (hi:Int)<=2 * (root:Int)+1:=by omega
   go_wp2
   go_end0
   exact ⟨rfl,by rw[<-HE.out,sd_end lt dk h0]; exact hS⟩}
  {have h0z: ¬((hi:Int)<=2 * (root:Int)+1):=by omega
   go_upto_region 3 with fail
   go_cut [31] (fun p wx=> ∃v:Bool,p= .bool v/\St dk wx/\Hid (v=true->2 * root+2 < hi/\lt dk[first+(2 * root+1)]! dk[first+(2 * root+2)]! =true)/\Hid (v=false->2 * root+2 < hi->lt dk[first+(2 * root+1)]! dk[first+(2 * root+2)]! =false))
   case first=>
    clear HE;by_cases h1:2 * root+2 < hi
    {have h1z:2 * (root:Int)+1+1 < (hi:Int):=by omega
     cases hL:lt dk[first+(2 * root+1)]! dk[first+(2 * root+2)]! <;>
     {go_wp2_with fail
      refine (H.lessAt hS (first+(2 * root+1)) (first+(2 * root+2)) hL (by omega) (by omega) (by omega) (by omega)).mono ?_;rintro e w1 ⟨rfl,hS1, -⟩
      go_wp2_with fail
      go_meet
      exact ⟨_,rfl,hS1,(show Hid _ from fun h=>by first | exact ⟨h1,hL⟩ | cases h),(show Hid _ from fun h _=>by first | exact hL | cases h)⟩}}
    {have h1z: ¬(2 * (root:Int)+1+1 < (hi:Int)):=by omega
     go_wp2_with fail
     go_meet
     exact ⟨_,rfl,hS,(show Hid _ from fun h=>by cases h),(show Hid _ from fun h h2=>absurd h2 h1)⟩}
   case rest=>
    clear hS;obtain ⟨v,rfl,hS,V1,V2⟩:=hcut
    go_upto_if 31 with fail
    go_cut [9] (fun p wx=> ∃c:Nat,p= .int .i64 c/\root < c/\c < hi/\St dk wx/\Hid ((lt dk[first+root]! dk[first+c]! =false->siftDown lt hi first root dk=dk)/\
     (lt dk[first+root]! dk[first+c]! =true->siftDown lt hi first root dk=siftDown lt hi first c (swp dk (first+root) (first+c)))))
    case first=>
     clear HE;cases v with
     | true=>
      have h1:=V1.out rfl;have h1z:2 * (root:Int)+1+1 < (hi:Int):=by omega
      go_wp2_with fail
      go_meet
      exact ⟨2 * root+2,by go_num,by omega,by omega,hS,fun hG=>sd_right_stop lt dk h1.1 h1.2 hG,fun hG=>sd_right_go lt dk h1.1 h1.2 hG⟩
     | false=>
      go_wp2_with fail
      go_meet
      exact ⟨2 * root+1,by go_num,by omega,by omega,hS,fun hG=>sd_left_stop lt dk (by omega) (fun h=>V2.out (by first | trivial | rfl) h) hG,fun hG=>sd_left_go lt dk (by omega) (fun h=>V2.out (by first | trivial | rfl) h) hG⟩
    case rest=>
     clear hS;obtain ⟨c,rfl,hc1,hc2,hS,hC⟩:=hcut;cases hG:lt dk[first+root]! dk[first+c]! with
     | true=>
      go_wp2_with fail
      refine (H.lessAt hS (first+root) (first+c) hG (by omega) (by omega) (by omega) (by omega)).mono ?_;rintro e w2 ⟨rfl,hS2, -⟩
      go_wp2_with fail
      refine (H.swapAt hS2 (first+root) (first+c) (by omega) (by omega) (by omega) (by omega)).mono ?_;rintro e w3 ⟨rfl,hS3, -⟩
      go_wp2_with fail
      go_roundg (hi - c)
      case measure=>omega
      case rel=>exact ⟨c,swp dk (first+root) (first+c),rfl,by omega,Nat.le_refl _,hS3,(show Hid _ from by rw[<-HE.out,hC.out.2 hG]; exact rfl)⟩
     | false=>
      go_wp2_with fail
      refine (H.lessAt hS (first+root) (first+c) hG (by omega) (by omega) (by omega) (by omega)).mono ?_;rintro e w2 ⟨rfl,hS2, -⟩
      go_wp2_with fail
      (try simp only[Exit.inBlock,Exit.then]); refine bodyPost_ret (results_none rfl _ _ _) rfl ?_
      exact ⟨rfl,by rw[<-HE.out,hC.out.1 hG]; exact hS2⟩}
theorem Z87 (a b:Nat) (d:Array α) (w:World) (hH:St d w) (hab:a < b) (hb:b<=N):
 Calls Tryd.prog 76 #[.iface 92 rv,.int .i64 a,.int .i64 b] w fun e w'=>e= .returned (.tuple #[])/\St (heapSort lt d a b) w':=by
 have mL:=H.mL;have mS:=H.mS;have hbig:=H.big;go_enter Tryd.func76,Tryd.ntmps76;go_wp2
 go_loopg [9] ((b - a - 1) / 2+1) (fun kx s9 wr=> ∃(k:Nat) (dk:Array α),s9= .int .i64 ((k:Int) - 1)/\k<=(b - a - 1) / 2+1/\k<=kx/\St dk wr/\Hid (heapBuild lt (b - a) a k dk=heapBuild lt (b - a) a ((b - a - 1) / 2+1) d))
 case atStart=>exact ⟨(b - a - 1) / 2+1,d,by congr 1; omega,Nat.le_refl _,Nat.le_refl _,hH,rfl⟩
 case round=>
  obtain ⟨k,dk,rfl,hk,hkx,hS,HE⟩:=hrel;clear hH;cases k with
  | succ k=>
   have hz: (0:Int)<=((k+1:Nat):Int) - 1:=by omega
   go_wp2_with fail
   have hc:=Z4p H k (b - a) a dk _ hS (by omega) (by omega);rw[show (((b - a:Nat)):Int)=(b:Int) - (a:Int) by omega] at hc;refine hc.mono ?_;rintro e w1 ⟨rfl,hS1⟩;clear hc
   go_wp2_with fail
   go_roundg k
   case measure=>omega
   case rel=>exact ⟨k,_,rfl,by omega,Nat.le_refl _,hS1,(show Hid _ from by rw[<-HE.out]; exact rfl)⟩
  | zero=>
   have hD:heapBuild lt (b - a) a ((b - a - 1) / 2+1) d=dk:=HE.out.symm;have HD:Hid _:=hD;clear hD HE;go_wp2
   go_loopg [10] (b - a) (fun kx s10 wr=> ∃(k:Nat) (dj:Array α),s10= .int .i64 ((k:Int) - 1)/\k<=b - a/\k<=kx/\St dj wr/\Hid (heapPop lt a k dj=heapPop lt a (b - a) dk))
   case atStart=>exact ⟨b - a,dk,by congr 1; omega,Nat.le_refl _,Nat.le_refl _,hS,rfl⟩
   case round=>
    clear hS;obtain ⟨k,dj,rfl,hk2,hkx2,hS,HE⟩:=hrel;cases k with
    | succ k=>
     have hz: (0:Int)<=((k+1:Nat):Int) - 1:=by omega
     go_wp2_with fail
     refine (H.swapAt hS a (a+k) (by omega) (by omega) (by omega) (by omega)).mono ?_;rintro e w1 ⟨rfl,hS1, -⟩
     go_wp2_with fail
     have hc:=Z4p H 0 k a _ _ hS1 (by omega) (by omega);refine hc.mono ?_;rintro e w2 ⟨rfl,hS2⟩;clear hc
     go_wp2_with fail
     go_roundg k
     case measure=>omega
     case rel=>exact ⟨k,_,rfl,by omega,Nat.le_refl _,hS2,(show Hid _ from by rw[<-HE.out]; exact rfl)⟩
    | zero=>
     go_wp2
     go_end0
     exact ⟨rfl,by unfold heapSort; rw[HD.out, <-HE.out]; exact hS⟩
theorem Z9r (a b:Nat) (d:Array α) (w:World) (hH:St d w) (hab:a < b) (hb:b<=N):
 Calls Tryd.prog 79 #[.iface 92 rv,.int .i64 a,.int .i64 b] w fun e w'=>e= .returned (.tuple #[])/\ ∃d',PermIn a b d d'/\St d' w':=by
 have mL:=H.mL;have mS:=H.mS;have hbig:=H.big;have hsz:=H.size d w hH;go_enter Tryd.func79,Tryd.ntmps79;go_wp2
 go_loopg [6,7] (b - a) (fun k s6 s7 wr=> ∃(i j:Int) (dk:Array α),s6= .int .i64 i/\s7= .int .i64 j/\(a:Int)<=i/\i<=b/\(a:Int) - 1<=j/\j < b/\(j - i).toNat<=k/\St dk wr/\Hid (PermIn a b d dk))
 case atStart=>exact ⟨a,(b:Int) - 1,d,rfl,rfl,by omega,by omega,by omega,by omega,by omega,hH,permIn_refl _ _ _⟩
 case round=>
  obtain ⟨i,j,dk,rfl,rfl,h1,h2,h3,h4,hk,hS,HP⟩:=hrel;clear hH;by_cases hlt:i < j
  {have hsk:=H.size _ _ hS
   go_wp2_with fail
   refine (H.swapAt hS i.toNat j.toNat (by omega) (by omega) (by omega) (by omega)).mono ?_;rintro e w1 ⟨rfl,hS1, -⟩
   go_wp2_with fail
   go_roundg ((j - 1) - (i+1)).toNat
   case measure=>omega
   case rel=>exact ⟨i+1,j - 1,_,rfl,rfl,by omega,by omega,by omega,by omega,Nat.le_refl _,hS1,(show Hid _ from permIn_trans _ _ _ a b HP.out (swp_permIn _ _ _ _ _ (by omega) (by omega) (by omega) (by omega) (by omega)))⟩}
  {go_wp2
   go_end0
   exact ⟨rfl,dk,HP.out,hS⟩}
end
end
end Go.Proofs.YtchklpedlbkgaaaDoor
namespace Go.Proofs
open Go.Shelf
def Tryd.lays129_ren:Go.Shelf.Ren:=⟨fun | 129=>74 | n=>n,fun | 3=>3 | 4=>4 | 5=>5 | 9=>9 | 46=>106 | 53=>121 | n=>n,fun | n=>n⟩
theorem Tryd.lays129:Go.Proofs.Lays.n129 Tryd.prog Tryd.lays129_ren:= {
 mixed:=by kernel_rfl
 f129:=Tryd.func74.trans (congrArg some (by kernel_rfl))
 t3:=Tryd.underlying3
 a3:=Tryd.isAgg3
 z3:=Tryd.sizeOf3
 v3:=Tryd.zeroValue3
 t4:=Tryd.underlying4
 a4:=Tryd.isAgg4
 z4:=Tryd.sizeOf4
 v4:=Tryd.zeroValue4
 t5:=Tryd.underlying5
 a5:=Tryd.isAgg5
 z5:=Tryd.sizeOf5
 v5:=Tryd.zeroValue5
 t9:=Tryd.underlying9
 a9:=Tryd.isAgg9
 z9:=Tryd.sizeOf9
 v9:=Tryd.zeroValue9
 t46:=Tryd.underlying106
 a46:=Tryd.isAgg106
 z46:=Tryd.sizeOf106
 v46:=Tryd.zeroValue106
 t53:=Tryd.underlying121
 a53:=Tryd.isAgg121
 z53:=Tryd.sizeOf121
 v53:=Tryd.zeroValue121 }
section
open Go.RowKit
theorem Tryd.len64 (x:Int) (w:World) (h0:0<=x) (h1:x<=18446744073709551615):
 Calls Tryd.prog 74 #[.int .u64 x] w fun e w'=>e= .returned (.int .i64 (Lib.bitLen x.toNat))/\w'=w:=
 Any.bits_Len64 Tryd.lays129 x w h0 h1
end
end Go.Proofs
