/- What the proofs of ParseAround want, part 32. -/
import Derived.Test.YtkncdbaoaeeoiaaGreatDoorL0n31
set_option linter.unusedVariables false
set_option linter.unusedSimpArgs false
set_option linter.unusedSectionVars false
set_option maxRecDepth 100000
set_option maxHeartbeats 16000000
namespace Go.Proofs.YtkncdbaoaeeoiaaGreatDoor
section
open Go.RowKit Tms
structure Nd8 where
 g:Nat
 i:Nat
 t:Tm
 q:TP
def Zfv (pb:Nat) (ps:List Tm) (qs:Nat->TP):List Nd8:=ps.mapIdx fun i p=>⟨pb,i,p,qs i⟩
section
variable (pb : Nat) (ps : List Tm) (qs : Nat -> TP)
include pb ps qs
theorem Zgu: (Zfv pb ps qs).length=ps.length:=by simp[Zfv]
theorem ZgF (i:Nat) (h:i < (Zfv pb ps qs).length): (Zfv pb ps qs)[i]'h=⟨pb,i,ps[i]'(by rwa [Zgu] at h),qs i⟩:=by simp[Zfv]
end
theorem ZiQ {pb:Nat} {ps:List Tm} {qs:Nat->TP} {n:Nd8} (h:n∈Zfv pb ps qs):n.g=pb:=by
 obtain ⟨i,a,rfl⟩:=List.getElem_of_mem h;rw[ZgF]
theorem Zix (pb:Nat) (ps:List Tm) (qs:Nat->TP): (Zfv pb ps qs).Pairwise fun n m=>n.g=m.g->n.i≠m.i:=by
 refine List.pairwise_iff_getElem.2 (fun i j hi hj hij=> ?_);rw[ZgF,ZgF];intro _;show i≠j;omega
def sumT (L:List Nd8):Nat:=(L.map fun n=>size n.t).sum
theorem Zgv (L M:List Nd8):sumT (L++M)=sumT L+sumT M:=by simp[sumT]
theorem Zhx (pb:Nat) (ps:List Tm) (qs:Nat->TP):sumT (Zfv pb ps qs)=sizes ps:=by
 unfold sumT Zfv;have: ∀(l:List Tm) (f:Nat->Tm->Nd8),(∀i p,(f i p).t=p)->((l.mapIdx f).map fun n=>size n.t).sum=sizes l:=by
  intro l;induction l with
  | nil=>intro f _; rfl
  | cons p l ih=>
   intro f a;rw[List.mapIdx_cons];simp only[List.map_cons,List.sum_cons,a];rw[ih (fun i=>f (i+1)) (fun i p=>a (i+1) p)]; rfl
 exact this ps _ (fun _ _=>rfl)
theorem Zjc (L:List Nd8):L.length<=sumT L:=by
 induction L with
 | nil=>simp
 | cons n L ih=>have:=size_pos n.t; simp[sumT] at ih ⊢; omega
def nd8P (n:Nd8):Value:= .pointer (some ⟨n.g,n.i * 9,none⟩)
def Opn8 (W:World) (v:Value) (L:List Nd8):Prop:=W.ownsRow 0 50 1 v L.length (L.map nd8P)
theorem Opn8.below {W W':World} {v:Value} {L:List Nd8} (h:Opn8 W v L) (a:Below W.heap.size W W'):Opn8 W' v L:=
 World.ownsRow.kept h (Z2e a (Nat.le_refl _) none) (by
  rcases e:v.ownBlock with _ | x
  {exact Or.inl rfl}
  · exact Or.inr (by simp))
section
variable {W : World}
include W
theorem Opn8.set {v:Value} {L:List Nd8} (h:Opn8 W v L) {a:Addr} (b:v.ownBlock≠some a.block) (u:Value):Opn8 (W.setCell a u) v L:=ZhF h b u
theorem Opn8.pop {cap g:Nat} {L:List Nd8} {a:Nd8} (h:Opn8 W (.slice (some ⟨g,0,none⟩) (L.length+1) cap) (L++ [a])):Opn8 W (.slice (some ⟨g,0,none⟩) L.length cap) L:=by
 obtain ⟨j,d⟩:=h;refine ⟨by simp, ?_⟩;rcases d with ⟨d,_⟩ | ⟨e,b,cur,i,hB,hh,f,hc,hcs,c⟩
 {cases d}
 {right;obtain ⟨rfl,rfl⟩:g=e/\cap=b:=by
   injection i with h3 h4 h5;injection h3 with h3;injection h3 with h3;exact ⟨h3,h5⟩
  rw[List.length_append,List.length_singleton] at f c;refine ⟨g,cap,cur,rfl,hB,hh,by omega,hc,hcs, ?_⟩;have:=congrArg (List.take (L.length * 1)) c;rw[List.take_take,Nat.min_eq_left (by omega)] at this;rw[this,List.map_append,List.take_left' (by simp)]}
theorem Opn8.last {v:Value} {L:List Nd8} {a:Nd8} (h:Opn8 W v (L++ [a])): ∃g cap,v= .slice (some ⟨g,0,none⟩) (L.length+1) cap/\L.length+1<=cap/\W.cell? ⟨g,L.length,none⟩=some (nd8P a)/\g < W.heap.size:=by
 have b:W.ownsRow 0 50 1 v (L++ [a]).length ((L++ [a]).map nd8P):=h;obtain ⟨l,d⟩:=h;rcases d with ⟨d,i⟩ | ⟨g,cap,f,c,m,o,e,n,j,k⟩
 {rw[List.length_append,List.length_singleton] at i; omega}
 {rw[List.length_append,List.length_singleton] at c e;rw[c,List.length_append,List.length_singleton] at b;refine ⟨g,cap,c,e, ?_,(b.lt g rfl).2⟩;rw[b.cellAt L.length (by omega)];simp}
theorem Opn8.empty {v:Value} (h:Opn8 W v []): ∃A cp,v= .slice A 0 cp:=by
 rcases h.2 with ⟨rfl,_⟩ | ⟨g,cap,a,rfl,_⟩
 {exact ⟨none,0,rfl⟩}
 {exact ⟨some ⟨g,0,none⟩,cap,rfl⟩}
end
structure Rnd8 (w wr:World) (v vr:Value) (pb:Nat) (ps:List Tm) (qs:Nat->TP) (L:List Nd8) (i:Nat):Prop where
 opn:Opn8 wr vr (L++(Zfv pb ps qs).take i)
 row: ∀x,vr.ownBlock=some x->v.ownBlock=some x\/w.heap.size<=x
 ne:vr.ownBlock≠some pb
 up:UpL v w wr
 par:PaT wr pb ps qs
 pbl:pb < w.heap.size
theorem Rnd8.start {w:World} {v:Value} {pb:Nat} {ps:List Tm} {qs:Nat->TP} {L:List Nd8} (c:Opn8 w v L) (a:v.ownBlock≠some pb) (b:PaT w pb ps qs):Rnd8 w w v v pb ps qs L 0:=
 ⟨by rw[List.take_zero,List.append_nil]; exact c,fun _ h=>Or.inl h,a,UpL.refl _ _,b,b.lt⟩
theorem Rnd8.step {w c n:World} {v m:Value} {pb:Nat} {ps:List Tm} {qs:Nat->TP} {L:List Nd8} {i b cap:Nat} {o:Obj} (h:Rnd8 w c v m pb ps qs L i) (y:i < ps.length) (A:pb < w.heap.size)
 (f: (c.alloc o).grownBy n m.ownBlock)
 (z:n.ownsRow 0 50 1 (.slice (some ⟨b,0,none⟩) (L.length+i+1) cap) (L.length+i+1) ((L++(Zfv pb ps qs).take i).map nd8P++ [.pointer (some ⟨pb,i * 9,none⟩)]))
 (q:m.ownBlock=some b\/b=(c.alloc o).heap.size):Rnd8 w n v (.slice (some ⟨b,0,none⟩) (L.length+i+1) cap) pb ps qs L (i+1):=by
 have d: (c.alloc o).heap.size=c.heap.size+1:=by simp
 have B:=h.up.size;have g:b≠pb/\(v.ownBlock=some b\/w.heap.size<=b):=by
  rcases q with l | l
  {exact ⟨fun e=>h.ne (e▸l),h.row b l⟩}
  {have:=h.par.lt;rw[d] at l;exact ⟨by omega,Or.inr (by omega)⟩}
 have a: ∀k,k < c.heap.size->m.ownBlock≠some k->n.heap[k]? =c.heap[k]? :=fun k r hn=>(f.block k (by rw[d]; omega) (fun e=>hn e.symm)).trans (Below.heap_alloc _ _ _ r);have p:=f.size;rw[d] at p;have s: ((Zfv pb ps qs).take (i+1))=(Zfv pb ps qs).take i++ [⟨pb,i,ps[i]'y,qs i⟩]:=by
  rw[Shp.Z1v (by rw[Zgu]; exact y),ZgF]
 have j: (L++(Zfv pb ps qs).take (i+1)).length=L.length+i+1:=by rw[List.length_append,List.length_take,Zgu]; omega
 refine ⟨?_, ?_,fun e=>g.1 (Option.some.inj e),⟨f.os.trans h.up.os,f.tape.trans h.up.tape,f.output.trans h.up.output,by omega, ?_⟩, ?_,h.pbl⟩
 {unfold Opn8;rw[j,s, <-List.append_assoc,List.map_append];exact z}
 {intro x C;obtain rfl:b=x:=Option.some.inj C;exact g.2}
 {intro k r t;rw[a k (by omega) (fun e=>by
   rcases h.row k e with u | u
   {exact t u}
   · omega)]
  exact h.up.block k r t}
 {exact h.par.of ⟨fun k=>World.cell?_of_block (w:=c) (a pb h.par.lt h.ne),fun k=>World.frozen?_of_block (w:=c) (a pb h.par.lt h.ne)⟩ (by omega)}
structure NodeOk (W:World) (Ψ:Nat->Option (List Tm)) (N:List Nat) (q:TP) (t:Tm):Prop where
 sm:TSmall t q
 rest:Rest W N q t
 parts:t.parts.length=0\/ ∃pb,q.P=some ⟨pb,0,none⟩/\Ψ pb=some t.parts
structure Cst8 (w W:World) (r r1:Nat) (T:Tm) (v:Value) (L:List Nd8) (Ψ:Nat->Option (List Tm)) (N:List Nat):Prop where
 opn:Opn8 W v L
 blk: ∀b l,Ψ b=some l->w.heap.size<=b/\b < W.heap.size/\v.ownBlock≠some b/\b∉N/\b≠r1/\ ∀k,W.frozen? ⟨b,k,none⟩=false
 ok: ∀b l,Ψ b=some l-> ∀i (h:i < l.length),(∃n∈L,n.g=b/\n.i=i)\/ ∃q,Tm9 W b (i * 9) (l[i]'h) q/\NodeOk W Ψ N q (l[i]'h)
 nn: ∀b∈N,w.heap.size<=b/\b < W.heap.size/\v.ownBlock≠some b/\b≠r1
 nd: ∀n∈L,(∃l,Ψ n.g=some l/\l[n.i]? =some n.t)/\Tm9 W n.g (n.i * 9) n.t n.q/\TmAt W w.heap.size n.q n.t
 ap:L.Pairwise fun n m=>n.g=m.g->n.i≠m.i
 bel:Below w.heap.size w W
 res: (w.heap.size<=r1/\r1 < W.heap.size/\v.ownBlock≠some r1)/\(∀c,c < 9-> ∃u,W.cell? ⟨r1,c,none⟩=some u)/\ ∀k,W.frozen? ⟨r1,k,none⟩=false
 row: ∀g,v.ownBlock=some g->w.heap.size<=g
 rin:Ψ r=some [T]
theorem Cst8.step {w W W1 X j:World} {r r1 g cap:Nat} {T:Tm} {L:List Nd8} {a:Nd8} {Ψ:Nat->Option (List Tm)} {N N1:List Nat} {q1:TP} {P':Option Addr} {d' pb:Nat} {qs:Nat->TP} {v5:Value}
 (h:Cst8 w W r r1 T (.slice (some ⟨g,0,none⟩) (L.length+1) cap) (L++ [a]) Ψ N)
 (h9:Tm9 W1 a.g (a.i * 9) a.t q1) (e6:TSmall a.t q1) (a7:Rest W1 N1 q1 a.t) (Q: ∀b∈N1,W.heap.size<=b/\b < W1.heap.size) (O:UpN a.g (a.i * 9) W W1)
 (F:Below W1.heap.size W1 X) (hd1:a.t.parts.length<=d') (d8:P'=none->d'=0)
 (hp:a.t.parts.length=0/\j=X.setCell ⟨a.g,a.i * 9+7,none⟩ (.slice P' a.t.parts.length d')/\v5= .slice (some ⟨g,0,none⟩) L.length cap\/
  P'=some ⟨pb,0,none⟩/\0 < a.t.parts.length/\W1.heap.size<=pb/\(∀i (hi:i < a.t.parts.length),TmAt W w.heap.size (qs i) (a.t.parts[i]'hi))/\Rnd8 (X.setCell ⟨a.g,a.i * 9+7,none⟩ (.slice P' a.t.parts.length d')) j (.slice (some ⟨g,0,none⟩) L.length cap) v5 pb a.t.parts qs L a.t.parts.length):
 ∃Ψ5 N5,Cst8 w j r r1 T v5 (L++Zfv pb a.t.parts qs) Ψ5 N5:=by
 obtain ⟨⟨la,b9,a0⟩,h6,h4⟩:=h.nd a (by simp);obtain ⟨a1,g1,c0,d9,b7,h5⟩:=h.blk a.g la b9;have h7:g < W.heap.size:=(World.ownsRow.lt h.opn g rfl).2;have h8:w.heap.size<=g:=h.row g rfl;have S:a.g≠g:=fun e=>c0 (by rw[e]; rfl);obtain ⟨G,B⟩: ∃G,G=X.setCell ⟨a.g,a.i * 9+7,none⟩ (.slice P' a.t.parts.length d'):=⟨_,rfl⟩;rw[<-B] at hp;have z1:W.heap.size<=W1.heap.size:=O.size;have z2:W1.heap.size<=X.heap.size:=F.size;have z3:G.heap.size=X.heap.size:=by rw[B,Zgq]
 have z5:G.heap.size<=j.heap.size:=by
  rcases hp with ⟨_,rfl,_⟩ | ⟨_,_,_,_,A⟩
  {exact Nat.le_refl _}
  {exact A.up.size}
 have a9: ∀b,b < G.heap.size->b≠g->Z7N G j b:=fun b z f=>by
  rcases hp with ⟨_,rfl,_⟩ | ⟨_,_,_,_,A⟩
  {exact ⟨fun _=>rfl,fun _=>rfl⟩}
  {exact A.up.same z (fun e=>f (Option.some.inj e).symm)}
 have J: ∀b,b < W1.heap.size->b≠g-> ∀k,¬(a.g=b/\k=a.i * 9+7)->j.cell? ⟨b,k,none⟩=W1.cell? ⟨b,k,none⟩:=fun b z f k v=>by
  have E:G.cell? ⟨b,k,none⟩=X.cell? ⟨b,k,none⟩:=by
   rw[B];exact World.cell?_setCell_other _ _ _ _ (fun e=>v ⟨congrArg Addr.block e,(congrArg Addr.off e).symm⟩)
  rw[(a9 b (by omega) f).1 k,E];exact F.cell (p:=⟨b,k,none⟩) z
 have Z: ∀b,b < W1.heap.size->b≠g-> ∀k,j.frozen? ⟨b,k,none⟩=W1.frozen? ⟨b,k,none⟩:=fun b z f k=>by
  rw[(a9 b (by omega) f).2 k,B,World.frozen?_setCell];exact F.frozen (p:=⟨b,k,none⟩) z
 have a4: ∀b,b < W.heap.size->b≠g-> ∀k,¬(a.g=b/\(k=a.i * 9+4\/k=a.i * 9+5\/k=a.i * 9+6\/k=a.i * 9+7))->j.cell? ⟨b,k,none⟩=W.cell? ⟨b,k,none⟩:=fun b z f k v=>by
  rw[J b (by omega) f k (fun e=>v ⟨e.1,by omega⟩)];by_cases e:a.g=b
  {subst e;exact O.cells k (fun e=>v ⟨rfl,by omega⟩) (fun e=>v ⟨rfl,by omega⟩) (fun e=>v ⟨rfl,by omega⟩)}
  {exact (O.same z (Ne.symm e)).1 k}
 have a5: ∀b,b < W.heap.size->b≠g-> ∀k,j.frozen? ⟨b,k,none⟩=W.frozen? ⟨b,k,none⟩:=fun b z f k=>by
  rw[Z b (by omega) f k];by_cases e:a.g=b
  {subst e; exact O.fz k}
  {exact (O.same z (Ne.symm e)).2 k}
 have Y:Below w.heap.size w j:=by
  have b1:Below w.heap.size w W1:=h.bel.trans (O.toBelow a1 h.bel.size);have b2:Below w.heap.size w X:=b1.trans (F.mono b1.size);have b3:Below w.heap.size w G:=by rw[B]; exact b2.setCell a1 _
  rcases hp with ⟨_,rfl,_⟩ | ⟨_,_,_,_,A⟩
  {exact b3}
  {exact b3.trans ⟨A.up.os,A.up.tape,A.up.output,A.up.size,fun k v=>A.up.block k (by have:=b3.size; omega) (fun e=>by have:g=k:=Option.some.inj e; omega)⟩}
 -- the place itself
 obtain ⟨q5,U⟩: ∃q5:TP,q5=⟨q1.A,q1.c,q1.V,q1.e,q1.S,q1.s,P',d'⟩:=⟨_,rfl⟩;have h95:Tm9 j a.g (a.i * 9) a.t q5:=by
  obtain ⟨y0,y1,y2,y3,y4,y5,y6,y7,y8⟩:=h9;have o: ∀k,k≠a.i * 9+7->j.cell? ⟨a.g,k,none⟩=W1.cell? ⟨a.g,k,none⟩:=fun k v=>J a.g (by omega) S k (fun e=>v e.2);have e7:j.cell? ⟨a.g,a.i * 9+7,none⟩=some (.slice P' a.t.parts.length d'):=by
   rw[(a9 a.g (by omega) S).1,B];exact World.cell?_setCell_same _ _ _ ((F.cell (p:=⟨a.g,a.i * 9+7,none⟩) (by show a.g < W1.heap.size; omega)).trans y7)
  rw[U];exact ⟨(o _ (by omega)).trans y0,(o _ (by omega)).trans y1,(o _ (by omega)).trans y2,(o _ (by omega)).trans y3,(o _ (by omega)).trans y4,(o _ (by omega)).trans y5,(o _ (by omega)).trans y6,e7,(o _ (by omega)).trans y8⟩
 have d0:TSmall a.t q5:=by
  obtain ⟨i1,i2,i3,i4,i5,i6,i7,i8,i9,e9,f0,j6,f1,f2,f3,j7,f4,f5,f6⟩:=e6;rw[U];exact ⟨i1,i2,i3,i4,i5,i6,i7,i8,i9,e9,f0,hd1,f1,f2,f3,d8,f4,f5,f6⟩
 have e5: ∀b∈N,Z7N W j b:=fun b d=>by
  obtain ⟨_,n2,n3,_⟩:=h.nn b d;have n4:b≠g:=fun e=>n3 (by rw[e]; rfl);have n5:a.g≠b:=fun e=>d9 (by rw[e]; exact d);exact ⟨fun k=>a4 b n2 n4 k (fun e=>n5 e.1),fun k=>a5 b n2 n4 k⟩
 have V:Rest j (N++N1) q5 a.t:=by
  have z:Rest W1 N1 q5 a.t:=by rw[U]; exact a7
  exact z.of (fun b d=>by
   obtain ⟨m1,m2⟩:=Q b d;exact ⟨fun k=>J b m2 (by omega) k (fun e=>by omega),fun k=>Z b m2 (by omega) k⟩) (by omega) (fun b d=>by simp[d])
 -- the row of what is open
 have d6:Opn8 G (.slice (some ⟨g,0,none⟩) L.length cap) L:=by
  have o1:Opn8 W1 (.slice (some ⟨g,0,none⟩) L.length cap) L:=
   World.ownsRow.kept (row:=some a.g) h.opn.pop ⟨O.os,O.tape,O.output,O.size,fun k v y=>O.block k v (fun e=>y (by rw[e]))⟩ (Or.inr (fun e=>S (Option.some.inj e).symm))
  rw[B]; exact (o1.below F).set (fun e=>S (Option.some.inj e).symm) _
 obtain ⟨d7,a8⟩:Opn8 j v5 (L++Zfv pb a.t.parts qs)/\ ∀x,v5.ownBlock=some x->x=g\/G.heap.size<=x/\(0 < a.t.parts.length->x≠pb):=by
  rcases hp with ⟨P,rfl,rfl⟩ | ⟨_,_,h2,_,A⟩
  {have v:Zfv pb a.t.parts qs= []:=List.eq_nil_of_length_eq_zero (by rw[Zgu]; exact P);refine ⟨?_,fun x o=>Or.inl (Option.some.inj (show some g=some x from o)).symm⟩;rw[v,List.append_nil];exact d6}
  {have ho:=A.opn;rw[List.take_of_length_le (by rw[Zgu]; exact Nat.le_refl _)] at ho;refine ⟨ho,fun x o=> ?_⟩;rcases A.row x o with f | f
   {exact Or.inl (Option.some.inj f).symm}
   {refine Or.inr ⟨f,fun _ e=>A.ne ?_⟩;rw[o,e]}}
 have M:0 < a.t.parts.length->P'=some ⟨pb,0,none⟩/\W1.heap.size<=pb/\pb < G.heap.size/\(∀i (hi:i < a.t.parts.length),TmAt W w.heap.size (qs i) (a.t.parts[i]'hi))/\PaT j pb a.t.parts qs:=fun D=>by
  rcases hp with ⟨P,_⟩ | ⟨e1,_,E,e3,A⟩
  {omega}
  {exact ⟨e1,E,A.pbl,e3,A.par⟩}
 have s: ∀b,b≠g->b < G.heap.size->v5.ownBlock≠some b:=fun b z h2 e=>by
  rcases a8 b e with f | ⟨f,_⟩
  {exact z f}
  {omega}
 have b6:=List.pairwise_append.1 h.ap;obtain ⟨Ψ5,hΨ⟩: ∃Ψ5:Nat->Option (List Tm),Ψ5=fun b=>if b=pb/\0 < a.t.parts.length then some a.t.parts else Ψ b:=⟨_,rfl⟩;have K: ∀b l,Ψ b=some l->Ψ5 b=some l:=fun b l d=>by
  have i0:=(h.blk b l d).2.1;rw[hΨ];show (if b=pb/\0 < a.t.parts.length then some a.t.parts else Ψ b)=some l;rw[if_neg (fun e=>by have:=(M e.2).2.1; omega)];exact d
 have I: ∀b l,Ψ5 b=some l->(b=pb/\0 < a.t.parts.length/\l=a.t.parts)\/Ψ b=some l:=fun b l d=>by
  rw[hΨ] at d;by_cases e:b=pb/\0 < a.t.parts.length
  {have H: (if b=pb/\0 < a.t.parts.length then some a.t.parts else Ψ b)=some l:=d;rw[if_pos e] at H;exact Or.inl ⟨e.1,e.2,(Option.some.inj H).symm⟩}
  {have H: (if b=pb/\0 < a.t.parts.length then some a.t.parts else Ψ b)=some l:=d;rw[if_neg e] at H;exact Or.inr H}
 have c8:NodeOk j Ψ5 (N++N1) q5 a.t:=by
  refine ⟨d0,V, ?_⟩;rcases Nat.eq_zero_or_pos a.t.parts.length with P | P
  {exact Or.inl P}
  {refine Or.inr ⟨pb,by rw[U]; exact (M P).1, ?_⟩;rw[hΨ];exact if_pos ⟨rfl,P⟩}
 have c9: ∀q t,NodeOk W Ψ N q t->NodeOk j Ψ5 (N++N1) q t:=fun q t v=>
  ⟨v.sm,v.rest.of e5 (by omega) (fun b d=>by simp[d]),by
   rcases v.parts with P | ⟨f9,e1,E⟩
   {exact Or.inl P}
   · exact Or.inr ⟨f9,e1,K _ _ E⟩⟩
 have b8: ∀ {q:TP} {t:Tm},TmAt W w.heap.size q t->TmAt j w.heap.size q t:=fun o=>o.of (Nat.le_refl _) (fun x k o=>(Y.cell (p:=⟨x,k,none⟩) o).trans (h.bel.cell (p:=⟨x,k,none⟩) o).symm);have j2:=h.bel.size;have d1: ∀b t q i,b < W.heap.size->b≠g-> ¬(b=a.g/\i=a.i)->Tm9 W b (i * 9) t q->Tm9 j b (i * 9) t q:=fun b t q i z h2 f o=>by
  have e: ∀c,c < 9->j.cell? ⟨b,i * 9+c,none⟩=W.cell? ⟨b,i * 9+c,none⟩:=fun c hc=>a4 b z h2 _ (fun ⟨e1,E⟩=>f ⟨e1.symm,by omega⟩);exact Zhu (fun c hc=>(e c hc).trans (Zht o hc))
 refine ⟨Ψ5,N++N1,d7, ?_, ?_, ?_, ?_, ?_,Y, ?_, ?_,K _ _ h.rin⟩
 {intro b l d;rcases I b l d with ⟨rfl,D,rfl⟩ | d
  {obtain ⟨_,p2,p3,_,p5⟩:=M D;have:=h.res.1.2.1;refine ⟨by omega,by omega,fun e=> ?_,fun C=> ?_,by omega,p5.fz⟩
   {rcases a8 b e with f | ⟨_,f⟩
    {omega}
    {exact f D rfl}}
   {rcases List.mem_append.1 C with C | C
    {have:=(h.nn b C).2.1; omega}
    {have:=(Q b C).2; omega}}}
  {obtain ⟨p1,p2,p3,p4,p5,p6⟩:=h.blk b l d;have p7:b≠g:=fun e=>p3 (by rw[e]; rfl);refine ⟨p1,by omega,s b p7 (by omega),fun C=> ?_,p5,fun k=>(a5 b p2 p7 k).trans (p6 k)⟩;rcases List.mem_append.1 C with C | C
   {exact p4 C}
   {have:=(Q b C).1; omega}}}
 {intro b l d i hi;rcases I b l d with ⟨rfl,D,rfl⟩ | d
  {refine Or.inl ⟨(Zfv b a.t.parts qs)[i]'(by rw[Zgu]; exact hi),by simp, ?_⟩;rw[ZgF]; exact ⟨rfl,rfl⟩}
  {obtain ⟨p1,p2,p3,p4,p5,p6⟩:=h.blk b l d;have p7:b≠g:=fun e=>p3 (by rw[e]; rfl);by_cases e:b=a.g/\i=a.i
   {obtain ⟨rfl,rfl⟩:=e;rw[b9] at d;obtain rfl:=Option.some.inj d;have:la[a.i]'hi=a.t:=by
     rw[List.getElem?_eq_getElem hi] at a0;exact Option.some.inj a0
    rw[this];exact Or.inr ⟨q5,h95,c8⟩}
   {rcases h.ok b l d i hi with ⟨n,y,e1,E⟩ | ⟨q,e1,E⟩
    {rcases List.mem_append.1 y with y | y
     {exact Or.inl ⟨n,by simp[y],e1,E⟩}
     {rw[List.mem_singleton] at y;subst y;exact absurd ⟨e1.symm,E.symm⟩ e}}
    {exact Or.inr ⟨q,d1 b _ _ i p2 p7 e e1,c9 _ _ E⟩}}}}
 {intro b d;rcases List.mem_append.1 d with d | d
  {obtain ⟨n1,n2,n3,n4⟩:=h.nn b d;exact ⟨n1,by omega,s b (fun e=>n3 (by rw[e]; rfl)) (by omega),n4⟩}
  {obtain ⟨n1,n2⟩:=Q b d;have:=h.res.1.2.1;exact ⟨by omega,by omega,s b (by omega) (by omega),by omega⟩}}
 {intro n y;rcases List.mem_append.1 y with y | y
  {obtain ⟨⟨l,e1,E⟩,e3,e4⟩:=h.nd n (by simp[y]);obtain ⟨p1,p2,p3,p4,p5,p6⟩:=h.blk n.g l e1;have e0:=b6.2.2 n y a (by simp);exact ⟨⟨l,K _ _ e1,E⟩,d1 n.g _ _ n.i p2 (fun e=>p3 (by rw[e]; rfl)) (fun e=>e0 e.1 e.2) e3,b8 e4⟩}
  {obtain ⟨i,hi,rfl⟩:=List.getElem_of_mem y;have a6:i < a.t.parts.length:=by rwa [Zgu] at hi
   rw[ZgF];obtain ⟨_,p2,p3,p4,p5⟩:=M (by omega);refine ⟨⟨a.t.parts, ?_,List.getElem?_eq_getElem a6⟩,p5.at_ i a6,b8 (p4 i a6)⟩;rw[hΨ];exact if_pos ⟨rfl,by omega⟩}}
 {refine List.pairwise_append.2 ⟨b6.1,Zix _ _ _,fun n y m C e=> ?_⟩;obtain ⟨⟨l,e1,_⟩,_⟩:=h.nd n (by simp[y]);have z:=(h.blk n.g l e1).2.1;have h2:=ZiQ C;obtain ⟨i,hi,_⟩:=List.getElem_of_mem C;rw[Zgu] at hi;have:=(M (by omega)).2.1;omega}
 {obtain ⟨⟨j0,j1,j4⟩,h2,f⟩:=h.res;have j3:r1≠g:=fun e=>j4 (by rw[e]; rfl);refine ⟨⟨j0,by omega,s r1 j3 (by omega)⟩,fun c hc=> ?_,fun k=>(a5 r1 j1 j3 k).trans (f k)⟩;obtain ⟨u,e8⟩:=h2 c hc;exact ⟨u,(a4 r1 j1 j3 c (fun ⟨e,_⟩=>b7 e)).trans e8⟩}
 {intro x o;rcases a8 x o with f | ⟨f,_⟩
  {omega}
  {omega}}
end
section
open Go.RowKit Tms
open Shp (Sh)
theorem ZiR {t:Tm} (e:fits t=true):t.vars.length<=t.names.length/\t.shapes.length<=t.names.length+1:=by
 have h:fitsK t=true:=by unfold fits at e; simp only[Bool.and_eq_true] at e; exact e.2
 unfold fitsK at h;by_cases f:t.kind=1
 {rw[if_pos f] at h; simp only[Bool.and_eq_true,Z18] at h; omega}
 rw[if_neg f] at h;by_cases g:t.kind=2
 {rw[if_pos g] at h; simp only[Bool.and_eq_true,Z18] at h; omega}
 rw[if_neg g] at h;by_cases i:t.kind=3\/t.kind=4
 {rw[if_pos i] at h; simp only[Bool.and_eq_true,Z18] at h; omega}
 rw[if_neg i] at h;by_cases j:t.kind=5
 {rw[if_pos j] at h; simp only[Bool.and_eq_true,Z18] at h; omega}
 rw[if_neg j] at h;by_cases k:t.kind=6
 {rw[if_pos k] at h; simp only[Bool.and_eq_true,Z18] at h; omega}
 rw[if_neg k] at h;by_cases l:t.kind=7
 {rw[if_pos l] at h; simp only[Bool.and_eq_true,Z18] at h; omega}
 rw[if_neg l] at h;by_cases m:t.kind=8
 {rw[if_pos m] at h; simp only[Bool.and_eq_true,Z18] at h; omega}
 rw[if_neg m] at h;by_cases n:t.kind=9\/t.kind=10
 {rw[if_pos n] at h; simp only[Bool.and_eq_true,Z18] at h; omega}
 rw[if_neg n] at h;by_cases o:t.kind=11
 {rw[if_pos o] at h; simp only[Bool.and_eq_true,Z18] at h; omega}
 rw[if_neg o] at h;by_cases p:t.kind=12
 {rw[if_pos p] at h; simp only[Bool.and_eq_true,Z18] at h; omega}
 rw[if_neg p] at h;by_cases a:t.kind=13
 {rw[if_pos a] at h; simp only[Bool.and_eq_true,Z18] at h; omega}
 rw[if_neg a] at h;by_cases b:t.kind=14
 {rw[if_pos b] at h; simp only[Bool.and_eq_true,Z18] at h; omega}
 rw[if_neg b] at h;by_cases c:t.kind=15
 {rw[if_pos c] at h; simp only[Bool.and_eq_true,Z18] at h; omega}
 rw[if_neg c] at h;by_cases d:t.kind=16\/t.kind=17
 {rw[if_pos d] at h; simp only[Bool.and_eq_true,Z18] at h; omega}
 rw[if_neg d] at h;cases h
theorem ZiS: (Tryz.prog.info? 50).map (fun i=>(i.zero,i.size,i.bytes))=some (some (.pointer none),1,8):=by kernel_rfl
theorem ZiT {t:Tm} (a:right t=true) (b:slim t=true):t.names.length<=1000000000/\t.vars.length<=1000000000/\t.shapes.length<=1000000000:=by
 have c:=ZiR (right_fits a);have d:=ZhB b;omega
structure Typed (base:Nat) (W:World) (Ψ:Nat->Option (List Tm)) (N:List Nat):Prop where
 blk: ∀b l,Ψ b=some l->base<=b/\b < W.heap.size/\b∉N/\ ∀k,W.frozen? ⟨b,k,none⟩=false
 ok: ∀b l,Ψ b=some l-> ∀i (h:i < l.length),∃q,Tm9 W b (i * 9) (l[i]'h) q/\NodeOk W Ψ N q (l[i]'h)
 nn: ∀b∈N,base<=b/\b < W.heap.size
theorem NodeOk.of {W W':World} {Ψ:Nat->Option (List Tm)} {N:List Nat} {q:TP} {t:Tm} (h:NodeOk W Ψ N q t) (a: ∀b∈N,Z7N W W' b) (c:W.heap.size<=W'.heap.size):NodeOk W' Ψ N q t:=
 ⟨h.sm,h.rest.of a c (fun _ h=>h),h.parts⟩
theorem Typed.of {base:Nat} {W W':World} {Ψ:Nat->Option (List Tm)} {N:List Nat} (h:Typed base W Ψ N) (d: ∀b l,Ψ b=some l->Z7N W W' b) (g: ∀b∈N,Z7N W W' b) (j:W.heap.size<=W'.heap.size):Typed base W' Ψ N:=
 ⟨fun b l hb=>by
  obtain ⟨a,c,e,f⟩:=h.blk b l hb;exact ⟨a,by omega,e,fun k=>((d b l hb).2 k).trans (f k)⟩,
 fun b l hb i hi=>by
  obtain ⟨q,a,c⟩:=h.ok b l hb i hi;exact ⟨q,a.of (d b l hb).1,c.of g j⟩,
 fun b hb=>by
  obtain ⟨a,c⟩:=h.nn b hb;exact ⟨a,by omega⟩⟩
theorem Cst8.typed {w W:World} {r g:Nat} {T:Tm} {v:Value} {Ψ:Nat->Option (List Tm)} {N:List Nat} (h:Cst8 w W r g T v [] Ψ N):Typed w.heap.size W Ψ N:=
 ⟨fun b l hb=>by
  obtain ⟨a,c,_,d,_,e⟩:=h.blk b l hb;exact ⟨a,c,d,e⟩,
 fun b l hb i hi=>by
  rcases h.ok b l hb i hi with ⟨n,f,_⟩ | h
  {cases f}
  · exact h,
 fun b hb=>⟨(h.nn b hb).1,(h.nn b hb).2.1⟩⟩
def cT8 (w:World) (t:Tm) (q:TP):World:=
 ((w.alloc (.cells (Y7 t q) 26)).alloc (.cells Ya 26)).alloc (.cells #[.func (.func 25) #[] #[],.int .i64 0] 90)
section
variable (w : World) (t : Tm) (q : TP)
include w t q
theorem ZhK:Below w.heap.size w (cT8 w t q):=Z03 (Z03 (Z01 _ _) _) _
theorem ZjE:CntH (cT8 w t q) (w.heap.size+1+1) 0 (.func (.func 25) #[] #[]):=by
 unfold cT8;exact ⟨by simp,by simp[go_sem],by simp[go_sem],by simp[go_sem]⟩
theorem ZhL:Tm9 (cT8 w t q) w.heap.size 0 t q/\ ∀k,(cT8 w t q).frozen? ⟨w.heap.size,k,none⟩=false:=by
 unfold cT8;refine ⟨⟨?_, ?_, ?_, ?_, ?_, ?_, ?_, ?_, ?_⟩,fun k=> ?_⟩ <;> simp[go_sem]
theorem ZiU: (∀c,c < 9-> ∃u,(cT8 w t q).cell? ⟨w.heap.size+1,c,none⟩=some u)/\ ∀k,(cT8 w t q).frozen? ⟨w.heap.size+1,k,none⟩=false:=by
 unfold cT8;refine ⟨fun c hc=> ?_,fun k=>by simp[go_sem]⟩
 match c,hc with
 | 0,_=>exact ⟨_,by simp[go_sem]; rfl⟩
 | 1,_=>exact ⟨_,by simp[go_sem]; rfl⟩
 | 2,_=>exact ⟨_,by simp[go_sem]; rfl⟩
 | 3,_=>exact ⟨_,by simp[go_sem]; rfl⟩
 | 4,_=>exact ⟨_,by simp[go_sem]; rfl⟩
 | 5,_=>exact ⟨_,by simp[go_sem]; rfl⟩
 | 6,_=>exact ⟨_,by simp[go_sem]; rfl⟩
 | 7,_=>exact ⟨_,by simp[go_sem]; rfl⟩
 | 8,_=>exact ⟨_,by simp[go_sem]; rfl⟩
end
theorem ZjI (w W1:World) (t:Tm) (q:TP) (B:TmAt w w.heap.size q t) (m:UpH (w.heap.size+1+1) (cT8 w t q) W1):
 Cst8 w (W1.alloc (.cells #[.pointer (some ⟨w.heap.size,0,none⟩)] 50)) w.heap.size (w.heap.size+1) t (.slice (some ⟨W1.heap.size,0,none⟩) 1 1) [⟨w.heap.size,0,t,q⟩] (fun b=>if b=w.heap.size then some [t] else none) []:=by
 have o: (cT8 w t q).heap.size=w.heap.size+3:=by simp[cT8]
 have C:W1.heap.size=w.heap.size+3:=m.size.trans o;have hb0:=Z01 W1 (.cells #[.pointer (some ⟨w.heap.size,0,none⟩)] 50);have y:Below w.heap.size w W1:=(ZhK w t q).trans (m.toBelow (by omega));have f:Below w.heap.size w (W1.alloc (.cells #[.pointer (some ⟨w.heap.size,0,none⟩)] 50)):=Z00 y hb0;have D: (W1.alloc (.cells #[.pointer (some ⟨w.heap.size,0,none⟩)] 50)).heap.size=w.heap.size+4:=by simp; omega
 have a: ∀g k,g < w.heap.size+2->(W1.alloc (.cells #[.pointer (some ⟨w.heap.size,0,none⟩)] 50)).cell? ⟨g,k,none⟩=(cT8 w t q).cell? ⟨g,k,none⟩:=fun g k hg=>(hb0.cell (p:=⟨g,k,none⟩) (by show g < W1.heap.size; omega)).trans (m.cell (by omega));have j: ∀g k,g < w.heap.size+2->(W1.alloc (.cells #[.pointer (some ⟨w.heap.size,0,none⟩)] 50)).frozen? ⟨g,k,none⟩=(cT8 w t q).frozen? ⟨g,k,none⟩:=fun g k hg=>(hb0.frozen (p:=⟨g,k,none⟩) (by show g < W1.heap.size; omega)).trans (m.frozen (by omega));refine ⟨?_, ?_, ?_,nofun, ?_,by simp,f,⟨⟨by omega,by omega,fun e=> ?_⟩, ?_, ?_⟩, ?_,if_pos rfl⟩
 {refine ⟨by simp,Or.inr ⟨W1.heap.size,1, #[.pointer (some ⟨w.heap.size,0,none⟩)],rfl,Nat.zero_le _,heap_alloc_new _ _,Nat.le_refl _,by decide,rfl,rfl⟩⟩}
 {intro b l d;have e:b=w.heap.size:=Classical.byContradiction (fun e=>by
   have h: (if b=w.heap.size then some [t] else none)=some l:=d;rw[if_neg e] at h; cases h)
  subst e;exact ⟨by omega,by omega,fun e=>by have:W1.heap.size=w.heap.size:=Option.some.inj e; omega,nofun,by omega,fun k=>(j _ k (by omega)).trans ((ZhL w t q).2 k)⟩}
 {intro b l d i A;have e:b=w.heap.size:=Classical.byContradiction (fun e=>by
   have h: (if b=w.heap.size then some [t] else none)=some l:=d;rw[if_neg e] at h; cases h)
  subst e;have h: (if w.heap.size=w.heap.size then some [t] else none)=some l:=d;rw[if_pos rfl] at h;obtain rfl:=Option.some.inj h;refine Or.inl ⟨_,List.mem_singleton.2 rfl,rfl, ?_⟩;have:i < 1:=A;show 0=i;omega}
 {intro n s;simp only[List.mem_cons,List.not_mem_nil,or_false] at s;subst s;refine ⟨⟨[t],if_pos rfl,rfl⟩, ?_,B.keep f (Nat.le_refl _)⟩;have v:=(ZhL w t q).1;simp only[Nat.zero_mul];exact v.of (fun k=>a _ k (by omega))}
 {have:W1.heap.size=w.heap.size+1:=Option.some.inj e;omega}
 {intro c z;obtain ⟨u,r⟩:=(ZiU w t q).1 c z;exact ⟨u,(a _ c (by omega)).trans r⟩}
 {exact fun k=>(j _ k (by omega)).trans ((ZiU w t q).2 k)}
 {intro g e;have:W1.heap.size=g:=Option.some.inj e;omega}
theorem ZhM (t:Tm) (q:TP) (w:World) (hq:TmAt w w.heap.size q t) (hz:size t<=4096) (hr:right t=true) (ht:slim t=true):
 Calls Tryz.prog 26 #[.agg (Y7 t q),.func (.func 25) #[] #[],.func (.func 27) #[] #[]] w fun e w'=> ∃q' Ψ N,e= .returned (.agg (Y7 t q'))/\Typed w.heap.size w' Ψ N/\NodeOk w' Ψ N q' t/\Below w.heap.size w w':=by
 have i5:=deep_size t;have d3:=ZhL w t q;have hm:=ZhX t q w.heap.size 0 w.heap.size (w.heap.size+1+1) 0 1 (cT8 w t q) d3.1 (by omega) (hq.keep (ZhK w t q) (Nat.le_refl _)) (by omega) (ZjE w t q) (by omega) (by omega);rw[show (((1:Nat)):Int)=(1:Int) from rfl] at hm;have HM:=Y1 hm;have I:=Y1 (fun W1 (hu:UpH (w.heap.size+1+1) (cT8 w t q) W1)=>ZjI w W1 t q hq hu);have L1:=fun (g o:Nat) (W:World)=>ZgX g o W;clear hq hm d3 i5;go_enter Tryz.func26,Tryz.ntmps26
 go_wp2_with fail
 change Calls _ _ _ (cT8 w t q) _;refine HM.out.mono ?_;rintro e W1 ⟨rfl,d,_⟩;have b6:=Y1 (I.out W1 d);clear HM I d
 go_wp2_with fail
 go_loopg [9] (size t) (fun k s9 wr=> ∃L Ψ N,sumT L<=k/\sumT L<=4096/\(∀n∈L,right n.t=true/\slim n.t=true)/\Hid (Cst8 w wr w.heap.size (w.heap.size+1) t s9 L Ψ N))
 case atStart=>exact ⟨_,_,_,by simp[sumT],by simp[sumT]; omega,fun n D=>by simp only[List.mem_cons,List.not_mem_nil,or_false] at D; subst D; exact ⟨hr,ht⟩,b6⟩
 case round=>
  obtain ⟨L,Ψ,N,hk,f,Q,y⟩:=hrel;clear b6;rcases List.eq_nil_or_concat L with rfl | ⟨r,a,rfl⟩
  {obtain ⟨q',hS,hN⟩: ∃q',Tm9 wr w.heap.size 0 t q'/\NodeOk wr Ψ N q' t:=by
    rcases y.out.ok _ _ y.out.rin 0 (by simp) with ⟨n,D,_⟩ | ⟨q',h1,h2⟩
    {cases D}
    {exact ⟨q',by simpa using h1,by simpa using h2⟩}
   obtain ⟨A,cp,rfl⟩:=y.out.opn.empty;obtain ⟨p0,p1,p2,p3,p4,p5,p6,p7,p8⟩:=hS;simp only[Nat.zero_mul,Nat.zero_add] at p0 p1 p2 p3 p4 p5 p6 p7 p8;obtain ⟨_,j,m⟩:=y.out.res;obtain ⟨e0,r0⟩:=j 0 (by omega);obtain ⟨e1,r1⟩:=j 1 (by omega);obtain ⟨e2,r2⟩:=j 2 (by omega);obtain ⟨e3,r3⟩:=j 3 (by omega);obtain ⟨e4,r4⟩:=j 4 (by omega);obtain ⟨e5,r5⟩:=j 5 (by omega);obtain ⟨e6,r6⟩:=j 6 (by omega);obtain ⟨e7,r7⟩:=j 7 (by omega);obtain ⟨e8,r8⟩:=j 8 (by omega);have z0:=m 0;have z1:=m 1;have z2:=m 2;have z3:=m 3;have z4:=m 4;have z5:=m 5;have z6:=m 6;have z7:=m 7;have z8:=m 8;have HN:=Y1 hN;have h8:=Y1 (y.out.typed);have b2:=Y1 (fun b (hb:b∈N) (e:w.heap.size+1=b)=>(y.out.nn b hb).2.2.2 e.symm);have g8:=Y1 (fun b l (hb:Ψ b=some l) (e:w.heap.size+1=b)=>(y.out.blk b l hb).2.2.2.2.1 e.symm);have g7:=Y1 y.out.bel;clear hN Q j m;go_wp2;refine bodyPost_ret (v:= .agg (Y7 t q')) (by simp[results,Tryz.results26,go_sem,r0,r1,r2,r3,r4,r5,r6,r7,r8]) rfl ?_;exact ⟨q',Ψ,N,rfl,h8.out.of (fun b l hb=>by have c:=g8.out b l hb; exact (((((((((Zfr _ ⟨w.heap.size+1,0,none⟩ _ c).trans (Zfr _ ⟨w.heap.size+1,1,none⟩ _ c)).trans (Zfr _ ⟨w.heap.size+1,2,none⟩ _ c)).trans (Zfr _ ⟨w.heap.size+1,3,none⟩ _ c)).trans (Zfr _ ⟨w.heap.size+1,4,none⟩ _ c)).trans (Zfr _ ⟨w.heap.size+1,5,none⟩ _ c)).trans (Zfr _ ⟨w.heap.size+1,6,none⟩ _ c)).trans (Zfr _ ⟨w.heap.size+1,7,none⟩ _ c)).trans (Zfr _ ⟨w.heap.size+1,8,none⟩ _ c))) (fun b hb=>by have c:=b2.out b hb; exact (((((((((Zfr _ ⟨w.heap.size+1,0,none⟩ _ c).trans (Zfr _ ⟨w.heap.size+1,1,none⟩ _ c)).trans (Zfr _ ⟨w.heap.size+1,2,none⟩ _ c)).trans (Zfr _ ⟨w.heap.size+1,3,none⟩ _ c)).trans (Zfr _ ⟨w.heap.size+1,4,none⟩ _ c)).trans (Zfr _ ⟨w.heap.size+1,5,none⟩ _ c)).trans (Zfr _ ⟨w.heap.size+1,6,none⟩ _ c)).trans (Zfr _ ⟨w.heap.size+1,7,none⟩ _ c)).trans (Zfr _ ⟨w.heap.size+1,8,none⟩ _ c))) (by simp[World.setCell]),HN.out.of (fun b hb=>by have c:=b2.out b hb; exact (((((((((Zfr _ ⟨w.heap.size+1,0,none⟩ _ c).trans (Zfr _ ⟨w.heap.size+1,1,none⟩ _ c)).trans (Zfr _ ⟨w.heap.size+1,2,none⟩ _ c)).trans (Zfr _ ⟨w.heap.size+1,3,none⟩ _ c)).trans (Zfr _ ⟨w.heap.size+1,4,none⟩ _ c)).trans (Zfr _ ⟨w.heap.size+1,5,none⟩ _ c)).trans (Zfr _ ⟨w.heap.size+1,6,none⟩ _ c)).trans (Zfr _ ⟨w.heap.size+1,7,none⟩ _ c)).trans (Zfr _ ⟨w.heap.size+1,8,none⟩ _ c))) (by simp[World.setCell]),(((((((((g7.out.setCell (p:=⟨w.heap.size+1,0,none⟩) (Nat.le_succ _) _).setCell (p:=⟨w.heap.size+1,1,none⟩) (Nat.le_succ _) _).setCell (p:=⟨w.heap.size+1,2,none⟩) (Nat.le_succ _) _).setCell (p:=⟨w.heap.size+1,3,none⟩) (Nat.le_succ _) _).setCell (p:=⟨w.heap.size+1,4,none⟩) (Nat.le_succ _) _).setCell (p:=⟨w.heap.size+1,5,none⟩) (Nat.le_succ _) _).setCell (p:=⟨w.heap.size+1,6,none⟩) (Nat.le_succ _) _).setCell (p:=⟨w.heap.size+1,7,none⟩) (Nat.le_succ _) _).setCell (p:=⟨w.heap.size+1,8,none⟩) (Nat.le_succ _) _)⟩}
  {rw[List.concat_eq_append] at hk f y Q;obtain ⟨g,cap,rfl,k7,d5,l9⟩:=y.out.opn.last;obtain ⟨⟨la,i6,k8⟩,c8,G⟩:=y.out.nd a (by simp);obtain ⟨e9,f0,f1,l7,k6,d6⟩:=y.out.blk a.g la i6;obtain ⟨W,hW⟩: ∃W,W=wr:=⟨wr,rfl⟩;subst hW;have d7: (0:Int) < ((r.length+1:Nat):Int):=by omega
   have l5:r.length<=4096:=by
    have:=Zjc r;rw[Zgv] at f;omega
   have a5:a.g≠g:=fun e=>f1 (by rw[e]; rfl);unfold nd8P at d5;have a8:=G.small;have i4:size a.t<=4096:=by rw[Zgv] at f; simp[sumT] at f; omega
   obtain ⟨a6,f9⟩:=Q a (by simp);obtain ⟨i7,j0,i8⟩:=ZiT a6 f9;have a9:=y.out.bel.size;obtain ⟨rs,hS,c9⟩: ∃rs:Nat->Ptr,(a.t.shapes.length=0\/ ∃g off,a.q.S=some ⟨g,off,none⟩/\g < W.heap.size/\ ∀i (h:i < a.t.shapes.length),Sh5 W g (off+i * 5) (a.t.shapes[i]'h) (rs i))/\ ∀i (h:i < a.t.shapes.length),ShAt W w.heap.size (rs i) (a.t.shapes[i]'h):=by
    rcases G.shapes with h0 | ⟨g',off,rs,h1,h2,h3,h4⟩
    {exact ⟨fun _=>⟨none,0,none,0⟩,Or.inl h0,fun i hi=>by omega⟩}
    {exact ⟨rs,Or.inr ⟨g',off,h1,by omega,h3⟩,h4⟩}
   have f8: ∀s∈a.t.shapes,Shp.size s<=400/\Shp.right s=true:=fun s hs=>Ze4 ((ZaW (right_fits a6)).2.2 s hs).1;have U:=Y1 (ZiP a.g (a.i * 9) w.heap.size a.t a.q rs W f0 c8 d6 a8 (Z1w G.strs a9 (fun _ _ _=>rfl)) (Z1w G.vars a9 (fun _ _ _=>rfl)) hS c9 e9 a9 i7 j0 i8 f8);have b5:=Y1 Q;have g6:=Y1 G;have h7:=Y1 a8;have LA:=fun (W:World)=>L1 a.g (a.i * 9) W;clear Q G a8 c8 hS c9 f8
   go_wp2_with fail
   refine U.out.mono ?_;rintro e W1 ⟨rfl,q1,N1,O,f5,a4,a0,F,b8,d⟩;have x7:W1.cell? ⟨a.g,a.i * 9+7,none⟩=some (.slice a.q.P a.t.parts.length a.q.d):=by
    obtain ⟨_,_,_,_,_,_,_,y7,_⟩:=a4;rw[<-O, <-f5]; exact y7
   have f7:W1.frozen? ⟨a.g,a.i * 9+7,none⟩=false:=(d.fz _).trans (d6 _);have hz1:W.heap.size<=W1.heap.size:=d.size;have C:a.g < W1.heap.size:=by omega
   have a1:=Y1 a4;have V:=Y1 a0;have b4:=Y1 F;have b1:=Y1 b8;have a3:=Y1 d;have i3:Hid (Opn8 W1 (.slice (some ⟨g,0,none⟩) r.length cap) r):=Y1
    (World.ownsRow.kept (row:=some a.g) y.out.opn.pop ⟨d.os,d.tape,d.output,d.size,fun k hk D=>d.block k hk (fun e=>D (by rw[e]))⟩ (Or.inr (fun e=>a5 (Option.some.inj e).symm)))
   clear a4 a0 F b8 d O f5 U d5;by_cases T:a.t.parts.length=0
   {have S:=ZhZ a.g (a.i * 9+7) a.q.P a.q.d W1 C (by rw[x7,T]) f7 h7.out.P0;have H:=Y1 S;clear S x7 f7
    go_wp2_with fail
    refine (LA _).mono ?_;rintro e w4 ⟨rfl,rfl⟩
    go_wp2_with fail
    refine H.out.mono ?_;rintro e w5 ⟨rfl,P',d',W2,hb2,hP0,rfl⟩;have I:=Y1 (y.out.step (P':=P') (d':=d') (pb:=0) (qs:=fun _=>a.q) a1.out V.out b4.out b1.out a3.out hb2 (by omega) hP0 (Or.inl ⟨T,by rw[T],rfl⟩));have d9:Zfv 0 a.t.parts (fun _=>a.q)= []:=List.eq_nil_of_length_eq_zero (by rw[Zgu]; exact T);rw[d9,List.append_nil] at I;clear d9 hb2 hP0 H;go_wp2
    go_roundg (sumT r)
    case measure=>rw[Zgv] at hk; have:=size_pos a.t; simp[sumT] at hk ⊢; omega
    case rel=>
     obtain ⟨Ψ5,N5,h5⟩:=I.out;exact ⟨r,Ψ5,N5,Nat.le_refl _,by rw[Zgv] at f; omega,fun n D=>b5.out n (by simp[D]),Y1 h5⟩}
   {have Z:0 < a.t.parts.length:=by omega
    rcases g6.out.part with h0 | ⟨g',off,qs,O,l8,d4,f6⟩
    {omega}
    {have j3:a.t.parts.length<=1000000:=by have:=length_sizes a.t.parts; rw[size_eq] at i4; omega
     have S:=Zi0 a.g (a.i * 9+7) g' off a.q.d a.t.parts qs W1 C (by rw[x7,O]) f7 (by omega) (fun i hi=>(d4 i hi).of (a3.out.same (by omega) (by omega)).1) j3 Z;have H:=Y1 S;have h6:=Y1 f6;clear S d4 f6 O x7 f7
     go_wp2_with fail
     refine (LA _).mono ?_;rintro e w4 ⟨rfl,rfl⟩
     go_wp2_with fail
     refine H.out.mono ?_;rintro e w5 ⟨rfl,pb,d',W2,hb2,hd1,f3,M,rfl⟩;have g2:=hb2.size;have d1:a.g < W2.heap.size:=by omega
     have j2: ∃u,W2.cell? ⟨a.g,a.i * 9+7,none⟩=some u:=by
      obtain ⟨_,_,_,_,_,_,_,y7,_⟩:=a1.out;exact ⟨_,(hb2.cell (p:=⟨a.g,a.i * 9+7,none⟩) C).trans y7⟩
     obtain ⟨u0,g0⟩:=j2;have c7: (W2.setCell ⟨a.g,a.i * 9+7,none⟩ (.slice (some ⟨pb,0,none⟩) a.t.parts.length d')).cell? ⟨a.g,a.i * 9+7,none⟩=some (.slice (some ⟨pb,0,none⟩) a.t.parts.length d'):=World.cell?_setCell_same _ _ _ g0;have j7: (W2.setCell ⟨a.g,a.i * 9+7,none⟩ (.slice (some ⟨pb,0,none⟩) a.t.parts.length d')).heap.size=W2.heap.size:=Zgq _ _ _;have b9:Opn8 (W2.setCell ⟨a.g,a.i * 9+7,none⟩ (.slice (some ⟨pb,0,none⟩) a.t.parts.length d')) (.slice (some ⟨g,0,none⟩) r.length cap) r:=
      (i3.out.below hb2).set (fun e=>a5 (Option.some.inj e).symm) _
     have f4:=M.lt;have f2:pb≠a.g:=by omega
     have c0:=Rnd8.start b9 (fun e=>by have:g=pb:=Option.some.inj e; omega) (M.of (Zfr W2 ⟨a.g,a.i * 9+7,none⟩ (.slice (some ⟨pb,0,none⟩) a.t.parts.length d') (Ne.symm f2)) (by omega));have a2:=Y1 c0;have B:=Y1 (fun (W5:World) (v5:Value) (hr:Rnd8 (W2.setCell ⟨a.g,a.i * 9+7,none⟩ (.slice (some ⟨pb,0,none⟩) a.t.parts.length d')) W5 (.slice (some ⟨g,0,none⟩) r.length cap) v5 pb a.t.parts qs r a.t.parts.length)=>y.out.step (P':=some ⟨pb,0,none⟩) (d':=d') (pb:=pb) (qs:=qs) a1.out V.out b4.out b1.out a3.out hb2 hd1 nofun (Or.inr ⟨rfl,Z,f3,h6.out,hr⟩));obtain ⟨W4,d0⟩: ∃W4,W4=W2.setCell ⟨a.g,a.i * 9+7,none⟩ (.slice (some ⟨pb,0,none⟩) a.t.parts.length d'):=⟨_,rfl⟩;rw[<-d0] at c7 j7 a2 B ⊢;have j4:pb < W4.heap.size:=by omega
     have d2:a.g < W4.heap.size:=by omega
     clear d0 hb2 f3 M c0 b9 g0 f4 H C d1
     go_wp2_with fail
     go_loopw [9,47] (fun s9 ii wr=> ∃i:Nat,ii= .int .i64 i/\i<=a.t.parts.length/\Hid (Rnd8 W4 wr (.slice (some ⟨g,0,none⟩) r.length cap) s9 pb a.t.parts qs r i)) (fun _ i _=>a.t.parts.length - (intOf i).toNat)
     case atStart=>exact ⟨0,rfl,Nat.zero_le _,a2⟩
     case round=>
      obtain ⟨i,rfl,hi,HR⟩:=hrel;by_cases i9:i < a.t.parts.length
      {have d7: (i:Int) < (a.t.parts.length:Int):=by omega
       have k4:=(HR.out.up.same d2 (fun e=>a5 (Option.some.inj e).symm)).1 (a.i * 9+7);rw[c7] at k4;obtain ⟨i0,hi2,hz0,hz1,g2⟩:=info_parts (P:=Tryz.prog) (e:=50) (z:= .pointer none) (size:=1) (bytes:=8) ZiS;have Y: (r++(Zfv pb a.t.parts qs).take i).length=r.length+i:=by rw[List.length_append,List.length_take,Zgu]; omega
       have E:=HR.out.opn;unfold Opn8 at E;rw[Y] at E;have g9:=Y1 E;clear E Y
       go_wp2_with (at_builtin; refine wpList_append_lies _ rfl _ _ 92 rfl 0 50 i0 (.pointer none) 1 8 Tryz.underlying92 hi2 hz0 hz1 g2 rfl (by decide) _ _ _ rfl (g9.out.alloc _) ⟨wr.heap.size,0,none⟩ 1 1 [.pointer (some ⟨pb,i * 9,none⟩)] rfl rfl (World.news_of_block (cs:=#[.pointer (some ⟨pb,i * 9,none⟩)]) (t:=50) (fr:=(0,0)) (heap_alloc_new _ _)) (by simp[Value.oneCell']) (by decide) (by unfold maxLen; omega) (by omega) (by simp) _ rfl ?_)
       intro g1 k1 w5 K J X k9;have HN:=Y1 (HR.out.step i9 j4 J (by simpa[List.map_append,List.append_assoc,List.map_take] using K) (by simpa using X));clear K J X k4
       go_wp2_with fail
       exact ⟨⟨i+1,by go_num,by omega,HN⟩,by simp[intOf]; omega⟩}
      {have d8:i=a.t.parts.length:=by omega
       have HN:=Y1 (B.out wr _ (by have:=HR.out; rwa [d8] at this));have d7: ¬(i:Int) < (a.t.parts.length:Int):=by omega
       clear d8 HR B a2;go_wp2
       go_roundg (sumT (r++Zfv pb a.t.parts qs))
       case measure=>
        rw[Zgv,Zhx];rw[Zgv] at hk;have:=size_eq a.t;simp[sumT] at hk ⊢;omega
       case rel=>
        obtain ⟨Ψ5,N5,h5⟩:=HN.out;refine ⟨r++Zfv pb a.t.parts qs,Ψ5,N5,Nat.le_refl _, ?_,fun n D=> ?_,Y1 h5⟩
        {rw[Zgv,Zhx];rw[Zgv] at f;have:=size_eq a.t;simp[sumT] at f ⊢;omega}
        {rcases List.mem_append.1 D with D | D
         {exact b5.out n (by simp[D])}
         {obtain ⟨i,hi,rfl⟩:=List.getElem_of_mem D;rw[ZgF];exact ⟨right_part a6 (List.getElem_mem _),Zho f9 (List.getElem_mem _)⟩}}}}}}
end
section
open Go.RowKit Tms
def noneT:TP:=⟨none,0,none,0,none,0,none,0⟩
def tW (w:World) (t:Tm) (q:TP):World:=(w.alloc (.cells (Y7 t q) 26)).alloc (.cells Ya 26)
section
variable (w : World) (t : Tm) (q : TP)
include w t q
theorem ZgL:Below w.heap.size w (tW w t q):=Z03 (Z01 _ _) _
theorem ZiV:Box9 (tW w t q) w.heap.size t q:=(Z1c w t q).next (Z01 _ _)
theorem ZiW:Box9 (tW w t q) (w.heap.size+1) zeroT noneT:=by
 have h:=Z1c (w.alloc (.cells (Y7 t q) 26)) zeroT noneT;have e: (w.alloc (.cells (Y7 t q) 26)).heap.size=w.heap.size+1:=by simp
 rw[e] at h;exact h
end
def put9 (W:World) (b:Nat) (a0 a1 a2 a3 a4 a5 a6 a7 a8:Value):World:=((((((((W.setCell ⟨b,0,none⟩ a0).setCell ⟨b,1,none⟩ a1).setCell ⟨b,2,none⟩ a2).setCell ⟨b,3,none⟩ a3).setCell ⟨b,4,none⟩ a4).setCell ⟨b,5,none⟩ a5).setCell ⟨b,6,none⟩ a6).setCell ⟨b,7,none⟩ a7).setCell ⟨b,8,none⟩ a8
theorem ZgU (W:World) {b x:Nat} (a:b≠x) (c d e f g h i j k:Value):Z7N W (put9 W b c d e f g h i j k) x:=(((((((((Zfr _ ⟨b,0,none⟩ c a).trans (Zfr _ ⟨b,1,none⟩ d a)).trans (Zfr _ ⟨b,2,none⟩ e a)).trans (Zfr _ ⟨b,3,none⟩ f a)).trans (Zfr _ ⟨b,4,none⟩ g a)).trans (Zfr _ ⟨b,5,none⟩ h a)).trans (Zfr _ ⟨b,6,none⟩ i a)).trans (Zfr _ ⟨b,7,none⟩ j a)).trans (Zfr _ ⟨b,8,none⟩ k a))
theorem Zhy (W:World) (b:Nat) (a c d e f g h i j:Value): (put9 W b a c d e f g h i j).heap.size=W.heap.size:=by simp[put9,World.setCell]
theorem Zhg {B:Nat} {a W:World} (h:Below B a W) {b:Nat} (c:B<=b) (d e f g i j k l m:Value):Below B a (put9 W b d e f g i j k l m):=(((((((((h.setCell (p:=⟨b,0,none⟩) c _).setCell (p:=⟨b,1,none⟩) c _).setCell (p:=⟨b,2,none⟩) c _).setCell (p:=⟨b,3,none⟩) c _).setCell (p:=⟨b,4,none⟩) c _).setCell (p:=⟨b,5,none⟩) c _).setCell (p:=⟨b,6,none⟩) c _).setCell (p:=⟨b,7,none⟩) c _).setCell (p:=⟨b,8,none⟩) c _)
section
variable {base : Nat} {W : World} {Ψ : Nat -> Option (List Tm)} {N : List Nat}
include base W Ψ N
theorem Typed.put (h:Typed base W Ψ N) {b:Nat} (m:b < base) (a c d e f g i j k:Value):Typed base (put9 W b a c d e f g i j k) Ψ N:=
 h.of (fun x l hx=>ZgU W (by have:=(h.blk x l hx).1; omega) a c d e f g i j k) (fun x hx=>ZgU W (by have:=(h.nn x hx).1; omega) a c d e f g i j k) (by rw[Zhy]; exact Nat.le_refl _)
theorem NodeOk.put {q:TP} {t:Tm} (h:NodeOk W Ψ N q t) (l:Typed base W Ψ N) {b:Nat} (m:b < base) (a c d e f g i j k:Value):NodeOk (put9 W b a c d e f g i j k) Ψ N q t:=
 h.of (fun x hx=>ZgU W (by have:=(l.nn x hx).1; omega) a c d e f g i j k) (by rw[Zhy]; exact Nat.le_refl _)
end
theorem Ziy (t:Tm) (q:TP) (w:World) (n:TmAt w w.heap.size q t) (G:size t<=4096) (o:right t=true) (p:slim t=true):
 Calls Tryz.prog 16 #[.agg (Y7 t q)] w fun e w'=> ∃q' Ψ N,e= .returned (.agg (Y7 t q'))/\Typed (w.heap.size+2) w' Ψ N/\NodeOk w' Ψ N q' t/\Below w.heap.size w w':=by
 have l:=Y1 (ZgL w t q);have k:=Y1 (ZiW w t q);have m:=Y1 (show (tW w t q).heap.size=w.heap.size+2 from by simp[tW]);have b:=Y1 (ZhM t q (tW w t q) (n.next (ZgL w t q)) G o p);obtain ⟨_,⟨E,c1,c2,c3,c4,c5,c6,c7,F⟩,_⟩:=Z1c w t q;clear n o p;go_enter Tryz.func16,Tryz.ntmps16
 go_wp2_with fail
 clear E c1 c2 c3 c4 c5 c6 c7 F;change Calls _ _ _ (tW w t q) _;generalize tW w t q=W at l k b m ⊢;refine b.out.mono ?_;rintro e H ⟨q',Ψ,N,rfl,g,f,c⟩;have d:Hid (Typed (w.heap.size+2) H Ψ N):=Y1 (by rw[<-m.out]; exact g);have i:=Y1 f;have j:=Y1 (Z00 l.out c);have h:=Y1 (k.out.next c);clear g f c b;obtain ⟨_,⟨r,s,u,y,z,A,B,C,D⟩,a⟩:=h.out;simp only[Nat.zero_add] at r s u y z A B C D;have I:=a 0;have J:=a 1;have K:=a 2;have L:=a 3;have M:=a 4;have O:=a 5;have P:=a 6;have Q:=a 7;have S:=a 8;clear a;go_wp2;refine bodyPost_ret (v:= .agg (Y7 t q')) (by simp[results,Tryz.results16,go_sem,r,s,u,y,z,A,B,C,D]) rfl ?_;exact ⟨q',Ψ,N,rfl,d.out.put (by omega) _ _ _ _ _ _ _ _ _,i.out.put d.out (by omega) _ _ _ _ _ _ _ _ _,Zhg j.out (by omega) _ _ _ _ _ _ _ _ _⟩
end
end Go.Proofs.YtkncdbaoaeeoiaaGreatDoor
