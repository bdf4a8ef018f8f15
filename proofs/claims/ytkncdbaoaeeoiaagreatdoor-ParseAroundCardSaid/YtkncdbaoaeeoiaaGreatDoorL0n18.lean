/- What the proofs of ParseAround want, part 18. -/
import Derived.Test.YtkncdbaoaeeoiaaGreatDoorL0n17
import Derived.Test.YtkncdbaoaeeoiaaGreatDoorL0n12
set_option linter.unusedVariables false
set_option linter.unusedSimpArgs false
set_option linter.unusedSectionVars false
set_option maxRecDepth 100000
set_option maxHeartbeats 16000000
namespace Go.Proofs.YtkncdbaoaeeoiaaGreatDoor
section
open Go.RowKit Tms
open Shp (Sh)
open Pso (St)
def pT0 (pos:String) (b s tC fi:Nat):Oper:=
 { dst:=some b,op:= .fieldAddr tC (.tmp s) fi,type:=0,pos:=pos,after:=#[],guard:=none }
def pT1 (pos:String) (b:Nat):Oper:=
 { dst:=some (b+1),op:= .load 24 (.tmp b),type:=24,pos:=pos,after:=#[{ on:=0,ground:= .data }],guard:=none }
def pT2 (pos:String) (b:Nat) (o2:Op):Oper:=
 { dst:=some (b+2),op:=o2,type:=59,pos:=pos,after:=#[],guard:=none }
def pT3 (pos:String) (b fn:Nat):Oper:=
 { dst:=some (b+3),op:= .call { callee:= .value (.func fn),args:=#[.tmp (b+2)],argTypes:=#[59] },type:=26,pos:=pos,after:=#[{ on:=2,ground:= .data }],guard:=none }
def pT4 (pos:String) (b:Nat):Oper:=
 { dst:=some (b+4),op:= .buildSlice 24 1 #[(0,.tmp (b+3))],type:=24,pos:=pos,after:=#[{ on:=3,ground:= .data }],guard:=none }
def pT5 (pos:String) (b:Nat):Oper:=
 { dst:=some (b+5),op:= .call { callee:= .builtin .append,args:=#[.tmp (b+1),.tmp (b+4)],argTypes:=#[24,24] },type:=24,pos:=pos,after:=#[{ on:=1,ground:= .data },{ on:=4,ground:= .data },{ on:=3,ground:= .chain }],guard:=none }
def pT6 (pos:String) (b s tC fi:Nat):Oper:=
 { dst:=some (b+6),op:= .fieldAddr tC (.tmp s) fi,type:=0,pos:=pos,after:=#[{ on:=0,ground:= .phase },{ on:=1,ground:= .phase },{ on:=2,ground:= .phase },{ on:=3,ground:= .phase },{ on:=4,ground:= .phase },{ on:=5,ground:= .phase }],guard:=none }
def pT7 (pos:String) (b:Nat):Oper:=
 { dst:=none,op:= .store 24 (.tmp (b+6)) (.tmp (b+5)),type:=0,pos:=pos,after:=#[{ on:=6,ground:= .data },{ on:=5,ground:= .data },{ on:=5,ground:= .chain },{ on:=0,ground:= .phase },{ on:=1,ground:= .phase },{ on:=2,ground:= .phase },{ on:=3,ground:= .phase },{ on:=4,ground:= .phase },{ on:=5,ground:= .phase }],guard:=none }
def plnT (pos:String) (b s:Nat) (o2:Op) (tC fi fn:Nat):Array Oper:=
 #[pT0 pos b s tC fi,pT1 pos b,pT2 pos b o2,pT3 pos b fn,pT4 pos b,pT5 pos b,pT6 pos b s tC fi,pT7 pos b]
structure PtxT where
 w:World
 bp:Nat
 A:Option Addr
 c:Nat
 l:List Tk
 τ:St
 ob:Nat
 fo:Nat
 B:Nat
 AR:Option Addr
 cap:Nat
 xs:List ET
 R:ET->Prop
namespace PtxT
variable (X : PtxT)
def val (j:Nat):Option Value:=match j with
 | 0=>some (.pointer (some ⟨X.ob,X.fo,none⟩))
 | 1=>some (.slice X.AR X.xs.length X.cap)
 | 2=>some (.pointer (some ⟨X.bp,0,none⟩))
 | 6=>some (.pointer (some ⟨X.ob,X.fo,none⟩))
 | _=>none
structure Good:Prop where
 cell:X.w.cell? ⟨X.ob,X.fo,none⟩=some (.slice X.AR X.xs.length X.cap)
 fz:X.w.frozen? ⟨X.ob,X.fo,none⟩=false
 oblt:X.ob < X.w.heap.size
 bpob:X.bp < X.ob
 row:Row X.w X.B 26 9 cT X.AR X.cap X.xs
 obB:X.ob < X.B
 bpB:X.bp < X.B
 Bw:X.B<=X.w.heap.size
 len:X.xs.length<=900000
structure Mid (d:Nat->Bool) (u:Nat->Value) (W:World) (x:ET):Prop where
 u3:u 3=valT x
 par:PAt W X.bp X.A X.c X.l X.τ
 up:UpT [X.bp] X.w W
 is:x.Is W
 r:X.R x
 lo:X.w.heap.size<=x.lo
 a4:d 4=true-> ∃z0,u 4= .slice (some ⟨z0,0,none⟩) 1 1/\X.w.heap.size<=z0/\z0 < W.heap.size/\ ∀(j:Nat) v,(cT x)[j]? =some v->W.cell? ⟨z0,j,none⟩=some v
structure Post (d:Nat->Bool) (u:Nat->Value) (W:World) (x:ET) (g cp:Nat):Prop where
 u5:u 5= .slice (some ⟨g,0,none⟩) (X.xs.length+1) cp
 par:PAt W X.bp X.A X.c X.l X.τ
 is:x.Is W
 r:X.R x
 lo:X.w.heap.size<=x.lo
 far:g < x.lo\/x.hi<=g
 new:rowT X.AR=some g\/X.w.heap.size<=g
 up:UpT (X.bp::X.ob::(rowT X.AR).toList) X.w W
 row:W.ownsRow X.B 26 9 (.slice (some ⟨g,0,none⟩) (X.xs.length+1) cp) (X.xs.length+1) (X.xs.flatMap cT++cT x)
 cell:W.cell? ⟨X.ob,X.fo,none⟩=some (if d 7=true then .slice (some ⟨g,0,none⟩) (X.xs.length+1) cp else .slice X.AR X.xs.length X.cap)
 rest: ∀j,j≠X.fo->W.cell? ⟨X.ob,j,none⟩=X.w.cell? ⟨X.ob,j,none⟩
 fz: ∀j,W.frozen? ⟨X.ob,j,none⟩=X.w.frozen? ⟨X.ob,j,none⟩
structure Inv (d:Nat->Bool) (u:Nat->Value) (W:World):Prop where
 vals: ∀j,d j=true-> ∀v,X.val j=some v->u j=v
 e3:d 3=true->d 2=true
 e4:d 4=true->d 3=true
 e5:d 5=true->d 4=true/\d 1=true
 e7:d 7=true->d 5=true
 pre:d 3=false->Below X.w.heap.size X.w W
 mid:d 3=true->d 5=false-> ∃x,X.Mid d u W x
 post:d 5=true-> ∃x g cp,X.Post d u W x g cp
variable {X : PtxT} {d : Nat -> Bool} {u : Nat -> Value} {W W' : World}
theorem Good.start (h:X.Good):X.Inv (fun _=>false) u X.w.drew:=⟨nofun,nofun,nofun,nofun,nofun,fun _=>Y2.drew,nofun,nofun⟩
theorem ne9 (d:Nat->Bool) {i j:Nat} (h:j≠i):also d i j=d j:=by
 unfold also;have:Nat.beq j i=false:=by cases a:Nat.beq j i <;> first | rfl | exact absurd (Nat.eq_of_beq_eq_true a) h
 rw[this]; rfl
theorem self9 (d:Nat->Bool) (i:Nat):also d i i=true:=by unfold also; rw[Nat.beq_refl]; rfl
section
variable (h : X.Inv d u W)
include h
theorem Inv.vals' {i:Nat} {v:Value} (b: ∀v',X.val i=some v'->v=v'): ∀j,also d i j=true-> ∀v',X.val j=some v'->upd u i v j=v':=fun j hj v' hv'=>by
 by_cases a:j=i
 {subst a; rw[Z09]; exact b v' hv'}
 {rw[ne9 d a] at hj; rw[Z06 u v a]; exact h.vals j hj v' hv'}
theorem Inv.pure {i:Nat} (f:i=0\/i=1\/i=2\/i=6) {v:Value} (c: ∀v',X.val i=some v'->v=v'):X.Inv (also d i) (upd u i v) W:=by
 have k: ∀j,j=3\/j=4\/j=5\/j=7->also d i j=d j/\upd u i v j=u j:=fun j hj=>⟨ne9 d (by omega),Z06 u v (by omega)⟩;refine ⟨h.vals' c, ?_, ?_, ?_, ?_, ?_, ?_, ?_⟩
 {rw[(k 3 (by omega)).1];intro b;by_cases e: (2:Nat)=i
  {rw[e]; exact self9 d i}
  {rw[ne9 d e]; exact h.e3 b}}
 {rw[(k 4 (by omega)).1,(k 3 (by omega)).1]; exact h.e4}
 {rw[(k 5 (by omega)).1,(k 4 (by omega)).1];intro a;refine ⟨(h.e5 a).1, ?_⟩;by_cases e: (1:Nat)=i
  {rw[e]; exact self9 d i}
  {rw[ne9 d e]; exact (h.e5 a).2}}
 {rw[(k 7 (by omega)).1,(k 5 (by omega)).1]; exact h.e7}
 {rw[(k 3 (by omega)).1]; exact h.pre}
 {rw[(k 3 (by omega)).1,(k 5 (by omega)).1];intro b a;obtain ⟨x,p⟩:=h.mid b a;refine ⟨x, ?_,p.par,p.up,p.is,p.r,p.lo, ?_⟩
  {rw[(k 3 (by omega)).2]; exact p.u3}
  {rw[(k 4 (by omega)).1,(k 4 (by omega)).2]; exact p.a4}}
 {rw[(k 5 (by omega)).1];intro a;obtain ⟨x,g,cp,p⟩:=h.post a;refine ⟨x,g,cp, ?_,p.par,p.is,p.r,p.lo,p.far,p.new,p.up,p.row, ?_,p.rest,p.fz⟩
  {rw[(k 5 (by omega)).2]; exact p.u5}
  {rw[(k 7 (by omega)).1]; exact p.cell}}
theorem Inv.not5 {i:Nat} (f:i=1\/i=3\/i=4\/i=5) (b:d i=false):d 5=false:=by
 cases c:d 5 with
 | false=>rfl
 | true=>
  have a:=h.e5 c;have e:=h.e4 a.1;rcases f with rfl | rfl | rfl | rfl
  {rw[b] at a; cases a.2}
  {rw[b] at e; cases e}
  {rw[b] at a; cases a.1}
  {rw[b] at c; cases c}
theorem Inv.first (b:d 5=false):UpT [X.bp] X.w W:=by
 cases a:d 3 with
 | false=>exact Z05 (h.pre a)
 | true=>obtain ⟨x,p⟩:=h.mid a b; exact p.up
theorem Inv.s3 (a:d 3=false) (g:d 2=true) {x:ET} (m:PAt W' X.bp X.A X.c X.l X.τ) (o:UpT [X.bp] W W') (p:x.Is W') (b:W.heap.size<=x.lo) (n:X.R x):X.Inv (also d 3) (upd u 3 (valT x)) W':=by
 have l:=h.not5 (by omega) a;have i:d 4=false:=by cases e:d 4 with | false=>rfl | true=>have:=h.e4 e; rw[a] at this; cases this
 have k: ∀j,j≠3->also d 3 j=d j/\upd u 3 (valT x) j=u j:=fun j hj=>⟨ne9 d hj,Z06 u _ hj⟩;have f:=h.pre a;refine ⟨h.vals' (by intro q c; cases c),fun _=>by rw[(k 2 (by omega)).1]; exact g,fun _=>self9 _ _, ?_, ?_, ?_,fun _ _=>⟨x,Z09 _ _ _,m,(Z05 f).trans o,p,n,Nat.le_trans f.size b, ?_⟩, ?_⟩
 {rw[(k 5 (by omega)).1,(k 4 (by omega)).1,(k 1 (by omega)).1]; exact h.e5}
 {rw[(k 7 (by omega)).1,(k 5 (by omega)).1]; exact h.e7}
 {rw[self9]; intro e; cases e}
 {rw[(k 4 (by omega)).1,i]; intro e; cases e}
 {rw[(k 5 (by omega)).1,l]; intro e; cases e}
theorem Inv.s4 (g:d 4=false) (c:d 3=true) {x:ET} (p:X.Mid d u W x) (t:TypeId):X.Inv (also d 4) (upd u 4 (.slice (some ⟨W.heap.size,0,none⟩) 1 1)) (W.alloc (.cells (Y7 x.t x.q) t)):=by
 have f:=h.not5 (by omega) g;have k: ∀j,j≠4->also d 4 j=d j/\upd u 4 (.slice (some ⟨W.heap.size,0,none⟩) 1 1) j=u j:=fun j hj=>⟨ne9 d hj,Z06 u _ hj⟩;have a:=Z01 W (.cells (Y7 x.t x.q) t);refine ⟨h.vals' (by intro i b; cases b),(by rw[(k 3 (by omega)).1,(k 2 (by omega)).1]; exact h.e3), ?_, ?_, ?_, ?_,fun _ _=>⟨x, ?_,p.par.below a,p.up.below a,New.below p.is a,p.r,p.lo,fun _=>⟨W.heap.size,Z09 _ _ _,p.up.size,by simp,fun j v hv=> ?_⟩⟩, ?_⟩
 {rw[(k 3 (by omega)).1]; exact fun _=>c}
 {rw[(k 5 (by omega)).1,f]; intro e; cases e}
 {rw[(k 7 (by omega)).1,(k 5 (by omega)).1]; exact h.e7}
 {rw[(k 3 (by omega)).1,c]; intro e; cases e}
 {rw[(k 3 (by omega)).2]; exact p.u3}
 {rw[World.cell?_alloc_at _ _ _ _ rfl];simpa[cT] using hv}
 {rw[(k 5 (by omega)).1,f]; intro e; cases e}
theorem Inv.s5 (w:d 5=false) (a:d 1=true) (r:d 4=true) {x:ET} (p:X.Mid d u W x) {g cp:Nat} (c:X.Good) (l:W'.ownsRow X.B 26 9 (.slice (some ⟨g,0,none⟩) (X.xs.length+1) cp) (X.xs.length+1) (X.xs.flatMap cT++cT x))
 (f:W.grownBy W' (rowT X.AR)) (i:rowT X.AR=some g\/g=W.heap.size):X.Inv (also d 5) (upd u 5 (.slice (some ⟨g,0,none⟩) (X.xs.length+1) cp)) W':=by
 have k: ∀j,j≠5->also d 5 j=d j/\upd u 5 (.slice (some ⟨g,0,none⟩) (X.xs.length+1) cp) j=u j:=fun j hj=>⟨ne9 d hj,Z06 u _ hj⟩;have s:d 7=false:=by cases e:d 7 with | false=>rfl | true=>have:=h.e7 e; rw[w] at this; cases this
 have n:=p.up.size;have b: ∀k,rowT X.AR=some k->X.B<=k/\k < X.w.heap.size:=fun k hk=>c.row.lt k hk;have t:=c.Bw;have v:=c.bpob;have q:UpT (rowT X.AR).toList W W':=⟨f.os,f.tape,f.output,f.size,fun x a h2=>f.block x a (fun e=>h2 (by rw[<-e]; simp))⟩;have m:SameT X.w W' X.ob:=(p.up.same c.oblt (by simp; omega)).trans (q.same (Nat.lt_of_lt_of_le c.oblt n) (by
  intro z;have a:rowT X.AR=some X.ob:=by simpa using z
  have:=b _ a; have:=c.obB; omega))
 refine ⟨h.vals' (by intro A o; cases o),(by rw[(k 3 (by omega)).1,(k 2 (by omega)).1]; exact h.e3), ?_, ?_,fun _=>self9 _ _, ?_, ?_,fun _=>⟨x,g,cp,Z09 _ _ _,p.par.keep q (fun k hk=> ?_),New.grown p.is f (fun k hk=>Or.inl ?_),p.r,p.lo, ?_, ?_, ?_,l, ?_,fun j hj=>m.1 j,fun j=>m.2 j⟩⟩
 {rw[(k 4 (by omega)).1,(k 3 (by omega)).1]; exact h.e4}
 {rw[(k 4 (by omega)).1,(k 1 (by omega)).1]; exact fun _=>⟨r,a⟩}
 {rw[(k 3 (by omega)).1]; intro e; rw[h.e4 r] at e; cases e}
 {rw[self9]; intro _ e; cases e}
 {have a:rowT X.AR=some k:=by simpa using hk
  have:=b _ a; have:=c.bpB; omega}
 {have:=b _ hk; have:=p.lo; omega}
 {rcases i with a | a
  {left; have:=b _ a; have:=p.lo; omega}
  {right; have:=p.is.hi_; omega}}
 {rcases i with a | a
  {exact Or.inl a}
  {exact Or.inr (by omega)}}
 {exact (p.up.mono (fun y hy _=>by simp at hy; simp[hy])).trans (q.mono (fun y hy _=>by simp at hy; simp[hy]))}
 {rw[(k 7 (by omega)).1,s]; exact (m.1 _).trans c.cell}
theorem Inv.s7 (r:d 7=false) (b:d 5=true) (a:X.Good) {x:ET} {g cp:Nat} (p:X.Post d u W x g cp) (v:Value):X.Inv (also d 7) (upd u 7 v) (W.setCell ⟨X.ob,X.fo,none⟩ (.slice (some ⟨g,0,none⟩) (X.xs.length+1) cp)):=by
 have k: ∀j,j≠7->also d 7 j=d j/\upd u 7 v j=u j:=fun j hj=>⟨ne9 d hj,Z06 u _ hj⟩;have n:X.B<=g/\g < W.heap.size:=p.row.lt g rfl;have m:=a.bpB;have q:=a.obB;have o:=p.lo;have l:=a.Bw;have i:=a.bpob;have f:UpT [X.ob] W (W.setCell ⟨X.ob,X.fo,none⟩ (.slice (some ⟨g,0,none⟩) (X.xs.length+1) cp)):=(UpT.refl _ _).set _ (Or.inr (by simp)) _;refine ⟨h.vals' (by intro s c; cases c),(by rw[(k 3 (by omega)).1,(k 2 (by omega)).1]; exact h.e3), ?_, ?_, ?_, ?_, ?_,fun _=>⟨x,g,cp, ?_,p.par.keep f (by simp; omega),New.up p.is f (by simp; omega),p.r,p.lo,p.far,p.new, ?_, ?_, ?_,fun j hj=> ?_,fun j=> ?_⟩⟩
 {rw[(k 4 (by omega)).1,(k 3 (by omega)).1]; exact h.e4}
 {rw[(k 5 (by omega)).1,(k 4 (by omega)).1,(k 1 (by omega)).1]; exact h.e5}
 {rw[(k 5 (by omega)).1]; exact fun _=>b}
 {rw[(k 3 (by omega)).1]; intro e; rw[h.e4 (h.e5 b).1] at e; cases e}
 {rw[(k 5 (by omega)).1,b]; intro _ e; cases e}
 {rw[(k 5 (by omega)).2]; exact p.u5}
 {exact p.up.trans (f.mono (fun y hy _=>by simp at hy; simp[hy]))}
 {exact Z1n p.row (by intro e; have:=Option.some.inj e; simp at this; omega) _}
 {rw[self9,if_pos rfl]; exact World.cell?_setCell_same _ _ _ p.cell}
 {rw[World.cell?_setCell_other _ _ _ _ (fun e=>hj (by have:=congrArg Addr.off e; simpa using this.symm))]; exact p.rest j hj}
 {rw[World.frozen?_setCell]; exact p.fz j}
end
end PtxT
structure PfrT (pos:String) (b s:Nat) (o2:Op) (tC fi fn:Nat) (A: (Nat->Value)->Act) (vs:Value):Prop where
 put: ∀(i:Nat) o,(plnT pos b s o2 tC fi fn)[i]? =some o-> ∀u v,(A u).put o.dst v=A (upd u i v)
 es: ∀u,(A u).eval (.tmp s)=vs
 e0: ∀u,(A u).eval (.tmp b)=u 0
 e1: ∀u,(A u).eval (.tmp (b+1))=u 1
 e2: ∀u,(A u).eval (.tmp (b+2))=u 2
 e3: ∀u,(A u).eval (.tmp (b+3))=u 3
 e4: ∀u,(A u).eval (.tmp (b+4))=u 4
 e5: ∀u,(A u).eval (.tmp (b+5))=u 5
 e6: ∀u,(A u).eval (.tmp (b+6))=u 6
theorem prgT {Q:Exit->Act->World->Prop} {id:Nat} (pos:String) (b s:Nat) (y:Op) (o m l:Nat) (X:PtxT) (k:X.Good)
 (A: (Nat->Value)->Act) (S:Nat->Value) (i:PfrT pos b s y o m l A (.pointer (some ⟨X.ob,0,none⟩)))
 (C: ∀u W,UpT [X.bp] X.w W->(execOp (A u).eval (pT2 pos b y)).run Tryz.prog W= .ok (.value (.pointer (some ⟨X.bp,0,none⟩))) W)
 (hfa: ∀W,(Instr.fieldAt o (.pointer (some ⟨X.ob,0,none⟩)) m).run Tryz.prog W= .ok (.pointer (some ⟨X.ob,X.fo,none⟩)) W)
 (a1: ∀args W,(callFunc l args).run Tryz.prog W= .ok (.enter l args) W)
 (n: ∀W,Below X.w.heap.size X.w W->Calls Tryz.prog l #[.pointer (some ⟨X.bp,0,none⟩)] W fun e W'=> ∃x:ET,e= .returned (valT x)/\PAt W' X.bp X.A X.c X.l X.τ/\UpT [X.bp] W W'/\x.Is W'/\W.heap.size<=x.lo/\X.R x)
 (Y: ∀u W x g cp,X.Post (fun _=>true) u W x g cp->Q .normal (A u) W):
 (Code.region id (plnT pos b s y o m l) true).wp Tryz.prog Q (A S) X.w:=by
 obtain ⟨i0,G,I,J,K⟩:=Z1e Z8K;have N:=i.es;refine Z2c (rs:= [0,1,2,3,4,5,6,7]) A S X.Inv (by kernel_rfl) (by kernel_rfl) (by kernel_rfl) k.start ?_ ?_;refine StepsInv.cons (pT0 pos b s o m) rfl (fun d u W K' a c hw hK=> ?_) ?_
 {refine Z02 (v:= .pointer (some ⟨X.ob,X.fo,none⟩)) (W':=W) rfl ?_ (by rw[i.put 0 (pT0 pos b s o m) rfl u _]; exact hK.out _ _ (a.pure (by decide) (fun v' h=>by cases h; rfl)));simp only[execOp,pT0,N u,hfa,Sem.run_bind,Result.andThen_ok,Sem.run_pure]}
 refine StepsInv.cons (pT1 pos b) rfl (fun d u W K' a c hw hK=> ?_) ?_
 {have e0:=i.e0 u;rw[a.vals 0 (hw 0 (by kernel_rfl)) _ rfl] at e0;have P:=a.first (a.not5 (by omega) c);have a0:=k.bpob;obtain ⟨E,H⟩:W.cell? ⟨X.ob,X.fo,none⟩=some (.slice X.AR X.xs.length X.cap)/\X.ob < W.heap.size:=⟨((P.same k.oblt (by simp; omega)).1 _).trans k.cell,Nat.lt_of_lt_of_le k.oblt P.size⟩;have F:Tryz.prog.cellsOf 24=1:=by kernel_rfl
  refine Z02 (v:= .slice X.AR X.xs.length X.cap) (W':=W) rfl ?_ (by rw[i.put 1 (pT1 pos b) rfl u _]; exact hK.out _ _ (a.pure (by decide) (fun v' h=>by cases h; rfl)));simp only[execOp,pT1,e0,Sem.run_bind,Result.andThen_ok,Sem.run_pure];go_simp}
 refine StepsInv.cons (pT2 pos b y) rfl (fun d u W K' a c hw hK=> ?_) ?_
 {have q:d 3=false:=by cases e:d 3 with | false=>rfl | true=>have:=a.e3 e; rw[c] at this; cases this
  refine Z02 (v:= .pointer (some ⟨X.bp,0,none⟩)) (W':=W) rfl (C u W (Z05 (a.pre q))) (by rw[i.put 2 (pT2 pos b y) rfl u _]; exact hK.out _ _ (a.pure (by decide) (fun v' h=>by cases h; rfl)))}
 refine StepsInv.cons (pT3 pos b l) rfl (fun d u W K' a c hw hK=> ?_) ?_
 {have e2:=i.e2 u;rw[a.vals 2 (hw 2 (by kernel_rfl)) _ rfl] at e2;refine Z0M (f:=l) (args:=#[.pointer (some ⟨X.bp,0,none⟩)]) (W':=W) rfl ?_ ((n W (a.pre c)).mono ?_)
  {simp only[execOp,pT3,e2,Sem.run_bind,Result.andThen_ok,Sem.run_pure,resolve,invoke,List.map_toArray,List.map_cons,List.map_nil];have U: (A u).eval (.func l)= .func (.func l) #[] #[]:=rfl;rw[U];go_simp}
  {rintro e W' ⟨x,rfl,z,C,q,r,B⟩;exact ⟨_,rfl,by rw[i.put 3 (pT3 pos b l) rfl u _]; exact hK.out _ _ (a.s3 c (hw 2 (by kernel_rfl)) z C q r B)⟩}}
 refine StepsInv.cons (pT4 pos b) rfl (fun d u W K' a c hw hK=> ?_) ?_
 {have q:=hw 3 (by kernel_rfl);obtain ⟨x,p⟩:=a.mid q (a.not5 (by omega) c);have e3:=i.e3 u;rw[p.u3] at e3;simp only[valT] at e3;refine Z02 (v:= .slice (some ⟨W.heap.size,0,none⟩) 1 1) (W':=W.alloc (.cells (Y7 x.t x.q) 26)) rfl ?_ (by rw[i.put 4 (pT4 pos b) rfl u _]; exact hK.out _ _ (a.s4 c q p _));have T: (A u).tmps[b+3]?.getD undef= .agg (Y7 x.t x.q):=by simpa[Act.eval] using e3
  simp only[execOp,pT4,e3,Sem.run_bind,Result.andThen_ok,Sem.run_pure];go_simp}
 refine StepsInv.cons (pT5 pos b) rfl (fun d u W K' a c hw hK=> ?_) ?_
 {have z:=hw 1 (by kernel_rfl);have r:=hw 4 (by kernel_rfl);obtain ⟨x,p⟩:=a.mid (a.e4 r) c;have L:=i.e1 u;rw[a.vals 1 z _ rfl] at L;obtain ⟨z0,u4,z1,z2,z3⟩:=p.a4 r;have M:=i.e4 u;rw[u4] at M;have Z:=k.bpB;have D:=k.row.up p.up (fun x hx=>by simp at hx; subst hx; intro e; have:=k.row.lt _ e; omega);have a3:=k.len;have V:=k.Bw;have a5:=p.up.size;refine step_append_lies W rfl _ _ 24 rfl X.B 26 i0 (.agg #[.int .i64 0,.string ByteArray.empty,.string ByteArray.empty,.int .i64 0,.slice none 0 0,.slice none 0 0,.slice none 0 0,.slice none 0 0,.int .i64 0]) 9 152 Tryz.underlying24 G I J K rfl (by decide) _ _ _ L D ⟨z0,0,none⟩ 1 1 (cT x) M rfl (fun j v hv=>by rw[Z0r,Nat.zero_add]; exact z3 j v hv) (Zg0 x) (by decide) (by unfold maxLen; omega) (by omega) (by omega) _ rfl ?_;intro g cp W' w O t H;rw[i.put 5 (pT5 pos b) rfl u _];exact hK.out _ _ (a.s5 c z r p k w (by rw[Z0v] at O; exact O) (by rw[Z0v] at t; exact t))}
 refine StepsInv.cons (pT6 pos b s o m) rfl (fun d u W K' a c hw hK=> ?_) ?_
 {refine Z02 (v:= .pointer (some ⟨X.ob,X.fo,none⟩)) (W':=W) rfl ?_ (by rw[i.put 6 (pT6 pos b s o m) rfl u _]; exact hK.out _ _ (a.pure (by decide) (fun v' h=>by cases h; rfl)));simp only[execOp,pT6,N u,hfa,Sem.run_bind,Result.andThen_ok,Sem.run_pure]}
 refine StepsInv.cons (pT7 pos b) rfl (fun d u W K' a c hw hK=> ?_) StepsInv.nil
 {have B:=hw 5 (by kernel_rfl);obtain ⟨x,g,cp,p⟩:=a.post B;have e5:=i.e5 u;rw[p.u5] at e5;have e6:=i.e6 u;rw[a.vals 6 (hw 6 (by kernel_rfl)) _ rfl] at e6;have E:=p.cell;rw[c] at E;simp only[Bool.false_eq_true,if_false] at E;have a2:=(p.fz X.fo).trans k.fz;have a4:=Nat.lt_of_lt_of_le k.oblt p.up.size;have F:Tryz.prog.cellsOf 24=1:=by kernel_rfl
  refine Z0B (W':=W.setCell ⟨X.ob,X.fo,none⟩ (.slice (some ⟨g,0,none⟩) (X.xs.length+1) cp)) rfl ?_ (by rw[i.put 7 (pT7 pos b) rfl u _]; exact hK.out _ _ (a.s7 c B k p undef));simp only[execOp,pT7,e6,e5,Sem.run_bind,Result.andThen_ok,Sem.run_pure];go_simp}
 {intro d u W a c;obtain ⟨x,g,cp,p⟩:=a.post (c 5 (by show 5 < 8; omega));refine Y u W x g cp ⟨p.u5,p.par,p.is,p.r,p.lo,p.far,p.new,p.up,p.row, ?_,p.rest,p.fz⟩;have:=p.cell; rw[c 7 (by show 7 < 8; omega)] at this; exact this}
end
end Go.Proofs.YtkncdbaoaeeoiaaGreatDoor
namespace Go.Proofs.YtkncdbaoaeeoiaaGreatDoor
open Go.RowKit Tms
open Shp (Sh)
open Pso (St Ok Goes betw loop want)
def Dis (a b:Option Nat):Prop:= ∀x,a=some x->b≠some x
theorem Dis.symm {a b:Option Nat} (h:Dis a b):Dis b a:=fun x hx hy=>h x hy hx
theorem Dis.new {r b:Option Nat} {g n:Nat} (h:Dis r b) (a:r=some g\/n<=g) (d: ∀x,b=some x->x < n):Dis (some g) b:=fun x hx hy=>by
 obtain rfl:=Option.some.inj hx;rcases a with c | c
 {exact h _ c hy}
 {have:=d _ hy; omega}
structure TB where
 kind:Int
 of_:List UInt8
 name:List UInt8
 n:Int
 at_:Int
structure TR where
 AN:Option Addr
 cn:Nat
 ns:List (List UInt8)
 AV:Option Addr
 cv:Nat
 vs:List (List UInt8)
 AS:Option Addr
 cs:Nat
 S:List ES
 AP:Option Addr
 cp:Nat
 L:List ET
def TR.none_:TR:=⟨none,0,[],none,0,[],none,0,[],none,0,[]⟩
structure JE (W1:World) (bp ob:Nat) (t:TB) (R:TR) (W:World):Prop where
 up:UpT [bp,ob] W1 W
 lt:ob < W1.heap.size
 bpob:bp < ob
 c0:W.cell? ⟨ob,0,none⟩=some (.int .i64 t.kind)
 c1:W.cell? ⟨ob,1,none⟩=some (.string ⟨t.of_.toArray⟩)
 c2:W.cell? ⟨ob,2,none⟩=some (.string ⟨t.name.toArray⟩)
 c3:W.cell? ⟨ob,3,none⟩=some (.int .i64 t.n)
 c4:W.cell? ⟨ob,4,none⟩=some (.slice R.AN R.ns.length R.cn)
 c5:W.cell? ⟨ob,5,none⟩=some (.slice R.AV R.vs.length R.cv)
 c6:W.cell? ⟨ob,6,none⟩=some (.slice R.AS R.S.length R.cs)
 c7:W.cell? ⟨ob,7,none⟩=some (.slice R.AP R.L.length R.cp)
 c8:W.cell? ⟨ob,8,none⟩=some (.int .i64 t.at_)
 fz: ∀j,W.frozen? ⟨ob,j,none⟩=false
 rN:Row W W1.heap.size 9 1 cN R.AN R.cn R.ns
 rV:Row W W1.heap.size 9 1 cN R.AV R.cv R.vs
 rS:Row W W1.heap.size 43 5 cS R.AS R.cs R.S
 rP:Row W W1.heap.size 26 9 cT R.AP R.cp R.L
 dNV:Dis (rowT R.AN) (rowT R.AV)
 dNS:Dis (rowT R.AN) (rowT R.AS)
 dNP:Dis (rowT R.AN) (rowT R.AP)
 dVS:Dis (rowT R.AV) (rowT R.AS)
 dVP:Dis (rowT R.AV) (rowT R.AP)
 dSP:Dis (rowT R.AS) (rowT R.AP)
 isS: ∀x∈R.S,x.Is W/\W1.heap.size<=x.lo
 isT: ∀x∈R.L,x.Is W/\W1.heap.size<=x.lo
 fS: ∀x∈R.S,∀b,rowT R.AN=some b\/rowT R.AV=some b\/rowT R.AS=some b\/rowT R.AP=some b->b < x.lo\/x.hi<=b
 fT: ∀x∈R.L,∀b,rowT R.AN=some b\/rowT R.AV=some b\/rowT R.AS=some b\/rowT R.AP=some b->b < x.lo\/x.hi<=b
 smN: ∀n∈R.ns,n.length<=1000000
 smV: ∀n∈R.vs,n.length<=1000000
structure Chg (W1 W W':World) (bp ob fo:Nat) (r:Option Nat) (g:Nat) (v:Value):Prop where
 up:UpT (bp::ob::r.toList) W W'
 cell:W'.cell? ⟨ob,fo,none⟩=some v
 rest: ∀j,j≠fo->W'.cell? ⟨ob,j,none⟩=W.cell? ⟨ob,j,none⟩
 fz: ∀j,W'.frozen? ⟨ob,j,none⟩=W.frozen? ⟨ob,j,none⟩
 new:r=some g\/W.heap.size<=g
 lo: ∀x,r=some x->W1.heap.size<=x/\x < W.heap.size
section
variable {W1 W W' : World} {bp ob fo g : Nat} {t : TB} {R : TR} {r : Option Nat} {v : Value}
theorem Chg.mem (h:Chg W1 W W' bp ob fo r g v) {x:Nat} (a:x∈bp::ob::r.toList):x=bp\/x=ob\/r=some x:=by simpa using a
theorem Chg.row {α:Type} {e:TypeId} {m:Nat} {b:α->List Value} {A:Option Addr} {c:Nat} {l:List α} (h:Chg W1 W W' bp ob fo r g v) (d:Row W W1.heap.size e m b A c l) (f:Dis r (rowT A)) (j:bp < ob) (k:ob < W1.heap.size):Row W' W1.heap.size e m b A c l:=
 d.up h.up (fun x hx e=>by
  have i:=d.lt _ e;rcases h.mem hx with a | a | a
  {omega}
  {omega}
  · exact f x a e)
theorem Chg.isS {P:World->Prop} {a d:Nat} (h:Chg W1 W W' bp ob fo r g v) (f:New a d W P) (j:W1.heap.size<=a) (e: ∀b,r=some b->b < a\/d<=b) (i:bp < ob) (k:ob < W1.heap.size):New a d W' P:=
 f.up h.up (fun x hx=>by
  rcases h.mem hx with c | c | c
  {omega}
  {omega}
  · exact e x c)
theorem Chg.base (h:Chg W1 W W' bp ob fo r g v) (a:UpT [bp,ob] W1 W):UpT [bp,ob] W1 W':=by
 refine ⟨h.up.os.trans a.os,h.up.tape.trans a.tape,h.up.output.trans a.output,Nat.le_trans a.size h.up.size,fun x h1 h2=> ?_⟩;have b:=a.size;rw[h.up.block x (by omega) (fun hx=> ?_)]
 {exact a.block x h1 h2}
 {simp at h2;rcases h.mem hx with e | e | e
  {exact h2.1 e}
  {exact h2.2 e}
  {have:=h.lo _ e; omega}}
theorem JE.keep (h:JE W1 bp ob t R W) (d:UpT [bp] W W'):JE W1 bp ob t R W':=by
 have n:=h.up.size;have i:=h.lt;have f:=h.bpob;have a:=d.same (b:=ob) (by omega) (by simp; omega);have k: ∀ {α:Type} {e:TypeId} {m:Nat} {cf:α->List Value} {A:Option Addr} {c:Nat} {l:List α},Row W W1.heap.size e m cf A c l->Row W' W1.heap.size e m cf A c l:=fun hr=>hr.up d (fun x hx=>by simp at hx; subst hx; intro e; have:=hr.lt _ e; omega);exact ⟨h.up.trans (d.mono (fun x hx _=>by simp at hx; simp[hx])),i,f,(a.1 0).trans h.c0,(a.1 1).trans h.c1,(a.1 2).trans h.c2,(a.1 3).trans h.c3,(a.1 4).trans h.c4,(a.1 5).trans h.c5,(a.1 6).trans h.c6,(a.1 7).trans h.c7,(a.1 8).trans h.c8,fun j=>(a.2 j).trans (h.fz j),
  k h.rN,k h.rV,k h.rS,k h.rP,h.dNV,h.dNS,h.dNP,h.dVS,h.dVP,h.dSP,fun x hx=>⟨New.up (h.isS x hx).1 d (by simp; have:=(h.isS x hx).2; omega),(h.isS x hx).2⟩,fun x hx=>⟨New.up (h.isT x hx).1 d (by simp; have:=(h.isT x hx).2; omega),(h.isT x hx).2⟩,h.fS,h.fT,h.smN,h.smV⟩
section
variable {cap : Nat} (h : JE W1 bp ob t R W) (l' : List (List UInt8)) (hrow : Row W' W1.heap.size 9 1 cN (some ⟨g, 0, none⟩) cap l') (hsm : ∀ n ∈ l', n.length <= 1000000)
include cap h l' hrow hsm
theorem JE.putN (a:Chg W1 W W' bp ob 4 (rowT R.AN) g (.slice (some ⟨g,0,none⟩) (l').length cap)):
 JE W1 bp ob t { R with AN:=some ⟨g,0,none⟩,cn:=cap,ns:=l' } W':=by
 have w:=h.up.size;have d:=h.lt;have c:=h.bpob;have l: ∀b,rowT (some (⟨g,0,none⟩:Addr))=some b->g=b:=fun b e=>Option.some.inj e;have u: ∀x,rowT R.AN=some x->x < W.heap.size:=fun x e=>(h.rN.lt x e).2;have p: ∀x,rowT R.AV=some x->x < W.heap.size:=fun x e=>(h.rV.lt x e).2;have o: ∀x,rowT R.AS=some x->x < W.heap.size:=fun x e=>(h.rS.lt x e).2;have m: ∀x,rowT R.AP=some x->x < W.heap.size:=fun x e=>(h.rP.lt x e).2;have i: ∀y∈R.S,∀b,rowT ({ R with AN:=some ⟨g,0,none⟩,cn:=cap,ns:=l' }:TR).AN=some b\/rowT ({ R with AN:=some ⟨g,0,none⟩,cn:=cap,ns:=l' }:TR).AV=some b\/rowT ({ R with AN:=some ⟨g,0,none⟩,cn:=cap,ns:=l' }:TR).AS=some b\/rowT ({ R with AN:=some ⟨g,0,none⟩,cn:=cap,ns:=l' }:TR).AP=some b->b < y.lo\/y.hi<=b:=fun y hy b hb=>by
  have old:rowT R.AN=some b\/b=g\/True:=Or.inr (Or.inr trivial);rcases hb with e | e | e | e
  {obtain rfl:=l b e;rcases a.new with f | f
   {exact h.fS y hy _ (Or.inl f)}
   {right; have:=(h.isS y hy).1.hi_; omega}}
  {exact h.fS y hy b (Or.inr (Or.inl e))}
  {exact h.fS y hy b (Or.inr (Or.inr (Or.inl e)))}
  {exact h.fS y hy b (Or.inr (Or.inr (Or.inr e)))}
 have k: ∀y∈R.L,∀b,rowT ({ R with AN:=some ⟨g,0,none⟩,cn:=cap,ns:=l' }:TR).AN=some b\/rowT ({ R with AN:=some ⟨g,0,none⟩,cn:=cap,ns:=l' }:TR).AV=some b\/rowT ({ R with AN:=some ⟨g,0,none⟩,cn:=cap,ns:=l' }:TR).AS=some b\/rowT ({ R with AN:=some ⟨g,0,none⟩,cn:=cap,ns:=l' }:TR).AP=some b->b < y.lo\/y.hi<=b:=fun y hy b hb=>by
  have old:rowT R.AN=some b\/b=g\/True:=Or.inr (Or.inr trivial);rcases hb with e | e | e | e
  {obtain rfl:=l b e;rcases a.new with f | f
   {exact h.fT y hy _ (Or.inl f)}
   {right; have:=(h.isT y hy).1.hi_; omega}}
  {exact h.fT y hy b (Or.inr (Or.inl e))}
  {exact h.fT y hy b (Or.inr (Or.inr (Or.inl e)))}
  {exact h.fT y hy b (Or.inr (Or.inr (Or.inr e)))}
 have q: ∀x∈R.S,x.Is W'/\W1.heap.size<=x.lo:=fun x hx=>⟨a.isS (h.isS x hx).1 (h.isS x hx).2 (fun b e=>h.fS x hx b (Or.inl e)) c d,(h.isS x hx).2⟩;have s: ∀x∈R.L,x.Is W'/\W1.heap.size<=x.lo:=fun x hx=>⟨a.isS (h.isT x hx).1 (h.isT x hx).2 (fun b e=>h.fT x hx b (Or.inl e)) c d,(h.isT x hx).2⟩;exact ⟨a.base h.up,d,c,(a.rest 0 (by omega)).trans h.c0,(a.rest 1 (by omega)).trans h.c1,(a.rest 2 (by omega)).trans h.c2,(a.rest 3 (by omega)).trans h.c3,a.cell,(a.rest 5 (by omega)).trans h.c5,(a.rest 6 (by omega)).trans h.c6,(a.rest 7 (by omega)).trans h.c7,(a.rest 8 (by omega)).trans h.c8,fun j=>(a.fz j).trans (h.fz j),hrow,a.row h.rV (h.dNV) c d,a.row h.rS (h.dNS) c d,a.row h.rP (h.dNP) c d,Dis.new (h.dNV) a.new p,Dis.new (h.dNS) a.new o,Dis.new (h.dNP) a.new m,h.dVS,h.dVP,h.dSP,q,s,i,k,hsm,h.smV⟩
theorem JE.putV (a:Chg W1 W W' bp ob 5 (rowT R.AV) g (.slice (some ⟨g,0,none⟩) (l').length cap)):
 JE W1 bp ob t { R with AV:=some ⟨g,0,none⟩,cv:=cap,vs:=l' } W':=by
 have w:=h.up.size;have d:=h.lt;have c:=h.bpob;have l: ∀b,rowT (some (⟨g,0,none⟩:Addr))=some b->g=b:=fun b e=>Option.some.inj e;have m: ∀x,rowT R.AN=some x->x < W.heap.size:=fun x e=>(h.rN.lt x e).2;have u: ∀x,rowT R.AV=some x->x < W.heap.size:=fun x e=>(h.rV.lt x e).2;have p: ∀x,rowT R.AS=some x->x < W.heap.size:=fun x e=>(h.rS.lt x e).2;have o: ∀x,rowT R.AP=some x->x < W.heap.size:=fun x e=>(h.rP.lt x e).2;have i: ∀y∈R.S,∀b,rowT ({ R with AV:=some ⟨g,0,none⟩,cv:=cap,vs:=l' }:TR).AN=some b\/rowT ({ R with AV:=some ⟨g,0,none⟩,cv:=cap,vs:=l' }:TR).AV=some b\/rowT ({ R with AV:=some ⟨g,0,none⟩,cv:=cap,vs:=l' }:TR).AS=some b\/rowT ({ R with AV:=some ⟨g,0,none⟩,cv:=cap,vs:=l' }:TR).AP=some b->b < y.lo\/y.hi<=b:=fun y hy b hb=>by
  have old:rowT R.AV=some b\/b=g\/True:=Or.inr (Or.inr trivial);rcases hb with e | e | e | e
  {exact h.fS y hy b (Or.inl e)}
  {obtain rfl:=l b e;rcases a.new with f | f
   {exact h.fS y hy _ (Or.inr (Or.inl f))}
   {right; have:=(h.isS y hy).1.hi_; omega}}
  {exact h.fS y hy b (Or.inr (Or.inr (Or.inl e)))}
  {exact h.fS y hy b (Or.inr (Or.inr (Or.inr e)))}
 have k: ∀y∈R.L,∀b,rowT ({ R with AV:=some ⟨g,0,none⟩,cv:=cap,vs:=l' }:TR).AN=some b\/rowT ({ R with AV:=some ⟨g,0,none⟩,cv:=cap,vs:=l' }:TR).AV=some b\/rowT ({ R with AV:=some ⟨g,0,none⟩,cv:=cap,vs:=l' }:TR).AS=some b\/rowT ({ R with AV:=some ⟨g,0,none⟩,cv:=cap,vs:=l' }:TR).AP=some b->b < y.lo\/y.hi<=b:=fun y hy b hb=>by
  have old:rowT R.AV=some b\/b=g\/True:=Or.inr (Or.inr trivial);rcases hb with e | e | e | e
  {exact h.fT y hy b (Or.inl e)}
  {obtain rfl:=l b e;rcases a.new with f | f
   {exact h.fT y hy _ (Or.inr (Or.inl f))}
   {right; have:=(h.isT y hy).1.hi_; omega}}
  {exact h.fT y hy b (Or.inr (Or.inr (Or.inl e)))}
  {exact h.fT y hy b (Or.inr (Or.inr (Or.inr e)))}
 have q: ∀x∈R.S,x.Is W'/\W1.heap.size<=x.lo:=fun x hx=>⟨a.isS (h.isS x hx).1 (h.isS x hx).2 (fun b e=>h.fS x hx b (Or.inr (Or.inl e))) c d,(h.isS x hx).2⟩;have s: ∀x∈R.L,x.Is W'/\W1.heap.size<=x.lo:=fun x hx=>⟨a.isS (h.isT x hx).1 (h.isT x hx).2 (fun b e=>h.fT x hx b (Or.inr (Or.inl e))) c d,(h.isT x hx).2⟩;exact ⟨a.base h.up,d,c,(a.rest 0 (by omega)).trans h.c0,(a.rest 1 (by omega)).trans h.c1,(a.rest 2 (by omega)).trans h.c2,(a.rest 3 (by omega)).trans h.c3,(a.rest 4 (by omega)).trans h.c4,a.cell,(a.rest 6 (by omega)).trans h.c6,(a.rest 7 (by omega)).trans h.c7,(a.rest 8 (by omega)).trans h.c8,fun j=>(a.fz j).trans (h.fz j),a.row h.rN (h.dNV.symm) c d,hrow,a.row h.rS (h.dVS) c d,a.row h.rP (h.dVP) c d,(Dis.new (h.dNV.symm) a.new m).symm,h.dNS,h.dNP,Dis.new (h.dVS) a.new p,Dis.new (h.dVP) a.new o,h.dSP,q,s,i,k,h.smN,hsm⟩
end
section
variable {cap : Nat} (h : JE W1 bp ob t R W)
include cap h
theorem JE.putS (x:ES) (n:Row W' W1.heap.size 43 5 cS (some ⟨g,0,none⟩) cap (R.S++ [x])) (i:x.Is W') (B:W.heap.size<=x.lo) (l:g < x.lo\/x.hi<=g) (c:Chg W1 W W' bp ob 6 (rowT R.AS) g (.slice (some ⟨g,0,none⟩) (R.S++ [x]).length cap)):
 JE W1 bp ob t { R with AS:=some ⟨g,0,none⟩,cs:=cap,S:=R.S++ [x] } W':=by
 have D:=h.up.size;have f:=h.lt;have d:=h.bpob;have o: ∀b,rowT (some (⟨g,0,none⟩:Addr))=some b->g=b:=fun b e=>Option.some.inj e;have s: ∀x,rowT R.AN=some x->x < W.heap.size:=fun x e=>(h.rN.lt x e).2;have w: ∀x,rowT R.AV=some x->x < W.heap.size:=fun x e=>(h.rV.lt x e).2;have C: ∀x,rowT R.AS=some x->x < W.heap.size:=fun x e=>(h.rS.lt x e).2;have u: ∀x,rowT R.AP=some x->x < W.heap.size:=fun x e=>(h.rP.lt x e).2;have p: ∀y∈R.S,∀b,rowT ({ R with AS:=some ⟨g,0,none⟩,cs:=cap,S:=R.S++ [x] }:TR).AN=some b\/rowT ({ R with AS:=some ⟨g,0,none⟩,cs:=cap,S:=R.S++ [x] }:TR).AV=some b\/rowT ({ R with AS:=some ⟨g,0,none⟩,cs:=cap,S:=R.S++ [x] }:TR).AS=some b\/rowT ({ R with AS:=some ⟨g,0,none⟩,cs:=cap,S:=R.S++ [x] }:TR).AP=some b->b < y.lo\/y.hi<=b:=fun y a b hb=>by
  have old:rowT R.AS=some b\/b=g\/True:=Or.inr (Or.inr trivial);rcases hb with e | e | e | e
  {exact h.fS y a b (Or.inl e)}
  {exact h.fS y a b (Or.inr (Or.inl e))}
  {obtain rfl:=o b e;rcases c.new with k | k
   {exact h.fS y a _ (Or.inr (Or.inr (Or.inl k)))}
   {right; have:=(h.isS y a).1.hi_; omega}}
  {exact h.fS y a b (Or.inr (Or.inr (Or.inr e)))}
 have q: ∀y∈R.L,∀b,rowT ({ R with AS:=some ⟨g,0,none⟩,cs:=cap,S:=R.S++ [x] }:TR).AN=some b\/rowT ({ R with AS:=some ⟨g,0,none⟩,cs:=cap,S:=R.S++ [x] }:TR).AV=some b\/rowT ({ R with AS:=some ⟨g,0,none⟩,cs:=cap,S:=R.S++ [x] }:TR).AS=some b\/rowT ({ R with AS:=some ⟨g,0,none⟩,cs:=cap,S:=R.S++ [x] }:TR).AP=some b->b < y.lo\/y.hi<=b:=fun y a b hb=>by
  have old:rowT R.AS=some b\/b=g\/True:=Or.inr (Or.inr trivial);rcases hb with e | e | e | e
  {exact h.fT y a b (Or.inl e)}
  {exact h.fT y a b (Or.inr (Or.inl e))}
  {obtain rfl:=o b e;rcases c.new with k | k
   {exact h.fT y a _ (Or.inr (Or.inr (Or.inl k)))}
   {right; have:=(h.isT y a).1.hi_; omega}}
  {exact h.fT y a b (Or.inr (Or.inr (Or.inr e)))}
 have z: ∀x∈R.S,x.Is W'/\W1.heap.size<=x.lo:=fun x i=>⟨c.isS (h.isS x i).1 (h.isS x i).2 (fun b e=>h.fS x i b (Or.inr (Or.inr (Or.inl e)))) d f,(h.isS x i).2⟩;have A: ∀x∈R.L,x.Is W'/\W1.heap.size<=x.lo:=fun x i=>⟨c.isS (h.isT x i).1 (h.isT x i).2 (fun b e=>h.fT x i b (Or.inr (Or.inr (Or.inl e)))) d f,(h.isT x i).2⟩;have m: ∀b,rowT ({ R with AS:=some ⟨g,0,none⟩,cs:=cap,S:=R.S++ [x] }:TR).AN=some b\/rowT ({ R with AS:=some ⟨g,0,none⟩,cs:=cap,S:=R.S++ [x] }:TR).AV=some b\/rowT ({ R with AS:=some ⟨g,0,none⟩,cs:=cap,S:=R.S++ [x] }:TR).AS=some b\/rowT ({ R with AS:=some ⟨g,0,none⟩,cs:=cap,S:=R.S++ [x] }:TR).AP=some b->b < x.lo\/x.hi<=b:=fun b hb=>by
  rcases hb with e | e | e | e
  {have:=s b e; left; omega}
  {have:=w b e; left; omega}
  {obtain rfl:=o b e; exact l}
  {have:=u b e; left; omega}
 exact ⟨c.base h.up,f,d,(c.rest 0 (by omega)).trans h.c0,(c.rest 1 (by omega)).trans h.c1,(c.rest 2 (by omega)).trans h.c2,(c.rest 3 (by omega)).trans h.c3,(c.rest 4 (by omega)).trans h.c4,(c.rest 5 (by omega)).trans h.c5,c.cell,(c.rest 7 (by omega)).trans h.c7,(c.rest 8 (by omega)).trans h.c8,fun j=>(c.fz j).trans (h.fz j),c.row h.rN (h.dNS.symm) d f,c.row h.rV (h.dVS.symm) d f,n,c.row h.rP (h.dSP) d f,h.dNV,(Dis.new (h.dNS.symm) c.new s).symm,h.dNP,(Dis.new (h.dVS.symm) c.new w).symm,h.dVP,Dis.new (h.dSP) c.new u,(fun y a=>by
  rcases List.mem_append.1 a with a | a
  {exact z y a}
  · have e:y=x:=by simpa using a
    rw[e]; exact ⟨i,by omega⟩),A,(fun y a=>by
  rcases List.mem_append.1 a with a | a
  {exact p y a}
  · have e:y=x:=by simpa using a
    rw[e]; exact m),q,h.smN,h.smV⟩
theorem JE.putP (x:ET) (n:Row W' W1.heap.size 26 9 cT (some ⟨g,0,none⟩) cap (R.L++ [x])) (i:x.Is W') (B:W.heap.size<=x.lo) (l:g < x.lo\/x.hi<=g) (c:Chg W1 W W' bp ob 7 (rowT R.AP) g (.slice (some ⟨g,0,none⟩) (R.L++ [x]).length cap)):
 JE W1 bp ob t { R with AP:=some ⟨g,0,none⟩,cp:=cap,L:=R.L++ [x] } W':=by
 have D:=h.up.size;have f:=h.lt;have d:=h.bpob;have o: ∀b,rowT (some (⟨g,0,none⟩:Addr))=some b->g=b:=fun b e=>Option.some.inj e;have s: ∀x,rowT R.AN=some x->x < W.heap.size:=fun x e=>(h.rN.lt x e).2;have w: ∀x,rowT R.AV=some x->x < W.heap.size:=fun x e=>(h.rV.lt x e).2;have u: ∀x,rowT R.AS=some x->x < W.heap.size:=fun x e=>(h.rS.lt x e).2;have C: ∀x,rowT R.AP=some x->x < W.heap.size:=fun x e=>(h.rP.lt x e).2;have p: ∀y∈R.S,∀b,rowT ({ R with AP:=some ⟨g,0,none⟩,cp:=cap,L:=R.L++ [x] }:TR).AN=some b\/rowT ({ R with AP:=some ⟨g,0,none⟩,cp:=cap,L:=R.L++ [x] }:TR).AV=some b\/rowT ({ R with AP:=some ⟨g,0,none⟩,cp:=cap,L:=R.L++ [x] }:TR).AS=some b\/rowT ({ R with AP:=some ⟨g,0,none⟩,cp:=cap,L:=R.L++ [x] }:TR).AP=some b->b < y.lo\/y.hi<=b:=fun y a b hb=>by
  have old:rowT R.AP=some b\/b=g\/True:=Or.inr (Or.inr trivial);rcases hb with e | e | e | e
  {exact h.fS y a b (Or.inl e)}
  {exact h.fS y a b (Or.inr (Or.inl e))}
  {exact h.fS y a b (Or.inr (Or.inr (Or.inl e)))}
  {obtain rfl:=o b e;rcases c.new with k | k
   {exact h.fS y a _ (Or.inr (Or.inr (Or.inr k)))}
   {right; have:=(h.isS y a).1.hi_; omega}}
 have q: ∀y∈R.L,∀b,rowT ({ R with AP:=some ⟨g,0,none⟩,cp:=cap,L:=R.L++ [x] }:TR).AN=some b\/rowT ({ R with AP:=some ⟨g,0,none⟩,cp:=cap,L:=R.L++ [x] }:TR).AV=some b\/rowT ({ R with AP:=some ⟨g,0,none⟩,cp:=cap,L:=R.L++ [x] }:TR).AS=some b\/rowT ({ R with AP:=some ⟨g,0,none⟩,cp:=cap,L:=R.L++ [x] }:TR).AP=some b->b < y.lo\/y.hi<=b:=fun y a b hb=>by
  have old:rowT R.AP=some b\/b=g\/True:=Or.inr (Or.inr trivial);rcases hb with e | e | e | e
  {exact h.fT y a b (Or.inl e)}
  {exact h.fT y a b (Or.inr (Or.inl e))}
  {exact h.fT y a b (Or.inr (Or.inr (Or.inl e)))}
  {obtain rfl:=o b e;rcases c.new with k | k
   {exact h.fT y a _ (Or.inr (Or.inr (Or.inr k)))}
   {right; have:=(h.isT y a).1.hi_; omega}}
 have z: ∀x∈R.S,x.Is W'/\W1.heap.size<=x.lo:=fun x i=>⟨c.isS (h.isS x i).1 (h.isS x i).2 (fun b e=>h.fS x i b (Or.inr (Or.inr (Or.inr e)))) d f,(h.isS x i).2⟩;have A: ∀x∈R.L,x.Is W'/\W1.heap.size<=x.lo:=fun x i=>⟨c.isS (h.isT x i).1 (h.isT x i).2 (fun b e=>h.fT x i b (Or.inr (Or.inr (Or.inr e)))) d f,(h.isT x i).2⟩;have m: ∀b,rowT ({ R with AP:=some ⟨g,0,none⟩,cp:=cap,L:=R.L++ [x] }:TR).AN=some b\/rowT ({ R with AP:=some ⟨g,0,none⟩,cp:=cap,L:=R.L++ [x] }:TR).AV=some b\/rowT ({ R with AP:=some ⟨g,0,none⟩,cp:=cap,L:=R.L++ [x] }:TR).AS=some b\/rowT ({ R with AP:=some ⟨g,0,none⟩,cp:=cap,L:=R.L++ [x] }:TR).AP=some b->b < x.lo\/x.hi<=b:=fun b hb=>by
  rcases hb with e | e | e | e
  {have:=s b e; left; omega}
  {have:=w b e; left; omega}
  {have:=u b e; left; omega}
  {obtain rfl:=o b e; exact l}
 exact ⟨c.base h.up,f,d,(c.rest 0 (by omega)).trans h.c0,(c.rest 1 (by omega)).trans h.c1,(c.rest 2 (by omega)).trans h.c2,(c.rest 3 (by omega)).trans h.c3,(c.rest 4 (by omega)).trans h.c4,(c.rest 5 (by omega)).trans h.c5,(c.rest 6 (by omega)).trans h.c6,c.cell,(c.rest 8 (by omega)).trans h.c8,fun j=>(c.fz j).trans (h.fz j),c.row h.rN (h.dNP.symm) d f,c.row h.rV (h.dVP.symm) d f,c.row h.rS (h.dSP.symm) d f,n,h.dNV,h.dNS,(Dis.new (h.dNP.symm) c.new s).symm,h.dVS,(Dis.new (h.dVP.symm) c.new w).symm,(Dis.new (h.dSP.symm) c.new u).symm,z,(fun y a=>by
  rcases List.mem_append.1 a with a | a
  {exact A y a}
  · have e:y=x:=by simpa using a
    rw[e]; exact ⟨i,by omega⟩),p,(fun y a=>by
  rcases List.mem_append.1 a with a | a
  {exact q y a}
  · have e:y=x:=by simpa using a
    rw[e]; exact m),h.smN,h.smV⟩
end
end
end Go.Proofs.YtkncdbaoaeeoiaaGreatDoor
namespace Go.Proofs.YtkncdbaoaeeoiaaGreatDoor
section
open Go.RowKit Tms
open Shp (Sh)
open Pso (St Ok Goes betw loop want)
def TmIs (bp:Nat) (A:Option Addr) (c:Nat) (l:List Tk) (r:Tm×St) (W:World) (e:Ending) (W':World):Prop:=
 ∃x:ET,e= .returned (valT x)/\PAt W' bp A c l r.2/\UpT [bp] W W'/\x.Is W'/\W.heap.size<=x.lo/\(x.t=r.1/\few x.t=true)
def ExC (bp:Nat) (A:Option Addr) (c:Nat) (l:List Tk) (m:Nat):Prop:= ∀(W:World) (τ:St),Ok l τ->l.length - τ.1 < m->PAt W bp A c l τ->
 Calls Tryz.prog 36 #[.pointer (some ⟨bp,0,none⟩)] W (TmIs bp A c l (Pso.expr l m τ) W)
structure TokOk (l:List Tk):Prop where
 len:l.length<=5000
 txt: ∀b∈l,b.t.text.length<=1000000
 pl: ∀b∈l, -9223372036854775808<=b.at_/\b.at_<=9223372036854775807
 t2: ∀b∈l,b.t.text.length<=100000
theorem TokOk.at_ {l:List Tk} (h:TokOk l) (i:Nat): -9223372036854775808<=(Prs.look l i).at_/\(Prs.look l i).at_<=9223372036854775807:=by
 by_cases a:i < l.length
 {rw[Prs.look_in a]; exact h.pl _ (List.getElem_mem _)}
 {by_cases b:0 < l.length
  {rw[Prs.look_out a b]; exact h.pl (l[l.length - 1]'(by omega)) (List.getElem_mem _)}
  {rw[Prs.look_nil i (by omega)]; decide}}
theorem ZeE (L:List ET) (h: ∀y∈L,few y.t=true):fews (L.map ET.t)=true:=by
 induction L with
 | nil=>rfl
 | cons a L ih=>simp only[List.map_cons,fews,Bool.and_eq_true]; exact ⟨h a (by simp),ih (fun y hy=>h y (by simp[hy]))⟩
theorem Row.tms {W W':World} {B:Nat} {A:Option Addr} {c:Nat} {L:List ET} (h:Row W B 26 9 cT A c L) (p: ∀x∈L,x.Is W/\B<=x.lo) (l:W.heap.size<=W'.heap.size) (f: ∀b,B<=b->b < W.heap.size->SameT W W' b):
 (L.map ET.t).length=0\/ ∃(g off:Nat) (rs:Nat->TP),A=some ⟨g,off,none⟩/\g < W'.heap.size/\(∀i (h:i < (L.map ET.t).length),Tm9 W' g (off+i * 9) ((L.map ET.t)[i]'h) (rs i))/\ ∀i (h:i < (L.map ET.t).length),TmAt W' W'.heap.size (rs i) ((L.map ET.t)[i]'h):=by
 rcases h.read Z3E with m | ⟨g,rfl,n,e,o⟩
 {exact Or.inl (by rw[List.length_map]; exact m)}
 {have d: ∀i (hi:i < L.length),(L.map ET.q).getD i ⟨none,0,none,0,none,0,none,0⟩=(L[i]'hi).q:=fun i hi=>by simp[hi]
  refine Or.inr ⟨g,0,fun i=>(L.map ET.q).getD i ⟨none,0,none,0,none,0,none,0⟩,rfl,Nat.lt_of_lt_of_le e l,fun i hi=> ?_,fun i hi=> ?_⟩
  {rw[List.length_map] at hi;have a: ∀k,k < 9->W'.cell? ⟨g,i * 9+k,none⟩=(cT (L[i]'hi))[k]? :=fun k hk=>((f g n e).1 _).trans (o i hi k hk);show Tm9 W' g (0+i * 9) _ ((L.map ET.q).getD i ⟨none,0,none,0,none,0,none,0⟩);rw[d i hi,Nat.zero_add,List.getElem_map];exact ⟨a 0 (by omega),a 1 (by omega),a 2 (by omega),a 3 (by omega),a 4 (by omega),a 5 (by omega),a 6 (by omega),a 7 (by omega),a 8 (by omega)⟩}
  {rw[List.length_map] at hi;show TmAt W' W'.heap.size ((L.map ET.q).getD i ⟨none,0,none,0,none,0,none,0⟩) _;rw[d i hi,List.getElem_map];have j:=p _ (List.getElem_mem hi);exact j.1.at_ W' l (fun b k1 k2=>f b (by omega) (Nat.lt_of_lt_of_le k2 j.1.hi_))}}
structure TBok (t:TB):Prop where
 o:t.of_.length<=1000000
 nm:t.name.length<=1000000
 n: -9223372036854775808<=t.n/\t.n<=9223372036854775807
 a: -9223372036854775808<=t.at_/\t.at_<=9223372036854775807
 k:0<=t.kind/\t.kind<=100
def mkT (t:TB) (R:TR):Tm:=⟨t.kind,t.of_,t.name,t.n,R.ns,R.vs,R.S.map ES.t,R.L.map ET.t,t.at_⟩
def mkQ (R:TR):TP:=⟨R.AN,R.cn,R.AV,R.cv,R.AS,R.cs,R.AP,R.cp⟩
theorem Z6k {W:World} {B:Nat} (t:TB) (R:TR) (a:TBok t) (b:Row W B 9 1 cN R.AN R.cn R.ns) (c:Row W B 9 1 cN R.AV R.cv R.vs) (f:Row W B 43 5 cS R.AS R.cs R.S) (e:Row W B 26 9 cT R.AP R.cp R.L)
 (isS: ∀x∈R.S,x.Is W/\B<=x.lo) (d: ∀x∈R.L,x.Is W/\B<=x.lo) (h: ∀n∈R.ns,n.length<=1000000) (j: ∀n∈R.vs,n.length<=1000000) (m:R.ns.length<=1000000/\R.vs.length<=1000000/\R.S.length<=1000000/\R.L.length<=1000000):
 (⟨mkT t R,mkQ R,B,W.heap.size⟩:ET).Is W:=by
 refine ⟨Nat.le_refl _,fun W' hz hs=> ?_⟩;obtain ⟨s,u,v,w⟩:=m;have S:TSmall (mkT t R) (mkQ R):=by
  refine ⟨by have:=a.o; simp only[mkT]; omega,by have:=a.nm; simp only[mkT]; omega,fun x hx=>by have:=h x hx; omega,fun x hx=>by have:=j x hx; omega,by simp only[mkT]; omega,by simp only[mkT]; omega,by simp only[mkT,List.length_map]; omega,by simp only[mkT,List.length_map]; omega,b.cap.1,c.cap.1, ?_, ?_,b.cap.2,c.cap.2,f.cap.2,e.cap.2,a.n,a.a, ?_⟩
  {simp only[mkT,mkQ,List.length_map]; exact f.cap.1}
  {simp only[mkT,mkQ,List.length_map]; exact e.cap.1}
  {have:=a.k; simp only[mkT]; omega}
 have k:ShsAt W' W'.heap.size R.AS (R.S.map ES.t):=f.shs isS hz hs;rcases e.tms d hz hs with l | ⟨g,off,rs,o,p,q,r⟩
 {exact .mk _ _ 0 0 (fun _=>⟨none,0,none,0,none,0,none,0⟩) S (b.strs hz hs) (c.strs hz hs) k (Or.inl l) (fun i hi=>absurd hi (by simp only[mkT]; omega)) (fun i hi=>absurd hi (by simp only[mkT]; omega))}
 {exact .mk _ _ g off rs S (b.strs hz hs) (c.strs hz hs) k (Or.inr ⟨o,p⟩) q r}
theorem JE.new {W1 W:World} {bp c:Nat} {t:TB} {R:TR} (h:JE W1 bp c t R W) (b:TBok t) (a:R.ns.length<=1000000/\R.vs.length<=1000000/\R.S.length<=1000000/\R.L.length<=1000000): (⟨mkT t R,mkQ R,W1.heap.size,W.heap.size⟩:ET).Is W:=
 Z6k t R b h.rN h.rV h.rS h.rP h.isS h.isT h.smN h.smV a
theorem Z1E (t:TB) (R:TR) (a:R.ns.length<=1000000) (h: ∀y∈R.L,few y.t=true):few (mkT t R)=true:=by
 rw[Z3C];rw[Bool.and_eq_true,decide_eq_true_eq];exact ⟨Nat.le_trans a (by decide),ZeE _ h⟩
structure JX (W1:World) (bp ob:Nat) (t:TB) (r:Nat) (W:World) (ns vs:List (List UInt8)) (ss:List Sh) (ps:List Tm) (R:TR):Prop where
 je:JE W1 bp ob t R W
 en:R.ns=ns
 ev:R.vs=vs
 es:R.S.map ES.t=ss
 ep:R.L.map ET.t=ps
 ln:R.ns.length<=r
 lv:R.vs.length<=r
 ls:R.S.length<=r
 lp:R.L.length<=r+1
 fw: ∀y∈R.L,few y.t=true
theorem JX.keep {W1 W W':World} {bp a r:Nat} {t:TB} {ns vs:List (List UInt8)} {b:List Sh} {ps:List Tm} {R:TR} (h:JX W1 bp a t r W ns vs b ps R) (c:UpT [bp] W W'):JX W1 bp a t r W' ns vs b ps R:=
 ⟨h.je.keep c,h.en,h.ev,h.es,h.ep,h.ln,h.lv,h.ls,h.lp,h.fw⟩
end
end Go.Proofs.YtkncdbaoaeeoiaaGreatDoor
