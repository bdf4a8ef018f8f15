/- What the proofs of ParseAround want, part 9. -/
import Derived.Test.YtkncdbaoaeeoiaaGreatDoorL0n8
set_option linter.unusedVariables false
set_option linter.unusedSimpArgs false
set_option linter.unusedSectionVars false
set_option maxRecDepth 100000
set_option maxHeartbeats 16000000
namespace Go.Proofs.YtkncdbaoaeeoiaaGreatDoor
section
open Go.RowKit Tms
open Shp (Sh)
open Pso (St)
structure EN where
 t:List UInt8
 lo:Nat
 hi:Nat
def EN.Is (x:EN) (W:World):Prop:=New x.lo x.hi W (fun _=>True)
def valN (x:EN):Value:= .string ⟨x.t.toArray⟩
def cNN (x:EN):List Value:= [.string ⟨x.t.toArray⟩]
theorem Zax (x:EN): ∀u∈cNN x,u.oneCell'=true:=by
 intro u a;simp only[cNN,List.mem_cons,List.not_mem_nil,or_false] at a;subst a; rfl
def enOf (l:List (List UInt8)):List EN:=l.map fun t=>⟨t,0,0⟩
theorem Z54 (l:List (List UInt8)): (enOf l).flatMap cNN=l.flatMap cN:=by
 induction l with
 | nil=>rfl
 | cons a l ih=>simp only[enOf,List.map_cons,List.flatMap_cons] at ih ⊢; rw[ih]; rfl
theorem Z0S (l:List (List UInt8)): (enOf l).length=l.length:=by simp[enOf]
theorem Z8r {W:World} {B c:Nat} {A:Option Addr} {l:List (List UInt8)} (h:Row W B 9 1 cN A c l):Row W B 9 1 cNN A c (enOf l):=by
 unfold Row at h ⊢; rw[Z0S,Z54]; exact h
def qN0 (pos:String) (b s sp tC fi fnN:Nat):Oper:=
 { dst:=some b,op:= .fieldAddr tC (.tmp s) fi,type:=0,pos:=pos,after:=#[],guard:=none }
def qN1 (pos:String) (b s sp tC fi fnN:Nat):Oper:=
 { dst:=some (b+1),op:= .load 22 (.tmp b),type:=22,pos:=pos,after:=#[{ on:=0,ground:= .data }],guard:=none }
def qN2 (pos:String) (b s sp tC fi fnN:Nat):Oper:=
 { dst:=some (b+2),op:= .load 59 (.tmp sp),type:=59,pos:=pos,after:=#[],guard:=none }
def qN3 (pos:String) (b s sp tC fi fnN:Nat):Oper:=
 { dst:=some (b+3),op:= .nilCheck (.tmp (b+2)),type:=0,pos:=pos,after:=#[{ on:=2,ground:= .data }],guard:=none }
def qN4 (pos:String) (b s sp tC fi fnN:Nat):Oper:=
 { dst:=some (b+4),op:= .fieldAddr 81 (.tmp (b+3)) 0,type:=0,pos:=pos,after:=#[{ on:=3,ground:= .data }],guard:=none }
def qN5 (pos:String) (b s sp tC fi fnN:Nat) (fn:Nat):Oper:=
 { dst:=some (b+5),op:= .call { callee:= .value (.func fn),args:=#[.tmp (b+4)],argTypes:=#[79] },type:=9,pos:=pos,after:=#[{ on:=4,ground:= .data }],guard:=none }
def qN6 (pos:String) (b s sp tC fi fnN:Nat):Oper:=
 { dst:=some (b+6),op:= .buildSlice 22 1 #[(0,.tmp (b+5))],type:=22,pos:=pos,after:=#[{ on:=5,ground:= .data }],guard:=none }
def qN7 (pos:String) (b s sp tC fi fnN:Nat):Oper:=
 { dst:=some (b+7),op:= .call { callee:= .builtin .append,args:=#[.tmp (b+1),.tmp (b+6)],argTypes:=#[22,22] },type:=22,pos:=pos,after:=#[{ on:=1,ground:= .data },{ on:=6,ground:= .data },{ on:=5,ground:= .chain }],guard:=none }
def qN8 (pos:String) (b s sp tC fi fnN:Nat):Oper:=
 { dst:=some (b+8),op:= .fieldAddr tC (.tmp s) fi,type:=0,pos:=pos,after:=#[{ on:=0,ground:= .phase },{ on:=1,ground:= .phase },{ on:=2,ground:= .phase },{ on:=3,ground:= .phase },{ on:=4,ground:= .phase },{ on:=5,ground:= .phase },{ on:=6,ground:= .phase },{ on:=7,ground:= .phase }],guard:=none }
def qN9 (pos:String) (b s sp tC fi fnN:Nat):Oper:=
 { dst:=none,op:= .store 22 (.tmp (b+8)) (.tmp (b+7)),type:=0,pos:=pos,after:=#[{ on:=8,ground:= .data },{ on:=7,ground:= .data },{ on:=7,ground:= .chain },{ on:=0,ground:= .phase },{ on:=1,ground:= .phase },{ on:=2,ground:= .phase },{ on:=3,ground:= .phase },{ on:=4,ground:= .phase },{ on:=5,ground:= .phase },{ on:=6,ground:= .phase },{ on:=7,ground:= .phase }],guard:=none }
def plnN (pos:String) (b s sp tC fi fnN:Nat) (fn:Nat):Array Oper:=
 #[qN0 pos b s sp tC fi fnN,qN1 pos b s sp tC fi fnN,qN2 pos b s sp tC fi fnN,qN3 pos b s sp tC fi fnN,qN4 pos b s sp tC fi fnN,qN5 pos b s sp tC fi fnN fn,qN6 pos b s sp tC fi fnN,qN7 pos b s sp tC fi fnN,qN8 pos b s sp tC fi fnN,qN9 pos b s sp tC fi fnN]
structure PtxN where
 w:World
 bp:Nat
 A:Option Addr
 c:Nat
 l:List Tk
 τ:St
 ob:Nat
 fo:Nat
 B:Nat
 AR:Option Addr
 cap:Nat
 xs:List EN
 R:EN->Prop
 fnN:Nat
namespace PtxN
variable (X : PtxN)
def val (j:Nat):Option Value:=match j with
 | 0=>some (.pointer (some ⟨X.ob,X.fo,none⟩))
 | 1=>some (.slice X.AR X.xs.length X.cap)
 | 2=>some (.pointer (some ⟨X.bp,0,none⟩))
 | 3=>some (.pointer (some ⟨X.bp,0,none⟩))
 | 4=>some (.pointer (some ⟨X.bp,0,none⟩))
 | 8=>some (.pointer (some ⟨X.ob,X.fo,none⟩))
 | _=>none
structure Good:Prop where
 cell:X.w.cell? ⟨X.ob,X.fo,none⟩=some (.slice X.AR X.xs.length X.cap)
 fz:X.w.frozen? ⟨X.ob,X.fo,none⟩=false
 oblt:X.ob < X.w.heap.size
 bpob:X.bp < X.ob
 row:Row X.w X.B 9 1 cNN X.AR X.cap X.xs
 obB:X.ob < X.B
 bpB:X.bp < X.B
 Bw:X.B<=X.w.heap.size
 len:X.xs.length<=900000
structure Mid (d:Nat->Bool) (u:Nat->Value) (W:World) (x:EN):Prop where
 uC:u 5=valN x
 par:PAt W X.bp X.A X.c X.l X.τ
 up:UpT [X.bp] X.w W
 is:x.Is W
 r:X.R x
 lo:X.w.heap.size<=x.lo
 aS:d 6=true-> ∃z0,u 6= .slice (some ⟨z0,0,none⟩) 1 1/\X.w.heap.size<=z0/\z0 < W.heap.size/\ ∀(j:Nat) v,(cNN x)[j]? =some v->W.cell? ⟨z0,j,none⟩=some v
structure Post (d:Nat->Bool) (u:Nat->Value) (W:World) (x:EN) (g cp:Nat):Prop where
 uA:u 7= .slice (some ⟨g,0,none⟩) (X.xs.length+1) cp
 par:PAt W X.bp X.A X.c X.l X.τ
 is:x.Is W
 r:X.R x
 lo:X.w.heap.size<=x.lo
 far:g < x.lo\/x.hi<=g
 new:rowT X.AR=some g\/X.w.heap.size<=g
 up:UpT (X.bp::X.ob::(rowT X.AR).toList) X.w W
 row:W.ownsRow X.B 9 1 (.slice (some ⟨g,0,none⟩) (X.xs.length+1) cp) (X.xs.length+1) (X.xs.flatMap cNN++cNN x)
 cell:W.cell? ⟨X.ob,X.fo,none⟩=some (if d 9=true then .slice (some ⟨g,0,none⟩) (X.xs.length+1) cp else .slice X.AR X.xs.length X.cap)
 rest: ∀j,j≠X.fo->W.cell? ⟨X.ob,j,none⟩=X.w.cell? ⟨X.ob,j,none⟩
 fz: ∀j,W.frozen? ⟨X.ob,j,none⟩=X.w.frozen? ⟨X.ob,j,none⟩
structure Inv (d:Nat->Bool) (u:Nat->Value) (W:World):Prop where
 vals: ∀j,d j=true-> ∀v,X.val j=some v->u j=v
 pre:d 5=false->Below X.w.heap.size X.w W
 mid:d 5=true->d 7=false-> ∃x,X.Mid d u W x
 post:d 7=true-> ∃x g cp,X.Post d u W x g cp
variable {X : PtxN} {d : Nat -> Bool} {u : Nat -> Value} {W W' : World}
theorem Good.start (h:X.Good):X.Inv (fun _=>false) u X.w.drew:=⟨nofun,fun _=>Y2.drew,nofun,nofun⟩
theorem ne9 (d:Nat->Bool) {i j:Nat} (h:j≠i):also d i j=d j:=by
 unfold also;have:Nat.beq j i=false:=by cases a:Nat.beq j i <;> first | rfl | exact absurd (Nat.eq_of_beq_eq_true a) h
 rw[this]; rfl
theorem self9 (d:Nat->Bool) (i:Nat):also d i i=true:=by unfold also; rw[Nat.beq_refl]; rfl
section
variable (h : X.Inv d u W)
include h
theorem Inv.vals' {i:Nat} {v:Value} (b: ∀v',X.val i=some v'->v=v'): ∀j,also d i j=true-> ∀v',X.val j=some v'->upd u i v j=v':=fun j hj v' hv'=>by
 by_cases a:j=i
 {subst a; rw[Z09]; exact b v' hv'}
 {rw[ne9 d a] at hj; rw[Z06 u v a]; exact h.vals j hj v' hv'}
theorem Inv.pure {i:Nat} (e:i < 5\/i=8) {v:Value} (c: ∀v',X.val i=some v'->v=v'):X.Inv (also d i) (upd u i v) W:=by
 have k: ∀j,j=5\/j=6\/j=7\/j=9->also d i j=d j/\upd u i v j=u j:=fun j hj=>⟨ne9 d (by omega),Z06 u v (by omega)⟩;refine ⟨h.vals' c, ?_, ?_, ?_⟩
 {rw[(k 5 (by omega)).1]; exact h.pre}
 {rw[(k 5 (by omega)).1,(k 7 (by omega)).1];intro b a;obtain ⟨x,p⟩:=h.mid b a;refine ⟨x, ?_,p.par,p.up,p.is,p.r,p.lo, ?_⟩
  {rw[(k 5 (by omega)).2]; exact p.uC}
  {rw[(k 6 (by omega)).1,(k 6 (by omega)).2]; exact p.aS}}
 {rw[(k 7 (by omega)).1];intro a;obtain ⟨x,g,cp,p⟩:=h.post a;refine ⟨x,g,cp, ?_,p.par,p.is,p.r,p.lo,p.far,p.new,p.up,p.row, ?_,p.rest,p.fz⟩
  {rw[(k 7 (by omega)).2]; exact p.uA}
  {rw[(k 9 (by omega)).1]; exact p.cell}}
theorem Inv.first (b:d 7=false):UpT [X.bp] X.w W:=by
 cases a:d 5 with
 | false=>exact Z05 (h.pre a)
 | true=>obtain ⟨x,p⟩:=h.mid a b; exact p.up
theorem Inv.sC (i:d 5=false) (f:d 6=false) (g:d 7=false) {x:EN} (l:PAt W' X.bp X.A X.c X.l X.τ) (n:UpT [X.bp] W W') (o:x.Is W') (a:W.heap.size<=x.lo) (m:X.R x):X.Inv (also d 5) (upd u 5 (valN x)) W':=by
 have k: ∀j,j≠5->also d 5 j=d j/\upd u 5 (valN x) j=u j:=fun j hj=>⟨ne9 d hj,Z06 u _ hj⟩;have c:=h.pre i;refine ⟨h.vals' (by intro p b; cases b), ?_,fun _ _=>⟨x,Z09 _ _ _,l,(Z05 c).trans n,o,m,Nat.le_trans c.size a, ?_⟩, ?_⟩
 {rw[self9]; intro e; cases e}
 {rw[(k 6 (by omega)).1,f]; intro e; cases e}
 {rw[(k 7 (by omega)).1,g]; intro e; cases e}
theorem Inv.sS (f:d 7=false) (c:d 5=true) {x:EN} (p:X.Mid d u W x) (t:TypeId):X.Inv (also d 6) (upd u 6 (.slice (some ⟨W.heap.size,0,none⟩) 1 1)) (W.alloc (.cells #[.string ⟨x.t.toArray⟩] t)):=by
 have k: ∀j,j≠6->also d 6 j=d j/\upd u 6 (.slice (some ⟨W.heap.size,0,none⟩) 1 1) j=u j:=fun j hj=>⟨ne9 d hj,Z06 u _ hj⟩;have a:=Z01 W (.cells #[.string ⟨x.t.toArray⟩] t);refine ⟨h.vals' (by intro g b; cases b), ?_,fun _ _=>⟨x, ?_,p.par.below a,p.up.below a,New.below p.is a,p.r,p.lo,fun _=>⟨W.heap.size,Z09 _ _ _,p.up.size,by simp,fun j v hv=> ?_⟩⟩, ?_⟩
 {rw[(k 5 (by omega)).1,c]; intro e; cases e}
 {rw[(k 5 (by omega)).2]; exact p.uC}
 {rw[World.cell?_alloc_at _ _ _ _ rfl];simpa[cNN] using hv}
 {rw[(k 7 (by omega)).1,f]; intro e; cases e}
theorem Inv.sA (z:d 7=false) (r:d 5=true) (s:d 9=false) {x:EN} (p:X.Mid d u W x) {g cp:Nat} (c:X.Good) (l:W'.ownsRow X.B 9 1 (.slice (some ⟨g,0,none⟩) (X.xs.length+1) cp) (X.xs.length+1) (X.xs.flatMap cNN++cNN x))
 (f:W.grownBy W' (rowT X.AR)) (i:rowT X.AR=some g\/g=W.heap.size):X.Inv (also d 7) (upd u 7 (.slice (some ⟨g,0,none⟩) (X.xs.length+1) cp)) W':=by
 have k: ∀j,j≠7->also d 7 j=d j/\upd u 7 (.slice (some ⟨g,0,none⟩) (X.xs.length+1) cp) j=u j:=fun j hj=>⟨ne9 d hj,Z06 u _ hj⟩;have n:=p.up.size;have b: ∀k,rowT X.AR=some k->X.B<=k/\k < X.w.heap.size:=fun k hk=>c.row.lt k hk;have t:=c.Bw;have v:=c.bpob;have q:UpT (rowT X.AR).toList W W':=⟨f.os,f.tape,f.output,f.size,fun x a h2=>f.block x a (fun e=>h2 (by rw[<-e]; simp))⟩;have m:SameT X.w W' X.ob:=(p.up.same c.oblt (by simp; omega)).trans (q.same (Nat.lt_of_lt_of_le c.oblt n) (by
  intro w;have a:rowT X.AR=some X.ob:=by simpa using w
  have:=b _ a; have:=c.obB; omega))
 refine ⟨h.vals' (by intro A o; cases o), ?_, ?_,fun _=>⟨x,g,cp,Z09 _ _ _,p.par.keep q (fun k hk=> ?_),New.grown p.is f (fun k hk=>Or.inl ?_),p.r,p.lo, ?_, ?_, ?_,l, ?_,fun j hj=>m.1 j,fun j=>m.2 j⟩⟩
 {rw[(k 5 (by omega)).1]; intro e; rw[r] at e; cases e}
 {rw[self9]; intro _ e; cases e}
 {have a:rowT X.AR=some k:=by simpa using hk
  have:=b _ a; have:=c.bpB; omega}
 {have:=b _ hk; have:=p.lo; omega}
 {rcases i with a | a
  {left; have:=b _ a; have:=p.lo; omega}
  {right; have:=p.is.hi_; omega}}
 {rcases i with a | a
  {exact Or.inl a}
  {exact Or.inr (by omega)}}
 {exact (p.up.mono (fun y hy _=>by simp at hy; simp[hy])).trans (q.mono (fun y hy _=>by simp at hy; simp[hy]))}
 {rw[(k 9 (by omega)).1,s]; exact (m.1 _).trans c.cell}
theorem Inv.sT (i:d 5=true) (l:d 7=true) (a:X.Good) {x:EN} {g cp:Nat} (p:X.Post d u W x g cp) (v:Value):X.Inv (also d 9) (upd u 9 v) (W.setCell ⟨X.ob,X.fo,none⟩ (.slice (some ⟨g,0,none⟩) (X.xs.length+1) cp)):=by
 have k: ∀j,j≠9->also d 9 j=d j/\upd u 9 v j=u j:=fun j hj=>⟨ne9 d hj,Z06 u _ hj⟩;have o:X.B<=g/\g < W.heap.size:=p.row.lt g rfl;have n:=a.bpB;have r:=a.obB;have q:=p.lo;have m:=a.Bw;have f:=a.bpob;have c:UpT [X.ob] W (W.setCell ⟨X.ob,X.fo,none⟩ (.slice (some ⟨g,0,none⟩) (X.xs.length+1) cp)):=(UpT.refl _ _).set _ (Or.inr (by simp)) _;refine ⟨h.vals' (by intro s b; cases b), ?_, ?_,fun _=>⟨x,g,cp, ?_,p.par.keep c (by simp; omega),New.up p.is c (by simp; omega),p.r,p.lo,p.far,p.new, ?_, ?_, ?_,fun j hj=> ?_,fun j=> ?_⟩⟩
 {rw[(k 5 (by omega)).1]; intro e; rw[i] at e; cases e}
 {rw[(k 7 (by omega)).1,l]; intro _ e; cases e}
 {rw[(k 7 (by omega)).2]; exact p.uA}
 {exact p.up.trans (c.mono (fun y hy _=>by simp at hy; simp[hy]))}
 {exact Z1n p.row (by intro e; have:=Option.some.inj e; simp at this; omega) _}
 {rw[self9,if_pos rfl]; exact World.cell?_setCell_same _ _ _ p.cell}
 {rw[World.cell?_setCell_other _ _ _ _ (fun e=>hj (by have:=congrArg Addr.off e; simpa using this.symm))]; exact p.rest j hj}
 {rw[World.frozen?_setCell]; exact p.fz j}
end
end PtxN
structure PfrN (pos:String) (b s sp tC fi fnN:Nat) (fn:Nat) (A: (Nat->Value)->Act) (vs vp:Value):Prop where
 put: ∀(i:Nat) o,(plnN pos b s sp tC fi fnN fn)[i]? =some o-> ∀u v,(A u).put o.dst v=A (upd u i v)
 es: ∀u,(A u).eval (.tmp s)=vs
 ep: ∀u,(A u).eval (.tmp sp)=vp
 e0: ∀u,(A u).eval (.tmp b)=u 0
 e1: ∀u,(A u).eval (.tmp (b+1))=u 1
 e2: ∀u,(A u).eval (.tmp (b+2))=u 2
 e3: ∀u,(A u).eval (.tmp (b+3))=u 3
 e4: ∀u,(A u).eval (.tmp (b+4))=u 4
 e5: ∀u,(A u).eval (.tmp (b+5))=u 5
 e6: ∀u,(A u).eval (.tmp (b+6))=u 6
 e7: ∀u,(A u).eval (.tmp (b+7))=u 7
 e8: ∀u,(A u).eval (.tmp (b+8))=u 8
theorem prgN {Q:Exit->Act->World->Prop} {id:Nat} (pos:String) (b s l:Nat) (i c q:Nat) (X:PtxN) (n:X.Good) (pb:Nat) (J:X.w.cell? ⟨pb,0,none⟩=some (.pointer (some ⟨X.bp,0,none⟩))) (C:pb < X.w.heap.size) (K:pb≠X.bp)
 (A: (Nat->Value)->Act) (T:Nat->Value) (m:PfrN pos b s l i c X.fnN q A (.pointer (some ⟨X.ob,0,none⟩)) (.pointer (some ⟨pb,0,none⟩)))
 (hfa: ∀W,(Instr.fieldAt i (.pointer (some ⟨X.ob,0,none⟩)) c).run Tryz.prog W= .ok (.pointer (some ⟨X.ob,X.fo,none⟩)) W)
 (a7: ∀args W,(callFunc q args).run Tryz.prog W= .ok (.enter q args) W)
 (t: ∀W,Below X.w.heap.size X.w W->Calls Tryz.prog q #[.pointer (some ⟨X.bp,0,none⟩)] W fun e W'=> ∃x:EN,e= .returned (valN x)/\PAt W' X.bp X.A X.c X.l X.τ/\UpT [X.bp] W W'/\x.Is W'/\W.heap.size<=x.lo/\X.R x)
 (hQ: ∀u W x g cp,X.Post (fun _=>true) u W x g cp->Q .normal (A u) W):
 (Code.region id (plnN pos b s l i c X.fnN q) true).wp Tryz.prog Q (A T) X.w:=by
 obtain ⟨i0,I,L,M,N⟩:=Z1e Z5q;have P:=m.es;have Y:=m.ep;have a5:Tryz.prog.cellsOf 22=1:=by kernel_rfl
 have a6:Tryz.prog.cellsOf 59=1:=by kernel_rfl
 refine Z3I (rs:= [0,1,2,3,4,5,6,7,8,9]) A T X.Inv (by kernel_rfl) (by kernel_rfl) (by kernel_rfl) n.start ?_ ?_;refine StepsInv.cons2 (qN0 pos b s l i c X.fnN) rfl (fun d u W K' hS a k hw hK=> ?_) ?_
 {refine Z02 (v:= .pointer (some ⟨X.ob,X.fo,none⟩)) (W':=W) rfl ?_ (by rw[m.put 0 (qN0 pos b s l i c X.fnN) rfl u _]; exact hK.out _ _ (a.pure (by omega) (fun v' h=>by cases h; rfl)));simp only[execOp,qN0,P u,hfa,Sem.run_bind,Result.andThen_ok,Sem.run_pure]}
 refine StepsInv.cons2 (qN1 pos b s l i c X.fnN) rfl (fun d u W K' hS a k hw hK=> ?_) ?_
 {have e0:=m.e0 u;rw[a.vals 0 (hw 0 (by kernel_rfl)) _ rfl] at e0;have r:d 7=false:=by cases e:d 7 with | false=>rfl | true=>have:=hS 7 _ rfl e 1 (by kernel_rfl); rw[k] at this; cases this
  have D:=a.first r;have a4:=n.bpob;obtain ⟨E,z⟩:W.cell? ⟨X.ob,X.fo,none⟩=some (.slice X.AR X.xs.length X.cap)/\X.ob < W.heap.size:=⟨((D.same n.oblt (by simp; omega)).1 _).trans n.cell,Nat.lt_of_lt_of_le n.oblt D.size⟩;refine Z02 (v:= .slice X.AR X.xs.length X.cap) (W':=W) rfl ?_ (by rw[m.put 1 (qN1 pos b s l i c X.fnN) rfl u _]; exact hK.out _ _ (a.pure (by omega) (fun v' h=>by cases h; rfl)));simp only[execOp,qN1,e0,Sem.run_bind,Result.andThen_ok,Sem.run_pure,List.map_toArray,List.map_cons,List.map_nil];go_simp}
 refine StepsInv.cons2 (qN2 pos b s l i c X.fnN) rfl (fun d u W K' hS a k hw hK=> ?_) ?_
 {have o:d 5=false:=by cases e:d 5 with | false=>rfl | true=>have:=hS 3 _ rfl (hS 4 _ rfl (hS 5 _ rfl (e) 4 (by kernel_rfl)) 3 (by kernel_rfl)) 2 (by kernel_rfl); rw[k] at this; cases this
  have D:UpT [X.bp] X.w W:=Z05 (a.pre o);obtain ⟨E,z⟩:W.cell? ⟨pb,0,none⟩=some (.pointer (some ⟨X.bp,0,none⟩))/\pb < W.heap.size:=⟨((D.same C (by simp[K])).1 _).trans J,Nat.lt_of_lt_of_le C D.size⟩;refine Z02 (v:= .pointer (some ⟨X.bp,0,none⟩)) (W':=W) rfl ?_ (by rw[m.put 2 (qN2 pos b s l i c X.fnN) rfl u _]; exact hK.out _ _ (a.pure (by omega) (fun v' h=>by cases h; rfl)));simp only[execOp,qN2,Y u,Sem.run_bind,Result.andThen_ok,Sem.run_pure,List.map_toArray,List.map_cons,List.map_nil];go_simp}
 refine StepsInv.cons2 (qN3 pos b s l i c X.fnN) rfl (fun d u W K' hS a k hw hK=> ?_) ?_
 {have e2:=m.e2 u;rw[a.vals 2 (hw 2 (by kernel_rfl)) _ rfl] at e2;refine Z02 (v:= .pointer (some ⟨X.bp,0,none⟩)) (W':=W) rfl ?_ (by rw[m.put 3 (qN3 pos b s l i c X.fnN) rfl u _]; exact hK.out _ _ (a.pure (by omega) (fun v' h=>by cases h; rfl)));simp only[execOp,qN3,e2,Sem.run_bind,Result.andThen_ok,Sem.run_pure,List.map_toArray,List.map_cons,List.map_nil]
  all_goals first | (go_simp; done) | (go_simp; rfl)}
 refine StepsInv.cons2 (qN4 pos b s l i c X.fnN) rfl (fun d u W K' hS a k hw hK=> ?_) ?_
 {have e3:=m.e3 u;rw[a.vals 3 (hw 3 (by kernel_rfl)) _ rfl] at e3;refine Z02 (v:= .pointer (some ⟨X.bp,0,none⟩)) (W':=W) rfl ?_ (by rw[m.put 4 (qN4 pos b s l i c X.fnN) rfl u _]; exact hK.out _ _ (a.pure (by omega) (fun v' h=>by cases h; rfl)));simp only[execOp,qN4,e3,Sem.run_bind,Result.andThen_ok,Sem.run_pure,List.map_toArray,List.map_cons,List.map_nil]
  all_goals first | (go_simp; done) | (go_simp; rfl)}
 refine StepsInv.cons2 (qN5 pos b s l i c X.fnN q) rfl (fun d u W K' hS a k hw hK=> ?_) ?_
 {have w:d 6=false:=by cases e:d 6 with | false=>rfl | true=>have:=hS 6 _ rfl e 5 (by kernel_rfl); rw[k] at this; cases this
  have r:d 7=false:=by cases e:d 7 with | false=>rfl | true=>have:=hS 7 _ rfl e 6 (by kernel_rfl); rw[w] at this; cases this
  have e4:=m.e4 u;rw[a.vals 4 (hw 4 (by kernel_rfl)) _ rfl] at e4;refine Z0M (f:=q) (args:=#[.pointer (some ⟨X.bp,0,none⟩)]) (W':=W) rfl ?_ ((t W (a.pre k)).mono ?_)
  {simp only[execOp,qN5,e4,Sem.run_bind,Result.andThen_ok,Sem.run_pure,resolve,invoke,List.map_toArray,List.map_cons,List.map_nil];have V: (A u).eval (.func q)= .func (.func q) #[] #[]:=rfl;rw[V];go_simp}
  {rintro e W' ⟨x,rfl,F,Z,o,h6,G⟩;exact ⟨_,rfl,by rw[m.put 5 (qN5 pos b s l i c X.fnN q) rfl u _]; exact hK.out _ _ (a.sC k w r F Z o h6 G)⟩}}
 refine StepsInv.cons2 (qN6 pos b s l i c X.fnN) rfl (fun d u W K' hS a k hw hK=> ?_) ?_
 {have o:=hw 5 (by kernel_rfl);have r:d 7=false:=by cases e:d 7 with | false=>rfl | true=>have:=hS 7 _ rfl e 6 (by kernel_rfl); rw[k] at this; cases this
  obtain ⟨x,p⟩:=a.mid o r;have e3:=m.e5 u;rw[p.uC] at e3;simp only[valN] at e3;refine Z02 (v:= .slice (some ⟨W.heap.size,0,none⟩) 1 1) (W':=W.alloc (.cells #[.string ⟨x.t.toArray⟩] 9)) rfl ?_ (by rw[m.put 6 (qN6 pos b s l i c X.fnN) rfl u _]; exact hK.out _ _ (a.sS r o p _));have U: (A u).tmps[b+5]?.getD undef= .string ⟨x.t.toArray⟩:=by simpa[Act.eval] using e3
  simp only[execOp,qN6,e3,Sem.run_bind,Result.andThen_ok,Sem.run_pure];go_simp}
 refine StepsInv.cons2 (qN7 pos b s l i c X.fnN) rfl (fun d u W K' hS a k hw hK=> ?_) ?_
 {have F:=hw 1 (by kernel_rfl);have w:=hw 6 (by kernel_rfl);have o:=hS 6 _ rfl w 5 (by kernel_rfl);have G:d 9=false:=by cases e:d 9 with | false=>rfl | true=>have:=hS 9 _ rfl e 7 (by kernel_rfl); rw[k] at this; cases this
  obtain ⟨x,p⟩:=a.mid o k;have O:=m.e1 u;rw[a.vals 1 F _ rfl] at O;obtain ⟨z0,u4,z1,z2,z3⟩:=p.aS w;have e4:=m.e6 u;rw[u4] at e4;have a3:=n.bpB;have H:=n.row.up p.up (fun x hx=>by simp at hx; subst hx; intro e; have:=n.row.lt _ e; omega);have a9:=n.len;have a1:=n.Bw;have b1:=p.up.size;refine step_append_lies W rfl _ _ 22 rfl X.B 9 i0 (.string ByteArray.empty) 1 16 Tryz.underlying22 I L M N rfl (by decide) _ _ _ O H ⟨z0,0,none⟩ 1 1 (cNN x) e4 rfl (fun j v hv=>by rw[Z0r,Nat.zero_add]; exact z3 j v hv) (Zax x) (by decide) (by unfold maxLen; omega) (by omega) (by omega) _ rfl ?_;intro g cp W' B S y z;rw[m.put 7 (qN7 pos b s l i c X.fnN) rfl u _];exact hK.out _ _ (a.sA k o G p n B (by rw[Z0v] at S; exact S) (by rw[Z0v] at y; exact y))}
 refine StepsInv.cons2 (qN8 pos b s l i c X.fnN) rfl (fun d u W K' hS a k hw hK=> ?_) ?_
 {refine Z02 (v:= .pointer (some ⟨X.ob,X.fo,none⟩)) (W':=W) rfl ?_ (by rw[m.put 8 (qN8 pos b s l i c X.fnN) rfl u _]; exact hK.out _ _ (a.pure (by omega) (fun v' h=>by cases h; rfl)));simp only[execOp,qN8,P u,hfa,Sem.run_bind,Result.andThen_ok,Sem.run_pure]}
 refine StepsInv.cons2 (qN9 pos b s l i c X.fnN) rfl (fun d u W K' hS a k hw hK=> ?_) StepsInv.nil
 {have r:=hw 7 (by kernel_rfl);have o:=hS 6 _ rfl (hS 7 _ rfl r 6 (by kernel_rfl)) 5 (by kernel_rfl);obtain ⟨x,g,cp,p⟩:=a.post r;have e5:=m.e7 u;rw[p.uA] at e5;have e6:=m.e8 u;rw[a.vals 8 (hw 8 (by kernel_rfl)) _ rfl] at e6;have E:=p.cell;rw[k] at E;simp only[Bool.false_eq_true,if_false] at E;have a8:=(p.fz X.fo).trans n.fz;have b0:=Nat.lt_of_lt_of_le n.oblt p.up.size;refine Z0B (W':=W.setCell ⟨X.ob,X.fo,none⟩ (.slice (some ⟨g,0,none⟩) (X.xs.length+1) cp)) rfl ?_ (by rw[m.put 9 (qN9 pos b s l i c X.fnN) rfl u _]; exact hK.out _ _ (a.sT o r n p undef));simp only[execOp,qN9,e6,e5,Sem.run_bind,Result.andThen_ok,Sem.run_pure];go_simp}
 {intro d u W a k;obtain ⟨x,g,cp,p⟩:=a.post (k 7 (by show 7 < 10; omega));refine hQ u W x g cp ⟨p.uA,p.par,p.is,p.r,p.lo,p.far,p.new,p.up,p.row, ?_,p.rest,p.fz⟩;have:=p.cell; rw[k 9 (by show 9 < 10; omega)] at this; exact this}
end
end Go.Proofs.YtkncdbaoaeeoiaaGreatDoor
namespace Go.Proofs.YtkncdbaoaeeoiaaGreatDoor
section
open Go.RowKit Tms
open Shp (Sh)
open Pso (St)
def qA0 (pos:String) (b s sp tC fi fnN:Nat):Oper:=
 { dst:=some b,op:= .fieldAddr tC (.tmp s) fi,type:=0,pos:=pos,after:=#[],guard:=none }
def qA1 (pos:String) (b s sp tC fi fnN:Nat):Oper:=
 { dst:=some (b+1),op:= .load 22 (.tmp b),type:=22,pos:=pos,after:=#[{ on:=0,ground:= .data }],guard:=none }
def qA2 (pos:String) (b s sp tC fi fnN:Nat):Oper:=
 { dst:=some (b+2),op:= .load 59 (.tmp sp),type:=59,pos:=pos,after:=#[],guard:=none }
def qA3 (pos:String) (b s sp tC fi fnN:Nat):Oper:=
 { dst:=some (b+3),op:= .nilCheck (.tmp (b+2)),type:=0,pos:=pos,after:=#[{ on:=2,ground:= .data }],guard:=none }
def qA4 (pos:String) (b s sp tC fi fnN:Nat):Oper:=
 { dst:=some (b+4),op:= .fieldAddr 81 (.tmp (b+3)) 0,type:=0,pos:=pos,after:=#[{ on:=3,ground:= .data }],guard:=none }
def qA5 (pos:String) (b s sp tC fi fnN:Nat):Oper:=
 { dst:=some (b+5),op:= .fieldAddr tC (.tmp s) fi,type:=0,pos:=pos,after:=#[],guard:=none }
def qA6 (pos:String) (b s sp tC fi fnN:Nat):Oper:=
 { dst:=some (b+6),op:= .load 22 (.tmp (b+5)),type:=22,pos:=pos,after:=#[{ on:=5,ground:= .data }],guard:=none }
def qA7 (pos:String) (b s sp tC fi fnN:Nat):Oper:=
 { dst:=some (b+7),op:= .load 59 (.tmp sp),type:=59,pos:=pos,after:=#[],guard:=none }
def qA8 (pos:String) (b s sp tC fi fnN:Nat):Oper:=
 { dst:=some (b+8),op:= .nilCheck (.tmp (b+7)),type:=0,pos:=pos,after:=#[{ on:=7,ground:= .data }],guard:=none }
def qA9 (pos:String) (b s sp tC fi fnN:Nat):Oper:=
 { dst:=some (b+9),op:= .fieldAddr 81 (.tmp (b+8)) 0,type:=0,pos:=pos,after:=#[{ on:=8,ground:= .data }],guard:=none }
def qA10 (pos:String) (b s sp tC fi fnN:Nat):Oper:=
 { dst:=some (b+10),op:= .makeFunc (.func fnN) #[.tmp (b+9)] #[],type:=141,pos:=pos,after:=#[{ on:=9,ground:= .data }],guard:=none }
def qA11 (pos:String) (b s sp tC fi fnN:Nat) (fn:Nat):Oper:=
 { dst:=some (b+11),op:= .call { callee:= .value (.func fn),args:=#[.tmp (b+4),.tmp (b+6),.tmp (b+10)],argTypes:=#[79,22,141] },type:=9,pos:=pos,after:=#[{ on:=4,ground:= .data },{ on:=6,ground:= .data },{ on:=10,ground:= .data }],guard:=none }
def qA12 (pos:String) (b s sp tC fi fnN:Nat):Oper:=
 { dst:=some (b+12),op:= .buildSlice 22 1 #[(0,.tmp (b+11))],type:=22,pos:=pos,after:=#[{ on:=11,ground:= .data }],guard:=none }
def qA13 (pos:String) (b s sp tC fi fnN:Nat):Oper:=
 { dst:=some (b+13),op:= .call { callee:= .builtin .append,args:=#[.tmp (b+1),.tmp (b+12)],argTypes:=#[22,22] },type:=22,pos:=pos,after:=#[{ on:=1,ground:= .data },{ on:=12,ground:= .data },{ on:=11,ground:= .chain }],guard:=none }
def qA14 (pos:String) (b s sp tC fi fnN:Nat):Oper:=
 { dst:=some (b+14),op:= .fieldAddr tC (.tmp s) fi,type:=0,pos:=pos,after:=#[{ on:=0,ground:= .phase },{ on:=1,ground:= .phase },{ on:=2,ground:= .phase },{ on:=3,ground:= .phase },{ on:=4,ground:= .phase },{ on:=5,ground:= .phase },{ on:=6,ground:= .phase },{ on:=7,ground:= .phase },{ on:=8,ground:= .phase },{ on:=9,ground:= .phase },{ on:=10,ground:= .phase },{ on:=11,ground:= .phase },{ on:=12,ground:= .phase },{ on:=13,ground:= .phase }],guard:=none }
def qA15 (pos:String) (b s sp tC fi fnN:Nat):Oper:=
 { dst:=none,op:= .store 22 (.tmp (b+14)) (.tmp (b+13)),type:=0,pos:=pos,after:=#[{ on:=14,ground:= .data },{ on:=13,ground:= .data },{ on:=13,ground:= .chain },{ on:=0,ground:= .phase },{ on:=1,ground:= .phase },{ on:=2,ground:= .phase },{ on:=3,ground:= .phase },{ on:=4,ground:= .phase },{ on:=5,ground:= .phase },{ on:=6,ground:= .phase },{ on:=7,ground:= .phase },{ on:=8,ground:= .phase },{ on:=9,ground:= .phase },{ on:=10,ground:= .phase },{ on:=11,ground:= .phase },{ on:=12,ground:= .phase },{ on:=13,ground:= .phase }],guard:=none }
def plnA (pos:String) (b s sp tC fi fnN:Nat) (fn:Nat):Array Oper:=
 #[qA0 pos b s sp tC fi fnN,qA1 pos b s sp tC fi fnN,qA2 pos b s sp tC fi fnN,qA3 pos b s sp tC fi fnN,qA4 pos b s sp tC fi fnN,qA5 pos b s sp tC fi fnN,qA6 pos b s sp tC fi fnN,qA7 pos b s sp tC fi fnN,qA8 pos b s sp tC fi fnN,qA9 pos b s sp tC fi fnN,qA10 pos b s sp tC fi fnN,qA11 pos b s sp tC fi fnN fn,qA12 pos b s sp tC fi fnN,qA13 pos b s sp tC fi fnN,qA14 pos b s sp tC fi fnN,qA15 pos b s sp tC fi fnN]
structure PtxA where
 w:World
 bp:Nat
 A:Option Addr
 c:Nat
 l:List Tk
 τ:St
 ob:Nat
 fo:Nat
 B:Nat
 AR:Option Addr
 cap:Nat
 xs:List EN
 R:EN->Prop
 fnN:Nat
namespace PtxA
variable (X : PtxA)
def val (j:Nat):Option Value:=match j with
 | 0=>some (.pointer (some ⟨X.ob,X.fo,none⟩))
 | 1=>some (.slice X.AR X.xs.length X.cap)
 | 2=>some (.pointer (some ⟨X.bp,0,none⟩))
 | 3=>some (.pointer (some ⟨X.bp,0,none⟩))
 | 4=>some (.pointer (some ⟨X.bp,0,none⟩))
 | 5=>some (.pointer (some ⟨X.ob,X.fo,none⟩))
 | 6=>some (.slice X.AR X.xs.length X.cap)
 | 7=>some (.pointer (some ⟨X.bp,0,none⟩))
 | 8=>some (.pointer (some ⟨X.bp,0,none⟩))
 | 9=>some (.pointer (some ⟨X.bp,0,none⟩))
 | 10=>some (.func (.func X.fnN) #[.pointer (some ⟨X.bp,0,none⟩)] #[])
 | 14=>some (.pointer (some ⟨X.ob,X.fo,none⟩))
 | _=>none
structure Good:Prop where
 cell:X.w.cell? ⟨X.ob,X.fo,none⟩=some (.slice X.AR X.xs.length X.cap)
 fz:X.w.frozen? ⟨X.ob,X.fo,none⟩=false
 oblt:X.ob < X.w.heap.size
 bpob:X.bp < X.ob
 row:Row X.w X.B 9 1 cNN X.AR X.cap X.xs
 obB:X.ob < X.B
 bpB:X.bp < X.B
 Bw:X.B<=X.w.heap.size
 len:X.xs.length<=900000
structure Mid (d:Nat->Bool) (u:Nat->Value) (W:World) (x:EN):Prop where
 uC:u 11=valN x
 par:PAt W X.bp X.A X.c X.l X.τ
 up:UpT [X.bp] X.w W
 is:x.Is W
 r:X.R x
 lo:X.w.heap.size<=x.lo
 aS:d 12=true-> ∃z0,u 12= .slice (some ⟨z0,0,none⟩) 1 1/\X.w.heap.size<=z0/\z0 < W.heap.size/\ ∀(j:Nat) v,(cNN x)[j]? =some v->W.cell? ⟨z0,j,none⟩=some v
structure Post (d:Nat->Bool) (u:Nat->Value) (W:World) (x:EN) (g cp:Nat):Prop where
 uA:u 13= .slice (some ⟨g,0,none⟩) (X.xs.length+1) cp
 par:PAt W X.bp X.A X.c X.l X.τ
 is:x.Is W
 r:X.R x
 lo:X.w.heap.size<=x.lo
 far:g < x.lo\/x.hi<=g
 new:rowT X.AR=some g\/X.w.heap.size<=g
 up:UpT (X.bp::X.ob::(rowT X.AR).toList) X.w W
 row:W.ownsRow X.B 9 1 (.slice (some ⟨g,0,none⟩) (X.xs.length+1) cp) (X.xs.length+1) (X.xs.flatMap cNN++cNN x)
 cell:W.cell? ⟨X.ob,X.fo,none⟩=some (if d 15=true then .slice (some ⟨g,0,none⟩) (X.xs.length+1) cp else .slice X.AR X.xs.length X.cap)
 rest: ∀j,j≠X.fo->W.cell? ⟨X.ob,j,none⟩=X.w.cell? ⟨X.ob,j,none⟩
 fz: ∀j,W.frozen? ⟨X.ob,j,none⟩=X.w.frozen? ⟨X.ob,j,none⟩
structure Inv (d:Nat->Bool) (u:Nat->Value) (W:World):Prop where
 vals: ∀j,d j=true-> ∀v,X.val j=some v->u j=v
 pre:d 11=false->Below X.w.heap.size X.w W
 mid:d 11=true->d 13=false-> ∃x,X.Mid d u W x
 post:d 13=true-> ∃x g cp,X.Post d u W x g cp
variable {X : PtxA} {d : Nat -> Bool} {u : Nat -> Value} {W W' : World}
theorem Good.start (h:X.Good):X.Inv (fun _=>false) u X.w.drew:=⟨nofun,fun _=>Y2.drew,nofun,nofun⟩
theorem ne9 (d:Nat->Bool) {i j:Nat} (h:j≠i):also d i j=d j:=by
 unfold also;have:Nat.beq j i=false:=by cases a:Nat.beq j i <;> first | rfl | exact absurd (Nat.eq_of_beq_eq_true a) h
 rw[this]; rfl
theorem self9 (d:Nat->Bool) (i:Nat):also d i i=true:=by unfold also; rw[Nat.beq_refl]; rfl
section
variable (h : X.Inv d u W)
include h
theorem Inv.vals' {i:Nat} {v:Value} (b: ∀v',X.val i=some v'->v=v'): ∀j,also d i j=true-> ∀v',X.val j=some v'->upd u i v j=v':=fun j hj v' hv'=>by
 by_cases a:j=i
 {subst a; rw[Z09]; exact b v' hv'}
 {rw[ne9 d a] at hj; rw[Z06 u v a]; exact h.vals j hj v' hv'}
theorem Inv.pure {i:Nat} (e:i < 11\/i=14) {v:Value} (c: ∀v',X.val i=some v'->v=v'):X.Inv (also d i) (upd u i v) W:=by
 have k: ∀j,j=11\/j=12\/j=13\/j=15->also d i j=d j/\upd u i v j=u j:=fun j hj=>⟨ne9 d (by omega),Z06 u v (by omega)⟩;refine ⟨h.vals' c, ?_, ?_, ?_⟩
 {rw[(k 11 (by omega)).1]; exact h.pre}
 {rw[(k 11 (by omega)).1,(k 13 (by omega)).1];intro b a;obtain ⟨x,p⟩:=h.mid b a;refine ⟨x, ?_,p.par,p.up,p.is,p.r,p.lo, ?_⟩
  {rw[(k 11 (by omega)).2]; exact p.uC}
  {rw[(k 12 (by omega)).1,(k 12 (by omega)).2]; exact p.aS}}
 {rw[(k 13 (by omega)).1];intro a;obtain ⟨x,g,cp,p⟩:=h.post a;refine ⟨x,g,cp, ?_,p.par,p.is,p.r,p.lo,p.far,p.new,p.up,p.row, ?_,p.rest,p.fz⟩
  {rw[(k 13 (by omega)).2]; exact p.uA}
  {rw[(k 15 (by omega)).1]; exact p.cell}}
theorem Inv.first (b:d 13=false):UpT [X.bp] X.w W:=by
 cases a:d 11 with
 | false=>exact Z05 (h.pre a)
 | true=>obtain ⟨x,p⟩:=h.mid a b; exact p.up
theorem Inv.sC (i:d 11=false) (f:d 12=false) (g:d 13=false) {x:EN} (l:PAt W' X.bp X.A X.c X.l X.τ) (n:UpT [X.bp] W W') (o:x.Is W') (a:W.heap.size<=x.lo) (m:X.R x):X.Inv (also d 11) (upd u 11 (valN x)) W':=by
 have k: ∀j,j≠11->also d 11 j=d j/\upd u 11 (valN x) j=u j:=fun j hj=>⟨ne9 d hj,Z06 u _ hj⟩;have c:=h.pre i;refine ⟨h.vals' (by intro p b; cases b), ?_,fun _ _=>⟨x,Z09 _ _ _,l,(Z05 c).trans n,o,m,Nat.le_trans c.size a, ?_⟩, ?_⟩
 {rw[self9]; intro e; cases e}
 {rw[(k 12 (by omega)).1,f]; intro e; cases e}
 {rw[(k 13 (by omega)).1,g]; intro e; cases e}
theorem Inv.sS (f:d 13=false) (c:d 11=true) {x:EN} (p:X.Mid d u W x) (t:TypeId):X.Inv (also d 12) (upd u 12 (.slice (some ⟨W.heap.size,0,none⟩) 1 1)) (W.alloc (.cells #[.string ⟨x.t.toArray⟩] t)):=by
 have k: ∀j,j≠12->also d 12 j=d j/\upd u 12 (.slice (some ⟨W.heap.size,0,none⟩) 1 1) j=u j:=fun j hj=>⟨ne9 d hj,Z06 u _ hj⟩;have a:=Z01 W (.cells #[.string ⟨x.t.toArray⟩] t);refine ⟨h.vals' (by intro g b; cases b), ?_,fun _ _=>⟨x, ?_,p.par.below a,p.up.below a,New.below p.is a,p.r,p.lo,fun _=>⟨W.heap.size,Z09 _ _ _,p.up.size,by simp,fun j v hv=> ?_⟩⟩, ?_⟩
 {rw[(k 11 (by omega)).1,c]; intro e; cases e}
 {rw[(k 11 (by omega)).2]; exact p.uC}
 {rw[World.cell?_alloc_at _ _ _ _ rfl];simpa[cNN] using hv}
 {rw[(k 13 (by omega)).1,f]; intro e; cases e}
theorem Inv.sA (z:d 13=false) (r:d 11=true) (s:d 15=false) {x:EN} (p:X.Mid d u W x) {g cp:Nat} (c:X.Good) (l:W'.ownsRow X.B 9 1 (.slice (some ⟨g,0,none⟩) (X.xs.length+1) cp) (X.xs.length+1) (X.xs.flatMap cNN++cNN x))
 (f:W.grownBy W' (rowT X.AR)) (i:rowT X.AR=some g\/g=W.heap.size):X.Inv (also d 13) (upd u 13 (.slice (some ⟨g,0,none⟩) (X.xs.length+1) cp)) W':=by
 have k: ∀j,j≠13->also d 13 j=d j/\upd u 13 (.slice (some ⟨g,0,none⟩) (X.xs.length+1) cp) j=u j:=fun j hj=>⟨ne9 d hj,Z06 u _ hj⟩;have n:=p.up.size;have b: ∀k,rowT X.AR=some k->X.B<=k/\k < X.w.heap.size:=fun k hk=>c.row.lt k hk;have t:=c.Bw;have v:=c.bpob;have q:UpT (rowT X.AR).toList W W':=⟨f.os,f.tape,f.output,f.size,fun x a h2=>f.block x a (fun e=>h2 (by rw[<-e]; simp))⟩;have m:SameT X.w W' X.ob:=(p.up.same c.oblt (by simp; omega)).trans (q.same (Nat.lt_of_lt_of_le c.oblt n) (by
  intro w;have a:rowT X.AR=some X.ob:=by simpa using w
  have:=b _ a; have:=c.obB; omega))
 refine ⟨h.vals' (by intro A o; cases o), ?_, ?_,fun _=>⟨x,g,cp,Z09 _ _ _,p.par.keep q (fun k hk=> ?_),New.grown p.is f (fun k hk=>Or.inl ?_),p.r,p.lo, ?_, ?_, ?_,l, ?_,fun j hj=>m.1 j,fun j=>m.2 j⟩⟩
 {rw[(k 11 (by omega)).1]; intro e; rw[r] at e; cases e}
 {rw[self9]; intro _ e; cases e}
 {have a:rowT X.AR=some k:=by simpa using hk
  have:=b _ a; have:=c.bpB; omega}
 {have:=b _ hk; have:=p.lo; omega}
 {rcases i with a | a
  {left; have:=b _ a; have:=p.lo; omega}
  {right; have:=p.is.hi_; omega}}
 {rcases i with a | a
  {exact Or.inl a}
  {exact Or.inr (by omega)}}
 {exact (p.up.mono (fun y hy _=>by simp at hy; simp[hy])).trans (q.mono (fun y hy _=>by simp at hy; simp[hy]))}
 {rw[(k 15 (by omega)).1,s]; exact (m.1 _).trans c.cell}
theorem Inv.sT (i:d 11=true) (l:d 13=true) (a:X.Good) {x:EN} {g cp:Nat} (p:X.Post d u W x g cp) (v:Value):X.Inv (also d 15) (upd u 15 v) (W.setCell ⟨X.ob,X.fo,none⟩ (.slice (some ⟨g,0,none⟩) (X.xs.length+1) cp)):=by
 have k: ∀j,j≠15->also d 15 j=d j/\upd u 15 v j=u j:=fun j hj=>⟨ne9 d hj,Z06 u _ hj⟩;have o:X.B<=g/\g < W.heap.size:=p.row.lt g rfl;have n:=a.bpB;have r:=a.obB;have q:=p.lo;have m:=a.Bw;have f:=a.bpob;have c:UpT [X.ob] W (W.setCell ⟨X.ob,X.fo,none⟩ (.slice (some ⟨g,0,none⟩) (X.xs.length+1) cp)):=(UpT.refl _ _).set _ (Or.inr (by simp)) _;refine ⟨h.vals' (by intro s b; cases b), ?_, ?_,fun _=>⟨x,g,cp, ?_,p.par.keep c (by simp; omega),New.up p.is c (by simp; omega),p.r,p.lo,p.far,p.new, ?_, ?_, ?_,fun j hj=> ?_,fun j=> ?_⟩⟩
 {rw[(k 11 (by omega)).1]; intro e; rw[i] at e; cases e}
 {rw[(k 13 (by omega)).1,l]; intro _ e; cases e}
 {rw[(k 13 (by omega)).2]; exact p.uA}
 {exact p.up.trans (c.mono (fun y hy _=>by simp at hy; simp[hy]))}
 {exact Z1n p.row (by intro e; have:=Option.some.inj e; simp at this; omega) _}
 {rw[self9,if_pos rfl]; exact World.cell?_setCell_same _ _ _ p.cell}
 {rw[World.cell?_setCell_other _ _ _ _ (fun e=>hj (by have:=congrArg Addr.off e; simpa using this.symm))]; exact p.rest j hj}
 {rw[World.frozen?_setCell]; exact p.fz j}
end
end PtxA
structure PfrA (pos:String) (b s sp tC fi fnN:Nat) (fn:Nat) (A: (Nat->Value)->Act) (vs vp:Value):Prop where
 put: ∀(i:Nat) o,(plnA pos b s sp tC fi fnN fn)[i]? =some o-> ∀u v,(A u).put o.dst v=A (upd u i v)
 es: ∀u,(A u).eval (.tmp s)=vs
 ep: ∀u,(A u).eval (.tmp sp)=vp
 e0: ∀u,(A u).eval (.tmp b)=u 0
 e1: ∀u,(A u).eval (.tmp (b+1))=u 1
 e2: ∀u,(A u).eval (.tmp (b+2))=u 2
 e3: ∀u,(A u).eval (.tmp (b+3))=u 3
 e4: ∀u,(A u).eval (.tmp (b+4))=u 4
 e5: ∀u,(A u).eval (.tmp (b+5))=u 5
 e6: ∀u,(A u).eval (.tmp (b+6))=u 6
 e7: ∀u,(A u).eval (.tmp (b+7))=u 7
 e8: ∀u,(A u).eval (.tmp (b+8))=u 8
 e9: ∀u,(A u).eval (.tmp (b+9))=u 9
 e10: ∀u,(A u).eval (.tmp (b+10))=u 10
 e11: ∀u,(A u).eval (.tmp (b+11))=u 11
 e12: ∀u,(A u).eval (.tmp (b+12))=u 12
 e13: ∀u,(A u).eval (.tmp (b+13))=u 13
 e14: ∀u,(A u).eval (.tmp (b+14))=u 14
theorem prgA {Q:Exit->Act->World->Prop} {id:Nat} (pos:String) (b s k:Nat) (i c r:Nat) (X:PtxA) (n:X.Good) (pb:Nat) (F:X.w.cell? ⟨pb,0,none⟩=some (.pointer (some ⟨X.bp,0,none⟩))) (y:pb < X.w.heap.size) (G:pb≠X.bp)
 (A: (Nat->Value)->Act) (V:Nat->Value) (l:PfrA pos b s k i c X.fnN r A (.pointer (some ⟨X.ob,0,none⟩)) (.pointer (some ⟨pb,0,none⟩)))
 (hfa: ∀W,(Instr.fieldAt i (.pointer (some ⟨X.ob,0,none⟩)) c).run Tryz.prog W= .ok (.pointer (some ⟨X.ob,X.fo,none⟩)) W)
 (a7: ∀args W,(callFunc r args).run Tryz.prog W= .ok (.enter r args) W)
 (z: ∀W,Below X.w.heap.size X.w W->Calls Tryz.prog r #[.pointer (some ⟨X.bp,0,none⟩),.slice X.AR X.xs.length X.cap,.func (.func X.fnN) #[.pointer (some ⟨X.bp,0,none⟩)] #[]] W fun e W'=> ∃x:EN,e= .returned (valN x)/\PAt W' X.bp X.A X.c X.l X.τ/\UpT [X.bp] W W'/\x.Is W'/\W.heap.size<=x.lo/\X.R x)
 (hQ: ∀u W x g cp,X.Post (fun _=>true) u W x g cp->Q .normal (A u) W):
 (Code.region id (plnA pos b s k i c X.fnN r) true).wp Tryz.prog Q (A V) X.w:=by
 obtain ⟨i0,M,N,O,P⟩:=Z1e Z5q;have H:=l.es;have T:=l.ep;have a5:Tryz.prog.cellsOf 22=1:=by kernel_rfl
 have a6:Tryz.prog.cellsOf 59=1:=by kernel_rfl
 refine Z3I (rs:= [0,1,2,3,4,5,6,7,8,9,10,11,12,13,14,15]) A V X.Inv (by kernel_rfl) (by kernel_rfl) (by kernel_rfl) n.start ?_ ?_;refine StepsInv.cons2 (qA0 pos b s k i c X.fnN) rfl (fun d u W K' hS a m hw hK=> ?_) ?_
 {refine Z02 (v:= .pointer (some ⟨X.ob,X.fo,none⟩)) (W':=W) rfl ?_ (by rw[l.put 0 (qA0 pos b s k i c X.fnN) rfl u _]; exact hK.out _ _ (a.pure (by omega) (fun v' h=>by cases h; rfl)));simp only[execOp,qA0,H u,hfa,Sem.run_bind,Result.andThen_ok,Sem.run_pure]}
 refine StepsInv.cons2 (qA1 pos b s k i c X.fnN) rfl (fun d u W K' hS a m hw hK=> ?_) ?_
 {have e0:=l.e0 u;rw[a.vals 0 (hw 0 (by kernel_rfl)) _ rfl] at e0;have t:d 13=false:=by cases e:d 13 with | false=>rfl | true=>have:=hS 13 _ rfl e 1 (by kernel_rfl); rw[m] at this; cases this
  have q:=a.first t;have L:=n.bpob;obtain ⟨B,w⟩:W.cell? ⟨X.ob,X.fo,none⟩=some (.slice X.AR X.xs.length X.cap)/\X.ob < W.heap.size:=⟨((q.same n.oblt (by simp; omega)).1 _).trans n.cell,Nat.lt_of_lt_of_le n.oblt q.size⟩;refine Z02 (v:= .slice X.AR X.xs.length X.cap) (W':=W) rfl ?_ (by rw[l.put 1 (qA1 pos b s k i c X.fnN) rfl u _]; exact hK.out _ _ (a.pure (by omega) (fun v' h=>by cases h; rfl)));simp only[execOp,qA1,e0,Sem.run_bind,Result.andThen_ok,Sem.run_pure,List.map_toArray,List.map_cons,List.map_nil];go_simp}
 refine StepsInv.cons2 (qA2 pos b s k i c X.fnN) rfl (fun d u W K' hS a m hw hK=> ?_) ?_
 {have o:d 11=false:=by cases e:d 11 with | false=>rfl | true=>have:=hS 3 _ rfl (hS 4 _ rfl (hS 11 _ rfl (e) 4 (by kernel_rfl)) 3 (by kernel_rfl)) 2 (by kernel_rfl); rw[m] at this; cases this
  have q:UpT [X.bp] X.w W:=Z05 (a.pre o);obtain ⟨B,w⟩:W.cell? ⟨pb,0,none⟩=some (.pointer (some ⟨X.bp,0,none⟩))/\pb < W.heap.size:=⟨((q.same y (by simp[G])).1 _).trans F,Nat.lt_of_lt_of_le y q.size⟩;refine Z02 (v:= .pointer (some ⟨X.bp,0,none⟩)) (W':=W) rfl ?_ (by rw[l.put 2 (qA2 pos b s k i c X.fnN) rfl u _]; exact hK.out _ _ (a.pure (by omega) (fun v' h=>by cases h; rfl)));simp only[execOp,qA2,T u,Sem.run_bind,Result.andThen_ok,Sem.run_pure,List.map_toArray,List.map_cons,List.map_nil];go_simp}
 refine StepsInv.cons2 (qA3 pos b s k i c X.fnN) rfl (fun d u W K' hS a m hw hK=> ?_) ?_
 {have e2:=l.e2 u;rw[a.vals 2 (hw 2 (by kernel_rfl)) _ rfl] at e2;refine Z02 (v:= .pointer (some ⟨X.bp,0,none⟩)) (W':=W) rfl ?_ (by rw[l.put 3 (qA3 pos b s k i c X.fnN) rfl u _]; exact hK.out _ _ (a.pure (by omega) (fun v' h=>by cases h; rfl)));simp only[execOp,qA3,e2,Sem.run_bind,Result.andThen_ok,Sem.run_pure,List.map_toArray,List.map_cons,List.map_nil]
  all_goals first | (go_simp; done) | (go_simp; rfl)}
 refine StepsInv.cons2 (qA4 pos b s k i c X.fnN) rfl (fun d u W K' hS a m hw hK=> ?_) ?_
 {have e3:=l.e3 u;rw[a.vals 3 (hw 3 (by kernel_rfl)) _ rfl] at e3;refine Z02 (v:= .pointer (some ⟨X.bp,0,none⟩)) (W':=W) rfl ?_ (by rw[l.put 4 (qA4 pos b s k i c X.fnN) rfl u _]; exact hK.out _ _ (a.pure (by omega) (fun v' h=>by cases h; rfl)));simp only[execOp,qA4,e3,Sem.run_bind,Result.andThen_ok,Sem.run_pure,List.map_toArray,List.map_cons,List.map_nil]
  all_goals first | (go_simp; done) | (go_simp; rfl)}
 refine StepsInv.cons2 (qA5 pos b s k i c X.fnN) rfl (fun d u W K' hS a m hw hK=> ?_) ?_
 {refine Z02 (v:= .pointer (some ⟨X.ob,X.fo,none⟩)) (W':=W) rfl ?_ (by rw[l.put 5 (qA5 pos b s k i c X.fnN) rfl u _]; exact hK.out _ _ (a.pure (by omega) (fun v' h=>by cases h; rfl)));simp only[execOp,qA5,H u,hfa,Sem.run_bind,Result.andThen_ok,Sem.run_pure]}
 refine StepsInv.cons2 (qA6 pos b s k i c X.fnN) rfl (fun d u W K' hS a m hw hK=> ?_) ?_
 {have e5:=l.e5 u;rw[a.vals 5 (hw 5 (by kernel_rfl)) _ rfl] at e5;have o:d 11=false:=by cases e:d 11 with | false=>rfl | true=>have:=hS 11 _ rfl (e) 6 (by kernel_rfl); rw[m] at this; cases this
  have q:UpT [X.bp] X.w W:=Z05 (a.pre o);have L:=n.bpob;obtain ⟨B,w⟩:W.cell? ⟨X.ob,X.fo,none⟩=some (.slice X.AR X.xs.length X.cap)/\X.ob < W.heap.size:=⟨((q.same n.oblt (by simp; omega)).1 _).trans n.cell,Nat.lt_of_lt_of_le n.oblt q.size⟩;refine Z02 (v:= .slice X.AR X.xs.length X.cap) (W':=W) rfl ?_ (by rw[l.put 6 (qA6 pos b s k i c X.fnN) rfl u _]; exact hK.out _ _ (a.pure (by omega) (fun v' h=>by cases h; rfl)));simp only[execOp,qA6,e5,Sem.run_bind,Result.andThen_ok,Sem.run_pure,List.map_toArray,List.map_cons,List.map_nil];go_simp}
 refine StepsInv.cons2 (qA7 pos b s k i c X.fnN) rfl (fun d u W K' hS a m hw hK=> ?_) ?_
 {have o:d 11=false:=by cases e:d 11 with | false=>rfl | true=>have:=hS 8 _ rfl (hS 9 _ rfl (hS 10 _ rfl (hS 11 _ rfl (e) 10 (by kernel_rfl)) 9 (by kernel_rfl)) 8 (by kernel_rfl)) 7 (by kernel_rfl); rw[m] at this; cases this
  have q:UpT [X.bp] X.w W:=Z05 (a.pre o);obtain ⟨B,w⟩:W.cell? ⟨pb,0,none⟩=some (.pointer (some ⟨X.bp,0,none⟩))/\pb < W.heap.size:=⟨((q.same y (by simp[G])).1 _).trans F,Nat.lt_of_lt_of_le y q.size⟩;refine Z02 (v:= .pointer (some ⟨X.bp,0,none⟩)) (W':=W) rfl ?_ (by rw[l.put 7 (qA7 pos b s k i c X.fnN) rfl u _]; exact hK.out _ _ (a.pure (by omega) (fun v' h=>by cases h; rfl)));simp only[execOp,qA7,T u,Sem.run_bind,Result.andThen_ok,Sem.run_pure,List.map_toArray,List.map_cons,List.map_nil];go_simp}
 refine StepsInv.cons2 (qA8 pos b s k i c X.fnN) rfl (fun d u W K' hS a m hw hK=> ?_) ?_
 {have e7:=l.e7 u;rw[a.vals 7 (hw 7 (by kernel_rfl)) _ rfl] at e7;refine Z02 (v:= .pointer (some ⟨X.bp,0,none⟩)) (W':=W) rfl ?_ (by rw[l.put 8 (qA8 pos b s k i c X.fnN) rfl u _]; exact hK.out _ _ (a.pure (by omega) (fun v' h=>by cases h; rfl)));simp only[execOp,qA8,e7,Sem.run_bind,Result.andThen_ok,Sem.run_pure,List.map_toArray,List.map_cons,List.map_nil]
  all_goals first | (go_simp; done) | (go_simp; rfl)}
 refine StepsInv.cons2 (qA9 pos b s k i c X.fnN) rfl (fun d u W K' hS a m hw hK=> ?_) ?_
 {have e8:=l.e8 u;rw[a.vals 8 (hw 8 (by kernel_rfl)) _ rfl] at e8;refine Z02 (v:= .pointer (some ⟨X.bp,0,none⟩)) (W':=W) rfl ?_ (by rw[l.put 9 (qA9 pos b s k i c X.fnN) rfl u _]; exact hK.out _ _ (a.pure (by omega) (fun v' h=>by cases h; rfl)));simp only[execOp,qA9,e8,Sem.run_bind,Result.andThen_ok,Sem.run_pure,List.map_toArray,List.map_cons,List.map_nil]
  all_goals first | (go_simp; done) | (go_simp; rfl)}
 refine StepsInv.cons2 (qA10 pos b s k i c X.fnN) rfl (fun d u W K' hS a m hw hK=> ?_) ?_
 {have e9:=l.e9 u;rw[a.vals 9 (hw 9 (by kernel_rfl)) _ rfl] at e9;refine Z02 (v:= .func (.func X.fnN) #[.pointer (some ⟨X.bp,0,none⟩)] #[]) (W':=W) rfl ?_ (by rw[l.put 10 (qA10 pos b s k i c X.fnN) rfl u _]; exact hK.out _ _ (a.pure (by omega) (fun v' h=>by cases h; rfl)));simp only[execOp,qA10,e9,Sem.run_bind,Result.andThen_ok,Sem.run_pure,List.map_toArray,List.map_cons,List.map_nil]
  all_goals first | (go_simp; done) | (go_simp; rfl)}
 refine StepsInv.cons2 (qA11 pos b s k i c X.fnN r) rfl (fun d u W K' hS a m hw hK=> ?_) ?_
 {have C:d 12=false:=by cases e:d 12 with | false=>rfl | true=>have:=hS 12 _ rfl e 11 (by kernel_rfl); rw[m] at this; cases this
  have t:d 13=false:=by cases e:d 13 with | false=>rfl | true=>have:=hS 13 _ rfl e 12 (by kernel_rfl); rw[C] at this; cases this
  have e4:=l.e4 u;rw[a.vals 4 (hw 4 (by kernel_rfl)) _ rfl] at e4;have e6:=l.e6 u;rw[a.vals 6 (hw 6 (by kernel_rfl)) _ rfl] at e6;have e10:=l.e10 u;rw[a.vals 10 (hw 10 (by kernel_rfl)) _ rfl] at e10;refine Z0M (f:=r) (args:=#[.pointer (some ⟨X.bp,0,none⟩),.slice X.AR X.xs.length X.cap,.func (.func X.fnN) #[.pointer (some ⟨X.bp,0,none⟩)] #[]]) (W':=W) rfl ?_ ((z W (a.pre m)).mono ?_)
  {simp only[execOp,qA11,e4,e6,e10,Sem.run_bind,Result.andThen_ok,Sem.run_pure,resolve,invoke,List.map_toArray,List.map_cons,List.map_nil];have Z: (A u).eval (.func r)= .func (.func r) #[] #[]:=rfl;rw[Z];go_simp}
  {rintro e W' ⟨x,rfl,I,h2,o,h6,J⟩;exact ⟨_,rfl,by rw[l.put 11 (qA11 pos b s k i c X.fnN r) rfl u _]; exact hK.out _ _ (a.sC m C t I h2 o h6 J)⟩}}
 refine StepsInv.cons2 (qA12 pos b s k i c X.fnN) rfl (fun d u W K' hS a m hw hK=> ?_) ?_
 {have o:=hw 11 (by kernel_rfl);have t:d 13=false:=by cases e:d 13 with | false=>rfl | true=>have:=hS 13 _ rfl e 12 (by kernel_rfl); rw[m] at this; cases this
  obtain ⟨x,p⟩:=a.mid o t;have e3:=l.e11 u;rw[p.uC] at e3;simp only[valN] at e3;refine Z02 (v:= .slice (some ⟨W.heap.size,0,none⟩) 1 1) (W':=W.alloc (.cells #[.string ⟨x.t.toArray⟩] 9)) rfl ?_ (by rw[l.put 12 (qA12 pos b s k i c X.fnN) rfl u _]; exact hK.out _ _ (a.sS t o p _));have Y: (A u).tmps[b+11]?.getD undef= .string ⟨x.t.toArray⟩:=by simpa[Act.eval] using e3
  simp only[execOp,qA12,e3,Sem.run_bind,Result.andThen_ok,Sem.run_pure];go_simp}
 refine StepsInv.cons2 (qA13 pos b s k i c X.fnN) rfl (fun d u W K' hS a m hw hK=> ?_) ?_
 {have I:=hw 1 (by kernel_rfl);have C:=hw 12 (by kernel_rfl);have o:=hS 12 _ rfl C 11 (by kernel_rfl);have J:d 15=false:=by cases e:d 15 with | false=>rfl | true=>have:=hS 15 _ rfl e 13 (by kernel_rfl); rw[m] at this; cases this
  obtain ⟨x,p⟩:=a.mid o m;have S:=l.e1 u;rw[a.vals 1 I _ rfl] at S;obtain ⟨z0,u4,z1,z2,z3⟩:=p.aS C;have e4:=l.e12 u;rw[u4] at e4;have a4:=n.bpB;have K:=n.row.up p.up (fun x hx=>by simp at hx; subst hx; intro e; have:=n.row.lt _ e; omega);have a9:=n.len;have a2:=n.Bw;have b1:=p.up.size;refine step_append_lies W rfl _ _ 22 rfl X.B 9 i0 (.string ByteArray.empty) 1 16 Tryz.underlying22 M N O P rfl (by decide) _ _ _ S K ⟨z0,0,none⟩ 1 1 (cNN x) e4 rfl (fun j v hv=>by rw[Z0r,Nat.zero_add]; exact z3 j v hv) (Zax x) (by decide) (by unfold maxLen; omega) (by omega) (by omega) _ rfl ?_;intro g cp W' E U D w;rw[l.put 13 (qA13 pos b s k i c X.fnN) rfl u _];exact hK.out _ _ (a.sA m o J p n E (by rw[Z0v] at U; exact U) (by rw[Z0v] at D; exact D))}
 refine StepsInv.cons2 (qA14 pos b s k i c X.fnN) rfl (fun d u W K' hS a m hw hK=> ?_) ?_
 {refine Z02 (v:= .pointer (some ⟨X.ob,X.fo,none⟩)) (W':=W) rfl ?_ (by rw[l.put 14 (qA14 pos b s k i c X.fnN) rfl u _]; exact hK.out _ _ (a.pure (by omega) (fun v' h=>by cases h; rfl)));simp only[execOp,qA14,H u,hfa,Sem.run_bind,Result.andThen_ok,Sem.run_pure]}
 refine StepsInv.cons2 (qA15 pos b s k i c X.fnN) rfl (fun d u W K' hS a m hw hK=> ?_) StepsInv.nil
 {have t:=hw 13 (by kernel_rfl);have o:=hS 12 _ rfl (hS 13 _ rfl t 12 (by kernel_rfl)) 11 (by kernel_rfl);obtain ⟨x,g,cp,p⟩:=a.post t;have e5:=l.e13 u;rw[p.uA] at e5;have e6:=l.e14 u;rw[a.vals 14 (hw 14 (by kernel_rfl)) _ rfl] at e6;have B:=p.cell;rw[m] at B;simp only[Bool.false_eq_true,if_false] at B;have a8:=(p.fz X.fo).trans n.fz;have b0:=Nat.lt_of_lt_of_le n.oblt p.up.size;refine Z0B (W':=W.setCell ⟨X.ob,X.fo,none⟩ (.slice (some ⟨g,0,none⟩) (X.xs.length+1) cp)) rfl ?_ (by rw[l.put 15 (qA15 pos b s k i c X.fnN) rfl u _]; exact hK.out _ _ (a.sT o t n p undef));simp only[execOp,qA15,e6,e5,Sem.run_bind,Result.andThen_ok,Sem.run_pure];go_simp}
 {intro d u W a m;obtain ⟨x,g,cp,p⟩:=a.post (m 13 (by show 13 < 16; omega));refine hQ u W x g cp ⟨p.uA,p.par,p.is,p.r,p.lo,p.far,p.new,p.up,p.row, ?_,p.rest,p.fz⟩;have:=p.cell; rw[m 15 (by show 15 < 16; omega)] at this; exact this}
end
end Go.Proofs.YtkncdbaoaeeoiaaGreatDoor
