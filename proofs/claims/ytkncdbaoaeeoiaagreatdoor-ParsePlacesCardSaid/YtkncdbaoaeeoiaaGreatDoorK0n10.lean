/- What the proofs of ParsePlaces want, part 10. -/
import Derived.Test.YtkncdbaoaeeoiaaGreatDoorK0n9
set_option linter.unusedVariables false
set_option linter.unusedSimpArgs false
set_option linter.unusedSectionVars false
set_option maxRecDepth 100000
set_option maxHeartbeats 16000000
namespace Go.Proofs.YtkncdbaoaeeoiaaGreatDoor
section
open Go.RowKit Tms
open Shp (Sh)
open Pso (St)
structure EN where
 t:List UInt8
 lo:Nat
 hi:Nat
def EN.Is (x:EN) (W:World):Prop:=New x.lo x.hi W (fun _=>True)
def valN (x:EN):Value:= .string ⟨x.t.toArray⟩
def cNN (x:EN):List Value:= [.string ⟨x.t.toArray⟩]
theorem Zax (x:EN): ∀u∈cNN x,u.oneCell'=true:=by
 intro u hu;simp only[cNN,List.mem_cons,List.not_mem_nil,or_false] at hu;subst hu; rfl
def enOf (l:List (List UInt8)):List EN:=l.map fun t=>⟨t,0,0⟩
theorem Z54 (l:List (List UInt8)): (enOf l).flatMap cNN=l.flatMap cN:=by
 induction l with
 | nil=>rfl
 | cons a l ih=>simp only[enOf,List.map_cons,List.flatMap_cons] at ih ⊢; rw[ih]; rfl
theorem Z0S (l:List (List UInt8)): (enOf l).length=l.length:=by simp[enOf]
theorem Z8r {W:World} {B c:Nat} {A:Option Addr} {l:List (List UInt8)} (h:Row W B 9 1 cN A c l):Row W B 9 1 cNN A c (enOf l):=by
 unfold Row at h ⊢; rw[Z0S,Z54]; exact h
def qN0 (pos:String) (b s sp tC fi fnN:Nat):Oper:=
 { dst:=some b,op:= .fieldAddr tC (.tmp s) fi,type:=0,pos:=pos,after:=#[],guard:=none }
def qN1 (pos:String) (b s sp tC fi fnN:Nat):Oper:=
 { dst:=some (b+1),op:= .load 22 (.tmp b),type:=22,pos:=pos,after:=#[{ on:=0,ground:= .data }],guard:=none }
def qN2 (pos:String) (b s sp tC fi fnN:Nat):Oper:=
 { dst:=some (b+2),op:= .load 59 (.tmp sp),type:=59,pos:=pos,after:=#[],guard:=none }
def qN3 (pos:String) (b s sp tC fi fnN:Nat):Oper:=
 { dst:=some (b+3),op:= .nilCheck (.tmp (b+2)),type:=0,pos:=pos,after:=#[{ on:=2,ground:= .data }],guard:=none }
def qN4 (pos:String) (b s sp tC fi fnN:Nat):Oper:=
 { dst:=some (b+4),op:= .fieldAddr 81 (.tmp (b+3)) 0,type:=0,pos:=pos,after:=#[{ on:=3,ground:= .data }],guard:=none }
def qN5 (pos:String) (b s sp tC fi fnN:Nat) (fn:Nat):Oper:=
 { dst:=some (b+5),op:= .call { callee:= .value (.func fn),args:=#[.tmp (b+4)],argTypes:=#[79] },type:=9,pos:=pos,after:=#[{ on:=4,ground:= .data }],guard:=none }
def qN6 (pos:String) (b s sp tC fi fnN:Nat):Oper:=
 { dst:=some (b+6),op:= .buildSlice 22 1 #[(0,.tmp (b+5))],type:=22,pos:=pos,after:=#[{ on:=5,ground:= .data }],guard:=none }
def qN7 (pos:String) (b s sp tC fi fnN:Nat):Oper:=
 { dst:=some (b+7),op:= .call { callee:= .builtin .append,args:=#[.tmp (b+1),.tmp (b+6)],argTypes:=#[22,22] },type:=22,pos:=pos,after:=#[{ on:=1,ground:= .data },{ on:=6,ground:= .data },{ on:=5,ground:= .chain }],guard:=none }
def qN8 (pos:String) (b s sp tC fi fnN:Nat):Oper:=
 { dst:=some (b+8),op:= .fieldAddr tC (.tmp s) fi,type:=0,pos:=pos,after:=#[{ on:=0,ground:= .phase },{ on:=1,ground:= .phase },{ on:=2,ground:= .phase },{ on:=3,ground:= .phase },{ on:=4,ground:= .phase },{ on:=5,ground:= .phase },{ on:=6,ground:= .phase },{ on:=7,ground:= .phase }],guard:=none }
def qN9 (pos:String) (b s sp tC fi fnN:Nat):Oper:=
 { dst:=none,op:= .store 22 (.tmp (b+8)) (.tmp (b+7)),type:=0,pos:=pos,after:=#[{ on:=8,ground:= .data },{ on:=7,ground:= .data },{ on:=7,ground:= .chain },{ on:=0,ground:= .phase },{ on:=1,ground:= .phase },{ on:=2,ground:= .phase },{ on:=3,ground:= .phase },{ on:=4,ground:= .phase },{ on:=5,ground:= .phase },{ on:=6,ground:= .phase },{ on:=7,ground:= .phase }],guard:=none }
def plnN (pos:String) (b s sp tC fi fnN:Nat) (fn:Nat):Array Oper:=
 #[qN0 pos b s sp tC fi fnN,qN1 pos b s sp tC fi fnN,qN2 pos b s sp tC fi fnN,qN3 pos b s sp tC fi fnN,qN4 pos b s sp tC fi fnN,qN5 pos b s sp tC fi fnN fn,qN6 pos b s sp tC fi fnN,qN7 pos b s sp tC fi fnN,qN8 pos b s sp tC fi fnN,qN9 pos b s sp tC fi fnN]
structure PtxN where
 w:World
 bp:Nat
 A:Option Addr
 c:Nat
 l:List Tk
 τ:St
 ob:Nat
 fo:Nat
 B:Nat
 AR:Option Addr
 cap:Nat
 xs:List EN
 R:EN->Prop
 fnN:Nat
namespace PtxN
variable (X : PtxN)
def val (j:Nat):Option Value:=match j with
 | 0=>some (.pointer (some ⟨X.ob,X.fo,none⟩))
 | 1=>some (.slice X.AR X.xs.length X.cap)
 | 2=>some (.pointer (some ⟨X.bp,0,none⟩))
 | 3=>some (.pointer (some ⟨X.bp,0,none⟩))
 | 4=>some (.pointer (some ⟨X.bp,0,none⟩))
 | 8=>some (.pointer (some ⟨X.ob,X.fo,none⟩))
 | _=>none
structure Good:Prop where
 cell:X.w.cell? ⟨X.ob,X.fo,none⟩=some (.slice X.AR X.xs.length X.cap)
 fz:X.w.frozen? ⟨X.ob,X.fo,none⟩=false
 oblt:X.ob < X.w.heap.size
 bpob:X.bp < X.ob
 row:Row X.w X.B 9 1 cNN X.AR X.cap X.xs
 obB:X.ob < X.B
 bpB:X.bp < X.B
 Bw:X.B<=X.w.heap.size
 len:X.xs.length<=900000
structure Mid (d:Nat->Bool) (u:Nat->Value) (W:World) (x:EN):Prop where
 uC:u 5=valN x
 par:PAt W X.bp X.A X.c X.l X.τ
 up:UpT [X.bp] X.w W
 is:x.Is W
 r:X.R x
 lo:X.w.heap.size<=x.lo
 aS:d 6=true-> ∃z0,u 6= .slice (some ⟨z0,0,none⟩) 1 1/\X.w.heap.size<=z0/\z0 < W.heap.size/\ ∀(j:Nat) v,(cNN x)[j]? =some v->W.cell? ⟨z0,j,none⟩=some v
structure Post (d:Nat->Bool) (u:Nat->Value) (W:World) (x:EN) (g cp:Nat):Prop where
 uA:u 7= .slice (some ⟨g,0,none⟩) (X.xs.length+1) cp
 par:PAt W X.bp X.A X.c X.l X.τ
 is:x.Is W
 r:X.R x
 lo:X.w.heap.size<=x.lo
 far:g < x.lo\/x.hi<=g
 new:rowT X.AR=some g\/X.w.heap.size<=g
 up:UpT (X.bp::X.ob::(rowT X.AR).toList) X.w W
 row:W.ownsRow X.B 9 1 (.slice (some ⟨g,0,none⟩) (X.xs.length+1) cp) (X.xs.length+1) (X.xs.flatMap cNN++cNN x)
 cell:W.cell? ⟨X.ob,X.fo,none⟩=some (if d 9=true then .slice (some ⟨g,0,none⟩) (X.xs.length+1) cp else .slice X.AR X.xs.length X.cap)
 rest: ∀j,j≠X.fo->W.cell? ⟨X.ob,j,none⟩=X.w.cell? ⟨X.ob,j,none⟩
 fz: ∀j,W.frozen? ⟨X.ob,j,none⟩=X.w.frozen? ⟨X.ob,j,none⟩
structure Inv (d:Nat->Bool) (u:Nat->Value) (W:World):Prop where
 vals: ∀j,d j=true-> ∀v,X.val j=some v->u j=v
 pre:d 5=false->Below X.w.heap.size X.w W
 mid:d 5=true->d 7=false-> ∃x,X.Mid d u W x
 post:d 7=true-> ∃x g cp,X.Post d u W x g cp
variable {X : PtxN} {d : Nat -> Bool} {u : Nat -> Value} {W W' : World}
theorem Good.start (h:X.Good):X.Inv (fun _=>false) u X.w.drew:=⟨nofun,fun _=>Y2.drew,nofun,nofun⟩
theorem ne9 (d:Nat->Bool) {i j:Nat} (h:j≠i):also d i j=d j:=by
 unfold also;have:Nat.beq j i=false:=by cases hb:Nat.beq j i <;> first | rfl | exact absurd (Nat.eq_of_beq_eq_true hb) h
 rw[this]; rfl
theorem self9 (d:Nat->Bool) (i:Nat):also d i i=true:=by unfold also; rw[Nat.beq_refl]; rfl
section
variable (h : X.Inv d u W)
include h
theorem Inv.vals' {i:Nat} {v:Value} (hv: ∀v',X.val i=some v'->v=v'): ∀j,also d i j=true-> ∀v',X.val j=some v'->upd u i v j=v':=fun j hj v' hv'=>by
 by_cases hij:j=i
 {subst hij; rw[Z09]; exact hv v' hv'}
 {rw[ne9 d hij] at hj; rw[Z06 u v hij]; exact h.vals j hj v' hv'}
theorem Inv.pure {i:Nat} (hi:i < 5\/i=8) {v:Value} (hv: ∀v',X.val i=some v'->v=v'):X.Inv (also d i) (upd u i v) W:=by
 have k: ∀j,j=5\/j=6\/j=7\/j=9->also d i j=d j/\upd u i v j=u j:=fun j hj=>⟨ne9 d (by omega),Z06 u v (by omega)⟩;refine ⟨h.vals' hv, ?_, ?_, ?_⟩
 {rw[(k 5 (by omega)).1]; exact h.pre}
 {rw[(k 5 (by omega)).1,(k 7 (by omega)).1];intro h3 h5;obtain ⟨x,p⟩:=h.mid h3 h5;refine ⟨x, ?_,p.par,p.up,p.is,p.r,p.lo, ?_⟩
  {rw[(k 5 (by omega)).2]; exact p.uC}
  {rw[(k 6 (by omega)).1,(k 6 (by omega)).2]; exact p.aS}}
 {rw[(k 7 (by omega)).1];intro h5;obtain ⟨x,g,cp,p⟩:=h.post h5;refine ⟨x,g,cp, ?_,p.par,p.is,p.r,p.lo,p.far,p.new,p.up,p.row, ?_,p.rest,p.fz⟩
  {rw[(k 7 (by omega)).2]; exact p.uA}
  {rw[(k 9 (by omega)).1]; exact p.cell}}
theorem Inv.first (h5:d 7=false):UpT [X.bp] X.w W:=by
 cases h3:d 5 with
 | false=>exact Z05 (h.pre h3)
 | true=>obtain ⟨x,p⟩:=h.mid h3 h5; exact p.up
theorem Inv.sC (hd:d 5=false) (h4:d 6=false) (h5:d 7=false) {x:EN} (hp:PAt W' X.bp X.A X.c X.l X.τ) (hu:UpT [X.bp] W W') (hx:x.Is W') (hlo:W.heap.size<=x.lo) (hr:X.R x):X.Inv (also d 5) (upd u 5 (valN x)) W':=by
 have k: ∀j,j≠5->also d 5 j=d j/\upd u 5 (valN x) j=u j:=fun j hj=>⟨ne9 d hj,Z06 u _ hj⟩;have hb:=h.pre hd;refine ⟨h.vals' (by intro v' hv'; cases hv'), ?_,fun _ _=>⟨x,Z09 _ _ _,hp,(Z05 hb).trans hu,hx,hr,Nat.le_trans hb.size hlo, ?_⟩, ?_⟩
 {rw[self9]; intro e; cases e}
 {rw[(k 6 (by omega)).1,h4]; intro e; cases e}
 {rw[(k 7 (by omega)).1,h5]; intro e; cases e}
theorem Inv.sS (h5:d 7=false) (h3:d 5=true) {x:EN} (p:X.Mid d u W x) (t:TypeId):X.Inv (also d 6) (upd u 6 (.slice (some ⟨W.heap.size,0,none⟩) 1 1)) (W.alloc (.cells #[.string ⟨x.t.toArray⟩] t)):=by
 have k: ∀j,j≠6->also d 6 j=d j/\upd u 6 (.slice (some ⟨W.heap.size,0,none⟩) 1 1) j=u j:=fun j hj=>⟨ne9 d hj,Z06 u _ hj⟩;have hb:=Z01 W (.cells #[.string ⟨x.t.toArray⟩] t);refine ⟨h.vals' (by intro v' hv'; cases hv'), ?_,fun _ _=>⟨x, ?_,p.par.below hb,p.up.below hb,New.below p.is hb,p.r,p.lo,fun _=>⟨W.heap.size,Z09 _ _ _,p.up.size,by simp,fun j v hv=> ?_⟩⟩, ?_⟩
 {rw[(k 5 (by omega)).1,h3]; intro e; cases e}
 {rw[(k 5 (by omega)).2]; exact p.uC}
 {rw[World.cell?_alloc_at _ _ _ _ rfl];simpa[cNN] using hv}
 {rw[(k 7 (by omega)).1,h5]; intro e; cases e}
theorem Inv.sA (hd:d 7=false) (h3:d 5=true) (h7:d 9=false) {x:EN} (p:X.Mid d u W x) {g cp:Nat} (hX:X.Good) (hrow:W'.ownsRow X.B 9 1 (.slice (some ⟨g,0,none⟩) (X.xs.length+1) cp) (X.xs.length+1) (X.xs.flatMap cNN++cNN x))
 (hg:W.grownBy W' (rowT X.AR)) (hat:rowT X.AR=some g\/g=W.heap.size):X.Inv (also d 7) (upd u 7 (.slice (some ⟨g,0,none⟩) (X.xs.length+1) cp)) W':=by
 have k: ∀j,j≠7->also d 7 j=d j/\upd u 7 (.slice (some ⟨g,0,none⟩) (X.xs.length+1) cp) j=u j:=fun j hj=>⟨ne9 d hj,Z06 u _ hj⟩;have hsz:=p.up.size;have hRB: ∀k,rowT X.AR=some k->X.B<=k/\k < X.w.heap.size:=fun k hk=>hX.row.lt k hk;have hBw:=hX.Bw;have hbo:=hX.bpob;have u1:UpT (rowT X.AR).toList W W':=⟨hg.os,hg.tape,hg.output,hg.size,fun x h1 h2=>hg.block x h1 (fun e=>h2 (by rw[<-e]; simp))⟩;have ho:SameT X.w W' X.ob:=(p.up.same hX.oblt (by simp; omega)).trans (u1.same (Nat.lt_of_lt_of_le hX.oblt hsz) (by
  intro hx;have h1:rowT X.AR=some X.ob:=by simpa using hx
  have:=hRB _ h1; have:=hX.obB; omega))
 refine ⟨h.vals' (by intro v' hv'; cases hv'), ?_, ?_,fun _=>⟨x,g,cp,Z09 _ _ _,p.par.keep u1 (fun k hk=> ?_),New.grown p.is hg (fun k hk=>Or.inl ?_),p.r,p.lo, ?_, ?_, ?_,hrow, ?_,fun j hj=>ho.1 j,fun j=>ho.2 j⟩⟩
 {rw[(k 5 (by omega)).1]; intro e; rw[h3] at e; cases e}
 {rw[self9]; intro _ e; cases e}
 {have h1:rowT X.AR=some k:=by simpa using hk
  have:=hRB _ h1; have:=hX.bpB; omega}
 {have:=hRB _ hk; have:=p.lo; omega}
 {rcases hat with h1 | h1
  {left; have:=hRB _ h1; have:=p.lo; omega}
  {right; have:=p.is.hi_; omega}}
 {rcases hat with h1 | h1
  {exact Or.inl h1}
  {exact Or.inr (by omega)}}
 {exact (p.up.mono (fun y hy _=>by simp at hy; simp[hy])).trans (u1.mono (fun y hy _=>by simp at hy; simp[hy]))}
 {rw[(k 9 (by omega)).1,h7]; exact (ho.1 _).trans hX.cell}
theorem Inv.sT (h3:d 5=true) (h5:d 7=true) (hX:X.Good) {x:EN} {g cp:Nat} (p:X.Post d u W x g cp) (v:Value):X.Inv (also d 9) (upd u 9 v) (W.setCell ⟨X.ob,X.fo,none⟩ (.slice (some ⟨g,0,none⟩) (X.xs.length+1) cp)):=by
 have k: ∀j,j≠9->also d 9 j=d j/\upd u 9 v j=u j:=fun j hj=>⟨ne9 d hj,Z06 u _ hj⟩;have hgB:X.B<=g/\g < W.heap.size:=p.row.lt g rfl;have hbB:=hX.bpB;have hoB:=hX.obB;have hlo:=p.lo;have hBw:=hX.Bw;have hne2:=hX.bpob;have u1:UpT [X.ob] W (W.setCell ⟨X.ob,X.fo,none⟩ (.slice (some ⟨g,0,none⟩) (X.xs.length+1) cp)):=(UpT.refl _ _).set _ (Or.inr (by simp)) _;refine ⟨h.vals' (by intro v' hv'; cases hv'), ?_, ?_,fun _=>⟨x,g,cp, ?_,p.par.keep u1 (by simp; omega),New.up p.is u1 (by simp; omega),p.r,p.lo,p.far,p.new, ?_, ?_, ?_,fun j hj=> ?_,fun j=> ?_⟩⟩
 {rw[(k 5 (by omega)).1]; intro e; rw[h3] at e; cases e}
 {rw[(k 7 (by omega)).1,h5]; intro _ e; cases e}
 {rw[(k 7 (by omega)).2]; exact p.uA}
 {exact p.up.trans (u1.mono (fun y hy _=>by simp at hy; simp[hy]))}
 {exact Z1n p.row (by intro e; have:=Option.some.inj e; simp at this; omega) _}
 {rw[self9,if_pos rfl]; exact World.cell?_setCell_same _ _ _ p.cell}
 {rw[World.cell?_setCell_other _ _ _ _ (fun e=>hj (by have:=congrArg Addr.off e; simpa using this.symm))]; exact p.rest j hj}
 {rw[World.frozen?_setCell]; exact p.fz j}
end
end PtxN
structure PfrN (pos:String) (b s sp tC fi fnN:Nat) (fn:Nat) (A: (Nat->Value)->Act) (vs vp:Value):Prop where
 put: ∀(i:Nat) o,(plnN pos b s sp tC fi fnN fn)[i]? =some o-> ∀u v,(A u).put o.dst v=A (upd u i v)
 es: ∀u,(A u).eval (.tmp s)=vs
 ep: ∀u,(A u).eval (.tmp sp)=vp
 e0: ∀u,(A u).eval (.tmp b)=u 0
 e1: ∀u,(A u).eval (.tmp (b+1))=u 1
 e2: ∀u,(A u).eval (.tmp (b+2))=u 2
 e3: ∀u,(A u).eval (.tmp (b+3))=u 3
 e4: ∀u,(A u).eval (.tmp (b+4))=u 4
 e5: ∀u,(A u).eval (.tmp (b+5))=u 5
 e6: ∀u,(A u).eval (.tmp (b+6))=u 6
 e7: ∀u,(A u).eval (.tmp (b+7))=u 7
 e8: ∀u,(A u).eval (.tmp (b+8))=u 8
theorem prgN {Q:Exit->Act->World->Prop} {id:Nat} (pos:String) (b s sp:Nat) (tC fi fn:Nat) (X:PtxN) (hX:X.Good) (pb:Nat) (hpb:X.w.cell? ⟨pb,0,none⟩=some (.pointer (some ⟨X.bp,0,none⟩))) (hpl:pb < X.w.heap.size) (hpn:pb≠X.bp)
 (A: (Nat->Value)->Act) (u0:Nat->Value) (hA:PfrN pos b s sp tC fi X.fnN fn A (.pointer (some ⟨X.ob,0,none⟩)) (.pointer (some ⟨pb,0,none⟩)))
 (hfa: ∀W,(Instr.fieldAt tC (.pointer (some ⟨X.ob,0,none⟩)) fi).run Tryz.prog W= .ok (.pointer (some ⟨X.ob,X.fo,none⟩)) W)
 (hen: ∀args W,(callFunc fn args).run Tryz.prog W= .ok (.enter fn args) W)
 (hcall: ∀W,Below X.w.heap.size X.w W->Calls Tryz.prog fn #[.pointer (some ⟨X.bp,0,none⟩)] W fun e W'=> ∃x:EN,e= .returned (valN x)/\PAt W' X.bp X.A X.c X.l X.τ/\UpT [X.bp] W W'/\x.Is W'/\W.heap.size<=x.lo/\X.R x)
 (hQ: ∀u W x g cp,X.Post (fun _=>true) u W x g cp->Q .normal (A u) W):
 (Code.region id (plnN pos b s sp tC fi X.fnN fn) true).wp Tryz.prog Q (A u0) X.w:=by
 obtain ⟨i0,hif,hz0,hz1,hz2⟩:=Z1e Z5q;have es:=hA.es;have ep:=hA.ep;have hcl:Tryz.prog.cellsOf 22=1:=by kernel_rfl
 have hcp:Tryz.prog.cellsOf 59=1:=by kernel_rfl
 refine Z3I (rs:= [0,1,2,3,4,5,6,7,8,9]) A u0 X.Inv (by kernel_rfl) (by kernel_rfl) (by kernel_rfl) hX.start ?_ ?_;refine StepsInv.cons2 (qN0 pos b s sp tC fi X.fnN) rfl (fun d u W K' hS hI hd hw hK=> ?_) ?_
 {refine Z02 (v:= .pointer (some ⟨X.ob,X.fo,none⟩)) (W':=W) rfl ?_ (by rw[hA.put 0 (qN0 pos b s sp tC fi X.fnN) rfl u _]; exact hK.out _ _ (hI.pure (by omega) (fun v' h=>by cases h; rfl)));simp only[execOp,qN0,es u,hfa,Sem.run_bind,Result.andThen_ok,Sem.run_pure]}
 refine StepsInv.cons2 (qN1 pos b s sp tC fi X.fnN) rfl (fun d u W K' hS hI hd hw hK=> ?_) ?_
 {have e0:=hA.e0 u;rw[hI.vals 0 (hw 0 (by kernel_rfl)) _ rfl] at e0;have h5:d 7=false:=by cases e:d 7 with | false=>rfl | true=>have:=hS 7 _ rfl e 1 (by kernel_rfl); rw[hd] at this; cases this
  have hu:=hI.first h5;have hbo:=hX.bpob;obtain ⟨hc,hlt⟩:W.cell? ⟨X.ob,X.fo,none⟩=some (.slice X.AR X.xs.length X.cap)/\X.ob < W.heap.size:=⟨((hu.same hX.oblt (by simp; omega)).1 _).trans hX.cell,Nat.lt_of_lt_of_le hX.oblt hu.size⟩;refine Z02 (v:= .slice X.AR X.xs.length X.cap) (W':=W) rfl ?_ (by rw[hA.put 1 (qN1 pos b s sp tC fi X.fnN) rfl u _]; exact hK.out _ _ (hI.pure (by omega) (fun v' h=>by cases h; rfl)));simp only[execOp,qN1,e0,Sem.run_bind,Result.andThen_ok,Sem.run_pure,List.map_toArray,List.map_cons,List.map_nil];go_simp}
 refine StepsInv.cons2 (qN2 pos b s sp tC fi X.fnN) rfl (fun d u W K' hS hI hd hw hK=> ?_) ?_
 {have h3:d 5=false:=by cases e:d 5 with | false=>rfl | true=>have:=hS 3 _ rfl (hS 4 _ rfl (hS 5 _ rfl (e) 4 (by kernel_rfl)) 3 (by kernel_rfl)) 2 (by kernel_rfl); rw[hd] at this; cases this
  have hu:UpT [X.bp] X.w W:=Z05 (hI.pre h3);obtain ⟨hc,hlt⟩:W.cell? ⟨pb,0,none⟩=some (.pointer (some ⟨X.bp,0,none⟩))/\pb < W.heap.size:=⟨((hu.same hpl (by simp[hpn])).1 _).trans hpb,Nat.lt_of_lt_of_le hpl hu.size⟩;refine Z02 (v:= .pointer (some ⟨X.bp,0,none⟩)) (W':=W) rfl ?_ (by rw[hA.put 2 (qN2 pos b s sp tC fi X.fnN) rfl u _]; exact hK.out _ _ (hI.pure (by omega) (fun v' h=>by cases h; rfl)));simp only[execOp,qN2,ep u,Sem.run_bind,Result.andThen_ok,Sem.run_pure,List.map_toArray,List.map_cons,List.map_nil];go_simp}
 refine StepsInv.cons2 (qN3 pos b s sp tC fi X.fnN) rfl (fun d u W K' hS hI hd hw hK=> ?_) ?_
 {have e2:=hA.e2 u;rw[hI.vals 2 (hw 2 (by kernel_rfl)) _ rfl] at e2;refine Z02 (v:= .pointer (some ⟨X.bp,0,none⟩)) (W':=W) rfl ?_ (by rw[hA.put 3 (qN3 pos b s sp tC fi X.fnN) rfl u _]; exact hK.out _ _ (hI.pure (by omega) (fun v' h=>by cases h; rfl)));simp only[execOp,qN3,e2,Sem.run_bind,Result.andThen_ok,Sem.run_pure,List.map_toArray,List.map_cons,List.map_nil]
  all_goals first | (go_simp; done) | (go_simp; rfl)}
 refine StepsInv.cons2 (qN4 pos b s sp tC fi X.fnN) rfl (fun d u W K' hS hI hd hw hK=> ?_) ?_
 {have e3:=hA.e3 u;rw[hI.vals 3 (hw 3 (by kernel_rfl)) _ rfl] at e3;refine Z02 (v:= .pointer (some ⟨X.bp,0,none⟩)) (W':=W) rfl ?_ (by rw[hA.put 4 (qN4 pos b s sp tC fi X.fnN) rfl u _]; exact hK.out _ _ (hI.pure (by omega) (fun v' h=>by cases h; rfl)));simp only[execOp,qN4,e3,Sem.run_bind,Result.andThen_ok,Sem.run_pure,List.map_toArray,List.map_cons,List.map_nil]
  all_goals first | (go_simp; done) | (go_simp; rfl)}
 refine StepsInv.cons2 (qN5 pos b s sp tC fi X.fnN fn) rfl (fun d u W K' hS hI hd hw hK=> ?_) ?_
 {have h4:d 6=false:=by cases e:d 6 with | false=>rfl | true=>have:=hS 6 _ rfl e 5 (by kernel_rfl); rw[hd] at this; cases this
  have h5:d 7=false:=by cases e:d 7 with | false=>rfl | true=>have:=hS 7 _ rfl e 6 (by kernel_rfl); rw[h4] at this; cases this
  have e4:=hA.e4 u;rw[hI.vals 4 (hw 4 (by kernel_rfl)) _ rfl] at e4;refine Z0M (f:=fn) (args:=#[.pointer (some ⟨X.bp,0,none⟩)]) (W':=W) rfl ?_ ((hcall W (hI.pre hd)).mono ?_)
  {simp only[execOp,qN5,e4,Sem.run_bind,Result.andThen_ok,Sem.run_pure,resolve,invoke,List.map_toArray,List.map_cons,List.map_nil];have ef: (A u).eval (.func fn)= .func (.func fn) #[] #[]:=rfl;rw[ef];go_simp}
  {rintro e W' ⟨x,rfl,h1,h2,h3,h6,h7⟩;exact ⟨_,rfl,by rw[hA.put 5 (qN5 pos b s sp tC fi X.fnN fn) rfl u _]; exact hK.out _ _ (hI.sC hd h4 h5 h1 h2 h3 h6 h7)⟩}}
 refine StepsInv.cons2 (qN6 pos b s sp tC fi X.fnN) rfl (fun d u W K' hS hI hd hw hK=> ?_) ?_
 {have h3:=hw 5 (by kernel_rfl);have h5:d 7=false:=by cases e:d 7 with | false=>rfl | true=>have:=hS 7 _ rfl e 6 (by kernel_rfl); rw[hd] at this; cases this
  obtain ⟨x,p⟩:=hI.mid h3 h5;have e3:=hA.e5 u;rw[p.uC] at e3;simp only[valN] at e3;refine Z02 (v:= .slice (some ⟨W.heap.size,0,none⟩) 1 1) (W':=W.alloc (.cells #[.string ⟨x.t.toArray⟩] 9)) rfl ?_ (by rw[hA.put 6 (qN6 pos b s sp tC fi X.fnN) rfl u _]; exact hK.out _ _ (hI.sS h5 h3 p _));have e3t: (A u).tmps[b+5]?.getD undef= .string ⟨x.t.toArray⟩:=by simpa[Act.eval] using e3
  simp only[execOp,qN6,e3,Sem.run_bind,Result.andThen_ok,Sem.run_pure];go_simp}
 refine StepsInv.cons2 (qN7 pos b s sp tC fi X.fnN) rfl (fun d u W K' hS hI hd hw hK=> ?_) ?_
 {have h1:=hw 1 (by kernel_rfl);have h4:=hw 6 (by kernel_rfl);have h3:=hS 6 _ rfl h4 5 (by kernel_rfl);have h7:d 9=false:=by cases e:d 9 with | false=>rfl | true=>have:=hS 9 _ rfl e 7 (by kernel_rfl); rw[hd] at this; cases this
  obtain ⟨x,p⟩:=hI.mid h3 hd;have e1:=hA.e1 u;rw[hI.vals 1 h1 _ rfl] at e1;obtain ⟨z0,u4,z1,z2,z3⟩:=p.aS h4;have e4:=hA.e6 u;rw[u4] at e4;have hbB:=hX.bpB;have hRW:=hX.row.up p.up (fun x hx=>by simp at hx; subst hx; intro e; have:=hX.row.lt _ e; omega);have hln:=hX.len;have hBw:=hX.Bw;have hsz:=p.up.size;refine step_append_lies W rfl _ _ 22 rfl X.B 9 i0 (.string ByteArray.empty) 1 16 Tryz.underlying22 hif hz0 hz1 hz2 rfl (by decide) _ _ _ e1 hRW ⟨z0,0,none⟩ 1 1 (cNN x) e4 rfl (fun j v hv=>by rw[Z0r,Nat.zero_add]; exact z3 j v hv) (Zax x) (by decide) (by unfold maxLen; omega) (by omega) (by omega) _ rfl ?_;intro g cp W' hown hg hat hlt;rw[hA.put 7 (qN7 pos b s sp tC fi X.fnN) rfl u _];exact hK.out _ _ (hI.sA hd h3 h7 p hX hown (by rw[Z0v] at hg; exact hg) (by rw[Z0v] at hat; exact hat))}
 refine StepsInv.cons2 (qN8 pos b s sp tC fi X.fnN) rfl (fun d u W K' hS hI hd hw hK=> ?_) ?_
 {refine Z02 (v:= .pointer (some ⟨X.ob,X.fo,none⟩)) (W':=W) rfl ?_ (by rw[hA.put 8 (qN8 pos b s sp tC fi X.fnN) rfl u _]; exact hK.out _ _ (hI.pure (by omega) (fun v' h=>by cases h; rfl)));simp only[execOp,qN8,es u,hfa,Sem.run_bind,Result.andThen_ok,Sem.run_pure]}
 refine StepsInv.cons2 (qN9 pos b s sp tC fi X.fnN) rfl (fun d u W K' hS hI hd hw hK=> ?_) StepsInv.nil
 {have h5:=hw 7 (by kernel_rfl);have h3:=hS 6 _ rfl (hS 7 _ rfl h5 6 (by kernel_rfl)) 5 (by kernel_rfl);obtain ⟨x,g,cp,p⟩:=hI.post h5;have e5:=hA.e7 u;rw[p.uA] at e5;have e6:=hA.e8 u;rw[hI.vals 8 (hw 8 (by kernel_rfl)) _ rfl] at e6;have hc:=p.cell;rw[hd] at hc;simp only[Bool.false_eq_true,if_false] at hc;have hfz:=(p.fz X.fo).trans hX.fz;have hol:=Nat.lt_of_lt_of_le hX.oblt p.up.size;refine Z0B (W':=W.setCell ⟨X.ob,X.fo,none⟩ (.slice (some ⟨g,0,none⟩) (X.xs.length+1) cp)) rfl ?_ (by rw[hA.put 9 (qN9 pos b s sp tC fi X.fnN) rfl u _]; exact hK.out _ _ (hI.sT h3 h5 hX p undef));simp only[execOp,qN9,e6,e5,Sem.run_bind,Result.andThen_ok,Sem.run_pure];go_simp}
 {intro d u W hI hd;obtain ⟨x,g,cp,p⟩:=hI.post (hd 7 (by show 7 < 10; omega));refine hQ u W x g cp ⟨p.uA,p.par,p.is,p.r,p.lo,p.far,p.new,p.up,p.row, ?_,p.rest,p.fz⟩;have:=p.cell; rw[hd 9 (by show 9 < 10; omega)] at this; exact this}
end
end Go.Proofs.YtkncdbaoaeeoiaaGreatDoor
namespace Go.Proofs.YtkncdbaoaeeoiaaGreatDoor
section
open Go.RowKit Tms
open Shp (Sh)
open Pso (St)
def qA0 (pos:String) (b s sp tC fi fnN:Nat):Oper:=
 { dst:=some b,op:= .fieldAddr tC (.tmp s) fi,type:=0,pos:=pos,after:=#[],guard:=none }
def qA1 (pos:String) (b s sp tC fi fnN:Nat):Oper:=
 { dst:=some (b+1),op:= .load 22 (.tmp b),type:=22,pos:=pos,after:=#[{ on:=0,ground:= .data }],guard:=none }
def qA2 (pos:String) (b s sp tC fi fnN:Nat):Oper:=
 { dst:=some (b+2),op:= .load 59 (.tmp sp),type:=59,pos:=pos,after:=#[],guard:=none }
def qA3 (pos:String) (b s sp tC fi fnN:Nat):Oper:=
 { dst:=some (b+3),op:= .nilCheck (.tmp (b+2)),type:=0,pos:=pos,after:=#[{ on:=2,ground:= .data }],guard:=none }
def qA4 (pos:String) (b s sp tC fi fnN:Nat):Oper:=
 { dst:=some (b+4),op:= .fieldAddr 81 (.tmp (b+3)) 0,type:=0,pos:=pos,after:=#[{ on:=3,ground:= .data }],guard:=none }
def qA5 (pos:String) (b s sp tC fi fnN:Nat):Oper:=
 { dst:=some (b+5),op:= .fieldAddr tC (.tmp s) fi,type:=0,pos:=pos,after:=#[],guard:=none }
def qA6 (pos:String) (b s sp tC fi fnN:Nat):Oper:=
 { dst:=some (b+6),op:= .load 22 (.tmp (b+5)),type:=22,pos:=pos,after:=#[{ on:=5,ground:= .data }],guard:=none }
def qA7 (pos:String) (b s sp tC fi fnN:Nat):Oper:=
 { dst:=some (b+7),op:= .load 59 (.tmp sp),type:=59,pos:=pos,after:=#[],guard:=none }
def qA8 (pos:String) (b s sp tC fi fnN:Nat):Oper:=
 { dst:=some (b+8),op:= .nilCheck (.tmp (b+7)),type:=0,pos:=pos,after:=#[{ on:=7,ground:= .data }],guard:=none }
def qA9 (pos:String) (b s sp tC fi fnN:Nat):Oper:=
 { dst:=some (b+9),op:= .fieldAddr 81 (.tmp (b+8)) 0,type:=0,pos:=pos,after:=#[{ on:=8,ground:= .data }],guard:=none }
def qA10 (pos:String) (b s sp tC fi fnN:Nat):Oper:=
 { dst:=some (b+10),op:= .makeFunc (.func fnN) #[.tmp (b+9)] #[],type:=141,pos:=pos,after:=#[{ on:=9,ground:= .data }],guard:=none }
def qA11 (pos:String) (b s sp tC fi fnN:Nat) (fn:Nat):Oper:=
 { dst:=some (b+11),op:= .call { callee:= .value (.func fn),args:=#[.tmp (b+4),.tmp (b+6),.tmp (b+10)],argTypes:=#[79,22,141] },type:=9,pos:=pos,after:=#[{ on:=4,ground:= .data },{ on:=6,ground:= .data },{ on:=10,ground:= .data }],guard:=none }
def qA12 (pos:String) (b s sp tC fi fnN:Nat):Oper:=
 { dst:=some (b+12),op:= .buildSlice 22 1 #[(0,.tmp (b+11))],type:=22,pos:=pos,after:=#[{ on:=11,ground:= .data }],guard:=none }
def qA13 (pos:String) (b s sp tC fi fnN:Nat):Oper:=
 { dst:=some (b+13),op:= .call { callee:= .builtin .append,args:=#[.tmp (b+1),.tmp (b+12)],argTypes:=#[22,22] },type:=22,pos:=pos,after:=#[{ on:=1,ground:= .data },{ on:=12,ground:= .data },{ on:=11,ground:= .chain }],guard:=none }
def qA14 (pos:String) (b s sp tC fi fnN:Nat):Oper:=
 { dst:=some (b+14),op:= .fieldAddr tC (.tmp s) fi,type:=0,pos:=pos,after:=#[{ on:=0,ground:= .phase },{ on:=1,ground:= .phase },{ on:=2,ground:= .phase },{ on:=3,ground:= .phase },{ on:=4,ground:= .phase },{ on:=5,ground:= .phase },{ on:=6,ground:= .phase },{ on:=7,ground:= .phase },{ on:=8,ground:= .phase },{ on:=9,ground:= .phase },{ on:=10,ground:= .phase },{ on:=11,ground:= .phase },{ on:=12,ground:= .phase },{ on:=13,ground:= .phase }],guard:=none }
def qA15 (pos:String) (b s sp tC fi fnN:Nat):Oper:=
 { dst:=none,op:= .store 22 (.tmp (b+14)) (.tmp (b+13)),type:=0,pos:=pos,after:=#[{ on:=14,ground:= .data },{ on:=13,ground:= .data },{ on:=13,ground:= .chain },{ on:=0,ground:= .phase },{ on:=1,ground:= .phase },{ on:=2,ground:= .phase },{ on:=3,ground:= .phase },{ on:=4,ground:= .phase },{ on:=5,ground:= .phase },{ on:=6,ground:= .phase },{ on:=7,ground:= .phase },{ on:=8,ground:= .phase },{ on:=9,ground:= .phase },{ on:=10,ground:= .phase },{ on:=11,ground:= .phase },{ on:=12,ground:= .phase },{ on:=13,ground:= .phase }],guard:=none }
def plnA (pos:String) (b s sp tC fi fnN:Nat) (fn:Nat):Array Oper:=
 #[qA0 pos b s sp tC fi fnN,qA1 pos b s sp tC fi fnN,qA2 pos b s sp tC fi fnN,qA3 pos b s sp tC fi fnN,qA4 pos b s sp tC fi fnN,qA5 pos b s sp tC fi fnN,qA6 pos b s sp tC fi fnN,qA7 pos b s sp tC fi fnN,qA8 pos b s sp tC fi fnN,qA9 pos b s sp tC fi fnN,qA10 pos b s sp tC fi fnN,qA11 pos b s sp tC fi fnN fn,qA12 pos b s sp tC fi fnN,qA13 pos b s sp tC fi fnN,qA14 pos b s sp tC fi fnN,qA15 pos b s sp tC fi fnN]
structure PtxA where
 w:World
 bp:Nat
 A:Option Addr
 c:Nat
 l:List Tk
 τ:St
 ob:Nat
 fo:Nat
 B:Nat
 AR:Option Addr
 cap:Nat
 xs:List EN
 R:EN->Prop
 fnN:Nat
namespace PtxA
variable (X : PtxA)
def val (j:Nat):Option Value:=match j with
 | 0=>some (.pointer (some ⟨X.ob,X.fo,none⟩))
 | 1=>some (.slice X.AR X.xs.length X.cap)
 | 2=>some (.pointer (some ⟨X.bp,0,none⟩))
 | 3=>some (.pointer (some ⟨X.bp,0,none⟩))
 | 4=>some (.pointer (some ⟨X.bp,0,none⟩))
 | 5=>some (.pointer (some ⟨X.ob,X.fo,none⟩))
 | 6=>some (.slice X.AR X.xs.length X.cap)
 | 7=>some (.pointer (some ⟨X.bp,0,none⟩))
 | 8=>some (.pointer (some ⟨X.bp,0,none⟩))
 | 9=>some (.pointer (some ⟨X.bp,0,none⟩))
 | 10=>some (.func (.func X.fnN) #[.pointer (some ⟨X.bp,0,none⟩)] #[])
 | 14=>some (.pointer (some ⟨X.ob,X.fo,none⟩))
 | _=>none
structure Good:Prop where
 cell:X.w.cell? ⟨X.ob,X.fo,none⟩=some (.slice X.AR X.xs.length X.cap)
 fz:X.w.frozen? ⟨X.ob,X.fo,none⟩=false
 oblt:X.ob < X.w.heap.size
 bpob:X.bp < X.ob
 row:Row X.w X.B 9 1 cNN X.AR X.cap X.xs
 obB:X.ob < X.B
 bpB:X.bp < X.B
 Bw:X.B<=X.w.heap.size
 len:X.xs.length<=900000
structure Mid (d:Nat->Bool) (u:Nat->Value) (W:World) (x:EN):Prop where
 uC:u 11=valN x
 par:PAt W X.bp X.A X.c X.l X.τ
 up:UpT [X.bp] X.w W
 is:x.Is W
 r:X.R x
 lo:X.w.heap.size<=x.lo
 aS:d 12=true-> ∃z0,u 12= .slice (some ⟨z0,0,none⟩) 1 1/\X.w.heap.size<=z0/\z0 < W.heap.size/\ ∀(j:Nat) v,(cNN x)[j]? =some v->W.cell? ⟨z0,j,none⟩=some v
structure Post (d:Nat->Bool) (u:Nat->Value) (W:World) (x:EN) (g cp:Nat):Prop where
 uA:u 13= .slice (some ⟨g,0,none⟩) (X.xs.length+1) cp
 par:PAt W X.bp X.A X.c X.l X.τ
 is:x.Is W
 r:X.R x
 lo:X.w.heap.size<=x.lo
 far:g < x.lo\/x.hi<=g
 new:rowT X.AR=some g\/X.w.heap.size<=g
 up:UpT (X.bp::X.ob::(rowT X.AR).toList) X.w W
 row:W.ownsRow X.B 9 1 (.slice (some ⟨g,0,none⟩) (X.xs.length+1) cp) (X.xs.length+1) (X.xs.flatMap cNN++cNN x)
 cell:W.cell? ⟨X.ob,X.fo,none⟩=some (if d 15=true then .slice (some ⟨g,0,none⟩) (X.xs.length+1) cp else .slice X.AR X.xs.length X.cap)
 rest: ∀j,j≠X.fo->W.cell? ⟨X.ob,j,none⟩=X.w.cell? ⟨X.ob,j,none⟩
 fz: ∀j,W.frozen? ⟨X.ob,j,none⟩=X.w.frozen? ⟨X.ob,j,none⟩
structure Inv (d:Nat->Bool) (u:Nat->Value) (W:World):Prop where
 vals: ∀j,d j=true-> ∀v,X.val j=some v->u j=v
 pre:d 11=false->Below X.w.heap.size X.w W
 mid:d 11=true->d 13=false-> ∃x,X.Mid d u W x
 post:d 13=true-> ∃x g cp,X.Post d u W x g cp
variable {X : PtxA} {d : Nat -> Bool} {u : Nat -> Value} {W W' : World}
theorem Good.start (h:X.Good):X.Inv (fun _=>false) u X.w.drew:=⟨nofun,fun _=>Y2.drew,nofun,nofun⟩
theorem ne9 (d:Nat->Bool) {i j:Nat} (h:j≠i):also d i j=d j:=by
 unfold also;have:Nat.beq j i=false:=by cases hb:Nat.beq j i <;> first | rfl | exact absurd (Nat.eq_of_beq_eq_true hb) h
 rw[this]; rfl
theorem self9 (d:Nat->Bool) (i:Nat):also d i i=true:=by unfold also; rw[Nat.beq_refl]; rfl
section
variable (h : X.Inv d u W)
include h
theorem Inv.vals' {i:Nat} {v:Value} (hv: ∀v',X.val i=some v'->v=v'): ∀j,also d i j=true-> ∀v',X.val j=some v'->upd u i v j=v':=fun j hj v' hv'=>by
 by_cases hij:j=i
 {subst hij; rw[Z09]; exact hv v' hv'}
 {rw[ne9 d hij] at hj; rw[Z06 u v hij]; exact h.vals j hj v' hv'}
theorem Inv.pure {i:Nat} (hi:i < 11\/i=14) {v:Value} (hv: ∀v',X.val i=some v'->v=v'):X.Inv (also d i) (upd u i v) W:=by
 have k: ∀j,j=11\/j=12\/j=13\/j=15->also d i j=d j/\upd u i v j=u j:=fun j hj=>⟨ne9 d (by omega),Z06 u v (by omega)⟩;refine ⟨h.vals' hv, ?_, ?_, ?_⟩
 {rw[(k 11 (by omega)).1]; exact h.pre}
 {rw[(k 11 (by omega)).1,(k 13 (by omega)).1];intro h3 h5;obtain ⟨x,p⟩:=h.mid h3 h5;refine ⟨x, ?_,p.par,p.up,p.is,p.r,p.lo, ?_⟩
  {rw[(k 11 (by omega)).2]; exact p.uC}
  {rw[(k 12 (by omega)).1,(k 12 (by omega)).2]; exact p.aS}}
 {rw[(k 13 (by omega)).1];intro h5;obtain ⟨x,g,cp,p⟩:=h.post h5;refine ⟨x,g,cp, ?_,p.par,p.is,p.r,p.lo,p.far,p.new,p.up,p.row, ?_,p.rest,p.fz⟩
  {rw[(k 13 (by omega)).2]; exact p.uA}
  {rw[(k 15 (by omega)).1]; exact p.cell}}
theorem Inv.first (h5:d 13=false):UpT [X.bp] X.w W:=by
 cases h3:d 11 with
 | false=>exact Z05 (h.pre h3)
 | true=>obtain ⟨x,p⟩:=h.mid h3 h5; exact p.up
theorem Inv.sC (hd:d 11=false) (h4:d 12=false) (h5:d 13=false) {x:EN} (hp:PAt W' X.bp X.A X.c X.l X.τ) (hu:UpT [X.bp] W W') (hx:x.Is W') (hlo:W.heap.size<=x.lo) (hr:X.R x):X.Inv (also d 11) (upd u 11 (valN x)) W':=by
 have k: ∀j,j≠11->also d 11 j=d j/\upd u 11 (valN x) j=u j:=fun j hj=>⟨ne9 d hj,Z06 u _ hj⟩;have hb:=h.pre hd;refine ⟨h.vals' (by intro v' hv'; cases hv'), ?_,fun _ _=>⟨x,Z09 _ _ _,hp,(Z05 hb).trans hu,hx,hr,Nat.le_trans hb.size hlo, ?_⟩, ?_⟩
 {rw[self9]; intro e; cases e}
 {rw[(k 12 (by omega)).1,h4]; intro e; cases e}
 {rw[(k 13 (by omega)).1,h5]; intro e; cases e}
theorem Inv.sS (h5:d 13=false) (h3:d 11=true) {x:EN} (p:X.Mid d u W x) (t:TypeId):X.Inv (also d 12) (upd u 12 (.slice (some ⟨W.heap.size,0,none⟩) 1 1)) (W.alloc (.cells #[.string ⟨x.t.toArray⟩] t)):=by
 have k: ∀j,j≠12->also d 12 j=d j/\upd u 12 (.slice (some ⟨W.heap.size,0,none⟩) 1 1) j=u j:=fun j hj=>⟨ne9 d hj,Z06 u _ hj⟩;have hb:=Z01 W (.cells #[.string ⟨x.t.toArray⟩] t);refine ⟨h.vals' (by intro v' hv'; cases hv'), ?_,fun _ _=>⟨x, ?_,p.par.below hb,p.up.below hb,New.below p.is hb,p.r,p.lo,fun _=>⟨W.heap.size,Z09 _ _ _,p.up.size,by simp,fun j v hv=> ?_⟩⟩, ?_⟩
 {rw[(k 11 (by omega)).1,h3]; intro e; cases e}
 {rw[(k 11 (by omega)).2]; exact p.uC}
 {rw[World.cell?_alloc_at _ _ _ _ rfl];simpa[cNN] using hv}
 {rw[(k 13 (by omega)).1,h5]; intro e; cases e}
theorem Inv.sA (hd:d 13=false) (h3:d 11=true) (h7:d 15=false) {x:EN} (p:X.Mid d u W x) {g cp:Nat} (hX:X.Good) (hrow:W'.ownsRow X.B 9 1 (.slice (some ⟨g,0,none⟩) (X.xs.length+1) cp) (X.xs.length+1) (X.xs.flatMap cNN++cNN x))
 (hg:W.grownBy W' (rowT X.AR)) (hat:rowT X.AR=some g\/g=W.heap.size):X.Inv (also d 13) (upd u 13 (.slice (some ⟨g,0,none⟩) (X.xs.length+1) cp)) W':=by
 have k: ∀j,j≠13->also d 13 j=d j/\upd u 13 (.slice (some ⟨g,0,none⟩) (X.xs.length+1) cp) j=u j:=fun j hj=>⟨ne9 d hj,Z06 u _ hj⟩;have hsz:=p.up.size;have hRB: ∀k,rowT X.AR=some k->X.B<=k/\k < X.w.heap.size:=fun k hk=>hX.row.lt k hk;have hBw:=hX.Bw;have hbo:=hX.bpob;have u1:UpT (rowT X.AR).toList W W':=⟨hg.os,hg.tape,hg.output,hg.size,fun x h1 h2=>hg.block x h1 (fun e=>h2 (by rw[<-e]; simp))⟩;have ho:SameT X.w W' X.ob:=(p.up.same hX.oblt (by simp; omega)).trans (u1.same (Nat.lt_of_lt_of_le hX.oblt hsz) (by
  intro hx;have h1:rowT X.AR=some X.ob:=by simpa using hx
  have:=hRB _ h1; have:=hX.obB; omega))
 refine ⟨h.vals' (by intro v' hv'; cases hv'), ?_, ?_,fun _=>⟨x,g,cp,Z09 _ _ _,p.par.keep u1 (fun k hk=> ?_),New.grown p.is hg (fun k hk=>Or.inl ?_),p.r,p.lo, ?_, ?_, ?_,hrow, ?_,fun j hj=>ho.1 j,fun j=>ho.2 j⟩⟩
 {rw[(k 11 (by omega)).1]; intro e; rw[h3] at e; cases e}
 {rw[self9]; intro _ e; cases e}
 {have h1:rowT X.AR=some k:=by simpa using hk
  have:=hRB _ h1; have:=hX.bpB; omega}
 {have:=hRB _ hk; have:=p.lo; omega}
 {rcases hat with h1 | h1
  {left; have:=hRB _ h1; have:=p.lo; omega}
  {right; have:=p.is.hi_; omega}}
 {rcases hat with h1 | h1
  {exact Or.inl h1}
  {exact Or.inr (by omega)}}
 {exact (p.up.mono (fun y hy _=>by simp at hy; simp[hy])).trans (u1.mono (fun y hy _=>by simp at hy; simp[hy]))}
 {rw[(k 15 (by omega)).1,h7]; exact (ho.1 _).trans hX.cell}
theorem Inv.sT (h3:d 11=true) (h5:d 13=true) (hX:X.Good) {x:EN} {g cp:Nat} (p:X.Post d u W x g cp) (v:Value):X.Inv (also d 15) (upd u 15 v) (W.setCell ⟨X.ob,X.fo,none⟩ (.slice (some ⟨g,0,none⟩) (X.xs.length+1) cp)):=by
 have k: ∀j,j≠15->also d 15 j=d j/\upd u 15 v j=u j:=fun j hj=>⟨ne9 d hj,Z06 u _ hj⟩;have hgB:X.B<=g/\g < W.heap.size:=p.row.lt g rfl;have hbB:=hX.bpB;have hoB:=hX.obB;have hlo:=p.lo;have hBw:=hX.Bw;have hne2:=hX.bpob;have u1:UpT [X.ob] W (W.setCell ⟨X.ob,X.fo,none⟩ (.slice (some ⟨g,0,none⟩) (X.xs.length+1) cp)):=(UpT.refl _ _).set _ (Or.inr (by simp)) _;refine ⟨h.vals' (by intro v' hv'; cases hv'), ?_, ?_,fun _=>⟨x,g,cp, ?_,p.par.keep u1 (by simp; omega),New.up p.is u1 (by simp; omega),p.r,p.lo,p.far,p.new, ?_, ?_, ?_,fun j hj=> ?_,fun j=> ?_⟩⟩
 {rw[(k 11 (by omega)).1]; intro e; rw[h3] at e; cases e}
 {rw[(k 13 (by omega)).1,h5]; intro _ e; cases e}
 {rw[(k 13 (by omega)).2]; exact p.uA}
 {exact p.up.trans (u1.mono (fun y hy _=>by simp at hy; simp[hy]))}
 {exact Z1n p.row (by intro e; have:=Option.some.inj e; simp at this; omega) _}
 {rw[self9,if_pos rfl]; exact World.cell?_setCell_same _ _ _ p.cell}
 {rw[World.cell?_setCell_other _ _ _ _ (fun e=>hj (by have:=congrArg Addr.off e; simpa using this.symm))]; exact p.rest j hj}
 {rw[World.frozen?_setCell]; exact p.fz j}
end
end PtxA
structure PfrA (pos:String) (b s sp tC fi fnN:Nat) (fn:Nat) (A: (Nat->Value)->Act) (vs vp:Value):Prop where
 put: ∀(i:Nat) o,(plnA pos b s sp tC fi fnN fn)[i]? =some o-> ∀u v,(A u).put o.dst v=A (upd u i v)
 es: ∀u,(A u).eval (.tmp s)=vs
 ep: ∀u,(A u).eval (.tmp sp)=vp
 e0: ∀u,(A u).eval (.tmp b)=u 0
 e1: ∀u,(A u).eval (.tmp (b+1))=u 1
 e2: ∀u,(A u).eval (.tmp (b+2))=u 2
 e3: ∀u,(A u).eval (.tmp (b+3))=u 3
 e4: ∀u,(A u).eval (.tmp (b+4))=u 4
 e5: ∀u,(A u).eval (.tmp (b+5))=u 5
 e6: ∀u,(A u).eval (.tmp (b+6))=u 6
 e7: ∀u,(A u).eval (.tmp (b+7))=u 7
 e8: ∀u,(A u).eval (.tmp (b+8))=u 8
 e9: ∀u,(A u).eval (.tmp (b+9))=u 9
 e10: ∀u,(A u).eval (.tmp (b+10))=u 10
 e11: ∀u,(A u).eval (.tmp (b+11))=u 11
 e12: ∀u,(A u).eval (.tmp (b+12))=u 12
 e13: ∀u,(A u).eval (.tmp (b+13))=u 13
 e14: ∀u,(A u).eval (.tmp (b+14))=u 14
theorem prgA {Q:Exit->Act->World->Prop} {id:Nat} (pos:String) (b s sp:Nat) (tC fi fn:Nat) (X:PtxA) (hX:X.Good) (pb:Nat) (hpb:X.w.cell? ⟨pb,0,none⟩=some (.pointer (some ⟨X.bp,0,none⟩))) (hpl:pb < X.w.heap.size) (hpn:pb≠X.bp)
 (A: (Nat->Value)->Act) (u0:Nat->Value) (hA:PfrA pos b s sp tC fi X.fnN fn A (.pointer (some ⟨X.ob,0,none⟩)) (.pointer (some ⟨pb,0,none⟩)))
 (hfa: ∀W,(Instr.fieldAt tC (.pointer (some ⟨X.ob,0,none⟩)) fi).run Tryz.prog W= .ok (.pointer (some ⟨X.ob,X.fo,none⟩)) W)
 (hen: ∀args W,(callFunc fn args).run Tryz.prog W= .ok (.enter fn args) W)
 (hcall: ∀W,Below X.w.heap.size X.w W->Calls Tryz.prog fn #[.pointer (some ⟨X.bp,0,none⟩),.slice X.AR X.xs.length X.cap,.func (.func X.fnN) #[.pointer (some ⟨X.bp,0,none⟩)] #[]] W fun e W'=> ∃x:EN,e= .returned (valN x)/\PAt W' X.bp X.A X.c X.l X.τ/\UpT [X.bp] W W'/\x.Is W'/\W.heap.size<=x.lo/\X.R x)
 (hQ: ∀u W x g cp,X.Post (fun _=>true) u W x g cp->Q .normal (A u) W):
 (Code.region id (plnA pos b s sp tC fi X.fnN fn) true).wp Tryz.prog Q (A u0) X.w:=by
 obtain ⟨i0,hif,hz0,hz1,hz2⟩:=Z1e Z5q;have es:=hA.es;have ep:=hA.ep;have hcl:Tryz.prog.cellsOf 22=1:=by kernel_rfl
 have hcp:Tryz.prog.cellsOf 59=1:=by kernel_rfl
 refine Z3I (rs:= [0,1,2,3,4,5,6,7,8,9,10,11,12,13,14,15]) A u0 X.Inv (by kernel_rfl) (by kernel_rfl) (by kernel_rfl) hX.start ?_ ?_;refine StepsInv.cons2 (qA0 pos b s sp tC fi X.fnN) rfl (fun d u W K' hS hI hd hw hK=> ?_) ?_
 {refine Z02 (v:= .pointer (some ⟨X.ob,X.fo,none⟩)) (W':=W) rfl ?_ (by rw[hA.put 0 (qA0 pos b s sp tC fi X.fnN) rfl u _]; exact hK.out _ _ (hI.pure (by omega) (fun v' h=>by cases h; rfl)));simp only[execOp,qA0,es u,hfa,Sem.run_bind,Result.andThen_ok,Sem.run_pure]}
 refine StepsInv.cons2 (qA1 pos b s sp tC fi X.fnN) rfl (fun d u W K' hS hI hd hw hK=> ?_) ?_
 {have e0:=hA.e0 u;rw[hI.vals 0 (hw 0 (by kernel_rfl)) _ rfl] at e0;have h5:d 13=false:=by cases e:d 13 with | false=>rfl | true=>have:=hS 13 _ rfl e 1 (by kernel_rfl); rw[hd] at this; cases this
  have hu:=hI.first h5;have hbo:=hX.bpob;obtain ⟨hc,hlt⟩:W.cell? ⟨X.ob,X.fo,none⟩=some (.slice X.AR X.xs.length X.cap)/\X.ob < W.heap.size:=⟨((hu.same hX.oblt (by simp; omega)).1 _).trans hX.cell,Nat.lt_of_lt_of_le hX.oblt hu.size⟩;refine Z02 (v:= .slice X.AR X.xs.length X.cap) (W':=W) rfl ?_ (by rw[hA.put 1 (qA1 pos b s sp tC fi X.fnN) rfl u _]; exact hK.out _ _ (hI.pure (by omega) (fun v' h=>by cases h; rfl)));simp only[execOp,qA1,e0,Sem.run_bind,Result.andThen_ok,Sem.run_pure,List.map_toArray,List.map_cons,List.map_nil];go_simp}
 refine StepsInv.cons2 (qA2 pos b s sp tC fi X.fnN) rfl (fun d u W K' hS hI hd hw hK=> ?_) ?_
 {have h3:d 11=false:=by cases e:d 11 with | false=>rfl | true=>have:=hS 3 _ rfl (hS 4 _ rfl (hS 11 _ rfl (e) 4 (by kernel_rfl)) 3 (by kernel_rfl)) 2 (by kernel_rfl); rw[hd] at this; cases this
  have hu:UpT [X.bp] X.w W:=Z05 (hI.pre h3);obtain ⟨hc,hlt⟩:W.cell? ⟨pb,0,none⟩=some (.pointer (some ⟨X.bp,0,none⟩))/\pb < W.heap.size:=⟨((hu.same hpl (by simp[hpn])).1 _).trans hpb,Nat.lt_of_lt_of_le hpl hu.size⟩;refine Z02 (v:= .pointer (some ⟨X.bp,0,none⟩)) (W':=W) rfl ?_ (by rw[hA.put 2 (qA2 pos b s sp tC fi X.fnN) rfl u _]; exact hK.out _ _ (hI.pure (by omega) (fun v' h=>by cases h; rfl)));simp only[execOp,qA2,ep u,Sem.run_bind,Result.andThen_ok,Sem.run_pure,List.map_toArray,List.map_cons,List.map_nil];go_simp}
 refine StepsInv.cons2 (qA3 pos b s sp tC fi X.fnN) rfl (fun d u W K' hS hI hd hw hK=> ?_) ?_
 {have e2:=hA.e2 u;rw[hI.vals 2 (hw 2 (by kernel_rfl)) _ rfl] at e2;refine Z02 (v:= .pointer (some ⟨X.bp,0,none⟩)) (W':=W) rfl ?_ (by rw[hA.put 3 (qA3 pos b s sp tC fi X.fnN) rfl u _]; exact hK.out _ _ (hI.pure (by omega) (fun v' h=>by cases h; rfl)));simp only[execOp,qA3,e2,Sem.run_bind,Result.andThen_ok,Sem.run_pure,List.map_toArray,List.map_cons,List.map_nil]
  all_goals first | (go_simp; done) | (go_simp; rfl)}
 refine StepsInv.cons2 (qA4 pos b s sp tC fi X.fnN) rfl (fun d u W K' hS hI hd hw hK=> ?_) ?_
 {have e3:=hA.e3 u;rw[hI.vals 3 (hw 3 (by kernel_rfl)) _ rfl] at e3;refine Z02 (v:= .pointer (some ⟨X.bp,0,none⟩)) (W':=W) rfl ?_ (by rw[hA.put 4 (qA4 pos b s sp tC fi X.fnN) rfl u _]; exact hK.out _ _ (hI.pure (by omega) (fun v' h=>by cases h; rfl)));simp only[execOp,qA4,e3,Sem.run_bind,Result.andThen_ok,Sem.run_pure,List.map_toArray,List.map_cons,List.map_nil]
  all_goals first | (go_simp; done) | (go_simp; rfl)}
 refine StepsInv.cons2 (qA5 pos b s sp tC fi X.fnN) rfl (fun d u W K' hS hI hd hw hK=> ?_) ?_
 {refine Z02 (v:= .pointer (some ⟨X.ob,X.fo,none⟩)) (W':=W) rfl ?_ (by rw[hA.put 5 (qA5 pos b s sp tC fi X.fnN) rfl u _]; exact hK.out _ _ (hI.pure (by omega) (fun v' h=>by cases h; rfl)));simp only[execOp,qA5,es u,hfa,Sem.run_bind,Result.andThen_ok,Sem.run_pure]}
 refine StepsInv.cons2 (qA6 pos b s sp tC fi X.fnN) rfl (fun d u W K' hS hI hd hw hK=> ?_) ?_
 {have e5:=hA.e5 u;rw[hI.vals 5 (hw 5 (by kernel_rfl)) _ rfl] at e5;have h3:d 11=false:=by cases e:d 11 with | false=>rfl | true=>have:=hS 11 _ rfl (e) 6 (by kernel_rfl); rw[hd] at this; cases this
  have hu:UpT [X.bp] X.w W:=Z05 (hI.pre h3);have hbo:=hX.bpob;obtain ⟨hc,hlt⟩:W.cell? ⟨X.ob,X.fo,none⟩=some (.slice X.AR X.xs.length X.cap)/\X.ob < W.heap.size:=⟨((hu.same hX.oblt (by simp; omega)).1 _).trans hX.cell,Nat.lt_of_lt_of_le hX.oblt hu.size⟩;refine Z02 (v:= .slice X.AR X.xs.length X.cap) (W':=W) rfl ?_ (by rw[hA.put 6 (qA6 pos b s sp tC fi X.fnN) rfl u _]; exact hK.out _ _ (hI.pure (by omega) (fun v' h=>by cases h; rfl)));simp only[execOp,qA6,e5,Sem.run_bind,Result.andThen_ok,Sem.run_pure,List.map_toArray,List.map_cons,List.map_nil];go_simp}
 refine StepsInv.cons2 (qA7 pos b s sp tC fi X.fnN) rfl (fun d u W K' hS hI hd hw hK=> ?_) ?_
 {have h3:d 11=false:=by cases e:d 11 with | false=>rfl | true=>have:=hS 8 _ rfl (hS 9 _ rfl (hS 10 _ rfl (hS 11 _ rfl (e) 10 (by kernel_rfl)) 9 (by kernel_rfl)) 8 (by kernel_rfl)) 7 (by kernel_rfl); rw[hd] at this; cases this
  have hu:UpT [X.bp] X.w W:=Z05 (hI.pre h3);obtain ⟨hc,hlt⟩:W.cell? ⟨pb,0,none⟩=some (.pointer (some ⟨X.bp,0,none⟩))/\pb < W.heap.size:=⟨((hu.same hpl (by simp[hpn])).1 _).trans hpb,Nat.lt_of_lt_of_le hpl hu.size⟩;refine Z02 (v:= .pointer (some ⟨X.bp,0,none⟩)) (W':=W) rfl ?_ (by rw[hA.put 7 (qA7 pos b s sp tC fi X.fnN) rfl u _]; exact hK.out _ _ (hI.pure (by omega) (fun v' h=>by cases h; rfl)));simp only[execOp,qA7,ep u,Sem.run_bind,Result.andThen_ok,Sem.run_pure,List.map_toArray,List.map_cons,List.map_nil];go_simp}
 refine StepsInv.cons2 (qA8 pos b s sp tC fi X.fnN) rfl (fun d u W K' hS hI hd hw hK=> ?_) ?_
 {have e7:=hA.e7 u;rw[hI.vals 7 (hw 7 (by kernel_rfl)) _ rfl] at e7;refine Z02 (v:= .pointer (some ⟨X.bp,0,none⟩)) (W':=W) rfl ?_ (by rw[hA.put 8 (qA8 pos b s sp tC fi X.fnN) rfl u _]; exact hK.out _ _ (hI.pure (by omega) (fun v' h=>by cases h; rfl)));simp only[execOp,qA8,e7,Sem.run_bind,Result.andThen_ok,Sem.run_pure,List.map_toArray,List.map_cons,List.map_nil]
  all_goals first | (go_simp; done) | (go_simp; rfl)}
 refine StepsInv.cons2 (qA9 pos b s sp tC fi X.fnN) rfl (fun d u W K' hS hI hd hw hK=> ?_) ?_
 {have e8:=hA.e8 u;rw[hI.vals 8 (hw 8 (by kernel_rfl)) _ rfl] at e8;refine Z02 (v:= .pointer (some ⟨X.bp,0,none⟩)) (W':=W) rfl ?_ (by rw[hA.put 9 (qA9 pos b s sp tC fi X.fnN) rfl u _]; exact hK.out _ _ (hI.pure (by omega) (fun v' h=>by cases h; rfl)));simp only[execOp,qA9,e8,Sem.run_bind,Result.andThen_ok,Sem.run_pure,List.map_toArray,List.map_cons,List.map_nil]
  all_goals first | (go_simp; done) | (go_simp; rfl)}
 refine StepsInv.cons2 (qA10 pos b s sp tC fi X.fnN) rfl (fun d u W K' hS hI hd hw hK=> ?_) ?_
 {have e9:=hA.e9 u;rw[hI.vals 9 (hw 9 (by kernel_rfl)) _ rfl] at e9;refine Z02 (v:= .func (.func X.fnN) #[.pointer (some ⟨X.bp,0,none⟩)] #[]) (W':=W) rfl ?_ (by rw[hA.put 10 (qA10 pos b s sp tC fi X.fnN) rfl u _]; exact hK.out _ _ (hI.pure (by omega) (fun v' h=>by cases h; rfl)));simp only[execOp,qA10,e9,Sem.run_bind,Result.andThen_ok,Sem.run_pure,List.map_toArray,List.map_cons,List.map_nil]
  all_goals first | (go_simp; done) | (go_simp; rfl)}
 refine StepsInv.cons2 (qA11 pos b s sp tC fi X.fnN fn) rfl (fun d u W K' hS hI hd hw hK=> ?_) ?_
 {have h4:d 12=false:=by cases e:d 12 with | false=>rfl | true=>have:=hS 12 _ rfl e 11 (by kernel_rfl); rw[hd] at this; cases this
  have h5:d 13=false:=by cases e:d 13 with | false=>rfl | true=>have:=hS 13 _ rfl e 12 (by kernel_rfl); rw[h4] at this; cases this
  have e4:=hA.e4 u;rw[hI.vals 4 (hw 4 (by kernel_rfl)) _ rfl] at e4;have e6:=hA.e6 u;rw[hI.vals 6 (hw 6 (by kernel_rfl)) _ rfl] at e6;have e10:=hA.e10 u;rw[hI.vals 10 (hw 10 (by kernel_rfl)) _ rfl] at e10;refine Z0M (f:=fn) (args:=#[.pointer (some ⟨X.bp,0,none⟩),.slice X.AR X.xs.length X.cap,.func (.func X.fnN) #[.pointer (some ⟨X.bp,0,none⟩)] #[]]) (W':=W) rfl ?_ ((hcall W (hI.pre hd)).mono ?_)
  {simp only[execOp,qA11,e4,e6,e10,Sem.run_bind,Result.andThen_ok,Sem.run_pure,resolve,invoke,List.map_toArray,List.map_cons,List.map_nil];have ef: (A u).eval (.func fn)= .func (.func fn) #[] #[]:=rfl;rw[ef];go_simp}
  {rintro e W' ⟨x,rfl,h1,h2,h3,h6,h7⟩;exact ⟨_,rfl,by rw[hA.put 11 (qA11 pos b s sp tC fi X.fnN fn) rfl u _]; exact hK.out _ _ (hI.sC hd h4 h5 h1 h2 h3 h6 h7)⟩}}
 refine StepsInv.cons2 (qA12 pos b s sp tC fi X.fnN) rfl (fun d u W K' hS hI hd hw hK=> ?_) ?_
 {have h3:=hw 11 (by kernel_rfl);have h5:d 13=false:=by cases e:d 13 with | false=>rfl | true=>have:=hS 13 _ rfl e 12 (by kernel_rfl); rw[hd] at this; cases this
  obtain ⟨x,p⟩:=hI.mid h3 h5;have e3:=hA.e11 u;rw[p.uC] at e3;simp only[valN] at e3;refine Z02 (v:= .slice (some ⟨W.heap.size,0,none⟩) 1 1) (W':=W.alloc (.cells #[.string ⟨x.t.toArray⟩] 9)) rfl ?_ (by rw[hA.put 12 (qA12 pos b s sp tC fi X.fnN) rfl u _]; exact hK.out _ _ (hI.sS h5 h3 p _));have e3t: (A u).tmps[b+11]?.getD undef= .string ⟨x.t.toArray⟩:=by simpa[Act.eval] using e3
  simp only[execOp,qA12,e3,Sem.run_bind,Result.andThen_ok,Sem.run_pure];go_simp}
 refine StepsInv.cons2 (qA13 pos b s sp tC fi X.fnN) rfl (fun d u W K' hS hI hd hw hK=> ?_) ?_
 {have h1:=hw 1 (by kernel_rfl);have h4:=hw 12 (by kernel_rfl);have h3:=hS 12 _ rfl h4 11 (by kernel_rfl);have h7:d 15=false:=by cases e:d 15 with | false=>rfl | true=>have:=hS 15 _ rfl e 13 (by kernel_rfl); rw[hd] at this; cases this
  obtain ⟨x,p⟩:=hI.mid h3 hd;have e1:=hA.e1 u;rw[hI.vals 1 h1 _ rfl] at e1;obtain ⟨z0,u4,z1,z2,z3⟩:=p.aS h4;have e4:=hA.e12 u;rw[u4] at e4;have hbB:=hX.bpB;have hRW:=hX.row.up p.up (fun x hx=>by simp at hx; subst hx; intro e; have:=hX.row.lt _ e; omega);have hln:=hX.len;have hBw:=hX.Bw;have hsz:=p.up.size;refine step_append_lies W rfl _ _ 22 rfl X.B 9 i0 (.string ByteArray.empty) 1 16 Tryz.underlying22 hif hz0 hz1 hz2 rfl (by decide) _ _ _ e1 hRW ⟨z0,0,none⟩ 1 1 (cNN x) e4 rfl (fun j v hv=>by rw[Z0r,Nat.zero_add]; exact z3 j v hv) (Zax x) (by decide) (by unfold maxLen; omega) (by omega) (by omega) _ rfl ?_;intro g cp W' hown hg hat hlt;rw[hA.put 13 (qA13 pos b s sp tC fi X.fnN) rfl u _];exact hK.out _ _ (hI.sA hd h3 h7 p hX hown (by rw[Z0v] at hg; exact hg) (by rw[Z0v] at hat; exact hat))}
 refine StepsInv.cons2 (qA14 pos b s sp tC fi X.fnN) rfl (fun d u W K' hS hI hd hw hK=> ?_) ?_
 {refine Z02 (v:= .pointer (some ⟨X.ob,X.fo,none⟩)) (W':=W) rfl ?_ (by rw[hA.put 14 (qA14 pos b s sp tC fi X.fnN) rfl u _]; exact hK.out _ _ (hI.pure (by omega) (fun v' h=>by cases h; rfl)));simp only[execOp,qA14,es u,hfa,Sem.run_bind,Result.andThen_ok,Sem.run_pure]}
 refine StepsInv.cons2 (qA15 pos b s sp tC fi X.fnN) rfl (fun d u W K' hS hI hd hw hK=> ?_) StepsInv.nil
 {have h5:=hw 13 (by kernel_rfl);have h3:=hS 12 _ rfl (hS 13 _ rfl h5 12 (by kernel_rfl)) 11 (by kernel_rfl);obtain ⟨x,g,cp,p⟩:=hI.post h5;have e5:=hA.e13 u;rw[p.uA] at e5;have e6:=hA.e14 u;rw[hI.vals 14 (hw 14 (by kernel_rfl)) _ rfl] at e6;have hc:=p.cell;rw[hd] at hc;simp only[Bool.false_eq_true,if_false] at hc;have hfz:=(p.fz X.fo).trans hX.fz;have hol:=Nat.lt_of_lt_of_le hX.oblt p.up.size;refine Z0B (W':=W.setCell ⟨X.ob,X.fo,none⟩ (.slice (some ⟨g,0,none⟩) (X.xs.length+1) cp)) rfl ?_ (by rw[hA.put 15 (qA15 pos b s sp tC fi X.fnN) rfl u _]; exact hK.out _ _ (hI.sT h3 h5 hX p undef));simp only[execOp,qA15,e6,e5,Sem.run_bind,Result.andThen_ok,Sem.run_pure];go_simp}
 {intro d u W hI hd;obtain ⟨x,g,cp,p⟩:=hI.post (hd 13 (by show 13 < 16; omega));refine hQ u W x g cp ⟨p.uA,p.par,p.is,p.r,p.lo,p.far,p.new,p.up,p.row, ?_,p.rest,p.fz⟩;have:=p.cell; rw[hd 15 (by show 15 < 16; omega)] at this; exact this}
end
end Go.Proofs.YtkncdbaoaeeoiaaGreatDoor
