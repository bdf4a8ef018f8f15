/- What the proofs of ParsePlaces want, part 27. -/
import Derived.Test.YtkncdbaoaeeoiaaGreatDoorK0n26
set_option linter.unusedVariables false
set_option linter.unusedSimpArgs false
set_option linter.unusedSectionVars false
set_option maxRecDepth 100000
set_option maxHeartbeats 16000000
namespace Go.Proofs.YtkncdbaoaeeoiaaGreatDoor
section
open Go.RowKit Tms
open Shp (Sh)
open Pso (St)
def oC0 (pos:String) (b s:Nat):Oper:=
 { dst:=some b,op:= .load 24 (.tmp s),type:=24,pos:=pos,after:=#[],guard:=none }
def oC1 (pos:String) (b p:Nat):Oper:=
 { dst:=some (b+1),op:= .load 59 (.tmp p),type:=59,pos:=pos,after:=#[],guard:=none }
def oC2 (pos:String) (b fn:Nat):Oper:=
 { dst:=some (b+2),op:= .call { callee:= .value (.func fn),args:=#[.tmp (b+1)],argTypes:=#[59] },type:=26,pos:=pos,after:=#[{ on:=1,ground:= .data }],guard:=none }
def oC3 (pos:String) (b:Nat):Oper:=
 { dst:=some (b+3),op:= .call { callee:= .builtin .len,args:=#[.tmp b],argTypes:=#[24] },type:=3,pos:=pos,after:=#[{ on:=0,ground:= .data }],guard:=none }
def oC4 (pos:String) (b:Nat):Oper:=
 { dst:=some (b+4),op:= .buildSlice 24 1 #[(0,.const (.agg #[.int .i64 0,.string ⟨#[]⟩,.string ⟨#[]⟩,.int .i64 0,.slice none 0 0,.slice none 0 0,.slice none 0 0,.slice none 0 0,.int .i64 0]))],type:=24,pos:=pos,after:=#[],guard:=none }
def oC5 (pos:String) (b:Nat):Oper:=
 { dst:=some (b+5),op:= .call { callee:= .builtin .append,args:=#[.tmp b,.tmp (b+4)],argTypes:=#[24,24] },type:=24,pos:=pos,after:=#[{ on:=0,ground:= .data },{ on:=4,ground:= .data },{ on:=2,ground:= .chain },{ on:=0,ground:= .phase },{ on:=1,ground:= .phase },{ on:=2,ground:= .phase },{ on:=3,ground:= .phase },{ on:=4,ground:= .phase }],guard:=none }
def oC6 (pos:String) (b:Nat):Oper:=
 { dst:=some (b+6),op:= .indexAddr 24 (.tmp (b+5)) (.tmp (b+3)),type:=0,pos:=pos,after:=#[{ on:=5,ground:= .data },{ on:=3,ground:= .data },{ on:=0,ground:= .phase },{ on:=1,ground:= .phase },{ on:=2,ground:= .phase },{ on:=3,ground:= .phase },{ on:=4,ground:= .phase },{ on:=5,ground:= .phase },{ on:=8,ground:= .gcOnly .appendInPlace }],guard:=none }
def oC7 (pos:String) (b:Nat):Oper:=
 { dst:=none,op:= .store 26 (.tmp (b+6)) (.tmp (b+2)),type:=0,pos:=pos,after:=#[{ on:=6,ground:= .data },{ on:=2,ground:= .data },{ on:=5,ground:= .chain },{ on:=0,ground:= .phase },{ on:=1,ground:= .phase },{ on:=2,ground:= .phase },{ on:=3,ground:= .phase },{ on:=4,ground:= .phase },{ on:=5,ground:= .phase },{ on:=8,ground:= .gcOnly .appendInPlace }],guard:=none }
def oC8 (pos:String) (b s:Nat):Oper:=
 { dst:=none,op:= .store 24 (.tmp s) (.tmp (b+5)),type:=0,pos:=pos,after:=#[{ on:=5,ground:= .data },{ on:=5,ground:= .chain },{ on:=7,ground:= .textOnly .appendInPlace },{ on:=0,ground:= .phase },{ on:=1,ground:= .phase },{ on:=2,ground:= .phase },{ on:=3,ground:= .phase },{ on:=4,ground:= .phase },{ on:=5,ground:= .phase },{ on:=6,ground:= .textOnly .appendInPlace },{ on:=7,ground:= .textOnly .appendInPlace }],guard:=none }
def opsC (pos:String) (b s p fn:Nat):Array Oper:=
 #[oC0 pos b s,oC1 pos b p,oC2 pos b fn,oC3 pos b,oC4 pos b,oC5 pos b,oC6 pos b,oC7 pos b,oC8 pos b s]
structure CtxC where
 w:World
 bp:Nat
 A:Option Addr
 c:Nat
 l:List Tk
 τ:St
 ob:Nat
 fo:Nat
 B:Nat
 AR:Option Addr
 cap:Nat
 xs:List ET
 R:ET->Prop
namespace CtxC
variable (X : CtxC)
def val (j:Nat):Option Value:=match j with
 | 0=>some (.slice X.AR X.xs.length X.cap)
 | 1=>some (.pointer (some ⟨X.bp,0,none⟩))
 | 3=>some (.int .i64 (X.xs.length:Int))
 | _=>none
structure Good:Prop where
 cell:X.w.cell? ⟨X.ob,X.fo,none⟩=some (.slice X.AR X.xs.length X.cap)
 fz:X.w.frozen? ⟨X.ob,X.fo,none⟩=false
 oblt:X.ob < X.w.heap.size
 bpob:X.bp < X.ob
 row:Row X.w X.B 26 9 cT X.AR X.cap X.xs
 obr:rowT X.AR≠some X.ob
 bpB:X.bp < X.B
 Bw:X.B<=X.w.heap.size
 len:X.xs.length<=900000
structure Pre (d:Nat->Bool) (u:Nat->Value) (W:World):Prop where
 up:UpT [X.bp] X.w W
 b3:d 2=false->Below X.w.heap.size X.w W
 a3:d 2=true-> ∃x:ET,u 2=valT x/\PAt W X.bp X.A X.c X.l X.τ/\x.Is W/\X.w.heap.size<=x.lo/\X.R x
 a5:d 4=true-> ∃z0,u 4= .slice (some ⟨z0,0,none⟩) 1 1/\X.w.heap.size<=z0/\z0 < W.heap.size/\ ∀(j:Nat) v,zerosT[j]? =some v->W.cell? ⟨z0,j,none⟩=some v
structure PostX (d:Nat->Bool) (u:Nat->Value) (W:World) (x:ET) (g cp:Nat):Prop where
 u3:u 2=valT x
 u6:u 5= .slice (some ⟨g,0,none⟩) (X.xs.length+1) cp
 u7:d 6=true->u 6= .pointer (some ⟨g,X.xs.length * 9,none⟩)
 par:PAt W X.bp X.A X.c X.l X.τ
 is:x.Is W
 r:X.R x
 lo:X.w.heap.size<=x.lo
 far:g < x.lo\/x.hi<=g
 new:rowT X.AR=some g\/X.w.heap.size<=g
 up:UpT (X.bp::X.ob::(rowT X.AR).toList) X.w W
 row:W.ownsRow X.B 26 9 (.slice (some ⟨g,0,none⟩) (X.xs.length+1) cp) (X.xs.length+1) (X.xs.flatMap cT++if d 7=true then cT x else zerosT)
 cell:W.cell? ⟨X.ob,X.fo,none⟩=some (if d 8=true then .slice (some ⟨g,0,none⟩) (X.xs.length+1) cp else .slice X.AR X.xs.length X.cap)
 rest: ∀j,j≠X.fo->W.cell? ⟨X.ob,j,none⟩=X.w.cell? ⟨X.ob,j,none⟩
 fz: ∀j,W.frozen? ⟨X.ob,j,none⟩=X.w.frozen? ⟨X.ob,j,none⟩
structure Inv (d:Nat->Bool) (u:Nat->Value) (W:World):Prop where
 vals: ∀j,d j=true-> ∀v,X.val j=some v->u j=v
 e6:d 5=true-> ∀k,k < 5->d k=true
 e7:d 6=true->d 5=true
 e8:d 7=true->d 5=true
 e10:d 8=true->d 5=true
 pre:d 5=false->X.Pre d u W
 post:d 5=true-> ∃x g cp,X.PostX d u W x g cp
variable {X : CtxC} {d : Nat -> Bool} {u : Nat -> Value} {W W' : World}
theorem Good.obne (h:X.Good):X.ob≠X.bp:=by have:=h.bpob; omega
theorem Good.start (h:X.Good):X.Inv (fun _=>false) u X.w.drew:=
 ⟨nofun,nofun,nofun,nofun,nofun,fun _=>⟨(UpT.refl _ _).drew,fun _=>Y2.drew,nofun,nofun⟩,nofun⟩
theorem mono9 {d:Nat->Bool} (i:Nat) {k:Nat} (h:d k=true):also d i k=true:=by
 by_cases e:k=i
 {subst e; unfold also; rw[Nat.beq_refl]; rfl}
 {unfold also;have:Nat.beq k i=false:=by cases hb:Nat.beq k i <;> first | rfl | exact absurd (Nat.eq_of_beq_eq_true hb) e
  rw[this]; exact h}
theorem ne9 (d:Nat->Bool) {i j:Nat} (h:j≠i):also d i j=d j:=by
 unfold also;have:Nat.beq j i=false:=by cases hb:Nat.beq j i <;> first | rfl | exact absurd (Nat.eq_of_beq_eq_true hb) h
 rw[this]; rfl
theorem self9 (d:Nat->Bool) (i:Nat):also d i i=true:=by unfold also; rw[Nat.beq_refl]; rfl
section
variable (h : X.Inv d u W) {i : Nat}
include h i
theorem Inv.vals' {v:Value} (hv: ∀v',X.val i=some v'->v=v'): ∀j,also d i j=true-> ∀v',X.val j=some v'->upd u i v j=v':=fun j hj v' hv'=>by
 by_cases hij:j=i
 {subst hij; rw[Z09]; exact hv v' hv'}
 {rw[ne9 d hij] at hj; rw[Z06 u v hij]; exact h.vals j hj v' hv'}
theorem Inv.pure (hi:i=0\/i=1\/i=3) {v:Value} (hv: ∀v',X.val i=some v'->v=v'):X.Inv (also d i) (upd u i v) W:=by
 have k: ∀j,j=2\/j=4\/j=5\/j=6\/j=7\/j=8->also d i j=d j/\upd u i v j=u j:=fun j hj=>⟨ne9 d (by omega),Z06 u v (by omega)⟩;refine ⟨h.vals' hv, ?_, ?_, ?_, ?_, ?_, ?_⟩
 {rw[(k 5 (by omega)).1]; exact fun h6 k hk=>mono9 i (h.e6 h6 k hk)}
 {rw[(k 6 (by omega)).1,(k 5 (by omega)).1]; exact h.e7}
 {rw[(k 7 (by omega)).1,(k 5 (by omega)).1]; exact h.e8}
 {rw[(k 8 (by omega)).1,(k 5 (by omega)).1]; exact h.e10}
 {rw[(k 5 (by omega)).1];intro h6;obtain ⟨a,b,c3,c5⟩:=h.pre h6;refine ⟨a, ?_, ?_, ?_⟩
  {rw[(k 2 (by omega)).1]; exact b}
  {rw[(k 2 (by omega)).1,(k 2 (by omega)).2]; exact c3}
  {rw[(k 4 (by omega)).1,(k 4 (by omega)).2]; exact c5}}
 {rw[(k 5 (by omega)).1];intro h6;obtain ⟨x,g,cp,p⟩:=h.post h6;refine ⟨x,g,cp, ?_, ?_, ?_,p.par,p.is,p.r,p.lo,p.far,p.new,p.up, ?_, ?_,p.rest,p.fz⟩
  {rw[(k 2 (by omega)).2]; exact p.u3}
  {rw[(k 5 (by omega)).2]; exact p.u6}
  {rw[(k 6 (by omega)).1,(k 6 (by omega)).2]; exact p.u7}
  {rw[(k 7 (by omega)).1]; exact p.row}
  {rw[(k 8 (by omega)).1]; exact p.cell}}
theorem Inv.early (hi:i < 5) (hd:d i=false):d 5=false:=by
 cases h6:d 5 with
 | false=>rfl
 | true=>have:=h.e6 h6 i hi; rw[hd] at this; cases this
theorem Inv.first (hi:i < 5) (hd:d i=false):UpT [X.bp] X.w W:=(h.pre (h.early hi hd)).up
end
theorem Inv.cell (h:X.Inv d u W) (hX:X.Good) {i:Nat} (hi:i < 5) (hd:d i=false):W.cell? ⟨X.ob,X.fo,none⟩=some (.slice X.AR X.xs.length X.cap)/\X.ob < W.heap.size:=by
 have hu:=h.first hi hd;exact ⟨((hu.same hX.oblt (by simp[hX.obne])).1 _).trans hX.cell,Nat.lt_of_lt_of_le hX.oblt hu.size⟩
section
variable (h : X.Inv d u W)
include h
theorem Inv.s3 (hd:d 2=false) {x:ET} (hp:PAt W' X.bp X.A X.c X.l X.τ) (hu:UpT [X.bp] W W') (hx:x.Is W') (hlo:W.heap.size<=x.lo) (hr:X.R x) (hX:X.Good):X.Inv (also d 2) (upd u 2 (valT x)) W':=by
 have h6:=h.early (by omega) hd;obtain ⟨a,b,c3,c5⟩:=h.pre h6;have k: ∀j,j≠2->also d 2 j=d j/\upd u 2 (valT x) j=u j:=fun j hj=>⟨ne9 d hj,Z06 u _ hj⟩;refine ⟨h.vals' (by intro v' hv'; cases hv'), ?_, ?_, ?_, ?_, ?_, ?_⟩
 {rw[(k 5 (by omega)).1,h6]; intro e; cases e}
 {rw[(k 6 (by omega)).1,(k 5 (by omega)).1]; exact h.e7}
 {rw[(k 7 (by omega)).1,(k 5 (by omega)).1]; exact h.e8}
 {rw[(k 8 (by omega)).1,(k 5 (by omega)).1]; exact h.e10}
 {intro _;have hsz:=a.size;refine ⟨a.trans hu, ?_,fun _=>⟨x,Z09 _ _ _,hp,hx,by omega,hr⟩, ?_⟩
  {rw[self9]; intro e; cases e}
  {rw[(k 4 (by omega)).1,(k 4 (by omega)).2];intro h5;obtain ⟨z0,e1,e2,e3,e4⟩:=c5 h5;have hb:=hX.bpB;have hw:=hX.Bw;have hs:=hu.same e3 (by simp; omega);exact ⟨z0,e1,e2,Nat.lt_of_lt_of_le e3 hu.size,fun j v hv=>(hs.1 j).trans (e4 j v hv)⟩}}
 {rw[(k 5 (by omega)).1,h6]; intro e; cases e}
theorem Inv.s5 (hd:d 4=false) (hX:X.Good) (t:TypeId):X.Inv (also d 4) (upd u 4 (.slice (some ⟨W.heap.size,0,none⟩) 1 1)) (W.alloc (.cells Ya t)):=by
 have h6:=h.early (by omega) hd;obtain ⟨a,b,c3,c5⟩:=h.pre h6;have k: ∀j,j≠4->also d 4 j=d j/\upd u 4 (.slice (some ⟨W.heap.size,0,none⟩) 1 1) j=u j:=fun j hj=>⟨ne9 d hj,Z06 u _ hj⟩;have hb:=Z01 W (.cells Ya t);refine ⟨h.vals' (by intro v' hv'; cases hv'), ?_, ?_, ?_, ?_, ?_, ?_⟩
 {rw[(k 5 (by omega)).1,h6]; intro e; cases e}
 {rw[(k 6 (by omega)).1,(k 5 (by omega)).1]; exact h.e7}
 {rw[(k 7 (by omega)).1,(k 5 (by omega)).1]; exact h.e8}
 {rw[(k 8 (by omega)).1,(k 5 (by omega)).1]; exact h.e10}
 {intro _;refine ⟨a.below hb, ?_, ?_,fun _=>⟨W.heap.size,Z09 _ _ _,a.size,by simp,fun j v hv=> ?_⟩⟩
  {rw[(k 2 (by omega)).1]; exact fun e=>Z00 (b e) hb}
  {rw[(k 2 (by omega)).1,(k 2 (by omega)).2];intro h3;obtain ⟨x,e1,e2,e3,e4,e5⟩:=c3 h3;exact ⟨x,e1,e2.below hb,New.below e3 hb,e4,e5⟩}
  {rw[World.cell?_alloc_at _ _ _ _ rfl];simpa[zerosT] using hv}}
 {rw[(k 5 (by omega)).1,h6]; intro e; cases e}
theorem Inv.s6 (hd:d 5=false) (hw: ∀k,k < 5->d k=true) {g cp:Nat} (hX:X.Good) (hrow:W'.ownsRow X.B 26 9 (.slice (some ⟨g,0,none⟩) (X.xs.length+1) cp) (X.xs.length+1) (X.xs.flatMap cT++zerosT))
 (hg:W.grownBy W' (rowT X.AR)) (hat:rowT X.AR=some g\/g=W.heap.size):X.Inv (also d 5) (upd u 5 (.slice (some ⟨g,0,none⟩) (X.xs.length+1) cp)) W':=by
 obtain ⟨a,b,c3,c5⟩:=h.pre hd;obtain ⟨x,e1,e2,e3,e4,e5⟩:=c3 (hw 2 (by omega));have k: ∀j,j≠5->also d 5 j=d j/\upd u 5 (.slice (some ⟨g,0,none⟩) (X.xs.length+1) cp) j=u j:=fun j hj=>⟨ne9 d hj,Z06 u _ hj⟩;have d7:d 6=false:=by cases e:d 6 with | false=>rfl | true=>have:=h.e7 e; rw[hd] at this; cases this
 have d8:d 7=false:=by cases e:d 7 with | false=>rfl | true=>have:=h.e8 e; rw[hd] at this; cases this
 have d10:d 8=false:=by cases e:d 8 with | false=>rfl | true=>have:=h.e10 e; rw[hd] at this; cases this
 have hsz:=a.size;have hRB: ∀k,rowT X.AR=some k->X.B<=k/\k < X.w.heap.size:=fun k hk=>hX.row.lt k hk;have hBw:=hX.Bw;have u1:UpT (rowT X.AR).toList W W':=⟨hg.os,hg.tape,hg.output,hg.size,fun x h1 h2=>hg.block x h1 (fun e=>h2 (by rw[<-e]; simp))⟩;have ho:SameT X.w W' X.ob:=(a.same hX.oblt (by simp[hX.obne])).trans (u1.same (Nat.lt_of_lt_of_le hX.oblt hsz) (by
  intro hx;have h1:rowT X.AR=some X.ob:=by simpa using hx
  exact hX.obr h1))
 refine ⟨h.vals' (by intro v' hv'; cases hv'),fun _ j hj=>mono9 5 (hw j hj), ?_, ?_, ?_, ?_, ?_⟩
 {intro _; exact self9 _ _}
 {intro _; exact self9 _ _}
 {intro _; exact self9 _ _}
 {rw[self9]; intro e; cases e}
 {intro _;refine ⟨x,g,cp, ?_,Z09 _ _ _, ?_,e2.keep u1 (fun k hk=> ?_),New.grown e3 hg (fun k hk=>Or.inl ?_),e5,e4, ?_, ?_, ?_, ?_, ?_,fun j hj=>ho.1 j,fun j=>ho.2 j⟩
  {rw[(k 2 (by omega)).2]; exact e1}
  {rw[(k 6 (by omega)).1,d7]; intro e; cases e}
  {have h1:rowT X.AR=some k:=by simpa using hk
   have:=hRB _ h1; have:=hX.bpB; omega}
  {have:=hRB _ hk; omega}
  {rcases hat with h1 | h1
   {left; have:=hRB _ h1; omega}
   {right; have:=e3.hi_; omega}}
  {rcases hat with h1 | h1
   {exact Or.inl h1}
   {exact Or.inr (by omega)}}
  {exact (a.mono (fun y hy _=>by simp at hy; simp[hy])).trans (u1.mono (fun y hy _=>by simp at hy; simp[hy]))}
  {rw[(k 7 (by omega)).1,d8]; simpa using hrow}
  {rw[(k 8 (by omega)).1,d10]; exact (ho.1 _).trans hX.cell}}
theorem Inv.s7 (h6:d 5=true) {v:Value} (hv: ∀x g cp,X.PostX d u W x g cp->v= .pointer (some ⟨g,X.xs.length * 9,none⟩)):X.Inv (also d 6) (upd u 6 v) W:=by
 have k: ∀j,j≠6->also d 6 j=d j/\upd u 6 v j=u j:=fun j hj=>⟨ne9 d hj,Z06 u _ hj⟩;refine ⟨h.vals' (by intro v' hv'; cases hv'), ?_, ?_, ?_, ?_, ?_, ?_⟩
 {rw[(k 5 (by omega)).1]; exact fun h6 j hj=>mono9 6 (h.e6 h6 j hj)}
 {rw[(k 5 (by omega)).1]; exact fun _=>h6}
 {rw[(k 7 (by omega)).1,(k 5 (by omega)).1]; exact h.e8}
 {rw[(k 8 (by omega)).1,(k 5 (by omega)).1]; exact h.e10}
 {rw[(k 5 (by omega)).1,h6]; intro e; cases e}
 {intro _;obtain ⟨x,g,cp,p⟩:=h.post h6;refine ⟨x,g,cp, ?_, ?_,fun _=> ?_,p.par,p.is,p.r,p.lo,p.far,p.new,p.up, ?_, ?_,p.rest,p.fz⟩
  {rw[(k 2 (by omega)).2]; exact p.u3}
  {rw[(k 5 (by omega)).2]; exact p.u6}
  {rw[Z09]; exact hv x g cp p}
  {rw[(k 7 (by omega)).1]; exact p.row}
  {rw[(k 8 (by omega)).1]; exact p.cell}}
end
theorem grown_trans9 {a b c:World} {r:Option Nat} (h:a.grownBy b r) (k:b.grownBy c r):a.grownBy c r:=
 ⟨k.os.trans h.os,k.tape.trans h.tape,k.output.trans h.output,Nat.le_trans h.size k.size,fun i hi hn=>(k.block i (Nat.lt_of_lt_of_le hi h.size) hn).trans (h.block i hi hn)⟩
def putT (W:World) (g i:Nat) (x:ET):World:=(((((((((W).setCell ⟨g,i+0,none⟩ (.int .i64 x.t.kind)).setCell ⟨g,i+1,none⟩ (.string ⟨x.t.of_.toArray⟩)).setCell ⟨g,i+2,none⟩ (.string ⟨x.t.name.toArray⟩)).setCell ⟨g,i+3,none⟩ (.int .i64 x.t.n)).setCell ⟨g,i+4,none⟩ (.slice x.q.A x.t.names.length x.q.c)).setCell ⟨g,i+5,none⟩ (.slice x.q.V x.t.vars.length x.q.e)).setCell ⟨g,i+6,none⟩ (.slice x.q.S x.t.shapes.length x.q.s)).setCell ⟨g,i+7,none⟩ (.slice x.q.P x.t.parts.length x.q.d)).setCell ⟨g,i+8,none⟩ (.int .i64 x.t.at_)
section
variable (x : ET) {g cp n B : Nat} {ys : List Value} (hn : ys.length = n * 9) (h : W.ownsRow B 26 9 (.slice (some ⟨g, 0, none⟩) (n + 1) cp) (n + 1) (ys ++ zerosT))
include x g cp n B ys hn h
theorem put_row:
 (putT W g (n * 9) x).ownsRow B 26 9 (.slice (some ⟨g,0,none⟩) (n+1) cp) (n+1) (ys++cT x)/\W.grownBy (putT W g (n * 9) x) (some g):=by
 obtain ⟨h0,g0⟩:=World.ownsRow.stored h (n * 9+0) (.int .i64 x.t.kind);obtain ⟨h1,g1⟩:=World.ownsRow.stored h0 (n * 9+1) (.string ⟨x.t.of_.toArray⟩);obtain ⟨h2,g2⟩:=World.ownsRow.stored h1 (n * 9+2) (.string ⟨x.t.name.toArray⟩);obtain ⟨h3,g3⟩:=World.ownsRow.stored h2 (n * 9+3) (.int .i64 x.t.n);obtain ⟨h4,g4⟩:=World.ownsRow.stored h3 (n * 9+4) (.slice x.q.A x.t.names.length x.q.c);obtain ⟨h5,g5⟩:=World.ownsRow.stored h4 (n * 9+5) (.slice x.q.V x.t.vars.length x.q.e);obtain ⟨h6,g6⟩:=World.ownsRow.stored h5 (n * 9+6) (.slice x.q.S x.t.shapes.length x.q.s);obtain ⟨h7,g7⟩:=World.ownsRow.stored h6 (n * 9+7) (.slice x.q.P x.t.parts.length x.q.d);obtain ⟨h8,g8⟩:=World.ownsRow.stored h7 (n * 9+8) (.int .i64 x.t.at_);refine ⟨?_,(grown_trans9 (grown_trans9 (grown_trans9 (grown_trans9 (grown_trans9 (grown_trans9 (grown_trans9 (grown_trans9 g0 g1) g2) g3) g4) g5) g6) g7) g8)⟩;have hs: ∀(zs:List Value) (k:Nat) (v:Value),(ys++zs).set (n * 9+k) v=ys++zs.set k v:=fun zs k v=>by rw[<-hn,List.set_append_right _ _ (by omega),Nat.add_sub_cancel_left]
 rw[hs,hs,hs,hs,hs,hs,hs,hs,hs] at h8;exact h8
theorem put_zero (k:Nat) (hk:k < 9): ∃v,W.cell? ⟨g,n * 9+k,none⟩=some v/\W.frozen? ⟨g,n * 9+k,none⟩=false:=by
 have h1:=h.cellAt (n * 9+k) (by rw[Nat.add_mul]; omega);rw[List.getElem?_append_right (by omega),hn,Nat.add_sub_cancel_left] at h1;have h2:k < zerosT.length:=hk;rw[List.getElem?_eq_getElem h2] at h1;exact ⟨_,h1,h.frozenAt _⟩
end
theorem Inv.s8 (h:X.Inv d u W) (hd:d 7=false) (h6:d 5=true) (hX:X.Good) {x:ET} {g cp:Nat} (p:X.PostX d u W x g cp) (v:Value):X.Inv (also d 7) (upd u 7 v) (putT W g (X.xs.length * 9) x):=by
 have k: ∀j,j≠7->also d 7 j=d j/\upd u 7 v j=u j:=fun j hj=>⟨ne9 d hj,Z06 u _ hj⟩;have hrow:=p.row;rw[hd] at hrow;simp only[Bool.false_eq_true,if_false] at hrow;obtain ⟨hr1,hg1⟩:=put_row x (by rw[Z1V Z3E]) hrow;have hgB:X.B<=g/\g < W.heap.size:=hrow.lt g rfl;have hbB:=hX.bpB;have hoB:X.ob≠g:=by
  rcases p.new with h9 | h9
  {intro e; exact hX.obr (e▸h9)}
  {have:=hX.oblt; omega}
 have hol9:=hX.oblt;have hlo:=p.lo;have hBw:=hX.Bw;have hos:SameT W (putT W g (X.xs.length * 9) x) X.ob:=⟨fun j=>World.cell?_of_block (w:=W) (hg1.block X.ob (Nat.lt_of_lt_of_le hX.oblt p.up.size) (fun e=>by have:=Option.some.inj e; omega)),fun j=>World.frozen?_of_block (w:=W) (hg1.block X.ob (Nat.lt_of_lt_of_le hX.oblt p.up.size) (fun e=>by have:=Option.some.inj e; omega))⟩;refine ⟨h.vals' (by intro v' hv'; cases hv'), ?_, ?_, ?_, ?_, ?_, ?_⟩
 {rw[(k 5 (by omega)).1]; exact fun h6 j hj=>mono9 7 (h.e6 h6 j hj)}
 {rw[(k 6 (by omega)).1,(k 5 (by omega)).1]; exact h.e7}
 {rw[(k 5 (by omega)).1]; exact fun _=>h6}
 {rw[(k 8 (by omega)).1,(k 5 (by omega)).1]; exact h.e10}
 {rw[(k 5 (by omega)).1,h6]; intro e; cases e}
 {intro _;refine ⟨x,g,cp, ?_, ?_, ?_, ?_,New.grown p.is hg1 (fun j hj=> ?_),p.r,p.lo,p.far,p.new, ?_, ?_, ?_,fun j hj=>(hos.1 j).trans (p.rest j hj),fun j=>(hos.2 j).trans (p.fz j)⟩
  {rw[(k 2 (by omega)).2]; exact p.u3}
  {rw[(k 5 (by omega)).2]; exact p.u6}
  {rw[(k 6 (by omega)).1,(k 6 (by omega)).2]; exact p.u7}
  {refine p.par.keep (F:= [g]) ⟨hg1.os,hg1.tape,hg1.output,hg1.size,fun y h1 h2=>hg1.block y h1 (fun e=>h2 (by rw[Option.some.inj e]; simp))⟩ (by simp; omega)}
  {obtain rfl:=Option.some.inj hj; exact p.far}
  {have u1:UpT [g] W (putT W g (X.xs.length * 9) x):=⟨hg1.os,hg1.tape,hg1.output,hg1.size,fun y h1 h2=>hg1.block y h1 (fun e=>h2 (by rw[Option.some.inj e]; simp))⟩;refine ⟨u1.os.trans p.up.os,u1.tape.trans p.up.tape,u1.output.trans p.up.output,Nat.le_trans p.up.size u1.size,fun y h1 h2=> ?_⟩;rw[u1.block y (Nat.lt_of_lt_of_le h1 p.up.size) (fun e=> ?_)]
   {exact p.up.block y h1 h2}
   {obtain rfl:y=g:=by simpa using e
    rcases p.new with h3 | h3
    {exact h2 (by rw[h3]; simp)}
    {omega}}}
  {rw[self9]; simpa using hr1}
  {rw[(k 8 (by omega)).1]; exact (hos.1 _).trans p.cell}}
theorem Inv.s10 (h:X.Inv d u W) (hd:d 8=false) (h6:d 5=true) (hX:X.Good) {x:ET} {g cp:Nat} (p:X.PostX d u W x g cp) (v:Value):X.Inv (also d 8) (upd u 8 v) (W.setCell ⟨X.ob,X.fo,none⟩ (.slice (some ⟨g,0,none⟩) (X.xs.length+1) cp)):=by
 have k: ∀j,j≠8->also d 8 j=d j/\upd u 8 v j=u j:=fun j hj=>⟨ne9 d hj,Z06 u _ hj⟩;have hgB:X.B<=g/\g < W.heap.size:=p.row.lt g rfl;have hbB:=hX.bpB;have hoB:X.ob≠g:=by
  rcases p.new with h9 | h9
  {intro e; exact hX.obr (e▸h9)}
  {have:=hX.oblt; omega}
 have hol9:=hX.oblt;have hlo:=p.lo;have hBw:=hX.Bw;have hne:=hX.obne;have hne2:=hX.bpob;have u1:UpT [X.ob] W (W.setCell ⟨X.ob,X.fo,none⟩ (.slice (some ⟨g,0,none⟩) (X.xs.length+1) cp)):=(UpT.refl _ _).set _ (Or.inr (by simp)) _;refine ⟨h.vals' (by intro v' hv'; cases hv'), ?_, ?_, ?_, ?_, ?_, ?_⟩
 {rw[(k 5 (by omega)).1]; exact fun h6 j hj=>mono9 8 (h.e6 h6 j hj)}
 {rw[(k 6 (by omega)).1,(k 5 (by omega)).1]; exact h.e7}
 {rw[(k 7 (by omega)).1,(k 5 (by omega)).1]; exact h.e8}
 {rw[(k 5 (by omega)).1]; exact fun _=>h6}
 {rw[(k 5 (by omega)).1,h6]; intro e; cases e}
 {intro _;have hp1:PAt (W.setCell ⟨X.ob,X.fo,none⟩ (.slice (some ⟨g,0,none⟩) (X.xs.length+1) cp)) X.bp X.A X.c X.l X.τ:=by
   have hs: ∀b,b≠X.ob->SameT W (W.setCell ⟨X.ob,X.fo,none⟩ (.slice (some ⟨g,0,none⟩) (X.xs.length+1) cp)) b:=fun b hb=>Z1y _ _ _ (fun e=>hb (by simpa using e.symm));have hb:=hs X.bp (fun e=>hne e.symm);exact ⟨Nat.lt_of_lt_of_le p.par.lt u1.size,(hb.1 0).trans p.par.c0,(hb.1 1).trans p.par.c1,(hb.1 2).trans p.par.c2,(hb.1 3).trans p.par.c3,fun k=>(hb.2 k).trans (p.par.fz k),p.par.tk.same (fun b hb2=>hs b (by omega)),p.par.gs.up u1 (by simp; omega),p.par.tx⟩
  refine ⟨x,g,cp, ?_, ?_, ?_,hp1,New.up p.is u1 (by simp; omega),p.r,p.lo,p.far,p.new, ?_, ?_, ?_,fun j hj=> ?_,fun j=> ?_⟩
  {rw[(k 2 (by omega)).2]; exact p.u3}
  {rw[(k 5 (by omega)).2]; exact p.u6}
  {rw[(k 6 (by omega)).1,(k 6 (by omega)).2]; exact p.u7}
  {exact p.up.trans (u1.mono (fun y hy _=>by simp at hy; simp[hy]))}
  {rw[(k 7 (by omega)).1]; exact Z1n p.row (by intro e; have:=Option.some.inj e; simp at this; omega) _}
  {rw[self9,if_pos rfl]; exact World.cell?_setCell_same _ _ _ p.cell}
  {rw[World.cell?_setCell_other _ _ _ _ (fun e=>hj (by have:=congrArg Addr.off e; simpa using this.symm))]; exact p.rest j hj}
  {rw[World.frozen?_setCell]; exact p.fz j}}
end CtxC
structure FrameC (pos:String) (b s p fn:Nat) (A: (Nat->Value)->Act) (vs vp:Value):Prop where
 put: ∀(i:Nat) o,(opsC pos b s p fn)[i]? =some o-> ∀u v,(A u).put o.dst v=A (upd u i v)
 es: ∀u,(A u).eval (.tmp s)=vs
 ep: ∀u,(A u).eval (.tmp p)=vp
 e0: ∀u,(A u).eval (.tmp b)=u 0
 e1: ∀u,(A u).eval (.tmp (b+1))=u 1
 e2: ∀u,(A u).eval (.tmp (b+2))=u 2
 e3: ∀u,(A u).eval (.tmp (b+3))=u 3
 e4: ∀u,(A u).eval (.tmp (b+4))=u 4
 e5: ∀u,(A u).eval (.tmp (b+5))=u 5
 e6: ∀u,(A u).eval (.tmp (b+6))=u 6
theorem regC {Q:Exit->Act->World->Prop} {id:Nat} (pos:String) (b s p:Nat) (fn:Nat) (X:CtxC) (hX:X.Good) (pb:Nat) (hpb:X.w.cell? ⟨pb,0,none⟩=some (.pointer (some ⟨X.bp,0,none⟩))) (hpl:pb < X.w.heap.size) (hpn:pb≠X.bp)
 (A: (Nat->Value)->Act) (u0:Nat->Value) (hA:FrameC pos b s p fn A (.pointer (some ⟨X.ob,0,none⟩)) (.pointer (some ⟨pb,0,none⟩)))
 (hfo:X.fo=0)
 (hen: ∀args W,(callFunc fn args).run Tryz.prog W= .ok (.enter fn args) W)
 (hcall: ∀W,Below X.w.heap.size X.w W->Calls Tryz.prog fn #[.pointer (some ⟨X.bp,0,none⟩)] W fun e W'=> ∃x:ET,e= .returned (valT x)/\PAt W' X.bp X.A X.c X.l X.τ/\UpT [X.bp] W W'/\x.Is W'/\W.heap.size<=x.lo/\X.R x)
 (hQ: ∀u W x g cp,X.PostX (fun _=>true) u W x g cp->Q .normal (A u) W):
 (Code.region id (opsC pos b s p fn) true).wp Tryz.prog Q (A u0) X.w:=by
 obtain ⟨i0,hif,hz0,hz1,hz2⟩:=Z1e Z8K;have es:=hA.es;have ep:=hA.ep;have hcl:Tryz.prog.cellsOf 24=1:=by kernel_rfl
 have hcp:Tryz.prog.cellsOf 59=1:=by kernel_rfl
 refine Z2c (rs:= [0,1,2,3,4,5,6,7,8]) A u0 X.Inv (by kernel_rfl) (by kernel_rfl) (by kernel_rfl) hX.start ?_ ?_;refine StepsInv.cons (oC0 pos b s) rfl (fun d u W K' hI hd hw hK=> ?_) ?_
 {have e0: (A u).eval (.tmp s)= .pointer (some ⟨X.ob,X.fo,none⟩):=by rw[hfo]; exact es u
  obtain ⟨hc,hlt⟩:=hI.cell hX (by decide) hd;rw[hfo] at hc;refine Z02 (v:= .slice X.AR X.xs.length X.cap) (W':=W) rfl ?_ (by rw[hA.put 0 (oC0 pos b s) rfl u _]; exact hK.out _ _ (hI.pure (by decide) (fun v' h=>by cases h; rfl)));simp only[execOp,oC0,e0,Sem.run_bind,Result.andThen_ok,Sem.run_pure];go_simp}
 refine StepsInv.cons (oC1 pos b p) rfl (fun d u W K' hI hd hw hK=> ?_) ?_
 {obtain ⟨hc,hlt⟩:W.cell? ⟨pb,0,none⟩=some (.pointer (some ⟨X.bp,0,none⟩))/\pb < W.heap.size:=⟨(((hI.first (by decide) hd).same hpl (by simp[hpn])).1 _).trans hpb,Nat.lt_of_lt_of_le hpl (hI.first (by decide) hd).size⟩;refine Z02 (v:= .pointer (some ⟨X.bp,0,none⟩)) (W':=W) rfl ?_ (by rw[hA.put 1 (oC1 pos b p) rfl u _]; exact hK.out _ _ (hI.pure (by decide) (fun v' h=>by cases h; rfl)));simp only[execOp,oC1,ep u,Sem.run_bind,Result.andThen_ok,Sem.run_pure];go_simp}
 refine StepsInv.cons (oC2 pos b fn) rfl (fun d u W K' hI hd hw hK=> ?_) ?_
 {have e2:=hA.e1 u;rw[hI.vals 1 (hw 1 (by kernel_rfl)) _ rfl] at e2;have hbl:=(hI.pre (hI.early (by decide) hd)).b3 hd;refine Z0M (f:=fn) (args:=#[.pointer (some ⟨X.bp,0,none⟩)]) (W':=W) rfl ?_ ((hcall W hbl).mono ?_)
  {simp only[execOp,oC2,e2,Sem.run_bind,Result.andThen_ok,Sem.run_pure,resolve,invoke,List.map_toArray,List.map_cons,List.map_nil];have ef: (A u).eval (.func fn)= .func (.func fn) #[] #[]:=rfl;rw[ef];go_simp}
  {rintro e W' ⟨x,rfl,h1,h2,h3,h4,h5⟩;exact ⟨_,rfl,by rw[hA.put 2 (oC2 pos b fn) rfl u _]; exact hK.out _ _ (hI.s3 hd h1 h2 h3 h4 h5 hX)⟩}}
 refine StepsInv.cons (oC3 pos b) rfl (fun d u W K' hI hd hw hK=> ?_) ?_
 {have e1:=hA.e0 u;rw[hI.vals 0 (hw 0 (by kernel_rfl)) _ rfl] at e1;refine Z02 (v:= .int .i64 (X.xs.length:Int)) (W':=W) rfl ?_ (by rw[hA.put 3 (oC3 pos b) rfl u _]; exact hK.out _ _ (hI.pure (by decide) (fun v' h=>by cases h; rfl)));simp only[execOp,oC3,e1,Sem.run_bind,Result.andThen_ok,Sem.run_pure,resolve,invoke,List.map_toArray,List.map_cons,List.map_nil];go_simp}
 refine StepsInv.cons (oC4 pos b) rfl (fun d u W K' hI hd hw hK=> ?_) ?_
 {refine Z02 (v:= .slice (some ⟨W.heap.size,0,none⟩) 1 1) (W':=W.alloc (.cells Ya 26)) rfl ?_ (by rw[hA.put 4 (oC4 pos b) rfl u _]; exact hK.out _ _ (hI.s5 hd hX _));simp only[execOp,oC4,Sem.run_bind,Result.andThen_ok,Sem.run_pure];go_simp}
 refine StepsInv.cons (oC5 pos b) rfl (fun d u W K' hI hd hw hK=> ?_) ?_
 {have e1:=hA.e0 u;rw[hI.vals 0 (hw 0 (by kernel_rfl)) _ rfl] at e1;obtain ⟨z0,u5,z1,z2,z3⟩:=(hI.pre hd).a5 (hw 4 (by kernel_rfl));have e5:=hA.e4 u;rw[u5] at e5;have hbB:=hX.bpB;have hRW:=hX.row.up (hI.pre hd).up (fun x hx=>by simp at hx; subst hx; intro e; have:=hX.row.lt _ e; omega);have hln:=hX.len;have hBw:=hX.Bw;have hsz:=(hI.pre hd).up.size;refine step_append_lies W rfl _ _ 24 rfl X.B 26 i0 (.agg #[.int .i64 0,.string ByteArray.empty,.string ByteArray.empty,.int .i64 0,.slice none 0 0,.slice none 0 0,.slice none 0 0,.slice none 0 0,.int .i64 0]) 9 152 Tryz.underlying24 hif hz0 hz1 hz2 rfl (by decide) _ _ _ e1 hRW ⟨z0,0,none⟩ 1 1 zerosT e5 rfl (fun j v hv=>by rw[Z0r,Nat.zero_add]; exact z3 j v hv) (by decide) (by decide) (by unfold maxLen; omega) (by omega) (by omega) _ rfl ?_;intro g cp W' hown hg hat hlt;rw[hA.put 5 (oC5 pos b) rfl u _];exact hK.out _ _ (hI.s6 hd (fun k hk=>hw k (by
   rcases k with _ | _ | _ | _ | _ | k
   {kernel_rfl}
   {kernel_rfl}
   {kernel_rfl}
   {kernel_rfl}
   {kernel_rfl}
   · omega)) hX hown (by rw[Z0v] at hg; exact hg) (by rw[Z0v] at hat; exact hat))}
 refine StepsInv.cons (oC6 pos b) rfl (fun d u W K' hI hd hw hK=> ?_) ?_
 {have h6:=hw 5 (by kernel_rfl);obtain ⟨x,g,cp,p⟩:=hI.post h6;have e6:=hA.e5 u;rw[p.u6] at e6;have e4:=hA.e3 u;rw[hI.vals 3 (hw 3 (by kernel_rfl)) _ rfl] at e4;refine Z02 (v:= .pointer (some ⟨g,X.xs.length * 9,none⟩)) (W':=W) rfl ?_ (by rw[hA.put 6 (oC6 pos b) rfl u _]; exact hK.out _ _ (hI.s7 h6 (fun x' g' cp' p'=>by
   have:=p.u6.symm.trans p'.u6;simp only[Value.slice.injEq,Option.some.injEq,Addr.mk.injEq,and_true] at this;rw[this.1])))
  simp only[execOp,oC6,e6,e4,Sem.run_bind,Result.andThen_ok,Sem.run_pure];go_simp;intro h; omega}
 refine StepsInv.cons (oC7 pos b) rfl (fun d u W K' hI hd hw hK=> ?_) ?_
 {have h6:=hI.e7 (hw 6 (by kernel_rfl));obtain ⟨x,g,cp,p⟩:=hI.post h6;have e7:=hA.e6 u;rw[p.u7 (hw 6 (by kernel_rfl))] at e7;have e3:=hA.e2 u;rw[p.u3] at e3;have hrow:=p.row;rw[hd] at hrow;simp only[Bool.false_eq_true,if_false] at hrow;have hz:=CtxC.put_zero x (by rw[Z1V Z3E]) hrow;have hgl:=(hrow.lt g rfl).2;have hs:=hI.s8 hd h6 hX p undef;refine Z0B (W':=CtxT.putT W g (X.xs.length * 9) x) rfl ?_ (by rw[hA.put 7 (oC7 pos b) rfl u _]; exact hK.out _ _ hs);simp only[execOp,oC7,e7,e3,Sem.run_bind,Result.andThen_ok,Sem.run_pure,valT];obtain ⟨y0,c0,f0⟩:=hz 0 (by decide);obtain ⟨y1,c1,f1⟩:=hz 1 (by decide);obtain ⟨y2,c2,f2⟩:=hz 2 (by decide);obtain ⟨y3,c3,f3⟩:=hz 3 (by decide);obtain ⟨y4,c4,f4⟩:=hz 4 (by decide);obtain ⟨y5,c5,f5⟩:=hz 5 (by decide);obtain ⟨y6,c6,f6⟩:=hz 6 (by decide);obtain ⟨y7,c7,f7⟩:=hz 7 (by decide);obtain ⟨y8,c8,f8⟩:=hz 8 (by decide);simp only[Nat.add_zero] at c0 f0;go_simp;rfl}
 refine StepsInv.cons (oC8 pos b s) rfl (fun d u W K' hI hd hw hK=> ?_) StepsInv.nil
 {have h6:=hw 5 (by kernel_rfl);obtain ⟨x,g,cp,p⟩:=hI.post h6;have e6:=hA.e5 u;rw[p.u6] at e6;have e9: (A u).eval (.tmp s)= .pointer (some ⟨X.ob,X.fo,none⟩):=by rw[hfo]; exact es u
  have hc:=p.cell;rw[hd] at hc;simp only[Bool.false_eq_true,if_false] at hc;have hfz:=(p.fz X.fo).trans hX.fz;rw[hfo] at hc hfz;have hol:=Nat.lt_of_lt_of_le hX.oblt p.up.size;refine Z0B (W':=W.setCell ⟨X.ob,X.fo,none⟩ (.slice (some ⟨g,0,none⟩) (X.xs.length+1) cp)) rfl ?_ (by rw[hA.put 8 (oC8 pos b s) rfl u _]; exact hK.out _ _ (hI.s10 hd h6 hX p undef));simp only[execOp,oC8,e9,e6,Sem.run_bind,Result.andThen_ok,Sem.run_pure];go_simp}
 {intro d u W hI hd;obtain ⟨x,g,cp,p⟩:=hI.post (hd 5 (by show 5 < 9; omega));refine hQ u W x g cp ⟨p.u3,p.u6,fun _=>p.u7 (hd 6 (by show 6 < 9; omega)),p.par,p.is,p.r,p.lo,p.far,p.new,p.up, ?_, ?_,p.rest,p.fz⟩
  {have:=p.row; rw[hd 7 (by show 7 < 9; omega)] at this; exact this}
  {have:=p.cell; rw[hd 8 (by show 8 < 9; omega)] at this; exact this}}
end
end Go.Proofs.YtkncdbaoaeeoiaaGreatDoor
namespace Go.Proofs.YtkncdbaoaeeoiaaGreatDoor
section
open Go.RowKit Tms
open Shp (Sh)
open Pso (St Ok Goes betw loop want)
structure NewX (ex lo hi:Nat) (W:World) (P:World->Prop):Prop where
 hi_:hi<=W.heap.size
 at_: ∀W',W.heap.size<=W'.heap.size->(∀b,lo<=b->b < hi->b≠ex->SameT W W' b)->P W'
section
variable {ex lo hi : Nat} {W W' : World} {P : World -> Prop}
theorem NewX.new (h:NewX ex lo hi W P):New lo hi W P:=⟨h.hi_,fun W' hz hs=>h.at_ W' hz (fun b h1 h2 _=>hs b h1 h2)⟩
theorem New.x (h:New lo hi W P) (he:ex < lo\/hi<=ex):NewX ex lo hi W P:=⟨h.hi_,fun W' hz hs=>h.at_ W' hz (fun b h1 h2=>hs b h1 h2 (by omega))⟩
theorem NewX.same (h:NewX ex lo hi W P) (hz:W.heap.size<=W'.heap.size) (hs: ∀b,lo<=b->b < hi->b≠ex->SameT W W' b):NewX ex lo hi W' P:=
 ⟨Nat.le_trans h.hi_ hz,fun W2 hz2 hs2=>h.at_ W2 (Nat.le_trans hz hz2) (fun b h1 h2 h3=>(hs b h1 h2 h3).trans (hs2 b h1 h2 h3))⟩
theorem NewX.up {F:List Nat} (h:NewX ex lo hi W P) (hu:UpT F W W') (hF: ∀x∈F,x < lo\/hi<=x\/x=ex):NewX ex lo hi W' P:=
 h.same hu.size (fun b h1 h2 h3=>hu.same (Nat.lt_of_lt_of_le h2 h.hi_) (fun hx=>by have:=hF b hx; omega))
theorem NewX.below (h:NewX ex lo hi W P) (hb:Below W.heap.size W W'):NewX ex lo hi W' P:=h.up (F:= []) (Z05 hb) (by simp)
end
def ET.IsX (x:ET) (ex:Nat) (W:World):Prop:=NewX ex x.lo x.hi W (fun W'=>TmAt W' W'.heap.size x.q x.t)
structure JC (W0:World) (bp ob ex B0:Nat) (AP:Option Addr) (cp:Nat) (L:List ET) (W:World):Prop where
 up:UpT [bp] W0 W
 lt:ob < W.heap.size
 ge:W0.heap.size<=ob
 exlt:ex < W0.heap.size
 bpB0:bp < B0
 B0W:B0<=W0.heap.size
 c:W.cell? ⟨ob,0,none⟩=some (.slice AP L.length cp)
 fz:W.frozen? ⟨ob,0,none⟩=false
 rP:Row W W0.heap.size 26 9 cT AP cp L
 ro:rowT AP≠some ob
 isT: ∀x∈L,x.IsX ex W/\B0<=x.lo/\(ob < x.lo\/x.hi<=ob)
 fT: ∀x∈L,∀b,rowT AP=some b->b < x.lo\/x.hi<=b
section
variable {W0 W W' : World} {bp ob ex B0 : Nat} {AP : Option Addr} {cp : Nat} {L : List ET}
section
variable (h : JC W0 bp ob ex B0 AP cp L W)
include h
theorem JC.keep (hu:UpT [bp] W W'):JC W0 bp ob ex B0 AP cp L W':=by
 have hz:=h.up.size;have h0:=h.ge;have h1:=h.bpB0;have h2:=h.B0W;have ho:=hu.same h.lt (by simp; omega);exact ⟨h.up.trans hu,Nat.lt_of_lt_of_le h.lt hu.size,h0,h.exlt,h1,h2,(ho.1 0).trans h.c,(ho.2 0).trans h.fz,
  h.rP.up hu (fun x hx=>by simp at hx; subst hx; intro e; have:=h.rP.lt _ e; omega),h.ro,fun x hx=>⟨(h.isT x hx).1.up hu (by simp; have:=(h.isT x hx).2.1; omega),(h.isT x hx).2⟩,h.fT⟩
theorem JC.good {A:Option Addr} {c:Nat} {l:List Tk} {τ:St} {Q:ET->Prop} (hl:L.length<=900000): (⟨W,bp,A,c,l,τ,ob,0,W0.heap.size,AP,cp,L,Q⟩:CtxC).Good:=
 ⟨h.c,h.fz,h.lt,by have:=h.bpB0; have:=h.B0W; have:=h.ge; simp only; omega,h.rP,h.ro,by have:=h.bpB0; have:=h.B0W; simp only; omega,h.up.size,hl⟩
end
theorem JC.post {A:Option Addr} {c g cp':Nat} {l:List Tk} {τ:St} {Q:ET->Prop} {u:Nat->Value} {x:ET} (h:JC W0 bp ob ex B0 AP cp L W) (p: (⟨W,bp,A,c,l,τ,ob,0,W0.heap.size,AP,cp,L,Q⟩:CtxC).PostX (fun _=>true) u W' x g cp'):JC W0 bp ob ex B0 (some ⟨g,0,none⟩) cp' (L++ [x]) W':=by
 have hz:=h.up.size;have h0:=h.ge;have h1:=h.bpB0;have h2:=h.B0W;have h4:=h.exlt;have hlt:=h.lt;have hAP: ∀b,rowT AP=some b->W0.heap.size<=b/\b < W.heap.size:=fun b hb=>h.rP.lt b hb;have hu:UpT (bp::ob::(rowT AP).toList) W W':=p.up;have hnew:rowT AP=some g\/W.heap.size<=g:=p.new;have hlo:W.heap.size<=x.lo:=p.lo;have hc:W'.cell? ⟨ob,0,none⟩=some (.slice (some ⟨g,0,none⟩) (L.length+1) cp'):=by have:=p.cell; simpa using this
 have hfz: ∀j,W'.frozen? ⟨ob,j,none⟩=W.frozen? ⟨ob,j,none⟩:=p.fz;have hrow:W'.ownsRow W0.heap.size 26 9 (.slice (some ⟨g,0,none⟩) (L.length+1) cp') (L.length+1) (L.flatMap cT++cT x):=by have:=p.row; simpa using this
 have hmem: ∀y,y∈bp::ob::(rowT AP).toList->y=bp\/y=ob\/rowT AP=some y:=fun y hy=>by simpa using hy
 have hgo:g≠ob:=by
  rcases hnew with e | e
  {intro e2; exact h.ro (e2▸e)}
  {omega}
 refine ⟨⟨hu.os.trans h.up.os,hu.tape.trans h.up.tape,hu.output.trans h.up.output,Nat.le_trans h.up.size hu.size,fun y h1 h2=> ?_⟩,Nat.lt_of_lt_of_le hlt hu.size,h0,h4,h1,h2,by rw[List.length_append]; exact hc,(hfz 0).trans h.fz, ?_, ?_,fun y hy=> ?_,fun y hy b hb=> ?_⟩
 {rw[hu.block y (by omega) (fun hx=> ?_)]
  {exact h.up.block y h1 h2}
  {simp at h2;rcases hmem _ hx with e | e | e
   {exact h2 e}
   {omega}
   {have:=hAP _ e; omega}}}
 {unfold Row; rw[List.length_append,List.flatMap_append]; simpa using hrow}
 {intro e; exact hgo (Option.some.inj e)}
 {rcases List.mem_append.1 hy with hy | hy
  {have k:=h.isT y hy;refine ⟨k.1.up hu (fun b hb=> ?_),k.2⟩;rcases hmem _ hb with e | e | e
   {omega}
   {have:=k.2.2; omega}
   {have:=h.fT y hy b e; omega}}
  {obtain rfl:y=x:=by simpa using hy
   have hi1:W.heap.size<=y.lo:=hlo;exact ⟨New.x p.is (by omega),by omega,by omega⟩}}
 {have hbg:g=b:=Option.some.inj hb;rcases List.mem_append.1 hy with hy | hy
  {rcases hnew with e | e
   {exact h.fT y hy b (hbg▸e)}
   {right; have:=(h.isT y hy).1.hi_; omega}}
  {obtain rfl:y=x:=by simpa using hy
   have:=p.far; omega}}
end
def Z4g (W0:World) (bp ob ex B0:Nat) (r:Nat) (W:World) (a:List Tm):Prop:=
 ∃AP cp L,JC W0 bp ob ex B0 AP cp L W/\L.map ET.t=a/\L.length<=r+1/\ ∀y∈L,few y.t=true
theorem Zdz {W0 W W':World} {bp ob ex B0 r:Nat} {a:List Tm} (h:Z4g W0 bp ob ex B0 r W a) (hu:UpT [bp] W W'):Z4g W0 bp ob ex B0 r W' a:=by
 obtain ⟨AP,cp,L,h1,h2⟩:=h;exact ⟨AP,cp,L,h1.keep hu,h2⟩
theorem ZeI (bp:Nat) (A:Option Addr) (c:Nat) (l:List Tk) (m:Nat) (hl:TokOk l) (hE:ExC bp A c l m) (W0:World) (pb ob ex B0:Nat) (hpb:W0.cell? ⟨pb,0,none⟩=some (.pointer (some ⟨bp,0,none⟩))/\pb < W0.heap.size/\pb≠bp):
 Reads bp A c l 98 (.pointer (some ⟨ob,0,none⟩)) (.pointer (some ⟨pb,0,none⟩)) (Z4g W0 bp ob ex B0) (Pso.argsR l (Pso.expr l m)) m:=by
 intro r w τ a hr hτ hm hP hJ;obtain ⟨AP,cp,L,hJC,hs,hn,hf⟩:=hJ;have HF:Hid (Pso.argsR l (Pso.expr l m) τ a=((Pso.expr l m τ).2,a++ [(Pso.expr l m τ).1])):=Y1 rfl;rw[HF.out];have hc2:w.cell? ⟨pb,0,none⟩=some (.pointer (some ⟨bp,0,none⟩)):=((hJC.up.same hpb.2.1 (by simp; exact hpb.2.2)).1 0).trans hpb.1;have hlt2:pb < w.heap.size:=Nat.lt_of_lt_of_le hpb.2.1 hJC.up.size;have HLEN:=hl.len;have HS:=Y1 hJC;have HX:=Y1 (And.intro hs (And.intro hn hf));have HE:=Y1 hE;have HM:=Y1 hm;have HP:=Y1 hP;have HO:=Y1 hτ;have HPN:=Y1 hpb.2.2;clear HF hP hE hpb hs hn hf hτ hm hJC hl;go_enter Tryz.func98,Tryz.ntmps98;refine regC _ 2 0 1 36 ⟨w,bp,A,c,l,(Pso.expr l m τ).2,ob,0,W0.heap.size,AP,cp,L,(fun x=>x.t=(Pso.expr l m τ).1/\few x.t=true)⟩ (HS.out.good (by have:=HX.out.2.1; omega)) pb hc2 hlt2 HPN.out
  (fun u=> { tmps:=#[.pointer (some ⟨ob,0,none⟩),.pointer (some ⟨pb,0,none⟩),u 0,u 1,u 2,u 3,u 4,u 5,u 6],defers:= [] }) (fun _=>undef)
  ⟨fun i o h u v=>by
   rcases i with _ | _ | _ | _ | _ | _ | _ | _ | _ | i
   all_goals first | (cases h; rfl) | exact absurd h (by simp[opsC]),fun _=>rfl,fun _=>rfl,fun _=>rfl,fun _=>rfl,fun _=>rfl,fun _=>rfl,fun _=>rfl,fun _=>rfl,fun _=>rfl⟩
  rfl (enters_of Tryz.func36 (by kernel_rfl) rfl) (fun W hW=>HE.out W _ HO.out HM.out (HP.out.below hW)) (fun u W x g' cp' p=> ?_)
 have hx:=p.r;have hpar:PAt W bp A c l (Pso.expr l m τ).2:=p.par
 go_end0
 refine ⟨rfl,hpar,_,_,_,HS.out.post p, ?_, ?_, ?_⟩
 {rw[List.map_append, <-HX.out.1,List.map_singleton,hx.1]}
 {have:=HX.out.2.1; rw[List.length_append]; simp; omega}
 {intro y hy;rcases List.mem_append.1 hy with hy | hy
  {exact HX.out.2.2 y hy}
  {have e:y=x:=by simpa using hy
   rw[e]; exact hx.2}}
structure FInv (w:World) (bp:Nat) (A:Option Addr) (c:Nat) (l:List Tk) (τ:St) (nm:List UInt8) (ob:Nat) (x:ET) (a:Int) (d:Nat->Bool) (u:Nat->Value) (W:World):Prop where
 v0:d 0=true->u 0= .pointer (some ⟨bp,0,none⟩)
 vA:d 1=true->u 1= .pointer (some ⟨bp,0,none⟩)
 vB:d 2=true->u 2= .pointer (some ⟨bp,0,none⟩)
 v1:d 3=true->u 3= .string ⟨nm.toArray⟩
 v2:d 4=true->u 4=valT x
 v4:d 6=true->u 6= .int .i64 a
 e3:d 5=true->d 4=true
 e5:d 7=true->d 3=true/\d 5=true/\d 6=true
 e6:d 8=true->d 7=true
 pre:d 3=false->Below w.heap.size w W
 up:d 8=false->UpT [bp] w W
 s1:d 3=true->d 8=false->PAt W bp A c l τ
 s3:d 5=true->d 8=false-> ∃g,u 5= .slice (some ⟨g,0,none⟩) 1 1/\Row W w.heap.size 26 9 cT (some ⟨g,0,none⟩) 1 [x]
 v5:d 7=true-> ∃g,u 5= .slice (some ⟨g,0,none⟩) 1 1/\u 7= .agg #[.int .i64 9,.string ⟨#[]⟩,.string ⟨nm.toArray⟩,.int .i64 0,.slice none 0 0,.slice none 0 0,.slice none 0 0,.slice (some ⟨g,0,none⟩) 1 1,.int .i64 a]
 fin:d 8=true-> ∃Wm g,PAt Wm bp A c l τ/\Row Wm w.heap.size 26 9 cT (some ⟨g,0,none⟩) 1 [x]/\UpT [bp] w Wm/\W=Z10 Wm ob (.int .i64 9) (.string ⟨#[]⟩) (.string ⟨nm.toArray⟩) (.int .i64 0) (.slice none 0 0) (.slice none 0 0) (.slice none 0 0) (.slice (some ⟨g,0,none⟩) 1 1) (.int .i64 a)
section
variable {w : World} {bp : Nat} {A : Option Addr} {c : Nat} {l : List Tk} {τ : St} {nm : List UInt8} {ob : Nat} {x : ET} {a : Int} {d : Nat -> Bool} {u : Nat -> Value} {W W' : World}
section
variable (h : FInv w bp A c l τ nm ob x a d u W)
include h
theorem FInv.not6 {i:Nat} (hd:d i=false) (h3:i=3\/i=4\/i=5\/i=6\/i=7\/i=8):d 8=false:=by
 cases h6:d 8 with
 | false=>rfl
 | true=>
  have k5:=h.e6 h6;obtain ⟨k1,k3,k4⟩:=h.e5 k5;have k2:=h.e3 k3;rcases h3 with rfl | rfl | rfl | rfl | rfl | rfl
  {rw[hd] at k1; cases k1}
  {rw[hd] at k2; cases k2}
  {rw[hd] at k3; cases k3}
  {rw[hd] at k4; cases k4}
  {rw[hd] at k5; cases k5}
  {rw[hd] at h6; cases h6}
theorem FInv.p0 (v:Value) (hv:v= .pointer (some ⟨bp,0,none⟩)):FInv w bp A c l τ nm ob x a (also d 0) (upd u 0 v) W:=by
 have k: ∀j,j≠0->also d 0 j=d j/\upd u 0 v j=u j:=fun j hj=>⟨PtxT.ne9 d hj,Z06 u _ hj⟩;refine ⟨(fun _=>by rw[Z09]; exact hv),(by rw[(k 1 (by omega)).1,(k 1 (by omega)).2]; exact h.vA),(by rw[(k 2 (by omega)).1,(k 2 (by omega)).2]; exact h.vB),(by rw[(k 3 (by omega)).1,(k 3 (by omega)).2]; exact h.v1),(by rw[(k 4 (by omega)).1,(k 4 (by omega)).2]; exact h.v2),(by rw[(k 6 (by omega)).1,(k 6 (by omega)).2]; exact h.v4),(by rw[(k 5 (by omega)).1,(k 4 (by omega)).1]; exact h.e3),(by rw[(k 7 (by omega)).1,(k 3 (by omega)).1,(k 5 (by omega)).1,(k 6 (by omega)).1]; exact h.e5),(by rw[(k 8 (by omega)).1,(k 7 (by omega)).1]; exact h.e6),(by rw[(k 3 (by omega)).1]; exact h.pre),(by rw[(k 8 (by omega)).1]; exact h.up),(by rw[(k 3 (by omega)).1,(k 8 (by omega)).1]; exact h.s1),(by rw[(k 5 (by omega)).1,(k 8 (by omega)).1,(k 5 (by omega)).2]; exact h.s3),(by rw[(k 7 (by omega)).1,(k 5 (by omega)).2,(k 7 (by omega)).2]; exact h.v5),(by rw[(k 8 (by omega)).1]; exact h.fin)⟩
theorem FInv.pA (v:Value) (hv:v= .pointer (some ⟨bp,0,none⟩)):FInv w bp A c l τ nm ob x a (also d 1) (upd u 1 v) W:=by
 have k: ∀j,j≠1->also d 1 j=d j/\upd u 1 v j=u j:=fun j hj=>⟨PtxT.ne9 d hj,Z06 u _ hj⟩;refine ⟨(by rw[(k 0 (by omega)).1,(k 0 (by omega)).2]; exact h.v0),(fun _=>by rw[Z09]; exact hv),(by rw[(k 2 (by omega)).1,(k 2 (by omega)).2]; exact h.vB),(by rw[(k 3 (by omega)).1,(k 3 (by omega)).2]; exact h.v1),(by rw[(k 4 (by omega)).1,(k 4 (by omega)).2]; exact h.v2),(by rw[(k 6 (by omega)).1,(k 6 (by omega)).2]; exact h.v4),(by rw[(k 5 (by omega)).1,(k 4 (by omega)).1]; exact h.e3),(by rw[(k 7 (by omega)).1,(k 3 (by omega)).1,(k 5 (by omega)).1,(k 6 (by omega)).1]; exact h.e5),(by rw[(k 8 (by omega)).1,(k 7 (by omega)).1]; exact h.e6),(by rw[(k 3 (by omega)).1]; exact h.pre),(by rw[(k 8 (by omega)).1]; exact h.up),(by rw[(k 3 (by omega)).1,(k 8 (by omega)).1]; exact h.s1),(by rw[(k 5 (by omega)).1,(k 8 (by omega)).1,(k 5 (by omega)).2]; exact h.s3),(by rw[(k 7 (by omega)).1,(k 5 (by omega)).2,(k 7 (by omega)).2]; exact h.v5),(by rw[(k 8 (by omega)).1]; exact h.fin)⟩
theorem FInv.pB (v:Value) (hv:v= .pointer (some ⟨bp,0,none⟩)):FInv w bp A c l τ nm ob x a (also d 2) (upd u 2 v) W:=by
 have k: ∀j,j≠2->also d 2 j=d j/\upd u 2 v j=u j:=fun j hj=>⟨PtxT.ne9 d hj,Z06 u _ hj⟩;refine ⟨(by rw[(k 0 (by omega)).1,(k 0 (by omega)).2]; exact h.v0),(by rw[(k 1 (by omega)).1,(k 1 (by omega)).2]; exact h.vA),(fun _=>by rw[Z09]; exact hv),(by rw[(k 3 (by omega)).1,(k 3 (by omega)).2]; exact h.v1),(by rw[(k 4 (by omega)).1,(k 4 (by omega)).2]; exact h.v2),(by rw[(k 6 (by omega)).1,(k 6 (by omega)).2]; exact h.v4),(by rw[(k 5 (by omega)).1,(k 4 (by omega)).1]; exact h.e3),(by rw[(k 7 (by omega)).1,(k 3 (by omega)).1,(k 5 (by omega)).1,(k 6 (by omega)).1]; exact h.e5),(by rw[(k 8 (by omega)).1,(k 7 (by omega)).1]; exact h.e6),(by rw[(k 3 (by omega)).1]; exact h.pre),(by rw[(k 8 (by omega)).1]; exact h.up),(by rw[(k 3 (by omega)).1,(k 8 (by omega)).1]; exact h.s1),(by rw[(k 5 (by omega)).1,(k 8 (by omega)).1,(k 5 (by omega)).2]; exact h.s3),(by rw[(k 7 (by omega)).1,(k 5 (by omega)).2,(k 7 (by omega)).2]; exact h.v5),(by rw[(k 8 (by omega)).1]; exact h.fin)⟩
theorem FInv.p2 (v:Value) (hv:v=valT x):FInv w bp A c l τ nm ob x a (also d 4) (upd u 4 v) W:=by
 have k: ∀j,j≠4->also d 4 j=d j/\upd u 4 v j=u j:=fun j hj=>⟨PtxT.ne9 d hj,Z06 u _ hj⟩;refine ⟨(by rw[(k 0 (by omega)).1,(k 0 (by omega)).2]; exact h.v0),(by rw[(k 1 (by omega)).1,(k 1 (by omega)).2]; exact h.vA),(by rw[(k 2 (by omega)).1,(k 2 (by omega)).2]; exact h.vB),(by rw[(k 3 (by omega)).1,(k 3 (by omega)).2]; exact h.v1),(fun _=>by rw[Z09]; exact hv),(by rw[(k 6 (by omega)).1,(k 6 (by omega)).2]; exact h.v4),(fun _=>PtxT.self9 _ _),(by rw[(k 7 (by omega)).1,(k 3 (by omega)).1,(k 5 (by omega)).1,(k 6 (by omega)).1]; exact h.e5),(by rw[(k 8 (by omega)).1,(k 7 (by omega)).1]; exact h.e6),(by rw[(k 3 (by omega)).1]; exact h.pre),(by rw[(k 8 (by omega)).1]; exact h.up),(by rw[(k 3 (by omega)).1,(k 8 (by omega)).1]; exact h.s1),(by rw[(k 5 (by omega)).1,(k 8 (by omega)).1,(k 5 (by omega)).2]; exact h.s3),(by rw[(k 7 (by omega)).1,(k 5 (by omega)).2,(k 7 (by omega)).2]; exact h.v5),(by rw[(k 8 (by omega)).1]; exact h.fin)⟩
theorem FInv.p4 (v:Value) (hv:v= .int .i64 a):FInv w bp A c l τ nm ob x a (also d 6) (upd u 6 v) W:=by
 have k: ∀j,j≠6->also d 6 j=d j/\upd u 6 v j=u j:=fun j hj=>⟨PtxT.ne9 d hj,Z06 u _ hj⟩;refine ⟨(by rw[(k 0 (by omega)).1,(k 0 (by omega)).2]; exact h.v0),(by rw[(k 1 (by omega)).1,(k 1 (by omega)).2]; exact h.vA),(by rw[(k 2 (by omega)).1,(k 2 (by omega)).2]; exact h.vB),(by rw[(k 3 (by omega)).1,(k 3 (by omega)).2]; exact h.v1),(by rw[(k 4 (by omega)).1,(k 4 (by omega)).2]; exact h.v2),(fun _=>by rw[Z09]; exact hv),(by rw[(k 5 (by omega)).1,(k 4 (by omega)).1]; exact h.e3),(by rw[(k 7 (by omega)).1,(k 3 (by omega)).1,(k 5 (by omega)).1]; exact fun e=>⟨(h.e5 e).1,(h.e5 e).2.1,PtxT.self9 _ _⟩),(by rw[(k 8 (by omega)).1,(k 7 (by omega)).1]; exact h.e6),(by rw[(k 3 (by omega)).1]; exact h.pre),(by rw[(k 8 (by omega)).1]; exact h.up),(by rw[(k 3 (by omega)).1,(k 8 (by omega)).1]; exact h.s1),(by rw[(k 5 (by omega)).1,(k 8 (by omega)).1,(k 5 (by omega)).2]; exact h.s3),(by rw[(k 7 (by omega)).1,(k 5 (by omega)).2,(k 7 (by omega)).2]; exact h.v5),(by rw[(k 8 (by omega)).1]; exact h.fin)⟩
theorem FInv.c1 (hd:d 3=false) (hbw:bp < w.heap.size) (v:Value) (hv:v= .string ⟨nm.toArray⟩) (hu:UpT [bp] W W') (hp:PAt W' bp A c l τ):FInv w bp A c l τ nm ob x a (also d 3) (upd u 3 v) W':=by
 have k: ∀j,j≠3->also d 3 j=d j/\upd u 3 v j=u j:=fun j hj=>⟨PtxT.ne9 d hj,Z06 u _ hj⟩;have d6:=h.not6 (i:=3) hd (by omega);have d5:d 7=false:=by cases e:d 7 with | false=>rfl | true=>have:=(h.e5 e).1; rw[hd] at this; cases this
 refine ⟨(by rw[(k 0 (by omega)).1,(k 0 (by omega)).2]; exact h.v0),(by rw[(k 1 (by omega)).1,(k 1 (by omega)).2]; exact h.vA),(by rw[(k 2 (by omega)).1,(k 2 (by omega)).2]; exact h.vB),(fun _=>by rw[Z09]; exact hv),(by rw[(k 4 (by omega)).1,(k 4 (by omega)).2]; exact h.v2),(by rw[(k 6 (by omega)).1,(k 6 (by omega)).2]; exact h.v4),(by rw[(k 5 (by omega)).1,(k 4 (by omega)).1]; exact h.e3),(by rw[(k 7 (by omega)).1,d5]; intro e; cases e),(by rw[(k 8 (by omega)).1,(k 7 (by omega)).1]; exact h.e6),(by rw[PtxT.self9]; intro e; cases e),(fun _=>(h.up d6).trans hu),(fun _ _=>hp),(by
  rw[(k 5 (by omega)).1,(k 5 (by omega)).2];intro h4 _;obtain ⟨g,e1,e2⟩:=h.s3 h4 d6;exact ⟨g,e1,e2.up hu (fun y hy=>by simp at hy; subst hy; intro e; have:=e2.lt _ e; omega)⟩),(by rw[(k 7 (by omega)).1,d5]; intro e; cases e),(by rw[(k 8 (by omega)).1,d6]; intro e; cases e)⟩
theorem FInv.c3 (hd:d 5=false) (h2:d 4=true) {g:Nat} (v:Value) (hb:Below W.heap.size W W') (hv:v= .slice (some ⟨g,0,none⟩) 1 1) (hr:Row W' w.heap.size 26 9 cT (some ⟨g,0,none⟩) 1 [x]):FInv w bp A c l τ nm ob x a (also d 5) (upd u 5 v) W':=by
 have k: ∀j,j≠5->also d 5 j=d j/\upd u 5 v j=u j:=fun j hj=>⟨PtxT.ne9 d hj,Z06 u _ hj⟩;have d6:=h.not6 (i:=5) hd (by omega);have d5:d 7=false:=by cases e:d 7 with | false=>rfl | true=>have:=(h.e5 e).2.1; rw[hd] at this; cases this
 refine ⟨(by rw[(k 0 (by omega)).1,(k 0 (by omega)).2]; exact h.v0),(by rw[(k 1 (by omega)).1,(k 1 (by omega)).2]; exact h.vA),(by rw[(k 2 (by omega)).1,(k 2 (by omega)).2]; exact h.vB),(by rw[(k 3 (by omega)).1,(k 3 (by omega)).2]; exact h.v1),(by rw[(k 4 (by omega)).1,(k 4 (by omega)).2]; exact h.v2),(by rw[(k 6 (by omega)).1,(k 6 (by omega)).2]; exact h.v4),(by rw[(k 4 (by omega)).1]; exact fun _=>h2),(by rw[(k 7 (by omega)).1,d5]; intro e; cases e),(by rw[(k 8 (by omega)).1,(k 7 (by omega)).1]; exact h.e6),(by rw[(k 3 (by omega)).1]; exact fun e=>Z00 (h.pre e) hb),(fun _=>(h.up d6).below hb),(by rw[(k 3 (by omega)).1]; exact fun e _=>(h.s1 e d6).below hb),(fun _ _=>⟨g,by rw[Z09]; exact hv,hr⟩),(by rw[(k 7 (by omega)).1,d5]; intro e; cases e),(by rw[(k 8 (by omega)).1,d6]; intro e; cases e)⟩
theorem FInv.c5 (h1:d 3=true) (h3:d 5=true) (h4:d 6=true) {g:Nat} (v:Value) (u3:u 5= .slice (some ⟨g,0,none⟩) 1 1) (hv:v= .agg #[.int .i64 9,.string ⟨#[]⟩,.string ⟨nm.toArray⟩,.int .i64 0,.slice none 0 0,.slice none 0 0,.slice none 0 0,.slice (some ⟨g,0,none⟩) 1 1,.int .i64 a]):FInv w bp A c l τ nm ob x a (also d 7) (upd u 7 v) W:=by
 have k: ∀j,j≠7->also d 7 j=d j/\upd u 7 v j=u j:=fun j hj=>⟨PtxT.ne9 d hj,Z06 u _ hj⟩;refine ⟨(by rw[(k 0 (by omega)).1,(k 0 (by omega)).2]; exact h.v0),(by rw[(k 1 (by omega)).1,(k 1 (by omega)).2]; exact h.vA),(by rw[(k 2 (by omega)).1,(k 2 (by omega)).2]; exact h.vB),(by rw[(k 3 (by omega)).1,(k 3 (by omega)).2]; exact h.v1),(by rw[(k 4 (by omega)).1,(k 4 (by omega)).2]; exact h.v2),(by rw[(k 6 (by omega)).1,(k 6 (by omega)).2]; exact h.v4),(by rw[(k 5 (by omega)).1,(k 4 (by omega)).1]; exact h.e3),(by rw[(k 3 (by omega)).1,(k 5 (by omega)).1,(k 6 (by omega)).1]; exact fun _=>⟨h1,h3,h4⟩),(fun _=>PtxT.self9 _ _),(by rw[(k 3 (by omega)).1]; exact h.pre),(by rw[(k 8 (by omega)).1]; exact h.up),(by rw[(k 3 (by omega)).1,(k 8 (by omega)).1]; exact h.s1),(by rw[(k 5 (by omega)).1,(k 8 (by omega)).1,(k 5 (by omega)).2]; exact h.s3),(fun _=>⟨g,by rw[(k 5 (by omega)).2]; exact u3,by rw[Z09]; exact hv⟩),(by rw[(k 8 (by omega)).1]; exact h.fin)⟩
theorem FInv.c6 (hd:d 8=false) (h5:d 7=true) {g:Nat} (v:Value) (hr:Row W w.heap.size 26 9 cT (some ⟨g,0,none⟩) 1 [x]):FInv w bp A c l τ nm ob x a (also d 8) (upd u 8 v) (Z10 W ob (.int .i64 9) (.string ⟨#[]⟩) (.string ⟨nm.toArray⟩) (.int .i64 0) (.slice none 0 0) (.slice none 0 0) (.slice none 0 0) (.slice (some ⟨g,0,none⟩) 1 1) (.int .i64 a)):=by
 have k: ∀j,j≠8->also d 8 j=d j/\upd u 8 v j=u j:=fun j hj=>⟨PtxT.ne9 d hj,Z06 u _ hj⟩;refine ⟨(by rw[(k 0 (by omega)).1,(k 0 (by omega)).2]; exact h.v0),(by rw[(k 1 (by omega)).1,(k 1 (by omega)).2]; exact h.vA),(by rw[(k 2 (by omega)).1,(k 2 (by omega)).2]; exact h.vB),(by rw[(k 3 (by omega)).1,(k 3 (by omega)).2]; exact h.v1),(by rw[(k 4 (by omega)).1,(k 4 (by omega)).2]; exact h.v2),(by rw[(k 6 (by omega)).1,(k 6 (by omega)).2]; exact h.v4),(by rw[(k 5 (by omega)).1,(k 4 (by omega)).1]; exact h.e3),(by rw[(k 7 (by omega)).1,(k 3 (by omega)).1,(k 5 (by omega)).1,(k 6 (by omega)).1]; exact h.e5),(by rw[(k 7 (by omega)).1]; exact fun _=>h5),(by rw[(k 3 (by omega)).1,(h.e5 h5).1]; intro e; cases e),(by rw[PtxT.self9]; intro e; cases e),(by rw[PtxT.self9]; intro _ e; cases e),(by rw[PtxT.self9]; intro _ e; cases e),(by rw[(k 7 (by omega)).1,(k 5 (by omega)).2,(k 7 (by omega)).2]; exact h.v5),(fun _=>⟨W,g,h.s1 (h.e5 h5).1 hd,hr,h.up hd,rfl⟩)⟩
end
end
theorem ZaG {W:World} {B ex:Nat} (t:TB) (AP:Option Addr) (cp:Nat) (L:List ET) (ht:TBok t) (rP:Row W B 26 9 cT AP cp L) (hne:rowT AP≠some ex) (isT: ∀x∈L,x.IsX ex W/\B<=x.lo) (hl:L.length<=1000000):
 (⟨mkT t ⟨none,0,[],none,0,[],none,0,[],AP,cp,L⟩,mkQ ⟨none,0,[],none,0,[],none,0,[],AP,cp,L⟩,B,W.heap.size⟩:ET).IsX ex W:=by
 refine ⟨Nat.le_refl _,fun W' hz hs=> ?_⟩;have S:TSmall (mkT t ⟨none,0,[],none,0,[],none,0,[],AP,cp,L⟩) (mkQ ⟨none,0,[],none,0,[],none,0,[],AP,cp,L⟩):=by
  refine ⟨by have:=ht.o; simp only[mkT]; omega,by have:=ht.nm; simp only[mkT]; omega,nofun,nofun,by simp[mkT],by simp[mkT],by simp[mkT],by simp only[mkT,List.length_map]; omega,by simp[mkT,mkQ],by simp[mkT,mkQ],by simp[mkT,mkQ], ?_,fun _=>rfl,fun _=>rfl,fun _=>rfl,rP.cap.2,ht.n,ht.a, ?_⟩
  {simp only[mkT,mkQ,List.length_map]; exact rP.cap.1}
  {have:=ht.k; simp only[mkT]; omega}
 rcases rP.read Z3E with h0 | ⟨g,rfl,h1,h2,h3⟩
 {exact .mk _ _ 0 0 (fun _=>⟨none,0,none,0,none,0,none,0⟩) S (Or.inl rfl) (Or.inl rfl) (Or.inl rfl) (Or.inl (by simp only[mkT,List.length_map]; exact h0)) (fun i hi=>absurd hi (by simp only[mkT,List.length_map]; omega)) (fun i hi=>absurd hi (by simp only[mkT,List.length_map]; omega))}
 {have hgx:g≠ex:=fun e=>hne (e▸rfl);have hget: ∀i (hi:i < L.length),(L.map ET.q).getD i ⟨none,0,none,0,none,0,none,0⟩=(L[i]'hi).q:=fun i hi=>by simp[hi]
  have F1: ∀i (hi:i < (L.map ET.t).length),Tm9 W' g (0+i * 9) ((L.map ET.t)[i]'hi) ((L.map ET.q).getD i ⟨none,0,none,0,none,0,none,0⟩):=fun i hi=>by
   rw[List.length_map] at hi;have hc: ∀k,k < 9->W'.cell? ⟨g,i * 9+k,none⟩=(cT (L[i]'hi))[k]? :=fun k hk=>((hs g h1 h2 hgx).1 _).trans (h3 i hi k hk);rw[hget i hi,Nat.zero_add,List.getElem_map];exact ⟨hc 0 (by omega),hc 1 (by omega),hc 2 (by omega),hc 3 (by omega),hc 4 (by omega),hc 5 (by omega),hc 6 (by omega),hc 7 (by omega),hc 8 (by omega)⟩
  have F2: ∀i (hi:i < (L.map ET.t).length),TmAt W' W'.heap.size ((L.map ET.q).getD i ⟨none,0,none,0,none,0,none,0⟩) ((L.map ET.t)[i]'hi):=fun i hi=>by
   rw[List.length_map] at hi;rw[hget i hi,List.getElem_map];have hx:=isT _ (List.getElem_mem hi);exact hx.1.at_ W' hz (fun b k1 k2 k3=>hs b (Nat.le_trans hx.2 k1) (Nat.lt_of_lt_of_le k2 hx.1.hi_) k3)
  exact .mk _ _ g 0 (fun i=>(L.map ET.q).getD i ⟨none,0,none,0,none,0,none,0⟩) S (Or.inl rfl) (Or.inl rfl) (Or.inl rfl) (Or.inr ⟨rfl,Nat.lt_of_lt_of_le h2 hz⟩) F1 F2}
end
end Go.Proofs.YtkncdbaoaeeoiaaGreatDoor
