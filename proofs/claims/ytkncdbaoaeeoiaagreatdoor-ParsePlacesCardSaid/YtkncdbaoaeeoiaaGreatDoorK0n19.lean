/- What the proofs of ParsePlaces want, part 19. -/
import Derived.Test.YtkncdbaoaeeoiaaGreatDoorK0n9
set_option linter.unusedVariables false
set_option linter.unusedSimpArgs false
set_option linter.unusedSectionVars false
set_option maxRecDepth 100000
set_option maxHeartbeats 16000000
namespace Go.Proofs.YtkncdbaoaeeoiaaGreatDoor
section
open Go.RowKit Tms
open Shp (Sh)
open Pso (St)
def valT (x:ET):Value:= .agg (Y7 x.t x.q)
def zerosT:List Value:= [.int .i64 0,.string ⟨#[]⟩,.string ⟨#[]⟩,.int .i64 0,.slice none 0 0,.slice none 0 0,.slice none 0 0,.slice none 0 0,.int .i64 0]
theorem Z8K: (Tryz.prog.info? 26).map (fun i=>(i.zero,i.size,i.bytes))=some (some (.agg #[.int .i64 0,.string ByteArray.empty,.string ByteArray.empty,.int .i64 0,.slice none 0 0,.slice none 0 0,.slice none 0 0,.slice none 0 0,.int .i64 0]),9,152):=by kernel_rfl
def oT0 (pos:String) (b s tC fi:Nat):Oper:=
 { dst:=some b,op:= .fieldAddr tC (.tmp s) fi,type:=0,pos:=pos,after:=#[],guard:=none }
def oT1 (pos:String) (b:Nat):Oper:=
 { dst:=some (b+1),op:= .load 24 (.tmp b),type:=24,pos:=pos,after:=#[{ on:=0,ground:= .data }],guard:=none }
def oT2 (pos:String) (b p:Nat):Oper:=
 { dst:=some (b+2),op:= .load 59 (.tmp p),type:=59,pos:=pos,after:=#[],guard:=none }
def oT3 (pos:String) (b fn:Nat):Oper:=
 { dst:=some (b+3),op:= .call { callee:= .value (.func fn),args:=#[.tmp (b+2)],argTypes:=#[59] },type:=26,pos:=pos,after:=#[{ on:=2,ground:= .data }],guard:=none }
def oT4 (pos:String) (b:Nat):Oper:=
 { dst:=some (b+4),op:= .call { callee:= .builtin .len,args:=#[.tmp (b+1)],argTypes:=#[24] },type:=3,pos:=pos,after:=#[{ on:=1,ground:= .data }],guard:=none }
def oT5 (pos:String) (b:Nat):Oper:=
 { dst:=some (b+5),op:= .buildSlice 24 1 #[(0,.const (.agg #[.int .i64 0,.string ⟨#[]⟩,.string ⟨#[]⟩,.int .i64 0,.slice none 0 0,.slice none 0 0,.slice none 0 0,.slice none 0 0,.int .i64 0]))],type:=24,pos:=pos,after:=#[],guard:=none }
def oT6 (pos:String) (b:Nat):Oper:=
 { dst:=some (b+6),op:= .call { callee:= .builtin .append,args:=#[.tmp (b+1),.tmp (b+5)],argTypes:=#[24,24] },type:=24,pos:=pos,after:=#[{ on:=1,ground:= .data },{ on:=5,ground:= .data },{ on:=3,ground:= .chain },{ on:=0,ground:= .phase },{ on:=1,ground:= .phase },{ on:=2,ground:= .phase },{ on:=3,ground:= .phase },{ on:=4,ground:= .phase },{ on:=5,ground:= .phase }],guard:=none }
def oT7 (pos:String) (b:Nat):Oper:=
 { dst:=some (b+7),op:= .indexAddr 24 (.tmp (b+6)) (.tmp (b+4)),type:=0,pos:=pos,after:=#[{ on:=6,ground:= .data },{ on:=4,ground:= .data },{ on:=0,ground:= .phase },{ on:=1,ground:= .phase },{ on:=2,ground:= .phase },{ on:=3,ground:= .phase },{ on:=4,ground:= .phase },{ on:=5,ground:= .phase },{ on:=6,ground:= .phase },{ on:=10,ground:= .gcOnly .appendInPlace }],guard:=none }
def oT8 (pos:String) (b:Nat):Oper:=
 { dst:=none,op:= .store 26 (.tmp (b+7)) (.tmp (b+3)),type:=0,pos:=pos,after:=#[{ on:=7,ground:= .data },{ on:=3,ground:= .data },{ on:=6,ground:= .chain },{ on:=0,ground:= .phase },{ on:=1,ground:= .phase },{ on:=2,ground:= .phase },{ on:=3,ground:= .phase },{ on:=4,ground:= .phase },{ on:=5,ground:= .phase },{ on:=6,ground:= .phase },{ on:=10,ground:= .gcOnly .appendInPlace }],guard:=none }
def oT9 (pos:String) (b s tC fi:Nat):Oper:=
 { dst:=some (b+8),op:= .fieldAddr tC (.tmp s) fi,type:=0,pos:=pos,after:=#[{ on:=0,ground:= .phase },{ on:=1,ground:= .phase },{ on:=2,ground:= .phase },{ on:=3,ground:= .phase },{ on:=4,ground:= .phase },{ on:=5,ground:= .phase },{ on:=6,ground:= .phase },{ on:=7,ground:= .textOnly .appendInPlace },{ on:=8,ground:= .textOnly .appendInPlace }],guard:=none }
def oT10 (pos:String) (b:Nat):Oper:=
 { dst:=none,op:= .store 24 (.tmp (b+8)) (.tmp (b+6)),type:=0,pos:=pos,after:=#[{ on:=9,ground:= .data },{ on:=6,ground:= .data },{ on:=6,ground:= .chain },{ on:=8,ground:= .textOnly .appendInPlace },{ on:=0,ground:= .phase },{ on:=1,ground:= .phase },{ on:=2,ground:= .phase },{ on:=3,ground:= .phase },{ on:=4,ground:= .phase },{ on:=5,ground:= .phase },{ on:=6,ground:= .phase },{ on:=7,ground:= .textOnly .appendInPlace },{ on:=8,ground:= .textOnly .appendInPlace }],guard:=none }
def opsT (pos:String) (b s p tC fi fn:Nat):Array Oper:=
 #[oT0 pos b s tC fi,oT1 pos b,oT2 pos b p,oT3 pos b fn,oT4 pos b,oT5 pos b,oT6 pos b,oT7 pos b,oT8 pos b,oT9 pos b s tC fi,oT10 pos b]
structure CtxT where
 w:World
 bp:Nat
 A:Option Addr
 c:Nat
 l:List Tk
 τ:St
 ob:Nat
 fo:Nat
 B:Nat
 AR:Option Addr
 cap:Nat
 xs:List ET
 R:ET->Prop
namespace CtxT
variable (X : CtxT)
def val (j:Nat):Option Value:=match j with
 | 0=>some (.pointer (some ⟨X.ob,X.fo,none⟩))
 | 1=>some (.slice X.AR X.xs.length X.cap)
 | 2=>some (.pointer (some ⟨X.bp,0,none⟩))
 | 4=>some (.int .i64 (X.xs.length:Int))
 | 9=>some (.pointer (some ⟨X.ob,X.fo,none⟩))
 | _=>none
structure Good:Prop where
 cell:X.w.cell? ⟨X.ob,X.fo,none⟩=some (.slice X.AR X.xs.length X.cap)
 fz:X.w.frozen? ⟨X.ob,X.fo,none⟩=false
 oblt:X.ob < X.w.heap.size
 bpob:X.bp < X.ob
 row:Row X.w X.B 26 9 cT X.AR X.cap X.xs
 obB:X.ob < X.B
 bpB:X.bp < X.B
 Bw:X.B<=X.w.heap.size
 len:X.xs.length<=900000
structure Pre (d:Nat->Bool) (u:Nat->Value) (W:World):Prop where
 up:UpT [X.bp] X.w W
 b3:d 3=false->Below X.w.heap.size X.w W
 a3:d 3=true-> ∃x:ET,u 3=valT x/\PAt W X.bp X.A X.c X.l X.τ/\x.Is W/\X.w.heap.size<=x.lo/\X.R x
 a5:d 5=true-> ∃z0,u 5= .slice (some ⟨z0,0,none⟩) 1 1/\X.w.heap.size<=z0/\z0 < W.heap.size/\ ∀(j:Nat) v,zerosT[j]? =some v->W.cell? ⟨z0,j,none⟩=some v
structure PostX (d:Nat->Bool) (u:Nat->Value) (W:World) (x:ET) (g cp:Nat):Prop where
 u3:u 3=valT x
 u6:u 6= .slice (some ⟨g,0,none⟩) (X.xs.length+1) cp
 u7:d 7=true->u 7= .pointer (some ⟨g,X.xs.length * 9,none⟩)
 par:PAt W X.bp X.A X.c X.l X.τ
 is:x.Is W
 r:X.R x
 lo:X.w.heap.size<=x.lo
 far:g < x.lo\/x.hi<=g
 new:rowT X.AR=some g\/X.w.heap.size<=g
 up:UpT (X.bp::X.ob::(rowT X.AR).toList) X.w W
 row:W.ownsRow X.B 26 9 (.slice (some ⟨g,0,none⟩) (X.xs.length+1) cp) (X.xs.length+1) (X.xs.flatMap cT++if d 8=true then cT x else zerosT)
 cell:W.cell? ⟨X.ob,X.fo,none⟩=some (if d 10=true then .slice (some ⟨g,0,none⟩) (X.xs.length+1) cp else .slice X.AR X.xs.length X.cap)
 rest: ∀j,j≠X.fo->W.cell? ⟨X.ob,j,none⟩=X.w.cell? ⟨X.ob,j,none⟩
 fz: ∀j,W.frozen? ⟨X.ob,j,none⟩=X.w.frozen? ⟨X.ob,j,none⟩
structure Inv (d:Nat->Bool) (u:Nat->Value) (W:World):Prop where
 vals: ∀j,d j=true-> ∀v,X.val j=some v->u j=v
 e6:d 6=true-> ∀k,k < 6->d k=true
 e7:d 7=true->d 6=true
 e8:d 8=true->d 6=true
 e10:d 10=true->d 6=true
 pre:d 6=false->X.Pre d u W
 post:d 6=true-> ∃x g cp,X.PostX d u W x g cp
variable {X : CtxT} {d : Nat -> Bool} {u : Nat -> Value} {W W' : World}
theorem Good.obne (h:X.Good):X.ob≠X.bp:=by have:=h.bpob; omega
theorem Good.start (h:X.Good):X.Inv (fun _=>false) u X.w.drew:=
 ⟨nofun,nofun,nofun,nofun,nofun,fun _=>⟨(UpT.refl _ _).drew,fun _=>Y2.drew,nofun,nofun⟩,nofun⟩
theorem mono9 {d:Nat->Bool} (i:Nat) {k:Nat} (h:d k=true):also d i k=true:=by
 by_cases e:k=i
 {subst e; unfold also; rw[Nat.beq_refl]; rfl}
 {unfold also;have:Nat.beq k i=false:=by cases hb:Nat.beq k i <;> first | rfl | exact absurd (Nat.eq_of_beq_eq_true hb) e
  rw[this]; exact h}
theorem ne9 (d:Nat->Bool) {i j:Nat} (h:j≠i):also d i j=d j:=by
 unfold also;have:Nat.beq j i=false:=by cases hb:Nat.beq j i <;> first | rfl | exact absurd (Nat.eq_of_beq_eq_true hb) h
 rw[this]; rfl
theorem self9 (d:Nat->Bool) (i:Nat):also d i i=true:=by unfold also; rw[Nat.beq_refl]; rfl
section
variable (h : X.Inv d u W) {i : Nat}
include h i
theorem Inv.vals' {v:Value} (hv: ∀v',X.val i=some v'->v=v'): ∀j,also d i j=true-> ∀v',X.val j=some v'->upd u i v j=v':=fun j hj v' hv'=>by
 by_cases hij:j=i
 {subst hij; rw[Z09]; exact hv v' hv'}
 {rw[ne9 d hij] at hj; rw[Z06 u v hij]; exact h.vals j hj v' hv'}
theorem Inv.pure (hi:i=0\/i=1\/i=2\/i=4\/i=9) {v:Value} (hv: ∀v',X.val i=some v'->v=v'):X.Inv (also d i) (upd u i v) W:=by
 have k: ∀j,j=3\/j=5\/j=6\/j=7\/j=8\/j=10->also d i j=d j/\upd u i v j=u j:=fun j hj=>⟨ne9 d (by omega),Z06 u v (by omega)⟩;refine ⟨h.vals' hv, ?_, ?_, ?_, ?_, ?_, ?_⟩
 {rw[(k 6 (by omega)).1]; exact fun h6 k hk=>mono9 i (h.e6 h6 k hk)}
 {rw[(k 7 (by omega)).1,(k 6 (by omega)).1]; exact h.e7}
 {rw[(k 8 (by omega)).1,(k 6 (by omega)).1]; exact h.e8}
 {rw[(k 10 (by omega)).1,(k 6 (by omega)).1]; exact h.e10}
 {rw[(k 6 (by omega)).1];intro h6;obtain ⟨a,b,c3,c5⟩:=h.pre h6;refine ⟨a, ?_, ?_, ?_⟩
  {rw[(k 3 (by omega)).1]; exact b}
  {rw[(k 3 (by omega)).1,(k 3 (by omega)).2]; exact c3}
  {rw[(k 5 (by omega)).1,(k 5 (by omega)).2]; exact c5}}
 {rw[(k 6 (by omega)).1];intro h6;obtain ⟨x,g,cp,p⟩:=h.post h6;refine ⟨x,g,cp, ?_, ?_, ?_,p.par,p.is,p.r,p.lo,p.far,p.new,p.up, ?_, ?_,p.rest,p.fz⟩
  {rw[(k 3 (by omega)).2]; exact p.u3}
  {rw[(k 6 (by omega)).2]; exact p.u6}
  {rw[(k 7 (by omega)).1,(k 7 (by omega)).2]; exact p.u7}
  {rw[(k 8 (by omega)).1]; exact p.row}
  {rw[(k 10 (by omega)).1]; exact p.cell}}
theorem Inv.early (hi:i < 6) (hd:d i=false):d 6=false:=by
 cases h6:d 6 with
 | false=>rfl
 | true=>have:=h.e6 h6 i hi; rw[hd] at this; cases this
theorem Inv.first (hi:i < 6) (hd:d i=false):UpT [X.bp] X.w W:=(h.pre (h.early hi hd)).up
end
theorem Inv.cell (h:X.Inv d u W) (hX:X.Good) {i:Nat} (hi:i < 6) (hd:d i=false):W.cell? ⟨X.ob,X.fo,none⟩=some (.slice X.AR X.xs.length X.cap)/\X.ob < W.heap.size:=by
 have hu:=h.first hi hd;exact ⟨((hu.same hX.oblt (by simp[hX.obne])).1 _).trans hX.cell,Nat.lt_of_lt_of_le hX.oblt hu.size⟩
section
variable (h : X.Inv d u W)
include h
theorem Inv.s3 (hd:d 3=false) {x:ET} (hp:PAt W' X.bp X.A X.c X.l X.τ) (hu:UpT [X.bp] W W') (hx:x.Is W') (hlo:W.heap.size<=x.lo) (hr:X.R x) (hX:X.Good):X.Inv (also d 3) (upd u 3 (valT x)) W':=by
 have h6:=h.early (by omega) hd;obtain ⟨a,b,c3,c5⟩:=h.pre h6;have k: ∀j,j≠3->also d 3 j=d j/\upd u 3 (valT x) j=u j:=fun j hj=>⟨ne9 d hj,Z06 u _ hj⟩;refine ⟨h.vals' (by intro v' hv'; cases hv'), ?_, ?_, ?_, ?_, ?_, ?_⟩
 {rw[(k 6 (by omega)).1,h6]; intro e; cases e}
 {rw[(k 7 (by omega)).1,(k 6 (by omega)).1]; exact h.e7}
 {rw[(k 8 (by omega)).1,(k 6 (by omega)).1]; exact h.e8}
 {rw[(k 10 (by omega)).1,(k 6 (by omega)).1]; exact h.e10}
 {intro _;have hsz:=a.size;refine ⟨a.trans hu, ?_,fun _=>⟨x,Z09 _ _ _,hp,hx,by omega,hr⟩, ?_⟩
  {rw[self9]; intro e; cases e}
  {rw[(k 5 (by omega)).1,(k 5 (by omega)).2];intro h5;obtain ⟨z0,e1,e2,e3,e4⟩:=c5 h5;have hb:=hX.bpB;have hw:=hX.Bw;have hs:=hu.same e3 (by simp; omega);exact ⟨z0,e1,e2,Nat.lt_of_lt_of_le e3 hu.size,fun j v hv=>(hs.1 j).trans (e4 j v hv)⟩}}
 {rw[(k 6 (by omega)).1,h6]; intro e; cases e}
theorem Inv.s5 (hd:d 5=false) (hX:X.Good) (t:TypeId):X.Inv (also d 5) (upd u 5 (.slice (some ⟨W.heap.size,0,none⟩) 1 1)) (W.alloc (.cells Ya t)):=by
 have h6:=h.early (by omega) hd;obtain ⟨a,b,c3,c5⟩:=h.pre h6;have k: ∀j,j≠5->also d 5 j=d j/\upd u 5 (.slice (some ⟨W.heap.size,0,none⟩) 1 1) j=u j:=fun j hj=>⟨ne9 d hj,Z06 u _ hj⟩;have hb:=Z01 W (.cells Ya t);refine ⟨h.vals' (by intro v' hv'; cases hv'), ?_, ?_, ?_, ?_, ?_, ?_⟩
 {rw[(k 6 (by omega)).1,h6]; intro e; cases e}
 {rw[(k 7 (by omega)).1,(k 6 (by omega)).1]; exact h.e7}
 {rw[(k 8 (by omega)).1,(k 6 (by omega)).1]; exact h.e8}
 {rw[(k 10 (by omega)).1,(k 6 (by omega)).1]; exact h.e10}
 {intro _;refine ⟨a.below hb, ?_, ?_,fun _=>⟨W.heap.size,Z09 _ _ _,a.size,by simp,fun j v hv=> ?_⟩⟩
  {rw[(k 3 (by omega)).1]; exact fun e=>Z00 (b e) hb}
  {rw[(k 3 (by omega)).1,(k 3 (by omega)).2];intro h3;obtain ⟨x,e1,e2,e3,e4,e5⟩:=c3 h3;exact ⟨x,e1,e2.below hb,New.below e3 hb,e4,e5⟩}
  {rw[World.cell?_alloc_at _ _ _ _ rfl];simpa[zerosT] using hv}}
 {rw[(k 6 (by omega)).1,h6]; intro e; cases e}
theorem Inv.s6 (hd:d 6=false) (hw: ∀k,k < 6->d k=true) {g cp:Nat} (hX:X.Good) (hrow:W'.ownsRow X.B 26 9 (.slice (some ⟨g,0,none⟩) (X.xs.length+1) cp) (X.xs.length+1) (X.xs.flatMap cT++zerosT))
 (hg:W.grownBy W' (rowT X.AR)) (hat:rowT X.AR=some g\/g=W.heap.size):X.Inv (also d 6) (upd u 6 (.slice (some ⟨g,0,none⟩) (X.xs.length+1) cp)) W':=by
 obtain ⟨a,b,c3,c5⟩:=h.pre hd;obtain ⟨x,e1,e2,e3,e4,e5⟩:=c3 (hw 3 (by omega));have k: ∀j,j≠6->also d 6 j=d j/\upd u 6 (.slice (some ⟨g,0,none⟩) (X.xs.length+1) cp) j=u j:=fun j hj=>⟨ne9 d hj,Z06 u _ hj⟩;have d7:d 7=false:=by cases e:d 7 with | false=>rfl | true=>have:=h.e7 e; rw[hd] at this; cases this
 have d8:d 8=false:=by cases e:d 8 with | false=>rfl | true=>have:=h.e8 e; rw[hd] at this; cases this
 have d10:d 10=false:=by cases e:d 10 with | false=>rfl | true=>have:=h.e10 e; rw[hd] at this; cases this
 have hsz:=a.size;have hRB: ∀k,rowT X.AR=some k->X.B<=k/\k < X.w.heap.size:=fun k hk=>hX.row.lt k hk;have hBw:=hX.Bw;have u1:UpT (rowT X.AR).toList W W':=⟨hg.os,hg.tape,hg.output,hg.size,fun x h1 h2=>hg.block x h1 (fun e=>h2 (by rw[<-e]; simp))⟩;have ho:SameT X.w W' X.ob:=(a.same hX.oblt (by simp[hX.obne])).trans (u1.same (Nat.lt_of_lt_of_le hX.oblt hsz) (by
  intro hx;have h1:rowT X.AR=some X.ob:=by simpa using hx
  have:=hRB _ h1; have:=hX.obB; omega))
 refine ⟨h.vals' (by intro v' hv'; cases hv'),fun _ j hj=>mono9 6 (hw j hj), ?_, ?_, ?_, ?_, ?_⟩
 {intro _; exact self9 _ _}
 {intro _; exact self9 _ _}
 {intro _; exact self9 _ _}
 {rw[self9]; intro e; cases e}
 {intro _;refine ⟨x,g,cp, ?_,Z09 _ _ _, ?_,e2.keep u1 (fun k hk=> ?_),New.grown e3 hg (fun k hk=>Or.inl ?_),e5,e4, ?_, ?_, ?_, ?_, ?_,fun j hj=>ho.1 j,fun j=>ho.2 j⟩
  {rw[(k 3 (by omega)).2]; exact e1}
  {rw[(k 7 (by omega)).1,d7]; intro e; cases e}
  {have h1:rowT X.AR=some k:=by simpa using hk
   have:=hRB _ h1; have:=hX.bpB; omega}
  {have:=hRB _ hk; omega}
  {rcases hat with h1 | h1
   {left; have:=hRB _ h1; omega}
   {right; have:=e3.hi_; omega}}
  {rcases hat with h1 | h1
   {exact Or.inl h1}
   {exact Or.inr (by omega)}}
  {exact (a.mono (fun y hy _=>by simp at hy; simp[hy])).trans (u1.mono (fun y hy _=>by simp at hy; simp[hy]))}
  {rw[(k 8 (by omega)).1,d8]; simpa using hrow}
  {rw[(k 10 (by omega)).1,d10]; exact (ho.1 _).trans hX.cell}}
theorem Inv.s7 (h6:d 6=true) {v:Value} (hv: ∀x g cp,X.PostX d u W x g cp->v= .pointer (some ⟨g,X.xs.length * 9,none⟩)):X.Inv (also d 7) (upd u 7 v) W:=by
 have k: ∀j,j≠7->also d 7 j=d j/\upd u 7 v j=u j:=fun j hj=>⟨ne9 d hj,Z06 u _ hj⟩;refine ⟨h.vals' (by intro v' hv'; cases hv'), ?_, ?_, ?_, ?_, ?_, ?_⟩
 {rw[(k 6 (by omega)).1]; exact fun h6 j hj=>mono9 7 (h.e6 h6 j hj)}
 {rw[(k 6 (by omega)).1]; exact fun _=>h6}
 {rw[(k 8 (by omega)).1,(k 6 (by omega)).1]; exact h.e8}
 {rw[(k 10 (by omega)).1,(k 6 (by omega)).1]; exact h.e10}
 {rw[(k 6 (by omega)).1,h6]; intro e; cases e}
 {intro _;obtain ⟨x,g,cp,p⟩:=h.post h6;refine ⟨x,g,cp, ?_, ?_,fun _=> ?_,p.par,p.is,p.r,p.lo,p.far,p.new,p.up, ?_, ?_,p.rest,p.fz⟩
  {rw[(k 3 (by omega)).2]; exact p.u3}
  {rw[(k 6 (by omega)).2]; exact p.u6}
  {rw[Z09]; exact hv x g cp p}
  {rw[(k 8 (by omega)).1]; exact p.row}
  {rw[(k 10 (by omega)).1]; exact p.cell}}
end
theorem grown_trans9 {a b c:World} {r:Option Nat} (h:a.grownBy b r) (k:b.grownBy c r):a.grownBy c r:=
 ⟨k.os.trans h.os,k.tape.trans h.tape,k.output.trans h.output,Nat.le_trans h.size k.size,fun i hi hn=>(k.block i (Nat.lt_of_lt_of_le hi h.size) hn).trans (h.block i hi hn)⟩
def putT (W:World) (g i:Nat) (x:ET):World:=(((((((((W).setCell ⟨g,i+0,none⟩ (.int .i64 x.t.kind)).setCell ⟨g,i+1,none⟩ (.string ⟨x.t.of_.toArray⟩)).setCell ⟨g,i+2,none⟩ (.string ⟨x.t.name.toArray⟩)).setCell ⟨g,i+3,none⟩ (.int .i64 x.t.n)).setCell ⟨g,i+4,none⟩ (.slice x.q.A x.t.names.length x.q.c)).setCell ⟨g,i+5,none⟩ (.slice x.q.V x.t.vars.length x.q.e)).setCell ⟨g,i+6,none⟩ (.slice x.q.S x.t.shapes.length x.q.s)).setCell ⟨g,i+7,none⟩ (.slice x.q.P x.t.parts.length x.q.d)).setCell ⟨g,i+8,none⟩ (.int .i64 x.t.at_)
section
variable (x : ET) {g cp n B : Nat} {ys : List Value} (hn : ys.length = n * 9) (h : W.ownsRow B 26 9 (.slice (some ⟨g, 0, none⟩) (n + 1) cp) (n + 1) (ys ++ zerosT))
include x g cp n B ys hn h
theorem put_row:
 (putT W g (n * 9) x).ownsRow B 26 9 (.slice (some ⟨g,0,none⟩) (n+1) cp) (n+1) (ys++cT x)/\W.grownBy (putT W g (n * 9) x) (some g):=by
 obtain ⟨h0,g0⟩:=World.ownsRow.stored h (n * 9+0) (.int .i64 x.t.kind);obtain ⟨h1,g1⟩:=World.ownsRow.stored h0 (n * 9+1) (.string ⟨x.t.of_.toArray⟩);obtain ⟨h2,g2⟩:=World.ownsRow.stored h1 (n * 9+2) (.string ⟨x.t.name.toArray⟩);obtain ⟨h3,g3⟩:=World.ownsRow.stored h2 (n * 9+3) (.int .i64 x.t.n);obtain ⟨h4,g4⟩:=World.ownsRow.stored h3 (n * 9+4) (.slice x.q.A x.t.names.length x.q.c);obtain ⟨h5,g5⟩:=World.ownsRow.stored h4 (n * 9+5) (.slice x.q.V x.t.vars.length x.q.e);obtain ⟨h6,g6⟩:=World.ownsRow.stored h5 (n * 9+6) (.slice x.q.S x.t.shapes.length x.q.s);obtain ⟨h7,g7⟩:=World.ownsRow.stored h6 (n * 9+7) (.slice x.q.P x.t.parts.length x.q.d);obtain ⟨h8,g8⟩:=World.ownsRow.stored h7 (n * 9+8) (.int .i64 x.t.at_);refine ⟨?_,(grown_trans9 (grown_trans9 (grown_trans9 (grown_trans9 (grown_trans9 (grown_trans9 (grown_trans9 (grown_trans9 g0 g1) g2) g3) g4) g5) g6) g7) g8)⟩;have hs: ∀(zs:List Value) (k:Nat) (v:Value),(ys++zs).set (n * 9+k) v=ys++zs.set k v:=fun zs k v=>by rw[<-hn,List.set_append_right _ _ (by omega),Nat.add_sub_cancel_left]
 rw[hs,hs,hs,hs,hs,hs,hs,hs,hs] at h8;exact h8
theorem put_zero (k:Nat) (hk:k < 9): ∃v,W.cell? ⟨g,n * 9+k,none⟩=some v/\W.frozen? ⟨g,n * 9+k,none⟩=false:=by
 have h1:=h.cellAt (n * 9+k) (by rw[Nat.add_mul]; omega);rw[List.getElem?_append_right (by omega),hn,Nat.add_sub_cancel_left] at h1;have h2:k < zerosT.length:=hk;rw[List.getElem?_eq_getElem h2] at h1;exact ⟨_,h1,h.frozenAt _⟩
end
theorem Inv.s8 (h:X.Inv d u W) (hd:d 8=false) (h6:d 6=true) (hX:X.Good) {x:ET} {g cp:Nat} (p:X.PostX d u W x g cp) (v:Value):X.Inv (also d 8) (upd u 8 v) (putT W g (X.xs.length * 9) x):=by
 have k: ∀j,j≠8->also d 8 j=d j/\upd u 8 v j=u j:=fun j hj=>⟨ne9 d hj,Z06 u _ hj⟩;have hrow:=p.row;rw[hd] at hrow;simp only[Bool.false_eq_true,if_false] at hrow;obtain ⟨hr1,hg1⟩:=put_row x (by rw[Z1V Z3E]) hrow;have hgB:X.B<=g/\g < W.heap.size:=hrow.lt g rfl;have hbB:=hX.bpB;have hoB:=hX.obB;have hlo:=p.lo;have hBw:=hX.Bw;have hos:SameT W (putT W g (X.xs.length * 9) x) X.ob:=⟨fun j=>World.cell?_of_block (w:=W) (hg1.block X.ob (Nat.lt_of_lt_of_le hX.oblt p.up.size) (fun e=>by have:=Option.some.inj e; omega)),fun j=>World.frozen?_of_block (w:=W) (hg1.block X.ob (Nat.lt_of_lt_of_le hX.oblt p.up.size) (fun e=>by have:=Option.some.inj e; omega))⟩;refine ⟨h.vals' (by intro v' hv'; cases hv'), ?_, ?_, ?_, ?_, ?_, ?_⟩
 {rw[(k 6 (by omega)).1]; exact fun h6 j hj=>mono9 8 (h.e6 h6 j hj)}
 {rw[(k 7 (by omega)).1,(k 6 (by omega)).1]; exact h.e7}
 {rw[(k 6 (by omega)).1]; exact fun _=>h6}
 {rw[(k 10 (by omega)).1,(k 6 (by omega)).1]; exact h.e10}
 {rw[(k 6 (by omega)).1,h6]; intro e; cases e}
 {intro _;refine ⟨x,g,cp, ?_, ?_, ?_, ?_,New.grown p.is hg1 (fun j hj=> ?_),p.r,p.lo,p.far,p.new, ?_, ?_, ?_,fun j hj=>(hos.1 j).trans (p.rest j hj),fun j=>(hos.2 j).trans (p.fz j)⟩
  {rw[(k 3 (by omega)).2]; exact p.u3}
  {rw[(k 6 (by omega)).2]; exact p.u6}
  {rw[(k 7 (by omega)).1,(k 7 (by omega)).2]; exact p.u7}
  {refine p.par.keep (F:= [g]) ⟨hg1.os,hg1.tape,hg1.output,hg1.size,fun y h1 h2=>hg1.block y h1 (fun e=>h2 (by rw[Option.some.inj e]; simp))⟩ (by simp; omega)}
  {obtain rfl:=Option.some.inj hj; exact p.far}
  {have u1:UpT [g] W (putT W g (X.xs.length * 9) x):=⟨hg1.os,hg1.tape,hg1.output,hg1.size,fun y h1 h2=>hg1.block y h1 (fun e=>h2 (by rw[Option.some.inj e]; simp))⟩;refine ⟨u1.os.trans p.up.os,u1.tape.trans p.up.tape,u1.output.trans p.up.output,Nat.le_trans p.up.size u1.size,fun y h1 h2=> ?_⟩;rw[u1.block y (Nat.lt_of_lt_of_le h1 p.up.size) (fun e=> ?_)]
   {exact p.up.block y h1 h2}
   {obtain rfl:y=g:=by simpa using e
    rcases p.new with h3 | h3
    {exact h2 (by rw[h3]; simp)}
    {omega}}}
  {rw[self9]; simpa using hr1}
  {rw[(k 10 (by omega)).1]; exact (hos.1 _).trans p.cell}}
theorem Inv.s10 (h:X.Inv d u W) (hd:d 10=false) (h6:d 6=true) (hX:X.Good) {x:ET} {g cp:Nat} (p:X.PostX d u W x g cp) (v:Value):X.Inv (also d 10) (upd u 10 v) (W.setCell ⟨X.ob,X.fo,none⟩ (.slice (some ⟨g,0,none⟩) (X.xs.length+1) cp)):=by
 have k: ∀j,j≠10->also d 10 j=d j/\upd u 10 v j=u j:=fun j hj=>⟨ne9 d hj,Z06 u _ hj⟩;have hgB:X.B<=g/\g < W.heap.size:=p.row.lt g rfl;have hbB:=hX.bpB;have hoB:=hX.obB;have hlo:=p.lo;have hBw:=hX.Bw;have hne:=hX.obne;have hne2:=hX.bpob;have u1:UpT [X.ob] W (W.setCell ⟨X.ob,X.fo,none⟩ (.slice (some ⟨g,0,none⟩) (X.xs.length+1) cp)):=(UpT.refl _ _).set _ (Or.inr (by simp)) _;refine ⟨h.vals' (by intro v' hv'; cases hv'), ?_, ?_, ?_, ?_, ?_, ?_⟩
 {rw[(k 6 (by omega)).1]; exact fun h6 j hj=>mono9 10 (h.e6 h6 j hj)}
 {rw[(k 7 (by omega)).1,(k 6 (by omega)).1]; exact h.e7}
 {rw[(k 8 (by omega)).1,(k 6 (by omega)).1]; exact h.e8}
 {rw[(k 6 (by omega)).1]; exact fun _=>h6}
 {rw[(k 6 (by omega)).1,h6]; intro e; cases e}
 {intro _;have hp1:PAt (W.setCell ⟨X.ob,X.fo,none⟩ (.slice (some ⟨g,0,none⟩) (X.xs.length+1) cp)) X.bp X.A X.c X.l X.τ:=by
   have hs: ∀b,b≠X.ob->SameT W (W.setCell ⟨X.ob,X.fo,none⟩ (.slice (some ⟨g,0,none⟩) (X.xs.length+1) cp)) b:=fun b hb=>Z1y _ _ _ (fun e=>hb (by simpa using e.symm));have hb:=hs X.bp (fun e=>hne e.symm);exact ⟨Nat.lt_of_lt_of_le p.par.lt u1.size,(hb.1 0).trans p.par.c0,(hb.1 1).trans p.par.c1,(hb.1 2).trans p.par.c2,(hb.1 3).trans p.par.c3,fun k=>(hb.2 k).trans (p.par.fz k),p.par.tk.same (fun b hb2=>hs b (by omega)),p.par.gs.up u1 (by simp; omega),p.par.tx⟩
  refine ⟨x,g,cp, ?_, ?_, ?_,hp1,New.up p.is u1 (by simp; omega),p.r,p.lo,p.far,p.new, ?_, ?_, ?_,fun j hj=> ?_,fun j=> ?_⟩
  {rw[(k 3 (by omega)).2]; exact p.u3}
  {rw[(k 6 (by omega)).2]; exact p.u6}
  {rw[(k 7 (by omega)).1,(k 7 (by omega)).2]; exact p.u7}
  {exact p.up.trans (u1.mono (fun y hy _=>by simp at hy; simp[hy]))}
  {rw[(k 8 (by omega)).1]; exact Z1n p.row (by intro e; have:=Option.some.inj e; simp at this; omega) _}
  {rw[self9,if_pos rfl]; exact World.cell?_setCell_same _ _ _ p.cell}
  {rw[World.cell?_setCell_other _ _ _ _ (fun e=>hj (by have:=congrArg Addr.off e; simpa using this.symm))]; exact p.rest j hj}
  {rw[World.frozen?_setCell]; exact p.fz j}}
end CtxT
structure FrameT (pos:String) (b s p:Nat) (tC fi fn:Nat) (A: (Nat->Value)->Act) (vs vp:Value):Prop where
 put: ∀(i:Nat) o,(opsT pos b s p tC fi fn)[i]? =some o-> ∀u v,(A u).put o.dst v=A (upd u i v)
 es: ∀u,(A u).eval (.tmp s)=vs
 ep: ∀u,(A u).eval (.tmp p)=vp
 e0: ∀u,(A u).eval (.tmp b)=u 0
 e1: ∀u,(A u).eval (.tmp (b+1))=u 1
 e2: ∀u,(A u).eval (.tmp (b+2))=u 2
 e3: ∀u,(A u).eval (.tmp (b+3))=u 3
 e4: ∀u,(A u).eval (.tmp (b+4))=u 4
 e5: ∀u,(A u).eval (.tmp (b+5))=u 5
 e6: ∀u,(A u).eval (.tmp (b+6))=u 6
 e7: ∀u,(A u).eval (.tmp (b+7))=u 7
 e9: ∀u,(A u).eval (.tmp (b+8))=u 9
theorem regT {Q:Exit->Act->World->Prop} {id:Nat} (pos:String) (b s p:Nat) (tC fi fn:Nat) (X:CtxT) (hX:X.Good) (pb:Nat) (hpb:X.w.cell? ⟨pb,0,none⟩=some (.pointer (some ⟨X.bp,0,none⟩))) (hpl:pb < X.w.heap.size) (hpn:pb≠X.bp)
 (A: (Nat->Value)->Act) (u0:Nat->Value) (hA:FrameT pos b s p tC fi fn A (.pointer (some ⟨X.ob,0,none⟩)) (.pointer (some ⟨pb,0,none⟩)))
 (hfa: ∀W,(Instr.fieldAt tC (.pointer (some ⟨X.ob,0,none⟩)) fi).run Tryz.prog W= .ok (.pointer (some ⟨X.ob,X.fo,none⟩)) W)
 (hen: ∀args W,(callFunc fn args).run Tryz.prog W= .ok (.enter fn args) W)
 (hcall: ∀W,Below X.w.heap.size X.w W->Calls Tryz.prog fn #[.pointer (some ⟨X.bp,0,none⟩)] W fun e W'=> ∃x:ET,e= .returned (valT x)/\PAt W' X.bp X.A X.c X.l X.τ/\UpT [X.bp] W W'/\x.Is W'/\W.heap.size<=x.lo/\X.R x)
 (hQ: ∀u W x g cp,X.PostX (fun _=>true) u W x g cp->Q .normal (A u) W):
 (Code.region id (opsT pos b s p tC fi fn) true).wp Tryz.prog Q (A u0) X.w:=by
 obtain ⟨i0,hif,hz0,hz1,hz2⟩:=Z1e Z8K;have es:=hA.es;have ep:=hA.ep;have hcl:Tryz.prog.cellsOf 24=1:=by kernel_rfl
 have hcp:Tryz.prog.cellsOf 59=1:=by kernel_rfl
 refine Z2c (rs:= [0,1,2,3,4,5,6,7,8,9,10]) A u0 X.Inv (by kernel_rfl) (by kernel_rfl) (by kernel_rfl) hX.start ?_ ?_;refine StepsInv.cons (oT0 pos b s tC fi) rfl (fun d u W K' hI hd hw hK=> ?_) ?_
 {refine Z02 (v:= .pointer (some ⟨X.ob,X.fo,none⟩)) (W':=W) rfl ?_ (by rw[hA.put 0 (oT0 pos b s tC fi) rfl u _]; exact hK.out _ _ (hI.pure (by decide) (fun v' h=>by cases h; rfl)));simp only[execOp,oT0,es u,hfa,Sem.run_bind,Result.andThen_ok,Sem.run_pure]}
 refine StepsInv.cons (oT1 pos b) rfl (fun d u W K' hI hd hw hK=> ?_) ?_
 {have e0:=hA.e0 u;rw[hI.vals 0 (hw 0 (by kernel_rfl)) _ rfl] at e0;obtain ⟨hc,hlt⟩:=hI.cell hX (by decide) hd;refine Z02 (v:= .slice X.AR X.xs.length X.cap) (W':=W) rfl ?_ (by rw[hA.put 1 (oT1 pos b) rfl u _]; exact hK.out _ _ (hI.pure (by decide) (fun v' h=>by cases h; rfl)));simp only[execOp,oT1,e0,Sem.run_bind,Result.andThen_ok,Sem.run_pure];go_simp}
 refine StepsInv.cons (oT2 pos b p) rfl (fun d u W K' hI hd hw hK=> ?_) ?_
 {obtain ⟨hc,hlt⟩:W.cell? ⟨pb,0,none⟩=some (.pointer (some ⟨X.bp,0,none⟩))/\pb < W.heap.size:=⟨(((hI.first (by decide) hd).same hpl (by simp[hpn])).1 _).trans hpb,Nat.lt_of_lt_of_le hpl (hI.first (by decide) hd).size⟩;refine Z02 (v:= .pointer (some ⟨X.bp,0,none⟩)) (W':=W) rfl ?_ (by rw[hA.put 2 (oT2 pos b p) rfl u _]; exact hK.out _ _ (hI.pure (by decide) (fun v' h=>by cases h; rfl)));simp only[execOp,oT2,ep u,Sem.run_bind,Result.andThen_ok,Sem.run_pure];go_simp}
 refine StepsInv.cons (oT3 pos b fn) rfl (fun d u W K' hI hd hw hK=> ?_) ?_
 {have e2:=hA.e2 u;rw[hI.vals 2 (hw 2 (by kernel_rfl)) _ rfl] at e2;have hbl:=(hI.pre (hI.early (by decide) hd)).b3 hd;refine Z0M (f:=fn) (args:=#[.pointer (some ⟨X.bp,0,none⟩)]) (W':=W) rfl ?_ ((hcall W hbl).mono ?_)
  {simp only[execOp,oT3,e2,Sem.run_bind,Result.andThen_ok,Sem.run_pure,resolve,invoke,List.map_toArray,List.map_cons,List.map_nil];have ef: (A u).eval (.func fn)= .func (.func fn) #[] #[]:=rfl;rw[ef];go_simp}
  {rintro e W' ⟨x,rfl,h1,h2,h3,h4,h5⟩;exact ⟨_,rfl,by rw[hA.put 3 (oT3 pos b fn) rfl u _]; exact hK.out _ _ (hI.s3 hd h1 h2 h3 h4 h5 hX)⟩}}
 refine StepsInv.cons (oT4 pos b) rfl (fun d u W K' hI hd hw hK=> ?_) ?_
 {have e1:=hA.e1 u;rw[hI.vals 1 (hw 1 (by kernel_rfl)) _ rfl] at e1;refine Z02 (v:= .int .i64 (X.xs.length:Int)) (W':=W) rfl ?_ (by rw[hA.put 4 (oT4 pos b) rfl u _]; exact hK.out _ _ (hI.pure (by decide) (fun v' h=>by cases h; rfl)));simp only[execOp,oT4,e1,Sem.run_bind,Result.andThen_ok,Sem.run_pure,resolve,invoke,List.map_toArray,List.map_cons,List.map_nil];go_simp}
 refine StepsInv.cons (oT5 pos b) rfl (fun d u W K' hI hd hw hK=> ?_) ?_
 {refine Z02 (v:= .slice (some ⟨W.heap.size,0,none⟩) 1 1) (W':=W.alloc (.cells Ya 26)) rfl ?_ (by rw[hA.put 5 (oT5 pos b) rfl u _]; exact hK.out _ _ (hI.s5 hd hX _));simp only[execOp,oT5,Sem.run_bind,Result.andThen_ok,Sem.run_pure];go_simp}
 refine StepsInv.cons (oT6 pos b) rfl (fun d u W K' hI hd hw hK=> ?_) ?_
 {have e1:=hA.e1 u;rw[hI.vals 1 (hw 1 (by kernel_rfl)) _ rfl] at e1;obtain ⟨z0,u5,z1,z2,z3⟩:=(hI.pre hd).a5 (hw 5 (by kernel_rfl));have e5:=hA.e5 u;rw[u5] at e5;have hbB:=hX.bpB;have hRW:=hX.row.up (hI.pre hd).up (fun x hx=>by simp at hx; subst hx; intro e; have:=hX.row.lt _ e; omega);have hln:=hX.len;have hBw:=hX.Bw;have hsz:=(hI.pre hd).up.size;refine step_append_lies W rfl _ _ 24 rfl X.B 26 i0 (.agg #[.int .i64 0,.string ByteArray.empty,.string ByteArray.empty,.int .i64 0,.slice none 0 0,.slice none 0 0,.slice none 0 0,.slice none 0 0,.int .i64 0]) 9 152 Tryz.underlying24 hif hz0 hz1 hz2 rfl (by decide) _ _ _ e1 hRW ⟨z0,0,none⟩ 1 1 zerosT e5 rfl (fun j v hv=>by rw[Z0r,Nat.zero_add]; exact z3 j v hv) (by decide) (by decide) (by unfold maxLen; omega) (by omega) (by omega) _ rfl ?_;intro g cp W' hown hg hat hlt;rw[hA.put 6 (oT6 pos b) rfl u _];exact hK.out _ _ (hI.s6 hd (fun k hk=>hw k (by
   rcases k with _ | _ | _ | _ | _ | _ | k
   {kernel_rfl}
   {kernel_rfl}
   {kernel_rfl}
   {kernel_rfl}
   {kernel_rfl}
   {kernel_rfl}
   · omega)) hX hown (by rw[Z0v] at hg; exact hg) (by rw[Z0v] at hat; exact hat))}
 refine StepsInv.cons (oT7 pos b) rfl (fun d u W K' hI hd hw hK=> ?_) ?_
 {have h6:=hw 6 (by kernel_rfl);obtain ⟨x,g,cp,p⟩:=hI.post h6;have e6:=hA.e6 u;rw[p.u6] at e6;have e4:=hA.e4 u;rw[hI.vals 4 (hw 4 (by kernel_rfl)) _ rfl] at e4;refine Z02 (v:= .pointer (some ⟨g,X.xs.length * 9,none⟩)) (W':=W) rfl ?_ (by rw[hA.put 7 (oT7 pos b) rfl u _]; exact hK.out _ _ (hI.s7 h6 (fun x' g' cp' p'=>by
   have:=p.u6.symm.trans p'.u6;simp only[Value.slice.injEq,Option.some.injEq,Addr.mk.injEq,and_true] at this;rw[this.1])))
  simp only[execOp,oT7,e6,e4,Sem.run_bind,Result.andThen_ok,Sem.run_pure];go_simp;intro h; omega}
 refine StepsInv.cons (oT8 pos b) rfl (fun d u W K' hI hd hw hK=> ?_) ?_
 {have h6:=hI.e7 (hw 7 (by kernel_rfl));obtain ⟨x,g,cp,p⟩:=hI.post h6;have e7:=hA.e7 u;rw[p.u7 (hw 7 (by kernel_rfl))] at e7;have e3:=hA.e3 u;rw[p.u3] at e3;have hrow:=p.row;rw[hd] at hrow;simp only[Bool.false_eq_true,if_false] at hrow;have hz:=CtxT.put_zero x (by rw[Z1V Z3E]) hrow;have hgl:=(hrow.lt g rfl).2;have hs:=hI.s8 hd h6 hX p undef;refine Z0B (W':=CtxT.putT W g (X.xs.length * 9) x) rfl ?_ (by rw[hA.put 8 (oT8 pos b) rfl u _]; exact hK.out _ _ hs);simp only[execOp,oT8,e7,e3,Sem.run_bind,Result.andThen_ok,Sem.run_pure,valT];obtain ⟨y0,c0,f0⟩:=hz 0 (by decide);obtain ⟨y1,c1,f1⟩:=hz 1 (by decide);obtain ⟨y2,c2,f2⟩:=hz 2 (by decide);obtain ⟨y3,c3,f3⟩:=hz 3 (by decide);obtain ⟨y4,c4,f4⟩:=hz 4 (by decide);obtain ⟨y5,c5,f5⟩:=hz 5 (by decide);obtain ⟨y6,c6,f6⟩:=hz 6 (by decide);obtain ⟨y7,c7,f7⟩:=hz 7 (by decide);obtain ⟨y8,c8,f8⟩:=hz 8 (by decide);simp only[Nat.add_zero] at c0 f0;go_simp;rfl}
 refine StepsInv.cons (oT9 pos b s tC fi) rfl (fun d u W K' hI hd hw hK=> ?_) ?_
 {refine Z02 (v:= .pointer (some ⟨X.ob,X.fo,none⟩)) (W':=W) rfl ?_ (by rw[hA.put 9 (oT9 pos b s tC fi) rfl u _]; exact hK.out _ _ (hI.pure (by decide) (fun v' h=>by cases h; rfl)));simp only[execOp,oT9,es u,hfa,Sem.run_bind,Result.andThen_ok,Sem.run_pure]}
 refine StepsInv.cons (oT10 pos b) rfl (fun d u W K' hI hd hw hK=> ?_) StepsInv.nil
 {have h6:=hw 6 (by kernel_rfl);obtain ⟨x,g,cp,p⟩:=hI.post h6;have e6:=hA.e6 u;rw[p.u6] at e6;have e9:=hA.e9 u;rw[hI.vals 9 (hw 9 (by kernel_rfl)) _ rfl] at e9;have hc:=p.cell;rw[hd] at hc;simp only[Bool.false_eq_true,if_false] at hc;have hfz:=(p.fz X.fo).trans hX.fz;have hol:=Nat.lt_of_lt_of_le hX.oblt p.up.size;refine Z0B (W':=W.setCell ⟨X.ob,X.fo,none⟩ (.slice (some ⟨g,0,none⟩) (X.xs.length+1) cp)) rfl ?_ (by rw[hA.put 10 (oT10 pos b) rfl u _]; exact hK.out _ _ (hI.s10 hd h6 hX p undef));simp only[execOp,oT10,e9,e6,Sem.run_bind,Result.andThen_ok,Sem.run_pure];go_simp}
 {intro d u W hI hd;obtain ⟨x,g,cp,p⟩:=hI.post (hd 6 (by show 6 < 11; omega));refine hQ u W x g cp ⟨p.u3,p.u6,fun _=>p.u7 (hd 7 (by show 7 < 11; omega)),p.par,p.is,p.r,p.lo,p.far,p.new,p.up, ?_, ?_,p.rest,p.fz⟩
  {have:=p.row; rw[hd 8 (by show 8 < 11; omega)] at this; exact this}
  {have:=p.cell; rw[hd 10 (by show 10 < 11; omega)] at this; exact this}}
end
end Go.Proofs.YtkncdbaoaeeoiaaGreatDoor
namespace Go.Proofs.YtkncdbaoaeeoiaaGreatDoor
section
open Go.RowKit Tms
open Shp (Sh)
open Pso (St)
def pS0 (pos:String) (b s tC fi:Nat):Oper:=
 { dst:=some b,op:= .fieldAddr tC (.tmp s) fi,type:=0,pos:=pos,after:=#[],guard:=none }
def pS1 (pos:String) (b:Nat):Oper:=
 { dst:=some (b+1),op:= .load 23 (.tmp b),type:=23,pos:=pos,after:=#[{ on:=0,ground:= .data }],guard:=none }
def pS2 (pos:String) (b:Nat) (o2:Op):Oper:=
 { dst:=some (b+2),op:=o2,type:=59,pos:=pos,after:=#[],guard:=none }
def pS3 (pos:String) (b fn:Nat):Oper:=
 { dst:=some (b+3),op:= .call { callee:= .value (.func fn),args:=#[.tmp (b+2)],argTypes:=#[59] },type:=43,pos:=pos,after:=#[{ on:=2,ground:= .data }],guard:=none }
def pS4 (pos:String) (b:Nat):Oper:=
 { dst:=some (b+4),op:= .buildSlice 23 1 #[(0,.tmp (b+3))],type:=23,pos:=pos,after:=#[{ on:=3,ground:= .data }],guard:=none }
def pS5 (pos:String) (b:Nat):Oper:=
 { dst:=some (b+5),op:= .call { callee:= .builtin .append,args:=#[.tmp (b+1),.tmp (b+4)],argTypes:=#[23,23] },type:=23,pos:=pos,after:=#[{ on:=1,ground:= .data },{ on:=4,ground:= .data },{ on:=3,ground:= .chain }],guard:=none }
def pS6 (pos:String) (b s tC fi:Nat):Oper:=
 { dst:=some (b+6),op:= .fieldAddr tC (.tmp s) fi,type:=0,pos:=pos,after:=#[{ on:=0,ground:= .phase },{ on:=1,ground:= .phase },{ on:=2,ground:= .phase },{ on:=3,ground:= .phase },{ on:=4,ground:= .phase },{ on:=5,ground:= .phase }],guard:=none }
def pS7 (pos:String) (b:Nat):Oper:=
 { dst:=none,op:= .store 23 (.tmp (b+6)) (.tmp (b+5)),type:=0,pos:=pos,after:=#[{ on:=6,ground:= .data },{ on:=5,ground:= .data },{ on:=5,ground:= .chain },{ on:=0,ground:= .phase },{ on:=1,ground:= .phase },{ on:=2,ground:= .phase },{ on:=3,ground:= .phase },{ on:=4,ground:= .phase },{ on:=5,ground:= .phase }],guard:=none }
def plnS (pos:String) (b s:Nat) (o2:Op) (tC fi fn:Nat):Array Oper:=
 #[pS0 pos b s tC fi,pS1 pos b,pS2 pos b o2,pS3 pos b fn,pS4 pos b,pS5 pos b,pS6 pos b s tC fi,pS7 pos b]
structure PtxS where
 w:World
 bp:Nat
 A:Option Addr
 c:Nat
 l:List Tk
 τ:St
 ob:Nat
 fo:Nat
 B:Nat
 AR:Option Addr
 cap:Nat
 xs:List ES
 R:ES->Prop
namespace PtxS
variable (X : PtxS)
def val (j:Nat):Option Value:=match j with
 | 0=>some (.pointer (some ⟨X.ob,X.fo,none⟩))
 | 1=>some (.slice X.AR X.xs.length X.cap)
 | 2=>some (.pointer (some ⟨X.bp,0,none⟩))
 | 6=>some (.pointer (some ⟨X.ob,X.fo,none⟩))
 | _=>none
structure Good:Prop where
 cell:X.w.cell? ⟨X.ob,X.fo,none⟩=some (.slice X.AR X.xs.length X.cap)
 fz:X.w.frozen? ⟨X.ob,X.fo,none⟩=false
 oblt:X.ob < X.w.heap.size
 bpob:X.bp < X.ob
 row:Row X.w X.B 43 5 cS X.AR X.cap X.xs
 obB:X.ob < X.B
 bpB:X.bp < X.B
 Bw:X.B<=X.w.heap.size
 len:X.xs.length<=900000
structure Mid (d:Nat->Bool) (u:Nat->Value) (W:World) (x:ES):Prop where
 u3:u 3=valS x
 par:PAt W X.bp X.A X.c X.l X.τ
 up:UpT [X.bp] X.w W
 is:x.Is W
 r:X.R x
 lo:X.w.heap.size<=x.lo
 a4:d 4=true-> ∃z0,u 4= .slice (some ⟨z0,0,none⟩) 1 1/\X.w.heap.size<=z0/\z0 < W.heap.size/\ ∀(j:Nat) v,(cS x)[j]? =some v->W.cell? ⟨z0,j,none⟩=some v
structure Post (d:Nat->Bool) (u:Nat->Value) (W:World) (x:ES) (g cp:Nat):Prop where
 u5:u 5= .slice (some ⟨g,0,none⟩) (X.xs.length+1) cp
 par:PAt W X.bp X.A X.c X.l X.τ
 is:x.Is W
 r:X.R x
 lo:X.w.heap.size<=x.lo
 far:g < x.lo\/x.hi<=g
 new:rowT X.AR=some g\/X.w.heap.size<=g
 up:UpT (X.bp::X.ob::(rowT X.AR).toList) X.w W
 row:W.ownsRow X.B 43 5 (.slice (some ⟨g,0,none⟩) (X.xs.length+1) cp) (X.xs.length+1) (X.xs.flatMap cS++cS x)
 cell:W.cell? ⟨X.ob,X.fo,none⟩=some (if d 7=true then .slice (some ⟨g,0,none⟩) (X.xs.length+1) cp else .slice X.AR X.xs.length X.cap)
 rest: ∀j,j≠X.fo->W.cell? ⟨X.ob,j,none⟩=X.w.cell? ⟨X.ob,j,none⟩
 fz: ∀j,W.frozen? ⟨X.ob,j,none⟩=X.w.frozen? ⟨X.ob,j,none⟩
structure Inv (d:Nat->Bool) (u:Nat->Value) (W:World):Prop where
 vals: ∀j,d j=true-> ∀v,X.val j=some v->u j=v
 e3:d 3=true->d 2=true
 e4:d 4=true->d 3=true
 e5:d 5=true->d 4=true/\d 1=true
 e7:d 7=true->d 5=true
 pre:d 3=false->Below X.w.heap.size X.w W
 mid:d 3=true->d 5=false-> ∃x,X.Mid d u W x
 post:d 5=true-> ∃x g cp,X.Post d u W x g cp
variable {X : PtxS} {d : Nat -> Bool} {u : Nat -> Value} {W W' : World}
theorem Good.start (h:X.Good):X.Inv (fun _=>false) u X.w.drew:=⟨nofun,nofun,nofun,nofun,nofun,fun _=>Y2.drew,nofun,nofun⟩
theorem ne9 (d:Nat->Bool) {i j:Nat} (h:j≠i):also d i j=d j:=by
 unfold also;have:Nat.beq j i=false:=by cases hb:Nat.beq j i <;> first | rfl | exact absurd (Nat.eq_of_beq_eq_true hb) h
 rw[this]; rfl
theorem self9 (d:Nat->Bool) (i:Nat):also d i i=true:=by unfold also; rw[Nat.beq_refl]; rfl
section
variable (h : X.Inv d u W)
include h
theorem Inv.vals' {i:Nat} {v:Value} (hv: ∀v',X.val i=some v'->v=v'): ∀j,also d i j=true-> ∀v',X.val j=some v'->upd u i v j=v':=fun j hj v' hv'=>by
 by_cases hij:j=i
 {subst hij; rw[Z09]; exact hv v' hv'}
 {rw[ne9 d hij] at hj; rw[Z06 u v hij]; exact h.vals j hj v' hv'}
theorem Inv.pure {i:Nat} (hi:i=0\/i=1\/i=2\/i=6) {v:Value} (hv: ∀v',X.val i=some v'->v=v'):X.Inv (also d i) (upd u i v) W:=by
 have k: ∀j,j=3\/j=4\/j=5\/j=7->also d i j=d j/\upd u i v j=u j:=fun j hj=>⟨ne9 d (by omega),Z06 u v (by omega)⟩;refine ⟨h.vals' hv, ?_, ?_, ?_, ?_, ?_, ?_, ?_⟩
 {rw[(k 3 (by omega)).1];intro h3;by_cases e: (2:Nat)=i
  {rw[e]; exact self9 d i}
  {rw[ne9 d e]; exact h.e3 h3}}
 {rw[(k 4 (by omega)).1,(k 3 (by omega)).1]; exact h.e4}
 {rw[(k 5 (by omega)).1,(k 4 (by omega)).1];intro h5;refine ⟨(h.e5 h5).1, ?_⟩;by_cases e: (1:Nat)=i
  {rw[e]; exact self9 d i}
  {rw[ne9 d e]; exact (h.e5 h5).2}}
 {rw[(k 7 (by omega)).1,(k 5 (by omega)).1]; exact h.e7}
 {rw[(k 3 (by omega)).1]; exact h.pre}
 {rw[(k 3 (by omega)).1,(k 5 (by omega)).1];intro h3 h5;obtain ⟨x,p⟩:=h.mid h3 h5;refine ⟨x, ?_,p.par,p.up,p.is,p.r,p.lo, ?_⟩
  {rw[(k 3 (by omega)).2]; exact p.u3}
  {rw[(k 4 (by omega)).1,(k 4 (by omega)).2]; exact p.a4}}
 {rw[(k 5 (by omega)).1];intro h5;obtain ⟨x,g,cp,p⟩:=h.post h5;refine ⟨x,g,cp, ?_,p.par,p.is,p.r,p.lo,p.far,p.new,p.up,p.row, ?_,p.rest,p.fz⟩
  {rw[(k 5 (by omega)).2]; exact p.u5}
  {rw[(k 7 (by omega)).1]; exact p.cell}}
theorem Inv.not5 {i:Nat} (hi:i=1\/i=3\/i=4\/i=5) (hd:d i=false):d 5=false:=by
 cases h5:d 5 with
 | false=>rfl
 | true=>
  have h1:=h.e5 h5;have h2:=h.e4 h1.1;rcases hi with rfl | rfl | rfl | rfl
  {rw[hd] at h1; cases h1.2}
  {rw[hd] at h2; cases h2}
  {rw[hd] at h1; cases h1.1}
  {rw[hd] at h5; cases h5}
theorem Inv.first (h5:d 5=false):UpT [X.bp] X.w W:=by
 cases h3:d 3 with
 | false=>exact Z05 (h.pre h3)
 | true=>obtain ⟨x,p⟩:=h.mid h3 h5; exact p.up
theorem Inv.s3 (hd:d 3=false) (h2:d 2=true) {x:ES} (hp:PAt W' X.bp X.A X.c X.l X.τ) (hu:UpT [X.bp] W W') (hx:x.Is W') (hlo:W.heap.size<=x.lo) (hr:X.R x):X.Inv (also d 3) (upd u 3 (valS x)) W':=by
 have h5:=h.not5 (by omega) hd;have h4:d 4=false:=by cases e:d 4 with | false=>rfl | true=>have:=h.e4 e; rw[hd] at this; cases this
 have k: ∀j,j≠3->also d 3 j=d j/\upd u 3 (valS x) j=u j:=fun j hj=>⟨ne9 d hj,Z06 u _ hj⟩;have hb:=h.pre hd;refine ⟨h.vals' (by intro v' hv'; cases hv'),fun _=>by rw[(k 2 (by omega)).1]; exact h2,fun _=>self9 _ _, ?_, ?_, ?_,fun _ _=>⟨x,Z09 _ _ _,hp,(Z05 hb).trans hu,hx,hr,Nat.le_trans hb.size hlo, ?_⟩, ?_⟩
 {rw[(k 5 (by omega)).1,(k 4 (by omega)).1,(k 1 (by omega)).1]; exact h.e5}
 {rw[(k 7 (by omega)).1,(k 5 (by omega)).1]; exact h.e7}
 {rw[self9]; intro e; cases e}
 {rw[(k 4 (by omega)).1,h4]; intro e; cases e}
 {rw[(k 5 (by omega)).1,h5]; intro e; cases e}
theorem Inv.s4 (hd:d 4=false) (h3:d 3=true) {x:ES} (p:X.Mid d u W x) (t:TypeId):X.Inv (also d 4) (upd u 4 (.slice (some ⟨W.heap.size,0,none⟩) 1 1)) (W.alloc (.cells (Y8 x.t x.q) t)):=by
 have h5:=h.not5 (by omega) hd;have k: ∀j,j≠4->also d 4 j=d j/\upd u 4 (.slice (some ⟨W.heap.size,0,none⟩) 1 1) j=u j:=fun j hj=>⟨ne9 d hj,Z06 u _ hj⟩;have hb:=Z01 W (.cells (Y8 x.t x.q) t);refine ⟨h.vals' (by intro v' hv'; cases hv'),(by rw[(k 3 (by omega)).1,(k 2 (by omega)).1]; exact h.e3), ?_, ?_, ?_, ?_,fun _ _=>⟨x, ?_,p.par.below hb,p.up.below hb,New.below p.is hb,p.r,p.lo,fun _=>⟨W.heap.size,Z09 _ _ _,p.up.size,by simp,fun j v hv=> ?_⟩⟩, ?_⟩
 {rw[(k 3 (by omega)).1]; exact fun _=>h3}
 {rw[(k 5 (by omega)).1,h5]; intro e; cases e}
 {rw[(k 7 (by omega)).1,(k 5 (by omega)).1]; exact h.e7}
 {rw[(k 3 (by omega)).1,h3]; intro e; cases e}
 {rw[(k 3 (by omega)).2]; exact p.u3}
 {rw[World.cell?_alloc_at _ _ _ _ rfl];simpa[cS] using hv}
 {rw[(k 5 (by omega)).1,h5]; intro e; cases e}
theorem Inv.s5 (hd:d 5=false) (h1:d 1=true) (h4:d 4=true) {x:ES} (p:X.Mid d u W x) {g cp:Nat} (hX:X.Good) (hrow:W'.ownsRow X.B 43 5 (.slice (some ⟨g,0,none⟩) (X.xs.length+1) cp) (X.xs.length+1) (X.xs.flatMap cS++cS x))
 (hg:W.grownBy W' (rowT X.AR)) (hat:rowT X.AR=some g\/g=W.heap.size):X.Inv (also d 5) (upd u 5 (.slice (some ⟨g,0,none⟩) (X.xs.length+1) cp)) W':=by
 have k: ∀j,j≠5->also d 5 j=d j/\upd u 5 (.slice (some ⟨g,0,none⟩) (X.xs.length+1) cp) j=u j:=fun j hj=>⟨ne9 d hj,Z06 u _ hj⟩;have d7:d 7=false:=by cases e:d 7 with | false=>rfl | true=>have:=h.e7 e; rw[hd] at this; cases this
 have hsz:=p.up.size;have hRB: ∀k,rowT X.AR=some k->X.B<=k/\k < X.w.heap.size:=fun k hk=>hX.row.lt k hk;have hBw:=hX.Bw;have hbo:=hX.bpob;have u1:UpT (rowT X.AR).toList W W':=⟨hg.os,hg.tape,hg.output,hg.size,fun x h1 h2=>hg.block x h1 (fun e=>h2 (by rw[<-e]; simp))⟩;have ho:SameT X.w W' X.ob:=(p.up.same hX.oblt (by simp; omega)).trans (u1.same (Nat.lt_of_lt_of_le hX.oblt hsz) (by
  intro hx;have h1:rowT X.AR=some X.ob:=by simpa using hx
  have:=hRB _ h1; have:=hX.obB; omega))
 refine ⟨h.vals' (by intro v' hv'; cases hv'),(by rw[(k 3 (by omega)).1,(k 2 (by omega)).1]; exact h.e3), ?_, ?_,fun _=>self9 _ _, ?_, ?_,fun _=>⟨x,g,cp,Z09 _ _ _,p.par.keep u1 (fun k hk=> ?_),New.grown p.is hg (fun k hk=>Or.inl ?_),p.r,p.lo, ?_, ?_, ?_,hrow, ?_,fun j hj=>ho.1 j,fun j=>ho.2 j⟩⟩
 {rw[(k 4 (by omega)).1,(k 3 (by omega)).1]; exact h.e4}
 {rw[(k 4 (by omega)).1,(k 1 (by omega)).1]; exact fun _=>⟨h4,h1⟩}
 {rw[(k 3 (by omega)).1]; intro e; rw[h.e4 h4] at e; cases e}
 {rw[self9]; intro _ e; cases e}
 {have h1:rowT X.AR=some k:=by simpa using hk
  have:=hRB _ h1; have:=hX.bpB; omega}
 {have:=hRB _ hk; have:=p.lo; omega}
 {rcases hat with h1 | h1
  {left; have:=hRB _ h1; have:=p.lo; omega}
  {right; have:=p.is.hi_; omega}}
 {rcases hat with h1 | h1
  {exact Or.inl h1}
  {exact Or.inr (by omega)}}
 {exact (p.up.mono (fun y hy _=>by simp at hy; simp[hy])).trans (u1.mono (fun y hy _=>by simp at hy; simp[hy]))}
 {rw[(k 7 (by omega)).1,d7]; exact (ho.1 _).trans hX.cell}
theorem Inv.s7 (hd:d 7=false) (h5:d 5=true) (hX:X.Good) {x:ES} {g cp:Nat} (p:X.Post d u W x g cp) (v:Value):X.Inv (also d 7) (upd u 7 v) (W.setCell ⟨X.ob,X.fo,none⟩ (.slice (some ⟨g,0,none⟩) (X.xs.length+1) cp)):=by
 have k: ∀j,j≠7->also d 7 j=d j/\upd u 7 v j=u j:=fun j hj=>⟨ne9 d hj,Z06 u _ hj⟩;have hgB:X.B<=g/\g < W.heap.size:=p.row.lt g rfl;have hbB:=hX.bpB;have hoB:=hX.obB;have hlo:=p.lo;have hBw:=hX.Bw;have hne2:=hX.bpob;have u1:UpT [X.ob] W (W.setCell ⟨X.ob,X.fo,none⟩ (.slice (some ⟨g,0,none⟩) (X.xs.length+1) cp)):=(UpT.refl _ _).set _ (Or.inr (by simp)) _;refine ⟨h.vals' (by intro v' hv'; cases hv'),(by rw[(k 3 (by omega)).1,(k 2 (by omega)).1]; exact h.e3), ?_, ?_, ?_, ?_, ?_,fun _=>⟨x,g,cp, ?_,p.par.keep u1 (by simp; omega),New.up p.is u1 (by simp; omega),p.r,p.lo,p.far,p.new, ?_, ?_, ?_,fun j hj=> ?_,fun j=> ?_⟩⟩
 {rw[(k 4 (by omega)).1,(k 3 (by omega)).1]; exact h.e4}
 {rw[(k 5 (by omega)).1,(k 4 (by omega)).1,(k 1 (by omega)).1]; exact h.e5}
 {rw[(k 5 (by omega)).1]; exact fun _=>h5}
 {rw[(k 3 (by omega)).1]; intro e; rw[h.e4 (h.e5 h5).1] at e; cases e}
 {rw[(k 5 (by omega)).1,h5]; intro _ e; cases e}
 {rw[(k 5 (by omega)).2]; exact p.u5}
 {exact p.up.trans (u1.mono (fun y hy _=>by simp at hy; simp[hy]))}
 {exact Z1n p.row (by intro e; have:=Option.some.inj e; simp at this; omega) _}
 {rw[self9,if_pos rfl]; exact World.cell?_setCell_same _ _ _ p.cell}
 {rw[World.cell?_setCell_other _ _ _ _ (fun e=>hj (by have:=congrArg Addr.off e; simpa using this.symm))]; exact p.rest j hj}
 {rw[World.frozen?_setCell]; exact p.fz j}
end
end PtxS
structure PfrS (pos:String) (b s:Nat) (o2:Op) (tC fi fn:Nat) (A: (Nat->Value)->Act) (vs:Value):Prop where
 put: ∀(i:Nat) o,(plnS pos b s o2 tC fi fn)[i]? =some o-> ∀u v,(A u).put o.dst v=A (upd u i v)
 es: ∀u,(A u).eval (.tmp s)=vs
 e0: ∀u,(A u).eval (.tmp b)=u 0
 e1: ∀u,(A u).eval (.tmp (b+1))=u 1
 e2: ∀u,(A u).eval (.tmp (b+2))=u 2
 e3: ∀u,(A u).eval (.tmp (b+3))=u 3
 e4: ∀u,(A u).eval (.tmp (b+4))=u 4
 e5: ∀u,(A u).eval (.tmp (b+5))=u 5
 e6: ∀u,(A u).eval (.tmp (b+6))=u 6
theorem prgS {Q:Exit->Act->World->Prop} {id:Nat} (pos:String) (b s:Nat) (o2:Op) (tC fi fn:Nat) (X:PtxS) (hX:X.Good)
 (A: (Nat->Value)->Act) (u0:Nat->Value) (hA:PfrS pos b s o2 tC fi fn A (.pointer (some ⟨X.ob,0,none⟩)))
 (h2: ∀u W,UpT [X.bp] X.w W->(execOp (A u).eval (pS2 pos b o2)).run Tryz.prog W= .ok (.value (.pointer (some ⟨X.bp,0,none⟩))) W)
 (hfa: ∀W,(Instr.fieldAt tC (.pointer (some ⟨X.ob,0,none⟩)) fi).run Tryz.prog W= .ok (.pointer (some ⟨X.ob,X.fo,none⟩)) W)
 (hen: ∀args W,(callFunc fn args).run Tryz.prog W= .ok (.enter fn args) W)
 (hcall: ∀W,Below X.w.heap.size X.w W->Calls Tryz.prog fn #[.pointer (some ⟨X.bp,0,none⟩)] W fun e W'=> ∃x:ES,e= .returned (valS x)/\PAt W' X.bp X.A X.c X.l X.τ/\UpT [X.bp] W W'/\x.Is W'/\W.heap.size<=x.lo/\X.R x)
 (hQ: ∀u W x g cp,X.Post (fun _=>true) u W x g cp->Q .normal (A u) W):
 (Code.region id (plnS pos b s o2 tC fi fn) true).wp Tryz.prog Q (A u0) X.w:=by
 obtain ⟨i0,hif,hz0,hz1,hz2⟩:=Z1e ZcR;have es:=hA.es;refine Z2c (rs:= [0,1,2,3,4,5,6,7]) A u0 X.Inv (by kernel_rfl) (by kernel_rfl) (by kernel_rfl) hX.start ?_ ?_;refine StepsInv.cons (pS0 pos b s tC fi) rfl (fun d u W K' hI hd hw hK=> ?_) ?_
 {refine Z02 (v:= .pointer (some ⟨X.ob,X.fo,none⟩)) (W':=W) rfl ?_ (by rw[hA.put 0 (pS0 pos b s tC fi) rfl u _]; exact hK.out _ _ (hI.pure (by decide) (fun v' h=>by cases h; rfl)));simp only[execOp,pS0,es u,hfa,Sem.run_bind,Result.andThen_ok,Sem.run_pure]}
 refine StepsInv.cons (pS1 pos b) rfl (fun d u W K' hI hd hw hK=> ?_) ?_
 {have e0:=hA.e0 u;rw[hI.vals 0 (hw 0 (by kernel_rfl)) _ rfl] at e0;have hu:=hI.first (hI.not5 (by omega) hd);have hbo:=hX.bpob;obtain ⟨hc,hlt⟩:W.cell? ⟨X.ob,X.fo,none⟩=some (.slice X.AR X.xs.length X.cap)/\X.ob < W.heap.size:=⟨((hu.same hX.oblt (by simp; omega)).1 _).trans hX.cell,Nat.lt_of_lt_of_le hX.oblt hu.size⟩;have hcl:Tryz.prog.cellsOf 23=1:=by kernel_rfl
  refine Z02 (v:= .slice X.AR X.xs.length X.cap) (W':=W) rfl ?_ (by rw[hA.put 1 (pS1 pos b) rfl u _]; exact hK.out _ _ (hI.pure (by decide) (fun v' h=>by cases h; rfl)));simp only[execOp,pS1,e0,Sem.run_bind,Result.andThen_ok,Sem.run_pure];go_simp}
 refine StepsInv.cons (pS2 pos b o2) rfl (fun d u W K' hI hd hw hK=> ?_) ?_
 {have h3:d 3=false:=by cases e:d 3 with | false=>rfl | true=>have:=hI.e3 e; rw[hd] at this; cases this
  refine Z02 (v:= .pointer (some ⟨X.bp,0,none⟩)) (W':=W) rfl (h2 u W (Z05 (hI.pre h3))) (by rw[hA.put 2 (pS2 pos b o2) rfl u _]; exact hK.out _ _ (hI.pure (by decide) (fun v' h=>by cases h; rfl)))}
 refine StepsInv.cons (pS3 pos b fn) rfl (fun d u W K' hI hd hw hK=> ?_) ?_
 {have e2:=hA.e2 u;rw[hI.vals 2 (hw 2 (by kernel_rfl)) _ rfl] at e2;refine Z0M (f:=fn) (args:=#[.pointer (some ⟨X.bp,0,none⟩)]) (W':=W) rfl ?_ ((hcall W (hI.pre hd)).mono ?_)
  {simp only[execOp,pS3,e2,Sem.run_bind,Result.andThen_ok,Sem.run_pure,resolve,invoke,List.map_toArray,List.map_cons,List.map_nil];have ef: (A u).eval (.func fn)= .func (.func fn) #[] #[]:=rfl;rw[ef];go_simp}
  {rintro e W' ⟨x,rfl,h1,h2,h3,h4,h5⟩;exact ⟨_,rfl,by rw[hA.put 3 (pS3 pos b fn) rfl u _]; exact hK.out _ _ (hI.s3 hd (hw 2 (by kernel_rfl)) h1 h2 h3 h4 h5)⟩}}
 refine StepsInv.cons (pS4 pos b) rfl (fun d u W K' hI hd hw hK=> ?_) ?_
 {have h3:=hw 3 (by kernel_rfl);obtain ⟨x,p⟩:=hI.mid h3 (hI.not5 (by omega) hd);have e3:=hA.e3 u;rw[p.u3] at e3;simp only[valS] at e3;refine Z02 (v:= .slice (some ⟨W.heap.size,0,none⟩) 1 1) (W':=W.alloc (.cells (Y8 x.t x.q) 43)) rfl ?_ (by rw[hA.put 4 (pS4 pos b) rfl u _]; exact hK.out _ _ (hI.s4 hd h3 p _));have e3t: (A u).tmps[b+3]?.getD undef= .agg (Y8 x.t x.q):=by simpa[Act.eval] using e3
  simp only[execOp,pS4,e3,Sem.run_bind,Result.andThen_ok,Sem.run_pure];go_simp}
 refine StepsInv.cons (pS5 pos b) rfl (fun d u W K' hI hd hw hK=> ?_) ?_
 {have h1:=hw 1 (by kernel_rfl);have h4:=hw 4 (by kernel_rfl);obtain ⟨x,p⟩:=hI.mid (hI.e4 h4) hd;have e1:=hA.e1 u;rw[hI.vals 1 h1 _ rfl] at e1;obtain ⟨z0,u4,z1,z2,z3⟩:=p.a4 h4;have e4:=hA.e4 u;rw[u4] at e4;have hbB:=hX.bpB;have hRW:=hX.row.up p.up (fun x hx=>by simp at hx; subst hx; intro e; have:=hX.row.lt _ e; omega);have hln:=hX.len;have hBw:=hX.Bw;have hsz:=p.up.size;refine step_append_lies W rfl _ _ 23 rfl X.B 43 i0 (.agg #[.int .i64 0,.string ByteArray.empty,.string ByteArray.empty,.slice none 0 0,.slice none 0 0]) 5 88 Tryz.underlying23 hif hz0 hz1 hz2 rfl (by decide) _ _ _ e1 hRW ⟨z0,0,none⟩ 1 1 (cS x) e4 rfl (fun j v hv=>by rw[Z0r,Nat.zero_add]; exact z3 j v hv) (ZfZ x) (by decide) (by unfold maxLen; omega) (by omega) (by omega) _ rfl ?_;intro g cp W' hown hg hat hlt;rw[hA.put 5 (pS5 pos b) rfl u _];exact hK.out _ _ (hI.s5 hd h1 h4 p hX hown (by rw[Z0v] at hg; exact hg) (by rw[Z0v] at hat; exact hat))}
 refine StepsInv.cons (pS6 pos b s tC fi) rfl (fun d u W K' hI hd hw hK=> ?_) ?_
 {refine Z02 (v:= .pointer (some ⟨X.ob,X.fo,none⟩)) (W':=W) rfl ?_ (by rw[hA.put 6 (pS6 pos b s tC fi) rfl u _]; exact hK.out _ _ (hI.pure (by decide) (fun v' h=>by cases h; rfl)));simp only[execOp,pS6,es u,hfa,Sem.run_bind,Result.andThen_ok,Sem.run_pure]}
 refine StepsInv.cons (pS7 pos b) rfl (fun d u W K' hI hd hw hK=> ?_) StepsInv.nil
 {have h5:=hw 5 (by kernel_rfl);obtain ⟨x,g,cp,p⟩:=hI.post h5;have e5:=hA.e5 u;rw[p.u5] at e5;have e6:=hA.e6 u;rw[hI.vals 6 (hw 6 (by kernel_rfl)) _ rfl] at e6;have hc:=p.cell;rw[hd] at hc;simp only[Bool.false_eq_true,if_false] at hc;have hfz:=(p.fz X.fo).trans hX.fz;have hol:=Nat.lt_of_lt_of_le hX.oblt p.up.size;have hcl:Tryz.prog.cellsOf 23=1:=by kernel_rfl
  refine Z0B (W':=W.setCell ⟨X.ob,X.fo,none⟩ (.slice (some ⟨g,0,none⟩) (X.xs.length+1) cp)) rfl ?_ (by rw[hA.put 7 (pS7 pos b) rfl u _]; exact hK.out _ _ (hI.s7 hd h5 hX p undef));simp only[execOp,pS7,e6,e5,Sem.run_bind,Result.andThen_ok,Sem.run_pure];go_simp}
 {intro d u W hI hd;obtain ⟨x,g,cp,p⟩:=hI.post (hd 5 (by show 5 < 8; omega));refine hQ u W x g cp ⟨p.u5,p.par,p.is,p.r,p.lo,p.far,p.new,p.up,p.row, ?_,p.rest,p.fz⟩;have:=p.cell; rw[hd 7 (by show 7 < 8; omega)] at this; exact this}
end
end Go.Proofs.YtkncdbaoaeeoiaaGreatDoor
