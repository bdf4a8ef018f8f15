/- What the proofs of ParseAround want, part 17. -/
import Derived.Test.YtkncdbaoaeeoiaaGreatDoorL0n8
set_option linter.unusedVariables false
set_option linter.unusedSimpArgs false
set_option linter.unusedSectionVars false
set_option maxRecDepth 100000
set_option maxHeartbeats 16000000
namespace Go.Proofs.YtkncdbaoaeeoiaaGreatDoor
section
open Go.RowKit Tms
open Shp (Sh)
open Pso (St)
def valT (x:ET):Value:= .agg (Y7 x.t x.q)
def zerosT:List Value:= [.int .i64 0,.string ⟨#[]⟩,.string ⟨#[]⟩,.int .i64 0,.slice none 0 0,.slice none 0 0,.slice none 0 0,.slice none 0 0,.int .i64 0]
theorem Z8K: (Tryz.prog.info? 26).map (fun i=>(i.zero,i.size,i.bytes))=some (some (.agg #[.int .i64 0,.string ByteArray.empty,.string ByteArray.empty,.int .i64 0,.slice none 0 0,.slice none 0 0,.slice none 0 0,.slice none 0 0,.int .i64 0]),9,152):=by kernel_rfl
def oT0 (pos:String) (b s tC fi:Nat):Oper:=
 { dst:=some b,op:= .fieldAddr tC (.tmp s) fi,type:=0,pos:=pos,after:=#[],guard:=none }
def oT1 (pos:String) (b:Nat):Oper:=
 { dst:=some (b+1),op:= .load 24 (.tmp b),type:=24,pos:=pos,after:=#[{ on:=0,ground:= .data }],guard:=none }
def oT2 (pos:String) (b p:Nat):Oper:=
 { dst:=some (b+2),op:= .load 59 (.tmp p),type:=59,pos:=pos,after:=#[],guard:=none }
def oT3 (pos:String) (b fn:Nat):Oper:=
 { dst:=some (b+3),op:= .call { callee:= .value (.func fn),args:=#[.tmp (b+2)],argTypes:=#[59] },type:=26,pos:=pos,after:=#[{ on:=2,ground:= .data }],guard:=none }
def oT4 (pos:String) (b:Nat):Oper:=
 { dst:=some (b+4),op:= .call { callee:= .builtin .len,args:=#[.tmp (b+1)],argTypes:=#[24] },type:=3,pos:=pos,after:=#[{ on:=1,ground:= .data }],guard:=none }
def oT5 (pos:String) (b:Nat):Oper:=
 { dst:=some (b+5),op:= .buildSlice 24 1 #[(0,.const (.agg #[.int .i64 0,.string ⟨#[]⟩,.string ⟨#[]⟩,.int .i64 0,.slice none 0 0,.slice none 0 0,.slice none 0 0,.slice none 0 0,.int .i64 0]))],type:=24,pos:=pos,after:=#[],guard:=none }
def oT6 (pos:String) (b:Nat):Oper:=
 { dst:=some (b+6),op:= .call { callee:= .builtin .append,args:=#[.tmp (b+1),.tmp (b+5)],argTypes:=#[24,24] },type:=24,pos:=pos,after:=#[{ on:=1,ground:= .data },{ on:=5,ground:= .data },{ on:=3,ground:= .chain },{ on:=0,ground:= .phase },{ on:=1,ground:= .phase },{ on:=2,ground:= .phase },{ on:=3,ground:= .phase },{ on:=4,ground:= .phase },{ on:=5,ground:= .phase }],guard:=none }
def oT7 (pos:String) (b:Nat):Oper:=
 { dst:=some (b+7),op:= .indexAddr 24 (.tmp (b+6)) (.tmp (b+4)),type:=0,pos:=pos,after:=#[{ on:=6,ground:= .data },{ on:=4,ground:= .data },{ on:=0,ground:= .phase },{ on:=1,ground:= .phase },{ on:=2,ground:= .phase },{ on:=3,ground:= .phase },{ on:=4,ground:= .phase },{ on:=5,ground:= .phase },{ on:=6,ground:= .phase },{ on:=10,ground:= .gcOnly .appendInPlace }],guard:=none }
def oT8 (pos:String) (b:Nat):Oper:=
 { dst:=none,op:= .store 26 (.tmp (b+7)) (.tmp (b+3)),type:=0,pos:=pos,after:=#[{ on:=7,ground:= .data },{ on:=3,ground:= .data },{ on:=6,ground:= .chain },{ on:=0,ground:= .phase },{ on:=1,ground:= .phase },{ on:=2,ground:= .phase },{ on:=3,ground:= .phase },{ on:=4,ground:= .phase },{ on:=5,ground:= .phase },{ on:=6,ground:= .phase },{ on:=10,ground:= .gcOnly .appendInPlace }],guard:=none }
def oT9 (pos:String) (b s tC fi:Nat):Oper:=
 { dst:=some (b+8),op:= .fieldAddr tC (.tmp s) fi,type:=0,pos:=pos,after:=#[{ on:=0,ground:= .phase },{ on:=1,ground:= .phase },{ on:=2,ground:= .phase },{ on:=3,ground:= .phase },{ on:=4,ground:= .phase },{ on:=5,ground:= .phase },{ on:=6,ground:= .phase },{ on:=7,ground:= .textOnly .appendInPlace },{ on:=8,ground:= .textOnly .appendInPlace }],guard:=none }
def oT10 (pos:String) (b:Nat):Oper:=
 { dst:=none,op:= .store 24 (.tmp (b+8)) (.tmp (b+6)),type:=0,pos:=pos,after:=#[{ on:=9,ground:= .data },{ on:=6,ground:= .data },{ on:=6,ground:= .chain },{ on:=8,ground:= .textOnly .appendInPlace },{ on:=0,ground:= .phase },{ on:=1,ground:= .phase },{ on:=2,ground:= .phase },{ on:=3,ground:= .phase },{ on:=4,ground:= .phase },{ on:=5,ground:= .phase },{ on:=6,ground:= .phase },{ on:=7,ground:= .textOnly .appendInPlace },{ on:=8,ground:= .textOnly .appendInPlace }],guard:=none }
def opsT (pos:String) (b s p tC fi fn:Nat):Array Oper:=
 #[oT0 pos b s tC fi,oT1 pos b,oT2 pos b p,oT3 pos b fn,oT4 pos b,oT5 pos b,oT6 pos b,oT7 pos b,oT8 pos b,oT9 pos b s tC fi,oT10 pos b]
structure CtxT where
 w:World
 bp:Nat
 A:Option Addr
 c:Nat
 l:List Tk
 τ:St
 ob:Nat
 fo:Nat
 B:Nat
 AR:Option Addr
 cap:Nat
 xs:List ET
 R:ET->Prop
namespace CtxT
variable (X : CtxT)
def val (j:Nat):Option Value:=match j with
 | 0=>some (.pointer (some ⟨X.ob,X.fo,none⟩))
 | 1=>some (.slice X.AR X.xs.length X.cap)
 | 2=>some (.pointer (some ⟨X.bp,0,none⟩))
 | 4=>some (.int .i64 (X.xs.length:Int))
 | 9=>some (.pointer (some ⟨X.ob,X.fo,none⟩))
 | _=>none
structure Good:Prop where
 cell:X.w.cell? ⟨X.ob,X.fo,none⟩=some (.slice X.AR X.xs.length X.cap)
 fz:X.w.frozen? ⟨X.ob,X.fo,none⟩=false
 oblt:X.ob < X.w.heap.size
 bpob:X.bp < X.ob
 row:Row X.w X.B 26 9 cT X.AR X.cap X.xs
 obB:X.ob < X.B
 bpB:X.bp < X.B
 Bw:X.B<=X.w.heap.size
 len:X.xs.length<=900000
structure Pre (d:Nat->Bool) (u:Nat->Value) (W:World):Prop where
 up:UpT [X.bp] X.w W
 b3:d 3=false->Below X.w.heap.size X.w W
 a3:d 3=true-> ∃x:ET,u 3=valT x/\PAt W X.bp X.A X.c X.l X.τ/\x.Is W/\X.w.heap.size<=x.lo/\X.R x
 a5:d 5=true-> ∃z0,u 5= .slice (some ⟨z0,0,none⟩) 1 1/\X.w.heap.size<=z0/\z0 < W.heap.size/\ ∀(j:Nat) v,zerosT[j]? =some v->W.cell? ⟨z0,j,none⟩=some v
structure PostX (d:Nat->Bool) (u:Nat->Value) (W:World) (x:ET) (g cp:Nat):Prop where
 u3:u 3=valT x
 u6:u 6= .slice (some ⟨g,0,none⟩) (X.xs.length+1) cp
 u7:d 7=true->u 7= .pointer (some ⟨g,X.xs.length * 9,none⟩)
 par:PAt W X.bp X.A X.c X.l X.τ
 is:x.Is W
 r:X.R x
 lo:X.w.heap.size<=x.lo
 far:g < x.lo\/x.hi<=g
 new:rowT X.AR=some g\/X.w.heap.size<=g
 up:UpT (X.bp::X.ob::(rowT X.AR).toList) X.w W
 row:W.ownsRow X.B 26 9 (.slice (some ⟨g,0,none⟩) (X.xs.length+1) cp) (X.xs.length+1) (X.xs.flatMap cT++if d 8=true then cT x else zerosT)
 cell:W.cell? ⟨X.ob,X.fo,none⟩=some (if d 10=true then .slice (some ⟨g,0,none⟩) (X.xs.length+1) cp else .slice X.AR X.xs.length X.cap)
 rest: ∀j,j≠X.fo->W.cell? ⟨X.ob,j,none⟩=X.w.cell? ⟨X.ob,j,none⟩
 fz: ∀j,W.frozen? ⟨X.ob,j,none⟩=X.w.frozen? ⟨X.ob,j,none⟩
structure Inv (d:Nat->Bool) (u:Nat->Value) (W:World):Prop where
 vals: ∀j,d j=true-> ∀v,X.val j=some v->u j=v
 e6:d 6=true-> ∀k,k < 6->d k=true
 e7:d 7=true->d 6=true
 e8:d 8=true->d 6=true
 e10:d 10=true->d 6=true
 pre:d 6=false->X.Pre d u W
 post:d 6=true-> ∃x g cp,X.PostX d u W x g cp
variable {X : CtxT} {d : Nat -> Bool} {u : Nat -> Value} {W W' : World}
theorem Good.obne (h:X.Good):X.ob≠X.bp:=by have:=h.bpob; omega
theorem Good.start (h:X.Good):X.Inv (fun _=>false) u X.w.drew:=
 ⟨nofun,nofun,nofun,nofun,nofun,fun _=>⟨(UpT.refl _ _).drew,fun _=>Y2.drew,nofun,nofun⟩,nofun⟩
theorem mono9 {d:Nat->Bool} (i:Nat) {k:Nat} (h:d k=true):also d i k=true:=by
 by_cases e:k=i
 {subst e; unfold also; rw[Nat.beq_refl]; rfl}
 {unfold also;have:Nat.beq k i=false:=by cases a:Nat.beq k i <;> first | rfl | exact absurd (Nat.eq_of_beq_eq_true a) e
  rw[this]; exact h}
theorem ne9 (d:Nat->Bool) {i j:Nat} (h:j≠i):also d i j=d j:=by
 unfold also;have:Nat.beq j i=false:=by cases a:Nat.beq j i <;> first | rfl | exact absurd (Nat.eq_of_beq_eq_true a) h
 rw[this]; rfl
theorem self9 (d:Nat->Bool) (i:Nat):also d i i=true:=by unfold also; rw[Nat.beq_refl]; rfl
section
variable (h : X.Inv d u W) {i : Nat}
include h i
theorem Inv.vals' {v:Value} (b: ∀v',X.val i=some v'->v=v'): ∀j,also d i j=true-> ∀v',X.val j=some v'->upd u i v j=v':=fun j hj v' hv'=>by
 by_cases a:j=i
 {subst a; rw[Z09]; exact b v' hv'}
 {rw[ne9 d a] at hj; rw[Z06 u v a]; exact h.vals j hj v' hv'}
theorem Inv.pure (f:i=0\/i=1\/i=2\/i=4\/i=9) {v:Value} (e: ∀v',X.val i=some v'->v=v'):X.Inv (also d i) (upd u i v) W:=by
 have k: ∀j,j=3\/j=5\/j=6\/j=7\/j=8\/j=10->also d i j=d j/\upd u i v j=u j:=fun j hj=>⟨ne9 d (by omega),Z06 u v (by omega)⟩;refine ⟨h.vals' e, ?_, ?_, ?_, ?_, ?_, ?_⟩
 {rw[(k 6 (by omega)).1]; exact fun c k hk=>mono9 i (h.e6 c k hk)}
 {rw[(k 7 (by omega)).1,(k 6 (by omega)).1]; exact h.e7}
 {rw[(k 8 (by omega)).1,(k 6 (by omega)).1]; exact h.e8}
 {rw[(k 10 (by omega)).1,(k 6 (by omega)).1]; exact h.e10}
 {rw[(k 6 (by omega)).1];intro c;obtain ⟨a,b,c3,c5⟩:=h.pre c;refine ⟨a, ?_, ?_, ?_⟩
  {rw[(k 3 (by omega)).1]; exact b}
  {rw[(k 3 (by omega)).1,(k 3 (by omega)).2]; exact c3}
  {rw[(k 5 (by omega)).1,(k 5 (by omega)).2]; exact c5}}
 {rw[(k 6 (by omega)).1];intro c;obtain ⟨x,g,cp,p⟩:=h.post c;refine ⟨x,g,cp, ?_, ?_, ?_,p.par,p.is,p.r,p.lo,p.far,p.new,p.up, ?_, ?_,p.rest,p.fz⟩
  {rw[(k 3 (by omega)).2]; exact p.u3}
  {rw[(k 6 (by omega)).2]; exact p.u6}
  {rw[(k 7 (by omega)).1,(k 7 (by omega)).2]; exact p.u7}
  {rw[(k 8 (by omega)).1]; exact p.row}
  {rw[(k 10 (by omega)).1]; exact p.cell}}
theorem Inv.early (c:i < 6) (b:d i=false):d 6=false:=by
 cases a:d 6 with
 | false=>rfl
 | true=>have:=h.e6 a i c; rw[b] at this; cases this
theorem Inv.first (b:i < 6) (a:d i=false):UpT [X.bp] X.w W:=(h.pre (h.early b a)).up
end
theorem Inv.cell (h:X.Inv d u W) (a:X.Good) {i:Nat} (e:i < 6) (c:d i=false):W.cell? ⟨X.ob,X.fo,none⟩=some (.slice X.AR X.xs.length X.cap)/\X.ob < W.heap.size:=by
 have b:=h.first e c;exact ⟨((b.same a.oblt (by simp[a.obne])).1 _).trans a.cell,Nat.lt_of_lt_of_le a.oblt b.size⟩
section
variable (h : X.Inv d u W)
include h
theorem Inv.s3 (n:d 3=false) {x:ET} (p:PAt W' X.bp X.A X.c X.l X.τ) (f:UpT [X.bp] W W') (t:x.Is W') (o:W.heap.size<=x.lo) (q:X.R x) (i:X.Good):X.Inv (also d 3) (upd u 3 (valT x)) W':=by
 have c:=h.early (by omega) n;obtain ⟨a,b,c3,c5⟩:=h.pre c;have k: ∀j,j≠3->also d 3 j=d j/\upd u 3 (valT x) j=u j:=fun j hj=>⟨ne9 d hj,Z06 u _ hj⟩;refine ⟨h.vals' (by intro A g; cases g), ?_, ?_, ?_, ?_, ?_, ?_⟩
 {rw[(k 6 (by omega)).1,c]; intro e; cases e}
 {rw[(k 7 (by omega)).1,(k 6 (by omega)).1]; exact h.e7}
 {rw[(k 8 (by omega)).1,(k 6 (by omega)).1]; exact h.e8}
 {rw[(k 10 (by omega)).1,(k 6 (by omega)).1]; exact h.e10}
 {intro _;have s:=a.size;refine ⟨a.trans f, ?_,fun _=>⟨x,Z09 _ _ _,p,t,by omega,q⟩, ?_⟩
  {rw[self9]; intro e; cases e}
  {rw[(k 5 (by omega)).1,(k 5 (by omega)).2];intro m;obtain ⟨w,e1,e2,e3,l⟩:=c5 m;have y:=i.bpB;have z:=i.Bw;have r:=f.same e3 (by simp; omega);exact ⟨w,e1,e2,Nat.lt_of_lt_of_le e3 f.size,fun j v hv=>(r.1 j).trans (l j v hv)⟩}}
 {rw[(k 6 (by omega)).1,c]; intro e; cases e}
theorem Inv.s5 (m:d 5=false) (n:X.Good) (t:TypeId):X.Inv (also d 5) (upd u 5 (.slice (some ⟨W.heap.size,0,none⟩) 1 1)) (W.alloc (.cells Ya t)):=by
 have f:=h.early (by omega) m;obtain ⟨a,b,c3,c5⟩:=h.pre f;have k: ∀j,j≠5->also d 5 j=d j/\upd u 5 (.slice (some ⟨W.heap.size,0,none⟩) 1 1) j=u j:=fun j hj=>⟨ne9 d hj,Z06 u _ hj⟩;have c:=Z01 W (.cells Ya t);refine ⟨h.vals' (by intro o g; cases g), ?_, ?_, ?_, ?_, ?_, ?_⟩
 {rw[(k 6 (by omega)).1,f]; intro e; cases e}
 {rw[(k 7 (by omega)).1,(k 6 (by omega)).1]; exact h.e7}
 {rw[(k 8 (by omega)).1,(k 6 (by omega)).1]; exact h.e8}
 {rw[(k 10 (by omega)).1,(k 6 (by omega)).1]; exact h.e10}
 {intro _;refine ⟨a.below c, ?_, ?_,fun _=>⟨W.heap.size,Z09 _ _ _,a.size,by simp,fun j v hv=> ?_⟩⟩
  {rw[(k 3 (by omega)).1]; exact fun e=>Z00 (b e) c}
  {rw[(k 3 (by omega)).1,(k 3 (by omega)).2];intro l;obtain ⟨x,e1,e2,e3,e4,i⟩:=c3 l;exact ⟨x,e1,e2.below c,New.below e3 c,e4,i⟩}
  {rw[World.cell?_alloc_at _ _ _ _ rfl];simpa[zerosT] using hv}}
 {rw[(k 6 (by omega)).1,f]; intro e; cases e}
theorem Inv.s6 (o:d 6=false) (w: ∀k,k < 6->d k=true) {g cp:Nat} (i:X.Good) (n:W'.ownsRow X.B 26 9 (.slice (some ⟨g,0,none⟩) (X.xs.length+1) cp) (X.xs.length+1) (X.xs.flatMap cT++zerosT))
 (l:W.grownBy W' (rowT X.AR)) (m:rowT X.AR=some g\/g=W.heap.size):X.Inv (also d 6) (upd u 6 (.slice (some ⟨g,0,none⟩) (X.xs.length+1) cp)) W':=by
 obtain ⟨a,b,c3,c5⟩:=h.pre o;obtain ⟨x,B,C,v,D,E⟩:=c3 (w 3 (by omega));have k: ∀j,j≠6->also d 6 j=d j/\upd u 6 (.slice (some ⟨g,0,none⟩) (X.xs.length+1) cp) j=u j:=fun j hj=>⟨ne9 d hj,Z06 u _ hj⟩;have z:d 7=false:=by cases e:d 7 with | false=>rfl | true=>have:=h.e7 e; rw[o] at this; cases this
 have A:d 8=false:=by cases e:d 8 with | false=>rfl | true=>have:=h.e8 e; rw[o] at this; cases this
 have p:d 10=false:=by cases e:d 10 with | false=>rfl | true=>have:=h.e10 e; rw[o] at this; cases this
 have r:=a.size;have f: ∀k,rowT X.AR=some k->X.B<=k/\k < X.w.heap.size:=fun k hk=>i.row.lt k hk;have F:=i.Bw;have t:UpT (rowT X.AR).toList W W':=⟨l.os,l.tape,l.output,l.size,fun x c h2=>l.block x c (fun e=>h2 (by rw[<-e]; simp))⟩;have q:SameT X.w W' X.ob:=(a.same i.oblt (by simp[i.obne])).trans (t.same (Nat.lt_of_lt_of_le i.oblt r) (by
  intro G;have c:rowT X.AR=some X.ob:=by simpa using G
  have:=f _ c; have:=i.obB; omega))
 refine ⟨h.vals' (by intro H s; cases s),fun _ j hj=>mono9 6 (w j hj), ?_, ?_, ?_, ?_, ?_⟩
 {intro _; exact self9 _ _}
 {intro _; exact self9 _ _}
 {intro _; exact self9 _ _}
 {rw[self9]; intro e; cases e}
 {intro _;refine ⟨x,g,cp, ?_,Z09 _ _ _, ?_,C.keep t (fun k hk=> ?_),New.grown v l (fun k hk=>Or.inl ?_),E,D, ?_, ?_, ?_, ?_, ?_,fun j hj=>q.1 j,fun j=>q.2 j⟩
  {rw[(k 3 (by omega)).2]; exact B}
  {rw[(k 7 (by omega)).1,z]; intro e; cases e}
  {have c:rowT X.AR=some k:=by simpa using hk
   have:=f _ c; have:=i.bpB; omega}
  {have:=f _ hk; omega}
  {rcases m with c | c
   {left; have:=f _ c; omega}
   {right; have:=v.hi_; omega}}
  {rcases m with c | c
   {exact Or.inl c}
   {exact Or.inr (by omega)}}
  {exact (a.mono (fun y hy _=>by simp at hy; simp[hy])).trans (t.mono (fun y hy _=>by simp at hy; simp[hy]))}
  {rw[(k 8 (by omega)).1,A]; simpa using n}
  {rw[(k 10 (by omega)).1,p]; exact (q.1 _).trans i.cell}}
theorem Inv.s7 (a:d 6=true) {v:Value} (c: ∀x g cp,X.PostX d u W x g cp->v= .pointer (some ⟨g,X.xs.length * 9,none⟩)):X.Inv (also d 7) (upd u 7 v) W:=by
 have k: ∀j,j≠7->also d 7 j=d j/\upd u 7 v j=u j:=fun j hj=>⟨ne9 d hj,Z06 u _ hj⟩;refine ⟨h.vals' (by intro f b; cases b), ?_, ?_, ?_, ?_, ?_, ?_⟩
 {rw[(k 6 (by omega)).1]; exact fun a j hj=>mono9 7 (h.e6 a j hj)}
 {rw[(k 6 (by omega)).1]; exact fun _=>a}
 {rw[(k 8 (by omega)).1,(k 6 (by omega)).1]; exact h.e8}
 {rw[(k 10 (by omega)).1,(k 6 (by omega)).1]; exact h.e10}
 {rw[(k 6 (by omega)).1,a]; intro e; cases e}
 {intro _;obtain ⟨x,g,cp,p⟩:=h.post a;refine ⟨x,g,cp, ?_, ?_,fun _=> ?_,p.par,p.is,p.r,p.lo,p.far,p.new,p.up, ?_, ?_,p.rest,p.fz⟩
  {rw[(k 3 (by omega)).2]; exact p.u3}
  {rw[(k 6 (by omega)).2]; exact p.u6}
  {rw[Z09]; exact c x g cp p}
  {rw[(k 8 (by omega)).1]; exact p.row}
  {rw[(k 10 (by omega)).1]; exact p.cell}}
end
theorem grown_trans9 {a b c:World} {r:Option Nat} (h:a.grownBy b r) (k:b.grownBy c r):a.grownBy c r:=
 ⟨k.os.trans h.os,k.tape.trans h.tape,k.output.trans h.output,Nat.le_trans h.size k.size,fun i hi hn=>(k.block i (Nat.lt_of_lt_of_le hi h.size) hn).trans (h.block i hi hn)⟩
def putT (W:World) (g i:Nat) (x:ET):World:=(((((((((W).setCell ⟨g,i+0,none⟩ (.int .i64 x.t.kind)).setCell ⟨g,i+1,none⟩ (.string ⟨x.t.of_.toArray⟩)).setCell ⟨g,i+2,none⟩ (.string ⟨x.t.name.toArray⟩)).setCell ⟨g,i+3,none⟩ (.int .i64 x.t.n)).setCell ⟨g,i+4,none⟩ (.slice x.q.A x.t.names.length x.q.c)).setCell ⟨g,i+5,none⟩ (.slice x.q.V x.t.vars.length x.q.e)).setCell ⟨g,i+6,none⟩ (.slice x.q.S x.t.shapes.length x.q.s)).setCell ⟨g,i+7,none⟩ (.slice x.q.P x.t.parts.length x.q.d)).setCell ⟨g,i+8,none⟩ (.int .i64 x.t.at_)
section
variable (x : ET) {g cp n B : Nat} {ys : List Value} (hn : ys.length = n * 9) (h : W.ownsRow B 26 9 (.slice (some ⟨g, 0, none⟩) (n + 1) cp) (n + 1) (ys ++ zerosT))
include x g cp n B ys hn h
theorem put_row:
 (putT W g (n * 9) x).ownsRow B 26 9 (.slice (some ⟨g,0,none⟩) (n+1) cp) (n+1) (ys++cT x)/\W.grownBy (putT W g (n * 9) x) (some g):=by
 obtain ⟨q,c⟩:=World.ownsRow.stored h (n * 9+0) (.int .i64 x.t.kind);obtain ⟨r,e⟩:=World.ownsRow.stored q (n * 9+1) (.string ⟨x.t.of_.toArray⟩);obtain ⟨s,f⟩:=World.ownsRow.stored r (n * 9+2) (.string ⟨x.t.name.toArray⟩);obtain ⟨t,i⟩:=World.ownsRow.stored s (n * 9+3) (.int .i64 x.t.n);obtain ⟨w,j⟩:=World.ownsRow.stored t (n * 9+4) (.slice x.q.A x.t.names.length x.q.c);obtain ⟨y,l⟩:=World.ownsRow.stored w (n * 9+5) (.slice x.q.V x.t.vars.length x.q.e);obtain ⟨z,m⟩:=World.ownsRow.stored y (n * 9+6) (.slice x.q.S x.t.shapes.length x.q.s);obtain ⟨A,o⟩:=World.ownsRow.stored z (n * 9+7) (.slice x.q.P x.t.parts.length x.q.d);obtain ⟨b,p⟩:=World.ownsRow.stored A (n * 9+8) (.int .i64 x.t.at_);refine ⟨?_,(grown_trans9 (grown_trans9 (grown_trans9 (grown_trans9 (grown_trans9 (grown_trans9 (grown_trans9 (grown_trans9 c e) f) i) j) l) m) o) p)⟩;have a: ∀(zs:List Value) (k:Nat) (v:Value),(ys++zs).set (n * 9+k) v=ys++zs.set k v:=fun zs k v=>by rw[<-hn,List.set_append_right _ _ (by omega),Nat.add_sub_cancel_left]
 rw[a,a,a,a,a,a,a,a,a] at b;exact b
theorem put_zero (k:Nat) (c:k < 9): ∃v,W.cell? ⟨g,n * 9+k,none⟩=some v/\W.frozen? ⟨g,n * 9+k,none⟩=false:=by
 have a:=h.cellAt (n * 9+k) (by rw[Nat.add_mul]; omega);rw[List.getElem?_append_right (by omega),hn,Nat.add_sub_cancel_left] at a;have b:k < zerosT.length:=c;rw[List.getElem?_eq_getElem b] at a;exact ⟨_,a,h.frozenAt _⟩
end
theorem Inv.s8 (h:X.Inv d u W) (s:d 8=false) (l:d 6=true) (f:X.Good) {x:ET} {g cp:Nat} (p:X.PostX d u W x g cp) (v:Value):X.Inv (also d 8) (upd u 8 v) (putT W g (X.xs.length * 9) x):=by
 have k: ∀j,j≠8->also d 8 j=d j/\upd u 8 v j=u j:=fun j hj=>⟨ne9 d hj,Z06 u _ hj⟩;have b:=p.row;rw[s] at b;simp only[Bool.false_eq_true,if_false] at b;obtain ⟨m,a⟩:=put_row x (by rw[Z1V Z3E]) b;have t:X.B<=g/\g < W.heap.size:=b.lt g rfl;have r:=f.bpB;have A:=f.obB;have z:=p.lo;have q:=f.Bw;have c:SameT W (putT W g (X.xs.length * 9) x) X.ob:=⟨fun j=>World.cell?_of_block (w:=W) (a.block X.ob (Nat.lt_of_lt_of_le f.oblt p.up.size) (fun e=>by have:=Option.some.inj e; omega)),fun j=>World.frozen?_of_block (w:=W) (a.block X.ob (Nat.lt_of_lt_of_le f.oblt p.up.size) (fun e=>by have:=Option.some.inj e; omega))⟩;refine ⟨h.vals' (by intro B n; cases n), ?_, ?_, ?_, ?_, ?_, ?_⟩
 {rw[(k 6 (by omega)).1]; exact fun l j hj=>mono9 8 (h.e6 l j hj)}
 {rw[(k 7 (by omega)).1,(k 6 (by omega)).1]; exact h.e7}
 {rw[(k 6 (by omega)).1]; exact fun _=>l}
 {rw[(k 10 (by omega)).1,(k 6 (by omega)).1]; exact h.e10}
 {rw[(k 6 (by omega)).1,l]; intro e; cases e}
 {intro _;refine ⟨x,g,cp, ?_, ?_, ?_, ?_,New.grown p.is a (fun j hj=> ?_),p.r,p.lo,p.far,p.new, ?_, ?_, ?_,fun j hj=>(c.1 j).trans (p.rest j hj),fun j=>(c.2 j).trans (p.fz j)⟩
  {rw[(k 3 (by omega)).2]; exact p.u3}
  {rw[(k 6 (by omega)).2]; exact p.u6}
  {rw[(k 7 (by omega)).1,(k 7 (by omega)).2]; exact p.u7}
  {refine p.par.keep (F:= [g]) ⟨a.os,a.tape,a.output,a.size,fun y h1 h2=>a.block y h1 (fun e=>h2 (by rw[Option.some.inj e]; simp))⟩ (by simp; omega)}
  {obtain rfl:=Option.some.inj hj; exact p.far}
  {have i:UpT [g] W (putT W g (X.xs.length * 9) x):=⟨a.os,a.tape,a.output,a.size,fun y h1 h2=>a.block y h1 (fun e=>h2 (by rw[Option.some.inj e]; simp))⟩;refine ⟨i.os.trans p.up.os,i.tape.trans p.up.tape,i.output.trans p.up.output,Nat.le_trans p.up.size i.size,fun y h1 h2=> ?_⟩;rw[i.block y (Nat.lt_of_lt_of_le h1 p.up.size) (fun e=> ?_)]
   {exact p.up.block y h1 h2}
   {obtain rfl:y=g:=by simpa using e
    rcases p.new with o | o
    {exact h2 (by rw[o]; simp)}
    {omega}}}
  {rw[self9]; simpa using m}
  {rw[(k 10 (by omega)).1]; exact (c.1 _).trans p.cell}}
theorem Inv.s10 (h:X.Inv d u W) (A:d 10=false) (f:d 6=true) (c:X.Good) {x:ET} {g cp:Nat} (p:X.PostX d u W x g cp) (v:Value):X.Inv (also d 10) (upd u 10 v) (W.setCell ⟨X.ob,X.fo,none⟩ (.slice (some ⟨g,0,none⟩) (X.xs.length+1) cp)):=by
 have k: ∀j,j≠10->also d 10 j=d j/\upd u 10 v j=u j:=fun j hj=>⟨ne9 d hj,Z06 u _ hj⟩;have t:X.B<=g/\g < W.heap.size:=p.row.lt g rfl;have s:=c.bpB;have z:=c.obB;have w:=p.lo;have r:=c.Bw;have l:=c.obne;have o:=c.bpob;have i:UpT [X.ob] W (W.setCell ⟨X.ob,X.fo,none⟩ (.slice (some ⟨g,0,none⟩) (X.xs.length+1) cp)):=(UpT.refl _ _).set _ (Or.inr (by simp)) _;refine ⟨h.vals' (by intro B n; cases n), ?_, ?_, ?_, ?_, ?_, ?_⟩
 {rw[(k 6 (by omega)).1]; exact fun f j hj=>mono9 10 (h.e6 f j hj)}
 {rw[(k 7 (by omega)).1,(k 6 (by omega)).1]; exact h.e7}
 {rw[(k 8 (by omega)).1,(k 6 (by omega)).1]; exact h.e8}
 {rw[(k 6 (by omega)).1]; exact fun _=>f}
 {rw[(k 6 (by omega)).1,f]; intro e; cases e}
 {intro _;have m:PAt (W.setCell ⟨X.ob,X.fo,none⟩ (.slice (some ⟨g,0,none⟩) (X.xs.length+1) cp)) X.bp X.A X.c X.l X.τ:=by
   have q: ∀b,b≠X.ob->SameT W (W.setCell ⟨X.ob,X.fo,none⟩ (.slice (some ⟨g,0,none⟩) (X.xs.length+1) cp)) b:=fun b a=>Z1y _ _ _ (fun e=>a (by simpa using e.symm));have a:=q X.bp (fun e=>l e.symm);exact ⟨Nat.lt_of_lt_of_le p.par.lt i.size,(a.1 0).trans p.par.c0,(a.1 1).trans p.par.c1,(a.1 2).trans p.par.c2,(a.1 3).trans p.par.c3,fun k=>(a.2 k).trans (p.par.fz k),p.par.tk.same (fun b hb2=>q b (by omega)),p.par.gs.up i (by simp; omega),p.par.tx⟩
  refine ⟨x,g,cp, ?_, ?_, ?_,m,New.up p.is i (by simp; omega),p.r,p.lo,p.far,p.new, ?_, ?_, ?_,fun j hj=> ?_,fun j=> ?_⟩
  {rw[(k 3 (by omega)).2]; exact p.u3}
  {rw[(k 6 (by omega)).2]; exact p.u6}
  {rw[(k 7 (by omega)).1,(k 7 (by omega)).2]; exact p.u7}
  {exact p.up.trans (i.mono (fun y hy _=>by simp at hy; simp[hy]))}
  {rw[(k 8 (by omega)).1]; exact Z1n p.row (by intro e; have:=Option.some.inj e; simp at this; omega) _}
  {rw[self9,if_pos rfl]; exact World.cell?_setCell_same _ _ _ p.cell}
  {rw[World.cell?_setCell_other _ _ _ _ (fun e=>hj (by have:=congrArg Addr.off e; simpa using this.symm))]; exact p.rest j hj}
  {rw[World.frozen?_setCell]; exact p.fz j}}
end CtxT
structure FrameT (pos:String) (b s p:Nat) (tC fi fn:Nat) (A: (Nat->Value)->Act) (vs vp:Value):Prop where
 put: ∀(i:Nat) o,(opsT pos b s p tC fi fn)[i]? =some o-> ∀u v,(A u).put o.dst v=A (upd u i v)
 es: ∀u,(A u).eval (.tmp s)=vs
 ep: ∀u,(A u).eval (.tmp p)=vp
 e0: ∀u,(A u).eval (.tmp b)=u 0
 e1: ∀u,(A u).eval (.tmp (b+1))=u 1
 e2: ∀u,(A u).eval (.tmp (b+2))=u 2
 e3: ∀u,(A u).eval (.tmp (b+3))=u 3
 e4: ∀u,(A u).eval (.tmp (b+4))=u 4
 e5: ∀u,(A u).eval (.tmp (b+5))=u 5
 e6: ∀u,(A u).eval (.tmp (b+6))=u 6
 e7: ∀u,(A u).eval (.tmp (b+7))=u 7
 e9: ∀u,(A u).eval (.tmp (b+8))=u 9
theorem regT {Q:Exit->Act->World->Prop} {id:Nat} (pos:String) (b s p:Nat) (w r n:Nat) (X:CtxT) (l:X.Good) (pb:Nat) (H:X.w.cell? ⟨pb,0,none⟩=some (.pointer (some ⟨X.bp,0,none⟩))) (C:pb < X.w.heap.size) (I:pb≠X.bp)
 (A: (Nat->Value)->Act) (P:Nat->Value) (i:FrameT pos b s p w r n A (.pointer (some ⟨X.ob,0,none⟩)) (.pointer (some ⟨pb,0,none⟩)))
 (hfa: ∀W,(Instr.fieldAt w (.pointer (some ⟨X.ob,0,none⟩)) r).run Tryz.prog W= .ok (.pointer (some ⟨X.ob,X.fo,none⟩)) W)
 (a7: ∀args W,(callFunc n args).run Tryz.prog W= .ok (.enter n args) W)
 (t: ∀W,Below X.w.heap.size X.w W->Calls Tryz.prog n #[.pointer (some ⟨X.bp,0,none⟩)] W fun e W'=> ∃x:ET,e= .returned (valT x)/\PAt W' X.bp X.A X.c X.l X.τ/\UpT [X.bp] W W'/\x.Is W'/\W.heap.size<=x.lo/\X.R x)
 (hQ: ∀u W x g cp,X.PostX (fun _=>true) u W x g cp->Q .normal (A u) W):
 (Code.region id (opsT pos b s p w r n) true).wp Tryz.prog Q (A P) X.w:=by
 obtain ⟨i0,G,J,K,L⟩:=Z1e Z8K;have N:=i.es;have T:=i.ep;have a5:Tryz.prog.cellsOf 24=1:=by kernel_rfl
 have a6:Tryz.prog.cellsOf 59=1:=by kernel_rfl
 refine Z2c (rs:= [0,1,2,3,4,5,6,7,8,9,10]) A P X.Inv (by kernel_rfl) (by kernel_rfl) (by kernel_rfl) l.start ?_ ?_;refine StepsInv.cons (oT0 pos b s w r) rfl (fun d u W K' a c hw hK=> ?_) ?_
 {refine Z02 (v:= .pointer (some ⟨X.ob,X.fo,none⟩)) (W':=W) rfl ?_ (by rw[i.put 0 (oT0 pos b s w r) rfl u _]; exact hK.out _ _ (a.pure (by decide) (fun v' h=>by cases h; rfl)));simp only[execOp,oT0,N u,hfa,Sem.run_bind,Result.andThen_ok,Sem.run_pure]}
 refine StepsInv.cons (oT1 pos b) rfl (fun d u W K' a c hw hK=> ?_) ?_
 {have e0:=i.e0 u;rw[a.vals 0 (hw 0 (by kernel_rfl)) _ rfl] at e0;obtain ⟨D,z⟩:=a.cell l (by decide) c;refine Z02 (v:= .slice X.AR X.xs.length X.cap) (W':=W) rfl ?_ (by rw[i.put 1 (oT1 pos b) rfl u _]; exact hK.out _ _ (a.pure (by decide) (fun v' h=>by cases h; rfl)));simp only[execOp,oT1,e0,Sem.run_bind,Result.andThen_ok,Sem.run_pure];go_simp}
 refine StepsInv.cons (oT2 pos b p) rfl (fun d u W K' a c hw hK=> ?_) ?_
 {obtain ⟨D,z⟩:W.cell? ⟨pb,0,none⟩=some (.pointer (some ⟨X.bp,0,none⟩))/\pb < W.heap.size:=⟨(((a.first (by decide) c).same C (by simp[I])).1 _).trans H,Nat.lt_of_lt_of_le C (a.first (by decide) c).size⟩;refine Z02 (v:= .pointer (some ⟨X.bp,0,none⟩)) (W':=W) rfl ?_ (by rw[i.put 2 (oT2 pos b p) rfl u _]; exact hK.out _ _ (a.pure (by decide) (fun v' h=>by cases h; rfl)));simp only[execOp,oT2,T u,Sem.run_bind,Result.andThen_ok,Sem.run_pure];go_simp}
 refine StepsInv.cons (oT3 pos b n) rfl (fun d u W K' a c hw hK=> ?_) ?_
 {have e2:=i.e2 u;rw[a.vals 2 (hw 2 (by kernel_rfl)) _ rfl] at e2;have F:=(a.pre (a.early (by decide) c)).b3 c;refine Z0M (f:=n) (args:=#[.pointer (some ⟨X.bp,0,none⟩)]) (W':=W) rfl ?_ ((t W F).mono ?_)
  {simp only[execOp,oT3,e2,Sem.run_bind,Result.andThen_ok,Sem.run_pure,resolve,invoke,List.map_toArray,List.map_cons,List.map_nil];have S: (A u).eval (.func n)= .func (.func n) #[] #[]:=rfl;rw[S];go_simp}
  {rintro e W' ⟨x,rfl,V,Y,Z,h4,h5⟩;exact ⟨_,rfl,by rw[i.put 3 (oT3 pos b n) rfl u _]; exact hK.out _ _ (a.s3 c V Y Z h4 h5 l)⟩}}
 refine StepsInv.cons (oT4 pos b) rfl (fun d u W K' a c hw hK=> ?_) ?_
 {have e1:=i.e1 u;rw[a.vals 1 (hw 1 (by kernel_rfl)) _ rfl] at e1;refine Z02 (v:= .int .i64 (X.xs.length:Int)) (W':=W) rfl ?_ (by rw[i.put 4 (oT4 pos b) rfl u _]; exact hK.out _ _ (a.pure (by decide) (fun v' h=>by cases h; rfl)));simp only[execOp,oT4,e1,Sem.run_bind,Result.andThen_ok,Sem.run_pure,resolve,invoke,List.map_toArray,List.map_cons,List.map_nil];go_simp}
 refine StepsInv.cons (oT5 pos b) rfl (fun d u W K' a c hw hK=> ?_) ?_
 {refine Z02 (v:= .slice (some ⟨W.heap.size,0,none⟩) 1 1) (W':=W.alloc (.cells Ya 26)) rfl ?_ (by rw[i.put 5 (oT5 pos b) rfl u _]; exact hK.out _ _ (a.s5 c l _));simp only[execOp,oT5,Sem.run_bind,Result.andThen_ok,Sem.run_pure];go_simp}
 refine StepsInv.cons (oT6 pos b) rfl (fun d u W K' a c hw hK=> ?_) ?_
 {have e1:=i.e1 u;rw[a.vals 1 (hw 1 (by kernel_rfl)) _ rfl] at e1;obtain ⟨z0,u5,z1,z2,z3⟩:=(a.pre c).a5 (hw 5 (by kernel_rfl));have M:=i.e5 u;rw[u5] at M;have a4:=l.bpB;have E:=l.row.up (a.pre c).up (fun x hx=>by simp at hx; subst hx; intro e; have:=l.row.lt _ e; omega);have b0:=l.len;have a2:=l.Bw;have b3:=(a.pre c).up.size;refine step_append_lies W rfl _ _ 24 rfl X.B 26 i0 (.agg #[.int .i64 0,.string ByteArray.empty,.string ByteArray.empty,.int .i64 0,.slice none 0 0,.slice none 0 0,.slice none 0 0,.slice none 0 0,.int .i64 0]) 9 152 Tryz.underlying24 G J K L rfl (by decide) _ _ _ e1 E ⟨z0,0,none⟩ 1 1 zerosT M rfl (fun j v hv=>by rw[Z0r,Nat.zero_add]; exact z3 j v hv) (by decide) (by decide) (by unfold maxLen; omega) (by omega) (by omega) _ rfl ?_;intro g cp W' B O y z;rw[i.put 6 (oT6 pos b) rfl u _];exact hK.out _ _ (a.s6 c (fun k hk=>hw k (by
   rcases k with _ | _ | _ | _ | _ | _ | k
   {kernel_rfl}
   {kernel_rfl}
   {kernel_rfl}
   {kernel_rfl}
   {kernel_rfl}
   {kernel_rfl}
   · omega)) l B (by rw[Z0v] at O; exact O) (by rw[Z0v] at y; exact y))}
 refine StepsInv.cons (oT7 pos b) rfl (fun d u W K' a c hw hK=> ?_) ?_
 {have q:=hw 6 (by kernel_rfl);obtain ⟨x,g,cp,p⟩:=a.post q;have e6:=i.e6 u;rw[p.u6] at e6;have e4:=i.e4 u;rw[a.vals 4 (hw 4 (by kernel_rfl)) _ rfl] at e4;refine Z02 (v:= .pointer (some ⟨g,X.xs.length * 9,none⟩)) (W':=W) rfl ?_ (by rw[i.put 7 (oT7 pos b) rfl u _]; exact hK.out _ _ (a.s7 q (fun x' g' cp' p'=>by
   have:=p.u6.symm.trans p'.u6;simp only[Value.slice.injEq,Option.some.injEq,Addr.mk.injEq,and_true] at this;rw[this.1])))
  simp only[execOp,oT7,e6,e4,Sem.run_bind,Result.andThen_ok,Sem.run_pure];go_simp;intro h; omega}
 refine StepsInv.cons (oT8 pos b) rfl (fun d u W K' a c hw hK=> ?_) ?_
 {have q:=a.e7 (hw 7 (by kernel_rfl));obtain ⟨x,g,cp,p⟩:=a.post q;have e7:=i.e7 u;rw[p.u7 (hw 7 (by kernel_rfl))] at e7;have e3:=i.e3 u;rw[p.u3] at e3;have m:=p.row;rw[c] at m;simp only[Bool.false_eq_true,if_false] at m;have o:=CtxT.put_zero x (by rw[Z1V Z3E]) m;have a9:=(m.lt g rfl).2;have hs:=a.s8 c q l p undef;refine Z0B (W':=CtxT.putT W g (X.xs.length * 9) x) rfl ?_ (by rw[i.put 8 (oT8 pos b) rfl u _]; exact hK.out _ _ hs);simp only[execOp,oT8,e7,e3,Sem.run_bind,Result.andThen_ok,Sem.run_pure,valT];obtain ⟨y0,c0,U⟩:=o 0 (by decide);obtain ⟨y1,c1,f1⟩:=o 1 (by decide);obtain ⟨y2,c2,f2⟩:=o 2 (by decide);obtain ⟨y3,c3,f3⟩:=o 3 (by decide);obtain ⟨y4,c4,f4⟩:=o 4 (by decide);obtain ⟨y5,c5,f5⟩:=o 5 (by decide);obtain ⟨y6,c6,f6⟩:=o 6 (by decide);obtain ⟨y7,c7,f7⟩:=o 7 (by decide);obtain ⟨y8,c8,f8⟩:=o 8 (by decide);simp only[Nat.add_zero] at c0 U;go_simp;rfl}
 refine StepsInv.cons (oT9 pos b s w r) rfl (fun d u W K' a c hw hK=> ?_) ?_
 {refine Z02 (v:= .pointer (some ⟨X.ob,X.fo,none⟩)) (W':=W) rfl ?_ (by rw[i.put 9 (oT9 pos b s w r) rfl u _]; exact hK.out _ _ (a.pure (by decide) (fun v' h=>by cases h; rfl)));simp only[execOp,oT9,N u,hfa,Sem.run_bind,Result.andThen_ok,Sem.run_pure]}
 refine StepsInv.cons (oT10 pos b) rfl (fun d u W K' a c hw hK=> ?_) StepsInv.nil
 {have q:=hw 6 (by kernel_rfl);obtain ⟨x,g,cp,p⟩:=a.post q;have e6:=i.e6 u;rw[p.u6] at e6;have e9:=i.e9 u;rw[a.vals 9 (hw 9 (by kernel_rfl)) _ rfl] at e9;have D:=p.cell;rw[c] at D;simp only[Bool.false_eq_true,if_false] at D;have a8:=(p.fz X.fo).trans l.fz;have b1:=Nat.lt_of_lt_of_le l.oblt p.up.size;refine Z0B (W':=W.setCell ⟨X.ob,X.fo,none⟩ (.slice (some ⟨g,0,none⟩) (X.xs.length+1) cp)) rfl ?_ (by rw[i.put 10 (oT10 pos b) rfl u _]; exact hK.out _ _ (a.s10 c q l p undef));simp only[execOp,oT10,e9,e6,Sem.run_bind,Result.andThen_ok,Sem.run_pure];go_simp}
 {intro d u W a c;obtain ⟨x,g,cp,p⟩:=a.post (c 6 (by show 6 < 11; omega));refine hQ u W x g cp ⟨p.u3,p.u6,fun _=>p.u7 (c 7 (by show 7 < 11; omega)),p.par,p.is,p.r,p.lo,p.far,p.new,p.up, ?_, ?_,p.rest,p.fz⟩
  {have:=p.row; rw[c 8 (by show 8 < 11; omega)] at this; exact this}
  {have:=p.cell; rw[c 10 (by show 10 < 11; omega)] at this; exact this}}
end
end Go.Proofs.YtkncdbaoaeeoiaaGreatDoor
namespace Go.Proofs.YtkncdbaoaeeoiaaGreatDoor
section
open Go.RowKit Tms
open Shp (Sh)
open Pso (St)
def pS0 (pos:String) (b s tC fi:Nat):Oper:=
 { dst:=some b,op:= .fieldAddr tC (.tmp s) fi,type:=0,pos:=pos,after:=#[],guard:=none }
def pS1 (pos:String) (b:Nat):Oper:=
 { dst:=some (b+1),op:= .load 23 (.tmp b),type:=23,pos:=pos,after:=#[{ on:=0,ground:= .data }],guard:=none }
def pS2 (pos:String) (b:Nat) (o2:Op):Oper:=
 { dst:=some (b+2),op:=o2,type:=59,pos:=pos,after:=#[],guard:=none }
def pS3 (pos:String) (b fn:Nat):Oper:=
 { dst:=some (b+3),op:= .call { callee:= .value (.func fn),args:=#[.tmp (b+2)],argTypes:=#[59] },type:=43,pos:=pos,after:=#[{ on:=2,ground:= .data }],guard:=none }
def pS4 (pos:String) (b:Nat):Oper:=
 { dst:=some (b+4),op:= .buildSlice 23 1 #[(0,.tmp (b+3))],type:=23,pos:=pos,after:=#[{ on:=3,ground:= .data }],guard:=none }
def pS5 (pos:String) (b:Nat):Oper:=
 { dst:=some (b+5),op:= .call { callee:= .builtin .append,args:=#[.tmp (b+1),.tmp (b+4)],argTypes:=#[23,23] },type:=23,pos:=pos,after:=#[{ on:=1,ground:= .data },{ on:=4,ground:= .data },{ on:=3,ground:= .chain }],guard:=none }
def pS6 (pos:String) (b s tC fi:Nat):Oper:=
 { dst:=some (b+6),op:= .fieldAddr tC (.tmp s) fi,type:=0,pos:=pos,after:=#[{ on:=0,ground:= .phase },{ on:=1,ground:= .phase },{ on:=2,ground:= .phase },{ on:=3,ground:= .phase },{ on:=4,ground:= .phase },{ on:=5,ground:= .phase }],guard:=none }
def pS7 (pos:String) (b:Nat):Oper:=
 { dst:=none,op:= .store 23 (.tmp (b+6)) (.tmp (b+5)),type:=0,pos:=pos,after:=#[{ on:=6,ground:= .data },{ on:=5,ground:= .data },{ on:=5,ground:= .chain },{ on:=0,ground:= .phase },{ on:=1,ground:= .phase },{ on:=2,ground:= .phase },{ on:=3,ground:= .phase },{ on:=4,ground:= .phase },{ on:=5,ground:= .phase }],guard:=none }
def plnS (pos:String) (b s:Nat) (o2:Op) (tC fi fn:Nat):Array Oper:=
 #[pS0 pos b s tC fi,pS1 pos b,pS2 pos b o2,pS3 pos b fn,pS4 pos b,pS5 pos b,pS6 pos b s tC fi,pS7 pos b]
structure PtxS where
 w:World
 bp:Nat
 A:Option Addr
 c:Nat
 l:List Tk
 τ:St
 ob:Nat
 fo:Nat
 B:Nat
 AR:Option Addr
 cap:Nat
 xs:List ES
 R:ES->Prop
namespace PtxS
variable (X : PtxS)
def val (j:Nat):Option Value:=match j with
 | 0=>some (.pointer (some ⟨X.ob,X.fo,none⟩))
 | 1=>some (.slice X.AR X.xs.length X.cap)
 | 2=>some (.pointer (some ⟨X.bp,0,none⟩))
 | 6=>some (.pointer (some ⟨X.ob,X.fo,none⟩))
 | _=>none
structure Good:Prop where
 cell:X.w.cell? ⟨X.ob,X.fo,none⟩=some (.slice X.AR X.xs.length X.cap)
 fz:X.w.frozen? ⟨X.ob,X.fo,none⟩=false
 oblt:X.ob < X.w.heap.size
 bpob:X.bp < X.ob
 row:Row X.w X.B 43 5 cS X.AR X.cap X.xs
 obB:X.ob < X.B
 bpB:X.bp < X.B
 Bw:X.B<=X.w.heap.size
 len:X.xs.length<=900000
structure Mid (d:Nat->Bool) (u:Nat->Value) (W:World) (x:ES):Prop where
 u3:u 3=valS x
 par:PAt W X.bp X.A X.c X.l X.τ
 up:UpT [X.bp] X.w W
 is:x.Is W
 r:X.R x
 lo:X.w.heap.size<=x.lo
 a4:d 4=true-> ∃z0,u 4= .slice (some ⟨z0,0,none⟩) 1 1/\X.w.heap.size<=z0/\z0 < W.heap.size/\ ∀(j:Nat) v,(cS x)[j]? =some v->W.cell? ⟨z0,j,none⟩=some v
structure Post (d:Nat->Bool) (u:Nat->Value) (W:World) (x:ES) (g cp:Nat):Prop where
 u5:u 5= .slice (some ⟨g,0,none⟩) (X.xs.length+1) cp
 par:PAt W X.bp X.A X.c X.l X.τ
 is:x.Is W
 r:X.R x
 lo:X.w.heap.size<=x.lo
 far:g < x.lo\/x.hi<=g
 new:rowT X.AR=some g\/X.w.heap.size<=g
 up:UpT (X.bp::X.ob::(rowT X.AR).toList) X.w W
 row:W.ownsRow X.B 43 5 (.slice (some ⟨g,0,none⟩) (X.xs.length+1) cp) (X.xs.length+1) (X.xs.flatMap cS++cS x)
 cell:W.cell? ⟨X.ob,X.fo,none⟩=some (if d 7=true then .slice (some ⟨g,0,none⟩) (X.xs.length+1) cp else .slice X.AR X.xs.length X.cap)
 rest: ∀j,j≠X.fo->W.cell? ⟨X.ob,j,none⟩=X.w.cell? ⟨X.ob,j,none⟩
 fz: ∀j,W.frozen? ⟨X.ob,j,none⟩=X.w.frozen? ⟨X.ob,j,none⟩
structure Inv (d:Nat->Bool) (u:Nat->Value) (W:World):Prop where
 vals: ∀j,d j=true-> ∀v,X.val j=some v->u j=v
 e3:d 3=true->d 2=true
 e4:d 4=true->d 3=true
 e5:d 5=true->d 4=true/\d 1=true
 e7:d 7=true->d 5=true
 pre:d 3=false->Below X.w.heap.size X.w W
 mid:d 3=true->d 5=false-> ∃x,X.Mid d u W x
 post:d 5=true-> ∃x g cp,X.Post d u W x g cp
variable {X : PtxS} {d : Nat -> Bool} {u : Nat -> Value} {W W' : World}
theorem Good.start (h:X.Good):X.Inv (fun _=>false) u X.w.drew:=⟨nofun,nofun,nofun,nofun,nofun,fun _=>Y2.drew,nofun,nofun⟩
theorem ne9 (d:Nat->Bool) {i j:Nat} (h:j≠i):also d i j=d j:=by
 unfold also;have:Nat.beq j i=false:=by cases a:Nat.beq j i <;> first | rfl | exact absurd (Nat.eq_of_beq_eq_true a) h
 rw[this]; rfl
theorem self9 (d:Nat->Bool) (i:Nat):also d i i=true:=by unfold also; rw[Nat.beq_refl]; rfl
section
variable (h : X.Inv d u W)
include h
theorem Inv.vals' {i:Nat} {v:Value} (b: ∀v',X.val i=some v'->v=v'): ∀j,also d i j=true-> ∀v',X.val j=some v'->upd u i v j=v':=fun j hj v' hv'=>by
 by_cases a:j=i
 {subst a; rw[Z09]; exact b v' hv'}
 {rw[ne9 d a] at hj; rw[Z06 u v a]; exact h.vals j hj v' hv'}
theorem Inv.pure {i:Nat} (f:i=0\/i=1\/i=2\/i=6) {v:Value} (c: ∀v',X.val i=some v'->v=v'):X.Inv (also d i) (upd u i v) W:=by
 have k: ∀j,j=3\/j=4\/j=5\/j=7->also d i j=d j/\upd u i v j=u j:=fun j hj=>⟨ne9 d (by omega),Z06 u v (by omega)⟩;refine ⟨h.vals' c, ?_, ?_, ?_, ?_, ?_, ?_, ?_⟩
 {rw[(k 3 (by omega)).1];intro b;by_cases e: (2:Nat)=i
  {rw[e]; exact self9 d i}
  {rw[ne9 d e]; exact h.e3 b}}
 {rw[(k 4 (by omega)).1,(k 3 (by omega)).1]; exact h.e4}
 {rw[(k 5 (by omega)).1,(k 4 (by omega)).1];intro a;refine ⟨(h.e5 a).1, ?_⟩;by_cases e: (1:Nat)=i
  {rw[e]; exact self9 d i}
  {rw[ne9 d e]; exact (h.e5 a).2}}
 {rw[(k 7 (by omega)).1,(k 5 (by omega)).1]; exact h.e7}
 {rw[(k 3 (by omega)).1]; exact h.pre}
 {rw[(k 3 (by omega)).1,(k 5 (by omega)).1];intro b a;obtain ⟨x,p⟩:=h.mid b a;refine ⟨x, ?_,p.par,p.up,p.is,p.r,p.lo, ?_⟩
  {rw[(k 3 (by omega)).2]; exact p.u3}
  {rw[(k 4 (by omega)).1,(k 4 (by omega)).2]; exact p.a4}}
 {rw[(k 5 (by omega)).1];intro a;obtain ⟨x,g,cp,p⟩:=h.post a;refine ⟨x,g,cp, ?_,p.par,p.is,p.r,p.lo,p.far,p.new,p.up,p.row, ?_,p.rest,p.fz⟩
  {rw[(k 5 (by omega)).2]; exact p.u5}
  {rw[(k 7 (by omega)).1]; exact p.cell}}
theorem Inv.not5 {i:Nat} (f:i=1\/i=3\/i=4\/i=5) (b:d i=false):d 5=false:=by
 cases c:d 5 with
 | false=>rfl
 | true=>
  have a:=h.e5 c;have e:=h.e4 a.1;rcases f with rfl | rfl | rfl | rfl
  {rw[b] at a; cases a.2}
  {rw[b] at e; cases e}
  {rw[b] at a; cases a.1}
  {rw[b] at c; cases c}
theorem Inv.first (b:d 5=false):UpT [X.bp] X.w W:=by
 cases a:d 3 with
 | false=>exact Z05 (h.pre a)
 | true=>obtain ⟨x,p⟩:=h.mid a b; exact p.up
theorem Inv.s3 (a:d 3=false) (g:d 2=true) {x:ES} (m:PAt W' X.bp X.A X.c X.l X.τ) (o:UpT [X.bp] W W') (p:x.Is W') (b:W.heap.size<=x.lo) (n:X.R x):X.Inv (also d 3) (upd u 3 (valS x)) W':=by
 have l:=h.not5 (by omega) a;have i:d 4=false:=by cases e:d 4 with | false=>rfl | true=>have:=h.e4 e; rw[a] at this; cases this
 have k: ∀j,j≠3->also d 3 j=d j/\upd u 3 (valS x) j=u j:=fun j hj=>⟨ne9 d hj,Z06 u _ hj⟩;have f:=h.pre a;refine ⟨h.vals' (by intro q c; cases c),fun _=>by rw[(k 2 (by omega)).1]; exact g,fun _=>self9 _ _, ?_, ?_, ?_,fun _ _=>⟨x,Z09 _ _ _,m,(Z05 f).trans o,p,n,Nat.le_trans f.size b, ?_⟩, ?_⟩
 {rw[(k 5 (by omega)).1,(k 4 (by omega)).1,(k 1 (by omega)).1]; exact h.e5}
 {rw[(k 7 (by omega)).1,(k 5 (by omega)).1]; exact h.e7}
 {rw[self9]; intro e; cases e}
 {rw[(k 4 (by omega)).1,i]; intro e; cases e}
 {rw[(k 5 (by omega)).1,l]; intro e; cases e}
theorem Inv.s4 (g:d 4=false) (c:d 3=true) {x:ES} (p:X.Mid d u W x) (t:TypeId):X.Inv (also d 4) (upd u 4 (.slice (some ⟨W.heap.size,0,none⟩) 1 1)) (W.alloc (.cells (Y8 x.t x.q) t)):=by
 have f:=h.not5 (by omega) g;have k: ∀j,j≠4->also d 4 j=d j/\upd u 4 (.slice (some ⟨W.heap.size,0,none⟩) 1 1) j=u j:=fun j hj=>⟨ne9 d hj,Z06 u _ hj⟩;have a:=Z01 W (.cells (Y8 x.t x.q) t);refine ⟨h.vals' (by intro i b; cases b),(by rw[(k 3 (by omega)).1,(k 2 (by omega)).1]; exact h.e3), ?_, ?_, ?_, ?_,fun _ _=>⟨x, ?_,p.par.below a,p.up.below a,New.below p.is a,p.r,p.lo,fun _=>⟨W.heap.size,Z09 _ _ _,p.up.size,by simp,fun j v hv=> ?_⟩⟩, ?_⟩
 {rw[(k 3 (by omega)).1]; exact fun _=>c}
 {rw[(k 5 (by omega)).1,f]; intro e; cases e}
 {rw[(k 7 (by omega)).1,(k 5 (by omega)).1]; exact h.e7}
 {rw[(k 3 (by omega)).1,c]; intro e; cases e}
 {rw[(k 3 (by omega)).2]; exact p.u3}
 {rw[World.cell?_alloc_at _ _ _ _ rfl];simpa[cS] using hv}
 {rw[(k 5 (by omega)).1,f]; intro e; cases e}
theorem Inv.s5 (w:d 5=false) (a:d 1=true) (r:d 4=true) {x:ES} (p:X.Mid d u W x) {g cp:Nat} (c:X.Good) (l:W'.ownsRow X.B 43 5 (.slice (some ⟨g,0,none⟩) (X.xs.length+1) cp) (X.xs.length+1) (X.xs.flatMap cS++cS x))
 (f:W.grownBy W' (rowT X.AR)) (i:rowT X.AR=some g\/g=W.heap.size):X.Inv (also d 5) (upd u 5 (.slice (some ⟨g,0,none⟩) (X.xs.length+1) cp)) W':=by
 have k: ∀j,j≠5->also d 5 j=d j/\upd u 5 (.slice (some ⟨g,0,none⟩) (X.xs.length+1) cp) j=u j:=fun j hj=>⟨ne9 d hj,Z06 u _ hj⟩;have s:d 7=false:=by cases e:d 7 with | false=>rfl | true=>have:=h.e7 e; rw[w] at this; cases this
 have n:=p.up.size;have b: ∀k,rowT X.AR=some k->X.B<=k/\k < X.w.heap.size:=fun k hk=>c.row.lt k hk;have t:=c.Bw;have v:=c.bpob;have q:UpT (rowT X.AR).toList W W':=⟨f.os,f.tape,f.output,f.size,fun x a h2=>f.block x a (fun e=>h2 (by rw[<-e]; simp))⟩;have m:SameT X.w W' X.ob:=(p.up.same c.oblt (by simp; omega)).trans (q.same (Nat.lt_of_lt_of_le c.oblt n) (by
  intro z;have a:rowT X.AR=some X.ob:=by simpa using z
  have:=b _ a; have:=c.obB; omega))
 refine ⟨h.vals' (by intro A o; cases o),(by rw[(k 3 (by omega)).1,(k 2 (by omega)).1]; exact h.e3), ?_, ?_,fun _=>self9 _ _, ?_, ?_,fun _=>⟨x,g,cp,Z09 _ _ _,p.par.keep q (fun k hk=> ?_),New.grown p.is f (fun k hk=>Or.inl ?_),p.r,p.lo, ?_, ?_, ?_,l, ?_,fun j hj=>m.1 j,fun j=>m.2 j⟩⟩
 {rw[(k 4 (by omega)).1,(k 3 (by omega)).1]; exact h.e4}
 {rw[(k 4 (by omega)).1,(k 1 (by omega)).1]; exact fun _=>⟨r,a⟩}
 {rw[(k 3 (by omega)).1]; intro e; rw[h.e4 r] at e; cases e}
 {rw[self9]; intro _ e; cases e}
 {have a:rowT X.AR=some k:=by simpa using hk
  have:=b _ a; have:=c.bpB; omega}
 {have:=b _ hk; have:=p.lo; omega}
 {rcases i with a | a
  {left; have:=b _ a; have:=p.lo; omega}
  {right; have:=p.is.hi_; omega}}
 {rcases i with a | a
  {exact Or.inl a}
  {exact Or.inr (by omega)}}
 {exact (p.up.mono (fun y hy _=>by simp at hy; simp[hy])).trans (q.mono (fun y hy _=>by simp at hy; simp[hy]))}
 {rw[(k 7 (by omega)).1,s]; exact (m.1 _).trans c.cell}
theorem Inv.s7 (r:d 7=false) (b:d 5=true) (a:X.Good) {x:ES} {g cp:Nat} (p:X.Post d u W x g cp) (v:Value):X.Inv (also d 7) (upd u 7 v) (W.setCell ⟨X.ob,X.fo,none⟩ (.slice (some ⟨g,0,none⟩) (X.xs.length+1) cp)):=by
 have k: ∀j,j≠7->also d 7 j=d j/\upd u 7 v j=u j:=fun j hj=>⟨ne9 d hj,Z06 u _ hj⟩;have n:X.B<=g/\g < W.heap.size:=p.row.lt g rfl;have m:=a.bpB;have q:=a.obB;have o:=p.lo;have l:=a.Bw;have i:=a.bpob;have f:UpT [X.ob] W (W.setCell ⟨X.ob,X.fo,none⟩ (.slice (some ⟨g,0,none⟩) (X.xs.length+1) cp)):=(UpT.refl _ _).set _ (Or.inr (by simp)) _;refine ⟨h.vals' (by intro s c; cases c),(by rw[(k 3 (by omega)).1,(k 2 (by omega)).1]; exact h.e3), ?_, ?_, ?_, ?_, ?_,fun _=>⟨x,g,cp, ?_,p.par.keep f (by simp; omega),New.up p.is f (by simp; omega),p.r,p.lo,p.far,p.new, ?_, ?_, ?_,fun j hj=> ?_,fun j=> ?_⟩⟩
 {rw[(k 4 (by omega)).1,(k 3 (by omega)).1]; exact h.e4}
 {rw[(k 5 (by omega)).1,(k 4 (by omega)).1,(k 1 (by omega)).1]; exact h.e5}
 {rw[(k 5 (by omega)).1]; exact fun _=>b}
 {rw[(k 3 (by omega)).1]; intro e; rw[h.e4 (h.e5 b).1] at e; cases e}
 {rw[(k 5 (by omega)).1,b]; intro _ e; cases e}
 {rw[(k 5 (by omega)).2]; exact p.u5}
 {exact p.up.trans (f.mono (fun y hy _=>by simp at hy; simp[hy]))}
 {exact Z1n p.row (by intro e; have:=Option.some.inj e; simp at this; omega) _}
 {rw[self9,if_pos rfl]; exact World.cell?_setCell_same _ _ _ p.cell}
 {rw[World.cell?_setCell_other _ _ _ _ (fun e=>hj (by have:=congrArg Addr.off e; simpa using this.symm))]; exact p.rest j hj}
 {rw[World.frozen?_setCell]; exact p.fz j}
end
end PtxS
structure PfrS (pos:String) (b s:Nat) (o2:Op) (tC fi fn:Nat) (A: (Nat->Value)->Act) (vs:Value):Prop where
 put: ∀(i:Nat) o,(plnS pos b s o2 tC fi fn)[i]? =some o-> ∀u v,(A u).put o.dst v=A (upd u i v)
 es: ∀u,(A u).eval (.tmp s)=vs
 e0: ∀u,(A u).eval (.tmp b)=u 0
 e1: ∀u,(A u).eval (.tmp (b+1))=u 1
 e2: ∀u,(A u).eval (.tmp (b+2))=u 2
 e3: ∀u,(A u).eval (.tmp (b+3))=u 3
 e4: ∀u,(A u).eval (.tmp (b+4))=u 4
 e5: ∀u,(A u).eval (.tmp (b+5))=u 5
 e6: ∀u,(A u).eval (.tmp (b+6))=u 6
theorem prgS {Q:Exit->Act->World->Prop} {id:Nat} (pos:String) (b s:Nat) (y:Op) (o m l:Nat) (X:PtxS) (k:X.Good)
 (A: (Nat->Value)->Act) (S:Nat->Value) (i:PfrS pos b s y o m l A (.pointer (some ⟨X.ob,0,none⟩)))
 (C: ∀u W,UpT [X.bp] X.w W->(execOp (A u).eval (pS2 pos b y)).run Tryz.prog W= .ok (.value (.pointer (some ⟨X.bp,0,none⟩))) W)
 (hfa: ∀W,(Instr.fieldAt o (.pointer (some ⟨X.ob,0,none⟩)) m).run Tryz.prog W= .ok (.pointer (some ⟨X.ob,X.fo,none⟩)) W)
 (a1: ∀args W,(callFunc l args).run Tryz.prog W= .ok (.enter l args) W)
 (n: ∀W,Below X.w.heap.size X.w W->Calls Tryz.prog l #[.pointer (some ⟨X.bp,0,none⟩)] W fun e W'=> ∃x:ES,e= .returned (valS x)/\PAt W' X.bp X.A X.c X.l X.τ/\UpT [X.bp] W W'/\x.Is W'/\W.heap.size<=x.lo/\X.R x)
 (Y: ∀u W x g cp,X.Post (fun _=>true) u W x g cp->Q .normal (A u) W):
 (Code.region id (plnS pos b s y o m l) true).wp Tryz.prog Q (A S) X.w:=by
 obtain ⟨i0,G,I,J,K⟩:=Z1e ZcR;have N:=i.es;refine Z2c (rs:= [0,1,2,3,4,5,6,7]) A S X.Inv (by kernel_rfl) (by kernel_rfl) (by kernel_rfl) k.start ?_ ?_;refine StepsInv.cons (pS0 pos b s o m) rfl (fun d u W K' a c hw hK=> ?_) ?_
 {refine Z02 (v:= .pointer (some ⟨X.ob,X.fo,none⟩)) (W':=W) rfl ?_ (by rw[i.put 0 (pS0 pos b s o m) rfl u _]; exact hK.out _ _ (a.pure (by decide) (fun v' h=>by cases h; rfl)));simp only[execOp,pS0,N u,hfa,Sem.run_bind,Result.andThen_ok,Sem.run_pure]}
 refine StepsInv.cons (pS1 pos b) rfl (fun d u W K' a c hw hK=> ?_) ?_
 {have e0:=i.e0 u;rw[a.vals 0 (hw 0 (by kernel_rfl)) _ rfl] at e0;have P:=a.first (a.not5 (by omega) c);have a0:=k.bpob;obtain ⟨E,H⟩:W.cell? ⟨X.ob,X.fo,none⟩=some (.slice X.AR X.xs.length X.cap)/\X.ob < W.heap.size:=⟨((P.same k.oblt (by simp; omega)).1 _).trans k.cell,Nat.lt_of_lt_of_le k.oblt P.size⟩;have F:Tryz.prog.cellsOf 23=1:=by kernel_rfl
  refine Z02 (v:= .slice X.AR X.xs.length X.cap) (W':=W) rfl ?_ (by rw[i.put 1 (pS1 pos b) rfl u _]; exact hK.out _ _ (a.pure (by decide) (fun v' h=>by cases h; rfl)));simp only[execOp,pS1,e0,Sem.run_bind,Result.andThen_ok,Sem.run_pure];go_simp}
 refine StepsInv.cons (pS2 pos b y) rfl (fun d u W K' a c hw hK=> ?_) ?_
 {have q:d 3=false:=by cases e:d 3 with | false=>rfl | true=>have:=a.e3 e; rw[c] at this; cases this
  refine Z02 (v:= .pointer (some ⟨X.bp,0,none⟩)) (W':=W) rfl (C u W (Z05 (a.pre q))) (by rw[i.put 2 (pS2 pos b y) rfl u _]; exact hK.out _ _ (a.pure (by decide) (fun v' h=>by cases h; rfl)))}
 refine StepsInv.cons (pS3 pos b l) rfl (fun d u W K' a c hw hK=> ?_) ?_
 {have e2:=i.e2 u;rw[a.vals 2 (hw 2 (by kernel_rfl)) _ rfl] at e2;refine Z0M (f:=l) (args:=#[.pointer (some ⟨X.bp,0,none⟩)]) (W':=W) rfl ?_ ((n W (a.pre c)).mono ?_)
  {simp only[execOp,pS3,e2,Sem.run_bind,Result.andThen_ok,Sem.run_pure,resolve,invoke,List.map_toArray,List.map_cons,List.map_nil];have U: (A u).eval (.func l)= .func (.func l) #[] #[]:=rfl;rw[U];go_simp}
  {rintro e W' ⟨x,rfl,z,C,q,r,B⟩;exact ⟨_,rfl,by rw[i.put 3 (pS3 pos b l) rfl u _]; exact hK.out _ _ (a.s3 c (hw 2 (by kernel_rfl)) z C q r B)⟩}}
 refine StepsInv.cons (pS4 pos b) rfl (fun d u W K' a c hw hK=> ?_) ?_
 {have q:=hw 3 (by kernel_rfl);obtain ⟨x,p⟩:=a.mid q (a.not5 (by omega) c);have e3:=i.e3 u;rw[p.u3] at e3;simp only[valS] at e3;refine Z02 (v:= .slice (some ⟨W.heap.size,0,none⟩) 1 1) (W':=W.alloc (.cells (Y8 x.t x.q) 43)) rfl ?_ (by rw[i.put 4 (pS4 pos b) rfl u _]; exact hK.out _ _ (a.s4 c q p _));have T: (A u).tmps[b+3]?.getD undef= .agg (Y8 x.t x.q):=by simpa[Act.eval] using e3
  simp only[execOp,pS4,e3,Sem.run_bind,Result.andThen_ok,Sem.run_pure];go_simp}
 refine StepsInv.cons (pS5 pos b) rfl (fun d u W K' a c hw hK=> ?_) ?_
 {have z:=hw 1 (by kernel_rfl);have r:=hw 4 (by kernel_rfl);obtain ⟨x,p⟩:=a.mid (a.e4 r) c;have L:=i.e1 u;rw[a.vals 1 z _ rfl] at L;obtain ⟨z0,u4,z1,z2,z3⟩:=p.a4 r;have M:=i.e4 u;rw[u4] at M;have Z:=k.bpB;have D:=k.row.up p.up (fun x hx=>by simp at hx; subst hx; intro e; have:=k.row.lt _ e; omega);have a3:=k.len;have V:=k.Bw;have a5:=p.up.size;refine step_append_lies W rfl _ _ 23 rfl X.B 43 i0 (.agg #[.int .i64 0,.string ByteArray.empty,.string ByteArray.empty,.slice none 0 0,.slice none 0 0]) 5 88 Tryz.underlying23 G I J K rfl (by decide) _ _ _ L D ⟨z0,0,none⟩ 1 1 (cS x) M rfl (fun j v hv=>by rw[Z0r,Nat.zero_add]; exact z3 j v hv) (ZfZ x) (by decide) (by unfold maxLen; omega) (by omega) (by omega) _ rfl ?_;intro g cp W' w O t H;rw[i.put 5 (pS5 pos b) rfl u _];exact hK.out _ _ (a.s5 c z r p k w (by rw[Z0v] at O; exact O) (by rw[Z0v] at t; exact t))}
 refine StepsInv.cons (pS6 pos b s o m) rfl (fun d u W K' a c hw hK=> ?_) ?_
 {refine Z02 (v:= .pointer (some ⟨X.ob,X.fo,none⟩)) (W':=W) rfl ?_ (by rw[i.put 6 (pS6 pos b s o m) rfl u _]; exact hK.out _ _ (a.pure (by decide) (fun v' h=>by cases h; rfl)));simp only[execOp,pS6,N u,hfa,Sem.run_bind,Result.andThen_ok,Sem.run_pure]}
 refine StepsInv.cons (pS7 pos b) rfl (fun d u W K' a c hw hK=> ?_) StepsInv.nil
 {have B:=hw 5 (by kernel_rfl);obtain ⟨x,g,cp,p⟩:=a.post B;have e5:=i.e5 u;rw[p.u5] at e5;have e6:=i.e6 u;rw[a.vals 6 (hw 6 (by kernel_rfl)) _ rfl] at e6;have E:=p.cell;rw[c] at E;simp only[Bool.false_eq_true,if_false] at E;have a2:=(p.fz X.fo).trans k.fz;have a4:=Nat.lt_of_lt_of_le k.oblt p.up.size;have F:Tryz.prog.cellsOf 23=1:=by kernel_rfl
  refine Z0B (W':=W.setCell ⟨X.ob,X.fo,none⟩ (.slice (some ⟨g,0,none⟩) (X.xs.length+1) cp)) rfl ?_ (by rw[i.put 7 (pS7 pos b) rfl u _]; exact hK.out _ _ (a.s7 c B k p undef));simp only[execOp,pS7,e6,e5,Sem.run_bind,Result.andThen_ok,Sem.run_pure];go_simp}
 {intro d u W a c;obtain ⟨x,g,cp,p⟩:=a.post (c 5 (by show 5 < 8; omega));refine Y u W x g cp ⟨p.u5,p.par,p.is,p.r,p.lo,p.far,p.new,p.up,p.row, ?_,p.rest,p.fz⟩;have:=p.cell; rw[c 7 (by show 7 < 8; omega)] at this; exact this}
end
end Go.Proofs.YtkncdbaoaeeoiaaGreatDoor
