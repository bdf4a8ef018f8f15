/- What the proofs of ParseTypes want, part 6. -/
import Derived.Test.YtgndehppmaacaaaGreatDoorK0n5
set_option linter.unusedVariables false
set_option linter.unusedSimpArgs false
set_option linter.unusedSectionVars false
set_option maxRecDepth 100000
set_option maxHeartbeats 16000000
namespace Go.Proofs.YtgndehppmaacaaaGreatDoor
section
open Go.RowKit Tms
open Shp (Sh)
open Pso (St)
def valS (x:ES):Value:= .agg (Y8 x.t x.q)
def zerosS:List Value:= [.int .i64 0,.string ⟨#[]⟩,.string ⟨#[]⟩,.slice none 0 0,.slice none 0 0]
theorem Zhe: (Tryz.prog.info? 28).map (fun i=>(i.zero,i.size,i.bytes))=some (some (.agg #[.int .i64 0,.string ByteArray.empty,.string ByteArray.empty,.slice none 0 0,.slice none 0 0]),5,88):=by kernel_rfl
def oS0 (pos:String) (b s tC fi:Nat):Oper:=
 { dst:=some b,op:= .fieldAddr tC (.tmp s) fi,type:=0,pos:=pos,after:=#[],guard:=none }
def oS1 (pos:String) (b:Nat):Oper:=
 { dst:=some (b+1),op:= .load 26 (.tmp b),type:=26,pos:=pos,after:=#[{ on:=0,ground:= .data }],guard:=none }
def oS2 (pos:String) (b p:Nat):Oper:=
 { dst:=some (b+2),op:= .load 52 (.tmp p),type:=52,pos:=pos,after:=#[],guard:=none }
def oS3 (pos:String) (b fn:Nat):Oper:=
 { dst:=some (b+3),op:= .call { callee:= .value (.func fn),args:=#[.tmp (b+2)],argTypes:=#[52] },type:=28,pos:=pos,after:=#[{ on:=2,ground:= .data }],guard:=none }
def oS4 (pos:String) (b:Nat):Oper:=
 { dst:=some (b+4),op:= .call { callee:= .builtin .len,args:=#[.tmp (b+1)],argTypes:=#[26] },type:=3,pos:=pos,after:=#[{ on:=1,ground:= .data }],guard:=none }
def oS5 (pos:String) (b:Nat):Oper:=
 { dst:=some (b+5),op:= .buildSlice 26 1 #[(0,.const (.agg #[.int .i64 0,.string ⟨#[]⟩,.string ⟨#[]⟩,.slice none 0 0,.slice none 0 0]))],type:=26,pos:=pos,after:=#[],guard:=none }
def oS6 (pos:String) (b:Nat):Oper:=
 { dst:=some (b+6),op:= .call { callee:= .builtin .append,args:=#[.tmp (b+1),.tmp (b+5)],argTypes:=#[26,26] },type:=26,pos:=pos,after:=#[{ on:=1,ground:= .data },{ on:=5,ground:= .data },{ on:=3,ground:= .chain },{ on:=0,ground:= .phase },{ on:=1,ground:= .phase },{ on:=2,ground:= .phase },{ on:=3,ground:= .phase },{ on:=4,ground:= .phase },{ on:=5,ground:= .phase }],guard:=none }
def oS7 (pos:String) (b:Nat):Oper:=
 { dst:=some (b+7),op:= .indexAddr 26 (.tmp (b+6)) (.tmp (b+4)),type:=0,pos:=pos,after:=#[{ on:=6,ground:= .data },{ on:=4,ground:= .data },{ on:=0,ground:= .phase },{ on:=1,ground:= .phase },{ on:=2,ground:= .phase },{ on:=3,ground:= .phase },{ on:=4,ground:= .phase },{ on:=5,ground:= .phase },{ on:=6,ground:= .phase },{ on:=10,ground:= .gcOnly .appendInPlace }],guard:=none }
def oS8 (pos:String) (b:Nat):Oper:=
 { dst:=none,op:= .store 28 (.tmp (b+7)) (.tmp (b+3)),type:=0,pos:=pos,after:=#[{ on:=7,ground:= .data },{ on:=3,ground:= .data },{ on:=6,ground:= .chain },{ on:=0,ground:= .phase },{ on:=1,ground:= .phase },{ on:=2,ground:= .phase },{ on:=3,ground:= .phase },{ on:=4,ground:= .phase },{ on:=5,ground:= .phase },{ on:=6,ground:= .phase },{ on:=10,ground:= .gcOnly .appendInPlace }],guard:=none }
def oS9 (pos:String) (b s tC fi:Nat):Oper:=
 { dst:=some (b+8),op:= .fieldAddr tC (.tmp s) fi,type:=0,pos:=pos,after:=#[{ on:=0,ground:= .phase },{ on:=1,ground:= .phase },{ on:=2,ground:= .phase },{ on:=3,ground:= .phase },{ on:=4,ground:= .phase },{ on:=5,ground:= .phase },{ on:=6,ground:= .phase },{ on:=7,ground:= .textOnly .appendInPlace },{ on:=8,ground:= .textOnly .appendInPlace }],guard:=none }
def oS10 (pos:String) (b:Nat):Oper:=
 { dst:=none,op:= .store 26 (.tmp (b+8)) (.tmp (b+6)),type:=0,pos:=pos,after:=#[{ on:=9,ground:= .data },{ on:=6,ground:= .data },{ on:=6,ground:= .chain },{ on:=8,ground:= .textOnly .appendInPlace },{ on:=0,ground:= .phase },{ on:=1,ground:= .phase },{ on:=2,ground:= .phase },{ on:=3,ground:= .phase },{ on:=4,ground:= .phase },{ on:=5,ground:= .phase },{ on:=6,ground:= .phase },{ on:=7,ground:= .textOnly .appendInPlace },{ on:=8,ground:= .textOnly .appendInPlace }],guard:=none }
def opsS (pos:String) (b s p tC fi fn:Nat):Array Oper:=
 #[oS0 pos b s tC fi,oS1 pos b,oS2 pos b p,oS3 pos b fn,oS4 pos b,oS5 pos b,oS6 pos b,oS7 pos b,oS8 pos b,oS9 pos b s tC fi,oS10 pos b]
structure CtxS where
 w:World
 bp:Nat
 A:Option Addr
 c:Nat
 l:List Tk
 τ:St
 ob:Nat
 fo:Nat
 B:Nat
 AR:Option Addr
 cap:Nat
 xs:List ES
 R:ES->Prop
namespace CtxS
variable (X : CtxS)
def val (j:Nat):Option Value:=match j with
 | 0=>some (.pointer (some ⟨X.ob,X.fo,none⟩))
 | 1=>some (.slice X.AR X.xs.length X.cap)
 | 2=>some (.pointer (some ⟨X.bp,0,none⟩))
 | 4=>some (.int .i64 (X.xs.length:Int))
 | 9=>some (.pointer (some ⟨X.ob,X.fo,none⟩))
 | _=>none
structure Good:Prop where
 cell:X.w.cell? ⟨X.ob,X.fo,none⟩=some (.slice X.AR X.xs.length X.cap)
 fz:X.w.frozen? ⟨X.ob,X.fo,none⟩=false
 oblt:X.ob < X.w.heap.size
 bpob:X.bp < X.ob
 row:Row X.w X.B 28 5 cS X.AR X.cap X.xs
 obB:X.ob < X.B
 bpB:X.bp < X.B
 Bw:X.B<=X.w.heap.size
 len:X.xs.length<=900000
structure Pre (d:Nat->Bool) (u:Nat->Value) (W:World):Prop where
 up:UpT [X.bp] X.w W
 b3:d 3=false->Below X.w.heap.size X.w W
 a3:d 3=true-> ∃x:ES,u 3=valS x/\PAt W X.bp X.A X.c X.l X.τ/\x.Is W/\X.w.heap.size<=x.lo/\X.R x
 a5:d 5=true-> ∃z0,u 5= .slice (some ⟨z0,0,none⟩) 1 1/\X.w.heap.size<=z0/\z0 < W.heap.size/\ ∀(j:Nat) v,zerosS[j]? =some v->W.cell? ⟨z0,j,none⟩=some v
structure PostX (d:Nat->Bool) (u:Nat->Value) (W:World) (x:ES) (g cp:Nat):Prop where
 u3:u 3=valS x
 u6:u 6= .slice (some ⟨g,0,none⟩) (X.xs.length+1) cp
 u7:d 7=true->u 7= .pointer (some ⟨g,X.xs.length * 5,none⟩)
 par:PAt W X.bp X.A X.c X.l X.τ
 is:x.Is W
 r:X.R x
 lo:X.w.heap.size<=x.lo
 far:g < x.lo\/x.hi<=g
 new:rowT X.AR=some g\/X.w.heap.size<=g
 up:UpT (X.bp::X.ob::(rowT X.AR).toList) X.w W
 row:W.ownsRow X.B 28 5 (.slice (some ⟨g,0,none⟩) (X.xs.length+1) cp) (X.xs.length+1) (X.xs.flatMap cS++if d 8=true then cS x else zerosS)
 cell:W.cell? ⟨X.ob,X.fo,none⟩=some (if d 10=true then .slice (some ⟨g,0,none⟩) (X.xs.length+1) cp else .slice X.AR X.xs.length X.cap)
 rest: ∀j,j≠X.fo->W.cell? ⟨X.ob,j,none⟩=X.w.cell? ⟨X.ob,j,none⟩
 fz: ∀j,W.frozen? ⟨X.ob,j,none⟩=X.w.frozen? ⟨X.ob,j,none⟩
structure Inv (d:Nat->Bool) (u:Nat->Value) (W:World):Prop where
 vals: ∀j,d j=true-> ∀v,X.val j=some v->u j=v
 e6:d 6=true-> ∀k,k < 6->d k=true
 e7:d 7=true->d 6=true
 e8:d 8=true->d 6=true
 e10:d 10=true->d 6=true
 pre:d 6=false->X.Pre d u W
 post:d 6=true-> ∃x g cp,X.PostX d u W x g cp
variable {X : CtxS} {d : Nat -> Bool} {u : Nat -> Value} {W W' : World}
theorem Good.obne (h:X.Good):X.ob≠X.bp:=by have:=h.bpob; omega
theorem Good.start (h:X.Good):X.Inv (fun _=>false) u X.w.drew:=
 ⟨nofun,nofun,nofun,nofun,nofun,fun _=>⟨(UpT.refl _ _).drew,fun _=>Y2.drew,nofun,nofun⟩,nofun⟩
theorem mono9 {d:Nat->Bool} (i:Nat) {k:Nat} (h:d k=true):also d i k=true:=by
 by_cases e:k=i
 {subst e; unfold also; rw[Nat.beq_refl]; rfl}
 {unfold also;have:Nat.beq k i=false:=by cases a:Nat.beq k i <;> first | rfl | exact absurd (Nat.eq_of_beq_eq_true a) e
  rw[this]; exact h}
theorem ne9 (d:Nat->Bool) {i j:Nat} (h:j≠i):also d i j=d j:=by
 unfold also;have:Nat.beq j i=false:=by cases a:Nat.beq j i <;> first | rfl | exact absurd (Nat.eq_of_beq_eq_true a) h
 rw[this]; rfl
theorem self9 (d:Nat->Bool) (i:Nat):also d i i=true:=by unfold also; rw[Nat.beq_refl]; rfl
section
variable (h : X.Inv d u W) {i : Nat}
include h i
theorem Inv.vals' {v:Value} (b: ∀v',X.val i=some v'->v=v'): ∀j,also d i j=true-> ∀v',X.val j=some v'->upd u i v j=v':=fun j hj v' hv'=>by
 by_cases a:j=i
 {subst a; rw[Z06]; exact b v' hv'}
 {rw[ne9 d a] at hj; rw[Z02 u v a]; exact h.vals j hj v' hv'}
theorem Inv.pure (f:i=0\/i=1\/i=2\/i=4\/i=9) {v:Value} (e: ∀v',X.val i=some v'->v=v'):X.Inv (also d i) (upd u i v) W:=by
 have k: ∀j,j=3\/j=5\/j=6\/j=7\/j=8\/j=10->also d i j=d j/\upd u i v j=u j:=fun j hj=>⟨ne9 d (by omega),Z02 u v (by omega)⟩;refine ⟨h.vals' e, ?_, ?_, ?_, ?_, ?_, ?_⟩
 {rw[(k 6 (by omega)).1]; exact fun c k hk=>mono9 i (h.e6 c k hk)}
 {rw[(k 7 (by omega)).1,(k 6 (by omega)).1]; exact h.e7}
 {rw[(k 8 (by omega)).1,(k 6 (by omega)).1]; exact h.e8}
 {rw[(k 10 (by omega)).1,(k 6 (by omega)).1]; exact h.e10}
 {rw[(k 6 (by omega)).1];intro c;obtain ⟨a,b,c3,c5⟩:=h.pre c;refine ⟨a, ?_, ?_, ?_⟩
  {rw[(k 3 (by omega)).1]; exact b}
  {rw[(k 3 (by omega)).1,(k 3 (by omega)).2]; exact c3}
  {rw[(k 5 (by omega)).1,(k 5 (by omega)).2]; exact c5}}
 {rw[(k 6 (by omega)).1];intro c;obtain ⟨x,g,cp,p⟩:=h.post c;refine ⟨x,g,cp, ?_, ?_, ?_,p.par,p.is,p.r,p.lo,p.far,p.new,p.up, ?_, ?_,p.rest,p.fz⟩
  {rw[(k 3 (by omega)).2]; exact p.u3}
  {rw[(k 6 (by omega)).2]; exact p.u6}
  {rw[(k 7 (by omega)).1,(k 7 (by omega)).2]; exact p.u7}
  {rw[(k 8 (by omega)).1]; exact p.row}
  {rw[(k 10 (by omega)).1]; exact p.cell}}
theorem Inv.early (c:i < 6) (b:d i=false):d 6=false:=by
 cases a:d 6 with
 | false=>rfl
 | true=>have:=h.e6 a i c; rw[b] at this; cases this
theorem Inv.first (b:i < 6) (a:d i=false):UpT [X.bp] X.w W:=(h.pre (h.early b a)).up
end
theorem Inv.cell (h:X.Inv d u W) (a:X.Good) {i:Nat} (e:i < 6) (c:d i=false):W.cell? ⟨X.ob,X.fo,none⟩=some (.slice X.AR X.xs.length X.cap)/\X.ob < W.heap.size:=by
 have b:=h.first e c;exact ⟨((b.same a.oblt (by simp[a.obne])).1 _).trans a.cell,Nat.lt_of_lt_of_le a.oblt b.size⟩
section
variable (h : X.Inv d u W)
include h
theorem Inv.s3 (n:d 3=false) {x:ES} (p:PAt W' X.bp X.A X.c X.l X.τ) (f:UpT [X.bp] W W') (t:x.Is W') (o:W.heap.size<=x.lo) (q:X.R x) (i:X.Good):X.Inv (also d 3) (upd u 3 (valS x)) W':=by
 have c:=h.early (by omega) n;obtain ⟨a,b,c3,c5⟩:=h.pre c;have k: ∀j,j≠3->also d 3 j=d j/\upd u 3 (valS x) j=u j:=fun j hj=>⟨ne9 d hj,Z02 u _ hj⟩;refine ⟨h.vals' (by intro A g; cases g), ?_, ?_, ?_, ?_, ?_, ?_⟩
 {rw[(k 6 (by omega)).1,c]; intro e; cases e}
 {rw[(k 7 (by omega)).1,(k 6 (by omega)).1]; exact h.e7}
 {rw[(k 8 (by omega)).1,(k 6 (by omega)).1]; exact h.e8}
 {rw[(k 10 (by omega)).1,(k 6 (by omega)).1]; exact h.e10}
 {intro _;have s:=a.size;refine ⟨a.trans f, ?_,fun _=>⟨x,Z06 _ _ _,p,t,by omega,q⟩, ?_⟩
  {rw[self9]; intro e; cases e}
  {rw[(k 5 (by omega)).1,(k 5 (by omega)).2];intro m;obtain ⟨w,e1,e2,e3,l⟩:=c5 m;have y:=i.bpB;have z:=i.Bw;have r:=f.same e3 (by simp; omega);exact ⟨w,e1,e2,Nat.lt_of_lt_of_le e3 f.size,fun j v hv=>(r.1 j).trans (l j v hv)⟩}}
 {rw[(k 6 (by omega)).1,c]; intro e; cases e}
theorem Inv.s5 (m:d 5=false) (n:X.Good) (t:TypeId):X.Inv (also d 5) (upd u 5 (.slice (some ⟨W.heap.size,0,none⟩) 1 1)) (W.alloc (.cells Yb t)):=by
 have f:=h.early (by omega) m;obtain ⟨a,b,c3,c5⟩:=h.pre f;have k: ∀j,j≠5->also d 5 j=d j/\upd u 5 (.slice (some ⟨W.heap.size,0,none⟩) 1 1) j=u j:=fun j hj=>⟨ne9 d hj,Z02 u _ hj⟩;have c:=Z01 W (.cells Yb t);refine ⟨h.vals' (by intro o g; cases g), ?_, ?_, ?_, ?_, ?_, ?_⟩
 {rw[(k 6 (by omega)).1,f]; intro e; cases e}
 {rw[(k 7 (by omega)).1,(k 6 (by omega)).1]; exact h.e7}
 {rw[(k 8 (by omega)).1,(k 6 (by omega)).1]; exact h.e8}
 {rw[(k 10 (by omega)).1,(k 6 (by omega)).1]; exact h.e10}
 {intro _;refine ⟨a.below c, ?_, ?_,fun _=>⟨W.heap.size,Z06 _ _ _,a.size,by simp,fun j v hv=> ?_⟩⟩
  {rw[(k 3 (by omega)).1]; exact fun e=>Z03 (b e) c}
  {rw[(k 3 (by omega)).1,(k 3 (by omega)).2];intro l;obtain ⟨x,e1,e2,e3,e4,i⟩:=c3 l;exact ⟨x,e1,e2.below c,New.below e3 c,e4,i⟩}
  {rw[World.cell?_alloc_at _ _ _ _ rfl];simpa[zerosS] using hv}}
 {rw[(k 6 (by omega)).1,f]; intro e; cases e}
theorem Inv.s6 (o:d 6=false) (w: ∀k,k < 6->d k=true) {g cp:Nat} (i:X.Good) (n:W'.ownsRow X.B 28 5 (.slice (some ⟨g,0,none⟩) (X.xs.length+1) cp) (X.xs.length+1) (X.xs.flatMap cS++zerosS))
 (l:W.grownBy W' (rowT X.AR)) (m:rowT X.AR=some g\/g=W.heap.size):X.Inv (also d 6) (upd u 6 (.slice (some ⟨g,0,none⟩) (X.xs.length+1) cp)) W':=by
 obtain ⟨a,b,c3,c5⟩:=h.pre o;obtain ⟨x,B,C,v,D,E⟩:=c3 (w 3 (by omega));have k: ∀j,j≠6->also d 6 j=d j/\upd u 6 (.slice (some ⟨g,0,none⟩) (X.xs.length+1) cp) j=u j:=fun j hj=>⟨ne9 d hj,Z02 u _ hj⟩;have z:d 7=false:=by cases e:d 7 with | false=>rfl | true=>have:=h.e7 e; rw[o] at this; cases this
 have A:d 8=false:=by cases e:d 8 with | false=>rfl | true=>have:=h.e8 e; rw[o] at this; cases this
 have p:d 10=false:=by cases e:d 10 with | false=>rfl | true=>have:=h.e10 e; rw[o] at this; cases this
 have r:=a.size;have f: ∀k,rowT X.AR=some k->X.B<=k/\k < X.w.heap.size:=fun k hk=>i.row.lt k hk;have F:=i.Bw;have t:UpT (rowT X.AR).toList W W':=⟨l.os,l.tape,l.output,l.size,fun x c h2=>l.block x c (fun e=>h2 (by rw[<-e]; simp))⟩;have q:SameT X.w W' X.ob:=(a.same i.oblt (by simp[i.obne])).trans (t.same (Nat.lt_of_lt_of_le i.oblt r) (by
  intro G;have c:rowT X.AR=some X.ob:=by simpa using G
  have:=f _ c; have:=i.obB; omega))
 refine ⟨h.vals' (by intro H s; cases s),fun _ j hj=>mono9 6 (w j hj), ?_, ?_, ?_, ?_, ?_⟩
 {intro _; exact self9 _ _}
 {intro _; exact self9 _ _}
 {intro _; exact self9 _ _}
 {rw[self9]; intro e; cases e}
 {intro _;refine ⟨x,g,cp, ?_,Z06 _ _ _, ?_,C.keep t (fun k hk=> ?_),New.grown v l (fun k hk=>Or.inl ?_),E,D, ?_, ?_, ?_, ?_, ?_,fun j hj=>q.1 j,fun j=>q.2 j⟩
  {rw[(k 3 (by omega)).2]; exact B}
  {rw[(k 7 (by omega)).1,z]; intro e; cases e}
  {have c:rowT X.AR=some k:=by simpa using hk
   have:=f _ c; have:=i.bpB; omega}
  {have:=f _ hk; omega}
  {rcases m with c | c
   {left; have:=f _ c; omega}
   {right; have:=v.hi_; omega}}
  {rcases m with c | c
   {exact Or.inl c}
   {exact Or.inr (by omega)}}
  {exact (a.mono (fun y hy _=>by simp at hy; simp[hy])).trans (t.mono (fun y hy _=>by simp at hy; simp[hy]))}
  {rw[(k 8 (by omega)).1,A]; simpa using n}
  {rw[(k 10 (by omega)).1,p]; exact (q.1 _).trans i.cell}}
theorem Inv.s7 (a:d 6=true) {v:Value} (c: ∀x g cp,X.PostX d u W x g cp->v= .pointer (some ⟨g,X.xs.length * 5,none⟩)):X.Inv (also d 7) (upd u 7 v) W:=by
 have k: ∀j,j≠7->also d 7 j=d j/\upd u 7 v j=u j:=fun j hj=>⟨ne9 d hj,Z02 u _ hj⟩;refine ⟨h.vals' (by intro f b; cases b), ?_, ?_, ?_, ?_, ?_, ?_⟩
 {rw[(k 6 (by omega)).1]; exact fun a j hj=>mono9 7 (h.e6 a j hj)}
 {rw[(k 6 (by omega)).1]; exact fun _=>a}
 {rw[(k 8 (by omega)).1,(k 6 (by omega)).1]; exact h.e8}
 {rw[(k 10 (by omega)).1,(k 6 (by omega)).1]; exact h.e10}
 {rw[(k 6 (by omega)).1,a]; intro e; cases e}
 {intro _;obtain ⟨x,g,cp,p⟩:=h.post a;refine ⟨x,g,cp, ?_, ?_,fun _=> ?_,p.par,p.is,p.r,p.lo,p.far,p.new,p.up, ?_, ?_,p.rest,p.fz⟩
  {rw[(k 3 (by omega)).2]; exact p.u3}
  {rw[(k 6 (by omega)).2]; exact p.u6}
  {rw[Z06]; exact c x g cp p}
  {rw[(k 8 (by omega)).1]; exact p.row}
  {rw[(k 10 (by omega)).1]; exact p.cell}}
end
theorem grown_trans9 {a b c:World} {r:Option Nat} (h:a.grownBy b r) (k:b.grownBy c r):a.grownBy c r:=
 ⟨k.os.trans h.os,k.tape.trans h.tape,k.output.trans h.output,Nat.le_trans h.size k.size,fun i hi hn=>(k.block i (Nat.lt_of_lt_of_le hi h.size) hn).trans (h.block i hi hn)⟩
def putS (W:World) (g i:Nat) (x:ES):World:=(((((W).setCell ⟨g,i+0,none⟩ (.int .i64 x.t.kind)).setCell ⟨g,i+1,none⟩ (.string ⟨x.t.of_.toArray⟩)).setCell ⟨g,i+2,none⟩ (.string ⟨x.t.name.toArray⟩)).setCell ⟨g,i+3,none⟩ (.slice x.q.A x.t.names.length x.q.c)).setCell ⟨g,i+4,none⟩ (.slice x.q.P x.t.parts.length x.q.d)
section
variable (x : ES) {g cp n B : Nat} {ys : List Value} (hn : ys.length = n * 5) (h : W.ownsRow B 28 5 (.slice (some ⟨g, 0, none⟩) (n + 1) cp) (n + 1) (ys ++ zerosS))
include x g cp n B ys hn h
theorem put_row:
 (putS W g (n * 5) x).ownsRow B 28 5 (.slice (some ⟨g,0,none⟩) (n+1) cp) (n+1) (ys++cS x)/\W.grownBy (putS W g (n * 5) x) (some g):=by
 obtain ⟨l,c⟩:=World.ownsRow.stored h (n * 5+0) (.int .i64 x.t.kind);obtain ⟨m,e⟩:=World.ownsRow.stored l (n * 5+1) (.string ⟨x.t.of_.toArray⟩);obtain ⟨o,f⟩:=World.ownsRow.stored m (n * 5+2) (.string ⟨x.t.name.toArray⟩);obtain ⟨p,i⟩:=World.ownsRow.stored o (n * 5+3) (.slice x.q.A x.t.names.length x.q.c);obtain ⟨b,j⟩:=World.ownsRow.stored p (n * 5+4) (.slice x.q.P x.t.parts.length x.q.d);refine ⟨?_,(grown_trans9 (grown_trans9 (grown_trans9 (grown_trans9 c e) f) i) j)⟩;have a: ∀(zs:List Value) (k:Nat) (v:Value),(ys++zs).set (n * 5+k) v=ys++zs.set k v:=fun zs k v=>by rw[<-hn,List.set_append_right _ _ (by omega),Nat.add_sub_cancel_left]
 rw[a,a,a,a,a] at b;exact b
theorem put_zero (k:Nat) (c:k < 5): ∃v,W.cell? ⟨g,n * 5+k,none⟩=some v/\W.frozen? ⟨g,n * 5+k,none⟩=false:=by
 have a:=h.cellAt (n * 5+k) (by rw[Nat.add_mul]; omega);rw[List.getElem?_append_right (by omega),hn,Nat.add_sub_cancel_left] at a;have b:k < zerosS.length:=c;rw[List.getElem?_eq_getElem b] at a;exact ⟨_,a,h.frozenAt _⟩
end
theorem Inv.s8 (h:X.Inv d u W) (s:d 8=false) (l:d 6=true) (f:X.Good) {x:ES} {g cp:Nat} (p:X.PostX d u W x g cp) (v:Value):X.Inv (also d 8) (upd u 8 v) (putS W g (X.xs.length * 5) x):=by
 have k: ∀j,j≠8->also d 8 j=d j/\upd u 8 v j=u j:=fun j hj=>⟨ne9 d hj,Z02 u _ hj⟩;have b:=p.row;rw[s] at b;simp only[Bool.false_eq_true,if_false] at b;obtain ⟨m,a⟩:=put_row x (by rw[ZbH Zj5]) b;have t:X.B<=g/\g < W.heap.size:=b.lt g rfl;have r:=f.bpB;have A:=f.obB;have z:=p.lo;have q:=f.Bw;have c:SameT W (putS W g (X.xs.length * 5) x) X.ob:=⟨fun j=>World.cell?_of_block (w:=W) (a.block X.ob (Nat.lt_of_lt_of_le f.oblt p.up.size) (fun e=>by have:=Option.some.inj e; omega)),fun j=>World.frozen?_of_block (w:=W) (a.block X.ob (Nat.lt_of_lt_of_le f.oblt p.up.size) (fun e=>by have:=Option.some.inj e; omega))⟩;refine ⟨h.vals' (by intro B n; cases n), ?_, ?_, ?_, ?_, ?_, ?_⟩
 {rw[(k 6 (by omega)).1]; exact fun l j hj=>mono9 8 (h.e6 l j hj)}
 {rw[(k 7 (by omega)).1,(k 6 (by omega)).1]; exact h.e7}
 {rw[(k 6 (by omega)).1]; exact fun _=>l}
 {rw[(k 10 (by omega)).1,(k 6 (by omega)).1]; exact h.e10}
 {rw[(k 6 (by omega)).1,l]; intro e; cases e}
 {intro _;refine ⟨x,g,cp, ?_, ?_, ?_, ?_,New.grown p.is a (fun j hj=> ?_),p.r,p.lo,p.far,p.new, ?_, ?_, ?_,fun j hj=>(c.1 j).trans (p.rest j hj),fun j=>(c.2 j).trans (p.fz j)⟩
  {rw[(k 3 (by omega)).2]; exact p.u3}
  {rw[(k 6 (by omega)).2]; exact p.u6}
  {rw[(k 7 (by omega)).1,(k 7 (by omega)).2]; exact p.u7}
  {refine p.par.keep (F:= [g]) ⟨a.os,a.tape,a.output,a.size,fun y h1 h2=>a.block y h1 (fun e=>h2 (by rw[Option.some.inj e]; simp))⟩ (by simp; omega)}
  {obtain rfl:=Option.some.inj hj; exact p.far}
  {have i:UpT [g] W (putS W g (X.xs.length * 5) x):=⟨a.os,a.tape,a.output,a.size,fun y h1 h2=>a.block y h1 (fun e=>h2 (by rw[Option.some.inj e]; simp))⟩;refine ⟨i.os.trans p.up.os,i.tape.trans p.up.tape,i.output.trans p.up.output,Nat.le_trans p.up.size i.size,fun y h1 h2=> ?_⟩;rw[i.block y (Nat.lt_of_lt_of_le h1 p.up.size) (fun e=> ?_)]
   {exact p.up.block y h1 h2}
   {obtain rfl:y=g:=by simpa using e
    rcases p.new with o | o
    {exact h2 (by rw[o]; simp)}
    {omega}}}
  {rw[self9]; simpa using m}
  {rw[(k 10 (by omega)).1]; exact (c.1 _).trans p.cell}}
theorem Inv.s10 (h:X.Inv d u W) (A:d 10=false) (f:d 6=true) (c:X.Good) {x:ES} {g cp:Nat} (p:X.PostX d u W x g cp) (v:Value):X.Inv (also d 10) (upd u 10 v) (W.setCell ⟨X.ob,X.fo,none⟩ (.slice (some ⟨g,0,none⟩) (X.xs.length+1) cp)):=by
 have k: ∀j,j≠10->also d 10 j=d j/\upd u 10 v j=u j:=fun j hj=>⟨ne9 d hj,Z02 u _ hj⟩;have t:X.B<=g/\g < W.heap.size:=p.row.lt g rfl;have s:=c.bpB;have z:=c.obB;have w:=p.lo;have r:=c.Bw;have l:=c.obne;have o:=c.bpob;have i:UpT [X.ob] W (W.setCell ⟨X.ob,X.fo,none⟩ (.slice (some ⟨g,0,none⟩) (X.xs.length+1) cp)):=(UpT.refl _ _).set _ (Or.inr (by simp)) _;refine ⟨h.vals' (by intro B n; cases n), ?_, ?_, ?_, ?_, ?_, ?_⟩
 {rw[(k 6 (by omega)).1]; exact fun f j hj=>mono9 10 (h.e6 f j hj)}
 {rw[(k 7 (by omega)).1,(k 6 (by omega)).1]; exact h.e7}
 {rw[(k 8 (by omega)).1,(k 6 (by omega)).1]; exact h.e8}
 {rw[(k 6 (by omega)).1]; exact fun _=>f}
 {rw[(k 6 (by omega)).1,f]; intro e; cases e}
 {intro _;have m:PAt (W.setCell ⟨X.ob,X.fo,none⟩ (.slice (some ⟨g,0,none⟩) (X.xs.length+1) cp)) X.bp X.A X.c X.l X.τ:=by
   have q: ∀b,b≠X.ob->SameT W (W.setCell ⟨X.ob,X.fo,none⟩ (.slice (some ⟨g,0,none⟩) (X.xs.length+1) cp)) b:=fun b a=>ZdC _ _ _ (fun e=>a (by simpa using e.symm));have a:=q X.bp (fun e=>l e.symm);exact ⟨Nat.lt_of_lt_of_le p.par.lt i.size,(a.1 0).trans p.par.c0,(a.1 1).trans p.par.c1,(a.1 2).trans p.par.c2,(a.1 3).trans p.par.c3,fun k=>(a.2 k).trans (p.par.fz k),p.par.tk.same (fun b hb2=>q b (by omega)),p.par.gs.up i (by simp; omega),p.par.tx⟩
  refine ⟨x,g,cp, ?_, ?_, ?_,m,New.up p.is i (by simp; omega),p.r,p.lo,p.far,p.new, ?_, ?_, ?_,fun j hj=> ?_,fun j=> ?_⟩
  {rw[(k 3 (by omega)).2]; exact p.u3}
  {rw[(k 6 (by omega)).2]; exact p.u6}
  {rw[(k 7 (by omega)).1,(k 7 (by omega)).2]; exact p.u7}
  {exact p.up.trans (i.mono (fun y hy _=>by simp at hy; simp[hy]))}
  {rw[(k 8 (by omega)).1]; exact Zdt p.row (by intro e; have:=Option.some.inj e; simp at this; omega) _}
  {rw[self9,if_pos rfl]; exact World.cell?_setCell_same _ _ _ p.cell}
  {rw[World.cell?_setCell_other _ _ _ _ (fun e=>hj (by have:=congrArg Addr.off e; simpa using this.symm))]; exact p.rest j hj}
  {rw[World.frozen?_setCell]; exact p.fz j}}
end CtxS
structure FrameS (pos:String) (b s p:Nat) (tC fi fn:Nat) (A: (Nat->Value)->Act) (vs vp:Value):Prop where
 put: ∀(i:Nat) o,(opsS pos b s p tC fi fn)[i]? =some o-> ∀u v,(A u).put o.dst v=A (upd u i v)
 es: ∀u,(A u).eval (.tmp s)=vs
 ep: ∀u,(A u).eval (.tmp p)=vp
 e0: ∀u,(A u).eval (.tmp b)=u 0
 e1: ∀u,(A u).eval (.tmp (b+1))=u 1
 e2: ∀u,(A u).eval (.tmp (b+2))=u 2
 e3: ∀u,(A u).eval (.tmp (b+3))=u 3
 e4: ∀u,(A u).eval (.tmp (b+4))=u 4
 e5: ∀u,(A u).eval (.tmp (b+5))=u 5
 e6: ∀u,(A u).eval (.tmp (b+6))=u 6
 e7: ∀u,(A u).eval (.tmp (b+7))=u 7
 e9: ∀u,(A u).eval (.tmp (b+8))=u 9
theorem regS {Q:Exit->Act->World->Prop} {id:Nat} (pos:String) (b s p:Nat) (t q n:Nat) (X:CtxS) (l:X.Good) (w:Nat) (I:X.w.cell? ⟨w,0,none⟩=some (.pointer (some ⟨X.bp,0,none⟩))) (C:w < X.w.heap.size) (J:w≠X.bp)
 (A: (Nat->Value)->Act) (S:Nat->Value) (i:FrameS pos b s p t q n A (.pointer (some ⟨X.ob,0,none⟩)) (.pointer (some ⟨w,0,none⟩)))
 (hfa: ∀W,(Instr.fieldAt t (.pointer (some ⟨X.ob,0,none⟩)) q).run Tryz.prog W= .ok (.pointer (some ⟨X.ob,X.fo,none⟩)) W)
 (a8: ∀args W,(callFunc n args).run Tryz.prog W= .ok (.enter n args) W)
 (r: ∀W,Below X.w.heap.size X.w W->Calls Tryz.prog n #[.pointer (some ⟨X.bp,0,none⟩)] W fun e W'=> ∃x:ES,e= .returned (valS x)/\PAt W' X.bp X.A X.c X.l X.τ/\UpT [X.bp] W W'/\x.Is W'/\W.heap.size<=x.lo/\X.R x)
 (hQ: ∀u W x g cp,X.PostX (fun _=>true) u W x g cp->Q .normal (A u) W):
 (Code.region id (opsS pos b s p t q n) true).wp Tryz.prog Q (A S) X.w:=by
 obtain ⟨i0,H,K,L,M⟩:=ZcW Zhe;have O:=i.es;have U:=i.ep;have a6:Tryz.prog.cellsOf 26=1:=by kernel_rfl
 have a7:Tryz.prog.cellsOf 52=1:=by kernel_rfl
 refine Z3a (rs:= [0,1,2,3,4,5,6,7,8,9,10]) A S X.Inv (by kernel_rfl) (by kernel_rfl) (by kernel_rfl) l.start ?_ ?_;refine StepsInv.cons (oS0 pos b s t q) rfl (fun d u W K' a c hw hK=> ?_) ?_
 {refine Z00 (v:= .pointer (some ⟨X.ob,X.fo,none⟩)) (W':=W) rfl ?_ (by rw[i.put 0 (oS0 pos b s t q) rfl u _]; exact hK.out _ _ (a.pure (by decide) (fun v' h=>by cases h; rfl)));simp only[execOp,oS0,O u,hfa,Sem.run_bind,Result.andThen_ok,Sem.run_pure]}
 refine StepsInv.cons (oS1 pos b) rfl (fun d u W K' a c hw hK=> ?_) ?_
 {have e0:=i.e0 u;rw[a.vals 0 (hw 0 (by kernel_rfl)) _ rfl] at e0;obtain ⟨E,z⟩:=a.cell l (by decide) c;refine Z00 (v:= .slice X.AR X.xs.length X.cap) (W':=W) rfl ?_ (by rw[i.put 1 (oS1 pos b) rfl u _]; exact hK.out _ _ (a.pure (by decide) (fun v' h=>by cases h; rfl)));simp only[execOp,oS1,e0,Sem.run_bind,Result.andThen_ok,Sem.run_pure];go_simp}
 refine StepsInv.cons (oS2 pos b p) rfl (fun d u W K' a c hw hK=> ?_) ?_
 {obtain ⟨E,z⟩:W.cell? ⟨w,0,none⟩=some (.pointer (some ⟨X.bp,0,none⟩))/\w < W.heap.size:=⟨(((a.first (by decide) c).same C (by simp[J])).1 _).trans I,Nat.lt_of_lt_of_le C (a.first (by decide) c).size⟩;refine Z00 (v:= .pointer (some ⟨X.bp,0,none⟩)) (W':=W) rfl ?_ (by rw[i.put 2 (oS2 pos b p) rfl u _]; exact hK.out _ _ (a.pure (by decide) (fun v' h=>by cases h; rfl)));simp only[execOp,oS2,U u,Sem.run_bind,Result.andThen_ok,Sem.run_pure];go_simp}
 refine StepsInv.cons (oS3 pos b n) rfl (fun d u W K' a c hw hK=> ?_) ?_
 {have e2:=i.e2 u;rw[a.vals 2 (hw 2 (by kernel_rfl)) _ rfl] at e2;have G:=(a.pre (a.early (by decide) c)).b3 c;refine Z1n (f:=n) (args:=#[.pointer (some ⟨X.bp,0,none⟩)]) (W':=W) rfl ?_ ((r W G).mono ?_)
  {simp only[execOp,oS3,e2,Sem.run_bind,Result.andThen_ok,Sem.run_pure,resolve,invoke,List.map_toArray,List.map_cons,List.map_nil];have T: (A u).eval (.func n)= .func (.func n) #[] #[]:=rfl;rw[T];go_simp}
  {rintro e W' ⟨x,rfl,Y,Z,h3,h4,h5⟩;exact ⟨_,rfl,by rw[i.put 3 (oS3 pos b n) rfl u _]; exact hK.out _ _ (a.s3 c Y Z h3 h4 h5 l)⟩}}
 refine StepsInv.cons (oS4 pos b) rfl (fun d u W K' a c hw hK=> ?_) ?_
 {have e1:=i.e1 u;rw[a.vals 1 (hw 1 (by kernel_rfl)) _ rfl] at e1;refine Z00 (v:= .int .i64 (X.xs.length:Int)) (W':=W) rfl ?_ (by rw[i.put 4 (oS4 pos b) rfl u _]; exact hK.out _ _ (a.pure (by decide) (fun v' h=>by cases h; rfl)));simp only[execOp,oS4,e1,Sem.run_bind,Result.andThen_ok,Sem.run_pure,resolve,invoke,List.map_toArray,List.map_cons,List.map_nil];go_simp}
 refine StepsInv.cons (oS5 pos b) rfl (fun d u W K' a c hw hK=> ?_) ?_
 {refine Z00 (v:= .slice (some ⟨W.heap.size,0,none⟩) 1 1) (W':=W.alloc (.cells Yb 28)) rfl ?_ (by rw[i.put 5 (oS5 pos b) rfl u _]; exact hK.out _ _ (a.s5 c l _));simp only[execOp,oS5,Sem.run_bind,Result.andThen_ok,Sem.run_pure];go_simp}
 refine StepsInv.cons (oS6 pos b) rfl (fun d u W K' a c hw hK=> ?_) ?_
 {have e1:=i.e1 u;rw[a.vals 1 (hw 1 (by kernel_rfl)) _ rfl] at e1;obtain ⟨z0,u5,z1,z2,z3⟩:=(a.pre c).a5 (hw 5 (by kernel_rfl));have N:=i.e5 u;rw[u5] at N;have a5:=l.bpB;have F:=l.row.up (a.pre c).up (fun x hx=>by simp at hx; subst hx; intro e; have:=l.row.lt _ e; omega);have b1:=l.len;have a3:=l.Bw;have b4:=(a.pre c).up.size;refine step_append_lies W rfl _ _ 26 rfl X.B 28 i0 (.agg #[.int .i64 0,.string ByteArray.empty,.string ByteArray.empty,.slice none 0 0,.slice none 0 0]) 5 88 Tryz.underlying26 H K L M rfl (by decide) _ _ _ e1 F ⟨z0,0,none⟩ 1 1 zerosS N rfl (fun j v hv=>by rw[Z0d,Nat.zero_add]; exact z3 j v hv) (by decide) (by decide) (by unfold maxLen; omega) (by omega) (by omega) _ rfl ?_;intro g cp W' B P y z;rw[i.put 6 (oS6 pos b) rfl u _];exact hK.out _ _ (a.s6 c (fun k hk=>hw k (by
   rcases k with _ | _ | _ | _ | _ | _ | k
   {kernel_rfl}
   {kernel_rfl}
   {kernel_rfl}
   {kernel_rfl}
   {kernel_rfl}
   {kernel_rfl}
   · omega)) l B (by rw[ZcQ] at P; exact P) (by rw[ZcQ] at y; exact y))}
 refine StepsInv.cons (oS7 pos b) rfl (fun d u W K' a c hw hK=> ?_) ?_
 {have o:=hw 6 (by kernel_rfl);obtain ⟨x,g,cp,p⟩:=a.post o;have e6:=i.e6 u;rw[p.u6] at e6;have e4:=i.e4 u;rw[a.vals 4 (hw 4 (by kernel_rfl)) _ rfl] at e4;refine Z00 (v:= .pointer (some ⟨g,X.xs.length * 5,none⟩)) (W':=W) rfl ?_ (by rw[i.put 7 (oS7 pos b) rfl u _]; exact hK.out _ _ (a.s7 o (fun x' g' cp' p'=>by
   have:=p.u6.symm.trans p'.u6;simp only[Value.slice.injEq,Option.some.injEq,Addr.mk.injEq,and_true] at this;rw[this.1])))
  simp only[execOp,oS7,e6,e4,Sem.run_bind,Result.andThen_ok,Sem.run_pure];go_simp;intro h; omega}
 refine StepsInv.cons (oS8 pos b) rfl (fun d u W K' a c hw hK=> ?_) ?_
 {have o:=a.e7 (hw 7 (by kernel_rfl));obtain ⟨x,g,cp,p⟩:=a.post o;have e7:=i.e7 u;rw[p.u7 (hw 7 (by kernel_rfl))] at e7;have e3:=i.e3 u;rw[p.u3] at e3;have m:=p.row;rw[c] at m;simp only[Bool.false_eq_true,if_false] at m;have D:=CtxS.put_zero x (by rw[ZbH Zj5]) m;have b0:=(m.lt g rfl).2;have hs:=a.s8 c o l p undef;refine Z2E (W':=CtxS.putS W g (X.xs.length * 5) x) rfl ?_ (by rw[i.put 8 (oS8 pos b) rfl u _]; exact hK.out _ _ hs);simp only[execOp,oS8,e7,e3,Sem.run_bind,Result.andThen_ok,Sem.run_pure,valS];obtain ⟨y0,c0,V⟩:=D 0 (by decide);obtain ⟨y1,c1,f1⟩:=D 1 (by decide);obtain ⟨y2,c2,f2⟩:=D 2 (by decide);obtain ⟨y3,c3,f3⟩:=D 3 (by decide);obtain ⟨y4,c4,f4⟩:=D 4 (by decide);simp only[Nat.add_zero] at c0 V;go_simp;rfl}
 refine StepsInv.cons (oS9 pos b s t q) rfl (fun d u W K' a c hw hK=> ?_) ?_
 {refine Z00 (v:= .pointer (some ⟨X.ob,X.fo,none⟩)) (W':=W) rfl ?_ (by rw[i.put 9 (oS9 pos b s t q) rfl u _]; exact hK.out _ _ (a.pure (by decide) (fun v' h=>by cases h; rfl)));simp only[execOp,oS9,O u,hfa,Sem.run_bind,Result.andThen_ok,Sem.run_pure]}
 refine StepsInv.cons (oS10 pos b) rfl (fun d u W K' a c hw hK=> ?_) StepsInv.nil
 {have o:=hw 6 (by kernel_rfl);obtain ⟨x,g,cp,p⟩:=a.post o;have e6:=i.e6 u;rw[p.u6] at e6;have e9:=i.e9 u;rw[a.vals 9 (hw 9 (by kernel_rfl)) _ rfl] at e9;have E:=p.cell;rw[c] at E;simp only[Bool.false_eq_true,if_false] at E;have a9:=(p.fz X.fo).trans l.fz;have b2:=Nat.lt_of_lt_of_le l.oblt p.up.size;refine Z2E (W':=W.setCell ⟨X.ob,X.fo,none⟩ (.slice (some ⟨g,0,none⟩) (X.xs.length+1) cp)) rfl ?_ (by rw[i.put 10 (oS10 pos b) rfl u _]; exact hK.out _ _ (a.s10 c o l p undef));simp only[execOp,oS10,e9,e6,Sem.run_bind,Result.andThen_ok,Sem.run_pure];go_simp}
 {intro d u W a c;obtain ⟨x,g,cp,p⟩:=a.post (c 6 (by show 6 < 11; omega));refine hQ u W x g cp ⟨p.u3,p.u6,fun _=>p.u7 (c 7 (by show 7 < 11; omega)),p.par,p.is,p.r,p.lo,p.far,p.new,p.up, ?_, ?_,p.rest,p.fz⟩
  {have:=p.row; rw[c 8 (by show 8 < 11; omega)] at this; exact this}
  {have:=p.cell; rw[c 10 (by show 10 < 11; omega)] at this; exact this}}
end
end Go.Proofs.YtgndehppmaacaaaGreatDoor
namespace Go.Proofs.YtgndehppmaacaaaGreatDoor
open Go.RowKit
def Shutd (ops:Array Oper) (d:Nat->Bool):Prop:= ∀k o,ops[k]? =some o->d k=true-> ∀m,waits o m=true->d m=true
section
variable {P : Program} {ops : Array Oper} {Q : Exit -> Act -> World -> Prop} {d : Nat -> Bool}
theorem Z5B (i:Nat) {k:Nat} (h:d k=true):also d i k=true:=by
 unfold also;cases Nat.beq k i
 {exact h}
 {rfl}
theorem Shutd.also (h:Shutd ops d) {i:Nat} {o:Oper} (g:ops[i]? =some o) (l: ∀j,waits o j=true->d j=true):Shutd ops (also d i):=by
 intro k n a b m c;by_cases e:k=i
 {subst e;rw[g] at a;obtain rfl:=Option.some.inj a;exact Z5B _ (l m c)}
 {have:Go.Proofs.YtgndehppmaacaaaGreatDoor.also d i k=d k:=by
   unfold Go.Proofs.YtgndehppmaacaaaGreatDoor.also;have:Nat.beq k i=false:=by cases f:Nat.beq k i <;> first | rfl | exact absurd (Nat.eq_of_beq_eq_true f) e
   rw[this]; rfl
  rw[this] at b;exact Z5B _ (h k n a b m c)}
theorem StepsInv.cons2 {A: (Nat->Value)->Act} {I: (Nat->Bool)->(Nat->Value)->World->Prop} {i:Nat} {rs:List Nat} (o:Oper) (a:ops[i]? =some o)
 (h: ∀(d:Nat->Bool) (u:Nat->Value) (W:World) (K':Act->World->Prop),Shutd ops d->I d u W->d i=false->(∀j,waits o j=true->d j=true)->
  Shut (∀v w',I (also d i) (upd u i v) w'->K' (A (upd u i v)) w')->
  if Region.wanted o (yielded ops (A u).tmps)=true then Oper.wp P o (A u) W K' Q else K' ((A u).put o.dst undef) W)
 (b:StepsInv P ops Q A (fun d u W=>Shutd ops d/\I d u W) rs):StepsInv P ops Q A (fun d u W=>Shutd ops d/\I d u W) (i::rs):=
 StepsInv.cons o a (fun d u W K' hI hd hw hK=>h d u W K' hI.1 hI.2 hd hw (fun v w' hv=>hK _ _ ⟨hI.1.also a hw,hv⟩)) b
theorem Z1Z {id:Nat} {w:World} {rs:List Nat} (A: (Nat->Value)->Act) (e:Nat->Value) (I: (Nat->Bool)->(Nat->Value)->World->Prop) (i:P.follows .mixedOrders=true) (g:lowAfter ops=true)
 (c:List.range ops.size=rs) (f:I (fun _=>false) e w.drew) (b:StepsInv P ops Q A (fun d u W=>Shutd ops d/\I d u W) rs)
 (a: ∀d u W,I d u W->(∀j,j < ops.size->d j=true)->Q .normal (A u) W):
 (Code.region id ops true).wp P Q (A e) w:=
 Z3a A e (fun d u W=>Shutd ops d/\I d u W) i g c ⟨fun _ _ _ h=>(by cases h),f⟩ b (fun d u W h=>a d u W h.2)
end
end Go.Proofs.YtgndehppmaacaaaGreatDoor
namespace Go.Proofs.YtgndehppmaacaaaGreatDoor
open Go.RowKit Tms
open Shp (Sh)
open Pso (St)
structure EN where
 t:List UInt8
 lo:Nat
 hi:Nat
def EN.Is (x:EN) (W:World):Prop:=New x.lo x.hi W (fun _=>True)
def valN (x:EN):Value:= .string ⟨x.t.toArray⟩
def cNN (x:EN):List Value:= [.string ⟨x.t.toArray⟩]
theorem ZkK (x:EN): ∀u∈cNN x,u.oneCell'=true:=by
 intro u a;simp only[cNN,List.mem_cons,List.not_mem_nil,or_false] at a;subst a; rfl
def enOf (l:List (List UInt8)):List EN:=l.map fun t=>⟨t,0,0⟩
theorem Zgu (l:List (List UInt8)): (enOf l).flatMap cNN=l.flatMap cN:=by
 induction l with
 | nil=>rfl
 | cons a l ih=>simp only[enOf,List.map_cons,List.flatMap_cons] at ih ⊢; rw[ih]; rfl
theorem Zd4 (l:List (List UInt8)): (enOf l).length=l.length:=by simp[enOf]
theorem Zja {W:World} {B c:Nat} {A:Option Addr} {l:List (List UInt8)} (h:Row W B 9 1 cN A c l):Row W B 9 1 cNN A c (enOf l):=by
 unfold Row at h ⊢; rw[Zd4,Zgu]; exact h
structure PtxN where
 w:World
 bp:Nat
 A:Option Addr
 c:Nat
 l:List Tk
 τ:St
 ob:Nat
 fo:Nat
 B:Nat
 AR:Option Addr
 cap:Nat
 xs:List EN
 R:EN->Prop
 fnN:Nat
namespace PtxN
variable (X : PtxN)
def val (j:Nat):Option Value:=match j with
 | 0=>some (.pointer (some ⟨X.ob,X.fo,none⟩))
 | 1=>some (.slice X.AR X.xs.length X.cap)
 | 2=>some (.pointer (some ⟨X.bp,0,none⟩))
 | 3=>some (.pointer (some ⟨X.bp,0,none⟩))
 | 4=>some (.pointer (some ⟨X.bp,0,none⟩))
 | 8=>some (.pointer (some ⟨X.ob,X.fo,none⟩))
 | _=>none
structure Good:Prop where
 cell:X.w.cell? ⟨X.ob,X.fo,none⟩=some (.slice X.AR X.xs.length X.cap)
 fz:X.w.frozen? ⟨X.ob,X.fo,none⟩=false
 oblt:X.ob < X.w.heap.size
 bpob:X.bp < X.ob
 row:Row X.w X.B 9 1 cNN X.AR X.cap X.xs
 obB:X.ob < X.B
 bpB:X.bp < X.B
 Bw:X.B<=X.w.heap.size
 len:X.xs.length<=900000
structure Mid (d:Nat->Bool) (u:Nat->Value) (W:World) (x:EN):Prop where
 uC:u 5=valN x
 par:PAt W X.bp X.A X.c X.l X.τ
 up:UpT [X.bp] X.w W
 is:x.Is W
 r:X.R x
 lo:X.w.heap.size<=x.lo
 aS:d 6=true-> ∃z0,u 6= .slice (some ⟨z0,0,none⟩) 1 1/\X.w.heap.size<=z0/\z0 < W.heap.size/\ ∀(j:Nat) v,(cNN x)[j]? =some v->W.cell? ⟨z0,j,none⟩=some v
structure Post (d:Nat->Bool) (u:Nat->Value) (W:World) (x:EN) (g cp:Nat):Prop where
 uA:u 7= .slice (some ⟨g,0,none⟩) (X.xs.length+1) cp
 par:PAt W X.bp X.A X.c X.l X.τ
 is:x.Is W
 r:X.R x
 lo:X.w.heap.size<=x.lo
 far:g < x.lo\/x.hi<=g
 new:rowT X.AR=some g\/X.w.heap.size<=g
 up:UpT (X.bp::X.ob::(rowT X.AR).toList) X.w W
 row:W.ownsRow X.B 9 1 (.slice (some ⟨g,0,none⟩) (X.xs.length+1) cp) (X.xs.length+1) (X.xs.flatMap cNN++cNN x)
 cell:W.cell? ⟨X.ob,X.fo,none⟩=some (if d 9=true then .slice (some ⟨g,0,none⟩) (X.xs.length+1) cp else .slice X.AR X.xs.length X.cap)
 rest: ∀j,j≠X.fo->W.cell? ⟨X.ob,j,none⟩=X.w.cell? ⟨X.ob,j,none⟩
 fz: ∀j,W.frozen? ⟨X.ob,j,none⟩=X.w.frozen? ⟨X.ob,j,none⟩
structure Inv (d:Nat->Bool) (u:Nat->Value) (W:World):Prop where
 vals: ∀j,d j=true-> ∀v,X.val j=some v->u j=v
 pre:d 5=false->Below X.w.heap.size X.w W
 mid:d 5=true->d 7=false-> ∃x,X.Mid d u W x
 post:d 7=true-> ∃x g cp,X.Post d u W x g cp
variable {X : PtxN} {d : Nat -> Bool} {u : Nat -> Value} {W W' : World}
theorem Good.start (h:X.Good):X.Inv (fun _=>false) u X.w.drew:=⟨nofun,fun _=>Y2.drew,nofun,nofun⟩
theorem ne9 (d:Nat->Bool) {i j:Nat} (h:j≠i):also d i j=d j:=by
 unfold also;have:Nat.beq j i=false:=by cases a:Nat.beq j i <;> first | rfl | exact absurd (Nat.eq_of_beq_eq_true a) h
 rw[this]; rfl
theorem self9 (d:Nat->Bool) (i:Nat):also d i i=true:=by unfold also; rw[Nat.beq_refl]; rfl
section
variable (h : X.Inv d u W)
include h
theorem Inv.vals' {i:Nat} {v:Value} (b: ∀v',X.val i=some v'->v=v'): ∀j,also d i j=true-> ∀v',X.val j=some v'->upd u i v j=v':=fun j hj v' hv'=>by
 by_cases a:j=i
 {subst a; rw[Z06]; exact b v' hv'}
 {rw[ne9 d a] at hj; rw[Z02 u v a]; exact h.vals j hj v' hv'}
theorem Inv.pure {i:Nat} (e:i < 5\/i=8) {v:Value} (c: ∀v',X.val i=some v'->v=v'):X.Inv (also d i) (upd u i v) W:=by
 have k: ∀j,j=5\/j=6\/j=7\/j=9->also d i j=d j/\upd u i v j=u j:=fun j hj=>⟨ne9 d (by omega),Z02 u v (by omega)⟩;refine ⟨h.vals' c, ?_, ?_, ?_⟩
 {rw[(k 5 (by omega)).1]; exact h.pre}
 {rw[(k 5 (by omega)).1,(k 7 (by omega)).1];intro b a;obtain ⟨x,p⟩:=h.mid b a;refine ⟨x, ?_,p.par,p.up,p.is,p.r,p.lo, ?_⟩
  {rw[(k 5 (by omega)).2]; exact p.uC}
  {rw[(k 6 (by omega)).1,(k 6 (by omega)).2]; exact p.aS}}
 {rw[(k 7 (by omega)).1];intro a;obtain ⟨x,g,cp,p⟩:=h.post a;refine ⟨x,g,cp, ?_,p.par,p.is,p.r,p.lo,p.far,p.new,p.up,p.row, ?_,p.rest,p.fz⟩
  {rw[(k 7 (by omega)).2]; exact p.uA}
  {rw[(k 9 (by omega)).1]; exact p.cell}}
theorem Inv.first (b:d 7=false):UpT [X.bp] X.w W:=by
 cases a:d 5 with
 | false=>exact ZcF (h.pre a)
 | true=>obtain ⟨x,p⟩:=h.mid a b; exact p.up
theorem Inv.sC (i:d 5=false) (f:d 6=false) (g:d 7=false) {x:EN} (l:PAt W' X.bp X.A X.c X.l X.τ) (n:UpT [X.bp] W W') (o:x.Is W') (a:W.heap.size<=x.lo) (m:X.R x):X.Inv (also d 5) (upd u 5 (valN x)) W':=by
 have k: ∀j,j≠5->also d 5 j=d j/\upd u 5 (valN x) j=u j:=fun j hj=>⟨ne9 d hj,Z02 u _ hj⟩;have c:=h.pre i;refine ⟨h.vals' (by intro p b; cases b), ?_,fun _ _=>⟨x,Z06 _ _ _,l,(ZcF c).trans n,o,m,Nat.le_trans c.size a, ?_⟩, ?_⟩
 {rw[self9]; intro e; cases e}
 {rw[(k 6 (by omega)).1,f]; intro e; cases e}
 {rw[(k 7 (by omega)).1,g]; intro e; cases e}
theorem Inv.sS (f:d 7=false) (c:d 5=true) {x:EN} (p:X.Mid d u W x) (t:TypeId):X.Inv (also d 6) (upd u 6 (.slice (some ⟨W.heap.size,0,none⟩) 1 1)) (W.alloc (.cells #[.string ⟨x.t.toArray⟩] t)):=by
 have k: ∀j,j≠6->also d 6 j=d j/\upd u 6 (.slice (some ⟨W.heap.size,0,none⟩) 1 1) j=u j:=fun j hj=>⟨ne9 d hj,Z02 u _ hj⟩;have a:=Z01 W (.cells #[.string ⟨x.t.toArray⟩] t);refine ⟨h.vals' (by intro g b; cases b), ?_,fun _ _=>⟨x, ?_,p.par.below a,p.up.below a,New.below p.is a,p.r,p.lo,fun _=>⟨W.heap.size,Z06 _ _ _,p.up.size,by simp,fun j v hv=> ?_⟩⟩, ?_⟩
 {rw[(k 5 (by omega)).1,c]; intro e; cases e}
 {rw[(k 5 (by omega)).2]; exact p.uC}
 {rw[World.cell?_alloc_at _ _ _ _ rfl];simpa[cNN] using hv}
 {rw[(k 7 (by omega)).1,f]; intro e; cases e}
theorem Inv.sA (z:d 7=false) (r:d 5=true) (s:d 9=false) {x:EN} (p:X.Mid d u W x) {g cp:Nat} (c:X.Good) (l:W'.ownsRow X.B 9 1 (.slice (some ⟨g,0,none⟩) (X.xs.length+1) cp) (X.xs.length+1) (X.xs.flatMap cNN++cNN x))
 (f:W.grownBy W' (rowT X.AR)) (i:rowT X.AR=some g\/g=W.heap.size):X.Inv (also d 7) (upd u 7 (.slice (some ⟨g,0,none⟩) (X.xs.length+1) cp)) W':=by
 have k: ∀j,j≠7->also d 7 j=d j/\upd u 7 (.slice (some ⟨g,0,none⟩) (X.xs.length+1) cp) j=u j:=fun j hj=>⟨ne9 d hj,Z02 u _ hj⟩;have n:=p.up.size;have b: ∀k,rowT X.AR=some k->X.B<=k/\k < X.w.heap.size:=fun k hk=>c.row.lt k hk;have t:=c.Bw;have v:=c.bpob;have q:UpT (rowT X.AR).toList W W':=⟨f.os,f.tape,f.output,f.size,fun x a h2=>f.block x a (fun e=>h2 (by rw[<-e]; simp))⟩;have m:SameT X.w W' X.ob:=(p.up.same c.oblt (by simp; omega)).trans (q.same (Nat.lt_of_lt_of_le c.oblt n) (by
  intro w;have a:rowT X.AR=some X.ob:=by simpa using w
  have:=b _ a; have:=c.obB; omega))
 refine ⟨h.vals' (by intro A o; cases o), ?_, ?_,fun _=>⟨x,g,cp,Z06 _ _ _,p.par.keep q (fun k hk=> ?_),New.grown p.is f (fun k hk=>Or.inl ?_),p.r,p.lo, ?_, ?_, ?_,l, ?_,fun j hj=>m.1 j,fun j=>m.2 j⟩⟩
 {rw[(k 5 (by omega)).1]; intro e; rw[r] at e; cases e}
 {rw[self9]; intro _ e; cases e}
 {have a:rowT X.AR=some k:=by simpa using hk
  have:=b _ a; have:=c.bpB; omega}
 {have:=b _ hk; have:=p.lo; omega}
 {rcases i with a | a
  {left; have:=b _ a; have:=p.lo; omega}
  {right; have:=p.is.hi_; omega}}
 {rcases i with a | a
  {exact Or.inl a}
  {exact Or.inr (by omega)}}
 {exact (p.up.mono (fun y hy _=>by simp at hy; simp[hy])).trans (q.mono (fun y hy _=>by simp at hy; simp[hy]))}
 {rw[(k 9 (by omega)).1,s]; exact (m.1 _).trans c.cell}
theorem Inv.sT (i:d 5=true) (l:d 7=true) (a:X.Good) {x:EN} {g cp:Nat} (p:X.Post d u W x g cp) (v:Value):X.Inv (also d 9) (upd u 9 v) (W.setCell ⟨X.ob,X.fo,none⟩ (.slice (some ⟨g,0,none⟩) (X.xs.length+1) cp)):=by
 have k: ∀j,j≠9->also d 9 j=d j/\upd u 9 v j=u j:=fun j hj=>⟨ne9 d hj,Z02 u _ hj⟩;have o:X.B<=g/\g < W.heap.size:=p.row.lt g rfl;have n:=a.bpB;have r:=a.obB;have q:=p.lo;have m:=a.Bw;have f:=a.bpob;have c:UpT [X.ob] W (W.setCell ⟨X.ob,X.fo,none⟩ (.slice (some ⟨g,0,none⟩) (X.xs.length+1) cp)):=(UpT.refl _ _).set _ (Or.inr (by simp)) _;refine ⟨h.vals' (by intro s b; cases b), ?_, ?_,fun _=>⟨x,g,cp, ?_,p.par.keep c (by simp; omega),New.up p.is c (by simp; omega),p.r,p.lo,p.far,p.new, ?_, ?_, ?_,fun j hj=> ?_,fun j=> ?_⟩⟩
 {rw[(k 5 (by omega)).1]; intro e; rw[i] at e; cases e}
 {rw[(k 7 (by omega)).1,l]; intro _ e; cases e}
 {rw[(k 7 (by omega)).2]; exact p.uA}
 {exact p.up.trans (c.mono (fun y hy _=>by simp at hy; simp[hy]))}
 {exact Zdt p.row (by intro e; have:=Option.some.inj e; simp at this; omega) _}
 {rw[self9,if_pos rfl]; exact World.cell?_setCell_same _ _ _ p.cell}
 {rw[World.cell?_setCell_other _ _ _ _ (fun e=>hj (by have:=congrArg Addr.off e; simpa using this.symm))]; exact p.rest j hj}
 {rw[World.frozen?_setCell]; exact p.fz j}
end
end PtxN
end Go.Proofs.YtgndehppmaacaaaGreatDoor
namespace Go.Proofs.YtgndehppmaacaaaGreatDoor
section
open Go.RowKit Tms
open Shp (Sh)
open Pso (St)
def qA0 (pos:String) (b s sp tC fi fnN:Nat):Oper:=
 { dst:=some b,op:= .fieldAddr tC (.tmp s) fi,type:=0,pos:=pos,after:=#[],guard:=none }
def qA1 (pos:String) (b s sp tC fi fnN:Nat):Oper:=
 { dst:=some (b+1),op:= .load 25 (.tmp b),type:=25,pos:=pos,after:=#[{ on:=0,ground:= .data }],guard:=none }
def qA2 (pos:String) (b s sp tC fi fnN:Nat):Oper:=
 { dst:=some (b+2),op:= .load 52 (.tmp sp),type:=52,pos:=pos,after:=#[],guard:=none }
def qA3 (pos:String) (b s sp tC fi fnN:Nat):Oper:=
 { dst:=some (b+3),op:= .nilCheck (.tmp (b+2)),type:=0,pos:=pos,after:=#[{ on:=2,ground:= .data }],guard:=none }
def qA4 (pos:String) (b s sp tC fi fnN:Nat):Oper:=
 { dst:=some (b+4),op:= .fieldAddr 66 (.tmp (b+3)) 0,type:=0,pos:=pos,after:=#[{ on:=3,ground:= .data }],guard:=none }
def qA5 (pos:String) (b s sp tC fi fnN:Nat):Oper:=
 { dst:=some (b+5),op:= .fieldAddr tC (.tmp s) fi,type:=0,pos:=pos,after:=#[],guard:=none }
def qA6 (pos:String) (b s sp tC fi fnN:Nat):Oper:=
 { dst:=some (b+6),op:= .load 25 (.tmp (b+5)),type:=25,pos:=pos,after:=#[{ on:=5,ground:= .data }],guard:=none }
def qA7 (pos:String) (b s sp tC fi fnN:Nat):Oper:=
 { dst:=some (b+7),op:= .load 52 (.tmp sp),type:=52,pos:=pos,after:=#[],guard:=none }
def qA8 (pos:String) (b s sp tC fi fnN:Nat):Oper:=
 { dst:=some (b+8),op:= .nilCheck (.tmp (b+7)),type:=0,pos:=pos,after:=#[{ on:=7,ground:= .data }],guard:=none }
def qA9 (pos:String) (b s sp tC fi fnN:Nat):Oper:=
 { dst:=some (b+9),op:= .fieldAddr 66 (.tmp (b+8)) 0,type:=0,pos:=pos,after:=#[{ on:=8,ground:= .data }],guard:=none }
def qA10 (pos:String) (b s sp tC fi fnN:Nat):Oper:=
 { dst:=some (b+10),op:= .makeFunc (.func fnN) #[.tmp (b+9)] #[],type:=83,pos:=pos,after:=#[{ on:=9,ground:= .data }],guard:=none }
def qA11 (pos:String) (b s sp tC fi fnN:Nat) (fn:Nat):Oper:=
 { dst:=some (b+11),op:= .call { callee:= .value (.func fn),args:=#[.tmp (b+4),.tmp (b+6),.tmp (b+10)],argTypes:=#[64,25,83] },type:=9,pos:=pos,after:=#[{ on:=4,ground:= .data },{ on:=6,ground:= .data },{ on:=10,ground:= .data }],guard:=none }
def qA12 (pos:String) (b s sp tC fi fnN:Nat):Oper:=
 { dst:=some (b+12),op:= .buildSlice 25 1 #[(0,.tmp (b+11))],type:=25,pos:=pos,after:=#[{ on:=11,ground:= .data }],guard:=none }
def qA13 (pos:String) (b s sp tC fi fnN:Nat):Oper:=
 { dst:=some (b+13),op:= .call { callee:= .builtin .append,args:=#[.tmp (b+1),.tmp (b+12)],argTypes:=#[25,25] },type:=25,pos:=pos,after:=#[{ on:=1,ground:= .data },{ on:=12,ground:= .data },{ on:=11,ground:= .chain }],guard:=none }
def qA14 (pos:String) (b s sp tC fi fnN:Nat):Oper:=
 { dst:=some (b+14),op:= .fieldAddr tC (.tmp s) fi,type:=0,pos:=pos,after:=#[{ on:=0,ground:= .phase },{ on:=1,ground:= .phase },{ on:=2,ground:= .phase },{ on:=3,ground:= .phase },{ on:=4,ground:= .phase },{ on:=5,ground:= .phase },{ on:=6,ground:= .phase },{ on:=7,ground:= .phase },{ on:=8,ground:= .phase },{ on:=9,ground:= .phase },{ on:=10,ground:= .phase },{ on:=11,ground:= .phase },{ on:=12,ground:= .phase },{ on:=13,ground:= .phase }],guard:=none }
def qA15 (pos:String) (b s sp tC fi fnN:Nat):Oper:=
 { dst:=none,op:= .store 25 (.tmp (b+14)) (.tmp (b+13)),type:=0,pos:=pos,after:=#[{ on:=14,ground:= .data },{ on:=13,ground:= .data },{ on:=13,ground:= .chain },{ on:=0,ground:= .phase },{ on:=1,ground:= .phase },{ on:=2,ground:= .phase },{ on:=3,ground:= .phase },{ on:=4,ground:= .phase },{ on:=5,ground:= .phase },{ on:=6,ground:= .phase },{ on:=7,ground:= .phase },{ on:=8,ground:= .phase },{ on:=9,ground:= .phase },{ on:=10,ground:= .phase },{ on:=11,ground:= .phase },{ on:=12,ground:= .phase },{ on:=13,ground:= .phase }],guard:=none }
def plnA (pos:String) (b s sp tC fi fnN:Nat) (fn:Nat):Array Oper:=
 #[qA0 pos b s sp tC fi fnN,qA1 pos b s sp tC fi fnN,qA2 pos b s sp tC fi fnN,qA3 pos b s sp tC fi fnN,qA4 pos b s sp tC fi fnN,qA5 pos b s sp tC fi fnN,qA6 pos b s sp tC fi fnN,qA7 pos b s sp tC fi fnN,qA8 pos b s sp tC fi fnN,qA9 pos b s sp tC fi fnN,qA10 pos b s sp tC fi fnN,qA11 pos b s sp tC fi fnN fn,qA12 pos b s sp tC fi fnN,qA13 pos b s sp tC fi fnN,qA14 pos b s sp tC fi fnN,qA15 pos b s sp tC fi fnN]
structure PtxA where
 w:World
 bp:Nat
 A:Option Addr
 c:Nat
 l:List Tk
 τ:St
 ob:Nat
 fo:Nat
 B:Nat
 AR:Option Addr
 cap:Nat
 xs:List EN
 R:EN->Prop
 fnN:Nat
namespace PtxA
variable (X : PtxA)
def val (j:Nat):Option Value:=match j with
 | 0=>some (.pointer (some ⟨X.ob,X.fo,none⟩))
 | 1=>some (.slice X.AR X.xs.length X.cap)
 | 2=>some (.pointer (some ⟨X.bp,0,none⟩))
 | 3=>some (.pointer (some ⟨X.bp,0,none⟩))
 | 4=>some (.pointer (some ⟨X.bp,0,none⟩))
 | 5=>some (.pointer (some ⟨X.ob,X.fo,none⟩))
 | 6=>some (.slice X.AR X.xs.length X.cap)
 | 7=>some (.pointer (some ⟨X.bp,0,none⟩))
 | 8=>some (.pointer (some ⟨X.bp,0,none⟩))
 | 9=>some (.pointer (some ⟨X.bp,0,none⟩))
 | 10=>some (.func (.func X.fnN) #[.pointer (some ⟨X.bp,0,none⟩)] #[])
 | 14=>some (.pointer (some ⟨X.ob,X.fo,none⟩))
 | _=>none
structure Good:Prop where
 cell:X.w.cell? ⟨X.ob,X.fo,none⟩=some (.slice X.AR X.xs.length X.cap)
 fz:X.w.frozen? ⟨X.ob,X.fo,none⟩=false
 oblt:X.ob < X.w.heap.size
 bpob:X.bp < X.ob
 row:Row X.w X.B 9 1 cNN X.AR X.cap X.xs
 obB:X.ob < X.B
 bpB:X.bp < X.B
 Bw:X.B<=X.w.heap.size
 len:X.xs.length<=900000
structure Mid (d:Nat->Bool) (u:Nat->Value) (W:World) (x:EN):Prop where
 uC:u 11=valN x
 par:PAt W X.bp X.A X.c X.l X.τ
 up:UpT [X.bp] X.w W
 is:x.Is W
 r:X.R x
 lo:X.w.heap.size<=x.lo
 aS:d 12=true-> ∃z0,u 12= .slice (some ⟨z0,0,none⟩) 1 1/\X.w.heap.size<=z0/\z0 < W.heap.size/\ ∀(j:Nat) v,(cNN x)[j]? =some v->W.cell? ⟨z0,j,none⟩=some v
structure Post (d:Nat->Bool) (u:Nat->Value) (W:World) (x:EN) (g cp:Nat):Prop where
 uA:u 13= .slice (some ⟨g,0,none⟩) (X.xs.length+1) cp
 par:PAt W X.bp X.A X.c X.l X.τ
 is:x.Is W
 r:X.R x
 lo:X.w.heap.size<=x.lo
 far:g < x.lo\/x.hi<=g
 new:rowT X.AR=some g\/X.w.heap.size<=g
 up:UpT (X.bp::X.ob::(rowT X.AR).toList) X.w W
 row:W.ownsRow X.B 9 1 (.slice (some ⟨g,0,none⟩) (X.xs.length+1) cp) (X.xs.length+1) (X.xs.flatMap cNN++cNN x)
 cell:W.cell? ⟨X.ob,X.fo,none⟩=some (if d 15=true then .slice (some ⟨g,0,none⟩) (X.xs.length+1) cp else .slice X.AR X.xs.length X.cap)
 rest: ∀j,j≠X.fo->W.cell? ⟨X.ob,j,none⟩=X.w.cell? ⟨X.ob,j,none⟩
 fz: ∀j,W.frozen? ⟨X.ob,j,none⟩=X.w.frozen? ⟨X.ob,j,none⟩
structure Inv (d:Nat->Bool) (u:Nat->Value) (W:World):Prop where
 vals: ∀j,d j=true-> ∀v,X.val j=some v->u j=v
 pre:d 11=false->Below X.w.heap.size X.w W
 mid:d 11=true->d 13=false-> ∃x,X.Mid d u W x
 post:d 13=true-> ∃x g cp,X.Post d u W x g cp
variable {X : PtxA} {d : Nat -> Bool} {u : Nat -> Value} {W W' : World}
theorem Good.start (h:X.Good):X.Inv (fun _=>false) u X.w.drew:=⟨nofun,fun _=>Y2.drew,nofun,nofun⟩
theorem ne9 (d:Nat->Bool) {i j:Nat} (h:j≠i):also d i j=d j:=by
 unfold also;have:Nat.beq j i=false:=by cases a:Nat.beq j i <;> first | rfl | exact absurd (Nat.eq_of_beq_eq_true a) h
 rw[this]; rfl
theorem self9 (d:Nat->Bool) (i:Nat):also d i i=true:=by unfold also; rw[Nat.beq_refl]; rfl
section
variable (h : X.Inv d u W)
include h
theorem Inv.vals' {i:Nat} {v:Value} (b: ∀v',X.val i=some v'->v=v'): ∀j,also d i j=true-> ∀v',X.val j=some v'->upd u i v j=v':=fun j hj v' hv'=>by
 by_cases a:j=i
 {subst a; rw[Z06]; exact b v' hv'}
 {rw[ne9 d a] at hj; rw[Z02 u v a]; exact h.vals j hj v' hv'}
theorem Inv.pure {i:Nat} (e:i < 11\/i=14) {v:Value} (c: ∀v',X.val i=some v'->v=v'):X.Inv (also d i) (upd u i v) W:=by
 have k: ∀j,j=11\/j=12\/j=13\/j=15->also d i j=d j/\upd u i v j=u j:=fun j hj=>⟨ne9 d (by omega),Z02 u v (by omega)⟩;refine ⟨h.vals' c, ?_, ?_, ?_⟩
 {rw[(k 11 (by omega)).1]; exact h.pre}
 {rw[(k 11 (by omega)).1,(k 13 (by omega)).1];intro b a;obtain ⟨x,p⟩:=h.mid b a;refine ⟨x, ?_,p.par,p.up,p.is,p.r,p.lo, ?_⟩
  {rw[(k 11 (by omega)).2]; exact p.uC}
  {rw[(k 12 (by omega)).1,(k 12 (by omega)).2]; exact p.aS}}
 {rw[(k 13 (by omega)).1];intro a;obtain ⟨x,g,cp,p⟩:=h.post a;refine ⟨x,g,cp, ?_,p.par,p.is,p.r,p.lo,p.far,p.new,p.up,p.row, ?_,p.rest,p.fz⟩
  {rw[(k 13 (by omega)).2]; exact p.uA}
  {rw[(k 15 (by omega)).1]; exact p.cell}}
theorem Inv.first (b:d 13=false):UpT [X.bp] X.w W:=by
 cases a:d 11 with
 | false=>exact ZcF (h.pre a)
 | true=>obtain ⟨x,p⟩:=h.mid a b; exact p.up
theorem Inv.sC (i:d 11=false) (f:d 12=false) (g:d 13=false) {x:EN} (l:PAt W' X.bp X.A X.c X.l X.τ) (n:UpT [X.bp] W W') (o:x.Is W') (a:W.heap.size<=x.lo) (m:X.R x):X.Inv (also d 11) (upd u 11 (valN x)) W':=by
 have k: ∀j,j≠11->also d 11 j=d j/\upd u 11 (valN x) j=u j:=fun j hj=>⟨ne9 d hj,Z02 u _ hj⟩;have c:=h.pre i;refine ⟨h.vals' (by intro p b; cases b), ?_,fun _ _=>⟨x,Z06 _ _ _,l,(ZcF c).trans n,o,m,Nat.le_trans c.size a, ?_⟩, ?_⟩
 {rw[self9]; intro e; cases e}
 {rw[(k 12 (by omega)).1,f]; intro e; cases e}
 {rw[(k 13 (by omega)).1,g]; intro e; cases e}
theorem Inv.sS (f:d 13=false) (c:d 11=true) {x:EN} (p:X.Mid d u W x) (t:TypeId):X.Inv (also d 12) (upd u 12 (.slice (some ⟨W.heap.size,0,none⟩) 1 1)) (W.alloc (.cells #[.string ⟨x.t.toArray⟩] t)):=by
 have k: ∀j,j≠12->also d 12 j=d j/\upd u 12 (.slice (some ⟨W.heap.size,0,none⟩) 1 1) j=u j:=fun j hj=>⟨ne9 d hj,Z02 u _ hj⟩;have a:=Z01 W (.cells #[.string ⟨x.t.toArray⟩] t);refine ⟨h.vals' (by intro g b; cases b), ?_,fun _ _=>⟨x, ?_,p.par.below a,p.up.below a,New.below p.is a,p.r,p.lo,fun _=>⟨W.heap.size,Z06 _ _ _,p.up.size,by simp,fun j v hv=> ?_⟩⟩, ?_⟩
 {rw[(k 11 (by omega)).1,c]; intro e; cases e}
 {rw[(k 11 (by omega)).2]; exact p.uC}
 {rw[World.cell?_alloc_at _ _ _ _ rfl];simpa[cNN] using hv}
 {rw[(k 13 (by omega)).1,f]; intro e; cases e}
theorem Inv.sA (z:d 13=false) (r:d 11=true) (s:d 15=false) {x:EN} (p:X.Mid d u W x) {g cp:Nat} (c:X.Good) (l:W'.ownsRow X.B 9 1 (.slice (some ⟨g,0,none⟩) (X.xs.length+1) cp) (X.xs.length+1) (X.xs.flatMap cNN++cNN x))
 (f:W.grownBy W' (rowT X.AR)) (i:rowT X.AR=some g\/g=W.heap.size):X.Inv (also d 13) (upd u 13 (.slice (some ⟨g,0,none⟩) (X.xs.length+1) cp)) W':=by
 have k: ∀j,j≠13->also d 13 j=d j/\upd u 13 (.slice (some ⟨g,0,none⟩) (X.xs.length+1) cp) j=u j:=fun j hj=>⟨ne9 d hj,Z02 u _ hj⟩;have n:=p.up.size;have b: ∀k,rowT X.AR=some k->X.B<=k/\k < X.w.heap.size:=fun k hk=>c.row.lt k hk;have t:=c.Bw;have v:=c.bpob;have q:UpT (rowT X.AR).toList W W':=⟨f.os,f.tape,f.output,f.size,fun x a h2=>f.block x a (fun e=>h2 (by rw[<-e]; simp))⟩;have m:SameT X.w W' X.ob:=(p.up.same c.oblt (by simp; omega)).trans (q.same (Nat.lt_of_lt_of_le c.oblt n) (by
  intro w;have a:rowT X.AR=some X.ob:=by simpa using w
  have:=b _ a; have:=c.obB; omega))
 refine ⟨h.vals' (by intro A o; cases o), ?_, ?_,fun _=>⟨x,g,cp,Z06 _ _ _,p.par.keep q (fun k hk=> ?_),New.grown p.is f (fun k hk=>Or.inl ?_),p.r,p.lo, ?_, ?_, ?_,l, ?_,fun j hj=>m.1 j,fun j=>m.2 j⟩⟩
 {rw[(k 11 (by omega)).1]; intro e; rw[r] at e; cases e}
 {rw[self9]; intro _ e; cases e}
 {have a:rowT X.AR=some k:=by simpa using hk
  have:=b _ a; have:=c.bpB; omega}
 {have:=b _ hk; have:=p.lo; omega}
 {rcases i with a | a
  {left; have:=b _ a; have:=p.lo; omega}
  {right; have:=p.is.hi_; omega}}
 {rcases i with a | a
  {exact Or.inl a}
  {exact Or.inr (by omega)}}
 {exact (p.up.mono (fun y hy _=>by simp at hy; simp[hy])).trans (q.mono (fun y hy _=>by simp at hy; simp[hy]))}
 {rw[(k 15 (by omega)).1,s]; exact (m.1 _).trans c.cell}
theorem Inv.sT (i:d 11=true) (l:d 13=true) (a:X.Good) {x:EN} {g cp:Nat} (p:X.Post d u W x g cp) (v:Value):X.Inv (also d 15) (upd u 15 v) (W.setCell ⟨X.ob,X.fo,none⟩ (.slice (some ⟨g,0,none⟩) (X.xs.length+1) cp)):=by
 have k: ∀j,j≠15->also d 15 j=d j/\upd u 15 v j=u j:=fun j hj=>⟨ne9 d hj,Z02 u _ hj⟩;have o:X.B<=g/\g < W.heap.size:=p.row.lt g rfl;have n:=a.bpB;have r:=a.obB;have q:=p.lo;have m:=a.Bw;have f:=a.bpob;have c:UpT [X.ob] W (W.setCell ⟨X.ob,X.fo,none⟩ (.slice (some ⟨g,0,none⟩) (X.xs.length+1) cp)):=(UpT.refl _ _).set _ (Or.inr (by simp)) _;refine ⟨h.vals' (by intro s b; cases b), ?_, ?_,fun _=>⟨x,g,cp, ?_,p.par.keep c (by simp; omega),New.up p.is c (by simp; omega),p.r,p.lo,p.far,p.new, ?_, ?_, ?_,fun j hj=> ?_,fun j=> ?_⟩⟩
 {rw[(k 11 (by omega)).1]; intro e; rw[i] at e; cases e}
 {rw[(k 13 (by omega)).1,l]; intro _ e; cases e}
 {rw[(k 13 (by omega)).2]; exact p.uA}
 {exact p.up.trans (c.mono (fun y hy _=>by simp at hy; simp[hy]))}
 {exact Zdt p.row (by intro e; have:=Option.some.inj e; simp at this; omega) _}
 {rw[self9,if_pos rfl]; exact World.cell?_setCell_same _ _ _ p.cell}
 {rw[World.cell?_setCell_other _ _ _ _ (fun e=>hj (by have:=congrArg Addr.off e; simpa using this.symm))]; exact p.rest j hj}
 {rw[World.frozen?_setCell]; exact p.fz j}
end
end PtxA
structure PfrA (pos:String) (b s sp tC fi fnN:Nat) (fn:Nat) (A: (Nat->Value)->Act) (vs vp:Value):Prop where
 put: ∀(i:Nat) o,(plnA pos b s sp tC fi fnN fn)[i]? =some o-> ∀u v,(A u).put o.dst v=A (upd u i v)
 es: ∀u,(A u).eval (.tmp s)=vs
 ep: ∀u,(A u).eval (.tmp sp)=vp
 e0: ∀u,(A u).eval (.tmp b)=u 0
 e1: ∀u,(A u).eval (.tmp (b+1))=u 1
 e2: ∀u,(A u).eval (.tmp (b+2))=u 2
 e3: ∀u,(A u).eval (.tmp (b+3))=u 3
 e4: ∀u,(A u).eval (.tmp (b+4))=u 4
 e5: ∀u,(A u).eval (.tmp (b+5))=u 5
 e6: ∀u,(A u).eval (.tmp (b+6))=u 6
 e7: ∀u,(A u).eval (.tmp (b+7))=u 7
 e8: ∀u,(A u).eval (.tmp (b+8))=u 8
 e9: ∀u,(A u).eval (.tmp (b+9))=u 9
 e10: ∀u,(A u).eval (.tmp (b+10))=u 10
 e11: ∀u,(A u).eval (.tmp (b+11))=u 11
 e12: ∀u,(A u).eval (.tmp (b+12))=u 12
 e13: ∀u,(A u).eval (.tmp (b+13))=u 13
 e14: ∀u,(A u).eval (.tmp (b+14))=u 14
theorem prgA {Q:Exit->Act->World->Prop} {id:Nat} (pos:String) (b s k:Nat) (i c r:Nat) (X:PtxA) (n:X.Good) (z:Nat) (G:X.w.cell? ⟨z,0,none⟩=some (.pointer (some ⟨X.bp,0,none⟩))) (y:z < X.w.heap.size) (H:z≠X.bp)
 (A: (Nat->Value)->Act) (Y:Nat->Value) (l:PfrA pos b s k i c X.fnN r A (.pointer (some ⟨X.ob,0,none⟩)) (.pointer (some ⟨z,0,none⟩)))
 (hfa: ∀W,(Instr.fieldAt i (.pointer (some ⟨X.ob,0,none⟩)) c).run Tryz.prog W= .ok (.pointer (some ⟨X.ob,X.fo,none⟩)) W)
 (a8: ∀args W,(callFunc r args).run Tryz.prog W= .ok (.enter r args) W)
 (B: ∀W,Below X.w.heap.size X.w W->Calls Tryz.prog r #[.pointer (some ⟨X.bp,0,none⟩),.slice X.AR X.xs.length X.cap,.func (.func X.fnN) #[.pointer (some ⟨X.bp,0,none⟩)] #[]] W fun e W'=> ∃x:EN,e= .returned (valN x)/\PAt W' X.bp X.A X.c X.l X.τ/\UpT [X.bp] W W'/\x.Is W'/\W.heap.size<=x.lo/\X.R x)
 (hQ: ∀u W x g cp,X.Post (fun _=>true) u W x g cp->Q .normal (A u) W):
 (Code.region id (plnA pos b s k i c X.fnN r) true).wp Tryz.prog Q (A Y) X.w:=by
 obtain ⟨i0,N,O,P,S⟩:=ZcW Zf9;have I:=l.es;have U:=l.ep;have a6:Tryz.prog.cellsOf 25=1:=by kernel_rfl
 have a7:Tryz.prog.cellsOf 52=1:=by kernel_rfl
 refine Z1Z (rs:= [0,1,2,3,4,5,6,7,8,9,10,11,12,13,14,15]) A Y X.Inv (by kernel_rfl) (by kernel_rfl) (by kernel_rfl) n.start ?_ ?_;refine StepsInv.cons2 (qA0 pos b s k i c X.fnN) rfl (fun d u W K' hS a m hw hK=> ?_) ?_
 {refine Z00 (v:= .pointer (some ⟨X.ob,X.fo,none⟩)) (W':=W) rfl ?_ (by rw[l.put 0 (qA0 pos b s k i c X.fnN) rfl u _]; exact hK.out _ _ (a.pure (by omega) (fun v' h=>by cases h; rfl)));simp only[execOp,qA0,I u,hfa,Sem.run_bind,Result.andThen_ok,Sem.run_pure]}
 refine StepsInv.cons2 (qA1 pos b s k i c X.fnN) rfl (fun d u W K' hS a m hw hK=> ?_) ?_
 {have e0:=l.e0 u;rw[a.vals 0 (hw 0 (by kernel_rfl)) _ rfl] at e0;have t:d 13=false:=by cases e:d 13 with | false=>rfl | true=>have:=hS 13 _ rfl e 1 (by kernel_rfl); rw[m] at this; cases this
  have q:=a.first t;have M:=n.bpob;obtain ⟨C,w⟩:W.cell? ⟨X.ob,X.fo,none⟩=some (.slice X.AR X.xs.length X.cap)/\X.ob < W.heap.size:=⟨((q.same n.oblt (by simp; omega)).1 _).trans n.cell,Nat.lt_of_lt_of_le n.oblt q.size⟩;refine Z00 (v:= .slice X.AR X.xs.length X.cap) (W':=W) rfl ?_ (by rw[l.put 1 (qA1 pos b s k i c X.fnN) rfl u _]; exact hK.out _ _ (a.pure (by omega) (fun v' h=>by cases h; rfl)));simp only[execOp,qA1,e0,Sem.run_bind,Result.andThen_ok,Sem.run_pure,List.map_toArray,List.map_cons,List.map_nil];go_simp}
 refine StepsInv.cons2 (qA2 pos b s k i c X.fnN) rfl (fun d u W K' hS a m hw hK=> ?_) ?_
 {have o:d 11=false:=by cases e:d 11 with | false=>rfl | true=>have:=hS 3 _ rfl (hS 4 _ rfl (hS 11 _ rfl (e) 4 (by kernel_rfl)) 3 (by kernel_rfl)) 2 (by kernel_rfl); rw[m] at this; cases this
  have q:UpT [X.bp] X.w W:=ZcF (a.pre o);obtain ⟨C,w⟩:W.cell? ⟨z,0,none⟩=some (.pointer (some ⟨X.bp,0,none⟩))/\z < W.heap.size:=⟨((q.same y (by simp[H])).1 _).trans G,Nat.lt_of_lt_of_le y q.size⟩;refine Z00 (v:= .pointer (some ⟨X.bp,0,none⟩)) (W':=W) rfl ?_ (by rw[l.put 2 (qA2 pos b s k i c X.fnN) rfl u _]; exact hK.out _ _ (a.pure (by omega) (fun v' h=>by cases h; rfl)));simp only[execOp,qA2,U u,Sem.run_bind,Result.andThen_ok,Sem.run_pure,List.map_toArray,List.map_cons,List.map_nil];go_simp}
 refine StepsInv.cons2 (qA3 pos b s k i c X.fnN) rfl (fun d u W K' hS a m hw hK=> ?_) ?_
 {have e2:=l.e2 u;rw[a.vals 2 (hw 2 (by kernel_rfl)) _ rfl] at e2;refine Z00 (v:= .pointer (some ⟨X.bp,0,none⟩)) (W':=W) rfl ?_ (by rw[l.put 3 (qA3 pos b s k i c X.fnN) rfl u _]; exact hK.out _ _ (a.pure (by omega) (fun v' h=>by cases h; rfl)));simp only[execOp,qA3,e2,Sem.run_bind,Result.andThen_ok,Sem.run_pure,List.map_toArray,List.map_cons,List.map_nil]
  all_goals first | (go_simp; done) | (go_simp; rfl)}
 refine StepsInv.cons2 (qA4 pos b s k i c X.fnN) rfl (fun d u W K' hS a m hw hK=> ?_) ?_
 {have e3:=l.e3 u;rw[a.vals 3 (hw 3 (by kernel_rfl)) _ rfl] at e3;refine Z00 (v:= .pointer (some ⟨X.bp,0,none⟩)) (W':=W) rfl ?_ (by rw[l.put 4 (qA4 pos b s k i c X.fnN) rfl u _]; exact hK.out _ _ (a.pure (by omega) (fun v' h=>by cases h; rfl)));simp only[execOp,qA4,e3,Sem.run_bind,Result.andThen_ok,Sem.run_pure,List.map_toArray,List.map_cons,List.map_nil]
  all_goals first | (go_simp; done) | (go_simp; rfl)}
 refine StepsInv.cons2 (qA5 pos b s k i c X.fnN) rfl (fun d u W K' hS a m hw hK=> ?_) ?_
 {refine Z00 (v:= .pointer (some ⟨X.ob,X.fo,none⟩)) (W':=W) rfl ?_ (by rw[l.put 5 (qA5 pos b s k i c X.fnN) rfl u _]; exact hK.out _ _ (a.pure (by omega) (fun v' h=>by cases h; rfl)));simp only[execOp,qA5,I u,hfa,Sem.run_bind,Result.andThen_ok,Sem.run_pure]}
 refine StepsInv.cons2 (qA6 pos b s k i c X.fnN) rfl (fun d u W K' hS a m hw hK=> ?_) ?_
 {have e5:=l.e5 u;rw[a.vals 5 (hw 5 (by kernel_rfl)) _ rfl] at e5;have o:d 11=false:=by cases e:d 11 with | false=>rfl | true=>have:=hS 11 _ rfl (e) 6 (by kernel_rfl); rw[m] at this; cases this
  have q:UpT [X.bp] X.w W:=ZcF (a.pre o);have M:=n.bpob;obtain ⟨C,w⟩:W.cell? ⟨X.ob,X.fo,none⟩=some (.slice X.AR X.xs.length X.cap)/\X.ob < W.heap.size:=⟨((q.same n.oblt (by simp; omega)).1 _).trans n.cell,Nat.lt_of_lt_of_le n.oblt q.size⟩;refine Z00 (v:= .slice X.AR X.xs.length X.cap) (W':=W) rfl ?_ (by rw[l.put 6 (qA6 pos b s k i c X.fnN) rfl u _]; exact hK.out _ _ (a.pure (by omega) (fun v' h=>by cases h; rfl)));simp only[execOp,qA6,e5,Sem.run_bind,Result.andThen_ok,Sem.run_pure,List.map_toArray,List.map_cons,List.map_nil];go_simp}
 refine StepsInv.cons2 (qA7 pos b s k i c X.fnN) rfl (fun d u W K' hS a m hw hK=> ?_) ?_
 {have o:d 11=false:=by cases e:d 11 with | false=>rfl | true=>have:=hS 8 _ rfl (hS 9 _ rfl (hS 10 _ rfl (hS 11 _ rfl (e) 10 (by kernel_rfl)) 9 (by kernel_rfl)) 8 (by kernel_rfl)) 7 (by kernel_rfl); rw[m] at this; cases this
  have q:UpT [X.bp] X.w W:=ZcF (a.pre o);obtain ⟨C,w⟩:W.cell? ⟨z,0,none⟩=some (.pointer (some ⟨X.bp,0,none⟩))/\z < W.heap.size:=⟨((q.same y (by simp[H])).1 _).trans G,Nat.lt_of_lt_of_le y q.size⟩;refine Z00 (v:= .pointer (some ⟨X.bp,0,none⟩)) (W':=W) rfl ?_ (by rw[l.put 7 (qA7 pos b s k i c X.fnN) rfl u _]; exact hK.out _ _ (a.pure (by omega) (fun v' h=>by cases h; rfl)));simp only[execOp,qA7,U u,Sem.run_bind,Result.andThen_ok,Sem.run_pure,List.map_toArray,List.map_cons,List.map_nil];go_simp}
 refine StepsInv.cons2 (qA8 pos b s k i c X.fnN) rfl (fun d u W K' hS a m hw hK=> ?_) ?_
 {have e7:=l.e7 u;rw[a.vals 7 (hw 7 (by kernel_rfl)) _ rfl] at e7;refine Z00 (v:= .pointer (some ⟨X.bp,0,none⟩)) (W':=W) rfl ?_ (by rw[l.put 8 (qA8 pos b s k i c X.fnN) rfl u _]; exact hK.out _ _ (a.pure (by omega) (fun v' h=>by cases h; rfl)));simp only[execOp,qA8,e7,Sem.run_bind,Result.andThen_ok,Sem.run_pure,List.map_toArray,List.map_cons,List.map_nil]
  all_goals first | (go_simp; done) | (go_simp; rfl)}
 refine StepsInv.cons2 (qA9 pos b s k i c X.fnN) rfl (fun d u W K' hS a m hw hK=> ?_) ?_
 {have e8:=l.e8 u;rw[a.vals 8 (hw 8 (by kernel_rfl)) _ rfl] at e8;refine Z00 (v:= .pointer (some ⟨X.bp,0,none⟩)) (W':=W) rfl ?_ (by rw[l.put 9 (qA9 pos b s k i c X.fnN) rfl u _]; exact hK.out _ _ (a.pure (by omega) (fun v' h=>by cases h; rfl)));simp only[execOp,qA9,e8,Sem.run_bind,Result.andThen_ok,Sem.run_pure,List.map_toArray,List.map_cons,List.map_nil]
  all_goals first | (go_simp; done) | (go_simp; rfl)}
 refine StepsInv.cons2 (qA10 pos b s k i c X.fnN) rfl (fun d u W K' hS a m hw hK=> ?_) ?_
 {have e9:=l.e9 u;rw[a.vals 9 (hw 9 (by kernel_rfl)) _ rfl] at e9;refine Z00 (v:= .func (.func X.fnN) #[.pointer (some ⟨X.bp,0,none⟩)] #[]) (W':=W) rfl ?_ (by rw[l.put 10 (qA10 pos b s k i c X.fnN) rfl u _]; exact hK.out _ _ (a.pure (by omega) (fun v' h=>by cases h; rfl)));simp only[execOp,qA10,e9,Sem.run_bind,Result.andThen_ok,Sem.run_pure,List.map_toArray,List.map_cons,List.map_nil]
  all_goals first | (go_simp; done) | (go_simp; rfl)}
 refine StepsInv.cons2 (qA11 pos b s k i c X.fnN r) rfl (fun d u W K' hS a m hw hK=> ?_) ?_
 {have D:d 12=false:=by cases e:d 12 with | false=>rfl | true=>have:=hS 12 _ rfl e 11 (by kernel_rfl); rw[m] at this; cases this
  have t:d 13=false:=by cases e:d 13 with | false=>rfl | true=>have:=hS 13 _ rfl e 12 (by kernel_rfl); rw[D] at this; cases this
  have e4:=l.e4 u;rw[a.vals 4 (hw 4 (by kernel_rfl)) _ rfl] at e4;have e6:=l.e6 u;rw[a.vals 6 (hw 6 (by kernel_rfl)) _ rfl] at e6;have e10:=l.e10 u;rw[a.vals 10 (hw 10 (by kernel_rfl)) _ rfl] at e10;refine Z1n (f:=r) (args:=#[.pointer (some ⟨X.bp,0,none⟩),.slice X.AR X.xs.length X.cap,.func (.func X.fnN) #[.pointer (some ⟨X.bp,0,none⟩)] #[]]) (W':=W) rfl ?_ ((B W (a.pre m)).mono ?_)
  {simp only[execOp,qA11,e4,e6,e10,Sem.run_bind,Result.andThen_ok,Sem.run_pure,resolve,invoke,List.map_toArray,List.map_cons,List.map_nil];have ef: (A u).eval (.func r)= .func (.func r) #[] #[]:=rfl;rw[ef];go_simp}
  {rintro e W' ⟨x,rfl,J,h2,o,h6,K⟩;exact ⟨_,rfl,by rw[l.put 11 (qA11 pos b s k i c X.fnN r) rfl u _]; exact hK.out _ _ (a.sC m D t J h2 o h6 K)⟩}}
 refine StepsInv.cons2 (qA12 pos b s k i c X.fnN) rfl (fun d u W K' hS a m hw hK=> ?_) ?_
 {have o:=hw 11 (by kernel_rfl);have t:d 13=false:=by cases e:d 13 with | false=>rfl | true=>have:=hS 13 _ rfl e 12 (by kernel_rfl); rw[m] at this; cases this
  obtain ⟨x,p⟩:=a.mid o t;have e3:=l.e11 u;rw[p.uC] at e3;simp only[valN] at e3;refine Z00 (v:= .slice (some ⟨W.heap.size,0,none⟩) 1 1) (W':=W.alloc (.cells #[.string ⟨x.t.toArray⟩] 9)) rfl ?_ (by rw[l.put 12 (qA12 pos b s k i c X.fnN) rfl u _]; exact hK.out _ _ (a.sS t o p _));have Z: (A u).tmps[b+11]?.getD undef= .string ⟨x.t.toArray⟩:=by simpa[Act.eval] using e3
  simp only[execOp,qA12,e3,Sem.run_bind,Result.andThen_ok,Sem.run_pure];go_simp}
 refine StepsInv.cons2 (qA13 pos b s k i c X.fnN) rfl (fun d u W K' hS a m hw hK=> ?_) ?_
 {have J:=hw 1 (by kernel_rfl);have D:=hw 12 (by kernel_rfl);have o:=hS 12 _ rfl D 11 (by kernel_rfl);have K:d 15=false:=by cases e:d 15 with | false=>rfl | true=>have:=hS 15 _ rfl e 13 (by kernel_rfl); rw[m] at this; cases this
  obtain ⟨x,p⟩:=a.mid o m;have T:=l.e1 u;rw[a.vals 1 J _ rfl] at T;obtain ⟨z0,u4,z1,z2,z3⟩:=p.aS D;have e4:=l.e12 u;rw[u4] at e4;have a5:=n.bpB;have L:=n.row.up p.up (fun x hx=>by simp at hx; subst hx; intro e; have:=n.row.lt _ e; omega);have b0:=n.len;have a3:=n.Bw;have b2:=p.up.size;refine step_append_lies W rfl _ _ 25 rfl X.B 9 i0 (.string ByteArray.empty) 1 16 Tryz.underlying25 N O P S rfl (by decide) _ _ _ T L ⟨z0,0,none⟩ 1 1 (cNN x) e4 rfl (fun j v hv=>by rw[Z0d,Nat.zero_add]; exact z3 j v hv) (ZkK x) (by decide) (by unfold maxLen; omega) (by omega) (by omega) _ rfl ?_;intro g cp W' F V E w;rw[l.put 13 (qA13 pos b s k i c X.fnN) rfl u _];exact hK.out _ _ (a.sA m o K p n F (by rw[ZcQ] at V; exact V) (by rw[ZcQ] at E; exact E))}
 refine StepsInv.cons2 (qA14 pos b s k i c X.fnN) rfl (fun d u W K' hS a m hw hK=> ?_) ?_
 {refine Z00 (v:= .pointer (some ⟨X.ob,X.fo,none⟩)) (W':=W) rfl ?_ (by rw[l.put 14 (qA14 pos b s k i c X.fnN) rfl u _]; exact hK.out _ _ (a.pure (by omega) (fun v' h=>by cases h; rfl)));simp only[execOp,qA14,I u,hfa,Sem.run_bind,Result.andThen_ok,Sem.run_pure]}
 refine StepsInv.cons2 (qA15 pos b s k i c X.fnN) rfl (fun d u W K' hS a m hw hK=> ?_) StepsInv.nil
 {have t:=hw 13 (by kernel_rfl);have o:=hS 12 _ rfl (hS 13 _ rfl t 12 (by kernel_rfl)) 11 (by kernel_rfl);obtain ⟨x,g,cp,p⟩:=a.post t;have e5:=l.e13 u;rw[p.uA] at e5;have e6:=l.e14 u;rw[a.vals 14 (hw 14 (by kernel_rfl)) _ rfl] at e6;have C:=p.cell;rw[m] at C;simp only[Bool.false_eq_true,if_false] at C;have a9:=(p.fz X.fo).trans n.fz;have b1:=Nat.lt_of_lt_of_le n.oblt p.up.size;refine Z2E (W':=W.setCell ⟨X.ob,X.fo,none⟩ (.slice (some ⟨g,0,none⟩) (X.xs.length+1) cp)) rfl ?_ (by rw[l.put 15 (qA15 pos b s k i c X.fnN) rfl u _]; exact hK.out _ _ (a.sT o t n p undef));simp only[execOp,qA15,e6,e5,Sem.run_bind,Result.andThen_ok,Sem.run_pure];go_simp}
 {intro d u W a m;obtain ⟨x,g,cp,p⟩:=a.post (m 13 (by show 13 < 16; omega));refine hQ u W x g cp ⟨p.uA,p.par,p.is,p.r,p.lo,p.far,p.new,p.up,p.row, ?_,p.rest,p.fz⟩;have:=p.cell; rw[m 15 (by show 15 < 16; omega)] at this; exact this}
end
end Go.Proofs.YtgndehppmaacaaaGreatDoor
namespace Go.Proofs.YtgndehppmaacaaaGreatDoor
open Go.RowKit Tms
open Shp (Sh)
open Pso (St Ok Goes betw loop want)
open Prs (sign)
structure JS (W1:World) (bp ob:Nat) (k:Int) (AN:Option Addr) (cn:Nat) (ns:List (List UInt8)) (AP:Option Addr) (cp:Nat) (L:List ES) (W:World):Prop where
 up:UpT [bp,ob] W1 W
 lt:ob < W1.heap.size
 bpob:bp < ob
 c0:W.cell? ⟨ob,0,none⟩=some (.int .i64 k)
 c1:W.cell? ⟨ob,1,none⟩=some (.string ⟨#[]⟩)
 c2:W.cell? ⟨ob,2,none⟩=some (.string ⟨#[]⟩)
 c3:W.cell? ⟨ob,3,none⟩=some (.slice AN ns.length cn)
 c4:W.cell? ⟨ob,4,none⟩=some (.slice AP L.length cp)
 fz: ∀j,W.frozen? ⟨ob,j,none⟩=false
 rN:Row W W1.heap.size 9 1 cN AN cn ns
 rP:Row W W1.heap.size 28 5 cS AP cp L
 ne:rowT AN=none\/rowT AN≠rowT AP
 is: ∀x∈L,x.Is W/\W1.heap.size<=x.lo
 far: ∀x∈L,∀b,rowT AN=some b\/rowT AP=some b->b < x.lo\/x.hi<=b
 sm: ∀n∈ns,n.length<=1000000
section
variable {W1 W W' : World} {bp ob : Nat} {k : Int} {AN AP : Option Addr} {cn cp : Nat} {ns : List (List UInt8)} {L : List ES}
section
variable (h : JS W1 bp ob k AN cn ns AP cp L W)
include h
theorem JS.keep (c:UpT [bp] W W'):JS W1 bp ob k AN cn ns AP cp L W':=by
 have g:=h.up.size;have f:=h.lt;have d:=h.bpob;have a:=c.same (b:=ob) (by omega) (by simp; omega);refine ⟨h.up.trans (c.mono (fun x hx _=>by simp at hx; simp[hx])),f,d,(a.1 0).trans h.c0,(a.1 1).trans h.c1,(a.1 2).trans h.c2,(a.1 3).trans h.c3,(a.1 4).trans h.c4,fun j=>(a.2 j).trans (h.fz j),
  h.rN.up c (fun x hx=>by simp at hx; subst hx; intro e; have:=h.rN.lt _ e; omega),h.rP.up c (fun x hx=>by simp at hx; subst hx; intro e; have:=h.rP.lt _ e; omega),h.ne,fun x hx=>⟨New.up (h.is x hx).1 c (by simp; have:=(h.is x hx).2; omega),(h.is x hx).2⟩,h.far,h.sm⟩
theorem JS.goodN {A:Option Addr} {c a:Nat} {l:List Tk} {τ:St} {Q:EN->Prop} (b:ns.length<=900000): (⟨W,bp,A,c,l,τ,ob,3,W1.heap.size,AN,cn,enOf ns,Q,a⟩:PtxA).Good:=
 ⟨by rw[Zd4]; exact h.c3,h.fz 3,Nat.lt_of_lt_of_le h.lt h.up.size,h.bpob,Zja h.rN,h.lt,Nat.lt_trans h.bpob h.lt,h.up.size,by rw[Zd4]; exact b⟩
end
theorem JS.named {A:Option Addr} {c g m z:Nat} {l:List Tk} {τ:St} {Q:EN->Prop} {u:Nat->Value} {x:EN} (h:JS W1 bp ob k AN cn ns AP cp L W) (G:x.t.length<=1000000) (p: (⟨W,bp,A,c,l,τ,ob,3,W1.heap.size,AN,cn,enOf ns,Q,z⟩:PtxA).Post (fun _=>true) u W' x g m):JS W1 bp ob k (some ⟨g,0,none⟩) m (ns++ [x.t]) AP cp L W':=by
 have H:=h.up.size;have F:=h.lt;have C:=h.bpob;have B: ∀b,rowT AN=some b->W1.heap.size<=b/\b < W.heap.size:=fun b hb=>h.rN.lt b hb;have t: ∀b,rowT AP=some b->W1.heap.size<=b/\b < W.heap.size:=fun b hb=>h.rP.lt b hb;have r:UpT (bp::ob::(rowT AN).toList) W W':=p.up;have o:rowT AN=some g\/W.heap.size<=g:=p.new;have a: ∀j,j≠3->W'.cell? ⟨ob,j,none⟩=W.cell? ⟨ob,j,none⟩:=p.rest;have D:W'.cell? ⟨ob,3,none⟩=some (.slice (some ⟨g,0,none⟩) (ns.length+1) m):=by have:=p.cell; simpa[Zd4] using this
 have E: ∀j,W'.frozen? ⟨ob,j,none⟩=W.frozen? ⟨ob,j,none⟩:=p.fz;have w:Row W' W1.heap.size 9 1 cN (some ⟨g,0,none⟩) m (ns++ [x.t]):=by
  have d:=p.row;unfold Row;rw[List.length_append,List.flatMap_append, <-Zgu];simp only[Zd4] at d;have s:cNN x=cN x.t:=rfl;rw[s] at d;simpa using d
 have f: ∀y,y∈bp::ob::(rowT AN).toList->y=bp\/y=ob\/rowT AN=some y:=fun y hy=>by simpa using hy
 refine ⟨⟨r.os.trans h.up.os,r.tape.trans h.up.tape,r.output.trans h.up.output,Nat.le_trans h.up.size r.size,fun y d s=> ?_⟩,F,C,(a 0 (by omega)).trans h.c0,(a 1 (by omega)).trans h.c1,(a 2 (by omega)).trans h.c2, ?_,(a 4 (by omega)).trans h.c4,fun j=>(E j).trans (h.fz j),w, ?_,Or.inr ?_,fun y hy=>⟨New.up (h.is y hy).1 r (fun b hb=> ?_),(h.is y hy).2⟩,fun y hy b hb=> ?_,fun n v=> ?_⟩
 {rw[r.block y (by omega) (fun hy=> ?_)]
  {exact h.up.block y d s}
  {simp at s;rcases f _ hy with e | e | e
   {exact s.1 e}
   {exact s.2 e}
   {have:=B _ e; omega}}}
 {rw[List.length_append]; exact D}
 {refine h.rP.up r (fun y hy e=> ?_);have d:=t _ e;rcases f _ hy with i | i | i
  {omega}
  {omega}
  {rcases h.ne with q | q
   {rw[q] at i; cases i}
   {exact q (i.trans e.symm)}}}
 {intro e;have i:rowT AP=some g:=e.symm;rcases o with d | d
  {rcases h.ne with q | q
   {rw[q] at d; cases d}
   {exact q (d.trans i.symm)}}
  {have:=t _ i; omega}}
 {have d:=h.is y hy;rcases f _ hb with e | e | e
  {omega}
  {omega}
  {exact h.far y hy b (Or.inl e)}}
 {rcases hb with e | e
  {have i:g=b:=Option.some.inj e;rcases o with d | d
   {exact h.far y hy b (Or.inl (i▸d))}
   {right; have:=(h.is y hy).1.hi_; omega}}
  {exact h.far y hy b (Or.inr e)}}
 {rcases List.mem_append.1 v with v | v
  {exact h.sm n v}
  {have e:n=x.t:=by simpa using v
   rw[e]; exact G}}
def JS.ctx (W1:World) (bp ob:Nat) (AP:Option Addr) (cp:Nat) (L:List ES) (W:World) (A:Option Addr) (c:Nat) (l:List Tk) (τ:St) (R:ES->Prop):CtxS:=⟨W,bp,A,c,l,τ,ob,4,W1.heap.size,AP,cp,L,R⟩
theorem JS.good (h:JS W1 bp ob k AN cn ns AP cp L W) {A:Option Addr} {c:Nat} {l:List Tk} {τ:St} {R:ES->Prop} (a:L.length<=900000): (JS.ctx W1 bp ob AP cp L W A c l τ R).Good:=
 ⟨h.c4,h.fz 4,Nat.lt_of_lt_of_le h.lt h.up.size,h.bpob,h.rP,h.lt,Nat.lt_trans h.bpob h.lt,h.up.size,a⟩
theorem JS.part {A:Option Addr} {c g i:Nat} {l:List Tk} {τ:St} {R:ES->Prop} {u:Nat->Value} {x:ES} (h:JS W1 bp ob k AN cn ns AP cp L W) (p: (JS.ctx W1 bp ob AP cp L W A c l τ R).PostX (fun _=>true) u W' x g i):JS W1 bp ob k AN cn ns (some ⟨g,0,none⟩) i (L++ [x]) W':=by
 have F:=h.up.size;have D:=h.lt;have z:=h.bpob;have q: ∀b,rowT AN=some b->W1.heap.size<=b/\b < W.heap.size:=fun b hb=>h.rN.lt b hb;have w: ∀b,rowT AP=some b->W1.heap.size<=b/\b < W.heap.size:=fun b hb=>h.rP.lt b hb;have r:UpT (bp::ob::(rowT AP).toList) W W':=p.up;have n:rowT AP=some g\/W.heap.size<=g:=p.new;have E:W.heap.size<=x.lo:=p.lo;have d: ∀j,j≠4->W'.cell? ⟨ob,j,none⟩=W.cell? ⟨ob,j,none⟩:=p.rest;have B:W'.cell? ⟨ob,4,none⟩=some (.slice (some ⟨g,0,none⟩) (L.length+1) i):=by have:=p.cell; simpa[JS.ctx] using this
 have C: ∀j,W'.frozen? ⟨ob,j,none⟩=W.frozen? ⟨ob,j,none⟩:=p.fz;have v:W'.ownsRow W1.heap.size 28 5 (.slice (some ⟨g,0,none⟩) (L.length+1) i) (L.length+1) (L.flatMap cS++cS x):=by have:=p.row; simpa[JS.ctx] using this
 have f: ∀y,y∈bp::ob::(rowT AP).toList->y=bp\/y=ob\/rowT AP=some y:=fun y a=>by simpa using a
 refine ⟨⟨r.os.trans h.up.os,r.tape.trans h.up.tape,r.output.trans h.up.output,Nat.le_trans h.up.size r.size,fun y m h2=> ?_⟩,D,z,(d 0 (by omega)).trans h.c0,(d 1 (by omega)).trans h.c1,(d 2 (by omega)).trans h.c2,(d 3 (by omega)).trans h.c3, ?_,fun j=>(C j).trans (h.fz j), ?_, ?_, ?_,fun y a=> ?_,fun y a b hb=> ?_,h.sm⟩
 {rw[r.block y (by omega) (fun a=> ?_)]
  {exact h.up.block y m h2}
  {simp at h2;rcases f _ a with e | e | e
   {exact h2.1 e}
   {exact h2.2 e}
   {have:=w _ e; omega}}}
 {rw[List.length_append]; exact B}
 {refine h.rN.up r (fun y a e=> ?_);have m:=q _ e;rcases f _ a with s | s | s
  {omega}
  {omega}
  {rcases h.ne with o | o
   {rw[o] at e; cases e}
   {exact o (e.trans s.symm)}}}
 {unfold Row; rw[List.length_append,List.flatMap_append]; simpa using v}
 {rcases h.ne with o | o
  {exact Or.inl o}
  {refine Or.inr (fun e=> ?_);have s:rowT AN=some g:=e;rcases n with m | m
   {exact o (s.trans m.symm)}
   {have:=q _ s; omega}}}
 {rcases List.mem_append.1 a with a | a
  {refine ⟨New.up (h.is y a).1 r (fun b hb=> ?_),(h.is y a).2⟩;have m:=h.is y a;rcases f _ hb with e | e | e
   {omega}
   {omega}
   {exact h.far y a b (Or.inr e)}}
  {obtain rfl:y=x:=by simpa using a
   exact ⟨p.is,by omega⟩}}
 {have t:rowT (some (⟨g,0,none⟩:Addr))=some b->g=b:=fun e=>Option.some.inj e;rcases List.mem_append.1 a with a | a
  {rcases hb with e | e
   {exact h.far y a b (Or.inl e)}
   {obtain rfl:=t e;rcases n with m | m
    {exact h.far y a g (Or.inr m)}
    {right; have:=(h.is y a).1.hi_; omega}}}
  {obtain rfl:y=x:=by simpa using a
   rcases hb with e | e
   {left; have:=q _ e; omega}
   {obtain rfl:=t e; exact p.far}}}
end
end Go.Proofs.YtgndehppmaacaaaGreatDoor
