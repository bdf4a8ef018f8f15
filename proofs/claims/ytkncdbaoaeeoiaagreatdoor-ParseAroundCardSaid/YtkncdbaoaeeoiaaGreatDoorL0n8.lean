/- What the proofs of ParseAround want, part 8. -/
import Derived.Test.YtkncdbaoaeeoiaaGreatDoorL0n7
set_option linter.unusedVariables false
set_option linter.unusedSimpArgs false
set_option linter.unusedSectionVars false
set_option maxRecDepth 100000
set_option maxHeartbeats 16000000
namespace Go.Proofs.YtkncdbaoaeeoiaaGreatDoor
open Go.RowKit
def also (d:Nat->Bool) (i:Nat):Nat->Bool:=fun j=>cond (Nat.beq j i) true (d j)
section
variable {P : Program} {ops : Array Oper} {Q : Exit -> Act -> World -> Prop}
def StepInv (P:Program) (ops:Array Oper) (Q:Exit->Act->World->Prop) (A: (Nat->Value)->Act) (I: (Nat->Bool)->(Nat->Value)->World->Prop) (i:Nat):Prop:=
 ∀o,ops[i]? =some o-> ∀(d:Nat->Bool) (u:Nat->Value) (W:World),I d u W->d i=false->(∀j,waits o j=true->d j=true)->
  wpOp P ops Q i (fun a' w'=> ∃v,a'=A (upd u i v)/\I (also d i) (upd u i v) w') (A u) W
def StepsInv (P:Program) (ops:Array Oper) (Q:Exit->Act->World->Prop) (A: (Nat->Value)->Act) (I: (Nat->Bool)->(Nat->Value)->World->Prop) (rs:List Nat):Prop:=
 ∀i∈rs,StepInv P ops Q A I i
section
variable {A : (Nat -> Value) -> Act} {I : (Nat -> Bool) -> (Nat -> Value) -> World -> Prop}
include A I
theorem StepsInv.nil:StepsInv P ops Q A I []:=fun _ h=>by cases h
theorem StepsInv.cons {i:Nat} {rs:List Nat} (o:Oper) (c:ops[i]? =some o)
 (h: ∀(d:Nat->Bool) (u:Nat->Value) (W:World) (K':Act->World->Prop),I d u W->d i=false->(∀j,waits o j=true->d j=true)->
  Shut (∀v w',I (also d i) (upd u i v) w'->K' (A (upd u i v)) w')->
  if Region.wanted o (yielded ops (A u).tmps)=true then Oper.wp P o (A u) W K' Q else K' ((A u).put o.dst undef) W)
 (g:StepsInv P ops Q A I rs):StepsInv P ops Q A I (i::rs):=fun j b=>by
 rcases List.mem_cons.1 b with rfl | b
 {intro l a d u W e f k;rw[c] at a;obtain rfl:o=l:=Option.some.inj a;exact wpOp_step c (fun K' hK=>h d u W K' e f k (fun v w' h1=>hK _ _ ⟨v,rfl,h1⟩))}
 {exact g j b}
end
theorem Z9K (a:Array Bool) {i:Nat} (c:i < a.size): (fun j=>(a.setIfInBounds i true).getD j false)=also (fun j=>a.getD j false) i:=by
 funext j;unfold also;by_cases h:j=i
 {subst h;have:Nat.beq j j=true:=Nat.beq_refl j;rw[this];simp[c]}
 {have b:Nat.beq j i=false:=by cases b:Nat.beq j i <;> first | rfl | exact absurd (Nat.eq_of_beq_eq_true b) h
  rw[b];exact getD_set_ne false (Ne.symm h)}
theorem Zg3 (A: (Nat->Value)->Act) (I: (Nat->Bool)->(Nat->Value)->World->Prop) (B:lowAfter ops=true)
 (l:StepsInv P ops Q A I (List.range ops.size))
 (c: ∀d u W,I d u W->(∀j,j < ops.size->d j=true)->Q .normal (A u) W):
 ∀(b:Nat) (a:Array Bool) (u:Nat->Value) (W:World),a.size=ops.size->a.toList.count false<=b->I (fun j=>a.getD j false) u W->
  wpAny P .any ops Q b a (A u) W:=by
 intro b;induction b with
 | zero=>
  intro a u W f D r;have t:Region.ready .any ops a= []:=by
   refine List.eq_nil_iff_forall_not_mem.2 fun j hj=> ?_;obtain ⟨g,o,m,_⟩:=mem_ready.1 hj;have z:j < a.size:=by
    rw[f];rcases Nat.lt_or_ge j ops.size with h | h
    {exact h}
    {rw[Array.getElem?_eq_none h] at m; cases m}
   refine Z66 a.toList (by omega) j ?_;simp[z] at g ⊢;exact g
  exact ⟨t,c _ u W r fun j hj=>Z2V B a t f (j+1) j (by omega) hj⟩
 | succ b ih=>
  intro a u W f D r;refine ⟨fun t=>c _ u W r fun j hj=>Z2V B a t f (j+1) j (by omega) hj,fun i hi=> ?_⟩;obtain ⟨g,o,m,p⟩:=mem_ready.1 hi;have y:i < ops.size:=by
   rcases Nat.lt_or_ge i ops.size with h | h
   {exact h}
   {rw[Array.getElem?_eq_none h] at m; cases m}
  have k:i < a.size:=by omega
  have w:a.getD i false=false:=by simp[k] at g ⊢; exact g
  have q: ∀j,waits o j=true->a.getD j false=true:=fun j hj=>by
   obtain ⟨e,E,s⟩:=Array.any_eq_true'.1 hj;simp only[Bool.and_eq_true,beq_iff_eq] at s;obtain ⟨s,rfl⟩:=s;exact p e E s
  refine wpOp_mono (fun a' w' h=> ?_) (l i (List.mem_range.2 y) o m (fun j=>a.getD j false) u W r w q);obtain ⟨v,rfl,n⟩:=h;rw[<-Z9K a k] at n;refine ih _ _ _ (by simpa using f) ?_ n;have C:a.toList[i]? =some false:=by simp[k] at g ⊢; exact g
  have:=Z75 a.toList i C;rw[Array.toList_setIfInBounds];omega
theorem Z2c {id:Nat} {w:World} {rs:List Nat} (A: (Nat->Value)->Act) (f:Nat->Value) (I: (Nat->Bool)->(Nat->Value)->World->Prop) (k:P.follows .mixedOrders=true) (i:lowAfter ops=true)
 (c:List.range ops.size=rs) (g:I (fun _=>false) f w.drew) (b:StepsInv P ops Q A I rs)
 (a: ∀d u W,I d u W->(∀j,j < ops.size->d j=true)->Q .normal (A u) W):
 (Code.region id ops true).wp P Q (A f) w:=by
 subst c;refine wp_region_any k (Zg3 A I i b a _ _ _ _ (by simp) ?_ ?_)
 {exact Nat.le_trans List.count_le_length (by simp)}
 {have e: (fun j=>(Array.replicate ops.size false).getD j false)=fun _=>false:=by
   funext j;rcases Nat.lt_or_ge j ops.size with h | h
   {simp[h]}
   {simp[h]}
  rw[e];exact g}
theorem Z0B {o:Oper} {a:Act} {W W':World} {c:Act->World->Prop} {E:Prop} (e:Region.wanted o (yielded ops a.tmps)=true)
 (b: (execOp a.eval o).run P W= .ok .skip W') (d:c (a.put o.dst undef) W'):
 if Region.wanted o (yielded ops a.tmps)=true then Oper.wp P o a W c Q else E:=by
 rw[if_pos e,Oper.wp,b,Oper.upon_skip];exact d
end
end Go.Proofs.YtkncdbaoaeeoiaaGreatDoor
namespace Go.Proofs.YtkncdbaoaeeoiaaGreatDoor
section
open Go.RowKit Tms
open Shp (Sh)
open Pso (St)
def valS (x:ES):Value:= .agg (Y8 x.t x.q)
def zerosS:List Value:= [.int .i64 0,.string ⟨#[]⟩,.string ⟨#[]⟩,.slice none 0 0,.slice none 0 0]
theorem ZcR: (Tryz.prog.info? 43).map (fun i=>(i.zero,i.size,i.bytes))=some (some (.agg #[.int .i64 0,.string ByteArray.empty,.string ByteArray.empty,.slice none 0 0,.slice none 0 0]),5,88):=by kernel_rfl
def oS0 (pos:String) (b s tC fi:Nat):Oper:=
 { dst:=some b,op:= .fieldAddr tC (.tmp s) fi,type:=0,pos:=pos,after:=#[],guard:=none }
def oS1 (pos:String) (b:Nat):Oper:=
 { dst:=some (b+1),op:= .load 23 (.tmp b),type:=23,pos:=pos,after:=#[{ on:=0,ground:= .data }],guard:=none }
def oS2 (pos:String) (b p:Nat):Oper:=
 { dst:=some (b+2),op:= .load 59 (.tmp p),type:=59,pos:=pos,after:=#[],guard:=none }
def oS3 (pos:String) (b fn:Nat):Oper:=
 { dst:=some (b+3),op:= .call { callee:= .value (.func fn),args:=#[.tmp (b+2)],argTypes:=#[59] },type:=43,pos:=pos,after:=#[{ on:=2,ground:= .data }],guard:=none }
def oS4 (pos:String) (b:Nat):Oper:=
 { dst:=some (b+4),op:= .call { callee:= .builtin .len,args:=#[.tmp (b+1)],argTypes:=#[23] },type:=3,pos:=pos,after:=#[{ on:=1,ground:= .data }],guard:=none }
def oS5 (pos:String) (b:Nat):Oper:=
 { dst:=some (b+5),op:= .buildSlice 23 1 #[(0,.const (.agg #[.int .i64 0,.string ⟨#[]⟩,.string ⟨#[]⟩,.slice none 0 0,.slice none 0 0]))],type:=23,pos:=pos,after:=#[],guard:=none }
def oS6 (pos:String) (b:Nat):Oper:=
 { dst:=some (b+6),op:= .call { callee:= .builtin .append,args:=#[.tmp (b+1),.tmp (b+5)],argTypes:=#[23,23] },type:=23,pos:=pos,after:=#[{ on:=1,ground:= .data },{ on:=5,ground:= .data },{ on:=3,ground:= .chain },{ on:=0,ground:= .phase },{ on:=1,ground:= .phase },{ on:=2,ground:= .phase },{ on:=3,ground:= .phase },{ on:=4,ground:= .phase },{ on:=5,ground:= .phase }],guard:=none }
def oS7 (pos:String) (b:Nat):Oper:=
 { dst:=some (b+7),op:= .indexAddr 23 (.tmp (b+6)) (.tmp (b+4)),type:=0,pos:=pos,after:=#[{ on:=6,ground:= .data },{ on:=4,ground:= .data },{ on:=0,ground:= .phase },{ on:=1,ground:= .phase },{ on:=2,ground:= .phase },{ on:=3,ground:= .phase },{ on:=4,ground:= .phase },{ on:=5,ground:= .phase },{ on:=6,ground:= .phase },{ on:=10,ground:= .gcOnly .appendInPlace }],guard:=none }
def oS8 (pos:String) (b:Nat):Oper:=
 { dst:=none,op:= .store 43 (.tmp (b+7)) (.tmp (b+3)),type:=0,pos:=pos,after:=#[{ on:=7,ground:= .data },{ on:=3,ground:= .data },{ on:=6,ground:= .chain },{ on:=0,ground:= .phase },{ on:=1,ground:= .phase },{ on:=2,ground:= .phase },{ on:=3,ground:= .phase },{ on:=4,ground:= .phase },{ on:=5,ground:= .phase },{ on:=6,ground:= .phase },{ on:=10,ground:= .gcOnly .appendInPlace }],guard:=none }
def oS9 (pos:String) (b s tC fi:Nat):Oper:=
 { dst:=some (b+8),op:= .fieldAddr tC (.tmp s) fi,type:=0,pos:=pos,after:=#[{ on:=0,ground:= .phase },{ on:=1,ground:= .phase },{ on:=2,ground:= .phase },{ on:=3,ground:= .phase },{ on:=4,ground:= .phase },{ on:=5,ground:= .phase },{ on:=6,ground:= .phase },{ on:=7,ground:= .textOnly .appendInPlace },{ on:=8,ground:= .textOnly .appendInPlace }],guard:=none }
def oS10 (pos:String) (b:Nat):Oper:=
 { dst:=none,op:= .store 23 (.tmp (b+8)) (.tmp (b+6)),type:=0,pos:=pos,after:=#[{ on:=9,ground:= .data },{ on:=6,ground:= .data },{ on:=6,ground:= .chain },{ on:=8,ground:= .textOnly .appendInPlace },{ on:=0,ground:= .phase },{ on:=1,ground:= .phase },{ on:=2,ground:= .phase },{ on:=3,ground:= .phase },{ on:=4,ground:= .phase },{ on:=5,ground:= .phase },{ on:=6,ground:= .phase },{ on:=7,ground:= .textOnly .appendInPlace },{ on:=8,ground:= .textOnly .appendInPlace }],guard:=none }
def opsS (pos:String) (b s p tC fi fn:Nat):Array Oper:=
 #[oS0 pos b s tC fi,oS1 pos b,oS2 pos b p,oS3 pos b fn,oS4 pos b,oS5 pos b,oS6 pos b,oS7 pos b,oS8 pos b,oS9 pos b s tC fi,oS10 pos b]
structure CtxS where
 w:World
 bp:Nat
 A:Option Addr
 c:Nat
 l:List Tk
 τ:St
 ob:Nat
 fo:Nat
 B:Nat
 AR:Option Addr
 cap:Nat
 xs:List ES
 R:ES->Prop
namespace CtxS
variable (X : CtxS)
def val (j:Nat):Option Value:=match j with
 | 0=>some (.pointer (some ⟨X.ob,X.fo,none⟩))
 | 1=>some (.slice X.AR X.xs.length X.cap)
 | 2=>some (.pointer (some ⟨X.bp,0,none⟩))
 | 4=>some (.int .i64 (X.xs.length:Int))
 | 9=>some (.pointer (some ⟨X.ob,X.fo,none⟩))
 | _=>none
structure Good:Prop where
 cell:X.w.cell? ⟨X.ob,X.fo,none⟩=some (.slice X.AR X.xs.length X.cap)
 fz:X.w.frozen? ⟨X.ob,X.fo,none⟩=false
 oblt:X.ob < X.w.heap.size
 bpob:X.bp < X.ob
 row:Row X.w X.B 43 5 cS X.AR X.cap X.xs
 obB:X.ob < X.B
 bpB:X.bp < X.B
 Bw:X.B<=X.w.heap.size
 len:X.xs.length<=900000
structure Pre (d:Nat->Bool) (u:Nat->Value) (W:World):Prop where
 up:UpT [X.bp] X.w W
 b3:d 3=false->Below X.w.heap.size X.w W
 a3:d 3=true-> ∃x:ES,u 3=valS x/\PAt W X.bp X.A X.c X.l X.τ/\x.Is W/\X.w.heap.size<=x.lo/\X.R x
 a5:d 5=true-> ∃z0,u 5= .slice (some ⟨z0,0,none⟩) 1 1/\X.w.heap.size<=z0/\z0 < W.heap.size/\ ∀(j:Nat) v,zerosS[j]? =some v->W.cell? ⟨z0,j,none⟩=some v
structure PostX (d:Nat->Bool) (u:Nat->Value) (W:World) (x:ES) (g cp:Nat):Prop where
 u3:u 3=valS x
 u6:u 6= .slice (some ⟨g,0,none⟩) (X.xs.length+1) cp
 u7:d 7=true->u 7= .pointer (some ⟨g,X.xs.length * 5,none⟩)
 par:PAt W X.bp X.A X.c X.l X.τ
 is:x.Is W
 r:X.R x
 lo:X.w.heap.size<=x.lo
 far:g < x.lo\/x.hi<=g
 new:rowT X.AR=some g\/X.w.heap.size<=g
 up:UpT (X.bp::X.ob::(rowT X.AR).toList) X.w W
 row:W.ownsRow X.B 43 5 (.slice (some ⟨g,0,none⟩) (X.xs.length+1) cp) (X.xs.length+1) (X.xs.flatMap cS++if d 8=true then cS x else zerosS)
 cell:W.cell? ⟨X.ob,X.fo,none⟩=some (if d 10=true then .slice (some ⟨g,0,none⟩) (X.xs.length+1) cp else .slice X.AR X.xs.length X.cap)
 rest: ∀j,j≠X.fo->W.cell? ⟨X.ob,j,none⟩=X.w.cell? ⟨X.ob,j,none⟩
 fz: ∀j,W.frozen? ⟨X.ob,j,none⟩=X.w.frozen? ⟨X.ob,j,none⟩
structure Inv (d:Nat->Bool) (u:Nat->Value) (W:World):Prop where
 vals: ∀j,d j=true-> ∀v,X.val j=some v->u j=v
 e6:d 6=true-> ∀k,k < 6->d k=true
 e7:d 7=true->d 6=true
 e8:d 8=true->d 6=true
 e10:d 10=true->d 6=true
 pre:d 6=false->X.Pre d u W
 post:d 6=true-> ∃x g cp,X.PostX d u W x g cp
variable {X : CtxS} {d : Nat -> Bool} {u : Nat -> Value} {W W' : World}
theorem Good.obne (h:X.Good):X.ob≠X.bp:=by have:=h.bpob; omega
theorem Good.start (h:X.Good):X.Inv (fun _=>false) u X.w.drew:=
 ⟨nofun,nofun,nofun,nofun,nofun,fun _=>⟨(UpT.refl _ _).drew,fun _=>Y2.drew,nofun,nofun⟩,nofun⟩
theorem mono9 {d:Nat->Bool} (i:Nat) {k:Nat} (h:d k=true):also d i k=true:=by
 by_cases e:k=i
 {subst e; unfold also; rw[Nat.beq_refl]; rfl}
 {unfold also;have:Nat.beq k i=false:=by cases a:Nat.beq k i <;> first | rfl | exact absurd (Nat.eq_of_beq_eq_true a) e
  rw[this]; exact h}
theorem ne9 (d:Nat->Bool) {i j:Nat} (h:j≠i):also d i j=d j:=by
 unfold also;have:Nat.beq j i=false:=by cases a:Nat.beq j i <;> first | rfl | exact absurd (Nat.eq_of_beq_eq_true a) h
 rw[this]; rfl
theorem self9 (d:Nat->Bool) (i:Nat):also d i i=true:=by unfold also; rw[Nat.beq_refl]; rfl
section
variable (h : X.Inv d u W) {i : Nat}
include h i
theorem Inv.vals' {v:Value} (b: ∀v',X.val i=some v'->v=v'): ∀j,also d i j=true-> ∀v',X.val j=some v'->upd u i v j=v':=fun j hj v' hv'=>by
 by_cases a:j=i
 {subst a; rw[Z09]; exact b v' hv'}
 {rw[ne9 d a] at hj; rw[Z06 u v a]; exact h.vals j hj v' hv'}
theorem Inv.pure (f:i=0\/i=1\/i=2\/i=4\/i=9) {v:Value} (e: ∀v',X.val i=some v'->v=v'):X.Inv (also d i) (upd u i v) W:=by
 have k: ∀j,j=3\/j=5\/j=6\/j=7\/j=8\/j=10->also d i j=d j/\upd u i v j=u j:=fun j hj=>⟨ne9 d (by omega),Z06 u v (by omega)⟩;refine ⟨h.vals' e, ?_, ?_, ?_, ?_, ?_, ?_⟩
 {rw[(k 6 (by omega)).1]; exact fun c k hk=>mono9 i (h.e6 c k hk)}
 {rw[(k 7 (by omega)).1,(k 6 (by omega)).1]; exact h.e7}
 {rw[(k 8 (by omega)).1,(k 6 (by omega)).1]; exact h.e8}
 {rw[(k 10 (by omega)).1,(k 6 (by omega)).1]; exact h.e10}
 {rw[(k 6 (by omega)).1];intro c;obtain ⟨a,b,c3,c5⟩:=h.pre c;refine ⟨a, ?_, ?_, ?_⟩
  {rw[(k 3 (by omega)).1]; exact b}
  {rw[(k 3 (by omega)).1,(k 3 (by omega)).2]; exact c3}
  {rw[(k 5 (by omega)).1,(k 5 (by omega)).2]; exact c5}}
 {rw[(k 6 (by omega)).1];intro c;obtain ⟨x,g,cp,p⟩:=h.post c;refine ⟨x,g,cp, ?_, ?_, ?_,p.par,p.is,p.r,p.lo,p.far,p.new,p.up, ?_, ?_,p.rest,p.fz⟩
  {rw[(k 3 (by omega)).2]; exact p.u3}
  {rw[(k 6 (by omega)).2]; exact p.u6}
  {rw[(k 7 (by omega)).1,(k 7 (by omega)).2]; exact p.u7}
  {rw[(k 8 (by omega)).1]; exact p.row}
  {rw[(k 10 (by omega)).1]; exact p.cell}}
theorem Inv.early (c:i < 6) (b:d i=false):d 6=false:=by
 cases a:d 6 with
 | false=>rfl
 | true=>have:=h.e6 a i c; rw[b] at this; cases this
theorem Inv.first (b:i < 6) (a:d i=false):UpT [X.bp] X.w W:=(h.pre (h.early b a)).up
end
theorem Inv.cell (h:X.Inv d u W) (a:X.Good) {i:Nat} (e:i < 6) (c:d i=false):W.cell? ⟨X.ob,X.fo,none⟩=some (.slice X.AR X.xs.length X.cap)/\X.ob < W.heap.size:=by
 have b:=h.first e c;exact ⟨((b.same a.oblt (by simp[a.obne])).1 _).trans a.cell,Nat.lt_of_lt_of_le a.oblt b.size⟩
section
variable (h : X.Inv d u W)
include h
theorem Inv.s3 (n:d 3=false) {x:ES} (p:PAt W' X.bp X.A X.c X.l X.τ) (f:UpT [X.bp] W W') (t:x.Is W') (o:W.heap.size<=x.lo) (q:X.R x) (i:X.Good):X.Inv (also d 3) (upd u 3 (valS x)) W':=by
 have c:=h.early (by omega) n;obtain ⟨a,b,c3,c5⟩:=h.pre c;have k: ∀j,j≠3->also d 3 j=d j/\upd u 3 (valS x) j=u j:=fun j hj=>⟨ne9 d hj,Z06 u _ hj⟩;refine ⟨h.vals' (by intro A g; cases g), ?_, ?_, ?_, ?_, ?_, ?_⟩
 {rw[(k 6 (by omega)).1,c]; intro e; cases e}
 {rw[(k 7 (by omega)).1,(k 6 (by omega)).1]; exact h.e7}
 {rw[(k 8 (by omega)).1,(k 6 (by omega)).1]; exact h.e8}
 {rw[(k 10 (by omega)).1,(k 6 (by omega)).1]; exact h.e10}
 {intro _;have s:=a.size;refine ⟨a.trans f, ?_,fun _=>⟨x,Z09 _ _ _,p,t,by omega,q⟩, ?_⟩
  {rw[self9]; intro e; cases e}
  {rw[(k 5 (by omega)).1,(k 5 (by omega)).2];intro m;obtain ⟨w,e1,e2,e3,l⟩:=c5 m;have y:=i.bpB;have z:=i.Bw;have r:=f.same e3 (by simp; omega);exact ⟨w,e1,e2,Nat.lt_of_lt_of_le e3 f.size,fun j v hv=>(r.1 j).trans (l j v hv)⟩}}
 {rw[(k 6 (by omega)).1,c]; intro e; cases e}
theorem Inv.s5 (m:d 5=false) (n:X.Good) (t:TypeId):X.Inv (also d 5) (upd u 5 (.slice (some ⟨W.heap.size,0,none⟩) 1 1)) (W.alloc (.cells Yb t)):=by
 have f:=h.early (by omega) m;obtain ⟨a,b,c3,c5⟩:=h.pre f;have k: ∀j,j≠5->also d 5 j=d j/\upd u 5 (.slice (some ⟨W.heap.size,0,none⟩) 1 1) j=u j:=fun j hj=>⟨ne9 d hj,Z06 u _ hj⟩;have c:=Z01 W (.cells Yb t);refine ⟨h.vals' (by intro o g; cases g), ?_, ?_, ?_, ?_, ?_, ?_⟩
 {rw[(k 6 (by omega)).1,f]; intro e; cases e}
 {rw[(k 7 (by omega)).1,(k 6 (by omega)).1]; exact h.e7}
 {rw[(k 8 (by omega)).1,(k 6 (by omega)).1]; exact h.e8}
 {rw[(k 10 (by omega)).1,(k 6 (by omega)).1]; exact h.e10}
 {intro _;refine ⟨a.below c, ?_, ?_,fun _=>⟨W.heap.size,Z09 _ _ _,a.size,by simp,fun j v hv=> ?_⟩⟩
  {rw[(k 3 (by omega)).1]; exact fun e=>Z00 (b e) c}
  {rw[(k 3 (by omega)).1,(k 3 (by omega)).2];intro l;obtain ⟨x,e1,e2,e3,e4,i⟩:=c3 l;exact ⟨x,e1,e2.below c,New.below e3 c,e4,i⟩}
  {rw[World.cell?_alloc_at _ _ _ _ rfl];simpa[zerosS] using hv}}
 {rw[(k 6 (by omega)).1,f]; intro e; cases e}
theorem Inv.s6 (o:d 6=false) (w: ∀k,k < 6->d k=true) {g cp:Nat} (i:X.Good) (n:W'.ownsRow X.B 43 5 (.slice (some ⟨g,0,none⟩) (X.xs.length+1) cp) (X.xs.length+1) (X.xs.flatMap cS++zerosS))
 (l:W.grownBy W' (rowT X.AR)) (m:rowT X.AR=some g\/g=W.heap.size):X.Inv (also d 6) (upd u 6 (.slice (some ⟨g,0,none⟩) (X.xs.length+1) cp)) W':=by
 obtain ⟨a,b,c3,c5⟩:=h.pre o;obtain ⟨x,B,C,v,D,E⟩:=c3 (w 3 (by omega));have k: ∀j,j≠6->also d 6 j=d j/\upd u 6 (.slice (some ⟨g,0,none⟩) (X.xs.length+1) cp) j=u j:=fun j hj=>⟨ne9 d hj,Z06 u _ hj⟩;have z:d 7=false:=by cases e:d 7 with | false=>rfl | true=>have:=h.e7 e; rw[o] at this; cases this
 have A:d 8=false:=by cases e:d 8 with | false=>rfl | true=>have:=h.e8 e; rw[o] at this; cases this
 have p:d 10=false:=by cases e:d 10 with | false=>rfl | true=>have:=h.e10 e; rw[o] at this; cases this
 have r:=a.size;have f: ∀k,rowT X.AR=some k->X.B<=k/\k < X.w.heap.size:=fun k hk=>i.row.lt k hk;have F:=i.Bw;have t:UpT (rowT X.AR).toList W W':=⟨l.os,l.tape,l.output,l.size,fun x c h2=>l.block x c (fun e=>h2 (by rw[<-e]; simp))⟩;have q:SameT X.w W' X.ob:=(a.same i.oblt (by simp[i.obne])).trans (t.same (Nat.lt_of_lt_of_le i.oblt r) (by
  intro G;have c:rowT X.AR=some X.ob:=by simpa using G
  have:=f _ c; have:=i.obB; omega))
 refine ⟨h.vals' (by intro H s; cases s),fun _ j hj=>mono9 6 (w j hj), ?_, ?_, ?_, ?_, ?_⟩
 {intro _; exact self9 _ _}
 {intro _; exact self9 _ _}
 {intro _; exact self9 _ _}
 {rw[self9]; intro e; cases e}
 {intro _;refine ⟨x,g,cp, ?_,Z09 _ _ _, ?_,C.keep t (fun k hk=> ?_),New.grown v l (fun k hk=>Or.inl ?_),E,D, ?_, ?_, ?_, ?_, ?_,fun j hj=>q.1 j,fun j=>q.2 j⟩
  {rw[(k 3 (by omega)).2]; exact B}
  {rw[(k 7 (by omega)).1,z]; intro e; cases e}
  {have c:rowT X.AR=some k:=by simpa using hk
   have:=f _ c; have:=i.bpB; omega}
  {have:=f _ hk; omega}
  {rcases m with c | c
   {left; have:=f _ c; omega}
   {right; have:=v.hi_; omega}}
  {rcases m with c | c
   {exact Or.inl c}
   {exact Or.inr (by omega)}}
  {exact (a.mono (fun y hy _=>by simp at hy; simp[hy])).trans (t.mono (fun y hy _=>by simp at hy; simp[hy]))}
  {rw[(k 8 (by omega)).1,A]; simpa using n}
  {rw[(k 10 (by omega)).1,p]; exact (q.1 _).trans i.cell}}
theorem Inv.s7 (a:d 6=true) {v:Value} (c: ∀x g cp,X.PostX d u W x g cp->v= .pointer (some ⟨g,X.xs.length * 5,none⟩)):X.Inv (also d 7) (upd u 7 v) W:=by
 have k: ∀j,j≠7->also d 7 j=d j/\upd u 7 v j=u j:=fun j hj=>⟨ne9 d hj,Z06 u _ hj⟩;refine ⟨h.vals' (by intro f b; cases b), ?_, ?_, ?_, ?_, ?_, ?_⟩
 {rw[(k 6 (by omega)).1]; exact fun a j hj=>mono9 7 (h.e6 a j hj)}
 {rw[(k 6 (by omega)).1]; exact fun _=>a}
 {rw[(k 8 (by omega)).1,(k 6 (by omega)).1]; exact h.e8}
 {rw[(k 10 (by omega)).1,(k 6 (by omega)).1]; exact h.e10}
 {rw[(k 6 (by omega)).1,a]; intro e; cases e}
 {intro _;obtain ⟨x,g,cp,p⟩:=h.post a;refine ⟨x,g,cp, ?_, ?_,fun _=> ?_,p.par,p.is,p.r,p.lo,p.far,p.new,p.up, ?_, ?_,p.rest,p.fz⟩
  {rw[(k 3 (by omega)).2]; exact p.u3}
  {rw[(k 6 (by omega)).2]; exact p.u6}
  {rw[Z09]; exact c x g cp p}
  {rw[(k 8 (by omega)).1]; exact p.row}
  {rw[(k 10 (by omega)).1]; exact p.cell}}
end
theorem grown_trans9 {a b c:World} {r:Option Nat} (h:a.grownBy b r) (k:b.grownBy c r):a.grownBy c r:=
 ⟨k.os.trans h.os,k.tape.trans h.tape,k.output.trans h.output,Nat.le_trans h.size k.size,fun i hi hn=>(k.block i (Nat.lt_of_lt_of_le hi h.size) hn).trans (h.block i hi hn)⟩
def putS (W:World) (g i:Nat) (x:ES):World:=(((((W).setCell ⟨g,i+0,none⟩ (.int .i64 x.t.kind)).setCell ⟨g,i+1,none⟩ (.string ⟨x.t.of_.toArray⟩)).setCell ⟨g,i+2,none⟩ (.string ⟨x.t.name.toArray⟩)).setCell ⟨g,i+3,none⟩ (.slice x.q.A x.t.names.length x.q.c)).setCell ⟨g,i+4,none⟩ (.slice x.q.P x.t.parts.length x.q.d)
section
variable (x : ES) {g cp n B : Nat} {ys : List Value} (hn : ys.length = n * 5) (h : W.ownsRow B 43 5 (.slice (some ⟨g, 0, none⟩) (n + 1) cp) (n + 1) (ys ++ zerosS))
include x g cp n B ys hn h
theorem put_row:
 (putS W g (n * 5) x).ownsRow B 43 5 (.slice (some ⟨g,0,none⟩) (n+1) cp) (n+1) (ys++cS x)/\W.grownBy (putS W g (n * 5) x) (some g):=by
 obtain ⟨l,c⟩:=World.ownsRow.stored h (n * 5+0) (.int .i64 x.t.kind);obtain ⟨m,e⟩:=World.ownsRow.stored l (n * 5+1) (.string ⟨x.t.of_.toArray⟩);obtain ⟨o,f⟩:=World.ownsRow.stored m (n * 5+2) (.string ⟨x.t.name.toArray⟩);obtain ⟨p,i⟩:=World.ownsRow.stored o (n * 5+3) (.slice x.q.A x.t.names.length x.q.c);obtain ⟨b,j⟩:=World.ownsRow.stored p (n * 5+4) (.slice x.q.P x.t.parts.length x.q.d);refine ⟨?_,(grown_trans9 (grown_trans9 (grown_trans9 (grown_trans9 c e) f) i) j)⟩;have a: ∀(zs:List Value) (k:Nat) (v:Value),(ys++zs).set (n * 5+k) v=ys++zs.set k v:=fun zs k v=>by rw[<-hn,List.set_append_right _ _ (by omega),Nat.add_sub_cancel_left]
 rw[a,a,a,a,a] at b;exact b
theorem put_zero (k:Nat) (c:k < 5): ∃v,W.cell? ⟨g,n * 5+k,none⟩=some v/\W.frozen? ⟨g,n * 5+k,none⟩=false:=by
 have a:=h.cellAt (n * 5+k) (by rw[Nat.add_mul]; omega);rw[List.getElem?_append_right (by omega),hn,Nat.add_sub_cancel_left] at a;have b:k < zerosS.length:=c;rw[List.getElem?_eq_getElem b] at a;exact ⟨_,a,h.frozenAt _⟩
end
theorem Inv.s8 (h:X.Inv d u W) (s:d 8=false) (l:d 6=true) (f:X.Good) {x:ES} {g cp:Nat} (p:X.PostX d u W x g cp) (v:Value):X.Inv (also d 8) (upd u 8 v) (putS W g (X.xs.length * 5) x):=by
 have k: ∀j,j≠8->also d 8 j=d j/\upd u 8 v j=u j:=fun j hj=>⟨ne9 d hj,Z06 u _ hj⟩;have b:=p.row;rw[s] at b;simp only[Bool.false_eq_true,if_false] at b;obtain ⟨m,a⟩:=put_row x (by rw[Z1V Z8m]) b;have t:X.B<=g/\g < W.heap.size:=b.lt g rfl;have r:=f.bpB;have A:=f.obB;have z:=p.lo;have q:=f.Bw;have c:SameT W (putS W g (X.xs.length * 5) x) X.ob:=⟨fun j=>World.cell?_of_block (w:=W) (a.block X.ob (Nat.lt_of_lt_of_le f.oblt p.up.size) (fun e=>by have:=Option.some.inj e; omega)),fun j=>World.frozen?_of_block (w:=W) (a.block X.ob (Nat.lt_of_lt_of_le f.oblt p.up.size) (fun e=>by have:=Option.some.inj e; omega))⟩;refine ⟨h.vals' (by intro B n; cases n), ?_, ?_, ?_, ?_, ?_, ?_⟩
 {rw[(k 6 (by omega)).1]; exact fun l j hj=>mono9 8 (h.e6 l j hj)}
 {rw[(k 7 (by omega)).1,(k 6 (by omega)).1]; exact h.e7}
 {rw[(k 6 (by omega)).1]; exact fun _=>l}
 {rw[(k 10 (by omega)).1,(k 6 (by omega)).1]; exact h.e10}
 {rw[(k 6 (by omega)).1,l]; intro e; cases e}
 {intro _;refine ⟨x,g,cp, ?_, ?_, ?_, ?_,New.grown p.is a (fun j hj=> ?_),p.r,p.lo,p.far,p.new, ?_, ?_, ?_,fun j hj=>(c.1 j).trans (p.rest j hj),fun j=>(c.2 j).trans (p.fz j)⟩
  {rw[(k 3 (by omega)).2]; exact p.u3}
  {rw[(k 6 (by omega)).2]; exact p.u6}
  {rw[(k 7 (by omega)).1,(k 7 (by omega)).2]; exact p.u7}
  {refine p.par.keep (F:= [g]) ⟨a.os,a.tape,a.output,a.size,fun y h1 h2=>a.block y h1 (fun e=>h2 (by rw[Option.some.inj e]; simp))⟩ (by simp; omega)}
  {obtain rfl:=Option.some.inj hj; exact p.far}
  {have i:UpT [g] W (putS W g (X.xs.length * 5) x):=⟨a.os,a.tape,a.output,a.size,fun y h1 h2=>a.block y h1 (fun e=>h2 (by rw[Option.some.inj e]; simp))⟩;refine ⟨i.os.trans p.up.os,i.tape.trans p.up.tape,i.output.trans p.up.output,Nat.le_trans p.up.size i.size,fun y h1 h2=> ?_⟩;rw[i.block y (Nat.lt_of_lt_of_le h1 p.up.size) (fun e=> ?_)]
   {exact p.up.block y h1 h2}
   {obtain rfl:y=g:=by simpa using e
    rcases p.new with o | o
    {exact h2 (by rw[o]; simp)}
    {omega}}}
  {rw[self9]; simpa using m}
  {rw[(k 10 (by omega)).1]; exact (c.1 _).trans p.cell}}
theorem Inv.s10 (h:X.Inv d u W) (A:d 10=false) (f:d 6=true) (c:X.Good) {x:ES} {g cp:Nat} (p:X.PostX d u W x g cp) (v:Value):X.Inv (also d 10) (upd u 10 v) (W.setCell ⟨X.ob,X.fo,none⟩ (.slice (some ⟨g,0,none⟩) (X.xs.length+1) cp)):=by
 have k: ∀j,j≠10->also d 10 j=d j/\upd u 10 v j=u j:=fun j hj=>⟨ne9 d hj,Z06 u _ hj⟩;have t:X.B<=g/\g < W.heap.size:=p.row.lt g rfl;have s:=c.bpB;have z:=c.obB;have w:=p.lo;have r:=c.Bw;have l:=c.obne;have o:=c.bpob;have i:UpT [X.ob] W (W.setCell ⟨X.ob,X.fo,none⟩ (.slice (some ⟨g,0,none⟩) (X.xs.length+1) cp)):=(UpT.refl _ _).set _ (Or.inr (by simp)) _;refine ⟨h.vals' (by intro B n; cases n), ?_, ?_, ?_, ?_, ?_, ?_⟩
 {rw[(k 6 (by omega)).1]; exact fun f j hj=>mono9 10 (h.e6 f j hj)}
 {rw[(k 7 (by omega)).1,(k 6 (by omega)).1]; exact h.e7}
 {rw[(k 8 (by omega)).1,(k 6 (by omega)).1]; exact h.e8}
 {rw[(k 6 (by omega)).1]; exact fun _=>f}
 {rw[(k 6 (by omega)).1,f]; intro e; cases e}
 {intro _;have m:PAt (W.setCell ⟨X.ob,X.fo,none⟩ (.slice (some ⟨g,0,none⟩) (X.xs.length+1) cp)) X.bp X.A X.c X.l X.τ:=by
   have q: ∀b,b≠X.ob->SameT W (W.setCell ⟨X.ob,X.fo,none⟩ (.slice (some ⟨g,0,none⟩) (X.xs.length+1) cp)) b:=fun b a=>Z1y _ _ _ (fun e=>a (by simpa using e.symm));have a:=q X.bp (fun e=>l e.symm);exact ⟨Nat.lt_of_lt_of_le p.par.lt i.size,(a.1 0).trans p.par.c0,(a.1 1).trans p.par.c1,(a.1 2).trans p.par.c2,(a.1 3).trans p.par.c3,fun k=>(a.2 k).trans (p.par.fz k),p.par.tk.same (fun b hb2=>q b (by omega)),p.par.gs.up i (by simp; omega),p.par.tx⟩
  refine ⟨x,g,cp, ?_, ?_, ?_,m,New.up p.is i (by simp; omega),p.r,p.lo,p.far,p.new, ?_, ?_, ?_,fun j hj=> ?_,fun j=> ?_⟩
  {rw[(k 3 (by omega)).2]; exact p.u3}
  {rw[(k 6 (by omega)).2]; exact p.u6}
  {rw[(k 7 (by omega)).1,(k 7 (by omega)).2]; exact p.u7}
  {exact p.up.trans (i.mono (fun y hy _=>by simp at hy; simp[hy]))}
  {rw[(k 8 (by omega)).1]; exact Z1n p.row (by intro e; have:=Option.some.inj e; simp at this; omega) _}
  {rw[self9,if_pos rfl]; exact World.cell?_setCell_same _ _ _ p.cell}
  {rw[World.cell?_setCell_other _ _ _ _ (fun e=>hj (by have:=congrArg Addr.off e; simpa using this.symm))]; exact p.rest j hj}
  {rw[World.frozen?_setCell]; exact p.fz j}}
end CtxS
structure FrameS (pos:String) (b s p:Nat) (tC fi fn:Nat) (A: (Nat->Value)->Act) (vs vp:Value):Prop where
 put: ∀(i:Nat) o,(opsS pos b s p tC fi fn)[i]? =some o-> ∀u v,(A u).put o.dst v=A (upd u i v)
 es: ∀u,(A u).eval (.tmp s)=vs
 ep: ∀u,(A u).eval (.tmp p)=vp
 e0: ∀u,(A u).eval (.tmp b)=u 0
 e1: ∀u,(A u).eval (.tmp (b+1))=u 1
 e2: ∀u,(A u).eval (.tmp (b+2))=u 2
 e3: ∀u,(A u).eval (.tmp (b+3))=u 3
 e4: ∀u,(A u).eval (.tmp (b+4))=u 4
 e5: ∀u,(A u).eval (.tmp (b+5))=u 5
 e6: ∀u,(A u).eval (.tmp (b+6))=u 6
 e7: ∀u,(A u).eval (.tmp (b+7))=u 7
 e9: ∀u,(A u).eval (.tmp (b+8))=u 9
theorem regS {Q:Exit->Act->World->Prop} {id:Nat} (pos:String) (b s p:Nat) (t q n:Nat) (X:CtxS) (l:X.Good) (pb:Nat) (H:X.w.cell? ⟨pb,0,none⟩=some (.pointer (some ⟨X.bp,0,none⟩))) (B:pb < X.w.heap.size) (I:pb≠X.bp)
 (A: (Nat->Value)->Act) (P:Nat->Value) (i:FrameS pos b s p t q n A (.pointer (some ⟨X.ob,0,none⟩)) (.pointer (some ⟨pb,0,none⟩)))
 (hfa: ∀W,(Instr.fieldAt t (.pointer (some ⟨X.ob,0,none⟩)) q).run Tryz.prog W= .ok (.pointer (some ⟨X.ob,X.fo,none⟩)) W)
 (a7: ∀args W,(callFunc n args).run Tryz.prog W= .ok (.enter n args) W)
 (r: ∀W,Below X.w.heap.size X.w W->Calls Tryz.prog n #[.pointer (some ⟨X.bp,0,none⟩)] W fun e W'=> ∃x:ES,e= .returned (valS x)/\PAt W' X.bp X.A X.c X.l X.τ/\UpT [X.bp] W W'/\x.Is W'/\W.heap.size<=x.lo/\X.R x)
 (hQ: ∀u W x g cp,X.PostX (fun _=>true) u W x g cp->Q .normal (A u) W):
 (Code.region id (opsS pos b s p t q n) true).wp Tryz.prog Q (A P) X.w:=by
 obtain ⟨i0,G,J,K,L⟩:=Z1e ZcR;have N:=i.es;have T:=i.ep;have a5:Tryz.prog.cellsOf 23=1:=by kernel_rfl
 have a6:Tryz.prog.cellsOf 59=1:=by kernel_rfl
 refine Z2c (rs:= [0,1,2,3,4,5,6,7,8,9,10]) A P X.Inv (by kernel_rfl) (by kernel_rfl) (by kernel_rfl) l.start ?_ ?_;refine StepsInv.cons (oS0 pos b s t q) rfl (fun d u W K' a c hw hK=> ?_) ?_
 {refine Z02 (v:= .pointer (some ⟨X.ob,X.fo,none⟩)) (W':=W) rfl ?_ (by rw[i.put 0 (oS0 pos b s t q) rfl u _]; exact hK.out _ _ (a.pure (by decide) (fun v' h=>by cases h; rfl)));simp only[execOp,oS0,N u,hfa,Sem.run_bind,Result.andThen_ok,Sem.run_pure]}
 refine StepsInv.cons (oS1 pos b) rfl (fun d u W K' a c hw hK=> ?_) ?_
 {have e0:=i.e0 u;rw[a.vals 0 (hw 0 (by kernel_rfl)) _ rfl] at e0;obtain ⟨D,y⟩:=a.cell l (by decide) c;refine Z02 (v:= .slice X.AR X.xs.length X.cap) (W':=W) rfl ?_ (by rw[i.put 1 (oS1 pos b) rfl u _]; exact hK.out _ _ (a.pure (by decide) (fun v' h=>by cases h; rfl)));simp only[execOp,oS1,e0,Sem.run_bind,Result.andThen_ok,Sem.run_pure];go_simp}
 refine StepsInv.cons (oS2 pos b p) rfl (fun d u W K' a c hw hK=> ?_) ?_
 {obtain ⟨D,y⟩:W.cell? ⟨pb,0,none⟩=some (.pointer (some ⟨X.bp,0,none⟩))/\pb < W.heap.size:=⟨(((a.first (by decide) c).same B (by simp[I])).1 _).trans H,Nat.lt_of_lt_of_le B (a.first (by decide) c).size⟩;refine Z02 (v:= .pointer (some ⟨X.bp,0,none⟩)) (W':=W) rfl ?_ (by rw[i.put 2 (oS2 pos b p) rfl u _]; exact hK.out _ _ (a.pure (by decide) (fun v' h=>by cases h; rfl)));simp only[execOp,oS2,T u,Sem.run_bind,Result.andThen_ok,Sem.run_pure];go_simp}
 refine StepsInv.cons (oS3 pos b n) rfl (fun d u W K' a c hw hK=> ?_) ?_
 {have e2:=i.e2 u;rw[a.vals 2 (hw 2 (by kernel_rfl)) _ rfl] at e2;have F:=(a.pre (a.early (by decide) c)).b3 c;refine Z0M (f:=n) (args:=#[.pointer (some ⟨X.bp,0,none⟩)]) (W':=W) rfl ?_ ((r W F).mono ?_)
  {simp only[execOp,oS3,e2,Sem.run_bind,Result.andThen_ok,Sem.run_pure,resolve,invoke,List.map_toArray,List.map_cons,List.map_nil];have S: (A u).eval (.func n)= .func (.func n) #[] #[]:=rfl;rw[S];go_simp}
  {rintro e W' ⟨x,rfl,V,Y,Z,h4,h5⟩;exact ⟨_,rfl,by rw[i.put 3 (oS3 pos b n) rfl u _]; exact hK.out _ _ (a.s3 c V Y Z h4 h5 l)⟩}}
 refine StepsInv.cons (oS4 pos b) rfl (fun d u W K' a c hw hK=> ?_) ?_
 {have e1:=i.e1 u;rw[a.vals 1 (hw 1 (by kernel_rfl)) _ rfl] at e1;refine Z02 (v:= .int .i64 (X.xs.length:Int)) (W':=W) rfl ?_ (by rw[i.put 4 (oS4 pos b) rfl u _]; exact hK.out _ _ (a.pure (by decide) (fun v' h=>by cases h; rfl)));simp only[execOp,oS4,e1,Sem.run_bind,Result.andThen_ok,Sem.run_pure,resolve,invoke,List.map_toArray,List.map_cons,List.map_nil];go_simp}
 refine StepsInv.cons (oS5 pos b) rfl (fun d u W K' a c hw hK=> ?_) ?_
 {refine Z02 (v:= .slice (some ⟨W.heap.size,0,none⟩) 1 1) (W':=W.alloc (.cells Yb 43)) rfl ?_ (by rw[i.put 5 (oS5 pos b) rfl u _]; exact hK.out _ _ (a.s5 c l _));simp only[execOp,oS5,Sem.run_bind,Result.andThen_ok,Sem.run_pure];go_simp}
 refine StepsInv.cons (oS6 pos b) rfl (fun d u W K' a c hw hK=> ?_) ?_
 {have e1:=i.e1 u;rw[a.vals 1 (hw 1 (by kernel_rfl)) _ rfl] at e1;obtain ⟨z0,u5,z1,z2,z3⟩:=(a.pre c).a5 (hw 5 (by kernel_rfl));have M:=i.e5 u;rw[u5] at M;have a4:=l.bpB;have E:=l.row.up (a.pre c).up (fun x hx=>by simp at hx; subst hx; intro e; have:=l.row.lt _ e; omega);have b0:=l.len;have a2:=l.Bw;have b3:=(a.pre c).up.size;refine step_append_lies W rfl _ _ 23 rfl X.B 43 i0 (.agg #[.int .i64 0,.string ByteArray.empty,.string ByteArray.empty,.slice none 0 0,.slice none 0 0]) 5 88 Tryz.underlying23 G J K L rfl (by decide) _ _ _ e1 E ⟨z0,0,none⟩ 1 1 zerosS M rfl (fun j v hv=>by rw[Z0r,Nat.zero_add]; exact z3 j v hv) (by decide) (by decide) (by unfold maxLen; omega) (by omega) (by omega) _ rfl ?_;intro g cp W' z O w y;rw[i.put 6 (oS6 pos b) rfl u _];exact hK.out _ _ (a.s6 c (fun k hk=>hw k (by
   rcases k with _ | _ | _ | _ | _ | _ | k
   {kernel_rfl}
   {kernel_rfl}
   {kernel_rfl}
   {kernel_rfl}
   {kernel_rfl}
   {kernel_rfl}
   · omega)) l z (by rw[Z0v] at O; exact O) (by rw[Z0v] at w; exact w))}
 refine StepsInv.cons (oS7 pos b) rfl (fun d u W K' a c hw hK=> ?_) ?_
 {have o:=hw 6 (by kernel_rfl);obtain ⟨x,g,cp,p⟩:=a.post o;have e6:=i.e6 u;rw[p.u6] at e6;have e4:=i.e4 u;rw[a.vals 4 (hw 4 (by kernel_rfl)) _ rfl] at e4;refine Z02 (v:= .pointer (some ⟨g,X.xs.length * 5,none⟩)) (W':=W) rfl ?_ (by rw[i.put 7 (oS7 pos b) rfl u _]; exact hK.out _ _ (a.s7 o (fun x' g' cp' p'=>by
   have:=p.u6.symm.trans p'.u6;simp only[Value.slice.injEq,Option.some.injEq,Addr.mk.injEq,and_true] at this;rw[this.1])))
  simp only[execOp,oS7,e6,e4,Sem.run_bind,Result.andThen_ok,Sem.run_pure];go_simp;intro h; omega}
 refine StepsInv.cons (oS8 pos b) rfl (fun d u W K' a c hw hK=> ?_) ?_
 {have o:=a.e7 (hw 7 (by kernel_rfl));obtain ⟨x,g,cp,p⟩:=a.post o;have e7:=i.e7 u;rw[p.u7 (hw 7 (by kernel_rfl))] at e7;have e3:=i.e3 u;rw[p.u3] at e3;have m:=p.row;rw[c] at m;simp only[Bool.false_eq_true,if_false] at m;have C:=CtxS.put_zero x (by rw[Z1V Z8m]) m;have a9:=(m.lt g rfl).2;have hs:=a.s8 c o l p undef;refine Z0B (W':=CtxS.putS W g (X.xs.length * 5) x) rfl ?_ (by rw[i.put 8 (oS8 pos b) rfl u _]; exact hK.out _ _ hs);simp only[execOp,oS8,e7,e3,Sem.run_bind,Result.andThen_ok,Sem.run_pure,valS];obtain ⟨y0,c0,U⟩:=C 0 (by decide);obtain ⟨y1,c1,f1⟩:=C 1 (by decide);obtain ⟨y2,c2,f2⟩:=C 2 (by decide);obtain ⟨y3,c3,f3⟩:=C 3 (by decide);obtain ⟨y4,c4,f4⟩:=C 4 (by decide);simp only[Nat.add_zero] at c0 U;go_simp;rfl}
 refine StepsInv.cons (oS9 pos b s t q) rfl (fun d u W K' a c hw hK=> ?_) ?_
 {refine Z02 (v:= .pointer (some ⟨X.ob,X.fo,none⟩)) (W':=W) rfl ?_ (by rw[i.put 9 (oS9 pos b s t q) rfl u _]; exact hK.out _ _ (a.pure (by decide) (fun v' h=>by cases h; rfl)));simp only[execOp,oS9,N u,hfa,Sem.run_bind,Result.andThen_ok,Sem.run_pure]}
 refine StepsInv.cons (oS10 pos b) rfl (fun d u W K' a c hw hK=> ?_) StepsInv.nil
 {have o:=hw 6 (by kernel_rfl);obtain ⟨x,g,cp,p⟩:=a.post o;have e6:=i.e6 u;rw[p.u6] at e6;have e9:=i.e9 u;rw[a.vals 9 (hw 9 (by kernel_rfl)) _ rfl] at e9;have D:=p.cell;rw[c] at D;simp only[Bool.false_eq_true,if_false] at D;have a8:=(p.fz X.fo).trans l.fz;have b1:=Nat.lt_of_lt_of_le l.oblt p.up.size;refine Z0B (W':=W.setCell ⟨X.ob,X.fo,none⟩ (.slice (some ⟨g,0,none⟩) (X.xs.length+1) cp)) rfl ?_ (by rw[i.put 10 (oS10 pos b) rfl u _]; exact hK.out _ _ (a.s10 c o l p undef));simp only[execOp,oS10,e9,e6,Sem.run_bind,Result.andThen_ok,Sem.run_pure];go_simp}
 {intro d u W a c;obtain ⟨x,g,cp,p⟩:=a.post (c 6 (by show 6 < 11; omega));refine hQ u W x g cp ⟨p.u3,p.u6,fun _=>p.u7 (c 7 (by show 7 < 11; omega)),p.par,p.is,p.r,p.lo,p.far,p.new,p.up, ?_, ?_,p.rest,p.fz⟩
  {have:=p.row; rw[c 8 (by show 8 < 11; omega)] at this; exact this}
  {have:=p.cell; rw[c 10 (by show 10 < 11; omega)] at this; exact this}}
end
end Go.Proofs.YtkncdbaoaeeoiaaGreatDoor
namespace Go.Proofs.YtkncdbaoaeeoiaaGreatDoor
open Go.RowKit
def Shutd (ops:Array Oper) (d:Nat->Bool):Prop:= ∀k o,ops[k]? =some o->d k=true-> ∀m,waits o m=true->d m=true
section
variable {P : Program} {ops : Array Oper} {Q : Exit -> Act -> World -> Prop} {d : Nat -> Bool}
theorem Z77 (i:Nat) {k:Nat} (h:d k=true):also d i k=true:=by
 unfold also;cases Nat.beq k i
 {exact h}
 {rfl}
theorem Shutd.also (h:Shutd ops d) {i:Nat} {o:Oper} (g:ops[i]? =some o) (l: ∀j,waits o j=true->d j=true):Shutd ops (also d i):=by
 intro k n a b m c;by_cases e:k=i
 {subst e;rw[g] at a;obtain rfl:=Option.some.inj a;exact Z77 _ (l m c)}
 {have:Go.Proofs.YtkncdbaoaeeoiaaGreatDoor.also d i k=d k:=by
   unfold Go.Proofs.YtkncdbaoaeeoiaaGreatDoor.also;have:Nat.beq k i=false:=by cases f:Nat.beq k i <;> first | rfl | exact absurd (Nat.eq_of_beq_eq_true f) e
   rw[this]; rfl
  rw[this] at b;exact Z77 _ (h k n a b m c)}
theorem StepsInv.cons2 {A: (Nat->Value)->Act} {I: (Nat->Bool)->(Nat->Value)->World->Prop} {i:Nat} {rs:List Nat} (o:Oper) (a:ops[i]? =some o)
 (h: ∀(d:Nat->Bool) (u:Nat->Value) (W:World) (K':Act->World->Prop),Shutd ops d->I d u W->d i=false->(∀j,waits o j=true->d j=true)->
  Shut (∀v w',I (also d i) (upd u i v) w'->K' (A (upd u i v)) w')->
  if Region.wanted o (yielded ops (A u).tmps)=true then Oper.wp P o (A u) W K' Q else K' ((A u).put o.dst undef) W)
 (b:StepsInv P ops Q A (fun d u W=>Shutd ops d/\I d u W) rs):StepsInv P ops Q A (fun d u W=>Shutd ops d/\I d u W) (i::rs):=
 StepsInv.cons o a (fun d u W K' hI hd hw hK=>h d u W K' hI.1 hI.2 hd hw (fun v w' hv=>hK _ _ ⟨hI.1.also a hw,hv⟩)) b
theorem Z3I {id:Nat} {w:World} {rs:List Nat} (A: (Nat->Value)->Act) (e:Nat->Value) (I: (Nat->Bool)->(Nat->Value)->World->Prop) (i:P.follows .mixedOrders=true) (g:lowAfter ops=true)
 (c:List.range ops.size=rs) (f:I (fun _=>false) e w.drew) (b:StepsInv P ops Q A (fun d u W=>Shutd ops d/\I d u W) rs)
 (a: ∀d u W,I d u W->(∀j,j < ops.size->d j=true)->Q .normal (A u) W):
 (Code.region id ops true).wp P Q (A e) w:=
 Z2c A e (fun d u W=>Shutd ops d/\I d u W) i g c ⟨fun _ _ _ h=>(by cases h),f⟩ b (fun d u W h=>a d u W h.2)
end
end Go.Proofs.YtkncdbaoaeeoiaaGreatDoor
