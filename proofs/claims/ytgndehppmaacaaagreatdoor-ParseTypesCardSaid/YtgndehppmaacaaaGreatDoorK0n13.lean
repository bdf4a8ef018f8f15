/- What the proofs of ParseTypes want, part 13. -/
import Derived.Test.YtgndehppmaacaaaGreatDoorK0n12
set_option linter.unusedVariables false
set_option linter.unusedSimpArgs false
set_option linter.unusedSectionVars false
set_option maxRecDepth 100000
set_option maxHeartbeats 16000000
namespace Go.Proofs.YtgndehppmaacaaaGreatDoor
open Go.RowKit Tms
open Shp (Sh)
open Pso (St)
structure PtxT where
 w:World
 bp:Nat
 A:Option Addr
 c:Nat
 l:List Tk
 τ:St
 ob:Nat
 fo:Nat
 B:Nat
 AR:Option Addr
 cap:Nat
 xs:List ET
 R:ET->Prop
namespace PtxT
variable (X : PtxT)
def val (j:Nat):Option Value:=match j with
 | 0=>some (.pointer (some ⟨X.ob,X.fo,none⟩))
 | 1=>some (.slice X.AR X.xs.length X.cap)
 | 2=>some (.pointer (some ⟨X.bp,0,none⟩))
 | 6=>some (.pointer (some ⟨X.ob,X.fo,none⟩))
 | _=>none
structure Good:Prop where
 cell:X.w.cell? ⟨X.ob,X.fo,none⟩=some (.slice X.AR X.xs.length X.cap)
 fz:X.w.frozen? ⟨X.ob,X.fo,none⟩=false
 oblt:X.ob < X.w.heap.size
 bpob:X.bp < X.ob
 row:Row X.w X.B 40 9 cT X.AR X.cap X.xs
 obB:X.ob < X.B
 bpB:X.bp < X.B
 Bw:X.B<=X.w.heap.size
 len:X.xs.length<=900000
structure Mid (d:Nat->Bool) (u:Nat->Value) (W:World) (x:ET):Prop where
 u3:u 3=valT x
 par:PAt W X.bp X.A X.c X.l X.τ
 up:UpT [X.bp] X.w W
 is:x.Is W
 r:X.R x
 lo:X.w.heap.size<=x.lo
 a4:d 4=true-> ∃z0,u 4= .slice (some ⟨z0,0,none⟩) 1 1/\X.w.heap.size<=z0/\z0 < W.heap.size/\ ∀(j:Nat) v,(cT x)[j]? =some v->W.cell? ⟨z0,j,none⟩=some v
structure Post (d:Nat->Bool) (u:Nat->Value) (W:World) (x:ET) (g cp:Nat):Prop where
 u5:u 5= .slice (some ⟨g,0,none⟩) (X.xs.length+1) cp
 par:PAt W X.bp X.A X.c X.l X.τ
 is:x.Is W
 r:X.R x
 lo:X.w.heap.size<=x.lo
 far:g < x.lo\/x.hi<=g
 new:rowT X.AR=some g\/X.w.heap.size<=g
 up:UpT (X.bp::X.ob::(rowT X.AR).toList) X.w W
 row:W.ownsRow X.B 40 9 (.slice (some ⟨g,0,none⟩) (X.xs.length+1) cp) (X.xs.length+1) (X.xs.flatMap cT++cT x)
 cell:W.cell? ⟨X.ob,X.fo,none⟩=some (if d 7=true then .slice (some ⟨g,0,none⟩) (X.xs.length+1) cp else .slice X.AR X.xs.length X.cap)
 rest: ∀j,j≠X.fo->W.cell? ⟨X.ob,j,none⟩=X.w.cell? ⟨X.ob,j,none⟩
 fz: ∀j,W.frozen? ⟨X.ob,j,none⟩=X.w.frozen? ⟨X.ob,j,none⟩
structure Inv (d:Nat->Bool) (u:Nat->Value) (W:World):Prop where
 vals: ∀j,d j=true-> ∀v,X.val j=some v->u j=v
 e3:d 3=true->d 2=true
 e4:d 4=true->d 3=true
 e5:d 5=true->d 4=true/\d 1=true
 e7:d 7=true->d 5=true
 pre:d 3=false->Below X.w.heap.size X.w W
 mid:d 3=true->d 5=false-> ∃x,X.Mid d u W x
 post:d 5=true-> ∃x g cp,X.Post d u W x g cp
variable {X : PtxT} {d : Nat -> Bool} {u : Nat -> Value} {W W' : World}
theorem Good.start (h:X.Good):X.Inv (fun _=>false) u X.w.drew:=⟨nofun,nofun,nofun,nofun,nofun,fun _=>Y2.drew,nofun,nofun⟩
theorem ne9 (d:Nat->Bool) {i j:Nat} (h:j≠i):also d i j=d j:=by
 unfold also;have:Nat.beq j i=false:=by cases a:Nat.beq j i <;> first | rfl | exact absurd (Nat.eq_of_beq_eq_true a) h
 rw[this]; rfl
theorem self9 (d:Nat->Bool) (i:Nat):also d i i=true:=by unfold also; rw[Nat.beq_refl]; rfl
section
variable (h : X.Inv d u W)
include h
theorem Inv.vals' {i:Nat} {v:Value} (b: ∀v',X.val i=some v'->v=v'): ∀j,also d i j=true-> ∀v',X.val j=some v'->upd u i v j=v':=fun j hj v' hv'=>by
 by_cases a:j=i
 {subst a; rw[Z06]; exact b v' hv'}
 {rw[ne9 d a] at hj; rw[Z02 u v a]; exact h.vals j hj v' hv'}
theorem Inv.pure {i:Nat} (f:i=0\/i=1\/i=2\/i=6) {v:Value} (c: ∀v',X.val i=some v'->v=v'):X.Inv (also d i) (upd u i v) W:=by
 have k: ∀j,j=3\/j=4\/j=5\/j=7->also d i j=d j/\upd u i v j=u j:=fun j hj=>⟨ne9 d (by omega),Z02 u v (by omega)⟩;refine ⟨h.vals' c, ?_, ?_, ?_, ?_, ?_, ?_, ?_⟩
 {rw[(k 3 (by omega)).1];intro b;by_cases e: (2:Nat)=i
  {rw[e]; exact self9 d i}
  {rw[ne9 d e]; exact h.e3 b}}
 {rw[(k 4 (by omega)).1,(k 3 (by omega)).1]; exact h.e4}
 {rw[(k 5 (by omega)).1,(k 4 (by omega)).1];intro a;refine ⟨(h.e5 a).1, ?_⟩;by_cases e: (1:Nat)=i
  {rw[e]; exact self9 d i}
  {rw[ne9 d e]; exact (h.e5 a).2}}
 {rw[(k 7 (by omega)).1,(k 5 (by omega)).1]; exact h.e7}
 {rw[(k 3 (by omega)).1]; exact h.pre}
 {rw[(k 3 (by omega)).1,(k 5 (by omega)).1];intro b a;obtain ⟨x,p⟩:=h.mid b a;refine ⟨x, ?_,p.par,p.up,p.is,p.r,p.lo, ?_⟩
  {rw[(k 3 (by omega)).2]; exact p.u3}
  {rw[(k 4 (by omega)).1,(k 4 (by omega)).2]; exact p.a4}}
 {rw[(k 5 (by omega)).1];intro a;obtain ⟨x,g,cp,p⟩:=h.post a;refine ⟨x,g,cp, ?_,p.par,p.is,p.r,p.lo,p.far,p.new,p.up,p.row, ?_,p.rest,p.fz⟩
  {rw[(k 5 (by omega)).2]; exact p.u5}
  {rw[(k 7 (by omega)).1]; exact p.cell}}
theorem Inv.not5 {i:Nat} (f:i=1\/i=3\/i=4\/i=5) (b:d i=false):d 5=false:=by
 cases c:d 5 with
 | false=>rfl
 | true=>
  have a:=h.e5 c;have e:=h.e4 a.1;rcases f with rfl | rfl | rfl | rfl
  {rw[b] at a; cases a.2}
  {rw[b] at e; cases e}
  {rw[b] at a; cases a.1}
  {rw[b] at c; cases c}
theorem Inv.first (b:d 5=false):UpT [X.bp] X.w W:=by
 cases a:d 3 with
 | false=>exact ZcF (h.pre a)
 | true=>obtain ⟨x,p⟩:=h.mid a b; exact p.up
theorem Inv.s3 (a:d 3=false) (g:d 2=true) {x:ET} (m:PAt W' X.bp X.A X.c X.l X.τ) (o:UpT [X.bp] W W') (p:x.Is W') (b:W.heap.size<=x.lo) (n:X.R x):X.Inv (also d 3) (upd u 3 (valT x)) W':=by
 have l:=h.not5 (by omega) a;have i:d 4=false:=by cases e:d 4 with | false=>rfl | true=>have:=h.e4 e; rw[a] at this; cases this
 have k: ∀j,j≠3->also d 3 j=d j/\upd u 3 (valT x) j=u j:=fun j hj=>⟨ne9 d hj,Z02 u _ hj⟩;have f:=h.pre a;refine ⟨h.vals' (by intro q c; cases c),fun _=>by rw[(k 2 (by omega)).1]; exact g,fun _=>self9 _ _, ?_, ?_, ?_,fun _ _=>⟨x,Z06 _ _ _,m,(ZcF f).trans o,p,n,Nat.le_trans f.size b, ?_⟩, ?_⟩
 {rw[(k 5 (by omega)).1,(k 4 (by omega)).1,(k 1 (by omega)).1]; exact h.e5}
 {rw[(k 7 (by omega)).1,(k 5 (by omega)).1]; exact h.e7}
 {rw[self9]; intro e; cases e}
 {rw[(k 4 (by omega)).1,i]; intro e; cases e}
 {rw[(k 5 (by omega)).1,l]; intro e; cases e}
theorem Inv.s4 (g:d 4=false) (c:d 3=true) {x:ET} (p:X.Mid d u W x) (t:TypeId):X.Inv (also d 4) (upd u 4 (.slice (some ⟨W.heap.size,0,none⟩) 1 1)) (W.alloc (.cells (Y7 x.t x.q) t)):=by
 have f:=h.not5 (by omega) g;have k: ∀j,j≠4->also d 4 j=d j/\upd u 4 (.slice (some ⟨W.heap.size,0,none⟩) 1 1) j=u j:=fun j hj=>⟨ne9 d hj,Z02 u _ hj⟩;have a:=Z01 W (.cells (Y7 x.t x.q) t);refine ⟨h.vals' (by intro i b; cases b),(by rw[(k 3 (by omega)).1,(k 2 (by omega)).1]; exact h.e3), ?_, ?_, ?_, ?_,fun _ _=>⟨x, ?_,p.par.below a,p.up.below a,New.below p.is a,p.r,p.lo,fun _=>⟨W.heap.size,Z06 _ _ _,p.up.size,by simp,fun j v hv=> ?_⟩⟩, ?_⟩
 {rw[(k 3 (by omega)).1]; exact fun _=>c}
 {rw[(k 5 (by omega)).1,f]; intro e; cases e}
 {rw[(k 7 (by omega)).1,(k 5 (by omega)).1]; exact h.e7}
 {rw[(k 3 (by omega)).1,c]; intro e; cases e}
 {rw[(k 3 (by omega)).2]; exact p.u3}
 {rw[World.cell?_alloc_at _ _ _ _ rfl];simpa[cT] using hv}
 {rw[(k 5 (by omega)).1,f]; intro e; cases e}
theorem Inv.s5 (w:d 5=false) (a:d 1=true) (r:d 4=true) {x:ET} (p:X.Mid d u W x) {g cp:Nat} (c:X.Good) (l:W'.ownsRow X.B 40 9 (.slice (some ⟨g,0,none⟩) (X.xs.length+1) cp) (X.xs.length+1) (X.xs.flatMap cT++cT x))
 (f:W.grownBy W' (rowT X.AR)) (i:rowT X.AR=some g\/g=W.heap.size):X.Inv (also d 5) (upd u 5 (.slice (some ⟨g,0,none⟩) (X.xs.length+1) cp)) W':=by
 have k: ∀j,j≠5->also d 5 j=d j/\upd u 5 (.slice (some ⟨g,0,none⟩) (X.xs.length+1) cp) j=u j:=fun j hj=>⟨ne9 d hj,Z02 u _ hj⟩;have s:d 7=false:=by cases e:d 7 with | false=>rfl | true=>have:=h.e7 e; rw[w] at this; cases this
 have n:=p.up.size;have b: ∀k,rowT X.AR=some k->X.B<=k/\k < X.w.heap.size:=fun k hk=>c.row.lt k hk;have t:=c.Bw;have v:=c.bpob;have q:UpT (rowT X.AR).toList W W':=⟨f.os,f.tape,f.output,f.size,fun x a h2=>f.block x a (fun e=>h2 (by rw[<-e]; simp))⟩;have m:SameT X.w W' X.ob:=(p.up.same c.oblt (by simp; omega)).trans (q.same (Nat.lt_of_lt_of_le c.oblt n) (by
  intro z;have a:rowT X.AR=some X.ob:=by simpa using z
  have:=b _ a; have:=c.obB; omega))
 refine ⟨h.vals' (by intro A o; cases o),(by rw[(k 3 (by omega)).1,(k 2 (by omega)).1]; exact h.e3), ?_, ?_,fun _=>self9 _ _, ?_, ?_,fun _=>⟨x,g,cp,Z06 _ _ _,p.par.keep q (fun k hk=> ?_),New.grown p.is f (fun k hk=>Or.inl ?_),p.r,p.lo, ?_, ?_, ?_,l, ?_,fun j hj=>m.1 j,fun j=>m.2 j⟩⟩
 {rw[(k 4 (by omega)).1,(k 3 (by omega)).1]; exact h.e4}
 {rw[(k 4 (by omega)).1,(k 1 (by omega)).1]; exact fun _=>⟨r,a⟩}
 {rw[(k 3 (by omega)).1]; intro e; rw[h.e4 r] at e; cases e}
 {rw[self9]; intro _ e; cases e}
 {have a:rowT X.AR=some k:=by simpa using hk
  have:=b _ a; have:=c.bpB; omega}
 {have:=b _ hk; have:=p.lo; omega}
 {rcases i with a | a
  {left; have:=b _ a; have:=p.lo; omega}
  {right; have:=p.is.hi_; omega}}
 {rcases i with a | a
  {exact Or.inl a}
  {exact Or.inr (by omega)}}
 {exact (p.up.mono (fun y hy _=>by simp at hy; simp[hy])).trans (q.mono (fun y hy _=>by simp at hy; simp[hy]))}
 {rw[(k 7 (by omega)).1,s]; exact (m.1 _).trans c.cell}
theorem Inv.s7 (r:d 7=false) (b:d 5=true) (a:X.Good) {x:ET} {g cp:Nat} (p:X.Post d u W x g cp) (v:Value):X.Inv (also d 7) (upd u 7 v) (W.setCell ⟨X.ob,X.fo,none⟩ (.slice (some ⟨g,0,none⟩) (X.xs.length+1) cp)):=by
 have k: ∀j,j≠7->also d 7 j=d j/\upd u 7 v j=u j:=fun j hj=>⟨ne9 d hj,Z02 u _ hj⟩;have n:X.B<=g/\g < W.heap.size:=p.row.lt g rfl;have m:=a.bpB;have q:=a.obB;have o:=p.lo;have l:=a.Bw;have i:=a.bpob;have f:UpT [X.ob] W (W.setCell ⟨X.ob,X.fo,none⟩ (.slice (some ⟨g,0,none⟩) (X.xs.length+1) cp)):=(UpT.refl _ _).set _ (Or.inr (by simp)) _;refine ⟨h.vals' (by intro s c; cases c),(by rw[(k 3 (by omega)).1,(k 2 (by omega)).1]; exact h.e3), ?_, ?_, ?_, ?_, ?_,fun _=>⟨x,g,cp, ?_,p.par.keep f (by simp; omega),New.up p.is f (by simp; omega),p.r,p.lo,p.far,p.new, ?_, ?_, ?_,fun j hj=> ?_,fun j=> ?_⟩⟩
 {rw[(k 4 (by omega)).1,(k 3 (by omega)).1]; exact h.e4}
 {rw[(k 5 (by omega)).1,(k 4 (by omega)).1,(k 1 (by omega)).1]; exact h.e5}
 {rw[(k 5 (by omega)).1]; exact fun _=>b}
 {rw[(k 3 (by omega)).1]; intro e; rw[h.e4 (h.e5 b).1] at e; cases e}
 {rw[(k 5 (by omega)).1,b]; intro _ e; cases e}
 {rw[(k 5 (by omega)).2]; exact p.u5}
 {exact p.up.trans (f.mono (fun y hy _=>by simp at hy; simp[hy]))}
 {exact Zdt p.row (by intro e; have:=Option.some.inj e; simp at this; omega) _}
 {rw[self9,if_pos rfl]; exact World.cell?_setCell_same _ _ _ p.cell}
 {rw[World.cell?_setCell_other _ _ _ _ (fun e=>hj (by have:=congrArg Addr.off e; simpa using this.symm))]; exact p.rest j hj}
 {rw[World.frozen?_setCell]; exact p.fz j}
end
end PtxT
end Go.Proofs.YtgndehppmaacaaaGreatDoor
namespace Go.Proofs.YtgndehppmaacaaaGreatDoor
open Go.RowKit Tms
open Shp (Sh)
open Pso (St Ok Goes betw loop want)
def Dis (a b:Option Nat):Prop:= ∀x,a=some x->b≠some x
theorem Dis.symm {a b:Option Nat} (h:Dis a b):Dis b a:=fun x hx hy=>h x hy hx
theorem Dis.new {r b:Option Nat} {g n:Nat} (h:Dis r b) (a:r=some g\/n<=g) (d: ∀x,b=some x->x < n):Dis (some g) b:=fun x hx hy=>by
 obtain rfl:=Option.some.inj hx;rcases a with c | c
 {exact h _ c hy}
 {have:=d _ hy; omega}
structure TB where
 kind:Int
 of_:List UInt8
 name:List UInt8
 n:Int
 at_:Int
structure TR where
 AN:Option Addr
 cn:Nat
 ns:List (List UInt8)
 AV:Option Addr
 cv:Nat
 vs:List (List UInt8)
 AS:Option Addr
 cs:Nat
 S:List ES
 AP:Option Addr
 cp:Nat
 L:List ET
def TR.none_:TR:=⟨none,0,[],none,0,[],none,0,[],none,0,[]⟩
structure JE (W1:World) (bp ob:Nat) (t:TB) (R:TR) (W:World):Prop where
 up:UpT [bp,ob] W1 W
 lt:ob < W1.heap.size
 bpob:bp < ob
 c0:W.cell? ⟨ob,0,none⟩=some (.int .i64 t.kind)
 c1:W.cell? ⟨ob,1,none⟩=some (.string ⟨t.of_.toArray⟩)
 c2:W.cell? ⟨ob,2,none⟩=some (.string ⟨t.name.toArray⟩)
 c3:W.cell? ⟨ob,3,none⟩=some (.int .i64 t.n)
 c4:W.cell? ⟨ob,4,none⟩=some (.slice R.AN R.ns.length R.cn)
 c5:W.cell? ⟨ob,5,none⟩=some (.slice R.AV R.vs.length R.cv)
 c6:W.cell? ⟨ob,6,none⟩=some (.slice R.AS R.S.length R.cs)
 c7:W.cell? ⟨ob,7,none⟩=some (.slice R.AP R.L.length R.cp)
 c8:W.cell? ⟨ob,8,none⟩=some (.int .i64 t.at_)
 fz: ∀j,W.frozen? ⟨ob,j,none⟩=false
 rN:Row W W1.heap.size 9 1 cN R.AN R.cn R.ns
 rV:Row W W1.heap.size 9 1 cN R.AV R.cv R.vs
 rS:Row W W1.heap.size 28 5 cS R.AS R.cs R.S
 rP:Row W W1.heap.size 40 9 cT R.AP R.cp R.L
 dNV:Dis (rowT R.AN) (rowT R.AV)
 dNS:Dis (rowT R.AN) (rowT R.AS)
 dNP:Dis (rowT R.AN) (rowT R.AP)
 dVS:Dis (rowT R.AV) (rowT R.AS)
 dVP:Dis (rowT R.AV) (rowT R.AP)
 dSP:Dis (rowT R.AS) (rowT R.AP)
 isS: ∀x∈R.S,x.Is W/\W1.heap.size<=x.lo
 isT: ∀x∈R.L,x.Is W/\W1.heap.size<=x.lo
 fS: ∀x∈R.S,∀b,rowT R.AN=some b\/rowT R.AV=some b\/rowT R.AS=some b\/rowT R.AP=some b->b < x.lo\/x.hi<=b
 fT: ∀x∈R.L,∀b,rowT R.AN=some b\/rowT R.AV=some b\/rowT R.AS=some b\/rowT R.AP=some b->b < x.lo\/x.hi<=b
 smN: ∀n∈R.ns,n.length<=1000000
 smV: ∀n∈R.vs,n.length<=1000000
structure Chg (W1 W W':World) (bp ob fo:Nat) (r:Option Nat) (g:Nat) (v:Value):Prop where
 up:UpT (bp::ob::r.toList) W W'
 cell:W'.cell? ⟨ob,fo,none⟩=some v
 rest: ∀j,j≠fo->W'.cell? ⟨ob,j,none⟩=W.cell? ⟨ob,j,none⟩
 fz: ∀j,W'.frozen? ⟨ob,j,none⟩=W.frozen? ⟨ob,j,none⟩
 new:r=some g\/W.heap.size<=g
 lo: ∀x,r=some x->W1.heap.size<=x/\x < W.heap.size
section
variable {W1 W W' : World} {bp ob fo g : Nat} {t : TB} {R : TR} {r : Option Nat} {v : Value}
theorem Chg.mem (h:Chg W1 W W' bp ob fo r g v) {x:Nat} (a:x∈bp::ob::r.toList):x=bp\/x=ob\/r=some x:=by simpa using a
theorem Chg.row {α:Type} {e:TypeId} {m:Nat} {b:α->List Value} {A:Option Addr} {c:Nat} {l:List α} (h:Chg W1 W W' bp ob fo r g v) (d:Row W W1.heap.size e m b A c l) (f:Dis r (rowT A)) (j:bp < ob) (k:ob < W1.heap.size):Row W' W1.heap.size e m b A c l:=
 d.up h.up (fun x hx e=>by
  have i:=d.lt _ e;rcases h.mem hx with a | a | a
  {omega}
  {omega}
  · exact f x a e)
theorem Chg.isS {P:World->Prop} {a d:Nat} (h:Chg W1 W W' bp ob fo r g v) (f:New a d W P) (j:W1.heap.size<=a) (e: ∀b,r=some b->b < a\/d<=b) (i:bp < ob) (k:ob < W1.heap.size):New a d W' P:=
 f.up h.up (fun x hx=>by
  rcases h.mem hx with c | c | c
  {omega}
  {omega}
  · exact e x c)
theorem Chg.base (h:Chg W1 W W' bp ob fo r g v) (a:UpT [bp,ob] W1 W):UpT [bp,ob] W1 W':=by
 refine ⟨h.up.os.trans a.os,h.up.tape.trans a.tape,h.up.output.trans a.output,Nat.le_trans a.size h.up.size,fun x h1 h2=> ?_⟩;have b:=a.size;rw[h.up.block x (by omega) (fun hx=> ?_)]
 {exact a.block x h1 h2}
 {simp at h2;rcases h.mem hx with e | e | e
  {exact h2.1 e}
  {exact h2.2 e}
  {have:=h.lo _ e; omega}}
theorem JE.keep (h:JE W1 bp ob t R W) (d:UpT [bp] W W'):JE W1 bp ob t R W':=by
 have n:=h.up.size;have i:=h.lt;have f:=h.bpob;have a:=d.same (b:=ob) (by omega) (by simp; omega);have k: ∀ {α:Type} {e:TypeId} {m:Nat} {cf:α->List Value} {A:Option Addr} {c:Nat} {l:List α},Row W W1.heap.size e m cf A c l->Row W' W1.heap.size e m cf A c l:=fun hr=>hr.up d (fun x hx=>by simp at hx; subst hx; intro e; have:=hr.lt _ e; omega);exact ⟨h.up.trans (d.mono (fun x hx _=>by simp at hx; simp[hx])),i,f,(a.1 0).trans h.c0,(a.1 1).trans h.c1,(a.1 2).trans h.c2,(a.1 3).trans h.c3,(a.1 4).trans h.c4,(a.1 5).trans h.c5,(a.1 6).trans h.c6,(a.1 7).trans h.c7,(a.1 8).trans h.c8,fun j=>(a.2 j).trans (h.fz j),
  k h.rN,k h.rV,k h.rS,k h.rP,h.dNV,h.dNS,h.dNP,h.dVS,h.dVP,h.dSP,fun x hx=>⟨New.up (h.isS x hx).1 d (by simp; have:=(h.isS x hx).2; omega),(h.isS x hx).2⟩,fun x hx=>⟨New.up (h.isT x hx).1 d (by simp; have:=(h.isT x hx).2; omega),(h.isT x hx).2⟩,h.fS,h.fT,h.smN,h.smV⟩
section
variable {cap : Nat} (h : JE W1 bp ob t R W)
include cap h
theorem JE.putS (x:ES) (n:Row W' W1.heap.size 28 5 cS (some ⟨g,0,none⟩) cap (R.S++ [x])) (i:x.Is W') (B:W.heap.size<=x.lo) (l:g < x.lo\/x.hi<=g) (c:Chg W1 W W' bp ob 6 (rowT R.AS) g (.slice (some ⟨g,0,none⟩) (R.S++ [x]).length cap)):
 JE W1 bp ob t { R with AS:=some ⟨g,0,none⟩,cs:=cap,S:=R.S++ [x] } W':=by
 have D:=h.up.size;have f:=h.lt;have d:=h.bpob;have o: ∀b,rowT (some (⟨g,0,none⟩:Addr))=some b->g=b:=fun b e=>Option.some.inj e;have s: ∀x,rowT R.AN=some x->x < W.heap.size:=fun x e=>(h.rN.lt x e).2;have w: ∀x,rowT R.AV=some x->x < W.heap.size:=fun x e=>(h.rV.lt x e).2;have C: ∀x,rowT R.AS=some x->x < W.heap.size:=fun x e=>(h.rS.lt x e).2;have u: ∀x,rowT R.AP=some x->x < W.heap.size:=fun x e=>(h.rP.lt x e).2;have p: ∀y∈R.S,∀b,rowT ({ R with AS:=some ⟨g,0,none⟩,cs:=cap,S:=R.S++ [x] }:TR).AN=some b\/rowT ({ R with AS:=some ⟨g,0,none⟩,cs:=cap,S:=R.S++ [x] }:TR).AV=some b\/rowT ({ R with AS:=some ⟨g,0,none⟩,cs:=cap,S:=R.S++ [x] }:TR).AS=some b\/rowT ({ R with AS:=some ⟨g,0,none⟩,cs:=cap,S:=R.S++ [x] }:TR).AP=some b->b < y.lo\/y.hi<=b:=fun y a b hb=>by
  have old:rowT R.AS=some b\/b=g\/True:=Or.inr (Or.inr trivial);rcases hb with e | e | e | e
  {exact h.fS y a b (Or.inl e)}
  {exact h.fS y a b (Or.inr (Or.inl e))}
  {obtain rfl:=o b e;rcases c.new with k | k
   {exact h.fS y a _ (Or.inr (Or.inr (Or.inl k)))}
   {right; have:=(h.isS y a).1.hi_; omega}}
  {exact h.fS y a b (Or.inr (Or.inr (Or.inr e)))}
 have q: ∀y∈R.L,∀b,rowT ({ R with AS:=some ⟨g,0,none⟩,cs:=cap,S:=R.S++ [x] }:TR).AN=some b\/rowT ({ R with AS:=some ⟨g,0,none⟩,cs:=cap,S:=R.S++ [x] }:TR).AV=some b\/rowT ({ R with AS:=some ⟨g,0,none⟩,cs:=cap,S:=R.S++ [x] }:TR).AS=some b\/rowT ({ R with AS:=some ⟨g,0,none⟩,cs:=cap,S:=R.S++ [x] }:TR).AP=some b->b < y.lo\/y.hi<=b:=fun y a b hb=>by
  have old:rowT R.AS=some b\/b=g\/True:=Or.inr (Or.inr trivial);rcases hb with e | e | e | e
  {exact h.fT y a b (Or.inl e)}
  {exact h.fT y a b (Or.inr (Or.inl e))}
  {obtain rfl:=o b e;rcases c.new with k | k
   {exact h.fT y a _ (Or.inr (Or.inr (Or.inl k)))}
   {right; have:=(h.isT y a).1.hi_; omega}}
  {exact h.fT y a b (Or.inr (Or.inr (Or.inr e)))}
 have z: ∀x∈R.S,x.Is W'/\W1.heap.size<=x.lo:=fun x i=>⟨c.isS (h.isS x i).1 (h.isS x i).2 (fun b e=>h.fS x i b (Or.inr (Or.inr (Or.inl e)))) d f,(h.isS x i).2⟩;have A: ∀x∈R.L,x.Is W'/\W1.heap.size<=x.lo:=fun x i=>⟨c.isS (h.isT x i).1 (h.isT x i).2 (fun b e=>h.fT x i b (Or.inr (Or.inr (Or.inl e)))) d f,(h.isT x i).2⟩;have m: ∀b,rowT ({ R with AS:=some ⟨g,0,none⟩,cs:=cap,S:=R.S++ [x] }:TR).AN=some b\/rowT ({ R with AS:=some ⟨g,0,none⟩,cs:=cap,S:=R.S++ [x] }:TR).AV=some b\/rowT ({ R with AS:=some ⟨g,0,none⟩,cs:=cap,S:=R.S++ [x] }:TR).AS=some b\/rowT ({ R with AS:=some ⟨g,0,none⟩,cs:=cap,S:=R.S++ [x] }:TR).AP=some b->b < x.lo\/x.hi<=b:=fun b hb=>by
  rcases hb with e | e | e | e
  {have:=s b e; left; omega}
  {have:=w b e; left; omega}
  {obtain rfl:=o b e; exact l}
  {have:=u b e; left; omega}
 exact ⟨c.base h.up,f,d,(c.rest 0 (by omega)).trans h.c0,(c.rest 1 (by omega)).trans h.c1,(c.rest 2 (by omega)).trans h.c2,(c.rest 3 (by omega)).trans h.c3,(c.rest 4 (by omega)).trans h.c4,(c.rest 5 (by omega)).trans h.c5,c.cell,(c.rest 7 (by omega)).trans h.c7,(c.rest 8 (by omega)).trans h.c8,fun j=>(c.fz j).trans (h.fz j),c.row h.rN (h.dNS.symm) d f,c.row h.rV (h.dVS.symm) d f,n,c.row h.rP (h.dSP) d f,h.dNV,(Dis.new (h.dNS.symm) c.new s).symm,h.dNP,(Dis.new (h.dVS.symm) c.new w).symm,h.dVP,Dis.new (h.dSP) c.new u,(fun y a=>by
  rcases List.mem_append.1 a with a | a
  {exact z y a}
  · have e:y=x:=by simpa using a
    rw[e]; exact ⟨i,by omega⟩),A,(fun y a=>by
  rcases List.mem_append.1 a with a | a
  {exact p y a}
  · have e:y=x:=by simpa using a
    rw[e]; exact m),q,h.smN,h.smV⟩
theorem JE.putP (x:ET) (n:Row W' W1.heap.size 40 9 cT (some ⟨g,0,none⟩) cap (R.L++ [x])) (i:x.Is W') (B:W.heap.size<=x.lo) (l:g < x.lo\/x.hi<=g) (c:Chg W1 W W' bp ob 7 (rowT R.AP) g (.slice (some ⟨g,0,none⟩) (R.L++ [x]).length cap)):
 JE W1 bp ob t { R with AP:=some ⟨g,0,none⟩,cp:=cap,L:=R.L++ [x] } W':=by
 have D:=h.up.size;have f:=h.lt;have d:=h.bpob;have o: ∀b,rowT (some (⟨g,0,none⟩:Addr))=some b->g=b:=fun b e=>Option.some.inj e;have s: ∀x,rowT R.AN=some x->x < W.heap.size:=fun x e=>(h.rN.lt x e).2;have w: ∀x,rowT R.AV=some x->x < W.heap.size:=fun x e=>(h.rV.lt x e).2;have u: ∀x,rowT R.AS=some x->x < W.heap.size:=fun x e=>(h.rS.lt x e).2;have C: ∀x,rowT R.AP=some x->x < W.heap.size:=fun x e=>(h.rP.lt x e).2;have p: ∀y∈R.S,∀b,rowT ({ R with AP:=some ⟨g,0,none⟩,cp:=cap,L:=R.L++ [x] }:TR).AN=some b\/rowT ({ R with AP:=some ⟨g,0,none⟩,cp:=cap,L:=R.L++ [x] }:TR).AV=some b\/rowT ({ R with AP:=some ⟨g,0,none⟩,cp:=cap,L:=R.L++ [x] }:TR).AS=some b\/rowT ({ R with AP:=some ⟨g,0,none⟩,cp:=cap,L:=R.L++ [x] }:TR).AP=some b->b < y.lo\/y.hi<=b:=fun y a b hb=>by
  have old:rowT R.AP=some b\/b=g\/True:=Or.inr (Or.inr trivial);rcases hb with e | e | e | e
  {exact h.fS y a b (Or.inl e)}
  {exact h.fS y a b (Or.inr (Or.inl e))}
  {exact h.fS y a b (Or.inr (Or.inr (Or.inl e)))}
  {obtain rfl:=o b e;rcases c.new with k | k
   {exact h.fS y a _ (Or.inr (Or.inr (Or.inr k)))}
   {right; have:=(h.isS y a).1.hi_; omega}}
 have q: ∀y∈R.L,∀b,rowT ({ R with AP:=some ⟨g,0,none⟩,cp:=cap,L:=R.L++ [x] }:TR).AN=some b\/rowT ({ R with AP:=some ⟨g,0,none⟩,cp:=cap,L:=R.L++ [x] }:TR).AV=some b\/rowT ({ R with AP:=some ⟨g,0,none⟩,cp:=cap,L:=R.L++ [x] }:TR).AS=some b\/rowT ({ R with AP:=some ⟨g,0,none⟩,cp:=cap,L:=R.L++ [x] }:TR).AP=some b->b < y.lo\/y.hi<=b:=fun y a b hb=>by
  have old:rowT R.AP=some b\/b=g\/True:=Or.inr (Or.inr trivial);rcases hb with e | e | e | e
  {exact h.fT y a b (Or.inl e)}
  {exact h.fT y a b (Or.inr (Or.inl e))}
  {exact h.fT y a b (Or.inr (Or.inr (Or.inl e)))}
  {obtain rfl:=o b e;rcases c.new with k | k
   {exact h.fT y a _ (Or.inr (Or.inr (Or.inr k)))}
   {right; have:=(h.isT y a).1.hi_; omega}}
 have z: ∀x∈R.S,x.Is W'/\W1.heap.size<=x.lo:=fun x i=>⟨c.isS (h.isS x i).1 (h.isS x i).2 (fun b e=>h.fS x i b (Or.inr (Or.inr (Or.inr e)))) d f,(h.isS x i).2⟩;have A: ∀x∈R.L,x.Is W'/\W1.heap.size<=x.lo:=fun x i=>⟨c.isS (h.isT x i).1 (h.isT x i).2 (fun b e=>h.fT x i b (Or.inr (Or.inr (Or.inr e)))) d f,(h.isT x i).2⟩;have m: ∀b,rowT ({ R with AP:=some ⟨g,0,none⟩,cp:=cap,L:=R.L++ [x] }:TR).AN=some b\/rowT ({ R with AP:=some ⟨g,0,none⟩,cp:=cap,L:=R.L++ [x] }:TR).AV=some b\/rowT ({ R with AP:=some ⟨g,0,none⟩,cp:=cap,L:=R.L++ [x] }:TR).AS=some b\/rowT ({ R with AP:=some ⟨g,0,none⟩,cp:=cap,L:=R.L++ [x] }:TR).AP=some b->b < x.lo\/x.hi<=b:=fun b hb=>by
  rcases hb with e | e | e | e
  {have:=s b e; left; omega}
  {have:=w b e; left; omega}
  {have:=u b e; left; omega}
  {obtain rfl:=o b e; exact l}
 exact ⟨c.base h.up,f,d,(c.rest 0 (by omega)).trans h.c0,(c.rest 1 (by omega)).trans h.c1,(c.rest 2 (by omega)).trans h.c2,(c.rest 3 (by omega)).trans h.c3,(c.rest 4 (by omega)).trans h.c4,(c.rest 5 (by omega)).trans h.c5,(c.rest 6 (by omega)).trans h.c6,c.cell,(c.rest 8 (by omega)).trans h.c8,fun j=>(c.fz j).trans (h.fz j),c.row h.rN (h.dNP.symm) d f,c.row h.rV (h.dVP.symm) d f,c.row h.rS (h.dSP.symm) d f,n,h.dNV,h.dNS,(Dis.new (h.dNP.symm) c.new s).symm,h.dVS,(Dis.new (h.dVP.symm) c.new w).symm,(Dis.new (h.dSP.symm) c.new u).symm,z,(fun y a=>by
  rcases List.mem_append.1 a with a | a
  {exact A y a}
  · have e:y=x:=by simpa using a
    rw[e]; exact ⟨i,by omega⟩),p,(fun y a=>by
  rcases List.mem_append.1 a with a | a
  {exact q y a}
  · have e:y=x:=by simpa using a
    rw[e]; exact m),h.smN,h.smV⟩
end
end
end Go.Proofs.YtgndehppmaacaaaGreatDoor
namespace Go.Proofs.YtgndehppmaacaaaGreatDoor
section
open Go.RowKit Tms
open Shp (Sh)
open Pso (St Ok Goes betw loop want)
def TmIs (bp:Nat) (A:Option Addr) (c:Nat) (l:List Tk) (r:Tm×St) (W:World) (e:Ending) (W':World):Prop:=
 ∃x:ET,e= .returned (valT x)/\PAt W' bp A c l r.2/\UpT [bp] W W'/\x.Is W'/\W.heap.size<=x.lo/\(x.t=r.1/\few x.t=true)
def ExC (bp:Nat) (A:Option Addr) (c:Nat) (l:List Tk) (m:Nat):Prop:= ∀(W:World) (τ:St),Ok l τ->l.length - τ.1 < m->PAt W bp A c l τ->
 Calls Tryz.prog 75 #[.pointer (some ⟨bp,0,none⟩)] W (TmIs bp A c l (Pso.expr l m τ) W)
def mildW:List (List UInt8):= [[102,117,110],[108,101,116],[105,102],[99,97,115,101],[116,114,117,101],[102,97,108,115,101],[123],[64],[110,101,119],[114,97,119],[47],[97,115]]
def mildB (l:List Tk):Bool:=l.all fun b=> !(b.t.kind==4)&&mildW.all fun w=> !(b.t.text==w)
theorem Z04 {l:List Tk} (h:mildB l=true) (i:Nat): (Prs.look l i).t.kind≠4/\ ∀w∈mildW,Prs.sign l i w=false:=by
 have a: (!((Prs.look l i).t.kind==4)&&mildW.all fun w=> !((Prs.look l i).t.text==w))=true:=by
  by_cases b:i < l.length
  {rw[Prs.look_in b]; exact List.all_eq_true.mp h _ (List.getElem_mem b)}
  {by_cases c:0 < l.length
   {rw[Prs.look_out b c]; rfl}
   {rw[Prs.look_nil i (by omega)]; rfl}}
 rw[Bool.and_eq_true] at a;refine ⟨fun e=> ?_,fun w hw=> ?_⟩
 {rw[e] at a; exact absurd a.1 (by decide)}
 {have:=List.all_eq_true.mp a.2 w hw;unfold Prs.sign;cases d: (Prs.look l i).t.text==w with
  | false=>rfl
  | true=>rw[d] at this; exact absurd this (by decide)}
structure TokOk (l:List Tk):Prop where
 len:l.length<=5000
 txt: ∀b∈l,b.t.text.length<=1000000
 pl: ∀b∈l, -9223372036854775808<=b.at_/\b.at_<=9223372036854775807
 t2: ∀b∈l,b.t.text.length<=100000
 mild:mildB l=true
theorem TokOk.at_ {l:List Tk} (h:TokOk l) (i:Nat): -9223372036854775808<=(Prs.look l i).at_/\(Prs.look l i).at_<=9223372036854775807:=by
 by_cases a:i < l.length
 {rw[Prs.look_in a]; exact h.pl _ (List.getElem_mem _)}
 {by_cases b:0 < l.length
  {rw[Prs.look_out a b]; exact h.pl (l[l.length - 1]'(by omega)) (List.getElem_mem _)}
  {rw[Prs.look_nil i (by omega)]; decide}}
theorem Zol (L:List ET) (h: ∀y∈L,few y.t=true):fews (L.map ET.t)=true:=by
 induction L with
 | nil=>rfl
 | cons a L ih=>simp only[List.map_cons,fews,Bool.and_eq_true]; exact ⟨h a (by simp),ih (fun y hy=>h y (by simp[hy]))⟩
theorem Row.tms {W W':World} {B:Nat} {A:Option Addr} {c:Nat} {L:List ET} (h:Row W B 40 9 cT A c L) (p: ∀x∈L,x.Is W/\B<=x.lo) (l:W.heap.size<=W'.heap.size) (f: ∀b,B<=b->b < W.heap.size->SameT W W' b):
 (L.map ET.t).length=0\/ ∃(g off:Nat) (rs:Nat->TP),A=some ⟨g,off,none⟩/\g < W'.heap.size/\(∀i (h:i < (L.map ET.t).length),Tm9 W' g (off+i * 9) ((L.map ET.t)[i]'h) (rs i))/\ ∀i (h:i < (L.map ET.t).length),TmAt W' W'.heap.size (rs i) ((L.map ET.t)[i]'h):=by
 rcases h.read Zfm with m | ⟨g,rfl,n,e,o⟩
 {exact Or.inl (by rw[List.length_map]; exact m)}
 {have d: ∀i (hi:i < L.length),(L.map ET.q).getD i ⟨none,0,none,0,none,0,none,0⟩=(L[i]'hi).q:=fun i hi=>by simp[hi]
  refine Or.inr ⟨g,0,fun i=>(L.map ET.q).getD i ⟨none,0,none,0,none,0,none,0⟩,rfl,Nat.lt_of_lt_of_le e l,fun i hi=> ?_,fun i hi=> ?_⟩
  {rw[List.length_map] at hi;have a: ∀k,k < 9->W'.cell? ⟨g,i * 9+k,none⟩=(cT (L[i]'hi))[k]? :=fun k hk=>((f g n e).1 _).trans (o i hi k hk);show Tm9 W' g (0+i * 9) _ ((L.map ET.q).getD i ⟨none,0,none,0,none,0,none,0⟩);rw[d i hi,Nat.zero_add,List.getElem_map];exact ⟨a 0 (by omega),a 1 (by omega),a 2 (by omega),a 3 (by omega),a 4 (by omega),a 5 (by omega),a 6 (by omega),a 7 (by omega),a 8 (by omega)⟩}
  {rw[List.length_map] at hi;show TmAt W' W'.heap.size ((L.map ET.q).getD i ⟨none,0,none,0,none,0,none,0⟩) _;rw[d i hi,List.getElem_map];have j:=p _ (List.getElem_mem hi);exact j.1.at_ W' l (fun b k1 k2=>f b (by omega) (Nat.lt_of_lt_of_le k2 j.1.hi_))}}
structure TBok (t:TB):Prop where
 o:t.of_.length<=1000000
 nm:t.name.length<=1000000
 n: -9223372036854775808<=t.n/\t.n<=9223372036854775807
 a: -9223372036854775808<=t.at_/\t.at_<=9223372036854775807
 k:0<=t.kind/\t.kind<=100
def mkT (t:TB) (R:TR):Tm:=⟨t.kind,t.of_,t.name,t.n,R.ns,R.vs,R.S.map ES.t,R.L.map ET.t,t.at_⟩
def mkQ (R:TR):TP:=⟨R.AN,R.cn,R.AV,R.cv,R.AS,R.cs,R.AP,R.cp⟩
theorem Zhs {W:World} {B:Nat} (t:TB) (R:TR) (a:TBok t) (b:Row W B 9 1 cN R.AN R.cn R.ns) (c:Row W B 9 1 cN R.AV R.cv R.vs) (f:Row W B 28 5 cS R.AS R.cs R.S) (e:Row W B 40 9 cT R.AP R.cp R.L)
 (isS: ∀x∈R.S,x.Is W/\B<=x.lo) (d: ∀x∈R.L,x.Is W/\B<=x.lo) (h: ∀n∈R.ns,n.length<=1000000) (j: ∀n∈R.vs,n.length<=1000000) (m:R.ns.length<=1000000/\R.vs.length<=1000000/\R.S.length<=1000000/\R.L.length<=1000000):
 (⟨mkT t R,mkQ R,B,W.heap.size⟩:ET).Is W:=by
 refine ⟨Nat.le_refl _,fun W' hz hs=> ?_⟩;obtain ⟨s,u,v,w⟩:=m;have S:TSmall (mkT t R) (mkQ R):=by
  refine ⟨by have:=a.o; simp only[mkT]; omega,by have:=a.nm; simp only[mkT]; omega,fun x hx=>by have:=h x hx; omega,fun x hx=>by have:=j x hx; omega,by simp only[mkT]; omega,by simp only[mkT]; omega,by simp only[mkT,List.length_map]; omega,by simp only[mkT,List.length_map]; omega,b.cap.1,c.cap.1, ?_, ?_,b.cap.2,c.cap.2,f.cap.2,e.cap.2,a.n,a.a, ?_⟩
  {simp only[mkT,mkQ,List.length_map]; exact f.cap.1}
  {simp only[mkT,mkQ,List.length_map]; exact e.cap.1}
  {have:=a.k; simp only[mkT]; omega}
 have k:ShsAt W' W'.heap.size R.AS (R.S.map ES.t):=f.shs isS hz hs;rcases e.tms d hz hs with l | ⟨g,off,rs,o,p,q,r⟩
 {exact .mk _ _ 0 0 (fun _=>⟨none,0,none,0,none,0,none,0⟩) S (b.strs hz hs) (c.strs hz hs) k (Or.inl l) (fun i hi=>absurd hi (by simp only[mkT]; omega)) (fun i hi=>absurd hi (by simp only[mkT]; omega))}
 {exact .mk _ _ g off rs S (b.strs hz hs) (c.strs hz hs) k (Or.inr ⟨o,p⟩) q r}
theorem JE.new {a W:World} {bp d:Nat} {t:TB} {R:TR} (h:JE a bp d t R W) (c:TBok t) (b:R.ns.length<=1000000/\R.vs.length<=1000000/\R.S.length<=1000000/\R.L.length<=1000000): (⟨mkT t R,mkQ R,a.heap.size,W.heap.size⟩:ET).Is W:=
 Zhs t R c h.rN h.rV h.rS h.rP h.isS h.isT h.smN h.smV b
theorem ZdH (t:TB) (R:TR) (a:R.ns.length<=1000000) (h: ∀y∈R.L,few y.t=true):few (mkT t R)=true:=by
 rw[Zfk];rw[Bool.and_eq_true,decide_eq_true_eq];exact ⟨Nat.le_trans a (by decide),Zol _ h⟩
structure JX (W1:World) (bp ob:Nat) (t:TB) (r:Nat) (W:World) (ns vs:List (List UInt8)) (ss:List Sh) (ps:List Tm) (R:TR):Prop where
 je:JE W1 bp ob t R W
 en:R.ns=ns
 ev:R.vs=vs
 es:R.S.map ES.t=ss
 ep:R.L.map ET.t=ps
 ln:R.ns.length<=r
 lv:R.vs.length<=r
 ls:R.S.length<=r
 lp:R.L.length<=r+1
 fw: ∀y∈R.L,few y.t=true
theorem JX.keep {a W W':World} {bp b r:Nat} {t:TB} {ns vs:List (List UInt8)} {c:List Sh} {ps:List Tm} {R:TR} (h:JX a bp b t r W ns vs c ps R) (d:UpT [bp] W W'):JX a bp b t r W' ns vs c ps R:=
 ⟨h.je.keep d,h.en,h.ev,h.es,h.ep,h.ln,h.lv,h.ls,h.lp,h.fw⟩
section
variable {W1 W : World} {bp ob : Nat} {t : TB} {R : TR} (h : JE W1 bp ob t R W) {A : Option Addr} {c : Nat} {l : List Tk} {τ : St}
include W1 W bp ob t R h A c l τ
theorem JE.goodS {Q:ES->Prop} (a:R.S.length<=900000): (⟨W,bp,A,c,l,τ,ob,6,W1.heap.size,R.AS,R.cs,R.S,Q⟩:CtxS).Good:=
 ⟨h.c6,h.fz 6,Nat.lt_of_lt_of_le h.lt h.up.size,h.bpob,h.rS,h.lt,Nat.lt_trans h.bpob h.lt,h.up.size,a⟩
theorem JE.goodT {Q:ET->Prop} (a:R.L.length<=900000): (⟨W,bp,A,c,l,τ,ob,7,W1.heap.size,R.AP,R.cp,R.L,Q⟩:CtxT).Good:=
 ⟨h.c7,h.fz 7,Nat.lt_of_lt_of_le h.lt h.up.size,h.bpob,h.rP,h.lt,Nat.lt_trans h.bpob h.lt,h.up.size,a⟩
end
section
variable {W1 W W' : World} {bp ob g cp : Nat} {t : TB} {R : TR} (h : JE W1 bp ob t R W) {A : Option Addr} {c : Nat} {l : List Tk} {τ : St}
include W1 W W' bp ob g cp t R h A c l τ
theorem JE.postS {Q:ES->Prop} {u:Nat->Value} {x:ES} (p: (⟨W,bp,A,c,l,τ,ob,6,W1.heap.size,R.AS,R.cs,R.S,Q⟩:CtxS).PostX (fun _=>true) u W' x g cp):
 JE W1 bp ob t { R with AS:=some ⟨g,0,none⟩,cs:=cp,S:=R.S++ [x] } W':=by
 have a:Row W' W1.heap.size 28 5 cS (some ⟨g,0,none⟩) cp (R.S++ [x]):=by
  have:=p.row; unfold Row; rw[List.length_append,List.flatMap_append]; simpa using this
 exact h.putS x a p.is p.lo p.far ⟨p.up,by have:=p.cell; rw[List.length_append]; simpa using this,p.rest,p.fz,p.new,fun b hb=>h.rS.lt b hb⟩
theorem JE.postT {Q:ET->Prop} {u:Nat->Value} {x:ET} (p: (⟨W,bp,A,c,l,τ,ob,7,W1.heap.size,R.AP,R.cp,R.L,Q⟩:CtxT).PostX (fun _=>true) u W' x g cp):
 JE W1 bp ob t { R with AP:=some ⟨g,0,none⟩,cp:=cp,L:=R.L++ [x] } W':=by
 have a:Row W' W1.heap.size 40 9 cT (some ⟨g,0,none⟩) cp (R.L++ [x]):=by
  have:=p.row; unfold Row; rw[List.length_append,List.flatMap_append]; simpa using this
 exact h.putP x a p.is p.lo p.far ⟨p.up,by have:=p.cell; rw[List.length_append]; simpa using this,p.rest,p.fz,p.new,fun b hb=>h.rP.lt b hb⟩
end
theorem JE.goodN {b W:World} {bp d a:Nat} {t:TB} {R:TR} (h:JE b bp d t R W) {A:Option Addr} {c:Nat} {l:List Tk} {τ:St} {Q:EN->Prop} (e:R.ns.length<=900000): (⟨W,bp,A,c,l,τ,d,4,b.heap.size,R.AN,R.cn,enOf R.ns,Q,a⟩:PtxA).Good:=
 ⟨by rw[Zd4]; exact h.c4,h.fz 4,Nat.lt_of_lt_of_le h.lt h.up.size,h.bpob,Zja h.rN,h.lt,Nat.lt_trans h.bpob h.lt,h.up.size,by rw[Zd4]; exact e⟩
def args_inv (W1:World) (bp ob:Nat) (t:TB) (r:Nat) (W:World) (a:List Tm):Prop:= ∃R,JX W1 bp ob t r W [] [] [] a R
theorem Zn4 {b W W':World} {bp c r:Nat} {t:TB} {a:List Tm} (h:args_inv b bp c t r W a) (d:UpT [bp] W W'):args_inv b bp c t r W' a:=by
 obtain ⟨R,h⟩:=h;exact ⟨R,h.keep d⟩
theorem Zon (bp:Nat) (A:Option Addr) (c:Nat) (l:List Tk) (m:Nat) (I:TokOk l) (N:ExC bp A c l m) (F:World) (s q:Nat) (t:TB) (g:PBox F s bp q):
 Reads bp A c l 139 (.pointer (some ⟨q,0,none⟩)) (.pointer (some ⟨s,0,none⟩)) (args_inv F bp q t) (Pso.argsR l (Pso.expr l m)) m:=by
 intro r w τ a hr hτ hm hP hJ;obtain ⟨R,f⟩:=hJ;have U:=Y1 I;have L:=I.len;have H:Ok l τ:=hτ;have M:τ.1<=τ.1:=Nat.le_refl _;have K:=Pso.to_expr m _ H;have G:τ.1<=(Pso.expr l m τ).2.1:=Nat.le_trans M K.2.1;have D:=Y1 f.je;have d:=Y1 f;have C:=Y1 g;have Q:=Y1 hm;have P:=Y1 N;have V:=Y1 K;have T:=Y1 G;have O:=Y1 H;obtain ⟨S,J⟩:=g.on f.je.up;have z:=Y1 hP;clear hP f g hm I H hτ M K G N;go_enter Tryz.func139,Tryz.ntmps139;have b:=D.out;refine regT _ 2 0 1 40 7 75 ⟨w,bp,A,c,l,(Pso.expr l m τ).2,q,7,F.heap.size,_,_,_,(fun x=>x.t=(Pso.expr l m τ).1/\few x.t=true)⟩ (b.goodT (by have:=d.out.lp; simp; try omega)) s S J C.out.ne (fun uu=> { tmps:=#[.pointer (some ⟨q,0,none⟩),.pointer (some ⟨s,0,none⟩),uu 0,uu 1,uu 2,uu 3,uu 4,uu 5,uu 6,uu 7,uu 9],defers:= [] }) (fun _=>undef)
  ⟨fun i o h u v=>by
   rcases i with _ | _ | _ | _ | _ | _ | _ | _ | _ | _ | _ | i
   all_goals first | (cases h; rfl) | exact absurd h (by simp[opsT]),fun _=>rfl,fun _=>rfl,fun _=>rfl,fun _=>rfl,fun _=>rfl,fun _=>rfl,fun _=>rfl,fun _=>rfl,fun _=>rfl,fun _=>rfl,fun _=>rfl⟩
  (fun W=>by go_simp <;> rfl) (enters_of Tryz.func75 (by kernel_rfl) rfl) (fun W hW=>P.out W _ O.out Q.out (z.out.below hW)) (fun u1 w1 x1 G cp1 p=> ?_)
 have k:=p.r;have E:=Y1 (b.postT p);have B:=Y1 (show PAt w1 bp A c l (Pso.expr l m τ).2 from p.par);have j:=Y1 (show x1.t=(Pso.expr l m τ).1/\few x1.t=true from k);clear p k b 
 go_end0
 refine ⟨rfl,B.out,_,E.out, ?_, ?_, ?_, ?_, ?_, ?_, ?_, ?_, ?_⟩
 {exact d.out.en}
 {exact d.out.ev}
 {exact d.out.es}
 {simp only; rw[List.map_append,d.out.ep,List.map_singleton,j.out.1]; rfl}
 {have:=d.out.ln; simp only; omega}
 {have:=d.out.lv; simp; try omega}
 {have:=d.out.ls; simp; try omega}
 {have:=d.out.lp; simp; try omega}
 {intro y n;rcases List.mem_append.1 n with n | n
  {exact d.out.fw y n}
  {have e:y=x1:=by simpa using n
   rw[e]; exact j.out.2}}
end
section
open Go.RowKit Tms
open Shp (Sh)
open Pso (St Ok Goes betw loop want)
section
variable {W1 W W' : World} {bp ob r r' g cp : Nat} {t : TB} {R : TR} {ns vs : List (List UInt8)} {ss : List Sh} {ps : List Tm}
theorem Zfs (t:TB) (a:R.ns=ns) (d:R.vs=vs) (c:R.S.map ES.t=ss) (b:R.L.map ET.t=ps):mkT t R=⟨t.kind,t.of_,t.name,t.n,ns,vs,ss,ps,t.at_⟩:=by
 unfold mkT; rw[a,d,c,b]
section
variable {A : Option Addr} {c : Nat} {l : List Tk} {τ : St}
include A c l τ
theorem JX.part {Q:ET->Prop} {u:Nat->Value} {x:ET} {q:Tm} (h:JX W1 bp ob t r W ns vs ss ps R) (b:r<=r') (f:R.L.length<=r') (p: (⟨W,bp,A,c,l,τ,ob,7,W1.heap.size,R.AP,R.cp,R.L,Q⟩:CtxT).PostX (fun _=>true) u W' x g cp) (d:x.t=q/\few x.t=true):
 JX W1 bp ob t r' W' ns vs ss (ps++ [q]) { R with AP:=some ⟨g,0,none⟩,cp:=cp,L:=R.L++ [x] }:=by
 refine ⟨h.je.postT p,h.en,h.ev,h.es, ?_,Nat.le_trans h.ln b,Nat.le_trans h.lv b,Nat.le_trans h.ls b, ?_, ?_⟩
 {simp only; rw[List.map_append,h.ep,List.map_singleton,d.1]}
 {simp; omega}
 {intro y a;rcases List.mem_append.1 a with a | a
  {exact h.fw y a}
  {have e:y=x:=by simpa using a
   rw[e]; exact d.2}}
theorem JX.shape {Q:ES->Prop} {u:Nat->Value} {x:ES} {q:Sh} (h:JX W1 bp ob t r W ns vs ss ps R) (p: (⟨W,bp,A,c,l,τ,ob,6,W1.heap.size,R.AS,R.cs,R.S,Q⟩:CtxS).PostX (fun _=>true) u W' x g cp) (a:x.t=q):
 JX W1 bp ob t (r+1) W' ns vs (ss++ [q]) ps { R with AS:=some ⟨g,0,none⟩,cs:=cp,S:=R.S++ [x] }:=by
 refine ⟨h.je.postS p,h.en,h.ev, ?_,h.ep,Nat.le_succ_of_le h.ln,Nat.le_succ_of_le h.lv, ?_,Nat.le_succ_of_le h.lp,h.fw⟩
 {simp only; rw[List.map_append,h.es,List.map_singleton,a]}
 {have:=h.ls; simp; omega}
end
end
structure Nine (W:World) (b:Nat) (v0 v1 v2 v3 v4 v5 v6 v7 v8:Value):Prop where
 c0:W.cell? ⟨b,0,none⟩=some v0
 c1:W.cell? ⟨b,1,none⟩=some v1
 c2:W.cell? ⟨b,2,none⟩=some v2
 c3:W.cell? ⟨b,3,none⟩=some v3
 c4:W.cell? ⟨b,4,none⟩=some v4
 c5:W.cell? ⟨b,5,none⟩=some v5
 c6:W.cell? ⟨b,6,none⟩=some v6
 c7:W.cell? ⟨b,7,none⟩=some v7
 c8:W.cell? ⟨b,8,none⟩=some v8
 fz: ∀j,W.frozen? ⟨b,j,none⟩=false
 lt:b < W.heap.size
section
variable {W W' : World} {b : Nat} {v0 v1 v2 v3 v4 v5 v6 v7 v8 : Value}
theorem Nine.same (h:Nine W b v0 v1 v2 v3 v4 v5 v6 v7 v8) (a:SameT W W' b) (c:W.heap.size<=W'.heap.size):Nine W' b v0 v1 v2 v3 v4 v5 v6 v7 v8:=
 ⟨(a.1 0).trans h.c0,(a.1 1).trans h.c1,(a.1 2).trans h.c2,(a.1 3).trans h.c3,(a.1 4).trans h.c4,(a.1 5).trans h.c5,(a.1 6).trans h.c6,(a.1 7).trans h.c7,(a.1 8).trans h.c8,fun j=>(a.2 j).trans (h.fz j),Nat.lt_of_lt_of_le h.lt c⟩
theorem Nine.up {F:List Nat} (h:Nine W b v0 v1 v2 v3 v4 v5 v6 v7 v8) (a:UpT F W W') (c:b∉F):Nine W' b v0 v1 v2 v3 v4 v5 v6 v7 v8:=h.same (a.same h.lt c) a.size
theorem Nine.below (h:Nine W b v0 v1 v2 v3 v4 v5 v6 v7 v8) (a:Below W.heap.size W W'):Nine W' b v0 v1 v2 v3 v4 v5 v6 v7 v8:=h.up (F:= []) (ZcF a) (by simp)
end
theorem ZcP (w:World) (a b c d e f g h i:Value) (t:TypeId):Nine (w.alloc (.cells #[a,b,c,d,e,f,g,h,i] t)) w.heap.size a b c d e f g h i:=by
 refine ⟨?_, ?_, ?_, ?_, ?_, ?_, ?_, ?_, ?_,fun j=> ?_, ?_⟩ <;> simp[go_sem]
abbrev Zero9 (W:World) (b:Nat):Prop:=Nine W b (.int .i64 0) (.string ⟨#[]⟩) (.string ⟨#[]⟩) (.int .i64 0) (.slice none 0 0) (.slice none 0 0) (.slice none 0 0) (.slice none 0 0) (.int .i64 0)
def Zd9 (W:World) (b:Nat) (a0 a1 a2 a3 a4 a5 a6 a7 a8:Value):World:=((((((((W.setCell ⟨b,0,none⟩ a0).setCell ⟨b,1,none⟩ a1).setCell ⟨b,2,none⟩ a2).setCell ⟨b,3,none⟩ a3).setCell ⟨b,4,none⟩ a4).setCell ⟨b,5,none⟩ a5).setCell ⟨b,6,none⟩ a6).setCell ⟨b,7,none⟩ a7).setCell ⟨b,8,none⟩ a8
theorem Ze0 {F:List Nat} {a W:World} (h:UpT F a W) {b:Nat} (c:a.heap.size<=b\/b∈F) (d e f g i j k l m:Value):UpT F a (Zd9 W b d e f g i j k l m):=
 ((((((((h.set ⟨b,0,none⟩ c _).set ⟨b,1,none⟩ c _).set ⟨b,2,none⟩ c _).set ⟨b,3,none⟩ c _).set ⟨b,4,none⟩ c _).set ⟨b,5,none⟩ c _).set ⟨b,6,none⟩ c _).set ⟨b,7,none⟩ c _).set ⟨b,8,none⟩ c _
theorem end9 {w W:World} {bp:Nat} {A:Option Addr} {c:Nat} {l:List Tk} {τ:St} {x:ET} (o:PAt W bp A c l τ) (q:UpT [bp] w W) (r:x.Is W) {rb:Nat} (n:w.heap.size<=rb) (a:rb < x.lo\/x.hi<=rb) (p:bp < w.heap.size) (b d e f g i j k m:Value):
 PAt (Zd9 W rb b d e f g i j k m) bp A c l τ/\UpT [bp] w (Zd9 W rb b d e f g i j k m)/\x.Is (Zd9 W rb b d e f g i j k m):=by
 have h:bp < rb:=by omega
 have u:UpT [rb] W (Zd9 W rb b d e f g i j k m):=Ze0 (UpT.refl _ _) (Or.inr (by simp)) _ _ _ _ _ _ _ _ _;exact ⟨o.keep u (by simp; exact h),Ze0 q (Or.inl n) _ _ _ _ _ _ _ _ _,New.up r u (by simp; exact a)⟩
theorem Zjo {W0:World} {bp:Nat} (t:TB) (b:bp < W0.heap.size) (a:TypeId):JE (W0.alloc (.cells #[.int .i64 t.kind,.string ⟨t.of_.toArray⟩,.string ⟨t.name.toArray⟩,.int .i64 t.n,.slice none 0 0,.slice none 0 0,.slice none 0 0,.slice none 0 0,.int .i64 t.at_] a)) bp W0.heap.size t TR.none_
 (W0.alloc (.cells #[.int .i64 t.kind,.string ⟨t.of_.toArray⟩,.string ⟨t.name.toArray⟩,.int .i64 t.n,.slice none 0 0,.slice none 0 0,.slice none 0 0,.slice none 0 0,.int .i64 t.at_] a)):=by
 have h:=ZcP W0 (.int .i64 t.kind) (.string ⟨t.of_.toArray⟩) (.string ⟨t.name.toArray⟩) (.int .i64 t.n) (.slice none 0 0) (.slice none 0 0) (.slice none 0 0) (.slice none 0 0) (.int .i64 t.at_) a;exact ⟨UpT.refl _ _,h.lt,b,h.c0,h.c1,h.c2,h.c3,h.c4,h.c5,h.c6,h.c7,h.c8,h.fz,Row.start _ _ _ _ _,Row.start _ _ _ _ _,Row.start _ _ _ _ _,Row.start _ _ _ _ _,nofun,nofun,nofun,nofun,nofun,nofun,nofun,nofun,nofun,nofun,nofun,nofun⟩
theorem Zft {a W:World} {bp b:Nat} {t:TB} (h:JE a bp b t TR.none_ W):JX a bp b t 0 W [] [] [] [] TR.none_:=⟨h,rfl,rfl,rfl,rfl,Nat.le_refl _,Nat.le_refl _,Nat.le_refl _,Nat.zero_le _,nofun⟩
def clE (w:World) (bp:Nat) (t:TB):World:=((w.alloc (.cells #[.pointer (some ⟨bp,0,none⟩)] 52)).alloc (.cells Ya 40)).alloc (.cells #[.int .i64 t.kind,.string ⟨t.of_.toArray⟩,.string ⟨t.name.toArray⟩,.int .i64 t.n,.slice none 0 0,.slice none 0 0,.slice none 0 0,.slice none 0 0,.int .i64 t.at_] 40)
theorem ZeR (w:World) (bp:Nat) (t:TB): (clE w bp t).heap.size=w.heap.size+3:=by simp[clE]
theorem Zdq (w:World) (bp:Nat) (t:TB):Below w.heap.size w (clE w bp t):=Z0h (Z0h (Z01 _ _) _) _
section
variable {w : World} {bp : Nat} (t : TB) (h : bp < w.heap.size)
include w bp t h
theorem Zgx:PBox (clE w bp t) w.heap.size bp (w.heap.size+2):=by
 refine ⟨?_,by rw[ZeR]; omega,by omega,by omega⟩;simp[clE,go_sem]
theorem Zht:JE (clE w bp t) bp (w.heap.size+2) t TR.none_ (clE w bp t):=by
 have e:w.heap.size+2=((w.alloc (.cells #[.pointer (some ⟨bp,0,none⟩)] 52)).alloc (.cells Ya 40)).heap.size:=by simp
 rw[e];exact Zjo t (by simp; omega) _
end
theorem Zgy (w:World) (bp:Nat) (t:TB):Zero9 (clE w bp t) (w.heap.size+1):=by
 have h:=ZcP (w.alloc (.cells #[.pointer (some ⟨bp,0,none⟩)] 52)) (.int .i64 0) (.string ⟨#[]⟩) (.string ⟨#[]⟩) (.int .i64 0) (.slice none 0 0) (.slice none 0 0) (.slice none 0 0) (.slice none 0 0) (.int .i64 0) 40;have e: (w.alloc (.cells #[.pointer (some ⟨bp,0,none⟩)] 52)).heap.size=w.heap.size+1:=by simp
 rw[e] at h;exact h.below (Z01 _ _)
theorem hidT {f:FuncId} {a:Array Value} {W0 b:World} {bp:Nat} {A:Option Addr} {c:Nat} {l:List Tk} {r:Tm×St} (n:Nat) (h:Calls Tryz.prog f a W0 (TmIs bp A c l r W0)) (d:Hid (UpT [bp] b W0)) (p:n<=b.heap.size):
 Calls Tryz.prog f a W0 fun e W'=> ∃x:ET,e= .returned (valT x)/\Hid (PAt W' bp A c l r.2)/\Hid (UpT [bp] b W')/\Hid (x.Is W')/\n<=x.lo/\Hid (x.t=r.1/\few x.t=true):=
 h.mono fun e W' h=>by
  obtain ⟨x,g,i,j,k,m,o⟩:=h;exact ⟨x,g,Y1 i,Y1 (d.out.trans j),Y1 k,Nat.le_trans (Nat.le_trans p d.out.size) m,Y1 o⟩
theorem Nine.upf {W W':World} {b:Nat} {a c d e f g i j l:Value} {F:List Nat} (h:Nine W b a c d e f g i j l) (n:UpT F W W') (m:b∉F):
 W'.cell? ⟨b,0,none⟩=some a/\W'.cell? ⟨b,1,none⟩=some c/\W'.cell? ⟨b,2,none⟩=some d/\W'.cell? ⟨b,3,none⟩=some e/\W'.cell? ⟨b,4,none⟩=some f/\W'.cell? ⟨b,5,none⟩=some g/\W'.cell? ⟨b,6,none⟩=some i/\W'.cell? ⟨b,7,none⟩=some j/\W'.cell? ⟨b,8,none⟩=some l/\
 W'.frozen? ⟨b,0,none⟩=false/\W'.frozen? ⟨b,1,none⟩=false/\W'.frozen? ⟨b,2,none⟩=false/\W'.frozen? ⟨b,3,none⟩=false/\W'.frozen? ⟨b,4,none⟩=false/\W'.frozen? ⟨b,5,none⟩=false/\W'.frozen? ⟨b,6,none⟩=false/\W'.frozen? ⟨b,7,none⟩=false/\W'.frozen? ⟨b,8,none⟩=false/\b < W'.heap.size:=
 have k:=h.up n m
 ⟨k.c0,k.c1,k.c2,k.c3,k.c4,k.c5,k.c6,k.c7,k.c8,k.fz 0,k.fz 1,k.fz 2,k.fz 3,k.fz 4,k.fz 5,k.fz 6,k.fz 7,k.fz 8,k.lt⟩
end
section
open Go.RowKit Tms
open Shp (Sh)
open Pso (St Ok Goes betw loop want)
theorem ZlI (bp:Nat) (A:Option Addr) (c:Nat) (l:List Tk) (m:Nat) (σ:St) (a:Int) (hl:TokOk l) (ha: -9223372036854775808<=a/\a<=9223372036854775807) (hσ:Ok l σ) (z:ExC bp A c l m) (hm:l.length - (want l σ [91]).1 < m) (w:World) (h:PAt w bp A c l σ):
 Calls Tryz.prog 114 #[.pointer (some ⟨bp,0,none⟩),.int .i64 a] w (TmIs bp A c l (Pso.listE l (Pso.expr l m) σ a) w):=by
 have y:=h.lt;have a6:=hl.len;have U:=Y1 hl;have HE:=Y1 z;have HM:=Y1 hm;have HA:=Y1 ha;have HK:Hid (TBok ⟨11,[],[],0,a⟩):=Y1 ⟨by simp,by simp,by simp,ha,by simp⟩;have Y:σ.1<=σ.1:=Nat.le_refl _;have t0:Ok l σ:=hσ;have T0:=Y1 t0;have G0:=Y1 Y;have Q:Pso.To l σ (betw l [91] [44] [93] (Pso.argsR l (Pso.expr l m)) σ []).1:=Pso.to_betw (Pso.goes_args (Pso.to_expr m)) _ hσ;have Z:σ.1<=(betw l [91] [44] [93] (Pso.argsR l (Pso.expr l m)) σ []).1.1:=Nat.le_trans Y Q.2.1;have T1:=Y1 Q;have G1:=Y1 Z;have T:Pso.To l (betw l [91] [44] [93] (Pso.argsR l (Pso.expr l m)) σ []).1 (want l (betw l [91] [44] [93] (Pso.argsR l (Pso.expr l m)) σ []).1 [111,102]):=Pso.to_want Q.1 [111,102];have g2:σ.1<=(want l (betw l [91] [44] [93] (Pso.argsR l (Pso.expr l m)) σ []).1 [111,102]).1:=Nat.le_trans Z T.2.1;have T2:=Y1 T;have G2:=Y1 g2;have t3:Pso.To l (want l (betw l [91] [44] [93] (Pso.argsR l (Pso.expr l m)) σ []).1 [111,102]) (Pso.wholeT l (want l (betw l [91] [44] [93] (Pso.argsR l (Pso.expr l m)) σ []).1 [111,102])).2:=Pso.to_wholeT _ T.1;have G:σ.1<=(Pso.wholeT l (want l (betw l [91] [44] [93] (Pso.argsR l (Pso.expr l m)) σ []).1 [111,102])).2.1:=Nat.le_trans g2 t3.2.1;have T3:=Y1 t3;have G3:=Y1 G;have s:=Y1 (h.below (Zdq w bp ⟨11,[],[],0,a⟩));have k:=Y1 (Zft (Zht ⟨11,[],[],0,a⟩ y));have B:=Y1 (Zdq w bp ⟨11,[],[],0,a⟩);have D:=Y1 (ZeR w bp ⟨11,[],[],0,a⟩);have HZ:=Y1 (Zgy w bp ⟨11,[],[],0,a⟩);have f:=Y1 (Zgx ⟨11,[],[],0,a⟩ y);have L:clE w bp ⟨11,[],[],0,a⟩=((w.alloc (.cells #[.pointer (some ⟨bp,0,none⟩)] 52)).alloc (.cells Ya 40)).alloc (.cells #[.int .i64 11,.string ⟨#[]⟩,.string ⟨#[]⟩,.int .i64 0,.slice none 0 0,.slice none 0 0,.slice none 0 0,.slice none 0 0,.int .i64 a] 40):=rfl;obtain ⟨J,n⟩:=f.out.on k.out.je.up;have C:=Y1 L;clear h hl z hm ha hσ L t0 Y Q Z T g2 t3 G
 go_enter Tryz.func114,Tryz.ntmps114
 go_wp2_with fail
 rw[<-C.out];generalize clE w bp ⟨11,[],[],0,a⟩=W1 at s k B D HZ f J n ⊢;clear C;refine (Zde bp A c l [91] [44] [93] 139 (enters_of Tryz.func139 (by kernel_rfl) rfl) (.pointer (some ⟨w.heap.size+2,0,none⟩)) (.pointer (some ⟨w.heap.size,0,none⟩)) (args_inv W1 bp (w.heap.size+2) ⟨11,[],[],0,a⟩) (Pso.argsR l (Pso.expr l m)) m (by omega) (Pso.goes_args (Pso.to_expr m)) (fun r W W' a h hu=>Zn4 h hu)
  (Zon bp A c l m U.out HE.out W1 w.heap.size (w.heap.size+2) ⟨11,[],[],0,a⟩ f.out) σ [] _ T0.out HM.out s.out ⟨_,k.out⟩).mono ?_
 rintro e w1 ⟨rfl,N,r,hr,R,H⟩;have E:=Y1 N;have t:=Y1 H;have X:=Y1 hr;clear N H hr s k J n;obtain ⟨a2,M⟩:=f.out.on t.out.je.up
 go_wp2_with fail
 refine (ZcJ bp A c l (betw l [91] [44] [93] (Pso.argsR l (Pso.expr l m)) σ []).1 [111,102] (by omega) T1.out.1.1 w1 E.out).mono ?_;rintro e w2 ⟨v2,rfl,O,P⟩;have F:=Y1 O;have g:=Y1 (t.out.keep P);clear O P E t a2 M;obtain ⟨K,q⟩:=f.out.on g.out.je.up
 go_wp2_with fail
 refine regS _ 18 5 2 40 6 18 ⟨w2,bp,A,c,l,(Pso.wholeT l (want l (betw l [91] [44] [93] (Pso.argsR l (Pso.expr l m)) σ []).1 [111,102])).2,w.heap.size+2,6,W1.heap.size,_,_,_,(fun x=>x.t=(Pso.wholeT l (want l (betw l [91] [44] [93] (Pso.argsR l (Pso.expr l m)) σ []).1 [111,102])).1)⟩ (g.out.je.goodS (by have h1:=g.out.ls; have h2:=X.out; try omega)) w.heap.size K q f.out.ne (fun uu=> { tmps:=#[.pointer (some ⟨bp,0,none⟩),.int .i64 a,.pointer (some ⟨w.heap.size,0,none⟩),undef,.pointer (some ⟨w.heap.size+1,0,none⟩),.pointer (some ⟨w.heap.size+1+1,0,none⟩),.int .i64 a,.agg #[.int .i64 11,.string ⟨#[]⟩,.string ⟨#[]⟩,.int .i64 0,.slice none 0 0,.slice none 0 0,.slice none 0 0,.slice none 0 0,.int .i64 a],.pointer (some ⟨bp,0,none⟩),.pointer (some ⟨bp,0,none⟩),.pointer (some ⟨bp,0,none⟩),.func (.func 139) #[] #[.pointer (some ⟨w.heap.size+1+1,0,none⟩),.pointer (some ⟨w.heap.size,0,none⟩)],.tuple #[],.pointer (some ⟨bp,0,none⟩),.pointer (some ⟨bp,0,none⟩),.pointer (some ⟨bp,0,none⟩),.slice (some ⟨w1.heap.size,0,none⟩) 1 1,.string v2,uu 0,uu 1,uu 2,uu 3,uu 4,uu 5,uu 6,uu 7,uu 9,undef],defers:= [] }) (fun _=>undef)
  ⟨fun i o h u v=>by
   rcases i with _ | _ | _ | _ | _ | _ | _ | _ | _ | _ | _ | i
   all_goals first | (cases h; rfl) | exact absurd h (by simp[opsS]),fun _=>rfl,fun _=>rfl,fun _=>rfl,fun _=>rfl,fun _=>rfl,fun _=>rfl,fun _=>rfl,fun _=>rfl,fun _=>rfl,fun _=>rfl,fun _=>rfl⟩
  (fun W=>by go_simp <;> rfl) (enters_of Tryz.func18 (by kernel_rfl) rfl) (fun W hW=>Zd2 bp A c l U.out.len U.out.txt (want l (betw l [91] [44] [93] (Pso.argsR l (Pso.expr l m)) σ []).1 [111,102]) T2.out.1 W (F.out.below hW)) (fun u3 w3 x3 G cp3 p=> ?_)
 have I:=g.out.shape p p.r;have V:=Y1 (show PAt w3 bp A c l (Pso.wholeT l (want l (betw l [91] [44] [93] (Pso.argsR l (Pso.expr l m)) σ []).1 [111,102])).2 from p.par);have b:=Y1 I;clear p I F g K q;have d:=b.out.je;have c0:=d.c0;have c1:=d.c1;have c2:=d.c2;have c3:=d.c3;have c4:=d.c4;have c5:=d.c5;have c6:=d.c6;have c7:=d.c7;have c8:=d.c8;have d2:=D.out;have d3:=d.up.size;have d1:w.heap.size+2 < w3.heap.size:=by omega
 obtain ⟨r0,r1,r2,r3,r4,r5,r6,r7,r8,j,rl⟩:=HZ.out.up d.up (by simp; omega);have f0:=j 0;have f1:=j 1;have f2:=j 2;have f3:=j 3;have f4:=j 4;have f5:=j 5;have f6:=j 6;have f7:=j 7;have f8:=j 8;clear d j;go_wp2;have d:=b.out.je;refine bodyPost_ret (v:=valT ⟨mkT ⟨11,[],[],0,a⟩ ({ R with AS:=some ⟨G,0,none⟩,cs:=cp3,S:=(R:TR).S++ [x3] }:TR),mkQ ({ R with AS:=some ⟨G,0,none⟩,cs:=cp3,S:=(R:TR).S++ [x3] }:TR),W1.heap.size,w3.heap.size⟩) (by simp[results,Tryz.results114,go_sem,valT,mkT,mkQ,r0,r1,r2,r3,r4,r5,r6,r7,r8,rl]) rfl ?_;have hn:=d.new HK.out (by have h1:=b.out.ln; have h2:=b.out.lv; have h3:=b.out.ls; have h4:=b.out.lp; have h5:=X.out; exact ⟨by omega,by omega,by omega,by omega⟩);have z:=end9 V.out (UpT.drop d.up B.out (by omega)) hn (rb:=w.heap.size+1) (by omega) (Or.inl (by simp only; omega)) y;exact ⟨_,rfl,(z _ _ _ _ _ _ _ _ _).1,(z _ _ _ _ _ _ _ _ _).2.1,(z _ _ _ _ _ _ _ _ _).2.2,by simp only; omega,by
  rw[Zfs _ b.out.en b.out.ev b.out.es b.out.ep]; rfl,ZdH _ _ (by have h1:=b.out.ln; have h5:=X.out; omega) b.out.fw⟩
theorem UpT.drop2 {w b W:World} {bp c:Nat} (h:UpT [bp,c] b W) (a:UpT [bp] w b) (d:w.heap.size<=c):UpT [bp] w W:=
 ⟨h.os.trans a.os,h.tape.trans a.tape,h.output.trans a.output,Nat.le_trans a.size h.size,fun k hk hn=>(h.block k (Nat.lt_of_lt_of_le hk a.size) (by simp at hn ⊢; omega)).trans (a.block k hk hn)⟩
end
end Go.Proofs.YtgndehppmaacaaaGreatDoor
namespace Tms
section
open Go.Lib (decodeL decodeN decodeL_N validD validD_step validD_nil)
section
variable {p : Int} (h : Utf.pt p = true) (m : List UInt8)
include p h m
theorem Zjr: (decodeL (Utf.bytes p++m)).2=Utf.width p/\ ¬((decodeL (Utf.bytes p++m)).1=65533/\(decodeL (Utf.bytes p++m)).2=1):=by
 obtain ⟨e,f,g⟩:=(Utf.Z3J p).1 h;rw[decodeL_N];unfold Utf.bytes Utf.width;by_cases c1:p < 128
 {rw[if_pos c1,if_pos c1];have a:=Utf.Z0g p;simp only[List.cons_append,List.nil_append,List.getD_cons_zero];unfold decodeN;rw[if_pos (by omega)];exact ⟨rfl,by simp; omega⟩}
 rw[if_neg c1,if_neg c1];by_cases c2:p < 2048
 {rw[if_pos c2,if_pos c2];have a:=Utf.Z0g (192+p / 64);have b:=Utf.Z0g (128+p % 64);simp only[List.cons_append,List.nil_append,List.getD_cons_zero,List.getD_cons_succ,List.length_cons];unfold decodeN;rw[if_neg (by omega),if_pos ⟨by omega,by omega,by omega⟩,if_pos (by omega)];exact ⟨rfl,by simp⟩}
 rw[if_neg c2,if_neg c2];by_cases c3:p < 65536
 {rw[if_pos c3,if_pos c3];have a:=Utf.Z0g (224+p / 4096);have b:=Utf.Z0g (128+p / 64 % 64);have c:=Utf.Z0g (128+p % 64);simp only[List.cons_append,List.nil_append,List.getD_cons_zero,List.getD_cons_succ,List.length_cons];unfold decodeN;rw[if_neg (by omega),if_neg (fun x=>by omega),if_pos ⟨by omega,⟨by omega,by omega⟩,by omega,by omega⟩,if_pos ⟨by omega,by omega⟩];exact ⟨rfl,by simp⟩}
 rw[if_neg c3,if_neg c3];have a:=Utf.Z0g (240+p / 262144);have b:=Utf.Z0g (128+p / 4096 % 64);have c:=Utf.Z0g (128+p / 64 % 64);have d:=Utf.Z0g (128+p % 64);simp only[List.cons_append,List.nil_append,List.getD_cons_zero,List.getD_cons_succ,List.length_cons];unfold decodeN;rw[if_neg (by omega),if_neg (fun x=>by omega),if_neg (fun x=>by omega),if_pos ⟨by omega,⟨by omega,by omega⟩,⟨by omega,by omega⟩,by omega,by omega⟩,if_pos ⟨by omega,by omega⟩];exact ⟨rfl,by simp⟩
theorem Zjs:validD (Utf.bytes p++m)=validD m:=by
 obtain ⟨b,c⟩:=Zjr h m;have d:=Utf.Z0n p;have f:=Utf.Z1B p;have a:Utf.bytes p++m≠ []:=fun e=>by
  have:=congrArg List.length e;rw[List.length_append,List.length_nil] at this;omega
 rw[validD_step _ a,if_neg c,b, <-d,List.drop_left]
end
theorem ZlJ {a:UInt8} {r:List UInt8} (f: ∀p m,Utf.pt p=true->a::r≠Utf.bytes p++m):decodeL (a::r)=(65533,1):=by
 have e: ∀(p:Int) (m:List UInt8),0<=p->p<=1114111->(p < 55296\/57343 < p)-> ¬a::r=Utf.bytes p++m:=fun p m h1 h2 h3=>f p m ((Utf.Z3J p).2 ⟨h1,h2,h3⟩);rw[decodeL_N];have g:=a.toNat_lt;simp only[List.getD_cons_zero,List.getD_cons_succ,List.length_cons];unfold decodeN;by_cases c1:a.toNat < 128
 {refine absurd ?_ (e a.toNat r (by omega) (by omega) (Or.inl (by omega)));unfold Utf.bytes;rw[if_pos (by omega),Utf.Z1b rfl]; rfl}
 rw[if_neg c1]
 match r with
 | []=> 
  rw[if_neg (fun x=>by simp at x),if_neg (fun x=>by simp at x),if_neg (fun x=>by simp at x)]
 | b::r=>
  have h:=b.toNat_lt;simp only[List.getD_cons_zero,List.getD_cons_succ,List.length_cons] at e ⊢;by_cases c2:a.toNat / 32=6/\(1 < r.length+1+1/\b.toNat / 64=2)
  {rw[if_pos c2];by_cases c3:a.toNat % 32 * 64+b.toNat % 64>=128
   {refine absurd ?_ (e ((a.toNat % 32 * 64+b.toNat % 64:Nat):Int) r (by omega) (by omega) (Or.inl (by omega)));unfold Utf.bytes;rw[if_neg (by omega),if_pos (by omega),Utf.Z1b (b:=a) (by omega),Utf.Z1b (b:=b) (by omega)]; rfl}
   {rw[if_neg c3]}}
  rw[if_neg c2]
  match r with
  | []=>rw[if_neg (fun x=>by simp at x),if_neg (fun x=>by simp at x)]
  | c::r=>
   have i:=c.toNat_lt;simp only[List.getD_cons_zero,List.getD_cons_succ,List.length_cons] at e ⊢;by_cases c4:a.toNat / 16=14/\(1 < r.length+1+1+1/\b.toNat / 64=2)/\(2 < r.length+1+1+1/\c.toNat / 64=2)
   {rw[if_pos c4];by_cases c5:a.toNat % 16 * 4096+b.toNat % 64 * 64+c.toNat % 64>=2048/\(a.toNat % 16 * 4096+b.toNat % 64 * 64+c.toNat % 64 < 55296\/(57344<=a.toNat % 16 * 4096+b.toNat % 64 * 64+c.toNat % 64/\a.toNat % 16 * 4096+b.toNat % 64 * 64+c.toNat % 64<=1114111))
    {refine absurd ?_ (e ((a.toNat % 16 * 4096+b.toNat % 64 * 64+c.toNat % 64:Nat):Int) r (by omega) (by omega) (by omega));unfold Utf.bytes;rw[if_neg (by omega),if_neg (by omega),if_pos (by omega),Utf.Z1b (b:=a) (by omega),Utf.Z1b (b:=b) (by omega),Utf.Z1b (b:=c) (by omega)]; rfl}
    {rw[if_neg c5]}}
   rw[if_neg c4]
   match r with
   | []=>rw[if_neg (fun x=>by simp at x)]
   | d::r=>
    have j:=d.toNat_lt;simp only[List.getD_cons_zero,List.length_cons] at e ⊢;by_cases c6:a.toNat / 8=30/\(1 < r.length+1+1+1+1/\b.toNat / 64=2)/\(2 < r.length+1+1+1+1/\c.toNat / 64=2)/\(3 < r.length+1+1+1+1/\d.toNat / 64=2)
    {rw[if_pos c6];by_cases c7:a.toNat % 8 * 262144+b.toNat % 64 * 4096+c.toNat % 64 * 64+d.toNat % 64>=65536/\(a.toNat % 8 * 262144+b.toNat % 64 * 4096+c.toNat % 64 * 64+d.toNat % 64 < 55296\/(57344<=a.toNat % 8 * 262144+b.toNat % 64 * 4096+c.toNat % 64 * 64+d.toNat % 64/\a.toNat % 8 * 262144+b.toNat % 64 * 4096+c.toNat % 64 * 64+d.toNat % 64<=1114111))
     {refine absurd ?_ (e ((a.toNat % 8 * 262144+b.toNat % 64 * 4096+c.toNat % 64 * 64+d.toNat % 64:Nat):Int) r (by omega) (by omega) (by omega));unfold Utf.bytes;rw[if_neg (by omega),if_neg (by omega),if_neg (by omega),Utf.Z1b (b:=a) (by omega),Utf.Z1b (b:=b) (by omega),Utf.Z1b (b:=c) (by omega),Utf.Z1b (b:=d) (by omega)]; rfl}
     {rw[if_neg c7]}}
    rw[if_neg c6]
theorem Zkj {l:List UInt8} (b:l≠ []) (h:Utf.first l=(0,0)):validD l=false:=by
 match l,b with
 | a::r,b=>
  have c:=ZlJ (a:=a) (r:=r) (fun p m hp e=>by
   rw[e,Utf.Z0N p hp] at h;have:=Utf.Z1B p;simp only[Prod.mk.injEq] at h;omega)
  rw[validD_step _ b,c];rfl
theorem Zgo: ∀ {ps:List Int} {l rest:List UInt8},Utf.Reads l ps rest->(validD l=true ↔ rest= [])
 | [],l,rest,h=>by
  obtain rfl:l=rest:=by have:=h.text; simpa[Utf.ZkF] using this
  by_cases a:l= []
  {subst a; simp[validD_nil]}
  {have:=Zkj a h.none;rw[this]; simp[a]}
 | p::ps,l,rest,h=>by
  have b:l=Utf.bytes p++(Utf.enc ps++rest):=by rw[h.text,Utf.Z0T,List.append_assoc]
  rw[b,Zjs (h.pts p (by simp))];exact Zgo (ps:=ps) (l:=Utf.enc ps++rest) (rest:=rest) ⟨fun x hx=>h.pts x (by simp[hx]),rfl,h.none⟩
theorem Zjt (l:List UInt8):validD l=valid l:=by
 obtain ⟨ps,rest,h⟩:=Utf.reads l;rw[Bool.eq_iff_iff,Zgo h,Zer h]
end
end Tms
namespace Go.Proofs.YtgndehppmaacaaaGreatDoor
section
open Go.RowKit
theorem Zhu {s:List UInt8} {i:Nat} (a:i < s.length) (h:Tms.plainB (s[i]'a)=false):Tms.textOk s=false:=by
 unfold Tms.textOk;rw[Bool.and_eq_false_iff];left;rw[List.all_eq_false];exact ⟨_,List.getElem_mem a,by rw[h]; decide⟩
theorem Zhv {s:List UInt8} (h: ∀j (a:j < s.length),Tms.plainB (s[j]'a)=true):Tms.textOk s=Tms.valid s:=by
 unfold Tms.textOk;rw[show s.all Tms.plainB=true from by
  rw[List.all_eq_true];intro y b;obtain ⟨j,a,rfl⟩:=List.getElem_of_mem b;exact h j a]
 simp
theorem ZiG (s:List UInt8) (E:s.length<=9223372036854775807) (w:World) (l:Zd1 w):
 Y9 197 #[.string ⟨s.toArray⟩] w (.bool (Tms.textOk s)):=by
 have y: (⟨s.toArray⟩:ByteArray).size=s.length:=Z0J _;have u:=Y1 (ZgX ⟨s.toArray⟩ w (by rw[y]; exact E) l);rw[show ((⟨s.toArray⟩:ByteArray).data.toList)=s from rfl,Tms.Zjt] at u;clear l;go_enter Tryz.func197,Tryz.ntmps197
 go_wp2_with fail
 go_loopw [6] (fun ii wr=> ∃i:Nat,ii= .int .i64 i/\i<=s.length/\Hid (∀j (hj:j < s.length),j < i->Tms.plainB (s[j]'hj)=true)/\w=wr) (fun ii _=>s.length - (intOf ii).toNat)
 case atStart=>exact ⟨0,rfl,Nat.zero_le _,Y1 (fun j _ hj=>absurd hj (by omega)),rfl⟩
 case round=>
  obtain ⟨i,rfl,F,t,rfl⟩:=hrel;by_cases k:i < s.length
  {have p: (i:Int) < (s.length:Int):=by omega
   obtain ⟨c,o⟩: ∃c,c=s[i]'k:=⟨_,rfl⟩;have v: ∀W,(Instr.index 9 (.string ⟨s.toArray⟩) (.int .i64 (i:Int))).run Tryz.prog W= .ok (.int .u8 c.toNat) W:=fun W=>by
    rw[o]; exact Z4P ⟨s.toArray⟩ i (by rw[y]; exact k) W
   have r:=Y1 o;clear o;have m: ((c.toNat:Int)==9)=(c==9):=ZcR c 9 (by decide);have f: ((c.toNat:Int)==10)=(c==10):=ZcR c 10 (by decide);have next:Tms.plainB c=true->Hid (∀j (hj:j < s.length),j < i+1->Tms.plainB (s[j]'hj)=true):=fun h=>Y1 (fun j hj hji=>by
    rcases Nat.lt_succ_iff_lt_or_eq.1 hji with C | rfl
    {exact t.out j hj C}
    · rw[<-r.out]; exact h)
   by_cases d:c.toNat < 32
   {have q: (c.toNat:Int) < 32:=by omega
    by_cases h9:c=9
    {have g: (c==9)=true:=by simpa using h9
     have B: ((c.toNat:Int) !=9)=false:=by unfold bne; rw[m,g]; rfl
     have HP:=next (by rw[Tms.Zd8]; exact fun h=>h.2.1 h9)
     rw[g] at m;clear next h9 g d
     go_wp2
     go_roundw
     case rel=>exact ⟨i+1,by go_num,by omega,HP,trivial⟩
     case measure=>simp[intOf]; omega}
    {have g: (c==9)=false:=by simpa using h9
     have B: ((c.toNat:Int) !=9)=true:=by unfold bne; rw[m,g]; rfl
     rw[g] at m;by_cases b:c=10
     {have a: (c==10)=true:=by simpa using b
      have n: ((c.toNat:Int) !=10)=false:=by unfold bne; rw[f,a]; rfl
      have HP:=next (by rw[Tms.Zd8]; exact fun h=>h.2.2 b)
      rw[a] at f;clear next h9 g b a d
      go_wp2
      go_roundw
      case rel=>exact ⟨i+1,by go_num,by omega,HP,trivial⟩
      case measure=>simp[intOf]; omega}
     {have a: (c==10)=false:=by simpa using b
      have n: ((c.toNat:Int) !=10)=true:=by unfold bne; rw[f,a]; rfl
      rw[a] at f;have z:Hid (Tms.textOk s=false):=Y1 (Zhu k (by
       rw[<-r.out];cases e:Tms.plainB c with
       | false=>rfl
       | true=>exact absurd ⟨d,h9,b⟩ ((Tms.Zd8 c).1 e)))
      clear next h9 g b a d
      go_wp2;go_ret;exact ⟨Z0p z.out.symm,Below.refl _ _⟩}}}
   {have q: ¬(c.toNat:Int) < 32:=by omega
    have HP:=next (by rw[Tms.Zd8]; exact fun h=>d h.1)
    clear next d
    go_wp2
    go_roundw
    case rel=>exact ⟨i+1,by go_num,by omega,HP,trivial⟩
    case measure=>simp[intOf]; omega}}
  {have p: ¬(i:Int) < (s.length:Int):=by omega
   have A:Hid (Tms.textOk s=Tms.valid s):=Y1 (Zhv (fun j hj=>t.out j hj (by omega)))
   go_wp2_with fail
   refine u.out.mono ?_;rintro e w' ⟨rfl,D⟩;go_wp2;go_ret;exact ⟨Z0p A.out.symm,D⟩}
end
section
open Go.RowKit Tms
open Shp (Sh)
theorem Zkk (t:Tm) (q:TP) (w:World) (h:t.of_.length<=9223372036854775807):
 Y9 173 #[.agg (Y7 t q)] w (.bool (ofB t)):=by
 have c:Hid (ofB t=(t.of_== []||(t.kind==5&&Lex.isName t.of_))):=Y1 rfl;have b:=Y1 (Z01 w (.cells (Y7 t q) 40));have g:=fun W=>Z2i t.of_ h W;obtain ⟨_,⟨i,c1,c2,c3,c4,c5,c6,c7,j⟩,_⟩:=ZdA w t q;cases a: (t.of_== [])
 {have d:=Z0H a;cases f: (t.kind==5)
  {rw[a,f] at c;clear a;go_enter Tryz.func173,Tryz.ntmps173;go_wp2;go_ret;exact ⟨Z0p c.out.symm,b.out⟩}
  {rw[a,f] at c;clear a;go_enter Tryz.func173,Tryz.ntmps173
   go_wp2_with fail
   refine (g _).mono ?_;rintro e w' ⟨rfl,rfl⟩;go_wp2;go_ret;exact ⟨Z0p (by rw[c.out]; rfl),b.out⟩}}
 {have d:=Z0H a;rw[a] at c;clear a;go_enter Tryz.func173,Tryz.ntmps173;go_wp2;go_ret;exact ⟨Z0p c.out.symm,b.out⟩}
theorem ZiH (t:Tm) (q:TP) (w:World) (hl:t.name.length<=9223372036854775807) (hu8:Zd1 w):
 Calls Tryz.prog 174 #[.agg #[.int .i64 t.kind,.string ⟨t.of_.toArray⟩,.string ⟨t.name.toArray⟩,.int .i64 t.n,.slice q.A t.names.length q.c,.slice q.V t.vars.length q.e,.slice q.S t.shapes.length q.s,.slice q.P t.parts.length q.d,.int .i64 t.at_]] w fun e w'=>e= .returned (.bool (nameB t))/\Below w.heap.size w w':=by
 have hb0:=Z01 w (.cells #[.int .i64 t.kind,.string ⟨t.of_.toArray⟩,.string ⟨t.name.toArray⟩,.int .i64 t.n,.slice q.A t.names.length q.c,.slice q.V t.vars.length q.e,.slice q.S t.shapes.length q.s,.slice q.P t.parts.length q.d,.int .i64 t.at_] 40);have HB0:=Y1 hb0;have HN:=fun W=>Z2i t.name hl W;have HU:=fun W=>Z4l t.name hl W;have HQ:=ZiG t.name hl _ (hu8.next hb0);obtain ⟨_,⟨c0,c1,c2,c3,c4,c5,c6,c7,c8⟩,_⟩:=ZdA w t q;by_cases k2:t.kind=2
 {have HF:Hid (nameB t=textOk t.name):=Y1 (by unfold nameB; rw[if_pos k2]);have e2:=Y4 2 k2 rfl;clear k2 hb0;go_enter Tryz.func174,Tryz.ntmps174
  go_wp2_with fail
  refine HQ.mono ?_;rintro e w' ⟨rfl,hb⟩;go_wp2;go_ret;exact ⟨Z0p HF.out.symm,Z03 HB0.out hb⟩}
 have e2: (t.kind==2)=false:=by simpa using k2
 by_cases k5:t.kind=5\/t.kind=9\/t.kind=10\/t.kind=14
 {have HF:Hid (nameB t=Lex.isName t.name):=Y1 (by unfold nameB; rw[if_neg k2,if_pos k5]);rcases k5 with k | k | k | k
  all_goals
   rw[k] at c0;rw[k];clear k k2 e2 hb0;go_enter Tryz.func174,Tryz.ntmps174
   go_wp2_with fail
   refine (HN _).mono ?_;rintro e w' ⟨rfl,rfl⟩;go_wp2;go_ret;exact ⟨Z0p HF.out.symm,Z01 _ _⟩}
 by_cases k16:t.kind=16\/t.kind=17
 {have HF:Hid (nameB t=Lex.isUpper t.name):=Y1 (by unfold nameB; rw[if_neg k2,if_neg k5,if_pos k16]);clear k5;rcases k16 with k | k
  all_goals
   rw[k] at c0;rw[k];clear k k2 e2 hb0;go_enter Tryz.func174,Tryz.ntmps174
   go_wp2_with fail
   refine (HU _).mono ?_;rintro e w' ⟨rfl,rfl⟩;go_wp2;go_ret;exact ⟨Z0p HF.out.symm,Z01 _ _⟩}
 {have HF:Hid (nameB t=(t.name== [])):=Y1 (by unfold nameB; rw[if_neg k2,if_neg k5,if_neg k16]);have e5: (t.kind==5)=false:=by simp; omega
  have e9: (t.kind==9)=false:=by simp; omega
  have e10: (t.kind==10)=false:=by simp; omega
  have e14: (t.kind==14)=false:=by simp; omega
  have e16: (t.kind==16)=false:=by simp; omega
  have e17: (t.kind==17)=false:=by simp; omega
  clear k2 k5 k16 hb0;cases h0: (t.name== [])
  all_goals
   have hoe:=Z0H h0;rw[h0] at HF;clear h0;go_enter Tryz.func174,Tryz.ntmps174;go_wp2;go_ret;exact ⟨Z0p HF.out.symm,HB0.out⟩}
end
end Go.Proofs.YtgndehppmaacaaaGreatDoor
