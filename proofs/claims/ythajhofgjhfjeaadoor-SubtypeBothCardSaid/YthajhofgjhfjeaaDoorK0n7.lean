/- What the proofs of SubtypeBoth, SubtypeGreatest, SubtypeLeast, SubtypeOrder want, part 7. -/
import Derived.Test.YthajhofgjhfjeaaDoorK0n6
set_option linter.unusedVariables false
set_option linter.unusedSimpArgs false
set_option linter.unusedSectionVars false
set_option maxRecDepth 100000
set_option maxHeartbeats 16000000
namespace Go.Proofs.YthajhofgjhfjeaaDoor
open Go.RowKit Shp Sub
namespace SubM
theorem ZaP {P:Program} {e:TypeId} {z:Value} {size bytes:Nat} (h: (P.info? e).map (fun i=>(i.zero,i.size,i.bytes))=some (some z,size,bytes)): ∃i,P.info? e=some i/\i.zero=some z/\i.size=size/\i.bytes=bytes:=by
 cases hi:P.info? e with
 | none=>rw[hi] at h; cases h
 | some i=>
  rw[hi] at h;simp only[Option.map_some,Option.some.injEq,Prod.mk.injEq] at h;exact ⟨i,rfl,h.1,h.2.1,h.2.2⟩
theorem Zbl: (Tryd.prog.info? 25).map (fun i=>(i.zero,i.size,i.bytes))=some (some (.agg #[.int .i64 0,.string ByteArray.empty,.string ByteArray.empty,.slice none 0 0,.slice none 0 0]),5,88):=by kernel_rfl
theorem Zc8: (Tryd.prog.info? 9).map (fun i=>(i.zero,i.size,i.bytes))=some (some (.string ByteArray.empty),1,16):=by kernel_rfl
theorem Za3 (d:Nat->Bool) {i j:Nat} (h:j≠i):also d i j=d j:=by
 unfold also;have:Nat.beq j i=false:=by cases hb:Nat.beq j i <;> first | rfl | exact absurd (Nat.eq_of_beq_eq_true hb) h
 rw[this]; rfl
theorem Zab (d:Nat->Bool) (i:Nat):also d i i=true:=by unfold also; rw[Nat.beq_refl]; rfl
structure PX where
 W0:World
 gm:Nat
 hi:Nat
 pb:Nat
 AN:Option Addr
 cN:Nat
 AP:Option Addr
 cP:Nat
 nl:List (List UInt8)
 l:List El
 nm:List UInt8
 x:El
namespace PX
variable (X : PX)
def val (j:Nat):Option Value:=match j with
 | 0 | 1 | 2 | 3 | 9 | 10 | 16 | 19=>some (.pointer (some ⟨X.gm,0,none⟩))
 | 4 | 17=>some (.pointer (some ⟨X.gm,3,none⟩))
 | 11 | 20=>some (.pointer (some ⟨X.gm,4,none⟩))
 | 5=>some (.slice X.AN X.nl.length X.cN)
 | 6=>some (.string ⟨X.nm.toArray⟩)
 | 12=>some (.slice X.AP X.l.length X.cP)
 | 13=>some (sv X.x.1 X.x.2)
 | _=>none
def set (b:Nat):Prop:=b=X.gm\/rowB X.AN=some b\/rowB X.AP=some b
structure Good:Prop where
 gh:X.gm < X.hi
 hw:X.hi<=X.pb
 pw:X.pb < X.W0.heap.size
 c3:X.W0.cell? ⟨X.gm,3,none⟩=some (.slice X.AN X.nl.length X.cN)
 c4:X.W0.cell? ⟨X.gm,4,none⟩=some (.slice X.AP X.l.length X.cP)
 fz: ∀j,X.W0.frozen? ⟨X.gm,j,none⟩=false
 rN:X.W0.ownsRow X.hi 9 1 (.slice X.AN X.nl.length X.cN) X.nl.length (namesE X.nl)
 rP:X.W0.ownsRow X.hi 25 5 (.slice X.AP X.l.length X.cP) X.l.length (cellsE X.l)
 ne:rowB X.AN=none\/rowB X.AN≠rowB X.AP
 bn:rowB X.AN≠some X.pb
 bp:rowB X.AP≠some X.pb
 box:Sh5 X.W0 X.pb 0 X.x.1 X.x.2
 ln:X.nl.length<=1000
 ll:X.l.length<=1000
structure PI (d:Nat->Bool) (u:Nat->Value) (W:World):Prop where
 vals: ∀j,d j=true-> ∀v,X.val j=some v->u j=v
 up:Upd X.set X.W0 W
 f7:d 7=true-> ∃z,u 7= .slice (some ⟨z,0,none⟩) 1 1/\X.W0.heap.size<=z/\z < W.heap.size/\W.cell? ⟨z,0,none⟩=some (.string ⟨X.nm.toArray⟩)
 f14:d 14=true-> ∃z,u 14= .slice (some ⟨z,0,none⟩) 1 1/\X.W0.heap.size<=z/\z < W.heap.size/\ ∀(j:Nat) v,(Za9 X.x)[j]? =some v->W.cell? ⟨z,j,none⟩=some v
 n0:d 8=false->W.ownsRow X.hi 9 1 (.slice X.AN X.nl.length X.cN) X.nl.length (namesE X.nl)
 n1:d 8=true-> ∃g c,u 8= .slice (some ⟨g,0,none⟩) (X.nl.length+1) c/\W.ownsRow X.hi 9 1 (.slice (some ⟨g,0,none⟩) (X.nl.length+1) c) (X.nl.length+1) (namesE X.nl++ [.string ⟨X.nm.toArray⟩])/\(rowB X.AN=some g\/X.W0.heap.size<=g)
 p0:d 15=false->W.ownsRow X.hi 25 5 (.slice X.AP X.l.length X.cP) X.l.length (cellsE X.l)
 p1:d 15=true-> ∃g c,u 15= .slice (some ⟨g,0,none⟩) (X.l.length+1) c/\W.ownsRow X.hi 25 5 (.slice (some ⟨g,0,none⟩) (X.l.length+1) c) (X.l.length+1) (cellsE X.l++Za9 X.x)/\(rowB X.AP=some g\/X.W0.heap.size<=g)/\
  ∀g8 n c8,u 8= .slice (some ⟨g8,0,none⟩) n c8->g8≠g
 c3:W.cell? ⟨X.gm,3,none⟩=some (if d 18=true then u 8 else .slice X.AN X.nl.length X.cN)
 c4:W.cell? ⟨X.gm,4,none⟩=some (if d 21=true then u 15 else .slice X.AP X.l.length X.cP)
 cr: ∀j,j < 3->W.cell? ⟨X.gm,j,none⟩=X.W0.cell? ⟨X.gm,j,none⟩
 fz: ∀j,W.frozen? ⟨X.gm,j,none⟩=false
variable {X : PX} {d : Nat -> Bool} {u : Nat -> Value} {W W' : World}
theorem PI.vals' (h:X.PI d u W) {i:Nat} {v:Value} (hv: ∀v',X.val i=some v'->v=v'): ∀j,also d i j=true-> ∀v',X.val j=some v'->upd u i v j=v':=fun j hj v' hv'=>by
 by_cases hij:j=i
 {subst hij; rw[Z2p]; exact hv v' hv'}
 {rw[Za3 d hij] at hj; rw[Z15 u v hij]; exact h.vals j hj v' hv'}
theorem Good.start (h:X.Good):X.PI (fun _=>false) u X.W0.drew:=
 ⟨nofun,(Upd.refl _ _).drew,nofun,nofun,fun _=>h.rN,nofun,fun _=>h.rP,nofun,h.c3,h.c4,fun _ _=>rfl,h.fz⟩
theorem PI.pure (h:X.PI d u W) {i:Nat} (hi:i≠7/\i≠8/\i≠14/\i≠15/\i≠18/\i≠21) {v:Value} (hv: ∀v',X.val i=some v'->v=v'):X.PI (also d i) (upd u i v) W:=by
 have k: ∀j,j=7\/j=8\/j=14\/j=15\/j=18\/j=21->also d i j=d j/\upd u i v j=u j:=fun j hj=>⟨Za3 d (by omega),Z15 u v (by omega)⟩;refine ⟨h.vals' hv,h.up, ?_, ?_, ?_, ?_, ?_, ?_, ?_, ?_,h.cr,h.fz⟩
 {rw[(k 7 (by omega)).1,(k 7 (by omega)).2]; exact h.f7}
 {rw[(k 14 (by omega)).1,(k 14 (by omega)).2]; exact h.f14}
 {rw[(k 8 (by omega)).1]; exact h.n0}
 {rw[(k 8 (by omega)).1,(k 8 (by omega)).2]; exact h.n1}
 {rw[(k 15 (by omega)).1]; exact h.p0}
 {rw[(k 15 (by omega)).1,(k 15 (by omega)).2,(k 8 (by omega)).2]; exact h.p1}
 {rw[(k 18 (by omega)).1,(k 8 (by omega)).2]; exact h.c3}
 {rw[(k 21 (by omega)).1,(k 15 (by omega)).2]; exact h.c4}
theorem PI.box (h:X.PI d u W) (hX:X.Good):Sh5 W X.pb 0 X.x.1 X.x.2:=
 hX.box.of (fun k=>h.up.cell hX.pw (fun hs=>by
  rcases hs with hs | hs | hs
  {have:=hX.gh; have:=hX.hw; omega}
  {exact hX.bn hs}
  · exact hX.bp hs))
theorem PI.new (h:X.PI d u W) (hX:X.Good) (hb:Below W.heap.size W W'):X.PI d u W':=by
 have hgm:X.gm < W.heap.size:=by have:=hX.gh; have:=hX.hw; have:=hX.pw; have:=h.up.size; omega
 have hu:Upd (fun _=>False) W W':=Upd.new hb;refine ⟨h.vals,h.up.trans (hu.mono (fun _ _ h=>h.elim)),fun h7=> ?_,fun h14=> ?_,fun h8=>Za6 (h.n0 h8) hu (fun _ _ h=>h),fun h8=> ?_,fun h15=>Za6 (h.p0 h15) hu (fun _ _ h=>h),fun h15=> ?_,
  (hu.cell hgm (fun h=>h)).trans h.c3,(hu.cell hgm (fun h=>h)).trans h.c4,fun j hj=>(hu.cell hgm (fun h=>h)).trans (h.cr j hj),fun j=>(hu.frozen hgm (fun h=>h)).trans (h.fz j)⟩
 {obtain ⟨z,e,z1,z2,z3⟩:=h.f7 h7;exact ⟨z,e,z1,Nat.lt_of_lt_of_le z2 hu.size,(hu.cell z2 (fun h=>h)).trans z3⟩}
 {obtain ⟨z,e,z1,z2,z3⟩:=h.f14 h14;exact ⟨z,e,z1,Nat.lt_of_lt_of_le z2 hu.size,fun j v hv=>(hu.cell z2 (fun h=>h)).trans (z3 j v hv)⟩}
 {obtain ⟨g,c,e,r,n⟩:=h.n1 h8;exact ⟨g,c,e,Za6 r hu (fun _ _ h=>h),n⟩}
 {obtain ⟨g,c,e,r,n⟩:=h.p1 h15;exact ⟨g,c,e,Za6 r hu (fun _ _ h=>h),n⟩}
section
variable (h : X.PI d u W) (hX : X.Good)
include h hX
theorem PI.s7:X.PI (also d 7) (upd u 7 (.slice (some ⟨W.heap.size,0,none⟩) 1 1)) (W.alloc (.cells #[.string ⟨X.nm.toArray⟩] 9)):=by
 have hn:=h.new hX (Z01 W (.cells #[.string ⟨X.nm.toArray⟩] 9));have k: ∀j,j≠7->also d 7 j=d j/\ ∀v,upd u 7 v j=u j:=fun j hj=>⟨Za3 d hj,fun v=>Z15 u v hj⟩;have hs:=h.up.size;refine ⟨hn.vals' (fun v' h=>by cases h),hn.up,fun _=>⟨W.heap.size,Z2p _ _ _,hs,by simp,by simp[go_sem]⟩, ?_, ?_, ?_, ?_, ?_, ?_, ?_,hn.cr,hn.fz⟩
 {rw[(k 14 (by omega)).1,(k 14 (by omega)).2]; exact hn.f14}
 {rw[(k 8 (by omega)).1]; exact hn.n0}
 {rw[(k 8 (by omega)).1,(k 8 (by omega)).2]; exact hn.n1}
 {rw[(k 15 (by omega)).1]; exact hn.p0}
 {rw[(k 15 (by omega)).1,(k 15 (by omega)).2,(k 8 (by omega)).2]; exact hn.p1}
 {rw[(k 18 (by omega)).1,(k 8 (by omega)).2]; exact hn.c3}
 {rw[(k 21 (by omega)).1,(k 15 (by omega)).2]; exact hn.c4}
theorem PI.s14:X.PI (also d 14) (upd u 14 (.slice (some ⟨W.heap.size,0,none⟩) 1 1)) (W.alloc (.cells #[.int .i64 X.x.1.kind,.string ⟨X.x.1.of_.toArray⟩,.string ⟨X.x.1.name.toArray⟩,.slice X.x.2.A X.x.1.names.length X.x.2.c,.slice X.x.2.P X.x.1.parts.length X.x.2.d] 25)):=by
 have hn:=h.new hX (Z01 W (.cells #[.int .i64 X.x.1.kind,.string ⟨X.x.1.of_.toArray⟩,.string ⟨X.x.1.name.toArray⟩,.slice X.x.2.A X.x.1.names.length X.x.2.c,.slice X.x.2.P X.x.1.parts.length X.x.2.d] 25));have k: ∀j,j≠14->also d 14 j=d j/\ ∀v,upd u 14 v j=u j:=fun j hj=>⟨Za3 d hj,fun v=>Z15 u v hj⟩;have hs:=h.up.size;refine ⟨hn.vals' (fun v' h=>by cases h),hn.up, ?_,fun _=>⟨W.heap.size,Z2p _ _ _,hs,by simp, ?_⟩, ?_, ?_, ?_, ?_, ?_, ?_,hn.cr,hn.fz⟩
 {rw[(k 7 (by omega)).1,(k 7 (by omega)).2]; exact hn.f7}
 {intro j v hv;rcases j with _ | _ | _ | _ | _ | j
  {simp[Za9] at hv; subst hv; simp[go_sem]}
  {simp[Za9] at hv; subst hv; simp[go_sem]}
  {simp[Za9] at hv; subst hv; simp[go_sem]}
  {simp[Za9] at hv; subst hv; simp[go_sem]}
  {simp[Za9] at hv; subst hv; simp[go_sem]}
  {simp[Za9] at hv}}
 {rw[(k 8 (by omega)).1]; exact hn.n0}
 {rw[(k 8 (by omega)).1,(k 8 (by omega)).2]; exact hn.n1}
 {rw[(k 15 (by omega)).1]; exact hn.p0}
 {rw[(k 15 (by omega)).1,(k 15 (by omega)).2,(k 8 (by omega)).2]; exact hn.p1}
 {rw[(k 18 (by omega)).1,(k 8 (by omega)).2]; exact hn.c3}
 {rw[(k 21 (by omega)).1,(k 15 (by omega)).2]; exact hn.c4}
theorem PI.s8 (h8:d 8=false) (h15:d 15=false) (h18:d 18=false) {g c:Nat} (hown:W'.ownsRow X.hi 9 1 (.slice (some ⟨g,0,none⟩) (X.nl.length+1) c) (X.nl.length+1) (namesE X.nl++ [.string ⟨X.nm.toArray⟩]))
 (hg:W.grownBy W' (rowB X.AN)) (hat:rowB X.AN=some g\/g=W.heap.size):X.PI (also d 8) (upd u 8 (.slice (some ⟨g,0,none⟩) (X.nl.length+1) c)) W':=by
 have k: ∀j,j≠8->also d 8 j=d j/\ ∀v,upd u 8 v j=u j:=fun j hj=>⟨Za3 d hj,fun v=>Z15 u v hj⟩;have hu:Upd (fun b=>rowB X.AN=some b) W W':=(Upd.refl _ W).grown hg (fun k h _=>h);have hgm:X.gm < W.heap.size:=by have:=hX.gh; have:=hX.hw; have:=hX.pw; have:=h.up.size; omega
 have hgN: ¬rowB X.AN=some X.gm:=fun e=>by have:=(Za0 hX.rN _ e).1; have:=hX.gh; omega
 have hnz: ∀z,X.W0.heap.size<=z-> ¬rowB X.AN=some z:=fun z hz e=>by have:=(Za0 hX.rN _ e).2; omega
 have hs:=h.up.size;refine ⟨h.vals' (fun v' h=>by cases h),h.up.trans (hu.mono (fun b _ hb=>Or.inr (Or.inl hb))), ?_, ?_, ?_, ?_, ?_, ?_, ?_, ?_,fun j hj=>(hu.cell hgm hgN).trans (h.cr j hj),fun j=>(hu.frozen hgm hgN).trans (h.fz j)⟩
 {rw[(k 7 (by omega)).1,(k 7 (by omega)).2];intro h7;obtain ⟨z,e,z1,z2,z3⟩:=h.f7 h7;exact ⟨z,e,z1,Nat.lt_of_lt_of_le z2 hu.size,(hu.cell z2 (hnz z z1)).trans z3⟩}
 {rw[(k 14 (by omega)).1,(k 14 (by omega)).2];intro h14;obtain ⟨z,e,z1,z2,z3⟩:=h.f14 h14;exact ⟨z,e,z1,Nat.lt_of_lt_of_le z2 hu.size,fun j v hv=>(hu.cell z2 (hnz z z1)).trans (z3 j v hv)⟩}
 {rw[Zab]; nofun}
 {exact fun _=>⟨g,c,Z2p _ _ _,hown,hat.imp id (fun e=>by omega)⟩}
 {exact fun _=>Za6 (h.p0 h15) hu (fun b hb e=>by
   rcases hX.ne with hne | hne
   {rw[hne] at e; cases e}
   · exact hne (e.trans hb.symm))}
 {rw[(k 15 (by omega)).1,h15]; nofun}
 {rw[(k 18 (by omega)).1,h18];have:=h.c3;rw[h18] at this;exact (hu.cell hgm hgN).trans this}
 {rw[(k 21 (by omega)).1,(k 15 (by omega)).2];exact (hu.cell hgm hgN).trans h.c4}
theorem PI.s15 (h8:d 8=true) (h15:d 15=false) (h18:d 18=false) (h21:d 21=false) {g c:Nat} (hown:W'.ownsRow X.hi 25 5 (.slice (some ⟨g,0,none⟩) (X.l.length+1) c) (X.l.length+1) (cellsE X.l++Za9 X.x))
 (hg:W.grownBy W' (rowB X.AP)) (hat:rowB X.AP=some g\/g=W.heap.size):X.PI (also d 15) (upd u 15 (.slice (some ⟨g,0,none⟩) (X.l.length+1) c)) W':=by
 have k: ∀j,j≠15->also d 15 j=d j/\ ∀v,upd u 15 v j=u j:=fun j hj=>⟨Za3 d hj,fun v=>Z15 u v hj⟩;have hu:Upd (fun b=>rowB X.AP=some b) W W':=(Upd.refl _ W).grown hg (fun k h _=>h);have hgm:X.gm < W.heap.size:=by have:=hX.gh; have:=hX.hw; have:=hX.pw; have:=h.up.size; omega
 have hgN: ¬rowB X.AP=some X.gm:=fun e=>by have:=(Za0 hX.rP _ e).1; have:=hX.gh; omega
 have hnz: ∀z,X.W0.heap.size<=z-> ¬rowB X.AP=some z:=fun z hz e=>by have:=(Za0 hX.rP _ e).2; omega
 have hs:=h.up.size;obtain ⟨g8,c8,e8,r8,n8⟩:=h.n1 h8;have hg8: ¬rowB X.AP=some g8:=fun e=>by
  rcases n8 with n8 | n8
  {rcases hX.ne with hne | hne
   {rw[hne] at n8; cases n8}
   {exact hne (n8.trans e.symm)}}
  {exact hnz g8 n8 e}
 have hg8w:g8 < W.heap.size:=(Za0 r8 g8 rfl).2;refine ⟨h.vals' (fun v' h=>by cases h),h.up.trans (hu.mono (fun b _ hb=>Or.inr (Or.inr hb))), ?_, ?_, ?_, ?_, ?_, ?_, ?_, ?_,fun j hj=>(hu.cell hgm hgN).trans (h.cr j hj),fun j=>(hu.frozen hgm hgN).trans (h.fz j)⟩
 {rw[(k 7 (by omega)).1,(k 7 (by omega)).2];intro h7;obtain ⟨z,e,z1,z2,z3⟩:=h.f7 h7;exact ⟨z,e,z1,Nat.lt_of_lt_of_le z2 hu.size,(hu.cell z2 (hnz z z1)).trans z3⟩}
 {rw[(k 14 (by omega)).1,(k 14 (by omega)).2];intro h14;obtain ⟨z,e,z1,z2,z3⟩:=h.f14 h14;exact ⟨z,e,z1,Nat.lt_of_lt_of_le z2 hu.size,fun j v hv=>(hu.cell z2 (hnz z z1)).trans (z3 j v hv)⟩}
 {rw[(k 8 (by omega)).1,h8]; nofun}
 {rw[(k 8 (by omega)).2];exact fun _=>⟨g8,c8,e8,Za6 r8 hu (fun b hb=>by cases hb; exact hg8),n8⟩}
 {rw[Zab]; nofun}
 {refine fun _=>⟨g,c,Z2p _ _ _,hown,hat.imp id (fun e=>by omega),fun g' n c' e=> ?_⟩;rw[(k 8 (by omega)).2,e8] at e;simp only[Value.slice.injEq,Option.some.injEq,Addr.mk.injEq,and_true] at e;rw[<-e.1];rcases hat with h1 | h1
  {exact fun e=>hg8 (by rw[e]; exact h1)}
  {omega}}
 {rw[(k 18 (by omega)).1,h18];have:=h.c3;rw[h18] at this;exact (hu.cell hgm hgN).trans this}
 {rw[(k 21 (by omega)).1,h21];have:=h.c4;rw[h21] at this;exact (hu.cell hgm hgN).trans this}
end
theorem not_gm (hX:X.Good) {W':World} {g n c e s m:Nat} {xs:List Value} (r:W'.ownsRow X.hi e s (.slice (some ⟨g,0,none⟩) n c) m xs) {b:Nat} (hb:rowB (some ⟨g,0,none⟩)=some b) (he:b=X.gm):False:=by
 have e1:g=b:=by simpa[rowB] using hb
 have h1:=(r.lt g rfl).1;have:=hX.gh;omega
theorem PI.sto (h:X.PI d u W) (hX:X.Good) (h8:d 8=true) (h15:d 15=true) (i f:Nat) (hi:i=18/\f=3\/i=21/\f=4) (hd:d i=false):X.PI (also d i) (upd u i undef) (W.setCell ⟨X.gm,f,none⟩ (if i=18 then u 8 else u 15)):=by
 have k: ∀j,j≠i->also d i j=d j/\ ∀v,upd u i v j=u j:=fun j hj=>⟨Za3 d hj,fun v=>Z15 u v hj⟩;have hgm:X.gm < W.heap.size:=by have:=hX.gh; have:=hX.hw; have:=hX.pw; have:=h.up.size; omega
 obtain ⟨g8,c8,e8,r8,n8⟩:=h.n1 h8;obtain ⟨g15,c15,e15,r15,n15,m15⟩:=h.p1 h15;have hu:Upd (fun b=>b=X.gm) W (W.setCell ⟨X.gm,f,none⟩ (if i=18 then u 8 else u 15)):=Upd.set (Upd.refl (fun b=>b=X.gm) W) ⟨X.gm,f,none⟩ (fun _=>rfl) _;have far: ∀j,j≠f->(W.setCell ⟨X.gm,f,none⟩ (if i=18 then u 8 else u 15)).cell? ⟨X.gm,j,none⟩=W.cell? ⟨X.gm,j,none⟩:=fun j hj=>World.cell?_setCell_other _ _ _ _ (fun e=>by have:=congrArg Addr.off e; simp at this; omega);have hz: ∀z,X.W0.heap.size<=z-> ¬z=X.gm:=fun z hz e=>by have:=hX.gh; have:=hX.hw; have:=hX.pw; omega
 refine ⟨h.vals' (fun v' h=>by rcases hi with ⟨rfl,_⟩ | ⟨rfl,_⟩ <;> cases h),h.up.trans (hu.mono (fun b _ hb=>Or.inl hb)), ?_, ?_, ?_, ?_, ?_, ?_, ?_, ?_,fun j hj=>(far j (by omega)).trans (h.cr j hj),fun j=>(World.frozen?_setCell ..).trans (h.fz j)⟩
 {rw[(k 7 (by omega)).1,(k 7 (by omega)).2];intro h7;obtain ⟨z,e,z1,z2,z3⟩:=h.f7 h7;exact ⟨z,e,z1,Nat.lt_of_lt_of_le z2 hu.size,(hu.cell z2 (hz z z1)).trans z3⟩}
 {rw[(k 14 (by omega)).1,(k 14 (by omega)).2];intro h14;obtain ⟨z,e,z1,z2,z3⟩:=h.f14 h14;exact ⟨z,e,z1,Nat.lt_of_lt_of_le z2 hu.size,fun j v hv=>(hu.cell z2 (hz z z1)).trans (z3 j v hv)⟩}
 {rw[(k 8 (by omega)).1,h8]; nofun}
 {rw[(k 8 (by omega)).2];exact fun _=>⟨g8,c8,e8,Za6 r8 hu (fun b hb e=>not_gm hX r8 hb e),n8⟩}
 {rw[(k 15 (by omega)).1,h15]; nofun}
 {rw[(k 15 (by omega)).2,(k 8 (by omega)).2];exact fun _=>⟨g15,c15,e15,Za6 r15 hu (fun b hb e=>not_gm hX r15 hb e),n15,m15⟩}
 {rw[(k 8 (by omega)).2];rcases hi with ⟨rfl,rfl⟩ | ⟨rfl,rfl⟩
  {rw[Zab,if_pos rfl,if_pos rfl];exact World.cell?_setCell_same _ _ _ h.c3}
  {rw[(k 18 (by omega)).1];exact (far 3 (by omega)).trans h.c3}}
 {rw[(k 15 (by omega)).2];rcases hi with ⟨rfl,rfl⟩ | ⟨rfl,rfl⟩
  {rw[(k 21 (by omega)).1];exact (far 4 (by omega)).trans h.c4}
  {rw[Zab,if_pos rfl,if_neg (by omega)];exact World.cell?_setCell_same _ _ _ h.c4}}
end PX
end SubM
end Go.Proofs.YthajhofgjhfjeaaDoor
namespace Go.Proofs.YthajhofgjhfjeaaDoor
open Go.RowKit Shp Sub
namespace SubM
theorem Za2 {ops:Array Oper} {d:Nat->Bool} (hs:Shutd ops d) {k m:Nat} {o:Oper} (ho:ops[k]? =some o) (hw:waits o m=true) (hm:d m=false):d k=false:=by
 cases h:d k with
 | false=>rfl
 | true=>rw[hs k o ho h m hw] at hm; cases hm
def PutOk (W:World) (gm:Nat) (AN AP:Option Addr) (AN' AP':Option Addr) (W':World):Prop:=
 Upd (fun b=>b=gm\/rowB AN=some b\/rowB AP=some b) W W'/\(∀b,rowB AN'=some b->rowB AN=some b\/W.heap.size<=b)/\(∀b,rowB AP'=some b->rowB AP=some b\/W.heap.size<=b)
theorem Zbb (w0:World) (gm hi:Nat) (k:Int) (o nmm:List UInt8) (nl:List (List UInt8)) (l:List El) (AN:Option Addr) (cN:Nat) (AP:Option Addr) (cP:Nat) (nm:List UInt8) (t:Sh) (q:Ptr) (W0:World)
 (h:Mk w0 gm hi k o nmm nl l AN cN AP cP W0) (ln:nl.length<=1000) (ll:l.length<=1000):
 Calls Tryd.prog 68 #[.pointer (some ⟨gm,0,none⟩),.string ⟨nm.toArray⟩,sv t q] W0 fun e W'=>e= .returned (.tuple #[])/\
  ∃AN' cN' AP' cP',Mk w0 gm hi k o nmm (nl++ [nm]) (l++ [(t,q)]) AN' cN' AP' cP' W'/\PutOk W0 gm AN AP AN' AP' W':=by
 obtain ⟨i0,hif0,hz0,hs0,hb0⟩:=ZaP Zbl;obtain ⟨i1,hif1,hz1,hs1,hb1⟩:=ZaP Zc8;have hbw:=Z01 W0 (.cells (Y8 t q) 25);have hB:=Z03 W0 t q;obtain ⟨w1,hw1⟩: ∃w1,w1=W0.alloc (.cells (Y8 t q) 25):=⟨_,rfl⟩;rw[<-hw1] at hbw hB;have hw1':=hw1.symm;obtain ⟨pb,hpb⟩: ∃pb,pb=W0.heap.size:=⟨_,rfl⟩;have hM:=h.new hbw;obtain ⟨X,hXe⟩: ∃X:PX,X=⟨w1,gm,hi,pb,AN,cN,AP,cP,nl,l,nm,(t,q)⟩:=⟨_,rfl⟩;have hX:X.Good:=by
  rw[hXe];exact ⟨h.gh,by rw[hpb]; exact h.hw,by rw[hpb]; exact hB.1,hM.c3,hM.c4,hM.fz,hM.rN,hM.rP,hM.ne,fun e=>by have:=(Za0 h.rN pb e).2; omega,fun e=>by have:=(Za0 h.rP pb e).2; omega,by rw[hpb]; exact hB.2.1,ln,ll⟩
 have HX:=Y1 hX;have HM:=Y1 hM;have H0:=Y1 h;have HBW:=Y1 hbw;have HPB:=Y1 hpb;subst hXe;clear hw1 hbw hB hM hX h hpb;unfold sv;go_enter Tryd.func68,Tryd.ntmps68
 go_wp2_with fail
 rw[<-HPB.out];refine ZaO (rs:= [0,1,2,3,4,5,6,7,8,9,10,11,12,13,14,15,16,17,18,19,20,21])
  (fun u=> { tmps:=#[.pointer (some ⟨gm,0,none⟩),.string ⟨nm.toArray⟩,.agg (Y8 t q),undef,undef,.pointer (some ⟨pb,0,none⟩),u 0,u 1,u 2,u 3,u 4,u 5,u 6,u 7,u 8,u 9,u 10,u 11,u 12,u 13,u 14,u 15,u 16,u 17,u 19,u 20],defers:= [] })
  (fun j=>undef) (PX.PI ⟨w1,gm,hi,pb,AN,cN,AP,cP,nl,l,nm,(t,q)⟩) (by kernel_rfl) (by kernel_rfl) (by kernel_rfl) HX.out.start ?_ ?_
 refine StepsInv.cons2 _ rfl (fun d u W K' hs hI hd hw hK=> ?_) ?_
 {refine Z02 (v:= .pointer (some ⟨gm,0,none⟩)) (W':=W) rfl ?_ (hK.out _ _ (hI.pure (by decide) (fun v' h=>by cases h; rfl)));go_simp}
 refine StepsInv.cons2 _ rfl (fun d u W K' hs hI hd hw hK=> ?_) ?_
 {refine Z02 (v:= .pointer (some ⟨gm,0,none⟩)) (W':=W) rfl ?_ (hK.out _ _ (hI.pure (by decide) (fun v' h=>by cases h; rfl)));go_simp}
 refine StepsInv.cons2 _ rfl (fun d u W K' hs hI hd hw hK=> ?_) ?_
 {refine Z02 (v:= .pointer (some ⟨gm,0,none⟩)) (W':=W) rfl ?_ (hK.out _ _ (hI.pure (by decide) (fun v' h=>by cases h; rfl)));go_simp}
 refine StepsInv.cons2 _ rfl (fun d u W K' hs hI hd hw hK=> ?_) ?_
 {have d2:u 2= .pointer (some ⟨gm,0,none⟩):=hI.vals 2 (hw 2 (by kernel_rfl)) _ rfl;refine Z02 (v:= .pointer (some ⟨gm,0,none⟩)) (W':=W) rfl ?_ (hK.out _ _ (hI.pure (by decide) (fun v' h=>by cases h; rfl)));go_simp}
 refine StepsInv.cons2 _ rfl (fun d u W K' hs hI hd hw hK=> ?_) ?_
 {have d3:u 3= .pointer (some ⟨gm,0,none⟩):=hI.vals 3 (hw 3 (by kernel_rfl)) _ rfl;refine Z02 (v:= .pointer (some ⟨gm,3,none⟩)) (W':=W) rfl ?_ (hK.out _ _ (hI.pure (by decide) (fun v' h=>by cases h; rfl)));go_simp}
 refine StepsInv.cons2 _ rfl (fun d u W K' hs hI hd hw hK=> ?_) ?_
 {have d4:u 4= .pointer (some ⟨gm,3,none⟩):=hI.vals 4 (hw 4 (by kernel_rfl)) _ rfl;have h18:d 18=false:=Za2 hs rfl (by kernel_rfl) hd;have c3:=hI.c3;rw[h18] at c3;simp only[Bool.false_eq_true,if_false] at c3;change W.cell? ⟨gm,3,none⟩=_ at c3;refine Z02 (v:= .slice AN nl.length cN) (W':=W) rfl ?_ (hK.out _ _ (hI.pure (by decide) (fun v' h=>by cases h; rfl)));go_simp}
 refine StepsInv.cons2 _ rfl (fun d u W K' hs hI hd hw hK=> ?_) ?_
 {refine Z02 (v:= .string ⟨nm.toArray⟩) (W':=W) rfl ?_ (hK.out _ _ (hI.pure (by decide) (fun v' h=>by cases h; rfl)));go_simp}
 refine StepsInv.cons2 _ rfl (fun d u W K' hs hI hd hw hK=> ?_) ?_
 {have d6:u 6= .string ⟨nm.toArray⟩:=hI.vals 6 (hw 6 (by kernel_rfl)) _ rfl;refine Z02 (v:= .slice (some ⟨W.heap.size,0,none⟩) 1 1) (W':=W.alloc (.cells #[.string ⟨nm.toArray⟩] 9)) rfl ?_ (hK.out _ _ (hI.s7 HX.out));go_simp}
 refine StepsInv.cons2 _ rfl (fun d u W K' hs hI hd hw hK=> ?_) ?_
 {have d5:u 5= .slice AN nl.length cN:=hI.vals 5 (hw 5 (by kernel_rfl)) _ rfl;obtain ⟨z,d7,z1,z2,z3⟩:=hI.f7 (hw 7 (by kernel_rfl));have h15:d 15=false:=Za2 hs rfl (by kernel_rfl) hd;have h18:d 18=false:=Za2 hs rfl (by kernel_rfl) hd;have hln:=HX.out.ln;have hsz:=hI.up.size;have hpw:=HX.out.pw;have hhw:=HX.out.hw;refine step_append_lies W rfl _ _ 22 rfl hi 9 i1 (.string ByteArray.empty) 1 16 Tryd.underlying22 hif1 hz1 hs1 hb1 rfl (by decide) _ _ _ (by show u 5=_; exact d5) (hI.n0 hd) ⟨z,0,none⟩ 1 1 [.string ⟨nm.toArray⟩] (by show u 7=_; exact d7) rfl (fun j v hv=>by
   rcases j with _ | j
   {rw[Z1z,z3]; simpa using hv}
   · simp at hv) (by intro v hv; simp at hv; subst hv; rfl) (by decide) (by show nl.length+1<=maxLen; unfold maxLen; change nl.length<=1000 at hln; omega) (by show (nl.length+1) * 16<=140737488355328; change nl.length<=1000 at hln; omega) (by change hi<=pb at hhw; change pb < w1.heap.size at hpw; change w1.heap.size<=_ at hsz; omega) _ rfl ?_
  intro g cp W' hown hg hat hlt;rw[Zau] at hg hat;exact hK.out _ _ (hI.s8 HX.out hd h15 h18 hown hg hat)}
 refine StepsInv.cons2 _ rfl (fun d u W K' hs hI hd hw hK=> ?_) ?_
 {refine Z02 (v:= .pointer (some ⟨gm,0,none⟩)) (W':=W) rfl ?_ (hK.out _ _ (hI.pure (by decide) (fun v' h=>by cases h; rfl)));go_simp}
 refine StepsInv.cons2 _ rfl (fun d u W K' hs hI hd hw hK=> ?_) ?_
 {have d9:u 9= .pointer (some ⟨gm,0,none⟩):=hI.vals 9 (hw 9 (by kernel_rfl)) _ rfl;refine Z02 (v:= .pointer (some ⟨gm,0,none⟩)) (W':=W) rfl ?_ (hK.out _ _ (hI.pure (by decide) (fun v' h=>by cases h; rfl)));go_simp}
 refine StepsInv.cons2 _ rfl (fun d u W K' hs hI hd hw hK=> ?_) ?_
 {have d10:u 10= .pointer (some ⟨gm,0,none⟩):=hI.vals 10 (hw 10 (by kernel_rfl)) _ rfl;refine Z02 (v:= .pointer (some ⟨gm,4,none⟩)) (W':=W) rfl ?_ (hK.out _ _ (hI.pure (by decide) (fun v' h=>by cases h; rfl)));go_simp}
 refine StepsInv.cons2 _ rfl (fun d u W K' hs hI hd hw hK=> ?_) ?_
 {have d11:u 11= .pointer (some ⟨gm,4,none⟩):=hI.vals 11 (hw 11 (by kernel_rfl)) _ rfl;have h21:d 21=false:=Za2 hs rfl (by kernel_rfl) hd;have c4:=hI.c4;rw[h21] at c4;simp only[Bool.false_eq_true,if_false] at c4;change W.cell? ⟨gm,4,none⟩=_ at c4;refine Z02 (v:= .slice AP l.length cP) (W':=W) rfl ?_ (hK.out _ _ (hI.pure (by decide) (fun v' h=>by cases h; rfl)));go_simp}
 refine StepsInv.cons2 _ rfl (fun d u W K' hs hI hd hw hK=> ?_) ?_
 {obtain ⟨b0,b1,b2,b3,b4⟩:=hI.box HX.out;simp only[Nat.zero_add] at b0 b1 b2 b3 b4;change W.cell? ⟨pb,0,none⟩=some (.int .i64 t.kind) at b0;change W.cell? ⟨pb,1,none⟩=some (.string ⟨t.of_.toArray⟩) at b1;change W.cell? ⟨pb,2,none⟩=some (.string ⟨t.name.toArray⟩) at b2;change W.cell? ⟨pb,3,none⟩=some (.slice q.A t.names.length q.c) at b3;change W.cell? ⟨pb,4,none⟩=some (.slice q.P t.parts.length q.d) at b4;refine Z02 (v:= .agg (Y8 t q)) (W':=W) rfl ?_ (hK.out _ _ (hI.pure (by decide) (fun v' h=>by cases h; rfl)));go_simp}
 refine StepsInv.cons2 _ rfl (fun d u W K' hs hI hd hw hK=> ?_) ?_
 {have d13:u 13= .agg (Y8 t q):=hI.vals 13 (hw 13 (by kernel_rfl)) _ rfl;refine Z02 (v:= .slice (some ⟨W.heap.size,0,none⟩) 1 1) (W':=W.alloc (.cells (Y8 t q) 25)) rfl ?_ (hK.out _ _ (hI.s14 HX.out));go_simp}
 refine StepsInv.cons2 _ rfl (fun d u W K' hs hI hd hw hK=> ?_) ?_
 {have d12:u 12= .slice AP l.length cP:=hI.vals 12 (hw 12 (by kernel_rfl)) _ rfl;obtain ⟨z,d14,z1,z2,z3⟩:=hI.f14 (hw 14 (by kernel_rfl));have h18:d 18=false:=Za2 hs rfl (by kernel_rfl) hd;have h21:d 21=false:=Za2 hs rfl (by kernel_rfl) hd;have hll:=HX.out.ll;have hsz:=hI.up.size;have hpw:=HX.out.pw;have hhw:=HX.out.hw;refine step_append_lies W rfl _ _ 23 rfl hi 25 i0 (.agg #[.int .i64 0,.string ByteArray.empty,.string ByteArray.empty,.slice none 0 0,.slice none 0 0]) 5 88 Tryd.underlying23 hif0 hz0 hs0 hb0 rfl (by decide) _ _ _ (by show u 12=_; exact d12) (hI.p0 hd) ⟨z,0,none⟩ 1 1 (Za9 (t,q)) (by show u 14=_; exact d14) rfl (fun j v hv=>by rw[Z1z,Nat.zero_add]; exact z3 j v hv) (Zbh _) (by decide) (by show l.length+1<=maxLen; unfold maxLen; change l.length<=1000 at hll; omega) (by show (l.length+1) * 88<=140737488355328; change l.length<=1000 at hll; omega) (by change hi<=pb at hhw; change pb < w1.heap.size at hpw; change w1.heap.size<=_ at hsz; omega) _ rfl ?_;intro g cp W' hown hg hat hlt;rw[Zau] at hg hat;exact hK.out _ _ (hI.s15 HX.out (hw 8 (by kernel_rfl)) hd h18 h21 hown hg hat)}
 refine StepsInv.cons2 _ rfl (fun d u W K' hs hI hd hw hK=> ?_) ?_
 {have d0:u 0= .pointer (some ⟨gm,0,none⟩):=hI.vals 0 (hw 0 (by kernel_rfl)) _ rfl;refine Z02 (v:= .pointer (some ⟨gm,0,none⟩)) (W':=W) rfl ?_ (hK.out _ _ (hI.pure (by decide) (fun v' h=>by cases h; rfl)));go_simp}
 refine StepsInv.cons2 _ rfl (fun d u W K' hs hI hd hw hK=> ?_) ?_
 {have d16:u 16= .pointer (some ⟨gm,0,none⟩):=hI.vals 16 (hw 16 (by kernel_rfl)) _ rfl;refine Z02 (v:= .pointer (some ⟨gm,3,none⟩)) (W':=W) rfl ?_ (hK.out _ _ (hI.pure (by decide) (fun v' h=>by cases h; rfl)));go_simp}
 refine StepsInv.cons2 _ rfl (fun d u W K' hs hI hd hw hK=> ?_) ?_
 {have d17:u 17= .pointer (some ⟨gm,3,none⟩):=hI.vals 17 (hw 17 (by kernel_rfl)) _ rfl;have w8:=hw 8 (by kernel_rfl);have w15:=hw 15 (by kernel_rfl);obtain ⟨g,c,e,_⟩:=hI.n1 w8;change u 8= .slice (some ⟨g,0,none⟩) (nl.length+1) c at e;have hst:=hI.sto HX.out w8 w15 18 3 (by decide) hd;have cc:=hI.c3;rw[hd] at cc;simp only[Bool.false_eq_true,if_false] at cc;change W.cell? ⟨gm,3,none⟩=_ at cc;have hfz:=hI.fz 3;change W.frozen? ⟨gm,3,none⟩=_ at hfz;rw[if_pos rfl,e] at hst;change PX.PI _ _ _ (W.setCell ⟨gm,3,none⟩ _) at hst;refine Z8i (W':=W.setCell ⟨gm,3,none⟩ (.slice (some ⟨g,0,none⟩) (nl.length+1) c)) rfl ?_ (hK.out undef _ hst);go_simp}
 refine StepsInv.cons2 _ rfl (fun d u W K' hs hI hd hw hK=> ?_) ?_
 {have d1:u 1= .pointer (some ⟨gm,0,none⟩):=hI.vals 1 (hw 1 (by kernel_rfl)) _ rfl;refine Z02 (v:= .pointer (some ⟨gm,0,none⟩)) (W':=W) rfl ?_ (hK.out _ _ (hI.pure (by decide) (fun v' h=>by cases h; rfl)));go_simp}
 refine StepsInv.cons2 _ rfl (fun d u W K' hs hI hd hw hK=> ?_) ?_
 {have d19:u 19= .pointer (some ⟨gm,0,none⟩):=hI.vals 19 (hw 19 (by kernel_rfl)) _ rfl;refine Z02 (v:= .pointer (some ⟨gm,4,none⟩)) (W':=W) rfl ?_ (hK.out _ _ (hI.pure (by decide) (fun v' h=>by cases h; rfl)));go_simp}
 refine StepsInv.cons2 _ rfl (fun d u W K' hs hI hd hw hK=> ?_) StepsInv.nil
 {have d20:u 20= .pointer (some ⟨gm,4,none⟩):=hI.vals 20 (hw 20 (by kernel_rfl)) _ rfl;have w8:=hw 8 (by kernel_rfl);have w15:=hw 15 (by kernel_rfl);obtain ⟨g,c,e,_⟩:=hI.p1 w15;change u 15= .slice (some ⟨g,0,none⟩) (l.length+1) c at e;have hst:=hI.sto HX.out w8 w15 21 4 (by decide) hd;have cc:=hI.c4;rw[hd] at cc;simp only[Bool.false_eq_true,if_false] at cc;change W.cell? ⟨gm,4,none⟩=_ at cc;have hfz:=hI.fz 4;change W.frozen? ⟨gm,4,none⟩=_ at hfz;rw[if_neg (by decide),e] at hst;change PX.PI _ _ _ (W.setCell ⟨gm,4,none⟩ _) at hst;refine Z8i (W':=W.setCell ⟨gm,4,none⟩ (.slice (some ⟨g,0,none⟩) (l.length+1) c)) rfl ?_ (hK.out undef _ hst);go_simp}
 {intro d u W hI hd;have h8:=hd 8 (by show 8 < 22; omega);have h15:=hd 15 (by show 15 < 22; omega);have c3:=hI.c3;have c4:=hI.c4;rw[hd 18 (by show 18 < 22; omega)] at c3;rw[hd 21 (by show 21 < 22; omega)] at c4;obtain ⟨g,c,e,r,n⟩:=hI.n1 h8;obtain ⟨g',c',e',r',n',m'⟩:=hI.p1 h15;have hu:=hI.up;have hcr:=hI.cr;have hfz:=hI.fz;simp only[if_true] at c3 c4;rw[e] at c3;rw[e'] at c4;have hgg:=m' g _ _ e;change rowB AN=some g\/w1.heap.size<=g at n;change rowB AP=some g'\/w1.heap.size<=g' at n';have HFIN:Hid (Mk w0 gm hi k o nmm (nl++ [nm]) (l++ [(t,q)]) (some ⟨g,0,none⟩) c (some ⟨g',0,none⟩) c' W/\PutOk W0 gm AN AP (some ⟨g,0,none⟩) (some ⟨g',0,none⟩) W):=Y1 (by
   have hz:=HBW.out.size;have hm:=HM.out;have hrl: ∀b,(b=gm\/rowB AN=some b\/rowB AP=some b)->w0.heap.size<=b:=fun b hb=>by
    rcases hb with rfl | hb | hb
    {exact hm.lo}
    {have:=(Za0 hm.rN b hb).1; have:=hm.lo; have:=hm.gh; omega}
    {have:=(Za0 hm.rP b hb).1; have:=hm.lo; have:=hm.gh; omega}
   refine ⟨⟨hm.up.trans (hu.below hm.up.size hrl),hm.lo,hm.gh,Nat.le_trans hm.hw hu.size,(hcr 0 (by omega)).trans hm.c0,(hcr 1 (by omega)).trans hm.c1,(hcr 2 (by omega)).trans hm.c2, ?_, ?_,hfz, ?_, ?_,Or.inr (fun e=>hgg (by simpa[rowB] using e))⟩,⟨?_, ?_, ?_⟩⟩
   {rw[List.length_append]; exact c3}
   {rw[List.length_append]; exact c4}
   {rw[List.length_append,ZaX]; exact r}
   {rw[List.length_append,Zaf,Zan]; exact r'}
   {exact (Upd.new HBW.out).trans hu}
   {intro b hb;obtain rfl:g=b:=by simpa[rowB] using hb
    exact n.imp id (fun h=>by omega)}
   · intro b hb
     obtain rfl:g'=b:=by simpa[rowB] using hb
     exact n'.imp id (fun h=>by omega))
  clear hI hd h8 h15 c3 c4 e r n e' r' n' m' hu hcr hfz hgg;go_wp2;refine bodyPost_end (v:= .tuple #[]) (by simp[results,Tryd.results68,go_sem]) rfl ?_;exact ⟨rfl,_,_,_,_,HFIN.out⟩}
end SubM
end Go.Proofs.YthajhofgjhfjeaaDoor
namespace Go.Proofs.YthajhofgjhfjeaaDoor
open Go.RowKit Shp Sub
namespace SubM
structure TakesP (n0 N:Nat) (a b:Sh) (fn:Nat) (cs:List Value) (step:Nat->Bool) (K:Bool->Nat->World->Prop):Prop where
 keep: ∀ok k W W',K ok k W->Upd (fun x=>N<=x/\x < N+2) W W'->K ok k W'
 call: ∀k (hk:k < a.parts.length) (hk2:k < b.parts.length) W (x y:Ptr),N+2<=W.heap.size->K true k W->ShAt W n0 x (a.parts[k]'hk)->ShAt W n0 y (b.parts[k]'hk2)->
  Calls Tryd.prog fn (sv (a.parts[k]'hk) x::sv (b.parts[k]'hk2) y:: .bool (decide (k+1=a.parts.length))::cs).toArray W fun e W'=>e= .returned (.bool (step k))/\K (step k) (k+1) W'/\Upd (fun x=>n0<=x/\ ¬(N<=x/\x < N+2)) W W'
structure P2 (n0 N:Nat) (a b:Sh) (pa pb:Ptr) (w:World) (K:Bool->Nat->World->Prop) (k:Nat) (W:World):Prop where
 ba:Box5 W N a pa
 bb:Box5 W (N+1) b pb
 up:Upd (fun x=>n0<=x) w W
 sz:N+2<=W.heap.size
 k:K true k W
section
variable {n0 : Nat} {a b : Sh} {pa pb : Ptr} {w : World} {K : Bool -> Nat -> World -> Prop} {k : Nat} {W W' : World} {fn : Nat} {cs : List Value} {step : Nat -> Bool}
theorem P2.upd (h:P2 n0 w.heap.size a b pa pb w K k W) (hn:n0<=w.heap.size) (hu:Upd (fun x=>n0<=x/\ ¬(w.heap.size<=x/\x < w.heap.size+2)) W W') {k':Nat} (hk:K true k' W'):P2 n0 w.heap.size a b pa pb w K k' W':=
 ⟨Zal h.ba hu (by omega),Zal h.bb hu (by omega),h.up.trans (hu.mono (fun x _ hx=>hx.1)),Nat.le_trans h.sz hu.size,hk⟩
theorem P2.new (h:P2 n0 w.heap.size a b pa pb w K k W) (hT:TakesP n0 w.heap.size a b fn cs step K) (hn:n0<=w.heap.size) (hb:Below W.heap.size W W'):P2 n0 w.heap.size a b pa pb w K k W':=
 h.upd hn (Upd.new hb) (hT.keep _ _ _ _ h.k (Upd.new hb))
end
def headEq (a b:Sh):Bool:=decide (a.of_=b.of_/\a.name=b.name/\a.parts.length=b.parts.length)
theorem ZaQ (a b:Sh) (pa pb:Ptr) (n0:Nat) (w:World) (ha:ShAt w n0 pa a) (hb:ShAt w n0 pb b) (hn:n0<=w.heap.size) (la:a.parts.length<=1000)
 (fn:Nat) (hen: ∀args W,(callFunc fn args).run Tryd.prog W= .ok (.enter fn args) W) (cs:List Value) (step:Nat->Bool) (K:Bool->Nat->World->Prop)
 (hT:TakesP n0 w.heap.size a b fn cs step K) (h0:K true 0 w):
 Calls Tryd.prog 36 #[sv a pa,sv b pb,.func (.func fn) #[] cs.toArray] w fun e w'=>e= .returned (.bool (headEq a b&&(List.range a.parts.length).all step))/\
  (∃D,K (!headEq a b||(List.range a.parts.length).all step) D w'/\((headEq a b&&(List.range a.parts.length).all step)=true->D=a.parts.length))/\Upd (fun x=>n0<=x) w w':=by
 obtain ⟨Aa,ca,Pa,da⟩:=pa;obtain ⟨Ab,cb,Pb,db⟩:=pb;have hb1:=Z01 w (.cells #[.int .i64 a.kind,.string ⟨a.of_.toArray⟩,.string ⟨a.name.toArray⟩,.slice Aa a.names.length ca,.slice Pa a.parts.length da] 25);obtain ⟨w1,hw1⟩: ∃w1,w1=w.alloc (.cells #[.int .i64 a.kind,.string ⟨a.of_.toArray⟩,.string ⟨a.name.toArray⟩,.slice Aa a.names.length ca,.slice Pa a.parts.length da] 25):=⟨_,rfl⟩;have hb2:=Z01 w1 (.cells #[.int .i64 b.kind,.string ⟨b.of_.toArray⟩,.string ⟨b.name.toArray⟩,.slice Ab b.names.length cb,.slice Pb b.parts.length db] 25);obtain ⟨w2,hw2⟩: ∃w2,w2=w1.alloc (.cells #[.int .i64 b.kind,.string ⟨b.of_.toArray⟩,.string ⟨b.name.toArray⟩,.slice Ab b.names.length cb,.slice Pb b.parts.length db] 25):=⟨_,rfl⟩;have hs1:w1.heap.size=w.heap.size+1:=by rw[hw1]; simp
 have hs2:w2.heap.size=w.heap.size+2:=by rw[hw2]; simp[hs1]
 rw[<-hw1] at hb1;rw[<-hw2] at hb2;have hB1:Box5 w1 w.heap.size a ⟨Aa,ca,Pa,da⟩:=by rw[hw1]; exact Z03 w a ⟨Aa,ca,Pa,da⟩
 have hB2:Box5 w2 w1.heap.size b ⟨Ab,cb,Pb,db⟩:=by rw[hw2]; exact Z03 w1 b ⟨Ab,cb,Pb,db⟩
 have hBA:=hB1.next hb2;rw[hs1] at hB2;have hU:Upd (fun x=>w.heap.size<=x/\x < w.heap.size+2) w w2:=Upd.new (Z00 hb1 hb2);have hP2:P2 n0 w.heap.size a b ⟨Aa,ca,Pa,da⟩ ⟨Ab,cb,Pb,db⟩ w K 0 w2:=⟨hBA,hB2,hU.mono (fun x _ h=>by omega),by omega,hT.keep _ _ _ _ h0 hU⟩;have HP2:=Y1 hP2;have HSA:=Y1 ha;have HSB:=Y1 hb;have HN:=Y1 hn;have HLA:=Y1 la;have HT:=Y1 hT;have ns:=ha.small;have nt:=hb.small;have o1:=ns.o;have o2:=ns.n;have o3:=nt.o;have o4:=nt.n;obtain ⟨_,⟨a0,a1,a2,a3,a4⟩,_⟩:=hBA;obtain ⟨_,⟨b0,b1,b2,b3,b4⟩,_⟩:=hB2;simp only[Nat.zero_add] at a0 a1 a2 a3 a4 b0 b1 b2 b3 b4;have hw1':=hw1.symm;have hw2':=hw2.symm;clear hw1 hw2 hb1 hb2 hB1 hP2 hU ha hb hn la hT h0 ns nt;unfold sv
 try dsimp only
 cases hh:headEq a b with
 | false=>
  have HF:Hid ((∃D,K (!false||(List.range a.parts.length).all step) D w2/\((false&&(List.range a.parts.length).all step)=true->D=a.parts.length))/\Upd (fun x=>n0<=x) w w2):=Y1 ⟨⟨0,HP2.out.k,nofun⟩,HP2.out.up⟩;clear HP2 HSA HSB HN HLA HT;have hh': ¬(a.of_=b.of_/\a.name=b.name/\a.parts.length=b.parts.length):=of_decide_eq_false hh;clear hh;by_cases e1:a.of_=b.of_
  {by_cases e2:a.name=b.name
   {have e3:a.parts.length≠b.parts.length:=fun e=>hh' ⟨e1,e2,e⟩;have n1: (a.of_ !=b.of_)=false:=by rw[e1]; simp
    have m1: (a.of_==b.of_)=true:=by rw[e1]; simp
    have n2: (a.name !=b.name)=false:=by rw[e2]; simp
    have m2: (a.name==b.name)=true:=by rw[e2]; simp
    have n3: ((a.parts.length:Int) !=(b.parts.length:Int))=true:=by simp; omega
    have m3: ((a.parts.length:Int)==(b.parts.length:Int))=false:=by simp; omega
    clear e1 e2 e3 hh';go_enter Tryd.func36,Tryd.ntmps36;go_wp2;go_ret;exact ⟨rfl,HF.out⟩}
   {have n1: (a.of_ !=b.of_)=false:=by rw[e1]; simp
    have m1: (a.of_==b.of_)=true:=by rw[e1]; simp
    have n2: (a.name !=b.name)=true:=by simpa using e2
    have m2: (a.name==b.name)=false:=by simpa using e2
    clear e1 e2 hh';go_enter Tryd.func36,Tryd.ntmps36;go_wp2;go_ret;exact ⟨rfl,HF.out⟩}}
  {have n1: (a.of_ !=b.of_)=true:=by simpa using e1
   have m1: (a.of_==b.of_)=false:=by simpa using e1
   clear e1 hh';go_enter Tryd.func36,Tryd.ntmps36;go_wp2;go_ret;exact ⟨rfl,HF.out⟩}
 | true=>
  obtain ⟨e1,e2,e3⟩:a.of_=b.of_/\a.name=b.name/\a.parts.length=b.parts.length:=of_decide_eq_true hh;have HE3:=Y1 e3;have n1: (a.of_ !=b.of_)=false:=by rw[e1]; simp
  have m1: (a.of_==b.of_)=true:=by rw[e1]; simp
  have n2: (a.name !=b.name)=false:=by rw[e2]; simp
  have m2: (a.name==b.name)=true:=by rw[e2]; simp
  have n3: ((a.parts.length:Int) !=(b.parts.length:Int))=false:=by rw[e3]; simp
  have m3: ((a.parts.length:Int)==(b.parts.length:Int))=true:=by rw[e3]; simp
  simp only[Bool.true_and,Bool.not_true,Bool.false_or];clear e1 e2 e3 hh;obtain ⟨st,hst⟩: ∃st,st=(List.range a.parts.length).all step:=⟨_,rfl⟩;have HST:=Y1 hst;rw[<-hst];clear hst;go_enter Tryd.func36,Tryd.ntmps36
  go_wp2_with fail
  go_loopw [33] (fun ii wr=> ∃k:Nat,k<=a.parts.length/\ii= .int .i64 (k:Int)/\Hid ((List.range k).all step=true)/\Hid (P2 n0 w.heap.size a b ⟨Aa,ca,Pa,da⟩ ⟨Ab,cb,Pb,db⟩ w K k wr)) (fun i _=>a.parts.length - (intOf i).toNat)
  case atStart=>exact ⟨0,Nat.zero_le _,rfl,Y1 (by simp),HP2⟩
  case round=>
   obtain ⟨k,hk,rfl,HSS,HP⟩:=hrel;have hla:=HLA.out;clear a0 a1 a2 a3 a4 b0 b1 b2 b3 b4 n1 n2 n3 m1 m2 m3 o1 o2 o3 o4;by_cases hlt:k < a.parts.length
   {have hi1: (k:Int) < (a.parts.length:Int):=by omega
    have hk2:k < b.parts.length:=by rw[<-HE3.out]; exact hlt
    have hi2: (k:Int) < (b.parts.length:Int):=by omega
    have hn0:=HN.out;have hpa:=ZaS (Za8 HSA.out hn0 HP.out.up (fun x hx hs=>by omega));have hpb:=ZaS (Za8 HSB.out hn0 HP.out.up (fun x hx hs=>by omega));obtain ⟨ga,oa,ra,hpa⟩:=hpa;obtain ⟨gb,ob,rb,hpb⟩:=hpb;rcases hpa with h | ⟨rfl,hga,h5a⟩
    {omega}
    rcases hpb with h | ⟨rfl,hgb,h5b⟩
    {omega}
    obtain ⟨p,hp⟩: ∃p,p=a.parts[k]'hlt:=⟨_,rfl⟩;obtain ⟨q,hq⟩: ∃q,q=b.parts[k]'hk2:=⟨_,rfl⟩;obtain ⟨⟨x0,x1,x2,x3,x4⟩,hsx⟩:=h5a k hlt;obtain ⟨⟨y0,y1,y2,y3,y4⟩,hsy⟩:=h5b k hk2;have hwn:n0<=wr.heap.size:=by have:=HP.out.up.size; omega
    have hcall:=HT.out.call k hlt hk2;rw[<-hp] at x0 x1 x2 x3 x4 hsx hcall;rw[<-hq] at y0 y1 y2 y3 y4 hsy hcall;have HC:=Y1 hcall;have HWN:=Y1 hwn;have HSX:=Y1 hsx;have HSY:=Y1 hsy;have hbw:=Z01 wr (.cells (Y8 p (ra k)) 25);have HPN:=Y1 (HP.out.new HT.out hn0 hbw.drew);have HBW:=Y1 hbw;have HBX:=Y1 (Z03 wr p (ra k));obtain ⟨_,⟨a0,a1,a2,a3,a4⟩,_⟩:=HP.out.ba.next hbw;obtain ⟨_,⟨b0,b1,b2,b3,b4⟩,_⟩:=HP.out.bb.next hbw;obtain ⟨_,⟨c0,c1,c2,c3,c4⟩,_⟩:=HBX.out;have hgaW:ga < wr.heap.size:=by omega
    have hgbW:gb < wr.heap.size:=by omega
    have hwW:w.heap.size+1 < wr.heap.size:=by have:=HP.out.sz; omega
    simp only[Nat.zero_add] at a0 a1 a2 a3 a4 b0 b1 b2 b3 b4 c0 c1 c2 c3 c4;obtain ⟨y0,y1,y2,y3,y4⟩:=(show Sh5 wr gb (ob+k * 5) q (rb k) from ⟨y0,y1,y2,y3,y4⟩).keep hgbW hbw;obtain ⟨w3,hw3⟩: ∃w3,w3=wr.alloc (.cells (Y8 p (ra k)) 25):=⟨_,rfl⟩;rw[<-hw3] at hbw HPN HBW HBX a0 a1 a2 a3 a4 b0 b1 b2 b3 b4 c0 c1 c2 c3 c4 y0 y1 y2 y3 y4;have hw3':=hw3.symm;clear hw3 hcall hsx hsy hwn hp hq h5a h5b hbw
    go_wp2_with fail
    go_still_tail 13,(by kernel_rfl)
    change wpList _ _ _ _ _ w3.drew
    go_wp2_with fail
    rw[show ((k:Int)==(a.parts.length:Int) - 1)=decide (k+1=a.parts.length) from by rw[Bool.eq_iff_iff,beq_iff_eq,decide_eq_true_eq]; omega];have hu3:Upd (fun x=>n0<=x/\ ¬(w.heap.size<=x/\x < w.heap.size+2)) wr w3.drew:=Upd.new HBW.out.drew;refine (HC.out w3.drew (ra k) (rb k) HPN.out.sz HPN.out.k (Za8 HSX.out HWN.out hu3 (fun x h1 h2=>by omega)) (Za8 HSY.out HWN.out hu3 (fun x h1 h2=>by omega))).mono ?_;rintro e W2 ⟨rfl,hk2',hu2⟩;have HK2:=Y1 hk2';have HU2:=Y1 hu2;clear hk2' hu2 hu3 HC a0 a1 a2 a3 a4 b0 b1 b2 b3 b4 c0 c1 c2 c3 c4 y0 y1 y2 y3 y4 x0 x1 x2 x3 x4;cases hs:step k with
    | false=>
     have HALL:Hid (st=false):=Y1 (by
      rw[HST.out,Bool.eq_false_iff];intro h;have:=List.all_eq_true.1 h k (List.mem_range.2 hlt);rw[hs] at this; cases this)
     rw[hs] at HK2;clear hs;go_wp2;go_ret;rw[HALL.out];exact ⟨rfl,⟨_,HK2.out,nofun⟩,HPN.out.up.trans (HU2.out.mono (fun x _ h=>h.1))⟩
    | true=>
     rw[hs] at HK2;have HP4:=Y1 (HPN.out.upd HN.out HU2.out HK2.out);have HSS2:Hid ((List.range (k+1)).all step=true):=Y1 (by rw[List.range_succ,List.all_append,HSS.out]; simp[hs]);clear hs HK2 HU2;go_wp2
     go_roundw
     case rel=>exact ⟨k+1,by omega,by go_num,HSS2,HP4⟩
     case measure=>simp[intOf]; omega}
   {obtain rfl:k=a.parts.length:=by omega
    have hi1: ¬(a.parts.length:Int) < (a.parts.length:Int):=by omega
    have HALL:Hid (st=true):=Y1 (by rw[HST.out]; exact HSS.out);clear HSS;go_wp2;go_ret;rw[HALL.out];exact ⟨rfl,⟨_,HP.out.k,fun _=>rfl⟩,HP.out.up⟩}
end SubM
end Go.Proofs.YthajhofgjhfjeaaDoor
