/- What the proofs of SubtypeJoins, SubtypeMeets want, part 3. -/
import Derived.WalkSpells
import Derived.Test.YtlomianlcnmfgaaGreatDoorK0n2
set_option linter.unusedVariables false
set_option linter.unusedSimpArgs false
set_option linter.unusedSectionVars false
set_option maxRecDepth 100000
set_option maxHeartbeats 16000000
namespace Go.Proofs.YtlomianlcnmfgaaGreatDoor
open Go.RowKit Shp Sub
namespace SubM
theorem Z0S {P:Program} {e:TypeId} {z:Value} {size bytes:Nat} (h: (P.info? e).map (fun i=>(i.zero,i.size,i.bytes))=some (some z,size,bytes)): ∃i,P.info? e=some i/\i.zero=some z/\i.size=size/\i.bytes=bytes:=by
 cases hi:P.info? e with
 | none=>rw[hi] at h; cases h
 | some i=>
  rw[hi] at h;simp only[Option.map_some,Option.some.injEq,Prod.mk.injEq] at h;exact ⟨i,rfl,h.1,h.2.1,h.2.2⟩
theorem Z1R: (Tryz.prog.info? 25).map (fun i=>(i.zero,i.size,i.bytes))=some (some (.agg #[.int .i64 0,.string ByteArray.empty,.string ByteArray.empty,.slice none 0 0,.slice none 0 0]),5,88):=by kernel_rfl
theorem Z28: (Tryz.prog.info? 9).map (fun i=>(i.zero,i.size,i.bytes))=some (some (.string ByteArray.empty),1,16):=by kernel_rfl
theorem Z0k (d:Nat->Bool) {i j:Nat} (h:j≠i):also d i j=d j:=by
 unfold also;have:Nat.beq j i=false:=by cases hb:Nat.beq j i <;> first | rfl | exact absurd (Nat.eq_of_beq_eq_true hb) h
 rw[this]; rfl
theorem Z0o (d:Nat->Bool) (i:Nat):also d i i=true:=by unfold also; rw[Nat.beq_refl]; rfl
structure PX where
 W0:World
 gm:Nat
 hi:Nat
 pb:Nat
 AN:Option Addr
 cN:Nat
 AP:Option Addr
 cP:Nat
 nl:List (List UInt8)
 l:List El
 nm:List UInt8
 x:El
namespace PX
variable (X : PX)
def val (j:Nat):Option Value:=match j with
 | 0 | 1 | 2 | 3 | 9 | 10 | 16 | 19=>some (.pointer (some ⟨X.gm,0,none⟩))
 | 4 | 17=>some (.pointer (some ⟨X.gm,3,none⟩))
 | 11 | 20=>some (.pointer (some ⟨X.gm,4,none⟩))
 | 5=>some (.slice X.AN X.nl.length X.cN)
 | 6=>some (.string ⟨X.nm.toArray⟩)
 | 12=>some (.slice X.AP X.l.length X.cP)
 | 13=>some (sv X.x.1 X.x.2)
 | _=>none
def set (b:Nat):Prop:=b=X.gm\/rowB X.AN=some b\/rowB X.AP=some b
structure Good:Prop where
 gh:X.gm < X.hi
 hw:X.hi<=X.pb
 pw:X.pb < X.W0.heap.size
 c3:X.W0.cell? ⟨X.gm,3,none⟩=some (.slice X.AN X.nl.length X.cN)
 c4:X.W0.cell? ⟨X.gm,4,none⟩=some (.slice X.AP X.l.length X.cP)
 fz: ∀j,X.W0.frozen? ⟨X.gm,j,none⟩=false
 rN:X.W0.ownsRow X.hi 9 1 (.slice X.AN X.nl.length X.cN) X.nl.length (namesE X.nl)
 rP:X.W0.ownsRow X.hi 25 5 (.slice X.AP X.l.length X.cP) X.l.length (cellsE X.l)
 ne:rowB X.AN=none\/rowB X.AN≠rowB X.AP
 bn:rowB X.AN≠some X.pb
 bp:rowB X.AP≠some X.pb
 box:Sh5 X.W0 X.pb 0 X.x.1 X.x.2
 ln:X.nl.length<=1000
 ll:X.l.length<=1000
structure PI (d:Nat->Bool) (u:Nat->Value) (W:World):Prop where
 vals: ∀j,d j=true-> ∀v,X.val j=some v->u j=v
 up:Upd X.set X.W0 W
 f7:d 7=true-> ∃z,u 7= .slice (some ⟨z,0,none⟩) 1 1/\X.W0.heap.size<=z/\z < W.heap.size/\W.cell? ⟨z,0,none⟩=some (.string ⟨X.nm.toArray⟩)
 f14:d 14=true-> ∃z,u 14= .slice (some ⟨z,0,none⟩) 1 1/\X.W0.heap.size<=z/\z < W.heap.size/\ ∀(j:Nat) v,(cells5 X.x)[j]? =some v->W.cell? ⟨z,j,none⟩=some v
 n0:d 8=false->W.ownsRow X.hi 9 1 (.slice X.AN X.nl.length X.cN) X.nl.length (namesE X.nl)
 n1:d 8=true-> ∃g c,u 8= .slice (some ⟨g,0,none⟩) (X.nl.length+1) c/\W.ownsRow X.hi 9 1 (.slice (some ⟨g,0,none⟩) (X.nl.length+1) c) (X.nl.length+1) (namesE X.nl++ [.string ⟨X.nm.toArray⟩])/\(rowB X.AN=some g\/X.W0.heap.size<=g)
 p0:d 15=false->W.ownsRow X.hi 25 5 (.slice X.AP X.l.length X.cP) X.l.length (cellsE X.l)
 p1:d 15=true-> ∃g c,u 15= .slice (some ⟨g,0,none⟩) (X.l.length+1) c/\W.ownsRow X.hi 25 5 (.slice (some ⟨g,0,none⟩) (X.l.length+1) c) (X.l.length+1) (cellsE X.l++cells5 X.x)/\(rowB X.AP=some g\/X.W0.heap.size<=g)/\
  ∀g8 n c8,u 8= .slice (some ⟨g8,0,none⟩) n c8->g8≠g
 c3:W.cell? ⟨X.gm,3,none⟩=some (if d 18=true then u 8 else .slice X.AN X.nl.length X.cN)
 c4:W.cell? ⟨X.gm,4,none⟩=some (if d 21=true then u 15 else .slice X.AP X.l.length X.cP)
 cr: ∀j,j < 3->W.cell? ⟨X.gm,j,none⟩=X.W0.cell? ⟨X.gm,j,none⟩
 fz: ∀j,W.frozen? ⟨X.gm,j,none⟩=false
variable {X : PX} {d : Nat -> Bool} {u : Nat -> Value} {W W' : World}
theorem PI.vals' (h:X.PI d u W) {i:Nat} {v:Value} (hv: ∀v',X.val i=some v'->v=v'): ∀j,also d i j=true-> ∀v',X.val j=some v'->upd u i v j=v':=fun j hj v' hv'=>by
 by_cases hij:j=i
 {subst hij; rw[Z0h]; exact hv v' hv'}
 {rw[Z0k d hij] at hj; rw[Z04 u v hij]; exact h.vals j hj v' hv'}
theorem Good.start (h:X.Good):X.PI (fun _=>false) u X.W0.drew:=
 ⟨nofun,(Upd.refl _ _).drew,nofun,nofun,fun _=>h.rN,nofun,fun _=>h.rP,nofun,h.c3,h.c4,fun _ _=>rfl,h.fz⟩
theorem PI.pure (h:X.PI d u W) {i:Nat} (hi:i≠7/\i≠8/\i≠14/\i≠15/\i≠18/\i≠21) {v:Value} (hv: ∀v',X.val i=some v'->v=v'):X.PI (also d i) (upd u i v) W:=by
 have k: ∀j,j=7\/j=8\/j=14\/j=15\/j=18\/j=21->also d i j=d j/\upd u i v j=u j:=fun j hj=>⟨Z0k d (by omega),Z04 u v (by omega)⟩;refine ⟨h.vals' hv,h.up, ?_, ?_, ?_, ?_, ?_, ?_, ?_, ?_,h.cr,h.fz⟩
 {rw[(k 7 (by omega)).1,(k 7 (by omega)).2]; exact h.f7}
 {rw[(k 14 (by omega)).1,(k 14 (by omega)).2]; exact h.f14}
 {rw[(k 8 (by omega)).1]; exact h.n0}
 {rw[(k 8 (by omega)).1,(k 8 (by omega)).2]; exact h.n1}
 {rw[(k 15 (by omega)).1]; exact h.p0}
 {rw[(k 15 (by omega)).1,(k 15 (by omega)).2,(k 8 (by omega)).2]; exact h.p1}
 {rw[(k 18 (by omega)).1,(k 8 (by omega)).2]; exact h.c3}
 {rw[(k 21 (by omega)).1,(k 15 (by omega)).2]; exact h.c4}
theorem Good.set_lt (h:X.Good) {b:Nat} (hb:X.set b):b < X.W0.heap.size:=by
 rcases hb with rfl | hb | hb
 {have:=h.gh; have:=h.hw; have:=h.pw; omega}
 {exact (Z08 h.rN b hb).2}
 {exact (Z08 h.rP b hb).2}
theorem PI.box (h:X.PI d u W) (hX:X.Good):Sh5 W X.pb 0 X.x.1 X.x.2:=
 hX.box.of (fun k=>h.up.cell hX.pw (fun hs=>by
  rcases hs with hs | hs | hs
  {have:=hX.gh; have:=hX.hw; omega}
  {exact hX.bn hs}
  · exact hX.bp hs))
theorem PI.new (h:X.PI d u W) (hX:X.Good) (hb:Below W.heap.size W W'):X.PI d u W':=by
 have hgm:X.gm < W.heap.size:=by have:=hX.gh; have:=hX.hw; have:=hX.pw; have:=h.up.size; omega
 have hu:Upd (fun _=>False) W W':=Upd.new hb;refine ⟨h.vals,h.up.trans (hu.mono (fun _ _ h=>h.elim)),fun h7=> ?_,fun h14=> ?_,fun h8=>Z0g (h.n0 h8) hu (fun _ _ h=>h),fun h8=> ?_,fun h15=>Z0g (h.p0 h15) hu (fun _ _ h=>h),fun h15=> ?_,
  (hu.cell hgm (fun h=>h)).trans h.c3,(hu.cell hgm (fun h=>h)).trans h.c4,fun j hj=>(hu.cell hgm (fun h=>h)).trans (h.cr j hj),fun j=>(hu.frozen hgm (fun h=>h)).trans (h.fz j)⟩
 {obtain ⟨z,e,z1,z2,z3⟩:=h.f7 h7;exact ⟨z,e,z1,Nat.lt_of_lt_of_le z2 hu.size,(hu.cell z2 (fun h=>h)).trans z3⟩}
 {obtain ⟨z,e,z1,z2,z3⟩:=h.f14 h14;exact ⟨z,e,z1,Nat.lt_of_lt_of_le z2 hu.size,fun j v hv=>(hu.cell z2 (fun h=>h)).trans (z3 j v hv)⟩}
 {obtain ⟨g,c,e,r,n⟩:=h.n1 h8;exact ⟨g,c,e,Z0g r hu (fun _ _ h=>h),n⟩}
 {obtain ⟨g,c,e,r,n⟩:=h.p1 h15;exact ⟨g,c,e,Z0g r hu (fun _ _ h=>h),n⟩}
section
variable (h : X.PI d u W) (hX : X.Good)
include h hX
theorem PI.s7:X.PI (also d 7) (upd u 7 (.slice (some ⟨W.heap.size,0,none⟩) 1 1)) (W.alloc (.cells #[.string ⟨X.nm.toArray⟩] 9)):=by
 have hn:=h.new hX (Z01 W (.cells #[.string ⟨X.nm.toArray⟩] 9));have k: ∀j,j≠7->also d 7 j=d j/\ ∀v,upd u 7 v j=u j:=fun j hj=>⟨Z0k d hj,fun v=>Z04 u v hj⟩;have hs:=h.up.size;refine ⟨hn.vals' (fun v' h=>by cases h),hn.up,fun _=>⟨W.heap.size,Z0h _ _ _,hs,by simp,by simp[go_sem]⟩, ?_, ?_, ?_, ?_, ?_, ?_, ?_,hn.cr,hn.fz⟩
 {rw[(k 14 (by omega)).1,(k 14 (by omega)).2]; exact hn.f14}
 {rw[(k 8 (by omega)).1]; exact hn.n0}
 {rw[(k 8 (by omega)).1,(k 8 (by omega)).2]; exact hn.n1}
 {rw[(k 15 (by omega)).1]; exact hn.p0}
 {rw[(k 15 (by omega)).1,(k 15 (by omega)).2,(k 8 (by omega)).2]; exact hn.p1}
 {rw[(k 18 (by omega)).1,(k 8 (by omega)).2]; exact hn.c3}
 {rw[(k 21 (by omega)).1,(k 15 (by omega)).2]; exact hn.c4}
theorem PI.s14:X.PI (also d 14) (upd u 14 (.slice (some ⟨W.heap.size,0,none⟩) 1 1)) (W.alloc (.cells #[.int .i64 X.x.1.kind,.string ⟨X.x.1.of_.toArray⟩,.string ⟨X.x.1.name.toArray⟩,.slice X.x.2.A X.x.1.names.length X.x.2.c,.slice X.x.2.P X.x.1.parts.length X.x.2.d] 25)):=by
 have hn:=h.new hX (Z01 W (.cells #[.int .i64 X.x.1.kind,.string ⟨X.x.1.of_.toArray⟩,.string ⟨X.x.1.name.toArray⟩,.slice X.x.2.A X.x.1.names.length X.x.2.c,.slice X.x.2.P X.x.1.parts.length X.x.2.d] 25));have k: ∀j,j≠14->also d 14 j=d j/\ ∀v,upd u 14 v j=u j:=fun j hj=>⟨Z0k d hj,fun v=>Z04 u v hj⟩;have hs:=h.up.size;refine ⟨hn.vals' (fun v' h=>by cases h),hn.up, ?_,fun _=>⟨W.heap.size,Z0h _ _ _,hs,by simp, ?_⟩, ?_, ?_, ?_, ?_, ?_, ?_,hn.cr,hn.fz⟩
 {rw[(k 7 (by omega)).1,(k 7 (by omega)).2]; exact hn.f7}
 {intro j v hv;rcases j with _ | _ | _ | _ | _ | j
  {simp[cells5] at hv; subst hv; simp[go_sem]}
  {simp[cells5] at hv; subst hv; simp[go_sem]}
  {simp[cells5] at hv; subst hv; simp[go_sem]}
  {simp[cells5] at hv; subst hv; simp[go_sem]}
  {simp[cells5] at hv; subst hv; simp[go_sem]}
  {simp[cells5] at hv}}
 {rw[(k 8 (by omega)).1]; exact hn.n0}
 {rw[(k 8 (by omega)).1,(k 8 (by omega)).2]; exact hn.n1}
 {rw[(k 15 (by omega)).1]; exact hn.p0}
 {rw[(k 15 (by omega)).1,(k 15 (by omega)).2,(k 8 (by omega)).2]; exact hn.p1}
 {rw[(k 18 (by omega)).1,(k 8 (by omega)).2]; exact hn.c3}
 {rw[(k 21 (by omega)).1,(k 15 (by omega)).2]; exact hn.c4}
theorem PI.s8 (h8:d 8=false) (h15:d 15=false) (h18:d 18=false) {g c:Nat} (hown:W'.ownsRow X.hi 9 1 (.slice (some ⟨g,0,none⟩) (X.nl.length+1) c) (X.nl.length+1) (namesE X.nl++ [.string ⟨X.nm.toArray⟩]))
 (hg:W.grownBy W' (rowB X.AN)) (hat:rowB X.AN=some g\/g=W.heap.size):X.PI (also d 8) (upd u 8 (.slice (some ⟨g,0,none⟩) (X.nl.length+1) c)) W':=by
 have k: ∀j,j≠8->also d 8 j=d j/\ ∀v,upd u 8 v j=u j:=fun j hj=>⟨Z0k d hj,fun v=>Z04 u v hj⟩;have hu:Upd (fun b=>rowB X.AN=some b) W W':=(Upd.refl _ W).grown hg (fun k h _=>h);have hgm:X.gm < W.heap.size:=by have:=hX.gh; have:=hX.hw; have:=hX.pw; have:=h.up.size; omega
 have hgN: ¬rowB X.AN=some X.gm:=fun e=>by have:=(Z08 hX.rN _ e).1; have:=hX.gh; omega
 have hnz: ∀z,X.W0.heap.size<=z-> ¬rowB X.AN=some z:=fun z hz e=>by have:=(Z08 hX.rN _ e).2; omega
 have hs:=h.up.size;refine ⟨h.vals' (fun v' h=>by cases h),h.up.trans (hu.mono (fun b _ hb=>Or.inr (Or.inl hb))), ?_, ?_, ?_, ?_, ?_, ?_, ?_, ?_,fun j hj=>(hu.cell hgm hgN).trans (h.cr j hj),fun j=>(hu.frozen hgm hgN).trans (h.fz j)⟩
 {rw[(k 7 (by omega)).1,(k 7 (by omega)).2];intro h7;obtain ⟨z,e,z1,z2,z3⟩:=h.f7 h7;exact ⟨z,e,z1,Nat.lt_of_lt_of_le z2 hu.size,(hu.cell z2 (hnz z z1)).trans z3⟩}
 {rw[(k 14 (by omega)).1,(k 14 (by omega)).2];intro h14;obtain ⟨z,e,z1,z2,z3⟩:=h.f14 h14;exact ⟨z,e,z1,Nat.lt_of_lt_of_le z2 hu.size,fun j v hv=>(hu.cell z2 (hnz z z1)).trans (z3 j v hv)⟩}
 {rw[Z0o]; nofun}
 {exact fun _=>⟨g,c,Z0h _ _ _,hown,hat.imp id (fun e=>by omega)⟩}
 {exact fun _=>Z0g (h.p0 h15) hu (fun b hb e=>by
   rcases hX.ne with hne | hne
   {rw[hne] at e; cases e}
   · exact hne (e.trans hb.symm))}
 {rw[(k 15 (by omega)).1,h15]; nofun}
 {rw[(k 18 (by omega)).1,h18];have:=h.c3;rw[h18] at this;exact (hu.cell hgm hgN).trans this}
 {rw[(k 21 (by omega)).1,(k 15 (by omega)).2];exact (hu.cell hgm hgN).trans h.c4}
theorem PI.s15 (h8:d 8=true) (h15:d 15=false) (h18:d 18=false) (h21:d 21=false) {g c:Nat} (hown:W'.ownsRow X.hi 25 5 (.slice (some ⟨g,0,none⟩) (X.l.length+1) c) (X.l.length+1) (cellsE X.l++cells5 X.x))
 (hg:W.grownBy W' (rowB X.AP)) (hat:rowB X.AP=some g\/g=W.heap.size):X.PI (also d 15) (upd u 15 (.slice (some ⟨g,0,none⟩) (X.l.length+1) c)) W':=by
 have k: ∀j,j≠15->also d 15 j=d j/\ ∀v,upd u 15 v j=u j:=fun j hj=>⟨Z0k d hj,fun v=>Z04 u v hj⟩;have hu:Upd (fun b=>rowB X.AP=some b) W W':=(Upd.refl _ W).grown hg (fun k h _=>h);have hgm:X.gm < W.heap.size:=by have:=hX.gh; have:=hX.hw; have:=hX.pw; have:=h.up.size; omega
 have hgN: ¬rowB X.AP=some X.gm:=fun e=>by have:=(Z08 hX.rP _ e).1; have:=hX.gh; omega
 have hnz: ∀z,X.W0.heap.size<=z-> ¬rowB X.AP=some z:=fun z hz e=>by have:=(Z08 hX.rP _ e).2; omega
 have hs:=h.up.size;obtain ⟨g8,c8,e8,r8,n8⟩:=h.n1 h8;have hg8: ¬rowB X.AP=some g8:=fun e=>by
  rcases n8 with n8 | n8
  {rcases hX.ne with hne | hne
   {rw[hne] at n8; cases n8}
   {exact hne (n8.trans e.symm)}}
  {exact hnz g8 n8 e}
 have hg8w:g8 < W.heap.size:=(Z08 r8 g8 rfl).2;refine ⟨h.vals' (fun v' h=>by cases h),h.up.trans (hu.mono (fun b _ hb=>Or.inr (Or.inr hb))), ?_, ?_, ?_, ?_, ?_, ?_, ?_, ?_,fun j hj=>(hu.cell hgm hgN).trans (h.cr j hj),fun j=>(hu.frozen hgm hgN).trans (h.fz j)⟩
 {rw[(k 7 (by omega)).1,(k 7 (by omega)).2];intro h7;obtain ⟨z,e,z1,z2,z3⟩:=h.f7 h7;exact ⟨z,e,z1,Nat.lt_of_lt_of_le z2 hu.size,(hu.cell z2 (hnz z z1)).trans z3⟩}
 {rw[(k 14 (by omega)).1,(k 14 (by omega)).2];intro h14;obtain ⟨z,e,z1,z2,z3⟩:=h.f14 h14;exact ⟨z,e,z1,Nat.lt_of_lt_of_le z2 hu.size,fun j v hv=>(hu.cell z2 (hnz z z1)).trans (z3 j v hv)⟩}
 {rw[(k 8 (by omega)).1,h8]; nofun}
 {rw[(k 8 (by omega)).2];exact fun _=>⟨g8,c8,e8,Z0g r8 hu (fun b hb=>by cases hb; exact hg8),n8⟩}
 {rw[Z0o]; nofun}
 {refine fun _=>⟨g,c,Z0h _ _ _,hown,hat.imp id (fun e=>by omega),fun g' n c' e=> ?_⟩;rw[(k 8 (by omega)).2,e8] at e;simp only[Value.slice.injEq,Option.some.injEq,Addr.mk.injEq,and_true] at e;rw[<-e.1];rcases hat with h1 | h1
  {exact fun e=>hg8 (by rw[e]; exact h1)}
  {omega}}
 {rw[(k 18 (by omega)).1,h18];have:=h.c3;rw[h18] at this;exact (hu.cell hgm hgN).trans this}
 {rw[(k 21 (by omega)).1,h21];have:=h.c4;rw[h21] at this;exact (hu.cell hgm hgN).trans this}
end
theorem not_gm (hX:X.Good) {W':World} {g n c e s m:Nat} {xs:List Value} (r:W'.ownsRow X.hi e s (.slice (some ⟨g,0,none⟩) n c) m xs) {b:Nat} (hb:rowB (some ⟨g,0,none⟩)=some b) (he:b=X.gm):False:=by
 have e1:g=b:=by simpa[rowB] using hb
 have h1:=(r.lt g rfl).1;have:=hX.gh;omega
theorem PI.sto (h:X.PI d u W) (hX:X.Good) (h8:d 8=true) (h15:d 15=true) (i f:Nat) (hi:i=18/\f=3\/i=21/\f=4) (hd:d i=false):X.PI (also d i) (upd u i undef) (W.setCell ⟨X.gm,f,none⟩ (if i=18 then u 8 else u 15)):=by
 have k: ∀j,j≠i->also d i j=d j/\ ∀v,upd u i v j=u j:=fun j hj=>⟨Z0k d hj,fun v=>Z04 u v hj⟩;have hgm:X.gm < W.heap.size:=by have:=hX.gh; have:=hX.hw; have:=hX.pw; have:=h.up.size; omega
 obtain ⟨g8,c8,e8,r8,n8⟩:=h.n1 h8;obtain ⟨g15,c15,e15,r15,n15,m15⟩:=h.p1 h15;have hu:Upd (fun b=>b=X.gm) W (W.setCell ⟨X.gm,f,none⟩ (if i=18 then u 8 else u 15)):=Upd.set (Upd.refl (fun b=>b=X.gm) W) ⟨X.gm,f,none⟩ (fun _=>rfl) _;have far: ∀j,j≠f->(W.setCell ⟨X.gm,f,none⟩ (if i=18 then u 8 else u 15)).cell? ⟨X.gm,j,none⟩=W.cell? ⟨X.gm,j,none⟩:=fun j hj=>World.cell?_setCell_other _ _ _ _ (fun e=>by have:=congrArg Addr.off e; simp at this; omega);have hz: ∀z,X.W0.heap.size<=z-> ¬z=X.gm:=fun z hz e=>by have:=hX.gh; have:=hX.hw; have:=hX.pw; omega
 refine ⟨h.vals' (fun v' h=>by rcases hi with ⟨rfl,_⟩ | ⟨rfl,_⟩ <;> cases h),h.up.trans (hu.mono (fun b _ hb=>Or.inl hb)), ?_, ?_, ?_, ?_, ?_, ?_, ?_, ?_,fun j hj=>(far j (by omega)).trans (h.cr j hj),fun j=>(World.frozen?_setCell ..).trans (h.fz j)⟩
 {rw[(k 7 (by omega)).1,(k 7 (by omega)).2];intro h7;obtain ⟨z,e,z1,z2,z3⟩:=h.f7 h7;exact ⟨z,e,z1,Nat.lt_of_lt_of_le z2 hu.size,(hu.cell z2 (hz z z1)).trans z3⟩}
 {rw[(k 14 (by omega)).1,(k 14 (by omega)).2];intro h14;obtain ⟨z,e,z1,z2,z3⟩:=h.f14 h14;exact ⟨z,e,z1,Nat.lt_of_lt_of_le z2 hu.size,fun j v hv=>(hu.cell z2 (hz z z1)).trans (z3 j v hv)⟩}
 {rw[(k 8 (by omega)).1,h8]; nofun}
 {rw[(k 8 (by omega)).2];exact fun _=>⟨g8,c8,e8,Z0g r8 hu (fun b hb e=>not_gm hX r8 hb e),n8⟩}
 {rw[(k 15 (by omega)).1,h15]; nofun}
 {rw[(k 15 (by omega)).2,(k 8 (by omega)).2];exact fun _=>⟨g15,c15,e15,Z0g r15 hu (fun b hb e=>not_gm hX r15 hb e),n15,m15⟩}
 {rw[(k 8 (by omega)).2];rcases hi with ⟨rfl,rfl⟩ | ⟨rfl,rfl⟩
  {rw[Z0o,if_pos rfl,if_pos rfl];exact World.cell?_setCell_same _ _ _ h.c3}
  {rw[(k 18 (by omega)).1];exact (far 3 (by omega)).trans h.c3}}
 {rw[(k 15 (by omega)).2];rcases hi with ⟨rfl,rfl⟩ | ⟨rfl,rfl⟩
  {rw[(k 21 (by omega)).1];exact (far 4 (by omega)).trans h.c4}
  {rw[Z0o,if_pos rfl,if_neg (by omega)];exact World.cell?_setCell_same _ _ _ h.c4}}
end PX
end SubM
end Go.Proofs.YtlomianlcnmfgaaGreatDoor
namespace Go.Proofs.YtlomianlcnmfgaaGreatDoor
open Go.RowKit Shp Sub
namespace SubM
theorem Z0i {ops:Array Oper} {d:Nat->Bool} (hs:Shutd ops d) {k m:Nat} {o:Oper} (ho:ops[k]? =some o) (hw:waits o m=true) (hm:d m=false):d k=false:=by
 cases h:d k with
 | false=>rfl
 | true=>rw[hs k o ho h m hw] at hm; cases hm
def PutOk (W:World) (gm:Nat) (AN AP:Option Addr) (AN' AP':Option Addr) (W':World):Prop:=
 Upd (fun b=>b=gm\/rowB AN=some b\/rowB AP=some b) W W'/\(∀b,rowB AN'=some b->rowB AN=some b\/W.heap.size<=b)/\(∀b,rowB AP'=some b->rowB AP=some b\/W.heap.size<=b)
end SubM
end Go.Proofs.YtlomianlcnmfgaaGreatDoor
namespace Go.Proofs.YtlomianlcnmfgaaGreatDoor
open Go.RowKit Shp Sub
namespace SubM
structure TakesP (n0 N:Nat) (a b:Sh) (fn:Nat) (cs:List Value) (step:Nat->Bool) (K:Bool->Nat->World->Prop):Prop where
 keep: ∀ok k W W',K ok k W->Upd (fun x=>N<=x/\x < N+2) W W'->K ok k W'
 call: ∀k (hk:k < a.parts.length) (hk2:k < b.parts.length) W (x y:Ptr),N+2<=W.heap.size->K true k W->ShAt W n0 x (a.parts[k]'hk)->ShAt W n0 y (b.parts[k]'hk2)->
  Calls Tryz.prog fn (sv (a.parts[k]'hk) x::sv (b.parts[k]'hk2) y:: .bool (decide (k+1=a.parts.length))::cs).toArray W fun e W'=>e= .returned (.bool (step k))/\K (step k) (k+1) W'/\Upd (fun x=>n0<=x/\ ¬(N<=x/\x < N+2)) W W'
structure P2 (n0 N:Nat) (a b:Sh) (pa pb:Ptr) (w:World) (K:Bool->Nat->World->Prop) (k:Nat) (W:World):Prop where
 ba:Box5 W N a pa
 bb:Box5 W (N+1) b pb
 up:Upd (fun x=>n0<=x) w W
 sz:N+2<=W.heap.size
 k:K true k W
section
variable {n0 : Nat} {a b : Sh} {pa pb : Ptr} {w : World} {K : Bool -> Nat -> World -> Prop} {k : Nat} {W W' : World} {fn : Nat} {cs : List Value} {step : Nat -> Bool}
theorem P2.upd (h:P2 n0 w.heap.size a b pa pb w K k W) (hn:n0<=w.heap.size) (hu:Upd (fun x=>n0<=x/\ ¬(w.heap.size<=x/\x < w.heap.size+2)) W W') {k':Nat} (hk:K true k' W'):P2 n0 w.heap.size a b pa pb w K k' W':=
 ⟨Z0e h.ba hu (by omega),Z0e h.bb hu (by omega),h.up.trans (hu.mono (fun x _ hx=>hx.1)),Nat.le_trans h.sz hu.size,hk⟩
theorem P2.new (h:P2 n0 w.heap.size a b pa pb w K k W) (hT:TakesP n0 w.heap.size a b fn cs step K) (hn:n0<=w.heap.size) (hb:Below W.heap.size W W'):P2 n0 w.heap.size a b pa pb w K k W':=
 h.upd hn (Upd.new hb) (hT.keep _ _ _ _ h.k (Upd.new hb))
end
def headEq (a b:Sh):Bool:=decide (a.of_=b.of_/\a.name=b.name/\a.parts.length=b.parts.length)
theorem Z27 (a b:Sh) (pa pb:Ptr) (n0:Nat) (w:World) (ha:ShAt w n0 pa a) (hb:ShAt w n0 pb b) (hn:n0<=w.heap.size) (la:a.parts.length<=1000)
 (fn:Nat) (hen: ∀args W,(callFunc fn args).run Tryz.prog W= .ok (.enter fn args) W) (cs:List Value) (step:Nat->Bool) (K:Bool->Nat->World->Prop)
 (hT:TakesP n0 w.heap.size a b fn cs step K) (h0:K true 0 w):
 Calls Tryz.prog 54 #[sv a pa,sv b pb,.func (.func fn) #[] cs.toArray] w fun e w'=>e= .returned (.bool (headEq a b&&(List.range a.parts.length).all step))/\
  (∃D,K (!headEq a b||(List.range a.parts.length).all step) D w'/\((headEq a b&&(List.range a.parts.length).all step)=true->D=a.parts.length))/\Upd (fun x=>n0<=x) w w':=by
 obtain ⟨Aa,ca,Pa,da⟩:=pa;obtain ⟨Ab,cb,Pb,db⟩:=pb;have hb1:=Z01 w (.cells #[.int .i64 a.kind,.string ⟨a.of_.toArray⟩,.string ⟨a.name.toArray⟩,.slice Aa a.names.length ca,.slice Pa a.parts.length da] 25);obtain ⟨w1,hw1⟩: ∃w1,w1=w.alloc (.cells #[.int .i64 a.kind,.string ⟨a.of_.toArray⟩,.string ⟨a.name.toArray⟩,.slice Aa a.names.length ca,.slice Pa a.parts.length da] 25):=⟨_,rfl⟩;have hb2:=Z01 w1 (.cells #[.int .i64 b.kind,.string ⟨b.of_.toArray⟩,.string ⟨b.name.toArray⟩,.slice Ab b.names.length cb,.slice Pb b.parts.length db] 25);obtain ⟨w2,hw2⟩: ∃w2,w2=w1.alloc (.cells #[.int .i64 b.kind,.string ⟨b.of_.toArray⟩,.string ⟨b.name.toArray⟩,.slice Ab b.names.length cb,.slice Pb b.parts.length db] 25):=⟨_,rfl⟩;have hs1:w1.heap.size=w.heap.size+1:=by rw[hw1]; simp
 have hs2:w2.heap.size=w.heap.size+2:=by rw[hw2]; simp[hs1]
 rw[<-hw1] at hb1;rw[<-hw2] at hb2;have hB1:Box5 w1 w.heap.size a ⟨Aa,ca,Pa,da⟩:=by rw[hw1]; exact Z05 w a ⟨Aa,ca,Pa,da⟩
 have hB2:Box5 w2 w1.heap.size b ⟨Ab,cb,Pb,db⟩:=by rw[hw2]; exact Z05 w1 b ⟨Ab,cb,Pb,db⟩
 have hBA:=hB1.next hb2;rw[hs1] at hB2;have hU:Upd (fun x=>w.heap.size<=x/\x < w.heap.size+2) w w2:=Upd.new (Z00 hb1 hb2);have hP2:P2 n0 w.heap.size a b ⟨Aa,ca,Pa,da⟩ ⟨Ab,cb,Pb,db⟩ w K 0 w2:=⟨hBA,hB2,hU.mono (fun x _ h=>by omega),by omega,hT.keep _ _ _ _ h0 hU⟩;have HP2:=Y1 hP2;have HSA:=Y1 ha;have HSB:=Y1 hb;have HN:=Y1 hn;have HLA:=Y1 la;have HT:=Y1 hT;have ns:=ha.small;have nt:=hb.small;have o1:=ns.o;have o2:=ns.n;have o3:=nt.o;have o4:=nt.n;obtain ⟨_,⟨a0,a1,a2,a3,a4⟩,_⟩:=hBA;obtain ⟨_,⟨b0,b1,b2,b3,b4⟩,_⟩:=hB2;simp only[Nat.zero_add] at a0 a1 a2 a3 a4 b0 b1 b2 b3 b4;have hw1':=hw1.symm;have hw2':=hw2.symm;clear hw1 hw2 hb1 hb2 hB1 hP2 hU ha hb hn la hT h0 ns nt;unfold sv
 try dsimp only
 cases hh:headEq a b with
 | false=>
  have HF:Hid ((∃D,K (!false||(List.range a.parts.length).all step) D w2/\((false&&(List.range a.parts.length).all step)=true->D=a.parts.length))/\Upd (fun x=>n0<=x) w w2):=Y1 ⟨⟨0,HP2.out.k,nofun⟩,HP2.out.up⟩;clear HP2 HSA HSB HN HLA HT;have hh': ¬(a.of_=b.of_/\a.name=b.name/\a.parts.length=b.parts.length):=of_decide_eq_false hh;clear hh;by_cases e1:a.of_=b.of_
  {by_cases e2:a.name=b.name
   {have e3:a.parts.length≠b.parts.length:=fun e=>hh' ⟨e1,e2,e⟩;have n1: (a.of_ !=b.of_)=false:=by rw[e1]; simp
    have m1: (a.of_==b.of_)=true:=by rw[e1]; simp
    have n2: (a.name !=b.name)=false:=by rw[e2]; simp
    have m2: (a.name==b.name)=true:=by rw[e2]; simp
    have n3: ((a.parts.length:Int) !=(b.parts.length:Int))=true:=by simp; omega
    have m3: ((a.parts.length:Int)==(b.parts.length:Int))=false:=by simp; omega
    clear e1 e2 e3 hh';go_enter Tryz.func54,Tryz.ntmps54;go_wp2;go_ret;exact ⟨rfl,HF.out⟩}
   {have n1: (a.of_ !=b.of_)=false:=by rw[e1]; simp
    have m1: (a.of_==b.of_)=true:=by rw[e1]; simp
    have n2: (a.name !=b.name)=true:=by simpa using e2
    have m2: (a.name==b.name)=false:=by simpa using e2
    clear e1 e2 hh';go_enter Tryz.func54,Tryz.ntmps54;go_wp2;go_ret;exact ⟨rfl,HF.out⟩}}
  {have n1: (a.of_ !=b.of_)=true:=by simpa using e1
   have m1: (a.of_==b.of_)=false:=by simpa using e1
   clear e1 hh';go_enter Tryz.func54,Tryz.ntmps54;go_wp2;go_ret;exact ⟨rfl,HF.out⟩}
 | true=>
  obtain ⟨e1,e2,e3⟩:a.of_=b.of_/\a.name=b.name/\a.parts.length=b.parts.length:=of_decide_eq_true hh;have HE3:=Y1 e3;have n1: (a.of_ !=b.of_)=false:=by rw[e1]; simp
  have m1: (a.of_==b.of_)=true:=by rw[e1]; simp
  have n2: (a.name !=b.name)=false:=by rw[e2]; simp
  have m2: (a.name==b.name)=true:=by rw[e2]; simp
  have n3: ((a.parts.length:Int) !=(b.parts.length:Int))=false:=by rw[e3]; simp
  have m3: ((a.parts.length:Int)==(b.parts.length:Int))=true:=by rw[e3]; simp
  simp only[Bool.true_and,Bool.not_true,Bool.false_or];clear e1 e2 e3 hh;obtain ⟨st,hst⟩: ∃st,st=(List.range a.parts.length).all step:=⟨_,rfl⟩;have HST:=Y1 hst;rw[<-hst];clear hst;go_enter Tryz.func54,Tryz.ntmps54
  go_wp2_with fail
  go_loopw [33] (fun ii wr=> ∃k:Nat,k<=a.parts.length/\ii= .int .i64 (k:Int)/\Hid ((List.range k).all step=true)/\Hid (P2 n0 w.heap.size a b ⟨Aa,ca,Pa,da⟩ ⟨Ab,cb,Pb,db⟩ w K k wr)) (fun i _=>a.parts.length - (intOf i).toNat)
  case atStart=>exact ⟨0,Nat.zero_le _,rfl,Y1 (by simp),HP2⟩
  case round=>
   obtain ⟨k,hk,rfl,HSS,HP⟩:=hrel;have hla:=HLA.out;clear a0 a1 a2 a3 a4 b0 b1 b2 b3 b4 n1 n2 n3 m1 m2 m3 o1 o2 o3 o4;by_cases hlt:k < a.parts.length
   {have hi1: (k:Int) < (a.parts.length:Int):=by omega
    have hk2:k < b.parts.length:=by rw[<-HE3.out]; exact hlt
    have hi2: (k:Int) < (b.parts.length:Int):=by omega
    have hn0:=HN.out;have hpa:=Z2K (Z0a HSA.out hn0 HP.out.up (fun x hx hs=>by omega));have hpb:=Z2K (Z0a HSB.out hn0 HP.out.up (fun x hx hs=>by omega));obtain ⟨ga,oa,ra,hpa⟩:=hpa;obtain ⟨gb,ob,rb,hpb⟩:=hpb;rcases hpa with h | ⟨rfl,hga,h5a⟩
    {omega}
    rcases hpb with h | ⟨rfl,hgb,h5b⟩
    {omega}
    obtain ⟨p,hp⟩: ∃p,p=a.parts[k]'hlt:=⟨_,rfl⟩;obtain ⟨q,hq⟩: ∃q,q=b.parts[k]'hk2:=⟨_,rfl⟩;obtain ⟨⟨x0,x1,x2,x3,x4⟩,hsx⟩:=h5a k hlt;obtain ⟨⟨y0,y1,y2,y3,y4⟩,hsy⟩:=h5b k hk2;have hwn:n0<=wr.heap.size:=by have:=HP.out.up.size; omega
    have hcall:=HT.out.call k hlt hk2;rw[<-hp] at x0 x1 x2 x3 x4 hsx hcall;rw[<-hq] at y0 y1 y2 y3 y4 hsy hcall;have HC:=Y1 hcall;have HWN:=Y1 hwn;have HSX:=Y1 hsx;have HSY:=Y1 hsy;have hbw:=Z01 wr (.cells (Y8 p (ra k)) 25);have HPN:=Y1 (HP.out.new HT.out hn0 hbw.drew);have HBW:=Y1 hbw;have HBX:=Y1 (Z05 wr p (ra k));obtain ⟨_,⟨a0,a1,a2,a3,a4⟩,_⟩:=HP.out.ba.next hbw;obtain ⟨_,⟨b0,b1,b2,b3,b4⟩,_⟩:=HP.out.bb.next hbw;obtain ⟨_,⟨c0,c1,c2,c3,c4⟩,_⟩:=HBX.out;have hgaW:ga < wr.heap.size:=by omega
    have hgbW:gb < wr.heap.size:=by omega
    have hwW:w.heap.size+1 < wr.heap.size:=by have:=HP.out.sz; omega
    simp only[Nat.zero_add] at a0 a1 a2 a3 a4 b0 b1 b2 b3 b4 c0 c1 c2 c3 c4;obtain ⟨y0,y1,y2,y3,y4⟩:=(show Sh5 wr gb (ob+k * 5) q (rb k) from ⟨y0,y1,y2,y3,y4⟩).keep hgbW hbw;obtain ⟨w3,hw3⟩: ∃w3,w3=wr.alloc (.cells (Y8 p (ra k)) 25):=⟨_,rfl⟩;rw[<-hw3] at hbw HPN HBW HBX a0 a1 a2 a3 a4 b0 b1 b2 b3 b4 c0 c1 c2 c3 c4 y0 y1 y2 y3 y4;have hw3':=hw3.symm;clear hw3 hcall hsx hsy hwn hp hq h5a h5b hbw
    go_wp2_with fail
    go_still_tail 13,(by kernel_rfl)
    change wpList _ _ _ _ _ w3.drew
    go_wp2_with fail
    rw[show ((k:Int)==(a.parts.length:Int) - 1)=decide (k+1=a.parts.length) from by rw[Bool.eq_iff_iff,beq_iff_eq,decide_eq_true_eq]; omega];have hu3:Upd (fun x=>n0<=x/\ ¬(w.heap.size<=x/\x < w.heap.size+2)) wr w3.drew:=Upd.new HBW.out.drew;refine (HC.out w3.drew (ra k) (rb k) HPN.out.sz HPN.out.k (Z0a HSX.out HWN.out hu3 (fun x h1 h2=>by omega)) (Z0a HSY.out HWN.out hu3 (fun x h1 h2=>by omega))).mono ?_;rintro e W2 ⟨rfl,hk2',hu2⟩;have HK2:=Y1 hk2';have HU2:=Y1 hu2;clear hk2' hu2 hu3 HC a0 a1 a2 a3 a4 b0 b1 b2 b3 b4 c0 c1 c2 c3 c4 y0 y1 y2 y3 y4 x0 x1 x2 x3 x4;cases hs:step k with
    | false=>
     have HALL:Hid (st=false):=Y1 (by
      rw[HST.out,Bool.eq_false_iff];intro h;have:=List.all_eq_true.1 h k (List.mem_range.2 hlt);rw[hs] at this; cases this)
     rw[hs] at HK2;clear hs;go_wp2;go_ret;rw[HALL.out];exact ⟨rfl,⟨_,HK2.out,nofun⟩,HPN.out.up.trans (HU2.out.mono (fun x _ h=>h.1))⟩
    | true=>
     rw[hs] at HK2;have HP4:=Y1 (HPN.out.upd HN.out HU2.out HK2.out);have HSS2:Hid ((List.range (k+1)).all step=true):=Y1 (by rw[List.range_succ,List.all_append,HSS.out]; simp[hs]);clear hs HK2 HU2;go_wp2
     go_roundw
     case rel=>exact ⟨k+1,by omega,by go_num,HSS2,HP4⟩
     case measure=>simp[intOf]; omega}
   {obtain rfl:k=a.parts.length:=by omega
    have hi1: ¬(a.parts.length:Int) < (a.parts.length:Int):=by omega
    have HALL:Hid (st=true):=Y1 (by rw[HST.out]; exact HSS.out);clear HSS;go_wp2;go_ret;rw[HALL.out];exact ⟨rfl,⟨_,HP.out.k,fun _=>rfl⟩,HP.out.up⟩}
end SubM
end Go.Proofs.YtlomianlcnmfgaaGreatDoor
namespace Go.Proofs.YtlomianlcnmfgaaGreatDoor
section
open Go.RowKit
theorem Z1F {P:Program} (w:World) {ops:Array Oper} {rest:List Oper} {o:Oper} {a:Act} {Q:Exit->Act->World->Prop} (hgd:Region.wanted o (yielded ops a.tmps)=true) (s x:Operand) (t:TypeId)
 (ho:o.op= .call { callee:= .builtin .append,args:=#[s,x],argTypes:=#[t,t] })
 (base:Nat) (e:TypeId) (i:TypeInfo) (z:Value) (size bytes:Nat) (ht:P.underlying t=some (.slice e)) (hi:P.info? e=some i) (hz:i.zero=some z)
 (hsize:i.size=size) (hby:i.bytes=bytes) (hzs:z.cells.size=size) (hsz:0 < size)
 (v:Value) (n:Nat) (xs:List Value) (hs:a.eval s=v) (hown:w.ownsRow base e size v n xs)
 (A:Option Addr) (m c:Nat) (news:List Value) (hx:a.eval x= .slice A m c) (hA:A=none->m=0/\c=0) (hl:news.length=m * size)
 (hnews: ∀ad,A=some ad-> ∀j u,news[j]? =some u->w.cell? (ad.add j)=some u) (h1: ∀u∈news,u.oneCell'=true)
 (h63:n+m<=maxLen) (hbytes: (n+m) * bytes<=140737488355328) (hbase:base<=w.heap.size)
 (h: ∀v' w',w'.ownsRow base e size v' (n+m) (xs++news)->Below base w w'->wpList P ops Q rest (a.put o.dst v') w'):wpList P ops Q (o::rest) a w:=by
 refine wpList_step fun K hK=> ?_;rw[if_pos hgd]
 match A,hA,hnews,hx with
 | some ad,_,hnews,hx=>
  exact wp_append_own w s x t ho base e i z size bytes ht hi hz hsize hby hzs hsz v n xs hs hown ad m c news hx hl (hnews ad rfl) h1 h63 hbytes hbase
   fun v' w' h2 h3 _=>hK _ _ (h v' w' h2 (Y2.grown h3 hbase (fun k hk=>(hown.lt k hk).1)))
 | none,hA,_,hx=>
  obtain ⟨rfl,rfl⟩:=hA rfl;obtain rfl:news= []:=List.eq_nil_of_length_eq_zero (by rw[hl,Nat.zero_mul]);have hr:=run_append_owned_none (P:=P) (w:=w) base t o.type e i size ht hi v n xs hown;unfold Oper.wp execOp;simp only[ho,resolve,invoke,builtin,Sem.run_bind,Sem.run_pure,Result.andThen_ok,List.map_toArray,List.map_cons,List.map_nil,hs,hx,hr];exact hK _ _ (h v w (by rw[List.append_nil]; exact hown) Y2)
end
section
open Go.RowKit Shp
structure PaR (W:World) (b:Nat) (ps:List Sh) (qs:Nat->Ptr):Prop where
 lt:b < W.heap.size
 at_: ∀i (h:i < ps.length),Sh5 W b (i * 5) (ps[i]'h) (qs i)
 fz: ∀k,W.frozen? ⟨b,k,none⟩=false
def Z0G (W W':World) (b:Nat):Prop:=(∀k,W'.cell? ⟨b,k,none⟩=W.cell? ⟨b,k,none⟩)/\ ∀k,W'.frozen? ⟨b,k,none⟩=W.frozen? ⟨b,k,none⟩
theorem PaR.of {W W':World} {b:Nat} {ps:List Sh} {qs:Nat->Ptr} (h:PaR W b ps qs) (hs:Z0G W W' b) (hz:W.heap.size<=W'.heap.size):PaR W' b ps qs:=
 ⟨Nat.lt_of_lt_of_le h.lt hz,fun i hi=>(h.at_ i hi).of hs.1,fun k=>(hs.2 k).trans (h.fz k)⟩
theorem TxR.of {W W':World} {b:Nat} {ts:List (List UInt8)} (h:TxR W b ts) (hs:Z0G W W' b) (hz:W.heap.size<=W'.heap.size):TxR W' b ts:=
 ⟨Nat.lt_of_lt_of_le h.lt hz,fun i hi=>(hs.1 i).trans (h.at_ i hi),fun k=>(hs.2 k).trans (h.fz k)⟩
inductive Own (W:World):Ptr->Sh->List Nat->Prop
 | mk (q:Ptr) (t:Sh) (F FN FP:List Nat) (qs:Nat->Ptr) (Fs:Nat->List Nat) (hs:Small t q)
  (hn:t.names.length=0/\FN= []\/ ∃b,q.A=some ⟨b,0,none⟩/\FN= [b]/\TxR W b t.names)
  (hp:t.parts.length=0/\FP= []\/ ∃b,q.P=some ⟨b,0,none⟩/\FP= [b]/\PaR W b t.parts qs)
  (hr: ∀i (h:i < t.parts.length),Own W (qs i) (t.parts[i]'h) (Fs i)) (hF:F=FN++FP++(List.range t.parts.length).flatMap Fs):Own W q t F
section
variable {W : World} {q : Ptr} {t : Sh} {F : List Nat} (h : Own W q t F)
include W q t F h
theorem Own.small:Small t q:=by cases h; assumption
theorem Own.inv: ∃(FN FP:List Nat) (qs:Nat->Ptr) (Fs:Nat->List Nat),
 (t.names.length=0/\FN= []\/ ∃b,q.A=some ⟨b,0,none⟩/\FN= [b]/\TxR W b t.names)/\
 (t.parts.length=0/\FP= []\/ ∃b,q.P=some ⟨b,0,none⟩/\FP= [b]/\PaR W b t.parts qs)/\
 (∀i (h:i < t.parts.length),Own W (qs i) (t.parts[i]'h) (Fs i))/\F=FN++FP++(List.range t.parts.length).flatMap Fs:=by
 cases h with
 | mk _ _ _ FN FP qs Fs hs hn hp hr hF=>exact ⟨FN,FP,qs,Fs,hn,hp,hr,hF⟩
end
theorem Own.of {W W':World} {q:Ptr} {t:Sh} {F:List Nat} (h:Own W q t F) (hc: ∀b∈F,Z0G W W' b) (hz:W.heap.size<=W'.heap.size):Own W' q t F:=by
 induction h with
 | mk q t F FN FP qs Fs hs hn hp hr hF ih=>
  subst hF;refine .mk q t _ FN FP qs Fs hs ?_ ?_ ?_ rfl
  {rcases hn with h | ⟨b,h1,rfl,h3⟩
   {exact Or.inl h}
   {exact Or.inr ⟨b,h1,rfl,h3.of (hc b (by simp)) hz⟩}}
  {rcases hp with h | ⟨b,h1,rfl,h3⟩
   {exact Or.inl h}
   {exact Or.inr ⟨b,h1,rfl,h3.of (hc b (by simp)) hz⟩}}
  {intro i hi;refine ih i hi (fun b hb=>hc b ?_);refine List.mem_append_right _ (List.mem_flatMap.2 ⟨i,List.mem_range.2 hi,hb⟩)}
theorem Own.at_ {W:World} {q:Ptr} {t:Sh} {F:List Nat} {B:Nat} (h:Own W q t F) (hB: ∀b∈F,b < B):ShAt W B q t:=by
 induction h with
 | mk q t F FN FP qs Fs hs hn hp hr hF ih=>
  subst hF;have hS:Strs W B q.A (strs t.names):=by
   rcases hn with ⟨h,_⟩ | ⟨b,h1,rfl,h3⟩
   {exact Or.inl (by rw[Z3v]; exact h)}
   {refine Or.inr ⟨b,0,h1,hB b (by simp),fun i hi=> ?_⟩;rw[Z3v] at hi;rw[Nat.zero_add,h3.at_ i hi];simp[strs]}
  have hrr: ∀i (h:i < t.parts.length),ShAt W B (qs i) (t.parts[i]'h):=fun i hi=>ih i hi (fun b hb=>hB b (List.mem_append_right _ (List.mem_flatMap.2 ⟨i,List.mem_range.2 hi,hb⟩)));rcases hp with ⟨h,_⟩ | ⟨b,h1,rfl,h3⟩
  {exact .mk q t 0 0 qs hs hS (Or.inl h) (fun i hi=>absurd hi (by omega)) hrr}
  {exact .mk q t b 0 qs hs hS (Or.inr ⟨h1,hB b (by simp)⟩) (fun i hi=>by rw[Nat.zero_add]; exact h3.at_ i hi) hrr}
theorem Own.lt {W:World} {q:Ptr} {t:Sh} {F:List Nat} (h:Own W q t F): ∀b∈F,b < W.heap.size:=by
 induction h with
 | mk q t F FN FP qs Fs hs hn hp hr hF ih=>
  subst hF;intro b hb;rcases List.mem_append.1 hb with hb | hb
  {rcases List.mem_append.1 hb with hb | hb
   {rcases hn with ⟨_,rfl⟩ | ⟨c,_,rfl,h3⟩
    {cases hb}
    {rw[List.mem_singleton] at hb; subst hb; exact h3.lt}}
   {rcases hp with ⟨_,rfl⟩ | ⟨c,_,rfl,h3⟩
    {cases hb}
    {rw[List.mem_singleton] at hb; subst hb; exact h3.lt}}}
  {obtain ⟨i,hi,hb⟩:=List.mem_flatMap.1 hb;exact ih i (List.mem_range.1 hi) b hb}
def Node (W:World) (g i:Nat) (t:Sh) (F:List Nat):Prop:= ∃q,Sh5 W g (i * 5) t q/\Own W q t F
structure Nd where
 g:Nat
 i:Nat
 t:Sh
 q:Ptr
def Ready (r:Nat) (T:Sh) (L:List Nd) (D:List Nat) (W:World):Prop:=
 ∀(W':World) (Fs:Nat->List Nat),W.heap.size<=W'.heap.size->
  (∀b∈D,∀k,(∀n∈L,¬(n.g=b/\(k=n.i * 5+3\/k=n.i * 5+4)))->W'.cell? ⟨b,k,none⟩=W.cell? ⟨b,k,none⟩)->
  (∀b∈D,∀k,W'.frozen? ⟨b,k,none⟩=W.frozen? ⟨b,k,none⟩)->
  (∀j (h:j < L.length),Node W' (L[j]'h).g (L[j]'h).i (L[j]'h).t (Fs j))->
  (∀j,j < L.length-> ∀b∈Fs j,b∉D)->((List.range L.length).flatMap Fs).Nodup->
  ∃F,Node W' r 0 T F/\F.Nodup/\ ∀b∈F,b∈D\/ ∃j,j < L.length/\b∈Fs j
theorem Z7m (r:Nat) (T:Sh) (q:Ptr) (D:List Nat) (W:World):Ready r T [⟨r,0,T,q⟩] D W:=by
 intro W' Fs _ _ _ hN _ hnd;refine ⟨Fs 0,hN 0 (by simp),by simpa using hnd,fun b hb=>Or.inr ⟨0,by simp,hb⟩⟩
theorem Z8A {r:Nat} {T:Sh} {D:List Nat} {W:World} (h:Ready r T [] D W): ∃F,Node W r 0 T F/\F.Nodup/\ ∀b∈F,b∈D:=by
 obtain ⟨F,h1,h2,h3⟩:=h W (fun _=> []) (Nat.le_refl _) (fun _ _ _ _=>rfl) (fun _ _ _=>rfl) (fun j hj=>absurd hj (by simp)) (fun j hj=>absurd hj (by simp)) (by simp);refine ⟨F,h1,h2,fun b hb=> ?_⟩;rcases h3 b hb with h | ⟨j,hj,_⟩
 {exact h}
 {exact absurd hj (by simp)}
theorem Ready.of {r:Nat} {T:Sh} {L:List Nd} {D:List Nat} {W W1:World} (h:Ready r T L D W) (hs: ∀b∈D,Z0G W W1 b) (hz:W.heap.size<=W1.heap.size):Ready r T L D W1:=
 fun W' Fs hz' hc hf hN hd hn=>h W' Fs (Nat.le_trans hz hz') (fun b hb k hx=>(hc b hb k hx).trans ((hs b hb).1 k)) (fun b hb k=>(hf b hb k).trans ((hs b hb).2 k)) hN hd hn
def kids (pb:Nat) (ps:List Sh) (qs:Nat->Ptr):List Nd:=ps.mapIdx fun i p=>⟨pb,i,p,qs i⟩
section
variable (pb : Nat) (ps : List Sh) (qs : Nat -> Ptr)
include pb ps qs
theorem Z15: (kids pb ps qs).length=ps.length:=by simp[kids]
theorem Z24 (i:Nat) (h:i < (kids pb ps qs).length): (kids pb ps qs)[i]'h=⟨pb,i,ps[i]'(by rwa [Z15] at h),qs i⟩:=by simp[kids]
end
theorem Z6b {pb:Nat} {ps:List Sh} {qs:Nat->Ptr} {n:Nd} (h:n∈kids pb ps qs):n.g=pb:=by
 obtain ⟨i,hi,rfl⟩:=List.getElem_of_mem h;rw[Z24]
theorem Z5K {n m:Nat} (Fs:Nat->List Nat): (List.range (n+m)).flatMap Fs=(List.range n).flatMap Fs++(List.range m).flatMap (fun i=>Fs (n+i)):=by
 rw[List.range_add,List.flatMap_append,List.flatMap_map]
theorem Ready.step {r:Nat} {T:Sh} {L:List Nd} {a:Nd} {D DN DP:List Nat} {W W1:World} {q1:Ptr} {pb:Nat} {qs:Nat->Ptr} (hR:Ready r T (L++ [a]) D W) (hD: ∀b∈D,b < W.heap.size)
 (hag:a.g∈D) (hLg: ∀n∈L,n.g∈D) (hne: ∀n∈L,n.g=a.g->n.i≠a.i) (hsz:W.heap.size<=W1.heap.size) (ha:Sh5 W1 a.g (a.i * 5) a.t q1) (hs:Small a.t q1)
 (hk: ∀b∈D,∀k,¬(a.g=b/\(k=a.i * 5+3\/k=a.i * 5+4))->W1.cell? ⟨b,k,none⟩=W.cell? ⟨b,k,none⟩) (hf: ∀b∈D,∀k,W1.frozen? ⟨b,k,none⟩=W.frozen? ⟨b,k,none⟩)
 (hn:a.t.names.length=0/\DN= []\/ ∃b,q1.A=some ⟨b,0,none⟩/\DN= [b]/\W.heap.size<=b/\TxR W1 b a.t.names)
 (hp:a.t.parts.length=0/\DP= []\/q1.P=some ⟨pb,0,none⟩/\DP= [pb]/\W.heap.size<=pb/\pb∉DN/\PaR W1 pb a.t.parts qs):
 Ready r T (L++kids pb a.t.parts qs) (D++DN++DP) W1:=by
 intro W' Fs hsz' hcell hfr hN hdis hnd;have hlen: (L++kids pb a.t.parts qs).length=L.length+a.t.parts.length:=by rw[List.length_append,Z15]
 have hpg: ∀n∈kids pb a.t.parts qs,a.t.parts.length≠0:=fun n hn h0=>by
  have:kids pb a.t.parts qs= []:=List.eq_nil_of_length_eq_zero (by rw[Z15]; exact h0);rw[this] at hn; cases hn
 have hkid: ∀n∈kids pb a.t.parts qs,n.g=pb/\W.heap.size<=pb/\pb∉DN:=fun n hnm=>by
  rcases hp with ⟨h0,_⟩ | ⟨_,_,h3,h4,_⟩
  {exact absurd h0 (hpg n hnm)}
  {exact ⟨Z6b hnm,h3,h4⟩}
 have hDNb: ∀b∈DN,W.heap.size<=b:=fun b hb=>by
  rcases hn with ⟨_,rfl⟩ | ⟨c,_,rfl,h3,_⟩
  {cases hb}
  {rw[List.mem_singleton] at hb; subst hb; exact h3}
 have hDPb: ∀b∈DP,W.heap.size<=b/\b∉DN:=fun b hb=>by
  rcases hp with ⟨_,rfl⟩ | ⟨_,rfl,h3,h4,_⟩
  {cases hb}
  {rw[List.mem_singleton] at hb; subst hb; exact ⟨h3,h4⟩}
 have hDNn:DN.Nodup:=by
  rcases hn with ⟨_,rfl⟩ | ⟨c,_,rfl,_⟩ <;> simp
 have hDPn:DP.Nodup:=by
  rcases hp with ⟨_,rfl⟩ | ⟨_,rfl,_⟩ <;> simp
 let Fk:Nat->List Nat:=fun i=>Fs (L.length+i)
 let Fa:List Nat:=DN++DP++(List.range a.t.parts.length).flatMap Fk
 let Fs':Nat->List Nat:=fun j=>if j < L.length then Fs j else Fa
 rw[hlen] at hdis hnd;rw[Z5K] at hnd;have hnd':=List.nodup_append.1 hnd;have hdisD: ∀j,j < L.length+a.t.parts.length-> ∀b∈Fs j,b∉D/\b∉DN/\b∉DP:=fun j hj b hb=>by
  have:=hdis j hj b hb;simp only[List.mem_append,not_or] at this;exact ⟨this.1.1,this.1.2,this.2⟩
 -- the place that was copied
 have hkn: ∀i (h:i < a.t.parts.length),Node W' pb i (a.t.parts[i]'h) (Fk i):=fun i hi=>by
  have h1:=hN (L.length+i) (by rw[hlen]; omega);have e: (L++kids pb a.t.parts qs)[L.length+i]'(by rw[hlen]; omega)=⟨pb,i,a.t.parts[i]'hi,qs i⟩:=by
   rw[List.getElem_append_right (by omega)];simp only[Nat.add_sub_cancel_left];exact Z24 _ _ _ _ _
  rw[e] at h1;exact h1
 have hqk: ∃qk:Nat->Ptr,∀i (h:i < a.t.parts.length),Sh5 W' pb (i * 5) (a.t.parts[i]'h) (qk i)/\Own W' (qk i) (a.t.parts[i]'h) (Fk i):=by
  refine ⟨fun i=>if h:i < a.t.parts.length then (hkn i h).choose else ⟨none,0,none,0⟩,fun i h=> ?_⟩;simp only[dif_pos h];exact (hkn i h).choose_spec
 obtain ⟨qk,hqk⟩:=hqk;have hexc: ∀b∈D,∀k,(∀n∈L,¬(n.g=b/\(k=n.i * 5+3\/k=n.i * 5+4)))->W'.cell? ⟨b,k,none⟩=W1.cell? ⟨b,k,none⟩:=fun b hb k hx=>by
  refine hcell b (by simp[hb]) k (fun n hnm=> ?_);rcases List.mem_append.1 hnm with h | h
  {exact hx n h}
  {intro ⟨h1,_⟩;have h2:=hkid n h;have:=hD b hb;omega}
 have hNa:Node W' a.g a.i a.t Fa:=by
  refine ⟨q1, ?_,.mk q1 a.t Fa DN DP qk Fk hs ?_ ?_ (fun i hi=>(hqk i hi).2) rfl⟩
  {have e: ∀c,c < 5->W'.cell? ⟨a.g,a.i * 5+c,none⟩=W1.cell? ⟨a.g,a.i * 5+c,none⟩:=fun c hc=>hexc a.g hag _ (fun n hnm ⟨h1,h2⟩=>by
    have:=hne n hnm h1;omega)
   obtain ⟨h0,h1,h2,h3,h4⟩:=ha;exact ⟨(e 0 (by omega)).trans h0,(e 1 (by omega)).trans h1,(e 2 (by omega)).trans h2,(e 3 (by omega)).trans h3,(e 4 (by omega)).trans h4⟩}
  {rcases hn with h | ⟨b,h1,rfl,h3,h4⟩
   {exact Or.inl h}
   {refine Or.inr ⟨b,h1,rfl,h4.of ⟨fun k=>hcell b (by simp) k (fun n hnm=> ?_),fun k=>hfr b (by simp) k⟩ hsz'⟩;rcases List.mem_append.1 hnm with h | h
    {intro ⟨h5,_⟩;have:=hD _ (hLg n h);omega}
    {intro ⟨h5,_⟩;have h6:=hkid n h;rw[List.mem_singleton] at h6;omega}}}
  {rcases hp with h | ⟨h1,rfl,h3,h4,h5⟩
   {exact Or.inl h}
   {exact Or.inr ⟨pb,h1,rfl,Nat.lt_of_lt_of_le h5.lt hsz',fun i hi=>(hqk i hi).1,fun k=>(hfr pb (by simp) k).trans (h5.fz k)⟩}}
 have hFaD: ∀b∈Fa,b∉D:=fun b hb hbD=>by
  have hlt:=hD b hbD;rcases List.mem_append.1 hb with hb | hb
  {rcases List.mem_append.1 hb with hb | hb
   {have:=hDNb b hb; omega}
   {have:=(hDPb b hb).1; omega}}
  {obtain ⟨i,hi,hb⟩:=List.mem_flatMap.1 hb;exact (hdisD (L.length+i) (by have:=List.mem_range.1 hi; omega) b hb).1 hbD}
 have hFan:Fa.Nodup:=by
  refine List.nodup_append.2 ⟨List.nodup_append.2 ⟨hDNn,hDPn,fun x hx y hy e=>(hDPb y hy).2 (e▸hx)⟩,hnd'.2.1,fun x hx y hy e=> ?_⟩;subst e;obtain ⟨i,hi,hb⟩:=List.mem_flatMap.1 hy;have h1:=hdisD (L.length+i) (by have:=List.mem_range.1 hi; omega) x hb;rcases List.mem_append.1 hx with h | h
  {exact h1.2.1 h}
  {exact h1.2.2 h}
 have hll: (L++ [a]).length=L.length+1:=by simp
 have hFs': (List.range L.length).flatMap Fs'=(List.range L.length).flatMap Fs:=by
  have: ∀(l:List Nat),(∀j∈l,j < L.length)->l.flatMap Fs'=l.flatMap Fs:=by
   intro l;induction l with
   | nil=>intro _; rfl
   | cons j l ih=>
    intro h;rw[List.flatMap_cons,List.flatMap_cons,ih (fun j hj=>h j (by simp[hj]))];simp only[Fs',if_pos (h j (by simp))]
  exact this _ (fun j hj=>List.mem_range.1 hj)
 obtain ⟨F,h1,h2,h3⟩:=hR W' Fs' (Nat.le_trans hsz hsz') (fun b hb k hx=>by
  rw[hexc b hb k (fun n hnm=>hx n (by simp[hnm]))];exact hk b hb k (hx a (by simp)))
  (fun b hb k=>(hfr b (by simp[hb]) k).trans (hf b hb k))
  (fun j hj=>by
   rw[hll] at hj;by_cases hjl:j < L.length
   {have e: (L++ [a])[j]'(by rw[hll]; omega)=L[j]'hjl:=List.getElem_append_left hjl;have h1:=hN j (by rw[hlen]; omega);have e2: (L++kids pb a.t.parts qs)[j]'(by rw[hlen]; omega)=L[j]'hjl:=List.getElem_append_left hjl;rw[e2] at h1;rw[e];simp only[Fs',if_pos hjl];exact h1}
   · have hje:j=L.length:=by omega
     subst hje;have e: (L++ [a])[L.length]'(by rw[hll]; omega)=a:=by simp
     rw[e];simp only[Fs',if_neg hjl];exact hNa)
  (fun j hj b hb=>by
   rw[hll] at hj;by_cases hjl:j < L.length
   {simp only[Fs',if_pos hjl] at hb;exact (hdisD j (by omega) b hb).1}
   · simp only[Fs',if_neg hjl] at hb
     exact hFaD b hb)
  (by
   rw[hll,List.range_succ,List.flatMap_append,hFs'];have e: [L.length].flatMap Fs'=Fa:=by simp[Fs']
   rw[e];refine List.nodup_append.2 ⟨hnd'.1,hFan,fun x hx y hy e=> ?_⟩;subst e;obtain ⟨j,hj,hxj⟩:=List.mem_flatMap.1 hx;have hd:=hdisD j (by have:=List.mem_range.1 hj; omega) x hxj;rcases List.mem_append.1 hy with hy | hy
   {rcases List.mem_append.1 hy with hy | hy
    {exact hd.2.1 hy}
    {exact hd.2.2 hy}}
   · exact hnd'.2.2 x hx x hy rfl)
 refine ⟨F,h1,h2,fun b hb=> ?_⟩;rcases h3 b hb with h | ⟨j,hj,h⟩
 {exact Or.inl (by simp[h])}
 {rw[hll] at hj;by_cases hjl:j < L.length
  {simp only[Fs',if_pos hjl] at h;exact Or.inr ⟨j,by rw[hlen]; omega,h⟩}
  {simp only[Fs',if_neg hjl] at h;rcases List.mem_append.1 h with h | h
   {rcases List.mem_append.1 h with h | h
    {exact Or.inl (by simp[h])}
    {exact Or.inl (by simp[h])}}
   {obtain ⟨i,hi,h⟩:=List.mem_flatMap.1 h;exact Or.inr ⟨L.length+i,by rw[hlen]; have:=List.mem_range.1 hi; omega,h⟩}}}
theorem Z5n: (Tryz.prog.info? 9).map (fun i=>(i.zero,i.size,i.bytes))=some (some (.string ByteArray.empty),1,16):=by kernel_rfl
theorem Z2d: (Tryz.prog.info? 25).map (fun i=>(i.zero,i.size,i.bytes))=some (some (.agg #[.int .i64 0,.string ByteArray.empty,.string ByteArray.empty,.slice none 0 0,.slice none 0 0]),5,88):=by kernel_rfl
def Z4e (t:Sh) (q:Ptr):Nat->Value
 | 0=> .int .i64 t.kind
 | 1=> .string ⟨t.of_.toArray⟩
 | 2=> .string ⟨t.name.toArray⟩
 | 3=> .slice q.A t.names.length q.c
 | _=> .slice q.P t.parts.length q.d
def Z5V:Sh:=⟨0,[],[],[],[]⟩
def Z2i (ps:List Sh) (qs:Nat->Ptr):List Value:=(List.range (ps.length * 5)).map fun j=>Z4e (ps.getD (j / 5) Z5V) (qs (j / 5)) (j % 5)
section
variable (ps : List Sh) (qs : Nat -> Ptr)
include ps qs
theorem Z4Q: (Z2i ps qs).length=ps.length * 5:=by simp[Z2i]
theorem Z5o {i c:Nat} (hi:i < ps.length) (hc:c < 5): (Z2i ps qs)[i * 5+c]? =some (Z4e (ps[i]'hi) (qs i) c):=by
 have h1:i * 5+c < ps.length * 5:=by omega
 have h2: (i * 5+c) / 5=i:=by omega
 have h3: (i * 5+c) % 5=c:=by omega
 simp[Z2i,h1,h2,h3,List.getD,List.getElem?_eq_getElem hi]
theorem Z8B: ∀u∈Z2i ps qs,u.oneCell'=true:=by
 intro u hu;obtain ⟨j,_,rfl⟩:=List.mem_map.1 hu;generalize j % 5=c
 match c with
 | 0=>rfl
 | 1=>rfl
 | 2=>rfl
 | 3=>rfl
 | _+4=>rfl
end
section
variable {W : World}
include W
theorem Z9T {g o:Nat} {t:Sh} {q:Ptr} (h:Sh5 W g o t q) {c:Nat} (hc:c < 5):W.cell? ⟨g,o+c,none⟩=some (Z4e t q c):=by
 obtain ⟨h0,h1,h2,h3,h4⟩:=h
 match c,hc with
 | 0,_=>exact h0
 | 1,_=>exact h1
 | 2,_=>exact h2
 | 3,_=>exact h3
 | 4,_=>exact h4
theorem Z9U {g o:Nat} {t:Sh} {q:Ptr} (h: ∀c,c < 5->W.cell? ⟨g,o+c,none⟩=some (Z4e t q c)):Sh5 W g o t q:=
 ⟨h 0 (by omega),h 1 (by omega),h 2 (by omega),h 3 (by omega),h 4 (by omega)⟩
theorem Zbo {B b n cap:Nat} {ps:List Sh} {qs:Nat->Ptr} (h:W.ownsRow B 25 5 (.slice (some ⟨b,0,none⟩) n cap) n (Z2i ps qs)) (hn:n=ps.length):PaR W b ps qs:=by
 subst hn;refine ⟨(h.lt b rfl).2,fun i hi=>Z9U (fun c hc=> ?_),fun k=>h.frozenAt k⟩;rw[h.cellAt _ (by omega),Z5o ps qs hi hc]
theorem Zbp {B b n cap:Nat} {l:List (List UInt8)} (h:W.ownsRow B 9 1 (.slice (some ⟨b,0,none⟩) n cap) n ((strs l).map Value.string)) (hn:n=l.length):TxR W b l:=by
 subst hn;refine ⟨(h.lt b rfl).2,fun i hi=> ?_,fun k=>h.frozenAt k⟩;rw[h.cellAt _ (by omega)];simp[strs,hi]
end
theorem Z6c (b o k:Nat): (⟨b,o,none⟩:Addr).add k=⟨b,o+k,none⟩:=Z0f b o k
theorem Z7n (A:Option Addr) (c:Nat) (l:List (List UInt8)) (w:World) (hA:Strs w w.heap.size A (strs l)) (hl:l.length<=1000000000) (hlc:l.length<=c) (hA0:A=none->c=0):
 Calls Tryz.prog 81 #[.slice A l.length c] w fun e w'=>(∃A' c',e= .returned (.slice A' l.length c')/\l.length<=c'/\(A'=none->c'=0)/\(l.length=0\/ ∃b,A'=some ⟨b,0,none⟩/\w.heap.size<=b/\TxR w' b l))/\Below w.heap.size w w':=by
 obtain ⟨i0,hi,hz0,hz1,hz2⟩:=info_parts (P:=Tryz.prog) (e:=9) (z:= .string ByteArray.empty) (size:=1) (bytes:=16) Z5n;have q22: ∀(w:World) (a:Option Addr) (n c n' c':Nat),(binOp .eql 22 (.slice a n c) (.slice none n' c')).run Tryz.prog w= .ok (.bool a.isNone) w:=fun w a n c n' c'=>Lib.run_eql_slice_nil w _ _ a n c n' c' Tryz.underlying22;cases A with
 | none=>
  obtain rfl:=hA0 rfl;have hl0:l= []:=List.eq_nil_of_length_eq_zero (by omega);subst hl0;go_enter Tryz.func81,Tryz.ntmps81;go_wp2;go_ret;exact ⟨⟨none,0,by simp⟩,Below.refl _ _⟩
 | some ad=>
  have HA:=Y1 hA.cell7;clear hA hA0;go_enter Tryz.func81,Tryz.ntmps81
  go_wp2_with (at_builtin; refine Z1F _ rfl _ _ 22 rfl w.heap.size 9 i0 (.string ByteArray.empty) 1 16 Tryz.underlying22 hi hz0 hz1 hz2 rfl (by decide) _ 0 [] rfl (World.ownsRow_made w #[] 0 (Nat.le_refl _) (Nat.zero_le _) rfl) (some ad) l.length c ((strs l).map Value.string) rfl nofun ?qc1 ?qc2 ?qc3 ?qc4 ?qc5 ?qc6 ?_)
  case qc1=>simp[strs]
  case qc2=>
   intro ad' had j u hj;cases had;have hjl:j < l.length:=by
    have:=(List.getElem?_eq_some_iff.1 hj).1;simpa[strs] using this
   rcases HA.out with h0 | ⟨g,off,hgo,hg,hc⟩
   {omega}
   {cases hgo;rw[Z6c];refine ((Z01 w _).cell (p:=⟨g,off+j,none⟩) hg).trans ((hc j hjl).trans ?_);simp[strs,hjl] at hj;rw[<-hj]}
  case qc3=>intro u hu; obtain ⟨x,_,rfl⟩:=List.mem_map.1 hu; rfl
  case qc4=>unfold maxLen; omega
  case qc5=>omega
  case qc6=>simp
  intro v' w' hown hb;have hown2:w'.ownsRow w.heap.size 9 1 v' l.length ((strs l).map Value.string):=by simpa using hown
  have HO:=Y1 hown2;have HB:Hid (Below w.heap.size w w'):=Y1 ((Z01 w (.cells #[] 9)).trans hb);clear hown hown2 hb;go_wp2;go_ret;refine ⟨?_,HB.out⟩;have h:=HO.out;rcases h.2 with ⟨hv,h0⟩ | ⟨g,cap,cur,hv,hBg,hh,hnc,_⟩
  {exact ⟨none,0,by rw[hv,h0]; rfl,by omega,fun _=>rfl,Or.inl h0⟩}
  {rw[hv] at h;exact ⟨some ⟨g,0,none⟩,cap,by rw[hv]; rfl,hnc,nofun,Or.inr ⟨g,rfl,hBg,Zbp h rfl⟩⟩}
theorem Z7o (g off d:Nat) (ps:List Sh) (qs:Nat->Ptr) (w:World) (hg:g < w.heap.size) (hc: ∀i (h:i < ps.length),Sh5 w g (off+i * 5) (ps[i]'h) (qs i)) (hl:ps.length<=1000000000) (hpos:0 < ps.length):
 Calls Tryz.prog 106 #[.slice (some ⟨g,off,none⟩) ps.length d] w fun e w'=>(∃b c',e= .returned (.slice (some ⟨b,0,none⟩) ps.length c')/\ps.length<=c'/\w.heap.size<=b/\PaR w' b ps qs)/\Below w.heap.size w w':=by
 obtain ⟨i0,hi,hz0,hz1,hz2⟩:=info_parts (P:=Tryz.prog) (e:=25) (z:= .agg #[.int .i64 0,.string ByteArray.empty,.string ByteArray.empty,.slice none 0 0,.slice none 0 0]) (size:=5) (bytes:=88) Z2d;have q23: ∀(w:World) (a:Option Addr) (n c n' c':Nat),(binOp .eql 23 (.slice a n c) (.slice none n' c')).run Tryz.prog w= .ok (.bool a.isNone) w:=fun w a n c n' c'=>Lib.run_eql_slice_nil w _ _ a n c n' c' Tryz.underlying23;have HC:=Y1 hc;clear hc;go_enter Tryz.func106,Tryz.ntmps106
 go_wp2_with (at_builtin; refine Z1F _ rfl _ _ 23 rfl w.heap.size 25 i0 (.agg #[.int .i64 0,.string ByteArray.empty,.string ByteArray.empty,.slice none 0 0,.slice none 0 0]) 5 88 Tryz.underlying23 hi hz0 hz1 hz2 rfl (by decide) _ 0 [] rfl (World.ownsRow_made w #[] 0 (Nat.le_refl _) (Nat.zero_le _) rfl) (some ⟨g,off,none⟩) ps.length d (Z2i ps qs) rfl nofun ?qc1 ?qc2 ?qc3 ?qc4 ?qc5 ?qc6 ?_)
 case qc1=>rw[Z4Q]
 case qc2=>
  intro ad' had j u hj;cases had;have hjl:j < ps.length * 5:=by
   have:=(List.getElem?_eq_some_iff.1 hj).1
   rwa [Z4Q] at this
  obtain ⟨i,c,rfl,hci⟩: ∃i c,j=i * 5+c/\c < 5:=⟨j / 5,j % 5,by omega,by omega⟩;have hil:i < ps.length:=by omega
  rw[Z5o ps qs hil hci] at hj;rw[Z6c, <-Nat.add_assoc];refine ((Z01 w _).cell (p:=⟨g,off+i * 5+c,none⟩) hg).trans ((Z9T (HC.out i hil) hci).trans hj)
 case qc3=>exact Z8B ps qs
 case qc4=>unfold maxLen; omega
 case qc5=>omega
 case qc6=>simp
 intro v' w' hown hb;have hown2:w'.ownsRow w.heap.size 25 5 v' ps.length (Z2i ps qs):=by simpa using hown
 have HO:=Y1 hown2;have HB:Hid (Below w.heap.size w w'):=Y1 ((Z01 w (.cells #[] 25)).trans hb);clear hown hown2 hb;go_wp2;go_ret;refine ⟨?_,HB.out⟩;have h:=HO.out;rcases h.2 with ⟨hv,h0⟩ | ⟨b,cap,cur,hv,hBg,hh,hnc,_⟩
 {omega}
 {rw[hv] at h;exact ⟨b,cap,by rw[hv]; rfl,hnc,hBg,Zbo h rfl⟩}
theorem Z8C (A:Option Addr) (d:Nat) (w:World) (hA0:A=none->d=0):
 Calls Tryz.prog 106 #[.slice A 0 d] w fun e w'=>(∃A' d',e= .returned (.slice A' 0 d')/\(A'=none->d'=0))/\Below w.heap.size w w':=by
 obtain ⟨i0,hi,hz0,hz1,hz2⟩:=info_parts (P:=Tryz.prog) (e:=25) (z:= .agg #[.int .i64 0,.string ByteArray.empty,.string ByteArray.empty,.slice none 0 0,.slice none 0 0]) (size:=5) (bytes:=88) Z2d;have q23: ∀(w:World) (a:Option Addr) (n c n' c':Nat),(binOp .eql 23 (.slice a n c) (.slice none n' c')).run Tryz.prog w= .ok (.bool a.isNone) w:=fun w a n c n' c'=>Lib.run_eql_slice_nil w _ _ a n c n' c' Tryz.underlying23;cases A with
 | none=>
  obtain rfl:=hA0 rfl;go_enter Tryz.func106,Tryz.ntmps106;go_wp2;go_ret;exact ⟨⟨none,0,by simp⟩,Below.refl _ _⟩
 | some ad=>
  clear hA0;go_enter Tryz.func106,Tryz.ntmps106
  go_wp2_with (at_builtin; refine Z1F _ rfl _ _ 23 rfl w.heap.size 25 i0 (.agg #[.int .i64 0,.string ByteArray.empty,.string ByteArray.empty,.slice none 0 0,.slice none 0 0]) 5 88 Tryz.underlying23 hi hz0 hz1 hz2 rfl (by decide) _ 0 [] rfl (World.ownsRow_made w #[] 0 (Nat.le_refl _) (Nat.zero_le _) rfl) (some ad) 0 d [] rfl nofun ?qc1 ?qc2 ?qc3 ?qc4 ?qc5 ?qc6 ?_)
  case qc1=>rfl
  case qc2=>
   intro ad' had j u hj;simp at hj
  case qc3=>intro u hu; cases hu
  case qc4=>unfold maxLen; omega
  case qc5=>omega
  case qc6=>simp
  intro v' w' hown hb;have hown2:w'.ownsRow w.heap.size 25 5 v' 0 []:=by simpa using hown
  have HO:=Y1 hown2;have HB:Hid (Below w.heap.size w w'):=Y1 ((Z01 w (.cells #[] 25)).trans hb);clear hown hown2 hb;go_wp2;go_ret;refine ⟨?_,HB.out⟩;rcases HO.out.2 with ⟨hv,h0⟩ | ⟨g,cap,cur,hv,hBg,hh,hnc,_⟩
  {exact ⟨none,0,by rw[hv]; rfl,fun _=>rfl⟩}
  {exact ⟨some ⟨g,0,none⟩,cap,by rw[hv]; rfl,nofun⟩}
end
end Go.Proofs.YtlomianlcnmfgaaGreatDoor
