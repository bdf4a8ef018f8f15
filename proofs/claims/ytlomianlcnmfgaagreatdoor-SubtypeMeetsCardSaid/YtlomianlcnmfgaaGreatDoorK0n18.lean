/- What the proofs of SubtypeJoins, SubtypeMeets want, part 18. -/
import Derived.Test.YtlomianlcnmfgaaGreatDoorK0n17
set_option linter.unusedVariables false
set_option linter.unusedSimpArgs false
set_option linter.unusedSectionVars false
set_option maxRecDepth 100000
set_option maxHeartbeats 16000000
namespace Go.Proofs.YtlomianlcnmfgaaGreatDoor
open Go.RowKit Shp Sub
namespace SubM
def NIs (r:Sh) (n0:Nat) (W:World) (e:Ending) (W':World):Prop:=
 ∃qr,e= .returned (sv r qr)/\Below W.heap.size W W'/\Kept (fun b=>b < n0\/W.heap.size<=b) W' (r,qr)
structure GX where
 W0:World
 gm:Nat
 hi:Nat
 AN:Option Addr
 cN:Nat
 AP:Option Addr
 cP:Nat
 nl:List (List UInt8)
 l:List El
 nm:List UInt8
 xv:Value
 gb:Nat
 ob:Nat
 q:Sh
 qy:Ptr
 r:Sh
 n0:Nat
namespace GX
variable (X : GX)
def val (j:Nat):Option Value:=match j with
 | 0 | 14=>some (.pointer (some ⟨X.gm,3,none⟩))
 | 5 | 16=>some (.pointer (some ⟨X.gm,4,none⟩))
 | 1=>some (.slice X.AN X.nl.length X.cN)
 | 2=>some (.string ⟨X.nm.toArray⟩)
 | 6=>some (.slice X.AP X.l.length X.cP)
 | 7=>some X.xv
 | 8 | 9=>some (.pointer (some ⟨X.gb,X.ob,none⟩))
 | 10=>some (sv X.q X.qy)
 | _=>none
def set (b:Nat):Prop:=b=X.gm\/rowB X.AN=some b\/rowB X.AP=some b
structure Good:Prop where
 ng:X.n0<=X.gm
 gh:X.gm < X.hi
 hw:X.hi<=X.W0.heap.size
 c3:X.W0.cell? ⟨X.gm,3,none⟩=some (.slice X.AN X.nl.length X.cN)
 c4:X.W0.cell? ⟨X.gm,4,none⟩=some (.slice X.AP X.l.length X.cP)
 fz: ∀j,X.W0.frozen? ⟨X.gm,j,none⟩=false
 rN:X.W0.ownsRow X.hi 9 1 (.slice X.AN X.nl.length X.cN) X.nl.length (namesE X.nl)
 rP:X.W0.ownsRow X.hi 25 5 (.slice X.AP X.l.length X.cP) X.l.length (cellsE X.l)
 ne:rowB X.AN=none\/rowB X.AN≠rowB X.AP
 gbn:X.gb < X.n0
 box:Sh5 X.W0 X.gb X.ob X.q X.qy
 ln:X.nl.length<=1000
 ll:X.l.length<=1000
 ok: ∀W,Upd X.set X.W0 W->Calls Tryz.prog 53 #[X.xv,sv X.q X.qy] W (NIs X.r X.n0 W)
structure GI (d:Nat->Bool) (u:Nat->Value) (W:World):Prop where
 vals: ∀j,d j=true-> ∀v,X.val j=some v->u j=v
 up:Upd X.set X.W0 W
 f3:d 3=true->d 4=false-> ∃z,u 3= .slice (some ⟨z,0,none⟩) 1 1/\X.W0.heap.size<=z/\z < W.heap.size/\W.cell? ⟨z,0,none⟩=some (.string ⟨X.nm.toArray⟩)
 n0:d 4=false->W.ownsRow X.hi 9 1 (.slice X.AN X.nl.length X.cN) X.nl.length (namesE X.nl)
 n1:d 4=true-> ∃g c,u 4= .slice (some ⟨g,0,none⟩) (X.nl.length+1) c/\W.ownsRow X.hi 9 1 (.slice (some ⟨g,0,none⟩) (X.nl.length+1) c) (X.nl.length+1) (namesE X.nl++ [.string ⟨X.nm.toArray⟩])/\(rowB X.AN=some g\/X.W0.heap.size<=g)
 ca:d 11=true-> ∃qr s e,u 11=sv X.r qr/\X.W0.heap.size<=s/\s<=e/\e<=W.heap.size/\Kept (fun b=>b < X.n0\/(s<=b/\b < e)) W (X.r,qr)/\(∀g n c,u 4= .slice (some ⟨g,0,none⟩) n c->g < s)/\
  (d 12=true->d 13=false-> ∃z,u 12= .slice (some ⟨z,0,none⟩) 1 1/\e<=z/\z < W.heap.size/\ ∀(j:Nat) v,(cells5 (X.r,qr))[j]? =some v->W.cell? ⟨z,j,none⟩=some v)/\
  (d 13=true-> ∃g c,u 13= .slice (some ⟨g,0,none⟩) (X.l.length+1) c/\W.ownsRow X.hi 25 5 (.slice (some ⟨g,0,none⟩) (X.l.length+1) c) (X.l.length+1) (cellsE X.l++cells5 (X.r,qr))/\(rowB X.AP=some g\/e<=g))
 p0:d 13=false->W.ownsRow X.hi 25 5 (.slice X.AP X.l.length X.cP) X.l.length (cellsE X.l)
 c3:W.cell? ⟨X.gm,3,none⟩=some (if d 15=true then u 4 else .slice X.AN X.nl.length X.cN)
 c4:W.cell? ⟨X.gm,4,none⟩=some (if d 17=true then u 13 else .slice X.AP X.l.length X.cP)
 cr: ∀j,j < 3->W.cell? ⟨X.gm,j,none⟩=X.W0.cell? ⟨X.gm,j,none⟩
 fz: ∀j,W.frozen? ⟨X.gm,j,none⟩=false
variable {X : GX} {d : Nat -> Bool} {u : Nat -> Value} {W W' : World}
theorem GI.vals' (h:X.GI d u W) {i:Nat} {v:Value} (hv: ∀v',X.val i=some v'->v=v'): ∀j,also d i j=true-> ∀v',X.val j=some v'->upd u i v j=v':=fun j hj v' hv'=>by
 by_cases hij:j=i
 {subst hij; rw[Z0h]; exact hv v' hv'}
 {rw[Z0k d hij] at hj; rw[Z04 u v hij]; exact h.vals j hj v' hv'}
theorem Good.start (h:X.Good):X.GI (fun _=>false) u X.W0.drew:=
 ⟨nofun,(Upd.refl _ _).drew,nofun,fun _=>h.rN,nofun,nofun,fun _=>h.rP,h.c3,h.c4,fun _ _=>rfl,h.fz⟩
theorem GI.pure (h:X.GI d u W) {i:Nat} (hi:i≠3/\i≠4/\i≠11/\i≠12/\i≠13/\i≠15/\i≠17) {v:Value} (hv: ∀v',X.val i=some v'->v=v'):X.GI (also d i) (upd u i v) W:=by
 have k: ∀j,j=3\/j=4\/j=11\/j=12\/j=13\/j=15\/j=17->also d i j=d j/\upd u i v j=u j:=fun j hj=>⟨Z0k d (by omega),Z04 u v (by omega)⟩;refine ⟨h.vals' hv,h.up, ?_, ?_, ?_, ?_, ?_, ?_, ?_,h.cr,h.fz⟩
 {rw[(k 3 (by omega)).1,(k 3 (by omega)).2,(k 4 (by omega)).1]; exact h.f3}
 {rw[(k 4 (by omega)).1]; exact h.n0}
 {rw[(k 4 (by omega)).1,(k 4 (by omega)).2]; exact h.n1}
 {rw[(k 11 (by omega)).1,(k 11 (by omega)).2,(k 4 (by omega)).2,(k 12 (by omega)).1,(k 12 (by omega)).2,(k 13 (by omega)).1,(k 13 (by omega)).2]; exact h.ca}
 {rw[(k 13 (by omega)).1]; exact h.p0}
 {rw[(k 15 (by omega)).1,(k 4 (by omega)).2]; exact h.c3}
 {rw[(k 17 (by omega)).1,(k 13 (by omega)).2]; exact h.c4}
theorem Good.set_lt (h:X.Good) {b:Nat} (hb:X.set b):X.gm<=b/\b < X.W0.heap.size:=by
 have h1:=h.gh;have h2:=h.hw;rcases hb with rfl | hb | hb
 {omega}
 {have:=Z08 h.rN b hb; omega}
 {have:=Z08 h.rP b hb; omega}
theorem GI.box (h:X.GI d u W) (hX:X.Good):Sh5 W X.gb X.ob X.q X.qy:=
 hX.box.of (fun k=>h.up.cell (by have:=hX.gbn; have:=hX.ng; have:=hX.gh; have:=hX.hw; omega) (fun hs=>by have:=(hX.set_lt hs).1; have:=hX.gbn; have:=hX.ng; omega))
theorem GI.gmw (h:X.GI d u W) (hX:X.Good):X.gm < W.heap.size:=by have:=hX.gh; have:=hX.hw; have:=h.up.size; omega
theorem ZcR (hX:X.Good) {S:Nat->Prop} (hu:Upd S W W') (hS: ∀b,S b->X.set b) {s e:Nat} {x:El} (hs:X.W0.heap.size<=s) (hk:Kept (fun b=>b < X.n0\/(s<=b/\b < e)) W x):Kept (fun b=>b < X.n0\/(s<=b/\b < e)) W' x:=
 hk.upd hu (fun b hb hb2 hb3=>by
  have:=hX.set_lt (hS b hb3);have:=hX.ng;rcases hb2 with h | h <;> omega)
theorem GI.new (h:X.GI d u W) (hX:X.Good) (hb:Below W.heap.size W W'):X.GI d u W':=by
 have hgm:=h.gmw hX;have hu:Upd (fun _=>False) W W':=Upd.new hb;refine ⟨h.vals,h.up.trans (hu.mono (fun _ _ h=>h.elim)),fun h3 h4=> ?_,fun h4=>Z0g (h.n0 h4) hu (fun _ _ h=>h),fun h4=> ?_,fun h11=> ?_,fun h13=>Z0g (h.p0 h13) hu (fun _ _ h=>h),
  (hu.cell hgm (fun h=>h)).trans h.c3,(hu.cell hgm (fun h=>h)).trans h.c4,fun j hj=>(hu.cell hgm (fun h=>h)).trans (h.cr j hj),fun j=>(hu.frozen hgm (fun h=>h)).trans (h.fz j)⟩
 {obtain ⟨z,e,z1,z2,z3⟩:=h.f3 h3 h4;exact ⟨z,e,z1,Nat.lt_of_lt_of_le z2 hu.size,(hu.cell z2 (fun h=>h)).trans z3⟩}
 {obtain ⟨g,c,e,r,n⟩:=h.n1 h4;exact ⟨g,c,e,Z0g r hu (fun _ _ h=>h),n⟩}
 {obtain ⟨qr,s,e,e11,s1,s2,s3,hk,hg,h12,h13⟩:=h.ca h11;refine ⟨qr,s,e,e11,s1,s2,Nat.le_trans s3 hu.size,hk.upd hu (fun _ _ _ h=>h),hg,fun a b=> ?_,fun a=> ?_⟩
  {obtain ⟨z,e,z1,z2,z3⟩:=h12 a b;exact ⟨z,e,z1,Nat.lt_of_lt_of_le z2 hu.size,fun j v hv=>(hu.cell z2 (fun h=>h)).trans (z3 j v hv)⟩}
  {obtain ⟨g,c,e,r,n⟩:=h13 a;exact ⟨g,c,e,Z0g r hu (fun _ _ h=>h),n⟩}}
theorem GI.s3 (h:X.GI d u W) (hX:X.Good):X.GI (also d 3) (upd u 3 (.slice (some ⟨W.heap.size,0,none⟩) 1 1)) (W.alloc (.cells #[.string ⟨X.nm.toArray⟩] 9)):=by
 have hn:=h.new hX (Z01 W (.cells #[.string ⟨X.nm.toArray⟩] 9));have k: ∀j,j≠3->also d 3 j=d j/\ ∀v,upd u 3 v j=u j:=fun j hj=>⟨Z0k d hj,fun v=>Z04 u v hj⟩;have hs:=h.up.size;refine ⟨hn.vals' (fun v' h=>by cases h),hn.up,fun _ _=>⟨W.heap.size,Z0h _ _ _,hs,by simp,by simp[go_sem]⟩, ?_, ?_, ?_, ?_, ?_, ?_,hn.cr,hn.fz⟩
 {rw[(k 4 (by omega)).1]; exact hn.n0}
 {rw[(k 4 (by omega)).1,(k 4 (by omega)).2]; exact hn.n1}
 {rw[(k 11 (by omega)).1,(k 11 (by omega)).2,(k 4 (by omega)).2,(k 12 (by omega)).1,(k 12 (by omega)).2,(k 13 (by omega)).1,(k 13 (by omega)).2]; exact hn.ca}
 {rw[(k 13 (by omega)).1]; exact hn.p0}
 {rw[(k 15 (by omega)).1,(k 4 (by omega)).2]; exact hn.c3}
 {rw[(k 17 (by omega)).1,(k 13 (by omega)).2]; exact hn.c4}
theorem GI.s4 (h:X.GI d u W) (hX:X.Good) (h11:d 11=false) (h13:d 13=false) (h15:d 15=false) (h17:d 17=false) {g c:Nat} (hown:W'.ownsRow X.hi 9 1 (.slice (some ⟨g,0,none⟩) (X.nl.length+1) c) (X.nl.length+1) (namesE X.nl++ [.string ⟨X.nm.toArray⟩]))
 (hg:W.grownBy W' (rowB X.AN)) (hat:rowB X.AN=some g\/g=W.heap.size):X.GI (also d 4) (upd u 4 (.slice (some ⟨g,0,none⟩) (X.nl.length+1) c)) W':=by
 have k: ∀j,j≠4->also d 4 j=d j/\ ∀v,upd u 4 v j=u j:=fun j hj=>⟨Z0k d hj,fun v=>Z04 u v hj⟩;have hu:Upd (fun b=>rowB X.AN=some b) W W':=(Upd.refl _ W).grown hg (fun k h _=>h);have hgm:=h.gmw hX;have hgN: ¬rowB X.AN=some X.gm:=fun e=>by have:=(Z08 hX.rN _ e).1; have:=hX.gh; omega
 have hs:=h.up.size;refine ⟨h.vals' (fun v' h=>by cases h),h.up.trans (hu.mono (fun b _ hb=>Or.inr (Or.inl hb))), ?_, ?_, ?_, ?_, ?_, ?_, ?_,fun j hj=>(hu.cell hgm hgN).trans (h.cr j hj),fun j=>(hu.frozen hgm hgN).trans (h.fz j)⟩
 {rw[Z0o]; nofun}
 {rw[Z0o]; nofun}
 {exact fun _=>⟨g,c,Z0h _ _ _,hown,hat.imp id (fun e=>by omega)⟩}
 {rw[(k 11 (by omega)).1,h11]; nofun}
 {exact fun _=>Z0g (h.p0 h13) hu (fun b hb e=>by
   rcases hX.ne with hne | hne
   {rw[hne] at e; cases e}
   · exact hne (e.trans hb.symm))}
 {rw[(k 15 (by omega)).1,h15];have:=h.c3;rw[h15] at this;exact (hu.cell hgm hgN).trans this}
 {rw[(k 17 (by omega)).1,h17];have:=h.c4;rw[h17] at this;exact (hu.cell hgm hgN).trans this}
theorem not_gm (hX:X.Good) {W':World} {g n c e s m:Nat} {xs:List Value} (r:W'.ownsRow X.hi e s (.slice (some ⟨g,0,none⟩) n c) m xs) {b:Nat} (hb:rowB (some ⟨g,0,none⟩)=some b) (he:b=X.gm):False:=by
 have e1:g=b:=by simpa[rowB] using hb
 have h1:=(r.lt g rfl).1;have:=hX.gh;omega
theorem GI.sto (h:X.GI d u W) (hX:X.Good) (h4:d 4=true) (h13:d 13=true) (i f:Nat) (hi:i=15/\f=3\/i=17/\f=4) (hd:d i=false):X.GI (also d i) (upd u i undef) (W.setCell ⟨X.gm,f,none⟩ (if i=15 then u 4 else u 13)):=by
 have k: ∀j,j≠i->also d i j=d j/\ ∀v,upd u i v j=u j:=fun j hj=>⟨Z0k d hj,fun v=>Z04 u v hj⟩;have hgm:=h.gmw hX;obtain ⟨g8,c8,e8,r8,n8⟩:=h.n1 h4;have hu:Upd (fun b=>b=X.gm) W (W.setCell ⟨X.gm,f,none⟩ (if i=15 then u 4 else u 13)):=Upd.set (Upd.refl (fun b=>b=X.gm) W) ⟨X.gm,f,none⟩ (fun _=>rfl) _;have far: ∀j,j≠f->(W.setCell ⟨X.gm,f,none⟩ (if i=15 then u 4 else u 13)).cell? ⟨X.gm,j,none⟩=W.cell? ⟨X.gm,j,none⟩:=fun j hj=>World.cell?_setCell_other _ _ _ _ (fun e=>by have:=congrArg Addr.off e; simp at this; omega);refine ⟨h.vals' (fun v' h=>by rcases hi with ⟨rfl,_⟩ | ⟨rfl,_⟩ <;> cases h),h.up.trans (hu.mono (fun b _ hb=>Or.inl hb)), ?_, ?_, ?_, ?_, ?_, ?_, ?_,fun j hj=>(far j (by omega)).trans (h.cr j hj),fun j=>(World.frozen?_setCell ..).trans (h.fz j)⟩
 {rw[(k 4 (by omega)).1,h4]; nofun}
 {rw[(k 4 (by omega)).1,h4]; nofun}
 {rw[(k 4 (by omega)).2];exact fun _=>⟨g8,c8,e8,Z0g r8 hu (fun b hb e=>not_gm hX r8 hb e),n8⟩}
 {rw[(k 11 (by omega)).1,(k 11 (by omega)).2,(k 4 (by omega)).2,(k 13 (by omega)).1,(k 13 (by omega)).2];intro h11;obtain ⟨qr,s,e,e11,s1,s2,s3,hk,hgs,_,hp⟩:=h.ca h11;obtain ⟨g,c,e13,r13,n13⟩:=hp h13;refine ⟨qr,s,e,e11,s1,s2,Nat.le_trans s3 hu.size,ZcR hX hu (fun b hb=>Or.inl hb) s1 hk,hgs,fun _ hf=>absurd (h13.symm.trans hf) (by decide),fun _=>⟨g,c,e13,Z0g r13 hu (fun b hb e=>not_gm hX r13 hb e),n13⟩⟩}
 {rw[(k 13 (by omega)).1,h13]; nofun}
 {rw[(k 4 (by omega)).2];rcases hi with ⟨rfl,rfl⟩ | ⟨rfl,rfl⟩
  {rw[Z0o,if_pos rfl,if_pos rfl];exact World.cell?_setCell_same _ _ _ h.c3}
  {rw[(k 15 (by omega)).1];exact (far 3 (by omega)).trans h.c3}}
 {rw[(k 13 (by omega)).2];rcases hi with ⟨rfl,rfl⟩ | ⟨rfl,rfl⟩
  {rw[(k 17 (by omega)).1];exact (far 4 (by omega)).trans h.c4}
  {rw[Z0o,if_pos rfl,if_neg (by omega)];exact World.cell?_setCell_same _ _ _ h.c4}}
end GX
end SubM
end Go.Proofs.YtlomianlcnmfgaaGreatDoor
namespace Go.Proofs.YtlomianlcnmfgaaGreatDoor
open Go.RowKit Shp Sub
namespace SubM
structure NX where
 W0:World
 gm:Nat
 hi:Nat
 AN:Option Addr
 cN:Nat
 nl:List (List UInt8)
 bx:Nat
 g:Nat
 off:Nat
 m:Nat
 c:Nat
 i:Nat
 nm:List UInt8
namespace NX
variable (X : NX)
def val (j:Nat):Option Value:=match j with
 | 0 | 9=>some (.pointer (some ⟨X.gm,3,none⟩))
 | 1=>some (.slice X.AN X.nl.length X.cN)
 | 2=>some (.pointer (some ⟨X.bx,3,none⟩))
 | 3=>some (.slice (some ⟨X.g,X.off,none⟩) X.m X.c)
 | 4=>some (.int .i64 (X.i:Int))
 | 5=>some (.pointer (some ⟨X.g,X.off+X.i,none⟩))
 | 6=>some (.string ⟨X.nm.toArray⟩)
 | _=>none
def set (b:Nat):Prop:=b=X.gm\/rowB X.AN=some b
structure Good:Prop where
 gh:X.gm < X.hi
 hw:X.hi<=X.W0.heap.size
 c3:X.W0.cell? ⟨X.gm,3,none⟩=some (.slice X.AN X.nl.length X.cN)
 fz: ∀j,X.W0.frozen? ⟨X.gm,j,none⟩=false
 rN:X.W0.ownsRow X.hi 9 1 (.slice X.AN X.nl.length X.cN) X.nl.length (namesE X.nl)
 b3:X.bx < X.gm/\X.W0.cell? ⟨X.bx,3,none⟩=some (.slice (some ⟨X.g,X.off,none⟩) X.m X.c)
 s3:X.g < X.gm/\X.W0.cell? ⟨X.g,X.off+X.i,none⟩=some (.string ⟨X.nm.toArray⟩)
 ln:X.nl.length<=1000
structure NI (d:Nat->Bool) (u:Nat->Value) (W:World):Prop where
 vals: ∀j,d j=true-> ∀v,X.val j=some v->u j=v
 up:Upd X.set X.W0 W
 f7:d 7=true->d 8=false-> ∃z,u 7= .slice (some ⟨z,0,none⟩) 1 1/\X.W0.heap.size<=z/\z < W.heap.size/\W.cell? ⟨z,0,none⟩=some (.string ⟨X.nm.toArray⟩)
 n0:d 8=false->W.ownsRow X.hi 9 1 (.slice X.AN X.nl.length X.cN) X.nl.length (namesE X.nl)
 n1:d 8=true-> ∃g c,u 8= .slice (some ⟨g,0,none⟩) (X.nl.length+1) c/\W.ownsRow X.hi 9 1 (.slice (some ⟨g,0,none⟩) (X.nl.length+1) c) (X.nl.length+1) (namesE X.nl++ [.string ⟨X.nm.toArray⟩])/\(rowB X.AN=some g\/X.W0.heap.size<=g)
 c3:W.cell? ⟨X.gm,3,none⟩=some (if d 10=true then u 8 else .slice X.AN X.nl.length X.cN)
 cr: ∀j,j≠3->W.cell? ⟨X.gm,j,none⟩=X.W0.cell? ⟨X.gm,j,none⟩
 fz: ∀j,W.frozen? ⟨X.gm,j,none⟩=false
variable {X : NX} {d : Nat -> Bool} {u : Nat -> Value} {W W' : World}
theorem NI.vals' (h:X.NI d u W) {i:Nat} {v:Value} (hv: ∀v',X.val i=some v'->v=v'): ∀j,also d i j=true-> ∀v',X.val j=some v'->upd u i v j=v':=fun j hj v' hv'=>by
 by_cases hij:j=i
 {subst hij; rw[Z0h]; exact hv v' hv'}
 {rw[Z0k d hij] at hj; rw[Z04 u v hij]; exact h.vals j hj v' hv'}
theorem Good.start (h:X.Good):X.NI (fun _=>false) u X.W0.drew:=
 ⟨nofun,(Upd.refl _ _).drew,nofun,fun _=>h.rN,nofun,h.c3,fun _ _=>rfl,h.fz⟩
theorem NI.pure (h:X.NI d u W) {i:Nat} (hi:i≠7/\i≠8/\i≠10) {v:Value} (hv: ∀v',X.val i=some v'->v=v'):X.NI (also d i) (upd u i v) W:=by
 have k: ∀j,j=7\/j=8\/j=10->also d i j=d j/\upd u i v j=u j:=fun j hj=>⟨Z0k d (by omega),Z04 u v (by omega)⟩;refine ⟨h.vals' hv,h.up, ?_, ?_, ?_, ?_,h.cr,h.fz⟩
 {rw[(k 7 (by omega)).1,(k 7 (by omega)).2,(k 8 (by omega)).1]; exact h.f7}
 {rw[(k 8 (by omega)).1]; exact h.n0}
 {rw[(k 8 (by omega)).1,(k 8 (by omega)).2]; exact h.n1}
 {rw[(k 10 (by omega)).1,(k 8 (by omega)).2]; exact h.c3}
theorem Good.set_lt (h:X.Good) {b:Nat} (hb:X.set b):X.gm<=b/\b < X.W0.heap.size:=by
 have h1:=h.gh;have h2:=h.hw;rcases hb with rfl | hb
 {omega}
 {have:=Z08 h.rN b hb; omega}
section
variable (h : X.NI d u W) (hX : X.Good)
include h hX
theorem NI.look:W.cell? ⟨X.bx,3,none⟩=some (.slice (some ⟨X.g,X.off,none⟩) X.m X.c)/\W.cell? ⟨X.g,X.off+X.i,none⟩=some (.string ⟨X.nm.toArray⟩):=by
 have hg:=hX.gh;have hw:=hX.hw;exact ⟨(h.up.cell (by have:=hX.b3.1; omega) (fun hs=>by have:=(hX.set_lt hs).1; have:=hX.b3.1; omega)).trans hX.b3.2,(h.up.cell (by have:=hX.s3.1; omega) (fun hs=>by have:=(hX.set_lt hs).1; have:=hX.s3.1; omega)).trans hX.s3.2⟩
theorem NI.gmw:X.gm < W.heap.size:=by have:=hX.gh; have:=hX.hw; have:=h.up.size; omega
theorem NI.s7 (h8:d 8=false):X.NI (also d 7) (upd u 7 (.slice (some ⟨W.heap.size,0,none⟩) 1 1)) (W.alloc (.cells #[.string ⟨X.nm.toArray⟩] 9)):=by
 have hu:Upd (fun _=>False) W (W.alloc (.cells #[.string ⟨X.nm.toArray⟩] 9)):=Upd.new (Z01 _ _);have k: ∀j,j≠7->also d 7 j=d j/\ ∀v,upd u 7 v j=u j:=fun j hj=>⟨Z0k d hj,fun v=>Z04 u v hj⟩;have hs:=h.up.size;have hgm:=h.gmw hX;refine ⟨h.vals' (fun v' h=>by cases h),h.up.trans (hu.mono (fun _ _ h=>h.elim)),fun _ _=>⟨W.heap.size,Z0h _ _ _,hs,by simp,by simp[go_sem]⟩, ?_, ?_, ?_,fun j hj=>(hu.cell hgm (fun h=>h)).trans (h.cr j hj),fun j=>(hu.frozen hgm (fun h=>h)).trans (h.fz j)⟩
 {rw[(k 8 (by omega)).1]; exact fun h8=>Z0g (h.n0 h8) hu (fun _ _ h=>h)}
 {rw[(k 8 (by omega)).1,h8]; nofun}
 {rw[(k 10 (by omega)).1,(k 8 (by omega)).2]; exact (hu.cell hgm (fun h=>h)).trans h.c3}
theorem NI.s8 (h10:d 10=false) {g c:Nat} (hown:W'.ownsRow X.hi 9 1 (.slice (some ⟨g,0,none⟩) (X.nl.length+1) c) (X.nl.length+1) (namesE X.nl++ [.string ⟨X.nm.toArray⟩]))
 (hg:W.grownBy W' (rowB X.AN)) (hat:rowB X.AN=some g\/g=W.heap.size):X.NI (also d 8) (upd u 8 (.slice (some ⟨g,0,none⟩) (X.nl.length+1) c)) W':=by
 have k: ∀j,j≠8->also d 8 j=d j/\ ∀v,upd u 8 v j=u j:=fun j hj=>⟨Z0k d hj,fun v=>Z04 u v hj⟩;have hu:Upd (fun b=>rowB X.AN=some b) W W':=(Upd.refl _ W).grown hg (fun k h _=>h);have hgm:=h.gmw hX;have hgN: ¬rowB X.AN=some X.gm:=fun e=>by have:=(Z08 hX.rN _ e).1; have:=hX.gh; omega
 have hs:=h.up.size;refine ⟨h.vals' (fun v' h=>by cases h),h.up.trans (hu.mono (fun b _ hb=>Or.inr hb)), ?_, ?_, ?_, ?_,fun j hj=>(hu.cell hgm hgN).trans (h.cr j hj),fun j=>(hu.frozen hgm hgN).trans (h.fz j)⟩
 {rw[Z0o]; exact fun _ h=>by cases h}
 {rw[Z0o]; nofun}
 {exact fun _=>⟨g,c,Z0h _ _ _,hown,hat.imp id (fun e=>by omega)⟩}
 {rw[(k 10 (by omega)).1,h10];have:=h.c3;rw[h10] at this;exact (hu.cell hgm hgN).trans this}
theorem NI.s10 (h8:d 8=true):X.NI (also d 10) (upd u 10 undef) (W.setCell ⟨X.gm,3,none⟩ (u 8)):=by
 have k: ∀j,j≠10->also d 10 j=d j/\ ∀v,upd u 10 v j=u j:=fun j hj=>⟨Z0k d hj,fun v=>Z04 u v hj⟩;have hgm:=h.gmw hX;obtain ⟨g8,c8,e8,r8,n8⟩:=h.n1 h8;have hu:Upd (fun b=>b=X.gm) W (W.setCell ⟨X.gm,3,none⟩ (u 8)):=Upd.set (Upd.refl (fun b=>b=X.gm) W) ⟨X.gm,3,none⟩ (fun _=>rfl) _;have far: ∀j,j≠3->(W.setCell ⟨X.gm,3,none⟩ (u 8)).cell? ⟨X.gm,j,none⟩=W.cell? ⟨X.gm,j,none⟩:=fun j hj=>World.cell?_setCell_other _ _ _ _ (fun e=>by have:=congrArg Addr.off e; simp at this; omega);have hgh:=hX.gh;have hgg:=(Z08 r8 g8 rfl).1;refine ⟨h.vals' (fun v' h=>by cases h),h.up.trans (hu.mono (fun b _ hb=>Or.inl hb)), ?_, ?_, ?_, ?_,fun j hj=>(far j hj).trans (h.cr j hj),fun j=>(World.frozen?_setCell ..).trans (h.fz j)⟩
 {rw[(k 8 (by omega)).1,h8]; exact fun _ h=>by cases h}
 {rw[(k 8 (by omega)).1,h8]; nofun}
 {rw[(k 8 (by omega)).2];exact fun _=>⟨g8,c8,e8,Z0g r8 hu (fun b hb e=>by
   have e1:g8=b:=by simpa[rowB] using hb
   have e2:b=X.gm:=e;omega),n8⟩}
 {rw[(k 8 (by omega)).2,Z0o,if_pos rfl];exact World.cell?_setCell_same _ _ _ h.c3}
end
end NX
end SubM
end Go.Proofs.YtlomianlcnmfgaaGreatDoor
namespace Go.Proofs.YtlomianlcnmfgaaGreatDoor
open Go.RowKit Shp Sub
namespace SubM
structure KBs (w0 w4:World) (n0 gm hi rc:Nat) (k:Int) (o nm:List UInt8) (nl:List (List UInt8)) (ps:List Sh) (l:List El) (AN:Option Addr) (cN:Nat) (AP:Option Addr) (cP:Nat) (W:World):Prop where
 mm:Mk w0 gm hi k o nm nl l AN cN AP cP W
 eq:l.map Prod.fst=ps
 kp: ∀x∈l,Kept (Free n0 hi AN AP) W x
 rr:Rc rc W
 up:Upd (fun b=>b=gm\/hi<=b) w4 W
section
variable {w0 w4 W W' : World} {n0 gm hi rc : Nat} {k : Int} {o nm : List UInt8} {nl : List (List UInt8)} {ps : List Sh} {l : List El} {AN AP : Option Addr} {cN cP : Nat}
theorem KBs.len (h:KBs w0 w4 n0 gm hi rc k o nm nl ps l AN cN AP cP W):l.length=ps.length:=by have:=congrArg List.length h.eq; simpa using this
theorem KBs.new (h:KBs w0 w4 n0 gm hi rc k o nm nl ps l AN cN AP cP W) (hb:Below W.heap.size W W'):KBs w0 w4 n0 gm hi rc k o nm nl ps l AN cN AP cP W':=
 ⟨h.mm.new hb,h.eq,fun x hx=>(h.kp x hx).upd (T:=fun _=>False) (Upd.new hb) (fun _ _ _ h=>h),h.rr.upd (T:=fun _=>False) (Upd.new hb) (fun h=>h),h.up.trans (Upd.new hb)⟩
theorem NX.done {X:NX} {d:Nat->Bool} {u:Nat->Value} (hI:X.NI d u W) (hX:X.Good) (hd: ∀j,j < 11->d j=true) (hg:X.gm=gm) (hh:X.hi=hi) (hnl:X.nl=nl) (hAN:X.AN=AN) (hc:X.cN=cN) (hng:n0<=gm) (hrc:rc < gm)
 (hK:KBs w0 w4 n0 gm hi rc k o nm nl ps l AN cN AP cP X.W0): ∃AN' cN',KBs w0 w4 n0 gm hi rc k o nm (nl++ [X.nm]) ps l AN' cN' AP cP W/\(∀b,rowB AN'=some b->rowB AN=some b\/X.W0.heap.size<=b)/\Upd (fun b=>b=gm\/rowB AN=some b) X.W0 W:=by
 subst hg hh hnl hAN hc;obtain ⟨g,c,e8,r8,n8⟩:=hI.n1 (hd 8 (by omega));have c3:=hI.c3;rw[hd 10 (by omega),e8] at c3;simp only[if_true] at c3;have hm:=hK.mm;have hu:=hI.up;have hgg:=(Z08 r8 g rfl).1;have hgh:=hm.gh;have hrl: ∀b,X.set b->w0.heap.size<=b:=fun b hb=>by have:=(hX.set_lt hb).1; have:=hm.lo; omega
 refine ⟨some ⟨g,0,none⟩,c,⟨⟨hm.up.trans (hu.below hm.up.size hrl),hm.lo,hm.gh,Nat.le_trans hm.hw hu.size,(hI.cr 0 (by omega)).trans hm.c0,(hI.cr 1 (by omega)).trans hm.c1,(hI.cr 2 (by omega)).trans hm.c2, ?_,(hI.cr 4 (by omega)).trans hm.c4,hI.fz, ?_, ?_,Or.inr (fun e=> ?_)⟩,hK.eq,fun x hx=> ?_, ?_, ?_⟩,fun b hb=> ?_,hu⟩
 {rw[List.length_append]; exact c3}
 {rw[List.length_append,namesE_append]; exact r8}
 {refine Z0g hm.rP hu (fun b hb hs=> ?_);rcases hs with hs | hs
  {have:=(Z08 hm.rP b hb).1; omega}
  {rcases hm.ne with hne | hne
   {rw[hne] at hs; cases hs}
   {exact hne (hs.trans hb.symm)}}}
 {have e2:rowB AP=some g:=by rw[<-e]; rfl
  rcases n8 with h | h
  {rcases hm.ne with hne | hne
   {rw[hne] at h; cases h}
   {exact hne (h.trans e2.symm)}}
  {have:=(Z08 hm.rP g e2).2; omega}}
 {refine (hK.kp x hx).move hu (fun b hb hf=>⟨fun ht=> ?_, ?_⟩)
  {rcases hf with hf | ⟨hf,f1,f2⟩
   {have:=(hX.set_lt ht).1; omega}
   {rcases ht with ht | ht
    {omega}
    {exact f1 ht}}}
  {rcases hf with hf | ⟨hf,f1,f2⟩
   {exact Or.inl hf}
   {refine Or.inr ⟨hf,fun e=> ?_,f2⟩;have e:g=b:=by simpa[rowB] using e
    subst e;exact n8.elim f1 (fun h=>by omega)}}}
 {exact hK.rr.upd hu (fun ht=>by have:=(hX.set_lt ht).1; omega)}
 {refine hK.up.trans (hu.mono (fun b _ hb=> ?_));rcases hb with hb | hb
  {exact Or.inl hb}
  {exact Or.inr (Z08 hm.rN b hb).1}}
 {have e:g=b:=by simpa[rowB] using hb
  subst e;exact n8}
theorem KBs.putP {Wb W1:World} {pb e:Nat} {x:El} (hK:KBs w0 w4 n0 gm hi rc k o nm nl ps l AN cN AP cP W) (hng:n0<=gm) (hrc:rc < gm) (hx:Kept (fun b=>b < n0\/(pb < b/\b < e)) W x) (he:e<=W.heap.size) (hpb:hi<=pb)
 (rn: ∀b,rowB AN=some b->b < pb\/e<=b) (rp: ∀b,rowB AP=some b->b < pb\/e<=b) (hb:Below W.heap.size W Wb) {g c:Nat} (hg:Wb.grownBy W1 (rowB AP)) (hrow:W1.ownsRow hi 25 5 (.slice (some ⟨g,0,none⟩) (l.length+1) c) (l.length+1) (cellsE l++cells5 x))
 (hat:rowB AP=some g\/g=Wb.heap.size):KBs w0 w4 n0 gm hi rc k o nm nl (ps++ [x.1]) (l++ [x]) AN cN (some ⟨g,0,none⟩) c (W1.setCell ⟨gm,4,none⟩ (.slice (some ⟨g,0,none⟩) (l.length+1) c)):=by
 have hm:=(hK.mm.new hb).putP hg hrow hat;have hmm:=hK.mm;have hgh:=hmm.gh;have hu1:Upd (fun b=>rowB AP=some b) W W1:=(Upd.new (S:=fun b=>rowB AP=some b) hb).grown hg (fun k h _=>h);have hu2:Upd (fun b=>b=gm) W1 (W1.setCell ⟨gm,4,none⟩ (.slice (some ⟨g,0,none⟩) (l.length+1) c)):=Upd.set (Upd.refl (fun b=>b=gm) W1) ⟨gm,4,none⟩ (fun _=>rfl) _;have hu:Upd (fun b=>b=gm\/rowB AP=some b) W (W1.setCell ⟨gm,4,none⟩ (.slice (some ⟨g,0,none⟩) (l.length+1) c)):=(hu1.mono (fun _ _ h=>Or.inr h)).trans (hu2.mono (fun _ _ h=>Or.inl h));have hgw:rowB AP=some g\/W.heap.size<=g:=hat.imp id (fun h=>by have:=hb.size; omega);have hrp:=fun b h=>Z08 hmm.rP b h;refine ⟨hm,by rw[List.map_append,hK.eq]; rfl,fun y hy=> ?_,hK.rr.upd hu (fun ht=> ?_),hK.up.trans (hu.mono (fun b _ hb=> ?_))⟩
 {rcases List.mem_append.1 hy with hy | hy
  {refine (hK.kp y hy).move hu (fun b hb hf=>⟨fun ht=> ?_, ?_⟩)
   {rcases hf with hf | ⟨hf,f1,f2⟩
    {rcases ht with ht | ht
     {omega}
     {have:=(hrp b ht).1; omega}}
    {rcases ht with ht | ht
     {omega}
     {exact f2 ht}}}
   {rcases hf with hf | ⟨hf,f1,f2⟩
    {exact Or.inl hf}
    {refine Or.inr ⟨hf,f1,fun e=> ?_⟩;have e:g=b:=by simpa[rowB] using e
     subst e;exact hgw.elim f2 (fun h=>by omega)}}}
  {rw[List.mem_singleton.1 hy];refine hx.move hu (fun b hb hf=>⟨fun ht=> ?_, ?_⟩)
   {rcases hf with hf | hf
    {rcases ht with ht | ht
     {omega}
     {have:=(hrp b ht).1; omega}}
    {rcases ht with ht | ht
     {omega}
     {have:=rp b ht; omega}}}
   {rcases hf with hf | hf
    {exact Or.inl hf}
    {refine Or.inr ⟨by omega,fun e=> ?_,fun e=> ?_⟩
     {have:=rn b e; omega}
     {have e:g=b:=by simpa[rowB] using e
      rcases hgw with h | h
      {have:=rp g h; omega}
      {omega}}}}}}
 {rcases ht with ht | ht
  {omega}
  {have:=(hrp rc ht).1; omega}}
 {rcases hb with hb | hb
  {exact Or.inl hb}
  {exact Or.inr (hrp b hb).1}}
theorem KBs.fin (h:KBs w0 w4 n0 gm hi rc k o nm nl ps l AN cN AP cP W) (ho:o.length<=9223372036854775807) (h1:nm.length<=9223372036854775807) (h2: ∀x∈nl,x.length<=1000) (h3:nl.length<=1000) (h4:ps.length<=1000):
 Sh5 W gm 0 ⟨k,o,nm,nl,ps⟩ ⟨AN,cN,AP,cP⟩/\Kept (fun b=>b < n0\/hi<=b) W (⟨k,o,nm,nl,ps⟩,⟨AN,cN,AP,cP⟩):=by
 have hl:=h.len;have hk:=h.mm.at_ (n0:=n0) h.kp ho h1 (fun x hx=>by have:=h2 x hx; omega) (by omega) (by omega);rw[h.eq] at hk;refine ⟨⟨h.mm.c0,h.mm.c1,h.mm.c2,h.mm.c3, ?_⟩,hk⟩;have:=h.mm.c4;rw[hl] at this;exact this
end
end SubM
end Go.Proofs.YtlomianlcnmfgaaGreatDoor
namespace Go.Proofs.YtlomianlcnmfgaaGreatDoor
open Go.RowKit Shp Sub
namespace SubM
structure NR where
 W0:World
 gm:Nat
 hi:Nat
 AN:Option Addr
 cN:Nat
 nl:List (List UInt8)
 bx:Nat
 g:Nat
 off:Nat
 m:Nat
 c:Nat
 i:Nat
 nm:List UInt8
namespace NR
variable (X : NR)
def val (j:Nat):Option Value:=match j with
 | 0 | 9=>some (.pointer (some ⟨X.gm,3,none⟩))
 | 1=>some (.slice X.AN X.nl.length X.cN)
 | 2=>some (.pointer (some ⟨X.bx,3,none⟩))
 | 3=>some (.slice (some ⟨X.g,X.off,none⟩) X.m X.c)
 | 4=>some (.int .i64 (X.i:Int))
 | 5=>some (.pointer (some ⟨X.g,X.off+X.i,none⟩))
 | 6=>some (.string ⟨X.nm.toArray⟩)
 | _=>none
def set (b:Nat):Prop:=b=X.gm\/rowB X.AN=some b
structure Good:Prop where
 gw:X.gm < X.W0.heap.size
 hg:X.hi<=X.gm
 gN: ¬rowB X.AN=some X.gm
 c3:X.W0.cell? ⟨X.gm,3,none⟩=some (.slice X.AN X.nl.length X.cN)
 fz: ∀j,X.W0.frozen? ⟨X.gm,j,none⟩=false
 rN:X.W0.ownsRow X.hi 9 1 (.slice X.AN X.nl.length X.cN) X.nl.length (namesE X.nl)
 b3: (X.bx < X.W0.heap.size/\ ¬X.set X.bx)/\X.W0.cell? ⟨X.bx,3,none⟩=some (.slice (some ⟨X.g,X.off,none⟩) X.m X.c)
 s3: (X.g < X.W0.heap.size/\ ¬X.set X.g)/\X.W0.cell? ⟨X.g,X.off+X.i,none⟩=some (.string ⟨X.nm.toArray⟩)
 ln:X.nl.length<=1000
structure RI2 (d:Nat->Bool) (u:Nat->Value) (W:World):Prop where
 vals: ∀j,d j=true-> ∀v,X.val j=some v->u j=v
 up:Upd X.set X.W0 W
 f7:d 7=true->d 8=false-> ∃z,u 7= .slice (some ⟨z,0,none⟩) 1 1/\X.W0.heap.size<=z/\z < W.heap.size/\W.cell? ⟨z,0,none⟩=some (.string ⟨X.nm.toArray⟩)
 n0:d 8=false->W.ownsRow X.hi 9 1 (.slice X.AN X.nl.length X.cN) X.nl.length (namesE X.nl)
 n1:d 8=true-> ∃g c,u 8= .slice (some ⟨g,0,none⟩) (X.nl.length+1) c/\W.ownsRow X.hi 9 1 (.slice (some ⟨g,0,none⟩) (X.nl.length+1) c) (X.nl.length+1) (namesE X.nl++ [.string ⟨X.nm.toArray⟩])/\(rowB X.AN=some g\/X.W0.heap.size<=g)
 c3:W.cell? ⟨X.gm,3,none⟩=some (if d 10=true then u 8 else .slice X.AN X.nl.length X.cN)
 cr: ∀j,j≠3->W.cell? ⟨X.gm,j,none⟩=X.W0.cell? ⟨X.gm,j,none⟩
 fz: ∀j,W.frozen? ⟨X.gm,j,none⟩=false
variable {X : NR} {d : Nat -> Bool} {u : Nat -> Value} {W W' : World}
theorem RI2.vals' (h:X.RI2 d u W) {i:Nat} {v:Value} (hv: ∀v',X.val i=some v'->v=v'): ∀j,also d i j=true-> ∀v',X.val j=some v'->upd u i v j=v':=fun j hj v' hv'=>by
 by_cases hij:j=i
 {subst hij; rw[Z0h]; exact hv v' hv'}
 {rw[Z0k d hij] at hj; rw[Z04 u v hij]; exact h.vals j hj v' hv'}
theorem Good.start (h:X.Good):X.RI2 (fun _=>false) u X.W0.drew:=
 ⟨nofun,(Upd.refl _ _).drew,nofun,fun _=>h.rN,nofun,h.c3,fun _ _=>rfl,h.fz⟩
theorem RI2.pure (h:X.RI2 d u W) {i:Nat} (hi:i≠7/\i≠8/\i≠10) {v:Value} (hv: ∀v',X.val i=some v'->v=v'):X.RI2 (also d i) (upd u i v) W:=by
 have k: ∀j,j=7\/j=8\/j=10->also d i j=d j/\upd u i v j=u j:=fun j hj=>⟨Z0k d (by omega),Z04 u v (by omega)⟩;refine ⟨h.vals' hv,h.up, ?_, ?_, ?_, ?_,h.cr,h.fz⟩
 {rw[(k 7 (by omega)).1,(k 7 (by omega)).2,(k 8 (by omega)).1]; exact h.f7}
 {rw[(k 8 (by omega)).1]; exact h.n0}
 {rw[(k 8 (by omega)).1,(k 8 (by omega)).2]; exact h.n1}
 {rw[(k 10 (by omega)).1,(k 8 (by omega)).2]; exact h.c3}
theorem Good.set_lt (h:X.Good) {b:Nat} (hb:X.set b):X.hi<=b/\b < X.W0.heap.size:=by
 rcases hb with rfl | hb
 {exact ⟨h.hg,h.gw⟩}
 {exact Z08 h.rN b hb}
section
variable (h : X.RI2 d u W) (hX : X.Good)
include h hX
theorem RI2.look:W.cell? ⟨X.bx,3,none⟩=some (.slice (some ⟨X.g,X.off,none⟩) X.m X.c)/\W.cell? ⟨X.g,X.off+X.i,none⟩=some (.string ⟨X.nm.toArray⟩):=
 ⟨(h.up.cell hX.b3.1.1 hX.b3.1.2).trans hX.b3.2,(h.up.cell hX.s3.1.1 hX.s3.1.2).trans hX.s3.2⟩
theorem RI2.gmw:X.gm < W.heap.size:=Nat.lt_of_lt_of_le hX.gw h.up.size
theorem RI2.s7 (h8:d 8=false):X.RI2 (also d 7) (upd u 7 (.slice (some ⟨W.heap.size,0,none⟩) 1 1)) (W.alloc (.cells #[.string ⟨X.nm.toArray⟩] 9)):=by
 have hu:Upd (fun _=>False) W (W.alloc (.cells #[.string ⟨X.nm.toArray⟩] 9)):=Upd.new (Z01 _ _);have k: ∀j,j≠7->also d 7 j=d j/\ ∀v,upd u 7 v j=u j:=fun j hj=>⟨Z0k d hj,fun v=>Z04 u v hj⟩;have hs:=h.up.size;have hgm:=h.gmw hX;refine ⟨h.vals' (fun v' h=>by cases h),h.up.trans (hu.mono (fun _ _ h=>h.elim)),fun _ _=>⟨W.heap.size,Z0h _ _ _,hs,by simp,by simp[go_sem]⟩, ?_, ?_, ?_,fun j hj=>(hu.cell hgm (fun h=>h)).trans (h.cr j hj),fun j=>(hu.frozen hgm (fun h=>h)).trans (h.fz j)⟩
 {rw[(k 8 (by omega)).1]; exact fun h8=>Z0g (h.n0 h8) hu (fun _ _ h=>h)}
 {rw[(k 8 (by omega)).1,h8]; nofun}
 {rw[(k 10 (by omega)).1,(k 8 (by omega)).2]; exact (hu.cell hgm (fun h=>h)).trans h.c3}
theorem RI2.s8 (h10:d 10=false) {g c:Nat} (hown:W'.ownsRow X.hi 9 1 (.slice (some ⟨g,0,none⟩) (X.nl.length+1) c) (X.nl.length+1) (namesE X.nl++ [.string ⟨X.nm.toArray⟩]))
 (hg:W.grownBy W' (rowB X.AN)) (hat:rowB X.AN=some g\/g=W.heap.size):X.RI2 (also d 8) (upd u 8 (.slice (some ⟨g,0,none⟩) (X.nl.length+1) c)) W':=by
 have k: ∀j,j≠8->also d 8 j=d j/\ ∀v,upd u 8 v j=u j:=fun j hj=>⟨Z0k d hj,fun v=>Z04 u v hj⟩;have hu:Upd (fun b=>rowB X.AN=some b) W W':=(Upd.refl _ W).grown hg (fun k h _=>h);have hgm:=h.gmw hX;have hgN:=hX.gN;have hs:=h.up.size;refine ⟨h.vals' (fun v' h=>by cases h),h.up.trans (hu.mono (fun b _ hb=>Or.inr hb)), ?_, ?_, ?_, ?_,fun j hj=>(hu.cell hgm hgN).trans (h.cr j hj),fun j=>(hu.frozen hgm hgN).trans (h.fz j)⟩
 {rw[Z0o]; exact fun _ h=>by cases h}
 {rw[Z0o]; nofun}
 {exact fun _=>⟨g,c,Z0h _ _ _,hown,hat.imp id (fun e=>by omega)⟩}
 {rw[(k 10 (by omega)).1,h10];have:=h.c3;rw[h10] at this;exact (hu.cell hgm hgN).trans this}
theorem RI2.s10 (h8:d 8=true):X.RI2 (also d 10) (upd u 10 undef) (W.setCell ⟨X.gm,3,none⟩ (u 8)):=by
 have k: ∀j,j≠10->also d 10 j=d j/\ ∀v,upd u 10 v j=u j:=fun j hj=>⟨Z0k d hj,fun v=>Z04 u v hj⟩;have hgm:=h.gmw hX;obtain ⟨g8,c8,e8,r8,n8⟩:=h.n1 h8;have hu:Upd (fun b=>b=X.gm) W (W.setCell ⟨X.gm,3,none⟩ (u 8)):=Upd.set (Upd.refl (fun b=>b=X.gm) W) ⟨X.gm,3,none⟩ (fun _=>rfl) _;have far: ∀j,j≠3->(W.setCell ⟨X.gm,3,none⟩ (u 8)).cell? ⟨X.gm,j,none⟩=W.cell? ⟨X.gm,j,none⟩:=fun j hj=>World.cell?_setCell_other _ _ _ _ (fun e=>by have:=congrArg Addr.off e; simp at this; omega);have hne:g8≠X.gm:=fun e=>n8.elim (fun h=>hX.gN (by rw[h,e])) (fun h=>by have:=hX.gw; omega);refine ⟨h.vals' (fun v' h=>by cases h),h.up.trans (hu.mono (fun b _ hb=>Or.inl hb)), ?_, ?_, ?_, ?_,fun j hj=>(far j hj).trans (h.cr j hj),fun j=>(World.frozen?_setCell ..).trans (h.fz j)⟩
 {rw[(k 8 (by omega)).1,h8]; exact fun _ h=>by cases h}
 {rw[(k 8 (by omega)).1,h8]; nofun}
 {rw[(k 8 (by omega)).2];exact fun _=>⟨g8,c8,e8,Z0g r8 hu (fun b hb e=>by
   have e1:g8=b:=by simpa[rowB] using hb
   have e2:b=X.gm:=e;exact hne (e1.trans e2)),n8⟩}
 {rw[(k 8 (by omega)).2,Z0o,if_pos rfl];exact World.cell?_setCell_same _ _ _ h.c3}
end
end NR
end SubM
end Go.Proofs.YtlomianlcnmfgaaGreatDoor
namespace Go.Proofs.YtlomianlcnmfgaaGreatDoor
open Go.RowKit Shp Sub
namespace SubM
structure PR where
 W0:World
 gm:Nat
 hi:Nat
 AP:Option Addr
 cP:Nat
 l:List El
 bx:Nat
 g:Nat
 off:Nat
 m:Nat
 c:Nat
 i:Nat
 x:El
namespace PR
variable (X : PR)
def val (j:Nat):Option Value:=match j with
 | 0 | 9=>some (.pointer (some ⟨X.gm,4,none⟩))
 | 1=>some (.slice X.AP X.l.length X.cP)
 | 2=>some (.pointer (some ⟨X.bx,4,none⟩))
 | 3=>some (.slice (some ⟨X.g,X.off,none⟩) X.m X.c)
 | 4=>some (.int .i64 (X.i:Int))
 | 5=>some (.pointer (some ⟨X.g,X.off+X.i * 5,none⟩))
 | 6=>some (sv X.x.1 X.x.2)
 | _=>none
def set (b:Nat):Prop:=b=X.gm\/rowB X.AP=some b
structure Good:Prop where
 gw:X.gm < X.W0.heap.size
 hg:X.hi<=X.gm
 gN: ¬rowB X.AP=some X.gm
 c3:X.W0.cell? ⟨X.gm,4,none⟩=some (.slice X.AP X.l.length X.cP)
 fz: ∀j,X.W0.frozen? ⟨X.gm,j,none⟩=false
 rN:X.W0.ownsRow X.hi 25 5 (.slice X.AP X.l.length X.cP) X.l.length (cellsE X.l)
 b3: (X.bx < X.W0.heap.size/\ ¬X.set X.bx)/\X.W0.cell? ⟨X.bx,4,none⟩=some (.slice (some ⟨X.g,X.off,none⟩) X.m X.c)
 s3: (X.g < X.W0.heap.size/\ ¬X.set X.g)/\Sh5 X.W0 X.g (X.off+X.i * 5) X.x.1 X.x.2
 ln:X.l.length<=1000
structure RI2 (d:Nat->Bool) (u:Nat->Value) (W:World):Prop where
 vals: ∀j,d j=true-> ∀v,X.val j=some v->u j=v
 up:Upd X.set X.W0 W
 f7:d 7=true->d 8=false-> ∃z,u 7= .slice (some ⟨z,0,none⟩) 1 1/\X.W0.heap.size<=z/\z < W.heap.size/\ ∀j v,(cells5 X.x)[j]? =some v->W.cell? ⟨z,j,none⟩=some v
 n0:d 8=false->W.ownsRow X.hi 25 5 (.slice X.AP X.l.length X.cP) X.l.length (cellsE X.l)
 n1:d 8=true-> ∃g c,u 8= .slice (some ⟨g,0,none⟩) (X.l.length+1) c/\W.ownsRow X.hi 25 5 (.slice (some ⟨g,0,none⟩) (X.l.length+1) c) (X.l.length+1) (cellsE X.l++cells5 X.x)/\(rowB X.AP=some g\/X.W0.heap.size<=g)
 c3:W.cell? ⟨X.gm,4,none⟩=some (if d 10=true then u 8 else .slice X.AP X.l.length X.cP)
 cr: ∀j,j≠4->W.cell? ⟨X.gm,j,none⟩=X.W0.cell? ⟨X.gm,j,none⟩
 fz: ∀j,W.frozen? ⟨X.gm,j,none⟩=false
variable {X : PR} {d : Nat -> Bool} {u : Nat -> Value} {W W' : World}
theorem RI2.vals' (h:X.RI2 d u W) {i:Nat} {v:Value} (hv: ∀v',X.val i=some v'->v=v'): ∀j,also d i j=true-> ∀v',X.val j=some v'->upd u i v j=v':=fun j hj v' hv'=>by
 by_cases hij:j=i
 {subst hij; rw[Z0h]; exact hv v' hv'}
 {rw[Z0k d hij] at hj; rw[Z04 u v hij]; exact h.vals j hj v' hv'}
theorem Good.start (h:X.Good):X.RI2 (fun _=>false) u X.W0.drew:=
 ⟨nofun,(Upd.refl _ _).drew,nofun,fun _=>h.rN,nofun,h.c3,fun _ _=>rfl,h.fz⟩
theorem RI2.pure (h:X.RI2 d u W) {i:Nat} (hi:i≠7/\i≠8/\i≠10) {v:Value} (hv: ∀v',X.val i=some v'->v=v'):X.RI2 (also d i) (upd u i v) W:=by
 have k: ∀j,j=7\/j=8\/j=10->also d i j=d j/\upd u i v j=u j:=fun j hj=>⟨Z0k d (by omega),Z04 u v (by omega)⟩;refine ⟨h.vals' hv,h.up, ?_, ?_, ?_, ?_,h.cr,h.fz⟩
 {rw[(k 7 (by omega)).1,(k 7 (by omega)).2,(k 8 (by omega)).1]; exact h.f7}
 {rw[(k 8 (by omega)).1]; exact h.n0}
 {rw[(k 8 (by omega)).1,(k 8 (by omega)).2]; exact h.n1}
 {rw[(k 10 (by omega)).1,(k 8 (by omega)).2]; exact h.c3}
theorem Good.set_lt (h:X.Good) {b:Nat} (hb:X.set b):X.hi<=b/\b < X.W0.heap.size:=by
 rcases hb with rfl | hb
 {exact ⟨h.hg,h.gw⟩}
 {exact Z08 h.rN b hb}
section
variable (h : X.RI2 d u W) (hX : X.Good)
include h hX
theorem RI2.look:W.cell? ⟨X.bx,4,none⟩=some (.slice (some ⟨X.g,X.off,none⟩) X.m X.c)/\Sh5 W X.g (X.off+X.i * 5) X.x.1 X.x.2:=
 ⟨(h.up.cell hX.b3.1.1 hX.b3.1.2).trans hX.b3.2,hX.s3.2.of (fun k=>h.up.cell hX.s3.1.1 hX.s3.1.2)⟩
theorem RI2.gmw:X.gm < W.heap.size:=Nat.lt_of_lt_of_le hX.gw h.up.size
theorem RI2.s7 (h8:d 8=false):X.RI2 (also d 7) (upd u 7 (.slice (some ⟨W.heap.size,0,none⟩) 1 1)) (W.alloc (.cells #[.int .i64 X.x.1.kind,.string ⟨X.x.1.of_.toArray⟩,.string ⟨X.x.1.name.toArray⟩,.slice X.x.2.A X.x.1.names.length X.x.2.c,.slice X.x.2.P X.x.1.parts.length X.x.2.d] 25)):=by
 have hu:Upd (fun _=>False) W (W.alloc (.cells #[.int .i64 X.x.1.kind,.string ⟨X.x.1.of_.toArray⟩,.string ⟨X.x.1.name.toArray⟩,.slice X.x.2.A X.x.1.names.length X.x.2.c,.slice X.x.2.P X.x.1.parts.length X.x.2.d] 25)):=Upd.new (Z01 _ _);have k: ∀j,j≠7->also d 7 j=d j/\ ∀v,upd u 7 v j=u j:=fun j hj=>⟨Z0k d hj,fun v=>Z04 u v hj⟩;have hs:=h.up.size;have hgm:=h.gmw hX;refine ⟨h.vals' (fun v' h=>by cases h),h.up.trans (hu.mono (fun _ _ h=>h.elim)),fun _ _=>⟨W.heap.size,Z0h _ _ _,hs,by simp,fun j v hv=>by rcases j with _ | _ | _ | _ | _ | j <;> (simp[cells5] at hv; try (subst hv; simp[go_sem]))⟩, ?_, ?_, ?_,fun j hj=>(hu.cell hgm (fun h=>h)).trans (h.cr j hj),fun j=>(hu.frozen hgm (fun h=>h)).trans (h.fz j)⟩
 {rw[(k 8 (by omega)).1]; exact fun h8=>Z0g (h.n0 h8) hu (fun _ _ h=>h)}
 {rw[(k 8 (by omega)).1,h8]; nofun}
 {rw[(k 10 (by omega)).1,(k 8 (by omega)).2]; exact (hu.cell hgm (fun h=>h)).trans h.c3}
theorem RI2.s8 (h10:d 10=false) {g c:Nat} (hown:W'.ownsRow X.hi 25 5 (.slice (some ⟨g,0,none⟩) (X.l.length+1) c) (X.l.length+1) (cellsE X.l++cells5 X.x))
 (hg:W.grownBy W' (rowB X.AP)) (hat:rowB X.AP=some g\/g=W.heap.size):X.RI2 (also d 8) (upd u 8 (.slice (some ⟨g,0,none⟩) (X.l.length+1) c)) W':=by
 have k: ∀j,j≠8->also d 8 j=d j/\ ∀v,upd u 8 v j=u j:=fun j hj=>⟨Z0k d hj,fun v=>Z04 u v hj⟩;have hu:Upd (fun b=>rowB X.AP=some b) W W':=(Upd.refl _ W).grown hg (fun k h _=>h);have hgm:=h.gmw hX;have hgN:=hX.gN;have hs:=h.up.size;refine ⟨h.vals' (fun v' h=>by cases h),h.up.trans (hu.mono (fun b _ hb=>Or.inr hb)), ?_, ?_, ?_, ?_,fun j hj=>(hu.cell hgm hgN).trans (h.cr j hj),fun j=>(hu.frozen hgm hgN).trans (h.fz j)⟩
 {rw[Z0o]; exact fun _ h=>by cases h}
 {rw[Z0o]; nofun}
 {exact fun _=>⟨g,c,Z0h _ _ _,hown,hat.imp id (fun e=>by omega)⟩}
 {rw[(k 10 (by omega)).1,h10];have:=h.c3;rw[h10] at this;exact (hu.cell hgm hgN).trans this}
theorem RI2.s10 (h8:d 8=true):X.RI2 (also d 10) (upd u 10 undef) (W.setCell ⟨X.gm,4,none⟩ (u 8)):=by
 have k: ∀j,j≠10->also d 10 j=d j/\ ∀v,upd u 10 v j=u j:=fun j hj=>⟨Z0k d hj,fun v=>Z04 u v hj⟩;have hgm:=h.gmw hX;obtain ⟨g8,c8,e8,r8,n8⟩:=h.n1 h8;have hu:Upd (fun b=>b=X.gm) W (W.setCell ⟨X.gm,4,none⟩ (u 8)):=Upd.set (Upd.refl (fun b=>b=X.gm) W) ⟨X.gm,4,none⟩ (fun _=>rfl) _;have far: ∀j,j≠4->(W.setCell ⟨X.gm,4,none⟩ (u 8)).cell? ⟨X.gm,j,none⟩=W.cell? ⟨X.gm,j,none⟩:=fun j hj=>World.cell?_setCell_other _ _ _ _ (fun e=>by have:=congrArg Addr.off e; simp at this; omega);have hne:g8≠X.gm:=fun e=>n8.elim (fun h=>hX.gN (by rw[h,e])) (fun h=>by have:=hX.gw; omega);refine ⟨h.vals' (fun v' h=>by cases h),h.up.trans (hu.mono (fun b _ hb=>Or.inl hb)), ?_, ?_, ?_, ?_,fun j hj=>(far j hj).trans (h.cr j hj),fun j=>(World.frozen?_setCell ..).trans (h.fz j)⟩
 {rw[(k 8 (by omega)).1,h8]; exact fun _ h=>by cases h}
 {rw[(k 8 (by omega)).1,h8]; nofun}
 {rw[(k 8 (by omega)).2];exact fun _=>⟨g8,c8,e8,Z0g r8 hu (fun b hb e=>by
   have e1:g8=b:=by simpa[rowB] using hb
   have e2:b=X.gm:=e;exact hne (e1.trans e2)),n8⟩}
 {rw[(k 8 (by omega)).2,Z0o,if_pos rfl];exact World.cell?_setCell_same _ _ _ h.c3}
end
end PR
end SubM
end Go.Proofs.YtlomianlcnmfgaaGreatDoor
namespace Go.Proofs.YtlomianlcnmfgaaGreatDoor
open Go.RowKit Shp Sub
namespace SubM
theorem ZdG {S:Nat->Prop} {W:World} {B C:Nat} {k:Int} {o nm:List UInt8} {nl:List (List UInt8)} {l:List El} {AN AP:Option Addr} {cN cP:Nat}
 (rN:W.ownsRow B 9 1 (.slice AN nl.length cN) nl.length (namesE nl)) (rP:W.ownsRow C 25 5 (.slice AP l.length cP) l.length (cellsE l)) (sN: ∀b,rowB AN=some b->S b) (sP: ∀b,rowB AP=some b->S b)
 (hk: ∀x∈l,Kept S W x) (ho:o.length<=9223372036854775807) (hnm:nm.length<=9223372036854775807) (hnl: ∀x∈nl,x.length<=9223372036854775807) (hl:nl.length<=1000000) (hm:l.length<=1000000):
 Kept S W (⟨k,o,nm,nl,l.map Prod.fst⟩,⟨AN,cN,AP,cP⟩):=by
 intro W' hz hs;have hN:=slice_form rN;have hP:=slice_form rP;have kept: ∀x∈l,ShAt W' W'.heap.size x.2 x.1:=fun x hx=>hk x hx W' hz hs;refine .mk _ _ ((rowB AP).getD 0) 0 (fun i=>(l[i]?.map Prod.snd).getD ⟨none,0,none,0⟩) ⟨ho,hnm,hnl,by show nl.length<=_; omega,by show (l.map Prod.fst).length<=_; rw[List.length_map]; omega, ?_, ?_, ?_, ?_⟩ ?_ ?_ ?_ ?_
 {show nl.length<=cN;rcases hN with ⟨_,h1,h2⟩ | ⟨_,_,h1⟩ <;> omega}
 {show (l.map Prod.fst).length<=cP;rw[List.length_map];rcases hP with ⟨_,h1,h2⟩ | ⟨_,_,h1⟩ <;> omega}
 {intro (e:AN=none);show cN=0;rcases hN with ⟨_,h1,h2⟩ | ⟨g,h1,_⟩
  {exact h2}
  {rw[e] at h1; cases h1}}
 {intro (e:AP=none);show cP=0;rcases hP with ⟨_,h1,h2⟩ | ⟨g,h1,_⟩
  {exact h2}
  {rw[e] at h1; cases h1}}
 {show Strs W' W'.heap.size AN (strs nl);rcases hN with ⟨_,h1,_⟩ | ⟨g,rfl,_⟩
  {exact Or.inl (by unfold strs; simp[h1])}
  {have hg:=Z08 rN g rfl;refine Or.inr ⟨g,0,rfl,Nat.lt_of_lt_of_le hg.2 hz,fun i hi=> ?_⟩;have hi':i < nl.length:=by simpa[strs] using hi
   have e1:W'.cell? ⟨g,i,none⟩=W.cell? ⟨g,i,none⟩:=World.cell?_of_block (w:=W) (hs g hg.2 (sN g rfl));rw[Nat.zero_add,e1,Z6I rN (u:= .string ⟨(nl[i]'hi').toArray⟩) (by unfold namesE; rw[List.getElem?_map,List.getElem?_eq_getElem hi']; rfl)];simp[strs]}}
 {show (l.map Prod.fst).length=0\/_;rcases hP with ⟨_,h1,_⟩ | ⟨g,rfl,_⟩
  {exact Or.inl (by rw[List.length_map]; exact h1)}
  {exact Or.inr ⟨rfl,Nat.lt_of_lt_of_le (Z08 rP g rfl).2 hz⟩}}
 {intro i hi;have hi':i < l.length:=by simpa using hi
  rcases hP with ⟨_,h1,_⟩ | ⟨g,rfl,_⟩
  {omega}
  {have hg:=Z08 rP g rfl;have e1: ∀j,W'.cell? ⟨g,j,none⟩=W.cell? ⟨g,j,none⟩:=fun j=>World.cell?_of_block (w:=W) (hs g hg.2 (sP g rfl));have e2: ∀c v,c < 5->(cells5 (l[i]'hi'))[c]? =some v->W'.cell? ⟨g,0+i * 5+c,none⟩=some v:=fun c v hc hv=>by
    rw[Nat.zero_add,e1];exact Z6I rP (by rw[cellsE_at hi' hc]; exact hv)
   simp only[List.getElem_map];rw[List.getElem?_eq_getElem hi'];exact ⟨e2 0 _ (by omega) rfl,e2 1 _ (by omega) rfl,e2 2 _ (by omega) rfl,e2 3 _ (by omega) rfl,e2 4 _ (by omega) rfl⟩}}
 {intro i hi;have hi':i < l.length:=by simpa using hi
  simp only[List.getElem_map];rw[List.getElem?_eq_getElem hi'];exact kept _ (List.getElem_mem _)}
def Old (hi gm z b:Nat):Prop:=(hi<=b/\b < gm)\/z<=b
def FreeR (n0 hi gm z:Nat) (AN AP:Option Addr) (b:Nat):Prop:=b < n0\/(Old hi gm z b/\rowB AN≠some b/\rowB AP≠some b)
structure KBr (w4:World) (n0 hi gm z rc:Nat) (k:Int) (nl:List (List UInt8)) (ps:List Sh) (l:List El) (AN:Option Addr) (cN:Nat) (AP:Option Addr) (cP:Nat) (W:World):Prop where
 up:Upd (fun b=>b=gm\/Old hi gm z b) w4 W
 hn:n0<=hi
 hg:hi<=gm
 gr:gm < rc
 rz:rc < z
 zw:z<=W.heap.size
 c0:W.cell? ⟨gm,0,none⟩=some (.int .i64 k)
 c1:W.cell? ⟨gm,1,none⟩=some (.string ⟨#[]⟩)
 c2:W.cell? ⟨gm,2,none⟩=some (.string ⟨#[]⟩)
 c3:W.cell? ⟨gm,3,none⟩=some (.slice AN nl.length cN)
 c4:W.cell? ⟨gm,4,none⟩=some (.slice AP l.length cP)
 fz: ∀j,W.frozen? ⟨gm,j,none⟩=false
 rN:W.ownsRow hi 9 1 (.slice AN nl.length cN) nl.length (namesE nl)
 rP:W.ownsRow hi 25 5 (.slice AP l.length cP) l.length (cellsE l)
 ne:rowB AN=none\/rowB AN≠rowB AP
 nN: ∀b,rowB AN=some b->Old hi gm z b
 nP: ∀b,rowB AP=some b->Old hi gm z b
 eq:l.map Prod.fst=ps
 kp: ∀x∈l,Kept (FreeR n0 hi gm z AN AP) W x
 rr:Rc rc W
section
variable {w4 W W' : World} {n0 hi gm z rc : Nat} {k : Int} {nl : List (List UInt8)} {ps : List Sh} {l : List El} {AN AP : Option Addr} {cN cP : Nat}
section
variable (h : KBr w4 n0 hi gm z rc k nl ps l AN cN AP cP W)
include h
theorem KBr.len:l.length=ps.length:=by have:=congrArg List.length h.eq; simpa using this
theorem KBr.noN {c:Nat} (h1:gm<=c) (h2:c < z): ¬rowB AN=some c:=fun e=>by have:=h.nN c e; unfold Old at this; omega
theorem KBr.noP {c:Nat} (h1:gm<=c) (h2:c < z): ¬rowB AP=some c:=fun e=>by have:=h.nP c e; unfold Old at this; omega
theorem KBr.gw:gm < W.heap.size:=by have:=h.gr; have:=h.rz; have:=h.zw; omega
end
theorem KBr.new (h:KBr w4 n0 hi gm z rc k nl ps l AN cN AP cP W) (hb:Below W.heap.size W W'):KBr w4 n0 hi gm z rc k nl ps l AN cN AP cP W':=by
 have hu:Upd (fun _=>False) W W':=Upd.new hb;have c:=fun j=>hu.cell (k:=j) h.gw (fun h=>h);exact ⟨h.up.trans (Upd.new hb),h.hn,h.hg,h.gr,h.rz,Nat.le_trans h.zw hb.size,(c 0).trans h.c0,(c 1).trans h.c1,(c 2).trans h.c2,(c 3).trans h.c3,(c 4).trans h.c4,fun j=>(hu.frozen h.gw (fun h=>h)).trans (h.fz j),
  Z0g h.rN hu (fun _ _ h=>h),Z0g h.rP hu (fun _ _ h=>h),h.ne,h.nN,h.nP,h.eq,fun x hx=>(h.kp x hx).upd hu (fun _ _ _ h=>h),h.rr.upd hu (fun h=>h)⟩
theorem NR.done {X:NR} {d:Nat->Bool} {u:Nat->Value} (hI:X.RI2 d u W) (hX:X.Good) (hd: ∀j,j < 11->d j=true) (hg:X.gm=gm) (hh:X.hi=hi) (hnl:X.nl=nl) (hAN:X.AN=AN) (hc:X.cN=cN)
 (hK:KBr w4 n0 hi gm z rc k nl ps l AN cN AP cP X.W0): ∃AN' cN',KBr w4 n0 hi gm z rc k (nl++ [X.nm]) ps l AN' cN' AP cP W/\(∀b,rowB AN'=some b->rowB AN=some b\/X.W0.heap.size<=b)/\Upd (fun b=>b=gm\/rowB AN=some b) X.W0 W:=by
 subst hg hh hnl hAN hc;obtain ⟨g,c,e8,r8,n8⟩:=hI.n1 (hd 8 (by omega));have c3:=hI.c3;rw[hd 10 (by omega),e8] at c3;simp only[if_true] at c3;have hu:=hI.up;have hzw:=hK.zw;have hrz:=hK.rz;have hgr:=hK.gr;have hnw: ∀b,rowB (some ⟨g,0,none⟩)=some b->Old X.hi X.gm z b:=fun b hb=>by
  have e:g=b:=by simpa[rowB] using hb
  subst e;exact n8.elim (fun h=>hK.nN _ h) (fun h=>Or.inr (by omega))
 refine ⟨some ⟨g,0,none⟩,c,⟨hK.up.trans (hu.mono (fun b _ hb=>hb.imp id (fun h=>hK.nN b h))),hK.hn,hK.hg,hK.gr,hK.rz,Nat.le_trans hK.zw hu.size,(hI.cr 0 (by omega)).trans hK.c0,(hI.cr 1 (by omega)).trans hK.c1,(hI.cr 2 (by omega)).trans hK.c2, ?_,(hI.cr 4 (by omega)).trans hK.c4,hI.fz, ?_, ?_,Or.inr (fun e=> ?_),hnw,hK.nP,hK.eq,fun x hx=> ?_, ?_⟩,fun b hb=> ?_,hu⟩
 {rw[List.length_append]; exact c3}
 {rw[List.length_append,namesE_append]; exact r8}
 {refine Z0g hK.rP hu (fun b hb hs=> ?_);rcases hs with hs | hs
  {subst hs; exact hK.noP (Nat.le_refl _) (by omega) hb}
  {rcases hK.ne with hne | hne
   {rw[hne] at hs; cases hs}
   {exact hne (hs.trans hb.symm)}}}
 {have e2:rowB AP=some g:=by rw[<-e]; rfl
  rcases n8 with h | h
  {rcases hK.ne with hne | hne
   {rw[hne] at h; cases h}
   {exact hne (h.trans e2.symm)}}
  {have:=(Z08 hK.rP g e2).2; omega}}
 {refine (hK.kp x hx).move hu (fun b hb hf=>⟨fun ht=> ?_, ?_⟩)
  {rcases hf with hf | ⟨hf,f1,f2⟩
   {have:=(hX.set_lt ht).1; have:=hK.hn; omega}
   {rcases ht with ht | ht
    {subst ht; unfold Old at hf; omega}
    {exact f1 ht}}}
  {rcases hf with hf | ⟨hf,f1,f2⟩
   {exact Or.inl hf}
   {refine Or.inr ⟨hf,fun e=> ?_,f2⟩;have e:g=b:=by simpa[rowB] using e
    subst e;exact n8.elim f1 (fun h=>by omega)}}}
 {refine hK.rr.upd hu (fun ht=> ?_);rcases ht with ht | ht
  {omega}
  {exact hK.noN (Nat.le_of_lt hgr) hrz ht}}
 {have e:g=b:=by simpa[rowB] using hb
  subst e;exact n8}
theorem PR.done {X:PR} {d:Nat->Bool} {u:Nat->Value} (hI:X.RI2 d u W) (hX:X.Good) (hd: ∀j,j < 11->d j=true) (hg:X.gm=gm) (hh:X.hi=hi) (hl:X.l=l) (hAP:X.AP=AP) (hc:X.cP=cP)
 (hx:Kept (fun b=>b < n0) X.W0 X.x) (hK:KBr w4 n0 hi gm z rc k nl ps l AN cN AP cP X.W0): ∃AP' cP',KBr w4 n0 hi gm z rc k nl (ps++ [X.x.1]) (l++ [X.x]) AN cN AP' cP' W/\Upd (fun b=>b=gm\/rowB AP=some b) X.W0 W:=by
 subst hg hh hl hAP hc;obtain ⟨g,c,e8,r8,n8⟩:=hI.n1 (hd 8 (by omega));have c3:=hI.c3;rw[hd 10 (by omega),e8] at c3;simp only[if_true] at c3;have hu:=hI.up;have hzw:=hK.zw;have hrz:=hK.rz;have hgr:=hK.gr;have hnw: ∀b,rowB (some ⟨g,0,none⟩)=some b->Old X.hi X.gm z b:=fun b hb=>by
  have e:g=b:=by simpa[rowB] using hb
  subst e;exact n8.elim (fun h=>hK.nP _ h) (fun h=>Or.inr (by omega))
 refine ⟨some ⟨g,0,none⟩,c,⟨hK.up.trans (hu.mono (fun b _ hb=>hb.imp id (fun h=>hK.nP b h))),hK.hn,hK.hg,hK.gr,hK.rz,Nat.le_trans hK.zw hu.size,(hI.cr 0 (by omega)).trans hK.c0,(hI.cr 1 (by omega)).trans hK.c1,(hI.cr 2 (by omega)).trans hK.c2,(hI.cr 3 (by omega)).trans hK.c3, ?_,hI.fz, ?_, ?_, ?_,hK.nN,hnw,by rw[List.map_append,hK.eq]; rfl,fun y hy=> ?_, ?_⟩,hu⟩
 {rw[List.length_append]; exact c3}
 {refine Z0g hK.rN hu (fun b hb e=> ?_);rcases e with e | e
  {subst e; exact hK.noN (Nat.le_refl _) (by omega) hb}
  {rcases hK.ne with hne | hne
   {rw[hne] at hb; cases hb}
   {exact hne (hb.trans e.symm)}}}
 {rw[List.length_append,cellsE_append,cellsE_one]; exact r8}
 {rcases hK.ne with hne | hne
  {exact Or.inl hne}
  {refine Or.inr (fun e=> ?_);have e2:rowB AN=some g:=by rw[e]; rfl
   rcases n8 with h1 | h1
   {exact hne (e2.trans h1.symm)}
   {have:=(Z08 hK.rN g e2).2; omega}}}
 {rcases List.mem_append.1 hy with hy | hy
  {refine (hK.kp y hy).move hu (fun b hb hf=>⟨fun ht=> ?_, ?_⟩)
   {rcases hf with hf | ⟨hf,f1,f2⟩
    {have:=(hX.set_lt ht).1; have:=hK.hn; omega}
    {rcases ht with ht | ht
     {subst ht; unfold Old at hf; omega}
     {exact f2 ht}}}
   {rcases hf with hf | ⟨hf,f1,f2⟩
    {exact Or.inl hf}
    {refine Or.inr ⟨hf,f1,fun e=> ?_⟩;have e:g=b:=by simpa[rowB] using e
     subst e;exact n8.elim f2 (fun h=>by omega)}}}
  {rw[List.mem_singleton.1 hy];refine hx.move hu (fun b hb hf=>⟨fun ht=> ?_,Or.inl hf⟩);have:=(hX.set_lt ht).1; have:=hK.hn; omega}}
 {refine hK.rr.upd hu (fun ht=> ?_);rcases ht with ht | ht
  {omega}
  {exact hK.noP (Nat.le_of_lt hgr) hrz ht}}
theorem KBr.fin (h:KBr w4 n0 hi gm z rc k nl ps l AN cN AP cP W) (h2: ∀x∈nl,x.length<=1000) (h3:nl.length<=1000) (h4:ps.length<=1000):
 Sh5 W gm 0 ⟨k,[],[],nl,ps⟩ ⟨AN,cN,AP,cP⟩/\Kept (fun b=>b < n0\/Old hi gm z b) W (⟨k,[],[],nl,ps⟩,⟨AN,cN,AP,cP⟩):=by
 have hl:=h.len;have hk:=ZdG (S:=fun b=>b < n0\/Old hi gm z b) (k:=k) (o:= []) (nm:= []) h.rN h.rP (fun b hb=>Or.inr (h.nN b hb)) (fun b hb=>Or.inr (h.nP b hb)) (fun x hx=>(h.kp x hx).more (fun b _ hf=>hf.imp id (fun h=>h.1))) (by simp) (by simp) (fun x hx=>by have:=h2 x hx; omega) (by omega) (by omega);rw[h.eq] at hk;refine ⟨⟨h.c0,h.c1,h.c2,h.c3, ?_⟩,hk⟩;have:=h.c4;rw[hl] at this;exact this
end
end SubM
end Go.Proofs.YtlomianlcnmfgaaGreatDoor
