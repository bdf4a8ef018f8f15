/- What the proofs of GradualBetweens want, part 12. -/
import Derived.Test.YtlomianlcnmfgaaGreatDoorK0n11
set_option linter.unusedVariables false
set_option linter.unusedSimpArgs false
set_option linter.unusedSectionVars false
set_option maxRecDepth 100000
set_option maxHeartbeats 16000000
namespace Go.Proofs.YtlomianlcnmfgaaGreatDoor
open Go.RowKit Shp Sub
namespace SubM
structure GQ where
 W0:World
 gm:Nat
 hi:Nat
 AP:Option Addr
 cP:Nat
 l:List El
 b1:Nat
 b2:Nat
 p:Sh
 px:Ptr
 q:Sh
 qx:Ptr
 r:Sh
 n0:Nat
namespace GQ
variable (X : GQ)
def val (j:Nat):Option Value:=match j with
 | 0 | 10=>some (.pointer (some ⟨X.gm,4,none⟩))
 | 1=>some (.slice X.AP X.l.length X.cP)
 | 2=>some (sv X.p X.px)
 | 3=>some (sv X.q X.qx)
 | 5=>some (.int .i64 (X.l.length:Int))
 | _=>none
def set (b:Nat):Prop:=b=X.gm\/rowB X.AP=some b
structure Good:Prop where
 ng:X.n0<=X.gm
 gh:X.gm < X.hi
 hw:X.hi<=X.W0.heap.size
 c4:X.W0.cell? ⟨X.gm,4,none⟩=some (.slice X.AP X.l.length X.cP)
 fz: ∀j,X.W0.frozen? ⟨X.gm,j,none⟩=false
 rP:X.W0.ownsRow X.hi 25 5 (.slice X.AP X.l.length X.cP) X.l.length (cellsE X.l)
 l1:X.gm < X.b1/\X.b1 < X.W0.heap.size/\rowB X.AP≠some X.b1
 l2:X.gm < X.b2/\X.b2 < X.W0.heap.size/\rowB X.AP≠some X.b2
 x1:Sh5 X.W0 X.b1 0 X.p X.px
 x2:Sh5 X.W0 X.b2 0 X.q X.qx
 ll:X.l.length<=1000
 ok: ∀W,Upd X.set X.W0 W->Calls Tryz.prog 28 #[sv X.p X.px,sv X.q X.qx] W (NIs X.r X.n0 W)
structure GI (d:Nat->Bool) (u:Nat->Value) (W:World):Prop where
 vals: ∀j,d j=true-> ∀v,X.val j=some v->u j=v
 up:Upd X.set X.W0 W
 f6:d 6=true->d 7=false-> ∃z,u 6= .slice (some ⟨z,0,none⟩) 1 1/\X.W0.heap.size<=z/\z < W.heap.size/\ ∀(j:Nat) v,Z0A[j]? =some v->W.cell? ⟨z,j,none⟩=some v
 ca:d 4=true-> ∃qr s e,u 4=sv X.r qr/\X.W0.heap.size<=s/\s<=e/\e<=W.heap.size/\Kept (fun b=>b < X.n0\/(s<=b/\b < e)) W (X.r,qr)/\
  (d 7=true-> ∃g c,u 7= .slice (some ⟨g,0,none⟩) (X.l.length+1) c/\W.ownsRow X.hi 25 5 (.slice (some ⟨g,0,none⟩) (X.l.length+1) c) (X.l.length+1) (cellsE X.l++if d 9=true then cells5 (X.r,qr) else Z0A)/\(rowB X.AP=some g\/e<=g)/\
   (d 8=true->u 8= .pointer (some ⟨g,X.l.length * 5,none⟩)))
 p0:d 7=false->W.ownsRow X.hi 25 5 (.slice X.AP X.l.length X.cP) X.l.length (cellsE X.l)
 c4:W.cell? ⟨X.gm,4,none⟩=some (if d 11=true then u 7 else .slice X.AP X.l.length X.cP)
 cr: ∀j,j < 4->W.cell? ⟨X.gm,j,none⟩=X.W0.cell? ⟨X.gm,j,none⟩
 fz: ∀j,W.frozen? ⟨X.gm,j,none⟩=false
variable {X : GQ} {d : Nat -> Bool} {u : Nat -> Value} {W W' : World}
theorem GI.vals' (h:X.GI d u W) {i:Nat} {v:Value} (hv: ∀v',X.val i=some v'->v=v'): ∀j,also d i j=true-> ∀v',X.val j=some v'->upd u i v j=v':=fun j hj v' hv'=>by
 by_cases hij:j=i
 {subst hij; rw[Z0h]; exact hv v' hv'}
 {rw[Z0k d hij] at hj; rw[Z04 u v hij]; exact h.vals j hj v' hv'}
theorem Good.start (h:X.Good):X.GI (fun _=>false) u X.W0.drew:=
 ⟨nofun,(Upd.refl _ _).drew,nofun,nofun,fun _=>h.rP,h.c4,fun _ _=>rfl,h.fz⟩
theorem GI.pure (h:X.GI d u W) {i:Nat} (hi:i≠4/\i≠6/\i≠7/\i≠8/\i≠9/\i≠11) {v:Value} (hv: ∀v',X.val i=some v'->v=v'):X.GI (also d i) (upd u i v) W:=by
 have k: ∀j,j=4\/j=6\/j=7\/j=8\/j=9\/j=11->also d i j=d j/\upd u i v j=u j:=fun j hj=>⟨Z0k d (by omega),Z04 u v (by omega)⟩;refine ⟨h.vals' hv,h.up, ?_, ?_, ?_, ?_,h.cr,h.fz⟩
 {rw[(k 6 (by omega)).1,(k 6 (by omega)).2,(k 7 (by omega)).1]; exact h.f6}
 {rw[(k 4 (by omega)).1,(k 4 (by omega)).2,(k 7 (by omega)).1,(k 7 (by omega)).2,(k 8 (by omega)).1,(k 8 (by omega)).2,(k 9 (by omega)).1]; exact h.ca}
 {rw[(k 7 (by omega)).1]; exact h.p0}
 {rw[(k 11 (by omega)).1,(k 7 (by omega)).2]; exact h.c4}
theorem Good.set_lt (h:X.Good) {b:Nat} (hb:X.set b):X.gm<=b/\b < X.W0.heap.size:=by
 have h1:=h.gh;have h2:=h.hw;rcases hb with rfl | hb
 {omega}
 {have:=Z08 h.rP b hb; omega}
theorem GI.box (h:X.GI d u W) (hX:X.Good):Sh5 W X.b1 0 X.p X.px/\Sh5 W X.b2 0 X.q X.qx:=
 ⟨hX.x1.of (fun k=>h.up.cell hX.l1.2.1 (fun hs=>by
  rcases hs with hs | hs
  {have:=hX.l1.1; omega}
  · exact hX.l1.2.2 hs)),hX.x2.of (fun k=>h.up.cell hX.l2.2.1 (fun hs=>by
  rcases hs with hs | hs
  {have:=hX.l2.1; omega}
  · exact hX.l2.2.2 hs))⟩
theorem GI.gmw (h:X.GI d u W) (hX:X.Good):X.gm < W.heap.size:=by have:=hX.gh; have:=hX.hw; have:=h.up.size; omega
theorem kept_set (hX:X.Good) {S:Nat->Prop} (hu:Upd S W W') {e:Nat} (hS: ∀b,S b->X.gm<=b/\(b < X.W0.heap.size\/e<=b)) {s:Nat} {x:El} (hs:X.W0.heap.size<=s) (hk:Kept (fun b=>b < X.n0\/(s<=b/\b < e)) W x):Kept (fun b=>b < X.n0\/(s<=b/\b < e)) W' x:=
 hk.upd hu (fun b hb hb2 hb3=>by
  have:=hS b hb3;have:=hX.ng;rcases hb2 with h | h <;> omega)
theorem GI.new (h:X.GI d u W) (hX:X.Good) (hb:Below W.heap.size W W'):X.GI d u W':=by
 have hgm:=h.gmw hX;have hu:Upd (fun _=>False) W W':=Upd.new hb;refine ⟨h.vals,h.up.trans (hu.mono (fun _ _ h=>h.elim)),fun h6 h7=> ?_,fun h4=> ?_,fun h7=>Z0g (h.p0 h7) hu (fun _ _ h=>h),
  (hu.cell hgm (fun h=>h)).trans h.c4,fun j hj=>(hu.cell hgm (fun h=>h)).trans (h.cr j hj),fun j=>(hu.frozen hgm (fun h=>h)).trans (h.fz j)⟩
 {obtain ⟨z,e,z1,z2,z3⟩:=h.f6 h6 h7;exact ⟨z,e,z1,Nat.lt_of_lt_of_le z2 hu.size,fun j v hv=>(hu.cell z2 (fun h=>h)).trans (z3 j v hv)⟩}
 {obtain ⟨qr,s,e,e4,s1,s2,s3,hk,h7⟩:=h.ca h4;refine ⟨qr,s,e,e4,s1,s2,Nat.le_trans s3 hu.size,hk.upd hu (fun _ _ _ h=>h),fun a=> ?_⟩;obtain ⟨g,c,e,r,n,m⟩:=h7 a;exact ⟨g,c,e,Z0g r hu (fun _ _ h=>h),n,m⟩}
section
variable (h : X.GI d u W) (hX : X.Good)
include h hX
theorem GI.s6:X.GI (also d 6) (upd u 6 (.slice (some ⟨W.heap.size,0,none⟩) 1 1)) (W.alloc (.cells Yb 25)):=by
 have hn:=h.new hX (Z01 W (.cells Yb 25));have k: ∀j,j≠6->also d 6 j=d j/\ ∀v,upd u 6 v j=u j:=fun j hj=>⟨Z0k d hj,fun v=>Z04 u v hj⟩;have hs:=h.up.size;refine ⟨hn.vals' (fun v' h=>by cases h),hn.up,fun _ _=>⟨W.heap.size,Z0h _ _ _,hs,by simp, ?_⟩, ?_, ?_, ?_,hn.cr,hn.fz⟩
 {intro j v hv;rcases j with _ | _ | _ | _ | _ | j
  {simp[Z0A] at hv; subst hv; simp[go_sem]}
  {simp[Z0A] at hv; subst hv; simp[go_sem]}
  {simp[Z0A] at hv; subst hv; simp[go_sem]}
  {simp[Z0A] at hv; subst hv; simp[go_sem]}
  {simp[Z0A] at hv; subst hv; simp[go_sem]}
  {simp[Z0A] at hv}}
 {rw[(k 4 (by omega)).1,(k 4 (by omega)).2,(k 7 (by omega)).1,(k 7 (by omega)).2,(k 8 (by omega)).1,(k 8 (by omega)).2,(k 9 (by omega)).1]; exact hn.ca}
 {rw[(k 7 (by omega)).1]; exact hn.p0}
 {rw[(k 11 (by omega)).1,(k 7 (by omega)).2]; exact hn.c4}
theorem GI.s4 (h7:d 7=false) {e:Ending} (hb:NIs X.r X.n0 W e W'): ∃v,e= .returned v/\X.GI (also d 4) (upd u 4 v) W':=by
 obtain ⟨qr,rfl,hbl,hkp⟩:=hb;have k: ∀j,j≠4->also d 4 j=d j/\ ∀v,upd u 4 v j=u j:=fun j hj=>⟨Z0k d hj,fun v=>Z04 u v hj⟩;have hn:=h.new hX hbl;have hs:=h.up.size;refine ⟨_,rfl,hn.vals' (fun v' h=>by cases h),hn.up, ?_,fun _=>⟨qr,W.heap.size,W'.heap.size,Z0h _ _ _,hs,hbl.size,Nat.le_refl _,hkp.more (fun b hb hS=>hS.imp id (fun h=>⟨h,hb⟩)), ?_⟩, ?_, ?_,hn.cr,hn.fz⟩
 {rw[(k 6 (by omega)).1,(k 6 (by omega)).2,(k 7 (by omega)).1]; exact hn.f6}
 {rw[(k 7 (by omega)).1,h7]; nofun}
 {rw[(k 7 (by omega)).1]; exact hn.p0}
 {rw[(k 11 (by omega)).1,(k 7 (by omega)).2]; exact hn.c4}
theorem GI.s7 (h4:d 4=true) (h7:d 7=false) (h8:d 8=false) (h9:d 9=false) (h11:d 11=false) {g c:Nat} (hown:W'.ownsRow X.hi 25 5 (.slice (some ⟨g,0,none⟩) (X.l.length+1) c) (X.l.length+1) (cellsE X.l++Z0A))
 (hg:W.grownBy W' (rowB X.AP)) (hat:rowB X.AP=some g\/g=W.heap.size):X.GI (also d 7) (upd u 7 (.slice (some ⟨g,0,none⟩) (X.l.length+1) c)) W':=by
 have k: ∀j,j≠7->also d 7 j=d j/\ ∀v,upd u 7 v j=u j:=fun j hj=>⟨Z0k d hj,fun v=>Z04 u v hj⟩;have hu:Upd (fun b=>rowB X.AP=some b) W W':=(Upd.refl _ W).grown hg (fun k h _=>h);have hgm:=h.gmw hX;have hgN: ¬rowB X.AP=some X.gm:=fun e=>by have:=(Z08 hX.rP _ e).1; have:=hX.gh; omega
 refine ⟨h.vals' (fun v' h=>by cases h),h.up.trans (hu.mono (fun b _ hb=>Or.inr hb)), ?_, ?_, ?_, ?_,fun j hj=>(hu.cell hgm hgN).trans (h.cr j hj),fun j=>(hu.frozen hgm hgN).trans (h.fz j)⟩
 {rw[Z0o]; nofun}
 {rw[(k 4 (by omega)).1,(k 4 (by omega)).2,(k 8 (by omega)).1,(k 8 (by omega)).2,(k 9 (by omega)).1,Z0o,Z0h,h9,h8];intro _;obtain ⟨qr,s,e,e4,s1,s2,s3,hk,_⟩:=h.ca h4;exact ⟨qr,s,e,e4,s1,s2,Nat.le_trans s3 hu.size,kept_set hX hu (fun b hb=>by have:=hX.set_lt (Or.inr hb); exact ⟨this.1,Or.inl this.2⟩) s1 hk,fun _=>⟨g,c,rfl,hown,hat.imp id (fun e=>by omega),nofun⟩⟩}
 {rw[Z0o]; nofun}
 {rw[(k 11 (by omega)).1,h11];have:=h.c4;rw[h11] at this;exact (hu.cell hgm hgN).trans this}
theorem GI.s8 (h7:d 7=true) {v:Value} (hv: ∀g c,u 7= .slice (some ⟨g,0,none⟩) (X.l.length+1) c->v= .pointer (some ⟨g,X.l.length * 5,none⟩)):X.GI (also d 8) (upd u 8 v) W:=by
 have k: ∀j,j≠8->also d 8 j=d j/\ ∀v,upd u 8 v j=u j:=fun j hj=>⟨Z0k d hj,fun v=>Z04 u v hj⟩;refine ⟨h.vals' (fun v' h=>by cases h),h.up, ?_, ?_, ?_, ?_,h.cr,h.fz⟩
 {rw[(k 7 (by omega)).1,h7]; exact fun _ h=>by cases h}
 {rw[(k 4 (by omega)).1,(k 4 (by omega)).2,(k 7 (by omega)).1,(k 7 (by omega)).2,(k 9 (by omega)).1,Z0h];intro h4;obtain ⟨qr,s,e,e4,s1,s2,s3,hk,hp⟩:=h.ca h4;exact ⟨qr,s,e,e4,s1,s2,s3,hk,fun a=>by
   obtain ⟨g,c,e7,r,n,m⟩:=hp a;exact ⟨g,c,e7,r,n,fun _=>hv g c e7⟩⟩}
 {rw[(k 7 (by omega)).1]; exact h.p0}
 {rw[(k 11 (by omega)).1,(k 7 (by omega)).2]; exact h.c4}
end
theorem not_gm (hX:X.Good) {W':World} {g n c e s m:Nat} {xs:List Value} (r:W'.ownsRow X.hi e s (.slice (some ⟨g,0,none⟩) n c) m xs):g≠X.gm:=by
 have h1:=(r.lt g rfl).1;have:=hX.gh;omega
section
variable (h : X.GI d u W) (hX : X.Good) (h4 : d 4 = true) (h7 : d 7 = true)
include h hX h4 h7
theorem GI.s9 (h9:d 9=false) {qr:Ptr} (e4:u 4=sv X.r qr) {g c:Nat} (e7:u 7= .slice (some ⟨g,0,none⟩) (X.l.length+1) c):X.GI (also d 9) (upd u 9 undef) (layO W g (X.l.length * 5) (X.r,qr)):=by
 have k: ∀j,j≠9->also d 9 j=d j/\ ∀v,upd u 9 v j=u j:=fun j hj=>⟨Z0k d hj,fun v=>Z04 u v hj⟩;obtain ⟨qr',s,e,e4',s1,s2,s3,hk,hp⟩:=h.ca h4;obtain rfl:=Z48 (e4'.symm.trans e4);obtain ⟨g',c',e,r,n,m⟩:=hp h7;have ee:=e.symm.trans e7;simp only[Value.slice.injEq,Option.some.injEq,Addr.mk.injEq,and_true] at ee;obtain ⟨rfl,_,rfl⟩:=ee;rw[h9] at r;simp only[Bool.false_eq_true,if_false] at r;obtain ⟨r',hg⟩:=Z8f (X.r,qr') (cellsE_len X.l) r;have hu:Upd (fun b=>b=g') W (layO W g' (X.l.length * 5) (X.r,qr')):=(Upd.refl _ W).grown hg (fun k h _=>by cases h; rfl);have hgm:=h.gmw hX;have hne: ¬X.gm=g':=fun e=>not_gm hX r e.symm;have hgl:=(Z08 r g' rfl).1;refine ⟨h.vals' (fun v' h=>by cases h), ?_, ?_, ?_, ?_, ?_,fun j hj=>(hu.cell hgm hne).trans (h.cr j hj),fun j=>(hu.frozen hgm hne).trans (h.fz j)⟩
 {refine ⟨hu.os.trans h.up.os,hu.tape.trans h.up.tape,hu.output.trans h.up.output,Nat.le_trans h.up.size hu.size,fun x h1 h2=>(hu.block x (by have:=h.up.size; omega) (fun e=> ?_)).trans (h.up.block x h1 h2)⟩;have e:x=g':=e;rcases n with n | n
  {exact h2 (Or.inr (by rw[e]; exact n))}
  {omega}}
 {rw[(k 7 (by omega)).1,h7]; exact fun _ h=>by cases h}
 {rw[(k 4 (by omega)).2,(k 7 (by omega)).1,(k 7 (by omega)).2,(k 8 (by omega)).1,(k 8 (by omega)).2,Z0o];refine fun _=>⟨qr',s,_,e4,s1,s2,Nat.le_trans s3 hu.size,kept_set hX hu (fun b hb=> ?_) s1 hk,fun _=>⟨g',c',e,by simpa using r',n,m⟩⟩;have hb:b=g':=hb;have:=hX.gh;rw[hb];refine ⟨by omega, ?_⟩;rcases n with n | n
  {exact Or.inl (Z08 hX.rP g' n).2}
  {exact Or.inr n}}
 {rw[(k 7 (by omega)).1,h7]; nofun}
 {rw[(k 11 (by omega)).1,(k 7 (by omega)).2]; exact (hu.cell hgm hne).trans h.c4}
theorem GI.s11 (h11:d 11=false):X.GI (also d 11) (upd u 11 undef) (W.setCell ⟨X.gm,4,none⟩ (u 7)):=by
 have k: ∀j,j≠11->also d 11 j=d j/\ ∀v,upd u 11 v j=u j:=fun j hj=>⟨Z0k d hj,fun v=>Z04 u v hj⟩;have hgm:=h.gmw hX;have hu:Upd (fun b=>b=X.gm) W (W.setCell ⟨X.gm,4,none⟩ (u 7)):=Upd.set (Upd.refl (fun b=>b=X.gm) W) ⟨X.gm,4,none⟩ (fun _=>rfl) _;have far: ∀j,j≠4->(W.setCell ⟨X.gm,4,none⟩ (u 7)).cell? ⟨X.gm,j,none⟩=W.cell? ⟨X.gm,j,none⟩:=fun j hj=>World.cell?_setCell_other _ _ _ _ (fun e=>by have:=congrArg Addr.off e; simp at this; omega);refine ⟨h.vals' (fun v' h=>by cases h),h.up.trans (hu.mono (fun b _ hb=>Or.inl hb)), ?_, ?_, ?_, ?_,fun j hj=>(far j (by omega)).trans (h.cr j hj),fun j=>(World.frozen?_setCell ..).trans (h.fz j)⟩
 {rw[(k 7 (by omega)).1,h7]; exact fun _ h=>by cases h}
 {rw[(k 4 (by omega)).1,(k 4 (by omega)).2,(k 7 (by omega)).1,(k 7 (by omega)).2,(k 8 (by omega)).1,(k 8 (by omega)).2,(k 9 (by omega)).1];intro _;obtain ⟨qr,s,e,e4,s1,s2,s3,hk,hp⟩:=h.ca h4;refine ⟨qr,s,e,e4,s1,s2,Nat.le_trans s3 hu.size,kept_set hX hu (fun b hb=>by have:=hX.set_lt (Or.inl hb); exact ⟨this.1,Or.inl this.2⟩) s1 hk,fun a=> ?_⟩;obtain ⟨g,c,e7,r,n,m⟩:=hp a;refine ⟨g,c,e7,Z0g r hu (fun b hb e=> ?_),n,m⟩;have e1:g=b:=by simpa[rowB] using hb
  exact not_gm hX r (e1.trans e)}
 {rw[(k 7 (by omega)).1,h7]; nofun}
 {rw[(k 7 (by omega)).2,Z0o,if_pos rfl];exact World.cell?_setCell_same _ _ _ h.c4}
end
end GQ
end SubM
end Go.Proofs.YtlomianlcnmfgaaGreatDoor
namespace Go.Proofs.YtlomianlcnmfgaaGreatDoor
open Go.RowKit Shp Sub
namespace SubM
def NamedOk (f:Nat):Prop:=
 ∀(up:Bool) (s t:Sh) (ps pt:Ptr) (n0:Nat) (W:World),Two f s t->Grd.R true f up s t->ShAt W n0 ps s->ShAt W n0 pt t->n0<=W.heap.size->Calls Tryz.prog 28 #[sv s ps,sv t pt] W (NIs (Grd.named f s t) n0 W)
def eitherR (f:Nat) (o1:Option Sh) (q:Sh):Sh:=match o1 with
 | none=>q
 | some p=>Grd.named f p q
theorem Z8g {r:Sh} {qr:Ptr} {n0:Nat} {W w2 W3:World} {rc:Nat} (hn:n0<=W.heap.size) (h1:W.heap.size<=rc) (h2:rc < w2.heap.size) (hb:Below W.heap.size W w2) (hb3:Below w2.heap.size w2 W3) (hk:Kept (fun b=>b < n0\/w2.heap.size<=b) W3 (r,qr)):
 NIs r n0 W (.returned (sv r qr)) (RX.lay W3 rc r qr):=by
 have hu:=RX.lay_upd W3 rc r qr;have hbw:=Z00 hb hb3;refine ⟨qr,rfl,hbw.trans (hu.below hbw.size (fun x hx=>by omega)),hk.move hu (fun b _ hf=>⟨fun e=>by have e:b=rc:=e; rcases hf with hf | hf <;> omega,by have:=hb.size; rcases hf with hf | hf <;> omega⟩)⟩
theorem Z6K {n0:Nat} {W:World} {q:Sh} {qy:Ptr} (h:ShAt W n0 qy q) (hn:n0<=W.heap.size) (B:Nat):Kept (fun b=>b < n0\/B<=b) W (q,qy):=Kept.old h hn (fun b hb=>Or.inl hb)
theorem Z6L {f:Nat} (hI:NamedOk f) (o1:Option Sh) (q:Sh) (x:Value) (qy:Ptr) (n0:Nat) (W:World) (h: ∀p,o1=some p->Two f p q/\ ∃up,Grd.R true f up p q) (hn:n0<=W.heap.size) (hx:At W n0 o1 x) (hy:ShAt W n0 qy q):
 Calls Tryz.prog 53 #[x,sv q qy] W (NIs (eitherR f o1 q) n0 W):=by
 have hb1:=Z01 W (.cells (Y8 q qy) 25);obtain ⟨w1,hw1⟩: ∃w1,w1=W.alloc (.cells (Y8 q qy) 25):=⟨_,rfl⟩;have hb2:=Z01 w1 (.cells Yb 25);obtain ⟨w2,hw2⟩: ∃w2,w2=w1.alloc (.cells Yb 25):=⟨_,rfl⟩;have hs1:w1.heap.size=W.heap.size+1:=by rw[hw1]; simp
 have hs2:w2.heap.size=W.heap.size+2:=by rw[hw2]; simp[hs1]
 have hR:Rc (W.heap.size+1) w2:=by have h:=Z0I hw2; rwa [hs1] at h
 rw[<-hw1] at hb1;rw[<-hw2] at hb2;have hB1:Box5 w1 W.heap.size q qy:=by rw[hw1]; exact Z05 W q qy
 have hBA:=hB1.next hb2;have hbw:=Z00 hb1 hb2;have hu:Upd (fun _=>False) W w2:=Upd.new hbw;have hn2:n0<=w2.heap.size:=by omega
 have hq2:=Z0a hy hn hu (fun _ _ h=>h);have hx2:=At.upd hx hn hu (fun _ _ h=>h);have HW:=Y1 hbw;have HN:=Y1 hn;have HS2:=Y1 hs2;obtain ⟨_,⟨a0,a1,a2,a3,a4⟩,_⟩:=hBA;simp only[Nat.zero_add] at a0 a1 a2 a3 a4;have hw1':=hw1.symm;have hw2':=hw2.symm;cases o1 with
 | none=>
  have hx':x= .pointer none:=hx;subst hx';have hfin:NIs (eitherR f none q) n0 W (.returned (sv q qy)) (RX.lay w2 (W.heap.size+1) q qy):=Z8g HN.out (Nat.le_succ _) (by omega) hbw Y2 (Z6K hq2 hn2 _);have HF:=Y1 hfin;obtain ⟨v0,y0⟩:=hR.ex 0 (by omega);obtain ⟨v1,y1⟩:=hR.ex 1 (by omega);obtain ⟨v2,y2⟩:=hR.ex 2 (by omega);obtain ⟨v3,y3⟩:=hR.ex 3 (by omega);obtain ⟨v4,y4⟩:=hR.ex 4 (by omega);have z0:=hR.fz 0;have z1:=hR.fz 1;have z2:=hR.fz 2;have z3:=hR.fz 3;have z4:=hR.fz 4;obtain ⟨u0,u1,u2,u3,u4⟩:=RX.lay_at q qy (W:=w2) (g:=W.heap.size+1) hR.ex;simp only[Nat.zero_add] at u0 u1 u2 u3 u4;have HU:=Y1 (And.intro u0 (And.intro u1 (And.intro u2 (And.intro u3 u4))));clear u0 u1 u2 u3 u4 hfin hR hbw hu hn2 hq2 hx2 hx hy hn h hI hB1 hb1 hb2 hw1 hw2 hs2;unfold sv at HF ⊢;go_enter Tryz.func53,Tryz.ntmps53;go_wp2;obtain ⟨u0,u1,u2,u3,u4⟩:=HU.out;unfold RX.lay at u0 u1 u2 u3 u4 HF;refine bodyPost_ret (v:= .agg (Y8 q qy)) (by simp[results,Tryz.results53,go_sem,u0,u1,u2,u3,u4]) rfl ?_;exact HF.out
 | some p=>
  obtain ⟨g,off,qx,rfl,hg,h5,hs⟩:=hx2;obtain ⟨htwo,up,hr⟩:=h p rfl;obtain ⟨x0,x1,x2,x3,x4⟩:=h5;have hud:Upd (fun _=>False) w2 w2.drew:=(Upd.refl _ w2).drew;have HC:=Y1 (hI up p q qx qy n0 w2.drew htwo hr (Z0a hs hn2 hud (fun _ _ h=>h)) (Z0a hq2 hn2 hud (fun _ _ h=>h)) hn2);have HR:=Y1 hR;unfold sv at HC ⊢;clear hR hbw hu hn2 hq2 hx hy hn h hI hB1 hb1 hb2 hw1 hw2 hs2 htwo hr hs hg hud;go_enter Tryz.func53,Tryz.ntmps53
  go_wp2_with fail
  go_still_tail 4,(by kernel_rfl)
  change wpList _ _ _ _ _ w2.drew
  go_wp2_with fail
  refine HC.out.mono ?_;rintro e W3 ⟨qr,rfl,hb3,hkp⟩;have hb3':Below w2.heap.size w2 W3:=⟨hb3.os,hb3.tape,hb3.output,hb3.size,hb3.block⟩;have hR3:Rc (W.heap.size+1) W3:=HR.out.upd (T:=fun _=>False) (Upd.new hb3') (fun h=>h);have hfin:NIs (eitherR f (some p) q) n0 W (.returned (sv (Grd.named f p q) qr)) (RX.lay W3 (W.heap.size+1) (Grd.named f p q) qr):=Z8g HN.out (Nat.le_succ _) (by have:=HS2.out; omega) HW.out hb3' hkp;have HF:=Y1 hfin;obtain ⟨v0,y0⟩:=hR3.ex 0 (by omega);obtain ⟨v1,y1⟩:=hR3.ex 1 (by omega);obtain ⟨v2,y2⟩:=hR3.ex 2 (by omega);obtain ⟨v3,y3⟩:=hR3.ex 3 (by omega);obtain ⟨v4,y4⟩:=hR3.ex 4 (by omega);have z0:=hR3.fz 0;have z1:=hR3.fz 1;have z2:=hR3.fz 2;have z3:=hR3.fz 3;have z4:=hR3.fz 4;obtain ⟨u0,u1,u2,u3,u4⟩:=RX.lay_at (Grd.named f p q) qr (W:=W3) (g:=W.heap.size+1) hR3.ex;simp only[Nat.zero_add] at u0 u1 u2 u3 u4;have HU:=Y1 (And.intro u0 (And.intro u1 (And.intro u2 (And.intro u3 u4))));clear u0 u1 u2 u3 u4 hfin hR3 hb3 hb3' hkp HC a0 a1 a2 a3 a4 x0 x1 x2 x3 x4;go_wp2;obtain ⟨u0,u1,u2,u3,u4⟩:=HU.out;unfold RX.lay at u0 u1 u2 u3 u4 HF;refine bodyPost_ret (v:=sv (Grd.named f p q) qr) (by simp[results,Tryz.results53,go_sem,u0,u1,u2,u3,u4]) rfl ?_;exact HF.out
theorem GX.done {X:GX} {d:Nat->Bool} {u:Nat->Value} {W:World} (hI:X.GI d u W) (hX:X.Good) (hd: ∀j,j < 18->d j=true) {w0:World} {pf:Nat} {fv:Value} {k:Int} {L:List Fld}
 (hK:KNs w0 X.n0 X.gm X.hi pf fv k true L X.l X.AN X.cN X.AP X.cP X.W0) (hnl:X.nl=L.map Prod.fst) (hpf:pf < X.hi) (hpg:pf≠X.gm):
 KN w0 X.n0 X.gm X.hi pf fv k true (L++ [(X.nm,X.r)]) W/\Upd (fun b=>b=X.gm\/X.hi<=b) X.W0 W:=by
 obtain ⟨g,c,e4,rN,nN⟩:=hI.n1 (hd 4 (by omega));obtain ⟨qr,s,e,e11,s1,s2,s3,hk,hgs,_,hp⟩:=hI.ca (hd 11 (by omega));obtain ⟨g',c',e13,rP,nP⟩:=hp (hd 13 (by omega));have c3:=hI.c3;have c4:=hI.c4;rw[hd 15 (by omega),e4] at c3;rw[hd 17 (by omega),e13] at c4;simp only[if_true] at c3 c4;have hm:=hK.mm;have hu:=hI.up;have hgl:=hgs g _ _ e4;have hgg:g≠g':=by
  rcases nP with h | h
  {rcases nN with h2 | h2
   {intro e;subst e;rcases hX.ne with h3 | h3
    {rw[h3] at h2; cases h2}
    {exact h3 (h2.trans h.symm)}}
   {have:=(Z08 hX.rP g' h).2; omega}}
  {omega}
 have hrl: ∀b,X.set b->w0.heap.size<=b:=fun b hb=>by have:=(hX.set_lt hb).1; have:=hm.lo; omega
 have hh:=hX.hw;have hng:=hX.ng;refine ⟨⟨X.l++ [(X.r,qr)],some ⟨g,0,none⟩,c,some ⟨g',0,none⟩,c',⟨⟨hm.up.trans (hu.below hm.up.size hrl),hm.lo,hm.gh,Nat.le_trans hm.hw hu.size,(hI.cr 0 (by omega)).trans hm.c0,(hI.cr 1 (by omega)).trans hm.c1,(hI.cr 2 (by omega)).trans hm.c2, ?_, ?_,hI.fz, ?_, ?_,Or.inr (fun e=>hgg (by simpa[rowB] using e))⟩, ?_,fun _ x hx=> ?_, ?_⟩⟩,hu.mono (fun b _ hb=> ?_)⟩
 {rw[List.map_append,List.length_append, <-hnl]; exact c3}
 {rw[List.length_append]; exact c4}
 {rw[List.map_append,List.length_append,namesE_append, <-hnl]; exact rN}
 {rw[List.length_append,cellsE_append,cellsE_one]; exact rP}
 {rw[List.map_append,List.map_append,hK.eq]; rfl}
 {rcases List.mem_append.1 hx with hx | hx
  {refine (hK.kp rfl x hx).move hu (fun b hb hf=>⟨fun ht=> ?_, ?_⟩)
   {rcases hf with hf | ⟨hf,f1,f2⟩
    {have:=(hX.set_lt ht).1; omega}
    {rcases ht with ht | ht | ht
     {have:=hX.gh; omega}
     {exact f1 ht}
     {exact f2 ht}}}
   {rcases hf with hf | ⟨hf,f1,f2⟩
    {exact Or.inl hf}
    {refine Or.inr ⟨hf,fun e=> ?_,fun e=> ?_⟩
     {have e:g=b:=by simpa[rowB] using e
      subst e;exact nN.elim f1 (fun h=>by omega)}
     {have e:g'=b:=by simpa[rowB] using e
      subst e;exact nP.elim f2 (fun h=>by omega)}}}}
  {rw[List.mem_singleton.1 hx];refine hk.more (fun b hb hS=> ?_);rcases hS with h | ⟨h1,h2⟩
   {exact Or.inl h}
   {refine Or.inr ⟨by omega,fun e=> ?_,fun e=> ?_⟩
    {have e:g=b:=by simpa[rowB] using e
     omega}
    {have e:g'=b:=by simpa[rowB] using e
     rcases nP with h | h
     {have:=(Z08 hX.rP g' h).2; omega}
     {omega}}}}}
 {refine (hu.cell (by omega) (fun ht=> ?_)).trans hK.fc;rcases ht with ht | ht | ht
  {exact hpg ht}
  {have:=(Z08 hX.rN pf ht).1; omega}
  {have:=(Z08 hX.rP pf ht).1; omega}}
 {rcases hb with hb | hb | hb
  {exact Or.inl hb}
  {exact Or.inr (Z08 hX.rN b hb).1}
  {exact Or.inr (Z08 hX.rP b hb).1}}
theorem Z7Y {f:Nat} (hI:NamedOk f) (w0:World) (n0 gm hi pf:Nat) (fv:Value) (k:Int) (L:List Fld) (nm:List UInt8) (o1 o2:Option Sh) (x y:Value) (W:World) (h2: ∀p q,o1=some p->o2=some q->Two f p q/\ ∃up,Grd.R true f up p q)
 (hn:n0<=gm) (hpf:pf < hi) (hpg:pf≠gm) (hL:L.length<=900) (hx:At W n0 o1 x) (hy:At W n0 o2 y) (hk:KN w0 n0 gm hi pf fv k true L W):
 Calls Tryz.prog 52 (.string ⟨nm.toArray⟩::x::y:: .pointer (some ⟨gm,0,none⟩):: []).toArray W fun e W'=>e= .returned (.bool true)/\
  KN w0 n0 gm hi pf fv k true (L++(Grd.nstep (Grd.named f) (nm,o1,o2)).toList) W'/\Upd (fun b=>b=gm\/hi<=b) W W':=by
 cases o2 with
 | none=>
  have hy':y= .pointer none:=hy;subst hy';have hr:Grd.nstep (Grd.named f) (nm,o1,none)=none:=by cases o1 <;> rfl
  rw[hr];have HK:=Y1 hk;have hx': ∃p,x= .pointer p:=by
   cases o1 with
   | none=>exact ⟨none,hx⟩
   | some _=>obtain ⟨g,o,q,h1,_⟩:=hx; exact ⟨_,h1⟩
  obtain ⟨p,rfl⟩:=hx';clear hy h2 hI hr hk hx;go_enter Tryz.func52,Tryz.ntmps52;go_wp2;go_ret;exact ⟨rfl,by simpa using HK.out,Upd.refl _ _⟩
 | some q=>
  obtain ⟨gb,ob,qy,rfl,hgb,h5b,hsb⟩:=hy;have hr:Grd.nstep (Grd.named f) (nm,o1,some q)=some (nm,eitherR f o1 q):=by cases o1 <;> rfl
  rw[hr];have hxp: ∃p,x= .pointer p:=by
   cases o1 with
   | none=>exact ⟨none,hx⟩
   | some _=>obtain ⟨g,o,q,h1,_⟩:=hx; exact ⟨_,h1⟩
  obtain ⟨xp,hxp⟩:=hxp;obtain ⟨l,AN,cN,AP,cP,hks⟩:=hk;have hm:=hks.mm;have hgh:=hm.gh;have hhw:=hm.hw;have hlen:=hks.len;obtain ⟨nl,hnl⟩: ∃nl,nl=L.map Prod.fst:=⟨_,rfl⟩;have hnll:nl.length=L.length:=by rw[hnl,List.length_map]
  obtain ⟨r,hre⟩: ∃r,r=eitherR f o1 q:=⟨_,rfl⟩;have hsl: ∀b,(GX.mk W gm hi AN cN AP cP nl l nm x gb ob q qy r n0).set b->gm<=b:=fun b hb=>by
   rcases hb with hb | hb | hb
   {have hb:b=gm:=hb; omega}
   {have:=Z08 hm.rN b hb; omega}
   {have:=Z08 hm.rP b hb; omega}
  have hX: (GX.mk W gm hi AN cN AP cP nl l nm x gb ob q qy r n0).Good:=by
   refine ⟨hn,hm.gh,hm.hw, ?_,hm.c4,hm.fz, ?_,hm.rP,hm.ne,hgb,h5b,by show nl.length<=1000; omega,by show l.length<=1000; omega,fun W' hu=> ?_⟩
   {have:=hm.c3; rw[<-hnl] at this; exact this}
   {have:=hm.rN; rw[<-hnl] at this; exact this}
   {rw[hre];exact Z6L hI o1 q x qy n0 W' (fun p hp=>h2 p q hp rfl) (by have:=hu.size; show n0<=_; change W.heap.size<=_ at this; omega) (At.upd hx (by omega) hu (fun b hb hs=>by have:=hsl b hs; omega)) (Z0a hsb (by omega) hu (fun b hb hs=>by have:=hsl b hs; omega))}
  obtain ⟨i0,hif0,hz0,hs0,hb0⟩:=Z0S Z1R;obtain ⟨i1,hif1,hz1,hs1,hb1⟩:=Z0S Z28;have hen:=enters_of Tryz.func53 (by kernel_rfl) rfl;have HX:=Y1 hX;have HKS:=Y1 hks;have HNL:=Y1 hnl;have HPF:=Y1 hpf;have HPG:=Y1 hpg;have HRE:=Y1 hre;subst hxp;clear hX hks hI h2 h5b hsb hL hgb hx hm hgh hhw hlen hnl hnll hre hsl hr hn hpf hpg;go_enter Tryz.func52,Tryz.ntmps52
  go_wp2_with fail
  refine Z1u (rs:= [0,1,2,3,4,5,6,7,8,9,10,11,12,13,14,15,16,17])
   (fun u=> { tmps:=#[.string ⟨nm.toArray⟩,.pointer xp,.pointer (some ⟨gb,ob,none⟩),.pointer (some ⟨gm,0,none⟩),undef,undef,undef,.bool false,.pointer (some ⟨gb,ob,none⟩),.bool true,u 0,u 1,u 2,u 3,u 4,u 5,u 6,u 7,u 8,u 9,u 10,u 11,u 12,u 13,u 14,u 16],defers:= [] })
   (fun j=>undef) (GX.GI ⟨W,gm,hi,AN,cN,AP,cP,nl,l,nm,.pointer xp,gb,ob,q,qy,r,n0⟩) (by kernel_rfl) (by kernel_rfl) (by kernel_rfl) HX.out.start ?_ ?_
  refine StepsInv.cons2 _ rfl (fun d u W1 K' hs hI hd hw hK=> ?_) ?_
  {refine Z02 (v:= .pointer (some ⟨gm,3,none⟩)) (W':=W1) rfl ?_ (hK.out _ _ (hI.pure (by decide) (fun v' h=>by cases h; rfl)));go_simp}
  refine StepsInv.cons2 _ rfl (fun d u W1 K' hs hI hd hw hK=> ?_) ?_
  {have d0:u 0= .pointer (some ⟨gm,3,none⟩):=hI.vals 0 (hw 0 (by kernel_rfl)) _ rfl;have h15:d 15=false:=Z0i hs rfl (by kernel_rfl) hd;have c3:=hI.c3;rw[h15] at c3;simp only[Bool.false_eq_true,if_false] at c3;change W1.cell? ⟨gm,3,none⟩=_ at c3;refine Z02 (v:= .slice AN nl.length cN) (W':=W1) rfl ?_ (hK.out _ _ (hI.pure (by decide) (fun v' h=>by cases h; rfl)));go_simp}
  refine StepsInv.cons2 _ rfl (fun d u W1 K' hs hI hd hw hK=> ?_) ?_
  {refine Z02 (v:= .string ⟨nm.toArray⟩) (W':=W1) rfl ?_ (hK.out _ _ (hI.pure (by decide) (fun v' h=>by cases h; rfl)));go_simp}
  refine StepsInv.cons2 _ rfl (fun d u W1 K' hs hI hd hw hK=> ?_) ?_
  {have d2:u 2= .string ⟨nm.toArray⟩:=hI.vals 2 (hw 2 (by kernel_rfl)) _ rfl;refine Z02 (v:= .slice (some ⟨W1.heap.size,0,none⟩) 1 1) (W':=W1.alloc (.cells #[.string ⟨nm.toArray⟩] 9)) rfl ?_ (hK.out _ _ (hI.s3 HX.out));go_simp}
  refine StepsInv.cons2 _ rfl (fun d u W1 K' hs hI hd hw hK=> ?_) ?_
  {have d1:u 1= .slice AN nl.length cN:=hI.vals 1 (hw 1 (by kernel_rfl)) _ rfl;obtain ⟨z,d3,z1,z2,z3⟩:=hI.f3 (hw 3 (by kernel_rfl)) hd;have h11:d 11=false:=Z0i hs rfl (by kernel_rfl) hd;have h13:d 13=false:=Z0i hs rfl (by kernel_rfl) h11;have h15:d 15=false:=Z0i hs rfl (by kernel_rfl) hd;have h17:d 17=false:=Z0i hs rfl (by kernel_rfl) hd;have hln:=HX.out.ln;have hsz:=hI.up.size;have hhw:=HX.out.hw;refine step_append_lies W1 rfl _ _ 22 rfl hi 9 i1 (.string ByteArray.empty) 1 16 Tryz.underlying22 hif1 hz1 hs1 hb1 rfl (by decide) _ _ _ (by show u 1=_; exact d1) (hI.n0 hd) ⟨z,0,none⟩ 1 1 [.string ⟨nm.toArray⟩] (by show u 3=_; exact d3) rfl (fun j v hv=>by
    rcases j with _ | j
    {rw[Z0f,z3]; simpa using hv}
    · simp at hv) (by intro v hv; simp at hv; subst hv; rfl) (by decide) (by show nl.length+1<=maxLen; unfold maxLen; change nl.length<=1000 at hln; omega) (by show (nl.length+1) * 16<=140737488355328; change nl.length<=1000 at hln; omega) (by change hi<=W.heap.size at hhw; change W.heap.size<=_ at hsz; omega) _ rfl ?_
   intro g cp W' hown hg hat hlt;rw[rowB_own] at hg hat;exact hK.out _ _ (hI.s4 HX.out h11 h13 h15 h17 hown hg hat)}
  refine StepsInv.cons2 _ rfl (fun d u W1 K' hs hI hd hw hK=> ?_) ?_
  {refine Z02 (v:= .pointer (some ⟨gm,4,none⟩)) (W':=W1) rfl ?_ (hK.out _ _ (hI.pure (by decide) (fun v' h=>by cases h; rfl)));go_simp}
  refine StepsInv.cons2 _ rfl (fun d u W1 K' hs hI hd hw hK=> ?_) ?_
  {have d5:u 5= .pointer (some ⟨gm,4,none⟩):=hI.vals 5 (hw 5 (by kernel_rfl)) _ rfl;have h17:d 17=false:=Z0i hs rfl (by kernel_rfl) hd;have c4:=hI.c4;rw[h17] at c4;simp only[Bool.false_eq_true,if_false] at c4;change W1.cell? ⟨gm,4,none⟩=_ at c4;refine Z02 (v:= .slice AP l.length cP) (W':=W1) rfl ?_ (hK.out _ _ (hI.pure (by decide) (fun v' h=>by cases h; rfl)));go_simp}
  refine StepsInv.cons2 _ rfl (fun d u W1 K' hs hI hd hw hK=> ?_) ?_
  {refine Z02 (v:= .pointer xp) (W':=W1) rfl ?_ (hK.out _ _ (hI.pure (by decide) (fun v' h=>by cases h; rfl)));go_simp}
  refine StepsInv.cons2 _ rfl (fun d u W1 K' hs hI hd hw hK=> ?_) ?_
  {refine Z02 (v:= .pointer (some ⟨gb,ob,none⟩)) (W':=W1) rfl ?_ (hK.out _ _ (hI.pure (by decide) (fun v' h=>by cases h; rfl)));go_simp}
  refine StepsInv.cons2 _ rfl (fun d u W1 K' hs hI hd hw hK=> ?_) ?_
  {have d8:u 8= .pointer (some ⟨gb,ob,none⟩):=hI.vals 8 (hw 8 (by kernel_rfl)) _ rfl;obtain ⟨b0,b1,b2,b3,b4⟩:=hI.box HX.out
   try dsimp only at b0 b1 b2 b3 b4
   refine Z02 (v:= .pointer (some ⟨gb,ob,none⟩)) (W':=W1) rfl ?_ (hK.out _ _ (hI.pure (by decide) (fun v' h=>by cases h; rfl)));go_simp}
  refine StepsInv.cons2 _ rfl (fun d u W1 K' hs hI hd hw hK=> ?_) ?_
  {have d9:u 9= .pointer (some ⟨gb,ob,none⟩):=hI.vals 9 (hw 9 (by kernel_rfl)) _ rfl;obtain ⟨b0,b1,b2,b3,b4⟩:=hI.box HX.out
   try dsimp only at b0 b1 b2 b3 b4
   refine Z02 (v:= .agg (Y8 q qy)) (W':=W1) rfl ?_ (hK.out _ _ (hI.pure (by decide) (fun v' h=>by cases h; rfl)));go_simp}
  refine StepsInv.cons2 _ rfl (fun d u W1 K' hs hI hd hw hK=> ?_) ?_
  {have d7:u 7= .pointer xp:=hI.vals 7 (hw 7 (by kernel_rfl)) _ rfl;have d10:u 10= .agg (Y8 q qy):=hI.vals 10 (hw 10 (by kernel_rfl)) _ rfl;have h12:d 12=false:=Z0i hs rfl (by kernel_rfl) hd;have h13:d 13=false:=Z0i hs rfl (by kernel_rfl) hd;have h17:d 17=false:=Z0i hs rfl (by kernel_rfl) h13;refine Z0F (f:=53) (args:=#[.pointer xp,.agg (Y8 q qy)]) (W':=W1) rfl ?_ ((HX.out.ok W1 hI.up).mono fun e w' hb=> ?_)
   {go_simp}
   {obtain ⟨v,he,hr⟩:=hI.s11 HX.out (hw 4 (by kernel_rfl)) h12 h13 h17 hb;exact ⟨v,he,hK.out _ _ hr⟩}}
  refine StepsInv.cons2 _ rfl (fun d u W1 K' hs hI hd hw hK=> ?_) ?_
  {have w11:=hw 11 (by kernel_rfl);obtain ⟨qr,_,_,e11,_⟩:=hI.ca w11;have d11:u 11= .agg (Y8 r qr):=e11;refine Z02 (v:= .slice (some ⟨W1.heap.size,0,none⟩) 1 1) (W':=W1.alloc (.cells (Y8 r qr) 25)) rfl ?_ (hK.out _ _ (hI.s12 HX.out w11 e11));go_simp}
  refine StepsInv.cons2 _ rfl (fun d u W1 K' hs hI hd hw hK=> ?_) ?_
  {have d6:u 6= .slice AP l.length cP:=hI.vals 6 (hw 6 (by kernel_rfl)) _ rfl;have w12:=hw 12 (by kernel_rfl);have w11:=hw 11 (by kernel_rfl);have w4:d 4=true:=hs 11 _ rfl w11 4 (by kernel_rfl);obtain ⟨qr,s,e,e11,_,_,_,_,_,hf,_⟩:=hI.ca w11;obtain ⟨z,d12,z1,z2,z3⟩:=hf w12 hd;have h15:d 15=false:=Z0i hs rfl (by kernel_rfl) hd;have h17:d 17=false:=Z0i hs rfl (by kernel_rfl) hd;have hll:=HX.out.ll;have hsz:=hI.up.size;have hhw:=HX.out.hw;refine step_append_lies W1 rfl _ _ 23 rfl hi 25 i0 (.agg #[.int .i64 0,.string ByteArray.empty,.string ByteArray.empty,.slice none 0 0,.slice none 0 0]) 5 88 Tryz.underlying23 hif0 hz0 hs0 hb0 rfl (by decide) _ _ _ (by show u 6=_; exact d6) (hI.p0 hd) ⟨z,0,none⟩ 1 1 (cells5 (r,qr)) (by show u 12=_; exact d12) rfl (fun j v hv=>by rw[Z0f,Nat.zero_add]; exact z3 j v hv) (cells5_one _) (by decide) (by show l.length+1<=maxLen; unfold maxLen; change l.length<=1000 at hll; omega) (by show (l.length+1) * 88<=140737488355328; change l.length<=1000 at hll; omega) (by change hi<=W.heap.size at hhw; change W.heap.size<=_ at hsz; omega) _ rfl ?_;intro g cp W' hown hg hat hlt;rw[rowB_own] at hg hat;exact hK.out _ _ (hI.s13 HX.out w4 w12 hd h15 h17 e11 hown hg hat)}
  refine StepsInv.cons2 _ rfl (fun d u W1 K' hs hI hd hw hK=> ?_) ?_
  {refine Z02 (v:= .pointer (some ⟨gm,3,none⟩)) (W':=W1) rfl ?_ (hK.out _ _ (hI.pure (by decide) (fun v' h=>by cases h; rfl)));go_simp}
  refine StepsInv.cons2 _ rfl (fun d u W1 K' hs hI hd hw hK=> ?_) ?_
  {have d14:u 14= .pointer (some ⟨gm,3,none⟩):=hI.vals 14 (hw 14 (by kernel_rfl)) _ rfl;have w13:=hw 13 (by kernel_rfl);have w11:d 11=true:=hs 13 _ rfl w13 11 (by kernel_rfl);have w4:d 4=true:=hs 11 _ rfl w11 4 (by kernel_rfl);obtain ⟨g,c,e,_⟩:=hI.n1 w4;change u 4= .slice (some ⟨g,0,none⟩) (nl.length+1) c at e;have hst:=hI.sto HX.out w4 w13 15 3 (by decide) hd;have cc:=hI.c3;rw[hd] at cc;simp only[Bool.false_eq_true,if_false] at cc;change W1.cell? ⟨gm,3,none⟩=_ at cc;have hfz:=hI.fz 3;change W1.frozen? ⟨gm,3,none⟩=_ at hfz;rw[if_pos rfl,e] at hst;change GX.GI _ _ _ (W1.setCell ⟨gm,3,none⟩ _) at hst;refine Z0q (W':=W1.setCell ⟨gm,3,none⟩ (.slice (some ⟨g,0,none⟩) (nl.length+1) c)) rfl ?_ (hK.out undef _ hst);go_simp}
  refine StepsInv.cons2 _ rfl (fun d u W1 K' hs hI hd hw hK=> ?_) ?_
  {refine Z02 (v:= .pointer (some ⟨gm,4,none⟩)) (W':=W1) rfl ?_ (hK.out _ _ (hI.pure (by decide) (fun v' h=>by cases h; rfl)));go_simp}
  refine StepsInv.cons2 _ rfl (fun d u W1 K' hs hI hd hw hK=> ?_) StepsInv.nil
  {have d16:u 16= .pointer (some ⟨gm,4,none⟩):=hI.vals 16 (hw 16 (by kernel_rfl)) _ rfl;have w13:=hw 13 (by kernel_rfl);have w11:d 11=true:=hs 13 _ rfl w13 11 (by kernel_rfl);have w4:d 4=true:=hs 11 _ rfl w11 4 (by kernel_rfl);obtain ⟨_,_,_,_,_,_,_,_,_,_,hp⟩:=hI.ca w11;obtain ⟨g,c,e,_⟩:=hp w13;change u 13= .slice (some ⟨g,0,none⟩) (l.length+1) c at e;have hst:=hI.sto HX.out w4 w13 17 4 (by decide) hd;have cc:=hI.c4;rw[hd] at cc;simp only[Bool.false_eq_true,if_false] at cc;change W1.cell? ⟨gm,4,none⟩=_ at cc;have hfz:=hI.fz 4;change W1.frozen? ⟨gm,4,none⟩=_ at hfz;rw[if_neg (by decide),e] at hst;change GX.GI _ _ _ (W1.setCell ⟨gm,4,none⟩ _) at hst;refine Z0q (W':=W1.setCell ⟨gm,4,none⟩ (.slice (some ⟨g,0,none⟩) (l.length+1) c)) rfl ?_ (hK.out undef _ hst);go_simp}
  {intro d u W1 hI hd;have hfin:=GX.done hI HX.out (fun j hj=>hd j (by show j < 18; omega)) HKS.out HNL.out HPF.out HPG.out;have HF:=Y1 hfin;clear hI hd hfin;go_wp2;go_ret;rw[<-HRE.out];exact ⟨rfl,by simpa using HF.out.1,HF.out.2⟩}
end SubM
end Go.Proofs.YtlomianlcnmfgaaGreatDoor
namespace Go.Proofs.YtlomianlcnmfgaaGreatDoor
open Go.RowKit Shp Sub
namespace SubM
theorem GQ.done {X:GQ} {d:Nat->Bool} {u:Nat->Value} {W:World} (hI:X.GI d u W) (hX:X.Good) (hd: ∀j,j < 12->d j=true) {w0:World} {p1 p2:Nat} {f1 f2:Value} {k:Int} {o nm:List UInt8} {ps:List Sh}
 (hK:KPs w0 X.n0 X.gm X.hi p1 p2 f1 f2 k o nm true ps X.l X.AP X.cP X.W0) (h1:p1 < X.hi) (h2:p2 < X.hi) (g1:p1≠X.gm) (g2:p2≠X.gm):
 KP w0 X.n0 X.gm X.hi p1 p2 f1 f2 k o nm true (ps++ [X.r]) W/\Upd (fun b=>b=X.gm\/X.hi<=b) X.W0 W:=by
 obtain ⟨qr,s,e,e4,s1,s2,s3,hk,hp⟩:=hI.ca (hd 4 (by omega));obtain ⟨g',c',e7,rP,nP,_⟩:=hp (hd 7 (by omega));rw[hd 9 (by omega)] at rP;simp only[if_true] at rP;have c4:=hI.c4;rw[hd 11 (by omega),e7] at c4;simp only[if_true] at c4;have hm:=hK.mm;have hu:=hI.up;have hrl: ∀b,X.set b->w0.heap.size<=b:=fun b hb=>by have:=(hX.set_lt hb).1; have:=hm.lo; omega
 have hh:=hX.hw;have hng:=hX.ng;refine ⟨⟨X.l++ [(X.r,qr)],some ⟨g',0,none⟩,c',⟨⟨hm.up.trans (hu.below hm.up.size hrl),hm.lo,hm.gh,Nat.le_trans hm.hw hu.size,(hI.cr 0 (by omega)).trans hm.c0,(hI.cr 1 (by omega)).trans hm.c1,(hI.cr 2 (by omega)).trans hm.c2,(hI.cr 3 (by omega)).trans hm.c3, ?_,hI.fz,Z0g hm.rN hu nofun, ?_,Or.inl rfl⟩, ?_,fun _ x hx=> ?_, ?_, ?_⟩⟩,hu.mono (fun b _ hb=> ?_)⟩
 {rw[List.length_append]; exact c4}
 {rw[List.length_append,cellsE_append,cellsE_one]; exact rP}
 {rw[List.map_append,hK.eq]; rfl}
 {rcases List.mem_append.1 hx with hx | hx
  {refine (hK.kp rfl x hx).move hu (fun b hb hf=>⟨fun ht=> ?_, ?_⟩)
   {rcases hf with hf | ⟨hf,f1,f2⟩
    {have:=(hX.set_lt ht).1; omega}
    {rcases ht with ht | ht
     {have:=hX.gh; omega}
     {exact f2 ht}}}
   {rcases hf with hf | ⟨hf,f1,f2⟩
    {exact Or.inl hf}
    {refine Or.inr ⟨hf,nofun,fun e=> ?_⟩;have e:g'=b:=by simpa[rowB] using e
     subst e;exact nP.elim f2 (fun h=>by omega)}}}
  {rw[List.mem_singleton.1 hx];refine hk.more (fun b hb hS=> ?_);rcases hS with h | ⟨h1,h2⟩
   {exact Or.inl h}
   {refine Or.inr ⟨by omega,nofun,fun e=> ?_⟩;have e:g'=b:=by simpa[rowB] using e
    rcases nP with h | h
    {have:=(Z08 hX.rP g' h).2; omega}
    {omega}}}}
 {refine (hu.cell (by omega) (fun ht=> ?_)).trans hK.fa;rcases ht with ht | ht
  {exact g1 ht}
  {have:=(Z08 hX.rP p1 ht).1; omega}}
 {refine (hu.cell (by omega) (fun ht=> ?_)).trans hK.fr;rcases ht with ht | ht
  {exact g2 ht}
  {have:=(Z08 hX.rP p2 ht).1; omega}}
 {rcases hb with hb | hb
  {exact Or.inl hb}
  {exact Or.inr (Z08 hX.rP b hb).1}}
theorem Z7Z {f:Nat} (hI:NamedOk f) (w0:World) (n0 gm hi p1 p2:Nat) (f1 f2:Value) (k:Int) (o nm:List UInt8) (ps:List Sh) (p q:Sh) (x y:Ptr) (last:Bool) (W:World) (htwo:Two f p q) (up:Bool) (hr:Grd.R true f up p q)
 (hn:n0<=gm) (h1:p1 < hi) (h2:p2 < hi) (g1:p1≠gm) (g2:p2≠gm) (hL:ps.length<=900) (hx:ShAt W n0 x p) (hy:ShAt W n0 y q) (hk:KP w0 n0 gm hi p1 p2 f1 f2 k o nm true ps W):
 Calls Tryz.prog 55 (sv p x::sv q y:: .bool last:: .pointer (some ⟨gm,0,none⟩):: []).toArray W fun e W'=>e= .returned (.bool true)/\
  KP w0 n0 gm hi p1 p2 f1 f2 k o nm true (ps++ [Grd.named f p q]) W'/\Upd (fun b=>b=gm\/hi<=b) W W':=by
 obtain ⟨l,AP,cP,hks⟩:=hk;have hm:=hks.mm;have hgh:=hm.gh;have hhw:=hm.hw;have hlen:=hks.len;have hb1:=Z01 W (.cells (Y8 p x) 25);obtain ⟨w1,hw1⟩: ∃w1,w1=W.alloc (.cells (Y8 p x) 25):=⟨_,rfl⟩;have hb2:=Z01 w1 (.cells (Y8 q y) 25);obtain ⟨w2,hw2⟩: ∃w2,w2=w1.alloc (.cells (Y8 q y) 25):=⟨_,rfl⟩;have hs1:w1.heap.size=W.heap.size+1:=by rw[hw1]; simp
 have hs2:w2.heap.size=W.heap.size+2:=by rw[hw2]; simp[hs1]
 rw[<-hw1] at hb1;rw[<-hw2] at hb2;have hB1:Box5 w1 W.heap.size p x:=by rw[hw1]; exact Z05 W p x
 have hB2:Box5 w2 w1.heap.size q y:=by rw[hw2]; exact Z05 w1 q y
 have hBA:=hB1.next hb2;rw[hs1] at hB2;have hbw:=Z00 hb1 hb2;have hu:Upd (fun _=>False) W w2:=Upd.new hbw;have hks2:=hks.new h1 h2 hbw;have hm2:=hks2.mm;have hx2:=Z0a hx (by omega) hu (fun _ _ h=>h);have hy2:=Z0a hy (by omega) hu (fun _ _ h=>h);obtain ⟨r,hre⟩: ∃r,r=Grd.named f p q:=⟨_,rfl⟩;have hsl: ∀b,(GQ.mk w2 gm hi AP cP l W.heap.size (W.heap.size+1) p x q y r n0).set b->gm<=b:=fun b hb=>by
  rcases hb with hb | hb
  {have hb:b=gm:=hb; omega}
  {have:=Z08 hm.rP b hb; omega}
 have hX: (GQ.mk w2 gm hi AP cP l W.heap.size (W.heap.size+1) p x q y r n0).Good:=by
  refine ⟨hn,hm.gh,hm2.hw,hm2.c4,hm2.fz,hm2.rP,⟨by show gm < W.heap.size; omega,by show W.heap.size < w2.heap.size; omega,fun e=>by have:=(Z08 hm.rP W.heap.size e).2; omega⟩,
   ⟨by show gm < W.heap.size+1; omega,by show W.heap.size+1 < w2.heap.size; omega,fun e=>by have:=(Z08 hm.rP (W.heap.size+1) e).2; omega⟩,hBA.2.1,hB2.2.1,by show l.length<=1000; omega,fun W' hu=> ?_⟩
  rw[hre];exact hI up p q x y n0 W' htwo hr (Z0a hx2 (by omega) hu (fun b hb hs=>by have:=hsl b hs; omega)) (Z0a hy2 (by omega) hu (fun b hb hs=>by have:=hsl b hs; omega)) (by have:=hu.size; show n0<=_; change w2.heap.size<=_ at this; omega)
 obtain ⟨i0,hif0,hz0,hsz0,hbz0⟩:=Z0S Z1R;have hen:=enters_of Tryz.func28 (by kernel_rfl) rfl;have HX:=Y1 hX;have HKS:=Y1 hks2;have HU:=Y1 hu;have HRE:=Y1 hre;have HP1:=Y1 h1;have HP2:=Y1 h2;have HG1:=Y1 g1;have HG2:=Y1 g2;have hw1':=hw1.symm;have hw2':=hw2.symm;clear hX hks hks2 hm hm2 hI hL hx hy hx2 hy2 hgh hhw hlen hre hsl hn h1 h2 g1 g2 hb1 hb2 hB1 hB2 hBA hbw hu hw1 hw2 hs2 htwo hr;unfold sv;go_enter Tryz.func55,Tryz.ntmps55
 go_wp2_with fail
 refine Z1u (rs:= [0,1,2,3,4,5,6,7,8,9,10,11])
  (fun u=> { tmps:=#[.agg (Y8 p x),.agg (Y8 q y),.bool last,.pointer (some ⟨gm,0,none⟩),.pointer (some ⟨W.heap.size,0,none⟩),.pointer (some ⟨W.heap.size+1,0,none⟩),undef,.bool false,u 0,u 1,u 2,u 3,u 4,u 5,u 6,u 7,u 8,u 10],defers:= [] })
  (fun j=>undef) (GQ.GI ⟨w2,gm,hi,AP,cP,l,W.heap.size,W.heap.size+1,p,x,q,y,r,n0⟩) (by kernel_rfl) (by kernel_rfl) (by kernel_rfl) HX.out.start ?_ ?_
 refine StepsInv.cons2 _ rfl (fun d u W1 K' hs hI hd hw hK=> ?_) ?_
 {refine Z02 (v:= .pointer (some ⟨gm,4,none⟩)) (W':=W1) rfl ?_ (hK.out _ _ (hI.pure (by decide) (fun v' h=>by cases h; rfl)));go_simp}
 refine StepsInv.cons2 _ rfl (fun d u W1 K' hs hI hd hw hK=> ?_) ?_
 {have d0:u 0= .pointer (some ⟨gm,4,none⟩):=hI.vals 0 (hw 0 (by kernel_rfl)) _ rfl;have h11:d 11=false:=Z0i hs rfl (by kernel_rfl) hd;have c4:=hI.c4;rw[h11] at c4;simp only[Bool.false_eq_true,if_false] at c4;change W1.cell? ⟨gm,4,none⟩=_ at c4;refine Z02 (v:= .slice AP l.length cP) (W':=W1) rfl ?_ (hK.out _ _ (hI.pure (by decide) (fun v' h=>by cases h; rfl)));go_simp}
 refine StepsInv.cons2 _ rfl (fun d u W1 K' hs hI hd hw hK=> ?_) ?_
 {obtain ⟨⟨b0,b1,b2,b3,b4⟩,_⟩:=hI.box HX.out;simp only[Nat.zero_add] at b0 b1 b2 b3 b4
  try dsimp only at b0 b1 b2 b3 b4
  refine Z02 (v:= .agg (Y8 p x)) (W':=W1) rfl ?_ (hK.out _ _ (hI.pure (by decide) (fun v' h=>by cases h; rfl)));go_simp}
 refine StepsInv.cons2 _ rfl (fun d u W1 K' hs hI hd hw hK=> ?_) ?_
 {obtain ⟨_,⟨b0,b1,b2,b3,b4⟩⟩:=hI.box HX.out;simp only[Nat.zero_add] at b0 b1 b2 b3 b4
  try dsimp only at b0 b1 b2 b3 b4
  refine Z02 (v:= .agg (Y8 q y)) (W':=W1) rfl ?_ (hK.out _ _ (hI.pure (by decide) (fun v' h=>by cases h; rfl)));go_simp}
 refine StepsInv.cons2 _ rfl (fun d u W1 K' hs hI hd hw hK=> ?_) ?_
 {have d2:u 2= .agg (Y8 p x):=hI.vals 2 (hw 2 (by kernel_rfl)) _ rfl;have d3:u 3= .agg (Y8 q y):=hI.vals 3 (hw 3 (by kernel_rfl)) _ rfl;have h7:d 7=false:=Z0i hs rfl (by kernel_rfl) hd;refine Z0F (f:=28) (args:=#[.agg (Y8 p x),.agg (Y8 q y)]) (W':=W1) rfl ?_ ((HX.out.ok W1 hI.up).mono fun e w' hb=> ?_)
  {go_simp}
  {obtain ⟨v,he,hr⟩:=hI.s4 HX.out h7 hb;exact ⟨v,he,hK.out _ _ hr⟩}}
 refine StepsInv.cons2 _ rfl (fun d u W1 K' hs hI hd hw hK=> ?_) ?_
 {have d1:u 1= .slice AP l.length cP:=hI.vals 1 (hw 1 (by kernel_rfl)) _ rfl;refine Z02 (v:= .int .i64 (l.length:Int)) (W':=W1) rfl ?_ (hK.out _ _ (hI.pure (by decide) (fun v' h=>by cases h; rfl)));go_simp}
 refine StepsInv.cons2 _ rfl (fun d u W1 K' hs hI hd hw hK=> ?_) ?_
 {refine Z02 (v:= .slice (some ⟨W1.heap.size,0,none⟩) 1 1) (W':=W1.alloc (.cells Yb 25)) rfl ?_ (hK.out _ _ (hI.s6 HX.out));go_simp}
 refine StepsInv.cons2 _ rfl (fun d u W1 K' hs hI hd hw hK=> ?_) ?_
 {have d1:u 1= .slice AP l.length cP:=hI.vals 1 (hw 1 (by kernel_rfl)) _ rfl;have w4:=hw 4 (by kernel_rfl);obtain ⟨z,d6,z1,z2,z3⟩:=hI.f6 (hw 6 (by kernel_rfl)) hd;have h8:d 8=false:=Z0i hs rfl (by kernel_rfl) hd;have h9:d 9=false:=Z0i hs rfl (by kernel_rfl) hd;have h11:d 11=false:=Z0i hs rfl (by kernel_rfl) hd;have hll:=HX.out.ll;have hsz:=hI.up.size;have hhw:=HX.out.hw;refine step_append_lies W1 rfl _ _ 23 rfl hi 25 i0 (.agg #[.int .i64 0,.string ByteArray.empty,.string ByteArray.empty,.slice none 0 0,.slice none 0 0]) 5 88 Tryz.underlying23 hif0 hz0 hsz0 hbz0 rfl (by decide) _ _ _ (by show u 1=_; exact d1) (hI.p0 hd) ⟨z,0,none⟩ 1 1 Z0A (by show u 6=_; exact d6) rfl (fun j v hv=>by rw[Z0f,Nat.zero_add]; exact z3 j v hv) Z9n (by decide) (by show l.length+1<=maxLen; unfold maxLen; change l.length<=1000 at hll; omega) (by show (l.length+1) * 88<=140737488355328; change l.length<=1000 at hll; omega) (by change hi<=w2.heap.size at hhw; change w2.heap.size<=_ at hsz; omega) _ rfl ?_;intro g cp W' hown hg hat hlt;rw[rowB_own] at hg hat;exact hK.out _ _ (hI.s7 HX.out w4 hd h8 h9 h11 hown hg hat)}
 refine StepsInv.cons2 _ rfl (fun d u W1 K' hs hI hd hw hK=> ?_) ?_
 {have d5:u 5= .int .i64 (l.length:Int):=hI.vals 5 (hw 5 (by kernel_rfl)) _ rfl;have w7:=hw 7 (by kernel_rfl);have w4:d 4=true:=hs 7 _ rfl w7 4 (by kernel_rfl);obtain ⟨qr,s,e,e4,_,_,_,_,hp⟩:=hI.ca w4;obtain ⟨g,c,d7,r7,_⟩:=hp w7
  try dsimp only at d7
  have hi1: ¬((l.length:Int) < 0):=by omega
  have hi2: (l.length:Int) < ((l.length+1:Nat):Int):=by omega
  refine Z02 (v:= .pointer (some ⟨g,l.length * 5,none⟩)) (W':=W1) rfl ?_ (hK.out _ _ (hI.s8 HX.out w7 (fun g' c' e'=>by
   have ee:=d7.symm.trans e';simp only[Value.slice.injEq,Option.some.injEq,Addr.mk.injEq,and_true] at ee;rw[ee.1])))
  go_simp;exact fun h=>absurd h (by omega)}
 refine StepsInv.cons2 _ rfl (fun d u W1 K' hs hI hd hw hK=> ?_) ?_
 {have w8:=hw 8 (by kernel_rfl);have w4:=hw 4 (by kernel_rfl);have w7:d 7=true:=hs 8 _ rfl w8 7 (by kernel_rfl);obtain ⟨qr,s,e,e4,_,_,_,_,hp⟩:=hI.ca w4;obtain ⟨g,c,e7,r7,_,m⟩:=hp w7;have d8:=m w8;have d4:u 4= .agg (Y8 r qr):=e4
  try dsimp only at d8
  have hst:=hI.s9 HX.out w4 w7 hd e4 e7;rw[hd] at r7;simp only[Bool.false_eq_true,if_false] at r7;obtain ⟨v0,y0,z0⟩:=Z2L (cellsE_len l) r7 0 (by omega);obtain ⟨v1,y1,z1⟩:=Z2L (cellsE_len l) r7 1 (by omega);obtain ⟨v2,y2,z2⟩:=Z2L (cellsE_len l) r7 2 (by omega);obtain ⟨v3,y3,z3⟩:=Z2L (cellsE_len l) r7 3 (by omega);obtain ⟨v4,y4,z4⟩:=Z2L (cellsE_len l) r7 4 (by omega);simp only[Nat.add_zero] at y0 z0;refine Z0q (W':=layO W1 g (l.length * 5) (r,qr)) rfl ?_ (hK.out undef _ hst);go_simp;rfl}
 refine StepsInv.cons2 _ rfl (fun d u W1 K' hs hI hd hw hK=> ?_) ?_
 {refine Z02 (v:= .pointer (some ⟨gm,4,none⟩)) (W':=W1) rfl ?_ (hK.out _ _ (hI.pure (by decide) (fun v' h=>by cases h; rfl)));go_simp}
 refine StepsInv.cons2 _ rfl (fun d u W1 K' hs hI hd hw hK=> ?_) StepsInv.nil
 {have d10:u 10= .pointer (some ⟨gm,4,none⟩):=hI.vals 10 (hw 10 (by kernel_rfl)) _ rfl;have w7:=hw 7 (by kernel_rfl);have w4:d 4=true:=hs 7 _ rfl w7 4 (by kernel_rfl);obtain ⟨qr,s,e,e4,_,_,_,_,hp⟩:=hI.ca w4;obtain ⟨g,c,e7,_⟩:=hp w7;have hst:=hI.s11 HX.out w4 w7 hd;have cc:=hI.c4;rw[hd] at cc;simp only[Bool.false_eq_true,if_false] at cc;change W1.cell? ⟨gm,4,none⟩=_ at cc;have hfz:=hI.fz 4;change W1.frozen? ⟨gm,4,none⟩=_ at hfz;rw[e7] at hst;change GQ.GI _ _ _ (W1.setCell ⟨gm,4,none⟩ _) at hst;change u 7= .slice (some ⟨g,0,none⟩) (l.length+1) c at e7;refine Z0q (W':=W1.setCell ⟨gm,4,none⟩ (.slice (some ⟨g,0,none⟩) (l.length+1) c)) rfl ?_ (hK.out undef _ hst);go_simp}
 {intro d u W1 hI hd;have hfin:=GQ.done hI HX.out (fun j hj=>hd j (by show j < 12; omega)) HKS.out HP1.out HP2.out HG1.out HG2.out;have HF:=Y1 hfin;clear hI hd hfin;go_wp2;go_ret;rw[<-HRE.out];exact ⟨rfl,HF.out.1,(HU.out.mono (fun _ _ h=>h.elim)).trans HF.out.2⟩}
end SubM
end Go.Proofs.YtlomianlcnmfgaaGreatDoor
