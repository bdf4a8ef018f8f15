/- What the proofs of SubtypeBelows want, part 2. -/
import Derived.MakeChecks
import Derived.Lib.LaidTab
import Derived.WalkLawsBesides
import Derived.Test.YthajhofgjhfjeaaDoorK0n1
set_option linter.unusedVariables false
set_option linter.unusedSimpArgs false
set_option linter.unusedSectionVars false
set_option maxRecDepth 100000
set_option maxHeartbeats 16000000
namespace Go.Proofs.YthajhofgjhfjeaaDoor
open Go.RowKit Shp Sub
namespace SubM
def Zag:List Value:= [.int .i64 0,.string ⟨#[]⟩,.string ⟨#[]⟩,.slice none 0 0,.slice none 0 0]
theorem Zbi: ∀u∈Zag,u.oneCell'=true:=by
 intro u hu;simp only[Zag,List.mem_cons,List.not_mem_nil,or_false] at hu;rcases hu with rfl | rfl | rfl | rfl | rfl <;> rfl
def layO (W:World) (g i:Nat) (x:El):World:=(((((W).setCell ⟨g,i+0,none⟩ (.int .i64 x.1.kind)).setCell ⟨g,i+1,none⟩ (.string ⟨x.1.of_.toArray⟩)).setCell ⟨g,i+2,none⟩ (.string ⟨x.1.name.toArray⟩)).setCell ⟨g,i+3,none⟩ (.slice x.2.A x.1.names.length x.2.c)).setCell ⟨g,i+4,none⟩ (.slice x.2.P x.1.parts.length x.2.d)
theorem ZaT {a b c:World} {r:Option Nat} (h:a.grownBy b r) (k:b.grownBy c r):a.grownBy c r:=
 ⟨k.os.trans h.os,k.tape.trans h.tape,k.output.trans h.output,Nat.le_trans h.size k.size,fun j hj hr=>(k.block j (Nat.lt_of_lt_of_le hj h.size) hr).trans (h.block j hj hr)⟩
theorem ZcT {W:World} (x:El) {g cp n B:Nat} {ys:List Value} (hn:ys.length=n * 5) (h:W.ownsRow B 25 5 (.slice (some ⟨g,0,none⟩) (n+1) cp) (n+1) (ys++Zag)):
 (layO W g (n * 5) x).ownsRow B 25 5 (.slice (some ⟨g,0,none⟩) (n+1) cp) (n+1) (ys++Za9 x)/\W.grownBy (layO W g (n * 5) x) (some g):=by
 obtain ⟨h0,g0⟩:=World.ownsRow.stored h (n * 5+0) (.int .i64 x.1.kind);obtain ⟨h1,g1⟩:=World.ownsRow.stored h0 (n * 5+1) (.string ⟨x.1.of_.toArray⟩);obtain ⟨h2,g2⟩:=World.ownsRow.stored h1 (n * 5+2) (.string ⟨x.1.name.toArray⟩);obtain ⟨h3,g3⟩:=World.ownsRow.stored h2 (n * 5+3) (.slice x.2.A x.1.names.length x.2.c);obtain ⟨h4,g4⟩:=World.ownsRow.stored h3 (n * 5+4) (.slice x.2.P x.1.parts.length x.2.d);refine ⟨?_,(ZaT (ZaT (ZaT (ZaT g0 g1) g2) g3) g4)⟩;have hs: ∀(zs:List Value) (k:Nat) (v:Value),(ys++zs).set (n * 5+k) v=ys++zs.set k v:=fun zs k v=>by rw[<-hn,List.set_append_right _ _ (by omega),Nat.add_sub_cancel_left]
 rw[hs,hs,hs,hs,hs] at h4;exact h4
theorem ZbH {W:World} {g cp n B:Nat} {ys:List Value} (hn:ys.length=n * 5) (h:W.ownsRow B 25 5 (.slice (some ⟨g,0,none⟩) (n+1) cp) (n+1) (ys++Zag)) (k:Nat) (hk:k < 5): ∃v,W.cell? ⟨g,n * 5+k,none⟩=some v/\W.frozen? ⟨g,n * 5+k,none⟩=false:=by
 have h1:=h.cellAt (n * 5+k) (by rw[Nat.add_mul]; omega);rw[List.getElem?_append_right (by omega),hn,Nat.add_sub_cancel_left] at h1;have h2:k < Zag.length:=hk;rw[List.getElem?_eq_getElem h2] at h1;exact ⟨_,h1,h.frozenAt _⟩
structure QX where
 W0:World
 gm:Nat
 hi:Nat
 gp:Nat
 AP:Option Addr
 cP:Nat
 l:List El
 x:El
namespace QX
variable (X : QX)
def val (j:Nat):Option Value:=match j with
 | 0 | 8=>some (.pointer (some ⟨X.gm,4,none⟩))
 | 1=>some (.slice X.AP X.l.length X.cP)
 | 2=>some (sv X.x.1 X.x.2)
 | 3=>some (.int .i64 (X.l.length:Int))
 | _=>none
def set (b:Nat):Prop:=b=X.gm\/rowB X.AP=some b
structure Good:Prop where
 gh:X.gm < X.hi
 hw:X.hi<=X.gp
 pw:X.gp < X.W0.heap.size
 c4:X.W0.cell? ⟨X.gm,4,none⟩=some (.slice X.AP X.l.length X.cP)
 fz: ∀j,X.W0.frozen? ⟨X.gm,j,none⟩=false
 rP:X.W0.ownsRow X.hi 25 5 (.slice X.AP X.l.length X.cP) X.l.length (cellsE X.l)
 bp:rowB X.AP≠some X.gp
 box:Sh5 X.W0 X.gp 0 X.x.1 X.x.2
 ll:X.l.length<=1000
structure QI (d:Nat->Bool) (u:Nat->Value) (W:World):Prop where
 vals: ∀j,d j=true-> ∀v,X.val j=some v->u j=v
 up:Upd X.set X.W0 W
 f4:d 4=true->d 5=false-> ∃z,u 4= .slice (some ⟨z,0,none⟩) 1 1/\X.W0.heap.size<=z/\z < W.heap.size/\ ∀(j:Nat) v,Zag[j]? =some v->W.cell? ⟨z,j,none⟩=some v
 p0:d 5=false->W.ownsRow X.hi 25 5 (.slice X.AP X.l.length X.cP) X.l.length (cellsE X.l)
 p1:d 5=true-> ∃g c,u 5= .slice (some ⟨g,0,none⟩) (X.l.length+1) c/\W.ownsRow X.hi 25 5 (.slice (some ⟨g,0,none⟩) (X.l.length+1) c) (X.l.length+1) (cellsE X.l++if d 7=true then Za9 X.x else Zag)/\(rowB X.AP=some g\/X.W0.heap.size<=g)/\
  (d 6=true->u 6= .pointer (some ⟨g,X.l.length * 5,none⟩))
 c4:W.cell? ⟨X.gm,4,none⟩=some (if d 9=true then u 5 else .slice X.AP X.l.length X.cP)
 cr: ∀j,j < 4->W.cell? ⟨X.gm,j,none⟩=X.W0.cell? ⟨X.gm,j,none⟩
 fz: ∀j,W.frozen? ⟨X.gm,j,none⟩=false
variable {X : QX} {d : Nat -> Bool} {u : Nat -> Value} {W W' : World}
theorem QI.vals' (h:X.QI d u W) {i:Nat} {v:Value} (hv: ∀v',X.val i=some v'->v=v'): ∀j,also d i j=true-> ∀v',X.val j=some v'->upd u i v j=v':=fun j hj v' hv'=>by
 by_cases hij:j=i
 {subst hij; rw[Z2p]; exact hv v' hv'}
 {rw[Za3 d hij] at hj; rw[Z15 u v hij]; exact h.vals j hj v' hv'}
theorem Good.start (h:X.Good):X.QI (fun _=>false) u X.W0.drew:=
 ⟨nofun,(Upd.refl _ _).drew,nofun,fun _=>h.rP,nofun,h.c4,fun _ _=>rfl,h.fz⟩
theorem QI.pure (h:X.QI d u W) {i:Nat} (hi:i≠4/\i≠5/\i≠6/\i≠7/\i≠9) {v:Value} (hv: ∀v',X.val i=some v'->v=v'):X.QI (also d i) (upd u i v) W:=by
 have k: ∀j,j=4\/j=5\/j=6\/j=7\/j=9->also d i j=d j/\upd u i v j=u j:=fun j hj=>⟨Za3 d (by omega),Z15 u v (by omega)⟩;refine ⟨h.vals' hv,h.up, ?_, ?_, ?_, ?_,h.cr,h.fz⟩
 {rw[(k 4 (by omega)).1,(k 4 (by omega)).2,(k 5 (by omega)).1]; exact h.f4}
 {rw[(k 5 (by omega)).1]; exact h.p0}
 {rw[(k 5 (by omega)).1,(k 5 (by omega)).2,(k 7 (by omega)).1,(k 6 (by omega)).1,(k 6 (by omega)).2]; exact h.p1}
 {rw[(k 9 (by omega)).1,(k 5 (by omega)).2]; exact h.c4}
theorem QI.box (h:X.QI d u W) (hX:X.Good):Sh5 W X.gp 0 X.x.1 X.x.2:=
 hX.box.of (fun k=>h.up.cell hX.pw (fun hs=>by
  rcases hs with hs | hs
  {have:=hX.gh; have:=hX.hw; omega}
  · exact hX.bp hs))
theorem QI.gmw (h:X.QI d u W) (hX:X.Good):X.gm < W.heap.size:=by have:=hX.gh; have:=hX.hw; have:=hX.pw; have:=h.up.size; omega
theorem not_gm (hX:X.Good) {W':World} {g n c e s m:Nat} {xs:List Value} (r:W'.ownsRow X.hi e s (.slice (some ⟨g,0,none⟩) n c) m xs):g≠X.gm:=by
 have h1:=(r.lt g rfl).1;have:=hX.gh;omega
section
variable (h : X.QI d u W) (hX : X.Good)
include h hX
theorem QI.s4:X.QI (also d 4) (upd u 4 (.slice (some ⟨W.heap.size,0,none⟩) 1 1)) (W.alloc (.cells Yb 25)):=by
 have hb:=Z01 W (.cells Yb 25);have hu:Upd (fun _=>False) W (W.alloc (.cells Yb 25)):=Upd.new hb;have k: ∀j,j≠4->also d 4 j=d j/\ ∀v,upd u 4 v j=u j:=fun j hj=>⟨Za3 d hj,fun v=>Z15 u v hj⟩;have hs:=h.up.size;have hgm:=h.gmw hX;refine ⟨h.vals' (fun v' h=>by cases h),h.up.trans (hu.mono (fun _ _ h=>h.elim)),fun _ _=>⟨W.heap.size,Z2p _ _ _,hs,by simp, ?_⟩, ?_, ?_, ?_,fun j hj=>(hu.cell hgm (fun h=>h)).trans (h.cr j hj),fun j=>(hu.frozen hgm (fun h=>h)).trans (h.fz j)⟩
 {intro j v hv;rcases j with _ | _ | _ | _ | _ | j
  {simp[Zag] at hv; subst hv; simp[go_sem]}
  {simp[Zag] at hv; subst hv; simp[go_sem]}
  {simp[Zag] at hv; subst hv; simp[go_sem]}
  {simp[Zag] at hv; subst hv; simp[go_sem]}
  {simp[Zag] at hv; subst hv; simp[go_sem]}
  {simp[Zag] at hv}}
 {rw[(k 5 (by omega)).1]; exact fun h5=>Za6 (h.p0 h5) hu (fun _ _ h=>h)}
 {rw[(k 5 (by omega)).1,(k 5 (by omega)).2,(k 7 (by omega)).1,(k 6 (by omega)).1,(k 6 (by omega)).2];intro h5;obtain ⟨g,c,e,r,n,m⟩:=h.p1 h5;exact ⟨g,c,e,Za6 r hu (fun _ _ h=>h),n,m⟩}
 {rw[(k 9 (by omega)).1,(k 5 (by omega)).2]; exact (hu.cell hgm (fun h=>h)).trans h.c4}
theorem QI.s5 (h5:d 5=false) (h6:d 6=false) (h7:d 7=false) (h9:d 9=false) {g c:Nat} (hown:W'.ownsRow X.hi 25 5 (.slice (some ⟨g,0,none⟩) (X.l.length+1) c) (X.l.length+1) (cellsE X.l++Zag))
 (hg:W.grownBy W' (rowB X.AP)) (hat:rowB X.AP=some g\/g=W.heap.size):X.QI (also d 5) (upd u 5 (.slice (some ⟨g,0,none⟩) (X.l.length+1) c)) W':=by
 have k: ∀j,j≠5->also d 5 j=d j/\ ∀v,upd u 5 v j=u j:=fun j hj=>⟨Za3 d hj,fun v=>Z15 u v hj⟩;have hu:Upd (fun b=>rowB X.AP=some b) W W':=(Upd.refl _ W).grown hg (fun k h _=>h);have hgm:=h.gmw hX;have hgN: ¬rowB X.AP=some X.gm:=fun e=>by have:=(Za0 hX.rP _ e).1; have:=hX.gh; omega
 have hnz: ∀z,X.W0.heap.size<=z-> ¬rowB X.AP=some z:=fun z hz e=>by have:=(Za0 hX.rP _ e).2; omega
 have hs:=h.up.size;refine ⟨h.vals' (fun v' h=>by cases h),h.up.trans (hu.mono (fun b _ hb=>Or.inr hb)), ?_, ?_, ?_, ?_,fun j hj=>(hu.cell hgm hgN).trans (h.cr j hj),fun j=>(hu.frozen hgm hgN).trans (h.fz j)⟩
 {rw[Zab]; nofun}
 {rw[Zab]; nofun}
 {rw[(k 7 (by omega)).1,(k 6 (by omega)).1,h6,h7];exact fun _=>⟨g,c,Z2p _ _ _,hown,hat.imp id (fun e=>by omega),nofun⟩}
 {rw[(k 9 (by omega)).1,h9];have:=h.c4;rw[h9] at this;exact (hu.cell hgm hgN).trans this}
theorem QI.s6 (h5:d 5=true) {v:Value} (hv: ∀g c,u 5= .slice (some ⟨g,0,none⟩) (X.l.length+1) c->v= .pointer (some ⟨g,X.l.length * 5,none⟩)):X.QI (also d 6) (upd u 6 v) W:=by
 have k: ∀j,j≠6->also d 6 j=d j/\ ∀v,upd u 6 v j=u j:=fun j hj=>⟨Za3 d hj,fun v=>Z15 u v hj⟩;refine ⟨h.vals' (fun v' h=>by cases h),h.up, ?_, ?_, ?_, ?_,h.cr,h.fz⟩
 {rw[(k 5 (by omega)).1,h5]; nofun}
 {rw[(k 5 (by omega)).1]; exact h.p0}
 {rw[(k 5 (by omega)).1,(k 5 (by omega)).2,(k 7 (by omega)).1,Z2p];intro h5;obtain ⟨g,c,e,r,n,m⟩:=h.p1 h5;exact ⟨g,c,e,r,n,fun _=>hv g c e⟩}
 {rw[(k 9 (by omega)).1,(k 5 (by omega)).2]; exact h.c4}
theorem QI.s7 (h5:d 5=true) (h7:d 7=false) {g c:Nat} (e5:u 5= .slice (some ⟨g,0,none⟩) (X.l.length+1) c):X.QI (also d 7) (upd u 7 undef) (layO W g (X.l.length * 5) X.x):=by
 have k: ∀j,j≠7->also d 7 j=d j/\ ∀v,upd u 7 v j=u j:=fun j hj=>⟨Za3 d hj,fun v=>Z15 u v hj⟩;obtain ⟨g',c',e,r,n,m⟩:=h.p1 h5;have ee:=e.symm.trans e5;simp only[Value.slice.injEq,Option.some.injEq,Addr.mk.injEq,and_true] at ee;obtain ⟨rfl,_,rfl⟩:=ee;rw[h7] at r;simp only[Bool.false_eq_true,if_false] at r;obtain ⟨r',hg⟩:=ZcT X.x (ZaH X.l) r;have hu:Upd (fun b=>b=g') W (layO W g' (X.l.length * 5) X.x):=(Upd.refl _ W).grown hg (fun k h _=>by cases h; rfl);have hgm:=h.gmw hX;have hne: ¬X.gm=g':=fun e=>not_gm hX r e.symm;have hs:=h.up.size;have hz: ∀z,X.W0.heap.size<=z->z=g'->X.W0.heap.size<=g':=fun z h1 h2=>by omega
 refine ⟨h.vals' (fun v' h=>by cases h), ?_, ?_, ?_, ?_, ?_,fun j hj=>(hu.cell hgm hne).trans (h.cr j hj),fun j=>(hu.frozen hgm hne).trans (h.fz j)⟩
 {refine ⟨hu.os.trans h.up.os,hu.tape.trans h.up.tape,hu.output.trans h.up.output,Nat.le_trans h.up.size hu.size,fun x h1 h2=>(hu.block x (by omega) (fun e=> ?_)).trans (h.up.block x h1 h2)⟩;have e:x=g':=e;rcases n with n | n
  {exact h2 (Or.inr (by rw[e]; exact n))}
  {omega}}
 {rw[(k 5 (by omega)).1,h5]; nofun}
 {rw[(k 5 (by omega)).1,h5]; nofun}
 {rw[(k 5 (by omega)).2,(k 6 (by omega)).1,(k 6 (by omega)).2,Zab];exact fun _=>⟨g',c',e,by simpa using r',n,m⟩}
 {rw[(k 9 (by omega)).1,(k 5 (by omega)).2]; exact (hu.cell hgm hne).trans h.c4}
theorem QI.s9 (h5:d 5=true) (h9:d 9=false):X.QI (also d 9) (upd u 9 undef) (W.setCell ⟨X.gm,4,none⟩ (u 5)):=by
 have k: ∀j,j≠9->also d 9 j=d j/\ ∀v,upd u 9 v j=u j:=fun j hj=>⟨Za3 d hj,fun v=>Z15 u v hj⟩;have hgm:=h.gmw hX;obtain ⟨g,c,e,r,n,m⟩:=h.p1 h5;have hu:Upd (fun b=>b=X.gm) W (W.setCell ⟨X.gm,4,none⟩ (u 5)):=Upd.set (Upd.refl (fun b=>b=X.gm) W) ⟨X.gm,4,none⟩ (fun _=>rfl) _;refine ⟨h.vals' (fun v' h=>by cases h),h.up.trans (hu.mono (fun b _ hb=>Or.inl hb)), ?_, ?_, ?_, ?_,fun j hj=>(World.cell?_setCell_other _ _ _ _ (fun e=>by have:=congrArg Addr.off e; simp at this; omega)).trans (h.cr j hj),fun j=>(World.frozen?_setCell ..).trans (h.fz j)⟩
 {rw[(k 5 (by omega)).1,h5]; nofun}
 {rw[(k 5 (by omega)).1,h5]; nofun}
 {rw[(k 5 (by omega)).2,(k 7 (by omega)).1,(k 6 (by omega)).1,(k 6 (by omega)).2];exact fun _=>⟨g,c,e,Za6 r hu (fun b hb e2=>not_gm hX r (Eq.trans (show g=b by simpa[rowB] using hb) e2)),n,m⟩}
 {rw[Zab,if_pos rfl,(k 5 (by omega)).2];exact World.cell?_setCell_same _ _ _ h.c4}
end
end QX
end SubM
end Go.Proofs.YthajhofgjhfjeaaDoor
namespace Go.Proofs.YthajhofgjhfjeaaDoor
open Go.RowKit Shp Sub
namespace SubM
structure KPs (w0:World) (n0 gm hi p1 p2:Nat) (f1 f2:Value) (k:Int) (o nm:List UInt8) (ok:Bool) (ps:List Sh) (l:List El) (AP:Option Addr) (cP:Nat) (W:World):Prop where
 mm:Mk w0 gm hi k o nm [] l none 0 AP cP W
 eq:l.map Prod.fst=ps
 kp:ok=true-> ∀x∈l,Kept (Free n0 hi none AP) W x
 fa:W.cell? ⟨p1,0,none⟩=some f1
 fr:W.cell? ⟨p2,0,none⟩=some f2
def KP (w0:World) (n0 gm hi p1 p2:Nat) (f1 f2:Value) (k:Int) (o nm:List UInt8) (ok:Bool) (ps:List Sh) (W:World):Prop:= ∃l AP cP,KPs w0 n0 gm hi p1 p2 f1 f2 k o nm ok ps l AP cP W
section
variable {w0 W W' : World} {n0 gm hi p1 p2 : Nat} {f1 f2 : Value} {k : Int} {o nm : List UInt8} {ok : Bool} {ps : List Sh} {l : List El} {AP : Option Addr} {cP : Nat}
theorem KPs.len (h:KPs w0 n0 gm hi p1 p2 f1 f2 k o nm ok ps l AP cP W):l.length=ps.length:=by have:=congrArg List.length h.eq; simpa using this
theorem KPs.new (h:KPs w0 n0 gm hi p1 p2 f1 f2 k o nm ok ps l AP cP W) (h1:p1 < hi) (h2:p2 < hi) (hb:Below W.heap.size W W'):KPs w0 n0 gm hi p1 p2 f1 f2 k o nm ok ps l AP cP W':=
 ⟨h.mm.new hb,h.eq,fun ho x hx=>(h.kp ho x hx).upd (T:=fun _=>False) (Upd.new hb) (fun _ _ _ h=>h),(hb.cell (p:=⟨p1,0,none⟩) (Nat.lt_of_lt_of_le h1 h.mm.hw)).trans h.fa,(hb.cell (p:=⟨p2,0,none⟩) (Nat.lt_of_lt_of_le h2 h.mm.hw)).trans h.fr⟩
theorem KPs.mid {T:Nat->Prop} (h:KPs w0 n0 gm hi p1 p2 f1 f2 k o nm ok ps l AP cP W) (hu:Upd T W W') (hT: ∀b,T b->gm < b/\p1 < b/\p2 < b/\b < hi) (hn:n0<=gm) (h1:p1 < hi) (h2:p2 < hi):KPs w0 n0 gm hi p1 p2 f1 f2 k o nm ok ps l AP cP W':=by
 have hg:=h.mm.gh;refine ⟨h.mm.upd hu (fun b hb ht=> ?_) (fun ht=> ?_) (fun b hb ht=> ?_) (fun b hb ht=> ?_),h.eq,fun ho x hx=>(h.kp ho x hx).upd hu (fun b hb hf ht=> ?_),(hu.cell (Nat.lt_of_lt_of_le h1 h.mm.hw) (fun ht=> ?_)).trans h.fa,(hu.cell (Nat.lt_of_lt_of_le h2 h.mm.hw) (fun ht=> ?_)).trans h.fr⟩
 {have:=(hT b ht).1; have:=h.mm.lo; omega}
 {have:=(hT gm ht).1; omega}
 {cases hb}
 {have:=(hT b ht).2.2.2; have:=(Za0 h.mm.rP b hb).1; omega}
 {have:=hT b ht;rcases hf with hf | hf
  {omega}
  {have:=hf.1; omega}}
 {have:=(hT p1 ht).2.1; omega}
 {have:=(hT p2 ht).2.2.1; omega}
theorem KPs.put (h:KPs w0 n0 gm hi p1 p2 f1 f2 k o nm ok ps l AP cP W) (hn:n0<=gm) (h1:p1 < hi) (h2:p2 < hi) (g1:p1≠gm) (g2:p2≠gm) {t:Sh} {q:Ptr} {ok':Bool} (hok:ok'=true->ok=true) (hkp:ok'=true->Kept (Free n0 hi none AP) W (t,q))
 {AP':Option Addr} {cP':Nat} (hm:Mk w0 gm hi k o nm [] (l++ [(t,q)]) none 0 AP' cP' W') (hu:Upd (fun b=>b=gm\/rowB AP=some b) W W') (hr: ∀b,rowB AP'=some b->rowB AP=some b\/W.heap.size<=b):
 KP w0 n0 gm hi p1 p2 f1 f2 k o nm ok' (ps++ [t]) W':=by
 have hg:=h.mm.gh;have key: ∀x,Kept (Free n0 hi none AP) W x->Kept (Free n0 hi none AP') W' x:=fun x hx=>hx.move hu (fun b hb hf=>by
  refine ⟨fun ht=> ?_, ?_⟩
  {rcases hf with hf | ⟨hf,_,f2⟩
   {rcases ht with ht | ht
    {omega}
    {have:=(Za0 h.mm.rP b ht).1; omega}}
   {rcases ht with ht | ht
    {omega}
    {exact f2 ht}}}
  · rcases hf with hf | ⟨hf,_,f2⟩
    {exact Or.inl hf}
    · exact Or.inr ⟨hf,nofun,fun e=>(hr b e).elim f2 (fun h=>by omega)⟩)
 refine ⟨l++ [(t,q)],AP',cP',hm,by rw[List.map_append,h.eq]; rfl,fun ho x hx=> ?_, ?_, ?_⟩
 {rcases List.mem_append.1 hx with hx | hx
  {exact key x (h.kp (hok ho) x hx)}
  {rw[List.mem_singleton.1 hx]; exact key _ (hkp ho)}}
 {refine (hu.cell (Nat.lt_of_lt_of_le h1 h.mm.hw) (fun ht=> ?_)).trans h.fa;rcases ht with ht | ht
  {exact g1 ht}
  {have:=(Za0 h.mm.rP p1 ht).1; omega}}
 {refine (hu.cell (Nat.lt_of_lt_of_le h2 h.mm.hw) (fun ht=> ?_)).trans h.fr;rcases ht with ht | ht
  {exact g2 ht}
  {have:=(Za0 h.mm.rP p2 ht).1; omega}}
end
def PlOk (w0:World) (n0 gm hi p1 p2:Nat) (f1 f2:Value) (k:Int) (o nm:List UInt8) (ps:List Sh) (r:Option Sh) (W:World) (e:Ending) (W':World):Prop:=
 e= .returned (.bool r.isSome)/\(∀x,r=some x->KP w0 n0 gm hi p1 p2 f1 f2 k o nm true (ps++ [x]) W')/\(r=none-> ∃t,KP w0 n0 gm hi p1 p2 f1 f2 k o nm false (ps++ [t]) W')/\Upd (fun b=>b=gm\/hi<=b) W W'
theorem Zci {f:Nat} (hI:BoundOk f) (up:Bool) (w0:World) (n0 gm hi p1 p2:Nat) (k:Int) (o nm:List UInt8) (ps:List Sh) (p q:Sh) (x y:Ptr) (last:Bool) (W:World) (h2:Two f p q)
 (hn:n0<=gm) (l1:p1 < hi) (l2:p2 < hi) (g1:p1≠gm) (g2:p2≠gm) (hL:ps.length<=900) (hx:ShAt W n0 x p) (hy:ShAt W n0 y q) (hk:KP w0 n0 gm hi p1 p2 (.func (.func (bfn !up)) #[] #[]) (.func (.func (bfn up)) #[] #[]) k o nm true ps W):
 Calls Tryd.prog 70 (sv p x::sv q y:: .bool last:: .pointer (some ⟨p1,0,none⟩):: .pointer (some ⟨p2,0,none⟩):: .pointer (some ⟨gm,0,none⟩):: []).toArray W
  (PlOk w0 n0 gm hi p1 p2 (.func (.func (bfn !up)) #[] #[]) (.func (.func (bfn up)) #[] #[]) k o nm ps (bound f (if last=true then up else !up) p q) W):=by
 obtain ⟨i0,hif0,hz0,hs0,hb0⟩:=ZaP Zbl;obtain ⟨l,AP,cP,hks⟩:=hk;obtain ⟨v,hv⟩: ∃v,v=if last=true then up else !up:=⟨_,rfl⟩;rw[<-hv];have hb1:=Z01 W (.cells (Y8 p x) 25);obtain ⟨w1,hw1⟩: ∃w1,w1=W.alloc (.cells (Y8 p x) 25):=⟨_,rfl⟩;have hb2:=Z01 w1 (.cells (Y8 q y) 25);obtain ⟨w2,hw2⟩: ∃w2,w2=w1.alloc (.cells (Y8 q y) 25):=⟨_,rfl⟩;have hs1:w1.heap.size=W.heap.size+1:=by rw[hw1]; simp
 rw[<-hw1] at hb1;rw[<-hw2] at hb2;have hB1:Box5 w1 W.heap.size p x:=by rw[hw1]; exact Z03 W p x
 have hB2:Box5 w2 w1.heap.size q y:=by rw[hw2]; exact Z03 w1 q y
 have hBA:=hB1.next hb2;rw[hs1] at hB2;have hbw:=Z00 hb1 hb2;have hnW:n0<=W.heap.size:=by have:=hks.mm.gh; have:=hks.mm.hw; omega
 have hu:Upd (fun _=>False) W w2:=Upd.new hbw;have hk2:=hks.new l1 l2 hbw;have HC:=Y1 (hI v p q x y n0 w2 h2 (Za8 hx hnW hu (fun _ _ h=>h)) (Za8 hy hnW hu (fun _ _ h=>h)) (by have:=hu.size; omega));have HK2:=Y1 hk2;have HBW:=Y1 hbw;have HKS:=Y1 hks;have HL:=Y1 hL;have HNW:=Y1 hnW;have hen:=ZaL v;have fa:=hk2.fa;have fr:=hk2.fr;obtain ⟨_,⟨a0,a1,a2,a3,a4⟩,_⟩:=hBA;obtain ⟨_,⟨b0,b1,b2,b3,b4⟩,_⟩:=hB2;simp only[Nat.zero_add] at a0 a1 a2 a3 a4 b0 b1 b2 b3 b4;have hw1':=hw1.symm;have hw2':=hw2.symm;unfold sv at HC ⊢;clear hw1 hw2 hb1 hb2 hB1 hbw hu hk2 hks hx hy hI h2 hL hnW;cases last with
 | true=>
  simp only[if_true] at hv;subst hv;go_enter Tryd.func70,Tryd.ntmps70
  go_wp2_with fail
  refine HC.out.mono ?_;rintro e w3 ⟨t,qt,rfl,hb3,hj⟩;have hb4:=Z01 w3 (.cells (Y8 t qt) 25);have HBX:=Y1 (Z03 w3 t qt);have HK4:=Y1 (HK2.out.new l1 l2 (Z00 hb3 hb4));have HB4:=Y1 (Z00 HBW.out (Z00 hb3 hb4));have HB34:=Y1 hb4;have HZ3:Hid (w2.heap.size<=w3.heap.size):=Y1 hb3.size;have HJ:=Y1 hj;obtain ⟨w4,hw4⟩: ∃w4,w4=w3.alloc (.cells (Y8 t qt) 25):=⟨_,rfl⟩;rw[<-hw4] at HBX HK4 HB4 HB34;have hw4':=hw4.symm;clear hw4 hb3 hb4 hj HC a0 a1 a2 a3 a4 b0 b1 b2 b3 b4 fa fr hen;unfold sv
  go_wp2_with fail
  have hm4:=HK4.out.mm;have hlen:=HK4.out.len;have hX:QX.Good ⟨w4,gm,hi,w3.heap.size,AP,cP,l,(t,qt)⟩:=⟨hm4.gh,by have:=HKS.out.mm.hw; have:=HBW.out.size; have:=HZ3.out; show hi<=w3.heap.size; omega,HBX.out.1,hm4.c4,hm4.fz,hm4.rP,fun e=>by have:=(Za0 HKS.out.mm.rP w3.heap.size e).2; have:=HBW.out.size; have:=HZ3.out; omega,HBX.out.2.1,by have:=HL.out; show l.length<=1000; omega⟩;have HX:=Y1 hX;clear hm4 hlen hX;refine ZaO (rs:= [0,1,2,3,4,5,6,7,8,9])
   (fun u=> { tmps:=#[.agg (Y8 p x),.agg (Y8 q y),.bool true,.pointer (some { block:=p1,off:=0 }),.pointer (some { block:=p2,off:=0 }),.pointer (some { block:=gm,off:=0 }),.pointer (some { block:=W.heap.size,off:=0 }),.pointer (some { block:=W.heap.size+1,off:=0 }),undef,.bool false,.func (Fn.func (bfn v)) #[] #[],.pointer (some { block:=w3.heap.size,off:=0 }),.bool (bound f v p q).isSome,.func (Fn.func (bfn !v)) #[] #[],.bool true,.func (Fn.func (bfn v)) #[] #[],.tuple #[.agg (Y8 t qt),.bool (bound f v p q).isSome],.func (Fn.func (bfn v)) #[] #[],.agg (Y8 p x),.agg (Y8 q y),.tuple #[.agg (Y8 t qt),.bool (bound f v p q).isSome],.agg (Y8 t qt),.bool (bound f v p q).isSome,u 0,u 1,u 2,u 3,u 4,u 5,u 6,u 8,undef],defers:= [] })
   (fun j=>undef) (QX.QI ⟨w4,gm,hi,w3.heap.size,AP,cP,l,(t,qt)⟩) (by kernel_rfl) (by kernel_rfl) (by kernel_rfl) HX.out.start ?_ ?_
  refine StepsInv.cons2 _ rfl (fun d u W1 K' hs hI hd hw hK=> ?_) ?_
  {refine Z02 (v:= .pointer (some ⟨gm,4,none⟩)) (W':=W1) rfl ?_ (hK.out _ _ (hI.pure (by decide) (fun v' h=>by cases h; rfl)));go_simp}
  refine StepsInv.cons2 _ rfl (fun d u W1 K' hs hI hd hw hK=> ?_) ?_
  {have d0:u 0= .pointer (some ⟨gm,4,none⟩):=hI.vals 0 (hw 0 (by kernel_rfl)) _ rfl;have h9:d 9=false:=Za2 hs rfl (by kernel_rfl) hd;have c4:=hI.c4;rw[h9] at c4;simp only[Bool.false_eq_true,if_false] at c4;change W1.cell? ⟨gm,4,none⟩=_ at c4;refine Z02 (v:= .slice AP l.length cP) (W':=W1) rfl ?_ (hK.out _ _ (hI.pure (by decide) (fun v' h=>by cases h; rfl)));go_simp}
  refine StepsInv.cons2 _ rfl (fun d u W1 K' hs hI hd hw hK=> ?_) ?_
  {obtain ⟨b0,b1,b2,b3,b4⟩:=hI.box HX.out;simp only[Nat.zero_add] at b0 b1 b2 b3 b4;change W1.cell? ⟨w3.heap.size,0,none⟩=some (.int .i64 t.kind) at b0;change W1.cell? ⟨w3.heap.size,1,none⟩=some (.string ⟨t.of_.toArray⟩) at b1;change W1.cell? ⟨w3.heap.size,2,none⟩=some (.string ⟨t.name.toArray⟩) at b2;change W1.cell? ⟨w3.heap.size,3,none⟩=some (.slice qt.A t.names.length qt.c) at b3;change W1.cell? ⟨w3.heap.size,4,none⟩=some (.slice qt.P t.parts.length qt.d) at b4;refine Z02 (v:= .agg (Y8 t qt)) (W':=W1) rfl ?_ (hK.out _ _ (hI.pure (by decide) (fun v' h=>by cases h; rfl)));go_simp}
  refine StepsInv.cons2 _ rfl (fun d u W1 K' hs hI hd hw hK=> ?_) ?_
  {have d1:u 1= .slice AP l.length cP:=hI.vals 1 (hw 1 (by kernel_rfl)) _ rfl;refine Z02 (v:= .int .i64 (l.length:Int)) (W':=W1) rfl ?_ (hK.out _ _ (hI.pure (by decide) (fun v' h=>by cases h; rfl)));go_simp}
  refine StepsInv.cons2 _ rfl (fun d u W1 K' hs hI hd hw hK=> ?_) ?_
  {refine Z02 (v:= .slice (some ⟨W1.heap.size,0,none⟩) 1 1) (W':=W1.alloc (.cells Yb 25)) rfl ?_ (hK.out _ _ (hI.s4 HX.out));go_simp}
  refine StepsInv.cons2 _ rfl (fun d u W1 K' hs hI hd hw hK=> ?_) ?_
  {have d1:u 1= .slice AP l.length cP:=hI.vals 1 (hw 1 (by kernel_rfl)) _ rfl;obtain ⟨z,d4,z1,z2,z3⟩:=hI.f4 (hw 4 (by kernel_rfl)) hd;have h6:d 6=false:=Za2 hs rfl (by kernel_rfl) hd;have h7:d 7=false:=Za2 hs rfl (by kernel_rfl) hd;have h9:d 9=false:=Za2 hs rfl (by kernel_rfl) hd;have hll:=HX.out.ll;have hsz:=hI.up.size;have hpw:=HX.out.pw;have hhw:=HX.out.hw;refine step_append_lies W1 rfl _ _ 23 rfl hi 25 i0 (.agg #[.int .i64 0,.string ByteArray.empty,.string ByteArray.empty,.slice none 0 0,.slice none 0 0]) 5 88 Tryd.underlying23 hif0 hz0 hs0 hb0 rfl (by decide) _ _ _ (by show u 1=_; exact d1) (hI.p0 hd) ⟨z,0,none⟩ 1 1 Zag (by show u 4=_; exact d4) rfl (fun j v hv=>by rw[Z1z,Nat.zero_add]; exact z3 j v hv) Zbi (by decide) (by show l.length+1<=maxLen; unfold maxLen; change l.length<=1000 at hll; omega) (by show (l.length+1) * 88<=140737488355328; change l.length<=1000 at hll; omega) (by change hi<=w3.heap.size at hhw; change w3.heap.size < w4.heap.size at hpw; change w4.heap.size<=_ at hsz; omega) _ rfl ?_;intro g cp W' hown hg hat hlt;rw[Zau] at hg hat;exact hK.out _ _ (hI.s5 HX.out hd h6 h7 h9 hown hg hat)}
  refine StepsInv.cons2 _ rfl (fun d u W1 K' hs hI hd hw hK=> ?_) ?_
  {have w5:=hw 5 (by kernel_rfl);have d3:u 3= .int .i64 (l.length:Int):=hI.vals 3 (hw 3 (by kernel_rfl)) _ rfl;obtain ⟨g,c,d5,r,n,m⟩:=hI.p1 w5;change u 5= .slice (some ⟨g,0,none⟩) (l.length+1) c at d5;refine Z02 (v:= .pointer (some ⟨g,l.length * 5,none⟩)) (W':=W1) rfl ?_ (hK.out _ _ (hI.s6 HX.out w5 (fun g' c' e=>by
    change u 5= .slice (some ⟨g',0,none⟩) (l.length+1) c' at e;rw[d5] at e;simp only[Value.slice.injEq,Option.some.injEq,Addr.mk.injEq,and_true] at e;rw[e.1])))
   go_simp;intro h; omega}
  refine StepsInv.cons2 _ rfl (fun d u W1 K' hs hI hd hw hK=> ?_) ?_
  {have w5:d 5=true:=hs 6 _ rfl (hw 6 (by kernel_rfl)) 5 (by kernel_rfl);have d2:u 2= .agg (Y8 t qt):=hI.vals 2 (hw 2 (by kernel_rfl)) _ rfl;obtain ⟨g,c,d5,r,n,m⟩:=hI.p1 w5;have d6:=m (hw 6 (by kernel_rfl));change u 6= .pointer (some ⟨g,l.length * 5,none⟩) at d6;rw[hd] at r;simp only[Bool.false_eq_true,if_false] at r;have hst:=hI.s7 HX.out w5 hd d5;refine Z8i (W':=layO W1 g (l.length * 5) (t,qt)) rfl ?_ (hK.out undef _ hst);have hzz:=ZbH (ZaH l) r;obtain ⟨v0,x0,y0⟩:=hzz 0 (by decide);obtain ⟨v1,x1,y1⟩:=hzz 1 (by decide);obtain ⟨v2,x2,y2⟩:=hzz 2 (by decide);obtain ⟨v3,x3,y3⟩:=hzz 3 (by decide);obtain ⟨v4,x4,y4⟩:=hzz 4 (by decide);simp only[Nat.add_zero] at x0 y0;clear d5 r n m hst hzz;go_simp;rfl}
  refine StepsInv.cons2 _ rfl (fun d u W1 K' hs hI hd hw hK=> ?_) ?_
  {refine Z02 (v:= .pointer (some ⟨gm,4,none⟩)) (W':=W1) rfl ?_ (hK.out _ _ (hI.pure (by decide) (fun v' h=>by cases h; rfl)));go_simp}
  refine StepsInv.cons2 _ rfl (fun d u W1 K' hs hI hd hw hK=> ?_) StepsInv.nil
  {have w5:=hw 5 (by kernel_rfl);have d8:u 8= .pointer (some ⟨gm,4,none⟩):=hI.vals 8 (hw 8 (by kernel_rfl)) _ rfl;obtain ⟨g,c,d5,r,n,m⟩:=hI.p1 w5;change u 5= .slice (some ⟨g,0,none⟩) (l.length+1) c at d5;have hst:=hI.s9 HX.out w5 hd;have cc:=hI.c4;rw[hd] at cc;simp only[Bool.false_eq_true,if_false] at cc;change W1.cell? ⟨gm,4,none⟩=_ at cc;have hfz:=hI.fz 4;change W1.frozen? ⟨gm,4,none⟩=_ at hfz;rw[d5] at hst;change QX.QI _ _ _ (W1.setCell ⟨gm,4,none⟩ _) at hst;refine Z8i (W':=W1.setCell ⟨gm,4,none⟩ (.slice (some ⟨g,0,none⟩) (l.length+1) c)) rfl ?_ (hK.out undef _ hst);clear r n m;go_simp}
  {intro d u W1 hI hd;have h5:=hd 5 (by show 5 < 10; omega);have c4:=hI.c4;rw[hd 9 (by show 9 < 10; omega)] at c4;obtain ⟨g,c,e,r,n,m⟩:=hI.p1 h5;rw[hd 7 (by show 7 < 10; omega)] at r;have hu:=hI.up;have hcr:=hI.cr;have hfz:=hI.fz;simp only[if_true] at c4 r;rw[e] at c4;have HFIN:Hid (Mk w0 gm hi k o nm [] (l++ [(t,qt)]) none 0 (some ⟨g,0,none⟩) c W1/\Upd (fun b=>b=gm\/rowB AP=some b) w4 W1/\ ∀b,rowB (some ⟨g,0,none⟩)=some b->rowB AP=some b\/w4.heap.size<=b):=Y1 (by
    have hm:=HK4.out.mm;have hrl: ∀b,(b=gm\/rowB AP=some b)->w0.heap.size<=b:=fun b hb=>by
     rcases hb with rfl | hb
     {exact hm.lo}
     {have:=(Za0 hm.rP b hb).1; have:=hm.lo; have:=hm.gh; omega}
    refine ⟨⟨hm.up.trans (hu.below hm.up.size hrl),hm.lo,hm.gh,Nat.le_trans hm.hw hu.size,(hcr 0 (by omega)).trans hm.c0,(hcr 1 (by omega)).trans hm.c1,(hcr 2 (by omega)).trans hm.c2,(hcr 3 (by omega)).trans hm.c3, ?_,hfz,Za6 hm.rN hu (fun b hb=>by cases hb), ?_,Or.inl rfl⟩,hu,fun b hb=> ?_⟩
    {rw[List.length_append]; exact c4}
    {rw[List.length_append,Zaf,Zan]; exact r}
    · obtain rfl:g=b:=by simpa[rowB] using hb
      exact n)
   clear hI hd h5 c4 e r n m hu hcr hfz;go_wp2;go_ret;obtain ⟨hm,hu,hr⟩:=HFIN.out;have hput: ∀ok',(ok'=true-> ∃j,bound f v p q=some j)->KP w0 n0 gm hi p1 p2 (.func (.func (bfn !v)) #[] #[]) (.func (.func (bfn v)) #[] #[]) k o nm ok' (ps++ [t]) W1:=fun ok' h=>HK4.out.put hn l1 l2 g1 g2 (fun _=>rfl) (fun h2=>by
    obtain ⟨j,hb⟩:=h h2;obtain ⟨rfl,hkk⟩:=HJ.out j hb;refine hkk.move (T:=fun _=>False) (Upd.new HB34.out) (fun b hb hf=>⟨fun h=>h, ?_⟩);rcases hf with hf | hf
    {exact Or.inl hf}
    · have hw:=HKS.out.mm.hw
      have h3:=HBW.out.size;exact Or.inr ⟨by omega,nofun,fun e=>by have:=(Za0 HKS.out.mm.rP b e).2; omega⟩) hm hu hr
   refine ⟨rfl,fun y hy=> ?_,fun h=>⟨t,hput false nofun⟩,(Upd.new HB4.out).trans (hu.mono (fun b _ hb=> ?_))⟩
   {obtain ⟨rfl,_⟩:=HJ.out y hy;exact hput true (fun _=>⟨_,hy⟩)}
   {rcases hb with hb | hb
    {exact Or.inl hb}
    {exact Or.inr (Za0 HK4.out.mm.rP b hb).1}}}
 | false=>
  simp only[Bool.false_eq_true,if_false] at hv;go_enter Tryd.func70,Tryd.ntmps70;subst hv
  go_wp2_with fail
  refine HC.out.mono ?_;rintro e w3 ⟨t,qt,rfl,hb3,hj⟩;have hb4:=Z01 w3 (.cells (Y8 t qt) 25);have HBX:=Y1 (Z03 w3 t qt);have HK4:=Y1 (HK2.out.new l1 l2 (Z00 hb3 hb4));have HB4:=Y1 (Z00 HBW.out (Z00 hb3 hb4));have HB34:=Y1 hb4;have HZ3:Hid (w2.heap.size<=w3.heap.size):=Y1 hb3.size;have HJ:=Y1 hj;obtain ⟨w4,hw4⟩: ∃w4,w4=w3.alloc (.cells (Y8 t qt) 25):=⟨_,rfl⟩;rw[<-hw4] at HBX HK4 HB4 HB34;have hw4':=hw4.symm;clear hw4 hb3 hb4 hj HC a0 a1 a2 a3 a4 b0 b1 b2 b3 b4 fa fr hen;unfold sv
  go_wp2_with fail
  have hm4:=HK4.out.mm;have hlen:=HK4.out.len;have hX:QX.Good ⟨w4,gm,hi,w3.heap.size,AP,cP,l,(t,qt)⟩:=⟨hm4.gh,by have:=HKS.out.mm.hw; have:=HBW.out.size; have:=HZ3.out; show hi<=w3.heap.size; omega,HBX.out.1,hm4.c4,hm4.fz,hm4.rP,fun e=>by have:=(Za0 HKS.out.mm.rP w3.heap.size e).2; have:=HBW.out.size; have:=HZ3.out; omega,HBX.out.2.1,by have:=HL.out; show l.length<=1000; omega⟩;have HX:=Y1 hX;clear hm4 hlen hX;refine ZaO (rs:= [0,1,2,3,4,5,6,7,8,9])
   (fun u=> { tmps:=#[.agg (Y8 p x),.agg (Y8 q y),.bool false,.pointer (some { block:=p1,off:=0 }),.pointer (some { block:=p2,off:=0 }),.pointer (some { block:=gm,off:=0 }),.pointer (some { block:=W.heap.size,off:=0 }),.pointer (some { block:=W.heap.size+1,off:=0 }),undef,.bool false,.func (Fn.func (bfn !up)) #[] #[],.pointer (some { block:=w3.heap.size,off:=0 }),.bool (bound f (!up) p q).isSome,.func (Fn.func (bfn !up)) #[] #[],.bool false,undef,.tuple #[.agg (Y8 t qt),.bool (bound f (!up) p q).isSome],.func (Fn.func (bfn !up)) #[] #[],.agg (Y8 p x),.agg (Y8 q y),.tuple #[.agg (Y8 t qt),.bool (bound f (!up) p q).isSome],.agg (Y8 t qt),.bool (bound f (!up) p q).isSome,u 0,u 1,u 2,u 3,u 4,u 5,u 6,u 8,undef],defers:= [] })
   (fun j=>undef) (QX.QI ⟨w4,gm,hi,w3.heap.size,AP,cP,l,(t,qt)⟩) (by kernel_rfl) (by kernel_rfl) (by kernel_rfl) HX.out.start ?_ ?_
  refine StepsInv.cons2 _ rfl (fun d u W1 K' hs hI hd hw hK=> ?_) ?_
  {refine Z02 (v:= .pointer (some ⟨gm,4,none⟩)) (W':=W1) rfl ?_ (hK.out _ _ (hI.pure (by decide) (fun v' h=>by cases h; rfl)));go_simp}
  refine StepsInv.cons2 _ rfl (fun d u W1 K' hs hI hd hw hK=> ?_) ?_
  {have d0:u 0= .pointer (some ⟨gm,4,none⟩):=hI.vals 0 (hw 0 (by kernel_rfl)) _ rfl;have h9:d 9=false:=Za2 hs rfl (by kernel_rfl) hd;have c4:=hI.c4;rw[h9] at c4;simp only[Bool.false_eq_true,if_false] at c4;change W1.cell? ⟨gm,4,none⟩=_ at c4;refine Z02 (v:= .slice AP l.length cP) (W':=W1) rfl ?_ (hK.out _ _ (hI.pure (by decide) (fun v' h=>by cases h; rfl)));go_simp}
  refine StepsInv.cons2 _ rfl (fun d u W1 K' hs hI hd hw hK=> ?_) ?_
  {obtain ⟨b0,b1,b2,b3,b4⟩:=hI.box HX.out;simp only[Nat.zero_add] at b0 b1 b2 b3 b4;change W1.cell? ⟨w3.heap.size,0,none⟩=some (.int .i64 t.kind) at b0;change W1.cell? ⟨w3.heap.size,1,none⟩=some (.string ⟨t.of_.toArray⟩) at b1;change W1.cell? ⟨w3.heap.size,2,none⟩=some (.string ⟨t.name.toArray⟩) at b2;change W1.cell? ⟨w3.heap.size,3,none⟩=some (.slice qt.A t.names.length qt.c) at b3;change W1.cell? ⟨w3.heap.size,4,none⟩=some (.slice qt.P t.parts.length qt.d) at b4;refine Z02 (v:= .agg (Y8 t qt)) (W':=W1) rfl ?_ (hK.out _ _ (hI.pure (by decide) (fun v' h=>by cases h; rfl)));go_simp}
  refine StepsInv.cons2 _ rfl (fun d u W1 K' hs hI hd hw hK=> ?_) ?_
  {have d1:u 1= .slice AP l.length cP:=hI.vals 1 (hw 1 (by kernel_rfl)) _ rfl;refine Z02 (v:= .int .i64 (l.length:Int)) (W':=W1) rfl ?_ (hK.out _ _ (hI.pure (by decide) (fun v' h=>by cases h; rfl)));go_simp}
  refine StepsInv.cons2 _ rfl (fun d u W1 K' hs hI hd hw hK=> ?_) ?_
  {refine Z02 (v:= .slice (some ⟨W1.heap.size,0,none⟩) 1 1) (W':=W1.alloc (.cells Yb 25)) rfl ?_ (hK.out _ _ (hI.s4 HX.out));go_simp}
  refine StepsInv.cons2 _ rfl (fun d u W1 K' hs hI hd hw hK=> ?_) ?_
  {have d1:u 1= .slice AP l.length cP:=hI.vals 1 (hw 1 (by kernel_rfl)) _ rfl;obtain ⟨z,d4,z1,z2,z3⟩:=hI.f4 (hw 4 (by kernel_rfl)) hd;have h6:d 6=false:=Za2 hs rfl (by kernel_rfl) hd;have h7:d 7=false:=Za2 hs rfl (by kernel_rfl) hd;have h9:d 9=false:=Za2 hs rfl (by kernel_rfl) hd;have hll:=HX.out.ll;have hsz:=hI.up.size;have hpw:=HX.out.pw;have hhw:=HX.out.hw;refine step_append_lies W1 rfl _ _ 23 rfl hi 25 i0 (.agg #[.int .i64 0,.string ByteArray.empty,.string ByteArray.empty,.slice none 0 0,.slice none 0 0]) 5 88 Tryd.underlying23 hif0 hz0 hs0 hb0 rfl (by decide) _ _ _ (by show u 1=_; exact d1) (hI.p0 hd) ⟨z,0,none⟩ 1 1 Zag (by show u 4=_; exact d4) rfl (fun j v hv=>by rw[Z1z,Nat.zero_add]; exact z3 j v hv) Zbi (by decide) (by show l.length+1<=maxLen; unfold maxLen; change l.length<=1000 at hll; omega) (by show (l.length+1) * 88<=140737488355328; change l.length<=1000 at hll; omega) (by change hi<=w3.heap.size at hhw; change w3.heap.size < w4.heap.size at hpw; change w4.heap.size<=_ at hsz; omega) _ rfl ?_;intro g cp W' hown hg hat hlt;rw[Zau] at hg hat;exact hK.out _ _ (hI.s5 HX.out hd h6 h7 h9 hown hg hat)}
  refine StepsInv.cons2 _ rfl (fun d u W1 K' hs hI hd hw hK=> ?_) ?_
  {have w5:=hw 5 (by kernel_rfl);have d3:u 3= .int .i64 (l.length:Int):=hI.vals 3 (hw 3 (by kernel_rfl)) _ rfl;obtain ⟨g,c,d5,r,n,m⟩:=hI.p1 w5;change u 5= .slice (some ⟨g,0,none⟩) (l.length+1) c at d5;refine Z02 (v:= .pointer (some ⟨g,l.length * 5,none⟩)) (W':=W1) rfl ?_ (hK.out _ _ (hI.s6 HX.out w5 (fun g' c' e=>by
    change u 5= .slice (some ⟨g',0,none⟩) (l.length+1) c' at e;rw[d5] at e;simp only[Value.slice.injEq,Option.some.injEq,Addr.mk.injEq,and_true] at e;rw[e.1])))
   go_simp;intro h; omega}
  refine StepsInv.cons2 _ rfl (fun d u W1 K' hs hI hd hw hK=> ?_) ?_
  {have w5:d 5=true:=hs 6 _ rfl (hw 6 (by kernel_rfl)) 5 (by kernel_rfl);have d2:u 2= .agg (Y8 t qt):=hI.vals 2 (hw 2 (by kernel_rfl)) _ rfl;obtain ⟨g,c,d5,r,n,m⟩:=hI.p1 w5;have d6:=m (hw 6 (by kernel_rfl));change u 6= .pointer (some ⟨g,l.length * 5,none⟩) at d6;rw[hd] at r;simp only[Bool.false_eq_true,if_false] at r;have hst:=hI.s7 HX.out w5 hd d5;refine Z8i (W':=layO W1 g (l.length * 5) (t,qt)) rfl ?_ (hK.out undef _ hst);have hzz:=ZbH (ZaH l) r;obtain ⟨v0,x0,y0⟩:=hzz 0 (by decide);obtain ⟨v1,x1,y1⟩:=hzz 1 (by decide);obtain ⟨v2,x2,y2⟩:=hzz 2 (by decide);obtain ⟨v3,x3,y3⟩:=hzz 3 (by decide);obtain ⟨v4,x4,y4⟩:=hzz 4 (by decide);simp only[Nat.add_zero] at x0 y0;clear d5 r n m hst hzz;go_simp;rfl}
  refine StepsInv.cons2 _ rfl (fun d u W1 K' hs hI hd hw hK=> ?_) ?_
  {refine Z02 (v:= .pointer (some ⟨gm,4,none⟩)) (W':=W1) rfl ?_ (hK.out _ _ (hI.pure (by decide) (fun v' h=>by cases h; rfl)));go_simp}
  refine StepsInv.cons2 _ rfl (fun d u W1 K' hs hI hd hw hK=> ?_) StepsInv.nil
  {have w5:=hw 5 (by kernel_rfl);have d8:u 8= .pointer (some ⟨gm,4,none⟩):=hI.vals 8 (hw 8 (by kernel_rfl)) _ rfl;obtain ⟨g,c,d5,r,n,m⟩:=hI.p1 w5;change u 5= .slice (some ⟨g,0,none⟩) (l.length+1) c at d5;have hst:=hI.s9 HX.out w5 hd;have cc:=hI.c4;rw[hd] at cc;simp only[Bool.false_eq_true,if_false] at cc;change W1.cell? ⟨gm,4,none⟩=_ at cc;have hfz:=hI.fz 4;change W1.frozen? ⟨gm,4,none⟩=_ at hfz;rw[d5] at hst;change QX.QI _ _ _ (W1.setCell ⟨gm,4,none⟩ _) at hst;refine Z8i (W':=W1.setCell ⟨gm,4,none⟩ (.slice (some ⟨g,0,none⟩) (l.length+1) c)) rfl ?_ (hK.out undef _ hst);clear r n m;go_simp}
  {intro d u W1 hI hd;have h5:=hd 5 (by show 5 < 10; omega);have c4:=hI.c4;rw[hd 9 (by show 9 < 10; omega)] at c4;obtain ⟨g,c,e,r,n,m⟩:=hI.p1 h5;rw[hd 7 (by show 7 < 10; omega)] at r;have hu:=hI.up;have hcr:=hI.cr;have hfz:=hI.fz;simp only[if_true] at c4 r;rw[e] at c4;have HFIN:Hid (Mk w0 gm hi k o nm [] (l++ [(t,qt)]) none 0 (some ⟨g,0,none⟩) c W1/\Upd (fun b=>b=gm\/rowB AP=some b) w4 W1/\ ∀b,rowB (some ⟨g,0,none⟩)=some b->rowB AP=some b\/w4.heap.size<=b):=Y1 (by
    have hm:=HK4.out.mm;have hrl: ∀b,(b=gm\/rowB AP=some b)->w0.heap.size<=b:=fun b hb=>by
     rcases hb with rfl | hb
     {exact hm.lo}
     {have:=(Za0 hm.rP b hb).1; have:=hm.lo; have:=hm.gh; omega}
    refine ⟨⟨hm.up.trans (hu.below hm.up.size hrl),hm.lo,hm.gh,Nat.le_trans hm.hw hu.size,(hcr 0 (by omega)).trans hm.c0,(hcr 1 (by omega)).trans hm.c1,(hcr 2 (by omega)).trans hm.c2,(hcr 3 (by omega)).trans hm.c3, ?_,hfz,Za6 hm.rN hu (fun b hb=>by cases hb), ?_,Or.inl rfl⟩,hu,fun b hb=> ?_⟩
    {rw[List.length_append]; exact c4}
    {rw[List.length_append,Zaf,Zan]; exact r}
    · obtain rfl:g=b:=by simpa[rowB] using hb
      exact n)
   clear hI hd h5 c4 e r n m hu hcr hfz;go_wp2;go_ret;obtain ⟨hm,hu,hr⟩:=HFIN.out;have hput: ∀ok',(ok'=true-> ∃j,bound f (!up) p q=some j)->KP w0 n0 gm hi p1 p2 (.func (.func (bfn !up)) #[] #[]) (.func (.func (bfn up)) #[] #[]) k o nm ok' (ps++ [t]) W1:=fun ok' h=>HK4.out.put hn l1 l2 g1 g2 (fun _=>rfl) (fun h2=>by
    obtain ⟨j,hb⟩:=h h2;obtain ⟨rfl,hkk⟩:=HJ.out j hb;refine hkk.move (T:=fun _=>False) (Upd.new HB34.out) (fun b hb hf=>⟨fun h=>h, ?_⟩);rcases hf with hf | hf
    {exact Or.inl hf}
    · have hw:=HKS.out.mm.hw
      have h3:=HBW.out.size;exact Or.inr ⟨by omega,nofun,fun e=>by have:=(Za0 HKS.out.mm.rP b e).2; omega⟩) hm hu hr
   refine ⟨rfl,fun y hy=> ?_,fun h=>⟨t,hput false nofun⟩,(Upd.new HB4.out).trans (hu.mono (fun b _ hb=> ?_))⟩
   {obtain ⟨rfl,_⟩:=HJ.out y hy;exact hput true (fun _=>⟨_,hy⟩)}
   {rcases hb with hb | hb
    {exact Or.inl hb}
    {exact Or.inr (Za0 HK4.out.mm.rP b hb).1}}}
end SubM
end Go.Proofs.YthajhofgjhfjeaaDoor
namespace Go.Proofs.YthajhofgjhfjeaaDoor
open Go.RowKit Shp Sub
namespace SubM
abbrev noneQ12:Ptr:=⟨none,0,none,0⟩
structure St0 (w0:World) (gm pf:Nat) (fv:Value) (k:Int) (W:World):Prop where
 up:Below w0.heap.size w0 W
 lo:w0.heap.size<=gm
 gw:gm < W.heap.size
 c5:Sh5 W gm 0 ⟨k,[],[],[],[]⟩ noneQ12
 fz: ∀j,W.frozen? ⟨gm,j,none⟩=false
 pw:pf < W.heap.size
 fc:W.cell? ⟨pf,0,none⟩=some fv
section
variable {w0 W W' : World} {n0 gm hi pf : Nat} {fv : Value} {k : Int}
theorem St0.mid {T:Nat->Prop} (h:St0 w0 gm pf fv k W) (hu:Upd T W W') (hT: ∀b,T b->gm < b/\pf < b):St0 w0 gm pf fv k W':=by
 have h1: ¬T gm:=fun ht=>by have:=(hT gm ht).1; omega
 have h2: ¬T pf:=fun ht=>by have:=(hT pf ht).2; omega
 exact ⟨h.up.trans (hu.below h.up.size (fun b hb=>by have:=(hT b hb).1; have:=h.lo; omega)),h.lo,Nat.lt_of_lt_of_le h.gw hu.size,h.c5.of (fun k=>hu.cell h.gw h1),fun j=>(hu.frozen h.gw h1).trans (h.fz j),Nat.lt_of_lt_of_le h.pw hu.size,(hu.cell h.pw h2).trans h.fc⟩
theorem St0.kn (h:St0 w0 gm pf fv k W) (hg:gm < hi) (hw:hi<=W.heap.size) (ok:Bool):KN w0 n0 gm hi pf fv k ok [] W:=by
 obtain ⟨c0,c1,c2,c3,c4⟩:=h.c5;simp only[Nat.zero_add] at c0 c1 c2 c3 c4;exact ⟨[],none,0,none,0,⟨⟨h.up,h.lo,hg,hw,c0,c1,c2,c3,c4,h.fz,World.ownsRow_nil _ _ _ _,World.ownsRow_nil _ _ _ _,Or.inl rfl⟩,rfl,fun _ x hx=>absurd hx (by simp),h.fc⟩⟩
theorem St0.fin (h:St0 w0 gm pf fv k W) (S:Nat->Prop):Sh5 W gm 0 (made k []) noneQ12/\Kept S W (made k [],noneQ12):=
 ⟨h.c5,fun W' _ _=> .mk _ _ 0 0 (fun _=>noneQ12) ⟨by simp[made],by simp[made],by simp[made],by simp[made],by simp[made],by simp[made],by simp[made],fun _=>rfl,fun _=>rfl⟩ (Or.inl rfl) (Or.inl rfl) (fun i hi=>by simp[made] at hi) (fun i hi=>by simp[made] at hi)⟩
section
variable {ok : Bool} {L : List Fld} (h : KN w0 n0 gm hi pf fv k ok L W)
include ok L h
theorem KN.fin: ∃q,Sh5 W gm 0 (made k L) q/\(ok=true->(∀x∈L.map Prod.fst,x.length<=1000)->L.length<=1000->Kept (fun b=>b < n0\/hi<=b) W (made k L,q)):=by
 obtain ⟨l,AN,cN,AP,cP,h⟩:=h;have he: (⟨k,[],[],L.map Prod.fst,l.map Prod.fst⟩:Sh)=made k L:=by rw[h.eq]; rfl
 refine ⟨⟨AN,cN,AP,cP⟩, ?_,fun ho hx hl=> ?_⟩
 {have hlen:=h.len;refine ⟨h.mm.c0,h.mm.c1,h.mm.c2,h.mm.c3, ?_⟩;have:=h.mm.c4;simp only[made,List.length_map];rw[hlen] at this;exact this}
 {have hlen:=h.len;have:=h.mm.at_ (n0:=n0) (h.kp ho) (by simp) (by simp) (fun x hm=>by have:=hx x hm; omega) (by rw[List.length_map]; omega) (by omega);rw[he] at this;exact this}
theorem KN.below:Below w0.heap.size w0 W/\gm < W.heap.size/\hi<=W.heap.size:=by
 obtain ⟨l,AN,cN,AP,cP,h⟩:=h;exact ⟨h.mm.up,Nat.lt_of_lt_of_le h.mm.gh h.mm.hw,h.mm.hw⟩
end
end
theorem Zbq {a b:Sh} (A:Rec a) (B:Rec b): (calls a b).length<=a.names.length+b.names.length:=by
 unfold calls;rw[List.length_append,ZaG A];have: (callsB a b).length<=b.names.length:=by
  unfold callsB;rw[List.length_map];exact Nat.le_trans (List.length_filter_le _ _) (by rw[List.length_zip]; omega)
 omega
theorem Two.ln {f:Nat} {a b:Sh} (h:Two f a b) (A:Rec a):a.names.length<=400:=by rw[A.l]; have:=h.sa; have:=Z0P a.parts; rw[size_eq] at *; omega
theorem Zb4 {n:List UInt8} (h:Lex.isName n=true):n.length<=1000:=by have:=Z3I h; omega
structure Rc (rc:Nat) (W:World):Prop where
 lt:rc < W.heap.size
 ex: ∀j,j < 5-> ∃v,W.cell? ⟨rc,j,none⟩=some v
 fz: ∀j,W.frozen? ⟨rc,j,none⟩=false
theorem Rc.upd {T:Nat->Prop} {rc:Nat} {W W':World} (h:Rc rc W) (hu:Upd T W W') (hT: ¬T rc):Rc rc W':=
 ⟨Nat.lt_of_lt_of_le h.lt hu.size,fun j hj=>by
  obtain ⟨v,hv⟩:=h.ex j hj;exact ⟨v,(hu.cell h.lt hT).trans hv⟩,fun j=>(hu.frozen h.lt hT).trans (h.fz j)⟩
theorem Zax {W W':World} (h:W'=W.alloc (.cells Yb 25)):Rc W.heap.size W':=by
 subst h;refine ⟨by simp,fun j hj=> ?_,fun j=>by simp[go_sem]⟩;rcases j with _ | _ | _ | _ | _ | j
 {exact ⟨.int .i64 0,by simp[go_sem]⟩}
 {exact ⟨.string ⟨#[]⟩,by simp[go_sem]⟩}
 {exact ⟨.string ⟨#[]⟩,by simp[go_sem]⟩}
 {exact ⟨.slice none 0 0,by simp[go_sem]⟩}
 {exact ⟨.slice none 0 0,by simp[go_sem]⟩}
 {omega}
def EIs (f:Nat) (up:Bool) (a b:Sh) (n0:Nat) (w:World) (rc gm hi:Nat) (e:Ending) (W':World):Prop:=
 e= .returned (.bool (bound f up a b).isSome)/\Rc rc W'/\Below w.heap.size w W'/\ ∃t q,Sh5 W' gm 0 t q/\ ∀j,bound f up a b=some j->t=j/\Kept (fun b=>b < n0\/hi<=b) W' (j,q)
theorem Zbm {f:Nat} {up:Bool} {a b:Sh} {n0:Nat} {w:World} {rc gm hi:Nat} {W':World} {t:Sh} {q:Ptr} (hn:n0<=w.heap.size) (h1:w.heap.size<=rc) (h2:rc < hi) (hb:Below w.heap.size w W') (hj: ∀j,bound f up a b=some j->t=j/\Kept (fun b=>b < n0\/hi<=b) W' (j,q)):
 BIs f up a b n0 w (.returned (.tuple #[sv t q,.bool (bound f up a b).isSome])) (RX.lay W' rc t q):=by
 have hu:=RX.lay_upd W' rc t q;refine ⟨t,q,rfl,hb.trans (hu.below hb.size (fun x hx=>by omega)),fun j hb2=> ?_⟩;obtain ⟨e,hk⟩:=hj j hb2;exact ⟨e,hk.move hu (fun b _ hf=>⟨fun e=>by have e:b=rc:=e; rcases hf with hf | hf <;> omega,by rcases hf with hf | hf <;> omega⟩)⟩
theorem ZcI (s:Cl->Option Fld) (l:List Cl):l.all (fun c=>(s c).isSome)=(allOf s l).isSome:=by
 induction l with
 | nil=>rfl
 | cons c l ih=>
  rw[List.all_cons,ih];show ((s c).isSome&&(allOf s l).isSome)=((s c).bind (fun x=>(allOf s l).map (fun xs=>x::xs))).isSome;cases s c with
  | none=>rfl
  | some x=>cases allOf s l <;> rfl
theorem Zcj {s:Cl->Option Fld} {l:List Cl} {L:List Fld} {c:Cl} {x:Fld} (h:allOf s l=some L) (hx:s c=some x):allOf s (l++ [c])=some (L++ [x]):=by
 induction l generalizing L with
 | nil=>unfold allOf at h; cases h; simp[allOf,hx]
 | cons c' l ih=>
  unfold allOf at h;obtain ⟨y,hy,h⟩:=Option.bind_eq_some_iff.1 h;obtain ⟨xs,hxs,rfl⟩:=Option.map_eq_some_iff.1 h;rw[List.cons_append];unfold allOf;rw[hy,ih hxs];rfl
section
variable {f : Nat} {up : Bool} {a b : Sh} {pa pb : Ptr} {n0 : Nat} {w W5 : World} {rc gm pf : Nat}
theorem Zcy (hI:BoundOk f) (h2:Two (f+1) a b) (A:Rec a) (B:Rec b) (hk:a.kind=b.kind) (hw:Narrow up a.kind) (ha:ShAt W5 n0 pa a) (hb:ShAt W5 n0 pb b) (hn:n0<=w.heap.size)
 (hS:St0 w gm pf (.func (.func (bfn up)) #[] #[]) a.kind W5) (hR:Rc rc W5) (hpf:w.heap.size<=pf) (hpg:pf≠gm) (hrg:rc≠gm):
 Calls Tryd.prog 33 #[sv a pa,sv b pb,.func (.func 67) #[] [.pointer (some ⟨pf,0,none⟩),.pointer (some ⟨gm,0,none⟩)].toArray] W5 (EIs (f+1) up a b n0 w rc gm (W5.heap.size+3)):=by
 have hlo:=hS.lo;have hgw:=hS.gw;have hpw:=hS.pw;have hrw:=hR.lt;have hz:=hS.up.size;have hcl:=Zbq A B;have ln:=h2.ln A;have lm:=h2.swap.ln B;have hT:Takes n0 W5.heap.size a b 67 [.pointer (some ⟨pf,0,none⟩),.pointer (some ⟨gm,0,none⟩)] (fun _=>true)
  (fun _ done W=>Rc rc W/\(done= []/\St0 w gm pf (.func (.func (bfn up)) #[] #[]) a.kind W\/KN w n0 gm (W5.heap.size+3) pf (.func (.func (bfn up)) #[] #[]) a.kind true (done.filterMap (narrowStep (bound f up))) W)):=by
  refine ⟨fun _ done W W' hK hu=>⟨hK.1.upd hu (by omega), ?_⟩,fun done c rest W x y hcut hsz hK hx hy=> ?_⟩
  {rcases hK.2 with ⟨e,h⟩ | h
   {exact Or.inl ⟨e,h.mid hu (fun b hb=>by omega)⟩}
   {exact Or.inr (h.mid hu (fun b hb=>by omega) (by omega) (by omega))}}
  {obtain ⟨nm,o1,o2⟩:=c;have hm: (nm,o1,o2)∈calls a b:=by rw[hcut]; simp
   obtain ⟨e1,e2,_⟩:=(Za5 A B).1 hm;have hkn:KN w n0 gm (W5.heap.size+3) pf (.func (.func (bfn up)) #[] #[]) a.kind true (done.filterMap (narrowStep (bound f up))) W:=by
    rcases hK.2 with ⟨e,h⟩ | h
    {rw[e]; exact h.kn (by omega) hsz true}
    {exact h}
   have hlen: (done.filterMap (narrowStep (bound f up))).length<=900:=by
    have h1:=List.length_filterMap_le (narrowStep (bound f up)) done;have h2:=congrArg List.length hcut;rw[List.length_append] at h2;omega
   refine (Zcx hI up w n0 gm (W5.heap.size+3) pf a.kind _ nm o1 o2 x y W (fun p q hp hq=> ?_) (by omega) (by omega) hpg hlen hx hy hkn).mono ?_
   {rw[e1] at hp; rw[e2] at hq;exact h2.part (Z9Z hp) (Z9Z hq)}
   {rintro e W' ⟨rfl,hk',hu⟩;refine ⟨rfl,⟨hK.1.upd hu (by omega),Or.inr ?_⟩,hu.mono (fun b _ hb=>by omega)⟩;rw[List.filterMap_append];cases h:narrowStep (bound f up) (nm,o1,o2) with
    | none=>rw[h] at hk'; simpa[h] using hk'
    | some z=>rw[h] at hk'; simpa[h] using hk'}}
 refine (Zap a b pa pb n0 W5 A B ha hb (by omega) (by omega) (by omega) 67 (enters_of Tryd.func67 (by kernel_rfl) rfl) _ _ _ hT ⟨hR,Or.inl ⟨rfl,hS⟩⟩).mono ?_;rintro e W6 ⟨rfl,⟨D,hK,hD⟩,hU⟩;have hall: ((calls a b).all fun _=>true)=true:=by simp
 obtain rfl:=hD hall;have hbd:bound (f+1) up a b=some (made a.kind ((calls a b).filterMap (narrowStep (bound f up)))):=by conv=>lhs; unfold bound; rw[if_neg (fun h=>h hk),if_pos hw]
 have hz6:=hU.size;refine ⟨by rw[hall,hbd]; rfl,hK.1, ?_, ?_⟩
 {rcases hK.2 with ⟨_,h⟩ | h
  {exact h.up}
  {exact h.below.1}}
 {rcases hK.2 with ⟨e,h⟩ | h
  {have hf:=h.fin (fun b=>b < n0\/W5.heap.size+3<=b);refine ⟨_,_,hf.1,fun j hj=> ?_⟩;rw[hbd,e] at hj;cases hj;exact ⟨rfl,hf.2⟩}
  {obtain ⟨q,h5,hkp⟩:=h.fin;refine ⟨_,q,h5,fun j hj=> ?_⟩;rw[hbd] at hj;cases hj;refine ⟨rfl,hkp rfl (fun x hx=> ?_) ?_⟩
   {exact Zb4 (ZaE A B ((ZaC (fun c x h=>ZaF h) _).subset hx))}
   {have:=List.length_filterMap_le (narrowStep (bound f up)) (calls a b); omega}}}
end
end SubM
end Go.Proofs.YthajhofgjhfjeaaDoor
namespace Go.Proofs.YthajhofgjhfjeaaDoor
open Go.RowKit Shp Sub
namespace SubM
section
variable {f : Nat} {up : Bool} {a b : Sh} {pa pb : Ptr} {n0 : Nat} {w W5 : World} {rc gm pf p1 p2 : Nat}
theorem ZbY (hI:BoundOk f) (h2:Two (f+1) a b) (A:Rec a) (B:Rec b) (hk:a.kind=b.kind) (hw:Wide up a.kind) (ha:ShAt W5 n0 pa a) (hb:ShAt W5 n0 pb b) (hn:n0<=w.heap.size)
 (hS:St0 w gm pf (.func (.func (bfn up)) #[] #[]) a.kind W5) (hR:Rc rc W5) (hpf:w.heap.size<=pf) (hpg:pf≠gm) (hrg:rc≠gm):
 Calls Tryd.prog 33 #[sv a pa,sv b pb,.func (.func 69) #[] [.pointer (some ⟨pf,0,none⟩),.pointer (some ⟨gm,0,none⟩)].toArray] W5 (EIs (f+1) up a b n0 w rc gm (W5.heap.size+3)):=by
 have hlo:=hS.lo;have hgw:=hS.gw;have hpw:=hS.pw;have hrw:=hR.lt;have hz:=hS.up.size;have hcl:=Zbq A B;have ln:=h2.ln A;have lm:=h2.swap.ln B;have hT:Takes n0 W5.heap.size a b 69 [.pointer (some ⟨pf,0,none⟩),.pointer (some ⟨gm,0,none⟩)] (fun c=>(wideStep (bound f up) c).isSome)
  (fun ok done W=>Rc rc W/\(done= []/\ok=true/\St0 w gm pf (.func (.func (bfn up)) #[] #[]) a.kind W\/
   (ok=true/\ ∃L,allOf (wideStep (bound f up)) done=some L/\KN w n0 gm (W5.heap.size+3) pf (.func (.func (bfn up)) #[] #[]) a.kind true L W)\/
   (ok=false/\ ∃L,KN w n0 gm (W5.heap.size+3) pf (.func (.func (bfn up)) #[] #[]) a.kind false L W))):=by
  refine ⟨fun _ done W W' hK hu=>⟨hK.1.upd hu (by omega), ?_⟩,fun done c rest W x y hcut hsz hK hx hy=> ?_⟩
  {rcases hK.2 with ⟨e,e2,h⟩ | ⟨e,L,h1,h⟩ | ⟨e,L,h⟩
   {exact Or.inl ⟨e,e2,h.mid hu (fun b hb=>by omega)⟩}
   {exact Or.inr (Or.inl ⟨e,L,h1,h.mid hu (fun b hb=>by omega) (by omega) (by omega)⟩)}
   {exact Or.inr (Or.inr ⟨e,L,h.mid hu (fun b hb=>by omega) (by omega) (by omega)⟩)}}
  {obtain ⟨nm,o1,o2⟩:=c;have hm: (nm,o1,o2)∈calls a b:=by rw[hcut]; simp
   obtain ⟨e1,e2,e3⟩:=(Za5 A B).1 hm;obtain ⟨L,hL,hkn⟩: ∃L,allOf (wideStep (bound f up)) done=some L/\KN w n0 gm (W5.heap.size+3) pf (.func (.func (bfn up)) #[] #[]) a.kind true L W:=by
    rcases hK.2 with ⟨e,_,h⟩ | ⟨_,h⟩ | ⟨e,_⟩
    {exact ⟨[],by rw[e]; rfl,h.kn (by omega) hsz true⟩}
    {exact h}
    {cases e}
   have hlen:L.length<=900:=by
    have h1:=congrArg List.length (ZaK (fun c x h=>Zas h) hL);rw[List.length_map,List.length_map] at h1;have h2:=congrArg List.length hcut;rw[List.length_append] at h2;omega
   have hne:o1≠none\/o2≠none:=by
    rcases e3 with h | h
    {exact Or.inl (fun e=>A.get_none.1 (e1.symm.trans e) h)}
    {exact Or.inr (fun e=>B.get_none.1 (e2.symm.trans e) h)}
   refine (ZbX hI up w n0 gm (W5.heap.size+3) pf a.kind L nm o1 o2 x y W (fun p q hp hq=> ?_) hne (by omega) (by omega) hpg hlen hx hy hkn).mono ?_
   {rw[e1] at hp; rw[e2] at hq;exact h2.part (Z9Z hp) (Z9Z hq)}
   {rintro e W' ⟨rfl,hsome,hnone,hu⟩;refine ⟨rfl,⟨hK.1.upd hu (by omega), ?_⟩,hu.mono (fun b _ hb=>by omega)⟩;cases h:wideStep (bound f up) (nm,o1,o2) with
    | none=>
     obtain ⟨t,ht⟩:=hnone h;exact Or.inr (Or.inr ⟨rfl,_,ht⟩)
    | some z=>exact Or.inr (Or.inl ⟨rfl,_,Zcj hL h,hsome z h⟩)}}
 refine (Zap a b pa pb n0 W5 A B ha hb (by omega) (by omega) (by omega) 69 (enters_of Tryd.func69 (by kernel_rfl) rfl) _ _ _ hT ⟨hR,Or.inl ⟨rfl,rfl,hS⟩⟩).mono ?_;rintro e W6 ⟨rfl,⟨D,hK,hD⟩,hU⟩;have hall:=ZcI (wideStep (bound f up)) (calls a b);have hbd:bound (f+1) up a b=(allOf (wideStep (bound f up)) (calls a b)).map (made a.kind):=by conv=>lhs; unfold bound; rw[if_neg (fun h=>h hk),if_neg (fun h=>Zar h hw),if_pos hw]
 refine ⟨by rw[hall,hbd,Option.isSome_map],hK.1, ?_, ?_⟩
 {rcases hK.2 with ⟨_,_,h⟩ | ⟨_,L,_,h⟩ | ⟨_,L,h⟩
  {exact h.up}
  {exact h.below.1}
  {exact h.below.1}}
 {rcases hK.2 with ⟨e,e2,h⟩ | ⟨e2,L,hL,h⟩ | ⟨e2,L,h⟩
  {have hf:=h.fin (fun b=>b < n0\/W5.heap.size+3<=b);refine ⟨_,_,hf.1,fun j hj=> ?_⟩;rw[hbd, <-hD e2,e] at hj;cases hj;exact ⟨rfl,hf.2⟩}
  {obtain ⟨q,h5,hkp⟩:=h.fin;refine ⟨_,q,h5,fun j hj=> ?_⟩;rw[hD e2] at hL;rw[hbd,hL] at hj;cases hj;have hfst:=ZaK (fun c x h=>Zas h) hL;refine ⟨rfl,hkp rfl (fun x hx=> ?_) ?_⟩
   {rw[hfst] at hx; exact Zb4 (ZaE A B hx)}
   {have h1:=congrArg List.length hfst; rw[List.length_map,List.length_map] at h1; omega}}
  {obtain ⟨q,h5,_⟩:=h.fin;refine ⟨_,q,h5,fun j hj=> ?_⟩;rw[hall] at e2;rw[hbd] at hj;obtain ⟨L2,h2,_⟩:=Option.map_eq_some_iff.1 hj;rw[h2] at e2;cases e2}}
structure St0p (w0:World) (gm p1 p2:Nat) (f1 f2:Value) (k:Int) (o nm:List UInt8) (W:World):Prop where
 up:Below w0.heap.size w0 W
 lo:w0.heap.size<=gm
 gw:gm < W.heap.size
 c5:Sh5 W gm 0 ⟨k,o,nm,[],[]⟩ noneQ12
 fz: ∀j,W.frozen? ⟨gm,j,none⟩=false
 pw:p1 < W.heap.size
 qw:p2 < W.heap.size
 fa:W.cell? ⟨p1,0,none⟩=some f1
 fr:W.cell? ⟨p2,0,none⟩=some f2
theorem St0p.mid {T:Nat->Prop} {w0 W W':World} {f1 f2:Value} {k:Int} {o nm:List UInt8} (h:St0p w0 gm p1 p2 f1 f2 k o nm W) (hu:Upd T W W') (hT: ∀b,T b->gm < b/\p1 < b/\p2 < b):St0p w0 gm p1 p2 f1 f2 k o nm W':=by
 have h1: ¬T gm:=fun ht=>by have:=(hT gm ht).1; omega
 have h2: ¬T p1:=fun ht=>by have:=(hT p1 ht).2.1; omega
 have h3: ¬T p2:=fun ht=>by have:=(hT p2 ht).2.2; omega
 exact ⟨h.up.trans (hu.below h.up.size (fun b hb=>by have:=(hT b hb).1; have:=h.lo; omega)),h.lo,Nat.lt_of_lt_of_le h.gw hu.size,h.c5.of (fun k=>hu.cell h.gw h1),fun j=>(hu.frozen h.gw h1).trans (h.fz j),Nat.lt_of_lt_of_le h.pw hu.size,Nat.lt_of_lt_of_le h.qw hu.size,(hu.cell h.pw h2).trans h.fa,(hu.cell h.qw h3).trans h.fr⟩
section
variable {w0 W : World} {hi : Nat} {f1 f2 : Value} {k : Int} {o nm : List UInt8}
include w0 W hi f1 f2 k o nm
theorem St0p.kp (h:St0p w0 gm p1 p2 f1 f2 k o nm W) (hg:gm < hi) (hw:hi<=W.heap.size) (ok:Bool):KP w0 n0 gm hi p1 p2 f1 f2 k o nm ok [] W:=by
 obtain ⟨c0,c1,c2,c3,c4⟩:=h.c5;simp only[Nat.zero_add] at c0 c1 c2 c3 c4;exact ⟨[],none,0,⟨h.up,h.lo,hg,hw,c0,c1,c2,c3,c4,h.fz,World.ownsRow_nil _ _ _ _,World.ownsRow_nil _ _ _ _,Or.inl rfl⟩,rfl,fun _ x hx=>absurd hx (by simp),h.fa,h.fr⟩
theorem KP.fin {ok:Bool} {ps:List Sh} (h:KP w0 n0 gm hi p1 p2 f1 f2 k o nm ok ps W): ∃q,Sh5 W gm 0 ⟨k,o,nm,[],ps⟩ q/\
 (ok=true->o.length<=9223372036854775807->nm.length<=9223372036854775807->ps.length<=1000->Kept (fun b=>b < n0\/hi<=b) W (⟨k,o,nm,[],ps⟩,q)):=by
 obtain ⟨l,AP,cP,h⟩:=h;have hlen:=h.len;refine ⟨⟨none,0,AP,cP⟩,⟨h.mm.c0,h.mm.c1,h.mm.c2,h.mm.c3, ?_⟩,fun ho h1 h2 hl=> ?_⟩
 {have:=h.mm.c4;rw[hlen] at this;exact this}
 {have:=h.mm.at_ (n0:=n0) (h.kp ho) h1 h2 (by simp) (by simp) (by omega);rw[h.eq] at this;exact this}
theorem KP.below {ok:Bool} {ps:List Sh} (h:KP w0 n0 gm hi p1 p2 f1 f2 k o nm ok ps W):Below w0.heap.size w0 W:=by
 obtain ⟨l,AP,cP,h⟩:=h;exact h.mm.up
end
def plStep (f:Nat) (up:Bool) (a b:Sh) (k:Nat):Option Sh:=
 match a.parts[k]?,b.parts[k]? with
 | some p,some q=>if k+1=a.parts.length then bound f up p q else bound f (!up) p q
 | some _,none=>none
 | none,_=>none
theorem Zcz {f:Nat} {up:Bool} {a b:Sh} {k:Nat} (h1:k < a.parts.length) (h2:k < b.parts.length):plStep f up a b k=bound f (if decide (k+1=a.parts.length)=true then up else !up) (a.parts[k]'h1) (b.parts[k]'h2):=by
 unfold plStep;rw[List.getElem?_eq_getElem h1,List.getElem?_eq_getElem h2];simp only[decide_eq_true_eq];split <;> rfl
theorem Zb6 {f:Nat} {up:Bool} {a b:Sh} (hl:a.parts.length=b.parts.length) {ps:List Sh} (hp:ps.length=a.parts.length) (h: ∀k,k < a.parts.length->plStep f up a b k=ps[k]?):placesOf (bound f (!up)) (bound f up) a.parts b.parts=some ps:=by
 have key: ∀(i:Nat) (p q:Sh),a.parts[i]? =some p->b.parts[i]? =some q->(if i+1=a.parts.length then bound f up p q else bound f (!up) p q)=ps[i]? :=fun i p q hp hq=>by
  have:=h i (List.getElem?_eq_some_iff.1 hp).1;unfold plStep at this;rw[hp,hq] at this;exact this
 obtain ⟨xs,hxs⟩:=ZaD (ga:=bound f (!up)) (gr:=bound f up) hl (fun i p q hp2 hq=>by
  have hi:=(List.getElem?_eq_some_iff.1 hp2).1;exact ⟨_,(key i p q hp2 hq).trans (List.getElem?_eq_getElem (show i < ps.length by omega))⟩)
 obtain ⟨l1,l2⟩:=Zaw hxs;rw[hxs];congr 1;refine List.ext_getElem? (fun i=> ?_);by_cases hi:i < a.parts.length
 {have hib:i < b.parts.length:=by omega
  obtain ⟨x,hx,e⟩:=ZaB hxs i _ _ (List.getElem?_eq_getElem hi) (List.getElem?_eq_getElem hib);rw[hx, <-key i _ _ (List.getElem?_eq_getElem hi) (List.getElem?_eq_getElem hib),e]}
 {rw[List.getElem?_eq_none (by omega),List.getElem?_eq_none (by omega)]}
theorem ZbZ {f:Nat} {up:Bool} {a b:Sh} {xs:List Sh} (h:placesOf (bound f (!up)) (bound f up) a.parts b.parts=some xs):a.parts.length=b.parts.length/\(List.range a.parts.length).all (fun k=>(plStep f up a b k).isSome)=true:=by
 obtain ⟨l1,l2⟩:=Zaw h;refine ⟨l2,List.all_eq_true.2 (fun k hk=> ?_)⟩;have hk:=List.mem_range.1 hk;have hk2:k < b.parts.length:=by omega
 obtain ⟨x,_,e⟩:=ZaB h k _ _ (List.getElem?_eq_getElem hk) (List.getElem?_eq_getElem hk2);unfold plStep;rw[List.getElem?_eq_getElem hk,List.getElem?_eq_getElem hk2];simp only;rw[e]; rfl
theorem Zc0 (hI:BoundOk f) (h2:Two (f+1) a b) (hk:a.kind=b.kind) (hno: ¬(a.kind=6\/a.kind=7)) (ha:ShAt W5 n0 pa a) (hb:ShAt W5 n0 pb b) (hn:n0<=w.heap.size)
 (hS:St0p w gm p1 p2 (.func (.func (bfn !up)) #[] #[]) (.func (.func (bfn up)) #[] #[]) a.kind a.of_ a.name W5) (hR:Rc rc W5) (h1:w.heap.size<=p1) (h1':w.heap.size<=p2) (hpg:p1≠gm) (hpg':p2≠gm) (hrg:rc≠gm):
 Calls Tryd.prog 36 #[sv a pa,sv b pb,.func (.func 70) #[] [.pointer (some ⟨p1,0,none⟩),.pointer (some ⟨p2,0,none⟩),.pointer (some ⟨gm,0,none⟩)].toArray] W5 (EIs (f+1) up a b n0 w rc gm (W5.heap.size+2)):=by
 have hlo:=hS.lo;have hgw:=hS.gw;have hpw:=hS.pw;have hqw:=hS.qw;have hrw:=hR.lt;have hz:=hS.up.size;have hla:a.parts.length<=400:=by have:=h2.sa; have:=Z0P a.parts; rw[size_eq] at *; omega
 have hT:TakesP n0 W5.heap.size a b 70 [.pointer (some ⟨p1,0,none⟩),.pointer (some ⟨p2,0,none⟩),.pointer (some ⟨gm,0,none⟩)] (fun k=>(plStep f up a b k).isSome)
  (fun ok k W=>Rc rc W/\(k=0/\ok=true/\St0p w gm p1 p2 (.func (.func (bfn !up)) #[] #[]) (.func (.func (bfn up)) #[] #[]) a.kind a.of_ a.name W\/
   (ok=true/\ ∃ps,ps.length=k/\(∀i,i < k->plStep f up a b i=ps[i]?)/\KP w n0 gm (W5.heap.size+2) p1 p2 (.func (.func (bfn !up)) #[] #[]) (.func (.func (bfn up)) #[] #[]) a.kind a.of_ a.name true ps W)\/
   (ok=false/\ ∃ps,KP w n0 gm (W5.heap.size+2) p1 p2 (.func (.func (bfn !up)) #[] #[]) (.func (.func (bfn up)) #[] #[]) a.kind a.of_ a.name false ps W))):=by
  have hmid: ∀ {ok ps W W'},KP w n0 gm (W5.heap.size+2) p1 p2 (.func (.func (bfn !up)) #[] #[]) (.func (.func (bfn up)) #[] #[]) a.kind a.of_ a.name ok ps W->Upd (fun x=>W5.heap.size<=x/\x < W5.heap.size+2) W W'->KP w n0 gm (W5.heap.size+2) p1 p2 (.func (.func (bfn !up)) #[] #[]) (.func (.func (bfn up)) #[] #[]) a.kind a.of_ a.name ok ps W':=fun h hu=>by
   obtain ⟨l,AP,cP,h⟩:=h;exact ⟨l,AP,cP,h.mid hu (fun b hb=>by omega) (by omega) (by omega) (by omega)⟩
  refine ⟨fun _ k W W' hK hu=>⟨hK.1.upd hu (by omega), ?_⟩,fun k hk hk2 W x y hsz hK hx hy=> ?_⟩
  {rcases hK.2 with ⟨e,e2,h⟩ | ⟨e,ps,h1,h3,h⟩ | ⟨e,ps,h⟩
   {exact Or.inl ⟨e,e2,h.mid hu (fun b hb=>by omega)⟩}
   {exact Or.inr (Or.inl ⟨e,ps,h1,h3,hmid h hu⟩)}
   {exact Or.inr (Or.inr ⟨e,ps,hmid h hu⟩)}}
  {obtain ⟨ps,hl,hps,hkp⟩: ∃ps,ps.length=k/\(∀i,i < k->plStep f up a b i=ps[i]?)/\KP w n0 gm (W5.heap.size+2) p1 p2 (.func (.func (bfn !up)) #[] #[]) (.func (.func (bfn up)) #[] #[]) a.kind a.of_ a.name true ps W:=by
    rcases hK.2 with ⟨e,_,h⟩ | ⟨_,h⟩ | ⟨e,_⟩
    {exact ⟨[],by rw[e]; rfl,fun i hi=>by omega,h.kp (by omega) hsz true⟩}
    {exact h}
    {cases e}
   refine (Zci hI up w n0 gm (W5.heap.size+2) p1 p2 a.kind a.of_ a.name ps _ _ x y _ W (h2.part (List.getElem_mem hk) (List.getElem_mem hk2)) (by omega) (by omega) (by omega) hpg hpg' (by omega) hx hy hkp).mono ?_;rintro e W' ⟨rfl,hsome,hnone,hu⟩;have hst:=Zcz (f:=f) (up:=up) hk hk2;refine ⟨by rw[hst],⟨hK.1.upd hu (by omega), ?_⟩,hu.mono (fun b _ hb=>by omega)⟩;cases h:plStep f up a b k with
   | none=>
    obtain ⟨t,ht⟩:=hnone (hst.symm.trans h);exact Or.inr (Or.inr ⟨rfl,_,ht⟩)
   | some z=>
    refine Or.inr (Or.inl ⟨rfl,ps++ [z],by simp[hl],fun i hi=> ?_,hsome z (hst.symm.trans h)⟩);by_cases e:i=k
    {subst e;rw[h,List.getElem?_append_right (by omega),hl,Nat.sub_self]; rfl}
    {rw[hps i (by omega),List.getElem?_append_left (by omega)]}}
 refine (ZaQ a b pa pb n0 W5 ha hb (by omega) (by omega) 70 (enters_of Tryd.func70 (by kernel_rfl) rfl) _ _ _ hT ⟨hR,Or.inl ⟨rfl,rfl,hS⟩⟩).mono ?_;rintro e W6 ⟨rfl,⟨D,hK,hD⟩,hU⟩;have hnn: ¬Narrow up a.kind:=fun h=>hno (Zaa h);have hnw: ¬Wide up a.kind:=fun h=>hno (Zae h);have hbd:bound (f+1) up a b=if a.of_=b.of_/\a.name=b.name then (placesOf (bound f (!up)) (bound f up) a.parts b.parts).map (fun ps=>⟨a.kind,a.of_,a.name,[],ps⟩) else none:=by
  conv=>lhs; unfold bound; rw[if_neg (fun h=>h hk),if_neg hnn,if_neg hnw]
 have hbs:bound (f+1) up a b≠none->headEq a b=true/\(List.range a.parts.length).all (fun k=>(plStep f up a b k).isSome)=true:=fun h=>by
  rw[hbd] at h;split at h
  {rename_i e
   cases hp:placesOf (bound f (!up)) (bound f up) a.parts b.parts with
   | none=>rw[hp] at h; exact absurd rfl h
   | some xs=>
    obtain ⟨h1,h2⟩:=ZbZ hp;exact ⟨by unfold headEq; exact decide_eq_true ⟨e.1,e.2,h1⟩,h2⟩}
  {exact absurd rfl h}
 have ho:=ha.small.o;have hnm:=ha.small.n;refine ⟨?_,hK.1, ?_, ?_⟩
 {cases hh: (headEq a b&&(List.range a.parts.length).all (fun k=>(plStep f up a b k).isSome)) with
  | false=>
   cases hb:bound (f+1) up a b with
   | none=>rfl
   | some j=>
    obtain ⟨h1,h2⟩:=hbs (by rw[hb]; nofun);rw[h1,h2] at hh;cases hh
  | true=>
   have hDD:=hD hh;rw[Bool.and_eq_true] at hh;obtain ⟨e1,e2,e3⟩:a.of_=b.of_/\a.name=b.name/\a.parts.length=b.parts.length:=of_decide_eq_true hh.1;rw[hh.2,Bool.or_true] at hK;have: ∃ps,placesOf (bound f (!up)) (bound f up) a.parts b.parts=some ps:=by
    refine ZaD e3 (fun i p q hp hq=> ?_);have:=List.all_eq_true.1 hh.2 i (List.mem_range.2 (List.getElem?_eq_some_iff.1 hp).1);unfold plStep at this;rw[hp,hq] at this;exact Option.isSome_iff_exists.1 this
   obtain ⟨ps,hp⟩:=this;rw[hbd,if_pos ⟨e1,e2⟩,hp]; rfl}
 {rcases hK.2 with ⟨_,_,h⟩ | ⟨_,ps,_,_,h⟩ | ⟨_,ps,h⟩
  {exact h.up}
  {exact h.below}
  {exact h.below}}
 {rcases hK.2 with ⟨e,e2,h⟩ | ⟨e2,ps,hl,hps,h⟩ | ⟨e2,ps,h⟩
  {refine ⟨_,_,h.c5,fun j hj=> ?_⟩;obtain ⟨h1,h2⟩:=hbs (by rw[hj]; nofun);have hDD:=hD (by rw[h1,h2]; rfl);obtain ⟨g1,g2,g3⟩:a.of_=b.of_/\a.name=b.name/\a.parts.length=b.parts.length:=of_decide_eq_true h1;have hpl:=Zb6 (f:=f) (up:=up) g3 (ps:= []) (by simp; omega) (fun k hk=>by omega);rw[hbd,if_pos ⟨g1,g2⟩,hpl] at hj;cases hj;refine ⟨rfl,fun W' _ _=> .mk _ _ 0 0 (fun _=>noneQ12) ⟨ho,hnm,by simp,by simp,by simp,by simp,by simp,fun _=>rfl,fun _=>rfl⟩ (Or.inl rfl) (Or.inl rfl) (fun i hi=>by simp at hi) (fun i hi=>by simp at hi)⟩}
  {obtain ⟨q,h5,hkp⟩:=h.fin;refine ⟨_,q,h5,fun j hj=> ?_⟩;obtain ⟨h1,h2⟩:=hbs (by rw[hj]; nofun);have hDD:=hD (by rw[h1,h2]; rfl);subst hDD;obtain ⟨g1,g2,g3⟩:a.of_=b.of_/\a.name=b.name/\a.parts.length=b.parts.length:=of_decide_eq_true h1;have hpl:=Zb6 (f:=f) (up:=up) g3 hl hps;rw[hbd,if_pos ⟨g1,g2⟩,hpl] at hj;cases hj;exact ⟨rfl,hkp rfl ho hnm (by omega)⟩}
  {obtain ⟨q,h5,_⟩:=h.fin;refine ⟨_,q,h5,fun j hj=> ?_⟩;obtain ⟨h1,h2⟩:=hbs (by rw[hj]; nofun);rw[h1,h2] at e2;cases e2}}
end
end SubM
end Go.Proofs.YthajhofgjhfjeaaDoor
namespace Go.Proofs.YthajhofgjhfjeaaDoor
open Go.RowKit Shp Sub
namespace SubM
theorem Zak {w W:World} (h:Below w.heap.size w W) {n0:Nat} {q:Ptr} {t:Sh} (hs:ShAt w n0 q t) (hn:n0<=w.heap.size):ShAt W n0 q t:=Za8 hs hn (Upd.new (S:=fun _=>False) h) (fun _ _ h=>h)
section
variable {f : Nat} (hI : BoundOk f) (up : Bool) (a b : Sh) (pa pb : Ptr) (n0 : Nat) (w : World) (h2 : Two (f + 1) a b)
include f hI up a b pa pb n0 w h2
theorem Zb7 (A:Rec a) (B:Rec b) (hk:a.kind=b.kind) (hw:Narrow up a.kind) (ha:ShAt w n0 pa a) (hb:ShAt w n0 pb b) (hn:n0<=w.heap.size):
 Calls Tryd.prog 53 #[sv a pa,sv b pb,.func (.func (bfn up)) #[] #[]] w (BIs (f+1) up a b n0 w):=by
 have hb1:=Z01 w (.cells (Y8 a pa) 25);obtain ⟨w1,hw1⟩: ∃w1,w1=w.alloc (.cells (Y8 a pa) 25):=⟨_,rfl⟩;have hs1:w1.heap.size=w.heap.size+1:=by rw[hw1]; simp
 have hb2:=Z01 w1 (.cells (Y8 b pb) 25);obtain ⟨w2,hw2⟩: ∃w2,w2=w1.alloc (.cells (Y8 b pb) 25):=⟨_,rfl⟩;have hs2:w2.heap.size=w1.heap.size+1:=by rw[hw2]; simp
 have hb3:=Z01 w2 (.cells #[.func (.func (bfn up)) #[] #[]] 60);obtain ⟨w3,hw3⟩: ∃w3,w3=w2.alloc (.cells #[.func (.func (bfn up)) #[] #[]] 60):=⟨_,rfl⟩;have hs3:w3.heap.size=w2.heap.size+1:=by rw[hw3]; simp
 have hb4:=Z01 w3 (.cells Yb 25);obtain ⟨w4,hw4⟩: ∃w4,w4=w3.alloc (.cells Yb 25):=⟨_,rfl⟩;have hs4:w4.heap.size=w3.heap.size+1:=by rw[hw4]; simp
 have hb5:=Z01 w4 (.cells #[.int .i64 a.kind,.string ⟨#[]⟩,.string ⟨#[]⟩,.slice none 0 0,.slice none 0 0] 25);obtain ⟨w5,hw5⟩: ∃w5,w5=w4.alloc (.cells #[.int .i64 a.kind,.string ⟨#[]⟩,.string ⟨#[]⟩,.slice none 0 0,.slice none 0 0] 25):=⟨_,rfl⟩;have hs5:w5.heap.size=w4.heap.size+1:=by rw[hw5]; simp
 rw[<-hw1] at hb1;rw[<-hw2] at hb2;rw[<-hw3] at hb3;rw[<-hw4] at hb4;rw[<-hw5] at hb5;have hbw:=(Z00 hb1 (Z00 hb2 (Z00 hb3 (Z00 hb4 hb5))));have hz0:w5.heap.size=w.heap.size+1+1+1+1+1:=by omega
 have hrc:Rc (w.heap.size+1+1+1) w5:=by
  have h:=Zax hw4;rw[show w3.heap.size=w.heap.size+1+1+1 from by omega] at h;exact h.upd (T:=fun _=>False) (Upd.new hb5) (fun h=>h)
 have hst:St0 w (w.heap.size+1+1+1+1) (w.heap.size+1+1) (.func (.func (bfn up)) #[] #[]) a.kind w5:=by
  refine ⟨hbw,by omega,by omega, ?_,fun j=> ?_,by omega, ?_⟩
  {rw[show w.heap.size+1+1+1+1=w4.heap.size from by omega,hw5]; refine ⟨?_, ?_, ?_, ?_, ?_⟩ <;> simp[go_sem]}
  {rw[show w.heap.size+1+1+1+1=w4.heap.size from by omega,hw5]; simp[go_sem]}
  {rw[((Z00 hb4 hb5).cell (p:=⟨w.heap.size+1+1,0,none⟩) (by show w.heap.size+1+1 < w3.heap.size; omega)),show w.heap.size+1+1=w2.heap.size from by omega,hw3]; simp[go_sem]}
 have HE:=Y1 (Zcy hI h2 A B hk hw (Zak hbw ha hn) (Zak hbw hb hn) hn hst hrc (by omega) (by omega) (by omega));have HN:=Y1 hn;have HZ:=Y1 hz0;have HW:Hid ((((((w.alloc (.cells (Y8 a pa) 25)).alloc (.cells (Y8 b pb) 25)).alloc (.cells #[.func (.func (bfn up)) #[] #[]] 60)).alloc (.cells Yb 25)).alloc (.cells #[.int .i64 a.kind,.string ⟨#[]⟩,.string ⟨#[]⟩,.slice none 0 0,.slice none 0 0] 25))=w5):=Y1 (by rw[hw5,hw4,hw3,hw2,hw1]);clear hst hrc ha hb hn hk hw h2 hI hbw hz0 hb1 hs1 hb2 hs2 hb3 hs3 hb4 hs4 hb5 hs5 A B;clear hw5 hw4 hw3 hw2 hw1;unfold sv at HE ⊢;go_enter Tryd.func53,Tryd.ntmps53
 go_wp2_with fail
 rw[HW.out];clear HW;refine HE.out.mono ?_;rintro e W6 ⟨rfl,hR,hB,t,q,⟨x0,x1,x2,x3,x4⟩,hj⟩;obtain ⟨v0,y0⟩:=hR.ex 0 (by omega);obtain ⟨v1,y1⟩:=hR.ex 1 (by omega);obtain ⟨v2,y2⟩:=hR.ex 2 (by omega);obtain ⟨v3,y3⟩:=hR.ex 3 (by omega);obtain ⟨v4,y4⟩:=hR.ex 4 (by omega);have z0:=hR.fz 0;have z1:=hR.fz 1;have z2:=hR.fz 2;have z3:=hR.fz 3;have z4:=hR.fz 4;simp only[Nat.zero_add] at x0 x1 x2 x3 x4;have hfin:=Zbm (gm:=0) (rc:=w.heap.size+1+1+1) (hi:=w5.heap.size+3) HN.out (by omega) (by have:=HZ.out; omega) hB hj;have HF:=Y1 hfin;have hlayat:=RX.lay_at t q (W:=W6) (g:=w.heap.size+1+1+1) hR.ex;obtain ⟨u0,u1,u2,u3,u4⟩:=hlayat;simp only[Nat.zero_add] at u0 u1 u2 u3 u4;have HU:=Y1 (And.intro u0 (And.intro u1 (And.intro u2 (And.intro u3 u4))));clear hfin hB hj HE hR u0 u1 u2 u3 u4;go_wp2;obtain ⟨u0,u1,u2,u3,u4⟩:=HU.out;unfold RX.lay at u0 u1 u2 u3 u4;refine bodyPost_ret (v:= .tuple #[sv t q,.bool (bound (f+1) up a b).isSome]) (by simp[results,Tryd.results53,go_sem,u0,u1,u2,u3,u4]) rfl ?_;exact HF.out
theorem ZaY (A:Rec a) (B:Rec b) (hk:a.kind=b.kind) (hw:Wide up a.kind) (ha:ShAt w n0 pa a) (hb:ShAt w n0 pb b) (hn:n0<=w.heap.size):
 Calls Tryd.prog 54 #[sv a pa,sv b pb,.func (.func (bfn up)) #[] #[]] w (BIs (f+1) up a b n0 w):=by
 have hb1:=Z01 w (.cells (Y8 a pa) 25);obtain ⟨w1,hw1⟩: ∃w1,w1=w.alloc (.cells (Y8 a pa) 25):=⟨_,rfl⟩;have hs1:w1.heap.size=w.heap.size+1:=by rw[hw1]; simp
 have hb2:=Z01 w1 (.cells (Y8 b pb) 25);obtain ⟨w2,hw2⟩: ∃w2,w2=w1.alloc (.cells (Y8 b pb) 25):=⟨_,rfl⟩;have hs2:w2.heap.size=w1.heap.size+1:=by rw[hw2]; simp
 have hb3:=Z01 w2 (.cells #[.func (.func (bfn up)) #[] #[]] 60);obtain ⟨w3,hw3⟩: ∃w3,w3=w2.alloc (.cells #[.func (.func (bfn up)) #[] #[]] 60):=⟨_,rfl⟩;have hs3:w3.heap.size=w2.heap.size+1:=by rw[hw3]; simp
 have hb4:=Z01 w3 (.cells Yb 25);obtain ⟨w4,hw4⟩: ∃w4,w4=w3.alloc (.cells Yb 25):=⟨_,rfl⟩;have hs4:w4.heap.size=w3.heap.size+1:=by rw[hw4]; simp
 have hb5:=Z01 w4 (.cells #[.int .i64 a.kind,.string ⟨#[]⟩,.string ⟨#[]⟩,.slice none 0 0,.slice none 0 0] 25);obtain ⟨w5,hw5⟩: ∃w5,w5=w4.alloc (.cells #[.int .i64 a.kind,.string ⟨#[]⟩,.string ⟨#[]⟩,.slice none 0 0,.slice none 0 0] 25):=⟨_,rfl⟩;have hs5:w5.heap.size=w4.heap.size+1:=by rw[hw5]; simp
 rw[<-hw1] at hb1;rw[<-hw2] at hb2;rw[<-hw3] at hb3;rw[<-hw4] at hb4;rw[<-hw5] at hb5;have hbw:=(Z00 hb1 (Z00 hb2 (Z00 hb3 (Z00 hb4 hb5))));have hz0:w5.heap.size=w.heap.size+1+1+1+1+1:=by omega
 have hrc:Rc (w.heap.size+1+1+1) w5:=by
  have h:=Zax hw4;rw[show w3.heap.size=w.heap.size+1+1+1 from by omega] at h;exact h.upd (T:=fun _=>False) (Upd.new hb5) (fun h=>h)
 have hst:St0 w (w.heap.size+1+1+1+1) (w.heap.size+1+1) (.func (.func (bfn up)) #[] #[]) a.kind w5:=by
  refine ⟨hbw,by omega,by omega, ?_,fun j=> ?_,by omega, ?_⟩
  {rw[show w.heap.size+1+1+1+1=w4.heap.size from by omega,hw5]; refine ⟨?_, ?_, ?_, ?_, ?_⟩ <;> simp[go_sem]}
  {rw[show w.heap.size+1+1+1+1=w4.heap.size from by omega,hw5]; simp[go_sem]}
  {rw[((Z00 hb4 hb5).cell (p:=⟨w.heap.size+1+1,0,none⟩) (by show w.heap.size+1+1 < w3.heap.size; omega)),show w.heap.size+1+1=w2.heap.size from by omega,hw3]; simp[go_sem]}
 have HE:=Y1 (ZbY hI h2 A B hk hw (Zak hbw ha hn) (Zak hbw hb hn) hn hst hrc (by omega) (by omega) (by omega));have HN:=Y1 hn;have HZ:=Y1 hz0;have HW:Hid ((((((w.alloc (.cells (Y8 a pa) 25)).alloc (.cells (Y8 b pb) 25)).alloc (.cells #[.func (.func (bfn up)) #[] #[]] 60)).alloc (.cells Yb 25)).alloc (.cells #[.int .i64 a.kind,.string ⟨#[]⟩,.string ⟨#[]⟩,.slice none 0 0,.slice none 0 0] 25))=w5):=Y1 (by rw[hw5,hw4,hw3,hw2,hw1]);clear hst hrc ha hb hn hk hw h2 hI hbw hz0 hb1 hs1 hb2 hs2 hb3 hs3 hb4 hs4 hb5 hs5 A B;clear hw5 hw4 hw3 hw2 hw1;unfold sv at HE ⊢;go_enter Tryd.func54,Tryd.ntmps54
 go_wp2_with fail
 rw[HW.out];clear HW;refine HE.out.mono ?_;rintro e W6 ⟨rfl,hR,hB,t,q,⟨x0,x1,x2,x3,x4⟩,hj⟩;obtain ⟨v0,y0⟩:=hR.ex 0 (by omega);obtain ⟨v1,y1⟩:=hR.ex 1 (by omega);obtain ⟨v2,y2⟩:=hR.ex 2 (by omega);obtain ⟨v3,y3⟩:=hR.ex 3 (by omega);obtain ⟨v4,y4⟩:=hR.ex 4 (by omega);have z0:=hR.fz 0;have z1:=hR.fz 1;have z2:=hR.fz 2;have z3:=hR.fz 3;have z4:=hR.fz 4;simp only[Nat.zero_add] at x0 x1 x2 x3 x4;have hfin:=Zbm (gm:=0) (rc:=w.heap.size+1+1+1) (hi:=w5.heap.size+3) HN.out (by omega) (by have:=HZ.out; omega) hB hj;have HF:=Y1 hfin;have hlayat:=RX.lay_at t q (W:=W6) (g:=w.heap.size+1+1+1) hR.ex;obtain ⟨u0,u1,u2,u3,u4⟩:=hlayat;simp only[Nat.zero_add] at u0 u1 u2 u3 u4;have HU:=Y1 (And.intro u0 (And.intro u1 (And.intro u2 (And.intro u3 u4))));clear hfin hB hj HE hR u0 u1 u2 u3 u4;go_wp2;obtain ⟨u0,u1,u2,u3,u4⟩:=HU.out;unfold RX.lay at u0 u1 u2 u3 u4;refine bodyPost_ret (v:= .tuple #[sv t q,.bool (bound (f+1) up a b).isSome]) (by simp[results,Tryd.results54,go_sem,u0,u1,u2,u3,u4]) rfl ?_;exact HF.out
theorem ZaZ (hk:a.kind=b.kind) (hw: ¬(a.kind=6\/a.kind=7)) (ha:ShAt w n0 pa a) (hb:ShAt w n0 pb b) (hn:n0<=w.heap.size):
 Calls Tryd.prog 55 #[sv a pa,sv b pb,.func (.func (bfn !up)) #[] #[],.func (.func (bfn up)) #[] #[]] w (BIs (f+1) up a b n0 w):=by
 have hb1:=Z01 w (.cells (Y8 a pa) 25);obtain ⟨w1,hw1⟩: ∃w1,w1=w.alloc (.cells (Y8 a pa) 25):=⟨_,rfl⟩;have hs1:w1.heap.size=w.heap.size+1:=by rw[hw1]; simp
 have hb2:=Z01 w1 (.cells (Y8 b pb) 25);obtain ⟨w2,hw2⟩: ∃w2,w2=w1.alloc (.cells (Y8 b pb) 25):=⟨_,rfl⟩;have hs2:w2.heap.size=w1.heap.size+1:=by rw[hw2]; simp
 have hb3:=Z01 w2 (.cells #[.func (.func (bfn !up)) #[] #[]] 60);obtain ⟨w3,hw3⟩: ∃w3,w3=w2.alloc (.cells #[.func (.func (bfn !up)) #[] #[]] 60):=⟨_,rfl⟩;have hs3:w3.heap.size=w2.heap.size+1:=by rw[hw3]; simp
 have hb4:=Z01 w3 (.cells #[.func (.func (bfn up)) #[] #[]] 60);obtain ⟨w4,hw4⟩: ∃w4,w4=w3.alloc (.cells #[.func (.func (bfn up)) #[] #[]] 60):=⟨_,rfl⟩;have hs4:w4.heap.size=w3.heap.size+1:=by rw[hw4]; simp
 have hb5:=Z01 w4 (.cells Yb 25);obtain ⟨w5,hw5⟩: ∃w5,w5=w4.alloc (.cells Yb 25):=⟨_,rfl⟩;have hs5:w5.heap.size=w4.heap.size+1:=by rw[hw5]; simp
 have hb6:=Z01 w5 (.cells #[.int .i64 a.kind,.string ⟨a.of_.toArray⟩,.string ⟨a.name.toArray⟩,.slice none 0 0,.slice none 0 0] 25);obtain ⟨w6,hw6⟩: ∃w6,w6=w5.alloc (.cells #[.int .i64 a.kind,.string ⟨a.of_.toArray⟩,.string ⟨a.name.toArray⟩,.slice none 0 0,.slice none 0 0] 25):=⟨_,rfl⟩;have hs6:w6.heap.size=w5.heap.size+1:=by rw[hw6]; simp
 rw[<-hw1] at hb1;rw[<-hw2] at hb2;rw[<-hw3] at hb3;rw[<-hw4] at hb4;rw[<-hw5] at hb5;rw[<-hw6] at hb6;have hbw:=(Z00 hb1 (Z00 hb2 (Z00 hb3 (Z00 hb4 (Z00 hb5 hb6)))));have hz0:w6.heap.size=w.heap.size+1+1+1+1+1+1:=by omega
 have hrc:Rc (w.heap.size+1+1+1+1) w6:=by
  have h:=Zax hw5;rw[show w4.heap.size=w.heap.size+1+1+1+1 from by omega] at h;exact h.upd (T:=fun _=>False) (Upd.new hb6) (fun h=>h)
 have hst:St0p w (w.heap.size+1+1+1+1+1) (w.heap.size+1+1) (w.heap.size+1+1+1) (.func (.func (bfn !up)) #[] #[]) (.func (.func (bfn up)) #[] #[]) a.kind a.of_ a.name w6:=by
  refine ⟨hbw,by omega,by omega, ?_,fun j=> ?_,by omega,by omega, ?_, ?_⟩
  {rw[show w.heap.size+1+1+1+1+1=w5.heap.size from by omega,hw6]; refine ⟨?_, ?_, ?_, ?_, ?_⟩ <;> simp[go_sem]}
  {rw[show w.heap.size+1+1+1+1+1=w5.heap.size from by omega,hw6]; simp[go_sem]}
  {rw[((Z00 hb4 (Z00 hb5 hb6)).cell (p:=⟨w.heap.size+1+1,0,none⟩) (by show w.heap.size+1+1 < w3.heap.size; omega)),show w.heap.size+1+1=w2.heap.size from by omega,hw3]; simp[go_sem]}
  {rw[((Z00 hb5 hb6).cell (p:=⟨w.heap.size+1+1+1,0,none⟩) (by show w.heap.size+1+1+1 < w4.heap.size; omega)),show w.heap.size+1+1+1=w3.heap.size from by omega,hw4]; simp[go_sem]}
 have HE:=Y1 (Zc0 hI h2 hk hw (Zak hbw ha hn) (Zak hbw hb hn) hn hst hrc (by omega) (by omega) (by omega) (by omega) (by omega));have HN:=Y1 hn;have HZ:=Y1 hz0;have HW:Hid (((((((w.alloc (.cells (Y8 a pa) 25)).alloc (.cells (Y8 b pb) 25)).alloc (.cells #[.func (.func (bfn !up)) #[] #[]] 60)).alloc (.cells #[.func (.func (bfn up)) #[] #[]] 60)).alloc (.cells Yb 25)).alloc (.cells #[.int .i64 a.kind,.string ⟨a.of_.toArray⟩,.string ⟨a.name.toArray⟩,.slice none 0 0,.slice none 0 0] 25))=w6):=Y1 (by rw[hw6,hw5,hw4,hw3,hw2,hw1]);clear hst hrc ha hb hn hk hw h2 hI hbw hz0 hb1 hs1 hb2 hs2 hb3 hs3 hb4 hs4 hb5 hs5 hb6 hs6;clear hw6 hw5 hw4 hw3 hw2 hw1;unfold sv at HE ⊢;go_enter Tryd.func55,Tryd.ntmps55
 go_wp2_with fail
 rw[HW.out];clear HW;refine HE.out.mono ?_;rintro e W6 ⟨rfl,hR,hB,t,q,⟨x0,x1,x2,x3,x4⟩,hj⟩;obtain ⟨v0,y0⟩:=hR.ex 0 (by omega);obtain ⟨v1,y1⟩:=hR.ex 1 (by omega);obtain ⟨v2,y2⟩:=hR.ex 2 (by omega);obtain ⟨v3,y3⟩:=hR.ex 3 (by omega);obtain ⟨v4,y4⟩:=hR.ex 4 (by omega);have z0:=hR.fz 0;have z1:=hR.fz 1;have z2:=hR.fz 2;have z3:=hR.fz 3;have z4:=hR.fz 4;simp only[Nat.zero_add] at x0 x1 x2 x3 x4;have hfin:=Zbm (gm:=0) (rc:=w.heap.size+1+1+1+1) (hi:=w6.heap.size+2) HN.out (by omega) (by have:=HZ.out; omega) hB hj;have HF:=Y1 hfin;have hlayat:=RX.lay_at t q (W:=W6) (g:=w.heap.size+1+1+1+1) hR.ex;obtain ⟨u0,u1,u2,u3,u4⟩:=hlayat;simp only[Nat.zero_add] at u0 u1 u2 u3 u4;have HU:=Y1 (And.intro u0 (And.intro u1 (And.intro u2 (And.intro u3 u4))));clear hfin hB hj HE hR u0 u1 u2 u3 u4;go_wp2;obtain ⟨u0,u1,u2,u3,u4⟩:=HU.out;unfold RX.lay at u0 u1 u2 u3 u4;refine bodyPost_ret (v:= .tuple #[sv t q,.bool (bound (f+1) up a b).isSome]) (by simp[results,Tryd.results55,go_sem,u0,u1,u2,u3,u4]) rfl ?_;exact HF.out
end
end SubM
end Go.Proofs.YthajhofgjhfjeaaDoor
namespace Go.Proofs.YthajhofgjhfjeaaDoor
open Go.RowKit Shp Sub
namespace SubM
section
variable {f : Nat} {up : Bool} {a b : Sh} {n0 : Nat}
include f up a b n0
theorem ZaA {w w3 W:World} {t:Sh} {q:Ptr} {rc:Nat} (hn:n0<=w.heap.size) (hb3:Below w.heap.size w w3) (h1:w.heap.size<=rc) (h2:rc < w3.heap.size) (hb:Below w3.heap.size w3 W)
 (hj: ∀j,bound f up a b=some j->t=j/\Kept (fun b=>b < n0\/w3.heap.size<=b) W (j,q)):BIs f up a b n0 w (.returned (.tuple #[sv t q,.bool (bound f up a b).isSome])) (RX.lay W rc t q):=by
 have hu:=RX.lay_upd W rc t q;refine ⟨t,q,rfl,(Z00 hb3 hb).trans (hu.below (by have:=hb3.size; have:=hb.size; omega) (fun x hx=>by omega)),fun j hb2=> ?_⟩;obtain ⟨e,hk⟩:=hj j hb2;have:=hb3.size;exact ⟨e,hk.move hu (fun b _ hf=>⟨fun e=>by have e:b=rc:=e; rcases hf with hf | hf <;> omega,by rcases hf with hf | hf <;> omega⟩)⟩
theorem ZbI {w W:World} (hb:Below w.heap.size w W) (h:bound f up a b=none):BIs f up a b n0 w (.returned (.tuple #[.agg #[.int .i64 0,.string ⟨#[]⟩,.string ⟨#[]⟩,.slice none 0 0,.slice none 0 0],.bool false])) W:=
 ⟨⟨0,[],[],[],[]⟩,noneQ12,by rw[h]; rfl,hb,fun j hj=>by rw[h] at hj; cases hj⟩
end
section
variable {f : Nat} (hI : BoundOk f) (a b : Sh) (pa pb : Ptr) (n0 : Nat) (w : World) (h2 : Two (f + 1) a b) (ha : ShAt w n0 pa a) (hb : ShAt w n0 pb b) (hn : n0 <= w.heap.size)
include f hI a b pa pb n0 w h2 ha hb hn
theorem ZcA:
 Calls Tryd.prog 30 #[sv a pa,sv b pb] w (BIs (f+1) true a b n0 w):=by
 have hb1:=Z01 w (.cells (Y8 a pa) 25);obtain ⟨w1,hw1⟩: ∃w1,w1=w.alloc (.cells (Y8 a pa) 25):=⟨_,rfl⟩;have hs1:w1.heap.size=w.heap.size+1:=by rw[hw1]; simp
 have hb2:=Z01 w1 (.cells (Y8 b pb) 25);obtain ⟨w2,hw2⟩: ∃w2,w2=w1.alloc (.cells (Y8 b pb) 25):=⟨_,rfl⟩;have hs2:w2.heap.size=w1.heap.size+1:=by rw[hw2]; simp
 have hb3:=Z01 w2 (.cells Yb 25);obtain ⟨w3,hw3⟩: ∃w3,w3=w2.alloc (.cells Yb 25):=⟨_,rfl⟩;have hs3:w3.heap.size=w2.heap.size+1:=by rw[hw3]; simp
 rw[<-hw1] at hb1;rw[<-hw2] at hb2;rw[<-hw3] at hb3;have hbw:=Z00 hb1 (Z00 hb2 hb3);have hrc:Rc (w.heap.size+1+1) w3:=by
  have h:=Zax hw3
  rwa [show w2.heap.size=w.heap.size+1+1 from by omega] at h
 have hB1:Box5 w1 w.heap.size a pa:=by rw[hw1]; exact Z03 w a pa
 have hB2:Box5 w2 w1.heap.size b pb:=by rw[hw2]; exact Z03 w1 b pb
 have hBA:=(hB1.next hb2).next hb3;have hBB:=hB2.next hb3;rw[hs1] at hBB;have HA:=Y1 (Zak hbw ha hn);have HB:=Y1 (Zak hbw hb hn);have HN:=Y1 hn;have HN3:Hid (n0<=w3.heap.size):=Y1 (by omega);have HW:=Y1 hbw;have HZ:Hid (w3.heap.size=w.heap.size+1+1+1):=Y1 (by omega);have HR:=Y1 hrc;have H2:=Y1 h2;have HI:=Y1 hI;obtain ⟨_,⟨a0,a1,a2,a3,a4⟩,_⟩:=hBA;obtain ⟨_,⟨b0,b1,b2,b3,b4⟩,_⟩:=hBB;simp only[Nat.zero_add] at a0 a1 a2 a3 a4 b0 b1 b2 b3 b4;obtain ⟨v0,y0⟩:=hrc.ex 0 (by omega);obtain ⟨v1,y1⟩:=hrc.ex 1 (by omega);obtain ⟨v2,y2⟩:=hrc.ex 2 (by omega);obtain ⟨v3,y3⟩:=hrc.ex 3 (by omega);obtain ⟨v4,y4⟩:=hrc.ex 4 (by omega);have z0:=hrc.fz 0;have z1:=hrc.fz 1;have z2:=hrc.fz 2;have z3:=hrc.fz 3;have z4:=hrc.fz 4;have hw1':=hw1.symm;have hw2':=hw2.symm;have hw3':=hw3.symm;have lw:w.heap.size+1+1 < w3.heap.size:=by omega
 clear hw1 hw2 hw3 hb1 hb2 hb3 hB1 hB2 hbw ha hb hn h2 hI hrc;unfold sv;by_cases hk:a.kind=b.kind
 {have HK:=Y1 hk;have m0: (a.kind !=b.kind)=false:=by rw[hk]; simp
  have m1: (a.kind==b.kind)=true:=by rw[hk]; simp
  by_cases h6:a.kind=6
  {have m6: (a.kind==6)=true:=by rw[h6]; rfl
   have HE:=Y1 (Zb7 HI.out true a b pa pb n0 w3 H2.out (Za4 (Z1c H2.out.ra) (Or.inl h6)) (Za4 (Z1c H2.out.rb) (Or.inl (hk▸h6))) hk (Or.inl ⟨rfl,h6⟩) HA.out HB.out HN3.out);unfold sv bfn at HE;simp only[Bool.not_true,Bool.not_false,Bool.false_eq_true,if_true,if_false] at HE;clear hk h6;go_enter Tryd.func30,Tryd.ntmps30
   go_wp2_with fail
   refine HE.out.mono ?_;rintro e W6 ⟨t,q,rfl,hB,hj⟩;have hR:=HR.out.upd (T:=fun _=>False) (Upd.new hB) (fun h=>h);have HF:=Y1 (ZaA (rc:=w.heap.size+1+1) HN.out HW.out (by omega) lw hB hj);have HLY:=Y1 (RX.lay_at t q (W:=W6) (g:=w.heap.size+1+1) hR.ex);clear y0 y1 y2 y3 y4 z0 z1 z2 z3 z4 v0 v1 v2 v3 v4;obtain ⟨v0,y0⟩:=hR.ex 0 (by omega);obtain ⟨v1,y1⟩:=hR.ex 1 (by omega);obtain ⟨v2,y2⟩:=hR.ex 2 (by omega);obtain ⟨v3,y3⟩:=hR.ex 3 (by omega);obtain ⟨v4,y4⟩:=hR.ex 4 (by omega);have z0:=hR.fz 0;have z1:=hR.fz 1;have z2:=hR.fz 2;have z3:=hR.fz 3;have z4:=hR.fz 4;clear hB hj HE hR a0 a1 a2 a3 a4 b0 b1 b2 b3 b4;unfold sv;go_wp2;obtain ⟨u0,u1,u2,u3,u4⟩:=HLY.out;unfold RX.lay at u0 u1 u2 u3 u4;simp only[Nat.zero_add] at u0 u1 u2 u3 u4;refine bodyPost_ret (v:= .tuple #[sv t q,.bool (bound (f+1) true a b).isSome]) (by simp[results,Tryd.results30,go_sem,u0,u1,u2,u3,u4]) rfl ?_;exact HF.out}
  {have m6: (a.kind==6)=false:=by simpa using h6
   by_cases h7:a.kind=7
   {have m7: (a.kind==7)=true:=by rw[h7]; rfl
    have HE:=Y1 (ZaY HI.out true a b pa pb n0 w3 H2.out (Za4 (Z1c H2.out.ra) (Or.inr h7)) (Za4 (Z1c H2.out.rb) (Or.inr (hk▸h7))) hk (Or.inl ⟨rfl,h7⟩) HA.out HB.out HN3.out);unfold sv bfn at HE;simp only[Bool.not_true,Bool.not_false,Bool.false_eq_true,if_true,if_false] at HE;clear hk h6 h7;go_enter Tryd.func30,Tryd.ntmps30
    go_wp2_with fail
    refine HE.out.mono ?_;rintro e W6 ⟨t,q,rfl,hB,hj⟩;have hR:=HR.out.upd (T:=fun _=>False) (Upd.new hB) (fun h=>h);have HF:=Y1 (ZaA (rc:=w.heap.size+1+1) HN.out HW.out (by omega) lw hB hj);have HLY:=Y1 (RX.lay_at t q (W:=W6) (g:=w.heap.size+1+1) hR.ex);clear y0 y1 y2 y3 y4 z0 z1 z2 z3 z4 v0 v1 v2 v3 v4;obtain ⟨v0,y0⟩:=hR.ex 0 (by omega);obtain ⟨v1,y1⟩:=hR.ex 1 (by omega);obtain ⟨v2,y2⟩:=hR.ex 2 (by omega);obtain ⟨v3,y3⟩:=hR.ex 3 (by omega);obtain ⟨v4,y4⟩:=hR.ex 4 (by omega);have z0:=hR.fz 0;have z1:=hR.fz 1;have z2:=hR.fz 2;have z3:=hR.fz 3;have z4:=hR.fz 4;clear hB hj HE hR a0 a1 a2 a3 a4 b0 b1 b2 b3 b4;unfold sv;go_wp2;obtain ⟨u0,u1,u2,u3,u4⟩:=HLY.out;unfold RX.lay at u0 u1 u2 u3 u4;simp only[Nat.zero_add] at u0 u1 u2 u3 u4;refine bodyPost_ret (v:= .tuple #[sv t q,.bool (bound (f+1) true a b).isSome]) (by simp[results,Tryd.results30,go_sem,u0,u1,u2,u3,u4]) rfl ?_;exact HF.out}
   {have m7: (a.kind==7)=false:=by simpa using h7
    have HE:=Y1 (ZaZ HI.out true a b pa pb n0 w3 H2.out hk (fun h=>h.elim h6 h7) HA.out HB.out HN3.out);unfold sv bfn at HE;simp only[Bool.not_true,Bool.not_false,Bool.false_eq_true,if_true,if_false] at HE;clear hk h6 h7;go_enter Tryd.func30,Tryd.ntmps30
    go_wp2_with fail
    refine HE.out.mono ?_;rintro e W6 ⟨t,q,rfl,hB,hj⟩;have hR:=HR.out.upd (T:=fun _=>False) (Upd.new hB) (fun h=>h);have HF:=Y1 (ZaA (rc:=w.heap.size+1+1) HN.out HW.out (by omega) lw hB hj);have HLY:=Y1 (RX.lay_at t q (W:=W6) (g:=w.heap.size+1+1) hR.ex);clear y0 y1 y2 y3 y4 z0 z1 z2 z3 z4 v0 v1 v2 v3 v4;obtain ⟨v0,y0⟩:=hR.ex 0 (by omega);obtain ⟨v1,y1⟩:=hR.ex 1 (by omega);obtain ⟨v2,y2⟩:=hR.ex 2 (by omega);obtain ⟨v3,y3⟩:=hR.ex 3 (by omega);obtain ⟨v4,y4⟩:=hR.ex 4 (by omega);have z0:=hR.fz 0;have z1:=hR.fz 1;have z2:=hR.fz 2;have z3:=hR.fz 3;have z4:=hR.fz 4;clear hB hj HE hR a0 a1 a2 a3 a4 b0 b1 b2 b3 b4;unfold sv;go_wp2;obtain ⟨u0,u1,u2,u3,u4⟩:=HLY.out;unfold RX.lay at u0 u1 u2 u3 u4;simp only[Nat.zero_add] at u0 u1 u2 u3 u4;refine bodyPost_ret (v:= .tuple #[sv t q,.bool (bound (f+1) true a b).isSome]) (by simp[results,Tryd.results30,go_sem,u0,u1,u2,u3,u4]) rfl ?_;exact HF.out}}}
 {have m0: (a.kind !=b.kind)=true:=by simpa using hk
  have m1: (a.kind==b.kind)=false:=by simpa using hk
  have HBD:Hid (bound (f+1) true a b=none):=Y1 (by unfold bound; rw[if_pos hk]);have HLY:=Y1 (RX.lay_at ⟨0,[],[],[],[]⟩ noneQ12 (W:=w3) (g:=w.heap.size+1+1) HR.out.ex);have HUP:=Y1 (RX.lay_upd w3 (w.heap.size+1+1) ⟨0,[],[],[],[]⟩ noneQ12);clear hk;go_enter Tryd.func30,Tryd.ntmps30;go_wp2;obtain ⟨u0,u1,u2,u3,u4⟩:=HLY.out;unfold RX.lay at u0 u1 u2 u3 u4;simp only[Nat.zero_add,List.length_nil] at u0 u1 u2 u3 u4;refine bodyPost_ret (v:= .tuple #[.agg #[.int .i64 0,.string ⟨#[]⟩,.string ⟨#[]⟩,.slice none 0 0,.slice none 0 0],.bool false]) (by simp[results,Tryd.results30,go_sem,u0,u1,u2,u3,u4]) rfl ?_;exact ZbI (HW.out.trans (HUP.out.below HW.out.size (fun x hx=>by omega))) HBD.out}
theorem ZcB:
 Calls Tryd.prog 32 #[sv a pa,sv b pb] w (BIs (f+1) false a b n0 w):=by
 have hb1:=Z01 w (.cells (Y8 a pa) 25);obtain ⟨w1,hw1⟩: ∃w1,w1=w.alloc (.cells (Y8 a pa) 25):=⟨_,rfl⟩;have hs1:w1.heap.size=w.heap.size+1:=by rw[hw1]; simp
 have hb2:=Z01 w1 (.cells (Y8 b pb) 25);obtain ⟨w2,hw2⟩: ∃w2,w2=w1.alloc (.cells (Y8 b pb) 25):=⟨_,rfl⟩;have hs2:w2.heap.size=w1.heap.size+1:=by rw[hw2]; simp
 have hb3:=Z01 w2 (.cells Yb 25);obtain ⟨w3,hw3⟩: ∃w3,w3=w2.alloc (.cells Yb 25):=⟨_,rfl⟩;have hs3:w3.heap.size=w2.heap.size+1:=by rw[hw3]; simp
 rw[<-hw1] at hb1;rw[<-hw2] at hb2;rw[<-hw3] at hb3;have hbw:=Z00 hb1 (Z00 hb2 hb3);have hrc:Rc (w.heap.size+1+1) w3:=by
  have h:=Zax hw3
  rwa [show w2.heap.size=w.heap.size+1+1 from by omega] at h
 have hB1:Box5 w1 w.heap.size a pa:=by rw[hw1]; exact Z03 w a pa
 have hB2:Box5 w2 w1.heap.size b pb:=by rw[hw2]; exact Z03 w1 b pb
 have hBA:=(hB1.next hb2).next hb3;have hBB:=hB2.next hb3;rw[hs1] at hBB;have HA:=Y1 (Zak hbw ha hn);have HB:=Y1 (Zak hbw hb hn);have HN:=Y1 hn;have HN3:Hid (n0<=w3.heap.size):=Y1 (by omega);have HW:=Y1 hbw;have HZ:Hid (w3.heap.size=w.heap.size+1+1+1):=Y1 (by omega);have HR:=Y1 hrc;have H2:=Y1 h2;have HI:=Y1 hI;obtain ⟨_,⟨a0,a1,a2,a3,a4⟩,_⟩:=hBA;obtain ⟨_,⟨b0,b1,b2,b3,b4⟩,_⟩:=hBB;simp only[Nat.zero_add] at a0 a1 a2 a3 a4 b0 b1 b2 b3 b4;obtain ⟨v0,y0⟩:=hrc.ex 0 (by omega);obtain ⟨v1,y1⟩:=hrc.ex 1 (by omega);obtain ⟨v2,y2⟩:=hrc.ex 2 (by omega);obtain ⟨v3,y3⟩:=hrc.ex 3 (by omega);obtain ⟨v4,y4⟩:=hrc.ex 4 (by omega);have z0:=hrc.fz 0;have z1:=hrc.fz 1;have z2:=hrc.fz 2;have z3:=hrc.fz 3;have z4:=hrc.fz 4;have hw1':=hw1.symm;have hw2':=hw2.symm;have hw3':=hw3.symm;have lw:w.heap.size+1+1 < w3.heap.size:=by omega
 clear hw1 hw2 hw3 hb1 hb2 hb3 hB1 hB2 hbw ha hb hn h2 hI hrc;unfold sv;by_cases hk:a.kind=b.kind
 {have HK:=Y1 hk;have m0: (a.kind !=b.kind)=false:=by rw[hk]; simp
  have m1: (a.kind==b.kind)=true:=by rw[hk]; simp
  by_cases h6:a.kind=6
  {have m6: (a.kind==6)=true:=by rw[h6]; rfl
   have HE:=Y1 (ZaY HI.out false a b pa pb n0 w3 H2.out (Za4 (Z1c H2.out.ra) (Or.inl h6)) (Za4 (Z1c H2.out.rb) (Or.inl (hk▸h6))) hk (Or.inr ⟨rfl,h6⟩) HA.out HB.out HN3.out);unfold sv bfn at HE;simp only[Bool.not_true,Bool.not_false,Bool.false_eq_true,if_true,if_false] at HE;clear hk h6;go_enter Tryd.func32,Tryd.ntmps32
   go_wp2_with fail
   refine HE.out.mono ?_;rintro e W6 ⟨t,q,rfl,hB,hj⟩;have hR:=HR.out.upd (T:=fun _=>False) (Upd.new hB) (fun h=>h);have HF:=Y1 (ZaA (rc:=w.heap.size+1+1) HN.out HW.out (by omega) lw hB hj);have HLY:=Y1 (RX.lay_at t q (W:=W6) (g:=w.heap.size+1+1) hR.ex);clear y0 y1 y2 y3 y4 z0 z1 z2 z3 z4 v0 v1 v2 v3 v4;obtain ⟨v0,y0⟩:=hR.ex 0 (by omega);obtain ⟨v1,y1⟩:=hR.ex 1 (by omega);obtain ⟨v2,y2⟩:=hR.ex 2 (by omega);obtain ⟨v3,y3⟩:=hR.ex 3 (by omega);obtain ⟨v4,y4⟩:=hR.ex 4 (by omega);have z0:=hR.fz 0;have z1:=hR.fz 1;have z2:=hR.fz 2;have z3:=hR.fz 3;have z4:=hR.fz 4;clear hB hj HE hR a0 a1 a2 a3 a4 b0 b1 b2 b3 b4;unfold sv;go_wp2;obtain ⟨u0,u1,u2,u3,u4⟩:=HLY.out;unfold RX.lay at u0 u1 u2 u3 u4;simp only[Nat.zero_add] at u0 u1 u2 u3 u4;refine bodyPost_ret (v:= .tuple #[sv t q,.bool (bound (f+1) false a b).isSome]) (by simp[results,Tryd.results32,go_sem,u0,u1,u2,u3,u4]) rfl ?_;exact HF.out}
  {have m6: (a.kind==6)=false:=by simpa using h6
   by_cases h7:a.kind=7
   {have m7: (a.kind==7)=true:=by rw[h7]; rfl
    have HE:=Y1 (Zb7 HI.out false a b pa pb n0 w3 H2.out (Za4 (Z1c H2.out.ra) (Or.inr h7)) (Za4 (Z1c H2.out.rb) (Or.inr (hk▸h7))) hk (Or.inr ⟨rfl,h7⟩) HA.out HB.out HN3.out);unfold sv bfn at HE;simp only[Bool.not_true,Bool.not_false,Bool.false_eq_true,if_true,if_false] at HE;clear hk h6 h7;go_enter Tryd.func32,Tryd.ntmps32
    go_wp2_with fail
    refine HE.out.mono ?_;rintro e W6 ⟨t,q,rfl,hB,hj⟩;have hR:=HR.out.upd (T:=fun _=>False) (Upd.new hB) (fun h=>h);have HF:=Y1 (ZaA (rc:=w.heap.size+1+1) HN.out HW.out (by omega) lw hB hj);have HLY:=Y1 (RX.lay_at t q (W:=W6) (g:=w.heap.size+1+1) hR.ex);clear y0 y1 y2 y3 y4 z0 z1 z2 z3 z4 v0 v1 v2 v3 v4;obtain ⟨v0,y0⟩:=hR.ex 0 (by omega);obtain ⟨v1,y1⟩:=hR.ex 1 (by omega);obtain ⟨v2,y2⟩:=hR.ex 2 (by omega);obtain ⟨v3,y3⟩:=hR.ex 3 (by omega);obtain ⟨v4,y4⟩:=hR.ex 4 (by omega);have z0:=hR.fz 0;have z1:=hR.fz 1;have z2:=hR.fz 2;have z3:=hR.fz 3;have z4:=hR.fz 4;clear hB hj HE hR a0 a1 a2 a3 a4 b0 b1 b2 b3 b4;unfold sv;go_wp2;obtain ⟨u0,u1,u2,u3,u4⟩:=HLY.out;unfold RX.lay at u0 u1 u2 u3 u4;simp only[Nat.zero_add] at u0 u1 u2 u3 u4;refine bodyPost_ret (v:= .tuple #[sv t q,.bool (bound (f+1) false a b).isSome]) (by simp[results,Tryd.results32,go_sem,u0,u1,u2,u3,u4]) rfl ?_;exact HF.out}
   {have m7: (a.kind==7)=false:=by simpa using h7
    have HE:=Y1 (ZaZ HI.out false a b pa pb n0 w3 H2.out hk (fun h=>h.elim h6 h7) HA.out HB.out HN3.out);unfold sv bfn at HE;simp only[Bool.not_true,Bool.not_false,Bool.false_eq_true,if_true,if_false] at HE;clear hk h6 h7;go_enter Tryd.func32,Tryd.ntmps32
    go_wp2_with fail
    refine HE.out.mono ?_;rintro e W6 ⟨t,q,rfl,hB,hj⟩;have hR:=HR.out.upd (T:=fun _=>False) (Upd.new hB) (fun h=>h);have HF:=Y1 (ZaA (rc:=w.heap.size+1+1) HN.out HW.out (by omega) lw hB hj);have HLY:=Y1 (RX.lay_at t q (W:=W6) (g:=w.heap.size+1+1) hR.ex);clear y0 y1 y2 y3 y4 z0 z1 z2 z3 z4 v0 v1 v2 v3 v4;obtain ⟨v0,y0⟩:=hR.ex 0 (by omega);obtain ⟨v1,y1⟩:=hR.ex 1 (by omega);obtain ⟨v2,y2⟩:=hR.ex 2 (by omega);obtain ⟨v3,y3⟩:=hR.ex 3 (by omega);obtain ⟨v4,y4⟩:=hR.ex 4 (by omega);have z0:=hR.fz 0;have z1:=hR.fz 1;have z2:=hR.fz 2;have z3:=hR.fz 3;have z4:=hR.fz 4;clear hB hj HE hR a0 a1 a2 a3 a4 b0 b1 b2 b3 b4;unfold sv;go_wp2;obtain ⟨u0,u1,u2,u3,u4⟩:=HLY.out;unfold RX.lay at u0 u1 u2 u3 u4;simp only[Nat.zero_add] at u0 u1 u2 u3 u4;refine bodyPost_ret (v:= .tuple #[sv t q,.bool (bound (f+1) false a b).isSome]) (by simp[results,Tryd.results32,go_sem,u0,u1,u2,u3,u4]) rfl ?_;exact HF.out}}}
 {have m0: (a.kind !=b.kind)=true:=by simpa using hk
  have m1: (a.kind==b.kind)=false:=by simpa using hk
  have HBD:Hid (bound (f+1) false a b=none):=Y1 (by unfold bound; rw[if_pos hk]);have HLY:=Y1 (RX.lay_at ⟨0,[],[],[],[]⟩ noneQ12 (W:=w3) (g:=w.heap.size+1+1) HR.out.ex);have HUP:=Y1 (RX.lay_upd w3 (w.heap.size+1+1) ⟨0,[],[],[],[]⟩ noneQ12);clear hk;go_enter Tryd.func32,Tryd.ntmps32;go_wp2;obtain ⟨u0,u1,u2,u3,u4⟩:=HLY.out;unfold RX.lay at u0 u1 u2 u3 u4;simp only[Nat.zero_add,List.length_nil] at u0 u1 u2 u3 u4;refine bodyPost_ret (v:= .tuple #[.agg #[.int .i64 0,.string ⟨#[]⟩,.string ⟨#[]⟩,.slice none 0 0,.slice none 0 0],.bool false]) (by simp[results,Tryd.results32,go_sem,u0,u1,u2,u3,u4]) rfl ?_;exact ZbI (HW.out.trans (HUP.out.below HW.out.size (fun x hx=>by omega))) HBD.out}
end
theorem Zck (f:Nat):BoundOk f:=by
 induction f with
 | zero=>intro up a b pa pb n0 w h; have:=h.da; rw[Z0T] at this; omega
 | succ f hI=>
  intro up a b pa pb n0 w h ha hb hn;cases up
  {exact ZcB hI a b pa pb n0 w h ha hb hn}
  {exact ZcA hI a b pa pb n0 w h ha hb hn}
end SubM
end Go.Proofs.YthajhofgjhfjeaaDoor
namespace Go.Proofs.YthajhofgjhfjeaaDoor
section
open Go.RowKit Shp Go.Sort
structure Swi (w wi:World) (ps:List Sh) (qs:Nat->Ptr) (Fs Fs':Nat->List Nat) (i:Nat):Prop where
 up:UpF ((List.range ps.length).flatMap Fs) w wi
 pm: ∀j,j < ps.length->(Fs' j).Perm (Fs j)
 lo: ∀j (h:j < ps.length),j < i->Own wi (qs j) (sorted (ps[j]'h)) (Fs' j)
 hi: ∀j (h:j < ps.length),i<=j->Own wi (qs j) (ps[j]'h) (Fs' j)
theorem Swi.start {w wi:World} {ps:List Sh} {qs:Nat->Ptr} {Fs:Nat->List Nat} (hr: ∀j (h:j < ps.length),Own w (qs j) (ps[j]'h) (Fs j)) (hb:Below w.heap.size w wi):Swi w wi ps qs Fs Fs 0:=
 ⟨(UpF.refl _ _).below hb,fun j _=>List.Perm.refl _,fun j _ h=>absurd h (by omega),fun j h _=>Z17 (hr j h) hb⟩
theorem Swi.below {w wi w2:World} {ps:List Sh} {qs:Nat->Ptr} {Fs Fs':Nat->List Nat} {i:Nat} (h:Swi w wi ps qs Fs Fs' i) (hb:Below wi.heap.size wi w2):Swi w w2 ps qs Fs Fs' i:=
 ⟨h.up.below hb,h.pm,fun j hj hl=>Z17 (h.lo j hj hl) hb,fun j hj hl=>Z17 (h.hi j hj hl) hb⟩
theorem Swi.step {w wi w2:World} {ps:List Sh} {qs:Nat->Ptr} {Fs Fs':Nat->List Nat} {i:Nat} {F':List Nat} (h:Swi w wi ps qs Fs Fs' i) (hi:i < ps.length)
 (hdis: ∀i j,i < ps.length->j < ps.length->i≠j-> ∀b∈Fs i,b∉Fs j) (hu:UpF (Fs' i) wi w2) (hp:F'.Perm (Fs' i)) (ho:Own w2 (qs i) (sorted (ps[i]'hi)) F'): ∃Fs2,Swi w w2 ps qs Fs Fs2 (i+1):=by
 have hfar: ∀j,j < ps.length->j≠i-> ∀b∈Fs' j,b∉Fs' i:=fun j hj hne b hb hb2=>
  hdis j i hj hi hne b ((h.pm j hj).mem_iff.1 hb) ((h.pm i hi).mem_iff.1 hb2)
 refine ⟨fun j=>if j=i then F' else Fs' j,h.up.next hu (fun x hx=>List.mem_flatMap.2 ⟨i,List.mem_range.2 hi,(h.pm i hi).mem_iff.1 hx⟩),fun j hj=> ?_,fun j hj hl=> ?_,fun j hj hl=> ?_⟩
 {by_cases e:j=i
  {subst e; simp only[if_true]; exact hp.trans (h.pm j hj)}
  {simp only[if_neg e]; exact h.pm j hj}}
 {by_cases e:j=i
  {subst e; simp only[if_true]; exact ho}
  {simp only[if_neg e];have ho2:=h.lo j hj (by omega);exact ho2.of (fun b hb=>hu.same (ho2.lt b hb) (hfar j hj e b hb)) hu.size}}
 {have e:j≠i:=by omega
  simp only[if_neg e];have ho2:=h.hi j hj (by omega);exact ho2.of (fun b hb=>hu.same (ho2.lt b hb) (hfar j hj e b hb)) hu.size}
def half (t:Sh):Sh:=⟨t.kind,t.of_,t.name,t.names,t.parts.map sorted⟩
theorem Z3Y {t:Sh} {q:Ptr} (h:Small t q):Small (half t) q:=by
 obtain ⟨h1,h2,h3,h4,h5,h6,h7,h8,h9⟩:=h;exact ⟨h1,h2,h3,h4,by simpa[half] using h5,h6,by simpa[half] using h7,h8,h9⟩
theorem Swi.halfs {w wi:World} {t:Sh} {qs:Nat->Ptr} {Fs Fs':Nat->List Nat} (h:Swi w wi t.parts qs Fs Fs' t.parts.length): ∀i (hi:i < (half t).parts.length),Own wi (qs i) ((half t).parts[i]'hi) (Fs' i):=fun i hi=>by
 have hi2:i < t.parts.length:=by simpa[half] using hi
 have:=h.lo i hi2 hi2;simpa[half] using this
theorem Z4n {n:Nat} {Fs Fs':Nat->List Nat} (h: ∀j,j < n->(Fs' j).Perm (Fs j)): ((List.range n).flatMap Fs').Perm ((List.range n).flatMap Fs):=by
 induction n with
 | zero=>exact List.Perm.refl _
 | succ n ih=>
  rw[List.range_succ,List.flatMap_append,List.flatMap_append];refine (ih fun j hj=>h j (by omega)).append ?_;simpa using h n (by omega)
theorem Z8p {w wi w2:World} {t:Sh} {q:Ptr} {FN FP:List Nat} {qs:Nat->Ptr} {Fs Fs':Nat->List Nat} (hr:right t=true) (hs:Small t q) (h0:t.names.length=0)
 (hn:t.names.length=0/\FN= []\/ ∃b,q.A=some ⟨b,0,none⟩/\FN= [b]/\TxR w b t.names) (hp:t.parts.length=0/\FP= []\/ ∃b,q.P=some ⟨b,0,none⟩/\FP= [b]/\PaR w b t.parts qs)
 (hnd: (FN++FP++(List.range t.parts.length).flatMap Fs).Nodup) (h:Swi w wi t.parts qs Fs Fs' t.parts.length) (hb:Below wi.heap.size wi w2):
 UpF (FN++FP++(List.range t.parts.length).flatMap Fs) w w2/\ ∃F',F'.Perm (FN++FP++(List.range t.parts.length).flatMap Fs)/\Own w2 q (sorted t) F':=by
 have h2:=h.below hb;obtain ⟨n1,n2,n3,_,_⟩:=Z1Z hnd;have hU:UpF (FN++FP++(List.range t.parts.length).flatMap Fs) w w2:=(UpF.refl _ w).next h2.up (fun x hx=>List.mem_append_right _ hx);have hnil:t.names= []:=List.eq_nil_of_length_eq_zero h0;have hso:sorted t=half t:=by rw[Z09,if_pos hnil]; unfold half; rw[hnil]
 have hin: ∀b∈FP,b∉(List.range t.parts.length).flatMap Fs:=fun b hb hb2=>by
  obtain ⟨j,hj,hb2⟩:=List.mem_flatMap.1 hb2;exact n3 b hb j (List.mem_range.1 hj) hb2
 have hin2: ∀b∈FN,b∉(List.range t.parts.length).flatMap Fs:=fun b hb hb2=>by
  obtain ⟨j,hj,hb2⟩:=List.mem_flatMap.1 hb2;exact n2 b hb j (List.mem_range.1 hj) hb2
 refine ⟨hU,FN++FP++(List.range t.parts.length).flatMap Fs',(Z4n h2.pm).append_left _, ?_⟩;rw[hso];refine .mk q _ _ FN FP qs Fs' (Z3Y hs) ?_ ?_ (Swi.halfs h2) (by simp[half])
 {rcases hn with h | ⟨b,h1,rfl,h3⟩
  {exact Or.inl h}
  {exact Or.inr ⟨b,h1,rfl,h3.of (h2.up.same h3.lt (hin2 b (by simp))) h2.up.size⟩}}
 {rcases hp with h | ⟨b,h1,rfl,h3⟩
  {exact Or.inl (by simpa[half] using h)}
  {refine Or.inr ⟨b,h1,rfl,Nat.lt_of_lt_of_le h3.lt h2.up.size,fun i hi=> ?_,fun k=>((h2.up.same h3.lt (hin b (by simp))).2 k).trans (h3.fz k)⟩;have hi2:i < t.parts.length:=by simpa[half] using hi
   have hm:t.parts[i]∈t.parts:=List.getElem_mem hi2;have:=Z3N (Z05 hr hm) ((h3.at_ i hi2).of (h2.up.same h3.lt (hin b (by simp))).1);simpa[half] using this}}
theorem Z8q {t:Sh} (hl:t.names.length=t.parts.length) (qs:Nat->Ptr) (Fs:Nat->List Nat): (els t qs Fs).toList.map (fun x=>((x.n,x.t):Fld))=t.names.zip t.parts:=by
 apply List.ext_getElem
 {simp[els,hl]}
 {intro i h1 h2;have h3:i < t.names.length:=by simpa[els] using h1
  have h4:i < t.parts.length:=by omega
  simp[els,h3,h4]}
theorem Z8r {w wi:World} {t:Sh} {q:Ptr} {FN FP:List Nat} {qs:Nat->Ptr} {Fs Fs':Nat->List Nat} (hr:right t=true) (hs:Small t q) (h0:t.names.length≠0)
 (hn:t.names.length=0/\FN= []\/ ∃b,q.A=some ⟨b,0,none⟩/\FN= [b]/\TxR w b t.names) (hp:t.parts.length=0/\FP= []\/ ∃b,q.P=some ⟨b,0,none⟩/\FP= [b]/\PaR w b t.parts qs)
 (hnd: (FN++FP++(List.range t.parts.length).flatMap Fs).Nodup) (h:Swi w wi t.parts qs Fs Fs' t.parts.length):
 ∃bn bp,q.A=some ⟨bn,0,none⟩/\q.P=some ⟨bp,0,none⟩/\(half t).names.length=(half t).parts.length/\TxR wi bn (half t).names/\PaR wi bp (half t).parts qs/\bn≠bp/\
  ∀(d':Array El) (w2:World),PermIn 0 (half t).names.length (els (half t) qs Fs') d'->SortedIn ltEl 0 (half t).names.length d'->FSt wi bn bp (half t).names.length d' w2->
   UpF (FN++FP++(List.range t.parts.length).flatMap Fs) w w2/\ ∃F',F'.Perm (FN++FP++(List.range t.parts.length).flatMap Fs)/\Own w2 q (sorted t) F':=by
 obtain ⟨hl,hnn⟩:=(Z1B hr).resolve_left (fun e=>h0 (by rw[e]; rfl));rcases hn with ⟨hn,_⟩ | ⟨bn,hA,rfl,hT⟩
 {omega}
 rcases hp with ⟨hp,_⟩ | ⟨bp,hP,rfl,hPa⟩
 {omega}
 obtain ⟨n1,n2,n3,_,_⟩:=Z1Z hnd;have hbnp:bn≠bp:=fun e=>n1 bn (by simp) (by simp[e]);have hinP:bp∉(List.range t.parts.length).flatMap Fs:=fun hb2=>by
  obtain ⟨j,hj,hb2⟩:=List.mem_flatMap.1 hb2;exact n3 bp (by simp) j (List.mem_range.1 hj) hb2
 have hinN:bn∉(List.range t.parts.length).flatMap Fs:=fun hb2=>by
  obtain ⟨j,hj,hb2⟩:=List.mem_flatMap.1 hb2;exact n2 bn (by simp) j (List.mem_range.1 hj) hb2
 have hlh: (half t).names.length=(half t).parts.length:=by simpa[half] using hl
 refine ⟨bn,bp,hA,hP,hlh,hT.of (h.up.same hT.lt hinN) h.up.size,⟨Nat.lt_of_lt_of_le hPa.lt h.up.size,fun i hi=> ?_,fun k=>((h.up.same hPa.lt hinP).2 k).trans (hPa.fz k)⟩,hbnp, ?_⟩
 {have hi2:i < t.parts.length:=by simpa[half] using hi
  have hm:t.parts[i]∈t.parts:=List.getElem_mem hi2;have:=Z3N (Z05 hr hm) ((hPa.at_ i hi2).of (h.up.same hPa.lt hinP).1);simpa[half] using this}
 {intro d' w2 hpm hso hf;have hpl:=Z74 hpm (Z2u _ _ _);have hown: ∀i (hi:i < (half t).parts.length),Own w2 (qs i) ((half t).parts[i]'hi) (Fs' i):=fun i hi=>by
   have hi2:i < t.parts.length:=by simpa[half] using hi
   have ho:=h.halfs i hi;refine ho.of (fun b hb=> ?_) hf.up.size;have hbF:b∈Fs i:=(h.pm i hi2).mem_iff.1 hb;have hb1:b≠bn:=fun e=>n2 bn (by simp) i hi2 (e▸hbF);have hb2:b≠bp:=fun e=>n3 bp (by simp) i hi2 (e▸hbF);have hbl:=hf.up.block b (ho.lt b hb) hb1 hb2;exact ⟨fun k=>World.cell?_of_block (w:=wi) hbl,fun k=>World.frozen?_of_block (w:=wi) hbl⟩
  obtain ⟨o1,o2⟩:=Z91 (N:=(half t).names.length) hA hP (Z3Y hs) rfl hlh.symm hf hpl hown;have hsorted:sorted t=⟨(half t).kind,(half t).of_,(half t).name,d'.toList.map El.n,d'.toList.map El.t⟩:=by
   have hfst: (t.names.zip (t.parts.map sorted)).map Prod.fst=t.names:=List.map_fst_zip (by rw[List.length_map,hl]; exact Nat.le_refl _);have hu: (d'.toList.map fun x=>((x.n,x.t):Fld))=sortF (t.names.zip (t.parts.map sorted)):=by
    refine Z1e ?_ (Z4X hso hf.size) (by rw[hfst]; exact hnn);have:=hpl.map (fun x=>((x.n,x.t):Fld))
    rwa [Z8q hlh] at this
   rw[Z09,if_neg (fun e=>h0 (by rw[e]; rfl)), <-hu];simp[half,List.map_map,Function.comp_def]
  refine ⟨?_,_, ?_,by rw[hsorted]; exact o1⟩
  {have hU1:UpF ([bn]++ [bp]++(List.range t.parts.length).flatMap Fs) w wi:=(UpF.refl _ w).next h.up (fun x hx=>List.mem_append_right _ hx);exact hU1.next (hf.up.upF (F:= [bn]++ [bp]) (by simp) (by simp)) (fun x hx=>List.mem_append_left _ hx)}
  {refine o2.trans ?_;have:=(Z4n h.pm).append_left ([bn]++ [bp]);simpa[half] using this}}
theorem Box5.same {W W':World} {g:Nat} {t:Sh} {q:Ptr} (h:Box5 W g t q) (hs:Z0i W W' g) (hz:W.heap.size<=W'.heap.size):Box5 W' g t q:=by
 obtain ⟨h0,h1,f0,f1,f2,f3,f4⟩:=h;exact ⟨Nat.lt_of_lt_of_le h0 hz,h1.of hs.1,(hs.2 _).trans f0,(hs.2 _).trans f1,(hs.2 _).trans f2,(hs.2 _).trans f3,(hs.2 _).trans f4⟩
theorem Swi.box {w wi:World} {t:Sh} {q:Ptr} {qs:Nat->Ptr} {Fs Fs':Nat->List Nat} {i g:Nat} (h:Swi w wi t.parts qs Fs Fs' i) (hb:Box5 w g t q) (hg:g∉(List.range t.parts.length).flatMap Fs):Box5 wi g t q:=
 hb.same (h.up.same hb.1 hg) h.up.size
theorem Z3Z (t:Sh): ∀(q:Ptr) (F:List Nat) (w:World),Own w q t F->F.Nodup->right t=true->size t<=400->
 Calls Tryd.prog 27 #[.agg (Y8 t q)] w
  fun e w'=>e= .returned (.tuple #[])/\UpF F w w'/\ ∃F',F'.Perm F/\Own w' q (sorted t) F':=by
 induction t using Sh.ind with
 | h t ih=>
 intro q F w hO hnd hr hz;have hb0:=Z01 w (.cells (Y8 t q) 25);have HB:=Y1 (Z03 w t q);have HM:=Y1 hO.small;have hlt:=hO.lt;obtain ⟨FN,FP,qs,Fs,hn,hp,hrr,rfl⟩:=(Z17 hO hb0).inv;obtain ⟨n1,n2,n3,n4,n5⟩:=Z1Z hnd;have hg:w.heap.size∉(List.range t.parts.length).flatMap Fs:=fun hm=>by
  have:=hlt w.heap.size (List.mem_append_right _ hm);omega
 have HG:=Y1 hg;have HS0:=Y1 (Swi.start hrr Y2);have HN:=Y1 hn;have HP:=Y1 hp;have HND:=Y1 hnd;have HD:=Y1 n5;have HN4:=Y1 n4;have HN3:=Y1 n3;have HR:=Y1 hr;have HZ:Hid (size t=1+sizes t.parts):=Y1 (size_eq t);have HB0:=Y1 hb0;have hlen:=Z0P t.parts;have hpl:t.parts.length<=400:=by have:=HZ.out; omega
 clear hb0 hO hlt hn hp hrr hnd n1 n2 n3 n4 n5 hr hg hlen;go_enter Tryd.func27,Tryd.ntmps27
 go_wp2_with fail
 generalize w.alloc (.cells (Y8 t q) 25)=W0 at HB HS0 HN HP HB0 ⊢
 go_loopw [7] (fun ii wr=> ∃i:Nat,ii= .int .i64 i/\i<=t.parts.length/\Hid (∃Fs',Swi W0 wr t.parts qs Fs Fs' i)) (fun i _=>t.parts.length - (intOf i).toNat)
 case atStart=>exact ⟨0,rfl,Nat.zero_le _,Y1 ⟨_,HS0.out⟩⟩
 case round=>
  obtain ⟨i,rfl,hi,HSW⟩:=hrel;by_cases hlt:i < t.parts.length
  {obtain ⟨Fs',hsw⟩:=HSW.out;rcases HP.out with ⟨h0,_⟩ | ⟨bp,hqP,hFP,hPa⟩
   {omega}
   {obtain ⟨x,hx⟩: ∃x,x=t.parts[i]:=⟨_,rfl⟩;have hxr:right x=true:=by rw[hx]; exact Z05 HR.out (List.getElem_mem _)
    have hxz:size x<=400:=by
     have:=Z1O (List.getElem_mem hlt);have:=HZ.out;rw[hx]; omega
    have hinP:bp∉(List.range t.parts.length).flatMap Fs:=fun hb2=>by
     obtain ⟨j,hj,hb2⟩:=List.mem_flatMap.1 hb2;exact HN3.out bp (by rw[hFP]; simp) j (List.mem_range.1 hj) hb2
    obtain ⟨p0,p1,p2,p3,p4⟩:=(hPa.at_ i hlt).of (hsw.up.same hPa.lt hinP).1;have hbx:=Z01 wr (.cells (Y8 x (qs i)) 25);have hsw2:=hsw.below hbx;have hox:=hsw2.hi i hlt (Nat.le_refl _);rw[<-hx] at p0 p1 p2 p3 p4 hox;have IH:=Y1 (ih t.parts[i] (List.getElem_mem _) (qs i) (Fs' i) (wr.alloc (.cells (Y8 x (qs i)) 25)) (by rw[<-hx]; exact hox) (((hsw.pm i hlt).nodup_iff).2 (HN4.out i hlt)) (by rw[<-hx]; exact hxr) (by rw[<-hx]; exact hxz));rw[<-hx] at IH;have HX:=Y1 hx;have HSW2:=Y1 hsw2;clear hx hsw hsw2 hox hbx hinP hPa hFP hxr hxz ih HSW;have hi1: (i:Int) < (t.parts.length:Int):=by omega
    rw[hqP];clear hqP
    go_wp2_with fail
    refine IH.out.mono ?_;rintro e w2 ⟨rfl,hu,F',hF',ho'⟩;have HS3:Hid (∃Fs2,Swi W0 w2 t.parts qs Fs Fs2 (i+1)):=Y1 (HSW2.out.step hlt HD.out hu hF' (by rw[<-HX.out]; exact ho'));clear hu hF' ho' IH HSW2;go_wp2
    go_roundw
    case rel=>exact ⟨i+1,by go_num,by omega,HS3⟩
    case measure=>simp[intOf]; omega}}
  {obtain ⟨Fs',hsw⟩:=HSW.out;have hie:i=t.parts.length:=by omega
   subst hie;have hi1: ¬(t.parts.length:Int) < (t.parts.length:Int):=by omega
   obtain ⟨_,⟨b0,b1,b2,b3,b4⟩,_⟩:=hsw.box HB.out HG.out;have HSW3:=Y1 hsw;clear hsw HSW hlt
   go_wp2_with fail
   by_cases h0:t.names.length=0
   {refine (Z5V t q wr h0).mono ?_;rintro e w2 ⟨rfl,hb2⟩;obtain ⟨r1,r2⟩:=Z8p HR.out HM.out h0 HN.out HP.out HND.out HSW3.out hb2;have HR1:=Y1 (((UpF.refl _ w).below HB0.out).next r1 (fun x hx=>hx));have HR2:=Y1 r2;clear r1 r2 hb2 HSW3;go_wp2
    go_end0
    exact ⟨rfl,HR1.out,HR2.out⟩}
   {obtain ⟨bn,bp,hA,hP,hl,hT,hPa,hne,hall⟩:=Z8r HR.out HM.out h0 HN.out HP.out HND.out HSW3.out;have hw:=Z73 (half t) q qs Fs' bn bp wr hA hP hl (by
     have: (half t).parts.length=t.parts.length:=by simp[half]
     omega) hT hPa hne
    have hkk: (half t).parts.length=t.parts.length:=by simp[half]
    have e1: (half t).kind=t.kind:=rfl;have e2: (half t).of_=t.of_:=rfl;have e3: (half t).name=t.name:=rfl;have e4: (half t).names.length=t.names.length:=rfl;rw[hkk,e1,e2,e3,e4] at hw;refine hw.mono ?_;rintro e w2 ⟨rfl,d',hpm,hso,hf⟩;obtain ⟨r1,r2⟩:=hall d' w2 hpm hso hf;have HR1:=Y1 (((UpF.refl _ w).below HB0.out).next r1 (fun x hx=>hx));have HR2:=Y1 r2;clear r1 r2 hpm hso hf hw hall HSW3 hA hP hl hT hPa hne hkk e1 e2 e3 e4;go_wp2
    go_end0
    exact ⟨rfl,HR1.out,HR2.out⟩}}
end
section
open Go.RowKit
def wordsC:Array Value:=#[.string ⟨#[]⟩,.string ⟨#[73,110,116]⟩,.string ⟨#[66,111,111,108]⟩,.string ⟨#[84,101,120,116]⟩,.string ⟨#[65,110,121]⟩]
theorem Z3v:Tryd.prog.globalNamed "pandect/shape.words" =some 0:=by kernel_rfl
def WGlobs (w:World):Prop:=w.var? Tryd.prog "pandect/shape.words" =some wordsC
theorem WGlobs.cell {w:World} (h:WGlobs w) (i:Nat):w.cell? ⟨0,i,none⟩=wordsC[i]? :=World.var?_cell Z3v h i
theorem WGlobs.lt {w:World} (h:WGlobs w):0 < w.heap.size:=Z1y ((WGlobs.cell h 0).trans (by rfl:wordsC[0]? =some (.string ⟨#[]⟩)))
theorem WGlobs.next {w w':World} (h:WGlobs w) (hb:Below w.heap.size w w'):WGlobs w':=var?_below hb Z3v (WGlobs.lt h) h
theorem Z2G {P:Program} {w:World}: ∀ {l:List (String×DataW Unit)} {ps:List MemPlace},DataW.LaidVars P w l ps-> ∀x∈l,
 ∃g t cs fuel p,P.globalNamed x.1=some g/\(P.globals[g]?).map (·.type)=some t/\w.var? P x.1=some cs/\DataW.trod (fun _=>()) P w 0 (fun _=>true) false fuel t cs.toList=some (x.2,p)
 | [],_,_,x,hx=>by simp at hx
 | (n,d)::r,ps,h,x,hx=>by
  obtain ⟨g,t,cs,fuel,p,q,h1,h2,h3,h4,h5,_⟩:=h;rcases List.mem_cons.1 hx with rfl | hx
  {exact ⟨g,t,cs,fuel,p,h1,h2,h3,h4⟩}
  {exact Z2G h5 x hx}
theorem Z4o {L:List (String×DataW Unit)} {W:World} (h:laidMet Tryd.prog L W) (m4: ("pandect/shape.words",Rows.laid_pandect_shape_words)∈L):WGlobs W:=by
 unfold WGlobs;obtain ⟨ps,hv,_,_⟩:=h;obtain ⟨g1,t1,cs,f1,p1,a1,b1,c1,d1⟩:=Z2G hv _ m4;obtain rfl:=Option.some.inj (Z3v.symm.trans a1);have ht: (Tryd.prog.globals[0]?).map (·.type)=some 105:=by kernel_rfl
 obtain rfl:=Option.some.inj (ht.symm.trans b1);rw[c1];congr 1;have hc1:Tryd.prog.cellsOf 9=1:=by kernel_rfl
 obtain ⟨xs,m,_,hx,hsz,hl,he⟩:=DataW.trod_array Tryd.underlying105 d1;rw[hc1] at he;have hc6:Tryd.prog.cellsOf 105=5:=by kernel_rfl
 rw[hc6] at hsz;have hx1:=(Prod.mk.inj hx).1;apply Array.ext'
 match xs,hl,hx1 with
 | [y0,y1,y2,y3,y4],_,hx1=>
  obtain ⟨L,hL⟩: ∃L,L=cs.toList:=⟨_,rfl⟩;rw[<-hL] at hsz he ⊢;clear hL
  match L,hsz with
  | [k0,k1,k2,k3,k4],_=>
   have e0:=he 0 (by omega);have e1:=he 1 (by omega);have e2:=he 2 (by omega);have e3:=he 3 (by omega);have e4:=he 4 (by omega);simp only[List.getElem?_cons_zero,List.getElem?_cons_succ,Nat.mul_one,List.drop_zero,List.drop_succ_cons,List.take_succ_cons,List.take_zero] at e0 e1 e2 e3 e4;obtain ⟨x0,h0,rfl,_⟩:=DataW.trod_string Tryd.underlying9 e0;obtain ⟨x1,h1,rfl,_⟩:=DataW.trod_string Tryd.underlying9 e1;obtain ⟨x2,h2,rfl,_⟩:=DataW.trod_string Tryd.underlying9 e2;obtain ⟨x3,h3,rfl,_⟩:=DataW.trod_string Tryd.underlying9 e3;obtain ⟨x4,h4,rfl,_⟩:=DataW.trod_string Tryd.underlying9 e4;simp at h0 h1 h2 h3 h4;simp[Rows.laid_pandect_shape_words] at hx1;obtain ⟨z0,z1,z2,z3,z4⟩:=hx1;have key: ∀(x:ByteArray) (l:List UInt8),l=x.data.toList->x=⟨l.toArray⟩:=fun x l h=>by rw[h]
   rw[h0,h1,h2,h3,h4];have k0:=key x0 [] (by simp[z0]);have k1:=key x1 [73,110,116] (by simp[<-z1]);have k2:=key x2 [66,111,111,108] (by simp[<-z2]);have k3:=key x3 [84,101,120,116] (by simp[<-z3]);have k4:=key x4 [65,110,121] (by simp[<-z4]);rw[k0,k1,k2,k3,k4]; rfl
end
section
open Go.RowKit Shp
def wordB (s:List UInt8):Bool:= []==s|| [73,110,116]==s|| [66,111,111,108]==s|| [84,101,120,116]==s|| [65,110,121]==s
def NotYet (s:List UInt8) (i:Int):Prop:=((1:Int)<=i->(([]:List UInt8)==s)=false)/\((2:Int)<=i->([73,110,116]==s)=false)/\((3:Int)<=i->([66,111,111,108]==s)=false)/\((4:Int)<=i->([84,101,120,116]==s)=false)/\((5:Int)<=i->([65,110,121]==s)=false)
theorem Z5l (s:List UInt8) (w:World) (hg:WGlobs w):
 Calls Tryd.prog 74 #[.string ⟨s.toArray⟩] w fun e w'=>e= .returned (.bool (wordB s))/\w=w':=by
 have c0:w.cell? ⟨0,0,none⟩=some (.string ⟨#[]⟩):=hg.cell 0;have c1:w.cell? ⟨0,1,none⟩=some (.string ⟨#[73,110,116]⟩):=hg.cell 1;have c2:w.cell? ⟨0,2,none⟩=some (.string ⟨#[66,111,111,108]⟩):=hg.cell 2;have c3:w.cell? ⟨0,3,none⟩=some (.string ⟨#[84,101,120,116]⟩):=hg.cell 3;have c4:w.cell? ⟨0,4,none⟩=some (.string ⟨#[65,110,121]⟩):=hg.cell 4;clear hg;have i0: ∀W,(Instr.index 105 (.agg #[.string ⟨#[]⟩,.string ⟨#[73,110,116]⟩,.string ⟨#[66,111,111,108]⟩,.string ⟨#[84,101,120,116]⟩,.string ⟨#[65,110,121]⟩]) (.int .i64 0)).run Tryd.prog W= .ok (.string ⟨#[]⟩) W:=fun W=>by kernel_rfl
 have i1: ∀W,(Instr.index 105 (.agg #[.string ⟨#[]⟩,.string ⟨#[73,110,116]⟩,.string ⟨#[66,111,111,108]⟩,.string ⟨#[84,101,120,116]⟩,.string ⟨#[65,110,121]⟩]) (.int .i64 1)).run Tryd.prog W= .ok (.string ⟨#[73,110,116]⟩) W:=fun W=>by kernel_rfl
 have i2: ∀W,(Instr.index 105 (.agg #[.string ⟨#[]⟩,.string ⟨#[73,110,116]⟩,.string ⟨#[66,111,111,108]⟩,.string ⟨#[84,101,120,116]⟩,.string ⟨#[65,110,121]⟩]) (.int .i64 2)).run Tryd.prog W= .ok (.string ⟨#[66,111,111,108]⟩) W:=fun W=>by kernel_rfl
 have i3: ∀W,(Instr.index 105 (.agg #[.string ⟨#[]⟩,.string ⟨#[73,110,116]⟩,.string ⟨#[66,111,111,108]⟩,.string ⟨#[84,101,120,116]⟩,.string ⟨#[65,110,121]⟩]) (.int .i64 3)).run Tryd.prog W= .ok (.string ⟨#[84,101,120,116]⟩) W:=fun W=>by kernel_rfl
 have i4: ∀W,(Instr.index 105 (.agg #[.string ⟨#[]⟩,.string ⟨#[73,110,116]⟩,.string ⟨#[66,111,111,108]⟩,.string ⟨#[84,101,120,116]⟩,.string ⟨#[65,110,121]⟩]) (.int .i64 4)).run Tryd.prog W= .ok (.string ⟨#[65,110,121]⟩) W:=fun W=>by kernel_rfl
 go_enter Tryd.func74,Tryd.ntmps74
 go_wp2_with fail
 go_loopw [6] (fun ii wr=> ∃i:Int,ii= .int .i64 i/\0<=i/\i<=5/\Hid (NotYet s i)/\w=wr)
  (fun i _=>(5 - intOf i).toNat)
 case atStart=>exact ⟨0,rfl,by omega,by omega,Y1 ⟨fun h=>absurd h (by omega),fun h=>absurd h (by omega),fun h=>absurd h (by omega),fun h=>absurd h (by omega),fun h=>absurd h (by omega)⟩,rfl⟩
 case round=>
  obtain ⟨i,rfl,hi0,hi,HN,rfl⟩:=hrel;clear c0 c1 c2 c3 c4;have hc:i=0\/i=1\/i=2\/i=3\/i=4\/i=5:=by omega
  rcases hc with rfl | rfl | rfl | rfl | rfl | rfl
  {cases hq: (([]:List UInt8)==s)
   {have HN2:Hid (NotYet s 1):=Y1 (show ((1:Int)<=1->(([]:List UInt8)==s)=false)/\((2:Int)<=1->([73,110,116]==s)=false)/\((3:Int)<=1->([66,111,111,108]==s)=false)/\((4:Int)<=1->([84,101,120,116]==s)=false)/\((5:Int)<=1->([65,110,121]==s)=false) from ⟨fun _=>hq,fun h=>absurd h (by omega),fun h=>absurd h (by omega),fun h=>absurd h (by omega),fun h=>absurd h (by omega)⟩);have hqe:s.isEmpty=false:=by cases s <;> simp_all
    go_wp2
    go_roundw
    case rel=>exact ⟨1,rfl,by omega,by omega,HN2,trivial⟩
    case measure=>simp[intOf]}
   {have HF:Hid (wordB s=true):=Y1 (by unfold wordB; rw[hq]; simp);have hqe:s.isEmpty=true:=by cases s <;> simp_all
    go_wp2;go_ret;exact ⟨by rw[HF.out]; rfl,rfl⟩}}
  {cases hq: ([73,110,116]==s)
   {have HN2:Hid (NotYet s 2):=Y1 (show ((1:Int)<=2->(([]:List UInt8)==s)=false)/\((2:Int)<=2->([73,110,116]==s)=false)/\((3:Int)<=2->([66,111,111,108]==s)=false)/\((4:Int)<=2->([84,101,120,116]==s)=false)/\((5:Int)<=2->([65,110,121]==s)=false) from ⟨fun _=>HN.out.1 (by omega),fun _=>hq,fun h=>absurd h (by omega),fun h=>absurd h (by omega),fun h=>absurd h (by omega)⟩);go_wp2
    go_roundw
    case rel=>exact ⟨2,rfl,by omega,by omega,HN2,trivial⟩
    case measure=>simp[intOf]}
   {have HF:Hid (wordB s=true):=Y1 (by unfold wordB; rw[hq]; simp);go_wp2;go_ret;exact ⟨by rw[HF.out]; rfl,rfl⟩}}
  {cases hq: ([66,111,111,108]==s)
   {have HN2:Hid (NotYet s 3):=Y1 (show ((1:Int)<=3->(([]:List UInt8)==s)=false)/\((2:Int)<=3->([73,110,116]==s)=false)/\((3:Int)<=3->([66,111,111,108]==s)=false)/\((4:Int)<=3->([84,101,120,116]==s)=false)/\((5:Int)<=3->([65,110,121]==s)=false) from ⟨fun _=>HN.out.1 (by omega),fun _=>HN.out.2.1 (by omega),fun _=>hq,fun h=>absurd h (by omega),fun h=>absurd h (by omega)⟩);go_wp2
    go_roundw
    case rel=>exact ⟨3,rfl,by omega,by omega,HN2,trivial⟩
    case measure=>simp[intOf]}
   {have HF:Hid (wordB s=true):=Y1 (by unfold wordB; rw[hq]; simp);go_wp2;go_ret;exact ⟨by rw[HF.out]; rfl,rfl⟩}}
  {cases hq: ([84,101,120,116]==s)
   {have HN2:Hid (NotYet s 4):=Y1 (show ((1:Int)<=4->(([]:List UInt8)==s)=false)/\((2:Int)<=4->([73,110,116]==s)=false)/\((3:Int)<=4->([66,111,111,108]==s)=false)/\((4:Int)<=4->([84,101,120,116]==s)=false)/\((5:Int)<=4->([65,110,121]==s)=false) from ⟨fun _=>HN.out.1 (by omega),fun _=>HN.out.2.1 (by omega),fun _=>HN.out.2.2.1 (by omega),fun _=>hq,fun h=>absurd h (by omega)⟩);go_wp2
    go_roundw
    case rel=>exact ⟨4,rfl,by omega,by omega,HN2,trivial⟩
    case measure=>simp[intOf]}
   {have HF:Hid (wordB s=true):=Y1 (by unfold wordB; rw[hq]; simp);go_wp2;go_ret;exact ⟨by rw[HF.out]; rfl,rfl⟩}}
  {cases hq: ([65,110,121]==s)
   {have HN2:Hid (NotYet s 5):=Y1 (show ((1:Int)<=5->(([]:List UInt8)==s)=false)/\((2:Int)<=5->([73,110,116]==s)=false)/\((3:Int)<=5->([66,111,111,108]==s)=false)/\((4:Int)<=5->([84,101,120,116]==s)=false)/\((5:Int)<=5->([65,110,121]==s)=false) from ⟨fun _=>HN.out.1 (by omega),fun _=>HN.out.2.1 (by omega),fun _=>HN.out.2.2.1 (by omega),fun _=>HN.out.2.2.2.1 (by omega),fun _=>hq⟩);go_wp2
    go_roundw
    case rel=>exact ⟨5,rfl,by omega,by omega,HN2,trivial⟩
    case measure=>simp[intOf]}
   {have HF:Hid (wordB s=true):=Y1 (by unfold wordB; rw[hq]; simp);go_wp2;go_ret;exact ⟨by rw[HF.out]; rfl,rfl⟩}}
  {have HF:Hid (wordB s=false):=Y1 (by
    unfold wordB;obtain ⟨h0,h1,h2,h3,h4⟩:=HN.out;rw[h0 (by omega),h1 (by omega),h2 (by omega),h3 (by omega),h4 (by omega)]; rfl)
   go_wp2;go_ret;exact ⟨by rw[HF.out]; rfl,rfl⟩}
theorem Z0h {l:List UInt8} {b:Bool} (h: (l== [])=b):l.isEmpty=b:=by cases l <;> simp_all
theorem Z0R {l:List (List UInt8)}: ((l.length:Int)==0)=decide (l.length=0):=by rw[Bool.eq_iff_iff]; simp
theorem Z6h (t:Sh) (q:Ptr) (w:World) (hq:ShAt w w.heap.size q t) (hk:t.kind=9\/t.kind=10):
 Calls Tryd.prog 56 #[.agg (Y8 t q)] w
  fun e w'=>e= .returned (.bool (fits t))/\Below w.heap.size w w':=by
 have HS:=Y1 hq.small;have hB:=Z03 w t q;have HB:=Y1 hB;have hb0:=Z01 w (.cells (Y8 t q) 25);have HB0:=Y1 hb0;have HF:=Y1 (Z1u hk);have HO:Hid (ofOk t=(Lex.isName t.of_||(t.of_== []&&decide (t.kind=9)&& !plain t.name))):=Y1 rfl;have HPL:Hid (plain t.name=(t.name== [73,110,116]||t.name== [66,111,111,108]||t.name== [84,101,120,116]||t.name== [65,110,121])):=Y1 rfl;obtain ⟨h9,h10⟩: ((t.kind==9)=true\/(t.kind==9)=false/\(t.kind==10)=true)/\True:=⟨by rcases hk with h | h <;> simp[h],trivial⟩;have HD9:Hid (decide (t.kind=9)=(t.kind==9)):=Y1 (by rw[Bool.eq_iff_iff]; simp);clear hB hb0 hq h10 hk;rcases h9 with h9 | ⟨h9,h10⟩
 all_goals
  have H9:=Y1 h9;go_enter Tryd.func56,Tryd.ntmps56
  go_upto_region 1 with fail
  generalize hW0:w.alloc (.cells (Y8 t q) 25)=W0 at HB HB0 ⊢;clear hW0;obtain ⟨_,⟨c0,c1,c2,c3,c4⟩,_⟩:=HB.out
  go_upto_region 2 with fail
  go_cut [3] (fun p wx=>p= .bool (plain t.name)/\W0=wx)
  case first=>
   cases e1: (t.name== [73,110,116])
   {cases e2: (t.name== [66,111,111,108])
    {cases e3: (t.name== [84,101,120,116])
     {cases e4: (t.name== [65,110,121])
      all_goals
       have HE:Hid _:=Y1 (show plain t.name=_ from by rw[HPL.out,e1,e2,e3,e4])
       go_wp2_with fail
       go_meet
       exact ⟨by rw[HE.out]; rfl,rfl⟩}
     {have HE:Hid _:=Y1 (show plain t.name=_ from by rw[HPL.out,e1,e2,e3])
      go_wp2_with fail
      go_meet
      exact ⟨by rw[HE.out]; rfl,rfl⟩}}
    {have HE:Hid _:=Y1 (show plain t.name=_ from by rw[HPL.out,e1,e2])
     go_wp2_with fail
     go_meet
     exact ⟨by rw[HE.out]; rfl,rfl⟩}}
   {have HE:Hid _:=Y1 (show plain t.name=_ from by rw[HPL.out,e1])
    go_wp2_with fail
    go_meet
    exact ⟨by rw[HE.out]; rfl,rfl⟩}
  case rest=>
   obtain ⟨rfl,rfl⟩:=hcut;have hlo:=HS.out.o;have hln:=HS.out.n;generalize plain t.name=pl at HO ⊢
   go_upto_region 3 with fail
   go_cut [4] (fun o wx=>o= .bool (ofOk t)/\Below W0.heap.size W0 wx)
   case first=>
    have hw:=Z2y t.of_ hlo W0;have hblk:=HB.out.1;cases hn:Lex.isName t.of_
    {cases ho: (t.of_== [])
     {have HE:Hid (ofOk t=false):=Y1 (by rw[HO.out,hn,ho]; rfl);have hoe:=Z0h ho;rw[hn] at hw;clear hn ho
      go_wp2_with fail
      refine hw.mono ?_;rintro e w' ⟨rfl,hb'⟩;have c1':=(hb'.cell (p:=⟨w.heap.size,1,none⟩) hblk).trans c1
      go_wp2_with fail
      go_meet
      exact ⟨by (first | (rw[HE.out]; done) | (rw[HE.out]; rfl)),hb'⟩}
     {have HE:Hid (ofOk t=((t.kind==9)&& !pl)):=Y1 (by rw[HO.out,hn,ho,HD9.out]; rfl);rw[H9.out] at HE;have hoe:=Z0h ho;rw[hn] at hw;clear hn ho
      go_wp2_with fail
      refine hw.mono ?_;rintro e w' ⟨rfl,hb'⟩;have c1':=(hb'.cell (p:=⟨w.heap.size,1,none⟩) hblk).trans c1;have c0':=(hb'.cell (p:=⟨w.heap.size,0,none⟩) hblk).trans c0
      go_wp2_with fail
      go_meet
      exact ⟨by (first | (rw[HE.out]; done) | (rw[HE.out]; rfl)),hb'⟩}}
    {have HE:Hid (ofOk t=true):=Y1 (by rw[HO.out,hn]; rfl);rw[hn] at hw;clear hn
     go_wp2_with fail
     refine hw.mono ?_;rintro e w' ⟨rfl,hb'⟩
     go_wp2_with fail
     go_meet
     exact ⟨by (first | (rw[HE.out]; done) | (rw[HE.out]; rfl)),hb'⟩}
   case rest=>
    obtain ⟨rfl,hb'⟩:=hcut;have hbw:Below w.heap.size w _:=HB0.out.trans (hb'.mono HB0.out.size);obtain ⟨_,⟨d0,d1,d2,d3,d4⟩,_⟩:=HB.out.next hb';clear c0 c1 c2 c3 c4;have hw:=fun wx=>Z6a t.name hln wx;have hblk:=HB.out.1;generalize ofOk t=ok at HF ⊢;cases hn:Lex.isUpper t.name
    {rw[hn] at HF;simp only[hn] at hw;clear hn
     go_wp2_with fail
     refine (hw _).mono ?_;rintro e w' ⟨rfl,hb2⟩;go_wp2;go_ret;exact ⟨by rw[HF.out]; rfl,hbw.trans (hb2.mono hbw.size)⟩}
    {rw[hn] at HF;simp only[hn] at hw;clear hn;cases ok
     {go_wp2_with fail
      refine (hw _).mono ?_;rintro e w' ⟨rfl,hb2⟩;go_wp2;go_ret;exact ⟨by rw[HF.out]; rfl,hbw.trans (hb2.mono hbw.size)⟩}
     {have HX:=Y1 (HB.out.next hb');cases hz:decide (t.names.length=0)
      {have HF2:=HF;rw[hz] at HF2;have hz2: ((t.names.length:Int)==0)=false:=by rw[Z0R]; exact hz
       have HZ:=Y1 hz;clear hz
       go_wp2_with fail
       refine (hw _).mono ?_;rintro e w' ⟨rfl,hb2⟩;obtain ⟨_,⟨e0,e1,e2,e3,e4⟩,_⟩:=HX.out.next hb2;go_wp2;go_ret;exact ⟨by rw[HF2.out]; rfl,hbw.trans (hb2.mono hbw.size)⟩}
      {have HF2:=HF;rw[hz] at HF2;have hz2: ((t.names.length:Int)==0)=true:=by rw[Z0R]; exact hz
       clear hz
       go_wp2_with fail
       refine (hw _).mono ?_;rintro e w' ⟨rfl,hb2⟩;obtain ⟨_,⟨e0,e1,e2,e3,e4⟩,_⟩:=HX.out.next hb2;go_wp2;go_ret;exact ⟨Z08 (by rw[HF2.out,Bool.eq_iff_iff]; simp),hbw.trans (hb2.mono hbw.size)⟩}}}
end
end Go.Proofs.YthajhofgjhfjeaaDoor
namespace Shp
def nameOk (t:Sh) (wordB:List UInt8->Bool):Bool:=if t.of_= [] then Lex.isUpper t.name&& !wordB t.name else Lex.isName t.of_&&Lex.isUpper t.name
section
variable {t : Sh}
include t
theorem Z7n (h1:1<=t.kind) (h2:t.kind<=4):fits t=(bare t&&decide (t.names.length=0)&&decide (t.parts.length=0)):=by
 cases hb:bare t with
 | false=>rw[Z0G (by omega) hb]; rfl
 | true=>
  by_cases hz:0 < t.names.length
  {rw[Z16 (by omega) hb (by omega) hz,decide_eq_false (p:=t.names.length=0) (by omega)]; rfl}
  {rw[Z1Q hb (by omega) (by omega) hz (by omega) (by omega),decide_eq_true h1,decide_eq_true h2,decide_eq_true (p:=t.names.length=0) (by omega)]}
theorem Z7o (h:t.kind=5):fits t=(bare t&&decide (t.names.length=0)&&decide (t.parts.length=1)):=by
 cases hb:bare t with
 | false=>rw[Z0G (by omega) hb]; rfl
 | true=>
  by_cases hz:0 < t.names.length
  {rw[Z16 (by omega) hb (by omega) hz,decide_eq_false (p:=t.names.length=0) (by omega)]; rfl}
  {rw[Z2S hb h hz,decide_eq_true (p:=t.names.length=0) (by omega)]; rfl}
theorem Z8x (h:t.kind=8):fits t=(bare t&&decide (t.names.length=0)&&decide (0 < t.parts.length)):=by
 cases hb:bare t with
 | false=>rw[Z0G (by omega) hb]; rfl
 | true=>
  by_cases hz:0 < t.names.length
  {rw[Z16 (by omega) hb (by omega) hz,decide_eq_false (p:=t.names.length=0) (by omega)]; rfl}
  {rw[Z3s hb h hz,decide_eq_true (p:=t.names.length=0) (by omega)]; rfl}
theorem Z8y (h:t.kind=6\/t.kind=7):fits t=(bare t&&decide (t.names.length=t.parts.length)&&areNames t.names):=by
 cases hb:bare t with
 | false=>rw[Z0G (by omega) hb]; rfl
 | true=>rw[Z3r hb h,Bool.true_and,Bool.and_comm]
theorem Z8z (h:t.kind < 1\/10 < t.kind):fits t=false:=by
 cases hb:bare t with
 | false=>rw[Z0G (by omega) hb]
 | true=>
  by_cases hz:0 < t.names.length
  {rw[Z16 (by omega) hb (by omega) hz]}
  {rw[Z1Q hb (by omega) (by omega) hz (by omega) (by omega)];rcases h with h | h
   {rw[decide_eq_false (by omega)]; rfl}
   {rw[decide_eq_false (p:=t.kind<=4) (by omega),Bool.and_false]; rfl}}
theorem Z6i (h:t.kind=10):fits t=(Lex.isName t.of_&&Lex.isUpper t.name&&decide (t.names.length=0)&&decide (t.parts.length=0)):=by
 rw[Z1u (Or.inr h)];unfold ofOk;rw[h,show decide ((10:Int)=9)=false from rfl,Bool.and_false,Bool.false_and,Bool.or_false,Bool.and_comm (Lex.isUpper t.name)]
end
end Shp
namespace Go.Proofs.YthajhofgjhfjeaaDoor
open Go.RowKit Shp
theorem Z8A:Lex.isUpper []=false:=rfl
theorem Z6j {s:List UInt8} (h:Lex.isUpper s=true):wordB s=plain s:=by
 have h0: ([]==s)=false:=by
  cases s with
  | nil=>rw[Z8A] at h; cases h
  | cons a l=>rfl
 have c: ∀a b:List UInt8,(a==b)=(b==a):=fun a b=>by rw[Bool.eq_iff_iff,beq_iff_eq,beq_iff_eq]; exact eq_comm
 unfold wordB plain;rw[h0,Bool.false_or,c [73,110,116],c [66,111,111,108],c [84,101,120,116],c [65,110,121]]
theorem Z7p {t:Sh} (h:t.kind=9):fits t=(nameOk t wordB&&decide (t.names.length=0)&&decide (t.parts.length=0)):=by
 rw[Z1u (Or.inl h)];congr 2;unfold ofOk nameOk;rw[h,show decide ((9:Int)=9)=true from rfl,Bool.and_true];by_cases ho:t.of_= []
 {rw[if_pos ho,ho];cases hu:Lex.isUpper t.name with
  | false=>rfl
  | true=>rw[Z6j hu]; rfl}
 {rw[if_neg ho,show (t.of_== [])=false from beq_eq_false_iff_ne.2 ho,Bool.false_and,Bool.or_false,Bool.and_comm]}
theorem Z2Z (t:Sh) (q:Ptr) (w:World):
 Y9 57 #[.agg (Y8 t q)] w (.bool (bare t)):=by
 have HB:Hid (bare t=(t.of_== []&&t.name== [])):=Y1 rfl;have hb0:=Z01 w (.cells (Y8 t q) 25);have HB0:=Y1 hb0;clear hb0;obtain ⟨_,⟨c0,c1,c2,c3,c4⟩,_⟩:=Z03 w t q;cases h1: (t.of_== [])
 {have hoe:=Z0h h1;have HF:Hid (bare t=false):=Y1 (by rw[HB.out,h1]; rfl);clear h1;go_enter Tryd.func57,Tryd.ntmps57;go_wp2;go_ret;exact ⟨by rw[HF.out]; rfl,HB0.out⟩}
 {have hoe:=Z0h h1;cases h2: (t.name== [])
  all_goals
   have hne:=Z0h h2;have HF:Hid _:=Y1 (show bare t=_ from by rw[HB.out,h1,h2]);clear h1 h2;go_enter Tryd.func57,Tryd.ntmps57;go_wp2;go_ret;exact ⟨Z08 (by rw[HF.out]; rfl),HB0.out⟩}
theorem Z6k (t:Sh) (q:Ptr) (w:World) (hs:Small t q) (hg:WGlobs w):
 Y9 59 #[.agg (Y8 t q)] w (.bool (nameOk t wordB)):=by
 have HS:=Y1 hs;have HB:Hid (nameOk t wordB=if t.of_= [] then Lex.isUpper t.name&& !wordB t.name else Lex.isName t.of_&&Lex.isUpper t.name):=Y1 rfl;have hb0:=Z01 w (.cells (Y8 t q) 25);have hu:=fun W=>Z3l t.name HS.out.n W;have hn:=fun W=>Z1G t.of_ HS.out.o W;have hw:=Z5l t.name _ (hg.next hb0);have HB0:=Y1 hb0;clear hb0 hg hs;obtain ⟨_,⟨c0,c1,c2,c3,c4⟩,_⟩:=Z03 w t q;cases h1: (t.of_== [])
 {have hoe:=Z0h h1;have HF:Hid (nameOk t wordB=(Lex.isName t.of_&&Lex.isUpper t.name)):=Y1 (by rw[HB.out,if_neg (by simpa using h1)]);clear h1;cases h2:Lex.isName t.of_
  all_goals
   rw[h2] at HF;simp only[h2] at hn;clear h2;go_enter Tryd.func59,Tryd.ntmps59
   go_wp2_with fail
   refine (hn _).mono ?_;rintro e w' ⟨rfl,rfl⟩
  {go_wp2;go_ret;exact ⟨by rw[HF.out]; rfl,HB0.out⟩}
  {go_wp2_with fail
   refine (hu _).mono ?_;rintro e w' ⟨rfl,rfl⟩;go_wp2;go_ret;exact ⟨Z08 (by rw[HF.out]; rfl),HB0.out⟩}}
 {have hoe:=Z0h h1;have HF:Hid (nameOk t wordB=(Lex.isUpper t.name&& !wordB t.name)):=Y1 (by rw[HB.out,if_pos (by simpa using h1)]);clear h1;cases h2:Lex.isUpper t.name
  all_goals
   rw[h2] at HF;simp only[h2] at hu;clear h2;go_enter Tryd.func59,Tryd.ntmps59
   go_wp2_with fail
   refine (hu _).mono ?_;rintro e w' ⟨rfl,rfl⟩
  {go_wp2;go_ret;exact ⟨by rw[HF.out]; rfl,HB0.out⟩}
  {go_wp2_with fail
   refine hw.mono ?_;rintro e w' ⟨rfl,rfl⟩;go_wp2;go_ret;exact ⟨Z08 (by rw[HF.out]; rfl),HB0.out⟩}}
theorem Z6D {a b:Nat}: ((a:Int)==(b:Int))=decide (a=b):=by rw[Bool.eq_iff_iff,beq_iff_eq,decide_eq_true_eq]; omega
theorem Z0e {k n:Int} (m:Int) (h:k=n) (e: (n==m)=true): (k==m)=true:=by rw[h]; exact e
theorem Z0b {k n:Int} (m:Int) (h:k=n) (e: (n==m)=false): (k==m)=false:=by rw[h]; exact e
section
variable (t : Sh) (q : Ptr) (w : World) (hq : ShAt w w.heap.size q t) (hg : WGlobs w)
include t q w hq hg
theorem Z9z (hk:t.kind=1\/t.kind=2\/t.kind=3\/t.kind=4\/t.kind=5\/t.kind=8):
 Y9 44 #[.agg (Y8 t q)] w (.bool (fits t)):=by
 have HS:=Y1 hq.small;have HA:=Y1 hq.strs;have hB:=Z03 w t q;have HB:=Y1 hB;have hb0:=Z01 w (.cells (Y8 t q) 25);have HB0:=Y1 hb0;have HG:=Y1 (hg.next hb0);obtain ⟨_,⟨c0,c1,c2,c3,c4⟩,_⟩:=hB;rcases hk with hk | hk | hk | hk | hk | hk
 all_goals
  first | have k1:=Z0e 1 hk rfl | have k1:=Z0b 1 hk rfl
  first | have k2:=Z0e 2 hk rfl | have k2:=Z0b 2 hk rfl
  first | have k3:=Z0e 3 hk rfl | have k3:=Z0b 3 hk rfl
  first | have k4:=Z0e 4 hk rfl | have k4:=Z0b 4 hk rfl
  first | have k5:=Z0e 5 hk rfl | have k5:=Z0b 5 hk rfl
  first | have k6:=Z0e 6 hk rfl | have k6:=Z0b 6 hk rfl
  first | have k7:=Z0e 7 hk rfl | have k7:=Z0b 7 hk rfl
  first | have k8:=Z0e 8 hk rfl | have k8:=Z0b 8 hk rfl
  first | have k9:=Z0e 9 hk rfl | have k9:=Z0b 9 hk rfl
  first | have k10:=Z0e 10 hk rfl | have k10:=Z0b 10 hk rfl
  first | have HF:=Y1 (Z7o hk) | have HF:=Y1 (Z8x hk) | have HF:=Y1 (Z7n (t:=t) (by omega) (by omega))
  have hc:=Z2Z t q (w.alloc (.cells (Y8 t q) 25));clear hk hg hq hb0;cases hb:bare t
  {rw[hb] at hc HF;clear hb;go_enter Tryd.func44,Tryd.ntmps44
   go_wp2_with fail
   refine hc.mono ?_;rintro e w' ⟨rfl,hb'⟩;go_wp2;go_ret;exact ⟨by rw[HF.out]; rfl,Z00 HB0.out hb'⟩}
  {rw[hb] at hc HF;clear hb;cases hz:decide (t.names.length=0)
   {rw[hz] at HF;have hz2: ((t.names.length:Int)==0)=false:=by rw[Z0R]; exact hz
    clear hz;go_enter Tryd.func44,Tryd.ntmps44
    go_wp2_with fail
    refine hc.mono ?_;rintro e w' ⟨rfl,hb'⟩;obtain ⟨_,⟨c0,c1,c2,c3,c4⟩,_⟩:=HB.out.next hb';go_wp2;go_ret;exact ⟨by rw[HF.out]; rfl,Z00 HB0.out hb'⟩}
   {rw[hz] at HF;have hz2: ((t.names.length:Int)==0)=true:=by rw[Z0R]; exact hz
    clear hz;go_enter Tryd.func44,Tryd.ntmps44
    go_wp2_with fail
    refine hc.mono ?_;rintro e w' ⟨rfl,hb'⟩;obtain ⟨_,⟨c0,c1,c2,c3,c4⟩,_⟩:=HB.out.next hb';go_wp2;go_ret;exact ⟨Z08 (by rw[HF.out,Bool.eq_iff_iff]; simp; try omega),Z00 HB0.out hb'⟩}}
theorem Z9A (hk:t.kind=6\/t.kind=7) (hz:t.parts.length<=1000000):
 Y9 44 #[.agg (Y8 t q)] w (.bool (fits t)):=by
 have HS:=Y1 hq.small;have HA:=Y1 hq.strs;have hB:=Z03 w t q;have HB:=Y1 hB;have hb0:=Z01 w (.cells (Y8 t q) 25);have HB0:=Y1 hb0;have HG:=Y1 (hg.next hb0);have HZ:=Y1 hz;clear hz;obtain ⟨_,⟨c0,c1,c2,c3,c4⟩,_⟩:=hB;rcases hk with hk | hk
 all_goals
  first | have k1:=Z0e 1 hk rfl | have k1:=Z0b 1 hk rfl
  first | have k2:=Z0e 2 hk rfl | have k2:=Z0b 2 hk rfl
  first | have k3:=Z0e 3 hk rfl | have k3:=Z0b 3 hk rfl
  first | have k4:=Z0e 4 hk rfl | have k4:=Z0b 4 hk rfl
  first | have k5:=Z0e 5 hk rfl | have k5:=Z0b 5 hk rfl
  first | have k6:=Z0e 6 hk rfl | have k6:=Z0b 6 hk rfl
  first | have k7:=Z0e 7 hk rfl | have k7:=Z0b 7 hk rfl
  first | have k8:=Z0e 8 hk rfl | have k8:=Z0b 8 hk rfl
  first | have k9:=Z0e 9 hk rfl | have k9:=Z0b 9 hk rfl
  first | have k10:=Z0e 10 hk rfl | have k10:=Z0b 10 hk rfl
  have HF:=Y1 (Z8y (t:=t) (by first | exact Or.inl hk | exact Or.inr hk));have hc:=Z2Z t q (w.alloc (.cells (Y8 t q) 25));clear hk hg hq hb0;cases hb:bare t
  {rw[hb] at hc HF;clear hb;go_enter Tryd.func44,Tryd.ntmps44
   go_wp2_with fail
   refine hc.mono ?_;rintro e w' ⟨rfl,hb'⟩;go_wp2;go_ret;exact ⟨by rw[HF.out]; rfl,Z00 HB0.out hb'⟩}
  {rw[hb] at hc HF;clear hb;cases hz:decide (t.names.length=t.parts.length)
   {rw[hz] at HF;have hz2: ((t.names.length:Int)==(t.parts.length:Int))=false:=by rw[Z6D]; exact hz
    clear hz;go_enter Tryd.func44,Tryd.ntmps44
    go_wp2_with fail
    refine hc.mono ?_;rintro e w' ⟨rfl,hb'⟩;obtain ⟨_,⟨c0,c1,c2,c3,c4⟩,_⟩:=HB.out.next hb';go_wp2;go_ret;exact ⟨by rw[HF.out]; rfl,Z00 HB0.out hb'⟩}
   {rw[hz] at HF;have hz2: ((t.names.length:Int)==(t.parts.length:Int))=true:=by rw[Z6D]; exact hz
    clear hz;have hlen:t.names.length<=1000000:=by have:=HZ.out; have h2:=beq_iff_eq.1 hz2; omega
    have HA0:=HA.out.next HB0.out;go_enter Tryd.func44,Tryd.ntmps44
    go_wp2_with fail
    refine hc.mono ?_;rintro e w1 ⟨rfl,hb'⟩;have hn:=Z6g q.A q.c t.names w1 (HA0.next hb') hlen HS.out.ns;obtain ⟨_,⟨c0,c1,c2,c3,c4⟩,_⟩:=HB.out.next hb';have hbw:=Z00 HB0.out hb';clear hc hb' HA0
    go_wp2_with fail
    refine hn.mono ?_;rintro e w' ⟨rfl,hb2⟩;go_wp2;go_ret;exact ⟨Z08 (by rw[HF.out]; rfl),Z00 hbw hb2⟩}}
theorem Z9B (hk:t.kind=9):
 Y9 44 #[.agg (Y8 t q)] w (.bool (fits t)):=by
 have HS:=Y1 hq.small;have HA:=Y1 hq.strs;have hB:=Z03 w t q;have HB:=Y1 hB;have hb0:=Z01 w (.cells (Y8 t q) 25);have HB0:=Y1 hb0;have HG:=Y1 (hg.next hb0);obtain ⟨_,⟨c0,c1,c2,c3,c4⟩,_⟩:=hB;have k1:=Y3 1 hk rfl;have k2:=Y3 2 hk rfl;have k3:=Y3 3 hk rfl;have k4:=Y3 4 hk rfl;have k5:=Y3 5 hk rfl;have k6:=Y3 6 hk rfl;have k7:=Y3 7 hk rfl;have k8:=Y3 8 hk rfl;have k9:=Y4 9 hk rfl;have k10:=Y3 10 hk rfl;have HF:=Y1 (Z7p hk);have hc:=Z6k t q (w.alloc (.cells (Y8 t q) 25)) HS.out HG.out;clear hk hg hq hb0;cases hb:nameOk t wordB
 {rw[hb] at hc HF;clear hb;go_enter Tryd.func44,Tryd.ntmps44
  go_wp2_with fail
  refine hc.mono ?_;rintro e w' ⟨rfl,hb'⟩;go_wp2;go_ret;exact ⟨by rw[HF.out]; rfl,Z00 HB0.out hb'⟩}
 {rw[hb] at hc HF;clear hb;cases hz:decide (t.names.length=0)
  {rw[hz] at HF;have hz2: ((t.names.length:Int)==0)=false:=by rw[Z0R]; exact hz
   clear hz;go_enter Tryd.func44,Tryd.ntmps44
   go_wp2_with fail
   refine hc.mono ?_;rintro e w' ⟨rfl,hb'⟩;obtain ⟨_,⟨c0,c1,c2,c3,c4⟩,_⟩:=HB.out.next hb';go_wp2;go_ret;exact ⟨by rw[HF.out]; rfl,Z00 HB0.out hb'⟩}
  {rw[hz] at HF;have hz2: ((t.names.length:Int)==0)=true:=by rw[Z0R]; exact hz
   clear hz;go_enter Tryd.func44,Tryd.ntmps44
   go_wp2_with fail
   refine hc.mono ?_;rintro e w' ⟨rfl,hb'⟩;obtain ⟨_,⟨c0,c1,c2,c3,c4⟩,_⟩:=HB.out.next hb';go_wp2;go_ret;exact ⟨Z08 (by rw[HF.out,Bool.eq_iff_iff]; simp; try omega),Z00 HB0.out hb'⟩}}
theorem Z9g (hk:t.kind=10):
 Y9 44 #[.agg (Y8 t q)] w (.bool (fits t)):=by
 have HS:=Y1 hq.small;have HA:=Y1 hq.strs;have hB:=Z03 w t q;have HB:=Y1 hB;have hb0:=Z01 w (.cells (Y8 t q) 25);have HB0:=Y1 hb0;have HG:=Y1 (hg.next hb0);obtain ⟨_,⟨c0,c1,c2,c3,c4⟩,_⟩:=hB;have k1:=Y3 1 hk rfl;have k2:=Y3 2 hk rfl;have k3:=Y3 3 hk rfl;have k4:=Y3 4 hk rfl;have k5:=Y3 5 hk rfl;have k6:=Y3 6 hk rfl;have k7:=Y3 7 hk rfl;have k8:=Y3 8 hk rfl;have k9:=Y3 9 hk rfl;have k10:=Y4 10 hk rfl;have HF:=Y1 (Z6i hk);have hn:=fun W=>Z1G t.of_ HS.out.o W;have hu:=fun W=>Z3l t.name HS.out.n W;clear hk hg hq hb0;cases h1:Lex.isName t.of_
 {rw[h1] at HF;simp only[h1] at hn;clear h1;go_enter Tryd.func44,Tryd.ntmps44
  go_wp2_with fail
  refine (hn _).mono ?_;rintro e w' ⟨rfl,rfl⟩;go_wp2;go_ret;exact ⟨by rw[HF.out]; rfl,HB0.out⟩}
 {rw[h1] at HF;simp only[h1] at hn;clear h1;cases h2:Lex.isUpper t.name
  {rw[h2] at HF;simp only[h2] at hu;clear h2;go_enter Tryd.func44,Tryd.ntmps44
   go_wp2_with fail
   refine (hn _).mono ?_;rintro e w' ⟨rfl,rfl⟩
   go_wp2_with fail
   refine (hu _).mono ?_;rintro e w' ⟨rfl,rfl⟩;go_wp2;go_ret;exact ⟨by rw[HF.out]; rfl,HB0.out⟩}
  {rw[h2] at HF;simp only[h2] at hu;clear h2;cases hz:decide (t.names.length=0)
   all_goals
    rw[hz] at HF;have hz2:=hz;rw[<-Z0R] at hz2;clear hz;go_enter Tryd.func44,Tryd.ntmps44
    go_wp2_with fail
    refine (hn _).mono ?_;rintro e w' ⟨rfl,rfl⟩
    go_wp2_with fail
    refine (hu _).mono ?_;rintro e w' ⟨rfl,rfl⟩;go_wp2;go_ret;exact ⟨Z08 (by rw[HF.out,Bool.eq_iff_iff]; simp),HB0.out⟩}}
theorem Z7q (hk:t.kind < 1\/10 < t.kind):
 Y9 44 #[.agg (Y8 t q)] w (.bool (fits t)):=by
 have HS:=Y1 hq.small;have HA:=Y1 hq.strs;have hB:=Z03 w t q;have HB:=Y1 hB;have hb0:=Z01 w (.cells (Y8 t q) 25);have HB0:=Y1 hb0;have HG:=Y1 (hg.next hb0);obtain ⟨_,⟨c0,c1,c2,c3,c4⟩,_⟩:=hB;have k1: (t.kind==1)=false:=by rw[beq_eq_false_iff_ne]; omega
 have k2: (t.kind==2)=false:=by rw[beq_eq_false_iff_ne]; omega
 have k3: (t.kind==3)=false:=by rw[beq_eq_false_iff_ne]; omega
 have k4: (t.kind==4)=false:=by rw[beq_eq_false_iff_ne]; omega
 have k5: (t.kind==5)=false:=by rw[beq_eq_false_iff_ne]; omega
 have k6: (t.kind==6)=false:=by rw[beq_eq_false_iff_ne]; omega
 have k7: (t.kind==7)=false:=by rw[beq_eq_false_iff_ne]; omega
 have k8: (t.kind==8)=false:=by rw[beq_eq_false_iff_ne]; omega
 have k9: (t.kind==9)=false:=by rw[beq_eq_false_iff_ne]; omega
 have k10: (t.kind==10)=false:=by rw[beq_eq_false_iff_ne]; omega
 have HF:=Y1 (Z8z hk);clear hk hg hq hb0;go_enter Tryd.func44,Tryd.ntmps44;go_wp2;go_ret;exact ⟨by rw[HF.out]; rfl,HB0.out⟩
theorem Z7r (hz:t.parts.length<=1000000):
 Y9 44 #[.agg (Y8 t q)] w (.bool (fits t)):=by
 by_cases h:t.kind < 1\/10 < t.kind
 {exact Z7q t q w hq hg h}
 {have:t.kind=1\/t.kind=2\/t.kind=3\/t.kind=4\/t.kind=5\/t.kind=6\/t.kind=7\/t.kind=8\/t.kind=9\/t.kind=10:=by omega
  rcases this with h | h | h | h | h | h | h | h | h | h
  case inr.inr.inr.inr.inr.inr.inr.inr.inl=>exact Z9B t q w hq hg h
  case inr.inr.inr.inr.inr.inr.inr.inr.inr=>exact Z9g t q w hq hg h
  all_goals first | exact Z9z t q w hq hg (by omega) | exact Z9A t q w hq hg (by omega) hz}
end
end Go.Proofs.YthajhofgjhfjeaaDoor
namespace Go.Proofs.YthajhofgjhfjeaaDoor
section
open Go.RowKit Shp
def Z0o (p:Sh->Bool) (l:List Sh):Int:=match l.findIdx? p with
 | some i=>(i:Int)
 | none=> -1
theorem Z4t {p:Sh->Bool} {l:List Sh} {i:Nat} (hi:i < l.length) (h:p (l[i]'hi)=true) (hn: ∀j (hj:j < l.length),j < i->p (l[j]'hj)=false):Z0o p l=(i:Int):=by
 have:l.findIdx? p=some i:=List.findIdx?_eq_some_iff_getElem.2 ⟨hi,h,fun j hj=>by rw[hn j (by omega) hj]; simp⟩;unfold Z0o; rw[this]
theorem Z3m {p:Sh->Bool} {l:List Sh} (hn: ∀j (hj:j < l.length),p (l[j]'hj)=false):Z0o p l= -1:=by
 have:l.findIdx? p=none:=List.findIdx?_eq_none_iff.2 (fun x hx=>by
  obtain ⟨j,hj,rfl⟩:=List.getElem_of_mem hx;exact hn j hj)
 unfold Z0o; rw[this]
theorem Z44 (p:Sh->Bool) (l:List Sh):decide (0<=Z0o p l)=l.any p:=by
 unfold Z0o;cases h:l.findIdx? p with
 | some i=>
  obtain ⟨hi,hp,_⟩:=List.findIdx?_eq_some_iff_getElem.1 h;show decide ((0:Int)<=(i:Int))=_;rw[decide_eq_true (by omega)];exact (List.any_eq_true.2 ⟨_,List.getElem_mem hi,hp⟩).symm
 | none=>
  have:=List.findIdx?_eq_none_iff.1 h;show false=_;symm;rw[List.any_eq_false];intro x hx; rw[this x hx]; simp
theorem Z4u (p:Sh->Bool) (l:List Sh): -1<=Z0o p l:=by
 unfold Z0o;cases l.findIdx? p with
 | some i=>show (-1:Int)<=(i:Int); omega
 | none=>show (-1:Int)<= -1; omega
theorem Z4E (l:List Sh):l.any (fun p=> !right p)= !rights l:=by
 rw[Z1b];induction l with
 | nil=>rfl
 | cons a l ih=>simp[ih]
section
variable (P : Option Addr) (d : Nat) (l : List Sh) (g off : Nat) (qs : Nat -> Ptr) (w : World) (hl : l.length <= 1000000) (hp : l.length = 0 \/ P = some ⟨g, off, none⟩ /\ g < w.heap.size /\ (∀ i (h : i < l.length), Sh5 w g (off + i * 5) (l[i]'h) (qs i)) /\ ∀ i (h : i < l.length), ShAt w w.heap.size (qs i) (l[i]'h)) (hg : WGlobs w) (hf : ∀ x ∈ l, ∀ (q : Ptr) (w : World), ShAt w w.heap.size q x -> WGlobs w -> Y9 24 #[.agg (Y8 x q)] w (.bool (!right x)))
include P d l g off qs w hl hp hg hf
theorem Z8B:
 Y9 62 #[.slice P l.length d,.func (.func 24) #[] #[]] w (.int .i64 (Z0o (fun p=> !right p) l)):=by
 have HP:=Y1 hp;have HF:=Y1 hf;have HG:=Y1 hg;clear hg;clear hp hf;go_enter Tryd.func62,Tryd.ntmps62
 go_wp2_with fail
 go_loopw [8] (fun ii wr=> ∃i:Nat,ii= .int .i64 i/\i<=l.length/\Hid (∀j (h:j < l.length),j < i->(!right (l[j]'h))=false)/\Below w.heap.size w wr) (fun i _=>l.length - (intOf i).toNat)
 case atStart=>exact ⟨0,rfl,Nat.zero_le _,Y1 (fun j _ hj=>absurd hj (by omega)),Below.refl _ _⟩
 case round=>
  obtain ⟨i,rfl,hi,HN,hb⟩:=hrel;by_cases hlt:i < l.length
  {rcases HP.out with h0 | ⟨rfl,hg,hc,hr⟩
   {omega}
   {obtain ⟨x,hx⟩: ∃x,x=l[i]'hlt:=⟨_,rfl⟩;obtain ⟨p0,p1,p2,p3,p4⟩:=(hc i hlt).keep hg hb;have hat:ShAt wr wr.heap.size (qs i) x:=by rw[hx]; exact (hr i hlt).next hb
    have ihx:=HF.out l[i] (List.getElem_mem _) (qs i) wr;rw[<-hx] at p0 p1 p2 p3 p4 ihx;have IH:=ihx hat (HG.out.next hb);have HX:=Y1 hx;clear hx hc hr hat ihx;have hi1: (i:Int) < (l.length:Int):=by omega
    cases hox: !right x with
    | true=>
     rw[hox] at IH;have HV:Hid (Z0o (fun p=> !right p) l=(i:Int)):=Y1 (Z4t hlt (by show (!right _)=true; rw[<-HX.out]; exact hox) (fun j hj hji=>HN.out j hj hji));clear hox
     go_wp2_with fail
     refine IH.mono ?_;rintro e w' ⟨rfl,hb'⟩;go_wp2;go_ret;exact ⟨Z0w HV.out.symm,Z00 hb hb'⟩
    | false=>
     rw[hox] at IH;have HO:=Y1 hox;clear hox
     go_wp2_with fail
     refine IH.mono ?_;rintro e w' ⟨rfl,hb'⟩;go_wp2
     go_roundw
     case rel=>exact ⟨i+1,by go_num,by omega,Y1 (fun j hj hji=>by
      rcases Nat.lt_succ_iff_lt_or_eq.1 hji with h | rfl
      {exact HN.out j hj h}
      · rw[<-HX.out]; exact HO.out),Z00 hb hb'⟩
     case measure=>simp[intOf]; omega}}
  {have hi1: ¬(i:Int) < (l.length:Int):=by omega
   have HV:Hid (Z0o (fun p=> !right p) l= -1):=Y1 (Z3m (fun j hj=>HN.out j hj (by omega)));go_wp2;go_ret;exact ⟨Z0w HV.out.symm,hb⟩}
theorem Z5m:
 Y9 45 #[.slice P l.length d,.func (.func 24) #[] #[]] w (.bool (l.any (fun p=> !right p))):=by
 have HI:=Z8B P d l g off qs w hl hp hg hf;have HV:=Y1 (Z44 (fun p=> !right p) l);have hge:=Z4u (fun p=> !right p) l;generalize Z0o (fun p=> !right p) l=r at HI HV hge;clear hp hf;go_enter Tryd.func45,Tryd.ntmps45
 go_wp2_with fail
 refine HI.mono ?_;rintro e w' ⟨rfl,hb'⟩;go_wp2;go_ret;exact ⟨Z08 HV.out,hb'⟩
end
theorem Z6E {w:World} {q:Ptr} {t:Sh} (h:ShAt w w.heap.size q t): ∃(g off:Nat) (qs:Nat->Ptr),t.parts.length=0\/q.P=some ⟨g,off,none⟩/\g < w.heap.size/\(∀i (h:i < t.parts.length),Sh5 w g (off+i * 5) (t.parts[i]'h) (qs i))/\ ∀i (h:i < t.parts.length),ShAt w w.heap.size (qs i) (t.parts[i]'h):=by
 rcases h.part with h0 | ⟨g,off,qs,h1,h2,h3,h4⟩
 {exact ⟨0,0,fun _=>q,Or.inl h0⟩}
 {exact ⟨g,off,qs,Or.inr ⟨h1,h2,h3,h4⟩⟩}
theorem Z5n (t:Sh): ∀(q:Ptr) (w:World),ShAt w w.heap.size q t->WGlobs w->size t<=1000000->
 Y9 24 #[.agg (Y8 t q)] w (.bool (!right t)):=by
 induction t using Sh.ind with
 | h t ih=>
 intro q w hq hg hz;have hpl:t.parts.length<=1000000:=by have:=Z0P t.parts; rw[size_eq] at hz; omega
 have hb0:=Z01 w (.cells (Y8 t q) 25);have hf:=Z7r t q _ (hq.next hb0) (hg.next hb0) hpl;have HC:=Y1 (fun W (h:Below w.heap.size w W)=>by
  obtain ⟨g,off,qs,h1⟩:=Z6E (hq.next h);exact Z5m q.P q.d t.parts g off qs W hpl h1 (hg.next h) (fun x hx q' w' hat hg'=>ih x hx q' w' hat hg' (by have:=Z1O hx; rw[size_eq] at hz; omega)))
 have HD:=Y1 (Z0Z t);have HA:=Y1 (Z4E t.parts);have HB0:=Y1 hb0;have HB:=Y1 (Z03 w t q);obtain ⟨_,⟨c0,c1,c2,c3,c4⟩,_⟩:=HB.out;clear hb0 hq hg hz hpl ih;cases hft:fits t
 {have HF:Hid (right t=false):=Y1 (by rw[HD.out,hft]; rfl);rw[hft] at hf;clear hft;go_enter Tryd.func24,Tryd.ntmps24
  go_wp2_with fail
  refine hf.mono ?_;rintro e w' ⟨rfl,hb'⟩;go_wp2;go_ret;exact ⟨by rw[HF.out]; rfl,Z00 HB0.out hb'⟩}
 {have HF:Hid ((!right t)=t.parts.any (fun p=> !right p)):=Y1 (by rw[HD.out,hft,HA.out]; rfl);rw[hft] at hf;clear hft;go_enter Tryd.func24,Tryd.ntmps24
  go_wp2_with fail
  refine hf.mono ?_;rintro e w1 ⟨rfl,hb'⟩;have hbw:=Z00 HB0.out hb';have hc:=HC.out w1 hbw;obtain ⟨_,⟨d0,d1,d2,d3,d4⟩,_⟩:=HB.out.next hb';clear hf c0 c1 c2 c3 c4 hb'
  go_wp2_with fail
  refine hc.mono ?_;rintro e w' ⟨rfl,hb2⟩;go_wp2;go_ret;exact ⟨Z08 HF.out.symm,Z00 hbw hb2⟩}
structure UpC (cb B:Nat) (w w':World):Prop where
 os:w'.os=w.os
 tape:w'.tape=w.tape
 output:w'.output=w.output
 size:w.heap.size<=w'.heap.size
 block: ∀k,k < B->k≠cb->w'.heap[k]? =w.heap[k]?
 c1:w'.cell? ⟨cb,1,none⟩=w.cell? ⟨cb,1,none⟩
 f0:w'.frozen? ⟨cb,0,none⟩=w.frozen? ⟨cb,0,none⟩
theorem UpC.refl (cb B:Nat) (w:World):UpC cb B w w:=⟨rfl,rfl,rfl,Nat.le_refl _,fun _ _ _=>rfl,rfl,rfl⟩
theorem UpC.trans {cb B:Nat} {a b c:World} (h:UpC cb B a b) (k:UpC cb B b c):UpC cb B a c:=
 ⟨k.os.trans h.os,k.tape.trans h.tape,k.output.trans h.output,Nat.le_trans h.size k.size,fun i hi hn=>(k.block i hi hn).trans (h.block i hi hn),k.c1.trans h.c1,k.f0.trans h.f0⟩
theorem UpC.mono {cb B B':Nat} {w w':World} (h:UpC cb B w w') (hB:B'<=B):UpC cb B' w w':=⟨h.os,h.tape,h.output,h.size,fun k hk=>h.block k (Nat.lt_of_lt_of_le hk hB),h.c1,h.f0⟩
theorem UpC.below {cb B:Nat} {a w w':World} (h:UpC cb B a w) (hb:Below B w w') (hc:cb < B):UpC cb B a w':=
 h.trans ⟨hb.os,hb.tape,hb.output,hb.size,fun k hk _=>hb.block k hk,hb.cell (p:=⟨cb,1,none⟩) hc,hb.frozen (p:=⟨cb,0,none⟩) hc⟩
theorem UpC.set {cb B:Nat} {a w:World} (h:UpC cb B a w) (v:Value):UpC cb B a (w.setCell ⟨cb,0,none⟩ v):=
 h.trans ⟨rfl,rfl,rfl,by simp[World.setCell],fun k hk hn=>Below.heap_setCell _ _ _ _ hn,by simp[go_sem],by simp[go_sem]⟩
theorem UpC.next {cb:Nat} {a b c:World} (h:UpC cb a.heap.size a b) (k:UpC cb b.heap.size b c):UpC cb a.heap.size a c:=h.trans (k.mono h.size)
theorem UpC.cell {cb B:Nat} {w w':World} (h:UpC cb B w w') {g k:Nat} (hg:g < B) (hn:g≠cb):w'.cell? ⟨g,k,none⟩=w.cell? ⟨g,k,none⟩:=World.cell?_of_block (w:=w) (h.block g hg hn)
theorem UpC.toBelow {cb B:Nat} {w w':World} (h:UpC cb B w w') (hB:B<=cb):Below B w w':=⟨h.os,h.tape,h.output,h.size,fun k hk=>h.block k hk (by omega)⟩
structure Cnt (w:World) (cb p m:Nat):Prop where
 lt:cb < w.heap.size
 c0:w.cell? ⟨cb,0,none⟩=some (.int .i64 (p:Int))
 c1:m=400
 f0:w.frozen? ⟨cb,0,none⟩=false
theorem Cnt.below {w w':World} {cb p m:Nat} (h:Cnt w cb p m) (hb:Below w.heap.size w w'):Cnt w' cb p m:=
 ⟨Nat.lt_of_lt_of_le h.lt hb.size,(hb.cell (p:=⟨cb,0,none⟩) h.lt).trans h.c0,h.c1,(hb.frozen (p:=⟨cb,0,none⟩) h.lt).trans h.f0⟩
theorem Cnt.set {w:World} {cb p m:Nat} (h:Cnt w cb p m) (n:Nat):Cnt (w.setCell ⟨cb,0,none⟩ (.int .i64 (n:Int))) cb n m:=
 ⟨by simpa[World.setCell] using h.lt,by simp[go_sem,h.c0],h.c1,by simp[go_sem,h.f0]⟩
theorem ShAt.upc {w w':World} {B C cb:Nat} {q:Ptr} {t:Sh} (h:ShAt w B q t) (hu:UpC cb C w w') (h1:B<=cb) (h2:B<=C):ShAt w' B q t:=
 h.of (Nat.le_refl _) (fun g k hg=>hu.cell (by omega) (by omega))
theorem Z4v (t:Sh): ∀(q:Ptr) (B cb p m:Nat) (w:World),ShAt w B q t->B<=cb->Cnt w cb p m->p+size t<=m->m<=1000000->
 Calls Tryd.prog 43 #[.pointer (some ⟨cb,0,none⟩),.agg (Y8 t q)] w
  fun e w'=>e= .returned (.int .i64 (deep t:Int))/\UpC cb w.heap.size w w'/\Cnt w' cb (p+size t) m:=by
 induction t using Sh.ind with
 | h t ih=>
 intro q B cb p m w hq hBc hc hpm hm;have HQ:=Y1 hq;have HM:=Y1 hq.small.m;have HP:=Y1 hq.part;have HD:Hid (deep t=deeps t.parts+1):=Y1 (Z0T t);have HZ:Hid (size t=1+sizes t.parts):=Y1 (size_eq t);have HDS:=Y1 (Z13 t);have HPM:Hid (p+size t<=m):=Y1 hpm;have hlt:p < m:=by have:=HZ.out; omega
 have hpe: ((p:Int)==400)=false:=by rw[beq_eq_false_iff_ne]; have:=hc.c1; omega
 have hpi: (p:Int)<=1000000:=by omega
 have hb0:=Z01 w (.cells (Y8 t q) 25);have HC:=Y1 hc;have hB:=Z03 w t q;have HB:=Y1 hB;have HC1:=Y1 (hc.below hb0);have HU:=Y1 ((UpC.refl cb w.heap.size w).below hb0 hc.lt);have hcl:=hc.lt;obtain ⟨_,k0,k1,k2⟩:=hc.below hb0;clear k1;clear hb0 hc hB hpm hq;have hne:w.heap.size≠cb:=by omega
 have hne2:cb≠w.heap.size:=by omega
 go_enter Tryd.func43,Tryd.ntmps43
 go_wp2_with fail
 obtain ⟨W0,hW0⟩: ∃W0,W0=(w.setCell ⟨cb,0,none⟩ (.int .i64 ((p:Int)+1))).alloc (.cells (Y8 t q) 25):=⟨_,rfl⟩;have hsz0:W0.heap.size=w.heap.size+1:=by rw[hW0]; simp[World.setCell]
 have hU0:UpC cb w.heap.size w W0:=by
  rw[hW0];exact ((UpC.refl cb w.heap.size w).set _).below ((Z01 _ _).mono (by simp[World.setCell])) hcl
 have hC0:Cnt W0 cb (p+1) m:=by
  rw[hW0];exact (HC.out.set (p+1)).below (Z01 _ _)
 have hB0:Box5 W0 w.heap.size t q:=by
  have e: (w.setCell ⟨cb,0,none⟩ (.int .i64 ((p:Int)+1))).heap.size=w.heap.size:=by simp[World.setCell]
  have h5:=Z03 (w.setCell ⟨cb,0,none⟩ (.int .i64 ((p:Int)+1))) t q;rw[e] at h5;rw[hW0]; exact h5
 have HU0:=Y1 hU0;have HC0:=Y1 hC0;have HB0:=Y1 hB0;clear hU0 hC0 hB0;rw[<-hW0];have HSZ:=Y1 hsz0;clear hW0 k0 k2 HU HC1 HB hsz0
 go_loopw [5,24] (fun dd ii wr=> ∃i:Nat,ii= .int .i64 i/\i<=t.parts.length/\dd= .int .i64 (deeps (t.parts.take i):Int)/\Hid (UpC cb W0.heap.size W0 wr)/\Hid (Cnt wr cb (p+1+sizes (t.parts.take i)) m)) (fun _ i _=>t.parts.length - (intOf i).toNat)
 case atStart=>exact ⟨0,rfl,Nat.zero_le _,rfl,Y1 (UpC.refl _ _ _),HC0⟩
 case round=>
  obtain ⟨i,rfl,hi,rfl,HUR,HCR⟩:=hrel;have hmm:=HM.out;have htk:=Z2n t.parts i;have hds:=HDS.out;have hd2:deeps t.parts<=1000000:=by have:=HD.out; have:=HPM.out; omega
  by_cases hlt:i < t.parts.length
  {rcases HP.out with h0 | ⟨g,off,qs,hqP,hg,hc,hr⟩
   {omega}
   {have hur:UpC cb w.heap.size w wr:=HU0.out.next HUR.out;obtain ⟨x,hx⟩: ∃x,x=t.parts[i]:=⟨_,rfl⟩;have hgw:g < w.heap.size:=by omega
    obtain ⟨p0,p1,p2,p3,p4⟩:=(hc i hlt).of (w':=wr) (fun k=>hur.cell hgw (by omega));have hbx:=Z01 wr (.cells (Y8 x (qs i)) 25);have hat:ShAt (wr.alloc (.cells (Y8 x (qs i)) 25)) B (qs i) x:=by
     rw[hx];exact ((hr i hlt).upc hur hBc (by omega)).keep (Z01 wr _) (by have:=hur.size; omega)
    have hcx:=HCR.out.below hbx;have HN:Hid (sizes (t.parts.take (i+1))=sizes (t.parts.take i)+size x):=Y1 (by rw[hx]; exact Z1a hlt);have HE:Hid (deeps (t.parts.take (i+1))=max (deeps (t.parts.take i)) (deep x)):=Y1 (by rw[hx]; exact Z2l hlt);have ihx:=ih t.parts[i] (List.getElem_mem _) (qs i) B cb (p+1+sizes (t.parts.take i)) m (wr.alloc (.cells (Y8 x (qs i)) 25));rw[<-hx] at p0 p1 p2 p3 p4 ihx;have hdx:deep x<=1000000:=by rw[hx]; exact Nat.le_trans (Z2N (List.getElem_mem _)) hd2
    have hbd:p+1+sizes (t.parts.take i)+size x<=m:=by
     have:=Z2m t.parts (i+1);have:=HN.out;have:=HPM.out;have:=HZ.out;omega
    have IH:=ihx hat hBc hcx hbd hm;have HBX:=Y1 (HB0.out);clear hx hc hr hat ihx hcx hbd hd2 hur hbx ih;have hi1: (i:Int) < (t.parts.length:Int):=by omega
    obtain ⟨a,ha⟩: ∃a,a=deeps (t.parts.take i):=⟨_,rfl⟩;rw[<-ha] at HE htk ⊢;clear ha;rw[hqP];clear hqP
    go_wp2_with fail
    refine IH.mono ?_;rintro e w2 ⟨rfl,hu2,hc2⟩;have HU2:Hid (UpC cb W0.heap.size W0 w2):=Y1 ((HUR.out.below ((Z01 wr _).mono HUR.out.size) (by have:=HSZ.out; omega)).trans (hu2.mono (by have:=HUR.out.size; simp; omega)));have HC2:Hid (Cnt w2 cb (p+1+sizes (t.parts.take (i+1))) m):=Y1 (by rw[HN.out, <-Nat.add_assoc]; exact hc2);clear hu2 hc2 IH;by_cases hgt: (a:Int) < (deep x:Int)
    all_goals
     go_wp2
     go_roundw
     case rel=>exact ⟨i+1,by go_num,by omega,by rw[HE.out]; go_num,HU2,HC2⟩
     case measure=>simp[intOf]; omega}}
  {have HF:Hid (deep t=deeps (t.parts.take i)+1):=Y1 (by rw[HD.out,show i=t.parts.length from by omega,List.take_length]);have HG:Hid (p+size t=p+1+sizes (t.parts.take i)):=Y1 (by rw[HZ.out,show i=t.parts.length from by omega,List.take_length]; omega);have hi1: ¬(i:Int) < (t.parts.length:Int):=by omega
   go_wp2;go_ret;exact ⟨Z0w (by rw[HF.out]; go_num),HU0.out.next HUR.out,by rw[HG.out]; exact HCR.out⟩}
theorem Z6l (t:Sh): ∀(q:Ptr) (B cb p m:Nat) (w:World),ShAt w B q t->B<=cb->Cnt w cb p m->p<=m->m < p+size t->m<=1000000->
 Calls Tryd.prog 43 #[.pointer (some ⟨cb,0,none⟩),.agg (Y8 t q)] w
  fun e w'=>e= .panicked [{ v:= .iface 28 (.int .i64 3),recovered:=false }]/\UpC cb w.heap.size w w':=by
 induction t using Sh.ind with
 | h t ih=>
 intro q B cb p m w hq hBc hc hpm hov hm;have HQ:=Y1 hq;have HM:=Y1 hq.small.m;have HP:=Y1 hq.part;have HD:Hid (deep t=deeps t.parts+1):=Y1 (Z0T t);have HZ:Hid (size t=1+sizes t.parts):=Y1 (size_eq t);have HDS:=Y1 (Z13 t);have HOV:Hid (m < p+size t):=Y1 hov;have hpi: (p:Int)<=1000000:=by omega
 have hb0:=Z01 w (.cells (Y8 t q) 25);have HC:=Y1 hc;have hB:=Z03 w t q;have HB:=Y1 hB;have HC1:=Y1 (hc.below hb0);have HU:=Y1 ((UpC.refl cb w.heap.size w).below hb0 hc.lt);have hcl:=hc.lt;obtain ⟨_,k0,k1,k2⟩:=hc.below hb0;clear k1;clear hb0 hc hB hov hq;have hne:w.heap.size≠cb:=by omega
 have hne2:cb≠w.heap.size:=by omega
 by_cases hpm2:p=m
 {have hpe: ((p:Int)==400)=true:=by rw[beq_iff_eq]; have:=HC.out.c1; omega
  have HUX:=HU;clear hpm2 hpm ih;go_enter Tryd.func43,Tryd.ntmps43
  go_wp2_with fail
  exact ⟨rfl,rfl,HU.out⟩}
 have hlt:p < m:=by omega
 have hpe: ((p:Int)==400)=false:=by rw[beq_eq_false_iff_ne]; have:=HC.out.c1; omega
 clear hpm2;go_enter Tryd.func43,Tryd.ntmps43
 go_wp2_with fail
 obtain ⟨W0,hW0⟩: ∃W0,W0=(w.setCell ⟨cb,0,none⟩ (.int .i64 ((p:Int)+1))).alloc (.cells (Y8 t q) 25):=⟨_,rfl⟩;have hsz0:W0.heap.size=w.heap.size+1:=by rw[hW0]; simp[World.setCell]
 have hU0:UpC cb w.heap.size w W0:=by
  rw[hW0];exact ((UpC.refl cb w.heap.size w).set _).below ((Z01 _ _).mono (by simp[World.setCell])) hcl
 have hC0:Cnt W0 cb (p+1) m:=by
  rw[hW0];exact (HC.out.set (p+1)).below (Z01 _ _)
 have hB0:Box5 W0 w.heap.size t q:=by
  have e: (w.setCell ⟨cb,0,none⟩ (.int .i64 ((p:Int)+1))).heap.size=w.heap.size:=by simp[World.setCell]
  have h5:=Z03 (w.setCell ⟨cb,0,none⟩ (.int .i64 ((p:Int)+1))) t q;rw[e] at h5;rw[hW0]; exact h5
 have HU0:=Y1 hU0;have HC0:=Y1 hC0;have HB0:=Y1 hB0;clear hU0 hC0 hB0;rw[<-hW0];have HSZ:=Y1 hsz0;clear hW0 k0 k2 HU HC1 HB hsz0
 go_loopw [5,24] (fun dd ii wr=> ∃i:Nat,ii= .int .i64 i/\i<=t.parts.length/\dd= .int .i64 (deeps (t.parts.take i):Int)/\Hid (UpC cb W0.heap.size W0 wr)/\p+1+sizes (t.parts.take i)<=m/\Hid (Cnt wr cb (p+1+sizes (t.parts.take i)) m)) (fun _ i _=>t.parts.length - (intOf i).toNat)
 case atStart=>exact ⟨0,rfl,Nat.zero_le _,rfl,Y1 (UpC.refl _ _ _),by simp[sizes]; omega,HC0⟩
 case round=>
  obtain ⟨i,rfl,hi,rfl,HUR,hpi2,HCR⟩:=hrel;have hmm:=HM.out;have htk:deeps (t.parts.take i)<=1000000:=by have:=Z5E (t.parts.take i); omega
  by_cases hlt:i < t.parts.length
  {rcases HP.out with h0 | ⟨g,off,qs,hqP,hg,hc,hr⟩
   {omega}
   {have hur:UpC cb w.heap.size w wr:=HU0.out.next HUR.out;obtain ⟨x,hx⟩: ∃x,x=t.parts[i]:=⟨_,rfl⟩;have hgw:g < w.heap.size:=by omega
    obtain ⟨p0,p1,p2,p3,p4⟩:=(hc i hlt).of (w':=wr) (fun k=>hur.cell hgw (by omega));have hbx:=Z01 wr (.cells (Y8 x (qs i)) 25);have hat:ShAt (wr.alloc (.cells (Y8 x (qs i)) 25)) B (qs i) x:=by
     rw[hx];exact ((hr i hlt).upc hur hBc (by omega)).keep (Z01 wr _) (by have:=hur.size; omega)
    have hcx:=HCR.out.below hbx;have HN:Hid (sizes (t.parts.take (i+1))=sizes (t.parts.take i)+size x):=Y1 (by rw[hx]; exact Z1a hlt);have HE:Hid (deeps (t.parts.take (i+1))=max (deeps (t.parts.take i)) (deep x)):=Y1 (by rw[hx]; exact Z2l hlt);have ihx:=ih t.parts[i] (List.getElem_mem _) (qs i) B cb (p+1+sizes (t.parts.take i)) m (wr.alloc (.cells (Y8 x (qs i)) 25));rw[<-hx] at p0 p1 p2 p3 p4 ihx;have hml:=fun hbd=>Z4v x (qs i) B cb (p+1+sizes (t.parts.take i)) m (wr.alloc (.cells (Y8 x (qs i)) 25)) hat hBc hcx hbd hm;have hmo:=fun hbd=>ihx hat hBc hcx hpi2 hbd hm;have HSB:=Y1 hur;have HBX:=Y1 (HB0.out);clear hx hc hr hat ihx hcx hur hbx ih;have hi1: (i:Int) < (t.parts.length:Int):=by omega
    obtain ⟨a,ha⟩: ∃a,a=deeps (t.parts.take i):=⟨_,rfl⟩;rw[<-ha] at HE htk ⊢;clear ha;rw[hqP];clear hqP;by_cases hfit:m < p+1+sizes (t.parts.take i)+size x
    {have IH:=hmo hfit;clear hml hmo hfit
     go_wp2_with fail
     refine IH.mono ?_;rintro e w2 ⟨rfl,hu2⟩;have HU2:Hid (UpC cb w.heap.size w w2):=Y1 ((HSB.out.below ((Z01 wr _).mono HSB.out.size) hcl).trans (hu2.mono (by have:=HSB.out.size; simp; omega)));clear hu2 IH;go_wp2;exact ⟨rfl,rfl,HU2.out⟩}
    have IH:=hml (by omega);have hdx:deep x<=1000000:=by have:=Z13 x; omega
    have HF1:Hid (p+1+sizes (t.parts.take (i+1))<=m):=Y1 (by rw[HN.out]; omega);clear hml hmo hfit
    go_wp2_with fail
    refine IH.mono ?_;rintro e w2 ⟨rfl,hu2,hc2⟩;have HU2:Hid (UpC cb W0.heap.size W0 w2):=Y1 ((HUR.out.below ((Z01 wr _).mono HUR.out.size) (by have:=HSZ.out; omega)).trans (hu2.mono (by have:=HUR.out.size; simp; omega)));have HC2:Hid (Cnt w2 cb (p+1+sizes (t.parts.take (i+1))) m):=Y1 (by rw[HN.out, <-Nat.add_assoc]; exact hc2);clear hu2 hc2 IH;by_cases hgt: (a:Int) < (deep x:Int)
    all_goals
     go_wp2
     go_roundw
     case rel=>exact ⟨i+1,by go_num,by omega,by rw[HE.out]; go_num,HU2,HF1.out,HC2⟩
     case measure=>simp[intOf]; omega}}
  {exfalso;have:=HOV.out;rw[show i=t.parts.length from by omega,List.take_length] at hpi2;rw[HZ.out] at this;omega}
theorem Z7s (b c:Addr) (x y:Int) (u:TypeId) (pv:Value) (older:List PanicEntry) (w:World) (hb:w.cell? b=some (.int .i64 x)) (hc:w.cell? c=some (.int .i64 y)) (fb:w.frozen? b=false) (fc:w.frozen? c=false)
 (hbc:b≠c):
 CallsD Tryd.prog 42 #[.pointer (some b),.pointer (some c)] (.panicking ({ v:= .iface u pv,recovered:=false }::older)) w fun e u' w'=>
  e= .returned (.tuple #[])/\u'= .panicking ({ v:= .iface u pv,recovered:=true }::older)/\w'=(w.setCell b (.int .i64 401)).setCell c (.int .i64 0):=by
 have hc2: (w.setCell b (.int .i64 401)).cell? c=some (.int .i64 y):=(World.cell?_setCell_other _ _ _ _ hbc).trans hc;refine callsD_of_wpS Tryd.func42 rfl fun c₀ cs hu=> ?_;apply wpS_seq;apply wpS_region;simp[wpOpsS,go_sem,recoverD,hu,Tryd.ntmps42,Exit.thenS];refine wpS_cond (t:=true) (by simp[Act.eval,Array.replicate]) ?_;simp only[if_true];apply wpS_region;simp[wpOpsS,go_sem,hb,hc2,fb,fc,bodyPostS,results,Tryd.results42]
theorem Z7t (b c:Addr) (w:World):
 CallsD Tryd.prog 42 #[.pointer (some b),.pointer (some c)] .returning w fun e u' w'=>e= .returned (.tuple #[])/\u'= .returning/\w'=w:=by
 refine callsD_of_wpS Tryd.func42 rfl fun c₀ cs hu=> ?_;apply wpS_seq;apply wpS_region;simp[wpOpsS,go_sem,recoverD,hu,Tryd.ntmps42,Exit.thenS];refine wpS_cond (t:=false) (by simp[Act.eval,Array.replicate]) ?_;simp only[Bool.false_eq_true,if_false];refine wpS_of_wp (wp_skip ?_);cases c₀;simp_all [bodyPostS,results,Tryd.results42]
def mW (w:World) (t:Sh) (q:Ptr):World:=
 (((w.alloc (.cells (Y8 t q) 25)).alloc (.cells #[.int .i64 0] 3)).alloc (.cells #[.int .i64 0] 3)).alloc (.cells #[.int .i64 0] 49)
structure MW (w W:World) (x y:Int):Prop where
 bel:Below w.heap.size w W
 size:w.heap.size+4<=W.heap.size
 b:W.cell? ⟨w.heap.size+1,0,none⟩=some (.int .i64 x)
 c:W.cell? ⟨w.heap.size+1+1,0,none⟩=some (.int .i64 y)
 fb:W.frozen? ⟨w.heap.size+1,0,none⟩=false
 fc:W.frozen? ⟨w.heap.size+1+1,0,none⟩=false
theorem Z8D (w:World) (t:Sh) (q:Ptr):Cnt (mW w t q) (w.heap.size+1+1+1) 0 400:=by
 unfold mW;exact ⟨by simp,by simp[go_sem],rfl,by simp[go_sem]⟩
theorem Z4F (w:World) (t:Sh) (q:Ptr):MW w (mW w t q) 0 0:=by
 unfold mW;refine ⟨Z06 (Z06 (Z06 (Z01 _ _) _) _) _,by simp, ?_, ?_, ?_, ?_⟩ <;> simp[go_sem]
theorem MW.upc {w W W':World} {x y:Int} (h:MW w W x y) (hu:UpC (w.heap.size+1+1+1) W.heap.size W W'):MW w W' x y:=by
 have e: ∀g,g < w.heap.size+3->W'.heap[g]? =W.heap[g]? :=fun g hg=>hu.block g (by have:=h.size; omega) (by omega);refine ⟨h.bel.trans ⟨hu.os,hu.tape,hu.output,hu.size,fun k hk=>e k (by omega)⟩,Nat.le_trans h.size hu.size, ?_, ?_, ?_, ?_⟩
 {exact (World.cell?_of_block (w:=W) (e (w.heap.size+1) (by omega))).trans h.b}
 {exact (World.cell?_of_block (w:=W) (e (w.heap.size+1+1) (by omega))).trans h.c}
 {exact (World.frozen?_of_block (w:=W) (e (w.heap.size+1) (by omega))).trans h.fb}
 {exact (World.frozen?_of_block (w:=W) (e (w.heap.size+1+1) (by omega))).trans h.fc}
section
variable (t : Sh) (q : Ptr) (w : World) (hq : ShAt w w.heap.size q t)
include t q w hq
theorem Z5q (hov:400 < size t):
 Y9 23 #[.agg (Y8 t q)] w (.tuple #[.int .i64 401,.int .i64 0]):=by
 have hmf: ∀(fn:Fn) (first cap:Array Value) (w:World),(Instr.makeFunc fn first cap).run Tryd.prog w= .ok (.func fn first cap) w:=fun _ _ _ _=>rfl;have HL:=Y1 (Z6l t q w.heap.size _ 0 400 _ (hq.keep (Z4F w t q).bel (Nat.le_refl _)) (by omega) (Z8D w t q) (Nat.zero_le _) (by omega) (by omega));have HW:=Y1 (Z4F w t q);clear hq hov
 go_enter_defers Tryd.func23,Tryd.ntmps23
 go_wp2_with fail
 change Calls _ _ _ (mW w t q) _;generalize mW w t q=W at HL HW ⊢;refine HL.out.mono ?_;rintro e w2 ⟨rfl,hu⟩;obtain ⟨hbel,hsz,cb,cc,fb,fc⟩:=HW.out.upc hu;have HBEL:=Y1 hbel;clear hbel hu HL
 go_wp2_with fail
 refine leaves_cons (f:=42) (args:=#[.pointer (some ⟨w.heap.size+1,0,none⟩),.pointer (some ⟨w.heap.size+1+1,0,none⟩)]) (by simp) (by simp[go_sem]) ?_;refine (Z7s ⟨w.heap.size+1,0,none⟩ ⟨w.heap.size+1+1,0,none⟩ 0 0 28 _ [] _ cb cc fb fc (by simp)).mono ?_;rintro e u' w'' ⟨rfl,rfl,rfl⟩;simp[Leaves,settle,results,Tryd.results23,go_sem,cb,cc];exact (HBEL.out.setCell (p:=⟨w.heap.size+1,0,none⟩) (by simp) _).setCell (p:=⟨w.heap.size+1+1,0,none⟩) (by simp; omega) _
theorem Z7u (hov:size t<=400):
 Y9 23 #[.agg (Y8 t q)] w (.tuple #[.int .i64 (size t:Int),.int .i64 (deep t:Int)]):=by
 have hmf: ∀(fn:Fn) (first cap:Array Value) (w:World),(Instr.makeFunc fn first cap).run Tryd.prog w= .ok (.func fn first cap) w:=fun _ _ _ _=>rfl;have HL:=Y1 (Z4v t q w.heap.size _ 0 400 _ (hq.keep (Z4F w t q).bel (Nat.le_refl _)) (by omega) (Z8D w t q) (by omega) (by omega));have HW:=Y1 (Z4F w t q);clear hq hov
 go_enter_defers Tryd.func23,Tryd.ntmps23
 go_wp2_with fail
 change Calls _ _ _ (mW w t q) _;generalize mW w t q=W at HL HW ⊢;refine HL.out.mono ?_;rintro e w2 ⟨rfl,hu,hcn⟩;obtain ⟨hbel,hsz,cb,cc,fb,fc⟩:=HW.out.upc hu;have k0:=hcn.c0;have HBEL:=Y1 hbel;rw[Nat.zero_add] at k0;clear hbel hu HL hcn
 go_wp2_with fail
 have HB3:Hid (Below w.heap.size w (w2.setCell ⟨w.heap.size+1+1,0,none⟩ (.int .i64 (deep t:Int)))):=Y1 (HBEL.out.setCell (by simp; omega) _);have k3: (w2.setCell ⟨w.heap.size+1+1,0,none⟩ (.int .i64 (deep t:Int))).cell? ⟨w.heap.size+1+1+1,0,none⟩=some (.int .i64 (size t:Int)):=(World.cell?_setCell_other _ _ _ _ (fun e=>by have:=congrArg Addr.block e; simp at this)).trans k0;have b3: (w2.setCell ⟨w.heap.size+1+1,0,none⟩ (.int .i64 (deep t:Int))).cell? ⟨w.heap.size+1,0,none⟩=some (.int .i64 0):=(World.cell?_setCell_other _ _ _ _ (fun e=>by have:=congrArg Addr.block e; simp at this)).trans cb;have c3: (w2.setCell ⟨w.heap.size+1+1,0,none⟩ (.int .i64 (deep t:Int))).cell? ⟨w.heap.size+1+1,0,none⟩=some (.int .i64 (deep t:Int)):=by simp[go_sem,cc]
 have fb3: (w2.setCell ⟨w.heap.size+1+1,0,none⟩ (.int .i64 (deep t:Int))).frozen? ⟨w.heap.size+1,0,none⟩=false:=by rw[World.frozen?_setCell]; exact fb
 have fc3: (w2.setCell ⟨w.heap.size+1+1,0,none⟩ (.int .i64 (deep t:Int))).frozen? ⟨w.heap.size+1+1,0,none⟩=false:=by rw[World.frozen?_setCell]; exact fc
 generalize w2.setCell ⟨w.heap.size+1+1,0,none⟩ (.int .i64 (deep t:Int))=W3 at HB3 k3 b3 c3 fb3 fc3 ⊢;clear k0 cb cc fb fc hsz HBEL
 go_region
 all_goals
  go_wp2_with fail
  refine leaves_cons (f:=42) (args:=#[.pointer (some ⟨w.heap.size+1,0,none⟩),.pointer (some ⟨w.heap.size+1+1,0,none⟩)]) (by simp) (by simp[go_sem]) ?_;refine (Z7t ⟨w.heap.size+1,0,none⟩ ⟨w.heap.size+1+1,0,none⟩ _).mono ?_;rintro e u' w'' ⟨rfl,rfl,rfl⟩;simp[Leaves,settle,results,Tryd.results23,go_sem,b3,c3];exact ((HB3.out.setCell (p:=⟨w.heap.size+1,0,none⟩) (by simp) _).setCell (p:=⟨w.heap.size+1+1,0,none⟩) (by simp; omega) _).drew
end
def Z2g (m:Nat) (t:Sh):Int:=if m < size t then (m:Int)+1 else size t
def Z2h (m:Nat) (t:Sh):Int:=if m < size t then 0 else deep t
section
variable (t : Sh) (q : Ptr) (w : World) (hq : ShAt w w.heap.size q t)
include t q w hq
theorem Z5r:
 Y9 23 #[.agg (Y8 t q)] w (.tuple #[.int .i64 (Z2g 400 t),.int .i64 (Z2h 400 t)]):=by
 unfold Z2g Z2h;by_cases h:400 < size t
 {rw[if_pos h,if_pos h]; exact Z5q t q w hq h}
 {rw[if_neg h,if_neg h]; exact Z7u t q w hq (by omega)}
theorem Z0v (hg:WGlobs w):
 Y9 11 #[.agg (Y8 t q)] w (.int .i64 (check t)):=by
 have hb0:=Z01 w (.cells (Y8 t q) 25);have hm:=Z5r t q _ (hq.next hb0);have HC:Hid (check t=if 400 < size t then 3 else if 40 < deep t then 91 else if right t=false then 70 else 0):=Y1 rfl;have HB0:=Y1 hb0;have HB:=Y1 (Z03 w t q);have HQ:=Y1 hq;have HG:=Y1 hg;obtain ⟨_,⟨c0,c1,c2,c3,c4⟩,_⟩:=HB.out;clear hb0 hq hg;by_cases h4:400 < size t
 {have HF:Hid (check t=3):=Y1 (by rw[HC.out,if_pos h4]);have hx:Z2g 400 t=401:=by unfold Z2g; rw[if_pos h4]; rfl
  rw[hx] at hm;generalize Z2h 400 t=y at hm;clear h4 hx;go_enter Tryd.func11,Tryd.ntmps11
  go_wp2_with fail
  refine hm.mono ?_;rintro e w' ⟨rfl,hb'⟩;go_wp2;go_ret;exact ⟨Z0w HF.out.symm,Z00 HB0.out hb'⟩}
 {have hx:Z2g 400 t=(size t:Int):=by unfold Z2g; rw[if_neg h4]
  have hy:Z2h 400 t=(deep t:Int):=by unfold Z2h; rw[if_neg h4]
  rw[hx,hy] at hm;have h4': ¬(400:Int) < (size t:Int):=by omega
  by_cases h40:40 < deep t
  {have HF:Hid (check t=91):=Y1 (by rw[HC.out,if_neg h4,if_pos h40]);have h40': (40:Int) < (deep t:Int):=by omega
   clear h4 h40 hx hy;go_enter Tryd.func11,Tryd.ntmps11
   go_wp2_with fail
   refine hm.mono ?_;rintro e w' ⟨rfl,hb'⟩;go_wp2;go_ret;exact ⟨Z0w HF.out.symm,Z00 HB0.out hb'⟩}
  {have h40': ¬(40:Int) < (deep t:Int):=by omega
   have HF:Hid (check t=if right t=false then 70 else 0):=Y1 (by rw[HC.out,if_neg h4,if_neg h40]);have HZ:Hid (size t<=1000000):=Y1 (by omega);clear h4 h40 hx hy;go_enter Tryd.func11,Tryd.ntmps11
   go_wp2_with fail
   refine hm.mono ?_;rintro e w2 ⟨rfl,hb2⟩;have hbw:=Z00 HB0.out hb2;have HBW2:=Y1 hbw;have HB2:=Y1 (HB.out.next hb2);have hr:=Z5n t q w2 (HQ.out.next hbw) (HG.out.next hbw) HZ.out;clear hm hb2 hbw c0 c1 c2 c3 c4;obtain ⟨_,⟨c0,c1,c2,c3,c4⟩,_⟩:=HB2.out;cases hrt:right t
   all_goals
    rw[hrt] at hr HF;clear hrt
    go_wp2_with fail
    refine hr.mono ?_;rintro e w' ⟨rfl,hb'⟩;go_wp2;go_ret;exact ⟨Z0w (by rw[HF.out]; rfl),Z00 HBW2.out hb'⟩}}
theorem mayBe_walk (hg:WGlobs w):
 Y9 26 #[.agg (Y8 t q)] w (.bool (decide (check t=0))):=by
 have hb0:=Z01 w (.cells (Y8 t q) 25);have hm:=Z0v t q _ (hq.next hb0) (hg.next hb0);have HB0:=Y1 hb0;obtain ⟨_,⟨c0,c1,c2,c3,c4⟩,_⟩:=Z03 w t q;clear hb0 hq hg;go_enter Tryd.func26,Tryd.ntmps26
 go_wp2_with fail
 refine hm.mono ?_;rintro e w' ⟨rfl,hb'⟩;go_wp2;go_ret;exact ⟨Z08 (by rw[Bool.eq_iff_iff]; simp),Z00 HB0.out hb'⟩
end
end
section
open Go.RowKit Shp Go.Sort
theorem Z7v {t:Sh} (q:Ptr) (hr:right t=true):
 (.agg #[.int .i64 t.kind,.string ⟨t.of_.toArray⟩,.string ⟨t.name.toArray⟩,.slice q.A t.names.length q.c,.slice q.P t.parts.length q.d]:Value)= .agg #[.int .i64 (sorted t).kind,.string ⟨(sorted t).of_.toArray⟩,.string ⟨(sorted t).name.toArray⟩,.slice q.A (sorted t).names.length q.c,.slice q.P (sorted t).parts.length q.d]:=by
 obtain ⟨k1,k2,k3⟩:=Z1Y t;obtain ⟨l1,l2⟩:=Z3c (t:=t) ((Z1B hr).imp id And.left);rw[k1,k2,k3,l1,l2]
theorem UpF.toBelow {F:List Nat} {w w':World} {B:Nat} (h:UpF F w w') (hF: ∀b∈F,B<=b) (hB:B<=w.heap.size):Below B w w':=
 ⟨h.os,h.tape,h.output,h.size,fun k hk=>h.block k (Nat.lt_of_lt_of_le hk hB) (fun hm=>by have:=hF k hm; omega)⟩
theorem Z4w (t:Sh) (q:Ptr) (w:World) (hq:ShAt w w.heap.size q t) (hg:WGlobs w) (hck:check t=0):
 Calls Tryd.prog 12 #[.agg (Y8 t q)] w fun e w'=> ∃q' F,e= .returned (.agg (Y8 (sorted t) q'))/\Own w' q' (sorted t) F/\(∀b∈F,w.heap.size<=b)/\Below w.heap.size w w':=by
 obtain ⟨hz,_,hr⟩:=Z0C hck;have HQ:=Y1 hq;have HG:=Y1 hg;have HR:=Y1 hr;have HCK:=Y1 hck;have HS:=Y1 (Z2r w t q);have HB:=Y1 (Z9I w t q);have HE:=Y1 (Z81 w t q);have HCP:=Y1 (Z3b t q (sW w t q) (hq.next (Z2r w t q)) hz hr);have HB0:=Y1 (Z03 w t q);obtain ⟨_,⟨c0,c1,c2,c3,c4⟩,_⟩:=HB0.out;clear hq hg hr hck;go_enter Tryd.func12,Tryd.ntmps12
 go_wp2_with fail
 clear c0 c1 c2 c3 c4 HB0;change Calls _ _ _ (sW w t q) _;generalize sW w t q=W at HS HB HE HCP ⊢;refine HCP.out.mono ?_;rintro e w1 ⟨q',F,rfl,ho,hnd,hF,hb1⟩;have HO:=Y1 ho;have HND:=Y1 hnd;have HF:=Y1 hF;have HS1:=Y1 (Z00 HS.out hb1);have HB1:=Y1 (HB.out.next hb1);have HE1:=Y1 (HE.out.next hb1);have HLF:=Y1 ho.lt;have hbw:=Z01 w1 (.cells (Y8 t q') 25);have HBW:=Y1 hbw;have HB2:=Y1 (HB1.out.next hbw);have HE2:=Y1 (HE1.out.next hbw);have HT2:=Y1 (Z03 w1 t q');have HO2:=Y1 (Z17 ho hbw);have HS2:=Y1 (Z00 HS1.out hbw);have hm:=mayBe_walk t q _ (HQ.out.next HS2.out) (HG.out.next HS2.out);rw[show decide (check t=0)=true from by rw[HCK.out]; rfl] at hm;have HM:=Y1 hm;obtain ⟨_,⟨c0,c1,c2,c3,c4⟩,_⟩:=HB2.out;clear ho hnd hF hb1 hbw hm HCP
 go_wp2_with fail
 refine HM.out.mono ?_;rintro e w3 ⟨rfl,hb3⟩;have HS3:=Y1 (Z00 HS2.out hb3);have HE3:=Y1 (HE2.out.next hb3);have HT3:=Y1 (HT2.out.next hb3);have HO3:=Y1 (Z17 HO2.out hb3);clear c0 c1 c2 c3 c4;obtain ⟨_,⟨c0,c1,c2,c3,c4⟩,_⟩:=HT3.out;have HW:=Y1 (Z3Z t q' F w3 HO3.out HND.out HR.out hz);have hbl:w1.heap.size+1<=w3.heap.size:=by have:=hb3.size; simp at this; exact this
 have HLT:=Y1 hbl;clear hb3 HM hbl
 go_wp2_with fail
 refine HW.out.mono ?_;rintro e w4 ⟨rfl,hu,F',hp,ho⟩;have HLN:=Y1 (show w.heap.size+1∉F from fun hm=>by have:=HF.out _ hm; have:=HE.out.1; omega);have HLT2:=Y1 (show w1.heap.size∉F from fun hm=>by have:=HLF.out _ hm; omega);have HT4:=Y1 (HT3.out.same (hu.same HT3.out.1 HLT2.out) hu.size);have HE4:=Y1 (HE3.out.same (hu.same HE3.out.1 HLN.out) hu.size);have HS4:=Y1 (HS3.out.trans (hu.toBelow (fun b hb=>by have:=HF.out b hb; have:=HB.out.1; omega) HS3.out.size));have HO4:=Y1 ho;have HNF:=Y1 (show ∀b∈F',w.heap.size+1≠b from fun b hb e=>HLN.out (by rw[e]; exact hp.mem_iff.1 hb));have HGE:Hid (∀b∈F',w.heap.size<=b):=Y1 (fun b hb=>by have:=HF.out b (hp.mem_iff.1 hb); have:=HB.out.1; omega);clear hu hp ho HW c0 c1 c2 c3 c4;obtain ⟨_,⟨c0,c1,c2,c3,c4⟩,_⟩:=HT4.out;obtain ⟨_,⟨r0,r1,r2,r3,r4⟩,f0,f1,f2,f3,f4⟩:=HE4.out;simp only[Nat.zero_add] at c0 c1 c2 c3 c4 r0 r1 r2 r3 r4;have hne:w1.heap.size≠w.heap.size+1:=fun e=>by have:=HE1.out.1; omega
 go_wp2;refine bodyPost_ret (v:= .agg (Y8 t q')) (by simp[results,Tryd.results12,go_sem,r0,r1,r2,r3,r4]) rfl ?_;refine ⟨q',F',by rw[Z7v q' HR.out], ?_,fun b hb=>HGE.out b hb,Z0I HS4.out (by omega) _ _ _ _ _⟩;have h5:=Z2s HO4.out HNF.out (.int .i64 t.kind) (.string ⟨t.of_.toArray⟩) (.string ⟨t.name.toArray⟩) (.slice q'.A t.names.length q'.c) (.slice q'.P t.parts.length q'.d);exact h5
end
section
open Go.RowKit Shp
theorem Z7w (t:Sh): ∀(q:Ptr) (w:World),ShAt w w.heap.size q t->deep t<=1000000->
 Calls Tryd.prog 39 #[.agg (Y8 t q)] w
  fun e w'=>e= .returned (.int .i64 (deep t:Int))/\Below w.heap.size w w':=by
 induction t using Sh.ind with
 | h t ih=>
 intro q w hq hd;have HM:=Y1 hq.small.m;have HP:=Y1 hq.part;have HD:Hid (deep t=deeps t.parts+1):=Y1 (Z0T t);have hd2:deeps t.parts<=1000000:=by have:=HD.out; omega
 have hB:=Z03 w t q;have HB:=Y1 hB;have hb0:=Z01 w (.cells (Y8 t q) 25);have HB0:=Y1 hb0;clear hB hb0 hq hd;go_enter Tryd.func39,Tryd.ntmps39
 go_wp2_with fail
 generalize hW0:w.alloc (.cells (Y8 t q) 25)=W0 at HB HB0 ⊢;clear hW0
 go_loopw [3,4] (fun nn ii wr=> ∃i:Nat,ii= .int .i64 i/\i<=t.parts.length/\nn= .int .i64 (deeps (t.parts.take i):Int)/\Below W0.heap.size W0 wr) (fun _ i _=>t.parts.length - (intOf i).toNat)
 case atStart=>exact ⟨0,rfl,Nat.zero_le _,rfl,Below.refl _ _⟩
 case round=>
  obtain ⟨i,rfl,hi,rfl,hb⟩:=hrel;have HBX:=Y1 (HB.out.next hb);have hm:=HM.out;obtain ⟨_,⟨_,_,_,_,c4⟩,_⟩:=HB.out.next hb;by_cases hlt:i < t.parts.length
  {rcases HP.out with h0 | ⟨g,off,qs,hqP,hg,hc,hr⟩
   {omega}
   {have hbw:Below w.heap.size w wr:=HB0.out.trans (hb.mono HB0.out.size);obtain ⟨x,hx⟩: ∃x,x=t.parts[i]:=⟨_,rfl⟩;obtain ⟨p0,p1,p2,p3,p4⟩:=(hc i hlt).keep hg hbw;have hat:ShAt wr wr.heap.size (qs i) x:=by rw[hx]; exact (hr i hlt).next hbw
    have ihx:=ih t.parts[i] (List.getElem_mem _) (qs i) wr;have hdx:deep x<=1000000:=by rw[hx]; exact Nat.le_trans (Z2N (List.getElem_mem _)) hd2
    have HN:Hid (deeps (t.parts.take (i+1))=max (deeps (t.parts.take i)) (deep x)):=Y1 (by rw[hx]; exact Z2l hlt);rw[<-hx] at p0 p1 p2 p3 p4 ihx;have IH:=ihx hat hdx;have htk:=Z2n t.parts i;rw[hqP] at c4;clear hx hc hr hat ihx hdx hd2 ih hqP;have hi1: (i:Int) < (t.parts.length:Int):=by omega
    generalize deeps (t.parts.take i)=a at HN htk ⊢;by_cases hgt: (a:Int) < (deep x:Int)
    all_goals
     go_wp2_with (refine IH.mono ?_; rintro e w' ⟨rfl,hb'⟩)
     go_wp2
     go_roundw
     case rel=>exact ⟨i+1,by go_num,by omega,by rw[HN.out]; go_num,hb.trans (hb'.mono hb.size)⟩
     case measure=>simp[intOf]; omega}}
  {have hie:i=t.parts.length:=by omega
   have HE:Hid (deeps (t.parts.take i)=deeps t.parts):=Y1 (by rw[hie,List.take_length]);have htk:=Z2n t.parts i;clear hie;go_wp2;go_ret;exact ⟨by rw[HE.out,HD.out]; go_num,HB0.out.trans (hb.mono HB0.out.size)⟩}
theorem Z6m {l:List Sh} {i m:Nat} (hi:i < l.length) (h:1+sizes (l.take i)<=m):min (1+sizes (l.take i)) (m+1)+sizeTo (m - min (1+sizes (l.take i)) (m+1)) (l[i]'hi)=min (1+sizes (l.take (i+1))) (m+1):=by
 rw[Z1a hi]; unfold sizeTo; omega
theorem Z46 (t:Sh): ∀(q:Ptr) (m:Nat) (w:World),ShAt w w.heap.size q t->m<=1000000->
 Calls Tryd.prog 38 #[.agg (Y8 t q),.int .i64 (m:Int)] w
  fun e w'=>e= .returned (.int .i64 (sizeTo m t:Int))/\Below w.heap.size w w':=by
 induction t using Sh.ind with
 | h t ih=>
 intro q m w hq hmm;have HM:=Y1 hq.small.m;have HP:=Y1 hq.part;have HZ:Hid (size t=1+sizes t.parts):=Y1 (size_eq t);have hB:=Z03 w t q;have HB:=Y1 hB;have hb0:=Z01 w (.cells (Y8 t q) 25);have HB0:=Y1 hb0;clear hB hb0 hq;go_enter Tryd.func38,Tryd.ntmps38
 go_wp2_with fail
 generalize hW0:w.alloc (.cells (Y8 t q) 25)=W0 at HB HB0 ⊢;clear hW0
 go_loopw [5,6] (fun nn ii wr=> ∃i:Nat,ii= .int .i64 i/\i<=t.parts.length/\nn= .int .i64 ((min (1+sizes (t.parts.take i)) (m+1):Nat):Int)/\Below W0.heap.size W0 wr) (fun _ i _=>t.parts.length - (intOf i).toNat)
 case atStart=>exact ⟨0,rfl,Nat.zero_le _,by rw[List.take_zero]; show Value.int .i64 1= .int .i64 ((min (1+0) (m+1):Nat):Int); rw[Nat.min_eq_left (by omega)]; rfl,Below.refl _ _⟩
 case round=>
  obtain ⟨i,rfl,hi,rfl,hb⟩:=hrel;have hm:=HM.out;obtain ⟨_,⟨_,_,_,_,c4⟩,_⟩:=HB.out.next hb;obtain ⟨n,hn⟩: ∃n,n=min (1+sizes (t.parts.take i)) (m+1):=⟨_,rfl⟩;rw[<-hn];have HE:=Y1 hn;have hn1:1<=n:=by omega
  have hn2:n<=m+1:=by omega
  by_cases hlt:i < t.parts.length
  {have hi1: (i:Int) < (t.parts.length:Int):=by omega
   by_cases hnm:n<=m
   {rcases HP.out with h0 | ⟨g,off,qs,hqP,hg,hc,hr⟩
    {omega}
    {have hbw:Below w.heap.size w wr:=HB0.out.trans (hb.mono HB0.out.size);obtain ⟨x,hx⟩: ∃x,x=t.parts[i]:=⟨_,rfl⟩;obtain ⟨p0,p1,p2,p3,p4⟩:=(hc i hlt).keep hg hbw;have hat:ShAt wr wr.heap.size (qs i) x:=by rw[hx]; exact (hr i hlt).next hbw
     have ihx:=ih t.parts[i] (List.getElem_mem _) (qs i) (m - n) wr;have HN:Hid (n+sizeTo (m - n) x=min (1+sizes (t.parts.take (i+1))) (m+1)):=Y1 (by rw[hx,hn]; exact Z6m hlt (by omega));rw[<-hx] at p0 p1 p2 p3 p4 ihx;have IH:=ihx hat (by omega);rw[show ((m - n:Nat):Int)=(m:Int) - (n:Int) from by omega] at IH;rw[hqP] at c4;have hsz:sizeTo (m - n) x<=m - n+1:=Nat.min_le_right _ _;have d2:decide (n<=m)=true:=decide_eq_true (by omega);have d3:decide (i < t.parts.length)=true:=decide_eq_true (by omega);have hnm2: (n:Int)<=(m:Int):=by omega
     have hmm2: (m:Int)<=1000000:=by omega
     generalize sizeTo (m - n) x=z at IH HN hsz;have hz2: (n:Int)+(z:Int)<=1000001:=by omega
     clear hx hc hr hat ihx ih hqP hn
     go_wp2_with (refine IH.mono ?_; rintro e w' ⟨rfl,hb'⟩)
     go_roundw
     case rel=>exact ⟨i+1,by go_num,by omega,by rw[<-HN.out]; go_num,hb.trans (hb'.mono hb.size)⟩
     case measure=>simp[intOf]; omega}}
   {have HF:Hid (n=sizeTo m t):=Y1 (by
     have:=Z2m t.parts i;unfold sizeTo; have:=HZ.out; omega)
    have d2:decide (n<=m)=false:=decide_eq_false (by omega);have d3:decide (i < t.parts.length)=true:=decide_eq_true (by omega);clear hn;go_wp2;go_ret;exact ⟨by rw[<-HF.out]; rfl,HB0.out.trans (hb.mono HB0.out.size)⟩}}
  {have HF:Hid (n=sizeTo m t):=Y1 (by
    rw[show i=t.parts.length from by omega,List.take_length] at hn;unfold sizeTo; have:=HZ.out; omega)
   have d3:decide (i < t.parts.length)=false:=decide_eq_false (by omega);clear hn;go_wp2;go_ret;exact ⟨by rw[<-HF.out]; rfl,HB0.out.trans (hb.mono HB0.out.size)⟩}
section
variable (t : Sh) (q : Ptr) (w : World) (hq : ShAt w w.heap.size q t)
include t q w hq
theorem Z6o (hk: ¬(t.kind=9\/t.kind=10)):
 Calls Tryd.prog 56 #[.agg (Y8 t q)] w
  fun e w'=>e= .returned (.bool (fits t))/\Below w.heap.size w w':=by
 have HS:=Y1 hq.small;have HA:=Y1 hq.strs;have hB:=Z03 w t q;have HB:=Y1 hB;have hb0:=Z01 w (.cells (Y8 t q) 25);have HB0:=Y1 hb0;have h9: (t.kind==9)=false:=by rw[beq_eq_false_iff_ne]; omega
 have h10: (t.kind==10)=false:=by rw[beq_eq_false_iff_ne]; omega
 have HK:=Y1 hk;clear hB hb0 hq hk;obtain ⟨_,⟨c0,c1,c2,c3,c4⟩,_⟩:=HB.out;cases ho: (t.of_== [])
 {have HF:=Y1 (Z0G HK.out (Z9p ho));have hoe:=Z0h ho;clear ho;go_enter Tryd.func56,Tryd.ntmps56;go_wp2;go_ret;exact ⟨by rw[HF.out]; rfl,HB0.out⟩}
 {have hoe:=Z0h ho;cases hn: (t.name== [])
  {have HF:=Y1 (Z0G HK.out (Z7U hn));have hne:=Z0h hn;clear ho hn;go_enter Tryd.func56,Tryd.ntmps56;go_wp2;go_ret;exact ⟨by rw[HF.out]; rfl,HB0.out⟩}
  {have hne:=Z0h hn;have HBA:Hid (bare t=true):=Y1 ((Z8W t).2 ⟨by simpa using ho,by simpa using hn⟩);clear ho hn;by_cases h67:t.kind=6\/t.kind=7
   {have HF:=Y1 (Z3r HBA.out h67);have h6: (t.kind==6)=true\/(t.kind==6)=false/\(t.kind==7)=true:=by rcases h67 with h | h <;> simp[h]
    have hA:=(HA.out.next HB0.out);have hr:=fun W h=>Z6b q.A q.c t.names t.parts.length W h HS.out.l HS.out.ns;have hw:=hr _ hA;clear h67 hA hr;rcases h6 with h6 | ⟨h6,h7⟩
    all_goals
     go_enter Tryd.func56,Tryd.ntmps56
     go_wp2_with fail
     refine hw.mono ?_;rintro e w' ⟨rfl,hb'⟩;go_wp2;go_ret;exact ⟨by rw[HF.out]; rfl,Z00 HB0.out hb'⟩}
   {have H67:=Y1 h67;have h6: (t.kind==6)=false:=by rw[beq_eq_false_iff_ne]; omega
    have h7: (t.kind==7)=false:=by rw[beq_eq_false_iff_ne]; omega
    clear h67;by_cases hz:0 < t.names.length
    {have HF:=Y1 (Z16 HK.out HBA.out H67.out hz);have hz2: (0:Int) < (t.names.length:Int):=by omega
     go_enter Tryd.func56,Tryd.ntmps56;go_wp2;go_ret;exact ⟨by rw[HF.out]; rfl,HB0.out⟩}
    {have HZ:=Y1 hz;have hz2: ¬(0:Int) < (t.names.length:Int):=by omega
     have hz3: ¬0 < t.names.length:=hz;by_cases hk8:t.kind=8
     {have HF:=Y1 (Z3s HBA.out hk8 HZ.out);have h8: (t.kind==8)=true:=by simp[hk8]
      clear hk8;go_enter Tryd.func56,Tryd.ntmps56;go_wp2;go_ret;exact ⟨Z08 (by rw[HF.out,Bool.eq_iff_iff]; simp; try omega),HB0.out⟩}
     {have h8: (t.kind==8)=false:=by rw[beq_eq_false_iff_ne]; omega
      by_cases hk5:t.kind=5
      {have HF:=Y1 (Z2S HBA.out hk5 HZ.out);have h5: (t.kind==5)=true:=by simp[hk5]
       clear hk8 hk5;go_enter Tryd.func56,Tryd.ntmps56;go_wp2;go_ret;exact ⟨Z08 (by rw[HF.out,Bool.eq_iff_iff]; simp; try omega),HB0.out⟩}
      {have h5: (t.kind==5)=false:=by rw[beq_eq_false_iff_ne]; omega
       have HF:=Y1 (Z1Q HBA.out HK.out H67.out HZ.out hk8 hk5);clear hk8 hk5;cases e1:decide (1<=t.kind)
       {have HF2:Hid (fits t=false):=Y1 (by rw[HF.out,e1]; rfl);go_enter Tryd.func56,Tryd.ntmps56;go_wp2;go_ret;exact ⟨by rw[HF2.out]; rfl,HB0.out⟩}
       {cases e2:decide (t.kind<=4)
        {have HF2:Hid (fits t=false):=Y1 (by rw[HF.out,e1,e2]; rfl);go_enter Tryd.func56,Tryd.ntmps56;go_wp2;go_ret;exact ⟨by rw[HF2.out]; rfl,HB0.out⟩}
        {have HF2:Hid (fits t=decide (t.parts.length=0)):=Y1 (by rw[HF.out,e1,e2]; rfl);go_enter Tryd.func56,Tryd.ntmps56;go_wp2;go_ret;exact ⟨Z08 (by rw[HF2.out,Bool.eq_iff_iff]; simp),HB0.out⟩}}}}}}}}
theorem Z7x:
 Calls Tryd.prog 56 #[.agg (Y8 t q)] w
  fun e w'=>e= .returned (.bool (fits t))/\Below w.heap.size w w':=by
 by_cases hk:t.kind=9\/t.kind=10
 {exact Z6h t q w hq hk}
 {exact Z6o t q w hq hk}
end
theorem Z6p (t:Sh): ∀(q:Ptr) (w:World),ShAt w w.heap.size q t->
 Calls Tryd.prog 40 #[.agg (Y8 t q)] w
  fun e w'=>e= .returned (.bool (right t))/\Below w.heap.size w w':=by
 induction t using Sh.ind with
 | h t ih=>
 intro q w hq;have HM:=Y1 hq.small.m;have HP:=Y1 hq.part;have HD:Hid (right t=(fits t&&rights t.parts)):=Y1 (Z0Z t);have hB:=Z03 w t q;have HB:=Y1 hB;have hb0:=Z01 w (.cells (Y8 t q) 25);have HB0:=Y1 hb0;have hf:=Z7x t q _ (hq.next hb0);have HQ:=Y1 hq;clear hb0 hq;obtain ⟨_,⟨c0,c1,c2,c3,c4⟩,_⟩:=hB;have ih:=ih;cases hft:fits t with
 | false=>
  have HF:Hid (right t=false):=Y1 (by rw[HD.out,hft]; rfl);rw[hft] at hf;clear hft ih;go_enter Tryd.func40,Tryd.ntmps40
  go_wp2_with fail
  refine hf.mono ?_;rintro e w' ⟨rfl,hb'⟩;go_wp2;go_ret;exact ⟨by rw[HF.out]; rfl,Z00 HB0.out hb'⟩
 | true=>
  have HFT:=Y1 hft;rw[hft] at hf;clear hft;go_enter Tryd.func40,Tryd.ntmps40
  go_wp2_with fail
  refine hf.mono ?_;rintro e W0 ⟨rfl,hb'⟩;have HB1:=Y1 (HB.out.next hb');have HBW:Hid (Below w.heap.size w W0):=Y1 (Z00 HB0.out hb');clear hf hb' c0 c1 c2 c3 c4 HB HB0
  go_wp2_with fail
  go_loopw [3] (fun ii wr=> ∃i:Nat,ii= .int .i64 i/\i<=t.parts.length/\Hid (∀j (h:j < t.parts.length),j < i->right (t.parts[j]'h)=true)/\Below W0.heap.size W0 wr) (fun i _=>t.parts.length - (intOf i).toNat)
  case atStart=>exact ⟨0,rfl,Nat.zero_le _,Y1 (fun j _ hj=>absurd hj (by omega)),Below.refl _ _⟩
  case round=>
   obtain ⟨i,rfl,hi,HN,hb⟩:=hrel;have hm:=HM.out;obtain ⟨_,⟨c0,_,_,_,c4⟩,_⟩:=HB1.out.next hb;by_cases hlt:i < t.parts.length
   {rcases HP.out with h0 | ⟨g,off,qs,hqP,hg,hc,hr⟩
    {omega}
    {have hbw:Below w.heap.size w wr:=HBW.out.trans (hb.mono HBW.out.size);obtain ⟨x,hx⟩: ∃x,x=t.parts[i]:=⟨_,rfl⟩;obtain ⟨p0,p1,p2,p3,p4⟩:=(hc i hlt).keep hg hbw;have hat:ShAt wr wr.heap.size (qs i) x:=by rw[hx]; exact (hr i hlt).next hbw
     have ihx:=ih t.parts[i] (List.getElem_mem _) (qs i) wr;rw[<-hx] at p0 p1 p2 p3 p4 ihx;have IH:=ihx hat;rw[hqP] at c4;have HX:=Y1 hx;clear hx hc hr hat ihx ih hqP;have hi1: (i:Int) < (t.parts.length:Int):=by omega
     cases hox:right x with
     | false=>
      rw[hox] at IH;have HF:Hid (right t=false):=Y1 (Z7V (p:=x) (by rw[HX.out]; exact List.getElem_mem _) hox);clear hox
      go_wp2_with (refine IH.mono ?_; rintro e w' ⟨rfl,hb'⟩)
      go_ret;exact ⟨by rw[HF.out]; rfl,hbw.trans (hb'.mono hbw.size)⟩
     | true=>
      rw[hox] at IH;have HO:=Y1 hox;clear hox
      go_wp2_with (refine IH.mono ?_; rintro e w' ⟨rfl,hb'⟩)
      go_roundw
      case rel=>exact ⟨i+1,by go_num,by omega,Y1 (fun j hj hji=>by
       rcases Nat.lt_succ_iff_lt_or_eq.1 hji with h | rfl
       {exact HN.out j hj h}
       · rw[<-HX.out]; exact HO.out),hb.trans (hb'.mono hb.size)⟩
      case measure=>simp[intOf]; omega}}
   {have HF:Hid (right t=true):=Y1 (Z4O HFT.out (fun p hp=>by
     obtain ⟨j,hj,rfl⟩:=List.getElem_of_mem hp;exact HN.out j hj (by omega)))
    go_wp2;go_ret;exact ⟨by rw[HF.out]; rfl,HBW.out.trans (hb.mono HBW.out.size)⟩}
theorem Z7y {t:Sh} (h:400 < size t):sizeTo 400 t=401:=by unfold sizeTo; omega
theorem Z8E {t:Sh} (h: ¬400 < size t):sizeTo 400 t=size t:=by unfold sizeTo; omega
theorem Z3e (t:Sh) (q:Ptr) (w:World) (hq:ShAt w w.heap.size q t):
 Calls Tryd.prog 20 #[.agg (Y8 t q)] w
  fun e w'=>e= .returned (.int .i64 (check t))/\Below w.heap.size w w':=by
 have hB:=Z03 w t q;have HB:=Y1 hB;have hb0:=Z01 w (.cells (Y8 t q) 25);have HB0:=Y1 hb0;have hs:=Z46 t q 400 _ (hq.next hb0) (by omega);rw[show (((400:Nat):Int))=(400:Int) from rfl] at hs;have HQ:=Y1 hq;have HC:Hid (check t=if 400 < size t then 3 else if 40 < deep t then 91 else if right t=false then 70 else 0):=Y1 rfl;clear hb0 hq;obtain ⟨_,⟨c0,c1,c2,c3,c4⟩,_⟩:=hB;by_cases h4:400 < size t
 {rw[Z7y h4] at hs;have HF:Hid (check t=3):=Y1 (by rw[HC.out,if_pos h4]);clear h4;go_enter Tryd.func20,Tryd.ntmps20
  go_wp2_with fail
  refine hs.mono ?_;rintro e w' ⟨rfl,hb'⟩;go_wp2;go_ret;exact ⟨Z0w HF.out.symm,Z00 HB0.out hb'⟩}
 {rw[Z8E h4] at hs;have h4': ¬(400:Int) < (size t:Int):=by omega
  have hdd:=Z13 t;go_enter Tryd.func20,Tryd.ntmps20
  go_wp2_with fail
  refine hs.mono ?_;rintro e w1 ⟨rfl,hb1⟩;have hbw:=Z00 HB0.out hb1;have HBW:=Y1 hbw;have HB1:=Y1 (HB.out.next hb1);have hd:=Z7w t q w1 (HQ.out.next hbw) (by omega);clear hs hb1 hbw c0 c1 c2 c3 c4;obtain ⟨_,⟨c0,c1,c2,c3,c4⟩,_⟩:=HB1.out;by_cases h40:40 < deep t
  {have HF:Hid (check t=91):=Y1 (by rw[HC.out,if_neg h4,if_pos h40]);have h40': (40:Int) < (deep t:Int):=by omega
   clear h4 h40 hdd
   go_wp2_with fail
   refine hd.mono ?_;rintro e w' ⟨rfl,hb'⟩;go_wp2;go_ret;exact ⟨Z0w HF.out.symm,Z00 HBW.out hb'⟩}
  {have h40': ¬(40:Int) < (deep t:Int):=by omega
   have HF:Hid (check t=if right t=false then 70 else 0):=Y1 (by rw[HC.out,if_neg h4,if_neg h40]);clear h4 h40 hdd
   go_wp2_with fail
   refine hd.mono ?_;rintro e w2 ⟨rfl,hb2⟩;have hbw:=Z00 HBW.out hb2;have HBW2:=Y1 hbw;have HB2:=Y1 (HB1.out.next hb2);have hr:=Z6p t q w2 (HQ.out.next hbw);clear hd hb2 hbw c0 c1 c2 c3 c4;obtain ⟨_,⟨c0,c1,c2,c3,c4⟩,_⟩:=HB2.out;cases hrt:right t
   all_goals
    rw[hrt] at hr HF;clear hrt
    go_wp2_with fail
    refine hr.mono ?_;rintro e w' ⟨rfl,hb'⟩;go_wp2;go_ret;exact ⟨Z0w (by rw[HF.out]; rfl),Z00 HBW2.out hb'⟩}}
theorem Z9C {l m:List Sh} (hl:l.length=m.length) (h: ∀j (hj:j < l.length),eqB (l[j]'hj) (m[j]'(by omega))=true):eqs l m=true:=
 (Z6r l m).2 (List.ext_getElem hl (fun j h1 h2=>(Z29 _ _).1 (h j h1)))
def headB (t u:Sh):Bool:=t.kind==u.kind&&t.of_==u.of_&&t.name==u.name&&decide (t.names.length=u.names.length)&&decide (t.parts.length=u.parts.length)
theorem Z9h {t u:Sh} (h:headB t u=false):eqB t u=false:=by
 apply Z49;rintro rfl;simp[headB] at h
theorem Z8F {t u:Sh} {i:Nat} (hi:i < t.names.length) (hm:i < u.names.length) (h:t.names[i]'hi≠u.names[i]'hm):eqB t u=false:=by
 apply Z49;rintro rfl;exact h rfl
theorem Z8G {t u:Sh} {i:Nat} (hi:i < t.parts.length) (hm:i < u.parts.length) (h:eqB (t.parts[i]'hi) (u.parts[i]'hm)=false):eqB t u=false:=by
 apply Z49;rintro rfl;rw[Z0Q] at h; cases h
theorem Z9D {t u:Sh} (h:headB t u=true) (hn: ∀j (hj:j < t.names.length) (hj':j < u.names.length),t.names[j]'hj=u.names[j]'hj') (hp: ∀j (hj:j < t.parts.length) (hj':j < u.parts.length),eqB (t.parts[j]'hj) (u.parts[j]'hj')=true):eqB t u=true:=by
 simp only[headB,Bool.and_eq_true,beq_iff_eq,decide_eq_true_eq] at h;obtain ⟨⟨⟨⟨h1,h2⟩,h3⟩,h4⟩,h5⟩:=h;rw[Z7J,h1,h2,h3];simp only[beq_self_eq_true,Bool.true_and,Bool.and_eq_true];exact ⟨beq_iff_eq.2 (List.ext_getElem h4 (fun j a b=>hn j a b)),Z9C h5 (fun j hj=>hp j hj (by omega))⟩
theorem Z6q (t u:Sh) (q r:Ptr) (w:World) (hq:ShAt w w.heap.size q t) (hr:ShAt w w.heap.size r u) (hh:headB t u=false):
 Y9 17 #[.agg (Y8 t q),.agg (Y8 u r)] w (.bool (eqB t u)):=by
 have HF:=Y1 (Z9h hh);have hb0:=Z01 w (.cells (Y8 t q) 25);have hb1:=Z06 hb0 (.cells (Y8 u r) 25);have HB1:=Y1 hb1;have hB:=(Z03 w t q).next (Z01 _ (.cells (Y8 u r) 25));have hC:=Z03 (w.alloc (.cells (Y8 t q) 25)) u r;obtain ⟨_,⟨c0,c1,c2,c3,c4⟩,_⟩:=hB;obtain ⟨_,⟨d0,d1,d2,d3,d4⟩,_⟩:=hC;clear hb0 hb1;rw[World.size_alloc] at d0 d1 d2 d3 d4;have HH:=Y1 hh;clear hh;have h4: ((t.names.length:Int)==(u.names.length:Int))=decide (t.names.length=u.names.length):=by rw[Bool.eq_iff_iff,beq_iff_eq,decide_eq_true_eq]; omega
 have h5: ((t.parts.length:Int)==(u.parts.length:Int))=decide (t.parts.length=u.parts.length):=by rw[Bool.eq_iff_iff,beq_iff_eq,decide_eq_true_eq]; omega
 unfold headB at HH;rw[<-h4, <-h5] at HH;clear h4 h5;cases e1: (t.kind==u.kind)
 {have n1: (t.kind !=u.kind)=true:=by unfold bne; rw[e1]; rfl
  go_enter Tryd.func17,Tryd.ntmps17;go_wp2;go_ret;exact ⟨by rw[HF.out]; rfl,HB1.out⟩}
 {have n1: (t.kind !=u.kind)=false:=by unfold bne; rw[e1]; rfl
  rw[e1,Bool.true_and] at HH;cases e2: (t.of_==u.of_)
  {have n2: (t.of_ !=u.of_)=true:=by unfold bne; rw[e2]; rfl
   go_enter Tryd.func17,Tryd.ntmps17;go_wp2;go_ret;exact ⟨by rw[HF.out]; rfl,HB1.out⟩}
  {have n2: (t.of_ !=u.of_)=false:=by unfold bne; rw[e2]; rfl
   rw[e2,Bool.true_and] at HH;cases e3: (t.name==u.name)
   {have n3: (t.name !=u.name)=true:=by unfold bne; rw[e3]; rfl
    go_enter Tryd.func17,Tryd.ntmps17;go_wp2;go_ret;exact ⟨by rw[HF.out]; rfl,HB1.out⟩}
   {have n3: (t.name !=u.name)=false:=by unfold bne; rw[e3]; rfl
    rw[e3,Bool.true_and] at HH;cases e4: ((t.names.length:Int)==(u.names.length:Int))
    {have n4: ((t.names.length:Int) !=(u.names.length:Int))=true:=by unfold bne; rw[e4]; rfl
     go_enter Tryd.func17,Tryd.ntmps17;go_wp2;go_ret;exact ⟨by rw[HF.out]; rfl,HB1.out⟩}
    {have n4: ((t.names.length:Int) !=(u.names.length:Int))=false:=by unfold bne; rw[e4]; rfl
     rw[e4,Bool.true_and] at HH;have e5:=HH.out;have n5: ((t.parts.length:Int) !=(u.parts.length:Int))=true:=by unfold bne; rw[e5]; rfl
     go_enter Tryd.func17,Tryd.ntmps17;go_wp2;go_ret;exact ⟨by rw[HF.out]; rfl,HB1.out⟩}}}}
def Z4G (w:World) (P:Option Addr) (l:List Sh):Prop:=
 ∃(g off:Nat) (qs:Nat->Ptr),l.length=0\/P=some ⟨g,off,none⟩/\g < w.heap.size/\(∀i (h:i < l.length),Sh5 w g (off+i * 5) (l[i]'h) (qs i))/\ ∀i (h:i < l.length),ShAt w w.heap.size (qs i) (l[i]'h)
theorem Z4G.next {w w':World} {P:Option Addr} {l:List Sh} (h:Z4G w P l) (hb:Below w.heap.size w w'):Z4G w' P l:=by
 obtain ⟨g,off,qs,h⟩:=h;rcases h with h | ⟨h1,h2,h3,h4⟩
 {exact ⟨g,off,qs,Or.inl h⟩}
 {exact ⟨g,off,qs,Or.inr ⟨h1,Nat.lt_of_lt_of_le h2 hb.size,fun i hi=>(h3 i hi).keep h2 hb,fun i hi=>(h4 i hi).next hb⟩⟩}
def wantSh (t:Sh):Want:=⟨fun v W=> ∃q:Ptr,v= .agg (Y8 t q)/\ShAt W W.heap.size q t,fun v w w' hb ⟨q,hv,h⟩=>⟨q,hv,h.next hb⟩⟩
end
end Go.Proofs.YthajhofgjhfjeaaDoor
namespace Go.Proofs.YthajhofgjhfjeaaDoor
open Go.RowKit Shp Sub
namespace SubM
theorem mayBe_walk (t:Sh) (q:Ptr) (w:World) (hq:ShAt w w.heap.size q t) (hg:WGlobs w):
 Y9 18 #[sv t q] w (.bool (decide (check t=0))):=by
 have hb0:=Z01 w (.cells (Y8 t q) 25);have HB0:=Y1 hb0;have HB:=Y1 (Z03 w t q);have HQ:=Y1 (hq.next hb0);have HG:=Y1 (hg.next hb0);obtain ⟨_,⟨c0,c1,c2,c3,c4⟩,_⟩:=HB.out;simp only[Nat.zero_add] at c0 c1 c2 c3 c4;clear hb0 hq hg;unfold sv;go_enter Tryd.func18,Tryd.ntmps18
 go_wp2_with fail
 refine (Z0v t q _ HQ.out HG.out).mono ?_;rintro e W1 ⟨rfl,hb1⟩;have HB1:=Y1 (Z00 HB0.out hb1);clear hb1;go_wp2;go_ret;exact ⟨Z08 (by rw[Bool.eq_iff_iff,beq_iff_eq,decide_eq_true_eq]),HB1.out⟩
theorem Zad (a b:Sh) (pa pb:Ptr) (w:World) (ha:ShAt w w.heap.size pa a) (hb:ShAt w w.heap.size pb b) (hg:WGlobs w):
 Y9 8 #[sv a pa,sv b pb] w (.bool (Sub.below a b)):=by
 have hb1:=Z01 w (.cells (Y8 a pa) 25);obtain ⟨w1,hw1⟩: ∃w1,w1=w.alloc (.cells (Y8 a pa) 25):=⟨_,rfl⟩;have hb2:=Z01 w1 (.cells (Y8 b pb) 25);obtain ⟨w2,hw2⟩: ∃w2,w2=w1.alloc (.cells (Y8 b pb) 25):=⟨_,rfl⟩;have hs1:w1.heap.size=w.heap.size+1:=by rw[hw1]; simp
 rw[<-hw1] at hb1;rw[<-hw2] at hb2;have hB1:Box5 w1 w.heap.size a pa:=by rw[hw1]; exact Z03 w a pa
 have hB2:Box5 w2 w1.heap.size b pb:=by rw[hw2]; exact Z03 w1 b pb
 have hBA:=hB1.next hb2;rw[hs1] at hB2;have HBA:=Y1 hBA;have HBB:=Y1 hB2;have hbw:=Z00 hb1 hb2;have HA:=Y1 (ha.next hbw);have HB:=Y1 (hb.next hbw);have HG:=Y1 (hg.next hbw);have HW:=Y1 hbw;obtain ⟨_,⟨a0,a1,a2,a3,a4⟩,_⟩:=hBA;simp only[Nat.zero_add] at a0 a1 a2 a3 a4;have hw1':=hw1.symm;have hw2':=hw2.symm;clear hw1 hw2 hb1 hb2 hB1 hB2 hbw ha hb hg;unfold sv;go_enter Tryd.func8,Tryd.ntmps8
 go_wp2_with fail
 refine (mayBe_walk a pa w2 HA.out HG.out).mono ?_;rintro e w3 ⟨rfl,hb3⟩;have HB3:=Y1 hb3;clear hb3 a0 a1 a2 a3 a4;by_cases ca:check a=0
 {have HCA:=Y1 ca;rw[decide_eq_true ca];clear ca;obtain ⟨_,⟨b0,b1,b2,b3,b4⟩,_⟩:=HBB.out.next HB3.out;simp only[Nat.zero_add] at b0 b1 b2 b3 b4
  go_wp2_with fail
  refine (mayBe_walk b pb w3 (HB.out.next HB3.out) (HG.out.next HB3.out)).mono ?_;rintro e w4 ⟨rfl,hb4⟩;have HB4:=Y1 (Z00 HB3.out hb4);clear hb4 b0 b1 b2 b3 b4;by_cases cb:check b=0
  {have HCB:=Y1 cb;rw[decide_eq_true cb];clear cb;obtain ⟨_,⟨a0,a1,a2,a3,a4⟩,_⟩:=HBA.out.next HB4.out;obtain ⟨_,⟨b0,b1,b2,b3,b4⟩,_⟩:=HBB.out.next HB4.out;simp only[Nat.zero_add] at a0 a1 a2 a3 a4 b0 b1 b2 b3 b4;have hta:Two 40 a b:=⟨(Z0C HCA.out).2.2,(Z0C HCB.out).2.2,(Z0C HCA.out).2.1,(Z0C HCB.out).2.1,(Z0C HCA.out).1,(Z0C HCB.out).1⟩;have HU:=Y1 (ZbW 40 a b pa pb w4.heap.size w4 hta (HA.out.next HB4.out) (HB.out.next HB4.out) (Nat.le_refl _));unfold sv at HU;clear hta
   go_wp2_with fail
   refine HU.out.mono ?_;rintro e w5 ⟨rfl,hb5⟩;have HB5:=Y1 (Z00 HW.out (Z00 HB4.out hb5));clear hb5 HU a0 a1 a2 a3 a4 b0 b1 b2 b3 b4;go_wp2;go_ret;exact ⟨by unfold Sub.below; rw[decide_eq_true HCA.out,decide_eq_true HCB.out]; rfl,HB5.out⟩}
  {have HCB:=Y1 cb;rw[decide_eq_false cb];clear cb;go_wp2;go_ret;exact ⟨by rw[Zb3 (fun h=>HCB.out h.2)]; rfl,Z00 HW.out HB4.out⟩}}
 {have HCA:=Y1 ca;rw[decide_eq_false ca];clear ca;go_wp2;go_ret;exact ⟨by rw[Zb3 (fun h=>HCA.out h.1)]; rfl,Z00 HW.out HB3.out⟩}
end SubM
end Go.Proofs.YthajhofgjhfjeaaDoor
namespace Go.Proofs.YthajhofgjhfjeaaDoor
open Go.RowKit Shp Sub
namespace SubM
def Za7:Sh:=⟨0,[],[],[],[]⟩
def JIs (up:Bool) (a b:Sh) (w:World) (e:Ending) (w':World):Prop:=
 ∃q,e= .returned (.tuple #[sv ((J up a b).getD Za7) q,.bool (J up a b).isSome])/\Kept (fun b=>w.heap.size<=b) w' ((J up a b).getD Za7,q)/\Below w.heap.size w w'
theorem ZcE (S:Nat->Prop) (W:World):Kept S W (Za7,noneQ12):=fun W' _ _=>
 .mk _ _ 0 0 (fun _=>noneQ12) ⟨by simp[Za7],by simp[Za7],by simp[Za7],by simp[Za7],by simp[Za7],by simp[Za7],by simp[Za7],fun _=>rfl,fun _=>rfl⟩ (Or.inl rfl) (Or.inl rfl) (fun i hi=>by simp[Za7] at hi) (fun i hi=>by simp[Za7] at hi)
theorem ZaU {up:Bool} {a b:Sh} {w W:World} (hb:Below w.heap.size w W) (h:J up a b=none):JIs up a b w (.returned (.tuple #[.agg #[.int .i64 0,.string ⟨#[]⟩,.string ⟨#[]⟩,.slice none 0 0,.slice none 0 0],.bool false])) W:=
 ⟨noneQ12,by rw[h]; rfl,by rw[h]; exact ZcE _ _,hb⟩
theorem ZcL {W:World} {q:Ptr} {t:Sh} {F:List Nat} {B:Nat} (h:Own W q t F) (hF: ∀b∈F,B<=b):Kept (fun b=>B<=b) W (t,q):=fun W' hz hs=>by
 have h2:Own W' q t F:=h.of (fun x hx=>⟨fun k=>World.cell?_of_block (w:=W) (hs x (h.lt x hx) (hF x hx)),fun k=>World.frozen?_of_block (w:=W) (hs x (h.lt x hx) (hF x hx))⟩) hz;exact h2.at_ (fun x hx=>Nat.lt_of_lt_of_le (h.lt x hx) hz)
theorem Zbk (up:Bool) (a b:Sh) (pa pb:Ptr) (w:World) (ha:ShAt w w.heap.size pa a) (hb:ShAt w w.heap.size pb b) (hg:WGlobs w):
 Calls Tryd.prog 29 #[sv a pa,sv b pb,.func (.func (bfn up)) #[] #[]] w (JIs up a b w):=by
 have hen:=ZaL up;have hb1:=Z01 w (.cells (Y8 a pa) 25);obtain ⟨w1,hw1⟩: ∃w1,w1=w.alloc (.cells (Y8 a pa) 25):=⟨_,rfl⟩;have hs1:w1.heap.size=w.heap.size+1:=by rw[hw1]; simp
 have hb2:=Z01 w1 (.cells (Y8 b pb) 25);obtain ⟨w2,hw2⟩: ∃w2,w2=w1.alloc (.cells (Y8 b pb) 25):=⟨_,rfl⟩;have hs2:w2.heap.size=w1.heap.size+1:=by rw[hw2]; simp
 have hb3:=Z01 w2 (.cells Yb 25);obtain ⟨w3,hw3⟩: ∃w3,w3=w2.alloc (.cells Yb 25):=⟨_,rfl⟩;have hs3:w3.heap.size=w2.heap.size+1:=by rw[hw3]; simp
 rw[<-hw1] at hb1;rw[<-hw2] at hb2;rw[<-hw3] at hb3;have hbw:=Z00 hb1 (Z00 hb2 hb3);have hrc:Rc (w.heap.size+1+1) w3:=by
  have h:=Zax hw3
  rwa [show w2.heap.size=w.heap.size+1+1 from by omega] at h
 have hB1:Box5 w1 w.heap.size a pa:=by rw[hw1]; exact Z03 w a pa
 have hB2:Box5 w2 w1.heap.size b pb:=by rw[hw2]; exact Z03 w1 b pb
 have hBA:=(hB1.next hb2).next hb3;have hBB:=hB2.next hb3;rw[hs1] at hBB;have HBA:=Y1 hBA;have HBB:=Y1 hBB;have HA:=Y1 (ha.next hbw);have HB:=Y1 (hb.next hbw);have HG:=Y1 (hg.next hbw);have HW:=Y1 hbw;have HZ:Hid (w3.heap.size=w.heap.size+1+1+1):=Y1 (by omega);have HR:=Y1 hrc;obtain ⟨_,⟨a0,a1,a2,a3,a4⟩,_⟩:=hBA;obtain ⟨_,⟨b0,b1,b2,b3,b4⟩,_⟩:=hBB;simp only[Nat.zero_add] at a0 a1 a2 a3 a4 b0 b1 b2 b3 b4;have hw1':=hw1.symm;have hw2':=hw2.symm;have hw3':=hw3.symm;have lw:w.heap.size+1+1 < w3.heap.size:=by omega
 clear hw1 hw2 hw3 hb1 hb2 hb3 hB1 hB2 hbw ha hb hg hrc;unfold sv;go_enter Tryd.func29,Tryd.ntmps29
 go_wp2_with fail
 refine (mayBe_walk a pa w3 HA.out HG.out).mono ?_;rintro e w4 ⟨rfl,hb4⟩;have HB4:=Y1 hb4;clear hb4 a0 a1 a2 a3 a4 b0 b1 b2 b3 b4;by_cases ca:check a=0
 {have HCA:=Y1 ca;rw[decide_eq_true ca];clear ca;obtain ⟨_,⟨b0,b1,b2,b3,b4⟩,_⟩:=HBB.out.next HB4.out;simp only[Nat.zero_add] at b0 b1 b2 b3 b4
  go_wp2_with fail
  refine (mayBe_walk b pb w4 (HB.out.next HB4.out) (HG.out.next HB4.out)).mono ?_;rintro e w5 ⟨rfl,hb5⟩;have HB5:=Y1 (Z00 HB4.out hb5);clear hb5 b0 b1 b2 b3 b4;by_cases cb:check b=0
  {have HCB:=Y1 cb;rw[decide_eq_true cb];clear cb;obtain ⟨_,⟨a0,a1,a2,a3,a4⟩,_⟩:=HBA.out.next HB5.out;obtain ⟨_,⟨b0,b1,b2,b3,b4⟩,_⟩:=HBB.out.next HB5.out;simp only[Nat.zero_add] at a0 a1 a2 a3 a4 b0 b1 b2 b3 b4;have hta:Two 40 a b:=⟨(Z0C HCA.out).2.2,(Z0C HCB.out).2.2,(Z0C HCA.out).2.1,(Z0C HCB.out).2.1,(Z0C HCA.out).1,(Z0C HCB.out).1⟩;have HU:=Y1 (Zck 40 up a b pa pb w5.heap.size w5 hta (HA.out.next HB5.out) (HB.out.next HB5.out) (Nat.le_refl _));have HJ:Hid (J up a b=Sub.whole (bound 40 up a b)):=Y1 (by unfold J; rw[if_pos ⟨HCA.out,HCB.out⟩]);unfold sv at HU;clear hta
   go_wp2_with fail
   refine HU.out.mono ?_;rintro e w6 ⟨t,q,rfl,hb6,hj⟩;have hb7:=Z01 w6 (.cells (Y8 t q) 25);obtain ⟨w7,hw7⟩: ∃w7,w7=w6.alloc (.cells (Y8 t q) 25):=⟨_,rfl⟩;have hbx:Box5 w7 w6.heap.size t q:=by rw[hw7]; exact Z03 w6 t q
   rw[<-hw7] at hb7;have HB7:=Y1 (Z00 HB5.out (Z00 hb6 hb7));have HBX:=Y1 hbx;have HKP:Hid (∀j,bound 40 up a b=some j->t=j/\ShAt w7 w7.heap.size q j):=Y1 (fun j hb=>by
    obtain ⟨e,hk⟩:=hj j hb;exact ⟨e,(hk.upd (T:=fun _=>False) (Upd.new hb7) (fun _ _ _ h=>h)).here⟩)
   obtain ⟨_,⟨x0,x1,x2,x3,x4⟩,_⟩:=hbx;simp only[Nat.zero_add] at x0 x1 x2 x3 x4;have hw7':=hw7.symm;have hl7:w.heap.size+1+1 < w6.heap.size:=by have:=HB5.out.size; have:=hb6.size; omega
   clear hw7 hb6 hb7 hj HU a0 a1 a2 a3 a4 b0 b1 b2 b3 b4 hen;cases hbd:bound 40 up a b with
   | none=>
    have HN:Hid (J up a b=none):=Y1 (by rw[HJ.out,hbd]; rfl);simp only[Option.isSome_none];clear hbd;unfold sv;have hR:=HR.out.upd (T:=fun _=>False) (Upd.new (HB7.out)) (fun h=>h);have HLY:=Y1 (RX.lay_at Za7 noneQ12 (W:=w7) (g:=w.heap.size+1+1) hR.ex);have HUP:=Y1 (RX.lay_upd w7 (w.heap.size+1+1) Za7 noneQ12);obtain ⟨v0,y0⟩:=hR.ex 0 (by omega);obtain ⟨v1,y1⟩:=hR.ex 1 (by omega);obtain ⟨v2,y2⟩:=hR.ex 2 (by omega);obtain ⟨v3,y3⟩:=hR.ex 3 (by omega);obtain ⟨v4,y4⟩:=hR.ex 4 (by omega);have z0:=hR.fz 0;have z1:=hR.fz 1;have z2:=hR.fz 2;have z3:=hR.fz 3;have z4:=hR.fz 4;clear hR;go_wp2;obtain ⟨u0,u1,u2,u3,u4⟩:=HLY.out;unfold RX.lay Za7 at u0 u1 u2 u3 u4;simp only[Nat.zero_add,List.length_nil] at u0 u1 u2 u3 u4;refine bodyPost_ret (v:= .tuple #[.agg #[.int .i64 0,.string ⟨#[]⟩,.string ⟨#[]⟩,.slice none 0 0,.slice none 0 0],.bool false]) (by simp[results,Tryd.results29,go_sem,u0,u1,u2,u3,u4]) rfl ?_;exact ZaU ((Z00 HW.out (HB7.out)).trans (HUP.out.below (by have h1:=HW.out.size; have h2:=(HB7.out).size; omega) (fun x hx=>by omega))) (HN.out)
   | some j=>
    obtain ⟨rfl,hat⟩:=HKP.out j hbd;have HJ2:Hid (J up a b=Sub.whole (some t)):=Y1 (by rw[HJ.out,hbd]);have HAT:=Y1 hat;simp only[Option.isSome_some];clear hbd hat;unfold sv
    go_wp2_with fail
    refine (mayBe_walk t q w7 HAT.out (HG.out.next HB7.out)).mono ?_;rintro e w8 ⟨rfl,hb8⟩;have HB8:=Y1 (Z00 HB7.out hb8);have HA8:=Y1 (HAT.out.next hb8);have HBX8:=Y1 (HBX.out.next hb8);clear hb8 x0 x1 x2 x3 x4;by_cases ct:check t=0
    {have HCT:=Y1 ct;rw[decide_eq_true ct];clear ct;obtain ⟨_,⟨x0,x1,x2,x3,x4⟩,_⟩:=HBX8.out;simp only[Nat.zero_add] at x0 x1 x2 x3 x4
     go_wp2_with fail
     refine (Z4w t q w8 HA8.out (HG.out.next HB8.out) HCT.out).mono ?_;rintro e w9 ⟨q9,F,rfl,hown,hF,hb9⟩;have HJS:Hid (J up a b=some (sorted t)):=Y1 (by rw[HJ2.out]; unfold Sub.whole; simp[HCT.out]);obtain ⟨z,hz⟩: ∃z,z=sorted t:=⟨_,rfl⟩;rw[<-hz] at hown HJS ⊢;have hb39:=Z00 HB8.out hb9;have hR:=HR.out.upd (T:=fun _=>False) (Upd.new hb39) (fun h=>h);have hK:Kept (fun b=>w3.heap.size<=b) w9 (z,q9):=ZcL hown (fun b hb=>by have h1:=hF b hb; have h2:=HB8.out.size; omega);have HK:=Y1 (hK.move (S':=fun b=>w.heap.size<=b) (RX.lay_upd w9 (w.heap.size+1+1) z q9) (fun b _ hf=>⟨fun e=>by have e:b=w.heap.size+1+1:=e; omega,by omega⟩));have HBF:=Y1 ((Z00 HW.out hb39).trans ((RX.lay_upd w9 (w.heap.size+1+1) z q9).below (by have h1:=HW.out.size; have h2:=hb39.size; omega) (fun x hx=>by omega)));have HLY:=Y1 (RX.lay_at z q9 (W:=w9) (g:=w.heap.size+1+1) hR.ex);obtain ⟨v0,y0⟩:=hR.ex 0 (by omega);obtain ⟨v1,y1⟩:=hR.ex 1 (by omega);obtain ⟨v2,y2⟩:=hR.ex 2 (by omega);obtain ⟨v3,y3⟩:=hR.ex 3 (by omega);obtain ⟨v4,y4⟩:=hR.ex 4 (by omega);have z0:=hR.fz 0;have z1:=hR.fz 1;have z2:=hR.fz 2;have z3:=hR.fz 3;have z4:=hR.fz 4;clear hR hK hown hF hb9 hb39 hz x0 x1 x2 x3 x4;go_wp2;obtain ⟨u0,u1,u2,u3,u4⟩:=HLY.out;unfold RX.lay at u0 u1 u2 u3 u4;simp only[Nat.zero_add] at u0 u1 u2 u3 u4;refine bodyPost_ret (v:= .tuple #[sv z q9,.bool true]) (by simp[results,Tryd.results29,go_sem,u0,u1,u2,u3,u4]) rfl ?_;refine ⟨q9, ?_, ?_,HBF.out⟩
     {rw[HJS.out]; rfl}
     {rw[HJS.out]; exact HK.out}}
    {have HN:Hid (J up a b=none):=Y1 (by rw[HJ2.out]; unfold Sub.whole; simp[ct]);rw[decide_eq_false ct];clear ct;have hR:=HR.out.upd (T:=fun _=>False) (Upd.new (HB8.out)) (fun h=>h);have HLY:=Y1 (RX.lay_at Za7 noneQ12 (W:=w8) (g:=w.heap.size+1+1) hR.ex);have HUP:=Y1 (RX.lay_upd w8 (w.heap.size+1+1) Za7 noneQ12);obtain ⟨v0,y0⟩:=hR.ex 0 (by omega);obtain ⟨v1,y1⟩:=hR.ex 1 (by omega);obtain ⟨v2,y2⟩:=hR.ex 2 (by omega);obtain ⟨v3,y3⟩:=hR.ex 3 (by omega);obtain ⟨v4,y4⟩:=hR.ex 4 (by omega);have z0:=hR.fz 0;have z1:=hR.fz 1;have z2:=hR.fz 2;have z3:=hR.fz 3;have z4:=hR.fz 4;clear hR;go_wp2;obtain ⟨u0,u1,u2,u3,u4⟩:=HLY.out;unfold RX.lay Za7 at u0 u1 u2 u3 u4;simp only[Nat.zero_add,List.length_nil] at u0 u1 u2 u3 u4;refine bodyPost_ret (v:= .tuple #[.agg #[.int .i64 0,.string ⟨#[]⟩,.string ⟨#[]⟩,.slice none 0 0,.slice none 0 0],.bool false]) (by simp[results,Tryd.results29,go_sem,u0,u1,u2,u3,u4]) rfl ?_;exact ZaU ((Z00 HW.out (HB8.out)).trans (HUP.out.below (by have h1:=HW.out.size; have h2:=(HB8.out).size; omega) (fun x hx=>by omega))) (HN.out)}}
  {have HN:Hid (J up a b=none):=Y1 (by unfold J; rw[if_neg (fun h=>cb h.2)]);rw[decide_eq_false cb];clear cb hen;have hR:=HR.out.upd (T:=fun _=>False) (Upd.new (HB5.out)) (fun h=>h);have HLY:=Y1 (RX.lay_at Za7 noneQ12 (W:=w5) (g:=w.heap.size+1+1) hR.ex);have HUP:=Y1 (RX.lay_upd w5 (w.heap.size+1+1) Za7 noneQ12);obtain ⟨v0,y0⟩:=hR.ex 0 (by omega);obtain ⟨v1,y1⟩:=hR.ex 1 (by omega);obtain ⟨v2,y2⟩:=hR.ex 2 (by omega);obtain ⟨v3,y3⟩:=hR.ex 3 (by omega);obtain ⟨v4,y4⟩:=hR.ex 4 (by omega);have z0:=hR.fz 0;have z1:=hR.fz 1;have z2:=hR.fz 2;have z3:=hR.fz 3;have z4:=hR.fz 4;clear hR;go_wp2;obtain ⟨u0,u1,u2,u3,u4⟩:=HLY.out;unfold RX.lay Za7 at u0 u1 u2 u3 u4;simp only[Nat.zero_add,List.length_nil] at u0 u1 u2 u3 u4;refine bodyPost_ret (v:= .tuple #[.agg #[.int .i64 0,.string ⟨#[]⟩,.string ⟨#[]⟩,.slice none 0 0,.slice none 0 0],.bool false]) (by simp[results,Tryd.results29,go_sem,u0,u1,u2,u3,u4]) rfl ?_;exact ZaU ((Z00 HW.out (HB5.out)).trans (HUP.out.below (by have h1:=HW.out.size; have h2:=(HB5.out).size; omega) (fun x hx=>by omega))) (HN.out)}}
 {have HN:Hid (J up a b=none):=Y1 (by unfold J; rw[if_neg (fun h=>ca h.1)]);rw[decide_eq_false ca];clear ca hen;have hR:=HR.out.upd (T:=fun _=>False) (Upd.new (HB4.out)) (fun h=>h);have HLY:=Y1 (RX.lay_at Za7 noneQ12 (W:=w4) (g:=w.heap.size+1+1) hR.ex);have HUP:=Y1 (RX.lay_upd w4 (w.heap.size+1+1) Za7 noneQ12);obtain ⟨v0,y0⟩:=hR.ex 0 (by omega);obtain ⟨v1,y1⟩:=hR.ex 1 (by omega);obtain ⟨v2,y2⟩:=hR.ex 2 (by omega);obtain ⟨v3,y3⟩:=hR.ex 3 (by omega);obtain ⟨v4,y4⟩:=hR.ex 4 (by omega);have z0:=hR.fz 0;have z1:=hR.fz 1;have z2:=hR.fz 2;have z3:=hR.fz 3;have z4:=hR.fz 4;clear hR;go_wp2;obtain ⟨u0,u1,u2,u3,u4⟩:=HLY.out;unfold RX.lay Za7 at u0 u1 u2 u3 u4;simp only[Nat.zero_add,List.length_nil] at u0 u1 u2 u3 u4;refine bodyPost_ret (v:= .tuple #[.agg #[.int .i64 0,.string ⟨#[]⟩,.string ⟨#[]⟩,.slice none 0 0,.slice none 0 0],.bool false]) (by simp[results,Tryd.results29,go_sem,u0,u1,u2,u3,u4]) rfl ?_;exact ZaU ((Z00 HW.out (HB4.out)).trans (HUP.out.below (by have h1:=HW.out.size; have h2:=(HB4.out).size; omega) (fun x hx=>by omega))) (HN.out)}
section
variable (a b : Sh) (pa pb : Ptr) (w : World) (ha : ShAt w w.heap.size pa a) (hb : ShAt w w.heap.size pb b) (hg : WGlobs w)
include a b pa pb w ha hb hg
theorem ZaV:
 Calls Tryd.prog 14 #[sv a pa,sv b pb] w (JIs true a b w):=by
 have hb1:=Z01 w (.cells (Y8 a pa) 25);obtain ⟨w1,hw1⟩: ∃w1,w1=w.alloc (.cells (Y8 a pa) 25):=⟨_,rfl⟩;have hs1:w1.heap.size=w.heap.size+1:=by rw[hw1]; simp
 have hb2:=Z01 w1 (.cells (Y8 b pb) 25);obtain ⟨w2,hw2⟩: ∃w2,w2=w1.alloc (.cells (Y8 b pb) 25):=⟨_,rfl⟩;have hs2:w2.heap.size=w1.heap.size+1:=by rw[hw2]; simp
 have hb3:=Z01 w2 (.cells Yb 25);obtain ⟨w3,hw3⟩: ∃w3,w3=w2.alloc (.cells Yb 25):=⟨_,rfl⟩;have hs3:w3.heap.size=w2.heap.size+1:=by rw[hw3]; simp
 rw[<-hw1] at hb1;rw[<-hw2] at hb2;rw[<-hw3] at hb3;have hbw:=Z00 hb1 (Z00 hb2 hb3);have hrc:Rc (w.heap.size+1+1) w3:=by
  have h:=Zax hw3
  rwa [show w2.heap.size=w.heap.size+1+1 from by omega] at h
 have hB1:Box5 w1 w.heap.size a pa:=by rw[hw1]; exact Z03 w a pa
 have hB2:Box5 w2 w1.heap.size b pb:=by rw[hw2]; exact Z03 w1 b pb
 have hBA:=(hB1.next hb2).next hb3;have hBB:=hB2.next hb3;rw[hs1] at hBB;have HBA:=Y1 hBA;have HBB:=Y1 hBB;have HA:=Y1 (ha.next hbw);have HB:=Y1 (hb.next hbw);have HG:=Y1 (hg.next hbw);have HW:=Y1 hbw;have HZ:Hid (w3.heap.size=w.heap.size+1+1+1):=Y1 (by omega);have HR:=Y1 hrc;obtain ⟨_,⟨a0,a1,a2,a3,a4⟩,_⟩:=hBA;obtain ⟨_,⟨b0,b1,b2,b3,b4⟩,_⟩:=hBB;simp only[Nat.zero_add] at a0 a1 a2 a3 a4 b0 b1 b2 b3 b4;have hw1':=hw1.symm;have hw2':=hw2.symm;have hw3':=hw3.symm;have lw:w.heap.size+1+1 < w3.heap.size:=by omega
 clear hw1 hw2 hw3 hb1 hb2 hb3 hB1 hB2 hbw ha hb hg hrc;have HE:=Y1 (Zbk true a b pa pb w3 HA.out HB.out HG.out);unfold sv bfn at HE;simp only[Bool.false_eq_true,if_true,if_false] at HE;unfold sv;go_enter Tryd.func14,Tryd.ntmps14
 go_wp2_with fail
 refine HE.out.mono ?_;rintro e w9 ⟨q9,rfl,hK,hb39⟩;obtain ⟨z,hz⟩: ∃z,z=(J true a b).getD Za7:=⟨_,rfl⟩;have HZZ:=Y1 hz;rw[<-hz] at hK ⊢;have hR:=HR.out.upd (T:=fun _=>False) (Upd.new hb39) (fun h=>h);have HK:=Y1 (hK.move (S':=fun b=>w.heap.size<=b) (RX.lay_upd w9 (w.heap.size+1+1) z q9) (fun b _ hf=>⟨fun e=>by have e:b=w.heap.size+1+1:=e; omega,by omega⟩));have HBF:=Y1 ((Z00 HW.out hb39).trans ((RX.lay_upd w9 (w.heap.size+1+1) z q9).below (by have h1:=HW.out.size; have h2:=hb39.size; omega) (fun x hx=>by omega)));have HLY:=Y1 (RX.lay_at z q9 (W:=w9) (g:=w.heap.size+1+1) hR.ex);obtain ⟨v0,y0⟩:=hR.ex 0 (by omega);obtain ⟨v1,y1⟩:=hR.ex 1 (by omega);obtain ⟨v2,y2⟩:=hR.ex 2 (by omega);obtain ⟨v3,y3⟩:=hR.ex 3 (by omega);obtain ⟨v4,y4⟩:=hR.ex 4 (by omega);have z0:=hR.fz 0;have z1:=hR.fz 1;have z2:=hR.fz 2;have z3:=hR.fz 3;have z4:=hR.fz 4;clear hR hK hb39 hz HE a0 a1 a2 a3 a4 b0 b1 b2 b3 b4;unfold sv;go_wp2;obtain ⟨u0,u1,u2,u3,u4⟩:=HLY.out;unfold RX.lay at u0 u1 u2 u3 u4;simp only[Nat.zero_add] at u0 u1 u2 u3 u4;refine bodyPost_ret (v:= .tuple #[sv z q9,.bool (J true a b).isSome]) (by simp[results,Tryd.results14,go_sem,u0,u1,u2,u3,u4]) rfl ?_;exact ⟨q9,by rw[HZZ.out],by rw[<-HZZ.out]; exact HK.out,HBF.out⟩
theorem Zcn:
 Calls Tryd.prog 16 #[sv a pa,sv b pb] w (JIs false a b w):=by
 have hb1:=Z01 w (.cells (Y8 a pa) 25);obtain ⟨w1,hw1⟩: ∃w1,w1=w.alloc (.cells (Y8 a pa) 25):=⟨_,rfl⟩;have hs1:w1.heap.size=w.heap.size+1:=by rw[hw1]; simp
 have hb2:=Z01 w1 (.cells (Y8 b pb) 25);obtain ⟨w2,hw2⟩: ∃w2,w2=w1.alloc (.cells (Y8 b pb) 25):=⟨_,rfl⟩;have hs2:w2.heap.size=w1.heap.size+1:=by rw[hw2]; simp
 have hb3:=Z01 w2 (.cells Yb 25);obtain ⟨w3,hw3⟩: ∃w3,w3=w2.alloc (.cells Yb 25):=⟨_,rfl⟩;have hs3:w3.heap.size=w2.heap.size+1:=by rw[hw3]; simp
 rw[<-hw1] at hb1;rw[<-hw2] at hb2;rw[<-hw3] at hb3;have hbw:=Z00 hb1 (Z00 hb2 hb3);have hrc:Rc (w.heap.size+1+1) w3:=by
  have h:=Zax hw3
  rwa [show w2.heap.size=w.heap.size+1+1 from by omega] at h
 have hB1:Box5 w1 w.heap.size a pa:=by rw[hw1]; exact Z03 w a pa
 have hB2:Box5 w2 w1.heap.size b pb:=by rw[hw2]; exact Z03 w1 b pb
 have hBA:=(hB1.next hb2).next hb3;have hBB:=hB2.next hb3;rw[hs1] at hBB;have HBA:=Y1 hBA;have HBB:=Y1 hBB;have HA:=Y1 (ha.next hbw);have HB:=Y1 (hb.next hbw);have HG:=Y1 (hg.next hbw);have HW:=Y1 hbw;have HZ:Hid (w3.heap.size=w.heap.size+1+1+1):=Y1 (by omega);have HR:=Y1 hrc;obtain ⟨_,⟨a0,a1,a2,a3,a4⟩,_⟩:=hBA;obtain ⟨_,⟨b0,b1,b2,b3,b4⟩,_⟩:=hBB;simp only[Nat.zero_add] at a0 a1 a2 a3 a4 b0 b1 b2 b3 b4;have hw1':=hw1.symm;have hw2':=hw2.symm;have hw3':=hw3.symm;have lw:w.heap.size+1+1 < w3.heap.size:=by omega
 clear hw1 hw2 hw3 hb1 hb2 hb3 hB1 hB2 hbw ha hb hg hrc;have HE:=Y1 (Zbk false a b pa pb w3 HA.out HB.out HG.out);unfold sv bfn at HE;simp only[Bool.false_eq_true,if_true,if_false] at HE;unfold sv;go_enter Tryd.func16,Tryd.ntmps16
 go_wp2_with fail
 refine HE.out.mono ?_;rintro e w9 ⟨q9,rfl,hK,hb39⟩;obtain ⟨z,hz⟩: ∃z,z=(J false a b).getD Za7:=⟨_,rfl⟩;have HZZ:=Y1 hz;rw[<-hz] at hK ⊢;have hR:=HR.out.upd (T:=fun _=>False) (Upd.new hb39) (fun h=>h);have HK:=Y1 (hK.move (S':=fun b=>w.heap.size<=b) (RX.lay_upd w9 (w.heap.size+1+1) z q9) (fun b _ hf=>⟨fun e=>by have e:b=w.heap.size+1+1:=e; omega,by omega⟩));have HBF:=Y1 ((Z00 HW.out hb39).trans ((RX.lay_upd w9 (w.heap.size+1+1) z q9).below (by have h1:=HW.out.size; have h2:=hb39.size; omega) (fun x hx=>by omega)));have HLY:=Y1 (RX.lay_at z q9 (W:=w9) (g:=w.heap.size+1+1) hR.ex);obtain ⟨v0,y0⟩:=hR.ex 0 (by omega);obtain ⟨v1,y1⟩:=hR.ex 1 (by omega);obtain ⟨v2,y2⟩:=hR.ex 2 (by omega);obtain ⟨v3,y3⟩:=hR.ex 3 (by omega);obtain ⟨v4,y4⟩:=hR.ex 4 (by omega);have z0:=hR.fz 0;have z1:=hR.fz 1;have z2:=hR.fz 2;have z3:=hR.fz 3;have z4:=hR.fz 4;clear hR hK hb39 hz HE a0 a1 a2 a3 a4 b0 b1 b2 b3 b4;unfold sv;go_wp2;obtain ⟨u0,u1,u2,u3,u4⟩:=HLY.out;unfold RX.lay at u0 u1 u2 u3 u4;simp only[Nat.zero_add] at u0 u1 u2 u3 u4;refine bodyPost_ret (v:= .tuple #[sv z q9,.bool (J false a b).isSome]) (by simp[results,Tryd.results16,go_sem,u0,u1,u2,u3,u4]) rfl ?_;exact ⟨q9,by rw[HZZ.out],by rw[<-HZZ.out]; exact HK.out,HBF.out⟩
end
end SubM
end Go.Proofs.YthajhofgjhfjeaaDoor
namespace Go.Proofs.YthajhofgjhfjeaaDoor
section
open Go.RowKit Shp
theorem Z0N (t:Sh): ∀(u:Sh) (q r:Ptr) (w:World),ShAt w w.heap.size q t->ShAt w w.heap.size r u->
 Y9 17 #[.agg (Y8 t q),.agg (Y8 u r)] w (.bool (eqB t u)):=by
 induction t using Sh.ind with
 | h t ih=>
 intro u q r w hq hr;cases hh:headB t u with
 | false=>exact Z6q t u q r w hq hr hh
 | true=>
 have HH:=Y1 hh;have hs:=hh;simp only[headB,Bool.and_eq_true,beq_iff_eq,decide_eq_true_eq] at hs;obtain ⟨⟨⟨⟨g1,g2⟩,g3⟩,g4⟩,g5⟩:=hs;have HG4:=Y1 g4;have HG5:=Y1 g5;have HL:=Y1 hq.small.l;have HM:=Y1 hq.small.m;have HP:=Y1 hq.part;have HR:=Y1 hr.part;have HSN:=Y1 hq.strs;have HSM:=Y1 hr.strs;have hb0:=Z01 w (.cells (Y8 t q) 25);have hb1:=Z06 hb0 (.cells (Y8 u r) 25);have HB1:=Y1 hb1;have hB:=(Z03 w t q).next (Z01 _ (.cells (Y8 u r) 25));have hC:=Z03 (w.alloc (.cells (Y8 t q) 25)) u r;rw[World.size_alloc] at hC;have HB:=Y1 hB;have HC:=Y1 hC;obtain ⟨_,⟨c0,c1,c2,c3,c4⟩,_⟩:=hB;obtain ⟨_,⟨d0,d1,d2,d3,d4⟩,_⟩:=hC;have n1: (t.kind !=u.kind)=false:=by rw[g1]; simp
 have n2: (t.of_ !=u.of_)=false:=by rw[g2]; simp
 have n3: (t.name !=u.name)=false:=by rw[g3]; simp
 have n4: ((t.names.length:Int) !=(u.names.length:Int))=false:=by rw[g4]; simp
 have n5: ((t.parts.length:Int) !=(u.parts.length:Int))=false:=by rw[g5]; simp
 have e1: (t.kind==u.kind)=true:=by rw[g1]; simp
 have e2: (t.of_==u.of_)=true:=by rw[g2]; simp
 have e3: (t.name==u.name)=true:=by rw[g3]; simp
 have e4: ((t.names.length:Int)==(u.names.length:Int))=true:=by rw[g4]; simp
 have e5: ((t.parts.length:Int)==(u.parts.length:Int))=true:=by rw[g5]; simp
 clear hb0 hb1 hq hr hh g1 g2 g3 g4 g5;go_enter Tryd.func17,Tryd.ntmps17
 go_wp2_with fail
 generalize hW0: (w.alloc (.cells (Y8 t q) 25)).alloc (.cells (Y8 u r) 25)=W0 at HB HC HB1 ⊢;clear hW0 c0 c1 c2 c3 c4 d0 d1 d2 d3 d4 n1 n2 n3 n4 n5 e1 e2 e3 e4 e5
 go_loopw [5] (fun ii wr=> ∃i:Nat,ii= .int .i64 i/\i<=t.names.length/\Hid (∀j (h:j < t.names.length) (h':j < u.names.length),j < i->t.names[j]'h=u.names[j]'h')/\Below W0.heap.size W0 wr) (fun i _=>t.names.length - (intOf i).toNat)
 case atStart=>exact ⟨0,rfl,Nat.zero_le _,Y1 (fun j _ _ hj=>absurd hj (by omega)),Below.refl _ _⟩
 case round=>
  obtain ⟨i,rfl,hi,HN,hb⟩:=hrel;have hbw:Below w.heap.size w wr:=HB1.out.trans (hb.mono HB1.out.size);have hl:=HL.out;obtain ⟨_,⟨c0,_,_,c3,c4⟩,_⟩:=HB.out.next hb;obtain ⟨_,⟨d0,_,_,d3,d4⟩,_⟩:=HC.out.next hb;by_cases hlt:i < t.names.length
  {have hi1: (i:Int) < (t.names.length:Int):=by omega
   have hi2: (i:Int) < (u.names.length:Int):=by have:=HG4.out; omega
   have hi3:i < u.names.length:=by omega
   rcases (HSN.out.next hbw).cell7 with h0 | ⟨g,off,hqA,hg,hc⟩
   {omega}
   {rcases (HSM.out.next hbw).cell7 with h0 | ⟨g',off',hrA,hg',hc'⟩
    {omega}
    {have p:=hc i hlt;have p':=hc' i hi3;obtain ⟨x,hx⟩: ∃x,x=t.names[i]'hlt:=⟨_,rfl⟩;obtain ⟨y,hy⟩: ∃y,y=u.names[i]'hi3:=⟨_,rfl⟩;rw[<-hx] at p;rw[<-hy] at p';have HX:=Y1 hx;have HY:=Y1 hy;rw[hqA] at c3;rw[hrA] at d3;clear hx hy hc hc' hqA hrA;cases hxy: (x==y)
     {have HF:Hid (eqB t u=false):=Y1 (Z8F hlt hi3 (by rw[<-HX.out, <-HY.out]; intro h; rw[h] at hxy; simp at hxy));have n1: (x !=y)=true:=by unfold bne; rw[hxy]; rfl
      go_wp2_with fail
      go_quiet (fail)
      go_wp2;go_ret;exact ⟨by rw[HF.out]; rfl,Z0K hbw _⟩}
     {have n1: (x !=y)=false:=by unfold bne; rw[hxy]; rfl
      have HE:Hid (t.names[i]'hlt=u.names[i]'hi3):=Y1 (by rw[<-HX.out, <-HY.out]; simpa using hxy)
      go_wp2_with fail
      go_quiet (fail)
      go_wp2
      go_roundw
      case rel=>exact ⟨i+1,by go_num,by omega,Y1 (fun j hj hj' hji=>by
       rcases Nat.lt_succ_iff_lt_or_eq.1 hji with h | rfl
       {exact HN.out j hj hj' h}
       · exact HE.out),Z0K hb _⟩
      case measure=>simp[intOf]; omega}}}}
  {have HNN:Hid (∀j (h:j < t.names.length) (h':j < u.names.length),t.names[j]'h=u.names[j]'h'):=Y1 (fun j h h'=>HN.out j h h' (by omega));have HBW:=Y1 hb;clear hbw hb HN
   go_wp2_with fail
   go_loopw [6] (fun ii wx=> ∃k:Nat,ii= .int .i64 k/\k<=t.parts.length/\Hid (∀j (h:j < t.parts.length) (h':j < u.parts.length),j < k->eqB (t.parts[j]'h) (u.parts[j]'h')=true)/\Hid (Below W0.heap.size W0 wx)) (fun i _=>t.parts.length - (intOf i).toNat)
   case atStart=>exact ⟨0,rfl,Nat.zero_le _,Y1 (fun j _ _ hj=>absurd hj (by omega)),HBW⟩
   case round=>
    obtain ⟨k,rfl,hk,HN,HBX⟩:=hrel;have hb:=HBX.out;have hbw:Below w.heap.size w wr:=HB1.out.trans (hb.mono HB1.out.size);have hm:=HM.out;clear c0 c3 c4 d0 d3 d4;obtain ⟨_,⟨c0,_,_,c3,c4⟩,_⟩:=HB.out.next hb;obtain ⟨_,⟨d0,_,_,d3,d4⟩,_⟩:=HC.out.next hb;by_cases hlt2:k < t.parts.length
    {have hi1: (k:Int) < (t.parts.length:Int):=by omega
     have hi2: (k:Int) < (u.parts.length:Int):=by have:=HG5.out; omega
     have hi3:k < u.parts.length:=by omega
     rcases HP.out with h0 | ⟨g,off,qs,hqP,hg,hc,hra⟩
     {omega}
     {rcases HR.out with h0 | ⟨g',off',qs',hrP,hg',hc',hra'⟩
      {omega}
      {obtain ⟨x,hx⟩: ∃x,x=t.parts[k]:=⟨_,rfl⟩;obtain ⟨y,hy⟩: ∃y,y=u.parts[k]:=⟨_,rfl⟩;obtain ⟨p0,p1,p2,p3,p4⟩:=(hc k hlt2).keep hg hbw;obtain ⟨s0,s1,s2,s3,s4⟩:=(hc' k hi3).keep hg' hbw;have hat:ShAt wr wr.heap.size (qs k) x:=by rw[hx]; exact (hra k hlt2).next hbw
       have hat':ShAt wr wr.heap.size (qs' k) y:=by rw[hy]; exact (hra' k hi3).next hbw
       have ihx:=ih t.parts[k] (List.getElem_mem _) y (qs k) (qs' k) wr.drew;rw[<-hx] at p0 p1 p2 p3 p4 ihx;rw[<-hy] at s0 s1 s2 s3 s4;have IH:=ihx (hat.next Y2.drew) (hat'.next Y2.drew);rw[hqP] at c4;rw[hrP] at d4;have HX:=Y1 hx;have HY:=Y1 hy;clear hx hy hc hc' hra hra' hat hat' ihx ih hqP hrP
       go_wp2_with fail
       cases hxy:eqB x y
       {have HF:Hid (eqB t u=false):=Y1 (Z8G hlt2 hi3 (by rw[<-HX.out, <-HY.out]; exact hxy));rw[hxy] at IH;clear hxy
        go_still_tail 10,(by kernel_rfl)
        change wpList _ _ _ _ _ wr.drew
        go_wp2_with fail
        refine IH.mono ?_;rintro e w2 ⟨rfl,hb2⟩;go_wp2;go_ret;exact ⟨by rw[HF.out]; rfl,Z00 hbw.drew hb2⟩}
       {have HE:Hid (eqB (t.parts[k]'hlt2) (u.parts[k]'hi3)=true):=Y1 (by rw[<-HX.out, <-HY.out]; exact hxy);rw[hxy] at IH;clear hxy
        go_still_tail 10,(by kernel_rfl)
        change wpList _ _ _ _ _ wr.drew
        go_wp2_with fail
        refine IH.mono ?_;rintro e w2 ⟨rfl,hb2⟩;go_wp2
        go_roundw
        case rel=>exact ⟨k+1,by go_num,by omega,Y1 (fun j hj hj' hji=>by
         rcases Nat.lt_succ_iff_lt_or_eq.1 hji with h | rfl
         {exact HN.out j hj hj' h}
         · exact HE.out),Y1 (Z00 hb.drew hb2)⟩
        case measure=>simp[intOf]; omega}}}}
    {have HF:Hid (eqB t u=true):=Y1 (Z9D HH.out HNN.out (fun j hj hj'=>HN.out j hj hj' (by omega)));go_wp2;go_ret;exact ⟨by rw[HF.out]; rfl,hbw⟩}}
end
end Go.Proofs.YthajhofgjhfjeaaDoor
