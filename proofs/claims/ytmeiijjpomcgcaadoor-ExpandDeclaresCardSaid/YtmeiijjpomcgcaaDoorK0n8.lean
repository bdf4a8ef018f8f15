/- What the proofs of ExpandDeclares want, part 8. -/
import Derived.WalkSmall
import Derived.MakeChecks
import Derived.Test.YtmeiijjpomcgcaaDoorK0n7
set_option linter.unusedVariables false
set_option linter.unusedSimpArgs false
set_option linter.unusedSectionVars false
set_option maxRecDepth 100000
set_option maxHeartbeats 16000000
namespace Go.Proofs.YtmeiijjpomcgcaaDoor
open Go.RowKit Shp Sub
open Expd (Bd)
namespace SubM
abbrev bdV (b:Bd) (q:Ptr):Value:= .agg #[.string ⟨b.of_.toArray⟩,.string ⟨b.name.toArray⟩,.int .i64 b.sh.kind,.string ⟨b.sh.of_.toArray⟩,.string ⟨b.sh.name.toArray⟩,.slice q.A b.sh.names.length q.c,.slice q.P b.sh.parts.length q.d]
structure TY (W0:World) (B:Nat) (A:Option Addr) (n c:Nat) (lE:List BE) (val:Nat->Option Value) (bd:Bd) (cI bI sI aI fI:Nat) (d:Nat->Bool) (u:Nat->Value) (W:World):Prop where
 up:Upd (fun b=>rowB A=some b) W0 W
 vals: ∀j,d j=true-> ∀v,val j=some v->u j=v
 n0:d aI=false->W.ownsRow B 54 7 (.slice A n c) n (cellsB lE)
 cl:d cI=true-> ∃q,u cI=sv bd.sh q/\Kept (fun b=>W0.heap.size<=b/\(d aI=true->(u aI).ownBlock≠some b)) W (bd.sh,q)/\(d bI=true->u bI=bdV bd q)/\
  (d sI=true->d aI=false-> ∃z,u sI= .slice (some ⟨z,0,none⟩) 1 1/\W0.heap.size<=z/\z < W.heap.size/\ ∀j v,(cells7 (bd,q))[j]? =some v->W.cell? ⟨z,j,none⟩=some v)/\
  (d aI=true->W.ownsRow B 54 7 (u aI) (n+1) (cellsB (lE++ [(bd,q)])))
 ab:d aI=true->(u aI).ownBlock=rowB A\/ ∃x,(u aI).ownBlock=some x/\W0.heap.size<=x
 al:d fI=true->u fI=u aI
 fr:d fI=false->u fI= .slice A n c
def Dis5 (a b c d e:Nat):Prop:=(a≠b/\a≠c/\a≠d/\a≠e)/\(b≠c/\b≠d/\b≠e)/\(c≠d/\c≠e)/\d≠e
instance (a b c d e:Nat):Decidable (Dis5 a b c d e):=by unfold Dis5; infer_instance
section
variable {W0 W W' : World} {B n c : Nat} {A : Option Addr} {lE : List BE} {val : Nat -> Option Value} {bd : Bd} {cI bI sI aI fI : Nat} {d : Nat -> Bool} {u : Nat -> Value}
theorem TY.vals' (h:TY W0 B A n c lE val bd cI bI sI aI fI d u W) {i:Nat} {v:Value} (hv: ∀v',val i=some v'->v=v'): ∀j,also d i j=true-> ∀v',val j=some v'->upd u i v j=v':=fun j hj v' hv'=>by
 by_cases hij:j=i
 {subst hij; rw[Z06]; exact hv v' hv'}
 {rw[Z08 d hij] at hj; rw[Z02 u v hij]; exact h.vals j hj v' hv'}
theorem TY.start {u:Nat->Value} (h:W0.ownsRow B 54 7 (.slice A n c) n (cellsB lE)) (hu:u fI= .slice A n c):TY W0 B A n c lE val bd cI bI sI aI fI (fun _=>false) u W0.drew:=
 ⟨(Upd.refl _ _).drew,nofun,fun _=>h,nofun,nofun,nofun,fun _=>hu⟩
section
variable (h : TY W0 B A n c lE val bd cI bI sI aI fI d u W)
include h
theorem TY.pure {i:Nat} (hi:i≠cI/\i≠bI/\i≠sI/\i≠aI/\i≠fI) {v:Value} (hv: ∀v',val i=some v'->v=v'):TY W0 B A n c lE val bd cI bI sI aI fI (also d i) (upd u i v) W:=by
 obtain ⟨k1,k2,k3,k4,k5⟩:=hi;have k: ∀j,j≠i->also d i j=d j/\upd u i v j=u j:=fun j hj=>⟨Z08 d hj,Z02 u v hj⟩;refine ⟨h.up,h.vals' hv, ?_, ?_, ?_, ?_, ?_⟩
 {rw[(k aI (Ne.symm k4)).1]; exact h.n0}
 {rw[(k cI (Ne.symm k1)).1,(k cI (Ne.symm k1)).2,(k bI (Ne.symm k2)).1,(k bI (Ne.symm k2)).2,(k sI (Ne.symm k3)).1,(k sI (Ne.symm k3)).2,(k aI (Ne.symm k4)).1,(k aI (Ne.symm k4)).2]; exact h.cl}
 {rw[(k aI (Ne.symm k4)).1,(k aI (Ne.symm k4)).2]; exact h.ab}
 {rw[(k fI (Ne.symm k5)).1,(k fI (Ne.symm k5)).2,(k aI (Ne.symm k4)).2]; exact h.al}
 {rw[(k fI (Ne.symm k5)).1,(k fI (Ne.symm k5)).2]; exact h.fr}
theorem TY.call (hD:Dis5 cI bI sI aI fI) (hval:val cI=none) (hb:d bI=false) (hs:d sI=false) (ha:d aI=false) (hf:d fI=false) {q:Ptr} (hbl:Below W.heap.size W W') (hk:Kept (fun b=>W.heap.size<=b) W' (bd.sh,q)):
 TY W0 B A n c lE val bd cI bI sI aI fI (also d cI) (upd u cI (sv bd.sh q)) W':=by
 obtain ⟨⟨n1,n2,n3,n4⟩,_,_,_⟩:=hD;have k: ∀j,j≠cI->also d cI j=d j/\ ∀v,upd u cI v j=u j:=fun j hj=>⟨Z08 d hj,fun v=>Z02 u v hj⟩;have hu:Upd (fun _=>False) W W':=Upd.new hbl;have hz:=h.up.size;refine ⟨h.up.trans (Upd.new hbl),h.vals' (fun v' hv=>by rw[hval] at hv; cases hv), ?_,fun _=>⟨q,Z06 _ _ _, ?_, ?_, ?_, ?_⟩, ?_, ?_, ?_⟩
 {rw[(k aI (Ne.symm n3)).1]; exact fun h1=>Z0w (h.n0 h1) hbl}
 {rw[(k aI (Ne.symm n3)).1,ha]; exact hk.more (fun b _ hb=>⟨by omega,nofun⟩)}
 {rw[(k bI (Ne.symm n1)).1,hb]; exact nofun}
 {rw[(k sI (Ne.symm n2)).1,hs]; exact nofun}
 {rw[(k aI (Ne.symm n3)).1,ha]; exact nofun}
 {rw[(k aI (Ne.symm n3)).1,ha]; exact nofun}
 {rw[(k fI (Ne.symm n4)).1,hf]; exact nofun}
 {rw[(k fI (Ne.symm n4)).1,(k fI (Ne.symm n4)).2]; exact h.fr}
theorem TY.mkS (hD:Dis5 cI bI sI aI fI) (hval:val sI=none) (hc:d cI=true) (ha:d aI=false) {q:Ptr} (hq:u cI=sv bd.sh q):
 TY W0 B A n c lE val bd cI bI sI aI fI (also d sI) (upd u sI (.slice (some ⟨W.heap.size,0,none⟩) 1 1)) (W.alloc (.cells #[.string ⟨bd.of_.toArray⟩,.string ⟨bd.name.toArray⟩,.int .i64 bd.sh.kind,.string ⟨bd.sh.of_.toArray⟩,.string ⟨bd.sh.name.toArray⟩,.slice q.A bd.sh.names.length q.c,.slice q.P bd.sh.parts.length q.d] 54)):=by
 obtain ⟨⟨_,n2,_,_⟩,⟨m1,_,_⟩,⟨p1,p2⟩,_⟩:=hD;have hbl:=Z01 W (.cells #[.string ⟨bd.of_.toArray⟩,.string ⟨bd.name.toArray⟩,.int .i64 bd.sh.kind,.string ⟨bd.sh.of_.toArray⟩,.string ⟨bd.sh.name.toArray⟩,.slice q.A bd.sh.names.length q.c,.slice q.P bd.sh.parts.length q.d] 54);have k: ∀j,j≠sI->also d sI j=d j/\ ∀v,upd u sI v j=u j:=fun j hj=>⟨Z08 d hj,fun v=>Z02 u v hj⟩;have hz:=h.up.size;refine ⟨h.up.trans (Upd.new hbl),h.vals' (fun v' hv=>by rw[hval] at hv; cases hv), ?_, ?_, ?_, ?_, ?_⟩
 {rw[(k aI (Ne.symm p1)).1]; exact fun h1=>Z0w (h.n0 h1) hbl}
 {rw[(k cI n2).1,(k cI n2).2,(k bI m1).1,(k bI m1).2,(k aI (Ne.symm p1)).1,ha,Z06];intro hcc;obtain ⟨q2,e,hk,hb,_,_⟩:=h.cl hcc;rw[ha] at hk;have e2:q2=q:=by
   have:=Z6M (e.symm.trans hq);cases q2; cases q;simp only at this;simp[this.2.2.2.1,this.2.2.2.2.2.1,this.2.2.2.2.2.2.1,this.2.2.2.2.2.2.2.2]
  subst e2;refine ⟨q2,e,(hk.upd (T:=fun _=>False) (Upd.new hbl) (fun _ _ _ h=>h)).more (fun b _ hb=>⟨hb.1,nofun⟩),hb,fun _ _=>⟨W.heap.size,rfl,hz,by simp,fun j v hv=> ?_⟩,nofun⟩;rcases j with _ | _ | _ | _ | _ | _ | _ | j <;> (simp[cells7] at hv; try (subst hv; simp[go_sem]))}
 {rw[(k aI (Ne.symm p1)).1,(k aI (Ne.symm p1)).2]; exact h.ab}
 {rw[(k fI (Ne.symm p2)).1,(k fI (Ne.symm p2)).2,(k aI (Ne.symm p1)).2]; exact h.al}
 {rw[(k fI (Ne.symm p2)).1,(k fI (Ne.symm p2)).2]; exact h.fr}
theorem TY.app (hD:Dis5 cI bI sI aI fI) (hval:val aI=none) (hc:d cI=true) (ha:d aI=false) (hf:d fI=false) {q:Ptr} (hq:u cI=sv bd.sh q) {v:Value} (hB:W0.ownsRow B 54 7 (.slice A n c) n (cellsB lE))
 (hown:W'.ownsRow B 54 7 v (n+1) (cellsB (lE++ [(bd,q)]))) (hg:W.grownBy W' (rowB A)) (hat:v.ownBlock=rowB A\/v.ownBlock=some W.heap.size):TY W0 B A n c lE val bd cI bI sI aI fI (also d aI) (upd u aI v) W':=by
 obtain ⟨⟨_,_,n3,_⟩,⟨_,m2,_⟩,⟨p1,_⟩,r1⟩:=hD;have k: ∀j,j≠aI->also d aI j=d j/\upd u aI v j=u j:=fun j hj=>⟨Z08 d hj,Z02 u v hj⟩;have hu:Upd (fun x=>rowB A=some x) W W':=(Upd.refl _ W).grown hg (fun k h _=>h);have hz:=h.up.size;refine ⟨h.up.trans hu,h.vals' (fun v' hv=>by rw[hval] at hv; cases hv), ?_, ?_, ?_, ?_, ?_⟩
 {rw[Z0r]; exact nofun}
 {rw[(k cI n3).1,(k cI n3).2,(k bI m2).1,(k bI m2).2,(k sI p1).1,Z0r,Z06];intro hcc;obtain ⟨q2,e,hk,hb,_,_⟩:=h.cl hcc;rw[ha] at hk;have e2:q2=q:=by
   have:=Z6M (e.symm.trans hq);cases q2; cases q;simp only at this;simp[this.2.2.2.1,this.2.2.2.2.2.1,this.2.2.2.2.2.2.1,this.2.2.2.2.2.2.2.2]
  subst e2;refine ⟨q2,e,hk.move hu (fun b hb hf=>⟨fun e=> ?_,hf.1,fun _ e=> ?_⟩),hb,fun _=>nofun,fun _=>hown⟩
  {have:=(Z0a hB b e).2; have:=hf.1; omega}
  {rcases hat with h1 | h1
   {rw[h1] at e; have:=(Z0a hB b e).2; have:=hf.1; omega}
   {rw[h1] at e; cases e; omega}}}
 {rw[Z06]; exact fun _=>hat.imp id (fun h=>⟨W.heap.size,h,hz⟩)}
 {rw[(k fI (Ne.symm r1)).1,hf]; exact nofun}
 {rw[(k fI (Ne.symm r1)).1,(k fI (Ne.symm r1)).2]; exact h.fr}
theorem TY.fin (hD:Dis5 cI bI sI aI fI) (hval:val fI=none):TY W0 B A n c lE val bd cI bI sI aI fI (also d fI) (upd u fI (u aI)) W:=by
 obtain ⟨⟨_,_,_,n4⟩,⟨_,_,m3⟩,⟨_,p2⟩,r1⟩:=hD;have k: ∀j,j≠fI->also d fI j=d j/\upd u fI (u aI) j=u j:=fun j hj=>⟨Z08 d hj,Z02 u _ hj⟩;refine ⟨h.up,h.vals' (fun v' hv=>by rw[hval] at hv; cases hv), ?_, ?_, ?_, ?_, ?_⟩
 {rw[(k aI r1).1]; exact h.n0}
 {rw[(k cI n4).1,(k cI n4).2,(k bI m3).1,(k bI m3).2,(k sI p2).1,(k sI p2).2,(k aI r1).1,(k aI r1).2]; exact h.cl}
 {rw[(k aI r1).1,(k aI r1).2]; exact h.ab}
 {rw[Z06,(k aI r1).2]; exact fun _=>rfl}
 {rw[Z0r]; exact nofun}
end
end
structure KT (w:World) (l:List Bd) (lE:List BE) (A:Option Addr) (c:Nat) (W:World):Prop where
 up:Below w.heap.size w W
 row:W.ownsRow w.heap.size 54 7 (.slice A lE.length c) lE.length (cellsB lE)
 eq:lE.map Prod.fst=l
 kp: ∀x∈lE,Kept (fun b=>w.heap.size<=b/\rowB A≠some b) W (x.1.sh,x.2)/\x.1.of_.length<=9223372036854775807/\x.1.name.length<=9223372036854775807
section
variable {w W W' : World} {l : List Bd} {lE : List BE} {A : Option Addr} {c : Nat}
theorem KT.new (h:KT w l lE A c W) (hb:Below W.heap.size W W'):KT w l lE A c W':=
 ⟨Z03 h.up hb |> fun x=>x,Z0w h.row hb,h.eq,fun x hx=>⟨(h.kp x hx).1.upd (T:=fun _=>False) (Upd.new hb) (fun _ _ _ h=>h),(h.kp x hx).2⟩⟩
theorem KT.len (h:KT w l lE A c W):lE.length=l.length:=by have:=congrArg List.length h.eq; simpa using this
theorem KT.bds (h:KT w l lE A c W):BdsAt W W.heap.size A l:=by
 have:=Z2l h.row rfl (fun x hx=>⟨(h.kp x hx).1.here,(h.kp x hx).2⟩);rw[h.eq] at this;exact this
theorem KT.put {val:Nat->Option Value} {bd:Bd} {cI bI sI aI fI:Nat} {d:Nat->Bool} {u:Nat->Value} {W0:World} (h:KT w l lE A c W0) (hI:TY W0 w.heap.size A lE.length c lE val bd cI bI sI aI fI d u W) (hc:d cI=true) (ha:d aI=true) (h1:bd.of_.length<=9223372036854775807) (h2:bd.name.length<=9223372036854775807):
 ∃A' c' x,u aI= .slice A' (lE.length+1) c'/\KT w (l++ [bd]) (lE++ [x]) A' c' W:=by
 obtain ⟨q,_,hk,_,_,hr⟩:=hI.cl hc;have hr:=hr ha;obtain ⟨g,c',e⟩:=Z21 hr (by omega);have hab:=hI.ab ha;rw[e] at hr hab hk;simp only[rowB_own] at hab hk;have hw:=h.up.size;refine ⟨_,c',(bd,q),e,h.up.trans (hI.up.below hw (fun x hx=>(Z0a h.row x hx).1)),by rw[List.length_append]; exact hr,by rw[List.map_append,h.eq]; rfl,fun x hx=> ?_⟩;rcases List.mem_append.1 hx with hx | hx
 {refine ⟨(h.kp x hx).1.move hI.up (fun b hb hf=>⟨fun e=>hf.2 e,hf.1,fun e=> ?_⟩),(h.kp x hx).2⟩;rcases hab with h3 | ⟨y,h3,h4⟩
  {exact hf.2 (h3.symm.trans e)}
  {rw[h3] at e; cases e; omega}}
 {rw[List.mem_singleton.1 hx];exact ⟨hk.more (fun b _ hb=>⟨by omega,hb.2 ha⟩),h1,h2⟩}
end
end SubM
end Go.Proofs.YtmeiijjpomcgcaaDoor
namespace Go.Proofs.YtmeiijjpomcgcaaDoor
open Go.RowKit Shp Sub
open Expd (Bd)
namespace SubM
theorem Zbx {W:World} {B B':Nat} {e:TypeId} {s n:Nat} {v:Value} {xs:List Value} (h:W.ownsRow B e s v n xs) (hB:B'<=B):W.ownsRow B' e s v n xs:=by
 obtain ⟨h1,h2⟩:=h;refine ⟨h1, ?_⟩;rcases h2 with h2 | ⟨g,cap,cur,a,b,c⟩
 {exact Or.inl h2}
 {exact Or.inr ⟨g,cap,cur,a,Nat.le_trans hB b,c⟩}
structure DI (W0:World) (val:Nat->Option Value) (L:List Bd) (x:BE) (d:Nat->Bool) (u:Nat->Value) (W:World):Prop where
 up:Below W0.heap.size W0 W
 vals: ∀j,d j=true-> ∀v,val j=some v->u j=v
 cl:d 1=true-> ∃(A:Option Addr) (c:Nat) (lN:List BE),u 1= .slice A lN.length c/\lN.map Prod.fst=L/\
  (∀y∈lN,Kept (fun b=>W0.heap.size<=b/\(d 7=false->rowB A≠some b)/\(d 7=true->(u 7).ownBlock≠some b)) W (y.1.sh,y.2)/\y.1.of_.length<=9223372036854775807/\y.1.name.length<=9223372036854775807)/\
  (d 7=false->W.ownsRow W0.heap.size 54 7 (.slice A lN.length c) lN.length (cellsB lN))/\
  (d 7=true->W.ownsRow W0.heap.size 54 7 (u 7) (lN.length+1) (cellsB (lN++ [x])))
 sl:d 6=true->d 7=false-> ∃z,u 6= .slice (some ⟨z,0,none⟩) 1 1/\W0.heap.size<=z/\z < W.heap.size/\ ∀j v,(cells7 x)[j]? =some v->W.cell? ⟨z,j,none⟩=some v
 al:d 8=true->u 8=u 7
section
variable {W0 W W' : World} {val : Nat -> Option Value} {L : List Bd} {x : BE} {d : Nat -> Bool} {u : Nat -> Value}
theorem DI.vals' (h:DI W0 val L x d u W) {i:Nat} {v:Value} (hv: ∀v',val i=some v'->v=v'): ∀j,also d i j=true-> ∀v',val j=some v'->upd u i v j=v':=fun j hj v' hv'=>by
 by_cases hij:j=i
 {subst hij; rw[Z06]; exact hv v' hv'}
 {rw[Z08 d hij] at hj; rw[Z02 u v hij]; exact h.vals j hj v' hv'}
theorem DI.start {u:Nat->Value}:DI W0 val L x (fun _=>false) u W0.drew:=⟨Y2.drew,nofun,nofun,nofun,nofun⟩
section
variable (h : DI W0 val L x d u W)
include h
theorem DI.pure {i:Nat} (hi:i≠1/\i≠6/\i≠7/\i≠8) {v:Value} (hv: ∀v',val i=some v'->v=v'):DI W0 val L x (also d i) (upd u i v) W:=by
 obtain ⟨k1,k2,k3,k4⟩:=hi;have k: ∀j,j≠i->also d i j=d j/\upd u i v j=u j:=fun j hj=>⟨Z08 d hj,Z02 u v hj⟩;refine ⟨h.up,h.vals' hv, ?_, ?_, ?_⟩
 {rw[(k 1 (Ne.symm k1)).1,(k 1 (Ne.symm k1)).2,(k 7 (Ne.symm k3)).1,(k 7 (Ne.symm k3)).2]; exact h.cl}
 {rw[(k 6 (Ne.symm k2)).1,(k 6 (Ne.symm k2)).2,(k 7 (Ne.symm k3)).1]; exact h.sl}
 {rw[(k 8 (Ne.symm k4)).1,(k 8 (Ne.symm k4)).2,(k 7 (Ne.symm k3)).2]; exact h.al}
theorem DI.call (hval:val 1=none) (h7:d 7=false) {A:Option Addr} {c:Nat} {lN:List BE} (hk:KT W L lN A c W'):DI W0 val L x (also d 1) (upd u 1 (.slice A lN.length c)) W':=by
 have k: ∀j,j≠1->also d 1 j=d j/\ ∀v,upd u 1 v j=u j:=fun j hj=>⟨Z08 d hj,fun v=>Z02 u v hj⟩;have hz:=h.up.size;refine ⟨Z03 h.up hk.up,h.vals' (fun v' hv=>by rw[hval] at hv; cases hv), ?_, ?_, ?_⟩
 {rw[(k 7 (by decide)).1,h7];exact fun _=>⟨A,c,lN,Z06 _ _ _,hk.eq,fun y hy=>⟨(hk.kp y hy).1.more (fun b _ hb=>⟨by omega,fun _=>hb.2,nofun⟩),(hk.kp y hy).2⟩,fun _=>Zbx hk.row hz,nofun⟩}
 {rw[(k 6 (by decide)).1,(k 6 (by decide)).2,(k 7 (by decide)).1];intro h6 _;obtain ⟨z,e,z1,z2,z3⟩:=h.sl h6 h7;exact ⟨z,e,z1,Nat.lt_of_lt_of_le z2 hk.up.size,fun j v hv=>(hk.up.cell (p:=⟨z,j,none⟩) z2).trans (z3 j v hv)⟩}
 {rw[(k 8 (by decide)).1,(k 8 (by decide)).2,(k 7 (by decide)).2]; exact h.al}
theorem DI.mkS (hval:val 6=none) (h7:d 7=false):
 DI W0 val L x (also d 6) (upd u 6 (.slice (some ⟨W.heap.size,0,none⟩) 1 1)) (W.alloc (.cells #[.string ⟨x.1.of_.toArray⟩,.string ⟨x.1.name.toArray⟩,.int .i64 x.1.sh.kind,.string ⟨x.1.sh.of_.toArray⟩,.string ⟨x.1.sh.name.toArray⟩,.slice x.2.A x.1.sh.names.length x.2.c,.slice x.2.P x.1.sh.parts.length x.2.d] 54)):=by
 have hbl:=Z01 W (.cells #[.string ⟨x.1.of_.toArray⟩,.string ⟨x.1.name.toArray⟩,.int .i64 x.1.sh.kind,.string ⟨x.1.sh.of_.toArray⟩,.string ⟨x.1.sh.name.toArray⟩,.slice x.2.A x.1.sh.names.length x.2.c,.slice x.2.P x.1.sh.parts.length x.2.d] 54);have k: ∀j,j≠6->also d 6 j=d j/\ ∀v,upd u 6 v j=u j:=fun j hj=>⟨Z08 d hj,fun v=>Z02 u v hj⟩;have hz:=h.up.size;refine ⟨Z03 h.up hbl,h.vals' (fun v' hv=>by rw[hval] at hv; cases hv), ?_, ?_, ?_⟩
 {rw[(k 1 (by decide)).1,(k 1 (by decide)).2,(k 7 (by decide)).1,(k 7 (by decide)).2];intro h1;obtain ⟨A,c,lN,e,e2,hk,hr,hf⟩:=h.cl h1;exact ⟨A,c,lN,e,e2,fun y hy=>⟨(hk y hy).1.upd (T:=fun _=>False) (Upd.new hbl) (fun _ _ _ h=>h),(hk y hy).2⟩,fun h7=>Z0w (hr h7) hbl,fun h=>by rw[h7] at h; cases h⟩}
 {rw[Z06,(k 7 (by decide)).1];intro _ _;refine ⟨W.heap.size,rfl,hz,by simp,fun j v hv=> ?_⟩;rcases j with _ | _ | _ | _ | _ | _ | _ | j <;> (simp[cells7] at hv; try (subst hv; simp[go_sem]))}
 {rw[(k 8 (by decide)).1,(k 8 (by decide)).2,(k 7 (by decide)).2]; exact h.al}
theorem DI.app (hval:val 7=none) (h1:d 1=true) (h7:d 7=false) (h8:d 8=false) {A:Option Addr} {c:Nat} {lN:List BE} (hA:u 1= .slice A lN.length c) (e2:lN.map Prod.fst=L)
 (hk: ∀y∈lN,Kept (fun b=>W0.heap.size<=b/\(d 7=false->rowB A≠some b)/\(d 7=true->(u 7).ownBlock≠some b)) W (y.1.sh,y.2)/\y.1.of_.length<=9223372036854775807/\y.1.name.length<=9223372036854775807)
 (hr:W.ownsRow W0.heap.size 54 7 (.slice A lN.length c) lN.length (cellsB lN)) {v:Value}
 (hown:W'.ownsRow W0.heap.size 54 7 v (lN.length+1) (cellsB (lN++ [x]))) (hg:W.grownBy W' (rowB A)) (hat:v.ownBlock=rowB A\/v.ownBlock=some W.heap.size):DI W0 val L x (also d 7) (upd u 7 v) W':=by
 have k: ∀j,j≠7->also d 7 j=d j/\upd u 7 v j=u j:=fun j hj=>⟨Z08 d hj,Z02 u v hj⟩;have hz:=h.up.size;have hu:Upd (fun y=>rowB A=some y) W W':=(Upd.refl _ W).grown hg (fun k h _=>h);refine ⟨h.up.trans (hu.below hz (fun y hy=>(Z0a hr y hy).1)),h.vals' (fun v' hv=>by rw[hval] at hv; cases hv), ?_, ?_, ?_⟩
 {rw[(k 1 (by decide)).1,(k 1 (by decide)).2,Z0r,Z06];refine fun _=>⟨A,c,lN,hA,e2,fun y hy=>⟨(hk y hy).1.move hu (fun b hb hf=>⟨fun e=>hf.2.1 h7 e,hf.1,nofun,fun _ e=> ?_⟩),(hk y hy).2⟩,nofun,fun _=>hown⟩;rcases hat with h3 | h3
  {exact hf.2.1 h7 (h3.symm.trans e)}
  {rw[h3] at e; cases e; omega}}
 {rw[Z0r]; exact nofun}
 {rw[(k 8 (by decide)).1,h8]; exact nofun}
theorem DI.fin (hval:val 8=none):DI W0 val L x (also d 8) (upd u 8 (u 7)) W:=by
 have k: ∀j,j≠8->also d 8 j=d j/\upd u 8 (u 7) j=u j:=fun j hj=>⟨Z08 d hj,Z02 u _ hj⟩;refine ⟨h.up,h.vals' (fun v' hv=>by rw[hval] at hv; cases hv), ?_, ?_, ?_⟩
 {rw[(k 1 (by decide)).1,(k 1 (by decide)).2,(k 7 (by decide)).1,(k 7 (by decide)).2]; exact h.cl}
 {rw[(k 6 (by decide)).1,(k 6 (by decide)).2,(k 7 (by decide)).1]; exact h.sl}
 {rw[Z06,(k 7 (by decide)).2]; exact fun _=>rfl}
theorem DI.out (h1:d 1=true) (h7:d 7=true) (h8:d 8=true) (hx:ShAt W0 W0.heap.size x.2 x.1.sh) (n1:x.1.of_.length<=9223372036854775807) (n2:x.1.name.length<=9223372036854775807):
 ∃A c,u 8= .slice A (L.length+1) c/\BdsAt W W.heap.size A (L++ [x.1]):=by
 obtain ⟨A,c,lN,e,e2,hk,_,hr⟩:=h.cl h1;have hr:=hr h7;have hl:lN.length=L.length:=by have:=congrArg List.length e2; simpa using this
 obtain ⟨g,c',e7⟩:=Z21 hr (by omega);rw[e7] at hr;refine ⟨some ⟨g,0,none⟩,c',by rw[h.al h8,e7,hl], ?_⟩;have:=Z2l hr (by rw[List.length_append]; rfl) (fun y hy=>by
  rcases List.mem_append.1 hy with hy | hy
  {exact ⟨(hk y hy).1.here,(hk y hy).2⟩}
  · rw[List.mem_singleton.1 hy]; exact ⟨hx.next h.up,n1,n2⟩)
 rw[List.map_append,e2] at this;exact this
end
end
end SubM
end Go.Proofs.YtmeiijjpomcgcaaDoor
namespace Go.Proofs.YtmeiijjpomcgcaaDoor
section
open Go.RowKit Shp
inductive Thin:Sh->Prop
 | mk (t:Sh) (h:t.names.length<=8796093022207) (hp: ∀p∈t.parts,Thin p):Thin t
theorem Thin.names {t:Sh} (h:Thin t):t.names.length<=8796093022207:=by cases h; assumption
theorem Thin.part {t p:Sh} (h:Thin t) (hp:p∈t.parts):Thin p:=by cases h with | mk _ _ h=>exact h p hp
theorem Z6Q (A:Option Addr) (c:Nat) (l:List (List UInt8)) (w:World) (hA:Strs w w.heap.size A (strs l)) (hl:l.length<=8796093022207) (hlc:l.length<=c) (hA0:A=none->c=0):
 Calls Tryd.prog 44 #[.slice A l.length c] w fun e w'=>(∃A' c',e= .returned (.slice A' l.length c')/\l.length<=c'/\(A'=none->c'=0)/\(l.length=0\/ ∃b,A'=some ⟨b,0,none⟩/\w.heap.size<=b/\TxR w' b l))/\Below w.heap.size w w':=by
 obtain ⟨i0,hi,hz0,hz1,hz2⟩:=info_parts (P:=Tryd.prog) (e:=9) (z:= .string ByteArray.empty) (size:=1) (bytes:=16) Z40;have q22: ∀(w:World) (a:Option Addr) (n c n' c':Nat),(binOp .eql 22 (.slice a n c) (.slice none n' c')).run Tryd.prog w= .ok (.bool a.isNone) w:=fun w a n c n' c'=>Lib.run_eql_slice_nil w _ _ a n c n' c' Tryd.underlying22;cases A with
 | none=>
  obtain rfl:=hA0 rfl;have hl0:l= []:=List.eq_nil_of_length_eq_zero (by omega);subst hl0;go_enter Tryd.func44,Tryd.ntmps44;go_wp2;go_ret;exact ⟨⟨none,0,by simp⟩,Below.refl _ _⟩
 | some ad=>
  have HA:=Y1 hA.cell7;clear hA hA0;go_enter Tryd.func44,Tryd.ntmps44
  go_wp2_with (at_builtin; refine Z0I _ rfl _ _ 22 rfl w.heap.size 9 i0 (.string ByteArray.empty) 1 16 Tryd.underlying22 hi hz0 hz1 hz2 rfl (by decide) _ 0 [] rfl (World.ownsRow_made w #[] 0 (Nat.le_refl _) (Nat.zero_le _) rfl) (some ad) l.length c ((strs l).map Value.string) rfl nofun ?qc1 ?qc2 ?qc3 ?qc4 ?qc5 ?qc6 ?_)
  case qc1=>simp[strs]
  case qc2=>
   intro ad' had j u hj;cases had;have hjl:j < l.length:=by
    have:=(List.getElem?_eq_some_iff.1 hj).1;simpa[strs] using this
   rcases HA.out with h0 | ⟨g,off,hgo,hg,hc⟩
   {omega}
   {cases hgo;rw[Z2v];refine ((Z01 w _).cell (p:=⟨g,off+j,none⟩) hg).trans ((hc j hjl).trans ?_);simp[strs,hjl] at hj;rw[<-hj]}
  case qc3=>intro u hu; obtain ⟨x,_,rfl⟩:=List.mem_map.1 hu; rfl
  case qc4=>unfold maxLen; omega
  case qc5=>omega
  case qc6=>simp
  intro v' w' hown hb;have hown2:w'.ownsRow w.heap.size 9 1 v' l.length ((strs l).map Value.string):=by simpa using hown
  have HO:=Y1 hown2;have HB:Hid (Below w.heap.size w w'):=Y1 ((Z01 w (.cells #[] 9)).trans hb);clear hown hown2 hb;go_wp2;go_ret;refine ⟨?_,HB.out⟩;have h:=HO.out;rcases h.2 with ⟨hv,h0⟩ | ⟨g,cap,cur,hv,hBg,hh,hnc,_⟩
  {exact ⟨none,0,by rw[hv,h0]; rfl,by omega,fun _=>rfl,Or.inl h0⟩}
  {rw[hv] at h;exact ⟨some ⟨g,0,none⟩,cap,by rw[hv]; rfl,hnc,nofun,Or.inr ⟨g,rfl,hBg,Z8p h rfl⟩⟩}
theorem Z9h (g o:Nat) (A:Option Addr) (c:Nat) (l:List (List UInt8)) (w:World) (hg:g < w.heap.size) (k3:w.cell? ⟨g,o+3,none⟩=some (.slice A l.length c)) (f3:w.frozen? ⟨g,o+3,none⟩=false) (hA:Strs w w.heap.size A (strs l)) (hl:l.length<=8796093022207) (hlc:l.length<=c) (hA0:A=none->c=0):
 Calls Tryd.prog 43 #[.pointer (some ⟨g,o,none⟩)] w fun e w'=>e= .returned (.tuple #[])/\ ∃A' c' W2,Below w.heap.size w W2/\TxC w W2 l A' c'/\w'=W2.setCell ⟨g,o+3,none⟩ (.slice A' l.length c'):=by
 have HC:=Y1 (Z6Q A c l w hA hl hlc hA0);clear hA hl hlc hA0;go_enter Tryd.func43,Tryd.ntmps43
 go_wp2_with fail
 refine HC.out.mono ?_;rintro e W2 ⟨⟨A',c',rfl,h1,h2,h3⟩,hb⟩;have x3:=(hb.cell (p:=⟨g,o+3,none⟩) hg).trans k3;have y3:=(hb.frozen (p:=⟨g,o+3,none⟩) hg).trans f3;have HB:=Y1 hb;have HT:Hid (TxC w W2 l A' c'):=Y1 ⟨h1,h2,h3⟩;clear hb h1 h2 h3 k3 f3 HC;go_wp2;refine bodyPost_end (v:= .tuple #[]) (by simp[results,Tryd.results43,go_sem]) rfl ?_;exact ⟨rfl,A',c',W2,HB.out,HT.out,rfl⟩
section
variable (t : Sh) (q : Ptr) (w : World) (hq : ShAt w w.heap.size q t) (hz : size t <= 1000) (hr : Thin t)
include t q w hq hz hr
theorem Z6R:
 Calls Tryd.prog 42 #[.agg (Y8 t q),.func (.func 41) #[] #[],.func (.func 43) #[] #[]] w fun e w'=> ∃q' F,e= .returned (.agg (Y8 t q'))/\Own w' q' t F/\F.Nodup/\(∀b∈F,w.heap.size<=b)/\Below w.heap.size w w':=by
 have hde:=Z1i t;have hcb:=Z55 w t q;have hm:=Z52 t q w.heap.size 0 w.heap.size (w.heap.size+1+1) 0 1 (cW w t q) hcb.1 (by omega) (hq.keep (Z4F w t q) (Nat.le_refl _)) (by omega) (Zai w t q) (by omega) (by omega);rw[show (((1:Nat)):Int)=(1:Int) from rfl] at hm;have HM:=Y1 hm;have HST:=Y1 (fun W1 (hu:UpH (w.heap.size+1+1) (cW w t q) W1)=>ZbQ w W1 t q hq hu);have L1:=fun (g o:Nat) (W:World)=>Z3w g o W;clear hq hm hcb hde;go_enter Tryd.func42,Tryd.ntmps42
 go_wp2_with fail
 change Calls _ _ _ (cW w t q) _;refine HM.out.mono ?_;rintro e W1 ⟨rfl,hu1,_⟩;have HS1:=Y1 (HST.out W1 hu1);clear HM HST hu1
 go_wp2_with fail
 go_loopg [9] (size t) (fun k s9 wr=> ∃L D,sumL L<=k/\sumL L<=1000/\(∀n∈L,Thin n.t)/\Hid (Cst w wr w.heap.size (w.heap.size+1) t s9 L D))
 case atStart=>exact ⟨_,_,by simp[sumL],by simp[sumL]; omega,fun n hn=>by simp only[List.mem_cons,List.not_mem_nil,or_false] at hn; subst hn; exact hr,HS1⟩
 case round=>
  obtain ⟨L,D,hk,h400,hri,HC⟩:=hrel;clear HS1;rcases List.eq_nil_or_concat L with rfl | ⟨L',a,rfl⟩
  {obtain ⟨F,⟨q',hS,hO⟩,hnd,hFD⟩:=Z50 HC.out.rdy;obtain ⟨A,cp,rfl⟩:=HC.out.opn.empty;obtain ⟨p0,p1,p2,p3,p4⟩:=hS;simp only[Nat.zero_mul,Nat.zero_add] at p0 p1 p2 p3 p4;obtain ⟨r1D,⟨_,_,_⟩,rcs,rfz⟩:=HC.out.res;obtain ⟨e0,r0⟩:=rcs 0 (by omega);obtain ⟨e1,r1⟩:=rcs 1 (by omega);obtain ⟨e2,r2⟩:=rcs 2 (by omega);obtain ⟨e3,r3⟩:=rcs 3 (by omega);obtain ⟨e4,r4⟩:=rcs 4 (by omega);have z0:=rfz 0;have z1:=rfz 1;have z2:=rfz 2;have z3:=rfz 3;have z4:=rfz 4;have HO:=Y1 hO;have HND:=Y1 hnd;have HFD:=Y1 (fun b hb=>(HC.out.lo b (hFD b hb)).1);have HNE:=Y1 (fun b hb (e:w.heap.size+1=b)=>r1D (by rw[e]; exact hFD b hb));have HBL:=Y1 HC.out.bel;clear hO hnd hFD rcs rfz r1D hri;go_wp2;refine bodyPost_ret (v:= .agg (Y8 t q')) (by simp[results,Tryd.results42,go_sem,r0,r1,r2,r3,r4]) rfl ?_;refine ⟨q',F,rfl,HO.out.of (fun b hb=> ?_) (by simp[World.setCell]),HND.out,HFD.out, ?_⟩
   {have hne:=HNE.out b hb;exact ((((Z0i _ ⟨w.heap.size+1,0,none⟩ _ hne).trans (Z0i _ ⟨w.heap.size+1,1,none⟩ _ hne)).trans (Z0i _ ⟨w.heap.size+1,2,none⟩ _ hne)).trans (Z0i _ ⟨w.heap.size+1,3,none⟩ _ hne)).trans (Z0i _ ⟨w.heap.size+1,4,none⟩ _ hne)}
   {exact ((((HBL.out.setCell (p:=⟨w.heap.size+1,0,none⟩) (Nat.le_succ _) _).setCell (p:=⟨w.heap.size+1,1,none⟩) (Nat.le_succ _) _).setCell (p:=⟨w.heap.size+1,2,none⟩) (Nat.le_succ _) _).setCell (p:=⟨w.heap.size+1,3,none⟩) (Nat.le_succ _) _).setCell (p:=⟨w.heap.size+1,4,none⟩) (Nat.le_succ _) _}}
  {rw[List.concat_eq_append] at hk h400 HC hri;obtain ⟨g,cap,rfl,hcap,hcl,hgW⟩:=HC.out.opn.last;obtain ⟨hagD,har1,hS5,hat,hfr⟩:=HC.out.nd a (by simp);obtain ⟨hlo1,hlo2,hlo4⟩:=HC.out.lo a.g hagD;obtain ⟨W,hW⟩: ∃W,W=wr:=⟨wr,rfl⟩;subst hW;have hi1: (0:Int) < ((L'.length+1:Nat):Int):=by omega
   have hL4:L'.length<=1000:=by
    have:=Z6C L';rw[Z0m] at h400;omega
   have hag:a.g≠g:=fun e=>hlo4 (by rw[e]; rfl);unfold ndP at hcl;obtain ⟨p0,p1,p2,p3,p4⟩:=hS5;have hsm:=hat.small;have ha4:size a.t<=1000:=by rw[Z0m] at h400; simp[sumL] at h400; omega
   have har:=hri a (by simp);have hnm:a.t.names.length<=8796093022207:=har.names;have hsz:=HC.out.bel.size;have HOWN:=Y1 (Z9h a.g (a.i * 5) a.q.A a.q.c a.t.names W hlo2 p3 (hfr _) (hat.strs.more hsz) hnm hsm.c hsm.A0);have HRI:=Y1 hri;have HAT:=Y1 hat;have HSM:=Y1 hsm;have LA:=fun (W:World)=>L1 a.g (a.i * 5) W;clear hri hat hsm p0 p1 p2 p3
   go_wp2_with fail
   refine HOWN.out.mono ?_;rintro e w3 ⟨rfl,A',c',W2,hb2,htx,rfl⟩;have x4: (W2.setCell ⟨a.g,a.i * 5+3,none⟩ (.slice A' a.t.names.length c')).cell? ⟨a.g,a.i * 5+4,none⟩=some (.slice a.q.P a.t.parts.length a.q.d):=
    (World.cell?_setCell_other _ _ _ _ (fun e=>by have:=congrArg Addr.off e; simp at this)).trans ((hb2.cell (p:=⟨a.g,a.i * 5+4,none⟩) hlo2).trans p4)
   have f4: (W2.setCell ⟨a.g,a.i * 5+3,none⟩ (.slice A' a.t.names.length c')).frozen? ⟨a.g,a.i * 5+4,none⟩=false:=by
    rw[World.frozen?_setCell]; exact (hb2.frozen (p:=⟨a.g,a.i * 5+4,none⟩) hlo2).trans (hfr _)
   have hz2:W.heap.size<=W2.heap.size:=hb2.size;have hz3: (W2.setCell ⟨a.g,a.i * 5+3,none⟩ (.slice A' a.t.names.length c')).heap.size=W2.heap.size:=Z1G _ _ _;have hag3:a.g < (W2.setCell ⟨a.g,a.i * 5+3,none⟩ (.slice A' a.t.names.length c')).heap.size:=by omega
   have hbw3:Below w.heap.size w (W2.setCell ⟨a.g,a.i * 5+3,none⟩ (.slice A' a.t.names.length c')):=(HC.out.bel.trans (hb2.mono hsz)).setCell hlo1 _;have HB2:=Y1 hb2;have HTX:=Y1 htx;clear hb2 htx p4 HOWN hcl;by_cases hpz:a.t.parts.length=0
   {have hrn:=Z53 a.g (a.i * 5+4) a.q.P a.q.d (W2.setCell ⟨a.g,a.i * 5+3,none⟩ (.slice A' a.t.names.length c')) hag3 (by rw[x4,hpz]) f4 HSM.out.P0;have HRN:=Y1 hrn;clear hrn x4 f4 hbw3 hag3 hz3
    go_wp2_with fail
    refine (LA _).mono ?_;rintro e w4 ⟨rfl,rfl⟩
    go_wp2_with fail
    refine HRN.out.mono ?_;rintro e w5 ⟨rfl,P',d',W3',hb3,hP0,rfl⟩;have HST:=Y1 (HC.out.step (P':=P') (d':=d') (pb:=0) (qs:=fun _=>a.q) HB2.out HTX.out hb3 (by omega) hP0 (Or.inl ⟨hpz,by rw[hpz],rfl⟩));have hk0:kids 0 a.t.parts (fun _=>a.q)= []:=List.eq_nil_of_length_eq_zero (by rw[Z0M]; exact hpz);rw[hk0,List.append_nil] at HST;clear hk0 hb3 hP0 HRN;go_wp2
    go_roundg (sumL L')
    case measure=>rw[Z0m] at hk; have:=Z1V a.t; simp[sumL] at hk ⊢; omega
    case rel=>
     obtain ⟨D5,h5⟩:=HST.out;exact ⟨L',D5,Nat.le_refl _,by rw[Z0m] at h400; omega,fun n hn=>HRI.out n (by simp[hn]),Y1 h5⟩}
   {have hpos:0 < a.t.parts.length:=by omega
    rcases HAT.out.part with h0 | ⟨g',off,qs,hqP,hg',hcc,hrr⟩
    {omega}
    {have hpl:a.t.parts.length<=1000000000:=by have:=Z0F a.t.parts; rw[size_eq] at ha4; omega
     have hrn:=Z54 a.g (a.i * 5+4) g' off a.q.d a.t.parts qs (W2.setCell ⟨a.g,a.i * 5+3,none⟩ (.slice A' a.t.names.length c')) hag3 (by rw[x4,hqP]) f4 (by omega) (fun i hi=>(hcc i hi).of (fun k=>(hbw3.cell (p:=⟨g',k,none⟩) hg').trans (HC.out.bel.cell (p:=⟨g',k,none⟩) hg').symm)) hpl hpos;have HRN:=Y1 hrn;have HRR:=Y1 hrr;clear hrn hcc hrr hqP x4 f4 hbw3
     go_wp2_with fail
     refine (LA _).mono ?_;rintro e w4 ⟨rfl,rfl⟩
     go_wp2_with fail
     refine HRN.out.mono ?_;rintro e w5 ⟨rfl,pb,d',W3',hb3,hd1,hpb,hpar,rfl⟩;have hz4:=hb3.size;have hagz:a.g < W3'.heap.size:=by omega
     have hoc: ∃u,W3'.cell? ⟨a.g,a.i * 5+4,none⟩=some u:=⟨_,(hb3.cell (p:=⟨a.g,a.i * 5+4,none⟩) hag3).trans ((World.cell?_setCell_other _ _ _ _ (fun e=>by have:=congrArg Addr.off e; simp at this)).trans ((HB2.out.cell (p:=⟨a.g,a.i * 5+4,none⟩) hlo2).trans (HC.out.nd a (by simp)).2.2.1.2.2.2.2))⟩;obtain ⟨u0,hu0⟩:=hoc;have c4: (W3'.setCell ⟨a.g,a.i * 5+4,none⟩ (.slice (some ⟨pb,0,none⟩) a.t.parts.length d')).cell? ⟨a.g,a.i * 5+4,none⟩=some (.slice (some ⟨pb,0,none⟩) a.t.parts.length d'):=World.cell?_setCell_same _ _ _ hu0;have hz5: (W3'.setCell ⟨a.g,a.i * 5+4,none⟩ (.slice (some ⟨pb,0,none⟩) a.t.parts.length d')).heap.size=W3'.heap.size:=Z1G _ _ _;have hO4:Opn (W3'.setCell ⟨a.g,a.i * 5+4,none⟩ (.slice (some ⟨pb,0,none⟩) a.t.parts.length d')) (.slice (some ⟨g,0,none⟩) L'.length cap) L':=
      (((HC.out.opn.pop.below HB2.out).set (fun e=>hag (Option.some.inj e).symm) _).below hb3).set (fun e=>hag (Option.some.inj e).symm) _
     have hpbl:=hpar.lt;have hpag:pb≠a.g:=by omega
     have hR0:=Rnd7.start hO4 (fun e=>by have:g=pb:=Option.some.inj e; omega) (hpar.of (Z0i W3' ⟨a.g,a.i * 5+4,none⟩ (.slice (some ⟨pb,0,none⟩) a.t.parts.length d') (Ne.symm hpag)) (by omega));have HR0:=Y1 hR0;have HSTEP:=Y1 (fun (W5:World) (v5:Value) (hr:Rnd7 (W3'.setCell ⟨a.g,a.i * 5+4,none⟩ (.slice (some ⟨pb,0,none⟩) a.t.parts.length d')) W5 (.slice (some ⟨g,0,none⟩) L'.length cap) v5 pb a.t.parts qs L' a.t.parts.length)=>HC.out.step (P':=some ⟨pb,0,none⟩) (d':=d') (pb:=pb) (qs:=qs) HB2.out HTX.out hb3 hd1 nofun (Or.inr ⟨rfl,by omega,HRR.out,hr⟩));obtain ⟨W4,hW4⟩: ∃W4,W4=W3'.setCell ⟨a.g,a.i * 5+4,none⟩ (.slice (some ⟨pb,0,none⟩) a.t.parts.length d'):=⟨_,rfl⟩;rw[<-hW4] at c4 hz5 HR0 HSTEP ⊢;have hpw:pb < W4.heap.size:=by omega
     have hag4:a.g < W4.heap.size:=by omega
     clear hW4 hb3 hpb hpar hR0 hO4 hu0 hpbl HRN hz3 hag3 hz4 hagz
     go_wp2_with fail
     go_loopw [9,47] (fun s9 ii wr=> ∃i:Nat,ii= .int .i64 i/\i<=a.t.parts.length/\Hid (Rnd7 W4 wr (.slice (some ⟨g,0,none⟩) L'.length cap) s9 pb a.t.parts qs L' i)) (fun _ i _=>a.t.parts.length - (intOf i).toNat)
     case atStart=>exact ⟨0,rfl,Nat.zero_le _,HR0⟩
     case round=>
      obtain ⟨i,rfl,hi,HR⟩:=hrel;by_cases hlt:i < a.t.parts.length
      {have hi1: (i:Int) < (a.t.parts.length:Int):=by omega
       have k4:=(HR.out.up.same hag4 (fun e=>hag (Option.some.inj e).symm)).1 (a.i * 5+4);rw[c4] at k4;obtain ⟨i0,hi2,hz0,hz1,hz2⟩:=info_parts (P:=Tryd.prog) (e:=71) (z:= .pointer none) (size:=1) (bytes:=8) Z5D;have hlen: (L'++(kids pb a.t.parts qs).take i).length=L'.length+i:=by rw[List.length_append,List.length_take,Z0M]; omega
       have hown:=HR.out.opn;unfold Opn at hown;rw[hlen] at hown;have HOW:=Y1 hown;clear hown hlen
       go_wp2_with (at_builtin; refine wpList_append_lies _ rfl _ _ 90 rfl 0 71 i0 (.pointer none) 1 8 Tryd.underlying90 hi2 hz0 hz1 hz2 rfl (by decide) _ _ _ rfl (HOW.out.alloc _) ⟨wr.heap.size,0,none⟩ 1 1 [.pointer (some ⟨pb,i * 5,none⟩)] rfl rfl (World.news_of_block (cs:=#[.pointer (some ⟨pb,i * 5,none⟩)]) (t:=71) (fr:=(0,0)) (heap_alloc_new _ _)) (by simp[Value.oneCell']) (by decide) (by unfold maxLen; omega) (by omega) (by simp) _ rfl ?_)
       intro g1 cap1 w5 hown1 hgrow hat1 hlt1;have HN:=Y1 (HR.out.step hlt hpw hgrow (by simpa[List.map_append,List.append_assoc,List.map_take] using hown1) (by simpa using hat1));clear hown1 hgrow hat1 k4
       go_wp2_with fail
       exact ⟨⟨i+1,by go_num,by omega,HN⟩,by simp[intOf]; omega⟩}
      {have hie:i=a.t.parts.length:=by omega
       have HN:=Y1 (HSTEP.out wr _ (by have:=HR.out; rwa [hie] at this));have hi1: ¬(i:Int) < (a.t.parts.length:Int):=by omega
       clear hie HR HSTEP HR0;go_wp2
       go_roundg (sumL (L'++kids pb a.t.parts qs))
       case measure=>
        rw[Z0m,Z2F];rw[Z0m] at hk;have:=size_eq a.t;simp[sumL] at hk ⊢;omega
       case rel=>
        obtain ⟨D5,h5⟩:=HN.out;refine ⟨L'++kids pb a.t.parts qs,D5,Nat.le_refl _, ?_,fun n hn=> ?_,Y1 h5⟩
        {rw[Z0m,Z2F];rw[Z0m] at h400;have:=size_eq a.t;simp[sumL] at h400 ⊢;omega}
        {rcases List.mem_append.1 hn with hn | hn
         {exact HRI.out n (by simp[hn])}
         {obtain ⟨i,hi,rfl⟩:=List.getElem_of_mem hn;rw[Z1F];exact har.part (List.getElem_mem _)}}}}}}
theorem Z44:
 Calls Tryd.prog 26 #[.agg (Y8 t q)] w fun e w'=> ∃q' F,e= .returned (.agg (Y8 t q'))/\Own w' q' t F/\F.Nodup/\(∀b∈F,w.heap.size<=b)/\Below w.heap.size w w':=by
 have HS:=Y1 (Z18 w t q);have HE:=Y1 (Z41 w t q);have HZ:=Y1 (show (sW w t q).heap.size=w.heap.size+2 from by simp[sW]);have HCP:=Y1 (Z6R t q (sW w t q) (hq.next (Z18 w t q)) hz hr);obtain ⟨_,⟨c0,c1,c2,c3,c4⟩,_⟩:=Z07 w t q;clear hq hr;go_enter Tryd.func26,Tryd.ntmps26
 go_wp2_with fail
 clear c0 c1 c2 c3 c4;change Calls _ _ _ (sW w t q) _;generalize sW w t q=W at HS HE HCP HZ ⊢;refine HCP.out.mono ?_;rintro e w1 ⟨q',F,rfl,ho,hnd,hF,hb1⟩;have HO:=Y1 ho;have HND:=Y1 hnd;have HF:=Y1 (fun b hb=>show w.heap.size+2<=b from by have:=hF b hb; have:=HZ.out; omega);have HS1:=Y1 (Z03 HS.out hb1);have HE1:=Y1 (HE.out.next hb1);clear ho hnd hF hb1 HCP;obtain ⟨_,⟨r0,r1,r2,r3,r4⟩,f0,f1,f2,f3,f4⟩:=HE1.out;simp only[Nat.zero_add] at r0 r1 r2 r3 r4;go_wp2;refine bodyPost_ret (v:= .agg (Y8 t q')) (by simp[results,Tryd.results26,go_sem,r0,r1,r2,r3,r4]) rfl ?_;exact ⟨q',F,rfl,Z19 HO.out (fun x hx e=>by have:=HF.out x hx; omega) _ _ _ _ _,HND.out,fun b hb=>by have:=HF.out b hb; omega,Z0j HS1.out (by omega) _ _ _ _ _⟩
end
end
section
open Go.RowKit Shp Go.Sort
structure Swi (w wi:World) (ps:List Sh) (qs:Nat->Ptr) (Fs Fs':Nat->List Nat) (i:Nat):Prop where
 up:UpF ((List.range ps.length).flatMap Fs) w wi
 pm: ∀j,j < ps.length->(Fs' j).Perm (Fs j)
 lo: ∀j (h:j < ps.length),j < i->Own wi (qs j) (sorted (ps[j]'h)) (Fs' j)
 hi: ∀j (h:j < ps.length),i<=j->Own wi (qs j) (ps[j]'h) (Fs' j)
theorem Swi.start {w wi:World} {ps:List Sh} {qs:Nat->Ptr} {Fs:Nat->List Nat} (hr: ∀j (h:j < ps.length),Own w (qs j) (ps[j]'h) (Fs j)) (hb:Below w.heap.size w wi):Swi w wi ps qs Fs Fs 0:=
 ⟨(UpF.refl _ _).below hb,fun j _=>List.Perm.refl _,fun j _ h=>absurd h (by omega),fun j h _=>Z0K (hr j h) hb⟩
theorem Swi.below {w wi w2:World} {ps:List Sh} {qs:Nat->Ptr} {Fs Fs':Nat->List Nat} {i:Nat} (h:Swi w wi ps qs Fs Fs' i) (hb:Below wi.heap.size wi w2):Swi w w2 ps qs Fs Fs' i:=
 ⟨h.up.below hb,h.pm,fun j hj hl=>Z0K (h.lo j hj hl) hb,fun j hj hl=>Z0K (h.hi j hj hl) hb⟩
theorem Swi.step {w wi w2:World} {ps:List Sh} {qs:Nat->Ptr} {Fs Fs':Nat->List Nat} {i:Nat} {F':List Nat} (h:Swi w wi ps qs Fs Fs' i) (hi:i < ps.length)
 (hdis: ∀i j,i < ps.length->j < ps.length->i≠j-> ∀b∈Fs i,b∉Fs j) (hu:UpF (Fs' i) wi w2) (hp:F'.Perm (Fs' i)) (ho:Own w2 (qs i) (sorted (ps[i]'hi)) F'): ∃Fs2,Swi w w2 ps qs Fs Fs2 (i+1):=by
 have hfar: ∀j,j < ps.length->j≠i-> ∀b∈Fs' j,b∉Fs' i:=fun j hj hne b hb hb2=>
  hdis j i hj hi hne b ((h.pm j hj).mem_iff.1 hb) ((h.pm i hi).mem_iff.1 hb2)
 refine ⟨fun j=>if j=i then F' else Fs' j,h.up.next hu (fun x hx=>List.mem_flatMap.2 ⟨i,List.mem_range.2 hi,(h.pm i hi).mem_iff.1 hx⟩),fun j hj=> ?_,fun j hj hl=> ?_,fun j hj hl=> ?_⟩
 {by_cases e:j=i
  {subst e; simp only[if_true]; exact hp.trans (h.pm j hj)}
  {simp only[if_neg e]; exact h.pm j hj}}
 {by_cases e:j=i
  {subst e; simp only[if_true]; exact ho}
  {simp only[if_neg e];have ho2:=h.lo j hj (by omega);exact ho2.of (fun b hb=>hu.same (ho2.lt b hb) (hfar j hj e b hb)) hu.size}}
 {have e:j≠i:=by omega
  simp only[if_neg e];have ho2:=h.hi j hj (by omega);exact ho2.of (fun b hb=>hu.same (ho2.lt b hb) (hfar j hj e b hb)) hu.size}
def half (t:Sh):Sh:=⟨t.kind,t.of_,t.name,t.names,t.parts.map sorted⟩
theorem Z5c {t:Sh} {q:Ptr} (h:Small t q):Small (half t) q:=by
 obtain ⟨h1,h2,h3,h4,h5,h6,h7,h8,h9⟩:=h;exact ⟨h1,h2,h3,h4,by simpa[half] using h5,h6,by simpa[half] using h7,h8,h9⟩
theorem Swi.halfs {w wi:World} {t:Sh} {qs:Nat->Ptr} {Fs Fs':Nat->List Nat} (h:Swi w wi t.parts qs Fs Fs' t.parts.length): ∀i (hi:i < (half t).parts.length),Own wi (qs i) ((half t).parts[i]'hi) (Fs' i):=fun i hi=>by
 have hi2:i < t.parts.length:=by simpa[half] using hi
 have:=h.lo i hi2 hi2;simpa[half] using this
theorem Z5I {n:Nat} {Fs Fs':Nat->List Nat} (h: ∀j,j < n->(Fs' j).Perm (Fs j)): ((List.range n).flatMap Fs').Perm ((List.range n).flatMap Fs):=by
 induction n with
 | zero=>exact List.Perm.refl _
 | succ n ih=>
  rw[List.range_succ,List.flatMap_append,List.flatMap_append];refine (ih fun j hj=>h j (by omega)).append ?_;simpa using h n (by omega)
theorem ZaA {w wi w2:World} {t:Sh} {q:Ptr} {FN FP:List Nat} {qs:Nat->Ptr} {Fs Fs':Nat->List Nat} (hr:right t=true) (hs:Small t q) (h0:t.names.length=0)
 (hn:t.names.length=0/\FN= []\/ ∃b,q.A=some ⟨b,0,none⟩/\FN= [b]/\TxR w b t.names) (hp:t.parts.length=0/\FP= []\/ ∃b,q.P=some ⟨b,0,none⟩/\FP= [b]/\PaR w b t.parts qs)
 (hnd: (FN++FP++(List.range t.parts.length).flatMap Fs).Nodup) (h:Swi w wi t.parts qs Fs Fs' t.parts.length) (hb:Below wi.heap.size wi w2):
 UpF (FN++FP++(List.range t.parts.length).flatMap Fs) w w2/\ ∃F',F'.Perm (FN++FP++(List.range t.parts.length).flatMap Fs)/\Own w2 q (sorted t) F':=by
 have h2:=h.below hb;obtain ⟨n1,n2,n3,_,_⟩:=Z2U hnd;have hU:UpF (FN++FP++(List.range t.parts.length).flatMap Fs) w w2:=(UpF.refl _ w).next h2.up (fun x hx=>List.mem_append_right _ hx);have hnil:t.names= []:=List.eq_nil_of_length_eq_zero h0;have hso:sorted t=half t:=by rw[Z0c,if_pos hnil]; unfold half; rw[hnil]
 have hin: ∀b∈FP,b∉(List.range t.parts.length).flatMap Fs:=fun b hb hb2=>by
  obtain ⟨j,hj,hb2⟩:=List.mem_flatMap.1 hb2;exact n3 b hb j (List.mem_range.1 hj) hb2
 have hin2: ∀b∈FN,b∉(List.range t.parts.length).flatMap Fs:=fun b hb hb2=>by
  obtain ⟨j,hj,hb2⟩:=List.mem_flatMap.1 hb2;exact n2 b hb j (List.mem_range.1 hj) hb2
 refine ⟨hU,FN++FP++(List.range t.parts.length).flatMap Fs',(Z5I h2.pm).append_left _, ?_⟩;rw[hso];refine .mk q _ _ FN FP qs Fs' (Z5c hs) ?_ ?_ (Swi.halfs h2) (by simp[half])
 {rcases hn with h | ⟨b,h1,rfl,h3⟩
  {exact Or.inl h}
  {exact Or.inr ⟨b,h1,rfl,h3.of (h2.up.same h3.lt (hin2 b (by simp))) h2.up.size⟩}}
 {rcases hp with h | ⟨b,h1,rfl,h3⟩
  {exact Or.inl (by simpa[half] using h)}
  {refine Or.inr ⟨b,h1,rfl,Nat.lt_of_lt_of_le h3.lt h2.up.size,fun i hi=> ?_,fun k=>((h2.up.same h3.lt (hin b (by simp))).2 k).trans (h3.fz k)⟩;have hi2:i < t.parts.length:=by simpa[half] using hi
   have hm:t.parts[i]∈t.parts:=List.getElem_mem hi2;have:=Z58 (Z05 hr hm) ((h3.at_ i hi2).of (h2.up.same h3.lt (hin b (by simp))).1);simpa[half] using this}}
theorem ZaB {t:Sh} (hl:t.names.length=t.parts.length) (qs:Nat->Ptr) (Fs:Nat->List Nat): (els t qs Fs).toList.map (fun x=>((x.n,x.t):Fld))=t.names.zip t.parts:=by
 apply List.ext_getElem
 {simp[els,hl]}
 {intro i h1 h2;have h3:i < t.names.length:=by simpa[els] using h1
  have h4:i < t.parts.length:=by omega
  simp[els,h3,h4]}
theorem ZaC {w wi:World} {t:Sh} {q:Ptr} {FN FP:List Nat} {qs:Nat->Ptr} {Fs Fs':Nat->List Nat} (hr:right t=true) (hs:Small t q) (h0:t.names.length≠0)
 (hn:t.names.length=0/\FN= []\/ ∃b,q.A=some ⟨b,0,none⟩/\FN= [b]/\TxR w b t.names) (hp:t.parts.length=0/\FP= []\/ ∃b,q.P=some ⟨b,0,none⟩/\FP= [b]/\PaR w b t.parts qs)
 (hnd: (FN++FP++(List.range t.parts.length).flatMap Fs).Nodup) (h:Swi w wi t.parts qs Fs Fs' t.parts.length):
 ∃bn bp,q.A=some ⟨bn,0,none⟩/\q.P=some ⟨bp,0,none⟩/\(half t).names.length=(half t).parts.length/\TxR wi bn (half t).names/\PaR wi bp (half t).parts qs/\bn≠bp/\
  ∀(d':Array El) (w2:World),PermIn 0 (half t).names.length (els (half t) qs Fs') d'->SortedIn ltEl 0 (half t).names.length d'->FSt wi bn bp (half t).names.length d' w2->
   UpF (FN++FP++(List.range t.parts.length).flatMap Fs) w w2/\ ∃F',F'.Perm (FN++FP++(List.range t.parts.length).flatMap Fs)/\Own w2 q (sorted t) F':=by
 obtain ⟨hl,hnn⟩:=(Z1P hr).resolve_left (fun e=>h0 (by rw[e]; rfl));rcases hn with ⟨hn,_⟩ | ⟨bn,hA,rfl,hT⟩
 {omega}
 rcases hp with ⟨hp,_⟩ | ⟨bp,hP,rfl,hPa⟩
 {omega}
 obtain ⟨n1,n2,n3,_,_⟩:=Z2U hnd;have hbnp:bn≠bp:=fun e=>n1 bn (by simp) (by simp[e]);have hinP:bp∉(List.range t.parts.length).flatMap Fs:=fun hb2=>by
  obtain ⟨j,hj,hb2⟩:=List.mem_flatMap.1 hb2;exact n3 bp (by simp) j (List.mem_range.1 hj) hb2
 have hinN:bn∉(List.range t.parts.length).flatMap Fs:=fun hb2=>by
  obtain ⟨j,hj,hb2⟩:=List.mem_flatMap.1 hb2;exact n2 bn (by simp) j (List.mem_range.1 hj) hb2
 have hlh: (half t).names.length=(half t).parts.length:=by simpa[half] using hl
 refine ⟨bn,bp,hA,hP,hlh,hT.of (h.up.same hT.lt hinN) h.up.size,⟨Nat.lt_of_lt_of_le hPa.lt h.up.size,fun i hi=> ?_,fun k=>((h.up.same hPa.lt hinP).2 k).trans (hPa.fz k)⟩,hbnp, ?_⟩
 {have hi2:i < t.parts.length:=by simpa[half] using hi
  have hm:t.parts[i]∈t.parts:=List.getElem_mem hi2;have:=Z58 (Z05 hr hm) ((hPa.at_ i hi2).of (h.up.same hPa.lt hinP).1);simpa[half] using this}
 {intro d' w2 hpm hso hf;have hpl:=Z95 hpm (Z3y _ _ _);have hown: ∀i (hi:i < (half t).parts.length),Own w2 (qs i) ((half t).parts[i]'hi) (Fs' i):=fun i hi=>by
   have hi2:i < t.parts.length:=by simpa[half] using hi
   have ho:=h.halfs i hi;refine ho.of (fun b hb=> ?_) hf.up.size;have hbF:b∈Fs i:=(h.pm i hi2).mem_iff.1 hb;have hb1:b≠bn:=fun e=>n2 bn (by simp) i hi2 (e▸hbF);have hb2:b≠bp:=fun e=>n3 bp (by simp) i hi2 (e▸hbF);have hbl:=hf.up.block b (ho.lt b hb) hb1 hb2;exact ⟨fun k=>World.cell?_of_block (w:=wi) hbl,fun k=>World.frozen?_of_block (w:=wi) hbl⟩
  obtain ⟨o1,o2⟩:=Zbv (N:=(half t).names.length) hA hP (Z5c hs) rfl hlh.symm hf hpl hown;have hsorted:sorted t=⟨(half t).kind,(half t).of_,(half t).name,d'.toList.map El.n,d'.toList.map El.t⟩:=by
   have hfst: (t.names.zip (t.parts.map sorted)).map Prod.fst=t.names:=List.map_fst_zip (by rw[List.length_map,hl]; exact Nat.le_refl _);have hu: (d'.toList.map fun x=>((x.n,x.t):Fld))=sortF (t.names.zip (t.parts.map sorted)):=by
    refine Z1k ?_ (Z6G hso hf.size) (by rw[hfst]; exact hnn);have:=hpl.map (fun x=>((x.n,x.t):Fld))
    rwa [ZaB hlh] at this
   rw[Z0c,if_neg (fun e=>h0 (by rw[e]; rfl)), <-hu];simp[half,List.map_map,Function.comp_def]
  refine ⟨?_,_, ?_,by rw[hsorted]; exact o1⟩
  {have hU1:UpF ([bn]++ [bp]++(List.range t.parts.length).flatMap Fs) w wi:=(UpF.refl _ w).next h.up (fun x hx=>List.mem_append_right _ hx);exact hU1.next (hf.up.upF (F:= [bn]++ [bp]) (by simp) (by simp)) (fun x hx=>List.mem_append_left _ hx)}
  {refine o2.trans ?_;have:=(Z5I h.pm).append_left ([bn]++ [bp]);simpa[half] using this}}
theorem Box5.same {W W':World} {g:Nat} {t:Sh} {q:Ptr} (h:Box5 W g t q) (hs:Z0y W W' g) (hz:W.heap.size<=W'.heap.size):Box5 W' g t q:=by
 obtain ⟨h0,h1,f0,f1,f2,f3,f4⟩:=h;exact ⟨Nat.lt_of_lt_of_le h0 hz,h1.of hs.1,(hs.2 _).trans f0,(hs.2 _).trans f1,(hs.2 _).trans f2,(hs.2 _).trans f3,(hs.2 _).trans f4⟩
theorem Swi.box {w wi:World} {t:Sh} {q:Ptr} {qs:Nat->Ptr} {Fs Fs':Nat->List Nat} {i g:Nat} (h:Swi w wi t.parts qs Fs Fs' i) (hb:Box5 w g t q) (hg:g∉(List.range t.parts.length).flatMap Fs):Box5 wi g t q:=
 hb.same (h.up.same hb.1 hg) h.up.size
theorem Z5d (t:Sh): ∀(q:Ptr) (F:List Nat) (w:World),Own w q t F->F.Nodup->right t=true->size t<=400->
 Calls Tryd.prog 36 #[.agg (Y8 t q)] w
  fun e w'=>e= .returned (.tuple #[])/\UpF F w w'/\ ∃F',F'.Perm F/\Own w' q (sorted t) F':=by
 induction t using Sh.ind with
 | h t ih=>
 intro q F w hO hnd hr hz;have hb0:=Z01 w (.cells (Y8 t q) 25);have HB:=Y1 (Z07 w t q);have HM:=Y1 hO.small;have hlt:=hO.lt;obtain ⟨FN,FP,qs,Fs,hn,hp,hrr,rfl⟩:=(Z0K hO hb0).inv;obtain ⟨n1,n2,n3,n4,n5⟩:=Z2U hnd;have hg:w.heap.size∉(List.range t.parts.length).flatMap Fs:=fun hm=>by
  have:=hlt w.heap.size (List.mem_append_right _ hm);omega
 have HG:=Y1 hg;have HS0:=Y1 (Swi.start hrr Y2);have HN:=Y1 hn;have HP:=Y1 hp;have HND:=Y1 hnd;have HD:=Y1 n5;have HN4:=Y1 n4;have HN3:=Y1 n3;have HR:=Y1 hr;have HZ:Hid (size t=1+sizes t.parts):=Y1 (size_eq t);have HB0:=Y1 hb0;have hlen:=Z0F t.parts;have hpl:t.parts.length<=400:=by have:=HZ.out; omega
 clear hb0 hO hlt hn hp hrr hnd n1 n2 n3 n4 n5 hr hg hlen;go_enter Tryd.func36,Tryd.ntmps36
 go_wp2_with fail
 generalize w.alloc (.cells (Y8 t q) 25)=W0 at HB HS0 HN HP HB0 ⊢
 go_loopw [7] (fun ii wr=> ∃i:Nat,ii= .int .i64 i/\i<=t.parts.length/\Hid (∃Fs',Swi W0 wr t.parts qs Fs Fs' i)) (fun i _=>t.parts.length - (intOf i).toNat)
 case atStart=>exact ⟨0,rfl,Nat.zero_le _,Y1 ⟨_,HS0.out⟩⟩
 case round=>
  obtain ⟨i,rfl,hi,HSW⟩:=hrel;by_cases hlt:i < t.parts.length
  {obtain ⟨Fs',hsw⟩:=HSW.out;rcases HP.out with ⟨h0,_⟩ | ⟨bp,hqP,hFP,hPa⟩
   {omega}
   {obtain ⟨x,hx⟩: ∃x,x=t.parts[i]:=⟨_,rfl⟩;have hxr:right x=true:=by rw[hx]; exact Z05 HR.out (List.getElem_mem _)
    have hxz:size x<=400:=by
     have:=Z1h (List.getElem_mem hlt);have:=HZ.out;rw[hx]; omega
    have hinP:bp∉(List.range t.parts.length).flatMap Fs:=fun hb2=>by
     obtain ⟨j,hj,hb2⟩:=List.mem_flatMap.1 hb2;exact HN3.out bp (by rw[hFP]; simp) j (List.mem_range.1 hj) hb2
    obtain ⟨p0,p1,p2,p3,p4⟩:=(hPa.at_ i hlt).of (hsw.up.same hPa.lt hinP).1;have hbx:=Z01 wr (.cells (Y8 x (qs i)) 25);have hsw2:=hsw.below hbx;have hox:=hsw2.hi i hlt (Nat.le_refl _);rw[<-hx] at p0 p1 p2 p3 p4 hox;have IH:=Y1 (ih t.parts[i] (List.getElem_mem _) (qs i) (Fs' i) (wr.alloc (.cells (Y8 x (qs i)) 25)) (by rw[<-hx]; exact hox) (((hsw.pm i hlt).nodup_iff).2 (HN4.out i hlt)) (by rw[<-hx]; exact hxr) (by rw[<-hx]; exact hxz));rw[<-hx] at IH;have HX:=Y1 hx;have HSW2:=Y1 hsw2;clear hx hsw hsw2 hox hbx hinP hPa hFP hxr hxz ih HSW;have hi1: (i:Int) < (t.parts.length:Int):=by omega
    rw[hqP];clear hqP
    go_wp2_with fail
    refine IH.out.mono ?_;rintro e w2 ⟨rfl,hu,F',hF',ho'⟩;have HS3:Hid (∃Fs2,Swi W0 w2 t.parts qs Fs Fs2 (i+1)):=Y1 (HSW2.out.step hlt HD.out hu hF' (by rw[<-HX.out]; exact ho'));clear hu hF' ho' IH HSW2;go_wp2
    go_roundw
    case rel=>exact ⟨i+1,by go_num,by omega,HS3⟩
    case measure=>simp[intOf]; omega}}
  {obtain ⟨Fs',hsw⟩:=HSW.out;have hie:i=t.parts.length:=by omega
   subst hie;have hi1: ¬(t.parts.length:Int) < (t.parts.length:Int):=by omega
   obtain ⟨_,⟨b0,b1,b2,b3,b4⟩,_⟩:=hsw.box HB.out HG.out;have HSW3:=Y1 hsw;clear hsw HSW hlt
   go_wp2_with fail
   by_cases h0:t.names.length=0
   {refine (Z7Q t q wr h0).mono ?_;rintro e w2 ⟨rfl,hb2⟩;obtain ⟨r1,r2⟩:=ZaA HR.out HM.out h0 HN.out HP.out HND.out HSW3.out hb2;have HR1:=Y1 (((UpF.refl _ w).below HB0.out).next r1 (fun x hx=>hx));have HR2:=Y1 r2;clear r1 r2 hb2 HSW3;go_wp2
    go_end0
    exact ⟨rfl,HR1.out,HR2.out⟩}
   {obtain ⟨bn,bp,hA,hP,hl,hT,hPa,hne,hall⟩:=ZaC HR.out HM.out h0 HN.out HP.out HND.out HSW3.out;have hw:=Z94 (half t) q qs Fs' bn bp wr hA hP hl (by
     have: (half t).parts.length=t.parts.length:=by simp[half]
     omega) hT hPa hne
    have hkk: (half t).parts.length=t.parts.length:=by simp[half]
    have e1: (half t).kind=t.kind:=rfl;have e2: (half t).of_=t.of_:=rfl;have e3: (half t).name=t.name:=rfl;have e4: (half t).names.length=t.names.length:=rfl;rw[hkk,e1,e2,e3,e4] at hw;refine hw.mono ?_;rintro e w2 ⟨rfl,d',hpm,hso,hf⟩;obtain ⟨r1,r2⟩:=hall d' w2 hpm hso hf;have HR1:=Y1 (((UpF.refl _ w).below HB0.out).next r1 (fun x hx=>hx));have HR2:=Y1 r2;clear r1 r2 hpm hso hf hw hall HSW3 hA hP hl hT hPa hne hkk e1 e2 e3 e4;go_wp2
    go_end0
    exact ⟨rfl,HR1.out,HR2.out⟩}}
end
section
open Go.RowKit
def wordsC:Array Value:=#[.string ⟨#[]⟩,.string ⟨#[73,110,116]⟩,.string ⟨#[66,111,111,108]⟩,.string ⟨#[84,101,120,116]⟩,.string ⟨#[65,110,121]⟩]
theorem Z4H:Tryd.prog.globalNamed "pandect/shape.words" =some 0:=by kernel_rfl
def WGlobs (w:World):Prop:=w.var? Tryd.prog "pandect/shape.words" =some wordsC
theorem WGlobs.cell {w:World} (h:WGlobs w) (i:Nat):w.cell? ⟨0,i,none⟩=wordsC[i]? :=World.var?_cell Z4H h i
theorem WGlobs.lt {w:World} (h:WGlobs w):0 < w.heap.size:=Z1N ((WGlobs.cell h 0).trans (by rfl:wordsC[0]? =some (.string ⟨#[]⟩)))
theorem WGlobs.next {w w':World} (h:WGlobs w) (hb:Below w.heap.size w w'):WGlobs w':=var?_below hb Z4H (WGlobs.lt h) h
theorem Z3H {P:Program} {w:World}: ∀ {l:List (String×DataW Unit)} {ps:List MemPlace},DataW.LaidVars P w l ps-> ∀x∈l,
 ∃g t cs fuel p,P.globalNamed x.1=some g/\(P.globals[g]?).map (·.type)=some t/\w.var? P x.1=some cs/\DataW.trod (fun _=>()) P w 0 (fun _=>true) false fuel t cs.toList=some (x.2,p)
 | [],_,_,x,hx=>by simp at hx
 | (n,d)::r,ps,h,x,hx=>by
  obtain ⟨g,t,cs,fuel,p,q,h1,h2,h3,h4,h5,_⟩:=h;rcases List.mem_cons.1 hx with rfl | hx
  {exact ⟨g,t,cs,fuel,p,h1,h2,h3,h4⟩}
  {exact Z3H h5 x hx}
theorem ZaD {L:List (String×DataW Unit)} {W:World} (h:laidMet Tryd.prog L W) (m4: ("pandect/shape.words",Rows.laid_pandect_shape_words)∈L):WGlobs W:=by
 unfold WGlobs;obtain ⟨ps,hv,_,_⟩:=h;obtain ⟨g1,t1,cs,f1,p1,a1,b1,c1,d1⟩:=Z3H hv _ m4;obtain rfl:=Option.some.inj (Z4H.symm.trans a1);have ht: (Tryd.prog.globals[0]?).map (·.type)=some 132:=by kernel_rfl
 obtain rfl:=Option.some.inj (ht.symm.trans b1);rw[c1];congr 1;have hc1:Tryd.prog.cellsOf 9=1:=by kernel_rfl
 obtain ⟨xs,m,_,hx,hsz,hl,he⟩:=DataW.trod_array Tryd.underlying132 d1;rw[hc1] at he;have hc6:Tryd.prog.cellsOf 132=5:=by kernel_rfl
 rw[hc6] at hsz;have hx1:=(Prod.mk.inj hx).1;apply Array.ext'
 match xs,hl,hx1 with
 | [y0,y1,y2,y3,y4],_,hx1=>
  obtain ⟨L,hL⟩: ∃L,L=cs.toList:=⟨_,rfl⟩;rw[<-hL] at hsz he ⊢;clear hL
  match L,hsz with
  | [k0,k1,k2,k3,k4],_=>
   have e0:=he 0 (by omega);have e1:=he 1 (by omega);have e2:=he 2 (by omega);have e3:=he 3 (by omega);have e4:=he 4 (by omega);simp only[List.getElem?_cons_zero,List.getElem?_cons_succ,Nat.mul_one,List.drop_zero,List.drop_succ_cons,List.take_succ_cons,List.take_zero] at e0 e1 e2 e3 e4;obtain ⟨x0,h0,rfl,_⟩:=DataW.trod_string Tryd.underlying9 e0;obtain ⟨x1,h1,rfl,_⟩:=DataW.trod_string Tryd.underlying9 e1;obtain ⟨x2,h2,rfl,_⟩:=DataW.trod_string Tryd.underlying9 e2;obtain ⟨x3,h3,rfl,_⟩:=DataW.trod_string Tryd.underlying9 e3;obtain ⟨x4,h4,rfl,_⟩:=DataW.trod_string Tryd.underlying9 e4;simp at h0 h1 h2 h3 h4;simp[Rows.laid_pandect_shape_words] at hx1;obtain ⟨z0,z1,z2,z3,z4⟩:=hx1;have key: ∀(x:ByteArray) (l:List UInt8),l=x.data.toList->x=⟨l.toArray⟩:=fun x l h=>by rw[h]
   rw[h0,h1,h2,h3,h4];have k0:=key x0 [] (by simp[z0]);have k1:=key x1 [73,110,116] (by simp[<-z1]);have k2:=key x2 [66,111,111,108] (by simp[<-z2]);have k3:=key x3 [84,101,120,116] (by simp[<-z3]);have k4:=key x4 [65,110,121] (by simp[<-z4]);rw[k0,k1,k2,k3,k4]; rfl
end
end Go.Proofs.YtmeiijjpomcgcaaDoor
