/- What the proofs of SubtypeJoins, SubtypeMeets want, part 10. -/
import Derived.Test.YtlomianlcnmfgaaGreatDoorK0n9
set_option linter.unusedVariables false
set_option linter.unusedSimpArgs false
set_option linter.unusedSectionVars false
set_option maxRecDepth 100000
set_option maxHeartbeats 16000000
namespace Go.Proofs.YtlomianlcnmfgaaGreatDoor
section
open Go.RowKit
theorem Z0W (d:Nat->Bool) (i:Nat):also d i i=true:=by
 have:Nat.beq i i=true:=Nat.beq_refl i;unfold also; rw[this]; rfl
theorem Z09 (d:Nat->Bool) {i j:Nat} (h:j≠i):also d i j=d j:=by
 have:Nat.beq j i=false:=by cases hb:Nat.beq j i <;> first | rfl | exact absurd (Nat.eq_of_beq_eq_true hb) h
 unfold also; rw[this]; rfl
theorem Z14 {P:Program} {ops:Array Oper} {o:Oper} {a:Act} {W:World} {K':Act->World->Prop} {Q:Exit->Act->World->Prop} {E:Prop} (hgd:Region.wanted o (yielded ops a.tmps)=true) (s x:Operand) (t:TypeId)
 (ho:o.op= .call { callee:= .builtin .append,args:=#[s,x],argTypes:=#[t,t] })
 (base:Nat) (e:TypeId) (i:TypeInfo) (z:Value) (size bytes:Nat) (ht:P.underlying t=some (.slice e)) (hi:P.info? e=some i) (hz:i.zero=some z)
 (hsize:i.size=size) (hby:i.bytes=bytes) (hzs:z.cells.size=size) (hsz:0 < size)
 (v:Value) (n:Nat) (xs:List Value) (hs:a.eval s=v) (hown:W.ownsRow base e size v n xs)
 (A:Option Addr) (m c:Nat) (news:List Value) (hx:a.eval x= .slice A m c) (hA:A=none->m=0/\c=0) (hl:news.length=m * size)
 (hnews: ∀ad,A=some ad-> ∀j u,news[j]? =some u->W.cell? (ad.add j)=some u) (h1: ∀u∈news,u.oneCell'=true)
 (h63:n+m<=maxLen) (hbytes: (n+m) * bytes<=140737488355328) (hbase:base<=W.heap.size)
 (h: ∀v' w',w'.ownsRow base e size v' (n+m) (xs++news)->W.grownBy w' v.ownBlock->(v'.ownBlock=v.ownBlock\/v'.ownBlock=some W.heap.size)->K' (a.put o.dst v') w'):
 if Region.wanted o (yielded ops a.tmps)=true then Oper.wp P o a W K' Q else E:=by
 rw[if_pos hgd]
 match A,hA,hnews,hx with
 | some ad,_,hnews,hx=>
  obtain ⟨v',w',hr,h2,h3,_,h5⟩:=run_append_own_at (P:=P) W base t o.type e i z size bytes ht hi hz hsize hby hzs hsz v n xs hown ad m c news hl (hnews ad rfl) h1 h63 hbytes hbase;unfold Oper.wp execOp;simp only[ho,resolve,invoke,builtin,Sem.run_bind,Sem.run_pure,Result.andThen_ok,List.map_toArray,List.map_cons,List.map_nil,hs,hx,hr];exact h v' w' h2 h3 h5
 | none,hA,_,hx=>
  obtain ⟨rfl,rfl⟩:=hA rfl;obtain rfl:news= []:=List.eq_nil_of_length_eq_zero (by rw[hl,Nat.zero_mul]);have hr:=run_append_owned_none (P:=P) (w:=W) base t o.type e i size ht hi v n xs hown;unfold Oper.wp execOp;simp only[ho,resolve,invoke,builtin,Sem.run_bind,Sem.run_pure,Result.andThen_ok,List.map_toArray,List.map_cons,List.map_nil,hs,hx,hr];exact h v W (by rw[List.append_nil]; exact hown) ⟨rfl,rfl,rfl,Nat.le_refl _,fun _ _ _=>rfl⟩ (Or.inl rfl)
def InvC (S:Nat) (Ch: (Nat->Bool)->(Nat->Value)->World->Prop) (Fin:World->Prop) (d:Nat->Bool) (u:Nat->Value) (W:World):Prop:=(d S=false/\Ch d u W)\/(d S=true/\(∀j,j < S->d j=true)/\Fin W)
section
variable {S : Nat} {Ch : (Nat -> Bool) -> (Nat -> Value) -> World -> Prop} {Fin : World -> Prop} {d : Nat -> Bool} {u : Nat -> Value}
include S Ch Fin d u
theorem InvC.open {W:World} (h:InvC S Ch Fin d u W) {j:Nat} (hd:d j=false) (hj:j<=S):d S=false/\Ch d u W:=by
 rcases h with h | ⟨h1,h2,_⟩
 {exact h}
 {rcases Nat.lt_or_eq_of_le hj with h | rfl
  {rw[h2 j h] at hd; cases hd}
  {rw[h1] at hd; cases hd}}
theorem InvC.next {W':World} {j:Nat} {v:Value} (h:d S=false) (hj:j < S) (hc:Ch (also d j) (upd u j v) W'):InvC S Ch Fin (also d j) (upd u j v) W':=
 Or.inl ⟨by rw[Z09 d (show S≠j by omega)]; exact h,hc⟩
theorem InvC.last {W':World} (h: ∀j,j < S->d j=true) (hf:Fin W'):InvC S Ch Fin (also d S) u W':=
 Or.inr ⟨Z0W d S,fun j hj=>by rw[Z09 d (show j≠S by omega)]; exact h j hj,hf⟩
end
theorem Z1E {P:Program} {ρ:Operand->Value} {o:Oper} {W:World} {t:TypeId} {x:Operand} {lo hi:Option Operand} {v:Value} (h:o.op= .slice t x lo hi none) (hr: (Instr.sliceAt t (ρ x) (lo.map ρ) (hi.map ρ) none).run P W= .ok v W):
 (execOp ρ o).run P W= .ok (.value v) W:=by
 unfold execOp; rw[h];simp[hr]
structure ChN (W0:World) (ty:TypeId) (size:Nat) (val:Nat->Option Value) (x y z:List Value) (lx lz:Nat) (d:Nat->Bool) (u:Nat->Value) (W:World):Prop where
 bel:Below W0.heap.size W0 W
 vals: ∀j,d j=true-> ∀v,val j=some v->u j=v
 rA:d 0=true->d 5=false->W.ownsRow W0.heap.size ty size (u 0) 0 []
 rB:d 5=true->d 12=false->W.ownsRow W0.heap.size ty size (u 5) lx x
 rC:d 12=true->d 17=false->W.ownsRow W0.heap.size ty size (u 12) (lx+1) (x++y)
 rE:d 17=true->W.ownsRow W0.heap.size ty size (u 17) (lx+1+lz) (x++y++z)
 rN:d 11=true->d 12=false-> ∃g,u 11= .slice (some ⟨g,0,none⟩) 1 1/\g < W.heap.size/\(∀j v,y[j]? =some v->W.cell? ⟨g,j,none⟩=some v)/\(d 0=true->d 5=false->(u 0).ownBlock≠some g)/\(d 5=true->(u 5).ownBlock≠some g)
 oB:d 5=true->d 0=true
 oC:d 12=true->d 5=true
 oN:d 12=true->d 11=true
 oE:d 17=true->d 12=true
theorem ChN.start (W0:World) (ty:TypeId) (size:Nat) (val:Nat->Option Value) (x y z:List Value) (lx lz:Nat) (u:Nat->Value):ChN W0 ty size val x y z lx lz (fun _=>false) u W0:=
 ⟨Below.refl _ _,nofun,nofun,nofun,nofun,nofun,nofun,nofun,nofun,nofun,nofun⟩
section
variable {W0 W : World} {ty : TypeId} {size : Nat} {val : Nat -> Option Value} {x y z : List Value} {lx lz : Nat} {d : Nat -> Bool} {u : Nat -> Value} (h : ChN W0 ty size val x y z lx lz d u W)
include W0 W ty size val x y z lx lz d u h
theorem ChN.pure {j:Nat} (hj:j≠0/\j≠5/\j≠12/\j≠17/\j≠11) (v:Value) (hv: ∀v',val j=some v'->v=v'):
 ChN W0 ty size val x y z lx lz (also d j) (upd u j v) W:=by
 obtain ⟨j0,j1,j2,j3,j4⟩:=hj;have k0:=Z09 d (show 0≠j by omega);have l0:=Z04 u v (show 0≠j by omega);have k5:=Z09 d (show 5≠j by omega);have l5:=Z04 u v (show 5≠j by omega);have k11:=Z09 d (show 11≠j by omega);have l11:=Z04 u v (show 11≠j by omega);have k12:=Z09 d (show 12≠j by omega);have l12:=Z04 u v (show 12≠j by omega);have k17:=Z09 d (show 17≠j by omega);have l17:=Z04 u v (show 17≠j by omega);refine ⟨h.bel,fun i hi v' hv'=> ?_, ?_, ?_, ?_, ?_, ?_, ?_, ?_, ?_, ?_⟩
 {by_cases hij:i=j
  {subst hij; rw[Z0h]; exact hv v' hv'}
  {rw[Z09 d hij] at hi; rw[Z04 u v hij]; exact h.vals i hi v' hv'}}
 {simp only[k0,l0,k5,l5,k11,l11,k12,l12,k17,l17]; exact h.rA}
 {simp only[k0,l0,k5,l5,k11,l11,k12,l12,k17,l17]; exact h.rB}
 {simp only[k0,l0,k5,l5,k11,l11,k12,l12,k17,l17]; exact h.rC}
 {simp only[k0,l0,k5,l5,k11,l11,k12,l12,k17,l17]; exact h.rE}
 {simp only[k0,l0,k5,l5,k11,l11,k12,l12,k17,l17]; exact h.rN}
 {simp only[k0,l0,k5,l5,k11,l11,k12,l12,k17,l17]; exact h.oB}
 {simp only[k0,l0,k5,l5,k11,l11,k12,l12,k17,l17]; exact h.oC}
 {simp only[k0,l0,k5,l5,k11,l11,k12,l12,k17,l17]; exact h.oN}
 {simp only[k0,l0,k5,l5,k11,l11,k12,l12,k17,l17]; exact h.oE}
theorem ChN.mkA (hd:d 0=false) (hval:val 0=none)  :
 ChN W0 ty size val x y z lx lz (also d 0) (upd u 0 (.slice (some ⟨W.heap.size,0,none⟩) 0 0)) (W.alloc (.cells #[] ty)):=by
 have k5:=Z09 d (show 5≠0 by decide);have l5:=Z04 u (.slice (some ⟨W.heap.size,0,none⟩) 0 0) (show 5≠0 by decide);have k11:=Z09 d (show 11≠0 by decide);have l11:=Z04 u (.slice (some ⟨W.heap.size,0,none⟩) 0 0) (show 11≠0 by decide);have k12:=Z09 d (show 12≠0 by decide);have l12:=Z04 u (.slice (some ⟨W.heap.size,0,none⟩) 0 0) (show 12≠0 by decide);have k17:=Z09 d (show 17≠0 by decide);have l17:=Z04 u (.slice (some ⟨W.heap.size,0,none⟩) 0 0) (show 17≠0 by decide);have k0:=Z0W d 0;have l0:=Z0h u 0 (.slice (some ⟨W.heap.size,0,none⟩) 0 0);have n5:d 5=false:=by
  cases hq:d 5 with
  | false=>rfl
  | true=>have:=h.oB hq; rw[hd] at this; cases this
 have n12:d 12=false:=by
  cases hq:d 12 with
  | false=>rfl
  | true=>have:=h.oC hq; rw[n5] at this; cases this
 have n17:d 17=false:=by
  cases hq:d 17 with
  | false=>rfl
  | true=>have:=h.oE hq; rw[n12] at this; cases this
 have hb1:=Z01 W (.cells #[] ty);refine ⟨h.bel.trans (hb1.mono h.bel.size),fun i hi v' hv'=> ?_, ?_, ?_, ?_, ?_, ?_, ?_, ?_, ?_, ?_⟩
 {by_cases hij:i=0
  {subst hij; rw[hval] at hv'; cases hv'}
  {rw[Z09 d hij] at hi; rw[Z04 u _ hij]; exact h.vals i hi v' hv'}}
 {simp only[k0,l0,k5,l5,k11,l11,k12,l12,k17,l17]; intro _ _; exact World.ownsRow_made W #[] 0 h.bel.size (Nat.zero_le _) (by simp)}
 {simp only[k0,l0,k5,l5,k11,l11,k12,l12,k17,l17]; intro hq; rw[n5] at hq; cases hq}
 {simp only[k0,l0,k5,l5,k11,l11,k12,l12,k17,l17]; intro hq; rw[n12] at hq; cases hq}
 {simp only[k0,l0,k5,l5,k11,l11,k12,l12,k17,l17]; intro hq; rw[n17] at hq; cases hq}
 {simp only[k0,l0,k5,l5,k11,l11,k12,l12,k17,l17];intro hq _;obtain ⟨g,h1,h2,h3,h4,h5⟩:=h.rN hq n12;refine ⟨g,h1,by simp; omega,fun j v hj=>(hb1.cell (p:=⟨g,j,none⟩) h2).trans (h3 j v hj),fun _ _=> ?_,fun hq2=>by rw[n5] at hq2; cases hq2⟩;intro he;have:W.heap.size=g:=by simpa[Value.ownBlock] using he
  omega}
 {simp only[k0,l0,k5,l5,k11,l11,k12,l12,k17,l17]; intro hq; rw[n5] at hq; cases hq}
 {simp only[k0,l0,k5,l5,k11,l11,k12,l12,k17,l17]; intro hq; rw[n12] at hq; cases hq}
 {simp only[k0,l0,k5,l5,k11,l11,k12,l12,k17,l17]; intro hq; rw[n12] at hq; cases hq}
 {simp only[k0,l0,k5,l5,k11,l11,k12,l12,k17,l17]; intro hq; rw[n17] at hq; cases hq}
theorem ChN.mkN (hd:d 11=false) (hval:val 11=none) (hy:y.length=size) (hs:0 < size):
 ChN W0 ty size val x y z lx lz (also d 11) (upd u 11 (.slice (some ⟨W.heap.size,0,none⟩) 1 1)) (W.alloc (.cells y.toArray ty)):=by
 have k0:=Z09 d (show 0≠11 by decide);have l0:=Z04 u (.slice (some ⟨W.heap.size,0,none⟩) 1 1) (show 0≠11 by decide);have k5:=Z09 d (show 5≠11 by decide);have l5:=Z04 u (.slice (some ⟨W.heap.size,0,none⟩) 1 1) (show 5≠11 by decide);have k12:=Z09 d (show 12≠11 by decide);have l12:=Z04 u (.slice (some ⟨W.heap.size,0,none⟩) 1 1) (show 12≠11 by decide);have k17:=Z09 d (show 17≠11 by decide);have l17:=Z04 u (.slice (some ⟨W.heap.size,0,none⟩) 1 1) (show 17≠11 by decide);have k11:=Z0W d 11;have l11:=Z0h u 11 (.slice (some ⟨W.heap.size,0,none⟩) 1 1);have n12:d 12=false:=by
  cases hq:d 12 with
  | false=>rfl
  | true=>have:=h.oN hq; rw[hd] at this; cases this
 have n17:d 17=false:=by
  cases hq:d 17 with
  | false=>rfl
  | true=>have:=h.oE hq; rw[n12] at this; cases this
 have hb1:=Z01 W (.cells y.toArray ty);refine ⟨h.bel.trans (hb1.mono h.bel.size),fun i hi v' hv'=> ?_, ?_, ?_, ?_, ?_, ?_, ?_, ?_, ?_, ?_⟩
 {by_cases hij:i=11
  {subst hij; rw[hval] at hv'; cases hv'}
  {rw[Z09 d hij] at hi; rw[Z04 u _ hij]; exact h.vals i hi v' hv'}}
 {simp only[k0,l0,k5,l5,k11,l11,k12,l12,k17,l17]; intro h1 h2; exact (h.rA h1 h2).alloc _}
 {simp only[k0,l0,k5,l5,k11,l11,k12,l12,k17,l17]; intro h1 h2; exact (h.rB h1 h2).alloc _}
 {simp only[k0,l0,k5,l5,k11,l11,k12,l12,k17,l17]; intro hq; rw[n12] at hq; cases hq}
 {simp only[k0,l0,k5,l5,k11,l11,k12,l12,k17,l17]; intro hq; rw[n17] at hq; cases hq}
 {simp only[k0,l0,k5,l5,k11,l11,k12,l12,k17,l17];intro _ _;refine ⟨W.heap.size,rfl,by simp,fun j v hj=> ?_,fun h1 h2 he=> ?_,fun h1 he=> ?_⟩
  {rw[World.cell?_alloc_at _ _ _ _ rfl];simpa using hj}
  {have:=((h.rA h1 h2).lt _ he).2; omega}
  {have:=((h.rB h1 n12).lt _ he).2; omega}}
 {simp only[k0,l0,k5,l5,k11,l11,k12,l12,k17,l17]; exact h.oB}
 {simp only[k0,l0,k5,l5,k11,l11,k12,l12,k17,l17]; exact h.oC}
 {simp only[k0,l0,k5,l5,k11,l11,k12,l12,k17,l17]; intro _; trivial}
 {simp only[k0,l0,k5,l5,k11,l11,k12,l12,k17,l17]; exact h.oE}
theorem ChN.apB (hd:d 5=false) (hval:val 5=none) (hp:d 0=true) {v:Value} {W':World} (hown:W'.ownsRow W0.heap.size ty size v lx x) (hg:W.grownBy W' (u 0).ownBlock) (hw:v.ownBlock=(u 0).ownBlock\/v.ownBlock=some W.heap.size):
 ChN W0 ty size val x y z lx lz (also d 5) (upd u 5 v) W':=by
 have k0:=Z09 d (show 0≠5 by decide);have l0:=Z04 u v (show 0≠5 by decide);have k11:=Z09 d (show 11≠5 by decide);have l11:=Z04 u v (show 11≠5 by decide);have k12:=Z09 d (show 12≠5 by decide);have l12:=Z04 u v (show 12≠5 by decide);have k17:=Z09 d (show 17≠5 by decide);have l17:=Z04 u v (show 17≠5 by decide);have k5:=Z0W d 5;have l5:=Z0h u 5 v;have n12:d 12=false:=by
  cases hq:d 12 with
  | false=>rfl
  | true=>have:=h.oC hq; rw[hd] at this; cases this
 have n17:d 17=false:=by
  cases hq:d 17 with
  | false=>rfl
  | true=>have:=h.oE hq; rw[n12] at this; cases this
 have hrow:=h.rA hp hd;have hb1:Below W0.heap.size W W':=Y2.grown hg h.bel.size (fun k hk=>(hrow.lt k hk).1);refine ⟨h.bel.trans hb1,fun i hi v' hv'=> ?_, ?_, ?_, ?_, ?_, ?_, ?_, ?_, ?_, ?_⟩
 {by_cases hij:i=5
  {subst hij; rw[hval] at hv'; cases hv'}
  {rw[Z09 d hij] at hi; rw[Z04 u _ hij]; exact h.vals i hi v' hv'}}
 {simp only[k0,l0,k5,l5,k11,l11,k12,l12,k17,l17]; intro _ hq; cases hq}
 {simp only[k0,l0,k5,l5,k11,l11,k12,l12,k17,l17]; intro _ _; exact hown}
 {simp only[k0,l0,k5,l5,k11,l11,k12,l12,k17,l17]; intro hq; rw[n12] at hq; cases hq}
 {simp only[k0,l0,k5,l5,k11,l11,k12,l12,k17,l17]; intro hq; rw[n17] at hq; cases hq}
 {simp only[k0,l0,k5,l5,k11,l11,k12,l12,k17,l17];intro hq _;obtain ⟨g,h1,h2,h3,h4,h5⟩:=h.rN hq n12;have hne:=h4 hp hd;refine ⟨g,h1,Nat.lt_of_lt_of_le h2 hb1.size,fun j v hj=>hg.cell (h3 j v hj) (fun he=>hne he.symm),nofun,fun _ he=> ?_⟩;rcases hw with hw | hw
  {exact hne (hw▸he)}
  {rw[hw] at he;have:=Option.some.inj he;omega}}
 {simp only[k0,l0,k5,l5,k11,l11,k12,l12,k17,l17]; intro _; exact hp}
 {simp only[k0,l0,k5,l5,k11,l11,k12,l12,k17,l17]; intro hq; rw[n12] at hq; cases hq}
 {simp only[k0,l0,k5,l5,k11,l11,k12,l12,k17,l17]; intro hq; rw[n12] at hq; cases hq}
 {simp only[k0,l0,k5,l5,k11,l11,k12,l12,k17,l17]; exact h.oE}
theorem ChN.apC (hd:d 12=false) (hval:val 12=none) (hp:d 5=true) (hn:d 11=true) {v:Value} {W':World} (hown:W'.ownsRow W0.heap.size ty size v (lx+1) (x++y)) (hg:W.grownBy W' (u 5).ownBlock) (hw:v.ownBlock=(u 5).ownBlock\/v.ownBlock=some W.heap.size):
 ChN W0 ty size val x y z lx lz (also d 12) (upd u 12 v) W':=by
 have k0:=Z09 d (show 0≠12 by decide);have l0:=Z04 u v (show 0≠12 by decide);have k5:=Z09 d (show 5≠12 by decide);have l5:=Z04 u v (show 5≠12 by decide);have k11:=Z09 d (show 11≠12 by decide);have l11:=Z04 u v (show 11≠12 by decide);have k17:=Z09 d (show 17≠12 by decide);have l17:=Z04 u v (show 17≠12 by decide);have k12:=Z0W d 12;have l12:=Z0h u 12 v;have n17:d 17=false:=by
  cases hq:d 17 with
  | false=>rfl
  | true=>have:=h.oE hq; rw[hd] at this; cases this
 have hrow:=h.rB hp hd;have hb1:Below W0.heap.size W W':=Y2.grown hg h.bel.size (fun k hk=>(hrow.lt k hk).1);refine ⟨h.bel.trans hb1,fun i hi v' hv'=> ?_, ?_, ?_, ?_, ?_, ?_, ?_, ?_, ?_, ?_⟩
 {by_cases hij:i=12
  {subst hij; rw[hval] at hv'; cases hv'}
  {rw[Z09 d hij] at hi; rw[Z04 u _ hij]; exact h.vals i hi v' hv'}}
 {simp only[k0,l0,k5,l5,k11,l11,k12,l12,k17,l17]; intro _ hq; rw[hp] at hq; cases hq}
 {simp only[k0,l0,k5,l5,k11,l11,k12,l12,k17,l17]; intro _ hq; cases hq}
 {simp only[k0,l0,k5,l5,k11,l11,k12,l12,k17,l17]; intro _ _; exact hown}
 {simp only[k0,l0,k5,l5,k11,l11,k12,l12,k17,l17]; intro hq; rw[n17] at hq; cases hq}
 {simp only[k0,l0,k5,l5,k11,l11,k12,l12,k17,l17]; intro _ hq; cases hq}
 {simp only[k0,l0,k5,l5,k11,l11,k12,l12,k17,l17]; exact h.oB}
 {simp only[k0,l0,k5,l5,k11,l11,k12,l12,k17,l17]; intro _; exact hp}
 {simp only[k0,l0,k5,l5,k11,l11,k12,l12,k17,l17]; intro _; exact hn}
 {simp only[k0,l0,k5,l5,k11,l11,k12,l12,k17,l17]; intro _; trivial}
theorem ChN.apE (hd:d 17=false) (hval:val 17=none) (hp:d 12=true) {v:Value} {W':World} (hown:W'.ownsRow W0.heap.size ty size v (lx+1+lz) (x++y++z)) (hg:W.grownBy W' (u 12).ownBlock) (hw:v.ownBlock=(u 12).ownBlock\/v.ownBlock=some W.heap.size):
 ChN W0 ty size val x y z lx lz (also d 17) (upd u 17 v) W':=by
 have k0:=Z09 d (show 0≠17 by decide);have l0:=Z04 u v (show 0≠17 by decide);have k5:=Z09 d (show 5≠17 by decide);have l5:=Z04 u v (show 5≠17 by decide);have k11:=Z09 d (show 11≠17 by decide);have l11:=Z04 u v (show 11≠17 by decide);have k12:=Z09 d (show 12≠17 by decide);have l12:=Z04 u v (show 12≠17 by decide);have k17:=Z0W d 17;have l17:=Z0h u 17 v;have hrow:=h.rC hp hd;have hb1:Below W0.heap.size W W':=Y2.grown hg h.bel.size (fun k hk=>(hrow.lt k hk).1);have hb:=h.oC hp;have hn:=h.oN hp;refine ⟨h.bel.trans hb1,fun i hi v' hv'=> ?_, ?_, ?_, ?_, ?_, ?_, ?_, ?_, ?_, ?_⟩
 {by_cases hij:i=17
  {subst hij; rw[hval] at hv'; cases hv'}
  {rw[Z09 d hij] at hi; rw[Z04 u _ hij]; exact h.vals i hi v' hv'}}
 {simp only[k0,l0,k5,l5,k11,l11,k12,l12,k17,l17]; intro _ hq; rw[hb] at hq; cases hq}
 {simp only[k0,l0,k5,l5,k11,l11,k12,l12,k17,l17]; intro _ hq; rw[hp] at hq; cases hq}
 {simp only[k0,l0,k5,l5,k11,l11,k12,l12,k17,l17]; intro _ hq; cases hq}
 {simp only[k0,l0,k5,l5,k11,l11,k12,l12,k17,l17]; intro _; exact hown}
 {simp only[k0,l0,k5,l5,k11,l11,k12,l12,k17,l17]; intro _ hq; rw[hp] at hq; cases hq}
 {simp only[k0,l0,k5,l5,k11,l11,k12,l12,k17,l17]; exact h.oB}
 {simp only[k0,l0,k5,l5,k11,l11,k12,l12,k17,l17]; exact h.oC}
 {simp only[k0,l0,k5,l5,k11,l11,k12,l12,k17,l17]; exact h.oN}
 {simp only[k0,l0,k5,l5,k11,l11,k12,l12,k17,l17]; intro _; exact hp}
end
structure ChP (W0:World) (ty:TypeId) (size:Nat) (val:Nat->Option Value) (x y z:List Value) (lx lz:Nat) (d:Nat->Bool) (u:Nat->Value) (W:World):Prop where
 bel:Below W0.heap.size W0 W
 vals: ∀j,d j=true-> ∀v,val j=some v->u j=v
 rA:d 0=true->d 5=false->W.ownsRow W0.heap.size ty size (u 0) 0 []
 rB:d 5=true->d 8=false->W.ownsRow W0.heap.size ty size (u 5) lx x
 rC:d 8=true->d 13=false->W.ownsRow W0.heap.size ty size (u 8) (lx+1) (x++y)
 rE:d 13=true->W.ownsRow W0.heap.size ty size (u 13) (lx+1+lz) (x++y++z)
 rN:d 7=true->d 8=false-> ∃g,u 7= .slice (some ⟨g,0,none⟩) 1 1/\g < W.heap.size/\(∀j v,y[j]? =some v->W.cell? ⟨g,j,none⟩=some v)/\(d 0=true->d 5=false->(u 0).ownBlock≠some g)/\(d 5=true->(u 5).ownBlock≠some g)
 oB:d 5=true->d 0=true
 oC:d 8=true->d 5=true
 oN:d 8=true->d 7=true
 oE:d 13=true->d 8=true
theorem ChP.start (W0:World) (ty:TypeId) (size:Nat) (val:Nat->Option Value) (x y z:List Value) (lx lz:Nat) (u:Nat->Value):ChP W0 ty size val x y z lx lz (fun _=>false) u W0:=
 ⟨Below.refl _ _,nofun,nofun,nofun,nofun,nofun,nofun,nofun,nofun,nofun,nofun⟩
section
variable {W0 W : World} {ty : TypeId} {size : Nat} {val : Nat -> Option Value} {x y z : List Value} {lx lz : Nat} {d : Nat -> Bool} {u : Nat -> Value} (h : ChP W0 ty size val x y z lx lz d u W)
include W0 W ty size val x y z lx lz d u h
theorem ChP.pure {j:Nat} (hj:j≠0/\j≠5/\j≠8/\j≠13/\j≠7) (v:Value) (hv: ∀v',val j=some v'->v=v'):
 ChP W0 ty size val x y z lx lz (also d j) (upd u j v) W:=by
 obtain ⟨j0,j1,j2,j3,j4⟩:=hj;have k0:=Z09 d (show 0≠j by omega);have l0:=Z04 u v (show 0≠j by omega);have k5:=Z09 d (show 5≠j by omega);have l5:=Z04 u v (show 5≠j by omega);have k7:=Z09 d (show 7≠j by omega);have l7:=Z04 u v (show 7≠j by omega);have k8:=Z09 d (show 8≠j by omega);have l8:=Z04 u v (show 8≠j by omega);have k13:=Z09 d (show 13≠j by omega);have l13:=Z04 u v (show 13≠j by omega);refine ⟨h.bel,fun i hi v' hv'=> ?_, ?_, ?_, ?_, ?_, ?_, ?_, ?_, ?_, ?_⟩
 {by_cases hij:i=j
  {subst hij; rw[Z0h]; exact hv v' hv'}
  {rw[Z09 d hij] at hi; rw[Z04 u v hij]; exact h.vals i hi v' hv'}}
 {simp only[k0,l0,k5,l5,k7,l7,k8,l8,k13,l13]; exact h.rA}
 {simp only[k0,l0,k5,l5,k7,l7,k8,l8,k13,l13]; exact h.rB}
 {simp only[k0,l0,k5,l5,k7,l7,k8,l8,k13,l13]; exact h.rC}
 {simp only[k0,l0,k5,l5,k7,l7,k8,l8,k13,l13]; exact h.rE}
 {simp only[k0,l0,k5,l5,k7,l7,k8,l8,k13,l13]; exact h.rN}
 {simp only[k0,l0,k5,l5,k7,l7,k8,l8,k13,l13]; exact h.oB}
 {simp only[k0,l0,k5,l5,k7,l7,k8,l8,k13,l13]; exact h.oC}
 {simp only[k0,l0,k5,l5,k7,l7,k8,l8,k13,l13]; exact h.oN}
 {simp only[k0,l0,k5,l5,k7,l7,k8,l8,k13,l13]; exact h.oE}
theorem ChP.mkA (hd:d 0=false) (hval:val 0=none)  :
 ChP W0 ty size val x y z lx lz (also d 0) (upd u 0 (.slice (some ⟨W.heap.size,0,none⟩) 0 0)) (W.alloc (.cells #[] ty)):=by
 have k5:=Z09 d (show 5≠0 by decide);have l5:=Z04 u (.slice (some ⟨W.heap.size,0,none⟩) 0 0) (show 5≠0 by decide);have k7:=Z09 d (show 7≠0 by decide);have l7:=Z04 u (.slice (some ⟨W.heap.size,0,none⟩) 0 0) (show 7≠0 by decide);have k8:=Z09 d (show 8≠0 by decide);have l8:=Z04 u (.slice (some ⟨W.heap.size,0,none⟩) 0 0) (show 8≠0 by decide);have k13:=Z09 d (show 13≠0 by decide);have l13:=Z04 u (.slice (some ⟨W.heap.size,0,none⟩) 0 0) (show 13≠0 by decide);have k0:=Z0W d 0;have l0:=Z0h u 0 (.slice (some ⟨W.heap.size,0,none⟩) 0 0);have n5:d 5=false:=by
  cases hq:d 5 with
  | false=>rfl
  | true=>have:=h.oB hq; rw[hd] at this; cases this
 have n8:d 8=false:=by
  cases hq:d 8 with
  | false=>rfl
  | true=>have:=h.oC hq; rw[n5] at this; cases this
 have n13:d 13=false:=by
  cases hq:d 13 with
  | false=>rfl
  | true=>have:=h.oE hq; rw[n8] at this; cases this
 have hb1:=Z01 W (.cells #[] ty);refine ⟨h.bel.trans (hb1.mono h.bel.size),fun i hi v' hv'=> ?_, ?_, ?_, ?_, ?_, ?_, ?_, ?_, ?_, ?_⟩
 {by_cases hij:i=0
  {subst hij; rw[hval] at hv'; cases hv'}
  {rw[Z09 d hij] at hi; rw[Z04 u _ hij]; exact h.vals i hi v' hv'}}
 {simp only[k0,l0,k5,l5,k7,l7,k8,l8,k13,l13]; intro _ _; exact World.ownsRow_made W #[] 0 h.bel.size (Nat.zero_le _) (by simp)}
 {simp only[k0,l0,k5,l5,k7,l7,k8,l8,k13,l13]; intro hq; rw[n5] at hq; cases hq}
 {simp only[k0,l0,k5,l5,k7,l7,k8,l8,k13,l13]; intro hq; rw[n8] at hq; cases hq}
 {simp only[k0,l0,k5,l5,k7,l7,k8,l8,k13,l13]; intro hq; rw[n13] at hq; cases hq}
 {simp only[k0,l0,k5,l5,k7,l7,k8,l8,k13,l13];intro hq _;obtain ⟨g,h1,h2,h3,h4,h5⟩:=h.rN hq n8;refine ⟨g,h1,by simp; omega,fun j v hj=>(hb1.cell (p:=⟨g,j,none⟩) h2).trans (h3 j v hj),fun _ _=> ?_,fun hq2=>by rw[n5] at hq2; cases hq2⟩;intro he;have:W.heap.size=g:=by simpa[Value.ownBlock] using he
  omega}
 {simp only[k0,l0,k5,l5,k7,l7,k8,l8,k13,l13]; intro hq; rw[n5] at hq; cases hq}
 {simp only[k0,l0,k5,l5,k7,l7,k8,l8,k13,l13]; intro hq; rw[n8] at hq; cases hq}
 {simp only[k0,l0,k5,l5,k7,l7,k8,l8,k13,l13]; intro hq; rw[n8] at hq; cases hq}
 {simp only[k0,l0,k5,l5,k7,l7,k8,l8,k13,l13]; intro hq; rw[n13] at hq; cases hq}
theorem ChP.mkN (hd:d 7=false) (hval:val 7=none) (hy:y.length=size) (hs:0 < size):
 ChP W0 ty size val x y z lx lz (also d 7) (upd u 7 (.slice (some ⟨W.heap.size,0,none⟩) 1 1)) (W.alloc (.cells y.toArray ty)):=by
 have k0:=Z09 d (show 0≠7 by decide);have l0:=Z04 u (.slice (some ⟨W.heap.size,0,none⟩) 1 1) (show 0≠7 by decide);have k5:=Z09 d (show 5≠7 by decide);have l5:=Z04 u (.slice (some ⟨W.heap.size,0,none⟩) 1 1) (show 5≠7 by decide);have k8:=Z09 d (show 8≠7 by decide);have l8:=Z04 u (.slice (some ⟨W.heap.size,0,none⟩) 1 1) (show 8≠7 by decide);have k13:=Z09 d (show 13≠7 by decide);have l13:=Z04 u (.slice (some ⟨W.heap.size,0,none⟩) 1 1) (show 13≠7 by decide);have k7:=Z0W d 7;have l7:=Z0h u 7 (.slice (some ⟨W.heap.size,0,none⟩) 1 1);have n8:d 8=false:=by
  cases hq:d 8 with
  | false=>rfl
  | true=>have:=h.oN hq; rw[hd] at this; cases this
 have n13:d 13=false:=by
  cases hq:d 13 with
  | false=>rfl
  | true=>have:=h.oE hq; rw[n8] at this; cases this
 have hb1:=Z01 W (.cells y.toArray ty);refine ⟨h.bel.trans (hb1.mono h.bel.size),fun i hi v' hv'=> ?_, ?_, ?_, ?_, ?_, ?_, ?_, ?_, ?_, ?_⟩
 {by_cases hij:i=7
  {subst hij; rw[hval] at hv'; cases hv'}
  {rw[Z09 d hij] at hi; rw[Z04 u _ hij]; exact h.vals i hi v' hv'}}
 {simp only[k0,l0,k5,l5,k7,l7,k8,l8,k13,l13]; intro h1 h2; exact (h.rA h1 h2).alloc _}
 {simp only[k0,l0,k5,l5,k7,l7,k8,l8,k13,l13]; intro h1 h2; exact (h.rB h1 h2).alloc _}
 {simp only[k0,l0,k5,l5,k7,l7,k8,l8,k13,l13]; intro hq; rw[n8] at hq; cases hq}
 {simp only[k0,l0,k5,l5,k7,l7,k8,l8,k13,l13]; intro hq; rw[n13] at hq; cases hq}
 {simp only[k0,l0,k5,l5,k7,l7,k8,l8,k13,l13];intro _ _;refine ⟨W.heap.size,rfl,by simp,fun j v hj=> ?_,fun h1 h2 he=> ?_,fun h1 he=> ?_⟩
  {rw[World.cell?_alloc_at _ _ _ _ rfl];simpa using hj}
  {have:=((h.rA h1 h2).lt _ he).2; omega}
  {have:=((h.rB h1 n8).lt _ he).2; omega}}
 {simp only[k0,l0,k5,l5,k7,l7,k8,l8,k13,l13]; exact h.oB}
 {simp only[k0,l0,k5,l5,k7,l7,k8,l8,k13,l13]; exact h.oC}
 {simp only[k0,l0,k5,l5,k7,l7,k8,l8,k13,l13]; intro _; trivial}
 {simp only[k0,l0,k5,l5,k7,l7,k8,l8,k13,l13]; exact h.oE}
theorem ChP.apB (hd:d 5=false) (hval:val 5=none) (hp:d 0=true) {v:Value} {W':World} (hown:W'.ownsRow W0.heap.size ty size v lx x) (hg:W.grownBy W' (u 0).ownBlock) (hw:v.ownBlock=(u 0).ownBlock\/v.ownBlock=some W.heap.size):
 ChP W0 ty size val x y z lx lz (also d 5) (upd u 5 v) W':=by
 have k0:=Z09 d (show 0≠5 by decide);have l0:=Z04 u v (show 0≠5 by decide);have k7:=Z09 d (show 7≠5 by decide);have l7:=Z04 u v (show 7≠5 by decide);have k8:=Z09 d (show 8≠5 by decide);have l8:=Z04 u v (show 8≠5 by decide);have k13:=Z09 d (show 13≠5 by decide);have l13:=Z04 u v (show 13≠5 by decide);have k5:=Z0W d 5;have l5:=Z0h u 5 v;have n8:d 8=false:=by
  cases hq:d 8 with
  | false=>rfl
  | true=>have:=h.oC hq; rw[hd] at this; cases this
 have n13:d 13=false:=by
  cases hq:d 13 with
  | false=>rfl
  | true=>have:=h.oE hq; rw[n8] at this; cases this
 have hrow:=h.rA hp hd;have hb1:Below W0.heap.size W W':=Y2.grown hg h.bel.size (fun k hk=>(hrow.lt k hk).1);refine ⟨h.bel.trans hb1,fun i hi v' hv'=> ?_, ?_, ?_, ?_, ?_, ?_, ?_, ?_, ?_, ?_⟩
 {by_cases hij:i=5
  {subst hij; rw[hval] at hv'; cases hv'}
  {rw[Z09 d hij] at hi; rw[Z04 u _ hij]; exact h.vals i hi v' hv'}}
 {simp only[k0,l0,k5,l5,k7,l7,k8,l8,k13,l13]; intro _ hq; cases hq}
 {simp only[k0,l0,k5,l5,k7,l7,k8,l8,k13,l13]; intro _ _; exact hown}
 {simp only[k0,l0,k5,l5,k7,l7,k8,l8,k13,l13]; intro hq; rw[n8] at hq; cases hq}
 {simp only[k0,l0,k5,l5,k7,l7,k8,l8,k13,l13]; intro hq; rw[n13] at hq; cases hq}
 {simp only[k0,l0,k5,l5,k7,l7,k8,l8,k13,l13];intro hq _;obtain ⟨g,h1,h2,h3,h4,h5⟩:=h.rN hq n8;have hne:=h4 hp hd;refine ⟨g,h1,Nat.lt_of_lt_of_le h2 hb1.size,fun j v hj=>hg.cell (h3 j v hj) (fun he=>hne he.symm),nofun,fun _ he=> ?_⟩;rcases hw with hw | hw
  {exact hne (hw▸he)}
  {rw[hw] at he;have:=Option.some.inj he;omega}}
 {simp only[k0,l0,k5,l5,k7,l7,k8,l8,k13,l13]; intro _; exact hp}
 {simp only[k0,l0,k5,l5,k7,l7,k8,l8,k13,l13]; intro hq; rw[n8] at hq; cases hq}
 {simp only[k0,l0,k5,l5,k7,l7,k8,l8,k13,l13]; intro hq; rw[n8] at hq; cases hq}
 {simp only[k0,l0,k5,l5,k7,l7,k8,l8,k13,l13]; exact h.oE}
theorem ChP.apC (hd:d 8=false) (hval:val 8=none) (hp:d 5=true) (hn:d 7=true) {v:Value} {W':World} (hown:W'.ownsRow W0.heap.size ty size v (lx+1) (x++y)) (hg:W.grownBy W' (u 5).ownBlock) (hw:v.ownBlock=(u 5).ownBlock\/v.ownBlock=some W.heap.size):
 ChP W0 ty size val x y z lx lz (also d 8) (upd u 8 v) W':=by
 have k0:=Z09 d (show 0≠8 by decide);have l0:=Z04 u v (show 0≠8 by decide);have k5:=Z09 d (show 5≠8 by decide);have l5:=Z04 u v (show 5≠8 by decide);have k7:=Z09 d (show 7≠8 by decide);have l7:=Z04 u v (show 7≠8 by decide);have k13:=Z09 d (show 13≠8 by decide);have l13:=Z04 u v (show 13≠8 by decide);have k8:=Z0W d 8;have l8:=Z0h u 8 v;have n13:d 13=false:=by
  cases hq:d 13 with
  | false=>rfl
  | true=>have:=h.oE hq; rw[hd] at this; cases this
 have hrow:=h.rB hp hd;have hb1:Below W0.heap.size W W':=Y2.grown hg h.bel.size (fun k hk=>(hrow.lt k hk).1);refine ⟨h.bel.trans hb1,fun i hi v' hv'=> ?_, ?_, ?_, ?_, ?_, ?_, ?_, ?_, ?_, ?_⟩
 {by_cases hij:i=8
  {subst hij; rw[hval] at hv'; cases hv'}
  {rw[Z09 d hij] at hi; rw[Z04 u _ hij]; exact h.vals i hi v' hv'}}
 {simp only[k0,l0,k5,l5,k7,l7,k8,l8,k13,l13]; intro _ hq; rw[hp] at hq; cases hq}
 {simp only[k0,l0,k5,l5,k7,l7,k8,l8,k13,l13]; intro _ hq; cases hq}
 {simp only[k0,l0,k5,l5,k7,l7,k8,l8,k13,l13]; intro _ _; exact hown}
 {simp only[k0,l0,k5,l5,k7,l7,k8,l8,k13,l13]; intro hq; rw[n13] at hq; cases hq}
 {simp only[k0,l0,k5,l5,k7,l7,k8,l8,k13,l13]; intro _ hq; cases hq}
 {simp only[k0,l0,k5,l5,k7,l7,k8,l8,k13,l13]; exact h.oB}
 {simp only[k0,l0,k5,l5,k7,l7,k8,l8,k13,l13]; intro _; exact hp}
 {simp only[k0,l0,k5,l5,k7,l7,k8,l8,k13,l13]; intro _; exact hn}
 {simp only[k0,l0,k5,l5,k7,l7,k8,l8,k13,l13]; intro _; trivial}
theorem ChP.apE (hd:d 13=false) (hval:val 13=none) (hp:d 8=true) {v:Value} {W':World} (hown:W'.ownsRow W0.heap.size ty size v (lx+1+lz) (x++y++z)) (hg:W.grownBy W' (u 8).ownBlock) (hw:v.ownBlock=(u 8).ownBlock\/v.ownBlock=some W.heap.size):
 ChP W0 ty size val x y z lx lz (also d 13) (upd u 13 v) W':=by
 have k0:=Z09 d (show 0≠13 by decide);have l0:=Z04 u v (show 0≠13 by decide);have k5:=Z09 d (show 5≠13 by decide);have l5:=Z04 u v (show 5≠13 by decide);have k7:=Z09 d (show 7≠13 by decide);have l7:=Z04 u v (show 7≠13 by decide);have k8:=Z09 d (show 8≠13 by decide);have l8:=Z04 u v (show 8≠13 by decide);have k13:=Z0W d 13;have l13:=Z0h u 13 v;have hrow:=h.rC hp hd;have hb1:Below W0.heap.size W W':=Y2.grown hg h.bel.size (fun k hk=>(hrow.lt k hk).1);have hb:=h.oC hp;have hn:=h.oN hp;refine ⟨h.bel.trans hb1,fun i hi v' hv'=> ?_, ?_, ?_, ?_, ?_, ?_, ?_, ?_, ?_, ?_⟩
 {by_cases hij:i=13
  {subst hij; rw[hval] at hv'; cases hv'}
  {rw[Z09 d hij] at hi; rw[Z04 u _ hij]; exact h.vals i hi v' hv'}}
 {simp only[k0,l0,k5,l5,k7,l7,k8,l8,k13,l13]; intro _ hq; rw[hb] at hq; cases hq}
 {simp only[k0,l0,k5,l5,k7,l7,k8,l8,k13,l13]; intro _ hq; rw[hp] at hq; cases hq}
 {simp only[k0,l0,k5,l5,k7,l7,k8,l8,k13,l13]; intro _ hq; cases hq}
 {simp only[k0,l0,k5,l5,k7,l7,k8,l8,k13,l13]; intro _; exact hown}
 {simp only[k0,l0,k5,l5,k7,l7,k8,l8,k13,l13]; intro _ hq; rw[hp] at hq; cases hq}
 {simp only[k0,l0,k5,l5,k7,l7,k8,l8,k13,l13]; exact h.oB}
 {simp only[k0,l0,k5,l5,k7,l7,k8,l8,k13,l13]; exact h.oC}
 {simp only[k0,l0,k5,l5,k7,l7,k8,l8,k13,l13]; exact h.oN}
 {simp only[k0,l0,k5,l5,k7,l7,k8,l8,k13,l13]; intro _; exact hp}
end
end
end Go.Proofs.YtlomianlcnmfgaaGreatDoor
namespace Go.Proofs.YtlomianlcnmfgaaGreatDoor
open Go.RowKit Shp
def pr (x:El):Fld:=(x.n,x.t)
def cells5 (x:El):List Value:= [.int .i64 x.t.kind,.string ⟨x.t.of_.toArray⟩,.string ⟨x.t.name.toArray⟩,.slice x.q.A x.t.names.length x.q.c,.slice x.q.P x.t.parts.length x.q.d]
def cellsE (l:List El):List Value:=l.flatMap cells5
def namesE (l:List (List UInt8)):List Value:=l.map fun n=> .string ⟨n.toArray⟩
theorem cellsE_append (l m:List El):cellsE (l++m)=cellsE l++cellsE m:=by simp[cellsE]
theorem cellsE_one (x:El):cellsE [x]=cells5 x:=by simp[cellsE]
theorem cellsE_len (l:List El): (cellsE l).length=l.length * 5:=by
 induction l with
 | nil=>rfl
 | cons a l ih=>rw[show a::l= [a]++l from rfl,cellsE_append,List.length_append,ih,cellsE_one]; simp[cells5]; omega
theorem namesE_len (l:List (List UInt8)): (namesE l).length=l.length:=by simp[namesE]
theorem namesE_append (l m:List (List UInt8)):namesE (l++m)=namesE l++namesE m:=by simp[namesE]
theorem cells5_one (x:El): ∀u∈cells5 x,u.oneCell'=true:=by
 intro u hu;simp only[cells5,List.mem_cons,List.not_mem_nil,or_false] at hu;rcases hu with rfl | rfl | rfl | rfl | rfl <;> rfl
theorem Z4t (l:List El): ∀u∈cellsE l,u.oneCell'=true:=by
 intro u hu;obtain ⟨x,_,hx⟩:=List.mem_flatMap.1 hu;exact cells5_one x u hx
theorem Z3a (l:List (List UInt8)): ∀u∈namesE l,u.oneCell'=true:=by
 intro u hu;obtain ⟨x,_,rfl⟩:=List.mem_map.1 hu;rfl
theorem cellsE_at {l:List El} {i c:Nat} (hi:i < l.length) (hc:c < 5): (cellsE l)[i * 5+c]? =(cells5 (l[i]'hi))[c]? :=by
 have h1:l=l.take i++([l[i]'hi]++l.drop (i+1)):=by rw[List.singleton_append,List.getElem_cons_drop,List.take_append_drop]
 have h2: (cellsE (l.take i)).length=i * 5:=by rw[cellsE_len,List.length_take]; omega
 have h3: (cells5 (l[i]'hi)).length=5:=rfl
 conv=>lhs; rw[h1]
 rw[cellsE_append,cellsE_append,cellsE_one,List.getElem?_append_right (by omega),h2,Nat.add_sub_cancel_left,List.getElem?_append_left (by omega)]
theorem ZaK {x:Fld}: ∀ {L:List Fld} {k:Nat},k<=L.length->(∀j (h:j < L.length),j < k->(L[j]'h).1 < x.1)->(∀h:k < L.length,¬(L[k]'h).1 < x.1)->ins x L=L.take k++x::L.drop k
 | [],k,hk,_,_=>by
  have:k=0:=by simpa using hk
  subst this; rfl
 | y::L,0,_,_,h2=>by
  have:=h2 (by simp);simp only[List.getElem_cons_zero] at this;simp[ins,this]
 | y::L,k+1,hk,h1,h2=>by
  have h0:=h1 0 (by simp) (by omega);simp only[List.getElem_cons_zero] at h0;unfold ins;rw[if_pos h0,ZaK (L:=L) (k:=k) (by simpa using hk) (fun j h hj=>by
   have:=h1 (j+1) (by simpa using h) (by omega);simpa using this) (fun h=>by
   have:=h2 (by simpa using h);simpa using this)]
  rfl
theorem Z9t {L:List Fld} {i:Nat} (h:i < L.length):sortF (L.take (i+1))=ins (L[i]'h) (sortF (L.take i)):=by
 rw[Z2h h]; unfold sortF; rw[List.foldl_append]; rfl
def rowB (A:Option Addr):Option Nat:=A.map (·.block)
theorem rowB_own (A:Option Addr) (n c:Nat):Value.ownBlock (.slice A n c)=rowB A:=by cases A <;> rfl
structure OutS (W1 W:World) (ob:Nat) (k:Int) (o n:List UInt8) (nl:List (List UInt8)) (l:List El) (AN:Option Addr) (cN:Nat) (AP:Option Addr) (cP:Nat):Prop where
 up:UpF [ob] W1 W
 lt:ob < W1.heap.size
 c0:W.cell? ⟨ob,0,none⟩=some (.int .i64 k)
 c1:W.cell? ⟨ob,1,none⟩=some (.string ⟨o.toArray⟩)
 c2:W.cell? ⟨ob,2,none⟩=some (.string ⟨n.toArray⟩)
 c3:W.cell? ⟨ob,3,none⟩=some (.slice AN nl.length cN)
 c4:W.cell? ⟨ob,4,none⟩=some (.slice AP l.length cP)
 fz: ∀j,W.frozen? ⟨ob,j,none⟩=false
 rN:W.ownsRow W1.heap.size 9 1 (.slice AN nl.length cN) nl.length (namesE nl)
 rP:W.ownsRow W1.heap.size 25 5 (.slice AP l.length cP) l.length (cellsE l)
 ne:rowB AN=none\/rowB AN≠rowB AP
 own: ∀x∈l,Own W x.q x.t x.F
 fs: ∀x∈l,∀b∈x.F,W1.heap.size<=b/\rowB AN≠some b/\rowB AP≠some b
section
variable {W1 W : World} {ob : Nat} {k : Int} {o n : List UInt8} {nl : List (List UInt8)} {l : List El} {AN AP : Option Addr} {cN cP : Nat}
theorem OutS.start {W1:World} {ob:Nat} (k:Int) (o n:List UInt8) (h:Box5 W1 ob ⟨k,o,n,[],[]⟩ noneQ) (hf: ∀j,W1.frozen? ⟨ob,j,none⟩=false):OutS W1 W1 ob k o n [] [] none 0 none 0:=by
 obtain ⟨h0,⟨c0,c1,c2,c3,c4⟩,_⟩:=h;simp only[Nat.zero_add] at c0 c1 c2 c3 c4;exact ⟨UpF.refl _ _,h0,c0,c1,c2,c3,c4,hf,World.ownsRow_nil _ _ _ _,World.ownsRow_nil _ _ _ _,Or.inl rfl,nofun,nofun⟩
theorem OutS.row {A:Option Addr} {m c B e s:Nat} {xs:List Value} (h:W.ownsRow B e s (.slice A m c) m xs): ∀b,rowB A=some b->B<=b/\b < W.heap.size:=fun b hb=>h.lt b (by rw[rowB_own]; exact hb)
theorem OutS.below {W':World} (h:OutS W1 W ob k o n nl l AN cN AP cP) (hb:Below W.heap.size W W'):OutS W1 W' ob k o n nl l AN cN AP cP:=by
 have hob:=Nat.lt_of_lt_of_le h.lt h.up.size;have e: ∀j,W'.cell? ⟨ob,j,none⟩=W.cell? ⟨ob,j,none⟩:=fun j=>hb.cell (p:=⟨ob,j,none⟩) hob;have g:W.grownBy W' none:=⟨hb.os,hb.tape,hb.output,hb.size,fun j hj _=>hb.block j hj⟩;refine ⟨h.up.below hb,h.lt,(e 0).trans h.c0,(e 1).trans h.c1,(e 2).trans h.c2,(e 3).trans h.c3,(e 4).trans h.c4,fun j=>(hb.frozen (p:=⟨ob,j,none⟩) hob).trans (h.fz j),h.rN.kept g ?_,h.rP.kept g ?_,h.ne,fun x hx=>Z0P (h.own x hx) hb,h.fs⟩
 {cases hq:Value.ownBlock (.slice AN nl.length cN) with
  | none=>exact Or.inl rfl
  | some b=>exact Or.inr nofun}
 {cases hq:Value.ownBlock (.slice AP l.length cP) with
  | none=>exact Or.inl rfl
  | some b=>exact Or.inr nofun}
theorem OutS.putP {Wm:World} {l':List El} {g cap:Nat} (h:OutS W1 W ob k o n nl l AN cN AP cP) (hg:W.grownBy Wm (rowB AP)) (hrow:Wm.ownsRow W1.heap.size 25 5 (.slice (some ⟨g,0,none⟩) l'.length cap) l'.length (cellsE l'))
 (hnew:rowB AP=some g\/W.heap.size<=g) (hl: ∀x∈l',Own W x.q x.t x.F/\ ∀b∈x.F,W1.heap.size<=b/\rowB AN≠some b/\rowB AP≠some b):
 OutS W1 (Wm.setCell ⟨ob,4,none⟩ (.slice (some ⟨g,0,none⟩) l'.length cap)) ob k o n nl l' AN cN (some ⟨g,0,none⟩) cap:=by
 have hob:=Nat.lt_of_lt_of_le h.lt h.up.size;have hgo:g≠ob:=by
  rcases hnew with h1 | h1
  {have:=(OutS.row h.rP g h1).1; have:=h.lt; omega}
  {omega}
 have hne:some ob≠rowB AP:=fun e=>by have:=(OutS.row h.rP ob e.symm).1; have:=h.lt; omega
 have hs: ∀b,b < W.heap.size->rowB AP≠some b->Z0G W Wm b:=fun b hb hn=>⟨fun j=>World.cell?_of_block (w:=W) (hg.block b hb (fun e=>hn e.symm)),fun j=>World.frozen?_of_block (w:=W) (hg.block b hb (fun e=>hn e.symm))⟩;have ho:=hs ob hob (fun e=>hne e.symm);have far: ∀j,j≠4->(Wm.setCell ⟨ob,4,none⟩ (.slice (some ⟨g,0,none⟩) l'.length cap)).cell? ⟨ob,j,none⟩=W.cell? ⟨ob,j,none⟩:=fun j hj=>(World.cell?_setCell_other _ _ _ _ (fun e=>by have:=congrArg Addr.off e; simp at this; omega)).trans (ho.1 j);have hsz: (Wm.setCell ⟨ob,4,none⟩ (.slice (some ⟨g,0,none⟩) l'.length cap)).heap.size=Wm.heap.size:=by simp[World.setCell]
 have hW1:=h.up.size;have hz:=hg.size;refine ⟨⟨hg.os.trans h.up.os,hg.tape.trans h.up.tape,hg.output.trans h.up.output,by omega,fun b hb hm=> ?_⟩,h.lt,(far 0 (by omega)).trans h.c0,(far 1 (by omega)).trans h.c1,(far 2 (by omega)).trans h.c2,(far 3 (by omega)).trans h.c3,World.cell?_setCell_same _ _ _ ((ho.1 4).trans h.c4),fun j=> ?_, ?_, ?_, ?_,fun x hx=> ?_,fun x hx b hb=> ?_⟩
 {have hbo:b≠ob:=by simpa using hm
  rw[Below.heap_setCell _ _ _ _ hbo,hg.block b (by omega) (fun e=>by have:=(OutS.row h.rP b e.symm).1; omega)];exact h.up.block b hb hm}
 {rw[World.frozen?_setCell]; exact (ho.2 j).trans (h.fz j)}
 {refine Z25 (h.rN.kept hg (by rw[rowB_own]; exact h.ne)) (a:=⟨ob,4,none⟩) (fun e=> ?_) _;rw[rowB_own] at e;have:=(OutS.row h.rN ob e).1; have:=h.lt; omega}
 {exact Z25 hrow (a:=⟨ob,4,none⟩) (fun e=>hgo (Option.some.inj e)) _}
 {rcases h.ne with h1 | h1
  {exact Or.inl h1}
  {refine Or.inr (fun e=> ?_);have e2:rowB AN=some g:=e;rcases hnew with h2 | h2
   {exact h1 (e2.trans h2.symm)}
   {have:=(OutS.row h.rN g e2).2; omega}}}
 {have hx1:=hl x hx;exact hx1.1.of (fun b hb=>(hs b (hx1.1.lt b hb) (hx1.2 b hb).2.2).trans (Z0z _ _ _ (fun e=>by
   have:=(hx1.2 b hb).1; have:=h.lt;simp at e; omega))) (by rw[hsz]; exact hz)}
 {have hx1:=hl x hx;have hx2:=hx1.2 b hb;refine ⟨hx2.1,hx2.2.1,fun e=> ?_⟩;have e2:g=b:=Option.some.inj e;rcases hnew with h1 | h1
  {exact hx2.2.2 (e2▸h1)}
  {have:=hx1.1.lt b hb; omega}}
theorem OutS.putN {Wm:World} {nl':List (List UInt8)} {g cap:Nat} (h:OutS W1 W ob k o n nl l AN cN AP cP) (hg:Below W.heap.size W Wm) (hrow:Wm.ownsRow W1.heap.size 9 1 (.slice (some ⟨g,0,none⟩) nl'.length cap) nl'.length (namesE nl'))
 (hnew:W.heap.size<=g):OutS W1 (Wm.setCell ⟨ob,3,none⟩ (.slice (some ⟨g,0,none⟩) nl'.length cap)) ob k o n nl' l (some ⟨g,0,none⟩) cap AP cP:=by
 have h2:=h.below hg;have hob:=Nat.lt_of_lt_of_le h.lt h.up.size;have hz:=hg.size;have far: ∀j,j≠3->(Wm.setCell ⟨ob,3,none⟩ (.slice (some ⟨g,0,none⟩) nl'.length cap)).cell? ⟨ob,j,none⟩=Wm.cell? ⟨ob,j,none⟩:=fun j hj=>World.cell?_setCell_other _ _ _ _ (fun e=>by have:=congrArg Addr.off e; simp at this; omega);have hsz: (Wm.setCell ⟨ob,3,none⟩ (.slice (some ⟨g,0,none⟩) nl'.length cap)).heap.size=Wm.heap.size:=by simp[World.setCell]
 have hlt:=h.lt;have hW1:=h.up.size;refine ⟨⟨h2.up.os,h2.up.tape,h2.up.output,by have:=h2.up.size; omega,fun b hb hm=> ?_⟩,h.lt,(far 0 (by omega)).trans h2.c0,(far 1 (by omega)).trans h2.c1,(far 2 (by omega)).trans h2.c2,World.cell?_setCell_same _ _ _ h2.c3,(far 4 (by omega)).trans h2.c4,fun j=> ?_, ?_, ?_, ?_,fun x hx=> ?_,fun x hx b hb=> ?_⟩
 {have hbo:b≠ob:=by simpa using hm
  rw[Below.heap_setCell _ _ _ _ hbo];exact h2.up.block b hb hm}
 {rw[World.frozen?_setCell]; exact h2.fz j}
 {exact Z25 hrow (a:=⟨ob,3,none⟩) (fun e=>by have:=Option.some.inj e; simp at this; omega) _}
 {refine Z25 h2.rP (a:=⟨ob,3,none⟩) (fun e=> ?_) _;rw[rowB_own] at e;have:=(OutS.row h2.rP ob e).1; omega}
 {refine Or.inr (fun e=> ?_);have e2:rowB AP=some g:=e.symm;have:=(OutS.row h.rP g e2).2; omega}
 {exact (h2.own x hx).of (fun b hb=>Z0z _ _ _ (fun e=>by
   have:=(h.fs x hx b hb).1;simp at e; omega)) (by rw[hsz]; exact Nat.le_refl _)}
 {have hx1:=h.fs x hx b hb;refine ⟨hx1.1,fun e=> ?_,hx1.2.2⟩;have e2:g=b:=Option.some.inj e;have:=(h.own x hx).lt b hb;omega}
theorem slice_form {A:Option Addr} {m c B e s:Nat} {xs:List Value} (h:W.ownsRow B e s (.slice A m c) m xs): (A=none/\m=0/\c=0)\/ ∃g,A=some ⟨g,0,none⟩/\m<=c:=by
 rcases h.2 with ⟨h1,h2⟩ | ⟨g,cap,cur,h1,_,_,h2,_⟩
 {simp only[Value.slice.injEq] at h1; exact Or.inl ⟨h1.1,h2,h1.2.2⟩}
 {simp only[Value.slice.injEq] at h1;obtain ⟨h3,_,rfl⟩:=h1;exact Or.inr ⟨g,h3,h2⟩}
theorem OutS.result {u:Sh} (h:OutS W1 W ob k o n nl l AN cN AP cP) (hn:u.names=nl) (hp:u.parts=l.map El.t) (ho:u.of_.length<=9223372036854775807) (hna:u.name.length<=9223372036854775807) (hns: ∀x∈u.names,x.length<=9223372036854775807) (hnl:nl.length<=9223372036854775807) (hl:l.length<=9223372036854775807):
 Own W ⟨AN,cN,AP,cP⟩ u ((rowB AN).toList++(rowB AP).toList++l.flatMap El.F)/\ ∀b∈(rowB AN).toList++(rowB AP).toList++l.flatMap El.F,W1.heap.size<=b:=by
 have hpl:u.parts.length=l.length:=by rw[hp,List.length_map]
 have fN:=slice_form h.rN;have fP:=slice_form h.rP;have hget: ∀i (hi:i < l.length),(l[i]!)=l[i]'hi:=fun i hi=>getElem!_pos l i hi;refine ⟨.mk _ u _ (rowB AN).toList (rowB AP).toList (fun i=>(l[i]!).q) (fun i=>(l[i]!).F) ⟨ho,hna,hns,by rw[hn]; exact hnl,by rw[hpl]; exact hl, ?_, ?_, ?_, ?_⟩ ?_ ?_ ?_ ?_, ?_⟩
 {rw[hn]; rcases fN with ⟨_,h1,h2⟩ | ⟨_,_,h1⟩
  {rw[h1]; exact Nat.zero_le _}
  {exact h1}}
 {rw[hpl]; rcases fP with ⟨_,h1,h2⟩ | ⟨_,_,h1⟩
  {rw[h1]; exact Nat.zero_le _}
  {exact h1}}
 {intro hA;rcases fN with ⟨_,_,h2⟩ | ⟨g,h1,_⟩
  {exact h2}
  {rw[h1] at hA; cases hA}}
 {intro hA;rcases fP with ⟨_,_,h2⟩ | ⟨g,h1,_⟩
  {exact h2}
  {rw[h1] at hA; cases hA}}
 {rcases fN with ⟨h1,h2,_⟩ | ⟨g,h1,_⟩
  {exact Or.inl ⟨by rw[hn]; exact h2,by rw[h1]; rfl⟩}
  {have hr:=h.rN;rw[h1] at hr;refine Or.inr ⟨g,h1,by rw[h1]; rfl,(hr.lt g rfl).2,fun j hj=> ?_,fun j=>hr.frozenAt j⟩;have hj2:j < nl.length:=by rw[hn] at hj; exact hj
   rw[hr.cellAt j (by omega)];simp[namesE,hn,hj2]}}
 {rcases fP with ⟨h1,h2,_⟩ | ⟨g,h1,_⟩
  {exact Or.inl ⟨by rw[hpl]; exact h2,by rw[h1]; rfl⟩}
  {have hr:=h.rP;rw[h1] at hr;refine Or.inr ⟨g,h1,by rw[h1]; rfl,(hr.lt g rfl).2,fun j hj=> ?_,fun j=>hr.frozenAt j⟩;have hj2:j < l.length:=by rw[hpl] at hj; exact hj
   have e:u.parts[j]'hj=(l[j]'hj2).t:=by simp[hp]
   have hc: ∀c,c < 5->W.cell? ⟨g,j * 5+c,none⟩=(cells5 (l[j]'hj2))[c]? :=fun c hc=>by
    rw[hr.cellAt _ (by omega),cellsE_at hj2 hc]
   rw[e,hget j hj2];exact ⟨hc 0 (by omega),hc 1 (by omega),hc 2 (by omega),hc 3 (by omega),hc 4 (by omega)⟩}}
 {intro i hi;have hj2:i < l.length:=by rw[hpl] at hi; exact hi
  have e:u.parts[i]'hi=(l[i]'hj2).t:=by simp[hp]
  rw[e,hget i hj2];exact h.own _ (List.getElem_mem _)}
 {congr 1;rw[hpl];have:l=(List.range l.length).map (fun i=>l[i]!):=by
   apply List.ext_getElem
   {simp}
   {intro i h1 h2;rw[List.getElem_map,List.getElem_range,hget i h1]}
  conv=>lhs; rw[this]
  rw[List.flatMap_map]}
 {intro b hb;rcases List.mem_append.1 hb with hb | hb
  {rcases List.mem_append.1 hb with hb | hb
   {exact (OutS.row h.rN b (by simpa using hb)).1}
   {exact (OutS.row h.rP b (by simpa using hb)).1}}
  {obtain ⟨x,hx,hb⟩:=List.mem_flatMap.1 hb;exact (h.fs x hx b hb).1}}
end
end Go.Proofs.YtlomianlcnmfgaaGreatDoor
