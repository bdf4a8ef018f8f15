/- What the proofs of ExpandDeclares want, part 7. -/
import Derived.Test.YtmeiijjpomcgcaaDoorK0n6
set_option linter.unusedVariables false
set_option linter.unusedSimpArgs false
set_option linter.unusedSectionVars false
set_option maxRecDepth 100000
set_option maxHeartbeats 16000000
namespace Go.Proofs.YtmeiijjpomcgcaaDoor
section
open Go.RowKit
theorem Z0S (d:Nat->Bool) (i:Nat):also d i i=true:=by
 have:Nat.beq i i=true:=Nat.beq_refl i;unfold also; rw[this]; rfl
theorem Z04 (d:Nat->Bool) {i j:Nat} (h:j≠i):also d i j=d j:=by
 have:Nat.beq j i=false:=by cases hb:Nat.beq j i <;> first | rfl | exact absurd (Nat.eq_of_beq_eq_true hb) h
 unfold also; rw[this]; rfl
theorem Z0k {P:Program} {ops:Array Oper} {o:Oper} {a:Act} {W:World} {K':Act->World->Prop} {Q:Exit->Act->World->Prop} {E:Prop} (hgd:Region.wanted o (yielded ops a.tmps)=true) (s x:Operand) (t:TypeId)
 (ho:o.op= .call { callee:= .builtin .append,args:=#[s,x],argTypes:=#[t,t] })
 (base:Nat) (e:TypeId) (i:TypeInfo) (z:Value) (size bytes:Nat) (ht:P.underlying t=some (.slice e)) (hi:P.info? e=some i) (hz:i.zero=some z)
 (hsize:i.size=size) (hby:i.bytes=bytes) (hzs:z.cells.size=size) (hsz:0 < size)
 (v:Value) (n:Nat) (xs:List Value) (hs:a.eval s=v) (hown:W.ownsRow base e size v n xs)
 (A:Option Addr) (m c:Nat) (news:List Value) (hx:a.eval x= .slice A m c) (hA:A=none->m=0/\c=0) (hl:news.length=m * size)
 (hnews: ∀ad,A=some ad-> ∀j u,news[j]? =some u->W.cell? (ad.add j)=some u) (h1: ∀u∈news,u.oneCell'=true)
 (h63:n+m<=maxLen) (hbytes: (n+m) * bytes<=140737488355328) (hbase:base<=W.heap.size)
 (h: ∀v' w',w'.ownsRow base e size v' (n+m) (xs++news)->W.grownBy w' v.ownBlock->(v'.ownBlock=v.ownBlock\/v'.ownBlock=some W.heap.size)->K' (a.put o.dst v') w'):
 if Region.wanted o (yielded ops a.tmps)=true then Oper.wp P o a W K' Q else E:=by
 rw[if_pos hgd]
 match A,hA,hnews,hx with
 | some ad,_,hnews,hx=>
  obtain ⟨v',w',hr,h2,h3,_,h5⟩:=run_append_own_at (P:=P) W base t o.type e i z size bytes ht hi hz hsize hby hzs hsz v n xs hown ad m c news hl (hnews ad rfl) h1 h63 hbytes hbase;unfold Oper.wp execOp;simp only[ho,resolve,invoke,builtin,Sem.run_bind,Sem.run_pure,Result.andThen_ok,List.map_toArray,List.map_cons,List.map_nil,hs,hx,hr];exact h v' w' h2 h3 h5
 | none,hA,_,hx=>
  obtain ⟨rfl,rfl⟩:=hA rfl;obtain rfl:news= []:=List.eq_nil_of_length_eq_zero (by rw[hl,Nat.zero_mul]);have hr:=run_append_owned_none (P:=P) (w:=W) base t o.type e i size ht hi v n xs hown;unfold Oper.wp execOp;simp only[ho,resolve,invoke,builtin,Sem.run_bind,Sem.run_pure,Result.andThen_ok,List.map_toArray,List.map_cons,List.map_nil,hs,hx,hr];exact h v W (by rw[List.append_nil]; exact hown) ⟨rfl,rfl,rfl,Nat.le_refl _,fun _ _ _=>rfl⟩ (Or.inl rfl)
def InvC (S:Nat) (Ch: (Nat->Bool)->(Nat->Value)->World->Prop) (Fin:World->Prop) (d:Nat->Bool) (u:Nat->Value) (W:World):Prop:=(d S=false/\Ch d u W)\/(d S=true/\(∀j,j < S->d j=true)/\Fin W)
section
variable {S : Nat} {Ch : (Nat -> Bool) -> (Nat -> Value) -> World -> Prop} {Fin : World -> Prop} {d : Nat -> Bool} {u : Nat -> Value}
include S Ch Fin d u
theorem InvC.open {W:World} (h:InvC S Ch Fin d u W) {j:Nat} (hd:d j=false) (hj:j<=S):d S=false/\Ch d u W:=by
 rcases h with h | ⟨h1,h2,_⟩
 {exact h}
 {rcases Nat.lt_or_eq_of_le hj with h | rfl
  {rw[h2 j h] at hd; cases hd}
  {rw[h1] at hd; cases hd}}
theorem InvC.next {W':World} {j:Nat} {v:Value} (h:d S=false) (hj:j < S) (hc:Ch (also d j) (upd u j v) W'):InvC S Ch Fin (also d j) (upd u j v) W':=
 Or.inl ⟨by rw[Z04 d (show S≠j by omega)]; exact h,hc⟩
theorem InvC.last {W':World} (h: ∀j,j < S->d j=true) (hf:Fin W'):InvC S Ch Fin (also d S) u W':=
 Or.inr ⟨Z0S d S,fun j hj=>by rw[Z04 d (show j≠S by omega)]; exact h j hj,hf⟩
end
theorem Z1p {P:Program} {ρ:Operand->Value} {o:Oper} {W:World} {t:TypeId} {x:Operand} {lo hi:Option Operand} {v:Value} (h:o.op= .slice t x lo hi none) (hr: (Instr.sliceAt t (ρ x) (lo.map ρ) (hi.map ρ) none).run P W= .ok v W):
 (execOp ρ o).run P W= .ok (.value v) W:=by
 unfold execOp; rw[h];simp[hr]
structure ChN (W0:World) (ty:TypeId) (size:Nat) (val:Nat->Option Value) (x y z:List Value) (lx lz:Nat) (d:Nat->Bool) (u:Nat->Value) (W:World):Prop where
 bel:Below W0.heap.size W0 W
 vals: ∀j,d j=true-> ∀v,val j=some v->u j=v
 rA:d 0=true->d 5=false->W.ownsRow W0.heap.size ty size (u 0) 0 []
 rB:d 5=true->d 12=false->W.ownsRow W0.heap.size ty size (u 5) lx x
 rC:d 12=true->d 17=false->W.ownsRow W0.heap.size ty size (u 12) (lx+1) (x++y)
 rE:d 17=true->W.ownsRow W0.heap.size ty size (u 17) (lx+1+lz) (x++y++z)
 rN:d 11=true->d 12=false-> ∃g,u 11= .slice (some ⟨g,0,none⟩) 1 1/\g < W.heap.size/\(∀j v,y[j]? =some v->W.cell? ⟨g,j,none⟩=some v)/\(d 0=true->d 5=false->(u 0).ownBlock≠some g)/\(d 5=true->(u 5).ownBlock≠some g)
 oB:d 5=true->d 0=true
 oC:d 12=true->d 5=true
 oN:d 12=true->d 11=true
 oE:d 17=true->d 12=true
theorem ChN.start (W0:World) (ty:TypeId) (size:Nat) (val:Nat->Option Value) (x y z:List Value) (lx lz:Nat) (u:Nat->Value):ChN W0 ty size val x y z lx lz (fun _=>false) u W0:=
 ⟨Below.refl _ _,nofun,nofun,nofun,nofun,nofun,nofun,nofun,nofun,nofun,nofun⟩
section
variable {W0 W : World} {ty : TypeId} {size : Nat} {val : Nat -> Option Value} {x y z : List Value} {lx lz : Nat} {d : Nat -> Bool} {u : Nat -> Value} (h : ChN W0 ty size val x y z lx lz d u W)
include W0 W ty size val x y z lx lz d u h
theorem ChN.pure {j:Nat} (hj:j≠0/\j≠5/\j≠12/\j≠17/\j≠11) (v:Value) (hv: ∀v',val j=some v'->v=v'):
 ChN W0 ty size val x y z lx lz (also d j) (upd u j v) W:=by
 obtain ⟨j0,j1,j2,j3,j4⟩:=hj;have k0:=Z04 d (show 0≠j by omega);have l0:=Z02 u v (show 0≠j by omega);have k5:=Z04 d (show 5≠j by omega);have l5:=Z02 u v (show 5≠j by omega);have k11:=Z04 d (show 11≠j by omega);have l11:=Z02 u v (show 11≠j by omega);have k12:=Z04 d (show 12≠j by omega);have l12:=Z02 u v (show 12≠j by omega);have k17:=Z04 d (show 17≠j by omega);have l17:=Z02 u v (show 17≠j by omega);refine ⟨h.bel,fun i hi v' hv'=> ?_, ?_, ?_, ?_, ?_, ?_, ?_, ?_, ?_, ?_⟩
 {by_cases hij:i=j
  {subst hij; rw[Z06]; exact hv v' hv'}
  {rw[Z04 d hij] at hi; rw[Z02 u v hij]; exact h.vals i hi v' hv'}}
 {simp only[k0,l0,k5,l5,k11,l11,k12,l12,k17,l17]; exact h.rA}
 {simp only[k0,l0,k5,l5,k11,l11,k12,l12,k17,l17]; exact h.rB}
 {simp only[k0,l0,k5,l5,k11,l11,k12,l12,k17,l17]; exact h.rC}
 {simp only[k0,l0,k5,l5,k11,l11,k12,l12,k17,l17]; exact h.rE}
 {simp only[k0,l0,k5,l5,k11,l11,k12,l12,k17,l17]; exact h.rN}
 {simp only[k0,l0,k5,l5,k11,l11,k12,l12,k17,l17]; exact h.oB}
 {simp only[k0,l0,k5,l5,k11,l11,k12,l12,k17,l17]; exact h.oC}
 {simp only[k0,l0,k5,l5,k11,l11,k12,l12,k17,l17]; exact h.oN}
 {simp only[k0,l0,k5,l5,k11,l11,k12,l12,k17,l17]; exact h.oE}
theorem ChN.mkA (hd:d 0=false) (hval:val 0=none)  :
 ChN W0 ty size val x y z lx lz (also d 0) (upd u 0 (.slice (some ⟨W.heap.size,0,none⟩) 0 0)) (W.alloc (.cells #[] ty)):=by
 have k5:=Z04 d (show 5≠0 by decide);have l5:=Z02 u (.slice (some ⟨W.heap.size,0,none⟩) 0 0) (show 5≠0 by decide);have k11:=Z04 d (show 11≠0 by decide);have l11:=Z02 u (.slice (some ⟨W.heap.size,0,none⟩) 0 0) (show 11≠0 by decide);have k12:=Z04 d (show 12≠0 by decide);have l12:=Z02 u (.slice (some ⟨W.heap.size,0,none⟩) 0 0) (show 12≠0 by decide);have k17:=Z04 d (show 17≠0 by decide);have l17:=Z02 u (.slice (some ⟨W.heap.size,0,none⟩) 0 0) (show 17≠0 by decide);have k0:=Z0S d 0;have l0:=Z06 u 0 (.slice (some ⟨W.heap.size,0,none⟩) 0 0);have n5:d 5=false:=by
  cases hq:d 5 with
  | false=>rfl
  | true=>have:=h.oB hq; rw[hd] at this; cases this
 have n12:d 12=false:=by
  cases hq:d 12 with
  | false=>rfl
  | true=>have:=h.oC hq; rw[n5] at this; cases this
 have n17:d 17=false:=by
  cases hq:d 17 with
  | false=>rfl
  | true=>have:=h.oE hq; rw[n12] at this; cases this
 have hb1:=Z01 W (.cells #[] ty);refine ⟨h.bel.trans (hb1.mono h.bel.size),fun i hi v' hv'=> ?_, ?_, ?_, ?_, ?_, ?_, ?_, ?_, ?_, ?_⟩
 {by_cases hij:i=0
  {subst hij; rw[hval] at hv'; cases hv'}
  {rw[Z04 d hij] at hi; rw[Z02 u _ hij]; exact h.vals i hi v' hv'}}
 {simp only[k0,l0,k5,l5,k11,l11,k12,l12,k17,l17]; intro _ _; exact World.ownsRow_made W #[] 0 h.bel.size (Nat.zero_le _) (by simp)}
 {simp only[k0,l0,k5,l5,k11,l11,k12,l12,k17,l17]; intro hq; rw[n5] at hq; cases hq}
 {simp only[k0,l0,k5,l5,k11,l11,k12,l12,k17,l17]; intro hq; rw[n12] at hq; cases hq}
 {simp only[k0,l0,k5,l5,k11,l11,k12,l12,k17,l17]; intro hq; rw[n17] at hq; cases hq}
 {simp only[k0,l0,k5,l5,k11,l11,k12,l12,k17,l17];intro hq _;obtain ⟨g,h1,h2,h3,h4,h5⟩:=h.rN hq n12;refine ⟨g,h1,by simp; omega,fun j v hj=>(hb1.cell (p:=⟨g,j,none⟩) h2).trans (h3 j v hj),fun _ _=> ?_,fun hq2=>by rw[n5] at hq2; cases hq2⟩;intro he;have:W.heap.size=g:=by simpa[Value.ownBlock] using he
  omega}
 {simp only[k0,l0,k5,l5,k11,l11,k12,l12,k17,l17]; intro hq; rw[n5] at hq; cases hq}
 {simp only[k0,l0,k5,l5,k11,l11,k12,l12,k17,l17]; intro hq; rw[n12] at hq; cases hq}
 {simp only[k0,l0,k5,l5,k11,l11,k12,l12,k17,l17]; intro hq; rw[n12] at hq; cases hq}
 {simp only[k0,l0,k5,l5,k11,l11,k12,l12,k17,l17]; intro hq; rw[n17] at hq; cases hq}
theorem ChN.mkN (hd:d 11=false) (hval:val 11=none) (hy:y.length=size) (hs:0 < size):
 ChN W0 ty size val x y z lx lz (also d 11) (upd u 11 (.slice (some ⟨W.heap.size,0,none⟩) 1 1)) (W.alloc (.cells y.toArray ty)):=by
 have k0:=Z04 d (show 0≠11 by decide);have l0:=Z02 u (.slice (some ⟨W.heap.size,0,none⟩) 1 1) (show 0≠11 by decide);have k5:=Z04 d (show 5≠11 by decide);have l5:=Z02 u (.slice (some ⟨W.heap.size,0,none⟩) 1 1) (show 5≠11 by decide);have k12:=Z04 d (show 12≠11 by decide);have l12:=Z02 u (.slice (some ⟨W.heap.size,0,none⟩) 1 1) (show 12≠11 by decide);have k17:=Z04 d (show 17≠11 by decide);have l17:=Z02 u (.slice (some ⟨W.heap.size,0,none⟩) 1 1) (show 17≠11 by decide);have k11:=Z0S d 11;have l11:=Z06 u 11 (.slice (some ⟨W.heap.size,0,none⟩) 1 1);have n12:d 12=false:=by
  cases hq:d 12 with
  | false=>rfl
  | true=>have:=h.oN hq; rw[hd] at this; cases this
 have n17:d 17=false:=by
  cases hq:d 17 with
  | false=>rfl
  | true=>have:=h.oE hq; rw[n12] at this; cases this
 have hb1:=Z01 W (.cells y.toArray ty);refine ⟨h.bel.trans (hb1.mono h.bel.size),fun i hi v' hv'=> ?_, ?_, ?_, ?_, ?_, ?_, ?_, ?_, ?_, ?_⟩
 {by_cases hij:i=11
  {subst hij; rw[hval] at hv'; cases hv'}
  {rw[Z04 d hij] at hi; rw[Z02 u _ hij]; exact h.vals i hi v' hv'}}
 {simp only[k0,l0,k5,l5,k11,l11,k12,l12,k17,l17]; intro h1 h2; exact (h.rA h1 h2).alloc _}
 {simp only[k0,l0,k5,l5,k11,l11,k12,l12,k17,l17]; intro h1 h2; exact (h.rB h1 h2).alloc _}
 {simp only[k0,l0,k5,l5,k11,l11,k12,l12,k17,l17]; intro hq; rw[n12] at hq; cases hq}
 {simp only[k0,l0,k5,l5,k11,l11,k12,l12,k17,l17]; intro hq; rw[n17] at hq; cases hq}
 {simp only[k0,l0,k5,l5,k11,l11,k12,l12,k17,l17];intro _ _;refine ⟨W.heap.size,rfl,by simp,fun j v hj=> ?_,fun h1 h2 he=> ?_,fun h1 he=> ?_⟩
  {rw[World.cell?_alloc_at _ _ _ _ rfl];simpa using hj}
  {have:=((h.rA h1 h2).lt _ he).2; omega}
  {have:=((h.rB h1 n12).lt _ he).2; omega}}
 {simp only[k0,l0,k5,l5,k11,l11,k12,l12,k17,l17]; exact h.oB}
 {simp only[k0,l0,k5,l5,k11,l11,k12,l12,k17,l17]; exact h.oC}
 {simp only[k0,l0,k5,l5,k11,l11,k12,l12,k17,l17]; intro _; trivial}
 {simp only[k0,l0,k5,l5,k11,l11,k12,l12,k17,l17]; exact h.oE}
theorem ChN.apB (hd:d 5=false) (hval:val 5=none) (hp:d 0=true) {v:Value} {W':World} (hown:W'.ownsRow W0.heap.size ty size v lx x) (hg:W.grownBy W' (u 0).ownBlock) (hw:v.ownBlock=(u 0).ownBlock\/v.ownBlock=some W.heap.size):
 ChN W0 ty size val x y z lx lz (also d 5) (upd u 5 v) W':=by
 have k0:=Z04 d (show 0≠5 by decide);have l0:=Z02 u v (show 0≠5 by decide);have k11:=Z04 d (show 11≠5 by decide);have l11:=Z02 u v (show 11≠5 by decide);have k12:=Z04 d (show 12≠5 by decide);have l12:=Z02 u v (show 12≠5 by decide);have k17:=Z04 d (show 17≠5 by decide);have l17:=Z02 u v (show 17≠5 by decide);have k5:=Z0S d 5;have l5:=Z06 u 5 v;have n12:d 12=false:=by
  cases hq:d 12 with
  | false=>rfl
  | true=>have:=h.oC hq; rw[hd] at this; cases this
 have n17:d 17=false:=by
  cases hq:d 17 with
  | false=>rfl
  | true=>have:=h.oE hq; rw[n12] at this; cases this
 have hrow:=h.rA hp hd;have hb1:Below W0.heap.size W W':=Y2.grown hg h.bel.size (fun k hk=>(hrow.lt k hk).1);refine ⟨h.bel.trans hb1,fun i hi v' hv'=> ?_, ?_, ?_, ?_, ?_, ?_, ?_, ?_, ?_, ?_⟩
 {by_cases hij:i=5
  {subst hij; rw[hval] at hv'; cases hv'}
  {rw[Z04 d hij] at hi; rw[Z02 u _ hij]; exact h.vals i hi v' hv'}}
 {simp only[k0,l0,k5,l5,k11,l11,k12,l12,k17,l17]; intro _ hq; cases hq}
 {simp only[k0,l0,k5,l5,k11,l11,k12,l12,k17,l17]; intro _ _; exact hown}
 {simp only[k0,l0,k5,l5,k11,l11,k12,l12,k17,l17]; intro hq; rw[n12] at hq; cases hq}
 {simp only[k0,l0,k5,l5,k11,l11,k12,l12,k17,l17]; intro hq; rw[n17] at hq; cases hq}
 {simp only[k0,l0,k5,l5,k11,l11,k12,l12,k17,l17];intro hq _;obtain ⟨g,h1,h2,h3,h4,h5⟩:=h.rN hq n12;have hne:=h4 hp hd;refine ⟨g,h1,Nat.lt_of_lt_of_le h2 hb1.size,fun j v hj=>hg.cell (h3 j v hj) (fun he=>hne he.symm),nofun,fun _ he=> ?_⟩;rcases hw with hw | hw
  {exact hne (hw▸he)}
  {rw[hw] at he;have:=Option.some.inj he;omega}}
 {simp only[k0,l0,k5,l5,k11,l11,k12,l12,k17,l17]; intro _; exact hp}
 {simp only[k0,l0,k5,l5,k11,l11,k12,l12,k17,l17]; intro hq; rw[n12] at hq; cases hq}
 {simp only[k0,l0,k5,l5,k11,l11,k12,l12,k17,l17]; intro hq; rw[n12] at hq; cases hq}
 {simp only[k0,l0,k5,l5,k11,l11,k12,l12,k17,l17]; exact h.oE}
theorem ChN.apC (hd:d 12=false) (hval:val 12=none) (hp:d 5=true) (hn:d 11=true) {v:Value} {W':World} (hown:W'.ownsRow W0.heap.size ty size v (lx+1) (x++y)) (hg:W.grownBy W' (u 5).ownBlock) (hw:v.ownBlock=(u 5).ownBlock\/v.ownBlock=some W.heap.size):
 ChN W0 ty size val x y z lx lz (also d 12) (upd u 12 v) W':=by
 have k0:=Z04 d (show 0≠12 by decide);have l0:=Z02 u v (show 0≠12 by decide);have k5:=Z04 d (show 5≠12 by decide);have l5:=Z02 u v (show 5≠12 by decide);have k11:=Z04 d (show 11≠12 by decide);have l11:=Z02 u v (show 11≠12 by decide);have k17:=Z04 d (show 17≠12 by decide);have l17:=Z02 u v (show 17≠12 by decide);have k12:=Z0S d 12;have l12:=Z06 u 12 v;have n17:d 17=false:=by
  cases hq:d 17 with
  | false=>rfl
  | true=>have:=h.oE hq; rw[hd] at this; cases this
 have hrow:=h.rB hp hd;have hb1:Below W0.heap.size W W':=Y2.grown hg h.bel.size (fun k hk=>(hrow.lt k hk).1);refine ⟨h.bel.trans hb1,fun i hi v' hv'=> ?_, ?_, ?_, ?_, ?_, ?_, ?_, ?_, ?_, ?_⟩
 {by_cases hij:i=12
  {subst hij; rw[hval] at hv'; cases hv'}
  {rw[Z04 d hij] at hi; rw[Z02 u _ hij]; exact h.vals i hi v' hv'}}
 {simp only[k0,l0,k5,l5,k11,l11,k12,l12,k17,l17]; intro _ hq; rw[hp] at hq; cases hq}
 {simp only[k0,l0,k5,l5,k11,l11,k12,l12,k17,l17]; intro _ hq; cases hq}
 {simp only[k0,l0,k5,l5,k11,l11,k12,l12,k17,l17]; intro _ _; exact hown}
 {simp only[k0,l0,k5,l5,k11,l11,k12,l12,k17,l17]; intro hq; rw[n17] at hq; cases hq}
 {simp only[k0,l0,k5,l5,k11,l11,k12,l12,k17,l17]; intro _ hq; cases hq}
 {simp only[k0,l0,k5,l5,k11,l11,k12,l12,k17,l17]; exact h.oB}
 {simp only[k0,l0,k5,l5,k11,l11,k12,l12,k17,l17]; intro _; exact hp}
 {simp only[k0,l0,k5,l5,k11,l11,k12,l12,k17,l17]; intro _; exact hn}
 {simp only[k0,l0,k5,l5,k11,l11,k12,l12,k17,l17]; intro _; trivial}
theorem ChN.apE (hd:d 17=false) (hval:val 17=none) (hp:d 12=true) {v:Value} {W':World} (hown:W'.ownsRow W0.heap.size ty size v (lx+1+lz) (x++y++z)) (hg:W.grownBy W' (u 12).ownBlock) (hw:v.ownBlock=(u 12).ownBlock\/v.ownBlock=some W.heap.size):
 ChN W0 ty size val x y z lx lz (also d 17) (upd u 17 v) W':=by
 have k0:=Z04 d (show 0≠17 by decide);have l0:=Z02 u v (show 0≠17 by decide);have k5:=Z04 d (show 5≠17 by decide);have l5:=Z02 u v (show 5≠17 by decide);have k11:=Z04 d (show 11≠17 by decide);have l11:=Z02 u v (show 11≠17 by decide);have k12:=Z04 d (show 12≠17 by decide);have l12:=Z02 u v (show 12≠17 by decide);have k17:=Z0S d 17;have l17:=Z06 u 17 v;have hrow:=h.rC hp hd;have hb1:Below W0.heap.size W W':=Y2.grown hg h.bel.size (fun k hk=>(hrow.lt k hk).1);have hb:=h.oC hp;have hn:=h.oN hp;refine ⟨h.bel.trans hb1,fun i hi v' hv'=> ?_, ?_, ?_, ?_, ?_, ?_, ?_, ?_, ?_, ?_⟩
 {by_cases hij:i=17
  {subst hij; rw[hval] at hv'; cases hv'}
  {rw[Z04 d hij] at hi; rw[Z02 u _ hij]; exact h.vals i hi v' hv'}}
 {simp only[k0,l0,k5,l5,k11,l11,k12,l12,k17,l17]; intro _ hq; rw[hb] at hq; cases hq}
 {simp only[k0,l0,k5,l5,k11,l11,k12,l12,k17,l17]; intro _ hq; rw[hp] at hq; cases hq}
 {simp only[k0,l0,k5,l5,k11,l11,k12,l12,k17,l17]; intro _ hq; cases hq}
 {simp only[k0,l0,k5,l5,k11,l11,k12,l12,k17,l17]; intro _; exact hown}
 {simp only[k0,l0,k5,l5,k11,l11,k12,l12,k17,l17]; intro _ hq; rw[hp] at hq; cases hq}
 {simp only[k0,l0,k5,l5,k11,l11,k12,l12,k17,l17]; exact h.oB}
 {simp only[k0,l0,k5,l5,k11,l11,k12,l12,k17,l17]; exact h.oC}
 {simp only[k0,l0,k5,l5,k11,l11,k12,l12,k17,l17]; exact h.oN}
 {simp only[k0,l0,k5,l5,k11,l11,k12,l12,k17,l17]; intro _; exact hp}
end
structure ChP (W0:World) (ty:TypeId) (size:Nat) (val:Nat->Option Value) (x y z:List Value) (lx lz:Nat) (d:Nat->Bool) (u:Nat->Value) (W:World):Prop where
 bel:Below W0.heap.size W0 W
 vals: ∀j,d j=true-> ∀v,val j=some v->u j=v
 rA:d 0=true->d 5=false->W.ownsRow W0.heap.size ty size (u 0) 0 []
 rB:d 5=true->d 8=false->W.ownsRow W0.heap.size ty size (u 5) lx x
 rC:d 8=true->d 13=false->W.ownsRow W0.heap.size ty size (u 8) (lx+1) (x++y)
 rE:d 13=true->W.ownsRow W0.heap.size ty size (u 13) (lx+1+lz) (x++y++z)
 rN:d 7=true->d 8=false-> ∃g,u 7= .slice (some ⟨g,0,none⟩) 1 1/\g < W.heap.size/\(∀j v,y[j]? =some v->W.cell? ⟨g,j,none⟩=some v)/\(d 0=true->d 5=false->(u 0).ownBlock≠some g)/\(d 5=true->(u 5).ownBlock≠some g)
 oB:d 5=true->d 0=true
 oC:d 8=true->d 5=true
 oN:d 8=true->d 7=true
 oE:d 13=true->d 8=true
theorem ChP.start (W0:World) (ty:TypeId) (size:Nat) (val:Nat->Option Value) (x y z:List Value) (lx lz:Nat) (u:Nat->Value):ChP W0 ty size val x y z lx lz (fun _=>false) u W0:=
 ⟨Below.refl _ _,nofun,nofun,nofun,nofun,nofun,nofun,nofun,nofun,nofun,nofun⟩
section
variable {W0 W : World} {ty : TypeId} {size : Nat} {val : Nat -> Option Value} {x y z : List Value} {lx lz : Nat} {d : Nat -> Bool} {u : Nat -> Value} (h : ChP W0 ty size val x y z lx lz d u W)
include W0 W ty size val x y z lx lz d u h
theorem ChP.pure {j:Nat} (hj:j≠0/\j≠5/\j≠8/\j≠13/\j≠7) (v:Value) (hv: ∀v',val j=some v'->v=v'):
 ChP W0 ty size val x y z lx lz (also d j) (upd u j v) W:=by
 obtain ⟨j0,j1,j2,j3,j4⟩:=hj;have k0:=Z04 d (show 0≠j by omega);have l0:=Z02 u v (show 0≠j by omega);have k5:=Z04 d (show 5≠j by omega);have l5:=Z02 u v (show 5≠j by omega);have k7:=Z04 d (show 7≠j by omega);have l7:=Z02 u v (show 7≠j by omega);have k8:=Z04 d (show 8≠j by omega);have l8:=Z02 u v (show 8≠j by omega);have k13:=Z04 d (show 13≠j by omega);have l13:=Z02 u v (show 13≠j by omega);refine ⟨h.bel,fun i hi v' hv'=> ?_, ?_, ?_, ?_, ?_, ?_, ?_, ?_, ?_, ?_⟩
 {by_cases hij:i=j
  {subst hij; rw[Z06]; exact hv v' hv'}
  {rw[Z04 d hij] at hi; rw[Z02 u v hij]; exact h.vals i hi v' hv'}}
 {simp only[k0,l0,k5,l5,k7,l7,k8,l8,k13,l13]; exact h.rA}
 {simp only[k0,l0,k5,l5,k7,l7,k8,l8,k13,l13]; exact h.rB}
 {simp only[k0,l0,k5,l5,k7,l7,k8,l8,k13,l13]; exact h.rC}
 {simp only[k0,l0,k5,l5,k7,l7,k8,l8,k13,l13]; exact h.rE}
 {simp only[k0,l0,k5,l5,k7,l7,k8,l8,k13,l13]; exact h.rN}
 {simp only[k0,l0,k5,l5,k7,l7,k8,l8,k13,l13]; exact h.oB}
 {simp only[k0,l0,k5,l5,k7,l7,k8,l8,k13,l13]; exact h.oC}
 {simp only[k0,l0,k5,l5,k7,l7,k8,l8,k13,l13]; exact h.oN}
 {simp only[k0,l0,k5,l5,k7,l7,k8,l8,k13,l13]; exact h.oE}
theorem ChP.mkA (hd:d 0=false) (hval:val 0=none)  :
 ChP W0 ty size val x y z lx lz (also d 0) (upd u 0 (.slice (some ⟨W.heap.size,0,none⟩) 0 0)) (W.alloc (.cells #[] ty)):=by
 have k5:=Z04 d (show 5≠0 by decide);have l5:=Z02 u (.slice (some ⟨W.heap.size,0,none⟩) 0 0) (show 5≠0 by decide);have k7:=Z04 d (show 7≠0 by decide);have l7:=Z02 u (.slice (some ⟨W.heap.size,0,none⟩) 0 0) (show 7≠0 by decide);have k8:=Z04 d (show 8≠0 by decide);have l8:=Z02 u (.slice (some ⟨W.heap.size,0,none⟩) 0 0) (show 8≠0 by decide);have k13:=Z04 d (show 13≠0 by decide);have l13:=Z02 u (.slice (some ⟨W.heap.size,0,none⟩) 0 0) (show 13≠0 by decide);have k0:=Z0S d 0;have l0:=Z06 u 0 (.slice (some ⟨W.heap.size,0,none⟩) 0 0);have n5:d 5=false:=by
  cases hq:d 5 with
  | false=>rfl
  | true=>have:=h.oB hq; rw[hd] at this; cases this
 have n8:d 8=false:=by
  cases hq:d 8 with
  | false=>rfl
  | true=>have:=h.oC hq; rw[n5] at this; cases this
 have n13:d 13=false:=by
  cases hq:d 13 with
  | false=>rfl
  | true=>have:=h.oE hq; rw[n8] at this; cases this
 have hb1:=Z01 W (.cells #[] ty);refine ⟨h.bel.trans (hb1.mono h.bel.size),fun i hi v' hv'=> ?_, ?_, ?_, ?_, ?_, ?_, ?_, ?_, ?_, ?_⟩
 {by_cases hij:i=0
  {subst hij; rw[hval] at hv'; cases hv'}
  {rw[Z04 d hij] at hi; rw[Z02 u _ hij]; exact h.vals i hi v' hv'}}
 {simp only[k0,l0,k5,l5,k7,l7,k8,l8,k13,l13]; intro _ _; exact World.ownsRow_made W #[] 0 h.bel.size (Nat.zero_le _) (by simp)}
 {simp only[k0,l0,k5,l5,k7,l7,k8,l8,k13,l13]; intro hq; rw[n5] at hq; cases hq}
 {simp only[k0,l0,k5,l5,k7,l7,k8,l8,k13,l13]; intro hq; rw[n8] at hq; cases hq}
 {simp only[k0,l0,k5,l5,k7,l7,k8,l8,k13,l13]; intro hq; rw[n13] at hq; cases hq}
 {simp only[k0,l0,k5,l5,k7,l7,k8,l8,k13,l13];intro hq _;obtain ⟨g,h1,h2,h3,h4,h5⟩:=h.rN hq n8;refine ⟨g,h1,by simp; omega,fun j v hj=>(hb1.cell (p:=⟨g,j,none⟩) h2).trans (h3 j v hj),fun _ _=> ?_,fun hq2=>by rw[n5] at hq2; cases hq2⟩;intro he;have:W.heap.size=g:=by simpa[Value.ownBlock] using he
  omega}
 {simp only[k0,l0,k5,l5,k7,l7,k8,l8,k13,l13]; intro hq; rw[n5] at hq; cases hq}
 {simp only[k0,l0,k5,l5,k7,l7,k8,l8,k13,l13]; intro hq; rw[n8] at hq; cases hq}
 {simp only[k0,l0,k5,l5,k7,l7,k8,l8,k13,l13]; intro hq; rw[n8] at hq; cases hq}
 {simp only[k0,l0,k5,l5,k7,l7,k8,l8,k13,l13]; intro hq; rw[n13] at hq; cases hq}
theorem ChP.mkN (hd:d 7=false) (hval:val 7=none) (hy:y.length=size) (hs:0 < size):
 ChP W0 ty size val x y z lx lz (also d 7) (upd u 7 (.slice (some ⟨W.heap.size,0,none⟩) 1 1)) (W.alloc (.cells y.toArray ty)):=by
 have k0:=Z04 d (show 0≠7 by decide);have l0:=Z02 u (.slice (some ⟨W.heap.size,0,none⟩) 1 1) (show 0≠7 by decide);have k5:=Z04 d (show 5≠7 by decide);have l5:=Z02 u (.slice (some ⟨W.heap.size,0,none⟩) 1 1) (show 5≠7 by decide);have k8:=Z04 d (show 8≠7 by decide);have l8:=Z02 u (.slice (some ⟨W.heap.size,0,none⟩) 1 1) (show 8≠7 by decide);have k13:=Z04 d (show 13≠7 by decide);have l13:=Z02 u (.slice (some ⟨W.heap.size,0,none⟩) 1 1) (show 13≠7 by decide);have k7:=Z0S d 7;have l7:=Z06 u 7 (.slice (some ⟨W.heap.size,0,none⟩) 1 1);have n8:d 8=false:=by
  cases hq:d 8 with
  | false=>rfl
  | true=>have:=h.oN hq; rw[hd] at this; cases this
 have n13:d 13=false:=by
  cases hq:d 13 with
  | false=>rfl
  | true=>have:=h.oE hq; rw[n8] at this; cases this
 have hb1:=Z01 W (.cells y.toArray ty);refine ⟨h.bel.trans (hb1.mono h.bel.size),fun i hi v' hv'=> ?_, ?_, ?_, ?_, ?_, ?_, ?_, ?_, ?_, ?_⟩
 {by_cases hij:i=7
  {subst hij; rw[hval] at hv'; cases hv'}
  {rw[Z04 d hij] at hi; rw[Z02 u _ hij]; exact h.vals i hi v' hv'}}
 {simp only[k0,l0,k5,l5,k7,l7,k8,l8,k13,l13]; intro h1 h2; exact (h.rA h1 h2).alloc _}
 {simp only[k0,l0,k5,l5,k7,l7,k8,l8,k13,l13]; intro h1 h2; exact (h.rB h1 h2).alloc _}
 {simp only[k0,l0,k5,l5,k7,l7,k8,l8,k13,l13]; intro hq; rw[n8] at hq; cases hq}
 {simp only[k0,l0,k5,l5,k7,l7,k8,l8,k13,l13]; intro hq; rw[n13] at hq; cases hq}
 {simp only[k0,l0,k5,l5,k7,l7,k8,l8,k13,l13];intro _ _;refine ⟨W.heap.size,rfl,by simp,fun j v hj=> ?_,fun h1 h2 he=> ?_,fun h1 he=> ?_⟩
  {rw[World.cell?_alloc_at _ _ _ _ rfl];simpa using hj}
  {have:=((h.rA h1 h2).lt _ he).2; omega}
  {have:=((h.rB h1 n8).lt _ he).2; omega}}
 {simp only[k0,l0,k5,l5,k7,l7,k8,l8,k13,l13]; exact h.oB}
 {simp only[k0,l0,k5,l5,k7,l7,k8,l8,k13,l13]; exact h.oC}
 {simp only[k0,l0,k5,l5,k7,l7,k8,l8,k13,l13]; intro _; trivial}
 {simp only[k0,l0,k5,l5,k7,l7,k8,l8,k13,l13]; exact h.oE}
theorem ChP.apB (hd:d 5=false) (hval:val 5=none) (hp:d 0=true) {v:Value} {W':World} (hown:W'.ownsRow W0.heap.size ty size v lx x) (hg:W.grownBy W' (u 0).ownBlock) (hw:v.ownBlock=(u 0).ownBlock\/v.ownBlock=some W.heap.size):
 ChP W0 ty size val x y z lx lz (also d 5) (upd u 5 v) W':=by
 have k0:=Z04 d (show 0≠5 by decide);have l0:=Z02 u v (show 0≠5 by decide);have k7:=Z04 d (show 7≠5 by decide);have l7:=Z02 u v (show 7≠5 by decide);have k8:=Z04 d (show 8≠5 by decide);have l8:=Z02 u v (show 8≠5 by decide);have k13:=Z04 d (show 13≠5 by decide);have l13:=Z02 u v (show 13≠5 by decide);have k5:=Z0S d 5;have l5:=Z06 u 5 v;have n8:d 8=false:=by
  cases hq:d 8 with
  | false=>rfl
  | true=>have:=h.oC hq; rw[hd] at this; cases this
 have n13:d 13=false:=by
  cases hq:d 13 with
  | false=>rfl
  | true=>have:=h.oE hq; rw[n8] at this; cases this
 have hrow:=h.rA hp hd;have hb1:Below W0.heap.size W W':=Y2.grown hg h.bel.size (fun k hk=>(hrow.lt k hk).1);refine ⟨h.bel.trans hb1,fun i hi v' hv'=> ?_, ?_, ?_, ?_, ?_, ?_, ?_, ?_, ?_, ?_⟩
 {by_cases hij:i=5
  {subst hij; rw[hval] at hv'; cases hv'}
  {rw[Z04 d hij] at hi; rw[Z02 u _ hij]; exact h.vals i hi v' hv'}}
 {simp only[k0,l0,k5,l5,k7,l7,k8,l8,k13,l13]; intro _ hq; cases hq}
 {simp only[k0,l0,k5,l5,k7,l7,k8,l8,k13,l13]; intro _ _; exact hown}
 {simp only[k0,l0,k5,l5,k7,l7,k8,l8,k13,l13]; intro hq; rw[n8] at hq; cases hq}
 {simp only[k0,l0,k5,l5,k7,l7,k8,l8,k13,l13]; intro hq; rw[n13] at hq; cases hq}
 {simp only[k0,l0,k5,l5,k7,l7,k8,l8,k13,l13];intro hq _;obtain ⟨g,h1,h2,h3,h4,h5⟩:=h.rN hq n8;have hne:=h4 hp hd;refine ⟨g,h1,Nat.lt_of_lt_of_le h2 hb1.size,fun j v hj=>hg.cell (h3 j v hj) (fun he=>hne he.symm),nofun,fun _ he=> ?_⟩;rcases hw with hw | hw
  {exact hne (hw▸he)}
  {rw[hw] at he;have:=Option.some.inj he;omega}}
 {simp only[k0,l0,k5,l5,k7,l7,k8,l8,k13,l13]; intro _; exact hp}
 {simp only[k0,l0,k5,l5,k7,l7,k8,l8,k13,l13]; intro hq; rw[n8] at hq; cases hq}
 {simp only[k0,l0,k5,l5,k7,l7,k8,l8,k13,l13]; intro hq; rw[n8] at hq; cases hq}
 {simp only[k0,l0,k5,l5,k7,l7,k8,l8,k13,l13]; exact h.oE}
theorem ChP.apC (hd:d 8=false) (hval:val 8=none) (hp:d 5=true) (hn:d 7=true) {v:Value} {W':World} (hown:W'.ownsRow W0.heap.size ty size v (lx+1) (x++y)) (hg:W.grownBy W' (u 5).ownBlock) (hw:v.ownBlock=(u 5).ownBlock\/v.ownBlock=some W.heap.size):
 ChP W0 ty size val x y z lx lz (also d 8) (upd u 8 v) W':=by
 have k0:=Z04 d (show 0≠8 by decide);have l0:=Z02 u v (show 0≠8 by decide);have k5:=Z04 d (show 5≠8 by decide);have l5:=Z02 u v (show 5≠8 by decide);have k7:=Z04 d (show 7≠8 by decide);have l7:=Z02 u v (show 7≠8 by decide);have k13:=Z04 d (show 13≠8 by decide);have l13:=Z02 u v (show 13≠8 by decide);have k8:=Z0S d 8;have l8:=Z06 u 8 v;have n13:d 13=false:=by
  cases hq:d 13 with
  | false=>rfl
  | true=>have:=h.oE hq; rw[hd] at this; cases this
 have hrow:=h.rB hp hd;have hb1:Below W0.heap.size W W':=Y2.grown hg h.bel.size (fun k hk=>(hrow.lt k hk).1);refine ⟨h.bel.trans hb1,fun i hi v' hv'=> ?_, ?_, ?_, ?_, ?_, ?_, ?_, ?_, ?_, ?_⟩
 {by_cases hij:i=8
  {subst hij; rw[hval] at hv'; cases hv'}
  {rw[Z04 d hij] at hi; rw[Z02 u _ hij]; exact h.vals i hi v' hv'}}
 {simp only[k0,l0,k5,l5,k7,l7,k8,l8,k13,l13]; intro _ hq; rw[hp] at hq; cases hq}
 {simp only[k0,l0,k5,l5,k7,l7,k8,l8,k13,l13]; intro _ hq; cases hq}
 {simp only[k0,l0,k5,l5,k7,l7,k8,l8,k13,l13]; intro _ _; exact hown}
 {simp only[k0,l0,k5,l5,k7,l7,k8,l8,k13,l13]; intro hq; rw[n13] at hq; cases hq}
 {simp only[k0,l0,k5,l5,k7,l7,k8,l8,k13,l13]; intro _ hq; cases hq}
 {simp only[k0,l0,k5,l5,k7,l7,k8,l8,k13,l13]; exact h.oB}
 {simp only[k0,l0,k5,l5,k7,l7,k8,l8,k13,l13]; intro _; exact hp}
 {simp only[k0,l0,k5,l5,k7,l7,k8,l8,k13,l13]; intro _; exact hn}
 {simp only[k0,l0,k5,l5,k7,l7,k8,l8,k13,l13]; intro _; trivial}
theorem ChP.apE (hd:d 13=false) (hval:val 13=none) (hp:d 8=true) {v:Value} {W':World} (hown:W'.ownsRow W0.heap.size ty size v (lx+1+lz) (x++y++z)) (hg:W.grownBy W' (u 8).ownBlock) (hw:v.ownBlock=(u 8).ownBlock\/v.ownBlock=some W.heap.size):
 ChP W0 ty size val x y z lx lz (also d 13) (upd u 13 v) W':=by
 have k0:=Z04 d (show 0≠13 by decide);have l0:=Z02 u v (show 0≠13 by decide);have k5:=Z04 d (show 5≠13 by decide);have l5:=Z02 u v (show 5≠13 by decide);have k7:=Z04 d (show 7≠13 by decide);have l7:=Z02 u v (show 7≠13 by decide);have k8:=Z04 d (show 8≠13 by decide);have l8:=Z02 u v (show 8≠13 by decide);have k13:=Z0S d 13;have l13:=Z06 u 13 v;have hrow:=h.rC hp hd;have hb1:Below W0.heap.size W W':=Y2.grown hg h.bel.size (fun k hk=>(hrow.lt k hk).1);have hb:=h.oC hp;have hn:=h.oN hp;refine ⟨h.bel.trans hb1,fun i hi v' hv'=> ?_, ?_, ?_, ?_, ?_, ?_, ?_, ?_, ?_, ?_⟩
 {by_cases hij:i=13
  {subst hij; rw[hval] at hv'; cases hv'}
  {rw[Z04 d hij] at hi; rw[Z02 u _ hij]; exact h.vals i hi v' hv'}}
 {simp only[k0,l0,k5,l5,k7,l7,k8,l8,k13,l13]; intro _ hq; rw[hb] at hq; cases hq}
 {simp only[k0,l0,k5,l5,k7,l7,k8,l8,k13,l13]; intro _ hq; rw[hp] at hq; cases hq}
 {simp only[k0,l0,k5,l5,k7,l7,k8,l8,k13,l13]; intro _ hq; cases hq}
 {simp only[k0,l0,k5,l5,k7,l7,k8,l8,k13,l13]; intro _; exact hown}
 {simp only[k0,l0,k5,l5,k7,l7,k8,l8,k13,l13]; intro _ hq; rw[hp] at hq; cases hq}
 {simp only[k0,l0,k5,l5,k7,l7,k8,l8,k13,l13]; exact h.oB}
 {simp only[k0,l0,k5,l5,k7,l7,k8,l8,k13,l13]; exact h.oC}
 {simp only[k0,l0,k5,l5,k7,l7,k8,l8,k13,l13]; exact h.oN}
 {simp only[k0,l0,k5,l5,k7,l7,k8,l8,k13,l13]; intro _; exact hp}
end
end
end Go.Proofs.YtmeiijjpomcgcaaDoor
namespace Go.Proofs.YtmeiijjpomcgcaaDoor
open Go.RowKit Shp Sub
open Expd (Bd)
namespace SubM
abbrev BE:=Bd×Ptr
def cells7 (x:BE):List Value:= [.string ⟨x.1.of_.toArray⟩,.string ⟨x.1.name.toArray⟩,.int .i64 x.1.sh.kind,.string ⟨x.1.sh.of_.toArray⟩,.string ⟨x.1.sh.name.toArray⟩,.slice x.2.A x.1.sh.names.length x.2.c,.slice x.2.P x.1.sh.parts.length x.2.d]
def cellsB (l:List BE):List Value:=l.flatMap cells7
theorem Z0o (l m:List BE):cellsB (l++m)=cellsB l++cellsB m:=by simp[cellsB]
theorem Z0R (x:BE):cellsB [x]=cells7 x:=by simp[cellsB]
theorem Z0u (l:List BE): (cellsB l).length=l.length * 7:=by
 induction l with
 | nil=>rfl
 | cons a l ih=>rw[show a::l= [a]++l from rfl,Z0o,List.length_append,ih,Z0R]; simp[cells7]; omega
theorem Z7Y (x:BE): ∀u∈cells7 x,u.oneCell'=true:=by
 intro u hu;simp only[cells7,List.mem_cons,List.not_mem_nil,or_false] at hu;rcases hu with rfl | rfl | rfl | rfl | rfl | rfl | rfl <;> rfl
theorem Z0D (l:List BE): ∀u∈cellsB l,u.oneCell'=true:=by
 intro u hu;obtain ⟨x,_,h⟩:=List.mem_flatMap.1 hu;exact Z7Y x u h
theorem Z43 {l:List BE} {i c:Nat} (hi:i < l.length) (hc:c < 7): (cellsB l)[i * 7+c]? =(cells7 (l[i]'hi))[c]? :=by
 have h1:l=l.take i++([l[i]'hi]++l.drop (i+1)):=by rw[List.singleton_append,List.getElem_cons_drop,List.take_append_drop]
 have h2: (cellsB (l.take i)).length=i * 7:=by rw[Z0u,List.length_take]; omega
 have h3: (cells7 (l[i]'hi)).length=7:=rfl
 conv=>lhs; rw[h1]
 rw[Z0o,Z0o,Z0R,List.getElem?_append_right (by omega),h2,Nat.add_sub_cancel_left,List.getElem?_append_left (by omega)]
theorem Z1H: (Tryd.prog.info? 54).map (fun i=>(i.zero,i.size,i.bytes))=some (some (.agg #[.string ByteArray.empty,.string ByteArray.empty,.int .i64 0,.string ByteArray.empty,.string ByteArray.empty,.slice none 0 0,.slice none 0 0]),7,120):=by kernel_rfl
def BOk (W:World) (B:Nat) (x:BE):Prop:=ShAt W B x.2 x.1.sh/\x.1.of_.length<=9223372036854775807/\x.1.name.length<=9223372036854775807
theorem Z4g {w:World} {B:Nat} {A:Option Addr} {l:List Bd} (h:BdsAt w B A l): ∃lE:List BE,lE.map Prod.fst=l/\(∀x∈lE,BOk w B x)/\(lE= []\/ ∃g off,A=some ⟨g,off,none⟩/\g < B/\ ∀j u,(cellsB lE)[j]? =some u->w.cell? ⟨g,off+j,none⟩=some u):=by
 rcases h with h | ⟨g,off,qs,hA,hg,hc⟩
 {exact ⟨[],by rw[List.eq_nil_of_length_eq_zero h]; rfl,fun x hx=>absurd hx (by simp),Or.inl rfl⟩}
 {have hn: (l.mapIdx (fun i b=>(b,qs i))).length=l.length:=List.length_mapIdx;have hat: ∀i (hi:i < (l.mapIdx (fun i b=>(b,qs i))).length),(l.mapIdx (fun i b=>(b,qs i)))[i]'hi=(l[i]'(by omega),qs i):=fun i hi=>by rw[List.getElem_mapIdx]
  refine ⟨l.mapIdx (fun i b=>(b,qs i)), ?_,fun x hx=> ?_,Or.inr ⟨g,off,hA,hg,fun j u hu=> ?_⟩⟩
  {refine List.ext_getElem (by rw[List.length_map,hn]) (fun i h1 h2=> ?_);rw[List.getElem_map,hat]}
  {obtain ⟨i,hi,rfl⟩:=List.getElem_of_mem hx;rw[hat];obtain ⟨_,_,_,h4,h5,h6⟩:=hc i (by omega);exact ⟨h4,h5,h6⟩}
  {have hj:j < l.length * 7:=by
    have:=(List.getElem?_eq_some_iff.1 hu).1;rw[Z0u,hn] at this; exact this
   have hi:j / 7 < l.length:=by omega
   have e:j=j / 7 * 7+j % 7:=by omega
   have hm:j % 7 < 7:=by omega
   rw[e,Z43 (by omega) hm,hat] at hu;obtain ⟨z0,z1,⟨z2,z3,z4,z5,z6⟩,_⟩:=hc (j / 7) hi;rw[e, <-Nat.add_assoc];generalize j % 7=c at hu hm;rcases c with _ | _ | _ | _ | _ | _ | _ | c
   {simp[cells7] at hu; subst hu; exact z0}
   {simp[cells7] at hu; subst hu; exact z1}
   {simp[cells7] at hu; subst hu; exact z2}
   {simp[cells7] at hu; subst hu; exact z3}
   {simp[cells7] at hu; subst hu; exact z4}
   {simp[cells7] at hu; subst hu; exact z5}
   {simp[cells7] at hu; subst hu; exact z6}
   {omega}}}
theorem Z2l {W:World} {base:Nat} {A:Option Addr} {n c:Nat} {lE:List BE} (r:W.ownsRow base 54 7 (.slice A n c) n (cellsB lE)) (hl:lE.length=n) (h: ∀x∈lE,BOk W W.heap.size x):BdsAt W W.heap.size A (lE.map Prod.fst):=by
 rcases slice_form r with ⟨_,h0,_⟩ | ⟨g,rfl,_⟩
 {exact Or.inl (by rw[List.length_map]; omega)}
 {have hg:=(Z0a r g rfl).2;refine Or.inr ⟨g,0,fun i=>(lE[i]?.map Prod.snd).getD ⟨none,0,none,0⟩,rfl,hg,fun i hi=> ?_⟩;have hi':i < lE.length:=by rw[List.length_map] at hi; exact hi
  have hc: ∀c v,c < 7->(cells7 (lE[i]'hi'))[c]? =some v->W.cell? ⟨g,0+i * 7+c,none⟩=some v:=fun c v hc hv=>by
   rw[Nat.zero_add];exact Z2u r (by rw[Z43 hi' hc]; exact hv)
  have hx:=h _ (List.getElem_mem hi');simp only[List.getElem_map];rw[List.getElem?_eq_getElem hi'];exact ⟨hc 0 _ (by omega) rfl,hc 1 _ (by omega) rfl,⟨hc 2 _ (by omega) rfl,hc 3 _ (by omega) rfl,hc 4 _ (by omega) rfl,hc 5 _ (by omega) rfl,hc 6 _ (by omega) rfl⟩,hx.1,hx.2.1,hx.2.2⟩}
def Dis (i0 i1 i2 i3 ib:Nat):Prop:=(i0≠i1/\i0≠i2/\i0≠i3/\i0≠ib)/\(i1≠i2/\i1≠i3/\i1≠ib)/\(i2≠i3/\i2≠ib)/\i3≠ib
instance (i0 i1 i2 i3 ib:Nat):Decidable (Dis i0 i1 i2 i3 ib):=by unfold Dis; infer_instance
structure CI (W0:World) (val:Nat->Option Value) (fin:Bool) (lA lB:List BE) (b:BE) (i0 i1 i2 i3 ib:Nat) (d:Nat->Bool) (u:Nat->Value) (W:World):Prop where
 up:Below W0.heap.size W0 W
 vals: ∀j,d j=true-> ∀v,val j=some v->u j=v
 r0:d i0=true->d i1=false->W.ownsRow W0.heap.size 54 7 (u i0) 0 []
 r1:d i1=true->d i2=false->W.ownsRow W0.heap.size 54 7 (u i1) lA.length (cellsB lA)
 rb:d ib=true->d i2=false-> ∃z,u ib= .slice (some ⟨z,0,none⟩) 1 1/\W0.heap.size<=z/\z < W.heap.size/\(d i0=true->d i1=false->(u i0).ownBlock≠some z)/\(d i1=true->(u i1).ownBlock≠some z)/\ ∀j v,(cells7 b)[j]? =some v->W.cell? ⟨z,j,none⟩=some v
 r2:d i2=true->d i3=false->W.ownsRow W0.heap.size 54 7 (u i2) (lA.length+1) (cellsB (lA++ [b]))
 r3:fin=true->d i3=true->W.ownsRow W0.heap.size 54 7 (u i3) (lA.length+1+lB.length) (cellsB (lA++ [b]++lB))
section
variable {W0 W W' : World} {val : Nat -> Option Value} {fin : Bool} {lA lB : List BE} {b : BE} {i0 i1 i2 i3 ib : Nat} {d : Nat -> Bool} {u : Nat -> Value}
theorem Z0w {B e s n:Nat} {v:Value} {xs:List Value} (h:W.ownsRow B e s v n xs) (hb:Below W.heap.size W W'):W'.ownsRow B e s v n xs:=by
 obtain ⟨h1,h2⟩:=h;refine ⟨h1, ?_⟩;rcases h2 with h2 | ⟨g,cap,cur,hv,hbb,hg,hc⟩
 {exact Or.inl h2}
 {refine Or.inr ⟨g,cap,cur,hv,hbb, ?_,hc⟩;rw[hb.block g (Array.getElem?_eq_some_iff.1 hg).1];exact hg}
theorem CI.start {u:Nat->Value}:CI W0 val fin lA lB b i0 i1 i2 i3 ib (fun _=>false) u W0.drew:=⟨Y2.drew,nofun,nofun,nofun,nofun,nofun,fun _=>nofun⟩
section
variable (h : CI W0 val fin lA lB b i0 i1 i2 i3 ib d u W)
include h
theorem CI.vals' {i:Nat} {v:Value} (hv: ∀v',val i=some v'->v=v'): ∀j,also d i j=true-> ∀v',val j=some v'->upd u i v j=v':=fun j hj v' hv'=>by
 by_cases hij:j=i
 {subst hij; rw[Z06]; exact hv v' hv'}
 {rw[Z08 d hij] at hj; rw[Z02 u v hij]; exact h.vals j hj v' hv'}
theorem CI.pure {i:Nat} (hi:i≠i0/\i≠i1/\i≠i2/\i≠i3/\i≠ib) {v:Value} (hv: ∀v',val i=some v'->v=v') (hb:Below W.heap.size W W'):CI W0 val fin lA lB b i0 i1 i2 i3 ib (also d i) (upd u i v) W':=by
 obtain ⟨n0,n1,n2,n3,nb⟩:=hi;have k: ∀j,j≠i->also d i j=d j/\upd u i v j=u j:=fun j hj=>⟨Z08 d hj,Z02 u v hj⟩;refine ⟨Z03 h.up hb,h.vals' hv, ?_, ?_, ?_, ?_, ?_⟩
 {rw[(k i0 (Ne.symm n0)).1,(k i0 (Ne.symm n0)).2,(k i1 (Ne.symm n1)).1]; exact fun h1 h2=>Z0w (h.r0 h1 h2) hb}
 {rw[(k i1 (Ne.symm n1)).1,(k i1 (Ne.symm n1)).2,(k i2 (Ne.symm n2)).1]; exact fun h1 h2=>Z0w (h.r1 h1 h2) hb}
 {rw[(k ib (Ne.symm nb)).1,(k ib (Ne.symm nb)).2,(k i2 (Ne.symm n2)).1,(k i0 (Ne.symm n0)).1,(k i0 (Ne.symm n0)).2,(k i1 (Ne.symm n1)).1,(k i1 (Ne.symm n1)).2];intro h1 h2;obtain ⟨z,e,z1,z2,z3,z4,z5⟩:=h.rb h1 h2;exact ⟨z,e,z1,Nat.lt_of_lt_of_le z2 hb.size,z3,z4,fun j v hv=>(hb.cell (p:=⟨z,j,none⟩) z2).trans (z5 j v hv)⟩}
 {rw[(k i2 (Ne.symm n2)).1,(k i2 (Ne.symm n2)).2,(k i3 (Ne.symm n3)).1]; exact fun h1 h2=>Z0w (h.r2 h1 h2) hb}
 {rw[(k i3 (Ne.symm n3)).1,(k i3 (Ne.symm n3)).2]; exact fun h0 h1=>Z0w (h.r3 h0 h1) hb}
theorem CI.mk0 (hD:Dis i0 i1 i2 i3 ib) (hval:val i0=none):CI W0 val fin lA lB b i0 i1 i2 i3 ib (also d i0) (upd u i0 (.slice (some ⟨W.heap.size,0,none⟩) 0 0)) (W.alloc (.cells #[] 54)):=by
 obtain ⟨⟨d1,d2,d3,d4⟩,_,_,_⟩:=hD;have hb:=Z01 W (.cells #[] 54);have k: ∀j,j≠i0->also d i0 j=d j/\ ∀v,upd u i0 v j=u j:=fun j hj=>⟨Z08 d hj,fun v=>Z02 u v hj⟩;refine ⟨Z03 h.up hb,h.vals' (fun v' hv=>by rw[hval] at hv; cases hv), ?_, ?_, ?_, ?_, ?_⟩
 {intro _ _;rw[Z06];exact World.ownsRow_lit W #[] 0 h.up.size (by unfold maxLen; omega) rfl}
 {rw[(k i1 (Ne.symm d1)).1,(k i1 (Ne.symm d1)).2,(k i2 (Ne.symm d2)).1]; exact fun h1 h2=>Z0w (h.r1 h1 h2) hb}
 {rw[(k ib (Ne.symm d4)).1,(k ib (Ne.symm d4)).2,(k i2 (Ne.symm d2)).1,(k i1 (Ne.symm d1)).1,(k i1 (Ne.symm d1)).2,Z06];intro h1 h2;obtain ⟨z,e,z1,z2,z3,z4,z5⟩:=h.rb h1 h2;refine ⟨z,e,z1,Nat.lt_of_lt_of_le z2 hb.size,fun _ _ h=> ?_,z4,fun j v hv=>(hb.cell (p:=⟨z,j,none⟩) z2).trans (z5 j v hv)⟩;simp[Value.ownBlock] at h;omega}
 {rw[(k i2 (Ne.symm d2)).1,(k i2 (Ne.symm d2)).2,(k i3 (Ne.symm d3)).1]; exact fun h1 h2=>Z0w (h.r2 h1 h2) hb}
 {rw[(k i3 (Ne.symm d3)).1,(k i3 (Ne.symm d3)).2]; exact fun h0 h1=>Z0w (h.r3 h0 h1) hb}
theorem CI.mkb (hD:Dis i0 i1 i2 i3 ib) (hval:val ib=none):
 CI W0 val fin lA lB b i0 i1 i2 i3 ib (also d ib) (upd u ib (.slice (some ⟨W.heap.size,0,none⟩) 1 1)) (W.alloc (.cells #[.string ⟨b.1.of_.toArray⟩,.string ⟨b.1.name.toArray⟩,.int .i64 b.1.sh.kind,.string ⟨b.1.sh.of_.toArray⟩,.string ⟨b.1.sh.name.toArray⟩,.slice b.2.A b.1.sh.names.length b.2.c,.slice b.2.P b.1.sh.parts.length b.2.d] 54)):=by
 obtain ⟨⟨_,_,_,d4⟩,⟨_,_,e4⟩,⟨_,f4⟩,g4⟩:=hD;have hb:=Z01 W (.cells #[.string ⟨b.1.of_.toArray⟩,.string ⟨b.1.name.toArray⟩,.int .i64 b.1.sh.kind,.string ⟨b.1.sh.of_.toArray⟩,.string ⟨b.1.sh.name.toArray⟩,.slice b.2.A b.1.sh.names.length b.2.c,.slice b.2.P b.1.sh.parts.length b.2.d] 54);have k: ∀j,j≠ib->also d ib j=d j/\ ∀v,upd u ib v j=u j:=fun j hj=>⟨Z08 d hj,fun v=>Z02 u v hj⟩;refine ⟨Z03 h.up hb,h.vals' (fun v' hv=>by rw[hval] at hv; cases hv), ?_, ?_, ?_, ?_, ?_⟩
 {rw[(k i0 d4).1,(k i0 d4).2,(k i1 e4).1]; exact fun h1 h2=>Z0w (h.r0 h1 h2) hb}
 {rw[(k i1 e4).1,(k i1 e4).2,(k i2 f4).1]; exact fun h1 h2=>Z0w (h.r1 h1 h2) hb}
 {rw[(k i2 f4).1,(k i0 d4).1,(k i0 d4).2,(k i1 e4).1,(k i1 e4).2,Z06];intro _ h2;have hh:=h;refine ⟨W.heap.size,rfl,h.up.size,by simp,fun h0 h1 h=> ?_,fun h1 h=> ?_,fun j v hv=> ?_⟩
  {have:=(hh.r0 h0 h1).lt _ h; omega}
  {have:=(hh.r1 h1 h2).lt _ h; omega}
  {rcases j with _ | _ | _ | _ | _ | _ | _ | j <;> (simp[cells7] at hv; try (subst hv; simp[go_sem]))}}
 {rw[(k i2 f4).1,(k i2 f4).2,(k i3 g4).1]; exact fun h1 h2=>Z0w (h.r2 h1 h2) hb}
 {rw[(k i3 g4).1,(k i3 g4).2]; exact fun h0 h1=>Z0w (h.r3 h0 h1) hb}
theorem CI.ap1 (hD:Dis i0 i1 i2 i3 ib) (hval:val i1=none) (h0:d i0=true) (h1:d i1=false) (h2:d i2=false) (h3:d i3=false) {v:Value}
 (hown:W'.ownsRow W0.heap.size 54 7 v lA.length (cellsB lA)) (hg:W.grownBy W' (u i0).ownBlock) (hat:v.ownBlock=(u i0).ownBlock\/v.ownBlock=some W.heap.size):CI W0 val fin lA lB b i0 i1 i2 i3 ib (also d i1) (upd u i1 v) W':=by
 obtain ⟨⟨d1,_,_,_⟩,⟨e2,e3,e4⟩,_,_⟩:=hD;have hr:=h.r0 h0 h1;have k: ∀j,j≠i1->also d i1 j=d j/\upd u i1 v j=u j:=fun j hj=>⟨Z08 d hj,Z02 u v hj⟩;have hu:Upd (fun x=>(u i0).ownBlock=some x) W W':=(Upd.refl _ W).grown hg (fun k h _=>h);refine ⟨h.up.trans (hu.below h.up.size (fun x hx=>(hr.lt x hx).1)),h.vals' (fun v' hv=>by rw[hval] at hv; cases hv), ?_, ?_, ?_, ?_, ?_⟩
 {intro _ h; rw[Z0r] at h; cases h}
 {intro _ _; rw[Z06]; exact hown}
 {rw[(k ib (Ne.symm e4)).1,(k ib (Ne.symm e4)).2,Z0r,Z06,(k i2 (Ne.symm e2)).1];intro hb h2;obtain ⟨z,e,z1,z2,z3,_,z5⟩:=h.rb hb h2;have hz:=z3 h0 h1;have hz2:v.ownBlock≠some z:=fun h=>by
   rcases hat with ha | ha
   {exact hz (ha▸h)}
   {rw[ha] at h; cases h; omega}
  refine ⟨z,e,z1,Nat.lt_of_lt_of_le z2 hu.size, ?_,fun _=>hz2,fun j v hv=>(hu.cell z2 hz).trans (z5 j v hv)⟩;intro _ h;cases h}
 {rw[(k i2 (Ne.symm e2)).1,h2]; exact fun h=>by cases h}
 {rw[(k i3 (Ne.symm e3)).1,h3]; exact fun _ h=>by cases h}
theorem CI.ap2 (hD:Dis i0 i1 i2 i3 ib) (hval:val i2=none) (h1:d i1=true) (h2:d i2=false) (h3:d i3=false) {v:Value}
 (hown:W'.ownsRow W0.heap.size 54 7 v (lA.length+1) (cellsB (lA++ [b]))) (hg:W.grownBy W' (u i1).ownBlock):CI W0 val fin lA lB b i0 i1 i2 i3 ib (also d i2) (upd u i2 v) W':=by
 obtain ⟨⟨_,d2,_,_⟩,⟨e2,_,_⟩,⟨f3,f4⟩,_⟩:=hD;have hr:=h.r1 h1 h2;have k: ∀j,j≠i2->also d i2 j=d j/\upd u i2 v j=u j:=fun j hj=>⟨Z08 d hj,Z02 u v hj⟩;have hu:Upd (fun x=>(u i1).ownBlock=some x) W W':=(Upd.refl _ W).grown hg (fun k h _=>h);refine ⟨h.up.trans (hu.below h.up.size (fun x hx=>(hr.lt x hx).1)),h.vals' (fun v' hv=>by rw[hval] at hv; cases hv), ?_, ?_, ?_, ?_, ?_⟩
 {rw[(k i1 e2).1,h1]; exact fun _ h=>by cases h}
 {intro _ h; rw[Z0r] at h; cases h}
 {intro _ h; rw[Z0r] at h; cases h}
 {intro _ _; rw[Z06]; exact hown}
 {rw[(k i3 (Ne.symm f3)).1,h3]; exact fun _ h=>by cases h}
end
end
structure CJ (W0:World) (val:Nat->Option Value) (lA lB:List BE) (b:BE) (i0 i1 i2 ib:Nat) (d:Nat->Bool) (u:Nat->Value) (W:World):Prop where
 ci:CI W0 val true lA lB b i0 i1 i2 11 ib d u W
 al:d 12=true->u 12=u 11
section
variable {W0 W W' : World} {val : Nat -> Option Value} {lA lB : List BE} {b : BE} {i0 i1 i2 ib : Nat} {d : Nat -> Bool} {u : Nat -> Value}
theorem CJ.start {u:Nat->Value}:CJ W0 val lA lB b i0 i1 i2 ib (fun _=>false) u W0.drew:=⟨CI.start,nofun⟩
theorem CJ.on (h:CJ W0 val lA lB b i0 i1 i2 ib d u W) {i:Nat} {v:Value} (hi:i≠11/\i≠12) (hc:CI W0 val true lA lB b i0 i1 i2 11 ib (also d i) (upd u i v) W'):CJ W0 val lA lB b i0 i1 i2 ib (also d i) (upd u i v) W':=
 ⟨hc,by rw[Z08 d (Ne.symm hi.2),Z02 u v (Ne.symm hi.1),Z02 u v (Ne.symm hi.2)]; exact h.al⟩
end
theorem Z21 {W:World} {B e s n:Nat} {v:Value} {xs:List Value} (h:W.ownsRow B e s v n xs) (hn:0 < n): ∃g c,v= .slice (some ⟨g,0,none⟩) n c:=by
 rcases h.2 with ⟨_,h2⟩ | ⟨g,cap,cur,hv,_⟩
 {omega}
 {exact ⟨g,cap,hv⟩}
end SubM
end Go.Proofs.YtmeiijjpomcgcaaDoor
