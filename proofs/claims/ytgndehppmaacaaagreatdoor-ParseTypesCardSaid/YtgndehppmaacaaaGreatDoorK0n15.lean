/- What the proofs of ParseTypes want, part 15. -/
import Derived.Test.YtgndehppmaacaaaGreatDoorK0n14
set_option linter.unusedVariables false
set_option linter.unusedSimpArgs false
set_option linter.unusedSectionVars false
set_option maxRecDepth 100000
set_option maxHeartbeats 16000000
namespace Go.Proofs.YtgndehppmaacaaaGreatDoor
section
open Go.RowKit Tms
open Shp (Sh)
open Pso (St Ok Goes betw loop want)
theorem Znb (bp:Nat) (A:Option Addr) (c:Nat) (l:List Tk) (m:Nat) (σ:St) (a:Int) (C:TokOk l) (E: -9223372036854775808<=a/\a<=9223372036854775807) (g:Ok l σ) (k:ExC bp A c l m) (hm:l.length - σ.1 < m+1) (w:World) (h:PAt w bp A c l σ):
 Calls Tryz.prog 140 #[.pointer (some ⟨bp,0,none⟩),.int .i64 a] w (TmIs bp A c l (Pso.atomE l (Pso.expr l m) σ a) w):=by
 have z:=h.lt;have b:=C.len;have hb0:=Z01 w (.cells Ya 40);have f:=Y1 (h.below hb0);have s:=Y1 hb0;have d:=Y1 (UpT.refl [bp] (w.alloc (.cells Ya 40)));have y:=Y1 (ZcP w (.int .i64 0) (.string ⟨#[]⟩) (.string ⟨#[]⟩) (.int .i64 0) (.slice none 0 0) (.slice none 0 0) (.slice none 0 0) (.slice none 0 0) (.int .i64 0) 40);have i:=Y1 C;have r:=Y1 E;have G:=Y1 k;have J:=ZkI (Prs.look l σ.1).t.kind ⟨(Prs.look l σ.1).t.text.toArray⟩ (Prs.look l σ.1).at_;clear h hb0 C E k;go_enter Tryz.func140,Tryz.ntmps140
 go_wp2_with fail
 have p:Prs.sign l σ.1 [116,114,117,101]=false:=(Z04 i.out.mild _).2 _ (by decide);refine (hidC (Zd5 p b g.1 _ f.out) d).mono ?_;rintro e W ⟨rfl,f,d⟩
 go_wp2_with fail
 have q:Prs.sign l σ.1 [102,97,108,115,101]=false:=(Z04 i.out.mild _).2 _ (by decide);refine (hidC (Zd5 q b g.1 _ f.out) d).mono ?_;rintro e W ⟨rfl,f,d⟩
 go_wp2_with fail
 rcases Bool.eq_false_or_eq_true (Prs.sign l σ.1 [40]) with j | j
 rotate_left
 refine (hidC (Zd5 j b g.1 _ f.out) d).mono ?_;rintro e W ⟨rfl,f,d⟩
 go_wp2_with fail
 have s3:Prs.sign l σ.1 [123]=false:=(Z04 i.out.mild _).2 _ (by decide);refine (hidC (Zdc s3 b g.1 _ f.out) d).mono ?_;rintro e W ⟨rfl,f,d⟩
 go_wp2_with fail
 have s4:Prs.sign l σ.1 [64]=false:=(Z04 i.out.mild _).2 _ (by decide);refine (hidC (Zd5 s4 b g.1 _ f.out) d).mono ?_;rintro e W ⟨rfl,f,d⟩
 go_wp2_with fail
 have s5:Prs.sign l σ.1 [110,101,119]=false:=(Z04 i.out.mild _).2 _ (by decide);refine (hidC (Zd5 s5 b g.1 _ f.out) d).mono ?_;rintro e W ⟨rfl,f,d⟩
 go_wp2_with fail
 have s6:Prs.sign l σ.1 [114,97,119]=false:=(Z04 i.out.mild _).2 _ (by decide);refine (hidC (Zd5 s6 b g.1 _ f.out) d).mono ?_;rintro e W ⟨rfl,f,d⟩
 go_wp2_with fail
 refine (hidC (ZdZ b g.1 _ f.out) d).mono ?_;rintro e W ⟨rfl,f,d⟩;by_cases o: (Prs.look l σ.1).t.kind=3;have t:Hid (Pso.atomE l (Pso.expr l m) σ a=({ Prs.tm 1 a with n:=Prs.num (Pso.textOf l σ 3 Lex.number).1 0 },(Pso.textOf l σ 3 Lex.number).2)):=Y1 (by unfold Pso.atomE; simp only; rw[if_neg (by rw[p]; simp),if_neg (by rw[q]; simp),if_neg (by rw[j]; simp),if_neg (by rw[s3]; simp),if_neg (by rw[s4]; simp),if_neg (by rw[s5]; simp),if_neg (by rw[s6]; simp),if_pos o]);have B: ((Prs.look l σ.1).t.kind==3)=true:=by simpa using o
 clear o
 rotate_left
 have B: ((Prs.look l σ.1).t.kind==3)=false:=by simpa using o
 have I:=Y1 o;clear o
 go_wp2_with fail
 refine (hidC (ZdZ b g.1 _ f.out) d).mono ?_;rintro e W ⟨rfl,f,d⟩;have D: ¬(Prs.look l σ.1).t.kind=4:=(Z04 i.out.mild _).1;have t:Hid (Pso.atomE l (Pso.expr l m) σ a=Pso.valueE l σ a):=Y1 (by unfold Pso.atomE; simp only; rw[if_neg (by rw[p]; simp),if_neg (by rw[q]; simp),if_neg (by rw[j]; simp),if_neg (by rw[s3]; simp),if_neg (by rw[s4]; simp),if_neg (by rw[s5]; simp),if_neg (by rw[s6]; simp),if_neg I.out,if_neg D]);have K: ((Prs.look l σ.1).t.kind==4)=false:=by simpa using D
 clear D
 go_wp2_with fail
 refine (hidT (w.heap.size+1) (ZlN bp A c l σ a i.out r.out g _ f.out) d (by simp)).mono ?_
 rotate_left
 have t:Hid (Pso.atomE l (Pso.expr l m) σ a=Pso.enclosedE l (Pso.expr l m) (σ.1+1,σ.2) a):=Y1 (by unfold Pso.atomE; simp only; rw[if_neg (by rw[p]; simp),if_neg (by rw[q]; simp),if_pos j]);refine (hidC (ZcZ j b g.1 _ f.out) d).mono ?_;rintro e W ⟨rfl,f,d⟩;have Y:=(Pso.to_next g (Pso.sign_lt j)).1
 go_wp2_with fail
 refine (hidT (w.heap.size+1) (ZiL bp A c l m (σ.1+1,σ.2) a i.out r.out Y G.out (by have:=Pso.sign_lt j; simp only; omega) _ f.out) d (by simp)).mono ?_
 rotate_left
 go_wp2_with fail
 refine (hidT (w.heap.size+1) (Zku bp A c l σ a i.out r.out g _ f.out) d (by simp)).mono ?_
 rotate_left
 all_goals
  rintro e W ⟨x,rfl,f,d,H,L,u⟩;simp only[valT];obtain ⟨M,N,O,P,Q,S,T,U,V,Z,f1,f2,f3,f4,f5,f6,f7,f8,X⟩:=y.out.upf d.out (by simp; omega);go_wp2;refine bodyPost_ret (v:=valT x) (by simp[results,Tryz.results140,go_sem,valT,M,N,O,P,Q,S,T,U,V,X]) rfl ?_;have k:=end9 f.out ((ZcF (F:= [bp]) s.out).trans d.out) H.out (rb:=w.heap.size) (Nat.le_refl _) (Or.inl (by omega)) z;rw[t.out];exact ⟨x,rfl,(k _ _ _ _ _ _ _ _ _).1,(k _ _ _ _ _ _ _ _ _).2.1,(k _ _ _ _ _ _ _ _ _).2.2,by omega,u.out⟩
end
section
open Go.RowKit Tms
open Shp (Sh)
open Pso (St)
def oC0 (pos:String) (b s:Nat):Oper:=
 { dst:=some b,op:= .load 38 (.tmp s),type:=38,pos:=pos,after:=#[],guard:=none }
def oC1 (pos:String) (b p:Nat):Oper:=
 { dst:=some (b+1),op:= .load 52 (.tmp p),type:=52,pos:=pos,after:=#[],guard:=none }
def oC2 (pos:String) (b fn:Nat):Oper:=
 { dst:=some (b+2),op:= .call { callee:= .value (.func fn),args:=#[.tmp (b+1)],argTypes:=#[52] },type:=40,pos:=pos,after:=#[{ on:=1,ground:= .data }],guard:=none }
def oC3 (pos:String) (b:Nat):Oper:=
 { dst:=some (b+3),op:= .call { callee:= .builtin .len,args:=#[.tmp b],argTypes:=#[38] },type:=3,pos:=pos,after:=#[{ on:=0,ground:= .data }],guard:=none }
def oC4 (pos:String) (b:Nat):Oper:=
 { dst:=some (b+4),op:= .buildSlice 38 1 #[(0,.const (.agg #[.int .i64 0,.string ⟨#[]⟩,.string ⟨#[]⟩,.int .i64 0,.slice none 0 0,.slice none 0 0,.slice none 0 0,.slice none 0 0,.int .i64 0]))],type:=38,pos:=pos,after:=#[],guard:=none }
def oC5 (pos:String) (b:Nat):Oper:=
 { dst:=some (b+5),op:= .call { callee:= .builtin .append,args:=#[.tmp b,.tmp (b+4)],argTypes:=#[38,38] },type:=38,pos:=pos,after:=#[{ on:=0,ground:= .data },{ on:=4,ground:= .data },{ on:=2,ground:= .chain },{ on:=0,ground:= .phase },{ on:=1,ground:= .phase },{ on:=2,ground:= .phase },{ on:=3,ground:= .phase },{ on:=4,ground:= .phase }],guard:=none }
def oC6 (pos:String) (b:Nat):Oper:=
 { dst:=some (b+6),op:= .indexAddr 38 (.tmp (b+5)) (.tmp (b+3)),type:=0,pos:=pos,after:=#[{ on:=5,ground:= .data },{ on:=3,ground:= .data },{ on:=0,ground:= .phase },{ on:=1,ground:= .phase },{ on:=2,ground:= .phase },{ on:=3,ground:= .phase },{ on:=4,ground:= .phase },{ on:=5,ground:= .phase },{ on:=8,ground:= .gcOnly .appendInPlace }],guard:=none }
def oC7 (pos:String) (b:Nat):Oper:=
 { dst:=none,op:= .store 40 (.tmp (b+6)) (.tmp (b+2)),type:=0,pos:=pos,after:=#[{ on:=6,ground:= .data },{ on:=2,ground:= .data },{ on:=5,ground:= .chain },{ on:=0,ground:= .phase },{ on:=1,ground:= .phase },{ on:=2,ground:= .phase },{ on:=3,ground:= .phase },{ on:=4,ground:= .phase },{ on:=5,ground:= .phase },{ on:=8,ground:= .gcOnly .appendInPlace }],guard:=none }
def oC8 (pos:String) (b s:Nat):Oper:=
 { dst:=none,op:= .store 38 (.tmp s) (.tmp (b+5)),type:=0,pos:=pos,after:=#[{ on:=5,ground:= .data },{ on:=5,ground:= .chain },{ on:=7,ground:= .textOnly .appendInPlace },{ on:=0,ground:= .phase },{ on:=1,ground:= .phase },{ on:=2,ground:= .phase },{ on:=3,ground:= .phase },{ on:=4,ground:= .phase },{ on:=5,ground:= .phase },{ on:=6,ground:= .textOnly .appendInPlace },{ on:=7,ground:= .textOnly .appendInPlace }],guard:=none }
def opsC (pos:String) (b s p fn:Nat):Array Oper:=
 #[oC0 pos b s,oC1 pos b p,oC2 pos b fn,oC3 pos b,oC4 pos b,oC5 pos b,oC6 pos b,oC7 pos b,oC8 pos b s]
structure CtxC where
 w:World
 bp:Nat
 A:Option Addr
 c:Nat
 l:List Tk
 τ:St
 ob:Nat
 fo:Nat
 B:Nat
 AR:Option Addr
 cap:Nat
 xs:List ET
 R:ET->Prop
namespace CtxC
variable (X : CtxC)
def val (j:Nat):Option Value:=match j with
 | 0=>some (.slice X.AR X.xs.length X.cap)
 | 1=>some (.pointer (some ⟨X.bp,0,none⟩))
 | 3=>some (.int .i64 (X.xs.length:Int))
 | _=>none
structure Good:Prop where
 cell:X.w.cell? ⟨X.ob,X.fo,none⟩=some (.slice X.AR X.xs.length X.cap)
 fz:X.w.frozen? ⟨X.ob,X.fo,none⟩=false
 oblt:X.ob < X.w.heap.size
 bpob:X.bp < X.ob
 row:Row X.w X.B 40 9 cT X.AR X.cap X.xs
 obr:rowT X.AR≠some X.ob
 bpB:X.bp < X.B
 Bw:X.B<=X.w.heap.size
 len:X.xs.length<=900000
structure Pre (d:Nat->Bool) (u:Nat->Value) (W:World):Prop where
 up:UpT [X.bp] X.w W
 b3:d 2=false->Below X.w.heap.size X.w W
 a3:d 2=true-> ∃x:ET,u 2=valT x/\PAt W X.bp X.A X.c X.l X.τ/\x.Is W/\X.w.heap.size<=x.lo/\X.R x
 a5:d 4=true-> ∃z0,u 4= .slice (some ⟨z0,0,none⟩) 1 1/\X.w.heap.size<=z0/\z0 < W.heap.size/\ ∀(j:Nat) v,zerosT[j]? =some v->W.cell? ⟨z0,j,none⟩=some v
structure PostX (d:Nat->Bool) (u:Nat->Value) (W:World) (x:ET) (g cp:Nat):Prop where
 u3:u 2=valT x
 u6:u 5= .slice (some ⟨g,0,none⟩) (X.xs.length+1) cp
 u7:d 6=true->u 6= .pointer (some ⟨g,X.xs.length * 9,none⟩)
 par:PAt W X.bp X.A X.c X.l X.τ
 is:x.Is W
 r:X.R x
 lo:X.w.heap.size<=x.lo
 far:g < x.lo\/x.hi<=g
 new:rowT X.AR=some g\/X.w.heap.size<=g
 up:UpT (X.bp::X.ob::(rowT X.AR).toList) X.w W
 row:W.ownsRow X.B 40 9 (.slice (some ⟨g,0,none⟩) (X.xs.length+1) cp) (X.xs.length+1) (X.xs.flatMap cT++if d 7=true then cT x else zerosT)
 cell:W.cell? ⟨X.ob,X.fo,none⟩=some (if d 8=true then .slice (some ⟨g,0,none⟩) (X.xs.length+1) cp else .slice X.AR X.xs.length X.cap)
 rest: ∀j,j≠X.fo->W.cell? ⟨X.ob,j,none⟩=X.w.cell? ⟨X.ob,j,none⟩
 fz: ∀j,W.frozen? ⟨X.ob,j,none⟩=X.w.frozen? ⟨X.ob,j,none⟩
structure Inv (d:Nat->Bool) (u:Nat->Value) (W:World):Prop where
 vals: ∀j,d j=true-> ∀v,X.val j=some v->u j=v
 e6:d 5=true-> ∀k,k < 5->d k=true
 e7:d 6=true->d 5=true
 e8:d 7=true->d 5=true
 e10:d 8=true->d 5=true
 pre:d 5=false->X.Pre d u W
 post:d 5=true-> ∃x g cp,X.PostX d u W x g cp
variable {X : CtxC} {d : Nat -> Bool} {u : Nat -> Value} {W W' : World}
theorem Good.obne (h:X.Good):X.ob≠X.bp:=by have:=h.bpob; omega
theorem Good.start (h:X.Good):X.Inv (fun _=>false) u X.w.drew:=
 ⟨nofun,nofun,nofun,nofun,nofun,fun _=>⟨(UpT.refl _ _).drew,fun _=>Y2.drew,nofun,nofun⟩,nofun⟩
theorem mono9 {d:Nat->Bool} (i:Nat) {k:Nat} (h:d k=true):also d i k=true:=by
 by_cases e:k=i
 {subst e; unfold also; rw[Nat.beq_refl]; rfl}
 {unfold also;have:Nat.beq k i=false:=by cases a:Nat.beq k i <;> first | rfl | exact absurd (Nat.eq_of_beq_eq_true a) e
  rw[this]; exact h}
theorem ne9 (d:Nat->Bool) {i j:Nat} (h:j≠i):also d i j=d j:=by
 unfold also;have:Nat.beq j i=false:=by cases a:Nat.beq j i <;> first | rfl | exact absurd (Nat.eq_of_beq_eq_true a) h
 rw[this]; rfl
theorem self9 (d:Nat->Bool) (i:Nat):also d i i=true:=by unfold also; rw[Nat.beq_refl]; rfl
section
variable (h : X.Inv d u W) {i : Nat}
include h i
theorem Inv.vals' {v:Value} (b: ∀v',X.val i=some v'->v=v'): ∀j,also d i j=true-> ∀v',X.val j=some v'->upd u i v j=v':=fun j hj v' hv'=>by
 by_cases a:j=i
 {subst a; rw[Z06]; exact b v' hv'}
 {rw[ne9 d a] at hj; rw[Z02 u v a]; exact h.vals j hj v' hv'}
theorem Inv.pure (f:i=0\/i=1\/i=3) {v:Value} (e: ∀v',X.val i=some v'->v=v'):X.Inv (also d i) (upd u i v) W:=by
 have k: ∀j,j=2\/j=4\/j=5\/j=6\/j=7\/j=8->also d i j=d j/\upd u i v j=u j:=fun j hj=>⟨ne9 d (by omega),Z02 u v (by omega)⟩;refine ⟨h.vals' e, ?_, ?_, ?_, ?_, ?_, ?_⟩
 {rw[(k 5 (by omega)).1]; exact fun c k hk=>mono9 i (h.e6 c k hk)}
 {rw[(k 6 (by omega)).1,(k 5 (by omega)).1]; exact h.e7}
 {rw[(k 7 (by omega)).1,(k 5 (by omega)).1]; exact h.e8}
 {rw[(k 8 (by omega)).1,(k 5 (by omega)).1]; exact h.e10}
 {rw[(k 5 (by omega)).1];intro c;obtain ⟨a,b,c3,c5⟩:=h.pre c;refine ⟨a, ?_, ?_, ?_⟩
  {rw[(k 2 (by omega)).1]; exact b}
  {rw[(k 2 (by omega)).1,(k 2 (by omega)).2]; exact c3}
  {rw[(k 4 (by omega)).1,(k 4 (by omega)).2]; exact c5}}
 {rw[(k 5 (by omega)).1];intro c;obtain ⟨x,g,cp,p⟩:=h.post c;refine ⟨x,g,cp, ?_, ?_, ?_,p.par,p.is,p.r,p.lo,p.far,p.new,p.up, ?_, ?_,p.rest,p.fz⟩
  {rw[(k 2 (by omega)).2]; exact p.u3}
  {rw[(k 5 (by omega)).2]; exact p.u6}
  {rw[(k 6 (by omega)).1,(k 6 (by omega)).2]; exact p.u7}
  {rw[(k 7 (by omega)).1]; exact p.row}
  {rw[(k 8 (by omega)).1]; exact p.cell}}
theorem Inv.early (c:i < 5) (b:d i=false):d 5=false:=by
 cases a:d 5 with
 | false=>rfl
 | true=>have:=h.e6 a i c; rw[b] at this; cases this
theorem Inv.first (b:i < 5) (a:d i=false):UpT [X.bp] X.w W:=(h.pre (h.early b a)).up
end
theorem Inv.cell (h:X.Inv d u W) (a:X.Good) {i:Nat} (e:i < 5) (c:d i=false):W.cell? ⟨X.ob,X.fo,none⟩=some (.slice X.AR X.xs.length X.cap)/\X.ob < W.heap.size:=by
 have b:=h.first e c;exact ⟨((b.same a.oblt (by simp[a.obne])).1 _).trans a.cell,Nat.lt_of_lt_of_le a.oblt b.size⟩
section
variable (h : X.Inv d u W)
include h
theorem Inv.s3 (n:d 2=false) {x:ET} (p:PAt W' X.bp X.A X.c X.l X.τ) (f:UpT [X.bp] W W') (t:x.Is W') (o:W.heap.size<=x.lo) (q:X.R x) (i:X.Good):X.Inv (also d 2) (upd u 2 (valT x)) W':=by
 have c:=h.early (by omega) n;obtain ⟨a,b,c3,c5⟩:=h.pre c;have k: ∀j,j≠2->also d 2 j=d j/\upd u 2 (valT x) j=u j:=fun j hj=>⟨ne9 d hj,Z02 u _ hj⟩;refine ⟨h.vals' (by intro A g; cases g), ?_, ?_, ?_, ?_, ?_, ?_⟩
 {rw[(k 5 (by omega)).1,c]; intro e; cases e}
 {rw[(k 6 (by omega)).1,(k 5 (by omega)).1]; exact h.e7}
 {rw[(k 7 (by omega)).1,(k 5 (by omega)).1]; exact h.e8}
 {rw[(k 8 (by omega)).1,(k 5 (by omega)).1]; exact h.e10}
 {intro _;have s:=a.size;refine ⟨a.trans f, ?_,fun _=>⟨x,Z06 _ _ _,p,t,by omega,q⟩, ?_⟩
  {rw[self9]; intro e; cases e}
  {rw[(k 4 (by omega)).1,(k 4 (by omega)).2];intro m;obtain ⟨w,e1,e2,e3,l⟩:=c5 m;have y:=i.bpB;have z:=i.Bw;have r:=f.same e3 (by simp; omega);exact ⟨w,e1,e2,Nat.lt_of_lt_of_le e3 f.size,fun j v hv=>(r.1 j).trans (l j v hv)⟩}}
 {rw[(k 5 (by omega)).1,c]; intro e; cases e}
theorem Inv.s5 (m:d 4=false) (n:X.Good) (t:TypeId):X.Inv (also d 4) (upd u 4 (.slice (some ⟨W.heap.size,0,none⟩) 1 1)) (W.alloc (.cells Ya t)):=by
 have f:=h.early (by omega) m;obtain ⟨a,b,c3,c5⟩:=h.pre f;have k: ∀j,j≠4->also d 4 j=d j/\upd u 4 (.slice (some ⟨W.heap.size,0,none⟩) 1 1) j=u j:=fun j hj=>⟨ne9 d hj,Z02 u _ hj⟩;have c:=Z01 W (.cells Ya t);refine ⟨h.vals' (by intro o g; cases g), ?_, ?_, ?_, ?_, ?_, ?_⟩
 {rw[(k 5 (by omega)).1,f]; intro e; cases e}
 {rw[(k 6 (by omega)).1,(k 5 (by omega)).1]; exact h.e7}
 {rw[(k 7 (by omega)).1,(k 5 (by omega)).1]; exact h.e8}
 {rw[(k 8 (by omega)).1,(k 5 (by omega)).1]; exact h.e10}
 {intro _;refine ⟨a.below c, ?_, ?_,fun _=>⟨W.heap.size,Z06 _ _ _,a.size,by simp,fun j v hv=> ?_⟩⟩
  {rw[(k 2 (by omega)).1]; exact fun e=>Z03 (b e) c}
  {rw[(k 2 (by omega)).1,(k 2 (by omega)).2];intro l;obtain ⟨x,e1,e2,e3,e4,i⟩:=c3 l;exact ⟨x,e1,e2.below c,New.below e3 c,e4,i⟩}
  {rw[World.cell?_alloc_at _ _ _ _ rfl];simpa[zerosT] using hv}}
 {rw[(k 5 (by omega)).1,f]; intro e; cases e}
theorem Inv.s6 (o:d 5=false) (w: ∀k,k < 5->d k=true) {g cp:Nat} (f:X.Good) (n:W'.ownsRow X.B 40 9 (.slice (some ⟨g,0,none⟩) (X.xs.length+1) cp) (X.xs.length+1) (X.xs.flatMap cT++zerosT))
 (l:W.grownBy W' (rowT X.AR)) (m:rowT X.AR=some g\/g=W.heap.size):X.Inv (also d 5) (upd u 5 (.slice (some ⟨g,0,none⟩) (X.xs.length+1) cp)) W':=by
 obtain ⟨a,b,c3,c5⟩:=h.pre o;obtain ⟨x,B,C,v,D,E⟩:=c3 (w 2 (by omega));have k: ∀j,j≠5->also d 5 j=d j/\upd u 5 (.slice (some ⟨g,0,none⟩) (X.xs.length+1) cp) j=u j:=fun j hj=>⟨ne9 d hj,Z02 u _ hj⟩;have z:d 6=false:=by cases e:d 6 with | false=>rfl | true=>have:=h.e7 e; rw[o] at this; cases this
 have A:d 7=false:=by cases e:d 7 with | false=>rfl | true=>have:=h.e8 e; rw[o] at this; cases this
 have p:d 8=false:=by cases e:d 8 with | false=>rfl | true=>have:=h.e10 e; rw[o] at this; cases this
 have r:=a.size;have i: ∀k,rowT X.AR=some k->X.B<=k/\k < X.w.heap.size:=fun k hk=>f.row.lt k hk;have F:=f.Bw;have t:UpT (rowT X.AR).toList W W':=⟨l.os,l.tape,l.output,l.size,fun x c h2=>l.block x c (fun e=>h2 (by rw[<-e]; simp))⟩;have q:SameT X.w W' X.ob:=(a.same f.oblt (by simp[f.obne])).trans (t.same (Nat.lt_of_lt_of_le f.oblt r) (by
  intro G;have c:rowT X.AR=some X.ob:=by simpa using G
  exact f.obr c))
 refine ⟨h.vals' (by intro H s; cases s),fun _ j hj=>mono9 5 (w j hj), ?_, ?_, ?_, ?_, ?_⟩
 {intro _; exact self9 _ _}
 {intro _; exact self9 _ _}
 {intro _; exact self9 _ _}
 {rw[self9]; intro e; cases e}
 {intro _;refine ⟨x,g,cp, ?_,Z06 _ _ _, ?_,C.keep t (fun k hk=> ?_),New.grown v l (fun k hk=>Or.inl ?_),E,D, ?_, ?_, ?_, ?_, ?_,fun j hj=>q.1 j,fun j=>q.2 j⟩
  {rw[(k 2 (by omega)).2]; exact B}
  {rw[(k 6 (by omega)).1,z]; intro e; cases e}
  {have c:rowT X.AR=some k:=by simpa using hk
   have:=i _ c; have:=f.bpB; omega}
  {have:=i _ hk; omega}
  {rcases m with c | c
   {left; have:=i _ c; omega}
   {right; have:=v.hi_; omega}}
  {rcases m with c | c
   {exact Or.inl c}
   {exact Or.inr (by omega)}}
  {exact (a.mono (fun y hy _=>by simp at hy; simp[hy])).trans (t.mono (fun y hy _=>by simp at hy; simp[hy]))}
  {rw[(k 7 (by omega)).1,A]; simpa using n}
  {rw[(k 8 (by omega)).1,p]; exact (q.1 _).trans f.cell}}
theorem Inv.s7 (a:d 5=true) {v:Value} (c: ∀x g cp,X.PostX d u W x g cp->v= .pointer (some ⟨g,X.xs.length * 9,none⟩)):X.Inv (also d 6) (upd u 6 v) W:=by
 have k: ∀j,j≠6->also d 6 j=d j/\upd u 6 v j=u j:=fun j hj=>⟨ne9 d hj,Z02 u _ hj⟩;refine ⟨h.vals' (by intro f b; cases b), ?_, ?_, ?_, ?_, ?_, ?_⟩
 {rw[(k 5 (by omega)).1]; exact fun a j hj=>mono9 6 (h.e6 a j hj)}
 {rw[(k 5 (by omega)).1]; exact fun _=>a}
 {rw[(k 7 (by omega)).1,(k 5 (by omega)).1]; exact h.e8}
 {rw[(k 8 (by omega)).1,(k 5 (by omega)).1]; exact h.e10}
 {rw[(k 5 (by omega)).1,a]; intro e; cases e}
 {intro _;obtain ⟨x,g,cp,p⟩:=h.post a;refine ⟨x,g,cp, ?_, ?_,fun _=> ?_,p.par,p.is,p.r,p.lo,p.far,p.new,p.up, ?_, ?_,p.rest,p.fz⟩
  {rw[(k 2 (by omega)).2]; exact p.u3}
  {rw[(k 5 (by omega)).2]; exact p.u6}
  {rw[Z06]; exact c x g cp p}
  {rw[(k 7 (by omega)).1]; exact p.row}
  {rw[(k 8 (by omega)).1]; exact p.cell}}
end
theorem grown_trans9 {a b c:World} {r:Option Nat} (h:a.grownBy b r) (k:b.grownBy c r):a.grownBy c r:=
 ⟨k.os.trans h.os,k.tape.trans h.tape,k.output.trans h.output,Nat.le_trans h.size k.size,fun i hi hn=>(k.block i (Nat.lt_of_lt_of_le hi h.size) hn).trans (h.block i hi hn)⟩
def putT (W:World) (g i:Nat) (x:ET):World:=(((((((((W).setCell ⟨g,i+0,none⟩ (.int .i64 x.t.kind)).setCell ⟨g,i+1,none⟩ (.string ⟨x.t.of_.toArray⟩)).setCell ⟨g,i+2,none⟩ (.string ⟨x.t.name.toArray⟩)).setCell ⟨g,i+3,none⟩ (.int .i64 x.t.n)).setCell ⟨g,i+4,none⟩ (.slice x.q.A x.t.names.length x.q.c)).setCell ⟨g,i+5,none⟩ (.slice x.q.V x.t.vars.length x.q.e)).setCell ⟨g,i+6,none⟩ (.slice x.q.S x.t.shapes.length x.q.s)).setCell ⟨g,i+7,none⟩ (.slice x.q.P x.t.parts.length x.q.d)).setCell ⟨g,i+8,none⟩ (.int .i64 x.t.at_)
section
variable (x : ET) {g cp n B : Nat} {ys : List Value} (hn : ys.length = n * 9) (h : W.ownsRow B 40 9 (.slice (some ⟨g, 0, none⟩) (n + 1) cp) (n + 1) (ys ++ zerosT))
include x g cp n B ys hn h
theorem put_row:
 (putT W g (n * 9) x).ownsRow B 40 9 (.slice (some ⟨g,0,none⟩) (n+1) cp) (n+1) (ys++cT x)/\W.grownBy (putT W g (n * 9) x) (some g):=by
 obtain ⟨q,c⟩:=World.ownsRow.stored h (n * 9+0) (.int .i64 x.t.kind);obtain ⟨r,e⟩:=World.ownsRow.stored q (n * 9+1) (.string ⟨x.t.of_.toArray⟩);obtain ⟨s,f⟩:=World.ownsRow.stored r (n * 9+2) (.string ⟨x.t.name.toArray⟩);obtain ⟨t,i⟩:=World.ownsRow.stored s (n * 9+3) (.int .i64 x.t.n);obtain ⟨w,j⟩:=World.ownsRow.stored t (n * 9+4) (.slice x.q.A x.t.names.length x.q.c);obtain ⟨y,l⟩:=World.ownsRow.stored w (n * 9+5) (.slice x.q.V x.t.vars.length x.q.e);obtain ⟨z,m⟩:=World.ownsRow.stored y (n * 9+6) (.slice x.q.S x.t.shapes.length x.q.s);obtain ⟨A,o⟩:=World.ownsRow.stored z (n * 9+7) (.slice x.q.P x.t.parts.length x.q.d);obtain ⟨b,p⟩:=World.ownsRow.stored A (n * 9+8) (.int .i64 x.t.at_);refine ⟨?_,(grown_trans9 (grown_trans9 (grown_trans9 (grown_trans9 (grown_trans9 (grown_trans9 (grown_trans9 (grown_trans9 c e) f) i) j) l) m) o) p)⟩;have a: ∀(zs:List Value) (k:Nat) (v:Value),(ys++zs).set (n * 9+k) v=ys++zs.set k v:=fun zs k v=>by rw[<-hn,List.set_append_right _ _ (by omega),Nat.add_sub_cancel_left]
 rw[a,a,a,a,a,a,a,a,a] at b;exact b
theorem put_zero (k:Nat) (c:k < 9): ∃v,W.cell? ⟨g,n * 9+k,none⟩=some v/\W.frozen? ⟨g,n * 9+k,none⟩=false:=by
 have a:=h.cellAt (n * 9+k) (by rw[Nat.add_mul]; omega);rw[List.getElem?_append_right (by omega),hn,Nat.add_sub_cancel_left] at a;have b:k < zerosT.length:=c;rw[List.getElem?_eq_getElem b] at a;exact ⟨_,a,h.frozenAt _⟩
end
theorem Inv.s8 (h:X.Inv d u W) (z:d 7=false) (l:d 5=true) (c:X.Good) {x:ET} {g cp:Nat} (p:X.PostX d u W x g cp) (v:Value):X.Inv (also d 7) (upd u 7 v) (putT W g (X.xs.length * 9) x):=by
 have k: ∀j,j≠7->also d 7 j=d j/\upd u 7 v j=u j:=fun j hj=>⟨ne9 d hj,Z02 u _ hj⟩;have b:=p.row;rw[z] at b;simp only[Bool.false_eq_true,if_false] at b;obtain ⟨m,a⟩:=put_row x (by rw[ZbH Zfm]) b;have A:X.B<=g/\g < W.heap.size:=b.lt g rfl;have t:=c.bpB;have C:X.ob≠g:=by
  rcases p.new with q | q
  {intro e; exact c.obr (e▸q)}
  {have:=c.oblt; omega}
 have r:=c.oblt;have B:=p.lo;have s:=c.Bw;have f:SameT W (putT W g (X.xs.length * 9) x) X.ob:=⟨fun j=>World.cell?_of_block (w:=W) (a.block X.ob (Nat.lt_of_lt_of_le c.oblt p.up.size) (fun e=>by have:=Option.some.inj e; omega)),fun j=>World.frozen?_of_block (w:=W) (a.block X.ob (Nat.lt_of_lt_of_le c.oblt p.up.size) (fun e=>by have:=Option.some.inj e; omega))⟩;refine ⟨h.vals' (by intro D n; cases n), ?_, ?_, ?_, ?_, ?_, ?_⟩
 {rw[(k 5 (by omega)).1]; exact fun l j hj=>mono9 7 (h.e6 l j hj)}
 {rw[(k 6 (by omega)).1,(k 5 (by omega)).1]; exact h.e7}
 {rw[(k 5 (by omega)).1]; exact fun _=>l}
 {rw[(k 8 (by omega)).1,(k 5 (by omega)).1]; exact h.e10}
 {rw[(k 5 (by omega)).1,l]; intro e; cases e}
 {intro _;refine ⟨x,g,cp, ?_, ?_, ?_, ?_,New.grown p.is a (fun j hj=> ?_),p.r,p.lo,p.far,p.new, ?_, ?_, ?_,fun j hj=>(f.1 j).trans (p.rest j hj),fun j=>(f.2 j).trans (p.fz j)⟩
  {rw[(k 2 (by omega)).2]; exact p.u3}
  {rw[(k 5 (by omega)).2]; exact p.u6}
  {rw[(k 6 (by omega)).1,(k 6 (by omega)).2]; exact p.u7}
  {refine p.par.keep (F:= [g]) ⟨a.os,a.tape,a.output,a.size,fun y h1 h2=>a.block y h1 (fun e=>h2 (by rw[Option.some.inj e]; simp))⟩ (by simp; omega)}
  {obtain rfl:=Option.some.inj hj; exact p.far}
  {have i:UpT [g] W (putT W g (X.xs.length * 9) x):=⟨a.os,a.tape,a.output,a.size,fun y h1 h2=>a.block y h1 (fun e=>h2 (by rw[Option.some.inj e]; simp))⟩;refine ⟨i.os.trans p.up.os,i.tape.trans p.up.tape,i.output.trans p.up.output,Nat.le_trans p.up.size i.size,fun y h1 h2=> ?_⟩;rw[i.block y (Nat.lt_of_lt_of_le h1 p.up.size) (fun e=> ?_)]
   {exact p.up.block y h1 h2}
   {obtain rfl:y=g:=by simpa using e
    rcases p.new with o | o
    {exact h2 (by rw[o]; simp)}
    {omega}}}
  {rw[self9]; simpa using m}
  {rw[(k 8 (by omega)).1]; exact (f.1 _).trans p.cell}}
theorem Inv.s10 (h:X.Inv d u W) (C:d 8=false) (f:d 5=true) (a:X.Good) {x:ET} {g cp:Nat} (p:X.PostX d u W x g cp) (v:Value):X.Inv (also d 8) (upd u 8 v) (W.setCell ⟨X.ob,X.fo,none⟩ (.slice (some ⟨g,0,none⟩) (X.xs.length+1) cp)):=by
 have k: ∀j,j≠8->also d 8 j=d j/\upd u 8 v j=u j:=fun j hj=>⟨ne9 d hj,Z02 u _ hj⟩;have z:X.B<=g/\g < W.heap.size:=p.row.lt g rfl;have w:=a.bpB;have B:X.ob≠g:=by
  rcases p.new with o | o
  {intro e; exact a.obr (e▸o)}
  {have:=a.oblt; omega}
 have r:=a.oblt;have A:=p.lo;have t:=a.Bw;have l:=a.obne;have q:=a.bpob;have i:UpT [X.ob] W (W.setCell ⟨X.ob,X.fo,none⟩ (.slice (some ⟨g,0,none⟩) (X.xs.length+1) cp)):=(UpT.refl _ _).set _ (Or.inr (by simp)) _;refine ⟨h.vals' (by intro D n; cases n), ?_, ?_, ?_, ?_, ?_, ?_⟩
 {rw[(k 5 (by omega)).1]; exact fun f j hj=>mono9 8 (h.e6 f j hj)}
 {rw[(k 6 (by omega)).1,(k 5 (by omega)).1]; exact h.e7}
 {rw[(k 7 (by omega)).1,(k 5 (by omega)).1]; exact h.e8}
 {rw[(k 5 (by omega)).1]; exact fun _=>f}
 {rw[(k 5 (by omega)).1,f]; intro e; cases e}
 {intro _;have m:PAt (W.setCell ⟨X.ob,X.fo,none⟩ (.slice (some ⟨g,0,none⟩) (X.xs.length+1) cp)) X.bp X.A X.c X.l X.τ:=by
   have s: ∀b,b≠X.ob->SameT W (W.setCell ⟨X.ob,X.fo,none⟩ (.slice (some ⟨g,0,none⟩) (X.xs.length+1) cp)) b:=fun b c=>ZdC _ _ _ (fun e=>c (by simpa using e.symm));have c:=s X.bp (fun e=>l e.symm);exact ⟨Nat.lt_of_lt_of_le p.par.lt i.size,(c.1 0).trans p.par.c0,(c.1 1).trans p.par.c1,(c.1 2).trans p.par.c2,(c.1 3).trans p.par.c3,fun k=>(c.2 k).trans (p.par.fz k),p.par.tk.same (fun b hb2=>s b (by omega)),p.par.gs.up i (by simp; omega),p.par.tx⟩
  refine ⟨x,g,cp, ?_, ?_, ?_,m,New.up p.is i (by simp; omega),p.r,p.lo,p.far,p.new, ?_, ?_, ?_,fun j hj=> ?_,fun j=> ?_⟩
  {rw[(k 2 (by omega)).2]; exact p.u3}
  {rw[(k 5 (by omega)).2]; exact p.u6}
  {rw[(k 6 (by omega)).1,(k 6 (by omega)).2]; exact p.u7}
  {exact p.up.trans (i.mono (fun y hy _=>by simp at hy; simp[hy]))}
  {rw[(k 7 (by omega)).1]; exact Zdt p.row (by intro e; have:=Option.some.inj e; simp at this; omega) _}
  {rw[self9,if_pos rfl]; exact World.cell?_setCell_same _ _ _ p.cell}
  {rw[World.cell?_setCell_other _ _ _ _ (fun e=>hj (by have:=congrArg Addr.off e; simpa using this.symm))]; exact p.rest j hj}
  {rw[World.frozen?_setCell]; exact p.fz j}}
end CtxC
structure FrameC (pos:String) (b s p fn:Nat) (A: (Nat->Value)->Act) (vs vp:Value):Prop where
 put: ∀(i:Nat) o,(opsC pos b s p fn)[i]? =some o-> ∀u v,(A u).put o.dst v=A (upd u i v)
 es: ∀u,(A u).eval (.tmp s)=vs
 ep: ∀u,(A u).eval (.tmp p)=vp
 e0: ∀u,(A u).eval (.tmp b)=u 0
 e1: ∀u,(A u).eval (.tmp (b+1))=u 1
 e2: ∀u,(A u).eval (.tmp (b+2))=u 2
 e3: ∀u,(A u).eval (.tmp (b+3))=u 3
 e4: ∀u,(A u).eval (.tmp (b+4))=u 4
 e5: ∀u,(A u).eval (.tmp (b+5))=u 5
 e6: ∀u,(A u).eval (.tmp (b+6))=u 6
theorem regC {Q:Exit->Act->World->Prop} {id:Nat} (pos:String) (b s p:Nat) (n:Nat) (X:CtxC) (l:X.Good) (y:Nat) (I:X.w.cell? ⟨y,0,none⟩=some (.pointer (some ⟨X.bp,0,none⟩))) (D:y < X.w.heap.size) (J:y≠X.bp)
 (A: (Nat->Value)->Act) (S:Nat->Value) (i:FrameC pos b s p n A (.pointer (some ⟨X.ob,0,none⟩)) (.pointer (some ⟨y,0,none⟩)))
 (o:X.fo=0)
 (a8: ∀args W,(callFunc n args).run Tryz.prog W= .ok (.enter n args) W)
 (t: ∀W,Below X.w.heap.size X.w W->Calls Tryz.prog n #[.pointer (some ⟨X.bp,0,none⟩)] W fun e W'=> ∃x:ET,e= .returned (valT x)/\PAt W' X.bp X.A X.c X.l X.τ/\UpT [X.bp] W W'/\x.Is W'/\W.heap.size<=x.lo/\X.R x)
 (hQ: ∀u W x g cp,X.PostX (fun _=>true) u W x g cp->Q .normal (A u) W):
 (Code.region id (opsC pos b s p n) true).wp Tryz.prog Q (A S) X.w:=by
 obtain ⟨i0,H,K,L,M⟩:=ZcW Zjn;have O:=i.es;have U:=i.ep;have a6:Tryz.prog.cellsOf 38=1:=by kernel_rfl
 have a7:Tryz.prog.cellsOf 52=1:=by kernel_rfl
 refine Z3a (rs:= [0,1,2,3,4,5,6,7,8]) A S X.Inv (by kernel_rfl) (by kernel_rfl) (by kernel_rfl) l.start ?_ ?_;refine StepsInv.cons (oC0 pos b s) rfl (fun d u W K' a c hw hK=> ?_) ?_
 {have e0: (A u).eval (.tmp s)= .pointer (some ⟨X.ob,X.fo,none⟩):=by rw[o]; exact O u
  obtain ⟨w,B⟩:=a.cell l (by decide) c;rw[o] at w;refine Z00 (v:= .slice X.AR X.xs.length X.cap) (W':=W) rfl ?_ (by rw[i.put 0 (oC0 pos b s) rfl u _]; exact hK.out _ _ (a.pure (by decide) (fun v' h=>by cases h; rfl)));simp only[execOp,oC0,e0,Sem.run_bind,Result.andThen_ok,Sem.run_pure];go_simp}
 refine StepsInv.cons (oC1 pos b p) rfl (fun d u W K' a c hw hK=> ?_) ?_
 {obtain ⟨w,B⟩:W.cell? ⟨y,0,none⟩=some (.pointer (some ⟨X.bp,0,none⟩))/\y < W.heap.size:=⟨(((a.first (by decide) c).same D (by simp[J])).1 _).trans I,Nat.lt_of_lt_of_le D (a.first (by decide) c).size⟩;refine Z00 (v:= .pointer (some ⟨X.bp,0,none⟩)) (W':=W) rfl ?_ (by rw[i.put 1 (oC1 pos b p) rfl u _]; exact hK.out _ _ (a.pure (by decide) (fun v' h=>by cases h; rfl)));simp only[execOp,oC1,U u,Sem.run_bind,Result.andThen_ok,Sem.run_pure];go_simp}
 refine StepsInv.cons (oC2 pos b n) rfl (fun d u W K' a c hw hK=> ?_) ?_
 {have e2:=i.e1 u;rw[a.vals 1 (hw 1 (by kernel_rfl)) _ rfl] at e2;have F:=(a.pre (a.early (by decide) c)).b3 c;refine Z1n (f:=n) (args:=#[.pointer (some ⟨X.bp,0,none⟩)]) (W':=W) rfl ?_ ((t W F).mono ?_)
  {simp only[execOp,oC2,e2,Sem.run_bind,Result.andThen_ok,Sem.run_pure,resolve,invoke,List.map_toArray,List.map_cons,List.map_nil];have T: (A u).eval (.func n)= .func (.func n) #[] #[]:=rfl;rw[T];go_simp}
  {rintro e W' ⟨x,rfl,Y,Z,h3,h4,h5⟩;exact ⟨_,rfl,by rw[i.put 2 (oC2 pos b n) rfl u _]; exact hK.out _ _ (a.s3 c Y Z h3 h4 h5 l)⟩}}
 refine StepsInv.cons (oC3 pos b) rfl (fun d u W K' a c hw hK=> ?_) ?_
 {have e1:=i.e0 u;rw[a.vals 0 (hw 0 (by kernel_rfl)) _ rfl] at e1;refine Z00 (v:= .int .i64 (X.xs.length:Int)) (W':=W) rfl ?_ (by rw[i.put 3 (oC3 pos b) rfl u _]; exact hK.out _ _ (a.pure (by decide) (fun v' h=>by cases h; rfl)));simp only[execOp,oC3,e1,Sem.run_bind,Result.andThen_ok,Sem.run_pure,resolve,invoke,List.map_toArray,List.map_cons,List.map_nil];go_simp}
 refine StepsInv.cons (oC4 pos b) rfl (fun d u W K' a c hw hK=> ?_) ?_
 {refine Z00 (v:= .slice (some ⟨W.heap.size,0,none⟩) 1 1) (W':=W.alloc (.cells Ya 40)) rfl ?_ (by rw[i.put 4 (oC4 pos b) rfl u _]; exact hK.out _ _ (a.s5 c l _));simp only[execOp,oC4,Sem.run_bind,Result.andThen_ok,Sem.run_pure];go_simp}
 refine StepsInv.cons (oC5 pos b) rfl (fun d u W K' a c hw hK=> ?_) ?_
 {have e1:=i.e0 u;rw[a.vals 0 (hw 0 (by kernel_rfl)) _ rfl] at e1;obtain ⟨z0,u5,z1,z2,z3⟩:=(a.pre c).a5 (hw 4 (by kernel_rfl));have N:=i.e4 u;rw[u5] at N;have a5:=l.bpB;have E:=l.row.up (a.pre c).up (fun x hx=>by simp at hx; subst hx; intro e; have:=l.row.lt _ e; omega);have b0:=l.len;have a3:=l.Bw;have b3:=(a.pre c).up.size;refine step_append_lies W rfl _ _ 38 rfl X.B 40 i0 (.agg #[.int .i64 0,.string ByteArray.empty,.string ByteArray.empty,.int .i64 0,.slice none 0 0,.slice none 0 0,.slice none 0 0,.slice none 0 0,.int .i64 0]) 9 152 Tryz.underlying38 H K L M rfl (by decide) _ _ _ e1 E ⟨z0,0,none⟩ 1 1 zerosT N rfl (fun j v hv=>by rw[Z0d,Nat.zero_add]; exact z3 j v hv) (by decide) (by decide) (by unfold maxLen; omega) (by omega) (by omega) _ rfl ?_;intro g cp W' C P z B;rw[i.put 5 (oC5 pos b) rfl u _];exact hK.out _ _ (a.s6 c (fun k hk=>hw k (by
   rcases k with _ | _ | _ | _ | _ | k
   {kernel_rfl}
   {kernel_rfl}
   {kernel_rfl}
   {kernel_rfl}
   {kernel_rfl}
   · omega)) l C (by rw[ZcQ] at P; exact P) (by rw[ZcQ] at z; exact z))}
 refine StepsInv.cons (oC6 pos b) rfl (fun d u W K' a c hw hK=> ?_) ?_
 {have r:=hw 5 (by kernel_rfl);obtain ⟨x,g,cp,p⟩:=a.post r;have e6:=i.e5 u;rw[p.u6] at e6;have e4:=i.e3 u;rw[a.vals 3 (hw 3 (by kernel_rfl)) _ rfl] at e4;refine Z00 (v:= .pointer (some ⟨g,X.xs.length * 9,none⟩)) (W':=W) rfl ?_ (by rw[i.put 6 (oC6 pos b) rfl u _]; exact hK.out _ _ (a.s7 r (fun x' g' cp' p'=>by
   have:=p.u6.symm.trans p'.u6;simp only[Value.slice.injEq,Option.some.injEq,Addr.mk.injEq,and_true] at this;rw[this.1])))
  simp only[execOp,oC6,e6,e4,Sem.run_bind,Result.andThen_ok,Sem.run_pure];go_simp;intro h; omega}
 refine StepsInv.cons (oC7 pos b) rfl (fun d u W K' a c hw hK=> ?_) ?_
 {have r:=a.e7 (hw 6 (by kernel_rfl));obtain ⟨x,g,cp,p⟩:=a.post r;have e7:=i.e6 u;rw[p.u7 (hw 6 (by kernel_rfl))] at e7;have e3:=i.e2 u;rw[p.u3] at e3;have m:=p.row;rw[c] at m;simp only[Bool.false_eq_true,if_false] at m;have q:=CtxC.put_zero x (by rw[ZbH Zfm]) m;have a9:=(m.lt g rfl).2;have hs:=a.s8 c r l p undef;refine Z2E (W':=CtxT.putT W g (X.xs.length * 9) x) rfl ?_ (by rw[i.put 7 (oC7 pos b) rfl u _]; exact hK.out _ _ hs);simp only[execOp,oC7,e7,e3,Sem.run_bind,Result.andThen_ok,Sem.run_pure,valT];obtain ⟨y0,c0,V⟩:=q 0 (by decide);obtain ⟨y1,c1,f1⟩:=q 1 (by decide);obtain ⟨y2,c2,f2⟩:=q 2 (by decide);obtain ⟨y3,c3,f3⟩:=q 3 (by decide);obtain ⟨y4,c4,f4⟩:=q 4 (by decide);obtain ⟨y5,c5,f5⟩:=q 5 (by decide);obtain ⟨y6,c6,f6⟩:=q 6 (by decide);obtain ⟨y7,c7,f7⟩:=q 7 (by decide);obtain ⟨y8,c8,f8⟩:=q 8 (by decide);simp only[Nat.add_zero] at c0 V;go_simp;rfl}
 refine StepsInv.cons (oC8 pos b s) rfl (fun d u W K' a c hw hK=> ?_) StepsInv.nil
 {have r:=hw 5 (by kernel_rfl);obtain ⟨x,g,cp,p⟩:=a.post r;have e6:=i.e5 u;rw[p.u6] at e6;have e9: (A u).eval (.tmp s)= .pointer (some ⟨X.ob,X.fo,none⟩):=by rw[o]; exact O u
  have w:=p.cell;rw[c] at w;simp only[Bool.false_eq_true,if_false] at w;have G:=(p.fz X.fo).trans l.fz;rw[o] at w G;have b1:=Nat.lt_of_lt_of_le l.oblt p.up.size;refine Z2E (W':=W.setCell ⟨X.ob,X.fo,none⟩ (.slice (some ⟨g,0,none⟩) (X.xs.length+1) cp)) rfl ?_ (by rw[i.put 8 (oC8 pos b s) rfl u _]; exact hK.out _ _ (a.s10 c r l p undef));simp only[execOp,oC8,e9,e6,Sem.run_bind,Result.andThen_ok,Sem.run_pure];go_simp}
 {intro d u W a c;obtain ⟨x,g,cp,p⟩:=a.post (c 5 (by show 5 < 9; omega));refine hQ u W x g cp ⟨p.u3,p.u6,fun _=>p.u7 (c 6 (by show 6 < 9; omega)),p.par,p.is,p.r,p.lo,p.far,p.new,p.up, ?_, ?_,p.rest,p.fz⟩
  {have:=p.row; rw[c 7 (by show 7 < 9; omega)] at this; exact this}
  {have:=p.cell; rw[c 8 (by show 8 < 9; omega)] at this; exact this}}
end
end Go.Proofs.YtgndehppmaacaaaGreatDoor
namespace Go.Proofs.YtgndehppmaacaaaGreatDoor
section
open Go.RowKit Tms
open Shp (Sh)
open Pso (St Ok Goes betw loop want)
structure NewX (ex lo hi:Nat) (W:World) (P:World->Prop):Prop where
 hi_:hi<=W.heap.size
 at_: ∀W',W.heap.size<=W'.heap.size->(∀b,lo<=b->b < hi->b≠ex->SameT W W' b)->P W'
section
variable {ex lo hi : Nat} {W W' : World} {P : World -> Prop}
theorem NewX.new (h:NewX ex lo hi W P):New lo hi W P:=⟨h.hi_,fun W' hz hs=>h.at_ W' hz (fun b h1 h2 _=>hs b h1 h2)⟩
theorem New.x (h:New lo hi W P) (a:ex < lo\/hi<=ex):NewX ex lo hi W P:=⟨h.hi_,fun W' hz hs=>h.at_ W' hz (fun b h1 h2=>hs b h1 h2 (by omega))⟩
theorem NewX.same (h:NewX ex lo hi W P) (a:W.heap.size<=W'.heap.size) (c: ∀b,lo<=b->b < hi->b≠ex->SameT W W' b):NewX ex lo hi W' P:=
 ⟨Nat.le_trans h.hi_ a,fun W2 hz2 hs2=>h.at_ W2 (Nat.le_trans a hz2) (fun b h1 h2 h3=>(c b h1 h2 h3).trans (hs2 b h1 h2 h3))⟩
theorem NewX.up {F:List Nat} (h:NewX ex lo hi W P) (a:UpT F W W') (c: ∀x∈F,x < lo\/hi<=x\/x=ex):NewX ex lo hi W' P:=
 h.same a.size (fun b h1 h2 h3=>a.same (Nat.lt_of_lt_of_le h2 h.hi_) (fun hx=>by have:=c b hx; omega))
theorem NewX.below (h:NewX ex lo hi W P) (a:Below W.heap.size W W'):NewX ex lo hi W' P:=h.up (F:= []) (ZcF a) (by simp)
end
def ET.IsX (x:ET) (ex:Nat) (W:World):Prop:=NewX ex x.lo x.hi W (fun W'=>TmAt W' W'.heap.size x.q x.t)
structure JC (W0:World) (bp ob ex B0:Nat) (AP:Option Addr) (cp:Nat) (L:List ET) (W:World):Prop where
 up:UpT [bp] W0 W
 lt:ob < W.heap.size
 ge:W0.heap.size<=ob
 exlt:ex < W0.heap.size
 bpB0:bp < B0
 B0W:B0<=W0.heap.size
 c:W.cell? ⟨ob,0,none⟩=some (.slice AP L.length cp)
 fz:W.frozen? ⟨ob,0,none⟩=false
 rP:Row W W0.heap.size 40 9 cT AP cp L
 ro:rowT AP≠some ob
 isT: ∀x∈L,x.IsX ex W/\B0<=x.lo/\(ob < x.lo\/x.hi<=ob)
 fT: ∀x∈L,∀b,rowT AP=some b->b < x.lo\/x.hi<=b
section
variable {W0 W W' : World} {bp ob ex B0 : Nat} {AP : Option Addr} {cp : Nat} {L : List ET}
section
variable (h : JC W0 bp ob ex B0 AP cp L W)
include h
theorem JC.keep (a:UpT [bp] W W'):JC W0 bp ob ex B0 AP cp L W':=by
 have g:=h.up.size;have c:=h.ge;have d:=h.bpB0;have f:=h.B0W;have b:=a.same h.lt (by simp; omega);exact ⟨h.up.trans a,Nat.lt_of_lt_of_le h.lt a.size,c,h.exlt,d,f,(b.1 0).trans h.c,(b.2 0).trans h.fz,
  h.rP.up a (fun x hx=>by simp at hx; subst hx; intro e; have:=h.rP.lt _ e; omega),h.ro,fun x hx=>⟨(h.isT x hx).1.up a (by simp; have:=(h.isT x hx).2.1; omega),(h.isT x hx).2⟩,h.fT⟩
theorem JC.good {A:Option Addr} {c:Nat} {l:List Tk} {τ:St} {Q:ET->Prop} (a:L.length<=900000): (⟨W,bp,A,c,l,τ,ob,0,W0.heap.size,AP,cp,L,Q⟩:CtxC).Good:=
 ⟨h.c,h.fz,h.lt,by have:=h.bpB0; have:=h.B0W; have:=h.ge; simp only; omega,h.rP,h.ro,by have:=h.bpB0; have:=h.B0W; simp only; omega,h.up.size,a⟩
end
theorem JC.post {A:Option Addr} {c g d:Nat} {l:List Tk} {τ:St} {Q:ET->Prop} {u:Nat->Value} {x:ET} (h:JC W0 bp ob ex B0 AP cp L W) (p: (⟨W,bp,A,c,l,τ,ob,0,W0.heap.size,AP,cp,L,Q⟩:CtxC).PostX (fun _=>true) u W' x g d):JC W0 bp ob ex B0 (some ⟨g,0,none⟩) d (L++ [x]) W':=by
 have G:=h.up.size;have C:=h.ge;have q:=h.bpB0;have n:=h.B0W;have D:=h.exlt;have z:=h.lt;have r: ∀b,rowT AP=some b->W0.heap.size<=b/\b < W.heap.size:=fun b hb=>h.rP.lt b hb;have m:UpT (bp::ob::(rowT AP).toList) W W':=p.up;have i:rowT AP=some g\/W.heap.size<=g:=p.new;have w:W.heap.size<=x.lo:=p.lo;have E:W'.cell? ⟨ob,0,none⟩=some (.slice (some ⟨g,0,none⟩) (L.length+1) d):=by have:=p.cell; simpa using this
 have t: ∀j,W'.frozen? ⟨ob,j,none⟩=W.frozen? ⟨ob,j,none⟩:=p.fz;have o:W'.ownsRow W0.heap.size 40 9 (.slice (some ⟨g,0,none⟩) (L.length+1) d) (L.length+1) (L.flatMap cT++cT x):=by have:=p.row; simpa using this
 have f: ∀y,y∈bp::ob::(rowT AP).toList->y=bp\/y=ob\/rowT AP=some y:=fun y a=>by simpa using a
 have v:g≠ob:=by
  rcases i with e | e
  {intro B; exact h.ro (B▸e)}
  {omega}
 refine ⟨⟨m.os.trans h.up.os,m.tape.trans h.up.tape,m.output.trans h.up.output,Nat.le_trans h.up.size m.size,fun y q n=> ?_⟩,Nat.lt_of_lt_of_le z m.size,C,D,q,n,by rw[List.length_append]; exact E,(t 0).trans h.fz, ?_, ?_,fun y a=> ?_,fun y a b hb=> ?_⟩
 {rw[m.block y (by omega) (fun hx=> ?_)]
  {exact h.up.block y q n}
  {simp at n;rcases f _ hx with e | e | e
   {exact n e}
   {omega}
   {have:=r _ e; omega}}}
 {unfold Row; rw[List.length_append,List.flatMap_append]; simpa using o}
 {intro e; exact v (Option.some.inj e)}
 {rcases List.mem_append.1 a with a | a
  {have k:=h.isT y a;refine ⟨k.1.up m (fun b hb=> ?_),k.2⟩;rcases f _ hb with e | e | e
   {omega}
   {have:=k.2.2; omega}
   {have:=h.fT y a b e; omega}}
  {obtain rfl:y=x:=by simpa using a
   have F:W.heap.size<=y.lo:=w;exact ⟨New.x p.is (by omega),by omega,by omega⟩}}
 {have s:g=b:=Option.some.inj hb;rcases List.mem_append.1 a with a | a
  {rcases i with e | e
   {exact h.fT y a b (s▸e)}
   {right; have:=(h.isT y a).1.hi_; omega}}
  {obtain rfl:y=x:=by simpa using a
   have:=p.far; omega}}
end
def ZfO (W0:World) (bp ob ex B0:Nat) (r:Nat) (W:World) (a:List Tm):Prop:=
 ∃AP cp L,JC W0 bp ob ex B0 AP cp L W/\L.map ET.t=a/\L.length<=r+1/\ ∀y∈L,few y.t=true
theorem Znc {W0 W W':World} {bp c ex b r:Nat} {a:List Tm} (h:ZfO W0 bp c ex b r W a) (f:UpT [bp] W W'):ZfO W0 bp c ex b r W' a:=by
 obtain ⟨AP,cp,L,d,e⟩:=h;exact ⟨AP,cp,L,d.keep f,e⟩
theorem Zop (bp:Nat) (A:Option Addr) (c:Nat) (l:List Tk) (m:Nat) (F:TokOk l) (D:ExC bp A c l m) (W0:World) (f q ex J:Nat) (b:W0.cell? ⟨f,0,none⟩=some (.pointer (some ⟨bp,0,none⟩))/\f < W0.heap.size/\f≠bp):
 Reads bp A c l 141 (.pointer (some ⟨q,0,none⟩)) (.pointer (some ⟨f,0,none⟩)) (ZfO W0 bp q ex J) (Pso.argsR l (Pso.expr l m)) m:=by
 intro r w τ a hr hτ hm hP hJ;obtain ⟨AP,cp,L,d,H,G,E⟩:=hJ;have z:Hid (Pso.argsR l (Pso.expr l m) τ a=((Pso.expr l m τ).2,a++ [(Pso.expr l m τ).1])):=Y1 rfl;rw[z.out];have t:w.cell? ⟨f,0,none⟩=some (.pointer (some ⟨bp,0,none⟩)):=((d.up.same b.2.1 (by simp; exact b.2.2)).1 0).trans b.1;have g:f < w.heap.size:=Nat.lt_of_lt_of_le b.2.1 d.up.size;have B:=F.len;have C:=Y1 d;have n:=Y1 (And.intro H (And.intro G E));have K:=Y1 D;have M:=Y1 hm;have O:=Y1 hP;have N:=Y1 hτ;have s:=Y1 b.2.2;clear z hP D b H G E hτ hm d F;go_enter Tryz.func141,Tryz.ntmps141;refine regC _ 2 0 1 75 ⟨w,bp,A,c,l,(Pso.expr l m τ).2,q,0,W0.heap.size,AP,cp,L,(fun x=>x.t=(Pso.expr l m τ).1/\few x.t=true)⟩ (C.out.good (by have:=n.out.2.1; omega)) f t g s.out
  (fun u=> { tmps:=#[.pointer (some ⟨q,0,none⟩),.pointer (some ⟨f,0,none⟩),u 0,u 1,u 2,u 3,u 4,u 5,u 6],defers:= [] }) (fun _=>undef)
  ⟨fun i o h u v=>by
   rcases i with _ | _ | _ | _ | _ | _ | _ | _ | _ | i
   all_goals first | (cases h; rfl) | exact absurd h (by simp[opsC]),fun _=>rfl,fun _=>rfl,fun _=>rfl,fun _=>rfl,fun _=>rfl,fun _=>rfl,fun _=>rfl,fun _=>rfl,fun _=>rfl⟩
  rfl (enters_of Tryz.func75 (by kernel_rfl) rfl) (fun W hW=>K.out W _ N.out M.out (O.out.below hW)) (fun u W x g' cp' p=> ?_)
 have I:=p.r;have j:PAt W bp A c l (Pso.expr l m τ).2:=p.par
 go_end0
 refine ⟨rfl,j,_,_,_,C.out.post p, ?_, ?_, ?_⟩
 {rw[List.map_append, <-n.out.1,List.map_singleton,I.1]}
 {have:=n.out.2.1; rw[List.length_append]; simp; omega}
 {intro y k;rcases List.mem_append.1 k with k | k
  {exact n.out.2.2 y k}
  {have e:y=x:=by simpa using k
   rw[e]; exact I.2}}
structure FInv (w:World) (bp:Nat) (A:Option Addr) (c:Nat) (l:List Tk) (τ:St) (nm:List UInt8) (ob:Nat) (x:ET) (a:Int) (d:Nat->Bool) (u:Nat->Value) (W:World):Prop where
 v0:d 0=true->u 0= .pointer (some ⟨bp,0,none⟩)
 vA:d 1=true->u 1= .pointer (some ⟨bp,0,none⟩)
 vB:d 2=true->u 2= .pointer (some ⟨bp,0,none⟩)
 v1:d 3=true->u 3= .string ⟨nm.toArray⟩
 v2:d 4=true->u 4=valT x
 v4:d 6=true->u 6= .int .i64 a
 e3:d 5=true->d 4=true
 e5:d 7=true->d 3=true/\d 5=true/\d 6=true
 e6:d 8=true->d 7=true
 pre:d 3=false->Below w.heap.size w W
 up:d 8=false->UpT [bp] w W
 s1:d 3=true->d 8=false->PAt W bp A c l τ
 s3:d 5=true->d 8=false-> ∃g,u 5= .slice (some ⟨g,0,none⟩) 1 1/\Row W w.heap.size 40 9 cT (some ⟨g,0,none⟩) 1 [x]
 v5:d 7=true-> ∃g,u 5= .slice (some ⟨g,0,none⟩) 1 1/\u 7= .agg #[.int .i64 9,.string ⟨#[]⟩,.string ⟨nm.toArray⟩,.int .i64 0,.slice none 0 0,.slice none 0 0,.slice none 0 0,.slice (some ⟨g,0,none⟩) 1 1,.int .i64 a]
 fin:d 8=true-> ∃Wm g,PAt Wm bp A c l τ/\Row Wm w.heap.size 40 9 cT (some ⟨g,0,none⟩) 1 [x]/\UpT [bp] w Wm/\W=Zd9 Wm ob (.int .i64 9) (.string ⟨#[]⟩) (.string ⟨nm.toArray⟩) (.int .i64 0) (.slice none 0 0) (.slice none 0 0) (.slice none 0 0) (.slice (some ⟨g,0,none⟩) 1 1) (.int .i64 a)
section
variable {w : World} {bp : Nat} {A : Option Addr} {c : Nat} {l : List Tk} {τ : St} {nm : List UInt8} {ob : Nat} {x : ET} {a : Int} {d : Nat -> Bool} {u : Nat -> Value} {W W' : World}
section
variable (h : FInv w bp A c l τ nm ob x a d u W)
include h
theorem FInv.not6 {i:Nat} (b:d i=false) (n:i=3\/i=4\/i=5\/i=6\/i=7\/i=8):d 8=false:=by
 cases e:d 8 with
 | false=>rfl
 | true=>
  have g:=h.e6 e;obtain ⟨j,f,m⟩:=h.e5 g;have k:=h.e3 f;rcases n with rfl | rfl | rfl | rfl | rfl | rfl
  {rw[b] at j; cases j}
  {rw[b] at k; cases k}
  {rw[b] at f; cases f}
  {rw[b] at m; cases m}
  {rw[b] at g; cases g}
  {rw[b] at e; cases e}
theorem FInv.p0 (v:Value) (b:v= .pointer (some ⟨bp,0,none⟩)):FInv w bp A c l τ nm ob x a (also d 0) (upd u 0 v) W:=by
 have k: ∀j,j≠0->also d 0 j=d j/\upd u 0 v j=u j:=fun j hj=>⟨PtxT.ne9 d hj,Z02 u _ hj⟩;refine ⟨(fun _=>by rw[Z06]; exact b),(by rw[(k 1 (by omega)).1,(k 1 (by omega)).2]; exact h.vA),(by rw[(k 2 (by omega)).1,(k 2 (by omega)).2]; exact h.vB),(by rw[(k 3 (by omega)).1,(k 3 (by omega)).2]; exact h.v1),(by rw[(k 4 (by omega)).1,(k 4 (by omega)).2]; exact h.v2),(by rw[(k 6 (by omega)).1,(k 6 (by omega)).2]; exact h.v4),(by rw[(k 5 (by omega)).1,(k 4 (by omega)).1]; exact h.e3),(by rw[(k 7 (by omega)).1,(k 3 (by omega)).1,(k 5 (by omega)).1,(k 6 (by omega)).1]; exact h.e5),(by rw[(k 8 (by omega)).1,(k 7 (by omega)).1]; exact h.e6),(by rw[(k 3 (by omega)).1]; exact h.pre),(by rw[(k 8 (by omega)).1]; exact h.up),(by rw[(k 3 (by omega)).1,(k 8 (by omega)).1]; exact h.s1),(by rw[(k 5 (by omega)).1,(k 8 (by omega)).1,(k 5 (by omega)).2]; exact h.s3),(by rw[(k 7 (by omega)).1,(k 5 (by omega)).2,(k 7 (by omega)).2]; exact h.v5),(by rw[(k 8 (by omega)).1]; exact h.fin)⟩
theorem FInv.pA (v:Value) (b:v= .pointer (some ⟨bp,0,none⟩)):FInv w bp A c l τ nm ob x a (also d 1) (upd u 1 v) W:=by
 have k: ∀j,j≠1->also d 1 j=d j/\upd u 1 v j=u j:=fun j hj=>⟨PtxT.ne9 d hj,Z02 u _ hj⟩;refine ⟨(by rw[(k 0 (by omega)).1,(k 0 (by omega)).2]; exact h.v0),(fun _=>by rw[Z06]; exact b),(by rw[(k 2 (by omega)).1,(k 2 (by omega)).2]; exact h.vB),(by rw[(k 3 (by omega)).1,(k 3 (by omega)).2]; exact h.v1),(by rw[(k 4 (by omega)).1,(k 4 (by omega)).2]; exact h.v2),(by rw[(k 6 (by omega)).1,(k 6 (by omega)).2]; exact h.v4),(by rw[(k 5 (by omega)).1,(k 4 (by omega)).1]; exact h.e3),(by rw[(k 7 (by omega)).1,(k 3 (by omega)).1,(k 5 (by omega)).1,(k 6 (by omega)).1]; exact h.e5),(by rw[(k 8 (by omega)).1,(k 7 (by omega)).1]; exact h.e6),(by rw[(k 3 (by omega)).1]; exact h.pre),(by rw[(k 8 (by omega)).1]; exact h.up),(by rw[(k 3 (by omega)).1,(k 8 (by omega)).1]; exact h.s1),(by rw[(k 5 (by omega)).1,(k 8 (by omega)).1,(k 5 (by omega)).2]; exact h.s3),(by rw[(k 7 (by omega)).1,(k 5 (by omega)).2,(k 7 (by omega)).2]; exact h.v5),(by rw[(k 8 (by omega)).1]; exact h.fin)⟩
theorem FInv.pB (v:Value) (b:v= .pointer (some ⟨bp,0,none⟩)):FInv w bp A c l τ nm ob x a (also d 2) (upd u 2 v) W:=by
 have k: ∀j,j≠2->also d 2 j=d j/\upd u 2 v j=u j:=fun j hj=>⟨PtxT.ne9 d hj,Z02 u _ hj⟩;refine ⟨(by rw[(k 0 (by omega)).1,(k 0 (by omega)).2]; exact h.v0),(by rw[(k 1 (by omega)).1,(k 1 (by omega)).2]; exact h.vA),(fun _=>by rw[Z06]; exact b),(by rw[(k 3 (by omega)).1,(k 3 (by omega)).2]; exact h.v1),(by rw[(k 4 (by omega)).1,(k 4 (by omega)).2]; exact h.v2),(by rw[(k 6 (by omega)).1,(k 6 (by omega)).2]; exact h.v4),(by rw[(k 5 (by omega)).1,(k 4 (by omega)).1]; exact h.e3),(by rw[(k 7 (by omega)).1,(k 3 (by omega)).1,(k 5 (by omega)).1,(k 6 (by omega)).1]; exact h.e5),(by rw[(k 8 (by omega)).1,(k 7 (by omega)).1]; exact h.e6),(by rw[(k 3 (by omega)).1]; exact h.pre),(by rw[(k 8 (by omega)).1]; exact h.up),(by rw[(k 3 (by omega)).1,(k 8 (by omega)).1]; exact h.s1),(by rw[(k 5 (by omega)).1,(k 8 (by omega)).1,(k 5 (by omega)).2]; exact h.s3),(by rw[(k 7 (by omega)).1,(k 5 (by omega)).2,(k 7 (by omega)).2]; exact h.v5),(by rw[(k 8 (by omega)).1]; exact h.fin)⟩
theorem FInv.p2 (v:Value) (b:v=valT x):FInv w bp A c l τ nm ob x a (also d 4) (upd u 4 v) W:=by
 have k: ∀j,j≠4->also d 4 j=d j/\upd u 4 v j=u j:=fun j hj=>⟨PtxT.ne9 d hj,Z02 u _ hj⟩;refine ⟨(by rw[(k 0 (by omega)).1,(k 0 (by omega)).2]; exact h.v0),(by rw[(k 1 (by omega)).1,(k 1 (by omega)).2]; exact h.vA),(by rw[(k 2 (by omega)).1,(k 2 (by omega)).2]; exact h.vB),(by rw[(k 3 (by omega)).1,(k 3 (by omega)).2]; exact h.v1),(fun _=>by rw[Z06]; exact b),(by rw[(k 6 (by omega)).1,(k 6 (by omega)).2]; exact h.v4),(fun _=>PtxT.self9 _ _),(by rw[(k 7 (by omega)).1,(k 3 (by omega)).1,(k 5 (by omega)).1,(k 6 (by omega)).1]; exact h.e5),(by rw[(k 8 (by omega)).1,(k 7 (by omega)).1]; exact h.e6),(by rw[(k 3 (by omega)).1]; exact h.pre),(by rw[(k 8 (by omega)).1]; exact h.up),(by rw[(k 3 (by omega)).1,(k 8 (by omega)).1]; exact h.s1),(by rw[(k 5 (by omega)).1,(k 8 (by omega)).1,(k 5 (by omega)).2]; exact h.s3),(by rw[(k 7 (by omega)).1,(k 5 (by omega)).2,(k 7 (by omega)).2]; exact h.v5),(by rw[(k 8 (by omega)).1]; exact h.fin)⟩
theorem FInv.p4 (v:Value) (b:v= .int .i64 a):FInv w bp A c l τ nm ob x a (also d 6) (upd u 6 v) W:=by
 have k: ∀j,j≠6->also d 6 j=d j/\upd u 6 v j=u j:=fun j hj=>⟨PtxT.ne9 d hj,Z02 u _ hj⟩;refine ⟨(by rw[(k 0 (by omega)).1,(k 0 (by omega)).2]; exact h.v0),(by rw[(k 1 (by omega)).1,(k 1 (by omega)).2]; exact h.vA),(by rw[(k 2 (by omega)).1,(k 2 (by omega)).2]; exact h.vB),(by rw[(k 3 (by omega)).1,(k 3 (by omega)).2]; exact h.v1),(by rw[(k 4 (by omega)).1,(k 4 (by omega)).2]; exact h.v2),(fun _=>by rw[Z06]; exact b),(by rw[(k 5 (by omega)).1,(k 4 (by omega)).1]; exact h.e3),(by rw[(k 7 (by omega)).1,(k 3 (by omega)).1,(k 5 (by omega)).1]; exact fun e=>⟨(h.e5 e).1,(h.e5 e).2.1,PtxT.self9 _ _⟩),(by rw[(k 8 (by omega)).1,(k 7 (by omega)).1]; exact h.e6),(by rw[(k 3 (by omega)).1]; exact h.pre),(by rw[(k 8 (by omega)).1]; exact h.up),(by rw[(k 3 (by omega)).1,(k 8 (by omega)).1]; exact h.s1),(by rw[(k 5 (by omega)).1,(k 8 (by omega)).1,(k 5 (by omega)).2]; exact h.s3),(by rw[(k 7 (by omega)).1,(k 5 (by omega)).2,(k 7 (by omega)).2]; exact h.v5),(by rw[(k 8 (by omega)).1]; exact h.fin)⟩
theorem FInv.c1 (n:d 3=false) (r:bp < w.heap.size) (v:Value) (t:v= .string ⟨nm.toArray⟩) (o:UpT [bp] W W') (s:PAt W' bp A c l τ):FInv w bp A c l τ nm ob x a (also d 3) (upd u 3 v) W':=by
 have k: ∀j,j≠3->also d 3 j=d j/\upd u 3 v j=u j:=fun j hj=>⟨PtxT.ne9 d hj,Z02 u _ hj⟩;have b:=h.not6 (i:=3) n (by omega);have f:d 7=false:=by cases e:d 7 with | false=>rfl | true=>have:=(h.e5 e).1; rw[n] at this; cases this
 refine ⟨(by rw[(k 0 (by omega)).1,(k 0 (by omega)).2]; exact h.v0),(by rw[(k 1 (by omega)).1,(k 1 (by omega)).2]; exact h.vA),(by rw[(k 2 (by omega)).1,(k 2 (by omega)).2]; exact h.vB),(fun _=>by rw[Z06]; exact t),(by rw[(k 4 (by omega)).1,(k 4 (by omega)).2]; exact h.v2),(by rw[(k 6 (by omega)).1,(k 6 (by omega)).2]; exact h.v4),(by rw[(k 5 (by omega)).1,(k 4 (by omega)).1]; exact h.e3),(by rw[(k 7 (by omega)).1,f]; intro e; cases e),(by rw[(k 8 (by omega)).1,(k 7 (by omega)).1]; exact h.e6),(by rw[PtxT.self9]; intro e; cases e),(fun _=>(h.up b).trans o),(fun _ _=>s),(by
  rw[(k 5 (by omega)).1,(k 5 (by omega)).2];intro q _;obtain ⟨g,p,m⟩:=h.s3 q b;exact ⟨g,p,m.up o (fun y hy=>by simp at hy; subst hy; intro e; have:=m.lt _ e; omega)⟩),(by rw[(k 7 (by omega)).1,f]; intro e; cases e),(by rw[(k 8 (by omega)).1,b]; intro e; cases e)⟩
theorem FInv.c3 (n:d 5=false) (o:d 4=true) {g:Nat} (v:Value) (f:Below W.heap.size W W') (q:v= .slice (some ⟨g,0,none⟩) 1 1) (p:Row W' w.heap.size 40 9 cT (some ⟨g,0,none⟩) 1 [x]):FInv w bp A c l τ nm ob x a (also d 5) (upd u 5 v) W':=by
 have k: ∀j,j≠5->also d 5 j=d j/\upd u 5 v j=u j:=fun j hj=>⟨PtxT.ne9 d hj,Z02 u _ hj⟩;have b:=h.not6 (i:=5) n (by omega);have m:d 7=false:=by cases e:d 7 with | false=>rfl | true=>have:=(h.e5 e).2.1; rw[n] at this; cases this
 refine ⟨(by rw[(k 0 (by omega)).1,(k 0 (by omega)).2]; exact h.v0),(by rw[(k 1 (by omega)).1,(k 1 (by omega)).2]; exact h.vA),(by rw[(k 2 (by omega)).1,(k 2 (by omega)).2]; exact h.vB),(by rw[(k 3 (by omega)).1,(k 3 (by omega)).2]; exact h.v1),(by rw[(k 4 (by omega)).1,(k 4 (by omega)).2]; exact h.v2),(by rw[(k 6 (by omega)).1,(k 6 (by omega)).2]; exact h.v4),(by rw[(k 4 (by omega)).1]; exact fun _=>o),(by rw[(k 7 (by omega)).1,m]; intro e; cases e),(by rw[(k 8 (by omega)).1,(k 7 (by omega)).1]; exact h.e6),(by rw[(k 3 (by omega)).1]; exact fun e=>Z03 (h.pre e) f),(fun _=>(h.up b).below f),(by rw[(k 3 (by omega)).1]; exact fun e _=>(h.s1 e b).below f),(fun _ _=>⟨g,by rw[Z06]; exact q,p⟩),(by rw[(k 7 (by omega)).1,m]; intro e; cases e),(by rw[(k 8 (by omega)).1,b]; intro e; cases e)⟩
theorem FInv.c5 (b:d 3=true) (e:d 5=true) (f:d 6=true) {g:Nat} (v:Value) (m:u 5= .slice (some ⟨g,0,none⟩) 1 1) (i:v= .agg #[.int .i64 9,.string ⟨#[]⟩,.string ⟨nm.toArray⟩,.int .i64 0,.slice none 0 0,.slice none 0 0,.slice none 0 0,.slice (some ⟨g,0,none⟩) 1 1,.int .i64 a]):FInv w bp A c l τ nm ob x a (also d 7) (upd u 7 v) W:=by
 have k: ∀j,j≠7->also d 7 j=d j/\upd u 7 v j=u j:=fun j hj=>⟨PtxT.ne9 d hj,Z02 u _ hj⟩;refine ⟨(by rw[(k 0 (by omega)).1,(k 0 (by omega)).2]; exact h.v0),(by rw[(k 1 (by omega)).1,(k 1 (by omega)).2]; exact h.vA),(by rw[(k 2 (by omega)).1,(k 2 (by omega)).2]; exact h.vB),(by rw[(k 3 (by omega)).1,(k 3 (by omega)).2]; exact h.v1),(by rw[(k 4 (by omega)).1,(k 4 (by omega)).2]; exact h.v2),(by rw[(k 6 (by omega)).1,(k 6 (by omega)).2]; exact h.v4),(by rw[(k 5 (by omega)).1,(k 4 (by omega)).1]; exact h.e3),(by rw[(k 3 (by omega)).1,(k 5 (by omega)).1,(k 6 (by omega)).1]; exact fun _=>⟨b,e,f⟩),(fun _=>PtxT.self9 _ _),(by rw[(k 3 (by omega)).1]; exact h.pre),(by rw[(k 8 (by omega)).1]; exact h.up),(by rw[(k 3 (by omega)).1,(k 8 (by omega)).1]; exact h.s1),(by rw[(k 5 (by omega)).1,(k 8 (by omega)).1,(k 5 (by omega)).2]; exact h.s3),(fun _=>⟨g,by rw[(k 5 (by omega)).2]; exact m,by rw[Z06]; exact i⟩),(by rw[(k 8 (by omega)).1]; exact h.fin)⟩
theorem FInv.c6 (f:d 8=false) (b:d 7=true) {g:Nat} (v:Value) (i:Row W w.heap.size 40 9 cT (some ⟨g,0,none⟩) 1 [x]):FInv w bp A c l τ nm ob x a (also d 8) (upd u 8 v) (Zd9 W ob (.int .i64 9) (.string ⟨#[]⟩) (.string ⟨nm.toArray⟩) (.int .i64 0) (.slice none 0 0) (.slice none 0 0) (.slice none 0 0) (.slice (some ⟨g,0,none⟩) 1 1) (.int .i64 a)):=by
 have k: ∀j,j≠8->also d 8 j=d j/\upd u 8 v j=u j:=fun j hj=>⟨PtxT.ne9 d hj,Z02 u _ hj⟩;refine ⟨(by rw[(k 0 (by omega)).1,(k 0 (by omega)).2]; exact h.v0),(by rw[(k 1 (by omega)).1,(k 1 (by omega)).2]; exact h.vA),(by rw[(k 2 (by omega)).1,(k 2 (by omega)).2]; exact h.vB),(by rw[(k 3 (by omega)).1,(k 3 (by omega)).2]; exact h.v1),(by rw[(k 4 (by omega)).1,(k 4 (by omega)).2]; exact h.v2),(by rw[(k 6 (by omega)).1,(k 6 (by omega)).2]; exact h.v4),(by rw[(k 5 (by omega)).1,(k 4 (by omega)).1]; exact h.e3),(by rw[(k 7 (by omega)).1,(k 3 (by omega)).1,(k 5 (by omega)).1,(k 6 (by omega)).1]; exact h.e5),(by rw[(k 7 (by omega)).1]; exact fun _=>b),(by rw[(k 3 (by omega)).1,(h.e5 b).1]; intro e; cases e),(by rw[PtxT.self9]; intro e; cases e),(by rw[PtxT.self9]; intro _ e; cases e),(by rw[PtxT.self9]; intro _ e; cases e),(by rw[(k 7 (by omega)).1,(k 5 (by omega)).2,(k 7 (by omega)).2]; exact h.v5),(fun _=>⟨W,g,h.s1 (h.e5 b).1 f,i,h.up f,rfl⟩)⟩
end
end
theorem ZkS {W:World} {B ex:Nat} (t:TB) (AP:Option Addr) (cp:Nat) (L:List ET) (d:TBok t) (m:Row W B 40 9 cT AP cp L) (h:rowT AP≠some ex) (l: ∀x∈L,x.IsX ex W/\B<=x.lo) (u:L.length<=1000000):
 (⟨mkT t ⟨none,0,[],none,0,[],none,0,[],AP,cp,L⟩,mkQ ⟨none,0,[],none,0,[],none,0,[],AP,cp,L⟩,B,W.heap.size⟩:ET).IsX ex W:=by
 refine ⟨Nat.le_refl _,fun W' hz hs=> ?_⟩;have S:TSmall (mkT t ⟨none,0,[],none,0,[],none,0,[],AP,cp,L⟩) (mkQ ⟨none,0,[],none,0,[],none,0,[],AP,cp,L⟩):=by
  refine ⟨by have:=d.o; simp only[mkT]; omega,by have:=d.nm; simp only[mkT]; omega,nofun,nofun,by simp[mkT],by simp[mkT],by simp[mkT],by simp only[mkT,List.length_map]; omega,by simp[mkT,mkQ],by simp[mkT,mkQ],by simp[mkT,mkQ], ?_,fun _=>rfl,fun _=>rfl,fun _=>rfl,m.cap.2,d.n,d.a, ?_⟩
  {simp only[mkT,mkQ,List.length_map]; exact m.cap.1}
  {have:=d.k; simp only[mkT]; omega}
 rcases m.read Zfm with q | ⟨g,rfl,r,n,s⟩
 {exact .mk _ _ 0 0 (fun _=>⟨none,0,none,0,none,0,none,0⟩) S (Or.inl rfl) (Or.inl rfl) (Or.inl rfl) (Or.inl (by simp only[mkT,List.length_map]; exact q)) (fun i hi=>absurd hi (by simp only[mkT,List.length_map]; omega)) (fun i hi=>absurd hi (by simp only[mkT,List.length_map]; omega))}
 {have f:g≠ex:=fun e=>h (e▸rfl);have c: ∀i (hi:i < L.length),(L.map ET.q).getD i ⟨none,0,none,0,none,0,none,0⟩=(L[i]'hi).q:=fun i hi=>by simp[hi]
  have o: ∀i (hi:i < (L.map ET.t).length),Tm9 W' g (0+i * 9) ((L.map ET.t)[i]'hi) ((L.map ET.q).getD i ⟨none,0,none,0,none,0,none,0⟩):=fun i hi=>by
   rw[List.length_map] at hi;have a: ∀k,k < 9->W'.cell? ⟨g,i * 9+k,none⟩=(cT (L[i]'hi))[k]? :=fun k hk=>((hs g r n f).1 _).trans (s i hi k hk);rw[c i hi,Nat.zero_add,List.getElem_map];exact ⟨a 0 (by omega),a 1 (by omega),a 2 (by omega),a 3 (by omega),a 4 (by omega),a 5 (by omega),a 6 (by omega),a 7 (by omega),a 8 (by omega)⟩
  have p: ∀i (hi:i < (L.map ET.t).length),TmAt W' W'.heap.size ((L.map ET.q).getD i ⟨none,0,none,0,none,0,none,0⟩) ((L.map ET.t)[i]'hi):=fun i hi=>by
   rw[List.length_map] at hi;rw[c i hi,List.getElem_map];have j:=l _ (List.getElem_mem hi);exact j.1.at_ W' hz (fun b k1 k2 k3=>hs b (Nat.le_trans j.2 k1) (Nat.lt_of_lt_of_le k2 j.1.hi_) k3)
  exact .mk _ _ g 0 (fun i=>(L.map ET.q).getD i ⟨none,0,none,0,none,0,none,0⟩) S (Or.inl rfl) (Or.inl rfl) (Or.inl rfl) (Or.inr ⟨rfl,Nat.lt_of_lt_of_le n hz⟩) o p}
def chW (w:World) (bp:Nat):World:=(w.alloc (.cells #[.pointer (some ⟨bp,0,none⟩)] 52)).alloc (.cells Ya 40)
section
variable (w : World) (bp : Nat)
include w bp
theorem Zoq: (chW w bp).heap.size=w.heap.size+2:=by simp[chW]
theorem Zih:Below w.heap.size w (chW w bp):=Z0h (Z01 _ _) _
theorem Zpj: (chW w bp).cell? ⟨w.heap.size,0,none⟩=some (.pointer (some ⟨bp,0,none⟩)):=by simp[chW,go_sem]
theorem Zpk:Zero9 (chW w bp) (w.heap.size+1):=by
 have h:=ZcP (w.alloc (.cells #[.pointer (some ⟨bp,0,none⟩)] 52)) (.int .i64 0) (.string ⟨#[]⟩) (.string ⟨#[]⟩) (.int .i64 0) (.slice none 0 0) (.slice none 0 0) (.slice none 0 0) (.slice none 0 0) (.int .i64 0) 40;have e: (w.alloc (.cells #[.pointer (some ⟨bp,0,none⟩)] 52)).heap.size=w.heap.size+1:=by simp
 rw[e] at h;exact h
end
structure LC (bp:Nat) (A:Option Addr) (c:Nat) (l:List Tk) (m:Nat) (a:Int) (y:Tm×St) (W1:World) (tb B0:Nat) (k n:Nat) (τ:St) (x:ET) (W:World):Prop where
 eq:Pso.chainL l (Pso.expr l m) a n τ x.t=y
 lt:l.length - τ.1 < n
 le:n<=k
 ok:Ok l τ
 mm:l.length - τ.1 < m+1
 par:PAt W bp A c l τ
 up:UpT [bp,tb] W1 W
 nine:XNine W tb x
 is:x.IsX tb W
 lo:B0<=x.lo
 fw:few x.t=true
section
variable {l : List Tk} {ex : St -> Tm × St} {a : Int} {n : Nat} {τ : St} {t : Tm}
include l ex a n τ t
theorem ZlQ (h:Prs.sign l τ.1 [40]=true):Pso.chainL l ex a (n+1) τ t=Pso.chainL l ex a n (betw l [40] [44] [41] (Pso.argsR l ex) τ [t]).1 { Prs.tm 7 a with parts:=(betw l [40] [44] [41] (Pso.argsR l ex) τ [t]).2 }:=by
 conv=>lhs; unfold Pso.chainL
 rw[if_pos h]
theorem Zkv (b:Prs.sign l τ.1 [40]=false) (h:Prs.sign l τ.1 [46]=true):Pso.chainL l ex a (n+1) τ t=Pso.chainL l ex a n (Pso.name l (τ.1+1,τ.2)).2 { Prs.tm 9 a with name:=(Pso.name l (τ.1+1,τ.2)).1,parts:= [t] }:=by
 conv=>lhs; unfold Pso.chainL
 rw[if_neg (by rw[b]; simp),if_pos h]
theorem Znd (b:Prs.sign l τ.1 [40]=false) (h:Prs.sign l τ.1 [46]=false):Pso.chainL l ex a (n+1) τ t=(t,τ):=by
 conv=>lhs; unfold Pso.chainL
 rw[if_neg (by rw[b]; simp),if_neg (by rw[h]; simp)]
end
theorem ZlR (bp:Nat) (A:Option Addr) (c:Nat) (l:List Tk) (m:Nat) (σ:St) (a:Int) (hl:TokOk l) (ha: -9223372036854775808<=a/\a<=9223372036854775807) (hσ:Ok l σ) (hE:ExC bp A c l m) (hm:l.length - σ.1 < m+1) (w:World) (h:PAt w bp A c l σ):
 Calls Tryz.prog 115 #[.pointer (some ⟨bp,0,none⟩),.int .i64 a] w (TmIs bp A c l (Pso.chainE l (Pso.expr l m) σ a) w):=by
 have HF:Hid (Pso.chainE l (Pso.expr l m) σ a=Pso.chainL l (Pso.expr l m) a (l.length+1) (Pso.atomE l (Pso.expr l m) σ a).2 (Pso.atomE l (Pso.expr l m) σ a).1):=Y1 rfl;rw[HF.out];have k0:=h.lt;have N:=hl.len;have t1:=Pso.to_atom (Pso.to_expr m) a _ hσ;change Pso.To l σ (Pso.atomE l (Pso.expr l m) σ a).2 at t1;have a5:=Y1 (Znb bp A c l m σ a hl ha hσ hE hm _ (h.below (Zih w bp)));have HL:=Y1 hl;have HE:=Y1 hE;have HA:=Y1 ha;have b5:=Y1 (Zih w bp);have b2:=Y1 (Zpj w bp);have HZ:=Y1 (Zpk w bp);have c0:=Y1 (Zoq w bp);obtain ⟨z,hz⟩: ∃z,z=Pso.atomE l (Pso.expr l m) σ a:=⟨_,rfl⟩;rw[<-hz] at a5 t1 ⊢;obtain ⟨y,hy⟩: ∃y,y=Pso.chainL l (Pso.expr l m) a (l.length+1) z.2 z.1:=⟨_,rfl⟩;rw[<-hy];have HY:=Y1 hy;have c8:=Y1 t1;have HM:=Y1 hm;have g7:chW w bp=(w.alloc (.cells #[.pointer (some ⟨bp,0,none⟩)] 52)).alloc (.cells Ya 40):=rfl;have f9:=Y1 g7;clear HF h t1 hz hy hl hE ha hm g7;go_enter Tryz.func115,Tryz.ntmps115
 go_wp2_with fail
 rw[<-f9.out];generalize chW w bp=Wc at a5 b5 b2 HZ c0 ⊢;clear f9;refine a5.out.mono ?_;rintro e G ⟨C,rfl,e1,a3,hx,k6,e4⟩;have p1:=a3.size;have p7:=c0.out;have a9:w.heap.size+2<=C.lo:=by omega
 have o9:bp < G.heap.size:=e1.lt;have l0:C.hi<=G.heap.size:=hx.hi_;have b8:Hid (LC bp A c l m a y (G.alloc (.cells (Y7 C.t C.q) 40)) G.heap.size (w.heap.size+2) (l.length+1) (l.length+1) z.2 C (G.alloc (.cells (Y7 C.t C.q) 40))):=Y1 ⟨by rw[e4.1]; exact HY.out.symm,by omega,Nat.le_refl _,c8.out.1,by have:=c8.out.2.1; have:=HM.out; omega,e1.alloc _,UpT.refl _ _,ZcP G (.int .i64 C.t.kind) (.string ⟨C.t.of_.toArray⟩) (.string ⟨C.t.name.toArray⟩) (.int .i64 C.t.n) (.slice C.q.A C.t.names.length C.q.c) (.slice C.q.V C.t.vars.length C.q.e) (.slice C.q.S C.t.shapes.length C.q.s) (.slice C.q.P C.t.parts.length C.q.d) (.int .i64 C.t.at_) _,(New.below hx (Z01 _ _)).x (by omega),a9,e4.2⟩;have g4:=Y1 (((ZcF (F:= [bp]) b5.out).trans a3).alloc (.cells (Y7 C.t C.q) 40));have g6:=Y1 ((HZ.out.up a3 (by simp; omega)).below (Z01 G (.cells (Y7 C.t C.q) 40)));have a6:Hid ((G.alloc (.cells (Y7 C.t C.q) 40)).cell? ⟨w.heap.size,0,none⟩=some (.pointer (some ⟨bp,0,none⟩))/\w.heap.size < (G.alloc (.cells (Y7 C.t C.q) 40)).heap.size):=Y1 ⟨((Z01 G (.cells (Y7 C.t C.q) 40)).cell (p:=⟨w.heap.size,0,none⟩) (by simp only; omega)).trans (((a3.same (b:=w.heap.size) (by omega) (by simp; omega)).1 0).trans b2.out),by simp; omega⟩;have g3:Hid (G.heap.size < (G.alloc (.cells (Y7 C.t C.q) 40)).heap.size):=Y1 (by simp);clear e1 a3 hx k6 e4 a5 b5 b2 HZ c0 HY c8 a9 l0;simp only[valT]
 go_wp2_with fail
 generalize G.alloc (.cells (Y7 C.t C.q) 40)=W1 at b8 g4 g6 a6 g3 ⊢;clear HM
 go_loopg [11] (l.length+1) (fun kx s11 wr=>Hid (∃n τ x,LC bp A c l m a y W1 G.heap.size (w.heap.size+2) kx n τ x wr))
 case atStart=>exact ⟨_,_,_,b8.out⟩
 case round=>
  obtain ⟨n,τ,x,hr⟩:=hrel.out;have D:=Y1 hr;have K:=hr.ok;have p9:=hr.up.size;have p8:=g3.out;have j2:Hid (wr.cell? ⟨w.heap.size,0,none⟩=some (.pointer (some ⟨bp,0,none⟩))/\w.heap.size < wr.heap.size):=Y1 ⟨((hr.up.same a6.out.2 (by simp; omega)).1 0).trans a6.out.1,by have:=a6.out.2; omega⟩;obtain ⟨b0,hb0⟩:=j2.out;clear hrel b8 hr;cases H:Prs.sign l τ.1 [40]
  {cases T:Prs.sign l τ.1 [46]
   {go_wp2_with fail
    refine (Zdc H N K.1 wr D.out.par).mono ?_;rintro e I ⟨rfl,hp2,E⟩;have i1:=E.size;have c2:=((E.same hb0 (by simp; omega)).1 0).trans b0;have l2:w.heap.size < I.heap.size:=by omega
    have Q:=Y1 hp2;have a2:=Y1 E;clear hp2 E
    go_wp2_with fail
    refine (Zd5 T N K.1 I Q.out).mono ?_;rintro e w3 ⟨rfl,hp3,U⟩;have b7:=Y1 hp3;have S:=Y1 (a2.out.trans U);have a7:=Y1 (D.out.up.trans (S.out.mono (fun q hq _=>by simp at hq; simp[hq])));obtain ⟨r0,r1,r2,r3,r4,r5,r6,r7,r8,rf,rl⟩:=g6.out.up a7.out (by simp; omega);obtain ⟨x0,x1,x2,x3,x4,x5,x6,x7,x8,xf,xl⟩:=D.out.nine.up S.out (by simp; omega);have f0:=rf 0;have f1:=rf 1;have f2:=rf 2;have f3:=rf 3;have f4:=rf 4;have f5:=rf 5;have f6:=rf 6;have f7:=rf 7;have f8:=rf 8;have d7:=Y1 (D.out.is.up S.out (by simp; have:=D.out.lo; omega));have X:Hid ((x.t,τ)=y):=Y1 (by
     have h1:=D.out.eq;have h2:=D.out.lt;obtain ⟨V,rfl⟩: ∃V,n=V+1:=⟨n - 1,by omega⟩;rw[Znd H T] at h1; exact h1)
    clear hp3 U rf xf a2 Q c2 l2 b0 hb0 H T;go_wp2;refine bodyPost_ret (v:=valT x) (by simp[results,Tryz.results115,go_sem,valT,r0,r1,r2,r3,r4,r5,r6,r7,r8,rl]) rfl ?_;have hE:=end9 b7.out (UpT.drop2 a7.out g4.out (by omega)) d7.out.new (rb:=w.heap.size+1) (by omega) (Or.inl (by have:=D.out.lo; omega)) k0;rw[<-X.out];exact ⟨x,rfl,(hE _ _ _ _ _ _ _ _ _).1,(hE _ _ _ _ _ _ _ _ _).2.1,(hE _ _ _ _ _ _ _ _ _).2.2,by have:=D.out.lo; omega,rfl,D.out.fw⟩}
   {go_wp2_with fail
    refine (Zdc H N K.1 wr D.out.par).mono ?_;rintro e I ⟨rfl,hp2,E⟩;have i1:=E.size;have c2:=((E.same hb0 (by simp; omega)).1 0).trans b0;have l2:w.heap.size < I.heap.size:=by omega
    have Q:=Y1 hp2;have a2:=Y1 E;clear hp2 E
    go_wp2_with fail
    refine (ZcZ T N K.1 I Q.out).mono ?_;rintro e w3 ⟨rfl,hp3,U⟩;have p6:=U.size;have c3:=((U.same l2 (by simp; omega)).1 0).trans c2;have l3:w.heap.size < w3.heap.size:=by omega
    have b7:=Y1 hp3;have S:=Y1 (a2.out.trans U);have a7:=Y1 (D.out.up.trans (S.out.mono (fun q hq _=>by simp at hq; simp[hq])));have b4:=Y1 (D.out.nine.up S.out (by simp; omega));have d7:=Y1 (D.out.is.up S.out (by simp; have:=D.out.lo; omega));have g9:=D.out.lo;have n7:=D.out.is.hi_;have h0:=Pso.sign_lt T;have t2:=(Pso.to_next K h0).1;have t3:=Pso.to_name t2;have c9:=Y1 t3;have g2:=Y1 (fun (w:World) (h:PAt w bp A c l (τ.1+1,τ.2))=>Zdk bp A c l _ (by omega) t2.1 HL.out.txt w h);have b6:=Y1 (ZcU HL.out.txt (τ.1+1,τ.2) 1 (by decide) Lex.isName);change Hid ((Pso.name l (τ.1+1,τ.2)).1.length<=1000000) at b6;have X:=Y1 (fun V=>Zkv (ex:=Pso.expr l m) (a:=a) (n:=V) (t:=x.t) H T);obtain ⟨nn,h4⟩: ∃nn,nn=Pso.name l (τ.1+1,τ.2):=⟨_,rfl⟩;rw[<-h4] at g2 b6 X c9;clear hp3 U a2 Q c2 l2 b0 hb0 H T t2 t3 h4
    go_wp2_with fail
    refine Z3a (rs:= [0,1,2,3,4,5,6,7,8]) (fun u=> { tmps:=#[.pointer (some ⟨bp,0,none⟩),.int .i64 a,.pointer (some ⟨w.heap.size,0,none⟩),undef,.pointer (some ⟨w.heap.size+1,0,none⟩),.pointer (some ⟨G.heap.size,0,none⟩),u6,.pointer (some ⟨bp,0,none⟩),.int .i64 a,.agg (Y7 C.t C.q),u10,.bool false,.pointer (some ⟨bp,0,none⟩),.pointer (some ⟨bp,0,none⟩),.pointer (some ⟨bp,0,none⟩),.slice (some ⟨wr.heap.size,0,none⟩) 1 1,.bool false,u17,u18,u19,u20,u21,u22,u23,u24,u25,u26,.bool true,.pointer (some ⟨bp,0,none⟩),.pointer (some ⟨bp,0,none⟩),.pointer (some ⟨bp,0,none⟩),.slice (some ⟨I.heap.size,0,none⟩) 1 1,.bool true,u 0,u 1,u 2,u 3,u 4,u 5,u 6,u 7],defers:= [] }) (fun j=>([u33,u34,u35,u36,u37,u38,u39,u40]:List Value).getD j undef)
     (FInv w3 bp A c l nn.2 nn.1 G.heap.size x a) (by kernel_rfl) (by kernel_rfl) (by kernel_rfl) ⟨nofun,nofun,nofun,nofun,nofun,nofun,nofun,nofun,nofun,fun _=>Y2.drew,fun _=>(UpT.refl _ _).drew,nofun,nofun,nofun,nofun⟩ ?_ ?_
    refine StepsInv.cons _ rfl (fun d u W K' k J hw hK=> ?_) ?_
    {have hp3:W.cell? ⟨w.heap.size,0,none⟩=some (.pointer (some ⟨bp,0,none⟩))/\w.heap.size < W.heap.size:=by
      cases h1:d 3 with
      | false=>have hb:=k.pre h1; exact ⟨(hb.cell (p:=⟨w.heap.size,0,none⟩) l3).trans c3,Nat.lt_of_lt_of_le l3 hb.size⟩
      | true=>
       cases h6:d 8 with
       | false=>have hb:=k.up h6; exact ⟨((hb.same l3 (by simp; omega)).1 0).trans c3,Nat.lt_of_lt_of_le l3 hb.size⟩
       | true=>
        obtain ⟨Wm,g,k1,k2,k3,k4⟩:=k.fin h6;have u1:UpT [G.heap.size] Wm W:=by rw[k4]; exact Ze0 (UpT.refl _ _) (Or.inr (by simp)) _ _ _ _ _ _ _ _ _
        have l4:=Nat.lt_of_lt_of_le l3 k3.size;exact ⟨((u1.same l4 (by simp; omega)).1 0).trans (((k3.same l3 (by simp; omega)).1 0).trans c3),Nat.lt_of_lt_of_le l4 u1.size⟩
     obtain ⟨cc,ll⟩:=hp3;refine Z00 (v:= .pointer (some ⟨bp,0,none⟩)) (W':=W) rfl ?_ (hK.out _ _ (k.p0 _ rfl))
     try dsimp only
     go_simp}
    refine StepsInv.cons _ rfl (fun d u W K' k J hw hK=> ?_) ?_
    {have d0:=k.v0 (hw 0 (by kernel_rfl));refine Z00 (v:= .pointer (some ⟨bp,0,none⟩)) (W':=W) rfl ?_ (hK.out _ _ (k.pA _ rfl))
     try dsimp only
     all_goals first | (go_simp; done) | (go_simp; rfl)}
    refine StepsInv.cons _ rfl (fun d u W K' k J hw hK=> ?_) ?_
    {have d1:=k.vA (hw 1 (by kernel_rfl));refine Z00 (v:= .pointer (some ⟨bp,0,none⟩)) (W':=W) rfl ?_ (hK.out _ _ (k.pB _ rfl))
     try dsimp only
     all_goals first | (go_simp; done) | (go_simp; rfl)}
    refine StepsInv.cons _ rfl (fun d u W K' k J hw hK=> ?_) ?_
    {have d2:=k.vB (hw 2 (by kernel_rfl));have h8:=k.pre J;refine Z1n (f:=91) (args:=#[.pointer (some ⟨bp,0,none⟩)]) (W':=W) rfl ?_ ((g2.out W (b7.out.below h8)).mono ?_)
     {try dsimp only
      go_simp}
     {rintro e W' ⟨rfl,h1,h2⟩;exact ⟨_,rfl,hK.out _ _ (k.c1 J (by omega) _ rfl h2 h1)⟩}}
    refine StepsInv.cons _ rfl (fun d u W K' k J hw hK=> ?_) ?_
    {obtain ⟨x0,x1,x2,x3,x4,x5,x6,x7,x8,xf,xl⟩:=b4.out.up (k.up (k.not6 (i:=4) J (by omega))) (by simp; omega);refine Z00 (v:=valT x) (W':=W) rfl ?_ (hK.out _ _ (k.p2 _ rfl));simp only[valT]
     try dsimp only
     go_simp}
    refine StepsInv.cons _ rfl (fun d u W K' k J hw hK=> ?_) ?_
    {have k2:=hw 4 (by kernel_rfl);have d2:=k.v2 k2;simp only[valT] at d2;have d6:=k.not6 (i:=5) J (by omega);refine Z00 (v:= .slice (some ⟨W.heap.size,0,none⟩) 1 1) (W':=W.alloc (.cells (Y7 x.t x.q) 40)) rfl ?_ (hK.out _ _ (k.c3 J k2 _ (Z01 _ _) rfl (Row.oneT x (k.up d6).size)))
     try dsimp only
     go_simp}
    refine StepsInv.cons _ rfl (fun d u W K' k J hw hK=> ?_) ?_
    {refine Z00 (v:= .int .i64 a) (W':=W) rfl ?_ (hK.out _ _ (k.p4 _ rfl))
     try dsimp only
     go_simp}
    refine StepsInv.cons _ rfl (fun d u W K' k J hw hK=> ?_) ?_
    {have k1:=hw 3 (by kernel_rfl);have k3:=hw 5 (by kernel_rfl);have k4:=hw 6 (by kernel_rfl);have d6:=k.not6 (i:=7) J (by omega);obtain ⟨g,d3,_⟩:=k.s3 k3 d6;have d1:=k.v1 k1;have d4:=k.v4 k4;refine Z00 (v:= .agg #[.int .i64 9,.string ⟨#[]⟩,.string ⟨nn.1.toArray⟩,.int .i64 0,.slice none 0 0,.slice none 0 0,.slice none 0 0,.slice (some ⟨g,0,none⟩) 1 1,.int .i64 a]) (W':=W) rfl ?_ (hK.out _ _ (k.c5 k1 k3 k4 _ d3 rfl))
     try dsimp only
     go_simp}
    refine StepsInv.cons _ rfl (fun d u W K' k J hw hK=> ?_) StepsInv.nil
    {have k5:=hw 7 (by kernel_rfl);obtain ⟨k1,k3,k4⟩:=k.e5 k5;obtain ⟨g1,d3,k8⟩:=k.s3 k3 J;obtain ⟨g,e3,d5⟩:=k.v5 k5;rw[d3] at e3;simp only[Value.slice.injEq,Option.some.injEq,Addr.mk.injEq,and_true] at e3;obtain rfl:=e3;obtain ⟨x0,x1,x2,x3,x4,x5,x6,x7,x8,xf,xl⟩:=b4.out.up (k.up J) (by simp; omega);have f0:=xf 0;have f1:=xf 1;have f2:=xf 2;have f3:=xf 3;have f4:=xf 4;have f5:=xf 5;have f6:=xf 6;have f7:=xf 7;have f8:=xf 8;have h7:=k.c6 J k5 undef k8;clear xf d3;refine Z2E (W':=Zd9 W G.heap.size (.int .i64 9) (.string ⟨#[]⟩) (.string ⟨nn.1.toArray⟩) (.int .i64 0) (.slice none 0 0) (.slice none 0 0) (.slice none 0 0) (.slice (some ⟨g1,0,none⟩) 1 1) (.int .i64 a)) rfl ?_ (hK.out _ _ h7)
     try dsimp only
     go_simp
     try rfl}
    intro d u W k J;obtain ⟨Wm,g,k1,k2,k3,k4⟩:=k.fin (J 8 (by decide));have u1:UpT [G.heap.size] Wm W:=by rw[k4]; exact Ze0 (UpT.refl _ _) (Or.inr (by simp)) _ _ _ _ _ _ _ _ _
    have M:rowT (some (⟨g,0,none⟩:Addr))≠some G.heap.size:=fun e=>by have:=k2.lt _ e; omega
    have P:=ZkS (W:=Wm) (B:=w.heap.size+2) (ex:=G.heap.size) ⟨9,[],nn.1,0,a⟩ (some ⟨g,0,none⟩) 1 [x] ⟨by simp,b6.out,by simp,HA.out,by simp⟩ (Zec k2 (by omega)) M (fun q hq=>by
     have e:q=x:=by simpa using hq
     rw[e]; exact ⟨d7.out.up k3 (by simp; omega),g9⟩) (by simp)
    have a0:=Zh2 (b4.out.up k3 (by simp; omega)) (.int .i64 9) (.string ⟨#[]⟩) (.string ⟨nn.1.toArray⟩) (.int .i64 0) (.slice none 0 0) (.slice none 0 0) (.slice none 0 0) (.slice (some ⟨g,0,none⟩) 1 1) (.int .i64 a);rw[<-k4] at a0;have O:LC bp A c l m a y W1 G.heap.size (w.heap.size+2) (n - 1) (n - 1) nn.2 ⟨mkT ⟨9,[],nn.1,0,a⟩ ⟨none,0,[],none,0,[],none,0,[],some ⟨g,0,none⟩,1,[x]⟩,mkQ ⟨none,0,[],none,0,[],none,0,[],some ⟨g,0,none⟩,1,[x]⟩,w.heap.size+2,Wm.heap.size⟩ W:=by
     have q1:=D.out.lt;have q2:=c9.out.2.1;have q3:=D.out.mm;simp only at q2;refine ⟨?_,by omega,Nat.le_refl _,c9.out.1,by omega,k1.keep u1 (by simp; omega), ?_,a0,P.up u1 (by simp),Nat.le_refl _,ZdH _ _ (Nat.zero_le _) (fun q hq=>by
      have e:q=x:=by simpa using hq
      rw[e]; exact D.out.fw)⟩
     {rw[<-D.out.eq];obtain ⟨V,rfl⟩: ∃V,n=V+1:=⟨n - 1,by omega⟩;rw[X.out V]; rfl}
     {exact (a7.out.trans (k3.mono (fun q hq _=>by simp at hq; simp[hq]))).trans (u1.mono (fun q hq _=>by simp at hq; simp[hq]))}
    have a1:=Y1 O;clear O P a0 u1 k1 k2 k3 k4 k J M
    go_wp2_with fail
    go_roundg (n - 1)
    case measure=>have:=D.out.le; have:=D.out.lt; omega
    case rel=>exact Y1 ⟨_,_,_,a1.out⟩}}
  {go_wp2_with fail
   refine (Zdc H N K.1 wr D.out.par).mono ?_;rintro e I ⟨rfl,hp2,E⟩;have i1:=E.size;have c2:=((E.same hb0 (by simp; omega)).1 0).trans b0;have l2:w.heap.size < I.heap.size:=by omega
   have b3:=Y1 (D.out.nine.up E (by simp; omega));obtain ⟨x0,x1,x2,x3,x4,x5,x6,x7,x8,xf,xl⟩:=b3.out;have g5:=Y1 (D.out.is.up E (by simp; have:=D.out.lo; omega));have j4:=Y1 (D.out.up.trans (E.mono (fun q hq _=>by simp at hq; simp[hq])));have Q:=Y1 hp2;have hlo2:=D.out.lo;have n6:=g5.out.hi_;have j5:Hid (l.length - (want l τ [40]).1 < m):=Y1 (by rw[Zeh H]; have:=Pso.sign_lt H; have:=D.out.mm; simp only; omega);have i3:=Pso.to_betw (o:= [40]) (s:= [44]) (e:= [41]) (Pso.goes_args (Pso.to_expr m)) [x.t] K;have e0:=ZkM (o:= [40]) (s:= [44]) (e:= [41]) (Pso.goes_args (Pso.to_expr m)) [x.t] K;rw[Zeh H] at e0;have j3:=Y1 i3;have i9:=Y1 e0;have X:=Y1 (fun V=>ZlQ (ex:=Pso.expr l m) (a:=a) (n:=V) (t:=x.t) H);have h0:=Pso.sign_lt H;clear hp2 E i3 e0 xf;have Z:=Z0h (Z01 I (.cells (Y7 x.t x.q) 40)) (.cells #[.slice (some ⟨I.heap.size,0,none⟩) 1 1] 38);have hJ:JC I bp (I.heap.size+1) G.heap.size (w.heap.size+2) (some ⟨I.heap.size,0,none⟩) 1 [x] ((I.alloc (.cells (Y7 x.t x.q) 40)).alloc (.cells #[.slice (some ⟨I.heap.size,0,none⟩) 1 1] 38)):=by
    refine ⟨ZcF Z,by simp,by omega,by omega,by omega,by omega, ?_, ?_,(Row.oneT x (Nat.le_refl _)).below (Z01 _ _),by simp[rowT],fun q hq=> ?_,fun q hq b hb=> ?_⟩
    {simp[go_sem]}
    {simp[go_sem]}
    {have e:q=x:=by simpa using hq
     rw[e]; exact ⟨g5.out.below Z,hlo2,by omega⟩}
    {have e:q=x:=by simpa using hq
     have e2:I.heap.size=b:=by simpa[rowT] using hb
     rw[e]; omega}
   have HB:=Y1 (Zde bp A c l [40] [44] [41] 141 (enters_of Tryz.func141 (by kernel_rfl) rfl) (.pointer (some ⟨I.heap.size+1,0,none⟩)) (.pointer (some ⟨w.heap.size,0,none⟩)) (ZfO I bp (I.heap.size+1) G.heap.size (w.heap.size+2)) (Pso.argsR l (Pso.expr l m)) m (by omega) (Pso.goes_args (Pso.to_expr m)) (fun r W W' a h hu=>Znc h hu)
    (Zop bp A c l m HL.out HE.out I w.heap.size (I.heap.size+1) G.heap.size (w.heap.size+2) ⟨c2,l2,by omega⟩) τ [x.t] _ K j5.out (Q.out.below Z) ⟨_,_,_,hJ,rfl,by simp,fun q hq=>by
     have e:q=x:=by simpa using hq
     rw[e]; exact D.out.fw⟩)
   have o4:=Y1 Z;have j7:=(Z.cell (p:=⟨w.heap.size,0,none⟩) l2).trans c2;clear hJ Z b0 hb0
   go_wp2_with fail
   refine HB.out.mono ?_;rintro e w4 ⟨rfl,h5,r,i0,AP,cp,L,Y,i2,h3,g8⟩;have j1:=Y1 h5;have HJ:=Y1 Y;have b9:=Y1 (And.intro i2 (And.intro h3 (And.intro g8 i0)));have cP:=Y.c;have lP:=Y.lt;have n8:=Y.up.size;have e9:=Y1 (b3.out.up Y.up (by simp; omega));obtain ⟨x0,x1,x2,x3,x4,x5,x6,x7,x8,xf,xl⟩:=e9.out;have f0:=xf 0;have f1:=xf 1;have f2:=xf 2;have f3:=xf 3;have f4:=xf 4;have f5:=xf 5;have f6:=xf 6;have f7:=xf 7;have f8:=xf 8;clear h5 Y i2 h3 g8 i0 xf HB c2 j7 l2 b3
   go_wp2_with fail
   have M:rowT AP≠some G.heap.size:=fun e=>by have:=HJ.out.rP.lt _ e; omega
   have P:=ZkS (W:=w4) (B:=w.heap.size+2) (ex:=G.heap.size) ⟨7,[],[],0,a⟩ AP cp L ⟨by simp,by simp,by simp,HA.out,by simp⟩ (Zec HJ.out.rP (by omega)) M (fun q hq=>⟨(HJ.out.isT q hq).1,(HJ.out.isT q hq).2.1⟩) (by have:=b9.out; omega);have a0:=Zh2 e9.out (.int .i64 7) (.string ⟨#[]⟩) (.string ⟨#[]⟩) (.int .i64 0) (.slice none 0 0) (.slice none 0 0) (.slice none 0 0) (.slice AP L.length cp) (.int .i64 a);have u4:UpT [G.heap.size] w4 (Zd9 w4 G.heap.size (.int .i64 7) (.string ⟨#[]⟩) (.string ⟨#[]⟩) (.int .i64 0) (.slice none 0 0) (.slice none 0 0) (.slice none 0 0) (.slice AP L.length cp) (.int .i64 a)):=Ze0 (UpT.refl _ _) (Or.inr (by simp)) _ _ _ _ _ _ _ _ _;have O:LC bp A c l m a y W1 G.heap.size (w.heap.size+2) (n - 1) (n - 1) (betw l [40] [44] [41] (Pso.argsR l (Pso.expr l m)) τ [x.t]).1 ⟨mkT ⟨7,[],[],0,a⟩ ⟨none,0,[],none,0,[],none,0,[],AP,cp,L⟩,mkQ ⟨none,0,[],none,0,[],none,0,[],AP,cp,L⟩,w.heap.size+2,w4.heap.size⟩ (Zd9 w4 G.heap.size (.int .i64 7) (.string ⟨#[]⟩) (.string ⟨#[]⟩) (.int .i64 0) (.slice none 0 0) (.slice none 0 0) (.slice none 0 0) (.slice AP L.length cp) (.int .i64 a)):=by
    have q1:=D.out.lt;have q2:=i9.out;have q3:=D.out.mm;refine ⟨?_,by omega,Nat.le_refl _,j3.out.1,by omega,j1.out.keep u4 (by simp; omega), ?_,by
     show Nine _ _ (.int .i64 7) (.string ⟨#[]⟩) (.string ⟨#[]⟩) (.int .i64 0) (.slice none 0 0) (.slice none 0 0) (.slice none 0 0) (.slice AP (L.map ET.t).length cp) (.int .i64 a);rw[List.length_map]; exact a0,P.up u4 (by simp),Nat.le_refl _,ZdH _ _ (Nat.zero_le _) b9.out.2.2.1⟩
    {rw[<-D.out.eq];obtain ⟨V,rfl⟩: ∃V,n=V+1:=⟨n - 1,by omega⟩;rw[X.out V, <-b9.out.1]; rfl}
    {exact (j4.out.trans (HJ.out.up.mono (fun q hq _=>by simp at hq; simp[hq]))).trans (u4.mono (fun q hq _=>by simp at hq; simp[hq]))}
   have a1:=Y1 O;clear O P a0 u4
   go_roundg (n - 1)
   case measure=>have:=D.out.le; have:=D.out.lt; omega
   case rel=>exact Y1 ⟨_,_,_,a1.out⟩}
end
end Go.Proofs.YtgndehppmaacaaaGreatDoor
