/- What the proofs of ParseAround want, part 19. -/
import Derived.Test.YtkncdbaoaeeoiaaGreatDoorL0n18
set_option linter.unusedVariables false
set_option linter.unusedSimpArgs false
set_option linter.unusedSectionVars false
set_option maxRecDepth 100000
set_option maxHeartbeats 16000000
namespace Go.Proofs.YtkncdbaoaeeoiaaGreatDoor
section
open Go.RowKit Tms
open Shp (Sh)
open Pso (St Ok Goes betw loop want)
section
variable {W1 W : World} {bp ob : Nat} {t : TB} {R : TR} (h : JE W1 bp ob t R W) {A : Option Addr} {c : Nat} {l : List Tk} {τ : St}
include W1 W bp ob t R h A c l τ
theorem JE.goodS {Q:ES->Prop} (a:R.S.length<=900000): (⟨W,bp,A,c,l,τ,ob,6,W1.heap.size,R.AS,R.cs,R.S,Q⟩:CtxS).Good:=
 ⟨h.c6,h.fz 6,Nat.lt_of_lt_of_le h.lt h.up.size,h.bpob,h.rS,h.lt,Nat.lt_trans h.bpob h.lt,h.up.size,a⟩
theorem JE.goodT {Q:ET->Prop} (a:R.L.length<=900000): (⟨W,bp,A,c,l,τ,ob,7,W1.heap.size,R.AP,R.cp,R.L,Q⟩:CtxT).Good:=
 ⟨h.c7,h.fz 7,Nat.lt_of_lt_of_le h.lt h.up.size,h.bpob,h.rP,h.lt,Nat.lt_trans h.bpob h.lt,h.up.size,a⟩
end
section
variable {W1 W W' : World} {bp ob g cp : Nat} {t : TB} {R : TR} (h : JE W1 bp ob t R W) {A : Option Addr} {c : Nat} {l : List Tk} {τ : St}
include W1 W W' bp ob g cp t R h A c l τ
theorem JE.postS {Q:ES->Prop} {u:Nat->Value} {x:ES} (p: (⟨W,bp,A,c,l,τ,ob,6,W1.heap.size,R.AS,R.cs,R.S,Q⟩:CtxS).PostX (fun _=>true) u W' x g cp):
 JE W1 bp ob t { R with AS:=some ⟨g,0,none⟩,cs:=cp,S:=R.S++ [x] } W':=by
 have a:Row W' W1.heap.size 43 5 cS (some ⟨g,0,none⟩) cp (R.S++ [x]):=by
  have:=p.row; unfold Row; rw[List.length_append,List.flatMap_append]; simpa using this
 exact h.putS x a p.is p.lo p.far ⟨p.up,by have:=p.cell; rw[List.length_append]; simpa using this,p.rest,p.fz,p.new,fun b hb=>h.rS.lt b hb⟩
theorem JE.postT {Q:ET->Prop} {u:Nat->Value} {x:ET} (p: (⟨W,bp,A,c,l,τ,ob,7,W1.heap.size,R.AP,R.cp,R.L,Q⟩:CtxT).PostX (fun _=>true) u W' x g cp):
 JE W1 bp ob t { R with AP:=some ⟨g,0,none⟩,cp:=cp,L:=R.L++ [x] } W':=by
 have a:Row W' W1.heap.size 26 9 cT (some ⟨g,0,none⟩) cp (R.L++ [x]):=by
  have:=p.row; unfold Row; rw[List.length_append,List.flatMap_append]; simpa using this
 exact h.putP x a p.is p.lo p.far ⟨p.up,by have:=p.cell; rw[List.length_append]; simpa using this,p.rest,p.fz,p.new,fun b hb=>h.rP.lt b hb⟩
end
theorem JE.goodV {W1 W:World} {bp b a:Nat} {t:TB} {R:TR} (h:JE W1 bp b t R W) {A:Option Addr} {c:Nat} {l:List Tk} {τ:St} {Q:EN->Prop} (d:R.vs.length<=900000): (⟨W,bp,A,c,l,τ,b,5,W1.heap.size,R.AV,R.cv,enOf R.vs,Q,a⟩:PtxN).Good:=
 ⟨by rw[Z0S]; exact h.c5,h.fz 5,Nat.lt_of_lt_of_le h.lt h.up.size,h.bpob,Z8r h.rV,h.lt,Nat.lt_trans h.bpob h.lt,h.up.size,by rw[Z0S]; exact d⟩
theorem JE.postV {W1 W W':World} {bp j g cp i:Nat} {t:TB} {R:TR} (h:JE W1 bp j t R W) {A:Option Addr} {c:Nat} {l:List Tk} {τ:St} {Q:EN->Prop} {u:Nat->Value} {x:EN} (m:x.t.length<=1000000) (p: (⟨W,bp,A,c,l,τ,j,5,W1.heap.size,R.AV,R.cv,enOf R.vs,Q,i⟩:PtxN).Post (fun _=>true) u W' x g cp):
 JE W1 bp j t { R with AV:=some ⟨g,0,none⟩,cv:=cp,vs:=R.vs++ [x.t] } W':=by
 have f:Row W' W1.heap.size 9 1 cN (some ⟨g,0,none⟩) cp (R.vs++ [x.t]):=by
  have a:=p.row;unfold Row;rw[List.length_append,List.flatMap_append, <-Z54];simp only[Z0S] at a;have k:cNN x=cN x.t:=rfl;rw[k] at a;simpa using a
 exact h.putV _ f (fun n d=>by
  rcases List.mem_append.1 d with d | d
  {exact h.smV n d}
  · have e:n=x.t:=by simpa using d
    rw[e]; exact m) ⟨p.up,by have a:=p.cell; simp only[Z0S] at a; rw[List.length_append]; simpa using a,p.rest,p.fz,p.new,fun b hb=>h.rV.lt b hb⟩
theorem JE.goodN {W1 W:World} {bp b a:Nat} {t:TB} {R:TR} (h:JE W1 bp b t R W) {A:Option Addr} {c:Nat} {l:List Tk} {τ:St} {Q:EN->Prop} (d:R.ns.length<=900000): (⟨W,bp,A,c,l,τ,b,4,W1.heap.size,R.AN,R.cn,enOf R.ns,Q,a⟩:PtxA).Good:=
 ⟨by rw[Z0S]; exact h.c4,h.fz 4,Nat.lt_of_lt_of_le h.lt h.up.size,h.bpob,Z8r h.rN,h.lt,Nat.lt_trans h.bpob h.lt,h.up.size,by rw[Z0S]; exact d⟩
theorem JE.postN {W1 W W':World} {bp j g cp i:Nat} {t:TB} {R:TR} (h:JE W1 bp j t R W) {A:Option Addr} {c:Nat} {l:List Tk} {τ:St} {Q:EN->Prop} {u:Nat->Value} {x:EN} (m:x.t.length<=1000000) (p: (⟨W,bp,A,c,l,τ,j,4,W1.heap.size,R.AN,R.cn,enOf R.ns,Q,i⟩:PtxA).Post (fun _=>true) u W' x g cp):
 JE W1 bp j t { R with AN:=some ⟨g,0,none⟩,cn:=cp,ns:=R.ns++ [x.t] } W':=by
 have f:Row W' W1.heap.size 9 1 cN (some ⟨g,0,none⟩) cp (R.ns++ [x.t]):=by
  have a:=p.row;unfold Row;rw[List.length_append,List.flatMap_append, <-Z54];simp only[Z0S] at a;have k:cNN x=cN x.t:=rfl;rw[k] at a;simpa using a
 exact h.putN _ f (fun n d=>by
  rcases List.mem_append.1 d with d | d
  {exact h.smN n d}
  · have e:n=x.t:=by simpa using d
    rw[e]; exact m) ⟨p.up,by have a:=p.cell; simp only[Z0S] at a; rw[List.length_append]; simpa using a,p.rest,p.fz,p.new,fun b hb=>h.rN.lt b hb⟩
def Z59 (W1:World) (bp ob:Nat) (t:TB) (r:Nat) (W:World) (a:List (List UInt8)×List Tm):Prop:= ∃R,JX W1 bp ob t r W a.1 [] [] a.2 R
theorem ZeF {W1 W W':World} {bp b r:Nat} {t:TB} {a:List (List UInt8)×List Tm} (h:Z59 W1 bp b t r W a) (c:UpT [bp] W W'):Z59 W1 bp b t r W' a:=by
 obtain ⟨R,h⟩:=h;exact ⟨R,h.keep c⟩
theorem ZfD (bp:Nat) (A:Option Addr) (c:Nat) (l:List Tk) (m:Nat) (P:TokOk l) (hE:ExC bp A c l m) (W1:World) (pb B:Nat) (t:TB) (s:PBox W1 pb bp B):
 Reads bp A c l 164 (.pointer (some ⟨B,0,none⟩)) (.pointer (some ⟨pb,0,none⟩)) (Z59 W1 bp B t) (Pso.recR l (Pso.expr l m)) m:=by
 intro r w τ a hr hτ hm hP hJ;obtain ⟨R,b⟩:=hJ;have HL:=Y1 P;have a2:=P.len;have O:Ok l τ:=hτ;have g0:τ.1<=τ.1:=Nat.le_refl _;have Q:=Pso.to_another O a.1;have N:τ.1<=(Pso.another l τ a.1).2.1:=Nat.le_trans g0 Q.2.1;have S:=Pso.to_want Q.1 [61];have X:τ.1<=(want l (Pso.another l τ a.1).2 [61]).1:=Nat.le_trans N S.2.1;have t3:=Pso.to_expr m _ S.1;have Y:τ.1<=(Pso.expr l m (want l (Pso.another l τ a.1).2 [61])).2.1:=Nat.le_trans X t3.2.1;have E:=Y1 b.je;have g:=Y1 b;have j:=Y1 s;have HM:=Y1 hm;have HE:=Y1 hE;have T1:=Y1 Q;have G1:=Y1 N;have T2:=Y1 S;have G2:=Y1 X;have T3:=Y1 t3;have G3:=Y1 Y;have H0:=Y1 O;obtain ⟨hc,H⟩:=s.on b.je.up;have hA: ∀W,Below w.heap.size w W->Calls Tryz.prog 91 #[.pointer (some ⟨bp,0,none⟩),.slice R.AN R.ns.length R.cn,.func (.func 92) #[.pointer (some ⟨bp,0,none⟩)] #[]] W fun e w'=>e= .returned (.string ⟨(Pso.name l τ).1.toArray⟩)/\PAt w' bp A c l (Pso.another l τ a.1).2/\UpT [bp] W w':=fun W hW=>by
  have:=Z2b bp A c l τ W1.heap.size R.AN R.cn R.ns (by omega) O.1 P.txt (by have:=b.ln; omega) W (hP.below hW) (b.je.rN.below hW) (Nat.lt_trans b.je.bpob b.je.lt);rw[b.en] at this ⊢;exact this
 have HA:=Y1 hA;clear hA;clear hP b s hm P O hτ g0 Q N S X t3 Y hE;go_enter Tryz.func164,Tryz.ntmps164;have d:=E.out
 go_wp2_with fail
 refine prgA _ 2 0 1 26 4 91 ⟨w,bp,A,c,l,(Pso.another l τ a.1).2,B,4,W1.heap.size,R.AN,R.cn,enOf R.ns,(fun x=>x.t=(Pso.name l τ).1),92⟩ (d.goodN (by have:=g.out.ln; omega)) pb hc H j.out.ne (fun uu=> { tmps:=#[.pointer (some ⟨B,0,none⟩),.pointer (some ⟨pb,0,none⟩),uu 0,uu 1,uu 2,uu 3,uu 4,uu 5,uu 6,uu 7,uu 8,uu 9,uu 10,uu 11,uu 12,uu 13,uu 14,undef,undef,undef,undef,undef,undef,undef,undef,undef,undef,undef,undef,undef,undef],defers:= [] }) (fun _=>undef)
  ⟨fun i o h u v=>by
   rcases i with _ | _ | _ | _ | _ | _ | _ | _ | _ | _ | _ | _ | _ | _ | _ | _ | i
   all_goals first | (cases h; rfl) | exact absurd h (by simp[plnA]),fun _=>rfl,fun _=>rfl,fun _=>rfl,fun _=>rfl,fun _=>rfl,fun _=>rfl,fun _=>rfl,fun _=>rfl,fun _=>rfl,fun _=>rfl,fun _=>rfl,fun _=>rfl,fun _=>rfl,fun _=>rfl,fun _=>rfl,fun _=>rfl,fun _=>rfl⟩
  (fun W=>by go_simp <;> rfl) (enters_of Tryz.func91 (by kernel_rfl) rfl) (fun W hW=>by
   show Calls Tryz.prog _ #[.pointer (some ⟨bp,0,none⟩),.slice R.AN (enOf R.ns).length R.cn,.func (.func 92) #[.pointer (some ⟨bp,0,none⟩)] #[]] W _;rw[Z0S];exact (HA.out W hW).mono (fun e W' h=>⟨⟨(Pso.name l τ).1,W'.heap.size,W'.heap.size⟩,h.1,h.2.1,h.2.2,⟨Nat.le_refl _,fun _ _ _=>trivial⟩,h.2.2.size,rfl⟩)) (fun u1 w1 x1 N cp1 p=> ?_)
 have z:x1.t=(Pso.name l τ).1:=p.r;have n:=Y1 (d.postN (by rw[z]; exact Z0q HL.out.txt _ 1 (by decide) _) p);have C:=Y1 (show PAt w1 bp A c l (Pso.another l τ a.1).2 from p.par);have V:=Y1 z;clear p z d HA hc H E;obtain ⟨Z,I⟩:=j.out.on n.out.up
 go_wp2_with fail
 refine (Z0d bp A c l (Pso.another l τ a.1).2 [61] (by omega) T1.out.1.1 w1 C.out).mono ?_;rintro e w2 ⟨v2,rfl,J,K⟩;have D:=Y1 J;have q:=Y1 (n.out.keep K);clear J K C n Z I;obtain ⟨G,k⟩:=j.out.on q.out.up
 go_wp2_with fail
 have f:=q.out;refine regT _ 22 0 1 26 7 36 ⟨w2,bp,A,c,l,(Pso.expr l m (want l (Pso.another l τ a.1).2 [61])).2,B,7,W1.heap.size,_,_,_,(fun x=>x.t=(Pso.expr l m (want l (Pso.another l τ a.1).2 [61])).1/\few x.t=true)⟩ (f.goodT (by have:=g.out.lp; simp; try omega)) pb G k j.out.ne (fun uu=> { tmps:=#[.pointer (some ⟨B,0,none⟩),.pointer (some ⟨pb,0,none⟩),u1 0,u1 1,u1 2,u1 3,u1 4,u1 5,u1 6,u1 7,u1 8,u1 9,u1 10,u1 11,u1 12,u1 13,u1 14,.pointer (some ⟨bp,0,none⟩),.pointer (some ⟨bp,0,none⟩),.pointer (some ⟨bp,0,none⟩),.slice (some ⟨w1.heap.size,0,none⟩) 1 1,.string v2,uu 0,uu 1,uu 2,uu 3,uu 4,uu 5,uu 6,uu 7,uu 9],defers:= [] }) (fun _=>undef)
  ⟨fun i o h u v=>by
   rcases i with _ | _ | _ | _ | _ | _ | _ | _ | _ | _ | _ | i
   all_goals first | (cases h; rfl) | exact absurd h (by simp[opsT]),fun _=>rfl,fun _=>rfl,fun _=>rfl,fun _=>rfl,fun _=>rfl,fun _=>rfl,fun _=>rfl,fun _=>rfl,fun _=>rfl,fun _=>rfl,fun _=>rfl⟩
  (fun W=>by go_simp <;> rfl) (enters_of Tryz.func36 (by kernel_rfl) rfl) (fun W hW=>HE.out W _ T2.out.1 (by have:=G2.out; have:=HM.out; omega) (D.out.below hW)) (fun u3 w3 x3 Y cp3 p=> ?_)
 have L:=p.r;have U:=Y1 (f.postT p);have T:=Y1 (show PAt w3 bp A c l (Pso.expr l m (want l (Pso.another l τ a.1).2 [61])).2 from p.par);have F:=Y1 (show x3.t=(Pso.expr l m (want l (Pso.another l τ a.1).2 [61])).1/\few x3.t=true from L);clear p L f G k D q
 go_end0
 refine ⟨rfl,T.out,_,U.out, ?_, ?_, ?_, ?_, ?_, ?_, ?_, ?_, ?_⟩
 {simp only; rw[g.out.en,V.out]; rfl}
 {exact g.out.ev}
 {exact g.out.es}
 {simp only; rw[List.map_append,g.out.ep,List.map_singleton,F.out.1]; rfl}
 {have:=g.out.ln; simp; try omega}
 {have:=g.out.lv; simp; try omega}
 {have:=g.out.ls; simp; try omega}
 {have:=g.out.lp; simp; try omega}
 {intro y M;rcases List.mem_append.1 M with M | M
  {exact g.out.fw y M}
  {have e:y=x3:=by simpa using M
   rw[e]; exact F.out.2}}
def Z3m (W1:World) (bp ob:Nat) (t:TB) (r:Nat) (W:World) (a:List (List UInt8)×List Sh):Prop:= ∃R,JX W1 bp ob t r W a.1 [] a.2 [] R
theorem ZbL {W1 W W':World} {bp b r:Nat} {t:TB} {a:List (List UInt8)×List Sh} (h:Z3m W1 bp b t r W a) (c:UpT [bp] W W'):Z3m W1 bp b t r W' a:=by
 obtain ⟨R,h⟩:=h;exact ⟨R,h.keep c⟩
theorem Zdq (bp:Nat) (A:Option Addr) (c:Nat) (l:List Tk) (m:Nat) (M:TokOk l) (W1:World) (pb z:Nat) (t:TB) (s:PBox W1 pb bp z):
 Reads bp A c l 90 (.pointer (some ⟨z,0,none⟩)) (.pointer (some ⟨pb,0,none⟩)) (Z3m W1 bp z t) (Pso.bindsR l) m:=by
 intro r w τ a hr hτ hm hP hJ;obtain ⟨R,b⟩:=hJ;have P:=Y1 M;have a1:=M.len;have L:Ok l τ:=hτ;have g0:τ.1<=τ.1:=Nat.le_refl _;have N:=Pso.to_another L a.1;have K:τ.1<=(Pso.another l τ a.1).2.1:=Nat.le_trans g0 N.2.1;have O:=Pso.to_want N.1 [58];have V:τ.1<=(want l (Pso.another l τ a.1).2 [58]).1:=Nat.le_trans K O.2.1;have Z:=Pso.to_wholeT _ O.1;have X:τ.1<=(Pso.wholeT l (want l (Pso.another l τ a.1).2 [58])).2.1:=Nat.le_trans V Z.2.1;have D:=Y1 b.je;have g:=Y1 b;have j:=Y1 s;have HM:=Y1 hm;have T1:=Y1 N;have G1:=Y1 K;have T2:=Y1 O;have G2:=Y1 V;have T3:=Y1 Z;have G3:=Y1 X;have H0:=Y1 L;obtain ⟨hc,F⟩:=s.on b.je.up;have hA: ∀W,Below w.heap.size w W->Calls Tryz.prog 91 #[.pointer (some ⟨bp,0,none⟩),.slice R.AN R.ns.length R.cn,.func (.func 92) #[.pointer (some ⟨bp,0,none⟩)] #[]] W fun e w'=>e= .returned (.string ⟨(Pso.name l τ).1.toArray⟩)/\PAt w' bp A c l (Pso.another l τ a.1).2/\UpT [bp] W w':=fun W hW=>by
  have:=Z2b bp A c l τ W1.heap.size R.AN R.cn R.ns (by omega) L.1 M.txt (by have:=b.ln; omega) W (hP.below hW) (b.je.rN.below hW) (Nat.lt_trans b.je.bpob b.je.lt);rw[b.en] at this ⊢;exact this
 have HA:=Y1 hA;clear hA;clear hP b s hm M L hτ g0 N K O V Z X;go_enter Tryz.func90,Tryz.ntmps90;have d:=D.out
 go_wp2_with fail
 refine prgA _ 2 0 1 26 4 91 ⟨w,bp,A,c,l,(Pso.another l τ a.1).2,z,4,W1.heap.size,R.AN,R.cn,enOf R.ns,(fun x=>x.t=(Pso.name l τ).1),92⟩ (d.goodN (by have:=g.out.ln; omega)) pb hc F j.out.ne (fun uu=> { tmps:=#[.pointer (some ⟨z,0,none⟩),.pointer (some ⟨pb,0,none⟩),uu 0,uu 1,uu 2,uu 3,uu 4,uu 5,uu 6,uu 7,uu 8,uu 9,uu 10,uu 11,uu 12,uu 13,uu 14,undef,undef,undef,undef,undef,undef,undef,undef,undef,undef,undef,undef,undef,undef],defers:= [] }) (fun _=>undef)
  ⟨fun i o h u v=>by
   rcases i with _ | _ | _ | _ | _ | _ | _ | _ | _ | _ | _ | _ | _ | _ | _ | _ | i
   all_goals first | (cases h; rfl) | exact absurd h (by simp[plnA]),fun _=>rfl,fun _=>rfl,fun _=>rfl,fun _=>rfl,fun _=>rfl,fun _=>rfl,fun _=>rfl,fun _=>rfl,fun _=>rfl,fun _=>rfl,fun _=>rfl,fun _=>rfl,fun _=>rfl,fun _=>rfl,fun _=>rfl,fun _=>rfl,fun _=>rfl⟩
  (fun W=>by go_simp <;> rfl) (enters_of Tryz.func91 (by kernel_rfl) rfl) (fun W hW=>by
   show Calls Tryz.prog _ #[.pointer (some ⟨bp,0,none⟩),.slice R.AN (enOf R.ns).length R.cn,.func (.func 92) #[.pointer (some ⟨bp,0,none⟩)] #[]] W _;rw[Z0S];exact (HA.out W hW).mono (fun e W' h=>⟨⟨(Pso.name l τ).1,W'.heap.size,W'.heap.size⟩,h.1,h.2.1,h.2.2,⟨Nat.le_refl _,fun _ _ _=>trivial⟩,h.2.2.size,rfl⟩)) (fun u1 w1 x1 K cp1 p=> ?_)
 have y:x1.t=(Pso.name l τ).1:=p.r;have n:=Y1 (d.postN (by rw[y]; exact Z0q P.out.txt _ 1 (by decide) _) p);have B:=Y1 (show PAt w1 bp A c l (Pso.another l τ a.1).2 from p.par);have T:=Y1 y;clear p y d HA hc F D;obtain ⟨Y,G⟩:=j.out.on n.out.up
 go_wp2_with fail
 refine (Z0d bp A c l (Pso.another l τ a.1).2 [58] (by omega) T1.out.1.1 w1 B.out).mono ?_;rintro e w2 ⟨v2,rfl,H,I⟩;have C:=Y1 H;have q:=Y1 (n.out.keep I);clear H I B n Y G;obtain ⟨E,k⟩:=j.out.on q.out.up
 go_wp2_with fail
 have f:=q.out;refine regS _ 22 0 1 26 6 39 ⟨w2,bp,A,c,l,(Pso.wholeT l (want l (Pso.another l τ a.1).2 [58])).2,z,6,W1.heap.size,_,_,_,(fun x=>x.t=(Pso.wholeT l (want l (Pso.another l τ a.1).2 [58])).1)⟩ (f.goodS (by have:=g.out.ls; simp; try omega)) pb E k j.out.ne (fun uu=> { tmps:=#[.pointer (some ⟨z,0,none⟩),.pointer (some ⟨pb,0,none⟩),u1 0,u1 1,u1 2,u1 3,u1 4,u1 5,u1 6,u1 7,u1 8,u1 9,u1 10,u1 11,u1 12,u1 13,u1 14,.pointer (some ⟨bp,0,none⟩),.pointer (some ⟨bp,0,none⟩),.pointer (some ⟨bp,0,none⟩),.slice (some ⟨w1.heap.size,0,none⟩) 1 1,.string v2,uu 0,uu 1,uu 2,uu 3,uu 4,uu 5,uu 6,uu 7,uu 9],defers:= [] }) (fun _=>undef)
  ⟨fun i o h u v=>by
   rcases i with _ | _ | _ | _ | _ | _ | _ | _ | _ | _ | _ | i
   all_goals first | (cases h; rfl) | exact absurd h (by simp[opsS]),fun _=>rfl,fun _=>rfl,fun _=>rfl,fun _=>rfl,fun _=>rfl,fun _=>rfl,fun _=>rfl,fun _=>rfl,fun _=>rfl,fun _=>rfl,fun _=>rfl⟩
  (fun W=>by go_simp <;> rfl) (enters_of Tryz.func39 (by kernel_rfl) rfl) (fun W hW=>Z0P bp A c l P.out.len P.out.txt (want l (Pso.another l τ a.1).2 [58]) T2.out.1 W (C.out.below hW)) (fun u3 w3 x3 X cp3 p=> ?_)
 have J:=p.r;have S:=Y1 (f.postS p);have Q:=Y1 (show PAt w3 bp A c l (Pso.wholeT l (want l (Pso.another l τ a.1).2 [58])).2 from p.par);have U:=Y1 (show x3.t=(Pso.wholeT l (want l (Pso.another l τ a.1).2 [58])).1 from J);clear p J f E k C q
 go_end0
 refine ⟨rfl,Q.out,_,S.out, ?_, ?_, ?_, ?_, ?_, ?_, ?_, ?_, ?_⟩
 {simp only; rw[g.out.en,T.out]; rfl}
 {exact g.out.ev}
 {simp only; rw[List.map_append,g.out.es,List.map_singleton,U.out]; rfl}
 {exact g.out.ep}
 {have:=g.out.ln; simp; try omega}
 {have:=g.out.lv; simp; try omega}
 {have:=g.out.ls; simp; try omega}
 {have:=g.out.lp; simp; try omega}
 {exact g.out.fw}
def Z4e (W1:World) (bp ob:Nat) (t:TB) (r:Nat) (W:World) (a:List Tm):Prop:= ∃R,JX W1 bp ob t r W [] [] [] a R
theorem Zdr {W1 W W':World} {bp b r:Nat} {t:TB} {a:List Tm} (h:Z4e W1 bp b t r W a) (c:UpT [bp] W W'):Z4e W1 bp b t r W' a:=by
 obtain ⟨R,h⟩:=h;exact ⟨R,h.keep c⟩
theorem ZeG (bp:Nat) (A:Option Addr) (c:Nat) (l:List Tk) (m:Nat) (G:TokOk l) (L:ExC bp A c l m) (W1:World) (pb q:Nat) (t:TB) (g:PBox W1 pb bp q):
 Reads bp A c l 96 (.pointer (some ⟨q,0,none⟩)) (.pointer (some ⟨pb,0,none⟩)) (Z4e W1 bp q t) (Pso.argsR l (Pso.expr l m)) m:=by
 intro r w τ a hr hτ hm hP hJ;obtain ⟨R,f⟩:=hJ;have S:=Y1 G;have J:=G.len;have F:Ok l τ:=hτ;have K:τ.1<=τ.1:=Nat.le_refl _;have I:=Pso.to_expr m _ F;have E:τ.1<=(Pso.expr l m τ).2.1:=Nat.le_trans K I.2.1;have C:=Y1 f.je;have d:=Y1 f;have B:=Y1 g;have O:=Y1 hm;have N:=Y1 L;have T:=Y1 I;have Q:=Y1 E;have M:=Y1 F;obtain ⟨P,H⟩:=g.on f.je.up;have s:=Y1 hP;clear hP f g hm G F hτ K I E L;go_enter Tryz.func96,Tryz.ntmps96;have b:=C.out;refine regT _ 2 0 1 26 7 36 ⟨w,bp,A,c,l,(Pso.expr l m τ).2,q,7,W1.heap.size,_,_,_,(fun x=>x.t=(Pso.expr l m τ).1/\few x.t=true)⟩ (b.goodT (by have:=d.out.lp; simp; try omega)) pb P H B.out.ne (fun uu=> { tmps:=#[.pointer (some ⟨q,0,none⟩),.pointer (some ⟨pb,0,none⟩),uu 0,uu 1,uu 2,uu 3,uu 4,uu 5,uu 6,uu 7,uu 9],defers:= [] }) (fun _=>undef)
  ⟨fun i o h u v=>by
   rcases i with _ | _ | _ | _ | _ | _ | _ | _ | _ | _ | _ | i
   all_goals first | (cases h; rfl) | exact absurd h (by simp[opsT]),fun _=>rfl,fun _=>rfl,fun _=>rfl,fun _=>rfl,fun _=>rfl,fun _=>rfl,fun _=>rfl,fun _=>rfl,fun _=>rfl,fun _=>rfl,fun _=>rfl⟩
  (fun W=>by go_simp <;> rfl) (enters_of Tryz.func36 (by kernel_rfl) rfl) (fun W hW=>N.out W _ M.out O.out (s.out.below hW)) (fun u1 w1 x1 E cp1 p=> ?_)
 have k:=p.r;have D:=Y1 (b.postT p);have z:=Y1 (show PAt w1 bp A c l (Pso.expr l m τ).2 from p.par);have j:=Y1 (show x1.t=(Pso.expr l m τ).1/\few x1.t=true from k);clear p k b 
 go_end0
 refine ⟨rfl,z.out,_,D.out, ?_, ?_, ?_, ?_, ?_, ?_, ?_, ?_, ?_⟩
 {exact d.out.en}
 {exact d.out.ev}
 {exact d.out.es}
 {simp only; rw[List.map_append,d.out.ep,List.map_singleton,j.out.1]; rfl}
 {have:=d.out.ln; simp only; omega}
 {have:=d.out.lv; simp; try omega}
 {have:=d.out.ls; simp; try omega}
 {have:=d.out.lp; simp; try omega}
 {intro y n;rcases List.mem_append.1 n with n | n
  {exact d.out.fw y n}
  {have e:y=x1:=by simpa using n
   rw[e]; exact j.out.2}}
def Z4f (W1:World) (bp ob:Nat) (t:TB) (r:Nat) (W:World) (a:Pso.Ways):Prop:= ∃R,JX W1 bp ob t r W a.names a.vars a.shapes a.parts R
theorem Zds {W1 W W':World} {bp b r:Nat} {t:TB} {a:Pso.Ways} (h:Z4f W1 bp b t r W a) (c:UpT [bp] W W'):Z4f W1 bp b t r W' a:=by
 obtain ⟨R,h⟩:=h;exact ⟨R,h.keep c⟩
theorem ZeH (bp:Nat) (A:Option Addr) (c:Nat) (l:List Tk) (m:Nat) (hl:TokOk l) (hE:ExC bp A c l m) (W1:World) (pb q:Nat) (t:TB) (J:PBox W1 pb bp q):
 Reads bp A c l 94 (.pointer (some ⟨q,0,none⟩)) (.pointer (some ⟨pb,0,none⟩)) (Z4f W1 bp q t) (Pso.wayR l (Pso.expr l m)) m:=by
 intro r w τ a hr hτ hm hP hJ;obtain ⟨R,d⟩:=hJ;have M:=Y1 hl;have f3:=hl.len;have h0:Ok l τ:=hτ;have g0:τ.1<=τ.1:=Nat.le_refl _;have t1:=Pso.to_another h0 a.names;have g1:τ.1<=(Pso.another l τ a.names).2.1:=Nat.le_trans g0 t1.2.1;have t2:=Pso.to_want t1.1 [40];have g2:τ.1<=(want l (Pso.another l τ a.names).2 [40]).1:=Nat.le_trans g1 t2.2.1;have t3:=Pso.to_name t2.1;have g3:τ.1<=(Pso.name l (want l (Pso.another l τ a.names).2 [40])).2.1:=Nat.le_trans g2 t3.2.1;have t4:=Pso.to_want t3.1 [58];have g4:τ.1<=(want l (Pso.name l (want l (Pso.another l τ a.names).2 [40])).2 [58]).1:=Nat.le_trans g3 t4.2.1;have t5:=Pso.to_wholeT _ t4.1;have g5:τ.1<=(Pso.wholeT l (want l (Pso.name l (want l (Pso.another l τ a.names).2 [40])).2 [58])).2.1:=Nat.le_trans g4 t5.2.1;have t6:=Pso.to_want t5.1 [41];have g6:τ.1<=(want l (Pso.wholeT l (want l (Pso.name l (want l (Pso.another l τ a.names).2 [40])).2 [58])).2 [41]).1:=Nat.le_trans g5 t6.2.1;have t7:=Pso.to_want t6.1 [45,62];have g7:τ.1<=(want l (want l (Pso.wholeT l (want l (Pso.name l (want l (Pso.another l τ a.names).2 [40])).2 [58])).2 [41]) [45,62]).1:=Nat.le_trans g6 t7.2.1;have t8:=Pso.to_expr m _ t7.1;have g8:τ.1<=(Pso.expr l m (want l (want l (Pso.wholeT l (want l (Pso.name l (want l (Pso.another l τ a.names).2 [40])).2 [58])).2 [41]) [45,62])).2.1:=Nat.le_trans g7 t8.2.1;have V:=Y1 d.je;have f:=Y1 d;have b:=Y1 J;have HM:=Y1 hm;have HE:=Y1 hE;have T1:=Y1 t1;have G1:=Y1 g1;have T2:=Y1 t2;have G2:=Y1 g2;have T3:=Y1 t3;have G3:=Y1 g3;have T4:=Y1 t4;have G4:=Y1 g4;have T5:=Y1 t5;have G5:=Y1 g5;have T6:=Y1 t6;have G6:=Y1 g6;have T7:=Y1 t7;have G7:=Y1 g7;have T8:=Y1 t8;have G8:=Y1 g8;have H0:=Y1 h0;obtain ⟨hc,a1⟩:=J.on d.je.up;have hA: ∀W,Below w.heap.size w W->Calls Tryz.prog 91 #[.pointer (some ⟨bp,0,none⟩),.slice R.AN R.ns.length R.cn,.func (.func 92) #[.pointer (some ⟨bp,0,none⟩)] #[]] W fun e w'=>e= .returned (.string ⟨(Pso.name l τ).1.toArray⟩)/\PAt w' bp A c l (Pso.another l τ a.names).2/\UpT [bp] W w':=fun W hW=>by
  have:=Z2b bp A c l τ W1.heap.size R.AN R.cn R.ns (by omega) h0.1 hl.txt (by have:=d.ln; omega) W (hP.below hW) (d.je.rN.below hW) (Nat.lt_trans d.je.bpob d.je.lt);rw[d.en] at this ⊢;exact this
 have HA:=Y1 hA;clear hA;clear hP d J hm hl h0 hτ g0 t1 g1 t2 g2 t3 g3 t4 g4 t5 g5 t6 g6 t7 g7 t8 g8 hE;go_enter Tryz.func94,Tryz.ntmps94;have g:=V.out
 go_wp2_with fail
 refine prgA _ 2 0 1 26 4 91 ⟨w,bp,A,c,l,(Pso.another l τ a.names).2,q,4,W1.heap.size,R.AN,R.cn,enOf R.ns,(fun x=>x.t=(Pso.name l τ).1),92⟩ (g.goodN (by have:=f.out.ln; omega)) pb hc a1 b.out.ne (fun uu=> { tmps:=#[.pointer (some ⟨q,0,none⟩),.pointer (some ⟨pb,0,none⟩),uu 0,uu 1,uu 2,uu 3,uu 4,uu 5,uu 6,uu 7,uu 8,uu 9,uu 10,uu 11,uu 12,uu 13,uu 14,undef,undef,undef,undef,undef,undef,undef,undef,undef,undef,undef,undef,undef,undef,undef,undef,undef,undef,undef,undef,undef,undef,undef,undef,undef,undef,undef,undef,undef,undef,undef,undef,undef,undef,undef,undef,undef,undef,undef,undef,undef,undef,undef,undef,undef,undef,undef],defers:= [] }) (fun _=>undef)
  ⟨fun i o h u v=>by
   rcases i with _ | _ | _ | _ | _ | _ | _ | _ | _ | _ | _ | _ | _ | _ | _ | _ | i
   all_goals first | (cases h; rfl) | exact absurd h (by simp[plnA]),fun _=>rfl,fun _=>rfl,fun _=>rfl,fun _=>rfl,fun _=>rfl,fun _=>rfl,fun _=>rfl,fun _=>rfl,fun _=>rfl,fun _=>rfl,fun _=>rfl,fun _=>rfl,fun _=>rfl,fun _=>rfl,fun _=>rfl,fun _=>rfl,fun _=>rfl⟩
  (fun W=>by go_simp <;> rfl) (enters_of Tryz.func91 (by kernel_rfl) rfl) (fun W hW=>by
   show Calls Tryz.prog _ #[.pointer (some ⟨bp,0,none⟩),.slice R.AN (enOf R.ns).length R.cn,.func (.func 92) #[.pointer (some ⟨bp,0,none⟩)] #[]] W _;rw[Z0S];exact (HA.out W hW).mono (fun e W' h=>⟨⟨(Pso.name l τ).1,W'.heap.size,W'.heap.size⟩,h.1,h.2.1,h.2.2,⟨Nat.le_refl _,fun _ _ _=>trivial⟩,h.2.2.size,rfl⟩)) (fun u1 w1 x1 g1 cp1 p=> ?_)
 have K:x1.t=(Pso.name l τ).1:=p.r;have C:=Y1 (g.postN (by rw[K]; exact Z0q M.out.txt _ 1 (by decide) _) p);have N:=Y1 (show PAt w1 bp A c l (Pso.another l τ a.names).2 from p.par);have d8:=Y1 K;clear p K g HA hc a1 V;obtain ⟨e6,a2⟩:=b.out.on C.out.up
 go_wp2_with fail
 refine (Z0d bp A c l (Pso.another l τ a.names).2 [40] (by omega) T1.out.1.1 w1 N.out).mono ?_;rintro e w2 ⟨v2,rfl,a6,b0⟩;have O:=Y1 a6;have D:=Y1 (C.out.keep b0);clear a6 b0 N C e6 a2;obtain ⟨Y,s⟩:=b.out.on D.out.up
 go_wp2_with fail
 have j:=D.out;refine prgN _ 22 0 1 26 5 92 ⟨w2,bp,A,c,l,(Pso.name l (want l (Pso.another l τ a.names).2 [40])).2,q,5,W1.heap.size,_,_,enOf _,(fun x=>x.t=(Pso.name l (want l (Pso.another l τ a.names).2 [40])).1),0⟩ (j.goodV (by have:=f.out.lv; simp; try omega)) pb Y s b.out.ne (fun uu=> { tmps:=#[.pointer (some ⟨q,0,none⟩),.pointer (some ⟨pb,0,none⟩),u1 0,u1 1,u1 2,u1 3,u1 4,u1 5,u1 6,u1 7,u1 8,u1 9,u1 10,u1 11,u1 12,u1 13,u1 14,.pointer (some ⟨bp,0,none⟩),.pointer (some ⟨bp,0,none⟩),.pointer (some ⟨bp,0,none⟩),.slice (some ⟨w1.heap.size,0,none⟩) 1 1,.string v2,uu 0,uu 1,uu 2,uu 3,uu 4,uu 5,uu 6,uu 7,uu 8,undef,undef,undef,undef,undef,undef,undef,undef,undef,undef,undef,undef,undef,undef,undef,undef,undef,undef,undef,undef,undef,undef,undef,undef,undef,undef,undef,undef,undef,undef,undef,undef,undef],defers:= [] }) (fun _=>undef)
  ⟨fun i o h u v=>by
   rcases i with _ | _ | _ | _ | _ | _ | _ | _ | _ | _ | i
   all_goals first | (cases h; rfl) | exact absurd h (by simp[plnN]),fun _=>rfl,fun _=>rfl,fun _=>rfl,fun _=>rfl,fun _=>rfl,fun _=>rfl,fun _=>rfl,fun _=>rfl,fun _=>rfl,fun _=>rfl,fun _=>rfl⟩
  (fun W=>by go_simp <;> rfl) (enters_of Tryz.func92 (by kernel_rfl) rfl) (fun W hW=>(Z1a bp A c l (want l (Pso.another l τ a.names).2 [40]) (by omega) T2.out.1.1 M.out.txt W (O.out.below hW)).mono (fun e W' h=>⟨⟨(Pso.name l (want l (Pso.another l τ a.names).2 [40])).1,W'.heap.size,W'.heap.size⟩,h.1,h.2.1,h.2.2,⟨Nat.le_refl _,fun _ _ _=>trivial⟩,h.2.2.size,rfl⟩)) (fun u3 w3 x g3 cp3 p=> ?_)
 have L:x.t=(Pso.name l (want l (Pso.another l τ a.names).2 [40])).1:=p.r;have E:=Y1 (j.postV (by rw[L]; exact Z0q M.out.txt _ 1 (by decide) _) p);have P:=Y1 (show PAt w3 bp A c l (Pso.name l (want l (Pso.another l τ a.names).2 [40])).2 from p.par);have d9:=Y1 L;clear p L j Y s O D;obtain ⟨e7,a3⟩:=b.out.on E.out.up
 go_wp2_with fail
 refine (Z0d bp A c l (Pso.name l (want l (Pso.another l τ a.names).2 [40])).2 [58] (by omega) T3.out.1.1 w3 P.out).mono ?_;rintro e w4 ⟨v4,rfl,a7,b1⟩;have Q:=Y1 a7;have F:=Y1 (E.out.keep b1);clear a7 b1 P E e7 a3;obtain ⟨Z,z⟩:=b.out.on F.out.up
 go_wp2_with fail
 have k:=F.out;refine regS _ 36 0 1 26 6 39 ⟨w4,bp,A,c,l,(Pso.wholeT l (want l (Pso.name l (want l (Pso.another l τ a.names).2 [40])).2 [58])).2,q,6,W1.heap.size,_,_,_,(fun x=>x.t=(Pso.wholeT l (want l (Pso.name l (want l (Pso.another l τ a.names).2 [40])).2 [58])).1)⟩ (k.goodS (by have:=f.out.ls; simp; try omega)) pb Z z b.out.ne (fun uu=> { tmps:=#[.pointer (some ⟨q,0,none⟩),.pointer (some ⟨pb,0,none⟩),u1 0,u1 1,u1 2,u1 3,u1 4,u1 5,u1 6,u1 7,u1 8,u1 9,u1 10,u1 11,u1 12,u1 13,u1 14,.pointer (some ⟨bp,0,none⟩),.pointer (some ⟨bp,0,none⟩),.pointer (some ⟨bp,0,none⟩),.slice (some ⟨w1.heap.size,0,none⟩) 1 1,.string v2,u3 0,u3 1,u3 2,u3 3,u3 4,u3 5,u3 6,u3 7,u3 8,.pointer (some ⟨bp,0,none⟩),.pointer (some ⟨bp,0,none⟩),.pointer (some ⟨bp,0,none⟩),.slice (some ⟨w3.heap.size,0,none⟩) 1 1,.string v4,uu 0,uu 1,uu 2,uu 3,uu 4,uu 5,uu 6,uu 7,uu 9,undef,undef,undef,undef,undef,undef,undef,undef,undef,undef,undef,undef,undef,undef,undef,undef,undef,undef,undef],defers:= [] }) (fun _=>undef)
  ⟨fun i o h u v=>by
   rcases i with _ | _ | _ | _ | _ | _ | _ | _ | _ | _ | _ | i
   all_goals first | (cases h; rfl) | exact absurd h (by simp[opsS]),fun _=>rfl,fun _=>rfl,fun _=>rfl,fun _=>rfl,fun _=>rfl,fun _=>rfl,fun _=>rfl,fun _=>rfl,fun _=>rfl,fun _=>rfl,fun _=>rfl⟩
  (fun W=>by go_simp <;> rfl) (enters_of Tryz.func39 (by kernel_rfl) rfl) (fun W hW=>Z0P bp A c l M.out.len M.out.txt (want l (Pso.name l (want l (Pso.another l τ a.names).2 [40])).2 [58]) T4.out.1 W (Q.out.below hW)) (fun u5 w5 x5 g5 cp5 p=> ?_)
 have b4:=p.r;have G:=Y1 (k.postS p);have S:=Y1 (show PAt w5 bp A c l (Pso.wholeT l (want l (Pso.name l (want l (Pso.another l τ a.names).2 [40])).2 [58])).2 from p.par);have e0:=Y1 (show x5.t=(Pso.wholeT l (want l (Pso.name l (want l (Pso.another l τ a.names).2 [40])).2 [58])).1 from b4);clear p b4 k Z z Q F;obtain ⟨e8,a4⟩:=b.out.on G.out.up
 go_wp2_with fail
 refine (Z0d bp A c l (Pso.wholeT l (want l (Pso.name l (want l (Pso.another l τ a.names).2 [40])).2 [58])).2 [41] (by omega) T5.out.1.1 w5 S.out).mono ?_;rintro e w6 ⟨v6,rfl,a8,b2⟩;have T:=Y1 a8;have H:=Y1 (G.out.keep b2);clear a8 b2 S G e8 a4;obtain ⟨e9,a5⟩:=b.out.on H.out.up
 go_wp2_with fail
 refine (Z0d bp A c l (want l (Pso.wholeT l (want l (Pso.name l (want l (Pso.another l τ a.names).2 [40])).2 [58])).2 [41]) [45,62] (by omega) T6.out.1.1 w6 T.out).mono ?_;rintro e w7 ⟨v7,rfl,a9,b3⟩;have U:=Y1 a9;have I:=Y1 (H.out.keep b3);clear a9 b3 T H e9 a5;obtain ⟨a0,B⟩:=b.out.on I.out.up
 go_wp2_with fail
 have n:=I.out;refine regT _ 55 0 1 26 7 36 ⟨w7,bp,A,c,l,(Pso.expr l m (want l (want l (Pso.wholeT l (want l (Pso.name l (want l (Pso.another l τ a.names).2 [40])).2 [58])).2 [41]) [45,62])).2,q,7,W1.heap.size,_,_,_,(fun x=>x.t=(Pso.expr l m (want l (want l (Pso.wholeT l (want l (Pso.name l (want l (Pso.another l τ a.names).2 [40])).2 [58])).2 [41]) [45,62])).1/\few x.t=true)⟩ (n.goodT (by have:=f.out.lp; simp; try omega)) pb a0 B b.out.ne (fun uu=> { tmps:=#[.pointer (some ⟨q,0,none⟩),.pointer (some ⟨pb,0,none⟩),u1 0,u1 1,u1 2,u1 3,u1 4,u1 5,u1 6,u1 7,u1 8,u1 9,u1 10,u1 11,u1 12,u1 13,u1 14,.pointer (some ⟨bp,0,none⟩),.pointer (some ⟨bp,0,none⟩),.pointer (some ⟨bp,0,none⟩),.slice (some ⟨w1.heap.size,0,none⟩) 1 1,.string v2,u3 0,u3 1,u3 2,u3 3,u3 4,u3 5,u3 6,u3 7,u3 8,.pointer (some ⟨bp,0,none⟩),.pointer (some ⟨bp,0,none⟩),.pointer (some ⟨bp,0,none⟩),.slice (some ⟨w3.heap.size,0,none⟩) 1 1,.string v4,u5 0,u5 1,u5 2,u5 3,u5 4,u5 5,u5 6,u5 7,u5 9,.pointer (some ⟨bp,0,none⟩),.pointer (some ⟨bp,0,none⟩),.pointer (some ⟨bp,0,none⟩),.slice (some ⟨w5.heap.size,0,none⟩) 1 1,.string v6,.pointer (some ⟨bp,0,none⟩),.pointer (some ⟨bp,0,none⟩),.pointer (some ⟨bp,0,none⟩),.slice (some ⟨w6.heap.size,0,none⟩) 1 1,.string v7,uu 0,uu 1,uu 2,uu 3,uu 4,uu 5,uu 6,uu 7,uu 9],defers:= [] }) (fun _=>undef)
  ⟨fun i o h u v=>by
   rcases i with _ | _ | _ | _ | _ | _ | _ | _ | _ | _ | _ | i
   all_goals first | (cases h; rfl) | exact absurd h (by simp[opsT]),fun _=>rfl,fun _=>rfl,fun _=>rfl,fun _=>rfl,fun _=>rfl,fun _=>rfl,fun _=>rfl,fun _=>rfl,fun _=>rfl,fun _=>rfl,fun _=>rfl⟩
  (fun W=>by go_simp <;> rfl) (enters_of Tryz.func36 (by kernel_rfl) rfl) (fun W hW=>HE.out W _ T7.out.1 (by have:=G7.out; have:=HM.out; omega) (U.out.below hW)) (fun u8 w8 x8 g8 cp8 p=> ?_)
 have b5:=p.r;have d7:=Y1 (n.postT p);have d6:=Y1 (show PAt w8 bp A c l (Pso.expr l m (want l (want l (Pso.wholeT l (want l (Pso.name l (want l (Pso.another l τ a.names).2 [40])).2 [58])).2 [41]) [45,62])).2 from p.par);have X:=Y1 (show x8.t=(Pso.expr l m (want l (want l (Pso.wholeT l (want l (Pso.name l (want l (Pso.another l τ a.names).2 [40])).2 [58])).2 [41]) [45,62])).1/\few x8.t=true from b5);clear p b5 n a0 B U I
 go_end0
 refine ⟨rfl,d6.out,_,d7.out, ?_, ?_, ?_, ?_, ?_, ?_, ?_, ?_, ?_⟩
 {simp only; rw[f.out.en,d8.out]; rfl}
 {simp only; rw[f.out.ev,d9.out]; rfl}
 {simp only; rw[List.map_append,f.out.es,List.map_singleton,e0.out]; rfl}
 {simp only; rw[List.map_append,f.out.ep,List.map_singleton,X.out.1]; rfl}
 {have:=f.out.ln; simp; try omega}
 {have:=f.out.lv; simp; try omega}
 {have:=f.out.ls; simp; try omega}
 {have:=f.out.lp; simp; try omega}
 {intro y hy;rcases List.mem_append.1 hy with hy | hy
  {exact f.out.fw y hy}
  {have e:y=x8:=by simpa using hy
   rw[e]; exact X.out.2}}
end
section
open Go.RowKit Tms
open Shp (Sh)
open Pso (St Ok Goes betw loop want)
section
variable {W1 W W' : World} {bp ob r r' g cp : Nat} {t : TB} {R : TR} {ns vs : List (List UInt8)} {ss : List Sh} {ps : List Tm}
theorem Z3N (t:TB) (a:R.ns=ns) (d:R.vs=vs) (c:R.S.map ES.t=ss) (b:R.L.map ET.t=ps):mkT t R=⟨t.kind,t.of_,t.name,t.n,ns,vs,ss,ps,t.at_⟩:=by
 unfold mkT; rw[a,d,c,b]
section
variable {A : Option Addr} {c : Nat} {l : List Tk} {τ : St}
include A c l τ
theorem JX.part {Q:ET->Prop} {u:Nat->Value} {x:ET} {q:Tm} (h:JX W1 bp ob t r W ns vs ss ps R) (b:r<=r') (f:R.L.length<=r') (p: (⟨W,bp,A,c,l,τ,ob,7,W1.heap.size,R.AP,R.cp,R.L,Q⟩:CtxT).PostX (fun _=>true) u W' x g cp) (d:x.t=q/\few x.t=true):
 JX W1 bp ob t r' W' ns vs ss (ps++ [q]) { R with AP:=some ⟨g,0,none⟩,cp:=cp,L:=R.L++ [x] }:=by
 refine ⟨h.je.postT p,h.en,h.ev,h.es, ?_,Nat.le_trans h.ln b,Nat.le_trans h.lv b,Nat.le_trans h.ls b, ?_, ?_⟩
 {simp only; rw[List.map_append,h.ep,List.map_singleton,d.1]}
 {simp; omega}
 {intro y a;rcases List.mem_append.1 a with a | a
  {exact h.fw y a}
  {have e:y=x:=by simpa using a
   rw[e]; exact d.2}}
theorem JX.shape {Q:ES->Prop} {u:Nat->Value} {x:ES} {q:Sh} (h:JX W1 bp ob t r W ns vs ss ps R) (p: (⟨W,bp,A,c,l,τ,ob,6,W1.heap.size,R.AS,R.cs,R.S,Q⟩:CtxS).PostX (fun _=>true) u W' x g cp) (a:x.t=q):
 JX W1 bp ob t (r+1) W' ns vs (ss++ [q]) ps { R with AS:=some ⟨g,0,none⟩,cs:=cp,S:=R.S++ [x] }:=by
 refine ⟨h.je.postS p,h.en,h.ev, ?_,h.ep,Nat.le_succ_of_le h.ln,Nat.le_succ_of_le h.lv, ?_,Nat.le_succ_of_le h.lp,h.fw⟩
 {simp only; rw[List.map_append,h.es,List.map_singleton,a]}
 {have:=h.ls; simp; omega}
end
theorem JE.goodT2 {W1 W:World} {bp ob:Nat} {t:TB} {R:TR} (h:JE W1 bp ob t R W) {A:Option Addr} {c:Nat} {l:List Tk} {τ:St} {Q:ET->Prop} (a:R.L.length<=900000): (⟨W,bp,A,c,l,τ,ob,7,W1.heap.size,R.AP,R.cp,R.L,Q⟩:PtxT).Good:=
 ⟨h.c7,h.fz 7,Nat.lt_of_lt_of_le h.lt h.up.size,h.bpob,h.rP,h.lt,Nat.lt_trans h.bpob h.lt,h.up.size,a⟩
theorem JE.goodS2 {W1 W:World} {bp ob:Nat} {t:TB} {R:TR} (h:JE W1 bp ob t R W) {A:Option Addr} {c:Nat} {l:List Tk} {τ:St} {Q:ES->Prop} (a:R.S.length<=900000): (⟨W,bp,A,c,l,τ,ob,6,W1.heap.size,R.AS,R.cs,R.S,Q⟩:PtxS).Good:=
 ⟨h.c6,h.fz 6,Nat.lt_of_lt_of_le h.lt h.up.size,h.bpob,h.rS,h.lt,Nat.lt_trans h.bpob h.lt,h.up.size,a⟩
section
variable {A : Option Addr} {c : Nat} {l : List Tk} {τ : St}
include A c l τ
theorem JX.part2 {Q:ET->Prop} {u:Nat->Value} {x:ET} {q:Tm} (h:JX W1 bp ob t r W ns vs ss ps R) (p: (⟨W,bp,A,c,l,τ,ob,7,W1.heap.size,R.AP,R.cp,R.L,Q⟩:PtxT).Post (fun _=>true) u W' x g cp) (f:x.t=q/\few x.t=true):
 JX W1 bp ob t (r+1) W' ns vs ss (ps++ [q]) { R with AP:=some ⟨g,0,none⟩,cp:=cp,L:=R.L++ [x] }:=by
 have a:Row W' W1.heap.size 26 9 cT (some ⟨g,0,none⟩) cp (R.L++ [x]):=by
  have:=p.row; unfold Row; rw[List.length_append,List.flatMap_append]; simpa using this
 have i:=h.je.putP x a p.is p.lo p.far ⟨p.up,by have:=p.cell; rw[List.length_append]; simpa using this,p.rest,p.fz,p.new,fun b hb=>h.je.rP.lt b hb⟩;refine ⟨i,h.en,h.ev,h.es, ?_,Nat.le_succ_of_le h.ln,Nat.le_succ_of_le h.lv,Nat.le_succ_of_le h.ls, ?_, ?_⟩
 {simp only; rw[List.map_append,h.ep,List.map_singleton,f.1]}
 {have:=h.lp; simp; omega}
 {intro y d;rcases List.mem_append.1 d with d | d
  {exact h.fw y d}
  {have e:y=x:=by simpa using d
   rw[e]; exact f.2}}
theorem JX.shape2 {Q:ES->Prop} {u:Nat->Value} {x:ES} {q:Sh} (h:JX W1 bp ob t r W ns vs ss ps R) (p: (⟨W,bp,A,c,l,τ,ob,6,W1.heap.size,R.AS,R.cs,R.S,Q⟩:PtxS).Post (fun _=>true) u W' x g cp) (e:x.t=q):
 JX W1 bp ob t (r+1) W' ns vs (ss++ [q]) ps { R with AS:=some ⟨g,0,none⟩,cs:=cp,S:=R.S++ [x] }:=by
 have a:Row W' W1.heap.size 43 5 cS (some ⟨g,0,none⟩) cp (R.S++ [x]):=by
  have:=p.row; unfold Row; rw[List.length_append,List.flatMap_append]; simpa using this
 have d:=h.je.putS x a p.is p.lo p.far ⟨p.up,by have:=p.cell; rw[List.length_append]; simpa using this,p.rest,p.fz,p.new,fun b hb=>h.je.rS.lt b hb⟩;refine ⟨d,h.en,h.ev, ?_,h.ep,Nat.le_succ_of_le h.ln,Nat.le_succ_of_le h.lv, ?_,Nat.le_succ_of_le h.lp,h.fw⟩
 {simp only; rw[List.map_append,h.es,List.map_singleton,e]}
 {have:=h.ls; simp; omega}
end
end
structure Nine (W:World) (b:Nat) (v0 v1 v2 v3 v4 v5 v6 v7 v8:Value):Prop where
 c0:W.cell? ⟨b,0,none⟩=some v0
 c1:W.cell? ⟨b,1,none⟩=some v1
 c2:W.cell? ⟨b,2,none⟩=some v2
 c3:W.cell? ⟨b,3,none⟩=some v3
 c4:W.cell? ⟨b,4,none⟩=some v4
 c5:W.cell? ⟨b,5,none⟩=some v5
 c6:W.cell? ⟨b,6,none⟩=some v6
 c7:W.cell? ⟨b,7,none⟩=some v7
 c8:W.cell? ⟨b,8,none⟩=some v8
 fz: ∀j,W.frozen? ⟨b,j,none⟩=false
 lt:b < W.heap.size
section
variable {W W' : World} {b : Nat} {v0 v1 v2 v3 v4 v5 v6 v7 v8 : Value}
theorem Nine.same (h:Nine W b v0 v1 v2 v3 v4 v5 v6 v7 v8) (a:SameT W W' b) (c:W.heap.size<=W'.heap.size):Nine W' b v0 v1 v2 v3 v4 v5 v6 v7 v8:=
 ⟨(a.1 0).trans h.c0,(a.1 1).trans h.c1,(a.1 2).trans h.c2,(a.1 3).trans h.c3,(a.1 4).trans h.c4,(a.1 5).trans h.c5,(a.1 6).trans h.c6,(a.1 7).trans h.c7,(a.1 8).trans h.c8,fun j=>(a.2 j).trans (h.fz j),Nat.lt_of_lt_of_le h.lt c⟩
theorem Nine.up {F:List Nat} (h:Nine W b v0 v1 v2 v3 v4 v5 v6 v7 v8) (a:UpT F W W') (c:b∉F):Nine W' b v0 v1 v2 v3 v4 v5 v6 v7 v8:=h.same (a.same h.lt c) a.size
theorem Nine.below (h:Nine W b v0 v1 v2 v3 v4 v5 v6 v7 v8) (a:Below W.heap.size W W'):Nine W' b v0 v1 v2 v3 v4 v5 v6 v7 v8:=h.up (F:= []) (Z05 a) (by simp)
end
theorem Z0h (w:World) (a b c d e f g h i:Value) (t:TypeId):Nine (w.alloc (.cells #[a,b,c,d,e,f,g,h,i] t)) w.heap.size a b c d e f g h i:=by
 refine ⟨?_, ?_, ?_, ?_, ?_, ?_, ?_, ?_, ?_,fun j=> ?_, ?_⟩ <;> simp[go_sem]
abbrev Zero9 (W:World) (b:Nat):Prop:=Nine W b (.int .i64 0) (.string ⟨#[]⟩) (.string ⟨#[]⟩) (.int .i64 0) (.slice none 0 0) (.slice none 0 0) (.slice none 0 0) (.slice none 0 0) (.int .i64 0)
def Z10 (W:World) (b:Nat) (a0 a1 a2 a3 a4 a5 a6 a7 a8:Value):World:=((((((((W.setCell ⟨b,0,none⟩ a0).setCell ⟨b,1,none⟩ a1).setCell ⟨b,2,none⟩ a2).setCell ⟨b,3,none⟩ a3).setCell ⟨b,4,none⟩ a4).setCell ⟨b,5,none⟩ a5).setCell ⟨b,6,none⟩ a6).setCell ⟨b,7,none⟩ a7).setCell ⟨b,8,none⟩ a8
theorem Z1X {F:List Nat} {a W:World} (h:UpT F a W) {b:Nat} (c:a.heap.size<=b\/b∈F) (d e f g i j k l m:Value):UpT F a (Z10 W b d e f g i j k l m):=
 ((((((((h.set ⟨b,0,none⟩ c _).set ⟨b,1,none⟩ c _).set ⟨b,2,none⟩ c _).set ⟨b,3,none⟩ c _).set ⟨b,4,none⟩ c _).set ⟨b,5,none⟩ c _).set ⟨b,6,none⟩ c _).set ⟨b,7,none⟩ c _).set ⟨b,8,none⟩ c _
theorem end9 {w W:World} {bp:Nat} {A:Option Addr} {c:Nat} {l:List Tk} {τ:St} {x:ET} (o:PAt W bp A c l τ) (q:UpT [bp] w W) (r:x.Is W) {rb:Nat} (n:w.heap.size<=rb) (a:rb < x.lo\/x.hi<=rb) (p:bp < w.heap.size) (b d e f g i j k m:Value):
 PAt (Z10 W rb b d e f g i j k m) bp A c l τ/\UpT [bp] w (Z10 W rb b d e f g i j k m)/\x.Is (Z10 W rb b d e f g i j k m):=by
 have h:bp < rb:=by omega
 have u:UpT [rb] W (Z10 W rb b d e f g i j k m):=Z1X (UpT.refl _ _) (Or.inr (by simp)) _ _ _ _ _ _ _ _ _;exact ⟨o.keep u (by simp; exact h),Z1X q (Or.inl n) _ _ _ _ _ _ _ _ _,New.up r u (by simp; exact a)⟩
theorem Z8L {W0:World} {bp:Nat} (t:TB) (b:bp < W0.heap.size) (a:TypeId):JE (W0.alloc (.cells #[.int .i64 t.kind,.string ⟨t.of_.toArray⟩,.string ⟨t.name.toArray⟩,.int .i64 t.n,.slice none 0 0,.slice none 0 0,.slice none 0 0,.slice none 0 0,.int .i64 t.at_] a)) bp W0.heap.size t TR.none_
 (W0.alloc (.cells #[.int .i64 t.kind,.string ⟨t.of_.toArray⟩,.string ⟨t.name.toArray⟩,.int .i64 t.n,.slice none 0 0,.slice none 0 0,.slice none 0 0,.slice none 0 0,.int .i64 t.at_] a)):=by
 have h:=Z0h W0 (.int .i64 t.kind) (.string ⟨t.of_.toArray⟩) (.string ⟨t.name.toArray⟩) (.int .i64 t.n) (.slice none 0 0) (.slice none 0 0) (.slice none 0 0) (.slice none 0 0) (.int .i64 t.at_) a;exact ⟨UpT.refl _ _,h.lt,b,h.c0,h.c1,h.c2,h.c3,h.c4,h.c5,h.c6,h.c7,h.c8,h.fz,Row.start _ _ _ _ _,Row.start _ _ _ _ _,Row.start _ _ _ _ _,Row.start _ _ _ _ _,nofun,nofun,nofun,nofun,nofun,nofun,nofun,nofun,nofun,nofun,nofun,nofun⟩
theorem Z3O {W1 W:World} {bp a:Nat} {t:TB} (h:JE W1 bp a t TR.none_ W):JX W1 bp a t 0 W [] [] [] [] TR.none_:=⟨h,rfl,rfl,rfl,rfl,Nat.le_refl _,Nat.le_refl _,Nat.le_refl _,Nat.zero_le _,nofun⟩
def clE (w:World) (bp:Nat) (t:TB):World:=((w.alloc (.cells #[.pointer (some ⟨bp,0,none⟩)] 59)).alloc (.cells Ya 26)).alloc (.cells #[.int .i64 t.kind,.string ⟨t.of_.toArray⟩,.string ⟨t.name.toArray⟩,.int .i64 t.n,.slice none 0 0,.slice none 0 0,.slice none 0 0,.slice none 0 0,.int .i64 t.at_] 26)
theorem Z3c (w:World) (bp:Nat) (t:TB): (clE w bp t).heap.size=w.heap.size+3:=by simp[clE]
theorem Z1k (w:World) (bp:Nat) (t:TB):Below w.heap.size w (clE w bp t):=Z03 (Z03 (Z01 _ _) _) _
section
variable {w : World} {bp : Nat} (t : TB) (h : bp < w.heap.size)
include w bp t h
theorem Z5a:PBox (clE w bp t) w.heap.size bp (w.heap.size+2):=by
 refine ⟨?_,by rw[Z3c]; omega,by omega,by omega⟩;simp[clE,go_sem]
theorem Z6l:JE (clE w bp t) bp (w.heap.size+2) t TR.none_ (clE w bp t):=by
 have e:w.heap.size+2=((w.alloc (.cells #[.pointer (some ⟨bp,0,none⟩)] 59)).alloc (.cells Ya 26)).heap.size:=by simp
 rw[e];exact Z8L t (by simp; omega) _
end
theorem Z5b (w:World) (bp:Nat) (t:TB):Zero9 (clE w bp t) (w.heap.size+1):=by
 have h:=Z0h (w.alloc (.cells #[.pointer (some ⟨bp,0,none⟩)] 59)) (.int .i64 0) (.string ⟨#[]⟩) (.string ⟨#[]⟩) (.int .i64 0) (.slice none 0 0) (.slice none 0 0) (.slice none 0 0) (.slice none 0 0) (.int .i64 0) 26;have e: (w.alloc (.cells #[.pointer (some ⟨bp,0,none⟩)] 59)).heap.size=w.heap.size+1:=by simp
 rw[e] at h;exact h.below (Z01 _ _)
theorem hidT {f:FuncId} {a:Array Value} {W0 b:World} {bp:Nat} {A:Option Addr} {c:Nat} {l:List Tk} {r:Tm×St} (n:Nat) (h:Calls Tryz.prog f a W0 (TmIs bp A c l r W0)) (d:Hid (UpT [bp] b W0)) (p:n<=b.heap.size):
 Calls Tryz.prog f a W0 fun e W'=> ∃x:ET,e= .returned (valT x)/\Hid (PAt W' bp A c l r.2)/\Hid (UpT [bp] b W')/\Hid (x.Is W')/\n<=x.lo/\Hid (x.t=r.1/\few x.t=true):=
 h.mono fun e W' h=>by
  obtain ⟨x,g,i,j,k,m,o⟩:=h;exact ⟨x,g,Y1 i,Y1 (d.out.trans j),Y1 k,Nat.le_trans (Nat.le_trans p d.out.size) m,Y1 o⟩
theorem Nine.upf {W W':World} {b:Nat} {a c d e f g i j l:Value} {F:List Nat} (h:Nine W b a c d e f g i j l) (n:UpT F W W') (m:b∉F):
 W'.cell? ⟨b,0,none⟩=some a/\W'.cell? ⟨b,1,none⟩=some c/\W'.cell? ⟨b,2,none⟩=some d/\W'.cell? ⟨b,3,none⟩=some e/\W'.cell? ⟨b,4,none⟩=some f/\W'.cell? ⟨b,5,none⟩=some g/\W'.cell? ⟨b,6,none⟩=some i/\W'.cell? ⟨b,7,none⟩=some j/\W'.cell? ⟨b,8,none⟩=some l/\
 W'.frozen? ⟨b,0,none⟩=false/\W'.frozen? ⟨b,1,none⟩=false/\W'.frozen? ⟨b,2,none⟩=false/\W'.frozen? ⟨b,3,none⟩=false/\W'.frozen? ⟨b,4,none⟩=false/\W'.frozen? ⟨b,5,none⟩=false/\W'.frozen? ⟨b,6,none⟩=false/\W'.frozen? ⟨b,7,none⟩=false/\W'.frozen? ⟨b,8,none⟩=false/\b < W'.heap.size:=
 have k:=h.up n m
 ⟨k.c0,k.c1,k.c2,k.c3,k.c4,k.c5,k.c6,k.c7,k.c8,k.fz 0,k.fz 1,k.fz 2,k.fz 3,k.fz 4,k.fz 5,k.fz 6,k.fz 7,k.fz 8,k.lt⟩
end
end Go.Proofs.YtkncdbaoaeeoiaaGreatDoor
