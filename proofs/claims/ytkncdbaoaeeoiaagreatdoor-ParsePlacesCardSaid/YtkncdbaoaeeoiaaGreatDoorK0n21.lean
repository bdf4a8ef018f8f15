/- What the proofs of ParsePlaces want, part 21. -/
import Derived.Test.YtkncdbaoaeeoiaaGreatDoorK0n20
set_option linter.unusedVariables false
set_option linter.unusedSimpArgs false
set_option linter.unusedSectionVars false
set_option maxRecDepth 100000
set_option maxHeartbeats 16000000
namespace Go.Proofs.YtkncdbaoaeeoiaaGreatDoor
section
open Go.RowKit Tms
open Shp (Sh)
open Pso (St Ok Goes betw loop want)
section
variable {W1 W : World} {bp ob : Nat} {t : TB} {R : TR} (h : JE W1 bp ob t R W) {A : Option Addr} {c : Nat} {l : List Tk} {τ : St}
include W1 W bp ob t R h A c l τ
theorem JE.goodS {Q:ES->Prop} (hl:R.S.length<=900000): (⟨W,bp,A,c,l,τ,ob,6,W1.heap.size,R.AS,R.cs,R.S,Q⟩:CtxS).Good:=
 ⟨h.c6,h.fz 6,Nat.lt_of_lt_of_le h.lt h.up.size,h.bpob,h.rS,h.lt,Nat.lt_trans h.bpob h.lt,h.up.size,hl⟩
theorem JE.goodT {Q:ET->Prop} (hl:R.L.length<=900000): (⟨W,bp,A,c,l,τ,ob,7,W1.heap.size,R.AP,R.cp,R.L,Q⟩:CtxT).Good:=
 ⟨h.c7,h.fz 7,Nat.lt_of_lt_of_le h.lt h.up.size,h.bpob,h.rP,h.lt,Nat.lt_trans h.bpob h.lt,h.up.size,hl⟩
end
section
variable {W1 W W' : World} {bp ob g cp : Nat} {t : TB} {R : TR} (h : JE W1 bp ob t R W) {A : Option Addr} {c : Nat} {l : List Tk} {τ : St}
include W1 W W' bp ob g cp t R h A c l τ
theorem JE.postS {Q:ES->Prop} {u:Nat->Value} {x:ES} (p: (⟨W,bp,A,c,l,τ,ob,6,W1.heap.size,R.AS,R.cs,R.S,Q⟩:CtxS).PostX (fun _=>true) u W' x g cp):
 JE W1 bp ob t { R with AS:=some ⟨g,0,none⟩,cs:=cp,S:=R.S++ [x] } W':=by
 have hrow:Row W' W1.heap.size 43 5 cS (some ⟨g,0,none⟩) cp (R.S++ [x]):=by
  have:=p.row; unfold Row; rw[List.length_append,List.flatMap_append]; simpa using this
 exact h.putS x hrow p.is p.lo p.far ⟨p.up,by have:=p.cell; rw[List.length_append]; simpa using this,p.rest,p.fz,p.new,fun b hb=>h.rS.lt b hb⟩
theorem JE.postT {Q:ET->Prop} {u:Nat->Value} {x:ET} (p: (⟨W,bp,A,c,l,τ,ob,7,W1.heap.size,R.AP,R.cp,R.L,Q⟩:CtxT).PostX (fun _=>true) u W' x g cp):
 JE W1 bp ob t { R with AP:=some ⟨g,0,none⟩,cp:=cp,L:=R.L++ [x] } W':=by
 have hrow:Row W' W1.heap.size 26 9 cT (some ⟨g,0,none⟩) cp (R.L++ [x]):=by
  have:=p.row; unfold Row; rw[List.length_append,List.flatMap_append]; simpa using this
 exact h.putP x hrow p.is p.lo p.far ⟨p.up,by have:=p.cell; rw[List.length_append]; simpa using this,p.rest,p.fz,p.new,fun b hb=>h.rP.lt b hb⟩
end
theorem JE.goodV {W1 W:World} {bp ob fnN:Nat} {t:TB} {R:TR} (h:JE W1 bp ob t R W) {A:Option Addr} {c:Nat} {l:List Tk} {τ:St} {Q:EN->Prop} (hl:R.vs.length<=900000): (⟨W,bp,A,c,l,τ,ob,5,W1.heap.size,R.AV,R.cv,enOf R.vs,Q,fnN⟩:PtxN).Good:=
 ⟨by rw[Z0S]; exact h.c5,h.fz 5,Nat.lt_of_lt_of_le h.lt h.up.size,h.bpob,Z8r h.rV,h.lt,Nat.lt_trans h.bpob h.lt,h.up.size,by rw[Z0S]; exact hl⟩
theorem JE.postV {W1 W W':World} {bp ob g cp fnN:Nat} {t:TB} {R:TR} (h:JE W1 bp ob t R W) {A:Option Addr} {c:Nat} {l:List Tk} {τ:St} {Q:EN->Prop} {u:Nat->Value} {x:EN} (hx:x.t.length<=1000000) (p: (⟨W,bp,A,c,l,τ,ob,5,W1.heap.size,R.AV,R.cv,enOf R.vs,Q,fnN⟩:PtxN).Post (fun _=>true) u W' x g cp):
 JE W1 bp ob t { R with AV:=some ⟨g,0,none⟩,cv:=cp,vs:=R.vs++ [x.t] } W':=by
 have hrow:Row W' W1.heap.size 9 1 cN (some ⟨g,0,none⟩) cp (R.vs++ [x.t]):=by
  have h1:=p.row;unfold Row;rw[List.length_append,List.flatMap_append, <-Z54];simp only[Z0S] at h1;have h2:cNN x=cN x.t:=rfl;rw[h2] at h1;simpa using h1
 exact h.putV _ hrow (fun n hn=>by
  rcases List.mem_append.1 hn with hn | hn
  {exact h.smV n hn}
  · have e:n=x.t:=by simpa using hn
    rw[e]; exact hx) ⟨p.up,by have h1:=p.cell; simp only[Z0S] at h1; rw[List.length_append]; simpa using h1,p.rest,p.fz,p.new,fun b hb=>h.rV.lt b hb⟩
theorem JE.goodN {W1 W:World} {bp ob fnN:Nat} {t:TB} {R:TR} (h:JE W1 bp ob t R W) {A:Option Addr} {c:Nat} {l:List Tk} {τ:St} {Q:EN->Prop} (hl:R.ns.length<=900000): (⟨W,bp,A,c,l,τ,ob,4,W1.heap.size,R.AN,R.cn,enOf R.ns,Q,fnN⟩:PtxA).Good:=
 ⟨by rw[Z0S]; exact h.c4,h.fz 4,Nat.lt_of_lt_of_le h.lt h.up.size,h.bpob,Z8r h.rN,h.lt,Nat.lt_trans h.bpob h.lt,h.up.size,by rw[Z0S]; exact hl⟩
theorem JE.postN {W1 W W':World} {bp ob g cp fnN:Nat} {t:TB} {R:TR} (h:JE W1 bp ob t R W) {A:Option Addr} {c:Nat} {l:List Tk} {τ:St} {Q:EN->Prop} {u:Nat->Value} {x:EN} (hx:x.t.length<=1000000) (p: (⟨W,bp,A,c,l,τ,ob,4,W1.heap.size,R.AN,R.cn,enOf R.ns,Q,fnN⟩:PtxA).Post (fun _=>true) u W' x g cp):
 JE W1 bp ob t { R with AN:=some ⟨g,0,none⟩,cn:=cp,ns:=R.ns++ [x.t] } W':=by
 have hrow:Row W' W1.heap.size 9 1 cN (some ⟨g,0,none⟩) cp (R.ns++ [x.t]):=by
  have h1:=p.row;unfold Row;rw[List.length_append,List.flatMap_append, <-Z54];simp only[Z0S] at h1;have h2:cNN x=cN x.t:=rfl;rw[h2] at h1;simpa using h1
 exact h.putN _ hrow (fun n hn=>by
  rcases List.mem_append.1 hn with hn | hn
  {exact h.smN n hn}
  · have e:n=x.t:=by simpa using hn
    rw[e]; exact hx) ⟨p.up,by have h1:=p.cell; simp only[Z0S] at h1; rw[List.length_append]; simpa using h1,p.rest,p.fz,p.new,fun b hb=>h.rN.lt b hb⟩
def Z59 (W1:World) (bp ob:Nat) (t:TB) (r:Nat) (W:World) (a:List (List UInt8)×List Tm):Prop:= ∃R,JX W1 bp ob t r W a.1 [] [] a.2 R
theorem ZeF {W1 W W':World} {bp ob r:Nat} {t:TB} {a:List (List UInt8)×List Tm} (h:Z59 W1 bp ob t r W a) (hu:UpT [bp] W W'):Z59 W1 bp ob t r W' a:=by
 obtain ⟨R,h⟩:=h;exact ⟨R,h.keep hu⟩
theorem ZfD (bp:Nat) (A:Option Addr) (c:Nat) (l:List Tk) (m:Nat) (hl:TokOk l) (hE:ExC bp A c l m) (W1:World) (pb ob:Nat) (t:TB) (hpb:PBox W1 pb bp ob):
 Reads bp A c l 164 (.pointer (some ⟨ob,0,none⟩)) (.pointer (some ⟨pb,0,none⟩)) (Z59 W1 bp ob t) (Pso.recR l (Pso.expr l m)) m:=by
 intro r w τ a hr hτ hm hP hJ;obtain ⟨R,hJX⟩:=hJ;have HL:=Y1 hl;have HLEN:=hl.len;have h0:Ok l τ:=hτ;have g0:τ.1<=τ.1:=Nat.le_refl _;have t1:=Pso.to_another h0 a.1;have g1:τ.1<=(Pso.another l τ a.1).2.1:=Nat.le_trans g0 t1.2.1;have t2:=Pso.to_want t1.1 [61];have g2:τ.1<=(want l (Pso.another l τ a.1).2 [61]).1:=Nat.le_trans g1 t2.2.1;have t3:=Pso.to_expr m _ t2.1;have g3:τ.1<=(Pso.expr l m (want l (Pso.another l τ a.1).2 [61])).2.1:=Nat.le_trans g2 t3.2.1;have HS0:=Y1 hJX.je;have HX:=Y1 hJX;have HPB:=Y1 hpb;have HM:=Y1 hm;have HE:=Y1 hE;have T1:=Y1 t1;have G1:=Y1 g1;have T2:=Y1 t2;have G2:=Y1 g2;have T3:=Y1 t3;have G3:=Y1 g3;have H0:=Y1 h0;obtain ⟨hc,hlt⟩:=hpb.on hJX.je.up;have hA: ∀W,Below w.heap.size w W->Calls Tryz.prog 91 #[.pointer (some ⟨bp,0,none⟩),.slice R.AN R.ns.length R.cn,.func (.func 92) #[.pointer (some ⟨bp,0,none⟩)] #[]] W fun e w'=>e= .returned (.string ⟨(Pso.name l τ).1.toArray⟩)/\PAt w' bp A c l (Pso.another l τ a.1).2/\UpT [bp] W w':=fun W hW=>by
  have:=Z2b bp A c l τ W1.heap.size R.AN R.cn R.ns (by omega) h0.1 hl.txt (by have:=hJX.ln; omega) W (hP.below hW) (hJX.je.rN.below hW) (Nat.lt_trans hJX.je.bpob hJX.je.lt);rw[hJX.en] at this ⊢;exact this
 have HA:=Y1 hA;clear hA;clear hP hJX hpb hm hl h0 hτ g0 t1 g1 t2 g2 t3 g3 hE;go_enter Tryz.func164,Tryz.ntmps164;have HRR1:=HS0.out
 go_wp2_with fail
 refine prgA _ 2 0 1 26 4 91 ⟨w,bp,A,c,l,(Pso.another l τ a.1).2,ob,4,W1.heap.size,R.AN,R.cn,enOf R.ns,(fun x=>x.t=(Pso.name l τ).1),92⟩ (HRR1.goodN (by have:=HX.out.ln; omega)) pb hc hlt HPB.out.ne (fun uu=> { tmps:=#[.pointer (some ⟨ob,0,none⟩),.pointer (some ⟨pb,0,none⟩),uu 0,uu 1,uu 2,uu 3,uu 4,uu 5,uu 6,uu 7,uu 8,uu 9,uu 10,uu 11,uu 12,uu 13,uu 14,undef,undef,undef,undef,undef,undef,undef,undef,undef,undef,undef,undef,undef,undef],defers:= [] }) (fun _=>undef)
  ⟨fun i o h u v=>by
   rcases i with _ | _ | _ | _ | _ | _ | _ | _ | _ | _ | _ | _ | _ | _ | _ | _ | i
   all_goals first | (cases h; rfl) | exact absurd h (by simp[plnA]),fun _=>rfl,fun _=>rfl,fun _=>rfl,fun _=>rfl,fun _=>rfl,fun _=>rfl,fun _=>rfl,fun _=>rfl,fun _=>rfl,fun _=>rfl,fun _=>rfl,fun _=>rfl,fun _=>rfl,fun _=>rfl,fun _=>rfl,fun _=>rfl,fun _=>rfl⟩
  (fun W=>by go_simp <;> rfl) (enters_of Tryz.func91 (by kernel_rfl) rfl) (fun W hW=>by
   show Calls Tryz.prog _ #[.pointer (some ⟨bp,0,none⟩),.slice R.AN (enOf R.ns).length R.cn,.func (.func 92) #[.pointer (some ⟨bp,0,none⟩)] #[]] W _;rw[Z0S];exact (HA.out W hW).mono (fun e W' h=>⟨⟨(Pso.name l τ).1,W'.heap.size,W'.heap.size⟩,h.1,h.2.1,h.2.2,⟨Nat.le_refl _,fun _ _ _=>trivial⟩,h.2.2.size,rfl⟩)) (fun u1 w1 x1 g1 cp1 p=> ?_)
 have hx1:x1.t=(Pso.name l τ).1:=p.r;have HS1:=Y1 (HRR1.postN (by rw[hx1]; exact Z0q HL.out.txt _ 1 (by decide) _) p);have HP1:=Y1 (show PAt w1 bp A c l (Pso.another l τ a.1).2 from p.par);have HY1:=Y1 hx1;clear p hx1 HRR1 HA hc hlt HS0;obtain ⟨hc1,hlt1⟩:=HPB.out.on HS1.out.up
 go_wp2_with fail
 refine (Z0d bp A c l (Pso.another l τ a.1).2 [61] (by omega) T1.out.1.1 w1 HP1.out).mono ?_;rintro e w2 ⟨v2,rfl,hp2,hu2⟩;have HP2:=Y1 hp2;have HS2:=Y1 (HS1.out.keep hu2);clear hp2 hu2 HP1 HS1 hc1 hlt1;obtain ⟨hc2,hlt2⟩:=HPB.out.on HS2.out.up
 go_wp2_with fail
 have HRR3:=HS2.out;refine regT _ 22 0 1 26 7 36 ⟨w2,bp,A,c,l,(Pso.expr l m (want l (Pso.another l τ a.1).2 [61])).2,ob,7,W1.heap.size,_,_,_,(fun x=>x.t=(Pso.expr l m (want l (Pso.another l τ a.1).2 [61])).1/\few x.t=true)⟩ (HRR3.goodT (by have:=HX.out.lp; simp; try omega)) pb hc2 hlt2 HPB.out.ne (fun uu=> { tmps:=#[.pointer (some ⟨ob,0,none⟩),.pointer (some ⟨pb,0,none⟩),u1 0,u1 1,u1 2,u1 3,u1 4,u1 5,u1 6,u1 7,u1 8,u1 9,u1 10,u1 11,u1 12,u1 13,u1 14,.pointer (some ⟨bp,0,none⟩),.pointer (some ⟨bp,0,none⟩),.pointer (some ⟨bp,0,none⟩),.slice (some ⟨w1.heap.size,0,none⟩) 1 1,.string v2,uu 0,uu 1,uu 2,uu 3,uu 4,uu 5,uu 6,uu 7,uu 9],defers:= [] }) (fun _=>undef)
  ⟨fun i o h u v=>by
   rcases i with _ | _ | _ | _ | _ | _ | _ | _ | _ | _ | _ | i
   all_goals first | (cases h; rfl) | exact absurd h (by simp[opsT]),fun _=>rfl,fun _=>rfl,fun _=>rfl,fun _=>rfl,fun _=>rfl,fun _=>rfl,fun _=>rfl,fun _=>rfl,fun _=>rfl,fun _=>rfl,fun _=>rfl⟩
  (fun W=>by go_simp <;> rfl) (enters_of Tryz.func36 (by kernel_rfl) rfl) (fun W hW=>HE.out W _ T2.out.1 (by have:=G2.out; have:=HM.out; omega) (HP2.out.below hW)) (fun u3 w3 x3 g3 cp3 p=> ?_)
 have hx3:=p.r;have HS3:=Y1 (HRR3.postT p);have HP3:=Y1 (show PAt w3 bp A c l (Pso.expr l m (want l (Pso.another l τ a.1).2 [61])).2 from p.par);have HY3:=Y1 (show x3.t=(Pso.expr l m (want l (Pso.another l τ a.1).2 [61])).1/\few x3.t=true from hx3);clear p hx3 HRR3 hc2 hlt2 HP2 HS2
 go_end0
 refine ⟨rfl,HP3.out,_,HS3.out, ?_, ?_, ?_, ?_, ?_, ?_, ?_, ?_, ?_⟩
 {simp only; rw[HX.out.en,HY1.out]; rfl}
 {exact HX.out.ev}
 {exact HX.out.es}
 {simp only; rw[List.map_append,HX.out.ep,List.map_singleton,HY3.out.1]; rfl}
 {have:=HX.out.ln; simp; try omega}
 {have:=HX.out.lv; simp; try omega}
 {have:=HX.out.ls; simp; try omega}
 {have:=HX.out.lp; simp; try omega}
 {intro y hy;rcases List.mem_append.1 hy with hy | hy
  {exact HX.out.fw y hy}
  {have e:y=x3:=by simpa using hy
   rw[e]; exact HY3.out.2}}
def Z3m (W1:World) (bp ob:Nat) (t:TB) (r:Nat) (W:World) (a:List (List UInt8)×List Sh):Prop:= ∃R,JX W1 bp ob t r W a.1 [] a.2 [] R
theorem ZbL {W1 W W':World} {bp ob r:Nat} {t:TB} {a:List (List UInt8)×List Sh} (h:Z3m W1 bp ob t r W a) (hu:UpT [bp] W W'):Z3m W1 bp ob t r W' a:=by
 obtain ⟨R,h⟩:=h;exact ⟨R,h.keep hu⟩
theorem Zdq (bp:Nat) (A:Option Addr) (c:Nat) (l:List Tk) (m:Nat) (hl:TokOk l) (W1:World) (pb ob:Nat) (t:TB) (hpb:PBox W1 pb bp ob):
 Reads bp A c l 90 (.pointer (some ⟨ob,0,none⟩)) (.pointer (some ⟨pb,0,none⟩)) (Z3m W1 bp ob t) (Pso.bindsR l) m:=by
 intro r w τ a hr hτ hm hP hJ;obtain ⟨R,hJX⟩:=hJ;have HL:=Y1 hl;have HLEN:=hl.len;have h0:Ok l τ:=hτ;have g0:τ.1<=τ.1:=Nat.le_refl _;have t1:=Pso.to_another h0 a.1;have g1:τ.1<=(Pso.another l τ a.1).2.1:=Nat.le_trans g0 t1.2.1;have t2:=Pso.to_want t1.1 [58];have g2:τ.1<=(want l (Pso.another l τ a.1).2 [58]).1:=Nat.le_trans g1 t2.2.1;have t3:=Pso.to_wholeT _ t2.1;have g3:τ.1<=(Pso.wholeT l (want l (Pso.another l τ a.1).2 [58])).2.1:=Nat.le_trans g2 t3.2.1;have HS0:=Y1 hJX.je;have HX:=Y1 hJX;have HPB:=Y1 hpb;have HM:=Y1 hm;have T1:=Y1 t1;have G1:=Y1 g1;have T2:=Y1 t2;have G2:=Y1 g2;have T3:=Y1 t3;have G3:=Y1 g3;have H0:=Y1 h0;obtain ⟨hc,hlt⟩:=hpb.on hJX.je.up;have hA: ∀W,Below w.heap.size w W->Calls Tryz.prog 91 #[.pointer (some ⟨bp,0,none⟩),.slice R.AN R.ns.length R.cn,.func (.func 92) #[.pointer (some ⟨bp,0,none⟩)] #[]] W fun e w'=>e= .returned (.string ⟨(Pso.name l τ).1.toArray⟩)/\PAt w' bp A c l (Pso.another l τ a.1).2/\UpT [bp] W w':=fun W hW=>by
  have:=Z2b bp A c l τ W1.heap.size R.AN R.cn R.ns (by omega) h0.1 hl.txt (by have:=hJX.ln; omega) W (hP.below hW) (hJX.je.rN.below hW) (Nat.lt_trans hJX.je.bpob hJX.je.lt);rw[hJX.en] at this ⊢;exact this
 have HA:=Y1 hA;clear hA;clear hP hJX hpb hm hl h0 hτ g0 t1 g1 t2 g2 t3 g3;go_enter Tryz.func90,Tryz.ntmps90;have HRR1:=HS0.out
 go_wp2_with fail
 refine prgA _ 2 0 1 26 4 91 ⟨w,bp,A,c,l,(Pso.another l τ a.1).2,ob,4,W1.heap.size,R.AN,R.cn,enOf R.ns,(fun x=>x.t=(Pso.name l τ).1),92⟩ (HRR1.goodN (by have:=HX.out.ln; omega)) pb hc hlt HPB.out.ne (fun uu=> { tmps:=#[.pointer (some ⟨ob,0,none⟩),.pointer (some ⟨pb,0,none⟩),uu 0,uu 1,uu 2,uu 3,uu 4,uu 5,uu 6,uu 7,uu 8,uu 9,uu 10,uu 11,uu 12,uu 13,uu 14,undef,undef,undef,undef,undef,undef,undef,undef,undef,undef,undef,undef,undef,undef],defers:= [] }) (fun _=>undef)
  ⟨fun i o h u v=>by
   rcases i with _ | _ | _ | _ | _ | _ | _ | _ | _ | _ | _ | _ | _ | _ | _ | _ | i
   all_goals first | (cases h; rfl) | exact absurd h (by simp[plnA]),fun _=>rfl,fun _=>rfl,fun _=>rfl,fun _=>rfl,fun _=>rfl,fun _=>rfl,fun _=>rfl,fun _=>rfl,fun _=>rfl,fun _=>rfl,fun _=>rfl,fun _=>rfl,fun _=>rfl,fun _=>rfl,fun _=>rfl,fun _=>rfl,fun _=>rfl⟩
  (fun W=>by go_simp <;> rfl) (enters_of Tryz.func91 (by kernel_rfl) rfl) (fun W hW=>by
   show Calls Tryz.prog _ #[.pointer (some ⟨bp,0,none⟩),.slice R.AN (enOf R.ns).length R.cn,.func (.func 92) #[.pointer (some ⟨bp,0,none⟩)] #[]] W _;rw[Z0S];exact (HA.out W hW).mono (fun e W' h=>⟨⟨(Pso.name l τ).1,W'.heap.size,W'.heap.size⟩,h.1,h.2.1,h.2.2,⟨Nat.le_refl _,fun _ _ _=>trivial⟩,h.2.2.size,rfl⟩)) (fun u1 w1 x1 g1 cp1 p=> ?_)
 have hx1:x1.t=(Pso.name l τ).1:=p.r;have HS1:=Y1 (HRR1.postN (by rw[hx1]; exact Z0q HL.out.txt _ 1 (by decide) _) p);have HP1:=Y1 (show PAt w1 bp A c l (Pso.another l τ a.1).2 from p.par);have HY1:=Y1 hx1;clear p hx1 HRR1 HA hc hlt HS0;obtain ⟨hc1,hlt1⟩:=HPB.out.on HS1.out.up
 go_wp2_with fail
 refine (Z0d bp A c l (Pso.another l τ a.1).2 [58] (by omega) T1.out.1.1 w1 HP1.out).mono ?_;rintro e w2 ⟨v2,rfl,hp2,hu2⟩;have HP2:=Y1 hp2;have HS2:=Y1 (HS1.out.keep hu2);clear hp2 hu2 HP1 HS1 hc1 hlt1;obtain ⟨hc2,hlt2⟩:=HPB.out.on HS2.out.up
 go_wp2_with fail
 have HRR3:=HS2.out;refine regS _ 22 0 1 26 6 39 ⟨w2,bp,A,c,l,(Pso.wholeT l (want l (Pso.another l τ a.1).2 [58])).2,ob,6,W1.heap.size,_,_,_,(fun x=>x.t=(Pso.wholeT l (want l (Pso.another l τ a.1).2 [58])).1)⟩ (HRR3.goodS (by have:=HX.out.ls; simp; try omega)) pb hc2 hlt2 HPB.out.ne (fun uu=> { tmps:=#[.pointer (some ⟨ob,0,none⟩),.pointer (some ⟨pb,0,none⟩),u1 0,u1 1,u1 2,u1 3,u1 4,u1 5,u1 6,u1 7,u1 8,u1 9,u1 10,u1 11,u1 12,u1 13,u1 14,.pointer (some ⟨bp,0,none⟩),.pointer (some ⟨bp,0,none⟩),.pointer (some ⟨bp,0,none⟩),.slice (some ⟨w1.heap.size,0,none⟩) 1 1,.string v2,uu 0,uu 1,uu 2,uu 3,uu 4,uu 5,uu 6,uu 7,uu 9],defers:= [] }) (fun _=>undef)
  ⟨fun i o h u v=>by
   rcases i with _ | _ | _ | _ | _ | _ | _ | _ | _ | _ | _ | i
   all_goals first | (cases h; rfl) | exact absurd h (by simp[opsS]),fun _=>rfl,fun _=>rfl,fun _=>rfl,fun _=>rfl,fun _=>rfl,fun _=>rfl,fun _=>rfl,fun _=>rfl,fun _=>rfl,fun _=>rfl,fun _=>rfl⟩
  (fun W=>by go_simp <;> rfl) (enters_of Tryz.func39 (by kernel_rfl) rfl) (fun W hW=>Z0P bp A c l HL.out.len HL.out.txt (want l (Pso.another l τ a.1).2 [58]) T2.out.1 W (HP2.out.below hW)) (fun u3 w3 x3 g3 cp3 p=> ?_)
 have hx3:=p.r;have HS3:=Y1 (HRR3.postS p);have HP3:=Y1 (show PAt w3 bp A c l (Pso.wholeT l (want l (Pso.another l τ a.1).2 [58])).2 from p.par);have HY3:=Y1 (show x3.t=(Pso.wholeT l (want l (Pso.another l τ a.1).2 [58])).1 from hx3);clear p hx3 HRR3 hc2 hlt2 HP2 HS2
 go_end0
 refine ⟨rfl,HP3.out,_,HS3.out, ?_, ?_, ?_, ?_, ?_, ?_, ?_, ?_, ?_⟩
 {simp only; rw[HX.out.en,HY1.out]; rfl}
 {exact HX.out.ev}
 {simp only; rw[List.map_append,HX.out.es,List.map_singleton,HY3.out]; rfl}
 {exact HX.out.ep}
 {have:=HX.out.ln; simp; try omega}
 {have:=HX.out.lv; simp; try omega}
 {have:=HX.out.ls; simp; try omega}
 {have:=HX.out.lp; simp; try omega}
 {exact HX.out.fw}
def Z4e (W1:World) (bp ob:Nat) (t:TB) (r:Nat) (W:World) (a:List Tm):Prop:= ∃R,JX W1 bp ob t r W [] [] [] a R
theorem Zdr {W1 W W':World} {bp ob r:Nat} {t:TB} {a:List Tm} (h:Z4e W1 bp ob t r W a) (hu:UpT [bp] W W'):Z4e W1 bp ob t r W' a:=by
 obtain ⟨R,h⟩:=h;exact ⟨R,h.keep hu⟩
theorem ZeG (bp:Nat) (A:Option Addr) (c:Nat) (l:List Tk) (m:Nat) (hl:TokOk l) (hE:ExC bp A c l m) (W1:World) (pb ob:Nat) (t:TB) (hpb:PBox W1 pb bp ob):
 Reads bp A c l 96 (.pointer (some ⟨ob,0,none⟩)) (.pointer (some ⟨pb,0,none⟩)) (Z4e W1 bp ob t) (Pso.argsR l (Pso.expr l m)) m:=by
 intro r w τ a hr hτ hm hP hJ;obtain ⟨R,hJX⟩:=hJ;have HL:=Y1 hl;have HLEN:=hl.len;have h0:Ok l τ:=hτ;have g0:τ.1<=τ.1:=Nat.le_refl _;have t1:=Pso.to_expr m _ h0;have g1:τ.1<=(Pso.expr l m τ).2.1:=Nat.le_trans g0 t1.2.1;have HS0:=Y1 hJX.je;have HX:=Y1 hJX;have HPB:=Y1 hpb;have HM:=Y1 hm;have HE:=Y1 hE;have T1:=Y1 t1;have G1:=Y1 g1;have H0:=Y1 h0;obtain ⟨hc,hlt⟩:=hpb.on hJX.je.up;have HP0:=Y1 hP;clear hP hJX hpb hm hl h0 hτ g0 t1 g1 hE;go_enter Tryz.func96,Tryz.ntmps96;have HRR1:=HS0.out;refine regT _ 2 0 1 26 7 36 ⟨w,bp,A,c,l,(Pso.expr l m τ).2,ob,7,W1.heap.size,_,_,_,(fun x=>x.t=(Pso.expr l m τ).1/\few x.t=true)⟩ (HRR1.goodT (by have:=HX.out.lp; simp; try omega)) pb hc hlt HPB.out.ne (fun uu=> { tmps:=#[.pointer (some ⟨ob,0,none⟩),.pointer (some ⟨pb,0,none⟩),uu 0,uu 1,uu 2,uu 3,uu 4,uu 5,uu 6,uu 7,uu 9],defers:= [] }) (fun _=>undef)
  ⟨fun i o h u v=>by
   rcases i with _ | _ | _ | _ | _ | _ | _ | _ | _ | _ | _ | i
   all_goals first | (cases h; rfl) | exact absurd h (by simp[opsT]),fun _=>rfl,fun _=>rfl,fun _=>rfl,fun _=>rfl,fun _=>rfl,fun _=>rfl,fun _=>rfl,fun _=>rfl,fun _=>rfl,fun _=>rfl,fun _=>rfl⟩
  (fun W=>by go_simp <;> rfl) (enters_of Tryz.func36 (by kernel_rfl) rfl) (fun W hW=>HE.out W _ H0.out HM.out (HP0.out.below hW)) (fun u1 w1 x1 g1 cp1 p=> ?_)
 have hx1:=p.r;have HS1:=Y1 (HRR1.postT p);have HP1:=Y1 (show PAt w1 bp A c l (Pso.expr l m τ).2 from p.par);have HY1:=Y1 (show x1.t=(Pso.expr l m τ).1/\few x1.t=true from hx1);clear p hx1 HRR1 
 go_end0
 refine ⟨rfl,HP1.out,_,HS1.out, ?_, ?_, ?_, ?_, ?_, ?_, ?_, ?_, ?_⟩
 {exact HX.out.en}
 {exact HX.out.ev}
 {exact HX.out.es}
 {simp only; rw[List.map_append,HX.out.ep,List.map_singleton,HY1.out.1]; rfl}
 {have:=HX.out.ln; simp only; omega}
 {have:=HX.out.lv; simp; try omega}
 {have:=HX.out.ls; simp; try omega}
 {have:=HX.out.lp; simp; try omega}
 {intro y hy;rcases List.mem_append.1 hy with hy | hy
  {exact HX.out.fw y hy}
  {have e:y=x1:=by simpa using hy
   rw[e]; exact HY1.out.2}}
def Z4f (W1:World) (bp ob:Nat) (t:TB) (r:Nat) (W:World) (a:Pso.Ways):Prop:= ∃R,JX W1 bp ob t r W a.names a.vars a.shapes a.parts R
theorem Zds {W1 W W':World} {bp ob r:Nat} {t:TB} {a:Pso.Ways} (h:Z4f W1 bp ob t r W a) (hu:UpT [bp] W W'):Z4f W1 bp ob t r W' a:=by
 obtain ⟨R,h⟩:=h;exact ⟨R,h.keep hu⟩
theorem ZeH (bp:Nat) (A:Option Addr) (c:Nat) (l:List Tk) (m:Nat) (hl:TokOk l) (hE:ExC bp A c l m) (W1:World) (pb ob:Nat) (t:TB) (hpb:PBox W1 pb bp ob):
 Reads bp A c l 94 (.pointer (some ⟨ob,0,none⟩)) (.pointer (some ⟨pb,0,none⟩)) (Z4f W1 bp ob t) (Pso.wayR l (Pso.expr l m)) m:=by
 intro r w τ a hr hτ hm hP hJ;obtain ⟨R,hJX⟩:=hJ;have HL:=Y1 hl;have HLEN:=hl.len;have h0:Ok l τ:=hτ;have g0:τ.1<=τ.1:=Nat.le_refl _;have t1:=Pso.to_another h0 a.names;have g1:τ.1<=(Pso.another l τ a.names).2.1:=Nat.le_trans g0 t1.2.1;have t2:=Pso.to_want t1.1 [40];have g2:τ.1<=(want l (Pso.another l τ a.names).2 [40]).1:=Nat.le_trans g1 t2.2.1;have t3:=Pso.to_name t2.1;have g3:τ.1<=(Pso.name l (want l (Pso.another l τ a.names).2 [40])).2.1:=Nat.le_trans g2 t3.2.1;have t4:=Pso.to_want t3.1 [58];have g4:τ.1<=(want l (Pso.name l (want l (Pso.another l τ a.names).2 [40])).2 [58]).1:=Nat.le_trans g3 t4.2.1;have t5:=Pso.to_wholeT _ t4.1;have g5:τ.1<=(Pso.wholeT l (want l (Pso.name l (want l (Pso.another l τ a.names).2 [40])).2 [58])).2.1:=Nat.le_trans g4 t5.2.1;have t6:=Pso.to_want t5.1 [41];have g6:τ.1<=(want l (Pso.wholeT l (want l (Pso.name l (want l (Pso.another l τ a.names).2 [40])).2 [58])).2 [41]).1:=Nat.le_trans g5 t6.2.1;have t7:=Pso.to_want t6.1 [45,62];have g7:τ.1<=(want l (want l (Pso.wholeT l (want l (Pso.name l (want l (Pso.another l τ a.names).2 [40])).2 [58])).2 [41]) [45,62]).1:=Nat.le_trans g6 t7.2.1;have t8:=Pso.to_expr m _ t7.1;have g8:τ.1<=(Pso.expr l m (want l (want l (Pso.wholeT l (want l (Pso.name l (want l (Pso.another l τ a.names).2 [40])).2 [58])).2 [41]) [45,62])).2.1:=Nat.le_trans g7 t8.2.1;have HS0:=Y1 hJX.je;have HX:=Y1 hJX;have HPB:=Y1 hpb;have HM:=Y1 hm;have HE:=Y1 hE;have T1:=Y1 t1;have G1:=Y1 g1;have T2:=Y1 t2;have G2:=Y1 g2;have T3:=Y1 t3;have G3:=Y1 g3;have T4:=Y1 t4;have G4:=Y1 g4;have T5:=Y1 t5;have G5:=Y1 g5;have T6:=Y1 t6;have G6:=Y1 g6;have T7:=Y1 t7;have G7:=Y1 g7;have T8:=Y1 t8;have G8:=Y1 g8;have H0:=Y1 h0;obtain ⟨hc,hlt⟩:=hpb.on hJX.je.up;have hA: ∀W,Below w.heap.size w W->Calls Tryz.prog 91 #[.pointer (some ⟨bp,0,none⟩),.slice R.AN R.ns.length R.cn,.func (.func 92) #[.pointer (some ⟨bp,0,none⟩)] #[]] W fun e w'=>e= .returned (.string ⟨(Pso.name l τ).1.toArray⟩)/\PAt w' bp A c l (Pso.another l τ a.names).2/\UpT [bp] W w':=fun W hW=>by
  have:=Z2b bp A c l τ W1.heap.size R.AN R.cn R.ns (by omega) h0.1 hl.txt (by have:=hJX.ln; omega) W (hP.below hW) (hJX.je.rN.below hW) (Nat.lt_trans hJX.je.bpob hJX.je.lt);rw[hJX.en] at this ⊢;exact this
 have HA:=Y1 hA;clear hA;clear hP hJX hpb hm hl h0 hτ g0 t1 g1 t2 g2 t3 g3 t4 g4 t5 g5 t6 g6 t7 g7 t8 g8 hE;go_enter Tryz.func94,Tryz.ntmps94;have HRR1:=HS0.out
 go_wp2_with fail
 refine prgA _ 2 0 1 26 4 91 ⟨w,bp,A,c,l,(Pso.another l τ a.names).2,ob,4,W1.heap.size,R.AN,R.cn,enOf R.ns,(fun x=>x.t=(Pso.name l τ).1),92⟩ (HRR1.goodN (by have:=HX.out.ln; omega)) pb hc hlt HPB.out.ne (fun uu=> { tmps:=#[.pointer (some ⟨ob,0,none⟩),.pointer (some ⟨pb,0,none⟩),uu 0,uu 1,uu 2,uu 3,uu 4,uu 5,uu 6,uu 7,uu 8,uu 9,uu 10,uu 11,uu 12,uu 13,uu 14,undef,undef,undef,undef,undef,undef,undef,undef,undef,undef,undef,undef,undef,undef,undef,undef,undef,undef,undef,undef,undef,undef,undef,undef,undef,undef,undef,undef,undef,undef,undef,undef,undef,undef,undef,undef,undef,undef,undef,undef,undef,undef,undef,undef,undef,undef,undef],defers:= [] }) (fun _=>undef)
  ⟨fun i o h u v=>by
   rcases i with _ | _ | _ | _ | _ | _ | _ | _ | _ | _ | _ | _ | _ | _ | _ | _ | i
   all_goals first | (cases h; rfl) | exact absurd h (by simp[plnA]),fun _=>rfl,fun _=>rfl,fun _=>rfl,fun _=>rfl,fun _=>rfl,fun _=>rfl,fun _=>rfl,fun _=>rfl,fun _=>rfl,fun _=>rfl,fun _=>rfl,fun _=>rfl,fun _=>rfl,fun _=>rfl,fun _=>rfl,fun _=>rfl,fun _=>rfl⟩
  (fun W=>by go_simp <;> rfl) (enters_of Tryz.func91 (by kernel_rfl) rfl) (fun W hW=>by
   show Calls Tryz.prog _ #[.pointer (some ⟨bp,0,none⟩),.slice R.AN (enOf R.ns).length R.cn,.func (.func 92) #[.pointer (some ⟨bp,0,none⟩)] #[]] W _;rw[Z0S];exact (HA.out W hW).mono (fun e W' h=>⟨⟨(Pso.name l τ).1,W'.heap.size,W'.heap.size⟩,h.1,h.2.1,h.2.2,⟨Nat.le_refl _,fun _ _ _=>trivial⟩,h.2.2.size,rfl⟩)) (fun u1 w1 x1 g1 cp1 p=> ?_)
 have hx1:x1.t=(Pso.name l τ).1:=p.r;have HS1:=Y1 (HRR1.postN (by rw[hx1]; exact Z0q HL.out.txt _ 1 (by decide) _) p);have HP1:=Y1 (show PAt w1 bp A c l (Pso.another l τ a.names).2 from p.par);have HY1:=Y1 hx1;clear p hx1 HRR1 HA hc hlt HS0;obtain ⟨hc1,hlt1⟩:=HPB.out.on HS1.out.up
 go_wp2_with fail
 refine (Z0d bp A c l (Pso.another l τ a.names).2 [40] (by omega) T1.out.1.1 w1 HP1.out).mono ?_;rintro e w2 ⟨v2,rfl,hp2,hu2⟩;have HP2:=Y1 hp2;have HS2:=Y1 (HS1.out.keep hu2);clear hp2 hu2 HP1 HS1 hc1 hlt1;obtain ⟨hc2,hlt2⟩:=HPB.out.on HS2.out.up
 go_wp2_with fail
 have HRR3:=HS2.out;refine prgN _ 22 0 1 26 5 92 ⟨w2,bp,A,c,l,(Pso.name l (want l (Pso.another l τ a.names).2 [40])).2,ob,5,W1.heap.size,_,_,enOf _,(fun x=>x.t=(Pso.name l (want l (Pso.another l τ a.names).2 [40])).1),0⟩ (HRR3.goodV (by have:=HX.out.lv; simp; try omega)) pb hc2 hlt2 HPB.out.ne (fun uu=> { tmps:=#[.pointer (some ⟨ob,0,none⟩),.pointer (some ⟨pb,0,none⟩),u1 0,u1 1,u1 2,u1 3,u1 4,u1 5,u1 6,u1 7,u1 8,u1 9,u1 10,u1 11,u1 12,u1 13,u1 14,.pointer (some ⟨bp,0,none⟩),.pointer (some ⟨bp,0,none⟩),.pointer (some ⟨bp,0,none⟩),.slice (some ⟨w1.heap.size,0,none⟩) 1 1,.string v2,uu 0,uu 1,uu 2,uu 3,uu 4,uu 5,uu 6,uu 7,uu 8,undef,undef,undef,undef,undef,undef,undef,undef,undef,undef,undef,undef,undef,undef,undef,undef,undef,undef,undef,undef,undef,undef,undef,undef,undef,undef,undef,undef,undef,undef,undef,undef,undef],defers:= [] }) (fun _=>undef)
  ⟨fun i o h u v=>by
   rcases i with _ | _ | _ | _ | _ | _ | _ | _ | _ | _ | i
   all_goals first | (cases h; rfl) | exact absurd h (by simp[plnN]),fun _=>rfl,fun _=>rfl,fun _=>rfl,fun _=>rfl,fun _=>rfl,fun _=>rfl,fun _=>rfl,fun _=>rfl,fun _=>rfl,fun _=>rfl,fun _=>rfl⟩
  (fun W=>by go_simp <;> rfl) (enters_of Tryz.func92 (by kernel_rfl) rfl) (fun W hW=>(Z1a bp A c l (want l (Pso.another l τ a.names).2 [40]) (by omega) T2.out.1.1 HL.out.txt W (HP2.out.below hW)).mono (fun e W' h=>⟨⟨(Pso.name l (want l (Pso.another l τ a.names).2 [40])).1,W'.heap.size,W'.heap.size⟩,h.1,h.2.1,h.2.2,⟨Nat.le_refl _,fun _ _ _=>trivial⟩,h.2.2.size,rfl⟩)) (fun u3 w3 x g3 cp3 p=> ?_)
 have hx3:x.t=(Pso.name l (want l (Pso.another l τ a.names).2 [40])).1:=p.r;have HS3:=Y1 (HRR3.postV (by rw[hx3]; exact Z0q HL.out.txt _ 1 (by decide) _) p);have HP3:=Y1 (show PAt w3 bp A c l (Pso.name l (want l (Pso.another l τ a.names).2 [40])).2 from p.par);have HY3:=Y1 hx3;clear p hx3 HRR3 hc2 hlt2 HP2 HS2;obtain ⟨hc3,hlt3⟩:=HPB.out.on HS3.out.up
 go_wp2_with fail
 refine (Z0d bp A c l (Pso.name l (want l (Pso.another l τ a.names).2 [40])).2 [58] (by omega) T3.out.1.1 w3 HP3.out).mono ?_;rintro e w4 ⟨v4,rfl,hp4,hu4⟩;have HP4:=Y1 hp4;have HS4:=Y1 (HS3.out.keep hu4);clear hp4 hu4 HP3 HS3 hc3 hlt3;obtain ⟨hc4,hlt4⟩:=HPB.out.on HS4.out.up
 go_wp2_with fail
 have HRR5:=HS4.out;refine regS _ 36 0 1 26 6 39 ⟨w4,bp,A,c,l,(Pso.wholeT l (want l (Pso.name l (want l (Pso.another l τ a.names).2 [40])).2 [58])).2,ob,6,W1.heap.size,_,_,_,(fun x=>x.t=(Pso.wholeT l (want l (Pso.name l (want l (Pso.another l τ a.names).2 [40])).2 [58])).1)⟩ (HRR5.goodS (by have:=HX.out.ls; simp; try omega)) pb hc4 hlt4 HPB.out.ne (fun uu=> { tmps:=#[.pointer (some ⟨ob,0,none⟩),.pointer (some ⟨pb,0,none⟩),u1 0,u1 1,u1 2,u1 3,u1 4,u1 5,u1 6,u1 7,u1 8,u1 9,u1 10,u1 11,u1 12,u1 13,u1 14,.pointer (some ⟨bp,0,none⟩),.pointer (some ⟨bp,0,none⟩),.pointer (some ⟨bp,0,none⟩),.slice (some ⟨w1.heap.size,0,none⟩) 1 1,.string v2,u3 0,u3 1,u3 2,u3 3,u3 4,u3 5,u3 6,u3 7,u3 8,.pointer (some ⟨bp,0,none⟩),.pointer (some ⟨bp,0,none⟩),.pointer (some ⟨bp,0,none⟩),.slice (some ⟨w3.heap.size,0,none⟩) 1 1,.string v4,uu 0,uu 1,uu 2,uu 3,uu 4,uu 5,uu 6,uu 7,uu 9,undef,undef,undef,undef,undef,undef,undef,undef,undef,undef,undef,undef,undef,undef,undef,undef,undef,undef,undef],defers:= [] }) (fun _=>undef)
  ⟨fun i o h u v=>by
   rcases i with _ | _ | _ | _ | _ | _ | _ | _ | _ | _ | _ | i
   all_goals first | (cases h; rfl) | exact absurd h (by simp[opsS]),fun _=>rfl,fun _=>rfl,fun _=>rfl,fun _=>rfl,fun _=>rfl,fun _=>rfl,fun _=>rfl,fun _=>rfl,fun _=>rfl,fun _=>rfl,fun _=>rfl⟩
  (fun W=>by go_simp <;> rfl) (enters_of Tryz.func39 (by kernel_rfl) rfl) (fun W hW=>Z0P bp A c l HL.out.len HL.out.txt (want l (Pso.name l (want l (Pso.another l τ a.names).2 [40])).2 [58]) T4.out.1 W (HP4.out.below hW)) (fun u5 w5 x5 g5 cp5 p=> ?_)
 have hx5:=p.r;have HS5:=Y1 (HRR5.postS p);have HP5:=Y1 (show PAt w5 bp A c l (Pso.wholeT l (want l (Pso.name l (want l (Pso.another l τ a.names).2 [40])).2 [58])).2 from p.par);have HY5:=Y1 (show x5.t=(Pso.wholeT l (want l (Pso.name l (want l (Pso.another l τ a.names).2 [40])).2 [58])).1 from hx5);clear p hx5 HRR5 hc4 hlt4 HP4 HS4;obtain ⟨hc5,hlt5⟩:=HPB.out.on HS5.out.up
 go_wp2_with fail
 refine (Z0d bp A c l (Pso.wholeT l (want l (Pso.name l (want l (Pso.another l τ a.names).2 [40])).2 [58])).2 [41] (by omega) T5.out.1.1 w5 HP5.out).mono ?_;rintro e w6 ⟨v6,rfl,hp6,hu6⟩;have HP6:=Y1 hp6;have HS6:=Y1 (HS5.out.keep hu6);clear hp6 hu6 HP5 HS5 hc5 hlt5;obtain ⟨hc6,hlt6⟩:=HPB.out.on HS6.out.up
 go_wp2_with fail
 refine (Z0d bp A c l (want l (Pso.wholeT l (want l (Pso.name l (want l (Pso.another l τ a.names).2 [40])).2 [58])).2 [41]) [45,62] (by omega) T6.out.1.1 w6 HP6.out).mono ?_;rintro e w7 ⟨v7,rfl,hp7,hu7⟩;have HP7:=Y1 hp7;have HS7:=Y1 (HS6.out.keep hu7);clear hp7 hu7 HP6 HS6 hc6 hlt6;obtain ⟨hc7,hlt7⟩:=HPB.out.on HS7.out.up
 go_wp2_with fail
 have HRR8:=HS7.out;refine regT _ 55 0 1 26 7 36 ⟨w7,bp,A,c,l,(Pso.expr l m (want l (want l (Pso.wholeT l (want l (Pso.name l (want l (Pso.another l τ a.names).2 [40])).2 [58])).2 [41]) [45,62])).2,ob,7,W1.heap.size,_,_,_,(fun x=>x.t=(Pso.expr l m (want l (want l (Pso.wholeT l (want l (Pso.name l (want l (Pso.another l τ a.names).2 [40])).2 [58])).2 [41]) [45,62])).1/\few x.t=true)⟩ (HRR8.goodT (by have:=HX.out.lp; simp; try omega)) pb hc7 hlt7 HPB.out.ne (fun uu=> { tmps:=#[.pointer (some ⟨ob,0,none⟩),.pointer (some ⟨pb,0,none⟩),u1 0,u1 1,u1 2,u1 3,u1 4,u1 5,u1 6,u1 7,u1 8,u1 9,u1 10,u1 11,u1 12,u1 13,u1 14,.pointer (some ⟨bp,0,none⟩),.pointer (some ⟨bp,0,none⟩),.pointer (some ⟨bp,0,none⟩),.slice (some ⟨w1.heap.size,0,none⟩) 1 1,.string v2,u3 0,u3 1,u3 2,u3 3,u3 4,u3 5,u3 6,u3 7,u3 8,.pointer (some ⟨bp,0,none⟩),.pointer (some ⟨bp,0,none⟩),.pointer (some ⟨bp,0,none⟩),.slice (some ⟨w3.heap.size,0,none⟩) 1 1,.string v4,u5 0,u5 1,u5 2,u5 3,u5 4,u5 5,u5 6,u5 7,u5 9,.pointer (some ⟨bp,0,none⟩),.pointer (some ⟨bp,0,none⟩),.pointer (some ⟨bp,0,none⟩),.slice (some ⟨w5.heap.size,0,none⟩) 1 1,.string v6,.pointer (some ⟨bp,0,none⟩),.pointer (some ⟨bp,0,none⟩),.pointer (some ⟨bp,0,none⟩),.slice (some ⟨w6.heap.size,0,none⟩) 1 1,.string v7,uu 0,uu 1,uu 2,uu 3,uu 4,uu 5,uu 6,uu 7,uu 9],defers:= [] }) (fun _=>undef)
  ⟨fun i o h u v=>by
   rcases i with _ | _ | _ | _ | _ | _ | _ | _ | _ | _ | _ | i
   all_goals first | (cases h; rfl) | exact absurd h (by simp[opsT]),fun _=>rfl,fun _=>rfl,fun _=>rfl,fun _=>rfl,fun _=>rfl,fun _=>rfl,fun _=>rfl,fun _=>rfl,fun _=>rfl,fun _=>rfl,fun _=>rfl⟩
  (fun W=>by go_simp <;> rfl) (enters_of Tryz.func36 (by kernel_rfl) rfl) (fun W hW=>HE.out W _ T7.out.1 (by have:=G7.out; have:=HM.out; omega) (HP7.out.below hW)) (fun u8 w8 x8 g8 cp8 p=> ?_)
 have hx8:=p.r;have HS8:=Y1 (HRR8.postT p);have HP8:=Y1 (show PAt w8 bp A c l (Pso.expr l m (want l (want l (Pso.wholeT l (want l (Pso.name l (want l (Pso.another l τ a.names).2 [40])).2 [58])).2 [41]) [45,62])).2 from p.par);have HY8:=Y1 (show x8.t=(Pso.expr l m (want l (want l (Pso.wholeT l (want l (Pso.name l (want l (Pso.another l τ a.names).2 [40])).2 [58])).2 [41]) [45,62])).1/\few x8.t=true from hx8);clear p hx8 HRR8 hc7 hlt7 HP7 HS7
 go_end0
 refine ⟨rfl,HP8.out,_,HS8.out, ?_, ?_, ?_, ?_, ?_, ?_, ?_, ?_, ?_⟩
 {simp only; rw[HX.out.en,HY1.out]; rfl}
 {simp only; rw[HX.out.ev,HY3.out]; rfl}
 {simp only; rw[List.map_append,HX.out.es,List.map_singleton,HY5.out]; rfl}
 {simp only; rw[List.map_append,HX.out.ep,List.map_singleton,HY8.out.1]; rfl}
 {have:=HX.out.ln; simp; try omega}
 {have:=HX.out.lv; simp; try omega}
 {have:=HX.out.ls; simp; try omega}
 {have:=HX.out.lp; simp; try omega}
 {intro y hy;rcases List.mem_append.1 hy with hy | hy
  {exact HX.out.fw y hy}
  {have e:y=x8:=by simpa using hy
   rw[e]; exact HY8.out.2}}
end
section
open Go.RowKit Tms
open Shp (Sh)
open Pso (St Ok Goes betw loop want)
section
variable {W1 W W' : World} {bp ob r r' g cp : Nat} {t : TB} {R : TR} {ns vs : List (List UInt8)} {ss : List Sh} {ps : List Tm}
theorem Z3N (t:TB) (hn:R.ns=ns) (hv:R.vs=vs) (hs:R.S.map ES.t=ss) (hp:R.L.map ET.t=ps):mkT t R=⟨t.kind,t.of_,t.name,t.n,ns,vs,ss,ps,t.at_⟩:=by
 unfold mkT; rw[hn,hv,hs,hp]
section
variable {A : Option Addr} {c : Nat} {l : List Tk} {τ : St}
include A c l τ
theorem JX.part {Q:ET->Prop} {u:Nat->Value} {x:ET} {q:Tm} (h:JX W1 bp ob t r W ns vs ss ps R) (hr:r<=r') (hl:R.L.length<=r') (p: (⟨W,bp,A,c,l,τ,ob,7,W1.heap.size,R.AP,R.cp,R.L,Q⟩:CtxT).PostX (fun _=>true) u W' x g cp) (hx:x.t=q/\few x.t=true):
 JX W1 bp ob t r' W' ns vs ss (ps++ [q]) { R with AP:=some ⟨g,0,none⟩,cp:=cp,L:=R.L++ [x] }:=by
 refine ⟨h.je.postT p,h.en,h.ev,h.es, ?_,Nat.le_trans h.ln hr,Nat.le_trans h.lv hr,Nat.le_trans h.ls hr, ?_, ?_⟩
 {simp only; rw[List.map_append,h.ep,List.map_singleton,hx.1]}
 {simp; omega}
 {intro y hy;rcases List.mem_append.1 hy with hy | hy
  {exact h.fw y hy}
  {have e:y=x:=by simpa using hy
   rw[e]; exact hx.2}}
theorem JX.shape {Q:ES->Prop} {u:Nat->Value} {x:ES} {q:Sh} (h:JX W1 bp ob t r W ns vs ss ps R) (p: (⟨W,bp,A,c,l,τ,ob,6,W1.heap.size,R.AS,R.cs,R.S,Q⟩:CtxS).PostX (fun _=>true) u W' x g cp) (hx:x.t=q):
 JX W1 bp ob t (r+1) W' ns vs (ss++ [q]) ps { R with AS:=some ⟨g,0,none⟩,cs:=cp,S:=R.S++ [x] }:=by
 refine ⟨h.je.postS p,h.en,h.ev, ?_,h.ep,Nat.le_succ_of_le h.ln,Nat.le_succ_of_le h.lv, ?_,Nat.le_succ_of_le h.lp,h.fw⟩
 {simp only; rw[List.map_append,h.es,List.map_singleton,hx]}
 {have:=h.ls; simp; omega}
end
theorem JE.goodT2 {W1 W:World} {bp ob:Nat} {t:TB} {R:TR} (h:JE W1 bp ob t R W) {A:Option Addr} {c:Nat} {l:List Tk} {τ:St} {Q:ET->Prop} (hl:R.L.length<=900000): (⟨W,bp,A,c,l,τ,ob,7,W1.heap.size,R.AP,R.cp,R.L,Q⟩:PtxT).Good:=
 ⟨h.c7,h.fz 7,Nat.lt_of_lt_of_le h.lt h.up.size,h.bpob,h.rP,h.lt,Nat.lt_trans h.bpob h.lt,h.up.size,hl⟩
theorem JE.goodS2 {W1 W:World} {bp ob:Nat} {t:TB} {R:TR} (h:JE W1 bp ob t R W) {A:Option Addr} {c:Nat} {l:List Tk} {τ:St} {Q:ES->Prop} (hl:R.S.length<=900000): (⟨W,bp,A,c,l,τ,ob,6,W1.heap.size,R.AS,R.cs,R.S,Q⟩:PtxS).Good:=
 ⟨h.c6,h.fz 6,Nat.lt_of_lt_of_le h.lt h.up.size,h.bpob,h.rS,h.lt,Nat.lt_trans h.bpob h.lt,h.up.size,hl⟩
section
variable {A : Option Addr} {c : Nat} {l : List Tk} {τ : St}
include A c l τ
theorem JX.part2 {Q:ET->Prop} {u:Nat->Value} {x:ET} {q:Tm} (h:JX W1 bp ob t r W ns vs ss ps R) (p: (⟨W,bp,A,c,l,τ,ob,7,W1.heap.size,R.AP,R.cp,R.L,Q⟩:PtxT).Post (fun _=>true) u W' x g cp) (hx:x.t=q/\few x.t=true):
 JX W1 bp ob t (r+1) W' ns vs ss (ps++ [q]) { R with AP:=some ⟨g,0,none⟩,cp:=cp,L:=R.L++ [x] }:=by
 have hrow:Row W' W1.heap.size 26 9 cT (some ⟨g,0,none⟩) cp (R.L++ [x]):=by
  have:=p.row; unfold Row; rw[List.length_append,List.flatMap_append]; simpa using this
 have hj:=h.je.putP x hrow p.is p.lo p.far ⟨p.up,by have:=p.cell; rw[List.length_append]; simpa using this,p.rest,p.fz,p.new,fun b hb=>h.je.rP.lt b hb⟩;refine ⟨hj,h.en,h.ev,h.es, ?_,Nat.le_succ_of_le h.ln,Nat.le_succ_of_le h.lv,Nat.le_succ_of_le h.ls, ?_, ?_⟩
 {simp only; rw[List.map_append,h.ep,List.map_singleton,hx.1]}
 {have:=h.lp; simp; omega}
 {intro y hy;rcases List.mem_append.1 hy with hy | hy
  {exact h.fw y hy}
  {have e:y=x:=by simpa using hy
   rw[e]; exact hx.2}}
theorem JX.shape2 {Q:ES->Prop} {u:Nat->Value} {x:ES} {q:Sh} (h:JX W1 bp ob t r W ns vs ss ps R) (p: (⟨W,bp,A,c,l,τ,ob,6,W1.heap.size,R.AS,R.cs,R.S,Q⟩:PtxS).Post (fun _=>true) u W' x g cp) (hx:x.t=q):
 JX W1 bp ob t (r+1) W' ns vs (ss++ [q]) ps { R with AS:=some ⟨g,0,none⟩,cs:=cp,S:=R.S++ [x] }:=by
 have hrow:Row W' W1.heap.size 43 5 cS (some ⟨g,0,none⟩) cp (R.S++ [x]):=by
  have:=p.row; unfold Row; rw[List.length_append,List.flatMap_append]; simpa using this
 have hj:=h.je.putS x hrow p.is p.lo p.far ⟨p.up,by have:=p.cell; rw[List.length_append]; simpa using this,p.rest,p.fz,p.new,fun b hb=>h.je.rS.lt b hb⟩;refine ⟨hj,h.en,h.ev, ?_,h.ep,Nat.le_succ_of_le h.ln,Nat.le_succ_of_le h.lv, ?_,Nat.le_succ_of_le h.lp,h.fw⟩
 {simp only; rw[List.map_append,h.es,List.map_singleton,hx]}
 {have:=h.ls; simp; omega}
end
end
structure Nine (W:World) (b:Nat) (v0 v1 v2 v3 v4 v5 v6 v7 v8:Value):Prop where
 c0:W.cell? ⟨b,0,none⟩=some v0
 c1:W.cell? ⟨b,1,none⟩=some v1
 c2:W.cell? ⟨b,2,none⟩=some v2
 c3:W.cell? ⟨b,3,none⟩=some v3
 c4:W.cell? ⟨b,4,none⟩=some v4
 c5:W.cell? ⟨b,5,none⟩=some v5
 c6:W.cell? ⟨b,6,none⟩=some v6
 c7:W.cell? ⟨b,7,none⟩=some v7
 c8:W.cell? ⟨b,8,none⟩=some v8
 fz: ∀j,W.frozen? ⟨b,j,none⟩=false
 lt:b < W.heap.size
section
variable {W W' : World} {b : Nat} {v0 v1 v2 v3 v4 v5 v6 v7 v8 : Value}
theorem Nine.same (h:Nine W b v0 v1 v2 v3 v4 v5 v6 v7 v8) (hs:SameT W W' b) (hz:W.heap.size<=W'.heap.size):Nine W' b v0 v1 v2 v3 v4 v5 v6 v7 v8:=
 ⟨(hs.1 0).trans h.c0,(hs.1 1).trans h.c1,(hs.1 2).trans h.c2,(hs.1 3).trans h.c3,(hs.1 4).trans h.c4,(hs.1 5).trans h.c5,(hs.1 6).trans h.c6,(hs.1 7).trans h.c7,(hs.1 8).trans h.c8,fun j=>(hs.2 j).trans (h.fz j),Nat.lt_of_lt_of_le h.lt hz⟩
theorem Nine.up {F:List Nat} (h:Nine W b v0 v1 v2 v3 v4 v5 v6 v7 v8) (hu:UpT F W W') (hF:b∉F):Nine W' b v0 v1 v2 v3 v4 v5 v6 v7 v8:=h.same (hu.same h.lt hF) hu.size
theorem Nine.below (h:Nine W b v0 v1 v2 v3 v4 v5 v6 v7 v8) (hb:Below W.heap.size W W'):Nine W' b v0 v1 v2 v3 v4 v5 v6 v7 v8:=h.up (F:= []) (Z05 hb) (by simp)
end
theorem Z0h (w:World) (v0 v1 v2 v3 v4 v5 v6 v7 v8:Value) (t:TypeId):Nine (w.alloc (.cells #[v0,v1,v2,v3,v4,v5,v6,v7,v8] t)) w.heap.size v0 v1 v2 v3 v4 v5 v6 v7 v8:=by
 refine ⟨?_, ?_, ?_, ?_, ?_, ?_, ?_, ?_, ?_,fun j=> ?_, ?_⟩ <;> simp[go_sem]
abbrev Zero9 (W:World) (b:Nat):Prop:=Nine W b (.int .i64 0) (.string ⟨#[]⟩) (.string ⟨#[]⟩) (.int .i64 0) (.slice none 0 0) (.slice none 0 0) (.slice none 0 0) (.slice none 0 0) (.int .i64 0)
def Z10 (W:World) (b:Nat) (a0 a1 a2 a3 a4 a5 a6 a7 a8:Value):World:=((((((((W.setCell ⟨b,0,none⟩ a0).setCell ⟨b,1,none⟩ a1).setCell ⟨b,2,none⟩ a2).setCell ⟨b,3,none⟩ a3).setCell ⟨b,4,none⟩ a4).setCell ⟨b,5,none⟩ a5).setCell ⟨b,6,none⟩ a6).setCell ⟨b,7,none⟩ a7).setCell ⟨b,8,none⟩ a8
theorem Z1X {F:List Nat} {a W:World} (h:UpT F a W) {b:Nat} (hb:a.heap.size<=b\/b∈F) (v0 v1 v2 v3 v4 v5 v6 v7 v8:Value):UpT F a (Z10 W b v0 v1 v2 v3 v4 v5 v6 v7 v8):=
 ((((((((h.set ⟨b,0,none⟩ hb _).set ⟨b,1,none⟩ hb _).set ⟨b,2,none⟩ hb _).set ⟨b,3,none⟩ hb _).set ⟨b,4,none⟩ hb _).set ⟨b,5,none⟩ hb _).set ⟨b,6,none⟩ hb _).set ⟨b,7,none⟩ hb _).set ⟨b,8,none⟩ hb _
theorem end9 {w W:World} {bp:Nat} {A:Option Addr} {c:Nat} {l:List Tk} {τ:St} {x:ET} (hP:PAt W bp A c l τ) (hu:UpT [bp] w W) (hx:x.Is W) {rb:Nat} (hrb:w.heap.size<=rb) (hfar:rb < x.lo\/x.hi<=rb) (hbw:bp < w.heap.size) (v0 v1 v2 v3 v4 v5 v6 v7 v8:Value):
 PAt (Z10 W rb v0 v1 v2 v3 v4 v5 v6 v7 v8) bp A c l τ/\UpT [bp] w (Z10 W rb v0 v1 v2 v3 v4 v5 v6 v7 v8)/\x.Is (Z10 W rb v0 v1 v2 v3 v4 v5 v6 v7 v8):=by
 have h:bp < rb:=by omega
 have u:UpT [rb] W (Z10 W rb v0 v1 v2 v3 v4 v5 v6 v7 v8):=Z1X (UpT.refl _ _) (Or.inr (by simp)) _ _ _ _ _ _ _ _ _;exact ⟨hP.keep u (by simp; exact h),Z1X hu (Or.inl hrb) _ _ _ _ _ _ _ _ _,New.up hx u (by simp; exact hfar)⟩
theorem Z8L {W0:World} {bp:Nat} (t:TB) (hb:bp < W0.heap.size) (ty:TypeId):JE (W0.alloc (.cells #[.int .i64 t.kind,.string ⟨t.of_.toArray⟩,.string ⟨t.name.toArray⟩,.int .i64 t.n,.slice none 0 0,.slice none 0 0,.slice none 0 0,.slice none 0 0,.int .i64 t.at_] ty)) bp W0.heap.size t TR.none_
 (W0.alloc (.cells #[.int .i64 t.kind,.string ⟨t.of_.toArray⟩,.string ⟨t.name.toArray⟩,.int .i64 t.n,.slice none 0 0,.slice none 0 0,.slice none 0 0,.slice none 0 0,.int .i64 t.at_] ty)):=by
 have h:=Z0h W0 (.int .i64 t.kind) (.string ⟨t.of_.toArray⟩) (.string ⟨t.name.toArray⟩) (.int .i64 t.n) (.slice none 0 0) (.slice none 0 0) (.slice none 0 0) (.slice none 0 0) (.int .i64 t.at_) ty;exact ⟨UpT.refl _ _,h.lt,hb,h.c0,h.c1,h.c2,h.c3,h.c4,h.c5,h.c6,h.c7,h.c8,h.fz,Row.start _ _ _ _ _,Row.start _ _ _ _ _,Row.start _ _ _ _ _,Row.start _ _ _ _ _,nofun,nofun,nofun,nofun,nofun,nofun,nofun,nofun,nofun,nofun,nofun,nofun⟩
theorem Z3O {W1 W:World} {bp ob:Nat} {t:TB} (h:JE W1 bp ob t TR.none_ W):JX W1 bp ob t 0 W [] [] [] [] TR.none_:=⟨h,rfl,rfl,rfl,rfl,Nat.le_refl _,Nat.le_refl _,Nat.le_refl _,Nat.zero_le _,nofun⟩
def clE (w:World) (bp:Nat) (t:TB):World:=((w.alloc (.cells #[.pointer (some ⟨bp,0,none⟩)] 59)).alloc (.cells Ya 26)).alloc (.cells #[.int .i64 t.kind,.string ⟨t.of_.toArray⟩,.string ⟨t.name.toArray⟩,.int .i64 t.n,.slice none 0 0,.slice none 0 0,.slice none 0 0,.slice none 0 0,.int .i64 t.at_] 26)
theorem Z3c (w:World) (bp:Nat) (t:TB): (clE w bp t).heap.size=w.heap.size+3:=by simp[clE]
theorem Z1k (w:World) (bp:Nat) (t:TB):Below w.heap.size w (clE w bp t):=Z03 (Z03 (Z01 _ _) _) _
section
variable {w : World} {bp : Nat} (t : TB) (h : bp < w.heap.size)
include w bp t h
theorem Z5a:PBox (clE w bp t) w.heap.size bp (w.heap.size+2):=by
 refine ⟨?_,by rw[Z3c]; omega,by omega,by omega⟩;simp[clE,go_sem]
theorem Z6l:JE (clE w bp t) bp (w.heap.size+2) t TR.none_ (clE w bp t):=by
 have e:w.heap.size+2=((w.alloc (.cells #[.pointer (some ⟨bp,0,none⟩)] 59)).alloc (.cells Ya 26)).heap.size:=by simp
 rw[e];exact Z8L t (by simp; omega) _
end
theorem Z5b (w:World) (bp:Nat) (t:TB):Zero9 (clE w bp t) (w.heap.size+1):=by
 have h:=Z0h (w.alloc (.cells #[.pointer (some ⟨bp,0,none⟩)] 59)) (.int .i64 0) (.string ⟨#[]⟩) (.string ⟨#[]⟩) (.int .i64 0) (.slice none 0 0) (.slice none 0 0) (.slice none 0 0) (.slice none 0 0) (.int .i64 0) 26;have e: (w.alloc (.cells #[.pointer (some ⟨bp,0,none⟩)] 59)).heap.size=w.heap.size+1:=by simp
 rw[e] at h;exact h.below (Z01 _ _)
theorem hidT {f:FuncId} {a:Array Value} {W0 w0:World} {bp:Nat} {A:Option Addr} {c:Nat} {l:List Tk} {r:Tm×St} (n:Nat) (h:Calls Tryz.prog f a W0 (TmIs bp A c l r W0)) (hv:Hid (UpT [bp] w0 W0)) (hs:n<=w0.heap.size):
 Calls Tryz.prog f a W0 fun e W'=> ∃x:ET,e= .returned (valT x)/\Hid (PAt W' bp A c l r.2)/\Hid (UpT [bp] w0 W')/\Hid (x.Is W')/\n<=x.lo/\Hid (x.t=r.1/\few x.t=true):=
 h.mono fun e W' h=>by
  obtain ⟨x,h1,h2,h3,h4,h5,h6⟩:=h;exact ⟨x,h1,Y1 h2,Y1 (hv.out.trans h3),Y1 h4,Nat.le_trans (Nat.le_trans hs hv.out.size) h5,Y1 h6⟩
theorem Nine.upf {W W':World} {b:Nat} {v0 v1 v2 v3 v4 v5 v6 v7 v8:Value} {F:List Nat} (h:Nine W b v0 v1 v2 v3 v4 v5 v6 v7 v8) (hu:UpT F W W') (hF:b∉F):
 W'.cell? ⟨b,0,none⟩=some v0/\W'.cell? ⟨b,1,none⟩=some v1/\W'.cell? ⟨b,2,none⟩=some v2/\W'.cell? ⟨b,3,none⟩=some v3/\W'.cell? ⟨b,4,none⟩=some v4/\W'.cell? ⟨b,5,none⟩=some v5/\W'.cell? ⟨b,6,none⟩=some v6/\W'.cell? ⟨b,7,none⟩=some v7/\W'.cell? ⟨b,8,none⟩=some v8/\
 W'.frozen? ⟨b,0,none⟩=false/\W'.frozen? ⟨b,1,none⟩=false/\W'.frozen? ⟨b,2,none⟩=false/\W'.frozen? ⟨b,3,none⟩=false/\W'.frozen? ⟨b,4,none⟩=false/\W'.frozen? ⟨b,5,none⟩=false/\W'.frozen? ⟨b,6,none⟩=false/\W'.frozen? ⟨b,7,none⟩=false/\W'.frozen? ⟨b,8,none⟩=false/\b < W'.heap.size:=
 have k:=h.up hu hF
 ⟨k.c0,k.c1,k.c2,k.c3,k.c4,k.c5,k.c6,k.c7,k.c8,k.fz 0,k.fz 1,k.fz 2,k.fz 3,k.fz 4,k.fz 5,k.fz 6,k.fz 7,k.fz 8,k.lt⟩
end
end Go.Proofs.YtkncdbaoaeeoiaaGreatDoor
