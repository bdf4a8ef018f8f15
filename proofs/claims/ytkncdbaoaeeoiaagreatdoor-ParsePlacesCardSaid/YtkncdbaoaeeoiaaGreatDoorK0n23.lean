/- What the proofs of ParsePlaces want, part 23. -/
import Derived.Test.YtkncdbaoaeeoiaaGreatDoorK0n22
import Derived.Test.YtkncdbaoaeeoiaaGreatDoorK0n16
import Derived.Test.YtkncdbaoaeeoiaaGreatDoorK0n4
set_option linter.unusedVariables false
set_option linter.unusedSimpArgs false
set_option linter.unusedSectionVars false
set_option maxRecDepth 100000
set_option maxHeartbeats 16000000
namespace Go.Proofs.YtkncdbaoaeeoiaaGreatDoor
section
open Go.RowKit Tms
open Shp (Sh)
open Pso (St Ok Goes betw loop want)
theorem UpT.drop2 {w W1 W:World} {bp ob:Nat} (h:UpT [bp,ob] W1 W) (hb:UpT [bp] w W1) (ho:w.heap.size<=ob):UpT [bp] w W:=
 ⟨h.os.trans hb.os,h.tape.trans hb.tape,h.output.trans hb.output,Nat.le_trans hb.size h.size,fun k hk hn=>(h.block k (Nat.lt_of_lt_of_le hk hb.size) (by simp at hn ⊢; omega)).trans (hb.block k hk hn)⟩
section
variable (bp : Nat) (A : Option Addr) (c : Nat) (l : List Tk) (m : Nat) (σ : St) (a : Int) (hl : TokOk l) (ha : -9223372036854775808 <= a /\ a <= 9223372036854775807) (hσ : Ok l σ) (hE : ExC bp A c l m) (hm : l.length - σ.1 < m) (w : World) (h : PAt w bp A c l σ)
include bp A c l m σ a hl ha hσ hE hm w h
theorem Z8N:
 Calls Tryz.prog 67 #[.pointer (some ⟨bp,0,none⟩),.int .i64 a] w (TmIs bp A c l (Pso.choiceE l (Pso.expr l m) σ a) w):=by
 have hbw:=h.lt;have HLEN:=hl.len;have HL:=Y1 hl;have HE:=Y1 hE;have HM:=Y1 hm;have HA:=Y1 ha;have HK:Hid (TBok ⟨12,[],[],0,a⟩):=Y1 ⟨by simp,by simp,by simp,ha,by simp⟩;have g0:σ.1<=σ.1:=Nat.le_refl _;have t0:Ok l σ:=hσ;have T0:=Y1 t0;have G0:=Y1 g0;have t1:Pso.To l σ (Pso.expr l m σ).2:=Pso.to_expr m _ hσ;have g1:σ.1<=(Pso.expr l m σ).2.1:=Nat.le_trans g0 t1.2.1;have T1:=Y1 t1;have G1:=Y1 g1;have t2:Pso.To l (Pso.expr l m σ).2 (want l (Pso.expr l m σ).2 [116,104,101,110]):=Pso.to_want t1.1 [116,104,101,110];have g2:σ.1<=(want l (Pso.expr l m σ).2 [116,104,101,110]).1:=Nat.le_trans g1 t2.2.1;have T2:=Y1 t2;have G2:=Y1 g2;have t3:Pso.To l (want l (Pso.expr l m σ).2 [116,104,101,110]) (Pso.expr l m (want l (Pso.expr l m σ).2 [116,104,101,110])).2:=Pso.to_expr m _ t2.1;have g3:σ.1<=(Pso.expr l m (want l (Pso.expr l m σ).2 [116,104,101,110])).2.1:=Nat.le_trans g2 t3.2.1;have T3:=Y1 t3;have G3:=Y1 g3;have t4:Pso.To l (Pso.expr l m (want l (Pso.expr l m σ).2 [116,104,101,110])).2 (want l (Pso.expr l m (want l (Pso.expr l m σ).2 [116,104,101,110])).2 [101,108,115,101]):=Pso.to_want t3.1 [101,108,115,101];have g4:σ.1<=(want l (Pso.expr l m (want l (Pso.expr l m σ).2 [116,104,101,110])).2 [101,108,115,101]).1:=Nat.le_trans g3 t4.2.1;have T4:=Y1 t4;have G4:=Y1 g4;have t5:Pso.To l (want l (Pso.expr l m (want l (Pso.expr l m σ).2 [116,104,101,110])).2 [101,108,115,101]) (Pso.expr l m (want l (Pso.expr l m (want l (Pso.expr l m σ).2 [116,104,101,110])).2 [101,108,115,101])).2:=Pso.to_expr m _ t4.1;have g5:σ.1<=(Pso.expr l m (want l (Pso.expr l m (want l (Pso.expr l m σ).2 [116,104,101,110])).2 [101,108,115,101])).2.1:=Nat.le_trans g4 t5.2.1;have T5:=Y1 t5;have G5:=Y1 g5;have t6:Pso.To l (Pso.expr l m (want l (Pso.expr l m (want l (Pso.expr l m σ).2 [116,104,101,110])).2 [101,108,115,101])).2 (want l (Pso.expr l m (want l (Pso.expr l m (want l (Pso.expr l m σ).2 [116,104,101,110])).2 [101,108,115,101])).2 [97,115]):=Pso.to_want t5.1 [97,115]
 have g6:σ.1<=(want l (Pso.expr l m (want l (Pso.expr l m (want l (Pso.expr l m σ).2 [116,104,101,110])).2 [101,108,115,101])).2 [97,115]).1:=Nat.le_trans g5 t6.2.1;have T6:=Y1 t6;have G6:=Y1 g6;have t7:Pso.To l (want l (Pso.expr l m (want l (Pso.expr l m (want l (Pso.expr l m σ).2 [116,104,101,110])).2 [101,108,115,101])).2 [97,115]) (Pso.wholeT l (want l (Pso.expr l m (want l (Pso.expr l m (want l (Pso.expr l m σ).2 [116,104,101,110])).2 [101,108,115,101])).2 [97,115])).2:=Pso.to_wholeT _ t6.1;have g7:σ.1<=(Pso.wholeT l (want l (Pso.expr l m (want l (Pso.expr l m (want l (Pso.expr l m σ).2 [116,104,101,110])).2 [101,108,115,101])).2 [97,115])).2.1:=Nat.le_trans g6 t7.2.1;have T7:=Y1 t7;have G7:=Y1 g7;have hb0:=Z01 w (.cells Ya 26);have HB0:=Y1 hb0;have HPI:=Y1 (h.below hb0);have hz0:=Z0h w (.int .i64 0) (.string ⟨#[]⟩) (.string ⟨#[]⟩) (.int .i64 0) (.slice none 0 0) (.slice none 0 0) (.slice none 0 0) (.slice none 0 0) (.int .i64 0) 26;have HZI:=Y1 hz0;clear h hl hE hm ha hσ hb0 hz0 t0 g0 t1 g1 t2 g2 t3 g3 t4 g4 t5 g5 t6 g6 t7 g7;go_enter Tryz.func67,Tryz.ntmps67
 go_wp2_with fail
 have HPJ:=Y1 HPI.out;have HUJ:=Y1 (Z05 (F:= [bp]) HB0.out);have HZJ:=Y1 HZI.out;have hs0:w.heap.size+1<=(w.alloc (.cells Ya 26)).heap.size:=by simp
 have hs1: (w.alloc (.cells Ya 26)).heap.size=w.heap.size+1:=by simp
 have hjn:=Z8L (W0:=(w.alloc (.cells Ya 26))) (bp:=bp) ⟨12,[],[],0,a⟩ (by omega) 26;rw[hs1] at hjn;have HX0:=Y1 (Z3O hjn);have HP0:=Y1 (HPJ.out.alloc (.cells #[.int .i64 12,.string ⟨#[]⟩,.string ⟨#[]⟩,.int .i64 0,.slice none 0 0,.slice none 0 0,.slice none 0 0,.slice none 0 0,.int .i64 a] 26));have HU0:=Y1 (HUJ.out.alloc (.cells #[.int .i64 12,.string ⟨#[]⟩,.string ⟨#[]⟩,.int .i64 0,.slice none 0 0,.slice none 0 0,.slice none 0 0,.slice none 0 0,.int .i64 a] 26));have HZ:=Y1 (HZJ.out.below (Z01 _ (.cells #[.int .i64 12,.string ⟨#[]⟩,.string ⟨#[]⟩,.int .i64 0,.slice none 0 0,.slice none 0 0,.slice none 0 0,.slice none 0 0,.int .i64 a] 26)));have HCZ:Hid (w.heap.size+2<=((w.alloc (.cells Ya 26)).alloc (.cells #[.int .i64 12,.string ⟨#[]⟩,.string ⟨#[]⟩,.int .i64 0,.slice none 0 0,.slice none 0 0,.slice none 0 0,.slice none 0 0,.int .i64 a] 26)).heap.size):=Y1 (by simp <;> omega);have HOB:Hid (w.heap.size+1<=(w.heap.size+1)):=Y1 (by omega);clear hjn HPJ HUJ HZJ hs1;have HZW:=Y1 (show w.heap.size+1+1=((w.alloc (.cells Ya 26)).alloc (.cells #[.int .i64 12,.string ⟨#[]⟩,.string ⟨#[]⟩,.int .i64 0,.slice none 0 0,.slice none 0 0,.slice none 0 0,.slice none 0 0,.int .i64 a] 26)).heap.size by simp);generalize (w.alloc (.cells Ya 26)).alloc (.cells #[.int .i64 12,.string ⟨#[]⟩,.string ⟨#[]⟩,.int .i64 0,.slice none 0 0,.slice none 0 0,.slice none 0 0,.slice none 0 0,.int .i64 a] 26)=W1 at HP0 HX0 HU0 HCZ HZ HZW ⊢;refine prgT _ 8 5 (.move (.tmp 0)) 26 7 36 ⟨W1,bp,A,c,l,(Pso.expr l m σ).2,(w.heap.size+1),7,W1.heap.size,_,_,_,(fun x=>x.t=(Pso.expr l m σ).1/\few x.t=true)⟩ (HX0.out.je.goodT2 (by have h1:=HX0.out.lp; omega)) (fun uu=> { tmps:=#[.pointer (some ⟨bp,0,none⟩),.int .i64 a,undef,undef,.pointer (some ⟨w.heap.size,0,none⟩),.pointer (some ⟨w.heap.size+1,0,none⟩),.int .i64 a,.agg #[.int .i64 12,.string ⟨#[]⟩,.string ⟨#[]⟩,.int .i64 0,.slice none 0 0,.slice none 0 0,.slice none 0 0,.slice none 0 0,.int .i64 a],uu 0,uu 1,uu 2,uu 3,uu 4,uu 5,uu 6,undef,undef,undef,undef,undef,undef,undef,undef,undef,undef,undef,undef,undef,undef,undef,undef,undef,undef,undef,undef,undef,undef,undef,undef,undef,undef,undef,undef,undef,undef,undef,undef,undef,undef,undef,undef,undef],defers:= [] }) (fun _=>undef)
  ⟨fun i o h u v=>by
   rcases i with _ | _ | _ | _ | _ | _ | _ | _ | i
   all_goals first | (cases h; rfl) | exact absurd h (by simp[plnT]),fun _=>rfl,fun _=>rfl,fun _=>rfl,fun _=>rfl,fun _=>rfl,fun _=>rfl,fun _=>rfl,fun _=>rfl⟩
  (fun u W hu=>Z3H (.tmp 0) rfl W) (fun W=>by go_simp <;> rfl) (enters_of Tryz.func36 (by kernel_rfl) rfl) (fun W hW=>HE.out W _ T0.out (by have:=G0.out; have:=HM.out; omega) (HP0.out.below hW)) (fun u1 w1 x1 g1 cp1 p=> ?_)
 have hX1:=HX0.out.part2 p p.r;have HP1:=Y1 (show PAt w1 bp A c l (Pso.expr l m σ).2 from p.par);have HX1:=Y1 hX1;clear p hX1 HP0 HX0
 go_wp2_with fail
 refine (Z0d bp A c l (Pso.expr l m σ).2 [116,104,101,110] (by omega) T1.out.1.1 w1 HP1.out).mono ?_;rintro e w2 ⟨v2,rfl,hp2,hu2⟩;have HP2:=Y1 hp2;have HX2:=Y1 (HX1.out.keep hu2);clear hp2 hu2 HP1 HX1
 go_wp2_with fail
 refine prgT _ 20 5 (.move (.tmp 0)) 26 7 36 ⟨w2,bp,A,c,l,(Pso.expr l m (want l (Pso.expr l m σ).2 [116,104,101,110])).2,(w.heap.size+1),7,W1.heap.size,_,_,_,(fun x=>x.t=(Pso.expr l m (want l (Pso.expr l m σ).2 [116,104,101,110])).1/\few x.t=true)⟩ (HX2.out.je.goodT2 (by have h1:=HX2.out.lp; omega)) (fun uu=> { tmps:=#[.pointer (some ⟨bp,0,none⟩),.int .i64 a,undef,undef,.pointer (some ⟨w.heap.size,0,none⟩),.pointer (some ⟨w.heap.size+1,0,none⟩),.int .i64 a,.agg #[.int .i64 12,.string ⟨#[]⟩,.string ⟨#[]⟩,.int .i64 0,.slice none 0 0,.slice none 0 0,.slice none 0 0,.slice none 0 0,.int .i64 a],u1 0,u1 1,u1 2,u1 3,u1 4,u1 5,u1 6,.pointer (some ⟨bp,0,none⟩),.pointer (some ⟨bp,0,none⟩),.pointer (some ⟨bp,0,none⟩),.slice (some ⟨w1.heap.size,0,none⟩) 1 1,.string v2,uu 0,uu 1,uu 2,uu 3,uu 4,uu 5,uu 6,undef,undef,undef,undef,undef,undef,undef,undef,undef,undef,undef,undef,undef,undef,undef,undef,undef,undef,undef,undef,undef,undef,undef,undef,undef],defers:= [] }) (fun _=>undef)
  ⟨fun i o h u v=>by
   rcases i with _ | _ | _ | _ | _ | _ | _ | _ | i
   all_goals first | (cases h; rfl) | exact absurd h (by simp[plnT]),fun _=>rfl,fun _=>rfl,fun _=>rfl,fun _=>rfl,fun _=>rfl,fun _=>rfl,fun _=>rfl,fun _=>rfl⟩
  (fun u W hu=>Z3H (.tmp 0) rfl W) (fun W=>by go_simp <;> rfl) (enters_of Tryz.func36 (by kernel_rfl) rfl) (fun W hW=>HE.out W _ T2.out.1 (by have:=G2.out; have:=HM.out; omega) (HP2.out.below hW)) (fun u3 w3 x3 g3 cp3 p=> ?_)
 have hX3:=HX2.out.part2 p p.r;have HP3:=Y1 (show PAt w3 bp A c l (Pso.expr l m (want l (Pso.expr l m σ).2 [116,104,101,110])).2 from p.par);have HX3:=Y1 hX3;clear p hX3 HP2 HX2
 go_wp2_with fail
 refine (Z0d bp A c l (Pso.expr l m (want l (Pso.expr l m σ).2 [116,104,101,110])).2 [101,108,115,101] (by omega) T3.out.1.1 w3 HP3.out).mono ?_;rintro e w4 ⟨v4,rfl,hp4,hu4⟩;have HP4:=Y1 hp4;have HX4:=Y1 (HX3.out.keep hu4);clear hp4 hu4 HP3 HX3
 go_wp2_with fail
 refine prgT _ 32 5 (.move (.tmp 0)) 26 7 36 ⟨w4,bp,A,c,l,(Pso.expr l m (want l (Pso.expr l m (want l (Pso.expr l m σ).2 [116,104,101,110])).2 [101,108,115,101])).2,(w.heap.size+1),7,W1.heap.size,_,_,_,(fun x=>x.t=(Pso.expr l m (want l (Pso.expr l m (want l (Pso.expr l m σ).2 [116,104,101,110])).2 [101,108,115,101])).1/\few x.t=true)⟩ (HX4.out.je.goodT2 (by have h1:=HX4.out.lp; omega)) (fun uu=> { tmps:=#[.pointer (some ⟨bp,0,none⟩),.int .i64 a,undef,undef,.pointer (some ⟨w.heap.size,0,none⟩),.pointer (some ⟨w.heap.size+1,0,none⟩),.int .i64 a,.agg #[.int .i64 12,.string ⟨#[]⟩,.string ⟨#[]⟩,.int .i64 0,.slice none 0 0,.slice none 0 0,.slice none 0 0,.slice none 0 0,.int .i64 a],u1 0,u1 1,u1 2,u1 3,u1 4,u1 5,u1 6,.pointer (some ⟨bp,0,none⟩),.pointer (some ⟨bp,0,none⟩),.pointer (some ⟨bp,0,none⟩),.slice (some ⟨w1.heap.size,0,none⟩) 1 1,.string v2,u3 0,u3 1,u3 2,u3 3,u3 4,u3 5,u3 6,.pointer (some ⟨bp,0,none⟩),.pointer (some ⟨bp,0,none⟩),.pointer (some ⟨bp,0,none⟩),.slice (some ⟨w3.heap.size,0,none⟩) 1 1,.string v4,uu 0,uu 1,uu 2,uu 3,uu 4,uu 5,uu 6,undef,undef,undef,undef,undef,undef,undef,undef,undef,undef,undef,undef,undef],defers:= [] }) (fun _=>undef)
  ⟨fun i o h u v=>by
   rcases i with _ | _ | _ | _ | _ | _ | _ | _ | i
   all_goals first | (cases h; rfl) | exact absurd h (by simp[plnT]),fun _=>rfl,fun _=>rfl,fun _=>rfl,fun _=>rfl,fun _=>rfl,fun _=>rfl,fun _=>rfl,fun _=>rfl⟩
  (fun u W hu=>Z3H (.tmp 0) rfl W) (fun W=>by go_simp <;> rfl) (enters_of Tryz.func36 (by kernel_rfl) rfl) (fun W hW=>HE.out W _ T4.out.1 (by have:=G4.out; have:=HM.out; omega) (HP4.out.below hW)) (fun u5 w5 x5 g5 cp5 p=> ?_)
 have hX5:=HX4.out.part2 p p.r;have HP5:=Y1 (show PAt w5 bp A c l (Pso.expr l m (want l (Pso.expr l m (want l (Pso.expr l m σ).2 [116,104,101,110])).2 [101,108,115,101])).2 from p.par);have HX5:=Y1 hX5;clear p hX5 HP4 HX4
 go_wp2_with fail
 refine (Z0d bp A c l (Pso.expr l m (want l (Pso.expr l m (want l (Pso.expr l m σ).2 [116,104,101,110])).2 [101,108,115,101])).2 [97,115] (by omega) T5.out.1.1 w5 HP5.out).mono ?_;rintro e w6 ⟨v6,rfl,hp6,hu6⟩;have HP6:=Y1 hp6;have HX6:=Y1 (HX5.out.keep hu6);clear hp6 hu6 HP5 HX5
 go_wp2_with fail
 refine prgS _ 44 5 (.move (.tmp 0)) 26 6 39 ⟨w6,bp,A,c,l,(Pso.wholeT l (want l (Pso.expr l m (want l (Pso.expr l m (want l (Pso.expr l m σ).2 [116,104,101,110])).2 [101,108,115,101])).2 [97,115])).2,(w.heap.size+1),6,W1.heap.size,_,_,_,(fun x=>x.t=(Pso.wholeT l (want l (Pso.expr l m (want l (Pso.expr l m (want l (Pso.expr l m σ).2 [116,104,101,110])).2 [101,108,115,101])).2 [97,115])).1)⟩ (HX6.out.je.goodS2 (by have h1:=HX6.out.ls; omega)) (fun uu=> { tmps:=#[.pointer (some ⟨bp,0,none⟩),.int .i64 a,undef,undef,.pointer (some ⟨w.heap.size,0,none⟩),.pointer (some ⟨w.heap.size+1,0,none⟩),.int .i64 a,.agg #[.int .i64 12,.string ⟨#[]⟩,.string ⟨#[]⟩,.int .i64 0,.slice none 0 0,.slice none 0 0,.slice none 0 0,.slice none 0 0,.int .i64 a],u1 0,u1 1,u1 2,u1 3,u1 4,u1 5,u1 6,.pointer (some ⟨bp,0,none⟩),.pointer (some ⟨bp,0,none⟩),.pointer (some ⟨bp,0,none⟩),.slice (some ⟨w1.heap.size,0,none⟩) 1 1,.string v2,u3 0,u3 1,u3 2,u3 3,u3 4,u3 5,u3 6,.pointer (some ⟨bp,0,none⟩),.pointer (some ⟨bp,0,none⟩),.pointer (some ⟨bp,0,none⟩),.slice (some ⟨w3.heap.size,0,none⟩) 1 1,.string v4,u5 0,u5 1,u5 2,u5 3,u5 4,u5 5,u5 6,.pointer (some ⟨bp,0,none⟩),.pointer (some ⟨bp,0,none⟩),.pointer (some ⟨bp,0,none⟩),.slice (some ⟨w5.heap.size,0,none⟩) 1 1,.string v6,uu 0,uu 1,uu 2,uu 3,uu 4,uu 5,uu 6,undef],defers:= [] }) (fun _=>undef)
  ⟨fun i o h u v=>by
   rcases i with _ | _ | _ | _ | _ | _ | _ | _ | i
   all_goals first | (cases h; rfl) | exact absurd h (by simp[plnS]),fun _=>rfl,fun _=>rfl,fun _=>rfl,fun _=>rfl,fun _=>rfl,fun _=>rfl,fun _=>rfl,fun _=>rfl⟩
  (fun u W hu=>Z3H (.tmp 0) rfl W) (fun W=>by go_simp <;> rfl) (enters_of Tryz.func39 (by kernel_rfl) rfl) (fun W hW=>Z0P bp A c l HL.out.len HL.out.txt (want l (Pso.expr l m (want l (Pso.expr l m (want l (Pso.expr l m σ).2 [116,104,101,110])).2 [101,108,115,101])).2 [97,115]) T6.out.1 W (HP6.out.below hW)) (fun u7 w7 x7 g7 cp7 p=> ?_)
 have hX7:=HX6.out.shape2 p p.r;have HP7:=Y1 (show PAt w7 bp A c l (Pso.wholeT l (want l (Pso.expr l m (want l (Pso.expr l m (want l (Pso.expr l m σ).2 [116,104,101,110])).2 [101,108,115,101])).2 [97,115])).2 from p.par);have HX7:=Y1 hX7;clear p hX7 HP6 HX6;have hJ:=HX7.out.je;have c0:=hJ.c0;have c1:=hJ.c1;have c2:=hJ.c2;have c3:=hJ.c3;have c4:=hJ.c4;have c5:=hJ.c5;have c6:=hJ.c6;have c7:=hJ.c7;have c8:=hJ.c8;have hz1:=HCZ.out;have hz2:=hJ.up.size;have hol: (w.heap.size+1) < w7.heap.size:=Nat.lt_of_lt_of_le hJ.lt hz2;obtain ⟨r0,r1,r2,r3,r4,r5,r6,r7,r8,rf,rl⟩:=HZ.out.up hJ.up (by have:=HOB.out; simp; omega);have f0:=rf 0;have f1:=rf 1;have f2:=rf 2;have f3:=rf 3;have f4:=rf 4;have f5:=rf 5;have f6:=rf 6;have f7:=rf 7;have f8:=rf 8;clear hJ rf;go_wp2;have hJ:=HX7.out.je;refine bodyPost_ret (v:=valT ⟨mkT ⟨12,[],[],0,a⟩ ({ ({ ({ ({ TR.none_ with AP:=some ⟨g1,0,none⟩,cp:=cp1,L:=(TR.none_:TR).L++ [x1] }:TR) with AP:=some ⟨g3,0,none⟩,cp:=cp3,L:=(({ TR.none_ with AP:=some ⟨g1,0,none⟩,cp:=cp1,L:=(TR.none_:TR).L++ [x1] }:TR):TR).L++ [x3] }:TR) with AP:=some ⟨g5,0,none⟩,cp:=cp5,L:=(({ ({ TR.none_ with AP:=some ⟨g1,0,none⟩,cp:=cp1,L:=(TR.none_:TR).L++ [x1] }:TR) with AP:=some ⟨g3,0,none⟩,cp:=cp3,L:=(({ TR.none_ with AP:=some ⟨g1,0,none⟩,cp:=cp1,L:=(TR.none_:TR).L++ [x1] }:TR):TR).L++ [x3] }:TR):TR).L++ [x5] }:TR) with AS:=some ⟨g7,0,none⟩,cs:=cp7,S:=(({ ({ ({ TR.none_ with AP:=some ⟨g1,0,none⟩,cp:=cp1,L:=(TR.none_:TR).L++ [x1] }:TR) with AP:=some ⟨g3,0,none⟩,cp:=cp3,L:=(({ TR.none_ with AP:=some ⟨g1,0,none⟩,cp:=cp1,L:=(TR.none_:TR).L++ [x1] }:TR):TR).L++ [x3] }:TR) with AP:=some ⟨g5,0,none⟩,cp:=cp5,L:=(({ ({ TR.none_ with AP:=some ⟨g1,0,none⟩,cp:=cp1,L:=(TR.none_:TR).L++ [x1] }:TR) with AP:=some ⟨g3,0,none⟩,cp:=cp3,L:=(({ TR.none_ with AP:=some ⟨g1,0,none⟩,cp:=cp1,L:=(TR.none_:TR).L++ [x1] }:TR):TR).L++ [x3] }:TR):TR).L++ [x5] }:TR):TR).S++ [x7] }:TR),mkQ ({ ({ ({ ({ TR.none_ with AP:=some ⟨g1,0,none⟩,cp:=cp1,L:=(TR.none_:TR).L++ [x1] }:TR) with AP:=some ⟨g3,0,none⟩,cp:=cp3,L:=(({ TR.none_ with AP:=some ⟨g1,0,none⟩,cp:=cp1,L:=(TR.none_:TR).L++ [x1] }:TR):TR).L++ [x3] }:TR) with AP:=some ⟨g5,0,none⟩,cp:=cp5,L:=(({ ({ TR.none_ with AP:=some ⟨g1,0,none⟩,cp:=cp1,L:=(TR.none_:TR).L++ [x1] }:TR) with AP:=some ⟨g3,0,none⟩,cp:=cp3,L:=(({ TR.none_ with AP:=some ⟨g1,0,none⟩,cp:=cp1,L:=(TR.none_:TR).L++ [x1] }:TR):TR).L++ [x3] }:TR):TR).L++ [x5] }:TR) with AS:=some ⟨g7,0,none⟩,cs:=cp7,S:=(({ ({ ({ TR.none_ with AP:=some ⟨g1,0,none⟩,cp:=cp1,L:=(TR.none_:TR).L++ [x1] }:TR) with AP:=some ⟨g3,0,none⟩,cp:=cp3,L:=(({ TR.none_ with AP:=some ⟨g1,0,none⟩,cp:=cp1,L:=(TR.none_:TR).L++ [x1] }:TR):TR).L++ [x3] }:TR) with AP:=some ⟨g5,0,none⟩,cp:=cp5,L:=(({ ({ TR.none_ with AP:=some ⟨g1,0,none⟩,cp:=cp1,L:=(TR.none_:TR).L++ [x1] }:TR) with AP:=some ⟨g3,0,none⟩,cp:=cp3,L:=(({ TR.none_ with AP:=some ⟨g1,0,none⟩,cp:=cp1,L:=(TR.none_:TR).L++ [x1] }:TR):TR).L++ [x3] }:TR):TR).L++ [x5] }:TR):TR).S++ [x7] }:TR),W1.heap.size,w7.heap.size⟩) (by simp[results,Tryz.results67,go_sem,valT,mkT,mkQ,r0,r1,r2,r3,r4,r5,r6,r7,r8,rl]) rfl ?_
 have hn:=hJ.new HK.out (by have h1:=HX7.out.ln; have h2:=HX7.out.lv; have h3:=HX7.out.ls; have h4:=HX7.out.lp; exact ⟨by omega,by omega,by omega,by omega⟩);have hE:=end9 HP7.out (hJ.up.drop2 HU0.out (by have:=HOB.out; omega)) hn (rb:=w.heap.size) (by omega) (Or.inl (by simp only; omega)) hbw;exact ⟨_,rfl,(hE _ _ _ _ _ _ _ _ _).1,(hE _ _ _ _ _ _ _ _ _).2.1,(hE _ _ _ _ _ _ _ _ _).2.2,by simp only; omega,by
  rw[Z3N _ HX7.out.en HX7.out.ev HX7.out.es HX7.out.ep]; rfl,Z1E _ _ (Nat.le_trans HX7.out.ln (by omega)) HX7.out.fw⟩
theorem Zdu:
 Calls Tryz.prog 66 #[.pointer (some ⟨bp,0,none⟩),.int .i64 a] w (TmIs bp A c l (Pso.letE l (Pso.expr l m) σ a) w):=by
 have hbw:=h.lt;have HLEN:=hl.len;have HL:=Y1 hl;have HE:=Y1 hE;have HM:=Y1 hm;have HA:=Y1 ha;have HK:Hid (TBok ⟨14,[],(Pso.name l σ).1,0,a⟩):=Y1 ⟨by simp,Z0q hl.txt σ 1 (by decide) _,by simp,ha,by simp⟩;have g0:σ.1<=σ.1:=Nat.le_refl _;have t0:Ok l σ:=hσ;have T0:=Y1 t0;have G0:=Y1 g0;have t1:Pso.To l σ (Pso.name l σ).2:=Pso.to_name hσ;have g1:σ.1<=(Pso.name l σ).2.1:=t1.2.1;have T1:=Y1 t1;have G1:=Y1 g1;have t2:Pso.To l (Pso.name l σ).2 (want l (Pso.name l σ).2 [61]):=Pso.to_want t1.1 [61];have g2:σ.1<=(want l (Pso.name l σ).2 [61]).1:=Nat.le_trans g1 t2.2.1;have T2:=Y1 t2;have G2:=Y1 g2;have t3:Pso.To l (want l (Pso.name l σ).2 [61]) (Pso.expr l m (want l (Pso.name l σ).2 [61])).2:=Pso.to_expr m _ t2.1;have g3:σ.1<=(Pso.expr l m (want l (Pso.name l σ).2 [61])).2.1:=Nat.le_trans g2 t3.2.1;have T3:=Y1 t3;have G3:=Y1 g3;have t4:Pso.To l (Pso.expr l m (want l (Pso.name l σ).2 [61])).2 (want l (Pso.expr l m (want l (Pso.name l σ).2 [61])).2 [105,110]):=Pso.to_want t3.1 [105,110];have g4:σ.1<=(want l (Pso.expr l m (want l (Pso.name l σ).2 [61])).2 [105,110]).1:=Nat.le_trans g3 t4.2.1;have T4:=Y1 t4;have G4:=Y1 g4;have t5:Pso.To l (want l (Pso.expr l m (want l (Pso.name l σ).2 [61])).2 [105,110]) (Pso.expr l m (want l (Pso.expr l m (want l (Pso.name l σ).2 [61])).2 [105,110])).2:=Pso.to_expr m _ t4.1;have g5:σ.1<=(Pso.expr l m (want l (Pso.expr l m (want l (Pso.name l σ).2 [61])).2 [105,110])).2.1:=Nat.le_trans g4 t5.2.1;have T5:=Y1 t5;have G5:=Y1 g5;have hb0:=Z01 w (.cells Ya 26);have HB0:=Y1 hb0;have HPI:=Y1 (h.below hb0);have hz0:=Z0h w (.int .i64 0) (.string ⟨#[]⟩) (.string ⟨#[]⟩) (.int .i64 0) (.slice none 0 0) (.slice none 0 0) (.slice none 0 0) (.slice none 0 0) (.int .i64 0) 26;have HZI:=Y1 hz0;clear h hl hE hm ha hσ hb0 hz0 t0 g0 t1 g1 t2 g2 t3 g3 t4 g4 t5 g5;go_enter Tryz.func66,Tryz.ntmps66
 go_wp2_with fail
 refine (Z1a bp A c l σ (by omega) T0.out.1 HL.out.txt _ HPI.out).mono ?_;rintro e w0 ⟨rfl,hp0,hu0⟩;have HPJ:=Y1 hp0;have HUJ:=Y1 ((Z05 (F:= [bp]) HB0.out).trans hu0);have HZJ:=Y1 (HZI.out.up hu0 (by simp; omega));have hs0:w.heap.size+1<=w0.heap.size:=by have:=hu0.size; simpa using this
 clear hp0 hu0 HPI HZI
 go_wp2_with fail
 have hjn:=Z8L (W0:=w0) (bp:=bp) ⟨14,[],(Pso.name l σ).1,0,a⟩ (by omega) 26;have HX0:=Y1 (Z3O hjn);have HP0:=Y1 (HPJ.out.alloc (.cells #[.int .i64 14,.string ⟨#[]⟩,.string ⟨(Pso.name l σ).1.toArray⟩,.int .i64 0,.slice none 0 0,.slice none 0 0,.slice none 0 0,.slice none 0 0,.int .i64 a] 26));have HU0:=Y1 (HUJ.out.alloc (.cells #[.int .i64 14,.string ⟨#[]⟩,.string ⟨(Pso.name l σ).1.toArray⟩,.int .i64 0,.slice none 0 0,.slice none 0 0,.slice none 0 0,.slice none 0 0,.int .i64 a] 26));have HZ:=Y1 (HZJ.out.below (Z01 _ (.cells #[.int .i64 14,.string ⟨#[]⟩,.string ⟨(Pso.name l σ).1.toArray⟩,.int .i64 0,.slice none 0 0,.slice none 0 0,.slice none 0 0,.slice none 0 0,.int .i64 a] 26)));have HCZ:Hid (w.heap.size+2<=(w0.alloc (.cells #[.int .i64 14,.string ⟨#[]⟩,.string ⟨(Pso.name l σ).1.toArray⟩,.int .i64 0,.slice none 0 0,.slice none 0 0,.slice none 0 0,.slice none 0 0,.int .i64 a] 26)).heap.size):=Y1 (by simp <;> omega);have HOB:Hid (w.heap.size+1<=w0.heap.size):=Y1 (by omega);clear hjn HPJ HUJ HZJ;have HZW:=Y1 (show w0.heap.size+1=(w0.alloc (.cells #[.int .i64 14,.string ⟨#[]⟩,.string ⟨(Pso.name l σ).1.toArray⟩,.int .i64 0,.slice none 0 0,.slice none 0 0,.slice none 0 0,.slice none 0 0,.int .i64 a] 26)).heap.size by simp);generalize w0.alloc (.cells #[.int .i64 14,.string ⟨#[]⟩,.string ⟨(Pso.name l σ).1.toArray⟩,.int .i64 0,.slice none 0 0,.slice none 0 0,.slice none 0 0,.slice none 0 0,.int .i64 a] 26)=W1 at HP0 HX0 HU0 HCZ HZ HZW ⊢;have HOE:Hid (w0.heap.size=w0.heap.size):=Y1 rfl;have HP1:=HP0;have HX1:=HX0
 go_wp2_with fail
 refine (Z0d bp A c l (Pso.name l σ).2 [61] (by omega) T1.out.1.1 W1 HP1.out HZW.out).mono ?_;rintro e w2 ⟨v2,rfl,hp2,hu2⟩;have HP2:=Y1 hp2;have HX2:=Y1 (HX1.out.keep hu2);clear hp2 hu2 HP1 HX1
 go_wp2_with fail
 refine prgT _ 17 5 (.move (.tmp 0)) 26 7 36 ⟨w2,bp,A,c,l,(Pso.expr l m (want l (Pso.name l σ).2 [61])).2,w0.heap.size,7,W1.heap.size,_,_,_,(fun x=>x.t=(Pso.expr l m (want l (Pso.name l σ).2 [61])).1/\few x.t=true)⟩ (HX2.out.je.goodT2 (by have h1:=HX2.out.lp; omega)) (fun uu=> { tmps:=#[.pointer (some ⟨bp,0,none⟩),.int .i64 a,undef,undef,.pointer (some ⟨w.heap.size,0,none⟩),.pointer (some ⟨w0.heap.size,0,none⟩),.pointer (some ⟨bp,0,none⟩),.pointer (some ⟨bp,0,none⟩),.pointer (some ⟨bp,0,none⟩),.string ⟨(Pso.name l σ).1.toArray⟩,.int .i64 a,.agg #[.int .i64 14,.string ⟨#[]⟩,.string ⟨(Pso.name l σ).1.toArray⟩,.int .i64 0,.slice none 0 0,.slice none 0 0,.slice none 0 0,.slice none 0 0,.int .i64 a],.pointer (some ⟨bp,0,none⟩),.pointer (some ⟨bp,0,none⟩),.pointer (some ⟨bp,0,none⟩),.slice (some ⟨w0.heap.size+1,0,none⟩) 1 1,.string v2,uu 0,uu 1,uu 2,uu 3,uu 4,uu 5,uu 6,undef,undef,undef,undef,undef,undef,undef,undef,undef,undef,undef,undef,undef],defers:= [] }) (fun _=>undef)
  ⟨fun i o h u v=>by
   rcases i with _ | _ | _ | _ | _ | _ | _ | _ | i
   all_goals first | (cases h; rfl) | exact absurd h (by simp[plnT]),fun _=>rfl,fun _=>rfl,fun _=>rfl,fun _=>rfl,fun _=>rfl,fun _=>rfl,fun _=>rfl,fun _=>rfl⟩
  (fun u W hu=>Z3H (.tmp 0) rfl W) (fun W=>by go_simp <;> rfl) (enters_of Tryz.func36 (by kernel_rfl) rfl) (fun W hW=>HE.out W _ T2.out.1 (by have:=G2.out; have:=HM.out; omega) (HP2.out.below hW)) (fun u3 w3 x3 g3 cp3 p=> ?_)
 have hX3:=HX2.out.part2 p p.r;have HP3:=Y1 (show PAt w3 bp A c l (Pso.expr l m (want l (Pso.name l σ).2 [61])).2 from p.par);have HX3:=Y1 hX3;clear p hX3 HP2 HX2
 go_wp2_with fail
 refine (Z0d bp A c l (Pso.expr l m (want l (Pso.name l σ).2 [61])).2 [105,110] (by omega) T3.out.1.1 w3 HP3.out).mono ?_;rintro e w4 ⟨v4,rfl,hp4,hu4⟩;have HP4:=Y1 hp4;have HX4:=Y1 (HX3.out.keep hu4);clear hp4 hu4 HP3 HX3
 go_wp2_with fail
 refine prgT _ 29 5 (.move (.tmp 0)) 26 7 36 ⟨w4,bp,A,c,l,(Pso.expr l m (want l (Pso.expr l m (want l (Pso.name l σ).2 [61])).2 [105,110])).2,w0.heap.size,7,W1.heap.size,_,_,_,(fun x=>x.t=(Pso.expr l m (want l (Pso.expr l m (want l (Pso.name l σ).2 [61])).2 [105,110])).1/\few x.t=true)⟩ (HX4.out.je.goodT2 (by have h1:=HX4.out.lp; omega)) (fun uu=> { tmps:=#[.pointer (some ⟨bp,0,none⟩),.int .i64 a,undef,undef,.pointer (some ⟨w.heap.size,0,none⟩),.pointer (some ⟨w0.heap.size,0,none⟩),.pointer (some ⟨bp,0,none⟩),.pointer (some ⟨bp,0,none⟩),.pointer (some ⟨bp,0,none⟩),.string ⟨(Pso.name l σ).1.toArray⟩,.int .i64 a,.agg #[.int .i64 14,.string ⟨#[]⟩,.string ⟨(Pso.name l σ).1.toArray⟩,.int .i64 0,.slice none 0 0,.slice none 0 0,.slice none 0 0,.slice none 0 0,.int .i64 a],.pointer (some ⟨bp,0,none⟩),.pointer (some ⟨bp,0,none⟩),.pointer (some ⟨bp,0,none⟩),.slice (some ⟨w0.heap.size+1,0,none⟩) 1 1,.string v2,u3 0,u3 1,u3 2,u3 3,u3 4,u3 5,u3 6,.pointer (some ⟨bp,0,none⟩),.pointer (some ⟨bp,0,none⟩),.pointer (some ⟨bp,0,none⟩),.slice (some ⟨w3.heap.size,0,none⟩) 1 1,.string v4,uu 0,uu 1,uu 2,uu 3,uu 4,uu 5,uu 6,undef],defers:= [] }) (fun _=>undef)
  ⟨fun i o h u v=>by
   rcases i with _ | _ | _ | _ | _ | _ | _ | _ | i
   all_goals first | (cases h; rfl) | exact absurd h (by simp[plnT]),fun _=>rfl,fun _=>rfl,fun _=>rfl,fun _=>rfl,fun _=>rfl,fun _=>rfl,fun _=>rfl,fun _=>rfl⟩
  (fun u W hu=>Z3H (.tmp 0) rfl W) (fun W=>by go_simp <;> rfl) (enters_of Tryz.func36 (by kernel_rfl) rfl) (fun W hW=>HE.out W _ T4.out.1 (by have:=G4.out; have:=HM.out; omega) (HP4.out.below hW)) (fun u5 w5 x5 g5 cp5 p=> ?_)
 have hX5:=HX4.out.part2 p p.r;have HP5:=Y1 (show PAt w5 bp A c l (Pso.expr l m (want l (Pso.expr l m (want l (Pso.name l σ).2 [61])).2 [105,110])).2 from p.par);have HX5:=Y1 hX5;clear p hX5 HP4 HX4;have hJ:=HX5.out.je;have c0:=hJ.c0;have c1:=hJ.c1;have c2:=hJ.c2;have c3:=hJ.c3;have c4:=hJ.c4;have c5:=hJ.c5;have c6:=hJ.c6;have c7:=hJ.c7;have c8:=hJ.c8;have hz1:=HCZ.out;have hz2:=hJ.up.size;have hol:w0.heap.size < w5.heap.size:=Nat.lt_of_lt_of_le hJ.lt hz2;obtain ⟨r0,r1,r2,r3,r4,r5,r6,r7,r8,rf,rl⟩:=HZ.out.up hJ.up (by have:=HOB.out; simp; omega);have f0:=rf 0;have f1:=rf 1;have f2:=rf 2;have f3:=rf 3;have f4:=rf 4;have f5:=rf 5;have f6:=rf 6;have f7:=rf 7;have f8:=rf 8;clear hJ rf;go_wp2;have hJ:=HX5.out.je;refine bodyPost_ret (v:=valT ⟨mkT ⟨14,[],(Pso.name l σ).1,0,a⟩ ({ ({ TR.none_ with AP:=some ⟨g3,0,none⟩,cp:=cp3,L:=(TR.none_:TR).L++ [x3] }:TR) with AP:=some ⟨g5,0,none⟩,cp:=cp5,L:=(({ TR.none_ with AP:=some ⟨g3,0,none⟩,cp:=cp3,L:=(TR.none_:TR).L++ [x3] }:TR):TR).L++ [x5] }:TR),mkQ ({ ({ TR.none_ with AP:=some ⟨g3,0,none⟩,cp:=cp3,L:=(TR.none_:TR).L++ [x3] }:TR) with AP:=some ⟨g5,0,none⟩,cp:=cp5,L:=(({ TR.none_ with AP:=some ⟨g3,0,none⟩,cp:=cp3,L:=(TR.none_:TR).L++ [x3] }:TR):TR).L++ [x5] }:TR),W1.heap.size,w5.heap.size⟩) (by simp[results,Tryz.results66,go_sem,valT,mkT,mkQ,r0,r1,r2,r3,r4,r5,r6,r7,r8,rl]) rfl ?_;have hn:=hJ.new HK.out (by have h1:=HX5.out.ln; have h2:=HX5.out.lv; have h3:=HX5.out.ls; have h4:=HX5.out.lp; exact ⟨by omega,by omega,by omega,by omega⟩);have hE:=end9 HP5.out (hJ.up.drop2 HU0.out (by have:=HOB.out; omega)) hn (rb:=w.heap.size) (by omega) (Or.inl (by simp only; omega)) hbw;exact ⟨_,rfl,(hE _ _ _ _ _ _ _ _ _).1,(hE _ _ _ _ _ _ _ _ _).2.1,(hE _ _ _ _ _ _ _ _ _).2.2,by simp only; omega,by
  rw[Z3N _ HX5.out.en HX5.out.ev HX5.out.es HX5.out.ep]; rfl,Z1E _ _ (Nat.le_trans HX5.out.ln (by omega)) HX5.out.fw⟩
end
end
end Go.Proofs.YtkncdbaoaeeoiaaGreatDoor
namespace Tms
section
open Go.Lib (decodeL decodeN decodeL_N validD validD_step validD_nil)
section
variable {p : Int} (h : Utf.pt p = true) (m : List UInt8)
include p h m
theorem Z8O: (decodeL (Utf.bytes p++m)).2=Utf.width p/\ ¬((decodeL (Utf.bytes p++m)).1=65533/\(decodeL (Utf.bytes p++m)).2=1):=by
 obtain ⟨h0,h1,h2⟩:=(Utf.Z1f p).1 h;rw[decodeL_N];unfold Utf.bytes Utf.width;by_cases c1:p < 128
 {rw[if_pos c1,if_pos c1];have e0:=Utf.Z0a p;simp only[List.cons_append,List.nil_append,List.getD_cons_zero];unfold decodeN;rw[if_pos (by omega)];exact ⟨rfl,by simp; omega⟩}
 rw[if_neg c1,if_neg c1];by_cases c2:p < 2048
 {rw[if_pos c2,if_pos c2];have e0:=Utf.Z0a (192+p / 64);have e1:=Utf.Z0a (128+p % 64);simp only[List.cons_append,List.nil_append,List.getD_cons_zero,List.getD_cons_succ,List.length_cons];unfold decodeN;rw[if_neg (by omega),if_pos ⟨by omega,by omega,by omega⟩,if_pos (by omega)];exact ⟨rfl,by simp⟩}
 rw[if_neg c2,if_neg c2];by_cases c3:p < 65536
 {rw[if_pos c3,if_pos c3];have e0:=Utf.Z0a (224+p / 4096);have e1:=Utf.Z0a (128+p / 64 % 64);have e2:=Utf.Z0a (128+p % 64);simp only[List.cons_append,List.nil_append,List.getD_cons_zero,List.getD_cons_succ,List.length_cons];unfold decodeN;rw[if_neg (by omega),if_neg (fun x=>by omega),if_pos ⟨by omega,⟨by omega,by omega⟩,by omega,by omega⟩,if_pos ⟨by omega,by omega⟩];exact ⟨rfl,by simp⟩}
 rw[if_neg c3,if_neg c3];have e0:=Utf.Z0a (240+p / 262144);have e1:=Utf.Z0a (128+p / 4096 % 64);have e2:=Utf.Z0a (128+p / 64 % 64);have e3:=Utf.Z0a (128+p % 64);simp only[List.cons_append,List.nil_append,List.getD_cons_zero,List.getD_cons_succ,List.length_cons];unfold decodeN;rw[if_neg (by omega),if_neg (fun x=>by omega),if_neg (fun x=>by omega),if_pos ⟨by omega,⟨by omega,by omega⟩,⟨by omega,by omega⟩,by omega,by omega⟩,if_pos ⟨by omega,by omega⟩];exact ⟨rfl,by simp⟩
theorem Z8P:validD (Utf.bytes p++m)=validD m:=by
 obtain ⟨h1,h2⟩:=Z8O h m;have hw:=Utf.Z0c p;have hp:=Utf.Z0O p;have hne:Utf.bytes p++m≠ []:=fun e=>by
  have:=congrArg List.length e;rw[List.length_append,List.length_nil] at this;omega
 rw[validD_step _ hne,if_neg h2,h1, <-hw,List.drop_left]
end
theorem ZbN {a:UInt8} {r:List UInt8} (hn: ∀p m,Utf.pt p=true->a::r≠Utf.bytes p++m):decodeL (a::r)=(65533,1):=by
 have hno: ∀(p:Int) (m:List UInt8),0<=p->p<=1114111->(p < 55296\/57343 < p)-> ¬a::r=Utf.bytes p++m:=fun p m h1 h2 h3=>hn p m ((Utf.Z1f p).2 ⟨h1,h2,h3⟩);rw[decodeL_N];have la:=a.toNat_lt;simp only[List.getD_cons_zero,List.getD_cons_succ,List.length_cons];unfold decodeN;by_cases c1:a.toNat < 128
 {refine absurd ?_ (hno a.toNat r (by omega) (by omega) (Or.inl (by omega)));unfold Utf.bytes;rw[if_pos (by omega),Utf.Z0u rfl]; rfl}
 rw[if_neg c1]
 match r with
 | []=> 
  rw[if_neg (fun x=>by simp at x),if_neg (fun x=>by simp at x),if_neg (fun x=>by simp at x)]
 | b::r=>
  have lb:=b.toNat_lt;simp only[List.getD_cons_zero,List.getD_cons_succ,List.length_cons] at hno ⊢;by_cases c2:a.toNat / 32=6/\(1 < r.length+1+1/\b.toNat / 64=2)
  {rw[if_pos c2];by_cases c3:a.toNat % 32 * 64+b.toNat % 64>=128
   {refine absurd ?_ (hno ((a.toNat % 32 * 64+b.toNat % 64:Nat):Int) r (by omega) (by omega) (Or.inl (by omega)));unfold Utf.bytes;rw[if_neg (by omega),if_pos (by omega),Utf.Z0u (b:=a) (by omega),Utf.Z0u (b:=b) (by omega)]; rfl}
   {rw[if_neg c3]}}
  rw[if_neg c2]
  match r with
  | []=>rw[if_neg (fun x=>by simp at x),if_neg (fun x=>by simp at x)]
  | c::r=>
   have lc:=c.toNat_lt;simp only[List.getD_cons_zero,List.getD_cons_succ,List.length_cons] at hno ⊢;by_cases c4:a.toNat / 16=14/\(1 < r.length+1+1+1/\b.toNat / 64=2)/\(2 < r.length+1+1+1/\c.toNat / 64=2)
   {rw[if_pos c4];by_cases c5:a.toNat % 16 * 4096+b.toNat % 64 * 64+c.toNat % 64>=2048/\(a.toNat % 16 * 4096+b.toNat % 64 * 64+c.toNat % 64 < 55296\/(57344<=a.toNat % 16 * 4096+b.toNat % 64 * 64+c.toNat % 64/\a.toNat % 16 * 4096+b.toNat % 64 * 64+c.toNat % 64<=1114111))
    {refine absurd ?_ (hno ((a.toNat % 16 * 4096+b.toNat % 64 * 64+c.toNat % 64:Nat):Int) r (by omega) (by omega) (by omega));unfold Utf.bytes;rw[if_neg (by omega),if_neg (by omega),if_pos (by omega),Utf.Z0u (b:=a) (by omega),Utf.Z0u (b:=b) (by omega),Utf.Z0u (b:=c) (by omega)]; rfl}
    {rw[if_neg c5]}}
   rw[if_neg c4]
   match r with
   | []=>rw[if_neg (fun x=>by simp at x)]
   | d::r=>
    have ld:=d.toNat_lt;simp only[List.getD_cons_zero,List.length_cons] at hno ⊢;by_cases c6:a.toNat / 8=30/\(1 < r.length+1+1+1+1/\b.toNat / 64=2)/\(2 < r.length+1+1+1+1/\c.toNat / 64=2)/\(3 < r.length+1+1+1+1/\d.toNat / 64=2)
    {rw[if_pos c6];by_cases c7:a.toNat % 8 * 262144+b.toNat % 64 * 4096+c.toNat % 64 * 64+d.toNat % 64>=65536/\(a.toNat % 8 * 262144+b.toNat % 64 * 4096+c.toNat % 64 * 64+d.toNat % 64 < 55296\/(57344<=a.toNat % 8 * 262144+b.toNat % 64 * 4096+c.toNat % 64 * 64+d.toNat % 64/\a.toNat % 8 * 262144+b.toNat % 64 * 4096+c.toNat % 64 * 64+d.toNat % 64<=1114111))
     {refine absurd ?_ (hno ((a.toNat % 8 * 262144+b.toNat % 64 * 4096+c.toNat % 64 * 64+d.toNat % 64:Nat):Int) r (by omega) (by omega) (by omega));unfold Utf.bytes;rw[if_neg (by omega),if_neg (by omega),if_neg (by omega),Utf.Z0u (b:=a) (by omega),Utf.Z0u (b:=b) (by omega),Utf.Z0u (b:=c) (by omega),Utf.Z0u (b:=d) (by omega)]; rfl}
     {rw[if_neg c7]}}
    rw[if_neg c6]
theorem Za1 {l:List UInt8} (hne:l≠ []) (h:Utf.first l=(0,0)):validD l=false:=by
 match l,hne with
 | a::r,hne=>
  have hd:=ZbN (a:=a) (r:=r) (fun p m hp e=>by
   rw[e,Utf.Z0D p hp] at h;have:=Utf.Z0O p;simp only[Prod.mk.injEq] at h;omega)
  rw[validD_step _ hne,hd];rfl
theorem Z4Z: ∀ {ps:List Int} {l rest:List UInt8},Utf.Reads l ps rest->(validD l=true ↔ rest= [])
 | [],l,rest,h=>by
  obtain rfl:l=rest:=by have:=h.text; simpa[Utf.Zam] using this
  by_cases hne:l= []
  {subst hne; simp[validD_nil]}
  {have:=Za1 hne h.none;rw[this]; simp[hne]}
 | p::ps,l,rest,h=>by
  have ht:l=Utf.bytes p++(Utf.enc ps++rest):=by rw[h.text,Utf.Z0H,List.append_assoc]
  rw[ht,Z8P (h.pts p (by simp))];exact Z4Z (ps:=ps) (l:=Utf.enc ps++rest) (rest:=rest) ⟨fun x hx=>h.pts x (by simp[hx]),rfl,h.none⟩
theorem Z8Q (l:List UInt8):validD l=valid l:=by
 obtain ⟨ps,rest,h⟩:=Utf.reads l;rw[Bool.eq_iff_iff,Z4Z h,Z9b h]
end
end Tms
namespace Go.Proofs.YtkncdbaoaeeoiaaGreatDoor
section
open Go.RowKit
theorem ZbO {s:List UInt8} {i:Nat} (hi:i < s.length) (h:Tms.plainB (s[i]'hi)=false):Tms.textOk s=false:=by
 unfold Tms.textOk;rw[Bool.and_eq_false_iff];left;rw[List.all_eq_false];exact ⟨_,List.getElem_mem hi,by rw[h]; decide⟩
theorem ZbP {s:List UInt8} (h: ∀j (hj:j < s.length),Tms.plainB (s[j]'hj)=true):Tms.textOk s=Tms.valid s:=by
 unfold Tms.textOk;rw[show s.all Tms.plainB=true from by
  rw[List.all_eq_true];intro y hy;obtain ⟨j,hj,rfl⟩:=List.getElem_of_mem hy;exact h j hj]
 simp
theorem Z7C (s:List UInt8) (hs:s.length<=9223372036854775807) (w:World) (hu8:Z0J w):
 Y9 142 #[.string ⟨s.toArray⟩] w (.bool (Tms.textOk s)):=by
 have hz: (⟨s.toArray⟩:ByteArray).size=s.length:=Z07 _;have HV:=Y1 (Z5J ⟨s.toArray⟩ w (by rw[hz]; exact hs) hu8);rw[show ((⟨s.toArray⟩:ByteArray).data.toList)=s from rfl,Tms.Z8Q] at HV;clear hu8;go_enter Tryz.func142,Tryz.ntmps142
 go_wp2_with fail
 go_loopw [6] (fun ii wr=> ∃i:Nat,ii= .int .i64 i/\i<=s.length/\Hid (∀j (hj:j < s.length),j < i->Tms.plainB (s[j]'hj)=true)/\w=wr) (fun ii _=>s.length - (intOf ii).toNat)
 case atStart=>exact ⟨0,rfl,Nat.zero_le _,Y1 (fun j _ hj=>absurd hj (by omega)),rfl⟩
 case round=>
  obtain ⟨i,rfl,hi,HN,rfl⟩:=hrel;by_cases hlt:i < s.length
  {have hi1: (i:Int) < (s.length:Int):=by omega
   obtain ⟨c,hc⟩: ∃c,c=s[i]'hlt:=⟨_,rfl⟩;have hidx: ∀W,(Instr.index 9 (.string ⟨s.toArray⟩) (.int .i64 (i:Int))).run Tryz.prog W= .ok (.int .u8 c.toNat) W:=fun W=>by
    rw[hc]; exact Z0i ⟨s.toArray⟩ i (by rw[hz]; exact hlt) W
   have HC:=Y1 hc;clear hc;have k9: ((c.toNat:Int)==9)=(c==9):=Z0o c 9 (by decide);have k10: ((c.toNat:Int)==10)=(c==10):=Z0o c 10 (by decide);have next:Tms.plainB c=true->Hid (∀j (hj:j < s.length),j < i+1->Tms.plainB (s[j]'hj)=true):=fun h=>Y1 (fun j hj hji=>by
    rcases Nat.lt_succ_iff_lt_or_eq.1 hji with h1 | rfl
    {exact HN.out j hj h1}
    · rw[<-HC.out]; exact h)
   by_cases h32:c.toNat < 32
   {have k32: (c.toNat:Int) < 32:=by omega
    by_cases h9:c=9
    {have e9: (c==9)=true:=by simpa using h9
     have b9: ((c.toNat:Int) !=9)=false:=by unfold bne; rw[k9,e9]; rfl
     have HP:=next (by rw[Tms.Z2N]; exact fun h=>h.2.1 h9)
     rw[e9] at k9;clear next h9 e9 h32
     go_wp2
     go_roundw
     case rel=>exact ⟨i+1,by go_num,by omega,HP,trivial⟩
     case measure=>simp[intOf]; omega}
    {have e9: (c==9)=false:=by simpa using h9
     have b9: ((c.toNat:Int) !=9)=true:=by unfold bne; rw[k9,e9]; rfl
     rw[e9] at k9;by_cases h10:c=10
     {have e10: (c==10)=true:=by simpa using h10
      have b10: ((c.toNat:Int) !=10)=false:=by unfold bne; rw[k10,e10]; rfl
      have HP:=next (by rw[Tms.Z2N]; exact fun h=>h.2.2 h10)
      rw[e10] at k10;clear next h9 e9 h10 e10 h32
      go_wp2
      go_roundw
      case rel=>exact ⟨i+1,by go_num,by omega,HP,trivial⟩
      case measure=>simp[intOf]; omega}
     {have e10: (c==10)=false:=by simpa using h10
      have b10: ((c.toNat:Int) !=10)=true:=by unfold bne; rw[k10,e10]; rfl
      rw[e10] at k10;have HF:Hid (Tms.textOk s=false):=Y1 (ZbO hlt (by
       rw[<-HC.out];cases e:Tms.plainB c with
       | false=>rfl
       | true=>exact absurd ⟨h32,h9,h10⟩ ((Tms.Z2N c).1 e)))
      clear next h9 e9 h10 e10 h32
      go_wp2;go_ret;exact ⟨Z08 HF.out.symm,Below.refl _ _⟩}}}
   {have k32: ¬(c.toNat:Int) < 32:=by omega
    have HP:=next (by rw[Tms.Z2N]; exact fun h=>h32 h.1)
    clear next h32
    go_wp2
    go_roundw
    case rel=>exact ⟨i+1,by go_num,by omega,HP,trivial⟩
    case measure=>simp[intOf]; omega}}
  {have hi1: ¬(i:Int) < (s.length:Int):=by omega
   have HT:Hid (Tms.textOk s=Tms.valid s):=Y1 (ZbP (fun j hj=>HN.out j hj (by omega)))
   go_wp2_with fail
   refine HV.out.mono ?_;rintro e w' ⟨rfl,hb⟩;go_wp2;go_ret;exact ⟨Z08 HT.out.symm,hb⟩}
end
section
open Go.RowKit Tms
open Shp (Sh)
theorem Za2 (t:Tm) (q:TP) (w:World) (hl:t.of_.length<=9223372036854775807):
 Y9 108 #[.agg (Y7 t q)] w (.bool (ofB t)):=by
 have HF:Hid (ofB t=(t.of_== []||(t.kind==5&&Lex.isName t.of_))):=Y1 rfl;have HB0:=Y1 (Z01 w (.cells (Y7 t q) 26));have HN:=fun W=>Z0s t.of_ hl W;obtain ⟨_,⟨c0,c1,c2,c3,c4,c5,c6,c7,c8⟩,_⟩:=Z1c w t q;cases h0: (t.of_== [])
 {have hoe:=Z1b h0;cases h1: (t.kind==5)
  {rw[h0,h1] at HF;clear h0;go_enter Tryz.func108,Tryz.ntmps108;go_wp2;go_ret;exact ⟨Z08 HF.out.symm,HB0.out⟩}
  {rw[h0,h1] at HF;clear h0;go_enter Tryz.func108,Tryz.ntmps108
   go_wp2_with fail
   refine (HN _).mono ?_;rintro e w' ⟨rfl,rfl⟩;go_wp2;go_ret;exact ⟨Z08 (by rw[HF.out]; rfl),HB0.out⟩}}
 {have hoe:=Z1b h0;rw[h0] at HF;clear h0;go_enter Tryz.func108,Tryz.ntmps108;go_wp2;go_ret;exact ⟨Z08 HF.out.symm,HB0.out⟩}
theorem Z7D (t:Tm) (q:TP) (w:World) (hl:t.name.length<=9223372036854775807) (hu8:Z0J w):
 Calls Tryz.prog 109 #[.agg #[.int .i64 t.kind,.string ⟨t.of_.toArray⟩,.string ⟨t.name.toArray⟩,.int .i64 t.n,.slice q.A t.names.length q.c,.slice q.V t.vars.length q.e,.slice q.S t.shapes.length q.s,.slice q.P t.parts.length q.d,.int .i64 t.at_]] w fun e w'=>e= .returned (.bool (nameB t))/\Below w.heap.size w w':=by
 have hb0:=Z01 w (.cells #[.int .i64 t.kind,.string ⟨t.of_.toArray⟩,.string ⟨t.name.toArray⟩,.int .i64 t.n,.slice q.A t.names.length q.c,.slice q.V t.vars.length q.e,.slice q.S t.shapes.length q.s,.slice q.P t.parts.length q.d,.int .i64 t.at_] 26);have HB0:=Y1 hb0;have HN:=fun W=>Z0s t.name hl W;have HU:=fun W=>Z0R t.name hl W;have HQ:=Z7C t.name hl _ (hu8.next hb0);obtain ⟨_,⟨c0,c1,c2,c3,c4,c5,c6,c7,c8⟩,_⟩:=Z1c w t q;by_cases k2:t.kind=2
 {have HF:Hid (nameB t=textOk t.name):=Y1 (by unfold nameB; rw[if_pos k2]);have e2:=Y4 2 k2 rfl;clear k2 hb0;go_enter Tryz.func109,Tryz.ntmps109
  go_wp2_with fail
  refine HQ.mono ?_;rintro e w' ⟨rfl,hb⟩;go_wp2;go_ret;exact ⟨Z08 HF.out.symm,Z00 HB0.out hb⟩}
 have e2: (t.kind==2)=false:=by simpa using k2
 by_cases k5:t.kind=5\/t.kind=9\/t.kind=10\/t.kind=14
 {have HF:Hid (nameB t=Lex.isName t.name):=Y1 (by unfold nameB; rw[if_neg k2,if_pos k5]);rcases k5 with k | k | k | k
  all_goals
   rw[k] at c0;rw[k];clear k k2 e2 hb0;go_enter Tryz.func109,Tryz.ntmps109
   go_wp2_with fail
   refine (HN _).mono ?_;rintro e w' ⟨rfl,rfl⟩;go_wp2;go_ret;exact ⟨Z08 HF.out.symm,Z01 _ _⟩}
 by_cases k16:t.kind=16\/t.kind=17
 {have HF:Hid (nameB t=Lex.isUpper t.name):=Y1 (by unfold nameB; rw[if_neg k2,if_neg k5,if_pos k16]);clear k5;rcases k16 with k | k
  all_goals
   rw[k] at c0;rw[k];clear k k2 e2 hb0;go_enter Tryz.func109,Tryz.ntmps109
   go_wp2_with fail
   refine (HU _).mono ?_;rintro e w' ⟨rfl,rfl⟩;go_wp2;go_ret;exact ⟨Z08 HF.out.symm,Z01 _ _⟩}
 {have HF:Hid (nameB t=(t.name== [])):=Y1 (by unfold nameB; rw[if_neg k2,if_neg k5,if_neg k16]);have e5: (t.kind==5)=false:=by simp; omega
  have e9: (t.kind==9)=false:=by simp; omega
  have e10: (t.kind==10)=false:=by simp; omega
  have e14: (t.kind==14)=false:=by simp; omega
  have e16: (t.kind==16)=false:=by simp; omega
  have e17: (t.kind==17)=false:=by simp; omega
  clear k2 k5 k16 hb0;cases h0: (t.name== [])
  all_goals
   have hoe:=Z1b h0;rw[h0] at HF;clear h0;go_enter Tryz.func109,Tryz.ntmps109;go_wp2;go_ret;exact ⟨Z08 HF.out.symm,HB0.out⟩}
end
end Go.Proofs.YtkncdbaoaeeoiaaGreatDoor
