/- What the proofs of ParseAround want, part 21. -/
import Derived.Test.YtkncdbaoaeeoiaaGreatDoorL0n20
import Derived.Test.YtkncdbaoaeeoiaaGreatDoorL0n14
set_option linter.unusedVariables false
set_option linter.unusedSimpArgs false
set_option linter.unusedSectionVars false
set_option maxRecDepth 100000
set_option maxHeartbeats 16000000
namespace Go.Proofs.YtkncdbaoaeeoiaaGreatDoor
section
open Go.RowKit Tms
open Shp (Sh)
open Pso (St Ok Goes betw loop want)
theorem UpT.drop2 {w W1 W:World} {bp b:Nat} (h:UpT [bp,b] W1 W) (a:UpT [bp] w W1) (c:w.heap.size<=b):UpT [bp] w W:=
 ⟨h.os.trans a.os,h.tape.trans a.tape,h.output.trans a.output,Nat.le_trans a.size h.size,fun k hk hn=>(h.block k (Nat.lt_of_lt_of_le hk a.size) (by simp at hn ⊢; omega)).trans (a.block k hk hn)⟩
section
variable (bp : Nat) (A : Option Addr) (c : Nat) (l : List Tk) (m : Nat) (σ : St) (a : Int) (hl : TokOk l) (ha : -9223372036854775808 <= a /\ a <= 9223372036854775807) (hσ : Ok l σ) (hE : ExC bp A c l m) (hm : l.length - σ.1 < m) (w : World) (h : PAt w bp A c l σ)
include bp A c l m σ a hl ha hσ hE hm w h
theorem Z8N:
 Calls Tryz.prog 67 #[.pointer (some ⟨bp,0,none⟩),.int .i64 a] w (TmIs bp A c l (Pso.choiceE l (Pso.expr l m) σ a) w):=by
 have d4:=h.lt;have d9:=hl.len;have HL:=Y1 hl;have HE:=Y1 hE;have HM:=Y1 hm;have HA:=Y1 ha;have HK:Hid (TBok ⟨12,[],[],0,a⟩):=Y1 ⟨by simp,by simp,by simp,ha,by simp⟩;have g0:σ.1<=σ.1:=Nat.le_refl _;have t0:Ok l σ:=hσ;have T0:=Y1 t0;have G0:=Y1 g0;have t1:Pso.To l σ (Pso.expr l m σ).2:=Pso.to_expr m _ hσ;have d:σ.1<=(Pso.expr l m σ).2.1:=Nat.le_trans g0 t1.2.1;have T1:=Y1 t1;have G1:=Y1 d;have t2:Pso.To l (Pso.expr l m σ).2 (want l (Pso.expr l m σ).2 [116,104,101,110]):=Pso.to_want t1.1 [116,104,101,110];have g2:σ.1<=(want l (Pso.expr l m σ).2 [116,104,101,110]).1:=Nat.le_trans d t2.2.1;have T2:=Y1 t2;have G2:=Y1 g2;have t3:Pso.To l (want l (Pso.expr l m σ).2 [116,104,101,110]) (Pso.expr l m (want l (Pso.expr l m σ).2 [116,104,101,110])).2:=Pso.to_expr m _ t2.1;have g:σ.1<=(Pso.expr l m (want l (Pso.expr l m σ).2 [116,104,101,110])).2.1:=Nat.le_trans g2 t3.2.1;have T3:=Y1 t3;have G3:=Y1 g;have t4:Pso.To l (Pso.expr l m (want l (Pso.expr l m σ).2 [116,104,101,110])).2 (want l (Pso.expr l m (want l (Pso.expr l m σ).2 [116,104,101,110])).2 [101,108,115,101]):=Pso.to_want t3.1 [101,108,115,101];have g4:σ.1<=(want l (Pso.expr l m (want l (Pso.expr l m σ).2 [116,104,101,110])).2 [101,108,115,101]).1:=Nat.le_trans g t4.2.1;have T4:=Y1 t4;have G4:=Y1 g4;have t5:Pso.To l (want l (Pso.expr l m (want l (Pso.expr l m σ).2 [116,104,101,110])).2 [101,108,115,101]) (Pso.expr l m (want l (Pso.expr l m (want l (Pso.expr l m σ).2 [116,104,101,110])).2 [101,108,115,101])).2:=Pso.to_expr m _ t4.1;have s:σ.1<=(Pso.expr l m (want l (Pso.expr l m (want l (Pso.expr l m σ).2 [116,104,101,110])).2 [101,108,115,101])).2.1:=Nat.le_trans g4 t5.2.1;have T5:=Y1 t5;have G5:=Y1 s;have t6:Pso.To l (Pso.expr l m (want l (Pso.expr l m (want l (Pso.expr l m σ).2 [116,104,101,110])).2 [101,108,115,101])).2 (want l (Pso.expr l m (want l (Pso.expr l m (want l (Pso.expr l m σ).2 [116,104,101,110])).2 [101,108,115,101])).2 [97,115]):=Pso.to_want t5.1 [97,115]
 have g6:σ.1<=(want l (Pso.expr l m (want l (Pso.expr l m (want l (Pso.expr l m σ).2 [116,104,101,110])).2 [101,108,115,101])).2 [97,115]).1:=Nat.le_trans s t6.2.1;have T6:=Y1 t6;have G6:=Y1 g6;have t7:Pso.To l (want l (Pso.expr l m (want l (Pso.expr l m (want l (Pso.expr l m σ).2 [116,104,101,110])).2 [101,108,115,101])).2 [97,115]) (Pso.wholeT l (want l (Pso.expr l m (want l (Pso.expr l m (want l (Pso.expr l m σ).2 [116,104,101,110])).2 [101,108,115,101])).2 [97,115])).2:=Pso.to_wholeT _ t6.1;have T:σ.1<=(Pso.wholeT l (want l (Pso.expr l m (want l (Pso.expr l m (want l (Pso.expr l m σ).2 [116,104,101,110])).2 [101,108,115,101])).2 [97,115])).2.1:=Nat.le_trans g6 t7.2.1;have T7:=Y1 t7;have G7:=Y1 T;have hb0:=Z01 w (.cells Ya 26);have b4:=Y1 hb0;have b8:=Y1 (h.below hb0);have a6:=Z0h w (.int .i64 0) (.string ⟨#[]⟩) (.string ⟨#[]⟩) (.int .i64 0) (.slice none 0 0) (.slice none 0 0) (.slice none 0 0) (.slice none 0 0) (.int .i64 0) 26;have b9:=Y1 a6;clear h hl hE hm ha hσ hb0 a6 t0 g0 t1 d t2 g2 t3 g t4 g4 t5 s t6 g6 t7 T;go_enter Tryz.func67,Tryz.ntmps67
 go_wp2_with fail
 have J:=Y1 b8.out;have M:=Y1 (Z05 (F:= [bp]) b4.out);have Q:=Y1 b9.out;have h7:w.heap.size+1<=(w.alloc (.cells Ya 26)).heap.size:=by simp
 have a2: (w.alloc (.cells Ya 26)).heap.size=w.heap.size+1:=by simp
 have y:=Z8L (W0:=(w.alloc (.cells Ya 26))) (bp:=bp) ⟨12,[],[],0,a⟩ (by omega) 26;rw[a2] at y;have j:=Y1 (Z3O y);have t:=Y1 (J.out.alloc (.cells #[.int .i64 12,.string ⟨#[]⟩,.string ⟨#[]⟩,.int .i64 0,.slice none 0 0,.slice none 0 0,.slice none 0 0,.slice none 0 0,.int .i64 a] 26));have K:=Y1 (M.out.alloc (.cells #[.int .i64 12,.string ⟨#[]⟩,.string ⟨#[]⟩,.int .i64 0,.slice none 0 0,.slice none 0 0,.slice none 0 0,.slice none 0 0,.int .i64 a] 26));have HZ:=Y1 (Q.out.below (Z01 _ (.cells #[.int .i64 12,.string ⟨#[]⟩,.string ⟨#[]⟩,.int .i64 0,.slice none 0 0,.slice none 0 0,.slice none 0 0,.slice none 0 0,.int .i64 a] 26)));have z:Hid (w.heap.size+2<=((w.alloc (.cells Ya 26)).alloc (.cells #[.int .i64 12,.string ⟨#[]⟩,.string ⟨#[]⟩,.int .i64 0,.slice none 0 0,.slice none 0 0,.slice none 0 0,.slice none 0 0,.int .i64 a] 26)).heap.size):=Y1 (by simp <;> omega);have B:Hid (w.heap.size+1<=(w.heap.size+1)):=Y1 (by omega);clear y J M Q a2;have c9:=Y1 (show w.heap.size+1+1=((w.alloc (.cells Ya 26)).alloc (.cells #[.int .i64 12,.string ⟨#[]⟩,.string ⟨#[]⟩,.int .i64 0,.slice none 0 0,.slice none 0 0,.slice none 0 0,.slice none 0 0,.int .i64 a] 26)).heap.size by simp);generalize (w.alloc (.cells Ya 26)).alloc (.cells #[.int .i64 12,.string ⟨#[]⟩,.string ⟨#[]⟩,.int .i64 0,.slice none 0 0,.slice none 0 0,.slice none 0 0,.slice none 0 0,.int .i64 a] 26)=W1 at t j K z HZ c9 ⊢;refine prgT _ 8 5 (.move (.tmp 0)) 26 7 36 ⟨W1,bp,A,c,l,(Pso.expr l m σ).2,(w.heap.size+1),7,W1.heap.size,_,_,_,(fun x=>x.t=(Pso.expr l m σ).1/\few x.t=true)⟩ (j.out.je.goodT2 (by have h1:=j.out.lp; omega)) (fun uu=> { tmps:=#[.pointer (some ⟨bp,0,none⟩),.int .i64 a,undef,undef,.pointer (some ⟨w.heap.size,0,none⟩),.pointer (some ⟨w.heap.size+1,0,none⟩),.int .i64 a,.agg #[.int .i64 12,.string ⟨#[]⟩,.string ⟨#[]⟩,.int .i64 0,.slice none 0 0,.slice none 0 0,.slice none 0 0,.slice none 0 0,.int .i64 a],uu 0,uu 1,uu 2,uu 3,uu 4,uu 5,uu 6,undef,undef,undef,undef,undef,undef,undef,undef,undef,undef,undef,undef,undef,undef,undef,undef,undef,undef,undef,undef,undef,undef,undef,undef,undef,undef,undef,undef,undef,undef,undef,undef,undef,undef,undef,undef,undef],defers:= [] }) (fun _=>undef)
  ⟨fun i o h u v=>by
   rcases i with _ | _ | _ | _ | _ | _ | _ | _ | i
   all_goals first | (cases h; rfl) | exact absurd h (by simp[plnT]),fun _=>rfl,fun _=>rfl,fun _=>rfl,fun _=>rfl,fun _=>rfl,fun _=>rfl,fun _=>rfl,fun _=>rfl⟩
  (fun u W hu=>Z3H (.tmp 0) rfl W) (fun W=>by go_simp <;> rfl) (enters_of Tryz.func36 (by kernel_rfl) rfl) (fun W hW=>HE.out W _ T0.out (by have:=G0.out; have:=HM.out; omega) (t.out.below hW)) (fun u1 w1 x1 d cp1 p=> ?_)
 have U:=j.out.part2 p p.r;have C:=Y1 (show PAt w1 bp A c l (Pso.expr l m σ).2 from p.par);have N:=Y1 U;clear p U t j
 go_wp2_with fail
 refine (Z0d bp A c l (Pso.expr l m σ).2 [116,104,101,110] (by omega) T1.out.1.1 w1 C.out).mono ?_;rintro e w2 ⟨v2,rfl,Z,a3⟩;have D:=Y1 Z;have n:=Y1 (N.out.keep a3);clear Z a3 C N
 go_wp2_with fail
 refine prgT _ 20 5 (.move (.tmp 0)) 26 7 36 ⟨w2,bp,A,c,l,(Pso.expr l m (want l (Pso.expr l m σ).2 [116,104,101,110])).2,(w.heap.size+1),7,W1.heap.size,_,_,_,(fun x=>x.t=(Pso.expr l m (want l (Pso.expr l m σ).2 [116,104,101,110])).1/\few x.t=true)⟩ (n.out.je.goodT2 (by have h1:=n.out.lp; omega)) (fun uu=> { tmps:=#[.pointer (some ⟨bp,0,none⟩),.int .i64 a,undef,undef,.pointer (some ⟨w.heap.size,0,none⟩),.pointer (some ⟨w.heap.size+1,0,none⟩),.int .i64 a,.agg #[.int .i64 12,.string ⟨#[]⟩,.string ⟨#[]⟩,.int .i64 0,.slice none 0 0,.slice none 0 0,.slice none 0 0,.slice none 0 0,.int .i64 a],u1 0,u1 1,u1 2,u1 3,u1 4,u1 5,u1 6,.pointer (some ⟨bp,0,none⟩),.pointer (some ⟨bp,0,none⟩),.pointer (some ⟨bp,0,none⟩),.slice (some ⟨w1.heap.size,0,none⟩) 1 1,.string v2,uu 0,uu 1,uu 2,uu 3,uu 4,uu 5,uu 6,undef,undef,undef,undef,undef,undef,undef,undef,undef,undef,undef,undef,undef,undef,undef,undef,undef,undef,undef,undef,undef,undef,undef,undef,undef],defers:= [] }) (fun _=>undef)
  ⟨fun i o h u v=>by
   rcases i with _ | _ | _ | _ | _ | _ | _ | _ | i
   all_goals first | (cases h; rfl) | exact absurd h (by simp[plnT]),fun _=>rfl,fun _=>rfl,fun _=>rfl,fun _=>rfl,fun _=>rfl,fun _=>rfl,fun _=>rfl,fun _=>rfl⟩
  (fun u W hu=>Z3H (.tmp 0) rfl W) (fun W=>by go_simp <;> rfl) (enters_of Tryz.func36 (by kernel_rfl) rfl) (fun W hW=>HE.out W _ T2.out.1 (by have:=G2.out; have:=HM.out; omega) (D.out.below hW)) (fun u3 w3 x3 g cp3 p=> ?_)
 have V:=n.out.part2 p p.r;have E:=Y1 (show PAt w3 bp A c l (Pso.expr l m (want l (Pso.expr l m σ).2 [116,104,101,110])).2 from p.par);have O:=Y1 V;clear p V D n
 go_wp2_with fail
 refine (Z0d bp A c l (Pso.expr l m (want l (Pso.expr l m σ).2 [116,104,101,110])).2 [101,108,115,101] (by omega) T3.out.1.1 w3 E.out).mono ?_;rintro e w4 ⟨v4,rfl,a0,a4⟩;have G:=Y1 a0;have q:=Y1 (O.out.keep a4);clear a0 a4 E O
 go_wp2_with fail
 refine prgT _ 32 5 (.move (.tmp 0)) 26 7 36 ⟨w4,bp,A,c,l,(Pso.expr l m (want l (Pso.expr l m (want l (Pso.expr l m σ).2 [116,104,101,110])).2 [101,108,115,101])).2,(w.heap.size+1),7,W1.heap.size,_,_,_,(fun x=>x.t=(Pso.expr l m (want l (Pso.expr l m (want l (Pso.expr l m σ).2 [116,104,101,110])).2 [101,108,115,101])).1/\few x.t=true)⟩ (q.out.je.goodT2 (by have h1:=q.out.lp; omega)) (fun uu=> { tmps:=#[.pointer (some ⟨bp,0,none⟩),.int .i64 a,undef,undef,.pointer (some ⟨w.heap.size,0,none⟩),.pointer (some ⟨w.heap.size+1,0,none⟩),.int .i64 a,.agg #[.int .i64 12,.string ⟨#[]⟩,.string ⟨#[]⟩,.int .i64 0,.slice none 0 0,.slice none 0 0,.slice none 0 0,.slice none 0 0,.int .i64 a],u1 0,u1 1,u1 2,u1 3,u1 4,u1 5,u1 6,.pointer (some ⟨bp,0,none⟩),.pointer (some ⟨bp,0,none⟩),.pointer (some ⟨bp,0,none⟩),.slice (some ⟨w1.heap.size,0,none⟩) 1 1,.string v2,u3 0,u3 1,u3 2,u3 3,u3 4,u3 5,u3 6,.pointer (some ⟨bp,0,none⟩),.pointer (some ⟨bp,0,none⟩),.pointer (some ⟨bp,0,none⟩),.slice (some ⟨w3.heap.size,0,none⟩) 1 1,.string v4,uu 0,uu 1,uu 2,uu 3,uu 4,uu 5,uu 6,undef,undef,undef,undef,undef,undef,undef,undef,undef,undef,undef,undef,undef],defers:= [] }) (fun _=>undef)
  ⟨fun i o h u v=>by
   rcases i with _ | _ | _ | _ | _ | _ | _ | _ | i
   all_goals first | (cases h; rfl) | exact absurd h (by simp[plnT]),fun _=>rfl,fun _=>rfl,fun _=>rfl,fun _=>rfl,fun _=>rfl,fun _=>rfl,fun _=>rfl,fun _=>rfl⟩
  (fun u W hu=>Z3H (.tmp 0) rfl W) (fun W=>by go_simp <;> rfl) (enters_of Tryz.func36 (by kernel_rfl) rfl) (fun W hW=>HE.out W _ T4.out.1 (by have:=G4.out; have:=HM.out; omega) (G.out.below hW)) (fun u5 w5 x5 s cp5 p=> ?_)
 have X:=q.out.part2 p p.r;have H:=Y1 (show PAt w5 bp A c l (Pso.expr l m (want l (Pso.expr l m (want l (Pso.expr l m σ).2 [116,104,101,110])).2 [101,108,115,101])).2 from p.par);have P:=Y1 X;clear p X G q
 go_wp2_with fail
 refine (Z0d bp A c l (Pso.expr l m (want l (Pso.expr l m (want l (Pso.expr l m σ).2 [116,104,101,110])).2 [101,108,115,101])).2 [97,115] (by omega) T5.out.1.1 w5 H.out).mono ?_;rintro e w6 ⟨v6,rfl,a1,a5⟩;have I:=Y1 a1;have r:=Y1 (P.out.keep a5);clear a1 a5 H P
 go_wp2_with fail
 refine prgS _ 44 5 (.move (.tmp 0)) 26 6 39 ⟨w6,bp,A,c,l,(Pso.wholeT l (want l (Pso.expr l m (want l (Pso.expr l m (want l (Pso.expr l m σ).2 [116,104,101,110])).2 [101,108,115,101])).2 [97,115])).2,(w.heap.size+1),6,W1.heap.size,_,_,_,(fun x=>x.t=(Pso.wholeT l (want l (Pso.expr l m (want l (Pso.expr l m (want l (Pso.expr l m σ).2 [116,104,101,110])).2 [101,108,115,101])).2 [97,115])).1)⟩ (r.out.je.goodS2 (by have h1:=r.out.ls; omega)) (fun uu=> { tmps:=#[.pointer (some ⟨bp,0,none⟩),.int .i64 a,undef,undef,.pointer (some ⟨w.heap.size,0,none⟩),.pointer (some ⟨w.heap.size+1,0,none⟩),.int .i64 a,.agg #[.int .i64 12,.string ⟨#[]⟩,.string ⟨#[]⟩,.int .i64 0,.slice none 0 0,.slice none 0 0,.slice none 0 0,.slice none 0 0,.int .i64 a],u1 0,u1 1,u1 2,u1 3,u1 4,u1 5,u1 6,.pointer (some ⟨bp,0,none⟩),.pointer (some ⟨bp,0,none⟩),.pointer (some ⟨bp,0,none⟩),.slice (some ⟨w1.heap.size,0,none⟩) 1 1,.string v2,u3 0,u3 1,u3 2,u3 3,u3 4,u3 5,u3 6,.pointer (some ⟨bp,0,none⟩),.pointer (some ⟨bp,0,none⟩),.pointer (some ⟨bp,0,none⟩),.slice (some ⟨w3.heap.size,0,none⟩) 1 1,.string v4,u5 0,u5 1,u5 2,u5 3,u5 4,u5 5,u5 6,.pointer (some ⟨bp,0,none⟩),.pointer (some ⟨bp,0,none⟩),.pointer (some ⟨bp,0,none⟩),.slice (some ⟨w5.heap.size,0,none⟩) 1 1,.string v6,uu 0,uu 1,uu 2,uu 3,uu 4,uu 5,uu 6,undef],defers:= [] }) (fun _=>undef)
  ⟨fun i o h u v=>by
   rcases i with _ | _ | _ | _ | _ | _ | _ | _ | i
   all_goals first | (cases h; rfl) | exact absurd h (by simp[plnS]),fun _=>rfl,fun _=>rfl,fun _=>rfl,fun _=>rfl,fun _=>rfl,fun _=>rfl,fun _=>rfl,fun _=>rfl⟩
  (fun u W hu=>Z3H (.tmp 0) rfl W) (fun W=>by go_simp <;> rfl) (enters_of Tryz.func39 (by kernel_rfl) rfl) (fun W hW=>Z0P bp A c l HL.out.len HL.out.txt (want l (Pso.expr l m (want l (Pso.expr l m (want l (Pso.expr l m σ).2 [116,104,101,110])).2 [101,108,115,101])).2 [97,115]) T6.out.1 W (I.out.below hW)) (fun u7 w7 x7 T cp7 p=> ?_)
 have Y:=r.out.shape2 p p.r;have b7:=Y1 (show PAt w7 bp A c l (Pso.wholeT l (want l (Pso.expr l m (want l (Pso.expr l m (want l (Pso.expr l m σ).2 [116,104,101,110])).2 [101,108,115,101])).2 [97,115])).2 from p.par);have b:=Y1 Y;clear p Y I r;have f:=b.out.je;have c0:=f.c0;have c1:=f.c1;have c2:=f.c2;have c3:=f.c3;have c4:=f.c4;have c5:=f.c5;have c6:=f.c6;have c7:=f.c7;have c8:=f.c8;have h8:=z.out;have d5:=f.up.size;have h6: (w.heap.size+1) < w7.heap.size:=Nat.lt_of_lt_of_le f.lt d5;obtain ⟨r0,r1,r2,r3,r4,r5,r6,r7,r8,k,rl⟩:=HZ.out.up f.up (by have:=B.out; simp; omega);have f0:=k 0;have f1:=k 1;have f2:=k 2;have f3:=k 3;have f4:=k 4;have f5:=k 5;have f6:=k 6;have f7:=k 7;have f8:=k 8;clear f k;go_wp2;have f:=b.out.je;refine bodyPost_ret (v:=valT ⟨mkT ⟨12,[],[],0,a⟩ ({ ({ ({ ({ TR.none_ with AP:=some ⟨d,0,none⟩,cp:=cp1,L:=(TR.none_:TR).L++ [x1] }:TR) with AP:=some ⟨g,0,none⟩,cp:=cp3,L:=(({ TR.none_ with AP:=some ⟨d,0,none⟩,cp:=cp1,L:=(TR.none_:TR).L++ [x1] }:TR):TR).L++ [x3] }:TR) with AP:=some ⟨s,0,none⟩,cp:=cp5,L:=(({ ({ TR.none_ with AP:=some ⟨d,0,none⟩,cp:=cp1,L:=(TR.none_:TR).L++ [x1] }:TR) with AP:=some ⟨g,0,none⟩,cp:=cp3,L:=(({ TR.none_ with AP:=some ⟨d,0,none⟩,cp:=cp1,L:=(TR.none_:TR).L++ [x1] }:TR):TR).L++ [x3] }:TR):TR).L++ [x5] }:TR) with AS:=some ⟨T,0,none⟩,cs:=cp7,S:=(({ ({ ({ TR.none_ with AP:=some ⟨d,0,none⟩,cp:=cp1,L:=(TR.none_:TR).L++ [x1] }:TR) with AP:=some ⟨g,0,none⟩,cp:=cp3,L:=(({ TR.none_ with AP:=some ⟨d,0,none⟩,cp:=cp1,L:=(TR.none_:TR).L++ [x1] }:TR):TR).L++ [x3] }:TR) with AP:=some ⟨s,0,none⟩,cp:=cp5,L:=(({ ({ TR.none_ with AP:=some ⟨d,0,none⟩,cp:=cp1,L:=(TR.none_:TR).L++ [x1] }:TR) with AP:=some ⟨g,0,none⟩,cp:=cp3,L:=(({ TR.none_ with AP:=some ⟨d,0,none⟩,cp:=cp1,L:=(TR.none_:TR).L++ [x1] }:TR):TR).L++ [x3] }:TR):TR).L++ [x5] }:TR):TR).S++ [x7] }:TR),mkQ ({ ({ ({ ({ TR.none_ with AP:=some ⟨d,0,none⟩,cp:=cp1,L:=(TR.none_:TR).L++ [x1] }:TR) with AP:=some ⟨g,0,none⟩,cp:=cp3,L:=(({ TR.none_ with AP:=some ⟨d,0,none⟩,cp:=cp1,L:=(TR.none_:TR).L++ [x1] }:TR):TR).L++ [x3] }:TR) with AP:=some ⟨s,0,none⟩,cp:=cp5,L:=(({ ({ TR.none_ with AP:=some ⟨d,0,none⟩,cp:=cp1,L:=(TR.none_:TR).L++ [x1] }:TR) with AP:=some ⟨g,0,none⟩,cp:=cp3,L:=(({ TR.none_ with AP:=some ⟨d,0,none⟩,cp:=cp1,L:=(TR.none_:TR).L++ [x1] }:TR):TR).L++ [x3] }:TR):TR).L++ [x5] }:TR) with AS:=some ⟨T,0,none⟩,cs:=cp7,S:=(({ ({ ({ TR.none_ with AP:=some ⟨d,0,none⟩,cp:=cp1,L:=(TR.none_:TR).L++ [x1] }:TR) with AP:=some ⟨g,0,none⟩,cp:=cp3,L:=(({ TR.none_ with AP:=some ⟨d,0,none⟩,cp:=cp1,L:=(TR.none_:TR).L++ [x1] }:TR):TR).L++ [x3] }:TR) with AP:=some ⟨s,0,none⟩,cp:=cp5,L:=(({ ({ TR.none_ with AP:=some ⟨d,0,none⟩,cp:=cp1,L:=(TR.none_:TR).L++ [x1] }:TR) with AP:=some ⟨g,0,none⟩,cp:=cp3,L:=(({ TR.none_ with AP:=some ⟨d,0,none⟩,cp:=cp1,L:=(TR.none_:TR).L++ [x1] }:TR):TR).L++ [x3] }:TR):TR).L++ [x5] }:TR):TR).S++ [x7] }:TR),W1.heap.size,w7.heap.size⟩) (by simp[results,Tryz.results67,go_sem,valT,mkT,mkQ,r0,r1,r2,r3,r4,r5,r6,r7,r8,rl]) rfl ?_
 have hn:=f.new HK.out (by have h1:=b.out.ln; have h2:=b.out.lv; have h3:=b.out.ls; have h4:=b.out.lp; exact ⟨by omega,by omega,by omega,by omega⟩);have hE:=end9 b7.out (f.up.drop2 K.out (by have:=B.out; omega)) hn (rb:=w.heap.size) (by omega) (Or.inl (by simp only; omega)) d4;exact ⟨_,rfl,(hE _ _ _ _ _ _ _ _ _).1,(hE _ _ _ _ _ _ _ _ _).2.1,(hE _ _ _ _ _ _ _ _ _).2.2,by simp only; omega,by
  rw[Z3N _ b.out.en b.out.ev b.out.es b.out.ep]; rfl,Z1E _ _ (Nat.le_trans b.out.ln (by omega)) b.out.fw⟩
theorem Zdu:
 Calls Tryz.prog 66 #[.pointer (some ⟨bp,0,none⟩),.int .i64 a] w (TmIs bp A c l (Pso.letE l (Pso.expr l m) σ a) w):=by
 have b0:=h.lt;have b4:=hl.len;have HL:=Y1 hl;have HE:=Y1 hE;have HM:=Y1 hm;have HA:=Y1 ha;have HK:Hid (TBok ⟨14,[],(Pso.name l σ).1,0,a⟩):=Y1 ⟨by simp,Z0q hl.txt σ 1 (by decide) _,by simp,ha,by simp⟩;have g0:σ.1<=σ.1:=Nat.le_refl _;have t0:Ok l σ:=hσ;have T0:=Y1 t0;have G0:=Y1 g0;have t1:Pso.To l σ (Pso.name l σ).2:=Pso.to_name hσ;have g1:σ.1<=(Pso.name l σ).2.1:=t1.2.1;have T1:=Y1 t1;have G1:=Y1 g1;have t2:Pso.To l (Pso.name l σ).2 (want l (Pso.name l σ).2 [61]):=Pso.to_want t1.1 [61];have g2:σ.1<=(want l (Pso.name l σ).2 [61]).1:=Nat.le_trans g1 t2.2.1;have T2:=Y1 t2;have G2:=Y1 g2;have t3:Pso.To l (want l (Pso.name l σ).2 [61]) (Pso.expr l m (want l (Pso.name l σ).2 [61])).2:=Pso.to_expr m _ t2.1;have q:σ.1<=(Pso.expr l m (want l (Pso.name l σ).2 [61])).2.1:=Nat.le_trans g2 t3.2.1;have T3:=Y1 t3;have G3:=Y1 q;have t4:Pso.To l (Pso.expr l m (want l (Pso.name l σ).2 [61])).2 (want l (Pso.expr l m (want l (Pso.name l σ).2 [61])).2 [105,110]):=Pso.to_want t3.1 [105,110];have g4:σ.1<=(want l (Pso.expr l m (want l (Pso.name l σ).2 [61])).2 [105,110]).1:=Nat.le_trans q t4.2.1;have T4:=Y1 t4;have G4:=Y1 g4;have t5:Pso.To l (want l (Pso.expr l m (want l (Pso.name l σ).2 [61])).2 [105,110]) (Pso.expr l m (want l (Pso.expr l m (want l (Pso.name l σ).2 [61])).2 [105,110])).2:=Pso.to_expr m _ t4.1;have P:σ.1<=(Pso.expr l m (want l (Pso.expr l m (want l (Pso.name l σ).2 [61])).2 [105,110])).2.1:=Nat.le_trans g4 t5.2.1;have T5:=Y1 t5;have G5:=Y1 P;have hb0:=Z01 w (.cells Ya 26);have a5:=Y1 hb0;have D:=Y1 (h.below hb0);have a0:=Z0h w (.int .i64 0) (.string ⟨#[]⟩) (.string ⟨#[]⟩) (.int .i64 0) (.slice none 0 0) (.slice none 0 0) (.slice none 0 0) (.slice none 0 0) (.int .i64 0) 26;have M:=Y1 a0;clear h hl hE hm ha hσ hb0 a0 t0 g0 t1 g1 t2 g2 t3 q t4 g4 t5 P;go_enter Tryz.func66,Tryz.ntmps66
 go_wp2_with fail
 refine (Z1a bp A c l σ (by omega) T0.out.1 HL.out.txt _ D.out).mono ?_;rintro e f ⟨rfl,U,n⟩;have E:=Y1 U;have H:=Y1 ((Z05 (F:= [bp]) a5.out).trans n);have N:=Y1 (M.out.up n (by simp; omega));have e2:w.heap.size+1<=f.heap.size:=by have:=n.size; simpa using this
 clear U n D M
 go_wp2_with fail
 have T:=Z8L (W0:=f) (bp:=bp) ⟨14,[],(Pso.name l σ).1,0,a⟩ (by omega) 26;have I:=Y1 (Z3O T);have t:=Y1 (E.out.alloc (.cells #[.int .i64 14,.string ⟨#[]⟩,.string ⟨(Pso.name l σ).1.toArray⟩,.int .i64 0,.slice none 0 0,.slice none 0 0,.slice none 0 0,.slice none 0 0,.int .i64 a] 26));have G:=Y1 (H.out.alloc (.cells #[.int .i64 14,.string ⟨#[]⟩,.string ⟨(Pso.name l σ).1.toArray⟩,.int .i64 0,.slice none 0 0,.slice none 0 0,.slice none 0 0,.slice none 0 0,.int .i64 a] 26));have HZ:=Y1 (N.out.below (Z01 _ (.cells #[.int .i64 14,.string ⟨#[]⟩,.string ⟨(Pso.name l σ).1.toArray⟩,.int .i64 0,.slice none 0 0,.slice none 0 0,.slice none 0 0,.slice none 0 0,.int .i64 a] 26)));have r:Hid (w.heap.size+2<=(f.alloc (.cells #[.int .i64 14,.string ⟨#[]⟩,.string ⟨(Pso.name l σ).1.toArray⟩,.int .i64 0,.slice none 0 0,.slice none 0 0,.slice none 0 0,.slice none 0 0,.int .i64 a] 26)).heap.size):=Y1 (by simp <;> omega);have s:Hid (w.heap.size+1<=f.heap.size):=Y1 (by omega);clear T E H N;have O:=Y1 (show f.heap.size+1=(f.alloc (.cells #[.int .i64 14,.string ⟨#[]⟩,.string ⟨(Pso.name l σ).1.toArray⟩,.int .i64 0,.slice none 0 0,.slice none 0 0,.slice none 0 0,.slice none 0 0,.int .i64 a] 26)).heap.size by simp);generalize f.alloc (.cells #[.int .i64 14,.string ⟨#[]⟩,.string ⟨(Pso.name l σ).1.toArray⟩,.int .i64 0,.slice none 0 0,.slice none 0 0,.slice none 0 0,.slice none 0 0,.int .i64 a] 26)=W1 at t I G r HZ O ⊢;have d4:Hid (f.heap.size=f.heap.size):=Y1 rfl;have y:=t;have J:=I
 go_wp2_with fail
 refine (Z0d bp A c l (Pso.name l σ).2 [61] (by omega) T1.out.1.1 W1 y.out O.out).mono ?_;rintro e w2 ⟨v2,rfl,V,Y⟩;have z:=Y1 V;have j:=Y1 (J.out.keep Y);clear V Y y J
 go_wp2_with fail
 refine prgT _ 17 5 (.move (.tmp 0)) 26 7 36 ⟨w2,bp,A,c,l,(Pso.expr l m (want l (Pso.name l σ).2 [61])).2,f.heap.size,7,W1.heap.size,_,_,_,(fun x=>x.t=(Pso.expr l m (want l (Pso.name l σ).2 [61])).1/\few x.t=true)⟩ (j.out.je.goodT2 (by have h1:=j.out.lp; omega)) (fun uu=> { tmps:=#[.pointer (some ⟨bp,0,none⟩),.int .i64 a,undef,undef,.pointer (some ⟨w.heap.size,0,none⟩),.pointer (some ⟨f.heap.size,0,none⟩),.pointer (some ⟨bp,0,none⟩),.pointer (some ⟨bp,0,none⟩),.pointer (some ⟨bp,0,none⟩),.string ⟨(Pso.name l σ).1.toArray⟩,.int .i64 a,.agg #[.int .i64 14,.string ⟨#[]⟩,.string ⟨(Pso.name l σ).1.toArray⟩,.int .i64 0,.slice none 0 0,.slice none 0 0,.slice none 0 0,.slice none 0 0,.int .i64 a],.pointer (some ⟨bp,0,none⟩),.pointer (some ⟨bp,0,none⟩),.pointer (some ⟨bp,0,none⟩),.slice (some ⟨f.heap.size+1,0,none⟩) 1 1,.string v2,uu 0,uu 1,uu 2,uu 3,uu 4,uu 5,uu 6,undef,undef,undef,undef,undef,undef,undef,undef,undef,undef,undef,undef,undef],defers:= [] }) (fun _=>undef)
  ⟨fun i o h u v=>by
   rcases i with _ | _ | _ | _ | _ | _ | _ | _ | i
   all_goals first | (cases h; rfl) | exact absurd h (by simp[plnT]),fun _=>rfl,fun _=>rfl,fun _=>rfl,fun _=>rfl,fun _=>rfl,fun _=>rfl,fun _=>rfl,fun _=>rfl⟩
  (fun u W hu=>Z3H (.tmp 0) rfl W) (fun W=>by go_simp <;> rfl) (enters_of Tryz.func36 (by kernel_rfl) rfl) (fun W hW=>HE.out W _ T2.out.1 (by have:=G2.out; have:=HM.out; omega) (z.out.below hW)) (fun u3 w3 x3 q cp3 p=> ?_)
 have Q:=j.out.part2 p p.r;have B:=Y1 (show PAt w3 bp A c l (Pso.expr l m (want l (Pso.name l σ).2 [61])).2 from p.par);have K:=Y1 Q;clear p Q z j
 go_wp2_with fail
 refine (Z0d bp A c l (Pso.expr l m (want l (Pso.name l σ).2 [61])).2 [105,110] (by omega) T3.out.1.1 w3 B.out).mono ?_;rintro e w4 ⟨v4,rfl,X,Z⟩;have C:=Y1 X;have k:=Y1 (K.out.keep Z);clear X Z B K
 go_wp2_with fail
 refine prgT _ 29 5 (.move (.tmp 0)) 26 7 36 ⟨w4,bp,A,c,l,(Pso.expr l m (want l (Pso.expr l m (want l (Pso.name l σ).2 [61])).2 [105,110])).2,f.heap.size,7,W1.heap.size,_,_,_,(fun x=>x.t=(Pso.expr l m (want l (Pso.expr l m (want l (Pso.name l σ).2 [61])).2 [105,110])).1/\few x.t=true)⟩ (k.out.je.goodT2 (by have h1:=k.out.lp; omega)) (fun uu=> { tmps:=#[.pointer (some ⟨bp,0,none⟩),.int .i64 a,undef,undef,.pointer (some ⟨w.heap.size,0,none⟩),.pointer (some ⟨f.heap.size,0,none⟩),.pointer (some ⟨bp,0,none⟩),.pointer (some ⟨bp,0,none⟩),.pointer (some ⟨bp,0,none⟩),.string ⟨(Pso.name l σ).1.toArray⟩,.int .i64 a,.agg #[.int .i64 14,.string ⟨#[]⟩,.string ⟨(Pso.name l σ).1.toArray⟩,.int .i64 0,.slice none 0 0,.slice none 0 0,.slice none 0 0,.slice none 0 0,.int .i64 a],.pointer (some ⟨bp,0,none⟩),.pointer (some ⟨bp,0,none⟩),.pointer (some ⟨bp,0,none⟩),.slice (some ⟨f.heap.size+1,0,none⟩) 1 1,.string v2,u3 0,u3 1,u3 2,u3 3,u3 4,u3 5,u3 6,.pointer (some ⟨bp,0,none⟩),.pointer (some ⟨bp,0,none⟩),.pointer (some ⟨bp,0,none⟩),.slice (some ⟨w3.heap.size,0,none⟩) 1 1,.string v4,uu 0,uu 1,uu 2,uu 3,uu 4,uu 5,uu 6,undef],defers:= [] }) (fun _=>undef)
  ⟨fun i o h u v=>by
   rcases i with _ | _ | _ | _ | _ | _ | _ | _ | i
   all_goals first | (cases h; rfl) | exact absurd h (by simp[plnT]),fun _=>rfl,fun _=>rfl,fun _=>rfl,fun _=>rfl,fun _=>rfl,fun _=>rfl,fun _=>rfl,fun _=>rfl⟩
  (fun u W hu=>Z3H (.tmp 0) rfl W) (fun W=>by go_simp <;> rfl) (enters_of Tryz.func36 (by kernel_rfl) rfl) (fun W hW=>HE.out W _ T4.out.1 (by have:=G4.out; have:=HM.out; omega) (C.out.below hW)) (fun u5 w5 x5 P cp5 p=> ?_)
 have S:=k.out.part2 p p.r;have a6:=Y1 (show PAt w5 bp A c l (Pso.expr l m (want l (Pso.expr l m (want l (Pso.name l σ).2 [61])).2 [105,110])).2 from p.par);have b:=Y1 S;clear p S C k;have d:=b.out.je;have c0:=d.c0;have c1:=d.c1;have c2:=d.c2;have c3:=d.c3;have c4:=d.c4;have c5:=d.c5;have c6:=d.c6;have c7:=d.c7;have c8:=d.c8;have e3:=r.out;have b1:=d.up.size;have e1:f.heap.size < w5.heap.size:=Nat.lt_of_lt_of_le d.lt b1;obtain ⟨r0,r1,r2,r3,r4,r5,r6,r7,r8,g,rl⟩:=HZ.out.up d.up (by have:=s.out; simp; omega);have f0:=g 0;have f1:=g 1;have f2:=g 2;have f3:=g 3;have f4:=g 4;have f5:=g 5;have f6:=g 6;have f7:=g 7;have f8:=g 8;clear d g;go_wp2;have d:=b.out.je;refine bodyPost_ret (v:=valT ⟨mkT ⟨14,[],(Pso.name l σ).1,0,a⟩ ({ ({ TR.none_ with AP:=some ⟨q,0,none⟩,cp:=cp3,L:=(TR.none_:TR).L++ [x3] }:TR) with AP:=some ⟨P,0,none⟩,cp:=cp5,L:=(({ TR.none_ with AP:=some ⟨q,0,none⟩,cp:=cp3,L:=(TR.none_:TR).L++ [x3] }:TR):TR).L++ [x5] }:TR),mkQ ({ ({ TR.none_ with AP:=some ⟨q,0,none⟩,cp:=cp3,L:=(TR.none_:TR).L++ [x3] }:TR) with AP:=some ⟨P,0,none⟩,cp:=cp5,L:=(({ TR.none_ with AP:=some ⟨q,0,none⟩,cp:=cp3,L:=(TR.none_:TR).L++ [x3] }:TR):TR).L++ [x5] }:TR),W1.heap.size,w5.heap.size⟩) (by simp[results,Tryz.results66,go_sem,valT,mkT,mkQ,r0,r1,r2,r3,r4,r5,r6,r7,r8,rl]) rfl ?_;have hn:=d.new HK.out (by have h1:=b.out.ln; have h2:=b.out.lv; have h3:=b.out.ls; have h4:=b.out.lp; exact ⟨by omega,by omega,by omega,by omega⟩);have hE:=end9 a6.out (d.up.drop2 G.out (by have:=s.out; omega)) hn (rb:=w.heap.size) (by omega) (Or.inl (by simp only; omega)) b0;exact ⟨_,rfl,(hE _ _ _ _ _ _ _ _ _).1,(hE _ _ _ _ _ _ _ _ _).2.1,(hE _ _ _ _ _ _ _ _ _).2.2,by simp only; omega,by
  rw[Z3N _ b.out.en b.out.ev b.out.es b.out.ep]; rfl,Z1E _ _ (Nat.le_trans b.out.ln (by omega)) b.out.fw⟩
end
end
end Go.Proofs.YtkncdbaoaeeoiaaGreatDoor
namespace Tms
section
open Go.Lib (decodeL decodeN decodeL_N validD validD_step validD_nil)
section
variable {p : Int} (h : Utf.pt p = true) (m : List UInt8)
include p h m
theorem Z8O: (decodeL (Utf.bytes p++m)).2=Utf.width p/\ ¬((decodeL (Utf.bytes p++m)).1=65533/\(decodeL (Utf.bytes p++m)).2=1):=by
 obtain ⟨e,f,g⟩:=(Utf.Z1f p).1 h;rw[decodeL_N];unfold Utf.bytes Utf.width;by_cases c1:p < 128
 {rw[if_pos c1,if_pos c1];have a:=Utf.Z0a p;simp only[List.cons_append,List.nil_append,List.getD_cons_zero];unfold decodeN;rw[if_pos (by omega)];exact ⟨rfl,by simp; omega⟩}
 rw[if_neg c1,if_neg c1];by_cases c2:p < 2048
 {rw[if_pos c2,if_pos c2];have a:=Utf.Z0a (192+p / 64);have b:=Utf.Z0a (128+p % 64);simp only[List.cons_append,List.nil_append,List.getD_cons_zero,List.getD_cons_succ,List.length_cons];unfold decodeN;rw[if_neg (by omega),if_pos ⟨by omega,by omega,by omega⟩,if_pos (by omega)];exact ⟨rfl,by simp⟩}
 rw[if_neg c2,if_neg c2];by_cases c3:p < 65536
 {rw[if_pos c3,if_pos c3];have a:=Utf.Z0a (224+p / 4096);have b:=Utf.Z0a (128+p / 64 % 64);have c:=Utf.Z0a (128+p % 64);simp only[List.cons_append,List.nil_append,List.getD_cons_zero,List.getD_cons_succ,List.length_cons];unfold decodeN;rw[if_neg (by omega),if_neg (fun x=>by omega),if_pos ⟨by omega,⟨by omega,by omega⟩,by omega,by omega⟩,if_pos ⟨by omega,by omega⟩];exact ⟨rfl,by simp⟩}
 rw[if_neg c3,if_neg c3];have a:=Utf.Z0a (240+p / 262144);have b:=Utf.Z0a (128+p / 4096 % 64);have c:=Utf.Z0a (128+p / 64 % 64);have d:=Utf.Z0a (128+p % 64);simp only[List.cons_append,List.nil_append,List.getD_cons_zero,List.getD_cons_succ,List.length_cons];unfold decodeN;rw[if_neg (by omega),if_neg (fun x=>by omega),if_neg (fun x=>by omega),if_pos ⟨by omega,⟨by omega,by omega⟩,⟨by omega,by omega⟩,by omega,by omega⟩,if_pos ⟨by omega,by omega⟩];exact ⟨rfl,by simp⟩
theorem Z8P:validD (Utf.bytes p++m)=validD m:=by
 obtain ⟨b,c⟩:=Z8O h m;have d:=Utf.Z0c p;have f:=Utf.Z0O p;have a:Utf.bytes p++m≠ []:=fun e=>by
  have:=congrArg List.length e;rw[List.length_append,List.length_nil] at this;omega
 rw[validD_step _ a,if_neg c,b, <-d,List.drop_left]
end
theorem ZbN {a:UInt8} {r:List UInt8} (f: ∀p m,Utf.pt p=true->a::r≠Utf.bytes p++m):decodeL (a::r)=(65533,1):=by
 have e: ∀(p:Int) (m:List UInt8),0<=p->p<=1114111->(p < 55296\/57343 < p)-> ¬a::r=Utf.bytes p++m:=fun p m h1 h2 h3=>f p m ((Utf.Z1f p).2 ⟨h1,h2,h3⟩);rw[decodeL_N];have g:=a.toNat_lt;simp only[List.getD_cons_zero,List.getD_cons_succ,List.length_cons];unfold decodeN;by_cases c1:a.toNat < 128
 {refine absurd ?_ (e a.toNat r (by omega) (by omega) (Or.inl (by omega)));unfold Utf.bytes;rw[if_pos (by omega),Utf.Z0u rfl]; rfl}
 rw[if_neg c1]
 match r with
 | []=> 
  rw[if_neg (fun x=>by simp at x),if_neg (fun x=>by simp at x),if_neg (fun x=>by simp at x)]
 | b::r=>
  have h:=b.toNat_lt;simp only[List.getD_cons_zero,List.getD_cons_succ,List.length_cons] at e ⊢;by_cases c2:a.toNat / 32=6/\(1 < r.length+1+1/\b.toNat / 64=2)
  {rw[if_pos c2];by_cases c3:a.toNat % 32 * 64+b.toNat % 64>=128
   {refine absurd ?_ (e ((a.toNat % 32 * 64+b.toNat % 64:Nat):Int) r (by omega) (by omega) (Or.inl (by omega)));unfold Utf.bytes;rw[if_neg (by omega),if_pos (by omega),Utf.Z0u (b:=a) (by omega),Utf.Z0u (b:=b) (by omega)]; rfl}
   {rw[if_neg c3]}}
  rw[if_neg c2]
  match r with
  | []=>rw[if_neg (fun x=>by simp at x),if_neg (fun x=>by simp at x)]
  | c::r=>
   have i:=c.toNat_lt;simp only[List.getD_cons_zero,List.getD_cons_succ,List.length_cons] at e ⊢;by_cases c4:a.toNat / 16=14/\(1 < r.length+1+1+1/\b.toNat / 64=2)/\(2 < r.length+1+1+1/\c.toNat / 64=2)
   {rw[if_pos c4];by_cases c5:a.toNat % 16 * 4096+b.toNat % 64 * 64+c.toNat % 64>=2048/\(a.toNat % 16 * 4096+b.toNat % 64 * 64+c.toNat % 64 < 55296\/(57344<=a.toNat % 16 * 4096+b.toNat % 64 * 64+c.toNat % 64/\a.toNat % 16 * 4096+b.toNat % 64 * 64+c.toNat % 64<=1114111))
    {refine absurd ?_ (e ((a.toNat % 16 * 4096+b.toNat % 64 * 64+c.toNat % 64:Nat):Int) r (by omega) (by omega) (by omega));unfold Utf.bytes;rw[if_neg (by omega),if_neg (by omega),if_pos (by omega),Utf.Z0u (b:=a) (by omega),Utf.Z0u (b:=b) (by omega),Utf.Z0u (b:=c) (by omega)]; rfl}
    {rw[if_neg c5]}}
   rw[if_neg c4]
   match r with
   | []=>rw[if_neg (fun x=>by simp at x)]
   | d::r=>
    have j:=d.toNat_lt;simp only[List.getD_cons_zero,List.length_cons] at e ⊢;by_cases c6:a.toNat / 8=30/\(1 < r.length+1+1+1+1/\b.toNat / 64=2)/\(2 < r.length+1+1+1+1/\c.toNat / 64=2)/\(3 < r.length+1+1+1+1/\d.toNat / 64=2)
    {rw[if_pos c6];by_cases c7:a.toNat % 8 * 262144+b.toNat % 64 * 4096+c.toNat % 64 * 64+d.toNat % 64>=65536/\(a.toNat % 8 * 262144+b.toNat % 64 * 4096+c.toNat % 64 * 64+d.toNat % 64 < 55296\/(57344<=a.toNat % 8 * 262144+b.toNat % 64 * 4096+c.toNat % 64 * 64+d.toNat % 64/\a.toNat % 8 * 262144+b.toNat % 64 * 4096+c.toNat % 64 * 64+d.toNat % 64<=1114111))
     {refine absurd ?_ (e ((a.toNat % 8 * 262144+b.toNat % 64 * 4096+c.toNat % 64 * 64+d.toNat % 64:Nat):Int) r (by omega) (by omega) (by omega));unfold Utf.bytes;rw[if_neg (by omega),if_neg (by omega),if_neg (by omega),Utf.Z0u (b:=a) (by omega),Utf.Z0u (b:=b) (by omega),Utf.Z0u (b:=c) (by omega),Utf.Z0u (b:=d) (by omega)]; rfl}
     {rw[if_neg c7]}}
    rw[if_neg c6]
theorem Za1 {l:List UInt8} (b:l≠ []) (h:Utf.first l=(0,0)):validD l=false:=by
 match l,b with
 | a::r,b=>
  have c:=ZbN (a:=a) (r:=r) (fun p m hp e=>by
   rw[e,Utf.Z0D p hp] at h;have:=Utf.Z0O p;simp only[Prod.mk.injEq] at h;omega)
  rw[validD_step _ b,c];rfl
theorem Z4Z: ∀ {ps:List Int} {l rest:List UInt8},Utf.Reads l ps rest->(validD l=true ↔ rest= [])
 | [],l,rest,h=>by
  obtain rfl:l=rest:=by have:=h.text; simpa[Utf.Zam] using this
  by_cases a:l= []
  {subst a; simp[validD_nil]}
  {have:=Za1 a h.none;rw[this]; simp[a]}
 | p::ps,l,rest,h=>by
  have b:l=Utf.bytes p++(Utf.enc ps++rest):=by rw[h.text,Utf.Z0H,List.append_assoc]
  rw[b,Z8P (h.pts p (by simp))];exact Z4Z (ps:=ps) (l:=Utf.enc ps++rest) (rest:=rest) ⟨fun x hx=>h.pts x (by simp[hx]),rfl,h.none⟩
theorem Z8Q (l:List UInt8):validD l=valid l:=by
 obtain ⟨ps,rest,h⟩:=Utf.reads l;rw[Bool.eq_iff_iff,Z4Z h,Z9b h]
end
end Tms
namespace Go.Proofs.YtkncdbaoaeeoiaaGreatDoor
section
open Go.RowKit
theorem ZbO {s:List UInt8} {i:Nat} (a:i < s.length) (h:Tms.plainB (s[i]'a)=false):Tms.textOk s=false:=by
 unfold Tms.textOk;rw[Bool.and_eq_false_iff];left;rw[List.all_eq_false];exact ⟨_,List.getElem_mem a,by rw[h]; decide⟩
theorem ZbP {s:List UInt8} (h: ∀j (a:j < s.length),Tms.plainB (s[j]'a)=true):Tms.textOk s=Tms.valid s:=by
 unfold Tms.textOk;rw[show s.all Tms.plainB=true from by
  rw[List.all_eq_true];intro y b;obtain ⟨j,a,rfl⟩:=List.getElem_of_mem b;exact h j a]
 simp
theorem Z7C (s:List UInt8) (E:s.length<=9223372036854775807) (w:World) (l:Z0J w):
 Y9 142 #[.string ⟨s.toArray⟩] w (.bool (Tms.textOk s)):=by
 have y: (⟨s.toArray⟩:ByteArray).size=s.length:=Z07 _;have u:=Y1 (Z5J ⟨s.toArray⟩ w (by rw[y]; exact E) l);rw[show ((⟨s.toArray⟩:ByteArray).data.toList)=s from rfl,Tms.Z8Q] at u;clear l;go_enter Tryz.func142,Tryz.ntmps142
 go_wp2_with fail
 go_loopw [6] (fun ii wr=> ∃i:Nat,ii= .int .i64 i/\i<=s.length/\Hid (∀j (hj:j < s.length),j < i->Tms.plainB (s[j]'hj)=true)/\w=wr) (fun ii _=>s.length - (intOf ii).toNat)
 case atStart=>exact ⟨0,rfl,Nat.zero_le _,Y1 (fun j _ hj=>absurd hj (by omega)),rfl⟩
 case round=>
  obtain ⟨i,rfl,F,t,rfl⟩:=hrel;by_cases k:i < s.length
  {have p: (i:Int) < (s.length:Int):=by omega
   obtain ⟨c,o⟩: ∃c,c=s[i]'k:=⟨_,rfl⟩;have v: ∀W,(Instr.index 9 (.string ⟨s.toArray⟩) (.int .i64 (i:Int))).run Tryz.prog W= .ok (.int .u8 c.toNat) W:=fun W=>by
    rw[o]; exact Z0i ⟨s.toArray⟩ i (by rw[y]; exact k) W
   have r:=Y1 o;clear o;have m: ((c.toNat:Int)==9)=(c==9):=Z0o c 9 (by decide);have f: ((c.toNat:Int)==10)=(c==10):=Z0o c 10 (by decide);have next:Tms.plainB c=true->Hid (∀j (hj:j < s.length),j < i+1->Tms.plainB (s[j]'hj)=true):=fun h=>Y1 (fun j hj hji=>by
    rcases Nat.lt_succ_iff_lt_or_eq.1 hji with C | rfl
    {exact t.out j hj C}
    · rw[<-r.out]; exact h)
   by_cases d:c.toNat < 32
   {have q: (c.toNat:Int) < 32:=by omega
    by_cases h9:c=9
    {have g: (c==9)=true:=by simpa using h9
     have B: ((c.toNat:Int) !=9)=false:=by unfold bne; rw[m,g]; rfl
     have HP:=next (by rw[Tms.Z2N]; exact fun h=>h.2.1 h9)
     rw[g] at m;clear next h9 g d
     go_wp2
     go_roundw
     case rel=>exact ⟨i+1,by go_num,by omega,HP,trivial⟩
     case measure=>simp[intOf]; omega}
    {have g: (c==9)=false:=by simpa using h9
     have B: ((c.toNat:Int) !=9)=true:=by unfold bne; rw[m,g]; rfl
     rw[g] at m;by_cases b:c=10
     {have a: (c==10)=true:=by simpa using b
      have n: ((c.toNat:Int) !=10)=false:=by unfold bne; rw[f,a]; rfl
      have HP:=next (by rw[Tms.Z2N]; exact fun h=>h.2.2 b)
      rw[a] at f;clear next h9 g b a d
      go_wp2
      go_roundw
      case rel=>exact ⟨i+1,by go_num,by omega,HP,trivial⟩
      case measure=>simp[intOf]; omega}
     {have a: (c==10)=false:=by simpa using b
      have n: ((c.toNat:Int) !=10)=true:=by unfold bne; rw[f,a]; rfl
      rw[a] at f;have z:Hid (Tms.textOk s=false):=Y1 (ZbO k (by
       rw[<-r.out];cases e:Tms.plainB c with
       | false=>rfl
       | true=>exact absurd ⟨d,h9,b⟩ ((Tms.Z2N c).1 e)))
      clear next h9 g b a d
      go_wp2;go_ret;exact ⟨Z08 z.out.symm,Below.refl _ _⟩}}}
   {have q: ¬(c.toNat:Int) < 32:=by omega
    have HP:=next (by rw[Tms.Z2N]; exact fun h=>d h.1)
    clear next d
    go_wp2
    go_roundw
    case rel=>exact ⟨i+1,by go_num,by omega,HP,trivial⟩
    case measure=>simp[intOf]; omega}}
  {have p: ¬(i:Int) < (s.length:Int):=by omega
   have A:Hid (Tms.textOk s=Tms.valid s):=Y1 (ZbP (fun j hj=>t.out j hj (by omega)))
   go_wp2_with fail
   refine u.out.mono ?_;rintro e w' ⟨rfl,D⟩;go_wp2;go_ret;exact ⟨Z08 A.out.symm,D⟩}
end
section
open Go.RowKit Tms
open Shp (Sh)
theorem Za2 (t:Tm) (q:TP) (w:World) (h:t.of_.length<=9223372036854775807):
 Y9 108 #[.agg (Y7 t q)] w (.bool (ofB t)):=by
 have c:Hid (ofB t=(t.of_== []||(t.kind==5&&Lex.isName t.of_))):=Y1 rfl;have b:=Y1 (Z01 w (.cells (Y7 t q) 26));have g:=fun W=>Z0s t.of_ h W;obtain ⟨_,⟨i,c1,c2,c3,c4,c5,c6,c7,j⟩,_⟩:=Z1c w t q;cases a: (t.of_== [])
 {have d:=Z1b a;cases f: (t.kind==5)
  {rw[a,f] at c;clear a;go_enter Tryz.func108,Tryz.ntmps108;go_wp2;go_ret;exact ⟨Z08 c.out.symm,b.out⟩}
  {rw[a,f] at c;clear a;go_enter Tryz.func108,Tryz.ntmps108
   go_wp2_with fail
   refine (g _).mono ?_;rintro e w' ⟨rfl,rfl⟩;go_wp2;go_ret;exact ⟨Z08 (by rw[c.out]; rfl),b.out⟩}}
 {have d:=Z1b a;rw[a] at c;clear a;go_enter Tryz.func108,Tryz.ntmps108;go_wp2;go_ret;exact ⟨Z08 c.out.symm,b.out⟩}
theorem Z7D (t:Tm) (q:TP) (w:World) (hl:t.name.length<=9223372036854775807) (hu8:Z0J w):
 Calls Tryz.prog 109 #[.agg #[.int .i64 t.kind,.string ⟨t.of_.toArray⟩,.string ⟨t.name.toArray⟩,.int .i64 t.n,.slice q.A t.names.length q.c,.slice q.V t.vars.length q.e,.slice q.S t.shapes.length q.s,.slice q.P t.parts.length q.d,.int .i64 t.at_]] w fun e w'=>e= .returned (.bool (nameB t))/\Below w.heap.size w w':=by
 have hb0:=Z01 w (.cells #[.int .i64 t.kind,.string ⟨t.of_.toArray⟩,.string ⟨t.name.toArray⟩,.int .i64 t.n,.slice q.A t.names.length q.c,.slice q.V t.vars.length q.e,.slice q.S t.shapes.length q.s,.slice q.P t.parts.length q.d,.int .i64 t.at_] 26);have HB0:=Y1 hb0;have HN:=fun W=>Z0s t.name hl W;have HU:=fun W=>Z0R t.name hl W;have HQ:=Z7C t.name hl _ (hu8.next hb0);obtain ⟨_,⟨c0,c1,c2,c3,c4,c5,c6,c7,c8⟩,_⟩:=Z1c w t q;by_cases k2:t.kind=2
 {have HF:Hid (nameB t=textOk t.name):=Y1 (by unfold nameB; rw[if_pos k2]);have e2:=Y4 2 k2 rfl;clear k2 hb0;go_enter Tryz.func109,Tryz.ntmps109
  go_wp2_with fail
  refine HQ.mono ?_;rintro e w' ⟨rfl,hb⟩;go_wp2;go_ret;exact ⟨Z08 HF.out.symm,Z00 HB0.out hb⟩}
 have e2: (t.kind==2)=false:=by simpa using k2
 by_cases k5:t.kind=5\/t.kind=9\/t.kind=10\/t.kind=14
 {have HF:Hid (nameB t=Lex.isName t.name):=Y1 (by unfold nameB; rw[if_neg k2,if_pos k5]);rcases k5 with k | k | k | k
  all_goals
   rw[k] at c0;rw[k];clear k k2 e2 hb0;go_enter Tryz.func109,Tryz.ntmps109
   go_wp2_with fail
   refine (HN _).mono ?_;rintro e w' ⟨rfl,rfl⟩;go_wp2;go_ret;exact ⟨Z08 HF.out.symm,Z01 _ _⟩}
 by_cases k16:t.kind=16\/t.kind=17
 {have HF:Hid (nameB t=Lex.isUpper t.name):=Y1 (by unfold nameB; rw[if_neg k2,if_neg k5,if_pos k16]);clear k5;rcases k16 with k | k
  all_goals
   rw[k] at c0;rw[k];clear k k2 e2 hb0;go_enter Tryz.func109,Tryz.ntmps109
   go_wp2_with fail
   refine (HU _).mono ?_;rintro e w' ⟨rfl,rfl⟩;go_wp2;go_ret;exact ⟨Z08 HF.out.symm,Z01 _ _⟩}
 {have HF:Hid (nameB t=(t.name== [])):=Y1 (by unfold nameB; rw[if_neg k2,if_neg k5,if_neg k16]);have e5: (t.kind==5)=false:=by simp; omega
  have e9: (t.kind==9)=false:=by simp; omega
  have e10: (t.kind==10)=false:=by simp; omega
  have e14: (t.kind==14)=false:=by simp; omega
  have e16: (t.kind==16)=false:=by simp; omega
  have e17: (t.kind==17)=false:=by simp; omega
  clear k2 k5 k16 hb0;cases h0: (t.name== [])
  all_goals
   have hoe:=Z1b h0;rw[h0] at HF;clear h0;go_enter Tryz.func109,Tryz.ntmps109;go_wp2;go_ret;exact ⟨Z08 HF.out.symm,HB0.out⟩}
end
end Go.Proofs.YtkncdbaoaeeoiaaGreatDoor
