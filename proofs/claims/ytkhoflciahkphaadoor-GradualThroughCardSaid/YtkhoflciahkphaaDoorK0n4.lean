/- What the proofs of GradualAlike, GradualMoves, GradualPlain, GradualThrough, GradualWitness want, part 4. -/
import Derived.Test.YtkhoflciahkphaaDoorK0n3
set_option linter.unusedVariables false
set_option linter.unusedSimpArgs false
set_option linter.unusedSectionVars false
set_option maxRecDepth 100000
set_option maxHeartbeats 16000000
namespace Go.Proofs.YtkhoflciahkphaaDoor
section
open Go.RowKit Shp
def fv (t:Sh) (q:Ptr):Value:= .agg (Y8 t q)
section
variable (t : Sh) (q : Ptr) (w : World)
include t q w
theorem Z4Y:Calls Tryd.prog 111 #[.agg #[.int .i64 t.kind,.string ⟨t.of_.toArray⟩,.string ⟨t.name.toArray⟩,.slice q.A t.names.length q.c,.slice q.P t.parts.length q.d]] w fun e w'=>e= .returned (.int .i64 (t.names.length:Int))/\Below w.heap.size w w':=by
  go_enter Tryd.func111,Tryd.ntmps111;go_wp2;go_ret;exact ⟨rfl,Z01 _ _⟩
theorem fmL:Sem.run Tryd.prog (method (Tryd.prog.types.size+100) 66 (.agg #[.int .i64 t.kind,.string ⟨t.of_.toArray⟩,.string ⟨t.name.toArray⟩,.slice q.A t.names.length q.c,.slice q.P t.parts.length q.d]) "Less") w= .ok (112,.agg #[.int .i64 t.kind,.string ⟨t.of_.toArray⟩,.string ⟨t.name.toArray⟩,.slice q.A t.names.length q.c,.slice q.P t.parts.length q.d]) w:=by kernel_rfl
theorem fmS:Sem.run Tryd.prog (method (Tryd.prog.types.size+100) 66 (.agg #[.int .i64 t.kind,.string ⟨t.of_.toArray⟩,.string ⟨t.name.toArray⟩,.slice q.A t.names.length q.c,.slice q.P t.parts.length q.d]) "Swap") w= .ok (113,.agg #[.int .i64 t.kind,.string ⟨t.of_.toArray⟩,.string ⟨t.name.toArray⟩,.slice q.A t.names.length q.c,.slice q.P t.parts.length q.d]) w:=by kernel_rfl
theorem fmN:Sem.run Tryd.prog (method (Tryd.prog.types.size+100) 66 (.agg #[.int .i64 t.kind,.string ⟨t.of_.toArray⟩,.string ⟨t.name.toArray⟩,.slice q.A t.names.length q.c,.slice q.P t.parts.length q.d]) "Len") w= .ok (111,.agg #[.int .i64 t.kind,.string ⟨t.of_.toArray⟩,.string ⟨t.name.toArray⟩,.slice q.A t.names.length q.c,.slice q.P t.parts.length q.d]) w:=by kernel_rfl
end
theorem Z7Q (K:Int) (o m:ByteArray) (bn n c d:Nat) (P:Option Addr) (l:Nat) (x y:List UInt8) (i j:Nat) (w:World) (hi:i < n) (hj:j < n) (hn:n < 1000000) (hb:bn < w.heap.size)
 (c1:w.cell? ⟨bn,i,none⟩=some (.string ⟨x.toArray⟩)) (c2:w.cell? ⟨bn,j,none⟩=some (.string ⟨y.toArray⟩)):
 Y9 112 #[.agg #[.int .i64 K,.string o,.string m,.slice (some ⟨bn,0,none⟩) n c,.slice P l d],.int .i64 i,.int .i64 j] w (.bool (decide (x < y))):=by
 have k1:=((Z01 w (.cells #[.int .i64 K,.string o,.string m,.slice (some ⟨bn,0,none⟩) n c,.slice P l d] 66)).cell (p:=⟨bn,i,none⟩) hb).trans c1;have k2:=((Z01 w (.cells #[.int .i64 K,.string o,.string m,.slice (some ⟨bn,0,none⟩) n c,.slice P l d] 66)).cell (p:=⟨bn,j,none⟩) hb).trans c2;have b3: (w.alloc (.cells #[.int .i64 K,.string o,.string m,.slice (some ⟨bn,0,none⟩) n c,.slice P l d] 66)).cell? ⟨w.heap.size,3,none⟩=some (.slice (some ⟨bn,0,none⟩) n c):=by rw[World.cell?_alloc_at _ _ _ _ rfl]; rfl
 have HW:=Z01 w (.cells #[.int .i64 K,.string o,.string m,.slice (some ⟨bn,0,none⟩) n c,.slice P l d] 66);clear c1 c2;go_enter Tryd.func112,Tryd.ntmps112
 go_upto_region 1 with fail
 generalize w.alloc (.cells #[.int .i64 K,.string o,.string m,.slice (some ⟨bn,0,none⟩) n c,.slice P l d] 66)=W0 at k1 k2 b3 HW ⊢;have HW0:Hid _:=HW;clear HW
 go_quiet (fail)
 go_wp2;go_ret;exact ⟨(show Ending.returned (.bool (Op.bytesLess x.toArray.toList y.toArray.toList))=_ from by rw[Z7f]),Z0D HW0.out _⟩
def set5 (W:World) (b o:Nat) (a0 a1 a2 a3 a4:Value):World:=((((W.setCell ⟨b,o,none⟩ a0).setCell ⟨b,o+1,none⟩ a1).setCell ⟨b,o+2,none⟩ a2).setCell ⟨b,o+3,none⟩ a3).setCell ⟨b,o+4,none⟩ a4
theorem Z7R (K:Int) (o m:ByteArray) (bn n c bp l d:Nat) (x y:ByteArray) (i j:Nat) (uk vk:Int) (u1 u2 v1 v2:ByteArray) (uA uP vA vP:Option Addr) (un uc um ud vn vc vm vd:Nat) (w:World) (hi:i < n) (hj:j < n) (hl:n<=l) (hn:l < 1000000) (hb:bn < w.heap.size) (hp:bp < w.heap.size) (hne:bn≠bp)
 (c1:w.cell? ⟨bn,i,none⟩=some (.string x)) (c2:w.cell? ⟨bn,j,none⟩=some (.string y)) (f1: ∀k,w.frozen? ⟨bn,k,none⟩=false) (f2: ∀k,w.frozen? ⟨bp,k,none⟩=false)
 (p0:w.cell? ⟨bp,i * 5,none⟩=some (.int .i64 uk)) (r0:w.cell? ⟨bp,j * 5,none⟩=some (.int .i64 vk))
 (p1:w.cell? ⟨bp,i * 5+1,none⟩=some (.string u1)) (r1:w.cell? ⟨bp,j * 5+1,none⟩=some (.string v1))
 (p2:w.cell? ⟨bp,i * 5+2,none⟩=some (.string u2)) (r2:w.cell? ⟨bp,j * 5+2,none⟩=some (.string v2))
 (p3:w.cell? ⟨bp,i * 5+3,none⟩=some (.slice uA un uc)) (r3:w.cell? ⟨bp,j * 5+3,none⟩=some (.slice vA vn vc))
 (p4:w.cell? ⟨bp,i * 5+4,none⟩=some (.slice uP um ud)) (r4:w.cell? ⟨bp,j * 5+4,none⟩=some (.slice vP vm vd)):
 Calls Tryd.prog 113 #[.agg #[.int .i64 K,.string o,.string m,.slice (some ⟨bn,0,none⟩) n c,.slice (some ⟨bp,0,none⟩) l d],.int .i64 i,.int .i64 j] w fun e w'=>e= .returned (.tuple #[])/\ ∃W0,Below w.heap.size w W0/\
  w'=(set5 (set5 (((W0.setCell ⟨bn,i,none⟩ (.string y)).setCell ⟨bn,j,none⟩ (.string x)).drew) bp (i * 5) (.int .i64 vk) (.string v1) (.string v2) (.slice vA vn vc) (.slice vP vm vd)) bp (j * 5) (.int .i64 uk) (.string u1) (.string u2) (.slice uA un uc) (.slice uP um ud)).drew:=by
 have HW:=Z01 w (.cells #[.int .i64 K,.string o,.string m,.slice (some ⟨bn,0,none⟩) n c,.slice (some ⟨bp,0,none⟩) l d] 66);have b3: (w.alloc (.cells #[.int .i64 K,.string o,.string m,.slice (some ⟨bn,0,none⟩) n c,.slice (some ⟨bp,0,none⟩) l d] 66)).cell? ⟨w.heap.size,3,none⟩=some (.slice (some ⟨bn,0,none⟩) n c):=by rw[World.cell?_alloc_at _ _ _ _ rfl]; rfl
 have b4: (w.alloc (.cells #[.int .i64 K,.string o,.string m,.slice (some ⟨bn,0,none⟩) n c,.slice (some ⟨bp,0,none⟩) l d] 66)).cell? ⟨w.heap.size,4,none⟩=some (.slice (some ⟨bp,0,none⟩) l d):=by rw[World.cell?_alloc_at _ _ _ _ rfl]; rfl
 have F1:=fun k=>(HW.frozen (p:=⟨bn,k,none⟩) hb).trans (f1 k);have F2:=fun k=>(HW.frozen (p:=⟨bp,k,none⟩) hp).trans (f2 k);have k1:=(HW.cell (p:=⟨bn,i,none⟩) hb).trans c1;have k2:=(HW.cell (p:=⟨bn,j,none⟩) hb).trans c2;clear c1 c2 f1 f2;go_enter Tryd.func113,Tryd.ntmps113
 go_upto_region 1 with fail
 generalize w.alloc (.cells #[.int .i64 K,.string o,.string m,.slice (some ⟨bn,0,none⟩) n c,.slice (some ⟨bp,0,none⟩) l d] 66)=W0 at k1 k2 b3 b4 F1 F2 HW ⊢;have HW0:Hid _:=HW;clear HW;generalize hg:w.heap.size=g at b3 b4 ⊢;have q1:=F1 i;have q2:=F1 j;obtain ⟨v',hy'⟩:=cell?_setCell_some (w:=W0) (p:=⟨bn,i,none⟩) (x:= .string y) (q:=⟨bn,j,none⟩) k2;have HF1:Hid _:=F1;have HF2:Hid _:=F2;clear F1 F2
 go_region
 have hgn:bn≠g:=by omega
 have hgp:bp≠g:=by omega
 have b40:=b4;have b4': (((W0.setCell ⟨bn,i,none⟩ (.string y)).setCell ⟨bn,j,none⟩ (.string x)).drew).cell? ⟨g,4,none⟩=some (.slice (some ⟨bp,0,none⟩) l d):=by
  rw[World.cell?_drew,World.cell?_setCell_far _ _ _ _ (by assumption),World.cell?_setCell_far _ _ _ _ (by assumption)]; exact b40
 have P00:=(HW0.out.cell (p:=⟨bp,i * 5,none⟩) hp).trans p0;have R00:=(HW0.out.cell (p:=⟨bp,j * 5,none⟩) hp).trans r0;have P0: (((W0.setCell ⟨bn,i,none⟩ (.string y)).setCell ⟨bn,j,none⟩ (.string x)).drew).cell? ⟨bp,i * 5,none⟩=some (.int .i64 uk):=by
  rw[World.cell?_drew,World.cell?_setCell_far _ _ _ _ (by assumption),World.cell?_setCell_far _ _ _ _ (by assumption)]; exact P00
 have R0: (((W0.setCell ⟨bn,i,none⟩ (.string y)).setCell ⟨bn,j,none⟩ (.string x)).drew).cell? ⟨bp,j * 5,none⟩=some (.int .i64 vk):=by
  rw[World.cell?_drew,World.cell?_setCell_far _ _ _ _ (by assumption),World.cell?_setCell_far _ _ _ _ (by assumption)]; exact R00
 have P10:=(HW0.out.cell (p:=⟨bp,i * 5+1,none⟩) hp).trans p1;have R10:=(HW0.out.cell (p:=⟨bp,j * 5+1,none⟩) hp).trans r1;have P1: (((W0.setCell ⟨bn,i,none⟩ (.string y)).setCell ⟨bn,j,none⟩ (.string x)).drew).cell? ⟨bp,i * 5+1,none⟩=some (.string u1):=by
  rw[World.cell?_drew,World.cell?_setCell_far _ _ _ _ (by assumption),World.cell?_setCell_far _ _ _ _ (by assumption)]; exact P10
 have R1: (((W0.setCell ⟨bn,i,none⟩ (.string y)).setCell ⟨bn,j,none⟩ (.string x)).drew).cell? ⟨bp,j * 5+1,none⟩=some (.string v1):=by
  rw[World.cell?_drew,World.cell?_setCell_far _ _ _ _ (by assumption),World.cell?_setCell_far _ _ _ _ (by assumption)]; exact R10
 have P20:=(HW0.out.cell (p:=⟨bp,i * 5+2,none⟩) hp).trans p2;have R20:=(HW0.out.cell (p:=⟨bp,j * 5+2,none⟩) hp).trans r2;have P2: (((W0.setCell ⟨bn,i,none⟩ (.string y)).setCell ⟨bn,j,none⟩ (.string x)).drew).cell? ⟨bp,i * 5+2,none⟩=some (.string u2):=by
  rw[World.cell?_drew,World.cell?_setCell_far _ _ _ _ (by assumption),World.cell?_setCell_far _ _ _ _ (by assumption)]; exact P20
 have R2: (((W0.setCell ⟨bn,i,none⟩ (.string y)).setCell ⟨bn,j,none⟩ (.string x)).drew).cell? ⟨bp,j * 5+2,none⟩=some (.string v2):=by
  rw[World.cell?_drew,World.cell?_setCell_far _ _ _ _ (by assumption),World.cell?_setCell_far _ _ _ _ (by assumption)]; exact R20
 have P30:=(HW0.out.cell (p:=⟨bp,i * 5+3,none⟩) hp).trans p3;have R30:=(HW0.out.cell (p:=⟨bp,j * 5+3,none⟩) hp).trans r3;have P3: (((W0.setCell ⟨bn,i,none⟩ (.string y)).setCell ⟨bn,j,none⟩ (.string x)).drew).cell? ⟨bp,i * 5+3,none⟩=some (.slice uA un uc):=by
  rw[World.cell?_drew,World.cell?_setCell_far _ _ _ _ (by assumption),World.cell?_setCell_far _ _ _ _ (by assumption)]; exact P30
 have R3: (((W0.setCell ⟨bn,i,none⟩ (.string y)).setCell ⟨bn,j,none⟩ (.string x)).drew).cell? ⟨bp,j * 5+3,none⟩=some (.slice vA vn vc):=by
  rw[World.cell?_drew,World.cell?_setCell_far _ _ _ _ (by assumption),World.cell?_setCell_far _ _ _ _ (by assumption)]; exact R30
 have P40:=(HW0.out.cell (p:=⟨bp,i * 5+4,none⟩) hp).trans p4;have R40:=(HW0.out.cell (p:=⟨bp,j * 5+4,none⟩) hp).trans r4;have P4: (((W0.setCell ⟨bn,i,none⟩ (.string y)).setCell ⟨bn,j,none⟩ (.string x)).drew).cell? ⟨bp,i * 5+4,none⟩=some (.slice uP um ud):=by
  rw[World.cell?_drew,World.cell?_setCell_far _ _ _ _ (by assumption),World.cell?_setCell_far _ _ _ _ (by assumption)]; exact P40
 have R4: (((W0.setCell ⟨bn,i,none⟩ (.string y)).setCell ⟨bn,j,none⟩ (.string x)).drew).cell? ⟨bp,j * 5+4,none⟩=some (.slice vP vm vd):=by
  rw[World.cell?_drew,World.cell?_setCell_far _ _ _ _ (by assumption),World.cell?_setCell_far _ _ _ _ (by assumption)]; exact R40
 clear P00 P10 P20 P30 P40 R00 R10 R20 R30 R40 b40 p0 p1 p2 p3 p4 r0 r1 r2 r3 r4;have G2: ∀k,(((W0.setCell ⟨bn,i,none⟩ (.string y)).setCell ⟨bn,j,none⟩ (.string x)).drew).frozen? ⟨bp,k,none⟩=false:=fun k=>by rw[World.frozen?_drew]; simpa using HF2.out k
 clear b3 q1 q2 k1 k2
 go_upto_region 2 with fail
 generalize hW1: (((W0.setCell ⟨bn,i,none⟩ (.string y)).setCell ⟨bn,j,none⟩ (.string x)).drew)=W1 at b4' P0 P1 P2 P3 P4 R0 R1 R2 R3 R4 G2 ⊢;have HW1:Hid _:=hW1;clear hW1 b4 hy';have g0:=G2 (i * 5);have h0:=G2 (j * 5);have g1:=G2 (i * 5+1);have h1:=G2 (j * 5+1);have g2:=G2 (i * 5+2);have h2:=G2 (j * 5+2);have g3:=G2 (i * 5+3);have h3:=G2 (j * 5+3);have g4:=G2 (i * 5+4);have h4:=G2 (j * 5+4);clear G2;have EX0: ∃v,(W1.setCell ⟨bp,i * 5,none⟩ (.int .i64 vk)).cell? ⟨bp,j * 5,none⟩=some v:=by
  obtain ⟨e10,E10⟩:=cell?_setCell_some (w:=W1) (p:=⟨bp,i * 5,none⟩) (x:=(.int .i64 vk)) (q:=⟨bp,j * 5,none⟩) R0;exact ⟨_,E10⟩
 obtain ⟨e0,E0⟩:=EX0;have EX1: ∃v,((W1.setCell ⟨bp,i * 5,none⟩ (.int .i64 vk)).setCell ⟨bp,i * 5+1,none⟩ (.string v1)).cell? ⟨bp,j * 5+1,none⟩=some v:=by
  obtain ⟨e11,E11⟩:=cell?_setCell_some (w:=W1) (p:=⟨bp,i * 5,none⟩) (x:=(.int .i64 vk)) (q:=⟨bp,j * 5+1,none⟩) R1;obtain ⟨e21,E21⟩:=cell?_setCell_some (w:=(W1.setCell ⟨bp,i * 5,none⟩ (.int .i64 vk))) (p:=⟨bp,i * 5+1,none⟩) (x:=(.string v1)) (q:=⟨bp,j * 5+1,none⟩) E11;exact ⟨_,E21⟩
 obtain ⟨e1,E1⟩:=EX1;have EX2: ∃v,(((W1.setCell ⟨bp,i * 5,none⟩ (.int .i64 vk)).setCell ⟨bp,i * 5+1,none⟩ (.string v1)).setCell ⟨bp,i * 5+2,none⟩ (.string v2)).cell? ⟨bp,j * 5+2,none⟩=some v:=by
  obtain ⟨e12,E12⟩:=cell?_setCell_some (w:=W1) (p:=⟨bp,i * 5,none⟩) (x:=(.int .i64 vk)) (q:=⟨bp,j * 5+2,none⟩) R2;obtain ⟨e22,E22⟩:=cell?_setCell_some (w:=(W1.setCell ⟨bp,i * 5,none⟩ (.int .i64 vk))) (p:=⟨bp,i * 5+1,none⟩) (x:=(.string v1)) (q:=⟨bp,j * 5+2,none⟩) E12;obtain ⟨e32,E32⟩:=cell?_setCell_some (w:=((W1.setCell ⟨bp,i * 5,none⟩ (.int .i64 vk)).setCell ⟨bp,i * 5+1,none⟩ (.string v1))) (p:=⟨bp,i * 5+2,none⟩) (x:=(.string v2)) (q:=⟨bp,j * 5+2,none⟩) E22;exact ⟨_,E32⟩
 obtain ⟨e2,E2⟩:=EX2;have EX3: ∃v,((((W1.setCell ⟨bp,i * 5,none⟩ (.int .i64 vk)).setCell ⟨bp,i * 5+1,none⟩ (.string v1)).setCell ⟨bp,i * 5+2,none⟩ (.string v2)).setCell ⟨bp,i * 5+3,none⟩ (.slice vA vn vc)).cell? ⟨bp,j * 5+3,none⟩=some v:=by
  obtain ⟨e13,E13⟩:=cell?_setCell_some (w:=W1) (p:=⟨bp,i * 5,none⟩) (x:=(.int .i64 vk)) (q:=⟨bp,j * 5+3,none⟩) R3;obtain ⟨e23,E23⟩:=cell?_setCell_some (w:=(W1.setCell ⟨bp,i * 5,none⟩ (.int .i64 vk))) (p:=⟨bp,i * 5+1,none⟩) (x:=(.string v1)) (q:=⟨bp,j * 5+3,none⟩) E13;obtain ⟨e33,E33⟩:=cell?_setCell_some (w:=((W1.setCell ⟨bp,i * 5,none⟩ (.int .i64 vk)).setCell ⟨bp,i * 5+1,none⟩ (.string v1))) (p:=⟨bp,i * 5+2,none⟩) (x:=(.string v2)) (q:=⟨bp,j * 5+3,none⟩) E23;obtain ⟨e43,E43⟩:=cell?_setCell_some (w:=(((W1.setCell ⟨bp,i * 5,none⟩ (.int .i64 vk)).setCell ⟨bp,i * 5+1,none⟩ (.string v1)).setCell ⟨bp,i * 5+2,none⟩ (.string v2))) (p:=⟨bp,i * 5+3,none⟩) (x:=(.slice vA vn vc)) (q:=⟨bp,j * 5+3,none⟩) E33;exact ⟨_,E43⟩
 obtain ⟨e3,E3⟩:=EX3;have EX4: ∃v,(((((W1.setCell ⟨bp,i * 5,none⟩ (.int .i64 vk)).setCell ⟨bp,i * 5+1,none⟩ (.string v1)).setCell ⟨bp,i * 5+2,none⟩ (.string v2)).setCell ⟨bp,i * 5+3,none⟩ (.slice vA vn vc)).setCell ⟨bp,i * 5+4,none⟩ (.slice vP vm vd)).cell? ⟨bp,j * 5+4,none⟩=some v:=by
  obtain ⟨e14,E14⟩:=cell?_setCell_some (w:=W1) (p:=⟨bp,i * 5,none⟩) (x:=(.int .i64 vk)) (q:=⟨bp,j * 5+4,none⟩) R4;obtain ⟨e24,E24⟩:=cell?_setCell_some (w:=(W1.setCell ⟨bp,i * 5,none⟩ (.int .i64 vk))) (p:=⟨bp,i * 5+1,none⟩) (x:=(.string v1)) (q:=⟨bp,j * 5+4,none⟩) E14;obtain ⟨e34,E34⟩:=cell?_setCell_some (w:=((W1.setCell ⟨bp,i * 5,none⟩ (.int .i64 vk)).setCell ⟨bp,i * 5+1,none⟩ (.string v1))) (p:=⟨bp,i * 5+2,none⟩) (x:=(.string v2)) (q:=⟨bp,j * 5+4,none⟩) E24;obtain ⟨e44,E44⟩:=cell?_setCell_some (w:=(((W1.setCell ⟨bp,i * 5,none⟩ (.int .i64 vk)).setCell ⟨bp,i * 5+1,none⟩ (.string v1)).setCell ⟨bp,i * 5+2,none⟩ (.string v2))) (p:=⟨bp,i * 5+3,none⟩) (x:=(.slice vA vn vc)) (q:=⟨bp,j * 5+4,none⟩) E34;obtain ⟨e54,E54⟩:=cell?_setCell_some (w:=((((W1.setCell ⟨bp,i * 5,none⟩ (.int .i64 vk)).setCell ⟨bp,i * 5+1,none⟩ (.string v1)).setCell ⟨bp,i * 5+2,none⟩ (.string v2)).setCell ⟨bp,i * 5+3,none⟩ (.slice vA vn vc))) (p:=⟨bp,i * 5+4,none⟩) (x:=(.slice vP vm vd)) (q:=⟨bp,j * 5+4,none⟩) E44;exact ⟨_,E54⟩
 obtain ⟨e4,E4⟩:=EX4;have hi2:i < l:=by omega
 have hj2:j < l:=by omega
 go_region
 go_end0
 refine ⟨rfl,W0,HW0.out, ?_⟩;rw[<-HW1.out];rfl
end
section
open Go.RowKit Shp Go.Sort
structure El where
 n:List UInt8
 t:Sh
 q:Ptr
 F:List Nat
instance:Inhabited El:=⟨⟨[],⟨0,[],[],[],[]⟩,⟨none,0,none,0⟩,[]⟩⟩
def ltEl (a b:El):Bool:=decide (a.n < b.n)
theorem Z8Y:SWO ltEl:=⟨fun x=>swo_ltStr.irrefl x.n,fun x y z=>swo_ltStr.trans x.n y.n z.n,fun x y z=>swo_ltStr.ntrans x.n y.n z.n⟩
structure Up2 (bn bp:Nat) (w w':World):Prop where
 os:w'.os=w.os
 tape:w'.tape=w.tape
 output:w'.output=w.output
 size:w.heap.size<=w'.heap.size
 block: ∀k,k < w.heap.size->k≠bn->k≠bp->w'.heap[k]? =w.heap[k]?
theorem Up2.refl (bn bp:Nat) (w:World):Up2 bn bp w w:=⟨rfl,rfl,rfl,Nat.le_refl _,fun _ _ _ _=>rfl⟩
theorem Up2.below {bn bp:Nat} {a b c:World} (h:Up2 bn bp a b) (k:Below a.heap.size b c):Up2 bn bp a c:=
 ⟨k.os.trans h.os,k.tape.trans h.tape,k.output.trans h.output,Nat.le_trans h.size k.size,fun x h1 h2 h3=>(k.block x h1).trans (h.block x h1 h2 h3)⟩
theorem Up2.set {bn bp:Nat} {a b:World} (h:Up2 bn bp a b) {p:Addr} (hp:p.block=bn\/p.block=bp) (v:Value):Up2 bn bp a (b.setCell p v):=
 ⟨h.os,h.tape,h.output,by simpa[World.setCell] using h.size,fun x h1 h2 h3=>(Below.heap_setCell _ _ _ _ (fun e=>by rcases hp with e2 | e2 <;> omega)).trans (h.block x h1 h2 h3)⟩
theorem Up2.drew {bn bp:Nat} {a b:World} (h:Up2 bn bp a b):Up2 bn bp a b.drew:=⟨h.os,h.tape,h.output,h.size,h.block⟩
theorem Up2.set5 {bn bp:Nat} {a b:World} (h:Up2 bn bp a b) (o:Nat) (a0 a1 a2 a3 a4:Value):Up2 bn bp a (set5 b bp o a0 a1 a2 a3 a4):=
 ((((h.set (Or.inr rfl) _).set (Or.inr rfl) _).set (Or.inr rfl) _).set (Or.inr rfl) _).set (Or.inr rfl) _
theorem Z5G (W:World) (b o:Nat) (a0 a1 a2 a3 a4:Value) (x:Addr) (h:b≠x.block): (set5 W b o a0 a1 a2 a3 a4).cell? x=W.cell? x:=by
 unfold set5;rw[World.cell?_setCell_far _ _ _ _ h,World.cell?_setCell_far _ _ _ _ h,World.cell?_setCell_far _ _ _ _ h,World.cell?_setCell_far _ _ _ _ h,World.cell?_setCell_far _ _ _ _ h]
theorem Zak {b x y:Nat} (h:x≠y): (⟨b,x,none⟩:Addr)≠⟨b,y,none⟩:=fun e=>h (by injection e)
theorem so {W:World} {b x y:Nat} {v:Value} (h:x≠y): (W.setCell ⟨b,x,none⟩ v).cell? ⟨b,y,none⟩=W.cell? ⟨b,y,none⟩:=World.cell?_setCell_other _ _ _ _ (Zak h)
theorem ss {W:World} {b x:Nat} {v u:Value} (h:W.cell? ⟨b,x,none⟩=some u): (W.setCell ⟨b,x,none⟩ v).cell? ⟨b,x,none⟩=some v:=World.cell?_setCell_same _ _ _ h
theorem Z9N (W:World) (b o:Nat) (a0 a1 a2 a3 a4:Value) (x:Nat) (h:x < o\/o+4 < x): (set5 W b o a0 a1 a2 a3 a4).cell? ⟨b,x,none⟩=W.cell? ⟨b,x,none⟩:=by
 unfold set5;rw[so,so,so,so,so] <;> omega
theorem Z3N (W:World) (b o:Nat) (t:Sh) (q:Ptr) (t':Sh) (q':Ptr) (h:Sh5 W b o t' q'):
 Sh5 (set5 W b o (.int .i64 t.kind) (.string ⟨t.of_.toArray⟩) (.string ⟨t.name.toArray⟩) (.slice q.A t.names.length q.c) (.slice q.P t.parts.length q.d)) b o t q:=by
 obtain ⟨h0,h1,h2,h3,h4⟩:=h;unfold set5;refine ⟨?_, ?_, ?_, ?_, ?_⟩
 {rw[so,so,so,so]
  {exact ss h0}
  all_goals omega}
 {rw[so,so,so]
  {exact ss ((so (by omega)).trans h1)}
  all_goals omega}
 {rw[so,so]
  {exact ss ((so (by omega)).trans ((so (by omega)).trans h2))}
  all_goals omega}
 {rw[so]
  {exact ss ((so (by omega)).trans ((so (by omega)).trans ((so (by omega)).trans h3)))}
  all_goals omega}
 {exact ss ((so (by omega)).trans ((so (by omega)).trans ((so (by omega)).trans ((so (by omega)).trans h4))))}
theorem Z34 (W:World) (b i k:Nat) (a0 a1 a2 a3 a4:Value) (t:Sh) (q:Ptr) (hne:k≠i) (h:Sh5 W b (k * 5) t q):Sh5 (set5 W b (i * 5) a0 a1 a2 a3 a4) b (k * 5) t q:=by
 obtain ⟨h0,h1,h2,h3,h4⟩:=h;refine ⟨?_, ?_, ?_, ?_, ?_⟩ <;> rw[Z9N _ _ _ _ _ _ _ _ _ (by omega)] <;> assumption
structure FSt (w0:World) (bn bp N:Nat) (d:Array El) (w:World):Prop where
 size:d.size=N
 tx: ∀i,i < N->w.cell? ⟨bn,i,none⟩=some (.string ⟨(d[i]!).n.toArray⟩)
 pa: ∀i,i < N->Sh5 w bp (i * 5) (d[i]!).t (d[i]!).q
 fn: ∀k,w.frozen? ⟨bn,k,none⟩=false
 fp: ∀k,w.frozen? ⟨bp,k,none⟩=false
 ln:bn < w0.heap.size
 lp:bp < w0.heap.size
 ne:bn≠bp
 up:Up2 bn bp w0 w
theorem FSt.keep {w0:World} {bn bp N:Nat} {d:Array El} {w w':World} (h:FSt w0 bn bp N d w) (hb:Below w0.heap.size w w'):FSt w0 bn bp N d w':=
 ⟨h.size,fun i hi=>(hb.cell (p:=⟨bn,i,none⟩) h.ln).trans (h.tx i hi),fun i hi=>(h.pa i hi).of (fun k=>hb.cell (p:=⟨bp,k,none⟩) h.lp),fun k=>(hb.frozen (p:=⟨bn,k,none⟩) h.ln).trans (h.fn k),
  fun k=>(hb.frozen (p:=⟨bp,k,none⟩) h.lp).trans (h.fp k),h.ln,h.lp,h.ne,h.up.below hb⟩
theorem Z4Z {W:World} {b o c:Nat} {t:Sh} {q:Ptr} {v:Value} {x:Nat} (hne:b≠c) (h:Sh5 W c o t q):Sh5 (W.setCell ⟨b,x,none⟩ v) c o t q:=
 h.of fun k=>World.cell?_setCell_far _ _ _ _ hne
theorem Z7S (w0:World) (bn bp N:Nat) (K:Int) (o m:List UInt8) (c l dd:Nat) (hN:N < 400000) (hl:N<=l) (hl2:l < 1000000):
 Srt N w0.heap.size (.agg #[.int .i64 K,.string ⟨o.toArray⟩,.string ⟨m.toArray⟩,.slice (some ⟨bn,0,none⟩) N c,.slice (some ⟨bp,0,none⟩) l dd]) ltEl (FSt w0 bn bp N) where
 less d w i j h hi0 hi hj0 hj:=by
  obtain ⟨a,rfl⟩:=Int.eq_ofNat_of_zero_le hi0;obtain ⟨b,rfl⟩:=Int.eq_ofNat_of_zero_le hj0;have ha:a < N:=by omega
  have hb:b < N:=by omega
  refine (Z7Q K ⟨o.toArray⟩ ⟨m.toArray⟩ bn N c dd (some ⟨bp,0,none⟩) l _ _ a b w ha hb (by omega) (Nat.lt_of_lt_of_le h.ln h.up.size) (h.tx a ha) (h.tx b hb)).mono ?_;rintro e w' ⟨rfl,hw⟩;exact ⟨rfl,h.keep (hw.mono h.up.size),hw.size,fun x _ hx=>hw.block x hx⟩
 swap d w i j h hi0 hi hj0 hj:=by
  obtain ⟨a,rfl⟩:=Int.eq_ofNat_of_zero_le hi0;obtain ⟨b,rfl⟩:=Int.eq_ofNat_of_zero_le hj0;have ha:a < N:=by omega
  have hb:b < N:=by omega
  have hs:=h.size;obtain ⟨p0,p1,p2,p3,p4⟩:=h.pa a ha;obtain ⟨r0,r1,r2,r3,r4⟩:=h.pa b hb;have hnw:=Nat.lt_of_lt_of_le h.ln h.up.size;have hpw:=Nat.lt_of_lt_of_le h.lp h.up.size;refine (Z7R K ⟨o.toArray⟩ ⟨m.toArray⟩ bn N c bp l dd _ _ a b _ _ _ _ _ _ _ _ _ _ _ _ _ _ _ _ _ _ w ha hb hl hl2 hnw hpw h.ne (h.tx a ha) (h.tx b hb) h.fn h.fp p0 r0 p1 r1 p2 r2 p3 r3 p4 r4).mono ?_;rintro e w' ⟨rfl,W0,hW0,rfl⟩;have h0:=h.keep (hW0.mono h.up.size);have hne:=h.ne;have ea: ((a:Nat):Int).toNat=a:=by omega
  have eb: ((b:Nat):Int).toNat=b:=by omega
  rw[ea,eb];have hget:=fun k=>swp_get d (i:=a) (j:=b) (by omega) (by omega) k;refine ⟨rfl,⟨by rw[size_swp]; exact hs,fun k hk=> ?_,fun k hk=> ?_,fun k=> ?_,fun k=> ?_,h.ln,h.lp,hne, ?_⟩, ?_, ?_⟩
  {rw[World.cell?_drew,Z5G _ _ _ _ _ _ _ _ _ hne.symm,Z5G _ _ _ _ _ _ _ _ _ hne.symm,World.cell?_drew];by_cases hkb:k=b
   {subst hkb;rw[swp_right d a k (by omega)];obtain ⟨v,hv⟩:=cell?_setCell_some (w:=W0) (p:=⟨bn,a,none⟩) (x:= .string ⟨(d[k]!).n.toArray⟩) (q:=⟨bn,k,none⟩) (h0.tx k hk);exact ss hv}
   {rw[so (Ne.symm hkb)];by_cases hka:k=a
    {subst hka;rw[swp_left d k b (by omega) hkb];exact ss (h0.tx k hk)}
    {rw[so (Ne.symm hka),swp_other d a b k hka hkb];exact h0.tx k hk}}}
  {have hz: ∀k,k < N->Sh5 ((((W0.setCell ⟨bn,a,none⟩ (.string ⟨(d[b]!).n.toArray⟩)).setCell ⟨bn,b,none⟩ (.string ⟨(d[a]!).n.toArray⟩)).drew)) bp (k * 5) (d[k]!).t (d[k]!).q:=fun k hk=>
    (Z4Z hne (Z4Z hne (h0.pa k hk))).of fun _=>World.cell?_drew _ _
   refine Sh5.of (w:=set5 _ _ _ _ _ _ _ _) ?_ (fun _=>World.cell?_drew _ _);by_cases hkb:k=b
   {subst hkb;rw[swp_right d a k (by omega)];by_cases hka:k=a
    {subst hka;exact Z3N _ _ _ _ _ _ _ (Z3N _ _ _ _ _ _ _ (hz k hk))}
    {exact Z3N _ _ _ _ _ _ _ (Z34 _ _ _ _ _ _ _ _ _ _ _ hka (hz k hk))}}
   {refine Z34 _ _ _ _ _ _ _ _ _ _ _ hkb ?_;by_cases hka:k=a
    {subst hka;rw[swp_left d k b (by omega) hkb];exact Z3N _ _ _ _ _ _ _ (hz k hk)}
    {rw[swp_other d a b k hka hkb];exact Z34 _ _ _ _ _ _ _ _ _ _ _ hka (hz k hk)}}}
  {have:=h0.fn k;simpa[set5,World.frozen?_drew] using this}
  {have:=h0.fp k;simpa[set5,World.frozen?_drew] using this}
  {exact (((((h0.up.set (Or.inl rfl) _).set (Or.inl rfl) _).drew).set5 _ _ _ _ _ _).set5 _ _ _ _ _ _).drew}
  {have:=hW0.size;simpa[set5,World.setCell] using this}
  {intro x hx1 hx2;have hn:x≠bn:=by have:=h.ln; omega
   have hp:x≠bp:=by have:=h.lp; omega
   have hU:=((((((Up2.refl bn bp W0).set (Or.inl rfl) (.string ⟨(d[b]!).n.toArray⟩) (p:=⟨bn,a,none⟩)).set (Or.inl rfl) (.string ⟨(d[a]!).n.toArray⟩) (p:=⟨bn,b,none⟩)).drew).set5 (a * 5) (.int .i64 (d[b]!).t.kind) (.string ⟨(d[b]!).t.of_.toArray⟩) (.string ⟨(d[b]!).t.name.toArray⟩) (.slice (d[b]!).q.A (d[b]!).t.names.length (d[b]!).q.c) (.slice (d[b]!).q.P (d[b]!).t.parts.length (d[b]!).q.d)).set5 (b * 5) (.int .i64 (d[a]!).t.kind) (.string ⟨(d[a]!).t.of_.toArray⟩) (.string ⟨(d[a]!).t.name.toArray⟩) (.slice (d[a]!).q.A (d[a]!).t.names.length (d[a]!).q.c) (.slice (d[a]!).q.P (d[a]!).t.parts.length (d[a]!).q.d)).drew;exact (hU.block x (Nat.lt_of_lt_of_le hx2 hW0.size) hn hp).trans (hW0.block x hx2)}
 size d w h:=h.size
 big:=by omega
 base d w h:=h.up.size
 keep d w w' h hb:=h.keep hb
 mL w:=by kernel_rfl
 mS w:=by kernel_rfl
theorem Z6K (t:Sh) (q:Ptr) (w:World) (h0:t.names.length=0):
 Y9 59 #[.iface 66 (.agg (Y8 t q))] w (.tuple #[]):=by
 have H:Srt t.names.length w.heap.size (.agg (Y8 t q)) ltEl (fun d w1=>d.size=t.names.length/\Below w.heap.size w w1):= {
  less:=fun d w1 i j h hi0 hi=>absurd hi (by omega)
  swap:=fun d w1 i j h hi0 hi=>absurd hi (by omega)
  size:=fun d w1 h=>h.1
  big:=by omega
  base:=fun d w1 h=>h.2.size
  keep:=fun d w1 w2 h hb=>⟨h.1,h.2.trans hb⟩
  mL:=fmL t q
  mS:=fmS t q }
 exact (Z4t H Z8Y (fmN t q) (fun d w1 h=>(Z4Y t q w1).mono fun e w2 ⟨he,hb⟩=>⟨he,h.1,Z00 h.2 hb⟩) #[] w ⟨by rw[h0]; rfl,Below.refl _ _⟩).mono fun e w' ⟨he,d',_,_,h⟩=>⟨he,h.2⟩
def els (t:Sh) (qs:Nat->Ptr) (Fs:Nat->List Nat):Array El:=((List.range t.names.length).map fun i=>(⟨t.names.getD i [],t.parts.getD i ⟨0,[],[],[],[]⟩,qs i,Fs i⟩:El)).toArray
section
variable (t : Sh) (qs : Nat -> Ptr) (Fs : Nat -> List Nat)
include t qs Fs
theorem Z35: (els t qs Fs).size=t.names.length:=by simp[els]
theorem Z5H (i:Nat) (h:i < t.names.length) (h2:i < t.parts.length): (els t qs Fs)[i]! =⟨t.names[i],t.parts[i],qs i,Fs i⟩:=by
 rw[getElem!_pos (els t qs Fs) i (by rw[Z35]; exact h)];simp[els,h,h2]
end
theorem Z7T (t:Sh) (q:Ptr) (qs:Nat->Ptr) (Fs:Nat->List Nat) (bn bp:Nat) (w:World) (hA:q.A=some ⟨bn,0,none⟩) (hP:q.P=some ⟨bp,0,none⟩) (hl:t.names.length=t.parts.length) (hN:t.names.length < 400000)
    (ht:TxR w bn t.names) (hp:PaR w bp t.parts qs) (hne:bn≠bp):
    Calls Tryd.prog 59 #[.iface 66 (.agg #[.int .i64 t.kind,.string ⟨t.of_.toArray⟩,.string ⟨t.name.toArray⟩,.slice q.A t.names.length q.c,.slice q.P t.parts.length q.d])] w fun e w'=>e= .returned (.tuple #[])/\
      ∃d',PermIn 0 t.names.length (els t qs Fs) d'/\SortedIn ltEl 0 t.names.length d'/\FSt w bn bp t.names.length d' w':=by
  have hlen:=Z4Y t q;have mN:=fmN t q;rw[hA,hP] at hlen mN ⊢;have H:=Z7S w bn bp t.names.length t.kind t.of_ t.name q.c t.parts.length q.d hN (by omega) (by omega);refine Z4t H Z8Y mN (fun d w1 h=>(hlen w1).mono fun e w2 ⟨he,hb⟩=>⟨he,h.keep (hb.mono h.up.size)⟩) (els t qs Fs) w ?_;exact ⟨Z35 t qs Fs,fun i hi=>by rw[Z5H t qs Fs i hi (by omega)]; exact ht.at_ i hi,fun i hi=>by rw[Z5H t qs Fs i hi (by omega)]; exact hp.at_ i (by omega),ht.fz,hp.fz,ht.lt,hp.lt,hne,Up2.refl _ _ _⟩
theorem Z7U {N:Nat} {d d':Array El} (h:PermIn 0 N d d') (hN:d.size=N):d'.toList.Perm d.toList:=by
 obtain ⟨h1,_,h3⟩:=h;have e:d.extract 0 N=d:=by rw[<-hN]; exact Array.extract_size
 have e':d'.extract 0 N=d':=by rw[<-hN, <-h1]; exact Array.extract_size
 rwa [e,e'] at h3
theorem Z5I {N:Nat} {d:Array El} (h:SortedIn ltEl 0 N d) (hN:d.size=N): (d.toList.map fun x=>(x.n,x.t)).Pairwise (fun a b:Fld=>a.1<=b.1):=by
 rw[List.pairwise_map,List.pairwise_iff_getElem];intro i j hi hj hij;have:=h i j (Nat.zero_le _) hij (by simpa[hN] using hj);simp only[ltEl,decide_eq_false_iff_not,List.not_lt] at this;rw[getElem!_pos d i (by simpa using hi),getElem!_pos d j (by simpa using hj)] at this;simpa using this
theorem Z7V {t t':Sh} {q:Ptr} (h:Small t q) (ho:t'.of_=t.of_) (hn:t'.name=t.name) (hns:t'.names.Perm t.names) (hp:t'.parts.length=t.parts.length):Small t' q:=by
 have hl:=hns.length_eq;obtain ⟨h1,h2,h3,h4,h5,h6,h7,h8,h9⟩:=h;exact ⟨by rw[ho]; exact h1,by rw[hn]; exact h2,fun x hx=>h3 x (hns.mem_iff.1 hx),by rw[hl]; exact h4,by rw[hp]; exact h5,by rw[hl]; exact h6,by rw[hp]; exact h7,h8,h9⟩
theorem Z9O {w0 W:World} {t:Sh} {q:Ptr} {bn bp N:Nat} {qs:Nat->Ptr} {Fs:Nat->List Nat} {d:Array El} (hA:q.A=some ⟨bn,0,none⟩) (hP:q.P=some ⟨bp,0,none⟩) (hs:Small t q)
 (hN:t.names.length=N) (hN2:t.parts.length=N) (hf:FSt w0 bn bp N d W) (hp:d.toList.Perm (els t qs Fs).toList) (hr: ∀i (h:i < t.parts.length),Own W (qs i) (t.parts[i]'h) (Fs i)):
 Own W q ⟨t.kind,t.of_,t.name,d.toList.map El.n,d.toList.map El.t⟩ ([bn]++ [bp]++d.toList.flatMap El.F)/\([bn]++ [bp]++d.toList.flatMap El.F).Perm ([bn]++ [bp]++(List.range t.parts.length).flatMap Fs):=by
 have hsz:=hf.size;have hall: ∀x∈d.toList,Own W x.q x.t x.F:=fun x hx=>by
  have hx2:=hp.mem_iff.1 hx;obtain ⟨i,hi,rfl⟩:=List.getElem_of_mem hx2;have hi2:i < t.names.length:=by simpa[els] using hi
  have:=Z5H t qs Fs i hi2 (by omega);rw[getElem!_pos (els t qs Fs) i (by rw[Z35]; exact hi2)] at this;rw[Array.getElem_toList,this];exact hr i (by omega)
 have hen: ((els t qs Fs).toList.map El.n)=t.names:=by
  apply List.ext_getElem
  {simp[els]}
  {intro i h1 h2;simp[els,h2]}
 have heF: (els t qs Fs).toList.flatMap El.F=(List.range t.parts.length).flatMap Fs:=by
  rw[hN2, <-hN];simp[els,List.flatMap_map]
 have hget: ∀i (h:i < d.toList.length),d[i]! =d.toList[i]'h:=fun i h=>by
  rw[getElem!_pos d i (by simpa using h)];simp
 refine ⟨.mk q _ _ [bn] [bp] (fun i=>(d[i]!).q) (fun i=>(d[i]!).F) (Z7V hs rfl rfl ((hp.map El.n).trans (by rw[hen])) (by simp; omega)) ?_ ?_ ?_ ?_, ?_⟩
 {refine Or.inr ⟨bn,hA,rfl,Nat.lt_of_lt_of_le hf.ln hf.up.size,fun i hi=> ?_,hf.fn⟩;have hi2:i < d.toList.length:=by simpa using hi
  rw[hf.tx i (by simpa[hsz] using hi2),hget i hi2];simp}
 {refine Or.inr ⟨bp,hP,rfl,Nat.lt_of_lt_of_le hf.lp hf.up.size,fun i hi=> ?_,hf.fp⟩;have hi2:i < d.toList.length:=by simpa using hi
  have:=hf.pa i (by simpa[hsz] using hi2);rw[hget i hi2] at this;simpa[hget i hi2] using this}
 {intro i hi;have hi2:i < d.toList.length:=by simpa using hi
  have:=hall _ (List.getElem_mem hi2);simpa[hget i hi2] using this}
 {congr 1;show d.toList.flatMap El.F=(List.range (d.toList.map El.t).length).flatMap (fun i=>(d[i]!).F);rw[List.length_map];have:d.toList=(List.range d.toList.length).map (fun i=>d[i]!):=by
   apply List.ext_getElem
   {simp}
   {intro i h1 h2;simp[hget i h1]}
  conv=>lhs; rw[this]
  rw[List.flatMap_map]}
 {rw[<-heF];exact List.Perm.append_left _ (List.Perm.flatMap_right El.F hp)}
end
section
open Go.RowKit Shp
structure UpF (F:List Nat) (w w':World):Prop where
 os:w'.os=w.os
 tape:w'.tape=w.tape
 output:w'.output=w.output
 size:w.heap.size<=w'.heap.size
 block: ∀k,k < w.heap.size->k∉F->w'.heap[k]? =w.heap[k]?
theorem UpF.refl (F:List Nat) (w:World):UpF F w w:=⟨rfl,rfl,rfl,Nat.le_refl _,fun _ _ _=>rfl⟩
theorem UpF.below {F:List Nat} {a b c:World} (h:UpF F a b) (k:Below b.heap.size b c):UpF F a c:=
 ⟨k.os.trans h.os,k.tape.trans h.tape,k.output.trans h.output,Nat.le_trans h.size k.size,fun x h1 h2=>(k.block x (Nat.lt_of_lt_of_le h1 h.size)).trans (h.block x h1 h2)⟩
theorem UpF.next {F G:List Nat} {a b c:World} (h:UpF F a b) (k:UpF G b c) (hs: ∀x∈G,x∈F):UpF F a c:=
 ⟨k.os.trans h.os,k.tape.trans h.tape,k.output.trans h.output,Nat.le_trans h.size k.size,fun x h1 h2=>(k.block x (Nat.lt_of_lt_of_le h1 h.size) (fun e=>h2 (hs x e))).trans (h.block x h1 h2)⟩
theorem UpF.same {F:List Nat} {w w':World} (h:UpF F w w') {b:Nat} (h1:b < w.heap.size) (h2:b∉F):Z0J w w' b:=
 ⟨fun k=>World.cell?_of_block (w:=w) (h.block b h1 h2),fun k=>World.frozen?_of_block (w:=w) (h.block b h1 h2)⟩
theorem Up2.upF {bn bp:Nat} {w w':World} (h:Up2 bn bp w w') {F:List Nat} (h1:bn∈F) (h2:bp∈F):UpF F w w':=
 ⟨h.os,h.tape,h.output,h.size,fun k hk hn=>h.block k hk (fun e=>hn (e▸h1)) (fun e=>hn (e▸h2))⟩
theorem Z1B {W W':World} {q:Ptr} {t:Sh} {F:List Nat} (h:Own W q t F) (hb:Below W.heap.size W W'):Own W' q t F:=
 h.of (fun b hm=>⟨fun k=>hb.cell (p:=⟨b,k,none⟩) (h.lt b hm),fun k=>hb.frozen (p:=⟨b,k,none⟩) (h.lt b hm)⟩) hb.size
theorem Z2A (t:Sh): (sorted t).kind=t.kind/\(sorted t).of_=t.of_/\(sorted t).name=t.name:=by
 rw[Z0k]; split <;> exact ⟨rfl,rfl,rfl⟩
theorem Z3T {t:Sh} (h:t.names= []\/t.names.length=t.parts.length): (sorted t).names.length=t.names.length/\(sorted t).parts.length=t.parts.length:=by
 rw[Z0k];split
 {rename_i h0
  simp[h0]}
 {rename_i h0
  rcases h with h | h
  {exact absurd h h0}
  {have:=(Z0S (t.names.zip (t.parts.map sorted))).length_eq;rw[List.length_zip,List.length_map] at this;simp only[List.length_map,this];omega}}
theorem Z28 {t:Sh} (h:right t=true):t.names= []\/t.names.length=t.parts.length/\t.names.Nodup:=by
 have hf:=Z08 h;unfold fits at hf;split at hf
 {simp only[Bool.and_eq_true,decide_eq_true_eq] at hf;exact Or.inl (List.eq_nil_of_length_eq_zero hf.1.2)}
 {split at hf
  {cases hf}
  {split at hf
   {simp only[Bool.and_eq_true,decide_eq_true_eq] at hf;refine Or.inr ⟨hf.2, ?_⟩;have:=hf.1;simp only[areNames,Bool.and_eq_true,Z4Q] at this;exact this.2}
   {split at hf
    {cases hf}
    {rename_i h0
     exact Or.inl (List.eq_nil_of_length_eq_zero (by omega))}}}}
theorem Z4u {W:World} {b o:Nat} {t:Sh} {q:Ptr} (hr:right t=true) (h:Sh5 W b o t q):Sh5 W b o (sorted t) q:=by
 obtain ⟨k1,k2,k3⟩:=Z2A t;obtain ⟨l1,l2⟩:=Z3T (t:=t) ((Z28 hr).imp id And.left);unfold Sh5 at *;rw[k1,k2,k3,l1,l2];exact h
theorem Z5J {Fs:Nat->List Nat}: ∀n,((List.range n).flatMap Fs).Nodup->(∀j,j < n->(Fs j).Nodup)/\ ∀i j,i < j->j < n-> ∀b∈Fs i,b∉Fs j
 | 0,_=>⟨fun j hj=>absurd hj (by omega),fun i j _ hj=>absurd hj (by omega)⟩
 | n+1,h=>by
  rw[List.range_succ,List.flatMap_append,List.nodup_append] at h;obtain ⟨h1,h2,h3⟩:=h;obtain ⟨k1,k2⟩:=Z5J n h1;have e: [n].flatMap Fs=Fs n:=by simp
  rw[e] at h2 h3;refine ⟨fun j hj=> ?_,fun i j hij hj b hb hb2=> ?_⟩
  {rcases Nat.lt_or_eq_of_le (Nat.le_of_lt_succ hj) with h | rfl
   {exact k1 j h}
   {exact h2}}
  {rcases Nat.lt_or_eq_of_le (Nat.le_of_lt_succ hj) with h | rfl
   {exact k2 i j hij h b hb hb2}
   {exact h3 b (List.mem_flatMap.2 ⟨i,List.mem_range.2 hij,hb⟩) b hb2 rfl}}
theorem Z2B {FN FP:List Nat} {n:Nat} {Fs:Nat->List Nat} (h: (FN++FP++(List.range n).flatMap Fs).Nodup):
 (∀b∈FN,b∉FP)/\(∀b∈FN,∀j,j < n->b∉Fs j)/\(∀b∈FP,∀j,j < n->b∉Fs j)/\(∀j,j < n->(Fs j).Nodup)/\ ∀i j,i < n->j < n->i≠j-> ∀b∈Fs i,b∉Fs j:=by
 rw[List.nodup_append] at h;obtain ⟨h1,h2,h3⟩:=h;rw[List.nodup_append] at h1;have hm: ∀j,j < n-> ∀b∈Fs j,b∈(List.range n).flatMap Fs:=fun j hj b hb=>List.mem_flatMap.2 ⟨j,List.mem_range.2 hj,hb⟩;obtain ⟨h4,h5⟩:=Z5J n h2;refine ⟨fun b hb hb2=>h1.2.2 b hb b hb2 rfl,fun b hb j hj hb2=>h3 b (List.mem_append_left _ hb) b (hm j hj b hb2) rfl,fun b hb j hj hb2=>h3 b (List.mem_append_right _ hb) b (hm j hj b hb2) rfl,h4,fun i j hi hj hne b hb hb2=> ?_⟩;rcases Nat.lt_or_gt_of_ne hne with h | h
 {exact h5 i j h hj b hb hb2}
 {exact h5 j i h hi b hb2 hb}
end
section
open Shp
theorem Z05 {t:Sh} (h:check t=0):size t<=400/\deep t<=40/\right t=true:=by
 unfold check at h;by_cases h4:400 < size t
 {rw[if_pos h4] at h; omega}
 {rw[if_neg h4] at h;by_cases h40:40 < deep t
  {rw[if_pos h40] at h; omega}
  {rw[if_neg h40] at h;cases hr:right t with
   | false=>rw[hr] at h; simp at h
   | true=>exact ⟨by omega,by omega,rfl⟩}}
theorem Z7W {l m:List Sh} (h:l.Perm m):sizes l=sizes m:=by
 induction h with
 | nil=>rfl
 | cons x _ ih=>simp[sizes,ih]
 | swap x y l=>simp[sizes]; omega
 | trans _ _ ih1 ih2=>exact ih1.trans ih2
theorem Z90 {f:Sh->Sh} {l:List Sh} (h: ∀p∈l,size (f p)=size p):sizes (l.map f)=sizes l:=by
 induction l with
 | nil=>rfl
 | cons a l ih=>simp[sizes,h a (by simp),ih (fun p hp=>h p (by simp[hp]))]
structure Like (f:Sh->Sh) (t u:Sh):Prop where
 k:u.kind=t.kind
 o:u.of_=t.of_
 n:u.name=t.name
 ns:u.names.Perm t.names
 ps:u.parts.Perm (t.parts.map f)
theorem Like.size {f:Sh->Sh} {t u:Sh} (h:Like f t u) (hp: ∀p∈t.parts,size (f p)=size p):size u=size t:=by
 rw[size_eq,size_eq,Z7W h.ps,Z90 hp]
end
end Go.Proofs.YtkhoflciahkphaaDoor
namespace Sub
section
open Shp Go.Proofs.YtkhoflciahkphaaDoor
def stepNarrow (g:Sh->Sh->Bool) (c:Cl):Bool:=
 match c with
 | (_,_,none)=>true
 | (_,some p,some q)=>g p q
 | (_,none,some _)=>false
def stepWide (g:Sh->Sh->Bool) (c:Cl):Bool:=
 match c with
 | (_,none,_)=>true
 | (_,some p,some q)=>g p q
 | (_,some _,none)=>false
def placesAll (g:Sh->Sh->Bool):List Sh->List Sh->Bool
 | [],[]=>true
 | a::us,b::vs=>(if us.isEmpty then g a b else g b a)&&placesAll g us vs
 | [],_::_=>false
 | _::_,[]=>false
def bw:Nat->Sh->Sh->Bool
 | 0,_,_=>false
 | f+1,a,b=>
  if a.kind≠b.kind then false
  else if a.kind=6 then (calls a b).all (stepNarrow (bw f))
  else if a.kind=7 then (calls a b).all (stepWide (bw f))
  else decide (a.of_=b.of_/\a.name=b.name)&&placesAll (bw f) a.parts b.parts
theorem Z24 {g:Sh->Sh->Bool} {us vs:List Sh}:placesAll g us vs=true ↔
 us.length=vs.length/\ ∀(i:Nat) (p q:Sh),us[i]? =some p->vs[i]? =some q->(if i+1=us.length then g p q else g q p)=true:=by
 induction us generalizing vs with
 | nil=>cases vs <;> simp[placesAll]
 | cons a us ih=>
  cases vs with
  | nil=>simp[placesAll]
  | cons b vs=>
   unfold placesAll;rw[Bool.and_eq_true,ih];constructor
   {rintro ⟨h1,h2,h3⟩;refine ⟨by simp[h2],fun i p q hp hq=> ?_⟩;cases i with
    | zero=>
     simp only[List.getElem?_cons_zero,Option.some.injEq] at hp hq;subst hp hq;by_cases e:us.isEmpty=true
     {rw[if_pos e] at h1; rw[if_pos (by have:=(Z16 us).1 e; rw[List.length_cons]; omega)]; exact h1}
     {rw[if_neg e] at h1; rw[if_neg (fun h=>e ((Z16 us).2 (by rw[List.length_cons] at h; omega)))]; exact h1}
    | succ i=>
     have:=h3 i p q (by simpa using hp) (by simpa using hq);rw[<-this]; simp}
   {rintro ⟨h1,h2⟩;refine ⟨?_,by simpa using h1,fun i p q hp hq=> ?_⟩
    {have:=h2 0 a b (by simp) (by simp);by_cases e:us.isEmpty=true
     {rw[if_pos e]; rw[if_pos (by have:=(Z16 us).1 e; rw[List.length_cons]; omega)] at this; exact this}
     {rw[if_neg e]; rw[if_neg (fun h=>e ((Z16 us).2 (by rw[List.length_cons] at h; omega)))] at this; exact this}}
    {have:=h2 (i+1) p q (by simpa using hp) (by simpa using hq);rw[<-this]; simp}}
theorem Zam {f:Nat}: ∀ {a b:Sh},right a=true->right b=true->(bw f a b=true ↔ V f true a b):=by
 induction f with
 | zero=>intro a b _ _; unfold bw V; simp
 | succ f ih=>
  intro a b ra rb;unfold bw V;by_cases hk:a.kind=b.kind
  {rw[if_neg (fun h=>h hk)];by_cases h6:a.kind=6
   {have A:=Z0s (Z08 ra) (Or.inl h6);have B:=Z0s (Z08 rb) (Or.inl (hk▸h6));have hw:Narrow true a.kind:=Or.inl ⟨rfl,h6⟩;rw[if_pos h6,List.all_eq_true];constructor
    {intro h;refine ⟨hk,fun _ n q hq=> ?_,fun h=>absurd h (Z0K hw),fun h=>absurd (Or.inl h6) h⟩;have:=h (n,get a n,get b n) ((Z0c A B).2 ⟨rfl,rfl,Or.inr (Z0Q hq)⟩);rw[hq] at this;cases hp:get a n with
     | none=>rw[hp] at this; cases this
     | some p=>rw[hp] at this; exact ⟨p,rfl,(ih (Z04 ra (Z06 hp)) (Z04 rb (Z06 hq))).1 this⟩}
    {rintro ⟨_,h,_⟩ ⟨n,x,y⟩ hc;obtain ⟨rfl,rfl,_⟩:=(Z0c A B).1 hc;cases hq:get b n with
     | none=>cases get a n <;> rfl
     | some q=>
      obtain ⟨p,hp,v⟩:=h hw n q hq;rw[hp];exact (ih (Z04 ra (Z06 hp)) (Z04 rb (Z06 hq))).2 v}}
   {rw[if_neg h6];by_cases h7:a.kind=7
    {have A:=Z0s (Z08 ra) (Or.inr h7);have B:=Z0s (Z08 rb) (Or.inr (hk▸h7));have hw:Wide true a.kind:=Or.inl ⟨rfl,h7⟩;rw[if_pos h7,List.all_eq_true];constructor
     {intro h;refine ⟨hk,fun h=>absurd hw (Z0K h),fun _ n p hp=> ?_,fun h=>absurd (Or.inr h7) h⟩;have:=h (n,get a n,get b n) ((Z0c A B).2 ⟨rfl,rfl,Or.inl (Z0Q hp)⟩);rw[hp] at this;cases hq:get b n with
      | none=>rw[hq] at this; cases this
      | some q=>rw[hq] at this; exact ⟨q,rfl,(ih (Z04 ra (Z06 hp)) (Z04 rb (Z06 hq))).1 this⟩}
     {rintro ⟨_,_,h,_⟩ ⟨n,x,y⟩ hc;obtain ⟨rfl,rfl,_⟩:=(Z0c A B).1 hc;cases hp:get a n with
      | none=>cases get b n <;> rfl
      | some p=>
       obtain ⟨q,hq,v⟩:=h hw n p hp;rw[hq];exact (ih (Z04 ra (Z06 hp)) (Z04 rb (Z06 hq))).2 v}}
    {rw[if_neg h7,Bool.and_eq_true,decide_eq_true_eq,Z24];constructor
     {rintro ⟨⟨h1,h2⟩,h3,h4⟩;refine ⟨hk,fun h=>absurd (Z0x h) (by omega),fun h=>absurd (Z0H h) (by omega),fun _=>⟨h1,h2,h3,fun i p q hp hq=> ?_⟩⟩;have:=h4 i p q hp hq;have rp:=Z04 ra (List.mem_of_getElem? hp);have rq:=Z04 rb (List.mem_of_getElem? hq);by_cases e:i+1=a.parts.length
      {rw[if_pos e] at this ⊢; exact (ih rp rq).1 this}
      {rw[if_neg e] at this ⊢; exact ((ih rq rp).1 this).flip}}
     {rintro ⟨_,_,_,h⟩;obtain ⟨h1,h2,h3,h4⟩:=h (by omega);refine ⟨⟨h1,h2⟩,h3,fun i p q hp hq=> ?_⟩;have:=h4 i p q hp hq;have rp:=Z04 ra (List.mem_of_getElem? hp);have rq:=Z04 rb (List.mem_of_getElem? hq);by_cases e:i+1=a.parts.length
      {rw[if_pos e] at this ⊢; exact (ih rp rq).2 this}
      {rw[if_neg e] at this ⊢; exact (ih rq rp).2 (V.flip_iff.2 this)}}}}}
  {rw[if_pos hk];constructor
   {intro h; cases h}
   {rintro ⟨h,_⟩; exact absurd h hk}}
def whole (o:Option Sh):Option Sh:=o.bind (fun j=>if check j=0 then some (sorted j) else none)
def J (up:Bool) (a b:Sh):Option Sh:=if check a=0/\check b=0 then whole (bound 40 up a b) else none
def below (a b:Sh):Bool:=decide (check a=0)&&decide (check b=0)&&bw 40 a b
theorem Z51 {a b:Sh} (ca:check a=0) (cb:check b=0):below a b=true ↔ V 40 true a b:=by
 unfold below;simp only[ca,cb,decide_true,Bool.true_and];exact Zam (Z05 ca).2.2 (Z05 cb).2.2
theorem Z3z {a b:Sh} (h: ¬(check a=0/\check b=0)):below a b=false:=by
 unfold below;by_cases h1:check a=0
 {simp[h1,show check b≠0 from fun e=>h ⟨h1,e⟩]}
 {simp[h1]}
theorem Z80 {a b:Sh} (h:below a b=true):check a=0/\check b=0:=by
 by_cases e:check a=0/\check b=0
 {exact e}
 {rw[Z3z e] at h; cases h}
end
end Sub
namespace Grd
section
open Shp Sub Go.Proofs.YtkhoflciahkphaaDoor
def R (w:Bool):Nat->Bool->Sh->Sh->Prop
 | 0,_,_,_=>False
 | f+1,up,a,b=>a.kind=4\/b.kind=4\/(a.kind=b.kind/\
  (a.kind=6\/a.kind=7->(∀n p q,get a n=some p->get b n=some q->R w f up p q)/\
   (∀n p,get a n=some p->get b n=none->w=true/\Narrow up a.kind)/\
   (∀n q,get a n=none->get b n=some q->w=true/\Wide up a.kind))/\
  (¬(a.kind=6\/a.kind=7)->a.of_=b.of_/\a.name=b.name/\a.parts.length=b.parts.length/\
   ∀i p q,a.parts[i]? =some p->b.parts[i]? =some q->R w f (if i+1=a.parts.length then up else !up) p q))
section
variable {w : Bool} {f : Nat}
include w f
theorem R.flip: ∀ {up:Bool} {a b:Sh},R w f up a b->R w f (!up) b a:=by
 induction f with
 | zero=>intro up a b h; exact h.elim
 | succ f ih=>
  intro up a b h;rcases h with h | h | ⟨hk,h1,h2⟩
  {exact Or.inr (Or.inl h)}
  {exact Or.inl h}
  refine Or.inr (Or.inr ⟨hk.symm,fun h=> ?_,fun h=> ?_⟩)
  {rw[<-hk] at h ⊢;obtain ⟨g1,g2,g3⟩:=h1 h;refine ⟨fun n q p hq hp=>ih (g1 n p q hp hq),fun n q hq hp=> ?_,fun n p hq hp=> ?_⟩
   {rw[Z2w]; exact g3 n q hp hq}
   {rw[Z3v]; exact g2 n p hp hq}}
  {rw[<-hk] at h;obtain ⟨e1,e2,e3,e4⟩:=h2 h;refine ⟨e1.symm,e2.symm,e3.symm,fun i p q hp hq=> ?_⟩;have:=ih (e4 i q p hq hp);rw[<-e3];by_cases e:i+1=a.parts.length
   {rw[if_pos e] at this ⊢; exact this}
   {rw[if_neg e] at this ⊢; exact this}}
theorem R.flip_iff {up:Bool} {a b:Sh}:R w f up a b ↔ R w f (!up) b a:=⟨R.flip,fun h=>by have:=h.flip; rwa [Bool.not_not] at this⟩
theorem R.refl: ∀ {up:Bool} {a:Sh},deep a<=f->R w f up a a:=by
 induction f with
 | zero=>intro up a h; rw[Z0d] at h; omega
 | succ f ih=>
  intro up a h;have hp: ∀p∈a.parts,deep p<=f:=fun p hp=>by have:=Z0t hp; rw[Z0d] at h; omega
  refine Or.inr (Or.inr ⟨rfl,fun _=>⟨fun n p q h1 h2=> ?_,fun n p h1 h2=> ?_,fun n p h1 h2=> ?_⟩,fun _=>⟨rfl,rfl,rfl,fun i p q h1 h2=> ?_⟩⟩)
  {rw[h1] at h2; cases h2; exact ih (hp p (Z06 h1))}
  {rw[h1] at h2; cases h2}
  {rw[h1] at h2; cases h2}
  {rw[h1] at h2; cases h2;exact ih (hp p (List.mem_of_getElem? h1))}
end
theorem R.any {f:Nat}: ∀ {up up':Bool} {a b:Sh},R false f up a b->R false f up' a b:=by
 induction f with
 | zero=>intro up up' a b h; exact h.elim
 | succ f ih=>
  intro up up' a b h;rcases h with h | h | ⟨hk,h1,h2⟩
  {exact Or.inl h}
  {exact Or.inr (Or.inl h)}
  refine Or.inr (Or.inr ⟨hk,fun h=> ?_,fun h=> ?_⟩)
  {obtain ⟨g1,g2,g3⟩:=h1 h;exact ⟨fun n p q hp hq=>ih (g1 n p q hp hq),fun n p hp hq=>absurd (g2 n p hp hq).1 (by simp),fun n q hp hq=>absurd (g3 n q hp hq).1 (by simp)⟩}
  {obtain ⟨e1,e2,e3,e4⟩:=h2 h;exact ⟨e1,e2,e3,fun i p q hp hq=>ih (e4 i p q hp hq)⟩}
theorem R.symm {f:Nat} {up up':Bool} {a b:Sh} (h:R false f up a b):R false f up' b a:=h.flip.any
theorem R.same {w:Bool} {f:Nat}: ∀ {up:Bool} {c a b:Sh},V f true c a->V f false c a->R w f up a b->R w f up c b:=by
 induction f with
 | zero=>intro up c a b h; exact h.elim
 | succ f ih=>
  intro up c a b h g k;obtain ⟨hk,h1,h2,h3⟩:=h;obtain ⟨_,i1,i2,i3⟩:=g;rcases k with k | k | ⟨kk,k1,k2⟩
  {exact Or.inl (hk.trans k)}
  {exact Or.inr (Or.inl k)}
  refine Or.inr (Or.inr ⟨hk.trans kk,fun h=> ?_,fun h=> ?_⟩)
  {obtain ⟨g1,g2,g3⟩:=k1 (hk▸h);rw[<-hk] at g2 g3;have hG: ∀n,(∀p,get c n=some p-> ∃q,get a n=some q/\V f true p q/\V f false p q)/\(∀q,get a n=some q-> ∃p,get c n=some p/\V f true p q/\V f false p q):=fun n=>by
    rcases Z13 h true with hw | hw
    {have hv:Wide false c.kind:=by rw[show false= !true from rfl,Z3v]; exact hw
     refine ⟨fun p hp=> ?_,fun q hq=> ?_⟩
     {obtain ⟨q,hq,v⟩:=i2 hv n p hp;obtain ⟨p',hp',v'⟩:=h1 hw n q hq;rw[hp] at hp'; cases hp';exact ⟨q,hq,v',v⟩}
     {obtain ⟨p,hp,v'⟩:=h1 hw n q hq;obtain ⟨q',hq',v⟩:=i2 hv n p hp;rw[hq] at hq'; cases hq';exact ⟨p,hp,v',v⟩}}
    {have hv:Narrow false c.kind:=by rw[show false= !true from rfl,Z2w]; exact hw
     refine ⟨fun p hp=> ?_,fun q hq=> ?_⟩
     {obtain ⟨q,hq,v⟩:=h2 hw n p hp;obtain ⟨p',hp',v'⟩:=i1 hv n q hq;rw[hp] at hp'; cases hp';exact ⟨q,hq,v,v'⟩}
     {obtain ⟨p,hp,v'⟩:=i1 hv n q hq;obtain ⟨q',hq',v⟩:=h2 hw n p hp;rw[hq] at hq'; cases hq';exact ⟨p,hp,v,v'⟩}}
   refine ⟨fun n p q hp hq=> ?_,fun n p hp hq=> ?_,fun n q hp hq=> ?_⟩
   {obtain ⟨r,hr,v,v'⟩:=(hG n).1 p hp;exact ih v v' (g1 n r q hr hq)}
   {obtain ⟨r,hr,_⟩:=(hG n).1 p hp;exact g2 n r hr hq}
   {cases ha:get a n with
    | none=>exact g3 n q ha hq
    | some r=>
     obtain ⟨p',hp',_⟩:=(hG n).2 r ha;rw[hp] at hp'; cases hp'}}
  {obtain ⟨e1,e2,e3,e4⟩:=h3 h;obtain ⟨_,_,_,d4⟩:=i3 h;obtain ⟨f1,f2,f3,f4⟩:=k2 (hk▸h);refine ⟨e1.trans f1,e2.trans f2,e3.trans f3,fun i p q hp hq=> ?_⟩;have hi:i < c.parts.length:=(List.getElem?_eq_some_iff.1 hp).1;have hia:i < a.parts.length:=by omega
   have h5:=e4 i p _ hp (List.getElem?_eq_getElem hia);have h7:=d4 i p _ hp (List.getElem?_eq_getElem hia);have h6:=f4 i _ q (List.getElem?_eq_getElem hia) hq;rw[<-e3] at h6;by_cases e:i+1=c.parts.length
   {rw[if_pos e] at h5 h7; exact ih h5 h7 h6}
   {rw[if_neg e] at h5 h7; exact ih h7 h5 h6}}
mutual
def known (s:Sh):Bool:=match s with | ⟨k,_,_,_,ps⟩=>decide (k≠4)&&knowns ps
def knowns:List Sh->Bool
 | []=>true
 | p::ps=>known p&&knowns ps
end
theorem known_eq (s:Sh):known s=(decide (s.kind≠4)&&knowns s.parts):=by obtain ⟨k,o,n,ns,ps⟩:=s; rw[known]
theorem knowns_mem {l:List Sh} {p:Sh} (h:knowns l=true) (hp:p∈l):known p=true:=by
 induction l with
 | nil=>cases hp
 | cons a l ih=>
  rw[knowns,Bool.and_eq_true] at h;rcases List.mem_cons.1 hp with rfl | hp
  {exact h.1}
  {exact ih h.2 hp}
def al (w:Bool) (k:Int) (first:Bool):Bool:=if first=true then k==(if w=true then 6 else 0) else k==(if w=true then 7 else 0)
theorem Zan {w:Bool} {k:Int} (h:k=6\/k=7): (al w k true=true ↔ w=true/\Narrow true k)/\(al w k false=true ↔ w=true/\Wide true k):=by
 unfold al Narrow Wide;cases w <;> rcases h with rfl | rfl <;> simp
def hstep (h:Bool->Bool) (g:Sh->Sh->Bool) (c:Cl):Bool:=
 match c with
 | (_,some p,some q)=>g p q
 | (_,some _,none)=>h true
 | (_,none,_)=>h false
def hold (w:Bool):Nat->Sh->Sh->Bool
 | 0,_,_=>false
 | f+1,a,b=>
  if a.kind=4\/b.kind=4 then true
  else if a.kind≠b.kind then false
  else if a.kind=6\/a.kind=7 then (calls a b).all (hstep (al w a.kind) (hold w f))
  else decide (a.of_=b.of_/\a.name=b.name)&&placesAll (hold w f) a.parts b.parts
theorem Z38 {w:Bool} {f:Nat}: ∀ {a b:Sh},right a=true->right b=true->(hold w f a b=true ↔ R w f true a b):=by
 induction f with
 | zero=>intro a b _ _; unfold hold R; simp
 | succ f ih=>
  intro a b ra rb;unfold hold R;by_cases h4:a.kind=4\/b.kind=4
  {rw[if_pos h4];exact ⟨fun _=>h4.elim Or.inl (fun h=>Or.inr (Or.inl h)),fun _=>rfl⟩}
  rw[if_neg h4];have h4a:a.kind≠4:=fun h=>h4 (Or.inl h);have h4b:b.kind≠4:=fun h=>h4 (Or.inr h);by_cases hk:a.kind=b.kind
  {rw[if_neg (fun h=>h hk)];by_cases h6:a.kind=6\/a.kind=7
   {have A:=Z0s (Z08 ra) h6;have B:=Z0s (Z08 rb) (hk▸h6);obtain ⟨a1,a2⟩:=Zan (w:=w) h6;rw[if_pos h6,List.all_eq_true];constructor
    {intro h;refine Or.inr (Or.inr ⟨hk,fun _=>⟨fun n p q hp hq=> ?_,fun n p hp hq=> ?_,fun n q hp hq=> ?_⟩,fun h=>absurd h6 h⟩)
     {have:=h (n,get a n,get b n) ((Z0c A B).2 ⟨rfl,rfl,Or.inl (Z0Q hp)⟩);rw[hp,hq] at this;exact (ih (Z04 ra (Z06 hp)) (Z04 rb (Z06 hq))).1 this}
     {have:=h (n,get a n,get b n) ((Z0c A B).2 ⟨rfl,rfl,Or.inl (Z0Q hp)⟩);rw[hp,hq] at this;exact a1.1 this}
     {have:=h (n,get a n,get b n) ((Z0c A B).2 ⟨rfl,rfl,Or.inr (Z0Q hq)⟩);rw[hp,hq] at this;exact a2.1 this}}
    {intro h;rcases h with h | h | ⟨_,h,_⟩
     {exact absurd h h4a}
     {exact absurd h h4b}
     obtain ⟨g1,g2,g3⟩:=h h6;rintro ⟨n,x,y⟩ hc;obtain ⟨rfl,rfl,hn⟩:=(Z0c A B).1 hc;cases hp:get a n with
     | none=>
      cases hq:get b n with
      | none=>
       rcases hn with hn | hn
       {exact absurd hn (A.get_none.1 hp)}
       {exact absurd hn (B.get_none.1 hq)}
      | some q=>exact a2.2 (g3 n q hp hq)
     | some p=>
      cases hq:get b n with
      | none=>exact a1.2 (g2 n p hp hq)
      | some q=>exact (ih (Z04 ra (Z06 hp)) (Z04 rb (Z06 hq))).2 (g1 n p q hp hq)}}
   {rw[if_neg h6,Bool.and_eq_true,decide_eq_true_eq,Z24];constructor
    {rintro ⟨⟨h1,h2⟩,h3,h4⟩;refine Or.inr (Or.inr ⟨hk,fun h=>absurd h h6,fun _=>⟨h1,h2,h3,fun i p q hp hq=> ?_⟩⟩);have:=h4 i p q hp hq;have rp:=Z04 ra (List.mem_of_getElem? hp);have rq:=Z04 rb (List.mem_of_getElem? hq);by_cases e:i+1=a.parts.length
     {rw[if_pos e] at this ⊢; exact (ih rp rq).1 this}
     {rw[if_neg e] at this ⊢; exact ((ih rq rp).1 this).flip}}
    {intro h;rcases h with h | h | ⟨_,_,h⟩
     {exact absurd h h4a}
     {exact absurd h h4b}
     obtain ⟨h1,h2,h3,h4⟩:=h h6;refine ⟨⟨h1,h2⟩,h3,fun i p q hp hq=> ?_⟩;have:=h4 i p q hp hq;have rp:=Z04 ra (List.mem_of_getElem? hp);have rq:=Z04 rb (List.mem_of_getElem? hq);by_cases e:i+1=a.parts.length
     {rw[if_pos e] at this ⊢; exact (ih rp rq).2 this}
     {rw[if_neg e] at this ⊢; exact (ih rq rp).2 (R.flip_iff.2 this)}}}}
  {rw[if_pos hk];constructor
   {intro h; cases h}
   {intro h;rcases h with h | h | ⟨h,_⟩
    {exact absurd h h4a}
    {exact absurd h h4b}
    {exact absurd h hk}}}
def nstep (g:Sh->Sh->Sh) (c:Cl):Option Fld:=
 match c with
 | (n,some p,some q)=>some (n,g p q)
 | (n,none,some q)=>some (n,q)
 | (_,_,none)=>none
def named:Nat->Sh->Sh->Sh
 | 0,s,_=>s
 | f+1,s,t=>
  if s.kind=4\/t.kind=4 then s
  else if s.kind=6\/s.kind=7 then ⟨s.kind,s.of_,s.name,((calls s t).filterMap (nstep (named f))).map Prod.fst,((calls s t).filterMap (nstep (named f))).map Prod.snd⟩
  else ⟨s.kind,s.of_,s.name,[],List.zipWith (named f) s.parts t.parts⟩
theorem nstep_fst {g:Sh->Sh->Sh} {c:Cl} {x:Fld} (h:nstep g c=some x):x.1=c.1:=by
 unfold nstep at h;split at h
 {cases h; rfl}
 {cases h; rfl}
 {cases h}
def near (a b:Sh):Bool:=decide (check a=0)&&decide (check b=0)&&hold true 40 a b
def alike (a b:Sh):Bool:=decide (check a=0)&&decide (check b=0)&&hold false 40 a b
def plain (a:Sh):Bool:=decide (check a=0)&&known a
def between (a b:Sh):Option Sh:=if near a b=true then whole (some (named 40 a b)) else none
theorem near_iff {a b:Sh}:near a b=true ↔ check a=0/\check b=0/\R true 40 true a b:=by
 unfold near;rw[Bool.and_eq_true,Bool.and_eq_true,decide_eq_true_eq,decide_eq_true_eq];constructor
 {rintro ⟨⟨ca,cb⟩,h⟩; exact ⟨ca,cb,(Z38 (Z05 ca).2.2 (Z05 cb).2.2).1 h⟩}
 {rintro ⟨ca,cb,h⟩; exact ⟨⟨ca,cb⟩,(Z38 (Z05 ca).2.2 (Z05 cb).2.2).2 h⟩}
theorem Z1N {a b:Sh}:below a b=true ↔ check a=0/\check b=0/\V 40 true a b:=by
 constructor
 {intro h;obtain ⟨ca,cb⟩:=Z80 h;exact ⟨ca,cb,(Z51 ca cb).1 h⟩}
 {rintro ⟨ca,cb,h⟩; exact (Z51 ca cb).2 h}
end
end Grd
namespace Lex
section
def join:List (List UInt8)->List UInt8
 | []=> []
 | [p]=>p
 | p::q::ps=>p++32::join (q::ps)
def Placed (s:List UInt8):Nat->List (Tok×Nat)->Prop
 | a,[]=>a<=s.length
 | a,(t,p)::r=>a<=p/\p<=s.length/\1<=t.kind/\t.kind<=7/\(t.kind=4->Placed s (p+2) r)/\(t.kind≠4->p+t.text.length<=s.length/\(s.drop p).take t.text.length=t.text/\Placed s (p+t.text.length) r)
theorem Placed.less {s:List UInt8} {a b:Nat} (hab:b<=a): ∀ {l:List (Tok×Nat)},Placed s a l->Placed s b l
 | [],h=>Nat.le_trans hab h
 | (t,p)::r,h=>by
  obtain ⟨h1,h2⟩:=h;exact ⟨Nat.le_trans hab h1,h2⟩
end
end Lex
