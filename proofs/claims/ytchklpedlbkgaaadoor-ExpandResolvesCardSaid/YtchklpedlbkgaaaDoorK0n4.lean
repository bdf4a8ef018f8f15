/- What the proofs of ExpandResolves want, part 4. -/
import Derived.Lib.SmallJoins
import Derived.Test.YtchklpedlbkgaaaDoorK0n3
set_option linter.unusedVariables false
set_option linter.unusedSimpArgs false
set_option linter.unusedSectionVars false
set_option maxRecDepth 100000
set_option maxHeartbeats 16000000
namespace Go.Proofs.YtchklpedlbkgaaaDoor
section
open Go.RowKit Shp
def fv (t:Sh) (q:Ptr):Value:= .agg (Y8 t q)
section
variable (t : Sh) (q : Ptr) (w : World)
include t q w
theorem Z50:Calls Tryd.prog 115 #[.agg #[.int .i64 t.kind,.string ⟨t.of_.toArray⟩,.string ⟨t.name.toArray⟩,.slice q.A t.names.length q.c,.slice q.P t.parts.length q.d]] w fun e w'=>e= .returned (.int .i64 (t.names.length:Int))/\Below w.heap.size w w':=by
  go_enter Tryd.func115,Tryd.ntmps115;go_wp2;go_ret;exact ⟨rfl,Z00 _ _⟩
theorem fmL:Sem.run Tryd.prog (method (Tryd.prog.types.size+100) 92 (.agg #[.int .i64 t.kind,.string ⟨t.of_.toArray⟩,.string ⟨t.name.toArray⟩,.slice q.A t.names.length q.c,.slice q.P t.parts.length q.d]) "Less") w= .ok (116,.agg #[.int .i64 t.kind,.string ⟨t.of_.toArray⟩,.string ⟨t.name.toArray⟩,.slice q.A t.names.length q.c,.slice q.P t.parts.length q.d]) w:=by kernel_rfl
theorem fmS:Sem.run Tryd.prog (method (Tryd.prog.types.size+100) 92 (.agg #[.int .i64 t.kind,.string ⟨t.of_.toArray⟩,.string ⟨t.name.toArray⟩,.slice q.A t.names.length q.c,.slice q.P t.parts.length q.d]) "Swap") w= .ok (117,.agg #[.int .i64 t.kind,.string ⟨t.of_.toArray⟩,.string ⟨t.name.toArray⟩,.slice q.A t.names.length q.c,.slice q.P t.parts.length q.d]) w:=by kernel_rfl
theorem fmN:Sem.run Tryd.prog (method (Tryd.prog.types.size+100) 92 (.agg #[.int .i64 t.kind,.string ⟨t.of_.toArray⟩,.string ⟨t.name.toArray⟩,.slice q.A t.names.length q.c,.slice q.P t.parts.length q.d]) "Len") w= .ok (115,.agg #[.int .i64 t.kind,.string ⟨t.of_.toArray⟩,.string ⟨t.name.toArray⟩,.slice q.A t.names.length q.c,.slice q.P t.parts.length q.d]) w:=by kernel_rfl
end
theorem Z8a (K:Int) (o m:ByteArray) (bn n c d:Nat) (P:Option Addr) (l:Nat) (x y:List UInt8) (i j:Nat) (w:World) (hi:i < n) (hj:j < n) (hn:n < 1000000) (hb:bn < w.heap.size)
 (c1:w.cell? ⟨bn,i,none⟩=some (.string ⟨x.toArray⟩)) (c2:w.cell? ⟨bn,j,none⟩=some (.string ⟨y.toArray⟩)):
 Y9 116 #[.agg #[.int .i64 K,.string o,.string m,.slice (some ⟨bn,0,none⟩) n c,.slice P l d],.int .i64 i,.int .i64 j] w (.bool (decide (x < y))):=by
 have k1:=((Z00 w (.cells #[.int .i64 K,.string o,.string m,.slice (some ⟨bn,0,none⟩) n c,.slice P l d] 92)).cell (p:=⟨bn,i,none⟩) hb).trans c1;have k2:=((Z00 w (.cells #[.int .i64 K,.string o,.string m,.slice (some ⟨bn,0,none⟩) n c,.slice P l d] 92)).cell (p:=⟨bn,j,none⟩) hb).trans c2;have b3: (w.alloc (.cells #[.int .i64 K,.string o,.string m,.slice (some ⟨bn,0,none⟩) n c,.slice P l d] 92)).cell? ⟨w.heap.size,3,none⟩=some (.slice (some ⟨bn,0,none⟩) n c):=by rw[World.cell?_alloc_at _ _ _ _ rfl]; rfl
 have HW:=Z00 w (.cells #[.int .i64 K,.string o,.string m,.slice (some ⟨bn,0,none⟩) n c,.slice P l d] 92);clear c1 c2;go_enter Tryd.func116,Tryd.ntmps116
 go_upto_region 1 with fail
 generalize w.alloc (.cells #[.int .i64 K,.string o,.string m,.slice (some ⟨bn,0,none⟩) n c,.slice P l d] 92)=W0 at k1 k2 b3 HW ⊢;have HW0:Hid _:=HW;clear HW
 go_quiet (fail)
 go_wp2;go_ret;exact ⟨(show Ending.returned (.bool (Op.bytesLess x.toArray.toList y.toArray.toList))=_ from by rw[Z3K]),Z0E HW0.out _⟩
def set5 (W:World) (b o:Nat) (a0 a1 a2 a3 a4:Value):World:=((((W.setCell ⟨b,o,none⟩ a0).setCell ⟨b,o+1,none⟩ a1).setCell ⟨b,o+2,none⟩ a2).setCell ⟨b,o+3,none⟩ a3).setCell ⟨b,o+4,none⟩ a4
theorem Z8b (K:Int) (o m:ByteArray) (bn n c bp l d:Nat) (x y:ByteArray) (i j:Nat) (uk vk:Int) (u1 u2 v1 v2:ByteArray) (uA uP vA vP:Option Addr) (un uc um ud vn vc vm vd:Nat) (w:World) (hi:i < n) (hj:j < n) (hl:n<=l) (hn:l < 1000000) (hb:bn < w.heap.size) (hp:bp < w.heap.size) (hne:bn≠bp)
 (c1:w.cell? ⟨bn,i,none⟩=some (.string x)) (c2:w.cell? ⟨bn,j,none⟩=some (.string y)) (f1: ∀k,w.frozen? ⟨bn,k,none⟩=false) (f2: ∀k,w.frozen? ⟨bp,k,none⟩=false)
 (p0:w.cell? ⟨bp,i * 5,none⟩=some (.int .i64 uk)) (r0:w.cell? ⟨bp,j * 5,none⟩=some (.int .i64 vk))
 (p1:w.cell? ⟨bp,i * 5+1,none⟩=some (.string u1)) (r1:w.cell? ⟨bp,j * 5+1,none⟩=some (.string v1))
 (p2:w.cell? ⟨bp,i * 5+2,none⟩=some (.string u2)) (r2:w.cell? ⟨bp,j * 5+2,none⟩=some (.string v2))
 (p3:w.cell? ⟨bp,i * 5+3,none⟩=some (.slice uA un uc)) (r3:w.cell? ⟨bp,j * 5+3,none⟩=some (.slice vA vn vc))
 (p4:w.cell? ⟨bp,i * 5+4,none⟩=some (.slice uP um ud)) (r4:w.cell? ⟨bp,j * 5+4,none⟩=some (.slice vP vm vd)):
 Calls Tryd.prog 117 #[.agg #[.int .i64 K,.string o,.string m,.slice (some ⟨bn,0,none⟩) n c,.slice (some ⟨bp,0,none⟩) l d],.int .i64 i,.int .i64 j] w fun e w'=>e= .returned (.tuple #[])/\ ∃W0,Below w.heap.size w W0/\
  w'=(set5 (set5 (((W0.setCell ⟨bn,i,none⟩ (.string y)).setCell ⟨bn,j,none⟩ (.string x)).drew) bp (i * 5) (.int .i64 vk) (.string v1) (.string v2) (.slice vA vn vc) (.slice vP vm vd)) bp (j * 5) (.int .i64 uk) (.string u1) (.string u2) (.slice uA un uc) (.slice uP um ud)).drew:=by
 have HW:=Z00 w (.cells #[.int .i64 K,.string o,.string m,.slice (some ⟨bn,0,none⟩) n c,.slice (some ⟨bp,0,none⟩) l d] 92);have b3: (w.alloc (.cells #[.int .i64 K,.string o,.string m,.slice (some ⟨bn,0,none⟩) n c,.slice (some ⟨bp,0,none⟩) l d] 92)).cell? ⟨w.heap.size,3,none⟩=some (.slice (some ⟨bn,0,none⟩) n c):=by rw[World.cell?_alloc_at _ _ _ _ rfl]; rfl
 have b4: (w.alloc (.cells #[.int .i64 K,.string o,.string m,.slice (some ⟨bn,0,none⟩) n c,.slice (some ⟨bp,0,none⟩) l d] 92)).cell? ⟨w.heap.size,4,none⟩=some (.slice (some ⟨bp,0,none⟩) l d):=by rw[World.cell?_alloc_at _ _ _ _ rfl]; rfl
 have F1:=fun k=>(HW.frozen (p:=⟨bn,k,none⟩) hb).trans (f1 k);have F2:=fun k=>(HW.frozen (p:=⟨bp,k,none⟩) hp).trans (f2 k);have k1:=(HW.cell (p:=⟨bn,i,none⟩) hb).trans c1;have k2:=(HW.cell (p:=⟨bn,j,none⟩) hb).trans c2;clear c1 c2 f1 f2;go_enter Tryd.func117,Tryd.ntmps117
 go_upto_region 1 with fail
 generalize w.alloc (.cells #[.int .i64 K,.string o,.string m,.slice (some ⟨bn,0,none⟩) n c,.slice (some ⟨bp,0,none⟩) l d] 92)=W0 at k1 k2 b3 b4 F1 F2 HW ⊢;have HW0:Hid _:=HW;clear HW;generalize hg:w.heap.size=g at b3 b4 ⊢;have q1:=F1 i;have q2:=F1 j;obtain ⟨v',hy'⟩:=cell?_setCell_some (w:=W0) (p:=⟨bn,i,none⟩) (x:= .string y) (q:=⟨bn,j,none⟩) k2;have HF1:Hid _:=F1;have HF2:Hid _:=F2;clear F1 F2
 go_region
 have hgn:bn≠g:=by omega
 have hgp:bp≠g:=by omega
 have b40:=b4;have b4': (((W0.setCell ⟨bn,i,none⟩ (.string y)).setCell ⟨bn,j,none⟩ (.string x)).drew).cell? ⟨g,4,none⟩=some (.slice (some ⟨bp,0,none⟩) l d):=by
  rw[World.cell?_drew,World.cell?_setCell_far _ _ _ _ (by assumption),World.cell?_setCell_far _ _ _ _ (by assumption)]; exact b40
 have P00:=(HW0.out.cell (p:=⟨bp,i * 5,none⟩) hp).trans p0;have R00:=(HW0.out.cell (p:=⟨bp,j * 5,none⟩) hp).trans r0;have P0: (((W0.setCell ⟨bn,i,none⟩ (.string y)).setCell ⟨bn,j,none⟩ (.string x)).drew).cell? ⟨bp,i * 5,none⟩=some (.int .i64 uk):=by
  rw[World.cell?_drew,World.cell?_setCell_far _ _ _ _ (by assumption),World.cell?_setCell_far _ _ _ _ (by assumption)]; exact P00
 have R0: (((W0.setCell ⟨bn,i,none⟩ (.string y)).setCell ⟨bn,j,none⟩ (.string x)).drew).cell? ⟨bp,j * 5,none⟩=some (.int .i64 vk):=by
  rw[World.cell?_drew,World.cell?_setCell_far _ _ _ _ (by assumption),World.cell?_setCell_far _ _ _ _ (by assumption)]; exact R00
 have P10:=(HW0.out.cell (p:=⟨bp,i * 5+1,none⟩) hp).trans p1;have R10:=(HW0.out.cell (p:=⟨bp,j * 5+1,none⟩) hp).trans r1;have P1: (((W0.setCell ⟨bn,i,none⟩ (.string y)).setCell ⟨bn,j,none⟩ (.string x)).drew).cell? ⟨bp,i * 5+1,none⟩=some (.string u1):=by
  rw[World.cell?_drew,World.cell?_setCell_far _ _ _ _ (by assumption),World.cell?_setCell_far _ _ _ _ (by assumption)]; exact P10
 have R1: (((W0.setCell ⟨bn,i,none⟩ (.string y)).setCell ⟨bn,j,none⟩ (.string x)).drew).cell? ⟨bp,j * 5+1,none⟩=some (.string v1):=by
  rw[World.cell?_drew,World.cell?_setCell_far _ _ _ _ (by assumption),World.cell?_setCell_far _ _ _ _ (by assumption)]; exact R10
 have P20:=(HW0.out.cell (p:=⟨bp,i * 5+2,none⟩) hp).trans p2;have R20:=(HW0.out.cell (p:=⟨bp,j * 5+2,none⟩) hp).trans r2;have P2: (((W0.setCell ⟨bn,i,none⟩ (.string y)).setCell ⟨bn,j,none⟩ (.string x)).drew).cell? ⟨bp,i * 5+2,none⟩=some (.string u2):=by
  rw[World.cell?_drew,World.cell?_setCell_far _ _ _ _ (by assumption),World.cell?_setCell_far _ _ _ _ (by assumption)]; exact P20
 have R2: (((W0.setCell ⟨bn,i,none⟩ (.string y)).setCell ⟨bn,j,none⟩ (.string x)).drew).cell? ⟨bp,j * 5+2,none⟩=some (.string v2):=by
  rw[World.cell?_drew,World.cell?_setCell_far _ _ _ _ (by assumption),World.cell?_setCell_far _ _ _ _ (by assumption)]; exact R20
 have P30:=(HW0.out.cell (p:=⟨bp,i * 5+3,none⟩) hp).trans p3;have R30:=(HW0.out.cell (p:=⟨bp,j * 5+3,none⟩) hp).trans r3;have P3: (((W0.setCell ⟨bn,i,none⟩ (.string y)).setCell ⟨bn,j,none⟩ (.string x)).drew).cell? ⟨bp,i * 5+3,none⟩=some (.slice uA un uc):=by
  rw[World.cell?_drew,World.cell?_setCell_far _ _ _ _ (by assumption),World.cell?_setCell_far _ _ _ _ (by assumption)]; exact P30
 have R3: (((W0.setCell ⟨bn,i,none⟩ (.string y)).setCell ⟨bn,j,none⟩ (.string x)).drew).cell? ⟨bp,j * 5+3,none⟩=some (.slice vA vn vc):=by
  rw[World.cell?_drew,World.cell?_setCell_far _ _ _ _ (by assumption),World.cell?_setCell_far _ _ _ _ (by assumption)]; exact R30
 have P40:=(HW0.out.cell (p:=⟨bp,i * 5+4,none⟩) hp).trans p4;have R40:=(HW0.out.cell (p:=⟨bp,j * 5+4,none⟩) hp).trans r4;have P4: (((W0.setCell ⟨bn,i,none⟩ (.string y)).setCell ⟨bn,j,none⟩ (.string x)).drew).cell? ⟨bp,i * 5+4,none⟩=some (.slice uP um ud):=by
  rw[World.cell?_drew,World.cell?_setCell_far _ _ _ _ (by assumption),World.cell?_setCell_far _ _ _ _ (by assumption)]; exact P40
 have R4: (((W0.setCell ⟨bn,i,none⟩ (.string y)).setCell ⟨bn,j,none⟩ (.string x)).drew).cell? ⟨bp,j * 5+4,none⟩=some (.slice vP vm vd):=by
  rw[World.cell?_drew,World.cell?_setCell_far _ _ _ _ (by assumption),World.cell?_setCell_far _ _ _ _ (by assumption)]; exact R40
 clear P00 P10 P20 P30 P40 R00 R10 R20 R30 R40 b40 p0 p1 p2 p3 p4 r0 r1 r2 r3 r4;have G2: ∀k,(((W0.setCell ⟨bn,i,none⟩ (.string y)).setCell ⟨bn,j,none⟩ (.string x)).drew).frozen? ⟨bp,k,none⟩=false:=fun k=>by rw[World.frozen?_drew]; simpa using HF2.out k
 clear b3 q1 q2 k1 k2
 go_upto_region 2 with fail
 generalize hW1: (((W0.setCell ⟨bn,i,none⟩ (.string y)).setCell ⟨bn,j,none⟩ (.string x)).drew)=W1 at b4' P0 P1 P2 P3 P4 R0 R1 R2 R3 R4 G2 ⊢;have HW1:Hid _:=hW1;clear hW1 b4 hy';have g0:=G2 (i * 5);have h0:=G2 (j * 5);have g1:=G2 (i * 5+1);have h1:=G2 (j * 5+1);have g2:=G2 (i * 5+2);have h2:=G2 (j * 5+2);have g3:=G2 (i * 5+3);have h3:=G2 (j * 5+3);have g4:=G2 (i * 5+4);have h4:=G2 (j * 5+4);clear G2;have EX0: ∃v,(W1.setCell ⟨bp,i * 5,none⟩ (.int .i64 vk)).cell? ⟨bp,j * 5,none⟩=some v:=by
  obtain ⟨e10,E10⟩:=cell?_setCell_some (w:=W1) (p:=⟨bp,i * 5,none⟩) (x:=(.int .i64 vk)) (q:=⟨bp,j * 5,none⟩) R0;exact ⟨_,E10⟩
 obtain ⟨e0,E0⟩:=EX0;have EX1: ∃v,((W1.setCell ⟨bp,i * 5,none⟩ (.int .i64 vk)).setCell ⟨bp,i * 5+1,none⟩ (.string v1)).cell? ⟨bp,j * 5+1,none⟩=some v:=by
  obtain ⟨e11,E11⟩:=cell?_setCell_some (w:=W1) (p:=⟨bp,i * 5,none⟩) (x:=(.int .i64 vk)) (q:=⟨bp,j * 5+1,none⟩) R1;obtain ⟨e21,E21⟩:=cell?_setCell_some (w:=(W1.setCell ⟨bp,i * 5,none⟩ (.int .i64 vk))) (p:=⟨bp,i * 5+1,none⟩) (x:=(.string v1)) (q:=⟨bp,j * 5+1,none⟩) E11;exact ⟨_,E21⟩
 obtain ⟨e1,E1⟩:=EX1;have EX2: ∃v,(((W1.setCell ⟨bp,i * 5,none⟩ (.int .i64 vk)).setCell ⟨bp,i * 5+1,none⟩ (.string v1)).setCell ⟨bp,i * 5+2,none⟩ (.string v2)).cell? ⟨bp,j * 5+2,none⟩=some v:=by
  obtain ⟨e12,E12⟩:=cell?_setCell_some (w:=W1) (p:=⟨bp,i * 5,none⟩) (x:=(.int .i64 vk)) (q:=⟨bp,j * 5+2,none⟩) R2;obtain ⟨e22,E22⟩:=cell?_setCell_some (w:=(W1.setCell ⟨bp,i * 5,none⟩ (.int .i64 vk))) (p:=⟨bp,i * 5+1,none⟩) (x:=(.string v1)) (q:=⟨bp,j * 5+2,none⟩) E12;obtain ⟨e32,E32⟩:=cell?_setCell_some (w:=((W1.setCell ⟨bp,i * 5,none⟩ (.int .i64 vk)).setCell ⟨bp,i * 5+1,none⟩ (.string v1))) (p:=⟨bp,i * 5+2,none⟩) (x:=(.string v2)) (q:=⟨bp,j * 5+2,none⟩) E22;exact ⟨_,E32⟩
 obtain ⟨e2,E2⟩:=EX2;have EX3: ∃v,((((W1.setCell ⟨bp,i * 5,none⟩ (.int .i64 vk)).setCell ⟨bp,i * 5+1,none⟩ (.string v1)).setCell ⟨bp,i * 5+2,none⟩ (.string v2)).setCell ⟨bp,i * 5+3,none⟩ (.slice vA vn vc)).cell? ⟨bp,j * 5+3,none⟩=some v:=by
  obtain ⟨e13,E13⟩:=cell?_setCell_some (w:=W1) (p:=⟨bp,i * 5,none⟩) (x:=(.int .i64 vk)) (q:=⟨bp,j * 5+3,none⟩) R3;obtain ⟨e23,E23⟩:=cell?_setCell_some (w:=(W1.setCell ⟨bp,i * 5,none⟩ (.int .i64 vk))) (p:=⟨bp,i * 5+1,none⟩) (x:=(.string v1)) (q:=⟨bp,j * 5+3,none⟩) E13;obtain ⟨e33,E33⟩:=cell?_setCell_some (w:=((W1.setCell ⟨bp,i * 5,none⟩ (.int .i64 vk)).setCell ⟨bp,i * 5+1,none⟩ (.string v1))) (p:=⟨bp,i * 5+2,none⟩) (x:=(.string v2)) (q:=⟨bp,j * 5+3,none⟩) E23;obtain ⟨e43,E43⟩:=cell?_setCell_some (w:=(((W1.setCell ⟨bp,i * 5,none⟩ (.int .i64 vk)).setCell ⟨bp,i * 5+1,none⟩ (.string v1)).setCell ⟨bp,i * 5+2,none⟩ (.string v2))) (p:=⟨bp,i * 5+3,none⟩) (x:=(.slice vA vn vc)) (q:=⟨bp,j * 5+3,none⟩) E33;exact ⟨_,E43⟩
 obtain ⟨e3,E3⟩:=EX3;have EX4: ∃v,(((((W1.setCell ⟨bp,i * 5,none⟩ (.int .i64 vk)).setCell ⟨bp,i * 5+1,none⟩ (.string v1)).setCell ⟨bp,i * 5+2,none⟩ (.string v2)).setCell ⟨bp,i * 5+3,none⟩ (.slice vA vn vc)).setCell ⟨bp,i * 5+4,none⟩ (.slice vP vm vd)).cell? ⟨bp,j * 5+4,none⟩=some v:=by
  obtain ⟨e14,E14⟩:=cell?_setCell_some (w:=W1) (p:=⟨bp,i * 5,none⟩) (x:=(.int .i64 vk)) (q:=⟨bp,j * 5+4,none⟩) R4;obtain ⟨e24,E24⟩:=cell?_setCell_some (w:=(W1.setCell ⟨bp,i * 5,none⟩ (.int .i64 vk))) (p:=⟨bp,i * 5+1,none⟩) (x:=(.string v1)) (q:=⟨bp,j * 5+4,none⟩) E14;obtain ⟨e34,E34⟩:=cell?_setCell_some (w:=((W1.setCell ⟨bp,i * 5,none⟩ (.int .i64 vk)).setCell ⟨bp,i * 5+1,none⟩ (.string v1))) (p:=⟨bp,i * 5+2,none⟩) (x:=(.string v2)) (q:=⟨bp,j * 5+4,none⟩) E24;obtain ⟨e44,E44⟩:=cell?_setCell_some (w:=(((W1.setCell ⟨bp,i * 5,none⟩ (.int .i64 vk)).setCell ⟨bp,i * 5+1,none⟩ (.string v1)).setCell ⟨bp,i * 5+2,none⟩ (.string v2))) (p:=⟨bp,i * 5+3,none⟩) (x:=(.slice vA vn vc)) (q:=⟨bp,j * 5+4,none⟩) E34;obtain ⟨e54,E54⟩:=cell?_setCell_some (w:=((((W1.setCell ⟨bp,i * 5,none⟩ (.int .i64 vk)).setCell ⟨bp,i * 5+1,none⟩ (.string v1)).setCell ⟨bp,i * 5+2,none⟩ (.string v2)).setCell ⟨bp,i * 5+3,none⟩ (.slice vA vn vc))) (p:=⟨bp,i * 5+4,none⟩) (x:=(.slice vP vm vd)) (q:=⟨bp,j * 5+4,none⟩) E44;exact ⟨_,E54⟩
 obtain ⟨e4,E4⟩:=EX4;have hi2:i < l:=by omega
 have hj2:j < l:=by omega
 go_region
 go_end0
 refine ⟨rfl,W0,HW0.out, ?_⟩;rw[<-HW1.out];rfl
end
section
open Go.RowKit Shp Go.Sort
structure El where
 n:List UInt8
 t:Sh
 q:Ptr
 F:List Nat
instance:Inhabited El:=⟨⟨[],⟨0,[],[],[],[]⟩,⟨none,0,none,0⟩,[]⟩⟩
def ltEl (a b:El):Bool:=decide (a.n < b.n)
theorem Z9v:SWO ltEl:=⟨fun x=>swo_ltStr.irrefl x.n,fun x y z=>swo_ltStr.trans x.n y.n z.n,fun x y z=>swo_ltStr.ntrans x.n y.n z.n⟩
structure Up2 (bn bp:Nat) (w w':World):Prop where
 os:w'.os=w.os
 tape:w'.tape=w.tape
 output:w'.output=w.output
 size:w.heap.size<=w'.heap.size
 block: ∀k,k < w.heap.size->k≠bn->k≠bp->w'.heap[k]? =w.heap[k]?
theorem Up2.refl (bn bp:Nat) (w:World):Up2 bn bp w w:=⟨rfl,rfl,rfl,Nat.le_refl _,fun _ _ _ _=>rfl⟩
theorem Up2.below {bn bp:Nat} {a b c:World} (h:Up2 bn bp a b) (k:Below a.heap.size b c):Up2 bn bp a c:=
 ⟨k.os.trans h.os,k.tape.trans h.tape,k.output.trans h.output,Nat.le_trans h.size k.size,fun x h1 h2 h3=>(k.block x h1).trans (h.block x h1 h2 h3)⟩
theorem Up2.set {bn bp:Nat} {a b:World} (h:Up2 bn bp a b) {p:Addr} (hp:p.block=bn\/p.block=bp) (v:Value):Up2 bn bp a (b.setCell p v):=
 ⟨h.os,h.tape,h.output,by simpa[World.setCell] using h.size,fun x h1 h2 h3=>(Below.heap_setCell _ _ _ _ (fun e=>by rcases hp with e2 | e2 <;> omega)).trans (h.block x h1 h2 h3)⟩
theorem Up2.drew {bn bp:Nat} {a b:World} (h:Up2 bn bp a b):Up2 bn bp a b.drew:=⟨h.os,h.tape,h.output,h.size,h.block⟩
theorem Up2.set5 {bn bp:Nat} {a b:World} (h:Up2 bn bp a b) (o:Nat) (a0 a1 a2 a3 a4:Value):Up2 bn bp a (set5 b bp o a0 a1 a2 a3 a4):=
 ((((h.set (Or.inr rfl) _).set (Or.inr rfl) _).set (Or.inr rfl) _).set (Or.inr rfl) _).set (Or.inr rfl) _
theorem Z5O (W:World) (b o:Nat) (a0 a1 a2 a3 a4:Value) (x:Addr) (h:b≠x.block): (set5 W b o a0 a1 a2 a3 a4).cell? x=W.cell? x:=by
 unfold set5;rw[World.cell?_setCell_far _ _ _ _ h,World.cell?_setCell_far _ _ _ _ h,World.cell?_setCell_far _ _ _ _ h,World.cell?_setCell_far _ _ _ _ h,World.cell?_setCell_far _ _ _ _ h]
theorem Zbu {b x y:Nat} (h:x≠y): (⟨b,x,none⟩:Addr)≠⟨b,y,none⟩:=fun e=>h (by injection e)
theorem so {W:World} {b x y:Nat} {v:Value} (h:x≠y): (W.setCell ⟨b,x,none⟩ v).cell? ⟨b,y,none⟩=W.cell? ⟨b,y,none⟩:=World.cell?_setCell_other _ _ _ _ (Zbu h)
theorem ss {W:World} {b x:Nat} {v u:Value} (h:W.cell? ⟨b,x,none⟩=some u): (W.setCell ⟨b,x,none⟩ v).cell? ⟨b,x,none⟩=some v:=World.cell?_setCell_same _ _ _ h
theorem ZaB (W:World) (b o:Nat) (a0 a1 a2 a3 a4:Value) (x:Nat) (h:x < o\/o+4 < x): (set5 W b o a0 a1 a2 a3 a4).cell? ⟨b,x,none⟩=W.cell? ⟨b,x,none⟩:=by
 unfold set5;rw[so,so,so,so,so] <;> omega
theorem Z3M (W:World) (b o:Nat) (t:Sh) (q:Ptr) (t':Sh) (q':Ptr) (h:Sh5 W b o t' q'):
 Sh5 (set5 W b o (.int .i64 t.kind) (.string ⟨t.of_.toArray⟩) (.string ⟨t.name.toArray⟩) (.slice q.A t.names.length q.c) (.slice q.P t.parts.length q.d)) b o t q:=by
 obtain ⟨h0,h1,h2,h3,h4⟩:=h;unfold set5;refine ⟨?_, ?_, ?_, ?_, ?_⟩
 {rw[so,so,so,so]
  {exact ss h0}
  all_goals omega}
 {rw[so,so,so]
  {exact ss ((so (by omega)).trans h1)}
  all_goals omega}
 {rw[so,so]
  {exact ss ((so (by omega)).trans ((so (by omega)).trans h2))}
  all_goals omega}
 {rw[so]
  {exact ss ((so (by omega)).trans ((so (by omega)).trans ((so (by omega)).trans h3)))}
  all_goals omega}
 {exact ss ((so (by omega)).trans ((so (by omega)).trans ((so (by omega)).trans ((so (by omega)).trans h4))))}
theorem Z34 (W:World) (b i k:Nat) (a0 a1 a2 a3 a4:Value) (t:Sh) (q:Ptr) (hne:k≠i) (h:Sh5 W b (k * 5) t q):Sh5 (set5 W b (i * 5) a0 a1 a2 a3 a4) b (k * 5) t q:=by
 obtain ⟨h0,h1,h2,h3,h4⟩:=h;refine ⟨?_, ?_, ?_, ?_, ?_⟩ <;> rw[ZaB _ _ _ _ _ _ _ _ _ (by omega)] <;> assumption
structure FSt (w0:World) (bn bp N:Nat) (d:Array El) (w:World):Prop where
 size:d.size=N
 tx: ∀i,i < N->w.cell? ⟨bn,i,none⟩=some (.string ⟨(d[i]!).n.toArray⟩)
 pa: ∀i,i < N->Sh5 w bp (i * 5) (d[i]!).t (d[i]!).q
 fn: ∀k,w.frozen? ⟨bn,k,none⟩=false
 fp: ∀k,w.frozen? ⟨bp,k,none⟩=false
 ln:bn < w0.heap.size
 lp:bp < w0.heap.size
 ne:bn≠bp
 up:Up2 bn bp w0 w
theorem FSt.keep {w0:World} {bn bp N:Nat} {d:Array El} {w w':World} (h:FSt w0 bn bp N d w) (hb:Below w0.heap.size w w'):FSt w0 bn bp N d w':=
 ⟨h.size,fun i hi=>(hb.cell (p:=⟨bn,i,none⟩) h.ln).trans (h.tx i hi),fun i hi=>(h.pa i hi).of (fun k=>hb.cell (p:=⟨bp,k,none⟩) h.lp),fun k=>(hb.frozen (p:=⟨bn,k,none⟩) h.ln).trans (h.fn k),
  fun k=>(hb.frozen (p:=⟨bp,k,none⟩) h.lp).trans (h.fp k),h.ln,h.lp,h.ne,h.up.below hb⟩
theorem Z51 {W:World} {b o c:Nat} {t:Sh} {q:Ptr} {v:Value} {x:Nat} (hne:b≠c) (h:Sh5 W c o t q):Sh5 (W.setCell ⟨b,x,none⟩ v) c o t q:=
 h.of fun k=>World.cell?_setCell_far _ _ _ _ hne
theorem Z8c (w0:World) (bn bp N:Nat) (K:Int) (o m:List UInt8) (c l dd:Nat) (hN:N < 400000) (hl:N<=l) (hl2:l < 1000000):
 Srt N w0.heap.size (.agg #[.int .i64 K,.string ⟨o.toArray⟩,.string ⟨m.toArray⟩,.slice (some ⟨bn,0,none⟩) N c,.slice (some ⟨bp,0,none⟩) l dd]) ltEl (FSt w0 bn bp N) where
 less d w i j h hi0 hi hj0 hj:=by
  obtain ⟨a,rfl⟩:=Int.eq_ofNat_of_zero_le hi0;obtain ⟨b,rfl⟩:=Int.eq_ofNat_of_zero_le hj0;have ha:a < N:=by omega
  have hb:b < N:=by omega
  refine (Z8a K ⟨o.toArray⟩ ⟨m.toArray⟩ bn N c dd (some ⟨bp,0,none⟩) l _ _ a b w ha hb (by omega) (Nat.lt_of_lt_of_le h.ln h.up.size) (h.tx a ha) (h.tx b hb)).mono ?_;rintro e w' ⟨rfl,hw⟩;exact ⟨rfl,h.keep (hw.mono h.up.size),hw.size,fun x _ hx=>hw.block x hx⟩
 swap d w i j h hi0 hi hj0 hj:=by
  obtain ⟨a,rfl⟩:=Int.eq_ofNat_of_zero_le hi0;obtain ⟨b,rfl⟩:=Int.eq_ofNat_of_zero_le hj0;have ha:a < N:=by omega
  have hb:b < N:=by omega
  have hs:=h.size;obtain ⟨p0,p1,p2,p3,p4⟩:=h.pa a ha;obtain ⟨r0,r1,r2,r3,r4⟩:=h.pa b hb;have hnw:=Nat.lt_of_lt_of_le h.ln h.up.size;have hpw:=Nat.lt_of_lt_of_le h.lp h.up.size;refine (Z8b K ⟨o.toArray⟩ ⟨m.toArray⟩ bn N c bp l dd _ _ a b _ _ _ _ _ _ _ _ _ _ _ _ _ _ _ _ _ _ w ha hb hl hl2 hnw hpw h.ne (h.tx a ha) (h.tx b hb) h.fn h.fp p0 r0 p1 r1 p2 r2 p3 r3 p4 r4).mono ?_;rintro e w' ⟨rfl,W0,hW0,rfl⟩;have h0:=h.keep (hW0.mono h.up.size);have hne:=h.ne;have ea: ((a:Nat):Int).toNat=a:=by omega
  have eb: ((b:Nat):Int).toNat=b:=by omega
  rw[ea,eb];have hget:=fun k=>swp_get d (i:=a) (j:=b) (by omega) (by omega) k;refine ⟨rfl,⟨by rw[size_swp]; exact hs,fun k hk=> ?_,fun k hk=> ?_,fun k=> ?_,fun k=> ?_,h.ln,h.lp,hne, ?_⟩, ?_, ?_⟩
  {rw[World.cell?_drew,Z5O _ _ _ _ _ _ _ _ _ hne.symm,Z5O _ _ _ _ _ _ _ _ _ hne.symm,World.cell?_drew];by_cases hkb:k=b
   {subst hkb;rw[swp_right d a k (by omega)];obtain ⟨v,hv⟩:=cell?_setCell_some (w:=W0) (p:=⟨bn,a,none⟩) (x:= .string ⟨(d[k]!).n.toArray⟩) (q:=⟨bn,k,none⟩) (h0.tx k hk);exact ss hv}
   {rw[so (Ne.symm hkb)];by_cases hka:k=a
    {subst hka;rw[swp_left d k b (by omega) hkb];exact ss (h0.tx k hk)}
    {rw[so (Ne.symm hka),swp_other d a b k hka hkb];exact h0.tx k hk}}}
  {have hz: ∀k,k < N->Sh5 ((((W0.setCell ⟨bn,a,none⟩ (.string ⟨(d[b]!).n.toArray⟩)).setCell ⟨bn,b,none⟩ (.string ⟨(d[a]!).n.toArray⟩)).drew)) bp (k * 5) (d[k]!).t (d[k]!).q:=fun k hk=>
    (Z51 hne (Z51 hne (h0.pa k hk))).of fun _=>World.cell?_drew _ _
   refine Sh5.of (w:=set5 _ _ _ _ _ _ _ _) ?_ (fun _=>World.cell?_drew _ _);by_cases hkb:k=b
   {subst hkb;rw[swp_right d a k (by omega)];by_cases hka:k=a
    {subst hka;exact Z3M _ _ _ _ _ _ _ (Z3M _ _ _ _ _ _ _ (hz k hk))}
    {exact Z3M _ _ _ _ _ _ _ (Z34 _ _ _ _ _ _ _ _ _ _ _ hka (hz k hk))}}
   {refine Z34 _ _ _ _ _ _ _ _ _ _ _ hkb ?_;by_cases hka:k=a
    {subst hka;rw[swp_left d k b (by omega) hkb];exact Z3M _ _ _ _ _ _ _ (hz k hk)}
    {rw[swp_other d a b k hka hkb];exact Z34 _ _ _ _ _ _ _ _ _ _ _ hka (hz k hk)}}}
  {have:=h0.fn k;simpa[set5,World.frozen?_drew] using this}
  {have:=h0.fp k;simpa[set5,World.frozen?_drew] using this}
  {exact (((((h0.up.set (Or.inl rfl) _).set (Or.inl rfl) _).drew).set5 _ _ _ _ _ _).set5 _ _ _ _ _ _).drew}
  {have:=hW0.size;simpa[set5,World.setCell] using this}
  {intro x hx1 hx2;have hn:x≠bn:=by have:=h.ln; omega
   have hp:x≠bp:=by have:=h.lp; omega
   have hU:=((((((Up2.refl bn bp W0).set (Or.inl rfl) (.string ⟨(d[b]!).n.toArray⟩) (p:=⟨bn,a,none⟩)).set (Or.inl rfl) (.string ⟨(d[a]!).n.toArray⟩) (p:=⟨bn,b,none⟩)).drew).set5 (a * 5) (.int .i64 (d[b]!).t.kind) (.string ⟨(d[b]!).t.of_.toArray⟩) (.string ⟨(d[b]!).t.name.toArray⟩) (.slice (d[b]!).q.A (d[b]!).t.names.length (d[b]!).q.c) (.slice (d[b]!).q.P (d[b]!).t.parts.length (d[b]!).q.d)).set5 (b * 5) (.int .i64 (d[a]!).t.kind) (.string ⟨(d[a]!).t.of_.toArray⟩) (.string ⟨(d[a]!).t.name.toArray⟩) (.slice (d[a]!).q.A (d[a]!).t.names.length (d[a]!).q.c) (.slice (d[a]!).q.P (d[a]!).t.parts.length (d[a]!).q.d)).drew;exact (hU.block x (Nat.lt_of_lt_of_le hx2 hW0.size) hn hp).trans (hW0.block x hx2)}
 size d w h:=h.size
 big:=by omega
 base d w h:=h.up.size
 keep d w w' h hb:=h.keep hb
 mL w:=by kernel_rfl
 mS w:=by kernel_rfl
end
section
open Shp
theorem Z47 (x:Fld): ∀l:List Fld,(ins x l).Perm (x::l)
 | []=>List.Perm.refl _
 | y::l=>by
  unfold ins;split
  {exact ((Z47 x l).cons y).trans (List.Perm.swap x y l)}
  {exact List.Perm.refl _}
theorem Z3t: ∀(l a:List Fld),(l.foldl (fun a x=>ins x a) a).Perm (l++a)
 | [],a=>List.Perm.refl _
 | x::l,a=>by
  rw[List.foldl_cons];refine (Z3t l _).trans ?_;refine (List.Perm.append_left l (Z47 x a)).trans ?_;exact List.perm_middle
theorem Z0q (l:List Fld): (sortF l).Perm l:=by
 have:=Z3t l []
 rwa [List.append_nil] at this
theorem Z4r (x:Fld): ∀l:List Fld,l.Pairwise (fun a b=>a.1<=b.1)->(ins x l).Pairwise (fun a b=>a.1<=b.1)
 | [],_=>by simp[ins]
 | y::l,h=>by
  rw[List.pairwise_cons] at h;unfold ins;split
  {rename_i hlt
   rw[List.pairwise_cons];refine ⟨fun b hb=> ?_,Z4r x l h.2⟩;rcases List.mem_cons.1 ((Z47 x l).mem_iff.1 hb) with rfl | hb
   {exact List.le_of_lt hlt}
   {exact h.1 b hb}}
  {rename_i hlt
   have hxy:x.1<=y.1:=List.not_lt.1 hlt;rw[List.pairwise_cons,List.pairwise_cons];refine ⟨fun b hb=> ?_,h⟩;rcases List.mem_cons.1 hb with rfl | hb
   {exact hxy}
   {exact List.le_trans hxy (h.1 b hb)}}
theorem Z2N: ∀(l a:List Fld),a.Pairwise (fun a b=>a.1<=b.1)->(l.foldl (fun a x=>ins x a) a).Pairwise (fun a b=>a.1<=b.1)
 | [],a,h=>h
 | x::l,a,h=>Z2N l _ (Z4r x a h)
theorem Z17 (l:List Fld): (sortF l).Pairwise (fun a b=>a.1<=b.1):=Z2N l [] List.Pairwise.nil
theorem Z9w {l:List Fld} (h: (l.map Prod.fst).Nodup) {a b:Fld} (ha:a∈l) (hb:b∈l) (he:a.1=b.1):a=b:=by
 induction l with
 | nil=>cases ha
 | cons x l ih=>
  rw[List.map_cons,List.nodup_cons] at h;rcases List.mem_cons.1 ha with e1 | h1
  {rcases List.mem_cons.1 hb with e2 | h2
   {rw[e1,e2]}
   {exact absurd (by rw[<-e1,he]; exact List.mem_map_of_mem h2) h.1}}
  {rcases List.mem_cons.1 hb with e2 | h2
   {exact absurd (by rw[<-e2, <-he]; exact List.mem_map_of_mem h1) h.1}
   {exact ih h.2 h1 h2}}
theorem Z18 {l m:List Fld} (hp:m.Perm l) (hs:m.Pairwise (fun a b=>a.1<=b.1)) (hn: (l.map Prod.fst).Nodup):m=sortF l:=by
 refine List.Perm.eq_of_pairwise (le:=fun a b:Fld=>a.1<=b.1) (fun a b ha hb h1 h2=> ?_) hs (Z17 l) (hp.trans (Z0q l).symm);exact Z9w hn (hp.mem_iff.1 ha) ((Z0q l).mem_iff.1 hb) (List.le_antisymm h1 h2)
end
section
open Go.RowKit Shp Go.Sort
theorem Z6Y (t:Sh) (q:Ptr) (w:World) (h0:t.names.length=0):
 Y9 52 #[.iface 92 (.agg (Y8 t q))] w (.tuple #[]):=by
 have H:Srt t.names.length w.heap.size (.agg (Y8 t q)) ltEl (fun d w1=>d.size=t.names.length/\Below w.heap.size w w1):= {
  less:=fun d w1 i j h hi0 hi=>absurd hi (by omega)
  swap:=fun d w1 i j h hi0 hi=>absurd hi (by omega)
  size:=fun d w1 h=>h.1
  big:=by omega
  base:=fun d w1 h=>h.2.size
  keep:=fun d w1 w2 h hb=>⟨h.1,h.2.trans hb⟩
  mL:=fmL t q
  mS:=fmS t q }
 exact (Z4q H Z9v (fmN t q) (fun d w1 h=>(Z50 t q w1).mono fun e w2 ⟨he,hb⟩=>⟨he,h.1,Z02 h.2 hb⟩) #[] w ⟨by rw[h0]; rfl,Below.refl _ _⟩).mono fun e w' ⟨he,d',_,_,h⟩=>⟨he,h.2⟩
def els (t:Sh) (qs:Nat->Ptr) (Fs:Nat->List Nat):Array El:=((List.range t.names.length).map fun i=>(⟨t.names.getD i [],t.parts.getD i ⟨0,[],[],[],[]⟩,qs i,Fs i⟩:El)).toArray
section
variable (t : Sh) (qs : Nat -> Ptr) (Fs : Nat -> List Nat)
include t qs Fs
theorem Z35: (els t qs Fs).size=t.names.length:=by simp[els]
theorem Z5P (i:Nat) (h:i < t.names.length) (h2:i < t.parts.length): (els t qs Fs)[i]! =⟨t.names[i],t.parts[i],qs i,Fs i⟩:=by
 rw[getElem!_pos (els t qs Fs) i (by rw[Z35]; exact h)];simp[els,h,h2]
end
theorem Z8d (t:Sh) (q:Ptr) (qs:Nat->Ptr) (Fs:Nat->List Nat) (bn bp:Nat) (w:World) (hA:q.A=some ⟨bn,0,none⟩) (hP:q.P=some ⟨bp,0,none⟩) (hl:t.names.length=t.parts.length) (hN:t.names.length < 400000)
    (ht:TxR w bn t.names) (hp:PaR w bp t.parts qs) (hne:bn≠bp):
    Calls Tryd.prog 52 #[.iface 92 (.agg #[.int .i64 t.kind,.string ⟨t.of_.toArray⟩,.string ⟨t.name.toArray⟩,.slice q.A t.names.length q.c,.slice q.P t.parts.length q.d])] w fun e w'=>e= .returned (.tuple #[])/\
      ∃d',PermIn 0 t.names.length (els t qs Fs) d'/\SortedIn ltEl 0 t.names.length d'/\FSt w bn bp t.names.length d' w':=by
  have hlen:=Z50 t q;have mN:=fmN t q;rw[hA,hP] at hlen mN ⊢;have H:=Z8c w bn bp t.names.length t.kind t.of_ t.name q.c t.parts.length q.d hN (by omega) (by omega);refine Z4q H Z9v mN (fun d w1 h=>(hlen w1).mono fun e w2 ⟨he,hb⟩=>⟨he,h.keep (hb.mono h.up.size)⟩) (els t qs Fs) w ?_;exact ⟨Z35 t qs Fs,fun i hi=>by rw[Z5P t qs Fs i hi (by omega)]; exact ht.at_ i hi,fun i hi=>by rw[Z5P t qs Fs i hi (by omega)]; exact hp.at_ i (by omega),ht.fz,hp.fz,ht.lt,hp.lt,hne,Up2.refl _ _ _⟩
theorem Z8e {N:Nat} {d d':Array El} (h:PermIn 0 N d d') (hN:d.size=N):d'.toList.Perm d.toList:=by
 obtain ⟨h1,_,h3⟩:=h;have e:d.extract 0 N=d:=by rw[<-hN]; exact Array.extract_size
 have e':d'.extract 0 N=d':=by rw[<-hN, <-h1]; exact Array.extract_size
 rwa [e,e'] at h3
theorem Z5Q {N:Nat} {d:Array El} (h:SortedIn ltEl 0 N d) (hN:d.size=N): (d.toList.map fun x=>(x.n,x.t)).Pairwise (fun a b:Fld=>a.1<=b.1):=by
 rw[List.pairwise_map,List.pairwise_iff_getElem];intro i j hi hj hij;have:=h i j (Nat.zero_le _) hij (by simpa[hN] using hj);simp only[ltEl,decide_eq_false_iff_not,List.not_lt] at this;rw[getElem!_pos d i (by simpa using hi),getElem!_pos d j (by simpa using hj)] at this;simpa using this
theorem Z8f {t t':Sh} {q:Ptr} (h:Small t q) (ho:t'.of_=t.of_) (hn:t'.name=t.name) (hns:t'.names.Perm t.names) (hp:t'.parts.length=t.parts.length):Small t' q:=by
 have hl:=hns.length_eq;obtain ⟨h1,h2,h3,h4,h5,h6,h7,h8,h9⟩:=h;exact ⟨by rw[ho]; exact h1,by rw[hn]; exact h2,fun x hx=>h3 x (hns.mem_iff.1 hx),by rw[hl]; exact h4,by rw[hp]; exact h5,by rw[hl]; exact h6,by rw[hp]; exact h7,h8,h9⟩
theorem ZaC {w0 W:World} {t:Sh} {q:Ptr} {bn bp N:Nat} {qs:Nat->Ptr} {Fs:Nat->List Nat} {d:Array El} (hA:q.A=some ⟨bn,0,none⟩) (hP:q.P=some ⟨bp,0,none⟩) (hs:Small t q)
 (hN:t.names.length=N) (hN2:t.parts.length=N) (hf:FSt w0 bn bp N d W) (hp:d.toList.Perm (els t qs Fs).toList) (hr: ∀i (h:i < t.parts.length),Own W (qs i) (t.parts[i]'h) (Fs i)):
 Own W q ⟨t.kind,t.of_,t.name,d.toList.map El.n,d.toList.map El.t⟩ ([bn]++ [bp]++d.toList.flatMap El.F)/\([bn]++ [bp]++d.toList.flatMap El.F).Perm ([bn]++ [bp]++(List.range t.parts.length).flatMap Fs):=by
 have hsz:=hf.size;have hall: ∀x∈d.toList,Own W x.q x.t x.F:=fun x hx=>by
  have hx2:=hp.mem_iff.1 hx;obtain ⟨i,hi,rfl⟩:=List.getElem_of_mem hx2;have hi2:i < t.names.length:=by simpa[els] using hi
  have:=Z5P t qs Fs i hi2 (by omega);rw[getElem!_pos (els t qs Fs) i (by rw[Z35]; exact hi2)] at this;rw[Array.getElem_toList,this];exact hr i (by omega)
 have hen: ((els t qs Fs).toList.map El.n)=t.names:=by
  apply List.ext_getElem
  {simp[els]}
  {intro i h1 h2;simp[els,h2]}
 have heF: (els t qs Fs).toList.flatMap El.F=(List.range t.parts.length).flatMap Fs:=by
  rw[hN2, <-hN];simp[els,List.flatMap_map]
 have hget: ∀i (h:i < d.toList.length),d[i]! =d.toList[i]'h:=fun i h=>by
  rw[getElem!_pos d i (by simpa using h)];simp
 refine ⟨.mk q _ _ [bn] [bp] (fun i=>(d[i]!).q) (fun i=>(d[i]!).F) (Z8f hs rfl rfl ((hp.map El.n).trans (by rw[hen])) (by simp; omega)) ?_ ?_ ?_ ?_, ?_⟩
 {refine Or.inr ⟨bn,hA,rfl,Nat.lt_of_lt_of_le hf.ln hf.up.size,fun i hi=> ?_,hf.fn⟩;have hi2:i < d.toList.length:=by simpa using hi
  rw[hf.tx i (by simpa[hsz] using hi2),hget i hi2];simp}
 {refine Or.inr ⟨bp,hP,rfl,Nat.lt_of_lt_of_le hf.lp hf.up.size,fun i hi=> ?_,hf.fp⟩;have hi2:i < d.toList.length:=by simpa using hi
  have:=hf.pa i (by simpa[hsz] using hi2);rw[hget i hi2] at this;simpa[hget i hi2] using this}
 {intro i hi;have hi2:i < d.toList.length:=by simpa using hi
  have:=hall _ (List.getElem_mem hi2);simpa[hget i hi2] using this}
 {congr 1;show d.toList.flatMap El.F=(List.range (d.toList.map El.t).length).flatMap (fun i=>(d[i]!).F);rw[List.length_map];have:d.toList=(List.range d.toList.length).map (fun i=>d[i]!):=by
   apply List.ext_getElem
   {simp}
   {intro i h1 h2;simp[hget i h1]}
  conv=>lhs; rw[this]
  rw[List.flatMap_map]}
 {rw[<-heF];exact List.Perm.append_left _ (List.Perm.flatMap_right El.F hp)}
end
section
open Go.RowKit Shp
structure UpF (F:List Nat) (w w':World):Prop where
 os:w'.os=w.os
 tape:w'.tape=w.tape
 output:w'.output=w.output
 size:w.heap.size<=w'.heap.size
 block: ∀k,k < w.heap.size->k∉F->w'.heap[k]? =w.heap[k]?
theorem UpF.refl (F:List Nat) (w:World):UpF F w w:=⟨rfl,rfl,rfl,Nat.le_refl _,fun _ _ _=>rfl⟩
theorem UpF.below {F:List Nat} {a b c:World} (h:UpF F a b) (k:Below b.heap.size b c):UpF F a c:=
 ⟨k.os.trans h.os,k.tape.trans h.tape,k.output.trans h.output,Nat.le_trans h.size k.size,fun x h1 h2=>(k.block x (Nat.lt_of_lt_of_le h1 h.size)).trans (h.block x h1 h2)⟩
theorem UpF.next {F G:List Nat} {a b c:World} (h:UpF F a b) (k:UpF G b c) (hs: ∀x∈G,x∈F):UpF F a c:=
 ⟨k.os.trans h.os,k.tape.trans h.tape,k.output.trans h.output,Nat.le_trans h.size k.size,fun x h1 h2=>(k.block x (Nat.lt_of_lt_of_le h1 h.size) (fun e=>h2 (hs x e))).trans (h.block x h1 h2)⟩
theorem UpF.same {F:List Nat} {w w':World} (h:UpF F w w') {b:Nat} (h1:b < w.heap.size) (h2:b∉F):Z0p w w' b:=
 ⟨fun k=>World.cell?_of_block (w:=w) (h.block b h1 h2),fun k=>World.frozen?_of_block (w:=w) (h.block b h1 h2)⟩
theorem Up2.upF {bn bp:Nat} {w w':World} (h:Up2 bn bp w w') {F:List Nat} (h1:bn∈F) (h2:bp∈F):UpF F w w':=
 ⟨h.os,h.tape,h.output,h.size,fun k hk hn=>h.block k hk (fun e=>hn (e▸h1)) (fun e=>hn (e▸h2))⟩
theorem Z0A {W W':World} {q:Ptr} {t:Sh} {F:List Nat} (h:Own W q t F) (hb:Below W.heap.size W W'):Own W' q t F:=
 h.of (fun b hm=>⟨fun k=>hb.cell (p:=⟨b,k,none⟩) (h.lt b hm),fun k=>hb.frozen (p:=⟨b,k,none⟩) (h.lt b hm)⟩) hb.size
theorem Z2t (t:Sh): (sorted t).kind=t.kind/\(sorted t).of_=t.of_/\(sorted t).name=t.name:=by
 rw[Z09]; split <;> exact ⟨rfl,rfl,rfl⟩
theorem Z3Q {t:Sh} (h:t.names= []\/t.names.length=t.parts.length): (sorted t).names.length=t.names.length/\(sorted t).parts.length=t.parts.length:=by
 rw[Z09];split
 {rename_i h0
  simp[h0]}
 {rename_i h0
  rcases h with h | h
  {exact absurd h h0}
  {have:=(Z0q (t.names.zip (t.parts.map sorted))).length_eq;rw[List.length_zip,List.length_map] at this;simp only[List.length_map,this];omega}}
theorem Z1y {t:Sh} (h:right t=true):t.names= []\/t.names.length=t.parts.length/\t.names.Nodup:=by
 have hf:=Z08 h;unfold fits at hf;split at hf
 {simp only[Bool.and_eq_true,decide_eq_true_eq] at hf;exact Or.inl (List.eq_nil_of_length_eq_zero hf.1.2)}
 {split at hf
  {cases hf}
  {split at hf
   {simp only[Bool.and_eq_true,decide_eq_true_eq] at hf;refine Or.inr ⟨hf.2, ?_⟩;have:=hf.1;simp only[areNames,Bool.and_eq_true,Z4X] at this;exact this.2}
   {split at hf
    {cases hf}
    {rename_i h0
     exact Or.inl (List.eq_nil_of_length_eq_zero (by omega))}}}}
theorem Z4s {W:World} {b o:Nat} {t:Sh} {q:Ptr} (hr:right t=true) (h:Sh5 W b o t q):Sh5 W b o (sorted t) q:=by
 obtain ⟨k1,k2,k3⟩:=Z2t t;obtain ⟨l1,l2⟩:=Z3Q (t:=t) ((Z1y hr).imp id And.left);unfold Sh5 at *;rw[k1,k2,k3,l1,l2];exact h
theorem Z5R {Fs:Nat->List Nat}: ∀n,((List.range n).flatMap Fs).Nodup->(∀j,j < n->(Fs j).Nodup)/\ ∀i j,i < j->j < n-> ∀b∈Fs i,b∉Fs j
 | 0,_=>⟨fun j hj=>absurd hj (by omega),fun i j _ hj=>absurd hj (by omega)⟩
 | n+1,h=>by
  rw[List.range_succ,List.flatMap_append,List.nodup_append] at h;obtain ⟨h1,h2,h3⟩:=h;obtain ⟨k1,k2⟩:=Z5R n h1;have e: [n].flatMap Fs=Fs n:=by simp
  rw[e] at h2 h3;refine ⟨fun j hj=> ?_,fun i j hij hj b hb hb2=> ?_⟩
  {rcases Nat.lt_or_eq_of_le (Nat.le_of_lt_succ hj) with h | rfl
   {exact k1 j h}
   {exact h2}}
  {rcases Nat.lt_or_eq_of_le (Nat.le_of_lt_succ hj) with h | rfl
   {exact k2 i j hij h b hb hb2}
   {exact h3 b (List.mem_flatMap.2 ⟨i,List.mem_range.2 hij,hb⟩) b hb2 rfl}}
theorem Z2u {FN FP:List Nat} {n:Nat} {Fs:Nat->List Nat} (h: (FN++FP++(List.range n).flatMap Fs).Nodup):
 (∀b∈FN,b∉FP)/\(∀b∈FN,∀j,j < n->b∉Fs j)/\(∀b∈FP,∀j,j < n->b∉Fs j)/\(∀j,j < n->(Fs j).Nodup)/\ ∀i j,i < n->j < n->i≠j-> ∀b∈Fs i,b∉Fs j:=by
 rw[List.nodup_append] at h;obtain ⟨h1,h2,h3⟩:=h;rw[List.nodup_append] at h1;have hm: ∀j,j < n-> ∀b∈Fs j,b∈(List.range n).flatMap Fs:=fun j hj b hb=>List.mem_flatMap.2 ⟨j,List.mem_range.2 hj,hb⟩;obtain ⟨h4,h5⟩:=Z5R n h2;refine ⟨fun b hb hb2=>h1.2.2 b hb b hb2 rfl,fun b hb j hj hb2=>h3 b (List.mem_append_left _ hb) b (hm j hj b hb2) rfl,fun b hb j hj hb2=>h3 b (List.mem_append_right _ hb) b (hm j hj b hb2) rfl,h4,fun i j hi hj hne b hb hb2=> ?_⟩;rcases Nat.lt_or_gt_of_ne hne with h | h
 {exact h5 i j h hj b hb hb2}
 {exact h5 j i h hi b hb2 hb}
end
section
open Shp
theorem Z0a {t:Sh} (h:check t=0):size t<=400/\deep t<=40/\right t=true:=by
 unfold check at h;by_cases h4:400 < size t
 {rw[if_pos h4] at h; omega}
 {rw[if_neg h4] at h;by_cases h40:40 < deep t
  {rw[if_pos h40] at h; omega}
  {rw[if_neg h40] at h;cases hr:right t with
   | false=>rw[hr] at h; simp at h
   | true=>exact ⟨by omega,by omega,rfl⟩}}
theorem Z4t {l m:List Sh} (h:l.Perm m):sizes l=sizes m:=by
 induction h with
 | nil=>rfl
 | cons x _ ih=>simp[sizes,ih]
 | swap x y l=>simp[sizes]; omega
 | trans _ _ ih1 ih2=>exact ih1.trans ih2
theorem Z9x {f:Sh->Sh} {l:List Sh} (h: ∀p∈l,size (f p)=size p):sizes (l.map f)=sizes l:=by
 induction l with
 | nil=>rfl
 | cons a l ih=>simp[sizes,h a (by simp),ih (fun p hp=>h p (by simp[hp]))]
structure Like (f:Sh->Sh) (t u:Sh):Prop where
 k:u.kind=t.kind
 o:u.of_=t.of_
 n:u.name=t.name
 ns:u.names.Perm t.names
 ps:u.parts.Perm (t.parts.map f)
theorem Like.size {f:Sh->Sh} {t u:Sh} (h:Like f t u) (hp: ∀p∈t.parts,size (f p)=size p):size u=size t:=by
 rw[size_eq,size_eq,Z4t h.ps,Z9x hp]
end
end Go.Proofs.YtchklpedlbkgaaaDoor
namespace Go.Proofs.YtchklpedlbkgaaaDoor
namespace Expd
open Shp
structure Bd where
 of_:List UInt8
 name:List UInt8
 sh:Sh
def find:List Bd->List UInt8->List UInt8->Option Sh
 | [],_,_=>none
 | b::l,o,n=>match find l o n with
  | some s=>some s
  | none=>if b.of_=o/\b.name=n then some b.sh else none
abbrev Look:=List UInt8->List UInt8->Option Sh
mutual
def put (f:Look):Sh->Option Sh
 | ⟨k,o,n,ns,ps⟩=>if k=9 then f o n else match puts f ps with
  | none=>none
  | some qs=>some ⟨k,o,n,ns,qs⟩
def puts (f:Look):List Sh->Option (List Sh)
 | []=>some []
 | p::ps=>match put f p with
  | none=>none
  | some q=>match puts f ps with
   | none=>none
   | some qs=>some (q::qs)
end
mutual
def fill (f:Look):Sh->Sh
 | ⟨k,o,n,ns,ps⟩=>if k=9 then (f o n).getD ⟨k,o,n,ns,ps⟩ else ⟨k,o,n,ns,fills f ps⟩
def fills (f:Look):List Sh->List Sh
 | []=> []
 | p::ps=>fill f p::fills f ps
end
mutual
def keys:Sh->List (List UInt8×List UInt8)
 | ⟨k,o,n,_,ps⟩=>if k=9 then [(o,n)] else keyss ps
def keyss:List Sh->List (List UInt8×List UInt8)
 | []=> []
 | p::ps=>keys p++keyss ps
end
theorem Z9B (f:Look) (l:List Sh):fills f l=l.map (fill f):=by
 induction l with
 | nil=>rfl
 | cons a l ih=>simp[fills,ih]
theorem Z8g (l:List Sh):keyss l=l.flatMap keys:=by
 induction l with
 | nil=>rfl
 | cons a l ih=>simp[keyss,ih]
theorem put_eq (f:Look) (t:Sh):put f t=if t.kind=9 then f t.of_ t.name else match puts f t.parts with
 | none=>none
 | some qs=>some ⟨t.kind,t.of_,t.name,t.names,qs⟩:=by cases t; rfl
theorem Z7C (f:Look) (t:Sh):fill f t=if t.kind=9 then (f t.of_ t.name).getD t else ⟨t.kind,t.of_,t.name,t.names,t.parts.map (fill f)⟩:=by
 cases t; rw[<-Z9B]; rfl
theorem Z7D (t:Sh):keys t=if t.kind=9 then [(t.of_,t.name)] else t.parts.flatMap keys:=by
 cases t; rw[<-Z8g]; rfl
theorem fill_name {f:Look} {t:Sh} (h:t.kind=9):fill f t=(f t.of_ t.name).getD t:=by rw[Z7C,if_pos h]
theorem fill_node {f:Look} {t:Sh} (h: ¬t.kind=9):fill f t=⟨t.kind,t.of_,t.name,t.names,t.parts.map (fill f)⟩:=by rw[Z7C,if_neg h]
theorem keys_name {t:Sh} (h:t.kind=9):keys t= [(t.of_,t.name)]:=by rw[Z7D,if_pos h]
theorem keys_node {t:Sh} (h: ¬t.kind=9):keys t=t.parts.flatMap keys:=by rw[Z7D,if_neg h]
theorem Z3u {t p:Sh} (h: ¬t.kind=9) (hp:p∈t.parts) {k:List UInt8×List UInt8} (hk:k∈keys p):k∈keys t:=by
 rw[keys_node h]; exact List.mem_flatMap.2 ⟨p,hp,hk⟩
section
variable {f : Look}
include f
theorem puts_some {l:List Sh} (h: ∀p∈l,put f p=some (fill f p)):puts f l=some (l.map (fill f)):=by
 induction l with
 | nil=>rfl
 | cons a l ih=>
  unfold puts;rw[h a (by simp),ih (fun p hp=>h p (by simp[hp]))];rfl
theorem puts_none {l:List Sh} {p:Sh} (hp:p∈l) (h:put f p=none):puts f l=none:=by
 induction l with
 | nil=>cases hp
 | cons a l ih=>
  unfold puts;rcases List.mem_cons.1 hp with rfl | hp
  {rw[h]}
  {rw[ih hp];cases put f a <;> rfl}
theorem put_some (t:Sh): (∀k∈keys t,(f k.1 k.2).isSome=true)->put f t=some (fill f t):=by
 induction t using Sh.ind with
 | h t ih=>
  intro h;by_cases hk:t.kind=9
  {rw[put_eq,if_pos hk,fill_name hk];have:=h (t.of_,t.name) (by rw[keys_name hk]; simp);cases e:f t.of_ t.name with
   | none=>rw[e] at this; cases this
   | some s=>rfl}
  {rw[put_eq,if_neg hk,fill_node hk,puts_some (fun p hp=>ih p hp (fun k hkk=>h k (Z3u hk hp hkk)))]}
theorem put_none (t:Sh) {k:List UInt8×List UInt8}:k∈keys t->f k.1 k.2=none->put f t=none:=by
 induction t using Sh.ind with
 | h t ih=>
  intro hm hn;by_cases hk:t.kind=9
  {rw[keys_name hk,List.mem_singleton] at hm;rw[put_eq,if_pos hk];rw[hm] at hn; exact hn}
  {rw[keys_node hk] at hm;obtain ⟨p,hp,hm⟩:=List.mem_flatMap.1 hm;rw[put_eq,if_neg hk,puts_none hp (ih p hp hm hn)]}
end
theorem Z5W (f:Look) (t:Sh): (∀k∈keys t,(f k.1 k.2).isSome=true)\/ ∃k∈keys t,f k.1 k.2=none:=by
 by_cases h: ∀k∈keys t,(f k.1 k.2).isSome=true
 {exact Or.inl h}
 {refine Or.inr ?_;simp only[Classical.not_forall] at h;obtain ⟨k,hk,h⟩:=h;refine ⟨k,hk, ?_⟩;cases e:f k.1 k.2 with
  | none=>rfl
  | some s=>rw[e] at h; exact absurd rfl h}
theorem Z9C (f:Look) (t:Sh):put f t=none\/(∀k∈keys t,(f k.1 k.2).isSome=true)/\put f t=some (fill f t):=by
 rcases Z5W f t with h | ⟨k,h1,h2⟩
 {exact Or.inr ⟨h,put_some t h⟩}
 {exact Or.inl (put_none t h1 h2)}
theorem put_got {f:Look} {t u:Sh} (h:put f t=some u): (∀k∈keys t,(f k.1 k.2).isSome=true)/\u=fill f t:=by
 rcases Z9C f t with h1 | ⟨h1,h2⟩
 {rw[h1] at h; cases h}
 {rw[h2] at h; exact ⟨h1,(Option.some.inj h).symm⟩}
def Z0w:Sh:=⟨0,[],[],[],[]⟩
def resolve (env:List Bd) (t:Sh):Sh×Int:=
 if check t≠0 then (Z0w,check t) else match put (find env) t with
  | none=>(Z0w,110)
  | some u=>if check u≠0 then (Z0w,check u) else (sorted u,0)
section
variable {env : List Bd}
include env
theorem resolve_bad {t:Sh} (h:check t≠0):resolve env t=(Z0w,check t):=by unfold resolve; rw[if_pos h]
theorem resolve_name {t:Sh} (h:check t=0) (h1:put (find env) t=none):resolve env t=(Z0w,110):=by unfold resolve; rw[if_neg (by simpa using h),h1]
theorem resolve_great {t u:Sh} (h:check t=0) (h1:put (find env) t=some u) (h2:check u≠0):resolve env t=(Z0w,check u):=by
 unfold resolve; rw[if_neg (by simpa using h),h1]; simp only; rw[if_pos h2]
theorem resolve_ok {t u:Sh} (h:check t=0) (h1:put (find env) t=some u) (h2:check u=0):resolve env t=(sorted u,0):=by
 unfold resolve; rw[if_neg (by simpa using h),h1]; simp only; rw[if_neg (by simpa using h2)]
end
theorem put_like {f g:Look} (t:Sh): (∀k∈keys t,f k.1 k.2=g k.1 k.2)->put f t=put g t:=by
 intro h;rcases Z5W f t with h1 | ⟨k,h1,h2⟩
 {rw[put_some t h1,put_some t (fun k hk=>by rw[<-h k hk]; exact h1 k hk)];congr 1;clear h1;induction t using Sh.ind with
  | h t ih=>
   by_cases hk:t.kind=9
   {rw[fill_name hk,fill_name hk,h (t.of_,t.name) (by rw[keys_name hk]; simp)]}
   {rw[fill_node hk,fill_node hk];congr 1;exact List.map_congr_left (fun p hp=>ih p hp (fun k hkk=>h k (Z3u hk hp hkk)))}}
 {rw[put_none t h1 h2,put_none t h1 (by rw[<-h k h1]; exact h2)]}
theorem find_append (l m:List Bd) (o n:List UInt8):find (l++m) o n=match find m o n with | some s=>some s | none=>find l o n:=by
 induction l with
 | nil=>cases h:find m o n <;> simp[find,h]
 | cons b l ih=>
  simp only[List.cons_append,find];rw[ih];cases h:find m o n <;> simp[find]
theorem find_cons (b:Bd) (m:List Bd) (o n:List UInt8):find (b::m) o n=match find m o n with | some s=>some s | none=>if b.of_=o/\b.name=n then some b.sh else none:=rfl
theorem name_bare {t:Sh} (h:right t=true) (hk:t.kind=9):t.names= []/\t.parts= []:=by
 have:=Z08 h;rw[Z1T (Or.inl hk)] at this;simp only[Bool.and_eq_true,decide_eq_true_eq] at this;exact ⟨List.eq_nil_of_length_eq_zero this.1.2,List.eq_nil_of_length_eq_zero this.2⟩
structure It where
 kind:Int
 name:List UInt8
 sh:Sh
def opq (o n:List UInt8):Sh:=⟨10,o,n,[],[]⟩
def bindOf (o:List UInt8) (i:It):Option Bd:=if i.kind=1 then some ⟨o,i.name,i.sh⟩ else if i.kind=2 then some ⟨o,i.name,opq o i.name⟩ else none
def types (o:List UInt8) (l:List It):List Bd:=l.filterMap (bindOf o)
end Expd
end Go.Proofs.YtchklpedlbkgaaaDoor
namespace Go.Proofs.YtchklpedlbkgaaaDoor
section
open Go.RowKit Shp
theorem Z8i {H:Type} {enc:TypeId×Value->H} {W:World} {base b0:Nat} {held:Bool} {v:Value} {d:DataW H} {p:List MemPlace}
 (hv:Value.okWide Tryd.prog W .any b0 25 v) (h:DataW.Trod enc Tryd.prog W base (fun _=>true) held 25 v d p):
 ∃(t:Sh) (q:Ptr),v= .agg (Y8 t q)/\ShAt W W.heap.size q t:=by
 obtain ⟨cs,rfl,hsz⟩:=Go.WideShapes.okWide_struct Tryd.underlying25 hv;obtain ⟨n,hn⟩:=h;obtain ⟨t,q,hcs,hat⟩:=Z30 n hn;refine ⟨t,q, ?_,hat⟩;congr 1;apply Array.ext';exact hcs
end
end Go.Proofs.YtchklpedlbkgaaaDoor
