/- The fields' methods. -/
import Derived.Test.YtkehnmapnckdgaaDoorGS7
namespace Go.Proofs.YtkehnmapnckdgaaDoor
open Go.RowKit Shp
set_option linter.unusedVariables false

/-- A fields value's parts: what stands behind its five cells. -/
def fv (t : Sh) (q : Ptr) : Value := .agg #[.int .i64 t.kind, .string ⟨t.of_.toArray⟩, .string ⟨t.name.toArray⟩, .slice q.A t.names.length q.c, .slice q.P t.parts.length q.d]

theorem flen_walk (t : Sh) (q : Ptr) (w : World) : Calls Tryd.prog 123 #[.agg #[.int .i64 t.kind, .string ⟨t.of_.toArray⟩, .string ⟨t.name.toArray⟩, .slice q.A t.names.length q.c, .slice q.P t.parts.length q.d]] w fun e w' => e = .returned (.int .i64 (t.names.length : Int)) ∧ Below w.heap.size w w' := by
  go_enter Tryd.func123, Tryd.ntmps123
  go_wp2
  go_ret
  exact ⟨rfl, below_one _ _⟩

theorem fmL (t : Sh) (q : Ptr) (w : World) : Sem.run Tryd.prog (method (Tryd.prog.types.size + 100) 53 (.agg #[.int .i64 t.kind, .string ⟨t.of_.toArray⟩, .string ⟨t.name.toArray⟩, .slice q.A t.names.length q.c, .slice q.P t.parts.length q.d]) "Less") w = .ok (124, .agg #[.int .i64 t.kind, .string ⟨t.of_.toArray⟩, .string ⟨t.name.toArray⟩, .slice q.A t.names.length q.c, .slice q.P t.parts.length q.d]) w := by kernel_rfl
theorem fmS (t : Sh) (q : Ptr) (w : World) : Sem.run Tryd.prog (method (Tryd.prog.types.size + 100) 53 (.agg #[.int .i64 t.kind, .string ⟨t.of_.toArray⟩, .string ⟨t.name.toArray⟩, .slice q.A t.names.length q.c, .slice q.P t.parts.length q.d]) "Swap") w = .ok (125, .agg #[.int .i64 t.kind, .string ⟨t.of_.toArray⟩, .string ⟨t.name.toArray⟩, .slice q.A t.names.length q.c, .slice q.P t.parts.length q.d]) w := by kernel_rfl
theorem fmN (t : Sh) (q : Ptr) (w : World) : Sem.run Tryd.prog (method (Tryd.prog.types.size + 100) 53 (.agg #[.int .i64 t.kind, .string ⟨t.of_.toArray⟩, .string ⟨t.name.toArray⟩, .slice q.A t.names.length q.c, .slice q.P t.parts.length q.d]) "Len") w = .ok (123, .agg #[.int .i64 t.kind, .string ⟨t.of_.toArray⟩, .string ⟨t.name.toArray⟩, .slice q.A t.names.length q.c, .slice q.P t.parts.length q.d]) w := by kernel_rfl

set_option maxHeartbeats 4000000 in
set_option maxRecDepth 100000 in
theorem fless_walk (K : Int) (o m : ByteArray) (bn n c d : Nat) (P : Option Addr) (l : Nat) (x y : List UInt8) (i j : Nat) (w : World) (hi : i < n) (hj : j < n) (hn : n < 1000000) (hb : bn < w.heap.size)
    (c1 : w.cell? ⟨bn, i, none⟩ = some (.string ⟨x.toArray⟩)) (c2 : w.cell? ⟨bn, j, none⟩ = some (.string ⟨y.toArray⟩)) :
    Calls Tryd.prog 124 #[.agg #[.int .i64 K, .string o, .string m, .slice (some ⟨bn, 0, none⟩) n c, .slice P l d], .int .i64 i, .int .i64 j] w fun e w' => e = .returned (.bool (decide (x < y))) ∧ Below w.heap.size w w' := by
  have k1 := ((below_one w (.cells #[.int .i64 K, .string o, .string m, .slice (some ⟨bn, 0, none⟩) n c, .slice P l d] 53)).cell (p := ⟨bn, i, none⟩) hb).trans c1
  have k2 := ((below_one w (.cells #[.int .i64 K, .string o, .string m, .slice (some ⟨bn, 0, none⟩) n c, .slice P l d] 53)).cell (p := ⟨bn, j, none⟩) hb).trans c2
  have b3 : (w.alloc (.cells #[.int .i64 K, .string o, .string m, .slice (some ⟨bn, 0, none⟩) n c, .slice P l d] 53)).cell? ⟨w.heap.size, 3, none⟩ = some (.slice (some ⟨bn, 0, none⟩) n c) := by rw [World.cell?_alloc_at _ _ _ _ rfl]; rfl
  have HW := below_one w (.cells #[.int .i64 K, .string o, .string m, .slice (some ⟨bn, 0, none⟩) n c, .slice P l d] 53)
  clear c1 c2
  go_enter Tryd.func124, Tryd.ntmps124
  go_upto_region 1 with fail
  generalize w.alloc (.cells #[.int .i64 K, .string o, .string m, .slice (some ⟨bn, 0, none⟩) n c, .slice P l d] 53) = W0 at k1 k2 b3 HW ⊢
  have HW0 : Hid _ := HW
  clear HW
  go_quiet (fail)
  go_wp2
  go_ret
  exact ⟨(show Ending.returned (.bool (Op.bytesLess x.toArray.toList y.toArray.toList)) = _ from by rw [less_eq]), below_drewN HW0.out _⟩

/-- A value of five cells laid down. -/
def set5 (W : World) (b o : Nat) (a0 a1 a2 a3 a4 : Value) : World := ((((W.setCell ⟨b, o, none⟩ a0).setCell ⟨b, o + 1, none⟩ a1).setCell ⟨b, o + 2, none⟩ a2).setCell ⟨b, o + 3, none⟩ a3).setCell ⟨b, o + 4, none⟩ a4

set_option maxHeartbeats 8000000 in
set_option maxRecDepth 100000 in
theorem fswap_walk (K : Int) (o m : ByteArray) (bn n c bp l d : Nat) (x y : ByteArray) (i j : Nat) (uk vk : Int) (u1 u2 v1 v2 : ByteArray) (uA uP vA vP : Option Addr) (un uc um ud vn vc vm vd : Nat) (w : World) (hi : i < n) (hj : j < n) (hl : n ≤ l) (hn : l < 1000000) (hb : bn < w.heap.size) (hp : bp < w.heap.size) (hne : bn ≠ bp)
    (c1 : w.cell? ⟨bn, i, none⟩ = some (.string x)) (c2 : w.cell? ⟨bn, j, none⟩ = some (.string y)) (f1 : ∀ k, w.frozen? ⟨bn, k, none⟩ = false) (f2 : ∀ k, w.frozen? ⟨bp, k, none⟩ = false)
    (p0 : w.cell? ⟨bp, i * 5, none⟩ = some (.int .i64 uk)) (r0 : w.cell? ⟨bp, j * 5, none⟩ = some (.int .i64 vk))
    (p1 : w.cell? ⟨bp, i * 5 + 1, none⟩ = some (.string u1)) (r1 : w.cell? ⟨bp, j * 5 + 1, none⟩ = some (.string v1))
    (p2 : w.cell? ⟨bp, i * 5 + 2, none⟩ = some (.string u2)) (r2 : w.cell? ⟨bp, j * 5 + 2, none⟩ = some (.string v2))
    (p3 : w.cell? ⟨bp, i * 5 + 3, none⟩ = some (.slice uA un uc)) (r3 : w.cell? ⟨bp, j * 5 + 3, none⟩ = some (.slice vA vn vc))
    (p4 : w.cell? ⟨bp, i * 5 + 4, none⟩ = some (.slice uP um ud)) (r4 : w.cell? ⟨bp, j * 5 + 4, none⟩ = some (.slice vP vm vd)) :
    Calls Tryd.prog 125 #[.agg #[.int .i64 K, .string o, .string m, .slice (some ⟨bn, 0, none⟩) n c, .slice (some ⟨bp, 0, none⟩) l d], .int .i64 i, .int .i64 j] w fun e w' => e = .returned (.tuple #[]) ∧ ∃ W0, Below w.heap.size w W0 ∧
      w' = (set5 (set5 (((W0.setCell ⟨bn, i, none⟩ (.string y)).setCell ⟨bn, j, none⟩ (.string x)).drew) bp (i * 5) (.int .i64 vk) (.string v1) (.string v2) (.slice vA vn vc) (.slice vP vm vd)) bp (j * 5) (.int .i64 uk) (.string u1) (.string u2) (.slice uA un uc) (.slice uP um ud)).drew := by
  have HW := below_one w (.cells #[.int .i64 K, .string o, .string m, .slice (some ⟨bn, 0, none⟩) n c, .slice (some ⟨bp, 0, none⟩) l d] 53)
  have b3 : (w.alloc (.cells #[.int .i64 K, .string o, .string m, .slice (some ⟨bn, 0, none⟩) n c, .slice (some ⟨bp, 0, none⟩) l d] 53)).cell? ⟨w.heap.size, 3, none⟩ = some (.slice (some ⟨bn, 0, none⟩) n c) := by rw [World.cell?_alloc_at _ _ _ _ rfl]; rfl
  have b4 : (w.alloc (.cells #[.int .i64 K, .string o, .string m, .slice (some ⟨bn, 0, none⟩) n c, .slice (some ⟨bp, 0, none⟩) l d] 53)).cell? ⟨w.heap.size, 4, none⟩ = some (.slice (some ⟨bp, 0, none⟩) l d) := by rw [World.cell?_alloc_at _ _ _ _ rfl]; rfl
  have F1 := fun k => (HW.frozen (p := ⟨bn, k, none⟩) hb).trans (f1 k)
  have F2 := fun k => (HW.frozen (p := ⟨bp, k, none⟩) hp).trans (f2 k)
  have k1 := (HW.cell (p := ⟨bn, i, none⟩) hb).trans c1
  have k2 := (HW.cell (p := ⟨bn, j, none⟩) hb).trans c2
  clear c1 c2 f1 f2
  go_enter Tryd.func125, Tryd.ntmps125
  go_upto_region 1 with fail
  generalize w.alloc (.cells #[.int .i64 K, .string o, .string m, .slice (some ⟨bn, 0, none⟩) n c, .slice (some ⟨bp, 0, none⟩) l d] 53) = W0 at k1 k2 b3 b4 F1 F2 HW ⊢
  have HW0 : Hid _ := HW
  clear HW
  generalize hg : w.heap.size = g at b3 b4 ⊢
  have q1 := F1 i
  have q2 := F1 j
  obtain ⟨v', hy'⟩ := cell?_setCell_some (w := W0) (p := ⟨bn, i, none⟩) (x := .string y) (q := ⟨bn, j, none⟩) k2
  have HF1 : Hid _ := F1
  have HF2 : Hid _ := F2
  clear F1 F2
  go_region
  have hgn : bn ≠ g := by omega
  have hgp : bp ≠ g := by omega
  have b40 := b4
  have b4' : (((W0.setCell ⟨bn, i, none⟩ (.string y)).setCell ⟨bn, j, none⟩ (.string x)).drew).cell? ⟨g, 4, none⟩ = some (.slice (some ⟨bp, 0, none⟩) l d) := by
    rw [World.cell?_drew, World.cell?_setCell_far _ _ _ _ (by assumption), World.cell?_setCell_far _ _ _ _ (by assumption)]; exact b40
  have P00 := (HW0.out.cell (p := ⟨bp, i * 5, none⟩) hp).trans p0
  have R00 := (HW0.out.cell (p := ⟨bp, j * 5, none⟩) hp).trans r0
  have P0 : (((W0.setCell ⟨bn, i, none⟩ (.string y)).setCell ⟨bn, j, none⟩ (.string x)).drew).cell? ⟨bp, i * 5, none⟩ = some (.int .i64 uk) := by
    rw [World.cell?_drew, World.cell?_setCell_far _ _ _ _ (by assumption), World.cell?_setCell_far _ _ _ _ (by assumption)]; exact P00
  have R0 : (((W0.setCell ⟨bn, i, none⟩ (.string y)).setCell ⟨bn, j, none⟩ (.string x)).drew).cell? ⟨bp, j * 5, none⟩ = some (.int .i64 vk) := by
    rw [World.cell?_drew, World.cell?_setCell_far _ _ _ _ (by assumption), World.cell?_setCell_far _ _ _ _ (by assumption)]; exact R00
  have P10 := (HW0.out.cell (p := ⟨bp, i * 5 + 1, none⟩) hp).trans p1
  have R10 := (HW0.out.cell (p := ⟨bp, j * 5 + 1, none⟩) hp).trans r1
  have P1 : (((W0.setCell ⟨bn, i, none⟩ (.string y)).setCell ⟨bn, j, none⟩ (.string x)).drew).cell? ⟨bp, i * 5 + 1, none⟩ = some (.string u1) := by
    rw [World.cell?_drew, World.cell?_setCell_far _ _ _ _ (by assumption), World.cell?_setCell_far _ _ _ _ (by assumption)]; exact P10
  have R1 : (((W0.setCell ⟨bn, i, none⟩ (.string y)).setCell ⟨bn, j, none⟩ (.string x)).drew).cell? ⟨bp, j * 5 + 1, none⟩ = some (.string v1) := by
    rw [World.cell?_drew, World.cell?_setCell_far _ _ _ _ (by assumption), World.cell?_setCell_far _ _ _ _ (by assumption)]; exact R10
  have P20 := (HW0.out.cell (p := ⟨bp, i * 5 + 2, none⟩) hp).trans p2
  have R20 := (HW0.out.cell (p := ⟨bp, j * 5 + 2, none⟩) hp).trans r2
  have P2 : (((W0.setCell ⟨bn, i, none⟩ (.string y)).setCell ⟨bn, j, none⟩ (.string x)).drew).cell? ⟨bp, i * 5 + 2, none⟩ = some (.string u2) := by
    rw [World.cell?_drew, World.cell?_setCell_far _ _ _ _ (by assumption), World.cell?_setCell_far _ _ _ _ (by assumption)]; exact P20
  have R2 : (((W0.setCell ⟨bn, i, none⟩ (.string y)).setCell ⟨bn, j, none⟩ (.string x)).drew).cell? ⟨bp, j * 5 + 2, none⟩ = some (.string v2) := by
    rw [World.cell?_drew, World.cell?_setCell_far _ _ _ _ (by assumption), World.cell?_setCell_far _ _ _ _ (by assumption)]; exact R20
  have P30 := (HW0.out.cell (p := ⟨bp, i * 5 + 3, none⟩) hp).trans p3
  have R30 := (HW0.out.cell (p := ⟨bp, j * 5 + 3, none⟩) hp).trans r3
  have P3 : (((W0.setCell ⟨bn, i, none⟩ (.string y)).setCell ⟨bn, j, none⟩ (.string x)).drew).cell? ⟨bp, i * 5 + 3, none⟩ = some (.slice uA un uc) := by
    rw [World.cell?_drew, World.cell?_setCell_far _ _ _ _ (by assumption), World.cell?_setCell_far _ _ _ _ (by assumption)]; exact P30
  have R3 : (((W0.setCell ⟨bn, i, none⟩ (.string y)).setCell ⟨bn, j, none⟩ (.string x)).drew).cell? ⟨bp, j * 5 + 3, none⟩ = some (.slice vA vn vc) := by
    rw [World.cell?_drew, World.cell?_setCell_far _ _ _ _ (by assumption), World.cell?_setCell_far _ _ _ _ (by assumption)]; exact R30
  have P40 := (HW0.out.cell (p := ⟨bp, i * 5 + 4, none⟩) hp).trans p4
  have R40 := (HW0.out.cell (p := ⟨bp, j * 5 + 4, none⟩) hp).trans r4
  have P4 : (((W0.setCell ⟨bn, i, none⟩ (.string y)).setCell ⟨bn, j, none⟩ (.string x)).drew).cell? ⟨bp, i * 5 + 4, none⟩ = some (.slice uP um ud) := by
    rw [World.cell?_drew, World.cell?_setCell_far _ _ _ _ (by assumption), World.cell?_setCell_far _ _ _ _ (by assumption)]; exact P40
  have R4 : (((W0.setCell ⟨bn, i, none⟩ (.string y)).setCell ⟨bn, j, none⟩ (.string x)).drew).cell? ⟨bp, j * 5 + 4, none⟩ = some (.slice vP vm vd) := by
    rw [World.cell?_drew, World.cell?_setCell_far _ _ _ _ (by assumption), World.cell?_setCell_far _ _ _ _ (by assumption)]; exact R40
  clear P00 P10 P20 P30 P40 R00 R10 R20 R30 R40 b40 p0 p1 p2 p3 p4 r0 r1 r2 r3 r4
  have G2 : ∀ k, (((W0.setCell ⟨bn, i, none⟩ (.string y)).setCell ⟨bn, j, none⟩ (.string x)).drew).frozen? ⟨bp, k, none⟩ = false := fun k => by rw [World.frozen?_drew]; simpa using HF2.out k
  clear b3 q1 q2 k1 k2
  go_upto_region 2 with fail
  generalize hW1 : (((W0.setCell ⟨bn, i, none⟩ (.string y)).setCell ⟨bn, j, none⟩ (.string x)).drew) = W1 at b4' P0 P1 P2 P3 P4 R0 R1 R2 R3 R4 G2 ⊢
  have HW1 : Hid _ := hW1
  clear hW1 b4 hy'
  have g0 := G2 (i * 5)
  have h0 := G2 (j * 5)
  have g1 := G2 (i * 5 + 1)
  have h1 := G2 (j * 5 + 1)
  have g2 := G2 (i * 5 + 2)
  have h2 := G2 (j * 5 + 2)
  have g3 := G2 (i * 5 + 3)
  have h3 := G2 (j * 5 + 3)
  have g4 := G2 (i * 5 + 4)
  have h4 := G2 (j * 5 + 4)
  clear G2
  have EX0 : ∃ v, (W1.setCell ⟨bp, i * 5, none⟩ (.int .i64 vk)).cell? ⟨bp, j * 5, none⟩ = some v := by
    obtain ⟨e10, E10⟩ := cell?_setCell_some (w := W1) (p := ⟨bp, i * 5, none⟩) (x := (.int .i64 vk)) (q := ⟨bp, j * 5, none⟩) R0
    exact ⟨_, E10⟩
  obtain ⟨e0, E0⟩ := EX0
  have EX1 : ∃ v, ((W1.setCell ⟨bp, i * 5, none⟩ (.int .i64 vk)).setCell ⟨bp, i * 5 + 1, none⟩ (.string v1)).cell? ⟨bp, j * 5 + 1, none⟩ = some v := by
    obtain ⟨e11, E11⟩ := cell?_setCell_some (w := W1) (p := ⟨bp, i * 5, none⟩) (x := (.int .i64 vk)) (q := ⟨bp, j * 5 + 1, none⟩) R1
    obtain ⟨e21, E21⟩ := cell?_setCell_some (w := (W1.setCell ⟨bp, i * 5, none⟩ (.int .i64 vk))) (p := ⟨bp, i * 5 + 1, none⟩) (x := (.string v1)) (q := ⟨bp, j * 5 + 1, none⟩) E11
    exact ⟨_, E21⟩
  obtain ⟨e1, E1⟩ := EX1
  have EX2 : ∃ v, (((W1.setCell ⟨bp, i * 5, none⟩ (.int .i64 vk)).setCell ⟨bp, i * 5 + 1, none⟩ (.string v1)).setCell ⟨bp, i * 5 + 2, none⟩ (.string v2)).cell? ⟨bp, j * 5 + 2, none⟩ = some v := by
    obtain ⟨e12, E12⟩ := cell?_setCell_some (w := W1) (p := ⟨bp, i * 5, none⟩) (x := (.int .i64 vk)) (q := ⟨bp, j * 5 + 2, none⟩) R2
    obtain ⟨e22, E22⟩ := cell?_setCell_some (w := (W1.setCell ⟨bp, i * 5, none⟩ (.int .i64 vk))) (p := ⟨bp, i * 5 + 1, none⟩) (x := (.string v1)) (q := ⟨bp, j * 5 + 2, none⟩) E12
    obtain ⟨e32, E32⟩ := cell?_setCell_some (w := ((W1.setCell ⟨bp, i * 5, none⟩ (.int .i64 vk)).setCell ⟨bp, i * 5 + 1, none⟩ (.string v1))) (p := ⟨bp, i * 5 + 2, none⟩) (x := (.string v2)) (q := ⟨bp, j * 5 + 2, none⟩) E22
    exact ⟨_, E32⟩
  obtain ⟨e2, E2⟩ := EX2
  have EX3 : ∃ v, ((((W1.setCell ⟨bp, i * 5, none⟩ (.int .i64 vk)).setCell ⟨bp, i * 5 + 1, none⟩ (.string v1)).setCell ⟨bp, i * 5 + 2, none⟩ (.string v2)).setCell ⟨bp, i * 5 + 3, none⟩ (.slice vA vn vc)).cell? ⟨bp, j * 5 + 3, none⟩ = some v := by
    obtain ⟨e13, E13⟩ := cell?_setCell_some (w := W1) (p := ⟨bp, i * 5, none⟩) (x := (.int .i64 vk)) (q := ⟨bp, j * 5 + 3, none⟩) R3
    obtain ⟨e23, E23⟩ := cell?_setCell_some (w := (W1.setCell ⟨bp, i * 5, none⟩ (.int .i64 vk))) (p := ⟨bp, i * 5 + 1, none⟩) (x := (.string v1)) (q := ⟨bp, j * 5 + 3, none⟩) E13
    obtain ⟨e33, E33⟩ := cell?_setCell_some (w := ((W1.setCell ⟨bp, i * 5, none⟩ (.int .i64 vk)).setCell ⟨bp, i * 5 + 1, none⟩ (.string v1))) (p := ⟨bp, i * 5 + 2, none⟩) (x := (.string v2)) (q := ⟨bp, j * 5 + 3, none⟩) E23
    obtain ⟨e43, E43⟩ := cell?_setCell_some (w := (((W1.setCell ⟨bp, i * 5, none⟩ (.int .i64 vk)).setCell ⟨bp, i * 5 + 1, none⟩ (.string v1)).setCell ⟨bp, i * 5 + 2, none⟩ (.string v2))) (p := ⟨bp, i * 5 + 3, none⟩) (x := (.slice vA vn vc)) (q := ⟨bp, j * 5 + 3, none⟩) E33
    exact ⟨_, E43⟩
  obtain ⟨e3, E3⟩ := EX3
  have EX4 : ∃ v, (((((W1.setCell ⟨bp, i * 5, none⟩ (.int .i64 vk)).setCell ⟨bp, i * 5 + 1, none⟩ (.string v1)).setCell ⟨bp, i * 5 + 2, none⟩ (.string v2)).setCell ⟨bp, i * 5 + 3, none⟩ (.slice vA vn vc)).setCell ⟨bp, i * 5 + 4, none⟩ (.slice vP vm vd)).cell? ⟨bp, j * 5 + 4, none⟩ = some v := by
    obtain ⟨e14, E14⟩ := cell?_setCell_some (w := W1) (p := ⟨bp, i * 5, none⟩) (x := (.int .i64 vk)) (q := ⟨bp, j * 5 + 4, none⟩) R4
    obtain ⟨e24, E24⟩ := cell?_setCell_some (w := (W1.setCell ⟨bp, i * 5, none⟩ (.int .i64 vk))) (p := ⟨bp, i * 5 + 1, none⟩) (x := (.string v1)) (q := ⟨bp, j * 5 + 4, none⟩) E14
    obtain ⟨e34, E34⟩ := cell?_setCell_some (w := ((W1.setCell ⟨bp, i * 5, none⟩ (.int .i64 vk)).setCell ⟨bp, i * 5 + 1, none⟩ (.string v1))) (p := ⟨bp, i * 5 + 2, none⟩) (x := (.string v2)) (q := ⟨bp, j * 5 + 4, none⟩) E24
    obtain ⟨e44, E44⟩ := cell?_setCell_some (w := (((W1.setCell ⟨bp, i * 5, none⟩ (.int .i64 vk)).setCell ⟨bp, i * 5 + 1, none⟩ (.string v1)).setCell ⟨bp, i * 5 + 2, none⟩ (.string v2))) (p := ⟨bp, i * 5 + 3, none⟩) (x := (.slice vA vn vc)) (q := ⟨bp, j * 5 + 4, none⟩) E34
    obtain ⟨e54, E54⟩ := cell?_setCell_some (w := ((((W1.setCell ⟨bp, i * 5, none⟩ (.int .i64 vk)).setCell ⟨bp, i * 5 + 1, none⟩ (.string v1)).setCell ⟨bp, i * 5 + 2, none⟩ (.string v2)).setCell ⟨bp, i * 5 + 3, none⟩ (.slice vA vn vc))) (p := ⟨bp, i * 5 + 4, none⟩) (x := (.slice vP vm vd)) (q := ⟨bp, j * 5 + 4, none⟩) E44
    exact ⟨_, E54⟩
  obtain ⟨e4, E4⟩ := EX4
  have hi2 : i < l := by omega
  have hj2 : j < l := by omega
  go_region
  go_end0
  refine ⟨rfl, W0, HW0.out, ?_⟩
  rw [← HW1.out]
  rfl
end Go.Proofs.YtkehnmapnckdgaaDoor
