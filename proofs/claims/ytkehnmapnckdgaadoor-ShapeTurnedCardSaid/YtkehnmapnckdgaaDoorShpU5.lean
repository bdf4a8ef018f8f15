/- The law's turned: records and variants the other way round. -/
import Derived.Test.YtkehnmapnckdgaaDoorShpU3
namespace Go.Proofs.YtkehnmapnckdgaaDoor
open Go.RowKit Shp
set_option linter.unusedVariables false
set_option linter.unusedSimpArgs false

/-- What is asked of the parts. -/
def Rt8 (t : Sh) : Prop := ∀ x ∈ t.parts, ∀ (q : Ptr) (w : World), ShAt w w.heap.size q x → Calls Tryd.prog 25 #[.agg #[.int .i64 x.kind, .string ⟨x.of_.toArray⟩, .string ⟨x.name.toArray⟩, .slice q.A x.names.length q.c, .slice q.P x.parts.length q.d]] w
  fun e w' => ∃ q' F, e = .returned (.agg #[.int .i64 (turned x).kind, .string ⟨(turned x).of_.toArray⟩, .string ⟨(turned x).name.toArray⟩, .slice q'.A (turned x).names.length q'.c, .slice q'.P (turned x).parts.length q'.d]) ∧ Own w' q' (turned x) F ∧ (∀ b ∈ F, w.heap.size ≤ b) ∧ Below w.heap.size w w'

/-- What holds between the operations of 'append([]T{y}, l...)'. -/
structure ChT (W0 : World) (ty : TypeId) (size : Nat) (val : Nat → Option Value) (y z : List Value) (lz : Nat) (d : Nat → Bool) (u : Nat → Value) (W : World) : Prop where
  bel : Below W0.heap.size W0 W
  vals : ∀ j, d j = true → ∀ v, val j = some v → u j = v
  r5 : d 5 = true → d 8 = false → W.ownsRow W0.heap.size ty size (u 5) 1 y
  r8 : d 8 = true → W.ownsRow W0.heap.size ty size (u 8) (1 + lz) (y ++ z)
  o8 : d 8 = true → d 5 = true
section
variable {W0 W : World} {ty size lz : Nat} {val : Nat → Option Value} {y z : List Value} {d : Nat → Bool} {u : Nat → Value}
theorem ChT.start (W0 : World) (ty : TypeId) (size : Nat) (val : Nat → Option Value) (y z : List Value) (lz : Nat) (u : Nat → Value) : ChT W0 ty size val y z lz (fun _ => false) u W0 := ⟨Below.refl _ _, nofun, nofun, nofun, nofun⟩
theorem ChT.vals' (h : ChT W0 ty size val y z lz d u W) {j : Nat} {v : Value} (hv : ∀ v', val j = some v' → v = v') : ∀ i, also d j i = true → ∀ v', val i = some v' → upd u j v i = v' := fun i hi v' hv' => by
  by_cases hij : i = j
  · subst hij; rw [upd_same]; exact hv v' hv'
  · rw [also_other d hij] at hi; rw [upd_other u v hij]; exact h.vals i hi v' hv'
theorem ChT.pure (h : ChT W0 ty size val y z lz d u W) {j : Nat} (hj : j ≠ 5 ∧ j ≠ 8) (v : Value) (hv : ∀ v', val j = some v' → v = v') : ChT W0 ty size val y z lz (also d j) (upd u j v) W := by
  obtain ⟨j0, j1⟩ := hj
  have k5 := also_other d (show 5 ≠ j by omega)
  have k8 := also_other d (show 8 ≠ j by omega)
  have l5 := upd_other u v (show 5 ≠ j by omega)
  have l8 := upd_other u v (show 8 ≠ j by omega)
  refine ⟨h.bel, h.vals' hv, ?_, ?_, ?_⟩
  · rw [k5, k8, l5]; exact h.r5
  · rw [k8, l8]; exact h.r8
  · rw [k5, k8]; exact h.o8
theorem ChT.mk5 (h : ChT W0 ty size val y z lz d u W) (hd : d 5 = false) (hval : val 5 = none) (hy : y.length = size) :
    ChT W0 ty size val y z lz (also d 5) (upd u 5 (.slice (some ⟨W.heap.size, 0, none⟩) 1 1)) (W.alloc (.cells y.toArray ty)) := by
  have n8 : d 8 = false := by
    cases hq : d 8 with
    | false => rfl
    | true => have := h.o8 hq; rw [hd] at this; cases this
  have k5 := also_same d 5
  have k8 := also_other d (show 8 ≠ 5 by decide)
  refine ⟨h.bel.trans ((below_one W (.cells y.toArray ty)).mono h.bel.size), h.vals' (fun v' hv => by rw [hval] at hv; cases hv), ?_, ?_, ?_⟩
  · intro _ _
    rw [upd_same]
    have := World.ownsRow_lit (base := W0.heap.size) (e := ty) (size := size) W y.toArray 1 h.bel.size (by decide) (by simp [hy])
    simpa using this
  · rw [k8, n8]; exact nofun
  · rw [k5]; intro _; rfl
theorem ChT.ap8 (h : ChT W0 ty size val y z lz d u W) (hd : d 8 = false) (hval : val 8 = none) (hp : d 5 = true) {v : Value} {W' : World} (hown : W'.ownsRow W0.heap.size ty size v (1 + lz) (y ++ z)) (hg : W.grownBy W' (u 5).ownBlock) :
    ChT W0 ty size val y z lz (also d 8) (upd u 8 v) W' := by
  have hr := h.r5 hp hd
  have k8 := also_same d 8
  have k5 := also_other d (show 5 ≠ 8 by decide)
  refine ⟨h.bel.trans ((Below.refl _ _).grown hg h.bel.size (fun k hk => (hr.lt k hk).1)), h.vals' (fun v' hv => by rw [hval] at hv; cases hv), ?_, ?_, ?_⟩
  · rw [k8]; exact nofun
  · intro _; rw [upd_same]; exact hown
  · rw [k5]; intro _; exact hp
end

def valT (ob sb : Nat) (AN : Option Addr) (m cN : Nat) (qA : Option Addr) (tn qc i : Nat) (pn : Addr) (y : List UInt8) : Nat → Option Value
  | 0 => some (.pointer (some ⟨sb, 3, none⟩))
  | 1 => some (.slice qA tn qc)
  | 2 => some (.int .i64 (i : Int))
  | 3 => some (.pointer (some pn))
  | 4 => some (.string ⟨y.toArray⟩)
  | 6 => some (.pointer (some ⟨ob, 3, none⟩))
  | 7 => some (.slice AN m cN)
  | 9 => some (.pointer (some ⟨ob, 3, none⟩))
  | _ => none

/-- The walk so far: the fields up to a number, the other way round. -/
def Ru7 (W1 wr : World) (ob : Nat) (t : Sh) (i : Nat) : Prop := ∃ l AN cN AP cP, OutS W1 wr ob t.kind t.of_ t.name (l.map El.n) l AN cN AP cP ∧ l.map pr = ((t.names.zip (t.parts.map turned)).take i).reverse

theorem Ru7.push {W1 wr W4 W5 : World} {ob : Nat} {t : Sh} {i : Nat} {l : List El} {AN AP : Option Addr} {cN cP : Nat} {x : El} (hO : OutS W1 wr ob t.kind t.of_ t.name (l.map El.n) l AN cN AP cP)
    (hl : l.map pr = ((t.names.zip (t.parts.map turned)).take i).reverse) (hi : i < (t.names.zip (t.parts.map turned)).length) (hx : pr x = (t.names.zip (t.parts.map turned))[i]'hi) (hxo : Own wr x.q x.t x.F) (hxf : ∀ b ∈ x.F, W1.heap.size ≤ b ∧ rowB AN ≠ some b ∧ rowB AP ≠ some b)
    (f1 : FinC wr ob 3 9 1 (l.length + 1) ([.string ⟨x.n.toArray⟩] ++ namesE (l.map El.n)) W4)
    (f2 : FinC W4 ob 4 25 5 (l.length + 1) (cells5 x ++ cellsE l) W5) : Ru7 W1 W5 ob t (i + 1) := by
  obtain ⟨Wm, g, cap, b1, r1, hg, rfl⟩ := f1
  obtain ⟨Wn, g2, cap2, b2, r2, hg2, rfl⟩ := f2
  have hW := hO.up.size
  have en : [.string ⟨x.n.toArray⟩] ++ namesE (l.map El.n) = namesE ((x :: l).map El.n) := by simp [namesE]
  have ec : cells5 x ++ cellsE l = cellsE (x :: l) := by rw [show x :: l = [x] ++ l from rfl, cellsE_append, cellsE_one]
  have el : (x :: l).length = l.length + 1 := by simp
  have elm : ((x :: l).map El.n).length = l.length + 1 := by rw [List.length_map, el]
  rw [en] at r1
  rw [ec] at r2
  have hO2 : OutS W1 (Wm.setCell ⟨ob, 3, none⟩ (.slice (some ⟨g, 0, none⟩) ((x :: l).map El.n).length cap)) ob t.kind t.of_ t.name ((x :: l).map El.n) l (some ⟨g, 0, none⟩) cap AP cP :=
    hO.putN b1 (by rw [elm]; exact own_le7 r1 hW) hg
  rw [elm] at hO2
  have hxo2 : Own (Wm.setCell ⟨ob, 3, none⟩ (.slice (some ⟨g, 0, none⟩) (l.length + 1) cap)) x.q x.t x.F := (own_below hxo b1).of (fun b hb => same_set7 _ _ _ (fun e => by
    have := (hxf b hb).1; have := hO.lt
    simp at e; omega)) (by simp [World.setCell])
  have hO3 := hO2.putP (l' := x :: l) (g := g2) (cap := cap2) (Wm := Wn) ⟨b2.os, b2.tape, b2.output, b2.size, fun j hj _ => b2.block j hj⟩
    (by rw [el]; exact own_le7 r2 (hO2.up.size)) (Or.inr hg2) (fun y hy => by
      rcases List.mem_cons.1 hy with rfl | hy
      · refine ⟨hxo2, fun b hb => ⟨(hxf b hb).1, fun e => ?_, (hxf b hb).2.2⟩⟩
        have e2 : g = b := Option.some.inj e
        have := hxo.lt b hb
        omega
      · exact ⟨hO2.own y hy, fun b hb => hO2.fs y hy b hb⟩)
  rw [el] at hO3
  refine ⟨x :: l, some ⟨g, 0, none⟩, cap, some ⟨g2, 0, none⟩, cap2, ?_, ?_⟩
  · rw [← elm, ← el] at *
    exact hO3
  · rw [take_next hi, List.reverse_append, ← hl, ← hx]; rfl

set_option maxRecDepth 100000 in
set_option maxHeartbeats 4000000 in
theorem rturned_plain (t : Sh) (q : Ptr) (w : World) (hq : ShAt w w.heap.size q t) (hz : t.parts.length ≤ 400) (hn : t.names = []) (hf : Rt8 t) :
    Calls Tryd.prog 25 #[.agg #[.int .i64 t.kind, .string ⟨t.of_.toArray⟩, .string ⟨t.name.toArray⟩, .slice q.A t.names.length q.c, .slice q.P t.parts.length q.d]] w
      fun e w' => ∃ q' F, e = .returned (.agg #[.int .i64 (turned t).kind, .string ⟨(turned t).of_.toArray⟩, .string ⟨(turned t).name.toArray⟩, .slice q'.A (turned t).names.length q'.c, .slice q'.P (turned t).parts.length q'.d]) ∧ Own w' q' (turned t) F ∧ (∀ b ∈ F, w.heap.size ≤ b) ∧ Below w.heap.size w w' := by
  have HS : Hid (turned t = ⟨t.kind, t.of_, t.name, [], t.parts.map turned⟩) := Lib.hid (by rw [turned_eq, if_pos hn])
  have HBW := Lib.hid (rW_below w t q)
  have HBA := Lib.hid (rW_arg w t q)
  have HBR := Lib.hid (rW_res w t q)
  have HBO := Lib.hid (rW_out w t q)
  have HSZ := Lib.hid (rW_size w t q)
  have HQ := Lib.hid hq
  have HP := Lib.hid hq.part
  have HF := Lib.hid hf
  have hn0 : (t.names.length : Int) = 0 := by rw [hn]; rfl
  have HB0 := Lib.hid (box5_new w t q)
  obtain ⟨b1, ⟨c0, c1, c2, c3, c4⟩, b2⟩ := HB0.out
  clear hq hf hn b1 b2
  go_enter Tryd.func25, Tryd.ntmps25
  go_wp2_with fail
  clear c0 c1 c2 c3 c4 HB0
  change Code.wp _ _ _ _ (rW w t q)
  obtain ⟨ob, hob⟩ : ∃ ob, ob = w.heap.size + 1 + 1 := ⟨_, rfl⟩
  have HOB := Lib.hid hob
  have HBO2 : Hid (OutS (rW w t q) (rW w t q) ob t.kind t.of_ t.name [] [] none 0 none 0) := Lib.hid (by rw [hob]; exact HBO.out)
  rw [← hob]
  generalize rW w t q = W1 at HBW HBA HBR HBO2 HSZ ⊢
  have hsw : w.heap.size ≠ ob := by omega
  clear HBO hob
  go_loopw [4] (fun ii wr => ∃ i : Nat, ii = .int .i64 i ∧ i ≤ t.parts.length ∧ Hid (Rp7 W1 wr ob t turned i)) (fun i _ => t.parts.length - (intOf i).toNat)
  case atStart => exact ⟨0, rfl, Nat.zero_le _, Lib.hid ⟨[], none, 0, HBO2.out, by simp⟩⟩
  case round =>
    obtain ⟨i, rfl, hi, HR⟩ := hrel
    obtain ⟨l, AP, cP, hO, hl⟩ := HR.out
    have hli : l.length = i := by
      have := congrArg List.length hl
      rw [List.length_map, List.length_take, List.length_map] at this
      omega
    have hbw : Below w.heap.size w wr := hO.up.old HBW.out (by have := HOB.out; omega)
    have HBX := Lib.hid (hO.box HBA.out hsw)
    obtain ⟨b1, ⟨c0, c1, c2, c3, c4⟩, b2⟩ := HBX.out
    simp only [Nat.zero_add] at c0 c1 c2 c3 c4
    clear b1 b2
    by_cases hlt : i < t.parts.length
    · rcases HP.out with h0 | ⟨g, off, qs, hqP, hg, hc, hr⟩
      · omega
      · obtain ⟨x, hx⟩ : ∃ x, x = t.parts[i] := ⟨_, rfl⟩
        obtain ⟨p0, p1, p2, p3, p4⟩ := (hc i hlt).keep hg hbw
        have IH := Lib.hid (HF.out t.parts[i] (List.getElem_mem _) (qs i) wr ((hr i hlt).keep hbw (Nat.le_refl _) |>.more hbw.size))
        rw [← hx] at p0 p1 p2 p3 p4 IH
        have HX := Lib.hid hx
        have HL := Lib.hid hl
        have HO := Lib.hid hO
        have HLI := Lib.hid hli
        have HBWR := Lib.hid hbw
        have hi1 : (i : Int) < (t.parts.length : Int) := by omega
        have hgw : g < wr.heap.size := Nat.lt_of_lt_of_le hg hbw.size
        rw [hqP] at c4
        have HQP := Lib.hid hqP
        clear hx hl hO hli hbw hc hr hqP HR
        go_wp2_with fail
        refine IH.out.mono ?_
        rintro e w2 ⟨q', F, rfl, ho, hF, hb2⟩
        obtain ⟨z, hz⟩ : ∃ z, z = turned x := ⟨_, rfl⟩
        rw [← hz] at ho ⊢
        have hO3 := (HO.out.below hb2).below (below_one w2 (.cells #[.int .i64 z.kind, .string ⟨z.of_.toArray⟩, .string ⟨z.name.toArray⟩, .slice q'.A z.names.length q'.c, .slice q'.P z.parts.length q'.d] 25))
        have hBX3 := (HBX.out.next hb2).next (below_one w2 (.cells #[.int .i64 z.kind, .string ⟨z.of_.toArray⟩, .string ⟨z.name.toArray⟩, .slice q'.A z.names.length q'.c, .slice q'.P z.parts.length q'.d] 25))
        have hnz := box5_new w2 z q'
        have HO3 := Lib.hid hO3
        have HOW := Lib.hid (own_below ho (below_one w2 (.cells #[.int .i64 z.kind, .string ⟨z.of_.toArray⟩, .string ⟨z.name.toArray⟩, .slice q'.A z.names.length q'.c, .slice q'.P z.parts.length q'.d] 25)))
        have HFB : Hid (∀ b ∈ F, W1.heap.size ≤ b ∧ rowB AP ≠ some b) := Lib.hid (fun b hb => by
          have h1 := hF b hb
          have h2 := HO.out.up.size
          refine ⟨by omega, fun e => ?_⟩
          have := (OutS.row HO.out.rP b e).2
          omega)
        obtain ⟨b1, ⟨k0, k1, k2, k3, k4⟩, b2⟩ := hBX3
        obtain ⟨b3, ⟨m0, m1, m2, m3, m4⟩, b4⟩ := hnz
        simp only [Nat.zero_add] at k0 k1 k2 k3 k4 m0 m1 m2 m3 m4
        have o4 := hO3.c4
        have fz4 := hO3.fz 4
        have HZ := Lib.hid hz
        have hl400 : l.length ≤ 400 := by have := HLI.out; omega
        obtain ⟨i0, hi2, hz0, hz1, hz2⟩ := info_parts (P := Tryd.prog) (e := 25) (z := .agg #[.int .i64 0, .string ByteArray.empty, .string ByteArray.empty, .slice none 0 0, .slice none 0 0]) (size := 5) (bytes := 88) info_shape7
        clear hO3 ho hF hz b1 b2 b3 b4 c0 c1 c2 c3 c4 p0 p1 p2 p3 p4 IH
        go_wp2_with (at_builtin; refine wpList_append_own_at _ rfl _ _ 23 rfl W1.heap.size 25 i0 (.agg #[.int .i64 0, .string ByteArray.empty, .string ByteArray.empty, .slice none 0 0, .slice none 0 0]) 5 88 Tryd.underlying23 hi2 hz0 hz1 hz2 rfl (by decide) _ _ _ rfl (HO3.out.rP.alloc _) ⟨w2.heap.size + 1, 0, none⟩ 1 1 (cells5 ⟨[], z, q', F⟩) rfl rfl (news5x _ ⟨[], z, q', F⟩ _ (by simp)) (cells5_one _) (by unfold maxLen; omega) (by omega) (by have := HO3.out.up.size; simp at this ⊢; omega) ?_)
        intro v' W3 hrow hg3 _ hat
        obtain ⟨g3, cap, rfl, _, _⟩ := hrow.form (by omega)
        simp only [rowB_own] at hg3 hat
        have hat2 : rowB AP = some g3 ∨ g3 = ((w2.alloc (.cells #[.int .i64 z.kind, .string ⟨z.of_.toArray⟩, .string ⟨z.name.toArray⟩, .slice q'.A z.names.length q'.c, .slice q'.P z.parts.length q'.d] 25)).alloc (.cells #[.int .i64 z.kind, .string ⟨z.of_.toArray⟩, .string ⟨z.name.toArray⟩, .slice q'.A z.names.length q'.c, .slice q'.P z.parts.length q'.d] 25)).heap.size := by
          rcases hat with h | h
          · exact Or.inl h.symm
          · exact Or.inr (by have := Option.some.inj h; simp at this ⊢; omega)
        have HN : Hid (Rp7 W1 (W3.setCell ⟨ob, 4, none⟩ (.slice (some ⟨g3, 0, none⟩) (l.length + 1) cap)) ob t turned (i + 1)) := Lib.hid (Rp7.push (x := ⟨[], z, q', F⟩) HO3.out HL.out hlt (by rw [← HX.out, ← HZ.out]) HOW.out HFB.out hg3 hat2 hrow)
        have hobr : some ob ≠ rowB AP := fun e => by have := (OutS.row HO3.out.rP ob e.symm).1; have := HO3.out.lt; omega
        have hobl : ob < ((w2.alloc (.cells #[.int .i64 z.kind, .string ⟨z.of_.toArray⟩, .string ⟨z.name.toArray⟩, .slice q'.A z.names.length q'.c, .slice q'.P z.parts.length q'.d] 25)).alloc (.cells #[.int .i64 z.kind, .string ⟨z.of_.toArray⟩, .string ⟨z.name.toArray⟩, .slice q'.A z.names.length q'.c, .slice q'.P z.parts.length q'.d] 25)).heap.size := by
          have := HO3.out.up.size; have := HO3.out.lt; simp at *; omega
        have x4 := (World.cell?_of_block (w := (w2.alloc (.cells #[.int .i64 z.kind, .string ⟨z.of_.toArray⟩, .string ⟨z.name.toArray⟩, .slice q'.A z.names.length q'.c, .slice q'.P z.parts.length q'.d] 25)).alloc (.cells #[.int .i64 z.kind, .string ⟨z.of_.toArray⟩, .string ⟨z.name.toArray⟩, .slice q'.A z.names.length q'.c, .slice q'.P z.parts.length q'.d] 25)) (a := ⟨ob, 4, none⟩) (hg3.block ob hobl hobr)).trans (((below_one (w2.alloc (.cells #[.int .i64 z.kind, .string ⟨z.of_.toArray⟩, .string ⟨z.name.toArray⟩, .slice q'.A z.names.length q'.c, .slice q'.P z.parts.length q'.d] 25)) (.cells #[.int .i64 z.kind, .string ⟨z.of_.toArray⟩, .string ⟨z.name.toArray⟩, .slice q'.A z.names.length q'.c, .slice q'.P z.parts.length q'.d] 25)).cell (p := ⟨ob, 4, none⟩) (by simp at hobl ⊢; have := HO3.out.up.size; have := HO3.out.lt; simp at *; omega)).trans HO3.out.c4)
        have xf := (World.frozen?_of_block (w := (w2.alloc (.cells #[.int .i64 z.kind, .string ⟨z.of_.toArray⟩, .string ⟨z.name.toArray⟩, .slice q'.A z.names.length q'.c, .slice q'.P z.parts.length q'.d] 25)).alloc (.cells #[.int .i64 z.kind, .string ⟨z.of_.toArray⟩, .string ⟨z.name.toArray⟩, .slice q'.A z.names.length q'.c, .slice q'.P z.parts.length q'.d] 25)) (a := ⟨ob, 4, none⟩) (hg3.block ob hobl hobr)).trans (((below_one (w2.alloc (.cells #[.int .i64 z.kind, .string ⟨z.of_.toArray⟩, .string ⟨z.name.toArray⟩, .slice q'.A z.names.length q'.c, .slice q'.P z.parts.length q'.d] 25)) (.cells #[.int .i64 z.kind, .string ⟨z.of_.toArray⟩, .string ⟨z.name.toArray⟩, .slice q'.A z.names.length q'.c, .slice q'.P z.parts.length q'.d] 25)).frozen (p := ⟨ob, 4, none⟩) (by simp at hobl ⊢; have := HO3.out.up.size; have := HO3.out.lt; simp at *; omega)).trans (HO3.out.fz 4))
        clear hrow hg3 hat hat2 hobr hobl o4 fz4 k0 k1 k2 k3 k4 m0 m1 m2 m3 m4
        go_wp2
        go_roundw
        case rel => exact ⟨i + 1, by go_num, by omega, HN⟩
        case measure => simp [intOf]; omega
    · have hie : i = t.parts.length := by omega
      have HLL := Lib.hid hli
      have HE : Hid (l.map El.t = t.parts.map turned) := Lib.hid (by rw [hl, hie, List.take_of_length_le (by simp)])
      have hi1 : ¬ (i : Int) < (t.parts.length : Int) := by omega
      have HO := Lib.hid hO
      have HBWR := Lib.hid hbw
      have HER := Lib.hid (hO.box HBR.out (by have := HOB.out; omega))
      have HOO := Lib.hid (show w.heap.size + 1 ≠ ob by have := HOB.out; omega)
      obtain ⟨_, ⟨r0, r1, r2, r3, r4⟩, f0, f1, f2, f3, f4⟩ := HER.out
      simp only [Nat.zero_add] at r0 r1 r2 r3 r4
      have o0 := hO.c0
      have o1 := hO.c1
      have o2 := hO.c2
      have o3 := hO.c3
      have o4 := hO.c4
      clear hO hl hbw
      have hne : ob ≠ w.heap.size + 1 := fun e => HOO.out e.symm
      go_wp2
      refine bodyPost_ret (v := .agg #[.int .i64 t.kind, .string ⟨t.of_.toArray⟩, .string ⟨t.name.toArray⟩, .slice none 0 0, .slice AP t.parts.length cP]) (by simp [results, Tryd.results25, go_sem, r0, r1, r2, r3, r4]) rfl ?_
      have hsm := HQ.out.small
      have hnn : (turned t).names = [] := by rw [HS.out]
      have hpp : (turned t).parts = l.map El.t := by rw [HS.out, HE.out]
      have hoo : (turned t).of_ = t.of_ := by rw [HS.out]
      have hna : (turned t).name = t.name := by rw [HS.out]
      have hkk : (turned t).kind = t.kind := by rw [HS.out]
      obtain ⟨ho, hF⟩ := HO.out.result (u := turned t) hnn hpp (by rw [hoo]; exact hsm.o) (by rw [hna]; exact hsm.n) (by rw [hnn]; nofun) (by simp) (by have := HLL.out; omega)
      have h5 := own_set5 (b := w.heap.size + 1) ho (fun b hb e => by have := hF b hb; have := HSZ.out; omega) (.int .i64 t.kind) (.string ⟨t.of_.toArray⟩) (.string ⟨t.name.toArray⟩) (.slice none 0 0) (.slice AP t.parts.length cP)
      have h6 := below_put5 (b := w.heap.size + 1) HBWR.out (by omega) (.int .i64 t.kind) (.string ⟨t.of_.toArray⟩) (.string ⟨t.name.toArray⟩) (.slice none 0 0) (.slice AP t.parts.length cP)
      refine ⟨⟨none, 0, AP, cP⟩, ?_, (rowB none).toList ++ (rowB AP).toList ++ l.flatMap El.F, h5, fun b hb => by have := hF b hb; have := HSZ.out; omega, h6⟩
      rw [hkk, hoo, hna, hnn, hpp, List.length_map, HLL.out, hie]
      rfl
set_option maxRecDepth 100000 in
set_option maxHeartbeats 16000000 in
theorem rturned_named (t : Sh) (q : Ptr) (w : World) (hq : ShAt w w.heap.size q t) (hz : t.parts.length ≤ 400) (hn : t.names ≠ []) (hlen : t.names.length = t.parts.length) (hf : Rt8 t) :
    Calls Tryd.prog 25 #[.agg #[.int .i64 t.kind, .string ⟨t.of_.toArray⟩, .string ⟨t.name.toArray⟩, .slice q.A t.names.length q.c, .slice q.P t.parts.length q.d]] w
      fun e w' => ∃ q' F, e = .returned (.agg #[.int .i64 (turned t).kind, .string ⟨(turned t).of_.toArray⟩, .string ⟨(turned t).name.toArray⟩, .slice q'.A (turned t).names.length q'.c, .slice q'.P (turned t).parts.length q'.d]) ∧ Own w' q' (turned t) F ∧ (∀ b ∈ F, w.heap.size ≤ b) ∧ Below w.heap.size w w' := by
  have HS : Hid (turned t = ⟨t.kind, t.of_, t.name, t.names.reverse, (t.parts.map turned).reverse⟩) := Lib.hid (by rw [turned_eq, if_neg hn])
  have HZL : Hid ((t.names.zip (t.parts.map turned)).length = t.parts.length) := Lib.hid (by rw [List.length_zip, List.length_map]; omega)
  have HZA : Hid (∀ i (h : i < t.parts.length) (h1 : i < t.names.length) (h2 : i < (t.names.zip (t.parts.map turned)).length), (t.names.zip (t.parts.map turned))[i]'h2 = (t.names[i]'h1, turned (t.parts[i]'h))) := Lib.hid (fun i h h1 h2 => by rw [List.getElem_zip, List.getElem_map])
  have HBW := Lib.hid (rW_below w t q)
  have HBA := Lib.hid (rW_arg w t q)
  have HBR := Lib.hid (rW_res w t q)
  have HBO := Lib.hid (rW_out w t q)
  have HSZ := Lib.hid (rW_size w t q)
  have HQ := Lib.hid hq
  have HP := Lib.hid hq.part
  have HT := Lib.hid hq.strs
  have HF := Lib.hid hf
  have HLEN := Lib.hid hlen
  have hn0 : ((t.names.length : Int) == 0) = false := by
    rw [beq_eq_false_iff_ne]
    intro e
    exact hn (List.eq_nil_of_length_eq_zero (by omega))
  have HB0 := Lib.hid (box5_new w t q)
  obtain ⟨b1, ⟨c0, c1, c2, c3, c4⟩, b2⟩ := HB0.out
  clear hq hf hn b1 b2 hlen
  go_enter Tryd.func25, Tryd.ntmps25
  go_wp2_with fail
  clear c0 c1 c2 c3 c4 HB0
  change Code.wp _ _ _ _ (rW w t q)
  obtain ⟨ob, hob⟩ : ∃ ob, ob = w.heap.size + 1 + 1 := ⟨_, rfl⟩
  have HOB := Lib.hid hob
  have HBO2 : Hid (OutS (rW w t q) (rW w t q) ob t.kind t.of_ t.name [] [] none 0 none 0) := Lib.hid (by rw [hob]; exact HBO.out)
  rw [← hob]
  generalize rW w t q = W1 at HBW HBA HBR HBO2 HSZ ⊢
  have hsw : w.heap.size ≠ ob := by omega
  clear HBO hob
  go_loopw [4] (fun ii wr => ∃ i : Nat, ii = .int .i64 i ∧ i ≤ t.parts.length ∧ Hid (Ru7 W1 wr ob t i)) (fun i _ => t.parts.length - (intOf i).toNat)
  case atStart => exact ⟨0, rfl, Nat.zero_le _, Lib.hid ⟨[], none, 0, none, 0, HBO2.out, rfl⟩⟩
  case round =>
    obtain ⟨i, rfl, hi, HR⟩ := hrel
    obtain ⟨l, AN, cN, AP, cP, hO, hl⟩ := HR.out
    have hli : l.length = i := by
      have := congrArg List.length hl
      rw [List.length_map, List.length_reverse, List.length_take] at this
      have := HZL.out
      omega
    have hbw : Below w.heap.size w wr := hO.up.old HBW.out (by have := HOB.out; omega)
    have HBX := Lib.hid (hO.box HBA.out hsw)
    obtain ⟨b1, ⟨c0, c1, c2, c3, c4⟩, b2⟩ := HBX.out
    simp only [Nat.zero_add] at c0 c1 c2 c3 c4
    clear b1 b2
    by_cases hlt : i < t.parts.length
    · rcases HP.out with h0 | ⟨g, off, qs, hqP, hg, hc, hr⟩
      · omega
      · have hin : i < t.names.length := by have := HLEN.out; omega
        rcases HT.out.cell7 with h0 | ⟨gn, offn, hqA, hgn, hcn⟩
        · omega
        have y1 := (hbw.cell (p := ⟨gn, offn + i, none⟩) hgn).trans (hcn i hin)
        obtain ⟨x, hx⟩ : ∃ x, x = t.parts[i] := ⟨_, rfl⟩
        obtain ⟨y, hy⟩ : ∃ y, y = t.names[i]'hin := ⟨_, rfl⟩
        obtain ⟨p0, p1, p2, p3, p4⟩ := (hc i hlt).keep hg hbw
        have IH := Lib.hid (HF.out t.parts[i] (List.getElem_mem _) (qs i) wr ((hr i hlt).keep hbw (Nat.le_refl _) |>.more hbw.size))
        rw [← hx] at p0 p1 p2 p3 p4 IH
        rw [← hy] at y1
        have HZI : Hid (∀ h, (t.names.zip (t.parts.map turned))[i]'h = (y, turned x)) := Lib.hid (fun h => by rw [hx, hy]; exact HZA.out i hlt hin h)
        have HL := Lib.hid hl
        have HO := Lib.hid hO
        have HLI := Lib.hid hli
        have hl400 : l.length ≤ 400 := by omega
        have HBWR := Lib.hid hbw
        have HY1 := Lib.hid y1
        have HGN : Hid (gn < w.heap.size) := Lib.hid hgn
        have hi1 : (i : Int) < (t.parts.length : Int) := by omega
        have hi2 : (i : Int) < (t.names.length : Int) := by omega
        have hgw : g < wr.heap.size := Nat.lt_of_lt_of_le hg hbw.size
        rw [hqP] at c4
        have HQA := Lib.hid hqA
        clear hx hy hl hO hli hbw hc hr hqP HR hqA hcn y1 hin
        go_wp2_with fail
        refine IH.out.mono ?_
        rintro e w2 ⟨q', F, rfl, ho, hF, hb2⟩
        obtain ⟨z, hz'⟩ : ∃ z, z = turned x := ⟨_, rfl⟩
        rw [← hz'] at ho HZI ⊢
        have HPB : Hid (w2.heap.size ≠ ob) := Lib.hid (by have := HO.out.lt; have := HO.out.up.size; have := hb2.size; omega)
        have HO3 := Lib.hid ((HO.out.below hb2).below (below_one w2 (.cells #[.int .i64 z.kind, .string ⟨z.of_.toArray⟩, .string ⟨z.name.toArray⟩, .slice q'.A z.names.length q'.c, .slice q'.P z.parts.length q'.d] 25)))
        have HBX3 := Lib.hid ((HBX.out.next hb2).next (below_one w2 (.cells #[.int .i64 z.kind, .string ⟨z.of_.toArray⟩, .string ⟨z.name.toArray⟩, .slice q'.A z.names.length q'.c, .slice q'.P z.parts.length q'.d] 25)))
        have HNZ := Lib.hid (box5_new w2 z q')
        have HOW := Lib.hid (own_below ho (below_one w2 (.cells #[.int .i64 z.kind, .string ⟨z.of_.toArray⟩, .string ⟨z.name.toArray⟩, .slice q'.A z.names.length q'.c, .slice q'.P z.parts.length q'.d] 25)))
        have HFB : Hid (∀ b ∈ F, W1.heap.size ≤ b ∧ rowB AN ≠ some b ∧ rowB AP ≠ some b) := Lib.hid (fun b hb => by
          have h1 := hF b hb
          have h2 := HO.out.up.size
          refine ⟨by omega, fun e => ?_, fun e => ?_⟩
          · have := (OutS.row HO.out.rN b e).2; omega
          · have := (OutS.row HO.out.rP b e).2; omega)
        have hbw3 := below_next (below_next HBWR.out (hb2.mono (Nat.le_refl _))) (below_one w2 (.cells #[.int .i64 z.kind, .string ⟨z.of_.toArray⟩, .string ⟨z.name.toArray⟩, .slice q'.A z.names.length q'.c, .slice q'.P z.parts.length q'.d] 25))
        have HBW3 := Lib.hid hbw3
        have HY3 : Hid ((w2.alloc (.cells #[.int .i64 z.kind, .string ⟨z.of_.toArray⟩, .string ⟨z.name.toArray⟩, .slice q'.A z.names.length q'.c, .slice q'.P z.parts.length q'.d] 25)).cell? ⟨gn, offn + i, none⟩ = some (.string ⟨y.toArray⟩)) := Lib.hid ((((below_next hb2 (below_one w2 (.cells #[.int .i64 z.kind, .string ⟨z.of_.toArray⟩, .string ⟨z.name.toArray⟩, .slice q'.A z.names.length q'.c, .slice q'.P z.parts.length q'.d] 25)))).cell (p := ⟨gn, offn + i, none⟩) (Nat.lt_of_lt_of_le HGN.out HBWR.out.size)).trans HY1.out)
        obtain ⟨b1, ⟨k0, k1, k2, k3, k4⟩, b2⟩ := HBX3.out
        simp only [Nat.zero_add] at k0 k1 k2 k3 k4
        clear ho hF hz' b1 b2 c0 c1 c2 c3 c4 p0 p1 p2 p3 p4 IH hbw3 hb2
        have hxe : (⟨y, z, q', F⟩ : El).n = y := rfl
        go_wp2_with fail
        generalize w2.alloc (.cells #[.int .i64 z.kind, .string ⟨z.of_.toArray⟩, .string ⟨z.name.toArray⟩, .slice q'.A z.names.length q'.c, .slice q'.P z.parts.length q'.d] 25) = W3 at HO3 HBX3 HNZ HOW HBW3 HY3 k0 k1 k2 k3 k4 ⊢
        clear k0 k1 k2 k3 k4
        obtain ⟨wd, hwd⟩ : ∃ wd, wd = W3.drew := ⟨_, rfl⟩
        have HDW : Hid (Below W3.heap.size W3 wd) := Lib.hid (by rw [hwd]; exact (Below.refl _ _).drew)
        have HO4 := Lib.hid (HO3.out.below HDW.out)
        have HBX4 := Lib.hid (HBX3.out.next HDW.out)
        have HNZ4 := Lib.hid (HNZ.out.next HDW.out)
        have HOW4 := Lib.hid (own_below HOW.out HDW.out)
        have HY4 : Hid (wd.cell? ⟨gn, offn + i, none⟩ = some (.string ⟨y.toArray⟩)) := Lib.hid ((HDW.out.cell (p := ⟨gn, offn + i, none⟩) (Nat.lt_of_lt_of_le HGN.out HBW3.out.size)).trans HY3.out)
        have HGD : Hid (gn < wd.heap.size) := Lib.hid (Nat.lt_of_lt_of_le HGN.out (Nat.le_trans HBW3.out.size HDW.out.size))
        have HOBD : Hid (ob < wd.heap.size) := Lib.hid (Nat.lt_of_lt_of_le HO4.out.lt HO4.out.up.size)
        have HRN : Hid (wd.ownsRow W1.heap.size 9 1 (.slice AN l.length cN) l.length (namesE (l.map El.n))) := Lib.hid (by have := HO4.out.rN; rwa [List.length_map] at this)
        have HRP : Hid (wd.ownsRow W1.heap.size 25 5 (.slice AP l.length cP) l.length (cellsE l)) := Lib.hid HO4.out.rP
        have HC3 : Hid (wd.cell? ⟨ob, 3, none⟩ = some (.slice AN l.length cN)) := Lib.hid (by have := HO4.out.c3; rwa [List.length_map] at this)
        obtain ⟨i0n, hin, hzn0, hzn1, hzn2⟩ := info_parts (P := Tryd.prog) (e := 9) (z := .string ByteArray.empty) (size := 1) (bytes := 16) info_str7
        obtain ⟨i0p, hip, hzp0, hzp1, hzp2⟩ := info_parts (P := Tryd.prog) (e := 25) (z := .agg #[.int .i64 0, .string ByteArray.empty, .string ByteArray.empty, .slice none 0 0, .slice none 0 0]) (size := 5) (bytes := 88) info_shape7
        rw [hwd] at HO4 HBX4 HNZ4 HOW4 HY4 HGD HOBD HRN HRP HC3
        clear hwd HDW
        refine wp_inv (rs := [0, 1, 2, 3, 4, 5, 6, 7, 8, 9, 10])
          (fun u' => { tmps := #[.agg #[.int .i64 t.kind, .string { data := t.of_.toArray }, .string { data := t.name.toArray }, .slice q.A t.names.length q.c, .slice q.P t.parts.length q.d], .pointer (some { block := w.heap.size, off := 0 }), .pointer (some { block := w.heap.size + 1, off := 0 }), .pointer (some { block := ob, off := 0 }), .int .i64 ↑i, .pointer (some { block := w2.heap.size, off := 0 }), .pointer (some { block := w.heap.size, off := 0 }), .int .i64 t.kind, .pointer (some { block := w.heap.size, off := 1 }), .string { data := t.of_.toArray }, .pointer (some { block := w.heap.size, off := 2 }), .string { data := t.name.toArray }, .agg #[.int .i64 t.kind, .string { data := t.of_.toArray }, .string { data := t.name.toArray }, .slice none 0 0, .slice none 0 0], .int .i64 ↑i, .pointer (some { block := w.heap.size, off := 4 }), .slice (some { block := g, off := off }) t.parts.length q.d, .int .i64 ↑t.parts.length, .bool true, u18, u19, .pointer (some { block := w.heap.size, off := 4 }), .slice (some { block := g, off := off }) t.parts.length q.d, .int .i64 ↑i, .pointer (some { block := g, off := off + i * 5 }), .agg #[.int .i64 x.kind, .string { data := x.of_.toArray }, .string { data := x.name.toArray }, .slice (qs i).A x.names.length (qs i).c, .slice (qs i).P x.parts.length (qs i).d], .agg #[.int .i64 z.kind, .string { data := z.of_.toArray }, .string { data := z.name.toArray }, .slice q'.A z.names.length q'.c, .slice q'.P z.parts.length q'.d], .pointer (some { block := w.heap.size, off := 3 }), .slice q.A t.names.length q.c, .int .i64 ↑t.names.length, .bool false, u30, u31, u32, u33, u34, u35, u' 0, u' 1, u' 2, u' 3, u' 4, u' 5, u' 6, u' 7, u' 8, u' 9, u46, u47, u48, u49, u50, u51, undef], defers := [] })
          (fun j => ([u36, u37, u38, u39, u40, u41, u42, u43, u44, u45, undef] : List Value).getD j undef) (InvC 10 (ChT W3.drew 9 1 (valT ob w.heap.size AN l.length cN (some ⟨gn, offn, none⟩) t.names.length q.c i ⟨gn, offn + i, none⟩ y) [.string ⟨y.toArray⟩] (namesE (l.map El.n)) l.length) (FinC W3.drew ob 3 9 1 (l.length + 1) ([.string ⟨y.toArray⟩] ++ namesE (l.map El.n)))) (by kernel_rfl) (by kernel_rfl) (by kernel_rfl) (Or.inl ⟨rfl, ChT.start _ _ _ _ _ _ _ _⟩) ?_ ?_
        refine StepsInv.cons _ rfl (fun d u' W K' hI hd hw hK => ?_) ?_
        · obtain ⟨hS, hC⟩ := hI.open hd (by decide)
          refine step_value (v := .pointer (some ⟨w.heap.size, 3, none⟩)) (W' := W) rfl ?_ (hK.out _ _ (InvC.next hS (by decide) (hC.pure (by decide) _ (fun v' h => by cases h; rfl))))
          try dsimp only
          go_simp
        refine StepsInv.cons _ rfl (fun d u' W K' hI hd hw hK => ?_) ?_
        · obtain ⟨hS, hC⟩ := hI.open hd (by decide)
          have d0 : u' 0 = .pointer (some ⟨w.heap.size, 3, none⟩) := hC.vals 0 (hw 0 (by kernel_rfl)) _ rfl
          obtain ⟨_, ⟨y0, y1, y2, y3, y4⟩, _⟩ := HBX4.out.next hC.bel
          simp only [Nat.zero_add] at y0 y1 y2 y3 y4
          rw [HQA.out] at y3
          refine step_value (v := .slice (some ⟨gn, offn, none⟩) t.names.length q.c) (W' := W) rfl ?_ (hK.out _ _ (InvC.next hS (by decide) (hC.pure (by decide) _ (fun v' h => by cases h; rfl))))
          try dsimp only
          go_simp
        refine StepsInv.cons _ rfl (fun d u' W K' hI hd hw hK => ?_) ?_
        · obtain ⟨hS, hC⟩ := hI.open hd (by decide)
          refine step_value (v := .int .i64 (i : Int)) (W' := W) rfl ?_ (hK.out _ _ (InvC.next hS (by decide) (hC.pure (by decide) _ (fun v' h => by cases h; rfl))))
          try dsimp only
          go_simp
        refine StepsInv.cons _ rfl (fun d u' W K' hI hd hw hK => ?_) ?_
        · obtain ⟨hS, hC⟩ := hI.open hd (by decide)
          have d1 : u' 1 = .slice (some ⟨gn, offn, none⟩) t.names.length q.c := hC.vals 1 (hw 1 (by kernel_rfl)) _ rfl
          have d2 : u' 2 = .int .i64 (i : Int) := hC.vals 2 (hw 2 (by kernel_rfl)) _ rfl
          have hin2 := hi2
          have hnl2 := HLEN.out
          refine step_value (v := .pointer (some ⟨gn, offn + i, none⟩)) (W' := W) rfl ?_ (hK.out _ _ (InvC.next hS (by decide) (hC.pure (by decide) _ (fun v' h => by cases h; rfl))))
          try dsimp only
          go_simp
        refine StepsInv.cons _ rfl (fun d u' W K' hI hd hw hK => ?_) ?_
        · obtain ⟨hS, hC⟩ := hI.open hd (by decide)
          have d3 : u' 3 = .pointer (some ⟨gn, offn + i, none⟩) := hC.vals 3 (hw 3 (by kernel_rfl)) _ rfl
          have oy := (hC.bel.cell (p := ⟨gn, offn + i, none⟩) HGD.out).trans HY4.out
          refine step_value (v := .string ⟨y.toArray⟩) (W' := W) rfl ?_ (hK.out _ _ (InvC.next hS (by decide) (hC.pure (by decide) _ (fun v' h => by cases h; rfl))))
          try dsimp only
          go_simp
        refine StepsInv.cons _ rfl (fun d u' W K' hI hd hw hK => ?_) ?_
        · obtain ⟨hS, hC⟩ := hI.open hd (by decide)
          have d4 : u' 4 = .string ⟨y.toArray⟩ := hC.vals 4 (hw 4 (by kernel_rfl)) _ rfl
          refine step_value (v := .slice (some ⟨W.heap.size, 0, none⟩) 1 1) (W' := W.alloc (.cells #[.string ⟨y.toArray⟩] 9)) rfl ?_ (hK.out _ _ (InvC.next hS (by decide) (hC.mk5 hd rfl rfl)))
          try dsimp only
          go_simp
        refine StepsInv.cons _ rfl (fun d u' W K' hI hd hw hK => ?_) ?_
        · obtain ⟨hS, hC⟩ := hI.open hd (by decide)
          refine step_value (v := .pointer (some ⟨ob, 3, none⟩)) (W' := W) rfl ?_ (hK.out _ _ (InvC.next hS (by decide) (hC.pure (by decide) _ (fun v' h => by cases h; rfl))))
          try dsimp only
          go_simp
        refine StepsInv.cons _ rfl (fun d u' W K' hI hd hw hK => ?_) ?_
        · obtain ⟨hS, hC⟩ := hI.open hd (by decide)
          have d6 : u' 6 = .pointer (some ⟨ob, 3, none⟩) := hC.vals 6 (hw 6 (by kernel_rfl)) _ rfl
          have o3 := (hC.bel.cell (p := ⟨ob, 3, none⟩) HOBD.out).trans HC3.out
          refine step_value (v := .slice AN l.length cN) (W' := W) rfl ?_ (hK.out _ _ (InvC.next hS (by decide) (hC.pure (by decide) _ (fun v' h => by cases h; rfl))))
          try dsimp only
          go_simp
        refine StepsInv.cons _ rfl (fun d u' W K' hI hd hw hK => ?_) ?_
        · obtain ⟨hS, hC⟩ := hI.open hd (by decide)
          have d7 : u' 7 = .slice AN l.length cN := hC.vals 7 (hw 7 (by kernel_rfl)) _ rfl
          have hp := hw 5 (by kernel_rfl)
          refine step_append_at rfl (.tmp 41) (.tmp 43) 22 rfl W3.drew.heap.size 9 i0n (.string ByteArray.empty) 1 16 Tryd.underlying22 hin hzn0 hzn1 hzn2 rfl (by decide) (u' 5) 1 [.string ⟨y.toArray⟩] rfl (hC.r5 hp hd) AN l.length cN (namesE (l.map El.n)) d7 (lo_none HRN.out (Nat.le_refl _)) (by rw [namesE_len, List.length_map, Nat.mul_one]) (by have h := row_lo' HRN.out (Nat.le_refl _) hC.bel; rwa [List.take_of_length_le (by rw [List.length_map]; exact Nat.le_refl _)] at h) (namesE_ones _) (by unfold maxLen; omega) (by omega) hC.bel.size ?_
          intro v' w' hown hg hat
          exact (hK.out _ _ (InvC.next hS (by decide) (hC.ap8 hd rfl hp hown hg)))
        refine StepsInv.cons _ rfl (fun d u' W K' hI hd hw hK => ?_) ?_
        · obtain ⟨hS, hC⟩ := hI.open hd (by decide)
          refine step_value (v := .pointer (some ⟨ob, 3, none⟩)) (W' := W) rfl ?_ (hK.out _ _ (InvC.next hS (by decide) (hC.pure (by decide) _ (fun v' h => by cases h; rfl))))
          try dsimp only
          go_simp
        refine StepsInv.cons _ rfl (fun d u' W K' hI hd hw hK => ?_) StepsInv.nil
        · obtain ⟨hS, hC⟩ := hI.open hd (by decide)
          have hall : ∀ j, j < 10 → d j = true := fun j hj => by
            have : j ∈ [0, 1, 2, 3, 4, 5, 6, 7, 8, 9] := by simp; omega
            simp only [List.mem_cons, List.not_mem_nil, or_false] at this
            rcases this with rfl | rfl | rfl | rfl | rfl | rfl | rfl | rfl | rfl | rfl <;> exact hw _ (by kernel_rfl)
          have hE := hC.r8 (hall 8 (by decide))
          obtain ⟨gg, cap, hu, hgb, hgl⟩ := hE.form (by omega)
          rw [hu] at hE
          have d9 : u' 9 = .pointer (some ⟨ob, 3, none⟩) := hC.vals 9 (hall 9 (by decide)) _ rfl
          have o3 := (hC.bel.cell (p := ⟨ob, 3, none⟩) HOBD.out).trans HC3.out
          have of := (hC.bel.frozen (p := ⟨ob, 3, none⟩) HOBD.out).trans (HO4.out.fz 3)
          refine step_none (W' := W.setCell ⟨ob, 3, none⟩ (.slice (some ⟨gg, 0, none⟩) (1 + l.length) cap)) rfl ?_ (hK.out undef _ (InvC.last hall ⟨W, gg, cap, hC.bel, ?_, hgb, ?_⟩))
          · try dsimp only
            go_simp
          · rw [Nat.add_comm 1] at hE; exact hE
          · rw [Nat.add_comm 1]
        intro d' ua W4 hI hall
        rcases hI with ⟨h1, _⟩ | ⟨_, _, h1⟩
        · rw [hall 10 (by decide)] at h1; cases h1
        have HF1 := Lib.hid (h1 : FinC W3.drew ob 3 9 1 (l.length + 1) ([.string ⟨y.toArray⟩] ++ namesE (l.map El.n)) W4)
        have HNZ5 : Hid (Box5 W4 w2.heap.size z q') := Lib.hid (HNZ4.out.same (h1.same HNZ4.out.1 HPB.out) h1.size)
        have hobr : rowB AP ≠ some ob := fun e => by have := (OutS.row HO4.out.rP ob e).1; have := HO4.out.lt; omega
        have HRP5 : Hid (W4.ownsRow W1.heap.size 25 5 (.slice AP l.length cP) l.length (cellsE l)) := Lib.hid (h1.row HRP.out hobr)
        have o4 : W4.cell? ⟨ob, 4, none⟩ = some (.slice AP l.length cP) := (h1.other HOBD.out (by decide)).trans HO4.out.c4
        have of := (h1.frozen HOBD.out 4).trans (HO4.out.fz 4)
        have HO45 := Lib.hid o4
        have HOF5 := Lib.hid of
        have HOB5 : Hid (ob < W4.heap.size) := Lib.hid (Nat.lt_of_lt_of_le HOBD.out h1.size)
        obtain ⟨b1, ⟨m0, m1, m2, m3, m4⟩, b2⟩ := HNZ5.out
        simp only [Nat.zero_add] at m0 m1 m2 m3 m4
        have hpb := HNZ5.out.1
        have hob4 := HOB5.out
        clear h1 hobr b1 b2
        try dsimp only
        go_wp2_with (at_builtin; refine wpList_append_any _ rfl _ _ 23 rfl W4.heap.size 25 i0p (.agg #[.int .i64 0, .string ByteArray.empty, .string ByteArray.empty, .slice none 0 0, .slice none 0 0]) 5 88 Tryd.underlying23 hip hzp0 hzp1 hzp2 rfl (by decide) _ 1 (cells5 ⟨y, z, q', F⟩) rfl (World.ownsRow_lit W4 #[.int .i64 z.kind, .string ⟨z.of_.toArray⟩, .string ⟨z.name.toArray⟩, .slice q'.A z.names.length q'.c, .slice q'.P z.parts.length q'.d] 1 (Nat.le_refl _) (by decide) rfl) AP l.length cP (cellsE l) rfl (lo_none HRP5.out (Nat.le_refl _)) (cellsE_len _) (by have h := row_lo5 HRP5.out (Nat.le_refl _) (below_one W4 (.cells #[.int .i64 z.kind, .string ⟨z.of_.toArray⟩, .string ⟨z.name.toArray⟩, .slice q'.A z.names.length q'.c, .slice q'.P z.parts.length q'.d] 25)); rwa [List.take_of_length_le (Nat.le_refl _)] at h) (cellsE_ones _) (by unfold maxLen; omega) (by omega) (by simp) ?_)
        intro v' W5 hrow hb5
        obtain ⟨g3, cap, rfl, hg3, _⟩ := hrow.form (by omega)
        have hb45 : Below W4.heap.size W4 W5 := (below_one W4 (.cells #[.int .i64 z.kind, .string ⟨z.of_.toArray⟩, .string ⟨z.name.toArray⟩, .slice q'.A z.names.length q'.c, .slice q'.P z.parts.length q'.d] 25)).trans hb5
        have x4 := (hb45.cell (p := ⟨ob, 4, none⟩) HOB5.out).trans HO45.out
        have xf := (hb45.frozen (p := ⟨ob, 4, none⟩) HOB5.out).trans HOF5.out
        have HFC : Hid (FinC W4 ob 4 25 5 (l.length + 1) (cells5 ⟨y, z, q', F⟩ ++ cellsE l) (W5.setCell ⟨ob, 4, none⟩ (.slice (some ⟨g3, 0, none⟩) (1 + l.length) cap))) := Lib.hid (by
          rw [Nat.add_comm 1] at hrow ⊢
          exact ⟨W5, g3, cap, hb45, hrow, hg3, rfl⟩)
        have HN : Hid (Ru7 W1 (W5.setCell ⟨ob, 4, none⟩ (.slice (some ⟨g3, 0, none⟩) (1 + l.length) cap)) ob t (i + 1)) := Lib.hid (Ru7.push (x := ⟨y, z, q', F⟩) HO4.out HL.out (by rw [HZL.out]; exact hlt) (HZI.out _).symm HOW4.out HFB.out HF1.out HFC.out)
        clear hrow hb5 hb45 o4 of m0 m1 m2 m3 m4
        go_wp2
        go_roundw
        case rel => exact ⟨i + 1, by go_num, by omega, HN⟩
        case measure => simp [intOf]; omega
    · have hie : i = t.parts.length := by omega
      have HLL : Hid (l.length = t.parts.length) := Lib.hid (by omega)
      have HE : Hid (l.map pr = (t.names.zip (t.parts.map turned)).reverse) := Lib.hid (by rw [hl, List.take_of_length_le (by rw [HZL.out]; omega)])
      have hi1 : ¬ (i : Int) < (t.parts.length : Int) := by omega
      have HO := Lib.hid hO
      have HBWR := Lib.hid hbw
      have HER := Lib.hid (hO.box HBR.out (by have := HOB.out; omega))
      have HOO := Lib.hid (show w.heap.size + 1 ≠ ob by have := HOB.out; omega)
      obtain ⟨_, ⟨r0, r1, r2, r3, r4⟩, f0, f1, f2, f3, f4⟩ := HER.out
      simp only [Nat.zero_add] at r0 r1 r2 r3 r4
      have o0 := hO.c0
      have o1 := hO.c1
      have o2 := hO.c2
      have o3 := hO.c3
      have o4 := hO.c4
      rw [List.length_map, HLL.out] at o3
      rw [HLL.out] at o4
      clear hO hl hbw hli
      have hne : ob ≠ w.heap.size + 1 := fun e => HOO.out e.symm
      go_wp2
      refine bodyPost_ret (v := .agg #[.int .i64 t.kind, .string ⟨t.of_.toArray⟩, .string ⟨t.name.toArray⟩, .slice AN t.parts.length cN, .slice AP t.parts.length cP]) (by simp [results, Tryd.results25, go_sem, r0, r1, r2, r3, r4]) rfl ?_
      have hsm := HQ.out.small
      have hz1 : (t.names.zip (t.parts.map turned)).map Prod.fst = t.names := List.map_fst_zip (by rw [List.length_map, HLEN.out]; exact Nat.le_refl _)
      have hz2 : (t.names.zip (t.parts.map turned)).map Prod.snd = t.parts.map turned := List.map_snd_zip (by rw [List.length_map, HLEN.out]; exact Nat.le_refl _)
      have hnn : (turned t).names = l.map El.n := by
        rw [HS.out]
        show t.names.reverse = _
        rw [show l.map El.n = (l.map pr).map Prod.fst by rw [List.map_map]; rfl, HE.out, List.map_reverse, hz1]
      have hpp : (turned t).parts = l.map El.t := by
        rw [HS.out]
        show (t.parts.map turned).reverse = _
        rw [show l.map El.t = (l.map pr).map Prod.snd by rw [List.map_map]; rfl, HE.out, List.map_reverse, hz2]
      have hoo : (turned t).of_ = t.of_ := by rw [HS.out]
      have hna : (turned t).name = t.name := by rw [HS.out]
      have hkk : (turned t).kind = t.kind := by rw [HS.out]
      have hns : ∀ x ∈ (turned t).names, x.length ≤ 9223372036854775807 := fun x hx => by
        refine hsm.ns x ?_
        rw [HS.out] at hx
        exact List.mem_reverse.1 hx
      obtain ⟨ho, hF⟩ := HO.out.result (u := turned t) hnn hpp (by rw [hoo]; exact hsm.o) (by rw [hna]; exact hsm.n) hns (by rw [List.length_map, HLL.out]; omega) (by rw [HLL.out]; omega)
      have h5 := own_set5 (b := w.heap.size + 1) ho (fun b hb e => by have := hF b hb; have := HSZ.out; omega) (.int .i64 t.kind) (.string ⟨t.of_.toArray⟩) (.string ⟨t.name.toArray⟩) (.slice AN t.parts.length cN) (.slice AP t.parts.length cP)
      have h6 := below_put5 (b := w.heap.size + 1) HBWR.out (by omega) (.int .i64 t.kind) (.string ⟨t.of_.toArray⟩) (.string ⟨t.name.toArray⟩) (.slice AN t.parts.length cN) (.slice AP t.parts.length cP)
      refine ⟨⟨AN, cN, AP, cP⟩, ?_, (rowB AN).toList ++ (rowB AP).toList ++ l.flatMap El.F, h5, fun b hb => by have := hF b hb; have := HSZ.out; omega, h6⟩
      rw [hkk, hoo, hna, hnn, hpp, List.length_map, List.length_map, HLL.out]

theorem rturned_walk (t : Sh) : ∀ (q : Ptr) (w : World), ShAt w w.heap.size q t → right t = true → size t ≤ 400 →
    Calls Tryd.prog 25 #[.agg #[.int .i64 t.kind, .string ⟨t.of_.toArray⟩, .string ⟨t.name.toArray⟩, .slice q.A t.names.length q.c, .slice q.P t.parts.length q.d]] w
      fun e w' => ∃ q' F, e = .returned (.agg #[.int .i64 (turned t).kind, .string ⟨(turned t).of_.toArray⟩, .string ⟨(turned t).name.toArray⟩, .slice q'.A (turned t).names.length q'.c, .slice q'.P (turned t).parts.length q'.d]) ∧ Own w' q' (turned t) F ∧ (∀ b ∈ F, w.heap.size ≤ b) ∧ Below w.heap.size w w' := by
  induction t using Sh.ind with
  | h t ih =>
  intro q w hq hr hz
  have hf : Rt8 t := fun x hx q' w' h1 => ih x hx q' w' h1 (right_part hr hx) (by have := sizes_mem hx; rw [size_eq] at hz; omega)
  have hpl : t.parts.length ≤ 400 := by have := length_sizes t.parts; rw [size_eq] at hz; omega
  by_cases h0 : t.names = []
  · exact rturned_plain t q w hq hpl h0 hf
  · exact rturned_named t q w hq hpl h0 ((right_lens hr).resolve_left h0).1 hf
end Go.Proofs.YtkehnmapnckdgaaDoor
