/- ShpO1, ShpO2, together. -/
import Derived.Test.YtkehnmapnckdgaaDoorGMath
import Derived.Test.YtkehnmapnckdgaaDoorGShpM
import Derived.WalkMore
import Derived.Laws.Panics
import Derived.WalkLawsBesides
import Derived.Tactics
import Derived.Tactics2
import Derived.Defers
import Derived.Recover
import Derived.Laws.Pointers
import Derived.BigRegion
/- The program's counter of layer 7: how many levels a type has, or a panic. -/
namespace Go.Proofs.YtkehnmapnckdgaaDoor
open Go.RowKit Shp
set_option linter.unusedVariables false

/-- Below block number B the world is as it was, but for the first cell of one block. -/
structure UpC (cb B : Nat) (w w' : World) : Prop where
  os : w'.os = w.os
  tape : w'.tape = w.tape
  output : w'.output = w.output
  size : w.heap.size ≤ w'.heap.size
  block : ∀ k, k < B → k ≠ cb → w'.heap[k]? = w.heap[k]?
  c1 : w'.cell? ⟨cb, 1, none⟩ = w.cell? ⟨cb, 1, none⟩
  f0 : w'.frozen? ⟨cb, 0, none⟩ = w.frozen? ⟨cb, 0, none⟩
theorem UpC.refl (cb B : Nat) (w : World) : UpC cb B w w := ⟨rfl, rfl, rfl, Nat.le_refl _, fun _ _ _ => rfl, rfl, rfl⟩
theorem UpC.trans {cb B : Nat} {a b c : World} (h : UpC cb B a b) (k : UpC cb B b c) : UpC cb B a c :=
  ⟨k.os.trans h.os, k.tape.trans h.tape, k.output.trans h.output, Nat.le_trans h.size k.size, fun i hi hn => (k.block i hi hn).trans (h.block i hi hn), k.c1.trans h.c1, k.f0.trans h.f0⟩
theorem UpC.mono {cb B B' : Nat} {w w' : World} (h : UpC cb B w w') (hB : B' ≤ B) : UpC cb B' w w' := ⟨h.os, h.tape, h.output, h.size, fun k hk => h.block k (Nat.lt_of_lt_of_le hk hB), h.c1, h.f0⟩
theorem UpC.below {cb B : Nat} {a w w' : World} (h : UpC cb B a w) (hb : Below B w w') (hc : cb < B) : UpC cb B a w' :=
  h.trans ⟨hb.os, hb.tape, hb.output, hb.size, fun k hk _ => hb.block k hk, hb.cell (p := ⟨cb, 1, none⟩) hc, hb.frozen (p := ⟨cb, 0, none⟩) hc⟩
theorem UpC.set {cb B : Nat} {a w : World} (h : UpC cb B a w) (v : Value) : UpC cb B a (w.setCell ⟨cb, 0, none⟩ v) :=
  h.trans ⟨rfl, rfl, rfl, by simp [World.setCell], fun k hk hn => Below.heap_setCell _ _ _ _ hn, by simp [go_sem], by simp [go_sem]⟩
theorem UpC.next {cb : Nat} {a b c : World} (h : UpC cb a.heap.size a b) (k : UpC cb b.heap.size b c) : UpC cb a.heap.size a c := h.trans (k.mono h.size)
theorem UpC.cell {cb B : Nat} {w w' : World} (h : UpC cb B w w') {g k : Nat} (hg : g < B) (hn : g ≠ cb) : w'.cell? ⟨g, k, none⟩ = w.cell? ⟨g, k, none⟩ := World.cell?_of_block (w := w) (h.block g hg hn)
theorem UpC.toBelow {cb B : Nat} {w w' : World} (h : UpC cb B w w') (hB : B ≤ cb) : Below B w w' := ⟨h.os, h.tape, h.output, h.size, fun k hk => h.block k hk (by omega)⟩

/-- The counter. -/
structure Cnt (w : World) (cb p m : Nat) : Prop where
  lt : cb < w.heap.size
  c0 : w.cell? ⟨cb, 0, none⟩ = some (.int .i64 (p : Int))
  c1 : m = 400
  f0 : w.frozen? ⟨cb, 0, none⟩ = false
theorem Cnt.below {w w' : World} {cb p m : Nat} (h : Cnt w cb p m) (hb : Below w.heap.size w w') : Cnt w' cb p m :=
  ⟨Nat.lt_of_lt_of_le h.lt hb.size, (hb.cell (p := ⟨cb, 0, none⟩) h.lt).trans h.c0, h.c1, (hb.frozen (p := ⟨cb, 0, none⟩) h.lt).trans h.f0⟩
theorem Cnt.set {w : World} {cb p m : Nat} (h : Cnt w cb p m) (n : Nat) : Cnt (w.setCell ⟨cb, 0, none⟩ (.int .i64 (n : Int))) cb n m :=
  ⟨by simpa [World.setCell] using h.lt, by simp [go_sem, h.c0], h.c1, by simp [go_sem, h.f0]⟩
theorem ShAt.upc {w w' : World} {B C cb : Nat} {q : Ptr} {t : Sh} (h : ShAt w B q t) (hu : UpC cb C w w') (h1 : B ≤ cb) (h2 : B ≤ C) : ShAt w' B q t :=
  h.of (Nat.le_refl _) (fun g k hg => hu.cell (by omega) (by omega))

set_option maxRecDepth 100000 in
set_option maxHeartbeats 2000000 in
theorem levels_ok (t : Sh) : ∀ (q : Ptr) (B cb p m : Nat) (w : World), ShAt w B q t → B ≤ cb → Cnt w cb p m → p + size t ≤ m → m ≤ 1000000 →
    Calls Tryd.prog 39 #[.pointer (some ⟨cb, 0, none⟩), .agg #[.int .i64 t.kind, .string ⟨t.of_.toArray⟩, .string ⟨t.name.toArray⟩, .slice q.A t.names.length q.c, .slice q.P t.parts.length q.d]] w
      fun e w' => e = .returned (.int .i64 (deep t : Int)) ∧ UpC cb w.heap.size w w' ∧ Cnt w' cb (p + size t) m := by
  induction t using Sh.ind with
  | h t ih =>
  intro q B cb p m w hq hBc hc hpm hm
  have HQ := Lib.hid hq
  have HM := Lib.hid hq.small.m
  have HP := Lib.hid hq.part
  have HD : Hid (deep t = deeps t.parts + 1) := Lib.hid (deep_eq t)
  have HZ : Hid (size t = 1 + sizes t.parts) := Lib.hid (size_eq t)
  have HDS := Lib.hid (deep_size t)
  have HPM : Hid (p + size t ≤ m) := Lib.hid hpm
  have hlt : p < m := by have := HZ.out; omega
  have hpe : ((p : Int) == 400) = false := by rw [beq_eq_false_iff_ne]; have := hc.c1; omega
  have hpi : (p : Int) ≤ 1000000 := by omega
  have hb0 := below_one w (.cells #[.int .i64 t.kind, .string ⟨t.of_.toArray⟩, .string ⟨t.name.toArray⟩, .slice q.A t.names.length q.c, .slice q.P t.parts.length q.d] 25)
  have HC := Lib.hid hc
  have hB := box5_new w t q
  have HB := Lib.hid hB
  have HC1 := Lib.hid (hc.below hb0)
  have HU := Lib.hid ((UpC.refl cb w.heap.size w).below hb0 hc.lt)
  have hcl := hc.lt
  obtain ⟨_, k0, k1, k2⟩ := hc.below hb0
  clear k1
  clear hb0 hc hB hpm hq
  have hne : w.heap.size ≠ cb := by omega
  have hne2 : cb ≠ w.heap.size := by omega
  go_enter Tryd.func39, Tryd.ntmps39
  go_wp2_with fail
  obtain ⟨W0, hW0⟩ : ∃ W0, W0 = (w.setCell ⟨cb, 0, none⟩ (.int .i64 ((p : Int) + 1))).alloc (.cells #[.int .i64 t.kind, .string ⟨t.of_.toArray⟩, .string ⟨t.name.toArray⟩, .slice q.A t.names.length q.c, .slice q.P t.parts.length q.d] 25) := ⟨_, rfl⟩
  have hsz0 : W0.heap.size = w.heap.size + 1 := by rw [hW0]; simp [World.setCell]
  have hU0 : UpC cb w.heap.size w W0 := by
    rw [hW0]
    exact ((UpC.refl cb w.heap.size w).set _).below ((below_one _ _).mono (by simp [World.setCell])) hcl
  have hC0 : Cnt W0 cb (p + 1) m := by
    rw [hW0]
    exact (HC.out.set (p + 1)).below (below_one _ _)
  have hB0 : Box5 W0 w.heap.size t q := by
    have e : (w.setCell ⟨cb, 0, none⟩ (.int .i64 ((p : Int) + 1))).heap.size = w.heap.size := by simp [World.setCell]
    have h5 := box5_new (w.setCell ⟨cb, 0, none⟩ (.int .i64 ((p : Int) + 1))) t q
    rw [e] at h5
    rw [hW0]; exact h5
  have HU0 := Lib.hid hU0
  have HC0 := Lib.hid hC0
  have HB0 := Lib.hid hB0
  clear hU0 hC0 hB0
  rw [← hW0]
  have HSZ := Lib.hid hsz0
  clear hW0 k0 k2 HU HC1 HB hsz0
  go_loopw [5, 24] (fun dd ii wr => ∃ i : Nat, ii = .int .i64 i ∧ i ≤ t.parts.length ∧ dd = .int .i64 (deeps (t.parts.take i) : Int) ∧ Hid (UpC cb W0.heap.size W0 wr) ∧ Hid (Cnt wr cb (p + 1 + sizes (t.parts.take i)) m)) (fun _ i _ => t.parts.length - (intOf i).toNat)
  case atStart => exact ⟨0, rfl, Nat.zero_le _, rfl, Lib.hid (UpC.refl _ _ _), HC0⟩
  case round =>
    obtain ⟨i, rfl, hi, rfl, HUR, HCR⟩ := hrel
    have hmm := HM.out
    have htk := deeps_take t.parts i
    have hds := HDS.out
    have hd2 : deeps t.parts ≤ 1000000 := by have := HD.out; have := HPM.out; omega
    by_cases hlt : i < t.parts.length
    · rcases HP.out with h0 | ⟨g, off, qs, hqP, hg, hc, hr⟩
      · omega
      · have hur : UpC cb w.heap.size w wr := HU0.out.next HUR.out
        obtain ⟨x, hx⟩ : ∃ x, x = t.parts[i] := ⟨_, rfl⟩
        have hgw : g < w.heap.size := by omega
        obtain ⟨p0, p1, p2, p3, p4⟩ := (hc i hlt).of (w' := wr) (fun k => hur.cell hgw (by omega))
        have hbx := below_one wr (.cells #[.int .i64 x.kind, .string ⟨x.of_.toArray⟩, .string ⟨x.name.toArray⟩, .slice (qs i).A x.names.length (qs i).c, .slice (qs i).P x.parts.length (qs i).d] 25)
        have hat : ShAt (wr.alloc (.cells #[.int .i64 x.kind, .string ⟨x.of_.toArray⟩, .string ⟨x.name.toArray⟩, .slice (qs i).A x.names.length (qs i).c, .slice (qs i).P x.parts.length (qs i).d] 25)) B (qs i) x := by
          rw [hx]
          exact ((hr i hlt).upc hur hBc (by omega)).keep (below_one wr _) (by have := hur.size; omega)
        have hcx := HCR.out.below hbx
        have HN : Hid (sizes (t.parts.take (i + 1)) = sizes (t.parts.take i) + size x) := Lib.hid (by rw [hx]; exact sizes_next hlt)
        have HE : Hid (deeps (t.parts.take (i + 1)) = max (deeps (t.parts.take i)) (deep x)) := Lib.hid (by rw [hx]; exact deeps_next hlt)
        have ihx := ih t.parts[i] (List.getElem_mem _) (qs i) B cb (p + 1 + sizes (t.parts.take i)) m (wr.alloc (.cells #[.int .i64 x.kind, .string ⟨x.of_.toArray⟩, .string ⟨x.name.toArray⟩, .slice (qs i).A x.names.length (qs i).c, .slice (qs i).P x.parts.length (qs i).d] 25))
        rw [← hx] at p0 p1 p2 p3 p4 ihx
        have hdx : deep x ≤ 1000000 := by rw [hx]; exact Nat.le_trans (deeps_mem (List.getElem_mem _)) hd2
        have hbd : p + 1 + sizes (t.parts.take i) + size x ≤ m := by
          have := sizes_take t.parts (i + 1)
          have := HN.out
          have := HPM.out
          have := HZ.out
          omega
        have IH := ihx hat hBc hcx hbd hm
        have HBX := Lib.hid (HB0.out)
        clear hx hc hr hat ihx hcx hbd hd2 hur hbx ih
        have hi1 : (i : Int) < (t.parts.length : Int) := by omega
        obtain ⟨a, ha⟩ : ∃ a, a = deeps (t.parts.take i) := ⟨_, rfl⟩
        rw [← ha] at HE htk ⊢
        clear ha
        rw [hqP]
        clear hqP
        go_wp2_with fail
        refine IH.mono ?_
        rintro e w2 ⟨rfl, hu2, hc2⟩
        have HU2 : Hid (UpC cb W0.heap.size W0 w2) := Lib.hid ((HUR.out.below ((below_one wr _).mono HUR.out.size) (by have := HSZ.out; omega)).trans (hu2.mono (by have := HUR.out.size; simp; omega)))
        have HC2 : Hid (Cnt w2 cb (p + 1 + sizes (t.parts.take (i + 1))) m) := Lib.hid (by rw [HN.out, ← Nat.add_assoc]; exact hc2)
        clear hu2 hc2 IH
        by_cases hgt : (a : Int) < (deep x : Int)
        all_goals
          go_wp2
          go_roundw
          case rel => exact ⟨i + 1, by go_num, by omega, by rw [HE.out]; go_num, HU2, HC2⟩
          case measure => simp [intOf]; omega
    · have HF : Hid (deep t = deeps (t.parts.take i) + 1) := Lib.hid (by rw [HD.out, show i = t.parts.length from by omega, List.take_length])
      have HG : Hid (p + size t = p + 1 + sizes (t.parts.take i)) := Lib.hid (by rw [HZ.out, show i = t.parts.length from by omega, List.take_length]; omega)
      have hi1 : ¬ (i : Int) < (t.parts.length : Int) := by omega
      go_wp2
      go_ret
      exact ⟨ret_int7 (by rw [HF.out]; go_num), HU0.out.next HUR.out, by rw [HG.out]; exact HCR.out⟩

set_option maxRecDepth 100000 in
set_option maxHeartbeats 2000000 in
theorem levels_over (t : Sh) : ∀ (q : Ptr) (B cb p m : Nat) (w : World), ShAt w B q t → B ≤ cb → Cnt w cb p m → p ≤ m → m < p + size t → m ≤ 1000000 →
    Calls Tryd.prog 39 #[.pointer (some ⟨cb, 0, none⟩), .agg #[.int .i64 t.kind, .string ⟨t.of_.toArray⟩, .string ⟨t.name.toArray⟩, .slice q.A t.names.length q.c, .slice q.P t.parts.length q.d]] w
      fun e w' => e = .panicked [{ v := .iface 28 (.int .i64 3), recovered := false }] ∧ UpC cb w.heap.size w w' := by
  induction t using Sh.ind with
  | h t ih =>
  intro q B cb p m w hq hBc hc hpm hov hm
  have HQ := Lib.hid hq
  have HM := Lib.hid hq.small.m
  have HP := Lib.hid hq.part
  have HD : Hid (deep t = deeps t.parts + 1) := Lib.hid (deep_eq t)
  have HZ : Hid (size t = 1 + sizes t.parts) := Lib.hid (size_eq t)
  have HDS := Lib.hid (deep_size t)
  have HOV : Hid (m < p + size t) := Lib.hid hov
  have hpi : (p : Int) ≤ 1000000 := by omega
  have hb0 := below_one w (.cells #[.int .i64 t.kind, .string ⟨t.of_.toArray⟩, .string ⟨t.name.toArray⟩, .slice q.A t.names.length q.c, .slice q.P t.parts.length q.d] 25)
  have HC := Lib.hid hc
  have hB := box5_new w t q
  have HB := Lib.hid hB
  have HC1 := Lib.hid (hc.below hb0)
  have HU := Lib.hid ((UpC.refl cb w.heap.size w).below hb0 hc.lt)
  have hcl := hc.lt
  obtain ⟨_, k0, k1, k2⟩ := hc.below hb0
  clear k1
  clear hb0 hc hB hov hq
  have hne : w.heap.size ≠ cb := by omega
  have hne2 : cb ≠ w.heap.size := by omega
  by_cases hpm2 : p = m
  · have hpe : ((p : Int) == 400) = true := by rw [beq_iff_eq]; have := HC.out.c1; omega
    have HUX := HU
    clear hpm2 hpm ih
    go_enter Tryd.func39, Tryd.ntmps39
    go_wp2_with fail
    exact ⟨rfl, rfl, HU.out⟩
  have hlt : p < m := by omega
  have hpe : ((p : Int) == 400) = false := by rw [beq_eq_false_iff_ne]; have := HC.out.c1; omega
  clear hpm2
  go_enter Tryd.func39, Tryd.ntmps39
  go_wp2_with fail
  obtain ⟨W0, hW0⟩ : ∃ W0, W0 = (w.setCell ⟨cb, 0, none⟩ (.int .i64 ((p : Int) + 1))).alloc (.cells #[.int .i64 t.kind, .string ⟨t.of_.toArray⟩, .string ⟨t.name.toArray⟩, .slice q.A t.names.length q.c, .slice q.P t.parts.length q.d] 25) := ⟨_, rfl⟩
  have hsz0 : W0.heap.size = w.heap.size + 1 := by rw [hW0]; simp [World.setCell]
  have hU0 : UpC cb w.heap.size w W0 := by
    rw [hW0]
    exact ((UpC.refl cb w.heap.size w).set _).below ((below_one _ _).mono (by simp [World.setCell])) hcl
  have hC0 : Cnt W0 cb (p + 1) m := by
    rw [hW0]
    exact (HC.out.set (p + 1)).below (below_one _ _)
  have hB0 : Box5 W0 w.heap.size t q := by
    have e : (w.setCell ⟨cb, 0, none⟩ (.int .i64 ((p : Int) + 1))).heap.size = w.heap.size := by simp [World.setCell]
    have h5 := box5_new (w.setCell ⟨cb, 0, none⟩ (.int .i64 ((p : Int) + 1))) t q
    rw [e] at h5
    rw [hW0]; exact h5
  have HU0 := Lib.hid hU0
  have HC0 := Lib.hid hC0
  have HB0 := Lib.hid hB0
  clear hU0 hC0 hB0
  rw [← hW0]
  have HSZ := Lib.hid hsz0
  clear hW0 k0 k2 HU HC1 HB hsz0
  go_loopw [5, 24] (fun dd ii wr => ∃ i : Nat, ii = .int .i64 i ∧ i ≤ t.parts.length ∧ dd = .int .i64 (deeps (t.parts.take i) : Int) ∧ Hid (UpC cb W0.heap.size W0 wr) ∧ p + 1 + sizes (t.parts.take i) ≤ m ∧ Hid (Cnt wr cb (p + 1 + sizes (t.parts.take i)) m)) (fun _ i _ => t.parts.length - (intOf i).toNat)
  case atStart => exact ⟨0, rfl, Nat.zero_le _, rfl, Lib.hid (UpC.refl _ _ _), by simp [sizes]; omega, HC0⟩
  case round =>
    obtain ⟨i, rfl, hi, rfl, HUR, hpi2, HCR⟩ := hrel
    have hmm := HM.out
    have htk : deeps (t.parts.take i) ≤ 1000000 := by have := deeps_sizes (t.parts.take i); omega
    by_cases hlt : i < t.parts.length
    · rcases HP.out with h0 | ⟨g, off, qs, hqP, hg, hc, hr⟩
      · omega
      · have hur : UpC cb w.heap.size w wr := HU0.out.next HUR.out
        obtain ⟨x, hx⟩ : ∃ x, x = t.parts[i] := ⟨_, rfl⟩
        have hgw : g < w.heap.size := by omega
        obtain ⟨p0, p1, p2, p3, p4⟩ := (hc i hlt).of (w' := wr) (fun k => hur.cell hgw (by omega))
        have hbx := below_one wr (.cells #[.int .i64 x.kind, .string ⟨x.of_.toArray⟩, .string ⟨x.name.toArray⟩, .slice (qs i).A x.names.length (qs i).c, .slice (qs i).P x.parts.length (qs i).d] 25)
        have hat : ShAt (wr.alloc (.cells #[.int .i64 x.kind, .string ⟨x.of_.toArray⟩, .string ⟨x.name.toArray⟩, .slice (qs i).A x.names.length (qs i).c, .slice (qs i).P x.parts.length (qs i).d] 25)) B (qs i) x := by
          rw [hx]
          exact ((hr i hlt).upc hur hBc (by omega)).keep (below_one wr _) (by have := hur.size; omega)
        have hcx := HCR.out.below hbx
        have HN : Hid (sizes (t.parts.take (i + 1)) = sizes (t.parts.take i) + size x) := Lib.hid (by rw [hx]; exact sizes_next hlt)
        have HE : Hid (deeps (t.parts.take (i + 1)) = max (deeps (t.parts.take i)) (deep x)) := Lib.hid (by rw [hx]; exact deeps_next hlt)
        have ihx := ih t.parts[i] (List.getElem_mem _) (qs i) B cb (p + 1 + sizes (t.parts.take i)) m (wr.alloc (.cells #[.int .i64 x.kind, .string ⟨x.of_.toArray⟩, .string ⟨x.name.toArray⟩, .slice (qs i).A x.names.length (qs i).c, .slice (qs i).P x.parts.length (qs i).d] 25))
        rw [← hx] at p0 p1 p2 p3 p4 ihx
        have hml := fun hbd => levels_ok x (qs i) B cb (p + 1 + sizes (t.parts.take i)) m (wr.alloc (.cells #[.int .i64 x.kind, .string ⟨x.of_.toArray⟩, .string ⟨x.name.toArray⟩, .slice (qs i).A x.names.length (qs i).c, .slice (qs i).P x.parts.length (qs i).d] 25)) hat hBc hcx hbd hm
        have hmo := fun hbd => ihx hat hBc hcx hpi2 hbd hm
        have HSB := Lib.hid hur
        have HBX := Lib.hid (HB0.out)
        clear hx hc hr hat ihx hcx hur hbx ih
        have hi1 : (i : Int) < (t.parts.length : Int) := by omega
        obtain ⟨a, ha⟩ : ∃ a, a = deeps (t.parts.take i) := ⟨_, rfl⟩
        rw [← ha] at HE htk ⊢
        clear ha
        rw [hqP]
        clear hqP
        by_cases hfit : m < p + 1 + sizes (t.parts.take i) + size x
        · have IH := hmo hfit
          clear hml hmo hfit
          go_wp2_with fail
          refine IH.mono ?_
          rintro e w2 ⟨rfl, hu2⟩
          have HU2 : Hid (UpC cb w.heap.size w w2) := Lib.hid ((HSB.out.below ((below_one wr _).mono HSB.out.size) hcl).trans (hu2.mono (by have := HSB.out.size; simp; omega)))
          clear hu2 IH
          go_wp2
          exact ⟨rfl, rfl, HU2.out⟩
        have IH := hml (by omega)
        have hdx : deep x ≤ 1000000 := by have := deep_size x; omega
        have HF1 : Hid (p + 1 + sizes (t.parts.take (i + 1)) ≤ m) := Lib.hid (by rw [HN.out]; omega)
        clear hml hmo hfit
        go_wp2_with fail
        refine IH.mono ?_
        rintro e w2 ⟨rfl, hu2, hc2⟩
        have HU2 : Hid (UpC cb W0.heap.size W0 w2) := Lib.hid ((HUR.out.below ((below_one wr _).mono HUR.out.size) (by have := HSZ.out; omega)).trans (hu2.mono (by have := HUR.out.size; simp; omega)))
        have HC2 : Hid (Cnt w2 cb (p + 1 + sizes (t.parts.take (i + 1))) m) := Lib.hid (by rw [HN.out, ← Nat.add_assoc]; exact hc2)
        clear hu2 hc2 IH
        by_cases hgt : (a : Int) < (deep x : Int)
        all_goals
          go_wp2
          go_roundw
          case rel => exact ⟨i + 1, by go_num, by omega, by rw [HE.out]; go_num, HU2, HF1.out, HC2⟩
          case measure => simp [intOf]; omega
    · exfalso
      have := HOV.out
      rw [show i = t.parts.length from by omega, List.take_length] at hpi2
      rw [HZ.out] at this
      omega
end Go.Proofs.YtkehnmapnckdgaaDoor

/- The program's measure of layer 7: a panic, caught. -/
namespace Go.Proofs.YtkehnmapnckdgaaDoor
open Go.RowKit Shp
set_option linter.unusedVariables false

theorem catch_over (b c : Addr) (x y : Int) (u : TypeId) (pv : Value) (older : List PanicEntry) (w : World) (hb : w.cell? b = some (.int .i64 x)) (hc : w.cell? c = some (.int .i64 y)) (fb : w.frozen? b = false) (fc : w.frozen? c = false)
    (hbc : b ≠ c) :
    CallsD Tryd.prog 38 #[.pointer (some b), .pointer (some c)] (.panicking ({ v := .iface u pv, recovered := false } :: older)) w fun e u' w' =>
      e = .returned (.tuple #[]) ∧ u' = .panicking ({ v := .iface u pv, recovered := true } :: older) ∧ w' = (w.setCell b (.int .i64 401)).setCell c (.int .i64 0) := by
  have hc2 : (w.setCell b (.int .i64 401)).cell? c = some (.int .i64 y) := (World.cell?_setCell_other _ _ _ _ hbc).trans hc
  refine callsD_of_wpS Tryd.func38 rfl fun c₀ cs hu => ?_
  apply wpS_seq
  apply wpS_region
  simp [wpOpsS, go_sem, recoverD, hu, Tryd.ntmps38, Exit.thenS]
  refine wpS_cond (t := true) (by simp [Act.eval, Array.replicate]) ?_
  simp only [if_true]
  apply wpS_region
  simp [wpOpsS, go_sem, hb, hc2, fb, fc, bodyPostS, results, Tryd.results38]

theorem catch_none (b c : Addr) (w : World) :
    CallsD Tryd.prog 38 #[.pointer (some b), .pointer (some c)] .returning w fun e u' w' => e = .returned (.tuple #[]) ∧ u' = .returning ∧ w' = w := by
  refine callsD_of_wpS Tryd.func38 rfl fun c₀ cs hu => ?_
  apply wpS_seq
  apply wpS_region
  simp [wpOpsS, go_sem, recoverD, hu, Tryd.ntmps38, Exit.thenS]
  refine wpS_cond (t := false) (by simp [Act.eval, Array.replicate]) ?_
  simp only [Bool.false_eq_true, if_false]
  refine wpS_of_wp (wp_skip ?_)
  cases c₀
  simp_all [bodyPostS, results, Tryd.results38]

/-- The blocks that measure makes. -/
def mW (w : World) (t : Sh) (q : Ptr) : World :=
  (((w.alloc (.cells #[.int .i64 t.kind, .string ⟨t.of_.toArray⟩, .string ⟨t.name.toArray⟩, .slice q.A t.names.length q.c, .slice q.P t.parts.length q.d] 25)).alloc (.cells #[.int .i64 0] 3)).alloc (.cells #[.int .i64 0] 3)).alloc (.cells #[.int .i64 0] 44)
structure MW (w W : World) (x y : Int) : Prop where
  bel : Below w.heap.size w W
  size : w.heap.size + 4 ≤ W.heap.size
  b : W.cell? ⟨w.heap.size + 1, 0, none⟩ = some (.int .i64 x)
  c : W.cell? ⟨w.heap.size + 1 + 1, 0, none⟩ = some (.int .i64 y)
  fb : W.frozen? ⟨w.heap.size + 1, 0, none⟩ = false
  fc : W.frozen? ⟨w.heap.size + 1 + 1, 0, none⟩ = false
theorem mW_cnt (w : World) (t : Sh) (q : Ptr) : Cnt (mW w t q) (w.heap.size + 1 + 1 + 1) 0 400 := by
  unfold mW
  exact ⟨by simp, by simp [go_sem], rfl, by simp [go_sem]⟩
theorem mW_mw (w : World) (t : Sh) (q : Ptr) : MW w (mW w t q) 0 0 := by
  unfold mW
  refine ⟨below_new (below_new (below_new (below_one _ _) _) _) _, by simp, ?_, ?_, ?_, ?_⟩ <;> simp [go_sem]
theorem MW.upc {w W W' : World} {x y : Int} (h : MW w W x y) (hu : UpC (w.heap.size + 1 + 1 + 1) W.heap.size W W') : MW w W' x y := by
  have e : ∀ g, g < w.heap.size + 3 → W'.heap[g]? = W.heap[g]? := fun g hg => hu.block g (by have := h.size; omega) (by omega)
  refine ⟨h.bel.trans ⟨hu.os, hu.tape, hu.output, hu.size, fun k hk => e k (by omega)⟩, Nat.le_trans h.size hu.size, ?_, ?_, ?_, ?_⟩
  · exact (World.cell?_of_block (w := W) (e (w.heap.size + 1) (by omega))).trans h.b
  · exact (World.cell?_of_block (w := W) (e (w.heap.size + 1 + 1) (by omega))).trans h.c
  · exact (World.frozen?_of_block (w := W) (e (w.heap.size + 1) (by omega))).trans h.fb
  · exact (World.frozen?_of_block (w := W) (e (w.heap.size + 1 + 1) (by omega))).trans h.fc

set_option maxRecDepth 100000 in
set_option maxHeartbeats 2000000 in
theorem measure_over (t : Sh) (q : Ptr) (w : World) (hq : ShAt w w.heap.size q t) (hov : 400 < size t) :
    Calls Tryd.prog 26 #[.agg #[.int .i64 t.kind, .string ⟨t.of_.toArray⟩, .string ⟨t.name.toArray⟩, .slice q.A t.names.length q.c, .slice q.P t.parts.length q.d]] w fun e w' => e = .returned (.tuple #[.int .i64 401, .int .i64 0]) ∧ Below w.heap.size w w' := by
  have hmf : ∀ (fn : Fn) (first cap : Array Value) (w : World), (Instr.makeFunc fn first cap).run Tryd.prog w = .ok (.func fn first cap) w := fun _ _ _ _ => rfl
  have HL := Lib.hid (levels_over t q w.heap.size _ 0 400 _ (hq.keep (mW_mw w t q).bel (Nat.le_refl _)) (by omega) (mW_cnt w t q) (Nat.zero_le _) (by omega) (by omega))
  have HW := Lib.hid (mW_mw w t q)
  clear hq hov
  go_enter_defers Tryd.func26, Tryd.ntmps26
  go_wp2_with fail
  change Calls _ _ _ (mW w t q) _
  generalize mW w t q = W at HL HW ⊢
  refine HL.out.mono ?_
  rintro e w2 ⟨rfl, hu⟩
  obtain ⟨hbel, hsz, cb, cc, fb, fc⟩ := HW.out.upc hu
  have HBEL := Lib.hid hbel
  clear hbel hu HL
  go_wp2_with fail
  refine leaves_cons (f := 38) (args := #[.pointer (some ⟨w.heap.size + 1, 0, none⟩), .pointer (some ⟨w.heap.size + 1 + 1, 0, none⟩)]) (by simp) (by simp [go_sem]) ?_
  refine (catch_over ⟨w.heap.size + 1, 0, none⟩ ⟨w.heap.size + 1 + 1, 0, none⟩ 0 0 28 _ [] _ cb cc fb fc (by simp)).mono ?_
  rintro e u' w'' ⟨rfl, rfl, rfl⟩
  simp [Leaves, settle, results, Tryd.results26, go_sem, cb, cc]
  exact (HBEL.out.setCell (p := ⟨w.heap.size + 1, 0, none⟩) (by simp) _).setCell (p := ⟨w.heap.size + 1 + 1, 0, none⟩) (by simp; omega) _

set_option maxRecDepth 100000 in
set_option maxHeartbeats 2000000 in
theorem measure_ok (t : Sh) (q : Ptr) (w : World) (hq : ShAt w w.heap.size q t) (hov : size t ≤ 400) :
    Calls Tryd.prog 26 #[.agg #[.int .i64 t.kind, .string ⟨t.of_.toArray⟩, .string ⟨t.name.toArray⟩, .slice q.A t.names.length q.c, .slice q.P t.parts.length q.d]] w fun e w' => e = .returned (.tuple #[.int .i64 (size t : Int), .int .i64 (deep t : Int)]) ∧ Below w.heap.size w w' := by
  have hmf : ∀ (fn : Fn) (first cap : Array Value) (w : World), (Instr.makeFunc fn first cap).run Tryd.prog w = .ok (.func fn first cap) w := fun _ _ _ _ => rfl
  have HL := Lib.hid (levels_ok t q w.heap.size _ 0 400 _ (hq.keep (mW_mw w t q).bel (Nat.le_refl _)) (by omega) (mW_cnt w t q) (by omega) (by omega))
  have HW := Lib.hid (mW_mw w t q)
  clear hq hov
  go_enter_defers Tryd.func26, Tryd.ntmps26
  go_wp2_with fail
  change Calls _ _ _ (mW w t q) _
  generalize mW w t q = W at HL HW ⊢
  refine HL.out.mono ?_
  rintro e w2 ⟨rfl, hu, hcn⟩
  obtain ⟨hbel, hsz, cb, cc, fb, fc⟩ := HW.out.upc hu
  have k0 := hcn.c0
  have HBEL := Lib.hid hbel
  rw [Nat.zero_add] at k0
  clear hbel hu HL hcn
  go_wp2_with fail
  have HB3 : Hid (Below w.heap.size w (w2.setCell ⟨w.heap.size + 1 + 1, 0, none⟩ (.int .i64 (deep t : Int)))) := Lib.hid (HBEL.out.setCell (by simp; omega) _)
  have k3 : (w2.setCell ⟨w.heap.size + 1 + 1, 0, none⟩ (.int .i64 (deep t : Int))).cell? ⟨w.heap.size + 1 + 1 + 1, 0, none⟩ = some (.int .i64 (size t : Int)) := (World.cell?_setCell_other _ _ _ _ (fun e => by have := congrArg Addr.block e; simp at this)).trans k0
  have b3 : (w2.setCell ⟨w.heap.size + 1 + 1, 0, none⟩ (.int .i64 (deep t : Int))).cell? ⟨w.heap.size + 1, 0, none⟩ = some (.int .i64 0) := (World.cell?_setCell_other _ _ _ _ (fun e => by have := congrArg Addr.block e; simp at this)).trans cb
  have c3 : (w2.setCell ⟨w.heap.size + 1 + 1, 0, none⟩ (.int .i64 (deep t : Int))).cell? ⟨w.heap.size + 1 + 1, 0, none⟩ = some (.int .i64 (deep t : Int)) := by simp [go_sem, cc]
  have fb3 : (w2.setCell ⟨w.heap.size + 1 + 1, 0, none⟩ (.int .i64 (deep t : Int))).frozen? ⟨w.heap.size + 1, 0, none⟩ = false := by rw [World.frozen?_setCell]; exact fb
  have fc3 : (w2.setCell ⟨w.heap.size + 1 + 1, 0, none⟩ (.int .i64 (deep t : Int))).frozen? ⟨w.heap.size + 1 + 1, 0, none⟩ = false := by rw [World.frozen?_setCell]; exact fc
  generalize w2.setCell ⟨w.heap.size + 1 + 1, 0, none⟩ (.int .i64 (deep t : Int)) = W3 at HB3 k3 b3 c3 fb3 fc3 ⊢
  clear k0 cb cc fb fc hsz HBEL
  go_region
  all_goals
    go_wp2_with fail
    refine leaves_cons (f := 38) (args := #[.pointer (some ⟨w.heap.size + 1, 0, none⟩), .pointer (some ⟨w.heap.size + 1 + 1, 0, none⟩)]) (by simp) (by simp [go_sem]) ?_
    refine (catch_none ⟨w.heap.size + 1, 0, none⟩ ⟨w.heap.size + 1 + 1, 0, none⟩ _).mono ?_
    rintro e u' w'' ⟨rfl, rfl, rfl⟩
    simp [Leaves, settle, results, Tryd.results26, go_sem, b3, c3]
    exact ((HB3.out.setCell (p := ⟨w.heap.size + 1, 0, none⟩) (by simp) _).setCell (p := ⟨w.heap.size + 1 + 1, 0, none⟩) (by simp; omega) _).drew
end Go.Proofs.YtkehnmapnckdgaaDoor
