/- ShpMem, ShpR1, ShpR2, together. -/
import Derived.Test.YtkehnmapnckdgaaDoorGMath
import Derived.Test.YtkehnmapnckdgaaDoorGLex
import Derived.Test.YtkehnmapnckdgaaDoorGBase
import Derived.Deep.Slices
import Derived.Deep.Fields
import Derived.ChangeSame
import Derived.SizedLaws
import Derived.OpenShut
import Derived.StillTailTactics
/- Types as trees in memory: what lies where; types that came in. -/
namespace Go.Proofs.YtkehnmapnckdgaaDoor
open Go.RowKit Shp
set_option linter.unusedVariables false
set_option maxRecDepth 100000

theorem ret_int7 {k : IntKind} {a b : Int} (h : a = b) : Ending.returned (.int k a) = .returned (.int k b) := by rw [h]
theorem ret_bool7 {a b : Bool} (h : a = b) : Ending.returned (.bool a) = .returned (.bool b) := by rw [h]

/-- What of a type's cells is no part of the tree. -/
structure Ptr where
  A : Option Addr
  c : Nat
  P : Option Addr
  d : Nat

/-- A type's five cells, from a place on. -/
def Sh5 (w : World) (g o : Nat) (t : Sh) (q : Ptr) : Prop :=
  w.cell? ⟨g, o, none⟩ = some (.int .i64 t.kind) ∧ w.cell? ⟨g, o + 1, none⟩ = some (.string ⟨t.of_.toArray⟩) ∧ w.cell? ⟨g, o + 2, none⟩ = some (.string ⟨t.name.toArray⟩) ∧
  w.cell? ⟨g, o + 3, none⟩ = some (.slice q.A t.names.length q.c) ∧ w.cell? ⟨g, o + 4, none⟩ = some (.slice q.P t.parts.length q.d)

theorem Sh5.of {w w' : World} {g o : Nat} {t : Sh} {q : Ptr} (h : Sh5 w g o t q) (hc : ∀ k, w'.cell? ⟨g, k, none⟩ = w.cell? ⟨g, k, none⟩) : Sh5 w' g o t q := by
  obtain ⟨h0, h1, h2, h3, h4⟩ := h
  exact ⟨(hc _).trans h0, (hc _).trans h1, (hc _).trans h2, (hc _).trans h3, (hc _).trans h4⟩
theorem Sh5.keep {w w' : World} {g o B : Nat} {t : Sh} {q : Ptr} (h : Sh5 w g o t q) (hg : g < B) (hb : Below B w w') : Sh5 w' g o t q :=
  h.of (fun k => hb.cell (p := ⟨g, k, none⟩) hg)

/-- What the lengths of a type's own texts and lists are below. -/
structure Small (t : Sh) (q : Ptr) : Prop where
  o : t.of_.length ≤ 9223372036854775807
  n : t.name.length ≤ 9223372036854775807
  ns : ∀ x ∈ t.names, x.length ≤ 9223372036854775807
  l : t.names.length ≤ 9223372036854775807
  m : t.parts.length ≤ 9223372036854775807
  c : t.names.length ≤ q.c
  d : t.parts.length ≤ q.d
  A0 : q.A = none → q.c = 0
  P0 : q.P = none → q.d = 0

/-- A type lies in memory, in blocks below B: a tree's tops. -/
inductive ShAt (w : World) (B : Nat) : Ptr → Sh → Prop
  | mk (q : Ptr) (t : Sh) (g off : Nat) (qs : Nat → Ptr) (hs : Small t q) (hn : Strs w B q.A (strs t.names)) (hp : t.parts.length = 0 ∨ q.P = some ⟨g, off, none⟩ ∧ g < B)
      (hc : ∀ i (h : i < t.parts.length), Sh5 w g (off + i * 5) (t.parts[i]'h) (qs i)) (hr : ∀ i (h : i < t.parts.length), ShAt w B (qs i) (t.parts[i]'h)) : ShAt w B q t

theorem ShAt.small {w : World} {B : Nat} {q : Ptr} {t : Sh} (h : ShAt w B q t) : Small t q := by cases h; assumption
theorem ShAt.strs {w : World} {B : Nat} {q : Ptr} {t : Sh} (h : ShAt w B q t) : Strs w B q.A (strs t.names) := by cases h; assumption
theorem ShAt.part {w : World} {B : Nat} {q : Ptr} {t : Sh} (h : ShAt w B q t) : t.parts.length = 0 ∨ ∃ (g off : Nat) (qs : Nat → Ptr), q.P = some ⟨g, off, none⟩ ∧ g < B ∧ (∀ i (h : i < t.parts.length), Sh5 w g (off + i * 5) (t.parts[i]'h) (qs i)) ∧ ∀ i (h : i < t.parts.length), ShAt w B (qs i) (t.parts[i]'h) := by
  cases h with
  | mk _ _ g off qs hs hn hp hc hr =>
    rcases hp with hp | ⟨hp, hg⟩
    · exact Or.inl hp
    · exact Or.inr ⟨g, off, qs, hp, hg, hc, hr⟩

theorem ShAt.of {w w' : World} {B B' : Nat} {q : Ptr} {t : Sh} (h : ShAt w B q t) (hB : B ≤ B') (hc : ∀ g k, g < B → w'.cell? ⟨g, k, none⟩ = w.cell? ⟨g, k, none⟩) : ShAt w' B' q t := by
  induction h with
  | mk q t g off qs hs hn hp hc' hr ih =>
    refine .mk q t g off qs hs ?_ ?_ ?_ ih
    · rcases hn with h | ⟨b, o, hA, hlt, hcc⟩
      · exact Or.inl h
      · exact Or.inr ⟨b, o, hA, Nat.lt_of_lt_of_le hlt hB, fun i hi => (hc b _ hlt).trans (hcc i hi)⟩
    · rcases hp with h | ⟨h, hg⟩
      · exact Or.inl h
      · exact Or.inr ⟨h, Nat.lt_of_lt_of_le hg hB⟩
    · intro i hi
      rcases hp with h | ⟨h, hg⟩
      · omega
      · exact (hc' i hi).of (fun k => hc g k hg)

theorem ShAt.keep {w w' : World} {B B' : Nat} {q : Ptr} {t : Sh} (h : ShAt w B q t) (hb : Below B' w w') (hB : B ≤ B') : ShAt w' B q t :=
  h.of (Nat.le_refl _) (fun g k hg => hb.cell (p := ⟨g, k, none⟩) (Nat.lt_of_lt_of_le hg hB))
theorem ShAt.more {w : World} {B B' : Nat} {q : Ptr} {t : Sh} (h : ShAt w B q t) (hB : B ≤ B') : ShAt w B' q t := h.of hB (fun _ _ _ => rfl)
theorem ShAt.next {w w' : World} {q : Ptr} {t : Sh} (h : ShAt w w.heap.size q t) (hb : Below w.heap.size w w') : ShAt w' w'.heap.size q t := (h.keep hb (Nat.le_refl _)).more hb.size

/-- The type's cells in a new block, or in one that the call made. -/
def Box5 (w : World) (g : Nat) (t : Sh) (q : Ptr) : Prop :=
  g < w.heap.size ∧ Sh5 w g 0 t q ∧ w.frozen? ⟨g, 0, none⟩ = false ∧ w.frozen? ⟨g, 1, none⟩ = false ∧ w.frozen? ⟨g, 2, none⟩ = false ∧ w.frozen? ⟨g, 3, none⟩ = false ∧ w.frozen? ⟨g, 4, none⟩ = false
theorem Box5.keep {W W' : World} {g B : Nat} {t : Sh} {q : Ptr} (h : Box5 W g t q) (hg : g < B) (hb : Below B W W') : Box5 W' g t q := by
  obtain ⟨h0, h1, f0, f1, f2, f3, f4⟩ := h
  exact ⟨Nat.lt_of_lt_of_le h0 hb.size, h1.keep hg hb, (hb.frozen (p := ⟨g, 0, none⟩) hg).trans f0, (hb.frozen (p := ⟨g, 1, none⟩) hg).trans f1, (hb.frozen (p := ⟨g, 2, none⟩) hg).trans f2, (hb.frozen (p := ⟨g, 3, none⟩) hg).trans f3, (hb.frozen (p := ⟨g, 4, none⟩) hg).trans f4⟩
theorem Box5.next {W W' : World} {g : Nat} {t : Sh} {q : Ptr} (h : Box5 W g t q) (hb : Below W.heap.size W W') : Box5 W' g t q := h.keep h.1 hb
theorem box5_new (w : World) (t : Sh) (q : Ptr) : Box5 (w.alloc (.cells #[.int .i64 t.kind, .string ⟨t.of_.toArray⟩, .string ⟨t.name.toArray⟩, .slice q.A t.names.length q.c, .slice q.P t.parts.length q.d] 25)) w.heap.size t q :=
  ⟨by simp, ⟨by simp [go_sem], by simp [go_sem], by simp [go_sem], by simp [go_sem], by simp [go_sem]⟩, by simp [go_sem], by simp [go_sem], by simp [go_sem], by simp [go_sem], by simp [go_sem]⟩

theorem add_plain7 (b off k : Nat) : (⟨b, off, none⟩ : Addr).add k = ⟨b, off + k, none⟩ := by unfold Addr.add; split <;> simp_all
theorem strs_data (ss : List ByteArray) : strs (ss.map fun s => s.data.toList) = ss := by
  unfold strs
  rw [List.map_map]
  conv => rhs; rw [← List.map_id ss]
  rfl

section
variable {H : Type} {enc : TypeId × Value → H} {W : World} {base : Nat} {held : Bool}

/-- A slice of texts that came in, as lists. -/
theorem strs_trod7 {fuel : Nat} {cs : List Value} {x : DataW H × List MemPlace} (h : DataW.trod enc Tryd.prog W base (fun _ => true) held fuel 22 cs = some x) :
    ∃ (A : Option Addr) (l : List (List UInt8)) (c : Nat), cs = [.slice A l.length c] ∧ Strs W W.heap.size A (strs l) ∧ l.length ≤ 9223372036854775807 ∧ l.length ≤ c ∧ (A = none → c = 0) ∧ ∀ y ∈ l, y.length ≤ 9223372036854775807 := by
  rcases Go.ChangeShapes.open_strings Tryd.underlying22 Tryd.underlying9 (by kernel_rfl) h with ⟨hcs, _⟩ | ⟨a, len, cap, ss, hcs, _, hl, hm, hz, _, hcell, hws⟩
  · exact ⟨none, [], 0, hcs, Or.inl rfl, by simp, by simp, fun _ => rfl, by simp⟩
  · have hz' : ss.length = cap := by simpa using hz
    unfold maxLen at hm
    refine ⟨some a, (ss.take len).map (fun s => s.data.toList), cap, ?_, ?_, ?_, ?_, by simp, ?_⟩
    · rw [hcs, List.length_map, List.length_take, Nat.min_eq_left (by omega)]
    · rw [strs_data]; exact strs_of_cells hcell
    · rw [List.length_map, List.length_take]; omega
    · rw [List.length_map, List.length_take]; omega
    · intro y hy
      obtain ⟨s, hs, rfl⟩ := List.mem_map.1 hy
      have := hws s (List.mem_of_mem_take hs)
      unfold maxLen at this
      rwa [Lib.size_eq] at this

theorem shape_trod : ∀ (fuel : Nat) {cs : List Value} {x : DataW H × List MemPlace}, DataW.trod enc Tryd.prog W base (fun _ => true) held fuel 25 cs = some x →
    ∃ (t : Sh) (q : Ptr), cs = [.int .i64 t.kind, .string ⟨t.of_.toArray⟩, .string ⟨t.name.toArray⟩, .slice q.A t.names.length q.c, .slice q.P t.parts.length q.d] ∧ ShAt W W.heap.size q t := by
  intro fuel
  induction fuel using Nat.strongRecOn with
  | _ fuel IH =>
  intro cs x h
  obtain ⟨xs, n, hn, _, hlen, hxl, hf⟩ := DataW.trod_struct Tryd.underlying25 h
  have hC : Tryd.prog.cellsOf 25 = 5 := by kernel_rfl
  have c1 : Tryd.prog.cellsOf 3 = 1 := by kernel_rfl
  have c9 : Tryd.prog.cellsOf 9 = 1 := by kernel_rfl
  have c22 : Tryd.prog.cellsOf 22 = 1 := by kernel_rfl
  have c23 : Tryd.prog.cellsOf 23 = 1 := by kernel_rfl
  rw [hC] at hlen
  match cs, hlen with
  | [a0, a1, a2, a3, a4], _ =>
    have f0 := hf 0 _ rfl
    have f1 := hf 1 _ rfl
    have f2 := hf 2 _ rfl
    have f3 := hf 3 _ rfl
    have f4 := hf 4 _ rfl
    have hz : xs.length = 5 := hxl
    change DataW.trod enc _ W base _ held n 3 (([a0, a1, a2, a3, a4].drop 0).take (Tryd.prog.cellsOf 3)) = _ at f0
    change DataW.trod enc _ W base _ held n 9 (([a0, a1, a2, a3, a4].drop 1).take (Tryd.prog.cellsOf 9)) = _ at f1
    change DataW.trod enc _ W base _ held n 9 (([a0, a1, a2, a3, a4].drop 2).take (Tryd.prog.cellsOf 9)) = _ at f2
    change DataW.trod enc _ W base _ held n 22 (([a0, a1, a2, a3, a4].drop 3).take (Tryd.prog.cellsOf 22)) = _ at f3
    change DataW.trod enc _ W base _ held n 23 (([a0, a1, a2, a3, a4].drop 4).take (Tryd.prog.cellsOf 23)) = _ at f4
    rw [c1, List.getElem?_eq_getElem (by omega)] at f0
    rw [c9, List.getElem?_eq_getElem (by omega)] at f1 f2
    rw [c22, List.getElem?_eq_getElem (by omega)] at f3
    rw [c23, List.getElem?_eq_getElem (by omega)] at f4
    obtain ⟨b0, hb0, _, _⟩ := DataW.trod_int Tryd.underlying3 f0
    obtain ⟨b1, hb1, _, hm1⟩ := DataW.trod_string Tryd.underlying9 f1
    obtain ⟨b2, hb2, _, hm2⟩ := DataW.trod_string Tryd.underlying9 f2
    obtain ⟨A, l, c, hb3, hS, hl, hlc, hA0, hly⟩ := strs_trod7 f3
    unfold maxLen at hm1 hm2
    simp at hb0 hb1 hb2 hb3
    subst hb0 hb1 hb2 hb3
    rcases DataW.trod_slice Tryd.underlying23 f4 with ⟨hb4, _⟩ | ⟨a, len, cap, elems, rest, n2, hn2, hb4, _, hb, hle, hmm, hel, hx, _⟩
    · simp at hb4
      subst hb4
      exact ⟨⟨b0, b1.data.toList, b2.data.toList, l, []⟩, ⟨A, c, none, 0⟩, rfl,
        .mk _ _ 0 0 (fun _ => ⟨none, 0, none, 0⟩) ⟨by rw [← Lib.size_eq]; exact hm1, by rw [← Lib.size_eq]; exact hm2, hly, hl, by simp, hlc, by simp, hA0, fun _ => rfl⟩ hS (Or.inl rfl) (fun i h => absurd h (by simp)) (fun i h => absurd h (by simp))⟩
    · simp at hb4
      subst hb4
      unfold maxLen at hmm
      have hv : ∀ i, ∃ u : Sh × Ptr, i < len → W.cell? (a.add (i * 5 + 0)) = some (.int .i64 u.1.kind) ∧ W.cell? (a.add (i * 5 + 1)) = some (.string ⟨u.1.of_.toArray⟩) ∧ W.cell? (a.add (i * 5 + 2)) = some (.string ⟨u.1.name.toArray⟩) ∧
          W.cell? (a.add (i * 5 + 3)) = some (.slice u.2.A u.1.names.length u.2.c) ∧ W.cell? (a.add (i * 5 + 4)) = some (.slice u.2.P u.1.parts.length u.2.d) ∧ ShAt W W.heap.size u.2 u.1 := by
        intro i
        by_cases hi : i < len
        · have h1 := hx i hi
          rw [hC, List.getElem?_eq_getElem (by omega)] at h1
          cases hcs : W.cells? base (a.add (i * 5)) 5 with
          | none => rw [hcs] at h1; cases h1
          | some cs' =>
            rw [hcs] at h1
            obtain ⟨u, q, hu, hat⟩ := IH n2 (by omega) h1
            subst hu
            obtain ⟨_, hcl, hat'⟩ := World.cells?_some hcs
            refine ⟨(u, q), fun _ => ⟨?_, ?_, ?_, ?_, ?_, hat⟩⟩
            · rw [← Go.Deep.add_add]; exact hat' 0 (by omega)
            · rw [← Go.Deep.add_add]; exact hat' 1 (by omega)
            · rw [← Go.Deep.add_add]; exact hat' 2 (by omega)
            · rw [← Go.Deep.add_add]; exact hat' 3 (by omega)
            · rw [← Go.Deep.add_add]; exact hat' 4 (by omega)
        · exact ⟨(⟨0, [], [], [], []⟩, ⟨none, 0, none, 0⟩), fun h => absurd h hi⟩
      let f := fun i => (hv i).choose
      have hf2 : ∀ i, i < len → W.cell? (a.add (i * 5 + 0)) = some (.int .i64 (f i).1.kind) ∧ W.cell? (a.add (i * 5 + 1)) = some (.string ⟨(f i).1.of_.toArray⟩) ∧ W.cell? (a.add (i * 5 + 2)) = some (.string ⟨(f i).1.name.toArray⟩) ∧
          W.cell? (a.add (i * 5 + 3)) = some (.slice (f i).2.A (f i).1.names.length (f i).2.c) ∧ W.cell? (a.add (i * 5 + 4)) = some (.slice (f i).2.P (f i).1.parts.length (f i).2.d) ∧ ShAt W W.heap.size (f i).2 (f i).1 := fun i => (hv i).choose_spec
      have hln : ((List.range len).map fun i => (f i).1).length = len := by simp
      refine ⟨⟨b0, b1.data.toList, b2.data.toList, l, (List.range len).map fun i => (f i).1⟩, ⟨A, c, some a, cap⟩, by simp, ?_⟩
      obtain ⟨b, off, spot⟩ := a
      have hsm : Small ⟨b0, b1.data.toList, b2.data.toList, l, (List.range len).map fun i => (f i).1⟩ ⟨A, c, some ⟨b, off, spot⟩, cap⟩ :=
        ⟨by rw [← Lib.size_eq]; exact hm1, by rw [← Lib.size_eq]; exact hm2, hly, hl, by simp; omega, hlc, by simp; omega, hA0, fun h => by cases h⟩
      by_cases h0 : len = 0
      · exact .mk _ _ 0 0 (fun _ => ⟨none, 0, none, 0⟩) hsm hS (Or.inl (by simp [h0])) (fun i h => absurd h (by simp [h0])) (fun i h => absurd h (by simp [h0]))
      · have h1 := (hf2 0 (by omega)).1
        have hspot : spot = none := by simpa [Addr.add] using World.cell?_spot h1
        subst hspot
        have hplain : ∀ k, (⟨b, off, none⟩ : Addr).add k = ⟨b, off + k, none⟩ := fun k => add_plain7 b off k
        refine .mk _ _ b off (fun i => (f i).2) hsm hS (Or.inr ⟨rfl, ?_⟩) ?_ ?_
        · rw [hplain] at h1
          exact lt_of_cell h1
        · intro i hi
          have hin : i < len := by simpa using hi
          obtain ⟨g0, g1, g2, g3, g4, _⟩ := hf2 i hin
          simp only [hplain] at g0 g1 g2 g3 g4
          simp only [List.getElem_map, List.getElem_range]
          exact ⟨g0, g1, g2, g3, g4⟩
        · intro i hi
          have hin : i < len := by simpa using hi
          simp only [List.getElem_map, List.getElem_range]
          exact (hf2 i hin).2.2.2.2.2
end
end Go.Proofs.YtkehnmapnckdgaaDoor

/- The document's Deep, Size and open of layer 7. -/
namespace Go.Proofs.YtkehnmapnckdgaaDoor
open Go.RowKit Shp
set_option linter.unusedVariables false

set_option maxRecDepth 100000 in
set_option maxHeartbeats 1000000 in
theorem rdeep_walk (t : Sh) : ∀ (q : Ptr) (w : World), ShAt w w.heap.size q t → deep t ≤ 1000000 →
    Calls Tryd.prog 10 #[.agg #[.int .i64 t.kind, .string ⟨t.of_.toArray⟩, .string ⟨t.name.toArray⟩, .slice q.A t.names.length q.c, .slice q.P t.parts.length q.d]] w
      fun e w' => e = .returned (.int .i64 (deep t : Int)) ∧ Below w.heap.size w w' := by
  induction t using Sh.ind with
  | h t ih =>
  intro q w hq hd
  have HM := Lib.hid hq.small.m
  have HP := Lib.hid hq.part
  have HD : Hid (deep t = deeps t.parts + 1) := Lib.hid (deep_eq t)
  have hd2 : deeps t.parts ≤ 1000000 := by have := HD.out; omega
  have hB := box5_new w t q
  have HB := Lib.hid hB
  have hb0 := below_one w (.cells #[.int .i64 t.kind, .string ⟨t.of_.toArray⟩, .string ⟨t.name.toArray⟩, .slice q.A t.names.length q.c, .slice q.P t.parts.length q.d] 25)
  have HB0 := Lib.hid hb0
  clear hB hb0 hq hd
  go_enter Tryd.func10, Tryd.ntmps10
  go_wp2_with fail
  generalize hW0 : w.alloc (.cells #[.int .i64 t.kind, .string ⟨t.of_.toArray⟩, .string ⟨t.name.toArray⟩, .slice q.A t.names.length q.c, .slice q.P t.parts.length q.d] 25) = W0 at HB HB0 ⊢
  clear hW0
  go_loopw [3, 4] (fun nn ii wr => ∃ i : Nat, ii = .int .i64 i ∧ i ≤ t.parts.length ∧ nn = .int .i64 (deeps (t.parts.take i) : Int) ∧ Below W0.heap.size W0 wr) (fun _ i _ => t.parts.length - (intOf i).toNat)
  case atStart => exact ⟨0, rfl, Nat.zero_le _, rfl, Below.refl _ _⟩
  case round =>
    obtain ⟨i, rfl, hi, rfl, hb⟩ := hrel
    have HBX := Lib.hid (HB.out.next hb)
    have hm := HM.out
    obtain ⟨_, ⟨_, _, _, _, c4⟩, _⟩ := HB.out.next hb
    by_cases hlt : i < t.parts.length
    · rcases HP.out with h0 | ⟨g, off, qs, hqP, hg, hc, hr⟩
      · omega
      · have hbw : Below w.heap.size w wr := HB0.out.trans (hb.mono HB0.out.size)
        obtain ⟨x, hx⟩ : ∃ x, x = t.parts[i] := ⟨_, rfl⟩
        obtain ⟨p0, p1, p2, p3, p4⟩ := (hc i hlt).keep hg hbw
        have hat : ShAt wr wr.heap.size (qs i) x := by rw [hx]; exact (hr i hlt).next hbw
        have ihx := ih t.parts[i] (List.getElem_mem _) (qs i) wr
        have hdx : deep x ≤ 1000000 := by rw [hx]; exact Nat.le_trans (deeps_mem (List.getElem_mem _)) hd2
        have HN : Hid (deeps (t.parts.take (i + 1)) = max (deeps (t.parts.take i)) (deep x)) := Lib.hid (by rw [hx]; exact deeps_next hlt)
        rw [← hx] at p0 p1 p2 p3 p4 ihx
        have IH := ihx hat hdx
        have htk := deeps_take t.parts i
        rw [hqP] at c4
        clear hx hc hr hat ihx hdx hd2 ih hqP
        have hi1 : (i : Int) < (t.parts.length : Int) := by omega
        generalize deeps (t.parts.take i) = a at HN htk ⊢
        by_cases hgt : (a : Int) < (deep x : Int)
        all_goals
          go_wp2_with (refine IH.mono ?_; rintro e w' ⟨rfl, hb'⟩)
          go_wp2
          go_roundw
          case rel => exact ⟨i + 1, by go_num, by omega, by rw [HN.out]; go_num, hb.trans (hb'.mono hb.size)⟩
          case measure => simp [intOf]; omega
    · have hie : i = t.parts.length := by omega
      have HE : Hid (deeps (t.parts.take i) = deeps t.parts) := Lib.hid (by rw [hie, List.take_length])
      have htk := deeps_take t.parts i
      clear hie
      go_wp2
      go_ret
      exact ⟨by rw [HE.out, HD.out]; go_num, HB0.out.trans (hb.mono HB0.out.size)⟩

theorem sizeTo_step {l : List Sh} {i m : Nat} (hi : i < l.length) (h : 1 + sizes (l.take i) ≤ m) : min (1 + sizes (l.take i)) (m + 1) + sizeTo (m - min (1 + sizes (l.take i)) (m + 1)) (l[i]'hi) = min (1 + sizes (l.take (i + 1))) (m + 1) := by
  rw [sizes_next hi]; unfold sizeTo; omega

set_option maxRecDepth 100000 in
set_option maxHeartbeats 1000000 in
theorem rsize_walk (t : Sh) : ∀ (q : Ptr) (m : Nat) (w : World), ShAt w w.heap.size q t → m ≤ 1000000 →
    Calls Tryd.prog 9 #[.agg #[.int .i64 t.kind, .string ⟨t.of_.toArray⟩, .string ⟨t.name.toArray⟩, .slice q.A t.names.length q.c, .slice q.P t.parts.length q.d], .int .i64 (m : Int)] w
      fun e w' => e = .returned (.int .i64 (sizeTo m t : Int)) ∧ Below w.heap.size w w' := by
  induction t using Sh.ind with
  | h t ih =>
  intro q m w hq hmm
  have HM := Lib.hid hq.small.m
  have HP := Lib.hid hq.part
  have HZ : Hid (size t = 1 + sizes t.parts) := Lib.hid (size_eq t)
  have hB := box5_new w t q
  have HB := Lib.hid hB
  have hb0 := below_one w (.cells #[.int .i64 t.kind, .string ⟨t.of_.toArray⟩, .string ⟨t.name.toArray⟩, .slice q.A t.names.length q.c, .slice q.P t.parts.length q.d] 25)
  have HB0 := Lib.hid hb0
  clear hB hb0 hq
  go_enter Tryd.func9, Tryd.ntmps9
  go_wp2_with fail
  generalize hW0 : w.alloc (.cells #[.int .i64 t.kind, .string ⟨t.of_.toArray⟩, .string ⟨t.name.toArray⟩, .slice q.A t.names.length q.c, .slice q.P t.parts.length q.d] 25) = W0 at HB HB0 ⊢
  clear hW0
  go_loopw [5, 6] (fun nn ii wr => ∃ i : Nat, ii = .int .i64 i ∧ i ≤ t.parts.length ∧ nn = .int .i64 ((min (1 + sizes (t.parts.take i)) (m + 1) : Nat) : Int) ∧ Below W0.heap.size W0 wr) (fun _ i _ => t.parts.length - (intOf i).toNat)
  case atStart => exact ⟨0, rfl, Nat.zero_le _, by rw [List.take_zero]; show Value.int .i64 1 = .int .i64 ((min (1 + 0) (m + 1) : Nat) : Int); rw [Nat.min_eq_left (by omega)]; rfl, Below.refl _ _⟩
  case round =>
    obtain ⟨i, rfl, hi, rfl, hb⟩ := hrel
    have hm := HM.out
    obtain ⟨_, ⟨_, _, _, _, c4⟩, _⟩ := HB.out.next hb
    obtain ⟨n, hn⟩ : ∃ n, n = min (1 + sizes (t.parts.take i)) (m + 1) := ⟨_, rfl⟩
    rw [← hn]
    have HE := Lib.hid hn
    have hn1 : 1 ≤ n := by omega
    have hn2 : n ≤ m + 1 := by omega
    by_cases hlt : i < t.parts.length
    · have hi1 : (i : Int) < (t.parts.length : Int) := by omega
      by_cases hnm : n ≤ m
      · rcases HP.out with h0 | ⟨g, off, qs, hqP, hg, hc, hr⟩
        · omega
        · have hbw : Below w.heap.size w wr := HB0.out.trans (hb.mono HB0.out.size)
          obtain ⟨x, hx⟩ : ∃ x, x = t.parts[i] := ⟨_, rfl⟩
          obtain ⟨p0, p1, p2, p3, p4⟩ := (hc i hlt).keep hg hbw
          have hat : ShAt wr wr.heap.size (qs i) x := by rw [hx]; exact (hr i hlt).next hbw
          have ihx := ih t.parts[i] (List.getElem_mem _) (qs i) (m - n) wr
          have HN : Hid (n + sizeTo (m - n) x = min (1 + sizes (t.parts.take (i + 1))) (m + 1)) := Lib.hid (by rw [hx, hn]; exact sizeTo_step hlt (by omega))
          rw [← hx] at p0 p1 p2 p3 p4 ihx
          have IH := ihx hat (by omega)
          rw [show ((m - n : Nat) : Int) = (m : Int) - (n : Int) from by omega] at IH
          rw [hqP] at c4
          have hsz : sizeTo (m - n) x ≤ m - n + 1 := Nat.min_le_right _ _
          have d2 : decide (n ≤ m) = true := decide_eq_true (by omega)
          have d3 : decide (i < t.parts.length) = true := decide_eq_true (by omega)
          have hnm2 : (n : Int) ≤ (m : Int) := by omega
          have hmm2 : (m : Int) ≤ 1000000 := by omega
          generalize sizeTo (m - n) x = z at IH HN hsz
          have hz2 : (n : Int) + (z : Int) ≤ 1000001 := by omega
          clear hx hc hr hat ihx ih hqP hn
          go_wp2_with (refine IH.mono ?_; rintro e w' ⟨rfl, hb'⟩)
          go_roundw
          case rel => exact ⟨i + 1, by go_num, by omega, by rw [← HN.out]; go_num, hb.trans (hb'.mono hb.size)⟩
          case measure => simp [intOf]; omega
      · have HF : Hid (n = sizeTo m t) := Lib.hid (by
          have := sizes_take t.parts i
          unfold sizeTo; have := HZ.out; omega)
        have d2 : decide (n ≤ m) = false := decide_eq_false (by omega)
        have d3 : decide (i < t.parts.length) = true := decide_eq_true (by omega)
        clear hn
        go_wp2
        go_ret
        exact ⟨by rw [← HF.out]; rfl, HB0.out.trans (hb.mono HB0.out.size)⟩
    · have HF : Hid (n = sizeTo m t) := Lib.hid (by
        rw [show i = t.parts.length from by omega, List.take_length] at hn
        unfold sizeTo; have := HZ.out; omega)
      have d3 : decide (i < t.parts.length) = false := decide_eq_false (by omega)
      clear hn
      go_wp2
      go_ret
      exact ⟨by rw [← HF.out]; rfl, HB0.out.trans (hb.mono HB0.out.size)⟩

set_option maxRecDepth 100000 in
set_option maxHeartbeats 1000000 in
theorem ropen_walk (t : Sh) : ∀ (q : Ptr) (w : World), ShAt w w.heap.size q t →
    Calls Tryd.prog 31 #[.agg #[.int .i64 t.kind, .string ⟨t.of_.toArray⟩, .string ⟨t.name.toArray⟩, .slice q.A t.names.length q.c, .slice q.P t.parts.length q.d]] w
      fun e w' => e = .returned (.bool (opened t)) ∧ Below w.heap.size w w' := by
  induction t using Sh.ind with
  | h t ih =>
  intro q w hq
  have HM := Lib.hid hq.small.m
  have HP := Lib.hid hq.part
  have HD : Hid (opened t = (decide (t.kind = 9) || openeds t.parts)) := Lib.hid (opened_eq t)
  have hB := box5_new w t q
  have HB := Lib.hid hB
  have hb0 := below_one w (.cells #[.int .i64 t.kind, .string ⟨t.of_.toArray⟩, .string ⟨t.name.toArray⟩, .slice q.A t.names.length q.c, .slice q.P t.parts.length q.d] 25)
  have HB0 := Lib.hid hb0
  clear hB hb0 hq
  go_enter Tryd.func31, Tryd.ntmps31
  go_wp2_with fail
  generalize hW0 : w.alloc (.cells #[.int .i64 t.kind, .string ⟨t.of_.toArray⟩, .string ⟨t.name.toArray⟩, .slice q.A t.names.length q.c, .slice q.P t.parts.length q.d] 25) = W0 at HB HB0 ⊢
  clear hW0
  go_loopw [3] (fun ii wr => ∃ i : Nat, ii = .int .i64 i ∧ i ≤ t.parts.length ∧ Hid (∀ j (h : j < t.parts.length), j < i → opened (t.parts[j]'h) = false) ∧ Below W0.heap.size W0 wr) (fun i _ => t.parts.length - (intOf i).toNat)
  case atStart => exact ⟨0, rfl, Nat.zero_le _, Lib.hid (fun j _ hj => absurd hj (by omega)), Below.refl _ _⟩
  case round =>
    obtain ⟨i, rfl, hi, HN, hb⟩ := hrel
    have hm := HM.out
    obtain ⟨_, ⟨c0, _, _, _, c4⟩, _⟩ := HB.out.next hb
    by_cases hlt : i < t.parts.length
    · rcases HP.out with h0 | ⟨g, off, qs, hqP, hg, hc, hr⟩
      · omega
      · have hbw : Below w.heap.size w wr := HB0.out.trans (hb.mono HB0.out.size)
        obtain ⟨x, hx⟩ : ∃ x, x = t.parts[i] := ⟨_, rfl⟩
        obtain ⟨p0, p1, p2, p3, p4⟩ := (hc i hlt).keep hg hbw
        have hat : ShAt wr wr.heap.size (qs i) x := by rw [hx]; exact (hr i hlt).next hbw
        have ihx := ih t.parts[i] (List.getElem_mem _) (qs i) wr
        rw [← hx] at p0 p1 p2 p3 p4 ihx
        have IH := ihx hat
        rw [hqP] at c4
        have HX := Lib.hid hx
        clear hx hc hr hat ihx ih hqP
        have hi1 : (i : Int) < (t.parts.length : Int) := by omega
        cases hox : opened x with
        | true =>
          rw [hox] at IH
          have HF : Hid (opened t = true) := Lib.hid (by
            rw [HD.out, openeds_any, Bool.or_eq_true]; right
            rw [List.any_eq_true]
            exact ⟨x, by rw [HX.out]; exact List.getElem_mem _, hox⟩)
          go_wp2_with (refine IH.mono ?_; rintro e w' ⟨rfl, hb'⟩)
          go_ret
          exact ⟨by rw [HF.out]; rfl, HB0.out.trans ((hb.trans (hb'.mono hb.size)).mono HB0.out.size)⟩
        | false =>
          rw [hox] at IH
          have HO := Lib.hid hox
          clear hox
          go_wp2_with (refine IH.mono ?_; rintro e w' ⟨rfl, hb'⟩)
          go_roundw
          case rel => exact ⟨i + 1, by go_num, by omega, Lib.hid (fun j hj hji => by
            rcases Nat.lt_succ_iff_lt_or_eq.1 hji with h | rfl
            · exact HN.out j hj h
            · rw [← HX.out]; exact HO.out), hb.trans (hb'.mono hb.size)⟩
          case measure => simp [intOf]; omega
    · have HF : Hid (opened t = decide (t.kind = 9)) := Lib.hid (by
        rw [HD.out, openeds_any]
        have : t.parts.any opened = false := by
          rw [List.any_eq_false]
          intro p hp
          obtain ⟨j, hj, rfl⟩ := List.getElem_of_mem hp
          rw [HN.out j hj (by omega)]; simp
        rw [this, Bool.or_false])
      go_wp2
      go_ret
      exact ⟨by rw [HF.out]; congr 2, HB0.out.trans (hb.mono HB0.out.size)⟩
end Go.Proofs.YtkehnmapnckdgaaDoor

/- The document's names of layer 7: may names stand with so many parts? -/
namespace Go.Proofs.YtkehnmapnckdgaaDoor
open Go.RowKit Shp
set_option linter.unusedVariables false

theorem strs_len (l : List (List UInt8)) : (strs l).length = l.length := by simp [strs]
theorem Strs.cell7 {w : World} {B : Nat} {A : Option Addr} {l : List (List UInt8)} (h : Strs w B A (strs l)) : l.length = 0 ∨ ∃ g off, A = some ⟨g, off, none⟩ ∧ g < B ∧ ∀ i (hi : i < l.length), w.cell? ⟨g, off + i, none⟩ = some (.string ⟨(l[i]'hi).toArray⟩) := by
  rcases h with h | ⟨g, off, hA, hg, hc⟩
  · exact Or.inl (by rwa [strs_len] at h)
  · refine Or.inr ⟨g, off, hA, hg, fun i hi => ?_⟩
    rw [hc i (by rwa [strs_len])]
    simp [strs]

set_option maxRecDepth 100000 in
set_option maxHeartbeats 2000000 in
theorem rnames_walk (A : Option Addr) (c : Nat) (l : List (List UInt8)) (p : Nat) (w : World) (hA : Strs w w.heap.size A (strs l)) (hl : l.length ≤ 9223372036854775807) (hx : ∀ x ∈ l, x.length ≤ 9223372036854775807) :
    Calls Tryd.prog 63 #[.slice A l.length c, .int .i64 (p : Int)] w fun e w' => e = .returned (.bool (areNames l && decide (l.length = p))) ∧ Below w.heap.size w w' := by
  have HA := Lib.hid hA
  have HX := Lib.hid hx
  clear hA hx
  go_enter Tryd.func63, Tryd.ntmps63
  go_wp2_with fail
  go_loopw [5] (fun ii wr => ∃ i : Nat, ii = .int .i64 i ∧ i ≤ l.length ∧ Hid (∀ j (hj : j < l.length), j < i → Lex.isName (l[j]'hj) = true ∧ ∀ k (hk : k < j), l[k]'(by omega) ≠ l[j]'hj) ∧ Below w.heap.size w wr)
    (fun i _ => l.length - (intOf i).toNat)
  case atStart => exact ⟨0, rfl, Nat.zero_le _, Lib.hid (fun j _ hj => absurd hj (by omega)), Below.refl _ _⟩
  case round =>
    obtain ⟨i, rfl, hi, HN, hb⟩ := hrel
    by_cases hlt : i < l.length
    · have hi1 : (i : Int) < (l.length : Int) := by omega
      rcases (HA.out.next hb).cell7 with h0 | ⟨g, off, rfl, hg, hc⟩
      · omega
      · have hcell := hc i hlt
        obtain ⟨x, hx⟩ : ∃ x, x = l[i]'hlt := ⟨_, rfl⟩
        rw [← hx] at hcell
        have hxl : x.length ≤ 9223372036854775807 := by rw [hx]; exact HX.out _ (List.getElem_mem _)
        have HE := Lib.hid hx
        have HC := Lib.hid hc
        clear hx hc
        cases hn : Lex.isName x with
        | false =>
          have HF : Hid (areNames l = false) := Lib.hid (areNames_off hlt (by rw [← HE.out]; exact hn))
          have hw := lname_walk x hxl wr
          rw [hn] at hw
          clear hn
          go_wp2_with (refine hw.mono ?_; rintro e w' ⟨rfl, hb'⟩)
          go_ret
          exact ⟨by rw [HF.out]; rfl, below_next hb hb'⟩
        | true =>
          have HT : Hid (Lex.isName (l[i]'hlt) = true) := Lib.hid (by rw [← HE.out]; exact hn)
          have hw := lname_walk x hxl wr
          rw [hn] at hw
          clear hn
          go_wp2_with (refine hw.mono ?_; rintro e w' ⟨rfl, hb'⟩)
          have hbw := below_next hb hb'
          have HC2 : Hid (∀ j (hj : j < l.length), w'.cell? ⟨g, off + j, none⟩ = some (.string ⟨(l[j]'hj).toArray⟩)) := Lib.hid (fun j hj => ((hb'.cell (p := ⟨g, off + j, none⟩) hg).trans (HC.out j hj)))
          have hcell2 := HC2.out i hlt
          rw [← HE.out] at hcell2
          have HH2 := Lib.hid hcell2
          have HBW := Lib.hid hbw
          clear hw hb hb' hbw hcell hcell2
          go_loopw [6] (fun kk wr2 => ∃ k : Nat, kk = .int .i64 k ∧ k ≤ i ∧ Hid (∀ j (hj : j < i), j < k → l[j]'(by omega) ≠ l[i]'hlt) ∧ Hid (Below w'.heap.size w' wr2))
            (fun k _ => i - (intOf k).toNat)
          case atStart => exact ⟨0, rfl, Nat.zero_le _, Lib.hid (fun j _ hj => absurd hj (by omega)), Lib.hid (Below.refl _ _)⟩
          case round =>
            obtain ⟨k, rfl, hk, HK, HB2⟩ := hrel
            have hgw : g < w'.heap.size := lt_of_cell HH2.out
            by_cases hki : k < i
            · have hk1 : (k : Int) < (i : Int) := by omega
              have hk2 : (k : Int) < (l.length : Int) := by omega
              have hck := (HB2.out.cell (p := ⟨g, off + k, none⟩) hgw).trans (HC2.out k (by omega))
              have hci := (HB2.out.cell (p := ⟨g, off + i, none⟩) hgw).trans HH2.out
              obtain ⟨y, hy⟩ : ∃ y, y = l[k]'(by omega) := ⟨_, rfl⟩
              rw [← hy] at hck
              have HY := Lib.hid hy
              clear hy
              cases hq : (y == x)
              · have HM : Hid (l[k]'(by omega) ≠ l[i]'hlt) := Lib.hid (by rw [← HY.out, ← HE.out]; intro h; rw [h] at hq; simp at hq)
                go_wp2_with fail
                go_quiet (fail)
                go_wp2
                go_roundw
                case rel => exact ⟨k + 1, by go_num, by omega, Lib.hid (fun j hj hji => by
                  rcases Nat.lt_succ_iff_lt_or_eq.1 hji with h | rfl
                  · exact HK.out j hj h
                  · exact HM.out), Lib.hid (below_drewN HB2.out _)⟩
                case measure => simp [intOf]; omega
              · have HF : Hid (areNames l = false) := Lib.hid (areNames_twice hlt hki (by rw [← HY.out, ← HE.out]; simpa using hq))
                go_wp2_with fail
                go_quiet (fail)
                go_wp2
                go_ret
                exact ⟨by rw [HF.out]; rfl, below_drewN (below_next HBW.out HB2.out) _⟩
            · have hke : k = i := by omega
              have HN2 : Hid (∀ j (hj : j < l.length), j < i + 1 → Lex.isName (l[j]'hj) = true ∧ ∀ k (hk : k < j), l[k]'(by omega) ≠ l[j]'hj) := Lib.hid (fun j hj hji => by
                rcases Nat.lt_succ_iff_lt_or_eq.1 hji with h | rfl
                · exact HN.out j hj h
                · exact ⟨HT.out, fun m hm => HK.out m hm (by omega)⟩)
              have hk1 : ¬ (k : Int) < (i : Int) := by omega
              clear hke
              go_wp2
              go_roundw
              case rel => exact ⟨i + 1, by go_num, by omega, HN2, below_next HBW.out HB2.out⟩
              case measure => simp [intOf]; omega
    · have hi1 : ¬ (i : Int) < (l.length : Int) := by omega
      have HM : Hid (areNames l = true) := Lib.hid (areNames_on (fun j hj => (HN.out j hj (by omega)).1) (fun j hj => (HN.out j hj (by omega)).2))
      go_wp2
      go_ret
      exact ⟨ret_bool7 (by rw [HM.out, Bool.true_and, Bool.eq_iff_iff]; simp; omega), hb⟩
end Go.Proofs.YtkehnmapnckdgaaDoor
