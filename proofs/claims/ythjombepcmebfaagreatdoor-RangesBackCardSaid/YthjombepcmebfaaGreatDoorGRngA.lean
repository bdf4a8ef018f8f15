/- Bds, BdsOpen, RngRCheck, RngROne, RngRNear, RngRBest, RngRSign, RngRShow, RngRWords, RngRSame, Append, RngTwo, together. -/
import Derived.Test.YthjombepcmebfaaGreatDoorGPure
import Derived.Test.YthjombepcmebfaaGreatDoorGSemA
import Derived.Lib.SmallJoins
import Derived.Deep.Slices
import Derived.Deep.Fields
import Derived.ChangeSame
import Derived.SizedLaws
import Derived.OpenShut
import Derived.Test.YthjombepcmebfaaGreatDoorGSemB
import Derived.StillTailTactics
import Derived.Laws.OwnMore
import Derived.Deep.AppendLies
/- Slices of bounds: what lies in them. -/
namespace Go.Proofs.YthjombepcmebfaaGreatDoor
open Go.RowKit
set_option linter.unusedVariables false

/-- A bound as a value: its cells, flat. -/
def bdV (b : Rng.Bd) : Value := .agg #[.int .i64 b.op, .int .i64 b.v.maj, .int .i64 b.v.min, .int .i64 b.v.pat, .string ⟨b.v.pre.toArray⟩]

/-- A bound in memory, from a cell on. -/
def BdAt (w : World) (g o : Nat) (b : Rng.Bd) : Prop :=
  w.cell? ⟨g, o, none⟩ = some (.int .i64 b.op) ∧ w.cell? ⟨g, o + 1, none⟩ = some (.int .i64 b.v.maj) ∧ w.cell? ⟨g, o + 2, none⟩ = some (.int .i64 b.v.min) ∧
  w.cell? ⟨g, o + 3, none⟩ = some (.int .i64 b.v.pat) ∧ w.cell? ⟨g, o + 4, none⟩ = some (.string ⟨b.v.pre.toArray⟩)

theorem BdAt.keep {w w' : World} {g o B : Nat} {b : Rng.Bd} (h : BdAt w g o b) (hg : g < B) (hb : Below B w w') : BdAt w' g o b := by
  obtain ⟨h0, h1, h2, h3, h4⟩ := h
  exact ⟨(hb.cell (p := ⟨g, o, none⟩) hg).trans h0, (hb.cell (p := ⟨g, o + 1, none⟩) hg).trans h1, (hb.cell (p := ⟨g, o + 2, none⟩) hg).trans h2, (hb.cell (p := ⟨g, o + 3, none⟩) hg).trans h3, (hb.cell (p := ⟨g, o + 4, none⟩) hg).trans h4⟩

/-- The cells of a slice of bounds, in blocks below B. -/
def Bds (w : World) (B : Nat) (A : Option Addr) (l : List Rng.Bd) : Prop :=
  l.length = 0 ∨ ∃ g off, A = some ⟨g, off, none⟩ ∧ g < B ∧ ∀ i (h : i < l.length), BdAt w g (off + i * 5) (l[i]'h)

theorem Bds.keep {w w' : World} {B B' : Nat} {A : Option Addr} {l : List Rng.Bd} (h : Bds w B A l) (hb : Below B' w w') (hB : B ≤ B') : Bds w' B A l := by
  rcases h with h | ⟨g, off, hA, hlt, hc⟩
  · exact Or.inl h
  · exact Or.inr ⟨g, off, hA, hlt, fun i hi => (hc i hi).keep (Nat.lt_of_lt_of_le hlt hB) hb⟩

theorem Bds.more {w : World} {B B' : Nat} {A : Option Addr} {l : List Rng.Bd} (h : Bds w B A l) (hB : B ≤ B') : Bds w B' A l := by
  rcases h with h | ⟨g, off, hA, hlt, hc⟩
  · exact Or.inl h
  · exact Or.inr ⟨g, off, hA, Nat.lt_of_lt_of_le hlt hB, hc⟩

theorem Bds.next {w w' : World} {A : Option Addr} {l : List Rng.Bd} (h : Bds w w.heap.size A l) (hb : Below w.heap.size w w') : Bds w' w'.heap.size A l :=
  (h.keep hb (Nat.le_refl _)).more hb.size

/-- Check's answer. -/
def chkB (l : List Rng.Bd) : Int := if Rng.may l = true then 0 else 50
end Go.Proofs.YthjombepcmebfaaGreatDoor

/- Slices of bounds that came in. -/
namespace Go.Proofs.YthjombepcmebfaaGreatDoor
open Go.RowKit
set_option linter.unusedVariables false
set_option maxRecDepth 100000

theorem add_plain5 (b off k : Nat) : (⟨b, off, none⟩ : Addr).add k = ⟨b, off + k, none⟩ := by unfold Addr.add; split <;> simp_all

section
variable {H : Type} {enc : TypeId × Value → H} {W : World} {base fuel : Nat} {spare : Nat → Bool} {held : Bool} {cs : List Value} {x : DataW H × List MemPlace}

/-- A version's cells. -/
theorem ver_cells (h : DataW.trod enc Tryz.prog W base spare held fuel 40 cs = some x) :
    ∃ v : Sem.Ver, cs = [.int .i64 v.maj, .int .i64 v.min, .int .i64 v.pat, .string ⟨v.pre.toArray⟩] ∧ v.pre.length ≤ 9223372036854775807 := by
  obtain ⟨xs, n, _, _, hlen, hxl, hf⟩ := DataW.trod_struct Tryz.underlying40 h
  have hC : Tryz.prog.cellsOf 40 = 4 := by kernel_rfl
  have c1 : Tryz.prog.cellsOf 3 = 1 := by kernel_rfl
  have c9 : Tryz.prog.cellsOf 9 = 1 := by kernel_rfl
  rw [hC] at hlen
  match cs, hlen with
  | [a0, a1, a2, a3], _ =>
    have f0 := hf 0 _ rfl
    have f1 := hf 1 _ rfl
    have f2 := hf 2 _ rfl
    have f3 := hf 3 _ rfl
    have hz : xs.length = 4 := hxl
    change DataW.trod enc _ W base spare held n 3 (([a0, a1, a2, a3].drop 0).take (Tryz.prog.cellsOf 3)) = _ at f0
    change DataW.trod enc _ W base spare held n 3 (([a0, a1, a2, a3].drop 1).take (Tryz.prog.cellsOf 3)) = _ at f1
    change DataW.trod enc _ W base spare held n 3 (([a0, a1, a2, a3].drop 2).take (Tryz.prog.cellsOf 3)) = _ at f2
    change DataW.trod enc _ W base spare held n 9 (([a0, a1, a2, a3].drop 3).take (Tryz.prog.cellsOf 9)) = _ at f3
    rw [c1, List.getElem?_eq_getElem (by omega)] at f0 f1 f2
    rw [c9, List.getElem?_eq_getElem (by omega)] at f3
    obtain ⟨b0, hb0, _, _⟩ := DataW.trod_int Tryz.underlying3 f0
    obtain ⟨b1, hb1, _, _⟩ := DataW.trod_int Tryz.underlying3 f1
    obtain ⟨b2, hb2, _, _⟩ := DataW.trod_int Tryz.underlying3 f2
    obtain ⟨b3, hb3, _, hml⟩ := DataW.trod_string Tryz.underlying9 f3
    simp at hb0 hb1 hb2 hb3
    subst hb0 hb1 hb2 hb3
    exact ⟨⟨b0, b1, b2, b3.data.toList⟩, rfl, by unfold maxLen at hml; exact hml⟩

/-- A bound's cells. -/
theorem bound_cells (h : DataW.trod enc Tryz.prog W base spare held fuel 57 cs = some x) :
    ∃ b : Rng.Bd, cs = [.int .i64 b.op, .int .i64 b.v.maj, .int .i64 b.v.min, .int .i64 b.v.pat, .string ⟨b.v.pre.toArray⟩] ∧ b.v.pre.length ≤ 9223372036854775807 := by
  obtain ⟨xs, n, _, _, hlen, hxl, hf⟩ := DataW.trod_struct Tryz.underlying57 h
  have hC : Tryz.prog.cellsOf 57 = 5 := by kernel_rfl
  have c1 : Tryz.prog.cellsOf 3 = 1 := by kernel_rfl
  have c4 : Tryz.prog.cellsOf 40 = 4 := by kernel_rfl
  rw [hC] at hlen
  match cs, hlen with
  | [a0, a1, a2, a3, a4], _ =>
    have f0 := hf 0 _ rfl
    have f1 := hf 1 _ rfl
    have hz : xs.length = 2 := hxl
    change DataW.trod enc _ W base spare held n 3 (([a0, a1, a2, a3, a4].drop 0).take (Tryz.prog.cellsOf 3)) = _ at f0
    change DataW.trod enc _ W base spare held n 40 (([a0, a1, a2, a3, a4].drop 1).take (Tryz.prog.cellsOf 40)) = _ at f1
    rw [c1, List.getElem?_eq_getElem (by omega)] at f0
    rw [c4, List.getElem?_eq_getElem (by omega)] at f1
    obtain ⟨b0, hb0, _, _⟩ := DataW.trod_int Tryz.underlying3 f0
    obtain ⟨v, hv, hml⟩ := ver_cells f1
    simp at hb0 hv
    obtain ⟨h1, h2, h3, h4⟩ := hv
    subst hb0 h1 h2 h3 h4
    exact ⟨⟨b0, v⟩, rfl, hml⟩

/-- A slice of bounds that came in. -/
theorem bds_trod (h : DataW.trod enc Tryz.prog W base (fun _ => true) held fuel 23 cs = some x) :
    ∃ (A : Option Addr) (l : List Rng.Bd) (c : Nat), cs = [.slice A l.length c] ∧ Bds W W.heap.size A l ∧ l.length ≤ 9223372036854775807 ∧ l.length ≤ c ∧ ∀ b ∈ l, b.v.pre.length ≤ 9223372036854775807 := by
  rcases Go.Deep.open_slice Tryz.underlying23 h with ⟨hcs, _⟩ | ⟨a, len, cap, m, n, D, Pl, hcs, hb, hl, hm, hmm, hx, hi⟩
  · exact ⟨none, [], 0, hcs, Or.inl rfl, Nat.zero_le _, Nat.zero_le _, fun b hb => by cases hb⟩
  · have hC : Tryz.prog.cellsOf 57 = 5 := by kernel_rfl
    unfold maxLen at hm
    have hmc : m = cap := by simpa using hmm
    subst hmc
    have hv : ∀ i, ∃ u : Rng.Bd, i < m → W.cell? (a.add (i * 5 + 0)) = some (.int .i64 u.op) ∧ W.cell? (a.add (i * 5 + 1)) = some (.int .i64 u.v.maj) ∧ W.cell? (a.add (i * 5 + 2)) = some (.int .i64 u.v.min) ∧ W.cell? (a.add (i * 5 + 3)) = some (.int .i64 u.v.pat) ∧ W.cell? (a.add (i * 5 + 4)) = some (.string ⟨u.v.pre.toArray⟩) ∧ u.v.pre.length ≤ 9223372036854775807 := by
      intro i
      by_cases him : i < m
      · obtain ⟨cs', hc, ht⟩ := hi i him
        rw [hC] at hc
        obtain ⟨b, rfl, hml⟩ := bound_cells ht
        obtain ⟨_, hcl, hat⟩ := World.cells?_some hc
        refine ⟨b, fun _ => ⟨?_, ?_, ?_, ?_, ?_, hml⟩⟩
        · rw [← Go.Deep.add_add]; exact hat 0 (by omega)
        · rw [← Go.Deep.add_add]; exact hat 1 (by omega)
        · rw [← Go.Deep.add_add]; exact hat 2 (by omega)
        · rw [← Go.Deep.add_add]; exact hat 3 (by omega)
        · rw [← Go.Deep.add_add]; exact hat 4 (by omega)
      · exact ⟨⟨0, 0, 0, 0, []⟩, fun h => absurd h him⟩
    let f := fun i => (hv i).choose
    have hf2 : ∀ i, i < m → W.cell? (a.add (i * 5 + 0)) = some (.int .i64 (f i).op) ∧ W.cell? (a.add (i * 5 + 1)) = some (.int .i64 (f i).v.maj) ∧ W.cell? (a.add (i * 5 + 2)) = some (.int .i64 (f i).v.min) ∧ W.cell? (a.add (i * 5 + 3)) = some (.int .i64 (f i).v.pat) ∧ W.cell? (a.add (i * 5 + 4)) = some (.string ⟨(f i).v.pre.toArray⟩) ∧ (f i).v.pre.length ≤ 9223372036854775807 := fun i => (hv i).choose_spec
    have hln : ((List.range len).map f).length = len := by simp
    refine ⟨some a, (List.range len).map f, m, by rw [hln]; exact hcs, ?_, by rw [hln]; omega, by rw [hln]; exact hl, fun b hb => by
      obtain ⟨i, hi, rfl⟩ := List.mem_map.1 hb
      exact (hf2 i (by have := List.mem_range.1 hi; omega)).2.2.2.2.2⟩
    by_cases h0 : len = 0
    · exact Or.inl (by simp [h0])
    · obtain ⟨b, off, spot⟩ := a
      have h1 := (hf2 0 (by omega)).1
      have hspot : spot = none := by simpa [Addr.add] using World.cell?_spot h1
      subst hspot
      have hplain : ∀ k, (⟨b, off, none⟩ : Addr).add k = ⟨b, off + k, none⟩ := fun k => add_plain5 b off k
      refine Or.inr ⟨b, off, rfl, ?_, fun i hi' => ?_⟩
      · rw [hplain] at h1
        rcases Nat.lt_or_ge b W.heap.size with h' | h'
        · exact h'
        · simp [World.cell?, Array.getElem?_eq_none h'] at h1
      · have hin : i < len := by simpa using hi'
        obtain ⟨g0, g1, g2, g3, g4, _⟩ := hf2 i (by omega)
        have := And.intro g0 (And.intro g1 (And.intro g2 (And.intro g3 g4)))
        simp only [hplain] at this
        simp only [List.getElem_map, List.getElem_range]
        simpa [BdAt, Nat.add_assoc] using this
end

theorem bds_open {H : Type} {enc : TypeId × Value → H} {W : World} {base : Nat} {held : Bool} {A : Option Addr} {n c : Nat} {d : DataW H} {p : List MemPlace}
    (h : DataW.Trod enc Tryz.prog W base (fun _ => true) held 23 (.slice A n c) d p) :
    ∃ l : List Rng.Bd, n = l.length ∧ Bds W W.heap.size A l ∧ l.length ≤ 9223372036854775807 ∧ l.length ≤ c ∧ ∀ b ∈ l, b.v.pre.length ≤ 9223372036854775807 := by
  obtain ⟨fuel, hf⟩ := h
  obtain ⟨A', l, c', hcs, h1, h2, h3, h4⟩ := bds_trod hf
  simp [Value.cells] at hcs
  obtain ⟨rfl, rfl, rfl⟩ := hcs
  exact ⟨l, rfl, h1, h2, h3, h4⟩

/-- The cells of a slice of slices of bounds. -/
structure Row where
  A : Option Addr
  l : List Rng.Bd
  c : Nat

def Bdss (w : World) (B : Nat) (A : Option Addr) (ls : List Row) : Prop :=
  (ls.length = 0 ∨ ∃ g off, A = some ⟨g, off, none⟩ ∧ g < B ∧ ∀ i (h : i < ls.length), w.cell? ⟨g, off + i, none⟩ = some (.slice (ls[i]'h).A (ls[i]'h).l.length (ls[i]'h).c)) ∧
    ∀ r ∈ ls, Bds w B r.A r.l ∧ r.l.length ≤ r.c

theorem Bdss.keep {w w' : World} {B B' : Nat} {A : Option Addr} {ls : List Row} (h : Bdss w B A ls) (hb : Below B' w w') (hB : B ≤ B') : Bdss w' B A ls := by
  refine ⟨?_, fun r hr => ⟨(h.2 r hr).1.keep hb hB, (h.2 r hr).2⟩⟩
  rcases h.1 with h | ⟨g, off, hA, hlt, hc⟩
  · exact Or.inl h
  · exact Or.inr ⟨g, off, hA, hlt, fun i hi => (hb.cell (p := ⟨g, off + i, none⟩) (Nat.lt_of_lt_of_le hlt hB)).trans (hc i hi)⟩

theorem bdss_open {H : Type} {enc : TypeId × Value → H} {W : World} {base : Nat} {held : Bool} {A : Option Addr} {n c : Nat} {d : DataW H} {p : List MemPlace}
    (h : DataW.Trod enc Tryz.prog W base (fun _ => true) held 43 (.slice A n c) d p) :
    ∃ ls : List Row, n = ls.length ∧ Bdss W W.heap.size A ls ∧ ls.length ≤ 9223372036854775807 ∧ ls.length ≤ c ∧ ∀ r ∈ ls, ∀ b ∈ r.l, b.v.pre.length ≤ 9223372036854775807 := by
  obtain ⟨fuel, hf⟩ := h
  rcases Go.Deep.open_slice Tryz.underlying43 hf with ⟨hcs, _⟩ | ⟨a, len, cap, m, n', D, Pl, hcs, hb, hl, hm, hmm, hx, hi⟩
  · simp [Value.cells] at hcs
    obtain ⟨rfl, rfl, rfl⟩ := hcs
    exact ⟨[], rfl, ⟨Or.inl rfl, fun r hr => by cases hr⟩, Nat.zero_le _, Nat.zero_le _, fun r hr => by cases hr⟩
  · simp [Value.cells] at hcs
    obtain ⟨rfl, rfl, rfl⟩ := hcs
    have hC : Tryz.prog.cellsOf 23 = 1 := by kernel_rfl
    unfold maxLen at hm
    have hmc : m = c := by simpa using hmm
    subst hmc
    have hv : ∀ i, ∃ r : Row, i < m → W.cell? (a.add i) = some (.slice r.A r.l.length r.c) ∧ (Bds W W.heap.size r.A r.l ∧ r.l.length ≤ r.c) ∧ ∀ b ∈ r.l, b.v.pre.length ≤ 9223372036854775807 := by
      intro i
      by_cases him : i < m
      · obtain ⟨cs', hc, ht⟩ := hi i him
        rw [hC] at hc
        obtain ⟨A', l, c', rfl, h1, h2, h3, h4⟩ := bds_trod ht
        obtain ⟨_, hcl, hat⟩ := World.cells?_some hc
        refine ⟨⟨A', l, c'⟩, fun _ => ⟨?_, ⟨h1, h3⟩, h4⟩⟩
        have := hat 0 (by omega)
        rw [Go.Deep.add_add] at this
        simpa using this
      · exact ⟨⟨none, [], 0⟩, fun h => absurd h him⟩
    let f := fun i => (hv i).choose
    have hf2 : ∀ i, i < m → W.cell? (a.add i) = some (.slice (f i).A (f i).l.length (f i).c) ∧ (Bds W W.heap.size (f i).A (f i).l ∧ (f i).l.length ≤ (f i).c) ∧ ∀ b ∈ (f i).l, b.v.pre.length ≤ 9223372036854775807 := fun i => (hv i).choose_spec
    have hln : ((List.range n).map f).length = n := by simp
    refine ⟨(List.range n).map f, hln.symm, ⟨?_, fun r hr => ?_⟩, by rw [hln]; omega, by rw [hln]; exact hl, fun r hr => ?_⟩
    · by_cases h0 : n = 0
      · exact Or.inl (by simp [h0])
      · obtain ⟨b, off, spot⟩ := a
        have h1 := (hf2 0 (by omega)).1
        have hspot : spot = none := by simpa [Addr.add] using World.cell?_spot h1
        subst hspot
        have hplain : ∀ k, (⟨b, off, none⟩ : Addr).add k = ⟨b, off + k, none⟩ := fun k => add_plain5 b off k
        refine Or.inr ⟨b, off, rfl, ?_, fun i hi' => ?_⟩
        · rw [hplain] at h1
          rcases Nat.lt_or_ge b W.heap.size with h' | h'
          · exact h'
          · simp [World.cell?, Array.getElem?_eq_none h'] at h1
        · have hin : i < n := by simpa using hi'
          have := (hf2 i (by omega)).1
          rw [hplain] at this
          simp only [List.getElem_map, List.getElem_range]
          exact this
    · obtain ⟨i, hi, rfl⟩ := List.mem_map.1 hr
      exact (hf2 i (by have := List.mem_range.1 hi; omega)).2.1
    · obtain ⟨i, hi, rfl⟩ := List.mem_map.1 hr
      exact (hf2 i (by have := List.mem_range.1 hi; omega)).2.2
end Go.Proofs.YthjombepcmebfaaGreatDoor

/- The document's Check of a range. -/
namespace Go.Proofs.YthjombepcmebfaaGreatDoor
open Go.RowKit
set_option linter.unusedVariables false

theorem chkB_first {l : List Rng.Bd} {i : Nat} (hl : ¬ 20 < l.length) (hi : i < l.length) (h : (l[i]'hi).may = false) : chkB l = 50 := by
  unfold chkB
  rw [if_neg]
  intro hm
  have := (Rng.may_iff l).1 hm
  have h2 := this.2 l[i] (List.getElem_mem _)
  rw [h] at h2; cases h2

theorem chkB_all {l : List Rng.Bd} (hl : ¬ 20 < l.length) (h : ∀ j (hj : j < l.length), (l[j]'hj).may = true) : chkB l = 0 := by
  unfold chkB
  rw [if_pos]
  refine (Rng.may_iff l).2 ⟨by omega, fun b hb => ?_⟩
  obtain ⟨j, hj, rfl⟩ := List.mem_iff_getElem.1 hb
  exact h j hj

set_option maxRecDepth 100000 in
set_option maxHeartbeats 2000000 in
theorem rbcheck_walk (A : Option Addr) (cap : Nat) (l : List Rng.Bd) (w : World) (hA : Bds w w.heap.size A l) (hs : ∀ b ∈ l, b.v.pre.length ≤ 9223372036854775807) :
    Calls Tryz.prog 19 #[.slice A l.length cap] w fun e w' => e = .returned (.int .i64 (chkB l)) ∧ Below w.heap.size w w' := by
  have HS := Lib.hid hs
  have HA := Lib.hid hA
  clear hs hA
  by_cases hl : 20 < l.length
  · have HC : Hid (chkB l = 50) := Lib.hid (by unfold chkB; rw [if_neg]; intro h; have := (Rng.may_iff l).1 h; omega)
    have hl2 : (20 : Int) < (l.length : Int) := by omega
    go_enter Tryz.func19, Tryz.ntmps19
    go_wp2
    go_ret
    exact ⟨by rw [HC.out]; rfl, Below.refl _ _⟩
  · have hl2 : ¬ (20 : Int) < (l.length : Int) := by omega
    go_enter Tryz.func19, Tryz.ntmps19
    go_wp2_with fail
    go_loopw [3] (fun ii wr => ∃ i : Nat, ii = .int .i64 i ∧ i ≤ l.length ∧ Hid (∀ j (hj : j < l.length), j < i → (l[j]'hj).may = true) ∧ Below w.heap.size w wr)
      (fun i _ => l.length - (intOf i).toNat)
    case atStart => exact ⟨0, rfl, Nat.zero_le _, Lib.hid (fun j _ hj => absurd hj (by omega)), Below.refl _ _⟩
    case round =>
      obtain ⟨i, rfl, hi, HN, hb⟩ := hrel
      by_cases hlt : i < l.length
      · rcases HA.out.keep hb (Nat.le_refl _) with h0 | ⟨g, off, rfl, hg, hc⟩
        · omega
        · obtain ⟨p0, p1, p2, p3, p4⟩ := hc i hlt
          obtain ⟨x, hx⟩ : ∃ x, x = l[i] := ⟨_, rfl⟩
          rw [← hx] at p0 p1 p2 p3 p4
          have HX := Lib.hid hx
          have hxs := HS.out l[i] (List.getElem_mem _)
          rw [← hx] at hxs
          clear hx hc
          have HB : Hid (x.may = false → chkB l = 50) := Lib.hid (fun h => chkB_first hl hlt (by rw [← HX.out]; exact h))
          by_cases h1 : x.op < 1
          · have HC : Hid (chkB l = 50) := Lib.hid (HB.out (by
              cases h : x.may
              · rfl
              · have := (Rng.Bd.may_iff x).1 h; omega))
            go_wp2
            go_ret
            exact ⟨by rw [HC.out]; rfl, hb⟩
          · by_cases h5 : 5 < x.op
            · have HC : Hid (chkB l = 50) := Lib.hid (HB.out (by
                cases h : x.may
                · rfl
                · have := (Rng.Bd.may_iff x).1 h; omega))
              go_wp2
              go_ret
              exact ⟨by rw [HC.out]; rfl, hb⟩
            · go_wp2_with fail
              refine (rcheck_walk x.v (by omega) _).mono ?_
              rintro e w2 ⟨he, hb2⟩
              have hb3 := below_next hb hb2
              clear p0 p1 p2 p3 p4
              cases hm : Sem.may x.v
              · have hc0 : chk x.v = 40 := by rw [chk, hm, if_neg (by simp)]
                rw [hc0] at he
                subst he
                have HC : Hid (chkB l = 50) := Lib.hid (HB.out (by
                  cases h : x.may
                  · rfl
                  · have := (Rng.Bd.may_iff x).1 h; rw [hm] at this; cases this.2.2))
                clear hc0
                go_wp2
                go_ret
                exact ⟨by rw [HC.out]; rfl, hb3⟩
              · have hc0 : chk x.v = 0 := by rw [chk, if_pos hm]
                rw [hc0] at he
                subst he
                have HM : Hid (l[i].may = true) := Lib.hid (by rw [← HX.out]; exact (Rng.Bd.may_iff x).2 ⟨by omega, by omega, hm⟩)
                clear hc0
                go_wp2
                go_roundw
                case rel => exact ⟨i + 1, by go_num, by omega, Lib.hid (fun j hj hji => by
                  rcases Nat.lt_succ_iff_lt_or_eq.1 hji with h | rfl
                  · exact HN.out j hj h
                  · exact HM.out), hb3⟩
                case measure => simp [intOf]; omega
      · have HC : Hid (chkB l = 0) := Lib.hid (chkB_all hl (fun j hj => HN.out j hj (by omega)))
        go_wp2
        go_ret
        exact ⟨by rw [HC.out]; rfl, hb⟩
end Go.Proofs.YthjombepcmebfaaGreatDoor

/- The document's Meets: of any version, any range. -/
namespace Go.Proofs.YthjombepcmebfaaGreatDoor
open Go.RowKit
set_option linter.unusedVariables false

set_option maxRecDepth 100000 in
set_option maxHeartbeats 2000000 in
theorem rone_walk (v : Sem.Ver) (b : Rng.Bd) (hv : v.pre.length ≤ 1000000) (hb : b.v.pre.length ≤ 1000000) (w : World) :
    Calls Tryz.prog 41 #[verV v, bdV b] w fun e w' => e = .returned (.bool (Rng.one v b)) ∧ Below w.heap.size w w' := by
  obtain ⟨op, u⟩ := b
  have hV : verV v = .agg #[.int .i64 v.maj, .int .i64 v.min, .int .i64 v.pat, .string ⟨v.pre.toArray⟩] := rfl
  have hU : bdV ⟨op, u⟩ = .agg #[.int .i64 op, .int .i64 u.maj, .int .i64 u.min, .int .i64 u.pat, .string ⟨u.pre.toArray⟩] := rfl
  rw [hV, hU]
  clear hV hU
  simp only at hb
  have HO : Hid (Rng.one v ⟨op, u⟩ = if op = 1 then decide (Sem.cmp v u < 0) else if op = 2 then decide (Sem.cmp v u ≤ 0) else if op = 3 then decide (Sem.cmp v u = 0)
      else if op = 4 then decide (0 ≤ Sem.cmp v u) else if op = 5 then decide (0 < Sem.cmp v u) else false) := Lib.hid rfl
  go_enter Tryz.func41, Tryz.ntmps41
  go_wp2_with fail
  have hB := below_new (below_one w (.cells #[.int .i64 v.maj, .int .i64 v.min, .int .i64 v.pat, .string ⟨v.pre.toArray⟩] 40)) (.cells #[.int .i64 op, .int .i64 u.maj, .int .i64 u.min, .int .i64 u.pat, .string ⟨u.pre.toArray⟩] 57)
  have hq : ((w.alloc (.cells #[.int .i64 v.maj, .int .i64 v.min, .int .i64 v.pat, .string ⟨v.pre.toArray⟩] 40)).alloc (.cells #[.int .i64 op, .int .i64 u.maj, .int .i64 u.min, .int .i64 u.pat, .string ⟨u.pre.toArray⟩] 57)).cell? ⟨w.heap.size + 1, 0, none⟩ = some (.int .i64 op) := by simp [go_sem]
  have hz : w.heap.size + 1 < ((w.alloc (.cells #[.int .i64 v.maj, .int .i64 v.min, .int .i64 v.pat, .string ⟨v.pre.toArray⟩] 40)).alloc (.cells #[.int .i64 op, .int .i64 u.maj, .int .i64 u.min, .int .i64 u.pat, .string ⟨u.pre.toArray⟩] 57)).heap.size := by simp
  refine (rcmp_walk v u hv hb _).mono ?_
  rintro e W ⟨rfl, hw⟩
  have hb2 := below_next hB hw
  have hq2 := (cell_of_below (o := 0) hw hz).1.trans hq
  clear hB hw hq hz
  obtain ⟨k, hk⟩ : ∃ k, k = Sem.cmp v u := ⟨_, rfl⟩
  rw [← hk]
  rw [← hk] at HO
  clear hk
  by_cases h1 : op = 1
  · subst h1
    go_wp2
    go_ret
    exact ⟨by rw [HO.out]; rfl, hb2⟩
  · have e1 : (op == 1) = false := beq_eq_false_iff_ne.2 h1
    by_cases h2 : op = 2
    · subst h2
      go_wp2
      go_ret
      exact ⟨by rw [HO.out]; rfl, hb2⟩
    · have e2 : (op == 2) = false := beq_eq_false_iff_ne.2 h2
      by_cases h3 : op = 3
      · subst h3
        have e0 : (k == 0) = decide (k = 0) := by rw [Bool.eq_iff_iff]; simp
        go_wp2
        go_ret
        exact ⟨by rw [HO.out]; rfl, hb2⟩
      · have e3 : (op == 3) = false := beq_eq_false_iff_ne.2 h3
        by_cases h4 : op = 4
        · subst h4
          go_wp2
          go_ret
          exact ⟨by rw [HO.out]; rfl, hb2⟩
        · have e4 : (op == 4) = false := beq_eq_false_iff_ne.2 h4
          by_cases h5 : op = 5
          · subst h5
            go_wp2
            go_ret
            exact ⟨by rw [HO.out]; rfl, hb2⟩
          · have e5 : (op == 5) = false := beq_eq_false_iff_ne.2 h5
            go_wp2
            go_ret
            exact ⟨by rw [HO.out, if_neg h1, if_neg h2, if_neg h3, if_neg h4, if_neg h5]; rfl, hb2⟩

theorem meets_part {v : Sem.Ver} {l : List Rng.Bd} {i : Nat} (hi : i < l.length) (h : Rng.one v (l[i]'hi) = false) : Rng.meets v l = false := by
  unfold Rng.meets
  rw [List.all_eq_false]
  exact ⟨l[i], List.getElem_mem _, by rw [h]; simp⟩

theorem meets_all {v : Sem.Ver} {l : List Rng.Bd} (h : ∀ j (hj : j < l.length), Rng.one v (l[j]'hj) = true) : Rng.meets v l = true := by
  unfold Rng.meets
  rw [List.all_eq_true]
  intro b hb
  obtain ⟨j, hj, rfl⟩ := List.mem_iff_getElem.1 hb
  exact h j hj

set_option maxRecDepth 100000 in
set_option maxHeartbeats 2000000 in
theorem rmeets_walk (v : Sem.Ver) (A : Option Addr) (cap : Nat) (l : List Rng.Bd) (w : World) (hA : Bds w w.heap.size A l) (hv : v.pre.length ≤ 1000000) (hs : ∀ b ∈ l, b.v.pre.length ≤ 1000000) (hl : l.length ≤ 9223372036854775806) :
    Calls Tryz.prog 21 #[verV v, .slice A l.length cap] w fun e w' => e = .returned (.bool (Rng.meets v l)) ∧ Below w.heap.size w w' := by
  have HS := Lib.hid hs
  have HA := Lib.hid hA
  clear hs hA
  have hV : verV v = .agg #[.int .i64 v.maj, .int .i64 v.min, .int .i64 v.pat, .string ⟨v.pre.toArray⟩] := rfl
  rw [hV]
  clear hV
  go_enter Tryz.func21, Tryz.ntmps21
  go_wp2_with fail
  have hV0 := ver_new w v
  have hb0 := below_one w (.cells #[.int .i64 v.maj, .int .i64 v.min, .int .i64 v.pat, .string ⟨v.pre.toArray⟩] 40)
  generalize hW0 : w.alloc (Obj.cells #[Value.int IntKind.i64 v.maj, Value.int IntKind.i64 v.min, Value.int IntKind.i64 v.pat, Value.string ⟨v.pre.toArray⟩] 40) = W0 at hV0 hb0 ⊢
  clear hW0
  have HV0 := Lib.hid hV0
  clear hV0
  go_loopw [5] (fun ii wr => ∃ i : Nat, ii = .int .i64 i ∧ i ≤ l.length ∧ Hid (∀ j (hj : j < l.length), j < i → Rng.one v (l[j]'hj) = true) ∧ Below W0.heap.size W0 wr)
    (fun i _ => l.length - (intOf i).toNat)
  case atStart => exact ⟨0, rfl, Nat.zero_le _, Lib.hid (fun j _ hj => absurd hj (by omega)), Below.refl _ _⟩
  case round =>
    obtain ⟨i, rfl, hi, HN, hb⟩ := hrel
    have hbw : Below w.heap.size w wr := below_next hb0 hb
    by_cases hlt : i < l.length
    · rcases HA.out.keep hbw (Nat.le_refl _) with h0 | ⟨g, off, rfl, hg, hc⟩
      · omega
      · obtain ⟨p0, p1, p2, p3, p4⟩ := hc i hlt
        obtain ⟨x, hx⟩ : ∃ x, x = l[i] := ⟨_, rfl⟩
        rw [← hx] at p0 p1 p2 p3 p4
        have HX := Lib.hid hx
        have hxs := HS.out l[i] (List.getElem_mem _)
        rw [← hx] at hxs
        obtain ⟨_, v0, v1, v2, v3⟩ := HV0.out.next hb
        clear hx hc
        have hi1 : (i : Int) < (l.length : Int) := by omega
        go_wp2_with fail
        go_still_tail 5, (by kernel_rfl)
        change wpList _ _ _ _ _ wr.drew
        go_wp2_with fail
        refine (rone_walk v x hv hxs _).mono ?_
        rintro e w2 ⟨he, hb2⟩
        have hb3 : Below W0.heap.size W0 w2 := below_next hb.drew hb2
        have hbw3 : Below w.heap.size w w2 := below_next hbw.drew hb2
        clear p0 p1 p2 p3 p4 v0 v1 v2 v3 hi1
        cases hm : Rng.one v x
        · rw [hm] at he
          subst he
          have HC : Hid (Rng.meets v l = false) := Lib.hid (meets_part hlt (by rw [← HX.out]; exact hm))
          clear hm
          go_wp2
          go_ret
          exact ⟨by rw [HC.out]; rfl, hbw3⟩
        · rw [hm] at he
          subst he
          have HM : Hid (Rng.one v l[i] = true) := Lib.hid (by rw [← HX.out]; exact hm)
          clear hm
          go_wp2
          go_roundw
          case rel => exact ⟨i + 1, by go_num, by omega, Lib.hid (fun j hj hji => by
            rcases Nat.lt_succ_iff_lt_or_eq.1 hji with h | rfl
            · exact HN.out j hj h
            · exact HM.out), hb3⟩
          case measure => simp [intOf]; omega
    · have HC : Hid (Rng.meets v l = true) := Lib.hid (meets_all (fun j hj => HN.out j hj (by omega)))
      go_wp2
      go_ret
      exact ⟨by rw [HC.out]; rfl, hbw⟩
end Go.Proofs.YthjombepcmebfaaGreatDoor

/- The document's Near. -/
namespace Go.Proofs.YthjombepcmebfaaGreatDoor
open Go.RowKit
set_option linter.unusedVariables false

theorem bds_one (W : World) (g : Nat) (hg : g = W.heap.size) (b : Rng.Bd) : Bds (W.alloc (.cells #[.int .i64 b.op, .int .i64 b.v.maj, .int .i64 b.v.min, .int .i64 b.v.pat, .string ⟨b.v.pre.toArray⟩] 57)) (W.alloc (.cells #[.int .i64 b.op, .int .i64 b.v.maj, .int .i64 b.v.min, .int .i64 b.v.pat, .string ⟨b.v.pre.toArray⟩] 57)).heap.size (some ⟨g, 0, none⟩) [b] := by
  subst hg
  refine Or.inr ⟨W.heap.size, 0, rfl, by simp, fun i hi => ?_⟩
  match i, hi with
  | 0, _ => exact ⟨by simp [go_sem], by simp [go_sem], by simp [go_sem], by simp [go_sem], by simp [go_sem]⟩

theorem bds_two (W : World) (g : Nat) (hg : g = W.heap.size) (b c : Rng.Bd) : Bds (W.alloc (.cells #[.int .i64 b.op, .int .i64 b.v.maj, .int .i64 b.v.min, .int .i64 b.v.pat, .string ⟨b.v.pre.toArray⟩, .int .i64 c.op, .int .i64 c.v.maj, .int .i64 c.v.min, .int .i64 c.v.pat, .string ⟨c.v.pre.toArray⟩] 57)) (W.alloc (.cells #[.int .i64 b.op, .int .i64 b.v.maj, .int .i64 b.v.min, .int .i64 b.v.pat, .string ⟨b.v.pre.toArray⟩, .int .i64 c.op, .int .i64 c.v.maj, .int .i64 c.v.min, .int .i64 c.v.pat, .string ⟨c.v.pre.toArray⟩] 57)).heap.size (some ⟨g, 0, none⟩) [b, c] := by
  subst hg
  refine Or.inr ⟨W.heap.size, 0, rfl, by simp, fun i hi => ?_⟩
  match i, hi with
  | 0, _ => exact ⟨by simp [go_sem], by simp [go_sem], by simp [go_sem], by simp [go_sem], by simp [go_sem]⟩
  | 1, _ => exact ⟨by simp [go_sem], by simp [go_sem], by simp [go_sem], by simp [go_sem], by simp [go_sem]⟩

/-- A slice of bounds as an answer. -/
def BdsR (w : World) (l : List Rng.Bd) (e : Ending) (w' : World) : Prop :=
  ∃ (A : Option Addr) (c : Nat), e = .returned (.slice A l.length c) ∧ l.length ≤ c ∧ Bds w' w'.heap.size A l ∧ Below w.heap.size w w'

set_option maxRecDepth 100000 in
set_option maxHeartbeats 2000000 in
theorem rnear_walk (v : Sem.Ver) (hs : v.pre.length ≤ 9223372036854775807) (w : World) :
    Calls Tryz.prog 23 #[verV v] w fun e w' => BdsR w (Rng.near v) e w' := by
  have hV : verV v = .agg #[.int .i64 v.maj, .int .i64 v.min, .int .i64 v.pat, .string ⟨v.pre.toArray⟩] := rfl
  rw [hV]
  clear hV
  have hV0 := ver_new w v
  have hb0 := below_one w (.cells #[.int .i64 v.maj, .int .i64 v.min, .int .i64 v.pat, .string ⟨v.pre.toArray⟩] 40)
  have HV0 := Lib.hid hV0
  clear hV0
  go_enter Tryz.func23, Tryz.ntmps23
  go_wp2_with fail
  refine (rcheck_walk v (by omega) _).mono ?_
  rintro e w1 ⟨he, hb1⟩
  have hb2 := below_next hb0 hb1
  have hV1 := HV0.out.next hb1
  obtain ⟨hz, p0, p1, p2, p3⟩ := hV1
  clear hb0 hb1 HV0
  cases hm : Sem.may v
  · have hc0 : chk v = 40 := by rw [chk, hm, if_neg (by simp)]
    rw [hc0] at he
    subst he
    have HN : Hid (Rng.near v = [⟨3, v⟩]) := Lib.hid (by unfold Rng.near; rw [if_neg (by rw [hm]; simp)])
    clear hc0 hm
    go_wp2
    go_ret
    unfold BdsR
    rw [HN.out]
    exact ⟨_, 1, rfl, by simp, bds_one w1 _ rfl ⟨3, v⟩, below_new hb2 _⟩
  · have hc0 : chk v = 0 := by rw [chk, if_pos hm]
    rw [hc0] at he
    subst he
    have hq := (Sem.may_iff v).1 hm
    obtain ⟨⟨m0, m1⟩, ⟨n0, n1⟩, _⟩ := hq
    have HM := Lib.hid hm
    clear hc0 hm
    by_cases h0 : v.maj = 0
    · have e0 : (v.maj == 0) = true := beq_iff_eq.2 h0
      have HV : Hid (v = ⟨0, v.min, v.pat, v.pre⟩) := Lib.hid (by
        obtain ⟨_, _, _, _⟩ := v
        simp only at h0
        rw [h0])
      by_cases h9 : v.min + 1 ≤ 999999
      · have HN : Hid (Rng.near v = [⟨4, ⟨0, v.min, v.pat, v.pre⟩⟩, ⟨1, ⟨0, v.min + 1, 0, []⟩⟩]) := Lib.hid (by
          rw [← HV.out]
          have e : Rng.next v = ⟨0, v.min + 1, 0, []⟩ := by unfold Rng.next; rw [if_pos h0]
          unfold Rng.near; rw [e, if_pos ⟨HM.out, by simp, by simpa using h9⟩])
        go_wp2
        go_ret
        unfold BdsR
        rw [HN.out]
        exact ⟨_, 2, rfl, by simp, bds_two _ _ (by simp) ⟨4, ⟨0, v.min, v.pat, v.pre⟩⟩ ⟨1, ⟨0, v.min + 1, 0, []⟩⟩, below_new (below_new hb2 _) _⟩
      · have HN : Hid (Rng.near v = [⟨3, ⟨0, v.min, v.pat, v.pre⟩⟩]) := Lib.hid (by
          rw [← HV.out]
          have e : Rng.next v = ⟨0, v.min + 1, 0, []⟩ := by unfold Rng.next; rw [if_pos h0]
          unfold Rng.near; rw [e, if_neg (by simp; omega)])
        go_wp2
        go_ret
        unfold BdsR
        rw [HN.out]
        exact ⟨_, 1, rfl, by simp, bds_one _ _ (by simp) ⟨3, ⟨0, v.min, v.pat, v.pre⟩⟩, below_new (below_new hb2 _) _⟩
    · have e0 : (v.maj == 0) = false := beq_eq_false_iff_ne.2 h0
      by_cases h9 : v.maj + 1 ≤ 999999
      · have HN : Hid (Rng.near v = [⟨4, v⟩, ⟨1, ⟨v.maj + 1, 0, 0, []⟩⟩]) := Lib.hid (by
          have e : Rng.next v = ⟨v.maj + 1, 0, 0, []⟩ := by unfold Rng.next; rw [if_neg h0]
          unfold Rng.near; rw [e, if_pos ⟨HM.out, by simpa using h9, by simp⟩])
        go_wp2
        go_ret
        unfold BdsR
        rw [HN.out]
        exact ⟨_, 2, rfl, by simp, bds_two _ _ (by simp) ⟨4, v⟩ ⟨1, ⟨v.maj + 1, 0, 0, []⟩⟩, below_new (below_new hb2 _) _⟩
      · have HN : Hid (Rng.near v = [⟨3, v⟩]) := Lib.hid (by
          have e : Rng.next v = ⟨v.maj + 1, 0, 0, []⟩ := by unfold Rng.next; rw [if_neg h0]
          unfold Rng.near; rw [e, if_neg (by simp; omega)])
        go_wp2
        go_ret
        unfold BdsR
        rw [HN.out]
        exact ⟨_, 1, rfl, by simp, bds_one _ _ (by simp) ⟨3, v⟩, below_new (below_new hb2 _) _⟩
end Go.Proofs.YthjombepcmebfaaGreatDoor

/- The document's best: of bounds the one that is kept. -/
namespace Go.Proofs.YthjombepcmebfaaGreatDoor
open Go.RowKit
set_option linter.unusedVariables false

/-- A bound in a box that may be written. -/
def Box5 (W : World) (g : Nat) (b : Rng.Bd) : Prop := g < W.heap.size ∧ BdAt W g 0 b ∧ W.frozen? ⟨g, 0, none⟩ = false ∧ W.frozen? ⟨g, 1, none⟩ = false ∧ W.frozen? ⟨g, 2, none⟩ = false ∧ W.frozen? ⟨g, 3, none⟩ = false ∧ W.frozen? ⟨g, 4, none⟩ = false

theorem Box5.keep {W W' : World} {g B : Nat} {b : Rng.Bd} (h : Box5 W g b) (hg : g < B) (hb : Below B W W') : Box5 W' g b := by
  obtain ⟨h0, h1, f0, f1, f2, f3, f4⟩ := h
  exact ⟨Nat.lt_of_lt_of_le h0 hb.size, h1.keep hg hb, (hb.frozen (p := ⟨g, 0, none⟩) hg).trans f0, (hb.frozen (p := ⟨g, 1, none⟩) hg).trans f1, (hb.frozen (p := ⟨g, 2, none⟩) hg).trans f2, (hb.frozen (p := ⟨g, 3, none⟩) hg).trans f3, (hb.frozen (p := ⟨g, 4, none⟩) hg).trans f4⟩

theorem Box5.set {W : World} {g : Nat} {b : Rng.Bd} (h : Box5 W g b) (u : Rng.Bd) :
    Box5 (((((W.setCell ⟨g, 0, none⟩ (.int .i64 u.op)).setCell ⟨g, 1, none⟩ (.int .i64 u.v.maj)).setCell ⟨g, 2, none⟩ (.int .i64 u.v.min)).setCell ⟨g, 3, none⟩ (.int .i64 u.v.pat)).setCell ⟨g, 4, none⟩ (.string ⟨u.v.pre.toArray⟩)) g u := by
  obtain ⟨h0, ⟨h1, h2, h3, h4, h5⟩, f0, f1, f2, f3, f4⟩ := h
  simp only [Nat.zero_add] at h1 h2 h3 h4 h5
  exact ⟨by simpa using h0, ⟨by simp [go_sem, h1], by simp [go_sem, h2], by simp [go_sem, h3], by simp [go_sem, h4], by simp [go_sem, h5]⟩, by simp [go_sem, f0], by simp [go_sem, f1], by simp [go_sem, f2], by simp [go_sem, f3], by simp [go_sem, f4]⟩

theorem box5_new (w : World) (b : Rng.Bd) : Box5 (w.alloc (.cells #[.int .i64 b.op, .int .i64 b.v.maj, .int .i64 b.v.min, .int .i64 b.v.pat, .string ⟨b.v.pre.toArray⟩] 57)) w.heap.size b :=
  ⟨by simp, ⟨by simp [go_sem], by simp [go_sem], by simp [go_sem], by simp [go_sem], by simp [go_sem]⟩, by simp [go_sem], by simp [go_sem], by simp [go_sem], by simp [go_sem], by simp [go_sem]⟩

theorem bel5 {B : Nat} {a W : World} {g : Nat} {p q r s t : Value} (h : Below B a W) (hg : B ≤ g := by omega) :
    Below B a (((((W.setCell ⟨g, 0, none⟩ p).setCell ⟨g, 1, none⟩ q).setCell ⟨g, 2, none⟩ r).setCell ⟨g, 3, none⟩ s).setCell ⟨g, 4, none⟩ t) :=
  ((((h.setCell (p := ⟨g, 0, none⟩) hg _).setCell (p := ⟨g, 1, none⟩) hg _).setCell (p := ⟨g, 2, none⟩) hg _).setCell (p := ⟨g, 3, none⟩) hg _).setCell (p := ⟨g, 4, none⟩) hg _

def bestR (o : Option Rng.Bd) : Value := match o with
  | some b => .tuple #[bdV b, .bool true]
  | none => .tuple #[bdV ⟨0, ⟨0, 0, 0, []⟩⟩, .bool false]

theorem best_snoc {way strict : Int} {l : List Rng.Bd} {x : Rng.Bd} (b : Rng.Bd) (h : Rng.best way strict l = some x) : Rng.best way strict (l ++ [b]) = some (Rng.pick way strict x b) := by
  cases l with
  | nil => cases h
  | cons y r =>
    simp only [Rng.best, Option.some.injEq] at h
    simp only [List.cons_append, Rng.best, List.foldl_append, List.foldl_cons, List.foldl_nil, h]

def bestT (b x : Rng.Bd) (way : Int) (g off n cap i h : Nat) : Nat → Want
  | 0 => .val (.int .i64 way)
  | 1 => .val (.slice (some ⟨g, off, none⟩) n cap)
  | 2 => .val (.int .i64 i)
  | 3 => .val (.pointer (some ⟨g, off + i * 5, none⟩))
  | 4 => .val (.pointer (some ⟨g, off + i * 5 + 1, none⟩))
  | 5 => .val (.agg #[.int .i64 b.v.maj, .int .i64 b.v.min, .int .i64 b.v.pat, .string ⟨b.v.pre.toArray⟩])
  | 6 => .val (.pointer (some ⟨h, 1, none⟩))
  | 7 => .val (.agg #[.int .i64 x.v.maj, .int .i64 x.v.min, .int .i64 x.v.pat, .string ⟨x.v.pre.toArray⟩])
  | 8 => .val (.int .i64 (Sem.cmp b.v x.v))
  | 9 => .val (.int .i64 (way * Sem.cmp b.v x.v))
  | 10 => .val (.int .i64 (way * Sem.cmp b.v x.v))
  | _ => .any

set_option maxRecDepth 100000 in
set_option maxHeartbeats 4000000 in
theorem rbest_walk (A : Option Addr) (cap : Nat) (l : List Rng.Bd) (way strict : Int) (w : World) (hA : Bds w w.heap.size A l) (hw : way = 1 ∨ way = -1) (hl : l.length ≤ 1000000) (hs : ∀ b ∈ l, b.v.pre.length ≤ 1000000) :
    Calls Tryz.prog 46 #[.slice A l.length cap, .int .i64 way, .int .i64 strict] w fun e w' => e = .returned (bestR (Rng.best way strict l)) ∧ Below w.heap.size w w' := by
  have HS := Lib.hid hs
  have HA := Lib.hid hA
  have HW := Lib.hid hw
  clear hs hw
  by_cases hz : l = []
  · subst hz
    go_enter Tryz.func46, Tryz.ntmps46
    go_wp2
    refine bodyPost_ret (v := .tuple #[.agg #[.int .i64 0, .int .i64 0, .int .i64 0, .int .i64 0, .string ByteArray.empty], .bool false]) (by simp [results, Tryz.results46, go_sem]; rfl) rfl ?_
    exact ⟨rfl, below_one _ _⟩
  · have hpos : 0 < l.length := List.length_pos_iff.2 hz
    have h1 : (0 : Int) < (l.length : Int) := by omega
    rcases hA with h0 | ⟨g, off, rfl, hg, hc⟩
    · omega
    · have HCC := Lib.hid hc
      have HG := Lib.hid hg
      obtain ⟨p0, p1, p2, p3, p4⟩ := hc 0 hpos
      simp only [Nat.zero_mul, Nat.add_zero] at p0 p1 p2 p3 p4
      obtain ⟨y, hy⟩ : ∃ y, y = l[0] := ⟨_, rfl⟩
      rw [← hy] at p0 p1 p2 p3 p4
      have HY := Lib.hid hy
      clear hc hy
      have hlen0 : ((l.length : Int) == 0) = false := by rw [beq_eq_false_iff_ne]; omega
      go_enter Tryz.func46, Tryz.ntmps46
      have hb0 : Below w.heap.size w ((w.alloc (.cells #[.int .i64 0, .int .i64 0, .int .i64 0, .int .i64 0, .string ⟨#[]⟩] 57)).alloc (.cells #[.int .i64 y.op, .int .i64 y.v.maj, .int .i64 y.v.min, .int .i64 y.v.pat, .string ⟨y.v.pre.toArray⟩] 57)) := below_new (below_one _ _) _
      have hR0 := (box5_new w ⟨0, ⟨0, 0, 0, []⟩⟩).keep (B := w.heap.size + 1) (by omega) ((below_one (w.alloc (.cells #[.int .i64 0, .int .i64 0, .int .i64 0, .int .i64 0, .string ⟨#[]⟩] 57)) (.cells #[.int .i64 y.op, .int .i64 y.v.maj, .int .i64 y.v.min, .int .i64 y.v.pat, .string ⟨y.v.pre.toArray⟩] 57)).mono (by simp))
      have hH0 := box5_new (w.alloc (.cells #[.int .i64 0, .int .i64 0, .int .i64 0, .int .i64 0, .string ⟨#[]⟩] 57)) y
      have hz0 : ((w.alloc (.cells #[.int .i64 0, .int .i64 0, .int .i64 0, .int .i64 0, .string ⟨#[]⟩] 57)).alloc (.cells #[.int .i64 y.op, .int .i64 y.v.maj, .int .i64 y.v.min, .int .i64 y.v.pat, .string ⟨y.v.pre.toArray⟩] 57)).heap.size = w.heap.size + 2 := by simp
      rw [World.size_alloc] at hH0
      have HB0 := Lib.hid hb0
      have HR0 := Lib.hid hR0
      have HH0 := Lib.hid hH0
      clear hb0 hR0 hH0
      go_wp2_with fail
      clear p0 p1 p2 p3 p4
      generalize hW0 : (w.alloc (.cells #[.int .i64 0, .int .i64 0, .int .i64 0, .int .i64 0, .string ⟨#[]⟩] 57)).alloc (.cells #[.int .i64 y.op, .int .i64 y.v.maj, .int .i64 y.v.min, .int .i64 y.v.pat, .string ⟨y.v.pre.toArray⟩] 57) = W0 at HB0 HR0 HH0 hz0 ⊢
      clear hW0
      have HS0 : Hid (Rng.best way strict (l.take 1) = some y) := Lib.hid (by
        rw [HY.out]
        cases l with
        | nil => exact absurd rfl hz
        | cons a r => rfl)
      go_loopw [9] (fun ii wr => ∃ (i : Nat) (x : Rng.Bd), ii = .int .i64 i ∧ 1 ≤ i ∧ i ≤ l.length ∧ Hid (Rng.best way strict (l.take i) = some x) ∧ x.v.pre.length ≤ 1000000 ∧ Hid (Box5 wr (w.heap.size + 1) x) ∧ Below (w.heap.size + 1) W0 wr)
        (fun i _ => l.length - (intOf i).toNat)
      case atStart => exact ⟨1, y, rfl, Nat.le_refl _, hpos, HS0, by rw [HY.out]; exact HS.out _ (List.getElem_mem _), HH0, Below.refl _ _⟩
      case round =>
        obtain ⟨i, x, rfl, hi1, hi, HBS, hxs, HBX, hb⟩ := hrel
        have hbw : Below w.heap.size w wr := HB0.out.trans (hb.mono (by omega))
        have HRX := Lib.hid (HR0.out.keep (B := w.heap.size + 1) (by omega) hb)
        obtain ⟨hk, ⟨t0, t1, t2, t3, t4⟩, f0, f1, f2, f3, f4⟩ := HBX.out
        simp only [Nat.zero_add] at t1 t2 t3 t4
        by_cases hlt : i < l.length
        · have hq := (HCC.out i hlt).keep HG.out hbw
          obtain ⟨q0, q1, q2, q3, q4⟩ := hq
          obtain ⟨b, hbe⟩ : ∃ b, b = l[i] := ⟨_, rfl⟩
          have hbs := HS.out l[i] (List.getElem_mem _)
          rw [← hbe] at q0 q1 q2 q3 q4 hbs
          have HBE := Lib.hid hbe
          have hil : (i : Int) < (l.length : Int) := by omega
          have HN : Hid (Rng.best way strict (l.take (i + 1)) = some (Rng.pick way strict x b)) := Lib.hid (by
            rw [List.take_succ_eq_append_getElem hlt, HBE.out]
            exact best_snoc _ HBS.out)
          clear hbe
          go_wp2_with fail
          have hgw : g < wr.heap.size := Nat.lt_of_lt_of_le HG.out hbw.size
          have HQ : Hid (BdAt wr g (off + i * 5) b) := Lib.hid ⟨q0, q1, q2, q3, q4⟩
          have hmw : IntKind.i64.wrap (way * Sem.cmp b.v x.v) = way * Sem.cmp b.v x.v := by
            have hc := Sem.cmp_range b.v x.v
            refine IntWalk.i64_in _ ?_
            rcases HW.out with h | h <;> rw [h] <;> omega
          clear q0 q1 q2 q3 q4 t0 t1 t2 t3 t4 f0 f1 f2 f3 f4
          refine wp_orders (rs := [0, 1, 2, 3, 4, 5, 6, 7, 8, 9, 10])
            (fun u' => { tmps := #[.slice (some ⟨g, off, none⟩) l.length cap, .int .i64 way, .int .i64 strict, undef, undef, undef, .pointer (some ⟨w.heap.size, 0, none⟩), .bool false, .pointer (some ⟨w.heap.size + 1, 0, none⟩), .int .i64 i, u' 10, .slice (some ⟨g, off, none⟩) l.length cap, .int .i64 l.length, .bool false, undef, .slice (some ⟨g, off, none⟩) l.length cap, .pointer (some ⟨g, off, none⟩), .agg #[.int .i64 y.op, .int .i64 y.v.maj, .int .i64 y.v.min, .int .i64 y.v.pat, .string ⟨y.v.pre.toArray⟩], .int .i64 i, .slice (some ⟨g, off, none⟩) l.length cap, .int .i64 l.length, .bool true, u22, u23, u' 0, u' 1, u' 2, u' 3, u' 4, u' 5, u' 6, u' 7, u' 8, u' 9, u34, u35, u36, u37, u38, u39, u40, u41, u42, u43, u44, u45, u46, u47, u48, u49, u50, u51, u52, u53, u54, u55, u56, u57, u58, undef], defers := [] })
            (fun j => ([u24, u25, u26, u27, u28, u29, u30, u31, u32, u33, u10] : List Value).getD j undef) (bestT b x way g off l.length cap i (w.heap.size + 1)) (fun W => Below wr.heap.size wr W) (by kernel_rfl) (by kernel_rfl) (by kernel_rfl) (Below.refl _ wr).drew ?_ ?_
          refine StepsAt.cons _ rfl (fun u' W K' hJ hd hK => ?_) ?_
          · exact step_value rfl (run_mv (.tmp 1) rfl W) (hK.out _ _ rfl hJ (Below.refl _ _))
          refine StepsAt.cons _ rfl (fun u' W K' hJ hd hK => ?_) ?_
          · exact step_value rfl (run_mv (.tmp 0) rfl W) (hK.out _ _ rfl hJ (Below.refl _ _))
          refine StepsAt.cons _ rfl (fun u' W K' hJ hd hK => ?_) ?_
          · exact step_value rfl (run_mv (.tmp 9) rfl W) (hK.out _ _ rfl hJ (Below.refl _ _))
          refine StepsAt.cons _ rfl (fun u' W K' hJ hd hK => ?_) ?_
          · skip
            have d1 : u' 1 = .slice (some ⟨g, off, none⟩) l.length cap := hd 1 (by kernel_rfl)
            have d2 : u' 2 = .int .i64 i := hd 2 (by kernel_rfl)
            refine step_value (v := .pointer (some ⟨g, off + i * 5, none⟩)) (W' := W) rfl ?_ (hK.out _ _ rfl hJ (Below.refl _ _))
            try dsimp only
            go_simp
          refine StepsAt.cons _ rfl (fun u' W K' hJ hd hK => ?_) ?_
          · skip
            have d3 : u' 3 = .pointer (some ⟨g, off + i * 5, none⟩) := hd 3 (by kernel_rfl)
            refine step_value (v := .pointer (some ⟨g, off + i * 5 + 1, none⟩)) (W' := W) rfl ?_ (hK.out _ _ rfl hJ (Below.refl _ _))
            try dsimp only
            go_simp
          refine StepsAt.cons _ rfl (fun u' W K' hJ hd hK => ?_) ?_
          · skip
            have d4 : u' 4 = .pointer (some ⟨g, off + i * 5 + 1, none⟩) := hd 4 (by kernel_rfl)
            obtain ⟨q0, q1, q2, q3, q4⟩ := HQ.out.keep hgw hJ
            refine step_value (v := .agg #[.int .i64 b.v.maj, .int .i64 b.v.min, .int .i64 b.v.pat, .string ⟨b.v.pre.toArray⟩]) (W' := W) rfl ?_ (hK.out _ _ rfl hJ (Below.refl _ _))
            try dsimp only
            go_simp
          refine StepsAt.cons _ rfl (fun u' W K' hJ hd hK => ?_) ?_
          · skip
            refine step_value (v := .pointer (some ⟨w.heap.size + 1, 1, none⟩)) (W' := W) rfl ?_ (hK.out _ _ rfl hJ (Below.refl _ _))
            try dsimp only
            go_simp
          refine StepsAt.cons _ rfl (fun u' W K' hJ hd hK => ?_) ?_
          · skip
            have d6 : u' 6 = .pointer (some ⟨w.heap.size + 1, 1, none⟩) := hd 6 (by kernel_rfl)
            obtain ⟨_, ⟨t0, t1, t2, t3, t4⟩, _⟩ := HBX.out.keep hk hJ
            simp only [Nat.zero_add] at t1 t2 t3 t4
            refine step_value (v := .agg #[.int .i64 x.v.maj, .int .i64 x.v.min, .int .i64 x.v.pat, .string ⟨x.v.pre.toArray⟩]) (W' := W) rfl ?_ (hK.out _ _ rfl hJ (Below.refl _ _))
            try dsimp only
            go_simp
          refine StepsAt.cons _ rfl (fun u' W K' hJ hd hK => ?_) ?_
          · skip
            have d5 : u' 5 = .agg #[.int .i64 b.v.maj, .int .i64 b.v.min, .int .i64 b.v.pat, .string ⟨b.v.pre.toArray⟩] := hd 5 (by kernel_rfl)
            have d7 : u' 7 = .agg #[.int .i64 x.v.maj, .int .i64 x.v.min, .int .i64 x.v.pat, .string ⟨x.v.pre.toArray⟩] := hd 7 (by kernel_rfl)
            refine step_enter (f := 47) (args := #[.agg #[.int .i64 b.v.maj, .int .i64 b.v.min, .int .i64 b.v.pat, .string ⟨b.v.pre.toArray⟩], .agg #[.int .i64 x.v.maj, .int .i64 x.v.min, .int .i64 x.v.pat, .string ⟨x.v.pre.toArray⟩]]) (W' := W) rfl ?_ ((rcmp_walk b.v x.v hbs hxs W).mono fun e w' h => ⟨_, h.1, hK.out _ _ rfl (hJ.trans (h.2.mono hJ.size)) h.2⟩)
            try dsimp only
            go_simp
          refine StepsAt.cons _ rfl (fun u' W K' hJ hd hK => ?_) ?_
          · skip
            have d0 : u' 0 = .int .i64 way := hd 0 (by kernel_rfl)
            have d8 : u' 8 = .int .i64 (Sem.cmp b.v x.v) := hd 8 (by kernel_rfl)
            refine step_value (v := .int .i64 (way * Sem.cmp b.v x.v)) (W' := W) rfl ?_ (hK.out _ _ rfl hJ (Below.refl _ _))
            try dsimp only
            go_simp
          refine StepsAt.cons _ rfl (fun u' W K' hJ hd hK => ?_) StepsAt.nil
          · skip
            have d9 : u' 9 = .int .i64 (way * Sem.cmp b.v x.v) := hd 9 (by kernel_rfl)
            exact step_value rfl (run_as (.tmp 33) rfl W) (hK.out _ _ d9 hJ (Below.refl _ _))
          intro u' w3 hb3 hok
          try dsimp only
          rw [show u' 0 = .int .i64 way from hok 0 (by decide), show u' 1 = .slice (some ⟨g, off, none⟩) l.length cap from hok 1 (by decide), show u' 2 = .int .i64 i from hok 2 (by decide), show u' 3 = .pointer (some ⟨g, off + i * 5, none⟩) from hok 3 (by decide), show u' 4 = .pointer (some ⟨g, off + i * 5 + 1, none⟩) from hok 4 (by decide), show u' 5 = .agg #[.int .i64 b.v.maj, .int .i64 b.v.min, .int .i64 b.v.pat, .string ⟨b.v.pre.toArray⟩] from hok 5 (by decide), show u' 6 = .pointer (some ⟨w.heap.size + 1, 1, none⟩) from hok 6 (by decide), show u' 7 = .agg #[.int .i64 x.v.maj, .int .i64 x.v.min, .int .i64 x.v.pat, .string ⟨x.v.pre.toArray⟩] from hok 7 (by decide), show u' 8 = .int .i64 (Sem.cmp b.v x.v) from hok 8 (by decide), show u' 9 = .int .i64 (way * Sem.cmp b.v x.v) from hok 9 (by decide), show u' 10 = .int .i64 (way * Sem.cmp b.v x.v) from hok 10 (by decide)]
          clear hok hmw HQ
          have hb4 : Below w.heap.size w w3 := below_next hbw hb3
          have hb5 : Below (w.heap.size + 1) W0 w3 := hb.trans (hb3.mono (Nat.le_of_lt hk))
          have hB3 := HBX.out.keep (B := wr.heap.size) hk hb3
          have HB3 := Lib.hid hB3
          obtain ⟨_, ⟨s0, s1, s2, s3, s4⟩, g0, g1, g2, g3, g4⟩ := hB3
          simp only [Nat.zero_add] at s1 s2 s3 s4
          have hq3 := (HCC.out i hlt).keep HG.out hb4
          rw [← HBE.out] at hq3
          clear hb3
          obtain ⟨q0, q1, q2, q3, q4⟩ := hq3
          obtain ⟨k, hkk⟩ : ∃ k, k = Sem.cmp b.v x.v := ⟨_, rfl⟩
          have hkr : -1 ≤ k ∧ k ≤ 1 := by have := Sem.cmp_range b.v x.v; omega
          have HP : Hid (Rng.pick way strict x b = if 0 < way * k ∨ (way * k = 0 ∧ b.op = strict ∧ x.op ≠ strict) then b else x) := Lib.hid (by rw [hkk]; rfl)
          rw [← hkk]
          obtain ⟨q, hqe⟩ : ∃ q, q = way * k := ⟨_, rfl⟩
          rw [← hqe]
          have hqr : -1 ≤ q ∧ q ≤ 1 := by rcases HW.out with h | h <;> rw [h] at hqe <;> omega
          rw [← hqe] at HP
          clear hkk hkr hqe
          by_cases hq0 : 0 < q
          · have HN2 : Hid (Rng.best way strict (l.take (i + 1)) = some b) := Lib.hid (by rw [HN.out, HP.out, if_pos (Or.inl hq0)])
            clear HN HP
            go_wp2
            go_roundw
            case rel => exact ⟨i + 1, b, by go_num, by omega, by omega, HN2, hbs, Lib.hid (HB3.out.set b), bel5 hb5⟩
            case measure => simp [intOf]; omega
          · by_cases hqz : q = 0
            · have e0 : (q == 0) = true := beq_iff_eq.2 hqz
              by_cases hbo : b.op = strict
              · have e1 : (b.op == strict) = true := beq_iff_eq.2 hbo
                by_cases hxo : x.op = strict
                · have e2 : (x.op == strict) = true := beq_iff_eq.2 hxo
                  have e3 : (x.op != strict) = false := by simp [hxo]
                  have HN2 : Hid (Rng.best way strict (l.take (i + 1)) = some x) := Lib.hid (by rw [HN.out, HP.out, if_neg (by omega)])
                  clear HN HP hqz hbo hxo
                  go_wp2
                  go_roundw
                  case rel => exact ⟨i + 1, x, by go_num, by omega, by omega, HN2, hxs, HB3, hb5⟩
                  case measure => simp [intOf]; omega
                · have e2 : (x.op == strict) = false := beq_eq_false_iff_ne.2 hxo
                  have e3 : (x.op != strict) = true := by simp [hxo]
                  have HN2 : Hid (Rng.best way strict (l.take (i + 1)) = some b) := Lib.hid (by rw [HN.out, HP.out, if_pos (Or.inr ⟨hqz, hbo, hxo⟩)])
                  clear HN HP hqz hbo hxo
                  go_wp2
                  go_roundw
                  case rel => exact ⟨i + 1, b, by go_num, by omega, by omega, HN2, hbs, Lib.hid (HB3.out.set b), bel5 hb5⟩
                  case measure => simp [intOf]; omega
              · have e1 : (b.op == strict) = false := beq_eq_false_iff_ne.2 hbo
                have HN2 : Hid (Rng.best way strict (l.take (i + 1)) = some x) := Lib.hid (by rw [HN.out, HP.out, if_neg (by omega)])
                clear HN HP hqz hbo
                go_wp2
                go_roundw
                case rel => exact ⟨i + 1, x, by go_num, by omega, by omega, HN2, hxs, HB3, hb5⟩
                case measure => simp [intOf]; omega
            · have e0 : (q == 0) = false := beq_eq_false_iff_ne.2 hqz
              have HN2 : Hid (Rng.best way strict (l.take (i + 1)) = some x) := Lib.hid (by rw [HN.out, HP.out, if_neg (by omega)])
              clear HN HP hqz
              go_wp2
              go_roundw
              case rel => exact ⟨i + 1, x, by go_num, by omega, by omega, HN2, hxs, HB3, hb5⟩
              case measure => simp [intOf]; omega
        · have HE : Hid (Rng.best way strict l = some x) := Lib.hid (by
            have := HBS.out
            rwa [List.take_of_length_le (by omega)] at this)
          obtain ⟨hk2, ⟨r0, r1, r2, r3, r4⟩, e0, e1, e2, e3, e4⟩ := HRX.out
          simp only [Nat.zero_add] at r1 r2 r3 r4
          go_wp2
          refine bodyPost_ret (v := .tuple #[.agg #[.int .i64 x.op, .int .i64 x.v.maj, .int .i64 x.v.min, .int .i64 x.v.pat, .string ⟨x.v.pre.toArray⟩], .bool true]) (by simp [results, Tryz.results46, go_sem, r0, r1, r2, r3, r4]) rfl ?_
          exact ⟨by rw [HE.out]; rfl, bel5 hbw⟩
end Go.Proofs.YthjombepcmebfaaGreatDoor

/- The document's sign of a bound. -/
namespace Go.Proofs.YthjombepcmebfaaGreatDoor
open Go.RowKit
set_option linter.unusedVariables false

set_option maxRecDepth 100000 in
set_option maxHeartbeats 1000000 in
theorem rsign_walk (op : Int) (w : World) :
    Calls Tryz.prog 34 #[.int .i64 op] w fun e w' => e = .returned (.string ⟨(Rng.sign op).toArray⟩) ∧ Below w.heap.size w w' := by
  by_cases h : 1 ≤ op ∧ op ≤ 5
  · rcases (by omega : op = 1 ∨ op = 2 ∨ op = 3 ∨ op = 4 ∨ op = 5) with rfl | rfl | rfl | rfl | rfl
    all_goals (
      go_enter Tryz.func34, Tryz.ntmps34
      go_wp2
      go_ret
      exact ⟨rfl, below_one _ _⟩)
  · have HE : Hid (Rng.sign op = []) := Lib.hid (by unfold Rng.sign; rw [if_neg (by omega), if_neg (by omega), if_neg (by omega), if_neg (by omega), if_neg (by omega)])
    by_cases h1 : op < 1
    · go_enter Tryz.func34, Tryz.ntmps34
      go_wp2
      go_ret
      exact ⟨by rw [HE.out]; rfl, Below.refl _ _⟩
    · have h5 : 5 < op := by omega
      go_enter Tryz.func34, Tryz.ntmps34
      go_wp2
      go_ret
      exact ⟨by rw [HE.out]; rfl, Below.refl _ _⟩
end Go.Proofs.YthjombepcmebfaaGreatDoor

/- The document's Show of a range. -/
namespace Go.Proofs.YthjombepcmebfaaGreatDoor
open Go.RowKit
set_option linter.unusedVariables false

/-- What Show tells. -/
def showB (l : List Rng.Bd) : Value := if Rng.may l = true then .tuple #[.string ⟨(Rng.text l).toArray⟩, .int .i64 0] else .tuple #[.string ByteArray.empty, .int .i64 50]

/-- What is written of the bounds ahead of place i. -/
def soFar (l : List Rng.Bd) (i : Nat) : List UInt8 := Rng.join ((l.take i).map Rng.Bd.text)

theorem join_snoc : ∀ (ps : List (List UInt8)) (p : List UInt8), Rng.join (ps ++ [p]) = if ps = [] then p else Rng.join ps ++ 32 :: p
  | [], p => by simp [Rng.join]
  | [q], p => by simp [Rng.join]
  | q :: r :: ps, p => by
    have ih := join_snoc (r :: ps) p
    rw [if_neg (by simp)] at ih
    rw [if_neg (by simp), List.cons_append, List.cons_append, Rng.join, ← List.cons_append, ih, Rng.join]
    simp

theorem soFar_first {l : List Rng.Bd} (h : 0 < l.length) : soFar l 1 = Rng.sign (l[0]'h).op ++ Sem.text (l[0]'h).v := by
  cases l with
  | nil => simp at h
  | cons b r => simp [soFar, Rng.join, Rng.Bd.text]

theorem soFar_next {l : List Rng.Bd} {i : Nat} (h : i < l.length) (h0 : 0 < i) : soFar l (i + 1) = soFar l i ++ 32 :: (Rng.sign (l[i]'h).op ++ Sem.text (l[i]'h).v) := by
  unfold soFar
  rw [List.take_succ_eq_append_getElem h, List.map_append, List.map_cons, List.map_nil, join_snoc, if_neg (by
    intro he
    have : ((l.take i).map Rng.Bd.text).length = 0 := by rw [he]; rfl
    rw [List.length_map, List.length_take] at this
    omega)]
  rfl

theorem soFar_len {l : List Rng.Bd} (h : Rng.may l = true) (i : Nat) : (soFar l i).length ≤ 960 := by
  have hm := (Rng.may_iff l).1 h
  have := Rng.join_len ((l.take i).map Rng.Bd.text) (fun p hp => by
    obtain ⟨b, hb, rfl⟩ := List.mem_map.1 hp
    exact Rng.bd_len (hm.2 b (List.mem_of_mem_take hb)))
  unfold soFar
  rw [List.length_map, List.length_take] at this
  omega

set_option maxRecDepth 100000 in
set_option maxHeartbeats 4000000 in
theorem rbshow_walk (A : Option Addr) (cap : Nat) (l : List Rng.Bd) (w : World) (hA : Bds w w.heap.size A l) (hs : ∀ b ∈ l, b.v.pre.length ≤ 9223372036854775807) :
    Calls Tryz.prog 17 #[.slice A l.length cap] w fun e w' => e = .returned (showB l) ∧ Below w.heap.size w w' := by
  cases hm : Rng.may l
  · have HM : Hid (showB l = .tuple #[.string ByteArray.empty, .int .i64 50]) := Lib.hid (by unfold showB; rw [if_neg (by rw [hm]; simp)])
    have HC : Hid (chkB l = 50) := Lib.hid (by unfold chkB; rw [if_neg (by rw [hm]; simp)])
    have HA := Lib.hid hA
    have HS := Lib.hid hs
    clear hm hA hs
    go_enter Tryz.func17, Tryz.ntmps17
    go_wp2_with fail
    refine (rbcheck_walk A cap l _ HA.out HS.out).mono ?_
    rintro e w1 ⟨he, hb⟩
    rw [HC.out] at he
    subst he
    go_wp2
    go_ret2
    exact ⟨by rw [HM.out]; rfl, hb⟩
  · have HM : Hid (showB l = .tuple #[.string ⟨(Rng.text l).toArray⟩, .int .i64 0]) := Lib.hid (by unfold showB; rw [if_pos hm])
    have HC : Hid (chkB l = 0) := Lib.hid (by unfold chkB; rw [if_pos hm])
    have HMM := Lib.hid hm
    have HA := Lib.hid hA
    have HS := Lib.hid hs
    have hl20 : l.length ≤ 20 := ((Rng.may_iff l).1 hm).1
    clear hm hA hs
    by_cases hz : l = []
    · subst hz
      go_enter Tryz.func17, Tryz.ntmps17
      go_wp2_with fail
      refine (rbcheck_walk A cap [] _ HA.out HS.out).mono ?_
      rintro e w1 ⟨he, hb⟩
      rw [HC.out] at he
      subst he
      go_wp2
      go_ret2
      exact ⟨by rw [HM.out]; rfl, hb⟩
    · have hpos : 0 < l.length := List.length_pos_iff.2 hz
      have hlen0 : ((l.length : Int) == 0) = false := by rw [beq_eq_false_iff_ne]; omega
      go_enter Tryz.func17, Tryz.ntmps17
      go_wp2_with fail
      refine (rbcheck_walk A cap l _ HA.out HS.out).mono ?_
      rintro e w1 ⟨he, hb0⟩
      rw [HC.out] at he
      subst he
      go_wp2_with fail
      go_loopw [4, 5] (fun oo ii wr => ∃ i : Nat, ii = .int .i64 i ∧ i ≤ l.length ∧ oo = .string ⟨(soFar l i).toArray⟩ ∧ Below w.heap.size w wr)
        (fun _ i _ => l.length - (intOf i).toNat)
      case atStart => exact ⟨0, rfl, Nat.zero_le _, rfl, hb0⟩
      case round =>
        obtain ⟨i, rfl, hi, rfl, hb⟩ := hrel
        have hsl := soFar_len HMM.out i
        by_cases hlt : i < l.length
        · rcases HA.out.keep hb (Nat.le_refl _) with h0 | ⟨g, off, rfl, hg, hc⟩
          · omega
          · obtain ⟨p0, p1, p2, p3, p4⟩ := hc i hlt
            obtain ⟨x, hx⟩ : ∃ x, x = l[i] := ⟨_, rfl⟩
            rw [← hx] at p0 p1 p2 p3 p4
            have HX := Lib.hid hx
            have HG := Lib.hid hg
            have HP : Hid (BdAt wr g (off + i * 5) x) := Lib.hid ⟨p0, p1, p2, p3, p4⟩
            have hxm : x.may = true := by rw [hx]; exact ((Rng.may_iff l).1 HMM.out).2 _ (List.getElem_mem _)
            obtain ⟨_, _, hxv⟩ := (Rng.Bd.may_iff x).1 hxm
            have hxs : x.v.pre.length ≤ 24 := ((Sem.may_iff x.v).1 hxv).2.2.2.1
            have HR : Hid (showR x.v = .tuple #[.string ⟨(Sem.text x.v).toArray⟩, .int .i64 0]) := Lib.hid (by unfold showR; rw [if_pos hxv])
            have htl := Sem.text_len hxv
            have hsg : (Rng.sign x.op).length ≤ 2 := by
              unfold Rng.sign; repeat (split; simp)
              simp
            clear hx hc hxm hxv
            have hgw : g < wr.heap.size := Nat.lt_of_lt_of_le HG.out hb.size
            by_cases hi0 : i = 0
            · subst hi0
              have HT : Hid (soFar l 1 = Rng.sign x.op ++ Sem.text x.v) := Lib.hid (by rw [HX.out]; exact soFar_first hlt)
              go_wp2_with fail
              refine (rshow_walk x.v (by omega) _).mono ?_
              rintro e w2 ⟨he, hb2⟩
              rw [HR.out] at he
              subst he
              have hP2 : BdAt w2 g off x := by have := HP.out.keep hgw hb2; rwa [Nat.zero_mul, Nat.add_zero] at this
              clear p0 p1 p2 p3 p4
              obtain ⟨p0, p1, p2, p3, p4⟩ := hP2
              have hb3 := below_next hb hb2
              go_wp2_with fail
              refine (rsign_walk x.op _).mono ?_
              rintro e w4 ⟨he, hb4⟩
              subst he
              have hb5 := below_next hb3 hb4
              clear p0 p1 p2 p3 p4
              go_wp2
              go_roundw
              case rel => exact ⟨1, by go_num, by omega, by rw [HT.out]; congr 1 <;> (apply ByteArray.ext; simp [ByteArray.data_append, soFar, Rng.join]), hb5⟩
              case measure => simp [intOf]; omega
            · have hi1 : (0 : Int) < (i : Int) := by omega
              have HT : Hid (soFar l (i + 1) = soFar l i ++ 32 :: (Rng.sign x.op ++ Sem.text x.v)) := Lib.hid (by rw [HX.out]; exact soFar_next hlt (by omega))
              go_wp2_with fail
              refine (rshow_walk x.v (by omega) _).mono ?_
              rintro e w2 ⟨he, hb2⟩
              rw [HR.out] at he
              subst he
              have hP2 := HP.out.keep hgw hb2
              clear p0 p1 p2 p3 p4
              obtain ⟨p0, p1, p2, p3, p4⟩ := hP2
              have hb3 := below_next hb hb2
              go_wp2_with fail
              refine (rsign_walk x.op _).mono ?_
              rintro e w4 ⟨he, hb4⟩
              subst he
              have hb5 := below_next hb3 hb4
              clear p0 p1 p2 p3 p4
              go_wp2
              go_roundw
              case rel => exact ⟨i + 1, by go_num, by omega, by rw [HT.out]; congr 1; apply ByteArray.ext; simp [ByteArray.data_append], hb5⟩
              case measure => simp [intOf]; omega
        · have HT : Hid (soFar l i = Rng.text l) := Lib.hid (by unfold soFar Rng.text; rw [if_neg hz, List.take_of_length_le (by omega)])
          go_wp2
          go_ret2
          exact ⟨by rw [HM.out]; exact two_eq 0 (by rw [HT.out]), hb⟩
end Go.Proofs.YthjombepcmebfaaGreatDoor

/- The document's words: a text at its blanks. (The walk of its Parts, at another byte.) -/
namespace Go.Proofs.YthjombepcmebfaaGreatDoor
open Go.RowKit
set_option linter.unusedVariables false

set_option maxRecDepth 100000 in
set_option maxHeartbeats 1000000 in
theorem rwords_walk (s : ByteArray) (hs : s.size ≤ 1000000) (w : World) :
    Calls Tryz.prog 33 #[.string s] w fun e w' => ∃ A cap, e = .returned (.slice A (strs (Rng.words s.data.toList)).length cap) ∧ Strs w' w'.heap.size A (strs (Rng.words s.data.toList)) ∧ Below w.heap.size w w' := by
  obtain ⟨i0, hi, hz0, hz1, hz2⟩ := info_parts (P := Tryz.prog) (e := 9) (z := .string ByteArray.empty) (size := 1) (bytes := 16) (by kernel_rfl)
  go_enter Tryz.func33, Tryz.ntmps33
  go_wp2_with fail
  go_loopw [3, 4] (fun v i wr => ∃ (k : Nat) (ps : List (List UInt8)), i = .int .i64 k ∧ k ≤ s.size ∧ Hid (ps = Rng.words (s.data.toList.take k)) ∧ ps.length ≤ k + 1 ∧
      wr.ownsRow w.heap.size 9 1 v ps.length ((strs ps).map Value.string) ∧ Below w.heap.size w wr)
    (fun _ i _ => s.size - (intOf i).toNat)
  case atStart =>
    refine ⟨0, [[]], rfl, Nat.zero_le _, Lib.hid rfl, by simp, ?_, (Below.refl _ _).alloc (Nat.le_refl _) _⟩
    exact World.ownsRow_lit (base := w.heap.size) (e := 9) (size := 1) w #[.string ByteArray.empty] 1 (Nat.le_refl _) (by simp [maxLen]) rfl
  case round =>
    obtain ⟨k, ps, rfl, hk, HP, hpl, hown, hb⟩ := hrel
    have hsz := hb.size
    by_cases hlt : k < s.size
    · have hkl : k < s.data.toList.length := by rw [← Lib.size_eq]; exact hlt
      by_cases hc : (s[k]'hlt).toNat = 32
      · have hd : (((s[k]'hlt).toNat : Int) == 32) = true := by rw [beq_iff_eq]; omega
        have HN : Hid (ps ++ [[]] = Rng.words (s.data.toList.take (k + 1))) := Lib.hid (by
          rw [List.take_succ_eq_append_getElem hkl, show s.data.toList[k] = 32 from UInt8.toNat_inj.1 hc, Rng.words_snoc_blank, HP.out])
        clear hc
        go_wp2_with (at_builtin; refine wpList_append_own _ rfl _ _ 54 rfl w.heap.size 9 i0 (.string ByteArray.empty) 1 16 Tryz.underlying54 hi hz0 hz1 hz2 rfl (by decide) _ _ _ rfl (hown.alloc _) ⟨wr.heap.size, 0, none⟩ 1 1 [.string ByteArray.empty] rfl rfl ?c1 ?c2 ?c3 ?c4 ?c5 ?_)
        case c1 =>
          intro i u hu
          match i, hu with
          | 0, hu => simp at hu; subst hu; simp [Addr.add]; rfl
        case c2 => intro u hu; simp at hu; subst hu; rfl
        case c3 => unfold maxLen; omega
        case c4 => omega
        case c5 => simp; omega
        intro v' w3 hown3 hgrow _
        go_wp2
        go_roundw
        case rel =>
          refine ⟨k + 1, ps ++ [[]], by go_num, by omega, HN, by simp; omega, ?_, (hb.alloc hsz _).grown hgrow (by simp; omega) (fun k hk => (hown.lt k hk).1)⟩
          rw [List.length_append, strs, List.map_append, List.map_append]
          exact hown3
        case measure => simp [intOf]; omega
      · have hd : (((s[k]'hlt).toNat : Int) == 32) = false := by rw [beq_eq_false_iff_ne]; omega
        obtain ⟨qs, p, hq1, hq2⟩ := Rng.words_snoc (d := s[k]'hlt) (fun h => hc (by rw [h]; rfl)) (s.data.toList.take k)
        have HN : Hid (qs ++ [p ++ [s[k]'hlt]] = Rng.words (s.data.toList.take (k + 1))) := Lib.hid (by
          rw [List.take_succ_eq_append_getElem hkl]; exact hq2.symm)
        rw [← HP.out] at hq1
        subst hq1
        have hpl2 : p.length ≤ k := by
          have := Rng.words_len (s.data.toList.take k) p (by rw [← HP.out]; simp)
          rw [List.length_take] at this; omega
        have hln : (qs ++ [p]).length = qs.length + 1 := by simp
        have hxs : (strs (qs ++ [p])).map Value.string = (strs qs).map Value.string ++ [.string ⟨p.toArray⟩] := by simp [strs]
        have hsl : ((strs qs).map Value.string).length = qs.length := by simp [strs]
        rw [hln, hxs] at hown
        rw [hln] at hpl
        obtain ⟨g, cap, rfl, hg, _⟩ := hown.form (by omega)
        have hcell := hown.cellAt qs.length (by omega)
        rw [List.getElem?_append_right (by omega), hsl, Nat.sub_self] at hcell
        have hfr := hown.frozenAt qs.length
        have hst := hown.stored qs.length (.string ⟨(p ++ [s[k]'hlt]).toArray⟩)
        have hset : ((strs qs).map Value.string ++ [Value.string ⟨p.toArray⟩]).set qs.length (.string ⟨(p ++ [s[k]'hlt]).toArray⟩) = (strs (qs ++ [p ++ [s[k]'hlt]])).map Value.string := by
          rw [List.set_append_right _ _ (by omega), hsl, Nat.sub_self]; simp [strs]
        rw [hset] at hst
        have HST := Lib.hid hst
        have hpc := piece_one s k hlt
        simp only [List.getElem?_cons_zero] at hcell
        clear hst hset hxs hsl hln hc
        go_wp2_with fail
        have hw1 : IntKind.i64.wrap ((qs.length : Nat) : Int) = (qs.length : Int) := IntWalk.i64_in _ (by omega)
        have hw2 : IntKind.i64.wrap ((k : Int) + 1) = (k : Int) + 1 := IntWalk.i64_in _ (by omega)
        have hq2 : (qs.length : Int) < (qs.length : Int) + 1 := by omega
        have hsz2 : (⟨p.toArray⟩ : ByteArray).size + (⟨#[s[k]'hlt]⟩ : ByteArray).size ≤ 9223372036854775807 := by
          rw [size_list, show (⟨#[s[k]'hlt]⟩ : ByteArray).size = 1 from rfl]; omega
        have hcat : ∀ W : World, (Op.stringOp .add (⟨p.toArray⟩ : ByteArray) ⟨#[s[k]'hlt]⟩).run Tryz.prog W = .ok (.string ⟨(p ++ [s[k]'hlt]).toArray⟩) W := fun W => by
          rw [run_string_add_sum _ _ _ hsz2]
          exact congrArg (fun b => Result.ok (Value.string b) W) (tx_append p [s[k]'hlt])
        have hcat2 : ∀ W : World, (binOp .add 9 (.string ⟨p.toArray⟩) (.string ⟨#[s[k]'hlt]⟩)).run Tryz.prog W = .ok (.string ⟨(p ++ [s[k]'hlt]).toArray⟩) W := fun W => hcat W
        have hcell2 : ({ heap := wr.heap, tape := wr.tape, drawn := wr.drawn + 1, os := wr.os, output := wr.output } : World).cell? ⟨g, qs.length, none⟩ = some (.string ⟨p.toArray⟩) := hcell
        go_still_tail 17, (by kernel_rfl)
        change wpList _ _ _ _ _ wr.drew
        clear hw1 hw2 hcat hcat2 hcell2 hq2 hsz2 hpc
        go_wp2
        go_roundw
        case rel =>
          refine ⟨k + 1, qs ++ [p ++ [s[k]'hlt]], by go_num, by omega, HN, by simp; omega, ?_, ((hb.setCell (p := ⟨g, qs.length, none⟩) hg _).drew)⟩
          have hl2 : (qs ++ [p ++ [s[k]'hlt]]).length = qs.length + 1 := by simp
          rw [hl2]
          exact HST.out.1.drew
        case measure => simp [intOf]; omega
    · have HK : Hid (ps = Rng.words s.data.toList) := Lib.hid (by rw [HP.out, List.take_of_length_le (by rw [← Lib.size_eq]; omega)])
      have hpl3 : ps.length = (strs ps).length := by simp [strs]
      rw [hpl3] at hown
      obtain ⟨A, cap, rfl, hS⟩ := strs_of_own hown
      have hpl4 := hpl3.symm
      go_wp2
      go_ret
      refine ⟨A, cap, ?_, ?_, hb⟩
      · rw [← HK.out]; rfl
      · rw [← HK.out]; exact hS
end Go.Proofs.YthjombepcmebfaaGreatDoor

/- The document's Same: are two ranges the same? -/
namespace Go.Proofs.YthjombepcmebfaaGreatDoor
open Go.RowKit
set_option linter.unusedVariables false

theorem same_off {l m : List Rng.Bd} {i : Nat} (hl : l.length = m.length) (hi : i < l.length) (h : (l[i]'hi) ≠ (m[i]'(by omega))) : l ≠ m := by
  rintro rfl; exact h rfl

theorem same_all {l m : List Rng.Bd} (hl : l.length = m.length) (h : ∀ j (hj : j < l.length), (l[j]'hj) = (m[j]'(by omega))) : l = m :=
  List.ext_getElem hl (fun j h1 _ => h j h1)

set_option maxRecDepth 100000 in
set_option maxHeartbeats 4000000 in
theorem rsame_walk (A B : Option Addr) (ca cb : Nat) (l m : List Rng.Bd) (w : World) (hA : Bds w w.heap.size A l) (hB : Bds w w.heap.size B m) (hll : l.length ≤ 9223372036854775806) :
    Calls Tryz.prog 14 #[.slice A l.length ca, .slice B m.length cb] w fun e w' => e = .returned (.bool (decide (l = m))) ∧ Below w.heap.size w w' := by
  have HA := Lib.hid hA
  have HB := Lib.hid hB
  clear hA hB
  by_cases hlm : l.length = m.length
  · have hlq : ((l.length : Int) == (m.length : Int)) = true := by rw [beq_iff_eq]; omega
    have hlm2 : (m.length : Int) = (l.length : Int) := by omega
    go_enter Tryz.func14, Tryz.ntmps14
    go_wp2_with fail
    go_loopw [5] (fun ii wr => ∃ i : Nat, ii = .int .i64 i ∧ i ≤ l.length ∧ Hid (∀ j (hj : j < l.length), j < i → (l[j]'hj) = (m[j]'(by omega))) ∧ Below w.heap.size w wr)
      (fun i _ => l.length - (intOf i).toNat)
    case atStart => exact ⟨0, rfl, Nat.zero_le _, Lib.hid (fun j _ hj => absurd hj (by omega)), Below.refl _ _⟩
    case round =>
      obtain ⟨i, rfl, hi, HN, hb⟩ := hrel
      by_cases hlt : i < l.length
      · rcases HA.out.keep hb (Nat.le_refl _) with h0 | ⟨g, off, rfl, hg, hc⟩
        · omega
        · rcases HB.out.keep hb (Nat.le_refl _) with h0 | ⟨g', off', rfl, hg', hc'⟩
          · omega
          · obtain ⟨p0, p1, p2, p3, p4⟩ := hc i hlt
            obtain ⟨q0, q1, q2, q3, q4⟩ := hc' i (by omega)
            obtain ⟨x, hx⟩ : ∃ x, x = l[i] := ⟨_, rfl⟩
            obtain ⟨y, hy⟩ : ∃ y, y = m[i]'(by omega) := ⟨_, rfl⟩
            rw [← hx] at p0 p1 p2 p3 p4
            rw [← hy] at q0 q1 q2 q3 q4
            have HX := Lib.hid hx.symm
            have HY := Lib.hid hy.symm
            have hi1 : (i : Int) < (l.length : Int) := by omega
            have hi2 : (i : Int) < (m.length : Int) := by omega
            clear hx hy hc hc'
            by_cases hxy : x = y
            · have HM : Hid (l[i] = m[i]'(by omega)) := Lib.hid (by rw [HX.out, HY.out]; exact hxy)
              subst hxy
              go_wp2_with fail
              go_quiet (fail)
              go_wp2
              go_roundw
              case rel => exact ⟨i + 1, by go_num, by omega, Lib.hid (fun j hj hji => by
                rcases Nat.lt_succ_iff_lt_or_eq.1 hji with h | rfl
                · exact HN.out j hj h
                · exact HM.out), below_drewN hb _⟩
              case measure => simp [intOf]; omega
            · skip
              cases h0 : (x.op == y.op)
              · skip
                have HC : Hid (decide (l = m) = false) := Lib.hid (decide_eq_false (same_off hlm hlt (fun h => hxy (HX.out.symm.trans (h.trans HY.out)))))
                go_wp2_with fail
                go_quiet (fail)
                go_wp2
                go_ret
                exact ⟨by rw [HC.out]; rfl, below_drewN hb _⟩
              · skip
                cases h1 : (x.v.maj == y.v.maj)
                · skip
                  have HC : Hid (decide (l = m) = false) := Lib.hid (decide_eq_false (same_off hlm hlt (fun h => hxy (HX.out.symm.trans (h.trans HY.out)))))
                  go_wp2_with fail
                  go_quiet (fail)
                  go_wp2
                  go_ret
                  exact ⟨by rw [HC.out]; rfl, below_drewN hb _⟩
                · skip
                  cases h2 : (x.v.min == y.v.min)
                  · skip
                    have HC : Hid (decide (l = m) = false) := Lib.hid (decide_eq_false (same_off hlm hlt (fun h => hxy (HX.out.symm.trans (h.trans HY.out)))))
                    go_wp2_with fail
                    go_quiet (fail)
                    go_wp2
                    go_ret
                    exact ⟨by rw [HC.out]; rfl, below_drewN hb _⟩
                  · skip
                    cases h3 : (x.v.pat == y.v.pat)
                    · skip
                      have HC : Hid (decide (l = m) = false) := Lib.hid (decide_eq_false (same_off hlm hlt (fun h => hxy (HX.out.symm.trans (h.trans HY.out)))))
                      go_wp2_with fail
                      go_quiet (fail)
                      go_wp2
                      go_ret
                      exact ⟨by rw [HC.out]; rfl, below_drewN hb _⟩
                    · skip
                      cases h4 : (x.v.pre == y.v.pre)
                      · skip
                        have HC : Hid (decide (l = m) = false) := Lib.hid (decide_eq_false (same_off hlm hlt (fun h => hxy (HX.out.symm.trans (h.trans HY.out)))))
                        go_wp2_with fail
                        go_quiet (fail)
                        go_wp2
                        go_ret
                        exact ⟨by rw [HC.out]; rfl, below_drewN hb _⟩
                      · exact absurd (Rng.bd_ext (beq_iff_eq.1 h0) (by
                          obtain ⟨_, _, _, _, _⟩ := x
                          obtain ⟨_, _, _, _, _⟩ := y
                          simp only [beq_iff_eq] at h1 h2 h3 h4
                          simp only [h1, h2, h3, h4])) hxy
      · have HC : Hid (decide (l = m) = true) := Lib.hid (decide_eq_true (same_all hlm (fun j hj => HN.out j hj (by omega))))
        go_wp2
        go_ret
        exact ⟨by rw [HC.out]; rfl, hb⟩
  · have hlq : ((l.length : Int) == (m.length : Int)) = false := by rw [beq_eq_false_iff_ne]; omega
    have HC : Hid (decide (l = m) = false) := Lib.hid (decide_eq_false (fun h => hlm (by rw [h])))
    go_enter Tryz.func14, Tryz.ntmps14
    go_wp2
    go_ret
    exact ⟨by rw [HC.out]; rfl, Below.refl _ _⟩
end Go.Proofs.YthjombepcmebfaaGreatDoor

/- append onto a row that the call owns, of a slice that may be nil. -/
namespace Go.Proofs.YthjombepcmebfaaGreatDoor
open Go.RowKit
set_option linter.unusedVariables false

theorem wpList_append_any {P : Program} (w : World) {ops : Array Oper} {rest : List Oper} {o : Oper} {a : Act} {Q : Exit → Act → World → Prop} (hgd : Region.wanted o (yielded ops a.tmps) = true) (s x : Operand) (t : TypeId)
    (ho : o.op = .call { callee := .builtin .append, args := #[s, x], argTypes := #[t, t] })
    (base : Nat) (e : TypeId) (i : TypeInfo) (z : Value) (size bytes : Nat) (ht : P.underlying t = some (.slice e)) (hi : P.info? e = some i) (hz : i.zero = some z)
    (hsize : i.size = size) (hby : i.bytes = bytes) (hzs : z.cells.size = size) (hsz : 0 < size)
    (v : Value) (n : Nat) (xs : List Value) (hs : a.eval s = v) (hown : w.ownsRow base e size v n xs)
    (A : Option Addr) (m c : Nat) (news : List Value) (hx : a.eval x = .slice A m c) (hA : A = none → m = 0 ∧ c = 0) (hl : news.length = m * size)
    (hnews : ∀ ad, A = some ad → ∀ j u, news[j]? = some u → w.cell? (ad.add j) = some u) (h1 : ∀ u ∈ news, u.oneCell' = true)
    (h63 : n + m ≤ maxLen) (hbytes : (n + m) * bytes ≤ 140737488355328) (hbase : base ≤ w.heap.size)
    (h : ∀ v' w', w'.ownsRow base e size v' (n + m) (xs ++ news) → Below base w w' → wpList P ops Q rest (a.put o.dst v') w') : wpList P ops Q (o :: rest) a w := by
  refine wpList_step fun K hK => ?_
  rw [if_pos hgd]
  match A, hA, hnews, hx with
  | some ad, _, hnews, hx =>
    exact wp_append_own w s x t ho base e i z size bytes ht hi hz hsize hby hzs hsz v n xs hs hown ad m c news hx hl (hnews ad rfl) h1 h63 hbytes hbase
      fun v' w' h2 h3 _ => hK _ _ (h v' w' h2 ((Below.refl _ _).grown h3 hbase (fun k hk => (hown.lt k hk).1)))
  | none, hA, _, hx =>
    obtain ⟨rfl, rfl⟩ := hA rfl
    obtain rfl : news = [] := List.eq_nil_of_length_eq_zero (by rw [hl, Nat.zero_mul])
    have hr := run_append_owned_none (P := P) (w := w) base t o.type e i size ht hi v n xs hown
    unfold Oper.wp execOp
    simp only [ho, resolve, invoke, builtin, Sem.run_bind, Sem.run_pure, Result.andThen_ok, List.map_toArray, List.map_cons, List.map_nil, hs, hx, hr]
    exact hK _ _ (h v w (by rw [List.append_nil]; exact hown) (Below.refl _ _))
end Go.Proofs.YthjombepcmebfaaGreatDoor

/- Two rows of bounds that the document's Normal gathers. -/
namespace Go.Proofs.YthjombepcmebfaaGreatDoor
open Go.RowKit
set_option linter.unusedVariables false

/-- The cells of bounds. -/
def cellsB (l : List Rng.Bd) : List Value := l.flatMap fun b => [.int .i64 b.op, .int .i64 b.v.maj, .int .i64 b.v.min, .int .i64 b.v.pat, .string ⟨b.v.pre.toArray⟩]

theorem cellsB_len (l : List Rng.Bd) : (cellsB l).length = l.length * 5 := by
  induction l with
  | nil => rfl
  | cons b r ih => simp only [cellsB, List.flatMap_cons, List.length_append, List.length_cons, List.length_nil] at ih ⊢; omega

theorem cellsB_snoc (l : List Rng.Bd) (b : Rng.Bd) : cellsB (l ++ [b]) = cellsB l ++ [.int .i64 b.op, .int .i64 b.v.maj, .int .i64 b.v.min, .int .i64 b.v.pat, .string ⟨b.v.pre.toArray⟩] := by simp [cellsB]

theorem cellsB_at : ∀ (l : List Rng.Bd) (i : Nat) (h : i < l.length), (cellsB l)[i * 5]? = some (.int .i64 (l[i]'h).op) ∧ (cellsB l)[i * 5 + 1]? = some (.int .i64 (l[i]'h).v.maj) ∧ (cellsB l)[i * 5 + 2]? = some (.int .i64 (l[i]'h).v.min) ∧
    (cellsB l)[i * 5 + 3]? = some (.int .i64 (l[i]'h).v.pat) ∧ (cellsB l)[i * 5 + 4]? = some (.string ⟨(l[i]'h).v.pre.toArray⟩)
  | [], i, h => by simp at h
  | b :: r, 0, _ => ⟨rfl, rfl, rfl, rfl, rfl⟩
  | b :: r, i + 1, h => by
    have ih := cellsB_at r i (by simpa using h)
    have e : ∀ k, (cellsB (b :: r))[(i + 1) * 5 + k]? = (cellsB r)[i * 5 + k]? := fun k => by
      rw [show (i + 1) * 5 + k = i * 5 + k + 5 from by omega]
      simp [cellsB]
    have e0 := e 0
    simp only [Nat.add_zero] at e0
    rw [e0, e 1, e 2, e 3, e 4]
    exact ih

theorem bds_of_own {w : World} {B : Nat} {v : Value} {l : List Rng.Bd} (h : w.ownsRow B 57 5 v l.length (cellsB l)) : ∃ A cap, v = .slice A l.length cap ∧ l.length ≤ cap ∧ Bds w w.heap.size A l := by
  rcases h.2 with ⟨rfl, h0⟩ | ⟨g, cap, cur, rfl, hB, hh, hc, _⟩
  · exact ⟨none, 0, by rw [h0], by omega, Or.inl h0⟩
  · refine ⟨_, _, rfl, hc, Or.inr ⟨g, 0, rfl, (h.lt g rfl).2, fun i hi => ?_⟩⟩
    obtain ⟨c0, c1, c2, c3, c4⟩ := cellsB_at l i hi
    rw [Nat.zero_add]
    exact ⟨(h.cellAt _ (by omega)).trans c0, (h.cellAt _ (by omega)).trans c1, (h.cellAt _ (by omega)).trans c2, (h.cellAt _ (by omega)).trans c3, (h.cellAt _ (by omega)).trans c4⟩

theorem news5 (W : World) (b : Rng.Bd) (g : Nat) (hg : g = W.heap.size) : ∀ j u, ([.int .i64 b.op, .int .i64 b.v.maj, .int .i64 b.v.min, .int .i64 b.v.pat, .string ⟨b.v.pre.toArray⟩] : List Value)[j]? = some u →
    (W.alloc (.cells #[.int .i64 b.op, .int .i64 b.v.maj, .int .i64 b.v.min, .int .i64 b.v.pat, .string ⟨b.v.pre.toArray⟩] 57)).cell? ((⟨g, 0, none⟩ : Addr).add j) = some u := by
  subst hg
  exact World.news_of_block (heap_alloc_new W _)

theorem one5 {a b c d : Int} {s : ByteArray} : ∀ u ∈ ([.int .i64 a, .int .i64 b, .int .i64 c, .int .i64 d, .string s] : List Value), u.oneCell' = true := by
  intro u hu
  simp at hu
  rcases hu with rfl | rfl | rfl | rfl | rfl <;> rfl

/-- Two rows, apart from each other, above a box that holds the bound that nothing meets. -/
structure Two (w W : World) (lv hv : Value) (l h : List Rng.Bd) : Prop where
  lt : w.heap.size < W.heap.size
  lo : W.ownsRow (w.heap.size + 1) 57 5 lv l.length (cellsB l)
  hi : W.ownsRow (w.heap.size + 1) 57 5 hv h.length (cellsB h)
  ne : ∀ k, lv.ownBlock = some k → hv.ownBlock ≠ some k
  nb : BdAt W w.heap.size 0 Rng.nil
  bel : Below w.heap.size w W

theorem Two.swap {w W : World} {lv hv : Value} {l h : List Rng.Bd} (t : Two w W lv hv l h) : Two w W hv lv h l :=
  ⟨t.lt, t.hi, t.lo, fun k h1 h2 => t.ne k h2 h1, t.nb, t.bel⟩

theorem Two.alloc {w W : World} {lv hv : Value} {l h : List Rng.Bd} (t : Two w W lv hv l h) (o : Obj) : Two w (W.alloc o) lv hv l h :=
  ⟨by have := t.lt; simp; omega, t.lo.alloc o, t.hi.alloc o, t.ne, t.nb.keep t.lt (below_one W o), below_new t.bel o⟩

theorem Two.low {w W W' : World} {lv hv : Value} {l h : List Rng.Bd} {b : Rng.Bd} {g cap n : Nat} (t : Two w W lv hv l h) (hn : n = l.length)
    (h2 : W'.ownsRow (w.heap.size + 1) 57 5 (.slice (some ⟨g, 0, none⟩) (n + 1) cap) (n + 1) (cellsB l ++ [.int .i64 b.op, .int .i64 b.v.maj, .int .i64 b.v.min, .int .i64 b.v.pat, .string ⟨b.v.pre.toArray⟩]))
    (h3 : W.grownBy W' lv.ownBlock) (h4 : lv.ownBlock = some g ∨ g = W.heap.size) : Two w W' (.slice (some ⟨g, 0, none⟩) (n + 1) cap) hv (l ++ [b]) h := by
  subst hn
  refine ⟨Nat.lt_of_lt_of_le t.lt h3.size, ?_, ?_, ?_, ?_, ?_⟩
  · rw [cellsB_snoc, List.length_append]; exact h2
  · refine t.hi.kept h3 ?_
    cases hq : hv.ownBlock with
    | none => exact Or.inl rfl
    | some k => exact Or.inr (fun e => t.ne k e.symm hq)
  · intro k hk hhk
    simp only [Value.ownBlock, Option.some.injEq] at hk
    subst hk
    rcases h4 with h4 | h4
    · exact t.ne _ h4 hhk
    · have := (t.hi.lt _ hhk).2; omega
  · have far : ∀ o, W'.cell? ⟨w.heap.size, o, none⟩ = W.cell? ⟨w.heap.size, o, none⟩ := fun o => h3.cell_far ⟨w.heap.size, o, none⟩ t.lt (fun e => by
      have h9 : w.heap.size + 1 ≤ w.heap.size := (t.lo.lt _ e.symm).1; omega)
    obtain ⟨c0, c1, c2, c3, c4⟩ := t.nb
    exact ⟨(far _).trans c0, (far _).trans c1, (far _).trans c2, (far _).trans c3, (far _).trans c4⟩
  · exact t.bel.grown h3 (Nat.le_of_lt t.lt) (fun k hk => Nat.le_of_succ_le (t.lo.lt k hk).1)

/-- A box that was there is as it was. -/
theorem grown_box {W W' : World} {row : Option Nat} {bx : Nat} {b : Rng.Bd} (h : BdAt W bx 0 b) (hg : W.grownBy W' row) (hlt : bx < W.heap.size) (hne : some bx ≠ row) : BdAt W' bx 0 b := by
  have far : ∀ o, W'.cell? ⟨bx, o, none⟩ = W.cell? ⟨bx, o, none⟩ := fun o => hg.cell_far ⟨bx, o, none⟩ hlt hne
  obtain ⟨c0, c1, c2, c3, c4⟩ := h
  exact ⟨(far _).trans c0, (far _).trans c1, (far _).trans c2, (far _).trans c3, (far _).trans c4⟩
end Go.Proofs.YthjombepcmebfaaGreatDoor
