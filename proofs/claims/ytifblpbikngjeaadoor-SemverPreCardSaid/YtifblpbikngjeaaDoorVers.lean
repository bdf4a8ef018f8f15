/- Versions that came in: by value, and in slices. -/
import Derived.Test.YtifblpbikngjeaaDoorSemCheck
import Derived.Lib.SmallJoins
import Derived.Deep.Slices
import Derived.Deep.Fields
import Derived.ChangeSame
import Derived.SizedLaws
import Derived.OpenShut
namespace Go.Proofs.YtifblpbikngjeaaDoor
open Go.RowKit
set_option linter.unusedVariables false

set_option maxRecDepth 100000 in
/-- A version that came in by value. -/
theorem ver_open {H : Type} {enc : TypeId × Value → H} {W : World} {base b0 : Nat} {spare : Nat → Bool} {held : Bool} {v : Value} {d : DataW H} {p : List MemPlace}
    (hv : Value.okWide Tryd.prog W .any b0 23 v) (h : DataW.Trod enc Tryd.prog W base spare held 23 v d p) :
    ∃ u : Sem.Ver, v = verV u ∧ d = .agg [.lit (.int .i64 u.maj), .lit (.int .i64 u.min), .lit (.int .i64 u.pat), .lit (.string u.pre)] ∧
      (Lit.int .i64 u.maj).wf = true ∧ (Lit.int .i64 u.min).wf = true ∧ (Lit.int .i64 u.pat).wf = true := by
  obtain ⟨v0, v1, v2, v3, y0, y1, y2, y3, n, rfl, rfl, rfl, h0, h1, h2, h3⟩ := Go.Joins.open_agg4 Tryd.underlying23 (by kernel_rfl) (by kernel_rfl) hv h
  obtain ⟨a, ha, rfl, wa⟩ := DataW.trod_int Tryd.underlying3 h0
  obtain ⟨b, hb, rfl, wb⟩ := DataW.trod_int Tryd.underlying3 h1
  obtain ⟨c, hc, rfl, wc⟩ := DataW.trod_int Tryd.underlying3 h2
  obtain ⟨x, hx, rfl, _⟩ := DataW.trod_string Tryd.underlying9 h3
  simp only [List.cons.injEq, and_true] at ha hb hc hx
  subst ha hb hc hx
  refine ⟨⟨a, b, c, x.data.toList⟩, ?_, rfl, wa, wb, wc⟩
  rw [verV]

theorem ver_sized {H : Type} {ts : List TypeId} {ds : List (DataW H)} {j : Nat} {u : Sem.Ver} (h : (DataW.weightsEach Tryd.prog ts ds).all (· ≤ reachBytes) = true)
    (ht : ts[j]? = some 23) (hd : ds[j]? = some (.agg [.lit (.int .i64 u.maj), .lit (.int .i64 u.min), .lit (.int .i64 u.pat), .lit (.string u.pre)])) : u.pre.length ≤ 140737488351232 := by
  have h1 := List.all_eq_true.1 h _ (DataW.weights_mem_each ht hd u.pre.length (by simp [DataW.weights, DataW.weightsEach, Tryd.underlying23]))
  exact Nat.le_trans (of_decide_eq_true h1) (by decide)

/-- The cells of a slice of versions, in blocks below B. -/
def Vers (w : World) (B : Nat) (A : Option Addr) (vs : List Sem.Ver) : Prop :=
  vs.length = 0 ∨ ∃ b off, A = some ⟨b, off, none⟩ ∧ b < B ∧ ∀ i (h : i < vs.length),
    w.cell? ⟨b, off + i * 4 + 0, none⟩ = some (.int .i64 (vs[i]'h).maj) ∧ w.cell? ⟨b, off + i * 4 + 1, none⟩ = some (.int .i64 (vs[i]'h).min) ∧
    w.cell? ⟨b, off + i * 4 + 2, none⟩ = some (.int .i64 (vs[i]'h).pat) ∧ w.cell? ⟨b, off + i * 4 + 3, none⟩ = some (.string ⟨(vs[i]'h).pre.toArray⟩)

theorem Vers.keep {w w' : World} {B B' : Nat} {A : Option Addr} {vs : List Sem.Ver} (h : Vers w B A vs) (hb : Below B' w w') (hB : B ≤ B') : Vers w' B A vs := by
  rcases h with h | ⟨b, off, hA, hlt, hc⟩
  · exact Or.inl h
  · refine Or.inr ⟨b, off, hA, hlt, fun i hi => ?_⟩
    obtain ⟨h0, h1, h2, h3⟩ := hc i hi
    have hl := Nat.lt_of_lt_of_le hlt hB
    exact ⟨(hb.cell (p := ⟨b, off + i * 4 + 0, none⟩) hl).trans h0, (hb.cell (p := ⟨b, off + i * 4 + 1, none⟩) hl).trans h1, (hb.cell (p := ⟨b, off + i * 4 + 2, none⟩) hl).trans h2, (hb.cell (p := ⟨b, off + i * 4 + 3, none⟩) hl).trans h3⟩

theorem Vers.more {w : World} {B B' : Nat} {A : Option Addr} {vs : List Sem.Ver} (h : Vers w B A vs) (hB : B ≤ B') : Vers w B' A vs := by
  rcases h with h | ⟨b, off, hA, hlt, hc⟩
  · exact Or.inl h
  · exact Or.inr ⟨b, off, hA, Nat.lt_of_lt_of_le hlt hB, hc⟩

theorem Vers.next {w w' : World} {A : Option Addr} {vs : List Sem.Ver} (h : Vers w w.heap.size A vs) (hb : Below w.heap.size w w') : Vers w' w'.heap.size A vs :=
  (h.keep hb (Nat.le_refl _)).more hb.size

section
open Go.ChangeShapes Go.WideShapes Go.Deep
variable {H : Type} {enc : TypeId × Value → H} {P : Program} {w : World} {base : Nat} {spare : Nat → Bool} {held : Bool}
/-- A slice of structs of one-cell fields that came in, field by field. -/
theorem open_slice_fields {t e : TypeId} {fs : Array Field} {fuel : Nat} {cs : List Value} {x : DataW H × List MemPlace} (ht : P.underlying t = some (.slice e)) (he : P.underlying e = some (.struct fs))
    (hone : oneCellFields P fs = true) (hC : P.cellsOf e = fs.size) (h : DataW.trod enc P w base spare held fuel t cs = some x) :
    (cs = [.slice none 0 0] ∧ x = (.nil, [])) ∨
    ∃ (a : Addr) (len cap m : Nat), cs = [.slice (some a) len cap] ∧ len ≤ cap ∧ cap ≤ maxLen ∧ m = (if spare a.block then cap else len) ∧
      ∀ i, i < m → ∀ (j : Nat) (f : Field), fs[j]? = some f → ∃ (v : Value) (y : DataW H × List MemPlace) (n : Nat), w.cell? (a.add (i * fs.size + j)) = some v ∧ DataW.trod enc P w base spare held n f.type [v] = some y := by
  rcases open_slice ht h with h0 | ⟨a, len, cap, m, n, D, Pl, hcs, hb, hl, hm, hmm, hx, hi⟩
  · exact .inl h0
  · refine .inr ⟨a, len, cap, m, hcs, hl, hm, hmm, fun i him j f hj => ?_⟩
    obtain ⟨cs', hc, ht'⟩ := hi i him
    rw [hC] at hc
    obtain ⟨ys, n', hn', hy, hlen, hyl, hf⟩ := DataW.trod_struct he ht'
    obtain ⟨_, hcl, hat⟩ := World.cells?_some hc
    obtain ⟨ho, hk⟩ := hone_of hone j f hj
    have hjl : j < fs.size := (Array.getElem?_eq_some_iff.1 hj).1
    have hcell := hat j hjl
    have hv : cs'[j]? = some (cs'[j]'(by omega)) := List.getElem?_eq_getElem (by omega)
    have h1 := hf j f hj
    rw [ho, hk] at h1
    have hone' : (cs'.drop j).take 1 = [cs'[j]'(by omega)] := by
      rw [List.drop_eq_getElem_cons (by omega)]
      rfl
    rw [hone'] at h1
    have hys : ys[j]? = some (ys[j]'(by omega)) := List.getElem?_eq_getElem (by omega)
    refine ⟨_, _, n', ?_, h1.trans hys⟩
    rw [← Go.Deep.add_add, hcell, hv]
end

theorem add_plain (b off k : Nat) : (⟨b, off, none⟩ : Addr).add k = ⟨b, off + k, none⟩ := by unfold Addr.add; split <;> simp_all

theorem vers_open {H : Type} {enc : TypeId × Value → H} {W : World} {base : Nat} {held : Bool} {A : Option Addr} {n c : Nat} {d : DataW H} {p : List MemPlace}
    (h : DataW.Trod enc Tryd.prog W base (fun _ => true) held 42 (.slice A n c) d p) :
    ∃ vs : List Sem.Ver, n = vs.length ∧ Vers W W.heap.size A vs ∧ vs.length ≤ 9223372036854775807 ∧ vs.length ≤ c := by
  obtain ⟨fuel, hf⟩ := h
  rcases open_slice_fields Tryd.underlying42 Tryd.underlying23 (by kernel_rfl) (by kernel_rfl) hf with ⟨hcs, _⟩ | ⟨a, len, cap, m, hcs, hl, hm, hmm, hi⟩
  · simp [Value.cells] at hcs
    obtain ⟨rfl, rfl, rfl⟩ := hcs
    exact ⟨[], rfl, Or.inl rfl, by simp, by simp⟩
  · simp [Value.cells] at hcs
    obtain ⟨rfl, rfl, rfl⟩ := hcs
    unfold maxLen at hm
    have hmc : m = c := by simpa using hmm
    subst hmc
    have hv : ∀ i, ∃ u : Sem.Ver, i < m → W.cell? (a.add (i * 4 + 0)) = some (.int .i64 u.maj) ∧ W.cell? (a.add (i * 4 + 1)) = some (.int .i64 u.min) ∧ W.cell? (a.add (i * 4 + 2)) = some (.int .i64 u.pat) ∧ W.cell? (a.add (i * 4 + 3)) = some (.string ⟨u.pre.toArray⟩) := by
      intro i
      by_cases him : i < m
      · obtain ⟨v0, y0, n0, c0, t0⟩ := hi i him 0 _ rfl
        obtain ⟨v1, y1, n1, c1, t1⟩ := hi i him 1 _ rfl
        obtain ⟨v2, y2, n2, c2, t2⟩ := hi i him 2 _ rfl
        obtain ⟨v3, y3, n3, c3, t3⟩ := hi i him 3 _ rfl
        obtain ⟨a0, ha, _, _⟩ := DataW.trod_int Tryd.underlying3 t0
        obtain ⟨b0, hb, _, _⟩ := DataW.trod_int Tryd.underlying3 t1
        obtain ⟨d0, hd, _, _⟩ := DataW.trod_int Tryd.underlying3 t2
        obtain ⟨x0, hx, _, _⟩ := DataW.trod_string Tryd.underlying9 t3
        simp only [List.cons.injEq, and_true] at ha hb hd hx
        subst ha hb hd hx
        exact ⟨⟨a0, b0, d0, x0.data.toList⟩, fun _ => ⟨c0, c1, c2, c3⟩⟩
      · exact ⟨⟨0, 0, 0, []⟩, fun h => absurd h him⟩
    let f := fun i => (hv i).choose
    have hf2 : ∀ i, i < m → W.cell? (a.add (i * 4 + 0)) = some (.int .i64 (f i).maj) ∧ W.cell? (a.add (i * 4 + 1)) = some (.int .i64 (f i).min) ∧ W.cell? (a.add (i * 4 + 2)) = some (.int .i64 (f i).pat) ∧ W.cell? (a.add (i * 4 + 3)) = some (.string ⟨(f i).pre.toArray⟩) := fun i => (hv i).choose_spec
    refine ⟨(List.range n).map f, by simp, ?_, by simp; omega, by simp; omega⟩
    by_cases h0 : n = 0
    · exact Or.inl (by simp [h0])
    · obtain ⟨b, off, spot⟩ := a
      have h1 := (hf2 0 (by omega)).1
      have hspot : spot = none := by simpa [Addr.add] using World.cell?_spot h1
      subst hspot
      have hplain : ∀ k, (⟨b, off, none⟩ : Addr).add k = ⟨b, off + k, none⟩ := add_plain b off
      refine Or.inr ⟨b, off, rfl, ?_, fun i hi' => ?_⟩
      · rw [hplain] at h1
        rcases Nat.lt_or_ge b W.heap.size with h' | h'
        · exact h'
        · simp [World.cell?, Array.getElem?_eq_none h'] at h1
      · have hin : i < n := by simpa using hi'
        have := hf2 i (by omega)
        simp only [hplain] at this
        simp only [List.getElem_map, List.getElem_range]
        simpa [Nat.add_assoc] using this
end Go.Proofs.YtifblpbikngjeaaDoor
