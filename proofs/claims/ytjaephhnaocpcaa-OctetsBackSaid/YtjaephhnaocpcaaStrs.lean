/- A slice of texts that came in, as the walks want it: Strs. -/
import Derived.Test.YtjaephhnaocpcaaOctList
import Derived.SliceStrings
import Derived.SizedLaws
import Derived.OpenShut
namespace Go.Proofs.Ytjaephhnaocpcaa
open Go.RowKit

theorem lt_of_cell {w : World} {b o : Nat} {v : Value} (h : w.cell? ⟨b, o, none⟩ = some v) : b < w.heap.size := by
  rcases Nat.lt_or_ge b w.heap.size with h' | h'
  · exact h'
  · simp [World.cell?, Array.getElem?_eq_none h'] at h

theorem strs_of_cells {w : World} {a : Addr} {ss : List ByteArray} {len : Nat} (hc : ∀ i, i < ss.length → w.cell? (a.add i) = some (.string (ss.getD i ByteArray.empty))) : Strs w w.heap.size (some a) (ss.take len) := by
  by_cases h0 : (ss.take len).length = 0
  · exact Or.inl h0
  · have hpos : 0 < ss.length := by rw [List.length_take] at h0; omega
    obtain ⟨b, off, spot⟩ := a
    have h1 := hc 0 hpos
    have hspot : spot = none := by simpa [Addr.add] using World.cell?_spot h1
    subst hspot
    refine Or.inr ⟨b, off, rfl, lt_of_cell (o := off) (by simpa [Addr.add] using h1), fun i hi => ?_⟩
    rw [List.length_take] at hi
    have hplain : (⟨b, off, none⟩ : Addr).add i = ⟨b, off + i, none⟩ := by unfold Addr.add; split <;> simp_all
    rw [← hplain, hc i (by omega), List.getElem_take]
    simp [List.getD, List.getElem?_eq_getElem (show i < ss.length by omega)]

theorem strs_open {H : Type} {enc : TypeId × Value → H} {W : World} {base : Nat} {held : Bool} {A : Option Addr} {n c : Nat} {d : DataW H} {p : List MemPlace}
    (h : DataW.Trod enc Try.prog W base (fun _ => true) held 37 (.slice A n c) d p) :
    ∃ ss : List ByteArray, n = ss.length ∧ Strs W W.heap.size A ss ∧ ss.length ≤ 9223372036854775807 ∧ ∀ x ∈ ss, x.size ≤ 9223372036854775807 := by
  obtain ⟨fuel, hf⟩ := h
  rcases Go.ChangeShapes.open_strings Try.underlying37 Try.underlying9 (by kernel_rfl) hf with ⟨hcs, _⟩ | ⟨a, len, cap, ss, hcs, _, hl, hm, hz, _, hcell, hws⟩
  · simp [Value.cells] at hcs
    obtain ⟨rfl, rfl, rfl⟩ := hcs
    exact ⟨[], rfl, Or.inl rfl, by simp, by simp⟩
  · simp [Value.cells] at hcs
    obtain ⟨rfl, rfl, rfl⟩ := hcs
    have hz' : ss.length = c := by simpa using hz
    unfold maxLen at hm
    refine ⟨ss.take n, by rw [List.length_take]; omega, strs_of_cells hcell, by rw [List.length_take]; omega, fun x hx => ?_⟩
    have := hws x (List.mem_of_mem_take hx)
    unfold maxLen at this
    exact this
/-- Two texts in an array that came in. -/
theorem str2_open {H : Type} {enc : TypeId × Value → H} {W : World} {base b0 : Nat} {spare : Nat → Bool} {held : Bool} {v : Value} {d : DataW H} {p : List MemPlace}
    (hv : Value.okWide Try.prog W .any b0 46 v) (h : DataW.Trod enc Try.prog W base spare held 46 v d p) :
    ∃ x y : ByteArray, v = .agg #[.string x, .string y] ∧ d = .agg [.lit (.string x.data.toList), .lit (.string y.data.toList)] := by
  unfold Value.okWide at hv
  rw [Try.underlying46] at hv
  obtain ⟨cs, rfl, hsz, _⟩ := hv
  have hsz2 : cs.size = 2 := hsz.trans (by kernel_rfl)
  have hc1 : Try.prog.cellsOf 9 = 1 := by kernel_rfl
  obtain ⟨c0, c1, rfl⟩ : ∃ c0 c1, cs = #[c0, c1] := by
    rcases cs with ⟨l⟩
    match l, hsz2 with
    | [a, b], _ => exact ⟨a, b, rfl⟩
  obtain ⟨fuel, hf⟩ := h
  obtain ⟨xs, m, _, hx, _, hl, he⟩ := DataW.trod_array Try.underlying46 hf
  rw [hc1] at he
  match xs, hl with
  | [y0, y1], _ =>
    have e0 := he 0 (by omega)
    have e1 := he 1 (by omega)
    simp only [Value.cells, List.getElem?_cons_zero, List.getElem?_cons_succ, Nat.zero_mul, Nat.one_mul, List.drop_zero, List.drop_succ_cons, List.take_succ_cons, List.take_zero] at e0 e1
    obtain ⟨x, hx0, rfl, _⟩ := DataW.trod_string Try.underlying9 e0
    obtain ⟨y, hy0, rfl, _⟩ := DataW.trod_string Try.underlying9 e1
    simp at hx0 hy0 hx
    exact ⟨x, y, by rw [hx0, hy0], hx.1⟩

theorem str2_sized {H : Type} {ts : List TypeId} {ds : List (DataW H)} {j : Nat} {x y : ByteArray} (h : (DataW.weightsEach Try.prog ts ds).all (· ≤ reachBytes) = true)
    (ht : ts[j]? = some 46) (hd : ds[j]? = some (.agg [.lit (.string x.data.toList), .lit (.string y.data.toList)])) : x.size ≤ 140737488351232 ∧ y.size ≤ 140737488351232 := by
  have h1 := List.all_eq_true.1 h _ (DataW.weights_mem_each ht hd x.data.toList.length (by simp [DataW.weights, DataW.weightsAll, Try.underlying46]))
  have h2 := List.all_eq_true.1 h _ (DataW.weights_mem_each ht hd y.data.toList.length (by simp [DataW.weights, DataW.weightsAll, Try.underlying46]))
  rw [Lib.size_eq, Lib.size_eq]
  exact ⟨Nat.le_trans (of_decide_eq_true h1) (by decide), Nat.le_trans (of_decide_eq_true h2) (by decide)⟩
end Go.Proofs.Ytjaephhnaocpcaa
