/- A slice of texts that came in, as the walks want it: Strs. -/
import Derived.Test.YtjaephhnaocpcaaOctList
import Derived.SliceStrings
namespace Go.Proofs.Ytjaephhnaocpcaa
open Go.RowKit

theorem lt_of_cell {w : World} {b o : Nat} {v : Value} (h : w.cell? ⟨b, o, none⟩ = some v) : b < w.heap.size := by
  rcases Nat.lt_or_ge b w.heap.size with h' | h'
  · exact h'
  · simp [World.cell?, Array.getElem?_eq_none h'] at h

theorem strs_of_cells {w : World} {a : Addr} {ss : List ByteArray} {len : Nat} (hc : ∀ i, i < ss.length → w.cell? (a.add i) = some (.string (ss.getD i ByteArray.empty))) : Strs w w.heap.size (some a) (ss.take len) := by
  by_cases h0 : (ss.take len).length = 0
  · exact Or.inl h0
  · have hpos : 0 < ss.length := by rw [List.length_take] at h0; omega
    obtain ⟨b, off, spot⟩ := a
    have h1 := hc 0 hpos
    have hspot : spot = none := by simpa [Addr.add] using World.cell?_spot h1
    subst hspot
    refine Or.inr ⟨b, off, rfl, lt_of_cell (o := off) (by simpa [Addr.add] using h1), fun i hi => ?_⟩
    rw [List.length_take] at hi
    have hplain : (⟨b, off, none⟩ : Addr).add i = ⟨b, off + i, none⟩ := by unfold Addr.add; split <;> simp_all
    rw [← hplain, hc i (by omega), List.getElem_take]
    simp [List.getD, List.getElem?_eq_getElem (show i < ss.length by omega)]

theorem strs_open {H : Type} {enc : TypeId × Value → H} {W : World} {base : Nat} {held : Bool} {A : Option Addr} {n c : Nat} {d : DataW H} {p : List MemPlace}
    (h : DataW.Trod enc Try.prog W base (fun _ => true) held 37 (.slice A n c) d p) :
    ∃ ss : List ByteArray, n = ss.length ∧ Strs W W.heap.size A ss ∧ ss.length ≤ 9223372036854775807 ∧ ∀ x ∈ ss, x.size ≤ 9223372036854775807 := by
  obtain ⟨fuel, hf⟩ := h
  rcases Go.ChangeShapes.open_strings Try.underlying37 Try.underlying9 (by kernel_rfl) hf with ⟨hcs, _⟩ | ⟨a, len, cap, ss, hcs, _, hl, hm, hz, _, hcell, hws⟩
  · simp [Value.cells] at hcs
    obtain ⟨rfl, rfl, rfl⟩ := hcs
    exact ⟨[], rfl, Or.inl rfl, by simp, by simp⟩
  · simp [Value.cells] at hcs
    obtain ⟨rfl, rfl, rfl⟩ := hcs
    have hz' : ss.length = c := by simpa using hz
    unfold maxLen at hm
    refine ⟨ss.take n, by rw [List.length_take]; omega, strs_of_cells hcell, by rw [List.length_take]; omega, fun x hx => ?_⟩
    have := hws x (List.mem_of_mem_take hx)
    unfold maxLen at this
    exact this
end Go.Proofs.Ytjaephhnaocpcaa
