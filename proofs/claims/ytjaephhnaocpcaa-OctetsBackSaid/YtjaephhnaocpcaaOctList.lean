/- List, of the program and of the document: how many texts there are, and each text: Oct.list. -/
import Derived.Test.YtjaephhnaocpcaaOctText
import Derived.WalkSmall
namespace Go.Proofs.Ytjaephhnaocpcaa
open Go.RowKit

/-- The cells of a slice of texts, in blocks below B. -/
def Strs (w : World) (B : Nat) (A : Option Addr) (ss : List ByteArray) : Prop :=
  ss.length = 0 ∨ ∃ b off, A = some ⟨b, off, none⟩ ∧ b < B ∧ ∀ i (h : i < ss.length), w.cell? ⟨b, off + i, none⟩ = some (.string (ss[i]'h))

theorem Strs.keep {w w' : World} {B B' : Nat} {A : Option Addr} {ss : List ByteArray} (h : Strs w B A ss) (hb : Below B' w w') (hB : B ≤ B') : Strs w' B A ss := by
  rcases h with h | ⟨b, off, hA, hlt, hc⟩
  · exact Or.inl h
  · exact Or.inr ⟨b, off, hA, hlt, fun i hi => (hb.cell (p := ⟨b, off + i, none⟩) (Nat.lt_of_lt_of_le hlt hB)).trans (hc i hi)⟩

theorem grown_of_below {B : Nat} {w w' : World} (h : Below B w w') (hB : w.heap.size ≤ B) (row : Option Nat) : w.grownBy w' row :=
  ⟨h.os, h.tape, h.output, h.size, fun i hi _ => h.block i (Nat.lt_of_lt_of_le hi hB)⟩

theorem builder_at_below {T e : TypeId} {B b : Nat} {p : Value} {bs : List Value} {w w' : World} (h : Lib.BuilderAt T e B b p bs w) (hb : Below w.heap.size w w') : Lib.BuilderAt T e B b p bs w' := by
  have hlt := h.lt
  obtain ⟨hB, v, hbk, hown, hne⟩ := h
  exact ⟨hB, v, (hb.block b hlt).trans hbk, hown.kept (grown_of_below hb (Nat.le_refl _) none) (by
    rcases h : v.ownBlock with _ | x
    · exact Or.inl rfl
    · exact Or.inr (by simp)), hne⟩

theorem builder_below {T e : TypeId} {B b : Nat} {bs : List Value} {w w' : World} (h : Lib.IsBuilder T e B b bs w) (hb : Below w.heap.size w w') : Lib.IsBuilder T e B b bs w' := by
  rcases h with h | h
  · exact Or.inl (builder_at_below h hb)
  · exact Or.inr (builder_at_below h hb)

theorem list_next (ss : List ByteArray) (k : Nat) (h : k < ss.length) (hs : (Oct.list ss).length ≤ 140737488355328) :
    ∃ x : ByteArray, x = ss[k]'h ∧ (Oct.num ss.length ++ Oct.texts (ss.take k)).length + (Oct.text x.data.toList).length ≤ 140737488355328 ∧ x.size ≤ 9223372036854775000 ∧
      Oct.num ss.length ++ Oct.texts (ss.take (k + 1)) = (Oct.num ss.length ++ Oct.texts (ss.take k)) ++ Oct.text x.data.toList := by
  have e : Oct.texts (ss.take (k + 1)) = Oct.texts (ss.take k) ++ Oct.text (ss[k]'h).data.toList := by
    rw [List.take_succ_eq_append_getElem h, Oct.texts_snoc]
  have hl := Oct.texts_take_le ss (k + 1)
  rw [Oct.list, List.length_append] at hs
  rw [e, List.length_append] at hl
  refine ⟨_, rfl, ?_, ?_, ?_⟩
  · rw [List.length_append]; omega
  · rw [Oct.text, List.length_append, ← Lib.size_eq] at hl; omega
  · rw [e, List.append_assoc]

set_option maxHeartbeats 400000 in
theorem list_walk (A : Option Addr) (cap : Nat) (ss : List ByteArray) (w : World) (hA : Strs w w.heap.size A ss) (hm : ss.length ≤ 9223372036854775807) (hs : (Oct.list ss).length ≤ 140737488355328) :
    Calls Try.prog 21 #[.slice A ss.length cap] w fun e w' => e = .returned (.string ⟨(Oct.list ss).toArray⟩) ∧ Below w.heap.size w w' := by
  go_enter Try.func21, Try.ntmps21
  go_wp2_with fail
  refine (number _ _ (by omega)).mono ?_
  rintro e w' ⟨rfl, hb⟩
  have hfr := builder_below (Lib.fresh_isBuilder 56 5 w) hb
  have hbw : Below w.heap.size w w' := ((Below.refl _ _).alloc (Nat.le_refl _) _).trans (hb.mono (by simp))
  have hsz := hbw.size
  have hn9 : (Oct.num ss.length).length ≤ 9 := (Oct.num_le9 ss.length (by omega)).2
  clear hb
  go_wp2_with fail
  refine (Try.builder_write _ _ _ _ _ hfr (by rw [size_list]; simp; omega) hsz).mono ?_
  rintro e w1 ⟨rfl, hbu, hb1⟩
  have hbw1 := hbw.trans hb1
  clear hb1 hfr hsz hbw
  go_wp2_with fail
  go_loopw [13] (fun i wr => ∃ k : Nat, i = .int .i64 k ∧ k ≤ ss.length ∧ Lib.IsBuilder 56 5 w.heap.size w.heap.size (Lib.byteCells (Oct.num ss.length ++ Oct.texts (ss.take k))) wr ∧ Below w.heap.size w wr)
    (fun i _ => ss.length - (intOf i).toNat)
  case atStart => exact ⟨0, rfl, Nat.zero_le _, Or.inr (by rw [List.take_zero, Oct.texts, List.append_nil]; exact hbu), hbw1⟩
  case round =>
    obtain ⟨k, rfl, hk, hbu2, hb2⟩ := hrel
    have hsz2 := hb2.size
    clear hbu hbw1
    by_cases hlt : k < ss.length
    · obtain ⟨x, hx, hlen, hnext⟩ := list_next ss k hlt hs
      rcases hA with hA | ⟨b, off, rfl, hblt, hc⟩
      · omega
      · have hcell : wr.cell? ⟨b, off + k, none⟩ = some (.string x) := by rw [hx]; exact (hb2.cell (p := ⟨b, off + k, none⟩) hblt).trans (hc k hlt)
        have hxs : x.size ≤ 9223372036854775000 := hnext.1
        have hns := hnext.2
        clear hnext hx hc
        go_wp2_with fail
        refine (text_walk _ _ hxs).mono ?_
        rintro e w2 ⟨rfl, hb3⟩
        have hbu3 := builder_below hbu2 hb3
        have hb4 := hb2.trans (hb3.mono hsz2)
        have hsz4 := hb4.size
        clear hbu2 hb3 hb2 hsz2 hcell
        go_wp2_with fail
        refine (Try.builder_write _ _ _ _ _ hbu3 (by rw [size_list, Lib.byteCells_length]; exact hlen) hsz4).mono ?_
        rintro e w3 ⟨rfl, hbu5, hb5⟩
        go_wp2
        go_roundw
        case rel =>
          refine ⟨k + 1, by go_num, by omega, Or.inr ?_, hb4.trans hb5⟩
          rw [hns, Lib.byteCells_append]
          exact hbu5
        case measure => simp [intOf]; omega
    · go_wp2_with fail
      refine (Try.builder_text _ _ _ _ hbu2 hsz2).mono ?_
      rintro e w2 ⟨rfl, hb3⟩
      go_wp2
      go_ret
      refine ⟨?_, hb2.trans hb3⟩
      rw [Oct.list, List.take_of_length_le (by omega)]
      rfl
end Go.Proofs.Ytjaephhnaocpcaa
