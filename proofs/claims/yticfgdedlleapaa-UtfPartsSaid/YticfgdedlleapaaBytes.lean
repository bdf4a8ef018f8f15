/- Rows of bytes that the call made, turned into texts. -/
import Derived.Test.YticfgdedlleapaaBase
import Derived.Laws.BytesArg
import Derived.Lib.UnsafeStr
namespace Go.Proofs.Yticfgdedlleapaa
open Go.RowKit

/-- A row of bytes that the call itself made, turned into a text. -/
theorem conv_own {w : World} {B n : Nat} {v : Value} {l : List UInt8} (h : w.ownsRow B 5 1 v n (Lib.byteCells l)) :
    (convert 46 9 v).run Try.prog w = .ok (.string ⟨l.toArray⟩) w := by
  have hlen := h.1
  rw [Lib.byteCells_length, Nat.mul_one] at hlen
  rcases h.2 with ⟨rfl, rfl⟩ | ⟨g, cap, cur, rfl, _, hh, _⟩
  · have : l = [] := List.eq_nil_of_length_eq_zero hlen
    subst this
    exact run_convert_bytes_nil w 46 5 Try.underlying46 Try.underlying5 0 0 9 Try.underlying9
  · have hr := run_convert_bytes_arg (P := Try.prog) w 46 5 Try.underlying46 Try.underlying5 g 0 n cap (l.map fun b => (b.toNat : Int)) (by simpa using hlen) (fun i hi => by
        have hc := h.cellAt i (by omega)
        rw [Nat.zero_add, hc, Lib.byteCells]
        have hi' : i < l.length := by omega
        simp [hi']) 9 Try.underlying9
    rw [hr]
    have e : strOfNums (l.map fun b => (b.toNat : Int)) = ⟨l.toArray⟩ := by
      unfold strOfNums
      rw [List.map_map]
      congr 2
      conv => rhs; rw [← List.map_id l]
      apply List.map_congr_left
      intro b _
      simp
    rw [e]

theorem ret_str {a b : List UInt8} (h : a = b) : Ending.returned (.string ⟨a.toArray⟩) = .returned (.string ⟨b.toArray⟩) := by rw [h]

theorem ofNat_u8 (n : Nat) : ((UInt8.ofNat n).toNat : Int) = (n : Int) % 256 := by simp

/-- 'string([]byte{b})' at a new row of one byte. -/
theorem conv_cell (w : World) (b : UInt8) {x : Int} (h : x = b.toNat) :
    (convert 46 9 (.slice (some ⟨w.heap.size, 0, none⟩) 1 1)).run Try.prog (w.alloc (.cells #[.int .u8 x] 5)) = .ok (.string ⟨[b].toArray⟩) (w.alloc (.cells #[.int .u8 x] 5)) := by
  subst h
  exact conv_own (World.ownsRow_lit (base := w.heap.size) (e := 5) (size := 1) w #[Value.int .u8 b.toNat] 1 (Nat.le_refl _) (by simp [maxLen]) rfl)

theorem ba_append (a b : List UInt8) : (⟨a.toArray⟩ : ByteArray) ++ ⟨b.toArray⟩ = ⟨(a ++ b).toArray⟩ := by
  apply ByteArray.ext
  simp [ByteArray.data_append]

/-- 'string([]byte{..})' at a new row of bytes. -/
theorem conv_cells (w : World) (l : List UInt8) {cs : Array Value} {n : Nat} (h : cs.toList = Lib.byteCells l) (hn : n = l.length) (hl : l.length ≤ 1000) :
    (convert 46 9 (.slice (some ⟨w.heap.size, 0, none⟩) n n)).run Try.prog (w.alloc (.cells cs 5)) = .ok (.string ⟨l.toArray⟩) (w.alloc (.cells cs 5)) := by
  subst hn
  have hz : cs.size = l.length := by rw [← Array.length_toList, h, Lib.byteCells_length]
  have := World.ownsRow_lit (base := w.heap.size) (e := 5) (size := 1) w cs l.length (Nat.le_refl _) (by unfold maxLen; omega) (by omega)
  rw [h] at this
  exact conv_own this
end Go.Proofs.Yticfgdedlleapaa
