/- Texts as lists of bytes: one behind the other, cut, as results. -/
import Derived.Test.YtifblpbikngjeaaDoorBase
import Derived.Lib.Strings
namespace Go.Proofs.YtifblpbikngjeaaDoor
open Go.RowKit

theorem tx_append (a b : List UInt8) : (⟨a.toArray⟩ : ByteArray) ++ ⟨b.toArray⟩ = ⟨(a ++ b).toArray⟩ := by
  apply ByteArray.ext
  simp [ByteArray.data_append]

theorem tx_data (a b : ByteArray) : (a ++ b).data.toList = a.data.toList ++ b.data.toList := by
  simp [ByteArray.data_append]

theorem tx_of (s : ByteArray) : s = ⟨s.data.toList.toArray⟩ := by
  apply ByteArray.ext
  simp

theorem tx_list (s : ByteArray) : s.toList = s.data.toList := by
  conv => lhs; rw [tx_of s]
  rw [ByteArray.toList_mk]

theorem tx_ret {a b : List UInt8} (h : a = b) : Ending.returned (.string ⟨a.toArray⟩) = .returned (.string ⟨b.toArray⟩) := by rw [h]

theorem tx_get (s : ByteArray) (i : Nat) (h : i < s.size) (h' : i < s.data.toList.length) : s[i]'h = s.data.toList[i]'h' := rfl
end Go.Proofs.YtifblpbikngjeaaDoor
