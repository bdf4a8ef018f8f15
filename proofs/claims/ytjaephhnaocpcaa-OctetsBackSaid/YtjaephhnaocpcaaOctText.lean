/- Text, of the program and of the document: a text with its length ahead: Oct.text. -/
import Derived.Test.YtjaephhnaocpcaaOctRTake
namespace Go.Proofs.Ytjaephhnaocpcaa
open Go.RowKit

set_option maxHeartbeats 400000 in
theorem text_walk (s : ByteArray) (w : World) (hs : s.size ≤ 9223372036854775000) :
    Calls Try.prog 17 #[.string s] w fun e w' => e = .returned (.string ⟨(Oct.text s.data.toList).toArray⟩) ∧ Below w.heap.size w w' := by
  have hz := Lib.size_eq s
  have hn9 := (Oct.num_le9 s.size (by omega)).2
  have hcat : (⟨(Oct.num s.size).toArray⟩ : ByteArray) ++ s = ⟨(Oct.text s.data.toList).toArray⟩ := by
    rw [Oct.text, ← hz]
    exact Oct.ba_append (Oct.num s.size) s.data.toList
  have HC := Lib.hid hcat
  clear hcat hz
  go_enter Try.func17, Try.ntmps17
  go_wp2_with fail
  refine (number _ _ (by omega)).mono ?_
  rintro e w' ⟨rfl, hb⟩
  go_wp2
  go_ret
  refine ⟨?_, hb⟩
  rw [← HC.out]
  rfl

set_option maxHeartbeats 400000 in
theorem rtext_walk (s : ByteArray) (w : World) (hs : s.size ≤ 9223372036854775000) :
    Calls Try.prog 18 #[.string s] w fun e w' => e = .returned (.string ⟨(Oct.text s.data.toList).toArray⟩) ∧ Below w.heap.size w w' := by
  have hz := Lib.size_eq s
  have hn9 := (Oct.num_le9 s.size (by omega)).2
  have hcat : (⟨(Oct.num s.size).toArray⟩ : ByteArray) ++ s = ⟨(Oct.text s.data.toList).toArray⟩ := by
    rw [Oct.text, ← hz]
    exact Oct.ba_append (Oct.num s.size) s.data.toList
  have HC := Lib.hid hcat
  clear hcat hz
  go_enter Try.func18, Try.ntmps18
  go_wp2_with fail
  refine (rnumber _ _ (by omega)).mono ?_
  rintro e w' ⟨rfl, hb⟩
  go_wp2
  go_ret
  refine ⟨?_, hb⟩
  rw [← HC.out]
  rfl
end Go.Proofs.Ytjaephhnaocpcaa
