/- The walk of LexWords. -/
import Derived.Test.YtebphmkefpaeaaaGreatDoorLexAwake
namespace Go.Proofs.YtebphmkefpaeaaaGreatDoor
open Go.RowKit
set_option linter.unusedVariables false

set_option maxRecDepth 100000 in
set_option maxHeartbeats 4000000 in
theorem words_walk (l : List UInt8) (hl : l.length ≤ 140737488351232) (w : World) (hg : Globs w) :
    Calls Tryz.prog 3 #[.string ⟨l.toArray⟩] w fun e w' => e = .returned (.bool true) ∧ Below w.heap.size w w' := by
  have HG := Lib.hid hg
  have b1 : (Lex.isWord l == Lex.isWord l) = true := by simp
  have b2 : (Lex.isSign l == Lex.isSign l) = true := by simp
  have b3 : (Lex.isName l == Lex.isName l) = true := by simp
  have b4 : (Lex.isUpper l == Lex.isUpper l) = true := by simp
  clear hg
  go_enter Tryz.func3, Tryz.ntmps3
  go_wp2_with fail
  refine (oword_walk l _).mono ?_
  rintro e w1 ⟨rfl, rfl⟩
  go_wp2_with fail
  refine (lword_walk l _).mono ?_
  rintro e w2 ⟨rfl, hb2⟩
  have HB2 := Lib.hid hb2
  clear hb2
  go_wp2_with fail
  refine (osign_walk l _).mono ?_
  rintro e w1 ⟨rfl, rfl⟩
  go_wp2_with fail
  refine (lsign_walk l _).mono ?_
  rintro e w3 ⟨rfl, hb3⟩
  have HB3 := Lib.hid (below_next HB2.out hb3)
  clear hb3
  go_wp2_with fail
  refine (oname_walk l (by omega) _).mono ?_
  rintro e w1 ⟨rfl, rfl⟩
  go_wp2_with fail
  refine (lname_walk l (by omega) _).mono ?_
  rintro e w4 ⟨rfl, hb4⟩
  have HB4 := Lib.hid (below_next HB3.out hb4)
  clear hb4
  go_wp2_with fail
  refine (oupper_walk l (by omega) _).mono ?_
  rintro e w1 ⟨rfl, rfl⟩
  go_wp2_with fail
  refine (lupper_walk l (by omega) _).mono ?_
  rintro e w5 ⟨rfl, hb5⟩
  have HB5 := Lib.hid (below_next HB4.out hb5)
  clear hb5
  go_wp2_with fail
  refine (awake_walk _ (HG.out.next HB5.out)).mono ?_
  rintro e w6 ⟨rfl, hb6⟩
  go_wp2
  go_ret
  exact ⟨rfl, below_next HB5.out hb6⟩

theorem lexWords_walk (s : ByteArray) (hs : s.size ≤ 140737488351232) (w : World) (hg : Globs w) :
    Calls Tryz.prog 3 #[.string s] w fun e w' => e = .returned (.bool true) ∧ Below w.heap.size w w' := by
  have h := words_walk s.data.toList (by rw [← Lib.size_eq]; exact hs) w hg
  rw [← tx_of s] at h
  exact h
end Go.Proofs.YtebphmkefpaeaaaGreatDoor
