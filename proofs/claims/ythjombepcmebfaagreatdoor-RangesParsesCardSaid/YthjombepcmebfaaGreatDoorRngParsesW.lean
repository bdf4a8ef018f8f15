/- The walk of RangesParses. -/
import Derived.Test.YthjombepcmebfaaGreatDoorGRngC
import Derived.Test.YthjombepcmebfaaGreatDoorRngRParse
namespace Go.Proofs.YthjombepcmebfaaGreatDoor
open Go.RowKit
set_option linter.unusedVariables false

set_option maxRecDepth 100000 in
set_option maxHeartbeats 4000000 in
theorem rngParses_walk (s : ByteArray) (hs : s.size ≤ 140737488351232) (w : World) (hg : RGlobs w) :
    Calls Tryz.prog 3 #[.string s] w fun e w' => e = .returned (.bool true) ∧ Below w.heap.size w w' := by
  by_cases h5 : 5000 < s.size
  · have h5i : (5000 : Int) < (s.size : Int) := by omega
    go_enter Tryz.func3, Tryz.ntmps3
    go_wp2_with fail
    refine (rawake_walk _ hg).mono ?_
    rintro e w1 ⟨rfl, hb⟩
    go_wp2
    go_ret
    exact ⟨rfl, hb⟩
  · have h5i : ¬ (5000 : Int) < (s.size : Int) := by omega
    go_enter Tryz.func3, Tryz.ntmps3
    go_wp2_with fail
    refine (ownParse_walk s hs _ hg).mono ?_
    rintro e w1 ⟨A, c, he, hc, hA, hb1⟩
    have hfew := parse_few s.data.toList
    obtain ⟨z, hz⟩ : ∃ z : Int, z = if (Rng.parse s.data.toList).isSome = true then 0 else 50 := ⟨_, rfl⟩
    obtain ⟨m, hm⟩ : ∃ m, m = (Rng.parse s.data.toList).getD [] := ⟨_, rfl⟩
    rw [← hz, ← hm] at he
    rw [← hm] at hA hc hfew
    subst he
    have HZ := Lib.hid hz
    have HM := Lib.hid hm
    have HA := Lib.hid hA
    clear hz hm hA
    go_wp2_with fail
    refine (rbparse_walk s (by omega) _).mono ?_
    rintro e w2 ⟨B, d, he, hd, hB, hb2⟩
    rw [← HZ.out, ← HM.out] at he
    rw [← HM.out] at hB hd
    subst he
    have HB := Lib.hid hB
    have HA2 := Lib.hid (HA.out.next hb2)
    have hb12 := below_next hb1 hb2
    clear hB hb1 hb2
    go_wp2_with fail
    refine (rsame_walk A B c d m m _ HA2.out HB.out (by omega)).mono ?_
    rintro e w3 ⟨he, hb3⟩
    rw [decide_eq_true rfl] at he
    subst he
    have hb13 := below_next hb12 hb3
    clear hb12 hb3
    go_wp2_with fail
    refine (rawake_walk _ (hg.next hb13)).mono ?_
    rintro e w4 ⟨rfl, hb4⟩
    go_wp2
    go_ret
    exact ⟨rfl, below_next hb13 hb4⟩
end Go.Proofs.YthjombepcmebfaaGreatDoor
