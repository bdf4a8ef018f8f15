/- The walk of RangesNormals. -/
import Derived.Test.YthjombepcmebfaaGreatDoorGRngC
import Derived.Test.YthjombepcmebfaaGreatDoorRngRNormal
namespace Go.Proofs.YthjombepcmebfaaGreatDoor
open Go.RowKit
set_option linter.unusedVariables false

set_option maxRecDepth 100000 in
set_option maxHeartbeats 4000000 in
theorem rngNormals_walk (A : Option Addr) (cap : Nat) (ls : List Row) (w : World) (hA : Bdss w w.heap.size A ls) (hg : RGlobs w) :
    Calls Tryz.prog 6 #[.slice A ls.length cap] w fun e w' => e = .returned (.bool true) ∧ Below w.heap.size w w' := by
  have HA := Lib.hid hA
  clear hA
  go_enter Tryz.func6, Tryz.ntmps6
  go_wp2_with fail
  refine (light_walk A cap ls _ HA.out).mono ?_
  rintro e w1 ⟨he, rfl⟩
  cases hL : light ls
  · rw [hL] at he
    subst he
    go_wp2_with fail
    refine (rawake_walk _ hg).mono ?_
    rintro e w1 ⟨rfl, hb⟩
    go_wp2
    go_ret
    exact ⟨rfl, hb⟩
  · rw [hL] at he
    subst he
    obtain ⟨hl20, hrows⟩ := (light_iff ls).1 hL
    have hfs := flat_short (fun r hr => (hrows r hr).1)
    have hfl : (flat ls).length ≤ 1200 := by omega
    have HP : Hid (∀ r ∈ ls, ∀ b ∈ r.l, b.v.pre.length ≤ 1000000) := Lib.hid (fun r hr b hb => Nat.le_trans ((hrows r hr).2 b hb) (by decide))
    have HR : Hid (∀ r ∈ ls, r.l.length ≤ 1000000) := Lib.hid (fun r hr => Nat.le_trans (hrows r hr).1 (by decide))
    clear hL hrows hfs
    go_wp2_with fail
    refine (normal_walk A cap ls _ HA.out (by omega) HR.out HP.out).mono ?_
    rintro e w2 ⟨B, c, rfl, hc, hB, hb2⟩
    have HB := Lib.hid hB
    have HA2 := Lib.hid (HA.out.keep hb2 (Nat.le_refl _))
    have hnl := Rng.normal_len (flat ls)
    clear hB
    go_wp2_with fail
    refine (rnormal_walk A cap ls _ ⟨by
      rcases HA2.out.1 with h | ⟨g, off, h1, h2, h3⟩
      · exact Or.inl h
      · exact Or.inr ⟨g, off, h1, Nat.lt_of_lt_of_le h2 hb2.size, h3⟩, fun r hr => ⟨(HA2.out.2 r hr).1.more hb2.size, (HA2.out.2 r hr).2⟩⟩ (by omega) (by omega) HP.out).mono ?_
    rintro e w3 ⟨D, d, rfl, hd, hD, hb3⟩
    have HD := Lib.hid hD
    have HB3 := Lib.hid (HB.out.next hb3)
    have hb13 := below_next hb2 hb3
    clear hD hb2 hb3
    go_wp2_with fail
    refine (rsame_walk B D c d _ _ _ HB3.out HD.out (by omega)).mono ?_
    rintro e w4 ⟨he, hb4⟩
    rw [decide_eq_true rfl] at he
    subst he
    have hb14 := below_next hb13 hb4
    clear hb13 hb4
    go_wp2_with fail
    refine (rawake_walk _ (hg.next hb14)).mono ?_
    rintro e w5 ⟨rfl, hb5⟩
    go_wp2
    go_ret
    exact ⟨rfl, below_next hb14 hb5⟩
end Go.Proofs.YthjombepcmebfaaGreatDoor
