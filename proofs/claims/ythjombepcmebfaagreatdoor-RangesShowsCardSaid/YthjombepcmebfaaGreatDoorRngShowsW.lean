/- The walk of RangesShows. -/
import Derived.Test.YthjombepcmebfaaGreatDoorGRngC
namespace Go.Proofs.YthjombepcmebfaaGreatDoor
open Go.RowKit
set_option linter.unusedVariables false

set_option maxRecDepth 100000 in
set_option maxHeartbeats 4000000 in
theorem rngShows_walk (A : Option Addr) (cap : Nat) (l : List Rng.Bd) (w : World) (hA : Bds w w.heap.size A l) (hcap : l.length ≤ cap) (hg : RGlobs w) :
    Calls Tryz.prog 4 #[.slice A l.length cap] w fun e w' => e = .returned (.bool true) ∧ Below w.heap.size w w' := by
  have HA := Lib.hid hA
  have hls := bdss_made w [⟨A, l, cap⟩] _ rfl (fun r hr => by
    obtain rfl : r = ⟨A, l, cap⟩ := by simpa using hr
    exact ⟨hA, hcap⟩)
  have HLS : Hid (Bdss (w.alloc (.cells #[.slice A l.length cap] 23)) (w.alloc (.cells #[.slice A l.length cap] 23)).heap.size (some ⟨w.heap.size, 0, none⟩) [⟨A, l, cap⟩]) := Lib.hid hls
  have hb1 := below_one w (.cells #[.slice A l.length cap] 23)
  clear hA hls
  have hone : ([⟨A, l, cap⟩] : List Row).length = 1 := rfl
  go_enter Tryz.func4, Tryz.ntmps4
  go_wp2_with fail
  refine (light_walk (some ⟨w.heap.size, 0, none⟩) 1 [⟨A, l, cap⟩] _ HLS.out).mono ?_
  rintro e w1 ⟨he, rfl⟩
  have HG1 := Lib.hid (hg.next hb1)
  cases hL : light [⟨A, l, cap⟩]
  · rw [hL] at he
    subst he
    go_wp2_with fail
    refine (rawake_walk _ HG1.out).mono ?_
    rintro e w1 ⟨rfl, hb⟩
    go_wp2
    go_ret
    exact ⟨rfl, below_next hb1 hb⟩
  · rw [hL] at he
    subst he
    obtain ⟨hl60, hpre⟩ := light_one hL
    have HP : Hid (∀ b ∈ l, b.v.pre.length ≤ 9223372036854775807) := Lib.hid (fun b hb => Nat.le_trans (hpre b hb) (by decide))
    have HA1 := Lib.hid (HA.out.next hb1)
    clear hL hpre HLS
    simp only at hl60
    have hsb : ∃ (S : List UInt8) (E : Int), showB l = .tuple #[.string ⟨S.toArray⟩, .int .i64 E] := by
      unfold showB
      split
      · exact ⟨_, _, rfl⟩
      · exact ⟨[], 50, rfl⟩
    obtain ⟨S, E, hsb⟩ := hsb
    have HSB := Lib.hid hsb
    clear hsb
    go_wp2_with fail
    refine (bshow_walk A cap l _ HA1.out HP.out HG1.out).mono ?_
    rintro e w2 ⟨he, hb2⟩
    rw [HSB.out] at he
    subst he
    have HA2 := Lib.hid (HA1.out.next hb2)
    have hb12 := below_next hb1 hb2
    have HG2 := Lib.hid (HG1.out.next hb2)
    clear hb1 hb2
    go_wp2_with fail
    refine (rbshow_walk A cap l _ HA2.out HP.out).mono ?_
    rintro e w3 ⟨he, hb3⟩
    rw [HSB.out] at he
    subst he
    have HA3 := Lib.hid (HA2.out.next hb3)
    have hb13 := below_next hb12 hb3
    have HG3 := Lib.hid (HG2.out.next hb3)
    clear hb12 hb3
    go_wp2_with fail
    refine (bcheck_walk A cap l _ HA3.out HP.out).mono ?_
    rintro e w4 ⟨he, hb4⟩
    have HA4 := Lib.hid (HA3.out.next hb4)
    have hb14 := below_next hb13 hb4
    have HG4 := Lib.hid (HG3.out.next hb4)
    obtain ⟨k, hk⟩ : ∃ k, k = chkB l := ⟨_, rfl⟩
    have HK := Lib.hid hk
    rw [← hk] at he
    subst he
    clear hb13 hb4 hk
    go_wp2_with fail
    refine (rbcheck_walk A cap l _ HA4.out HP.out).mono ?_
    rintro e w5 ⟨he, hb5⟩
    rw [← HK.out] at he
    subst he
    have hb15 := below_next hb14 hb5
    have HG5 := Lib.hid (HG4.out.next hb5)
    clear hb14 hb5
    go_wp2_with fail
    refine (rawake_walk _ HG5.out).mono ?_
    rintro e w6 ⟨rfl, hb6⟩
    go_wp2
    go_ret
    exact ⟨rfl, below_next hb15 hb6⟩
end Go.Proofs.YthjombepcmebfaaGreatDoor
