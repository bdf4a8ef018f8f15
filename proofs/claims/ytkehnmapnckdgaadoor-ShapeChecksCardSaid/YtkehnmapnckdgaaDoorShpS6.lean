/- A few steps of insertion, to see whether it is in order already. -/
import Derived.Test.YtkehnmapnckdgaaDoorGS0
import Derived.Deep.CutBlock
import Derived.Deep.DeepCutAuto
namespace Go.Proofs.YtkehnmapnckdgaaDoor
open Go.RowKit Go.Sort
set_option linter.unusedVariables false
variable {α : Type} [Inhabited α] {N B : Nat} {rv : Value} {lt : α → α → Bool} {St : Array α → World → Prop}

set_option maxHeartbeats 12800000 in
set_option maxRecDepth 100000 in
theorem spi_walk (H : Srt N B rv lt St) (a b : Nat) (d : Array α) (w : World) (hH : St d w) (hab : a < b) (hb : b ≤ N) :
    Calls Tryd.prog 88 #[.iface 53 rv, .int .i64 a, .int .i64 b] w fun e w' =>
      e = .returned (.bool (Sort.partialInsertionSort lt d a b).2) ∧ St (Sort.partialInsertionSort lt d a b).1 w' := by
  have mL := H.mL
  have mS := H.mS
  have hbig := H.big
  go_enter Tryd.func88, Tryd.ntmps88
  go_wp2_with fail
  go_loopw [7, 8] (fun vi vs wr => ∃ (i s : Nat) (dk : Array α), vi = .int .i64 i ∧ vs = .int .i64 s ∧ s ≤ 5 ∧ a < i ∧ i ≤ b ∧ St dk wr ∧ Hid (partialIns lt a b (5 - s) i dk = partialIns lt a b 5 (a + 1) d)) (fun _ vs _ => 5 - (intOf vs).toNat)
  case atStart => exact ⟨a + 1, 0, d, by go_num, rfl, by omega, by omega, by omega, hH, rfl⟩
  case round =>
    clear hH
    obtain ⟨i, s, dk, rfl, rfl, hs5, hai, hib, hS, HO⟩ := hrel
    by_cases hs : s < 5
    · go_upto_block 2 with fail
      (try rw [decide_eq_true (show (s : Int) < 5 by omega)])
      go_cut [7] (fun p wx => ∃ k : Nat, p = .int .i64 k ∧ i ≤ k ∧ k ≤ b ∧ St dk wx ∧ Hid (scanSorted lt dk b i = k))
      case first =>
        go_wp2_with fail
        go_loopw [7] (fun vi w1 => ∃ k : Nat, vi = .int .i64 k ∧ i ≤ k ∧ k ≤ b ∧ St dk w1 ∧ Hid (scanSorted lt dk b i = scanSorted lt dk b k)) (fun vi _ => b - (intOf vi).toNat)
        case atStart => exact ⟨i, rfl, Nat.le_refl _, hib, hS, rfl⟩
        case round =>
          clear hS
          obtain ⟨k, rfl, hik, hkb, hS, hsc⟩ := hrel
          by_cases hlt : k < b
          · cases hlv : lt dk[k]! dk[k - 1]! with
            | false =>
              go_wp2_with fail
              refine (H.lessAt hS k (k - 1) hlv (by omega) (by omega) (by omega) (by omega)).mono ?_
              rintro e w' ⟨rfl, hS1, -⟩
              go_wp2_with fail
              go_roundw
              case rel => exact ⟨k + 1, by go_num, by omega, by omega, hS1, (show Hid _ from hsc.out.trans (scanSorted_go lt dk b k hlt hlv))⟩
              case measure => simp [intOf]; omega
            | true =>
              go_wp2_with fail
              refine (H.lessAt hS k (k - 1) hlv (by omega) (by omega) (by omega) (by omega)).mono ?_
              rintro e w' ⟨rfl, hS1, -⟩
              go_wp2_with fail
              go_meet
              exact ⟨k, rfl, hik, hkb, hS1, (show Hid _ from hsc.out.trans (scanSorted_stop lt dk b k (Or.inr hlv)))⟩
          · go_wp2_with fail
            go_meet
            exact ⟨k, rfl, hik, hkb, hS, (show Hid _ from hsc.out.trans (scanSorted_stop lt dk b k (Or.inl hlt)))⟩
      case rest =>
        clear hS
        obtain ⟨k, rfl, hik, hkb, hS, HK⟩ := hcut
        by_cases hkb' : k = b
        · have hx := HO.out.symm.trans (pi_true lt a b s i dk hs (by rw [HK.out, hkb']))
          have HX : Hid _ := hx
          clear hx
          subst hkb'
          go_wp2_with fail
          go_ret
          unfold Sort.partialInsertionSort
          rw [HX.out]
          exact ⟨rfl, hS⟩
        · by_cases h50 : b - a < 50
          · have hx := HO.out.symm.trans (pi_short lt a b s i dk hs (by rw [HK.out]; exact hkb') h50)
            have HX : Hid _ := hx
            clear hx
            have h50z : (b : Int) - (a : Int) < 50 := by omega
            go_wp2_with fail
            go_ret
            unfold Sort.partialInsertionSort
            rw [HX.out]
            exact ⟨rfl, hS⟩
          · have hx := HO.out.symm.trans (pi_go lt a b s i k dk hs HK.out hkb' h50)
            have HX : Hid _ := hx
            clear hx HO HK
            have h50z : ¬ (b : Int) - (a : Int) < 50 := by omega
            go_wp2_with fail
            refine (H.swapAt hS k (k - 1) (by omega) (by omega) (by omega) (by omega)).mono ?_
            rintro e w1 ⟨rfl, hS1, -⟩
            obtain ⟨d1, hd1⟩ : ∃ d1 : Array α, d1 = swp dk k (k - 1) := ⟨_, rfl⟩
            rw [← hd1] at hS1 HX
            clear hS hd1
            go_upto_if 45 with fail
            go_cut [9] (fun p wx => St (fixDown lt a k d1) wx)
            case first =>
              clear HX
              by_cases h2 : k - a ≥ 2
              · have h2z : (2 : Int) ≤ (k : Int) - (a : Int) := by omega
                go_wp2_with fail
                (try rw [decide_eq_true h2z])
                go_loopw [9] (fun vj w1 => ∃ (j : Nat) (dj : Array α), vj = .int .i64 j ∧ j < k ∧ St dj w1 ∧ Hid (shiftDown lt j dj = fixDown lt a k d1)) (fun vj _ => (intOf vj).toNat)
                case atStart => exact ⟨k - 1, d1, by go_num, by omega, hS1, (show Hid _ from by unfold fixDown; rw [if_pos h2]; rfl)⟩
                case round =>
                  clear hS1
                  obtain ⟨j, dj, rfl, hjk, hS, HJ⟩ := hrel
                  by_cases hj : 1 ≤ j
                  · cases hlv : lt dj[j]! dj[j - 1]! with
                    | true =>
                      go_wp2_with fail
                      refine (H.lessAt hS j (j - 1) hlv (by omega) (by omega) (by omega) (by omega)).mono ?_
                      rintro e w' ⟨rfl, hS1, -⟩
                      go_wp2_with fail
                      refine (H.swapAt hS1 j (j - 1) (by omega) (by omega) (by omega) (by omega)).mono ?_
                      rintro e w2 ⟨rfl, hS2, -⟩
                      go_wp2_with fail
                      go_roundw
                      case rel => exact ⟨j - 1, _, by go_num, by omega, hS2, (show Hid _ from (shiftDown_go lt j dj hj hlv).symm.trans HJ.out)⟩
                      case measure => simp [intOf]; omega
                    | false =>
                      go_wp2_with fail
                      refine (H.lessAt hS j (j - 1) hlv (by omega) (by omega) (by omega) (by omega)).mono ?_
                      rintro e w' ⟨rfl, hS1, -⟩
                      go_wp2_with fail
                      go_meet
                      rw [← HJ.out, shiftDown_stop lt j dj (Or.inr hlv)]
                      exact hS1
                  · go_wp2_with fail
                    go_meet
                    rw [← HJ.out, shiftDown_stop lt j dj (Or.inl (by omega))]
                    exact hS
              · have h2z : ¬ (2 : Int) ≤ (k : Int) - (a : Int) := by omega
                go_wp2_with fail
                go_meet
                unfold fixDown
                rw [if_neg h2]
                exact hS1
            case rest =>
              clear hS1
              generalize fixDown lt a k d1 = d2 at hcut HX
              rename_i hS1
              have END : ∀ d3 wx, St d3 wx → d3 = fixUp lt b k d2 → ∃ (i' s' : Nat) (dk' : Array α), Value.int .i64 (k : Int) = .int .i64 (i' : Nat) ∧ Value.int .i64 ((s : Int) + 1) = .int .i64 (s' : Nat) ∧ s' ≤ 5 ∧ a < i' ∧ i' ≤ b ∧ St dk' wx ∧ Hid (partialIns lt a b (5 - s') i' dk' = partialIns lt a b 5 (a + 1) d) :=
                fun d3 wx h3 e3 => ⟨k, s + 1, d3, rfl, by go_num, by omega, by omega, by omega, h3, by rw [e3]; exact HX.out.symm⟩
              have HE : Hid _ := END
              clear END
              by_cases h2 : b - k ≥ 2
              · have h2z : (2 : Int) ≤ (b : Int) - (k : Int) := by omega
                go_wp2_with fail
                (try rw [decide_eq_true h2z])
                go_loopw [10] (fun vj w1 => ∃ (j : Nat) (dj : Array α), vj = .int .i64 j ∧ k < j ∧ j ≤ b ∧ St dj w1 ∧ Hid (shiftUp lt b j dj = fixUp lt b k d2)) (fun vj _ => b - (intOf vj).toNat)
                case atStart => exact ⟨k + 1, d2, by go_num, by omega, by omega, hcut, (show Hid _ from by unfold fixUp; rw [if_pos h2]; rfl)⟩
                case round =>
                  clear hcut
                  obtain ⟨j, dj, rfl, hkj, hjb, hS, HJ⟩ := hrel
                  by_cases hj : j < b
                  · cases hlv : lt dj[j]! dj[j - 1]! with
                    | true =>
                      go_wp2_with fail
                      refine (H.lessAt hS j (j - 1) hlv (by omega) (by omega) (by omega) (by omega)).mono ?_
                      rintro e w' ⟨rfl, hS1, -⟩
                      go_wp2_with fail
                      refine (H.swapAt hS1 j (j - 1) (by omega) (by omega) (by omega) (by omega)).mono ?_
                      rintro e w2 ⟨rfl, hS2, -⟩
                      go_wp2_with fail
                      go_roundw
                      case rel => exact ⟨j + 1, _, by go_num, by omega, by omega, hS2, (show Hid _ from (shiftUp_go lt b j dj hj hlv).symm.trans HJ.out)⟩
                      case measure => simp [intOf]; omega
                    | false =>
                      go_wp2_with fail
                      refine (H.lessAt hS j (j - 1) hlv (by omega) (by omega) (by omega) (by omega)).mono ?_
                      rintro e w' ⟨rfl, hS1, -⟩
                      go_wp2_with fail
                      go_roundw
                      case rel => exact HE.out dj _ hS1 (by rw [← HJ.out, shiftUp_stop lt b j dj (Or.inr hlv)])
                      case measure => simp [intOf]; omega
                  · go_wp2_with fail
                    go_roundw
                    case rel => exact HE.out dj _ hS (by rw [← HJ.out, shiftUp_stop lt b j dj (Or.inl hj)])
                    case measure => simp [intOf]; omega
              · have h2z : ¬ (2 : Int) ≤ (b : Int) - (k : Int) := by omega
                go_wp2_with fail
                go_roundw
                case rel => exact HE.out d2 _ hcut (by unfold fixUp; rw [if_neg h2])
                case measure => simp [intOf]; omega
    · have hx : s = 5 := by omega
      subst hx
      have HX : Hid _ := HO.out.symm.trans (pi_end lt a b i dk)
      clear HO
      go_wp2_with fail
      go_ret
      unfold Sort.partialInsertionSort
      rw [HX.out]
      exact ⟨rfl, hS⟩
end Go.Proofs.YtkehnmapnckdgaaDoor
