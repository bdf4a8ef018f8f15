/- Parting round one of them. -/
import Derived.Test.YtkehnmapnckdgaaDoorGS0
import Derived.Deep.CutBlock
import Derived.Deep.DeepCutAuto
namespace Go.Proofs.YtkehnmapnckdgaaDoor
open Go.RowKit Go.Sort
set_option linter.unusedVariables false
variable {α : Type} [Inhabited α] {N B : Nat} {rv : Value} {lt : α → α → Bool} {St : Array α → World → Prop}

set_option maxHeartbeats 12800000 in
set_option maxRecDepth 100000 in
theorem spart_walk (H : Srt N B rv lt St) (a b pivot : Nat) (d : Array α) (w : World) (hH : St d w) (hap : a ≤ pivot) (hpb : pivot < b) (hb : b ≤ N) :
    Calls Tryd.prog 90 #[.iface 53 rv, .int .i64 a, .int .i64 b, .int .i64 pivot] w fun e w' =>
      e = .returned (.tuple #[.int .i64 (Sort.partition lt d a b pivot).1, .bool (Sort.partition lt d a b pivot).2.1]) ∧ St (Sort.partition lt d a b pivot).2.2 w' := by
  have mL := H.mL
  have mS := H.mS
  have hbig := H.big
  obtain ⟨i, hi⟩ : ∃ i : Nat, i = a + 1 := ⟨_, rfl⟩
  obtain ⟨j, hj⟩ : ∃ j : Nat, j = b - 1 := ⟨_, rfl⟩
  obtain ⟨dk, hdk⟩ : ∃ dk : Array α, dk = Sort.swp d a pivot := ⟨_, rfl⟩
  have eI : (a : Int) + 1 = (i : Int) := by omega
  have eJ : (b : Int) - 1 = (j : Int) := by omega
  have hai : a < i := by omega
  have hij : i ≤ j + 1 := by omega
  have hjb : j < b := by omega
  have HI0 : Hid (i = a + 1) := hi
  have HJ0 : Hid (j = b - 1) := hj
  have HD0 : Hid (dk = Sort.swp d a pivot) := hdk
  clear hi hj
  go_enter Tryd.func90, Tryd.ntmps90
  go_wp2_with fail
  refine (H.swapAt hH a pivot (by omega) (by omega) rfl rfl).mono ?_
  rintro e w1 ⟨rfl, hS, -⟩
  rw [← hdk] at hS
  clear hH hdk
  go_upto_block 0 with fail
  go_cut [10] (fun p wx => ∃ i2 : Nat, p = .int .i64 i2 ∧ i ≤ i2 ∧ i2 ≤ j + 1 ∧ St dk wx ∧ Hid (i2 = Sort.scanUp (fun x => lt x dk[a]!) dk j i))
  case first =>
    go_wp2_with fail
    go_loopw [10] (fun vi w1 => ∃ i' : Nat, vi = .int .i64 i' ∧ i ≤ i' ∧ i' ≤ j + 1 ∧ St dk w1 ∧ Hid (Sort.scanUp (fun x => lt x dk[a]!) dk j i' = Sort.scanUp (fun x => lt x dk[a]!) dk j i)) (fun vi _ => j + 1 - (intOf vi).toNat)
    case atStart => exact ⟨i, rfl, Nat.le_refl _, by omega, hS, rfl⟩
    case round =>
      clear hS
      obtain ⟨i', rfl, hii, hij', hS, hsc⟩ := hrel
      by_cases hle : i' ≤ j
      · cases hlv : lt dk[i']! dk[a]! with
        | true =>
          go_wp2_with fail
          refine (H.lessAt hS i' a hlv (by omega) (by omega) rfl rfl).mono ?_
          rintro e w' ⟨rfl, hS1, -⟩
          go_wp2_with fail
          go_roundw
          case rel => exact ⟨i' + 1, by go_num, by omega, by omega, hS1, (show Hid _ from (scanUp_go (fun x => lt x dk[a]!) dk j i' hle (by simp [hlv])).symm.trans hsc.out)⟩
          case measure => simp [intOf]; omega
        | false =>
          go_wp2_with fail
          refine (H.lessAt hS i' a hlv (by omega) (by omega) rfl rfl).mono ?_
          rintro e w' ⟨rfl, hS1, -⟩
          go_wp2_with fail
          go_meet
          exact ⟨i', rfl, hii, hij', hS1, (show Hid _ from (scanUp_end (fun x => lt x dk[a]!) dk j i' (Or.inr (by simp [hlv]))).symm.trans hsc.out)⟩
      · go_wp2_with fail
        go_meet
        exact ⟨i', rfl, hii, hij', hS, (show Hid _ from (scanUp_end (fun x => lt x dk[a]!) dk j i' (Or.inl hle)).symm.trans hsc.out)⟩
  case rest =>
    clear hS
    obtain ⟨i2, rfl, hi2, hi2j, hS, HI⟩ := hcut
    go_upto_block 2 with fail
    go_cut [11] (fun p wx => ∃ j2 : Nat, p = .int .i64 j2 ∧ j2 ≤ j ∧ i2 ≤ j2 + 1 ∧ St dk wx ∧ Hid (j2 = Sort.scanDown (fun x => !lt x dk[a]!) dk i2 j))
    case first =>
      go_wp2_with fail
      go_loopw [11] (fun vj w1 => ∃ j' : Nat, vj = .int .i64 j' ∧ j' ≤ j ∧ i2 ≤ j' + 1 ∧ St dk w1 ∧ Hid (Sort.scanDown (fun x => !lt x dk[a]!) dk i2 j' = Sort.scanDown (fun x => !lt x dk[a]!) dk i2 j)) (fun vj _ => (intOf vj).toNat)
      case atStart => exact ⟨j, rfl, Nat.le_refl _, by omega, hS, rfl⟩
      case round =>
        clear hS
        obtain ⟨j', rfl, hjj, hij', hS, hsc⟩ := hrel
        by_cases hle : i2 ≤ j'
        · cases hlv : lt dk[j']! dk[a]! with
          | false =>
            go_wp2_with fail
            refine (H.lessAt hS j' a hlv (by omega) (by omega) rfl rfl).mono ?_
            rintro e w' ⟨rfl, hS1, -⟩
            go_wp2_with fail
            go_roundw
            case rel => exact ⟨j' - 1, by go_num, by omega, by omega, hS1, (show Hid _ from (scanDown_go (fun x => !lt x dk[a]!) dk i2 j' hle (by omega) (by simp [hlv])).symm.trans hsc.out)⟩
            case measure => simp [intOf]; omega
          | true =>
            go_wp2_with fail
            refine (H.lessAt hS j' a hlv (by omega) (by omega) rfl rfl).mono ?_
            rintro e w' ⟨rfl, hS1, -⟩
            go_wp2_with fail
            go_meet
            exact ⟨j', rfl, hjj, hij', hS1, (show Hid _ from (scanDown_end (fun x => !lt x dk[a]!) dk i2 j' (Or.inr (by simp [hlv]))).symm.trans hsc.out)⟩
        · go_wp2_with fail
          go_meet
          exact ⟨j', rfl, hjj, hij', hS, (show Hid _ from (scanDown_end (fun x => !lt x dk[a]!) dk i2 j' (Or.inl hle)).symm.trans hsc.out)⟩
    case rest =>
      clear hS
      obtain ⟨j2, rfl, hj2, hj2i, hS, HJ⟩ := hcut
      clear eI eJ
      by_cases hgt : j2 < i2
      · go_wp2_with fail
        refine (H.swapAt hS j2 a (by omega) (by omega) rfl rfl).mono ?_
        rintro e w3 ⟨rfl, hS3, -⟩
        go_wp2_with fail
        go_ret2
        have e := part_first_break lt d a b pivot HI0.out HJ0.out HD0.out HI.out HJ.out hgt
        rw [e]
        exact ⟨rfl, hS3⟩
      · have hlt3 := part_scans_lt lt a i j dk (by omega) HI.out HJ.out (by omega)
        go_wp2_with fail
        refine (H.swapAt hS i2 j2 (by omega) (by omega) rfl rfl).mono ?_
        rintro e w3 ⟨rfl, hS3, -⟩
        go_wp2_with fail
        (try rw [decide_eq_false (show ¬ j2 < i2 by omega)])
        obtain ⟨I0, hI0⟩ : ∃ I0 : Nat, I0 = i2 + 1 := ⟨_, rfl⟩
        obtain ⟨J0, hJ0⟩ : ∃ J0 : Nat, J0 = j2 - 1 := ⟨_, rfl⟩
        obtain ⟨D0, hD0⟩ : ∃ D0 : Array α, D0 = Sort.swp dk i2 j2 := ⟨_, rfl⟩
        have PF : Hid (Sort.partition lt d a b pivot = ((Sort.partLoop lt a I0 J0 D0).1, false, Sort.swp (Sort.partLoop lt a I0 J0 D0).2 (Sort.partLoop lt a I0 J0 D0).1 a)) := by
          rw [hI0, hJ0, hD0]; exact part_first_go lt d a b pivot HI0.out HJ0.out HD0.out HI.out HJ.out (by omega)
        rw [← hD0] at hS3
        go_loopw [10, 11] (fun vi vj wr => ∃ (i j : Nat) (dk : Array α), vi = .int .i64 i ∧ vj = .int .i64 j ∧ a < i ∧ i ≤ j + 1 ∧ j < b ∧ St dk wr ∧ Hid (Sort.partLoop lt a i j dk = Sort.partLoop lt a I0 J0 D0))
          (fun vi vj _ => (intOf vj).toNat + 1 - (intOf vi).toNat)
        case atStart => exact ⟨I0, J0, D0, by rw [hI0]; go_num, by rw [hJ0]; go_num, by omega, by omega, by omega, hS3, rfl⟩
        case round =>
          clear hI0 hJ0 hD0 HJ HI hS hS3 hlt3 hgt HI0 HJ0 HD0 hj2 hj2i hi2 hi2j hai hij hjb
          obtain ⟨i, j, dk, rfl, rfl, hai, hij, hjb, hS, HE⟩ := hrel
          go_upto_block 6 with fail
          go_cut [10] (fun p wx => ∃ i2 : Nat, p = .int .i64 i2 ∧ i ≤ i2 ∧ i2 ≤ j + 1 ∧ St dk wx ∧ Hid (i2 = Sort.scanUp (fun x => lt x dk[a]!) dk j i))
          case first =>
            go_wp2_with fail
            go_loopw [10] (fun vi w1 => ∃ i' : Nat, vi = .int .i64 i' ∧ i ≤ i' ∧ i' ≤ j + 1 ∧ St dk w1 ∧ Hid (Sort.scanUp (fun x => lt x dk[a]!) dk j i' = Sort.scanUp (fun x => lt x dk[a]!) dk j i)) (fun vi _ => j + 1 - (intOf vi).toNat)
            case atStart => exact ⟨i, rfl, Nat.le_refl _, by omega, hS, rfl⟩
            case round =>
              clear hS
              obtain ⟨i', rfl, hii, hij', hS, hsc⟩ := hrel
              by_cases hle : i' ≤ j
              · cases hlv : lt dk[i']! dk[a]! with
                | true =>
                  go_wp2_with fail
                  refine (H.lessAt hS i' a hlv (by omega) (by omega) rfl rfl).mono ?_
                  rintro e w' ⟨rfl, hS1, -⟩
                  go_wp2_with fail
                  go_roundw
                  case rel => exact ⟨i' + 1, by go_num, by omega, by omega, hS1, (show Hid _ from (scanUp_go (fun x => lt x dk[a]!) dk j i' hle (by simp [hlv])).symm.trans hsc.out)⟩
                  case measure => simp [intOf]; omega
                | false =>
                  go_wp2_with fail
                  refine (H.lessAt hS i' a hlv (by omega) (by omega) rfl rfl).mono ?_
                  rintro e w' ⟨rfl, hS1, -⟩
                  go_wp2_with fail
                  go_meet
                  exact ⟨i', rfl, hii, hij', hS1, (show Hid _ from (scanUp_end (fun x => lt x dk[a]!) dk j i' (Or.inr (by simp [hlv]))).symm.trans hsc.out)⟩
              · go_wp2_with fail
                go_meet
                exact ⟨i', rfl, hii, hij', hS, (show Hid _ from (scanUp_end (fun x => lt x dk[a]!) dk j i' (Or.inl hle)).symm.trans hsc.out)⟩
          case rest =>
            clear hS
            obtain ⟨i2, rfl, hi2, hi2j, hS, HI⟩ := hcut
            go_upto_block 8 with fail
            go_cut [11] (fun p wx => ∃ j2 : Nat, p = .int .i64 j2 ∧ j2 ≤ j ∧ i2 ≤ j2 + 1 ∧ St dk wx ∧ Hid (j2 = Sort.scanDown (fun x => !lt x dk[a]!) dk i2 j))
            case first =>
              go_wp2_with fail
              go_loopw [11] (fun vj w1 => ∃ j' : Nat, vj = .int .i64 j' ∧ j' ≤ j ∧ i2 ≤ j' + 1 ∧ St dk w1 ∧ Hid (Sort.scanDown (fun x => !lt x dk[a]!) dk i2 j' = Sort.scanDown (fun x => !lt x dk[a]!) dk i2 j)) (fun vj _ => (intOf vj).toNat)
              case atStart => exact ⟨j, rfl, Nat.le_refl _, by omega, hS, rfl⟩
              case round =>
                clear hS
                obtain ⟨j', rfl, hjj, hij', hS, hsc⟩ := hrel
                by_cases hle : i2 ≤ j'
                · cases hlv : lt dk[j']! dk[a]! with
                  | false =>
                    go_wp2_with fail
                    refine (H.lessAt hS j' a hlv (by omega) (by omega) rfl rfl).mono ?_
                    rintro e w' ⟨rfl, hS1, -⟩
                    go_wp2_with fail
                    go_roundw
                    case rel => exact ⟨j' - 1, by go_num, by omega, by omega, hS1, (show Hid _ from (scanDown_go (fun x => !lt x dk[a]!) dk i2 j' hle (by omega) (by simp [hlv])).symm.trans hsc.out)⟩
                    case measure => simp [intOf]; omega
                  | true =>
                    go_wp2_with fail
                    refine (H.lessAt hS j' a hlv (by omega) (by omega) rfl rfl).mono ?_
                    rintro e w' ⟨rfl, hS1, -⟩
                    go_wp2_with fail
                    go_meet
                    exact ⟨j', rfl, hjj, hij', hS1, (show Hid _ from (scanDown_end (fun x => !lt x dk[a]!) dk i2 j' (Or.inr (by simp [hlv]))).symm.trans hsc.out)⟩
                · go_wp2_with fail
                  go_meet
                  exact ⟨j', rfl, hjj, hij', hS, (show Hid _ from (scanDown_end (fun x => !lt x dk[a]!) dk i2 j' (Or.inl hle)).symm.trans hsc.out)⟩
            case rest =>
              clear hS
              obtain ⟨j2, rfl, hj2, hj2i, hS, HJ⟩ := hcut
              by_cases hgt : j2 < i2
              · have HE2 : Hid (Sort.partLoop lt a I0 J0 D0 = (j2, dk)) := HE.out.symm.trans (part_break lt a i j dk HI.out HJ.out hgt)
                go_wp2_with fail
                refine (H.swapAt hS j2 a (by omega) (by omega) rfl rfl).mono ?_
                rintro e w3 ⟨rfl, hS3, -⟩
                go_wp2_with fail
                go_ret2
                rw [PF.out, HE2.out]
                exact ⟨rfl, hS3⟩
              · have hlt3 := part_scans_lt lt a i j dk (by omega) HI.out HJ.out (by omega)
                go_wp2_with fail
                refine (H.swapAt hS i2 j2 (by omega) (by omega) rfl rfl).mono ?_
                rintro e w3 ⟨rfl, hS3, -⟩
                go_wp2_with fail
                go_roundw
                case rel => exact ⟨i2 + 1, j2 - 1, _, by go_num, by go_num, by omega, by omega, by omega, hS3, (show Hid _ from by rw [← HE.out]; exact (part_go lt a i j dk HI.out HJ.out (by omega)).symm)⟩
                case measure => simp [intOf]; omega
end Go.Proofs.YtkehnmapnckdgaaDoor
