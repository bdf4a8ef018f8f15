/- Parting what equals one of them. -/
import Derived.Test.YtkehnmapnckdgaaDoorGS0
import Derived.Deep.CutBlock
import Derived.Deep.DeepCutAuto
namespace Go.Proofs.YtkehnmapnckdgaaDoor
open Go.RowKit Go.Sort
set_option linter.unusedVariables false
variable {α : Type} [Inhabited α] {N B : Nat} {rv : Value} {lt : α → α → Bool} {St : Array α → World → Prop}

set_option maxHeartbeats 12800000 in
set_option maxRecDepth 100000 in
theorem speq_walk (H : Srt N B rv lt St) (a b pivot : Nat) (d : Array α) (w : World) (hH : St d w) (hap : a ≤ pivot) (hpb : pivot < b) (hb : b ≤ N) :
    Calls Tryd.prog 89 #[.iface 53 rv, .int .i64 a, .int .i64 b, .int .i64 pivot] w fun e w' => e = .returned (.int .i64 (Sort.partitionEqual lt d a b pivot).1) ∧ St (Sort.partitionEqual lt d a b pivot).2 w' := by
  have mL := H.mL
  have mS := H.mS
  have hbig := H.big
  go_enter Tryd.func89, Tryd.ntmps89
  go_wp2_with fail
  refine (H.swapAt hH a pivot (by omega) (by omega) rfl rfl).mono ?_
  rintro e w1 ⟨rfl, hS0, -⟩
  clear hH
  go_wp2_with fail
  go_loopw [9, 10] (fun vi vj wr => ∃ (i j : Nat) (dk : Array α), vi = .int .i64 i ∧ vj = .int .i64 j ∧ a < i ∧ i ≤ j + 1 ∧ j < b ∧ St dk wr ∧ Hid (Sort.partEqLoop lt a i j dk = Sort.partEqLoop lt a (a + 1) (b - 1) (Sort.swp d a pivot)))
    (fun vi vj _ => (intOf vj).toNat + 1 - (intOf vi).toNat)
  case atStart => exact ⟨a + 1, b - 1, _, by go_num, by go_num, by omega, by omega, by omega, hS0, rfl⟩
  case round =>
    clear hS0
    obtain ⟨i, j, dk, rfl, rfl, hai, hij, hjb, hS, HE⟩ := hrel
    go_upto_block 2 with fail
    go_cut [9] (fun p wx => ∃ i2 : Nat, p = .int .i64 i2 ∧ i ≤ i2 ∧ i2 ≤ j + 1 ∧ St dk wx ∧ Hid (i2 = Sort.scanUp (fun x => !lt dk[a]! x) dk j i))
    case first =>
      go_wp2_with fail
      go_loopw [9] (fun vi w1 => ∃ i' : Nat, vi = .int .i64 i' ∧ i ≤ i' ∧ i' ≤ j + 1 ∧ St dk w1 ∧ Hid (Sort.scanUp (fun x => !lt dk[a]! x) dk j i' = Sort.scanUp (fun x => !lt dk[a]! x) dk j i)) (fun vi _ => j + 1 - (intOf vi).toNat)
      case atStart => exact ⟨i, rfl, Nat.le_refl _, by omega, hS, rfl⟩
      case round =>
        clear hS
        obtain ⟨i', rfl, hii, hij', hS, hsc⟩ := hrel
        by_cases hle : i' ≤ j
        · cases hlv : lt dk[a]! dk[i']! with
          | false =>
            go_wp2_with fail
            refine (H.lessAt hS a i' hlv (by omega) (by omega) rfl rfl).mono ?_
            rintro e w' ⟨rfl, hS1, -⟩
            go_wp2_with fail
            go_roundw
            case rel => exact ⟨i' + 1, by go_num, by omega, by omega, hS1, (show Hid _ from (scanUp_go (fun x => !lt dk[a]! x) dk j i' hle (by simp [hlv])).symm.trans hsc.out)⟩
            case measure => simp [intOf]; omega
          | true =>
            go_wp2_with fail
            refine (H.lessAt hS a i' hlv (by omega) (by omega) rfl rfl).mono ?_
            rintro e w' ⟨rfl, hS1, -⟩
            go_wp2_with fail
            go_meet
            exact ⟨i', rfl, hii, hij', hS1, (show Hid _ from (scanUp_end (fun x => !lt dk[a]! x) dk j i' (Or.inr (by simp [hlv]))).symm.trans hsc.out)⟩
        · go_wp2_with fail
          go_meet
          exact ⟨i', rfl, hii, hij', hS, (show Hid _ from (scanUp_end (fun x => !lt dk[a]! x) dk j i' (Or.inl hle)).symm.trans hsc.out)⟩
    case rest =>
      clear hS
      obtain ⟨i2, rfl, hi2, hi2j, hS, HI⟩ := hcut
      go_upto_block 4 with fail
      go_cut [10] (fun p wx => ∃ j2 : Nat, p = .int .i64 j2 ∧ j2 ≤ j ∧ i2 ≤ j2 + 1 ∧ St dk wx ∧ Hid (j2 = Sort.scanDown (fun x => lt dk[a]! x) dk i2 j))
      case first =>
        go_wp2_with fail
        go_loopw [10] (fun vj w1 => ∃ j' : Nat, vj = .int .i64 j' ∧ j' ≤ j ∧ i2 ≤ j' + 1 ∧ St dk w1 ∧ Hid (Sort.scanDown (fun x => lt dk[a]! x) dk i2 j' = Sort.scanDown (fun x => lt dk[a]! x) dk i2 j)) (fun vj _ => (intOf vj).toNat)
        case atStart => exact ⟨j, rfl, Nat.le_refl _, by omega, hS, rfl⟩
        case round =>
          clear hS
          obtain ⟨j', rfl, hjj, hij', hS, hsc⟩ := hrel
          by_cases hle : i2 ≤ j'
          · cases hlv : lt dk[a]! dk[j']! with
            | true =>
              go_wp2_with fail
              refine (H.lessAt hS a j' hlv (by omega) (by omega) rfl rfl).mono ?_
              rintro e w' ⟨rfl, hS1, -⟩
              go_wp2_with fail
              go_roundw
              case rel => exact ⟨j' - 1, by go_num, by omega, by omega, hS1, (show Hid _ from (scanDown_go (fun x => lt dk[a]! x) dk i2 j' hle (by omega) (by simp [hlv])).symm.trans hsc.out)⟩
              case measure => simp [intOf]; omega
            | false =>
              go_wp2_with fail
              refine (H.lessAt hS a j' hlv (by omega) (by omega) rfl rfl).mono ?_
              rintro e w' ⟨rfl, hS1, -⟩
              go_wp2_with fail
              go_meet
              exact ⟨j', rfl, hjj, hij', hS1, (show Hid _ from (scanDown_end (fun x => lt dk[a]! x) dk i2 j' (Or.inr (by simp [hlv]))).symm.trans hsc.out)⟩
          · go_wp2_with fail
            go_meet
            exact ⟨j', rfl, hjj, hij', hS, (show Hid _ from (scanDown_end (fun x => lt dk[a]! x) dk i2 j' (Or.inl hle)).symm.trans hsc.out)⟩
      case rest =>
        clear hS
        obtain ⟨j2, rfl, hj2, hj2i, hS, HJ⟩ := hcut
        by_cases hgt : j2 < i2
        · go_wp2_with fail
          go_ret
          have e := partEq_break lt a i j dk HI.out HJ.out hgt
          have e2 := HE.out.symm.trans e
          unfold Sort.partitionEqual
          rw [e2]
          exact ⟨rfl, hS⟩
        · have hlt3 := scans_lt lt a i j dk (by omega) HI.out HJ.out (by omega)
          go_wp2_with fail
          refine (H.swapAt hS i2 j2 (by omega) (by omega) rfl rfl).mono ?_
          rintro e w3 ⟨rfl, hS3, -⟩
          go_wp2_with fail
          go_roundw
          case rel => exact ⟨i2 + 1, j2 - 1, _, by go_num, by go_num, by omega, by omega, by omega, hS3, (show Hid _ from by rw [← HE.out]; exact (partEq_go lt a i j dk HI.out HJ.out (by omega)).symm)⟩
          case measure => simp [intOf]; omega
end Go.Proofs.YtkehnmapnckdgaaDoor
