/- The small functions of layer 3, the program's and the document's: isPoint, width, on, lead; point, Bytes, Same. -/
import Derived.Test.YticfgdedlleapaaUtfMath
import Derived.Test.YticfgdedlleapaaInts
import Derived.Test.YticfgdedlleapaaBytes
import Derived.WalkKit
import Derived.Below
import Derived.Lib.Hide
import Derived.Test.YticfgdedlleapaaBits64
namespace Go.Proofs.Yticfgdedlleapaa
open Go.RowKit
set_option linter.unusedVariables false

theorem pt_true {p : Int} (h : Utf.pt p = true) : 0 ≤ p ∧ p ≤ 1114111 ∧ (p < 55296 ∨ 57343 < p) := (Utf.pt_iff p).1 h
theorem pt_false {p : Int} (h : Utf.pt p = false) : ¬(0 ≤ p ∧ p ≤ 1114111 ∧ (p < 55296 ∨ 57343 < p)) := fun h' => by rw [(Utf.pt_iff p).2 h'] at h; cases h

set_option maxHeartbeats 400000 in
theorem ispt_walk (p : Int) (w : World) :
    Calls Try.prog 19 #[.int .i64 p] w fun e w' => e = .returned (.bool (Utf.pt p)) ∧ w = w' := by
  by_cases h0 : 0 ≤ p
  · by_cases h1 : p ≤ 1114111
    · by_cases h2 : p < 55296
      · have e : Utf.pt p = true := (Utf.pt_iff p).2 ⟨h0, h1, Or.inl h2⟩
        rw [e]
        clear e
        go_enter Try.func19, Try.ntmps19
        go_wp2
        go_ret
        exact ⟨rfl, rfl⟩
      · by_cases h3 : 57343 < p
        · have e : Utf.pt p = true := (Utf.pt_iff p).2 ⟨h0, h1, Or.inr h3⟩
          rw [e]
          clear e
          go_enter Try.func19, Try.ntmps19
          go_wp2
          go_ret
          exact ⟨rfl, rfl⟩
        · have e : Utf.pt p = false := Bool.eq_false_iff.2 fun h => by have := pt_true h; omega
          rw [e]
          clear e
          go_enter Try.func19, Try.ntmps19
          go_wp2
          go_ret
          exact ⟨rfl, rfl⟩
    · have e : Utf.pt p = false := Bool.eq_false_iff.2 fun h => by have := pt_true h; omega
      rw [e]
      clear e
      go_enter Try.func19, Try.ntmps19
      go_wp2
      go_ret
      exact ⟨rfl, rfl⟩
  · have e : Utf.pt p = false := Bool.eq_false_iff.2 fun h => by have := pt_true h; omega
    rw [e]
    clear e
    go_enter Try.func19, Try.ntmps19
    go_wp2
    go_ret
    exact ⟨rfl, rfl⟩
set_option maxHeartbeats 400000 in
theorem rpoint_walk (p : Int) (w : World) :
    Calls Try.prog 21 #[.int .i64 p] w fun e w' => e = .returned (.bool (Utf.pt p)) ∧ w = w' := by
  by_cases h0 : 0 ≤ p
  · by_cases h1 : p ≤ 1114111
    · by_cases h2 : p < 55296
      · have e : Utf.pt p = true := (Utf.pt_iff p).2 ⟨h0, h1, Or.inl h2⟩
        rw [e]
        clear e
        go_enter Try.func21, Try.ntmps21
        go_wp2
        go_ret
        exact ⟨rfl, rfl⟩
      · by_cases h3 : 57343 < p
        · have e : Utf.pt p = true := (Utf.pt_iff p).2 ⟨h0, h1, Or.inr h3⟩
          rw [e]
          clear e
          go_enter Try.func21, Try.ntmps21
          go_wp2
          go_ret
          exact ⟨rfl, rfl⟩
        · have e : Utf.pt p = false := Bool.eq_false_iff.2 fun h => by have := pt_true h; omega
          rw [e]
          clear e
          go_enter Try.func21, Try.ntmps21
          go_wp2
          go_ret
          exact ⟨rfl, rfl⟩
    · have e : Utf.pt p = false := Bool.eq_false_iff.2 fun h => by have := pt_true h; omega
      rw [e]
      clear e
      go_enter Try.func21, Try.ntmps21
      go_wp2
      go_ret
      exact ⟨rfl, rfl⟩
  · have e : Utf.pt p = false := Bool.eq_false_iff.2 fun h => by have := pt_true h; omega
    rw [e]
    clear e
    go_enter Try.func21, Try.ntmps21
    go_wp2
    go_ret
    exact ⟨rfl, rfl⟩

set_option maxHeartbeats 400000 in
theorem width_walk (p : Int) (w : World) :
    Calls Try.prog 26 #[.int .i64 p] w fun e w' => e = .returned (.int .i64 (Utf.width p : Nat)) ∧ w = w' := by
  unfold Utf.width
  by_cases h0 : p < 128
  · rw [if_pos h0]
    go_enter Try.func26, Try.ntmps26
    go_wp2
    go_ret
    exact ⟨rfl, rfl⟩
  · rw [if_neg h0]
    by_cases h1 : p < 2048
    · rw [if_pos h1]
      go_enter Try.func26, Try.ntmps26
      go_wp2
      go_ret
      exact ⟨rfl, rfl⟩
    · rw [if_neg h1]
      by_cases h2 : p < 65536
      · rw [if_pos h2]
        go_enter Try.func26, Try.ntmps26
        go_wp2
        go_ret
        exact ⟨rfl, rfl⟩
      · rw [if_neg h2]
        go_enter Try.func26, Try.ntmps26
        go_wp2
        go_ret
        exact ⟨rfl, rfl⟩

theorem on_num (p : Int) : bits .or .u8 128 (p % 64) = 128 + p % 64 :=
  u8_join 6 128 (p % 64) (by decide) (by decide) (by omega) (by have : ((2 ^ 6 : Nat) : Int) = 64 := rfl; omega) (by omega)

theorem on_walk (p : Int) (w : World) :
    Calls Try.prog 27 #[.int .i64 p] w fun e w' => e = .returned (.int .u8 (128 + p % 64)) ∧ w = w' := by
  have h2 := on_num p
  have h1 := i64_and63 p
  go_enter Try.func27, Try.ntmps27
  go_wp2
  go_ret
  exact ⟨rfl, rfl⟩

theorem cells_one (x : Int) : Lib.byteCells [Utf.byte x] = [.int .u8 (x % 256)] := by
  simp [Lib.byteCells, Utf.byte_toNat]
theorem cells_two (x y : Int) : Lib.byteCells [Utf.byte x, Utf.byte y] = [.int .u8 (x % 256), .int .u8 (y % 256)] := by
  simp [Lib.byteCells, Utf.byte_toNat]
theorem cells_three (x y z : Int) : Lib.byteCells [Utf.byte x, Utf.byte y, Utf.byte z] = [.int .u8 (x % 256), .int .u8 (y % 256), .int .u8 (z % 256)] := by
  simp [Lib.byteCells, Utf.byte_toNat]
theorem cells_four (x y z u : Int) : Lib.byteCells [Utf.byte x, Utf.byte y, Utf.byte z, Utf.byte u] = [.int .u8 (x % 256), .int .u8 (y % 256), .int .u8 (z % 256), .int .u8 (u % 256)] := by
  simp [Lib.byteCells, Utf.byte_toNat]

set_option maxHeartbeats 400000 in
theorem rbytes_walk (p : Int) (w : World) (h : Utf.pt p = true) :
    Calls Try.prog 22 #[.int .i64 p] w fun e w' => e = .returned (.string ⟨(Utf.bytes p).toArray⟩) ∧ Below w.heap.size w w' := by
  obtain ⟨h0, h1, _⟩ := pt_true h
  clear h
  unfold Utf.bytes
  by_cases h2 : p < 128
  · rw [if_pos h2]
    have hc := conv_cells w [Utf.byte (p)] (cs := #[.int .u8 (p)]) (n := 1) (by rw [cells_one, show (p) % 256 = p from by omega]) rfl (by simp)
    go_enter Try.func22, Try.ntmps22
    go_wp2
    go_ret
    exact ⟨rfl, (Below.refl _ _).alloc (Nat.le_refl _) _⟩
  · rw [if_neg h2]
    by_cases h3 : p < 2048
    · rw [if_pos h3]
      have hc := conv_cells w [Utf.byte (192 + p / 64), Utf.byte (128 + p % 64)] (cs := #[.int .u8 (192 + p / 64), .int .u8 (128 + p % 64)]) (n := 2) (by rw [cells_two, show (192 + p / 64) % 256 = 192 + p / 64 from by omega, show (128 + p % 64) % 256 = 128 + p % 64 from by omega]) rfl (by simp)
      go_enter Try.func22, Try.ntmps22
      go_wp2
      go_ret
      exact ⟨rfl, (Below.refl _ _).alloc (Nat.le_refl _) _⟩
    · rw [if_neg h3]
      by_cases h4 : p < 65536
      · rw [if_pos h4]
        have hc := conv_cells w [Utf.byte (224 + p / 4096), Utf.byte (128 + p / 64 % 64), Utf.byte (128 + p % 64)] (cs := #[.int .u8 (224 + p / 4096), .int .u8 (128 + p / 64 % 64), .int .u8 (128 + p % 64)]) (n := 3) (by rw [cells_three, show (224 + p / 4096) % 256 = 224 + p / 4096 from by omega, show (128 + p / 64 % 64) % 256 = 128 + p / 64 % 64 from by omega, show (128 + p % 64) % 256 = 128 + p % 64 from by omega]) rfl (by simp)
        go_enter Try.func22, Try.ntmps22
        go_wp2
        go_ret
        exact ⟨rfl, (Below.refl _ _).alloc (Nat.le_refl _) _⟩
      · rw [if_neg h4]
        have hc := conv_cells w [Utf.byte (240 + p / 262144), Utf.byte (128 + p / 4096 % 64), Utf.byte (128 + p / 64 % 64), Utf.byte (128 + p % 64)] (cs := #[.int .u8 (240 + p / 262144), .int .u8 (128 + p / 4096 % 64), .int .u8 (128 + p / 64 % 64), .int .u8 (128 + p % 64)]) (n := 4) (by rw [cells_four, show (240 + p / 262144) % 256 = 240 + p / 262144 from by omega, show (128 + p / 4096 % 64) % 256 = 128 + p / 4096 % 64 from by omega, show (128 + p / 64 % 64) % 256 = 128 + p / 64 % 64 from by omega, show (128 + p % 64) % 256 = 128 + p % 64 from by omega]) rfl (by simp)
        go_enter Try.func22, Try.ntmps22
        go_wp2
        go_ret
        exact ⟨rfl, (Below.refl _ _).alloc (Nat.le_refl _) _⟩

/-- What the slices hold. -/
def sameB (a b : List Int) : Bool := decide (a = b)

set_option maxHeartbeats 400000 in
theorem same_walk (A B : Option Addr) (c d : Nat) (a b : List Int) (w : World) (hA : Ints w w.heap.size A a) (hB : Ints w w.heap.size B b) (ha : a.length ≤ 9223372036854775807) (hb : b.length ≤ 9223372036854775807) :
    Calls Try.prog 12 #[.slice A a.length c, .slice B b.length d] w fun e w' => e = .returned (.bool (sameB a b)) ∧ Below w.heap.size w w' := by
  by_cases hl : a.length = b.length
  · have HL := Lib.hid hl
    have hd : ((a.length : Int) == (b.length : Int)) = true := by rw [beq_iff_eq]; omega
    have hd2 : ((a.length : Int) != (b.length : Int)) = false := by rw [bne_eq_false_iff_eq]; omega
    have hlt0 : a.length ≤ b.length := by omega
    clear hl
    go_enter Try.func12, Try.ntmps12
    go_wp2_with fail
    go_loopw [5] (fun i wr => ∃ k : Nat, i = .int .i64 k ∧ k ≤ a.length ∧ Hid (a.take k = b.take k) ∧ Below w.heap.size w wr)
      (fun i _ => a.length - (intOf i).toNat)
    case atStart => exact ⟨0, rfl, Nat.zero_le _, Lib.hid rfl, Below.refl _ _⟩
    case round =>
      obtain ⟨k, rfl, hk, HT, hbel⟩ := hrel
      by_cases hlt : k < a.length
      · have hA' := hA.keep hbel (Nat.le_refl _)
        have hB' := hB.keep hbel (Nat.le_refl _)
        rcases hA' with hA' | ⟨b1, o1, rfl, _, hc1⟩
        · omega
        · rcases hB' with hB' | ⟨b2, o2, rfl, _, hc2⟩
          · omega
          · obtain ⟨x, hx⟩ : ∃ x, x = a[k]'hlt := ⟨_, rfl⟩
            obtain ⟨y, hy⟩ : ∃ y, y = b[k]'(by omega) := ⟨_, rfl⟩
            have hcx := hc1 k hlt
            have hcy := hc2 k (by omega)
            rw [← hx] at hcx
            rw [← hy] at hcy
            have HX := Lib.hid hx
            have HY := Lib.hid hy
            have hkb : k < b.length := by omega
            clear hc1 hc2 hx hy
            by_cases hxy : x = y
            · subst hxy
              go_wp2_with fail
              go_quiet (fail)
              go_wp2_with fail
              go_roundw
              case rel =>
                refine ⟨k + 1, by go_num, by omega, Lib.hid ?_, below_drewN hbel _⟩
                rw [List.take_succ_eq_append_getElem hlt, List.take_succ_eq_append_getElem hkb, HT.out, ← HX.out, ← HY.out]
              case measure => simp [intOf]; omega
            · have hd3 : (x == y) = false := by simpa using hxy
              have hd4 : (x != y) = true := by simpa using hxy
              have e : sameB a b = false := by
                unfold sameB; rw [decide_eq_false_iff_not]; intro h
                refine hxy ?_
                rw [HX.out, HY.out]
                simp only [h]
              have HE := Lib.hid e
              clear hxy e
              go_wp2_with fail
              go_quiet (fail)
              go_wp2_with fail
              go_ret
              exact ⟨by rw [HE.out]; rfl, below_drewN hbel _⟩
      · have e : sameB a b = true := by
          unfold sameB; rw [decide_eq_true_iff]
          have h := HT.out
          have h1 := HL.out
          rw [List.take_of_length_le (by omega), List.take_of_length_le (by omega)] at h
          exact h
        have HE := Lib.hid e
        clear e
        go_wp2
        go_ret
        exact ⟨by rw [HE.out]; rfl, hbel⟩
  · have e : sameB a b = false := by unfold sameB; rw [decide_eq_false_iff_not]; intro h; exact hl (by rw [h])
    rw [e]
    have hd : ((a.length : Int) == (b.length : Int)) = false := by simp; omega
    go_enter Try.func12, Try.ntmps12
    go_wp2
    go_ret
    exact ⟨rfl, Below.refl _ _⟩
end Go.Proofs.Yticfgdedlleapaa
