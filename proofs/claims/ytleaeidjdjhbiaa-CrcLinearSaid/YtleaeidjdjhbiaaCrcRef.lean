/- The document's answer of layer 2: the register behind a byte, behind texts: Crc.run, Crc.sum, Crc.more. -/
import Derived.Test.YtleaeidjdjhbiaaRows
import Derived.Test.YtleaeidjdjhbiaaCrcMath
import Derived.Test.YtleaeidjdjhbiaaStrs
import Derived.WalkKit
import Derived.Below
import Derived.Lib.Hide
import Derived.Laws.BitsAllLaws
namespace Go.Proofs.Ytleaeidjdjhbiaa
open Go.RowKit

theorem bit_test (y : Nat) (hy : y < 4294967296) (b : UInt8) (k : Nat) :
    (bits .and .u32 (y : Int) 1 != bits .and .u32 ((b.toNat : Int) / 2 ^ k % 4294967296) 1) = (y % 2 != b.toNat / 2 ^ k % 2) := by
  have hb := b.toNat_lt
  have h1 : b.toNat / 2 ^ k ≤ b.toNat := Nat.div_le_self _ _
  have hq : (b.toNat : Int) / 2 ^ k = ((b.toNat / 2 ^ k : Nat) : Int) := by rw [Int.natCast_ediv, Int.natCast_pow]; rfl
  have h2 : ((b.toNat : Int) / 2 ^ k % 4294967296) = ((b.toNat / 2 ^ k : Nat) : Int) := by rw [hq]; exact Int.emod_eq_of_lt (Int.natCast_nonneg _) (Int.ofNat_lt.2 (Nat.lt_of_le_of_lt h1 (show b.toNat < 4294967296 by omega)))
  have h3 : ∀ x : Nat, x < 4294967296 → bits .and .u32 (x : Int) 1 = ((x % 2 : Nat) : Int) := fun x hx => by
    have := u32_and_nat x 1 hx (by omega)
    rw [nat_mask1] at this
    exact this
  rw [h2, h3 y hy, h3 _ (by omega)]
  by_cases h : y % 2 = b.toNat / 2 ^ k % 2
  · rw [h]; simp
  · have h' : ((y % 2 : Nat) : Int) ≠ ((b.toNat / 2 ^ k % 2 : Nat) : Int) := by omega
    rw [bne_iff_ne.2 h', bne_iff_ne.2 h]

theorem xor_poly (y : Nat) (hy : y < 4294967296) : bits .xor .u32 ((y : Int) / 2) 2197175160 = ((y / 2 ^^^ Crc.poly : Nat) : Int) := by
  have := u32_xor_nat (y / 2) 2197175160 (by omega) (by omega)
  rw [show ((y : Int) / 2) = ((y / 2 : Nat) : Int) from by omega]
  exact this

set_option maxHeartbeats 400000 in
theorem rin_walk (r : Nat) (b : UInt8) (w : World) (hr : r < 4294967296) :
    Calls Try.prog 14 #[.int .u32 r, .int .u8 b.toNat] w fun e w' => e = .returned (.int .u32 (Crc.run r (Crc.bits8 b.toNat) : Nat)) ∧ w = w' := by
  have hb8 := b.toNat_lt
  go_enter Try.func14, Try.ntmps14
  go_wp2_with fail
  go_loop [0, 5] (fun x i => ∃ k y : Nat, i = .int .i64 k ∧ k ≤ 8 ∧ x = .int .u32 y ∧ y < 4294967296 ∧ Hid (y = Crc.run r ((Crc.bits8 b.toNat).take k)))
    (fun _ i => 8 - (intOf i).toNat)
  case atStart => exact ⟨0, r, rfl, by omega, rfl, hr, Lib.hid rfl⟩
  case round =>
    obtain ⟨k, y, rfl, hk, rfl, hy, HY⟩ := hrel
    by_cases hlt : k < 8
    · have HN := Lib.hid (Crc.bits8_next r b.toNat k hlt)
      go_wp2
      · have ht : (bits .and .u32 (y : Int) 1 != bits .and .u32 ((b.toNat : Int) / 2 ^ k % 4294967296) 1) = true := by assumption
        rw [bit_test y hy b k] at ht
        go_round
        case rel =>
          refine ⟨k + 1, _, by go_num, by omega, by rw [xor_poly y hy], Nat.xor_lt_two_pow (n := 32) (by omega) (by decide), Lib.hid ?_⟩
          rw [HN.out, ← HY.out, Crc.step, if_neg (by simpa using ht)]
        case measure => simp [intOf]; omega
      · have ht : (bits .and .u32 (y : Int) 1 != bits .and .u32 ((b.toNat : Int) / 2 ^ k % 4294967296) 1) = false := by assumption
        rw [bit_test y hy b k] at ht
        go_round
        case rel =>
          refine ⟨k + 1, y / 2, by go_num, by omega, by go_num, by omega, Lib.hid ?_⟩
          rw [HN.out, ← HY.out, Crc.step, if_pos (by simpa using ht)]
        case measure => simp [intOf]; omega
    · go_wp2
      go_ret
      refine ⟨?_, rfl⟩
      have hk8 : k = 8 := by omega
      rw [HY.out, hk8, Crc.bits8_all]
      rfl

theorem ret_u32 {a b : Int} (h : a = b) : Ending.returned (.int .u32 a) = .returned (.int .u32 b) := by rw [h]

/-- All bits turned. -/
theorem comp (m : Nat) (hm : m < 4294967296) : bits .xor .u32 IntKind.u32.max (m : Int) = ((4294967295 - m : Nat) : Int) := by
  have := u32_xor_nat 4294967295 m (by omega) hm
  rw [Crc.all_ones m hm, ← this]
  rfl

/-- The document's loop over a text: from byte i on. -/
theorem behind_take (r : Nat) (l : List UInt8) (i : Nat) (h : i < l.length) : Crc.behind r (l.take (i + 1)) = Crc.run (Crc.behind r (l.take i)) (Crc.bits8 (l[i]'h).toNat) := by
  rw [List.take_succ_eq_append_getElem h, Crc.behind_snoc]

set_option maxHeartbeats 400000 in
theorem rmore_walk (m : Nat) (s : ByteArray) (w : World) (hm : m < 4294967296) (hs : s.size ≤ 9223372036854775807) :
    Calls Try.prog 13 #[.int .u32 m, .string s] w fun e w' => e = .returned (.int .u32 (Crc.more m s.data.toList : Nat)) ∧ w = w' := by
  go_enter Try.func13, Try.ntmps13
  go_wp2_with fail
  rw [comp m hm]
  go_loop [5, 6] (fun x i => ∃ k y : Nat, i = .int .i64 k ∧ k ≤ s.size ∧ x = .int .u32 y ∧ y < 4294967296 ∧ Hid (y = Crc.behind (4294967295 - m) (s.data.toList.take k)))
    (fun _ i => s.size - (intOf i).toNat)
  case atStart => exact ⟨0, 4294967295 - m, rfl, by omega, rfl, by omega, Lib.hid rfl⟩
  case round =>
    obtain ⟨k, y, rfl, hk, rfl, hy, HY⟩ := hrel
    by_cases hlt : k < s.size
    · have HN := Lib.hid (behind_take (4294967295 - m) s.data.toList k (by rw [← Lib.size_eq]; exact hlt))
      go_wp2_with fail
      refine (rin_walk y (s[k]'hlt) _ hy).mono ?_
      rintro e w' ⟨rfl, rfl⟩
      go_wp2
      go_round
      case rel =>
        refine ⟨k + 1, Crc.run y (Crc.bits8 (s[k]'hlt).toNat), by go_num, by omega, rfl, Crc.run_lt _ _ hy, Lib.hid ?_⟩
        rw [HN.out, ← HY.out]
        rfl
      case measure => simp [intOf]; omega
    · go_wp2
      go_ret
      refine ⟨?_, rfl⟩
      have hk8 : k = s.size := by omega
      have hc := comp y hy
      refine (ret_u32 hc).trans ?_
      rw [HY.out, hk8, List.take_of_length_le (by rw [← Lib.size_eq]; omega)]
      rfl

set_option maxHeartbeats 400000 in
theorem rsum_walk (A : Option Addr) (cap : Nat) (ss : List ByteArray) (w : World) (hA : Strs w w.heap.size A ss) (hm : ss.length ≤ 9223372036854775807) (hx : ∀ x ∈ ss, x.size ≤ 9223372036854775807) :
    Calls Try.prog 10 #[.slice A ss.length cap] w fun e w' => e = .returned (.int .u32 (Crc.sum (Crc.cat ss) : Nat)) ∧ w = w' := by
  go_enter Try.func10, Try.ntmps10
  go_wp2_with fail
  go_loop [3, 4] (fun x i => ∃ k y : Nat, i = .int .i64 k ∧ k ≤ ss.length ∧ x = .int .u32 y ∧ y < 4294967296 ∧ Hid (y = Crc.behind 4294967295 (Crc.cat (ss.take k))))
    (fun _ i => ss.length - (intOf i).toNat)
  case atStart => exact ⟨0, 4294967295, rfl, by omega, rfl, by omega, Lib.hid rfl⟩
  case round =>
    obtain ⟨k, y, rfl, hk, rfl, hy, HY⟩ := hrel
    by_cases hlt : k < ss.length
    · rcases hA with hA | ⟨b, off, rfl, hblt, hc⟩
      · omega
      · obtain ⟨z, hze⟩ : ∃ z, z = ss[k]'hlt := ⟨_, rfl⟩
        have hcell : w.cell? ⟨b, off + k, none⟩ = some (.string z) := by rw [hze]; exact hc k hlt
        have hz9 : z.size ≤ 9223372036854775807 := hx z (by rw [hze]; exact List.getElem_mem hlt)
        have HN : Hid (Crc.cat (ss.take (k + 1)) = Crc.cat (ss.take k) ++ z.data.toList) := Lib.hid (by rw [List.take_succ_eq_append_getElem hlt, Crc.cat_snoc, hze])
        clear hc hze hx
        go_wp2_with fail
        go_loop [3, 5] (fun x i => ∃ j x2 : Nat, i = .int .i64 j ∧ j ≤ z.size ∧ x = .int .u32 x2 ∧ x2 < 4294967296 ∧ Hid (x2 = Crc.behind y (z.data.toList.take j)))
          (fun _ i => z.size - (intOf i).toNat)
        case atStart => exact ⟨0, y, rfl, by omega, rfl, hy, Lib.hid rfl⟩
        case round =>
          obtain ⟨j, x2, rfl, hj, rfl, hx2, HX2⟩ := hrel
          by_cases hjt : j < z.size
          · have HN2 := Lib.hid (behind_take y z.data.toList j (by rw [← Lib.size_eq]; exact hjt))
            go_wp2_with fail
            refine (rin_walk x2 (z[j]'hjt) _ hx2).mono ?_
            rintro e w' ⟨rfl, rfl⟩
            go_wp2
            go_round
            case rel =>
              refine ⟨j + 1, Crc.run x2 (Crc.bits8 (z[j]'hjt).toNat), by go_num, by omega, rfl, Crc.run_lt _ _ hx2, Lib.hid ?_⟩
              rw [HN2.out, ← HX2.out]
              rfl
            case measure => simp [intOf]; omega
          · go_wp2
            go_round
            case rel =>
              refine ⟨k + 1, x2, by go_num, by omega, rfl, hx2, Lib.hid ?_⟩
              rw [HX2.out, List.take_of_length_le (by rw [← Lib.size_eq]; omega), HN.out, Crc.behind_append, ← HY.out]
            case measure => simp [intOf]; omega
    · go_wp2
      go_ret
      refine ⟨?_, rfl⟩
      have hc := comp y hy
      refine (ret_u32 hc).trans ?_
      rw [HY.out, List.take_of_length_le (by omega)]
      rfl
end Go.Proofs.Ytleaeidjdjhbiaa
