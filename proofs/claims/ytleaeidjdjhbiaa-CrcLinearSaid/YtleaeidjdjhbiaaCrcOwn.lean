/- The program's sums: Crc.sum, Crc.more. -/
import Derived.Test.YtleaeidjdjhbiaaCrcRef
import Derived.Deep.RegionHeld3
namespace Go.Proofs.Ytleaeidjdjhbiaa
open Go.RowKit

theorem it_next : ∀ (k y : Nat), Crc.it (k + 1) y = Crc.shift (Crc.it k y)
  | 0, _ => rfl
  | k + 1, y => by rw [Crc.it, it_next k, Crc.it]

theorem it_lt : ∀ (k y : Nat), y < 4294967296 → Crc.it k y < 4294967296
  | 0, _, h => h
  | k + 1, y, h => by rw [it_next]; exact Crc.step_lt _ 0 (it_lt k y h)

theorem word_bits8 (b : Nat) (h : b < 256) : Crc.word (Crc.bits8 b) = b := by
  simp only [Crc.bits8, Crc.word]; omega

theorem byte_run (r b : Nat) (h : b < 256) : Crc.it 8 (r ^^^ b) = Crc.run r (Crc.bits8 b) := by
  rw [Crc.run_word _ _ (Crc.bits8_lt b), word_bits8 b h]; rfl

theorem byte_on (r : Nat) (b : UInt8) (hr : r < 4294967296) : bits .xor .u32 (r : Int) (b.toNat : Int) = ((r ^^^ b.toNat : Nat) : Int) :=
  u32_xor_nat r b.toNat hr (by have := b.toNat_lt; omega)

theorem turn_poly (y : Nat) (hy : y < 4294967296) :
    bits .xor .u32 ((y : Int) / 2) (bits .and .u32 2197175160 (-bits .and .u32 (y : Int) 1 % 4294967296)) = ((Crc.shift y : Nat) : Int) := by
  have h1 : bits .and .u32 (y : Int) 1 = ((y % 2 : Nat) : Int) := by
    have := u32_and_nat y 1 hy (by omega)
    rw [nat_mask1] at this
    exact this
  rw [h1, Crc.shift_eq]
  by_cases h : y % 2 = 0
  · rw [h, if_pos rfl]
    have h2 : bits .and .u32 2197175160 (-((0 : Nat) : Int) % 4294967296) = ((2197175160 &&& 0 : Nat) : Int) := u32_and_nat 2197175160 0 (by omega) (by omega)
    rw [h2, Nat.and_zero]
    have h3 := u32_xor_nat (y / 2) 0 (by omega) (by omega)
    rw [show ((y : Int) / 2) = ((y / 2 : Nat) : Int) from by omega]
    exact h3
  · have h' : y % 2 = 1 := by omega
    rw [h', if_neg (by omega)]
    have h2 : bits .and .u32 2197175160 (-((1 : Nat) : Int) % 4294967296) = ((2197175160 &&& 4294967295 : Nat) : Int) := u32_and_nat 2197175160 4294967295 (by omega) (by omega)
    rw [h2, show (2197175160 &&& 4294967295 : Nat) = 2197175160 from by decide]
    exact xor_poly y hy

set_option maxHeartbeats 400000 in
theorem in_walk (r : Nat) (b : UInt8) (w : World) (hr : r < 4294967296) :
    Calls Try.prog 15 #[.int .u32 r, .int .u8 b.toNat] w fun e w' => e = .returned (.int .u32 (Crc.run r (Crc.bits8 b.toNat) : Nat)) ∧ w = w' := by
  have hb8 := b.toNat_lt
  have H8 := Lib.hid (byte_run r b.toNat hb8)
  have hx : r ^^^ b.toNat < 4294967296 := Nat.xor_lt_two_pow (n := 32) hr (by omega)
  go_enter Try.func15, Try.ntmps15
  go_wp2_with fail
  rw [byte_on r b hr]
  generalize r ^^^ b.toNat = z at *
  go_loop [0, 10] (fun x i => ∃ k y : Nat, i = .int .i64 k ∧ k ≤ 8 ∧ x = .int .u32 y ∧ y < 4294967296 ∧ Hid (y = Crc.it k z))
    (fun _ i => 8 - (intOf i).toNat)
  case atStart => exact ⟨0, z, rfl, by omega, rfl, hx, Lib.hid rfl⟩
  case round =>
    obtain ⟨k, y, rfl, hk, rfl, hy, HY⟩ := hrel
    by_cases hlt : k < 8
    · go_wp2
      refine ⟨⟨k + 1, Crc.shift y, by go_num, by omega, by rw [turn_poly y hy], Crc.step_lt y 0 hy, Lib.hid ?_⟩, ?_⟩
      · rw [it_next, ← HY.out]
      · simp [intOf]; omega
    · go_wp2
      go_ret
      refine ⟨?_, rfl⟩
      have hk8 : k = 8 := by omega
      rw [HY.out, hk8, H8.out]
      rfl

set_option maxHeartbeats 400000 in
theorem more_pure (m : Nat) (s : ByteArray) (w : World) (hm : m < 4294967296) (hs : s.size ≤ 9223372036854775807) :
    Calls Try.prog 12 #[.int .u32 m, .string s] w fun e w' => e = .returned (.int .u32 (Crc.more m s.data.toList : Nat)) ∧ w = w' := by
  go_enter Try.func12, Try.ntmps12
  go_wp2_with fail
  rw [comp m hm]
  go_loop [5, 11] (fun x i => ∃ k y : Nat, i = .int .i64 k ∧ k ≤ s.size ∧ x = .int .u32 y ∧ y < 4294967296 ∧ Hid (y = Crc.behind (4294967295 - m) (s.data.toList.take k)))
    (fun _ i => s.size - (intOf i).toNat)
  case atStart => exact ⟨0, 4294967295 - m, rfl, by omega, rfl, by omega, Lib.hid rfl⟩
  case round =>
    obtain ⟨k, y, rfl, hk, rfl, hy, HY⟩ := hrel
    by_cases hlt : k < s.size
    · have HN := Lib.hid (behind_take (4294967295 - m) s.data.toList k (by rw [← Lib.size_eq]; exact hlt))
      go_wp2_with fail
      refine (in_walk y (s[k]'hlt) _ hy).mono ?_
      rintro e w' ⟨rfl, rfl⟩
      go_wp2
      go_round
      case rel =>
        refine ⟨k + 1, Crc.run y (Crc.bits8 (s[k]'hlt).toNat), by go_num, by omega, rfl, Crc.run_lt _ _ hy, Lib.hid ?_⟩
        rw [HN.out, ← HY.out]
        rfl
      case measure => simp [intOf]; omega
    · go_wp2
      go_ret
      refine ⟨?_, rfl⟩
      have hk8 : k = s.size := by omega
      have hc := comp y hy
      refine (ret_u32 hc).trans ?_
      rw [HY.out, hk8, List.take_of_length_le (by rw [← Lib.size_eq]; omega)]
      rfl

theorem sum_none : Crc.sum [] = 0 := by
  rw [Crc.sum, Crc.behind, Crc.bitsOf, Crc.run_nil, Nat.sub_self]

set_option maxHeartbeats 400000 in
theorem sum_pure (A : Option Addr) (cap : Nat) (ss : List ByteArray) (w : World) (hA : Strs w w.heap.size A ss) (hm : ss.length ≤ 9223372036854775807) (hx : ∀ x ∈ ss, x.size ≤ 9223372036854775807) :
    Calls Try.prog 9 #[.slice A ss.length cap] w fun e w' => e = .returned (.int .u32 (Crc.sum (Crc.cat ss) : Nat)) ∧ w = w' := by
  go_enter Try.func9, Try.ntmps9
  go_wp2_with fail
  go_loop [3, 8] (fun x i => ∃ k y : Nat, i = .int .i64 k ∧ k ≤ ss.length ∧ x = .int .u32 y ∧ y < 4294967296 ∧ Hid (y = Crc.sum (Crc.cat (ss.take k))))
    (fun _ i => ss.length - (intOf i).toNat)
  case atStart => exact ⟨0, 0, rfl, by omega, rfl, by omega, Lib.hid (by rw [List.take_zero, Crc.cat]; exact sum_none.symm)⟩
  case round =>
    obtain ⟨k, y, rfl, hk, rfl, hy, HY⟩ := hrel
    by_cases hlt : k < ss.length
    · rcases hA with hA | ⟨b, off, rfl, hblt, hc⟩
      · omega
      · obtain ⟨z, hze⟩ : ∃ z, z = ss[k]'hlt := ⟨_, rfl⟩
        have hcell : w.cell? ⟨b, off + k, none⟩ = some (.string z) := by rw [hze]; exact hc k hlt
        have hz9 : z.size ≤ 9223372036854775807 := hx z (by rw [hze]; exact List.getElem_mem hlt)
        have HN : Hid (Crc.cat (ss.take (k + 1)) = Crc.cat (ss.take k) ++ z.data.toList) := Lib.hid (by rw [List.take_succ_eq_append_getElem hlt, Crc.cat_snoc, hze])
        clear hc hze hx
        go_wp2_with fail
        refine (more_pure y z _ hy hz9).mono ?_
        rintro e w' ⟨rfl, rfl⟩
        go_wp2
        go_round
        case rel =>
          refine ⟨k + 1, Crc.more y z.data.toList, by go_num, by omega, rfl, ?_, Lib.hid ?_⟩
          · unfold Crc.more; omega
          · rw [HN.out, HY.out, Crc.more_sum]
        case measure => simp [intOf]; omega
    · go_wp2
      go_ret
      refine ⟨?_, rfl⟩
      refine ret_u32 (congrArg Int.ofNat ?_ : (y : Int) = _)
      rw [HY.out, List.take_of_length_le (by omega)]

theorem more_walk (m : Nat) (s : ByteArray) (w : World) (hm : m < 4294967296) (hs : s.size ≤ 9223372036854775807) :
    Calls Try.prog 12 #[.int .u32 m, .string s] w fun e w' => e = .returned (.int .u32 (Crc.more m s.data.toList : Nat)) ∧ Below w.heap.size w w' :=
  (more_pure m s w hm hs).mono fun _ _ h => ⟨h.1, h.2 ▸ Below.refl _ _⟩

theorem sum_walk (A : Option Addr) (cap : Nat) (ss : List ByteArray) (w : World) (hA : Strs w w.heap.size A ss) (hm : ss.length ≤ 9223372036854775807) (hx : ∀ x ∈ ss, x.size ≤ 9223372036854775807) :
    Calls Try.prog 9 #[.slice A ss.length cap] w fun e w' => e = .returned (.int .u32 (Crc.sum (Crc.cat ss) : Nat)) ∧ Below w.heap.size w w' :=
  (sum_pure A cap ss w hA hm hx).mono fun _ _ h => ⟨h.1, h.2 ▸ Below.refl _ _⟩
end Go.Proofs.Ytleaeidjdjhbiaa
