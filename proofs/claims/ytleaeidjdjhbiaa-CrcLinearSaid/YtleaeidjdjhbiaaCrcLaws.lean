/- The walks of CrcSums, CrcMores, CrcParts. -/
import Derived.Test.YtleaeidjdjhbiaaCrcAwake
namespace Go.Proofs.Ytleaeidjdjhbiaa
open Go.RowKit

set_option maxRecDepth 100000 in
set_option maxHeartbeats 1000000 in
theorem sums_walk (A : Option Addr) (cap : Nat) (ss : List ByteArray) (w : World) (hA : Strs w w.heap.size A ss) (hm : ss.length ≤ 9223372036854775807) (hx : ∀ x ∈ ss, x.size ≤ 9223372036854775807) :
    Calls Try.prog 3 #[.slice A ss.length cap] w fun e w' => e = .returned (.bool true) ∧ Below w.heap.size w w' := by
  have HX := Lib.hid hx
  clear hx
  by_cases h : ccount ss ≤ 100000
  · have hd := Lib.hid (decide_eq_true h)
    clear h
    go_enter Try.func3, Try.ntmps3
    go_wp2_with fail
    refine (small_walk A cap ss w hA hm HX.out).mono ?_
    rintro e w' ⟨rfl, rfl⟩
    rw [hd.out]
    go_wp2_with fail
    refine (sum_walk A cap ss w hA hm HX.out).mono ?_
    rintro e w1 ⟨rfl, hb1⟩
    go_wp2_with fail
    refine (rsum_walk A cap ss w1 (hA.next hb1) hm HX.out).mono ?_
    rintro e w2 ⟨rfl, rfl⟩
    go_wp2_with fail
    refine (cawake _).mono ?_
    rintro e w3 ⟨rfl, hb3⟩
    go_wp2
    go_ret
    exact ⟨rfl, hb1.trans (hb3.mono hb1.size)⟩
  · have hd := Lib.hid (decide_eq_false h)
    clear h
    go_enter Try.func3, Try.ntmps3
    go_wp2_with fail
    refine (small_walk A cap ss w hA hm HX.out).mono ?_
    rintro e w' ⟨rfl, rfl⟩
    rw [hd.out]
    go_wp2_with fail
    refine (cawake _).mono ?_
    rintro e w3 ⟨rfl, hb3⟩
    go_wp2
    go_ret
    exact ⟨rfl, hb3⟩

set_option maxRecDepth 100000 in
set_option maxHeartbeats 1000000 in
theorem mores_walk (m : Nat) (s : ByteArray) (w : World) (hm : m < 4294967296) (hs : s.size ≤ 9223372036854775807) :
    Calls Try.prog 4 #[.int .u32 m, .string s] w fun e w' => e = .returned (.bool true) ∧ Below w.heap.size w w' := by
  by_cases h : (100000 : Int) < (s.size : Int)
  · have hd : decide ((100000 : Int) < (s.size : Int)) = true := decide_eq_true h
    go_enter Try.func4, Try.ntmps4
    go_wp2_with fail
    refine (cawake _).mono ?_
    rintro e w3 ⟨rfl, hb3⟩
    go_wp2
    go_ret
    exact ⟨rfl, hb3⟩
  · have hd : decide ((100000 : Int) < (s.size : Int)) = false := decide_eq_false h
    go_enter Try.func4, Try.ntmps4
    go_wp2_with fail
    refine (more_walk m s _ hm hs).mono ?_
    rintro e w1 ⟨rfl, hb1⟩
    go_wp2_with fail
    refine (rmore_walk m s _ hm hs).mono ?_
    rintro e w2 ⟨rfl, rfl⟩
    go_wp2_with fail
    refine (cawake _).mono ?_
    rintro e w3 ⟨rfl, hb3⟩
    go_wp2
    go_ret
    exact ⟨rfl, hb1.trans (hb3.mono hb1.size)⟩

theorem ba_cat (a : List UInt8) (z : ByteArray) : (⟨a.toArray⟩ : ByteArray) ++ z = ⟨(a ++ z.data.toList).toArray⟩ := by
  apply ByteArray.ext
  simp [ByteArray.data_append]

set_option maxRecDepth 100000 in
set_option maxHeartbeats 1000000 in
theorem parts_walk (A : Option Addr) (cap : Nat) (ss : List ByteArray) (w : World) (hA : Strs w w.heap.size A ss) (hm : ss.length ≤ 9223372036854775807) (hx : ∀ x ∈ ss, x.size ≤ 9223372036854775807) :
    Calls Try.prog 5 #[.slice A ss.length cap] w fun e w' => e = .returned (.bool true) ∧ Below w.heap.size w w' := by
  have HX := Lib.hid hx
  clear hx
  by_cases h : ccount ss ≤ 100000
  · have hd := Lib.hid (decide_eq_true h)
    obtain ⟨hcl, hsm⟩ := ccount_cat ss h
    go_enter Try.func5, Try.ntmps5
    go_wp2_with fail
    refine (small_walk A cap ss w hA hm HX.out).mono ?_
    rintro e w' ⟨rfl, rfl⟩
    rw [hd.out]
    go_wp2_with fail
    refine (sum_walk none 0 [] w (Or.inl rfl) (by decide) (by simp)).mono ?_
    rintro e w1 ⟨rfl, hb1⟩
    go_wp2_with fail
    go_loopw [3, 4, 5] (fun a x i wr => ∃ k : Nat, i = .int .i64 k ∧ k ≤ ss.length ∧ a = .string ⟨(Crc.cat (ss.take k)).toArray⟩ ∧ x = .int .u32 (Crc.sum (Crc.cat (ss.take k)) : Nat) ∧ Below w.heap.size w wr)
      (fun _ _ i _ => ss.length - (intOf i).toNat)
    case atStart => exact ⟨0, rfl, Nat.zero_le _, rfl, rfl, hb1⟩
    case round =>
      clear hb1
      obtain ⟨k, rfl, hk, rfl, rfl, hb⟩ := hrel
      have hsz := hb.size
      by_cases hlt : k < ss.length
      · rcases hA with hA | ⟨b, off, rfl, hblt, hc⟩
        · omega
        · obtain ⟨z, hze⟩ : ∃ z, z = ss[k]'hlt := ⟨_, rfl⟩
          have hcell : wr.cell? ⟨b, off + k, none⟩ = some (.string z) := by rw [hze]; exact (hb.cell (p := ⟨b, off + k, none⟩) hblt).trans (hc k hlt)
          have hz9 : z.size < 100000 := hsm z (by rw [hze]; exact List.getElem_mem hlt)
          have hcat : Crc.cat (ss.take (k + 1)) = Crc.cat (ss.take k) ++ z.data.toList := by rw [List.take_succ_eq_append_getElem hlt, Crc.cat_snoc, hze]
          have hle : (Crc.cat (ss.take k)).length ≤ (Crc.cat ss).length := Crc.cat_take ss k
          have HN := Lib.hid hcat
          have hsl := Crc.sum_lt (Crc.cat (ss.take k))
          clear hcat hze hc
          go_wp2_with fail
          refine (more_walk _ z _ hsl (by omega)).mono ?_
          rintro e w2 ⟨rfl, hb2⟩
          go_wp2
          go_roundw
          case rel =>
            refine ⟨k + 1, by go_num, by omega, ?_, ?_, hb.trans (hb2.mono hsz)⟩
            · rw [HN.out]
              exact congrArg Value.string (ba_cat _ z)
            · rw [HN.out, ← Crc.more_sum]
          case measure => simp [intOf]; omega
      · have HT : Hid (ss.take k = ss) := Lib.hid (List.take_of_length_le (by omega))
        have hsA := (hA.keep hb (Nat.le_refl _)).more hsz
        rw [HT.out]
        have hc9 : (⟨(Crc.cat ss).toArray⟩ : ByteArray).size ≤ 9223372036854775807 := by rw [size_list]; omega
        have hcc : Crc.sum (Crc.cat ss) = Crc.sum (Crc.cat [⟨(Crc.cat ss).toArray⟩]) := by simp [Crc.cat]
        have HCC := Lib.hid hcc
        clear hcc hcl
        go_wp2_with fail
        refine (sum_walk A cap ss _ hsA hm HX.out).mono ?_
        rintro e w2 ⟨rfl, hb2⟩
        go_wp2_with fail
        refine (sum_new [⟨(Crc.cat ss).toArray⟩] w2 _ 1 (Crc.sum (Crc.cat ss)) rfl rfl (by simpa using hc9) (show (1 : Nat) ≤ 9223372036854775807 by decide) HCC.out).mono ?_
        rintro e w3 ⟨rfl, hb3⟩
        go_wp2_with fail
        refine (sum_new [⟨(Crc.cat ss).toArray⟩] w3 _ 1 (Crc.sum (Crc.cat ss)) rfl rfl (by simpa using hc9) (show (1 : Nat) ≤ 9223372036854775807 by decide) HCC.out).mono ?_
        rintro e w4 ⟨rfl, hb4⟩
        have hb5 := hb.trans (hb2.mono hsz)
        have hb6 := hb5.trans (hb3.mono hb5.size)
        have hb7 := hb6.trans (hb4.mono hb6.size)
        go_wp2_with fail
        refine (cawake _).mono ?_
        rintro e w5 ⟨rfl, hb8⟩
        go_wp2
        go_ret
        exact ⟨rfl, hb7.trans (hb8.mono hb7.size)⟩
  · have hd := Lib.hid (decide_eq_false h)
    clear h
    go_enter Try.func5, Try.ntmps5
    go_wp2_with fail
    refine (small_walk A cap ss w hA hm HX.out).mono ?_
    rintro e w' ⟨rfl, rfl⟩
    rw [hd.out]
    go_wp2_with fail
    refine (cawake _).mono ?_
    rintro e w3 ⟨rfl, hb3⟩
    go_wp2
    go_ret
    exact ⟨rfl, hb3⟩
end Go.Proofs.Ytleaeidjdjhbiaa
