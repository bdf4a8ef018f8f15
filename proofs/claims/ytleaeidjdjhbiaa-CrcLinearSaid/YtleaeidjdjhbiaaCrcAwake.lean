/- The probe and the measure of the statements of layer 2. -/
import Derived.Test.YtleaeidjdjhbiaaCrcOwn
namespace Go.Proofs.Ytleaeidjdjhbiaa
open Go.RowKit

/-- Sum of texts that the call has just laid in a new row. -/
theorem sum_new (ss : List ByteArray) (w : World) (cs : Array Value) (n m : Nat) (hcs : cs.toList = ss.map Value.string) (hn : n = ss.length) (hx : ∀ x ∈ ss, x.size ≤ 9223372036854775807) (hl : ss.length ≤ 9223372036854775807) (hv : m = Crc.sum (Crc.cat ss)) :
    Calls Try.prog 9 #[.slice (some ⟨w.heap.size, 0, none⟩) n n] (w.alloc (.cells cs 9)) fun e w' => e = .returned (.int .u32 m) ∧ Below w.heap.size w w' := by
  subst hn; subst hv
  have hS : Strs (w.alloc (.cells cs 9)) (w.alloc (.cells cs 9)).heap.size (some ⟨w.heap.size, 0, none⟩) ss := by
    refine Or.inr ⟨w.heap.size, 0, rfl, by simp, fun i hi => ?_⟩
    rw [Lib.cell_of_heap (heap_alloc_new w _), Nat.zero_add, ← Array.getElem?_toList, hcs]
    simp [hi]
  refine (sum_walk (some ⟨w.heap.size, 0, none⟩) ss.length ss _ hS hl hx).mono ?_
  rintro e w' ⟨rfl, hb⟩
  exact ⟨rfl, ((Below.refl _ _).alloc (Nat.le_refl _) _).trans (hb.mono (by simp))⟩

set_option maxRecDepth 100000 in
set_option maxHeartbeats 1000000 in
theorem cawake (w : World) : Calls Try.prog 11 #[] w fun e w' => e = .returned (.bool true) ∧ Below w.heap.size w w' := by
  have h9 : Crc.sum [49, 50, 51, 52, 53, 54, 55, 56, 57] = 3808858755 := by decide +kernel
  go_enter Try.func11, Try.ntmps11
  have h0 : Crc.sum [] = 0 := by decide +kernel
  go_wp2_with fail
  refine (sum_new [⟨#[49, 50, 51, 52, 53, 54, 55, 56, 57]⟩] w _ 1 3808858755 rfl rfl (by decide) (by decide) h9.symm).mono ?_
  rintro e w1 ⟨rfl, hb1⟩
  go_wp2_with fail
  refine (sum_new [⟨#[49, 50, 51, 52]⟩, ⟨#[53, 54, 55, 56, 57]⟩] w1 _ 2 3808858755 rfl rfl (by decide) (by decide) h9.symm).mono ?_
  rintro e w2 ⟨rfl, hb2⟩
  have hb3 := hb1.trans (hb2.mono hb1.size)
  go_wp2_with fail
  refine (sum_walk none 0 [] w2 (Or.inl rfl) (by decide) (by simp)).mono ?_
  rintro e w3 ⟨rfl, hb4⟩
  have h00 : Crc.sum (Crc.cat []) = 0 := h0
  rw [h00]
  go_wp2
  go_ret
  exact ⟨rfl, hb3.trans (hb4.mono hb3.size)⟩

/-- What 'small' counts. -/
def ccount : List ByteArray → Nat
  | [] => 0
  | s :: r => min s.size 100000 + 1 + ccount r

theorem ccount_append : ∀ a b : List ByteArray, ccount (a ++ b) = ccount a + ccount b
  | [], b => by simp [ccount]
  | s :: a, b => by simp [ccount, ccount_append a b]; omega

theorem ccount_snoc (ss : List ByteArray) (k : Nat) (h : k < ss.length) : ccount (ss.take (k + 1)) = ccount (ss.take k) + (min (ss[k]'h).size 100000 + 1) := by
  rw [List.take_succ_eq_append_getElem h, ccount_append]
  simp [ccount]

theorem ccount_take (ss : List ByteArray) (k : Nat) : ccount (ss.take k) ≤ ccount ss := by
  conv => rhs; rw [← List.take_append_drop k ss, ccount_append]
  omega

theorem ccount_cat : ∀ ss : List ByteArray, ccount ss ≤ 100000 → (Crc.cat ss).length + ss.length ≤ ccount ss ∧ ∀ s ∈ ss, s.size < 100000
  | [], _ => by simp [Crc.cat, ccount]
  | s :: r, h => by
    rw [ccount] at h
    obtain ⟨h1, h2⟩ := ccount_cat r (by omega)
    have h3 : s.size < 100000 := by omega
    refine ⟨?_, fun x hx => ?_⟩
    · rw [Crc.cat, List.length_append, ← Lib.size_eq, ccount, List.length_cons]
      omega
    · rcases List.mem_cons.1 hx with rfl | hx
      · exact h3
      · exact h2 x hx

theorem ite_min (a b : Int) : (if b < a then b else a) = min a b := by split <;> omega

set_option maxRecDepth 100000 in
set_option maxHeartbeats 1000000 in
theorem small_walk (A : Option Addr) (cap : Nat) (ss : List ByteArray) (w : World) (hA : Strs w w.heap.size A ss) (hm : ss.length ≤ 9223372036854775807) (hx : ∀ x ∈ ss, x.size ≤ 9223372036854775807) :
    Calls Try.prog 8 #[.slice A ss.length cap] w fun e w' => e = .returned (.bool (decide (ccount ss ≤ 100000))) ∧ w = w' := by
  go_enter Try.func8, Try.ntmps8
  go_wp2_with fail
  go_loop [3, 4] (fun n i => ∃ k : Nat, i = .int .i64 k ∧ n = .int .i64 (ccount (ss.take k) : Nat) ∧ k ≤ ss.length ∧ ccount (ss.take k) ≤ 100000)
    (fun _ i => ss.length - (intOf i).toNat)
  case atStart => exact ⟨0, rfl, rfl, Nat.zero_le _, by simp [ccount]⟩
  case round =>
    obtain ⟨k, rfl, rfl, hk, hcn⟩ := hrel
    by_cases hlt : k < ss.length
    · rcases hA with hA | ⟨b, off, rfl, hblt, hc⟩
      · omega
      · obtain ⟨z, hze⟩ : ∃ z, z = ss[k]'hlt := ⟨_, rfl⟩
        have hcell : w.cell? ⟨b, off + k, none⟩ = some (.string z) := by rw [hze]; exact hc k hlt
        have hz9 : z.size ≤ 9223372036854775807 := hx z (by rw [hze]; exact List.getElem_mem hlt)
        have hst := ccount_snoc ss k hlt
        rw [← hze] at hst
        have HST := Lib.hid hst
        clear hst hze hc hx
        obtain ⟨c, hce⟩ : ∃ c, c = ccount (ss.take k) := ⟨_, rfl⟩
        rw [← hce] at HST hcn ⊢
        clear hce
        go_wp2_with fail
        · have hle : 100000 < (c : Int) + ((if (100000 : Int) < (z.size : Int) then 100000 else (z.size : Int)) + 1) := by assumption
          rw [ite_min] at hle
          have h1 := ccount_take ss (k + 1)
          rw [HST.out] at h1
          have h2 : ¬ ccount ss ≤ 100000 := by omega
          go_ret
          refine ⟨?_, rfl⟩
          rw [decide_eq_false h2]
          rfl
        · have hle : 100000 < (c : Int) + ((if (100000 : Int) < (z.size : Int) then 100000 else (z.size : Int)) + 1) := by assumption
          rw [ite_min] at hle
          have h1 := ccount_take ss (k + 1)
          rw [HST.out] at h1
          have h2 : ¬ ccount ss ≤ 100000 := by omega
          go_ret
          refine ⟨?_, rfl⟩
          rw [decide_eq_false h2]
          rfl
        · have hle : (c : Int) + ((if (100000 : Int) < (z.size : Int) then 100000 else (z.size : Int)) + 1) ≤ 100000 := by assumption
          rw [ite_min] at hle
          have hc2 : ccount (ss.take (k + 1)) ≤ 100000 := by rw [HST.out]; omega
          go_round
          case rel =>
            refine ⟨k + 1, by go_num, ?_, by omega, hc2⟩
            rw [HST.out, ite_min]
            exact congrArg (Value.int .i64) (by omega)
          case measure => simp [intOf]; omega
    · go_wp2
      go_ret
      rw [List.take_of_length_le (by omega)] at hcn
      refine ⟨?_, rfl⟩
      rw [decide_eq_true hcn]
      rfl
end Go.Proofs.Ytleaeidjdjhbiaa
