/- The probe that each statement of layer 1 asks is true. -/
import Derived.Test.YtjaephhnaocpcaaOctTText
import Derived.Test.YtjaephhnaocpcaaOctRList
namespace Go.Proofs.Ytjaephhnaocpcaa
open Go.RowKit

theorem take_lit (s : ByteArray) (l : List UInt8) (p : Int) (n st e0 : Nat) (hl : s.data.toList = l) (h : Oct.takeNum l p = (n, st, e0)) (hs : s.size ≤ maxLen) (w : World) :
    Calls Try.prog 13 #[.string s, .int .i64 p] w fun e w' => e = .returned (.tuple #[.int .u64 n, .int .i64 st, .int .i64 e0]) ∧ Below w.heap.size w w' :=
  (take s p w hs).mono fun e w' ⟨he, hb⟩ => ⟨by rw [he, hl, h]; rfl, hb⟩

theorem number_lit (x : Int) (n : Nat) (l : List UInt8) (hx : x = n) (h : Oct.num n = l) (hn : n < 18446744073709551616) (w : World) :
    Calls Try.prog 10 #[.int .u64 x] w fun e w' => e = .returned (.string ⟨l.toArray⟩) ∧ Below w.heap.size w w' := by
  subst hx; subst h
  exact number n w hn

theorem text_lit (s : ByteArray) (l m : List UInt8) (hl : s.data.toList = l) (h : Oct.text l = m) (hs : s.size ≤ 9223372036854775000) (w : World) :
    Calls Try.prog 17 #[.string s] w fun e w' => e = .returned (.string ⟨m.toArray⟩) ∧ Below w.heap.size w w' := by
  subst hl; subst h
  exact text_walk s w hs

theorem list_lit (w : World) :
    Calls Try.prog 21 #[.slice (some ⟨w.heap.size, 0, none⟩) 2 2] (w.alloc (.cells #[.string ⟨#[97]⟩, .string ⟨#[]⟩] 9)) fun e w' => e = .returned (.string ⟨#[2, 1, 97, 0]⟩) ∧ Below w.heap.size w w' := by
  have hS : Strs (w.alloc (.cells #[.string ⟨#[97]⟩, .string ⟨#[]⟩] 9)) (w.alloc (.cells #[.string ⟨#[97]⟩, .string ⟨#[]⟩] 9)).heap.size (some ⟨w.heap.size, 0, none⟩) [⟨#[97]⟩, ⟨#[]⟩] := by
    refine Or.inr ⟨w.heap.size, 0, rfl, by simp, fun i hi => ?_⟩
    rw [Lib.cell_of_heap (heap_alloc_new w _)]
    match i, hi with
    | 0, _ => rfl
    | 1, _ => rfl
  have hl : Oct.list [⟨#[97]⟩, ⟨#[]⟩] = [2, 1, 97, 0] := by decide +kernel
  refine (list_walk (some ⟨w.heap.size, 0, none⟩) 2 [⟨#[97]⟩, ⟨#[]⟩] _ hS (by decide) (by rw [hl]; decide)).mono ?_
  rintro e w' ⟨rfl, hb⟩
  rw [hl]
  exact ⟨rfl, ((Below.refl _ _).alloc (Nat.le_refl _) _).trans (hb.mono (by simp))⟩

set_option maxRecDepth 100000 in
set_option maxHeartbeats 1000000 in
theorem awake (w : World) : Calls Try.prog 12 #[] w fun e w' => e = .returned (.bool true) ∧ Below w.heap.size w w' := by
  go_enter Try.func12, Try.ntmps12
  go_wp2_with fail
  refine (take_lit _ [120, 249, 1, 0] 1 256 4 0 rfl (by decide +kernel) (by unfold maxLen; decide) _).mono ?_
  rintro e w1 ⟨rfl, hb1⟩
  go_wp2_with fail
  refine (take_lit _ [248, 5] 0 0 0 11 rfl (by decide +kernel) (by unfold maxLen; decide) _).mono ?_
  rintro e w2 ⟨rfl, hb2⟩
  have hb3 := hb1.trans (hb2.mono hb1.size)
  clear hb1 hb2
  go_wp2_with fail
  refine (number_lit _ 248 [248, 248] rfl (by decide +kernel) (by omega) _).mono ?_
  rintro e w3 ⟨rfl, hb4⟩
  have hb5 := hb3.trans (hb4.mono hb3.size)
  clear hb3 hb4
  go_wp2_with fail
  refine (text_lit _ [97, 98] [2, 97, 98] rfl (by decide +kernel) (by decide) _).mono ?_
  rintro e w4 ⟨rfl, hb6⟩
  have hb7 := hb5.trans (hb6.mono hb5.size)
  clear hb5 hb6
  go_wp2_with fail
  refine (list_lit w4).mono ?_
  rintro e w5 ⟨rfl, hb8⟩
  go_wp2
  go_ret
  exact ⟨rfl, hb7.trans (hb8.mono hb7.size)⟩
end Go.Proofs.Ytjaephhnaocpcaa
