/- The walk of OctetsLists: any texts are laid, and at any place of bytes of at most 2^42 some are taken, as the document says. -/
import Derived.Test.YtjaephhnaocpcaaOctAwake
import Derived.Test.YtjaephhnaocpcaaOctRTList
import Derived.Test.YtjaephhnaocpcaaOctBack
namespace Go.Proofs.Ytjaephhnaocpcaa
open Go.RowKit

/-- What the statement's own loop counts. -/
def count : List ByteArray → Nat
  | [] => 0
  | s :: r => min s.size 100000 + 9 + count r

theorem count_append : ∀ a b : List ByteArray, count (a ++ b) = count a + count b
  | [], b => by simp [count]
  | s :: a, b => by simp [count, count_append a b]; omega

theorem count_snoc (ss : List ByteArray) (k : Nat) (h : k < ss.length) : count (ss.take (k + 1)) = count (ss.take k) + (min (ss[k]'h).size 100000 + 9) := by
  rw [List.take_succ_eq_append_getElem h, count_append]
  simp [count]

theorem count_len : ∀ ss : List ByteArray, 9 * ss.length ≤ count ss
  | [] => Nat.zero_le _
  | s :: r => by
    have := count_len r
    rw [count, List.length_cons]
    omega

theorem count_texts : ∀ ss : List ByteArray, count ss ≤ 100000 → (Oct.texts ss).length ≤ 2 * count ss ∧ ∀ s ∈ ss, s.size < 100000
  | [], _ => by simp [Oct.texts, count]
  | s :: r, h => by
    rw [count] at h
    obtain ⟨h1, h2⟩ := count_texts r (by omega)
    have h3 : s.size < 100000 := by omega
    have h4 := (Oct.num_le9 s.size (by omega)).2
    refine ⟨?_, fun x hx => ?_⟩
    · rw [Oct.texts, Oct.text, List.length_append, List.length_append, ← Lib.size_eq, count]
      omega
    · rcases List.mem_cons.1 hx with rfl | hx
      · exact h3
      · exact h2 x hx

theorem count_list {ss : List ByteArray} (h : count ss ≤ 100000) : (Oct.list ss).length ≤ 200009 ∧ ss.length ≤ 11111 := by
  have h1 := (count_texts ss h).1
  have h2 := count_len ss
  have h3 := (Oct.num_le9 ss.length (by omega)).2
  rw [Oct.list, List.length_append]
  omega

theorem Strs.more {w : World} {B B' : Nat} {A : Option Addr} {ss : List ByteArray} (h : Strs w B A ss) (hB : B ≤ B') : Strs w B' A ss := by
  rcases h with h | ⟨b, off, hA, hlt, hc⟩
  · exact Or.inl h
  · exact Or.inr ⟨b, off, hA, Nat.lt_of_lt_of_le hlt hB, hc⟩

theorem Strs.next {w w' : World} {A : Option Addr} {ss : List ByteArray} (h : Strs w w.heap.size A ss) (hb : Below w.heap.size w w') : Strs w' w'.heap.size A ss :=
  (h.keep hb (Nat.le_refl _)).more hb.size

set_option maxRecDepth 100000 in
set_option maxHeartbeats 1000000 in
theorem lists_walk (A : Option Addr) (cap : Nat) (ss : List ByteArray) (s : ByteArray) (p : Int) (w : World) (hA : Strs w w.heap.size A ss) (hm : ss.length ≤ 9223372036854775807) (hx : ∀ x ∈ ss, x.size ≤ 9223372036854775807) (hs : s.size ≤ 4398046511104) :
    Calls Try.prog 6 #[.slice A ss.length cap, .string s, .int .i64 p] w fun e w' => e = .returned (.bool true) ∧ Below w.heap.size w w' := by
  go_enter Try.func6, Try.ntmps6
  go_wp2_with fail
  go_loopw [7, 8] (fun n i wr => ∃ k : Nat, i = .int .i64 k ∧ n = .int .i64 (count (ss.take k) : Nat) ∧ k ≤ ss.length ∧ count (ss.take k) ≤ 100000 ∧ Below w.heap.size w wr)
    (fun _ i _ => ss.length - (intOf i).toNat)
  case atStart => exact ⟨0, rfl, rfl, Nat.zero_le _, by simp [count], Below.refl _ _⟩
  case round =>
    obtain ⟨k, rfl, rfl, hk, hcn, hb⟩ := hrel
    have hsz := hb.size
    by_cases hlt : k < ss.length
    · rcases hA with hA | ⟨b, off, rfl, hblt, hc⟩
      · omega
      · obtain ⟨x, hxe⟩ : ∃ x, x = ss[k]'hlt := ⟨_, rfl⟩
        have hcell : wr.cell? ⟨b, off + k, none⟩ = some (.string x) := by rw [hxe]; exact (hb.cell (p := ⟨b, off + k, none⟩) hblt).trans (hc k hlt)
        have hx9 : x.size ≤ 9223372036854775807 := hx x (by rw [hxe]; exact List.getElem_mem hlt)
        have hst := count_snoc ss k hlt
        rw [← hxe] at hst
        have HST := Lib.hid hst
        clear hst hxe hc hx
        obtain ⟨c, hce⟩ : ∃ c, c = count (ss.take k) := ⟨_, rfl⟩
        rw [← hce] at HST hcn ⊢
        clear hce
        go_wp2_with fail
        · refine (awake _).mono ?_
          rintro e w1 ⟨rfl, hb1⟩
          go_wp2
          go_ret
          exact ⟨rfl, hb.trans (hb1.mono hsz)⟩
        · have hle : (c : Int) + (min (x.size : Int) 100000 + 9) ≤ 100000 := by assumption
          have hc2 : count (ss.take (k + 1)) ≤ 100000 := by rw [HST.out]; omega
          go_roundw
          case rel =>
            refine ⟨k + 1, by go_num, ?_, by omega, hc2, hb⟩
            rw [HST.out]
            exact congrArg (Value.int .i64) (by omega)
          case measure => simp [intOf]; omega
    · have hcs : count ss ≤ 100000 := by rw [List.take_of_length_le (by omega)] at hcn; exact hcn
      obtain ⟨hll, hlc⟩ := count_list hcs
      have hl9 : (Oct.list ss).length ≤ 140737488355328 := by omega
      have hS0 := hA.keep hb (Nat.le_refl _)
      obtain ⟨tt, to, e0, hT⟩ : ∃ tt to e0, Oct.takeList s.data.toList p = (tt, to, e0) := ⟨_, _, _, rfl⟩
      have HT := Lib.hid hT
      have htt : tt.length ≤ 9223372036854775807 := by
        have := Oct.takeList_short hT
        rw [← Lib.size_eq] at this
        omega
      clear hT hcn hcs hll hlc hx hA
      go_wp2_with fail
      refine (takel s p _ (by omega) (Or.inr (by omega))).mono ?_
      rintro e w1 ⟨A1, cap1, he, hS1, hb1⟩
      rw [HT.out] at he hS1
      subst he
      go_wp2_with fail
      refine (rtakel s p _ (by omega) (Or.inr (by omega))).mono ?_
      rintro e w2 ⟨A2, cap2, he, hS2, hb2⟩
      rw [HT.out] at he hS2
      subst he
      have hS02 := (hS0.more hsz).next (hb1.trans (hb2.mono hb1.size))
      have hS12 := hS1.next hb2
      have hb3 := (hb.trans (hb1.mono hsz)).trans (hb2.mono (hb.trans (hb1.mono hsz)).size)
      clear hS1 hb1 hb2 hb hsz hS0
      go_wp2_with fail
      refine (list_walk A cap ss _ hS02 hm hl9).mono ?_
      rintro e w3 ⟨rfl, hb4⟩
      go_wp2_with fail
      refine (rlist_walk A cap ss _ (hS02.next hb4) hm hl9).mono ?_
      rintro e w4 ⟨rfl, hb5⟩
      have hb6 := hb4.trans (hb5.mono hb4.size)
      go_wp2_with fail
      refine (same_walk A1 A2 cap1 cap2 tt.length tt _ (hS12.next hb6) (hS2.next hb6) (Lib.hid rfl) htt).mono ?_
      rintro e w5 ⟨rfl, hb7⟩
      have hb8 := hb6.trans (hb7.mono hb6.size)
      go_wp2_with fail
      refine (awake _).mono ?_
      rintro e w6 ⟨rfl, hb9⟩
      have hb10 := hb8.trans (hb9.mono hb8.size)
      go_wp2
      go_ret
      exact ⟨rfl, hb3.trans (hb10.mono hb3.size)⟩
end Go.Proofs.Ytjaephhnaocpcaa
