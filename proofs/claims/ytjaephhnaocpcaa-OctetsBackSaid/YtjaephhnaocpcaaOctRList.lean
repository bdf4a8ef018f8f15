/- The document's List (Oct.list) and its comparison of two lists of texts. -/
import Derived.Test.YtjaephhnaocpcaaOctList
namespace Go.Proofs.Ytjaephhnaocpcaa
open Go.RowKit

set_option maxHeartbeats 400000 in
theorem rlist_walk (A : Option Addr) (cap : Nat) (ss : List ByteArray) (w : World) (hA : Strs w w.heap.size A ss) (hm : ss.length ≤ 9223372036854775807) (hs : (Oct.list ss).length ≤ 140737488355328) :
    Calls Try.prog 22 #[.slice A ss.length cap] w fun e w' => e = .returned (.string ⟨(Oct.list ss).toArray⟩) ∧ Below w.heap.size w w' := by
  go_enter Try.func22, Try.ntmps22
  go_wp2_with fail
  refine (rnumber _ _ (by omega)).mono ?_
  rintro e w' ⟨rfl, hb⟩
  go_wp2_with fail
  go_loopw [3, 4] (fun o i wr => ∃ k : Nat, i = .int .i64 k ∧ k ≤ ss.length ∧ o = .string ⟨(Oct.num ss.length ++ Oct.texts (ss.take k)).toArray⟩ ∧ Below w.heap.size w wr)
    (fun _ i _ => ss.length - (intOf i).toNat)
  case atStart => exact ⟨0, rfl, Nat.zero_le _, by rw [List.take_zero, Oct.texts, List.append_nil], hb⟩
  case round =>
    obtain ⟨k, rfl, hk, rfl, hb2⟩ := hrel
    have hsz2 := hb2.size
    clear hb
    by_cases hlt : k < ss.length
    · obtain ⟨x, hx, hlen, hnext⟩ := list_next ss k hlt hs
      rcases hA with hA | ⟨b, off, rfl, hblt, hc⟩
      · omega
      · have hcell : wr.cell? ⟨b, off + k, none⟩ = some (.string x) := by rw [hx]; exact (hb2.cell (p := ⟨b, off + k, none⟩) hblt).trans (hc k hlt)
        have hxs : x.size ≤ 9223372036854775000 := hnext.1
        have hns := hnext.2
        clear hnext hx hc
        go_wp2_with fail
        refine (rtext_walk _ _ hxs).mono ?_
        rintro e w2 ⟨rfl, hb3⟩
        have hb4 := hb2.trans (hb3.mono hsz2)
        clear hb3 hb2 hsz2 hcell
        have hlen2 : (Oct.num ss.length).length + (Oct.texts (List.take k ss)).length + (Oct.text x.data.toList).length ≤ 140737488355328 := by rw [List.length_append] at hlen; exact hlen
        clear hlen
        go_wp2
        go_roundw
        case rel =>
          refine ⟨k + 1, by go_num, by omega, ?_, hb4⟩
          rw [hns]
          exact congrArg Value.string (Oct.ba_append _ _)
        case measure => simp [intOf]; omega
    · go_wp2
      go_ret
      refine ⟨?_, hb2⟩
      rw [Oct.list, List.take_of_length_le (by omega)]
      rfl

set_option maxHeartbeats 400000 in
/-- The same texts twice. -/
theorem same_walk (A B : Option Addr) (ca cb n : Nat) (ss : List ByteArray) (w : World) (hA : Strs w w.heap.size A ss) (hB : Strs w w.heap.size B ss) (hl : Hid (ss.length = n)) (hm : n ≤ 9223372036854775807) :
    Calls Try.prog 23 #[.slice A n ca, .slice B n cb] w fun e w' => e = .returned (.bool true) ∧ Below w.heap.size w w' := by
  go_enter Try.func23, Try.ntmps23
  go_wp2_with fail
  go_loopw [5] (fun i wr => ∃ k : Nat, i = .int .i64 k ∧ k ≤ n ∧ Below w.heap.size w wr)
    (fun i _ => n - (intOf i).toNat)
  case atStart => exact ⟨0, rfl, Nat.zero_le _, Below.refl _ _⟩
  case round =>
    obtain ⟨k, rfl, hk, hb2⟩ := hrel
    by_cases hlt : k < n
    · rcases hA with hA | ⟨b, off, rfl, hblt, hc⟩
      · rw [hl.out] at hA; omega
      · rcases hB with hB | ⟨b', off', rfl, hblt', hc'⟩
        · rw [hl.out] at hB; omega
        · have hk' : k < ss.length := by rw [hl.out]; exact hlt
          obtain ⟨x, hx⟩ : ∃ x, x = ss[k]'hk' := ⟨_, rfl⟩
          have hcell : wr.cell? ⟨b, off + k, none⟩ = some (.string x) := by rw [hx]; exact (hb2.cell (p := ⟨b, off + k, none⟩) hblt).trans (hc k hk')
          have hcell' : wr.cell? ⟨b', off' + k, none⟩ = some (.string x) := by rw [hx]; exact (hb2.cell (p := ⟨b', off' + k, none⟩) hblt').trans (hc' k hk')
          have hxx : (x.toList == x.toList) = true := by simp
          clear hx hc hc'
          go_wp2
          go_quiet (fail)
          go_wp2
          go_roundw
          case rel => exact ⟨k + 1, by go_num, by omega, below_drewN hb2 _⟩
          case measure => simp [intOf]; omega
    · go_wp2
      go_ret
      exact ⟨rfl, hb2⟩
end Go.Proofs.Ytjaephhnaocpcaa
