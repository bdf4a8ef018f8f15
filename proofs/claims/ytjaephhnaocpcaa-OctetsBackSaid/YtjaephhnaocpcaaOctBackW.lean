/- The walk of OctetsBack: numbers, texts and lists that were laid, with anything ahead and behind, are taken as they were. -/
import Derived.Test.YtjaephhnaocpcaaOctLists
namespace Go.Proofs.Ytjaephhnaocpcaa
open Go.RowKit

/-- The two texts around lie in a block of the call's own; nothing that was there has changed. -/
structure Around (w : World) (x y : ByteArray) (W : World) : Prop where
  c0 : W.cell? ⟨w.heap.size, 0, none⟩ = some (.string x)
  c1 : W.cell? ⟨w.heap.size, 1, none⟩ = some (.string y)
  lt : w.heap.size < W.heap.size
  bel : Below w.heap.size w W

theorem Around.next {w W W' : World} {x y : ByteArray} (h : Around w x y W) (hb : Below W.heap.size W W') : Around w x y W' :=
  ⟨(hb.cell (p := ⟨w.heap.size, 0, none⟩) h.lt).trans h.c0, (hb.cell (p := ⟨w.heap.size, 1, none⟩) h.lt).trans h.c1, Nat.lt_of_lt_of_le h.lt hb.size, h.bel.trans (hb.mono (Nat.le_of_lt h.lt))⟩

theorem Around.start (w : World) (x y : ByteArray) : Around w x y (w.alloc (.cells #[.string x, .string y] 46)) :=
  ⟨by simp [go_sem], by simp [go_sem], by simp, (Below.refl _ _).alloc (Nat.le_refl _) _⟩

theorem cat3 (x y : ByteArray) (m : List UInt8) : (x ++ ⟨m.toArray⟩ ++ y).data.toList = x.data.toList ++ (m ++ y.data.toList) := by
  simp [ByteArray.data_append]

theorem cat3_size (x y : ByteArray) (m : List UInt8) : (x ++ ⟨m.toArray⟩ ++ y).size = x.size + m.length + y.size := by
  rw [Lib.size_eq, cat3, List.length_append, List.length_append, ← Lib.size_eq, ← Lib.size_eq]
  omega

theorem cat3_drop (x y : ByteArray) (m : List UInt8) : (x ++ ⟨m.toArray⟩ ++ y).data.toList.drop x.size = m ++ y.data.toList := by
  rw [cat3, Lib.size_eq, List.drop_left' rfl]

set_option maxRecDepth 100000 in
set_option maxHeartbeats 4000000 in
theorem back_walk (n : Nat) (A : Option Addr) (cap : Nat) (ss : List ByteArray) (x y : ByteArray) (w : World) (hn : n < 18446744073709551616) (hA : Strs w w.heap.size A ss) (hm : ss.length ≤ 9223372036854775807) (hx : ∀ x ∈ ss, x.size ≤ 9223372036854775807) (hx0 : x.size ≤ 140737488351232) (hy0 : y.size ≤ 140737488351232) :
    Calls Try.prog 7 #[.int .u64 n, .slice A ss.length cap, .agg #[.string x, .string y]] w fun e w' => e = .returned (.bool true) ∧ Below w.heap.size w w' := by
  have hst := Around.start w x y
  go_enter Try.func7, Try.ntmps7
  go_wp2_with fail
  go_loopw [7, 8] (fun n i wr => ∃ k : Nat, i = .int .i64 k ∧ n = .int .i64 (count (ss.take k) : Nat) ∧ k ≤ ss.length ∧ count (ss.take k) ≤ 100000 ∧ Around w x y wr)
    (fun _ i _ => ss.length - (intOf i).toNat)
  case atStart => exact ⟨0, rfl, rfl, Nat.zero_le _, by simp [count], hst⟩
  case round =>
    clear hst
    obtain ⟨k, rfl, rfl, hk, hcn, hb⟩ := hrel
    by_cases hlt : k < ss.length
    · rcases hA with hA | ⟨b, off, rfl, hblt, hc⟩
      · omega
      · obtain ⟨z, hze⟩ : ∃ z, z = ss[k]'hlt := ⟨_, rfl⟩
        have hcell : wr.cell? ⟨b, off + k, none⟩ = some (.string z) := by rw [hze]; exact (hb.bel.cell (p := ⟨b, off + k, none⟩) hblt).trans (hc k hlt)
        have hz9 : z.size ≤ 9223372036854775807 := hx z (by rw [hze]; exact List.getElem_mem hlt)
        have hst := count_snoc ss k hlt
        rw [← hze] at hst
        have HST := Lib.hid hst
        clear hst hze hc hx
        obtain ⟨c, hce⟩ : ∃ c, c = count (ss.take k) := ⟨_, rfl⟩
        rw [← hce] at HST hcn ⊢
        clear hce
        go_wp2_with fail
        · refine (awake _).mono ?_
          rintro e w1 ⟨rfl, hb1⟩
          go_wp2
          go_ret
          exact ⟨rfl, (hb.next hb1).bel⟩
        · have hle : (c : Int) + (min (z.size : Int) 100000 + 9) ≤ 100000 := by assumption
          have hc2 : count (ss.take (k + 1)) ≤ 100000 := by rw [HST.out]; omega
          go_roundw
          case rel =>
            refine ⟨k + 1, by go_num, ?_, by omega, hc2, hb⟩
            rw [HST.out]
            exact congrArg (Value.int .i64) (by omega)
          case measure => simp [intOf]; omega
    · have hcs : count ss ≤ 100000 := by rw [List.take_of_length_le (by omega)] at hcn; exact hcn
      obtain ⟨hll, hlc⟩ := count_list hcs
      have hsm := (count_texts ss hcs).2
      have hl9 : (Oct.list ss).length ≤ 140737488355328 := by omega
      have hn9 := (Oct.num_le9 n hn).2
      have hT1 : Oct.takeNum (x ++ ⟨(Oct.num n).toArray⟩ ++ y).data.toList (x.size : Int) = (n, x.size + (Oct.num n).length, 0) :=
        Oct.takeNum_laid _ x.size n y.data.toList hn (by rw [← Lib.size_eq, cat3_size]; omega) (cat3_drop x y _)
      have HT1 := Lib.hid hT1
      have hS1 : (x ++ ⟨(Oct.num n).toArray⟩ ++ y).size ≤ maxLen := by rw [cat3_size]; unfold maxLen; omega
      have HS1 := Lib.hid hS1
      have HS2 : Hid ((x ++ ⟨(Oct.list ss).toArray⟩ ++ y).size ≤ 4611686018427387904) := Lib.hid (by rw [cat3_size]; omega)
      have HP2 : Hid (x.size ≤ (x ++ ⟨(Oct.list ss).toArray⟩ ++ y).size) := Lib.hid (by rw [cat3_size]; omega)
      have HX2 : Hid (∀ x ∈ ss, x.size ≤ 281474976710656) := Lib.hid (fun z hz => by have := hsm z hz; omega)
      clear hT1 hS1 hcn hcs hx
      have hc0 := hb.c0
      have hc1 := hb.c1
      go_wp2_with fail
      refine (number n _ hn).mono ?_
      rintro e w1 ⟨rfl, hb1⟩
      replace hb := hb.next hb1
      clear hb1 hc0 hc1
      have hc0 := hb.c0
      have hc1 := hb.c1
      go_wp2_with fail
      refine (take _ _ _ HS1.out).mono ?_
      rintro e w2 ⟨he, hb2⟩
      rw [HT1.out, tri] at he
      subst he
      replace hb := hb.next hb2
      clear hb2 hc0 hc1
      have hc0 := hb.c0
      have hc1 := hb.c1
      have hSA := (hA.keep hb.bel (Nat.le_refl _)).more (Nat.le_of_lt hb.lt)
      go_wp2_with fail
      refine (list_walk A cap ss _ hSA hm hl9).mono ?_
      rintro e w3 ⟨rfl, hb3⟩
      replace hb := hb.next hb3
      clear hc0 hc1
      have hc0 := hb.c0
      have hc1 := hb.c1
      have hSA3 := hSA.next hb3
      clear hSA hb3
      go_wp2_with fail
      refine (takel_laid _ x.size _ HS2.out ss y.data.toList HP2.out (by omega) HX2.out (cat3_drop x y _)).mono ?_
      rintro e w4 ⟨A1, cap1, rfl, hS1, hb4⟩
      replace hb := hb.next hb4
      clear hc0 hc1
      have hSA4 := hSA3.next hb4
      clear hSA3 hb4
      go_wp2_with fail
      refine (same_walk A1 A cap1 cap ss.length ss _ hS1 hSA4 (Lib.hid rfl) hm).mono ?_
      rintro e w5 ⟨rfl, hb5⟩
      replace hb := hb.next hb5
      clear hb5 hS1 hSA4
      go_wp2_with fail
      go_loopw [18] (fun i wr => ∃ j : Nat, i = .int .i64 j ∧ j ≤ ss.length ∧ Around w x y wr)
        (fun i _ => ss.length - (intOf i).toNat)
      case atStart => exact ⟨0, rfl, Nat.zero_le _, hb⟩
      case round =>
        clear hb hlt hk
        obtain ⟨j, rfl, hj, hb⟩ := hrel
        by_cases hlt : j < ss.length
        · rcases hA with hA | ⟨b, off, rfl, hblt, hc⟩
          · omega
          · obtain ⟨z, hze⟩ : ∃ z, z = ss[j]'hlt := ⟨_, rfl⟩
            have hcell : wr.cell? ⟨b, off + j, none⟩ = some (.string z) := by rw [hze]; exact (hb.bel.cell (p := ⟨b, off + j, none⟩) hblt).trans (hc j hlt)
            have hz5 : z.size ≤ 100000 := by have := hsm z (by rw [hze]; exact List.getElem_mem hlt); omega
            clear hze
            go_wp2_with fail
            refine (text_walk z _ (by omega)).mono ?_
            rintro e w6 ⟨rfl, hb6⟩
            have hcell6 : w6.cell? ⟨b, off + j, none⟩ = some (.string z) := (hb6.cell (p := ⟨b, off + j, none⟩) (Nat.lt_trans hblt hb.lt)).trans hcell
            replace hb := hb.next hb6
            clear hcell hb6
            have hc0 := hb.c0
            have hc1 := hb.c1
            have hz9 := (Oct.num_le9 z.size (by omega)).2
            have htl : (Oct.text z.data.toList).length ≤ 100009 := by rw [Oct.text, List.length_append, ← Lib.size_eq]; omega
            have hT3 : Oct.takeText (x ++ ⟨(Oct.text z.data.toList).toArray⟩ ++ y).data.toList (x.size : Int) = (z.data.toList, x.size + (Oct.text z.data.toList).length, 0) :=
              Oct.takeText_laid _ x.size z.data.toList y.data.toList (by rw [← Lib.size_eq]; omega) (by rw [← Lib.size_eq, cat3_size]; omega) (cat3_drop x y _)
            have HT3 := Lib.hid hT3
            have HS3 : Hid ((x ++ ⟨(Oct.text z.data.toList).toArray⟩ ++ y).size ≤ 4611686018427387904) := Lib.hid (by rw [cat3_size]; omega)
            clear hT3 hz9
            go_wp2_with fail
            refine (taket _ _ _ HS3.out (by rw [HT3.out]; show z.data.toList.length ≤ _; rw [← Lib.size_eq]; omega)).mono ?_
            rintro e w7 ⟨he, hb7⟩
            rw [HT3.out, trit] at he
            subst he
            have hcell7 : w7.cell? ⟨b, off + j, none⟩ = some (.string z) := (hb7.cell (p := ⟨b, off + j, none⟩) (Nat.lt_trans hblt hb.lt)).trans hcell6
            replace hb := hb.next hb7
            clear hcell6 hb7 hc0 hc1
            go_wp2_with fail
            go_roundw
            case rel => exact ⟨j + 1, by go_num, by omega, hb⟩
            case measure => simp [intOf]; omega
        · go_wp2_with fail
          refine (awake _).mono ?_
          rintro e w6 ⟨rfl, hb6⟩
          go_wp2
          go_ret
          exact ⟨rfl, (hb.next hb6).bel⟩
end Go.Proofs.Ytjaephhnaocpcaa
