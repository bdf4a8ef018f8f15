/- The document's TakeList tells what stands at a place: Oct.takeList. -/
import Derived.Test.YtjaephhnaocpcaaOctTList
namespace Go.Proofs.Ytjaephhnaocpcaa
open Go.RowKit

set_option maxHeartbeats 400000 in
theorem rtakel_err (s : ByteArray) (p : Int) (w : World) (hs : s.size ≤ 281474976710656) (e0 : Nat) (h : Oct.takeNum s.data.toList p = (0, 0, e0)) (he : e0 = 2 ∨ e0 = 10 ∨ e0 = 11) :
    Calls Try.prog 20 #[.string s, .int .i64 p] w (Took (Oct.takeList s.data.toList p) w) := by
  have H := Lib.hid h
  rw [Oct.takeList_err h he]
  have he1 : ((e0 : Int) == 0) = false := by rcases he with rfl | rfl | rfl <;> rfl
  have he2 : ((e0 : Int) != 0) = true := by rcases he with rfl | rfl | rfl <;> rfl
  clear h he
  go_enter Try.func20, Try.ntmps20
  go_wp2_with fail
  refine (rtake s p _ (by unfold maxLen; omega)).mono ?_
  rintro e w' ⟨he, hb⟩
  rw [H.out, tri] at he
  subst he
  go_wp2
  go_ret3
  exact ⟨none, 0, rfl, Or.inl rfl, hb⟩

set_option maxHeartbeats 400000 in
theorem rtakel_in (s : ByteArray) (p : Int) (w : World) (hs : s.size ≤ 281474976710656) (n st : Nat) (h : Oct.takeNum s.data.toList p = (n, st, 0)) (h2 : st ≤ s.size) (hn8 : n < 18446744073709551616) (hroom : n ≤ 8796093022207 ∨ s.size ≤ 8796093022207) :
    Calls Try.prog 20 #[.string s, .int .i64 p] w (Took (Oct.takeList s.data.toList p) w) := by
  have H := Lib.hid h
  rw [Oct.takeList_in h]
  have hz := Lib.hid (Lib.size_eq s)
  obtain ⟨i0, hi, hz0, hz1, hz2⟩ := info_parts (P := Try.prog) (e := 9) (z := .string ByteArray.empty) (size := 1) (bytes := 16) (by kernel_rfl)
  clear h
  go_enter Try.func20, Try.ntmps20
  go_wp2_with fail
  refine (rtake s p _ (by unfold maxLen; omega)).mono ?_
  rintro e w' ⟨he, hb⟩
  rw [H.out, tri] at he
  subst he
  go_wp2_with fail
  have hbw := hb
  clear hb
  go_loopw [1, 9] (fun pos v wr => ∃ (k q : Nat) (acc : List ByteArray) (A : Option Addr) (cap : Nat), v = .slice A k cap ∧ k ≤ n ∧ pos = .int .i64 q ∧ q ≤ s.size ∧ k ≤ q ∧ Hid (acc.length = k) ∧
      wr.ownsRow w.heap.size 9 1 v k (acc.map Value.string) ∧ Hid (Oct.takeTexts s.data.toList n st [] = Oct.takeTexts s.data.toList (n - k) q acc) ∧ Below w.heap.size w wr)
    (fun pos _ _ => s.size - (intOf pos).toNat)
  case atStart => exact ⟨0, st, [], none, 0, rfl, Nat.zero_le _, rfl, h2, Nat.zero_le _, Lib.hid rfl, World.ownsRow_nil _ _ _ _, Lib.hid rfl, hbw⟩
  case round =>
    obtain ⟨k, q, acc, A, cap, rfl, hk, rfl, hq, hkq, HA, hown, HT, hb⟩ := hrel
    have hsz := hb.size
    clear hbw
    by_cases hlt : k < n
    · rcases Oct.takeText_spec s.data.toList q with ⟨t, to, h3, h4, h5, h6⟩ | ⟨e1, h3, h4⟩
      · rw [← hz.out] at h6
        have H3 := Lib.hid h3
        have htl : t.length ≤ s.size := by omega
        have hqt : q < to := by omega
        clear h3 h4 h5
        go_wp2_with fail
        refine (rtaket s q _ hs).mono ?_
        rintro e w2 ⟨he, hb2⟩
        rw [H3.out, trit] at he
        subst he
        have hown2 := hown.kept (grown_of_below hb2 (Nat.le_refl _) none) (by
          rcases hv : Value.ownBlock (.slice A k cap) with _ | x
          · exact Or.inl rfl
          · exact Or.inr (by simp))
        have hb3 := hb.trans (hb2.mono hsz)
        have hsz3 := hb3.size
        have hacc : k ≤ 8796093022206 := by omega
        clear hb2 hb hown
        go_wp2_with (at_builtin; refine wpList_append_own _ rfl _ _ 37 rfl w.heap.size 9 i0 (.string ByteArray.empty) 1 16 Try.underlying37 hi hz0 hz1 hz2 rfl (by decide) _ _ _ rfl (hown2.alloc _) ⟨w2.heap.size, 0, none⟩ 1 1 [.string ⟨t.toArray⟩] rfl rfl ?c1 ?c2 ?c3 ?c4 ?c5 ?_)
        case c1 =>
          intro i u hu
          match i, hu with
          | 0, hu => simp at hu; subst hu; simp [Addr.add]
        case c2 => intro u hu; simp at hu; subst hu; rfl
        case c3 => unfold maxLen; omega
        case c4 => omega
        case c5 => simp; omega
        intro v' w3 hown3 hgrow _
        have hown4 : w3.ownsRow w.heap.size 9 1 v' (k + 1) ((acc ++ [(⟨t.toArray⟩ : ByteArray)]).map Value.string) := by rw [List.map_append]; exact hown3
        obtain ⟨A', cap', hv', _⟩ := strs_of_own hown4
        rw [List.length_append, HA.out] at hv'
        subst hv'
        go_wp2
        go_roundw
        case rel =>
          refine ⟨k + 1, to, acc ++ [⟨t.toArray⟩], A', cap', rfl, by omega, rfl, h6, by omega, Lib.hid (by rw [List.length_append, HA.out]; rfl), ?_, Lib.hid ?_, (hb3.alloc hsz3 _).grown hgrow (by simp; omega) (fun k hk => (hown2.lt k hk).1)⟩
          · exact hown4
          · rw [HT.out, show n - k = n - (k + 1) + 1 from by omega, Oct.takeTexts_ok H3.out]
        case measure => simp [intOf]; omega
      · have H3 := Lib.hid h3
        have hf := Lib.hid (Oct.takeTexts_err (n := n - (k + 1)) (acc := acc) h3 h4)
        have he1 : ((e1 : Int) == 0) = false := by rcases h4 with rfl | rfl | rfl <;> rfl
        have he2 : ((e1 : Int) != 0) = true := by rcases h4 with rfl | rfl | rfl <;> rfl
        clear h3 h4
        go_wp2_with fail
        refine (rtaket s q _ hs).mono ?_
        rintro e w2 ⟨he, hb2⟩
        rw [H3.out, trit] at he
        subst he
        go_wp2
        go_ret3
        rw [HT.out, show n - k = n - (k + 1) + 1 from by omega, hf.out]
        exact ⟨none, 0, rfl, Or.inl rfl, hb.trans (hb2.mono hsz)⟩
    · go_wp2
      go_ret3
      rw [HT.out, show n - k = 0 from by omega, Oct.takeTexts_zero]
      obtain ⟨A2, cap2, hv, hS⟩ := strs_of_own hown
      exact ⟨A2, cap2, by rw [← hv]; rfl, hS, hb⟩

/-- TakeList, at whatever place of whatever text in which there is room for no more than 2^43 texts, or which says that there are no more. -/
theorem rtakel (s : ByteArray) (p : Int) (w : World) (hs : s.size ≤ 281474976710656) (hroom : (Oct.takeNum s.data.toList p).1 ≤ 8796093022207 ∨ s.size ≤ 8796093022207) :
    Calls Try.prog 20 #[.string s, .int .i64 p] w (Took (Oct.takeList s.data.toList p) w) := by
  have hz := Lib.size_eq s
  rcases Oct.takeNum_spec s.data.toList p with ⟨n, st, h, h0, h1, h2, h3⟩ | ⟨e, h, he⟩
  · rw [h] at hroom
    exact rtakel_in s p w hs n st h (by omega) h3 hroom
  · exact rtakel_err s p w hs e h he
end Go.Proofs.Ytjaephhnaocpcaa
