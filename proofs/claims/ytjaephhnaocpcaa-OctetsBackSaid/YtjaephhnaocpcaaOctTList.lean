/- TakeList, of the program and of the document, tells what stands at a place: Oct.takeList. -/
import Derived.Test.YtjaephhnaocpcaaOctTText
import Derived.Test.YtjaephhnaocpcaaOctRList
import Derived.Test.YtjaephhnaocpcaaOctBack
namespace Go.Proofs.Ytjaephhnaocpcaa
open Go.RowKit

/-- What TakeList hands back: the texts in a slice, the place behind, the error; nothing that was there has changed. -/
def Took (r : List ByteArray × Nat × Nat) (w : World) (e : Ending) (w' : World) : Prop :=
  ∃ (A : Option Addr) (cap : Nat), e = .returned (.tuple #[.slice A r.1.length cap, .int .i64 r.2.1, .int .i64 r.2.2]) ∧ Strs w' w'.heap.size A r.1 ∧ Below w.heap.size w w'

theorem strs_of_own {w : World} {B n : Nat} {v : Value} {ss : List ByteArray} (h : w.ownsRow B 9 1 v n (ss.map Value.string)) : ∃ A cap, v = .slice A ss.length cap ∧ Strs w w.heap.size A ss := by
  have hlen := h.1
  rw [List.length_map, Nat.mul_one] at hlen
  subst hlen
  rcases h.2 with ⟨rfl, h0⟩ | ⟨g, cap, cur, rfl, hB, hh, _⟩
  · exact ⟨none, 0, by rw [h0], Or.inl h0⟩
  · refine ⟨_, _, rfl, Or.inr ⟨g, 0, rfl, ?_, fun i hi => ?_⟩⟩
    · exact (h.lt g rfl).2
    · rw [Nat.zero_add, h.cellAt i (by omega)]
      simp [hi]

set_option maxHeartbeats 400000 in
theorem takel_err (s : ByteArray) (p : Int) (w : World) (hs : s.size ≤ 4611686018427387904) (e0 : Nat) (h : Oct.takeNum s.data.toList p = (0, 0, e0)) (he : e0 = 2 ∨ e0 = 10 ∨ e0 = 11) :
    Calls Try.prog 19 #[.string s, .int .i64 p] w (Took (Oct.takeList s.data.toList p) w) := by
  have H := Lib.hid h
  rw [Oct.takeList_err h he]
  have he1 : ((e0 : Int) == 0) = false := by rcases he with rfl | rfl | rfl <;> rfl
  have he2 : ((e0 : Int) != 0) = true := by rcases he with rfl | rfl | rfl <;> rfl
  clear h he
  go_enter Try.func19, Try.ntmps19
  go_wp2_with fail
  refine (take s p _ (by unfold maxLen; omega)).mono ?_
  rintro e w' ⟨he, hb⟩
  rw [H.out, tri] at he
  subst he
  go_wp2
  go_ret3
  exact ⟨none, 0, rfl, Or.inl rfl, hb⟩

set_option maxHeartbeats 400000 in
theorem takel_in (s : ByteArray) (p : Int) (w : World) (hs : s.size ≤ 4611686018427387904) (n st : Nat) (h : Oct.takeNum s.data.toList p = (n, st, 0)) (h2 : st ≤ s.size) (hn8 : n < 18446744073709551616) (hroom : n ≤ 8796093022207 ∨ s.size ≤ 8796093022207)
    (hcl : Hid (∀ (k q : Nat) (acc : List ByteArray), k < n → Oct.takeTexts s.data.toList n st [] = Oct.takeTexts s.data.toList (n - k) q acc → (Oct.takeText s.data.toList q).1.length ≤ 281474976710656)) :
    Calls Try.prog 19 #[.string s, .int .i64 p] w (Took (Oct.takeList s.data.toList p) w) := by
  have H := Lib.hid h
  rw [Oct.takeList_in h]
  have hz := Lib.hid (Lib.size_eq s)
  obtain ⟨i0, hi, hz0, hz1, hz2⟩ := info_parts (P := Try.prog) (e := 9) (z := .string ByteArray.empty) (size := 1) (bytes := 16) (by kernel_rfl)
  clear h
  go_enter Try.func19, Try.ntmps19
  go_wp2_with fail
  refine (take s p _ (by unfold maxLen; omega)).mono ?_
  rintro e w' ⟨he, hb⟩
  rw [H.out, tri] at he
  subst he
  go_wp2_with fail
  have hbw := hb
  clear hb
  go_loopw [8, 10, 25] (fun pos v c wr => ∃ (k q : Nat) (acc : List ByteArray), c = .int .u64 k ∧ k ≤ n ∧ pos = .int .i64 q ∧ q ≤ s.size ∧ k ≤ q ∧ Hid (acc.length = k) ∧
      wr.ownsRow w.heap.size 9 1 v acc.length (acc.map Value.string) ∧ Hid (Oct.takeTexts s.data.toList n st [] = Oct.takeTexts s.data.toList (n - k) q acc) ∧ Below w.heap.size w wr)
    (fun _ _ c _ => n - (intOf c).toNat)
  case atStart => exact ⟨0, st, [], rfl, Nat.zero_le _, rfl, h2, Nat.zero_le _, Lib.hid rfl, World.ownsRow_nil _ _ _ _, Lib.hid rfl, hbw⟩
  case round =>
    obtain ⟨k, q, acc, rfl, hk, rfl, hq, hkq, HA, hown, HT, hb⟩ := hrel
    have hsz := hb.size
    clear hbw
    by_cases hlt : k < n
    · have HCT := Lib.hid (hcl.out k q acc hlt HT.out)
      rcases Oct.takeText_spec s.data.toList q with ⟨t, to, h3, h4, h5, h6⟩ | ⟨e1, h3, h4⟩
      · rw [← hz.out] at h6
        have H3 := Lib.hid h3
        have htl : t.length ≤ s.size := by omega
        have hqt : q < to := by omega
        clear h3 h4 h5
        go_wp2_with fail
        refine (taket s q _ hs HCT.out).mono ?_
        rintro e w2 ⟨he, hb2⟩
        rw [H3.out, trit] at he
        subst he
        have hown2 := hown.kept (grown_of_below hb2 (Nat.le_refl _) none) (by
          rcases hv : Value.ownBlock u10 with _ | x
          · exact Or.inl rfl
          · exact Or.inr (by simp))
        have hb3 := hb.trans (hb2.mono hsz)
        have hsz3 := hb3.size
        have hacc : acc.length ≤ 8796093022206 := by have := HA.out; omega
        clear hb2 hb hown
        go_wp2_with (at_builtin; refine wpList_append_own _ rfl _ _ 37 rfl w.heap.size 9 i0 (.string ByteArray.empty) 1 16 Try.underlying37 hi hz0 hz1 hz2 rfl (by decide) _ _ _ rfl (hown2.alloc _) ⟨w2.heap.size, 0, none⟩ 1 1 [.string ⟨t.toArray⟩] rfl rfl ?c1 ?c2 ?c3 ?c4 ?c5 ?_)
        case c1 =>
          intro i u hu
          match i, hu with
          | 0, hu => simp at hu; subst hu; simp [Addr.add]
        case c2 => intro u hu; simp at hu; subst hu; rfl
        case c3 => unfold maxLen; omega
        case c4 => omega
        case c5 => simp; omega
        intro v' w3 hown3 hgrow _
        go_wp2
        go_roundw
        case rel =>
          refine ⟨k + 1, to, acc ++ [⟨t.toArray⟩], by go_num, by omega, rfl, h6, by omega, Lib.hid (by rw [List.length_append, HA.out]; rfl), ?_, Lib.hid ?_, (hb3.alloc hsz3 _).grown hgrow (by simp; omega) (fun k hk => (hown2.lt k hk).1)⟩
          · rw [List.length_append, List.map_append]
            exact hown3
          · rw [HT.out, show n - k = n - (k + 1) + 1 from by omega, Oct.takeTexts_ok H3.out]
        case measure => simp [intOf]; omega
      · have H3 := Lib.hid h3
        have hf := Lib.hid (Oct.takeTexts_err (n := n - (k + 1)) (acc := acc) h3 h4)
        have he1 : ((e1 : Int) == 0) = false := by rcases h4 with rfl | rfl | rfl <;> rfl
        have he2 : ((e1 : Int) != 0) = true := by rcases h4 with rfl | rfl | rfl <;> rfl
        clear h3 h4
        go_wp2_with fail
        refine (taket s q _ hs HCT.out).mono ?_
        rintro e w2 ⟨he, hb2⟩
        rw [H3.out, trit] at he
        subst he
        go_wp2
        go_ret3
        rw [HT.out, show n - k = n - (k + 1) + 1 from by omega, hf.out]
        exact ⟨none, 0, rfl, Or.inl rfl, hb.trans (hb2.mono hsz)⟩
    · go_wp2
      go_ret3
      rw [HT.out, show n - k = 0 from by omega, Oct.takeTexts_zero]
      obtain ⟨A, cap, hv, hS⟩ := strs_of_own hown
      exact ⟨A, cap, by rw [← hv]; rfl, hS, hb⟩

/-- TakeList, at whatever place of whatever text in which there is room for no more than 2^43 texts, or which says that there are no more. -/
theorem takel (s : ByteArray) (p : Int) (w : World) (hs : s.size ≤ 281474976710656) (hroom : (Oct.takeNum s.data.toList p).1 ≤ 8796093022207 ∨ s.size ≤ 8796093022207) :
    Calls Try.prog 19 #[.string s, .int .i64 p] w (Took (Oct.takeList s.data.toList p) w) := by
  have hz := Lib.size_eq s
  rcases Oct.takeNum_spec s.data.toList p with ⟨n, st, h, h0, h1, h2, h3⟩ | ⟨e, h, he⟩
  · rw [h] at hroom
    exact takel_in s p w (by omega) n st h (by omega) h3 hroom (Lib.hid fun k q acc _ _ => text_short s q hs)
  · exact takel_err s p w (by omega) e h he

/-- TakeList where a list was laid, of short texts. -/
theorem takel_laid (s : ByteArray) (p : Nat) (w : World) (hs : s.size ≤ 4611686018427387904) (ss : List ByteArray) (post : List UInt8) (hp : p ≤ s.size) (hn : ss.length ≤ 8796093022207) (hx : ∀ x ∈ ss, x.size ≤ 281474976710656)
    (h : s.data.toList.drop p = Oct.list ss ++ post) :
    Calls Try.prog 19 #[.string s, .int .i64 p] w (Took (ss, p + (Oct.list ss).length, 0) w) := by
  have hz := Lib.size_eq s
  obtain ⟨h1, h2⟩ := Oct.takeList_laid s.data.toList p ss post (by omega) (by omega) (by omega) h
  rw [← h2]
  have h4 := Oct.takeList_in h1
  rw [h2] at h4
  have h5 := congrArg List.length h
  rw [List.length_drop, List.length_append, Oct.list, List.length_append] at h5
  refine takel_in s p w hs ss.length _ h1 (by omega) (by omega) (Or.inl hn) (Lib.hid fun k q acc hk hT => ?_)
  rw [← h4] at hT
  rcases Oct.takeText_spec s.data.toList q with ⟨t, to, h6, _⟩ | ⟨e, h6, he⟩
  · rw [show ss.length - k = ss.length - (k + 1) + 1 from by omega, Oct.takeTexts_ok h6] at hT
    obtain ⟨r, hr⟩ := Oct.takeTexts_prefix _ hT.symm
    have hm : (⟨t.toArray⟩ : ByteArray) ∈ ss := by rw [hr]; simp
    have := hx _ hm
    rw [size_list] at this
    rw [h6]
    exact this
  · rw [h6]
    exact Nat.zero_le _
end Go.Proofs.Ytjaephhnaocpcaa
