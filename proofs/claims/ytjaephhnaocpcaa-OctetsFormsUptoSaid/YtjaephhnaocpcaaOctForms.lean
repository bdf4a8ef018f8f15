/- The walk of OctetsForms: what is taken of any bytes of at most 2^42 is laid as it stood there. -/
import Derived.Test.YtjaephhnaocpcaaOctAwake
import Derived.Test.YtjaephhnaocpcaaOctTList
import Derived.Test.YtjaephhnaocpcaaOctBack
namespace Go.Proofs.Ytjaephhnaocpcaa
open Go.RowKit

theorem strs_drew {w : World} {A : Option Addr} {ss : List ByteArray} (h : Strs w w.heap.size A ss) : Strs w.drew w.drew.heap.size A ss := h

theorem err_eq {e0 : Nat} (he : e0 = 2 ∨ e0 = 10 ∨ e0 = 11) : ((e0 : Int) == 0) = false := by rcases he with rfl | rfl | rfl <;> rfl

set_option maxRecDepth 100000 in
set_option maxHeartbeats 2000000 in
theorem forms_err (s : ByteArray) (p : Int) (w : World) (hs : s.size ≤ 4398046511104) (e0 : Nat) (h : Oct.takeNum s.data.toList p = (0, 0, e0)) (he : e0 = 2 ∨ e0 = 10 ∨ e0 = 11) :
    Calls Try.prog 8 #[.string s, .int .i64 p] w fun e w' => e = .returned (.bool true) ∧ Below w.heap.size w w' := by
  have HN := Lib.hid h
  have HT := Lib.hid (Oct.takeText_err h he)
  have HL := Lib.hid (Oct.takeList_err h he)
  have he1 := err_eq he
  clear h he
  go_enter Try.func8, Try.ntmps8
  go_wp2_with fail
  refine (take s p _ (by unfold maxLen; omega)).mono ?_
  rintro e w1 ⟨he, hb1⟩
  rw [HN.out, tri] at he
  subst he
  go_wp2_with fail
  go_quiet (fail)
  go_wp2_with fail
  have hb2 : Below w.heap.size w (w1.drewN nq) := below_drewN hb1 nq
  refine (taket s p _ (by omega) (text_short s _ (by omega))).mono ?_
  rintro e w2 ⟨he, hb3⟩
  rw [HT.out, trit] at he
  subst he
  have hb4 := hb2.trans (hb3.mono hb2.size)
  clear hb2 hb3
  go_wp2_with fail
  go_quiet (fail)
  go_wp2_with fail
  have hb5 := fun k => below_drewN hb4 k
  refine (takel s p _ (by omega) (Or.inr (by omega))).mono ?_
  rintro e w3 ⟨A, cap, he, hS, hb6⟩
  rw [HL.out] at he hS
  subst he
  have hb7 := ((hb5 _)).trans (hb6.mono ((hb5 _)).size)
  clear hb5 hb6
  go_wp2_with fail
  go_quiet (fail)
  go_wp2_with fail
  have hb8 := fun k => below_drewN hb7 k
  refine (awake _).mono ?_
  rintro e w4 ⟨rfl, hb9⟩
  go_wp2
  go_ret
  exact ⟨rfl, (hb8 _).trans (hb9.mono (hb8 _).size)⟩

set_option maxRecDepth 100000 in
set_option maxHeartbeats 2000000 in
theorem forms_ok_ee (s : ByteArray) (q : Nat) (w : World) (hs : s.size ≤ 4398046511104) (n st : Nat) (h : Oct.takeNum s.data.toList q = (n, st, 0)) (h1 : q < st) (h2 : st ≤ s.size) (h3 : n < 18446744073709551616) (eT : Nat) (hT : Oct.takeText s.data.toList q = ([], 0, eT)) (heT : eT = 2 ∨ eT = 10 ∨ eT = 11) (eL : Nat) (hL : Oct.takeList s.data.toList q = ([], 0, eL)) (heL : eL = 2 ∨ eL = 10 ∨ eL = 11) :
    Calls Try.prog 8 #[.string s, .int .i64 q] w fun e w' => e = .returned (.bool true) ∧ Below w.heap.size w w' := by
  have HN := Lib.hid h
  have hbk := Oct.takeNum_back h
  have hsl := fun W => slice_mid s q st (by omega) (by omega) W
  rw [Int.toNat_natCast, ← hbk] at hsl
  have hd1 : decide (st ≤ q) = false := by simp; omega
  have hd2 : decide (s.size < st) = false := by simp; omega
  have hd3 : decide ((st : Int) ≤ (q : Int)) = false := by simp; omega
  have hd4 : decide ((s.size : Int) < (st : Int)) = false := by simp; omega
  clear h hbk
  have HT := Lib.hid hT
  have heT1 := err_eq heT
  clear hT heT
  have HL := Lib.hid hL
  have heL1 := err_eq heL
  clear hL heL
  go_enter Try.func8, Try.ntmps8
  go_wp2_with fail
  refine (take s q _ (by unfold maxLen; omega)).mono ?_
  rintro e w1 ⟨he, hb1⟩
  rw [HN.out, tri] at he
  subst he
  go_wp2_with fail
  go_region_held3 (fun w' => Below w1.heap.size w1 w') (first | exact (Below.refl _ _).drew | exact (Below.refl _ _).drew.trans (by assumption))
    (first | (go_at_call 10; refine (number _ _ h3).mono ?_; rintro e w1b ⟨rfl, hbel⟩))
  go_wp2_with fail
  have hb2 : Below w.heap.size w w1b := hb1.trans (((Below.refl _ _).drew.trans hbel).mono hb1.size)
  refine (taket s q _ (by omega) (text_short s _ (by omega))).mono ?_
  rintro e w2 ⟨he, hb3⟩
  rw [HT.out, trit] at he
  subst he
  have hb4 := hb2.trans (hb3.mono hb2.size)
  clear hb2 hb3
  go_wp2_with fail
  go_quiet (fail)
  go_wp2_with fail
  have hb5 := fun k => below_drewN hb4 k
  refine (takel s q _ (by omega) (Or.inr (by omega))).mono ?_
  rintro e w3 ⟨A, cap, he, hS, hb6⟩
  rw [HL.out] at he hS
  subst he
  have hb7 := ((hb5 _)).trans (hb6.mono ((hb5 _)).size)
  clear hb5 hb6
  go_wp2_with fail
  go_quiet (fail)
  go_wp2_with fail
  have hb8 := fun k => below_drewN hb7 k
  refine (awake _).mono ?_
  rintro e w4 ⟨rfl, hb9⟩
  go_wp2
  go_ret
  exact ⟨rfl, (hb8 _).trans (hb9.mono (hb8 _).size)⟩

set_option maxRecDepth 100000 in
set_option maxHeartbeats 2000000 in
theorem forms_ok_el (s : ByteArray) (q : Nat) (w : World) (hs : s.size ≤ 4398046511104) (n st : Nat) (h : Oct.takeNum s.data.toList q = (n, st, 0)) (h1 : q < st) (h2 : st ≤ s.size) (h3 : n < 18446744073709551616) (eT : Nat) (hT : Oct.takeText s.data.toList q = ([], 0, eT)) (heT : eT = 2 ∨ eT = 10 ∨ eT = 11) (ss : List ByteArray) (last : Nat) (hL : Oct.takeList s.data.toList q = (ss, last, 0)) (hL1 : q < last) (hL2 : last ≤ s.size) :
    Calls Try.prog 8 #[.string s, .int .i64 q] w fun e w' => e = .returned (.bool true) ∧ Below w.heap.size w w' := by
  have HN := Lib.hid h
  have hbk := Oct.takeNum_back h
  have hsl := fun W => slice_mid s q st (by omega) (by omega) W
  rw [Int.toNat_natCast, ← hbk] at hsl
  have hd1 : decide (st ≤ q) = false := by simp; omega
  have hd2 : decide (s.size < st) = false := by simp; omega
  have hd3 : decide ((st : Int) ≤ (q : Int)) = false := by simp; omega
  have hd4 : decide ((s.size : Int) < (st : Int)) = false := by simp; omega
  clear h hbk
  have HT := Lib.hid hT
  have heT1 := err_eq heT
  clear hT heT
  have HL := Lib.hid hL
  have hbl := (Oct.takeList_back hL).1
  have hsll := fun W => slice_mid s q last (by omega) (by omega) W
  rw [Int.toNat_natCast, ← hbl] at hsll
  have hls : (Oct.list ss).length ≤ 140737488355328 := by rw [hbl, List.length_take]; omega
  have hln : ss.length ≤ 9223372036854775807 := by have := Oct.list_count ss; omega
  have hd1l : decide (last ≤ q) = false := by simp; omega
  have hd2l : decide (s.size < last) = false := by simp; omega
  have hd3l : decide ((last : Int) ≤ (q : Int)) = false := by simp; omega
  have hd4l : decide ((s.size : Int) < (last : Int)) = false := by simp; omega
  clear hL hbl
  go_enter Try.func8, Try.ntmps8
  go_wp2_with fail
  refine (take s q _ (by unfold maxLen; omega)).mono ?_
  rintro e w1 ⟨he, hb1⟩
  rw [HN.out, tri] at he
  subst he
  go_wp2_with fail
  go_region_held3 (fun w' => Below w1.heap.size w1 w') (first | exact (Below.refl _ _).drew | exact (Below.refl _ _).drew.trans (by assumption))
    (first | (go_at_call 10; refine (number _ _ h3).mono ?_; rintro e w1b ⟨rfl, hbel⟩))
  go_wp2_with fail
  have hb2 : Below w.heap.size w w1b := hb1.trans (((Below.refl _ _).drew.trans hbel).mono hb1.size)
  refine (taket s q _ (by omega) (text_short s _ (by omega))).mono ?_
  rintro e w2 ⟨he, hb3⟩
  rw [HT.out, trit] at he
  subst he
  have hb4 := hb2.trans (hb3.mono hb2.size)
  clear hb2 hb3
  go_wp2_with fail
  go_quiet (fail)
  go_wp2_with fail
  have hb5 := fun k => below_drewN hb4 k
  refine (takel s q _ (by omega) (Or.inr (by omega))).mono ?_
  rintro e w3 ⟨A, cap, he, hS, hb6⟩
  rw [HL.out] at he hS
  subst he
  have hb7 := ((hb5 _)).trans (hb6.mono ((hb5 _)).size)
  clear hb5 hb6
  go_wp2_with fail
  have hS' : Strs w3.drew w3.drew.heap.size A ss := strs_drew hS
  go_region_held3 (fun w' => Below w3.heap.size w3 w') (first | exact (Below.refl _ _).drew | exact (Below.refl _ _).drew.trans (by assumption))
    (first | (go_at_call 21; refine (list_walk A cap ss _ hS' hln hls).mono ?_; rintro e w3b ⟨rfl, hbel3⟩))
  go_wp2_with fail
  have hb8 : Below w.heap.size w w3b := hb7.trans (((Below.refl _ _).drew.trans hbel3).mono hb7.size)
  refine (awake _).mono ?_
  rintro e w4 ⟨rfl, hb9⟩
  go_wp2
  go_ret
  exact ⟨rfl, hb8.trans (hb9.mono hb8.size)⟩

set_option maxRecDepth 100000 in
set_option maxHeartbeats 2000000 in
theorem forms_ok_te (s : ByteArray) (q : Nat) (w : World) (hs : s.size ≤ 4398046511104) (n st : Nat) (h : Oct.takeNum s.data.toList q = (n, st, 0)) (h1 : q < st) (h2 : st ≤ s.size) (h3 : n < 18446744073709551616) (t : List UInt8) (to : Nat) (hT : Oct.takeText s.data.toList q = (t, to, 0)) (hT1 : q < to) (hT2 : to ≤ s.size) (hT3 : t.length ≤ s.size) (eL : Nat) (hL : Oct.takeList s.data.toList q = ([], 0, eL)) (heL : eL = 2 ∨ eL = 10 ∨ eL = 11) :
    Calls Try.prog 8 #[.string s, .int .i64 q] w fun e w' => e = .returned (.bool true) ∧ Below w.heap.size w w' := by
  have HN := Lib.hid h
  have hbk := Oct.takeNum_back h
  have hsl := fun W => slice_mid s q st (by omega) (by omega) W
  rw [Int.toNat_natCast, ← hbk] at hsl
  have hd1 : decide (st ≤ q) = false := by simp; omega
  have hd2 : decide (s.size < st) = false := by simp; omega
  have hd3 : decide ((st : Int) ≤ (q : Int)) = false := by simp; omega
  have hd4 : decide ((s.size : Int) < (st : Int)) = false := by simp; omega
  clear h hbk
  have HT := Lib.hid hT
  have hbt := Oct.takeText_back hT
  have hslt := fun W => slice_mid s q to (by omega) (by omega) W
  rw [Int.toNat_natCast, ← hbt] at hslt
  have hd1t : decide (to ≤ q) = false := by simp; omega
  have hd2t : decide (s.size < to) = false := by simp; omega
  have hd3t : decide ((to : Int) ≤ (q : Int)) = false := by simp; omega
  have hd4t : decide ((s.size : Int) < (to : Int)) = false := by simp; omega
  clear hT hbt
  have HL := Lib.hid hL
  have heL1 := err_eq heL
  clear hL heL
  go_enter Try.func8, Try.ntmps8
  go_wp2_with fail
  refine (take s q _ (by unfold maxLen; omega)).mono ?_
  rintro e w1 ⟨he, hb1⟩
  rw [HN.out, tri] at he
  subst he
  go_wp2_with fail
  go_region_held3 (fun w' => Below w1.heap.size w1 w') (first | exact (Below.refl _ _).drew | exact (Below.refl _ _).drew.trans (by assumption))
    (first | (go_at_call 10; refine (number _ _ h3).mono ?_; rintro e w1b ⟨rfl, hbel⟩))
  go_wp2_with fail
  have hb2 : Below w.heap.size w w1b := hb1.trans (((Below.refl _ _).drew.trans hbel).mono hb1.size)
  refine (taket s q _ (by omega) (text_short s _ (by omega))).mono ?_
  rintro e w2 ⟨he, hb3⟩
  rw [HT.out, trit] at he
  subst he
  have hb4 := hb2.trans (hb3.mono hb2.size)
  clear hb2 hb3
  go_wp2_with fail
  go_region_held3 (fun w' => Below w2.heap.size w2 w') (first | exact (Below.refl _ _).drew | exact (Below.refl _ _).drew.trans (by assumption))
    (first | (go_at_call 17; refine (text_walk _ _ (by rw [size_list]; omega)).mono ?_; rintro e w2b ⟨rfl, hbel2⟩))
  go_wp2_with fail
  have hb5 : Below w.heap.size w w2b := hb4.trans (((Below.refl _ _).drew.trans hbel2).mono hb4.size)
  refine (takel s q _ (by omega) (Or.inr (by omega))).mono ?_
  rintro e w3 ⟨A, cap, he, hS, hb6⟩
  rw [HL.out] at he hS
  subst he
  have hb7 := (hb5).trans (hb6.mono (hb5).size)
  clear hb5 hb6
  go_wp2_with fail
  go_quiet (fail)
  go_wp2_with fail
  have hb8 := fun k => below_drewN hb7 k
  refine (awake _).mono ?_
  rintro e w4 ⟨rfl, hb9⟩
  go_wp2
  go_ret
  exact ⟨rfl, (hb8 _).trans (hb9.mono (hb8 _).size)⟩

set_option maxRecDepth 100000 in
set_option maxHeartbeats 2000000 in
theorem forms_ok_tl (s : ByteArray) (q : Nat) (w : World) (hs : s.size ≤ 4398046511104) (n st : Nat) (h : Oct.takeNum s.data.toList q = (n, st, 0)) (h1 : q < st) (h2 : st ≤ s.size) (h3 : n < 18446744073709551616) (t : List UInt8) (to : Nat) (hT : Oct.takeText s.data.toList q = (t, to, 0)) (hT1 : q < to) (hT2 : to ≤ s.size) (hT3 : t.length ≤ s.size) (ss : List ByteArray) (last : Nat) (hL : Oct.takeList s.data.toList q = (ss, last, 0)) (hL1 : q < last) (hL2 : last ≤ s.size) :
    Calls Try.prog 8 #[.string s, .int .i64 q] w fun e w' => e = .returned (.bool true) ∧ Below w.heap.size w w' := by
  have HN := Lib.hid h
  have hbk := Oct.takeNum_back h
  have hsl := fun W => slice_mid s q st (by omega) (by omega) W
  rw [Int.toNat_natCast, ← hbk] at hsl
  have hd1 : decide (st ≤ q) = false := by simp; omega
  have hd2 : decide (s.size < st) = false := by simp; omega
  have hd3 : decide ((st : Int) ≤ (q : Int)) = false := by simp; omega
  have hd4 : decide ((s.size : Int) < (st : Int)) = false := by simp; omega
  clear h hbk
  have HT := Lib.hid hT
  have hbt := Oct.takeText_back hT
  have hslt := fun W => slice_mid s q to (by omega) (by omega) W
  rw [Int.toNat_natCast, ← hbt] at hslt
  have hd1t : decide (to ≤ q) = false := by simp; omega
  have hd2t : decide (s.size < to) = false := by simp; omega
  have hd3t : decide ((to : Int) ≤ (q : Int)) = false := by simp; omega
  have hd4t : decide ((s.size : Int) < (to : Int)) = false := by simp; omega
  clear hT hbt
  have HL := Lib.hid hL
  have hbl := (Oct.takeList_back hL).1
  have hsll := fun W => slice_mid s q last (by omega) (by omega) W
  rw [Int.toNat_natCast, ← hbl] at hsll
  have hls : (Oct.list ss).length ≤ 140737488355328 := by rw [hbl, List.length_take]; omega
  have hln : ss.length ≤ 9223372036854775807 := by have := Oct.list_count ss; omega
  have hd1l : decide (last ≤ q) = false := by simp; omega
  have hd2l : decide (s.size < last) = false := by simp; omega
  have hd3l : decide ((last : Int) ≤ (q : Int)) = false := by simp; omega
  have hd4l : decide ((s.size : Int) < (last : Int)) = false := by simp; omega
  clear hL hbl
  go_enter Try.func8, Try.ntmps8
  go_wp2_with fail
  refine (take s q _ (by unfold maxLen; omega)).mono ?_
  rintro e w1 ⟨he, hb1⟩
  rw [HN.out, tri] at he
  subst he
  go_wp2_with fail
  go_region_held3 (fun w' => Below w1.heap.size w1 w') (first | exact (Below.refl _ _).drew | exact (Below.refl _ _).drew.trans (by assumption))
    (first | (go_at_call 10; refine (number _ _ h3).mono ?_; rintro e w1b ⟨rfl, hbel⟩))
  go_wp2_with fail
  have hb2 : Below w.heap.size w w1b := hb1.trans (((Below.refl _ _).drew.trans hbel).mono hb1.size)
  refine (taket s q _ (by omega) (text_short s _ (by omega))).mono ?_
  rintro e w2 ⟨he, hb3⟩
  rw [HT.out, trit] at he
  subst he
  have hb4 := hb2.trans (hb3.mono hb2.size)
  clear hb2 hb3
  go_wp2_with fail
  go_region_held3 (fun w' => Below w2.heap.size w2 w') (first | exact (Below.refl _ _).drew | exact (Below.refl _ _).drew.trans (by assumption))
    (first | (go_at_call 17; refine (text_walk _ _ (by rw [size_list]; omega)).mono ?_; rintro e w2b ⟨rfl, hbel2⟩))
  go_wp2_with fail
  have hb5 : Below w.heap.size w w2b := hb4.trans (((Below.refl _ _).drew.trans hbel2).mono hb4.size)
  refine (takel s q _ (by omega) (Or.inr (by omega))).mono ?_
  rintro e w3 ⟨A, cap, he, hS, hb6⟩
  rw [HL.out] at he hS
  subst he
  have hb7 := (hb5).trans (hb6.mono (hb5).size)
  clear hb5 hb6
  go_wp2_with fail
  have hS' : Strs w3.drew w3.drew.heap.size A ss := strs_drew hS
  go_region_held3 (fun w' => Below w3.heap.size w3 w') (first | exact (Below.refl _ _).drew | exact (Below.refl _ _).drew.trans (by assumption))
    (first | (go_at_call 21; refine (list_walk A cap ss _ hS' hln hls).mono ?_; rintro e w3b ⟨rfl, hbel3⟩))
  go_wp2_with fail
  have hb8 : Below w.heap.size w w3b := hb7.trans (((Below.refl _ _).drew.trans hbel3).mono hb7.size)
  refine (awake _).mono ?_
  rintro e w4 ⟨rfl, hb9⟩
  go_wp2
  go_ret
  exact ⟨rfl, hb8.trans (hb9.mono hb8.size)⟩

/-- Whatever the bytes (at most 2^42) and the place. -/
theorem forms_walk (s : ByteArray) (p : Int) (w : World) (hs : s.size ≤ 4398046511104) :
    Calls Try.prog 8 #[.string s, .int .i64 p] w fun e w' => e = .returned (.bool true) ∧ Below w.heap.size w w' := by
  have hz := Lib.size_eq s
  rcases Oct.takeNum_spec s.data.toList p with ⟨n, st, h, h0, h1, h2, h3⟩ | ⟨e, h, he⟩
  · obtain ⟨q, rfl⟩ := Int.eq_ofNat_of_zero_le h0
    rcases Oct.takeText_spec s.data.toList q with ⟨t, to, hT, _, hT1, hT2⟩ | ⟨eT, hT, heT⟩
    · rcases Oct.takeList_spec s.data.toList q with ⟨ss, last, hL, _⟩ | ⟨eL, hL, heL⟩
      · obtain ⟨_, hL1, hL2⟩ := Oct.takeList_back hL
        exact forms_ok_tl s q w hs n st h (by omega) (by omega) h3 t to hT (by omega) (by omega) (by omega) ss last hL hL1 (by omega)
      · exact forms_ok_te s q w hs n st h (by omega) (by omega) h3 t to hT (by omega) (by omega) (by omega) eL hL heL
    · rcases Oct.takeList_spec s.data.toList q with ⟨ss, last, hL, _⟩ | ⟨eL, hL, heL⟩
      · obtain ⟨_, hL1, hL2⟩ := Oct.takeList_back hL
        exact forms_ok_el s q w hs n st h (by omega) (by omega) h3 eT hT heT ss last hL hL1 (by omega)
      · exact forms_ok_ee s q w hs n st h (by omega) (by omega) h3 eT hT heT eL hL heL
  · exact forms_err s p w hs e h he
end Go.Proofs.Ytjaephhnaocpcaa
