/- TakeText, of the program and of the document, tells what stands at a place: Oct.takeText. -/
import Derived.Test.YtjaephhnaocpcaaOctText
import Derived.Test.YtjaephhnaocpcaaOctMath2
namespace Go.Proofs.Ytjaephhnaocpcaa
open Go.RowKit

/-- A text, a place and an error as Go hands them back. -/
def trit (x : List UInt8 × Nat × Nat) : Value := .tuple #[.string ⟨x.1.toArray⟩, .int .i64 x.2.1, .int .i64 x.2.2]

theorem trit_eq {x y : List UInt8 × Nat × Nat} (h : x = y) : trit x = trit y := by rw [h]

set_option maxHeartbeats 400000 in
theorem clone_walk (s : ByteArray) (w : World) (hs : s.size ≤ 281474976710656) :
    Calls Try.prog 26 #[.string s] w fun e w' => e = .returned (.string s) ∧ Below w.heap.size w w' := by
  go_enter Try.func26, Try.ntmps26
  go_wp2_with fail
  refine (Try.clone s _ hs).mono ?_
  rintro e w' ⟨rfl, hb⟩
  go_wp2
  go_ret
  exact ⟨rfl, hb⟩

set_option maxHeartbeats 400000 in
theorem taket_err (s : ByteArray) (p : Int) (w : World) (hs : s.size ≤ maxLen) (e0 : Nat) (h : Oct.takeNum s.data.toList p = (0, 0, e0)) (he : e0 = 2 ∨ e0 = 10 ∨ e0 = 11) :
    Calls Try.prog 15 #[.string s, .int .i64 p] w fun e w' => e = .returned (trit (Oct.takeText s.data.toList p)) ∧ Below w.heap.size w w' := by
  have H := Lib.hid h
  have hf := Lib.hid (Oct.takeText_err h he)
  have he1 : ((e0 : Int) == 0) = false := by rcases he with rfl | rfl | rfl <;> rfl
  have he2 : ((e0 : Int) != 0) = true := by rcases he with rfl | rfl | rfl <;> rfl
  clear h he
  go_enter Try.func15, Try.ntmps15
  go_wp2_with fail
  refine (take s p _ hs).mono ?_
  rintro e w' ⟨he, hb⟩
  rw [H.out, tri] at he
  subst he
  go_wp2
  go_ret3
  exact ⟨by rw [hf.out]; rfl, hb⟩

set_option maxHeartbeats 400000 in
theorem taket_short (s : ByteArray) (p : Int) (w : World) (hs : s.size ≤ maxLen) (n st : Nat) (h : Oct.takeNum s.data.toList p = (n, st, 0)) (h2 : st ≤ s.size) (hn : s.size - st < n) :
    Calls Try.prog 15 #[.string s, .int .i64 p] w fun e w' => e = .returned (trit (Oct.takeText s.data.toList p)) ∧ Below w.heap.size w w' := by
  have H := Lib.hid h
  have hf := Lib.hid (Oct.takeText_short h (by rw [← Lib.size_eq]; exact hn))
  have hs' := hs
  unfold maxLen at hs
  clear h
  go_enter Try.func15, Try.ntmps15
  go_wp2_with fail
  refine (take s p _ hs').mono ?_
  rintro e w' ⟨he, hb⟩
  rw [H.out, tri] at he
  subst he
  go_wp2
  go_ret3
  exact ⟨by rw [hf.out]; rfl, hb⟩

set_option maxHeartbeats 400000 in
theorem taket_ok (s : ByteArray) (p : Int) (w : World) (hs : s.size ≤ 4611686018427387904) (n st : Nat) (h : Oct.takeNum s.data.toList p = (n, st, 0)) (h2 : st ≤ s.size) (hn : n ≤ s.size - st) (hn2 : n ≤ 281474976710656) :
    Calls Try.prog 15 #[.string s, .int .i64 p] w fun e w' => e = .returned (trit (Oct.takeText s.data.toList p)) ∧ Below w.heap.size w w' := by
  have H := Lib.hid h
  obtain ⟨piece, hpiece⟩ : ∃ piece, piece = (s.data.toList.drop st).take (((st : Int) + (n : Int)).toNat - st) := ⟨_, rfl⟩
  have hsl := fun W => slice_mid s st (st + n) (by omega) (by omega) W
  rw [← hpiece] at hsl
  have hpl : piece.length ≤ 281474976710656 := by rw [hpiece, List.length_take, List.length_drop, ← Lib.size_eq]; omega
  have hf : Hid (Oct.takeText s.data.toList p = (piece, st + n, 0)) := Lib.hid (by
    rw [Oct.takeText_ok h (by rw [← Lib.size_eq]; omega), hpiece, show ((st : Int) + (n : Int)).toNat - st = n from by omega])
  clear h hpiece
  go_enter Try.func15, Try.ntmps15
  go_wp2_with fail
  refine (take s p _ (by unfold maxLen; omega)).mono ?_
  rintro e w' ⟨he, hb⟩
  rw [H.out, tri] at he
  subst he
  go_wp2_with fail
  refine (clone_walk _ _ (by rw [size_list]; exact hpl)).mono ?_
  rintro e w2 ⟨rfl, hb2⟩
  go_wp2
  go_ret3
  exact ⟨by rw [hf.out]; rfl, hb.trans (hb2.mono hb.size)⟩

/-- TakeText, at whatever place of whatever text. -/
theorem taket (s : ByteArray) (p : Int) (w : World) (hs : s.size ≤ 4611686018427387904) (ht : (Oct.takeText s.data.toList p).1.length ≤ 281474976710656) :
    Calls Try.prog 15 #[.string s, .int .i64 p] w fun e w' => e = .returned (trit (Oct.takeText s.data.toList p)) ∧ Below w.heap.size w w' := by
  have hz := Lib.size_eq s
  rcases Oct.takeNum_spec s.data.toList p with ⟨n, st, h, h0, h1, h2, h3⟩ | ⟨e, h, he⟩
  · by_cases hn : s.size - st < n
    · exact taket_short s p w (by unfold maxLen; omega) n st h (by omega) hn
    · refine taket_ok s p w hs n st h (by omega) (by omega) ?_
      rw [Oct.takeText_ok h (by omega), List.length_take, List.length_drop] at ht
      omega
  · exact taket_err s p w (by unfold maxLen; omega) e h he

theorem text_short (s : ByteArray) (p : Int) (hs : s.size ≤ 281474976710656) : (Oct.takeText s.data.toList p).1.length ≤ 281474976710656 := by
  have hz := Lib.size_eq s
  rcases Oct.takeText_spec s.data.toList p with ⟨t, to, h, h0, h1, h2⟩ | ⟨e, h, he⟩
  · rw [h]
    show t.length ≤ _
    omega
  · rw [h]
    exact Nat.zero_le _

set_option maxHeartbeats 400000 in
theorem rtaket_err (s : ByteArray) (p : Int) (w : World) (hs : s.size ≤ maxLen) (e0 : Nat) (h : Oct.takeNum s.data.toList p = (0, 0, e0)) (he : e0 = 2 ∨ e0 = 10 ∨ e0 = 11) :
    Calls Try.prog 16 #[.string s, .int .i64 p] w fun e w' => e = .returned (trit (Oct.takeText s.data.toList p)) ∧ Below w.heap.size w w' := by
  have H := Lib.hid h
  have hf := Lib.hid (Oct.takeText_err h he)
  have he1 : ((e0 : Int) == 0) = false := by rcases he with rfl | rfl | rfl <;> rfl
  have he2 : ((e0 : Int) != 0) = true := by rcases he with rfl | rfl | rfl <;> rfl
  clear h he
  go_enter Try.func16, Try.ntmps16
  go_wp2_with fail
  refine (rtake s p _ hs).mono ?_
  rintro e w' ⟨he, hb⟩
  rw [H.out, tri] at he
  subst he
  go_wp2
  go_ret3
  exact ⟨by rw [hf.out]; rfl, hb⟩

set_option maxHeartbeats 400000 in
theorem rtaket_in (s : ByteArray) (p : Int) (w : World) (hs : s.size ≤ 281474976710656) (n st : Nat) (h : Oct.takeNum s.data.toList p = (n, st, 0)) (h2 : st ≤ s.size) :
    Calls Try.prog 16 #[.string s, .int .i64 p] w fun e w' => e = .returned (trit (Oct.takeText s.data.toList p)) ∧ Below w.heap.size w w' := by
  have H := Lib.hid h
  obtain ⟨r, hr⟩ : ∃ r : ByteArray, r = ⟨(s.data.toList.drop st).toArray⟩ := ⟨_, rfl⟩
  have hsl := fun W => slice_from s st h2 W
  rw [← hr] at hsl
  have hrz : r.size = s.size - st := by rw [hr, size_list, List.length_drop, ← Lib.size_eq]
  have hrl : r.data.toList = s.data.toList.drop st := by rw [hr]
  have HR := Lib.hid hrl
  have HZ := Lib.hid hrz
  have hrs : r.size ≤ 281474976710656 := by omega
  clear hr hrl
  by_cases hn : r.size < n
  · have hf := Lib.hid (Oct.takeText_short h (by rw [← Lib.size_eq]; omega))
    clear h hrz
    go_enter Try.func16, Try.ntmps16
    go_wp2_with fail
    refine (rtake s p _ (by unfold maxLen; omega)).mono ?_
    rintro e w' ⟨he, hb⟩
    rw [H.out, tri] at he
    subst he
    go_wp2
    go_ret3
    exact ⟨by rw [hf.out]; rfl, hb⟩
  · have hst : st + n ≤ s.size := by omega
    have hf := Lib.hid (Oct.takeText_ok h (by rw [← Lib.size_eq]; omega))
    clear h hrz
    go_enter Try.func16, Try.ntmps16
    go_wp2_with fail
    refine (rtake s p _ (by unfold maxLen; omega)).mono ?_
    rintro e w' ⟨he, hb⟩
    rw [H.out, tri] at he
    subst he
    go_wp2
    go_ret3
    refine ⟨?_, hb⟩
    rw [hf.out, ← HR.out]
    exact congrArg (fun b => Ending.returned (.tuple #[.string b, .int .i64 ((st + n : Nat) : Int), .int .i64 0])) (ByteArray.extract_mk r.data.toList 0 n)

/-- The document's TakeText, at whatever place of whatever text. -/
theorem rtaket (s : ByteArray) (p : Int) (w : World) (hs : s.size ≤ 281474976710656) :
    Calls Try.prog 16 #[.string s, .int .i64 p] w fun e w' => e = .returned (trit (Oct.takeText s.data.toList p)) ∧ Below w.heap.size w w' := by
  have hz := Lib.size_eq s
  rcases Oct.takeNum_spec s.data.toList p with ⟨n, st, h, h0, h1, h2, h3⟩ | ⟨e, h, he⟩
  · exact rtaket_in s p w hs n st h (by omega)
  · exact rtaket_err s p w (by unfold maxLen; omega) e h he
end Go.Proofs.Ytjaephhnaocpcaa
