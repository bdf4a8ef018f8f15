/- The probes that every law of layer 3 asks: some answers that the document fixes. -/
import Derived.Test.YticfgdedlleapaaUtfDecode
import Derived.Test.YticfgdedlleapaaUtfEncode
import Derived.Test.YticfgdedlleapaaUtfPlace
namespace Go.Proofs.Yticfgdedlleapaa
open Go.RowKit
set_option linter.unusedVariables false

theorem reads_ae : Utf.Reads (⟨#[97, 195, 169]⟩ : ByteArray).data.toList [97, 233] [] :=
  ⟨by decide, by decide, rfl⟩
theorem reads_no : Utf.Reads (⟨#[97, 192, 128]⟩ : ByteArray).data.toList [97] [192, 128] :=
  ⟨by decide, by decide, by decide⟩

theorem dec_ok {l : List Int} {w w' : World} {e : Ending} (h : Decoded l [] w e w') : ∃ (A : Option Addr) (cap : Nat), e = .returned (.tuple #[.slice A l.length cap, .agg #[.int .i64 0, .int .i64 0]]) ∧ Ints w' w'.heap.size A l ∧ Below w.heap.size w w' := by
  obtain ⟨A, cap, zs, f, he, hI, _, hb, ⟨_, rfl, rfl⟩ | ⟨h, _⟩⟩ := h
  · exact ⟨A, cap, he, hI, hb⟩
  · exact absurd rfl h

theorem dec_ok3 {l : List Int} {w w' : World} {e : Ending} (h : Decoded l [] w e w') : ∃ (A : Option Addr) (cap : Nat), e = .returned (.tuple #[.slice A l.length cap, .agg #[.int .i64 0, .int .i64 0]]) ∧ Ints w' w'.heap.size A l ∧ (A = none → l.length = 0 ∧ cap = 0) ∧ Below w.heap.size w w' := by
  obtain ⟨A, cap, zs, f, he, hI, hN, hb, ⟨_, rfl, rfl⟩ | ⟨h, _⟩⟩ := h
  · exact ⟨A, cap, he, hI, hN, hb⟩
  · exact absurd rfl h

theorem dec_no {l : List Int} {rest : List UInt8} (hr : rest ≠ []) {w w' : World} {e : Ending} (h : Decoded l rest w e w') {n : Nat} (hn : (Utf.enc l).length = n) :
    ∃ (A : Option Addr) (cap : Nat), e = .returned (.tuple #[.slice A 0 cap, .agg #[.int .i64 30, .int .i64 n]]) ∧ Below w.heap.size w w' := by
  subst hn
  obtain ⟨A, cap, zs, f, he, hI, _, hb, ⟨h, _⟩ | ⟨_, rfl, rfl⟩⟩ := h
  · exact absurd h hr
  · exact ⟨A, cap, he, hb⟩

theorem ints_lit (w : World) (zs : List Int) {cs : Array Value} (h : cs.toList = zs.map (Value.int .i64)) :
    Ints (w.alloc (.cells cs 3)) (w.alloc (.cells cs 3)).heap.size (some ⟨w.heap.size, 0, none⟩) zs := by
  refine Or.inr ⟨w.heap.size, 0, rfl, by simp, fun i hi => ?_⟩
  have hz : cs.size = zs.length := by rw [← Array.length_toList, h, List.length_map]
  have h1 : cs[i]? = some (.int .i64 (zs[i]'hi)) := by
    rw [← Array.getElem?_toList, h, List.getElem?_map, List.getElem?_eq_getElem hi]; rfl
  rw [Nat.zero_add]
  simp [go_sem, h1]

/-- A fault that lies in memory. -/
def Flt (w : World) (b : Nat) (e a : Int) : Prop := b < w.heap.size ∧ w.cell? ⟨b, 0, none⟩ = some (.int .i64 e) ∧ w.cell? ⟨b, 1, none⟩ = some (.int .i64 a)

theorem Flt.next {w w' : World} {b : Nat} {e a : Int} (h : Flt w b e a) (hb : Below w.heap.size w w') : Flt w' b e a :=
  ⟨Nat.lt_of_lt_of_le h.1 hb.size, ((cell_of_below (o := 0) hb h.1).1).trans h.2.1, ((cell_of_below (o := 1) hb h.1).1).trans h.2.2⟩

theorem flt_new (w : World) (e a : Int) : Flt (w.alloc (.cells #[.int .i64 e, .int .i64 a] 26)) w.heap.size e a :=
  ⟨by simp, by simp [go_sem], by simp [go_sem]⟩

theorem below_new {w W : World} (h : Below w.heap.size w W) (o : Obj) : Below w.heap.size w (W.alloc o) := h.alloc h.size o
theorem below_one (w : World) (o : Obj) : Below w.heap.size w (w.alloc o) := (Below.refl _ _).alloc (Nat.le_refl _) _

theorem place_ae : placeR (⟨#[195, 169, 120]⟩ : ByteArray).data.toList 2 = .tuple #[.int .i64 1, .int .i64 2, .int .i64 0] := by
  have h := placeR_in (⟨#[195, 169, 120]⟩ : ByteArray).data.toList 2 (by decide)
  have h1 : Utf.step (⟨#[195, 169, 120]⟩ : ByteArray).data.toList 0 = 2 := by decide
  have h2 : Utf.start (⟨#[195, 169, 120]⟩ : ByteArray).data.toList 2 = 0 := by decide
  rw [h2, Utf.col_on (by decide) (by rw [h1]; decide), h1, Utf.col_end (by decide)] at h
  exact h

theorem enc_no : encR [55296] = .tuple #[.string ByteArray.empty, .int .i64 30] := by
  unfold encR
  rw [if_neg (by decide)]

theorem sameB_refl (l : List Int) : sameB l l = true := by unfold sameB; exact decide_eq_true rfl

set_option maxRecDepth 100000 in
set_option maxHeartbeats 1000000 in
theorem awake_walk (w : World) : Calls Try.prog 9 #[] w fun e w' => e = .returned (.bool true) ∧ Below w.heap.size w w' := by
  go_enter Try.func9, Try.ntmps9
  go_wp2_with fail
  refine (decode_walk _ (by decide) _ _ reads_ae _).mono ?_
  rintro e w1 h
  obtain ⟨A, cap, rfl, hI, hb1⟩ := dec_ok h
  clear h
  go_wp2_with fail
  generalize hW1 : w1.alloc (Obj.cells #[Value.int IntKind.i64 0, Value.int IntKind.i64 0] 26) = W1
  have hF : Flt W1 w1.heap.size 0 0 := by rw [← hW1]; exact flt_new w1 0 0
  have hbW := below_one w1 (Obj.cells #[Value.int IntKind.i64 0, Value.int IntKind.i64 0] 26)
  rw [hW1] at hbW
  have hI1 := hI.next hbW
  have hB1 := below_next hb1 hbW
  clear hW1 hbW hI
  refine (decode_walk _ (by decide) _ _ reads_no _).mono ?_
  rintro e w2 h
  obtain ⟨A2, cap2, rfl, hb2⟩ := dec_no (by decide) h (n := 1) (by decide)
  clear h
  have hF2 := hF.next hb2
  have hI2 := hI1.next hb2
  have hB2 := below_next hB1 hb2
  clear hF hI1 hb2 hB1 hb1
  go_wp2_with fail
  generalize hW2 : w2.alloc (Obj.cells #[Value.int IntKind.i64 30, Value.int IntKind.i64 ((1 : Nat) : Int)] 26) = W2
  have hF3 : Flt W2 w2.heap.size 30 1 := by rw [← hW2]; exact flt_new w2 30 1
  have hbW := below_one w2 (Obj.cells #[Value.int IntKind.i64 30, Value.int IntKind.i64 ((1 : Nat) : Int)] 26)
  have hz2 : W2.heap.size = w2.heap.size + 1 := by rw [← hW2]; simp
  rw [hW2] at hbW
  have hF4 := hF2.next hbW
  have hI4 := hI2.next hbW
  have hB4 := below_next hB2 hbW
  clear hW2 hbW hF2 hI2 hB2
  have hL := ints_lit W2 [55296] (cs := #[.int .i64 55296]) rfl
  rw [hz2] at hL
  have HZ := Lib.hid hz2
  clear hz2
  have hbW := below_one W2 (Obj.cells #[Value.int IntKind.i64 55296] 3)
  generalize hW3 : W2.alloc (Obj.cells #[Value.int IntKind.i64 55296] 3) = W3
  rw [hW3] at hbW hL
  have hF5 := hF4.next hbW
  have hF6 := hF3.next hbW
  have hI5 := hI4.next hbW
  have hB5 := below_next hB4 hbW
  clear hW3 hbW hF3 hF4 hI4 hB4
  refine (encode_walk _ 1 [55296] _ hL (by decide)).mono ?_
  rintro e w3 ⟨he, hb3⟩
  rw [enc_no] at he
  subst he
  have hF7 := hF5.next hb3
  have hF8 := hF6.next hb3
  have hI6 := hI5.next hb3
  have hB6 := below_next hB5 hb3
  clear hb3 hF5 hF6 hI5 hB5 hL
  go_wp2_with fail
  refine (place_walk _ 2 (by decide) _).mono ?_
  rintro e w4 ⟨he, hb4⟩
  rw [place_ae] at he
  subst he
  have hF9 := hF7.next hb4
  have hF10 := hF8.next hb4
  have hI7 := hI6.next hb4
  have hB7 := below_next hB6 hb4
  clear hb4 hF7 hF8 hI6 hB6
  go_wp2_with fail
  have hL := ints_lit w4 [97, 233] (cs := #[.int .i64 97, .int .i64 233]) rfl
  have hbW := below_one w4 (Obj.cells #[Value.int IntKind.i64 97, Value.int IntKind.i64 233] 3)
  generalize hW4 : w4.alloc (Obj.cells #[Value.int IntKind.i64 97, Value.int IntKind.i64 233] 3) = W4
  rw [hW4] at hbW hL
  have hF11 := hF9.next hbW
  have hF12 := hF10.next hbW
  have hI8 := hI7.next hbW
  have hB8 := below_next hB7 hbW
  clear hW4 hbW hF9 hF10 hI7 hB7
  refine (same_walk _ _ cap 2 [97, 233] [97, 233] _ hI8 hL (by decide) (by decide)).mono ?_
  rintro e w5 ⟨he, hb5⟩
  rw [sameB_refl] at he
  subst he
  obtain ⟨_, g1, g2⟩ := hF11.next hb5
  obtain ⟨_, g3, g4⟩ := hF12.next hb5
  have hB9 := below_next hB8 hb5
  clear hF11 hF12 hI8 hB8 hL hb5
  go_wp2
  go_ret
  exact ⟨rfl, hB9⟩
end Go.Proofs.Yticfgdedlleapaa
