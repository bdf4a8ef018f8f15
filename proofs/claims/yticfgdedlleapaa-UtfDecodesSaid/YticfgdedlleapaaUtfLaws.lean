/- The walks of three laws of layer 3: UtfDecodes, UtfEncodes, UtfPlaces. -/
import Derived.Test.YticfgdedlleapaaUtfAwake
namespace Go.Proofs.Yticfgdedlleapaa
open Go.RowKit
set_option linter.unusedVariables false

set_option maxRecDepth 100000 in
theorem decodes_long (s : ByteArray) (h : 20000 < s.size) (hs : s.size ≤ 140737488351232) (w : World) :
    Calls Try.prog 3 #[.string s] w fun e w' => e = .returned (.bool true) ∧ Below w.heap.size w w' := by
  go_enter Try.func3, Try.ntmps3
  go_wp2_with fail
  refine (awake_walk _).mono ?_
  rintro e w' ⟨rfl, hb⟩
  go_wp2
  go_ret
  exact ⟨rfl, hb⟩

set_option maxRecDepth 100000 in
set_option maxHeartbeats 1000000 in
theorem decodes_ok (s : ByteArray) (h : s.size ≤ 20000) (ps : List Int) (hR : Utf.Reads s.data.toList ps []) (w : World) :
    Calls Try.prog 3 #[.string s] w fun e w' => e = .returned (.bool true) ∧ Below w.heap.size w w' := by
  have hps : ps.length ≤ 20000 := by
    have h1 := Utf.enc_count ps
    have h2 := (Utf.reads_end hR).2
    rw [← Lib.size_eq] at h2
    omega
  go_enter Try.func3, Try.ntmps3
  go_wp2_with fail
  refine (decode_walk _ (by omega) _ _ hR _).mono ?_
  rintro e w1 h
  obtain ⟨A, cap, rfl, hI, hb1⟩ := dec_ok h
  clear h
  go_wp2_with fail
  generalize hW1 : w1.alloc (Obj.cells #[Value.int IntKind.i64 0, Value.int IntKind.i64 0] 26) = W1
  have hF : Flt W1 w1.heap.size 0 0 := by rw [← hW1]; exact flt_new w1 0 0
  have hbW := below_one w1 (Obj.cells #[Value.int IntKind.i64 0, Value.int IntKind.i64 0] 26)
  rw [hW1] at hbW
  have hI1 := hI.next hbW
  have hB1 := below_next hb1 hbW
  clear hW1 hbW hI
  refine (rdecode_walk _ (by omega) _ _ hR _).mono ?_
  rintro e w2 h
  obtain ⟨A2, cap2, rfl, hI2, hb2⟩ := dec_ok h
  clear h
  have hF2 := hF.next hb2
  have hI3 := hI1.next hb2
  have hB2 := below_next hB1 hb2
  clear hF hI1 hb2 hB1 hb1
  go_wp2_with fail
  generalize hW2 : w2.alloc (Obj.cells #[Value.int IntKind.i64 0, Value.int IntKind.i64 0] 26) = W2
  have hF3 : Flt W2 w2.heap.size 0 0 := by rw [← hW2]; exact flt_new w2 0 0
  have hbW := below_one w2 (Obj.cells #[Value.int IntKind.i64 0, Value.int IntKind.i64 0] 26)
  rw [hW2] at hbW
  have hF4 := hF2.next hbW
  have hI4 := hI3.next hbW
  have hI5 := hI2.next hbW
  have hB4 := below_next hB2 hbW
  clear hW2 hbW hF2 hI2 hI3 hB2
  refine (same_walk _ _ cap cap2 ps ps _ hI4 hI5 (by omega) (by omega)).mono ?_
  rintro e w5 ⟨he, hb5⟩
  rw [sameB_refl] at he
  subst he
  obtain ⟨_, g1, g2⟩ := hF3.next hb5
  obtain ⟨_, g3, g4⟩ := hF4.next hb5
  have hB5 := below_next hB4 hb5
  clear hF3 hF4 hI4 hI5 hB4 hb5
  go_wp2_with fail
  refine (awake_walk _).mono ?_
  rintro e w6 ⟨rfl, hb6⟩
  go_wp2
  go_ret
  exact ⟨rfl, below_next hB5 hb6⟩

set_option maxRecDepth 100000 in
set_option maxHeartbeats 1000000 in
theorem decodes_no (s : ByteArray) (h : s.size ≤ 20000) (ps : List Int) (rest : List UInt8) (hr : rest ≠ []) (hR : Utf.Reads s.data.toList ps rest) (w : World) :
    Calls Try.prog 3 #[.string s] w fun e w' => e = .returned (.bool true) ∧ Below w.heap.size w w' := by
  obtain ⟨n, hn⟩ : ∃ n, (Utf.enc ps).length = n := ⟨_, rfl⟩
  go_enter Try.func3, Try.ntmps3
  have HN := Lib.hid hn
  clear hn
  go_wp2_with fail
  refine (decode_walk _ (by omega) _ _ hR _).mono ?_
  rintro e w1 h
  obtain ⟨A, cap, rfl, hb1⟩ := dec_no hr h HN.out
  clear h
  go_wp2_with fail
  generalize hW1 : w1.alloc (Obj.cells #[Value.int IntKind.i64 30, Value.int IntKind.i64 (n : Int)] 26) = W1
  have hF : Flt W1 w1.heap.size 30 n := by rw [← hW1]; exact flt_new w1 30 n
  have hbW := below_one w1 (Obj.cells #[Value.int IntKind.i64 30, Value.int IntKind.i64 (n : Int)] 26)
  rw [hW1] at hbW
  have hB1 := below_next hb1 hbW
  clear hW1 hbW
  refine (rdecode_walk _ (by omega) _ _ hR _).mono ?_
  rintro e w2 h
  obtain ⟨A2, cap2, rfl, hb2⟩ := dec_no hr h HN.out
  clear h
  have hF2 := hF.next hb2
  have hB2 := below_next hB1 hb2
  clear hF hb2 hB1 hb1
  go_wp2_with fail
  generalize hW2 : w2.alloc (Obj.cells #[Value.int IntKind.i64 30, Value.int IntKind.i64 (n : Int)] 26) = W2
  have hF3 : Flt W2 w2.heap.size 30 n := by rw [← hW2]; exact flt_new w2 30 n
  have hbW := below_one w2 (Obj.cells #[Value.int IntKind.i64 30, Value.int IntKind.i64 (n : Int)] 26)
  rw [hW2] at hbW
  have hF4 := hF2.next hbW
  have hB4 := below_next hB2 hbW
  clear hW2 hbW hF2 hB2
  refine (same_walk _ _ cap cap2 [] [] _ (Or.inl rfl) (Or.inl rfl) (by decide) (by decide)).mono ?_
  rintro e w5 ⟨he, hb5⟩
  rw [sameB_refl] at he
  subst he
  obtain ⟨_, g1, g2⟩ := hF3.next hb5
  obtain ⟨_, g3, g4⟩ := hF4.next hb5
  have hB5 := below_next hB4 hb5
  clear hF3 hF4 hB4 hb5
  go_wp2_with fail
  refine (awake_walk _).mono ?_
  rintro e w6 ⟨rfl, hb6⟩
  go_wp2
  go_ret
  exact ⟨rfl, below_next hB5 hb6⟩

theorem decodes_walk (s : ByteArray) (hs : s.size ≤ 140737488351232) (w : World) :
    Calls Try.prog 3 #[.string s] w fun e w' => e = .returned (.bool true) ∧ Below w.heap.size w w' := by
  by_cases h : 20000 < s.size
  · exact decodes_long s h hs w
  · obtain ⟨ps, rest, hR⟩ := Utf.reads s.data.toList
    by_cases hr : rest = []
    · subst hr; exact decodes_ok s (by omega) ps hR w
    · exact decodes_no s (by omega) ps rest hr hR w

set_option maxRecDepth 100000 in
set_option maxHeartbeats 1000000 in
theorem encodes_walk (A : Option Addr) (cap : Nat) (zs : List Int) (w : World) (hA : Ints w w.heap.size A zs) (hl : zs.length ≤ 9223372036854775807) :
    Calls Try.prog 4 #[.slice A zs.length cap] w fun e w' => e = .returned (.bool true) ∧ Below w.heap.size w w' := by
  by_cases h : 5000 < zs.length
  · go_enter Try.func4, Try.ntmps4
    go_wp2_with fail
    refine (awake_walk _).mono ?_
    rintro e w' ⟨rfl, hb⟩
    go_wp2
    go_ret
    exact ⟨rfl, hb⟩
  · obtain ⟨t, e0, he0⟩ : ∃ (t : ByteArray) (e0 : Int), encR zs = .tuple #[.string t, .int .i64 e0] := by
      unfold encR; split <;> exact ⟨_, _, rfl⟩
    have HE := Lib.hid he0
    clear he0
    have htt : (t.toList == t.toList) = true := by simp
    have hee : (e0 == e0) = true := by simp
    go_enter Try.func4, Try.ntmps4
    go_wp2_with fail
    refine (encode_walk A cap zs _ hA (by omega)).mono ?_
    rintro e w1 ⟨he, hb1⟩
    rw [HE.out] at he
    subst he
    go_wp2_with fail
    have hA1 := hA.next hb1
    refine (rencode_walk A cap zs _ hA1 (by omega)).mono ?_
    rintro e w2 ⟨he, hb2⟩
    rw [HE.out] at he
    subst he
    have hB2 := below_next hb1 hb2
    clear hA1 hb1 hb2
    go_wp2_with fail
    refine (awake_walk _).mono ?_
    rintro e w6 ⟨rfl, hb6⟩
    go_wp2
    go_ret
    exact ⟨rfl, below_next hB2 hb6⟩

set_option maxRecDepth 100000 in
set_option maxHeartbeats 1000000 in
theorem places_walk (s : ByteArray) (n : Int) (hs : s.size ≤ 140737488351232) (w : World) :
    Calls Try.prog 5 #[.string s, .int .i64 n] w fun e w' => e = .returned (.bool true) ∧ Below w.heap.size w w' := by
  by_cases h : 20000 < s.size
  · go_enter Try.func5, Try.ntmps5
    go_wp2_with fail
    refine (awake_walk _).mono ?_
    rintro e w' ⟨rfl, hb⟩
    go_wp2
    go_ret
    exact ⟨rfl, hb⟩
  · obtain ⟨a, b, c, he0⟩ : ∃ a b c : Int, placeR s.data.toList n = .tuple #[.int .i64 a, .int .i64 b, .int .i64 c] := by
      unfold placeR; split <;> exact ⟨_, _, _, rfl⟩
    have HE := Lib.hid he0
    clear he0
    have haa : (a == a) = true := by simp
    have hbb : (b == b) = true := by simp
    have hcc : (c == c) = true := by simp
    go_enter Try.func5, Try.ntmps5
    go_wp2_with fail
    refine (place_walk s n (by omega) _).mono ?_
    rintro e w1 ⟨he, hb1⟩
    rw [HE.out] at he
    subst he
    go_wp2_with fail
    refine (rplace_walk s n (by omega) _).mono ?_
    rintro e w2 ⟨he, hb2⟩
    rw [HE.out] at he
    subst he
    have hB2 := below_next hb1 hb2
    clear hb1 hb2
    go_wp2_with fail
    refine (awake_walk _).mono ?_
    rintro e w6 ⟨rfl, hb6⟩
    go_wp2
    go_ret
    exact ⟨rfl, below_next hB2 hb6⟩
end Go.Proofs.Yticfgdedlleapaa
