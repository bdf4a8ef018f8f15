/- The walk of UtfParts: two texts of code points, one behind the other, are both's. -/
import Derived.Test.YticfgdedlleapaaUtfBackW
import Derived.Test.YticfgdedlleapaaAppend
namespace Go.Proofs.Yticfgdedlleapaa
open Go.RowKit
set_option linter.unusedVariables false

theorem ba_data (a b : ByteArray) : (a ++ b).data.toList = a.data.toList ++ b.data.toList := by
  simp [ByteArray.data_append]

theorem Ints.cells {w : World} {B : Nat} {A : Option Addr} {zs : List Int} (h : Ints w B A zs) : ∀ ad, A = some ad → ∀ j u, (zs.map (Value.int .i64))[j]? = some u → w.cell? (ad.add j) = some u := by
  intro ad hA j u hu
  rcases h with h | ⟨b, off, rfl, _, hc⟩
  · rw [List.eq_nil_of_length_eq_zero h] at hu; simp at hu
  · cases hA
    rw [List.getElem?_map] at hu
    have hj : j < zs.length := by
      rcases Nat.lt_or_ge j zs.length with h | h
      · exact h
      · rw [List.getElem?_eq_none h] at hu; cases hu
    rw [List.getElem?_eq_getElem hj] at hu
    cases hu
    have hplain : (⟨b, off, none⟩ : Addr).add j = ⟨b, off + j, none⟩ := by unfold Addr.add; split <;> simp_all
    rw [hplain, hc j hj]

theorem ints_one (zs : List Int) : ∀ u ∈ zs.map (Value.int .i64), u.oneCell' = true := by
  intro u hu
  obtain ⟨x, _, rfl⟩ := List.mem_map.1 hu
  rfl

theorem parts_long (a b : ByteArray) (ha : a.size ≤ 140737488351232) (hb : b.size ≤ 140737488351232) (h : 10000 < a.size ∨ 10000 < b.size) (w : World) :
    Calls Try.prog 7 #[.string a, .string b] w fun e w' => e = .returned (.bool true) ∧ Below w.heap.size w w' := by
  by_cases h1 : 10000 < a.size
  · clear h
    go_enter Try.func7, Try.ntmps7
    go_wp2_with fail
    refine (awake_walk _).mono ?_
    rintro e w' ⟨rfl, hb⟩
    go_wp2
    go_ret
    exact ⟨rfl, hb⟩
  · have h2 : 10000 < b.size := by omega
    clear h
    go_enter Try.func7, Try.ntmps7
    go_wp2_with fail
    refine (awake_walk _).mono ?_
    rintro e w' ⟨rfl, hb⟩
    go_wp2
    go_ret
    exact ⟨rfl, hb⟩

set_option maxRecDepth 100000 in
set_option maxHeartbeats 2000000 in
theorem parts_bad (a b : ByteArray) (ha : a.size ≤ 10000) (hb : b.size ≤ 10000) (l : List Int) (rest : List UInt8) (hr : rest ≠ []) (hR : Utf.Reads a.data.toList l rest) (w : World) :
    Calls Try.prog 7 #[.string a, .string b] w fun e w' => e = .returned (.bool true) ∧ Below w.heap.size w w' := by
  obtain ⟨n, hn⟩ : ∃ n, (Utf.enc l).length = n := ⟨_, rfl⟩
  have HN := Lib.hid hn
  clear hn
  go_enter Try.func7, Try.ntmps7
  go_wp2_with fail
  refine (decode_walk _ (by omega) _ _ hR _).mono ?_
  rintro e w1 h
  obtain ⟨A, cap, rfl, hb1⟩ := dec_no hr h HN.out
  clear h
  go_wp2_with fail
  refine (awake_walk _).mono ?_
  rintro e w2 ⟨rfl, hb2⟩
  go_wp2
  go_ret
  exact ⟨rfl, below_next (below_new hb1 _) hb2⟩

set_option maxRecDepth 100000 in
set_option maxHeartbeats 2000000 in
theorem parts_no (a b : ByteArray) (ha : a.size ≤ 10000) (hb : b.size ≤ 10000) (l m : List Int) (hR : Utf.Reads a.data.toList l []) (rest : List UInt8) (hr : rest ≠ []) (hS : Utf.Reads b.data.toList m rest) (w : World) :
    Calls Try.prog 7 #[.string a, .string b] w fun e w' => e = .returned (.bool true) ∧ Below w.heap.size w w' := by
  have hT : Utf.Reads (a ++ b).data.toList (l ++ m) rest := by rw [ba_data]; exact Utf.reads_two hR hS
  obtain ⟨hl1, hl2⟩ := reads_size hR
  obtain ⟨hm1, hm2⟩ := reads_size hS
  have hab : (a ++ b).size = a.size + b.size := by simp [ByteArray.size_append]
  obtain ⟨n, hn⟩ : ∃ n, (Utf.enc m).length = n := ⟨_, rfl⟩
  have HN := Lib.hid hn
  have HN2 : Hid ((Utf.enc (l ++ m)).length = n + a.size) := Lib.hid (by rw [Utf.enc_append, List.length_append, hn, ← hl2, List.length_nil]; omega)
  have HAB := Lib.hid hab
  have hns : n ≤ 10000 := by omega
  clear hn hm2 hl2 hab
  go_enter Try.func7, Try.ntmps7
  go_wp2_with fail
  refine (decode_walk _ (by omega) _ _ hR _).mono ?_
  rintro e w1 h
  obtain ⟨A, cap, rfl, hI, hb1⟩ := dec_ok h
  clear h
  go_wp2_with fail
  have hb2 := below_new hb1 (Obj.cells #[Value.int IntKind.i64 0, Value.int IntKind.i64 0] 26)
  refine (decode_walk _ (by omega) _ _ hS _).mono ?_
  rintro e w2 h
  obtain ⟨A2, cap2, rfl, hb3⟩ := dec_no hr h HN.out
  clear h
  have hb4 := below_next hb2 hb3
  clear hb1 hb2 hb3 hI
  go_wp2_with fail
  generalize hW2 : w2.alloc (Obj.cells #[Value.int IntKind.i64 30, Value.int IntKind.i64 (n : Int)] 26) = W2
  have hF : Flt W2 w2.heap.size 30 n := by rw [← hW2]; exact flt_new w2 30 n
  have hbW := below_one w2 (Obj.cells #[Value.int IntKind.i64 30, Value.int IntKind.i64 (n : Int)] 26)
  rw [hW2] at hbW
  have hb5 := below_next hb4 hbW
  clear hW2 hbW hb4
  refine (decode_walk (a ++ b) (by rw [HAB.out]; omega) _ _ hT _).mono ?_
  rintro e w3 h
  obtain ⟨A3, cap3, rfl, hb6⟩ := dec_no hr h HN2.out
  clear h
  have hF2 := hF.next hb6
  have hb7 := below_next hb5 hb6
  clear hF hb5 hb6
  obtain ⟨g0, g1, g2⟩ := hF2
  go_wp2_with fail
  refine (awake_walk _).mono ?_
  rintro e w4 ⟨rfl, hb8⟩
  go_wp2
  go_ret
  exact ⟨rfl, below_next (below_new hb7 _) hb8⟩

set_option maxRecDepth 100000 in
set_option maxHeartbeats 2000000 in
theorem parts_ok (a b : ByteArray) (ha : a.size ≤ 10000) (hb : b.size ≤ 10000) (l m : List Int) (hR : Utf.Reads a.data.toList l []) (hS : Utf.Reads b.data.toList m []) (w : World) :
    Calls Try.prog 7 #[.string a, .string b] w fun e w' => e = .returned (.bool true) ∧ Below w.heap.size w w' := by
  obtain ⟨t, ht⟩ : ∃ t, t = l ++ m := ⟨_, rfl⟩
  have hT : Utf.Reads (a ++ b).data.toList t [] := by rw [ba_data, ht]; exact Utf.reads_two hR hS
  have HT : Hid ((l.map (Value.int .i64) ++ m.map (Value.int .i64)) = t.map (Value.int .i64)) := Lib.hid (by rw [ht, List.map_append])
  have HTL : Hid (t.length = l.length + m.length) := Lib.hid (by rw [ht, List.length_append])
  clear ht
  obtain ⟨hl1, hl2⟩ := reads_size hR
  obtain ⟨hm1, hm2⟩ := reads_size hS
  have hab : (a ++ b).size = a.size + b.size := by simp [ByteArray.size_append]
  have HAB := Lib.hid hab
  clear hm2 hl2 hab
  obtain ⟨i0, hi, hz0, hz1, hz2⟩ := info_parts (P := Try.prog) (e := 3) (z := .int .i64 0) (size := 1) (bytes := 8) (by kernel_rfl)
  go_enter Try.func7, Try.ntmps7
  go_wp2_with fail
  refine (decode_walk _ (by omega) _ _ hR _).mono ?_
  rintro e w1 h
  obtain ⟨A, cap, rfl, hI, hAn', hb1⟩ := dec_ok3 h
  have hAn := Lib.hid hAn'
  clear hAn'
  clear h
  go_wp2_with fail
  generalize hW1 : w1.alloc (Obj.cells #[Value.int IntKind.i64 0, Value.int IntKind.i64 0] 26) = W1
  have hbW := below_one w1 (Obj.cells #[Value.int IntKind.i64 0, Value.int IntKind.i64 0] 26)
  rw [hW1] at hbW
  have hI1 := hI.next hbW
  have hb2 := below_next hb1 hbW
  clear hW1 hbW hI hb1
  refine (decode_walk _ (by omega) _ _ hS _).mono ?_
  rintro e w2 h
  obtain ⟨A2, cap2, rfl, hJ, hAn2', hb3⟩ := dec_ok3 h
  have hAn2 := Lib.hid hAn2'
  clear hAn2'
  clear h
  have hI2 := hI1.next hb3
  have hb4 := below_next hb2 hb3
  clear hb2 hb3 hI1
  go_wp2_with fail
  generalize hW2 : w2.alloc (Obj.cells #[Value.int IntKind.i64 0, Value.int IntKind.i64 0] 26) = W2
  have hF : Flt W2 w2.heap.size 0 0 := by rw [← hW2]; exact flt_new w2 0 0
  have hbW := below_one w2 (Obj.cells #[Value.int IntKind.i64 0, Value.int IntKind.i64 0] 26)
  rw [hW2] at hbW
  have hI3 := hI2.next hbW
  have hJ3 := hJ.next hbW
  have hb5 := below_next hb4 hbW
  clear hW2 hbW hb4 hI2 hJ
  refine (decode_walk (a ++ b) (by rw [HAB.out]; omega) _ _ hT _).mono ?_
  rintro e w3 h
  obtain ⟨A3, cap3, rfl, hK, hb6⟩ := dec_ok h
  clear h
  have hF2 := hF.next hb6
  have hI4 := hI3.next hb6
  have hJ4 := hJ3.next hb6
  have hb7 := below_next hb5 hb6
  clear hF hb5 hb6 hI3 hJ3
  obtain ⟨g0, g1, g2⟩ := hF2
  have hl9 : l.length ≤ 10000 := by omega
  have hm9 : m.length ≤ 10000 := by omega
  have hown0 : ((w3.alloc (Obj.cells #[Value.int IntKind.i64 0, Value.int IntKind.i64 0] 26)).alloc (Obj.cells #[] 3)).ownsRow w3.heap.size 3 1 (.slice (some ⟨w3.heap.size + 1, 0, none⟩) 0 0) 0 [] := by
    have := World.ownsRow_lit (base := w3.heap.size) (e := 3) (size := 1) (w3.alloc (Obj.cells #[Value.int IntKind.i64 0, Value.int IntKind.i64 0] 26)) #[] 0 (by simp) (by decide) rfl
    simpa using this
  have hbA : Below w3.heap.size w3 ((w3.alloc (Obj.cells #[Value.int IntKind.i64 0, Value.int IntKind.i64 0] 26)).alloc (Obj.cells #[] 3)) := below_new (below_one w3 _) _
  have hI5 := hI4.keep hbA (Nat.le_refl _)
  go_wp2_with (at_builtin; (refine wpList_append_any _ rfl _ _ 23 rfl w3.heap.size 3 i0 (.int .i64 0) 1 8 Try.underlying23 hi hz0 hz1 hz2 rfl (by decide) (.slice (some ⟨w3.heap.size + 1, 0, none⟩) 0 0) 0 [] rfl hown0 A l.length cap (l.map (Value.int .i64)) rfl hAn.out (by rw [List.length_map, Nat.mul_one]) hI5.cells (ints_one l) (by unfold maxLen; omega) (by omega) hbA.size ?_))
  intro v1 w4 hown1 hb8
  have hI6 := hJ4.keep (hbA.trans hb8) (Nat.le_refl _)
  have hK6 := hK.keep (hbA.trans hb8) (Nat.le_refl _)
  have hb9 := hbA.trans hb8
  clear hown0 hbA hb8 hI5
  go_wp2_with (at_builtin; (refine wpList_append_any _ rfl _ _ 23 rfl w3.heap.size 3 i0 (.int .i64 0) 1 8 Try.underlying23 hi hz0 hz1 hz2 rfl (by decide) v1 l.length (l.map (Value.int .i64)) rfl hown1 A2 m.length cap2 (m.map (Value.int .i64)) rfl hAn2.out (by rw [List.length_map, Nat.mul_one]) hI6.cells (ints_one m) (by unfold maxLen; omega) (by omega) hb9.size ?_))
  intro v2 w5 hown2 hb10
  rw [HT.out] at hown2
  obtain ⟨A5, cap5, rfl, hS5, _⟩ := ints_of_own hown2
  have hK7 := (hK6.keep hb10 (Nat.le_refl _)).more (hb9.trans hb10).size
  have hb11 := below_next hb7 (hb9.trans hb10)
  clear hown2 hown1 hK6 hI6 hb10 hb9
  have ht9 : t.length ≤ 20000 := by rw [HTL.out]; omega
  go_wp2_with fail
  refine (same_walk _ _ cap3 cap5 t t _ hK7 hS5 (by omega) (by omega)).mono ?_
  rintro e w6 ⟨he, hb12⟩
  rw [sameB_refl] at he
  subst he
  have hb13 := below_next hb11 hb12
  clear hb11 hb12 hK7 hS5
  go_wp2_with fail
  refine (awake_walk _).mono ?_
  rintro e w7 ⟨rfl, hb14⟩
  go_wp2
  go_ret
  exact ⟨rfl, below_next hb13 hb14⟩

theorem parts_walk (a b : ByteArray) (ha : a.size ≤ 140737488351232) (hb : b.size ≤ 140737488351232) (w : World) :
    Calls Try.prog 7 #[.string a, .string b] w fun e w' => e = .returned (.bool true) ∧ Below w.heap.size w w' := by
  by_cases h : 10000 < a.size ∨ 10000 < b.size
  · exact parts_long a b ha hb h w
  · obtain ⟨l, rest, hR⟩ := Utf.reads a.data.toList
    by_cases hr : rest = []
    · subst hr
      obtain ⟨m, rest, hS⟩ := Utf.reads b.data.toList
      by_cases hr : rest = []
      · subst hr; exact parts_ok a b (by omega) (by omega) l m hR hS w
      · exact parts_no a b (by omega) (by omega) l m hR rest hr hS w
    · exact parts_bad a b (by omega) (by omega) l rest hr hR w
end Go.Proofs.Yticfgdedlleapaa
