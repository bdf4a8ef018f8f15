/- The walk of UtfBack: code points are read as they were written, and a text that is read is the one that is written of them. -/
import Derived.Test.YticfgdedlleapaaUtfAwake
namespace Go.Proofs.Yticfgdedlleapaa
open Go.RowKit
set_option linter.unusedVariables false

theorem encR_ok {zs : List Int} (h : ∀ p ∈ zs, Utf.pt p = true) : encR zs = .tuple #[.string ⟨(Utf.enc zs).toArray⟩, .int .i64 0] := by
  unfold encR
  rw [if_pos (List.all_eq_true.2 h)]

theorem encR_no {zs : List Int} (h : ¬∀ p ∈ zs, Utf.pt p = true) : encR zs = .tuple #[.string ByteArray.empty, .int .i64 30] := by
  unfold encR
  rw [if_neg (fun h' => h (List.all_eq_true.1 h'))]

theorem reads_size {s : ByteArray} {ps : List Int} {rest : List UInt8} (h : Utf.Reads s.data.toList ps rest) : ps.length ≤ s.size ∧ (Utf.enc ps).length + rest.length = s.size := by
  have h1 := Utf.enc_count ps
  have h2 := (Utf.reads_end h).2
  rw [← Lib.size_eq] at h2
  omega

theorem back_long (A : Option Addr) (cap : Nat) (zs : List Int) (hl : zs.length ≤ 9223372036854775807) (s : ByteArray) (hs : s.size ≤ 140737488351232) (h : 5000 < zs.length ∨ 20000 < s.size) (w : World) :
    Calls Try.prog 6 #[.slice A zs.length cap, .string s] w fun e w' => e = .returned (.bool true) ∧ Below w.heap.size w w' := by
  by_cases h1 : 5000 < zs.length
  · have hd : decide (5000 < zs.length) = true := by simpa using h1
    clear h
    go_enter Try.func6, Try.ntmps6
    go_wp2_with fail
    refine (awake_walk _).mono ?_
    rintro e w' ⟨rfl, hb⟩
    go_wp2
    go_ret
    exact ⟨rfl, hb⟩
  · have h2 : 20000 < s.size := by omega
    clear h
    go_enter Try.func6, Try.ntmps6
    go_wp2_with fail
    refine (awake_walk _).mono ?_
    rintro e w' ⟨rfl, hb⟩
    go_wp2
    go_ret
    exact ⟨rfl, hb⟩

set_option maxRecDepth 100000 in
set_option maxHeartbeats 2000000 in
theorem back_yes_ok (w : World) (A : Option Addr) (cap : Nat) (zs : List Int) (hA : Ints w w.heap.size A zs) (hl : zs.length ≤ 5000) (hz : ∀ p ∈ zs, Utf.pt p = true) (s : ByteArray) (hs : s.size ≤ 20000) (ps : List Int) (hR : Utf.Reads s.data.toList ps []) :
    Calls Try.prog 6 #[.slice A zs.length cap, .string s] w fun e w' => e = .returned (.bool true) ∧ Below w.heap.size w w' := by
  have hR1 : Utf.Reads (⟨(Utf.enc zs).toArray⟩ : ByteArray).data.toList zs [] := Utf.reads_enc hz
  have hmost := Utf.enc_most zs
  have HZ := Lib.hid (encR_ok hz)
  obtain ⟨hp1, hp2⟩ := reads_size hR
  have HP := Lib.hid (encR_ok hR.pts)
  have hus : (Utf.enc ps == s.toList) = true := by
    have := hR.text
    rw [List.append_nil] at this
    rw [← this, ← ByteArray.toList_mk s.data.toList]
    simp
  go_enter Try.func6, Try.ntmps6
  go_wp2_with fail
  refine (encode_walk A cap zs _ hA (by omega)).mono ?_
  rintro e w1 ⟨he, hB1⟩
  rw [HZ.out] at he
  subst he
  have hA1 := hA.next hB1
  go_wp2_with fail
  refine (decode_walk _ (by rw [size_list]; omega) _ _ hR1 _).mono ?_
  rintro e v1 h
  obtain ⟨A1, cap1, rfl, hI, hb1⟩ := dec_ok h
  clear h
  have hA2 := hA1.next hb1
  have hB2 := below_next hB1 hb1
  clear hA1 hB1 hb1
  go_wp2_with fail
  generalize hW1 : v1.alloc (Obj.cells #[Value.int IntKind.i64 0, Value.int IntKind.i64 0] 26) = V1
  have hF : Flt V1 v1.heap.size 0 0 := by rw [← hW1]; exact flt_new v1 0 0
  have hbW := below_one v1 (Obj.cells #[Value.int IntKind.i64 0, Value.int IntKind.i64 0] 26)
  rw [hW1] at hbW
  have hA3 := hA2.next hbW
  have hI3 := hI.next hbW
  have hB3 := below_next hB2 hbW
  clear hA2 hI hB2 hbW
  refine (same_walk _ _ cap1 cap zs zs _ hI3 hA3 (by omega) (by omega)).mono ?_
  rintro e v2 ⟨he, hb2⟩
  rw [sameB_refl] at he
  subst he
  have hB4 := below_next hB3 hb2
  clear hA3 hI3 hB3 hb2 hF hW1
  go_wp2_with fail
  refine (decode_walk s (by omega) _ _ hR _).mono ?_
  rintro e w3 h
  obtain ⟨A3, cap3, rfl, hI5, hb5⟩ := dec_ok h
  clear h
  have hB5 := below_next hB4 hb5
  go_wp2_with fail
  generalize hW3 : w3.alloc (Obj.cells #[Value.int IntKind.i64 0, Value.int IntKind.i64 0] 26) = W3
  have hbW := below_one w3 (Obj.cells #[Value.int IntKind.i64 0, Value.int IntKind.i64 0] 26)
  rw [hW3] at hbW
  have hI6 := hI5.next hbW
  have hB6 := below_next hB5 hbW
  clear hW3 hbW hI5 hB5 hb5
  refine (encode_walk A3 cap3 ps _ hI6 (by omega)).mono ?_
  rintro e w4 ⟨he, hb6⟩
  rw [HP.out] at he
  subst he
  have hB7 := below_next hB6 hb6
  clear hI6 hB6 hb6
  go_wp2_with fail
  refine (awake_walk _).mono ?_
  rintro e w5 ⟨rfl, hb7⟩
  go_wp2
  go_ret
  exact ⟨rfl, below_next hB7 hb7⟩

set_option maxRecDepth 100000 in
set_option maxHeartbeats 2000000 in
theorem back_yes_no (w : World) (A : Option Addr) (cap : Nat) (zs : List Int) (hA : Ints w w.heap.size A zs) (hl : zs.length ≤ 5000) (hz : ∀ p ∈ zs, Utf.pt p = true) (s : ByteArray) (hs : s.size ≤ 20000) (ps : List Int) (rest : List UInt8) (hr : rest ≠ []) (hR : Utf.Reads s.data.toList ps rest) :
    Calls Try.prog 6 #[.slice A zs.length cap, .string s] w fun e w' => e = .returned (.bool true) ∧ Below w.heap.size w w' := by
  have hR1 : Utf.Reads (⟨(Utf.enc zs).toArray⟩ : ByteArray).data.toList zs [] := Utf.reads_enc hz
  have hmost := Utf.enc_most zs
  have HZ := Lib.hid (encR_ok hz)
  obtain ⟨n, hn⟩ : ∃ n, (Utf.enc ps).length = n := ⟨_, rfl⟩
  obtain ⟨hp1, hp2⟩ := reads_size hR
  have hrl := List.length_pos_iff.2 hr
  rw [hn] at hp2
  have hns : n < s.size := by omega
  have hd0 : decide ((n : Int) < (s.size : Int)) = true := by simp; omega
  have hd1 : decide (n < s.size) = true := by simp; omega
  have HN := Lib.hid hn
  clear hn hp2
  go_enter Try.func6, Try.ntmps6
  go_wp2_with fail
  refine (encode_walk A cap zs _ hA (by omega)).mono ?_
  rintro e w1 ⟨he, hB1⟩
  rw [HZ.out] at he
  subst he
  have hA1 := hA.next hB1
  go_wp2_with fail
  refine (decode_walk _ (by rw [size_list]; omega) _ _ hR1 _).mono ?_
  rintro e v1 h
  obtain ⟨A1, cap1, rfl, hI, hb1⟩ := dec_ok h
  clear h
  have hA2 := hA1.next hb1
  have hB2 := below_next hB1 hb1
  clear hA1 hB1 hb1
  go_wp2_with fail
  generalize hW1 : v1.alloc (Obj.cells #[Value.int IntKind.i64 0, Value.int IntKind.i64 0] 26) = V1
  have hF : Flt V1 v1.heap.size 0 0 := by rw [← hW1]; exact flt_new v1 0 0
  have hbW := below_one v1 (Obj.cells #[Value.int IntKind.i64 0, Value.int IntKind.i64 0] 26)
  rw [hW1] at hbW
  have hA3 := hA2.next hbW
  have hI3 := hI.next hbW
  have hB3 := below_next hB2 hbW
  clear hA2 hI hB2 hbW
  refine (same_walk _ _ cap1 cap zs zs _ hI3 hA3 (by omega) (by omega)).mono ?_
  rintro e v2 ⟨he, hb2⟩
  rw [sameB_refl] at he
  subst he
  have hB4 := below_next hB3 hb2
  clear hA3 hI3 hB3 hb2 hF hW1
  go_wp2_with fail
  refine (decode_walk s (by omega) _ _ hR _).mono ?_
  rintro e w3 h
  obtain ⟨A3, cap3, rfl, hb5⟩ := dec_no hr h HN.out
  clear h
  have hB5 := below_next hB4 hb5
  go_wp2_with fail
  refine (awake_walk _).mono ?_
  rintro e w5 ⟨rfl, hb7⟩
  go_wp2
  go_ret
  exact ⟨rfl, below_next (below_new hB5 _) hb7⟩

set_option maxRecDepth 100000 in
set_option maxHeartbeats 2000000 in
theorem back_no_ok (w : World) (A : Option Addr) (cap : Nat) (zs : List Int) (hA : Ints w w.heap.size A zs) (hl : zs.length ≤ 5000) (hz : ¬∀ p ∈ zs, Utf.pt p = true) (s : ByteArray) (hs : s.size ≤ 20000) (ps : List Int) (hR : Utf.Reads s.data.toList ps []) :
    Calls Try.prog 6 #[.slice A zs.length cap, .string s] w fun e w' => e = .returned (.bool true) ∧ Below w.heap.size w w' := by
  have HZ := Lib.hid (encR_no hz)
  obtain ⟨hp1, hp2⟩ := reads_size hR
  have HP := Lib.hid (encR_ok hR.pts)
  have hus : (Utf.enc ps == s.toList) = true := by
    have := hR.text
    rw [List.append_nil] at this
    rw [← this, ← ByteArray.toList_mk s.data.toList]
    simp
  go_enter Try.func6, Try.ntmps6
  go_wp2_with fail
  refine (encode_walk A cap zs _ hA (by omega)).mono ?_
  rintro e w1 ⟨he, hB1⟩
  rw [HZ.out] at he
  subst he
  have hA1 := hA.next hB1
  go_wp2_with fail
  refine (decode_walk s (by omega) _ _ hR _).mono ?_
  rintro e w3 h
  obtain ⟨A3, cap3, rfl, hI5, hb5⟩ := dec_ok h
  clear h
  have hB5 := below_next hB1 hb5
  go_wp2_with fail
  generalize hW3 : w3.alloc (Obj.cells #[Value.int IntKind.i64 0, Value.int IntKind.i64 0] 26) = W3
  have hbW := below_one w3 (Obj.cells #[Value.int IntKind.i64 0, Value.int IntKind.i64 0] 26)
  rw [hW3] at hbW
  have hI6 := hI5.next hbW
  have hB6 := below_next hB5 hbW
  clear hW3 hbW hI5 hB5 hb5
  refine (encode_walk A3 cap3 ps _ hI6 (by omega)).mono ?_
  rintro e w4 ⟨he, hb6⟩
  rw [HP.out] at he
  subst he
  have hB7 := below_next hB6 hb6
  clear hI6 hB6 hb6
  go_wp2_with fail
  refine (awake_walk _).mono ?_
  rintro e w5 ⟨rfl, hb7⟩
  go_wp2
  go_ret
  exact ⟨rfl, below_next hB7 hb7⟩

set_option maxRecDepth 100000 in
set_option maxHeartbeats 2000000 in
theorem back_no_no (w : World) (A : Option Addr) (cap : Nat) (zs : List Int) (hA : Ints w w.heap.size A zs) (hl : zs.length ≤ 5000) (hz : ¬∀ p ∈ zs, Utf.pt p = true) (s : ByteArray) (hs : s.size ≤ 20000) (ps : List Int) (rest : List UInt8) (hr : rest ≠ []) (hR : Utf.Reads s.data.toList ps rest) :
    Calls Try.prog 6 #[.slice A zs.length cap, .string s] w fun e w' => e = .returned (.bool true) ∧ Below w.heap.size w w' := by
  have HZ := Lib.hid (encR_no hz)
  obtain ⟨n, hn⟩ : ∃ n, (Utf.enc ps).length = n := ⟨_, rfl⟩
  obtain ⟨hp1, hp2⟩ := reads_size hR
  have hrl := List.length_pos_iff.2 hr
  rw [hn] at hp2
  have hns : n < s.size := by omega
  have hd0 : decide ((n : Int) < (s.size : Int)) = true := by simp; omega
  have hd1 : decide (n < s.size) = true := by simp; omega
  have HN := Lib.hid hn
  clear hn hp2
  go_enter Try.func6, Try.ntmps6
  go_wp2_with fail
  refine (encode_walk A cap zs _ hA (by omega)).mono ?_
  rintro e w1 ⟨he, hB1⟩
  rw [HZ.out] at he
  subst he
  have hA1 := hA.next hB1
  go_wp2_with fail
  refine (decode_walk s (by omega) _ _ hR _).mono ?_
  rintro e w3 h
  obtain ⟨A3, cap3, rfl, hb5⟩ := dec_no hr h HN.out
  clear h
  have hB5 := below_next hB1 hb5
  go_wp2_with fail
  refine (awake_walk _).mono ?_
  rintro e w5 ⟨rfl, hb7⟩
  go_wp2
  go_ret
  exact ⟨rfl, below_next (below_new hB5 _) hb7⟩

theorem back_walk (w : World) (A : Option Addr) (cap : Nat) (zs : List Int) (hA : Ints w w.heap.size A zs) (hl : zs.length ≤ 9223372036854775807) (s : ByteArray) (hs : s.size ≤ 140737488351232) :
    Calls Try.prog 6 #[.slice A zs.length cap, .string s] w fun e w' => e = .returned (.bool true) ∧ Below w.heap.size w w' := by
  by_cases h : 5000 < zs.length ∨ 20000 < s.size
  · exact back_long A cap zs hl s hs h w
  · obtain ⟨ps, rest, hR⟩ := Utf.reads s.data.toList
    by_cases hz : ∀ p ∈ zs, Utf.pt p = true
    · by_cases hr : rest = []
      · subst hr; exact back_yes_ok w A cap zs hA (by omega) hz s (by omega) ps hR
      · exact back_yes_no w A cap zs hA (by omega) hz s (by omega) ps rest hr hR
    · by_cases hr : rest = []
      · subst hr; exact back_no_ok w A cap zs hA (by omega) hz s (by omega) ps hR
      · exact back_no_no w A cap zs hA (by omega) hz s (by omega) ps rest hr hR
end Go.Proofs.Yticfgdedlleapaa
