/- The walk of UtfCuts: a code point's bytes that are cut are none's. -/
import Derived.Test.YticfgdedlleapaaUtfPartsW
namespace Go.Proofs.Yticfgdedlleapaa
open Go.RowKit
set_option linter.unusedVariables false

theorem encR_one (p : Int) (h : Utf.pt p = true) : encR [p] = .tuple #[.string ⟨(Utf.bytes p).toArray⟩, .int .i64 0] := by
  rw [encR_ok (by simpa using h), show Utf.enc [p] = Utf.bytes p from by simp [Utf.enc]]

theorem encR_none (p : Int) (h : Utf.pt p = false) : encR [p] = .tuple #[.string ByteArray.empty, .int .i64 30] :=
  encR_no (by simpa using h)

theorem cuts_long (A : Option Addr) (cap : Nat) (zs : List Int) (hl : zs.length ≤ 9223372036854775807) (p k : Int) (h : 5000 < zs.length) (w : World) :
    Calls Try.prog 8 #[.slice A zs.length cap, .int .i64 p, .int .i64 k] w fun e w' => e = .returned (.bool true) ∧ Below w.heap.size w w' := by
  have hd : decide (5000 < zs.length) = true := by simpa using h
  go_enter Try.func8, Try.ntmps8
  go_wp2_with fail
  refine (awake_walk _).mono ?_
  rintro e w' ⟨rfl, hb⟩
  go_wp2
  go_ret
  exact ⟨rfl, hb⟩

set_option maxRecDepth 100000 in
set_option maxHeartbeats 2000000 in
theorem cuts_bad (w : World) (A : Option Addr) (cap : Nat) (zs : List Int) (hA : Ints w w.heap.size A zs) (hl : zs.length ≤ 5000) (p : Int) (k : Int) (hz : ¬∀ p ∈ zs, Utf.pt p = true) (v : ByteArray) (f : Int) (hv : encR [p] = .tuple #[.string v, .int .i64 f]) :
    Calls Try.prog 8 #[.slice A zs.length cap, .int .i64 p, .int .i64 k] w fun e w' => e = .returned (.bool true) ∧ Below w.heap.size w w' := by
  have HZ := Lib.hid (encR_no hz)
  have HP := Lib.hid hv
  clear hv
  go_enter Try.func8, Try.ntmps8
  go_wp2_with fail
  refine (encode_walk A cap zs _ hA (by omega)).mono ?_
  rintro e w1 ⟨he, hB1⟩
  rw [HZ.out] at he
  subst he
  go_wp2_with fail
  have hL := ints_lit w1 [p] (cs := #[.int .i64 p]) rfl
  have hB2 := below_new hB1 (Obj.cells #[Value.int IntKind.i64 p] 3)
  refine (encode_walk _ 1 [p] _ hL (by simp)).mono ?_
  rintro e w2 ⟨he, hB3⟩
  rw [HP.out] at he
  subst he
  have hB4 := below_next hB2 hB3
  clear hL hB2 hB3 hB1
  go_wp2_with fail
  refine (awake_walk _).mono ?_
  rintro e w5 ⟨rfl, hb7⟩
  go_wp2
  go_ret
  exact ⟨rfl, below_next hB4 hb7⟩

set_option maxRecDepth 100000 in
set_option maxHeartbeats 2000000 in
theorem cuts_none (w : World) (A : Option Addr) (cap : Nat) (zs : List Int) (hA : Ints w w.heap.size A zs) (hl : zs.length ≤ 5000) (p : Int) (k : Int) (hz : ∀ p ∈ zs, Utf.pt p = true) (hp : Utf.pt p = false) :
    Calls Try.prog 8 #[.slice A zs.length cap, .int .i64 p, .int .i64 k] w fun e w' => e = .returned (.bool true) ∧ Below w.heap.size w w' := by
  have HZ := Lib.hid (encR_ok hz)
  have hmost := Utf.enc_most zs
  have HP := Lib.hid (encR_none p hp)
  go_enter Try.func8, Try.ntmps8
  go_wp2_with fail
  refine (encode_walk A cap zs _ hA (by omega)).mono ?_
  rintro e w1 ⟨he, hB1⟩
  rw [HZ.out] at he
  subst he
  go_wp2_with fail
  have hL := ints_lit w1 [p] (cs := #[.int .i64 p]) rfl
  have hB2 := below_new hB1 (Obj.cells #[Value.int IntKind.i64 p] 3)
  refine (encode_walk _ 1 [p] _ hL (by simp)).mono ?_
  rintro e w2 ⟨he, hB3⟩
  rw [HP.out] at he
  subst he
  have hB4 := below_next hB2 hB3
  clear hL hB2 hB3 hB1
  go_wp2_with fail
  refine (awake_walk _).mono ?_
  rintro e w5 ⟨rfl, hb7⟩
  go_wp2
  go_ret
  exact ⟨rfl, below_next hB4 hb7⟩

set_option maxRecDepth 100000 in
set_option maxHeartbeats 2000000 in
theorem cuts_low (w : World) (A : Option Addr) (cap : Nat) (zs : List Int) (hA : Ints w w.heap.size A zs) (hl : zs.length ≤ 5000) (p : Int) (k : Int) (hz : ∀ p ∈ zs, Utf.pt p = true) (hp : Utf.pt p = true) (hk : k < 1) :
    Calls Try.prog 8 #[.slice A zs.length cap, .int .i64 p, .int .i64 k] w fun e w' => e = .returned (.bool true) ∧ Below w.heap.size w w' := by
  have HZ := Lib.hid (encR_ok hz)
  have hmost := Utf.enc_most zs
  have HP := Lib.hid (encR_one p hp)
  have hw := Utf.width_pos p
  have HW := Lib.hid (Utf.bytes_length p)
  go_enter Try.func8, Try.ntmps8
  go_wp2_with fail
  refine (encode_walk A cap zs _ hA (by omega)).mono ?_
  rintro e w1 ⟨he, hB1⟩
  rw [HZ.out] at he
  subst he
  go_wp2_with fail
  have hL := ints_lit w1 [p] (cs := #[.int .i64 p]) rfl
  have hB2 := below_new hB1 (Obj.cells #[Value.int IntKind.i64 p] 3)
  refine (encode_walk _ 1 [p] _ hL (by simp)).mono ?_
  rintro e w2 ⟨he, hB3⟩
  rw [HP.out] at he
  subst he
  have hB4 := below_next hB2 hB3
  clear hL hB2 hB3 hB1
  go_wp2_with fail
  refine (awake_walk _).mono ?_
  rintro e w5 ⟨rfl, hb7⟩
  go_wp2
  go_ret
  exact ⟨rfl, below_next hB4 hb7⟩

set_option maxRecDepth 100000 in
set_option maxHeartbeats 2000000 in
theorem cuts_high (w : World) (A : Option Addr) (cap : Nat) (zs : List Int) (hA : Ints w w.heap.size A zs) (hl : zs.length ≤ 5000) (p : Int) (k : Int) (hz : ∀ p ∈ zs, Utf.pt p = true) (hp : Utf.pt p = true) (hk1 : 1 ≤ k) (hk : (Utf.width p : Int) ≤ k) :
    Calls Try.prog 8 #[.slice A zs.length cap, .int .i64 p, .int .i64 k] w fun e w' => e = .returned (.bool true) ∧ Below w.heap.size w w' := by
  have HZ := Lib.hid (encR_ok hz)
  have hmost := Utf.enc_most zs
  have HP := Lib.hid (encR_one p hp)
  have hw := Utf.width_pos p
  have HW := Lib.hid (Utf.bytes_length p)
  have hbl : ((Utf.bytes p).length : Int) ≤ k := by rw [HW.out]; exact hk
  go_enter Try.func8, Try.ntmps8
  go_wp2_with fail
  refine (encode_walk A cap zs _ hA (by omega)).mono ?_
  rintro e w1 ⟨he, hB1⟩
  rw [HZ.out] at he
  subst he
  go_wp2_with fail
  have hL := ints_lit w1 [p] (cs := #[.int .i64 p]) rfl
  have hB2 := below_new hB1 (Obj.cells #[Value.int IntKind.i64 p] 3)
  refine (encode_walk _ 1 [p] _ hL (by simp)).mono ?_
  rintro e w2 ⟨he, hB3⟩
  rw [HP.out] at he
  subst he
  have hB4 := below_next hB2 hB3
  clear hL hB2 hB3 hB1
  go_wp2_with fail
  refine (awake_walk _).mono ?_
  rintro e w5 ⟨rfl, hb7⟩
  go_wp2
  go_ret
  exact ⟨rfl, below_next hB4 hb7⟩

set_option maxRecDepth 100000 in
set_option maxHeartbeats 2000000 in
theorem cuts_in (w : World) (A : Option Addr) (cap : Nat) (zs : List Int) (hA : Ints w w.heap.size A zs) (hl : zs.length ≤ 5000) (p : Int) (k : Nat) (hz : ∀ p ∈ zs, Utf.pt p = true) (hp : Utf.pt p = true) (hk1 : 1 ≤ k) (hk : k < Utf.width p) :
    Calls Try.prog 8 #[.slice A zs.length cap, .int .i64 p, .int .i64 k] w fun e w' => e = .returned (.bool true) ∧ Below w.heap.size w w' := by
  have HZ := Lib.hid (encR_ok hz)
  have hmost := Utf.enc_most zs
  have HP := Lib.hid (encR_one p hp)
  have hw := Utf.width_pos p
  have HW := Lib.hid (Utf.bytes_length p)
  have hbl : k < (Utf.bytes p).length := by rw [HW.out]; exact hk
  have hbl4 : (Utf.bytes p).length ≤ 4 := by rw [HW.out]; omega
  have hr : Hid ((Utf.bytes p).take k ≠ []) := Lib.hid (fun h => by have h1 := congrArg List.length h; rw [List.length_take, List.length_nil] at h1; omega)
  have hdat : ((⟨(Utf.enc zs).toArray⟩ : ByteArray) ++ (⟨(Utf.bytes p).toArray⟩ : ByteArray).extract 0 k).data.toList = Utf.enc zs ++ (Utf.bytes p).take k := by
    rw [ba_data, ext_data]
  have hT : Hid (Utf.Reads ((⟨(Utf.enc zs).toArray⟩ : ByteArray) ++ (⟨(Utf.bytes p).toArray⟩ : ByteArray).extract 0 k).data.toList zs ((Utf.bytes p).take k)) := by
    rw [hdat]; exact Lib.hid (Utf.reads_cut hz hp hk)
  have hS : Hid (((⟨(Utf.enc zs).toArray⟩ : ByteArray) ++ (⟨(Utf.bytes p).toArray⟩ : ByteArray).extract 0 k).size ≤ 1000000000) := Lib.hid (by
    rw [Lib.size_eq, hdat, List.length_append, List.length_take]; omega)
  obtain ⟨n, hn⟩ : ∃ n, (Utf.enc zs).length = n := ⟨_, rfl⟩
  have HN := Lib.hid hn
  have hsz : (⟨(Utf.enc zs).toArray⟩ : ByteArray).size = n := by rw [size_list, hn]
  clear hdat
  go_enter Try.func8, Try.ntmps8
  go_wp2_with fail
  refine (encode_walk A cap zs _ hA (by omega)).mono ?_
  rintro e w1 ⟨he, hB1⟩
  rw [HZ.out] at he
  subst he
  go_wp2_with fail
  have hL := ints_lit w1 [p] (cs := #[.int .i64 p]) rfl
  have hB2 := below_new hB1 (Obj.cells #[Value.int IntKind.i64 p] 3)
  refine (encode_walk _ 1 [p] _ hL (by simp)).mono ?_
  rintro e w2 ⟨he, hB3⟩
  rw [HP.out] at he
  subst he
  have hB4 := below_next hB2 hB3
  clear hL hB2 hB3 hB1
  go_wp2_with fail
  refine (decode_walk _ hS.out _ _ hT.out _).mono ?_
  rintro e w3 h
  obtain ⟨A3, cap3, rfl, hb5⟩ := dec_no hr.out h HN.out
  clear h
  have hB5 := below_next hB4 hb5
  go_wp2_with fail
  refine (awake_walk _).mono ?_
  rintro e w5 ⟨rfl, hb7⟩
  go_wp2
  go_ret
  exact ⟨rfl, below_next (below_new hB5 _) hb7⟩

theorem cuts_walk (w : World) (A : Option Addr) (cap : Nat) (zs : List Int) (hA : Ints w w.heap.size A zs) (hl : zs.length ≤ 9223372036854775807) (p k : Int) :
    Calls Try.prog 8 #[.slice A zs.length cap, .int .i64 p, .int .i64 k] w fun e w' => e = .returned (.bool true) ∧ Below w.heap.size w w' := by
  by_cases h : 5000 < zs.length
  · exact cuts_long A cap zs hl p k h w
  · by_cases hz : ∀ p ∈ zs, Utf.pt p = true
    · cases hp : Utf.pt p
      · exact cuts_none w A cap zs hA (by omega) p k hz hp
      · by_cases h1 : k < 1
        · exact cuts_low w A cap zs hA (by omega) p k hz hp h1
        · by_cases h2 : (Utf.width p : Int) ≤ k
          · exact cuts_high w A cap zs hA (by omega) p k hz hp (by omega) h2
          · obtain ⟨j, rfl⟩ := Int.eq_ofNat_of_zero_le (show 0 ≤ k by omega)
            exact cuts_in w A cap zs hA (by omega) p j hz hp (by omega) (by omega)
    · cases hp : Utf.pt p
      · exact cuts_bad w A cap zs hA (by omega) p k hz _ _ (encR_none p hp)
      · exact cuts_bad w A cap zs hA (by omega) p k hz _ _ (encR_one p hp)
end Go.Proofs.Yticfgdedlleapaa
