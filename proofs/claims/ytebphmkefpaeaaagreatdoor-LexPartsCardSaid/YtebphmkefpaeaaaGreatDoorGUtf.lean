/- Bits64, UtfSmall, UtfFirst, UtfPFirst, UtfDecode, together. -/
import Derived.Laws.BitsAllLaws
import Derived.Laws.BitsLemmas
import Derived.Test.YtebphmkefpaeaaaGreatDoorGPure
import Derived.Test.YtebphmkefpaeaaaGreatDoorGSemA
import Derived.WalkKit
import Derived.Below
import Derived.Lib.Hide
import Derived.Deep.RegionHeld3
/- Bit operations on ints, by plain arithmetic. -/
namespace Go.Proofs.YtebphmkefpaeaaaGreatDoor
open Go

theorem ofInt_i64 (a : Nat) (ha : a < 9223372036854775808) : (BitVec.ofInt 64 (a : Int)).toNat = a := by
  rw [BitVec.ofInt_natCast, BitVec.toNat_ofNat]; exact Nat.mod_eq_of_lt (by omega)

theorem i64_or_nat (a b : Nat) (ha : a < 9223372036854775808) (hb : b < 9223372036854775808) : bits .or .i64 (a : Int) (b : Int) = ((a ||| b : Nat) : Int) := by
  have hx : a ||| b < 2 ^ 63 := Nat.or_lt_two_pow (by omega) (by omega)
  show IntKind.i64.wrap ((BitVec.ofInt 64 (a : Int) ||| BitVec.ofInt 64 (b : Int)).toNat : Int) = _
  rw [BitVec.toNat_or, ofInt_i64 a ha, ofInt_i64 b hb, IntKind.wrap_i64]
  omega

theorem i64_and63 (n : Int) : bits .and .i64 n 63 = n % 64 := by
  have h63 : (BitVec.ofInt 64 63).toNat = 2 ^ 6 - 1 := by decide
  have key : (BitVec.ofInt 64 n &&& BitVec.ofInt 64 63).toNat = (n % ((2 ^ 64 : Nat) : Int)).toNat % 2 ^ 6 := by
    rw [BitVec.toNat_and, BitVec.toNat_ofInt, h63, Nat.and_two_pow_sub_one_eq_mod]
  show IntKind.i64.wrap ((BitVec.ofInt 64 n &&& BitVec.ofInt 64 63).toNat : Nat) = n % 64
  rw [key, IntKind.wrap_i64]
  omega

/-- The bits of x ahead of six more. -/
theorem i64_join6 (x y : Int) (h0 : 0 ≤ x) (h1 : x < 1000000000) (h2 : 0 ≤ y) (h3 : y < 64) : bits .or .i64 (x * 64) y = x * 64 + y := by
  obtain ⟨a, rfl⟩ := Int.eq_ofNat_of_zero_le h0
  obtain ⟨b, rfl⟩ := Int.eq_ofNat_of_zero_le h2
  rw [show (a : Int) * 64 = ((a * 64 : Nat) : Int) from by omega, i64_or_nat _ _ (by omega) (by omega), nat_join 6 (a * 64) b (by omega) (by omega)]
  omega

/-- A mark's bits and those below it. -/
theorem u8_join (i a : Nat) (y : Int) (ha : a % 2 ^ i = 0) (ha2 : a < 256) (h0 : 0 ≤ y) (h1 : y < (2 ^ i : Nat)) (h2 : y < 256) : bits .or .u8 (a : Int) y = a + y := by
  obtain ⟨b, rfl⟩ := Int.eq_ofNat_of_zero_le h0
  rw [u8_or_nat _ _ ha2 (by omega), nat_join i a b ha (by omega)]
  omega
end Go.Proofs.YtebphmkefpaeaaaGreatDoor

/- The small functions of layer 3, the program's and the document's: isPoint, width, on, lead; point, Bytes, Same. -/
namespace Go.Proofs.YtebphmkefpaeaaaGreatDoor
open Go.RowKit
set_option linter.unusedVariables false

theorem pt_true {p : Int} (h : Utf.pt p = true) : 0 ≤ p ∧ p ≤ 1114111 ∧ (p < 55296 ∨ 57343 < p) := (Utf.pt_iff p).1 h
theorem pt_false {p : Int} (h : Utf.pt p = false) : ¬(0 ≤ p ∧ p ≤ 1114111 ∧ (p < 55296 ∨ 57343 < p)) := fun h' => by rw [(Utf.pt_iff p).2 h'] at h; cases h

set_option maxHeartbeats 400000 in
theorem ispt_walk (p : Int) (w : World) :
    Calls Tryz.prog 93 #[.int .i64 p] w fun e w' => e = .returned (.bool (Utf.pt p)) ∧ w = w' := by
  by_cases h0 : 0 ≤ p
  · by_cases h1 : p ≤ 1114111
    · by_cases h2 : p < 55296
      · have e : Utf.pt p = true := (Utf.pt_iff p).2 ⟨h0, h1, Or.inl h2⟩
        rw [e]
        clear e
        go_enter Tryz.func93, Tryz.ntmps93
        go_wp2
        go_ret
        exact ⟨rfl, rfl⟩
      · by_cases h3 : 57343 < p
        · have e : Utf.pt p = true := (Utf.pt_iff p).2 ⟨h0, h1, Or.inr h3⟩
          rw [e]
          clear e
          go_enter Tryz.func93, Tryz.ntmps93
          go_wp2
          go_ret
          exact ⟨rfl, rfl⟩
        · have e : Utf.pt p = false := Bool.eq_false_iff.2 fun h => by have := pt_true h; omega
          rw [e]
          clear e
          go_enter Tryz.func93, Tryz.ntmps93
          go_wp2
          go_ret
          exact ⟨rfl, rfl⟩
    · have e : Utf.pt p = false := Bool.eq_false_iff.2 fun h => by have := pt_true h; omega
      rw [e]
      clear e
      go_enter Tryz.func93, Tryz.ntmps93
      go_wp2
      go_ret
      exact ⟨rfl, rfl⟩
  · have e : Utf.pt p = false := Bool.eq_false_iff.2 fun h => by have := pt_true h; omega
    rw [e]
    clear e
    go_enter Tryz.func93, Tryz.ntmps93
    go_wp2
    go_ret
    exact ⟨rfl, rfl⟩

set_option maxHeartbeats 400000 in
theorem rpoint_walk (p : Int) (w : World) :
    Calls Tryz.prog 58 #[.int .i64 p] w fun e w' => e = .returned (.bool (Utf.pt p)) ∧ w = w' := by
  by_cases h0 : 0 ≤ p
  · by_cases h1 : p ≤ 1114111
    · by_cases h2 : p < 55296
      · have e : Utf.pt p = true := (Utf.pt_iff p).2 ⟨h0, h1, Or.inl h2⟩
        rw [e]
        clear e
        go_enter Tryz.func58, Tryz.ntmps58
        go_wp2
        go_ret
        exact ⟨rfl, rfl⟩
      · by_cases h3 : 57343 < p
        · have e : Utf.pt p = true := (Utf.pt_iff p).2 ⟨h0, h1, Or.inr h3⟩
          rw [e]
          clear e
          go_enter Tryz.func58, Tryz.ntmps58
          go_wp2
          go_ret
          exact ⟨rfl, rfl⟩
        · have e : Utf.pt p = false := Bool.eq_false_iff.2 fun h => by have := pt_true h; omega
          rw [e]
          clear e
          go_enter Tryz.func58, Tryz.ntmps58
          go_wp2
          go_ret
          exact ⟨rfl, rfl⟩
    · have e : Utf.pt p = false := Bool.eq_false_iff.2 fun h => by have := pt_true h; omega
      rw [e]
      clear e
      go_enter Tryz.func58, Tryz.ntmps58
      go_wp2
      go_ret
      exact ⟨rfl, rfl⟩
  · have e : Utf.pt p = false := Bool.eq_false_iff.2 fun h => by have := pt_true h; omega
    rw [e]
    clear e
    go_enter Tryz.func58, Tryz.ntmps58
    go_wp2
    go_ret
    exact ⟨rfl, rfl⟩

set_option maxHeartbeats 400000 in
theorem width_walk (p : Int) (w : World) :
    Calls Tryz.prog 94 #[.int .i64 p] w fun e w' => e = .returned (.int .i64 (Utf.width p : Nat)) ∧ w = w' := by
  unfold Utf.width
  by_cases h0 : p < 128
  · rw [if_pos h0]
    go_enter Tryz.func94, Tryz.ntmps94
    go_wp2
    go_ret
    exact ⟨rfl, rfl⟩
  · rw [if_neg h0]
    by_cases h1 : p < 2048
    · rw [if_pos h1]
      go_enter Tryz.func94, Tryz.ntmps94
      go_wp2
      go_ret
      exact ⟨rfl, rfl⟩
    · rw [if_neg h1]
      by_cases h2 : p < 65536
      · rw [if_pos h2]
        go_enter Tryz.func94, Tryz.ntmps94
        go_wp2
        go_ret
        exact ⟨rfl, rfl⟩
      · rw [if_neg h2]
        go_enter Tryz.func94, Tryz.ntmps94
        go_wp2
        go_ret
        exact ⟨rfl, rfl⟩

theorem on_num (p : Int) : bits .or .u8 128 (p % 64) = 128 + p % 64 :=
  u8_join 6 128 (p % 64) (by decide) (by decide) (by omega) (by have : ((2 ^ 6 : Nat) : Int) = 64 := rfl; omega) (by omega)


theorem cells_one (x : Int) : Lib.byteCells [Utf.byte x] = [.int .u8 (x % 256)] := by
  simp [Lib.byteCells, Utf.byte_toNat]
theorem cells_two (x y : Int) : Lib.byteCells [Utf.byte x, Utf.byte y] = [.int .u8 (x % 256), .int .u8 (y % 256)] := by
  simp [Lib.byteCells, Utf.byte_toNat]
theorem cells_three (x y z : Int) : Lib.byteCells [Utf.byte x, Utf.byte y, Utf.byte z] = [.int .u8 (x % 256), .int .u8 (y % 256), .int .u8 (z % 256)] := by
  simp [Lib.byteCells, Utf.byte_toNat]
theorem cells_four (x y z u : Int) : Lib.byteCells [Utf.byte x, Utf.byte y, Utf.byte z, Utf.byte u] = [.int .u8 (x % 256), .int .u8 (y % 256), .int .u8 (z % 256), .int .u8 (u % 256)] := by
  simp [Lib.byteCells, Utf.byte_toNat]

set_option maxHeartbeats 400000 in
theorem rbytes_walk (p : Int) (w : World) (h : Utf.pt p = true) :
    Calls Tryz.prog 59 #[.int .i64 p] w fun e w' => e = .returned (.string ⟨(Utf.bytes p).toArray⟩) ∧ Below w.heap.size w w' := by
  obtain ⟨h0, h1, _⟩ := pt_true h
  clear h
  unfold Utf.bytes
  by_cases h2 : p < 128
  · rw [if_pos h2]
    have hc := conv_cells w [Utf.byte (p)] (cs := #[.int .u8 (p)]) (n := 1) (by rw [cells_one, show (p) % 256 = p from by omega]) rfl (by simp)
    go_enter Tryz.func59, Tryz.ntmps59
    go_wp2
    go_ret
    exact ⟨rfl, (Below.refl _ _).alloc (Nat.le_refl _) _⟩
  · rw [if_neg h2]
    by_cases h3 : p < 2048
    · rw [if_pos h3]
      have hc := conv_cells w [Utf.byte (192 + p / 64), Utf.byte (128 + p % 64)] (cs := #[.int .u8 (192 + p / 64), .int .u8 (128 + p % 64)]) (n := 2) (by rw [cells_two, show (192 + p / 64) % 256 = 192 + p / 64 from by omega, show (128 + p % 64) % 256 = 128 + p % 64 from by omega]) rfl (by simp)
      go_enter Tryz.func59, Tryz.ntmps59
      go_wp2
      go_ret
      exact ⟨rfl, (Below.refl _ _).alloc (Nat.le_refl _) _⟩
    · rw [if_neg h3]
      by_cases h4 : p < 65536
      · rw [if_pos h4]
        have hc := conv_cells w [Utf.byte (224 + p / 4096), Utf.byte (128 + p / 64 % 64), Utf.byte (128 + p % 64)] (cs := #[.int .u8 (224 + p / 4096), .int .u8 (128 + p / 64 % 64), .int .u8 (128 + p % 64)]) (n := 3) (by rw [cells_three, show (224 + p / 4096) % 256 = 224 + p / 4096 from by omega, show (128 + p / 64 % 64) % 256 = 128 + p / 64 % 64 from by omega, show (128 + p % 64) % 256 = 128 + p % 64 from by omega]) rfl (by simp)
        go_enter Tryz.func59, Tryz.ntmps59
        go_wp2
        go_ret
        exact ⟨rfl, (Below.refl _ _).alloc (Nat.le_refl _) _⟩
      · rw [if_neg h4]
        have hc := conv_cells w [Utf.byte (240 + p / 262144), Utf.byte (128 + p / 4096 % 64), Utf.byte (128 + p / 64 % 64), Utf.byte (128 + p % 64)] (cs := #[.int .u8 (240 + p / 262144), .int .u8 (128 + p / 4096 % 64), .int .u8 (128 + p / 64 % 64), .int .u8 (128 + p % 64)]) (n := 4) (by rw [cells_four, show (240 + p / 262144) % 256 = 240 + p / 262144 from by omega, show (128 + p / 4096 % 64) % 256 = 128 + p / 4096 % 64 from by omega, show (128 + p / 64 % 64) % 256 = 128 + p / 64 % 64 from by omega, show (128 + p % 64) % 256 = 128 + p % 64 from by omega]) rfl (by simp)
        go_enter Tryz.func59, Tryz.ntmps59
        go_wp2
        go_ret
        exact ⟨rfl, (Below.refl _ _).alloc (Nat.le_refl _) _⟩

/-- What the slices hold. -/
def sameB (a b : List Int) : Bool := decide (a = b)

end Go.Proofs.YtebphmkefpaeaaaGreatDoor

/- What a text begins with: the program's first and the document's First tell Utf.first. -/
namespace Go.Proofs.YtebphmkefpaeaaaGreatDoor
open Go.RowKit
set_option linter.unusedVariables false

/-- A code point and how many bytes it has, as Go hands them back. -/
def duo (x : Int × Nat) : Value := .tuple #[.int .i64 x.1, .int .i64 x.2]

set_option maxRecDepth 100000 in
theorem lead_walk (a : UInt8) (w : World) :
    Calls Tryz.prog 92 #[.int .u8 a.toNat] w fun e w' => e = .returned (duo (Utf.plead a.toNat)) ∧ w = w' := by
  have ha := a.toNat_lt
  rcases Utf.plead_cases a.toNat with ⟨h1, e⟩ | ⟨h1, h2, e⟩ | ⟨h1, h2, e⟩ | ⟨h1, h2, e⟩ | ⟨h1, e⟩ <;> rw [e] <;> clear e
  · go_enter Tryz.func92, Tryz.ntmps92
    go_wp2
    go_ret2
    exact ⟨rfl, rfl⟩
  · go_enter Tryz.func92, Tryz.ntmps92
    go_wp2
    go_ret2
    exact ⟨rfl, rfl⟩
  · go_enter Tryz.func92, Tryz.ntmps92
    go_wp2
    go_ret2
    exact ⟨rfl, rfl⟩
  · go_enter Tryz.func92, Tryz.ntmps92
    go_wp2
    go_ret2
    exact ⟨rfl, rfl⟩
  · rcases h1 with ⟨h1, h2⟩ | h1
    · go_enter Tryz.func92, Tryz.ntmps92
      go_wp2
      go_ret2
      exact ⟨rfl, rfl⟩
    · go_enter Tryz.func92, Tryz.ntmps92
      go_wp2
      go_ret2
      exact ⟨rfl, rfl⟩

/-- A text of a byte or more. -/
theorem cons_of (s : ByteArray) (h : 0 < s.size) : ∃ r, s.data.toList = s[0] :: r ∧ r.length + 1 = s.size ∧ ∀ (i : Nat) (hi : i < r.length) (h' : i + 1 < s.size), r[i] = s[i + 1] := by
  have hz := Lib.size_eq s
  obtain ⟨a, r, e⟩ : ∃ a r, s.data.toList = a :: r := by
    rcases hl : s.data.toList with _ | ⟨a, r⟩
    · rw [hl, List.length_nil] at hz; omega
    · exact ⟨a, r, rfl⟩
  have h0 : s[0] = s.data.toList[0]'(by rw [e]; simp) := rfl
  refine ⟨r, ?_, by rw [hz, e]; rfl, ?_⟩
  · rw [e, h0]; simp [e]
  · intro i hi h'
    have : s[i + 1] = s.data.toList[i + 1]'(by rw [← hz]; exact h') := rfl
    rw [this]; simp [e]

theorem val_next (s : ByteArray) (r : List UInt8) (hl : r.length + 1 = s.size) (hi : ∀ (i : Nat) (hi : i < r.length) (h' : i + 1 < s.size), r[i] = s[i + 1]) {x v : Int} (k : Nat) (hk : 1 ≤ k) (hks : k < s.size)
    (hx : x = Utf.val v (r.take (k - 1))) : x * 64 + (s[k]'hks).toNat - 128 = Utf.val v (r.take k) := by
  obtain ⟨j, rfl⟩ : ∃ j, k = j + 1 := ⟨k - 1, by omega⟩
  rw [List.take_succ_eq_append_getElem (by omega), Utf.val_snoc, hi j (by omega) hks, hx]
  rfl

theorem ext_take (s : ByteArray) (n : Nat) : (s.extract 0 n).toList = s.data.toList.take n := by
  have := ByteArray.extract_mk s.data.toList 0 n
  have e : s.extract 0 n = ⟨(s.data.toList.take n).toArray⟩ := this
  rw [e, ByteArray.toList_mk]

/-- What First knows before its loop. -/
theorem rfirst_none (w : World) :
    Calls Tryz.prog 46 #[.string ByteArray.empty] w fun e w' => e = .returned (duo (0, 0)) ∧ Below w.heap.size w w' := by
  go_enter Tryz.func46, Tryz.ntmps46
  go_wp2
  go_ret2
  exact ⟨rfl, Below.refl _ _⟩

set_option maxRecDepth 100000 in
set_option maxHeartbeats 1000000 in
theorem rfirst_1 (s : ByteArray) (h : 0 < s.size) (hs : s.size ≤ 9223372036854775807) (w : World) (h1 : (s[0]).toNat < 192) (e : Utf.lead (s[0]).toNat = (1, ((s[0]).toNat : Int))) :
    Calls Tryz.prog 46 #[.string s] w fun e w' => e = .returned (duo (Utf.first s.data.toList)) ∧ Below w.heap.size w w' := by
  obtain ⟨r, hr, hl, hi⟩ := cons_of s h
  have ha := (s[0]).toNat_lt
  have he : s.toList.isEmpty = false := by
    rw [ByteArray.toList_mk, hr]; rfl
  have HR := Lib.hid hr
  have HL := Lib.hid hl
  have HI := Lib.hid hi
  have HE := Lib.hid e
  clear hr hl hi e
  by_cases hn : s.size < 1
  · omega
  · go_enter Tryz.func46, Tryz.ntmps46
    go_wp2
    go_quiet (fail)
    go_wp2
    go_loopw [5, 6] (fun p i wr => ∃ (k : Nat) (x : Int), i = .int .i64 k ∧ 1 ≤ k ∧ k ≤ 1 ∧ p = .int .i64 x ∧ Hid (x = Utf.val (((s[0]).toNat : Int)) (r.take (k - 1))) ∧ Below w.heap.size w wr)
      (fun _ i _ => 4 - (intOf i).toNat)
    case atStart => exact ⟨1, _, rfl, by omega, by omega, rfl, Lib.hid rfl, by first | exact Below.refl _ _ | exact below_drewN (Below.refl _ _) _⟩
    case round =>
      obtain ⟨k, x, rfl, hk1, hk, rfl, HX, hbel⟩ := hrel
      by_cases hlt : k < 1
      · omega
      · have hkn : k = 1 := by omega
        subst hkn
        rw [show 1 - 1 = 0 from rfl] at HX
        cases hp : Utf.pt x
        · go_wp2_with fail
          go_quiet ((go_at_call 58; exact Calls.quiet_of_same (flip (rpoint_walk _ _))))
          go_wp2
          go_ret2
          refine ⟨?_, below_drewN hbel _⟩
          rw [HR.out, Utf.first, HE.out]
          simp only
          rw [← HX.out, hp, if_neg (by simp)]
          rfl
        · go_wp2_with fail
          go_region_held3 (fun w' => Below w.heap.size w w') (first | exact hbel.drew | assumption | exact below_next (by assumption) (by assumption) | exact Below.drew (by assumption))
            (first | (go_at_call 58; refine (rpoint_walk _ _).mono ?_; rintro e w' ⟨rfl, rfl⟩) | (go_at_call 59; refine (rbytes_walk _ _ hp).mono ?_; rintro e w' ⟨rfl, hb1⟩))
          go_wp2
          · have ht : (!Utf.bytes x == (s.extract 0 1).toList) = true := by assumption
            rw [ext_take, HR.out] at ht
            go_ret2
            refine ⟨?_, by assumption⟩
            rw [HR.out, Utf.first, HE.out]
            simp only
            rw [← HX.out, if_neg (by rintro ⟨_, _, h3⟩; rw [h3] at ht; simp at ht)]
            rfl
          · have ht : (!Utf.bytes x == (s.extract 0 1).toList) = false := by assumption
            rw [ext_take, HR.out] at ht
            go_ret2
            refine ⟨?_, by assumption⟩
            rw [HR.out, Utf.first, HE.out]
            simp only
            rw [← HX.out, if_pos ⟨by have := HL.out; omega, hp, by simpa using ht⟩]
            rfl

set_option maxRecDepth 100000 in
set_option maxHeartbeats 1000000 in
theorem rfirst_2 (s : ByteArray) (h : 0 < s.size) (hs : s.size ≤ 9223372036854775807) (w : World) (h1 : 192 ≤ (s[0]).toNat) (h2 : (s[0]).toNat < 224) (e : Utf.lead (s[0]).toNat = (2, ((s[0]).toNat : Int) - 192)) :
    Calls Tryz.prog 46 #[.string s] w fun e w' => e = .returned (duo (Utf.first s.data.toList)) ∧ Below w.heap.size w w' := by
  obtain ⟨r, hr, hl, hi⟩ := cons_of s h
  have ha := (s[0]).toNat_lt
  have he : s.toList.isEmpty = false := by
    rw [ByteArray.toList_mk, hr]; rfl
  have HR := Lib.hid hr
  have HL := Lib.hid hl
  have HI := Lib.hid hi
  have HE := Lib.hid e
  clear hr hl hi e
  by_cases hn : s.size < 2
  · go_enter Tryz.func46, Tryz.ntmps46
    go_wp2
    go_quiet (fail)
    go_wp2
    go_ret2
    refine ⟨?_, by first | exact Below.refl _ _ | exact below_drewN (Below.refl _ _) _⟩
    rw [HR.out, Utf.first, HE.out, if_neg (by have := HL.out; simp only; omega)]
    rfl
  · go_enter Tryz.func46, Tryz.ntmps46
    go_wp2
    go_quiet (fail)
    go_wp2
    go_loopw [5, 6] (fun p i wr => ∃ (k : Nat) (x : Int), i = .int .i64 k ∧ 1 ≤ k ∧ k ≤ 2 ∧ p = .int .i64 x ∧ Hid (x = Utf.val (((s[0]).toNat : Int) - 192) (r.take (k - 1))) ∧ Below w.heap.size w wr)
      (fun _ i _ => 4 - (intOf i).toNat)
    case atStart => exact ⟨1, _, rfl, by omega, by omega, rfl, Lib.hid rfl, by first | exact Below.refl _ _ | exact below_drewN (Below.refl _ _) _⟩
    case round =>
      obtain ⟨k, x, rfl, hk1, hk, rfl, HX, hbel⟩ := hrel
      by_cases hlt : k < 2
      · have hks : k < s.size := by omega
        have hb8 := (s[k]'hks).toNat_lt
        have hx : -100000000 ≤ x ∧ x ≤ 100000000 := by
          rw [HX.out]
          exact Utf.val_bound (by omega) (by omega) (by rw [List.length_take]; omega)
        have HN : Hid (x * 64 + (s[k]'hks).toNat - 128 = Utf.val (((s[0]).toNat : Int) - 192) (r.take k)) := Lib.hid (val_next s r HL.out HI.out k hk1 hks HX.out)
        obtain ⟨hx1, hx2⟩ := hx
        go_wp2_with fail
        go_roundw
        case rel => exact ⟨k + 1, _, by go_num, by omega, by omega, rfl, HN, hbel⟩
        case measure => simp [intOf]; omega
      · have hkn : k = 2 := by omega
        subst hkn
        rw [show 2 - 1 = 1 from rfl] at HX
        cases hp : Utf.pt x
        · go_wp2_with fail
          go_quiet ((go_at_call 58; exact Calls.quiet_of_same (flip (rpoint_walk _ _))))
          go_wp2
          go_ret2
          refine ⟨?_, below_drewN hbel _⟩
          rw [HR.out, Utf.first, HE.out]
          simp only
          rw [← HX.out, hp, if_neg (by simp)]
          rfl
        · go_wp2_with fail
          go_region_held3 (fun w' => Below w.heap.size w w') (first | exact hbel.drew | assumption | exact below_next (by assumption) (by assumption) | exact Below.drew (by assumption))
            (first | (go_at_call 58; refine (rpoint_walk _ _).mono ?_; rintro e w' ⟨rfl, rfl⟩) | (go_at_call 59; refine (rbytes_walk _ _ hp).mono ?_; rintro e w' ⟨rfl, hb1⟩))
          go_wp2
          · have ht : (!Utf.bytes x == (s.extract 0 2).toList) = true := by assumption
            rw [ext_take, HR.out] at ht
            go_ret2
            refine ⟨?_, by assumption⟩
            rw [HR.out, Utf.first, HE.out]
            simp only
            rw [← HX.out, if_neg (by rintro ⟨_, _, h3⟩; rw [h3] at ht; simp at ht)]
            rfl
          · have ht : (!Utf.bytes x == (s.extract 0 2).toList) = false := by assumption
            rw [ext_take, HR.out] at ht
            go_ret2
            refine ⟨?_, by assumption⟩
            rw [HR.out, Utf.first, HE.out]
            simp only
            rw [← HX.out, if_pos ⟨by have := HL.out; omega, hp, by simpa using ht⟩]
            rfl

set_option maxRecDepth 100000 in
set_option maxHeartbeats 1000000 in
theorem rfirst_3 (s : ByteArray) (h : 0 < s.size) (hs : s.size ≤ 9223372036854775807) (w : World) (h1 : 224 ≤ (s[0]).toNat) (h2 : (s[0]).toNat < 240) (e : Utf.lead (s[0]).toNat = (3, ((s[0]).toNat : Int) - 224)) :
    Calls Tryz.prog 46 #[.string s] w fun e w' => e = .returned (duo (Utf.first s.data.toList)) ∧ Below w.heap.size w w' := by
  obtain ⟨r, hr, hl, hi⟩ := cons_of s h
  have ha := (s[0]).toNat_lt
  have he : s.toList.isEmpty = false := by
    rw [ByteArray.toList_mk, hr]; rfl
  have HR := Lib.hid hr
  have HL := Lib.hid hl
  have HI := Lib.hid hi
  have HE := Lib.hid e
  clear hr hl hi e
  by_cases hn : s.size < 3
  · go_enter Tryz.func46, Tryz.ntmps46
    go_wp2
    go_quiet (fail)
    go_wp2
    go_ret2
    refine ⟨?_, by first | exact Below.refl _ _ | exact below_drewN (Below.refl _ _) _⟩
    rw [HR.out, Utf.first, HE.out, if_neg (by have := HL.out; simp only; omega)]
    rfl
  · go_enter Tryz.func46, Tryz.ntmps46
    go_wp2
    go_quiet (fail)
    go_wp2
    go_loopw [5, 6] (fun p i wr => ∃ (k : Nat) (x : Int), i = .int .i64 k ∧ 1 ≤ k ∧ k ≤ 3 ∧ p = .int .i64 x ∧ Hid (x = Utf.val (((s[0]).toNat : Int) - 224) (r.take (k - 1))) ∧ Below w.heap.size w wr)
      (fun _ i _ => 4 - (intOf i).toNat)
    case atStart => exact ⟨1, _, rfl, by omega, by omega, rfl, Lib.hid rfl, by first | exact Below.refl _ _ | exact below_drewN (Below.refl _ _) _⟩
    case round =>
      obtain ⟨k, x, rfl, hk1, hk, rfl, HX, hbel⟩ := hrel
      by_cases hlt : k < 3
      · have hks : k < s.size := by omega
        have hb8 := (s[k]'hks).toNat_lt
        have hx : -100000000 ≤ x ∧ x ≤ 100000000 := by
          rw [HX.out]
          exact Utf.val_bound (by omega) (by omega) (by rw [List.length_take]; omega)
        have HN : Hid (x * 64 + (s[k]'hks).toNat - 128 = Utf.val (((s[0]).toNat : Int) - 224) (r.take k)) := Lib.hid (val_next s r HL.out HI.out k hk1 hks HX.out)
        obtain ⟨hx1, hx2⟩ := hx
        go_wp2_with fail
        go_roundw
        case rel => exact ⟨k + 1, _, by go_num, by omega, by omega, rfl, HN, hbel⟩
        case measure => simp [intOf]; omega
      · have hkn : k = 3 := by omega
        subst hkn
        rw [show 3 - 1 = 2 from rfl] at HX
        cases hp : Utf.pt x
        · go_wp2_with fail
          go_quiet ((go_at_call 58; exact Calls.quiet_of_same (flip (rpoint_walk _ _))))
          go_wp2
          go_ret2
          refine ⟨?_, below_drewN hbel _⟩
          rw [HR.out, Utf.first, HE.out]
          simp only
          rw [← HX.out, hp, if_neg (by simp)]
          rfl
        · go_wp2_with fail
          go_region_held3 (fun w' => Below w.heap.size w w') (first | exact hbel.drew | assumption | exact below_next (by assumption) (by assumption) | exact Below.drew (by assumption))
            (first | (go_at_call 58; refine (rpoint_walk _ _).mono ?_; rintro e w' ⟨rfl, rfl⟩) | (go_at_call 59; refine (rbytes_walk _ _ hp).mono ?_; rintro e w' ⟨rfl, hb1⟩))
          go_wp2
          · have ht : (!Utf.bytes x == (s.extract 0 3).toList) = true := by assumption
            rw [ext_take, HR.out] at ht
            go_ret2
            refine ⟨?_, by assumption⟩
            rw [HR.out, Utf.first, HE.out]
            simp only
            rw [← HX.out, if_neg (by rintro ⟨_, _, h3⟩; rw [h3] at ht; simp at ht)]
            rfl
          · have ht : (!Utf.bytes x == (s.extract 0 3).toList) = false := by assumption
            rw [ext_take, HR.out] at ht
            go_ret2
            refine ⟨?_, by assumption⟩
            rw [HR.out, Utf.first, HE.out]
            simp only
            rw [← HX.out, if_pos ⟨by have := HL.out; omega, hp, by simpa using ht⟩]
            rfl

set_option maxRecDepth 100000 in
set_option maxHeartbeats 1000000 in
theorem rfirst_4 (s : ByteArray) (h : 0 < s.size) (hs : s.size ≤ 9223372036854775807) (w : World) (h1 : 240 ≤ (s[0]).toNat) (e : Utf.lead (s[0]).toNat = (4, ((s[0]).toNat : Int) - 240)) :
    Calls Tryz.prog 46 #[.string s] w fun e w' => e = .returned (duo (Utf.first s.data.toList)) ∧ Below w.heap.size w w' := by
  obtain ⟨r, hr, hl, hi⟩ := cons_of s h
  have ha := (s[0]).toNat_lt
  have he : s.toList.isEmpty = false := by
    rw [ByteArray.toList_mk, hr]; rfl
  have HR := Lib.hid hr
  have HL := Lib.hid hl
  have HI := Lib.hid hi
  have HE := Lib.hid e
  clear hr hl hi e
  by_cases hn : s.size < 4
  · go_enter Tryz.func46, Tryz.ntmps46
    go_wp2
    go_quiet (fail)
    go_wp2
    go_ret2
    refine ⟨?_, by first | exact Below.refl _ _ | exact below_drewN (Below.refl _ _) _⟩
    rw [HR.out, Utf.first, HE.out, if_neg (by have := HL.out; simp only; omega)]
    rfl
  · go_enter Tryz.func46, Tryz.ntmps46
    go_wp2
    go_quiet (fail)
    go_wp2
    go_loopw [5, 6] (fun p i wr => ∃ (k : Nat) (x : Int), i = .int .i64 k ∧ 1 ≤ k ∧ k ≤ 4 ∧ p = .int .i64 x ∧ Hid (x = Utf.val (((s[0]).toNat : Int) - 240) (r.take (k - 1))) ∧ Below w.heap.size w wr)
      (fun _ i _ => 4 - (intOf i).toNat)
    case atStart => exact ⟨1, _, rfl, by omega, by omega, rfl, Lib.hid rfl, by first | exact Below.refl _ _ | exact below_drewN (Below.refl _ _) _⟩
    case round =>
      obtain ⟨k, x, rfl, hk1, hk, rfl, HX, hbel⟩ := hrel
      by_cases hlt : k < 4
      · have hks : k < s.size := by omega
        have hb8 := (s[k]'hks).toNat_lt
        have hx : -100000000 ≤ x ∧ x ≤ 100000000 := by
          rw [HX.out]
          exact Utf.val_bound (by omega) (by omega) (by rw [List.length_take]; omega)
        have HN : Hid (x * 64 + (s[k]'hks).toNat - 128 = Utf.val (((s[0]).toNat : Int) - 240) (r.take k)) := Lib.hid (val_next s r HL.out HI.out k hk1 hks HX.out)
        obtain ⟨hx1, hx2⟩ := hx
        go_wp2_with fail
        go_roundw
        case rel => exact ⟨k + 1, _, by go_num, by omega, by omega, rfl, HN, hbel⟩
        case measure => simp [intOf]; omega
      · have hkn : k = 4 := by omega
        subst hkn
        rw [show 4 - 1 = 3 from rfl] at HX
        cases hp : Utf.pt x
        · go_wp2_with fail
          go_quiet ((go_at_call 58; exact Calls.quiet_of_same (flip (rpoint_walk _ _))))
          go_wp2
          go_ret2
          refine ⟨?_, below_drewN hbel _⟩
          rw [HR.out, Utf.first, HE.out]
          simp only
          rw [← HX.out, hp, if_neg (by simp)]
          rfl
        · go_wp2_with fail
          go_region_held3 (fun w' => Below w.heap.size w w') (first | exact hbel.drew | assumption | exact below_next (by assumption) (by assumption) | exact Below.drew (by assumption))
            (first | (go_at_call 58; refine (rpoint_walk _ _).mono ?_; rintro e w' ⟨rfl, rfl⟩) | (go_at_call 59; refine (rbytes_walk _ _ hp).mono ?_; rintro e w' ⟨rfl, hb1⟩))
          go_wp2
          · have ht : (!Utf.bytes x == (s.extract 0 4).toList) = true := by assumption
            rw [ext_take, HR.out] at ht
            go_ret2
            refine ⟨?_, by assumption⟩
            rw [HR.out, Utf.first, HE.out]
            simp only
            rw [← HX.out, if_neg (by rintro ⟨_, _, h3⟩; rw [h3] at ht; simp at ht)]
            rfl
          · have ht : (!Utf.bytes x == (s.extract 0 4).toList) = false := by assumption
            rw [ext_take, HR.out] at ht
            go_ret2
            refine ⟨?_, by assumption⟩
            rw [HR.out, Utf.first, HE.out]
            simp only
            rw [← HX.out, if_pos ⟨by have := HL.out; omega, hp, by simpa using ht⟩]
            rfl

/-- First, of whatever text. -/
theorem rfirst_walk (s : ByteArray) (hs : s.size ≤ 9223372036854775807) (w : World) :
    Calls Tryz.prog 46 #[.string s] w fun e w' => e = .returned (duo (Utf.first s.data.toList)) ∧ Below w.heap.size w w' := by
  by_cases h : 0 < s.size
  · rcases Utf.lead_cases (s[0]).toNat with ⟨h1, e⟩ | ⟨h1, h2, e⟩ | ⟨h1, h2, e⟩ | ⟨h1, e⟩
    · exact rfirst_1 s h hs w h1 e
    · exact rfirst_2 s h hs w h1 h2 e
    · exact rfirst_3 s h hs w h1 h2 e
    · exact rfirst_4 s h hs w h1 e
  · obtain rfl : s = ByteArray.empty := by
      rcases s with ⟨⟨l⟩⟩
      match l with
      | [] => rfl
      | a :: r => exact absurd (show 0 < (a :: r).length from Nat.succ_pos _) h
    exact rfirst_none w
end Go.Proofs.YtebphmkefpaeaaaGreatDoor

/- What a text begins with: the program's first tells Utf.first. -/
namespace Go.Proofs.YtebphmkefpaeaaaGreatDoor
open Go.RowKit
set_option linter.unusedVariables false

theorem plead_bound (a : UInt8) : 0 ≤ (Utf.plead a.toNat).1 ∧ (Utf.plead a.toNat).1 ≤ 127 ∧ (Utf.plead a.toNat).2 ≤ 4 := by
  have ha := a.toNat_lt
  rcases Utf.plead_cases a.toNat with ⟨h1, e⟩ | ⟨h1, h2, e⟩ | ⟨h1, h2, e⟩ | ⟨h1, h2, e⟩ | ⟨h1, e⟩ <;> rw [e] <;> simp only <;> omega

theorem val_up {p : Int} {l : List UInt8} (h0 : 0 ≤ p) (h1 : p ≤ 127) (hl : l.length ≤ 2) (h : ∀ b ∈ l, 128 ≤ b.toNat ∧ b.toNat < 192) : 0 ≤ Utf.val p l ∧ Utf.val p l ≤ 1000000 := by
  match l, hl, h with
  | [], _, _ => simp only [Utf.val]; omega
  | [b], _, h => have := h b (by simp); simp only [Utf.val]; omega
  | [b, c], _, h => have := h b (by simp); have := h c (by simp); simp only [Utf.val]; omega

theorem onbits (x : Int) (b : UInt8) (h0 : 0 ≤ x) (h1 : x ≤ 1000000) (h2 : 128 ≤ b.toNat) (h3 : b.toNat < 192) :
    bits .or .i64 (x * 64) ((b.toNat : Int) - 128) = x * 64 + b.toNat - 128 := by
  rw [i64_join6 x _ h0 (by omega) (by omega) (by omega)]
  omega

/-- Some bytes that go on. -/
def On (r : List UInt8) (k : Nat) : Prop := ∀ b ∈ r.take k, 128 ≤ b.toNat ∧ b.toNat < 192

theorem on_next {r : List UInt8} {k : Nat} (h : On r k) (hk : k < r.length) (h1 : 128 ≤ r[k].toNat) (h2 : r[k].toNat < 192) : On r (k + 1) := by
  intro b hb
  rw [List.take_succ_eq_append_getElem hk, List.mem_append] at hb
  rcases hb with hb | hb
  · exact h b hb
  · simp at hb; subst hb; exact ⟨h1, h2⟩

set_option maxRecDepth 100000 in
set_option maxHeartbeats 1000000 in
theorem first_walk (s : ByteArray) (h : 0 < s.size) (hs : s.size ≤ 9223372036854775807) (w : World) :
    Calls Tryz.prog 86 #[.string s] w fun e w' => e = .returned (duo (Utf.first s.data.toList)) ∧ w = w' := by
  obtain ⟨r, hr, hl, hi⟩ := cons_of s h
  obtain ⟨hv0, hv1, hn4⟩ := plead_bound s[0]
  have HR := Lib.hid hr
  have HL := Lib.hid hl
  have HI := Lib.hid hi
  clear hr hl hi
  obtain ⟨v, n, hvn⟩ : ∃ v n, Utf.plead (s[0]).toNat = (v, n) := ⟨_, _, rfl⟩
  have HV := Lib.hid hvn
  rw [hvn] at hv0 hv1 hn4
  simp only at hv0 hv1 hn4
  clear hvn
  by_cases hn0 : n = 0
  · subst hn0
    go_enter Tryz.func86, Tryz.ntmps86
    go_wp2_with fail
    refine (lead_walk s[0] _).mono ?_
    rintro e w' ⟨he, rfl⟩
    rw [HV.out, duo] at he
    subst he
    go_wp2
    go_ret2
    refine ⟨?_, rfl⟩
    rw [HR.out, Utf.first_nolead (by rw [HV.out])]
    rfl
  · have hd0 : ((n : Int) == 0) = false := by simp; omega
    by_cases hns : s.size < n
    · have hd1 : decide (s.size < n) = true := by simpa using hns
      go_enter Tryz.func86, Tryz.ntmps86
      go_wp2_with fail
      refine (lead_walk s[0] _).mono ?_
      rintro e w' ⟨he, rfl⟩
      rw [HV.out, duo] at he
      subst he
      go_wp2
      go_ret2
      refine ⟨?_, rfl⟩
      rw [HR.out, Utf.first_short (by rw [HV.out]; exact hn0) (by rw [HV.out]; have := HL.out; simp only; omega)]
      rfl
    · have hd1 : decide (s.size < n) = false := by simpa using hns
      go_enter Tryz.func86, Tryz.ntmps86
      go_wp2_with fail
      refine (lead_walk s[0] _).mono ?_
      rintro e w' ⟨he, rfl⟩
      rw [HV.out, duo] at he
      subst he
      go_wp2_with fail
      go_loop [4, 6] (fun p i => ∃ (k : Nat) (x : Int), i = .int .i64 k ∧ 1 ≤ k ∧ k ≤ n ∧ p = .int .i64 x ∧ Hid (x = Utf.val v (r.take (k - 1))) ∧ Hid (On r (k - 1)))
        (fun _ i => 4 - (intOf i).toNat)
      case atStart => exact ⟨1, _, rfl, by omega, by omega, rfl, Lib.hid rfl, Lib.hid (fun b hb => by simp at hb)⟩
      case round =>
        obtain ⟨k, x, rfl, hk1, hk, rfl, HX, HO⟩ := hrel
        by_cases hlt : k < n
        · have hks : k < s.size := by omega
          have hx := val_up (p := v) (l := r.take (k - 1)) hv0 hv1 (by rw [List.length_take]; omega) HO.out
          rw [← HX.out] at hx
          obtain ⟨hx1, hx2⟩ := hx
          have hb8 := (s[k]'hks).toNat_lt
          have HK : Hid (∃ hr : k - 1 < r.length, r[k - 1] = s[k]'hks) := Lib.hid (by
            have h1 := HL.out
            have h2 := HI.out (k - 1) (by omega) (by omega)
            refine ⟨by omega, h2.trans ?_⟩
            simp only [show k - 1 + 1 = k from by omega])
          by_cases hgo : 128 ≤ (s[k]'hks).toNat ∧ (s[k]'hks).toNat < 192
          · obtain ⟨hg1, hg2⟩ := hgo
            have HN : Hid (x * 64 + (s[k]'hks).toNat - 128 = Utf.val v (r.take k)) := Lib.hid (val_next s r HL.out HI.out k hk1 hks HX.out)
            have HB := Lib.hid (onbits x (s[k]'hks) hx1 hx2 hg1 hg2)
            have HO2 : Hid (On r k) := Lib.hid (by
              obtain ⟨h1, h2⟩ := HK.out
              have := on_next HO.out h1 (by rw [h2]; exact hg1) (by rw [h2]; exact hg2)
              rwa [show k - 1 + 1 = k from by omega] at this)
            go_wp2_with fail
            go_round
            case rel => exact ⟨k + 1, _, by go_num, by omega, by omega, by rw [HB.out], HN, HO2⟩
            case measure => simp [intOf]; omega
          · have hf : Utf.first s.data.toList = (0, 0) := by
              obtain ⟨h1, h2⟩ := HK.out
              rw [HR.out]
              exact Utf.first_stop (i := k - 1) (by rw [HV.out]; exact hn0) (by rw [HV.out]; simp only; omega) h1 (by rw [h2]; omega)
            have HF := Lib.hid hf
            clear hf
            by_cases hg1 : (s[k]'hks).toNat < 128
            · clear hgo
              go_wp2
              go_ret2
              exact ⟨by rw [HF.out]; rfl, rfl⟩
            · have hg2 : 192 ≤ (s[k]'hks).toNat := by omega
              clear hgo
              go_wp2
              go_ret2
              exact ⟨by rw [HF.out]; rfl, rfl⟩
        · have hkn : k = n := by omega
          subst hkn
          have hf := Utf.first_all (a := s[0]) (r := r) (by rw [HV.out]; exact hn0) (by rw [HV.out]; have := HL.out; simp only; omega) (by rw [HV.out]; exact HO.out)
          rw [HV.out] at hf
          simp only at hf
          rw [← HX.out, ← HR.out] at hf
          have HF := Lib.hid hf
          clear hf
          cases hp : Utf.pt x
          · go_wp2_with (first | (go_at_call 93; refine (ispt_walk _ _).mono ?_; rintro e w' ⟨rfl, rfl⟩) | (go_at_call 94; refine (width_walk _ _).mono ?_; rintro e w' ⟨rfl, rfl⟩))
            go_ret2
            refine ⟨?_, rfl⟩
            rw [HF.out, hp, if_neg (by simp)]
            rfl
          · by_cases hw : Utf.width x = k
            · have hd2 : ((Utf.width x : Int) == (k : Int)) = true := by rw [beq_iff_eq]; omega
              have hd3 : ((Utf.width x : Int) != (k : Int)) = false := by rw [bne_eq_false_iff_eq]; omega
              have HW := Lib.hid hw
              clear hw
              go_wp2_with (first | (go_at_call 93; refine (ispt_walk _ _).mono ?_; rintro e w' ⟨rfl, rfl⟩) | (go_at_call 94; refine (width_walk _ _).mono ?_; rintro e w' ⟨rfl, rfl⟩))
              go_ret2
              refine ⟨?_, rfl⟩
              rw [HF.out, if_pos ⟨hp, HW.out⟩]
              rfl
            · have hd2 : ((Utf.width x : Int) == (k : Int)) = false := by rw [beq_eq_false_iff_ne]; omega
              have hd3 : ((Utf.width x : Int) != (k : Int)) = true := by rw [bne_iff_ne]; omega
              go_wp2_with (first | (go_at_call 93; refine (ispt_walk _ _).mono ?_; rintro e w' ⟨rfl, rfl⟩) | (go_at_call 94; refine (width_walk _ _).mono ?_; rintro e w' ⟨rfl, rfl⟩))
              go_ret2
              refine ⟨?_, rfl⟩
              rw [HF.out, if_neg (by rintro ⟨_, h⟩; exact hw h)]
              rfl
end Go.Proofs.YtebphmkefpaeaaaGreatDoor

/- Decode, of the program and of the document, tells what Utf.Reads says. -/
namespace Go.Proofs.YtebphmkefpaeaaaGreatDoor
open Go.RowKit
set_option linter.unusedVariables false

/-- What Decode hands back. -/
def Decoded (ps : List Int) (rest : List UInt8) (w : World) (e : Ending) (w' : World) : Prop :=
  ∃ (A : Option Addr) (cap : Nat) (zs : List Int) (f : Value), e = .returned (.tuple #[.slice A zs.length cap, f]) ∧ Ints w' w'.heap.size A zs ∧ (A = none → zs.length = 0 ∧ cap = 0) ∧ Below w.heap.size w w' ∧
    ((rest = [] ∧ zs = ps ∧ f = .agg #[.int .i64 0, .int .i64 0]) ∨ (rest ≠ [] ∧ zs = [] ∧ f = .agg #[.int .i64 30, .int .i64 (Utf.enc ps).length]))

set_option maxRecDepth 100000 in
set_option maxHeartbeats 1000000 in
theorem decode_walk (s : ByteArray) (hs : s.size ≤ 1000000000) (ps : List Int) (rest : List UInt8) (hR : Utf.Reads s.data.toList ps rest) (w : World) :
    Calls Tryz.prog 75 #[.string s] w (Decoded ps rest w) := by
  have hz := Lib.hid (Lib.size_eq s)
  obtain ⟨i0, hi, hz0, hz1, hz2⟩ := info_parts (P := Tryz.prog) (e := 3) (z := .int .i64 0) (size := 1) (bytes := 8) (by kernel_rfl)
  have hcount : ps.length ≤ s.size := by
    have h1 := Utf.enc_count ps
    have h2 := (Utf.reads_end hR).2
    rw [← hz.out] at h2
    omega
  go_enter Tryz.func75, Tryz.ntmps75
  go_wp2_with fail
  generalize hW1 : w.alloc (Obj.cells #[Value.int IntKind.i64 0, Value.int IntKind.i64 0] 27) = W1
  have hf0 : Below w.heap.size w W1 := by rw [← hW1]; exact (Below.refl _ _).alloc (Nat.le_refl _) _
  have hf1 : w.heap.size < W1.heap.size := by rw [← hW1]; simp
  have HC : Hid (W1.cell? ⟨w.heap.size, 0, none⟩ = some (.int .i64 0) ∧ W1.cell? ⟨w.heap.size, 1, none⟩ = some (.int .i64 0) ∧ W1.frozen? ⟨w.heap.size, 0, none⟩ = false ∧ W1.frozen? ⟨w.heap.size, 1, none⟩ = false) := by
    rw [← hW1]
    exact Lib.hid ⟨by simp [go_sem], by simp [go_sem], by simp [go_sem], by simp [go_sem]⟩
  clear hW1
  go_loopw [4, 5] (fun v i wr => ∃ k a : Nat, i = .int .i64 a ∧ k ≤ ps.length ∧ Hid (a = (Utf.enc (ps.take k)).length) ∧ wr.ownsRow W1.heap.size 3 1 v k ((ps.take k).map (Value.int .i64)) ∧ Below W1.heap.size W1 wr)
    (fun _ i _ => s.size - (intOf i).toNat)
  case atStart => exact ⟨0, 0, rfl, Nat.zero_le _, Lib.hid rfl, World.ownsRow_nil _ _ _ _, Below.refl _ _⟩
  case round =>
    obtain ⟨k, a, rfl, hk, HA, hown, hb⟩ := hrel
    have hsz := hb.size
    by_cases hlt : k < ps.length
    · obtain ⟨h1, h2, h3⟩ := Utf.reads_at hR k hlt
      rw [← HA.out] at h1 h3
      rw [← hz.out] at h3
      obtain ⟨hw1, hw2⟩ := Utf.width_pos ps[k]
      have hak : a < s.size := by omega
      obtain ⟨x, hx⟩ : ∃ x, x = ps[k] := ⟨_, rfl⟩
      have HX := Lib.hid hx
      rw [← hx] at h1 h2 h3 hw1 hw2
      have HN : Hid (a + Utf.width x = (Utf.enc (ps.take (k + 1))).length) := Lib.hid (by rw [h2, List.length_append, Utf.bytes_length, ← HA.out])
      have H1 := Lib.hid h1
      clear h1 h2 hx
      obtain ⟨r, hsl, hr1, hr2, hr3, _, _⟩ := rest_of s a hak
      have HR1 := Lib.hid hr1
      clear hr1
      have hd0 : ((Utf.width x : Int) == 0) = false := by rw [beq_eq_false_iff_ne]; omega
      have HT : Hid ((ps.take (k + 1)).map (Value.int .i64) = (ps.take k).map (Value.int .i64) ++ [.int .i64 x]) := Lib.hid (by rw [List.take_succ_eq_append_getElem hlt, List.map_append, HX.out]; rfl)
      go_wp2_with fail
      refine (first_walk r hr3 (by omega) _).mono ?_
      rintro e w2 ⟨he, rfl⟩
      have hown2 := hown
      have hb3 := hb
      have hsz3 := hsz
      rw [HR1.out, H1.out, duo] at he
      subst he
      go_wp2_with (at_builtin; refine wpList_append_own _ rfl _ _ 78 rfl W1.heap.size 3 i0 (.int .i64 0) 1 8 Tryz.underlying78 hi hz0 hz1 hz2 rfl (by decide) _ _ _ rfl (hown2.alloc _) ⟨wr.heap.size, 0, none⟩ 1 1 [.int .i64 x] rfl rfl ?c1 ?c2 ?c3 ?c4 ?c5 ?_)
      case c1 =>
        intro i u hu
        match i, hu with
        | 0, hu => simp at hu; subst hu; simp [Addr.add]
      case c2 => intro u hu; simp at hu; subst hu; rfl
      case c3 => unfold maxLen; omega
      case c4 => omega
      case c5 => simp; omega
      intro v' w3 hown3 hgrow _
      go_wp2
      go_roundw
      case rel =>
        refine ⟨k + 1, a + Utf.width x, by go_num, by omega, HN, ?_, (hb3.alloc hsz3 _).grown hgrow (by simp; omega) (fun k hk => (hown2.lt k hk).1)⟩
        rw [HT.out, List.map_take]
        exact hown3
      case measure => simp [intOf]; omega
    · have hkl : k = ps.length := by omega
      have HP : Hid (ps.take k = ps) := Lib.hid (List.take_of_length_le (by omega))
      rw [HP.out] at HA hown
      obtain ⟨h1, h2⟩ := Utf.reads_end hR
      rw [← hz.out, ← HA.out] at h2
      rw [← HA.out] at h1
      have H1 := Lib.hid h1
      clear h1
      by_cases hrest : rest = []
      · have hae : ¬ a < s.size := by rw [hrest, List.length_nil] at h2; omega
        obtain ⟨hc0, hc2⟩ := cell_of_below (o := 0) hb hf1
        obtain ⟨hc1, hc3⟩ := cell_of_below (o := 1) hb hf1
        obtain ⟨g0, g1, g2, g3⟩ := HC.out
        rw [g0] at hc0
        rw [g1] at hc1
        rw [g2] at hc2
        rw [g3] at hc3
        obtain ⟨A, cap, hv, hI, hAn⟩ := ints_of_own (ownsRow_setCell_below (a := ⟨w.heap.size, 1, none⟩) (ownsRow_setCell_below (a := ⟨w.heap.size, 0, none⟩) hown hf1 (.int .i64 0)) hf1 (.int .i64 0))
        subst hkl
        clear g0 g1 g2 g3
        go_wp2
        refine bodyPost_ret (v := .tuple #[.slice A ps.length cap, .agg #[.int .i64 0, .int .i64 0]]) (by simp [results, Tryz.results75, go_sem, hv, hc0, hc1]) rfl ?_
        have hbb : Below w.heap.size w wr := hf0.trans (hb.mono (Nat.le_of_lt hf1))
        have hb2 : Below w.heap.size w ((wr.setCell ⟨w.heap.size, 0, none⟩ (.int .i64 0)).setCell ⟨w.heap.size, 1, none⟩ (.int .i64 0)) := (hbb.setCell (Nat.le_refl _) _).setCell (Nat.le_refl _) _
        exact ⟨A, cap, ps, _, rfl, hI, hAn, hb2, Or.inl ⟨hrest, rfl, rfl⟩⟩
      · have hae : a < s.size := by have := List.length_pos_iff.2 hrest; omega
        obtain ⟨r, hsl, hr1, hr2, hr3, _, _⟩ := rest_of s a hae
        have HR1 := Lib.hid hr1
        clear hr1
        go_wp2_with fail
        refine (first_walk r hr3 (by omega) _).mono ?_
        rintro e w2 ⟨he, rfl⟩
        have hb3 := hb
        rw [HR1.out, H1.out, duo] at he
        subst he
        obtain ⟨hc0, hc2⟩ := cell_of_below (o := 0) hb3 hf1
        obtain ⟨hc1, hc3⟩ := cell_of_below (o := 1) hb3 hf1
        obtain ⟨g0, g1, g2, g3⟩ := HC.out
        rw [g0] at hc0
        rw [g1] at hc1
        rw [g2] at hc2
        rw [g3] at hc3
        clear g0 g1 g2 g3
        go_wp2
        refine bodyPost_ret (v := .tuple #[.slice none 0 0, .agg #[.int .i64 30, .int .i64 a]]) (by simp [results, Tryz.results75, go_sem, hc0, hc1]) rfl ?_
        have hbb : Below w.heap.size w wr := hf0.trans (hb3.mono (Nat.le_of_lt hf1))
        refine ⟨none, 0, [], _, rfl, Or.inl rfl, fun _ => ⟨rfl, rfl⟩, (hbb.setCell (Nat.le_refl _) _).setCell (Nat.le_refl _) _, Or.inr ⟨hrest, rfl, by rw [HA.out]⟩⟩

end Go.Proofs.YtebphmkefpaeaaaGreatDoor
