/- What a text begins with: the program's first and the document's First tell Utf.first. -/
import Derived.Test.YticfgdedlleapaaUtfSmall
import Derived.Deep.RegionHeld3
namespace Go.Proofs.Yticfgdedlleapaa
open Go.RowKit
set_option linter.unusedVariables false

/-- A code point and how many bytes it has, as Go hands them back. -/
def duo (x : Int × Nat) : Value := .tuple #[.int .i64 x.1, .int .i64 x.2]

set_option maxRecDepth 100000 in
theorem lead_walk (a : UInt8) (w : World) :
    Calls Try.prog 25 #[.int .u8 a.toNat] w fun e w' => e = .returned (duo (Utf.plead a.toNat)) ∧ w = w' := by
  have ha := a.toNat_lt
  rcases Utf.plead_cases a.toNat with ⟨h1, e⟩ | ⟨h1, h2, e⟩ | ⟨h1, h2, e⟩ | ⟨h1, h2, e⟩ | ⟨h1, e⟩ <;> rw [e] <;> clear e
  · go_enter Try.func25, Try.ntmps25
    go_wp2
    go_ret2
    exact ⟨rfl, rfl⟩
  · go_enter Try.func25, Try.ntmps25
    go_wp2
    go_ret2
    exact ⟨rfl, rfl⟩
  · go_enter Try.func25, Try.ntmps25
    go_wp2
    go_ret2
    exact ⟨rfl, rfl⟩
  · go_enter Try.func25, Try.ntmps25
    go_wp2
    go_ret2
    exact ⟨rfl, rfl⟩
  · rcases h1 with ⟨h1, h2⟩ | h1
    · go_enter Try.func25, Try.ntmps25
      go_wp2
      go_ret2
      exact ⟨rfl, rfl⟩
    · go_enter Try.func25, Try.ntmps25
      go_wp2
      go_ret2
      exact ⟨rfl, rfl⟩

/-- A text of a byte or more. -/
theorem cons_of (s : ByteArray) (h : 0 < s.size) : ∃ r, s.data.toList = s[0] :: r ∧ r.length + 1 = s.size ∧ ∀ (i : Nat) (hi : i < r.length) (h' : i + 1 < s.size), r[i] = s[i + 1] := by
  have hz := Lib.size_eq s
  obtain ⟨a, r, e⟩ : ∃ a r, s.data.toList = a :: r := by
    rcases hl : s.data.toList with _ | ⟨a, r⟩
    · rw [hl, List.length_nil] at hz; omega
    · exact ⟨a, r, rfl⟩
  have h0 : s[0] = s.data.toList[0]'(by rw [e]; simp) := rfl
  refine ⟨r, ?_, by rw [hz, e]; rfl, ?_⟩
  · rw [e, h0]; simp [e]
  · intro i hi h'
    have : s[i + 1] = s.data.toList[i + 1]'(by rw [← hz]; exact h') := rfl
    rw [this]; simp [e]

theorem val_next (s : ByteArray) (r : List UInt8) (hl : r.length + 1 = s.size) (hi : ∀ (i : Nat) (hi : i < r.length) (h' : i + 1 < s.size), r[i] = s[i + 1]) {x v : Int} (k : Nat) (hk : 1 ≤ k) (hks : k < s.size)
    (hx : x = Utf.val v (r.take (k - 1))) : x * 64 + (s[k]'hks).toNat - 128 = Utf.val v (r.take k) := by
  obtain ⟨j, rfl⟩ : ∃ j, k = j + 1 := ⟨k - 1, by omega⟩
  rw [List.take_succ_eq_append_getElem (by omega), Utf.val_snoc, hi j (by omega) hks, hx]
  rfl

theorem flip {P : Program} {f : FuncId} {args : Array Value} {w : World} {v : Value} (h : Calls P f args w fun e w' => e = .returned v ∧ w = w') : Calls P f args w fun e w' => e = .returned v ∧ w' = w :=
  h.mono fun _ _ ⟨he, hw⟩ => ⟨he, hw.symm⟩

theorem below_next {w W w' : World} (h : Below w.heap.size w W) (hb : Below W.heap.size W w') : Below w.heap.size w w' := h.trans (hb.mono h.size)

theorem ext_take (s : ByteArray) (n : Nat) : (s.extract 0 n).toList = s.data.toList.take n := by
  have := ByteArray.extract_mk s.data.toList 0 n
  have e : s.extract 0 n = ⟨(s.data.toList.take n).toArray⟩ := this
  rw [e, ByteArray.toList_mk]

/-- What First knows before its loop. -/
theorem rfirst_none (w : World) :
    Calls Try.prog 18 #[.string ByteArray.empty] w fun e w' => e = .returned (duo (0, 0)) ∧ Below w.heap.size w w' := by
  go_enter Try.func18, Try.ntmps18
  go_wp2
  go_ret2
  exact ⟨rfl, Below.refl _ _⟩

set_option maxRecDepth 100000 in
set_option maxHeartbeats 1000000 in
theorem rfirst_1 (s : ByteArray) (h : 0 < s.size) (hs : s.size ≤ 9223372036854775807) (w : World) (h1 : (s[0]).toNat < 192) (e : Utf.lead (s[0]).toNat = (1, ((s[0]).toNat : Int))) :
    Calls Try.prog 18 #[.string s] w fun e w' => e = .returned (duo (Utf.first s.data.toList)) ∧ Below w.heap.size w w' := by
  obtain ⟨r, hr, hl, hi⟩ := cons_of s h
  have ha := (s[0]).toNat_lt
  have he : s.toList.isEmpty = false := by
    rw [ByteArray.toList_mk, hr]; rfl
  have HR := Lib.hid hr
  have HL := Lib.hid hl
  have HI := Lib.hid hi
  have HE := Lib.hid e
  clear hr hl hi e
  by_cases hn : s.size < 1
  · omega
  · go_enter Try.func18, Try.ntmps18
    go_wp2
    go_quiet (fail)
    go_wp2
    go_loopw [5, 6] (fun p i wr => ∃ (k : Nat) (x : Int), i = .int .i64 k ∧ 1 ≤ k ∧ k ≤ 1 ∧ p = .int .i64 x ∧ Hid (x = Utf.val (((s[0]).toNat : Int)) (r.take (k - 1))) ∧ Below w.heap.size w wr)
      (fun _ i _ => 4 - (intOf i).toNat)
    case atStart => exact ⟨1, _, rfl, by omega, by omega, rfl, Lib.hid rfl, by first | exact Below.refl _ _ | exact below_drewN (Below.refl _ _) _⟩
    case round =>
      obtain ⟨k, x, rfl, hk1, hk, rfl, HX, hbel⟩ := hrel
      by_cases hlt : k < 1
      · omega
      · have hkn : k = 1 := by omega
        subst hkn
        rw [show 1 - 1 = 0 from rfl] at HX
        cases hp : Utf.pt x
        · go_wp2_with fail
          go_quiet ((go_at_call 21; exact Calls.quiet_of_same (flip (rpoint_walk _ _))))
          go_wp2
          go_ret2
          refine ⟨?_, below_drewN hbel _⟩
          rw [HR.out, Utf.first, HE.out]
          simp only
          rw [← HX.out, hp, if_neg (by simp)]
          rfl
        · go_wp2_with fail
          go_region_held3 (fun w' => Below w.heap.size w w') (first | exact hbel.drew | assumption | exact below_next (by assumption) (by assumption) | exact Below.drew (by assumption))
            (first | (go_at_call 21; refine (rpoint_walk _ _).mono ?_; rintro e w' ⟨rfl, rfl⟩) | (go_at_call 22; refine (rbytes_walk _ _ hp).mono ?_; rintro e w' ⟨rfl, hb1⟩))
          go_wp2
          · have ht : (!Utf.bytes x == (s.extract 0 1).toList) = true := by assumption
            rw [ext_take, HR.out] at ht
            go_ret2
            refine ⟨?_, by assumption⟩
            rw [HR.out, Utf.first, HE.out]
            simp only
            rw [← HX.out, if_neg (by rintro ⟨_, _, h3⟩; rw [h3] at ht; simp at ht)]
            rfl
          · have ht : (!Utf.bytes x == (s.extract 0 1).toList) = false := by assumption
            rw [ext_take, HR.out] at ht
            go_ret2
            refine ⟨?_, by assumption⟩
            rw [HR.out, Utf.first, HE.out]
            simp only
            rw [← HX.out, if_pos ⟨by have := HL.out; omega, hp, by simpa using ht⟩]
            rfl

set_option maxRecDepth 100000 in
set_option maxHeartbeats 1000000 in
theorem rfirst_2 (s : ByteArray) (h : 0 < s.size) (hs : s.size ≤ 9223372036854775807) (w : World) (h1 : 192 ≤ (s[0]).toNat) (h2 : (s[0]).toNat < 224) (e : Utf.lead (s[0]).toNat = (2, ((s[0]).toNat : Int) - 192)) :
    Calls Try.prog 18 #[.string s] w fun e w' => e = .returned (duo (Utf.first s.data.toList)) ∧ Below w.heap.size w w' := by
  obtain ⟨r, hr, hl, hi⟩ := cons_of s h
  have ha := (s[0]).toNat_lt
  have he : s.toList.isEmpty = false := by
    rw [ByteArray.toList_mk, hr]; rfl
  have HR := Lib.hid hr
  have HL := Lib.hid hl
  have HI := Lib.hid hi
  have HE := Lib.hid e
  clear hr hl hi e
  by_cases hn : s.size < 2
  · go_enter Try.func18, Try.ntmps18
    go_wp2
    go_quiet (fail)
    go_wp2
    go_ret2
    refine ⟨?_, by first | exact Below.refl _ _ | exact below_drewN (Below.refl _ _) _⟩
    rw [HR.out, Utf.first, HE.out, if_neg (by have := HL.out; simp only; omega)]
    rfl
  · go_enter Try.func18, Try.ntmps18
    go_wp2
    go_quiet (fail)
    go_wp2
    go_loopw [5, 6] (fun p i wr => ∃ (k : Nat) (x : Int), i = .int .i64 k ∧ 1 ≤ k ∧ k ≤ 2 ∧ p = .int .i64 x ∧ Hid (x = Utf.val (((s[0]).toNat : Int) - 192) (r.take (k - 1))) ∧ Below w.heap.size w wr)
      (fun _ i _ => 4 - (intOf i).toNat)
    case atStart => exact ⟨1, _, rfl, by omega, by omega, rfl, Lib.hid rfl, by first | exact Below.refl _ _ | exact below_drewN (Below.refl _ _) _⟩
    case round =>
      obtain ⟨k, x, rfl, hk1, hk, rfl, HX, hbel⟩ := hrel
      by_cases hlt : k < 2
      · have hks : k < s.size := by omega
        have hb8 := (s[k]'hks).toNat_lt
        have hx : -100000000 ≤ x ∧ x ≤ 100000000 := by
          rw [HX.out]
          exact Utf.val_bound (by omega) (by omega) (by rw [List.length_take]; omega)
        have HN : Hid (x * 64 + (s[k]'hks).toNat - 128 = Utf.val (((s[0]).toNat : Int) - 192) (r.take k)) := Lib.hid (val_next s r HL.out HI.out k hk1 hks HX.out)
        obtain ⟨hx1, hx2⟩ := hx
        go_wp2_with fail
        go_roundw
        case rel => exact ⟨k + 1, _, by go_num, by omega, by omega, rfl, HN, hbel⟩
        case measure => simp [intOf]; omega
      · have hkn : k = 2 := by omega
        subst hkn
        rw [show 2 - 1 = 1 from rfl] at HX
        cases hp : Utf.pt x
        · go_wp2_with fail
          go_quiet ((go_at_call 21; exact Calls.quiet_of_same (flip (rpoint_walk _ _))))
          go_wp2
          go_ret2
          refine ⟨?_, below_drewN hbel _⟩
          rw [HR.out, Utf.first, HE.out]
          simp only
          rw [← HX.out, hp, if_neg (by simp)]
          rfl
        · go_wp2_with fail
          go_region_held3 (fun w' => Below w.heap.size w w') (first | exact hbel.drew | assumption | exact below_next (by assumption) (by assumption) | exact Below.drew (by assumption))
            (first | (go_at_call 21; refine (rpoint_walk _ _).mono ?_; rintro e w' ⟨rfl, rfl⟩) | (go_at_call 22; refine (rbytes_walk _ _ hp).mono ?_; rintro e w' ⟨rfl, hb1⟩))
          go_wp2
          · have ht : (!Utf.bytes x == (s.extract 0 2).toList) = true := by assumption
            rw [ext_take, HR.out] at ht
            go_ret2
            refine ⟨?_, by assumption⟩
            rw [HR.out, Utf.first, HE.out]
            simp only
            rw [← HX.out, if_neg (by rintro ⟨_, _, h3⟩; rw [h3] at ht; simp at ht)]
            rfl
          · have ht : (!Utf.bytes x == (s.extract 0 2).toList) = false := by assumption
            rw [ext_take, HR.out] at ht
            go_ret2
            refine ⟨?_, by assumption⟩
            rw [HR.out, Utf.first, HE.out]
            simp only
            rw [← HX.out, if_pos ⟨by have := HL.out; omega, hp, by simpa using ht⟩]
            rfl

set_option maxRecDepth 100000 in
set_option maxHeartbeats 1000000 in
theorem rfirst_3 (s : ByteArray) (h : 0 < s.size) (hs : s.size ≤ 9223372036854775807) (w : World) (h1 : 224 ≤ (s[0]).toNat) (h2 : (s[0]).toNat < 240) (e : Utf.lead (s[0]).toNat = (3, ((s[0]).toNat : Int) - 224)) :
    Calls Try.prog 18 #[.string s] w fun e w' => e = .returned (duo (Utf.first s.data.toList)) ∧ Below w.heap.size w w' := by
  obtain ⟨r, hr, hl, hi⟩ := cons_of s h
  have ha := (s[0]).toNat_lt
  have he : s.toList.isEmpty = false := by
    rw [ByteArray.toList_mk, hr]; rfl
  have HR := Lib.hid hr
  have HL := Lib.hid hl
  have HI := Lib.hid hi
  have HE := Lib.hid e
  clear hr hl hi e
  by_cases hn : s.size < 3
  · go_enter Try.func18, Try.ntmps18
    go_wp2
    go_quiet (fail)
    go_wp2
    go_ret2
    refine ⟨?_, by first | exact Below.refl _ _ | exact below_drewN (Below.refl _ _) _⟩
    rw [HR.out, Utf.first, HE.out, if_neg (by have := HL.out; simp only; omega)]
    rfl
  · go_enter Try.func18, Try.ntmps18
    go_wp2
    go_quiet (fail)
    go_wp2
    go_loopw [5, 6] (fun p i wr => ∃ (k : Nat) (x : Int), i = .int .i64 k ∧ 1 ≤ k ∧ k ≤ 3 ∧ p = .int .i64 x ∧ Hid (x = Utf.val (((s[0]).toNat : Int) - 224) (r.take (k - 1))) ∧ Below w.heap.size w wr)
      (fun _ i _ => 4 - (intOf i).toNat)
    case atStart => exact ⟨1, _, rfl, by omega, by omega, rfl, Lib.hid rfl, by first | exact Below.refl _ _ | exact below_drewN (Below.refl _ _) _⟩
    case round =>
      obtain ⟨k, x, rfl, hk1, hk, rfl, HX, hbel⟩ := hrel
      by_cases hlt : k < 3
      · have hks : k < s.size := by omega
        have hb8 := (s[k]'hks).toNat_lt
        have hx : -100000000 ≤ x ∧ x ≤ 100000000 := by
          rw [HX.out]
          exact Utf.val_bound (by omega) (by omega) (by rw [List.length_take]; omega)
        have HN : Hid (x * 64 + (s[k]'hks).toNat - 128 = Utf.val (((s[0]).toNat : Int) - 224) (r.take k)) := Lib.hid (val_next s r HL.out HI.out k hk1 hks HX.out)
        obtain ⟨hx1, hx2⟩ := hx
        go_wp2_with fail
        go_roundw
        case rel => exact ⟨k + 1, _, by go_num, by omega, by omega, rfl, HN, hbel⟩
        case measure => simp [intOf]; omega
      · have hkn : k = 3 := by omega
        subst hkn
        rw [show 3 - 1 = 2 from rfl] at HX
        cases hp : Utf.pt x
        · go_wp2_with fail
          go_quiet ((go_at_call 21; exact Calls.quiet_of_same (flip (rpoint_walk _ _))))
          go_wp2
          go_ret2
          refine ⟨?_, below_drewN hbel _⟩
          rw [HR.out, Utf.first, HE.out]
          simp only
          rw [← HX.out, hp, if_neg (by simp)]
          rfl
        · go_wp2_with fail
          go_region_held3 (fun w' => Below w.heap.size w w') (first | exact hbel.drew | assumption | exact below_next (by assumption) (by assumption) | exact Below.drew (by assumption))
            (first | (go_at_call 21; refine (rpoint_walk _ _).mono ?_; rintro e w' ⟨rfl, rfl⟩) | (go_at_call 22; refine (rbytes_walk _ _ hp).mono ?_; rintro e w' ⟨rfl, hb1⟩))
          go_wp2
          · have ht : (!Utf.bytes x == (s.extract 0 3).toList) = true := by assumption
            rw [ext_take, HR.out] at ht
            go_ret2
            refine ⟨?_, by assumption⟩
            rw [HR.out, Utf.first, HE.out]
            simp only
            rw [← HX.out, if_neg (by rintro ⟨_, _, h3⟩; rw [h3] at ht; simp at ht)]
            rfl
          · have ht : (!Utf.bytes x == (s.extract 0 3).toList) = false := by assumption
            rw [ext_take, HR.out] at ht
            go_ret2
            refine ⟨?_, by assumption⟩
            rw [HR.out, Utf.first, HE.out]
            simp only
            rw [← HX.out, if_pos ⟨by have := HL.out; omega, hp, by simpa using ht⟩]
            rfl

set_option maxRecDepth 100000 in
set_option maxHeartbeats 1000000 in
theorem rfirst_4 (s : ByteArray) (h : 0 < s.size) (hs : s.size ≤ 9223372036854775807) (w : World) (h1 : 240 ≤ (s[0]).toNat) (e : Utf.lead (s[0]).toNat = (4, ((s[0]).toNat : Int) - 240)) :
    Calls Try.prog 18 #[.string s] w fun e w' => e = .returned (duo (Utf.first s.data.toList)) ∧ Below w.heap.size w w' := by
  obtain ⟨r, hr, hl, hi⟩ := cons_of s h
  have ha := (s[0]).toNat_lt
  have he : s.toList.isEmpty = false := by
    rw [ByteArray.toList_mk, hr]; rfl
  have HR := Lib.hid hr
  have HL := Lib.hid hl
  have HI := Lib.hid hi
  have HE := Lib.hid e
  clear hr hl hi e
  by_cases hn : s.size < 4
  · go_enter Try.func18, Try.ntmps18
    go_wp2
    go_quiet (fail)
    go_wp2
    go_ret2
    refine ⟨?_, by first | exact Below.refl _ _ | exact below_drewN (Below.refl _ _) _⟩
    rw [HR.out, Utf.first, HE.out, if_neg (by have := HL.out; simp only; omega)]
    rfl
  · go_enter Try.func18, Try.ntmps18
    go_wp2
    go_quiet (fail)
    go_wp2
    go_loopw [5, 6] (fun p i wr => ∃ (k : Nat) (x : Int), i = .int .i64 k ∧ 1 ≤ k ∧ k ≤ 4 ∧ p = .int .i64 x ∧ Hid (x = Utf.val (((s[0]).toNat : Int) - 240) (r.take (k - 1))) ∧ Below w.heap.size w wr)
      (fun _ i _ => 4 - (intOf i).toNat)
    case atStart => exact ⟨1, _, rfl, by omega, by omega, rfl, Lib.hid rfl, by first | exact Below.refl _ _ | exact below_drewN (Below.refl _ _) _⟩
    case round =>
      obtain ⟨k, x, rfl, hk1, hk, rfl, HX, hbel⟩ := hrel
      by_cases hlt : k < 4
      · have hks : k < s.size := by omega
        have hb8 := (s[k]'hks).toNat_lt
        have hx : -100000000 ≤ x ∧ x ≤ 100000000 := by
          rw [HX.out]
          exact Utf.val_bound (by omega) (by omega) (by rw [List.length_take]; omega)
        have HN : Hid (x * 64 + (s[k]'hks).toNat - 128 = Utf.val (((s[0]).toNat : Int) - 240) (r.take k)) := Lib.hid (val_next s r HL.out HI.out k hk1 hks HX.out)
        obtain ⟨hx1, hx2⟩ := hx
        go_wp2_with fail
        go_roundw
        case rel => exact ⟨k + 1, _, by go_num, by omega, by omega, rfl, HN, hbel⟩
        case measure => simp [intOf]; omega
      · have hkn : k = 4 := by omega
        subst hkn
        rw [show 4 - 1 = 3 from rfl] at HX
        cases hp : Utf.pt x
        · go_wp2_with fail
          go_quiet ((go_at_call 21; exact Calls.quiet_of_same (flip (rpoint_walk _ _))))
          go_wp2
          go_ret2
          refine ⟨?_, below_drewN hbel _⟩
          rw [HR.out, Utf.first, HE.out]
          simp only
          rw [← HX.out, hp, if_neg (by simp)]
          rfl
        · go_wp2_with fail
          go_region_held3 (fun w' => Below w.heap.size w w') (first | exact hbel.drew | assumption | exact below_next (by assumption) (by assumption) | exact Below.drew (by assumption))
            (first | (go_at_call 21; refine (rpoint_walk _ _).mono ?_; rintro e w' ⟨rfl, rfl⟩) | (go_at_call 22; refine (rbytes_walk _ _ hp).mono ?_; rintro e w' ⟨rfl, hb1⟩))
          go_wp2
          · have ht : (!Utf.bytes x == (s.extract 0 4).toList) = true := by assumption
            rw [ext_take, HR.out] at ht
            go_ret2
            refine ⟨?_, by assumption⟩
            rw [HR.out, Utf.first, HE.out]
            simp only
            rw [← HX.out, if_neg (by rintro ⟨_, _, h3⟩; rw [h3] at ht; simp at ht)]
            rfl
          · have ht : (!Utf.bytes x == (s.extract 0 4).toList) = false := by assumption
            rw [ext_take, HR.out] at ht
            go_ret2
            refine ⟨?_, by assumption⟩
            rw [HR.out, Utf.first, HE.out]
            simp only
            rw [← HX.out, if_pos ⟨by have := HL.out; omega, hp, by simpa using ht⟩]
            rfl

/-- First, of whatever text. -/
theorem rfirst_walk (s : ByteArray) (hs : s.size ≤ 9223372036854775807) (w : World) :
    Calls Try.prog 18 #[.string s] w fun e w' => e = .returned (duo (Utf.first s.data.toList)) ∧ Below w.heap.size w w' := by
  by_cases h : 0 < s.size
  · rcases Utf.lead_cases (s[0]).toNat with ⟨h1, e⟩ | ⟨h1, h2, e⟩ | ⟨h1, h2, e⟩ | ⟨h1, e⟩
    · exact rfirst_1 s h hs w h1 e
    · exact rfirst_2 s h hs w h1 h2 e
    · exact rfirst_3 s h hs w h1 h2 e
    · exact rfirst_4 s h hs w h1 e
  · obtain rfl : s = ByteArray.empty := by
      rcases s with ⟨⟨l⟩⟩
      match l with
      | [] => rfl
      | a :: r => exact absurd (show 0 < (a :: r).length from Nat.succ_pos _) h
    exact rfirst_none w
end Go.Proofs.Yticfgdedlleapaa
