/- The program's TakeNumber tells what stands at a place: Oct.takeNum. -/
import Derived.Test.YtjaephhnaocpcaaOctRef
import Derived.OneCell
import Derived.Deep.QuietTactic
import Derived.BigQuiet
import Derived.Laws.BitsAllLaws
import Derived.Deep.RegionHeld3
namespace Go.Proofs.Ytjaephhnaocpcaa
open Go.RowKit

/-- A number, a place and an error as Go hands them back. -/
def tri (x : Nat × Nat × Nat) : Value := .tuple #[.int .u64 x.1, .int .i64 x.2.1, .int .i64 x.2.2]

theorem tri_eq {x y : Nat × Nat × Nat} (h : x = y) : tri x = tri y := by rw [h]

theorem below_drewN {B : Nat} {a w : World} (h : Below B a w) (n : Nat) : Below B a (w.drewN n) := ⟨h.os, h.tape, h.output, h.size, h.block⟩

set_option maxHeartbeats 400000 in
theorem closure_none (s : ByteArray) (be bs : Nat) (w : World)
    (h1 : w.cell? ⟨be, 0, none⟩ = some (.int .i64 s.size)) (h2 : w.cell? ⟨bs, 0, none⟩ = some (.string s)) :
    Calls Try.prog 25 #[.pointer (some ⟨be, 0, none⟩), .pointer (some ⟨bs, 0, none⟩)] w fun e w' => e = .returned (.tuple #[.int .u8 0, .bool false]) ∧ w' = w := by
  go_enter Try.func25, Try.ntmps25
  go_wp2
  go_ret2
  exact ⟨rfl, rfl⟩

set_option maxHeartbeats 400000 in
theorem closure_some (s : ByteArray) (q : Nat) (be bs : Nat) (w : World) (hs : s.size ≤ maxLen) (hq : q < s.size)
    (h1 : w.cell? ⟨be, 0, none⟩ = some (.int .i64 q)) (h2 : w.cell? ⟨bs, 0, none⟩ = some (.string s)) (h3 : w.frozen? ⟨be, 0, none⟩ = false) (hne : be ≠ bs) :
    Calls Try.prog 25 #[.pointer (some ⟨be, 0, none⟩), .pointer (some ⟨bs, 0, none⟩)] w fun e w' => e = .returned (.tuple #[.int .u8 (s[q]'hq).toNat, .bool true]) ∧ w' = w.setCell ⟨be, 0, none⟩ (.int .i64 (q + 1)) := by
  unfold maxLen at hs
  have hd : ((q : Int) == (s.size : Int)) = false := by simp; omega
  go_enter Try.func25, Try.ntmps25
  go_wp2
  go_ret2
  exact ⟨rfl, rfl⟩

set_option maxHeartbeats 400000 in
theorem take_low (s : ByteArray) (p : Int) (w : World) (h : p < 0) :
    Calls Try.prog 13 #[.string s, .int .i64 p] w fun e w' => e = .returned (.tuple #[.int .u64 0, .int .i64 0, .int .i64 2]) ∧ Below w.heap.size w w' := by
  go_enter Try.func13, Try.ntmps13
  go_wp2
  go_ret3
  exact ⟨rfl, (Below.refl _ _).alloc (Nat.le_refl _) _⟩

set_option maxHeartbeats 400000 in
theorem take_high (s : ByteArray) (p : Int) (w : World) (hs : s.size ≤ maxLen) (h : (s.size : Int) < p) :
    Calls Try.prog 13 #[.string s, .int .i64 p] w fun e w' => e = .returned (.tuple #[.int .u64 0, .int .i64 0, .int .i64 2]) ∧ Below w.heap.size w w' := by
  unfold maxLen at hs
  go_enter Try.func13, Try.ntmps13
  go_wp2
  go_ret3
  exact ⟨rfl, (Below.refl _ _).alloc (Nat.le_refl _) _⟩

/-- The world in which TakeNumber runs: its text, and the place up to which it has read. -/
def inTake (w : World) (s : ByteArray) (q : Int) : World := (w.alloc (.cells #[.string s] 9)).alloc (.cells #[.int .i64 q] 3)

theorem inTake_below (w : World) (s : ByteArray) (q : Int) : Below w.heap.size w (inTake w s q) :=
  ((Below.refl _ _).alloc (Nat.le_refl _) _).alloc (by simp) _

theorem inTake_none (w : World) (s : ByteArray) (q : Int) (hq : q = s.size) : Calls Try.prog 25 #[.pointer (some ⟨w.heap.size + 1, 0, none⟩), .pointer (some ⟨w.heap.size, 0, none⟩)] ((w.alloc (.cells #[.string s] 9)).alloc (.cells #[.int .i64 q] 3)) fun e w' => e = .returned (.tuple #[.int .u8 0, .bool false]) ∧ w' = (w.alloc (.cells #[.string s] 9)).alloc (.cells #[.int .i64 q] 3) := by
  subst hq
  exact closure_none s _ _ _ (by simp [go_sem]) (by simp [go_sem])

theorem inTake_some (w : World) (s : ByteArray) (q : Nat) (hs : s.size ≤ maxLen) (hq : q < s.size) : Calls Try.prog 25 #[.pointer (some ⟨w.heap.size + 1, 0, none⟩), .pointer (some ⟨w.heap.size, 0, none⟩)] ((w.alloc (.cells #[.string s] 9)).alloc (.cells #[.int .i64 q] 3)) fun e w' => e = .returned (.tuple #[.int .u8 (s[q]'hq).toNat, .bool true]) ∧ w' = (w.alloc (.cells #[.string s] 9)).alloc (.cells #[.int .i64 (q + 1)] 3) := by
  refine (closure_some s q _ _ _ hs hq (by simp [go_sem]) (by simp [go_sem]) (by simp [go_sem]) (by omega)).mono ?_
  rintro e w' ⟨rfl, rfl⟩
  refine ⟨rfl, ?_⟩
  simp [go_sem]

set_option maxHeartbeats 400000 in
theorem take_end (s : ByteArray) (w : World) :
    Calls Try.prog 13 #[.string s, .int .i64 s.size] w fun e w' => e = .returned (.tuple #[.int .u64 0, .int .i64 0, .int .i64 10]) ∧ Below w.heap.size w w' := by
  go_enter Try.func13, Try.ntmps13
  go_wp2_with fail
  refine (inTake_none w s _ rfl).mono ?_
  rintro e w' ⟨rfl, rfl⟩
  go_wp2
  go_ret3
  exact ⟨rfl, inTake_below w s _⟩

set_option maxHeartbeats 400000 in
theorem take_one (s : ByteArray) (p : Nat) (w : World) (hs : s.size ≤ maxLen) (hp : p < s.size) (hb : (s[p]'hp).toNat ≤ 247) :
    Calls Try.prog 13 #[.string s, .int .i64 p] w fun e w' => e = .returned (.tuple #[.int .u64 (s[p]'hp).toNat, .int .i64 (p + 1), .int .i64 0]) ∧ Below w.heap.size w w' := by
  have hs' := hs
  unfold maxLen at hs
  go_enter Try.func13, Try.ntmps13
  go_wp2_with fail
  refine (inTake_some w s p hs' hp).mono ?_
  rintro e w' ⟨rfl, rfl⟩
  go_wp2
  go_quiet (fail)
  go_wp2
  go_ret3
  exact ⟨rfl, below_drewN (inTake_below w s _) _⟩

theorem held_keep {w W w' : World} {s : ByteArray} {q : Int} (h : W.cell? ⟨w.heap.size + 1, 0, none⟩ = some (.int .i64 q) ∧ W.cell? ⟨w.heap.size, 0, none⟩ = some (.string s) ∧ w.heap.size + 2 ≤ W.heap.size ∧ Below w.heap.size w W) (hb : Below W.heap.size W w') :
    w'.cell? ⟨w.heap.size + 1, 0, none⟩ = some (.int .i64 q) ∧ w'.cell? ⟨w.heap.size, 0, none⟩ = some (.string s) ∧ w.heap.size + 2 ≤ w'.heap.size ∧ Below w.heap.size w w' := by
  obtain ⟨h1, h2, h3, h4⟩ := h
  exact ⟨(hb.cell (p := ⟨w.heap.size + 1, 0, none⟩) (by show w.heap.size + 1 < _; omega)).trans h1, (hb.cell (p := ⟨w.heap.size, 0, none⟩) (by show w.heap.size < _; omega)).trans h2, Nat.le_trans h3 hb.size, h4.trans (hb.mono (by omega))⟩

theorem held_drew {w W : World} {s : ByteArray} {q : Int} (h : W.cell? ⟨w.heap.size + 1, 0, none⟩ = some (.int .i64 q) ∧ W.cell? ⟨w.heap.size, 0, none⟩ = some (.string s) ∧ w.heap.size + 2 ≤ W.heap.size ∧ Below w.heap.size w W) :
    W.drew.cell? ⟨w.heap.size + 1, 0, none⟩ = some (.int .i64 q) ∧ W.drew.cell? ⟨w.heap.size, 0, none⟩ = some (.string s) ∧ w.heap.size + 2 ≤ W.drew.heap.size ∧ Below w.heap.size w W.drew :=
  ⟨h.1, h.2.1, h.2.2.1, h.2.2.2.drew⟩

theorem slice_mid (s : ByteArray) (p : Nat) (q : Int) (h1 : (p : Int) ≤ q) (h2 : q ≤ s.size) (W : World) :
    (Instr.slice 9 (.string s) (some (.int .i64 p)) (some (.int .i64 q)) none).run Try.prog W = .ok (.string ⟨((s.data.toList.drop p).take (q.toNat - p)).toArray⟩) W := by
  rw [run_slice_string (P := Try.prog) W 9 s .i64 .i64 p q Try.underlying9 (by omega) h1 h2]
  have := ByteArray.extract_mk s.data.toList p q.toNat
  rw [Int.toNat_natCast]
  exact congrArg (fun b => Result.ok (Value.string b) W) this

theorem fin_short (s : ByteArray) (p j : Nat) (hp : p < s.size) (hb : 247 < (s[p]'hp).toNat) (hj : j < (s[p]'hp).toNat - 247) (hpj : ¬ p + 1 + j < s.size) : Oct.takeNum s.data.toList p = (0, 0, 10) := by
  have hp' : p < s.data.toList.length := by rw [← Lib.size_eq]; exact hp
  have hbp : s.data.toList[p] = s[p] := rfl
  exact Oct.takeNum_short hp' (by rw [hbp]; exact hb) (by rw [hbp, ← Lib.size_eq]; omega)
theorem fin_form (s : ByteArray) (p j x : Nat) (piece : List UInt8) (hp : p < s.size) (hb : 247 < (s[p]'hp).toNat) (hj : j = (s[p]'hp).toNat - 247) (hpj : p + 1 + j ≤ s.size)
    (hx : x = Oct.val ((s.data.toList.drop (p + 1)).take j)) (hP : piece = (s.data.toList.drop p).take (((p : Int) + 1 + (j : Int)).toNat - p)) (hE : (Oct.num x == piece) = false) : Oct.takeNum s.data.toList p = (0, 0, 11) := by
  have hp' : p < s.data.toList.length := by rw [← Lib.size_eq]; exact hp
  have hbp : s.data.toList[p] = s[p] := rfl
  rw [show ((p : Int) + 1 + (j : Int)).toNat - p = j + 1 from by omega] at hP
  exact Oct.takeNum_form hp' (by rw [hbp]; exact hb) (by rw [hbp, ← Lib.size_eq]; omega) (by rw [hbp, ← hj, ← hx, ← hP]; simpa using hE)
theorem fin_ok (s : ByteArray) (p j x : Nat) (piece : List UInt8) (hp : p < s.size) (hb : 247 < (s[p]'hp).toNat) (hj : j = (s[p]'hp).toNat - 247) (hpj : p + 1 + j ≤ s.size)
    (hx : x = Oct.val ((s.data.toList.drop (p + 1)).take j)) (hP : piece = (s.data.toList.drop p).take (((p : Int) + 1 + (j : Int)).toNat - p)) (hE : (Oct.num x == piece) = true) : Oct.takeNum s.data.toList p = (x, p + 1 + j, 0) := by
  have hp' : p < s.data.toList.length := by rw [← Lib.size_eq]; exact hp
  have hbp : s.data.toList[p] = s[p] := rfl
  rw [show ((p : Int) + 1 + (j : Int)).toNat - p = j + 1 from by omega] at hP
  rw [Oct.takeNum_ok hp' (by rw [hbp]; exact hb) (by rw [hbp, ← Lib.size_eq]; omega) (by rw [hbp, ← hj, ← hx, ← hP]; simpa using hE), hbp, ← hj, ← hx]

theorem or_step (x : Nat) (b : UInt8) (h : x < 72057594037927936) : bits .or .u64 ((x : Int) * 256) (b.toNat : Int) = ((x * 256 + b.toNat : Nat) : Int) := by
  have hb := b.toNat_lt
  rw [show (x : Int) * 256 = ((x * 256 : Nat) : Int) from by omega, u64_or_nat _ _ (by omega) (by omega), nat_join 8 (x * 256) b.toNat (by omega) hb]

set_option maxRecDepth 100000 in
set_option maxHeartbeats 400000 in
theorem take_long (s : ByteArray) (p : Nat) (w : World) (hs : s.size ≤ maxLen) (hp : p < s.size) (hb : 247 < (s[p]'hp).toNat) :
    Calls Try.prog 13 #[.string s, .int .i64 p] w fun e w' => e = .returned (tri (Oct.takeNum s.data.toList p)) ∧ Below w.heap.size w w' := by
  have hs' := hs
  have hb8 := (s[p]'hp).toNat_lt
  unfold maxLen at hs
  go_enter Try.func13, Try.ntmps13
  go_wp2_with fail
  refine (inTake_some w s p hs' hp).mono ?_
  rintro e w' ⟨rfl, rfl⟩
  go_wp2_with fail
  go_loopw [11, 39] (fun n i wr => ∃ j x : Nat, i = .int .i64 j ∧ n = .int .u64 x ∧ j ≤ (s[p]'hp).toNat - 247 ∧ p + 1 + j ≤ s.size ∧ Hid (x = Oct.val ((s.data.toList.drop (p + 1)).take j)) ∧ wr = (w.alloc (.cells #[.string s] 9)).alloc (.cells #[.int .i64 (p + 1 + j : Nat)] 3))
    (fun _ i _ => 8 - (intOf i).toNat)
  case atStart => exact ⟨0, 0, rfl, rfl, by omega, by omega, Lib.hid (by simp [Oct.val]), rfl⟩
  case round =>
    obtain ⟨j, x, rfl, rfl, hj, hpj, HX, rfl⟩ := hrel
    by_cases hjk : j < (s[p]'hp).toNat - 247
    · have hx7 : x < 72057594037927936 := by
        rw [HX.out]
        exact Nat.lt_of_lt_of_le (Oct.val_take_lt _ j) (Nat.pow_le_pow_right (n := 256) (j := 7) (by omega) (by omega))
      by_cases hin : p + 1 + j < s.size
      · have hb9 := (s[p + 1 + j]'hin).toNat_lt
        have HO := Lib.hid (or_step x (s[p + 1 + j]'hin) hx7)
        have HN : Hid (x * 256 + (s[p + 1 + j]'hin).toNat = Oct.val ((s.data.toList.drop (p + 1)).take (j + 1))) := Lib.hid (by
          have hl : j < (s.data.toList.drop (p + 1)).length := by rw [List.length_drop, ← Lib.size_eq]; omega
          rw [HX.out, Oct.val_take_succ _ _ hl, List.getElem_drop]
          rfl)
        go_wp2_with fail
        refine (inTake_some w s (p + 1 + j) hs' hin).mono ?_
        rintro e w' ⟨rfl, rfl⟩
        go_wp2_with fail
        go_roundw
        case rel =>
          rw [HO.out]
          exact ⟨j + 1, _, by go_num, rfl, by omega, by omega, HN, by congr⟩
        case measure => simp [intOf]; omega
      · go_wp2_with fail
        refine (inTake_none w s _ (by omega)).mono ?_
        rintro e w' ⟨rfl, rfl⟩
        go_wp2
        go_ret3
        refine ⟨?_, inTake_below w s _⟩
        rw [tri_eq (fin_short s p j hp hb hjk hin)]
        rfl
    · have hx8 : x < 18446744073709551616 := by
        rw [HX.out]
        exact Nat.lt_of_lt_of_le (Oct.val_take_lt _ j) (Nat.pow_le_pow_right (n := 256) (j := 8) (by omega) (by omega))
      have hsl := fun W => slice_mid s p (↑p + 1 + ↑j) (by omega) (by omega) W
      obtain ⟨piece, hpiece⟩ : ∃ piece, piece = (s.data.toList.drop p).take (((p : Int) + 1 + (j : Int)).toNat - p) := ⟨_, rfl⟩
      rw [← hpiece] at hsl
      have HP := Lib.hid hpiece
      clear hpiece
      cases hE : Oct.num x == piece
      all_goals
        go_wp2_with fail
        generalize hW : (w.alloc (Obj.cells #[Value.string s] 9)).alloc (Obj.cells #[Value.int IntKind.i64 (↑p + 1 + ↑j)] 3) = W0
        have hS : W0.cell? ⟨w.heap.size + 1, 0, none⟩ = some (.int .i64 (↑p + 1 + ↑j)) ∧ W0.cell? ⟨w.heap.size, 0, none⟩ = some (.string s) ∧ w.heap.size + 2 ≤ W0.heap.size ∧ Below w.heap.size w W0 := by
          rw [← hW]
          exact ⟨by simp [go_sem], by simp [go_sem], by simp, inTake_below w s _⟩
        clear hW
        go_region_held3 (fun w' => w'.cell? ⟨w.heap.size + 1, 0, none⟩ = some (.int .i64 (↑p + 1 + ↑j)) ∧ w'.cell? ⟨w.heap.size, 0, none⟩ = some (.string s) ∧ w.heap.size + 2 ≤ w'.heap.size ∧ Below w.heap.size w w') (first | exact held_drew hS | exact held_keep (by assumption) (by assumption))
          (first | (go_at_call 10; refine (number _ _ (by omega)).mono ?_; rintro e w' ⟨rfl, hbel⟩))
        go_wp2_with fail
      · go_ret3
        have hH : w'.cell? ⟨w.heap.size + 1, 0, none⟩ = some (.int .i64 (↑p + 1 + ↑j)) ∧ w'.cell? ⟨w.heap.size, 0, none⟩ = some (.string s) ∧ w.heap.size + 2 ≤ w'.heap.size ∧ Below w.heap.size w w' := by assumption
        refine ⟨?_, hH.2.2.2⟩
        rw [tri_eq (fin_form s p j x piece hp hb (by omega) hpj HX.out HP.out hE)]
        rfl
      · have hH : w'.cell? ⟨w.heap.size + 1, 0, none⟩ = some (.int .i64 (↑p + 1 + ↑j)) ∧ w'.cell? ⟨w.heap.size, 0, none⟩ = some (.string s) ∧ w.heap.size + 2 ≤ w'.heap.size ∧ Below w.heap.size w w' := by assumption
        go_quiet (fail)
        go_wp2
        go_ret3
        refine ⟨?_, below_drewN hH.2.2.2 _⟩
        rw [tri_eq (fin_ok s p j x piece hp hb (by omega) hpj HX.out HP.out hE)]
        rfl

/-- TakeNumber, at whatever place of whatever text. -/
theorem take (s : ByteArray) (p : Int) (w : World) (hs : s.size ≤ maxLen) :
    Calls Try.prog 13 #[.string s, .int .i64 p] w fun e w' => e = .returned (tri (Oct.takeNum s.data.toList p)) ∧ Below w.heap.size w w' := by
  have hz := Lib.size_eq s
  by_cases h0 : p < 0
  · exact (take_low s p w h0).mono fun e w' ⟨he, hb⟩ => ⟨by rw [he, tri_eq (Oct.takeNum_low h0)]; rfl, hb⟩
  · by_cases h1 : (s.size : Int) < p
    · exact (take_high s p w hs h1).mono fun e w' ⟨he, hb⟩ => ⟨by rw [he, tri_eq (Oct.takeNum_high (by rw [← hz]; exact h1))]; rfl, hb⟩
    · obtain ⟨q, rfl⟩ := Int.eq_ofNat_of_zero_le (show 0 ≤ p by omega)
      by_cases h2 : q < s.size
      · by_cases h3 : (s[q]'h2).toNat ≤ 247
        · exact (take_one s q w hs h2 h3).mono fun e w' ⟨he, hb⟩ => ⟨by rw [he, tri_eq (Oct.takeNum_one (p := q) (by rw [← hz]; exact h2) h3)]; rfl, hb⟩
        · exact take_long s q w hs h2 (by omega)
      · have h4 : q = s.size := by omega
        subst h4
        refine (take_end s w).mono fun e w' ⟨he, hb⟩ => ⟨?_, hb⟩
        have := Oct.takeNum_end s.data.toList
        rw [← hz] at this
        rw [he, tri_eq this]
        rfl
end Go.Proofs.Ytjaephhnaocpcaa
