/- The document's TakeNumber tells what stands at a place: Oct.takeNum. -/
import Derived.Test.YtjaephhnaocpcaaOctTake
import Derived.IntWalk
namespace Go.Proofs.Ytjaephhnaocpcaa
open Go.RowKit

set_option maxHeartbeats 400000 in
theorem rtake_low (s : ByteArray) (p : Int) (w : World) (h : p < 0) :
    Calls Try.prog 14 #[.string s, .int .i64 p] w fun e w' => e = .returned (tri (0, 0, 2)) ∧ Below w.heap.size w w' := by
  go_enter Try.func14, Try.ntmps14
  go_wp2
  go_ret3
  exact ⟨rfl, Below.refl _ _⟩

set_option maxHeartbeats 400000 in
theorem rtake_high (s : ByteArray) (p : Int) (w : World) (hs : s.size ≤ maxLen) (h : (s.size : Int) < p) :
    Calls Try.prog 14 #[.string s, .int .i64 p] w fun e w' => e = .returned (tri (0, 0, 2)) ∧ Below w.heap.size w w' := by
  unfold maxLen at hs
  go_enter Try.func14, Try.ntmps14
  go_wp2
  go_ret3
  exact ⟨rfl, Below.refl _ _⟩

set_option maxHeartbeats 400000 in
theorem rtake_end (s : ByteArray) (w : World) :
    Calls Try.prog 14 #[.string s, .int .i64 s.size] w fun e w' => e = .returned (tri (0, 0, 10)) ∧ Below w.heap.size w w' := by
  go_enter Try.func14, Try.ntmps14
  go_wp2
  go_ret3
  exact ⟨rfl, Below.refl _ _⟩

theorem slice_from (s : ByteArray) (p : Nat) (h : p ≤ s.size) (W : World) :
    (Instr.slice 9 (.string s) (some (.int .i64 p)) none none).run Try.prog W = .ok (.string ⟨(s.data.toList.drop p).toArray⟩) W := by
  rw [run_slice_string_from_if (P := Try.prog) W 9 s .i64 p Try.underlying9, if_pos ⟨by omega, by omega⟩]
  have := ByteArray.extract_mk s.data.toList p s.size
  rw [Int.toNat_natCast]
  refine congrArg (fun b => Result.ok (Value.string b) W) (this.trans ?_)
  rw [List.take_of_length_le (by rw [List.length_drop, ← Lib.size_eq]; omega)]

theorem slice_to (s : ByteArray) (q : Int) (h0 : 0 ≤ q) (h : q ≤ s.size) (W : World) :
    (Instr.slice 9 (.string s) none (some (.int .i64 q)) none).run Try.prog W = .ok (.string ⟨(s.data.toList.take q.toNat).toArray⟩) W := by
  rw [run_slice_string_to_if (P := Try.prog) W 9 s .i64 q Try.underlying9, if_pos ⟨by omega, by omega⟩]
  have := ByteArray.extract_mk s.data.toList 0 q.toNat
  exact congrArg (fun b => Result.ok (Value.string b) W) this

theorem size_list (l : List UInt8) : (⟨l.toArray⟩ : ByteArray).size = l.length := by simp [ByteArray.size]

/-- What the document's TakeNumber looks at: the rest of the text from a place on. -/
theorem rest_of (s : ByteArray) (p : Nat) (hp : p < s.size) : ∃ r : ByteArray, (∀ W : World, (Instr.slice 9 (.string s) (some (.int .i64 p)) none none).run Try.prog W = .ok (.string r) W) ∧
    r.data.toList = s.data.toList.drop p ∧ r.size + p = s.size ∧ 0 < r.size ∧ r.toList.isEmpty = false ∧ ∀ (i : Nat) (h : i < r.size) (h' : p + i < s.size), r[i]'h = s[p + i]'h' := by
  refine ⟨⟨(s.data.toList.drop p).toArray⟩, fun W => slice_from s p (by omega) W, rfl, ?_, ?_, ?_, ?_⟩
  · rw [size_list, List.length_drop, ← Lib.size_eq]; omega
  · rw [size_list, List.length_drop, ← Lib.size_eq]; omega
  · rw [ByteArray.toList_mk, List.isEmpty_eq_false_iff]
    intro h
    have := congrArg List.length h
    rw [List.length_drop, ← Lib.size_eq] at this
    simp at this
    omega
  · intro i h h'
    show (s.data.toList.drop p).toArray[i] = s.data[p + i]
    simp

set_option maxHeartbeats 400000 in
theorem rtake_one (s : ByteArray) (p : Nat) (w : World) (hs : s.size ≤ maxLen) (hp : p < s.size) (hb : (s[p]'hp).toNat ≤ 247) :
    Calls Try.prog 14 #[.string s, .int .i64 p] w fun e w' => e = .returned (tri ((s[p]'hp).toNat, p + 1, 0)) ∧ Below w.heap.size w w' := by
  unfold maxLen at hs
  obtain ⟨r, hsl, hd, hz, hz0, he, hg⟩ := rest_of s p hp
  have hg0 : r[0]'hz0 = s[p]'hp := hg 0 hz0 hp
  rw [← hg0] at hb ⊢
  clear hd hg hg0
  go_enter Try.func14, Try.ntmps14
  go_wp2
  go_ret3
  exact ⟨rfl, Below.refl _ _⟩

theorem next_val (s r : ByteArray) (p j x : Nat) (hg : ∀ (i : Nat) (h : i < r.size) (h' : p + i < s.size), r[i]'h = s[p + i]'h') (hi : j + 1 < r.size) (hz : r.size + p = s.size) (hx : x = Oct.val ((s.data.toList.drop (p + 1)).take j)) :
    x * 256 + (r[j + 1]'hi).toNat = Oct.val ((s.data.toList.drop (p + 1)).take (j + 1)) := by
  have hl : j < (s.data.toList.drop (p + 1)).length := by rw [List.length_drop, ← Lib.size_eq]; omega
  rw [hx, Oct.val_take_succ _ _ hl, List.getElem_drop, hg (j + 1) hi (by omega)]
  have e : s[p + (j + 1)]'(by omega) = s.data.toList[p + 1 + j]'(by rw [← Lib.size_eq]; omega) := by
    show s.data.toList[p + (j + 1)]'_ = _
    congr 1
    omega
  rw [e]

theorem piece_eq (s r : ByteArray) (p j q : Nat) (hd : r.data.toList = s.data.toList.drop p) (hq : q = ((p : Int) + 1 + (j : Int)).toNat - p) : (r.extract 0 q).toList = (s.data.toList.drop p).take (((p : Int) + 1 + (j : Int)).toNat - p) := by
  rw [← hq, ← hd]
  have := ByteArray.extract_mk r.data.toList 0 q
  rw [ByteArray.toList_eq]
  exact congrArg (fun b : ByteArray => b.data.toList) this

set_option maxRecDepth 100000 in
set_option maxHeartbeats 400000 in
theorem rtake_long (s : ByteArray) (p : Nat) (w : World) (hs : s.size ≤ maxLen) (hp : p < s.size) (hb : 247 < (s[p]'hp).toNat) :
    Calls Try.prog 14 #[.string s, .int .i64 p] w fun e w' => e = .returned (tri (Oct.takeNum s.data.toList p)) ∧ Below w.heap.size w w' := by
  unfold maxLen at hs
  have hb8 := (s[p]'hp).toNat_lt
  obtain ⟨r, hsl, hd, hz, hz0, he, hg⟩ := rest_of s p hp
  have hg0 : r[0]'hz0 = s[p]'hp := hg 0 hz0 hp
  have hb' := hb
  have HB := Lib.hid hb'
  clear hb'
  have HG0 := Lib.hid hg0
  rw [← hg0] at hb hb8
  clear hg0
  have HG := Lib.hid hg
  have HD := Lib.hid hd
  clear hg hd
  by_cases hin : r.size < (r[0]'hz0).toNat - 247 + 1
  · go_enter Try.func14, Try.ntmps14
    go_wp2
    go_ret3
    refine ⟨?_, Below.refl _ _⟩
    have hf := fin_short s p (r.size - 1) hp HB.out (by rw [← HG0.out]; omega) (by omega)
    rw [tri_eq hf]
    rfl
  · have hq0 : (0 : Int) ≤ ((r[0]'hz0).toNat : Int) - 247 + 1 := by omega
    have hq1 : ((r[0]'hz0).toNat : Int) - 247 + 1 ≤ (r.size : Int) := by omega
    have hdp : decide (s.size < p) = false := by simp; omega
    go_enter Try.func14, Try.ntmps14
    go_wp2_with fail
    go_loop [8, 9] (fun n i => ∃ j x : Nat, i = .int .i64 (j + 1 : Nat) ∧ n = .int .u64 x ∧ j ≤ (r[0]'hz0).toNat - 247 ∧ Hid (x = Oct.val ((s.data.toList.drop (p + 1)).take j)))
      (fun _ i => 9 - (intOf i).toNat)
    case atStart => exact ⟨0, 0, rfl, rfl, by omega, Lib.hid (by simp [Oct.val])⟩
    case round =>
      obtain ⟨j, x, rfl, rfl, hj, HX⟩ := hrel
      by_cases hjk : j < (r[0]'hz0).toNat - 247
      · have hx7 : x < 72057594037927936 := by
          rw [HX.out]
          exact Nat.lt_of_lt_of_le (Oct.val_take_lt _ j) (Nat.pow_le_pow_right (n := 256) (j := 7) (by omega) (by omega))
        have hi1 : j + 1 < r.size := by omega
        have hb9 := (r[j + 1]'hi1).toNat_lt
        have HN := Lib.hid (next_val s r p j x HG.out hi1 hz HX.out)
        go_wp2_with fail
        go_round
        case rel => exact ⟨j + 1, x * 256 + (r[j + 1]'hi1).toNat, by go_num, by go_num, by omega, HN⟩
        case measure => simp [intOf]; omega
      · have hx8 : x < 18446744073709551616 := by
          rw [HX.out]
          exact Nat.lt_of_lt_of_le (Oct.val_take_lt _ j) (Nat.pow_le_pow_right (n := 256) (j := 8) (by omega) (by omega))
        go_wp2_with fail
        have hwr : IntKind.i64.wrap (((r[0]'hz0).toNat : Int) - 247 + 1) = ((r[0]'hz0).toNat : Int) - 247 + 1 := IntWalk.i64_in _ (by omega)
        go_region_held3 (fun w' => Below w.heap.size w w') (first | exact (Below.refl _ _).drew | exact (Below.refl _ _).drew.trans (by assumption))
            (first | (go_at_call 11; refine (rnumber _ _ hx8).mono ?_; rintro e w' ⟨rfl, hbel⟩))
        clear hwr
        go_wp2_with fail
        · have hE : (!Oct.num x == (r.extract 0 (((r[0]'hz0).toNat : Int) - 247 + 1).toNat).toList) = true := by assumption
          have hb2 : Below w.heap.size w w' := by assumption
          go_ret3
          refine ⟨?_, hb2⟩
          have hf := fin_form s p j x _ hp HB.out (by rw [← HG0.out]; omega) (by omega) HX.out (piece_eq s r p j (((r[0]'hz0).toNat : Int) - 247 + 1).toNat HD.out (by omega)) (by simpa using hE)
          rw [tri_eq hf]
          rfl
        · have hE : (!Oct.num x == (r.extract 0 (((r[0]'hz0).toNat : Int) - 247 + 1).toNat).toList) = false := by assumption
          have hb2 : Below w.heap.size w w' := by assumption
          go_ret3
          refine ⟨?_, hb2⟩
          have hf := fin_ok s p j x _ hp HB.out (by rw [← HG0.out]; omega) (by omega) HX.out (piece_eq s r p j (((r[0]'hz0).toNat : Int) - 247 + 1).toNat HD.out (by omega)) (by simpa using hE)
          rw [tri_eq hf]
          refine congrArg (fun n : Int => Ending.returned (.tuple #[.int .u64 x, .int .i64 n, .int .i64 0])) ?_
          show _ = ((p + 1 + j : Nat) : Int)
          omega

/-- The document's TakeNumber, at whatever place of whatever text. -/
theorem rtake (s : ByteArray) (p : Int) (w : World) (hs : s.size ≤ maxLen) :
    Calls Try.prog 14 #[.string s, .int .i64 p] w fun e w' => e = .returned (tri (Oct.takeNum s.data.toList p)) ∧ Below w.heap.size w w' := by
  have hz := Lib.size_eq s
  by_cases h0 : p < 0
  · exact (rtake_low s p w h0).mono fun e w' ⟨he, hb⟩ => ⟨by rw [he, tri_eq (Oct.takeNum_low h0)], hb⟩
  · by_cases h1 : (s.size : Int) < p
    · exact (rtake_high s p w hs h1).mono fun e w' ⟨he, hb⟩ => ⟨by rw [he, tri_eq (Oct.takeNum_high (by rw [← hz]; exact h1))], hb⟩
    · obtain ⟨q, rfl⟩ := Int.eq_ofNat_of_zero_le (show 0 ≤ p by omega)
      by_cases h2 : q < s.size
      · by_cases h3 : (s[q]'h2).toNat ≤ 247
        · exact (rtake_one s q w hs h2 h3).mono fun e w' ⟨he, hb⟩ => ⟨by rw [he, tri_eq (Oct.takeNum_one (p := q) (by rw [← hz]; exact h2) h3)]; rfl, hb⟩
        · exact rtake_long s q w hs h2 (by omega)
      · have h4 : q = s.size := by omega
        subst h4
        refine (rtake_end s w).mono fun e w' ⟨he, hb⟩ => ⟨?_, hb⟩
        have := Oct.takeNum_end s.data.toList
        rw [← hz] at this
        rw [he, tri_eq this]
end Go.Proofs.Ytjaephhnaocpcaa
