/- The walk of LexScans. -/
import Derived.Test.YtebphmkefpaeaaaGreatDoorLexAwake
namespace Go.Proofs.YtebphmkefpaeaaaGreatDoor
open Go.RowKit
set_option linter.unusedVariables false

set_option maxRecDepth 100000 in
set_option maxHeartbeats 4000000 in
theorem scans_gen (s : List UInt8) (hs : s.length ≤ 140737488351232) (l : List Tk) (a b : Int) (hl : l.length ≤ 1000000) (w : World) (hg : Globs w)
    (hO : ∀ w, Globs w → Calls Tryz.prog 19 #[.string ⟨s.toArray⟩] w fun e w' => ∃ A cap, e = .returned (.tuple #[.slice A l.length cap, .agg #[.int .i64 a, .int .i64 b]]) ∧ Tks w' w'.heap.size A l ∧ Below w.heap.size w w')
    (hR : ∀ w, Calls Tryz.prog 20 #[.string ⟨s.toArray⟩] w fun e w' => ∃ A cap, e = .returned (.tuple #[.slice A l.length cap, .agg #[.int .i64 a, .int .i64 b]]) ∧ Tks w' w'.heap.size A l ∧ Below w.heap.size w w') :
    Calls Tryz.prog 4 #[.string ⟨s.toArray⟩] w fun e w' => e = .returned (.bool true) ∧ Below w.heap.size w w' := by
  have HG := Lib.hid hg
  have HO := Lib.hid hO
  have HRR := Lib.hid hR
  have haa : (a == a) = true := by simp
  have hbb : (b == b) = true := by simp
  clear hg hO hR
  go_enter Tryz.func4, Tryz.ntmps4
  go_wp2_with fail
  refine (HO.out _ HG.out).mono ?_
  rintro e w1 ⟨A, cap, rfl, hT1, hb1⟩
  have hbf := below_one w1 (.cells #[.int .i64 a, .int .i64 b] 27)
  have HF1 := Lib.hid (box2_new w1 a b)
  have HT1 := Lib.hid (hT1.next hbf)
  have HB1 := Lib.hid (below_next hb1 hbf)
  clear hT1 hb1 hbf
  go_wp2_with fail
  generalize hW : w1.alloc (.cells #[.int .i64 a, .int .i64 b] 27) = W1 at HF1 HT1 HB1 ⊢
  clear hW
  refine (HRR.out _).mono ?_
  rintro e w2 ⟨A2, cap2, rfl, hT2, hb2⟩
  have hbf := below_one w2 (.cells #[.int .i64 a, .int .i64 b] 27)
  have hb2' := below_next hb2 hbf
  have HF2 := Lib.hid (box2_new w2 a b)
  have HF12 := Lib.hid (HF1.out.keep (B := W1.heap.size) HF1.out.1 hb2')
  have HT12 := Lib.hid (HT1.out.next hb2')
  have HT2 := Lib.hid (hT2.next hbf)
  have HB2 := Lib.hid (below_next HB1.out hb2')
  clear hT2 hb2 hb2' hbf HF1 HT1
  go_wp2_with fail
  generalize hW : w2.alloc (.cells #[.int .i64 a, .int .i64 b] 27) = W2 at HF2 HF12 HT12 HT2 HB2 ⊢
  clear hW
  refine (tsame_walk A A2 cap cap2 l l true _ HT12.out HT2.out (by omega)).mono ?_
  rintro e w5 ⟨rfl, hb5⟩
  rw [sameT_refl]
  have HB5 := Lib.hid (below_next HB2.out hb5)
  obtain ⟨q0, x0, x1, _, _⟩ := HF12.out.keep (B := W2.heap.size) HF12.out.1 hb5
  obtain ⟨q2, x2, x3, _, _⟩ := HF2.out.keep (B := W2.heap.size) HF2.out.1 hb5
  clear hb5
  go_wp2_with fail
  refine (awake_walk _ (HG.out.next HB5.out)).mono ?_
  rintro e w6 ⟨rfl, hb6⟩
  go_wp2
  go_ret
  exact ⟨rfl, below_next HB5.out hb6⟩

theorem scanR_len {s : List UInt8} {m : List (Lex.Tok × Nat)} (h : Lex.scanR s = .ok m) : s.length ≤ 4096 ∧ m.length ≤ 4097 := by
  by_cases h4 : 4096 < s.length
  · rw [scanR_long h4] at h; cases h
  · refine ⟨by omega, ?_⟩
    rw [scanR_toks (by omega)] at h
    cases ht : Lex.toks s 0 with
    | error x => rw [ht] at h; cases h
    | ok l =>
      rw [ht] at h
      obtain rfl := Except.ok.inj h
      have := Lex.toks_count s.length s 0 l (Nat.le_refl _) ht
      rw [List.length_append]; simp; omega

theorem scans_walk (s : List UInt8) (hs : s.length ≤ 140737488351232) (w : World) (hg : Globs w) :
    Calls Tryz.prog 4 #[.string ⟨s.toArray⟩] w fun e w' => e = .returned (.bool true) ∧ Below w.heap.size w w' := by
  cases hq : Lex.scanR s with
  | error x =>
    obtain ⟨x, k⟩ := x
    refine scans_gen s hs [] x k (by decide) w hg (fun w hg => (oscanL_walk s (by omega) w hg).mono fun e w' h => ?_) (fun w => (rscanL_walk s (by omega) w).mono fun e w' h => ?_)
    · obtain ⟨A, cap, he, hb⟩ := scanV_err h hq
      exact ⟨A, cap, he, Or.inl rfl, hb⟩
    · obtain ⟨A, cap, he, hb⟩ := scanV_err h hq
      exact ⟨A, cap, he, Or.inl rfl, hb⟩
  | ok m =>
    have hm := (scanR_len hq).2
    refine scans_gen s hs (tkOf m) 0 0 (by rw [tkOf_len]; omega) w hg (fun w hg => (oscanL_walk s (by omega) w hg).mono fun e w' h => ?_) (fun w => (rscanL_walk s (by omega) w).mono fun e w' h => ?_)
    · obtain ⟨A, cap, he, ht, _, hb⟩ := scanV_ok h hq
      exact ⟨A, cap, he, ht, hb⟩
    · obtain ⟨A, cap, he, ht, _, hb⟩ := scanV_ok h hq
      exact ⟨A, cap, he, ht, hb⟩

theorem lexScans_walk (s : ByteArray) (hs : s.size ≤ 140737488351232) (w : World) (hg : Globs w) :
    Calls Tryz.prog 4 #[.string s] w fun e w' => e = .returned (.bool true) ∧ Below w.heap.size w w' := by
  have h := scans_walk s.data.toList (by rw [← Lib.size_eq]; exact hs) w hg
  rw [← tx_of s] at h
  exact h
end Go.Proofs.YtebphmkefpaeaaaGreatDoor
