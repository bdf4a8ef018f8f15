/- The walk of LexPlaces. -/
import Derived.Test.YtebphmkefpaeaaaGreatDoorLexScansW
namespace Lex
/-- From a token on, each stands where it says. -/
theorem placed_last {s : List UInt8} : ∀ {l : List (Tok × Nat)} {a : Nat}, Placed s a l → a ≤ s.length
  | [], _, h => h
  | (t, p) :: r, a, h => by obtain ⟨h1, h2, _⟩ := h; omega

theorem scanR_placed {s : List UInt8} {m : List (Tok × Nat)} (h : scanR s = .ok m) : ∃ l, m = l ++ [(endTok, s.length)] ∧ Placed s 0 l := by
  unfold scanR at h
  split at h
  · cases h
  · cases ht : toks s 0 with
    | error x => rw [ht] at h; cases h
    | ok l =>
      rw [ht] at h
      obtain rfl := Except.ok.inj h
      refine ⟨l, rfl, ?_⟩
      have := toks_placed s s.length 0 l (by omega) (Nat.zero_le _) (by rw [List.drop_zero]; exact ht)
      exact this
/-- Each stands where it says, the end too. -/
def PlacedE (s : List UInt8) : Nat → List (Tok × Nat) → Prop
  | _, [] => True
  | a, (t, p) :: r => a ≤ p ∧ p ≤ s.length ∧ ((t.kind == 0) = r.isEmpty) ∧ ((t.kind = 4 ∧ PlacedE s (p + 2) r) ∨ (t.kind ≠ 4 ∧ p + t.text.length ≤ s.length ∧ (s.drop p).take t.text.length = t.text ∧ PlacedE s (p + t.text.length) r))

theorem placedE_of {s : List UInt8} : ∀ (l : List (Tok × Nat)) (a : Nat), Placed s a l → PlacedE s a (l ++ [(endTok, s.length)])
  | [], a, h => ⟨h, Nat.le_refl _, rfl, Or.inr ⟨by decide, by simp [endTok], by simp [endTok], trivial⟩⟩
  | (t, p) :: r, a, h => by
    obtain ⟨h1, h2, h3, h4, h5, h6⟩ := h
    refine ⟨h1, h2, ?_, ?_⟩
    · have e1 : (t.kind == 0) = false := by rw [beq_eq_false_iff_ne]; omega
      rw [e1]; cases r <;> rfl
    · by_cases hk : t.kind = 4
      · exact Or.inl ⟨hk, placedE_of r _ (h5 hk)⟩
      · obtain ⟨g1, g2, g3⟩ := h6 hk
        exact Or.inr ⟨hk, g1, g2, placedE_of r _ g3⟩

theorem placedE_last {s : List UInt8} {m : List (Tok × Nat)} (h : scanR s = .ok m) : ∃ (h0 : 0 < m.length), (m[m.length - 1]'(by omega)).2 = s.length ∧ PlacedE s 0 m := by
  obtain ⟨l, rfl, hp⟩ := scanR_placed h
  refine ⟨by simp, by simp, placedE_of l 0 hp⟩

theorem placedE_at {s : List UInt8} {m : List (Tok × Nat)} {a j : Nat} (h : PlacedE s a (m.drop j)) (hj : j < m.length) :
    a ≤ (m[j]'hj).2 ∧ (m[j]'hj).2 ≤ s.length ∧ (((m[j]'hj).1.kind == 0) = decide (j + 1 = m.length)) ∧ (((m[j]'hj).1.kind = 4 ∧ PlacedE s ((m[j]'hj).2 + 2) (m.drop (j + 1))) ∨ ((m[j]'hj).1.kind ≠ 4 ∧ (m[j]'hj).2 + (m[j]'hj).1.text.length ≤ s.length ∧ (s.drop (m[j]'hj).2).take (m[j]'hj).1.text.length = (m[j]'hj).1.text ∧ PlacedE s ((m[j]'hj).2 + (m[j]'hj).1.text.length) (m.drop (j + 1)))) := by
  rw [List.drop_eq_getElem_cons hj] at h
  obtain ⟨h1, h2, h3, h4⟩ := h
  refine ⟨h1, h2, Eq.trans h3 ?_, h4⟩
  by_cases he : j + 1 = m.length
  · rw [decide_eq_true he, List.drop_eq_nil_of_le (by omega)]; rfl
  · rw [decide_eq_false he]
    cases hd : m.drop (j + 1) with
    | nil => have := congrArg List.length hd; rw [List.length_drop] at this; simp at this; omega
    | cons x r => rfl
end Lex
namespace Go.Proofs.YtebphmkefpaeaaaGreatDoor
open Go.RowKit
set_option linter.unusedVariables false

set_option maxRecDepth 100000 in
set_option maxHeartbeats 4000000 in
theorem places_err (s : List UInt8) (hs : s.length ≤ 140737488351232) (x : Int) (k : Nat) (hq : Lex.scanR s = .error (x, k)) (hk : k ≤ s.length) (w : World) (hg : Globs w) :
    Calls Tryz.prog 9 #[.string ⟨s.toArray⟩] w fun e w' => e = .returned (.bool true) ∧ Below w.heap.size w w' := by
  have HG := Lib.hid hg
  have HQ := Lib.hid hq
  have hx0 := Lex.scanR_err hq
  have hxn : (x != 0) = true := by simpa using hx0
  have hki : (k : Int) ≤ (s.length : Int) := by omega
  have hz : (⟨s.toArray⟩ : ByteArray).size = s.length := size_list _
  clear hg hq hx0
  go_enter Tryz.func9, Tryz.ntmps9
  go_wp2_with fail
  refine (oscanL_walk s (by omega) _ HG.out).mono ?_
  rintro e w3 h3
  obtain ⟨A3, cap3, rfl, hb3⟩ := scanV_err h3 HQ.out
  have HB3 := Lib.hid (below_next hb3 (below_one w3 (.cells #[.int .i64 x, .int .i64 (k : Int)] 27)))
  clear h3 hb3
  go_wp2_with fail
  refine (awake_walk _ (HG.out.next HB3.out)).mono ?_
  rintro e w4 ⟨rfl, hb4⟩
  go_wp2
  go_ret
  exact ⟨rfl, below_next HB3.out hb4⟩

theorem tk_at {m : List (Lex.Tok × Nat)} {j : Nat} (h : j < m.length) : (tkOf m)[j]'(by rw [tkOf_len]; exact h) = ⟨(m[j]'h).1, ((m[j]'h).2 : Int)⟩ := by simp [tkOf]

set_option maxRecDepth 100000 in
set_option maxHeartbeats 16000000 in
theorem places_ok (s : List UInt8) (m : List (Lex.Tok × Nat)) (hq : Lex.scanR s = .ok m) (w : World) (hg : Globs w) :
    Calls Tryz.prog 9 #[.string ⟨s.toArray⟩] w fun e w' => e = .returned (.bool true) ∧ Below w.heap.size w w' := by
  obtain ⟨hs, hml⟩ := scanR_len hq
  obtain ⟨hpos, hlast, hpl⟩ := Lex.placedE_last hq
  have HG := Lib.hid hg
  have HQ := Lib.hid hq
  have hz : (⟨s.toArray⟩ : ByteArray).size = s.length := size_list _
  have hN : (tkOf m).length = m.length := tkOf_len m
  have HL := Lib.hid hlast
  have HP := Lib.hid hpl
  clear hg hq hlast hpl
  go_enter Tryz.func9, Tryz.ntmps9
  go_wp2_with fail
  refine (oscanL_walk s (by omega) _ HG.out).mono ?_
  rintro e w3 h3
  obtain ⟨A, cap, rfl, hT, _, hb3⟩ := scanV_ok h3 HQ.out
  have hbf := below_one w3 (.cells #[.int .i64 0, .int .i64 0] 27)
  have HB3 := Lib.hid (below_next hb3 hbf)
  have HT := Lib.hid (hT.next hbf)
  clear h3 hb3 hT hbf
  rw [hN]
  go_wp2_with fail
  generalize hW : w3.alloc (.cells #[.int .i64 0, .int .i64 0] 27) = W3 at HB3 HT ⊢
  clear hW
  go_loopw [5, 6] (fun aa ii wr => ∃ a j : Nat, aa = .int .i64 (a : Int) ∧ ii = .int .i64 (j : Int) ∧ j ≤ m.length ∧ Hid (Lex.PlacedE s a (m.drop j)) ∧ Hid (Below W3.heap.size W3 wr))
    (fun _ ii _ => m.length - (intOf ii).toNat)
  case atStart => exact ⟨0, 0, rfl, rfl, Nat.zero_le _, HP, Lib.hid (Below.refl _ _)⟩
  case round =>
    obtain ⟨a, j, rfl, rfl, hj, HPL, HB⟩ := hrel
    have hTr := HT.out.keep HB.out (Nat.le_refl _)
    by_cases hlt : j < m.length
    · have hi1 : (j : Int) < (m.length : Int) := by omega
      rcases hTr with h0 | ⟨g, off, rfl, hgw, hc⟩
      · omega
      · have hcx := hc j (by omega)
        rw [tk_at hlt] at hcx
        obtain ⟨p0, p1, p2⟩ := hcx
        obtain ⟨h1, h2, h3, h4⟩ := Lex.placedE_at HPL.out hlt
        obtain ⟨⟨⟨tk, tt⟩, p⟩, hx⟩ : ∃ x, x = m[j]'hlt := ⟨_, rfl⟩
        rw [← hx] at p0 p1 p2 h1 h2 h3 h4
        simp only at p0 p1 p2 h1 h2 h3 h4
        have htz : (⟨tt.toArray⟩ : ByteArray).size = tt.length := size_list _
        have c1 : ¬ (p : Int) < (a : Int) := by omega
        have c1b : decide ((p : Int) < (a : Int)) = false := decide_eq_false c1
        have c1c : decide (p < a) = false := decide_eq_false (by omega)
        have c2 : ¬ (s.length : Int) < (p : Int) := by omega
        have hbn := below_new HB.out (.cells #[.int .i64 tk, .string ⟨tt.toArray⟩, .int .i64 (p : Int)] 32)
        have HBN := Lib.hid hbn
        clear hc hx hbn
        have hje : ((j : Int) == (m.length : Int) - 1) = (tk == 0) := by
          rw [h3, Bool.eq_iff_iff, beq_iff_eq, decide_eq_true_iff]; omega
        have hk0 : ∃ b : Bool, (tk == 0) = b := ⟨_, rfl⟩
        obtain ⟨b, hb⟩ := hk0
        rw [hb] at hje
        clear h3
        rcases h4 with ⟨h4, h5⟩ | ⟨h4, h5, h6, h7⟩
        · have hk4 : (tk == 4) = true := by simpa using h4
          have HP5 := Lib.hid h5
          have hbf2 : b = false := by rw [← hb, beq_eq_false_iff_ne]; omega
          subst hbf2
          subst h4
          clear h5 hb
          go_wp2
          go_roundw
          case rel => exact ⟨p + 2, j + 1, by go_num, by go_num, by omega, HP5, HBN⟩
          case measure => simp [intOf]; omega
        · have hk4 : (tk == 4) = false := by simpa using h4
          have HP7 := Lib.hid h7
          have hsl : ∀ W, (Instr.slice 9 (.string ⟨s.toArray⟩) (some (.int .i64 (p : Int))) (some (.int .i64 ((p : Int) + (tt.length : Int)))) none).run Tryz.prog W = .ok (.string ⟨tt.toArray⟩) W := fun W => by
            rw [slice_mid ⟨s.toArray⟩ p ((p : Int) + (tt.length : Int)) (by omega) (by omega) W]
            have e : ((s.drop p).take (((p : Int) + (tt.length : Int)).toNat - p)) = tt := by
              rw [show ((p : Int) + (tt.length : Int)).toNat - p = tt.length by omega]; exact h6
            exact congrArg (fun b => Result.ok (Value.string ⟨List.toArray b⟩) W) e
          have c3 : ¬ (s.length : Int) - (p : Int) < (tt.length : Int) := by omega
          have c3b : decide ((s.length : Int) - (p : Int) < (tt.length : Int)) = false := decide_eq_false c3
          have htt : (tt != tt) = false := by simp
          have hps : (p : Int) ≤ (p : Int) + (tt.length : Int) := by omega
          have hpl : (p : Int) + (tt.length : Int) ≤ (s.length : Int) := by omega
          clear h6 h7 h4
          cases b
          all_goals
            go_wp2_with fail
            go_quiet (fail)
            go_wp2
            go_roundw
            case rel => exact ⟨p + tt.length, j + 1, by go_num, by go_num, by omega, HP7, Lib.hid (below_drewN HBN.out _)⟩
            case measure => simp [intOf]; omega
    · have hi1 : ¬ (j : Int) < (m.length : Int) := by omega
      have hjm : j = m.length := by omega
      rcases hTr with h0 | ⟨g, off, rfl, hgw, hc⟩
      · omega
      · have hcx := hc (m.length - 1) (by omega)
        rw [tk_at (by omega)] at hcx
        obtain ⟨p0, p1, p2⟩ := hcx
        simp only [HL.out] at p2
        have HBW := Lib.hid (below_next HB3.out HB.out)
        have hn0 : (0 : Int) < (m.length : Int) := by omega
        have hn1 : (m.length : Int) - 1 < (m.length : Int) := by omega
        have hn2 : (0 : Int) ≤ (m.length : Int) - 1 := by omega
        have hss : ((s.length : Int) == (s.length : Int)) = true := by simp
        have hti : ((m.length : Int) - 1).toNat = m.length - 1 := by omega
        clear hc p0 p1
        go_wp2_with fail
        refine (awake_walk _ (HG.out.next HBW.out)).mono ?_
        rintro e w6 ⟨rfl, hb6⟩
        go_wp2
        go_ret
        exact ⟨rfl, below_next HBW.out hb6⟩

theorem scanR_errk {s : List UInt8} {x : Int} {k : Nat} (h : Lex.scanR s = .error (x, k)) : k ≤ s.length := by
  by_cases h4 : 4096 < s.length
  · rw [scanR_long h4] at h
    obtain ⟨_, rfl⟩ := Prod.mk.inj (Except.error.inj h)
    omega
  · rw [scanR_toks (by omega)] at h
    cases ht : Lex.toks s 0 with
    | error y =>
      rw [ht] at h
      obtain rfl := Except.error.inj h
      have := (Lex.toks_err _ _ _ _ _ (Nat.le_refl _) ht).1; omega
    | ok l => rw [ht] at h; cases h

theorem lexPlaces_walk (s : ByteArray) (hs : s.size ≤ 140737488351232) (w : World) (hg : Globs w) :
    Calls Tryz.prog 9 #[.string s] w fun e w' => e = .returned (.bool true) ∧ Below w.heap.size w w' := by
  have hl : s.data.toList.length ≤ 140737488351232 := by rw [← Lib.size_eq]; exact hs
  have h : Calls Tryz.prog 9 #[.string ⟨s.data.toList.toArray⟩] w fun e w' => e = .returned (.bool true) ∧ Below w.heap.size w w' := by
    cases hq : Lex.scanR s.data.toList with
    | error x =>
      obtain ⟨x, k⟩ := x
      exact places_err _ hl x k hq (scanR_errk hq) w hg
    | ok m => exact places_ok _ m hq w hg
  rw [← tx_of s] at h
  exact h
end Go.Proofs.YtebphmkefpaeaaaGreatDoor
