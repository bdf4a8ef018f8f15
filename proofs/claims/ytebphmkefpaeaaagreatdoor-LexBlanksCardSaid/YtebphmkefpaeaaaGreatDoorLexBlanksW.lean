/- The walk of LexBlanks. -/
import Derived.Test.YtebphmkefpaeaaaGreatDoorLexPlacesW
import Derived.Test.YtebphmkefpaeaaaGreatDoorLexBackW
namespace Lex
theorem fm_ge : ∀ l : List UInt8, l.length ≤ (l.flatMap escB).length
  | [] => Nat.le_refl _
  | c :: r => by
    have h1 := fm_ge r
    have h2 : 1 ≤ (escB c).length := by
      unfold escB; repeat (split; simp)
      simp
    rw [List.flatMap_cons, List.length_append, List.length_cons]; omega

theorem text_written (t : Tok) : t.text.length ≤ (written t).length := by
  unfold written
  split
  · have := fm_ge t.text
    simp only [List.length_cons, List.length_append, List.length_nil]; omega
  · exact Nat.le_refl _

theorem scanR_split {s : List UInt8} {m : List (Tok × Nat)} (h : scanR s = .ok m) : s.length ≤ 4096 ∧ ∃ l, toks s 0 = .ok l ∧ m = l ++ [(endTok, s.length)] := by
  unfold scanR at h
  split at h
  · cases h
  · refine ⟨by omega, ?_⟩
    cases ht : toks s 0 with
    | error x => rw [ht] at h; cases h
    | ok l => rw [ht] at h; obtain rfl := Except.ok.inj h; exact ⟨l, rfl, rfl⟩

theorem scanR_join {s : List UInt8} {l : List (Tok × Nat)} (hs : s.length ≤ 4096) (h : toks s 0 = .ok l) : scanR s = .ok (l ++ [(endTok, s.length)]) := by
  unfold scanR
  rw [if_neg (by omega), h]; rfl

theorem may_scan {s : List UInt8} {l : List (Tok × Nat)} (hs : s.length ≤ 4096) (h : toks s 0 = .ok l) (n : Nat) : mayShow ((l ++ [(endTok, n)]).map (·.1)) := fun t ht => by
  rw [List.map_append] at ht
  rcases List.mem_append.1 ht with ht | ht
  · obtain ⟨x, hx, rfl⟩ := List.mem_map.1 ht
    exact Or.inr (toks_good s.length s 0 l (Nat.le_refl _) hs h x hx).1
  · left; simpa using ht

theorem kept_scan {s : List UInt8} {l : List (Tok × Nat)} (hs : s.length ≤ 4096) (h : toks s 0 = .ok l) (n : Nat) : kept ((l ++ [(endTok, n)]).map (·.1)) = l.map (·.1) := by
  unfold kept
  rw [List.map_append, List.filter_append]
  have e1 : (l.map (·.1)).filter (fun t => decide (t ≠ endTok)) = l.map (·.1) := by
    rw [List.filter_eq_self]
    intro t ht
    obtain ⟨x, hx, rfl⟩ := List.mem_map.1 ht
    have := good_end (toks_good s.length s 0 l (Nat.le_refl _) hs h x hx).1
    simpa using this
  rw [e1]; simp

theorem text_may {l : List Tok} (h : mayShow l) : ∀ t ∈ l, t.text.length ≤ 4096 := fun t ht => by
  rcases h t ht with rfl | hg
  · decide
  · exact Nat.le_trans (text_written t) (written_len (Or.inr hg))

theorem placedE_max {s : List UInt8} : ∀ (m : List (Tok × Nat)) (a : Nat), PlacedE s a m → ∀ x ∈ m, x.2 ≤ s.length
  | [], _, _, x, hx => by simp at hx
  | (t, p) :: r, a, h, x, hx => by
    obtain ⟨_, h2, _, h4⟩ := h
    rcases List.mem_cons.1 hx with rfl | hx
    · exact h2
    · rcases h4 with ⟨_, h⟩ | ⟨_, _, _, h⟩
      · exact placedE_max r _ h x hx
      · exact placedE_max r _ h x hx
end Lex
namespace Go.Proofs.YtebphmkefpaeaaaGreatDoor
open Go.RowKit
set_option linter.unusedVariables false

theorem tkOf_t (l : List (Lex.Tok × Nat)) : (tkOf l).map (·.t) = l.map (·.1) := by unfold tkOf; rw [List.map_map]; rfl

theorem same_key {l m : List (Lex.Tok × Nat)} (h : l.map (·.1) = m.map (·.1)) : sameT false (tkOf l) (tkOf m) = true := by
  unfold sameT
  refine decide_eq_true ?_
  have e : ∀ (x : List Tk), x.map (Tk.key false) = (x.map (·.t)).map (fun t => (t, (0 : Int))) := fun x => by
    rw [List.map_map]; rfl
  rw [e, e, tkOf_t, tkOf_t, h]

set_option maxRecDepth 100000 in
set_option maxHeartbeats 4000000 in
theorem blanks_err (s : List UInt8) (hs : s.length ≤ 140737488351232) (x : Int) (k : Nat) (hq : Lex.scanR s = .error (x, k)) (w : World) (hg : Globs w) :
    Calls Tryz.prog 7 #[.string ⟨s.toArray⟩] w fun e w' => e = .returned (.bool true) ∧ Below w.heap.size w w' := by
  have HG := Lib.hid hg
  have HQ := Lib.hid hq
  have hx0 := Lex.scanR_err hq
  have hxn : (x != 0) = true := by simpa using hx0
  have hxe : (x == 0) = false := by simpa using hx0
  have hz : (⟨s.toArray⟩ : ByteArray).size = s.length := size_list _
  clear hg hq hx0
  go_enter Tryz.func7, Tryz.ntmps7
  go_wp2_with fail
  refine (oscanL_walk s (by omega) _ HG.out).mono ?_
  rintro e w3 h3
  obtain ⟨A3, cap3, rfl, hb3⟩ := scanV_err h3 HQ.out
  have HB3 := Lib.hid (below_next hb3 (below_one w3 (.cells #[.int .i64 x, .int .i64 (k : Int)] 27)))
  clear h3 hb3
  go_wp2_with fail
  refine (awake_walk _ (HG.out.next HB3.out)).mono ?_
  rintro e w4 ⟨rfl, hb4⟩
  go_wp2
  go_ret
  exact ⟨rfl, below_next HB3.out hb4⟩

set_option maxRecDepth 100000 in
set_option maxHeartbeats 4000000 in
theorem blanks_long (s : List UInt8) (h2 : 2000 < s.length) (m : List (Lex.Tok × Nat)) (hq : Lex.scanR s = .ok m) (w : World) (hg : Globs w) :
    Calls Tryz.prog 7 #[.string ⟨s.toArray⟩] w fun e w' => e = .returned (.bool true) ∧ Below w.heap.size w w' := by
  have HG := Lib.hid hg
  have HQ := Lib.hid hq
  have hs := (scanR_len hq).1
  have h2i : (2000 : Int) < (s.length : Int) := by omega
  have hz : (⟨s.toArray⟩ : ByteArray).size = s.length := size_list _
  clear hg hq h2
  go_enter Tryz.func7, Tryz.ntmps7
  go_wp2_with fail
  refine (oscanL_walk s (by omega) _ HG.out).mono ?_
  rintro e w3 h3
  obtain ⟨A3, cap3, rfl, _, _, hb3⟩ := scanV_ok h3 HQ.out
  have HB3 := Lib.hid (below_next hb3 (below_one w3 (.cells #[.int .i64 0, .int .i64 0] 27)))
  clear h3 hb3
  go_wp2_with fail
  refine (awake_walk _ (HG.out.next HB3.out)).mono ?_
  rintro e w4 ⟨rfl, hb4⟩
  go_wp2
  go_ret
  exact ⟨rfl, below_next HB3.out hb4⟩

set_option maxRecDepth 100000 in
set_option maxHeartbeats 16000000 in
theorem blanks_ok (s : List UInt8) (h2 : s.length ≤ 2000) (l : List (Lex.Tok × Nat)) (hl : Lex.toks s 0 = .ok l) (w : World) (hg : Globs w) :
    Calls Tryz.prog 7 #[.string ⟨s.toArray⟩] w fun e w' => e = .returned (.bool true) ∧ Below w.heap.size w w' := by
  have HG := Lib.hid hg
  have hz : (⟨s.toArray⟩ : ByteArray).size = s.length := size_list _
  have h2i : ¬ (2000 : Int) < (s.length : Int) := by omega
  -- the source
  have hq1 := Lex.scanR_join (by omega) hl
  have hml := (scanR_len hq1).2
  -- with blanks around
  have hl2 : (Lex.ahead ++ s ++ Lex.behind).length = s.length + 28 := by simp [Lex.ahead, Lex.behind]
  have hq2 := Lex.scanR_join (s := Lex.ahead ++ s ++ Lex.behind) (by omega) (Lex.toks_around hl)
  have hml2 := (scanR_len hq2).2
  obtain ⟨m, hm⟩ : ∃ m, m = l ++ [(Lex.endTok, s.length)] := ⟨_, rfl⟩
  obtain ⟨m2, hm2⟩ : ∃ m2, m2 = (l.map fun x => (x.1, x.2 + 17)) ++ [(Lex.endTok, (Lex.ahead ++ s ++ Lex.behind).length)] := ⟨_, rfl⟩
  have hfst : m2.map (·.1) = m.map (·.1) := by rw [hm, hm2, List.map_append, List.map_append, List.map_map]; rfl
  have hmlen : m.length = l.length + 1 := by rw [hm, List.length_append]; rfl
  have hmlen2 : m2.length = m.length := by have := congrArg List.length hfst; simpa using this
  have hat : ∀ j (h1 : j < m.length) (h2 : j < m2.length), j + 1 < m.length → (m2[j]'h2).2 = (m[j]'h1).2 + 17 := fun j h1 h2 h => by
    subst hm hm2
    have hj : j < l.length := by omega
    rw [List.getElem_append_left (by simpa using hj), List.getElem_append_left hj]
    simp
  have hmay := Lex.may_scan (by omega) hl s.length
  have hkept := Lex.kept_scan (by omega) hl s.length
  have hfm : m.map (·.1) = l.map (·.1) ++ [Lex.endTok] := by rw [hm, List.map_append]; rfl
  rw [← hm] at hq1 hml hmay hkept
  rw [← hm2] at hq2 hml2
  have HQ1 := Lib.hid hq1
  have HQ2 := Lib.hid hq2
  have HAT := Lib.hid hat
  obtain ⟨_, _, hpl⟩ := Lex.placedE_last hq1
  have HPM : Hid (∀ j (h1 : j < m.length), (m[j]'h1).2 ≤ 2000) := Lib.hid (fun j h1 => by
    have := Lex.placedE_max m 0 hpl _ (List.getElem_mem h1)
    omega)
  clear hpl
  have HMAY : Hid (Lex.mayShow ((tkOf m).map (·.t))) := Lib.hid (by rw [tkOf_t]; exact hmay)
  have HTX : Hid (∀ b ∈ tkOf m, b.t.text.length ≤ 100000) := Lib.hid (fun b hb => by
    have h1 := Lex.text_may hmay b.t (by rw [← tkOf_t]; exact List.mem_map.2 ⟨b, hb, rfl⟩)
    omega)
  have HS2 : Hid (sameT false (tkOf m2) (tkOf m) = true) := Lib.hid (same_key hfst)
  have hN : (tkOf m).length = m.length := tkOf_len m
  have hN2 : (tkOf m2).length = m.length := by rw [tkOf_len, hmlen2]
  -- written anew
  have hbk := fun h => back_scan hmay h
  have hsl := Lex.shown_len _ hmay
  rw [List.length_map] at hsl
  have hsl2 : (Lex.shown (m.map (·.1))).length ≤ 4097 * 10000 := Nat.le_trans hsl (Nat.mul_le_mul_left _ (by omega))
  obtain ⟨t, ht⟩ : ∃ t, t = Lex.shown (m.map (·.1)) := ⟨_, rfl⟩
  have HSH : Hid (Lex.shown ((tkOf m).map (·.t)) = t) := Lib.hid (by rw [tkOf_t, ht])
  rw [← ht] at hbk hsl2
  have htz : (⟨t.toArray⟩ : ByteArray).size = t.length := size_list _
  have HBK : Hid (t.length ≤ 4096 → ∃ m3, Lex.scanR t = .ok m3 ∧ sameT false (tkOf m3) (tkOf m) = true ∧ m3.length ≤ 4097) := Lib.hid (fun h => by
    obtain ⟨m3, g1, g2⟩ := hbk h
    refine ⟨_, g1, same_key ?_, (scanR_len g1).2⟩
    rw [List.map_append, g2, hkept, hfm]; rfl)
  -- the text with blanks around
  have he : (⟨#[32, 45, 45, 32, 97, 32, 114, 101, 109, 97, 114, 107, 32, 195, 169, 10, 9]⟩ : ByteArray) ++ ⟨s.toArray⟩ ++ ⟨#[10, 45, 45, 32, 97, 110, 111, 116, 104, 101, 114]⟩ = ⟨(Lex.ahead ++ s ++ Lex.behind).toArray⟩ := by
    rw [← ba_append, ← ba_append]; rfl
  have hw2 := fun w hg => oscanL_walk (Lex.ahead ++ s ++ Lex.behind) (by omega) w hg
  rw [← he] at hw2
  have HW2 := Lib.hid hw2
  have hm1 : 1 ≤ m.length := by omega
  clear hg hq1 hq2 hat hm hm2 hfst hmay hkept hfm hbk hsl ht he hw2 hl hmlen
  go_enter Tryz.func7, Tryz.ntmps7
  go_wp2_with fail
  refine (oscanL_walk s (by omega) _ HG.out).mono ?_
  rintro e w3 h3
  obtain ⟨A, cap, rfl, hT, _, hb3⟩ := scanV_ok h3 HQ1.out
  have hbf := below_one w3 (.cells #[.int .i64 0, .int .i64 0] 27)
  have HB3 := Lib.hid (below_next hb3 hbf)
  have HT := Lib.hid (hT.next hbf)
  clear h3 hb3 hT hbf
  rw [hN]
  go_wp2_with fail
  generalize hW : w3.alloc (.cells #[.int .i64 0, .int .i64 0] 27) = W3 at HB3 HT ⊢
  clear hW
  refine (HW2.out _ (HG.out.next HB3.out)).mono ?_
  rintro e w4 h4
  obtain ⟨A2, cap2, rfl, hT2, _, hb4⟩ := scanV_ok h4 HQ2.out
  have hbf := below_one w4 (.cells #[.int .i64 0, .int .i64 0] 27)
  have hb4' := below_next hb4 hbf
  have HB4 := Lib.hid (below_next HB3.out hb4')
  have HT4 := Lib.hid (HT.out.next hb4')
  have HT2 := Lib.hid (hT2.next hbf)
  clear h4 hb4 hT2 hbf hb4' HT
  rw [hN2]
  have hsm := fun W h1 h2 => tsame_walk A2 A cap2 cap (tkOf m2) (tkOf m) false W h1 h2 (by omega)
  rw [HS2.out, hN, hN2] at hsm
  have HSM := Lib.hid hsm
  clear hsm
  go_wp2_with fail
  generalize hW : w4.alloc (.cells #[.int .i64 0, .int .i64 0] 27) = W4 at HB4 HT4 HT2 ⊢
  clear hW
  refine (HSM.out _ HT2.out HT4.out).mono ?_
  rintro e w5 ⟨rfl, hb5⟩
  have HB5 := Lib.hid (below_next HB4.out hb5)
  have HT5 := Lib.hid (HT4.out.next hb5)
  have HT25 := Lib.hid (HT2.out.next hb5)
  clear hb5 HT4 HT2
  go_wp2_with fail
  go_loopw [7] (fun ii wr => ∃ j : Nat, ii = .int .i64 (j : Int) ∧ j + 1 ≤ m.length ∧ Hid (Below w5.heap.size w5 wr))
    (fun ii _ => m.length - (intOf ii).toNat)
  case atStart => exact ⟨0, rfl, by omega, Lib.hid (Below.refl _ _)⟩
  case round =>
    obtain ⟨j, rfl, hj, HB⟩ := hrel
    have hTr := HT5.out.keep HB.out (Nat.le_refl _)
    have hTr2 := HT25.out.keep HB.out (Nat.le_refl _)
    by_cases hlt : j + 1 < m.length
    · have hi1 : (j : Int) + 1 < (m.length : Int) := by omega
      have hi2 : (j : Int) < (m.length : Int) := by omega
      rcases hTr with h0 | ⟨g, off, rfl, hgw, hc⟩
      · omega
      · rcases hTr2 with h0 | ⟨g', off', rfl, hgw', hc'⟩
        · omega
        · have hcx := hc j (by omega)
          have hcy := hc' j (by omega)
          rw [tk_at (by omega)] at hcx hcy
          obtain ⟨_, _, p2⟩ := hcx
          obtain ⟨_, _, q2⟩ := hcy
          have hpq := HAT.out j (by omega) (by omega) hlt
          simp only at p2 q2
          rw [hpq] at q2
          obtain ⟨p, hp⟩ : ∃ p, p = (m[j]'(by omega)).2 := ⟨_, rfl⟩
          rw [← hp] at p2 q2
          have e17 : ((p + 17 : Nat) : Int) = (p : Int) + 17 := by omega
          rw [e17] at q2
          have hnn : ((p : Int) + 17 != (p : Int) + 17) = false := by simp
          have hp9 : p ≤ 2000 := by rw [hp]; exact HPM.out j (by omega)
          clear hc hc' hpq hp e17
          go_wp2_with fail
          go_quiet (fail)
          go_wp2
          go_roundw
          case rel => exact ⟨j + 1, by go_num, by omega, Lib.hid (below_drewN HB.out _)⟩
          case measure => simp [intOf]; omega
    · have hi1 : ¬ (j : Int) + 1 < (m.length : Int) := by omega
      have HBW := Lib.hid (below_next HB5.out HB.out)
      have HTr := Lib.hid (HT5.out.next HB.out)
      have hsw := fun W h1 h2 => oshow_walk A cap (tkOf m) W h1 (by omega) HTX.out h2
      rw [hN] at hsw
      have HSW := Lib.hid hsw
      clear hTr hTr2 hsw
      go_wp2_with fail
      refine (HSW.out _ HTr.out (HG.out.next HBW.out)).mono ?_
      rintro e w6 ⟨h6, hb6⟩
      have hee := show_yes h6 HMAY.out
      rw [HSH.out] at hee
      subst hee
      have HB6 := Lib.hid (below_next HBW.out hb6)
      have HT6 := Lib.hid (HTr.out.next hb6)
      clear h6 hb6
      by_cases h46 : t.length ≤ 4096
      · obtain ⟨m3, g1, g2, g3⟩ := HBK.out h46
        have HG1 := Lib.hid g1
        have HG2 := Lib.hid g2
        have hi46 : ¬ (4096 : Int) < (t.length : Int) := by omega
        have hd46 : decide ((4096 : Int) < (t.length : Int)) = false := decide_eq_false hi46
        have hN3 : (tkOf m3).length = m3.length := tkOf_len m3
        clear g1 g2
        go_wp2_with fail
        refine (oscanL_walk t (by omega) _ (HG.out.next HB6.out)).mono ?_
        rintro e w7 h7
        obtain ⟨A3, cap3, rfl, hT3, _, hb7⟩ := scanV_ok h7 HG1.out
        have hbf := below_one w7 (.cells #[.int .i64 0, .int .i64 0] 27)
        have hb7' := below_next hb7 hbf
        have HB7 := Lib.hid (below_next HB6.out hb7')
        have HT7 := Lib.hid (HT6.out.next hb7')
        have HT3 := Lib.hid (hT3.next hbf)
        have HF7 := Lib.hid (box2_new w7 0 0)
        have hsm := fun W h1 h2 => tsame_walk A3 A cap3 cap (tkOf m3) (tkOf m) false W h1 h2 (by omega)
        rw [HG2.out, hN, hN3] at hsm
        have HSM3 := Lib.hid hsm
        clear h7 hb7 hT3 hbf hb7' hsm
        go_wp2_with fail
        generalize hW : w7.alloc (.cells #[.int .i64 0, .int .i64 0] 27) = W7 at HB7 HT7 HT3 HF7 ⊢
        clear hW
        refine (HSM3.out _ HT3.out HT7.out).mono ?_
        rintro e w8 ⟨rfl, hb8⟩
        have HB8 := Lib.hid (below_next HB7.out hb8)
        clear hb8
        go_wp2_with fail
        refine (awake_walk _ (HG.out.next HB8.out)).mono ?_
        rintro e w9 ⟨rfl, hb9⟩
        go_wp2
        go_ret
        exact ⟨rfl, below_next HB8.out hb9⟩
      · have hi46 : (4096 : Int) < (t.length : Int) := by omega
        have hd46 : decide ((4096 : Int) < (t.length : Int)) = true := decide_eq_true hi46
        have HG1 : Hid (Lex.scanR t = .error (3, 4096)) := Lib.hid (scanR_long (by omega))
        go_wp2_with fail
        refine (oscanL_walk t (by omega) _ (HG.out.next HB6.out)).mono ?_
        rintro e w7 h7
        obtain ⟨A3, cap3, rfl, hb7⟩ := scanV_err h7 HG1.out
        have HB7 := Lib.hid (below_next (below_next HB6.out hb7) (below_one w7 (.cells #[.int .i64 3, .int .i64 4096] 27)))
        clear h7 hb7
        go_wp2_with fail
        refine (awake_walk _ (HG.out.next HB7.out)).mono ?_
        rintro e w9 ⟨rfl, hb9⟩
        go_wp2
        go_ret
        exact ⟨rfl, below_next HB7.out hb9⟩

theorem lexBlanks_walk (s : ByteArray) (hs : s.size ≤ 140737488351232) (w : World) (hg : Globs w) :
    Calls Tryz.prog 7 #[.string s] w fun e w' => e = .returned (.bool true) ∧ Below w.heap.size w w' := by
  have hl : s.data.toList.length ≤ 140737488351232 := by rw [← Lib.size_eq]; exact hs
  have h : Calls Tryz.prog 7 #[.string ⟨s.data.toList.toArray⟩] w fun e w' => e = .returned (.bool true) ∧ Below w.heap.size w w' := by
    cases hq : Lex.scanR s.data.toList with
    | error x =>
      obtain ⟨x, k⟩ := x
      exact blanks_err _ hl x k hq w hg
    | ok m =>
      by_cases h2 : s.data.toList.length ≤ 2000
      · obtain ⟨_, l, hl2, _⟩ := Lex.scanR_split hq
        exact blanks_ok _ h2 l hl2 w hg
      · exact blanks_long _ (by omega) m hq w hg
  rw [← tx_of s] at h
  exact h
end Go.Proofs.YtebphmkefpaeaaaGreatDoor
