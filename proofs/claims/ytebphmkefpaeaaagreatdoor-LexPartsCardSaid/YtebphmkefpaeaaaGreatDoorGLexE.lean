/- LexR7, LexR8, together. -/
import Derived.Test.YtebphmkefpaeaaaGreatDoorGLexD
import Derived.Test.YtebphmkefpaeaaaGreatDoorGLexC
/- The document's Scan of layer 6. -/
namespace Lex
theorem passed_len {l : List UInt8} {n : Nat} (h : passed l = .ok n) : n ≤ l.length := by
  unfold passed at h
  obtain ⟨h1, _⟩ := tw_len blank l
  split at h
  · unfold remarkOf at h
    cases hm : remark (l.drop (l.takeWhile blank).length).length (l.drop (l.takeWhile blank).length) with
    | error k => rw [hm] at h; cases h
    | ok m =>
      rw [hm] at h
      have := remark_len _ _ _ hm
      rw [List.length_drop] at this
      have h' : (l.takeWhile blank).length + m = n := Except.ok.inj h
      omega
  · obtain rfl := Except.ok.inj h
    exact h1
end Lex
namespace Go.Proofs.YtebphmkefpaeaaaGreatDoor
open Go.RowKit
set_option linter.unusedVariables false

/-- The document's Scan on its way. -/
structure RScan (s : List UInt8) (W0 wr : World) (v : Value) (i : Nat) (pre : List (Lex.Tok × Nat)) : Prop where
  own : wr.ownsRow W0.heap.size 32 3 v (tkOf pre).length (cellsT (tkOf pre))
  bel : Below W0.heap.size W0 wr
  len : pre.length ≤ i
  eq : Lex.toks s 0 = Lex.joinR pre (Lex.toks (s.drop i) i)

theorem tok_new3 (W : World) (a c : Int) (b : List UInt8) : TkAt (W.alloc (.cells #[.int .i64 a, .string ⟨b.toArray⟩, .int .i64 c] 32)) W.heap.size 0 ⟨⟨a, b⟩, c⟩ :=
  ⟨by simp [go_sem], by simp [go_sem], by simp [go_sem]⟩

set_option maxRecDepth 100000 in
set_option maxHeartbeats 16000000 in
theorem rscan_short (s : List UInt8) (h4 : s.length ≤ 4096) (w : World) :
    Calls Tryz.prog 20 #[.string ⟨s.toArray⟩] w (ScanV s w) := by
  obtain ⟨i0, hi, hz0, hz1, hz2⟩ := info_parts (P := Tryz.prog) (e := 32) (z := .agg #[.int .i64 0, .string ByteArray.empty, .int .i64 0]) (size := 3) (bytes := 32) (by kernel_rfl)
  have hz : (⟨s.toArray⟩ : ByteArray).size = s.length := size_list _
  have h1 : ¬ (4096 : Int) < (s.length : Int) := by omega
  have HR := Lib.hid (scanR_toks h4)
  have HX := Lib.hid (box2_new w 0 0)
  have HB0 := Lib.hid (below_one w (.cells #[.int .i64 0, .int .i64 0] 27))
  go_enter Tryz.func20, Tryz.ntmps20
  go_wp2_with fail
  generalize hW : w.alloc (.cells #[.int .i64 0, .int .i64 0] 27) = W0 at HX HB0 ⊢
  clear hW
  have HXL : Hid (w.heap.size < W0.heap.size) := Lib.hid HX.out.1
  go_loopw [4, 5] (fun v ii wr => ∃ (i : Nat) (pre : List (Lex.Tok × Nat)), ii = .int .i64 (i : Int) ∧ i ≤ s.length ∧ Hid (RScan s W0 wr v i pre))
    (fun _ ii _ => s.length - (intOf ii).toNat)
  case atStart => exact ⟨0, [], rfl, Nat.zero_le _, Lib.hid ⟨World.ownsRow_nil _ _ _ _, Below.refl _ _, Nat.le_refl _, by rw [Lex.joinR_nil]; rfl⟩⟩
  case round =>
    obtain ⟨i, pre, rfl, hil, HS⟩ := hrel
    have HBw := Lib.hid (below_next HB0.out HS.out.bel)
    have hsz := HS.out.bel.size
    by_cases hlt : i < s.length
    · have hi1 : (i : Int) < (s.length : Int) := by omega
      have hsl : ∀ W, (Instr.slice 9 (.string ⟨s.toArray⟩) (some (.int .i64 (i : Int))) none none).run Tryz.prog W = .ok (.string ⟨(s.drop i).toArray⟩) W := fun W => slice_from (W := W) ⟨s.toArray⟩ i (by omega)
      obtain ⟨l, hl⟩ : ∃ l, l = s.drop i := ⟨_, rfl⟩
      have hll : l.length + i = s.length := by rw [hl, List.length_drop]; omega
      have HL := Lib.hid hl
      rw [← hl] at hsl
      have hl9 : l.length ≤ 1000000 := by omega
      have hln : l ≠ [] := fun h => by rw [h] at hll; simp at hll; omega
      have HLN := Lib.hid hln
      have HPT := Lib.hid (Lex.passed_toks l i)
      have heq := HS.out.eq
      rw [← hl] at heq
      have HEQ := Lib.hid heq
      clear hl hln heq
      go_wp2_with fail
      refine (passed_walk l hl9 _).mono ?_
      rintro e w2 ⟨he, hb2⟩
      have HBel2 := Lib.hid (HS.out.bel.trans (hb2.mono hsz))
      have HB2 := Lib.hid (below_next HBw.out hb2)
      have HO2 := Lib.hid (own_below HS.out.own hb2)
      clear hb2
      cases hp : Lex.passed l with
      | error k =>
        rw [hp] at he
        have he2 : e = .returned (.tuple #[.int .i64 0, .agg #[.int .i64 30, .int .i64 (k : Int)]]) := he
        clear he
        subst he2
        have hpt := HPT.out
        rw [hp] at hpt
        simp only at hpt
        have HTE : Hid (Lex.scanR s = .error (30, i + k)) := Lib.hid (by rw [HR.out, HEQ.out, hpt]; rfl)
        have hkk : k ≤ 4096 := by
          have ht : Lex.toks s 0 = .error (30, i + k) := by rw [HEQ.out, hpt]; rfl
          have := (Lex.toks_err _ _ _ _ _ (Nat.le_refl _) ht).1; omega
        have HX2 := Lib.hid (HX.out.keep HXL.out HBel2.out)
        obtain ⟨q0, x0, x1, y0, y1⟩ := HX2.out
        clear hp hpt
        go_wp2_with fail
        go_region
        all_goals
          go_wp2
          refine bodyPost_ret (v := .tuple #[.slice none 0 0, .agg #[.int .i64 30, .int .i64 ((i : Int) + (k : Int))]]) (by simp [results, Tryz.results20, go_sem, x0, x1, q0]) rfl ?_
          refine ⟨none, 0, [], 30, (i : Int) + (k : Int), rfl, World.ownsRow_nil _ _ _ _, (((HB2.out.setCell (p := ⟨w.heap.size, 0, none⟩) (Nat.le_refl _) _).setCell (p := ⟨w.heap.size, 1, none⟩) (Nat.le_refl _) _).alloc (by have := HB2.out.size; simp; omega) _).drew, ?_⟩
          rw [HTE.out]
          exact ⟨rfl, rfl, by omega⟩
      | ok n =>
        cases n with
        | succ n =>
          rw [hp] at he
          have he2 : e = .returned (.tuple #[.int .i64 ((n + 1 : Nat) : Int), .agg #[.int .i64 0, .int .i64 0]]) := he
          clear he
          subst he2
          have hpl := Lex.passed_len hp
          have hpt := HPT.out
          rw [hp] at hpt
          simp only at hpt
          have HS3 : Hid (RScan s W0 (w2.alloc (.cells #[.int .i64 0, .int .i64 0] 27)) _ (i + (n + 1)) pre) := Lib.hid ⟨own_below HO2.out (below_one _ _), HBel2.out.trans ((below_one _ _).mono HBel2.out.size), by have := HS.out.len; omega, by rw [HEQ.out, hpt, HL.out, List.drop_drop]⟩
          have hn1 : (0 : Int) < ((n + 1 : Nat) : Int) := by omega
          obtain ⟨m, hm⟩ : ∃ m, m = n + 1 := ⟨_, rfl⟩
          rw [← hm] at hn1 HS3 hpl ⊢
          have hm1 : 1 ≤ m := by omega
          clear hp hpt hm
          go_wp2
          go_roundw
          case rel => exact ⟨i + m, pre, by go_num, by omega, HS3⟩
          case measure => simp [intOf]; omega
        | zero =>
          rw [hp] at he
          have he2 : e = .returned (.tuple #[.int .i64 0, .agg #[.int .i64 0, .int .i64 0]]) := he
          clear he
          subst he2
          have hpt := HPT.out
          rw [hp] at hpt
          simp only at hpt
          obtain ⟨hrm, hbl⟩ := hpt
          have hpc := Lex.piece_toks HLN.out hbl i
          unfold Lex.piece at hpc
          rw [hrm] at hpc
          simp only [Bool.false_eq_true, if_false] at hpc
          have HPC := Lib.hid hpc
          have HX7 := Lib.hid (box2_new w2 0 0)
          have hb3 := below_one w2 (.cells #[.int .i64 0, .int .i64 0] 27)
          have HBel3 := Lib.hid (HBel2.out.trans (hb3.mono HBel2.out.size))
          have HB3 := Lib.hid (below_next HB2.out hb3)
          have HO3 := Lib.hid (own_below HO2.out hb3)
          have hw2s := HBel2.out.size
          clear hp hrm hbl hpc hb3
          go_wp2_with fail
          generalize hW : w2.alloc (.cells #[.int .i64 0, .int .i64 0] 27) = W3 at HX7 HBel3 HB3 HO3 ⊢
          clear hW
          refine (rfirst06_walk l HLN.out hl9 _).mono ?_
          rintro e w4 ⟨he, hb4⟩
          have HX74 := Lib.hid (HX7.out.keep (B := W3.heap.size) HX7.out.1 hb4)
          have HBel4 := Lib.hid (HBel3.out.trans (hb4.mono HBel3.out.size))
          have HB4 := Lib.hid (below_next HB3.out hb4)
          have HO4 := Lib.hid (own_below HO3.out hb4)
          have HX4 := Lib.hid (HX.out.keep HXL.out HBel4.out)
          have hw2w4 : w2.heap.size < w4.heap.size := HX74.out.1
          clear hb4 HX7
          cases ht : Lex.token l with
          | error x =>
            obtain ⟨x, k⟩ := x
            rw [ht] at he
            have he2 : e = .returned (.tuple #[.agg #[.int .i64 0, .string ⟨#[]⟩, .int .i64 0], .int .i64 0, .agg #[.int .i64 x, .int .i64 (k : Int)]]) := he
            clear he
            subst he2
            have hpc := HPC.out
            rw [ht] at hpc
            simp only at hpc
            have htt : Lex.toks s 0 = .error (x, i + k) := by rw [HEQ.out, hpc]; rfl
            have HTE : Hid (Lex.scanR s = .error (x, i + k)) := Lib.hid (by rw [HR.out, htt])
            have hkk : k ≤ 4096 := by
              have := (Lex.toks_err _ _ _ _ _ (Nat.le_refl _) htt).1; omega
            have hx0 : x ≠ 0 := by
              rcases (Lex.toks_err _ _ _ _ _ (Nat.le_refl _) htt).2 with h | h <;> rw [h] <;> decide
            have hxd : (x == 0) = false := by simpa using hx0
            have hxn : (x != 0) = true := by simpa using hx0
            obtain ⟨q0, x0, x1, y0, y1⟩ := HX4.out
            obtain ⟨p0, z0, z1, u0, u1⟩ := HX74.out
            have hne : w.heap.size ≠ w2.heap.size := by have := HXL.out; omega
            clear ht hpc htt hx0
            go_wp2_with fail
            go_region
            all_goals
              go_wp2
              refine bodyPost_ret (v := .tuple #[.slice none 0 0, .agg #[.int .i64 x, .int .i64 ((i : Int) + (k : Int))]]) (by simp [results, Tryz.results20, go_sem, x0, x1, q0]) rfl ?_
              refine ⟨none, 0, [], x, (i : Int) + (k : Int), rfl, World.ownsRow_nil _ _ _ _, ?_, ?_⟩
              · have hw2 : w.heap.size ≤ w2.heap.size := by have := HXL.out; omega
                exact (((((HB4.out.setCell (p := ⟨w2.heap.size, 0, none⟩) hw2 _).setCell (p := ⟨w2.heap.size, 1, none⟩) hw2 _).setCell (p := ⟨w.heap.size, 0, none⟩) (Nat.le_refl _) _).setCell (p := ⟨w.heap.size, 1, none⟩) (Nat.le_refl _) _).alloc (by simp; omega) _).drew
              · rw [HTE.out]
                exact ⟨rfl, rfl, by omega⟩
          | ok x =>
            obtain ⟨t, n⟩ := x
            rw [ht] at he
            have he2 : e = .returned (.tuple #[.agg #[.int .i64 t.kind, .string ⟨t.text.toArray⟩, .int .i64 0], .int .i64 (n : Int), .agg #[.int .i64 0, .int .i64 0]]) := he
            clear he
            subst he2
            have hpc := HPC.out
            rw [ht] at hpc
            simp only at hpc
            obtain ⟨c1, c2, c3, _⟩ := hpc
            have HC1 : Hid (Lex.toks s 0 = Lex.joinR (pre ++ [(t, i)]) (Lex.toks (s.drop (i + n)) (i + n))) := Lib.hid (by rw [HEQ.out, c1, List.map_cons, List.map_nil, Lex.joinR_joinR, HL.out, List.drop_drop])
            have HPL := Lib.hid (show pre.length ≤ i from HS.out.len)
            have hpl4 : (tkOf pre).length ≤ 4096 := by rw [tkOf_len]; have := HS.out.len; omega
            obtain ⟨p0, z0, z1, u0, u1⟩ := HX74.out
            clear ht c1
            have hv2 : ∀ k, u4.ownBlock = some k → k < w2.heap.size := fun k hk => (HO2.out.lt k hk).2
            have HO5 : Hid (∀ a b, ((w4.setCell ⟨w2.heap.size, 0, none⟩ a).setCell ⟨w2.heap.size, 1, none⟩ b).ownsRow W0.heap.size 32 3 u4 (tkOf pre).length (cellsT (tkOf pre))) := Lib.hid (fun a b => ownsRow_setCell_other (a := ⟨w2.heap.size, 1, none⟩) (ownsRow_setCell_other (a := ⟨w2.heap.size, 0, none⟩) HO4.out (fun e => absurd (hv2 _ e) (Nat.lt_irrefl _)) _) (fun e => absurd (hv2 _ e) (Nat.lt_irrefl _)) _)
            have hw0w4 := HBel4.out.size
            clear hv2
            go_wp2_with (at_builtin; refine wpList_append_own _ rfl _ _ 24 rfl W0.heap.size 32 i0 (.agg #[.int .i64 0, .string ByteArray.empty, .int .i64 0]) 3 32 Tryz.underlying24 hi hz0 hz1 hz2 rfl (by decide) _ _ _ rfl (((HO5.out _ _).alloc _).alloc _) ⟨w4.heap.size + 1, 0, none⟩ 1 1 [.int .i64 t.kind, .string ⟨t.text.toArray⟩, .int .i64 (i : Int)] rfl rfl (news3 _ _ _ _ _ (by simp)) one3 (by unfold maxLen; omega) (by omega) (by simp; omega) ?_)
            intro v' w5 hown5 hgrow _
            have hb5 : Below W0.heap.size W0 w5 := ((((HBel4.out.setCell (p := ⟨w2.heap.size, 0, none⟩) hw2s _).setCell (p := ⟨w2.heap.size, 1, none⟩) hw2s _).alloc (by simp; omega) _).alloc (by simp; omega) _).grown hgrow (by simp; omega) (fun k hk => (HO4.out.lt k hk).1)
            have HS5 : Hid (RScan s W0 w5 v' (i + n) (pre ++ [(t, i)])) := Lib.hid ⟨by
              have e : tkOf (pre ++ [(t, i)]) = tkOf pre ++ [⟨t, (i : Int)⟩] := by rw [tkOf_append]; rfl
              rw [e, cellsT_snoc, List.length_append]; exact hown5, hb5, by rw [List.length_append]; simp; have := HPL.out; omega, HC1.out⟩
            clear hown5 hgrow hb5
            go_wp2
            go_roundw
            case rel => exact ⟨i + n, _, by go_num, by omega, HS5⟩
            case measure => simp [intOf]; omega
    · have hi1 : ¬ (i : Int) < (s.length : Int) := by omega
      have hie : i = s.length := by omega
      have HTE : Hid (Lex.scanR s = .ok (pre ++ [(Lex.endTok, s.length)])) := Lib.hid (by rw [HR.out, HS.out.eq, List.drop_eq_nil_of_le (by omega), Lex.toks_nil]; simp [Lex.joinR])
      have hpl4 : (tkOf pre).length ≤ 4096 := by rw [tkOf_len]; have := HS.out.len; omega
      have HO := Lib.hid HS.out.own
      have HBel := Lib.hid HS.out.bel
      have HX2 := Lib.hid (HX.out.keep HXL.out HBel.out)
      clear hie
      go_wp2_with (at_builtin; refine wpList_append_own _ rfl _ _ 24 rfl W0.heap.size 32 i0 (.agg #[.int .i64 0, .string ByteArray.empty, .int .i64 0]) 3 32 Tryz.underlying24 hi hz0 hz1 hz2 rfl (by decide) _ _ _ rfl (HO.out.alloc _) ⟨wr.heap.size, 0, none⟩ 1 1 [.int .i64 0, .string ByteArray.empty, .int .i64 (s.length : Int)] rfl rfl (news3 _ _ _ _ _ (by simp)) one3 (by unfold maxLen; omega) (by omega) (by simp; omega) ?_)
      intro v' w5 hown5 hgrow _
      have hb5 : Below W0.heap.size W0 w5 := (HBel.out.alloc hsz _).grown hgrow (by simp; omega) (fun k hk => (HO.out.lt k hk).1)
      have HB5 := Lib.hid (below_next HB0.out hb5)
      have HX5 := Lib.hid (HX.out.keep HXL.out hb5)
      obtain ⟨g1, cap, hv', _, hg1⟩ := hown5.form (Nat.succ_pos _)
      have e : tkOf (pre ++ [(Lex.endTok, s.length)]) = tkOf pre ++ [⟨Lex.endTok, (s.length : Int)⟩] := by rw [tkOf_append]; rfl
      have hlen : (tkOf (pre ++ [(Lex.endTok, s.length)])).length = (tkOf pre).length + 1 := by rw [e, List.length_append]; rfl
      have ho : w5.ownsRow W0.heap.size 32 3 (.slice (some ⟨g1, 0, none⟩) (tkOf (pre ++ [(Lex.endTok, s.length)])).length cap) (tkOf (pre ++ [(Lex.endTok, s.length)])).length (cellsT (tkOf (pre ++ [(Lex.endTok, s.length)]))) := by
        rw [hlen, e, cellsT_snoc, ← hv']; exact hown5
      have HOW := Lib.hid ho
      have HV : Hid (v' = .slice (some ⟨g1, 0, none⟩) (tkOf (pre ++ [(Lex.endTok, s.length)])).length cap) := Lib.hid (by rw [hlen]; exact hv')
      obtain ⟨q0, x0, x1, y0, y1⟩ := HX5.out
      clear hown5 hgrow hb5 hv' e hlen ho hg1
      go_wp2
      refine bodyPost_ret (v := .tuple #[v', .agg #[.int .i64 0, .int .i64 0]]) (by simp [results, Tryz.results20, go_sem, x0, x1]) rfl ?_
      refine ⟨some ⟨g1, 0, none⟩, cap, tkOf (pre ++ [(Lex.endTok, s.length)]), 0, 0, by rw [HV.out], ?_, (HB5.out.setCell (p := ⟨w.heap.size, 0, none⟩) (Nat.le_refl _) _).setCell (p := ⟨w.heap.size, 1, none⟩) (Nat.le_refl _) _, ?_⟩
      · exact own_base (ownsRow_setCell_below (a := ⟨w.heap.size, 1, none⟩) (ownsRow_setCell_below (a := ⟨w.heap.size, 0, none⟩) HOW.out HXL.out _) HXL.out _) (Nat.le_of_lt HXL.out)
      · rw [HTE.out]
        exact ⟨rfl, rfl, rfl⟩

set_option maxRecDepth 100000 in
set_option maxHeartbeats 4000000 in
theorem rscan_long (s : List UInt8) (h4 : 4096 < s.length) (hs : s.length ≤ 9223372036854775807) (w : World) :
    Calls Tryz.prog 20 #[.string ⟨s.toArray⟩] w (ScanV s w) := by
  have hz : (⟨s.toArray⟩ : ByteArray).size = s.length := size_list _
  have h1 : (4096 : Int) < (s.length : Int) := by omega
  have HR := Lib.hid (scanR_long h4)
  clear h4
  go_enter Tryz.func20, Tryz.ntmps20
  go_wp2
  refine bodyPost_ret (v := .tuple #[.slice none 0 0, .agg #[.int .i64 3, .int .i64 4096]]) (by simp [results, Tryz.results20, go_sem]) rfl ?_
  refine ⟨none, 0, [], 3, 4096, rfl, World.ownsRow_nil _ _ _ _, below_one _ _, ?_⟩
  rw [HR.out]
  exact ⟨rfl, rfl, rfl⟩

theorem rscanL_walk (s : List UInt8) (hs : s.length ≤ 9223372036854775807) (w : World) :
    Calls Tryz.prog 20 #[.string ⟨s.toArray⟩] w (ScanV s w) := by
  by_cases h4 : s.length ≤ 4096
  · exact rscan_short s h4 w
  · exact rscan_long s (by omega) hs w
end Go.Proofs.YtebphmkefpaeaaaGreatDoor

/- The document's Show of layer 6. -/
namespace Lex
theorem token_blank {c : UInt8} {r : List UInt8} (h : blank c = true) : token (c :: r) = .error (60, 0) := by
  have hc : c = 9 ∨ c = 10 ∨ c = 13 ∨ c = 32 := by
    unfold blank at h
    simp only [Bool.or_eq_true, beq_iff_eq] at h
    rcases h with ((h | h) | h) | h <;> simp [h]
  have h1 : (small c || great c) = false := by rcases hc with rfl | rfl | rfl | rfl <;> rfl
  have h2 : digit c = false := by rcases hc with rfl | rfl | rfl | rfl <;> rfl
  have h3 : c ≠ 34 := by rcases hc with rfl | rfl | rfl | rfl <;> decide
  have hs : ∀ t, isSign (c :: t) = false := fun t => contains_head (p := fun c => !blank c) (by decide) (by rw [h]; rfl)
  have h4 : isSign ((c :: r).take 2) = false := by
    rw [List.take_succ_cons]; exact hs _
  rw [token_rest h1 h2, if_neg h3, h4, hs]
  simp

theorem passed_bad {l : List UInt8} {k : Nat} (h : passed l = .error k) : ∃ x, token l = .error x := by
  cases ht : token l with
  | error x => exact ⟨x, rfl⟩
  | ok x =>
    exfalso
    obtain ⟨t, n⟩ := x
    cases l with
    | nil => cases ht
    | cons c r =>
      cases hb : blank c with
      | true => rw [token_blank hb] at ht; cases ht
      | false =>
        have hr := no_remark ht
        unfold passed at h
        rw [List.takeWhile_cons_of_neg (by rw [hb]; simp)] at h
        simp only [List.length_nil, List.drop_zero] at h
        rw [hr] at h; cases h

theorem good_passed {t : Tok} (h : good t) : passed (written t) = .ok 0 := by
  obtain ⟨c, r, hw, hl, hb, ht⟩ := h
  rw [hw]
  unfold passed
  rw [List.takeWhile_cons_of_neg (by rw [hb]; simp)]
  simp only [List.length_nil, List.drop_zero]
  rw [no_remark ht]; rfl

theorem good_of {t : Tok} {n : Nat} (h0 : written t ≠ []) (h4 : (written t).length ≤ 4096) (hp : passed (written t) = .ok 0) (ht : token (written t) = .ok (t, n)) (hn : n = (written t).length) : good t := by
  have h := passed_toks (written t) 0
  rw [hp] at h
  simp only at h
  unfold good
  cases hw : written t with
  | nil => exact absurd hw h0
  | cons c r =>
    rw [hw] at h4 ht hn h
    exact ⟨c, r, rfl, h4, h.2 c (by simp), by rw [ht, hn]⟩
end Lex
namespace Go.Proofs.YtebphmkefpaeaaaGreatDoor
open Go.RowKit
set_option linter.unusedVariables false

set_option maxRecDepth 100000 in
set_option maxHeartbeats 16000000 in
theorem lshow_walk (A : Option Addr) (cap : Nat) (l : List Tk) (w : World) (hA : Tks w w.heap.size A l) (hl : l.length ≤ 10000) (hs : ∀ b ∈ l, b.t.text.length ≤ 100000) :
    Calls Tryz.prog 23 #[.slice A l.length cap] w fun e w' => ShowV (l.map (·.t)) e ∧ Below w.heap.size w w' := by
  have HA := Lib.hid hA
  have HS := Lib.hid hs
  obtain ⟨ts, hts⟩ : ∃ ts, ts = l.map (·.t) := ⟨_, rfl⟩
  have htl : ts.length = l.length := by rw [hts]; simp
  have HTS := Lib.hid hts
  have HTL := Lib.hid htl
  rw [← hts]
  clear hA hs hts htl
  go_enter Tryz.func23, Tryz.ntmps23
  go_wp2_with fail
  go_loopw [4, 5] (fun oo ii wr => ∃ k : Nat, ii = .int .i64 k ∧ k ≤ l.length ∧ oo = .string ⟨(Lex.shown (ts.take k)).toArray⟩ ∧ Hid (Lex.mayShow (ts.take k)) ∧ Hid (Below w.heap.size w wr))
    (fun _ ii _ => l.length - (intOf ii).toNat)
  case atStart => exact ⟨0, rfl, Nat.zero_le _, by rw [List.take_zero]; rfl, Lib.hid (fun x hx => by rw [List.take_zero] at hx; cases hx), Lib.hid (Below.refl _ _)⟩
  case round =>
    obtain ⟨k, rfl, hk, rfl, HM, HB⟩ := hrel
    have hsl := Lex.shown_len _ HM.out
    rw [List.length_take, HTL.out] at hsl
    have hsl2 : (Lex.shown (ts.take k)).length ≤ 4097 * 10000 := Nat.le_trans hsl (Nat.mul_le_mul_left _ (by omega))
    have hosz : (⟨(Lex.shown (ts.take k)).toArray⟩ : ByteArray).size = (Lex.shown (ts.take k)).length := size_list _
    clear hsl
    by_cases hlt : k < l.length
    · have hi1 : (k : Int) < (l.length : Int) := by omega
      rcases HA.out.keep HB.out (Nat.le_refl _) with h0 | ⟨g, off, rfl, hgw, hc⟩
      · omega
      · have hcx := hc k hlt
        obtain ⟨x, hx⟩ : ∃ x, x = l[k]'hlt := ⟨_, rfl⟩
        rw [← hx] at hcx
        have hxl : x.t.text.length ≤ 100000 := by rw [hx]; exact HS.out _ (List.getElem_mem _)
        have HT : Hid (ts.take (k + 1) = ts.take k ++ [x.t]) := Lib.hid (by rw [HTS.out, hx]; exact map_take_snoc hlt)
        have hxm : x.t ∈ ts := by rw [HTS.out, hx]; exact List.mem_map.2 ⟨_, List.getElem_mem hlt, rfl⟩
        have HXM := Lib.hid hxm
        have HCX := Lib.hid hcx
        have hgr : g < wr.heap.size := Nat.lt_of_lt_of_le hgw HB.out.size
        have HSN := Lib.hid (Lex.shown_snoc (ts.take k) x.t)
        have HSZ : Hid (Lex.shown (ts.take k) = [] ↔ Lex.kept (ts.take k) = []) := Lib.hid (Lex.shown_nil HM.out)
        obtain ⟨out, hout⟩ : ∃ out, out = Lex.shown (ts.take k) := ⟨_, rfl⟩
        rw [← hout] at hsl2 hosz HSN HSZ ⊢
        have HOUT := Lib.hid hout
        have HWW := Lib.hid (lwritten_walk x.t.kind x.t.text (by omega) x.at_ wr)
        have hW2 : (⟨x.t.kind, x.t.text⟩ : Lex.Tok) = x.t := rfl
        rw [hW2] at HWW
        obtain ⟨p0, p1, p2⟩ := hcx
        clear hx hc hxm hout hW2
        by_cases hend : x.t = Lex.endTok
        · have hk0 : (x.t.kind == 0) = true := by rw [hend]; rfl
          have ht0 : (x.t.text == []) = true := by rw [hend]; rfl
          have HSE : Hid (Lex.shown (ts.take (k + 1)) = out) := Lib.hid (by rw [HT.out, HSN.out, if_pos hend])
          have HM2 : Hid (Lex.mayShow (ts.take (k + 1))) := Lib.hid (by rw [HT.out]; exact mayShow_snoc HM.out (Or.inl hend))
          have hte : x.t.text = [] := by rw [hend]; rfl
          have htk : x.t.kind = 0 := by rw [hend]; rfl
          rw [hte, htk] at *
          clear hend hte htk
          go_wp2
          go_roundw
          case rel => exact ⟨k + 1, by go_num, by omega, by rw [HSE.out], HM2, HB⟩
          case measure => simp [intOf]; omega
        · have hkt : ((x.t.kind == 0) = true ∧ (x.t.text == []) = false) ∨ (x.t.kind == 0) = false := by
            cases e0 : (x.t.kind == 0) with
            | false => exact Or.inr rfl
            | true =>
              refine Or.inl ⟨rfl, ?_⟩
              cases e1 : (x.t.text == []) with
              | false => rfl
              | true =>
                exfalso
                apply hend
                obtain ⟨⟨xk, xt⟩, xa⟩ := x
                simp only [beq_iff_eq] at e0 e1
                simp only at hend
                show (⟨xk, xt⟩ : Lex.Tok) = ⟨0, []⟩
                rw [e0, e1]
          obtain ⟨s, hs⟩ : ∃ s, s = Lex.written x.t := ⟨_, rfl⟩
          rw [← hs] at HSN HWW
          have HSW := Lib.hid hs
          have hswl : s.length ≤ 200002 := by have := Lex.written_most x.t; rw [← hs] at this; omega
          have hsz : (⟨s.toArray⟩ : ByteArray).size = s.length := size_list _
          have HEND := Lib.hid hend
          have HGS := Lib.hid (fun (h : Lex.good x.t) => h)
          clear hs hend
          by_cases hgd : Lex.good x.t
          · have HSNE : Hid (s ≠ []) := Lib.hid (by obtain ⟨c, r, hw, _⟩ := hgd; rw [HSW.out, hw]; simp)
            have hs0 : (s == []) = false := by cases s with | nil => exact absurd rfl HSNE.out | cons c r => rfl
            have hs4 : ¬ (4096 : Int) < (s.length : Int) := by obtain ⟨c, r, hw, hl, _⟩ := hgd; have := congrArg List.length HSW.out; rw [hw] at this; omega
            have HPS : Hid (Lex.passed s = .ok 0) := Lib.hid (by rw [HSW.out]; exact Lex.good_passed hgd)
            have HTK : Hid (Lex.token s = .ok (x.t, s.length)) := Lib.hid (by obtain ⟨c, r, hw, hl, hb, ht⟩ := hgd; rw [HSW.out, hw]; exact ht)
            have HM2 : Hid (Lex.mayShow (ts.take (k + 1))) := Lib.hid (by rw [HT.out]; exact mayShow_snoc HM.out (Or.inr hgd))
            have hkk : (x.t.kind != x.t.kind) = false := by simp
            have htt : (x.t.text != x.t.text) = false := by simp
            have hss : ((s.length : Int) != (s.length : Int)) = false := by simp
            clear hgd
            have hone : Hid ((out == []) = true ∧ Lex.shown (ts.take (k + 1)) = out ++ s ∨ (out == []) = false ∧ Lex.shown (ts.take (k + 1)) = (out ++ [32]) ++ s) := Lib.hid (by
              by_cases hkp : Lex.kept (ts.take k) = []
              · left; have h := HSZ.out.2 hkp; exact ⟨by rw [h]; rfl, by rw [HT.out, HSN.out, if_neg HEND.out, if_pos hkp, h]; rfl⟩
              · right; exact ⟨by cases hq : (out == []) with | false => rfl | true => exact absurd (HSZ.out.1 (by simpa using hq)) hkp, by rw [HT.out, HSN.out, if_neg HEND.out, if_neg hkp]; simp⟩)
            rcases hkt with ⟨hk0, ht0⟩ | hk0
            all_goals
              go_wp2_with fail
              refine HWW.out.mono ?_
              rintro e w2 ⟨rfl, hb2⟩
              have HCX2 := Lib.hid (HCX.out.keep hgr hb2)
              have hgr2 : g < w2.heap.size := Nat.lt_of_lt_of_le hgr hb2.size
              have HB2 := Lib.hid (below_next HB.out hb2)
              clear hb2 p0 p1 p2
              go_wp2_with fail
              refine (passed_walk s (by omega) _).mono ?_
              rintro e w3 ⟨he, hb3⟩
              rw [HPS.out] at he
              have he2 : e = .returned (.tuple #[.int .i64 0, .agg #[.int .i64 0, .int .i64 0]]) := he
              clear he
              subst he2
              have hbx := below_one w3 (.cells #[.int .i64 0, .int .i64 0] 27)
              have HCX3 := Lib.hid ((HCX2.out.keep hgr2 hb3).keep (Nat.lt_of_lt_of_le hgr2 hb3.size) hbx)
              have HB3 := Lib.hid (below_next (below_next HB2.out hb3) hbx)
              have hgr3 : g < w3.heap.size := Nat.lt_of_lt_of_le hgr2 hb3.size
              clear hb3 hbx
              go_wp2_with fail
              refine (rfirst06_walk s HSNE.out (by omega) _).mono ?_
              rintro e w4 ⟨he, hb4⟩
              rw [HTK.out] at he
              have he2 : e = .returned (.tuple #[.agg #[.int .i64 x.t.kind, .string ⟨(x.t.text : List UInt8).toArray⟩, .int .i64 0], .int .i64 (s.length : Int), .agg #[.int .i64 0, .int .i64 0]]) := he
              clear he
              subst he2
              have hb4' := hb4.mono (show w3.heap.size ≤ _ by simp)
              have hgr4 : g < w4.heap.size := by have := hb4.size; simp at this; omega
              have HCX4 := Lib.hid (HCX3.out.keep (by simp; omega) hb4)
              have HB4 := Lib.hid (below_next HB3.out hb4)
              have HBT := Lib.hid (below_new (below_new HB4.out (.cells #[.int .i64 x.t.kind, .string ⟨(x.t.text : List UInt8).toArray⟩, .int .i64 0] 32)) (.cells #[.int .i64 0, .int .i64 0] 27))
              obtain ⟨p0, p1, p2⟩ := HCX4.out
              clear hb4 hb4'
              go_wp2_with fail
              go_quiet (fail)
              rcases hone.out with ⟨ho, hsh⟩ | ⟨ho, hsh⟩
              · have HSH := Lib.hid hsh
                have hon : (out != []) = false := by unfold bne; rw [ho]; rfl
                clear hsh
                go_wp2
                go_roundw
                case rel => exact ⟨k + 1, by go_num, by omega, by rw [HSH.out, ← ba_append], HM2, Lib.hid (below_drewN HBT.out _)⟩
                case measure => simp [intOf]; omega
              · have HSH := Lib.hid hsh
                have hon : (out != []) = true := by unfold bne; rw [ho]; rfl
                clear hsh
                go_wp2
                go_roundw
                case rel => exact ⟨k + 1, by go_num, by omega, by rw [HSH.out, ← ba_append, ← ba_append], HM2, Lib.hid (below_drewN HBT.out _)⟩
                case measure => simp [intOf]; omega
          · have HNG : Hid (¬ Lex.mayShow ts) := Lib.hid (fun h => by
              rcases h _ HXM.out with h | h
              · exact HEND.out h
              · exact hgd h)
            have HGD := Lib.hid hgd
            clear hgd
            by_cases hs00 : s = []
            · have hs0 : (s == []) = true := by rw [hs00]; rfl
              have hsl0 : s.length = 0 := by rw [hs00]; rfl
              clear hs00
              rcases hkt with ⟨hk0, ht0⟩ | hk0
              all_goals
                go_wp2_with fail
                refine HWW.out.mono ?_
                rintro e w2 ⟨rfl, hb2⟩
                have HCX2 := Lib.hid (HCX.out.keep hgr hb2)
                have hgr2 : g < w2.heap.size := Nat.lt_of_lt_of_le hgr hb2.size
                have HB2 := Lib.hid (below_next HB.out hb2)
                clear hb2 p0 p1 p2
                go_wp2
                go_ret2
                exact ⟨Or.inr ⟨HNG.out, rfl⟩, HB2.out⟩
            · have hs0 : (s == []) = false := by simpa using hs00
              have HSNE := Lib.hid hs00
              clear hs00
              by_cases h46 : 4096 < s.length
              · have hs4 : (4096 : Int) < (s.length : Int) := by omega
                rcases hkt with ⟨hk0, ht0⟩ | hk0
                all_goals
                  go_wp2_with fail
                  refine HWW.out.mono ?_
                  rintro e w2 ⟨rfl, hb2⟩
                  have HCX2 := Lib.hid (HCX.out.keep hgr hb2)
                  have hgr2 : g < w2.heap.size := Nat.lt_of_lt_of_le hgr hb2.size
                  have HB2 := Lib.hid (below_next HB.out hb2)
                  clear hb2 p0 p1 p2
                  go_wp2
                  go_ret2
                  exact ⟨Or.inr ⟨HNG.out, rfl⟩, HB2.out⟩
              · have hs4 : ¬ (4096 : Int) < (s.length : Int) := by omega
                -- what passed and first tell
                obtain ⟨pn, pe, pk, hpv, hpn⟩ : ∃ (pn : Nat) (pe : Int) (pk : Nat), passedR (Lex.passed s) = .tuple #[.int .i64 (pn : Int), .agg #[.int .i64 pe, .int .i64 (pk : Int)]] ∧ (pn = 0 → Lex.passed s = .ok 0 ∨ ∃ x, Lex.token s = .error x) := by
                  cases hp : Lex.passed s with
                  | error j => exact ⟨0, 30, j, rfl, fun _ => Or.inr (Lex.passed_bad hp)⟩
                  | ok n => exact ⟨n, 0, 0, rfl, fun h => Or.inl (by rw [h])⟩
                have HPV := Lib.hid hpv
                have HPN := Lib.hid hpn
                clear hpv hpn
                obtain ⟨fk, ft, fn, fe, fa, hfv, hfn⟩ : ∃ (fk : Int) (ft : List UInt8) (fn : Nat) (fe : Int) (fa : Nat), firstV (Lex.token s) = .tuple #[.agg #[.int .i64 fk, .string ⟨ft.toArray⟩, .int .i64 0], .int .i64 (fn : Int), .agg #[.int .i64 fe, .int .i64 (fa : Int)]] ∧ (fe = 0 → Lex.token s = .ok (⟨fk, ft⟩, fn)) := by
                  cases hp : Lex.token s with
                  | error y => obtain ⟨y, j⟩ := y; exact ⟨0, [], 0, y, j, rfl, fun h => by rcases (Lex.first_err hp).2 with h' | h' <;> rw [h'] at h <;> simp at h⟩
                  | ok y => obtain ⟨⟨yk, yt⟩, n⟩ := y; exact ⟨yk, yt, n, 0, 0, rfl, fun _ => rfl⟩
                have HFV := Lib.hid hfv
                have HFN := Lib.hid hfn
                clear hfv hfn
                have fin : pn = 0 → fe = 0 → fn = s.length → fk = x.t.kind → ft = x.t.text → False := fun h1 h2 h3 h4 h5 => HGD.out (by
                  have h6 := HFN.out h2
                  rw [h4, h5] at h6
                  rcases HPN.out h1 with h7 | ⟨y, h7⟩
                  · exact Lex.good_of (n := fn) (by rw [← HSW.out]; exact HSNE.out) (by rw [← HSW.out]; omega) (by rw [← HSW.out]; exact h7) (by rw [← HSW.out]; exact h6) (by rw [← HSW.out]; exact h3)
                  · rw [h6] at h7; cases h7)
                by_cases hp0 : 0 < pn
                · have hpd : decide ((0 : Int) < (pn : Int)) = true := decide_eq_true (by omega)
                  have hpb : decide (0 < pn) = true := decide_eq_true hp0
                  have hp1 : 0 < pn := hp0
                  clear hp0 fin
                  rcases hkt with ⟨hk0, ht0⟩ | hk0
                  all_goals
                    go_wp2_with fail
                    refine HWW.out.mono ?_
                    rintro e w2 ⟨rfl, hb2⟩
                    have HCX2 := Lib.hid (HCX.out.keep hgr hb2)
                    have hgr2 : g < w2.heap.size := Nat.lt_of_lt_of_le hgr hb2.size
                    have HB2 := Lib.hid (below_next HB.out hb2)
                    clear hb2 p0 p1 p2
                    go_wp2_with fail
                    refine (passed_walk s (by omega) _).mono ?_
                    rintro e w3 ⟨he, hb3⟩
                    rw [HPV.out] at he
                    have he2 : e = .returned (.tuple #[.int .i64 (pn : Int), .agg #[.int .i64 pe, .int .i64 (pk : Int)]]) := he
                    clear he
                    subst he2
                    have hbx := below_one w3 (.cells #[.int .i64 pe, .int .i64 (pk : Int)] 27)
                    have HCX3 := Lib.hid ((HCX2.out.keep hgr2 hb3).keep (Nat.lt_of_lt_of_le hgr2 hb3.size) hbx)
                    have HB3 := Lib.hid (below_next (below_next HB2.out hb3) hbx)
                    have hgr3 : g < w3.heap.size := Nat.lt_of_lt_of_le hgr2 hb3.size
                    clear hb3 hbx
                    go_wp2_with fail
                    refine (rfirst06_walk s HSNE.out (by omega) _).mono ?_
                    rintro e w4 ⟨he, hb4⟩
                    rw [HFV.out] at he
                    have he2 : e = .returned (.tuple #[.agg #[.int .i64 fk, .string ⟨(ft : List UInt8).toArray⟩, .int .i64 0], .int .i64 (fn : Int), .agg #[.int .i64 fe, .int .i64 (fa : Int)]]) := he
                    clear he
                    subst he2
                    have hb4' := hb4.mono (show w3.heap.size ≤ _ by simp)
                    have hgr4 : g < w4.heap.size := by have := hb4.size; simp at this; omega
                    have HCX4 := Lib.hid (HCX3.out.keep (by simp; omega) hb4)
                    have HB4 := Lib.hid (below_next HB3.out hb4)
                    have HBT := Lib.hid (below_new (below_new HB4.out (.cells #[.int .i64 fk, .string ⟨(ft : List UInt8).toArray⟩, .int .i64 0] 32)) (.cells #[.int .i64 fe, .int .i64 (fa : Int)] 27))
                    obtain ⟨p0, p1, p2⟩ := HCX4.out
                    clear hb4 hb4'
                    go_wp2_with fail
                    go_quiet (fail)
                    go_wp2
                    go_ret2
                    exact ⟨Or.inr ⟨HNG.out, rfl⟩, below_drewN HBT.out _⟩
                · have hpd : decide ((0 : Int) < (pn : Int)) = false := decide_eq_false (by omega)
                  have hpb : decide (0 < pn) = false := decide_eq_false hp0
                  have hpz : pn = 0 := by omega
                  by_cases hf0 : fe ≠ 0
                  · have hfd : (fe != 0) = true := by simpa using hf0
                    have hfe : (fe == 0) = false := by simpa using hf0
                    clear hp0 hf0 hpz fin
                    rcases hkt with ⟨hk0, ht0⟩ | hk0
                    all_goals
                      go_wp2_with fail
                      refine HWW.out.mono ?_
                      rintro e w2 ⟨rfl, hb2⟩
                      have HCX2 := Lib.hid (HCX.out.keep hgr hb2)
                      have hgr2 : g < w2.heap.size := Nat.lt_of_lt_of_le hgr hb2.size
                      have HB2 := Lib.hid (below_next HB.out hb2)
                      clear hb2 p0 p1 p2
                      go_wp2_with fail
                      refine (passed_walk s (by omega) _).mono ?_
                      rintro e w3 ⟨he, hb3⟩
                      rw [HPV.out] at he
                      have he2 : e = .returned (.tuple #[.int .i64 (pn : Int), .agg #[.int .i64 pe, .int .i64 (pk : Int)]]) := he
                      clear he
                      subst he2
                      have hbx := below_one w3 (.cells #[.int .i64 pe, .int .i64 (pk : Int)] 27)
                      have HCX3 := Lib.hid ((HCX2.out.keep hgr2 hb3).keep (Nat.lt_of_lt_of_le hgr2 hb3.size) hbx)
                      have HB3 := Lib.hid (below_next (below_next HB2.out hb3) hbx)
                      have hgr3 : g < w3.heap.size := Nat.lt_of_lt_of_le hgr2 hb3.size
                      clear hb3 hbx
                      go_wp2_with fail
                      refine (rfirst06_walk s HSNE.out (by omega) _).mono ?_
                      rintro e w4 ⟨he, hb4⟩
                      rw [HFV.out] at he
                      have he2 : e = .returned (.tuple #[.agg #[.int .i64 fk, .string ⟨(ft : List UInt8).toArray⟩, .int .i64 0], .int .i64 (fn : Int), .agg #[.int .i64 fe, .int .i64 (fa : Int)]]) := he
                      clear he
                      subst he2
                      have hb4' := hb4.mono (show w3.heap.size ≤ _ by simp)
                      have hgr4 : g < w4.heap.size := by have := hb4.size; simp at this; omega
                      have HCX4 := Lib.hid (HCX3.out.keep (by simp; omega) hb4)
                      have HB4 := Lib.hid (below_next HB3.out hb4)
                      have HBT := Lib.hid (below_new (below_new HB4.out (.cells #[.int .i64 fk, .string ⟨(ft : List UInt8).toArray⟩, .int .i64 0] 32)) (.cells #[.int .i64 fe, .int .i64 (fa : Int)] 27))
                      obtain ⟨p0, p1, p2⟩ := HCX4.out
                      clear hb4 hb4'
                      go_wp2_with fail
                      go_quiet (fail)
                      go_wp2
                      go_ret2
                      exact ⟨Or.inr ⟨HNG.out, rfl⟩, below_drewN HBT.out _⟩
                  · have hfz : fe = 0 := by simpa using hf0
                    have hfd : (fe != 0) = false := by rw [hfz]; rfl
                    have hfe : (fe == 0) = true := by rw [hfz]; rfl
                    by_cases hn0 : fn ≠ s.length
                    · have hnd : ((fn : Int) != (s.length : Int)) = true := by rw [bne_iff_ne]; omega
                      have hne : ((fn : Int) == (s.length : Int)) = false := by rw [beq_eq_false_iff_ne]; omega
                      clear hp0 hf0 hn0 hpz hfz fin
                      rcases hkt with ⟨hk0, ht0⟩ | hk0
                      all_goals
                        go_wp2_with fail
                        refine HWW.out.mono ?_
                        rintro e w2 ⟨rfl, hb2⟩
                        have HCX2 := Lib.hid (HCX.out.keep hgr hb2)
                        have hgr2 : g < w2.heap.size := Nat.lt_of_lt_of_le hgr hb2.size
                        have HB2 := Lib.hid (below_next HB.out hb2)
                        clear hb2 p0 p1 p2
                        go_wp2_with fail
                        refine (passed_walk s (by omega) _).mono ?_
                        rintro e w3 ⟨he, hb3⟩
                        rw [HPV.out] at he
                        have he2 : e = .returned (.tuple #[.int .i64 (pn : Int), .agg #[.int .i64 pe, .int .i64 (pk : Int)]]) := he
                        clear he
                        subst he2
                        have hbx := below_one w3 (.cells #[.int .i64 pe, .int .i64 (pk : Int)] 27)
                        have HCX3 := Lib.hid ((HCX2.out.keep hgr2 hb3).keep (Nat.lt_of_lt_of_le hgr2 hb3.size) hbx)
                        have HB3 := Lib.hid (below_next (below_next HB2.out hb3) hbx)
                        have hgr3 : g < w3.heap.size := Nat.lt_of_lt_of_le hgr2 hb3.size
                        clear hb3 hbx
                        go_wp2_with fail
                        refine (rfirst06_walk s HSNE.out (by omega) _).mono ?_
                        rintro e w4 ⟨he, hb4⟩
                        rw [HFV.out] at he
                        have he2 : e = .returned (.tuple #[.agg #[.int .i64 fk, .string ⟨(ft : List UInt8).toArray⟩, .int .i64 0], .int .i64 (fn : Int), .agg #[.int .i64 fe, .int .i64 (fa : Int)]]) := he
                        clear he
                        subst he2
                        have hb4' := hb4.mono (show w3.heap.size ≤ _ by simp)
                        have hgr4 : g < w4.heap.size := by have := hb4.size; simp at this; omega
                        have HCX4 := Lib.hid (HCX3.out.keep (by simp; omega) hb4)
                        have HB4 := Lib.hid (below_next HB3.out hb4)
                        have HBT := Lib.hid (below_new (below_new HB4.out (.cells #[.int .i64 fk, .string ⟨(ft : List UInt8).toArray⟩, .int .i64 0] 32)) (.cells #[.int .i64 fe, .int .i64 (fa : Int)] 27))
                        obtain ⟨p0, p1, p2⟩ := HCX4.out
                        clear hb4 hb4'
                        go_wp2_with fail
                        go_quiet (fail)
                        go_wp2
                        go_ret2
                        exact ⟨Or.inr ⟨HNG.out, rfl⟩, below_drewN HBT.out _⟩
                    · have hnz : fn = s.length := by simpa using hn0
                      have hnd : ((fn : Int) != (s.length : Int)) = false := by rw [hnz]; simp
                      have hne : ((fn : Int) == (s.length : Int)) = true := by rw [hnz]; simp
                      by_cases hk1 : fk ≠ x.t.kind
                      · have hkd : (fk != x.t.kind) = true := by simpa using hk1
                        have hke : (fk == x.t.kind) = false := by simpa using hk1
                        clear hp0 hf0 hn0 hk1 hpz hfz hnz fin
                        rcases hkt with ⟨hk0, ht0⟩ | hk0
                        all_goals
                          go_wp2_with fail
                          refine HWW.out.mono ?_
                          rintro e w2 ⟨rfl, hb2⟩
                          have HCX2 := Lib.hid (HCX.out.keep hgr hb2)
                          have hgr2 : g < w2.heap.size := Nat.lt_of_lt_of_le hgr hb2.size
                          have HB2 := Lib.hid (below_next HB.out hb2)
                          clear hb2 p0 p1 p2
                          go_wp2_with fail
                          refine (passed_walk s (by omega) _).mono ?_
                          rintro e w3 ⟨he, hb3⟩
                          rw [HPV.out] at he
                          have he2 : e = .returned (.tuple #[.int .i64 (pn : Int), .agg #[.int .i64 pe, .int .i64 (pk : Int)]]) := he
                          clear he
                          subst he2
                          have hbx := below_one w3 (.cells #[.int .i64 pe, .int .i64 (pk : Int)] 27)
                          have HCX3 := Lib.hid ((HCX2.out.keep hgr2 hb3).keep (Nat.lt_of_lt_of_le hgr2 hb3.size) hbx)
                          have HB3 := Lib.hid (below_next (below_next HB2.out hb3) hbx)
                          have hgr3 : g < w3.heap.size := Nat.lt_of_lt_of_le hgr2 hb3.size
                          clear hb3 hbx
                          go_wp2_with fail
                          refine (rfirst06_walk s HSNE.out (by omega) _).mono ?_
                          rintro e w4 ⟨he, hb4⟩
                          rw [HFV.out] at he
                          have he2 : e = .returned (.tuple #[.agg #[.int .i64 fk, .string ⟨(ft : List UInt8).toArray⟩, .int .i64 0], .int .i64 (fn : Int), .agg #[.int .i64 fe, .int .i64 (fa : Int)]]) := he
                          clear he
                          subst he2
                          have hb4' := hb4.mono (show w3.heap.size ≤ _ by simp)
                          have hgr4 : g < w4.heap.size := by have := hb4.size; simp at this; omega
                          have HCX4 := Lib.hid (HCX3.out.keep (by simp; omega) hb4)
                          have HB4 := Lib.hid (below_next HB3.out hb4)
                          have HBT := Lib.hid (below_new (below_new HB4.out (.cells #[.int .i64 fk, .string ⟨(ft : List UInt8).toArray⟩, .int .i64 0] 32)) (.cells #[.int .i64 fe, .int .i64 (fa : Int)] 27))
                          obtain ⟨p0, p1, p2⟩ := HCX4.out
                          clear hb4 hb4'
                          go_wp2_with fail
                          go_quiet (fail)
                          go_wp2
                          go_ret2
                          exact ⟨Or.inr ⟨HNG.out, rfl⟩, below_drewN HBT.out _⟩
                      · have hkz : fk = x.t.kind := by simpa using hk1
                        have hkd : (fk != x.t.kind) = false := by rw [hkz]; simp
                        have hke : (fk == x.t.kind) = true := by rw [hkz]; simp
                        by_cases hx1 : ft ≠ x.t.text
                        · have hxd : (ft != x.t.text) = true := by simpa using hx1
                          have hxe : (ft == x.t.text) = false := by simpa using hx1
                          clear hp0 hf0 hn0 hk1 hx1 hpz hfz hnz hkz fin
                          rcases hkt with ⟨hk0, ht0⟩ | hk0
                          all_goals
                            go_wp2_with fail
                            refine HWW.out.mono ?_
                            rintro e w2 ⟨rfl, hb2⟩
                            have HCX2 := Lib.hid (HCX.out.keep hgr hb2)
                            have hgr2 : g < w2.heap.size := Nat.lt_of_lt_of_le hgr hb2.size
                            have HB2 := Lib.hid (below_next HB.out hb2)
                            clear hb2 p0 p1 p2
                            go_wp2_with fail
                            refine (passed_walk s (by omega) _).mono ?_
                            rintro e w3 ⟨he, hb3⟩
                            rw [HPV.out] at he
                            have he2 : e = .returned (.tuple #[.int .i64 (pn : Int), .agg #[.int .i64 pe, .int .i64 (pk : Int)]]) := he
                            clear he
                            subst he2
                            have hbx := below_one w3 (.cells #[.int .i64 pe, .int .i64 (pk : Int)] 27)
                            have HCX3 := Lib.hid ((HCX2.out.keep hgr2 hb3).keep (Nat.lt_of_lt_of_le hgr2 hb3.size) hbx)
                            have HB3 := Lib.hid (below_next (below_next HB2.out hb3) hbx)
                            have hgr3 : g < w3.heap.size := Nat.lt_of_lt_of_le hgr2 hb3.size
                            clear hb3 hbx
                            go_wp2_with fail
                            refine (rfirst06_walk s HSNE.out (by omega) _).mono ?_
                            rintro e w4 ⟨he, hb4⟩
                            rw [HFV.out] at he
                            have he2 : e = .returned (.tuple #[.agg #[.int .i64 fk, .string ⟨(ft : List UInt8).toArray⟩, .int .i64 0], .int .i64 (fn : Int), .agg #[.int .i64 fe, .int .i64 (fa : Int)]]) := he
                            clear he
                            subst he2
                            have hb4' := hb4.mono (show w3.heap.size ≤ _ by simp)
                            have hgr4 : g < w4.heap.size := by have := hb4.size; simp at this; omega
                            have HCX4 := Lib.hid (HCX3.out.keep (by simp; omega) hb4)
                            have HB4 := Lib.hid (below_next HB3.out hb4)
                            have HBT := Lib.hid (below_new (below_new HB4.out (.cells #[.int .i64 fk, .string ⟨(ft : List UInt8).toArray⟩, .int .i64 0] 32)) (.cells #[.int .i64 fe, .int .i64 (fa : Int)] 27))
                            obtain ⟨p0, p1, p2⟩ := HCX4.out
                            clear hb4 hb4'
                            go_wp2_with fail
                            go_quiet (fail)
                            go_wp2
                            go_ret2
                            exact ⟨Or.inr ⟨HNG.out, rfl⟩, below_drewN HBT.out _⟩
                        · exact absurd (by simpa using hx1) (fun h => fin hpz hfz hnz hkz h)
    · have hi1 : ¬ (k : Int) < (l.length : Int) := by omega
      have HT : Hid (ts.take k = ts) := Lib.hid (List.take_of_length_le (by rw [HTL.out]; omega))
      have HMM : Hid (Lex.mayShow ts) := Lib.hid (by rw [← HT.out]; exact HM.out)
      rw [HT.out]
      go_wp2
      go_ret2
      exact ⟨Or.inl ⟨HMM.out, rfl⟩, HB.out⟩
end Go.Proofs.YtebphmkefpaeaaaGreatDoor
