/- ShpR3, ShpR4, together. -/
import Derived.Test.YtkehnmapnckdgaaDoorGShpM
import Derived.Deep.DeepCutAuto
/- The document's fits of layer 7. -/
namespace Go.Proofs.YtkehnmapnckdgaaDoor
open Go.RowKit Shp
set_option linter.unusedVariables false

theorem isEmpty_of {l : List UInt8} {b : Bool} (h : (l == []) = b) : l.isEmpty = b := by cases l <;> simp_all
theorem isNil_dec {l : List (List UInt8)} : ((l.length : Int) == 0) = decide (l.length = 0) := by rw [Bool.eq_iff_iff]; simp

set_option maxRecDepth 100000 in
set_option maxHeartbeats 2000000 in
theorem rfits_named (t : Sh) (q : Ptr) (w : World) (hq : ShAt w w.heap.size q t) (hk : t.kind = 9 ∨ t.kind = 10) :
    Calls Tryd.prog 42 #[.agg #[.int .i64 t.kind, .string ⟨t.of_.toArray⟩, .string ⟨t.name.toArray⟩, .slice q.A t.names.length q.c, .slice q.P t.parts.length q.d]] w
      fun e w' => e = .returned (.bool (fits t)) ∧ Below w.heap.size w w' := by
  have HS := Lib.hid hq.small
  have hB := box5_new w t q
  have HB := Lib.hid hB
  have hb0 := below_one w (.cells #[.int .i64 t.kind, .string ⟨t.of_.toArray⟩, .string ⟨t.name.toArray⟩, .slice q.A t.names.length q.c, .slice q.P t.parts.length q.d] 25)
  have HB0 := Lib.hid hb0
  have HF := Lib.hid (fits_name hk)
  have HO : Hid (ofOk t = (Lex.isName t.of_ || (t.of_ == [] && decide (t.kind = 9) && !plain t.name))) := Lib.hid rfl
  have HPL : Hid (plain t.name = (t.name == [73, 110, 116] || t.name == [66, 111, 111, 108] || t.name == [84, 101, 120, 116] || t.name == [65, 110, 121])) := Lib.hid rfl
  obtain ⟨h9, h10⟩ : ((t.kind == 9) = true ∨ (t.kind == 9) = false ∧ (t.kind == 10) = true) ∧ True := ⟨by rcases hk with h | h <;> simp [h], trivial⟩
  have HD9 : Hid (decide (t.kind = 9) = (t.kind == 9)) := Lib.hid (by rw [Bool.eq_iff_iff]; simp)
  clear hB hb0 hq h10 hk
  rcases h9 with h9 | ⟨h9, h10⟩
  all_goals
    have H9 := Lib.hid h9
    go_enter Tryd.func42, Tryd.ntmps42
    go_upto_region 1 with fail
    generalize hW0 : w.alloc (.cells #[.int .i64 t.kind, .string ⟨t.of_.toArray⟩, .string ⟨t.name.toArray⟩, .slice q.A t.names.length q.c, .slice q.P t.parts.length q.d] 25) = W0 at HB HB0 ⊢
    clear hW0
    obtain ⟨_, ⟨c0, c1, c2, c3, c4⟩, _⟩ := HB.out
    go_upto_region 2 with fail
    go_cut [3] (fun p wx => p = .bool (plain t.name) ∧ W0 = wx)
    case first =>
      cases e1 : (t.name == [73, 110, 116])
      · cases e2 : (t.name == [66, 111, 111, 108])
        · cases e3 : (t.name == [84, 101, 120, 116])
          · cases e4 : (t.name == [65, 110, 121])
            all_goals
              have HE : Hid _ := Lib.hid (show plain t.name = _ from by rw [HPL.out, e1, e2, e3, e4])
              go_wp2_with fail
              go_meet
              exact ⟨by rw [HE.out]; rfl, rfl⟩
          · have HE : Hid _ := Lib.hid (show plain t.name = _ from by rw [HPL.out, e1, e2, e3])
            go_wp2_with fail
            go_meet
            exact ⟨by rw [HE.out]; rfl, rfl⟩
        · have HE : Hid _ := Lib.hid (show plain t.name = _ from by rw [HPL.out, e1, e2])
          go_wp2_with fail
          go_meet
          exact ⟨by rw [HE.out]; rfl, rfl⟩
      · have HE : Hid _ := Lib.hid (show plain t.name = _ from by rw [HPL.out, e1])
        go_wp2_with fail
        go_meet
        exact ⟨by rw [HE.out]; rfl, rfl⟩
    case rest =>
      obtain ⟨rfl, rfl⟩ := hcut
      have hlo := HS.out.o
      have hln := HS.out.n
      generalize plain t.name = pl at HO ⊢
      go_upto_region 3 with fail
      go_cut [4] (fun o wx => o = .bool (ofOk t) ∧ Below W0.heap.size W0 wx)
      case first =>
        have hw := lname_walk t.of_ hlo W0
        have hblk := HB.out.1
        cases hn : Lex.isName t.of_
        · cases ho : (t.of_ == [])
          · have HE : Hid (ofOk t = false) := Lib.hid (by rw [HO.out, hn, ho]; rfl)
            have hoe := isEmpty_of ho
            rw [hn] at hw
            clear hn ho
            go_wp2_with fail
            refine hw.mono ?_
            rintro e w' ⟨rfl, hb'⟩
            have c1' := (hb'.cell (p := ⟨w.heap.size, 1, none⟩) hblk).trans c1
            go_wp2_with fail
            go_meet
            exact ⟨by (first | (rw [HE.out]; done) | (rw [HE.out]; rfl)), hb'⟩
          · have HE : Hid (ofOk t = ((t.kind == 9) && !pl)) := Lib.hid (by rw [HO.out, hn, ho, HD9.out]; rfl)
            rw [H9.out] at HE
            have hoe := isEmpty_of ho
            rw [hn] at hw
            clear hn ho
            go_wp2_with fail
            refine hw.mono ?_
            rintro e w' ⟨rfl, hb'⟩
            have c1' := (hb'.cell (p := ⟨w.heap.size, 1, none⟩) hblk).trans c1
            have c0' := (hb'.cell (p := ⟨w.heap.size, 0, none⟩) hblk).trans c0
            go_wp2_with fail
            go_meet
            exact ⟨by (first | (rw [HE.out]; done) | (rw [HE.out]; rfl)), hb'⟩
        · have HE : Hid (ofOk t = true) := Lib.hid (by rw [HO.out, hn]; rfl)
          rw [hn] at hw
          clear hn
          go_wp2_with fail
          refine hw.mono ?_
          rintro e w' ⟨rfl, hb'⟩
          go_wp2_with fail
          go_meet
          exact ⟨by (first | (rw [HE.out]; done) | (rw [HE.out]; rfl)), hb'⟩
      case rest =>
        obtain ⟨rfl, hb'⟩ := hcut
        have hbw : Below w.heap.size w _ := HB0.out.trans (hb'.mono HB0.out.size)
        obtain ⟨_, ⟨d0, d1, d2, d3, d4⟩, _⟩ := HB.out.next hb'
        clear c0 c1 c2 c3 c4
        have hw := fun wx => lupper_walk t.name hln wx
        have hblk := HB.out.1
        generalize ofOk t = ok at HF ⊢
        cases hn : Lex.isUpper t.name
        · rw [hn] at HF
          simp only [hn] at hw
          clear hn
          go_wp2_with fail
          refine (hw _).mono ?_
          rintro e w' ⟨rfl, hb2⟩
          go_wp2
          go_ret
          exact ⟨by rw [HF.out]; rfl, hbw.trans (hb2.mono hbw.size)⟩
        · rw [hn] at HF
          simp only [hn] at hw
          clear hn
          cases ok
          · go_wp2_with fail
            refine (hw _).mono ?_
            rintro e w' ⟨rfl, hb2⟩
            go_wp2
            go_ret
            exact ⟨by rw [HF.out]; rfl, hbw.trans (hb2.mono hbw.size)⟩
          · have HX := Lib.hid (HB.out.next hb')
            cases hz : decide (t.names.length = 0)
            · have HF2 := HF
              rw [hz] at HF2
              have hz2 : ((t.names.length : Int) == 0) = false := by rw [isNil_dec]; exact hz
              have HZ := Lib.hid hz
              clear hz
              go_wp2_with fail
              refine (hw _).mono ?_
              rintro e w' ⟨rfl, hb2⟩
              obtain ⟨_, ⟨e0, e1, e2, e3, e4⟩, _⟩ := HX.out.next hb2
              go_wp2
              go_ret
              exact ⟨by rw [HF2.out]; rfl, hbw.trans (hb2.mono hbw.size)⟩
            · have HF2 := HF
              rw [hz] at HF2
              have hz2 : ((t.names.length : Int) == 0) = true := by rw [isNil_dec]; exact hz
              clear hz
              go_wp2_with fail
              refine (hw _).mono ?_
              rintro e w' ⟨rfl, hb2⟩
              obtain ⟨_, ⟨e0, e1, e2, e3, e4⟩, _⟩ := HX.out.next hb2
              go_wp2
              go_ret
              exact ⟨ret_bool7 (by rw [HF2.out, Bool.eq_iff_iff]; simp), hbw.trans (hb2.mono hbw.size)⟩
end Go.Proofs.YtkehnmapnckdgaaDoor

/- The document's fits (of what is no name), right, Check, Closed of layer 7. -/
namespace Go.Proofs.YtkehnmapnckdgaaDoor
open Go.RowKit Shp
set_option linter.unusedVariables false

set_option maxRecDepth 100000 in
set_option maxHeartbeats 2000000 in
theorem rfits_other (t : Sh) (q : Ptr) (w : World) (hq : ShAt w w.heap.size q t) (hk : ¬ (t.kind = 9 ∨ t.kind = 10)) :
    Calls Tryd.prog 42 #[.agg #[.int .i64 t.kind, .string ⟨t.of_.toArray⟩, .string ⟨t.name.toArray⟩, .slice q.A t.names.length q.c, .slice q.P t.parts.length q.d]] w
      fun e w' => e = .returned (.bool (fits t)) ∧ Below w.heap.size w w' := by
  have HS := Lib.hid hq.small
  have HA := Lib.hid hq.strs
  have hB := box5_new w t q
  have HB := Lib.hid hB
  have hb0 := below_one w (.cells #[.int .i64 t.kind, .string ⟨t.of_.toArray⟩, .string ⟨t.name.toArray⟩, .slice q.A t.names.length q.c, .slice q.P t.parts.length q.d] 25)
  have HB0 := Lib.hid hb0
  have h9 : (t.kind == 9) = false := by rw [beq_eq_false_iff_ne]; omega
  have h10 : (t.kind == 10) = false := by rw [beq_eq_false_iff_ne]; omega
  have HK := Lib.hid hk
  clear hB hb0 hq hk
  obtain ⟨_, ⟨c0, c1, c2, c3, c4⟩, _⟩ := HB.out
  cases ho : (t.of_ == [])
  · have HF := Lib.hid (fits_full HK.out (bare_of ho))
    have hoe := isEmpty_of ho
    clear ho
    go_enter Tryd.func42, Tryd.ntmps42
    go_wp2
    go_ret
    exact ⟨by rw [HF.out]; rfl, HB0.out⟩
  · have hoe := isEmpty_of ho
    cases hn : (t.name == [])
    · have HF := Lib.hid (fits_full HK.out (bare_name hn))
      have hne := isEmpty_of hn
      clear ho hn
      go_enter Tryd.func42, Tryd.ntmps42
      go_wp2
      go_ret
      exact ⟨by rw [HF.out]; rfl, HB0.out⟩
    · have hne := isEmpty_of hn
      have HBA : Hid (bare t = true) := Lib.hid ((bare_iff t).2 ⟨by simpa using ho, by simpa using hn⟩)
      clear ho hn
      by_cases h67 : t.kind = 6 ∨ t.kind = 7
      · have HF := Lib.hid (fits_rec HBA.out h67)
        have h6 : (t.kind == 6) = true ∨ (t.kind == 6) = false ∧ (t.kind == 7) = true := by rcases h67 with h | h <;> simp [h]
        have hA := (HA.out.next HB0.out)
        have hr := fun W h => rnames_walk q.A q.c t.names t.parts.length W h HS.out.l HS.out.ns
        have hw := hr _ hA
        clear h67 hA hr
        rcases h6 with h6 | ⟨h6, h7⟩
        all_goals
          go_enter Tryd.func42, Tryd.ntmps42
          go_wp2_with fail
          refine hw.mono ?_
          rintro e w' ⟨rfl, hb'⟩
          go_wp2
          go_ret
          exact ⟨by rw [HF.out]; rfl, below_next HB0.out hb'⟩
      · have H67 := Lib.hid h67
        have h6 : (t.kind == 6) = false := by rw [beq_eq_false_iff_ne]; omega
        have h7 : (t.kind == 7) = false := by rw [beq_eq_false_iff_ne]; omega
        clear h67
        by_cases hz : 0 < t.names.length
        · have HF := Lib.hid (fits_more HK.out HBA.out H67.out hz)
          have hz2 : (0 : Int) < (t.names.length : Int) := by omega
          go_enter Tryd.func42, Tryd.ntmps42
          go_wp2
          go_ret
          exact ⟨by rw [HF.out]; rfl, HB0.out⟩
        · have HZ := Lib.hid hz
          have hz2 : ¬ (0 : Int) < (t.names.length : Int) := by omega
          have hz3 : ¬ 0 < t.names.length := hz
          by_cases hk8 : t.kind = 8
          · have HF := Lib.hid (fits_fun HBA.out hk8 HZ.out)
            have h8 : (t.kind == 8) = true := by simp [hk8]
            clear hk8
            go_enter Tryd.func42, Tryd.ntmps42
            go_wp2
            go_ret
            exact ⟨ret_bool7 (by rw [HF.out, Bool.eq_iff_iff]; simp; try omega), HB0.out⟩
          · have h8 : (t.kind == 8) = false := by rw [beq_eq_false_iff_ne]; omega
            by_cases hk5 : t.kind = 5
            · have HF := Lib.hid (fits_list HBA.out hk5 HZ.out)
              have h5 : (t.kind == 5) = true := by simp [hk5]
              clear hk8 hk5
              go_enter Tryd.func42, Tryd.ntmps42
              go_wp2
              go_ret
              exact ⟨ret_bool7 (by rw [HF.out, Bool.eq_iff_iff]; simp; try omega), HB0.out⟩
            · have h5 : (t.kind == 5) = false := by rw [beq_eq_false_iff_ne]; omega
              have HF := Lib.hid (fits_rest HBA.out HK.out H67.out HZ.out hk8 hk5)
              clear hk8 hk5
              cases e1 : decide (1 ≤ t.kind)
              · have HF2 : Hid (fits t = false) := Lib.hid (by rw [HF.out, e1]; rfl)
                go_enter Tryd.func42, Tryd.ntmps42
                go_wp2
                go_ret
                exact ⟨by rw [HF2.out]; rfl, HB0.out⟩
              · cases e2 : decide (t.kind ≤ 4)
                · have HF2 : Hid (fits t = false) := Lib.hid (by rw [HF.out, e1, e2]; rfl)
                  go_enter Tryd.func42, Tryd.ntmps42
                  go_wp2
                  go_ret
                  exact ⟨by rw [HF2.out]; rfl, HB0.out⟩
                · have HF2 : Hid (fits t = decide (t.parts.length = 0)) := Lib.hid (by rw [HF.out, e1, e2]; rfl)
                  go_enter Tryd.func42, Tryd.ntmps42
                  go_wp2
                  go_ret
                  exact ⟨ret_bool7 (by rw [HF2.out, Bool.eq_iff_iff]; simp), HB0.out⟩

theorem rfits_walk (t : Sh) (q : Ptr) (w : World) (hq : ShAt w w.heap.size q t) :
    Calls Tryd.prog 42 #[.agg #[.int .i64 t.kind, .string ⟨t.of_.toArray⟩, .string ⟨t.name.toArray⟩, .slice q.A t.names.length q.c, .slice q.P t.parts.length q.d]] w
      fun e w' => e = .returned (.bool (fits t)) ∧ Below w.heap.size w w' := by
  by_cases hk : t.kind = 9 ∨ t.kind = 10
  · exact rfits_named t q w hq hk
  · exact rfits_other t q w hq hk

set_option maxRecDepth 100000 in
set_option maxHeartbeats 1000000 in
theorem rright_walk (t : Sh) : ∀ (q : Ptr) (w : World), ShAt w w.heap.size q t →
    Calls Tryd.prog 28 #[.agg #[.int .i64 t.kind, .string ⟨t.of_.toArray⟩, .string ⟨t.name.toArray⟩, .slice q.A t.names.length q.c, .slice q.P t.parts.length q.d]] w
      fun e w' => e = .returned (.bool (right t)) ∧ Below w.heap.size w w' := by
  induction t using Sh.ind with
  | h t ih =>
  intro q w hq
  have HM := Lib.hid hq.small.m
  have HP := Lib.hid hq.part
  have HD : Hid (right t = (fits t && rights t.parts)) := Lib.hid (right_eq t)
  have hB := box5_new w t q
  have HB := Lib.hid hB
  have hb0 := below_one w (.cells #[.int .i64 t.kind, .string ⟨t.of_.toArray⟩, .string ⟨t.name.toArray⟩, .slice q.A t.names.length q.c, .slice q.P t.parts.length q.d] 25)
  have HB0 := Lib.hid hb0
  have hf := rfits_walk t q _ (hq.next hb0)
  have HQ := Lib.hid hq
  clear hb0 hq
  obtain ⟨_, ⟨c0, c1, c2, c3, c4⟩, _⟩ := hB
  have ih := ih
  cases hft : fits t with
  | false =>
    have HF : Hid (right t = false) := Lib.hid (by rw [HD.out, hft]; rfl)
    rw [hft] at hf
    clear hft ih
    go_enter Tryd.func28, Tryd.ntmps28
    go_wp2_with fail
    refine hf.mono ?_
    rintro e w' ⟨rfl, hb'⟩
    go_wp2
    go_ret
    exact ⟨by rw [HF.out]; rfl, below_next HB0.out hb'⟩
  | true =>
    have HFT := Lib.hid hft
    rw [hft] at hf
    clear hft
    go_enter Tryd.func28, Tryd.ntmps28
    go_wp2_with fail
    refine hf.mono ?_
    rintro e W0 ⟨rfl, hb'⟩
    have HB1 := Lib.hid (HB.out.next hb')
    have HBW : Hid (Below w.heap.size w W0) := Lib.hid (below_next HB0.out hb')
    clear hf hb' c0 c1 c2 c3 c4 HB HB0
    go_wp2_with fail
    go_loopw [3] (fun ii wr => ∃ i : Nat, ii = .int .i64 i ∧ i ≤ t.parts.length ∧ Hid (∀ j (h : j < t.parts.length), j < i → right (t.parts[j]'h) = true) ∧ Below W0.heap.size W0 wr) (fun i _ => t.parts.length - (intOf i).toNat)
    case atStart => exact ⟨0, rfl, Nat.zero_le _, Lib.hid (fun j _ hj => absurd hj (by omega)), Below.refl _ _⟩
    case round =>
      obtain ⟨i, rfl, hi, HN, hb⟩ := hrel
      have hm := HM.out
      obtain ⟨_, ⟨c0, _, _, _, c4⟩, _⟩ := HB1.out.next hb
      by_cases hlt : i < t.parts.length
      · rcases HP.out with h0 | ⟨g, off, qs, hqP, hg, hc, hr⟩
        · omega
        · have hbw : Below w.heap.size w wr := HBW.out.trans (hb.mono HBW.out.size)
          obtain ⟨x, hx⟩ : ∃ x, x = t.parts[i] := ⟨_, rfl⟩
          obtain ⟨p0, p1, p2, p3, p4⟩ := (hc i hlt).keep hg hbw
          have hat : ShAt wr wr.heap.size (qs i) x := by rw [hx]; exact (hr i hlt).next hbw
          have ihx := ih t.parts[i] (List.getElem_mem _) (qs i) wr
          rw [← hx] at p0 p1 p2 p3 p4 ihx
          have IH := ihx hat
          rw [hqP] at c4
          have HX := Lib.hid hx
          clear hx hc hr hat ihx ih hqP
          have hi1 : (i : Int) < (t.parts.length : Int) := by omega
          cases hox : right x with
          | false =>
            rw [hox] at IH
            have HF : Hid (right t = false) := Lib.hid (right_off (p := x) (by rw [HX.out]; exact List.getElem_mem _) hox)
            clear hox
            go_wp2_with (refine IH.mono ?_; rintro e w' ⟨rfl, hb'⟩)
            go_ret
            exact ⟨by rw [HF.out]; rfl, hbw.trans (hb'.mono hbw.size)⟩
          | true =>
            rw [hox] at IH
            have HO := Lib.hid hox
            clear hox
            go_wp2_with (refine IH.mono ?_; rintro e w' ⟨rfl, hb'⟩)
            go_roundw
            case rel => exact ⟨i + 1, by go_num, by omega, Lib.hid (fun j hj hji => by
              rcases Nat.lt_succ_iff_lt_or_eq.1 hji with h | rfl
              · exact HN.out j hj h
              · rw [← HX.out]; exact HO.out), hb.trans (hb'.mono hb.size)⟩
            case measure => simp [intOf]; omega
      · have HF : Hid (right t = true) := Lib.hid (right_on HFT.out (fun p hp => by
          obtain ⟨j, hj, rfl⟩ := List.getElem_of_mem hp
          exact HN.out j hj (by omega)))
        go_wp2
        go_ret
        exact ⟨by rw [HF.out]; rfl, HBW.out.trans (hb.mono HBW.out.size)⟩

theorem sizeTo_big {t : Sh} (h : 400 < size t) : sizeTo 400 t = 401 := by unfold sizeTo; omega
theorem sizeTo_ok {t : Sh} (h : ¬ 400 < size t) : sizeTo 400 t = size t := by unfold sizeTo; omega

set_option maxRecDepth 100000 in
set_option maxHeartbeats 1000000 in
theorem rcheck_walk (t : Sh) (q : Ptr) (w : World) (hq : ShAt w w.heap.size q t) :
    Calls Tryd.prog 12 #[.agg #[.int .i64 t.kind, .string ⟨t.of_.toArray⟩, .string ⟨t.name.toArray⟩, .slice q.A t.names.length q.c, .slice q.P t.parts.length q.d]] w
      fun e w' => e = .returned (.int .i64 (check t)) ∧ Below w.heap.size w w' := by
  have hB := box5_new w t q
  have HB := Lib.hid hB
  have hb0 := below_one w (.cells #[.int .i64 t.kind, .string ⟨t.of_.toArray⟩, .string ⟨t.name.toArray⟩, .slice q.A t.names.length q.c, .slice q.P t.parts.length q.d] 25)
  have HB0 := Lib.hid hb0
  have hs := rsize_walk t q 400 _ (hq.next hb0) (by omega)
  rw [show (((400 : Nat) : Int)) = (400 : Int) from rfl] at hs
  have HQ := Lib.hid hq
  have HC : Hid (check t = if 400 < size t then 3 else if 40 < deep t then 91 else if right t = false then 70 else 0) := Lib.hid rfl
  clear hb0 hq
  obtain ⟨_, ⟨c0, c1, c2, c3, c4⟩, _⟩ := hB
  by_cases h4 : 400 < size t
  · rw [sizeTo_big h4] at hs
    have HF : Hid (check t = 3) := Lib.hid (by rw [HC.out, if_pos h4])
    clear h4
    go_enter Tryd.func12, Tryd.ntmps12
    go_wp2_with fail
    refine hs.mono ?_
    rintro e w' ⟨rfl, hb'⟩
    go_wp2
    go_ret
    exact ⟨ret_int7 HF.out.symm, below_next HB0.out hb'⟩
  · rw [sizeTo_ok h4] at hs
    have h4' : ¬ (400 : Int) < (size t : Int) := by omega
    have hdd := deep_size t
    go_enter Tryd.func12, Tryd.ntmps12
    go_wp2_with fail
    refine hs.mono ?_
    rintro e w1 ⟨rfl, hb1⟩
    have hbw := below_next HB0.out hb1
    have HBW := Lib.hid hbw
    have HB1 := Lib.hid (HB.out.next hb1)
    have hd := rdeep_walk t q w1 (HQ.out.next hbw) (by omega)
    clear hs hb1 hbw c0 c1 c2 c3 c4
    obtain ⟨_, ⟨c0, c1, c2, c3, c4⟩, _⟩ := HB1.out
    by_cases h40 : 40 < deep t
    · have HF : Hid (check t = 91) := Lib.hid (by rw [HC.out, if_neg h4, if_pos h40])
      have h40' : (40 : Int) < (deep t : Int) := by omega
      clear h4 h40 hdd
      go_wp2_with fail
      refine hd.mono ?_
      rintro e w' ⟨rfl, hb'⟩
      go_wp2
      go_ret
      exact ⟨ret_int7 HF.out.symm, below_next HBW.out hb'⟩
    · have h40' : ¬ (40 : Int) < (deep t : Int) := by omega
      have HF : Hid (check t = if right t = false then 70 else 0) := Lib.hid (by rw [HC.out, if_neg h4, if_neg h40])
      clear h4 h40 hdd
      go_wp2_with fail
      refine hd.mono ?_
      rintro e w2 ⟨rfl, hb2⟩
      have hbw := below_next HBW.out hb2
      have HBW2 := Lib.hid hbw
      have HB2 := Lib.hid (HB1.out.next hb2)
      have hr := rright_walk t q w2 (HQ.out.next hbw)
      clear hd hb2 hbw c0 c1 c2 c3 c4
      obtain ⟨_, ⟨c0, c1, c2, c3, c4⟩, _⟩ := HB2.out
      cases hrt : right t
      all_goals
        rw [hrt] at hr HF
        clear hrt
        go_wp2_with fail
        refine hr.mono ?_
        rintro e w' ⟨rfl, hb'⟩
        go_wp2
        go_ret
        exact ⟨ret_int7 (by rw [HF.out]; rfl), below_next HBW2.out hb'⟩

set_option maxRecDepth 100000 in
set_option maxHeartbeats 1000000 in
theorem rclosed_walk (t : Sh) (q : Ptr) (w : World) (hq : ShAt w w.heap.size q t) :
    Calls Tryd.prog 16 #[.agg #[.int .i64 t.kind, .string ⟨t.of_.toArray⟩, .string ⟨t.name.toArray⟩, .slice q.A t.names.length q.c, .slice q.P t.parts.length q.d]] w
      fun e w' => e = .returned (.bool (closed t)) ∧ Below w.heap.size w w' := by
  have hB := box5_new w t q
  have HB := Lib.hid hB
  have hb0 := below_one w (.cells #[.int .i64 t.kind, .string ⟨t.of_.toArray⟩, .string ⟨t.name.toArray⟩, .slice q.A t.names.length q.c, .slice q.P t.parts.length q.d] 25)
  have HB0 := Lib.hid hb0
  have hs := rcheck_walk t q _ (hq.next hb0)
  have HQ := Lib.hid hq
  have HC : Hid (closed t = (decide (check t = 0) && !opened t)) := Lib.hid rfl
  clear hb0 hq
  obtain ⟨_, ⟨c0, c1, c2, c3, c4⟩, _⟩ := hB
  by_cases h0 : check t = 0
  · rw [h0] at hs
    go_enter Tryd.func16, Tryd.ntmps16
    go_wp2_with fail
    refine hs.mono ?_
    rintro e w1 ⟨rfl, hb1⟩
    have hbw := below_next HB0.out hb1
    have HBW := Lib.hid hbw
    have HB1 := Lib.hid (HB.out.next hb1)
    have hd := ropen_walk t q w1 (HQ.out.next hbw)
    have HF : Hid (closed t = !opened t) := Lib.hid (by rw [HC.out, h0]; rfl)
    clear hs hb1 hbw c0 c1 c2 c3 c4 h0
    obtain ⟨_, ⟨c0, c1, c2, c3, c4⟩, _⟩ := HB1.out
    go_wp2_with fail
    refine hd.mono ?_
    rintro e w' ⟨rfl, hb'⟩
    go_wp2
    go_ret
    exact ⟨ret_bool7 HF.out.symm, below_next HBW.out hb'⟩
  · have h0' : (check t == 0) = false := by rw [beq_eq_false_iff_ne]; exact h0
    have HF : Hid (closed t = false) := Lib.hid (by rw [HC.out, decide_eq_false h0]; rfl)
    clear h0
    go_enter Tryd.func16, Tryd.ntmps16
    go_wp2_with fail
    refine hs.mono ?_
    rintro e w1 ⟨rfl, hb1⟩
    go_wp2
    go_ret
    exact ⟨by rw [HF.out]; rfl, below_next HB0.out hb1⟩
end Go.Proofs.YtkehnmapnckdgaaDoor
