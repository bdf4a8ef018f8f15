/- What the proofs of TermsChecks, TermsSames want, part 2. -/
import Derived.Test.YtnkdedejfonbmaaGreatDoorK8n1
set_option linter.unusedVariables false
set_option linter.unusedSimpArgs false
set_option maxRecDepth 100000
set_option maxHeartbeats 16000000
namespace Go.Proofs.YtnkdedejfonbmaaGreatDoor
open Go.RowKit Tms
open Shp (Sh)
theorem Zdg (l : List (List UInt8)) : Tms.names l true = Shp.areNames l := by simp [Tms.names, Shp.areNames]
theorem Zb8 (l : List (List UInt8)) : Tms.names l false = l.all Lex.isName := by simp [Tms.names]
def headOk (t : Tm) : Bool := decide (0 <= t.at_) && Shp.areNames t.names && t.vars.all Lex.isName && shapesOk t.shapes && (decide (t.kind = 1) || decide (t.n = 0)) && (decide (t.kind = 5) || t.of_ == [])
theorem Z7M (t : Tm) : fits t = (headOk t && fitsK t) := by unfold fits headOk; rw [Zdg, Zb8]
theorem Z2x {t : Tm} (h : headOk t = false) : fits t = false := by rw [Z7M, h]; rfl
theorem Z64 {t : Tm} (h : headOk t = true) : fits t = fitsK t := by rw [Z7M, h]; rfl
theorem Zgi (t : Tm) (q : TP) (w : World) (hq : TmAt w w.heap.size q t) (hln : t.name.length <= 1000000000) (hnl : t.names.length <= 1000000000) (h : t.at_ < 0) :
 Y9 33 #[.agg (Y7 t q)] w (.bool (fits t)) := by
 have HF : Hid (fits t = false) := Y1 (Z2x (by unfold headOk; rw [decide_eq_false (by omega)]; rfl))
 have HB0 := Y1 (Z02 w (.cells (Y7 t q) 26))
 have HB := Y1 (Z07 w t q)
 have HQ := Y1 (hq.next HB0.out)
 obtain ⟨a1, ⟨c0, c1, c2, c3, c4, c5, c6, c7, c8⟩, a2⟩ := HB.out
 have hsm := hq.small
 have HSM := Y1 hsm
 clear hq hsm a1 a2
 go_enter Tryz.func33, Tryz.ntmps33
 go_wp2
 go_ret
 exact ⟨Z03 (by rw [HF.out]), HB0.out⟩
theorem Zb9 (t : Tm) (q : TP) (w : World) (hq : TmAt w w.heap.size q t) (hln : t.name.length <= 1000000000) (hnl : t.names.length <= 1000000000) (h : ¬ t.at_ < 0) (h1 : Shp.areNames t.names = false) :
 Y9 33 #[.agg (Y7 t q)] w (.bool (fits t)) := by
 have HF : Hid (fits t = false) := Y1 (Z2x (by unfold headOk; rw [h1]; simp))
 have H1 := Y1 h1
 clear h1
 have HB0 := Y1 (Z02 w (.cells (Y7 t q) 26))
 have HB := Y1 (Z07 w t q)
 have HQ := Y1 (hq.next HB0.out)
 obtain ⟨a1, ⟨c0, c1, c2, c3, c4, c5, c6, c7, c8⟩, a2⟩ := HB.out
 have hsm := hq.small
 have HSM := Y1 hsm
 clear hq hsm a1 a2
 go_enter Tryz.func33, Tryz.ntmps33
 go_wp2_with fail
 generalize w.alloc (.cells (Y7 t q) 26) = W0 at HB HB0 HQ c0 c1 c2 c3 c4 c5 c6 c7 c8 ⊢
 refine (Z13 q.A q.c t.names W0 HQ.out.strs HSM.out.l HSM.out.ns).mono ?_
 rintro e W1 ⟨rfl, hb⟩
 have HW1 := Y1 hb
 rw [H1.out]
 clear hb c0 c1 c2 c3 c4 c5 c6 c7 c8
 obtain ⟨a1, ⟨x0, x1, x2, x3, x4, x5, x6, x7, x8⟩, a2⟩ := HB.out.next HW1.out
 simp only [Nat.zero_add] at x0 x1 x2 x3 x4 x5 x6 x7 x8
 clear a1 a2
 go_wp2
 go_ret
 exact ⟨Z03 (by rw [HF.out]), Z00 HB0.out HW1.out⟩
theorem Zdh (t : Tm) (q : TP) (w : World) (hq : TmAt w w.heap.size q t) (hln : t.name.length <= 1000000000) (hnl : t.names.length <= 1000000000) (h : ¬ t.at_ < 0) (h1 : Shp.areNames t.names = true) (h2 : t.vars.all Lex.isName = false) :
 Y9 33 #[.agg (Y7 t q)] w (.bool (fits t)) := by
 have HF : Hid (fits t = false) := Y1 (Z2x (by unfold headOk; rw [h2]; simp))
 have H1 := Y1 h1
 have H2 := Y1 h2
 clear h1 h2
 have HB0 := Y1 (Z02 w (.cells (Y7 t q) 26))
 have HB := Y1 (Z07 w t q)
 have HQ := Y1 (hq.next HB0.out)
 obtain ⟨a1, ⟨c0, c1, c2, c3, c4, c5, c6, c7, c8⟩, a2⟩ := HB.out
 have hsm := hq.small
 have HSM := Y1 hsm
 clear hq hsm a1 a2
 go_enter Tryz.func33, Tryz.ntmps33
 go_wp2_with fail
 generalize w.alloc (.cells (Y7 t q) 26) = W0 at HB HB0 HQ c0 c1 c2 c3 c4 c5 c6 c7 c8 ⊢
 refine (Z13 q.A q.c t.names W0 HQ.out.strs HSM.out.l HSM.out.ns).mono ?_
 rintro e W1 ⟨rfl, hb⟩
 have HW1 := Y1 hb
 rw [H1.out]
 clear hb c0 c1 c2 c3 c4 c5 c6 c7 c8
 obtain ⟨a1, ⟨x0, x1, x2, x3, x4, x5, x6, x7, x8⟩, a2⟩ := HB.out.next HW1.out
 simp only [Nat.zero_add] at x0 x1 x2 x3 x4 x5 x6 x7 x8
 clear a1 a2
 go_wp2_with fail
 refine (Z1v q.V q.e t.vars W1 (HQ.out.next HW1.out).vars HSM.out.v HSM.out.vs).mono ?_
 rintro e W2 ⟨rfl, hb⟩
 have HW2 := Y1 (Z00 HW1.out hb)
 rw [H2.out]
 clear hb x0 x1 x2 x3 x4 x5 x6 x7 x8
 obtain ⟨a1, ⟨x0, x1, x2, x3, x4, x5, x6, x7, x8⟩, a2⟩ := HB.out.next HW2.out
 simp only [Nat.zero_add] at x0 x1 x2 x3 x4 x5 x6 x7 x8
 clear a1 a2
 go_wp2
 go_ret
 exact ⟨Z03 (by rw [HF.out]), Z00 HB0.out HW2.out⟩
theorem Z9E (t : Tm) (q : TP) (w : World) (hq : TmAt w w.heap.size q t) (hln : t.name.length <= 1000000000) (hnl : t.names.length <= 1000000000) (h : ¬ t.at_ < 0) (h1 : Shp.areNames t.names = true) (h2 : t.vars.all Lex.isName = true) (h3 : shapesOk t.shapes = false) :
 Y9 33 #[.agg (Y7 t q)] w (.bool (fits t)) := by
 have HF : Hid (fits t = false) := Y1 (Z2x (by unfold headOk; rw [h3]; simp))
 have H1 := Y1 h1
 have H2 := Y1 h2
 have H3 := Y1 h3
 clear h1 h2 h3
 have HB0 := Y1 (Z02 w (.cells (Y7 t q) 26))
 have HB := Y1 (Z07 w t q)
 have HQ := Y1 (hq.next HB0.out)
 obtain ⟨a1, ⟨c0, c1, c2, c3, c4, c5, c6, c7, c8⟩, a2⟩ := HB.out
 have hsm := hq.small
 have HSM := Y1 hsm
 clear hq hsm a1 a2
 go_enter Tryz.func33, Tryz.ntmps33
 go_wp2_with fail
 generalize w.alloc (.cells (Y7 t q) 26) = W0 at HB HB0 HQ c0 c1 c2 c3 c4 c5 c6 c7 c8 ⊢
 refine (Z13 q.A q.c t.names W0 HQ.out.strs HSM.out.l HSM.out.ns).mono ?_
 rintro e W1 ⟨rfl, hb⟩
 have HW1 := Y1 hb
 rw [H1.out]
 clear hb c0 c1 c2 c3 c4 c5 c6 c7 c8
 obtain ⟨a1, ⟨x0, x1, x2, x3, x4, x5, x6, x7, x8⟩, a2⟩ := HB.out.next HW1.out
 simp only [Nat.zero_add] at x0 x1 x2 x3 x4 x5 x6 x7 x8
 clear a1 a2
 go_wp2_with fail
 refine (Z1v q.V q.e t.vars W1 (HQ.out.next HW1.out).vars HSM.out.v HSM.out.vs).mono ?_
 rintro e W2 ⟨rfl, hb⟩
 have HW2 := Y1 (Z00 HW1.out hb)
 rw [H2.out]
 clear hb x0 x1 x2 x3 x4 x5 x6 x7 x8
 obtain ⟨a1, ⟨x0, x1, x2, x3, x4, x5, x6, x7, x8⟩, a2⟩ := HB.out.next HW2.out
 simp only [Nat.zero_add] at x0 x1 x2 x3 x4 x5 x6 x7 x8
 clear a1 a2
 go_wp2_with fail
 refine (Z1p q.S q.s t.shapes W2 (HQ.out.next HW2.out).shapes HSM.out.sh).mono ?_
 rintro e W3 ⟨rfl, hb⟩
 have HW3 := Y1 (Z00 HW2.out hb)
 rw [H3.out]
 clear hb x0 x1 x2 x3 x4 x5 x6 x7 x8
 obtain ⟨a1, ⟨x0, x1, x2, x3, x4, x5, x6, x7, x8⟩, a2⟩ := HB.out.next HW3.out
 simp only [Nat.zero_add] at x0 x1 x2 x3 x4 x5 x6 x7 x8
 clear a1 a2
 go_wp2
 go_ret
 exact ⟨Z03 (by rw [HF.out]), Z00 HB0.out HW3.out⟩
theorem Zh5 (t : Tm) (q : TP) (w : World) (hq : TmAt w w.heap.size q t) (hln : t.name.length <= 1000000000) (hnl : t.names.length <= 1000000000) (h : ¬ t.at_ < 0) (h1 : Shp.areNames t.names = true) (h2 : t.vars.all Lex.isName = true) (h3 : shapesOk t.shapes = true) (h4 : t.kind ≠ 1 /\ t.n ≠ 0) :
 Y9 33 #[.agg (Y7 t q)] w (.bool (fits t)) := by
 have HF : Hid (fits t = false) := Y1 (Z2x (by unfold headOk; rw [decide_eq_false h4.1, decide_eq_false h4.2]; simp))
 have H1 := Y1 h1
 have H2 := Y1 h2
 have H3 := Y1 h3
 have e1 : (t.kind != 1) = true := by simpa using h4.1
 have e2 : (t.n != 0) = true := by simpa using h4.2
 clear h1 h2 h3 h4
 have HB0 := Y1 (Z02 w (.cells (Y7 t q) 26))
 have HB := Y1 (Z07 w t q)
 have HQ := Y1 (hq.next HB0.out)
 obtain ⟨a1, ⟨c0, c1, c2, c3, c4, c5, c6, c7, c8⟩, a2⟩ := HB.out
 have hsm := hq.small
 have HSM := Y1 hsm
 clear hq hsm a1 a2
 go_enter Tryz.func33, Tryz.ntmps33
 go_wp2_with fail
 generalize w.alloc (.cells (Y7 t q) 26) = W0 at HB HB0 HQ c0 c1 c2 c3 c4 c5 c6 c7 c8 ⊢
 refine (Z13 q.A q.c t.names W0 HQ.out.strs HSM.out.l HSM.out.ns).mono ?_
 rintro e W1 ⟨rfl, hb⟩
 have HW1 := Y1 hb
 rw [H1.out]
 clear hb c0 c1 c2 c3 c4 c5 c6 c7 c8
 obtain ⟨a1, ⟨x0, x1, x2, x3, x4, x5, x6, x7, x8⟩, a2⟩ := HB.out.next HW1.out
 simp only [Nat.zero_add] at x0 x1 x2 x3 x4 x5 x6 x7 x8
 clear a1 a2
 go_wp2_with fail
 refine (Z1v q.V q.e t.vars W1 (HQ.out.next HW1.out).vars HSM.out.v HSM.out.vs).mono ?_
 rintro e W2 ⟨rfl, hb⟩
 have HW2 := Y1 (Z00 HW1.out hb)
 rw [H2.out]
 clear hb x0 x1 x2 x3 x4 x5 x6 x7 x8
 obtain ⟨a1, ⟨x0, x1, x2, x3, x4, x5, x6, x7, x8⟩, a2⟩ := HB.out.next HW2.out
 simp only [Nat.zero_add] at x0 x1 x2 x3 x4 x5 x6 x7 x8
 clear a1 a2
 go_wp2_with fail
 refine (Z1p q.S q.s t.shapes W2 (HQ.out.next HW2.out).shapes HSM.out.sh).mono ?_
 rintro e W3 ⟨rfl, hb⟩
 have HW3 := Y1 (Z00 HW2.out hb)
 rw [H3.out]
 clear hb x0 x1 x2 x3 x4 x5 x6 x7 x8
 obtain ⟨a1, ⟨x0, x1, x2, x3, x4, x5, x6, x7, x8⟩, a2⟩ := HB.out.next HW3.out
 simp only [Nat.zero_add] at x0 x1 x2 x3 x4 x5 x6 x7 x8
 clear a1 a2
 go_wp2
 go_ret
 exact ⟨Z03 (by rw [HF.out]), Z00 HB0.out HW3.out⟩
theorem Zfa (t : Tm) (q : TP) (w : World) (hq : TmAt w w.heap.size q t) (hln : t.name.length <= 1000000000) (hnl : t.names.length <= 1000000000) (h : ¬ t.at_ < 0) (h1 : Shp.areNames t.names = true) (h2 : t.vars.all Lex.isName = true) (h3 : shapesOk t.shapes = true) (h4 : t.kind = 1) (h5 : t.kind ≠ 5 /\ t.of_ ≠ []) :
 Y9 33 #[.agg (Y7 t q)] w (.bool (fits t)) := by
 have HF : Hid (fits t = false) := Y1 (Z2x (by unfold headOk; rw [decide_eq_false h5.1, show (t.of_ == []) = false by simpa using h5.2]; simp))
 have H1 := Y1 h1
 have H2 := Y1 h2
 have H3 := Y1 h3
 have e1 : (t.kind != 1) = false := by simpa using h4
 have e5 : (t.kind != 5) = true := by simpa using h5.1
 have e6 : t.of_.isEmpty = false := by simpa using h5.2
 clear h1 h2 h3 h4 h5
 have HB0 := Y1 (Z02 w (.cells (Y7 t q) 26))
 have HB := Y1 (Z07 w t q)
 have HQ := Y1 (hq.next HB0.out)
 obtain ⟨a1, ⟨c0, c1, c2, c3, c4, c5, c6, c7, c8⟩, a2⟩ := HB.out
 have hsm := hq.small
 have HSM := Y1 hsm
 clear hq hsm a1 a2
 go_enter Tryz.func33, Tryz.ntmps33
 go_wp2_with fail
 generalize w.alloc (.cells (Y7 t q) 26) = W0 at HB HB0 HQ c0 c1 c2 c3 c4 c5 c6 c7 c8 ⊢
 refine (Z13 q.A q.c t.names W0 HQ.out.strs HSM.out.l HSM.out.ns).mono ?_
 rintro e W1 ⟨rfl, hb⟩
 have HW1 := Y1 hb
 rw [H1.out]
 clear hb c0 c1 c2 c3 c4 c5 c6 c7 c8
 obtain ⟨a1, ⟨x0, x1, x2, x3, x4, x5, x6, x7, x8⟩, a2⟩ := HB.out.next HW1.out
 simp only [Nat.zero_add] at x0 x1 x2 x3 x4 x5 x6 x7 x8
 clear a1 a2
 go_wp2_with fail
 refine (Z1v q.V q.e t.vars W1 (HQ.out.next HW1.out).vars HSM.out.v HSM.out.vs).mono ?_
 rintro e W2 ⟨rfl, hb⟩
 have HW2 := Y1 (Z00 HW1.out hb)
 rw [H2.out]
 clear hb x0 x1 x2 x3 x4 x5 x6 x7 x8
 obtain ⟨a1, ⟨x0, x1, x2, x3, x4, x5, x6, x7, x8⟩, a2⟩ := HB.out.next HW2.out
 simp only [Nat.zero_add] at x0 x1 x2 x3 x4 x5 x6 x7 x8
 clear a1 a2
 go_wp2_with fail
 refine (Z1p q.S q.s t.shapes W2 (HQ.out.next HW2.out).shapes HSM.out.sh).mono ?_
 rintro e W3 ⟨rfl, hb⟩
 have HW3 := Y1 (Z00 HW2.out hb)
 rw [H3.out]
 clear hb x0 x1 x2 x3 x4 x5 x6 x7 x8
 obtain ⟨a1, ⟨x0, x1, x2, x3, x4, x5, x6, x7, x8⟩, a2⟩ := HB.out.next HW3.out
 simp only [Nat.zero_add] at x0 x1 x2 x3 x4 x5 x6 x7 x8
 clear a1 a2
 go_wp2
 go_ret
 exact ⟨Z03 (by rw [HF.out]), Z00 HB0.out HW3.out⟩
theorem Zfb (t : Tm) (q : TP) (w : World) (hq : TmAt w w.heap.size q t) (hln : t.name.length <= 1000000000) (hnl : t.names.length <= 1000000000) (h : ¬ t.at_ < 0) (h1 : Shp.areNames t.names = true) (h2 : t.vars.all Lex.isName = true) (h3 : shapesOk t.shapes = true) (h4 : t.kind ≠ 1) (h6 : t.n = 0) (h5 : t.kind ≠ 5 /\ t.of_ ≠ []) :
 Y9 33 #[.agg (Y7 t q)] w (.bool (fits t)) := by
 have HF : Hid (fits t = false) := Y1 (Z2x (by unfold headOk; rw [decide_eq_false h5.1, show (t.of_ == []) = false by simpa using h5.2]; simp))
 have H1 := Y1 h1
 have H2 := Y1 h2
 have H3 := Y1 h3
 have e1 : (t.kind != 1) = true := by simpa using h4
 have e2 : (t.n != 0) = false := by simpa using h6
 have e5 : (t.kind != 5) = true := by simpa using h5.1
 have e6 : t.of_.isEmpty = false := by simpa using h5.2
 clear h1 h2 h3 h4 h5 h6
 have HB0 := Y1 (Z02 w (.cells (Y7 t q) 26))
 have HB := Y1 (Z07 w t q)
 have HQ := Y1 (hq.next HB0.out)
 obtain ⟨a1, ⟨c0, c1, c2, c3, c4, c5, c6, c7, c8⟩, a2⟩ := HB.out
 have hsm := hq.small
 have HSM := Y1 hsm
 clear hq hsm a1 a2
 go_enter Tryz.func33, Tryz.ntmps33
 go_wp2_with fail
 generalize w.alloc (.cells (Y7 t q) 26) = W0 at HB HB0 HQ c0 c1 c2 c3 c4 c5 c6 c7 c8 ⊢
 refine (Z13 q.A q.c t.names W0 HQ.out.strs HSM.out.l HSM.out.ns).mono ?_
 rintro e W1 ⟨rfl, hb⟩
 have HW1 := Y1 hb
 rw [H1.out]
 clear hb c0 c1 c2 c3 c4 c5 c6 c7 c8
 obtain ⟨a1, ⟨x0, x1, x2, x3, x4, x5, x6, x7, x8⟩, a2⟩ := HB.out.next HW1.out
 simp only [Nat.zero_add] at x0 x1 x2 x3 x4 x5 x6 x7 x8
 clear a1 a2
 go_wp2_with fail
 refine (Z1v q.V q.e t.vars W1 (HQ.out.next HW1.out).vars HSM.out.v HSM.out.vs).mono ?_
 rintro e W2 ⟨rfl, hb⟩
 have HW2 := Y1 (Z00 HW1.out hb)
 rw [H2.out]
 clear hb x0 x1 x2 x3 x4 x5 x6 x7 x8
 obtain ⟨a1, ⟨x0, x1, x2, x3, x4, x5, x6, x7, x8⟩, a2⟩ := HB.out.next HW2.out
 simp only [Nat.zero_add] at x0 x1 x2 x3 x4 x5 x6 x7 x8
 clear a1 a2
 go_wp2_with fail
 refine (Z1p q.S q.s t.shapes W2 (HQ.out.next HW2.out).shapes HSM.out.sh).mono ?_
 rintro e W3 ⟨rfl, hb⟩
 have HW3 := Y1 (Z00 HW2.out hb)
 rw [H3.out]
 clear hb x0 x1 x2 x3 x4 x5 x6 x7 x8
 obtain ⟨a1, ⟨x0, x1, x2, x3, x4, x5, x6, x7, x8⟩, a2⟩ := HB.out.next HW3.out
 simp only [Nat.zero_add] at x0 x1 x2 x3 x4 x5 x6 x7 x8
 clear a1 a2
 go_wp2
 go_ret
 exact ⟨Z03 (by rw [HF.out]), Z00 HB0.out HW3.out⟩
theorem Zgj (t : Tm) (q : TP) (w : World) (hq : TmAt w w.heap.size q t) (hln : t.name.length <= 1000000000) (hnl : t.names.length <= 1000000000) (h : ¬ t.at_ < 0) (h1 : Shp.areNames t.names = true) (h2 : t.vars.all Lex.isName = true) (h3 : shapesOk t.shapes = true) (hk : t.kind = 1) (h5 : t.of_ = []) :
 Y9 33 #[.agg (Y7 t q)] w (.bool (fits t)) := by
 have HY : Hid (fits t = fitsK t) := Y1 (Z64 (by unfold headOk; rw [h1, h2, h3, decide_eq_true (show 0 <= t.at_ by omega)]; simp [hk, h5]))
 have H1 := Y1 h1
 have H2 := Y1 h2
 have H3 := Y1 h3
 have e1 := Y5 1 hk rfl
 have e5 := Y6 5 hk rfl
 have e6 : t.of_.isEmpty = true := by rw [h5]; rfl
 have k1 := Y4 1 hk rfl
 have k2 := Y3 2 hk rfl
 have k3 := Y3 3 hk rfl
 have k4 := Y3 4 hk rfl
 have k5 := Y3 5 hk rfl
 have k6 := Y3 6 hk rfl
 have k7 := Y3 7 hk rfl
 have k8 := Y3 8 hk rfl
 have k9 := Y3 9 hk rfl
 have k10 := Y3 10 hk rfl
 have k11 := Y3 11 hk rfl
 have k12 := Y3 12 hk rfl
 have k13 := Y3 13 hk rfl
 have k14 := Y3 14 hk rfl
 have k15 := Y3 15 hk rfl
 have k16 := Y3 16 hk rfl
 have k17 := Y3 17 hk rfl
 have HK : Hid (fitsK t = (t.name == [] && decide (0 <= t.n) && decide (t.n <= 999999999999999) && lists t 0 0 0 0)) := Y1 (by unfold fitsK; rw [if_pos (by omega)])
 obtain ⟨BR, hBR⟩ : ∃ b, b = (t.name == []) := ⟨_, rfl⟩
 have hbe : t.name.isEmpty = BR := Z0o hBR.symm
 obtain ⟨NM, hNM⟩ : ∃ b, b = Lex.isName t.name := ⟨_, rfl⟩
 rw [<- hBR] at HK
 have HNM := Y1 hNM
 clear h1 h2 h3 hk hBR hNM h5
 have HB0 := Y1 (Z02 w (.cells (Y7 t q) 26))
 have HB := Y1 (Z07 w t q)
 have HQ := Y1 (hq.next HB0.out)
 obtain ⟨a1, ⟨c0, c1, c2, c3, c4, c5, c6, c7, c8⟩, a2⟩ := HB.out
 have hsm := hq.small
 have HSM := Y1 hsm
 clear hq hsm a1 a2
 go_enter Tryz.func33, Tryz.ntmps33
 go_wp2_with fail
 generalize w.alloc (.cells (Y7 t q) 26) = W0 at HB HB0 HQ c0 c1 c2 c3 c4 c5 c6 c7 c8 ⊢
 refine (Z13 q.A q.c t.names W0 HQ.out.strs HSM.out.l HSM.out.ns).mono ?_
 rintro e W1 ⟨rfl, hb⟩
 have HW1 := Y1 hb
 rw [H1.out]
 clear hb c0 c1 c2 c3 c4 c5 c6 c7 c8
 obtain ⟨a1, ⟨x0, x1, x2, x3, x4, x5, x6, x7, x8⟩, a2⟩ := HB.out.next HW1.out
 simp only [Nat.zero_add] at x0 x1 x2 x3 x4 x5 x6 x7 x8
 clear a1 a2
 go_wp2_with fail
 refine (Z1v q.V q.e t.vars W1 (HQ.out.next HW1.out).vars HSM.out.v HSM.out.vs).mono ?_
 rintro e W2 ⟨rfl, hb⟩
 have HW2 := Y1 (Z00 HW1.out hb)
 rw [H2.out]
 clear hb x0 x1 x2 x3 x4 x5 x6 x7 x8
 obtain ⟨a1, ⟨x0, x1, x2, x3, x4, x5, x6, x7, x8⟩, a2⟩ := HB.out.next HW2.out
 simp only [Nat.zero_add] at x0 x1 x2 x3 x4 x5 x6 x7 x8
 clear a1 a2
 go_wp2_with fail
 refine (Z1p q.S q.s t.shapes W2 (HQ.out.next HW2.out).shapes HSM.out.sh).mono ?_
 rintro e W3 ⟨rfl, hb⟩
 have HW3 := Y1 (Z00 HW2.out hb)
 rw [H3.out]
 clear hb x0 x1 x2 x3 x4 x5 x6 x7 x8
 obtain ⟨a1, ⟨x0, x1, x2, x3, x4, x5, x6, x7, x8⟩, a2⟩ := HB.out.next HW3.out
 simp only [Nat.zero_add] at x0 x1 x2 x3 x4 x5 x6 x7 x8
 clear a1 a2
 go_wp2_with fail
 refine (Z0W t.name HSM.out.n W3).mono ?_
 rintro e W4 ⟨rfl, hb⟩
 have HW4 := Y1 (Z00 HW3.out hb)
 rw [<- HNM.out]
 clear hb x0 x1 x2 x3 x4 x5 x6 x7 x8
 obtain ⟨a1, ⟨x0, x1, x2, x3, x4, x5, x6, x7, x8⟩, a2⟩ := HB.out.next HW4.out
 simp only [Nat.zero_add] at x0 x1 x2 x3 x4 x5 x6 x7 x8
 clear a1 a2
 cases BR
 {go_wp2
  go_ret
  exact ⟨Z03 (by rw [HY.out, HK.out] <;> simp), Z00 HB0.out HW4.out⟩}
 {by_cases hp : 0 <= t.n
  {by_cases hp2 : t.n <= 999999999999999
   {rw [decide_eq_true hp, decide_eq_true hp2] at HK
    have hl := Z0s t q 0 0 0 0 W4
    rw [show ((0 : Nat) : Int) = 0 from rfl] at hl
    obtain ⟨LS, hLS⟩ : ∃ b, b = lists t 0 0 0 0 := ⟨_, rfl⟩
    rw [<- hLS] at hl HK
    have HL := Y1 hl
    clear hl hLS
    go_wp2_with fail
    refine HL.out.mono ?_
    rintro e W5 ⟨rfl, hb⟩
    have HW5 := Y1 (Z00 HW4.out hb)
    clear hb HL x0 x1 x2 x3 x4 x5 x6 x7 x8
    go_wp2
    go_ret
    exact ⟨Z03 (by rw [HY.out, HK.out, Bool.true_and, Bool.true_and, Bool.true_and] <;> simp), Z00 HB0.out HW5.out⟩}
   {rw [decide_eq_false hp2] at HK
    go_wp2
    go_ret
    exact ⟨Z03 (by rw [HY.out, HK.out] <;> simp), Z00 HB0.out HW4.out⟩}}
  {rw [decide_eq_false hp] at HK
   go_wp2
   go_ret
   exact ⟨Z03 (by rw [HY.out, HK.out] <;> simp), Z00 HB0.out HW4.out⟩}}
theorem Zgk (t : Tm) (q : TP) (w : World) (hq : TmAt w w.heap.size q t) (hln : t.name.length <= 1000000000) (hnl : t.names.length <= 1000000000) (h : ¬ t.at_ < 0) (h1 : Shp.areNames t.names = true) (h2 : t.vars.all Lex.isName = true) (h3 : shapesOk t.shapes = true) (hk : t.kind = 5) (h4 : t.n = 0) :
 Y9 33 #[.agg (Y7 t q)] w (.bool (fits t)) := by
 have HY : Hid (fits t = fitsK t) := Y1 (Z64 (by unfold headOk; rw [h1, h2, h3, decide_eq_true (show 0 <= t.at_ by omega)]; simp [hk, h4]))
 have H1 := Y1 h1
 have H2 := Y1 h2
 have H3 := Y1 h3
 have e1 := Y6 1 hk rfl
 have e2 : (t.n != 0) = false := by simpa using h4
 have e5 := Y5 5 hk rfl
 have k1 := Y3 1 hk rfl
 have k2 := Y3 2 hk rfl
 have k3 := Y3 3 hk rfl
 have k4 := Y3 4 hk rfl
 have k5 := Y4 5 hk rfl
 have k6 := Y3 6 hk rfl
 have k7 := Y3 7 hk rfl
 have k8 := Y3 8 hk rfl
 have k9 := Y3 9 hk rfl
 have k10 := Y3 10 hk rfl
 have k11 := Y3 11 hk rfl
 have k12 := Y3 12 hk rfl
 have k13 := Y3 13 hk rfl
 have k14 := Y3 14 hk rfl
 have k15 := Y3 15 hk rfl
 have k16 := Y3 16 hk rfl
 have k17 := Y3 17 hk rfl
 have HK : Hid (fitsK t = (Lex.isName t.name && (t.of_ == [] || Lex.isName t.of_) && lists t 0 0 0 0)) := Y1 (by unfold fitsK; rw [if_neg (by omega), if_neg (by omega), if_neg (by omega), if_pos (by omega)])
 obtain ⟨BR, hBR⟩ : ∃ b, b = (t.name == []) := ⟨_, rfl⟩
 have hbe : t.name.isEmpty = BR := Z0o hBR.symm
 obtain ⟨NM, hNM⟩ : ∃ b, b = Lex.isName t.name := ⟨_, rfl⟩
 rw [<- hNM] at HK
 have HNM := Y1 hNM
 clear h1 h2 h3 hk hBR hNM h4
 have HB0 := Y1 (Z02 w (.cells (Y7 t q) 26))
 have HB := Y1 (Z07 w t q)
 have HQ := Y1 (hq.next HB0.out)
 obtain ⟨a1, ⟨c0, c1, c2, c3, c4, c5, c6, c7, c8⟩, a2⟩ := HB.out
 have hsm := hq.small
 have HSM := Y1 hsm
 clear hq hsm a1 a2
 go_enter Tryz.func33, Tryz.ntmps33
 go_wp2_with fail
 generalize w.alloc (.cells (Y7 t q) 26) = W0 at HB HB0 HQ c0 c1 c2 c3 c4 c5 c6 c7 c8 ⊢
 refine (Z13 q.A q.c t.names W0 HQ.out.strs HSM.out.l HSM.out.ns).mono ?_
 rintro e W1 ⟨rfl, hb⟩
 have HW1 := Y1 hb
 rw [H1.out]
 clear hb c0 c1 c2 c3 c4 c5 c6 c7 c8
 obtain ⟨a1, ⟨x0, x1, x2, x3, x4, x5, x6, x7, x8⟩, a2⟩ := HB.out.next HW1.out
 simp only [Nat.zero_add] at x0 x1 x2 x3 x4 x5 x6 x7 x8
 clear a1 a2
 go_wp2_with fail
 refine (Z1v q.V q.e t.vars W1 (HQ.out.next HW1.out).vars HSM.out.v HSM.out.vs).mono ?_
 rintro e W2 ⟨rfl, hb⟩
 have HW2 := Y1 (Z00 HW1.out hb)
 rw [H2.out]
 clear hb x0 x1 x2 x3 x4 x5 x6 x7 x8
 obtain ⟨a1, ⟨x0, x1, x2, x3, x4, x5, x6, x7, x8⟩, a2⟩ := HB.out.next HW2.out
 simp only [Nat.zero_add] at x0 x1 x2 x3 x4 x5 x6 x7 x8
 clear a1 a2
 go_wp2_with fail
 refine (Z1p q.S q.s t.shapes W2 (HQ.out.next HW2.out).shapes HSM.out.sh).mono ?_
 rintro e W3 ⟨rfl, hb⟩
 have HW3 := Y1 (Z00 HW2.out hb)
 rw [H3.out]
 clear hb x0 x1 x2 x3 x4 x5 x6 x7 x8
 obtain ⟨a1, ⟨x0, x1, x2, x3, x4, x5, x6, x7, x8⟩, a2⟩ := HB.out.next HW3.out
 simp only [Nat.zero_add] at x0 x1 x2 x3 x4 x5 x6 x7 x8
 clear a1 a2
 go_wp2_with fail
 refine (Z0W t.name HSM.out.n W3).mono ?_
 rintro e W4 ⟨rfl, hb⟩
 have HW4 := Y1 (Z00 HW3.out hb)
 rw [<- HNM.out]
 clear hb x0 x1 x2 x3 x4 x5 x6 x7 x8
 obtain ⟨a1, ⟨x0, x1, x2, x3, x4, x5, x6, x7, x8⟩, a2⟩ := HB.out.next HW4.out
 simp only [Nat.zero_add] at x0 x1 x2 x3 x4 x5 x6 x7 x8
 clear a1 a2
 cases NM
 {go_wp2
  go_ret
  exact ⟨Z03 (by rw [HY.out, HK.out] <;> simp), Z00 HB0.out HW4.out⟩}
 {cases he : (t.of_ == [])
  {have e6 := Z0o he
   obtain ⟨NO, hNO⟩ : ∃ b, b = Lex.isName t.of_ := ⟨_, rfl⟩
   have HNO := Y1 hNO
   rw [he, <- hNO] at HK
   clear he hNO
   go_wp2_with fail
   refine (Z0W t.of_ HSM.out.o W4).mono ?_
   rintro e W5 ⟨rfl, hb⟩
   have HW5 := Y1 (Z00 HW4.out hb)
   rw [<- HNO.out]
   clear hb x0 x1 x2 x3 x4 x5 x6 x7 x8
   obtain ⟨a1, ⟨x0, x1, x2, x3, x4, x5, x6, x7, x8⟩, a2⟩ := HB.out.next HW5.out
   simp only [Nat.zero_add] at x0 x1 x2 x3 x4 x5 x6 x7 x8
   clear a1 a2
   cases NO
   {go_wp2
    go_ret
    exact ⟨Z03 (by rw [HY.out, HK.out] <;> simp), Z00 HB0.out HW5.out⟩}
   {have hl := Z0s t q 0 0 0 0 W5
    rw [show ((0 : Nat) : Int) = 0 from rfl] at hl
    obtain ⟨LS, hLS⟩ : ∃ b, b = lists t 0 0 0 0 := ⟨_, rfl⟩
    rw [<- hLS] at hl HK
    have HL := Y1 hl
    clear hl hLS
    go_wp2_with fail
    refine HL.out.mono ?_
    rintro e W6 ⟨rfl, hb⟩
    have HW6 := Y1 (Z00 HW5.out hb)
    clear hb HL x0 x1 x2 x3 x4 x5 x6 x7 x8
    go_wp2
    go_ret
    exact ⟨Z03 (by rw [HY.out, HK.out] <;> simp), Z00 HB0.out HW6.out⟩}}
  {have e6 := Z0o he
   rw [he] at HK
   clear he
   have hl := Z0s t q 0 0 0 0 W4
   rw [show ((0 : Nat) : Int) = 0 from rfl] at hl
   obtain ⟨LS, hLS⟩ : ∃ b, b = lists t 0 0 0 0 := ⟨_, rfl⟩
   rw [<- hLS] at hl HK
   have HL := Y1 hl
   clear hl hLS
   go_wp2_with fail
   refine HL.out.mono ?_
   rintro e W5 ⟨rfl, hb⟩
   have HW5 := Y1 (Z00 HW4.out hb)
   clear hb HL x0 x1 x2 x3 x4 x5 x6 x7 x8
   go_wp2
   go_ret
   exact ⟨Z03 (by rw [HY.out, HK.out] <;> simp), Z00 HB0.out HW5.out⟩}}
theorem Zdi (t : Tm) (q : TP) (w : World) (hq : TmAt w w.heap.size q t) (hln : t.name.length <= 1000000000) (hnl : t.names.length <= 1000000000) (h : ¬ t.at_ < 0) (h1 : Shp.areNames t.names = true) (h2 : t.vars.all Lex.isName = true) (h3 : shapesOk t.shapes = true) (n1 : t.kind ≠ 1) (n5 : t.kind ≠ 5) (h4 : t.n = 0) (h5 : t.of_ = []) :
 Y9 33 #[.agg (Y7 t q)] w (.bool (fits t)) := by
 have HY : Hid (fits t = fitsK t) := Y1 (Z64 (by unfold headOk; rw [h1, h2, h3, decide_eq_true (show 0 <= t.at_ by omega)]; simp [h4, h5]))
 have H1 := Y1 h1
 have H2 := Y1 h2
 have H3 := Y1 h3
 have HN := Y1 (And.intro n1 n5)
 have e1 : (t.kind != 1) = true := by simpa using n1
 have e2 : (t.n != 0) = false := by simpa using h4
 have e5 : (t.kind != 5) = true := by simpa using n5
 have e6 : t.of_.isEmpty = true := by rw [h5]; rfl
 obtain ⟨BR, hBR⟩ : ∃ b, b = (t.name == []) := ⟨_, rfl⟩
 have hbe : t.name.isEmpty = BR := Z0o hBR.symm
 obtain ⟨NM, hNM⟩ : ∃ b, b = Lex.isName t.name := ⟨_, rfl⟩
 have HNM := Y1 hNM
 have HBR := Y1 hBR
 clear h1 h2 h3 h4 h5 n1 n5 hBR hNM
 have HB0 := Y1 (Z02 w (.cells (Y7 t q) 26))
 have HB := Y1 (Z07 w t q)
 have HQ := Y1 (hq.next HB0.out)
 obtain ⟨a1, ⟨c0, c1, c2, c3, c4, c5, c6, c7, c8⟩, a2⟩ := HB.out
 have hsm := hq.small
 have HSM := Y1 hsm
 clear hq hsm a1 a2
 go_enter Tryz.func33, Tryz.ntmps33
 go_wp2_with fail
 generalize w.alloc (.cells (Y7 t q) 26) = W0 at HB HB0 HQ c0 c1 c2 c3 c4 c5 c6 c7 c8 ⊢
 refine (Z13 q.A q.c t.names W0 HQ.out.strs HSM.out.l HSM.out.ns).mono ?_
 rintro e W1 ⟨rfl, hb⟩
 have HW1 := Y1 hb
 rw [H1.out]
 clear hb c0 c1 c2 c3 c4 c5 c6 c7 c8
 obtain ⟨a1, ⟨x0, x1, x2, x3, x4, x5, x6, x7, x8⟩, a2⟩ := HB.out.next HW1.out
 simp only [Nat.zero_add] at x0 x1 x2 x3 x4 x5 x6 x7 x8
 clear a1 a2
 go_wp2_with fail
 refine (Z1v q.V q.e t.vars W1 (HQ.out.next HW1.out).vars HSM.out.v HSM.out.vs).mono ?_
 rintro e W2 ⟨rfl, hb⟩
 have HW2 := Y1 (Z00 HW1.out hb)
 rw [H2.out]
 clear hb x0 x1 x2 x3 x4 x5 x6 x7 x8
 obtain ⟨a1, ⟨x0, x1, x2, x3, x4, x5, x6, x7, x8⟩, a2⟩ := HB.out.next HW2.out
 simp only [Nat.zero_add] at x0 x1 x2 x3 x4 x5 x6 x7 x8
 clear a1 a2
 go_wp2_with fail
 refine (Z1p q.S q.s t.shapes W2 (HQ.out.next HW2.out).shapes HSM.out.sh).mono ?_
 rintro e W3 ⟨rfl, hb⟩
 have HW3 := Y1 (Z00 HW2.out hb)
 rw [H3.out]
 clear hb x0 x1 x2 x3 x4 x5 x6 x7 x8
 obtain ⟨a1, ⟨x0, x1, x2, x3, x4, x5, x6, x7, x8⟩, a2⟩ := HB.out.next HW3.out
 simp only [Nat.zero_add] at x0 x1 x2 x3 x4 x5 x6 x7 x8
 clear a1 a2
 go_wp2_with fail
 refine (Z0W t.name HSM.out.n W3).mono ?_
 rintro e W4 ⟨rfl, hb⟩
 have HW4 := Y1 (Z00 HW3.out hb)
 rw [<- HNM.out]
 clear hb x0 x1 x2 x3 x4 x5 x6 x7 x8
 obtain ⟨a1, ⟨x0, x1, x2, x3, x4, x5, x6, x7, x8⟩, a2⟩ := HB.out.next HW4.out
 simp only [Nat.zero_add] at x0 x1 x2 x3 x4 x5 x6 x7 x8
 clear a1 a2
 have hcs : t.kind = 2 \/ t.kind = 3 \/ t.kind = 4 \/ t.kind = 6 \/ t.kind = 7 \/ t.kind = 8 \/ t.kind = 9 \/ t.kind = 10 \/ t.kind = 11 \/ t.kind = 12 \/ t.kind = 13 \/ t.kind = 14 \/ t.kind = 15 \/ t.kind = 16 \/ t.kind = 17 \/ (t.kind < 1 \/ 17 < t.kind) := by have := HN.out; omega
 rcases hcs with hk | hk | hk | hk | hk | hk | hk | hk | hk | hk | hk | hk | hk | hk | hk | hk
 {have k1 : (t.kind == 1) = false := by rw [hk]; rfl
  have k2 := Y4 2 hk rfl
  have k3 := Y3 3 hk rfl
  have k4 := Y3 4 hk rfl
  have k5 := Y3 5 hk rfl
  have k6 := Y3 6 hk rfl
  have k7 := Y3 7 hk rfl
  have k8 := Y3 8 hk rfl
  have k9 := Y3 9 hk rfl
  have k10 := Y3 10 hk rfl
  have k11 := Y3 11 hk rfl
  have k12 := Y3 12 hk rfl
  have k13 := Y3 13 hk rfl
  have k14 := Y3 14 hk rfl
  have k15 := Y3 15 hk rfl
  have k16 := Y3 16 hk rfl
  have k17 := Y3 17 hk rfl
  have HK : Hid (fitsK t = (textOk t.name && lists t 0 0 0 0)) := Y1 (by unfold fitsK; rw [if_neg (by omega), if_pos (by omega)])
  clear hk
  obtain ⟨TX, hTX⟩ : ∃ b, b = textOk t.name := ⟨_, rfl⟩
  have HTX := Y1 hTX
  rw [<- hTX] at HK
  clear hTX
  go_wp2_with fail
  refine (Zd6 t.name hln W4).mono ?_
  rintro e W5 ⟨rfl, hb⟩
  have HW5 := Y1 (Z00 HW4.out hb)
  rw [<- HTX.out]
  clear hb x0 x1 x2 x3 x4 x5 x6 x7 x8
  obtain ⟨a1, ⟨x0, x1, x2, x3, x4, x5, x6, x7, x8⟩, a2⟩ := HB.out.next HW5.out
  simp only [Nat.zero_add] at x0 x1 x2 x3 x4 x5 x6 x7 x8
  clear a1 a2
  cases TX
  {go_wp2
   go_ret
   exact ⟨Z03 (by rw [HY.out, HK.out] <;> simp), Z00 HB0.out HW5.out⟩}
  {have hl := Z0s t q 0 0 0 0 W5
   rw [show ((0 : Nat) : Int) = 0 from rfl] at hl
   obtain ⟨LS, hLS⟩ : ∃ b, b = lists t 0 0 0 0 := ⟨_, rfl⟩
   rw [<- hLS] at hl HK
   have HL := Y1 hl
   clear hl hLS
   go_wp2_with fail
   refine HL.out.mono ?_
   rintro e W6 ⟨rfl, hb⟩
   have HW6 := Y1 (Z00 HW5.out hb)
   clear hb HL x0 x1 x2 x3 x4 x5 x6 x7 x8
   go_wp2
   go_ret
   exact ⟨Z03 (by rw [HY.out, HK.out, Bool.true_and] <;> simp), Z00 HB0.out HW6.out⟩}}
 {have k1 : (t.kind == 1) = false := by rw [hk]; rfl
  have k2 := Y3 2 hk rfl
  have k3 := Y4 3 hk rfl
  have k4 := Y3 4 hk rfl
  have k5 := Y3 5 hk rfl
  have k6 := Y3 6 hk rfl
  have k7 := Y3 7 hk rfl
  have k8 := Y3 8 hk rfl
  have k9 := Y3 9 hk rfl
  have k10 := Y3 10 hk rfl
  have k11 := Y3 11 hk rfl
  have k12 := Y3 12 hk rfl
  have k13 := Y3 13 hk rfl
  have k14 := Y3 14 hk rfl
  have k15 := Y3 15 hk rfl
  have k16 := Y3 16 hk rfl
  have k17 := Y3 17 hk rfl
  have HK : Hid (fitsK t = (t.name == [] && lists t 0 0 0 0)) := Y1 (by unfold fitsK; rw [if_neg (by omega), if_neg (by omega), if_pos (by omega)])
  rw [<- HBR.out] at HK
  clear hk
  cases BR
  {go_wp2
   go_ret
   exact ⟨Z03 (by rw [HY.out, HK.out] <;> simp), Z00 HB0.out HW4.out⟩}
  {have hl := Z0s t q 0 0 0 0 W4
   rw [show ((0 : Nat) : Int) = 0 from rfl] at hl
   obtain ⟨LS, hLS⟩ : ∃ b, b = lists t 0 0 0 0 := ⟨_, rfl⟩
   rw [<- hLS] at hl HK
   have HL := Y1 hl
   clear hl hLS
   go_wp2_with fail
   refine HL.out.mono ?_
   rintro e W5 ⟨rfl, hb⟩
   have HW5 := Y1 (Z00 HW4.out hb)
   clear hb HL x0 x1 x2 x3 x4 x5 x6 x7 x8
   go_wp2
   go_ret
   exact ⟨Z03 (by rw [HY.out, HK.out, Bool.true_and] <;> simp), Z00 HB0.out HW5.out⟩}}
 {have k1 : (t.kind == 1) = false := by rw [hk]; rfl
  have k2 := Y3 2 hk rfl
  have k3 := Y3 3 hk rfl
  have k4 := Y4 4 hk rfl
  have k5 := Y3 5 hk rfl
  have k6 := Y3 6 hk rfl
  have k7 := Y3 7 hk rfl
  have k8 := Y3 8 hk rfl
  have k9 := Y3 9 hk rfl
  have k10 := Y3 10 hk rfl
  have k11 := Y3 11 hk rfl
  have k12 := Y3 12 hk rfl
  have k13 := Y3 13 hk rfl
  have k14 := Y3 14 hk rfl
  have k15 := Y3 15 hk rfl
  have k16 := Y3 16 hk rfl
  have k17 := Y3 17 hk rfl
  have HK : Hid (fitsK t = (t.name == [] && lists t 0 0 0 0)) := Y1 (by unfold fitsK; rw [if_neg (by omega), if_neg (by omega), if_pos (by omega)])
  rw [<- HBR.out] at HK
  clear hk
  cases BR
  {go_wp2
   go_ret
   exact ⟨Z03 (by rw [HY.out, HK.out] <;> simp), Z00 HB0.out HW4.out⟩}
  {have hl := Z0s t q 0 0 0 0 W4
   rw [show ((0 : Nat) : Int) = 0 from rfl] at hl
   obtain ⟨LS, hLS⟩ : ∃ b, b = lists t 0 0 0 0 := ⟨_, rfl⟩
   rw [<- hLS] at hl HK
   have HL := Y1 hl
   clear hl hLS
   go_wp2_with fail
   refine HL.out.mono ?_
   rintro e W5 ⟨rfl, hb⟩
   have HW5 := Y1 (Z00 HW4.out hb)
   clear hb HL x0 x1 x2 x3 x4 x5 x6 x7 x8
   go_wp2
   go_ret
   exact ⟨Z03 (by rw [HY.out, HK.out, Bool.true_and] <;> simp), Z00 HB0.out HW5.out⟩}}
 {have k1 : (t.kind == 1) = false := by rw [hk]; rfl
  have k2 := Y3 2 hk rfl
  have k3 := Y3 3 hk rfl
  have k4 := Y3 4 hk rfl
  have k5 := Y3 5 hk rfl
  have k6 := Y4 6 hk rfl
  have k7 := Y3 7 hk rfl
  have k8 := Y3 8 hk rfl
  have k9 := Y3 9 hk rfl
  have k10 := Y3 10 hk rfl
  have k11 := Y3 11 hk rfl
  have k12 := Y3 12 hk rfl
  have k13 := Y3 13 hk rfl
  have k14 := Y3 14 hk rfl
  have k15 := Y3 15 hk rfl
  have k16 := Y3 16 hk rfl
  have k17 := Y3 17 hk rfl
  have HK : Hid (fitsK t = (t.name == [] && lists t t.names.length 0 t.names.length 1)) := Y1 (by unfold fitsK; rw [if_neg (by omega), if_neg (by omega), if_neg (by omega), if_neg (by omega), if_pos (by omega)])
  rw [<- HBR.out] at HK
  clear hk
  cases BR
  {go_wp2
   go_ret
   exact ⟨Z03 (by rw [HY.out, HK.out] <;> simp), Z00 HB0.out HW4.out⟩}
  {have hl := Z0s t q t.names.length 0 t.names.length 1 W4
   rw [show ((0 : Nat) : Int) = 0 from rfl] at hl
   rw [show ((1 : Nat) : Int) = 1 from rfl] at hl
   obtain ⟨LS, hLS⟩ : ∃ b, b = lists t t.names.length 0 t.names.length 1 := ⟨_, rfl⟩
   rw [<- hLS] at hl HK
   have HL := Y1 hl
   clear hl hLS
   go_wp2_with fail
   refine HL.out.mono ?_
   rintro e W5 ⟨rfl, hb⟩
   have HW5 := Y1 (Z00 HW4.out hb)
   clear hb HL x0 x1 x2 x3 x4 x5 x6 x7 x8
   go_wp2
   go_ret
   exact ⟨Z03 (by rw [HY.out, HK.out, Bool.true_and] <;> simp), Z00 HB0.out HW5.out⟩}}
 {have k1 : (t.kind == 1) = false := by rw [hk]; rfl
  have k2 := Y3 2 hk rfl
  have k3 := Y3 3 hk rfl
  have k4 := Y3 4 hk rfl
  have k5 := Y3 5 hk rfl
  have k6 := Y3 6 hk rfl
  have k7 := Y4 7 hk rfl
  have k8 := Y3 8 hk rfl
  have k9 := Y3 9 hk rfl
  have k10 := Y3 10 hk rfl
  have k11 := Y3 11 hk rfl
  have k12 := Y3 12 hk rfl
  have k13 := Y3 13 hk rfl
  have k14 := Y3 14 hk rfl
  have k15 := Y3 15 hk rfl
  have k16 := Y3 16 hk rfl
  have k17 := Y3 17 hk rfl
  have HK : Hid (fitsK t = (t.name == [] && decide (1 <= t.parts.length) && lists t 0 0 0 t.parts.length)) := Y1 (by unfold fitsK; rw [if_neg (by omega), if_neg (by omega), if_neg (by omega), if_neg (by omega), if_neg (by omega), if_pos (by omega)])
  rw [<- HBR.out] at HK
  clear hk
  cases BR
  {go_wp2
   go_ret
   exact ⟨Z03 (by rw [HY.out, HK.out] <;> simp), Z00 HB0.out HW4.out⟩}
  {by_cases hp : 1 <= t.parts.length
   {have hp1 : (1 : Int) <= (t.parts.length : Int) := by omega
    rw [decide_eq_true hp] at HK
    have hl := Z0s t q 0 0 0 t.parts.length W4
    rw [show ((0 : Nat) : Int) = 0 from rfl] at hl
    obtain ⟨LS, hLS⟩ : ∃ b, b = lists t 0 0 0 t.parts.length := ⟨_, rfl⟩
    rw [<- hLS] at hl HK
    have HL := Y1 hl
    clear hl hLS
    go_wp2_with fail
    refine HL.out.mono ?_
    rintro e W5 ⟨rfl, hb⟩
    have HW5 := Y1 (Z00 HW4.out hb)
    clear hb HL x0 x1 x2 x3 x4 x5 x6 x7 x8
    go_wp2
    go_ret
    exact ⟨Z03 (by rw [HY.out, HK.out, Bool.true_and, Bool.true_and] <;> simp), Z00 HB0.out HW5.out⟩}
   {have hp1 : ¬ (1 : Int) <= (t.parts.length : Int) := by omega
    rw [decide_eq_false hp] at HK
    go_wp2
    go_ret
    exact ⟨Z03 (by rw [HY.out, HK.out] <;> simp), Z00 HB0.out HW4.out⟩}}}
 {have k1 : (t.kind == 1) = false := by rw [hk]; rfl
  have k2 := Y3 2 hk rfl
  have k3 := Y3 3 hk rfl
  have k4 := Y3 4 hk rfl
  have k5 := Y3 5 hk rfl
  have k6 := Y3 6 hk rfl
  have k7 := Y3 7 hk rfl
  have k8 := Y4 8 hk rfl
  have k9 := Y3 9 hk rfl
  have k10 := Y3 10 hk rfl
  have k11 := Y3 11 hk rfl
  have k12 := Y3 12 hk rfl
  have k13 := Y3 13 hk rfl
  have k14 := Y3 14 hk rfl
  have k15 := Y3 15 hk rfl
  have k16 := Y3 16 hk rfl
  have k17 := Y3 17 hk rfl
  have HK : Hid (fitsK t = (t.name == [] && lists t t.names.length 0 0 t.names.length)) := Y1 (by unfold fitsK; rw [if_neg (by omega), if_neg (by omega), if_neg (by omega), if_neg (by omega), if_neg (by omega), if_neg (by omega), if_pos (by omega)])
  rw [<- HBR.out] at HK
  clear hk
  cases BR
  {go_wp2
   go_ret
   exact ⟨Z03 (by rw [HY.out, HK.out] <;> simp), Z00 HB0.out HW4.out⟩}
  {have hl := Z0s t q t.names.length 0 0 t.names.length W4
   rw [show ((0 : Nat) : Int) = 0 from rfl] at hl
   obtain ⟨LS, hLS⟩ : ∃ b, b = lists t t.names.length 0 0 t.names.length := ⟨_, rfl⟩
   rw [<- hLS] at hl HK
   have HL := Y1 hl
   clear hl hLS
   go_wp2_with fail
   refine HL.out.mono ?_
   rintro e W5 ⟨rfl, hb⟩
   have HW5 := Y1 (Z00 HW4.out hb)
   clear hb HL x0 x1 x2 x3 x4 x5 x6 x7 x8
   go_wp2
   go_ret
   exact ⟨Z03 (by rw [HY.out, HK.out, Bool.true_and] <;> simp), Z00 HB0.out HW5.out⟩}}
 {have k1 : (t.kind == 1) = false := by rw [hk]; rfl
  have k2 := Y3 2 hk rfl
  have k3 := Y3 3 hk rfl
  have k4 := Y3 4 hk rfl
  have k5 := Y3 5 hk rfl
  have k6 := Y3 6 hk rfl
  have k7 := Y3 7 hk rfl
  have k8 := Y3 8 hk rfl
  have k9 := Y4 9 hk rfl
  have k10 := Y3 10 hk rfl
  have k11 := Y3 11 hk rfl
  have k12 := Y3 12 hk rfl
  have k13 := Y3 13 hk rfl
  have k14 := Y3 14 hk rfl
  have k15 := Y3 15 hk rfl
  have k16 := Y3 16 hk rfl
  have k17 := Y3 17 hk rfl
  have HK : Hid (fitsK t = (Lex.isName t.name && lists t 0 0 0 1)) := Y1 (by unfold fitsK; rw [if_neg (by omega), if_neg (by omega), if_neg (by omega), if_neg (by omega), if_neg (by omega), if_neg (by omega), if_neg (by omega), if_pos (by omega)])
  rw [<- HNM.out] at HK
  clear hk
  cases NM
  {go_wp2
   go_ret
   exact ⟨Z03 (by rw [HY.out, HK.out] <;> simp), Z00 HB0.out HW4.out⟩}
  {have hl := Z0s t q 0 0 0 1 W4
   rw [show ((0 : Nat) : Int) = 0 from rfl] at hl
   rw [show ((1 : Nat) : Int) = 1 from rfl] at hl
   obtain ⟨LS, hLS⟩ : ∃ b, b = lists t 0 0 0 1 := ⟨_, rfl⟩
   rw [<- hLS] at hl HK
   have HL := Y1 hl
   clear hl hLS
   go_wp2_with fail
   refine HL.out.mono ?_
   rintro e W5 ⟨rfl, hb⟩
   have HW5 := Y1 (Z00 HW4.out hb)
   clear hb HL x0 x1 x2 x3 x4 x5 x6 x7 x8
   go_wp2
   go_ret
   exact ⟨Z03 (by rw [HY.out, HK.out, Bool.true_and] <;> simp), Z00 HB0.out HW5.out⟩}}
 {have k1 : (t.kind == 1) = false := by rw [hk]; rfl
  have k2 := Y3 2 hk rfl
  have k3 := Y3 3 hk rfl
  have k4 := Y3 4 hk rfl
  have k5 := Y3 5 hk rfl
  have k6 := Y3 6 hk rfl
  have k7 := Y3 7 hk rfl
  have k8 := Y3 8 hk rfl
  have k9 := Y3 9 hk rfl
  have k10 := Y4 10 hk rfl
  have k11 := Y3 11 hk rfl
  have k12 := Y3 12 hk rfl
  have k13 := Y3 13 hk rfl
  have k14 := Y3 14 hk rfl
  have k15 := Y3 15 hk rfl
  have k16 := Y3 16 hk rfl
  have k17 := Y3 17 hk rfl
  have HK : Hid (fitsK t = (Lex.isName t.name && lists t 0 0 0 1)) := Y1 (by unfold fitsK; rw [if_neg (by omega), if_neg (by omega), if_neg (by omega), if_neg (by omega), if_neg (by omega), if_neg (by omega), if_neg (by omega), if_pos (by omega)])
  rw [<- HNM.out] at HK
  clear hk
  cases NM
  {go_wp2
   go_ret
   exact ⟨Z03 (by rw [HY.out, HK.out] <;> simp), Z00 HB0.out HW4.out⟩}
  {have hl := Z0s t q 0 0 0 1 W4
   rw [show ((0 : Nat) : Int) = 0 from rfl] at hl
   rw [show ((1 : Nat) : Int) = 1 from rfl] at hl
   obtain ⟨LS, hLS⟩ : ∃ b, b = lists t 0 0 0 1 := ⟨_, rfl⟩
   rw [<- hLS] at hl HK
   have HL := Y1 hl
   clear hl hLS
   go_wp2_with fail
   refine HL.out.mono ?_
   rintro e W5 ⟨rfl, hb⟩
   have HW5 := Y1 (Z00 HW4.out hb)
   clear hb HL x0 x1 x2 x3 x4 x5 x6 x7 x8
   go_wp2
   go_ret
   exact ⟨Z03 (by rw [HY.out, HK.out, Bool.true_and] <;> simp), Z00 HB0.out HW5.out⟩}}
 {have k1 : (t.kind == 1) = false := by rw [hk]; rfl
  have k2 := Y3 2 hk rfl
  have k3 := Y3 3 hk rfl
  have k4 := Y3 4 hk rfl
  have k5 := Y3 5 hk rfl
  have k6 := Y3 6 hk rfl
  have k7 := Y3 7 hk rfl
  have k8 := Y3 8 hk rfl
  have k9 := Y3 9 hk rfl
  have k10 := Y3 10 hk rfl
  have k11 := Y4 11 hk rfl
  have k12 := Y3 12 hk rfl
  have k13 := Y3 13 hk rfl
  have k14 := Y3 14 hk rfl
  have k15 := Y3 15 hk rfl
  have k16 := Y3 16 hk rfl
  have k17 := Y3 17 hk rfl
  have HK : Hid (fitsK t = (t.name == [] && lists t 0 0 1 t.parts.length)) := Y1 (by unfold fitsK; rw [if_neg (by omega), if_neg (by omega), if_neg (by omega), if_neg (by omega), if_neg (by omega), if_neg (by omega), if_neg (by omega), if_neg (by omega), if_pos (by omega)])
  rw [<- HBR.out] at HK
  clear hk
  cases BR
  {go_wp2
   go_ret
   exact ⟨Z03 (by rw [HY.out, HK.out] <;> simp), Z00 HB0.out HW4.out⟩}
  {have hl := Z0s t q 0 0 1 t.parts.length W4
   rw [show ((0 : Nat) : Int) = 0 from rfl] at hl
   rw [show ((1 : Nat) : Int) = 1 from rfl] at hl
   obtain ⟨LS, hLS⟩ : ∃ b, b = lists t 0 0 1 t.parts.length := ⟨_, rfl⟩
   rw [<- hLS] at hl HK
   have HL := Y1 hl
   clear hl hLS
   go_wp2_with fail
   refine HL.out.mono ?_
   rintro e W5 ⟨rfl, hb⟩
   have HW5 := Y1 (Z00 HW4.out hb)
   clear hb HL x0 x1 x2 x3 x4 x5 x6 x7 x8
   go_wp2
   go_ret
   exact ⟨Z03 (by rw [HY.out, HK.out, Bool.true_and] <;> simp), Z00 HB0.out HW5.out⟩}}
 {have k1 : (t.kind == 1) = false := by rw [hk]; rfl
  have k2 := Y3 2 hk rfl
  have k3 := Y3 3 hk rfl
  have k4 := Y3 4 hk rfl
  have k5 := Y3 5 hk rfl
  have k6 := Y3 6 hk rfl
  have k7 := Y3 7 hk rfl
  have k8 := Y3 8 hk rfl
  have k9 := Y3 9 hk rfl
  have k10 := Y3 10 hk rfl
  have k11 := Y3 11 hk rfl
  have k12 := Y4 12 hk rfl
  have k13 := Y3 13 hk rfl
  have k14 := Y3 14 hk rfl
  have k15 := Y3 15 hk rfl
  have k16 := Y3 16 hk rfl
  have k17 := Y3 17 hk rfl
  have HK : Hid (fitsK t = (t.name == [] && lists t 0 0 1 3)) := Y1 (by unfold fitsK; rw [if_neg (by omega), if_neg (by omega), if_neg (by omega), if_neg (by omega), if_neg (by omega), if_neg (by omega), if_neg (by omega), if_neg (by omega), if_neg (by omega), if_pos (by omega)])
  rw [<- HBR.out] at HK
  clear hk
  cases BR
  {go_wp2
   go_ret
   exact ⟨Z03 (by rw [HY.out, HK.out] <;> simp), Z00 HB0.out HW4.out⟩}
  {have hl := Z0s t q 0 0 1 3 W4
   rw [show ((0 : Nat) : Int) = 0 from rfl] at hl
   rw [show ((1 : Nat) : Int) = 1 from rfl] at hl
   rw [show ((3 : Nat) : Int) = 3 from rfl] at hl
   obtain ⟨LS, hLS⟩ : ∃ b, b = lists t 0 0 1 3 := ⟨_, rfl⟩
   rw [<- hLS] at hl HK
   have HL := Y1 hl
   clear hl hLS
   go_wp2_with fail
   refine HL.out.mono ?_
   rintro e W5 ⟨rfl, hb⟩
   have HW5 := Y1 (Z00 HW4.out hb)
   clear hb HL x0 x1 x2 x3 x4 x5 x6 x7 x8
   go_wp2
   go_ret
   exact ⟨Z03 (by rw [HY.out, HK.out, Bool.true_and] <;> simp), Z00 HB0.out HW5.out⟩}}
 {have k1 : (t.kind == 1) = false := by rw [hk]; rfl
  have k2 := Y3 2 hk rfl
  have k3 := Y3 3 hk rfl
  have k4 := Y3 4 hk rfl
  have k5 := Y3 5 hk rfl
  have k6 := Y3 6 hk rfl
  have k7 := Y3 7 hk rfl
  have k8 := Y3 8 hk rfl
  have k9 := Y3 9 hk rfl
  have k10 := Y3 10 hk rfl
  have k11 := Y3 11 hk rfl
  have k12 := Y3 12 hk rfl
  have k13 := Y4 13 hk rfl
  have k14 := Y3 14 hk rfl
  have k15 := Y3 15 hk rfl
  have k16 := Y3 16 hk rfl
  have k17 := Y3 17 hk rfl
  have HK : Hid (fitsK t = (t.name == [] && lists t t.names.length t.names.length (t.names.length + 1) (t.names.length + 1))) := Y1 (by unfold fitsK; rw [if_neg (by omega), if_neg (by omega), if_neg (by omega), if_neg (by omega), if_neg (by omega), if_neg (by omega), if_neg (by omega), if_neg (by omega), if_neg (by omega), if_neg (by omega), if_pos (by omega)])
  rw [<- HBR.out] at HK
  clear hk
  cases BR
  {go_wp2
   go_ret
   exact ⟨Z03 (by rw [HY.out, HK.out] <;> simp), Z00 HB0.out HW4.out⟩}
  {have hl := Z0s t q t.names.length t.names.length (t.names.length + 1) (t.names.length + 1) W4
   rw [show ((t.names.length + 1 : Nat) : Int) = (t.names.length : Int) + 1 from rfl] at hl
   obtain ⟨LS, hLS⟩ : ∃ b, b = lists t t.names.length t.names.length (t.names.length + 1) (t.names.length + 1) := ⟨_, rfl⟩
   rw [<- hLS] at hl HK
   have HL := Y1 hl
   clear hl hLS
   go_wp2_with fail
   refine HL.out.mono ?_
   rintro e W5 ⟨rfl, hb⟩
   have HW5 := Y1 (Z00 HW4.out hb)
   clear hb HL x0 x1 x2 x3 x4 x5 x6 x7 x8
   go_wp2
   go_ret
   exact ⟨Z03 (by rw [HY.out, HK.out, Bool.true_and] <;> simp), Z00 HB0.out HW5.out⟩}}
 {have k1 : (t.kind == 1) = false := by rw [hk]; rfl
  have k2 := Y3 2 hk rfl
  have k3 := Y3 3 hk rfl
  have k4 := Y3 4 hk rfl
  have k5 := Y3 5 hk rfl
  have k6 := Y3 6 hk rfl
  have k7 := Y3 7 hk rfl
  have k8 := Y3 8 hk rfl
  have k9 := Y3 9 hk rfl
  have k10 := Y3 10 hk rfl
  have k11 := Y3 11 hk rfl
  have k12 := Y3 12 hk rfl
  have k13 := Y3 13 hk rfl
  have k14 := Y4 14 hk rfl
  have k15 := Y3 15 hk rfl
  have k16 := Y3 16 hk rfl
  have k17 := Y3 17 hk rfl
  have HK : Hid (fitsK t = (Lex.isName t.name && lists t 0 0 0 2)) := Y1 (by unfold fitsK; rw [if_neg (by omega), if_neg (by omega), if_neg (by omega), if_neg (by omega), if_neg (by omega), if_neg (by omega), if_neg (by omega), if_neg (by omega), if_neg (by omega), if_neg (by omega), if_neg (by omega), if_pos (by omega)])
  rw [<- HNM.out] at HK
  clear hk
  cases NM
  {go_wp2
   go_ret
   exact ⟨Z03 (by rw [HY.out, HK.out] <;> simp), Z00 HB0.out HW4.out⟩}
  {have hl := Z0s t q 0 0 0 2 W4
   rw [show ((0 : Nat) : Int) = 0 from rfl] at hl
   rw [show ((2 : Nat) : Int) = 2 from rfl] at hl
   obtain ⟨LS, hLS⟩ : ∃ b, b = lists t 0 0 0 2 := ⟨_, rfl⟩
   rw [<- hLS] at hl HK
   have HL := Y1 hl
   clear hl hLS
   go_wp2_with fail
   refine HL.out.mono ?_
   rintro e W5 ⟨rfl, hb⟩
   have HW5 := Y1 (Z00 HW4.out hb)
   clear hb HL x0 x1 x2 x3 x4 x5 x6 x7 x8
   go_wp2
   go_ret
   exact ⟨Z03 (by rw [HY.out, HK.out, Bool.true_and] <;> simp), Z00 HB0.out HW5.out⟩}}
 {have k1 : (t.kind == 1) = false := by rw [hk]; rfl
  have k2 := Y3 2 hk rfl
  have k3 := Y3 3 hk rfl
  have k4 := Y3 4 hk rfl
  have k5 := Y3 5 hk rfl
  have k6 := Y3 6 hk rfl
  have k7 := Y3 7 hk rfl
  have k8 := Y3 8 hk rfl
  have k9 := Y3 9 hk rfl
  have k10 := Y3 10 hk rfl
  have k11 := Y3 11 hk rfl
  have k12 := Y3 12 hk rfl
  have k13 := Y3 13 hk rfl
  have k14 := Y3 14 hk rfl
  have k15 := Y4 15 hk rfl
  have k16 := Y3 16 hk rfl
  have k17 := Y3 17 hk rfl
  have HK : Hid (fitsK t = (t.name == [] && lists t 0 0 1 1)) := Y1 (by unfold fitsK; rw [if_neg (by omega), if_neg (by omega), if_neg (by omega), if_neg (by omega), if_neg (by omega), if_neg (by omega), if_neg (by omega), if_neg (by omega), if_neg (by omega), if_neg (by omega), if_neg (by omega), if_neg (by omega), if_pos (by omega)])
  rw [<- HBR.out] at HK
  clear hk
  cases BR
  {go_wp2
   go_ret
   exact ⟨Z03 (by rw [HY.out, HK.out] <;> simp), Z00 HB0.out HW4.out⟩}
  {have hl := Z0s t q 0 0 1 1 W4
   rw [show ((0 : Nat) : Int) = 0 from rfl] at hl
   rw [show ((1 : Nat) : Int) = 1 from rfl] at hl
   obtain ⟨LS, hLS⟩ : ∃ b, b = lists t 0 0 1 1 := ⟨_, rfl⟩
   rw [<- hLS] at hl HK
   have HL := Y1 hl
   clear hl hLS
   go_wp2_with fail
   refine HL.out.mono ?_
   rintro e W5 ⟨rfl, hb⟩
   have HW5 := Y1 (Z00 HW4.out hb)
   clear hb HL x0 x1 x2 x3 x4 x5 x6 x7 x8
   go_wp2
   go_ret
   exact ⟨Z03 (by rw [HY.out, HK.out, Bool.true_and] <;> simp), Z00 HB0.out HW5.out⟩}}
 {have k1 : (t.kind == 1) = false := by rw [hk]; rfl
  have k2 := Y3 2 hk rfl
  have k3 := Y3 3 hk rfl
  have k4 := Y3 4 hk rfl
  have k5 := Y3 5 hk rfl
  have k6 := Y3 6 hk rfl
  have k7 := Y3 7 hk rfl
  have k8 := Y3 8 hk rfl
  have k9 := Y3 9 hk rfl
  have k10 := Y3 10 hk rfl
  have k11 := Y3 11 hk rfl
  have k12 := Y3 12 hk rfl
  have k13 := Y3 13 hk rfl
  have k14 := Y3 14 hk rfl
  have k15 := Y3 15 hk rfl
  have k16 := Y4 16 hk rfl
  have k17 := Y3 17 hk rfl
  have HK : Hid (fitsK t = (Lex.isUpper t.name && lists t 0 0 0 1)) := Y1 (by unfold fitsK; rw [if_neg (by omega), if_neg (by omega), if_neg (by omega), if_neg (by omega), if_neg (by omega), if_neg (by omega), if_neg (by omega), if_neg (by omega), if_neg (by omega), if_neg (by omega), if_neg (by omega), if_neg (by omega), if_neg (by omega), if_pos (by omega)])
  clear hk
  obtain ⟨UP, hUP⟩ : ∃ b, b = Lex.isUpper t.name := ⟨_, rfl⟩
  have HUP := Y1 hUP
  rw [<- hUP] at HK
  clear hUP
  go_wp2_with fail
  refine (Z3H t.name HSM.out.n W4).mono ?_
  rintro e W5 ⟨rfl, hb⟩
  have HW5 := Y1 (Z00 HW4.out hb)
  rw [<- HUP.out]
  clear hb x0 x1 x2 x3 x4 x5 x6 x7 x8
  obtain ⟨a1, ⟨x0, x1, x2, x3, x4, x5, x6, x7, x8⟩, a2⟩ := HB.out.next HW5.out
  simp only [Nat.zero_add] at x0 x1 x2 x3 x4 x5 x6 x7 x8
  clear a1 a2
  cases UP
  {go_wp2
   go_ret
   exact ⟨Z03 (by rw [HY.out, HK.out] <;> simp), Z00 HB0.out HW5.out⟩}
  {have hl := Z0s t q 0 0 0 1 W5
   rw [show ((0 : Nat) : Int) = 0 from rfl] at hl
   rw [show ((1 : Nat) : Int) = 1 from rfl] at hl
   obtain ⟨LS, hLS⟩ : ∃ b, b = lists t 0 0 0 1 := ⟨_, rfl⟩
   rw [<- hLS] at hl HK
   have HL := Y1 hl
   clear hl hLS
   go_wp2_with fail
   refine HL.out.mono ?_
   rintro e W6 ⟨rfl, hb⟩
   have HW6 := Y1 (Z00 HW5.out hb)
   clear hb HL x0 x1 x2 x3 x4 x5 x6 x7 x8
   go_wp2
   go_ret
   exact ⟨Z03 (by rw [HY.out, HK.out, Bool.true_and] <;> simp), Z00 HB0.out HW6.out⟩}}
 {have k1 : (t.kind == 1) = false := by rw [hk]; rfl
  have k2 := Y3 2 hk rfl
  have k3 := Y3 3 hk rfl
  have k4 := Y3 4 hk rfl
  have k5 := Y3 5 hk rfl
  have k6 := Y3 6 hk rfl
  have k7 := Y3 7 hk rfl
  have k8 := Y3 8 hk rfl
  have k9 := Y3 9 hk rfl
  have k10 := Y3 10 hk rfl
  have k11 := Y3 11 hk rfl
  have k12 := Y3 12 hk rfl
  have k13 := Y3 13 hk rfl
  have k14 := Y3 14 hk rfl
  have k15 := Y3 15 hk rfl
  have k16 := Y3 16 hk rfl
  have k17 := Y4 17 hk rfl
  have HK : Hid (fitsK t = (Lex.isUpper t.name && lists t 0 0 0 1)) := Y1 (by unfold fitsK; rw [if_neg (by omega), if_neg (by omega), if_neg (by omega), if_neg (by omega), if_neg (by omega), if_neg (by omega), if_neg (by omega), if_neg (by omega), if_neg (by omega), if_neg (by omega), if_neg (by omega), if_neg (by omega), if_neg (by omega), if_pos (by omega)])
  clear hk
  obtain ⟨UP, hUP⟩ : ∃ b, b = Lex.isUpper t.name := ⟨_, rfl⟩
  have HUP := Y1 hUP
  rw [<- hUP] at HK
  clear hUP
  go_wp2_with fail
  refine (Z3H t.name HSM.out.n W4).mono ?_
  rintro e W5 ⟨rfl, hb⟩
  have HW5 := Y1 (Z00 HW4.out hb)
  rw [<- HUP.out]
  clear hb x0 x1 x2 x3 x4 x5 x6 x7 x8
  obtain ⟨a1, ⟨x0, x1, x2, x3, x4, x5, x6, x7, x8⟩, a2⟩ := HB.out.next HW5.out
  simp only [Nat.zero_add] at x0 x1 x2 x3 x4 x5 x6 x7 x8
  clear a1 a2
  cases UP
  {go_wp2
   go_ret
   exact ⟨Z03 (by rw [HY.out, HK.out] <;> simp), Z00 HB0.out HW5.out⟩}
  {have hl := Z0s t q 0 0 0 1 W5
   rw [show ((0 : Nat) : Int) = 0 from rfl] at hl
   rw [show ((1 : Nat) : Int) = 1 from rfl] at hl
   obtain ⟨LS, hLS⟩ : ∃ b, b = lists t 0 0 0 1 := ⟨_, rfl⟩
   rw [<- hLS] at hl HK
   have HL := Y1 hl
   clear hl hLS
   go_wp2_with fail
   refine HL.out.mono ?_
   rintro e W6 ⟨rfl, hb⟩
   have HW6 := Y1 (Z00 HW5.out hb)
   clear hb HL x0 x1 x2 x3 x4 x5 x6 x7 x8
   go_wp2
   go_ret
   exact ⟨Z03 (by rw [HY.out, HK.out, Bool.true_and] <;> simp), Z00 HB0.out HW6.out⟩}}
 {have k1 : (t.kind == 1) = false := by rw [beq_eq_false_iff_ne]; omega
  have k2 : (t.kind == 2) = false := by rw [beq_eq_false_iff_ne]; omega
  have k3 : (t.kind == 3) = false := by rw [beq_eq_false_iff_ne]; omega
  have k4 : (t.kind == 4) = false := by rw [beq_eq_false_iff_ne]; omega
  have k5 : (t.kind == 5) = false := by rw [beq_eq_false_iff_ne]; omega
  have k6 : (t.kind == 6) = false := by rw [beq_eq_false_iff_ne]; omega
  have k7 : (t.kind == 7) = false := by rw [beq_eq_false_iff_ne]; omega
  have k8 : (t.kind == 8) = false := by rw [beq_eq_false_iff_ne]; omega
  have k9 : (t.kind == 9) = false := by rw [beq_eq_false_iff_ne]; omega
  have k10 : (t.kind == 10) = false := by rw [beq_eq_false_iff_ne]; omega
  have k11 : (t.kind == 11) = false := by rw [beq_eq_false_iff_ne]; omega
  have k12 : (t.kind == 12) = false := by rw [beq_eq_false_iff_ne]; omega
  have k13 : (t.kind == 13) = false := by rw [beq_eq_false_iff_ne]; omega
  have k14 : (t.kind == 14) = false := by rw [beq_eq_false_iff_ne]; omega
  have k15 : (t.kind == 15) = false := by rw [beq_eq_false_iff_ne]; omega
  have k16 : (t.kind == 16) = false := by rw [beq_eq_false_iff_ne]; omega
  have k17 : (t.kind == 17) = false := by rw [beq_eq_false_iff_ne]; omega
  have HK : Hid (fitsK t = false) := Y1 (by unfold fitsK; rw [if_neg (by omega), if_neg (by omega), if_neg (by omega), if_neg (by omega), if_neg (by omega), if_neg (by omega), if_neg (by omega), if_neg (by omega), if_neg (by omega), if_neg (by omega), if_neg (by omega), if_neg (by omega), if_neg (by omega), if_neg (by omega)])
  clear hk
  go_wp2
  go_ret
  exact ⟨Z03 (by rw [HY.out, HK.out] <;> simp), Z00 HB0.out HW4.out⟩}
theorem Zdj (t : Tm) (q : TP) (w : World) (hq : TmAt w w.heap.size q t) (hln : t.name.length <= 1000000000) (hnl : t.names.length <= 1000000000) :
 Y9 33 #[.agg (Y7 t q)] w (.bool (fits t)) := by
 by_cases h : t.at_ < 0
 {exact Zgi t q w hq hln hnl h}
 cases h1 : Shp.areNames t.names with
 | false => exact Zb9 t q w hq hln hnl h h1
 | true =>
 cases h2 : t.vars.all Lex.isName with
 | false => exact Zdh t q w hq hln hnl h h1 h2
 | true =>
 cases h3 : shapesOk t.shapes with
 | false => exact Z9E t q w hq hln hnl h h1 h2 h3
 | true =>
 by_cases k1 : t.kind = 1
 {by_cases ho : t.of_ = []
  {exact Zgj t q w hq hln hnl h h1 h2 h3 k1 ho}
  {exact Zfa t q w hq hln hnl h h1 h2 h3 k1 ⟨by omega, ho⟩}}
 by_cases hn : t.n = 0
 {by_cases k5 : t.kind = 5
  {exact Zgk t q w hq hln hnl h h1 h2 h3 k5 hn}
  by_cases ho : t.of_ = []
  {exact Zdi t q w hq hln hnl h h1 h2 h3 k1 k5 hn ho}
  {exact Zfb t q w hq hln hnl h h1 h2 h3 k1 hn ⟨k5, ho⟩}}
 {exact Zh5 t q w hq hln hnl h h1 h2 h3 ⟨k1, hn⟩}
theorem Zba (t : Tm) : ∀ (q : TP) (w : World), TmAt w w.heap.size q t -> tame t = true ->
 Calls Tryz.prog 22 #[.agg (Y7 t q)] w
  fun e w' => e = .returned (.bool (right t)) /\ Below w.heap.size w w' := by
 induction t using Tm.ind with
 | h t ih =>
 intro q w hq hta
 have HTA := Y1 hta
 have HM := Y1 hq.small.m
 have HP := Y1 hq.part
 have HD : Hid (right t = (fits t && rights t.parts)) := Y1 (right_eq t)
 have hB := Z07 w t q
 have HB := Y1 hB
 have hb0 := Z02 w (.cells (Y7 t q) 26)
 have HB0 := Y1 hb0
 have hf := Zdj t q _ (hq.next hb0) (Z0x hta).1 (Z0x hta).2
 have HQ := Y1 hq
 clear hb0 hq hta
 obtain ⟨_, ⟨c0, c1, c2, c3, c4, c5, c6, c7, c8⟩, _⟩ := hB
 have ih := ih
 cases hft : fits t with
 | false =>
  have HF : Hid (right t = false) := Y1 (by rw [HD.out, hft]; rfl)
  rw [hft] at hf
  clear hft ih
  go_enter Tryz.func22, Tryz.ntmps22
  go_wp2_with fail
  refine hf.mono ?_
  rintro e w' ⟨rfl, hb'⟩
  go_wp2
  go_ret
  exact ⟨by rw [HF.out]; rfl, Z00 HB0.out hb'⟩
 | true =>
  have HFT := Y1 hft
  rw [hft] at hf
  clear hft
  go_enter Tryz.func22, Tryz.ntmps22
  go_wp2_with fail
  refine hf.mono ?_
  rintro e W0 ⟨rfl, hb'⟩
  have HB1 := Y1 (HB.out.next hb')
  have HBW : Hid (Below w.heap.size w W0) := Y1 (Z00 HB0.out hb')
  clear hf hb' c0 c1 c2 c3 c4 c5 c6 c7 c8 HB HB0
  go_wp2_with fail
  go_loopw [3] (fun ii wr => ∃ i : Nat, ii = .int .i64 i /\ i <= t.parts.length /\ Hid (∀ j (h : j < t.parts.length), j < i -> right (t.parts[j]'h) = true) /\ Below W0.heap.size W0 wr) (fun i _ => t.parts.length - (intOf i).toNat)
  case atStart => exact ⟨0, rfl, Nat.zero_le _, Y1 (fun j _ hj => absurd hj (by omega)), Below.refl _ _⟩
  case round =>
   obtain ⟨i, rfl, hi, HN, hb⟩ := hrel
   have hm := HM.out
   obtain ⟨_, ⟨c0, _, _, _, _, _, _, c4, _⟩, _⟩ := HB1.out.next hb
   by_cases hlt : i < t.parts.length
   {rcases HP.out with h0 | ⟨g, off, qs, hqP, hg, hc, hr⟩
    {omega}
    {have hbw : Below w.heap.size w wr := HBW.out.trans (hb.mono HBW.out.size)
     obtain ⟨x, hx⟩ : ∃ x, x = t.parts[i] := ⟨_, rfl⟩
     obtain ⟨p0, p1, p2, p3, p4, p5, p6, p7, p8⟩ := (hc i hlt).keep hg hbw
     have hat : TmAt wr wr.heap.size (qs i) x := by rw [hx]; exact (hr i hlt).next hbw
     have ihx := ih t.parts[i] (List.getElem_mem _) (qs i) wr
     rw [<- hx] at p0 p1 p2 p3 p4 p5 p6 p7 p8 ihx
     have IH := ihx hat (by rw [hx]; exact Z1C HTA.out (List.getElem_mem _))
     rw [hqP] at c4
     have HX := Y1 hx
     clear hx hc hr hat ihx ih hqP
     have hi1 : (i : Int) < (t.parts.length : Int) := by omega
     cases hox : right x with
     | false =>
      rw [hox] at IH
      have HF : Hid (right t = false) := Y1 (right_off (p := x) (by rw [HX.out]; exact List.getElem_mem _) hox)
      clear hox
      go_wp2_with (refine IH.mono ?_; rintro e w' ⟨rfl, hb'⟩)
      go_ret
      exact ⟨by rw [HF.out]; rfl, hbw.trans (hb'.mono hbw.size)⟩
     | true =>
      rw [hox] at IH
      have HO := Y1 hox
      clear hox
      go_wp2_with (refine IH.mono ?_; rintro e w' ⟨rfl, hb'⟩)
      go_roundw
      case rel => exact ⟨i + 1, by go_num, by omega, Y1 (fun j hj hji => by
       rcases Nat.lt_succ_iff_lt_or_eq.1 hji with h | rfl
       {exact HN.out j hj h}
       · rw [<- HX.out]; exact HO.out), hb.trans (hb'.mono hb.size)⟩
      case measure => simp [intOf]; omega}}
   {have HF : Hid (right t = true) := Y1 (right_on HFT.out (fun p hp => by
     obtain ⟨j, hj, rfl⟩ := List.getElem_of_mem hp
     exact HN.out j hj (by omega)))
    go_wp2
    go_ret
    exact ⟨by rw [HF.out]; rfl, HBW.out.trans (hb.mono HBW.out.size)⟩}
theorem Zbb {t : Tm} (h : 4096 < size t) : sizeTo 4096 t = 4097 := by unfold sizeTo; omega
theorem Zdk {t : Tm} (h : ¬ 4096 < size t) : sizeTo 4096 t = size t := by unfold sizeTo; omega
theorem Z2I (t : Tm) (q : TP) (w : World) (hq : TmAt w w.heap.size q t) (hta : tame t = true) :
 Calls Tryz.prog 9 #[.agg (Y7 t q)] w
  fun e w' => e = .returned (.int .i64 (check t)) /\ Below w.heap.size w w' := by
 have hB := Z07 w t q
 have HB := Y1 hB
 have hb0 := Z02 w (.cells (Y7 t q) 26)
 have HB0 := Y1 hb0
 have hs := Z6J t q 4096 _ (hq.next hb0) (by omega)
 rw [show (((4096 : Nat) : Int)) = (4096 : Int) from rfl] at hs
 have HQ := Y1 hq
 have HTA := Y1 hta
 have HC : Hid (check t = if 4096 < size t then 3 else if 40 < deep t then 91 else if right t = false then 80 else 0) := Y1 rfl
 clear hb0 hq hta
 obtain ⟨_, ⟨c0, c1, c2, c3, c4, c5, c6, c7, c8⟩, _⟩ := hB
 by_cases h4 : 4096 < size t
 {rw [Zbb h4] at hs
  have HF : Hid (check t = 3) := Y1 (by rw [HC.out, if_pos h4])
  clear h4
  go_enter Tryz.func9, Tryz.ntmps9
  go_wp2_with fail
  refine hs.mono ?_
  rintro e w' ⟨rfl, hb'⟩
  go_wp2
  go_ret
  exact ⟨Z0v HF.out.symm, Z00 HB0.out hb'⟩}
 {rw [Zdk h4] at hs
  have h4' : ¬ (4096 : Int) < (size t : Int) := by omega
  have hdd := deep_size t
  go_enter Tryz.func9, Tryz.ntmps9
  go_wp2_with fail
  refine hs.mono ?_
  rintro e w1 ⟨rfl, hb1⟩
  have hbw := Z00 HB0.out hb1
  have HBW := Y1 hbw
  have HB1 := Y1 (HB.out.next hb1)
  have hd := Zdf t q w1 (HQ.out.next hbw) (by omega)
  clear hs hb1 hbw c0 c1 c2 c3 c4 c5 c6 c7 c8
  obtain ⟨_, ⟨c0, c1, c2, c3, c4, c5, c6, c7, c8⟩, _⟩ := HB1.out
  by_cases h40 : 40 < deep t
  {have HF : Hid (check t = 91) := Y1 (by rw [HC.out, if_neg h4, if_pos h40])
   have h40' : (40 : Int) < (deep t : Int) := by omega
   clear h4 h40 hdd
   go_wp2_with fail
   refine hd.mono ?_
   rintro e w' ⟨rfl, hb'⟩
   go_wp2
   go_ret
   exact ⟨Z0v HF.out.symm, Z00 HBW.out hb'⟩}
  {have h40' : ¬ (40 : Int) < (deep t : Int) := by omega
   have HF : Hid (check t = if right t = false then 80 else 0) := Y1 (by rw [HC.out, if_neg h4, if_neg h40])
   clear h4 h40 hdd
   go_wp2_with fail
   refine hd.mono ?_
   rintro e w2 ⟨rfl, hb2⟩
   have hbw := Z00 HBW.out hb2
   have HBW2 := Y1 hbw
   have HB2 := Y1 (HB1.out.next hb2)
   have hr := Zba t q w2 (HQ.out.next hbw) HTA.out
   clear hd hb2 hbw c0 c1 c2 c3 c4 c5 c6 c7 c8
   obtain ⟨_, ⟨c0, c1, c2, c3, c4, c5, c6, c7, c8⟩, _⟩ := HB2.out
   cases hrt : right t
   all_goals
    rw [hrt] at hr HF
    clear hrt
    go_wp2_with fail
    refine hr.mono ?_
    rintro e w' ⟨rfl, hb'⟩
    go_wp2
    go_ret
    exact ⟨Z0v (by rw [HF.out]; rfl), Z00 HBW2.out hb'⟩}}
end Go.Proofs.YtnkdedejfonbmaaGreatDoor
