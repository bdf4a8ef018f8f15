/- What the proofs of TermsBare, TermsChecks, TermsDeep, TermsSame, TermsSames want, part 13. -/
import Derived.StillTailTactics
import Derived.Deep.RegionHeld3
import Derived.Test.YtnkdedejfonbmaaGreatDoorK0n12
set_option linter.unusedVariables false
set_option linter.unusedSimpArgs false
set_option maxRecDepth 100000
set_option maxHeartbeats 16000000
namespace Go.Proofs.YtnkdedejfonbmaaGreatDoor
open Go.RowKit Tms
open Shp (Sh field join)
theorem ZgX (n : Nat) : Lib.decDigits n = Sem.dec n := by
 induction n using Nat.strongRecOn with
 | ind n ih =>
  rw [Lib.decDigits, Sem.dec]
  by_cases h : n < 10
  {rw [dif_pos h, dif_pos h]}
  {rw [dif_neg h, dif_neg h, ih _ (by omega)]}
theorem ZcL (z : Int) (h0 : 0 <= z) (h : z <= 999999999999999) (w : World) (hg : Globs w) :
 Y9 45 #[.int .i64 z] w (.string ⟨(Sem.dec z.toNat).toArray⟩) := by
 obtain ⟨n, rfl⟩ := Int.eq_ofNat_of_zero_le h0
 have hi := Any.strconv_Itoa Tryz.laysM171 n (by omega) (by omega) w hg.tab
 rw [Lib.itoa_nonneg, ZgX] at hi
 refine Calls.mono hi ?_
 rintro e w' ⟨rfl, k, os, rfl⟩
 exact ⟨rfl, Lib.below_grow _ _ (Nat.le_refl _) _ _⟩
theorem ZcM (t : Tm) (q : TP) (w : World) (hq : TmAt w w.heap.size q t) (hG : Globs w) (hg : WGlobs w) (hr : right t = true) (ht : tame t = true) (hz : size t <= 4096) (hf : ∀ x ∈ t.parts, Wr8 x) (hk : t.kind = 1) :
 Y9 27 #[.agg (Y7 t q)] w (.string ⟨(text t).toArray⟩) := by
 have hb0 := Z02 w (.cells (Y7 t q) 26)
 have HB0 := Y1 hb0
 obtain ⟨_, ⟨c0, c1, c2, c3, c4, c5, c6, c7, c8⟩, _⟩ := Z07 w t q
 simp only [Nat.zero_add] at c0 c1 c2 c3 c4 c5 c6 c7 c8
 have k1 := Y4 1 hk rfl
 have hfk : fitsK t = true := by have hf := right_fits hr; unfold fits at hf; simp only [Bool.and_eq_true] at hf; exact hf.2
 unfold fitsK at hfk
 rw [if_pos (by omega)] at hfk
 simp only [Bool.and_eq_true, Z0e, decide_eq_true_eq] at hfk
 have HT := Y1 (Zbn hk)
 have hnl := Z0x ht
 have htl := Z0t hr
 have hwt : weight t <= 1048576 := by unfold tame at ht; simpa using ht
 have HC := Y1 (ZcL t.n hfk.1.1.2 hfk.1.2 _ (hG.next hb0))
 clear hb0 hq hG hg hr ht hz hf hk hfk hnl htl hwt
 go_enter Tryz.func27, Tryz.ntmps27
 go_wp2_with fail
 refine HC.out.mono ?_
 rintro e w1 ⟨rfl, hb1⟩
 have HB := Y1 (Z00 HB0.out hb1)
 clear hb1 HC c0 c1 c2 c3 c4 c5 c6 c7 c8
 go_wp2
 go_ret
 exact ⟨Z0h (by rw [HT.out]), HB.out⟩
theorem ZcN (t : Tm) (q : TP) (w : World) (hq : TmAt w w.heap.size q t) (hG : Globs w) (hg : WGlobs w) (hr : right t = true) (ht : tame t = true) (hz : size t <= 4096) (hf : ∀ x ∈ t.parts, Wr8 x) (hk : t.kind = 2) :
 Y9 27 #[.agg (Y7 t q)] w (.string ⟨(text t).toArray⟩) := by
 have hb0 := Z02 w (.cells (Y7 t q) 26)
 have HB0 := Y1 hb0
 obtain ⟨_, ⟨c0, c1, c2, c3, c4, c5, c6, c7, c8⟩, _⟩ := Z07 w t q
 simp only [Nat.zero_add] at c0 c1 c2 c3 c4 c5 c6 c7 c8
 have k1 := Y3 1 hk rfl
 have k2 := Y4 2 hk rfl
 have hfk : fitsK t = true := by have hf := right_fits hr; unfold fits at hf; simp only [Bool.and_eq_true] at hf; exact hf.2
 unfold fitsK at hfk
 rw [if_neg (by omega), if_pos (by omega)] at hfk
 simp only [Bool.and_eq_true, Z0e, decide_eq_true_eq] at hfk
 have HT := Y1 (Zbo hk)
 have hnl := Z0x ht
 have htl := Z0t hr
 have hwt : weight t <= 1048576 := by unfold tame at ht; simpa using ht
 have HC := Y1 (Z99 t.name _ hfk.1 hnl.1 (hG.next hb0))
 clear hb0 hq hG hg hr ht hz hf hk hfk hnl htl hwt
 go_enter Tryz.func27, Tryz.ntmps27
 go_wp2_with fail
 refine HC.out.mono ?_
 rintro e w1 ⟨rfl, hb1⟩
 have HB := Y1 (Z00 HB0.out hb1)
 clear hb1 HC c0 c1 c2 c3 c4 c5 c6 c7 c8
 go_wp2
 go_ret
 exact ⟨Z0h (by rw [HT.out]), HB.out⟩
theorem ZcO (t : Tm) (q : TP) (w : World) (hq : TmAt w w.heap.size q t) (hG : Globs w) (hg : WGlobs w) (hr : right t = true) (ht : tame t = true) (hz : size t <= 4096) (hf : ∀ x ∈ t.parts, Wr8 x) (hk : t.kind = 3) :
 Y9 27 #[.agg (Y7 t q)] w (.string ⟨(text t).toArray⟩) := by
 have hb0 := Z02 w (.cells (Y7 t q) 26)
 have HB0 := Y1 hb0
 obtain ⟨_, ⟨c0, c1, c2, c3, c4, c5, c6, c7, c8⟩, _⟩ := Z07 w t q
 simp only [Nat.zero_add] at c0 c1 c2 c3 c4 c5 c6 c7 c8
 have k1 := Y3 1 hk rfl
 have k2 := Y3 2 hk rfl
 have k3 := Y4 3 hk rfl
 have hfk : fitsK t = true := by have hf := right_fits hr; unfold fits at hf; simp only [Bool.and_eq_true] at hf; exact hf.2
 unfold fitsK at hfk
 rw [if_neg (by omega), if_neg (by omega), if_pos (by omega)] at hfk
 simp only [Bool.and_eq_true, Z0e, decide_eq_true_eq] at hfk
 have HT := Y1 (Zbp hk)
 have hnl := Z0x ht
 have htl := Z0t hr
 have hwt : weight t <= 1048576 := by unfold tame at ht; simpa using ht
 clear hb0 hq hG hg hr ht hz hf hk hfk hnl htl hwt
 go_enter Tryz.func27, Tryz.ntmps27
 go_wp2
 go_ret
 exact ⟨Z0h (by rw [HT.out]), HB0.out⟩
theorem ZcP (t : Tm) (q : TP) (w : World) (hq : TmAt w w.heap.size q t) (hG : Globs w) (hg : WGlobs w) (hr : right t = true) (ht : tame t = true) (hz : size t <= 4096) (hf : ∀ x ∈ t.parts, Wr8 x) (hk : t.kind = 4) :
 Y9 27 #[.agg (Y7 t q)] w (.string ⟨(text t).toArray⟩) := by
 have hb0 := Z02 w (.cells (Y7 t q) 26)
 have HB0 := Y1 hb0
 obtain ⟨_, ⟨c0, c1, c2, c3, c4, c5, c6, c7, c8⟩, _⟩ := Z07 w t q
 simp only [Nat.zero_add] at c0 c1 c2 c3 c4 c5 c6 c7 c8
 have k1 := Y3 1 hk rfl
 have k2 := Y3 2 hk rfl
 have k3 := Y3 3 hk rfl
 have k4 := Y4 4 hk rfl
 have hfk : fitsK t = true := by have hf := right_fits hr; unfold fits at hf; simp only [Bool.and_eq_true] at hf; exact hf.2
 unfold fitsK at hfk
 rw [if_neg (by omega), if_neg (by omega), if_pos (by omega)] at hfk
 simp only [Bool.and_eq_true, Z0e, decide_eq_true_eq] at hfk
 have HT := Y1 (Zbq hk)
 have hnl := Z0x ht
 have htl := Z0t hr
 have hwt : weight t <= 1048576 := by unfold tame at ht; simpa using ht
 clear hb0 hq hG hg hr ht hz hf hk hfk hnl htl hwt
 go_enter Tryz.func27, Tryz.ntmps27
 go_wp2
 go_ret
 exact ⟨Z0h (by rw [HT.out]), HB0.out⟩
theorem ZcQ (t : Tm) (q : TP) (w : World) (hq : TmAt w w.heap.size q t) (hG : Globs w) (hg : WGlobs w) (hr : right t = true) (ht : tame t = true) (hz : size t <= 4096) (hf : ∀ x ∈ t.parts, Wr8 x) (hk : t.kind = 5) :
 Y9 27 #[.agg (Y7 t q)] w (.string ⟨(text t).toArray⟩) := by
 have hb0 := Z02 w (.cells (Y7 t q) 26)
 have HB0 := Y1 hb0
 obtain ⟨_, ⟨c0, c1, c2, c3, c4, c5, c6, c7, c8⟩, _⟩ := Z07 w t q
 simp only [Nat.zero_add] at c0 c1 c2 c3 c4 c5 c6 c7 c8
 have k1 := Y3 1 hk rfl
 have k2 := Y3 2 hk rfl
 have k3 := Y3 3 hk rfl
 have k4 := Y3 4 hk rfl
 have k5 := Y4 5 hk rfl
 have hfk : fitsK t = true := by have hf := right_fits hr; unfold fits at hf; simp only [Bool.and_eq_true] at hf; exact hf.2
 unfold fitsK at hfk
 rw [if_neg (by omega), if_neg (by omega), if_neg (by omega), if_pos (by omega)] at hfk
 simp only [Bool.and_eq_true, Z0e, decide_eq_true_eq] at hfk
 have HT := Y1 (Zbr hk)
 have hnl := Z0x ht
 have htl := Z0t hr
 have hwt : weight t <= 1048576 := by unfold tame at ht; simpa using ht
 have hol : t.of_.length <= 24 := by
  have h := hfk.1.2
  simp only [Bool.or_eq_true, beq_iff_eq] at h
  rcases h with h | h
  {rw [h]; simp}
  {exact Shp.Z0U h}
 have HC := Y1 (Zal t q (w.alloc (.cells (Y7 t q) 26)) hnl.1 (by omega))
 obtain ⟨tN, htN⟩ : ∃ z, z = (if t.of_ = [] then t.name else t.of_ ++ [47] ++ t.name) := ⟨_, rfl⟩
 rw [<- htN] at HT HC
 clear htN
 clear hb0 hq hG hg hr ht hz hf hk hfk hnl htl hwt hol
 go_enter Tryz.func27, Tryz.ntmps27
 go_wp2_with fail
 refine HC.out.mono ?_
 rintro e w1 ⟨rfl, hb1⟩
 have HB := Y1 (Z00 HB0.out hb1)
 clear hb1 HC c0 c1 c2 c3 c4 c5 c6 c7 c8
 go_wp2
 go_ret
 exact ⟨Z0h (by rw [HT.out]), HB.out⟩
theorem ZcR (t : Tm) (q : TP) (w : World) (hq : TmAt w w.heap.size q t) (hG : Globs w) (hg : WGlobs w) (hr : right t = true) (ht : tame t = true) (hz : size t <= 4096) (hf : ∀ x ∈ t.parts, Wr8 x) (hk : t.kind = 8) :
 Y9 27 #[.agg (Y7 t q)] w (.string ⟨(text t).toArray⟩) := by
 have hb0 := Z02 w (.cells (Y7 t q) 26)
 have HB0 := Y1 hb0
 obtain ⟨_, ⟨c0, c1, c2, c3, c4, c5, c6, c7, c8⟩, _⟩ := Z07 w t q
 simp only [Nat.zero_add] at c0 c1 c2 c3 c4 c5 c6 c7 c8
 have k1 := Y3 1 hk rfl
 have k2 := Y3 2 hk rfl
 have k3 := Y3 3 hk rfl
 have k4 := Y3 4 hk rfl
 have k5 := Y3 5 hk rfl
 have k6 := Y3 6 hk rfl
 have k7 := Y3 7 hk rfl
 have k8 := Y4 8 hk rfl
 have hfk : fitsK t = true := by have hf := right_fits hr; unfold fits at hf; simp only [Bool.and_eq_true] at hf; exact hf.2
 unfold fitsK at hfk
 rw [if_neg (by omega), if_neg (by omega), if_neg (by omega), if_neg (by omega), if_neg (by omega), if_neg (by omega), if_pos (by omega)] at hfk
 simp only [Bool.and_eq_true, Z0e, decide_eq_true_eq] at hfk
 have HT := Y1 (Zbu hk)
 have hnl := Z0x ht
 have htl := Z0t hr
 have hwt : weight t <= 1048576 := by unfold tame at ht; simpa using ht
 have hlp : t.parts.length <= 4096 := by have := length_sizes t.parts; rw [size_eq] at hz; omega
 have hpn : t.parts.length = t.names.length := hfk.2.2.2.2
 have hpt : ∀ x ∈ t.parts, (text x).length <= 1000000000000 := fun x hx => by
  have h1 := Z0t (right_part hr hx)
  have h2 := Z1C ht hx
  unfold tame at h2
  rw [decide_eq_true_eq] at h2
  omega
 have hlen := congrArg List.length HT.out
 simp only [List.length_append, List.length_cons, List.length_nil] at hlen
 have hjl : (join [44, 32] (recs t.names (t.parts.map text))).length <= 140737488355328 := by omega
 have HC := Y1 (Z85 t q _ (hq.next hb0) (hG.next hb0) (hg.next hb0) (by omega) hpn hf (fun x hx => by have := Shp.Z0U ((Z0V (right_fits hr)).1 x hx); omega) hpt hjl)
 obtain ⟨tF, htF⟩ : ∃ z, z = join [44, 32] (recs t.names (t.parts.map text)) := ⟨_, rfl⟩
 rw [<- htF] at HT HC hjl
 have hjb : tF.length <= 100000000000 := by rw [htF]; omega
 have zF : (⟨tF.toArray⟩ : ByteArray).size = tF.length := Z04 _
 clear hlp hpn hpt hlen htF hjl
 clear hb0 hq hG hg hr ht hz hf hk hfk hnl htl hwt
 go_enter Tryz.func27, Tryz.ntmps27
 go_wp2_with fail
 refine HC.out.mono ?_
 rintro e w1 ⟨rfl, hb1⟩
 have HB := Y1 (Z00 HB0.out hb1)
 clear hb1 HC c0 c1 c2 c3 c4 c5 c6 c7 c8
 go_wp2
 go_ret
 exact ⟨Z0h (by rw [HT.out, <- cat7, <- cat7]), HB.out⟩
end Go.Proofs.YtnkdedejfonbmaaGreatDoor
namespace Go.Proofs.YtnkdedejfonbmaaGreatDoor
open Go.RowKit Tms
theorem Z4t (t : Tm) (q : TP) (w : World) (hq : TmAt w w.heap.size q t) (hG : Globs w) (hg : WGlobs w) (hf : Wr8 t) (hl : (text t).length <= 1000000000000) :
 Y9 49 #[.agg (Y7 t q)] w (.string ⟨(oper t.kind (text t)).toArray⟩) := by
 have hb0 := Z02 w (.cells (Y7 t q) 26)
 have HB0 := Y1 hb0
 have HC := Y1 (hf q _ (hq.next hb0) (hG.next hb0) (hg.next hb0))
 obtain ⟨_, ⟨c0, c1, c2, c3, c4, c5, c6, c7, c8⟩, _⟩ := Z07 w t q
 simp only [Nat.zero_add] at c0 c1 c2 c3 c4 c5 c6 c7 c8
 have HO : Hid (oper t.kind (text t) = if t.kind = 1 \/ t.kind = 6 \/ t.kind = 11 \/ t.kind = 12 \/ t.kind = 13 \/ t.kind = 14 then [40] ++ text t ++ [41] else text t) := Y1 rfl
 clear hb0 hq hG hg hf
 have z1 : (⟨(text t).toArray⟩ : ByteArray).size = (text t).length := Z04 _
 generalize text t = tx at HC HO z1 hl
 by_cases h1 : t.kind = 1
 {have k1 : (t.kind == 1) = true := by rw [h1]; rfl
  have HK := Y1 h1
  clear h1
  go_enter Tryz.func49, Tryz.ntmps49
  go_wp2_with fail
  refine HC.out.mono ?_
  rintro e w1 ⟨rfl, hb1⟩
  have HB := Y1 (Z00 HB0.out hb1)
  clear hb1 HC c0 c1 c2 c3 c4 c5 c6 c7 c8
  go_wp2
  go_ret
  exact ⟨Z0h (by rw [HO.out, if_pos (by have := HK.out; omega), <- cat7, <- cat7]), HB.out⟩}
 have k1 : (t.kind == 1) = false := by rw [beq_eq_false_iff_ne]; exact h1
 have HK1 := Y1 h1
 clear h1
 by_cases h6 : t.kind = 6
 {have k6 : (t.kind == 6) = true := by rw [h6]; rfl
  have HK := Y1 h6
  clear h6
  go_enter Tryz.func49, Tryz.ntmps49
  go_wp2_with fail
  refine HC.out.mono ?_
  rintro e w1 ⟨rfl, hb1⟩
  have HB := Y1 (Z00 HB0.out hb1)
  clear hb1 HC c0 c1 c2 c3 c4 c5 c6 c7 c8
  go_wp2
  go_ret
  exact ⟨Z0h (by rw [HO.out, if_pos (by have := HK.out; omega), <- cat7, <- cat7]), HB.out⟩}
 have k6 : (t.kind == 6) = false := by rw [beq_eq_false_iff_ne]; exact h6
 have HK6 := Y1 h6
 clear h6
 by_cases h11 : t.kind = 11
 {have k11 : (t.kind == 11) = true := by rw [h11]; rfl
  have HK := Y1 h11
  clear h11
  go_enter Tryz.func49, Tryz.ntmps49
  go_wp2_with fail
  refine HC.out.mono ?_
  rintro e w1 ⟨rfl, hb1⟩
  have HB := Y1 (Z00 HB0.out hb1)
  clear hb1 HC c0 c1 c2 c3 c4 c5 c6 c7 c8
  go_wp2
  go_ret
  exact ⟨Z0h (by rw [HO.out, if_pos (by have := HK.out; omega), <- cat7, <- cat7]), HB.out⟩}
 have k11 : (t.kind == 11) = false := by rw [beq_eq_false_iff_ne]; exact h11
 have HK11 := Y1 h11
 clear h11
 by_cases h12 : t.kind = 12
 {have k12 : (t.kind == 12) = true := by rw [h12]; rfl
  have HK := Y1 h12
  clear h12
  go_enter Tryz.func49, Tryz.ntmps49
  go_wp2_with fail
  refine HC.out.mono ?_
  rintro e w1 ⟨rfl, hb1⟩
  have HB := Y1 (Z00 HB0.out hb1)
  clear hb1 HC c0 c1 c2 c3 c4 c5 c6 c7 c8
  go_wp2
  go_ret
  exact ⟨Z0h (by rw [HO.out, if_pos (by have := HK.out; omega), <- cat7, <- cat7]), HB.out⟩}
 have k12 : (t.kind == 12) = false := by rw [beq_eq_false_iff_ne]; exact h12
 have HK12 := Y1 h12
 clear h12
 by_cases h13 : t.kind = 13
 {have k13 : (t.kind == 13) = true := by rw [h13]; rfl
  have HK := Y1 h13
  clear h13
  go_enter Tryz.func49, Tryz.ntmps49
  go_wp2_with fail
  refine HC.out.mono ?_
  rintro e w1 ⟨rfl, hb1⟩
  have HB := Y1 (Z00 HB0.out hb1)
  clear hb1 HC c0 c1 c2 c3 c4 c5 c6 c7 c8
  go_wp2
  go_ret
  exact ⟨Z0h (by rw [HO.out, if_pos (by have := HK.out; omega), <- cat7, <- cat7]), HB.out⟩}
 have k13 : (t.kind == 13) = false := by rw [beq_eq_false_iff_ne]; exact h13
 have HK13 := Y1 h13
 clear h13
 by_cases h14 : t.kind = 14
 {have k14 : (t.kind == 14) = true := by rw [h14]; rfl
  have HK := Y1 h14
  clear h14
  go_enter Tryz.func49, Tryz.ntmps49
  go_wp2_with fail
  refine HC.out.mono ?_
  rintro e w1 ⟨rfl, hb1⟩
  have HB := Y1 (Z00 HB0.out hb1)
  clear hb1 HC c0 c1 c2 c3 c4 c5 c6 c7 c8
  go_wp2
  go_ret
  exact ⟨Z0h (by rw [HO.out, if_pos (by have := HK.out; omega), <- cat7, <- cat7]), HB.out⟩}
 have k14 : (t.kind == 14) = false := by rw [beq_eq_false_iff_ne]; exact h14
 have HK14 := Y1 h14
 clear h14
 go_enter Tryz.func49, Tryz.ntmps49
 go_wp2_with fail
 refine HC.out.mono ?_
 rintro e w1 ⟨rfl, hb1⟩
 have HB := Y1 (Z00 HB0.out hb1)
 clear hb1 HC c0 c1 c2 c3 c4 c5 c6 c7 c8
 go_wp2
 go_ret
 exact ⟨Z0h (by rw [HO.out, if_neg (by have := HK1.out; have := HK6.out; have := HK11.out; have := HK12.out; have := HK13.out; have := HK14.out; omega)]), HB.out⟩
end Go.Proofs.YtnkdedejfonbmaaGreatDoor
namespace Go.Proofs.YtnkdedejfonbmaaGreatDoor
open Go.RowKit Tms
open Shp (Sh field join)
def ZhS (w : World) (g off : Nat) (t : Tm) (q : TP) (x0 : Tm) (qs : Nat -> TP) (tB tX0 : List UInt8) : Nat -> Want
 | 0 => .val (.pointer (some ⟨w.heap.size, 4, none⟩))
 | 1 => .val (.slice q.A t.names.length q.c)
 | 2 => .val (.pointer (some ⟨w.heap.size, 6, none⟩))
 | 3 => .val (.slice q.S t.shapes.length q.s)
 | 4 => .val (.string (⟨tB.toArray⟩ : ByteArray))
 | 5 => .val (.string ((⟨#[102, 117, 110, 32, 40]⟩ : ByteArray) ++ (⟨tB.toArray⟩ : ByteArray)))
 | 6 => .val (.string (((⟨#[102, 117, 110, 32, 40]⟩ : ByteArray) ++ (⟨tB.toArray⟩ : ByteArray)) ++ (⟨#[41, 32, 45, 62, 32]⟩ : ByteArray)))
 | 7 => .val (.pointer (some ⟨w.heap.size, 7, none⟩))
 | 8 => .val (.slice (some ⟨g, off, none⟩) t.parts.length q.d)
 | 9 => .val (.pointer (some ⟨g, off, none⟩))
 | 10 => .val (.agg (Y7 x0 (qs 0)))
 | 11 => .val (.string (⟨tX0.toArray⟩ : ByteArray))
 | 12 => .val (.string ((((⟨#[102, 117, 110, 32, 40]⟩ : ByteArray) ++ (⟨tB.toArray⟩ : ByteArray)) ++ (⟨#[41, 32, 45, 62, 32]⟩ : ByteArray)) ++ (⟨tX0.toArray⟩ : ByteArray)))
 | 13 => .val (.string ((((⟨#[102, 117, 110, 32, 40]⟩ : ByteArray) ++ (⟨tB.toArray⟩ : ByteArray)) ++ (⟨#[41, 32, 45, 62, 32]⟩ : ByteArray)) ++ (⟨tX0.toArray⟩ : ByteArray)))
 | _ => .any
theorem ZcS (t : Tm) (q : TP) (w : World) (hq : TmAt w w.heap.size q t) (hG : Globs w) (hg : WGlobs w) (hr : right t = true) (ht : tame t = true) (hz : size t <= 4096) (hf : ∀ x ∈ t.parts, Wr8 x) (hk : t.kind = 6) :
 Y9 27 #[.agg (Y7 t q)] w (.string ⟨(text t).toArray⟩) := by
 have hb0 := Z02 w (.cells (Y7 t q) 26)
 have HB := Y1 (Z07 w t q)
 have HB0 := Y1 hb0
 obtain ⟨_, ⟨c0, c1, c2, c3, c4, c5, c6, c7, c8⟩, _⟩ := HB.out
 simp only [Nat.zero_add] at c0 c1 c2 c3 c4 c5 c6 c7 c8
 have k1 := Y3 1 hk rfl
 have k2 := Y3 2 hk rfl
 have k3 := Y3 3 hk rfl
 have k4 := Y3 4 hk rfl
 have k5 := Y3 5 hk rfl
 have k6 := Y4 6 hk rfl
 have hfk : fitsK t = true := by have hf := right_fits hr; unfold fits at hf; simp only [Bool.and_eq_true] at hf; exact hf.2
 unfold fitsK at hfk
 rw [if_neg (by omega), if_neg (by omega), if_neg (by omega), if_neg (by omega), if_pos (by omega)] at hfk
 simp only [Bool.and_eq_true, Z0e] at hfk
 obtain ⟨_, hn1, hv1, hs1, hp1⟩ := hfk
 have htl := Z0t hr
 have hwt : weight t <= 1048576 := by unfold tame at ht; simpa using ht
 have HT := Zbs hk
 have hnl := Z0x ht
 have hlp : t.parts.length <= 4096 := by have := length_sizes t.parts; rw [size_eq] at hz; omega
 rcases hq.part with h0 | ⟨g, off, qs, hqP, hgl, hc, hrr⟩
 {omega}
 obtain ⟨x0, hx0⟩ : ∃ x, x = t.parts[0]'(by omega) := ⟨_, rfl⟩
 have hm0 : x0 ∈ t.parts := by rw [hx0]; exact List.getElem_mem _
 have HX0 : Hid (Tm9 w g (off) x0 (qs 0)) := Y1 (by rw [hx0]; exact hc 0 (by omega))
 have HA0 : Hid (TmAt w w.heap.size (qs 0) x0) := Y1 (by rw [hx0]; exact hrr 0 (by omega))
 have hg0 : (t.parts.map text).getD 0 [] = text x0 := by rw [List.getD_eq_getElem?_getD, List.getElem?_map, List.getElem?_eq_getElem (by omega), hx0]; rfl
 rw [hg0] at HT
 have hjl : (join [44, 32] (binds t.names (t.shapes.map Shp.text))).length <= 140737488355328 := by
  have h1 := congrArg List.length HT
  simp only [List.length_append] at h1
  omega
 have HWB := Y1 (fun (W : World) (h : Below w.heap.size w W) => Z9a q.A q.S q.c q.s t.names t.shapes W (Z1m hq.strs h.size (fun g k hg => h.cell (p := ⟨g, k, none⟩) hg)) (hq.shapes.next h) (by have := Z0x ht; have h3 := hwt; rw [Z14] at h3; omega) (by omega) (hg.next h) (fun x hx => by have := Shp.Z0U ((Z0V (right_fits hr)).1 x hx); omega) (fun x hx => ⟨((Z0V (right_fits hr)).2.2 x hx).1, by have h4 := Z4c ((Z0V (right_fits hr)).2.2 x hx).1; have := Shp.Z1H h4.2 h4.1; omega⟩) hjl)
 obtain ⟨tB, htB⟩ : ∃ z, z = join [44, 32] (binds t.names (t.shapes.map Shp.text)) := ⟨_, rfl⟩
 rw [<- htB] at HT HWB
 have HWX0 := Y1 (fun (W : World) (h : Below w.heap.size w W) => hf x0 hm0 (qs 0) W (HA0.out.next h) (hG.next h) (hg.next h))
 obtain ⟨tX0, htX0⟩ : ∃ z, z = text x0 := ⟨_, rfl⟩
 rw [<- htX0] at HT HWX0
 have hlen := congrArg List.length HT
 simp only [List.length_append, List.length_cons, List.length_nil] at hlen
 have zn : (⟨t.name.toArray⟩ : ByteArray).size = t.name.length := Z04 _
 have zB : (⟨tB.toArray⟩ : ByteArray).size = tB.length := Z04 _
 have bB : tB.length <= 100000000000 := by omega
 have zX0 : (⟨tX0.toArray⟩ : ByteArray).size = tX0.length := Z04 _
 have bX0 : tX0.length <= 100000000000 := by omega
 have HQP := Y1 hqP
 have hi0 : (0 : Int) < (t.parts.length : Int) := by omega
 have hneP : ¬ t.parts = [] := fun e => by rw [e] at hp1; simp at hp1
 have HT' := Y1 HT
 have bn : t.name.length <= 1000000000 := hnl.1
 have hpm := hq.small.m
 clear hb0 hq hG hg hr ht hz hf hk hn1 hv1 hs1 hp1 htl hwt HT hnl hlp hlen hqP hc hrr hx0 hm0 hg0 htB hjl htX0
 go_enter Tryz.func27, Tryz.ntmps27
 go_upto_region 1 with fail
 generalize w.alloc (.cells (Y7 t q) 26) = W0 at HB HB0 c0 c1 c2 c3 c4 c5 c6 c7 c8 ⊢
 go_wp2_with fail
 refine Z0p (rs := [0, 1, 2, 3, 4, 5, 6, 7, 8, 9, 10, 11, 12, 13])
  (fun u' => { tmps := #[.agg (Y7 t q), .pointer (some ⟨w.heap.size, 0, none⟩), u' 13, .pointer (some ⟨w.heap.size, 0, none⟩), .int .i64 t.kind, .bool false, .bool false, undef, undef, undef, .bool false, .bool false, undef, undef, undef, .bool false, .bool false, .bool false, .bool false, .bool false, .bool false, undef, undef, .bool true, .bool true, u' 0, u' 1, u' 2, u' 3, u' 4, u' 5, u' 6, u' 7, u' 8, u' 9, u' 10, u' 11, u' 12, undef, undef, undef, undef, undef, undef, undef, undef, undef, undef, undef, undef, undef, undef, undef, undef, undef, undef, undef, undef, undef, undef, undef, undef, undef, undef, undef, undef, undef, undef, undef, undef, undef, undef, undef, undef, undef, undef, undef, undef, undef, undef, undef, undef, undef, undef, undef, undef, undef, undef, undef, undef, undef, undef, undef, undef, undef, undef, undef, undef, undef, undef, undef, undef, undef, undef, undef, undef, undef, undef, undef, undef, undef, undef, undef, undef, undef, undef, undef, undef, undef, undef, undef, undef, undef, undef, undef, undef, undef, undef, undef, undef, undef, undef, undef, undef, undef, undef, undef, undef, undef, undef, undef, undef, undef, undef, undef, undef, undef, undef, undef, undef, undef, undef, undef, undef, undef, undef, undef, undef, undef, undef, undef, undef, undef, undef, undef, undef, undef, undef, undef, undef, undef, undef, undef, undef, undef, undef, undef, undef, undef, undef, undef, undef, undef, undef, undef, undef, undef, undef, undef, undef, undef, undef, undef, undef, undef, undef, undef, undef, undef, undef, undef, undef, undef, undef, undef], defers := [] })
  (upd (fun _ => undef) 13 (.string ⟨#[]⟩)) (ZhS w g off t q x0 qs tB tX0) (fun W => Below W0.heap.size W0 W) (by kernel_rfl) (by kernel_rfl) (by kernel_rfl) Y2.drew ?_ ?_
 refine StepsAt.cons _ rfl (fun u' W K' hJ hd hK => ?_) ?_
 {refine Y0 hK hJ rfl rfl rfl ?_
  try dsimp only
  go_simp}
 refine StepsAt.cons _ rfl (fun u' W K' hJ hd hK => ?_) ?_
 {have d0 : _ = _ := hd 0 (by kernel_rfl)
  obtain ⟨_, ⟨y0, y1, y2, y3, y4, y5, y6, y7, y8⟩, _⟩ := HB.out.next hJ
  simp only [Nat.zero_add] at y0 y1 y2 y3 y4 y5 y6 y7 y8
  refine Y0 hK hJ rfl rfl rfl ?_
  try dsimp only
  go_simp}
 refine StepsAt.cons _ rfl (fun u' W K' hJ hd hK => ?_) ?_
 {refine Y0 hK hJ rfl rfl rfl ?_
  try dsimp only
  go_simp}
 refine StepsAt.cons _ rfl (fun u' W K' hJ hd hK => ?_) ?_
 {have d2 : _ = _ := hd 2 (by kernel_rfl)
  obtain ⟨_, ⟨y0, y1, y2, y3, y4, y5, y6, y7, y8⟩, _⟩ := HB.out.next hJ
  simp only [Nat.zero_add] at y0 y1 y2 y3 y4 y5 y6 y7 y8
  refine Y0 hK hJ rfl rfl rfl ?_
  try dsimp only
  go_simp}
 refine StepsAt.cons _ rfl (fun u' W K' hJ hd hK => ?_) ?_
 {have d1 : _ = _ := hd 1 (by kernel_rfl)
  have d3 : _ = _ := hd 3 (by kernel_rfl)
  refine Z05 (f := 48) (args := #[.slice q.A t.names.length q.c, .slice q.S t.shapes.length q.s]) (W' := W) rfl ?_ ((HWB.out W (Z00 HB0.out hJ)).mono fun e w' h => ⟨_, h.1, hK.out _ _ rfl (Z00 hJ h.2) h.2⟩)
  try dsimp only
  go_simp}
 refine StepsAt.cons _ rfl (fun u' W K' hJ hd hK => ?_) ?_
 {have d4 : _ = _ := hd 4 (by kernel_rfl)
  refine Y0 hK hJ rfl rfl rfl ?_
  try dsimp only
  go_simp
  all_goals omega}
 refine StepsAt.cons _ rfl (fun u' W K' hJ hd hK => ?_) ?_
 {have d5 : _ = _ := hd 5 (by kernel_rfl)
  refine Y0 hK hJ rfl rfl rfl ?_
  try dsimp only
  go_simp
  all_goals omega}
 refine StepsAt.cons _ rfl (fun u' W K' hJ hd hK => ?_) ?_
 {refine Y0 hK hJ rfl rfl rfl ?_
  try dsimp only
  go_simp}
 refine StepsAt.cons _ rfl (fun u' W K' hJ hd hK => ?_) ?_
 {have d7 : _ = _ := hd 7 (by kernel_rfl)
  obtain ⟨_, ⟨y0, y1, y2, y3, y4, y5, y6, y7, y8⟩, _⟩ := HB.out.next hJ
  simp only [Nat.zero_add] at y0 y1 y2 y3 y4 y5 y6 y7 y8
  rw [HQP.out] at y7
  refine Y0 hK hJ rfl rfl rfl ?_
  try dsimp only
  go_simp}
 refine StepsAt.cons _ rfl (fun u' W K' hJ hd hK => ?_) ?_
 {have d8 : _ = _ := hd 8 (by kernel_rfl)
  refine Y0 hK hJ rfl rfl rfl ?_
  try dsimp only
  go_simp
  all_goals (first | (intro hnil; exact absurd hnil hneP) | omega)}
 refine StepsAt.cons _ rfl (fun u' W K' hJ hd hK => ?_) ?_
 {have d9 : _ = _ := hd 9 (by kernel_rfl)
  obtain ⟨p0, p1, p2, p3, p4, p5, p6, p7, p8⟩ := HX0.out.keep hgl (Z00 HB0.out hJ)
  refine Y0 hK hJ rfl rfl rfl ?_
  try dsimp only
  go_simp}
 refine StepsAt.cons _ rfl (fun u' W K' hJ hd hK => ?_) ?_
 {have d10 : _ = _ := hd 10 (by kernel_rfl)
  refine Z05 (f := 27) (args := #[.agg (Y7 x0 (qs 0))]) (W' := W) rfl ?_ ((HWX0.out W (Z00 HB0.out hJ)).mono fun e w' h => ⟨_, h.1, hK.out _ _ rfl (Z00 hJ h.2) h.2⟩)
  try dsimp only
  go_simp}
 refine StepsAt.cons _ rfl (fun u' W K' hJ hd hK => ?_) ?_
 {have d6 : _ = _ := hd 6 (by kernel_rfl)
  have d11 : _ = _ := hd 11 (by kernel_rfl)
  refine Y0 hK hJ rfl rfl rfl ?_
  try dsimp only
  go_simp
  all_goals omega}
 refine StepsAt.cons _ rfl (fun u' W K' hJ hd hK => ?_) StepsAt.nil
 {have d12 : _ = _ := hd 12 (by kernel_rfl)
  refine Y0 hK hJ rfl rfl rfl ?_
  try dsimp only
  go_simp
  all_goals omega}
 intro u' W5 hJ hok
 have eL : u' 13 = .string ((((⟨#[102, 117, 110, 32, 40]⟩ : ByteArray) ++ (⟨tB.toArray⟩ : ByteArray)) ++ (⟨#[41, 32, 45, 62, 32]⟩ : ByteArray)) ++ (⟨tX0.toArray⟩ : ByteArray)) := hok 13 (by decide)
 try dsimp only
 rw [eL]
 have HBW := Y1 (Z00 HB0.out hJ)
 clear hok eL hJ
 go_wp2
 go_ret
 exact ⟨Z0h (by rw [HT'.out, <- cat7, <- cat7, <- cat7]), HBW.out⟩
theorem Z5I {l : List Tm} (h : 0 < l.length) : Z2i l = (l[0]'h).kind := by
 cases l with
 | nil => simp at h
 | cons a l => rfl
def ZhT (w : World) (g off : Nat) (t : Tm) (q : TP) (x0 : Tm) (qs : Nat -> TP) (tX0 : List UInt8) : Nat -> Want
 | 0 => .val (.pointer (some ⟨w.heap.size, 7, none⟩))
 | 1 => .val (.slice (some ⟨g, off, none⟩) t.parts.length q.d)
 | 2 => .val (.pointer (some ⟨g, off, none⟩))
 | 3 => .val (.agg (Y7 x0 (qs 0)))
 | 4 => .val (.string (⟨tX0.toArray⟩ : ByteArray))
 | 5 => .val (.string ((⟨tX0.toArray⟩ : ByteArray) ++ (⟨#[46]⟩ : ByteArray)))
 | 6 => .val (.pointer (some ⟨w.heap.size, 2, none⟩))
 | 7 => .val (.string (⟨t.name.toArray⟩ : ByteArray))
 | 8 => .val (.string (((⟨tX0.toArray⟩ : ByteArray) ++ (⟨#[46]⟩ : ByteArray)) ++ (⟨t.name.toArray⟩ : ByteArray)))
 | 9 => .val (.string (((⟨tX0.toArray⟩ : ByteArray) ++ (⟨#[46]⟩ : ByteArray)) ++ (⟨t.name.toArray⟩ : ByteArray)))
 | _ => .any
theorem ZcT (t : Tm) (q : TP) (w : World) (hq : TmAt w w.heap.size q t) (hG : Globs w) (hg : WGlobs w) (hr : right t = true) (ht : tame t = true) (hz : size t <= 4096) (hf : ∀ x ∈ t.parts, Wr8 x) (hk : t.kind = 9) :
 Y9 27 #[.agg (Y7 t q)] w (.string ⟨(text t).toArray⟩) := by
 have hb0 := Z02 w (.cells (Y7 t q) 26)
 have HB := Y1 (Z07 w t q)
 have HB0 := Y1 hb0
 obtain ⟨_, ⟨c0, c1, c2, c3, c4, c5, c6, c7, c8⟩, _⟩ := HB.out
 simp only [Nat.zero_add] at c0 c1 c2 c3 c4 c5 c6 c7 c8
 have k1 := Y3 1 hk rfl
 have k2 := Y3 2 hk rfl
 have k3 := Y3 3 hk rfl
 have k4 := Y3 4 hk rfl
 have k5 := Y3 5 hk rfl
 have k6 := Y3 6 hk rfl
 have k7 := Y3 7 hk rfl
 have k8 := Y3 8 hk rfl
 have k9 := Y4 9 hk rfl
 have hfk : fitsK t = true := by have hf := right_fits hr; unfold fits at hf; simp only [Bool.and_eq_true] at hf; exact hf.2
 unfold fitsK at hfk
 rw [if_neg (by omega), if_neg (by omega), if_neg (by omega), if_neg (by omega), if_neg (by omega), if_neg (by omega), if_neg (by omega), if_pos (by omega)] at hfk
 simp only [Bool.and_eq_true, Z0e] at hfk
 obtain ⟨_, hn1, hv1, hs1, hp1⟩ := hfk
 have htl := Z0t hr
 have hwt : weight t <= 1048576 := by unfold tame at ht; simpa using ht
 have HT := Zbv hk
 have hnl := Z0x ht
 have hlp : t.parts.length <= 4096 := by have := length_sizes t.parts; rw [size_eq] at hz; omega
 rcases hq.part with h0 | ⟨g, off, qs, hqP, hgl, hc, hrr⟩
 {omega}
 obtain ⟨x0, hx0⟩ : ∃ x, x = t.parts[0]'(by omega) := ⟨_, rfl⟩
 have hm0 : x0 ∈ t.parts := by rw [hx0]; exact List.getElem_mem _
 have HX0 : Hid (Tm9 w g (off) x0 (qs 0)) := Y1 (by rw [hx0]; exact hc 0 (by omega))
 have HA0 : Hid (TmAt w w.heap.size (qs 0) x0) := Y1 (by rw [hx0]; exact hrr 0 (by omega))
 have hg0 : (t.parts.map text).getD 0 [] = text x0 := by rw [List.getD_eq_getElem?_getD, List.getElem?_map, List.getElem?_eq_getElem (by omega), hx0]; rfl
 rw [hg0] at HT
 have hl0 : (text x0).length <= 1000000000000 := by
  have h1 := Z0t (right_part hr hm0)
  have h2 := Z1C ht hm0
  unfold tame at h2
  rw [decide_eq_true_eq] at h2
  omega
 have hk0 : Z2i t.parts = x0.kind := by rw [hx0]; exact Z5I (by omega)
 rw [hk0] at HT
 have HWX0 := Y1 (fun (W : World) (h : Below w.heap.size w W) => Z4t x0 (qs 0) W (HA0.out.next h) (hG.next h) (hg.next h) (hf x0 hm0) hl0)
 obtain ⟨tX0, htX0⟩ : ∃ z, z = oper x0.kind (text x0) := ⟨_, rfl⟩
 rw [<- htX0] at HT HWX0
 have hlen := congrArg List.length HT
 simp only [List.length_append, List.length_cons, List.length_nil] at hlen
 have zn : (⟨t.name.toArray⟩ : ByteArray).size = t.name.length := Z04 _
 have zX0 : (⟨tX0.toArray⟩ : ByteArray).size = tX0.length := Z04 _
 have bX0 : tX0.length <= 100000000000 := by omega
 have HQP := Y1 hqP
 have hi0 : (0 : Int) < (t.parts.length : Int) := by omega
 have hneP : ¬ t.parts = [] := fun e => by rw [e] at hp1; simp at hp1
 have HT' := Y1 HT
 have bn : t.name.length <= 1000000000 := hnl.1
 have hpm := hq.small.m
 clear hb0 hq hG hg hr ht hz hf hk hn1 hv1 hs1 hp1 htl hwt HT hnl hlp hlen hqP hc hrr hx0 hm0 hg0 htX0 hl0 hk0
 go_enter Tryz.func27, Tryz.ntmps27
 go_upto_region 1 with fail
 generalize w.alloc (.cells (Y7 t q) 26) = W0 at HB HB0 c0 c1 c2 c3 c4 c5 c6 c7 c8 ⊢
 go_wp2_with fail
 refine Z0p (rs := [0, 1, 2, 3, 4, 5, 6, 7, 8, 9])
  (fun u' => { tmps := #[.agg (Y7 t q), .pointer (some ⟨w.heap.size, 0, none⟩), u' 9, .pointer (some ⟨w.heap.size, 0, none⟩), .int .i64 t.kind, .bool false, .bool false, undef, undef, undef, .bool false, .bool false, undef, undef, undef, .bool false, .bool false, .bool false, .bool false, .bool false, .bool false, undef, undef, .bool false, .bool false, undef, undef, undef, undef, undef, undef, undef, undef, undef, undef, undef, undef, undef, .bool false, .bool false, undef, undef, undef, undef, undef, undef, undef, undef, undef, undef, undef, undef, .bool false, .bool false, undef, undef, undef, undef, .bool true, .bool true, u' 0, u' 1, u' 2, u' 3, u' 4, u' 5, u' 6, u' 7, u' 8, undef, undef, undef, undef, undef, undef, undef, undef, undef, undef, undef, undef, undef, undef, undef, undef, undef, undef, undef, undef, undef, undef, undef, undef, undef, undef, undef, undef, undef, undef, undef, undef, undef, undef, undef, undef, undef, undef, undef, undef, undef, undef, undef, undef, undef, undef, undef, undef, undef, undef, undef, undef, undef, undef, undef, undef, undef, undef, undef, undef, undef, undef, undef, undef, undef, undef, undef, undef, undef, undef, undef, undef, undef, undef, undef, undef, undef, undef, undef, undef, undef, undef, undef, undef, undef, undef, undef, undef, undef, undef, undef, undef, undef, undef, undef, undef, undef, undef, undef, undef, undef, undef, undef, undef, undef, undef, undef, undef, undef, undef, undef, undef, undef, undef, undef, undef, undef, undef, undef, undef, undef, undef, undef, undef, undef, undef, undef, undef, undef, undef, undef, undef, undef, undef, undef, undef], defers := [] })
  (upd (fun _ => undef) 9 (.string ⟨#[]⟩)) (ZhT w g off t q x0 qs tX0) (fun W => Below W0.heap.size W0 W) (by kernel_rfl) (by kernel_rfl) (by kernel_rfl) Y2.drew ?_ ?_
 refine StepsAt.cons _ rfl (fun u' W K' hJ hd hK => ?_) ?_
 {refine Y0 hK hJ rfl rfl rfl ?_
  try dsimp only
  go_simp}
 refine StepsAt.cons _ rfl (fun u' W K' hJ hd hK => ?_) ?_
 {have d0 : _ = _ := hd 0 (by kernel_rfl)
  obtain ⟨_, ⟨y0, y1, y2, y3, y4, y5, y6, y7, y8⟩, _⟩ := HB.out.next hJ
  simp only [Nat.zero_add] at y0 y1 y2 y3 y4 y5 y6 y7 y8
  rw [HQP.out] at y7
  refine Y0 hK hJ rfl rfl rfl ?_
  try dsimp only
  go_simp}
 refine StepsAt.cons _ rfl (fun u' W K' hJ hd hK => ?_) ?_
 {have d1 : _ = _ := hd 1 (by kernel_rfl)
  refine Y0 hK hJ rfl rfl rfl ?_
  try dsimp only
  go_simp
  all_goals (first | (intro hnil; exact absurd hnil hneP) | omega)}
 refine StepsAt.cons _ rfl (fun u' W K' hJ hd hK => ?_) ?_
 {have d2 : _ = _ := hd 2 (by kernel_rfl)
  obtain ⟨p0, p1, p2, p3, p4, p5, p6, p7, p8⟩ := HX0.out.keep hgl (Z00 HB0.out hJ)
  refine Y0 hK hJ rfl rfl rfl ?_
  try dsimp only
  go_simp}
 refine StepsAt.cons _ rfl (fun u' W K' hJ hd hK => ?_) ?_
 {have d3 : _ = _ := hd 3 (by kernel_rfl)
  refine Z05 (f := 49) (args := #[.agg (Y7 x0 (qs 0))]) (W' := W) rfl ?_ ((HWX0.out W (Z00 HB0.out hJ)).mono fun e w' h => ⟨_, h.1, hK.out _ _ rfl (Z00 hJ h.2) h.2⟩)
  try dsimp only
  go_simp}
 refine StepsAt.cons _ rfl (fun u' W K' hJ hd hK => ?_) ?_
 {have d4 : _ = _ := hd 4 (by kernel_rfl)
  refine Y0 hK hJ rfl rfl rfl ?_
  try dsimp only
  go_simp
  all_goals omega}
 refine StepsAt.cons _ rfl (fun u' W K' hJ hd hK => ?_) ?_
 {refine Y0 hK hJ rfl rfl rfl ?_
  try dsimp only
  go_simp}
 refine StepsAt.cons _ rfl (fun u' W K' hJ hd hK => ?_) ?_
 {have d6 : _ = _ := hd 6 (by kernel_rfl)
  obtain ⟨_, ⟨y0, y1, y2, y3, y4, y5, y6, y7, y8⟩, _⟩ := HB.out.next hJ
  simp only [Nat.zero_add] at y0 y1 y2 y3 y4 y5 y6 y7 y8
  refine Y0 hK hJ rfl rfl rfl ?_
  try dsimp only
  go_simp}
 refine StepsAt.cons _ rfl (fun u' W K' hJ hd hK => ?_) ?_
 {have d5 : _ = _ := hd 5 (by kernel_rfl)
  have d7 : _ = _ := hd 7 (by kernel_rfl)
  refine Y0 hK hJ rfl rfl rfl ?_
  try dsimp only
  go_simp
  all_goals omega}
 refine StepsAt.cons _ rfl (fun u' W K' hJ hd hK => ?_) StepsAt.nil
 {have d8 : _ = _ := hd 8 (by kernel_rfl)
  refine Y0 hK hJ rfl rfl rfl ?_
  try dsimp only
  go_simp
  all_goals omega}
 intro u' W5 hJ hok
 have eL : u' 9 = .string (((⟨tX0.toArray⟩ : ByteArray) ++ (⟨#[46]⟩ : ByteArray)) ++ (⟨t.name.toArray⟩ : ByteArray)) := hok 9 (by decide)
 try dsimp only
 rw [eL]
 have HBW := Y1 (Z00 HB0.out hJ)
 clear hok eL hJ
 go_wp2
 go_ret
 exact ⟨Z0h (by rw [HT'.out, <- cat7, <- cat7]), HBW.out⟩
def hiA8 (A : Option Addr) (k c size : Nat) : Option Addr := if c = k then A else A.map (·.add (k * size))
theorem Zg7 {w : World} {B : Nat} {P : Option Addr} {l : List Tm} {d : Nat} (h : TmsAt w B P l) (hd : l.length <= d) : TmsAt w B (hiA8 P 1 d 9) (l.drop 1) := by
 rcases h with h | ⟨g, off, qs, rfl, h2, h3, h4⟩
 {exact Or.inl (by rw [List.length_drop]; omega)}
 {by_cases h1 : l.length <= 1
  {exact Or.inl (by rw [List.length_drop]; omega)}
  {refine Or.inr ⟨g, off + 9, fun i => qs (i + 1), ?_, h2, fun i hi => ?_, fun i hi => ?_⟩
   {unfold hiA8
    simp [Addr.add]
    omega}
   {rw [List.getElem_drop]
    have := h3 (1 + i) (by rw [List.length_drop] at hi; omega)
    rw [show off + (1 + i) * 9 = off + 9 + i * 9 from by omega, show qs (1 + i) = qs (i + 1) from by rw [Nat.add_comm]] at this
    exact this}
   {rw [List.getElem_drop]
    have := h4 (1 + i) (by rw [List.length_drop] at hi; omega)
    rw [show qs (1 + i) = qs (i + 1) from by rw [Nat.add_comm]] at this
    exact this}}}
def ZhU (w : World) (g off : Nat) (t : Tm) (q : TP) (x0 : Tm) (qs : Nat -> TP) (tX0 tP : List UInt8) : Nat -> Want
 | 0 => .val (.pointer (some ⟨w.heap.size, 7, none⟩))
 | 1 => .val (.slice (some ⟨g, off, none⟩) t.parts.length q.d)
 | 2 => .val (.pointer (some ⟨g, off, none⟩))
 | 3 => .val (.agg (Y7 x0 (qs 0)))
 | 4 => .val (.string (⟨tX0.toArray⟩ : ByteArray))
 | 5 => .val (.string ((⟨tX0.toArray⟩ : ByteArray) ++ (⟨#[40]⟩ : ByteArray)))
 | 6 => .val (.pointer (some ⟨w.heap.size, 7, none⟩))
 | 7 => .val (.slice (some ⟨g, off, none⟩) t.parts.length q.d)
 | 8 => .val (.slice (hiA8 (some ⟨g, off, none⟩) 1 q.d 9) (t.parts.length - 1) (q.d - 1))
 | 9 => .val (.string (⟨tP.toArray⟩ : ByteArray))
 | 10 => .val (.string (((⟨tX0.toArray⟩ : ByteArray) ++ (⟨#[40]⟩ : ByteArray)) ++ (⟨tP.toArray⟩ : ByteArray)))
 | 11 => .val (.string ((((⟨tX0.toArray⟩ : ByteArray) ++ (⟨#[40]⟩ : ByteArray)) ++ (⟨tP.toArray⟩ : ByteArray)) ++ (⟨#[41]⟩ : ByteArray)))
 | 12 => .val (.string ((((⟨tX0.toArray⟩ : ByteArray) ++ (⟨#[40]⟩ : ByteArray)) ++ (⟨tP.toArray⟩ : ByteArray)) ++ (⟨#[41]⟩ : ByteArray)))
 | _ => .any
theorem ZcU (t : Tm) (q : TP) (w : World) (hq : TmAt w w.heap.size q t) (hG : Globs w) (hg : WGlobs w) (hr : right t = true) (ht : tame t = true) (hz : size t <= 4096) (hf : ∀ x ∈ t.parts, Wr8 x) (hk : t.kind = 7) :
 Y9 27 #[.agg (Y7 t q)] w (.string ⟨(text t).toArray⟩) := by
 have hb0 := Z02 w (.cells (Y7 t q) 26)
 have HB := Y1 (Z07 w t q)
 have HB0 := Y1 hb0
 obtain ⟨_, ⟨c0, c1, c2, c3, c4, c5, c6, c7, c8⟩, _⟩ := HB.out
 simp only [Nat.zero_add] at c0 c1 c2 c3 c4 c5 c6 c7 c8
 have k1 := Y3 1 hk rfl
 have k2 := Y3 2 hk rfl
 have k3 := Y3 3 hk rfl
 have k4 := Y3 4 hk rfl
 have k5 := Y3 5 hk rfl
 have k6 := Y3 6 hk rfl
 have k7 := Y4 7 hk rfl
 have hfk : fitsK t = true := by have hf := right_fits hr; unfold fits at hf; simp only [Bool.and_eq_true] at hf; exact hf.2
 unfold fitsK at hfk
 rw [if_neg (by omega), if_neg (by omega), if_neg (by omega), if_neg (by omega), if_neg (by omega), if_pos (by omega)] at hfk
 simp only [Bool.and_eq_true, Z0e] at hfk
 obtain ⟨⟨_, h1p⟩, hn1, hv1, hs1, hp1⟩ := hfk
 rw [decide_eq_true_eq] at h1p
 have htl := Z0t hr
 have hwt : weight t <= 1048576 := by unfold tame at ht; simpa using ht
 have HT := Zbt hk
 have hnl := Z0x ht
 have hlp : t.parts.length <= 4096 := by have := length_sizes t.parts; rw [size_eq] at hz; omega
 rcases hq.part with h0 | ⟨g, off, qs, hqP, hgl, hc, hrr⟩
 {omega}
 obtain ⟨x0, hx0⟩ : ∃ x, x = t.parts[0]'(by omega) := ⟨_, rfl⟩
 have hm0 : x0 ∈ t.parts := by rw [hx0]; exact List.getElem_mem _
 have HX0 : Hid (Tm9 w g (off) x0 (qs 0)) := Y1 (by rw [hx0]; exact hc 0 (by omega))
 have HA0 : Hid (TmAt w w.heap.size (qs 0) x0) := Y1 (by rw [hx0]; exact hrr 0 (by omega))
 have hg0 : (t.parts.map text).getD 0 [] = text x0 := by rw [List.getD_eq_getElem?_getD, List.getElem?_map, List.getElem?_eq_getElem (by omega), hx0]; rfl
 rw [hg0] at HT
 have hl0 : (text x0).length <= 1000000000000 := by
  have h1 := Z0t (right_part hr hm0)
  have h2 := Z1C ht hm0
  unfold tame at h2
  rw [decide_eq_true_eq] at h2
  omega
 have hk0 : Z2i t.parts = x0.kind := by rw [hx0]; exact Z5I (by omega)
 rw [hk0] at HT
 have HWX0 := Y1 (fun (W : World) (h : Below w.heap.size w W) => Z4t x0 (qs 0) W (HA0.out.next h) (hG.next h) (hg.next h) (hf x0 hm0) hl0)
 obtain ⟨tX0, htX0⟩ : ∃ z, z = oper x0.kind (text x0) := ⟨_, rfl⟩
 rw [<- htX0] at HT HWX0
 have hjt : (t.parts.map text).tail = (t.parts.drop 1).map text := by rw [List.map_drop, List.drop_one]
 rw [hjt] at HT
 have hjl : (join [44, 32] ((t.parts.drop 1).map text)).length <= 140737488355328 := by
  have h1 := congrArg List.length HT
  simp only [List.length_append] at h1
  omega
 have HWP := Y1 (fun (W : World) (h : Below w.heap.size w W) => Z50 (hiA8 (some ⟨g, off, none⟩) 1 q.d 9) (q.d - 1) (t.parts.drop 1) W (Zg7 (TmsAt.next (Or.inr ⟨g, off, qs, rfl, hgl, hc, hrr⟩) h) (hq.small.d)) (by rw [List.length_drop]; omega) (hG.next h) (hg.next h) (fun x hx => hf x (List.mem_of_mem_drop hx)) hjl)
 rw [List.length_drop] at HWP
 obtain ⟨tP, htP⟩ : ∃ z, z = join [44, 32] ((t.parts.drop 1).map text) := ⟨_, rfl⟩
 rw [<- htP] at HT HWP
 have hsl : (1 : Int) <= (t.parts.length : Int) := by omega
 have hlen := congrArg List.length HT
 simp only [List.length_append, List.length_cons, List.length_nil] at hlen
 have zn : (⟨t.name.toArray⟩ : ByteArray).size = t.name.length := Z04 _
 have zX0 : (⟨tX0.toArray⟩ : ByteArray).size = tX0.length := Z04 _
 have bX0 : tX0.length <= 100000000000 := by omega
 have zP : (⟨tP.toArray⟩ : ByteArray).size = tP.length := Z04 _
 have bP : tP.length <= 100000000000 := by omega
 have HQP := Y1 hqP
 have hi0 : (0 : Int) < (t.parts.length : Int) := by omega
 have hneP : ¬ t.parts = [] := fun e => by rw [e] at h1p; simp at h1p
 have HT' := Y1 HT
 have bn : t.name.length <= 1000000000 := hnl.1
 have hpm := hq.small.m
 clear hb0 hq hG hg hr ht hz hf hk hn1 hv1 hs1 hp1 htl hwt HT hnl hlp hlen hqP hc hrr hx0 hm0 hg0 htX0 hl0 hk0 htP hjl hjt
 go_enter Tryz.func27, Tryz.ntmps27
 go_upto_region 1 with fail
 generalize w.alloc (.cells (Y7 t q) 26) = W0 at HB HB0 c0 c1 c2 c3 c4 c5 c6 c7 c8 ⊢
 go_wp2_with fail
 refine Z0p (rs := [0, 1, 2, 3, 4, 5, 6, 7, 8, 9, 10, 11, 12])
  (fun u' => { tmps := #[.agg (Y7 t q), .pointer (some ⟨w.heap.size, 0, none⟩), u' 12, .pointer (some ⟨w.heap.size, 0, none⟩), .int .i64 t.kind, .bool false, .bool false, undef, undef, undef, .bool false, .bool false, undef, undef, undef, .bool false, .bool false, .bool false, .bool false, .bool false, .bool false, undef, undef, .bool false, .bool false, undef, undef, undef, undef, undef, undef, undef, undef, undef, undef, undef, undef, undef, .bool true, .bool true, u' 0, u' 1, u' 2, u' 3, u' 4, u' 5, u' 6, u' 7, u' 8, u' 9, u' 10, u' 11, undef, undef, undef, undef, undef, undef, undef, undef, undef, undef, undef, undef, undef, undef, undef, undef, undef, undef, undef, undef, undef, undef, undef, undef, undef, undef, undef, undef, undef, undef, undef, undef, undef, undef, undef, undef, undef, undef, undef, undef, undef, undef, undef, undef, undef, undef, undef, undef, undef, undef, undef, undef, undef, undef, undef, undef, undef, undef, undef, undef, undef, undef, undef, undef, undef, undef, undef, undef, undef, undef, undef, undef, undef, undef, undef, undef, undef, undef, undef, undef, undef, undef, undef, undef, undef, undef, undef, undef, undef, undef, undef, undef, undef, undef, undef, undef, undef, undef, undef, undef, undef, undef, undef, undef, undef, undef, undef, undef, undef, undef, undef, undef, undef, undef, undef, undef, undef, undef, undef, undef, undef, undef, undef, undef, undef, undef, undef, undef, undef, undef, undef, undef, undef, undef, undef, undef, undef, undef, undef, undef, undef, undef, undef, undef, undef, undef, undef, undef, undef, undef, undef, undef, undef], defers := [] })
  (upd (fun _ => undef) 12 (.string ⟨#[]⟩)) (ZhU w g off t q x0 qs tX0 tP) (fun W => Below W0.heap.size W0 W) (by kernel_rfl) (by kernel_rfl) (by kernel_rfl) Y2.drew ?_ ?_
 refine StepsAt.cons _ rfl (fun u' W K' hJ hd hK => ?_) ?_
 {refine Y0 hK hJ rfl rfl rfl ?_
  try dsimp only
  go_simp}
 refine StepsAt.cons _ rfl (fun u' W K' hJ hd hK => ?_) ?_
 {have d0 : _ = _ := hd 0 (by kernel_rfl)
  obtain ⟨_, ⟨y0, y1, y2, y3, y4, y5, y6, y7, y8⟩, _⟩ := HB.out.next hJ
  simp only [Nat.zero_add] at y0 y1 y2 y3 y4 y5 y6 y7 y8
  rw [HQP.out] at y7
  refine Y0 hK hJ rfl rfl rfl ?_
  try dsimp only
  go_simp}
 refine StepsAt.cons _ rfl (fun u' W K' hJ hd hK => ?_) ?_
 {have d1 : _ = _ := hd 1 (by kernel_rfl)
  refine Y0 hK hJ rfl rfl rfl ?_
  try dsimp only
  go_simp
  all_goals (first | (intro hnil; exact absurd hnil hneP) | omega)}
 refine StepsAt.cons _ rfl (fun u' W K' hJ hd hK => ?_) ?_
 {have d2 : _ = _ := hd 2 (by kernel_rfl)
  obtain ⟨p0, p1, p2, p3, p4, p5, p6, p7, p8⟩ := HX0.out.keep hgl (Z00 HB0.out hJ)
  refine Y0 hK hJ rfl rfl rfl ?_
  try dsimp only
  go_simp}
 refine StepsAt.cons _ rfl (fun u' W K' hJ hd hK => ?_) ?_
 {have d3 : _ = _ := hd 3 (by kernel_rfl)
  refine Z05 (f := 49) (args := #[.agg (Y7 x0 (qs 0))]) (W' := W) rfl ?_ ((HWX0.out W (Z00 HB0.out hJ)).mono fun e w' h => ⟨_, h.1, hK.out _ _ rfl (Z00 hJ h.2) h.2⟩)
  try dsimp only
  go_simp}
 refine StepsAt.cons _ rfl (fun u' W K' hJ hd hK => ?_) ?_
 {have d4 : _ = _ := hd 4 (by kernel_rfl)
  refine Y0 hK hJ rfl rfl rfl ?_
  try dsimp only
  go_simp
  all_goals omega}
 refine StepsAt.cons _ rfl (fun u' W K' hJ hd hK => ?_) ?_
 {refine Y0 hK hJ rfl rfl rfl ?_
  try dsimp only
  go_simp}
 refine StepsAt.cons _ rfl (fun u' W K' hJ hd hK => ?_) ?_
 {have d6 : _ = _ := hd 6 (by kernel_rfl)
  obtain ⟨_, ⟨y0, y1, y2, y3, y4, y5, y6, y7, y8⟩, _⟩ := HB.out.next hJ
  simp only [Nat.zero_add] at y0 y1 y2 y3 y4 y5 y6 y7 y8
  rw [HQP.out] at y7
  refine Y0 hK hJ rfl rfl rfl ?_
  try dsimp only
  go_simp}
 refine StepsAt.cons _ rfl (fun u' W K' hJ hd hK => ?_) ?_
 {have d7 : _ = _ := hd 7 (by kernel_rfl)
  refine Y0 hK hJ rfl rfl rfl ?_
  try dsimp only
  go_simp
  rfl}
 refine StepsAt.cons _ rfl (fun u' W K' hJ hd hK => ?_) ?_
 {have d8 : _ = _ := hd 8 (by kernel_rfl)
  refine Z05 (f := 50) (args := #[.slice (hiA8 (some ⟨g, off, none⟩) 1 q.d 9) (t.parts.length - 1) (q.d - 1)]) (W' := W) rfl ?_ ((HWP.out W (Z00 HB0.out hJ)).mono fun e w' h => ⟨_, h.1, hK.out _ _ rfl (Z00 hJ h.2) h.2⟩)
  try dsimp only
  go_simp}
 refine StepsAt.cons _ rfl (fun u' W K' hJ hd hK => ?_) ?_
 {have d5 : _ = _ := hd 5 (by kernel_rfl)
  have d9 : _ = _ := hd 9 (by kernel_rfl)
  refine Y0 hK hJ rfl rfl rfl ?_
  try dsimp only
  go_simp
  all_goals omega}
 refine StepsAt.cons _ rfl (fun u' W K' hJ hd hK => ?_) ?_
 {have d10 : _ = _ := hd 10 (by kernel_rfl)
  refine Y0 hK hJ rfl rfl rfl ?_
  try dsimp only
  go_simp
  all_goals omega}
 refine StepsAt.cons _ rfl (fun u' W K' hJ hd hK => ?_) StepsAt.nil
 {have d11 : _ = _ := hd 11 (by kernel_rfl)
  refine Y0 hK hJ rfl rfl rfl ?_
  try dsimp only
  go_simp
  all_goals omega}
 intro u' W5 hJ hok
 have eL : u' 12 = .string ((((⟨tX0.toArray⟩ : ByteArray) ++ (⟨#[40]⟩ : ByteArray)) ++ (⟨tP.toArray⟩ : ByteArray)) ++ (⟨#[41]⟩ : ByteArray)) := hok 12 (by decide)
 try dsimp only
 rw [eL]
 have HBW := Y1 (Z00 HB0.out hJ)
 clear hok eL hJ
 go_wp2
 go_ret
 exact ⟨Z0h (by rw [HT'.out, <- cat7, <- cat7, <- cat7]), HBW.out⟩
def Zhm (w : World) (g off : Nat) (t : Tm) (q : TP) (x0 : Tm) (qs : Nat -> TP) (tX0 : List UInt8) : Nat -> Want
 | 0 => .val (.pointer (some ⟨w.heap.size, 2, none⟩))
 | 1 => .val (.string (⟨t.name.toArray⟩ : ByteArray))
 | 2 => .val (.string ((⟨#[64]⟩ : ByteArray) ++ (⟨t.name.toArray⟩ : ByteArray)))
 | 3 => .val (.string (((⟨#[64]⟩ : ByteArray) ++ (⟨t.name.toArray⟩ : ByteArray)) ++ (⟨#[40]⟩ : ByteArray)))
 | 4 => .val (.pointer (some ⟨w.heap.size, 7, none⟩))
 | 5 => .val (.slice (some ⟨g, off, none⟩) t.parts.length q.d)
 | 6 => .val (.pointer (some ⟨g, off, none⟩))
 | 7 => .val (.agg (Y7 x0 (qs 0)))
 | 8 => .val (.string (⟨tX0.toArray⟩ : ByteArray))
 | 9 => .val (.string ((((⟨#[64]⟩ : ByteArray) ++ (⟨t.name.toArray⟩ : ByteArray)) ++ (⟨#[40]⟩ : ByteArray)) ++ (⟨tX0.toArray⟩ : ByteArray)))
 | 10 => .val (.string (((((⟨#[64]⟩ : ByteArray) ++ (⟨t.name.toArray⟩ : ByteArray)) ++ (⟨#[40]⟩ : ByteArray)) ++ (⟨tX0.toArray⟩ : ByteArray)) ++ (⟨#[41]⟩ : ByteArray)))
 | 11 => .val (.string (((((⟨#[64]⟩ : ByteArray) ++ (⟨t.name.toArray⟩ : ByteArray)) ++ (⟨#[40]⟩ : ByteArray)) ++ (⟨tX0.toArray⟩ : ByteArray)) ++ (⟨#[41]⟩ : ByteArray)))
 | _ => .any
theorem ZaH (t : Tm) (q : TP) (w : World) (hq : TmAt w w.heap.size q t) (hG : Globs w) (hg : WGlobs w) (hr : right t = true) (ht : tame t = true) (hz : size t <= 4096) (hf : ∀ x ∈ t.parts, Wr8 x) (hk : t.kind = 10) :
 Y9 27 #[.agg (Y7 t q)] w (.string ⟨(text t).toArray⟩) := by
 have hb0 := Z02 w (.cells (Y7 t q) 26)
 have HB := Y1 (Z07 w t q)
 have HB0 := Y1 hb0
 obtain ⟨_, ⟨c0, c1, c2, c3, c4, c5, c6, c7, c8⟩, _⟩ := HB.out
 simp only [Nat.zero_add] at c0 c1 c2 c3 c4 c5 c6 c7 c8
 have k1 := Y3 1 hk rfl
 have k2 := Y3 2 hk rfl
 have k3 := Y3 3 hk rfl
 have k4 := Y3 4 hk rfl
 have k5 := Y3 5 hk rfl
 have k6 := Y3 6 hk rfl
 have k7 := Y3 7 hk rfl
 have k8 := Y3 8 hk rfl
 have k9 := Y3 9 hk rfl
 have k10 := Y4 10 hk rfl
 have hfk : fitsK t = true := by have hf := right_fits hr; unfold fits at hf; simp only [Bool.and_eq_true] at hf; exact hf.2
 unfold fitsK at hfk
 rw [if_neg (by omega), if_neg (by omega), if_neg (by omega), if_neg (by omega), if_neg (by omega), if_neg (by omega), if_neg (by omega), if_pos (by omega)] at hfk
 simp only [Bool.and_eq_true, Z0e] at hfk
 obtain ⟨_, hn1, hv1, hs1, hp1⟩ := hfk
 have htl := Z0t hr
 have hwt : weight t <= 1048576 := by unfold tame at ht; simpa using ht
 have HT := Z8v hk
 have hnl := Z0x ht
 have hlp : t.parts.length <= 4096 := by have := length_sizes t.parts; rw [size_eq] at hz; omega
 rcases hq.part with h0 | ⟨g, off, qs, hqP, hgl, hc, hrr⟩
 {omega}
 obtain ⟨x0, hx0⟩ : ∃ x, x = t.parts[0]'(by omega) := ⟨_, rfl⟩
 have hm0 : x0 ∈ t.parts := by rw [hx0]; exact List.getElem_mem _
 have HX0 : Hid (Tm9 w g (off) x0 (qs 0)) := Y1 (by rw [hx0]; exact hc 0 (by omega))
 have HA0 : Hid (TmAt w w.heap.size (qs 0) x0) := Y1 (by rw [hx0]; exact hrr 0 (by omega))
 have hg0 : (t.parts.map text).getD 0 [] = text x0 := by rw [List.getD_eq_getElem?_getD, List.getElem?_map, List.getElem?_eq_getElem (by omega), hx0]; rfl
 rw [hg0] at HT
 have HWX0 := Y1 (fun (W : World) (h : Below w.heap.size w W) => hf x0 hm0 (qs 0) W (HA0.out.next h) (hG.next h) (hg.next h))
 obtain ⟨tX0, htX0⟩ : ∃ z, z = text x0 := ⟨_, rfl⟩
 rw [<- htX0] at HT HWX0
 have hlen := congrArg List.length HT
 simp only [List.length_append, List.length_cons, List.length_nil] at hlen
 have zn : (⟨t.name.toArray⟩ : ByteArray).size = t.name.length := Z04 _
 have zX0 : (⟨tX0.toArray⟩ : ByteArray).size = tX0.length := Z04 _
 have bX0 : tX0.length <= 100000000000 := by omega
 have HQP := Y1 hqP
 have hi0 : (0 : Int) < (t.parts.length : Int) := by omega
 have hneP : ¬ t.parts = [] := fun e => by rw [e] at hp1; simp at hp1
 have HT' := Y1 HT
 have bn : t.name.length <= 1000000000 := hnl.1
 have hpm := hq.small.m
 clear hb0 hq hG hg hr ht hz hf hk hn1 hv1 hs1 hp1 htl hwt HT hnl hlp hlen hqP hc hrr hx0 hm0 hg0 htX0
 go_enter Tryz.func27, Tryz.ntmps27
 go_upto_region 1 with fail
 generalize w.alloc (.cells (Y7 t q) 26) = W0 at HB HB0 c0 c1 c2 c3 c4 c5 c6 c7 c8 ⊢
 go_wp2_with fail
 refine Z0p (rs := [0, 1, 2, 3, 4, 5, 6, 7, 8, 9, 10, 11])
  (fun u' => { tmps := #[.agg (Y7 t q), .pointer (some ⟨w.heap.size, 0, none⟩), u' 11, .pointer (some ⟨w.heap.size, 0, none⟩), .int .i64 t.kind, .bool false, .bool false, undef, undef, undef, .bool false, .bool false, undef, undef, undef, .bool false, .bool false, .bool false, .bool false, .bool false, .bool false, undef, undef, .bool false, .bool false, undef, undef, undef, undef, undef, undef, undef, undef, undef, undef, undef, undef, undef, .bool false, .bool false, undef, undef, undef, undef, undef, undef, undef, undef, undef, undef, undef, undef, .bool false, .bool false, undef, undef, undef, undef, .bool false, .bool false, undef, undef, undef, undef, undef, undef, undef, undef, undef, .bool true, .bool true, u' 0, u' 1, u' 2, u' 3, u' 4, u' 5, u' 6, u' 7, u' 8, u' 9, u' 10, undef, undef, undef, undef, undef, undef, undef, undef, undef, undef, undef, undef, undef, undef, undef, undef, undef, undef, undef, undef, undef, undef, undef, undef, undef, undef, undef, undef, undef, undef, undef, undef, undef, undef, undef, undef, undef, undef, undef, undef, undef, undef, undef, undef, undef, undef, undef, undef, undef, undef, undef, undef, undef, undef, undef, undef, undef, undef, undef, undef, undef, undef, undef, undef, undef, undef, undef, undef, undef, undef, undef, undef, undef, undef, undef, undef, undef, undef, undef, undef, undef, undef, undef, undef, undef, undef, undef, undef, undef, undef, undef, undef, undef, undef, undef, undef, undef, undef, undef, undef, undef, undef, undef, undef, undef, undef, undef, undef, undef, undef, undef, undef, undef, undef, undef, undef, undef, undef, undef, undef, undef, undef, undef], defers := [] })
  (upd (fun _ => undef) 11 (.string ⟨#[]⟩)) (Zhm w g off t q x0 qs tX0) (fun W => Below W0.heap.size W0 W) (by kernel_rfl) (by kernel_rfl) (by kernel_rfl) Y2.drew ?_ ?_
 refine StepsAt.cons _ rfl (fun u' W K' hJ hd hK => ?_) ?_
 {refine Y0 hK hJ rfl rfl rfl ?_
  try dsimp only
  go_simp}
 refine StepsAt.cons _ rfl (fun u' W K' hJ hd hK => ?_) ?_
 {have d0 : _ = _ := hd 0 (by kernel_rfl)
  obtain ⟨_, ⟨y0, y1, y2, y3, y4, y5, y6, y7, y8⟩, _⟩ := HB.out.next hJ
  simp only [Nat.zero_add] at y0 y1 y2 y3 y4 y5 y6 y7 y8
  refine Y0 hK hJ rfl rfl rfl ?_
  try dsimp only
  go_simp}
 refine StepsAt.cons _ rfl (fun u' W K' hJ hd hK => ?_) ?_
 {have d1 : _ = _ := hd 1 (by kernel_rfl)
  refine Y0 hK hJ rfl rfl rfl ?_
  try dsimp only
  go_simp
  all_goals omega}
 refine StepsAt.cons _ rfl (fun u' W K' hJ hd hK => ?_) ?_
 {have d2 : _ = _ := hd 2 (by kernel_rfl)
  refine Y0 hK hJ rfl rfl rfl ?_
  try dsimp only
  go_simp
  all_goals omega}
 refine StepsAt.cons _ rfl (fun u' W K' hJ hd hK => ?_) ?_
 {refine Y0 hK hJ rfl rfl rfl ?_
  try dsimp only
  go_simp}
 refine StepsAt.cons _ rfl (fun u' W K' hJ hd hK => ?_) ?_
 {have d4 : _ = _ := hd 4 (by kernel_rfl)
  obtain ⟨_, ⟨y0, y1, y2, y3, y4, y5, y6, y7, y8⟩, _⟩ := HB.out.next hJ
  simp only [Nat.zero_add] at y0 y1 y2 y3 y4 y5 y6 y7 y8
  rw [HQP.out] at y7
  refine Y0 hK hJ rfl rfl rfl ?_
  try dsimp only
  go_simp}
 refine StepsAt.cons _ rfl (fun u' W K' hJ hd hK => ?_) ?_
 {have d5 : _ = _ := hd 5 (by kernel_rfl)
  refine Y0 hK hJ rfl rfl rfl ?_
  try dsimp only
  go_simp
  all_goals (first | (intro hnil; exact absurd hnil hneP) | omega)}
 refine StepsAt.cons _ rfl (fun u' W K' hJ hd hK => ?_) ?_
 {have d6 : _ = _ := hd 6 (by kernel_rfl)
  obtain ⟨p0, p1, p2, p3, p4, p5, p6, p7, p8⟩ := HX0.out.keep hgl (Z00 HB0.out hJ)
  refine Y0 hK hJ rfl rfl rfl ?_
  try dsimp only
  go_simp}
 refine StepsAt.cons _ rfl (fun u' W K' hJ hd hK => ?_) ?_
 {have d7 : _ = _ := hd 7 (by kernel_rfl)
  refine Z05 (f := 27) (args := #[.agg (Y7 x0 (qs 0))]) (W' := W) rfl ?_ ((HWX0.out W (Z00 HB0.out hJ)).mono fun e w' h => ⟨_, h.1, hK.out _ _ rfl (Z00 hJ h.2) h.2⟩)
  try dsimp only
  go_simp}
 refine StepsAt.cons _ rfl (fun u' W K' hJ hd hK => ?_) ?_
 {have d3 : _ = _ := hd 3 (by kernel_rfl)
  have d8 : _ = _ := hd 8 (by kernel_rfl)
  refine Y0 hK hJ rfl rfl rfl ?_
  try dsimp only
  go_simp
  all_goals omega}
 refine StepsAt.cons _ rfl (fun u' W K' hJ hd hK => ?_) ?_
 {have d9 : _ = _ := hd 9 (by kernel_rfl)
  refine Y0 hK hJ rfl rfl rfl ?_
  try dsimp only
  go_simp
  all_goals omega}
 refine StepsAt.cons _ rfl (fun u' W K' hJ hd hK => ?_) StepsAt.nil
 {have d10 : _ = _ := hd 10 (by kernel_rfl)
  refine Y0 hK hJ rfl rfl rfl ?_
  try dsimp only
  go_simp
  all_goals omega}
 intro u' W5 hJ hok
 have eL : u' 11 = .string (((((⟨#[64]⟩ : ByteArray) ++ (⟨t.name.toArray⟩ : ByteArray)) ++ (⟨#[40]⟩ : ByteArray)) ++ (⟨tX0.toArray⟩ : ByteArray)) ++ (⟨#[41]⟩ : ByteArray)) := hok 11 (by decide)
 try dsimp only
 rw [eL]
 have HBW := Y1 (Z00 HB0.out hJ)
 clear hok eL hJ
 go_wp2
 go_ret
 exact ⟨Z0h (by rw [HT'.out, <- cat7, <- cat7, <- cat7, <- cat7]), HBW.out⟩
end Go.Proofs.YtnkdedejfonbmaaGreatDoor
