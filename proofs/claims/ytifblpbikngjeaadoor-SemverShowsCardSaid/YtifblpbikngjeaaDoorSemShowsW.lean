/- The walk of SemverShows, over the program's contracts. -/
import Derived.Test.YtifblpbikngjeaaDoorSemAwake
namespace Go.Proofs.YtifblpbikngjeaaDoor
open Go.RowKit
set_option linter.unusedVariables false

theorem vers_one (w : World) (v : Sem.Ver) : Vers (w.alloc (.cells #[.int .i64 v.maj, .int .i64 v.min, .int .i64 v.pat, .string ⟨v.pre.toArray⟩] 23)) (w.alloc (.cells #[.int .i64 v.maj, .int .i64 v.min, .int .i64 v.pat, .string ⟨v.pre.toArray⟩] 23)).heap.size (some ⟨w.heap.size, 0, none⟩) [v] := by
  refine Or.inr ⟨w.heap.size, 0, rfl, by simp, fun i hi => ?_⟩
  obtain rfl : i = 0 := by simp at hi; omega
  obtain ⟨_, h0, h1, h2, h3⟩ := ver_new w v
  exact ⟨h0, h1, h2, h3⟩

set_option maxRecDepth 100000 in
set_option maxHeartbeats 2000000 in
theorem shows_long (v : Sem.Ver) (hv : v.pre.length ≤ 140737488351232) (h : 300 < v.pre.length) (w : World) (hg : Globs w) :
    Calls Tryd.prog 4 #[verV v] w fun e w' => e = .returned (.bool true) ∧ Below w.heap.size w w' := by
  have hm : Sem.may v = false := Bool.eq_false_iff.2 fun h' => by have := ((Sem.may_iff v).1 h').2.2.2.1; omega
  have HSH : Hid (showR v = .tuple #[.string ⟨#[]⟩, .int .i64 40]) := Lib.hid (by rw [showR, hm, if_neg (by simp)]; rfl)
  have hL : lightB [v] = false := by unfold lightB; simp; omega
  have HL := Lib.hid hL
  obtain ⟨a, b, c, p⟩ := v
  clear hm hL
  unfold verV
  go_enter Tryd.func4, Tryd.ntmps4
  go_wp2_with fail
  generalize hW0 : w.alloc (Obj.cells #[Value.int IntKind.i64 a, Value.int IntKind.i64 b, Value.int IntKind.i64 c, Value.string ⟨p.toArray⟩] 23) = W0
  have hV0 : VerAt W0 w.heap.size ⟨a, b, c, p⟩ := by rw [← hW0]; exact ver_new w ⟨a, b, c, p⟩
  have hB0 : Below w.heap.size w W0 := by rw [← hW0]; exact below_one _ _
  have hz0 : W0.heap.size = w.heap.size + 1 := by rw [← hW0]; simp
  have hVs := vers_one W0 ⟨a, b, c, p⟩
  rw [hz0] at hVs
  have HZ := Lib.hid hz0
  clear hW0 hz0
  have hVX := hV0.next (below_one W0 (Obj.cells #[Value.int IntKind.i64 a, Value.int IntKind.i64 b, Value.int IntKind.i64 c, Value.string ⟨p.toArray⟩] 23))
  have hBX := below_new hB0 (Obj.cells #[Value.int IntKind.i64 a, Value.int IntKind.i64 b, Value.int IntKind.i64 c, Value.string ⟨p.toArray⟩] 23)
  refine (light_walk _ 1 [⟨a, b, c, p⟩] _ hVs (by simp)).mono ?_
  rintro e w' ⟨he, rfl⟩
  rw [HL.out] at he
  subst he
  obtain ⟨h0, h1, h2, h3, h4⟩ := hVX
  simp only at h1 h2 h3 h4
  go_wp2_with fail
  refine (show_walk ⟨a, b, c, p⟩ hv _ (hg.next hBX)).mono ?_
  rintro e w2 ⟨he, hb2⟩
  rw [HSH.out] at he
  subst he
  have hB2 := below_next hBX hb2
  clear h0 h1 h2 h3 h4 hb2 hBX
  go_wp2_with fail
  refine (awake_walk _ (hg.next hB2)).mono ?_
  rintro e w6 ⟨rfl, hb6⟩
  go_wp2
  go_ret
  exact ⟨rfl, below_next hB2 hb6⟩

set_option maxRecDepth 100000 in
set_option maxHeartbeats 2000000 in
theorem shows_short (v : Sem.Ver) (h : v.pre.length ≤ 300) (w : World) (hg : Globs w) :
    Calls Tryd.prog 4 #[verV v] w fun e w' => e = .returned (.bool true) ∧ Below w.heap.size w w' := by
  obtain ⟨t, e0, hsh⟩ : ∃ (t : List UInt8) (e0 : Int), showR v = .tuple #[.string ⟨t.toArray⟩, .int .i64 e0] := by
    unfold showR; split <;> exact ⟨_, _, rfl⟩
  have HSH := Lib.hid hsh
  have hL : lightB [v] = true := by unfold lightB; simp; omega
  have HL := Lib.hid hL
  obtain ⟨k, hk⟩ : ∃ k, k = chk v := ⟨_, rfl⟩
  have HK := Lib.hid hk.symm
  obtain ⟨a, b, c, p⟩ := v
  have hcr : verV (Sem.core ⟨a, b, c, p⟩) = .agg #[.int .i64 a, .int .i64 b, .int .i64 c, .string ⟨#[]⟩] := rfl
  have HCR := Lib.hid hcr
  clear hsh hL hk hcr
  have haa : (a == a) = true := by simp
  have hbb : (b == b) = true := by simp
  have hcc : (c == c) = true := by simp
  have htt : (t == t) = true := by simp
  have hee : (e0 == e0) = true := by simp
  have hkk : (k == k) = true := by simp
  unfold verV
  go_enter Tryd.func4, Tryd.ntmps4
  go_wp2_with fail
  generalize hW0 : w.alloc (Obj.cells #[Value.int IntKind.i64 a, Value.int IntKind.i64 b, Value.int IntKind.i64 c, Value.string ⟨p.toArray⟩] 23) = W0
  have hV0 : VerAt W0 w.heap.size ⟨a, b, c, p⟩ := by rw [← hW0]; exact ver_new w ⟨a, b, c, p⟩
  have hB0 : Below w.heap.size w W0 := by rw [← hW0]; exact below_one _ _
  have hz0 : W0.heap.size = w.heap.size + 1 := by rw [← hW0]; simp
  have hVs := vers_one W0 ⟨a, b, c, p⟩
  rw [hz0] at hVs
  have HZ := Lib.hid hz0
  clear hW0 hz0
  have hVX := hV0.next (below_one W0 (Obj.cells #[Value.int IntKind.i64 a, Value.int IntKind.i64 b, Value.int IntKind.i64 c, Value.string ⟨p.toArray⟩] 23))
  have hBX := below_new hB0 (Obj.cells #[Value.int IntKind.i64 a, Value.int IntKind.i64 b, Value.int IntKind.i64 c, Value.string ⟨p.toArray⟩] 23)
  refine (light_walk _ 1 [⟨a, b, c, p⟩] _ hVs (by simp)).mono ?_
  rintro e w' ⟨he, rfl⟩
  rw [HL.out] at he
  subst he
  have hVY := hVX
  obtain ⟨h0, h1, h2, h3, h4⟩ := hVX
  simp only at h1 h2 h3 h4
  go_wp2_with fail
  refine (show_walk ⟨a, b, c, p⟩ (by simp only; omega) _ (hg.next hBX)).mono ?_
  rintro e w2 ⟨he, hb2⟩
  rw [HSH.out] at he
  subst he
  have hV2 := hVY.next hb2
  have hB2 := below_next hBX hb2
  clear h0 h1 h2 h3 h4 hb2 hBX hVY
  obtain ⟨h0, h1, h2, h3, h4⟩ := hV2
  simp only at h1 h2 h3 h4
  go_wp2_with fail
  refine (rshow_walk ⟨a, b, c, p⟩ (by simp only; omega) _).mono ?_
  rintro e w3 ⟨he, hb3⟩
  rw [HSH.out] at he
  subst he
  have hV3 := VerAt.next (v := ⟨a, b, c, p⟩) ⟨h0, h1, h2, h3, h4⟩ hb3
  have hB3 := below_next hB2 hb3
  clear h0 h1 h2 h3 h4 hb3 hB2
  obtain ⟨h0, h1, h2, h3, h4⟩ := hV3
  have hS0 : w.heap.size < w3.heap.size ∧ w3.cell? ⟨w.heap.size, 0, none⟩ = some (.int .i64 a) ∧ w3.cell? ⟨w.heap.size, 1, none⟩ = some (.int .i64 b) ∧ w3.cell? ⟨w.heap.size, 2, none⟩ = some (.int .i64 c) ∧ w3.cell? ⟨w.heap.size, 3, none⟩ = some (.string ⟨p.toArray⟩) ∧ Below w.heap.size w w3 := ⟨h0, h1, h2, h3, h4, hB3⟩
  simp only at h1 h2 h3 h4
  go_wp2_with fail
  go_region_held3 (fun w' => w.heap.size < w'.heap.size ∧ w'.cell? ⟨w.heap.size, 0, none⟩ = some (.int .i64 a) ∧ w'.cell? ⟨w.heap.size, 1, none⟩ = some (.int .i64 b) ∧ w'.cell? ⟨w.heap.size, 2, none⟩ = some (.int .i64 c) ∧ w'.cell? ⟨w.heap.size, 3, none⟩ = some (.string ⟨p.toArray⟩) ∧ Below w.heap.size w w')
    (first | exact heldA_drew hS0 | exact heldA_next (v := ⟨a, b, c, p⟩) (by assumption) (by assumption))
    (first | (go_at_call 16; refine (check_walk ⟨a, b, c, p⟩ (by simp only; omega) _).mono ?_; rintro e w4 ⟨he, hb4⟩; rw [HK.out] at he; subst he)
           | (go_at_call 17; refine (rcheck_walk ⟨a, b, c, p⟩ (by simp only; omega) _).mono ?_; rintro e w5 ⟨he, hb5⟩; rw [HK.out] at he; subst he)
           | (go_at_call 18; refine (core_walk ⟨a, b, c, p⟩ _).mono ?_; rintro e w6 ⟨he, hb6⟩; rw [HCR.out] at he; subst he)
           | (go_at_call 12; refine Calls.mono (awakeK hg (g := w.heap.size) (a := a) (b := b) (c := c) (x := ⟨p.toArray⟩) ?_) ?_; (first | exact heldA_drew hS0 | assumption); rintro e w7 ⟨rfl, hb7⟩))
  have hH : w.heap.size < w7.heap.size ∧ w7.cell? ⟨w.heap.size, 0, none⟩ = some (.int .i64 a) ∧ w7.cell? ⟨w.heap.size, 1, none⟩ = some (.int .i64 b) ∧ w7.cell? ⟨w.heap.size, 2, none⟩ = some (.int .i64 c) ∧ w7.cell? ⟨w.heap.size, 3, none⟩ = some (.string ⟨p.toArray⟩) ∧ Below w.heap.size w w7 := by assumption
  go_wp2
  go_ret
  exact ⟨rfl, hH.2.2.2.2.2⟩

theorem shows_walk (v : Sem.Ver) (hv : v.pre.length ≤ 140737488351232) (w : World) (hg : Globs w) :
    Calls Tryd.prog 4 #[verV v] w fun e w' => e = .returned (.bool true) ∧ Below w.heap.size w w' := by
  by_cases h : 300 < v.pre.length
  · exact shows_long v hv h w hg
  · exact shows_short v (by omega) w hg
end Go.Proofs.YtifblpbikngjeaaDoor
