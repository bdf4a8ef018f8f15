/- ShpR5, ShpR6, together. -/
import Derived.Test.YtkehnmapnckdgaaDoorGR
import Derived.Deep.RegionHeld3
import Derived.StillTailTactics
/- The document's Equal of layer 7. -/
namespace Go.Proofs.YtkehnmapnckdgaaDoor
open Go.RowKit Shp
set_option linter.unusedVariables false

theorem eqs_part {l m : List Sh} {i : Nat} (hi : i < l.length) (hm : i < m.length) (h : eqB (l[i]'hi) (m[i]'hm) = false) : eqs l m = false := by
  cases e : eqs l m with
  | false => rfl
  | true =>
    have := (eqs_iff l m).1 e
    subst this
    rw [eqB_refl] at h; cases h
theorem eqs_all {l m : List Sh} (hl : l.length = m.length) (h : ∀ j (hj : j < l.length), eqB (l[j]'hj) (m[j]'(by omega)) = true) : eqs l m = true :=
  (eqs_iff l m).2 (List.ext_getElem hl (fun j h1 h2 => (eqB_iff _ _).1 (h j h1)))

/-- Behind the first test: the loops. -/
def headB (t u : Sh) : Bool := t.kind == u.kind && t.of_ == u.of_ && t.name == u.name && decide (t.names.length = u.names.length) && decide (t.parts.length = u.parts.length)
theorem eqB_head {t u : Sh} (h : headB t u = false) : eqB t u = false := by
  apply eqB_off
  rintro rfl
  simp [headB] at h
theorem eqB_names {t u : Sh} {i : Nat} (hi : i < t.names.length) (hm : i < u.names.length) (h : t.names[i]'hi ≠ u.names[i]'hm) : eqB t u = false := by
  apply eqB_off
  rintro rfl
  exact h rfl
theorem eqB_parts {t u : Sh} {i : Nat} (hi : i < t.parts.length) (hm : i < u.parts.length) (h : eqB (t.parts[i]'hi) (u.parts[i]'hm) = false) : eqB t u = false := by
  apply eqB_off
  rintro rfl
  rw [eqB_refl] at h; cases h
theorem eqB_all {t u : Sh} (h : headB t u = true) (hn : ∀ j (hj : j < t.names.length) (hj' : j < u.names.length), t.names[j]'hj = u.names[j]'hj') (hp : ∀ j (hj : j < t.parts.length) (hj' : j < u.parts.length), eqB (t.parts[j]'hj) (u.parts[j]'hj') = true) : eqB t u = true := by
  simp only [headB, Bool.and_eq_true, beq_iff_eq, decide_eq_true_eq] at h
  obtain ⟨⟨⟨⟨h1, h2⟩, h3⟩, h4⟩, h5⟩ := h
  rw [eqB_eq, h1, h2, h3]
  simp only [beq_self_eq_true, Bool.true_and, Bool.and_eq_true]
  exact ⟨beq_iff_eq.2 (List.ext_getElem h4 (fun j a b => hn j a b)), eqs_all h5 (fun j hj => hp j hj (by omega))⟩

set_option maxRecDepth 100000 in
set_option maxHeartbeats 4000000 in
theorem requal_head (t u : Sh) (q r : Ptr) (w : World) (hq : ShAt w w.heap.size q t) (hr : ShAt w w.heap.size r u) (hh : headB t u = false) :
    Calls Tryd.prog 18 #[.agg #[.int .i64 t.kind, .string ⟨t.of_.toArray⟩, .string ⟨t.name.toArray⟩, .slice q.A t.names.length q.c, .slice q.P t.parts.length q.d], .agg #[.int .i64 u.kind, .string ⟨u.of_.toArray⟩, .string ⟨u.name.toArray⟩, .slice r.A u.names.length r.c, .slice r.P u.parts.length r.d]] w fun e w' => e = .returned (.bool (eqB t u)) ∧ Below w.heap.size w w' := by
  have HF := Lib.hid (eqB_head hh)
  have hb0 := below_one w (.cells #[.int .i64 t.kind, .string ⟨t.of_.toArray⟩, .string ⟨t.name.toArray⟩, .slice q.A t.names.length q.c, .slice q.P t.parts.length q.d] 25)
  have hb1 := below_new hb0 (.cells #[.int .i64 u.kind, .string ⟨u.of_.toArray⟩, .string ⟨u.name.toArray⟩, .slice r.A u.names.length r.c, .slice r.P u.parts.length r.d] 25)
  have HB1 := Lib.hid hb1
  have hB := (box5_new w t q).next (below_one _ (.cells #[.int .i64 u.kind, .string ⟨u.of_.toArray⟩, .string ⟨u.name.toArray⟩, .slice r.A u.names.length r.c, .slice r.P u.parts.length r.d] 25))
  have hC := box5_new (w.alloc (.cells #[.int .i64 t.kind, .string ⟨t.of_.toArray⟩, .string ⟨t.name.toArray⟩, .slice q.A t.names.length q.c, .slice q.P t.parts.length q.d] 25)) u r
  obtain ⟨_, ⟨c0, c1, c2, c3, c4⟩, _⟩ := hB
  obtain ⟨_, ⟨d0, d1, d2, d3, d4⟩, _⟩ := hC
  clear hb0 hb1
  rw [World.size_alloc] at d0 d1 d2 d3 d4
  have HH := Lib.hid hh
  clear hh
  have h4 : ((t.names.length : Int) == (u.names.length : Int)) = decide (t.names.length = u.names.length) := by rw [Bool.eq_iff_iff, beq_iff_eq, decide_eq_true_eq]; omega
  have h5 : ((t.parts.length : Int) == (u.parts.length : Int)) = decide (t.parts.length = u.parts.length) := by rw [Bool.eq_iff_iff, beq_iff_eq, decide_eq_true_eq]; omega
  unfold headB at HH
  rw [← h4, ← h5] at HH
  clear h4 h5
  cases e1 : (t.kind == u.kind)
  · have n1 : (t.kind != u.kind) = true := by unfold bne; rw [e1]; rfl
    go_enter Tryd.func18, Tryd.ntmps18
    go_wp2
    go_ret
    exact ⟨by rw [HF.out]; rfl, HB1.out⟩
  · have n1 : (t.kind != u.kind) = false := by unfold bne; rw [e1]; rfl
    rw [e1, Bool.true_and] at HH
    cases e2 : (t.of_ == u.of_)
    · have n2 : (t.of_ != u.of_) = true := by unfold bne; rw [e2]; rfl
      go_enter Tryd.func18, Tryd.ntmps18
      go_wp2
      go_ret
      exact ⟨by rw [HF.out]; rfl, HB1.out⟩
    · have n2 : (t.of_ != u.of_) = false := by unfold bne; rw [e2]; rfl
      rw [e2, Bool.true_and] at HH
      cases e3 : (t.name == u.name)
      · have n3 : (t.name != u.name) = true := by unfold bne; rw [e3]; rfl
        go_enter Tryd.func18, Tryd.ntmps18
        go_wp2
        go_ret
        exact ⟨by rw [HF.out]; rfl, HB1.out⟩
      · have n3 : (t.name != u.name) = false := by unfold bne; rw [e3]; rfl
        rw [e3, Bool.true_and] at HH
        cases e4 : ((t.names.length : Int) == (u.names.length : Int))
        · have n4 : ((t.names.length : Int) != (u.names.length : Int)) = true := by unfold bne; rw [e4]; rfl
          go_enter Tryd.func18, Tryd.ntmps18
          go_wp2
          go_ret
          exact ⟨by rw [HF.out]; rfl, HB1.out⟩
        · have n4 : ((t.names.length : Int) != (u.names.length : Int)) = false := by unfold bne; rw [e4]; rfl
          rw [e4, Bool.true_and] at HH
          have e5 := HH.out
          have n5 : ((t.parts.length : Int) != (u.parts.length : Int)) = true := by unfold bne; rw [e5]; rfl
          go_enter Tryd.func18, Tryd.ntmps18
          go_wp2
          go_ret
          exact ⟨by rw [HF.out]; rfl, HB1.out⟩

end Go.Proofs.YtkehnmapnckdgaaDoor

/- The document's Equal of layer 7: the loops. -/
namespace Go.Proofs.YtkehnmapnckdgaaDoor
open Go.RowKit Shp
set_option linter.unusedVariables false

set_option maxRecDepth 100000 in
set_option maxHeartbeats 4000000 in
theorem requal_walk (t : Sh) : ∀ (u : Sh) (q r : Ptr) (w : World), ShAt w w.heap.size q t → ShAt w w.heap.size r u →
    Calls Tryd.prog 18 #[.agg #[.int .i64 t.kind, .string ⟨t.of_.toArray⟩, .string ⟨t.name.toArray⟩, .slice q.A t.names.length q.c, .slice q.P t.parts.length q.d], .agg #[.int .i64 u.kind, .string ⟨u.of_.toArray⟩, .string ⟨u.name.toArray⟩, .slice r.A u.names.length r.c, .slice r.P u.parts.length r.d]] w fun e w' => e = .returned (.bool (eqB t u)) ∧ Below w.heap.size w w' := by
  induction t using Sh.ind with
  | h t ih =>
  intro u q r w hq hr
  cases hh : headB t u with
  | false => exact requal_head t u q r w hq hr hh
  | true =>
  have HH := Lib.hid hh
  have hs := hh
  simp only [headB, Bool.and_eq_true, beq_iff_eq, decide_eq_true_eq] at hs
  obtain ⟨⟨⟨⟨g1, g2⟩, g3⟩, g4⟩, g5⟩ := hs
  have HG4 := Lib.hid g4
  have HG5 := Lib.hid g5
  have HL := Lib.hid hq.small.l
  have HM := Lib.hid hq.small.m
  have HP := Lib.hid hq.part
  have HR := Lib.hid hr.part
  have HSN := Lib.hid hq.strs
  have HSM := Lib.hid hr.strs
  have hb0 := below_one w (.cells #[.int .i64 t.kind, .string ⟨t.of_.toArray⟩, .string ⟨t.name.toArray⟩, .slice q.A t.names.length q.c, .slice q.P t.parts.length q.d] 25)
  have hb1 := below_new hb0 (.cells #[.int .i64 u.kind, .string ⟨u.of_.toArray⟩, .string ⟨u.name.toArray⟩, .slice r.A u.names.length r.c, .slice r.P u.parts.length r.d] 25)
  have HB1 := Lib.hid hb1
  have hB := (box5_new w t q).next (below_one _ (.cells #[.int .i64 u.kind, .string ⟨u.of_.toArray⟩, .string ⟨u.name.toArray⟩, .slice r.A u.names.length r.c, .slice r.P u.parts.length r.d] 25))
  have hC := box5_new (w.alloc (.cells #[.int .i64 t.kind, .string ⟨t.of_.toArray⟩, .string ⟨t.name.toArray⟩, .slice q.A t.names.length q.c, .slice q.P t.parts.length q.d] 25)) u r
  rw [World.size_alloc] at hC
  have HB := Lib.hid hB
  have HC := Lib.hid hC
  obtain ⟨_, ⟨c0, c1, c2, c3, c4⟩, _⟩ := hB
  obtain ⟨_, ⟨d0, d1, d2, d3, d4⟩, _⟩ := hC
  have n1 : (t.kind != u.kind) = false := by rw [g1]; simp
  have n2 : (t.of_ != u.of_) = false := by rw [g2]; simp
  have n3 : (t.name != u.name) = false := by rw [g3]; simp
  have n4 : ((t.names.length : Int) != (u.names.length : Int)) = false := by rw [g4]; simp
  have n5 : ((t.parts.length : Int) != (u.parts.length : Int)) = false := by rw [g5]; simp
  have e1 : (t.kind == u.kind) = true := by rw [g1]; simp
  have e2 : (t.of_ == u.of_) = true := by rw [g2]; simp
  have e3 : (t.name == u.name) = true := by rw [g3]; simp
  have e4 : ((t.names.length : Int) == (u.names.length : Int)) = true := by rw [g4]; simp
  have e5 : ((t.parts.length : Int) == (u.parts.length : Int)) = true := by rw [g5]; simp
  clear hb0 hb1 hq hr hh g1 g2 g3 g4 g5
  go_enter Tryd.func18, Tryd.ntmps18
  go_wp2_with fail
  generalize hW0 : (w.alloc (.cells #[.int .i64 t.kind, .string ⟨t.of_.toArray⟩, .string ⟨t.name.toArray⟩, .slice q.A t.names.length q.c, .slice q.P t.parts.length q.d] 25)).alloc (.cells #[.int .i64 u.kind, .string ⟨u.of_.toArray⟩, .string ⟨u.name.toArray⟩, .slice r.A u.names.length r.c, .slice r.P u.parts.length r.d] 25) = W0 at HB HC HB1 ⊢
  clear hW0 c0 c1 c2 c3 c4 d0 d1 d2 d3 d4 n1 n2 n3 n4 n5 e1 e2 e3 e4 e5
  go_loopw [5] (fun ii wr => ∃ i : Nat, ii = .int .i64 i ∧ i ≤ t.names.length ∧ Hid (∀ j (h : j < t.names.length) (h' : j < u.names.length), j < i → t.names[j]'h = u.names[j]'h') ∧ Below W0.heap.size W0 wr) (fun i _ => t.names.length - (intOf i).toNat)
  case atStart => exact ⟨0, rfl, Nat.zero_le _, Lib.hid (fun j _ _ hj => absurd hj (by omega)), Below.refl _ _⟩
  case round =>
    obtain ⟨i, rfl, hi, HN, hb⟩ := hrel
    have hbw : Below w.heap.size w wr := HB1.out.trans (hb.mono HB1.out.size)
    have hl := HL.out
    obtain ⟨_, ⟨c0, _, _, c3, c4⟩, _⟩ := HB.out.next hb
    obtain ⟨_, ⟨d0, _, _, d3, d4⟩, _⟩ := HC.out.next hb
    by_cases hlt : i < t.names.length
    · have hi1 : (i : Int) < (t.names.length : Int) := by omega
      have hi2 : (i : Int) < (u.names.length : Int) := by have := HG4.out; omega
      have hi3 : i < u.names.length := by omega
      rcases (HSN.out.next hbw).cell7 with h0 | ⟨g, off, hqA, hg, hc⟩
      · omega
      · rcases (HSM.out.next hbw).cell7 with h0 | ⟨g', off', hrA, hg', hc'⟩
        · omega
        · have p := hc i hlt
          have p' := hc' i hi3
          obtain ⟨x, hx⟩ : ∃ x, x = t.names[i]'hlt := ⟨_, rfl⟩
          obtain ⟨y, hy⟩ : ∃ y, y = u.names[i]'hi3 := ⟨_, rfl⟩
          rw [← hx] at p
          rw [← hy] at p'
          have HX := Lib.hid hx
          have HY := Lib.hid hy
          rw [hqA] at c3
          rw [hrA] at d3
          clear hx hy hc hc' hqA hrA
          cases hxy : (x == y)
          · have HF : Hid (eqB t u = false) := Lib.hid (eqB_names hlt hi3 (by rw [← HX.out, ← HY.out]; intro h; rw [h] at hxy; simp at hxy))
            have n1 : (x != y) = true := by unfold bne; rw [hxy]; rfl
            go_wp2_with fail
            go_quiet (fail)
            go_wp2
            go_ret
            exact ⟨by rw [HF.out]; rfl, below_drewN hbw _⟩
          · have n1 : (x != y) = false := by unfold bne; rw [hxy]; rfl
            have HE : Hid (t.names[i]'hlt = u.names[i]'hi3) := Lib.hid (by rw [← HX.out, ← HY.out]; simpa using hxy)
            go_wp2_with fail
            go_quiet (fail)
            go_wp2
            go_roundw
            case rel => exact ⟨i + 1, by go_num, by omega, Lib.hid (fun j hj hj' hji => by
              rcases Nat.lt_succ_iff_lt_or_eq.1 hji with h | rfl
              · exact HN.out j hj hj' h
              · exact HE.out), below_drewN hb _⟩
            case measure => simp [intOf]; omega
    · have HNN : Hid (∀ j (h : j < t.names.length) (h' : j < u.names.length), t.names[j]'h = u.names[j]'h') := Lib.hid (fun j h h' => HN.out j h h' (by omega))
      have HBW := Lib.hid hb
      clear hbw hb HN
      go_wp2_with fail
      go_loopw [6] (fun ii wx => ∃ k : Nat, ii = .int .i64 k ∧ k ≤ t.parts.length ∧ Hid (∀ j (h : j < t.parts.length) (h' : j < u.parts.length), j < k → eqB (t.parts[j]'h) (u.parts[j]'h') = true) ∧ Hid (Below W0.heap.size W0 wx)) (fun i _ => t.parts.length - (intOf i).toNat)
      case atStart => exact ⟨0, rfl, Nat.zero_le _, Lib.hid (fun j _ _ hj => absurd hj (by omega)), HBW⟩
      case round =>
        obtain ⟨k, rfl, hk, HN, HBX⟩ := hrel
        have hb := HBX.out
        have hbw : Below w.heap.size w wr := HB1.out.trans (hb.mono HB1.out.size)
        have hm := HM.out
        clear c0 c3 c4 d0 d3 d4
        obtain ⟨_, ⟨c0, _, _, c3, c4⟩, _⟩ := HB.out.next hb
        obtain ⟨_, ⟨d0, _, _, d3, d4⟩, _⟩ := HC.out.next hb
        by_cases hlt2 : k < t.parts.length
        · have hi1 : (k : Int) < (t.parts.length : Int) := by omega
          have hi2 : (k : Int) < (u.parts.length : Int) := by have := HG5.out; omega
          have hi3 : k < u.parts.length := by omega
          rcases HP.out with h0 | ⟨g, off, qs, hqP, hg, hc, hra⟩
          · omega
          · rcases HR.out with h0 | ⟨g', off', qs', hrP, hg', hc', hra'⟩
            · omega
            · obtain ⟨x, hx⟩ : ∃ x, x = t.parts[k] := ⟨_, rfl⟩
              obtain ⟨y, hy⟩ : ∃ y, y = u.parts[k] := ⟨_, rfl⟩
              obtain ⟨p0, p1, p2, p3, p4⟩ := (hc k hlt2).keep hg hbw
              obtain ⟨s0, s1, s2, s3, s4⟩ := (hc' k hi3).keep hg' hbw
              have hat : ShAt wr wr.heap.size (qs k) x := by rw [hx]; exact (hra k hlt2).next hbw
              have hat' : ShAt wr wr.heap.size (qs' k) y := by rw [hy]; exact (hra' k hi3).next hbw
              have ihx := ih t.parts[k] (List.getElem_mem _) y (qs k) (qs' k) wr.drew
              rw [← hx] at p0 p1 p2 p3 p4 ihx
              rw [← hy] at s0 s1 s2 s3 s4
              have IH := ihx (hat.next (Below.refl _ _).drew) (hat'.next (Below.refl _ _).drew)
              rw [hqP] at c4
              rw [hrP] at d4
              have HX := Lib.hid hx
              have HY := Lib.hid hy
              clear hx hy hc hc' hra hra' hat hat' ihx ih hqP hrP
              go_wp2_with fail
              cases hxy : eqB x y
              · have HF : Hid (eqB t u = false) := Lib.hid (eqB_parts hlt2 hi3 (by rw [← HX.out, ← HY.out]; exact hxy))
                rw [hxy] at IH
                clear hxy
                go_still_tail 10, (by kernel_rfl)
                change wpList _ _ _ _ _ wr.drew
                go_wp2_with fail
                refine IH.mono ?_
                rintro e w2 ⟨rfl, hb2⟩
                go_wp2
                go_ret
                exact ⟨by rw [HF.out]; rfl, below_next hbw.drew hb2⟩
              · have HE : Hid (eqB (t.parts[k]'hlt2) (u.parts[k]'hi3) = true) := Lib.hid (by rw [← HX.out, ← HY.out]; exact hxy)
                rw [hxy] at IH
                clear hxy
                go_still_tail 10, (by kernel_rfl)
                change wpList _ _ _ _ _ wr.drew
                go_wp2_with fail
                refine IH.mono ?_
                rintro e w2 ⟨rfl, hb2⟩
                go_wp2
                go_roundw
                case rel => exact ⟨k + 1, by go_num, by omega, Lib.hid (fun j hj hj' hji => by
                  rcases Nat.lt_succ_iff_lt_or_eq.1 hji with h | rfl
                  · exact HN.out j hj hj' h
                  · exact HE.out), Lib.hid (below_next hb.drew hb2)⟩
                case measure => simp [intOf]; omega
        · have HF : Hid (eqB t u = true) := Lib.hid (eqB_all HH.out HNN.out (fun j hj hj' => HN.out j hj hj' (by omega)))
          go_wp2
          go_ret
          exact ⟨by rw [HF.out]; rfl, hbw⟩
end Go.Proofs.YtkehnmapnckdgaaDoor
