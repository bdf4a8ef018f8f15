/- The walk of RangesNormal. -/
import Derived.Test.YthjombepcmebfaaGreatDoorGRngC
namespace Go.Proofs.YthjombepcmebfaaGreatDoor
open Go.RowKit
set_option linter.unusedVariables false

theorem may_pre {l : List Rng.Bd} (h : Rng.may l = true) : ∀ b ∈ l, b.v.pre.length ≤ 1000000 := fun b hb => by
  have h1 := ((Rng.may_iff l).1 h).2 b hb
  have h2 := (Rng.Bd.may_iff b).1 h1
  have := ((Sem.may_iff b.v).1 h2.2.2).2.2.2.1
  omega

/-- Normal, of ranges that the call puts together: each of them may be. -/
theorem normal_made (W : World) (rs : List Row) (hl : rs.length ≤ 1000000) (h : ∀ r ∈ rs, Bds W W.heap.size r.A r.l ∧ r.l.length ≤ r.c ∧ Rng.may r.l = true) (g : Nat) (hg : g = W.heap.size) (w : World) (hw : Below w.heap.size w W) :
    Calls Tryz.prog 24 #[.slice (some ⟨g, 0, none⟩) rs.length rs.length] (W.alloc (.cells (rs.map fun r => Value.slice r.A r.l.length r.c).toArray 23)) fun e w' =>
      ∃ (B : Option Addr) (c : Nat), e = .returned (.slice B (Rng.normal (flat rs)).length c) ∧ (Rng.normal (flat rs)).length ≤ c ∧ Bds w' w'.heap.size B (Rng.normal (flat rs)) ∧ Below W.heap.size W w' := by
  refine (normal_walk _ _ rs _ (bdss_made W rs g hg (fun r hr => ⟨(h r hr).1, (h r hr).2.1⟩)) hl (fun r hr => by
    have := ((Rng.may_iff r.l).1 (h r hr).2.2).1; omega) (fun r hr => may_pre (h r hr).2.2)).mono ?_
  rintro e w' ⟨B, c, rfl, hc, hB, hb⟩
  exact ⟨B, c, rfl, hc, hB, below_next (below_one _ _) hb⟩

theorem chkB_ok {l : List Rng.Bd} (h : Rng.may l = true) : chkB l = 0 := by unfold chkB; rw [if_pos h]
theorem chkB_no {l : List Rng.Bd} (h : Rng.may l = false) : chkB l = 50 := by unfold chkB; rw [if_neg (by rw [h]; simp)]
theorem good_may {l : List Rng.Bd} (h : Rng.may l = true) : Rng.good l := fun b hb => ((Rng.may_iff l).1 h).2 b hb

set_option maxRecDepth 100000 in
set_option maxHeartbeats 8000000 in
theorem rngNormal_walk (A : Option Addr) (ca : Nat) (a : List Rng.Bd) (B : Option Addr) (cb : Nat) (b : List Rng.Bd) (w : World) (hA : Bds w w.heap.size A a) (hB : Bds w w.heap.size B b) (hca : a.length ≤ ca) (hcb : b.length ≤ cb)
    (pa : ∀ x ∈ a, x.v.pre.length ≤ 9223372036854775807) (pb : ∀ x ∈ b, x.v.pre.length ≤ 9223372036854775807) (hg : RGlobs w) :
    Calls Tryz.prog 9 #[.slice A a.length ca, .slice B b.length cb] w fun e w' => e = .returned (.bool true) ∧ Below w.heap.size w w' := by
  have HA := Lib.hid hA
  have HB := Lib.hid hB
  have PA := Lib.hid pa
  have PB := Lib.hid pb
  clear hA hB pa pb
  go_enter Tryz.func9, Tryz.ntmps9
  go_wp2_with fail
  refine (bcheck_walk A ca a _ HA.out PA.out).mono ?_
  rintro e w1 ⟨he, hb1⟩
  have HG1 := Lib.hid (hg.next hb1)
  have HA1 := Lib.hid (HA.out.next hb1)
  have HB1 := Lib.hid (HB.out.next hb1)
  cases hma : Rng.may a
  · rw [chkB_no hma] at he
    subst he
    go_wp2_with fail
    refine (rawake_walk _ HG1.out).mono ?_
    rintro e w1 ⟨rfl, hb⟩
    go_wp2
    go_ret
    exact ⟨rfl, below_next hb1 hb⟩
  · rw [chkB_ok hma] at he
    subst he
    go_wp2_with fail
    refine (bcheck_walk B cb b _ HB1.out PB.out).mono ?_
    rintro e w2 ⟨he, hb2⟩
    have HG2 := Lib.hid (HG1.out.next hb2)
    have HA2 := Lib.hid (HA1.out.next hb2)
    have HB2 := Lib.hid (HB1.out.next hb2)
    have hb12 := below_next hb1 hb2
    clear hb1 hb2
    cases hmb : Rng.may b
    · rw [chkB_no hmb] at he
      subst he
      go_wp2_with fail
      refine (rawake_walk _ HG2.out).mono ?_
      rintro e w1 ⟨rfl, hb⟩
      go_wp2
      go_ret
      exact ⟨rfl, below_next hb12 hb⟩
    · rw [chkB_ok hmb] at he
      subst he
      have HMA := Lib.hid hma
      have HMB := Lib.hid hmb
      clear hma hmb
      have hfa : flat [⟨A, a, ca⟩, ⟨B, b, cb⟩] = a ++ b := by simp [flat]
      have h2 := fun g hgg => normal_made w2 [⟨A, a, ca⟩, ⟨B, b, cb⟩] (by simp) (fun r hr => by
        simp only [List.mem_cons, List.not_mem_nil, or_false] at hr
        rcases hr with rfl | rfl
        · exact ⟨HA2.out, hca, HMA.out⟩
        · exact ⟨HB2.out, hcb, HMB.out⟩) g hgg w hb12
      rw [hfa] at h2
      clear hfa
      go_wp2_with fail
      refine (h2 _ rfl).mono ?_
      rintro e w3 ⟨D, d, rfl, hd, hD, hb3⟩
      clear h2
      have HMN : Hid (Rng.may (Rng.normal (a ++ b)) = true) := Lib.hid (Rng.normal_may (Rng.good_append (good_may HMA.out) (good_may HMB.out)))
      have HN1 : Hid (Rng.normal (Rng.normal (a ++ b)) = Rng.normal (a ++ b)) := Lib.hid (Rng.normal_normal _)
      have HN2 : Hid (Rng.normal (b ++ a) = Rng.normal (a ++ b)) := Lib.hid (Rng.normal_turn (good_may HMA.out) (good_may HMB.out))
      have HN3 : Hid (Rng.normal (Rng.normal (a ++ b) ++ a ++ b ++ Rng.normal (a ++ b)) = Rng.normal (a ++ b)) := Lib.hid (by
        have := Rng.normal_self (Rng.good_append (good_may HMA.out) (good_may HMB.out))
        rw [← List.append_assoc] at this
        exact this)
      have hnl := Rng.normal_len (a ++ b)
      obtain ⟨n, hn⟩ : ∃ n, n = Rng.normal (a ++ b) := ⟨_, rfl⟩
      rw [← hn] at HMN HN1 HN2 HN3 hnl hd hD ⊢
      clear hn
      have HD3 := Lib.hid hD
      have HA3 := Lib.hid (HA2.out.next hb3)
      have HB3 := Lib.hid (HB2.out.next hb3)
      have HG3 := Lib.hid (HG2.out.next hb3)
      have hb13 := below_next hb12 hb3
      clear hD hb12 hb3
      have h4 := fun g hgg => normal_made w3 [⟨D, n, d⟩] (by simp) (fun r hr => by
        simp only [List.mem_cons, List.not_mem_nil, or_false] at hr
        subst hr
        exact ⟨HD3.out, hd, HMN.out⟩) g hgg w hb13
      rw [show flat [⟨D, n, d⟩] = n from by simp [flat], HN1.out] at h4
      go_wp2_with fail
      refine (h4 _ rfl).mono ?_
      rintro e w4 ⟨E, e4, rfl, he4, hE, hb4⟩
      clear h4
      have HE4 := Lib.hid hE
      have HD4 := Lib.hid (HD3.out.next hb4)
      have HA4 := Lib.hid (HA3.out.next hb4)
      have HB4 := Lib.hid (HB3.out.next hb4)
      have HG4 := Lib.hid (HG3.out.next hb4)
      have hb14 := below_next hb13 hb4
      clear hE hb13 hb4
      go_wp2_with fail
      refine (rsame_walk E D e4 d n n _ HE4.out HD4.out (by omega)).mono ?_
      rintro e w5 ⟨he, hb5⟩
      rw [decide_eq_true rfl] at he
      subst he
      have HD5 := Lib.hid (HD4.out.next hb5)
      have HA5 := Lib.hid (HA4.out.next hb5)
      have HB5 := Lib.hid (HB4.out.next hb5)
      have HG5 := Lib.hid (HG4.out.next hb5)
      have hb15 := below_next hb14 hb5
      clear hb14 hb5
      have h6 := fun g hgg => normal_made w5 [⟨B, b, cb⟩, ⟨A, a, ca⟩] (by simp) (fun r hr => by
        simp only [List.mem_cons, List.not_mem_nil, or_false] at hr
        rcases hr with rfl | rfl
        · exact ⟨HB5.out, hcb, HMB.out⟩
        · exact ⟨HA5.out, hca, HMA.out⟩) g hgg w hb15
      rw [show flat [⟨B, b, cb⟩, ⟨A, a, ca⟩] = b ++ a from by simp [flat], HN2.out] at h6
      go_wp2_with fail
      refine (h6 _ rfl).mono ?_
      rintro e w6 ⟨F, f6, rfl, hf6, hF, hb6⟩
      clear h6
      have HF6 := Lib.hid hF
      have HD6 := Lib.hid (HD5.out.next hb6)
      have HA6 := Lib.hid (HA5.out.next hb6)
      have HB6 := Lib.hid (HB5.out.next hb6)
      have HG6 := Lib.hid (HG5.out.next hb6)
      have hb16 := below_next hb15 hb6
      clear hF hb15 hb6
      go_wp2_with fail
      refine (rsame_walk F D f6 d n n _ HF6.out HD6.out (by omega)).mono ?_
      rintro e w7 ⟨he, hb7⟩
      rw [decide_eq_true rfl] at he
      subst he
      have HD7 := Lib.hid (HD6.out.next hb7)
      have HA7 := Lib.hid (HA6.out.next hb7)
      have HB7 := Lib.hid (HB6.out.next hb7)
      have HG7 := Lib.hid (HG6.out.next hb7)
      have hb17 := below_next hb16 hb7
      clear hb16 hb7
      have h8 := fun g hgg => normal_made w7 [⟨D, n, d⟩, ⟨A, a, ca⟩, ⟨B, b, cb⟩, ⟨D, n, d⟩] (by simp) (fun r hr => by
        simp only [List.mem_cons, List.not_mem_nil, or_false] at hr
        rcases hr with rfl | rfl | rfl | rfl
        · exact ⟨HD7.out, hd, HMN.out⟩
        · exact ⟨HA7.out, hca, HMA.out⟩
        · exact ⟨HB7.out, hcb, HMB.out⟩
        · exact ⟨HD7.out, hd, HMN.out⟩) g hgg w hb17
      rw [show flat [⟨D, n, d⟩, ⟨A, a, ca⟩, ⟨B, b, cb⟩, ⟨D, n, d⟩] = n ++ a ++ b ++ n from by simp [flat], HN3.out] at h8
      go_wp2_with fail
      refine (h8 _ rfl).mono ?_
      rintro e w8 ⟨G, g8, rfl, hg8, hG, hb8⟩
      clear h8
      have HG8 := Lib.hid hG
      have HD8 := Lib.hid (HD7.out.next hb8)
      have HGG8 := Lib.hid (HG7.out.next hb8)
      have hb18 := below_next hb17 hb8
      clear hG hb17 hb8
      go_wp2_with fail
      refine (rsame_walk G D g8 d n n _ HG8.out HD8.out (by omega)).mono ?_
      rintro e w9 ⟨he, hb9⟩
      rw [decide_eq_true rfl] at he
      subst he
      have HD9 := Lib.hid (HD8.out.next hb9)
      have HGG9 := Lib.hid (HGG8.out.next hb9)
      have hb19 := below_next hb18 hb9
      clear hb18 hb9
      go_wp2_with fail
      refine (bcheck_walk D d n _ HD9.out (fun x hx => Nat.le_trans (may_pre HMN.out x hx) (by decide))).mono ?_
      rintro e w10 ⟨he, hb10⟩
      rw [chkB_ok HMN.out] at he
      subst he
      have HGG10 := Lib.hid (HGG9.out.next hb10)
      have hb20 := below_next hb19 hb10
      clear hb19 hb10
      go_wp2_with fail
      refine (rawake_walk _ HGG10.out).mono ?_
      rintro e w11 ⟨rfl, hb11⟩
      go_wp2
      go_ret
      exact ⟨rfl, below_next hb20 hb11⟩
end Go.Proofs.YthjombepcmebfaaGreatDoor
