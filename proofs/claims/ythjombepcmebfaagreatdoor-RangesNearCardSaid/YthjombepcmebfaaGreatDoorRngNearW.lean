/- The walk of RangesNear. -/
import Derived.Test.YthjombepcmebfaaGreatDoorGRngC
import Derived.Test.YthjombepcmebfaaGreatDoorGRngB
namespace Go.Proofs.YthjombepcmebfaaGreatDoor
open Go.RowKit
set_option linter.unusedVariables false

theorem near_off {v u : Sem.Ver} (hv : Sem.may v = true) (hu : Sem.may u = true) (h1 : 1 ≤ v.maj) (h2 : v.maj ≠ 999999) (h : Sem.cmp u v < 0 ∨ (v.maj < u.maj ∧ u.pre = [])) : Rng.meets u (Rng.near v) = false := by
  rw [Rng.near_meets hv h1 h2]
  rcases h with h | ⟨h, hp⟩
  · rw [decide_eq_false (by omega)]; rfl
  · have := Rng.cmp_far hu h hp
    rw [show decide (Sem.cmp u ⟨v.maj + 1, 0, 0, []⟩ < 0) = false from decide_eq_false (by omega), Bool.and_false]
theorem near_in {v u : Sem.Ver} (hv : Sem.may v = true) (h1 : 1 ≤ v.maj) (h2 : v.maj ≠ 999999) (h : 0 ≤ Sem.cmp u v) (hm : u.maj = v.maj) : Rng.meets u (Rng.near v) = true := by
  rw [Rng.near_meets hv h1 h2, decide_eq_true h, Bool.true_and]
  exact decide_eq_true (Rng.cmp_next (by omega))
theorem cmp_same (v : Sem.Ver) : Sem.cmp v v = 0 := by
  have := Sem.cmp_turn v v; omega

set_option maxRecDepth 100000 in
set_option maxHeartbeats 8000000 in
theorem rngNear_walk (v u : Sem.Ver) (hv : v.pre.length ≤ 140737488351232) (hu : u.pre.length ≤ 140737488351232) (w : World) (hg : RGlobs w) :
    Calls Tryz.prog 10 #[verV v, verV u] w fun e w' => e = .returned (.bool true) ∧ Below w.heap.size w w' := by
  have hV : verV v = .agg #[.int .i64 v.maj, .int .i64 v.min, .int .i64 v.pat, .string ⟨v.pre.toArray⟩] := rfl
  have hU : verV u = .agg #[.int .i64 u.maj, .int .i64 u.min, .int .i64 u.pat, .string ⟨u.pre.toArray⟩] := rfl
  rw [hV, hU]
  clear hV hU
  have HD := Lib.hid (duo_new w v u)
  go_enter Tryz.func10, Tryz.ntmps10
  go_wp2_with fail
  generalize hW : (w.alloc (Obj.cells #[.int .i64 v.maj, .int .i64 v.min, .int .i64 v.pat, .string ⟨v.pre.toArray⟩] 40)).alloc (Obj.cells #[.int .i64 u.maj, .int .i64 u.min, .int .i64 u.pat, .string ⟨u.pre.toArray⟩] 40) = W at HD ⊢
  clear hW
  refine (check_walk v (by omega) _).mono ?_
  rintro e w1 ⟨he, hb1⟩
  have HD1 := Lib.hid (HD.out.call hb1)
  clear hb1 HD
  cases hmv : Sem.may v
  · have hc0 : chk v = 40 := by rw [chk, hmv, if_neg (by simp)]
    rw [hc0] at he
    subst he
    go_wp2_with fail
    refine (rawake_walk _ (hg.next HD1.out.bel)).mono ?_
    rintro e wz ⟨rfl, hbz⟩
    go_wp2
    go_ret
    exact ⟨rfl, (HD1.out.call hbz).bel⟩
  · have hc0 : chk v = 0 := by rw [chk, if_pos hmv]
    rw [hc0] at he
    subst he
    clear hc0
    obtain ⟨_, a0, a1, a2, a3⟩ := HD1.out.a
    obtain ⟨_, b0, b1, b2, b3⟩ := HD1.out.b
    go_wp2_with fail
    clear a0 a1 a2 a3 b0 b1 b2 b3
    refine (check_walk u (by omega) _).mono ?_
    rintro e w2 ⟨he, hb2⟩
    have HD2 := Lib.hid (HD1.out.call hb2)
    clear hb2 HD1
    cases hmu : Sem.may u
    · have hc0 : chk u = 40 := by rw [chk, hmu, if_neg (by simp)]
      rw [hc0] at he
      subst he
      go_wp2_with fail
      refine (rawake_walk _ (hg.next HD2.out.bel)).mono ?_
      rintro e wz ⟨rfl, hbz⟩
      go_wp2
      go_ret
      exact ⟨rfl, (HD2.out.call hbz).bel⟩
    · have hc0 : chk u = 0 := by rw [chk, if_pos hmu]
      rw [hc0] at he
      subst he
      clear hc0
      obtain ⟨_, a0, a1, a2, a3⟩ := HD2.out.a
      obtain ⟨_, b0, b1, b2, b3⟩ := HD2.out.b
      by_cases h1 : v.maj < 1
      · have h1d : decide (v.maj < 1) = true := decide_eq_true h1
        go_wp2_with fail
        refine (rawake_walk _ (hg.next HD2.out.bel)).mono ?_
        rintro e wz ⟨rfl, hbz⟩
        go_wp2
        go_ret
        exact ⟨rfl, (HD2.out.call hbz).bel⟩
      · have h1d : ¬ v.maj < 1 := h1
        cases h9 : (v.maj == 999999)
        · have HMV := Lib.hid hmv
          have HMU := Lib.hid hmu
          have h2 : v.maj ≠ 999999 := beq_eq_false_iff_ne.1 h9
          have h1e : 1 ≤ v.maj := by omega
          have hvl := ((Sem.may_iff v).1 hmv).2.2.2.1
          have hul := ((Sem.may_iff u).1 hmu).2.2.2.1
          clear hmv hmu
          go_wp2_with fail
          clear a0 a1 a2 a3 b0 b1 b2 b3
          refine (near_walk v (by omega) _).mono ?_
          rintro e w3 ⟨A, c, rfl, hc, hA, hb3⟩
          have HD3 := Lib.hid (HD2.out.call hb3)
          have HA3 := Lib.hid hA
          have HOFF := Lib.hid (fun h => near_off (u := u) HMV.out HMU.out h1e h2 h)
          have HIN := Lib.hid (fun h hm => near_in (u := u) HMV.out h1e h2 h hm)
          have HSELF : Hid (Rng.meets v (Rng.near v) = true) := Lib.hid (near_in HMV.out h1e h2 (by rw [cmp_same]; exact Int.le_refl _) rfl)
          have hnf := Rng.near_of HMV.out h1e h2
          have HPR : Hid (∀ b ∈ Rng.near v, b.v.pre.length ≤ 1000000) := Lib.hid (fun b hb => by
            rw [hnf] at hb
            simp only [List.mem_cons, List.not_mem_nil, or_false] at hb
            rcases hb with rfl | rfl
            · show v.pre.length ≤ _; omega
            · simp)
          have hnl : (Rng.near v).length ≤ 2 := by rw [hnf]; exact Nat.le_refl 2
          clear hnf hA hb3 HD2
          obtain ⟨n, hn⟩ : ∃ n, n = Rng.near v := ⟨_, rfl⟩
          rw [← hn] at HA3 HOFF HIN HSELF HPR hnl hc ⊢
          clear hn
          obtain ⟨_, a0, a1, a2, a3⟩ := HD3.out.a
          obtain ⟨_, b0, b1, b2, b3⟩ := HD3.out.b
          go_wp2_with fail
          clear a0 a1 a2 a3 b0 b1 b2 b3
          refine (cmp_walk u v (by omega) (by omega) _).mono ?_
          rintro e w4 ⟨rfl, hb4⟩
          have HD4 := Lib.hid (HD3.out.call hb4)
          have HA4 := Lib.hid (HA3.out.next hb4)
          clear hb4 HD3 HA3
          obtain ⟨k, hk⟩ : ∃ k, k = Sem.cmp u v := ⟨_, rfl⟩
          rw [← hk] at HOFF HIN ⊢
          clear hk
          obtain ⟨_, a0, a1, a2, a3⟩ := HD4.out.a
          obtain ⟨_, b0, b1, b2, b3⟩ := HD4.out.b
          by_cases hk0 : k < 0
          · skip
            go_wp2_with fail
            clear a0 a1 a2 a3 b0 b1 b2 b3
            refine (meets_walk u A c n _ HA4.out (by omega) HPR.out (by omega)).mono ?_
            rintro e w5 ⟨he, hb5⟩
            rw [HOFF.out (Or.inl hk0)] at he
            subst he
            have HD5 := Lib.hid (HD4.out.call hb5)
            clear hb5
            go_wp2_with fail
            refine (rawake_walk _ (hg.next HD5.out.bel)).mono ?_
            rintro e wz ⟨rfl, hbz⟩
            go_wp2
            go_ret
            exact ⟨rfl, (HD5.out.call hbz).bel⟩
          · by_cases hgt : v.maj < u.maj
            · have hmm : (u.maj == v.maj) = false := by rw [beq_eq_false_iff_ne]; omega
              have hmn : (u.maj != v.maj) = true := by rw [bne_iff_ne]; omega
              cases hpe : u.pre.isEmpty
              · have hpn : (u.pre == []) = false := by cases hq : u.pre with
                  | nil => rw [hq] at hpe; cases hpe
                  | cons _ _ => rfl
                go_wp2_with fail
                clear a0 a1 a2 a3 b0 b1 b2 b3
                refine (meets_walk v A c n _ HA4.out (by omega) HPR.out (by omega)).mono ?_
                rintro e w6 ⟨he, hb6⟩
                rw [HSELF.out] at he
                subst he
                have HD6 := Lib.hid (HD4.out.call hb6)
                clear hb6
                go_wp2_with fail
                refine (rawake_walk _ (hg.next HD6.out.bel)).mono ?_
                rintro e wz ⟨rfl, hbz⟩
                go_wp2
                go_ret
                exact ⟨rfl, (HD6.out.call hbz).bel⟩
              · have hpz : u.pre = [] := by simpa using hpe
                have hpn : (u.pre == []) = true := by rw [hpz]; rfl
                have HPZ := Lib.hid hpz
                clear hpz
                go_wp2_with fail
                clear a0 a1 a2 a3 b0 b1 b2 b3
                refine (meets_walk u A c n _ HA4.out (by omega) HPR.out (by omega)).mono ?_
                rintro e w5 ⟨he, hb5⟩
                rw [HOFF.out (Or.inr ⟨hgt, HPZ.out⟩)] at he
                subst he
                have HD5 := Lib.hid (HD4.out.call hb5)
                clear hb5
                go_wp2_with fail
                refine (rawake_walk _ (hg.next HD5.out.bel)).mono ?_
                rintro e wz ⟨rfl, hbz⟩
                go_wp2
                go_ret
                exact ⟨rfl, (HD5.out.call hbz).bel⟩
            · cases hmm : (u.maj == v.maj)
              · have hmn : (u.maj != v.maj) = true := by rw [bne_iff_ne]; exact beq_eq_false_iff_ne.1 hmm
                go_wp2_with fail
                clear a0 a1 a2 a3 b0 b1 b2 b3
                refine (meets_walk v A c n _ HA4.out (by omega) HPR.out (by omega)).mono ?_
                rintro e w6 ⟨he, hb6⟩
                rw [HSELF.out] at he
                subst he
                have HD6 := Lib.hid (HD4.out.call hb6)
                clear hb6
                go_wp2_with fail
                refine (rawake_walk _ (hg.next HD6.out.bel)).mono ?_
                rintro e wz ⟨rfl, hbz⟩
                go_wp2
                go_ret
                exact ⟨rfl, (HD6.out.call hbz).bel⟩
              · have hmn : (u.maj != v.maj) = false := by rw [bne_eq_false_iff_eq]; exact beq_iff_eq.1 hmm
                go_wp2_with fail
                clear a0 a1 a2 a3 b0 b1 b2 b3
                refine (meets_walk u A c n _ HA4.out (by omega) HPR.out (by omega)).mono ?_
                rintro e w5 ⟨he, hb5⟩
                rw [HIN.out (by omega) (beq_iff_eq.1 hmm)] at he
                subst he
                have HD5 := Lib.hid (HD4.out.call hb5)
                have HA5 := Lib.hid (HA4.out.next hb5)
                clear hb5
                obtain ⟨_, a0, a1, a2, a3⟩ := HD5.out.a
                obtain ⟨_, b0, b1, b2, b3⟩ := HD5.out.b
                go_wp2_with fail
                clear a0 a1 a2 a3 b0 b1 b2 b3
                refine (meets_walk v A c n _ HA5.out (by omega) HPR.out (by omega)).mono ?_
                rintro e w6 ⟨he, hb6⟩
                rw [HSELF.out] at he
                subst he
                have HD6 := Lib.hid (HD5.out.call hb6)
                clear hb6
                go_wp2_with fail
                refine (rawake_walk _ (hg.next HD6.out.bel)).mono ?_
                rintro e wz ⟨rfl, hbz⟩
                go_wp2
                go_ret
                exact ⟨rfl, (HD6.out.call hbz).bel⟩
        · skip
          go_wp2_with fail
          refine (rawake_walk _ (hg.next HD2.out.bel)).mono ?_
          rintro e wz ⟨rfl, hbz⟩
          go_wp2
          go_ret
          exact ⟨rfl, (HD2.out.call hbz).bel⟩
end Go.Proofs.YthjombepcmebfaaGreatDoor
