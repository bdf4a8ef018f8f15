/- RngO1, RngO2, RngO3, RngO4, RngO4b, RngO5, RngO6, together. -/
import Derived.Test.YthjombepcmebfaaGreatDoorGRngA
import Derived.Test.YthjombepcmebfaaGreatDoorGSemB
import Derived.Test.YthjombepcmebfaaGreatDoorGPure
import Derived.Test.YthjombepcmebfaaGreatDoorGSemA
import Derived.StillTailTactics
/- The program's isOp, Check, meets and Meets of ranges. -/
namespace Go.Proofs.YthjombepcmebfaaGreatDoor
open Go.RowKit
set_option linter.unusedVariables false

theorem isOp_walk (n : Int) (w : World) :
    Calls Tryz.prog 38 #[.int .i64 n] w fun e w' => e = .returned (.bool (decide (1 ≤ n ∧ n ≤ 5))) ∧ w = w' := by
  have H : n < 1 ∨ (1 ≤ n ∧ n ≤ 5) ∨ 5 < n := by omega
  rcases H with h1 | ⟨h1, h2⟩ | h1
  · have HB : Hid (decide (1 ≤ n ∧ n ≤ 5) = false) := Lib.hid (by simp; omega)
    have h3 : decide (1 ≤ n) = false := decide_eq_false (by omega)
    go_enter Tryz.func38, Tryz.ntmps38
    go_wp2
    go_ret
    exact ⟨by rw [HB.out]; rfl, rfl⟩
  · have HB : Hid (decide (1 ≤ n ∧ n ≤ 5) = true) := Lib.hid (by simp; omega)
    have h3 : decide (n ≤ 5) = true := decide_eq_true (by omega)
    go_enter Tryz.func38, Tryz.ntmps38
    go_wp2
    go_ret
    exact ⟨by rw [HB.out]; rfl, rfl⟩
  · have HB : Hid (decide (1 ≤ n ∧ n ≤ 5) = false) := Lib.hid (by simp; omega)
    have h3 : decide (n ≤ 5) = false := decide_eq_false (by omega)
    have h4 : decide (1 ≤ n) = true := decide_eq_true (by omega)
    go_enter Tryz.func38, Tryz.ntmps38
    go_wp2
    go_ret
    exact ⟨by rw [HB.out]; rfl, rfl⟩

set_option maxRecDepth 100000 in
set_option maxHeartbeats 2000000 in
theorem bcheck_walk (A : Option Addr) (cap : Nat) (l : List Rng.Bd) (w : World) (hA : Bds w w.heap.size A l) (hs : ∀ b ∈ l, b.v.pre.length ≤ 9223372036854775807) :
    Calls Tryz.prog 18 #[.slice A l.length cap] w fun e w' => e = .returned (.int .i64 (chkB l)) ∧ Below w.heap.size w w' := by
  have HS := Lib.hid hs
  have HA := Lib.hid hA
  clear hs hA
  by_cases hl : 20 < l.length
  · have HC : Hid (chkB l = 50) := Lib.hid (by unfold chkB; rw [if_neg]; intro h; have := (Rng.may_iff l).1 h; omega)
    have hl2 : (20 : Int) < (l.length : Int) := by omega
    go_enter Tryz.func18, Tryz.ntmps18
    go_wp2
    go_ret
    exact ⟨by rw [HC.out]; rfl, Below.refl _ _⟩
  · have hl2 : ¬ (20 : Int) < (l.length : Int) := by omega
    go_enter Tryz.func18, Tryz.ntmps18
    go_wp2_with fail
    go_loopw [10] (fun ii wr => ∃ i : Nat, ii = .int .i64 i ∧ i ≤ l.length ∧ Hid (∀ j (hj : j < l.length), j < i → (l[j]'hj).may = true) ∧ Below w.heap.size w wr)
      (fun i _ => l.length - (intOf i).toNat)
    case atStart => exact ⟨0, rfl, Nat.zero_le _, Lib.hid (fun j _ hj => absurd hj (by omega)), Below.refl _ _⟩
    case round =>
      obtain ⟨i, rfl, hi, HN, hb⟩ := hrel
      by_cases hlt : i < l.length
      · rcases HA.out.keep hb (Nat.le_refl _) with h0 | ⟨g, off, rfl, hg, hc⟩
        · omega
        · obtain ⟨p0, p1, p2, p3, p4⟩ := hc i hlt
          obtain ⟨x, hx⟩ : ∃ x, x = l[i] := ⟨_, rfl⟩
          rw [← hx] at p0 p1 p2 p3 p4
          have HX := Lib.hid hx
          have hxs := HS.out l[i] (List.getElem_mem _)
          rw [← hx] at hxs
          clear hx hc
          have HB : Hid (x.may = false → chkB l = 50) := Lib.hid (fun h => chkB_first hl hlt (by rw [← HX.out]; exact h))
          have hi1 : (i : Int) < (l.length : Int) := by omega
          have hbn := below_new hb (.cells #[.int .i64 x.op, .int .i64 x.v.maj, .int .i64 x.v.min, .int .i64 x.v.pat, .string ⟨x.v.pre.toArray⟩] 57)
          by_cases ho : 1 ≤ x.op ∧ x.op ≤ 5
          · have HO : Hid (decide (1 ≤ x.op ∧ x.op ≤ 5) = true) := Lib.hid (decide_eq_true ho)
            have HOO := Lib.hid ho
            clear ho
            go_wp2_with fail
            refine (isOp_walk x.op _).mono ?_
            rintro e w2 ⟨he, rfl⟩
            rw [HO.out] at he
            subst he
            clear p0 p1 p2 p3 p4
            go_wp2_with fail
            refine (check_walk x.v (by omega) _).mono ?_
            rintro e w2 ⟨he, hb2⟩
            have hb3 := below_next hbn hb2
            clear hbn hb2
            cases hm : Sem.may x.v
            · have hc0 : chk x.v = 40 := by rw [chk, hm, if_neg (by simp)]
              rw [hc0] at he
              subst he
              have HC : Hid (chkB l = 50) := Lib.hid (HB.out (by
                cases h : x.may
                · rfl
                · have := (Rng.Bd.may_iff x).1 h; rw [hm] at this; cases this.2.2))
              clear hc0
              go_wp2
              go_ret
              exact ⟨by rw [HC.out]; rfl, hb3⟩
            · have hc0 : chk x.v = 0 := by rw [chk, if_pos hm]
              rw [hc0] at he
              subst he
              have HM : Hid (l[i].may = true) := Lib.hid (by rw [← HX.out]; exact (Rng.Bd.may_iff x).2 ⟨HOO.out.1, HOO.out.2, hm⟩)
              clear hc0
              go_wp2
              go_roundw
              case rel => exact ⟨i + 1, by go_num, by omega, Lib.hid (fun j hj hji => by
                rcases Nat.lt_succ_iff_lt_or_eq.1 hji with h | rfl
                · exact HN.out j hj h
                · exact HM.out), hb3⟩
              case measure => simp [intOf]; omega
          · have HO : Hid (decide (1 ≤ x.op ∧ x.op ≤ 5) = false) := Lib.hid (decide_eq_false ho)
            have HC : Hid (chkB l = 50) := Lib.hid (HB.out (by
              cases h : x.may
              · rfl
              · have := (Rng.Bd.may_iff x).1 h; exact absurd ⟨this.1, this.2.1⟩ ho))
            clear ho
            go_wp2_with fail
            refine (isOp_walk x.op _).mono ?_
            rintro e w2 ⟨he, rfl⟩
            rw [HO.out] at he
            subst he
            go_wp2
            go_ret
            exact ⟨by rw [HC.out]; rfl, hbn⟩
      · have HC : Hid (chkB l = 0) := Lib.hid (chkB_all hl (fun j hj => HN.out j hj (by omega)))
        go_wp2
        go_ret
        exact ⟨by rw [HC.out]; rfl, hb⟩
end Go.Proofs.YthjombepcmebfaaGreatDoor

/- The program's meets and Meets of ranges. -/
namespace Go.Proofs.YthjombepcmebfaaGreatDoor
open Go.RowKit
set_option linter.unusedVariables false

set_option maxRecDepth 100000 in
set_option maxHeartbeats 2000000 in
theorem one_walk (v : Sem.Ver) (b : Rng.Bd) (hv : v.pre.length ≤ 1000000) (hb : b.v.pre.length ≤ 1000000) (w : World) :
    Calls Tryz.prog 40 #[verV v, bdV b] w fun e w' => e = .returned (.bool (Rng.one v b)) ∧ Below w.heap.size w w' := by
  obtain ⟨op, u⟩ := b
  have hV : verV v = .agg #[.int .i64 v.maj, .int .i64 v.min, .int .i64 v.pat, .string ⟨v.pre.toArray⟩] := rfl
  have hU : bdV ⟨op, u⟩ = .agg #[.int .i64 op, .int .i64 u.maj, .int .i64 u.min, .int .i64 u.pat, .string ⟨u.pre.toArray⟩] := rfl
  rw [hV, hU]
  clear hV hU
  simp only at hb
  have HO : Hid (Rng.one v ⟨op, u⟩ = if op = 1 then decide (Sem.cmp v u < 0) else if op = 2 then decide (Sem.cmp v u ≤ 0) else if op = 3 then decide (Sem.cmp v u = 0)
      else if op = 4 then decide (0 ≤ Sem.cmp v u) else if op = 5 then decide (0 < Sem.cmp v u) else false) := Lib.hid rfl
  go_enter Tryz.func40, Tryz.ntmps40
  go_wp2_with fail
  have hB := below_new (below_one w (.cells #[.int .i64 v.maj, .int .i64 v.min, .int .i64 v.pat, .string ⟨v.pre.toArray⟩] 40)) (.cells #[.int .i64 op, .int .i64 u.maj, .int .i64 u.min, .int .i64 u.pat, .string ⟨u.pre.toArray⟩] 57)
  have hq : ((w.alloc (.cells #[.int .i64 v.maj, .int .i64 v.min, .int .i64 v.pat, .string ⟨v.pre.toArray⟩] 40)).alloc (.cells #[.int .i64 op, .int .i64 u.maj, .int .i64 u.min, .int .i64 u.pat, .string ⟨u.pre.toArray⟩] 57)).cell? ⟨w.heap.size + 1, 0, none⟩ = some (.int .i64 op) := by simp [go_sem]
  have hz : w.heap.size + 1 < ((w.alloc (.cells #[.int .i64 v.maj, .int .i64 v.min, .int .i64 v.pat, .string ⟨v.pre.toArray⟩] 40)).alloc (.cells #[.int .i64 op, .int .i64 u.maj, .int .i64 u.min, .int .i64 u.pat, .string ⟨u.pre.toArray⟩] 57)).heap.size := by simp
  refine (cmp_walk v u hv hb _).mono ?_
  rintro e W ⟨rfl, hw⟩
  have hb2 := below_next hB hw
  have hq2 := (cell_of_below (o := 0) hw hz).1.trans hq
  clear hB hw hq hz
  obtain ⟨k, hk⟩ : ∃ k, k = Sem.cmp v u := ⟨_, rfl⟩
  rw [← hk]
  rw [← hk] at HO
  clear hk
  by_cases h1 : op = 1
  · subst h1
    go_wp2
    go_ret
    exact ⟨by rw [HO.out]; rfl, hb2⟩
  · have e1 : (op == 1) = false := beq_eq_false_iff_ne.2 h1
    by_cases h2 : op = 2
    · subst h2
      go_wp2
      go_ret
      exact ⟨by rw [HO.out]; rfl, hb2⟩
    · have e2 : (op == 2) = false := beq_eq_false_iff_ne.2 h2
      by_cases h3 : op = 3
      · subst h3
        have e0 : (k == 0) = decide (k = 0) := by rw [Bool.eq_iff_iff]; simp
        go_wp2
        go_ret
        exact ⟨by rw [HO.out]; rfl, hb2⟩
      · have e3 : (op == 3) = false := beq_eq_false_iff_ne.2 h3
        by_cases h4 : op = 4
        · subst h4
          go_wp2
          go_ret
          exact ⟨by rw [HO.out]; rfl, hb2⟩
        · have e4 : (op == 4) = false := beq_eq_false_iff_ne.2 h4
          by_cases h5 : op = 5
          · subst h5
            go_wp2
            go_ret
            exact ⟨by rw [HO.out]; rfl, hb2⟩
          · have e5 : (op == 5) = false := beq_eq_false_iff_ne.2 h5
            go_wp2
            go_ret
            exact ⟨by rw [HO.out, if_neg h1, if_neg h2, if_neg h3, if_neg h4, if_neg h5]; rfl, hb2⟩

set_option maxRecDepth 100000 in
set_option maxHeartbeats 2000000 in
theorem meets_walk (v : Sem.Ver) (A : Option Addr) (cap : Nat) (l : List Rng.Bd) (w : World) (hA : Bds w w.heap.size A l) (hv : v.pre.length ≤ 1000000) (hs : ∀ b ∈ l, b.v.pre.length ≤ 1000000) (hl : l.length ≤ 9223372036854775806) :
    Calls Tryz.prog 20 #[verV v, .slice A l.length cap] w fun e w' => e = .returned (.bool (Rng.meets v l)) ∧ Below w.heap.size w w' := by
  have HS := Lib.hid hs
  have HA := Lib.hid hA
  clear hs hA
  have hV : verV v = .agg #[.int .i64 v.maj, .int .i64 v.min, .int .i64 v.pat, .string ⟨v.pre.toArray⟩] := rfl
  rw [hV]
  clear hV
  go_enter Tryz.func20, Tryz.ntmps20
  go_wp2_with fail
  have hV0 := ver_new w v
  have hb0 := below_one w (.cells #[.int .i64 v.maj, .int .i64 v.min, .int .i64 v.pat, .string ⟨v.pre.toArray⟩] 40)
  generalize hW0 : w.alloc (Obj.cells #[Value.int IntKind.i64 v.maj, Value.int IntKind.i64 v.min, Value.int IntKind.i64 v.pat, Value.string ⟨v.pre.toArray⟩] 40) = W0 at hV0 hb0 ⊢
  clear hW0
  have HV0 := Lib.hid hV0
  clear hV0
  go_loopw [9] (fun ii wr => ∃ i : Nat, ii = .int .i64 i ∧ i ≤ l.length ∧ Hid (∀ j (hj : j < l.length), j < i → Rng.one v (l[j]'hj) = true) ∧ Below W0.heap.size W0 wr)
    (fun i _ => l.length - (intOf i).toNat)
  case atStart => exact ⟨0, rfl, Nat.zero_le _, Lib.hid (fun j _ hj => absurd hj (by omega)), Below.refl _ _⟩
  case round =>
    obtain ⟨i, rfl, hi, HN, hb⟩ := hrel
    have hbw : Below w.heap.size w wr := below_next hb0 hb
    by_cases hlt : i < l.length
    · rcases HA.out.keep hbw (Nat.le_refl _) with h0 | ⟨g, off, rfl, hg, hc⟩
      · omega
      · obtain ⟨p0, p1, p2, p3, p4⟩ := hc i hlt
        obtain ⟨x, hx⟩ : ∃ x, x = l[i] := ⟨_, rfl⟩
        rw [← hx] at p0 p1 p2 p3 p4
        have HX := Lib.hid hx
        have hxs := HS.out l[i] (List.getElem_mem _)
        rw [← hx] at hxs
        obtain ⟨_, v0, v1, v2, v3⟩ := HV0.out.next hb
        clear hx hc
        have hi1 : (i : Int) < (l.length : Int) := by omega
        go_wp2_with fail
        refine (one_walk v x hv hxs _).mono ?_
        rintro e w2 ⟨he, hb2⟩
        have hb3 : Below W0.heap.size W0 w2 := below_next (below_new hb _) hb2
        have hbw3 : Below w.heap.size w w2 := below_next (below_new hbw _) hb2
        clear p0 p1 p2 p3 p4 v0 v1 v2 v3 hi1
        cases hm : Rng.one v x
        · rw [hm] at he
          subst he
          have HC : Hid (Rng.meets v l = false) := Lib.hid (meets_part hlt (by rw [← HX.out]; exact hm))
          clear hm
          go_wp2
          go_ret
          exact ⟨by rw [HC.out]; rfl, hbw3⟩
        · rw [hm] at he
          subst he
          have HM : Hid (Rng.one v l[i] = true) := Lib.hid (by rw [← HX.out]; exact hm)
          clear hm
          go_wp2
          go_roundw
          case rel => exact ⟨i + 1, by go_num, by omega, Lib.hid (fun j hj hji => by
            rcases Nat.lt_succ_iff_lt_or_eq.1 hji with h | rfl
            · exact HN.out j hj h
            · exact HM.out), hb3⟩
          case measure => simp [intOf]; omega
    · have HC : Hid (Rng.meets v l = true) := Lib.hid (meets_all (fun j hj => HN.out j hj (by omega)))
      go_wp2
      go_ret
      exact ⟨by rw [HC.out]; rfl, hbw⟩
end Go.Proofs.YthjombepcmebfaaGreatDoor

/- The program's Near of ranges. -/
namespace Go.Proofs.YthjombepcmebfaaGreatDoor
open Go.RowKit
set_option linter.unusedVariables false

/-- The next version that may break things, if there is one. -/
def nextR (v : Sem.Ver) : Value := if Sem.may v = true ∧ Sem.may (Rng.next v) = true then .tuple #[verV (Rng.next v), .bool true] else .tuple #[verV ⟨0, 0, 0, []⟩, .bool false]

theorem next0 {v : Sem.Ver} (h : v.maj = 0) : Rng.next v = ⟨0, v.min + 1, 0, []⟩ := by unfold Rng.next; rw [if_pos h]
theorem next1 {v : Sem.Ver} (h : ¬ v.maj = 0) : Rng.next v = ⟨v.maj + 1, 0, 0, []⟩ := by unfold Rng.next; rw [if_neg h]

theorem below_put4' {B : Nat} {a W : World} (h : Below B a W) {x : Nat} (hx : B ≤ x) (p q r s : Value) :
    Below B a ((((W.setCell ⟨x, 0, none⟩ p).setCell ⟨x, 1, none⟩ q).setCell ⟨x, 2, none⟩ r).setCell ⟨x, 3, none⟩ s) :=
  (((h.setCell (p := ⟨x, 0, none⟩) hx _).setCell (p := ⟨x, 1, none⟩) hx _).setCell (p := ⟨x, 2, none⟩) hx _).setCell (p := ⟨x, 3, none⟩) hx _

set_option maxRecDepth 100000 in
set_option maxHeartbeats 4000000 in
theorem next_walk (v : Sem.Ver) (hs : v.pre.length ≤ 9223372036854775807) (w : World) :
    Calls Tryz.prog 42 #[verV v] w fun e w' => e = .returned (nextR v) ∧ Below w.heap.size w w' := by
  have hV : verV v = .agg #[.int .i64 v.maj, .int .i64 v.min, .int .i64 v.pat, .string ⟨v.pre.toArray⟩] := rfl
  rw [hV]
  clear hV
  have hb1 := below_one w (.cells #[.int .i64 v.maj, .int .i64 v.min, .int .i64 v.pat, .string ⟨v.pre.toArray⟩] 40)
  have hb2 := below_one (w.alloc (.cells #[.int .i64 v.maj, .int .i64 v.min, .int .i64 v.pat, .string ⟨v.pre.toArray⟩] 40)) (.cells #[.int .i64 0, .int .i64 0, .int .i64 0, .string ⟨#[]⟩] 40)
  have HV := Lib.hid ((box_new w v).keep (B := w.heap.size + 1) (by omega) (hb2.mono (by simp)))
  have hX := box_new (w.alloc (.cells #[.int .i64 v.maj, .int .i64 v.min, .int .i64 v.pat, .string ⟨v.pre.toArray⟩] 40)) ⟨0, 0, 0, []⟩
  rw [World.size_alloc] at hX
  have HX := Lib.hid hX
  clear hX
  have hb12 := below_next hb1 hb2
  clear hb1 hb2
  go_enter Tryz.func42, Tryz.ntmps42
  go_wp2_with fail
  refine (check_walk v hs _).mono ?_
  rintro e w3 ⟨he, hb3⟩
  have hb4 := below_next hb12 hb3
  have HV3 := Lib.hid (HV.out.keep (B := w.heap.size + 2) (by omega) (hb3.mono (by simp)))
  have HX3 := Lib.hid (HX.out.keep (B := w.heap.size + 2) (by simp) (hb3.mono (by simp)))
  have hz3 : w.heap.size + 2 ≤ w3.heap.size := by have := hb3.size; simpa using this
  clear HV HX hb12 hb3
  cases hm : Sem.may v
  · have hc0 : chk v = 40 := by rw [chk, hm, if_neg (by simp)]
    rw [hc0] at he
    subst he
    have HN : Hid (nextR v = .tuple #[verV ⟨0, 0, 0, []⟩, .bool false]) := Lib.hid (by unfold nextR; rw [if_neg (by rw [hm]; simp)])
    clear hc0 hm HV3
    obtain ⟨⟨_, r0, r1, r2, r3⟩, f0, f1, f2, f3⟩ := HX3.out
    go_wp2
    refine bodyPost_ret (v := .tuple #[.agg #[.int .i64 0, .int .i64 0, .int .i64 0, .string ByteArray.empty], .bool false]) (by simp [results, Tryz.results42, go_sem, r0, r1, r2, r3]; rfl) rfl ?_
    exact ⟨by rw [HN.out]; rfl, below_put4' hb4 (by omega) _ _ _ _⟩
  · have hc0 : chk v = 0 := by rw [chk, if_pos hm]
    rw [hc0] at he
    subst he
    obtain ⟨⟨m0, m1⟩, ⟨n0, n1⟩, _⟩ := (Sem.may_iff v).1 hm
    have HM := Lib.hid hm
    clear hc0 hm
    obtain ⟨⟨_, p0, p1, p2, p3⟩, _⟩ := HV3.out
    have hwr : IntKind.i64.wrap (v.maj + 1) = v.maj + 1 := IntWalk.i64_in _ (by omega)
    have hwr2 : IntKind.i64.wrap (v.min + 1) = v.min + 1 := IntWalk.i64_in _ (by omega)
    by_cases h0 : v.maj = 0
    · have e0 : (v.maj == 0) = true := beq_iff_eq.2 h0
      have HN := Lib.hid (next0 h0)
      have HN4 := Lib.hid (box_new w3 ⟨0, v.min + 1, 0, []⟩)
      have HB4 := Lib.hid (below_new hb4 (.cells #[.int .i64 0, .int .i64 (v.min + 1), .int .i64 0, .string ⟨#[]⟩] 40))
      have HX4 := Lib.hid (HX3.out.keep (B := w3.heap.size) (by have := HX3.out.1.1; omega) (below_one w3 (.cells #[.int .i64 0, .int .i64 (v.min + 1), .int .i64 0, .string ⟨#[]⟩] 40)))
      have hV4 := HV3.out.keep (B := w3.heap.size) (by omega) (below_one w3 (.cells #[.int .i64 (v.maj + 1), .int .i64 0, .int .i64 0, .string ⟨#[]⟩] 40))
      obtain ⟨⟨_, k0, k1, k2, k3⟩, _⟩ := hV4
      clear h0
      go_wp2_with fail
      generalize hWW : w3.alloc (.cells #[.int .i64 0, .int .i64 (v.min + 1), .int .i64 0, .string ⟨#[]⟩] 40) = WW at HX4 HN4 HB4 ⊢
      clear hWW k0 k1 k2 k3
      refine (check_walk ⟨0, v.min + 1, 0, []⟩ (by simp) _).mono ?_
      rintro e w5 ⟨he, hb5⟩
      have hb6 := below_next HB4.out hb5
      have HX5 := Lib.hid (HX4.out.keep (B := WW.heap.size) HX4.out.1.1 hb5)
      have HN5 := Lib.hid (HN4.out.keep (B := WW.heap.size) HN4.out.1.1 hb5)
      clear hb5 HX4 HN4 HX3 HV3 HB4 hb4 p0 p1 p2 p3
      obtain ⟨⟨_, r0, r1, r2, r3⟩, f0, f1, f2, f3⟩ := HX5.out
      obtain ⟨⟨_, q0, q1, q2, q3⟩, _⟩ := HN5.out
      cases hm2 : Sem.may ⟨0, v.min + 1, 0, []⟩
      · have hc0 : chk ⟨0, v.min + 1, 0, []⟩ = 40 := by rw [chk, hm2, if_neg (by simp)]
        rw [hc0] at he
        subst he
        have HR : Hid (nextR v = .tuple #[verV ⟨0, 0, 0, []⟩, .bool false]) := Lib.hid (by unfold nextR; rw [HN.out, hm2, if_neg (by simp)])
        clear hc0 hm2 q0 q1 q2 q3
        go_wp2
        refine bodyPost_ret (v := .tuple #[.agg #[.int .i64 0, .int .i64 0, .int .i64 0, .string ByteArray.empty], .bool false]) (by simp [results, Tryz.results42, go_sem, r0, r1, r2, r3]; rfl) rfl ?_
        exact ⟨by rw [HR.out]; rfl, below_put4' hb6 (by omega) _ _ _ _⟩
      · have hc0 : chk ⟨0, v.min + 1, 0, []⟩ = 0 := by rw [chk, if_pos hm2]
        rw [hc0] at he
        subst he
        have HR : Hid (nextR v = .tuple #[verV ⟨0, v.min + 1, 0, []⟩, .bool true]) := Lib.hid (by unfold nextR; rw [HN.out, HM.out, hm2, if_pos ⟨rfl, rfl⟩])
        clear hc0 hm2
        go_wp2
        refine bodyPost_ret (v := .tuple #[.agg #[.int .i64 0, .int .i64 (v.min + 1), .int .i64 0, .string ByteArray.empty], .bool true]) (by simp [results, Tryz.results42, go_sem, r0, r1, r2, r3]; rfl) rfl ?_
        exact ⟨by rw [HR.out]; rfl, below_put4' hb6 (by omega) _ _ _ _⟩
    · have e0 : (v.maj == 0) = false := beq_eq_false_iff_ne.2 h0
      have HN := Lib.hid (next1 h0)
      have HN4 := Lib.hid (box_new w3 ⟨v.maj + 1, 0, 0, []⟩)
      have HB4 := Lib.hid (below_new hb4 (.cells #[.int .i64 (v.maj + 1), .int .i64 0, .int .i64 0, .string ⟨#[]⟩] 40))
      have HX4 := Lib.hid (HX3.out.keep (B := w3.heap.size) (by have := HX3.out.1.1; omega) (below_one w3 (.cells #[.int .i64 (v.maj + 1), .int .i64 0, .int .i64 0, .string ⟨#[]⟩] 40)))
      clear h0
      go_wp2_with fail
      generalize hWW : w3.alloc (.cells #[.int .i64 (v.maj + 1), .int .i64 0, .int .i64 0, .string ⟨#[]⟩] 40) = WW at HX4 HN4 HB4 ⊢
      clear hWW
      refine (check_walk ⟨v.maj + 1, 0, 0, []⟩ (by simp) _).mono ?_
      rintro e w5 ⟨he, hb5⟩
      have hb6 := below_next HB4.out hb5
      have HX5 := Lib.hid (HX4.out.keep (B := WW.heap.size) HX4.out.1.1 hb5)
      have HN5 := Lib.hid (HN4.out.keep (B := WW.heap.size) HN4.out.1.1 hb5)
      clear hb5 HX4 HN4 HX3 HV3 HB4 hb4 p0 p1 p2 p3
      obtain ⟨⟨_, r0, r1, r2, r3⟩, f0, f1, f2, f3⟩ := HX5.out
      obtain ⟨⟨_, q0, q1, q2, q3⟩, _⟩ := HN5.out
      cases hm2 : Sem.may ⟨v.maj + 1, 0, 0, []⟩
      · have hc0 : chk ⟨v.maj + 1, 0, 0, []⟩ = 40 := by rw [chk, hm2, if_neg (by simp)]
        rw [hc0] at he
        subst he
        have HR : Hid (nextR v = .tuple #[verV ⟨0, 0, 0, []⟩, .bool false]) := Lib.hid (by unfold nextR; rw [HN.out, hm2, if_neg (by simp)])
        clear hc0 hm2 q0 q1 q2 q3
        go_wp2
        refine bodyPost_ret (v := .tuple #[.agg #[.int .i64 0, .int .i64 0, .int .i64 0, .string ByteArray.empty], .bool false]) (by simp [results, Tryz.results42, go_sem, r0, r1, r2, r3]; rfl) rfl ?_
        exact ⟨by rw [HR.out]; rfl, below_put4' hb6 (by omega) _ _ _ _⟩
      · have hc0 : chk ⟨v.maj + 1, 0, 0, []⟩ = 0 := by rw [chk, if_pos hm2]
        rw [hc0] at he
        subst he
        have HR : Hid (nextR v = .tuple #[verV ⟨v.maj + 1, 0, 0, []⟩, .bool true]) := Lib.hid (by unfold nextR; rw [HN.out, HM.out, hm2, if_pos ⟨rfl, rfl⟩])
        clear hc0 hm2
        go_wp2
        refine bodyPost_ret (v := .tuple #[.agg #[.int .i64 (v.maj + 1), .int .i64 0, .int .i64 0, .string ByteArray.empty], .bool true]) (by simp [results, Tryz.results42, go_sem, r0, r1, r2, r3]; rfl) rfl ?_
        exact ⟨by rw [HR.out]; rfl, below_put4' hb6 (by omega) _ _ _ _⟩

set_option maxRecDepth 100000 in
set_option maxHeartbeats 4000000 in
theorem near_walk (v : Sem.Ver) (hs : v.pre.length ≤ 9223372036854775807) (w : World) :
    Calls Tryz.prog 22 #[verV v] w fun e w' => BdsR w (Rng.near v) e w' := by
  have hV : verV v = .agg #[.int .i64 v.maj, .int .i64 v.min, .int .i64 v.pat, .string ⟨v.pre.toArray⟩] := rfl
  rw [hV]
  clear hV
  have HV := Lib.hid (box_new w v)
  have hb1 := below_one w (.cells #[.int .i64 v.maj, .int .i64 v.min, .int .i64 v.pat, .string ⟨v.pre.toArray⟩] 40)
  go_enter Tryz.func22, Tryz.ntmps22
  go_wp2_with fail
  refine (next_walk v hs _).mono ?_
  rintro e w2 ⟨he, hb2⟩
  have hb3 := below_next hb1 hb2
  have HV2 := Lib.hid ((HV.out.keep (B := w.heap.size + 1) (by omega) (hb2.mono (by simp))))
  clear HV hb1 hb2
  by_cases hc : Sem.may v = true ∧ Sem.may (Rng.next v) = true
  · have HN : Hid (Rng.near v = [⟨4, v⟩, ⟨1, Rng.next v⟩]) := Lib.hid (by rw [Rng.near_own, if_pos hc])
    have e1 : nextR v = .tuple #[verV (Rng.next v), .bool true] := by unfold nextR; rw [if_pos hc]
    rw [e1] at he
    clear e1 hc
    subst he
    obtain ⟨u, hu⟩ : ∃ u, u = Rng.next v := ⟨_, rfl⟩
    rw [← hu]
    rw [← hu] at HN
    clear hu
    have hU : verV u = .agg #[.int .i64 u.maj, .int .i64 u.min, .int .i64 u.pat, .string ⟨u.pre.toArray⟩] := rfl
    rw [hU]
    clear hU
    have hV3 := HV2.out.keep (B := w2.heap.size) HV2.out.1.1 (below_one w2 (.cells #[.int .i64 u.maj, .int .i64 u.min, .int .i64 u.pat, .string ⟨u.pre.toArray⟩] 40))
    obtain ⟨⟨_, p0, p1, p2, p3⟩, _⟩ := hV3
    go_wp2
    go_ret
    unfold BdsR
    rw [HN.out]
    exact ⟨_, 2, rfl, by simp, bds_two _ _ (by simp) ⟨4, v⟩ ⟨1, u⟩, below_new (below_new hb3 _) _⟩
  · have HN : Hid (Rng.near v = [⟨3, v⟩]) := Lib.hid (by rw [Rng.near_own, if_neg hc])
    have e1 : nextR v = .tuple #[verV ⟨0, 0, 0, []⟩, .bool false] := by unfold nextR; rw [if_neg hc]
    rw [e1] at he
    clear e1 hc
    subst he
    have hU : verV ⟨0, 0, 0, []⟩ = .agg #[.int .i64 0, .int .i64 0, .int .i64 0, .string ⟨#[]⟩] := rfl
    rw [hU]
    clear hU
    have hV3 := HV2.out.keep (B := w2.heap.size) HV2.out.1.1 (below_one w2 (.cells #[.int .i64 0, .int .i64 0, .int .i64 0, .string ⟨#[]⟩] 40))
    obtain ⟨⟨_, p0, p1, p2, p3⟩, _⟩ := hV3
    go_wp2
    go_ret
    unfold BdsR
    rw [HN.out]
    exact ⟨_, 1, rfl, by simp, bds_one _ _ (by simp) ⟨3, v⟩, below_new (below_new hb3 _) _⟩
end Go.Proofs.YthjombepcmebfaaGreatDoor

/- The program's ends of ranges: nothing, narrowLower, narrowUpper, narrow. -/
namespace Go.Proofs.YthjombepcmebfaaGreatDoor
open Go.RowKit
set_option linter.unusedVariables false

theorem nothing_walk (w : World) :
    Calls Tryz.prog 66 #[] w fun e w' => e = .returned (bdV Rng.nil) ∧ Below w.heap.size w w' := by
  have hx := box5_new w ⟨0, ⟨0, 0, 0, []⟩⟩
  obtain ⟨h0, ⟨r0, r1, r2, r3, r4⟩, f0, f1, f2, f3, f4⟩ := hx
  go_enter Tryz.func66, Tryz.ntmps66
  go_wp2
  refine bodyPost_ret (v := .agg #[.int .i64 1, .int .i64 0, .int .i64 0, .int .i64 0, .string ⟨#[48]⟩]) (by simp [results, Tryz.results66, go_sem]) rfl ?_
  exact ⟨rfl, below_one _ _⟩

/-- What changes one block that was there alone, and lays new ones. -/
def Upd (ge : Nat) (w w' : World) : Prop := Below ge w w' ∧ ∀ b o, b < w.heap.size → b ≠ ge → w'.cell? ⟨b, o, none⟩ = w.cell? ⟨b, o, none⟩ ∧ w'.frozen? ⟨b, o, none⟩ = w.frozen? ⟨b, o, none⟩

theorem Upd.of {ge : Nat} {w w' : World} (h : Below w.heap.size w w') (hg : ge ≤ w.heap.size) : Upd ge w w' :=
  ⟨h.mono hg, fun b o hb _ => ⟨h.cell (p := ⟨b, o, none⟩) hb, h.frozen (p := ⟨b, o, none⟩) hb⟩⟩

theorem Upd.trans {ge : Nat} {a b c : World} (h : Upd ge a b) (k : Upd ge b c) : Upd ge a c :=
  ⟨h.1.trans k.1, fun g o hg hne => ⟨(k.2 g o (Nat.lt_of_lt_of_le hg h.1.size) hne).1.trans (h.2 g o hg hne).1, (k.2 g o (Nat.lt_of_lt_of_le hg h.1.size) hne).2.trans (h.2 g o hg hne).2⟩⟩

theorem Upd.set {ge i : Nat} {a b : World} {v : Value} (h : Upd ge a b) : Upd ge a (b.setCell ⟨ge, i, none⟩ v) :=
  ⟨h.1.setCell (p := ⟨ge, i, none⟩) (Nat.le_refl _) _, fun g o hg hne => ⟨(World.cell?_setCell_other _ _ _ _ (fun e => hne (congrArg Addr.block e).symm)).trans (h.2 g o hg hne).1, by rw [← (h.2 g o hg hne).2]; simp [go_sem]⟩⟩

theorem Upd.bd {ge g o : Nat} {a b : World} {x : Rng.Bd} (h : Upd ge a b) (hx : BdAt a g o x) (hg : g < a.heap.size) (hne : g ≠ ge) : BdAt b g o x :=
  ⟨(h.2 _ _ hg hne).1.trans hx.1, (h.2 _ _ hg hne).1.trans hx.2.1, (h.2 _ _ hg hne).1.trans hx.2.2.1, (h.2 _ _ hg hne).1.trans hx.2.2.2.1, (h.2 _ _ hg hne).1.trans hx.2.2.2.2⟩

/-- The two ends in memory, which may be written. -/
structure EndsAt (W : World) (ge : Nat) (x y : Rng.Bd) : Prop where
  lt : ge < W.heap.size
  x0 : W.cell? ⟨ge, 0, none⟩ = some (.int .i64 x.op)
  x1 : W.cell? ⟨ge, 1, none⟩ = some (.int .i64 x.v.maj)
  x2 : W.cell? ⟨ge, 2, none⟩ = some (.int .i64 x.v.min)
  x3 : W.cell? ⟨ge, 3, none⟩ = some (.int .i64 x.v.pat)
  x4 : W.cell? ⟨ge, 4, none⟩ = some (.string ⟨x.v.pre.toArray⟩)
  y0 : W.cell? ⟨ge, 5, none⟩ = some (.int .i64 y.op)
  y1 : W.cell? ⟨ge, 6, none⟩ = some (.int .i64 y.v.maj)
  y2 : W.cell? ⟨ge, 7, none⟩ = some (.int .i64 y.v.min)
  y3 : W.cell? ⟨ge, 8, none⟩ = some (.int .i64 y.v.pat)
  y4 : W.cell? ⟨ge, 9, none⟩ = some (.string ⟨y.v.pre.toArray⟩)
  f0 : W.frozen? ⟨ge, 0, none⟩ = false
  f1 : W.frozen? ⟨ge, 1, none⟩ = false
  f2 : W.frozen? ⟨ge, 2, none⟩ = false
  f3 : W.frozen? ⟨ge, 3, none⟩ = false
  f4 : W.frozen? ⟨ge, 4, none⟩ = false
  f5 : W.frozen? ⟨ge, 5, none⟩ = false
  f6 : W.frozen? ⟨ge, 6, none⟩ = false
  f7 : W.frozen? ⟨ge, 7, none⟩ = false
  f8 : W.frozen? ⟨ge, 8, none⟩ = false
  f9 : W.frozen? ⟨ge, 9, none⟩ = false

theorem EndsAt.keep {W W' : World} {ge B : Nat} {x y : Rng.Bd} (h : EndsAt W ge x y) (hg : ge < B) (hb : Below B W W') : EndsAt W' ge x y := by
  have k : ∀ i, W'.cell? ⟨ge, i, none⟩ = W.cell? ⟨ge, i, none⟩ := fun i => hb.cell (p := ⟨ge, i, none⟩) hg
  have f : ∀ i, W'.frozen? ⟨ge, i, none⟩ = W.frozen? ⟨ge, i, none⟩ := fun i => hb.frozen (p := ⟨ge, i, none⟩) hg
  exact ⟨Nat.lt_of_lt_of_le h.lt hb.size, (k 0).trans h.x0, (k 1).trans h.x1, (k 2).trans h.x2, (k 3).trans h.x3, (k 4).trans h.x4, (k 5).trans h.y0, (k 6).trans h.y1, (k 7).trans h.y2, (k 8).trans h.y3, (k 9).trans h.y4,
    (f 0).trans h.f0, (f 1).trans h.f1, (f 2).trans h.f2, (f 3).trans h.f3, (f 4).trans h.f4, (f 5).trans h.f5, (f 6).trans h.f6, (f 7).trans h.f7, (f 8).trans h.f8, (f 9).trans h.f9⟩

theorem EndsAt.setLow {W : World} {ge : Nat} {x y : Rng.Bd} (h : EndsAt W ge x y) (u : Rng.Bd) :
    EndsAt (((((W.setCell ⟨ge, 0, none⟩ (.int .i64 u.op)).setCell ⟨ge, 1, none⟩ (.int .i64 u.v.maj)).setCell ⟨ge, 2, none⟩ (.int .i64 u.v.min)).setCell ⟨ge, 3, none⟩ (.int .i64 u.v.pat)).setCell ⟨ge, 4, none⟩ (.string ⟨u.v.pre.toArray⟩)) ge u y := by
  obtain ⟨h0, x0, x1, x2, x3, x4, y0, y1, y2, y3, y4, f0, f1, f2, f3, f4, f5, f6, f7, f8, f9⟩ := h
  constructor
  · simpa using h0
  all_goals simp [go_sem, x0, x1, x2, x3, x4, y0, y1, y2, y3, y4, f0, f1, f2, f3, f4, f5, f6, f7, f8, f9]

theorem EndsAt.setHigh {W : World} {ge : Nat} {x y : Rng.Bd} (h : EndsAt W ge x y) (u : Rng.Bd) :
    EndsAt (((((W.setCell ⟨ge, 5, none⟩ (.int .i64 u.op)).setCell ⟨ge, 6, none⟩ (.int .i64 u.v.maj)).setCell ⟨ge, 7, none⟩ (.int .i64 u.v.min)).setCell ⟨ge, 8, none⟩ (.int .i64 u.v.pat)).setCell ⟨ge, 9, none⟩ (.string ⟨u.v.pre.toArray⟩)) ge x u := by
  obtain ⟨h0, x0, x1, x2, x3, x4, y0, y1, y2, y3, y4, f0, f1, f2, f3, f4, f5, f6, f7, f8, f9⟩ := h
  constructor
  · simpa using h0
  all_goals simp [go_sem, x0, x1, x2, x3, x4, y0, y1, y2, y3, y4, f0, f1, f2, f3, f4, f5, f6, f7, f8, f9]


theorem lower_cond (x b : Rng.Bd) : Rng.low1 x b = if (x.op == 0) = true ∨ 0 < Sem.cmp b.v x.v ∨ ((Sem.cmp b.v x.v == 0) = true ∧ (b.op == 5) = true ∧ (x.op != 5) = true) then b else x := by
  unfold Rng.low1; simp only [beq_iff_eq, bne_iff_ne]

set_option maxRecDepth 100000 in
set_option maxHeartbeats 4000000 in
theorem lower_walk (ge : Nat) (x y b : Rng.Bd) (hx : x.v.pre.length ≤ 1000000) (hbl : b.v.pre.length ≤ 1000000) (w : World) (hE : EndsAt w ge x y) :
    Calls Tryz.prog 67 #[.pointer (some ⟨ge, 0, none⟩), bdV b] w fun e w' => e = .returned (.tuple #[]) ∧ EndsAt w' ge (Rng.low1 x b) y ∧ Upd ge w w' := by
  have hV : bdV b = .agg #[.int .i64 b.op, .int .i64 b.v.maj, .int .i64 b.v.min, .int .i64 b.v.pat, .string ⟨b.v.pre.toArray⟩] := rfl
  rw [hV]
  clear hV
  have hlt := hE.lt
  have hb1 := below_one w (.cells #[.int .i64 b.op, .int .i64 b.v.maj, .int .i64 b.v.min, .int .i64 b.v.pat, .string ⟨b.v.pre.toArray⟩] 57)
  have HX := Lib.hid (box5_new w b)
  have HE := Lib.hid (hE.keep hlt hb1)
  have HU := Lib.hid (Upd.of (ge := ge) hb1 (by omega))
  have HLL := Lib.hid (lower_cond x b)
  clear hE hb1
  go_enter Tryz.func67, Tryz.ntmps67
  go_wp2_with fail
  generalize hW : w.alloc (.cells #[.int .i64 b.op, .int .i64 b.v.maj, .int .i64 b.v.min, .int .i64 b.v.pat, .string ⟨b.v.pre.toArray⟩] 57) = W at HX HE HU ⊢
  clear hW
  obtain ⟨x0, x1, x2, x3, x4⟩ : W.cell? ⟨ge, 0, none⟩ = some (.int .i64 x.op) ∧ W.cell? ⟨ge, 1, none⟩ = some (.int .i64 x.v.maj) ∧ W.cell? ⟨ge, 2, none⟩ = some (.int .i64 x.v.min) ∧ W.cell? ⟨ge, 3, none⟩ = some (.int .i64 x.v.pat) ∧ W.cell? ⟨ge, 4, none⟩ = some (.string ⟨x.v.pre.toArray⟩) := ⟨HE.out.x0, HE.out.x1, HE.out.x2, HE.out.x3, HE.out.x4⟩
  obtain ⟨hz, ⟨b0, b1, b2, b3, b4⟩, _⟩ := HX.out
  simp only [Nat.zero_add] at b1 b2 b3 b4
  go_still_tail 7, (by kernel_rfl)
  change wpList _ _ _ _ _ W.drew
  go_wp2_with fail
  refine (cmp_walk b.v x.v hbl hx _).mono ?_
  rintro e W3 ⟨rfl, hb3⟩
  have hb3' : Below W.heap.size W W3 := (Below.refl _ W).drew.trans (hb3.mono (by simp))
  clear hb3 x0 x1 x2 x3 x4 b0 b1 b2 b3 b4
  have HE3 := Lib.hid (HE.out.keep HE.out.lt hb3')
  have HX3 := Lib.hid (HX.out.keep hz hb3')
  have HU3 := Lib.hid (HU.out.trans (Upd.of (ge := ge) hb3' (Nat.le_of_lt HE.out.lt)))
  obtain ⟨k, hk⟩ : ∃ k, k = Sem.cmp b.v x.v := ⟨_, rfl⟩
  rw [← hk] at HLL ⊢
  clear hk hb3' HE HX HU
  obtain ⟨h0, x0, x1, x2, x3, x4, y0, y1, y2, y3, y4, f0, f1, f2, f3, f4, f5, f6, f7, f8, f9⟩ := HE3.out
  obtain ⟨hz3, ⟨b0, b1, b2, b3, b4⟩, _⟩ := HX3.out
  simp only [Nat.zero_add] at b1 b2 b3 b4
  have hne : w.heap.size ≠ ge := by omega
  cases e0 : (x.op == 0)
  · by_cases ek : 0 < k
    · have HL : Hid (Rng.low1 x b = b) := Lib.hid (by rw [HLL.out, if_pos (Or.inr (Or.inl ek))])
      clear HLL
      go_wp2
      refine bodyPost_end (v := .tuple #[]) (by simp [results, Tryz.results67, go_sem]) rfl ?_
      rw [HL.out]
      exact ⟨rfl, HE3.out.setLow b, HU3.out.set.set.set.set.set⟩
    · cases ez : (k == 0)
      · have HL : Hid (Rng.low1 x b = x) := Lib.hid (by rw [HLL.out, e0, ez, if_neg (by simp [ek])])
        clear HLL
        go_wp2
        refine bodyPost_end (v := .tuple #[]) (by simp [results, Tryz.results67, go_sem]) rfl ?_
        rw [HL.out]
        exact ⟨rfl, HE3.out, HU3.out⟩
      · cases eb : (b.op == 5)
        · have HL : Hid (Rng.low1 x b = x) := Lib.hid (by rw [HLL.out, e0, ez, eb, if_neg (by simp [ek])])
          clear HLL
          go_wp2
          refine bodyPost_end (v := .tuple #[]) (by simp [results, Tryz.results67, go_sem]) rfl ?_
          rw [HL.out]
          exact ⟨rfl, HE3.out, HU3.out⟩
        · cases ex : (x.op != 5)
          · have HL : Hid (Rng.low1 x b = x) := Lib.hid (by rw [HLL.out, e0, ez, eb, ex, if_neg (by simp [ek])])
            clear HLL
            go_wp2
            refine bodyPost_end (v := .tuple #[]) (by simp [results, Tryz.results67, go_sem]) rfl ?_
            rw [HL.out]
            exact ⟨rfl, HE3.out, HU3.out⟩
          · have HL : Hid (Rng.low1 x b = b) := Lib.hid (by rw [HLL.out, e0, ez, eb, ex, if_pos (by simp)])
            clear HLL
            go_wp2
            refine bodyPost_end (v := .tuple #[]) (by simp [results, Tryz.results67, go_sem]) rfl ?_
            rw [HL.out]
            exact ⟨rfl, HE3.out.setLow b, HU3.out.set.set.set.set.set⟩
  · have HL : Hid (Rng.low1 x b = b) := Lib.hid (by rw [HLL.out, if_pos (Or.inl e0)])
    clear HLL
    go_wp2
    refine bodyPost_end (v := .tuple #[]) (by simp [results, Tryz.results67, go_sem]) rfl ?_
    rw [HL.out]
    exact ⟨rfl, HE3.out.setLow b, HU3.out.set.set.set.set.set⟩

end Go.Proofs.YthjombepcmebfaaGreatDoor

/- The program's narrowUpper. -/
namespace Go.Proofs.YthjombepcmebfaaGreatDoor
open Go.RowKit
set_option linter.unusedVariables false

theorem upper_cond (x b : Rng.Bd) : Rng.high1 x b = if (x.op == 0) = true ∨ Sem.cmp b.v x.v < 0 ∨ ((Sem.cmp b.v x.v == 0) = true ∧ (b.op == 1) = true ∧ (x.op != 1) = true) then b else x := by
  unfold Rng.high1; simp only [beq_iff_eq, bne_iff_ne]

set_option maxRecDepth 100000 in
set_option maxHeartbeats 4000000 in
theorem upper_walk (ge : Nat) (x y b : Rng.Bd) (hx : y.v.pre.length ≤ 1000000) (hbl : b.v.pre.length ≤ 1000000) (w : World) (hE : EndsAt w ge x y) :
    Calls Tryz.prog 68 #[.pointer (some ⟨ge, 0, none⟩), bdV b] w fun e w' => e = .returned (.tuple #[]) ∧ EndsAt w' ge x (Rng.high1 y b) ∧ Upd ge w w' := by
  have hV : bdV b = .agg #[.int .i64 b.op, .int .i64 b.v.maj, .int .i64 b.v.min, .int .i64 b.v.pat, .string ⟨b.v.pre.toArray⟩] := rfl
  rw [hV]
  clear hV
  have hlt := hE.lt
  have hb1 := below_one w (.cells #[.int .i64 b.op, .int .i64 b.v.maj, .int .i64 b.v.min, .int .i64 b.v.pat, .string ⟨b.v.pre.toArray⟩] 57)
  have HX := Lib.hid (box5_new w b)
  have HE := Lib.hid (hE.keep hlt hb1)
  have HU := Lib.hid (Upd.of (ge := ge) hb1 (by omega))
  have HLL := Lib.hid (upper_cond y b)
  clear hE hb1
  go_enter Tryz.func68, Tryz.ntmps68
  go_wp2_with fail
  generalize hW : w.alloc (.cells #[.int .i64 b.op, .int .i64 b.v.maj, .int .i64 b.v.min, .int .i64 b.v.pat, .string ⟨b.v.pre.toArray⟩] 57) = W at HX HE HU ⊢
  clear hW
  obtain ⟨x0, x1, x2, x3, x4⟩ : W.cell? ⟨ge, 5, none⟩ = some (.int .i64 y.op) ∧ W.cell? ⟨ge, 6, none⟩ = some (.int .i64 y.v.maj) ∧ W.cell? ⟨ge, 7, none⟩ = some (.int .i64 y.v.min) ∧ W.cell? ⟨ge, 8, none⟩ = some (.int .i64 y.v.pat) ∧ W.cell? ⟨ge, 9, none⟩ = some (.string ⟨y.v.pre.toArray⟩) := ⟨HE.out.y0, HE.out.y1, HE.out.y2, HE.out.y3, HE.out.y4⟩
  obtain ⟨hz, ⟨b0, b1, b2, b3, b4⟩, _⟩ := HX.out
  simp only [Nat.zero_add] at b1 b2 b3 b4
  go_still_tail 7, (by kernel_rfl)
  change wpList _ _ _ _ _ W.drew
  go_wp2_with fail
  refine (cmp_walk b.v y.v hbl hx _).mono ?_
  rintro e W3 ⟨rfl, hb3⟩
  have hb3' : Below W.heap.size W W3 := (Below.refl _ W).drew.trans (hb3.mono (by simp))
  clear hb3 x0 x1 x2 x3 x4 b0 b1 b2 b3 b4
  have HE3 := Lib.hid (HE.out.keep HE.out.lt hb3')
  have HX3 := Lib.hid (HX.out.keep hz hb3')
  have HU3 := Lib.hid (HU.out.trans (Upd.of (ge := ge) hb3' (Nat.le_of_lt HE.out.lt)))
  obtain ⟨k, hk⟩ : ∃ k, k = Sem.cmp b.v y.v := ⟨_, rfl⟩
  rw [← hk] at HLL ⊢
  clear hk hb3' HE HX HU
  obtain ⟨h0, x0, x1, x2, x3, x4, y0, y1, y2, y3, y4, f0, f1, f2, f3, f4, f5, f6, f7, f8, f9⟩ := HE3.out
  obtain ⟨hz3, ⟨b0, b1, b2, b3, b4⟩, _⟩ := HX3.out
  simp only [Nat.zero_add] at b1 b2 b3 b4
  have hne : w.heap.size ≠ ge := by omega
  cases e0 : (y.op == 0)
  · by_cases ek : k < 0
    · have HL : Hid (Rng.high1 y b = b) := Lib.hid (by rw [HLL.out, if_pos (Or.inr (Or.inl ek))])
      clear HLL
      go_wp2
      refine bodyPost_end (v := .tuple #[]) (by simp [results, Tryz.results68, go_sem]) rfl ?_
      rw [HL.out]
      exact ⟨rfl, HE3.out.setHigh b, HU3.out.set.set.set.set.set⟩
    · cases ez : (k == 0)
      · have HL : Hid (Rng.high1 y b = y) := Lib.hid (by rw [HLL.out, e0, ez, if_neg (by simp [ek])])
        clear HLL
        go_wp2
        refine bodyPost_end (v := .tuple #[]) (by simp [results, Tryz.results68, go_sem]) rfl ?_
        rw [HL.out]
        exact ⟨rfl, HE3.out, HU3.out⟩
      · cases eb : (b.op == 1)
        · have HL : Hid (Rng.high1 y b = y) := Lib.hid (by rw [HLL.out, e0, ez, eb, if_neg (by simp [ek])])
          clear HLL
          go_wp2
          refine bodyPost_end (v := .tuple #[]) (by simp [results, Tryz.results68, go_sem]) rfl ?_
          rw [HL.out]
          exact ⟨rfl, HE3.out, HU3.out⟩
        · cases ex : (y.op != 1)
          · have HL : Hid (Rng.high1 y b = y) := Lib.hid (by rw [HLL.out, e0, ez, eb, ex, if_neg (by simp [ek])])
            clear HLL
            go_wp2
            refine bodyPost_end (v := .tuple #[]) (by simp [results, Tryz.results68, go_sem]) rfl ?_
            rw [HL.out]
            exact ⟨rfl, HE3.out, HU3.out⟩
          · have HL : Hid (Rng.high1 y b = b) := Lib.hid (by rw [HLL.out, e0, ez, eb, ex, if_pos (by simp)])
            clear HLL
            go_wp2
            refine bodyPost_end (v := .tuple #[]) (by simp [results, Tryz.results68, go_sem]) rfl ?_
            rw [HL.out]
            exact ⟨rfl, HE3.out.setHigh b, HU3.out.set.set.set.set.set⟩
  · have HL : Hid (Rng.high1 y b = b) := Lib.hid (by rw [HLL.out, if_pos (Or.inl e0)])
    clear HLL
    go_wp2
    refine bodyPost_end (v := .tuple #[]) (by simp [results, Tryz.results68, go_sem]) rfl ?_
    rw [HL.out]
    exact ⟨rfl, HE3.out.setHigh b, HU3.out.set.set.set.set.set⟩

end Go.Proofs.YthjombepcmebfaaGreatDoor

/- The program's narrow: one bound more. -/
namespace Go.Proofs.YthjombepcmebfaaGreatDoor
open Go.RowKit
set_option linter.unusedVariables false

theorem EndsAt.put5 {W : World} {ge z : Nat} {x y : Rng.Bd} (h : EndsAt W ge x y) (hne : z ≠ ge) (p q r s t : Value) :
    EndsAt (((((W.setCell ⟨z, 0, none⟩ p).setCell ⟨z, 1, none⟩ q).setCell ⟨z, 2, none⟩ r).setCell ⟨z, 3, none⟩ s).setCell ⟨z, 4, none⟩ t) ge x y := by
  have k : ∀ (V : World) (i j : Nat) (v : Value), (V.setCell ⟨z, i, none⟩ v).cell? ⟨ge, j, none⟩ = V.cell? ⟨ge, j, none⟩ := fun V i j v => World.cell?_setCell_other _ _ _ _ (fun e => hne (congrArg Addr.block e))
  obtain ⟨h0, x0, x1, x2, x3, x4, y0, y1, y2, y3, y4, f0, f1, f2, f3, f4, f5, f6, f7, f8, f9⟩ := h
  constructor
  · simpa using h0
  iterate 10 (rw [k, k, k, k, k]; assumption)
  all_goals simp [go_sem, f0, f1, f2, f3, f4, f5, f6, f7, f8, f9]

/-- Cells of a block that is newer than a are changed. -/
theorem Upd.put5 {ge z : Nat} {a W : World} (h : Upd ge a W) (hg : ge ≤ z) (hz : a.heap.size ≤ z) (p q r s t : Value) :
    Upd ge a (((((W.setCell ⟨z, 0, none⟩ p).setCell ⟨z, 1, none⟩ q).setCell ⟨z, 2, none⟩ r).setCell ⟨z, 3, none⟩ s).setCell ⟨z, 4, none⟩ t) := by
  have k : ∀ (V : World) (i b j : Nat) (v : Value), b ≠ z → (V.setCell ⟨z, i, none⟩ v).cell? ⟨b, j, none⟩ = V.cell? ⟨b, j, none⟩ := fun V i b j v hb => World.cell?_setCell_other _ _ _ _ (fun e => hb (congrArg Addr.block e).symm)
  refine ⟨bel5 h.1 hg, fun b o hb hne => ⟨?_, ?_⟩⟩
  · have hbz : b ≠ z := by omega
    rw [k _ _ _ _ _ hbz, k _ _ _ _ _ hbz, k _ _ _ _ _ hbz, k _ _ _ _ _ hbz, k _ _ _ _ _ hbz]
    exact (h.2 b o hb hne).1
  · rw [← (h.2 b o hb hne).2]; simp [go_sem]

theorem fix_len {b : Rng.Bd} (h : b.v.pre.length ≤ 1000000) : (Rng.fix b).v.pre.length ≤ 1000000 := by
  unfold Rng.fix Rng.nil
  split
  · simp
  · exact h

theorem low1_len {x b : Rng.Bd} (hx : x.v.pre.length ≤ 1000000) (h : b.v.pre.length ≤ 1000000) : (Rng.low1 x b).v.pre.length ≤ 1000000 := by
  unfold Rng.low1; split <;> assumption
theorem high1_len {x b : Rng.Bd} (hx : x.v.pre.length ≤ 1000000) (h : b.v.pre.length ≤ 1000000) : (Rng.high1 x b).v.pre.length ≤ 1000000 := by
  unfold Rng.high1; split <;> assumption

set_option maxRecDepth 100000 in
set_option maxHeartbeats 4000000 in
theorem narrow_walk (ge : Nat) (x y b : Rng.Bd) (hx : x.v.pre.length ≤ 1000000) (hy : y.v.pre.length ≤ 1000000) (hbl : b.v.pre.length ≤ 1000000) (w : World) (hE : EndsAt w ge x y) :
    Calls Tryz.prog 44 #[.pointer (some ⟨ge, 0, none⟩), bdV b] w fun e w' => e = .returned (.tuple #[]) ∧ EndsAt w' ge (Rng.narrow (x, y) b).1 (Rng.narrow (x, y) b).2 ∧ Upd ge w w' := by
  have hV : bdV b = .agg #[.int .i64 b.op, .int .i64 b.v.maj, .int .i64 b.v.min, .int .i64 b.v.pat, .string ⟨b.v.pre.toArray⟩] := rfl
  rw [hV]
  clear hV
  have hlt := hE.lt
  have hne : w.heap.size ≠ ge := by omega
  have hb1 := below_one w (.cells #[.int .i64 b.op, .int .i64 b.v.maj, .int .i64 b.v.min, .int .i64 b.v.pat, .string ⟨b.v.pre.toArray⟩] 57)
  have HX := Lib.hid (box5_new w b)
  have HE := Lib.hid (hE.keep hlt hb1)
  have HU := Lib.hid (Upd.of (ge := ge) hb1 (by omega))
  have hfl := fix_len hbl
  clear hE hb1
  obtain ⟨hz, ⟨b0, b1, b2, b3, b4⟩, _⟩ := HX.out
  simp only [Nat.zero_add] at b1 b2 b3 b4
  go_enter Tryz.func44, Tryz.ntmps44
  go_wp2_with fail
  generalize hW : w.alloc (.cells #[.int .i64 b.op, .int .i64 b.v.maj, .int .i64 b.v.min, .int .i64 b.v.pat, .string ⟨b.v.pre.toArray⟩] 57) = W at HX HE HU b0 b1 b2 b3 b4 hz ⊢
  clear hW
  refine (isOp_walk b.op _).mono ?_
  rintro e w2 ⟨he, rfl⟩
  by_cases ho : 1 ≤ b.op ∧ b.op ≤ 5
  · have HF : Hid (Rng.narrow (x, y) b = (if 3 ≤ b.op then Rng.low1 x b else x, if b.op ≤ 3 then Rng.high1 y b else y)) := Lib.hid (by unfold Rng.narrow; rw [Rng.fix_id ho])
    rw [decide_eq_true ho] at he
    subst he
    clear ho
    by_cases h3 : 3 ≤ b.op
    · have h3d : decide (3 ≤ b.op) = true := decide_eq_true h3
      go_wp2_with fail
      clear b0 b1 b2 b3 b4
      refine (lower_walk ge x y b hx hbl _ HE.out).mono ?_
      rintro e w3 ⟨rfl, hE3, hU3⟩
      have hX3 := hU3.bd HX.out.2.1 hz hne
      have hz3 : w.heap.size < w3.heap.size := Nat.lt_of_lt_of_le hz hU3.1.size
      have HE3 := Lib.hid hE3
      have HU4 := Lib.hid (HU.out.trans hU3)
      have HX3 := Lib.hid hX3
      obtain ⟨b0, b1, b2, b3, b4⟩ := hX3
      simp only [Nat.zero_add] at b1 b2 b3 b4
      clear hE3 hU3
      by_cases h4 : b.op ≤ 3
      · have h4d : decide (b.op ≤ 3) = true := decide_eq_true h4
        go_wp2_with fail
        clear b0 b1 b2 b3 b4
        refine (upper_walk ge (Rng.low1 x b) y b hy hbl _ HE3.out).mono ?_
        rintro e w5 ⟨rfl, hE5, hU5⟩
        go_wp2
        refine bodyPost_end (v := .tuple #[]) (by simp [results, Tryz.results44, go_sem]) rfl ?_
        rw [HF.out, if_pos h3, if_pos h4]
        exact ⟨rfl, hE5, HU4.out.trans hU5⟩
      · have h4d : decide (b.op ≤ 3) = false := decide_eq_false h4
        go_wp2
        refine bodyPost_end (v := .tuple #[]) (by simp [results, Tryz.results44, go_sem]) rfl ?_
        rw [HF.out, if_pos h3, if_neg (by omega)]
        exact ⟨rfl, HE3.out, HU4.out⟩
    · have h3d : decide (3 ≤ b.op) = false := decide_eq_false h3
      have h4 : b.op ≤ 3 := by omega
      have h4d : decide (b.op ≤ 3) = true := decide_eq_true h4
      go_wp2_with fail
      clear b0 b1 b2 b3 b4
      refine (upper_walk ge x y b hy hbl _ HE.out).mono ?_
      rintro e w5 ⟨rfl, hE5, hU5⟩
      go_wp2
      refine bodyPost_end (v := .tuple #[]) (by simp [results, Tryz.results44, go_sem]) rfl ?_
      rw [HF.out, if_neg (by omega), if_pos h4]
      exact ⟨rfl, hE5, HU.out.trans hU5⟩
  · have HF : Hid (Rng.narrow (x, y) b = (x, Rng.high1 y Rng.nil)) := Lib.hid (by
      have e : Rng.fix b = Rng.nil := by unfold Rng.fix; rw [if_pos (by omega)]
      unfold Rng.narrow; rw [e]; rfl)
    rw [decide_eq_false ho] at he
    subst he
    clear ho b0 b1 b2 b3 b4
    go_wp2_with fail
    refine (nothing_walk _).mono ?_
    rintro e w3 ⟨rfl, hb3⟩
    have hE3 := HE.out.keep HE.out.lt hb3
    have HX3 := Lib.hid (HX.out.keep hz hb3)
    have HU3 := Lib.hid (HU.out.trans (Upd.of (ge := ge) hb3 (Nat.le_of_lt HE.out.lt)))
    have hz3 : w.heap.size < w3.heap.size := Nat.lt_of_lt_of_le hz hb3.size
    have HE4 := Lib.hid (hE3.put5 (z := w.heap.size) hne (.int .i64 1) (.int .i64 0) (.int .i64 0) (.int .i64 0) (.string ⟨#[48]⟩))
    have HX4 := Lib.hid (HX3.out.set Rng.nil)
    have HU4 := Lib.hid (Upd.put5 HU3.out (z := w.heap.size) (by omega) (Nat.le_refl _) (.int .i64 1) (.int .i64 0) (.int .i64 0) (.int .i64 0) (.string ⟨#[48]⟩))
    obtain ⟨_, ⟨b0, b1, b2, b3, b4⟩, f0, f1, f2, f3, f4⟩ := HX3.out
    simp only [Nat.zero_add] at b1 b2 b3 b4
    have hV : bdV Rng.nil = .agg #[.int .i64 1, .int .i64 0, .int .i64 0, .int .i64 0, .string ⟨#[48]⟩] := rfl
    rw [hV]
    clear hV hb3 hE3
    go_wp2_with fail
    clear b0 b1 b2 b3 b4 f0 f1 f2 f3 f4
    refine (upper_walk ge x y Rng.nil hy (by decide) _ HE4.out).mono ?_
    rintro e w5 ⟨rfl, hE5, hU5⟩
    go_wp2
    refine bodyPost_end (v := .tuple #[]) (by simp [results, Tryz.results44, go_sem]) rfl ?_
    rw [HF.out]
    exact ⟨rfl, hE5, HU4.out.trans hU5⟩
end Go.Proofs.YthjombepcmebfaaGreatDoor

/- The program's eachBound over narrow. -/
namespace Go.Proofs.YthjombepcmebfaaGreatDoor
open Go.RowKit
set_option linter.unusedVariables false

/-- All bounds of ranges, in order. -/
def flat (ls : List Row) : List Rng.Bd := ls.flatMap (·.l)

theorem flat_next {ls : List Row} {i : Nat} (h : i < ls.length) : flat (ls.take (i + 1)) = flat (ls.take i) ++ (ls[i]'h).l := by
  unfold flat
  rw [List.take_succ_eq_append_getElem h, List.flatMap_append]; simp

theorem ends_len {l : List Rng.Bd} (h : ∀ b ∈ l, b.v.pre.length ≤ 1000000) : (Rng.ends l).1.v.pre.length ≤ 1000000 ∧ (Rng.ends l).2.v.pre.length ≤ 1000000 := by
  unfold Rng.ends
  constructor
  · cases hq : Rng.best 1 5 (Rng.low l) with
    | none => simp [Rng.bdO, Rng.zero]
    | some x =>
      obtain ⟨⟨c, hc, rfl⟩, _⟩ := Rng.low_mem.1 (Rng.best_mem hq)
      exact fix_len (h c hc)
  · cases hq : Rng.best (-1) 1 (Rng.high l) with
    | none => simp [Rng.bdO, Rng.zero]
    | some x =>
      obtain ⟨⟨c, hc, rfl⟩, _⟩ := Rng.high_mem.1 (Rng.best_mem hq)
      exact fix_len (h c hc)

theorem mem_flat_take {ls : List Row} {i : Nat} {b : Rng.Bd} (h : b ∈ flat (ls.take i)) : ∃ r ∈ ls, b ∈ r.l := by
  obtain ⟨r, hr, hb⟩ := List.mem_flatMap.1 h
  exact ⟨r, List.mem_of_mem_take hr, hb⟩

set_option maxRecDepth 100000 in
set_option maxHeartbeats 4000000 in
theorem each_walk (ge : Nat) (A : Option Addr) (cap : Nat) (ls : List Row) (w : World) (hA : Bdss w ge A ls) (hl : ls.length ≤ 1000000) (hll : ∀ r ∈ ls, r.l.length ≤ 1000000) (hs : ∀ r ∈ ls, ∀ b ∈ r.l, b.v.pre.length ≤ 1000000) (hE : EndsAt w ge Rng.zero Rng.zero) :
    Calls Tryz.prog 43 #[.slice A ls.length cap, .func (.func 44) #[.pointer (some ⟨ge, 0, none⟩)] #[]] w fun e w' => e = .returned (.tuple #[]) ∧ EndsAt w' ge (Rng.ends (flat ls)).1 (Rng.ends (flat ls)).2 ∧ Below ge w w' := by
  have HA := Lib.hid hA
  have HS := Lib.hid hs
  have HL := Lib.hid hll
  have HE := Lib.hid hE
  clear hA hs hE hll
  go_enter Tryz.func43, Tryz.ntmps43
  go_wp2_with fail
  go_loopw [10] (fun ii wr => ∃ i : Nat, ii = .int .i64 i ∧ i ≤ ls.length ∧ Hid (EndsAt wr ge (Rng.ends (flat (ls.take i))).1 (Rng.ends (flat (ls.take i))).2) ∧ Hid (Below ge w wr))
    (fun i _ => ls.length - (intOf i).toNat)
  case atStart => exact ⟨0, rfl, Nat.zero_le _, HE, Lib.hid (Below.refl _ _)⟩
  case round =>
    obtain ⟨i, rfl, hi, HEi, HB⟩ := hrel
    by_cases hlt : i < ls.length
    · have hi1 : (i : Int) < (ls.length : Int) := by omega
      obtain ⟨hA1, hA2⟩ := HA.out.keep HB.out (Nat.le_refl _)
      rcases hA1 with h0 | ⟨g, off, rfl, hg, hc⟩
      · omega
      · have hcell := hc i hlt
        obtain ⟨r, hr⟩ : ∃ r, r = ls[i] := ⟨_, rfl⟩
        have hrm : r ∈ ls := by rw [hr]; exact List.getElem_mem _
        rw [← hr] at hcell
        have HF : Hid (flat (ls.take (i + 1)) = flat (ls.take i) ++ r.l) := Lib.hid (by rw [hr]; exact flat_next hlt)
        have HR := Lib.hid (hA2 r hrm).1
        have hrl := HL.out r hrm
        have HRS := Lib.hid (HS.out r hrm)
        have HLE : Hid (∀ k, (Rng.ends (flat (ls.take i) ++ r.l.take k)).1.v.pre.length ≤ 1000000 ∧ (Rng.ends (flat (ls.take i) ++ r.l.take k)).2.v.pre.length ≤ 1000000) := Lib.hid (fun k => ends_len (fun b hb => by
          rcases List.mem_append.1 hb with hb | hb
          · obtain ⟨q, hq, hqb⟩ := mem_flat_take hb
            exact HS.out q hq b hqb
          · exact HS.out r hrm b (List.mem_of_mem_take hb)))
        clear hA2 hc hr hrm
        go_wp2_with fail
        clear hcell
        go_loopw [16] (fun kk wq => ∃ k : Nat, kk = .int .i64 k ∧ k ≤ r.l.length ∧ Hid (EndsAt wq ge (Rng.ends (flat (ls.take i) ++ r.l.take k)).1 (Rng.ends (flat (ls.take i) ++ r.l.take k)).2) ∧ Hid (Below ge wr wq))
          (fun k _ => r.l.length - (intOf k).toNat)
        case atStart => exact ⟨0, rfl, Nat.zero_le _, by simpa using HEi, Lib.hid (Below.refl _ _)⟩
        case round =>
          obtain ⟨k, rfl, hk, HEk, HBk⟩ := hrel
          by_cases hkl : k < r.l.length
          · have hk1 : (k : Int) < (r.l.length : Int) := by omega
            rcases HR.out.keep HBk.out (Nat.le_refl _) with h0 | ⟨g2, off2, hA2, hg2, hc2⟩
            · omega
            · obtain ⟨p0, p1, p2, p3, p4⟩ := hc2 k hkl
              obtain ⟨b, hb⟩ : ∃ b, b = r.l[k] := ⟨_, rfl⟩
              have hbs : b.v.pre.length ≤ 1000000 := HRS.out b (by rw [hb]; exact List.getElem_mem _)
              rw [← hb] at p0 p1 p2 p3 p4
              have HN : Hid (Rng.ends (flat (ls.take i) ++ r.l.take (k + 1)) = Rng.narrow (Rng.ends (flat (ls.take i) ++ r.l.take k)) b) := Lib.hid (by
                rw [List.take_succ_eq_append_getElem hkl, ← List.append_assoc, Rng.ends_snoc, hb])
              clear hc2 hb
              rw [hA2]
              go_wp2_with fail
              clear p0 p1 p2 p3 p4
              refine (narrow_walk ge _ _ b (HLE.out k).1 (HLE.out k).2 hbs _ (HEk.out.keep HEk.out.lt (below_one _ _))).mono ?_
              rintro e w5 ⟨rfl, hE5, hU5⟩
              have HB5 := Lib.hid ((HBk.out.trans ((below_one _ _).mono (Nat.le_of_lt HEk.out.lt))).trans hU5.1)
              have HE5 := Lib.hid hE5
              clear hE5 hU5
              rw [← hA2]
              go_wp2
              go_roundw
              case rel => exact ⟨k + 1, by go_num, by omega, Lib.hid (by rw [HN.out]; exact HE5.out), HB5⟩
              case measure => simp [intOf]; omega
          · have hk1 : ¬ (k : Int) < (r.l.length : Int) := by omega
            have HN : Hid (flat (ls.take i) ++ r.l.take k = flat (ls.take (i + 1))) := Lib.hid (by rw [HF.out, List.take_of_length_le (show r.l.length ≤ k from by omega)])
            go_wp2
            go_roundw
            case rel => exact ⟨i + 1, by go_num, by omega, by rw [← HN.out]; exact HEk, Lib.hid (HB.out.trans HBk.out)⟩
            case measure => simp [intOf]; omega
    · have HF : Hid (flat (ls.take i) = flat ls) := Lib.hid (by rw [List.take_of_length_le (by omega)])
      have hi1 : ¬ (i : Int) < (ls.length : Int) := by omega
      go_wp2
      refine bodyPost_end (v := .tuple #[]) (by simp [results, Tryz.results43, go_sem]) rfl ?_
      rw [HF.out] at HEi
      exact ⟨rfl, HEi.out, HB.out⟩
end Go.Proofs.YthjombepcmebfaaGreatDoor
