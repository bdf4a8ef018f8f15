/- The walk of RangesBoth. -/
import Derived.Test.YthjombepcmebfaaGreatDoorGRngC
import Derived.Test.YthjombepcmebfaaGreatDoorGRngB
import Derived.Test.YthjombepcmebfaaGreatDoorGSemB
namespace Go.Proofs.YthjombepcmebfaaGreatDoor
open Go.RowKit
set_option linter.unusedVariables false

structure MB (w W : World) (g : Nat) (v : Sem.Ver) (A B D : Option Addr) (a b n : List Rng.Bd) : Prop where
  v : VerAt W g v
  a : Bds W W.heap.size A a
  b : Bds W W.heap.size B b
  n : Bds W W.heap.size D n
  bel : Below w.heap.size w W
theorem MB.call {w W W' : World} {g : Nat} {v : Sem.Ver} {A B D : Option Addr} {a b n : List Rng.Bd} (h : MB w W g v A B D a b n) (hb : Below W.heap.size W W') : MB w W' g v A B D a b n := ⟨h.v.next hb, h.a.next hb, h.b.next hb, h.n.next hb, below_next h.bel hb⟩
theorem MB.drew {w W : World} {g : Nat} {v : Sem.Ver} {A B D : Option Addr} {a b n : List Rng.Bd} (h : MB w W g v A B D a b n) : MB w W.drew g v A B D a b n := ⟨h.v, h.a, h.b, h.n, h.bel.drew⟩

theorem normal_pre {l : List Rng.Bd} (h : ∀ x ∈ l, x.v.pre.length ≤ 1000000) : ∀ x ∈ Rng.normal l, x.v.pre.length ≤ 1000000 := by
  have hl : ∀ x, (Rng.best 1 5 (Rng.low l)).map Rng.least = some x → x.v.pre.length ≤ 1000000 := fun x hx => by
    cases hq : Rng.best 1 5 (Rng.low l) with
    | none => rw [hq] at hx; cases hx
    | some y =>
      rw [hq] at hx
      obtain rfl : Rng.least y = x := by simpa using hx
      obtain ⟨⟨c, hc, rfl⟩, _⟩ := Rng.low_mem.1 (Rng.best_mem hq)
      rw [Rng.least_v]; exact fix_len (h c hc)
  have hh : ∀ x, (Rng.best (-1) 1 (Rng.high l)).map Rng.most = some x → x.v.pre.length ≤ 1000000 := fun x hx => by
    cases hq : Rng.best (-1) 1 (Rng.high l) with
    | none => rw [hq] at hx; cases hx
    | some y =>
      rw [hq] at hx
      obtain rfl : Rng.most y = x := by simpa using hx
      obtain ⟨⟨c, hc, rfl⟩, _⟩ := Rng.high_mem.1 (Rng.best_mem hq)
      rw [Rng.most_v]; exact fix_len (h c hc)
  unfold Rng.normal
  intro x hx
  cases h1 : (Rng.best 1 5 (Rng.low l)).map Rng.least with
  | none =>
    rw [h1] at hx
    cases h2 : (Rng.best (-1) 1 (Rng.high l)).map Rng.most with
    | none => rw [h2] at hx; cases hx
    | some q =>
      rw [h2] at hx
      obtain rfl : x = q := by simpa [Rng.close] using hx
      exact hh _ h2
  | some p =>
    rw [h1] at hx
    cases h2 : (Rng.best (-1) 1 (Rng.high l)).map Rng.most with
    | none =>
      rw [h2] at hx
      obtain rfl : x = p := by simpa [Rng.close] using hx
      exact hl _ h1
    | some q =>
      rw [h2] at hx
      unfold Rng.close at hx
      simp only at hx
      split at hx
      · simp only [List.mem_cons, List.not_mem_nil, or_false] at hx
        rcases hx with rfl | rfl
        · exact hl _ h1
        · exact hh _ h2
      · split at hx
        · obtain rfl : x = ⟨3, p.v⟩ := by simpa using hx
          exact hl p h1
        · obtain rfl : x = Rng.nil := by simpa using hx
          decide

def bothT (v : Sem.Ver) (A B D : Option Addr) (ca cb d : Nat) (a b n : List Rng.Bd) (y : Bool) : Nat → Want
  | 0 => .val (.agg #[.int .i64 v.maj, .int .i64 v.min, .int .i64 v.pat, .string ⟨v.pre.toArray⟩])
  | 1 => .val (.slice D n.length d)
  | 2 => .val (.bool y)
  | 3 => .val (.agg #[.int .i64 v.maj, .int .i64 v.min, .int .i64 v.pat, .string ⟨v.pre.toArray⟩])
  | 4 => .val (.slice A a.length ca)
  | 5 => .val (.bool true)
  | 6 => .val (.bool true)
  | 7 => .val (.agg #[.int .i64 v.maj, .int .i64 v.min, .int .i64 v.pat, .string ⟨v.pre.toArray⟩])
  | 8 => .val (.slice B b.length cb)
  | 9 => .val (.bool y)
  | 10 => .val (.bool y)
  | 11 => .val (.bool true)
  | 12 => .val (.bool true)
  | 13 => .val (.slice D n.length d)
  | 14 => .val (.int .i64 n.length)
  | 15 => .val (.bool true)
  | 16 => .val (.bool true)
  | 17 => .val (.bool true)
  | 18 => .val (.bool true)
  | 19 => .val (.bool true)
  | 20 => .val (.bool true)
  | _ => .any

def bothF (v : Sem.Ver) (A B D : Option Addr) (ca cb d : Nat) (a b n : List Rng.Bd) (y : Bool) : Nat → Want
  | 0 => .val (.agg #[.int .i64 v.maj, .int .i64 v.min, .int .i64 v.pat, .string ⟨v.pre.toArray⟩])
  | 1 => .val (.slice D n.length d)
  | 2 => .val (.bool false)
  | 3 => .val (.agg #[.int .i64 v.maj, .int .i64 v.min, .int .i64 v.pat, .string ⟨v.pre.toArray⟩])
  | 4 => .val (.slice A a.length ca)
  | 5 => .val (.bool false)
  | 6 => .val (.bool false)
  | 7 => .any
  | 8 => .any
  | 9 => .any
  | 10 => .val (.bool false)
  | 11 => .val (.bool true)
  | 12 => .val (.bool true)
  | 13 => .val (.slice D n.length d)
  | 14 => .val (.int .i64 n.length)
  | 15 => .val (.bool true)
  | 16 => .val (.bool true)
  | 17 => .val (.bool true)
  | 18 => .val (.bool true)
  | 19 => .val (.bool true)
  | 20 => .val (.bool true)
  | _ => .any

set_option maxRecDepth 100000 in
set_option maxHeartbeats 8000000 in
theorem rngBoth_walk (v : Sem.Ver) (A : Option Addr) (ca : Nat) (a : List Rng.Bd) (B : Option Addr) (cb : Nat) (b : List Rng.Bd) (w : World) (hA : Bds w w.heap.size A a) (hB : Bds w w.heap.size B b) (hca : a.length ≤ ca) (hcb : b.length ≤ cb) (hv : v.pre.length ≤ 140737488351232) (hg : RGlobs w) :
    Calls Tryz.prog 8 #[verV v, .slice A a.length ca, .slice B b.length cb] w fun e w' => e = .returned (.bool true) ∧ Below w.heap.size w w' := by
  have hV : verV v = .agg #[.int .i64 v.maj, .int .i64 v.min, .int .i64 v.pat, .string ⟨v.pre.toArray⟩] := rfl
  rw [hV]
  clear hV
  have hb1 := below_one w (.cells #[.int .i64 v.maj, .int .i64 v.min, .int .i64 v.pat, .string ⟨v.pre.toArray⟩] 40)
  have hA1 := hA.next hb1
  have hB1 := hB.next hb1
  have hls := bdss_made (w.alloc (.cells #[.int .i64 v.maj, .int .i64 v.min, .int .i64 v.pat, .string ⟨v.pre.toArray⟩] 40)) [⟨A, a, ca⟩, ⟨B, b, cb⟩] (w.heap.size + 1) (by simp) (fun r hr => by
    simp only [List.mem_cons, List.not_mem_nil, or_false] at hr
    rcases hr with rfl | rfl
    · exact ⟨hA1, hca⟩
    · exact ⟨hB1, hcb⟩)
  have HLS : Hid (Bdss ((w.alloc (.cells #[.int .i64 v.maj, .int .i64 v.min, .int .i64 v.pat, .string ⟨v.pre.toArray⟩] 40)).alloc (.cells #[.slice A a.length ca, .slice B b.length cb] 23)) ((w.alloc (.cells #[.int .i64 v.maj, .int .i64 v.min, .int .i64 v.pat, .string ⟨v.pre.toArray⟩] 40)).alloc (.cells #[.slice A a.length ca, .slice B b.length cb] 23)).heap.size (some ⟨w.heap.size + 1, 0, none⟩) [⟨A, a, ca⟩, ⟨B, b, cb⟩]) := Lib.hid hls
  have hbw := below_new hb1 (.cells #[.slice A a.length ca, .slice B b.length cb] 23)
  have HV0 := Lib.hid ((ver_new w v).next (below_one _ (.cells #[.slice A a.length ca, .slice B b.length cb] 23)))
  have HA0 := Lib.hid (hA.next hbw)
  have HB0 := Lib.hid (hB.next hbw)
  have HG := Lib.hid hg
  clear hls hA1 hB1 hb1 hA hB hg
  go_enter Tryz.func8, Tryz.ntmps8
  go_wp2_with fail
  refine (light_walk (some ⟨w.heap.size + 1, 0, none⟩) 2 [⟨A, a, ca⟩, ⟨B, b, cb⟩] _ HLS.out).mono ?_
  rintro e w1 ⟨he, rfl⟩
  generalize hWW : (w.alloc (.cells #[.int .i64 v.maj, .int .i64 v.min, .int .i64 v.pat, .string ⟨v.pre.toArray⟩] 40)).alloc (.cells #[.slice A a.length ca, .slice B b.length cb] 23) = W0 at HV0 HA0 HB0 hbw ⊢
  clear hWW HLS
  cases hL : light [⟨A, a, ca⟩, ⟨B, b, cb⟩]
  · rw [hL] at he
    subst he
    go_wp2_with fail
    refine (rawake_walk _ (HG.out.next hbw)).mono ?_
    rintro e w2 ⟨rfl, hb2⟩
    go_wp2
    go_ret
    exact ⟨rfl, below_next hbw hb2⟩
  · rw [hL] at he
    subst he
    obtain ⟨⟨hla, hpa⟩, ⟨hlb, hpb⟩⟩ := light_two hL
    have HPA : Hid (∀ x ∈ a, x.v.pre.length ≤ 1000000) := Lib.hid (fun x hx => Nat.le_trans (hpa x hx) (by decide))
    have HPB : Hid (∀ x ∈ b, x.v.pre.length ≤ 1000000) := Lib.hid (fun x hx => Nat.le_trans (hpb x hx) (by decide))
    have HLA : Hid (a.length ≤ 60) := Lib.hid hla
    have HLB : Hid (b.length ≤ 60) := Lib.hid hlb
    clear hL hla hpa hlb hpb
    obtain ⟨z0, y0, y1, y2, y3⟩ := HV0.out
    go_wp2_with fail
    clear z0 y0 y1 y2 y3
    refine (check_walk v (by omega) _).mono ?_
    rintro e w2 ⟨he, hb2⟩
    have HV2 := Lib.hid (HV0.out.next hb2)
    have HA2 := Lib.hid (HA0.out.next hb2)
    have HB2 := Lib.hid (HB0.out.next hb2)
    have hbw2 := below_next hbw hb2
    clear HV0 HA0 HB0 hb2 hbw
    cases hm : Sem.may v
    · have hc0 : chk v = 40 := by rw [chk, hm, if_neg (by simp)]
      rw [hc0] at he
      subst he
      go_wp2_with fail
      refine (rawake_walk _ (HG.out.next hbw2)).mono ?_
      rintro e w3 ⟨rfl, hb3⟩
      go_wp2
      go_ret
      exact ⟨rfl, below_next hbw2 hb3⟩
    · have hc0 : chk v = 0 := by rw [chk, if_pos hm]
      rw [hc0] at he
      subst he
      have hvl := ((Sem.may_iff v).1 hm).2.2.2.1
      have HMN : Hid (Rng.meets v (Rng.normal (a ++ b)) = (Rng.meets v a && Rng.meets v b)) := Lib.hid (by rw [Rng.meets_normal hm, Rng.meets_append])
      have hls := bdss_made w2 [⟨A, a, ca⟩, ⟨B, b, cb⟩] w2.heap.size rfl (fun r hr => by
        simp only [List.mem_cons, List.not_mem_nil, or_false] at hr
        rcases hr with rfl | rfl
        · exact ⟨HA2.out, hca⟩
        · exact ⟨HB2.out, hcb⟩)
      have hnw := normal_walk (some ⟨w2.heap.size, 0, none⟩) 2 [⟨A, a, ca⟩, ⟨B, b, cb⟩] (w2.alloc (.cells #[.slice A a.length ca, .slice B b.length cb] 23)) hls (by simp) (fun r hr => by
        simp only [List.mem_cons, List.not_mem_nil, or_false] at hr
        rcases hr with rfl | rfl
        · have := HLA.out; show a.length ≤ _; omega
        · have := HLB.out; show b.length ≤ _; omega) (fun r hr => by
        simp only [List.mem_cons, List.not_mem_nil, or_false] at hr
        rcases hr with rfl | rfl
        · exact HPA.out
        · exact HPB.out)
      rw [show flat [⟨A, a, ca⟩, ⟨B, b, cb⟩] = a ++ b from by simp [flat]] at hnw
      have HNW := Lib.hid hnw
      clear hls hnw hc0 hm
      go_wp2_with fail
      refine HNW.out.mono ?_
      rintro e w3 ⟨D, d, rfl, hd, hD, hb3⟩
      have hnl := Rng.normal_len (a ++ b)
      have hnp : ∀ x ∈ Rng.normal (a ++ b), x.v.pre.length ≤ 1000000 := normal_pre (fun x hx => by
        rcases List.mem_append.1 hx with h | h
        · exact HPA.out x h
        · exact HPB.out x h)
      have HNP := Lib.hid hnp
      clear HNW hnp
      obtain ⟨n, hn⟩ : ∃ n, n = Rng.normal (a ++ b) := ⟨_, rfl⟩
      rw [← hn] at HMN hnl HNP hd hD ⊢
      clear hn
      have HJ0 : MB w w3 w.heap.size v A B D a b n := ⟨(HV2.out.next (below_one _ _)).next hb3, (HA2.out.next (below_one _ _)).next hb3, (HB2.out.next (below_one _ _)).next hb3, hD, below_next (below_new hbw2 _) hb3⟩
      clear HV2 HA2 HB2 hb3 hD hbw2
      go_wp2_with fail
      have hln : decide ((n.length : Int) ≤ 2) = true := decide_eq_true (by omega)
      obtain ⟨y, hy⟩ : ∃ y, y = Rng.meets v b := ⟨_, rfl⟩
      have HY := Lib.hid hy
      rw [← hy] at HMN
      clear hy
      cases hx : Rng.meets v a
      · rw [hx] at HMN
        have HX := Lib.hid hx
        clear hx
        simp only [Bool.false_and] at HMN
        refine wp_orders (rs := [0, 1, 2, 3, 4, 5, 6, 7, 8, 9, 10, 11, 12, 13, 14, 15, 16, 17, 18, 19, 20])
          (fun u' => { tmps := #[.agg #[.int .i64 v.maj, .int .i64 v.min, .int .i64 v.pat, .string ⟨v.pre.toArray⟩], .slice A a.length ca, .slice B b.length cb, .pointer (some ⟨w.heap.size, 0, none⟩), undef, undef, u' 20, .slice D n.length d, .slice A a.length ca, .slice B b.length cb, .slice (some ⟨w.heap.size + 1, 0, none⟩) 2 2, .bool true, .bool false, .bool false, .agg #[.int .i64 v.maj, .int .i64 v.min, .int .i64 v.pat, .string ⟨v.pre.toArray⟩], .int .i64 0, .bool false, .bool false, undef, .slice A a.length ca, .slice B b.length cb, .slice (some ⟨w2.heap.size, 0, none⟩) 2 2, .slice D n.length d, u' 0, u' 1, u' 2, u' 3, u' 4, u' 5, u' 6, u' 7, u' 8, u' 9, u' 10, u' 11, u' 12, u' 13, u' 14, u' 15, u' 16, u' 17, u' 18, u' 19], defers := [] })
          (fun j => cond (Nat.beq j 20) (.bool false) undef) (bothF v A B D ca cb d a b n y) (fun W => MB w W w.heap.size v A B D a b n) (by kernel_rfl) (by kernel_rfl) (by kernel_rfl) HJ0.drew ?_ ?_
        refine StepsAt.cons _ rfl (fun u' W K' hJ hd hK => ?_) ?_
        · skip
          obtain ⟨z0, y0, y1, y2, y3⟩ := hJ.v
          refine step_value (v := .agg #[.int .i64 v.maj, .int .i64 v.min, .int .i64 v.pat, .string ⟨v.pre.toArray⟩]) (W' := W) rfl ?_ (hK.out _ _ rfl hJ (Below.refl _ _))
          try dsimp only
          go_simp
        refine StepsAt.cons _ rfl (fun u' W K' hJ hd hK => ?_) ?_
        · skip
          exact step_value rfl (run_mv (.tmp 7) rfl W) (hK.out _ _ rfl hJ (Below.refl _ _))
        refine StepsAt.cons _ rfl (fun u' W K' hJ hd hK => ?_) ?_
        · skip
          have d0 : u' 0 = .agg #[.int .i64 v.maj, .int .i64 v.min, .int .i64 v.pat, .string ⟨v.pre.toArray⟩] := hd 0 (by kernel_rfl)
          have d1 : u' 1 = .slice D n.length d := hd 1 (by kernel_rfl)
          refine step_enter (f := 20) (args := #[.agg #[.int .i64 v.maj, .int .i64 v.min, .int .i64 v.pat, .string ⟨v.pre.toArray⟩], .slice D n.length d]) (W' := W) rfl ?_ ((meets_walk v D d n W hJ.n (by omega) HNP.out (by have := HLA.out; have := HLB.out; omega)).mono fun e w' h => ⟨_, h.1, hK.out _ _ (by rw [HMN.out]; rfl) (hJ.call h.2) h.2⟩)
          try dsimp only
          go_simp
        refine StepsAt.cons _ rfl (fun u' W K' hJ hd hK => ?_) ?_
        · skip
          obtain ⟨z0, y0, y1, y2, y3⟩ := hJ.v
          refine step_value (v := .agg #[.int .i64 v.maj, .int .i64 v.min, .int .i64 v.pat, .string ⟨v.pre.toArray⟩]) (W' := W) rfl ?_ (hK.out _ _ rfl hJ (Below.refl _ _))
          try dsimp only
          go_simp
        refine StepsAt.cons _ rfl (fun u' W K' hJ hd hK => ?_) ?_
        · skip
          exact step_value rfl (run_mv (.tmp 1) rfl W) (hK.out _ _ rfl hJ (Below.refl _ _))
        refine StepsAt.cons _ rfl (fun u' W K' hJ hd hK => ?_) ?_
        · skip
          have d0 : u' 3 = .agg #[.int .i64 v.maj, .int .i64 v.min, .int .i64 v.pat, .string ⟨v.pre.toArray⟩] := hd 3 (by kernel_rfl)
          have d1 : u' 4 = .slice A a.length ca := hd 4 (by kernel_rfl)
          refine step_enter (f := 20) (args := #[.agg #[.int .i64 v.maj, .int .i64 v.min, .int .i64 v.pat, .string ⟨v.pre.toArray⟩], .slice A a.length ca]) (W' := W) rfl ?_ ((meets_walk v A ca a W hJ.a (by omega) HPA.out (by have := HLA.out; have := HLB.out; omega)).mono fun e w' h => ⟨_, h.1, hK.out _ _ (by rw [HX.out]; rfl) (hJ.call h.2) h.2⟩)
          try dsimp only
          go_simp
        refine StepsAt.cons _ rfl (fun u' W K' hJ hd hK => ?_) ?_
        · skip
          have dq := hd 5 (by kernel_rfl)
          exact step_value rfl (run_mv (.tmp 28) rfl W) (hK.out _ _ dq hJ (Below.refl _ _))
        refine StepsAt.cons _ rfl (fun u' W K' hJ hd hK => ?_) ?_
        · skip
          have dg : u' 6 = .bool false := hd 6 (by kernel_rfl)
          exact step_skip (by simp [Region.wanted, yielded, dg]) (hK.out _ _ trivial hJ (Below.refl _ _))
        refine StepsAt.cons _ rfl (fun u' W K' hJ hd hK => ?_) ?_
        · skip
          have dg : u' 6 = .bool false := hd 6 (by kernel_rfl)
          exact step_skip (by simp [Region.wanted, yielded, dg]) (hK.out _ _ trivial hJ (Below.refl _ _))
        refine StepsAt.cons _ rfl (fun u' W K' hJ hd hK => ?_) ?_
        · skip
          have dg : u' 6 = .bool false := hd 6 (by kernel_rfl)
          exact step_skip (by simp [Region.wanted, yielded, dg]) (hK.out _ _ trivial hJ (Below.refl _ _))
        refine StepsAt.cons _ rfl (fun u' W K' hJ hd hK => ?_) ?_
        · skip
          have d6 : u' 6 = .bool false := hd 6 (by kernel_rfl)
          refine step_value (v := .bool false) (W' := W) rfl ?_ (hK.out _ _ rfl hJ (Below.refl _ _))
          try dsimp only
          go_simp
        refine StepsAt.cons _ rfl (fun u' W K' hJ hd hK => ?_) ?_
        · skip
          have d2 : u' 2 = .bool false := hd 2 (by kernel_rfl)
          have d10 : u' 10 = .bool false := hd 10 (by kernel_rfl)
          refine step_value (v := .bool true) (W' := W) rfl ?_ (hK.out _ _ rfl hJ (Below.refl _ _))
          try dsimp only
          go_simp
        refine StepsAt.cons _ rfl (fun u' W K' hJ hd hK => ?_) ?_
        · skip
          have dq := hd 11 (by kernel_rfl)
          exact step_value rfl (run_mv (.tmp 34) rfl W) (hK.out _ _ dq hJ (Below.refl _ _))
        refine StepsAt.cons _ rfl (fun u' W K' hJ hd hK => ?_) ?_
        · skip
          have dg : u' 12 = .bool true := hd 12 (by kernel_rfl)
          exact step_value (by simp [Region.wanted, yielded, dg]) (run_mv (.tmp 7) rfl W) (hK.out _ _ rfl hJ (Below.refl _ _))
        refine StepsAt.cons _ rfl (fun u' W K' hJ hd hK => ?_) ?_
        · skip
          have dg : u' 12 = .bool true := hd 12 (by kernel_rfl)
          have d13 : u' 13 = .slice D n.length d := hd 13 (by kernel_rfl)
          refine step_value (v := .int .i64 n.length) (W' := W) ?_ ?_ (hK.out _ _ rfl hJ (Below.refl _ _))
          · simp [Region.wanted, yielded, dg]
          · try dsimp only
            go_simp
        refine StepsAt.cons _ rfl (fun u' W K' hJ hd hK => ?_) ?_
        · skip
          have dg : u' 12 = .bool true := hd 12 (by kernel_rfl)
          have d14 : u' 14 = .int .i64 n.length := hd 14 (by kernel_rfl)
          refine step_value (v := .bool true) (W' := W) ?_ ?_ (hK.out _ _ rfl hJ (Below.refl _ _))
          · simp [Region.wanted, yielded, dg]
          · try dsimp only
            go_simp
        refine StepsAt.cons _ rfl (fun u' W K' hJ hd hK => ?_) ?_
        · skip
          have dg : u' 12 = .bool true := hd 12 (by kernel_rfl)
          have d15 : u' 15 = .bool true := hd 15 (by kernel_rfl)
          refine step_value (v := .bool true) (W' := W) rfl ?_ (hK.out _ _ rfl hJ (Below.refl _ _))
          try dsimp only
          go_simp
        refine StepsAt.cons _ rfl (fun u' W K' hJ hd hK => ?_) ?_
        · skip
          have dq := hd 16 (by kernel_rfl)
          exact step_value rfl (run_mv (.tmp 39) rfl W) (hK.out _ _ dq hJ (Below.refl _ _))
        refine StepsAt.cons _ rfl (fun u' W K' hJ hd hK => ?_) ?_
        · skip
          have dg : u' 17 = .bool true := hd 17 (by kernel_rfl)
          refine step_enter (f := 11) (args := #[]) (W' := W) ?_ ?_ ((rawake_walk W (HG.out.next hJ.bel)).mono fun e w' h => ⟨_, h.1, hK.out _ _ rfl (hJ.call h.2) h.2⟩)
          · simp [Region.wanted, yielded, dg]
          · try dsimp only
            go_simp
        refine StepsAt.cons _ rfl (fun u' W K' hJ hd hK => ?_) ?_
        · skip
          have dg : u' 17 = .bool true := hd 17 (by kernel_rfl)
          have d18 : u' 18 = .bool true := hd 18 (by kernel_rfl)
          refine step_value (v := .bool true) (W' := W) rfl ?_ (hK.out _ _ rfl hJ (Below.refl _ _))
          try dsimp only
          go_simp
        refine StepsAt.cons _ rfl (fun u' W K' hJ hd hK => ?_) StepsAt.nil
        · skip
          have d19 : u' 19 = .bool true := hd 19 (by kernel_rfl)
          exact step_value rfl (run_as (.tmp 42) rfl W) (hK.out _ _ d19 hJ (Below.refl _ _))
        intro u' W5 hJ hok
        have d1 : u' 20 = .bool true := hok 20 (by decide)
        have hbel := hJ.bel
        try dsimp only
        rw [d1]
        go_wp2
        go_ret
        exact ⟨rfl, hbel⟩
      · rw [hx] at HMN
        have HX := Lib.hid hx
        clear hx
        simp only [Bool.true_and] at HMN
        refine wp_orders (rs := [0, 1, 2, 3, 4, 5, 6, 7, 8, 9, 10, 11, 12, 13, 14, 15, 16, 17, 18, 19, 20])
          (fun u' => { tmps := #[.agg #[.int .i64 v.maj, .int .i64 v.min, .int .i64 v.pat, .string ⟨v.pre.toArray⟩], .slice A a.length ca, .slice B b.length cb, .pointer (some ⟨w.heap.size, 0, none⟩), undef, undef, u' 20, .slice D n.length d, .slice A a.length ca, .slice B b.length cb, .slice (some ⟨w.heap.size + 1, 0, none⟩) 2 2, .bool true, .bool false, .bool false, .agg #[.int .i64 v.maj, .int .i64 v.min, .int .i64 v.pat, .string ⟨v.pre.toArray⟩], .int .i64 0, .bool false, .bool false, undef, .slice A a.length ca, .slice B b.length cb, .slice (some ⟨w2.heap.size, 0, none⟩) 2 2, .slice D n.length d, u' 0, u' 1, u' 2, u' 3, u' 4, u' 5, u' 6, u' 7, u' 8, u' 9, u' 10, u' 11, u' 12, u' 13, u' 14, u' 15, u' 16, u' 17, u' 18, u' 19], defers := [] })
          (fun j => cond (Nat.beq j 20) (.bool false) undef) (bothT v A B D ca cb d a b n y) (fun W => MB w W w.heap.size v A B D a b n) (by kernel_rfl) (by kernel_rfl) (by kernel_rfl) HJ0.drew ?_ ?_
        refine StepsAt.cons _ rfl (fun u' W K' hJ hd hK => ?_) ?_
        · skip
          obtain ⟨z0, y0, y1, y2, y3⟩ := hJ.v
          refine step_value (v := .agg #[.int .i64 v.maj, .int .i64 v.min, .int .i64 v.pat, .string ⟨v.pre.toArray⟩]) (W' := W) rfl ?_ (hK.out _ _ rfl hJ (Below.refl _ _))
          try dsimp only
          go_simp
        refine StepsAt.cons _ rfl (fun u' W K' hJ hd hK => ?_) ?_
        · skip
          exact step_value rfl (run_mv (.tmp 7) rfl W) (hK.out _ _ rfl hJ (Below.refl _ _))
        refine StepsAt.cons _ rfl (fun u' W K' hJ hd hK => ?_) ?_
        · skip
          have d0 : u' 0 = .agg #[.int .i64 v.maj, .int .i64 v.min, .int .i64 v.pat, .string ⟨v.pre.toArray⟩] := hd 0 (by kernel_rfl)
          have d1 : u' 1 = .slice D n.length d := hd 1 (by kernel_rfl)
          refine step_enter (f := 20) (args := #[.agg #[.int .i64 v.maj, .int .i64 v.min, .int .i64 v.pat, .string ⟨v.pre.toArray⟩], .slice D n.length d]) (W' := W) rfl ?_ ((meets_walk v D d n W hJ.n (by omega) HNP.out (by have := HLA.out; have := HLB.out; omega)).mono fun e w' h => ⟨_, h.1, hK.out _ _ (by rw [HMN.out]; rfl) (hJ.call h.2) h.2⟩)
          try dsimp only
          go_simp
        refine StepsAt.cons _ rfl (fun u' W K' hJ hd hK => ?_) ?_
        · skip
          obtain ⟨z0, y0, y1, y2, y3⟩ := hJ.v
          refine step_value (v := .agg #[.int .i64 v.maj, .int .i64 v.min, .int .i64 v.pat, .string ⟨v.pre.toArray⟩]) (W' := W) rfl ?_ (hK.out _ _ rfl hJ (Below.refl _ _))
          try dsimp only
          go_simp
        refine StepsAt.cons _ rfl (fun u' W K' hJ hd hK => ?_) ?_
        · skip
          exact step_value rfl (run_mv (.tmp 1) rfl W) (hK.out _ _ rfl hJ (Below.refl _ _))
        refine StepsAt.cons _ rfl (fun u' W K' hJ hd hK => ?_) ?_
        · skip
          have d0 : u' 3 = .agg #[.int .i64 v.maj, .int .i64 v.min, .int .i64 v.pat, .string ⟨v.pre.toArray⟩] := hd 3 (by kernel_rfl)
          have d1 : u' 4 = .slice A a.length ca := hd 4 (by kernel_rfl)
          refine step_enter (f := 20) (args := #[.agg #[.int .i64 v.maj, .int .i64 v.min, .int .i64 v.pat, .string ⟨v.pre.toArray⟩], .slice A a.length ca]) (W' := W) rfl ?_ ((meets_walk v A ca a W hJ.a (by omega) HPA.out (by have := HLA.out; have := HLB.out; omega)).mono fun e w' h => ⟨_, h.1, hK.out _ _ (by rw [HX.out]; rfl) (hJ.call h.2) h.2⟩)
          try dsimp only
          go_simp
        refine StepsAt.cons _ rfl (fun u' W K' hJ hd hK => ?_) ?_
        · skip
          have dq := hd 5 (by kernel_rfl)
          exact step_value rfl (run_mv (.tmp 28) rfl W) (hK.out _ _ dq hJ (Below.refl _ _))
        refine StepsAt.cons _ rfl (fun u' W K' hJ hd hK => ?_) ?_
        · skip
          obtain ⟨z0, y0, y1, y2, y3⟩ := hJ.v
          have dg : u' 6 = .bool true := hd 6 (by kernel_rfl)
          refine step_value (v := .agg #[.int .i64 v.maj, .int .i64 v.min, .int .i64 v.pat, .string ⟨v.pre.toArray⟩]) (W' := W) ?_ ?_ (hK.out _ _ rfl hJ (Below.refl _ _))
          · simp [Region.wanted, yielded, dg]
          · try dsimp only
            go_simp
        refine StepsAt.cons _ rfl (fun u' W K' hJ hd hK => ?_) ?_
        · skip
          have dg : u' 6 = .bool true := hd 6 (by kernel_rfl)
          exact step_value (by simp [Region.wanted, yielded, dg]) (run_mv (.tmp 2) rfl W) (hK.out _ _ rfl hJ (Below.refl _ _))
        refine StepsAt.cons _ rfl (fun u' W K' hJ hd hK => ?_) ?_
        · skip
          have dg : u' 6 = .bool true := hd 6 (by kernel_rfl)
          have d0 : u' 7 = .agg #[.int .i64 v.maj, .int .i64 v.min, .int .i64 v.pat, .string ⟨v.pre.toArray⟩] := hd 7 (by kernel_rfl)
          have d1 : u' 8 = .slice B b.length cb := hd 8 (by kernel_rfl)
          refine step_enter (f := 20) (args := #[.agg #[.int .i64 v.maj, .int .i64 v.min, .int .i64 v.pat, .string ⟨v.pre.toArray⟩], .slice B b.length cb]) (W' := W) ?_ ?_ ((meets_walk v B cb b W hJ.b (by omega) HPB.out (by have := HLA.out; have := HLB.out; omega)).mono fun e w' h => ⟨_, h.1, hK.out _ _ (by rw [← HY.out]; rfl) (hJ.call h.2) h.2⟩)
          · simp [Region.wanted, yielded, dg]
          · try dsimp only
            go_simp
        refine StepsAt.cons _ rfl (fun u' W K' hJ hd hK => ?_) ?_
        · skip
          have d6 : u' 6 = .bool true := hd 6 (by kernel_rfl)
          have d9 : u' 9 = .bool y := hd 9 (by kernel_rfl)
          refine step_value (v := .bool y) (W' := W) rfl ?_ (hK.out _ _ rfl hJ (Below.refl _ _))
          try dsimp only
          go_simp
        refine StepsAt.cons _ rfl (fun u' W K' hJ hd hK => ?_) ?_
        · skip
          have d2 : u' 2 = .bool y := hd 2 (by kernel_rfl)
          have d10 : u' 10 = .bool y := hd 10 (by kernel_rfl)
          have hyy : (y == y) = true := by simp
          refine step_value (v := .bool true) (W' := W) rfl ?_ (hK.out _ _ rfl hJ (Below.refl _ _))
          try dsimp only
          go_simp
        refine StepsAt.cons _ rfl (fun u' W K' hJ hd hK => ?_) ?_
        · skip
          have dq := hd 11 (by kernel_rfl)
          exact step_value rfl (run_mv (.tmp 34) rfl W) (hK.out _ _ dq hJ (Below.refl _ _))
        refine StepsAt.cons _ rfl (fun u' W K' hJ hd hK => ?_) ?_
        · skip
          have dg : u' 12 = .bool true := hd 12 (by kernel_rfl)
          exact step_value (by simp [Region.wanted, yielded, dg]) (run_mv (.tmp 7) rfl W) (hK.out _ _ rfl hJ (Below.refl _ _))
        refine StepsAt.cons _ rfl (fun u' W K' hJ hd hK => ?_) ?_
        · skip
          have dg : u' 12 = .bool true := hd 12 (by kernel_rfl)
          have d13 : u' 13 = .slice D n.length d := hd 13 (by kernel_rfl)
          refine step_value (v := .int .i64 n.length) (W' := W) ?_ ?_ (hK.out _ _ rfl hJ (Below.refl _ _))
          · simp [Region.wanted, yielded, dg]
          · try dsimp only
            go_simp
        refine StepsAt.cons _ rfl (fun u' W K' hJ hd hK => ?_) ?_
        · skip
          have dg : u' 12 = .bool true := hd 12 (by kernel_rfl)
          have d14 : u' 14 = .int .i64 n.length := hd 14 (by kernel_rfl)
          refine step_value (v := .bool true) (W' := W) ?_ ?_ (hK.out _ _ rfl hJ (Below.refl _ _))
          · simp [Region.wanted, yielded, dg]
          · try dsimp only
            go_simp
        refine StepsAt.cons _ rfl (fun u' W K' hJ hd hK => ?_) ?_
        · skip
          have dg : u' 12 = .bool true := hd 12 (by kernel_rfl)
          have d15 : u' 15 = .bool true := hd 15 (by kernel_rfl)
          refine step_value (v := .bool true) (W' := W) rfl ?_ (hK.out _ _ rfl hJ (Below.refl _ _))
          try dsimp only
          go_simp
        refine StepsAt.cons _ rfl (fun u' W K' hJ hd hK => ?_) ?_
        · skip
          have dq := hd 16 (by kernel_rfl)
          exact step_value rfl (run_mv (.tmp 39) rfl W) (hK.out _ _ dq hJ (Below.refl _ _))
        refine StepsAt.cons _ rfl (fun u' W K' hJ hd hK => ?_) ?_
        · skip
          have dg : u' 17 = .bool true := hd 17 (by kernel_rfl)
          refine step_enter (f := 11) (args := #[]) (W' := W) ?_ ?_ ((rawake_walk W (HG.out.next hJ.bel)).mono fun e w' h => ⟨_, h.1, hK.out _ _ rfl (hJ.call h.2) h.2⟩)
          · simp [Region.wanted, yielded, dg]
          · try dsimp only
            go_simp
        refine StepsAt.cons _ rfl (fun u' W K' hJ hd hK => ?_) ?_
        · skip
          have dg : u' 17 = .bool true := hd 17 (by kernel_rfl)
          have d18 : u' 18 = .bool true := hd 18 (by kernel_rfl)
          refine step_value (v := .bool true) (W' := W) rfl ?_ (hK.out _ _ rfl hJ (Below.refl _ _))
          try dsimp only
          go_simp
        refine StepsAt.cons _ rfl (fun u' W K' hJ hd hK => ?_) StepsAt.nil
        · skip
          have d19 : u' 19 = .bool true := hd 19 (by kernel_rfl)
          exact step_value rfl (run_as (.tmp 42) rfl W) (hK.out _ _ d19 hJ (Below.refl _ _))
        intro u' W5 hJ hok
        have d1 : u' 20 = .bool true := hok 20 (by decide)
        have hbel := hJ.bel
        try dsimp only
        rw [d1]
        go_wp2
        go_ret
        exact ⟨rfl, hbel⟩
end Go.Proofs.YthjombepcmebfaaGreatDoor
