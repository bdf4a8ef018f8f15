/- The walk of RangesMeets. -/
import Derived.Test.YthjombepcmebfaaGreatDoorGRngC
import Derived.Test.YthjombepcmebfaaGreatDoorGRngB
import Derived.Test.YthjombepcmebfaaGreatDoorGSemB
namespace Go.Proofs.YthjombepcmebfaaGreatDoor
open Go.RowKit
set_option linter.unusedVariables false

/-- A slice of bounds. -/
def Want.bds (n : List Rng.Bd) : Want := ⟨fun x w => ∃ (B : Option Addr) (c : Nat), x = .slice B n.length c ∧ Bds w w.heap.size B n, fun _ _ _ hb ⟨B, c, h1, h2⟩ => ⟨B, c, h1, h2.next hb⟩⟩

structure MJ (w W : World) (g : Nat) (v : Sem.Ver) (A : Option Addr) (l : List Rng.Bd) : Prop where
  v : VerAt W g v
  a : Bds W W.heap.size A l
  bel : Below w.heap.size w W
theorem MJ.call {w W W' : World} {g : Nat} {v : Sem.Ver} {A : Option Addr} {l : List Rng.Bd} (h : MJ w W g v A l) (hb : Below W.heap.size W W') : MJ w W' g v A l := ⟨h.v.next hb, h.a.next hb, below_next h.bel hb⟩
theorem MJ.drew {w W : World} {g : Nat} {v : Sem.Ver} {A : Option Addr} {l : List Rng.Bd} (h : MJ w W g v A l) : MJ w W.drew g v A l := ⟨h.v, h.a, h.bel.drew⟩

def meetsT (v : Sem.Ver) (A : Option Addr) (cap : Nat) (l : List Rng.Bd) (m : Bool) (n : List Rng.Bd) : Nat → Want
  | 0 => .val (.agg #[.int .i64 v.maj, .int .i64 v.min, .int .i64 v.pat, .string ⟨v.pre.toArray⟩])
  | 1 => .val (.slice A l.length cap)
  | 2 => .val (.bool m)
  | 3 => .val (.agg #[.int .i64 v.maj, .int .i64 v.min, .int .i64 v.pat, .string ⟨v.pre.toArray⟩])
  | 4 => .val (.slice A l.length cap)
  | 5 => .val (.bool m)
  | 6 => .val (.bool true)
  | 7 => .val (.bool true)
  | 8 => .val (.agg #[.int .i64 v.maj, .int .i64 v.min, .int .i64 v.pat, .string ⟨v.pre.toArray⟩])
  | 9 => .bds n
  | 10 => .val (.agg #[.int .i64 v.maj, .int .i64 v.min, .int .i64 v.pat, .string ⟨v.pre.toArray⟩])
  | 11 => .bds n
  | 12 => .val (.bool true)
  | 13 => .val (.bool true)
  | 14 => .val (.bool true)
  | 15 => .val (.bool true)
  | 16 => .val (.bool true)
  | 17 => .val (.bool true)
  | _ => .any

set_option maxRecDepth 100000 in
set_option maxHeartbeats 8000000 in
theorem rngMeets_walk (v : Sem.Ver) (A : Option Addr) (cap : Nat) (l : List Rng.Bd) (w : World) (hA : Bds w w.heap.size A l) (hcap : l.length ≤ cap) (hg : RGlobs w) :
    Calls Tryz.prog 5 #[verV v, .slice A l.length cap] w fun e w' => e = .returned (.bool true) ∧ Below w.heap.size w w' := by
  have hV : verV v = .agg #[.int .i64 v.maj, .int .i64 v.min, .int .i64 v.pat, .string ⟨v.pre.toArray⟩] := rfl
  rw [hV]
  clear hV
  have hb1 := below_one w (.cells #[.int .i64 v.maj, .int .i64 v.min, .int .i64 v.pat, .string ⟨v.pre.toArray⟩] 40)
  have hA1 := hA.next hb1
  have hls := bdss_made (w.alloc (.cells #[.int .i64 v.maj, .int .i64 v.min, .int .i64 v.pat, .string ⟨v.pre.toArray⟩] 40)) [⟨A, l, cap⟩] (w.heap.size + 1) (by simp) (fun r hr => by
    obtain rfl : r = ⟨A, l, cap⟩ := by simpa using hr
    exact ⟨hA1, hcap⟩)
  have HLS : Hid (Bdss ((w.alloc (.cells #[.int .i64 v.maj, .int .i64 v.min, .int .i64 v.pat, .string ⟨v.pre.toArray⟩] 40)).alloc (.cells #[.slice A l.length cap] 23)) ((w.alloc (.cells #[.int .i64 v.maj, .int .i64 v.min, .int .i64 v.pat, .string ⟨v.pre.toArray⟩] 40)).alloc (.cells #[.slice A l.length cap] 23)).heap.size (some ⟨w.heap.size + 1, 0, none⟩) [⟨A, l, cap⟩]) := Lib.hid hls
  have hone : ([⟨A, l, cap⟩] : List Row).length = 1 := rfl
  have hvz : (⟨v.pre.toArray⟩ : ByteArray).size = v.pre.length := size_list _
  clear hls hA1
  go_enter Tryz.func5, Tryz.ntmps5
  go_wp2_with fail
  refine (light_walk (some ⟨w.heap.size + 1, 0, none⟩) 1 [⟨A, l, cap⟩] _ HLS.out).mono ?_
  rintro e w1 ⟨he, rfl⟩
  cases hL : light [⟨A, l, cap⟩]
  · rw [hL] at he
    subst he
    have hbw := below_new hb1 (.cells #[.slice A l.length cap] 23)
    go_wp2_with fail
    refine (rawake_walk _ (hg.next hbw)).mono ?_
    rintro e w2 ⟨rfl, hb2⟩
    go_wp2
    go_ret
    exact ⟨rfl, below_next hbw hb2⟩
  · rw [hL] at he
    subst he
    have hbw := below_new hb1 (.cells #[.slice A l.length cap] 23)
    by_cases h100 : 100 < v.pre.length
    · have h101 : decide ((100 : Int) < (v.pre.length : Int)) = true := decide_eq_true (by omega)
      go_wp2_with fail
      refine (rawake_walk _ (hg.next hbw)).mono ?_
      rintro e w2 ⟨rfl, hb2⟩
      go_wp2
      go_ret
      exact ⟨rfl, below_next hbw hb2⟩
    · have h101 : decide ((100 : Int) < (v.pre.length : Int)) = false := decide_eq_false (by omega)
      obtain ⟨hl60, hpre⟩ := light_one hL
      have HP : Hid (∀ b ∈ l, b.v.pre.length ≤ 1000000) := Lib.hid (fun b hb => Nat.le_trans (hpre b hb) (by decide))
      have HL60 : Hid (l.length ≤ 60) := Lib.hid hl60
      clear hL hpre hl60
      go_wp2_with fail
      have HJ0 : MJ w ((w.alloc (.cells #[.int .i64 v.maj, .int .i64 v.min, .int .i64 v.pat, .string ⟨v.pre.toArray⟩] 40)).alloc (.cells #[.slice A l.length cap] 23)) w.heap.size v A l :=
        ⟨(ver_new w v).next (below_one _ _), hA.next hbw, hbw⟩
      have HG : Hid (RGlobs w) := Lib.hid hg
      clear hA hg hbw HLS hb1
      generalize hWW : (w.alloc (.cells #[.int .i64 v.maj, .int .i64 v.min, .int .i64 v.pat, .string ⟨v.pre.toArray⟩] 40)).alloc (.cells #[.slice A l.length cap] 23) = W0 at HJ0 ⊢
      clear hWW
      obtain ⟨m, hm⟩ : ∃ m, m = Rng.meets v l := ⟨_, rfl⟩
      have HM := Lib.hid hm
      clear hm
      have HNL : Hid ((Rng.near v).length ≤ 20) := Lib.hid (by unfold Rng.near; split <;> simp)
      obtain ⟨n, hn⟩ : ∃ n, n = Rng.near v := ⟨_, rfl⟩
      rw [← hn] at HNL
      have HN := Lib.hid hn
      clear hn
      refine wp_orders (rs := [0, 1, 2, 3, 4, 5, 6, 7, 8, 9, 10, 11, 12, 13, 14, 15, 16, 17])
        (fun u' => { tmps := #[.agg #[.int .i64 v.maj, .int .i64 v.min, .int .i64 v.pat, .string ⟨v.pre.toArray⟩], .slice A l.length cap, .pointer (some ⟨w.heap.size, 0, none⟩), undef, u' 17, .slice A l.length cap, .slice (some ⟨w.heap.size + 1, 0, none⟩) 1 1, .bool true, .bool false, .bool false, .pointer (some ⟨w.heap.size, 3, none⟩), .string ⟨v.pre.toArray⟩, .int .i64 v.pre.length, .bool false, .bool false, undef, u' 0, u' 1, u' 2, u' 3, u' 4, u' 5, u' 6, u' 7, u' 8, u' 9, u' 10, u' 11, u' 12, u' 13, u' 14, u' 15, u' 16], defers := [] })
        (fun j => cond (Nat.beq j 17) (.bool false) undef) (meetsT v A cap l m n) (fun W => MJ w W w.heap.size v A l) (by kernel_rfl) (by kernel_rfl) (by kernel_rfl) HJ0.drew ?_ ?_
      refine StepsAt.cons _ rfl (fun u' W K' hJ hd hK => ?_) ?_
      · skip
        obtain ⟨z0, y0, y1, y2, y3⟩ := hJ.v
        refine step_value (v := .agg #[.int .i64 v.maj, .int .i64 v.min, .int .i64 v.pat, .string ⟨v.pre.toArray⟩]) (W' := W) rfl ?_ (hK.out _ _ rfl hJ (Below.refl _ _))
        try dsimp only
        go_simp
      refine StepsAt.cons _ rfl (fun u' W K' hJ hd hK => ?_) ?_
      · skip
        exact step_value rfl (run_mv (.tmp 1) rfl W) (hK.out _ _ rfl hJ (Below.refl _ _))
      refine StepsAt.cons _ rfl (fun u' W K' hJ hd hK => ?_) ?_
      · skip
        have d0 : u' 0 = .agg #[.int .i64 v.maj, .int .i64 v.min, .int .i64 v.pat, .string ⟨v.pre.toArray⟩] := hd 0 (by kernel_rfl)
        have d1 : u' 1 = .slice A l.length cap := hd 1 (by kernel_rfl)
        refine step_enter (f := 20) (args := #[.agg #[.int .i64 v.maj, .int .i64 v.min, .int .i64 v.pat, .string ⟨v.pre.toArray⟩], .slice A l.length cap]) (W' := W) rfl ?_ ((meets_walk v A cap l W hJ.a (by omega) HP.out (by have := HL60.out; omega)).mono fun e w' h => ⟨_, h.1, hK.out _ _ (by rw [HM.out]; rfl) (hJ.call h.2) h.2⟩)
        try dsimp only
        go_simp
      refine StepsAt.cons _ rfl (fun u' W K' hJ hd hK => ?_) ?_
      · skip
        obtain ⟨z0, y0, y1, y2, y3⟩ := hJ.v
        refine step_value (v := .agg #[.int .i64 v.maj, .int .i64 v.min, .int .i64 v.pat, .string ⟨v.pre.toArray⟩]) (W' := W) rfl ?_ (hK.out _ _ rfl hJ (Below.refl _ _))
        try dsimp only
        go_simp
      refine StepsAt.cons _ rfl (fun u' W K' hJ hd hK => ?_) ?_
      · skip
        exact step_value rfl (run_mv (.tmp 1) rfl W) (hK.out _ _ rfl hJ (Below.refl _ _))
      refine StepsAt.cons _ rfl (fun u' W K' hJ hd hK => ?_) ?_
      · skip
        have d0 : u' 3 = .agg #[.int .i64 v.maj, .int .i64 v.min, .int .i64 v.pat, .string ⟨v.pre.toArray⟩] := hd 3 (by kernel_rfl)
        have d1 : u' 4 = .slice A l.length cap := hd 4 (by kernel_rfl)
        refine step_enter (f := 21) (args := #[.agg #[.int .i64 v.maj, .int .i64 v.min, .int .i64 v.pat, .string ⟨v.pre.toArray⟩], .slice A l.length cap]) (W' := W) rfl ?_ ((rmeets_walk v A cap l W hJ.a (by omega) HP.out (by have := HL60.out; omega)).mono fun e w' h => ⟨_, h.1, hK.out _ _ (by rw [HM.out]; rfl) (hJ.call h.2) h.2⟩)
        try dsimp only
        go_simp
      refine StepsAt.cons _ rfl (fun u' W K' hJ hd hK => ?_) ?_
      · skip
        have d2 : u' 2 = .bool m := hd 2 (by kernel_rfl)
        have d5 : u' 5 = .bool m := hd 5 (by kernel_rfl)
        have hmm : (m == m) = true := by simp
        refine step_value (v := .bool true) (W' := W) rfl ?_ (hK.out _ _ rfl hJ (Below.refl _ _))
        try dsimp only
        go_simp
      refine StepsAt.cons _ rfl (fun u' W K' hJ hd hK => ?_) ?_
      · skip
        have d6 : u' 6 = .bool true := hd 6 (by kernel_rfl)
        exact step_value rfl (run_mv (.tmp 22) rfl W) (hK.out _ _ d6 hJ (Below.refl _ _))
      refine StepsAt.cons _ rfl (fun u' W K' hJ hd hK => ?_) ?_
      · skip
        obtain ⟨z0, y0, y1, y2, y3⟩ := hJ.v
        have d7 : u' 7 = .bool true := hd 7 (by kernel_rfl)
        refine step_value (v := .agg #[.int .i64 v.maj, .int .i64 v.min, .int .i64 v.pat, .string ⟨v.pre.toArray⟩]) (W' := W) ?_ ?_ (hK.out _ _ rfl hJ (Below.refl _ _))
        · simp [Region.wanted, yielded, d7]
        · try dsimp only
          go_simp
      refine StepsAt.cons _ rfl (fun u' W K' hJ hd hK => ?_) ?_
      · skip
        have d7 : u' 7 = .bool true := hd 7 (by kernel_rfl)
        have d0 : u' 8 = .agg #[.int .i64 v.maj, .int .i64 v.min, .int .i64 v.pat, .string ⟨v.pre.toArray⟩] := hd 8 (by kernel_rfl)
        refine step_enter (f := 22) (args := #[.agg #[.int .i64 v.maj, .int .i64 v.min, .int .i64 v.pat, .string ⟨v.pre.toArray⟩]]) (W' := W) ?_ ?_ ((near_walk v (by omega) W).mono fun e w' h => by
          obtain ⟨B, c, he, hc, hB, hb⟩ := h
          rw [← HN.out] at he hB
          exact ⟨_, he, hK.out _ _ ⟨B, c, rfl, hB⟩ (hJ.call hb) hb⟩)
        · simp [Region.wanted, yielded, d7]
        · try dsimp only
          go_simp
      refine StepsAt.cons _ rfl (fun u' W K' hJ hd hK => ?_) ?_
      · skip
        obtain ⟨z0, y0, y1, y2, y3⟩ := hJ.v
        have d7 : u' 7 = .bool true := hd 7 (by kernel_rfl)
        refine step_value (v := .agg #[.int .i64 v.maj, .int .i64 v.min, .int .i64 v.pat, .string ⟨v.pre.toArray⟩]) (W' := W) ?_ ?_ (hK.out _ _ rfl hJ (Below.refl _ _))
        · simp [Region.wanted, yielded, d7]
        · try dsimp only
          go_simp
      refine StepsAt.cons _ rfl (fun u' W K' hJ hd hK => ?_) ?_
      · skip
        have d7 : u' 7 = .bool true := hd 7 (by kernel_rfl)
        have d0 : u' 10 = .agg #[.int .i64 v.maj, .int .i64 v.min, .int .i64 v.pat, .string ⟨v.pre.toArray⟩] := hd 10 (by kernel_rfl)
        refine step_enter (f := 23) (args := #[.agg #[.int .i64 v.maj, .int .i64 v.min, .int .i64 v.pat, .string ⟨v.pre.toArray⟩]]) (W' := W) ?_ ?_ ((rnear_walk v (by omega) W).mono fun e w' h => by
          obtain ⟨B, c, he, hc, hB, hb⟩ := h
          rw [← HN.out] at he hB
          exact ⟨_, he, hK.out _ _ ⟨B, c, rfl, hB⟩ (hJ.call hb) hb⟩)
        · simp [Region.wanted, yielded, d7]
        · try dsimp only
          go_simp
      refine StepsAt.cons _ rfl (fun u' W K' hJ hd hK => ?_) ?_
      · skip
        have d7 : u' 7 = .bool true := hd 7 (by kernel_rfl)
        obtain ⟨B, b, e9, hB⟩ : ∃ (B : Option Addr) (c : Nat), u' 9 = .slice B n.length c ∧ Bds W W.heap.size B n := hd 9 (by kernel_rfl)
        obtain ⟨D, d, e11, hD⟩ : ∃ (B : Option Addr) (c : Nat), u' 11 = .slice B n.length c ∧ Bds W W.heap.size B n := hd 11 (by kernel_rfl)
        refine step_enter (f := 14) (args := #[.slice B n.length b, .slice D n.length d]) (W' := W) ?_ ?_ ((rsame_walk B D b d n n W hB hD (by have := HNL.out; omega)).mono fun e w' h => ⟨_, h.1, hK.out _ _ (by rw [decide_eq_true rfl]; rfl) (hJ.call h.2) h.2⟩)
        · simp [Region.wanted, yielded, d7]
        · try dsimp only
          go_simp
      refine StepsAt.cons _ rfl (fun u' W K' hJ hd hK => ?_) ?_
      · skip
        have d7 : u' 7 = .bool true := hd 7 (by kernel_rfl)
        have d12 : u' 12 = .bool true := hd 12 (by kernel_rfl)
        refine step_value (v := .bool true) (W' := W) rfl ?_ (hK.out _ _ rfl hJ (Below.refl _ _))
        try dsimp only
        go_simp
      refine StepsAt.cons _ rfl (fun u' W K' hJ hd hK => ?_) ?_
      · skip
        have d13 : u' 13 = .bool true := hd 13 (by kernel_rfl)
        exact step_value rfl (run_mv (.tmp 29) rfl W) (hK.out _ _ d13 hJ (Below.refl _ _))
      refine StepsAt.cons _ rfl (fun u' W K' hJ hd hK => ?_) ?_
      · skip
        have d14 : u' 14 = .bool true := hd 14 (by kernel_rfl)
        refine step_enter (f := 11) (args := #[]) (W' := W) ?_ ?_ ((rawake_walk W (HG.out.next hJ.bel)).mono fun e w' h => ⟨_, h.1, hK.out _ _ rfl (hJ.call h.2) h.2⟩)
        · simp [Region.wanted, yielded, d14]
        · try dsimp only
          go_simp
      refine StepsAt.cons _ rfl (fun u' W K' hJ hd hK => ?_) ?_
      · skip
        have d14 : u' 14 = .bool true := hd 14 (by kernel_rfl)
        have d15 : u' 15 = .bool true := hd 15 (by kernel_rfl)
        refine step_value (v := .bool true) (W' := W) rfl ?_ (hK.out _ _ rfl hJ (Below.refl _ _))
        try dsimp only
        go_simp
      refine StepsAt.cons _ rfl (fun u' W K' hJ hd hK => ?_) StepsAt.nil
      · skip
        have d16 : u' 16 = .bool true := hd 16 (by kernel_rfl)
        exact step_value rfl (run_as (.tmp 32) rfl W) (hK.out _ _ d16 hJ (Below.refl _ _))
      intro u' W5 hJ hok
      have d1 : u' 17 = .bool true := hok 17 (by decide)
      have hbel := hJ.bel
      try dsimp only
      rw [d1]
      go_wp2
      go_ret
      exact ⟨rfl, hbel⟩
end Go.Proofs.YthjombepcmebfaaGreatDoor
