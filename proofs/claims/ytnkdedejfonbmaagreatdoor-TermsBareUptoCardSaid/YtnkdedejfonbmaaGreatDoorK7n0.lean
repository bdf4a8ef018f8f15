/- What the proofs of TermsBare, TermsSames want, part 0. -/
import Derived.Deep.RegionHeld3
import Derived.StillTailTactics
import Derived.Test.YtnkdedejfonbmaaGreatDoorK4n0
import Derived.Test.YtnkdedejfonbmaaGreatDoorK1n0
import Derived.Test.YtnkdedejfonbmaaGreatDoorK0n19
set_option linter.unusedVariables false
set_option linter.unusedSimpArgs false
set_option maxRecDepth 100000
set_option maxHeartbeats 16000000
namespace Shp
theorem eqB_refl (t : Sh) : eqB t t = true := (eqB_iff t t).2 rfl
theorem Z6V {t u : Sh} (h : t ≠ u) : eqB t u = false := by
 cases e : eqB t u with
 | false => rfl
 | true => exact absurd ((eqB_iff t u).1 e) h
end Shp
namespace Tms
open Shp (Sh Z0C)
theorem eqB_refl (pl : Bool) (t : Tm) : eqB pl t t = true := by
 cases pl
 {exact (Z4D t t).2 rfl}
 {exact (eqB_iff t t).2 rfl}
end Tms
namespace Go.Proofs.YtnkdedejfonbmaaGreatDoor
open Go.RowKit Shp
theorem ZfA {l m : List Sh} {i : Nat} (hi : i < l.length) (hm : i < m.length) (h : eqB (l[i]'hi) (m[i]'hm) = false) : eqs l m = false := by
 cases e : eqs l m with
 | false => rfl
 | true =>
  have := (Z3Q l m).1 e
  subst this
  rw [eqB_refl] at h; cases h
theorem Zbw {l m : List Sh} (hl : l.length = m.length) (h : ∀ j (hj : j < l.length), eqB (l[j]'hj) (m[j]'(by omega)) = true) : eqs l m = true :=
 (Z3Q l m).2 (List.ext_getElem hl (fun j h1 h2 => (eqB_iff _ _).1 (h j h1)))
def headB (t u : Sh) : Bool := t.kind == u.kind && t.of_ == u.of_ && t.name == u.name && decide (t.names.length = u.names.length) && decide (t.parts.length = u.parts.length)
theorem ZfB {t u : Sh} (h : headB t u = false) : eqB t u = false := by
 apply Z6V
 rintro rfl
 simp [headB] at h
theorem ZdX {t u : Sh} {i : Nat} (hi : i < t.names.length) (hm : i < u.names.length) (h : t.names[i]'hi ≠ u.names[i]'hm) : eqB t u = false := by
 apply Z6V
 rintro rfl
 exact h rfl
theorem ZdY {t u : Sh} {i : Nat} (hi : i < t.parts.length) (hm : i < u.parts.length) (h : eqB (t.parts[i]'hi) (u.parts[i]'hm) = false) : eqB t u = false := by
 apply Z6V
 rintro rfl
 rw [eqB_refl] at h; cases h
theorem ZgB {t u : Sh} (h : headB t u = true) (hn : ∀ j (hj : j < t.names.length) (hj' : j < u.names.length), t.names[j]'hj = u.names[j]'hj') (hp : ∀ j (hj : j < t.parts.length) (hj' : j < u.parts.length), eqB (t.parts[j]'hj) (u.parts[j]'hj') = true) : eqB t u = true := by
 simp only [headB, Bool.and_eq_true, beq_iff_eq, decide_eq_true_eq] at h
 obtain ⟨⟨⟨⟨h1, h2⟩, h3⟩, h4⟩, h5⟩ := h
 rw [eqB_eq, h1, h2, h3]
 simp only [beq_self_eq_true, Bool.true_and, Bool.and_eq_true]
 exact ⟨beq_iff_eq.2 (List.ext_getElem h4 (fun j a b => hn j a b)), Zbw h5 (fun j hj => hp j hj (by omega))⟩
theorem Zac (t u : Sh) (q r : Ptr) (w : World) (hq : ShAt w w.heap.size q t) (hr : ShAt w w.heap.size r u) (hh : headB t u = false) :
 Y9 29 #[.agg (Y8 t q), .agg (Y8 u r)] w (.bool (eqB t u)) := by
 have HF := Y1 (ZfB hh)
 have hb0 := Z02 w (.cells (Y8 t q) 45)
 have hb1 := Z08 hb0 (.cells (Y8 u r) 45)
 have HB1 := Y1 hb1
 have hB := (Z0c w t q).next (Z02 _ (.cells (Y8 u r) 45))
 have hC := Z0c (w.alloc (.cells (Y8 t q) 45)) u r
 obtain ⟨_, ⟨c0, c1, c2, c3, c4⟩, _⟩ := hB
 obtain ⟨_, ⟨d0, d1, d2, d3, d4⟩, _⟩ := hC
 clear hb0 hb1
 rw [World.size_alloc] at d0 d1 d2 d3 d4
 have HH := Y1 hh
 clear hh
 have h4 : ((t.names.length : Int) == (u.names.length : Int)) = decide (t.names.length = u.names.length) := by rw [Bool.eq_iff_iff, beq_iff_eq, decide_eq_true_eq]; omega
 have h5 : ((t.parts.length : Int) == (u.parts.length : Int)) = decide (t.parts.length = u.parts.length) := by rw [Bool.eq_iff_iff, beq_iff_eq, decide_eq_true_eq]; omega
 unfold headB at HH
 rw [<- h4, <- h5] at HH
 clear h4 h5
 cases e1 : (t.kind == u.kind)
 {have n1 : (t.kind != u.kind) = true := by unfold bne; rw [e1]; rfl
  go_enter Tryz.func29, Tryz.ntmps29
  go_wp2
  go_ret
  exact ⟨by rw [HF.out]; rfl, HB1.out⟩}
 {have n1 : (t.kind != u.kind) = false := by unfold bne; rw [e1]; rfl
  rw [e1, Bool.true_and] at HH
  cases e2 : (t.of_ == u.of_)
  {have n2 : (t.of_ != u.of_) = true := by unfold bne; rw [e2]; rfl
   go_enter Tryz.func29, Tryz.ntmps29
   go_wp2
   go_ret
   exact ⟨by rw [HF.out]; rfl, HB1.out⟩}
  {have n2 : (t.of_ != u.of_) = false := by unfold bne; rw [e2]; rfl
   rw [e2, Bool.true_and] at HH
   cases e3 : (t.name == u.name)
   {have n3 : (t.name != u.name) = true := by unfold bne; rw [e3]; rfl
    go_enter Tryz.func29, Tryz.ntmps29
    go_wp2
    go_ret
    exact ⟨by rw [HF.out]; rfl, HB1.out⟩}
   {have n3 : (t.name != u.name) = false := by unfold bne; rw [e3]; rfl
    rw [e3, Bool.true_and] at HH
    cases e4 : ((t.names.length : Int) == (u.names.length : Int))
    {have n4 : ((t.names.length : Int) != (u.names.length : Int)) = true := by unfold bne; rw [e4]; rfl
     go_enter Tryz.func29, Tryz.ntmps29
     go_wp2
     go_ret
     exact ⟨by rw [HF.out]; rfl, HB1.out⟩}
    {have n4 : ((t.names.length : Int) != (u.names.length : Int)) = false := by unfold bne; rw [e4]; rfl
     rw [e4, Bool.true_and] at HH
     have e5 := HH.out
     have n5 : ((t.parts.length : Int) != (u.parts.length : Int)) = true := by unfold bne; rw [e5]; rfl
     go_enter Tryz.func29, Tryz.ntmps29
     go_wp2
     go_ret
     exact ⟨by rw [HF.out]; rfl, HB1.out⟩}}}}
theorem Z5M (t : Sh) : ∀ (u : Sh) (q r : Ptr) (w : World), ShAt w w.heap.size q t -> ShAt w w.heap.size r u ->
 Y9 29 #[.agg (Y8 t q), .agg (Y8 u r)] w (.bool (eqB t u)) := by
 induction t using Sh.ind with
 | h t ih =>
 intro u q r w hq hr
 cases hh : headB t u with
 | false => exact Zac t u q r w hq hr hh
 | true =>
 have HH := Y1 hh
 have hs := hh
 simp only [headB, Bool.and_eq_true, beq_iff_eq, decide_eq_true_eq] at hs
 obtain ⟨⟨⟨⟨g1, g2⟩, g3⟩, g4⟩, g5⟩ := hs
 have HG4 := Y1 g4
 have HG5 := Y1 g5
 have HL := Y1 hq.small.l
 have HM := Y1 hq.small.m
 have HP := Y1 hq.part
 have HR := Y1 hr.part
 have HSN := Y1 hq.strs
 have HSM := Y1 hr.strs
 have hb0 := Z02 w (.cells (Y8 t q) 45)
 have hb1 := Z08 hb0 (.cells (Y8 u r) 45)
 have HB1 := Y1 hb1
 have hB := (Z0c w t q).next (Z02 _ (.cells (Y8 u r) 45))
 have hC := Z0c (w.alloc (.cells (Y8 t q) 45)) u r
 rw [World.size_alloc] at hC
 have HB := Y1 hB
 have HC := Y1 hC
 obtain ⟨_, ⟨c0, c1, c2, c3, c4⟩, _⟩ := hB
 obtain ⟨_, ⟨d0, d1, d2, d3, d4⟩, _⟩ := hC
 have n1 : (t.kind != u.kind) = false := by rw [g1]; simp
 have n2 : (t.of_ != u.of_) = false := by rw [g2]; simp
 have n3 : (t.name != u.name) = false := by rw [g3]; simp
 have n4 : ((t.names.length : Int) != (u.names.length : Int)) = false := by rw [g4]; simp
 have n5 : ((t.parts.length : Int) != (u.parts.length : Int)) = false := by rw [g5]; simp
 have e1 : (t.kind == u.kind) = true := by rw [g1]; simp
 have e2 : (t.of_ == u.of_) = true := by rw [g2]; simp
 have e3 : (t.name == u.name) = true := by rw [g3]; simp
 have e4 : ((t.names.length : Int) == (u.names.length : Int)) = true := by rw [g4]; simp
 have e5 : ((t.parts.length : Int) == (u.parts.length : Int)) = true := by rw [g5]; simp
 clear hb0 hb1 hq hr hh g1 g2 g3 g4 g5
 go_enter Tryz.func29, Tryz.ntmps29
 go_wp2_with fail
 generalize hW0 : (w.alloc (.cells (Y8 t q) 45)).alloc (.cells (Y8 u r) 45) = W0 at HB HC HB1 ⊢
 clear hW0 c0 c1 c2 c3 c4 d0 d1 d2 d3 d4 n1 n2 n3 n4 n5 e1 e2 e3 e4 e5
 go_loopw [5] (fun ii wr => ∃ i : Nat, ii = .int .i64 i /\ i <= t.names.length /\ Hid (∀ j (h : j < t.names.length) (h' : j < u.names.length), j < i -> t.names[j]'h = u.names[j]'h') /\ Below W0.heap.size W0 wr) (fun i _ => t.names.length - (intOf i).toNat)
 case atStart => exact ⟨0, rfl, Nat.zero_le _, Y1 (fun j _ _ hj => absurd hj (by omega)), Below.refl _ _⟩
 case round =>
  obtain ⟨i, rfl, hi, HN, hb⟩ := hrel
  have hbw : Below w.heap.size w wr := HB1.out.trans (hb.mono HB1.out.size)
  have hl := HL.out
  obtain ⟨_, ⟨c0, _, _, c3, c4⟩, _⟩ := HB.out.next hb
  obtain ⟨_, ⟨d0, _, _, d3, d4⟩, _⟩ := HC.out.next hb
  by_cases hlt : i < t.names.length
  {have hi1 : (i : Int) < (t.names.length : Int) := by omega
   have hi2 : (i : Int) < (u.names.length : Int) := by have := HG4.out; omega
   have hi3 : i < u.names.length := by omega
   rcases (HSN.out.next hbw).cell7 with h0 | ⟨g, off, hqA, hg, hc⟩
   {omega}
   {rcases (HSM.out.next hbw).cell7 with h0 | ⟨g', off', hrA, hg', hc'⟩
    {omega}
    {have p := hc i hlt
     have p' := hc' i hi3
     obtain ⟨x, hx⟩ : ∃ x, x = t.names[i]'hlt := ⟨_, rfl⟩
     obtain ⟨y, hy⟩ : ∃ y, y = u.names[i]'hi3 := ⟨_, rfl⟩
     rw [<- hx] at p
     rw [<- hy] at p'
     have HX := Y1 hx
     have HY := Y1 hy
     rw [hqA] at c3
     rw [hrA] at d3
     clear hx hy hc hc' hqA hrA
     cases hxy : (x == y)
     {have HF : Hid (eqB t u = false) := Y1 (ZdX hlt hi3 (by rw [<- HX.out, <- HY.out]; intro h; rw [h] at hxy; simp at hxy))
      have n1 : (x != y) = true := by unfold bne; rw [hxy]; rfl
      go_wp2_with fail
      go_quiet (fail)
      go_wp2
      go_ret
      exact ⟨by rw [HF.out]; rfl, Z0k hbw _⟩}
     {have n1 : (x != y) = false := by unfold bne; rw [hxy]; rfl
      have HE : Hid (t.names[i]'hlt = u.names[i]'hi3) := Y1 (by rw [<- HX.out, <- HY.out]; simpa using hxy)
      go_wp2_with fail
      go_quiet (fail)
      go_wp2
      go_roundw
      case rel => exact ⟨i + 1, by go_num, by omega, Y1 (fun j hj hj' hji => by
       rcases Nat.lt_succ_iff_lt_or_eq.1 hji with h | rfl
       {exact HN.out j hj hj' h}
       · exact HE.out), Z0k hb _⟩
      case measure => simp [intOf]; omega}}}}
  {have HNN : Hid (∀ j (h : j < t.names.length) (h' : j < u.names.length), t.names[j]'h = u.names[j]'h') := Y1 (fun j h h' => HN.out j h h' (by omega))
   have HBW := Y1 hb
   clear hbw hb HN
   go_wp2_with fail
   go_loopw [6] (fun ii wx => ∃ k : Nat, ii = .int .i64 k /\ k <= t.parts.length /\ Hid (∀ j (h : j < t.parts.length) (h' : j < u.parts.length), j < k -> eqB (t.parts[j]'h) (u.parts[j]'h') = true) /\ Hid (Below W0.heap.size W0 wx)) (fun i _ => t.parts.length - (intOf i).toNat)
   case atStart => exact ⟨0, rfl, Nat.zero_le _, Y1 (fun j _ _ hj => absurd hj (by omega)), HBW⟩
   case round =>
    obtain ⟨k, rfl, hk, HN, HBX⟩ := hrel
    have hb := HBX.out
    have hbw : Below w.heap.size w wr := HB1.out.trans (hb.mono HB1.out.size)
    have hm := HM.out
    clear c0 c3 c4 d0 d3 d4
    obtain ⟨_, ⟨c0, _, _, c3, c4⟩, _⟩ := HB.out.next hb
    obtain ⟨_, ⟨d0, _, _, d3, d4⟩, _⟩ := HC.out.next hb
    by_cases hlt2 : k < t.parts.length
    {have hi1 : (k : Int) < (t.parts.length : Int) := by omega
     have hi2 : (k : Int) < (u.parts.length : Int) := by have := HG5.out; omega
     have hi3 : k < u.parts.length := by omega
     rcases HP.out with h0 | ⟨g, off, qs, hqP, hg, hc, hra⟩
     {omega}
     {rcases HR.out with h0 | ⟨g', off', qs', hrP, hg', hc', hra'⟩
      {omega}
      {obtain ⟨x, hx⟩ : ∃ x, x = t.parts[k] := ⟨_, rfl⟩
       obtain ⟨y, hy⟩ : ∃ y, y = u.parts[k] := ⟨_, rfl⟩
       obtain ⟨p0, p1, p2, p3, p4⟩ := (hc k hlt2).keep hg hbw
       obtain ⟨s0, s1, s2, s3, s4⟩ := (hc' k hi3).keep hg' hbw
       have hat : ShAt wr wr.heap.size (qs k) x := by rw [hx]; exact (hra k hlt2).next hbw
       have hat' : ShAt wr wr.heap.size (qs' k) y := by rw [hy]; exact (hra' k hi3).next hbw
       have ihx := ih t.parts[k] (List.getElem_mem _) y (qs k) (qs' k) wr.drew
       rw [<- hx] at p0 p1 p2 p3 p4 ihx
       rw [<- hy] at s0 s1 s2 s3 s4
       have IH := ihx (hat.next Y2.drew) (hat'.next Y2.drew)
       rw [hqP] at c4
       rw [hrP] at d4
       have HX := Y1 hx
       have HY := Y1 hy
       clear hx hy hc hc' hra hra' hat hat' ihx ih hqP hrP
       go_wp2_with fail
       cases hxy : eqB x y
       {have HF : Hid (eqB t u = false) := Y1 (ZdY hlt2 hi3 (by rw [<- HX.out, <- HY.out]; exact hxy))
        rw [hxy] at IH
        clear hxy
        go_still_tail 10, (by kernel_rfl)
        change wpList _ _ _ _ _ wr.drew
        go_wp2_with fail
        refine IH.mono ?_
        rintro e w2 ⟨rfl, hb2⟩
        go_wp2
        go_ret
        exact ⟨by rw [HF.out]; rfl, Z00 hbw.drew hb2⟩}
       {have HE : Hid (eqB (t.parts[k]'hlt2) (u.parts[k]'hi3) = true) := Y1 (by rw [<- HX.out, <- HY.out]; exact hxy)
        rw [hxy] at IH
        clear hxy
        go_still_tail 10, (by kernel_rfl)
        change wpList _ _ _ _ _ wr.drew
        go_wp2_with fail
        refine IH.mono ?_
        rintro e w2 ⟨rfl, hb2⟩
        go_wp2
        go_roundw
        case rel => exact ⟨k + 1, by go_num, by omega, Y1 (fun j hj hj' hji => by
         rcases Nat.lt_succ_iff_lt_or_eq.1 hji with h | rfl
         {exact HN.out j hj hj' h}
         · exact HE.out), Y1 (Z00 hb.drew hb2)⟩
        case measure => simp [intOf]; omega}}}}
    {have HF : Hid (eqB t u = true) := Y1 (ZgB HH.out HNN.out (fun j hj hj' => HN.out j hj hj' (by omega)))
     go_wp2
     go_ret
     exact ⟨by rw [HF.out]; rfl, hbw⟩}}
end Go.Proofs.YtnkdedejfonbmaaGreatDoor
namespace Go.Proofs.YtnkdedejfonbmaaGreatDoor
open Go.RowKit Tms
open Shp (Sh)
theorem Z0Y (A A' : Option Addr) (c c' : Nat) (l m : List (List UInt8)) (w : World) (hA : Strs w w.heap.size A (strs l)) (hA' : Strs w w.heap.size A' (strs m)) (hl : l.length <= 9223372036854775807) (hm : m.length <= 9223372036854775807) :
 Y9 28 #[.slice A l.length c, .slice A' m.length c'] w (.bool (l == m)) := by
 have HA := Y1 hA
 have HA' := Y1 hA'
 clear hA hA'
 by_cases hlm : l.length = m.length
 {have n1 : ((l.length : Int) != (m.length : Int)) = false := by rw [hlm]; simp
  have e1 : ((l.length : Int) == (m.length : Int)) = true := by rw [hlm]; simp
  have HLM := Y1 hlm
  clear hlm
  go_enter Tryz.func28, Tryz.ntmps28
  go_wp2_with fail
  clear n1 e1
  go_loopw [5] (fun ii wr => ∃ i : Nat, ii = .int .i64 i /\ i <= l.length /\ Hid (∀ j (h : j < l.length) (h' : j < m.length), j < i -> l[j]'h = m[j]'h') /\ Below w.heap.size w wr) (fun i _ => l.length - (intOf i).toNat)
  case atStart => exact ⟨0, rfl, Nat.zero_le _, Y1 (fun j _ _ hj => absurd hj (by omega)), Below.refl _ _⟩
  case round =>
   obtain ⟨i, rfl, hi, HN, hb⟩ := hrel
   by_cases hlt : i < l.length
   {have hi1 : (i : Int) < (l.length : Int) := by omega
    have hi2 : (i : Int) < (m.length : Int) := by have := HLM.out; omega
    have hi3 : i < m.length := by omega
    rcases (HA.out.next hb).cell7 with h0 | ⟨g, off, rfl, hg, hc⟩
    {omega}
    {rcases (HA'.out.next hb).cell7 with h0 | ⟨g', off', rfl, hg', hc'⟩
     {omega}
     {have p := hc i hlt
      have p' := hc' i hi3
      obtain ⟨x, hx⟩ : ∃ x, x = l[i]'hlt := ⟨_, rfl⟩
      obtain ⟨y, hy⟩ : ∃ y, y = m[i]'hi3 := ⟨_, rfl⟩
      rw [<- hx] at p
      rw [<- hy] at p'
      have HX := Y1 hx
      have HY := Y1 hy
      clear hx hy hc hc'
      cases hxy : (x == y)
      {have HF : Hid ((l == m) = false) := Y1 (by
        cases e : (l == m) with
        | false => rfl
        | true =>
         have := eq_of_beq e
         subst this
         exact absurd (HX.out.trans HY.out.symm) (by intro h; rw [h] at hxy; simp at hxy))
       have n1 : (x != y) = true := by unfold bne; rw [hxy]; rfl
       go_wp2_with fail
       go_quiet (fail)
       go_wp2
       go_ret
       exact ⟨by rw [HF.out]; rfl, Z0k hb _⟩}
      {have n1 : (x != y) = false := by unfold bne; rw [hxy]; rfl
       have HE : Hid (l[i]'hlt = m[i]'hi3) := Y1 (by rw [<- HX.out, <- HY.out]; simpa using hxy)
       go_wp2_with fail
       go_quiet (fail)
       go_wp2
       go_roundw
       case rel => exact ⟨i + 1, by go_num, by omega, Y1 (fun j hj hj' hji => by
        rcases Nat.lt_succ_iff_lt_or_eq.1 hji with h | rfl
        {exact HN.out j hj hj' h}
        · exact HE.out), Z0k hb _⟩
       case measure => simp [intOf]; omega}}}}
   {have HF : Hid ((l == m) = true) := Y1 (beq_iff_eq.2 (List.ext_getElem HLM.out (fun j h h' => HN.out j h h' (by omega))))
    go_wp2
    go_ret
    exact ⟨by rw [HF.out]; rfl, hb⟩}}
 {have e1 : ((l.length : Int) == (m.length : Int)) = false := by
   cases e : ((l.length : Int) == (m.length : Int)) with
   | false => rfl
   | true => exact absurd (by have := eq_of_beq e; omega) hlm
  have n1 : ((l.length : Int) != (m.length : Int)) = true := by unfold bne; rw [e1]; rfl
  have HF : Hid ((l == m) = false) := Y1 (by
   cases e : (l == m) with
   | false => rfl
   | true => exact absurd (by rw [eq_of_beq e]) hlm)
  clear hlm
  go_enter Tryz.func28, Tryz.ntmps28
  go_wp2
  go_ret
  exact ⟨by rw [HF.out]; rfl, Below.refl _ _⟩}
def hd1 (pl : Bool) (t u : Tm) : Bool := t.kind == u.kind && t.of_ == u.of_ && t.name == u.name && t.n == u.n && (!pl || t.at_ == u.at_)
def hd2 (t u : Tm) : Bool := t.names == u.names && t.vars == u.vars && decide (t.shapes.length = u.shapes.length) && decide (t.parts.length = u.parts.length)
theorem Z54 (pl : Bool) (t u : Tm) : eqB pl t u = (hd1 pl t u && t.names == u.names && t.vars == u.vars && Shp.eqs t.shapes u.shapes && eqs pl t.parts u.parts) := eqB_eq pl t u
theorem ZbH {pl : Bool} {t u : Tm} (h : hd1 pl t u = false) : eqB pl t u = false := by rw [Z54, h]; rfl
theorem Z9F {pl : Bool} : ∀ {l m : List Tm}, eqs pl l m = true -> l.length = m.length
 | [], [], _ => rfl
 | _ :: l, _ :: m, h => by
  simp only [eqs, Bool.and_eq_true] at h
  simp [Z9F h.2]
 | [], _ :: _, h => by simp [eqs] at h
 | _ :: _, [], h => by simp [eqs] at h
theorem Z9G {pl : Bool} : ∀ {l m : List Tm}, eqs pl l m = true -> ∀ i (h : i < l.length) (h' : i < m.length), eqB pl (l[i]'h) (m[i]'h') = true
 | [], [], _, i, h, _ => absurd h (by simp)
 | a :: l, b :: m, e, i, h, h' => by
  simp only [eqs, Bool.and_eq_true] at e
  cases i with
  | zero => exact e.1
  | succ i => exact Z9G e.2 i (by simpa using h) (by simpa using h')
 | [], _ :: _, h, _, _, _ => by simp [eqs] at h
 | _ :: _, [], h, _, _, _ => by simp [eqs] at h
theorem Z9H {pl : Bool} : ∀ {l m : List Tm}, l.length = m.length -> (∀ j (hj : j < l.length) (hj' : j < m.length), eqB pl (l[j]'hj) (m[j]'hj') = true) -> eqs pl l m = true
 | [], [], _, _ => rfl
 | a :: l, b :: m, e, h => by
  simp only [eqs, Bool.and_eq_true]
  exact ⟨h 0 (by simp) (by simp), Z9H (by simpa using e) (fun j hj hj' => h (j + 1) (by simpa using hj) (by simpa using hj'))⟩
 | [], _ :: _, h, _ => by simp at h
 | _ :: _, [], h, _ => by simp at h
theorem ZbI {pl : Bool} {t u : Tm} (h : hd2 t u = false) : eqB pl t u = false := by
 cases e : eqB pl t u with
 | false => rfl
 | true =>
  rw [Z54] at e
  simp only [Bool.and_eq_true] at e
  obtain ⟨⟨⟨⟨_, h6⟩, h7⟩, h8⟩, h9⟩ := e
  rw [<- h]
  have g8 := (Shp.Z3Q _ _).1 h8
  simp [hd2, h6, h7, g8, Z9F h9]
theorem Z6K {pl : Bool} {t u : Tm} {i : Nat} (hi : i < t.shapes.length) (hm : i < u.shapes.length) (h : Shp.eqB (t.shapes[i]'hi) (u.shapes[i]'hm) = false) : eqB pl t u = false := by
 rw [Z54, ZfA hi hm h]; simp
theorem Z6L {pl : Bool} {t u : Tm} {i : Nat} (hi : i < t.parts.length) (hm : i < u.parts.length) (h : eqB pl (t.parts[i]'hi) (u.parts[i]'hm) = false) : eqB pl t u = false := by
 cases e : eqs pl t.parts u.parts with
 | false => rw [Z54, e]; simp
 | true => rw [Z9G e i hi hm] at h; cases h
theorem Z9I {pl : Bool} {t u : Tm} (h1 : hd1 pl t u = true) (h2 : hd2 t u = true) (hs : ∀ j (hj : j < t.shapes.length) (hj' : j < u.shapes.length), Shp.eqB (t.shapes[j]'hj) (u.shapes[j]'hj') = true)
 (hp : ∀ j (hj : j < t.parts.length) (hj' : j < u.parts.length), eqB pl (t.parts[j]'hj) (u.parts[j]'hj') = true) : eqB pl t u = true := by
 simp only [hd2, Bool.and_eq_true, decide_eq_true_eq] at h2
 obtain ⟨⟨⟨h6, h7⟩, h8⟩, h9⟩ := h2
 rw [Z54, h1, h6, h7, Zbw h8 (fun j hj => hs j hj (by omega)), Z9H h9 (fun j hj hj' => hp j hj hj')]
 rfl
end Go.Proofs.YtnkdedejfonbmaaGreatDoor
