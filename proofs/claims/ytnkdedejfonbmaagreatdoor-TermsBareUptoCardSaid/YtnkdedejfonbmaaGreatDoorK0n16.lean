/- What the proofs of TermsBare, TermsChecks, TermsDeep, TermsSame, TermsSames want, part 16. -/
import Derived.Deep.LoopGhost
import Derived.Laws.EntriesVeiled
import Derived.Laws.OwnMore
import Derived.Maps.AppendAt
import Derived.StillTailTactics
import Derived.Deep.RegionHeld3
import Derived.Test.YtnkdedejfonbmaaGreatDoorK0n15
set_option linter.unusedVariables false
set_option linter.unusedSimpArgs false
set_option maxRecDepth 100000
set_option maxHeartbeats 16000000
namespace Go.Proofs.YtnkdedejfonbmaaGreatDoor
open Go.RowKit Shp
theorem ZaP {t : Sh} (h : right t = true) (hz : size t <= 400) : t.names.length <= 400 := by
 have hp := length_sizes t.parts
 rw [size_eq] at hz
 rcases Z1d (right_fits h) with ⟨_, _, h, _⟩ | ⟨_, h, _⟩ | ⟨_, h, _⟩ | ⟨_, h, _⟩ | ⟨_, h, _⟩
 {rw [h]; simp}
 {rw [h]; simp}
 {omega}
 {rw [h]; simp}
 {rw [h]; simp}
def cW (w : World) (t : Sh) (q : Ptr) : World :=
 ((w.alloc (.cells (Y8 t q) 45)).alloc (.cells #[.int .i64 0, .string ⟨#[]⟩, .string ⟨#[]⟩, .slice none 0 0, .slice none 0 0] 45)).alloc (.cells #[.func (.func 70) #[] #[], .int .i64 0] 126)
theorem Z9f (w : World) (t : Sh) (q : Ptr) : Below w.heap.size w (cW w t q) := Z08 (Z08 (Z02 _ _) _) _
theorem Zhp (w : World) (t : Sh) (q : Ptr) : CntH (cW w t q) (w.heap.size + 1 + 1) 0 (.func (.func 70) #[] #[]) := by
 unfold cW
 exact ⟨by simp, by simp [go_sem], by simp [go_sem], by simp [go_sem]⟩
theorem Z9g (w : World) (t : Sh) (q : Ptr) : Sh5 (cW w t q) w.heap.size 0 t q /\ ∀ k, (cW w t q).frozen? ⟨w.heap.size, k, none⟩ = false := by
 unfold cW
 refine ⟨⟨?_, ?_, ?_, ?_, ?_⟩, fun k => ?_⟩ <;> simp [go_sem]
theorem ZeR (w : World) (t : Sh) (q : Ptr) : (∀ c, c < 5 -> ∃ u, (cW w t q).cell? ⟨w.heap.size + 1, c, none⟩ = some u) /\ ∀ k, (cW w t q).frozen? ⟨w.heap.size + 1, k, none⟩ = false := by
 unfold cW
 refine ⟨fun c hc => ?_, fun k => by simp [go_sem]⟩
 match c, hc with
 | 0, _ => exact ⟨_, by simp [go_sem]; rfl⟩
 | 1, _ => exact ⟨_, by simp [go_sem]; rfl⟩
 | 2, _ => exact ⟨_, by simp [go_sem]; rfl⟩
 | 3, _ => exact ⟨_, by simp [go_sem]; rfl⟩
 | 4, _ => exact ⟨_, by simp [go_sem]; rfl⟩
theorem ZhX (w W1 : World) (t : Sh) (q : Ptr) (hq : ShAt w w.heap.size q t) (hu : UpH (w.heap.size + 1 + 1) (cW w t q) W1) :
 Cst w (W1.alloc (.cells #[.pointer (some ⟨w.heap.size, 0, none⟩)] 83)) w.heap.size (w.heap.size + 1) t (.slice (some ⟨W1.heap.size, 0, none⟩) 1 1) [⟨w.heap.size, 0, t, q⟩] [w.heap.size] := by
 have hsz : (cW w t q).heap.size = w.heap.size + 3 := by simp [cW]
 have hs1 : W1.heap.size = w.heap.size + 3 := hu.size.trans hsz
 have hb0 := Z02 W1 (.cells #[.pointer (some ⟨w.heap.size, 0, none⟩)] 83)
 have hb : Below w.heap.size w W1 := (Z9f w t q).trans (hu.toBelow (by omega))
 have hb2 : Below w.heap.size w (W1.alloc (.cells #[.pointer (some ⟨w.heap.size, 0, none⟩)] 83)) := Z00 hb hb0
 have hz2 : (W1.alloc (.cells #[.pointer (some ⟨w.heap.size, 0, none⟩)] 83)).heap.size = w.heap.size + 4 := by simp; omega
 have hcell : ∀ g k, g < w.heap.size + 2 -> (W1.alloc (.cells #[.pointer (some ⟨w.heap.size, 0, none⟩)] 83)).cell? ⟨g, k, none⟩ = (cW w t q).cell? ⟨g, k, none⟩ := fun g k hg => (hb0.cell (p := ⟨g, k, none⟩) (by show g < W1.heap.size; omega)).trans (hu.cell (by omega))
 have hfz : ∀ g k, g < w.heap.size + 2 -> (W1.alloc (.cells #[.pointer (some ⟨w.heap.size, 0, none⟩)] 83)).frozen? ⟨g, k, none⟩ = (cW w t q).frozen? ⟨g, k, none⟩ := fun g k hg => (hb0.frozen (p := ⟨g, k, none⟩) (by show g < W1.heap.size; omega)).trans (hu.frozen (by omega))
 refine ⟨?_, ZaL _ _ _ _ _, ?_, ?_, by simp, hb2, ⟨by simp, ⟨by omega, by omega, fun e => ?_⟩, ?_, ?_⟩, ?_, ⟨by simp, by omega⟩⟩
 {refine ⟨by simp, Or.inr ⟨W1.heap.size, 1, #[.pointer (some ⟨w.heap.size, 0, none⟩)], rfl, Nat.zero_le _, heap_alloc_new _ _, Nat.le_refl _, by decide, rfl, rfl⟩⟩}
 {intro b hb'
  simp only [List.mem_cons, List.not_mem_nil, or_false] at hb'
  subst hb'
  exact ⟨by omega, by omega, fun e => by have : W1.heap.size = w.heap.size := Option.some.inj e; omega⟩}
 {intro n hn
  simp only [List.mem_cons, List.not_mem_nil, or_false] at hn
  subst hn
  refine ⟨by simp, by show w.heap.size ≠ w.heap.size + 1; omega, ?_, hq.keep hb2 (Nat.le_refl _), fun k => (hfz _ k (by simp)).trans ((Z9g w t q).2 k)⟩
  have h5 := (Z9g w t q).1
  simp only [Nat.zero_mul]
  exact h5.of (fun k => hcell _ k (by omega))}
 {have : W1.heap.size = w.heap.size + 1 := Option.some.inj e
  omega}
 {intro c hc
  obtain ⟨u, hu'⟩ := (ZeR w t q).1 c hc
  exact ⟨u, (hcell _ c (by omega)).trans hu'⟩}
 {exact fun k => (hfz _ k (by omega)).trans ((ZeR w t q).2 k)}
 {intro g e
  have : W1.heap.size = g := Option.some.inj e
  omega}
theorem ZaQ (t : Sh) (q : Ptr) (w : World) (hq : ShAt w w.heap.size q t) (hz : size t <= 400) (hr : right t = true) :
 Calls Tryz.prog 71 #[.agg (Y8 t q), .func (.func 70) #[] #[], .func (.func 72) #[] #[]] w fun e w' => ∃ q' F, e = .returned (.agg (Y8 t q')) /\ Own w' q' t F /\ F.Nodup /\ (∀ b ∈ F, w.heap.size <= b) /\ Below w.heap.size w w' := by
 have hde := deep_size t
 have hcb := Z9g w t q
 have hm := ZcV t q w.heap.size 0 w.heap.size (w.heap.size + 1 + 1) 0 1 (cW w t q) hcb.1 (by omega) (hq.keep (Z9f w t q) (Nat.le_refl _)) (by omega) (Zhp w t q) (by omega) (by omega)
 rw [show (((1 : Nat)) : Int) = (1 : Int) from rfl] at hm
 have HM := Y1 hm
 have HST := Y1 (fun W1 (hu : UpH (w.heap.size + 1 + 1) (cW w t q) W1) => ZhX w W1 t q hq hu)
 have L1 := fun (g o : Nat) (W : World) => Z6w g o W
 clear hq hm hcb hde
 go_enter Tryz.func71, Tryz.ntmps71
 go_wp2_with fail
 change Calls _ _ _ (cW w t q) _
 refine HM.out.mono ?_
 rintro e W1 ⟨rfl, hu1, _⟩
 have HS1 := Y1 (HST.out W1 hu1)
 clear HM HST hu1
 go_wp2_with fail
 go_loopg [9] (size t) (fun k s9 wr => ∃ L D, sumL L <= k /\ sumL L <= 400 /\ (∀ n ∈ L, right n.t = true) /\ Hid (Cst w wr w.heap.size (w.heap.size + 1) t s9 L D))
 case atStart => exact ⟨_, _, by simp [sumL], by simp [sumL]; omega, fun n hn => by simp only [List.mem_cons, List.not_mem_nil, or_false] at hn; subst hn; exact hr, HS1⟩
 case round =>
  obtain ⟨L, D, hk, h400, hri, HC⟩ := hrel
  clear HS1
  rcases List.eq_nil_or_concat L with rfl | ⟨L', a, rfl⟩
  {obtain ⟨F, ⟨q', hS, hO⟩, hnd, hFD⟩ := ZcW HC.out.rdy
   obtain ⟨A, cp, rfl⟩ := HC.out.opn.empty
   obtain ⟨p0, p1, p2, p3, p4⟩ := hS
   simp only [Nat.zero_mul, Nat.zero_add] at p0 p1 p2 p3 p4
   obtain ⟨r1D, ⟨_, _, _⟩, rcs, rfz⟩ := HC.out.res
   obtain ⟨e0, r0⟩ := rcs 0 (by omega)
   obtain ⟨e1, r1⟩ := rcs 1 (by omega)
   obtain ⟨e2, r2⟩ := rcs 2 (by omega)
   obtain ⟨e3, r3⟩ := rcs 3 (by omega)
   obtain ⟨e4, r4⟩ := rcs 4 (by omega)
   have z0 := rfz 0
   have z1 := rfz 1
   have z2 := rfz 2
   have z3 := rfz 3
   have z4 := rfz 4
   have HO := Y1 hO
   have HND := Y1 hnd
   have HFD := Y1 (fun b hb => (HC.out.lo b (hFD b hb)).1)
   have HNE := Y1 (fun b hb (e : w.heap.size + 1 = b) => r1D (by rw [e]; exact hFD b hb))
   have HBL := Y1 HC.out.bel
   clear hO hnd hFD rcs rfz r1D hri
   go_wp2
   refine bodyPost_ret (v := .agg (Y8 t q')) (by simp [results, Tryz.results71, go_sem, r0, r1, r2, r3, r4]) rfl ?_
   refine ⟨q', F, rfl, HO.out.of (fun b hb => ?_) (by simp [World.setCell]), HND.out, HFD.out, ?_⟩
   {have hne := HNE.out b hb
    exact ((((Z0b _ ⟨w.heap.size + 1, 0, none⟩ _ hne).trans (Z0b _ ⟨w.heap.size + 1, 1, none⟩ _ hne)).trans (Z0b _ ⟨w.heap.size + 1, 2, none⟩ _ hne)).trans (Z0b _ ⟨w.heap.size + 1, 3, none⟩ _ hne)).trans (Z0b _ ⟨w.heap.size + 1, 4, none⟩ _ hne)}
   {exact ((((HBL.out.setCell (p := ⟨w.heap.size + 1, 0, none⟩) (Nat.le_succ _) _).setCell (p := ⟨w.heap.size + 1, 1, none⟩) (Nat.le_succ _) _).setCell (p := ⟨w.heap.size + 1, 2, none⟩) (Nat.le_succ _) _).setCell (p := ⟨w.heap.size + 1, 3, none⟩) (Nat.le_succ _) _).setCell (p := ⟨w.heap.size + 1, 4, none⟩) (Nat.le_succ _) _}}
  {rw [List.concat_eq_append] at hk h400 HC hri
   obtain ⟨g, cap, rfl, hcap, hcl, hgW⟩ := HC.out.opn.last
   obtain ⟨hagD, har1, hS5, hat, hfr⟩ := HC.out.nd a (by simp)
   obtain ⟨hlo1, hlo2, hlo4⟩ := HC.out.lo a.g hagD
   obtain ⟨W, hW⟩ : ∃ W, W = wr := ⟨wr, rfl⟩
   subst hW
   have hi1 : (0 : Int) < ((L'.length + 1 : Nat) : Int) := by omega
   have hL4 : L'.length <= 400 := by
    have := Zg8 L'
    rw [Z1h] at h400
    omega
   have hag : a.g ≠ g := fun e => hlo4 (by rw [e]; rfl)
   unfold ndP at hcl
   obtain ⟨p0, p1, p2, p3, p4⟩ := hS5
   have hsm := hat.small
   have ha4 : size a.t <= 400 := by rw [Z1h] at h400; simp [sumL] at h400; omega
   have har := hri a (by simp)
   have hnm : a.t.names.length <= 1000000000 := by have := ZaP har ha4; omega
   have hsz := HC.out.bel.size
   have HOWN := Y1 (ZeP a.g (a.i * 5) a.q.A a.q.c a.t.names W hlo2 p3 (hfr _) (hat.strs.more hsz) hnm hsm.c hsm.A0)
   have HRI := Y1 hri
   have HAT := Y1 hat
   have HSM := Y1 hsm
   have LA := fun (W : World) => L1 a.g (a.i * 5) W
   clear hri hat hsm p0 p1 p2 p3
   go_wp2_with fail
   refine HOWN.out.mono ?_
   rintro e w3 ⟨rfl, A', c', W2, hb2, htx, rfl⟩
   have x4 : (W2.setCell ⟨a.g, a.i * 5 + 3, none⟩ (.slice A' a.t.names.length c')).cell? ⟨a.g, a.i * 5 + 4, none⟩ = some (.slice a.q.P a.t.parts.length a.q.d) :=
    (World.cell?_setCell_other _ _ _ _ (fun e => by have := congrArg Addr.off e; simp at this)).trans ((hb2.cell (p := ⟨a.g, a.i * 5 + 4, none⟩) hlo2).trans p4)
   have f4 : (W2.setCell ⟨a.g, a.i * 5 + 3, none⟩ (.slice A' a.t.names.length c')).frozen? ⟨a.g, a.i * 5 + 4, none⟩ = false := by
    rw [World.frozen?_setCell]; exact (hb2.frozen (p := ⟨a.g, a.i * 5 + 4, none⟩) hlo2).trans (hfr _)
   have hz2 : W.heap.size <= W2.heap.size := hb2.size
   have hz3 : (W2.setCell ⟨a.g, a.i * 5 + 3, none⟩ (.slice A' a.t.names.length c')).heap.size = W2.heap.size := Z17 _ _ _
   have hag3 : a.g < (W2.setCell ⟨a.g, a.i * 5 + 3, none⟩ (.slice A' a.t.names.length c')).heap.size := by omega
   have hbw3 : Below w.heap.size w (W2.setCell ⟨a.g, a.i * 5 + 3, none⟩ (.slice A' a.t.names.length c')) := (HC.out.bel.trans (hb2.mono hsz)).setCell hlo1 _
   have HB2 := Y1 hb2
   have HTX := Y1 htx
   clear hb2 htx p4 HOWN hcl
   by_cases hpz : a.t.parts.length = 0
   {have hrn := ZcZ a.g (a.i * 5 + 4) a.q.P a.q.d (W2.setCell ⟨a.g, a.i * 5 + 3, none⟩ (.slice A' a.t.names.length c')) hag3 (by rw [x4, hpz]) f4 HSM.out.P0
    have HRN := Y1 hrn
    clear hrn x4 f4 hbw3 hag3 hz3
    go_wp2_with fail
    refine (LA _).mono ?_
    rintro e w4 ⟨rfl, rfl⟩
    go_wp2_with fail
    refine HRN.out.mono ?_
    rintro e w5 ⟨rfl, P', d', W3', hb3, hP0, rfl⟩
    have HST := Y1 (HC.out.step (P' := P') (d' := d') (pb := 0) (qs := fun _ => a.q) HB2.out HTX.out hb3 (by omega) hP0 (Or.inl ⟨hpz, by rw [hpz], rfl⟩))
    have hk0 : kids 0 a.t.parts (fun _ => a.q) = [] := List.eq_nil_of_length_eq_zero (by rw [Z1o]; exact hpz)
    rw [hk0, List.append_nil] at HST
    clear hk0 hb3 hP0 HRN
    go_wp2
    go_roundg (sumL L')
    case measure => rw [Z1h] at hk; have := size_pos a.t; simp [sumL] at hk ⊢; omega
    case rel =>
     obtain ⟨D5, h5⟩ := HST.out
     exact ⟨L', D5, Nat.le_refl _, by rw [Z1h] at h400; omega, fun n hn => HRI.out n (by simp [hn]), Y1 h5⟩}
   {have hpos : 0 < a.t.parts.length := by omega
    rcases HAT.out.part with h0 | ⟨g', off, qs, hqP, hg', hcc, hrr⟩
    {omega}
    {have hpl : a.t.parts.length <= 1000000000 := by have := length_sizes a.t.parts; rw [size_eq] at ha4; omega
     have hrn := Zd0 a.g (a.i * 5 + 4) g' off a.q.d a.t.parts qs (W2.setCell ⟨a.g, a.i * 5 + 3, none⟩ (.slice A' a.t.names.length c')) hag3 (by rw [x4, hqP]) f4 (by omega) (fun i hi => (hcc i hi).of (fun k => (hbw3.cell (p := ⟨g', k, none⟩) hg').trans (HC.out.bel.cell (p := ⟨g', k, none⟩) hg').symm)) hpl hpos
     have HRN := Y1 hrn
     have HRR := Y1 hrr
     clear hrn hcc hrr hqP x4 f4 hbw3
     go_wp2_with fail
     refine (LA _).mono ?_
     rintro e w4 ⟨rfl, rfl⟩
     go_wp2_with fail
     refine HRN.out.mono ?_
     rintro e w5 ⟨rfl, pb, d', W3', hb3, hd1, hpb, hpar, rfl⟩
     have hz4 := hb3.size
     have hagz : a.g < W3'.heap.size := by omega
     have hoc : ∃ u, W3'.cell? ⟨a.g, a.i * 5 + 4, none⟩ = some u := ⟨_, (hb3.cell (p := ⟨a.g, a.i * 5 + 4, none⟩) hag3).trans ((World.cell?_setCell_other _ _ _ _ (fun e => by have := congrArg Addr.off e; simp at this)).trans ((HB2.out.cell (p := ⟨a.g, a.i * 5 + 4, none⟩) hlo2).trans (HC.out.nd a (by simp)).2.2.1.2.2.2.2))⟩
     obtain ⟨u0, hu0⟩ := hoc
     have c4 : (W3'.setCell ⟨a.g, a.i * 5 + 4, none⟩ (.slice (some ⟨pb, 0, none⟩) a.t.parts.length d')).cell? ⟨a.g, a.i * 5 + 4, none⟩ = some (.slice (some ⟨pb, 0, none⟩) a.t.parts.length d') := World.cell?_setCell_same _ _ _ hu0
     have hz5 : (W3'.setCell ⟨a.g, a.i * 5 + 4, none⟩ (.slice (some ⟨pb, 0, none⟩) a.t.parts.length d')).heap.size = W3'.heap.size := Z17 _ _ _
     have hO4 : Opn (W3'.setCell ⟨a.g, a.i * 5 + 4, none⟩ (.slice (some ⟨pb, 0, none⟩) a.t.parts.length d')) (.slice (some ⟨g, 0, none⟩) L'.length cap) L' :=
      (((HC.out.opn.pop.below HB2.out).set (fun e => hag (Option.some.inj e).symm) _).below hb3).set (fun e => hag (Option.some.inj e).symm) _
     have hpbl := hpar.lt
     have hpag : pb ≠ a.g := by omega
     have hR0 := Rnd7.start hO4 (fun e => by have : g = pb := Option.some.inj e; omega) (hpar.of (Z0b W3' ⟨a.g, a.i * 5 + 4, none⟩ (.slice (some ⟨pb, 0, none⟩) a.t.parts.length d') (Ne.symm hpag)) (by omega))
     have HR0 := Y1 hR0
     have HSTEP := Y1 (fun (W5 : World) (v5 : Value) (hr : Rnd7 (W3'.setCell ⟨a.g, a.i * 5 + 4, none⟩ (.slice (some ⟨pb, 0, none⟩) a.t.parts.length d')) W5 (.slice (some ⟨g, 0, none⟩) L'.length cap) v5 pb a.t.parts qs L' a.t.parts.length) => HC.out.step (P' := some ⟨pb, 0, none⟩) (d' := d') (pb := pb) (qs := qs) HB2.out HTX.out hb3 hd1 nofun (Or.inr ⟨rfl, by omega, HRR.out, hr⟩))
     obtain ⟨W4, hW4⟩ : ∃ W4, W4 = W3'.setCell ⟨a.g, a.i * 5 + 4, none⟩ (.slice (some ⟨pb, 0, none⟩) a.t.parts.length d') := ⟨_, rfl⟩
     rw [<- hW4] at c4 hz5 HR0 HSTEP ⊢
     have hpw : pb < W4.heap.size := by omega
     have hag4 : a.g < W4.heap.size := by omega
     clear hW4 hb3 hpb hpar hR0 hO4 hu0 hpbl HRN hz3 hag3 hz4 hagz
     go_wp2_with fail
     go_loopw [9, 47] (fun s9 ii wr => ∃ i : Nat, ii = .int .i64 i /\ i <= a.t.parts.length /\ Hid (Rnd7 W4 wr (.slice (some ⟨g, 0, none⟩) L'.length cap) s9 pb a.t.parts qs L' i)) (fun _ i _ => a.t.parts.length - (intOf i).toNat)
     case atStart => exact ⟨0, rfl, Nat.zero_le _, HR0⟩
     case round =>
      obtain ⟨i, rfl, hi, HR⟩ := hrel
      by_cases hlt : i < a.t.parts.length
      {have hi1 : (i : Int) < (a.t.parts.length : Int) := by omega
       have k4 := (HR.out.up.same hag4 (fun e => hag (Option.some.inj e).symm)).1 (a.i * 5 + 4)
       rw [c4] at k4
       obtain ⟨i0, hi2, hz0, hz1, hz2⟩ := info_parts (P := Tryz.prog) (e := 83) (z := .pointer none) (size := 1) (bytes := 8) ZeO
       have hlen : (L' ++ (kids pb a.t.parts qs).take i).length = L'.length + i := by rw [List.length_append, List.length_take, Z1o]; omega
       have hown := HR.out.opn
       unfold Opn at hown
       rw [hlen] at hown
       have HOW := Y1 hown
       clear hown hlen
       go_wp2_with (at_builtin; refine wpList_append_lies _ rfl _ _ 128 rfl 0 83 i0 (.pointer none) 1 8 Tryz.underlying128 hi2 hz0 hz1 hz2 rfl (by decide) _ _ _ rfl (HOW.out.alloc _) ⟨wr.heap.size, 0, none⟩ 1 1 [.pointer (some ⟨pb, i * 5, none⟩)] rfl rfl (World.news_of_block (cs := #[.pointer (some ⟨pb, i * 5, none⟩)]) (t := 83) (fr := (0, 0)) (heap_alloc_new _ _)) (by simp [Value.oneCell']) (by decide) (by unfold maxLen; omega) (by omega) (by simp) _ rfl ?_)
       intro g1 cap1 w5 hown1 hgrow hat1 hlt1
       have HN := Y1 (HR.out.step hlt hpw hgrow (by simpa [List.map_append, List.append_assoc, List.map_take] using hown1) (by simpa using hat1))
       clear hown1 hgrow hat1 k4
       go_wp2_with fail
       exact ⟨⟨i + 1, by go_num, by omega, HN⟩, by simp [intOf]; omega⟩}
      {have hie : i = a.t.parts.length := by omega
       have HN := Y1 (HSTEP.out wr _ (by have := HR.out; rwa [hie] at this))
       have hi1 : ¬ (i : Int) < (a.t.parts.length : Int) := by omega
       clear hie HR HSTEP HR0
       go_wp2
       go_roundg (sumL (L' ++ kids pb a.t.parts qs))
       case measure =>
        rw [Z1h, Z7I]
        rw [Z1h] at hk
        have := size_eq a.t
        simp [sumL] at hk ⊢
        omega
       case rel =>
        obtain ⟨D5, h5⟩ := HN.out
        refine ⟨L' ++ kids pb a.t.parts qs, D5, Nat.le_refl _, ?_, fun n hn => ?_, Y1 h5⟩
        {rw [Z1h, Z7I]
         rw [Z1h] at h400
         have := size_eq a.t
         simp [sumL] at h400 ⊢
         omega}
        {rcases List.mem_append.1 hn with hn | hn
         {exact HRI.out n (by simp [hn])}
         {obtain ⟨i, hi, rfl⟩ := List.getElem_of_mem hn
          rw [Z2u]
          exact right_part har (List.getElem_mem _)}}}}}}
def noneQ : Ptr := ⟨none, 0, none, 0⟩
def sW (w : World) (t : Sh) (q : Ptr) : World := (w.alloc (.cells (Y8 t q) 45)).alloc (.cells #[.int .i64 0, .string ⟨#[]⟩, .string ⟨#[]⟩, .slice none 0 0, .slice none 0 0] 45)
theorem Z9h (w : World) (t : Sh) (q : Ptr) : Below w.heap.size w (sW w t q) := Z08 (Z02 _ _) _
theorem Zhq (w : World) (t : Sh) (q : Ptr) : Box5 (sW w t q) (w.heap.size + 1) ZcX noneQ := by
 have h := Z0c (w.alloc (.cells (Y8 t q) 45)) ZcX noneQ
 have e : (w.alloc (.cells (Y8 t q) 45)).heap.size = w.heap.size + 1 := by simp
 rw [e] at h
 exact h
def put5 (W : World) (b : Nat) (a0 a1 a2 a3 a4 : Value) : World := ((((W.setCell ⟨b, 0, none⟩ a0).setCell ⟨b, 1, none⟩ a1).setCell ⟨b, 2, none⟩ a2).setCell ⟨b, 3, none⟩ a3).setCell ⟨b, 4, none⟩ a4
theorem Zg9 {W : World} {q : Ptr} {t : Sh} {F : List Nat} (h : Own W q t F) {b : Nat} (hb : ∀ x ∈ F, b ≠ x) (a0 a1 a2 a3 a4 : Value) : Own (put5 W b a0 a1 a2 a3 a4) q t F :=
 h.of (fun x hx => ((((Z0b _ ⟨b, 0, none⟩ a0 (hb x hx)).trans (Z0b _ ⟨b, 1, none⟩ a1 (hb x hx))).trans (Z0b _ ⟨b, 2, none⟩ a2 (hb x hx))).trans (Z0b _ ⟨b, 3, none⟩ a3 (hb x hx))).trans (Z0b _ ⟨b, 4, none⟩ a4 (hb x hx))) (by simp [put5, World.setCell])
theorem Zd2 {B : Nat} {a W : World} (h : Below B a W) {b : Nat} (hb : B <= b) (a0 a1 a2 a3 a4 : Value) : Below B a (put5 W b a0 a1 a2 a3 a4) :=
 ((((h.setCell (p := ⟨b, 0, none⟩) hb _).setCell (p := ⟨b, 1, none⟩) hb _).setCell (p := ⟨b, 2, none⟩) hb _).setCell (p := ⟨b, 3, none⟩) hb _).setCell (p := ⟨b, 4, none⟩) hb _
theorem ZaR (t : Sh) (q : Ptr) (w : World) (hq : ShAt w w.heap.size q t) (hz : size t <= 400) (hr : right t = true) :
 Calls Tryz.prog 44 #[.agg (Y8 t q)] w fun e w' => ∃ q' F, e = .returned (.agg (Y8 t q')) /\ Own w' q' t F /\ F.Nodup /\ (∀ b ∈ F, w.heap.size <= b) /\ Below w.heap.size w w' := by
 have HS := Y1 (Z9h w t q)
 have HE := Y1 (Zhq w t q)
 have HZ := Y1 (show (sW w t q).heap.size = w.heap.size + 2 from by simp [sW])
 have HCP := Y1 (ZaQ t q (sW w t q) (hq.next (Z9h w t q)) hz hr)
 obtain ⟨_, ⟨c0, c1, c2, c3, c4⟩, _⟩ := Z0c w t q
 clear hq hr
 go_enter Tryz.func44, Tryz.ntmps44
 go_wp2_with fail
 clear c0 c1 c2 c3 c4
 change Calls _ _ _ (sW w t q) _
 generalize sW w t q = W at HS HE HCP HZ ⊢
 refine HCP.out.mono ?_
 rintro e w1 ⟨q', F, rfl, ho, hnd, hF, hb1⟩
 have HO := Y1 ho
 have HND := Y1 hnd
 have HF := Y1 (fun b hb => show w.heap.size + 2 <= b from by have := hF b hb; have := HZ.out; omega)
 have HS1 := Y1 (Z00 HS.out hb1)
 have HE1 := Y1 (HE.out.next hb1)
 clear ho hnd hF hb1 HCP
 obtain ⟨_, ⟨r0, r1, r2, r3, r4⟩, f0, f1, f2, f3, f4⟩ := HE1.out
 simp only [Nat.zero_add] at r0 r1 r2 r3 r4
 go_wp2
 refine bodyPost_ret (v := .agg (Y8 t q')) (by simp [results, Tryz.results44, go_sem, r0, r1, r2, r3, r4]) rfl ?_
 exact ⟨q', F, rfl, Zg9 HO.out (fun x hx e => by have := HF.out x hx; omega) _ _ _ _ _, HND.out, fun b hb => by have := HF.out b hb; omega, Zd2 HS1.out (by omega) _ _ _ _ _⟩
end Go.Proofs.YtnkdedejfonbmaaGreatDoor
namespace Go.Proofs.YtnkdedejfonbmaaGreatDoor
open Go.RowKit
def also (d : Nat -> Bool) (i : Nat) : Nat -> Bool := fun j => cond (Nat.beq j i) true (d j)
section
variable {P : Program} {ops : Array Oper} {Q : Exit -> Act -> World -> Prop}
def StepInv (P : Program) (ops : Array Oper) (Q : Exit -> Act -> World -> Prop) (A : (Nat -> Value) -> Act) (I : (Nat -> Bool) -> (Nat -> Value) -> World -> Prop) (i : Nat) : Prop :=
 ∀ o, ops[i]? = some o -> ∀ (d : Nat -> Bool) (u : Nat -> Value) (W : World), I d u W -> d i = false -> (∀ j, waits o j = true -> d j = true) ->
  wpOp P ops Q i (fun a' w' => ∃ v, a' = A (upd u i v) /\ I (also d i) (upd u i v) w') (A u) W
def StepsInv (P : Program) (ops : Array Oper) (Q : Exit -> Act -> World -> Prop) (A : (Nat -> Value) -> Act) (I : (Nat -> Bool) -> (Nat -> Value) -> World -> Prop) (rs : List Nat) : Prop :=
 ∀ i ∈ rs, StepInv P ops Q A I i
theorem StepsInv.nil {A : (Nat -> Value) -> Act} {I : (Nat -> Bool) -> (Nat -> Value) -> World -> Prop} : StepsInv P ops Q A I [] := fun _ h => by cases h
theorem StepsInv.cons {A : (Nat -> Value) -> Act} {I : (Nat -> Bool) -> (Nat -> Value) -> World -> Prop} {i : Nat} {rs : List Nat} (o : Oper) (ho : ops[i]? = some o)
 (h : ∀ (d : Nat -> Bool) (u : Nat -> Value) (W : World) (K' : Act -> World -> Prop), I d u W -> d i = false -> (∀ j, waits o j = true -> d j = true) ->
  Shut (∀ v w', I (also d i) (upd u i v) w' -> K' (A (upd u i v)) w') ->
  if Region.wanted o (yielded ops (A u).tmps) = true then Oper.wp P o (A u) W K' Q else K' ((A u).put o.dst undef) W)
 (hs : StepsInv P ops Q A I rs) : StepsInv P ops Q A I (i :: rs) := fun j hj => by
 rcases List.mem_cons.1 hj with rfl | hj
 {intro o' ho' d u W hI hd hw
  rw [ho] at ho'
  obtain rfl : o = o' := Option.some.inj ho'
  exact wpOp_step ho (fun K' hK => h d u W K' hI hd hw (fun v w' h1 => hK _ _ ⟨v, rfl, h1⟩))}
 {exact hs j hj}
theorem ZaS (listed : Array Bool) {i : Nat} (hi : i < listed.size) : (fun j => (listed.setIfInBounds i true).getD j false) = also (fun j => listed.getD j false) i := by
 funext j
 unfold also
 by_cases h : j = i
 {subst h
  have : Nat.beq j j = true := Nat.beq_refl j
  rw [this]
  simp [hi]}
 {have hb : Nat.beq j i = false := by cases hb : Nat.beq j i <;> first | rfl | exact absurd (Nat.eq_of_beq_eq_true hb) h
  rw [hb]
  exact getD_set_ne false (Ne.symm h)}
theorem Zhr (A : (Nat -> Value) -> Act) (I : (Nat -> Bool) -> (Nat -> Value) -> World -> Prop) (hl : lowAfter ops = true)
 (hstep : StepsInv P ops Q A I (List.range ops.size))
 (hdone : ∀ d u W, I d u W -> (∀ j, j < ops.size -> d j = true) -> Q .normal (A u) W) :
 ∀ (fuel : Nat) (listed : Array Bool) (u : Nat -> Value) (W : World), listed.size = ops.size -> listed.toList.count false <= fuel -> I (fun j => listed.getD j false) u W ->
  wpAny P .any ops Q fuel listed (A u) W := by
 intro fuel
 induction fuel with
 | zero =>
  intro listed u W hsz hc hI
  have hr : Region.ready .any ops listed = [] := by
   refine List.eq_nil_iff_forall_not_mem.2 fun j hj => ?_
   obtain ⟨h1, o, ho, _⟩ := mem_ready.1 hj
   have hjs : j < listed.size := by
    rw [hsz]
    rcases Nat.lt_or_ge j ops.size with h | h
    {exact h}
    {rw [Array.getElem?_eq_none h] at ho; cases ho}
   refine Z6h listed.toList (by omega) j ?_
   simp [hjs] at h1 ⊢
   exact h1
  exact ⟨hr, hdone _ u W hI fun j hj => Z2W hl listed hr hsz (j + 1) j (by omega) hj⟩
 | succ fuel ih =>
  intro listed u W hsz hc hI
  refine ⟨fun hr => hdone _ u W hI fun j hj => Z2W hl listed hr hsz (j + 1) j (by omega) hj, fun i hi => ?_⟩
  obtain ⟨h1, o, ho, hall⟩ := mem_ready.1 hi
  have his : i < ops.size := by
   rcases Nat.lt_or_ge i ops.size with h | h
   {exact h}
   {rw [Array.getElem?_eq_none h] at ho; cases ho}
  have hil : i < listed.size := by omega
  have hdi : listed.getD i false = false := by simp [hil] at h1 ⊢; exact h1
  have hdep : ∀ j, waits o j = true -> listed.getD j false = true := fun j hj => by
   obtain ⟨e, he, hb⟩ := Array.any_eq_true'.1 hj
   simp only [Bool.and_eq_true, beq_iff_eq] at hb
   obtain ⟨hb, rfl⟩ := hb
   exact hall e he hb
  refine wpOp_mono (fun a' w' h => ?_) (hstep i (List.mem_range.2 his) o ho (fun j => listed.getD j false) u W hI hdi hdep)
  obtain ⟨v, rfl, hI'⟩ := h
  rw [<- ZaS listed hil] at hI'
  refine ih _ _ _ (by simpa using hsz) ?_ hI'
  have h2 : listed.toList[i]? = some false := by simp [hil] at h1 ⊢; exact h1
  have := Z7s listed.toList i h2
  rw [Array.toList_setIfInBounds]
  omega
theorem Z6A {id : Nat} {w : World} {rs : List Nat} (A : (Nat -> Value) -> Act) (u0 : Nat -> Value) (I : (Nat -> Bool) -> (Nat -> Value) -> World -> Prop) (hm : P.follows .mixedOrders = true) (hl : lowAfter ops = true)
 (hrs : List.range ops.size = rs) (hI : I (fun _ => false) u0 w.drew) (hstep : StepsInv P ops Q A I rs)
 (hdone : ∀ d u W, I d u W -> (∀ j, j < ops.size -> d j = true) -> Q .normal (A u) W) :
 (Code.region id ops true).wp P Q (A u0) w := by
 subst hrs
 refine wp_region_any hm (Zhr A I hl hstep hdone _ _ _ _ (by simp) ?_ ?_)
 {exact Nat.le_trans List.count_le_length (by simp)}
 {have e : (fun j => (Array.replicate ops.size false).getD j false) = fun _ => false := by
   funext j
   rcases Nat.lt_or_ge j ops.size with h | h
   {simp [h]}
   {simp [h]}
  rw [e]
  exact hI}
theorem Z2d {o : Oper} {a : Act} {W W' : World} {K' : Act -> World -> Prop} {E : Prop} (hw : Region.wanted o (yielded ops a.tmps) = true)
 (hrun : (execOp a.eval o).run P W = .ok .skip W') (hK : K' (a.put o.dst undef) W') :
 if Region.wanted o (yielded ops a.tmps) = true then Oper.wp P o a W K' Q else E := by
 rw [if_pos hw, Oper.wp, hrun, Oper.upon_skip]
 exact hK
end
end Go.Proofs.YtnkdedejfonbmaaGreatDoor
namespace Go.Proofs.YtnkdedejfonbmaaGreatDoor
open Go.RowKit
theorem Z0M (d : Nat -> Bool) (i : Nat) : also d i i = true := by
 have : Nat.beq i i = true := Nat.beq_refl i
 unfold also; rw [this]; rfl
theorem Z06 (d : Nat -> Bool) {i j : Nat} (h : j ≠ i) : also d i j = d j := by
 have : Nat.beq j i = false := by cases hb : Nat.beq j i <;> first | rfl | exact absurd (Nat.eq_of_beq_eq_true hb) h
 unfold also; rw [this]; rfl
def InvC (S : Nat) (Ch : (Nat -> Bool) -> (Nat -> Value) -> World -> Prop) (Fin : World -> Prop) (d : Nat -> Bool) (u : Nat -> Value) (W : World) : Prop := (d S = false /\ Ch d u W) \/ (d S = true /\ (∀ j, j < S -> d j = true) /\ Fin W)
theorem InvC.open {S : Nat} {Ch : (Nat -> Bool) -> (Nat -> Value) -> World -> Prop} {Fin : World -> Prop} {d : Nat -> Bool} {u : Nat -> Value} {W : World} (h : InvC S Ch Fin d u W) {j : Nat} (hd : d j = false) (hj : j <= S) : d S = false /\ Ch d u W := by
 rcases h with h | ⟨h1, h2, _⟩
 {exact h}
 {rcases Nat.lt_or_eq_of_le hj with h | rfl
  {rw [h2 j h] at hd; cases hd}
  {rw [h1] at hd; cases hd}}
theorem InvC.next {S : Nat} {Ch : (Nat -> Bool) -> (Nat -> Value) -> World -> Prop} {Fin : World -> Prop} {d : Nat -> Bool} {u : Nat -> Value} {W' : World} {j : Nat} {v : Value} (h : d S = false) (hj : j < S) (hc : Ch (also d j) (upd u j v) W') : InvC S Ch Fin (also d j) (upd u j v) W' :=
 Or.inl ⟨by rw [Z06 d (show S ≠ j by omega)]; exact h, hc⟩
theorem InvC.last {S : Nat} {Ch : (Nat -> Bool) -> (Nat -> Value) -> World -> Prop} {Fin : World -> Prop} {d : Nat -> Bool} {u : Nat -> Value} {W' : World} (h : ∀ j, j < S -> d j = true) (hf : Fin W') : InvC S Ch Fin (also d S) u W' :=
 Or.inr ⟨Z0M d S, fun j hj => by rw [Z06 d (show j ≠ S by omega)]; exact h j hj, hf⟩
structure ChN (W0 : World) (ty : TypeId) (size : Nat) (val : Nat -> Option Value) (x y z : List Value) (lx lz : Nat) (d : Nat -> Bool) (u : Nat -> Value) (W : World) : Prop where
 bel : Below W0.heap.size W0 W
 vals : ∀ j, d j = true -> ∀ v, val j = some v -> u j = v
 rA : d 0 = true -> d 5 = false -> W.ownsRow W0.heap.size ty size (u 0) 0 []
 rB : d 5 = true -> d 12 = false -> W.ownsRow W0.heap.size ty size (u 5) lx x
 rC : d 12 = true -> d 17 = false -> W.ownsRow W0.heap.size ty size (u 12) (lx + 1) (x ++ y)
 rE : d 17 = true -> W.ownsRow W0.heap.size ty size (u 17) (lx + 1 + lz) (x ++ y ++ z)
 rN : d 11 = true -> d 12 = false -> ∃ g, u 11 = .slice (some ⟨g, 0, none⟩) 1 1 /\ g < W.heap.size /\ (∀ j v, y[j]? = some v -> W.cell? ⟨g, j, none⟩ = some v) /\ (d 0 = true -> d 5 = false -> (u 0).ownBlock ≠ some g) /\ (d 5 = true -> (u 5).ownBlock ≠ some g)
 oB : d 5 = true -> d 0 = true
 oC : d 12 = true -> d 5 = true
 oN : d 12 = true -> d 11 = true
 oE : d 17 = true -> d 12 = true
theorem ChN.pure {W0 W : World} {ty : TypeId} {size : Nat} {val : Nat -> Option Value} {x y z : List Value} {lx lz : Nat} {d : Nat -> Bool} {u : Nat -> Value} (h : ChN W0 ty size val x y z lx lz d u W) {j : Nat} (hj : j ≠ 0 /\ j ≠ 5 /\ j ≠ 12 /\ j ≠ 17 /\ j ≠ 11) (v : Value) (hv : ∀ v', val j = some v' -> v = v') :
 ChN W0 ty size val x y z lx lz (also d j) (upd u j v) W := by
 obtain ⟨j0, j1, j2, j3, j4⟩ := hj
 have k0 := Z06 d (show 0 ≠ j by omega)
 have l0 := Z0a u v (show 0 ≠ j by omega)
 have k5 := Z06 d (show 5 ≠ j by omega)
 have l5 := Z0a u v (show 5 ≠ j by omega)
 have k11 := Z06 d (show 11 ≠ j by omega)
 have l11 := Z0a u v (show 11 ≠ j by omega)
 have k12 := Z06 d (show 12 ≠ j by omega)
 have l12 := Z0a u v (show 12 ≠ j by omega)
 have k17 := Z06 d (show 17 ≠ j by omega)
 have l17 := Z0a u v (show 17 ≠ j by omega)
 refine ⟨h.bel, fun i hi v' hv' => ?_, ?_, ?_, ?_, ?_, ?_, ?_, ?_, ?_, ?_⟩
 {by_cases hij : i = j
  {subst hij; rw [Z0G]; exact hv v' hv'}
  {rw [Z06 d hij] at hi; rw [Z0a u v hij]; exact h.vals i hi v' hv'}}
 {simp only [k0, l0, k5, l5, k11, l11, k12, l12, k17, l17]; exact h.rA}
 {simp only [k0, l0, k5, l5, k11, l11, k12, l12, k17, l17]; exact h.rB}
 {simp only [k0, l0, k5, l5, k11, l11, k12, l12, k17, l17]; exact h.rC}
 {simp only [k0, l0, k5, l5, k11, l11, k12, l12, k17, l17]; exact h.rE}
 {simp only [k0, l0, k5, l5, k11, l11, k12, l12, k17, l17]; exact h.rN}
 {simp only [k0, l0, k5, l5, k11, l11, k12, l12, k17, l17]; exact h.oB}
 {simp only [k0, l0, k5, l5, k11, l11, k12, l12, k17, l17]; exact h.oC}
 {simp only [k0, l0, k5, l5, k11, l11, k12, l12, k17, l17]; exact h.oN}
 {simp only [k0, l0, k5, l5, k11, l11, k12, l12, k17, l17]; exact h.oE}
structure ChP (W0 : World) (ty : TypeId) (size : Nat) (val : Nat -> Option Value) (x y z : List Value) (lx lz : Nat) (d : Nat -> Bool) (u : Nat -> Value) (W : World) : Prop where
 bel : Below W0.heap.size W0 W
 vals : ∀ j, d j = true -> ∀ v, val j = some v -> u j = v
 rA : d 0 = true -> d 5 = false -> W.ownsRow W0.heap.size ty size (u 0) 0 []
 rB : d 5 = true -> d 8 = false -> W.ownsRow W0.heap.size ty size (u 5) lx x
 rC : d 8 = true -> d 13 = false -> W.ownsRow W0.heap.size ty size (u 8) (lx + 1) (x ++ y)
 rE : d 13 = true -> W.ownsRow W0.heap.size ty size (u 13) (lx + 1 + lz) (x ++ y ++ z)
 rN : d 7 = true -> d 8 = false -> ∃ g, u 7 = .slice (some ⟨g, 0, none⟩) 1 1 /\ g < W.heap.size /\ (∀ j v, y[j]? = some v -> W.cell? ⟨g, j, none⟩ = some v) /\ (d 0 = true -> d 5 = false -> (u 0).ownBlock ≠ some g) /\ (d 5 = true -> (u 5).ownBlock ≠ some g)
 oB : d 5 = true -> d 0 = true
 oC : d 8 = true -> d 5 = true
 oN : d 8 = true -> d 7 = true
 oE : d 13 = true -> d 8 = true
theorem ChP.pure {W0 W : World} {ty : TypeId} {size : Nat} {val : Nat -> Option Value} {x y z : List Value} {lx lz : Nat} {d : Nat -> Bool} {u : Nat -> Value} (h : ChP W0 ty size val x y z lx lz d u W) {j : Nat} (hj : j ≠ 0 /\ j ≠ 5 /\ j ≠ 8 /\ j ≠ 13 /\ j ≠ 7) (v : Value) (hv : ∀ v', val j = some v' -> v = v') :
 ChP W0 ty size val x y z lx lz (also d j) (upd u j v) W := by
 obtain ⟨j0, j1, j2, j3, j4⟩ := hj
 have k0 := Z06 d (show 0 ≠ j by omega)
 have l0 := Z0a u v (show 0 ≠ j by omega)
 have k5 := Z06 d (show 5 ≠ j by omega)
 have l5 := Z0a u v (show 5 ≠ j by omega)
 have k7 := Z06 d (show 7 ≠ j by omega)
 have l7 := Z0a u v (show 7 ≠ j by omega)
 have k8 := Z06 d (show 8 ≠ j by omega)
 have l8 := Z0a u v (show 8 ≠ j by omega)
 have k13 := Z06 d (show 13 ≠ j by omega)
 have l13 := Z0a u v (show 13 ≠ j by omega)
 refine ⟨h.bel, fun i hi v' hv' => ?_, ?_, ?_, ?_, ?_, ?_, ?_, ?_, ?_, ?_⟩
 {by_cases hij : i = j
  {subst hij; rw [Z0G]; exact hv v' hv'}
  {rw [Z06 d hij] at hi; rw [Z0a u v hij]; exact h.vals i hi v' hv'}}
 {simp only [k0, l0, k5, l5, k7, l7, k8, l8, k13, l13]; exact h.rA}
 {simp only [k0, l0, k5, l5, k7, l7, k8, l8, k13, l13]; exact h.rB}
 {simp only [k0, l0, k5, l5, k7, l7, k8, l8, k13, l13]; exact h.rC}
 {simp only [k0, l0, k5, l5, k7, l7, k8, l8, k13, l13]; exact h.rE}
 {simp only [k0, l0, k5, l5, k7, l7, k8, l8, k13, l13]; exact h.rN}
 {simp only [k0, l0, k5, l5, k7, l7, k8, l8, k13, l13]; exact h.oB}
 {simp only [k0, l0, k5, l5, k7, l7, k8, l8, k13, l13]; exact h.oC}
 {simp only [k0, l0, k5, l5, k7, l7, k8, l8, k13, l13]; exact h.oN}
 {simp only [k0, l0, k5, l5, k7, l7, k8, l8, k13, l13]; exact h.oE}
end Go.Proofs.YtnkdedejfonbmaaGreatDoor
