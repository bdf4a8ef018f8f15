/- What the proofs of TermsBare, TermsChecks, TermsDeep, TermsSame, TermsSames want, part 22. -/
import Derived.StillTailTactics
import Derived.Deep.RegionHeld3
import Derived.Test.YtnkdedejfonbmaaGreatDoorK0n21
import Derived.Test.YtnkdedejfonbmaaGreatDoorK0n20
set_option linter.unusedVariables false
set_option linter.unusedSimpArgs false
set_option maxRecDepth 100000
set_option maxHeartbeats 16000000
namespace Go.Proofs.YtnkdedejfonbmaaGreatDoor
open Go.RowKit Tms
structure UpZ (S R : Nat -> Prop) (W W' : World) : Prop where
 os : W'.os = W.os
 tape : W'.tape = W.tape
 output : W'.output = W.output
 size : W'.heap.size = W.heap.size
 other : ∀ b, ¬ R b -> ¬ S b -> W'.heap[b]? = W.heap[b]?
 keep : ∀ b k, ¬ R b -> k % 9 ≠ 8 -> W'.cell? ⟨b, k, none⟩ = W.cell? ⟨b, k, none⟩
 zero : ∀ b i, ¬ R b -> W'.cell? ⟨b, i * 9 + 8, none⟩ = W.cell? ⟨b, i * 9 + 8, none⟩ \/ W'.cell? ⟨b, i * 9 + 8, none⟩ = some (.int .i64 0)
 fz : ∀ b k, ¬ R b -> W'.frozen? ⟨b, k, none⟩ = W.frozen? ⟨b, k, none⟩
def noR (_ : Nat) : Prop := False
theorem UpZ.refl (S R : Nat -> Prop) (W : World) : UpZ S R W W := ⟨rfl, rfl, rfl, rfl, fun _ _ _ => rfl, fun _ _ _ _ => rfl, fun _ _ _ => Or.inl rfl, fun _ _ _ => rfl⟩
theorem UpZ.trans {S R : Nat -> Prop} {a b c : World} (h : UpZ S R a b) (k : UpZ S R b c) : UpZ S R a c :=
 ⟨k.os.trans h.os, k.tape.trans h.tape, k.output.trans h.output, k.size.trans h.size, fun x hr hx => (k.other x hr hx).trans (h.other x hr hx), fun x y hr hy => (k.keep x y hr hy).trans (h.keep x y hr hy), fun x y hr => by
  rcases k.zero x y hr with e | e
  {rw [e]; exact h.zero x y hr}
  · exact Or.inr e, fun x y hr => (k.fz x y hr).trans (h.fz x y hr)⟩
theorem UpZ.weak {S : Nat -> Prop} (R : Nat -> Prop) {a b : World} (h : UpZ S noR a b) : UpZ S R a b :=
 ⟨h.os, h.tape, h.output, h.size, fun x _ hx => h.other x (fun e => e) hx, fun x y _ hy => h.keep x y (fun e => e) hy, fun x y _ => h.zero x y (fun e => e), fun x y _ => h.fz x y (fun e => e)⟩
theorem UpZ.set {S R : Nat -> Prop} {W : World} {b i : Nat} {u : Value} (hb : S b) (hu : W.cell? ⟨b, i * 9 + 8, none⟩ = some u) : UpZ S R W (W.setCell ⟨b, i * 9 + 8, none⟩ (.int .i64 0)) :=
 ⟨rfl, rfl, rfl, Z17 _ _ _, fun x _ hx => Below.heap_setCell _ _ _ _ (fun e => hx (by rw [e]; exact hb)), fun x y _ hy => World.cell?_setCell_other _ _ _ _ (fun e => by have := congrArg Addr.off e; simp at this; omega), fun x y _ => by
  by_cases e : (⟨b, i * 9 + 8, none⟩ : Addr) = ⟨x, y * 9 + 8, none⟩
  {rw [<- e]; exact Or.inr (World.cell?_setCell_same _ _ _ hu)}
  · exact Or.inl (World.cell?_setCell_other _ _ _ _ e), fun x y _ => World.frozen?_setCell ..⟩
theorem UpZ.same {S R : Nat -> Prop} {W W' : World} (h : UpZ S R W W') {b : Nat} (hb : ¬ S b) (hr : ¬ R b) : Z0r W W' b :=
 ⟨fun k => World.cell?_of_block (w := W) (h.other b hr hb), fun k => World.frozen?_of_block (w := W) (h.other b hr hb)⟩
theorem UpZ.at8 {S R : Nat -> Prop} {W W' : World} (h : UpZ S R W W') {b i : Nat} {u : Value} (hr : ¬ R b) (hu : W.cell? ⟨b, i * 9 + 8, none⟩ = some u) : ∃ v, W'.cell? ⟨b, i * 9 + 8, none⟩ = some v := by
 rcases h.zero b i hr with e | e
 {exact ⟨u, e.trans hu⟩}
 {exact ⟨_, e⟩}
theorem UpZ.none8 {S R : Nat -> Prop} {W W' : World} (h : UpZ S R W W') {b i : Nat} (hr : ¬ R b) (hu : W.cell? ⟨b, i * 9 + 8, none⟩ = some (.int .i64 0)) : W'.cell? ⟨b, i * 9 + 8, none⟩ = some (.int .i64 0) := by
 rcases h.zero b i hr with e | e
 {exact e.trans hu}
 {exact e}
theorem Z9v {t : Tm} {q : TP} (h : TSmall t q) : TSmall (strip t) q := by
 obtain ⟨i1, i2, i3, i4, i5, i6, i7, i8, i9, i10, i11, i12, i13, i14, i15, i16, i17, i18, i19⟩ := h
 rw [Z0A]
 exact ⟨i1, i2, i3, i4, i5, i6, i7, by simpa using i8, i9, i10, i11, by simpa using i12, i13, i14, i15, i16, i17, ⟨by show (-9223372036854775808 : Int) <= 0; omega, by show (0 : Int) <= 9223372036854775807; omega⟩, i19⟩
theorem Zf4 {S R : Nat -> Prop} {W0 W W' : World} {b i : Nat} {t : Tm} {q : TP} (hR : ¬ R b) (h : Tm9 W0 b (i * 9) t q) (hu : UpZ S noR W0 W) (hz : W.cell? ⟨b, i * 9 + 8, none⟩ = some (.int .i64 0)) (hu2 : UpZ S R W W') : Tm9 W' b (i * 9) (strip t) q := by
 obtain ⟨h0, h1, h2, h3, h4, h5, h6, h7, h8⟩ := h
 have e : ∀ k, k % 9 ≠ 8 -> W'.cell? ⟨b, k, none⟩ = W0.cell? ⟨b, k, none⟩ := fun k hk => (hu2.keep b k hR hk).trans (hu.keep b k (fun e => e) hk)
 rw [Z0A]
 refine ⟨(e _ (by omega)).trans h0, (e _ (by omega)).trans h1, (e _ (by omega)).trans h2, (e _ (by omega)).trans h3, (e _ (by omega)).trans h4, (e _ (by omega)).trans h5, (e _ (by omega)).trans h6, ?_, hu2.none8 hR hz⟩
 refine (e _ (by omega)).trans (h7.trans ?_)
 simp
theorem Zdc {S R : Nat -> Prop} {W0 W : World} {Ψ : Nat -> Option (List Tm)} {N : List Nat} {t : Tm} {q : TP} {pb : Nat} {qs : Nat -> TP} (hN : ∀ b ∈ N, ¬ S b /\ ¬ R b) (hk : NodeOk W0 Ψ N q t) (hu : UpZ S R W0 W)
 (hp : t.parts.length = 0 \/ q.P = some ⟨pb, 0, none⟩ /\ pb < W.heap.size) (hr : ∀ j (h : j < t.parts.length), Tm9 W pb (j * 9) (strip (t.parts[j]'h)) (qs j) /\ TmAt W W.heap.size (qs j) (strip (t.parts[j]'h))) : TmAt W W.heap.size q (strip t) := by
 obtain ⟨r1, r2, r3⟩ := hk.rest W (fun b hb => hu.same (hN b hb).1 (hN b hb).2) (by rw [hu.size]; exact Nat.le_refl _)
 have hl : (strip t).parts.length = t.parts.length := by rw [Z0A]; simp
 have hg : ∀ j (h : j < (strip t).parts.length), (strip t).parts[j]'h = strip (t.parts[j]'(by omega)) := by
  intro j h
  simp [Z0A]
 refine TmAt.mk q (strip t) pb 0 qs (Z9v hk.sm) (by rw [Z0A]; exact r1) (by rw [Z0A]; exact r2) (by rw [Z0A]; exact r3) (by rw [hl]; exact hp) (fun j hj => ?_) (fun j hj => ?_)
 {rw [hg j hj, Nat.zero_add]; exact (hr j (by omega)).1}
 {rw [hg j hj]; exact (hr j (by omega)).2}
theorem Z9w (S R : Nat -> Prop) (base : Nat) (W0 : World) (Ψ : Nat -> Option (List Tm)) (N : List Nat) (hT : Typed base W0 Ψ N) (hS : ∀ b l, Ψ b = some l -> S b) (hRS : ∀ b, S b -> ¬ R b) (hN : ∀ b ∈ N, ¬ S b /\ ¬ R b) (t : Tm) :
 ∀ (q : TP) (b i : Nat) (W : World), S b -> b < W0.heap.size -> Tm9 W0 b (i * 9) t q -> (∀ k, W0.frozen? ⟨b, k, none⟩ = false) -> NodeOk W0 Ψ N q t -> UpZ S noR W0 W ->
 Calls Tryz.prog 26 #[.pointer (some ⟨b, i * 9, none⟩)] W fun e w' => e = .returned (.tuple #[]) /\ UpZ S noR W w' /\ ∀ w'', UpZ S R w' w'' -> Tm9 w'' b (i * 9) (strip t) q /\ TmAt w'' w''.heap.size q (strip t) := by
 induction t using Tm.ind with
 | h t ih =>
 intro q b i W hSb hb h9 hf hk hu
 have H9 := Y1 h9
 have HK := Y1 hk
 have HU := Y1 hu
 have HSB := Y1 hSb
 have HF := Y1 hf
 have hm := hk.sm.m
 obtain ⟨u8, hu8⟩ : ∃ u, W.cell? ⟨b, i * 9 + 8, none⟩ = some u := by
  obtain ⟨_, _, _, _, _, _, _, _, h8⟩ := h9
  exact hu.at8 (fun e => e) h8
 have hf8 : W.frozen? ⟨b, i * 9 + 8, none⟩ = false := (hu.fz _ _ (fun e => e)).trans (hf _)
 have hU1 := UpZ.set (R := noR) hSb hu8
 have hz1 : (W.setCell ⟨b, i * 9 + 8, none⟩ (.int .i64 0)).cell? ⟨b, i * 9 + 8, none⟩ = some (.int .i64 0) := World.cell?_setCell_same _ _ _ hu8
 have HU1 := Y1 hU1
 have HZ1 := Y1 hz1
 have h7 : ∀ wr, UpZ S noR (W.setCell ⟨b, i * 9 + 8, none⟩ (.int .i64 0)) wr -> wr.cell? ⟨b, i * 9 + 7, none⟩ = some (.slice q.P t.parts.length q.d) := fun wr hw => by
  obtain ⟨_, _, _, _, _, _, _, h7, _⟩ := H9.out
  exact (hw.keep b _ (fun e => e) (by omega)).trans ((HU1.out.keep b _ (fun e => e) (by omega)).trans ((HU.out.keep b _ (fun e => e) (by omega)).trans h7))
 have H7 := Y1 h7
 obtain ⟨qs, pb, hpp, hqs⟩ : ∃ (qs : Nat -> TP) (pb : Nat), (t.parts.length = 0 \/ q.P = some ⟨pb, 0, none⟩ /\ Ψ pb = some t.parts) /\ ∀ j (h : j < t.parts.length), Tm9 W0 pb (j * 9) (t.parts[j]'h) (qs j) /\ NodeOk W0 Ψ N (qs j) (t.parts[j]'h) := by
  rcases hk.parts with h0 | ⟨pb, e1, e2⟩
  {exact ⟨fun _ => noneT, 0, Or.inl h0, fun j hj => by omega⟩}
  {refine ⟨fun j => if h : j < t.parts.length then Classical.choose (hT.ok pb _ e2 j h) else noneT, pb, Or.inr ⟨e1, e2⟩, fun j hj => ?_⟩
   simp only [dif_pos hj]
   exact Classical.choose_spec (hT.ok pb _ e2 j hj)}
 have HPP := Y1 hpp
 have HQS := Y1 hqs
 have IH := Y1 ih
 have h70 := h7 _ (UpZ.refl _ _ _)
 clear h7 hk hu hSb hf h9 hU1 hz1 hpp hqs ih
 go_enter Tryz.func26, Tryz.ntmps26
 go_wp2_with fail
 obtain ⟨W1, hW1⟩ : ∃ W1, W1 = W.setCell ⟨b, i * 9 + 8, none⟩ (.int .i64 0) := ⟨_, rfl⟩
 rw [<- hW1] at HU1 HZ1 H7 h70
 try rw [<- hW1]
 clear hW1 hu8 hf8
 go_wp2_with fail
 clear h70
 go_loopw [11] (fun ii wr => ∃ n : Nat, ii = .int .i64 n /\ n <= t.parts.length /\ Hid (UpZ S noR W1 wr) /\ Hid (∀ j (h : j < t.parts.length), j < n -> ∀ w'', UpZ S R wr w'' -> Tm9 w'' pb (j * 9) (strip (t.parts[j]'h)) (qs j) /\ TmAt w'' w''.heap.size (qs j) (strip (t.parts[j]'h)))) (fun ii _ => t.parts.length - (intOf ii).toNat)
 case atStart => exact ⟨0, rfl, Nat.zero_le _, Y1 (UpZ.refl _ _ _), Y1 (fun j h hj => absurd hj (by omega))⟩
 case round =>
  obtain ⟨n, rfl, hn, HUR, HD⟩ := hrel
  have hUR0 : UpZ S noR W0 wr := (HU.out.trans HU1.out).trans HUR.out
  by_cases hlt : n < t.parts.length
  {rcases HPP.out with h0 | ⟨hqP, hΨ⟩
   {omega}
   {have hi1 : (n : Int) < (t.parts.length : Int) := by omega
    have k7 := H7.out _ HUR.out
    rw [hqP] at k7
    obtain ⟨x, hx⟩ : ∃ x, x = t.parts[n]'hlt := ⟨_, rfl⟩
    obtain ⟨hb1, hb2, hb3, hb4⟩ := hT.blk pb _ hΨ
    have CALL := IH.out (t.parts[n]'hlt) (List.getElem_mem _) (qs n) pb n _ (hS pb _ hΨ) hb2 (HQS.out n hlt).1 hb4 (HQS.out n hlt).2 hUR0
    clear hΨ hb1 hb2 hb3 hb4 hUR0
    rw [hqP]
    clear hqP
    go_wp2_with fail
    refine CALL.mono ?_
    rintro e w2 ⟨rfl, hu2, hz2⟩
    have HN : Hid (∀ j (h : j < t.parts.length), j < n + 1 -> ∀ w'', UpZ S R w2 w'' -> Tm9 w'' pb (j * 9) (strip (t.parts[j]'h)) (qs j) /\ TmAt w'' w''.heap.size (qs j) (strip (t.parts[j]'h))) := Y1 (fun j h hj w'' hw => by
     by_cases e : j = n
     {subst e; exact hz2 w'' hw}
     · exact HD.out j h (by omega) w'' ((hu2.weak R).trans hw))
    have HUN := Y1 (HUR.out.trans hu2)
    clear hu2 hz2 CALL k7
    go_wp2
    go_roundw
    case rel => exact ⟨n + 1, by go_num, by omega, HUN, HN⟩
    case measure => simp [intOf]; omega}}
  {have hi1 : ¬ (n : Int) < (t.parts.length : Int) := by omega
   have HE : Hid (UpZ S R W0 wr) := Y1 (hUR0.weak R)
   clear hUR0
   go_wp2
   refine bodyPost_end (v := .tuple #[]) (by simp [results, Tryz.results26, go_sem]) rfl ?_
   refine ⟨rfl, HU1.out.trans HUR.out, fun w'' hw => ⟨Zf4 (hRS b HSB.out) H9.out (HU.out.trans HU1.out) HZ1.out ((HUR.out.weak R).trans hw), Zdc hN HK.out (HE.out.trans hw) ?_ (fun j hj => HD.out j hj (by omega) w'' hw)⟩⟩
   rcases HPP.out with h0 | ⟨hqP, hΨ⟩
   {exact Or.inl h0}
   {exact Or.inr ⟨hqP, by rw [(HE.out.trans hw).size]; exact (hT.blk pb _ hΨ).2.1⟩}}
theorem UpZ.toBelow {S : Nat -> Prop} {B : Nat} {a b : World} (h : UpZ S noR a b) (hS : ∀ x, S x -> B <= x) : Below B a b :=
 ⟨h.os, h.tape, h.output, by rw [h.size]; exact Nat.le_refl _, fun k hk => h.other k (fun e => e) (fun hs => by have := hS k hs; omega)⟩
theorem Z1I (S : Nat -> Prop) (W : World) (r k : Nat) (u : Value) : UpZ S (fun b => b = r) W (W.setCell ⟨r, k, none⟩ u) :=
 ⟨rfl, rfl, rfl, Z17 _ _ _, fun b h _ => Below.heap_setCell _ _ _ _ h, fun b i h _ => (Z0b W ⟨r, k, none⟩ u (Ne.symm h)).1 i, fun b i h => Or.inl ((Z0b W ⟨r, k, none⟩ u (Ne.symm h)).1 _), fun b i h => (Z0b W ⟨r, k, none⟩ u (Ne.symm h)).2 i⟩
theorem Zge (S : Nat -> Prop) (W : World) (r : Nat) (a0 a1 a2 a3 a4 a5 a6 a7 a8 : Value) : UpZ S (fun b => b = r) W (put9 W r a0 a1 a2 a3 a4 a5 a6 a7 a8) := by
 unfold put9
 exact (((((((((Z1I S _ r 0 a0).trans (Z1I S _ r 1 a1)).trans (Z1I S _ r 2 a2)).trans (Z1I S _ r 3 a3)).trans (Z1I S _ r 4 a4)).trans (Z1I S _ r 5 a5)).trans (Z1I S _ r 6 a6)).trans (Z1I S _ r 7 a7)).trans (Z1I S _ r 8 a8))
theorem Z6G (t : Tm) (q : TP) (w : World) (hq : TmAt w w.heap.size q t) (hg : WGlobs w) (hu : Z0l w) (ht : tame t = true) (hc : check t = 0) :
 Calls Tryz.prog 15 #[.agg (Y7 t q)] w fun e w' => ∃ q', e = .returned (.agg (Y7 (strip t) q')) /\ TmAt w' w'.heap.size q' (strip t) /\ Below w.heap.size w w' := by
 obtain ⟨hz, _, hr⟩ := Tms.check_ok hc
 have HS := Y1 (Z2w w t q)
 have HA := Y1 (Zf2 w t q)
 have HE := Y1 (Zf3 w t q)
 have HZ := Y1 (show (tW w t q).heap.size = w.heap.size + 2 from by simp [tW])
 have HQ := Y1 (hq.next (Z2w w t q))
 have HG := Y1 (hg.next (Z2w w t q))
 have HU := Y1 (hu.next (Z2w w t q))
 have HCP := Y1 (Zdb t q (tW w t q) HQ.out hz hr ht)
 obtain ⟨_, ⟨c0, c1, c2, c3, c4, c5, c6, c7, c8⟩, _⟩ := Zf2 w t q
 simp only [Nat.zero_add] at c0 c1 c2 c3 c4 c5 c6 c7 c8
 clear hq hg hu
 go_enter Tryz.func15, Tryz.ntmps15
 go_wp2_with fail
 change Calls _ _ _ (tW w t q) _
 clear c0 c1 c2 c3 c4 c5 c6 c7 c8
 generalize tW w t q = W at HS HA HE HZ HQ HG HU HCP ⊢
 refine HCP.out.mono ?_
 rintro e w1 ⟨q1, Ψ, N, rfl, hty, hno, hb1⟩
 have HTY := Y1 hty
 have HNO := Y1 hno
 have HS1 := Y1 (Z00 HS.out hb1)
 have HA1 := Y1 (HA.out.next hb1)
 have HE1 := Y1 (HE.out.next hb1)
 have HQ1 := Y1 (HQ.out.next hb1)
 have HG1 := Y1 (HG.out.next hb1)
 have HU1 := Y1 (HU.out.next hb1)
 have HZ1 := Y1 (show W.heap.size <= w1.heap.size from hb1.size)
 clear hty hno hb1 HCP
 have hb2 := Z02 w1 (.cells (Y7 t q1) 26)
 have HB2 := Y1 hb2
 have HBB := Y1 (Z07 w1 t q1)
 obtain ⟨_, ⟨c0, c1, c2, c3, c4, c5, c6, c7, c8⟩, _⟩ := HA1.out.next hb2
 simp only [Nat.zero_add] at c0 c1 c2 c3 c4 c5 c6 c7 c8
 clear hb2
 go_wp2_with fail
 clear c0 c1 c2 c3 c4 c5 c6 c7 c8
 obtain ⟨w2, hw2⟩ : ∃ w2, w2 = w1.alloc (.cells (Y7 t q1) 26) := ⟨_, rfl⟩
 rw [<- hw2] at HB2 HBB
 rw [<- hw2]
 have hz2 : w2.heap.size = w1.heap.size + 1 := by rw [hw2]; simp
 clear hw2
 have HM := Z2H t q w2 (HQ1.out.next HB2.out) (HG1.out.next HB2.out) (HU1.out.next HB2.out) (Z09 ht)
 refine HM.mono ?_
 rintro e w3 ⟨rfl, hb3⟩
 rw [hc, show decide ((0 : Int) = 0) = true from rfl]
 have hb13 : Below w1.heap.size w1 w3 := HB2.out.trans (hb3.mono (by omega))
 have hz3 := hb3.size
 have HT3 : Typed (W.heap.size + 2) w3 Ψ N := HTY.out.of (fun b l hb => Z0r.below hb13 (HTY.out.blk b l hb).2.1) (fun b hb => Z0r.below hb13 (HTY.out.nn b hb).2) hb13.size
 have HN3 : NodeOk w3 Ψ N q1 t := HNO.out.of (fun b hb => Z0r.below hb13 (HTY.out.nn b hb).2) hb13.size
 obtain ⟨hbl, hb9, hbf⟩ := HBB.out.next hb3
 have CALL := Z9w (fun b => Ψ b ≠ none \/ b = w1.heap.size) (fun b => b = w.heap.size + 1) (W.heap.size + 2) w3 Ψ N HT3 (fun b l hb => Or.inl (by rw [hb]; nofun)) (fun b hb e => by
  have e' : b = w.heap.size + 1 := e
  have := HZ.out; have := HZ1.out
  rcases hb with hb | hb
  {rcases h : Ψ b with _ | l
   {exact hb h}
   {have := (HT3.blk b l h).1; omega}}
  · omega)
  (fun b hb => by
   have h1 := HT3.nn b hb
   have h2 := HTY.out.nn b hb
   refine ⟨fun e => ?_, fun e => ?_⟩
   {rcases e with e | e
    {rcases h : Ψ b with _ | l
     {exact e h}
     {exact (HT3.blk b l h).2.2.1 hb}}
    {omega}}
   · have e' : b = w.heap.size + 1 := e
     have := HZ.out
     omega) t q1 w1.heap.size 0 w3 (Or.inr rfl) hbl (by rw [Nat.zero_mul]; exact hb9) hbf HN3 (UpZ.refl _ _ _)
 rw [Nat.zero_mul] at CALL
 have HB13 := Y1 hb13
 have HT3' := Y1 HT3
 clear hb3 hb13 HT3 HN3 hbl hb9 hbf HM
 go_wp2_with fail
 refine CALL.mono ?_
 rintro e w4 ⟨rfl, hu4, hz4⟩
 have HU4 := Y1 hu4
 have HZ4 := Y1 hz4
 obtain ⟨d9, _⟩ := hz4 w4 (UpZ.refl _ _ _)
 obtain ⟨d0, d1, d2, d3, d4, d5, d6, d7, d8⟩ := d9
 simp only [Nat.zero_add] at d0 d1 d2 d3 d4 d5 d6 d7 d8
 obtain ⟨_, hr9, hrf⟩ := HE1.out.keep (show w.heap.size + 1 < w1.heap.size by have := HZ.out; have := HZ1.out; omega) HB13.out
 have hrs : Z0r w3 w4 (w.heap.size + 1) := hu4.same (fun e => by
  have := HZ.out; have := HZ1.out
  rcases e with e | e
  {rcases h : Ψ (w.heap.size + 1) with _ | l
   {exact e h}
   {have := (HT3'.out.blk _ l h).1; omega}}
  · omega) (fun e => e)
 obtain ⟨r0, r1, r2, r3, r4, r5, r6, r7, r8⟩ := hr9.of hrs.1
 simp only [Nat.zero_add] at r0 r1 r2 r3 r4 r5 r6 r7 r8
 have f0 := (hrs.2 0).trans (hrf 0)
 have f1 := (hrs.2 1).trans (hrf 1)
 have f2 := (hrs.2 2).trans (hrf 2)
 have f3 := (hrs.2 3).trans (hrf 3)
 have f4 := (hrs.2 4).trans (hrf 4)
 have f5 := (hrs.2 5).trans (hrf 5)
 have f6 := (hrs.2 6).trans (hrf 6)
 have f7 := (hrs.2 7).trans (hrf 7)
 have f8 := (hrs.2 8).trans (hrf 8)
 clear hu4 hz4 CALL hr9 hrf hrs
 go_wp2
 refine bodyPost_ret (v := .agg (Y7 (strip t) q1)) (by simp [results, Tryz.results15, go_sem, r0, r1, r2, r3, r4, r5, r6, r7, r8]) rfl ?_
 refine ⟨q1, rfl, (HZ4.out _ (Zge _ w4 (w.heap.size + 1) _ _ _ _ _ _ _ _ _)).2, Z6F (B := w.heap.size) (a := w) ?_ (by omega) _ _ _ _ _ _ _ _ _⟩
 have b1 : Below w.heap.size w w3 := HS1.out.trans (HB13.out.mono HS1.out.size)
 refine b1.trans (HU4.out.toBelow (fun x hx => ?_))
 have := HZ.out; have := HZ1.out
 rcases hx with e | e
 {rcases h : Ψ x with _ | l
  {exact absurd h e}
  {have := (HT3'.out.blk _ l h).1; omega}}
 {omega}
end Go.Proofs.YtnkdedejfonbmaaGreatDoor
namespace Go.Proofs.YtnkdedejfonbmaaGreatDoor
open Go.RowKit Tms
open Shp (Sh)
def allEq {α : Type} (f : α -> α -> Bool) : List α -> List α -> Bool
 | [], [] => true
 | a :: l, b :: m => f a b && allEq f l m
 | [], _ :: _ => false
 | _ :: _, [] => false
theorem Z3x {α : Type} {f : α -> α -> Bool} : ∀ {l m : List α}, ¬ l.length = m.length -> allEq f l m = false
 | [], [], h => absurd rfl h
 | a :: l, b :: m, h => by simp only [allEq]; rw [Z3x (fun e => h (by simp [e])), Bool.and_false]
 | [], _ :: _, _ => rfl
 | _ :: _, [], _ => rfl
theorem Z32 {α : Type} {f : α -> α -> Bool} : ∀ {l m : List α} {i : Nat} (h : i < l.length) (h' : i < m.length), f (l[i]'h) (m[i]'h') = false -> allEq f l m = false
 | a :: l, b :: m, 0, _, _, e => by simp only [allEq]; rw [show f a b = false from e, Bool.false_and]
 | a :: l, b :: m, i + 1, h, h', e => by simp only [allEq]; rw [Z32 (i := i) (by simpa using h) (by simpa using h') e, Bool.and_false]
theorem Z3y {α : Type} {f : α -> α -> Bool} : ∀ {l m : List α}, l.length = m.length -> (∀ i (h : i < l.length) (h' : i < m.length), f (l[i]'h) (m[i]'h') = true) -> allEq f l m = true
 | [], [], _, _ => rfl
 | a :: l, b :: m, hl, h => by
  simp only [allEq]
  rw [show f a b = true from h 0 (by simp) (by simp), Z3y (by simpa using hl) (fun i hi hi' => h (i + 1) (by simpa using hi) (by simpa using hi'))]; rfl
theorem Z3z : ∀ (l m : List (List UInt8)), allEq (fun a b => a == b) l m = (l == m)
 | [], [] => rfl
 | a :: l, b :: m => by simp only [allEq]; rw [Z3z l m]; rfl
 | [], _ :: _ => rfl
 | _ :: _, [] => rfl
theorem Z62 : ∀ (l m : List Sh), allEq Shp.eqB l m = Shp.eqs l m
 | [], [] => rfl
 | a :: l, b :: m => by simp only [allEq, Shp.eqs]; rw [Z62 l m]
 | [], _ :: _ => rfl
 | _ :: _, [] => rfl
theorem Z9x (pl : Bool) : ∀ (l m : List Tm), allEq (eqB pl) l m = eqs pl l m
 | [], [] => rfl
 | a :: l, b :: m => by simp only [allEq, eqs]; rw [Z9x pl l m]
 | [], _ :: _ => rfl
 | _ :: _, [] => rfl
def eqT (a b : List UInt8) : Bool := a == b
theorem Zb4 (x y : List UInt8) (w : World) : Y9 35 #[.string ⟨x.toArray⟩, .string ⟨y.toArray⟩] w (.bool (eqT x y)) := by
 have HE : Hid (eqT x y = (x == y)) := Y1 rfl
 go_enter Tryz.func35, Tryz.ntmps35
 go_wp2
 go_ret
 exact ⟨Z03 HE.out.symm, Below.refl _ _⟩
theorem Z53 (P Q : Option Addr) (c d : Nat) (l m : List (List UInt8)) (w : World) (hP : Strs w w.heap.size P (strs l)) (hQ : Strs w w.heap.size Q (strs m)) (hl : l.length <= 9223372036854775807) (hm : m.length <= 9223372036854775807)
 (hf : True) :
 Y9 34 #[.slice P l.length c, .slice Q m.length d, .func (.func 35) #[] #[]] w (.bool (allEq eqT l m)) := by
 have HP := Y1 hP
 have HQ := Y1 hQ
 have HF0 := Y1 hf
 clear hP hQ hf
 by_cases hlm : l.length = m.length
 {have n0 : ((l.length : Int) != (m.length : Int)) = false := by rw [hlm]; simp
  have HLM := Y1 hlm
  clear hlm
  go_enter Tryz.func34, Tryz.ntmps34
  go_wp2_with fail
  go_loopw [15] (fun ii wr => ∃ i : Nat, ii = .int .i64 i /\ i <= l.length /\ Hid (∀ j (h : j < l.length) (h' : j < m.length), j < i -> eqT (l[j]'h) (m[j]'h') = true) /\ Below w.heap.size w wr) (fun i _ => l.length - (intOf i).toNat)
  case atStart => exact ⟨0, rfl, Nat.zero_le _, Y1 (fun j _ _ hj => absurd hj (by omega)), Below.refl _ _⟩
  case round =>
   obtain ⟨i, rfl, hi, HN, hb⟩ := hrel
   by_cases hlt : i < l.length
   {have hi1 : (i : Int) < (l.length : Int) := by omega
    have hi3 : i < m.length := by have := HLM.out; omega
    have hi2 : (i : Int) < (m.length : Int) := by omega
    rcases (HP.out.next hb).cell7 with h0 | ⟨g, off, rfl, hg, hc⟩
    {omega}
    {rcases (HQ.out.next hb).cell7 with h0 | ⟨g', off', rfl, hg', hc'⟩
     {omega}
     {obtain ⟨x, hx⟩ : ∃ x, x = l[i]'hlt := ⟨_, rfl⟩
      obtain ⟨y, hy⟩ : ∃ y, y = m[i]'hi3 := ⟨_, rfl⟩
      have p0 := hc i hlt
      have s0 := hc' i hi3
      rw [<- hx] at p0
      rw [<- hy] at s0
      have IH := Zb4 x y wr.drew
      have HX := Y1 hx
      have HY := Y1 hy
      clear hx hy hc hc'
      cases hxy : eqT x y
      {have HF : Hid (allEq eqT l m = false) := Y1 (Z32 hlt hi3 (by rw [<- HX.out, <- HY.out]; exact hxy))
       rw [hxy] at IH
       clear hxy
       go_wp2_with fail
       go_still_tail 9, (by kernel_rfl)
       change wpList _ _ _ _ _ wr.drew
       go_wp2_with fail
       refine IH.mono ?_
       rintro e w' ⟨rfl, hb'⟩
       go_wp2
       go_ret
       exact ⟨by rw [HF.out]; rfl, Z00 hb.drew hb'⟩}
      {have HE : Hid (eqT (l[i]'hlt) (m[i]'hi3) = true) := Y1 (by rw [<- HX.out, <- HY.out]; exact hxy)
       rw [hxy] at IH
       clear hxy
       go_wp2_with fail
       go_still_tail 9, (by kernel_rfl)
       change wpList _ _ _ _ _ wr.drew
       go_wp2_with fail
       refine IH.mono ?_
       rintro e w' ⟨rfl, hb'⟩
       go_wp2
       go_roundw
       case rel => exact ⟨i + 1, by go_num, by omega, Y1 (fun j hj hj' hji => by
        rcases Nat.lt_succ_iff_lt_or_eq.1 hji with h | rfl
        {exact HN.out j hj hj' h}
        · exact HE.out), Z00 hb.drew hb'⟩
       case measure => simp [intOf]; omega}}}}
   {have hi1 : ¬ (i : Int) < (l.length : Int) := by omega
    have HF : Hid (allEq eqT l m = true) := Y1 (Z3y HLM.out (fun j hj hj' => HN.out j hj hj' (by have := HLM.out; omega)))
    go_wp2
    go_ret
    exact ⟨by rw [HF.out]; rfl, hb⟩}}
 {have n0 : ((l.length : Int) != (m.length : Int)) = true := by
   have : ((l.length : Int) == (m.length : Int)) = false := by rw [beq_eq_false_iff_ne]; omega
   unfold bne; rw [this]; rfl
  have HF : Hid (allEq eqT l m = false) := Y1 (Z3x hlm)
  clear hlm
  go_enter Tryz.func34, Tryz.ntmps34
  go_wp2
  go_ret
  exact ⟨by rw [HF.out]; rfl, Below.refl _ _⟩}
theorem Z9y (P Q : Option Addr) (c d : Nat) (l m : List Sh) (w : World) (hP : ShsAt w w.heap.size P l) (hQ : ShsAt w w.heap.size Q m) (hl : l.length <= 9223372036854775807) (hm : m.length <= 9223372036854775807)
 (hf : ∀ x ∈ l, ∀ (y : Sh) (q r : Ptr) (w : World), ShAt w w.heap.size q x -> ShAt w w.heap.size r y -> Y9 37 #[.agg (Y8 x q), .agg (Y8 y r)] w (.bool (Shp.eqB x y))) :
 Y9 36 #[.slice P l.length c, .slice Q m.length d, .func (.func 37) #[] #[]] w (.bool (allEq Shp.eqB l m)) := by
 have HP := Y1 hP
 have HQ := Y1 hQ
 have HF0 := Y1 hf
 clear hP hQ hf
 by_cases hlm : l.length = m.length
 {have n0 : ((l.length : Int) != (m.length : Int)) = false := by rw [hlm]; simp
  have HLM := Y1 hlm
  clear hlm
  go_enter Tryz.func36, Tryz.ntmps36
  go_wp2_with fail
  go_loopw [15] (fun ii wr => ∃ i : Nat, ii = .int .i64 i /\ i <= l.length /\ Hid (∀ j (h : j < l.length) (h' : j < m.length), j < i -> Shp.eqB (l[j]'h) (m[j]'h') = true) /\ Below w.heap.size w wr) (fun i _ => l.length - (intOf i).toNat)
  case atStart => exact ⟨0, rfl, Nat.zero_le _, Y1 (fun j _ _ hj => absurd hj (by omega)), Below.refl _ _⟩
  case round =>
   obtain ⟨i, rfl, hi, HN, hb⟩ := hrel
   by_cases hlt : i < l.length
   {have hi1 : (i : Int) < (l.length : Int) := by omega
    have hi3 : i < m.length := by have := HLM.out; omega
    have hi2 : (i : Int) < (m.length : Int) := by omega
    rcases HP.out.next hb with h0 | ⟨g, off, qs, rfl, hg, hc, hr⟩
    {omega}
    {rcases HQ.out.next hb with h0 | ⟨g', off', qs', rfl, hg', hc', hr'⟩
     {omega}
     {obtain ⟨x, hx⟩ : ∃ x, x = l[i]'hlt := ⟨_, rfl⟩
      obtain ⟨y, hy⟩ : ∃ y, y = m[i]'hi3 := ⟨_, rfl⟩
      obtain ⟨p0, p1, p2, p3, p4⟩ := hc i hlt
      obtain ⟨s0, s1, s2, s3, s4⟩ := hc' i hi3
      have hat := hr i hlt
      have hat' := hr' i hi3
      have ihx := HF0.out l[i] (List.getElem_mem _)
      rw [<- hx] at p0 p1 p2 p3 p4 hat ihx
      rw [<- hy] at s0 s1 s2 s3 s4 hat'
      have IH := ihx y (qs i) (qs' i) wr.drew (hat.next Y2.drew) (hat'.next Y2.drew)
      have HX := Y1 hx
      have HY := Y1 hy
      clear hx hy hc hc' hr hr' hat hat' ihx
      cases hxy : Shp.eqB x y
      {have HF : Hid (allEq Shp.eqB l m = false) := Y1 (Z32 hlt hi3 (by rw [<- HX.out, <- HY.out]; exact hxy))
       rw [hxy] at IH
       clear hxy
       go_wp2_with fail
       go_still_tail 9, (by kernel_rfl)
       change wpList _ _ _ _ _ wr.drew
       go_wp2_with fail
       refine IH.mono ?_
       rintro e w' ⟨rfl, hb'⟩
       go_wp2
       go_ret
       exact ⟨by rw [HF.out]; rfl, Z00 hb.drew hb'⟩}
      {have HE : Hid (Shp.eqB (l[i]'hlt) (m[i]'hi3) = true) := Y1 (by rw [<- HX.out, <- HY.out]; exact hxy)
       rw [hxy] at IH
       clear hxy
       go_wp2_with fail
       go_still_tail 9, (by kernel_rfl)
       change wpList _ _ _ _ _ wr.drew
       go_wp2_with fail
       refine IH.mono ?_
       rintro e w' ⟨rfl, hb'⟩
       go_wp2
       go_roundw
       case rel => exact ⟨i + 1, by go_num, by omega, Y1 (fun j hj hj' hji => by
        rcases Nat.lt_succ_iff_lt_or_eq.1 hji with h | rfl
        {exact HN.out j hj hj' h}
        · exact HE.out), Z00 hb.drew hb'⟩
       case measure => simp [intOf]; omega}}}}
   {have hi1 : ¬ (i : Int) < (l.length : Int) := by omega
    have HF : Hid (allEq Shp.eqB l m = true) := Y1 (Z3y HLM.out (fun j hj hj' => HN.out j hj hj' (by have := HLM.out; omega)))
    go_wp2
    go_ret
    exact ⟨by rw [HF.out]; rfl, hb⟩}}
 {have n0 : ((l.length : Int) != (m.length : Int)) = true := by
   have : ((l.length : Int) == (m.length : Int)) = false := by rw [beq_eq_false_iff_ne]; omega
   unfold bne; rw [this]; rfl
  have HF : Hid (allEq Shp.eqB l m = false) := Y1 (Z3x hlm)
  clear hlm
  go_enter Tryz.func36, Tryz.ntmps36
  go_wp2
  go_ret
  exact ⟨by rw [HF.out]; rfl, Below.refl _ _⟩}
theorem Zgf (P Q : Option Addr) (c d : Nat) (l m : List Tm) (w : World) (hP : TmsIn w w.heap.size P l) (hQ : TmsIn w w.heap.size Q m) (hl : l.length <= 9223372036854775807) (hm : m.length <= 9223372036854775807)
 (hf : ∀ x ∈ l, ∀ (y : Tm) (q r : TP) (w : World), TmAt w w.heap.size q x -> TmAt w w.heap.size r y -> Y9 24 #[.agg (Y7 x q), .agg (Y7 y r)] w (.bool (eqB false x y))) :
 Y9 38 #[.slice P l.length c, .slice Q m.length d, .func (.func 24) #[] #[]] w (.bool (allEq (eqB false) l m)) := by
 have HP := Y1 hP
 have HQ := Y1 hQ
 have HF0 := Y1 hf
 clear hP hQ hf
 by_cases hlm : l.length = m.length
 {have n0 : ((l.length : Int) != (m.length : Int)) = false := by rw [hlm]; simp
  have HLM := Y1 hlm
  clear hlm
  go_enter Tryz.func38, Tryz.ntmps38
  go_wp2_with fail
  go_loopw [15] (fun ii wr => ∃ i : Nat, ii = .int .i64 i /\ i <= l.length /\ Hid (∀ j (h : j < l.length) (h' : j < m.length), j < i -> (eqB false) (l[j]'h) (m[j]'h') = true) /\ Below w.heap.size w wr) (fun i _ => l.length - (intOf i).toNat)
  case atStart => exact ⟨0, rfl, Nat.zero_le _, Y1 (fun j _ _ hj => absurd hj (by omega)), Below.refl _ _⟩
  case round =>
   obtain ⟨i, rfl, hi, HN, hb⟩ := hrel
   by_cases hlt : i < l.length
   {have hi1 : (i : Int) < (l.length : Int) := by omega
    have hi3 : i < m.length := by have := HLM.out; omega
    have hi2 : (i : Int) < (m.length : Int) := by omega
    rcases HP.out.next hb with h0 | ⟨g, off, qs, rfl, hg, hc, hr⟩
    {omega}
    {rcases HQ.out.next hb with h0 | ⟨g', off', qs', rfl, hg', hc', hr'⟩
     {omega}
     {obtain ⟨x, hx⟩ : ∃ x, x = l[i]'hlt := ⟨_, rfl⟩
      obtain ⟨y, hy⟩ : ∃ y, y = m[i]'hi3 := ⟨_, rfl⟩
      obtain ⟨p0, p1, p2, p3, p4, p5, p6, p7, p8⟩ := hc i hlt
      obtain ⟨s0, s1, s2, s3, s4, s5, s6, s7, s8⟩ := hc' i hi3
      have hat := hr i hlt
      have hat' := hr' i hi3
      have ihx := HF0.out l[i] (List.getElem_mem _)
      rw [<- hx] at p0 p1 p2 p3 p4 p5 p6 p7 p8 hat ihx
      rw [<- hy] at s0 s1 s2 s3 s4 s5 s6 s7 s8 hat'
      have IH := ihx y (qs i) (qs' i) wr.drew (hat.next Y2.drew) (hat'.next Y2.drew)
      have HX := Y1 hx
      have HY := Y1 hy
      clear hx hy hc hc' hr hr' hat hat' ihx
      cases hxy : (eqB false) x y
      {have HF : Hid (allEq (eqB false) l m = false) := Y1 (Z32 hlt hi3 (by rw [<- HX.out, <- HY.out]; exact hxy))
       rw [hxy] at IH
       clear hxy
       go_wp2_with fail
       go_still_tail 9, (by kernel_rfl)
       change wpList _ _ _ _ _ wr.drew
       go_wp2_with fail
       refine IH.mono ?_
       rintro e w' ⟨rfl, hb'⟩
       go_wp2
       go_ret
       exact ⟨by rw [HF.out]; rfl, Z00 hb.drew hb'⟩}
      {have HE : Hid ((eqB false) (l[i]'hlt) (m[i]'hi3) = true) := Y1 (by rw [<- HX.out, <- HY.out]; exact hxy)
       rw [hxy] at IH
       clear hxy
       go_wp2_with fail
       go_still_tail 9, (by kernel_rfl)
       change wpList _ _ _ _ _ wr.drew
       go_wp2_with fail
       refine IH.mono ?_
       rintro e w' ⟨rfl, hb'⟩
       go_wp2
       go_roundw
       case rel => exact ⟨i + 1, by go_num, by omega, Y1 (fun j hj hj' hji => by
        rcases Nat.lt_succ_iff_lt_or_eq.1 hji with h | rfl
        {exact HN.out j hj hj' h}
        · exact HE.out), Z00 hb.drew hb'⟩
       case measure => simp [intOf]; omega}}}}
   {have hi1 : ¬ (i : Int) < (l.length : Int) := by omega
    have HF : Hid (allEq (eqB false) l m = true) := Y1 (Z3y HLM.out (fun j hj hj' => HN.out j hj hj' (by have := HLM.out; omega)))
    go_wp2
    go_ret
    exact ⟨by rw [HF.out]; rfl, hb⟩}}
 {have n0 : ((l.length : Int) != (m.length : Int)) = true := by
   have : ((l.length : Int) == (m.length : Int)) = false := by rw [beq_eq_false_iff_ne]; omega
   unfold bne; rw [this]; rfl
  have HF : Hid (allEq (eqB false) l m = false) := Y1 (Z3x hlm)
  clear hlm
  go_enter Tryz.func38, Tryz.ntmps38
  go_wp2
  go_ret
  exact ⟨by rw [HF.out]; rfl, Below.refl _ _⟩}
theorem Z9z {w : World} {q : Ptr} {t : Sh} (h : ShAt w w.heap.size q t) : ShsAt w w.heap.size q.P t.parts := by
 rcases h.part with h0 | h1
 {exact Or.inl h0}
 {exact Or.inr h1}
theorem Z9A {w : World} {q : TP} {t : Tm} (h : TmAt w w.heap.size q t) : TmsIn w w.heap.size q.P t.parts := by
 rcases h.part with h0 | h1
 {exact Or.inl h0}
 {exact Or.inr h1}
theorem Z8d (t : Sh) : ∀ (u : Sh) (q r : Ptr) (w : World), ShAt w w.heap.size q t -> ShAt w w.heap.size r u ->
 Y9 37 #[.agg (Y8 t q), .agg (Y8 u r)] w (.bool (Shp.eqB t u)) := by
 induction t using Shp.Sh.ind with
 | h t ih =>
 intro u q r w hq hr
 have hb0 := Z02 w (.cells (Y8 t q) 45)
 have hb1 := Z08 hb0 (.cells (Y8 u r) 45)
 have HB1 := Y1 hb1
 have HB := Y1 ((Z0c w t q).next (Z02 _ (.cells (Y8 u r) 45)))
 have hC := Z0c (w.alloc (.cells (Y8 t q) 45)) u r
 rw [World.size_alloc] at hC
 have HC := Y1 hC
 obtain ⟨_, ⟨c0, c1, c2, c3, c4⟩, _⟩ := HB.out
 obtain ⟨_, ⟨d0, d1, d2, d3, d4⟩, _⟩ := hC
 have HS := Y1 hq.small
 have HT := Y1 hr.small
 have C1 := Y1 (fun W (h : Below w.heap.size w W) => Z53 q.A r.A q.c r.c t.names u.names W (hq.strs.next h) (hr.strs.next h) HS.out.l HT.out.l trivial)
 have C2 := Y1 (fun W (h : Below w.heap.size w W) => Z9y q.P r.P q.d r.d t.parts u.parts W (Z9z (hq.next h)) (Z9z (hr.next h)) HS.out.m HT.out.m ih)
 have HF : Hid (Shp.eqB t u = ((t.kind == u.kind) && (t.of_ == u.of_) && (t.name == u.name) && allEq eqT t.names u.names && allEq Shp.eqB t.parts u.parts)) := Y1 (by rw [Shp.eqB_eq, Z62, show allEq eqT t.names u.names = (t.names == u.names) from Z3z _ _])
 generalize allEq eqT t.names u.names = b1 at C1 HF
 generalize allEq Shp.eqB t.parts u.parts = b2 at C2 HF
 clear hb0 hb1 hq hr ih
 cases e0 : (t.kind == u.kind)
 {rw [e0] at HF
  go_enter Tryz.func37, Tryz.ntmps37
  go_wp2
  go_ret
  exact ⟨Z03 (by rw [HF.out]; simp), HB1.out⟩}
 rw [e0] at HF
 cases e1 : (t.of_ == u.of_)
 {rw [e1] at HF
  go_enter Tryz.func37, Tryz.ntmps37
  go_wp2
  go_ret
  exact ⟨Z03 (by rw [HF.out]; simp), HB1.out⟩}
 rw [e1] at HF
 cases e2 : (t.name == u.name)
 {rw [e2] at HF
  go_enter Tryz.func37, Tryz.ntmps37
  go_wp2
  go_ret
  exact ⟨Z03 (by rw [HF.out]; simp), HB1.out⟩}
 rw [e2] at HF
 go_enter Tryz.func37, Tryz.ntmps37
 go_wp2_with fail
 refine (C1.out _ HB1.out).mono ?_
 rintro e w1 ⟨rfl, hb⟩
 have BW1 := Y1 (Z00 HB1.out hb)
 have BX1 := Y1 (HB.out.next hb)
 have BY1 := Y1 (HC.out.next hb)
 clear hb c0 c1 c2 c3 c4 d0 d1 d2 d3 d4
 obtain ⟨_, ⟨c0, c1, c2, c3, c4⟩, _⟩ := BX1.out
 obtain ⟨_, ⟨d0, d1, d2, d3, d4⟩, _⟩ := BY1.out
 cases b1
 {go_wp2
  go_ret
  exact ⟨Z03 (by rw [HF.out]; simp), BW1.out⟩}
 go_wp2_with fail
 refine (C2.out _ BW1.out).mono ?_
 rintro e w2 ⟨rfl, hb⟩
 have BW2 := Y1 (Z00 BW1.out hb)
 have BX2 := Y1 (BX1.out.next hb)
 have BY2 := Y1 (BY1.out.next hb)
 clear hb c0 c1 c2 c3 c4 d0 d1 d2 d3 d4
 obtain ⟨_, ⟨c0, c1, c2, c3, c4⟩, _⟩ := BX2.out
 obtain ⟨_, ⟨d0, d1, d2, d3, d4⟩, _⟩ := BY2.out
 go_wp2
 go_ret
 exact ⟨Z03 (by rw [HF.out]; simp), BW2.out⟩
theorem Z6H (t : Tm) : ∀ (u : Tm) (q r : TP) (w : World), TmAt w w.heap.size q t -> TmAt w w.heap.size r u ->
 Y9 24 #[.agg (Y7 t q), .agg (Y7 u r)] w (.bool (eqB false t u)) := by
 induction t using Tm.ind with
 | h t ih =>
 intro u q r w hq hr
 have hb0 := Z02 w (.cells (Y7 t q) 26)
 have hb1 := Z08 hb0 (.cells (Y7 u r) 26)
 have HB1 := Y1 hb1
 have HB := Y1 ((Z07 w t q).next (Z02 _ (.cells (Y7 u r) 26)))
 have hC := Z07 (w.alloc (.cells (Y7 t q) 26)) u r
 rw [World.size_alloc] at hC
 have HC := Y1 hC
 obtain ⟨_, ⟨c0, c1, c2, c3, c4, c5, c6, c7, c8⟩, _⟩ := HB.out
 obtain ⟨_, ⟨d0, d1, d2, d3, d4, d5, d6, d7, d8⟩, _⟩ := hC
 have HS := Y1 hq.small
 have HT := Y1 hr.small
 have C1 := Y1 (fun W (h : Below w.heap.size w W) => Z53 q.A r.A q.c r.c t.names u.names W (hq.strs.next h) (hr.strs.next h) HS.out.l HT.out.l trivial)
 have C2 := Y1 (fun W (h : Below w.heap.size w W) => Z53 q.V r.V q.e r.e t.vars u.vars W (hq.vars.next h) (hr.vars.next h) HS.out.v HT.out.v trivial)
 have C3 := Y1 (fun W (h : Below w.heap.size w W) => Z9y q.S r.S q.s r.s t.shapes u.shapes W (hq.shapes.next h) (hr.shapes.next h) HS.out.sh HT.out.sh (fun x _ => Z8d x))
 have C4 := Y1 (fun W (h : Below w.heap.size w W) => Zgf q.P r.P q.d r.d t.parts u.parts W (Z9A (hq.next h)) (Z9A (hr.next h)) HS.out.m HT.out.m ih)
 have HF : Hid (eqB false t u = ((t.kind == u.kind) && (t.of_ == u.of_) && (t.name == u.name) && (t.n == u.n) && allEq eqT t.names u.names && allEq eqT t.vars u.vars && allEq Shp.eqB t.shapes u.shapes && allEq (eqB false) t.parts u.parts)) := Y1 (by
  rw [eqB_eq, Z62, Z9x, show allEq eqT t.names u.names = (t.names == u.names) from Z3z _ _, show allEq eqT t.vars u.vars = (t.vars == u.vars) from Z3z _ _]; simp)
 generalize allEq eqT t.names u.names = b1 at C1 HF
 generalize allEq eqT t.vars u.vars = b2 at C2 HF
 generalize allEq Shp.eqB t.shapes u.shapes = b3 at C3 HF
 generalize allEq (eqB false) t.parts u.parts = b4 at C4 HF
 clear hb0 hb1 hq hr ih
 cases e0 : (t.kind == u.kind)
 {rw [e0] at HF
  go_enter Tryz.func24, Tryz.ntmps24
  go_wp2
  go_ret
  exact ⟨Z03 (by rw [HF.out]; simp), HB1.out⟩}
 rw [e0] at HF
 cases e1 : (t.of_ == u.of_)
 {rw [e1] at HF
  go_enter Tryz.func24, Tryz.ntmps24
  go_wp2
  go_ret
  exact ⟨Z03 (by rw [HF.out]; simp), HB1.out⟩}
 rw [e1] at HF
 cases e2 : (t.name == u.name)
 {rw [e2] at HF
  go_enter Tryz.func24, Tryz.ntmps24
  go_wp2
  go_ret
  exact ⟨Z03 (by rw [HF.out]; simp), HB1.out⟩}
 rw [e2] at HF
 cases e3 : (t.n == u.n)
 {rw [e3] at HF
  go_enter Tryz.func24, Tryz.ntmps24
  go_wp2
  go_ret
  exact ⟨Z03 (by rw [HF.out]; simp), HB1.out⟩}
 rw [e3] at HF
 go_enter Tryz.func24, Tryz.ntmps24
 go_wp2_with fail
 refine (C1.out _ HB1.out).mono ?_
 rintro e w1 ⟨rfl, hb⟩
 have BW1 := Y1 (Z00 HB1.out hb)
 have BX1 := Y1 (HB.out.next hb)
 have BY1 := Y1 (HC.out.next hb)
 clear hb c0 c1 c2 c3 c4 c5 c6 c7 c8 d0 d1 d2 d3 d4 d5 d6 d7 d8
 obtain ⟨_, ⟨c0, c1, c2, c3, c4, c5, c6, c7, c8⟩, _⟩ := BX1.out
 obtain ⟨_, ⟨d0, d1, d2, d3, d4, d5, d6, d7, d8⟩, _⟩ := BY1.out
 cases b1
 {go_wp2
  go_ret
  exact ⟨Z03 (by rw [HF.out]; simp), BW1.out⟩}
 go_wp2_with fail
 refine (C2.out _ BW1.out).mono ?_
 rintro e w2 ⟨rfl, hb⟩
 have BW2 := Y1 (Z00 BW1.out hb)
 have BX2 := Y1 (BX1.out.next hb)
 have BY2 := Y1 (BY1.out.next hb)
 clear hb c0 c1 c2 c3 c4 c5 c6 c7 c8 d0 d1 d2 d3 d4 d5 d6 d7 d8
 obtain ⟨_, ⟨c0, c1, c2, c3, c4, c5, c6, c7, c8⟩, _⟩ := BX2.out
 obtain ⟨_, ⟨d0, d1, d2, d3, d4, d5, d6, d7, d8⟩, _⟩ := BY2.out
 cases b2
 {go_wp2
  go_ret
  exact ⟨Z03 (by rw [HF.out]; simp), BW2.out⟩}
 go_wp2_with fail
 refine (C3.out _ BW2.out).mono ?_
 rintro e w3 ⟨rfl, hb⟩
 have BW3 := Y1 (Z00 BW2.out hb)
 have BX3 := Y1 (BX2.out.next hb)
 have BY3 := Y1 (BY2.out.next hb)
 clear hb c0 c1 c2 c3 c4 c5 c6 c7 c8 d0 d1 d2 d3 d4 d5 d6 d7 d8
 obtain ⟨_, ⟨c0, c1, c2, c3, c4, c5, c6, c7, c8⟩, _⟩ := BX3.out
 obtain ⟨_, ⟨d0, d1, d2, d3, d4, d5, d6, d7, d8⟩, _⟩ := BY3.out
 cases b3
 {go_wp2
  go_ret
  exact ⟨Z03 (by rw [HF.out]; simp), BW3.out⟩}
 go_wp2_with fail
 refine (C4.out _ BW3.out).mono ?_
 rintro e w4 ⟨rfl, hb⟩
 have BW4 := Y1 (Z00 BW3.out hb)
 have BX4 := Y1 (BX3.out.next hb)
 have BY4 := Y1 (BY3.out.next hb)
 clear hb c0 c1 c2 c3 c4 c5 c6 c7 c8 d0 d1 d2 d3 d4 d5 d6 d7 d8
 obtain ⟨_, ⟨c0, c1, c2, c3, c4, c5, c6, c7, c8⟩, _⟩ := BX4.out
 obtain ⟨_, ⟨d0, d1, d2, d3, d4, d5, d6, d7, d8⟩, _⟩ := BY4.out
 go_wp2
 go_ret
 exact ⟨Z03 (by rw [HF.out]; simp), BW4.out⟩
end Go.Proofs.YtnkdedejfonbmaaGreatDoor
namespace Tms
theorem Zb5 {l : List Tm} {i : Nat} (hi : i < l.length) (h : check (l[i]'hi) ≠ 0) : same l = false := by
 cases e : same l with
 | false => rfl
 | true =>
  unfold same at e
  have := List.all_eq_true.1 e _ (List.getElem_mem hi)
  simp only [Bool.and_eq_true, decide_eq_true_eq] at this
  exact absurd this.1 h
theorem Z6I {l : List Tm} {t : Tm} (h : 0 < l.length) : l.headD t = l[0]'h := by cases l with
 | nil => simp at h
 | cons a l => rfl
theorem Zgg {l : List Tm} {i : Nat} (hi : i < l.length) (h : eqB false (l[i]'hi) (l[0]'(by omega)) = false) : same l = false := by
 cases e : same l with
 | false => rfl
 | true =>
  unfold same at e
  have := List.all_eq_true.1 e _ (List.getElem_mem hi)
  rw [Z6I (by omega), h] at this
  simp at this
theorem Zf5 {l : List Tm} (h : ∀ j (hj : j < l.length), check (l[j]'hj) = 0 /\ eqB false (l[j]'hj) (l[0]'(by omega)) = true) : same l = true := by
 unfold same
 rw [List.all_eq_true]
 intro t ht
 obtain ⟨j, hj, rfl⟩ := List.getElem_of_mem ht
 rw [Z6I (by omega), (h j hj).2, decide_eq_true (h j hj).1]
 rfl
end Tms
namespace Go.Proofs.YtnkdedejfonbmaaGreatDoor
open Go.RowKit Tms
open Shp (Sh)
def Zdd (x y : Tm) (qx qy : TP) (g off n c : Nat) : Nat -> Want
 | 0 => .val (.agg (Y7 x qx))
 | 1 => .val (.bool false)
 | 2 => .val (.bool true)
 | 3 => .val (.bool true)
 | 10 => .val (.bool true)
 | _ => .any
def Zb6 (x y : Tm) (qx qy : TP) (g off n c : Nat) : Nat -> Want
 | 0 => .val (.agg (Y7 x qx))
 | 1 => .val (.bool true)
 | 2 => .val (.bool false)
 | 3 => .val (.bool false)
 | 4 => .val (.agg (Y7 x qx))
 | 5 => .val (.slice (some ⟨g, off, none⟩) n c)
 | 6 => .val (.pointer (some ⟨g, off, none⟩))
 | 7 => .val (.agg (Y7 y qy))
 | 8 => .val (.bool false)
 | 9 => .val (.bool true)
 | 10 => .val (.bool true)
 | _ => .any
def Zde (x y : Tm) (qx qy : TP) (g off n c : Nat) : Nat -> Want
 | 0 => .val (.agg (Y7 x qx))
 | 1 => .val (.bool true)
 | 2 => .val (.bool false)
 | 3 => .val (.bool false)
 | 4 => .val (.agg (Y7 x qx))
 | 5 => .val (.slice (some ⟨g, off, none⟩) n c)
 | 6 => .val (.pointer (some ⟨g, off, none⟩))
 | 7 => .val (.agg (Y7 y qy))
 | 8 => .val (.bool true)
 | 9 => .val (.bool false)
 | 10 => .val (.bool false)
 | _ => .any
theorem Z0g (P : Option Addr) (c : Nat) (l : List Tm) (w : World) (hP : TmsIn w w.heap.size P l) (hl : l.length <= 9223372036854775807) (hta : ∀ t ∈ l, few t = true) (hg : WGlobs w) (hu : Z0l w) :
 Y9 13 #[.slice P l.length c] w (.bool (same l)) := by
 have HP := Y1 hP
 have HTA := Y1 hta
 have HG := Y1 hg
 have HU := Y1 hu
 clear hP hta hg hu
 go_enter Tryz.func13, Tryz.ntmps13
 go_wp2_with fail
 go_loopw [7] (fun ii wr => ∃ i : Nat, ii = .int .i64 i /\ i <= l.length /\ Hid (∀ j (h : j < l.length), j < i -> check (l[j]'h) = 0 /\ eqB false (l[j]'h) (l[0]'(by omega)) = true) /\ Below w.heap.size w wr) (fun i _ => l.length - (intOf i).toNat)
 case atStart => exact ⟨0, rfl, Nat.zero_le _, Y1 (fun j _ hj => absurd hj (by omega)), Below.refl _ _⟩
 case round =>
  obtain ⟨i, rfl, hi, HN, hb⟩ := hrel
  by_cases hlt : i < l.length
  {have hi1 : (i : Int) < (l.length : Int) := by omega
   have hi0 : (0 : Int) < (l.length : Int) := by omega
   have hi2 : 0 < l.length := by omega
   rcases HP.out.next hb with h0 | ⟨g, off, qs, rfl, hgg, hc, hr⟩
   {omega}
   {obtain ⟨x, hx⟩ : ∃ x, x = l[i]'hlt := ⟨_, rfl⟩
    obtain ⟨y, hy⟩ : ∃ y, y = l[0]'hi2 := ⟨_, rfl⟩
    have p := hc i hlt
    have s := hc 0 hi2
    have hax := hr i hlt
    have hay := hr 0 hi2
    rw [show off + 0 * 9 = off from by omega] at s
    rw [<- hx] at p hax
    rw [<- hy] at s hay
    have HTX : Hid (few x = true) := Y1 (by rw [hx]; exact HTA.out _ (List.getElem_mem _))
    generalize qs i = qx at p hax
    generalize qs 0 = qy at s hay
    have hb0 := Z02 wr (.cells (Y7 x qx) 26)
    have HPY := Y1 (s.keep hgg hb0)
    have HAX := Y1 (hax.next hb0)
    have HAY := Y1 (hay.next hb0)
    have HX := Y1 hx
    have HY := Y1 hy
    have HBX := Y1 (Z07 wr x qx)
    have HB := Y1 (Z00 hb hb0)
    have hgl : g < (wr.alloc (.cells (Y7 x qx) 26)).heap.size := Nat.lt_of_lt_of_le hgg hb0.size
    obtain ⟨p0, p1, p2, p3, p4, p5, p6, p7, p8⟩ := p
    clear s hax hay hx hy hc hr hb0
    go_wp2_with fail
    obtain ⟨B, hBB⟩ : ∃ B, B = wr.heap.size := ⟨_, rfl⟩
    rw [<- hBB] at HBX ⊢
    generalize hW0 : wr.alloc (.cells (Y7 x qx) 26) = W0 at HPY HAX HAY HBX HB hgl ⊢
    clear hW0 hBB p0 p1 p2 p3 p4 p5 p6 p7 p8
    by_cases hck : check x = 0
    {cases hxy : eqB false x y
     {have HF : Hid (same l = false) := Y1 (Zgg hlt (by rw [<- HX.out, <- HY.out]; exact hxy))
      have HMB : Hid (∀ W, Below W0.heap.size W0 W -> Y9 23 #[.agg (Y7 x qx)] W (.bool true)) := Y1 (fun W hJ => by have h := Z2H x qx W (HAX.out.next hJ) (HG.out.next (HB.out.trans (hJ.mono HB.out.size))) (HU.out.next (HB.out.trans (hJ.mono HB.out.size))) HTX.out; rw [show decide (check x = 0) = true from decide_eq_true hck] at h; exact h)
      have HEQ : Hid (∀ W, Below W0.heap.size W0 W -> Y9 24 #[.agg (Y7 x qx), .agg (Y7 y qy)] W (.bool false)) := Y1 (fun W hJ => by have h := Z6H x y qx qy W (HAX.out.next hJ) (HAY.out.next hJ); rw [hxy] at h; exact h)
      refine Z0p (rs := [0, 1, 2, 3, 4, 5, 6, 7, 8, 9, 10])
       (fun u' => { tmps := #[.slice (some { block := g, off := off }) l.length c, undef, u2, undef, .pointer (some { block := B, off := 0 }), .slice (some { block := g, off := off }) l.length c, .int .i64 ↑l.length, .int .i64 ↑i, .bool true, .pointer (some { block := g, off := off + i * 9 }), .agg (Y7 x qx), u' 0, u' 1, u' 2, u' 3, u' 4, u' 5, u' 6, u' 7, u' 8, u' 9, u' 10, u22], defers := [] })
       (fun j => ([u11, u12, u13, u14, u15, u16, u17, u18, u19, u20, u21] : List Value).getD j undef) (Zb6 x y qx qy g off l.length c) (fun W => Below W0.heap.size W0 W) (by kernel_rfl) (by kernel_rfl) (by kernel_rfl) Y2.drew ?_ ?_
      refine StepsAt.cons _ rfl (fun u' W K' hJ hd hK => ?_) ?_
      {obtain ⟨_, ⟨y0, y1, y2, y3, y4, y5, y6, y7, y8⟩, _⟩ := HBX.out.next hJ
       simp only [Nat.zero_add] at y0 y1 y2 y3 y4 y5 y6 y7 y8
       refine Y0 hK hJ rfl rfl rfl ?_
       try dsimp only
       go_simp
       try omega}
      refine StepsAt.cons _ rfl (fun u' W K' hJ hd hK => ?_) ?_
      {have d0 : _ = _ := hd 0 (by kernel_rfl)
       refine Z05 (f := 23) (args := #[.agg (Y7 x qx)]) (W' := W) rfl ?_ ((HMB.out W hJ).mono fun e w' h => ⟨_, h.1, hK.out _ _ rfl (Z00 hJ h.2) h.2⟩)
       try dsimp only
       go_simp
       try omega}
      refine StepsAt.cons _ rfl (fun u' W K' hJ hd hK => ?_) ?_
      {have d1 : _ = _ := hd 1 (by kernel_rfl)
       refine Y0 hK hJ rfl rfl rfl ?_
       try dsimp only
       go_simp
       try omega}
      refine StepsAt.cons _ rfl (fun u' W K' hJ hd hK => ?_) ?_
      {have d2 : _ = _ := hd 2 (by kernel_rfl)
       refine Y0 hK hJ rfl rfl rfl ?_
       try dsimp only
       go_simp
       try omega}
      refine StepsAt.cons _ rfl (fun u' W K' hJ hd hK => ?_) ?_
      {have dg : _ = _ := hd 3 (by kernel_rfl)
       obtain ⟨_, ⟨y0, y1, y2, y3, y4, y5, y6, y7, y8⟩, _⟩ := HBX.out.next hJ
       simp only [Nat.zero_add] at y0 y1 y2 y3 y4 y5 y6 y7 y8
       refine Y0 hK hJ rfl rfl ?_ ?_
       {simp [Region.wanted, yielded, dg]}
       {try dsimp only
        go_simp
        try omega}}
      refine StepsAt.cons _ rfl (fun u' W K' hJ hd hK => ?_) ?_
      {have dg : _ = _ := hd 3 (by kernel_rfl)
       refine Y0 hK hJ rfl rfl ?_ ?_
       {simp [Region.wanted, yielded, dg]}
       {try dsimp only
        go_simp
        try omega}}
      refine StepsAt.cons _ rfl (fun u' W K' hJ hd hK => ?_) ?_
      {have dg : _ = _ := hd 3 (by kernel_rfl)
       have d5 : _ = _ := hd 5 (by kernel_rfl)
       refine Y0 hK hJ rfl rfl ?_ ?_
       {simp [Region.wanted, yielded, dg]}
       {try dsimp only
        go_simp
        try omega}}
      refine StepsAt.cons _ rfl (fun u' W K' hJ hd hK => ?_) ?_
      {have dg : _ = _ := hd 3 (by kernel_rfl)
       have d6 : _ = _ := hd 6 (by kernel_rfl)
       obtain ⟨y0, y1, y2, y3, y4, y5, y6, y7, y8⟩ := HPY.out.keep hgl hJ
       refine Y0 hK hJ rfl rfl ?_ ?_
       {simp [Region.wanted, yielded, dg]}
       {try dsimp only
        go_simp
        try omega}}
      refine StepsAt.cons _ rfl (fun u' W K' hJ hd hK => ?_) ?_
      {have dg : _ = _ := hd 3 (by kernel_rfl)
       have d4 : _ = _ := hd 4 (by kernel_rfl)
       have d7 : _ = _ := hd 7 (by kernel_rfl)
       refine Z05 (f := 24) (args := #[.agg (Y7 x qx), .agg (Y7 y qy)]) (W' := W) ?_ ?_ ((HEQ.out W hJ).mono fun e w' h => ⟨_, h.1, hK.out _ _ rfl (Z00 hJ h.2) h.2⟩)
       {simp [Region.wanted, yielded, dg]}
       {try dsimp only
        go_simp
        try omega}}
      refine StepsAt.cons _ rfl (fun u' W K' hJ hd hK => ?_) ?_
      {have dg : _ = _ := hd 3 (by kernel_rfl)
       have d8 : _ = _ := hd 8 (by kernel_rfl)
       refine Y0 hK hJ rfl rfl ?_ ?_
       {simp [Region.wanted, yielded, dg]}
       {try dsimp only
        go_simp
        try omega}}
      refine StepsAt.cons _ rfl (fun u' W K' hJ hd hK => ?_) StepsAt.nil
      {have d3 : _ = _ := hd 3 (by kernel_rfl)
       have d9 : _ = _ := hd 9 (by kernel_rfl)
       refine Y0 hK hJ rfl rfl rfl ?_
       try dsimp only
       go_simp
       try omega}
      intro u' W' hJ' hok
      try dsimp only
      rw [show u' 10 = .bool true from hok 10 (by decide)]
      clear hok
      go_wp2
      go_ret
      exact ⟨by rw [HF.out]; rfl, Z00 HB.out hJ'⟩}
     {have HE : Hid (check (l[i]'hlt) = 0 /\ eqB false (l[i]'hlt) (l[0]'hi2) = true) := Y1 (by rw [<- HX.out, <- HY.out]; exact ⟨hck, hxy⟩)
      have HMB : Hid (∀ W, Below W0.heap.size W0 W -> Y9 23 #[.agg (Y7 x qx)] W (.bool true)) := Y1 (fun W hJ => by have h := Z2H x qx W (HAX.out.next hJ) (HG.out.next (HB.out.trans (hJ.mono HB.out.size))) (HU.out.next (HB.out.trans (hJ.mono HB.out.size))) HTX.out; rw [show decide (check x = 0) = true from decide_eq_true hck] at h; exact h)
      have HEQ : Hid (∀ W, Below W0.heap.size W0 W -> Y9 24 #[.agg (Y7 x qx), .agg (Y7 y qy)] W (.bool true)) := Y1 (fun W hJ => by have h := Z6H x y qx qy W (HAX.out.next hJ) (HAY.out.next hJ); rw [hxy] at h; exact h)
      refine Z0p (rs := [0, 1, 2, 3, 4, 5, 6, 7, 8, 9, 10])
       (fun u' => { tmps := #[.slice (some { block := g, off := off }) l.length c, undef, u2, undef, .pointer (some { block := B, off := 0 }), .slice (some { block := g, off := off }) l.length c, .int .i64 ↑l.length, .int .i64 ↑i, .bool true, .pointer (some { block := g, off := off + i * 9 }), .agg (Y7 x qx), u' 0, u' 1, u' 2, u' 3, u' 4, u' 5, u' 6, u' 7, u' 8, u' 9, u' 10, u22], defers := [] })
       (fun j => ([u11, u12, u13, u14, u15, u16, u17, u18, u19, u20, u21] : List Value).getD j undef) (Zde x y qx qy g off l.length c) (fun W => Below W0.heap.size W0 W) (by kernel_rfl) (by kernel_rfl) (by kernel_rfl) Y2.drew ?_ ?_
      refine StepsAt.cons _ rfl (fun u' W K' hJ hd hK => ?_) ?_
      {obtain ⟨_, ⟨y0, y1, y2, y3, y4, y5, y6, y7, y8⟩, _⟩ := HBX.out.next hJ
       simp only [Nat.zero_add] at y0 y1 y2 y3 y4 y5 y6 y7 y8
       refine Y0 hK hJ rfl rfl rfl ?_
       try dsimp only
       go_simp
       try omega}
      refine StepsAt.cons _ rfl (fun u' W K' hJ hd hK => ?_) ?_
      {have d0 : _ = _ := hd 0 (by kernel_rfl)
       refine Z05 (f := 23) (args := #[.agg (Y7 x qx)]) (W' := W) rfl ?_ ((HMB.out W hJ).mono fun e w' h => ⟨_, h.1, hK.out _ _ rfl (Z00 hJ h.2) h.2⟩)
       try dsimp only
       go_simp
       try omega}
      refine StepsAt.cons _ rfl (fun u' W K' hJ hd hK => ?_) ?_
      {have d1 : _ = _ := hd 1 (by kernel_rfl)
       refine Y0 hK hJ rfl rfl rfl ?_
       try dsimp only
       go_simp
       try omega}
      refine StepsAt.cons _ rfl (fun u' W K' hJ hd hK => ?_) ?_
      {have d2 : _ = _ := hd 2 (by kernel_rfl)
       refine Y0 hK hJ rfl rfl rfl ?_
       try dsimp only
       go_simp
       try omega}
      refine StepsAt.cons _ rfl (fun u' W K' hJ hd hK => ?_) ?_
      {have dg : _ = _ := hd 3 (by kernel_rfl)
       obtain ⟨_, ⟨y0, y1, y2, y3, y4, y5, y6, y7, y8⟩, _⟩ := HBX.out.next hJ
       simp only [Nat.zero_add] at y0 y1 y2 y3 y4 y5 y6 y7 y8
       refine Y0 hK hJ rfl rfl ?_ ?_
       {simp [Region.wanted, yielded, dg]}
       {try dsimp only
        go_simp
        try omega}}
      refine StepsAt.cons _ rfl (fun u' W K' hJ hd hK => ?_) ?_
      {have dg : _ = _ := hd 3 (by kernel_rfl)
       refine Y0 hK hJ rfl rfl ?_ ?_
       {simp [Region.wanted, yielded, dg]}
       {try dsimp only
        go_simp
        try omega}}
      refine StepsAt.cons _ rfl (fun u' W K' hJ hd hK => ?_) ?_
      {have dg : _ = _ := hd 3 (by kernel_rfl)
       have d5 : _ = _ := hd 5 (by kernel_rfl)
       refine Y0 hK hJ rfl rfl ?_ ?_
       {simp [Region.wanted, yielded, dg]}
       {try dsimp only
        go_simp
        try omega}}
      refine StepsAt.cons _ rfl (fun u' W K' hJ hd hK => ?_) ?_
      {have dg : _ = _ := hd 3 (by kernel_rfl)
       have d6 : _ = _ := hd 6 (by kernel_rfl)
       obtain ⟨y0, y1, y2, y3, y4, y5, y6, y7, y8⟩ := HPY.out.keep hgl hJ
       refine Y0 hK hJ rfl rfl ?_ ?_
       {simp [Region.wanted, yielded, dg]}
       {try dsimp only
        go_simp
        try omega}}
      refine StepsAt.cons _ rfl (fun u' W K' hJ hd hK => ?_) ?_
      {have dg : _ = _ := hd 3 (by kernel_rfl)
       have d4 : _ = _ := hd 4 (by kernel_rfl)
       have d7 : _ = _ := hd 7 (by kernel_rfl)
       refine Z05 (f := 24) (args := #[.agg (Y7 x qx), .agg (Y7 y qy)]) (W' := W) ?_ ?_ ((HEQ.out W hJ).mono fun e w' h => ⟨_, h.1, hK.out _ _ rfl (Z00 hJ h.2) h.2⟩)
       {simp [Region.wanted, yielded, dg]}
       {try dsimp only
        go_simp
        try omega}}
      refine StepsAt.cons _ rfl (fun u' W K' hJ hd hK => ?_) ?_
      {have dg : _ = _ := hd 3 (by kernel_rfl)
       have d8 : _ = _ := hd 8 (by kernel_rfl)
       refine Y0 hK hJ rfl rfl ?_ ?_
       {simp [Region.wanted, yielded, dg]}
       {try dsimp only
        go_simp
        try omega}}
      refine StepsAt.cons _ rfl (fun u' W K' hJ hd hK => ?_) StepsAt.nil
      {have d3 : _ = _ := hd 3 (by kernel_rfl)
       have d9 : _ = _ := hd 9 (by kernel_rfl)
       refine Y0 hK hJ rfl rfl rfl ?_
       try dsimp only
       go_simp
       try omega}
      intro u' W' hJ' hok
      try dsimp only
      rw [show u' 10 = .bool false from hok 10 (by decide)]
      clear hok
      go_wp2
      go_roundw
      case rel => exact ⟨i + 1, by go_num, by omega, Y1 (fun j hj hji => by
       rcases Nat.lt_succ_iff_lt_or_eq.1 hji with h | rfl
       {exact HN.out j hj h}
       · exact HE.out), Z00 HB.out hJ'⟩
      case measure => simp [intOf]; omega}}
    {have HF : Hid (same l = false) := Y1 (Zb5 hlt (by rw [<- HX.out]; exact hck))
     have HMB : Hid (∀ W, Below W0.heap.size W0 W -> Y9 23 #[.agg (Y7 x qx)] W (.bool false)) := Y1 (fun W hJ => by have h := Z2H x qx W (HAX.out.next hJ) (HG.out.next (HB.out.trans (hJ.mono HB.out.size))) (HU.out.next (HB.out.trans (hJ.mono HB.out.size))) HTX.out; rw [show decide (check x = 0) = false from decide_eq_false hck] at h; exact h)
     refine Z0p (rs := [0, 1, 2, 3, 4, 5, 6, 7, 8, 9, 10])
      (fun u' => { tmps := #[.slice (some { block := g, off := off }) l.length c, undef, u2, undef, .pointer (some { block := B, off := 0 }), .slice (some { block := g, off := off }) l.length c, .int .i64 ↑l.length, .int .i64 ↑i, .bool true, .pointer (some { block := g, off := off + i * 9 }), .agg (Y7 x qx), u' 0, u' 1, u' 2, u' 3, u' 4, u' 5, u' 6, u' 7, u' 8, u' 9, u' 10, u22], defers := [] })
      (fun j => ([u11, u12, u13, u14, u15, u16, u17, u18, u19, u20, u21] : List Value).getD j undef) (Zdd x y qx qy g off l.length c) (fun W => Below W0.heap.size W0 W) (by kernel_rfl) (by kernel_rfl) (by kernel_rfl) Y2.drew ?_ ?_
     refine StepsAt.cons _ rfl (fun u' W K' hJ hd hK => ?_) ?_
     {obtain ⟨_, ⟨y0, y1, y2, y3, y4, y5, y6, y7, y8⟩, _⟩ := HBX.out.next hJ
      simp only [Nat.zero_add] at y0 y1 y2 y3 y4 y5 y6 y7 y8
      refine Y0 hK hJ rfl rfl rfl ?_
      try dsimp only
      go_simp
      try omega}
     refine StepsAt.cons _ rfl (fun u' W K' hJ hd hK => ?_) ?_
     {have d0 : _ = _ := hd 0 (by kernel_rfl)
      refine Z05 (f := 23) (args := #[.agg (Y7 x qx)]) (W' := W) rfl ?_ ((HMB.out W hJ).mono fun e w' h => ⟨_, h.1, hK.out _ _ rfl (Z00 hJ h.2) h.2⟩)
      try dsimp only
      go_simp
      try omega}
     refine StepsAt.cons _ rfl (fun u' W K' hJ hd hK => ?_) ?_
     {have d1 : _ = _ := hd 1 (by kernel_rfl)
      refine Y0 hK hJ rfl rfl rfl ?_
      try dsimp only
      go_simp
      try omega}
     refine StepsAt.cons _ rfl (fun u' W K' hJ hd hK => ?_) ?_
     {have d2 : _ = _ := hd 2 (by kernel_rfl)
      refine Y0 hK hJ rfl rfl rfl ?_
      try dsimp only
      go_simp
      try omega}
     refine StepsAt.cons _ rfl (fun u' W K' hJ hd hK => ?_) ?_
     {have dg : _ = _ := hd 3 (by kernel_rfl)
      exact Z0i (by simp [Region.wanted, yielded, dg]) (hK.out _ _ trivial hJ Y2)}
     refine StepsAt.cons _ rfl (fun u' W K' hJ hd hK => ?_) ?_
     {have dg : _ = _ := hd 3 (by kernel_rfl)
      exact Z0i (by simp [Region.wanted, yielded, dg]) (hK.out _ _ trivial hJ Y2)}
     refine StepsAt.cons _ rfl (fun u' W K' hJ hd hK => ?_) ?_
     {have dg : _ = _ := hd 3 (by kernel_rfl)
      exact Z0i (by simp [Region.wanted, yielded, dg]) (hK.out _ _ trivial hJ Y2)}
     refine StepsAt.cons _ rfl (fun u' W K' hJ hd hK => ?_) ?_
     {have dg : _ = _ := hd 3 (by kernel_rfl)
      exact Z0i (by simp [Region.wanted, yielded, dg]) (hK.out _ _ trivial hJ Y2)}
     refine StepsAt.cons _ rfl (fun u' W K' hJ hd hK => ?_) ?_
     {have dg : _ = _ := hd 3 (by kernel_rfl)
      exact Z0i (by simp [Region.wanted, yielded, dg]) (hK.out _ _ trivial hJ Y2)}
     refine StepsAt.cons _ rfl (fun u' W K' hJ hd hK => ?_) ?_
     {have dg : _ = _ := hd 3 (by kernel_rfl)
      exact Z0i (by simp [Region.wanted, yielded, dg]) (hK.out _ _ trivial hJ Y2)}
     refine StepsAt.cons _ rfl (fun u' W K' hJ hd hK => ?_) StepsAt.nil
     {have d3 : _ = _ := hd 3 (by kernel_rfl)
      refine Y0 hK hJ rfl rfl rfl ?_
      try dsimp only
      go_simp
      try omega}
     intro u' W' hJ' hok
     try dsimp only
     rw [show u' 10 = .bool true from hok 10 (by decide)]
     clear hok
     go_wp2
     go_ret
     exact ⟨by rw [HF.out]; rfl, Z00 HB.out hJ'⟩}}}
  {have HF : Hid (same l = true) := Y1 (Zf5 (fun j hj => HN.out j hj (by omega)))
   go_wp2
   go_ret
   exact ⟨by rw [HF.out]; rfl, hb⟩}
end Go.Proofs.YtnkdedejfonbmaaGreatDoor
