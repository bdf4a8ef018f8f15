/- What the proofs of TermsBare, TermsChecks, TermsDeep, TermsSame, TermsSames want, part 17. -/
import Derived.StillTailTactics
import Derived.Deep.RegionHeld3
import Derived.Test.YtnkdedejfonbmaaGreatDoorK0n16
set_option linter.unusedVariables false
set_option linter.unusedSimpArgs false
set_option maxRecDepth 100000
set_option maxHeartbeats 16000000
namespace Go.Proofs.YtnkdedejfonbmaaGreatDoor
open Go.RowKit Tms
open Shp (Sh)
theorem Z0f (d : Nat -> Bool) {i j : Nat} (h : j ≠ i) : also d i j = d j := by
 unfold also
 cases hb : Nat.beq j i with
 | false => rfl
 | true => exact absurd (Nat.eq_of_beq_eq_true hb) h
theorem Z2v (d : Nat -> Bool) (i : Nat) : also d i i = true := by
 unfold also
 rw [show Nat.beq i i = true from Nat.beq_refl i]; rfl
theorem Z0R (u : Nat -> Value) {i j : Nat} (v : Value) (h : j ≠ i) : upd u i v j = u j := by
 unfold upd
 cases hb : Nat.beq j i with
 | false => rfl
 | true => exact absurd (Nat.eq_of_beq_eq_true hb) h
theorem Z3Y (u : Nat -> Value) (i : Nat) (v : Value) : upd u i v i = v := by
 unfold upd
 rw [show Nat.beq i i = true from Nat.beq_refl i]; rfl
def RestAt (W : World) (q : TP) (t : Tm) : Prop := Strs W W.heap.size q.A (strs t.names) /\ Strs W W.heap.size q.V (strs t.vars) /\ ShsAt W W.heap.size q.S t.shapes
def Rest (W : World) (N : List Nat) (q : TP) (t : Tm) : Prop := ∀ W', (∀ b ∈ N, Z0r W W' b) -> W.heap.size <= W'.heap.size -> RestAt W' q t
theorem Rest.of {W W' : World} {N N' : List Nat} {q : TP} {t : Tm} (h : Rest W N q t) (hs : ∀ b ∈ N, Z0r W W' b) (hz : W.heap.size <= W'.heap.size) (hN : ∀ b ∈ N, b ∈ N') : Rest W' N' q t :=
 fun W'' h1 h2 => h W'' (fun b hb => (hs b hb).trans (h1 b (hN b hb))) (Nat.le_trans hz h2)
structure UpN (g o : Nat) (w w' : World) : Prop where
 os : w'.os = w.os
 tape : w'.tape = w.tape
 output : w'.output = w.output
 size : w.heap.size <= w'.heap.size
 block : ∀ k, k < w.heap.size -> k ≠ g -> w'.heap[k]? = w.heap[k]?
 cells : ∀ k, k ≠ o + 4 -> k ≠ o + 5 -> k ≠ o + 6 -> w'.cell? ⟨g, k, none⟩ = w.cell? ⟨g, k, none⟩
 fz : ∀ k, w'.frozen? ⟨g, k, none⟩ = w.frozen? ⟨g, k, none⟩
theorem UpN.same {g o : Nat} {w w' : World} (h : UpN g o w w') {b : Nat} (h1 : b < w.heap.size) (h2 : b ≠ g) : Z0r w w' b :=
 ⟨fun k => World.cell?_of_block (w := w) (h.block b h1 h2), fun k => World.frozen?_of_block (w := w) (h.block b h1 h2)⟩
theorem UpN.toBelow {g o B : Nat} {w w' : World} (h : UpN g o w w') (hB : B <= g) (hz : B <= w.heap.size) : Below B w w' :=
 ⟨h.os, h.tape, h.output, h.size, fun k hk => h.block k (by omega) (by omega)⟩
def finO (g o : Nat) (d : Nat -> Bool) (u : Nat -> Value) (W : World) : World :=
 bif d 26 then ((W.setCell ⟨g, o + 4, none⟩ (u 7)).setCell ⟨g, o + 5, none⟩ (u 12)).setCell ⟨g, o + 6, none⟩ (u 17)
 else bif d 23 then (W.setCell ⟨g, o + 4, none⟩ (u 7)).setCell ⟨g, o + 5, none⟩ (u 12)
 else bif d 20 then W.setCell ⟨g, o + 4, none⟩ (u 7)
 else W
structure Told (w Wb : World) (t : Tm) (rs : Nat -> Ptr) (d : Nat -> Bool) (u : Nat -> Value) : Prop where
 bel : Below w.heap.size w Wb
 c7 : d 7 = true -> ∃ A' c', u 7 = .slice A' t.names.length c' /\ TxC w Wb t.names A' c'
 c12 : d 12 = true -> ∃ A' c', u 12 = .slice A' t.vars.length c' /\ TxC w Wb t.vars A' c'
 c17 : d 17 = true -> ∃ A' c', u 17 = .slice A' t.shapes.length c' /\ PaC w Wb t.shapes rs A' c'
theorem TxC.next {w W W' : World} {l : List (List UInt8)} {A : Option Addr} {c : Nat} (h : TxC w W l A c) (hb : Below W.heap.size W W') : TxC w W' l A c := by
 obtain ⟨h1, h2, h3⟩ := h
 refine ⟨h1, h2, ?_⟩
 rcases h3 with h3 | ⟨b, h4, h5, h6⟩
 {exact Or.inl h3}
 {exact Or.inr ⟨b, h4, h5, h6.of (Z0r.below hb h6.lt) hb.size⟩}
theorem PaC.next {w W W' : World} {l : List Sh} {rs : Nat -> Ptr} {A : Option Addr} {c : Nat} (h : PaC w W l rs A c) (hb : Below W.heap.size W W') : PaC w W' l rs A c := by
 obtain ⟨h1, h2, h3⟩ := h
 refine ⟨h1, h2, ?_⟩
 rcases h3 with h3 | ⟨b, h4, h5, h6⟩
 {exact Or.inl h3}
 {exact Or.inr ⟨b, h4, h5, h6.of (Z0r.below hb h6.lt) hb.size⟩}
structure OwnI (w : World) (g o : Nat) (t : Tm) (rs : Nat -> Ptr) (val : Nat -> Option Value) (d : Nat -> Bool) (u : Nat -> Value) (W : World) : Prop where
 ex : ∃ Wb, Told w Wb t rs d u /\ W = finO g o d u Wb
 vals : ∀ j, d j = true -> ∀ v, val j = some v -> u j = v
 l20 : d 20 = true -> d 6 = true /\ d 7 = true /\ d 11 = true /\ d 12 = true /\ d 16 = true /\ d 17 = true
 l23 : d 23 = true -> d 20 = true
 l26 : d 26 = true -> d 23 = true
section
variable {w W : World} {g o : Nat} {t : Tm} {rs : Nat -> Ptr} {val : Nat -> Option Value} {d : Nat -> Bool} {u : Nat -> Value}
theorem off8 {b : Bool} (h : ¬ b = true) : b = false := by cases b <;> simp_all
theorem OwnI.clean (h : OwnI w g o t rs val d u W) (h20 : d 20 = false) : Told w W t rs d u := by
 obtain ⟨Wb, h1, h2⟩ := h.ex
 have h23 : d 23 = false := off8 (fun e => by rw [h.l23 e] at h20; cases h20)
 have h26 : d 26 = false := off8 (fun e => by rw [h.l26 e] at h23; cases h23)
 unfold finO at h2
 rw [h20, h23, h26] at h2
 rw [show W = Wb from h2]; exact h1
theorem OwnI.early (h : OwnI w g o t rs val d u W) {j : Nat} (hj : j = 6 \/ j = 7 \/ j = 11 \/ j = 12 \/ j = 16 \/ j = 17) (hd : d j = false) : d 20 = false :=
 off8 (fun e => by
  obtain ⟨a, b, c, d', e', f⟩ := h.l20 e
  rcases hj with rfl | rfl | rfl | rfl | rfl | rfl
  {rw [a] at hd; cases hd}
  {rw [b] at hd; cases hd}
  {rw [c] at hd; cases hd}
  {rw [d'] at hd; cases hd}
  {rw [e'] at hd; cases hd}
  · rw [f] at hd; cases hd)
theorem Z1e {val : Nat -> Option Value} (h : ∀ j, d j = true -> ∀ v, val j = some v -> u j = v) (i : Nat) (x : Value) (hx : ∀ v, val i = some v -> x = v) : ∀ j, also d i j = true -> ∀ v, val j = some v -> upd u i x j = v := by
 intro j hj v hv
 by_cases e : j = i
 {subst e; rw [Z3Y]; exact hx v hv}
 {rw [Z0R u x e]; rw [Z0f d e] at hj; exact h j hj v hv}
theorem OwnI.pure (h : OwnI w g o t rs val d u W) (i : Nat) (x : Value) (hi : i ≠ 7 /\ i ≠ 12 /\ i ≠ 17 /\ i ≠ 20 /\ i ≠ 23 /\ i ≠ 26) (hx : ∀ v, val i = some v -> x = v) : OwnI w g o t rs val (also d i) (upd u i x) W := by
 obtain ⟨Wb, h1, h2⟩ := h.ex
 obtain ⟨n7, n12, n17, n20, n23, n26⟩ := hi
 have e7 := Z0R u x (Ne.symm n7)
 have e12 := Z0R u x (Ne.symm n12)
 have e17 := Z0R u x (Ne.symm n17)
 have f7 := Z0f d (Ne.symm n7)
 have f12 := Z0f d (Ne.symm n12)
 have f17 := Z0f d (Ne.symm n17)
 have f20 := Z0f d (Ne.symm n20)
 have f23 := Z0f d (Ne.symm n23)
 have f26 := Z0f d (Ne.symm n26)
 have mono : ∀ j, d j = true -> also d i j = true := fun j hj => by
  by_cases e : j = i
  {subst e; exact Z2v d j}
  {rw [Z0f d e]; exact hj}
 refine ⟨⟨Wb, ⟨h1.bel, fun e => ?_, fun e => ?_, fun e => ?_⟩, ?_⟩, Z1e h.vals i x hx, fun e => ?_, fun e => ?_, fun e => ?_⟩
 {rw [e7]; exact h1.c7 (by rwa [f7] at e)}
 {rw [e12]; exact h1.c12 (by rwa [f12] at e)}
 {rw [e17]; exact h1.c17 (by rwa [f17] at e)}
 {unfold finO; rw [e7, e12, e17, f20, f23, f26]; exact h2}
 {obtain ⟨a, b, c, d', e', f⟩ := h.l20 (by rwa [f20] at e)
  exact ⟨mono _ a, mono _ b, mono _ c, mono _ d', mono _ e', mono _ f⟩}
 {rw [f20]; exact h.l23 (by rwa [f23] at e)}
 {rw [f23]; exact h.l26 (by rwa [f26] at e)}
theorem OwnI.call (h : OwnI w g o t rs val d u W) (i : Nat) (x : Value) {W' : World} (hi : i = 7 \/ i = 12 \/ i = 17) (hd : d i = false) (hv : val i = none) (hb : Below W.heap.size W W')
 (h7 : i = 7 -> ∃ A' c', x = .slice A' t.names.length c' /\ TxC w W' t.names A' c') (h12 : i = 12 -> ∃ A' c', x = .slice A' t.vars.length c' /\ TxC w W' t.vars A' c') (h17 : i = 17 -> ∃ A' c', x = .slice A' t.shapes.length c' /\ PaC w W' t.shapes rs A' c') : OwnI w g o t rs val (also d i) (upd u i x) W' := by
 have h20 := h.early (j := i) (by omega) hd
 have h23 : d 23 = false := off8 (fun e => by rw [h.l23 e] at h20; cases h20)
 have h26 : d 26 = false := off8 (fun e => by rw [h.l26 e] at h23; cases h23)
 have ht := h.clean h20
 have f20 := Z0f d (show 20 ≠ i by omega)
 have f23 := Z0f d (show 23 ≠ i by omega)
 have f26 := Z0f d (show 26 ≠ i by omega)
 refine ⟨⟨W', ⟨ht.bel.trans (hb.mono ht.bel.size), fun e => ?_, fun e => ?_, fun e => ?_⟩, ?_⟩, Z1e h.vals i x (fun v hv' => by rw [hv] at hv'; cases hv'), fun e => ?_, fun e => ?_, fun e => ?_⟩
 {by_cases e7 : 7 = i
  {subst e7; rw [Z3Y]; exact h7 rfl}
  {rw [Z0R u x e7]; rw [Z0f d e7] at e
   obtain ⟨A', c', a, b⟩ := ht.c7 e
   exact ⟨A', c', a, b.next hb⟩}}
 {by_cases e7 : 12 = i
  {subst e7; rw [Z3Y]; exact h12 rfl}
  {rw [Z0R u x e7]; rw [Z0f d e7] at e
   obtain ⟨A', c', a, b⟩ := ht.c12 e
   exact ⟨A', c', a, b.next hb⟩}}
 {by_cases e7 : 17 = i
  {subst e7; rw [Z3Y]; exact h17 rfl}
  {rw [Z0R u x e7]; rw [Z0f d e7] at e
   obtain ⟨A', c', a, b⟩ := ht.c17 e
   exact ⟨A', c', a, b.next hb⟩}}
 {unfold finO; rw [f20, f23, f26, h20, h23, h26]; rfl}
 {rw [f20, h20] at e; cases e}
 {rw [f23, h23] at e; cases e}
 {rw [f26, h26] at e; cases e}
theorem Told.mono (h : Told w W t rs d u) (i : Nat) (x : Value) (hi : i ≠ 7 /\ i ≠ 12 /\ i ≠ 17) : Told w W t rs (also d i) (upd u i x) := by
 obtain ⟨n7, n12, n17⟩ := hi
 refine ⟨h.bel, fun e => ?_, fun e => ?_, fun e => ?_⟩
 {rw [Z0R u x (Ne.symm n7)]; exact h.c7 (by rwa [Z0f d (Ne.symm n7)] at e)}
 {rw [Z0R u x (Ne.symm n12)]; exact h.c12 (by rwa [Z0f d (Ne.symm n12)] at e)}
 {rw [Z0R u x (Ne.symm n17)]; exact h.c17 (by rwa [Z0f d (Ne.symm n17)] at e)}
theorem OwnI.st20 (h : OwnI w g o t rs val d u W) (x : Value) (hd : d 20 = false) (hv : val 20 = none) (ha : d 6 = true /\ d 7 = true /\ d 11 = true /\ d 12 = true /\ d 16 = true /\ d 17 = true) :
 OwnI w g o t rs val (also d 20) (upd u 20 x) (W.setCell ⟨g, o + 4, none⟩ (u 7)) := by
 have h23 : d 23 = false := off8 (fun e => by rw [h.l23 e] at hd; cases hd)
 have h26 : d 26 = false := off8 (fun e => by rw [h.l26 e] at h23; cases h23)
 have ht := h.clean hd
 refine ⟨⟨W, ht.mono 20 x (by decide), ?_⟩, Z1e h.vals 20 x (fun v hv' => by rw [hv] at hv'; cases hv'), fun _ => ?_, fun e => ?_, fun e => ?_⟩
 {unfold finO; rw [Z0f d (show 26 ≠ 20 by decide), Z0f d (show 23 ≠ 20 by decide), Z2v, h26, h23, Z0R u x (show 7 ≠ 20 by decide)]; rfl}
 {rw [Z0f d (by decide), Z0f d (by decide), Z0f d (by decide), Z0f d (by decide), Z0f d (by decide), Z0f d (by decide)]; exact ha}
 {exact Z2v d 20}
 {rw [Z0f d (by decide), h26] at e; cases e}
theorem OwnI.w20 (h : OwnI w g o t rs val d u W) (hd : d 20 = true) (h23 : d 23 = false) : ∃ Wb, Told w Wb t rs d u /\ W = Wb.setCell ⟨g, o + 4, none⟩ (u 7) := by
 obtain ⟨Wb, h1, h2⟩ := h.ex
 have h26 : d 26 = false := off8 (fun e => by rw [h.l26 e] at h23; cases h23)
 unfold finO at h2
 rw [hd, h23, h26] at h2
 exact ⟨Wb, h1, h2⟩
theorem OwnI.st23 (h : OwnI w g o t rs val d u W) (x : Value) (hd : d 20 = true) (h23 : d 23 = false) (hv : val 23 = none) :
 OwnI w g o t rs val (also d 23) (upd u 23 x) (W.setCell ⟨g, o + 5, none⟩ (u 12)) := by
 obtain ⟨Wb, h1, rfl⟩ := h.w20 hd h23
 have h26 : d 26 = false := off8 (fun e => by rw [h.l26 e] at h23; cases h23)
 refine ⟨⟨Wb, h1.mono 23 x (by decide), ?_⟩, Z1e h.vals 23 x (fun v hv' => by rw [hv] at hv'; cases hv'), fun _ => ?_, fun e => ?_, fun e => ?_⟩
 {unfold finO; rw [Z0f d (show 26 ≠ 23 by decide), Z2v, h26, Z0R u x (show 7 ≠ 23 by decide), Z0R u x (show 12 ≠ 23 by decide)]; rfl}
 {rw [Z0f d (by decide), Z0f d (by decide), Z0f d (by decide), Z0f d (by decide), Z0f d (by decide), Z0f d (by decide)]; exact h.l20 hd}
 {rw [Z0f d (by decide)]; exact hd}
 {exact Z2v d 23}
theorem OwnI.w23 (h : OwnI w g o t rs val d u W) (hd : d 23 = true) (h26 : d 26 = false) : ∃ Wb, Told w Wb t rs d u /\ W = (Wb.setCell ⟨g, o + 4, none⟩ (u 7)).setCell ⟨g, o + 5, none⟩ (u 12) := by
 obtain ⟨Wb, h1, h2⟩ := h.ex
 unfold finO at h2
 rw [hd, h26] at h2
 exact ⟨Wb, h1, h2⟩
theorem OwnI.st26 (h : OwnI w g o t rs val d u W) (x : Value) (hd : d 23 = true) (h26 : d 26 = false) (hv : val 26 = none) :
 OwnI w g o t rs val (also d 26) (upd u 26 x) (W.setCell ⟨g, o + 6, none⟩ (u 17)) := by
 obtain ⟨Wb, h1, rfl⟩ := h.w23 hd h26
 refine ⟨⟨Wb, h1.mono 26 x (by decide), ?_⟩, Z1e h.vals 26 x (fun v hv' => by rw [hv] at hv'; cases hv'), fun _ => ?_, fun e => ?_, fun e => ?_⟩
 {unfold finO; rw [Z2v, Z0R u x (show 7 ≠ 26 by decide), Z0R u x (show 12 ≠ 26 by decide), Z0R u x (show 17 ≠ 26 by decide)]; rfl}
 {rw [Z0f d (by decide), Z0f d (by decide), Z0f d (by decide), Z0f d (by decide), Z0f d (by decide), Z0f d (by decide)]; exact h.l20 (h.l23 hd)}
 {rw [Z0f d (by decide)]; exact h.l23 hd}
 {rw [Z0f d (by decide)]; exact hd}
theorem OwnI.done (h : OwnI w g o t rs val d u W) (hd : ∀ j, j < 27 -> d j = true) : ∃ Wb A1 c1 A2 c2 A3 c3, Below w.heap.size w Wb /\ TxC w Wb t.names A1 c1 /\ TxC w Wb t.vars A2 c2 /\ PaC w Wb t.shapes rs A3 c3 /\
 W = ((Wb.setCell ⟨g, o + 4, none⟩ (.slice A1 t.names.length c1)).setCell ⟨g, o + 5, none⟩ (.slice A2 t.vars.length c2)).setCell ⟨g, o + 6, none⟩ (.slice A3 t.shapes.length c3) := by
 obtain ⟨Wb, h1, h2⟩ := h.ex
 obtain ⟨A1, c1, e1, k1⟩ := h1.c7 (hd 7 (by decide))
 obtain ⟨A2, c2, e2, k2⟩ := h1.c12 (hd 12 (by decide))
 obtain ⟨A3, c3, e3, k3⟩ := h1.c17 (hd 17 (by decide))
 unfold finO at h2
 rw [hd 26 (by decide), e1, e2, e3] at h2
 exact ⟨Wb, A1, c1, A2, c2, A3, c3, h1.bel, k1, k2, k3, h2⟩
end
theorem Z9i (S : Option Addr) (s : Nat) (l : List Sh) (rs : Nat -> Ptr) (W0 w : World) (hz : W0.heap.size <= w.heap.size) (hS : l.length = 0 \/ ∃ g off, S = some ⟨g, off, none⟩ /\ g < w.heap.size /\ ∀ i (h : i < l.length), Sh5 w g (off + i * 5) (l[i]'h) (rs i)) (hl : l.length <= 1000000000) (hS0 : S = none -> s = 0) :
 Calls Tryz.prog 43 #[.slice S l.length s] w fun e w' => (∃ A' c', e = .returned (.slice A' l.length c') /\ PaC W0 w' l rs A' c') /\ Below w.heap.size w w' := by
 by_cases h0 : l.length = 0
 {rw [h0]
  refine (Z6y S s w hS0).mono ?_
  rintro e w' ⟨⟨A', d', rfl, h1⟩, hb⟩
  exact ⟨⟨A', d', rfl, by omega, h1, Or.inl h0⟩, hb⟩}
 {rcases hS with h | ⟨g, off, rfl, hg, hc⟩
  {exact absurd h h0}
  {refine (Z5K g off s l rs w hg hc hl (by omega)).mono ?_
   rintro e w' ⟨⟨b, c', rfl, h1, h2, h3⟩, hb⟩
   exact ⟨⟨_, c', rfl, h1, nofun, Or.inr ⟨b, rfl, by omega, h3⟩⟩, hb⟩}}
def valO (g o : Nat) (t : Tm) (q : TP) : Nat -> Option Value
 | 0 => some (.pointer (some ⟨g, o, none⟩))
 | 1 => some (.pointer (some ⟨g, o, none⟩))
 | 2 => some (.pointer (some ⟨g, o, none⟩))
 | 3 => some (.pointer (some ⟨g, o, none⟩))
 | 4 => some (.pointer (some ⟨g, o, none⟩))
 | 5 => some (.pointer (some ⟨g, o + 4, none⟩))
 | 6 => some (.slice q.A t.names.length q.c)
 | 8 => some (.pointer (some ⟨g, o, none⟩))
 | 9 => some (.pointer (some ⟨g, o, none⟩))
 | 10 => some (.pointer (some ⟨g, o + 5, none⟩))
 | 11 => some (.slice q.V t.vars.length q.e)
 | 13 => some (.pointer (some ⟨g, o, none⟩))
 | 14 => some (.pointer (some ⟨g, o, none⟩))
 | 15 => some (.pointer (some ⟨g, o + 6, none⟩))
 | 16 => some (.slice q.S t.shapes.length q.s)
 | 18 => some (.pointer (some ⟨g, o, none⟩))
 | 19 => some (.pointer (some ⟨g, o + 4, none⟩))
 | 21 => some (.pointer (some ⟨g, o, none⟩))
 | 22 => some (.pointer (some ⟨g, o + 5, none⟩))
 | 24 => some (.pointer (some ⟨g, o, none⟩))
 | 25 => some (.pointer (some ⟨g, o + 6, none⟩))
 | _ => none
def Z1z (W : World) (b o : Nat) (t : Sh) (q : Ptr) : World := ((((W.setCell ⟨b, o, none⟩ (.int .i64 t.kind)).setCell ⟨b, o + 1, none⟩ (.string ⟨t.of_.toArray⟩)).setCell ⟨b, o + 2, none⟩ (.string ⟨t.name.toArray⟩)).setCell ⟨b, o + 3, none⟩ (.slice q.A t.names.length q.c)).setCell ⟨b, o + 4, none⟩ (.slice q.P t.parts.length q.d)
theorem Z4l (W : World) (b o : Nat) (t : Sh) (q : Ptr) : (Z1z W b o t q).heap.size = W.heap.size := by simp [Z1z, World.setCell]
theorem Z5L (W : World) (b o : Nat) (t : Sh) (q : Ptr) {x : Nat} (h : b ≠ x) : Z0r W (Z1z W b o t q) x :=
 ((((Z0b _ ⟨b, o, none⟩ _ h).trans (Z0b _ ⟨b, o + 1, none⟩ _ h)).trans (Z0b _ ⟨b, o + 2, none⟩ _ h)).trans (Z0b _ ⟨b, o + 3, none⟩ _ h)).trans (Z0b _ ⟨b, o + 4, none⟩ _ h)
theorem Zd3 (W : World) (b o : Nat) (t : Sh) (q : Ptr) {k : Nat} (h : k < o \/ o + 5 <= k) : (Z1z W b o t q).cell? ⟨b, k, none⟩ = W.cell? ⟨b, k, none⟩ := by
 have ne : ∀ c, c < 5 -> (⟨b, o + c, none⟩ : Addr) ≠ ⟨b, k, none⟩ := fun c hc e => by have := congrArg Addr.off e; simp at this; omega
 unfold Z1z
 have ne0 : (⟨b, o, none⟩ : Addr) ≠ ⟨b, k, none⟩ := fun e => by have := congrArg Addr.off e; simp at this; omega
 rw [World.cell?_setCell_other _ _ _ _ (ne 4 (by omega)), World.cell?_setCell_other _ _ _ _ (ne 3 (by omega)), World.cell?_setCell_other _ _ _ _ (ne 2 (by omega)), World.cell?_setCell_other _ _ _ _ (ne 1 (by omega)), World.cell?_setCell_other _ _ _ _ ne0]
theorem ZeS (W : World) (b o : Nat) (t t0 : Sh) (q q0 : Ptr) (h : Sh5 W b o t0 q0) : Sh5 (Z1z W b o t q) b o t q := by
 obtain ⟨h0, h1, h2, h3, h4⟩ := h
 unfold Z1z
 have ne : ∀ c d, c ≠ d -> (⟨b, o + c, none⟩ : Addr) ≠ ⟨b, o + d, none⟩ := fun c d hc e => by have := congrArg Addr.off e; simp at this; omega
 have nz : ∀ c, c ≠ 0 -> (⟨b, o + c, none⟩ : Addr) ≠ ⟨b, o, none⟩ := fun c hc e => by have := congrArg Addr.off e; simp at this; omega
 refine ⟨?_, ?_, ?_, ?_, ?_⟩
 {rw [World.cell?_setCell_other _ _ _ _ (nz 4 (by decide)), World.cell?_setCell_other _ _ _ _ (nz 3 (by decide)), World.cell?_setCell_other _ _ _ _ (nz 2 (by decide)), World.cell?_setCell_other _ _ _ _ (nz 1 (by decide))]
  exact World.cell?_setCell_same _ _ _ h0}
 {rw [World.cell?_setCell_other _ _ _ _ (ne 4 1 (by decide)), World.cell?_setCell_other _ _ _ _ (ne 3 1 (by decide)), World.cell?_setCell_other _ _ _ _ (ne 2 1 (by decide))]
  exact World.cell?_setCell_same _ _ _ ((World.cell?_setCell_other _ _ _ _ (nz 1 (by decide)).symm).trans h1)}
 {rw [World.cell?_setCell_other _ _ _ _ (ne 4 2 (by decide)), World.cell?_setCell_other _ _ _ _ (ne 3 2 (by decide))]
  exact World.cell?_setCell_same _ _ _ ((World.cell?_setCell_other _ _ _ _ (ne 1 2 (by decide))).trans ((World.cell?_setCell_other _ _ _ _ (nz 2 (by decide)).symm).trans h2))}
 {rw [World.cell?_setCell_other _ _ _ _ (ne 4 3 (by decide))]
  exact World.cell?_setCell_same _ _ _ ((World.cell?_setCell_other _ _ _ _ (ne 2 3 (by decide))).trans ((World.cell?_setCell_other _ _ _ _ (ne 1 3 (by decide))).trans ((World.cell?_setCell_other _ _ _ _ (nz 3 (by decide)).symm).trans h3)))}
 {exact World.cell?_setCell_same _ _ _ ((World.cell?_setCell_other _ _ _ _ (ne 3 4 (by decide))).trans ((World.cell?_setCell_other _ _ _ _ (ne 2 4 (by decide))).trans ((World.cell?_setCell_other _ _ _ _ (ne 1 4 (by decide))).trans ((World.cell?_setCell_other _ _ _ _ (nz 4 (by decide)).symm).trans h4))))}
theorem Zga (W : World) (b o : Nat) (t : Sh) (q : Ptr) (x k : Nat) : (Z1z W b o t q).frozen? ⟨x, k, none⟩ = W.frozen? ⟨x, k, none⟩ := by
 unfold Z1z; rw [World.frozen?_setCell, World.frozen?_setCell, World.frozen?_setCell, World.frozen?_setCell, World.frozen?_setCell]
theorem Zd4 (W : World) (b o : Nat) (t : Sh) (q : Ptr) {x : Nat} (h : x ≠ b) : (Z1z W b o t q).heap[x]? = W.heap[x]? := by
 unfold Z1z
 rw [Below.heap_setCell _ _ _ _ h, Below.heap_setCell _ _ _ _ h, Below.heap_setCell _ _ _ _ h, Below.heap_setCell _ _ _ _ h, Below.heap_setCell _ _ _ _ h]
structure ShL (W1 wr : World) (sb : Nat) (l : List Sh) (rs : Nat -> Ptr) (i : Nat) : Prop where
 os : wr.os = W1.os
 tape : wr.tape = W1.tape
 output : wr.output = W1.output
 size : W1.heap.size <= wr.heap.size
 block : ∀ k, k < W1.heap.size -> k ≠ sb -> wr.heap[k]? = W1.heap[k]?
 lt : sb < W1.heap.size
 fz : ∀ k, wr.frozen? ⟨sb, k, none⟩ = false
 dn : ∃ (qs : Nat -> Ptr) (Fs : Nat -> List Nat), ∀ j (h : j < l.length), j < i -> Sh5 wr sb (j * 5) (l[j]'h) (qs j) /\ Own wr (qs j) (l[j]'h) (Fs j) /\ ∀ b ∈ Fs j, W1.heap.size <= b
 rest : ∀ j (h : j < l.length), i <= j -> Sh5 wr sb (j * 5) (l[j]'h) (rs j)
theorem ShL.same {W1 wr : World} {sb : Nat} {l : List Sh} {rs : Nat -> Ptr} {i : Nat} (h : ShL W1 wr sb l rs i) {b : Nat} (h1 : b < W1.heap.size) (h2 : b ≠ sb) : Z0r W1 wr b :=
 ⟨fun k => World.cell?_of_block (w := W1) (h.block b h1 h2), fun k => World.frozen?_of_block (w := W1) (h.block b h1 h2)⟩
theorem ShL.start {W1 : World} {sb : Nat} {l : List Sh} {rs : Nat -> Ptr} (h : PaR W1 sb l rs) : ShL W1 W1 sb l rs 0 :=
 ⟨rfl, rfl, rfl, Nat.le_refl _, fun _ _ _ => rfl, h.lt, h.fz, ⟨rs, fun _ => [], fun j _ hj => absurd hj (by omega)⟩, fun j hj _ => h.at_ j hj⟩
theorem ShL.step {W1 wr W : World} {sb : Nat} {l : List Sh} {rs : Nat -> Ptr} {i : Nat} (h : ShL W1 wr sb l rs i) (hi : i < l.length) (hb : Below wr.heap.size wr W) {q' : Ptr} {F : List Nat} (ho : Own W q' (l[i]'hi) F) (hF : ∀ b ∈ F, wr.heap.size <= b) :
 ShL W1 (Z1z W sb (i * 5) (l[i]'hi) q') sb l rs (i + 1) := by
 have hsb : sb < wr.heap.size := Nat.lt_of_lt_of_le h.lt h.size
 obtain ⟨qs, Fs, hd⟩ := h.dn
 have hz := hb.size
 have hcw : ∀ k, W.cell? ⟨sb, k, none⟩ = wr.cell? ⟨sb, k, none⟩ := fun k => hb.cell (p := ⟨sb, k, none⟩) hsb
 have hrow : Sh5 W sb (i * 5) (l[i]'hi) (rs i) := (h.rest i hi (Nat.le_refl _)).of hcw
 have hoth : ∀ j (hj : j < l.length) (q : Ptr), j ≠ i -> Sh5 wr sb (j * 5) (l[j]'hj) q -> Sh5 (Z1z W sb (i * 5) (l[i]'hi) q') sb (j * 5) (l[j]'hj) q := fun j hj q hne h5 => by
  refine Z7E (fun c hc => ?_)
  rw [Zd3 _ _ _ _ _ (by omega), hcw]
  exact Z7D h5 hc
 refine ⟨hb.os.trans h.os, hb.tape.trans h.tape, hb.output.trans h.output, by rw [Z4l]; exact Nat.le_trans h.size hz, fun k hk hne => ?_, h.lt, fun k => ?_, ⟨fun j => if j = i then q' else qs j, fun j => if j = i then F else Fs j, fun j hj hji => ?_⟩, fun j hj hji => hoth j hj _ (by omega) (h.rest j hj (by omega))⟩
 {rw [Zd4 _ _ _ _ _ hne, hb.block k (Nat.lt_of_lt_of_le hk h.size)]
  exact h.block k hk hne}
 {rw [Zga]
  exact (hb.frozen (p := ⟨sb, k, none⟩) hsb).trans (h.fz k)}
 {by_cases e : j = i
  {subst e
   dsimp only
   rw [show (if j = j then q' else qs j) = q' from if_pos rfl, show (if j = j then F else Fs j) = F from if_pos rfl]
   refine ⟨ZeS _ _ _ _ _ _ _ hrow, ho.of (fun b hb' => Z5L _ _ _ _ _ (fun e => by have := hF b hb'; omega)) (by rw [Z4l]; exact Nat.le_refl _), fun b hb' => Nat.le_trans h.size (hF b hb')⟩}
  {dsimp only
   rw [show (if j = i then q' else qs j) = qs j from if_neg e, show (if j = i then F else Fs j) = Fs j from if_neg e]
   obtain ⟨a1, a2, a3⟩ := hd j hj (by omega)
   refine ⟨hoth j hj _ e a1, a2.of (fun b hb' => (Z0r.below hb (a2.lt b hb')).trans (Z5L _ _ _ _ _ (fun e => by have := a3 b hb'; have := h.lt; omega))) (by rw [Z4l]; exact hz), a3⟩}}
structure ChS (Wd : World) (x : Sh) (val : Nat -> Option Value) (d : Nat -> Bool) (u : Nat -> Value) (W : World) : Prop where
 bel : Below Wd.heap.size Wd W
 vals : ∀ j, d j = true -> ∀ v, val j = some v -> u j = v
 c6 : d 6 = true -> ∃ (q' : Ptr) (F : List Nat), u 6 = .agg (Y8 x q') /\ Own W q' x F /\ ∀ b ∈ F, Wd.heap.size <= b
theorem ChS.pure {Wd W : World} {x : Sh} {val : Nat -> Option Value} {d : Nat -> Bool} {u : Nat -> Value} (h : ChS Wd x val d u W) (i : Nat) (v : Value) (hi : i ≠ 6) (hv : ∀ v', val i = some v' -> v = v') : ChS Wd x val (also d i) (upd u i v) W :=
 ⟨h.bel, Z1e h.vals i v hv, fun e => by rw [Z0R u v (Ne.symm hi)]; exact h.c6 (by rwa [Z0f d (Ne.symm hi)] at e)⟩
theorem ChS.call {Wd W W' : World} {x : Sh} {val : Nat -> Option Value} {d : Nat -> Bool} {u : Nat -> Value} (h : ChS Wd x val d u W) (v : Value) (hv : val 6 = none) (hb : Below W.heap.size W W') (hx : ∃ (q' : Ptr) (F : List Nat), v = .agg (Y8 x q') /\ Own W' q' x F /\ ∀ b ∈ F, Wd.heap.size <= b) : ChS Wd x val (also d 6) (upd u 6 v) W' :=
 ⟨h.bel.trans (hb.mono h.bel.size), Z1e h.vals 6 v (fun v' h' => by rw [hv] at h'; cases h'), fun _ => by rw [Z3Y]; exact hx⟩
theorem Z7J {W1 wr : World} {t : Tm} {q' : TP} {rs : Nat -> Ptr} {sb : Nat} {base : Nat} (hbz : base <= W1.heap.size)
 (hn : t.names.length = 0 \/ ∃ b, q'.A = some ⟨b, 0, none⟩ /\ base <= b /\ TxR W1 b t.names) (hv : t.vars.length = 0 \/ ∃ b, q'.V = some ⟨b, 0, none⟩ /\ base <= b /\ TxR W1 b t.vars)
 (hs : t.shapes.length = 0 /\ wr = W1 \/ q'.S = some ⟨sb, 0, none⟩ /\ base <= sb /\ 0 < t.shapes.length /\ PaR W1 sb t.shapes rs /\ ShL W1 wr sb t.shapes rs t.shapes.length) :
 ∃ N, Rest wr N q' t /\ ∀ b ∈ N, base <= b /\ b < wr.heap.size := by
 have hwz : W1.heap.size <= wr.heap.size := by
  rcases hs with ⟨_, rfl⟩ | ⟨_, _, _, _, h⟩
  {exact Nat.le_refl _}
  {exact h.size}
 have tx : ∀ (l : List (List UInt8)) (A : Option Addr), (l.length = 0 \/ ∃ b, A = some ⟨b, 0, none⟩ /\ base <= b /\ TxR W1 b l) -> ∃ N : List Nat, (∀ b ∈ N, base <= b /\ b < wr.heap.size) /\ ∀ W', (∀ b ∈ N, Z0r wr W' b) -> wr.heap.size <= W'.heap.size -> Strs W' W'.heap.size A (strs l) := by
  intro l A h
  rcases h with h | ⟨b, h1, h2, h3⟩
  {exact ⟨[], nofun, fun _ _ _ => Or.inl (by rw [Z26]; exact h)⟩}
  {by_cases hl0 : l.length = 0
   {exact ⟨[], nofun, fun _ _ _ => Or.inl (by rw [Z26]; exact hl0)⟩}
   have hsame : Z0r W1 wr b := by
    rcases hs with ⟨_, rfl⟩ | ⟨_, _, hpos, hp, h⟩
    {exact ⟨fun _ => rfl, fun _ => rfl⟩}
    {refine h.same h3.lt (fun e => ?_)
     subst e
     have e1 := h3.at_ 0 (by omega)
     have e2 := (hp.at_ 0 hpos).1
     simp only [Nat.zero_mul] at e2
     rw [e1] at e2
     cases e2}
   refine ⟨[b], fun x hx => by rw [List.mem_singleton] at hx; subst hx; exact ⟨h2, Nat.lt_of_lt_of_le h3.lt hwz⟩, fun W' hs' hz => ?_⟩
   have h4 := (h3.of hsame hwz).of (hs' b (by simp)) hz
   refine Or.inr ⟨b, 0, h1, h4.lt, fun i hi => ?_⟩
   rw [Z26] at hi
   rw [Nat.zero_add, h4.at_ i hi]
   simp [strs]}
 obtain ⟨N1, a1, a2⟩ := tx t.names q'.A hn
 obtain ⟨N2, b1, b2⟩ := tx t.vars q'.V hv
 have hS : ∃ N : List Nat, (∀ b ∈ N, base <= b /\ b < wr.heap.size) /\ ∀ W', (∀ b ∈ N, Z0r wr W' b) -> wr.heap.size <= W'.heap.size -> ShsAt W' W'.heap.size q'.S t.shapes := by
  rcases hs with ⟨h, _⟩ | ⟨h1, h2, hpos, hp, h⟩
  {exact ⟨[], nofun, fun _ _ _ => Or.inl h⟩}
  {obtain ⟨qs, Fs, hd⟩ := h.dn
   refine ⟨sb :: (List.range t.shapes.length).flatMap Fs, fun b hb => ?_, fun W' hs' hz => ?_⟩
   {rcases List.mem_cons.1 hb with rfl | hb
    {exact ⟨h2, Nat.lt_of_lt_of_le h.lt h.size⟩}
    {obtain ⟨j, hj, hb⟩ := List.mem_flatMap.1 hb
     obtain ⟨_, c2, c3⟩ := hd j (List.mem_range.1 hj) (List.mem_range.1 hj)
     exact ⟨Nat.le_trans hbz (c3 b hb), c2.lt b hb⟩}}
   {have hsb := hs' sb (by simp)
    refine Or.inr ⟨sb, 0, qs, h1, Nat.lt_of_lt_of_le (Nat.lt_of_lt_of_le h.lt h.size) hz, fun i hi => ?_, fun i hi => ?_⟩
    {rw [Nat.zero_add]; exact (hd i hi hi).1.of hsb.1}
    {obtain ⟨_, c2, _⟩ := hd i hi hi
     have hof := c2.of (fun b hb => hs' b (List.mem_cons_of_mem _ (List.mem_flatMap.2 ⟨i, List.mem_range.2 hi, hb⟩))) hz
     exact hof.at_ hof.lt}}}
 obtain ⟨N3, c1, c2⟩ := hS
 refine ⟨N1 ++ N2 ++ N3, fun W' hs' hz => ⟨a2 W' (fun b hb => hs' b (by simp [hb])) hz, b2 W' (fun b hb => hs' b (by simp [hb])) hz, c2 W' (fun b hb => hs' b (by simp [hb])) hz⟩, fun b hb => ?_⟩
 rcases List.mem_append.1 hb with hb | hb
 {rcases List.mem_append.1 hb with hb | hb
  {exact a1 b hb}
  {exact b1 b hb}}
 {exact c1 b hb}
def valS (g o sb n c i : Nat) (x : Sh) (r : Ptr) : Nat -> Option Value
 | 0 => some (.pointer (some ⟨g, o, none⟩))
 | 1 => some (.pointer (some ⟨g, o, none⟩))
 | 2 => some (.pointer (some ⟨g, o + 6, none⟩))
 | 3 => some (.slice (some ⟨sb, 0, none⟩) n c)
 | 4 => some (.int .i64 (i : Int))
 | 5 => some (.agg (Y8 x r))
 | 7 => some (.pointer (some ⟨sb, i * 5, none⟩))
 | _ => none
theorem ZeT (g o B : Nat) (t : Tm) (q : TP) (rs : Nat -> Ptr) (w : World) (hg : g < w.heap.size) (h9 : Tm9 w g o t q) (hf : ∀ k, w.frozen? ⟨g, k, none⟩ = false) (hsm : TSmall t q) (hA : Strs w w.heap.size q.A (strs t.names)) (hV : Strs w w.heap.size q.V (strs t.vars))
 (hS : t.shapes.length = 0 \/ ∃ g off, q.S = some ⟨g, off, none⟩ /\ g < w.heap.size /\ ∀ i (h : i < t.shapes.length), Sh5 w g (off + i * 5) (t.shapes[i]'h) (rs i)) (hSr : ∀ i (h : i < t.shapes.length), ShAt w B (rs i) (t.shapes[i]'h)) (hB : B <= g) (hBw : B <= w.heap.size)
 (hln : t.names.length <= 1000000000) (hlv : t.vars.length <= 1000000000) (hls : t.shapes.length <= 1000000000) (hr : ∀ s ∈ t.shapes, Shp.size s <= 400 /\ Shp.right s = true) :
 Calls Tryz.prog 41 #[.pointer (some ⟨g, o, none⟩)] w fun e w' => e = .returned (.tuple #[]) /\ ∃ q' N, q'.P = q.P /\ q'.d = q.d /\ Tm9 w' g o t q' /\ TSmall t q' /\ Rest w' N q' t /\ (∀ b ∈ N, w.heap.size <= b /\ b < w'.heap.size) /\ UpN g o w w' := by
 have H9 := Y1 h9
 have HFZ := Y1 hf
 have HSM := Y1 hsm
 have HG := Y1 hg
 have C7 := Y1 (fun (W : World) (hb : Below w.heap.size w W) => Z3M q.A q.c t.names W (hA.next hb) hln hsm.c hsm.A0)
 have C12 := Y1 (fun (W : World) (hb : Below w.heap.size w W) => Z3M q.V q.e t.vars W (hV.next hb) hlv hsm.e hsm.V0)
 have C17 := Y1 (fun (W : World) (hb : Below w.heap.size w W) => Z9i q.S q.s t.shapes rs w W hb.size (by
  rcases hS with h | ⟨g', off, h1, h2, h3⟩
  {exact Or.inl h}
  · exact Or.inr ⟨g', off, h1, Nat.lt_of_lt_of_le h2 hb.size, fun i hi => (h3 i hi).keep h2 hb⟩) hls hsm.S0)
 have HSR := Y1 hSr
 have HR := Y1 hr
 clear hA hV hS hSr hsm hr h9 hf
 go_enter Tryz.func41, Tryz.ntmps41
 go_wp2_with fail
 refine Z6A (rs := [0, 1, 2, 3, 4, 5, 6, 7, 8, 9, 10, 11, 12, 13, 14, 15, 16, 17, 18, 19, 20, 21, 22, 23, 24, 25, 26])
  (fun u' => { tmps := #[.pointer (some { block := g, off := o }), undef, undef, undef, u' 0, u' 1, u' 2, u' 3, u' 4, u' 5, u' 6, u' 7, u' 8, u' 9, u' 10, u' 11, u' 12, u' 13, u' 14, u' 15, u' 16, u' 17, u' 18, u' 19, u' 21, u' 22, u' 24, u' 25, undef, undef, undef, undef, undef, undef, undef, undef, undef, undef, undef, undef, undef, undef, undef, undef, undef, undef, undef], defers := [] })
  (fun j => ([undef, undef, undef, undef, undef, undef, undef, undef, undef, undef, undef, undef, undef, undef, undef, undef, undef, undef, undef, undef, undef, undef, undef, undef, undef, undef, undef] : List Value).getD j undef) (OwnI w.drew g o t rs (valO g o t q)) (by kernel_rfl) (by kernel_rfl) (by kernel_rfl) ⟨⟨w.drew, ⟨Below.refl _ _, nofun, nofun, nofun⟩, rfl⟩, nofun, nofun, nofun, nofun⟩ ?_ ?_
 refine StepsInv.cons _ rfl (fun d u' W K' hI hd hw hK => ?_) ?_
 {refine Z01 (v := .pointer (some ⟨g, o, none⟩)) (W' := W) rfl ?_ (hK.out _ _ (hI.pure 0 _ (by decide) (fun v' h => by cases h; rfl)))
  try dsimp only
  go_simp}
 refine StepsInv.cons _ rfl (fun d u' W K' hI hd hw hK => ?_) ?_
 {refine Z01 (v := .pointer (some ⟨g, o, none⟩)) (W' := W) rfl ?_ (hK.out _ _ (hI.pure 1 _ (by decide) (fun v' h => by cases h; rfl)))
  try dsimp only
  go_simp}
 refine StepsInv.cons _ rfl (fun d u' W K' hI hd hw hK => ?_) ?_
 {refine Z01 (v := .pointer (some ⟨g, o, none⟩)) (W' := W) rfl ?_ (hK.out _ _ (hI.pure 2 _ (by decide) (fun v' h => by cases h; rfl)))
  try dsimp only
  go_simp}
 refine StepsInv.cons _ rfl (fun d u' W K' hI hd hw hK => ?_) ?_
 {refine Z01 (v := .pointer (some ⟨g, o, none⟩)) (W' := W) rfl ?_ (hK.out _ _ (hI.pure 3 _ (by decide) (fun v' h => by cases h; rfl)))
  try dsimp only
  go_simp}
 refine StepsInv.cons _ rfl (fun d u' W K' hI hd hw hK => ?_) ?_
 {have d3 : u' 3 = .pointer (some ⟨g, o, none⟩) := hI.vals 3 (hw 3 (by kernel_rfl)) _ rfl
  refine Z01 (v := .pointer (some ⟨g, o, none⟩)) (W' := W) rfl ?_ (hK.out _ _ (hI.pure 4 _ (by decide) (fun v' h => by cases h; rfl)))
  try dsimp only
  go_simp}
 refine StepsInv.cons _ rfl (fun d u' W K' hI hd hw hK => ?_) ?_
 {have d4 : u' 4 = .pointer (some ⟨g, o, none⟩) := hI.vals 4 (hw 4 (by kernel_rfl)) _ rfl
  refine Z01 (v := .pointer (some ⟨g, o + 4, none⟩)) (W' := W) rfl ?_ (hK.out _ _ (hI.pure 5 _ (by decide) (fun v' h => by cases h; rfl)))
  try dsimp only
  go_simp}
 refine StepsInv.cons _ rfl (fun d u' W K' hI hd hw hK => ?_) ?_
 {have d5 : u' 5 = .pointer (some ⟨g, o + 4, none⟩) := hI.vals 5 (hw 5 (by kernel_rfl)) _ rfl
  have hbl := (hI.clean (hI.early (j := 6) (by decide) hd)).bel
  obtain ⟨y0, y1, y2, y3, y4, y5, y6, y7, y8⟩ := H9.out.keep HG.out (show Below w.heap.size w W from Y2.drew.trans hbl)
  refine Z01 (v := .slice q.A t.names.length q.c) (W' := W) rfl ?_ (hK.out _ _ (hI.pure 6 _ (by decide) (fun v' h => by cases h; rfl)))
  try dsimp only
  go_simp}
 refine StepsInv.cons _ rfl (fun d u' W K' hI hd hw hK => ?_) ?_
 {have d6 : u' 6 = .slice q.A t.names.length q.c := hI.vals 6 (hw 6 (by kernel_rfl)) _ rfl
  have hbl : Below w.heap.size w W := Y2.drew.trans (hI.clean (hI.early (j := 7) (by decide) hd)).bel
  refine Z05 (f := 42) (args := #[.slice q.A t.names.length q.c]) (W' := W) rfl ?_ ((C7.out W hbl).mono fun e w' ⟨⟨A', c', he, h1, h2, h3⟩, hb⟩ => ⟨_, he, hK.out _ _ (hI.call 7 _ (by decide) hd rfl hb (fun _ => ⟨A', c', rfl, h1, h2, by rcases h3 with h3 | ⟨b, h4, h5, h6⟩; exact Or.inl h3; exact Or.inr ⟨b, h4, Nat.le_trans hbl.size h5, h6⟩⟩) (fun h => by cases h) (fun h => by cases h))⟩)
  try dsimp only
  go_simp}
 refine StepsInv.cons _ rfl (fun d u' W K' hI hd hw hK => ?_) ?_
 {refine Z01 (v := .pointer (some ⟨g, o, none⟩)) (W' := W) rfl ?_ (hK.out _ _ (hI.pure 8 _ (by decide) (fun v' h => by cases h; rfl)))
  try dsimp only
  go_simp}
 refine StepsInv.cons _ rfl (fun d u' W K' hI hd hw hK => ?_) ?_
 {have d8 : u' 8 = .pointer (some ⟨g, o, none⟩) := hI.vals 8 (hw 8 (by kernel_rfl)) _ rfl
  refine Z01 (v := .pointer (some ⟨g, o, none⟩)) (W' := W) rfl ?_ (hK.out _ _ (hI.pure 9 _ (by decide) (fun v' h => by cases h; rfl)))
  try dsimp only
  go_simp}
 refine StepsInv.cons _ rfl (fun d u' W K' hI hd hw hK => ?_) ?_
 {have d9 : u' 9 = .pointer (some ⟨g, o, none⟩) := hI.vals 9 (hw 9 (by kernel_rfl)) _ rfl
  refine Z01 (v := .pointer (some ⟨g, o + 5, none⟩)) (W' := W) rfl ?_ (hK.out _ _ (hI.pure 10 _ (by decide) (fun v' h => by cases h; rfl)))
  try dsimp only
  go_simp}
 refine StepsInv.cons _ rfl (fun d u' W K' hI hd hw hK => ?_) ?_
 {have d10 : u' 10 = .pointer (some ⟨g, o + 5, none⟩) := hI.vals 10 (hw 10 (by kernel_rfl)) _ rfl
  have hbl := (hI.clean (hI.early (j := 11) (by decide) hd)).bel
  obtain ⟨y0, y1, y2, y3, y4, y5, y6, y7, y8⟩ := H9.out.keep HG.out (show Below w.heap.size w W from Y2.drew.trans hbl)
  refine Z01 (v := .slice q.V t.vars.length q.e) (W' := W) rfl ?_ (hK.out _ _ (hI.pure 11 _ (by decide) (fun v' h => by cases h; rfl)))
  try dsimp only
  go_simp}
 refine StepsInv.cons _ rfl (fun d u' W K' hI hd hw hK => ?_) ?_
 {have d11 : u' 11 = .slice q.V t.vars.length q.e := hI.vals 11 (hw 11 (by kernel_rfl)) _ rfl
  have hbl : Below w.heap.size w W := Y2.drew.trans (hI.clean (hI.early (j := 12) (by decide) hd)).bel
  refine Z05 (f := 42) (args := #[.slice q.V t.vars.length q.e]) (W' := W) rfl ?_ ((C12.out W hbl).mono fun e w' ⟨⟨A', c', he, h1, h2, h3⟩, hb⟩ => ⟨_, he, hK.out _ _ (hI.call 12 _ (by decide) hd rfl hb (fun h => by cases h) (fun _ => ⟨A', c', rfl, h1, h2, by rcases h3 with h3 | ⟨b, h4, h5, h6⟩; exact Or.inl h3; exact Or.inr ⟨b, h4, Nat.le_trans hbl.size h5, h6⟩⟩) (fun h => by cases h))⟩)
  try dsimp only
  go_simp}
 refine StepsInv.cons _ rfl (fun d u' W K' hI hd hw hK => ?_) ?_
 {refine Z01 (v := .pointer (some ⟨g, o, none⟩)) (W' := W) rfl ?_ (hK.out _ _ (hI.pure 13 _ (by decide) (fun v' h => by cases h; rfl)))
  try dsimp only
  go_simp}
 refine StepsInv.cons _ rfl (fun d u' W K' hI hd hw hK => ?_) ?_
 {have d13 : u' 13 = .pointer (some ⟨g, o, none⟩) := hI.vals 13 (hw 13 (by kernel_rfl)) _ rfl
  refine Z01 (v := .pointer (some ⟨g, o, none⟩)) (W' := W) rfl ?_ (hK.out _ _ (hI.pure 14 _ (by decide) (fun v' h => by cases h; rfl)))
  try dsimp only
  go_simp}
 refine StepsInv.cons _ rfl (fun d u' W K' hI hd hw hK => ?_) ?_
 {have d14 : u' 14 = .pointer (some ⟨g, o, none⟩) := hI.vals 14 (hw 14 (by kernel_rfl)) _ rfl
  refine Z01 (v := .pointer (some ⟨g, o + 6, none⟩)) (W' := W) rfl ?_ (hK.out _ _ (hI.pure 15 _ (by decide) (fun v' h => by cases h; rfl)))
  try dsimp only
  go_simp}
 refine StepsInv.cons _ rfl (fun d u' W K' hI hd hw hK => ?_) ?_
 {have d15 : u' 15 = .pointer (some ⟨g, o + 6, none⟩) := hI.vals 15 (hw 15 (by kernel_rfl)) _ rfl
  have hbl := (hI.clean (hI.early (j := 16) (by decide) hd)).bel
  obtain ⟨y0, y1, y2, y3, y4, y5, y6, y7, y8⟩ := H9.out.keep HG.out (show Below w.heap.size w W from Y2.drew.trans hbl)
  refine Z01 (v := .slice q.S t.shapes.length q.s) (W' := W) rfl ?_ (hK.out _ _ (hI.pure 16 _ (by decide) (fun v' h => by cases h; rfl)))
  try dsimp only
  go_simp}
 refine StepsInv.cons _ rfl (fun d u' W K' hI hd hw hK => ?_) ?_
 {have d16 : u' 16 = .slice q.S t.shapes.length q.s := hI.vals 16 (hw 16 (by kernel_rfl)) _ rfl
  have hbl : Below w.heap.size w W := Y2.drew.trans (hI.clean (hI.early (j := 17) (by decide) hd)).bel
  refine Z05 (f := 43) (args := #[.slice q.S t.shapes.length q.s]) (W' := W) rfl ?_ ((C17.out W hbl).mono fun e w' ⟨⟨A', c', he, h1⟩, hb⟩ => ⟨_, he, hK.out _ _ (hI.call 17 _ (by decide) hd rfl hb (fun h => by cases h) (fun h => by cases h) (fun _ => ⟨A', c', rfl, h1⟩))⟩)
  try dsimp only
  go_simp}
 refine StepsInv.cons _ rfl (fun d u' W K' hI hd hw hK => ?_) ?_
 {have d0 : u' 0 = .pointer (some ⟨g, o, none⟩) := hI.vals 0 (hw 0 (by kernel_rfl)) _ rfl
  refine Z01 (v := .pointer (some ⟨g, o, none⟩)) (W' := W) rfl ?_ (hK.out _ _ (hI.pure 18 _ (by decide) (fun v' h => by cases h; rfl)))
  try dsimp only
  go_simp}
 refine StepsInv.cons _ rfl (fun d u' W K' hI hd hw hK => ?_) ?_
 {have d18 : u' 18 = .pointer (some ⟨g, o, none⟩) := hI.vals 18 (hw 18 (by kernel_rfl)) _ rfl
  refine Z01 (v := .pointer (some ⟨g, o + 4, none⟩)) (W' := W) rfl ?_ (hK.out _ _ (hI.pure 19 _ (by decide) (fun v' h => by cases h; rfl)))
  try dsimp only
  go_simp}
 refine StepsInv.cons _ rfl (fun d u' W K' hI hd hw hK => ?_) ?_
 {have d19 : u' 19 = .pointer (some ⟨g, o + 4, none⟩) := hI.vals 19 (hw 19 (by kernel_rfl)) _ rfl
  have tt := hI.clean hd
  obtain ⟨A', c', e7, _⟩ := tt.c7 (hw 7 (by kernel_rfl))
  have hbl : Below w.heap.size w W := Y2.drew.trans tt.bel
  obtain ⟨y0, y1, y2, y3, y4, y5, y6, y7, y8⟩ := H9.out.keep HG.out hbl
  have z4 := (hbl.frozen (p := ⟨g, o + 4, none⟩) HG.out).trans (HFZ.out (o + 4))
  have hn := hI.st20 undef hd rfl ⟨hw 6 (by kernel_rfl), hw 7 (by kernel_rfl), hw 11 (by kernel_rfl), hw 12 (by kernel_rfl), hw 16 (by kernel_rfl), hw 17 (by kernel_rfl)⟩
  refine Z2d (W' := W.setCell ⟨g, o + 4, none⟩ (u' 7)) rfl ?_ (hK.out undef _ hn)
  rw [e7]
  try dsimp only
  go_simp}
 refine StepsInv.cons _ rfl (fun d u' W K' hI hd hw hK => ?_) ?_
 {have d1 : u' 1 = .pointer (some ⟨g, o, none⟩) := hI.vals 1 (hw 1 (by kernel_rfl)) _ rfl
  refine Z01 (v := .pointer (some ⟨g, o, none⟩)) (W' := W) rfl ?_ (hK.out _ _ (hI.pure 21 _ (by decide) (fun v' h => by cases h; rfl)))
  try dsimp only
  go_simp}
 refine StepsInv.cons _ rfl (fun d u' W K' hI hd hw hK => ?_) ?_
 {have d21 : u' 21 = .pointer (some ⟨g, o, none⟩) := hI.vals 21 (hw 21 (by kernel_rfl)) _ rfl
  refine Z01 (v := .pointer (some ⟨g, o + 5, none⟩)) (W' := W) rfl ?_ (hK.out _ _ (hI.pure 22 _ (by decide) (fun v' h => by cases h; rfl)))
  try dsimp only
  go_simp}
 refine StepsInv.cons _ rfl (fun d u' W K' hI hd hw hK => ?_) ?_
 {have d22 : u' 22 = .pointer (some ⟨g, o + 5, none⟩) := hI.vals 22 (hw 22 (by kernel_rfl)) _ rfl
  obtain ⟨Wb, tt, hW⟩ := hI.w20 (hw 20 (by kernel_rfl)) hd
  obtain ⟨A', c', e12, _⟩ := tt.c12 (hw 12 (by kernel_rfl))
  have hbl : Below w.heap.size w Wb := Y2.drew.trans tt.bel
  obtain ⟨y0, y1, y2, y3, y4, y5, y6, y7, y8⟩ := H9.out.keep HG.out hbl
  have z4 := (hbl.frozen (p := ⟨g, o + 5, none⟩) HG.out).trans (HFZ.out (o + 5))
  have x5 : W.cell? ⟨g, o + 5, none⟩ = some (.slice q.V t.vars.length q.e) := by rw [hW]; exact (World.cell?_setCell_other _ _ _ _ (fun e => by have := congrArg Addr.off e; simp at this)).trans y5
  have x6 : W.frozen? ⟨g, o + 5, none⟩ = false := by rw [hW, World.frozen?_setCell]; exact z4
  have hn := hI.st23 undef (hw 20 (by kernel_rfl)) hd rfl
  clear hW
  refine Z2d (W' := W.setCell ⟨g, o + 5, none⟩ (u' 12)) rfl ?_ (hK.out undef _ hn)
  rw [e12]
  try dsimp only
  go_simp}
 refine StepsInv.cons _ rfl (fun d u' W K' hI hd hw hK => ?_) ?_
 {have d2 : u' 2 = .pointer (some ⟨g, o, none⟩) := hI.vals 2 (hw 2 (by kernel_rfl)) _ rfl
  refine Z01 (v := .pointer (some ⟨g, o, none⟩)) (W' := W) rfl ?_ (hK.out _ _ (hI.pure 24 _ (by decide) (fun v' h => by cases h; rfl)))
  try dsimp only
  go_simp}
 refine StepsInv.cons _ rfl (fun d u' W K' hI hd hw hK => ?_) ?_
 {have d24 : u' 24 = .pointer (some ⟨g, o, none⟩) := hI.vals 24 (hw 24 (by kernel_rfl)) _ rfl
  refine Z01 (v := .pointer (some ⟨g, o + 6, none⟩)) (W' := W) rfl ?_ (hK.out _ _ (hI.pure 25 _ (by decide) (fun v' h => by cases h; rfl)))
  try dsimp only
  go_simp}
 refine StepsInv.cons _ rfl (fun d u' W K' hI hd hw hK => ?_) StepsInv.nil
 {have d25 : u' 25 = .pointer (some ⟨g, o + 6, none⟩) := hI.vals 25 (hw 25 (by kernel_rfl)) _ rfl
  obtain ⟨Wb, tt, hW⟩ := hI.w23 (hw 23 (by kernel_rfl)) hd
  obtain ⟨A', c', e17, _⟩ := tt.c17 (hw 17 (by kernel_rfl))
  have hbl : Below w.heap.size w Wb := Y2.drew.trans tt.bel
  obtain ⟨y0, y1, y2, y3, y4, y5, y6, y7, y8⟩ := H9.out.keep HG.out hbl
  have z4 := (hbl.frozen (p := ⟨g, o + 6, none⟩) HG.out).trans (HFZ.out (o + 6))
  have x5 : W.cell? ⟨g, o + 6, none⟩ = some (.slice q.S t.shapes.length q.s) := by rw [hW]; exact (World.cell?_setCell_other _ _ _ _ (fun e => by have := congrArg Addr.off e; simp at this)).trans ((World.cell?_setCell_other _ _ _ _ (fun e => by have := congrArg Addr.off e; simp at this)).trans y6)
  have x6 : W.frozen? ⟨g, o + 6, none⟩ = false := by rw [hW, World.frozen?_setCell, World.frozen?_setCell]; exact z4
  have hn := hI.st26 undef (hw 23 (by kernel_rfl)) hd rfl
  clear hW
  refine Z2d (W' := W.setCell ⟨g, o + 6, none⟩ (u' 17)) rfl ?_ (hK.out undef _ hn)
  rw [e17]
  try dsimp only
  go_simp}
 intro d' u' W hI hall
 obtain ⟨Wb, A1, c1, A2, c2, A3, c3, hbl, k1, k2, k3, hW⟩ := hI.done hall
 have hbl2 : Below w.heap.size w Wb := Y2.drew.trans hbl
 have hgb : g < Wb.heap.size := Nat.lt_of_lt_of_le HG.out hbl2.size
 have h9b := H9.out.keep HG.out hbl2
 have hsz : W.heap.size = Wb.heap.size := by rw [hW, Z17, Z17, Z17]
 have hcell : ∀ k, k ≠ o + 4 -> k ≠ o + 5 -> k ≠ o + 6 -> W.cell? ⟨g, k, none⟩ = Wb.cell? ⟨g, k, none⟩ := fun k e4 e5 e6 => by
  rw [hW, World.cell?_setCell_other _ _ _ _ (fun e => e6 (congrArg Addr.off e).symm), World.cell?_setCell_other _ _ _ _ (fun e => e5 (congrArg Addr.off e).symm), World.cell?_setCell_other _ _ _ _ (fun e => e4 (congrArg Addr.off e).symm)]
 have hoth : ∀ b, b ≠ g -> Z0r Wb W b := fun b hb => by
  rw [hW]
  exact ((Z0b _ ⟨g, o + 4, none⟩ _ (Ne.symm hb)).trans (Z0b _ ⟨g, o + 5, none⟩ _ (Ne.symm hb))).trans (Z0b _ ⟨g, o + 6, none⟩ _ (Ne.symm hb))
 have h91 : Tm9 W g o t ⟨A1, c1, A2, c2, A3, c3, q.P, q.d⟩ := by
  obtain ⟨y0, y1, y2, y3, y4, y5, y6, y7, y8⟩ := h9b
  have ne : ∀ c d, c ≠ d -> (⟨g, o + c, none⟩ : Addr) ≠ ⟨g, o + d, none⟩ := fun c d hc e => by have := congrArg Addr.off e; simp at this; omega
  refine ⟨(hcell _ (by omega) (by omega) (by omega)).trans y0, (hcell _ (by omega) (by omega) (by omega)).trans y1, (hcell _ (by omega) (by omega) (by omega)).trans y2, (hcell _ (by omega) (by omega) (by omega)).trans y3, ?_, ?_, ?_, (hcell _ (by omega) (by omega) (by omega)).trans y7, (hcell _ (by omega) (by omega) (by omega)).trans y8⟩
  {rw [hW, World.cell?_setCell_other _ _ _ _ (ne 6 4 (by decide)), World.cell?_setCell_other _ _ _ _ (ne 5 4 (by decide))]
   exact World.cell?_setCell_same _ _ _ y4}
  {rw [hW, World.cell?_setCell_other _ _ _ _ (ne 6 5 (by decide))]
   exact World.cell?_setCell_same _ _ _ ((World.cell?_setCell_other _ _ _ _ (ne 4 5 (by decide))).trans y5)}
  {rw [hW]
   exact World.cell?_setCell_same _ _ _ ((World.cell?_setCell_other _ _ _ _ (ne 5 6 (by decide))).trans ((World.cell?_setCell_other _ _ _ _ (ne 4 6 (by decide))).trans y6))}
 have hu1 : UpN g o w W := ⟨by rw [hW]; exact hbl2.os, by rw [hW]; exact hbl2.tape, by rw [hW]; exact hbl2.output, by rw [hsz]; exact hbl2.size, fun k hk hne => by
  rw [hW, Below.heap_setCell _ _ _ _ hne, Below.heap_setCell _ _ _ _ hne, Below.heap_setCell _ _ _ _ hne]; exact hbl2.block k hk,
  fun k e4 e5 e6 => (hcell k e4 e5 e6).trans (hbl2.cell (p := ⟨g, k, none⟩) HG.out), fun k => by rw [hW, World.frozen?_setCell, World.frozen?_setCell, World.frozen?_setCell]; exact hbl2.frozen (p := ⟨g, k, none⟩) HG.out⟩
 have hsm1 : TSmall t ⟨A1, c1, A2, c2, A3, c3, q.P, q.d⟩ := by
  obtain ⟨i1, i2, i3, i4, i5, i6, i7, i8, i9, i10, i11, i12, i13, i14, i15, i16, i17, i18, i19⟩ := HSM.out
  exact ⟨i1, i2, i3, i4, i5, i6, i7, i8, k1.1, k2.1, k3.1, i12, k1.2.1, k2.2.1, k3.2.1, i16, i17, i18, i19⟩
 have tx : ∀ (l : List (List UInt8)) (A : Option Addr) (c : Nat), TxC w.drew Wb l A c -> l.length = 0 \/ ∃ b, A = some ⟨b, 0, none⟩ /\ w.heap.size <= b /\ TxR W b l := fun l A c h => by
  rcases h.2.2 with h | ⟨b, e1, e2, e3⟩
  {exact Or.inl h}
  {have e2' : w.heap.size <= b := e2
   exact Or.inr ⟨b, e1, e2, e3.of (hoth b (by have := HG.out; omega)) (by omega)⟩}
 have HN1 := Y1 (tx _ _ _ k1)
 have HV1 := Y1 (tx _ _ _ k2)
 have hs3 : t.shapes.length = 0 \/ ∃ b, A3 = some ⟨b, 0, none⟩ /\ w.heap.size <= b /\ PaR W b t.shapes rs := by
  rcases k3.2.2 with h | ⟨b, e1, e2, e3⟩
  {exact Or.inl h}
  {have e2' : w.heap.size <= b := e2
   exact Or.inr ⟨b, e1, e2, e3.of (hoth b (by have := HG.out; omega)) (by omega)⟩}
 have HSZ1 : Hid (w.heap.size <= W.heap.size) := Y1 (by rw [hsz]; exact hbl2.size)
 have H91 := Y1 h91
 have HU1 := Y1 hu1
 have HSM1 := Y1 hsm1
 have hls3 := k3.1
 clear hbl hbl2 hgb h9b hW hsz hcell hoth k1 k2 k3 tx hall hI hu1 hsm1 H9 C7 C12 C17
 obtain ⟨W1, hW1⟩ : ∃ W1, W1 = W := ⟨W, rfl⟩
 subst hW1
 obtain ⟨y0, y1, y2, y3, y4, y5, y6, y7, y8⟩ := h91
 clear y0 y1 y2 y3 y4 y5 y7 y8
 by_cases h0 : t.shapes.length = 0
 {have hi0 : ¬ (0 : Int) < (t.shapes.length : Int) := by omega
  have hrest := Z7J (t := t) (q' := ⟨A1, c1, A2, c2, A3, c3, q.P, q.d⟩) (rs := rs) (sb := 0) HSZ1.out HN1.out HV1.out (Or.inl ⟨h0, rfl⟩)
  have HRS := Y1 hrest
  clear hrest hs3 h0
  have HE := Y1 hi0
  clear hi0
  go_wp2_with fail
  go_loopw [33] (fun ii wr => ii = .int .i64 0 /\ wr = W1) (fun _ _ => 0)
  case atStart => exact ⟨rfl, rfl⟩
  case round =>
   obtain ⟨rfl, rfl⟩ := hrel
   have hi0 := HE.out
   go_wp2
   refine bodyPost_end (v := .tuple #[]) (by simp [results, Tryz.results41, go_sem]) rfl ?_
   obtain ⟨N, n1, n2⟩ := HRS.out
   exact ⟨rfl, ⟨A1, c1, A2, c2, A3, c3, q.P, q.d⟩, N, rfl, rfl, H91.out, HSM1.out, n1, n2, HU1.out⟩}
 {rcases hs3 with h | ⟨sb, rfl, hsb, hpar⟩
  {exact absurd h h0}
  have HST := Y1 (ShL.start hpar)
  have HPA := Y1 hpar
  have HSB := Y1 hsb
  have hsg : g ≠ sb := by have := HG.out; omega
  have hgw : g < W1.heap.size := Nat.lt_of_lt_of_le HG.out HSZ1.out
  have H6 := Y1 y6
  have HZ0 := Y1 h0
  clear hpar hsb h0
  go_wp2_with fail
  clear y6
  go_loopw [33] (fun ii wr => ∃ i : Nat, ii = .int .i64 i /\ i <= t.shapes.length /\ Hid (ShL W1 wr sb t.shapes rs i)) (fun ii _ => t.shapes.length - (intOf ii).toNat)
  case atStart => exact ⟨0, rfl, Nat.zero_le _, HST⟩
  case round =>
   obtain ⟨i, rfl, hi, HL⟩ := hrel
   by_cases hlt : i < t.shapes.length
   {have hi1 : (i : Int) < (t.shapes.length : Int) := by omega
    obtain ⟨x, hx⟩ : ∃ x, x = t.shapes[i]'hlt := ⟨_, rfl⟩
    have hrow := HL.out.rest i hlt (Nat.le_refl _)
    have hat : ShAt wr B (rs i) (t.shapes[i]'hlt) := (HSR.out i hlt).of (Nat.le_refl _) (fun x k hx => (HL.out.same (by have := HSZ1.out; omega) (by have := HSB.out; omega)).1 k |>.trans (HU1.out.same (by omega) (by omega) |>.1 k))
    obtain ⟨hz4, hrt⟩ := HR.out _ (List.getElem_mem hlt)
    rw [<- hx] at hrow hat hz4 hrt
    obtain ⟨r, hr⟩ : ∃ r, r = rs i := ⟨_, rfl⟩
    rw [<- hr] at hrow hat
    have HX := Y1 hx
    have hwz := HL.out.size
    have hat2 : ShAt wr wr.heap.size r x := hat.more (by have := HSZ1.out; omega)
    have hb1 := Z02 wr (.cells (Y8 x r) 45)
    have HAT := Y1 (hat2.next hb1)
    have HB5 := Y1 (Z0c wr x r)
    have HB1 := Y1 hb1
    have k6 : wr.cell? ⟨g, o + 6, none⟩ = some (.slice (some ⟨sb, 0, none⟩) t.shapes.length c3) := ((HL.out.same hgw hsg).1 _).trans H6.out
    have H6r := Y1 (show ∀ W, Below wr.heap.size wr W -> W.cell? ⟨g, o + 6, none⟩ = some (.slice (some ⟨sb, 0, none⟩) t.shapes.length c3) from fun W hW => (hW.cell (p := ⟨g, o + 6, none⟩) (by show g < wr.heap.size; omega)).trans k6)
    have HROW := Y1 hrow
    obtain ⟨p0, p1, p2, p3, p4⟩ := hrow
    clear hx hat hat2 hb1 k6 hr
    go_wp2_with fail
    obtain ⟨Wd, hWd⟩ : ∃ Wd, Wd = wr.alloc (.cells (Y8 x r) 45) := ⟨_, rfl⟩
    have HBD : Hid (Below wr.heap.size wr Wd.drew) := Y1 (by rw [hWd]; exact HB1.out.drew)
    have HATD : Hid (ShAt Wd.drew Wd.drew.heap.size r x) := Y1 (by rw [hWd]; exact HAT.out.next Y2.drew)
    have HB5D : Hid (Box5 Wd.drew wr.heap.size x r) := Y1 (by rw [hWd]; exact HB5.out.next Y2.drew)
    rw [<- hWd]
    clear hWd HAT HB5 HB1 p0 p1 p2 p3 p4
    refine Z6A (rs := [0, 1, 2, 3, 4, 5, 6, 7, 8])
     (fun ux => { tmps := #[.pointer (some { block := g, off := o }), undef, .int .i64 ↑i, .pointer (some { block := wr.heap.size, off := 0 }), u' 0, u' 1, u' 2, u' 3, u' 4, u' 5, u' 6, u' 7, u' 8, u' 9, u' 10, u' 11, u' 12, u' 13, u' 14, u' 15, u' 16, u' 17, u' 18, u' 19, u' 21, u' 22, u' 24, u' 25, .pointer (some { block := g, off := o }), .pointer (some { block := g, off := o }), .pointer (some { block := g, off := o + 6 }), .slice (some { block := sb, off := 0 }) t.shapes.length c3, .int .i64 ↑t.shapes.length, .int .i64 ↑i, .bool true, .int .i64 ↑i, .pointer (some { block := sb, off := i * 5 }), .agg (Y8 x r), ux 0, ux 1, ux 2, ux 3, ux 4, ux 5, ux 6, ux 7, u46], defers := [] })
     (fun j => ([u38, u39, u40, u41, u42, u43, u44, u45, undef] : List Value).getD j undef) (InvC 8 (ChS Wd.drew x (valS g o sb t.shapes.length c3 i x r)) (fun W => Hid (ShL W1 W sb t.shapes rs (i + 1)))) (by kernel_rfl) (by kernel_rfl) (by kernel_rfl) (Or.inl ⟨rfl, ⟨Below.refl _ _, nofun, nofun⟩⟩) ?_ ?_
    refine StepsInv.cons _ rfl (fun dx ux W K' hI hd hw hK => ?_) ?_
    {obtain ⟨hS, hC⟩ := hI.open hd (by decide)
     refine Z01 (v := .pointer (some ⟨g, o, none⟩)) (W' := W) rfl ?_ (hK.out _ _ (InvC.next hS (by decide) (hC.pure 0 _ (by decide) (fun v' h => by cases h; rfl))))
     try dsimp only
     go_simp}
    refine StepsInv.cons _ rfl (fun dx ux W K' hI hd hw hK => ?_) ?_
    {obtain ⟨hS, hC⟩ := hI.open hd (by decide)
     have d0 : ux 0 = .pointer (some ⟨g, o, none⟩) := hC.vals 0 (hw 0 (by kernel_rfl)) _ rfl
     refine Z01 (v := .pointer (some ⟨g, o, none⟩)) (W' := W) rfl ?_ (hK.out _ _ (InvC.next hS (by decide) (hC.pure 1 _ (by decide) (fun v' h => by cases h; rfl))))
     try dsimp only
     go_simp}
    refine StepsInv.cons _ rfl (fun dx ux W K' hI hd hw hK => ?_) ?_
    {obtain ⟨hS, hC⟩ := hI.open hd (by decide)
     have d1 : ux 1 = .pointer (some ⟨g, o, none⟩) := hC.vals 1 (hw 1 (by kernel_rfl)) _ rfl
     refine Z01 (v := .pointer (some ⟨g, o + 6, none⟩)) (W' := W) rfl ?_ (hK.out _ _ (InvC.next hS (by decide) (hC.pure 2 _ (by decide) (fun v' h => by cases h; rfl))))
     try dsimp only
     go_simp}
    refine StepsInv.cons _ rfl (fun dx ux W K' hI hd hw hK => ?_) ?_
    {obtain ⟨hS, hC⟩ := hI.open hd (by decide)
     have d2 : ux 2 = .pointer (some ⟨g, o + 6, none⟩) := hC.vals 2 (hw 2 (by kernel_rfl)) _ rfl
     have y6 := H6r.out W (HBD.out.trans (hC.bel.mono HBD.out.size))
     refine Z01 (v := .slice (some ⟨sb, 0, none⟩) t.shapes.length c3) (W' := W) rfl ?_ (hK.out _ _ (InvC.next hS (by decide) (hC.pure 3 _ (by decide) (fun v' h => by cases h; rfl))))
     try dsimp only
     go_simp}
    refine StepsInv.cons _ rfl (fun dx ux W K' hI hd hw hK => ?_) ?_
    {obtain ⟨hS, hC⟩ := hI.open hd (by decide)
     refine Z01 (v := .int .i64 (i : Int)) (W' := W) rfl ?_ (hK.out _ _ (InvC.next hS (by decide) (hC.pure 4 _ (by decide) (fun v' h => by cases h; rfl))))
     try dsimp only
     go_simp}
    refine StepsInv.cons _ rfl (fun dx ux W K' hI hd hw hK => ?_) ?_
    {obtain ⟨hS, hC⟩ := hI.open hd (by decide)
     obtain ⟨_, ⟨y0, y1, y2, y3, y4⟩, _⟩ := HB5D.out.next hC.bel
     simp only [Nat.zero_add] at y0 y1 y2 y3 y4
     refine Z01 (v := .agg (Y8 x r)) (W' := W) rfl ?_ (hK.out _ _ (InvC.next hS (by decide) (hC.pure 5 _ (by decide) (fun v' h => by cases h; rfl))))
     try dsimp only
     go_simp}
    refine StepsInv.cons _ rfl (fun dx ux W K' hI hd hw hK => ?_) ?_
    {obtain ⟨hS, hC⟩ := hI.open hd (by decide)
     have d5 : ux 5 = .agg (Y8 x r) := hC.vals 5 (hw 5 (by kernel_rfl)) _ rfl
     refine Z05 (f := 44) (args := #[.agg (Y8 x r)]) (W' := W) rfl ?_ ((ZaR x r W (HATD.out.next hC.bel) hz4 hrt).mono fun e w' ⟨q', F, he, ho, _, hF, hb⟩ => ⟨_, he, hK.out _ _ (InvC.next hS (by decide) (hC.call _ rfl hb ⟨q', F, rfl, ho, fun b hb' => Nat.le_trans hC.bel.size (hF b hb')⟩))⟩)
     try dsimp only
     go_simp}
    refine StepsInv.cons _ rfl (fun dx ux W K' hI hd hw hK => ?_) ?_
    {obtain ⟨hS, hC⟩ := hI.open hd (by decide)
     have d3 : ux 3 = .slice (some ⟨sb, 0, none⟩) t.shapes.length c3 := hC.vals 3 (hw 3 (by kernel_rfl)) _ rfl
     have d4 : ux 4 = .int .i64 (i : Int) := hC.vals 4 (hw 4 (by kernel_rfl)) _ rfl
     refine Z01 (v := .pointer (some ⟨sb, i * 5, none⟩)) (W' := W) rfl ?_ (hK.out _ _ (InvC.next hS (by decide) (hC.pure 7 _ (by decide) (fun v' h => by cases h; rfl))))
     try dsimp only
     go_simp}
    refine StepsInv.cons _ rfl (fun dx ux W K' hI hd hw hK => ?_) StepsInv.nil
    {obtain ⟨hS, hC⟩ := hI.open hd (by decide)
     have d7 : ux 7 = .pointer (some ⟨sb, i * 5, none⟩) := hC.vals 7 (hw 7 (by kernel_rfl)) _ rfl
     have hall : ∀ j, j < 8 -> dx j = true := by
      intro j hj
      have : j ∈ [0, 1, 2, 3, 4, 5, 6, 7] := by simp; omega
      simp only [List.mem_cons, List.not_mem_nil, or_false] at this
      rcases this with rfl | rfl | rfl | rfl | rfl | rfl | rfl | rfl <;> exact hw _ (by kernel_rfl)
     obtain ⟨q', F, d6, ho, hF⟩ := hC.c6 (hw 6 (by kernel_rfl))
     have hbw : Below wr.heap.size wr W := HBD.out.trans (hC.bel.mono HBD.out.size)
     have hsl : sb < wr.heap.size := Nat.lt_of_lt_of_le HL.out.lt HL.out.size
     obtain ⟨z0, z1, z2, z3, z4⟩ := HROW.out.of (w' := W) (fun k => hbw.cell (p := ⟨sb, k, none⟩) hsl)
     have zf : ∀ k, W.frozen? ⟨sb, k, none⟩ = false := fun k => (hbw.frozen (p := ⟨sb, k, none⟩) hsl).trans (HL.out.fz k)
     have f0 := zf (i * 5)
     have f1 := zf (i * 5 + 1)
     have f2 := zf (i * 5 + 2)
     have f3 := zf (i * 5 + 3)
     have f4 := zf (i * 5 + 4)
     have hstep : ShL W1 (Z1z W sb (i * 5) x q') sb t.shapes rs (i + 1) := by
      have := HL.out.step hlt hbw (q' := q') (F := F) (by rw [<- HX.out]; exact ho) (fun b hb' => Nat.le_trans HBD.out.size (hF b hb'))
      rwa [<- HX.out] at this
     clear zf ho hF hbw
     refine Z2d (W' := Z1z W sb (i * 5) x q') rfl ?_ (hK.out undef _ (InvC.last hall (Y1 hstep)))
     unfold Z1z
     try dsimp only
     go_simp}
    intro d'' ua W4 hI hall
    rcases hI with ⟨h1, _⟩ | ⟨_, _, h1⟩
    {rw [hall 8 (by decide)] at h1; cases h1}
    have HNX := Y1 h1
    clear h1 hall
    go_wp2
    go_roundw
    case rel => exact ⟨i + 1, by go_num, by omega, HNX.out⟩
    case measure => simp [intOf]; omega}
   {have hie : i = t.shapes.length := by omega
    have hpos : 0 < t.shapes.length := by
     rcases Nat.eq_zero_or_pos t.shapes.length with h | h
     {exact absurd h HZ0.out}
     {exact h}
    have HLN : Hid (ShL W1 wr sb t.shapes rs t.shapes.length) := Y1 (by rw [<- hie]; exact HL.out)
    have HRS := Y1 (Z7J (t := t) (q' := ⟨A1, c1, A2, c2, some ⟨sb, 0, none⟩, c3, q.P, q.d⟩) (rs := rs) (sb := sb) HSZ1.out HN1.out HV1.out (Or.inr ⟨rfl, HSB.out, hpos, HPA.out, HLN.out⟩))
    have hi1 : ¬ (i : Int) < (t.shapes.length : Int) := by omega
    clear hie HL hpos
    go_wp2
    refine bodyPost_end (v := .tuple #[]) (by simp [results, Tryz.results41, go_sem]) rfl ?_
    obtain ⟨N, n1, n2⟩ := HRS.out
    have hsg2 := HLN.out.same hgw hsg
    have u1 := HU1.out
    exact ⟨rfl, ⟨A1, c1, A2, c2, some ⟨sb, 0, none⟩, c3, q.P, q.d⟩, rfl, rfl, H91.out.of hsg2.1, HSM1.out, N, n1, n2, ⟨HLN.out.os.trans u1.os, HLN.out.tape.trans u1.tape, HLN.out.output.trans u1.output, Nat.le_trans u1.size HLN.out.size, fun k hk hne => (HLN.out.block k (by have := HSZ1.out; omega) (by have := HSB.out; omega)).trans (u1.block k hk hne), fun k e4 e5 e6 => (hsg2.1 k).trans (u1.cells k e4 e5 e6), fun k => (hsg2.2 k).trans (u1.fz k)⟩⟩}}
end Go.Proofs.YtnkdedejfonbmaaGreatDoor
