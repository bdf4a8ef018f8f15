/- What the proofs of TermsBare, TermsChecks, TermsDeep, TermsSame, TermsSames want, part 21. -/
import Derived.Deep.LoopGhost
import Derived.Laws.EntriesVeiled
import Derived.StillTailTactics
import Derived.Deep.RegionHeld3
import Derived.Test.YtnkdedejfonbmaaGreatDoorK0n17
set_option linter.unusedVariables false
set_option linter.unusedSimpArgs false
set_option maxRecDepth 100000
set_option maxHeartbeats 16000000
namespace Go.Proofs.YtnkdedejfonbmaaGreatDoor
open Go.RowKit Tms
structure Nd8 where
 g : Nat
 i : Nat
 t : Tm
 q : TP
def Z0Z (pb : Nat) (ps : List Tm) (qs : Nat -> TP) : List Nd8 := ps.mapIdx fun i p => ⟨pb, i, p, qs i⟩
theorem Z1i (pb : Nat) (ps : List Tm) (qs : Nat -> TP) : (Z0Z pb ps qs).length = ps.length := by simp [Z0Z]
theorem Z29 (pb : Nat) (ps : List Tm) (qs : Nat -> TP) (i : Nat) (h : i < (Z0Z pb ps qs).length) : (Z0Z pb ps qs)[i]'h = ⟨pb, i, ps[i]'(by rwa [Z1i] at h), qs i⟩ := by simp [Z0Z]
theorem ZeX {pb : Nat} {ps : List Tm} {qs : Nat -> TP} {n : Nd8} (h : n ∈ Z0Z pb ps qs) : n.g = pb := by
 obtain ⟨i, hi, rfl⟩ := List.getElem_of_mem h
 rw [Z29]
theorem Zda (pb : Nat) (ps : List Tm) (qs : Nat -> TP) : (Z0Z pb ps qs).Pairwise fun n m => n.g = m.g -> n.i ≠ m.i := by
 refine List.pairwise_iff_getElem.2 (fun i j hi hj hij => ?_)
 rw [Z29, Z29]
 intro _
 show i ≠ j
 omega
def sumT (L : List Nd8) : Nat := (L.map fun n => size n.t).sum
theorem Z1j (L M : List Nd8) : sumT (L ++ M) = sumT L + sumT M := by simp [sumT]
theorem Z7K (pb : Nat) (ps : List Tm) (qs : Nat -> TP) : sumT (Z0Z pb ps qs) = sizes ps := by
 unfold sumT Z0Z
 have : ∀ (l : List Tm) (f : Nat -> Tm -> Nd8), (∀ i p, (f i p).t = p) -> ((l.mapIdx f).map fun n => size n.t).sum = sizes l := by
  intro l
  induction l with
  | nil => intro f _; rfl
  | cons p l ih =>
   intro f hf
   rw [List.mapIdx_cons]
   simp only [List.map_cons, List.sum_cons, hf]
   rw [ih (fun i => f (i + 1)) (fun i p => hf (i + 1) p)]; rfl
 exact this ps _ (fun _ _ => rfl)
theorem Zgd (L : List Nd8) : L.length <= sumT L := by
 induction L with
 | nil => simp
 | cons n L ih => have := size_pos n.t; simp [sumT] at ih ⊢; omega
def nd8P (n : Nd8) : Value := .pointer (some ⟨n.g, n.i * 9, none⟩)
def Opn8 (W : World) (v : Value) (L : List Nd8) : Prop := W.ownsRow 0 48 1 v L.length (L.map nd8P)
theorem Opn8.below {W W' : World} {v : Value} {L : List Nd8} (h : Opn8 W v L) (hb : Below W.heap.size W W') : Opn8 W' v L :=
 World.ownsRow.kept h (Z1l hb (Nat.le_refl _) none) (by
  rcases e : v.ownBlock with _ | x
  {exact Or.inl rfl}
  · exact Or.inr (by simp))
theorem Opn8.set {W : World} {v : Value} {L : List Nd8} (h : Opn8 W v L) {a : Addr} (h2 : v.ownBlock ≠ some a.block) (u : Value) : Opn8 (W.setCell a u) v L := Z9e h h2 u
theorem Opn8.pop {W : World} {cap g : Nat} {L : List Nd8} {a : Nd8} (h : Opn8 W (.slice (some ⟨g, 0, none⟩) (L.length + 1) cap) (L ++ [a])) : Opn8 W (.slice (some ⟨g, 0, none⟩) L.length cap) L := by
 obtain ⟨h1, h2⟩ := h
 refine ⟨by simp, ?_⟩
 rcases h2 with ⟨h2, _⟩ | ⟨g', cap', cur, hv, hB, hh, hn, hc, hcs, htk⟩
 {cases h2}
 {right
  obtain ⟨rfl, rfl⟩ : g = g' /\ cap = cap' := by
   injection hv with h3 h4 h5
   injection h3 with h3
   injection h3 with h3
   exact ⟨h3, h5⟩
  rw [List.length_append, List.length_singleton] at hn htk
  refine ⟨g, cap, cur, rfl, hB, hh, by omega, hc, hcs, ?_⟩
  have := congrArg (List.take (L.length * 1)) htk
  rw [List.take_take, Nat.min_eq_left (by omega)] at this
  rw [this, List.map_append, List.take_left' (by simp)]}
theorem Opn8.last {W : World} {v : Value} {L : List Nd8} {a : Nd8} (h : Opn8 W v (L ++ [a])) : ∃ g cap, v = .slice (some ⟨g, 0, none⟩) (L.length + 1) cap /\ L.length + 1 <= cap /\ W.cell? ⟨g, L.length, none⟩ = some (nd8P a) /\ g < W.heap.size := by
 have ho : W.ownsRow 0 48 1 v (L ++ [a]).length ((L ++ [a]).map nd8P) := h
 obtain ⟨h1, h2⟩ := h
 rcases h2 with ⟨h2, h3⟩ | ⟨g, cap, cur, hv, hB, hh, hn, hc, hcs, htk⟩
 {rw [List.length_append, List.length_singleton] at h3; omega}
 {rw [List.length_append, List.length_singleton] at hv hn
  rw [hv, List.length_append, List.length_singleton] at ho
  refine ⟨g, cap, hv, hn, ?_, (ho.lt g rfl).2⟩
  rw [ho.cellAt L.length (by omega)]
  simp}
theorem Opn8.empty {W : World} {v : Value} (h : Opn8 W v []) : ∃ A cp, v = .slice A 0 cp := by
 rcases h.2 with ⟨rfl, _⟩ | ⟨g, cap, cur, rfl, _⟩
 {exact ⟨none, 0, rfl⟩}
 {exact ⟨some ⟨g, 0, none⟩, cap, rfl⟩}
structure Rnd8 (w wr : World) (v vr : Value) (pb : Nat) (ps : List Tm) (qs : Nat -> TP) (L : List Nd8) (i : Nat) : Prop where
 opn : Opn8 wr vr (L ++ (Z0Z pb ps qs).take i)
 row : ∀ x, vr.ownBlock = some x -> v.ownBlock = some x \/ w.heap.size <= x
 ne : vr.ownBlock ≠ some pb
 up : UpL v w wr
 par : PaT wr pb ps qs
 pbl : pb < w.heap.size
theorem Rnd8.start {w : World} {v : Value} {pb : Nat} {ps : List Tm} {qs : Nat -> TP} {L : List Nd8} (ho : Opn8 w v L) (hne : v.ownBlock ≠ some pb) (hp : PaT w pb ps qs) : Rnd8 w w v v pb ps qs L 0 :=
 ⟨by rw [List.take_zero, List.append_nil]; exact ho, fun _ h => Or.inl h, hne, UpL.refl _ _, hp, hp.lt⟩
theorem Rnd8.step {w wr w2 : World} {v vr : Value} {pb : Nat} {ps : List Tm} {qs : Nat -> TP} {L : List Nd8} {i g1 cap : Nat} {o : Obj} (h : Rnd8 w wr v vr pb ps qs L i) (hi : i < ps.length) (hpw : pb < w.heap.size)
 (hG : (wr.alloc o).grownBy w2 vr.ownBlock)
 (hW : w2.ownsRow 0 48 1 (.slice (some ⟨g1, 0, none⟩) (L.length + i + 1) cap) (L.length + i + 1) ((L ++ (Z0Z pb ps qs).take i).map nd8P ++ [.pointer (some ⟨pb, i * 9, none⟩)]))
 (hat : vr.ownBlock = some g1 \/ g1 = (wr.alloc o).heap.size) : Rnd8 w w2 v (.slice (some ⟨g1, 0, none⟩) (L.length + i + 1) cap) pb ps qs L (i + 1) := by
 have hsz : (wr.alloc o).heap.size = wr.heap.size + 1 := by simp
 have hws := h.up.size
 have hg1 : g1 ≠ pb /\ (v.ownBlock = some g1 \/ w.heap.size <= g1) := by
  rcases hat with h1 | h1
  {exact ⟨fun e => h.ne (e ▸ h1), h.row g1 h1⟩}
  {have := h.par.lt
   rw [hsz] at h1
   exact ⟨by omega, Or.inr (by omega)⟩}
 have hblk : ∀ k, k < wr.heap.size -> vr.ownBlock ≠ some k -> w2.heap[k]? = wr.heap[k]? := fun k hk hn => (hG.block k (by rw [hsz]; omega) (fun e => hn e.symm)).trans (Below.heap_alloc _ _ _ hk)
 have h2s := hG.size
 rw [hsz] at h2s
 have hk1 : ((Z0Z pb ps qs).take (i + 1)) = (Z0Z pb ps qs).take i ++ [⟨pb, i, ps[i]'hi, qs i⟩] := by
  rw [Shp.Z0C (by rw [Z1i]; exact hi), Z29]
 have hlen : (L ++ (Z0Z pb ps qs).take (i + 1)).length = L.length + i + 1 := by rw [List.length_append, List.length_take, Z1i]; omega
 refine ⟨?_, ?_, fun e => hg1.1 (Option.some.inj e), ⟨hG.os.trans h.up.os, hG.tape.trans h.up.tape, hG.output.trans h.up.output, by omega, ?_⟩, ?_, h.pbl⟩
 {unfold Opn8
  rw [hlen, hk1, <- List.append_assoc, List.map_append]
  exact hW}
 {intro x hx
  obtain rfl : g1 = x := Option.some.inj hx
  exact hg1.2}
 {intro k hk h2
  rw [hblk k (by omega) (fun e => by
   rcases h.row k e with h3 | h3
   {exact h2 h3}
   · omega)]
  exact h.up.block k hk h2}
 {exact h.par.of ⟨fun k => World.cell?_of_block (w := wr) (hblk pb h.par.lt h.ne), fun k => World.frozen?_of_block (w := wr) (hblk pb h.par.lt h.ne)⟩ (by omega)}
structure NodeOk (W : World) (Ψ : Nat -> Option (List Tm)) (N : List Nat) (q : TP) (t : Tm) : Prop where
 sm : TSmall t q
 rest : Rest W N q t
 parts : t.parts.length = 0 \/ ∃ pb, q.P = some ⟨pb, 0, none⟩ /\ Ψ pb = some t.parts
structure Cst8 (w W : World) (r r1 : Nat) (T : Tm) (v : Value) (L : List Nd8) (Ψ : Nat -> Option (List Tm)) (N : List Nat) : Prop where
 opn : Opn8 W v L
 blk : ∀ b l, Ψ b = some l -> w.heap.size <= b /\ b < W.heap.size /\ v.ownBlock ≠ some b /\ b ∉ N /\ b ≠ r1 /\ ∀ k, W.frozen? ⟨b, k, none⟩ = false
 ok : ∀ b l, Ψ b = some l -> ∀ i (h : i < l.length), (∃ n ∈ L, n.g = b /\ n.i = i) \/ ∃ q, Tm9 W b (i * 9) (l[i]'h) q /\ NodeOk W Ψ N q (l[i]'h)
 nn : ∀ b ∈ N, w.heap.size <= b /\ b < W.heap.size /\ v.ownBlock ≠ some b /\ b ≠ r1
 nd : ∀ n ∈ L, (∃ l, Ψ n.g = some l /\ l[n.i]? = some n.t) /\ Tm9 W n.g (n.i * 9) n.t n.q /\ TmAt W w.heap.size n.q n.t
 ap : L.Pairwise fun n m => n.g = m.g -> n.i ≠ m.i
 bel : Below w.heap.size w W
 res : (w.heap.size <= r1 /\ r1 < W.heap.size /\ v.ownBlock ≠ some r1) /\ (∀ c, c < 9 -> ∃ u, W.cell? ⟨r1, c, none⟩ = some u) /\ ∀ k, W.frozen? ⟨r1, k, none⟩ = false
 row : ∀ g, v.ownBlock = some g -> w.heap.size <= g
 rin : Ψ r = some [T]
theorem Cst8.step {w W W1 W2 W5 : World} {r r1 g cap : Nat} {T : Tm} {L : List Nd8} {a : Nd8} {Ψ : Nat -> Option (List Tm)} {N N1 : List Nat} {q1 : TP} {P' : Option Addr} {d' pb : Nat} {qs : Nat -> TP} {v5 : Value}
 (h : Cst8 w W r r1 T (.slice (some ⟨g, 0, none⟩) (L.length + 1) cap) (L ++ [a]) Ψ N)
 (h9 : Tm9 W1 a.g (a.i * 9) a.t q1) (hsm : TSmall a.t q1) (hrest : Rest W1 N1 q1 a.t) (hN1 : ∀ b ∈ N1, W.heap.size <= b /\ b < W1.heap.size) (hu : UpN a.g (a.i * 9) W W1)
 (hb2 : Below W1.heap.size W1 W2) (hd1 : a.t.parts.length <= d') (hP0 : P' = none -> d' = 0)
 (hp : a.t.parts.length = 0 /\ W5 = W2.setCell ⟨a.g, a.i * 9 + 7, none⟩ (.slice P' a.t.parts.length d') /\ v5 = .slice (some ⟨g, 0, none⟩) L.length cap \/
  P' = some ⟨pb, 0, none⟩ /\ 0 < a.t.parts.length /\ W1.heap.size <= pb /\ (∀ i (hi : i < a.t.parts.length), TmAt W w.heap.size (qs i) (a.t.parts[i]'hi)) /\ Rnd8 (W2.setCell ⟨a.g, a.i * 9 + 7, none⟩ (.slice P' a.t.parts.length d')) W5 (.slice (some ⟨g, 0, none⟩) L.length cap) v5 pb a.t.parts qs L a.t.parts.length) :
 ∃ Ψ5 N5, Cst8 w W5 r r1 T v5 (L ++ Z0Z pb a.t.parts qs) Ψ5 N5 := by
 obtain ⟨⟨la, hla, hlai⟩, haS, haA⟩ := h.nd a (by simp)
 obtain ⟨hlo1, hlo2, hlo4, haN, har1, haF⟩ := h.blk a.g la hla
 have hgW : g < W.heap.size := (World.ownsRow.lt h.opn g rfl).2
 have hgw : w.heap.size <= g := h.row g rfl
 have hag : a.g ≠ g := fun e => hlo4 (by rw [e]; rfl)
 obtain ⟨W3, hW3⟩ : ∃ W3, W3 = W2.setCell ⟨a.g, a.i * 9 + 7, none⟩ (.slice P' a.t.parts.length d') := ⟨_, rfl⟩
 rw [<- hW3] at hp
 have z1 : W.heap.size <= W1.heap.size := hu.size
 have z2 : W1.heap.size <= W2.heap.size := hb2.size
 have z3 : W3.heap.size = W2.heap.size := by rw [hW3, Z17]
 have z5 : W3.heap.size <= W5.heap.size := by
  rcases hp with ⟨_, rfl, _⟩ | ⟨_, _, _, _, hr⟩
  {exact Nat.le_refl _}
  {exact hr.up.size}
 have s35 : ∀ b, b < W3.heap.size -> b ≠ g -> Z0r W3 W5 b := fun b h1 h3 => by
  rcases hp with ⟨_, rfl, _⟩ | ⟨_, _, _, _, hr⟩
  {exact ⟨fun _ => rfl, fun _ => rfl⟩}
  {exact hr.up.same h1 (fun e => h3 (Option.some.inj e).symm)}
 have hcl1 : ∀ b, b < W1.heap.size -> b ≠ g -> ∀ k, ¬ (a.g = b /\ k = a.i * 9 + 7) -> W5.cell? ⟨b, k, none⟩ = W1.cell? ⟨b, k, none⟩ := fun b h1 h3 k hk => by
  have e2 : W3.cell? ⟨b, k, none⟩ = W2.cell? ⟨b, k, none⟩ := by
   rw [hW3]
   exact World.cell?_setCell_other _ _ _ _ (fun e => hk ⟨congrArg Addr.block e, (congrArg Addr.off e).symm⟩)
  rw [(s35 b (by omega) h3).1 k, e2]
  exact hb2.cell (p := ⟨b, k, none⟩) h1
 have hfz1 : ∀ b, b < W1.heap.size -> b ≠ g -> ∀ k, W5.frozen? ⟨b, k, none⟩ = W1.frozen? ⟨b, k, none⟩ := fun b h1 h3 k => by
  rw [(s35 b (by omega) h3).2 k, hW3, World.frozen?_setCell]
  exact hb2.frozen (p := ⟨b, k, none⟩) h1
 have hcl : ∀ b, b < W.heap.size -> b ≠ g -> ∀ k, ¬ (a.g = b /\ (k = a.i * 9 + 4 \/ k = a.i * 9 + 5 \/ k = a.i * 9 + 6 \/ k = a.i * 9 + 7)) -> W5.cell? ⟨b, k, none⟩ = W.cell? ⟨b, k, none⟩ := fun b h1 h3 k hk => by
  rw [hcl1 b (by omega) h3 k (fun e => hk ⟨e.1, by omega⟩)]
  by_cases e : a.g = b
  {subst e
   exact hu.cells k (fun e => hk ⟨rfl, by omega⟩) (fun e => hk ⟨rfl, by omega⟩) (fun e => hk ⟨rfl, by omega⟩)}
  {exact (hu.same h1 (Ne.symm e)).1 k}
 have hfz : ∀ b, b < W.heap.size -> b ≠ g -> ∀ k, W5.frozen? ⟨b, k, none⟩ = W.frozen? ⟨b, k, none⟩ := fun b h1 h3 k => by
  rw [hfz1 b (by omega) h3 k]
  by_cases e : a.g = b
  {subst e; exact hu.fz k}
  {exact (hu.same h1 (Ne.symm e)).2 k}
 have hbel : Below w.heap.size w W5 := by
  have b1 : Below w.heap.size w W1 := h.bel.trans (hu.toBelow hlo1 h.bel.size)
  have b2 : Below w.heap.size w W2 := b1.trans (hb2.mono b1.size)
  have b3 : Below w.heap.size w W3 := by rw [hW3]; exact b2.setCell hlo1 _
  rcases hp with ⟨_, rfl, _⟩ | ⟨_, _, _, _, hr⟩
  {exact b3}
  {exact b3.trans ⟨hr.up.os, hr.up.tape, hr.up.output, hr.up.size, fun k hk => hr.up.block k (by have := b3.size; omega) (fun e => by have : g = k := Option.some.inj e; omega)⟩}
 -- the place itself
 obtain ⟨q5, hq5⟩ : ∃ q5 : TP, q5 = ⟨q1.A, q1.c, q1.V, q1.e, q1.S, q1.s, P', d'⟩ := ⟨_, rfl⟩
 have h95 : Tm9 W5 a.g (a.i * 9) a.t q5 := by
  obtain ⟨y0, y1, y2, y3, y4, y5, y6, y7, y8⟩ := h9
  have hx : ∀ k, k ≠ a.i * 9 + 7 -> W5.cell? ⟨a.g, k, none⟩ = W1.cell? ⟨a.g, k, none⟩ := fun k hk => hcl1 a.g (by omega) hag k (fun e => hk e.2)
  have e7 : W5.cell? ⟨a.g, a.i * 9 + 7, none⟩ = some (.slice P' a.t.parts.length d') := by
   rw [(s35 a.g (by omega) hag).1, hW3]
   exact World.cell?_setCell_same _ _ _ ((hb2.cell (p := ⟨a.g, a.i * 9 + 7, none⟩) (by show a.g < W1.heap.size; omega)).trans y7)
  rw [hq5]
  exact ⟨(hx _ (by omega)).trans y0, (hx _ (by omega)).trans y1, (hx _ (by omega)).trans y2, (hx _ (by omega)).trans y3, (hx _ (by omega)).trans y4, (hx _ (by omega)).trans y5, (hx _ (by omega)).trans y6, e7, (hx _ (by omega)).trans y8⟩
 have hsm5 : TSmall a.t q5 := by
  obtain ⟨i1, i2, i3, i4, i5, i6, i7, i8, i9, i10, i11, i12, i13, i14, i15, i16, i17, i18, i19⟩ := hsm
  rw [hq5]
  exact ⟨i1, i2, i3, i4, i5, i6, i7, i8, i9, i10, i11, hd1, i13, i14, i15, hP0, i17, i18, i19⟩
 have hsN : ∀ b ∈ N, Z0r W W5 b := fun b hb => by
  obtain ⟨_, n2, n3, _⟩ := h.nn b hb
  have n4 : b ≠ g := fun e => n3 (by rw [e]; rfl)
  have n5 : a.g ≠ b := fun e => haN (by rw [e]; exact hb)
  exact ⟨fun k => hcl b n2 n4 k (fun e => n5 e.1), fun k => hfz b n2 n4 k⟩
 have hrest5 : Rest W5 (N ++ N1) q5 a.t := by
  have h1 : Rest W1 N1 q5 a.t := by rw [hq5]; exact hrest
  exact h1.of (fun b hb => by
   obtain ⟨m1, m2⟩ := hN1 b hb
   exact ⟨fun k => hcl1 b m2 (by omega) k (fun e => by omega), fun k => hfz1 b m2 (by omega) k⟩) (by omega) (fun b hb => by simp [hb])
 -- the row of what is open
 have hO3 : Opn8 W3 (.slice (some ⟨g, 0, none⟩) L.length cap) L := by
  have o1 : Opn8 W1 (.slice (some ⟨g, 0, none⟩) L.length cap) L :=
   World.ownsRow.kept (row := some a.g) h.opn.pop ⟨hu.os, hu.tape, hu.output, hu.size, fun k hk hn => hu.block k hk (fun e => hn (by rw [e]))⟩ (Or.inr (fun e => hag (Option.some.inj e).symm))
  rw [hW3]; exact (o1.below hb2).set (fun e => hag (Option.some.inj e).symm) _
 obtain ⟨hO5, hv5⟩ : Opn8 W5 v5 (L ++ Z0Z pb a.t.parts qs) /\ ∀ x, v5.ownBlock = some x -> x = g \/ W3.heap.size <= x /\ (0 < a.t.parts.length -> x ≠ pb) := by
  rcases hp with ⟨h0, rfl, rfl⟩ | ⟨_, _, h2, _, hr⟩
  {have hk : Z0Z pb a.t.parts qs = [] := List.eq_nil_of_length_eq_zero (by rw [Z1i]; exact h0)
   refine ⟨?_, fun x hx => Or.inl (Option.some.inj (show some g = some x from hx)).symm⟩
   rw [hk, List.append_nil]
   exact hO3}
  {have ho := hr.opn
   rw [List.take_of_length_le (by rw [Z1i]; exact Nat.le_refl _)] at ho
   refine ⟨ho, fun x hx => ?_⟩
   rcases hr.row x hx with h3 | h3
   {exact Or.inl (Option.some.inj h3).symm}
   {refine Or.inr ⟨h3, fun _ e => hr.ne ?_⟩
    rw [hx, e]}}
 have hpb : 0 < a.t.parts.length -> P' = some ⟨pb, 0, none⟩ /\ W1.heap.size <= pb /\ pb < W3.heap.size /\ (∀ i (hi : i < a.t.parts.length), TmAt W w.heap.size (qs i) (a.t.parts[i]'hi)) /\ PaT W5 pb a.t.parts qs := fun hpos => by
  rcases hp with ⟨h0, _⟩ | ⟨e1, _, e2, e3, hr⟩
  {omega}
  {exact ⟨e1, e2, hr.pbl, e3, hr.par⟩}
 have hown5 : ∀ b, b ≠ g -> b < W3.heap.size -> v5.ownBlock ≠ some b := fun b h1 h2 e => by
  rcases hv5 b e with h3 | ⟨h3, _⟩
  {exact h1 h3}
  {omega}
 have hap := List.pairwise_append.1 h.ap
 obtain ⟨Ψ5, hΨ⟩ : ∃ Ψ5 : Nat -> Option (List Tm), Ψ5 = fun b => if b = pb /\ 0 < a.t.parts.length then some a.t.parts else Ψ b := ⟨_, rfl⟩
 have hold : ∀ b l, Ψ b = some l -> Ψ5 b = some l := fun b l hb => by
  have hlt := (h.blk b l hb).2.1
  rw [hΨ]
  show (if b = pb /\ 0 < a.t.parts.length then some a.t.parts else Ψ b) = some l
  rw [if_neg (fun e => by have := (hpb e.2).2.1; omega)]
  exact hb
 have hcase : ∀ b l, Ψ5 b = some l -> (b = pb /\ 0 < a.t.parts.length /\ l = a.t.parts) \/ Ψ b = some l := fun b l hb => by
  rw [hΨ] at hb
  by_cases e : b = pb /\ 0 < a.t.parts.length
  {have hb' : (if b = pb /\ 0 < a.t.parts.length then some a.t.parts else Ψ b) = some l := hb
   rw [if_pos e] at hb'
   exact Or.inl ⟨e.1, e.2, (Option.some.inj hb').symm⟩}
  {have hb' : (if b = pb /\ 0 < a.t.parts.length then some a.t.parts else Ψ b) = some l := hb
   rw [if_neg e] at hb'
   exact Or.inr hb'}
 have hoka : NodeOk W5 Ψ5 (N ++ N1) q5 a.t := by
  refine ⟨hsm5, hrest5, ?_⟩
  rcases Nat.eq_zero_or_pos a.t.parts.length with h0 | h0
  {exact Or.inl h0}
  {refine Or.inr ⟨pb, by rw [hq5]; exact (hpb h0).1, ?_⟩
   rw [hΨ]
   exact if_pos ⟨rfl, h0⟩}
 have hoko : ∀ q t, NodeOk W Ψ N q t -> NodeOk W5 Ψ5 (N ++ N1) q t := fun q t hk =>
  ⟨hk.sm, hk.rest.of hsN (by omega) (fun b hb => by simp [hb]), by
   rcases hk.parts with h0 | ⟨pb', e1, e2⟩
   {exact Or.inl h0}
   · exact Or.inr ⟨pb', e1, hold _ _ e2⟩⟩
 have hat : ∀ {q : TP} {t : Tm}, TmAt W w.heap.size q t -> TmAt W5 w.heap.size q t := fun hx => hx.of (Nat.le_refl _) (fun x k hx => (hbel.cell (p := ⟨x, k, none⟩) hx).trans (h.bel.cell (p := ⟨x, k, none⟩) hx).symm)
 have hwW := h.bel.size
 have htm : ∀ b t q i, b < W.heap.size -> b ≠ g -> ¬ (b = a.g /\ i = a.i) -> Tm9 W b (i * 9) t q -> Tm9 W5 b (i * 9) t q := fun b t q i h1 h2 h3 hx => by
  have e : ∀ c, c < 9 -> W5.cell? ⟨b, i * 9 + c, none⟩ = W.cell? ⟨b, i * 9 + c, none⟩ := fun c hc => hcl b h1 h2 _ (fun ⟨e1, e2⟩ => h3 ⟨e1.symm, by omega⟩)
  exact Z7H (fun c hc => (e c hc).trans (Z7G hx hc))
 refine ⟨Ψ5, N ++ N1, hO5, ?_, ?_, ?_, ?_, ?_, hbel, ?_, ?_, hold _ _ h.rin⟩
 {intro b l hb
  rcases hcase b l hb with ⟨rfl, hpos, rfl⟩ | hb
  {obtain ⟨_, p2, p3, _, p5⟩ := hpb hpos
   have := h.res.1.2.1
   refine ⟨by omega, by omega, fun e => ?_, fun hm => ?_, by omega, p5.fz⟩
   {rcases hv5 b e with h3 | ⟨_, h3⟩
    {omega}
    {exact h3 hpos rfl}}
   {rcases List.mem_append.1 hm with hm | hm
    {have := (h.nn b hm).2.1; omega}
    {have := (hN1 b hm).2; omega}}}
  {obtain ⟨p1, p2, p3, p4, p5, p6⟩ := h.blk b l hb
   have p7 : b ≠ g := fun e => p3 (by rw [e]; rfl)
   refine ⟨p1, by omega, hown5 b p7 (by omega), fun hm => ?_, p5, fun k => (hfz b p2 p7 k).trans (p6 k)⟩
   rcases List.mem_append.1 hm with hm | hm
   {exact p4 hm}
   {have := (hN1 b hm).1; omega}}}
 {intro b l hb i hi
  rcases hcase b l hb with ⟨rfl, hpos, rfl⟩ | hb
  {refine Or.inl ⟨(Z0Z b a.t.parts qs)[i]'(by rw [Z1i]; exact hi), by simp, ?_⟩
   rw [Z29]; exact ⟨rfl, rfl⟩}
  {obtain ⟨p1, p2, p3, p4, p5, p6⟩ := h.blk b l hb
   have p7 : b ≠ g := fun e => p3 (by rw [e]; rfl)
   by_cases e : b = a.g /\ i = a.i
   {obtain ⟨rfl, rfl⟩ := e
    rw [hla] at hb
    obtain rfl := Option.some.inj hb
    have : la[a.i]'hi = a.t := by
     rw [List.getElem?_eq_getElem hi] at hlai
     exact Option.some.inj hlai
    rw [this]
    exact Or.inr ⟨q5, h95, hoka⟩}
   {rcases h.ok b l hb i hi with ⟨n, hn, e1, e2⟩ | ⟨q, e1, e2⟩
    {rcases List.mem_append.1 hn with hn | hn
     {exact Or.inl ⟨n, by simp [hn], e1, e2⟩}
     {rw [List.mem_singleton] at hn
      subst hn
      exact absurd ⟨e1.symm, e2.symm⟩ e}}
    {exact Or.inr ⟨q, htm b _ _ i p2 p7 e e1, hoko _ _ e2⟩}}}}
 {intro b hb
  rcases List.mem_append.1 hb with hb | hb
  {obtain ⟨n1, n2, n3, n4⟩ := h.nn b hb
   exact ⟨n1, by omega, hown5 b (fun e => n3 (by rw [e]; rfl)) (by omega), n4⟩}
  {obtain ⟨n1, n2⟩ := hN1 b hb
   have := h.res.1.2.1
   exact ⟨by omega, by omega, hown5 b (by omega) (by omega), by omega⟩}}
 {intro n hn
  rcases List.mem_append.1 hn with hn | hn
  {obtain ⟨⟨l, e1, e2⟩, e3, e4⟩ := h.nd n (by simp [hn])
   obtain ⟨p1, p2, p3, p4, p5, p6⟩ := h.blk n.g l e1
   have hne := hap.2.2 n hn a (by simp)
   exact ⟨⟨l, hold _ _ e1, e2⟩, htm n.g _ _ n.i p2 (fun e => p3 (by rw [e]; rfl)) (fun e => hne e.1 e.2) e3, hat e4⟩}
  {obtain ⟨i, hi, rfl⟩ := List.getElem_of_mem hn
   have hil : i < a.t.parts.length := by rwa [Z1i] at hi
   rw [Z29]
   obtain ⟨_, p2, p3, p4, p5⟩ := hpb (by omega)
   refine ⟨⟨a.t.parts, ?_, List.getElem?_eq_getElem hil⟩, p5.at_ i hil, hat (p4 i hil)⟩
   rw [hΨ]
   exact if_pos ⟨rfl, by omega⟩}}
 {refine List.pairwise_append.2 ⟨hap.1, Zda _ _ _, fun n hn m hm e => ?_⟩
  obtain ⟨⟨l, e1, _⟩, _⟩ := h.nd n (by simp [hn])
  have h1 := (h.blk n.g l e1).2.1
  have h2 := ZeX hm
  obtain ⟨i, hi, _⟩ := List.getElem_of_mem hm
  rw [Z1i] at hi
  have := (hpb (by omega)).2.1
  omega}
 {obtain ⟨⟨j0, j1, j4⟩, h2, h3⟩ := h.res
  have j3 : r1 ≠ g := fun e => j4 (by rw [e]; rfl)
  refine ⟨⟨j0, by omega, hown5 r1 j3 (by omega)⟩, fun c hc => ?_, fun k => (hfz r1 j1 j3 k).trans (h3 k)⟩
  obtain ⟨u, hu'⟩ := h2 c hc
  exact ⟨u, (hcl r1 j1 j3 c (fun ⟨e, _⟩ => har1 e)).trans hu'⟩}
 {intro x hx
  rcases hv5 x hx with h3 | ⟨h3, _⟩
  {omega}
  {omega}}
end Go.Proofs.YtnkdedejfonbmaaGreatDoor
namespace Go.Proofs.YtnkdedejfonbmaaGreatDoor
open Go.RowKit Tms
open Shp (Sh)
theorem ZeY {t : Tm} (hf : fits t = true) : t.vars.length <= t.names.length /\ t.shapes.length <= t.names.length + 1 := by
 have h : fitsK t = true := by unfold fits at hf; simp only [Bool.and_eq_true] at hf; exact hf.2
 unfold fitsK at h
 by_cases k0 : t.kind = 1
 {rw [if_pos k0] at h; simp only [Bool.and_eq_true, Z0e] at h; omega}
 rw [if_neg k0] at h
 by_cases k1 : t.kind = 2
 {rw [if_pos k1] at h; simp only [Bool.and_eq_true, Z0e] at h; omega}
 rw [if_neg k1] at h
 by_cases k2 : t.kind = 3 \/ t.kind = 4
 {rw [if_pos k2] at h; simp only [Bool.and_eq_true, Z0e] at h; omega}
 rw [if_neg k2] at h
 by_cases k3 : t.kind = 5
 {rw [if_pos k3] at h; simp only [Bool.and_eq_true, Z0e] at h; omega}
 rw [if_neg k3] at h
 by_cases k4 : t.kind = 6
 {rw [if_pos k4] at h; simp only [Bool.and_eq_true, Z0e] at h; omega}
 rw [if_neg k4] at h
 by_cases k5 : t.kind = 7
 {rw [if_pos k5] at h; simp only [Bool.and_eq_true, Z0e] at h; omega}
 rw [if_neg k5] at h
 by_cases k6 : t.kind = 8
 {rw [if_pos k6] at h; simp only [Bool.and_eq_true, Z0e] at h; omega}
 rw [if_neg k6] at h
 by_cases k7 : t.kind = 9 \/ t.kind = 10
 {rw [if_pos k7] at h; simp only [Bool.and_eq_true, Z0e] at h; omega}
 rw [if_neg k7] at h
 by_cases k8 : t.kind = 11
 {rw [if_pos k8] at h; simp only [Bool.and_eq_true, Z0e] at h; omega}
 rw [if_neg k8] at h
 by_cases k9 : t.kind = 12
 {rw [if_pos k9] at h; simp only [Bool.and_eq_true, Z0e] at h; omega}
 rw [if_neg k9] at h
 by_cases k10 : t.kind = 13
 {rw [if_pos k10] at h; simp only [Bool.and_eq_true, Z0e] at h; omega}
 rw [if_neg k10] at h
 by_cases k11 : t.kind = 14
 {rw [if_pos k11] at h; simp only [Bool.and_eq_true, Z0e] at h; omega}
 rw [if_neg k11] at h
 by_cases k12 : t.kind = 15
 {rw [if_pos k12] at h; simp only [Bool.and_eq_true, Z0e] at h; omega}
 rw [if_neg k12] at h
 by_cases k13 : t.kind = 16 \/ t.kind = 17
 {rw [if_pos k13] at h; simp only [Bool.and_eq_true, Z0e] at h; omega}
 rw [if_neg k13] at h
 cases h
theorem ZeZ : (Tryz.prog.info? 48).map (fun i => (i.zero, i.size, i.bytes)) = some (some (.pointer none), 1, 8) := by kernel_rfl
theorem Zf0 {t : Tm} (hr : right t = true) (ht : tame t = true) : t.names.length <= 1000000000 /\ t.vars.length <= 1000000000 /\ t.shapes.length <= 1000000000 := by
 have h1 := ZeY (right_fits hr)
 have h2 : t.names.length <= 1048576 := by
  unfold tame at ht
  rw [decide_eq_true_eq, Z14] at ht
  omega
 omega
structure Typed (base : Nat) (W : World) (Ψ : Nat -> Option (List Tm)) (N : List Nat) : Prop where
 blk : ∀ b l, Ψ b = some l -> base <= b /\ b < W.heap.size /\ b ∉ N /\ ∀ k, W.frozen? ⟨b, k, none⟩ = false
 ok : ∀ b l, Ψ b = some l -> ∀ i (h : i < l.length), ∃ q, Tm9 W b (i * 9) (l[i]'h) q /\ NodeOk W Ψ N q (l[i]'h)
 nn : ∀ b ∈ N, base <= b /\ b < W.heap.size
theorem NodeOk.of {W W' : World} {Ψ : Nat -> Option (List Tm)} {N : List Nat} {q : TP} {t : Tm} (h : NodeOk W Ψ N q t) (hs : ∀ b ∈ N, Z0r W W' b) (hz : W.heap.size <= W'.heap.size) : NodeOk W' Ψ N q t :=
 ⟨h.sm, h.rest.of hs hz (fun _ h => h), h.parts⟩
theorem Typed.of {base : Nat} {W W' : World} {Ψ : Nat -> Option (List Tm)} {N : List Nat} (h : Typed base W Ψ N) (h1 : ∀ b l, Ψ b = some l -> Z0r W W' b) (h2 : ∀ b ∈ N, Z0r W W' b) (hz : W.heap.size <= W'.heap.size) : Typed base W' Ψ N :=
 ⟨fun b l hb => by
  obtain ⟨a1, a2, a3, a4⟩ := h.blk b l hb
  exact ⟨a1, by omega, a3, fun k => ((h1 b l hb).2 k).trans (a4 k)⟩,
 fun b l hb i hi => by
  obtain ⟨q, a1, a2⟩ := h.ok b l hb i hi
  exact ⟨q, a1.of (h1 b l hb).1, a2.of h2 hz⟩,
 fun b hb => by
  obtain ⟨a1, a2⟩ := h.nn b hb
  exact ⟨a1, by omega⟩⟩
theorem Cst8.typed {w W : World} {r r1 : Nat} {T : Tm} {v : Value} {Ψ : Nat -> Option (List Tm)} {N : List Nat} (h : Cst8 w W r r1 T v [] Ψ N) : Typed w.heap.size W Ψ N :=
 ⟨fun b l hb => by
  obtain ⟨a1, a2, _, a4, _, a6⟩ := h.blk b l hb
  exact ⟨a1, a2, a4, a6⟩,
 fun b l hb i hi => by
  rcases h.ok b l hb i hi with ⟨n, hn, _⟩ | h
  {cases hn}
  · exact h,
 fun b hb => ⟨(h.nn b hb).1, (h.nn b hb).2.1⟩⟩
def cT (w : World) (t : Tm) (q : TP) : World :=
 ((w.alloc (.cells (Y7 t q) 26)).alloc (.cells #[.int .i64 0, .string ⟨#[]⟩, .string ⟨#[]⟩, .int .i64 0, .slice none 0 0, .slice none 0 0, .slice none 0 0, .slice none 0 0, .int .i64 0] 26)).alloc (.cells #[.func (.func 39) #[] #[], .int .i64 0] 79)
theorem Z9s (w : World) (t : Tm) (q : TP) : Below w.heap.size w (cT w t q) := Z08 (Z08 (Z02 _ _) _) _
theorem ZhG (w : World) (t : Tm) (q : TP) : CntH (cT w t q) (w.heap.size + 1 + 1) 0 (.func (.func 39) #[] #[]) := by
 unfold cT
 exact ⟨by simp, by simp [go_sem], by simp [go_sem], by simp [go_sem]⟩
theorem Z9t (w : World) (t : Tm) (q : TP) : Tm9 (cT w t q) w.heap.size 0 t q /\ ∀ k, (cT w t q).frozen? ⟨w.heap.size, k, none⟩ = false := by
 unfold cT
 refine ⟨⟨?_, ?_, ?_, ?_, ?_, ?_, ?_, ?_, ?_⟩, fun k => ?_⟩ <;> simp [go_sem]
theorem Zf1 (w : World) (t : Tm) (q : TP) : (∀ c, c < 9 -> ∃ u, (cT w t q).cell? ⟨w.heap.size + 1, c, none⟩ = some u) /\ ∀ k, (cT w t q).frozen? ⟨w.heap.size + 1, k, none⟩ = false := by
 unfold cT
 refine ⟨fun c hc => ?_, fun k => by simp [go_sem]⟩
 match c, hc with
 | 0, _ => exact ⟨_, by simp [go_sem]; rfl⟩
 | 1, _ => exact ⟨_, by simp [go_sem]; rfl⟩
 | 2, _ => exact ⟨_, by simp [go_sem]; rfl⟩
 | 3, _ => exact ⟨_, by simp [go_sem]; rfl⟩
 | 4, _ => exact ⟨_, by simp [go_sem]; rfl⟩
 | 5, _ => exact ⟨_, by simp [go_sem]; rfl⟩
 | 6, _ => exact ⟨_, by simp [go_sem]; rfl⟩
 | 7, _ => exact ⟨_, by simp [go_sem]; rfl⟩
 | 8, _ => exact ⟨_, by simp [go_sem]; rfl⟩
theorem Zi7 (w W1 : World) (t : Tm) (q : TP) (hq : TmAt w w.heap.size q t) (hu : UpH (w.heap.size + 1 + 1) (cT w t q) W1) :
 Cst8 w (W1.alloc (.cells #[.pointer (some ⟨w.heap.size, 0, none⟩)] 48)) w.heap.size (w.heap.size + 1) t (.slice (some ⟨W1.heap.size, 0, none⟩) 1 1) [⟨w.heap.size, 0, t, q⟩] (fun b => if b = w.heap.size then some [t] else none) [] := by
 have hsz : (cT w t q).heap.size = w.heap.size + 3 := by simp [cT]
 have hs1 : W1.heap.size = w.heap.size + 3 := hu.size.trans hsz
 have hb0 := Z02 W1 (.cells #[.pointer (some ⟨w.heap.size, 0, none⟩)] 48)
 have hb : Below w.heap.size w W1 := (Z9s w t q).trans (hu.toBelow (by omega))
 have hb2 : Below w.heap.size w (W1.alloc (.cells #[.pointer (some ⟨w.heap.size, 0, none⟩)] 48)) := Z00 hb hb0
 have hz2 : (W1.alloc (.cells #[.pointer (some ⟨w.heap.size, 0, none⟩)] 48)).heap.size = w.heap.size + 4 := by simp; omega
 have hcell : ∀ g k, g < w.heap.size + 2 -> (W1.alloc (.cells #[.pointer (some ⟨w.heap.size, 0, none⟩)] 48)).cell? ⟨g, k, none⟩ = (cT w t q).cell? ⟨g, k, none⟩ := fun g k hg => (hb0.cell (p := ⟨g, k, none⟩) (by show g < W1.heap.size; omega)).trans (hu.cell (by omega))
 have hfz : ∀ g k, g < w.heap.size + 2 -> (W1.alloc (.cells #[.pointer (some ⟨w.heap.size, 0, none⟩)] 48)).frozen? ⟨g, k, none⟩ = (cT w t q).frozen? ⟨g, k, none⟩ := fun g k hg => (hb0.frozen (p := ⟨g, k, none⟩) (by show g < W1.heap.size; omega)).trans (hu.frozen (by omega))
 refine ⟨?_, ?_, ?_, nofun, ?_, by simp, hb2, ⟨⟨by omega, by omega, fun e => ?_⟩, ?_, ?_⟩, ?_, if_pos rfl⟩
 {refine ⟨by simp, Or.inr ⟨W1.heap.size, 1, #[.pointer (some ⟨w.heap.size, 0, none⟩)], rfl, Nat.zero_le _, heap_alloc_new _ _, Nat.le_refl _, by decide, rfl, rfl⟩⟩}
 {intro b l hb'
  have e : b = w.heap.size := Classical.byContradiction (fun e => by
   have h : (if b = w.heap.size then some [t] else none) = some l := hb'
   rw [if_neg e] at h; cases h)
  subst e
  exact ⟨by omega, by omega, fun e => by have : W1.heap.size = w.heap.size := Option.some.inj e; omega, nofun, by omega, fun k => (hfz _ k (by omega)).trans ((Z9t w t q).2 k)⟩}
 {intro b l hb' i hi
  have e : b = w.heap.size := Classical.byContradiction (fun e => by
   have h : (if b = w.heap.size then some [t] else none) = some l := hb'
   rw [if_neg e] at h; cases h)
  subst e
  have h : (if w.heap.size = w.heap.size then some [t] else none) = some l := hb'
  rw [if_pos rfl] at h
  obtain rfl := Option.some.inj h
  refine Or.inl ⟨_, List.mem_singleton.2 rfl, rfl, ?_⟩
  have : i < 1 := hi
  show 0 = i
  omega}
 {intro n hn
  simp only [List.mem_cons, List.not_mem_nil, or_false] at hn
  subst hn
  refine ⟨⟨[t], if_pos rfl, rfl⟩, ?_, hq.keep hb2 (Nat.le_refl _)⟩
  have h5 := (Z9t w t q).1
  simp only [Nat.zero_mul]
  exact h5.of (fun k => hcell _ k (by omega))}
 {have : W1.heap.size = w.heap.size + 1 := Option.some.inj e
  omega}
 {intro c hc
  obtain ⟨u, hu'⟩ := (Zf1 w t q).1 c hc
  exact ⟨u, (hcell _ c (by omega)).trans hu'⟩}
 {exact fun k => (hfz _ k (by omega)).trans ((Zf1 w t q).2 k)}
 {intro g e
  have : W1.heap.size = g := Option.some.inj e
  omega}
theorem Z9u (t : Tm) (q : TP) (w : World) (hq : TmAt w w.heap.size q t) (hz : size t <= 4096) (hr : right t = true) (ht : tame t = true) :
 Calls Tryz.prog 40 #[.agg (Y7 t q), .func (.func 39) #[] #[], .func (.func 41) #[] #[]] w fun e w' => ∃ q' Ψ N, e = .returned (.agg (Y7 t q')) /\ Typed w.heap.size w' Ψ N /\ NodeOk w' Ψ N q' t /\ Below w.heap.size w w' := by
 have hde := deep_size t
 have hcb := Z9t w t q
 have hm := ZaK t q w.heap.size 0 w.heap.size (w.heap.size + 1 + 1) 0 1 (cT w t q) hcb.1 (by omega) (hq.keep (Z9s w t q) (Nat.le_refl _)) (by omega) (ZhG w t q) (by omega) (by omega)
 rw [show (((1 : Nat)) : Int) = (1 : Int) from rfl] at hm
 have HM := Y1 hm
 have HST := Y1 (fun W1 (hu : UpH (w.heap.size + 1 + 1) (cT w t q) W1) => Zi7 w W1 t q hq hu)
 have L1 := fun (g o : Nat) (W : World) => Z51 g o W
 clear hq hm hcb hde
 go_enter Tryz.func40, Tryz.ntmps40
 go_wp2_with fail
 change Calls _ _ _ (cT w t q) _
 refine HM.out.mono ?_
 rintro e W1 ⟨rfl, hu1, _⟩
 have HS1 := Y1 (HST.out W1 hu1)
 clear HM HST hu1
 go_wp2_with fail
 go_loopg [9] (size t) (fun k s9 wr => ∃ L Ψ N, sumT L <= k /\ sumT L <= 4096 /\ (∀ n ∈ L, right n.t = true /\ tame n.t = true) /\ Hid (Cst8 w wr w.heap.size (w.heap.size + 1) t s9 L Ψ N))
 case atStart => exact ⟨_, _, _, by simp [sumT], by simp [sumT]; omega, fun n hn => by simp only [List.mem_cons, List.not_mem_nil, or_false] at hn; subst hn; exact ⟨hr, ht⟩, HS1⟩
 case round =>
  obtain ⟨L, Ψ, N, hk, h400, hri, HC⟩ := hrel
  clear HS1
  rcases List.eq_nil_or_concat L with rfl | ⟨L', a, rfl⟩
  {obtain ⟨q', hS, hN⟩ : ∃ q', Tm9 wr w.heap.size 0 t q' /\ NodeOk wr Ψ N q' t := by
    rcases HC.out.ok _ _ HC.out.rin 0 (by simp) with ⟨n, hn, _⟩ | ⟨q', h1, h2⟩
    {cases hn}
    {exact ⟨q', by simpa using h1, by simpa using h2⟩}
   obtain ⟨A, cp, rfl⟩ := HC.out.opn.empty
   obtain ⟨p0, p1, p2, p3, p4, p5, p6, p7, p8⟩ := hS
   simp only [Nat.zero_mul, Nat.zero_add] at p0 p1 p2 p3 p4 p5 p6 p7 p8
   obtain ⟨_, rcs, rfz⟩ := HC.out.res
   obtain ⟨e0, r0⟩ := rcs 0 (by omega)
   obtain ⟨e1, r1⟩ := rcs 1 (by omega)
   obtain ⟨e2, r2⟩ := rcs 2 (by omega)
   obtain ⟨e3, r3⟩ := rcs 3 (by omega)
   obtain ⟨e4, r4⟩ := rcs 4 (by omega)
   obtain ⟨e5, r5⟩ := rcs 5 (by omega)
   obtain ⟨e6, r6⟩ := rcs 6 (by omega)
   obtain ⟨e7, r7⟩ := rcs 7 (by omega)
   obtain ⟨e8, r8⟩ := rcs 8 (by omega)
   have z0 := rfz 0
   have z1 := rfz 1
   have z2 := rfz 2
   have z3 := rfz 3
   have z4 := rfz 4
   have z5 := rfz 5
   have z6 := rfz 6
   have z7 := rfz 7
   have z8 := rfz 8
   have HN := Y1 hN
   have HTY := Y1 (HC.out.typed)
   have HNE := Y1 (fun b (hb : b ∈ N) (e : w.heap.size + 1 = b) => (HC.out.nn b hb).2.2.2 e.symm)
   have HNB := Y1 (fun b l (hb : Ψ b = some l) (e : w.heap.size + 1 = b) => (HC.out.blk b l hb).2.2.2.2.1 e.symm)
   have HBL := Y1 HC.out.bel
   clear hN hri rcs rfz
   go_wp2
   refine bodyPost_ret (v := .agg (Y7 t q')) (by simp [results, Tryz.results40, go_sem, r0, r1, r2, r3, r4, r5, r6, r7, r8]) rfl ?_
   exact ⟨q', Ψ, N, rfl, HTY.out.of (fun b l hb => by have hne := HNB.out b l hb; exact (((((((((Z0b _ ⟨w.heap.size + 1, 0, none⟩ _ hne).trans (Z0b _ ⟨w.heap.size + 1, 1, none⟩ _ hne)).trans (Z0b _ ⟨w.heap.size + 1, 2, none⟩ _ hne)).trans (Z0b _ ⟨w.heap.size + 1, 3, none⟩ _ hne)).trans (Z0b _ ⟨w.heap.size + 1, 4, none⟩ _ hne)).trans (Z0b _ ⟨w.heap.size + 1, 5, none⟩ _ hne)).trans (Z0b _ ⟨w.heap.size + 1, 6, none⟩ _ hne)).trans (Z0b _ ⟨w.heap.size + 1, 7, none⟩ _ hne)).trans (Z0b _ ⟨w.heap.size + 1, 8, none⟩ _ hne))) (fun b hb => by have hne := HNE.out b hb; exact (((((((((Z0b _ ⟨w.heap.size + 1, 0, none⟩ _ hne).trans (Z0b _ ⟨w.heap.size + 1, 1, none⟩ _ hne)).trans (Z0b _ ⟨w.heap.size + 1, 2, none⟩ _ hne)).trans (Z0b _ ⟨w.heap.size + 1, 3, none⟩ _ hne)).trans (Z0b _ ⟨w.heap.size + 1, 4, none⟩ _ hne)).trans (Z0b _ ⟨w.heap.size + 1, 5, none⟩ _ hne)).trans (Z0b _ ⟨w.heap.size + 1, 6, none⟩ _ hne)).trans (Z0b _ ⟨w.heap.size + 1, 7, none⟩ _ hne)).trans (Z0b _ ⟨w.heap.size + 1, 8, none⟩ _ hne))) (by simp [World.setCell]), HN.out.of (fun b hb => by have hne := HNE.out b hb; exact (((((((((Z0b _ ⟨w.heap.size + 1, 0, none⟩ _ hne).trans (Z0b _ ⟨w.heap.size + 1, 1, none⟩ _ hne)).trans (Z0b _ ⟨w.heap.size + 1, 2, none⟩ _ hne)).trans (Z0b _ ⟨w.heap.size + 1, 3, none⟩ _ hne)).trans (Z0b _ ⟨w.heap.size + 1, 4, none⟩ _ hne)).trans (Z0b _ ⟨w.heap.size + 1, 5, none⟩ _ hne)).trans (Z0b _ ⟨w.heap.size + 1, 6, none⟩ _ hne)).trans (Z0b _ ⟨w.heap.size + 1, 7, none⟩ _ hne)).trans (Z0b _ ⟨w.heap.size + 1, 8, none⟩ _ hne))) (by simp [World.setCell]), (((((((((HBL.out.setCell (p := ⟨w.heap.size + 1, 0, none⟩) (Nat.le_succ _) _).setCell (p := ⟨w.heap.size + 1, 1, none⟩) (Nat.le_succ _) _).setCell (p := ⟨w.heap.size + 1, 2, none⟩) (Nat.le_succ _) _).setCell (p := ⟨w.heap.size + 1, 3, none⟩) (Nat.le_succ _) _).setCell (p := ⟨w.heap.size + 1, 4, none⟩) (Nat.le_succ _) _).setCell (p := ⟨w.heap.size + 1, 5, none⟩) (Nat.le_succ _) _).setCell (p := ⟨w.heap.size + 1, 6, none⟩) (Nat.le_succ _) _).setCell (p := ⟨w.heap.size + 1, 7, none⟩) (Nat.le_succ _) _).setCell (p := ⟨w.heap.size + 1, 8, none⟩) (Nat.le_succ _) _)⟩}
  {rw [List.concat_eq_append] at hk h400 HC hri
   obtain ⟨g, cap, rfl, hcap, hcl, hgW⟩ := HC.out.opn.last
   obtain ⟨⟨la, hla, hlai⟩, hS9, hat⟩ := HC.out.nd a (by simp)
   obtain ⟨hlo1, hlo2, hlo4, haN, har1, hfr⟩ := HC.out.blk a.g la hla
   obtain ⟨W, hW⟩ : ∃ W, W = wr := ⟨wr, rfl⟩
   subst hW
   have hi1 : (0 : Int) < ((L'.length + 1 : Nat) : Int) := by omega
   have hL4 : L'.length <= 4096 := by
    have := Zgd L'
    rw [Z1j] at h400
    omega
   have hag : a.g ≠ g := fun e => hlo4 (by rw [e]; rfl)
   unfold nd8P at hcl
   have hsm := hat.small
   have ha4 : size a.t <= 4096 := by rw [Z1j] at h400; simp [sumT] at h400; omega
   obtain ⟨har, hta⟩ := hri a (by simp)
   obtain ⟨hln, hlv, hls⟩ := Zf0 har hta
   have hsz := HC.out.bel.size
   obtain ⟨rs, hS, hSr⟩ : ∃ rs : Nat -> Ptr, (a.t.shapes.length = 0 \/ ∃ g off, a.q.S = some ⟨g, off, none⟩ /\ g < W.heap.size /\ ∀ i (h : i < a.t.shapes.length), Sh5 W g (off + i * 5) (a.t.shapes[i]'h) (rs i)) /\ ∀ i (h : i < a.t.shapes.length), ShAt W w.heap.size (rs i) (a.t.shapes[i]'h) := by
    rcases hat.shapes with h0 | ⟨g', off, rs, h1, h2, h3, h4⟩
    {exact ⟨fun _ => ⟨none, 0, none, 0⟩, Or.inl h0, fun i hi => by omega⟩}
    {exact ⟨rs, Or.inr ⟨g', off, h1, by omega, h3⟩, h4⟩}
   have hsr : ∀ s ∈ a.t.shapes, Shp.size s <= 400 /\ Shp.right s = true := fun s hs => Z4c ((Z0V (right_fits har)).2.2 s hs).1
   have HOWN := Y1 (ZeT a.g (a.i * 9) w.heap.size a.t a.q rs W hlo2 hS9 hfr hsm (Z1m hat.strs hsz (fun _ _ _ => rfl)) (Z1m hat.vars hsz (fun _ _ _ => rfl)) hS hSr hlo1 hsz hln hlv hls hsr)
   have HRI := Y1 hri
   have HAT := Y1 hat
   have HSM := Y1 hsm
   have LA := fun (W : World) => L1 a.g (a.i * 9) W
   clear hri hat hsm hS9 hS hSr hsr
   go_wp2_with fail
   refine HOWN.out.mono ?_
   rintro e W1 ⟨rfl, q1, N1, hqP, hqd, h91, hsm1, hrest1, hN1, hu1⟩
   have x7 : W1.cell? ⟨a.g, a.i * 9 + 7, none⟩ = some (.slice a.q.P a.t.parts.length a.q.d) := by
    obtain ⟨_, _, _, _, _, _, _, y7, _⟩ := h91
    rw [<- hqP, <- hqd]; exact y7
   have f7 : W1.frozen? ⟨a.g, a.i * 9 + 7, none⟩ = false := (hu1.fz _).trans (hfr _)
   have hz1 : W.heap.size <= W1.heap.size := hu1.size
   have hag1 : a.g < W1.heap.size := by omega
   have H91 := Y1 h91
   have HSM1 := Y1 hsm1
   have HR1 := Y1 hrest1
   have HN1 := Y1 hN1
   have HU1 := Y1 hu1
   have hO1 : Hid (Opn8 W1 (.slice (some ⟨g, 0, none⟩) L'.length cap) L') := Y1
    (World.ownsRow.kept (row := some a.g) HC.out.opn.pop ⟨hu1.os, hu1.tape, hu1.output, hu1.size, fun k hk hn => hu1.block k hk (fun e => hn (by rw [e]))⟩ (Or.inr (fun e => hag (Option.some.inj e).symm)))
   clear h91 hsm1 hrest1 hN1 hu1 hqP hqd HOWN hcl
   by_cases hpz : a.t.parts.length = 0
   {have hrn := ZaN a.g (a.i * 9 + 7) a.q.P a.q.d W1 hag1 (by rw [x7, hpz]) f7 HSM.out.P0
    have HRN := Y1 hrn
    clear hrn x7 f7
    go_wp2_with fail
    refine (LA _).mono ?_
    rintro e w4 ⟨rfl, rfl⟩
    go_wp2_with fail
    refine HRN.out.mono ?_
    rintro e w5 ⟨rfl, P', d', W2, hb2, hP0, rfl⟩
    have HST := Y1 (HC.out.step (P' := P') (d' := d') (pb := 0) (qs := fun _ => a.q) H91.out HSM1.out HR1.out HN1.out HU1.out hb2 (by omega) hP0 (Or.inl ⟨hpz, by rw [hpz], rfl⟩))
    have hk0 : Z0Z 0 a.t.parts (fun _ => a.q) = [] := List.eq_nil_of_length_eq_zero (by rw [Z1i]; exact hpz)
    rw [hk0, List.append_nil] at HST
    clear hk0 hb2 hP0 HRN
    go_wp2
    go_roundg (sumT L')
    case measure => rw [Z1j] at hk; have := size_pos a.t; simp [sumT] at hk ⊢; omega
    case rel =>
     obtain ⟨Ψ5, N5, h5⟩ := HST.out
     exact ⟨L', Ψ5, N5, Nat.le_refl _, by rw [Z1j] at h400; omega, fun n hn => HRI.out n (by simp [hn]), Y1 h5⟩}
   {have hpos : 0 < a.t.parts.length := by omega
    rcases HAT.out.part with h0 | ⟨g', off, qs, hqP, hg', hcc, hrr⟩
    {omega}
    {have hpl : a.t.parts.length <= 1000000 := by have := length_sizes a.t.parts; rw [size_eq] at ha4; omega
     have hrn := ZaO a.g (a.i * 9 + 7) g' off a.q.d a.t.parts qs W1 hag1 (by rw [x7, hqP]) f7 (by omega) (fun i hi => (hcc i hi).of (HU1.out.same (by omega) (by omega)).1) hpl hpos
     have HRN := Y1 hrn
     have HRR := Y1 hrr
     clear hrn hcc hrr hqP x7 f7
     go_wp2_with fail
     refine (LA _).mono ?_
     rintro e w4 ⟨rfl, rfl⟩
     go_wp2_with fail
     refine HRN.out.mono ?_
     rintro e w5 ⟨rfl, pb, d', W2, hb2, hd1, hpb, hpar, rfl⟩
     have hz2 := hb2.size
     have hag2 : a.g < W2.heap.size := by omega
     have hoc : ∃ u, W2.cell? ⟨a.g, a.i * 9 + 7, none⟩ = some u := by
      obtain ⟨_, _, _, _, _, _, _, y7, _⟩ := H91.out
      exact ⟨_, (hb2.cell (p := ⟨a.g, a.i * 9 + 7, none⟩) hag1).trans y7⟩
     obtain ⟨u0, hu0⟩ := hoc
     have c7 : (W2.setCell ⟨a.g, a.i * 9 + 7, none⟩ (.slice (some ⟨pb, 0, none⟩) a.t.parts.length d')).cell? ⟨a.g, a.i * 9 + 7, none⟩ = some (.slice (some ⟨pb, 0, none⟩) a.t.parts.length d') := World.cell?_setCell_same _ _ _ hu0
     have hz5 : (W2.setCell ⟨a.g, a.i * 9 + 7, none⟩ (.slice (some ⟨pb, 0, none⟩) a.t.parts.length d')).heap.size = W2.heap.size := Z17 _ _ _
     have hO4 : Opn8 (W2.setCell ⟨a.g, a.i * 9 + 7, none⟩ (.slice (some ⟨pb, 0, none⟩) a.t.parts.length d')) (.slice (some ⟨g, 0, none⟩) L'.length cap) L' :=
      (hO1.out.below hb2).set (fun e => hag (Option.some.inj e).symm) _
     have hpbl := hpar.lt
     have hpag : pb ≠ a.g := by omega
     have hR0 := Rnd8.start hO4 (fun e => by have : g = pb := Option.some.inj e; omega) (hpar.of (Z0b W2 ⟨a.g, a.i * 9 + 7, none⟩ (.slice (some ⟨pb, 0, none⟩) a.t.parts.length d') (Ne.symm hpag)) (by omega))
     have HR0 := Y1 hR0
     have HSTEP := Y1 (fun (W5 : World) (v5 : Value) (hr : Rnd8 (W2.setCell ⟨a.g, a.i * 9 + 7, none⟩ (.slice (some ⟨pb, 0, none⟩) a.t.parts.length d')) W5 (.slice (some ⟨g, 0, none⟩) L'.length cap) v5 pb a.t.parts qs L' a.t.parts.length) => HC.out.step (P' := some ⟨pb, 0, none⟩) (d' := d') (pb := pb) (qs := qs) H91.out HSM1.out HR1.out HN1.out HU1.out hb2 hd1 nofun (Or.inr ⟨rfl, hpos, hpb, HRR.out, hr⟩))
     obtain ⟨W4, hW4⟩ : ∃ W4, W4 = W2.setCell ⟨a.g, a.i * 9 + 7, none⟩ (.slice (some ⟨pb, 0, none⟩) a.t.parts.length d') := ⟨_, rfl⟩
     rw [<- hW4] at c7 hz5 HR0 HSTEP ⊢
     have hpw : pb < W4.heap.size := by omega
     have hag4 : a.g < W4.heap.size := by omega
     clear hW4 hb2 hpb hpar hR0 hO4 hu0 hpbl HRN hag1 hag2
     go_wp2_with fail
     go_loopw [9, 47] (fun s9 ii wr => ∃ i : Nat, ii = .int .i64 i /\ i <= a.t.parts.length /\ Hid (Rnd8 W4 wr (.slice (some ⟨g, 0, none⟩) L'.length cap) s9 pb a.t.parts qs L' i)) (fun _ i _ => a.t.parts.length - (intOf i).toNat)
     case atStart => exact ⟨0, rfl, Nat.zero_le _, HR0⟩
     case round =>
      obtain ⟨i, rfl, hi, HR⟩ := hrel
      by_cases hlt : i < a.t.parts.length
      {have hi1 : (i : Int) < (a.t.parts.length : Int) := by omega
       have k4 := (HR.out.up.same hag4 (fun e => hag (Option.some.inj e).symm)).1 (a.i * 9 + 7)
       rw [c7] at k4
       obtain ⟨i0, hi2, hz0, hz1, hz2⟩ := info_parts (P := Tryz.prog) (e := 48) (z := .pointer none) (size := 1) (bytes := 8) ZeZ
       have hlen : (L' ++ (Z0Z pb a.t.parts qs).take i).length = L'.length + i := by rw [List.length_append, List.length_take, Z1i]; omega
       have hown := HR.out.opn
       unfold Opn8 at hown
       rw [hlen] at hown
       have HOW := Y1 hown
       clear hown hlen
       go_wp2_with (at_builtin; refine wpList_append_lies _ rfl _ _ 81 rfl 0 48 i0 (.pointer none) 1 8 Tryz.underlying81 hi2 hz0 hz1 hz2 rfl (by decide) _ _ _ rfl (HOW.out.alloc _) ⟨wr.heap.size, 0, none⟩ 1 1 [.pointer (some ⟨pb, i * 9, none⟩)] rfl rfl (World.news_of_block (cs := #[.pointer (some ⟨pb, i * 9, none⟩)]) (t := 48) (fr := (0, 0)) (heap_alloc_new _ _)) (by simp [Value.oneCell']) (by decide) (by unfold maxLen; omega) (by omega) (by simp) _ rfl ?_)
       intro g1 cap1 w5 hown1 hgrow hat1 hlt1
       have HN := Y1 (HR.out.step hlt hpw hgrow (by simpa [List.map_append, List.append_assoc, List.map_take] using hown1) (by simpa using hat1))
       clear hown1 hgrow hat1 k4
       go_wp2_with fail
       exact ⟨⟨i + 1, by go_num, by omega, HN⟩, by simp [intOf]; omega⟩}
      {have hie : i = a.t.parts.length := by omega
       have HN := Y1 (HSTEP.out wr _ (by have := HR.out; rwa [hie] at this))
       have hi1 : ¬ (i : Int) < (a.t.parts.length : Int) := by omega
       clear hie HR HSTEP HR0
       go_wp2
       go_roundg (sumT (L' ++ Z0Z pb a.t.parts qs))
       case measure =>
        rw [Z1j, Z7K]
        rw [Z1j] at hk
        have := size_eq a.t
        simp [sumT] at hk ⊢
        omega
       case rel =>
        obtain ⟨Ψ5, N5, h5⟩ := HN.out
        refine ⟨L' ++ Z0Z pb a.t.parts qs, Ψ5, N5, Nat.le_refl _, ?_, fun n hn => ?_, Y1 h5⟩
        {rw [Z1j, Z7K]
         rw [Z1j] at h400
         have := size_eq a.t
         simp [sumT] at h400 ⊢
         omega}
        {rcases List.mem_append.1 hn with hn | hn
         {exact HRI.out n (by simp [hn])}
         {obtain ⟨i, hi, rfl⟩ := List.getElem_of_mem hn
          rw [Z29]
          exact ⟨right_part har (List.getElem_mem _), Z1C hta (List.getElem_mem _)⟩}}}}}}
end Go.Proofs.YtnkdedejfonbmaaGreatDoor
namespace Go.Proofs.YtnkdedejfonbmaaGreatDoor
open Go.RowKit Tms
def noneT : TP := ⟨none, 0, none, 0, none, 0, none, 0⟩
def tW (w : World) (t : Tm) (q : TP) : World := (w.alloc (.cells (Y7 t q) 26)).alloc (.cells #[.int .i64 0, .string ⟨#[]⟩, .string ⟨#[]⟩, .int .i64 0, .slice none 0 0, .slice none 0 0, .slice none 0 0, .slice none 0 0, .int .i64 0] 26)
theorem Z2w (w : World) (t : Tm) (q : TP) : Below w.heap.size w (tW w t q) := Z08 (Z02 _ _) _
theorem Zf2 (w : World) (t : Tm) (q : TP) : Box9 (tW w t q) w.heap.size t q := (Z07 w t q).next (Z02 _ _)
theorem Zf3 (w : World) (t : Tm) (q : TP) : Box9 (tW w t q) (w.heap.size + 1) zeroT noneT := by
 have h := Z07 (w.alloc (.cells (Y7 t q) 26)) zeroT noneT
 have e : (w.alloc (.cells (Y7 t q) 26)).heap.size = w.heap.size + 1 := by simp
 rw [e] at h
 exact h
def put9 (W : World) (b : Nat) (a0 a1 a2 a3 a4 a5 a6 a7 a8 : Value) : World := ((((((((W.setCell ⟨b, 0, none⟩ a0).setCell ⟨b, 1, none⟩ a1).setCell ⟨b, 2, none⟩ a2).setCell ⟨b, 3, none⟩ a3).setCell ⟨b, 4, none⟩ a4).setCell ⟨b, 5, none⟩ a5).setCell ⟨b, 6, none⟩ a6).setCell ⟨b, 7, none⟩ a7).setCell ⟨b, 8, none⟩ a8
theorem Z4m (W : World) {b x : Nat} (hb : b ≠ x) (a0 a1 a2 a3 a4 a5 a6 a7 a8 : Value) : Z0r W (put9 W b a0 a1 a2 a3 a4 a5 a6 a7 a8) x := (((((((((Z0b _ ⟨b, 0, none⟩ a0 hb).trans (Z0b _ ⟨b, 1, none⟩ a1 hb)).trans (Z0b _ ⟨b, 2, none⟩ a2 hb)).trans (Z0b _ ⟨b, 3, none⟩ a3 hb)).trans (Z0b _ ⟨b, 4, none⟩ a4 hb)).trans (Z0b _ ⟨b, 5, none⟩ a5 hb)).trans (Z0b _ ⟨b, 6, none⟩ a6 hb)).trans (Z0b _ ⟨b, 7, none⟩ a7 hb)).trans (Z0b _ ⟨b, 8, none⟩ a8 hb))
theorem Z7L (W : World) (b : Nat) (a0 a1 a2 a3 a4 a5 a6 a7 a8 : Value) : (put9 W b a0 a1 a2 a3 a4 a5 a6 a7 a8).heap.size = W.heap.size := by simp [put9, World.setCell]
theorem Z6F {B : Nat} {a W : World} (h : Below B a W) {b : Nat} (hb : B <= b) (a0 a1 a2 a3 a4 a5 a6 a7 a8 : Value) : Below B a (put9 W b a0 a1 a2 a3 a4 a5 a6 a7 a8) := (((((((((h.setCell (p := ⟨b, 0, none⟩) hb _).setCell (p := ⟨b, 1, none⟩) hb _).setCell (p := ⟨b, 2, none⟩) hb _).setCell (p := ⟨b, 3, none⟩) hb _).setCell (p := ⟨b, 4, none⟩) hb _).setCell (p := ⟨b, 5, none⟩) hb _).setCell (p := ⟨b, 6, none⟩) hb _).setCell (p := ⟨b, 7, none⟩) hb _).setCell (p := ⟨b, 8, none⟩) hb _)
theorem Typed.put {base : Nat} {W : World} {Ψ : Nat -> Option (List Tm)} {N : List Nat} (h : Typed base W Ψ N) {b : Nat} (hb : b < base) (a0 a1 a2 a3 a4 a5 a6 a7 a8 : Value) : Typed base (put9 W b a0 a1 a2 a3 a4 a5 a6 a7 a8) Ψ N :=
 h.of (fun x l hx => Z4m W (by have := (h.blk x l hx).1; omega) a0 a1 a2 a3 a4 a5 a6 a7 a8) (fun x hx => Z4m W (by have := (h.nn x hx).1; omega) a0 a1 a2 a3 a4 a5 a6 a7 a8) (by rw [Z7L]; exact Nat.le_refl _)
theorem NodeOk.put {base : Nat} {W : World} {Ψ : Nat -> Option (List Tm)} {N : List Nat} {q : TP} {t : Tm} (h : NodeOk W Ψ N q t) (hT : Typed base W Ψ N) {b : Nat} (hb : b < base) (a0 a1 a2 a3 a4 a5 a6 a7 a8 : Value) : NodeOk (put9 W b a0 a1 a2 a3 a4 a5 a6 a7 a8) Ψ N q t :=
 h.of (fun x hx => Z4m W (by have := (hT.nn x hx).1; omega) a0 a1 a2 a3 a4 a5 a6 a7 a8) (by rw [Z7L]; exact Nat.le_refl _)
theorem Zdb (t : Tm) (q : TP) (w : World) (hq : TmAt w w.heap.size q t) (hz : size t <= 4096) (hr : right t = true) (ht : tame t = true) :
 Calls Tryz.prog 25 #[.agg (Y7 t q)] w fun e w' => ∃ q' Ψ N, e = .returned (.agg (Y7 t q')) /\ Typed (w.heap.size + 2) w' Ψ N /\ NodeOk w' Ψ N q' t /\ Below w.heap.size w w' := by
 have HS := Y1 (Z2w w t q)
 have HE := Y1 (Zf3 w t q)
 have HZ := Y1 (show (tW w t q).heap.size = w.heap.size + 2 from by simp [tW])
 have HCP := Y1 (Z9u t q (tW w t q) (hq.next (Z2w w t q)) hz hr ht)
 obtain ⟨_, ⟨c0, c1, c2, c3, c4, c5, c6, c7, c8⟩, _⟩ := Z07 w t q
 clear hq hr ht
 go_enter Tryz.func25, Tryz.ntmps25
 go_wp2_with fail
 clear c0 c1 c2 c3 c4 c5 c6 c7 c8
 change Calls _ _ _ (tW w t q) _
 generalize tW w t q = W at HS HE HCP HZ ⊢
 refine HCP.out.mono ?_
 rintro e w1 ⟨q', Ψ, N, rfl, hty, hno, hb1⟩
 have HTY : Hid (Typed (w.heap.size + 2) w1 Ψ N) := Y1 (by rw [<- HZ.out]; exact hty)
 have HNO := Y1 hno
 have HS1 := Y1 (Z00 HS.out hb1)
 have HE1 := Y1 (HE.out.next hb1)
 clear hty hno hb1 HCP
 obtain ⟨_, ⟨r0, r1, r2, r3, r4, r5, r6, r7, r8⟩, hf⟩ := HE1.out
 simp only [Nat.zero_add] at r0 r1 r2 r3 r4 r5 r6 r7 r8
 have f0 := hf 0
 have f1 := hf 1
 have f2 := hf 2
 have f3 := hf 3
 have f4 := hf 4
 have f5 := hf 5
 have f6 := hf 6
 have f7 := hf 7
 have f8 := hf 8
 clear hf
 go_wp2
 refine bodyPost_ret (v := .agg (Y7 t q')) (by simp [results, Tryz.results25, go_sem, r0, r1, r2, r3, r4, r5, r6, r7, r8]) rfl ?_
 exact ⟨q', Ψ, N, rfl, HTY.out.put (by omega) _ _ _ _ _ _ _ _ _, HNO.out.put HTY.out (by omega) _ _ _ _ _ _ _ _ _, Z6F HS1.out (by omega) _ _ _ _ _ _ _ _ _⟩
end Go.Proofs.YtnkdedejfonbmaaGreatDoor
