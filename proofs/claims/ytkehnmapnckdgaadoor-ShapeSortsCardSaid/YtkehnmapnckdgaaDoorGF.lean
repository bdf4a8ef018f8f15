/- ShpF1, ShpSortM, ShpF2, ShpF3, ShpF4, ShpF5, ShpF6, together. -/
import Derived.Test.YtkehnmapnckdgaaDoorShpF0
import Derived.Test.YtkehnmapnckdgaaDoorGMath
/- What a world holds of a node's fields; the methods over it. -/
namespace Go.Proofs.YtkehnmapnckdgaaDoor
open Go.RowKit Shp Go.Sort
set_option linter.unusedVariables false

/-- A field: its name, its part, where its part's lists lie, and the blocks that are its own. -/
structure El where
  n : List UInt8
  t : Sh
  q : Ptr
  F : List Nat
instance : Inhabited El := ⟨⟨[], ⟨0, [], [], [], []⟩, ⟨none, 0, none, 0⟩, []⟩⟩
def ltEl (a b : El) : Bool := decide (a.n < b.n)
theorem swo_El : SWO ltEl := ⟨fun x => swo_ltStr.irrefl x.n, fun x y z => swo_ltStr.trans x.n y.n z.n, fun x y z => swo_ltStr.ntrans x.n y.n z.n⟩

/-- Nothing but two blocks and new memory. -/
structure Up2 (bn bp : Nat) (w w' : World) : Prop where
  os : w'.os = w.os
  tape : w'.tape = w.tape
  output : w'.output = w.output
  size : w.heap.size ≤ w'.heap.size
  block : ∀ k, k < w.heap.size → k ≠ bn → k ≠ bp → w'.heap[k]? = w.heap[k]?
theorem Up2.refl (bn bp : Nat) (w : World) : Up2 bn bp w w := ⟨rfl, rfl, rfl, Nat.le_refl _, fun _ _ _ _ => rfl⟩
theorem Up2.below {bn bp : Nat} {a b c : World} (h : Up2 bn bp a b) (k : Below a.heap.size b c) : Up2 bn bp a c :=
  ⟨k.os.trans h.os, k.tape.trans h.tape, k.output.trans h.output, Nat.le_trans h.size k.size, fun x h1 h2 h3 => (k.block x h1).trans (h.block x h1 h2 h3)⟩
theorem Up2.set {bn bp : Nat} {a b : World} (h : Up2 bn bp a b) {p : Addr} (hp : p.block = bn ∨ p.block = bp) (v : Value) : Up2 bn bp a (b.setCell p v) :=
  ⟨h.os, h.tape, h.output, by simpa [World.setCell] using h.size, fun x h1 h2 h3 => (Below.heap_setCell _ _ _ _ (fun e => by rcases hp with e2 | e2 <;> omega)).trans (h.block x h1 h2 h3)⟩
theorem Up2.drew {bn bp : Nat} {a b : World} (h : Up2 bn bp a b) : Up2 bn bp a b.drew := ⟨h.os, h.tape, h.output, h.size, h.block⟩
theorem Up2.set5 {bn bp : Nat} {a b : World} (h : Up2 bn bp a b) (o : Nat) (a0 a1 a2 a3 a4 : Value) : Up2 bn bp a (set5 b bp o a0 a1 a2 a3 a4) :=
  ((((h.set (Or.inr rfl) _).set (Or.inr rfl) _).set (Or.inr rfl) _).set (Or.inr rfl) _).set (Or.inr rfl) _

theorem set5_far (W : World) (b o : Nat) (a0 a1 a2 a3 a4 : Value) (x : Addr) (h : b ≠ x.block) : (set5 W b o a0 a1 a2 a3 a4).cell? x = W.cell? x := by
  unfold set5
  rw [World.cell?_setCell_far _ _ _ _ h, World.cell?_setCell_far _ _ _ _ h, World.cell?_setCell_far _ _ _ _ h, World.cell?_setCell_far _ _ _ _ h, World.cell?_setCell_far _ _ _ _ h]
theorem ne_off {b x y : Nat} (h : x ≠ y) : (⟨b, x, none⟩ : Addr) ≠ ⟨b, y, none⟩ := fun e => h (by injection e)
theorem so {W : World} {b x y : Nat} {v : Value} (h : x ≠ y) : (W.setCell ⟨b, x, none⟩ v).cell? ⟨b, y, none⟩ = W.cell? ⟨b, y, none⟩ := World.cell?_setCell_other _ _ _ _ (ne_off h)
theorem ss {W : World} {b x : Nat} {v u : Value} (h : W.cell? ⟨b, x, none⟩ = some u) : (W.setCell ⟨b, x, none⟩ v).cell? ⟨b, x, none⟩ = some v := World.cell?_setCell_same _ _ _ h
theorem set5_off (W : World) (b o : Nat) (a0 a1 a2 a3 a4 : Value) (x : Nat) (h : x < o ∨ o + 4 < x) : (set5 W b o a0 a1 a2 a3 a4).cell? ⟨b, x, none⟩ = W.cell? ⟨b, x, none⟩ := by
  unfold set5
  rw [so, so, so, so, so] <;> omega
theorem set5_at (W : World) (b o : Nat) (t : Sh) (q : Ptr) (t' : Sh) (q' : Ptr) (h : Sh5 W b o t' q') :
    Sh5 (set5 W b o (.int .i64 t.kind) (.string ⟨t.of_.toArray⟩) (.string ⟨t.name.toArray⟩) (.slice q.A t.names.length q.c) (.slice q.P t.parts.length q.d)) b o t q := by
  obtain ⟨h0, h1, h2, h3, h4⟩ := h
  unfold set5
  refine ⟨?_, ?_, ?_, ?_, ?_⟩
  · rw [so, so, so, so]
    · exact ss h0
    all_goals omega
  · rw [so, so, so]
    · exact ss ((so (by omega)).trans h1)
    all_goals omega
  · rw [so, so]
    · exact ss ((so (by omega)).trans ((so (by omega)).trans h2))
    all_goals omega
  · rw [so]
    · exact ss ((so (by omega)).trans ((so (by omega)).trans ((so (by omega)).trans h3)))
    all_goals omega
  · exact ss ((so (by omega)).trans ((so (by omega)).trans ((so (by omega)).trans ((so (by omega)).trans h4))))
theorem set5_other (W : World) (b i k : Nat) (a0 a1 a2 a3 a4 : Value) (t : Sh) (q : Ptr) (hne : k ≠ i) (h : Sh5 W b (k * 5) t q) : Sh5 (set5 W b (i * 5) a0 a1 a2 a3 a4) b (k * 5) t q := by
  obtain ⟨h0, h1, h2, h3, h4⟩ := h
  refine ⟨?_, ?_, ?_, ?_, ?_⟩ <;> rw [set5_off _ _ _ _ _ _ _ _ _ (by omega)] <;> assumption

/-- What a world holds of a node's fields. -/
structure FSt (w0 : World) (bn bp N : Nat) (d : Array El) (w : World) : Prop where
  size : d.size = N
  tx : ∀ i, i < N → w.cell? ⟨bn, i, none⟩ = some (.string ⟨(d[i]!).n.toArray⟩)
  pa : ∀ i, i < N → Sh5 w bp (i * 5) (d[i]!).t (d[i]!).q
  fn : ∀ k, w.frozen? ⟨bn, k, none⟩ = false
  fp : ∀ k, w.frozen? ⟨bp, k, none⟩ = false
  ln : bn < w0.heap.size
  lp : bp < w0.heap.size
  ne : bn ≠ bp
  up : Up2 bn bp w0 w
theorem FSt.keep {w0 : World} {bn bp N : Nat} {d : Array El} {w w' : World} (h : FSt w0 bn bp N d w) (hb : Below w0.heap.size w w') : FSt w0 bn bp N d w' :=
  ⟨h.size, fun i hi => (hb.cell (p := ⟨bn, i, none⟩) h.ln).trans (h.tx i hi), fun i hi => (h.pa i hi).of (fun k => hb.cell (p := ⟨bp, k, none⟩) h.lp), fun k => (hb.frozen (p := ⟨bn, k, none⟩) h.ln).trans (h.fn k),
    fun k => (hb.frozen (p := ⟨bp, k, none⟩) h.lp).trans (h.fp k), h.ln, h.lp, h.ne, h.up.below hb⟩

theorem sh5_other {W : World} {b o c : Nat} {t : Sh} {q : Ptr} {v : Value} {x : Nat} (hne : b ≠ c) (h : Sh5 W c o t q) : Sh5 (W.setCell ⟨b, x, none⟩ v) c o t q :=
  h.of fun k => World.cell?_setCell_far _ _ _ _ hne

/-- The fields' methods are what sort.Sort asks of them. -/
theorem fields_srt (w0 : World) (bn bp N : Nat) (K : Int) (o m : List UInt8) (c l dd : Nat) (hN : N < 400000) (hl : N ≤ l) (hl2 : l < 1000000) :
    Srt N w0.heap.size (.agg #[.int .i64 K, .string ⟨o.toArray⟩, .string ⟨m.toArray⟩, .slice (some ⟨bn, 0, none⟩) N c, .slice (some ⟨bp, 0, none⟩) l dd]) ltEl (FSt w0 bn bp N) where
  less d w i j h hi0 hi hj0 hj := by
    obtain ⟨a, rfl⟩ := Int.eq_ofNat_of_zero_le hi0
    obtain ⟨b, rfl⟩ := Int.eq_ofNat_of_zero_le hj0
    have ha : a < N := by omega
    have hb : b < N := by omega
    refine (fless_walk K ⟨o.toArray⟩ ⟨m.toArray⟩ bn N c dd (some ⟨bp, 0, none⟩) l _ _ a b w ha hb (by omega) (Nat.lt_of_lt_of_le h.ln h.up.size) (h.tx a ha) (h.tx b hb)).mono ?_
    rintro e w' ⟨rfl, hw⟩
    exact ⟨rfl, h.keep (hw.mono h.up.size), hw.size, fun x _ hx => hw.block x hx⟩
  swap d w i j h hi0 hi hj0 hj := by
    obtain ⟨a, rfl⟩ := Int.eq_ofNat_of_zero_le hi0
    obtain ⟨b, rfl⟩ := Int.eq_ofNat_of_zero_le hj0
    have ha : a < N := by omega
    have hb : b < N := by omega
    have hs := h.size
    obtain ⟨p0, p1, p2, p3, p4⟩ := h.pa a ha
    obtain ⟨r0, r1, r2, r3, r4⟩ := h.pa b hb
    have hnw := Nat.lt_of_lt_of_le h.ln h.up.size
    have hpw := Nat.lt_of_lt_of_le h.lp h.up.size
    refine (fswap_walk K ⟨o.toArray⟩ ⟨m.toArray⟩ bn N c bp l dd _ _ a b _ _ _ _ _ _ _ _ _ _ _ _ _ _ _ _ _ _ w ha hb hl hl2 hnw hpw h.ne (h.tx a ha) (h.tx b hb) h.fn h.fp p0 r0 p1 r1 p2 r2 p3 r3 p4 r4).mono ?_
    rintro e w' ⟨rfl, W0, hW0, rfl⟩
    have h0 := h.keep (hW0.mono h.up.size)
    have hne := h.ne
    have ea : ((a : Nat) : Int).toNat = a := by omega
    have eb : ((b : Nat) : Int).toNat = b := by omega
    rw [ea, eb]
    have hget := fun k => swp_get d (i := a) (j := b) (by omega) (by omega) k
    refine ⟨rfl, ⟨by rw [size_swp]; exact hs, fun k hk => ?_, fun k hk => ?_, fun k => ?_, fun k => ?_, h.ln, h.lp, hne, ?_⟩, ?_, ?_⟩
    · rw [World.cell?_drew, set5_far _ _ _ _ _ _ _ _ _ hne.symm, set5_far _ _ _ _ _ _ _ _ _ hne.symm, World.cell?_drew]
      by_cases hkb : k = b
      · subst hkb
        rw [swp_right d a k (by omega)]
        obtain ⟨v, hv⟩ := cell?_setCell_some (w := W0) (p := ⟨bn, a, none⟩) (x := .string ⟨(d[k]!).n.toArray⟩) (q := ⟨bn, k, none⟩) (h0.tx k hk)
        exact ss hv
      · rw [so (Ne.symm hkb)]
        by_cases hka : k = a
        · subst hka
          rw [swp_left d k b (by omega) hkb]
          exact ss (h0.tx k hk)
        · rw [so (Ne.symm hka), swp_other d a b k hka hkb]
          exact h0.tx k hk
    · have hz : ∀ k, k < N → Sh5 ((((W0.setCell ⟨bn, a, none⟩ (.string ⟨(d[b]!).n.toArray⟩)).setCell ⟨bn, b, none⟩ (.string ⟨(d[a]!).n.toArray⟩)).drew)) bp (k * 5) (d[k]!).t (d[k]!).q := fun k hk =>
        (sh5_other hne (sh5_other hne (h0.pa k hk))).of fun _ => World.cell?_drew _ _
      refine Sh5.of (w := set5 _ _ _ _ _ _ _ _) ?_ (fun _ => World.cell?_drew _ _)
      by_cases hkb : k = b
      · subst hkb
        rw [swp_right d a k (by omega)]
        by_cases hka : k = a
        · subst hka
          exact set5_at _ _ _ _ _ _ _ (set5_at _ _ _ _ _ _ _ (hz k hk))
        · exact set5_at _ _ _ _ _ _ _ (set5_other _ _ _ _ _ _ _ _ _ _ _ hka (hz k hk))
      · refine set5_other _ _ _ _ _ _ _ _ _ _ _ hkb ?_
        by_cases hka : k = a
        · subst hka
          rw [swp_left d k b (by omega) hkb]
          exact set5_at _ _ _ _ _ _ _ (hz k hk)
        · rw [swp_other d a b k hka hkb]
          exact set5_other _ _ _ _ _ _ _ _ _ _ _ hka (hz k hk)
    · have := h0.fn k
      simpa [set5, World.frozen?_drew] using this
    · have := h0.fp k
      simpa [set5, World.frozen?_drew] using this
    · exact (((((h0.up.set (Or.inl rfl) _).set (Or.inl rfl) _).drew).set5 _ _ _ _ _ _).set5 _ _ _ _ _ _).drew
    · have := hW0.size
      simpa [set5, World.setCell] using this
    · intro x hx1 hx2
      have hn : x ≠ bn := by have := h.ln; omega
      have hp : x ≠ bp := by have := h.lp; omega
      have hU := ((((((Up2.refl bn bp W0).set (Or.inl rfl) (.string ⟨(d[b]!).n.toArray⟩) (p := ⟨bn, a, none⟩)).set (Or.inl rfl) (.string ⟨(d[a]!).n.toArray⟩) (p := ⟨bn, b, none⟩)).drew).set5 (a * 5) (.int .i64 (d[b]!).t.kind) (.string ⟨(d[b]!).t.of_.toArray⟩) (.string ⟨(d[b]!).t.name.toArray⟩) (.slice (d[b]!).q.A (d[b]!).t.names.length (d[b]!).q.c) (.slice (d[b]!).q.P (d[b]!).t.parts.length (d[b]!).q.d)).set5 (b * 5) (.int .i64 (d[a]!).t.kind) (.string ⟨(d[a]!).t.of_.toArray⟩) (.string ⟨(d[a]!).t.name.toArray⟩) (.slice (d[a]!).q.A (d[a]!).t.names.length (d[a]!).q.c) (.slice (d[a]!).q.P (d[a]!).t.parts.length (d[a]!).q.d)).drew
      exact (hU.block x (Nat.lt_of_lt_of_le hx2 hW0.size) hn hp).trans (hW0.block x hx2)
  size d w h := h.size
  big := by omega
  base d w h := h.up.size
  keep d w w' h hb := h.keep hb
  mL w := by kernel_rfl
  mS w := by kernel_rfl
end Go.Proofs.YtkehnmapnckdgaaDoor

/- The order of fields: there is one. -/
namespace Go.Proofs.YtkehnmapnckdgaaDoor
open Shp
set_option linter.unusedVariables false

theorem ins_perm (x : Fld) : ∀ l : List Fld, (ins x l).Perm (x :: l)
  | [] => List.Perm.refl _
  | y :: l => by
    unfold ins
    split
    · exact ((ins_perm x l).cons y).trans (List.Perm.swap x y l)
    · exact List.Perm.refl _
theorem insFold_perm : ∀ (l a : List Fld), (l.foldl (fun a x => ins x a) a).Perm (l ++ a)
  | [], a => List.Perm.refl _
  | x :: l, a => by
    rw [List.foldl_cons]
    refine (insFold_perm l _).trans ?_
    refine (List.Perm.append_left l (ins_perm x a)).trans ?_
    exact List.perm_middle
theorem sortF_perm (l : List Fld) : (sortF l).Perm l := by
  have := insFold_perm l []
  rwa [List.append_nil] at this

theorem ins_sorted (x : Fld) : ∀ l : List Fld, l.Pairwise (fun a b => a.1 ≤ b.1) → (ins x l).Pairwise (fun a b => a.1 ≤ b.1)
  | [], _ => by simp [ins]
  | y :: l, h => by
    rw [List.pairwise_cons] at h
    unfold ins
    split
    · rename_i hlt
      rw [List.pairwise_cons]
      refine ⟨fun b hb => ?_, ins_sorted x l h.2⟩
      rcases List.mem_cons.1 ((ins_perm x l).mem_iff.1 hb) with rfl | hb
      · exact List.le_of_lt hlt
      · exact h.1 b hb
    · rename_i hlt
      have hxy : x.1 ≤ y.1 := List.not_lt.1 hlt
      rw [List.pairwise_cons, List.pairwise_cons]
      refine ⟨fun b hb => ?_, h⟩
      rcases List.mem_cons.1 hb with rfl | hb
      · exact hxy
      · exact List.le_trans hxy (h.1 b hb)
theorem insFold_sorted : ∀ (l a : List Fld), a.Pairwise (fun a b => a.1 ≤ b.1) → (l.foldl (fun a x => ins x a) a).Pairwise (fun a b => a.1 ≤ b.1)
  | [], a, h => h
  | x :: l, a, h => insFold_sorted l _ (ins_sorted x a h)
theorem sortF_sorted (l : List Fld) : (sortF l).Pairwise (fun a b => a.1 ≤ b.1) := insFold_sorted l [] List.Pairwise.nil

theorem nodup_fst {l : List Fld} (h : (l.map Prod.fst).Nodup) {a b : Fld} (ha : a ∈ l) (hb : b ∈ l) (he : a.1 = b.1) : a = b := by
  induction l with
  | nil => cases ha
  | cons x l ih =>
    rw [List.map_cons, List.nodup_cons] at h
    rcases List.mem_cons.1 ha with e1 | h1
    · rcases List.mem_cons.1 hb with e2 | h2
      · rw [e1, e2]
      · exact absurd (by rw [← e1, he]; exact List.mem_map_of_mem h2) h.1
    · rcases List.mem_cons.1 hb with e2 | h2
      · exact absurd (by rw [← e2, ← he]; exact List.mem_map_of_mem h1) h.1
      · exact ih h.2 h1 h2

/-- Fields with names of their own have one order. -/
theorem sortF_unique {l m : List Fld} (hp : m.Perm l) (hs : m.Pairwise (fun a b => a.1 ≤ b.1)) (hn : (l.map Prod.fst).Nodup) : m = sortF l := by
  refine List.Perm.eq_of_pairwise (le := fun a b : Fld => a.1 ≤ b.1) (fun a b ha hb h1 h2 => ?_) hs (sortF_sorted l) (hp.trans (sortF_perm l).symm)
  exact nodup_fst hn (hp.mem_iff.1 ha) ((sortF_perm l).mem_iff.1 hb) (List.le_antisymm h1 h2)
end Go.Proofs.YtkehnmapnckdgaaDoor

/- sort.Sort at a node. -/
namespace Go.Proofs.YtkehnmapnckdgaaDoor
open Go.RowKit Shp Go.Sort
set_option linter.unusedVariables false

theorem snode0_walk (t : Sh) (q : Ptr) (w : World) (h0 : t.names.length = 0) :
    Calls Tryd.prog 47 #[.iface 53 (.agg #[.int .i64 t.kind, .string ⟨t.of_.toArray⟩, .string ⟨t.name.toArray⟩, .slice q.A t.names.length q.c, .slice q.P t.parts.length q.d])] w fun e w' => e = .returned (.tuple #[]) ∧ Below w.heap.size w w' := by
  have H : Srt t.names.length w.heap.size (.agg #[.int .i64 t.kind, .string ⟨t.of_.toArray⟩, .string ⟨t.name.toArray⟩, .slice q.A t.names.length q.c, .slice q.P t.parts.length q.d]) ltEl (fun d w1 => d.size = t.names.length ∧ Below w.heap.size w w1) := {
    less := fun d w1 i j h hi0 hi => absurd hi (by omega)
    swap := fun d w1 i j h hi0 hi => absurd hi (by omega)
    size := fun d w1 h => h.1
    big := by omega
    base := fun d w1 h => h.2.size
    keep := fun d w1 w2 h hb => ⟨h.1, h.2.trans hb⟩
    mL := fmL t q
    mS := fmS t q }
  exact (ssort_walk H swo_El (fmN t q) (fun d w1 h => (flen_walk t q w1).mono fun e w2 ⟨he, hb⟩ => ⟨he, h.1, below_next h.2 hb⟩) #[] w ⟨by rw [h0]; rfl, Below.refl _ _⟩).mono fun e w' ⟨he, d', _, _, h⟩ => ⟨he, h.2⟩

/-- A node's fields. -/
def els (t : Sh) (qs : Nat → Ptr) (Fs : Nat → List Nat) : Array El := ((List.range t.names.length).map fun i => (⟨t.names.getD i [], t.parts.getD i ⟨0, [], [], [], []⟩, qs i, Fs i⟩ : El)).toArray
theorem els_size (t : Sh) (qs : Nat → Ptr) (Fs : Nat → List Nat) : (els t qs Fs).size = t.names.length := by simp [els]
theorem els_at (t : Sh) (qs : Nat → Ptr) (Fs : Nat → List Nat) (i : Nat) (h : i < t.names.length) (h2 : i < t.parts.length) : (els t qs Fs)[i]! = ⟨t.names[i], t.parts[i], qs i, Fs i⟩ := by
  rw [getElem!_pos (els t qs Fs) i (by rw [els_size]; exact h)]
  simp [els, h, h2]

theorem snode_walk (t : Sh) (q : Ptr) (qs : Nat → Ptr) (Fs : Nat → List Nat) (bn bp : Nat) (w : World) (hA : q.A = some ⟨bn, 0, none⟩) (hP : q.P = some ⟨bp, 0, none⟩) (hl : t.names.length = t.parts.length) (hN : t.names.length < 400000)
    (ht : TxR w bn t.names) (hp : PaR w bp t.parts qs) (hne : bn ≠ bp) :
    Calls Tryd.prog 47 #[.iface 53 (.agg #[.int .i64 t.kind, .string ⟨t.of_.toArray⟩, .string ⟨t.name.toArray⟩, .slice q.A t.names.length q.c, .slice q.P t.parts.length q.d])] w fun e w' => e = .returned (.tuple #[]) ∧
      ∃ d', PermIn 0 t.names.length (els t qs Fs) d' ∧ SortedIn ltEl 0 t.names.length d' ∧ FSt w bn bp t.names.length d' w' := by
  have hlen := flen_walk t q
  have mN := fmN t q
  rw [hA, hP] at hlen mN ⊢
  have H := fields_srt w bn bp t.names.length t.kind t.of_ t.name q.c t.parts.length q.d hN (by omega) (by omega)
  refine ssort_walk H swo_El mN (fun d w1 h => (hlen w1).mono fun e w2 ⟨he, hb⟩ => ⟨he, h.keep (hb.mono h.up.size)⟩) (els t qs Fs) w ?_
  exact ⟨els_size t qs Fs, fun i hi => by rw [els_at t qs Fs i hi (by omega)]; exact ht.at_ i hi, fun i hi => by rw [els_at t qs Fs i hi (by omega)]; exact hp.at_ i (by omega), ht.fz, hp.fz, ht.lt, hp.lt, hne, Up2.refl _ _ _⟩

/-- What holds of the fields of a permutation. -/
theorem perm_lists {N : Nat} {d d' : Array El} (h : PermIn 0 N d d') (hN : d.size = N) : d'.toList.Perm d.toList := by
  obtain ⟨h1, _, h3⟩ := h
  have e : d.extract 0 N = d := by rw [← hN]; exact Array.extract_size
  have e' : d'.extract 0 N = d' := by rw [← hN, ← h1]; exact Array.extract_size
  rwa [e, e'] at h3

theorem sorted_pairs {N : Nat} {d : Array El} (h : SortedIn ltEl 0 N d) (hN : d.size = N) : (d.toList.map fun x => (x.n, x.t)).Pairwise (fun a b : Fld => a.1 ≤ b.1) := by
  rw [List.pairwise_map, List.pairwise_iff_getElem]
  intro i j hi hj hij
  have := h i j (Nat.zero_le _) hij (by simpa [hN] using hj)
  simp only [ltEl, decide_eq_false_iff_not, List.not_lt] at this
  rw [getElem!_pos d i (by simpa using hi), getElem!_pos d j (by simpa using hj)] at this
  simpa using this
end Go.Proofs.YtkehnmapnckdgaaDoor

/- A node whose fields were put in order, again in memory of its own. -/
namespace Go.Proofs.YtkehnmapnckdgaaDoor
open Go.RowKit Shp Go.Sort
set_option linter.unusedVariables false

theorem small_perm {t t' : Sh} {q : Ptr} (h : Small t q) (ho : t'.of_ = t.of_) (hn : t'.name = t.name) (hns : t'.names.Perm t.names) (hp : t'.parts.length = t.parts.length) : Small t' q := by
  have hl := hns.length_eq
  obtain ⟨h1, h2, h3, h4, h5, h6, h7, h8, h9⟩ := h
  exact ⟨by rw [ho]; exact h1, by rw [hn]; exact h2, fun x hx => h3 x (hns.mem_iff.1 hx), by rw [hl]; exact h4, by rw [hp]; exact h5, by rw [hl]; exact h6, by rw [hp]; exact h7, h8, h9⟩

theorem own_node {w0 W : World} {t : Sh} {q : Ptr} {bn bp N : Nat} {qs : Nat → Ptr} {Fs : Nat → List Nat} {d : Array El} (hA : q.A = some ⟨bn, 0, none⟩) (hP : q.P = some ⟨bp, 0, none⟩) (hs : Small t q)
    (hN : t.names.length = N) (hN2 : t.parts.length = N) (hf : FSt w0 bn bp N d W) (hp : d.toList.Perm (els t qs Fs).toList) (hr : ∀ i (h : i < t.parts.length), Own W (qs i) (t.parts[i]'h) (Fs i)) :
    Own W q ⟨t.kind, t.of_, t.name, d.toList.map El.n, d.toList.map El.t⟩ ([bn] ++ [bp] ++ d.toList.flatMap El.F) ∧ ([bn] ++ [bp] ++ d.toList.flatMap El.F).Perm ([bn] ++ [bp] ++ (List.range t.parts.length).flatMap Fs) := by
  have hsz := hf.size
  have hall : ∀ x ∈ d.toList, Own W x.q x.t x.F := fun x hx => by
    have hx2 := hp.mem_iff.1 hx
    obtain ⟨i, hi, rfl⟩ := List.getElem_of_mem hx2
    have hi2 : i < t.names.length := by simpa [els] using hi
    have := els_at t qs Fs i hi2 (by omega)
    rw [getElem!_pos (els t qs Fs) i (by rw [els_size]; exact hi2)] at this
    rw [Array.getElem_toList, this]
    exact hr i (by omega)
  have hen : ((els t qs Fs).toList.map El.n) = t.names := by
    apply List.ext_getElem
    · simp [els]
    · intro i h1 h2
      simp [els, h2]
  have heF : (els t qs Fs).toList.flatMap El.F = (List.range t.parts.length).flatMap Fs := by
    rw [hN2, ← hN]
    simp [els, List.flatMap_map]
  have hget : ∀ i (h : i < d.toList.length), d[i]! = d.toList[i]'h := fun i h => by
    rw [getElem!_pos d i (by simpa using h)]
    simp
  refine ⟨.mk q _ _ [bn] [bp] (fun i => (d[i]!).q) (fun i => (d[i]!).F) (small_perm hs rfl rfl ((hp.map El.n).trans (by rw [hen])) (by simp; omega)) ?_ ?_ ?_ ?_, ?_⟩
  · refine Or.inr ⟨bn, hA, rfl, Nat.lt_of_lt_of_le hf.ln hf.up.size, fun i hi => ?_, hf.fn⟩
    have hi2 : i < d.toList.length := by simpa using hi
    rw [hf.tx i (by simpa [hsz] using hi2), hget i hi2]
    simp
  · refine Or.inr ⟨bp, hP, rfl, Nat.lt_of_lt_of_le hf.lp hf.up.size, fun i hi => ?_, hf.fp⟩
    have hi2 : i < d.toList.length := by simpa using hi
    have := hf.pa i (by simpa [hsz] using hi2)
    rw [hget i hi2] at this
    simpa [hget i hi2] using this
  · intro i hi
    have hi2 : i < d.toList.length := by simpa using hi
    have := hall _ (List.getElem_mem hi2)
    simpa [hget i hi2] using this
  · congr 1
    show d.toList.flatMap El.F = (List.range (d.toList.map El.t).length).flatMap (fun i => (d[i]!).F)
    rw [List.length_map]
    have : d.toList = (List.range d.toList.length).map (fun i => d[i]!) := by
      apply List.ext_getElem
      · simp
      · intro i h1 h2
        simp [hget i h1]
    conv => lhs; rw [this]
    rw [List.flatMap_map]
  · rw [← heF]
    exact List.Perm.append_left _ (List.Perm.flatMap_right El.F hp)
end Go.Proofs.YtkehnmapnckdgaaDoor

/- A type put in order, in memory of its own: sortWithin. What its walk wants. -/
namespace Go.Proofs.YtkehnmapnckdgaaDoor
open Go.RowKit Shp
set_option linter.unusedVariables false

/-- Nothing but a list of blocks, and new memory. -/
structure UpF (F : List Nat) (w w' : World) : Prop where
  os : w'.os = w.os
  tape : w'.tape = w.tape
  output : w'.output = w.output
  size : w.heap.size ≤ w'.heap.size
  block : ∀ k, k < w.heap.size → k ∉ F → w'.heap[k]? = w.heap[k]?
theorem UpF.refl (F : List Nat) (w : World) : UpF F w w := ⟨rfl, rfl, rfl, Nat.le_refl _, fun _ _ _ => rfl⟩
theorem UpF.below {F : List Nat} {a b c : World} (h : UpF F a b) (k : Below b.heap.size b c) : UpF F a c :=
  ⟨k.os.trans h.os, k.tape.trans h.tape, k.output.trans h.output, Nat.le_trans h.size k.size, fun x h1 h2 => (k.block x (Nat.lt_of_lt_of_le h1 h.size)).trans (h.block x h1 h2)⟩
theorem UpF.next {F G : List Nat} {a b c : World} (h : UpF F a b) (k : UpF G b c) (hs : ∀ x ∈ G, x ∈ F) : UpF F a c :=
  ⟨k.os.trans h.os, k.tape.trans h.tape, k.output.trans h.output, Nat.le_trans h.size k.size, fun x h1 h2 => (k.block x (Nat.lt_of_lt_of_le h1 h.size) (fun e => h2 (hs x e))).trans (h.block x h1 h2)⟩
theorem UpF.same {F : List Nat} {w w' : World} (h : UpF F w w') {b : Nat} (h1 : b < w.heap.size) (h2 : b ∉ F) : Same7 w w' b :=
  ⟨fun k => World.cell?_of_block (w := w) (h.block b h1 h2), fun k => World.frozen?_of_block (w := w) (h.block b h1 h2)⟩
theorem Up2.upF {bn bp : Nat} {w w' : World} (h : Up2 bn bp w w') {F : List Nat} (h1 : bn ∈ F) (h2 : bp ∈ F) : UpF F w w' :=
  ⟨h.os, h.tape, h.output, h.size, fun k hk hn => h.block k hk (fun e => hn (e ▸ h1)) (fun e => hn (e ▸ h2))⟩
theorem own_below {W W' : World} {q : Ptr} {t : Sh} {F : List Nat} (h : Own W q t F) (hb : Below W.heap.size W W') : Own W' q t F :=
  h.of (fun b hm => ⟨fun k => hb.cell (p := ⟨b, k, none⟩) (h.lt b hm), fun k => hb.frozen (p := ⟨b, k, none⟩) (h.lt b hm)⟩) hb.size

theorem sorted_kind (t : Sh) : (sorted t).kind = t.kind ∧ (sorted t).of_ = t.of_ ∧ (sorted t).name = t.name := by
  rw [sorted_eq]; split <;> exact ⟨rfl, rfl, rfl⟩
theorem sorted_lens {t : Sh} (h : t.names = [] ∨ t.names.length = t.parts.length) : (sorted t).names.length = t.names.length ∧ (sorted t).parts.length = t.parts.length := by
  rw [sorted_eq]
  split
  · rename_i h0
    simp [h0]
  · rename_i h0
    rcases h with h | h
    · exact absurd h h0
    · have := (sortF_perm (t.names.zip (t.parts.map sorted))).length_eq
      rw [List.length_zip, List.length_map] at this
      simp only [List.length_map, this]
      omega
theorem right_lens {t : Sh} (h : right t = true) : t.names = [] ∨ t.names.length = t.parts.length ∧ t.names.Nodup := by
  have hf := right_fits h
  unfold fits at hf
  split at hf
  · simp only [Bool.and_eq_true, decide_eq_true_eq] at hf
    exact Or.inl (List.eq_nil_of_length_eq_zero hf.1.2)
  · split at hf
    · cases hf
    · split at hf
      · simp only [Bool.and_eq_true, decide_eq_true_eq] at hf
        refine Or.inr ⟨hf.2, ?_⟩
        have := hf.1
        simp only [areNames, Bool.and_eq_true, noDup_iff] at this
        exact this.2
      · split at hf
        · cases hf
        · rename_i h0
          exact Or.inl (List.eq_nil_of_length_eq_zero (by omega))
theorem sh5_sorted {W : World} {b o : Nat} {t : Sh} {q : Ptr} (hr : right t = true) (h : Sh5 W b o t q) : Sh5 W b o (sorted t) q := by
  obtain ⟨k1, k2, k3⟩ := sorted_kind t
  obtain ⟨l1, l2⟩ := sorted_lens (t := t) ((right_lens hr).imp id And.left)
  unfold Sh5 at *
  rw [k1, k2, k3, l1, l2]
  exact h
theorem nodup_fl {Fs : Nat → List Nat} : ∀ n, ((List.range n).flatMap Fs).Nodup → (∀ j, j < n → (Fs j).Nodup) ∧ ∀ i j, i < j → j < n → ∀ b ∈ Fs i, b ∉ Fs j
  | 0, _ => ⟨fun j hj => absurd hj (by omega), fun i j _ hj => absurd hj (by omega)⟩
  | n + 1, h => by
    rw [List.range_succ, List.flatMap_append, List.nodup_append] at h
    obtain ⟨h1, h2, h3⟩ := h
    obtain ⟨k1, k2⟩ := nodup_fl n h1
    have e : [n].flatMap Fs = Fs n := by simp
    rw [e] at h2 h3
    refine ⟨fun j hj => ?_, fun i j hij hj b hb hb2 => ?_⟩
    · rcases Nat.lt_or_eq_of_le (Nat.le_of_lt_succ hj) with h | rfl
      · exact k1 j h
      · exact h2
    · rcases Nat.lt_or_eq_of_le (Nat.le_of_lt_succ hj) with h | rfl
      · exact k2 i j hij h b hb hb2
      · exact h3 b (List.mem_flatMap.2 ⟨i, List.mem_range.2 hij, hb⟩) b hb2 rfl
theorem nodup_parts {FN FP : List Nat} {n : Nat} {Fs : Nat → List Nat} (h : (FN ++ FP ++ (List.range n).flatMap Fs).Nodup) :
    (∀ b ∈ FN, b ∉ FP) ∧ (∀ b ∈ FN, ∀ j, j < n → b ∉ Fs j) ∧ (∀ b ∈ FP, ∀ j, j < n → b ∉ Fs j) ∧ (∀ j, j < n → (Fs j).Nodup) ∧ ∀ i j, i < n → j < n → i ≠ j → ∀ b ∈ Fs i, b ∉ Fs j := by
  rw [List.nodup_append] at h
  obtain ⟨h1, h2, h3⟩ := h
  rw [List.nodup_append] at h1
  have hm : ∀ j, j < n → ∀ b ∈ Fs j, b ∈ (List.range n).flatMap Fs := fun j hj b hb => List.mem_flatMap.2 ⟨j, List.mem_range.2 hj, hb⟩
  obtain ⟨h4, h5⟩ := nodup_fl n h2
  refine ⟨fun b hb hb2 => h1.2.2 b hb b hb2 rfl, fun b hb j hj hb2 => h3 b (List.mem_append_left _ hb) b (hm j hj b hb2) rfl, fun b hb j hj hb2 => h3 b (List.mem_append_right _ hb) b (hm j hj b hb2) rfl, h4, fun i j hi hj hne b hb hb2 => ?_⟩
  rcases Nat.lt_or_gt_of_ne hne with h | h
  · exact h5 i j h hj b hb hb2
  · exact h5 j i h hi b hb2 hb
end Go.Proofs.YtkehnmapnckdgaaDoor

/- A type put in order, in memory of its own: what its parts' walk keeps, and the node behind it. -/
namespace Go.Proofs.YtkehnmapnckdgaaDoor
open Go.RowKit Shp Go.Sort
set_option linter.unusedVariables false

/-- The parts up to a number are in order. -/
structure Swi (w wi : World) (ps : List Sh) (qs : Nat → Ptr) (Fs Fs' : Nat → List Nat) (i : Nat) : Prop where
  up : UpF ((List.range ps.length).flatMap Fs) w wi
  pm : ∀ j, j < ps.length → (Fs' j).Perm (Fs j)
  lo : ∀ j (h : j < ps.length), j < i → Own wi (qs j) (sorted (ps[j]'h)) (Fs' j)
  hi : ∀ j (h : j < ps.length), i ≤ j → Own wi (qs j) (ps[j]'h) (Fs' j)
theorem Swi.start {w wi : World} {ps : List Sh} {qs : Nat → Ptr} {Fs : Nat → List Nat} (hr : ∀ j (h : j < ps.length), Own w (qs j) (ps[j]'h) (Fs j)) (hb : Below w.heap.size w wi) : Swi w wi ps qs Fs Fs 0 :=
  ⟨(UpF.refl _ _).below hb, fun j _ => List.Perm.refl _, fun j _ h => absurd h (by omega), fun j h _ => own_below (hr j h) hb⟩
theorem Swi.below {w wi w2 : World} {ps : List Sh} {qs : Nat → Ptr} {Fs Fs' : Nat → List Nat} {i : Nat} (h : Swi w wi ps qs Fs Fs' i) (hb : Below wi.heap.size wi w2) : Swi w w2 ps qs Fs Fs' i :=
  ⟨h.up.below hb, h.pm, fun j hj hl => own_below (h.lo j hj hl) hb, fun j hj hl => own_below (h.hi j hj hl) hb⟩
theorem Swi.step {w wi w2 : World} {ps : List Sh} {qs : Nat → Ptr} {Fs Fs' : Nat → List Nat} {i : Nat} {F' : List Nat} (h : Swi w wi ps qs Fs Fs' i) (hi : i < ps.length)
    (hdis : ∀ i j, i < ps.length → j < ps.length → i ≠ j → ∀ b ∈ Fs i, b ∉ Fs j) (hu : UpF (Fs' i) wi w2) (hp : F'.Perm (Fs' i)) (ho : Own w2 (qs i) (sorted (ps[i]'hi)) F') : ∃ Fs2, Swi w w2 ps qs Fs Fs2 (i + 1) := by
  have hfar : ∀ j, j < ps.length → j ≠ i → ∀ b ∈ Fs' j, b ∉ Fs' i := fun j hj hne b hb hb2 =>
    hdis j i hj hi hne b ((h.pm j hj).mem_iff.1 hb) ((h.pm i hi).mem_iff.1 hb2)
  refine ⟨fun j => if j = i then F' else Fs' j, h.up.next hu (fun x hx => List.mem_flatMap.2 ⟨i, List.mem_range.2 hi, (h.pm i hi).mem_iff.1 hx⟩), fun j hj => ?_, fun j hj hl => ?_, fun j hj hl => ?_⟩
  · by_cases e : j = i
    · subst e; simp only [if_true]; exact hp.trans (h.pm j hj)
    · simp only [if_neg e]; exact h.pm j hj
  · by_cases e : j = i
    · subst e; simp only [if_true]; exact ho
    · simp only [if_neg e]
      have ho2 := h.lo j hj (by omega)
      exact ho2.of (fun b hb => hu.same (ho2.lt b hb) (hfar j hj e b hb)) hu.size
  · have e : j ≠ i := by omega
    simp only [if_neg e]
    have ho2 := h.hi j hj (by omega)
    exact ho2.of (fun b hb => hu.same (ho2.lt b hb) (hfar j hj e b hb)) hu.size

/-- A type whose parts are in order. -/
def half (t : Sh) : Sh := ⟨t.kind, t.of_, t.name, t.names, t.parts.map sorted⟩
theorem half_small {t : Sh} {q : Ptr} (h : Small t q) : Small (half t) q := by
  obtain ⟨h1, h2, h3, h4, h5, h6, h7, h8, h9⟩ := h
  exact ⟨h1, h2, h3, h4, by simpa [half] using h5, h6, by simpa [half] using h7, h8, h9⟩
theorem Swi.halfs {w wi : World} {t : Sh} {qs : Nat → Ptr} {Fs Fs' : Nat → List Nat} (h : Swi w wi t.parts qs Fs Fs' t.parts.length) : ∀ i (hi : i < (half t).parts.length), Own wi (qs i) ((half t).parts[i]'hi) (Fs' i) := fun i hi => by
  have hi2 : i < t.parts.length := by simpa [half] using hi
  have := h.lo i hi2 hi2
  simpa [half] using this

theorem flat_perm {n : Nat} {Fs Fs' : Nat → List Nat} (h : ∀ j, j < n → (Fs' j).Perm (Fs j)) : ((List.range n).flatMap Fs').Perm ((List.range n).flatMap Fs) := by
  induction n with
  | zero => exact List.Perm.refl _
  | succ n ih =>
    rw [List.range_succ, List.flatMap_append, List.flatMap_append]
    refine (ih fun j hj => h j (by omega)).append ?_
    simpa using h n (by omega)

/-- What holds of a node ahead of sort.Sort, and what behind it. -/
theorem node_none {w wi w2 : World} {t : Sh} {q : Ptr} {FN FP : List Nat} {qs : Nat → Ptr} {Fs Fs' : Nat → List Nat} (hr : right t = true) (hs : Small t q) (h0 : t.names.length = 0)
    (hn : t.names.length = 0 ∧ FN = [] ∨ ∃ b, q.A = some ⟨b, 0, none⟩ ∧ FN = [b] ∧ TxR w b t.names) (hp : t.parts.length = 0 ∧ FP = [] ∨ ∃ b, q.P = some ⟨b, 0, none⟩ ∧ FP = [b] ∧ PaR w b t.parts qs)
    (hnd : (FN ++ FP ++ (List.range t.parts.length).flatMap Fs).Nodup) (h : Swi w wi t.parts qs Fs Fs' t.parts.length) (hb : Below wi.heap.size wi w2) :
    UpF (FN ++ FP ++ (List.range t.parts.length).flatMap Fs) w w2 ∧ ∃ F', F'.Perm (FN ++ FP ++ (List.range t.parts.length).flatMap Fs) ∧ Own w2 q (sorted t) F' := by
  have h2 := h.below hb
  obtain ⟨n1, n2, n3, _, _⟩ := nodup_parts hnd
  have hU : UpF (FN ++ FP ++ (List.range t.parts.length).flatMap Fs) w w2 := (UpF.refl _ w).next h2.up (fun x hx => List.mem_append_right _ hx)
  have hnil : t.names = [] := List.eq_nil_of_length_eq_zero h0
  have hso : sorted t = half t := by rw [sorted_eq, if_pos hnil]; unfold half; rw [hnil]
  have hin : ∀ b ∈ FP, b ∉ (List.range t.parts.length).flatMap Fs := fun b hb hb2 => by
    obtain ⟨j, hj, hb2⟩ := List.mem_flatMap.1 hb2
    exact n3 b hb j (List.mem_range.1 hj) hb2
  have hin2 : ∀ b ∈ FN, b ∉ (List.range t.parts.length).flatMap Fs := fun b hb hb2 => by
    obtain ⟨j, hj, hb2⟩ := List.mem_flatMap.1 hb2
    exact n2 b hb j (List.mem_range.1 hj) hb2
  refine ⟨hU, FN ++ FP ++ (List.range t.parts.length).flatMap Fs', (flat_perm h2.pm).append_left _, ?_⟩
  rw [hso]
  refine .mk q _ _ FN FP qs Fs' (half_small hs) ?_ ?_ (Swi.halfs h2) (by simp [half])
  · rcases hn with h | ⟨b, h1, rfl, h3⟩
    · exact Or.inl h
    · exact Or.inr ⟨b, h1, rfl, h3.of (h2.up.same h3.lt (hin2 b (by simp))) h2.up.size⟩
  · rcases hp with h | ⟨b, h1, rfl, h3⟩
    · exact Or.inl (by simpa [half] using h)
    · refine Or.inr ⟨b, h1, rfl, Nat.lt_of_lt_of_le h3.lt h2.up.size, fun i hi => ?_, fun k => ((h2.up.same h3.lt (hin b (by simp))).2 k).trans (h3.fz k)⟩
      have hi2 : i < t.parts.length := by simpa [half] using hi
      have hm : t.parts[i] ∈ t.parts := List.getElem_mem hi2
      have := sh5_sorted (right_part hr hm) ((h3.at_ i hi2).of (h2.up.same h3.lt (hin b (by simp))).1)
      simpa [half] using this

theorem els_pairs {t : Sh} (hl : t.names.length = t.parts.length) (qs : Nat → Ptr) (Fs : Nat → List Nat) : (els t qs Fs).toList.map (fun x => ((x.n, x.t) : Fld)) = t.names.zip t.parts := by
  apply List.ext_getElem
  · simp [els, hl]
  · intro i h1 h2
    have h3 : i < t.names.length := by simpa [els] using h1
    have h4 : i < t.parts.length := by omega
    simp [els, h3, h4]

theorem node_some {w wi : World} {t : Sh} {q : Ptr} {FN FP : List Nat} {qs : Nat → Ptr} {Fs Fs' : Nat → List Nat} (hr : right t = true) (hs : Small t q) (h0 : t.names.length ≠ 0)
    (hn : t.names.length = 0 ∧ FN = [] ∨ ∃ b, q.A = some ⟨b, 0, none⟩ ∧ FN = [b] ∧ TxR w b t.names) (hp : t.parts.length = 0 ∧ FP = [] ∨ ∃ b, q.P = some ⟨b, 0, none⟩ ∧ FP = [b] ∧ PaR w b t.parts qs)
    (hnd : (FN ++ FP ++ (List.range t.parts.length).flatMap Fs).Nodup) (h : Swi w wi t.parts qs Fs Fs' t.parts.length) :
    ∃ bn bp, q.A = some ⟨bn, 0, none⟩ ∧ q.P = some ⟨bp, 0, none⟩ ∧ (half t).names.length = (half t).parts.length ∧ TxR wi bn (half t).names ∧ PaR wi bp (half t).parts qs ∧ bn ≠ bp ∧
      ∀ (d' : Array El) (w2 : World), PermIn 0 (half t).names.length (els (half t) qs Fs') d' → SortedIn ltEl 0 (half t).names.length d' → FSt wi bn bp (half t).names.length d' w2 →
        UpF (FN ++ FP ++ (List.range t.parts.length).flatMap Fs) w w2 ∧ ∃ F', F'.Perm (FN ++ FP ++ (List.range t.parts.length).flatMap Fs) ∧ Own w2 q (sorted t) F' := by
  obtain ⟨hl, hnn⟩ := (right_lens hr).resolve_left (fun e => h0 (by rw [e]; rfl))
  rcases hn with ⟨hn, _⟩ | ⟨bn, hA, rfl, hT⟩
  · omega
  rcases hp with ⟨hp, _⟩ | ⟨bp, hP, rfl, hPa⟩
  · omega
  obtain ⟨n1, n2, n3, _, _⟩ := nodup_parts hnd
  have hbnp : bn ≠ bp := fun e => n1 bn (by simp) (by simp [e])
  have hinP : bp ∉ (List.range t.parts.length).flatMap Fs := fun hb2 => by
    obtain ⟨j, hj, hb2⟩ := List.mem_flatMap.1 hb2
    exact n3 bp (by simp) j (List.mem_range.1 hj) hb2
  have hinN : bn ∉ (List.range t.parts.length).flatMap Fs := fun hb2 => by
    obtain ⟨j, hj, hb2⟩ := List.mem_flatMap.1 hb2
    exact n2 bn (by simp) j (List.mem_range.1 hj) hb2
  have hlh : (half t).names.length = (half t).parts.length := by simpa [half] using hl
  refine ⟨bn, bp, hA, hP, hlh, hT.of (h.up.same hT.lt hinN) h.up.size, ⟨Nat.lt_of_lt_of_le hPa.lt h.up.size, fun i hi => ?_, fun k => ((h.up.same hPa.lt hinP).2 k).trans (hPa.fz k)⟩, hbnp, ?_⟩
  · have hi2 : i < t.parts.length := by simpa [half] using hi
    have hm : t.parts[i] ∈ t.parts := List.getElem_mem hi2
    have := sh5_sorted (right_part hr hm) ((hPa.at_ i hi2).of (h.up.same hPa.lt hinP).1)
    simpa [half] using this
  · intro d' w2 hpm hso hf
    have hpl := perm_lists hpm (els_size _ _ _)
    have hown : ∀ i (hi : i < (half t).parts.length), Own w2 (qs i) ((half t).parts[i]'hi) (Fs' i) := fun i hi => by
      have hi2 : i < t.parts.length := by simpa [half] using hi
      have ho := h.halfs i hi
      refine ho.of (fun b hb => ?_) hf.up.size
      have hbF : b ∈ Fs i := (h.pm i hi2).mem_iff.1 hb
      have hb1 : b ≠ bn := fun e => n2 bn (by simp) i hi2 (e ▸ hbF)
      have hb2 : b ≠ bp := fun e => n3 bp (by simp) i hi2 (e ▸ hbF)
      have hbl := hf.up.block b (ho.lt b hb) hb1 hb2
      exact ⟨fun k => World.cell?_of_block (w := wi) hbl, fun k => World.frozen?_of_block (w := wi) hbl⟩
    obtain ⟨o1, o2⟩ := own_node (N := (half t).names.length) hA hP (half_small hs) rfl hlh.symm hf hpl hown
    have hsorted : sorted t = ⟨(half t).kind, (half t).of_, (half t).name, d'.toList.map El.n, d'.toList.map El.t⟩ := by
      have hfst : (t.names.zip (t.parts.map sorted)).map Prod.fst = t.names := List.map_fst_zip (by rw [List.length_map, hl]; exact Nat.le_refl _)
      have hu : (d'.toList.map fun x => ((x.n, x.t) : Fld)) = sortF (t.names.zip (t.parts.map sorted)) := by
        refine sortF_unique ?_ (sorted_pairs hso hf.size) (by rw [hfst]; exact hnn)
        have := hpl.map (fun x => ((x.n, x.t) : Fld))
        rwa [els_pairs hlh] at this
      rw [sorted_eq, if_neg (fun e => h0 (by rw [e]; rfl)), ← hu]
      simp [half, List.map_map, Function.comp_def]
    refine ⟨?_, _, ?_, by rw [hsorted]; exact o1⟩
    · have hU1 : UpF ([bn] ++ [bp] ++ (List.range t.parts.length).flatMap Fs) w wi := (UpF.refl _ w).next h.up (fun x hx => List.mem_append_right _ hx)
      exact hU1.next (hf.up.upF (F := [bn] ++ [bp]) (by simp) (by simp)) (fun x hx => List.mem_append_left _ hx)
    · refine o2.trans ?_
      have := (flat_perm h.pm).append_left ([bn] ++ [bp])
      simpa [half] using this
end Go.Proofs.YtkehnmapnckdgaaDoor

/- sortWithin: a type in memory of its own is put in order. -/
namespace Go.Proofs.YtkehnmapnckdgaaDoor
open Go.RowKit Shp Go.Sort
set_option linter.unusedVariables false

theorem Box5.same {W W' : World} {g : Nat} {t : Sh} {q : Ptr} (h : Box5 W g t q) (hs : Same7 W W' g) (hz : W.heap.size ≤ W'.heap.size) : Box5 W' g t q := by
  obtain ⟨h0, h1, f0, f1, f2, f3, f4⟩ := h
  exact ⟨Nat.lt_of_lt_of_le h0 hz, h1.of hs.1, (hs.2 _).trans f0, (hs.2 _).trans f1, (hs.2 _).trans f2, (hs.2 _).trans f3, (hs.2 _).trans f4⟩
/-- What a round of the parts' walk wants. -/
theorem Swi.box {w wi : World} {t : Sh} {q : Ptr} {qs : Nat → Ptr} {Fs Fs' : Nat → List Nat} {i g : Nat} (h : Swi w wi t.parts qs Fs Fs' i) (hb : Box5 w g t q) (hg : g ∉ (List.range t.parts.length).flatMap Fs) : Box5 wi g t q :=
  hb.same (h.up.same hb.1 hg) h.up.size

set_option maxRecDepth 100000 in
set_option maxHeartbeats 2000000 in
theorem sortWithin_walk (t : Sh) : ∀ (q : Ptr) (F : List Nat) (w : World), Own w q t F → F.Nodup → right t = true → size t ≤ 400 →
    Calls Tryd.prog 33 #[.agg #[.int .i64 t.kind, .string ⟨t.of_.toArray⟩, .string ⟨t.name.toArray⟩, .slice q.A t.names.length q.c, .slice q.P t.parts.length q.d]] w
      fun e w' => e = .returned (.tuple #[]) ∧ UpF F w w' ∧ ∃ F', F'.Perm F ∧ Own w' q (sorted t) F' := by
  induction t using Sh.ind with
  | h t ih =>
  intro q F w hO hnd hr hz
  have hb0 := below_one w (.cells #[.int .i64 t.kind, .string ⟨t.of_.toArray⟩, .string ⟨t.name.toArray⟩, .slice q.A t.names.length q.c, .slice q.P t.parts.length q.d] 25)
  have HB := Lib.hid (box5_new w t q)
  have HM := Lib.hid hO.small
  have hlt := hO.lt
  obtain ⟨FN, FP, qs, Fs, hn, hp, hrr, rfl⟩ := (own_below hO hb0).inv
  obtain ⟨n1, n2, n3, n4, n5⟩ := nodup_parts hnd
  have hg : w.heap.size ∉ (List.range t.parts.length).flatMap Fs := fun hm => by
    have := hlt w.heap.size (List.mem_append_right _ hm)
    omega
  have HG := Lib.hid hg
  have HS0 := Lib.hid (Swi.start hrr (Below.refl _ _))
  have HN := Lib.hid hn
  have HP := Lib.hid hp
  have HND := Lib.hid hnd
  have HD := Lib.hid n5
  have HN4 := Lib.hid n4
  have HN3 := Lib.hid n3
  have HR := Lib.hid hr
  have HZ : Hid (size t = 1 + sizes t.parts) := Lib.hid (size_eq t)
  have HB0 := Lib.hid hb0
  have hlen := length_sizes t.parts
  have hpl : t.parts.length ≤ 400 := by have := HZ.out; omega
  clear hb0 hO hlt hn hp hrr hnd n1 n2 n3 n4 n5 hr hg hlen
  go_enter Tryd.func33, Tryd.ntmps33
  go_wp2_with fail
  generalize w.alloc (.cells #[.int .i64 t.kind, .string ⟨t.of_.toArray⟩, .string ⟨t.name.toArray⟩, .slice q.A t.names.length q.c, .slice q.P t.parts.length q.d] 25) = W0 at HB HS0 HN HP HB0 ⊢
  go_loopw [7] (fun ii wr => ∃ i : Nat, ii = .int .i64 i ∧ i ≤ t.parts.length ∧ Hid (∃ Fs', Swi W0 wr t.parts qs Fs Fs' i)) (fun i _ => t.parts.length - (intOf i).toNat)
  case atStart => exact ⟨0, rfl, Nat.zero_le _, Lib.hid ⟨_, HS0.out⟩⟩
  case round =>
    obtain ⟨i, rfl, hi, HSW⟩ := hrel
    by_cases hlt : i < t.parts.length
    · obtain ⟨Fs', hsw⟩ := HSW.out
      rcases HP.out with ⟨h0, _⟩ | ⟨bp, hqP, hFP, hPa⟩
      · omega
      · obtain ⟨x, hx⟩ : ∃ x, x = t.parts[i] := ⟨_, rfl⟩
        have hxr : right x = true := by rw [hx]; exact right_part HR.out (List.getElem_mem _)
        have hxz : size x ≤ 400 := by
          have := sizes_mem (List.getElem_mem hlt)
          have := HZ.out
          rw [hx]; omega
        have hinP : bp ∉ (List.range t.parts.length).flatMap Fs := fun hb2 => by
          obtain ⟨j, hj, hb2⟩ := List.mem_flatMap.1 hb2
          exact HN3.out bp (by rw [hFP]; simp) j (List.mem_range.1 hj) hb2
        obtain ⟨p0, p1, p2, p3, p4⟩ := (hPa.at_ i hlt).of (hsw.up.same hPa.lt hinP).1
        have hbx := below_one wr (.cells #[.int .i64 x.kind, .string ⟨x.of_.toArray⟩, .string ⟨x.name.toArray⟩, .slice (qs i).A x.names.length (qs i).c, .slice (qs i).P x.parts.length (qs i).d] 25)
        have hsw2 := hsw.below hbx
        have hox := hsw2.hi i hlt (Nat.le_refl _)
        rw [← hx] at p0 p1 p2 p3 p4 hox
        have IH := Lib.hid (ih t.parts[i] (List.getElem_mem _) (qs i) (Fs' i) (wr.alloc (.cells #[.int .i64 x.kind, .string ⟨x.of_.toArray⟩, .string ⟨x.name.toArray⟩, .slice (qs i).A x.names.length (qs i).c, .slice (qs i).P x.parts.length (qs i).d] 25)) (by rw [← hx]; exact hox) (((hsw.pm i hlt).nodup_iff).2 (HN4.out i hlt)) (by rw [← hx]; exact hxr) (by rw [← hx]; exact hxz))
        rw [← hx] at IH
        have HX := Lib.hid hx
        have HSW2 := Lib.hid hsw2
        clear hx hsw hsw2 hox hbx hinP hPa hFP hxr hxz ih HSW
        have hi1 : (i : Int) < (t.parts.length : Int) := by omega
        rw [hqP]
        clear hqP
        go_wp2_with fail
        refine IH.out.mono ?_
        rintro e w2 ⟨rfl, hu, F', hF', ho'⟩
        have HS3 : Hid (∃ Fs2, Swi W0 w2 t.parts qs Fs Fs2 (i + 1)) := Lib.hid (HSW2.out.step hlt HD.out hu hF' (by rw [← HX.out]; exact ho'))
        clear hu hF' ho' IH HSW2
        go_wp2
        go_roundw
        case rel => exact ⟨i + 1, by go_num, by omega, HS3⟩
        case measure => simp [intOf]; omega
    · obtain ⟨Fs', hsw⟩ := HSW.out
      have hie : i = t.parts.length := by omega
      subst hie
      have hi1 : ¬ (t.parts.length : Int) < (t.parts.length : Int) := by omega
      obtain ⟨_, ⟨b0, b1, b2, b3, b4⟩, _⟩ := hsw.box HB.out HG.out
      have HSW3 := Lib.hid hsw
      clear hsw HSW hlt
      go_wp2_with fail
      by_cases h0 : t.names.length = 0
      · refine (snode0_walk t q wr h0).mono ?_
        rintro e w2 ⟨rfl, hb2⟩
        obtain ⟨r1, r2⟩ := node_none HR.out HM.out h0 HN.out HP.out HND.out HSW3.out hb2
        have HR1 := Lib.hid (((UpF.refl _ w).below HB0.out).next r1 (fun x hx => hx))
        have HR2 := Lib.hid r2
        clear r1 r2 hb2 HSW3
        go_wp2
        go_end0
        exact ⟨rfl, HR1.out, HR2.out⟩
      · obtain ⟨bn, bp, hA, hP, hl, hT, hPa, hne, hall⟩ := node_some HR.out HM.out h0 HN.out HP.out HND.out HSW3.out
        have hw := snode_walk (half t) q qs Fs' bn bp wr hA hP hl (by have : (half t).parts.length = t.parts.length := by simp [half]
                                                                      omega) hT hPa hne
        have hkk : (half t).parts.length = t.parts.length := by simp [half]
        have e1 : (half t).kind = t.kind := rfl
        have e2 : (half t).of_ = t.of_ := rfl
        have e3 : (half t).name = t.name := rfl
        have e4 : (half t).names.length = t.names.length := rfl
        rw [hkk, e1, e2, e3, e4] at hw
        refine hw.mono ?_
        rintro e w2 ⟨rfl, d', hpm, hso, hf⟩
        obtain ⟨r1, r2⟩ := hall d' w2 hpm hso hf
        have HR1 := Lib.hid (((UpF.refl _ w).below HB0.out).next r1 (fun x hx => hx))
        have HR2 := Lib.hid r2
        clear r1 r2 hpm hso hf hw hall HSW3 hA hP hl hT hPa hne hkk e1 e2 e3 e4
        go_wp2
        go_end0
        exact ⟨rfl, HR1.out, HR2.out⟩
end Go.Proofs.YtkehnmapnckdgaaDoor
