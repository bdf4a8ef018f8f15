/- ShpEq, ShpF7, together. -/
import Derived.Test.YtkehnmapnckdgaaDoorGF
import Derived.Test.YtkehnmapnckdgaaDoorShpO12
/- Layer 7: what is in order, and the other way round: as many parts and levels, and the same order. -/
namespace Go.Proofs.YtkehnmapnckdgaaDoor
open Shp
set_option linter.unusedVariables false

theorem areNames_perm {l m : List (List UInt8)} (h : l.Perm m) : areNames l = areNames m := by
  rw [Bool.eq_iff_iff, areNames_iff, areNames_iff]
  exact ⟨fun ⟨h1, h2⟩ => ⟨fun x hx => h1 x (h.mem_iff.2 hx), h.nodup_iff.1 h2⟩, fun ⟨h1, h2⟩ => ⟨fun x hx => h1 x (h.mem_iff.1 hx), h.nodup_iff.2 h2⟩⟩
theorem fits_perm {t u : Sh} (hk : u.kind = t.kind) (ho : u.of_ = t.of_) (hn : u.name = t.name) (hns : u.names.Perm t.names) (hp : u.parts.length = t.parts.length) : fits u = fits t := by
  have ha := areNames_perm hns
  unfold fits bare
  rw [hk, ho, hn, hns.length_eq, hp, ha]
theorem sizes_perm {l m : List Sh} (h : l.Perm m) : sizes l = sizes m := by
  induction h with
  | nil => rfl
  | cons x _ ih => simp [sizes, ih]
  | swap x y l => simp [sizes]; omega
  | trans _ _ ih1 ih2 => exact ih1.trans ih2
theorem deeps_perm {l m : List Sh} (h : l.Perm m) : deeps l = deeps m := by
  induction h with
  | nil => rfl
  | cons x _ ih => simp [deeps, ih]
  | swap x y l => simp [deeps]; omega
  | trans _ _ ih1 ih2 => exact ih1.trans ih2
theorem sizes_map {f : Sh → Sh} {l : List Sh} (h : ∀ p ∈ l, size (f p) = size p) : sizes (l.map f) = sizes l := by
  induction l with
  | nil => rfl
  | cons a l ih => simp [sizes, h a (by simp), ih (fun p hp => h p (by simp [hp]))]
theorem deeps_map {f : Sh → Sh} {l : List Sh} (h : ∀ p ∈ l, deep (f p) = deep p) : deeps (l.map f) = deeps l := by
  induction l with
  | nil => rfl
  | cons a l ih => simp [deeps, h a (by simp), ih (fun p hp => h p (by simp [hp]))]

/-- A type with the same parts, each changed, in any order. -/
structure Like (f : Sh → Sh) (t u : Sh) : Prop where
  k : u.kind = t.kind
  o : u.of_ = t.of_
  n : u.name = t.name
  ns : u.names.Perm t.names
  ps : u.parts.Perm (t.parts.map f)
theorem Like.size {f : Sh → Sh} {t u : Sh} (h : Like f t u) (hp : ∀ p ∈ t.parts, size (f p) = size p) : size u = size t := by
  rw [size_eq, size_eq, sizes_perm h.ps, sizes_map hp]
theorem Like.deep {f : Sh → Sh} {t u : Sh} (h : Like f t u) (hp : ∀ p ∈ t.parts, deep (f p) = deep p) : deep u = deep t := by
  rw [deep_eq, deep_eq, deeps_perm h.ps, deeps_map hp]
theorem Like.right {f : Sh → Sh} {t u : Sh} (h : Like f t u) (ht : right t = true) (hp : ∀ p ∈ t.parts, right (f p) = true) : right u = true := by
  refine right_on ?_ (fun p hm => ?_)
  · rw [fits_perm h.k h.o h.n h.ns (by rw [h.ps.length_eq, List.length_map])]
    exact right_fits ht
  · obtain ⟨x, hx, rfl⟩ := List.mem_map.1 (h.ps.mem_iff.1 hm)
    exact hp x hx

theorem lens_of {t : Sh} (h : right t = true) (h0 : t.names ≠ []) : t.names.length = t.parts.length ∧ t.names.Nodup := (right_lens h).resolve_left h0
theorem sorted_like {t : Sh} (h : right t = true) : Like sorted t (sorted t) := by
  obtain ⟨h1, h2, h3⟩ := sorted_kind t
  refine ⟨h1, h2, h3, ?_, ?_⟩
  · rw [sorted_eq]
    split
    · rename_i h0; rw [h0]
    · rename_i h0
      have := (sortF_perm (t.names.zip (t.parts.map sorted))).map Prod.fst
      rwa [List.map_fst_zip (by rw [List.length_map, (lens_of h h0).1]; exact Nat.le_refl _)] at this
  · rw [sorted_eq]
    split
    · exact List.Perm.refl _
    · rename_i h0
      have := (sortF_perm (t.names.zip (t.parts.map sorted))).map Prod.snd
      rwa [List.map_snd_zip (by rw [List.length_map, (lens_of h h0).1]; exact Nat.le_refl _)] at this
theorem turned_like {t : Sh} (h : right t = true) : Like turned t (turned t) := by
  rw [turned_eq]
  split
  · rename_i h0
    exact ⟨rfl, rfl, rfl, by rw [h0], List.Perm.refl _⟩
  · exact ⟨rfl, rfl, rfl, List.reverse_perm _, List.reverse_perm _⟩

theorem size_sorted (t : Sh) : right t = true → size (sorted t) = size t := by
  induction t using Sh.ind with
  | h t ih => exact fun h => (sorted_like h).size fun p hp => ih p hp (right_part h hp)
theorem deep_sorted (t : Sh) : right t = true → deep (sorted t) = deep t := by
  induction t using Sh.ind with
  | h t ih => exact fun h => (sorted_like h).deep fun p hp => ih p hp (right_part h hp)
theorem right_sorted (t : Sh) : right t = true → right (sorted t) = true := by
  induction t using Sh.ind with
  | h t ih => exact fun h => (sorted_like h).right h fun p hp => ih p hp (right_part h hp)
theorem size_turned (t : Sh) : right t = true → size (turned t) = size t := by
  induction t using Sh.ind with
  | h t ih => exact fun h => (turned_like h).size fun p hp => ih p hp (right_part h hp)
theorem deep_turned (t : Sh) : right t = true → deep (turned t) = deep t := by
  induction t using Sh.ind with
  | h t ih => exact fun h => (turned_like h).deep fun p hp => ih p hp (right_part h hp)
theorem right_turned (t : Sh) : right t = true → right (turned t) = true := by
  induction t using Sh.ind with
  | h t ih => exact fun h => (turned_like h).right h fun p hp => ih p hp (right_part h hp)
theorem check_of {t : Sh} (h1 : size t ≤ 400) (h2 : deep t ≤ 40) (h3 : right t = true) : check t = 0 := by
  unfold check
  rw [if_neg (by omega), if_neg (by omega), if_neg (by rw [h3]; decide)]
theorem check_sorted {t : Sh} (h : check t = 0) : check (sorted t) = 0 := by
  obtain ⟨h1, h2, h3⟩ := check_ok h
  exact check_of (by rw [size_sorted t h3]; exact h1) (by rw [deep_sorted t h3]; exact h2) (right_sorted t h3)
theorem check_turned {t : Sh} (h : check t = 0) : check (turned t) = 0 := by
  obtain ⟨h1, h2, h3⟩ := check_ok h
  exact check_of (by rw [size_turned t h3]; exact h1) (by rw [deep_turned t h3]; exact h2) (right_turned t h3)

theorem map_same {f : Sh → Sh} {l : List Sh} (h : ∀ p ∈ l, f p = p) : l.map f = l := by
  conv => rhs; rw [← List.map_id l]
  exact List.map_congr_left fun p hp => h p hp
theorem zip_split (L : List Fld) : (L.map Prod.fst).zip (L.map Prod.snd) = L := by
  induction L with
  | nil => rfl
  | cons a l ih => simp [ih]

theorem sh_eta (u : Sh) : u = ⟨u.kind, u.of_, u.name, u.names, u.parts⟩ := by cases u; rfl
theorem sorted_sorted (t : Sh) : right t = true → sorted (sorted t) = sorted t := by
  induction t using Sh.ind with
  | h t ih =>
    intro h
    have hp : ∀ p ∈ (sorted t).parts, sorted p = p := fun p hm => by
      obtain ⟨x, hx, rfl⟩ := List.mem_map.1 ((sorted_like h).ps.mem_iff.1 hm)
      exact ih x hx (right_part h hx)
    have hm := map_same hp
    by_cases h0 : t.names = []
    · have hn : (sorted t).names = [] := by rw [sorted_eq, if_pos h0]
      rw [sorted_eq (sorted t), if_pos hn, hm]
      rw [← hn]
      exact (sh_eta _).symm
    · have hl := lens_of h h0
      have hs : sorted t = ⟨t.kind, t.of_, t.name, (sortF (t.names.zip (t.parts.map sorted))).map Prod.fst, (sortF (t.names.zip (t.parts.map sorted))).map Prod.snd⟩ := by rw [sorted_eq, if_neg h0]
      have hfst : (t.names.zip (t.parts.map sorted)).map Prod.fst = t.names := List.map_fst_zip (by rw [List.length_map, hl.1]; exact Nat.le_refl _)
      have hnd : ((sortF (t.names.zip (t.parts.map sorted))).map Prod.fst).Nodup := (((sortF_perm _).map Prod.fst).nodup_iff).2 (by rw [hfst]; exact hl.2)
      have hne : (sorted t).names ≠ [] := fun e => h0 (by
        have := (sorted_like h).ns.length_eq
        rw [e] at this
        exact List.eq_nil_of_length_eq_zero this.symm)
      have hu : sortF (sortF (t.names.zip (t.parts.map sorted))) = sortF (t.names.zip (t.parts.map sorted)) := (sortF_unique (List.Perm.refl _) (sortF_sorted _) hnd).symm
      rw [sorted_eq (sorted t), if_neg hne, hm]
      generalize hL : sortF (t.names.zip (t.parts.map sorted)) = L at hs hu
      rw [hs]
      simp only [zip_split, hu]

theorem sorted_turned (t : Sh) : right t = true → sorted (turned t) = sorted t := by
  induction t using Sh.ind with
  | h t ih =>
    intro h
    have hmm : (t.parts.map turned).map sorted = t.parts.map sorted := by
      rw [List.map_map]
      exact List.map_congr_left fun p hp => ih p hp (right_part h hp)
    by_cases h0 : t.names = []
    · rw [turned_eq, if_pos h0, sorted_eq, if_pos rfl, sorted_eq t, if_pos h0]
      simp only [hmm]
    · have hl := lens_of h h0
      have hfst : (t.names.zip (t.parts.map sorted)).map Prod.fst = t.names := List.map_fst_zip (by rw [List.length_map, hl.1]; exact Nat.le_refl _)
      have hr : t.names.reverse ≠ [] := by simpa using h0
      have hz : t.names.reverse.zip ((t.parts.map turned).reverse.map sorted) = (t.names.zip (t.parts.map sorted)).reverse := by
        rw [List.map_reverse, hmm, List.zip_eq_zipWith, List.zip_eq_zipWith, List.reverse_zipWith (by rw [List.length_map, hl.1])]
      have hu : sortF (t.names.zip (t.parts.map sorted)).reverse = sortF (t.names.zip (t.parts.map sorted)) :=
        sortF_unique ((sortF_perm _).trans (List.reverse_perm _)) (sortF_sorted _) (by rw [hfst]; exact hl.2)
      rw [turned_eq, if_neg h0, sorted_eq, if_neg hr, sorted_eq t, if_neg h0]
      simp only [hz, hu]

/-! ### The same -/
theorem same_iff (t u : Sh) : same t u = true ↔ check t = 0 ∧ check u = 0 ∧ sorted t = sorted u := by
  simp [same, eqB_iff, and_assoc]
theorem same_of {t u : Sh} (h1 : check t = 0) (h2 : check u = 0) (h3 : sorted t = sorted u) : same t u = true := (same_iff t u).2 ⟨h1, h2, h3⟩
theorem same_comm (t u : Sh) : same t u = same u t := by
  rw [Bool.eq_iff_iff, same_iff, same_iff]
  exact ⟨fun ⟨a, b, c⟩ => ⟨b, a, c.symm⟩, fun ⟨a, b, c⟩ => ⟨b, a, c.symm⟩⟩
theorem same_trans {t u v : Sh} (h1 : same t u = true) (h2 : same u v = true) : same t v = true := by
  obtain ⟨a, b, c⟩ := (same_iff t u).1 h1
  obtain ⟨a', b', c'⟩ := (same_iff u v).1 h2
  exact same_of a b' (c.trans c')
theorem same_off {t : Sh} (h : check t ≠ 0) (u : Sh) : same t u = false := by simp [same, h]
theorem same_text {t u : Sh} (h : same t u = true) : text (sorted t) = text (sorted u) := by rw [((same_iff t u).1 h).2.2]
theorem same_sorted {t : Sh} (h : check t = 0) : same t (sorted t) = true := same_of h (check_sorted h) (sorted_sorted t (check_ok h).2.2).symm
theorem same_turned {t : Sh} (h : check t = 0) : same t (turned t) = true := same_of h (check_turned h) (sorted_turned t (check_ok h).2.2).symm
end Go.Proofs.YtkehnmapnckdgaaDoor

/- The program's Sort and Same. -/
namespace Go.Proofs.YtkehnmapnckdgaaDoor
open Go.RowKit Shp Go.Sort
set_option linter.unusedVariables false

theorem agg_sorted {t : Sh} (q : Ptr) (hr : right t = true) :
    (.agg #[.int .i64 t.kind, .string ⟨t.of_.toArray⟩, .string ⟨t.name.toArray⟩, .slice q.A t.names.length q.c, .slice q.P t.parts.length q.d] : Value) = .agg #[.int .i64 (sorted t).kind, .string ⟨(sorted t).of_.toArray⟩, .string ⟨(sorted t).name.toArray⟩, .slice q.A (sorted t).names.length q.c, .slice q.P (sorted t).parts.length q.d] := by
  obtain ⟨k1, k2, k3⟩ := sorted_kind t
  obtain ⟨l1, l2⟩ := sorted_lens (t := t) ((right_lens hr).imp id And.left)
  rw [k1, k2, k3, l1, l2]

theorem UpF.toBelow {F : List Nat} {w w' : World} {B : Nat} (h : UpF F w w') (hF : ∀ b ∈ F, B ≤ b) (hB : B ≤ w.heap.size) : Below B w w' :=
  ⟨h.os, h.tape, h.output, h.size, fun k hk => h.block k (Nat.lt_of_lt_of_le hk hB) (fun hm => by have := hF k hm; omega)⟩

set_option maxRecDepth 100000 in
set_option maxHeartbeats 2000000 in
theorem oSort_walk (t : Sh) (q : Ptr) (w : World) (hq : ShAt w w.heap.size q t) (hg : WGlobs w) (hck : check t = 0) :
    Calls Tryd.prog 19 #[.agg #[.int .i64 t.kind, .string ⟨t.of_.toArray⟩, .string ⟨t.name.toArray⟩, .slice q.A t.names.length q.c, .slice q.P t.parts.length q.d]] w fun e w' => ∃ q', e = .returned (.agg #[.int .i64 (sorted t).kind, .string ⟨(sorted t).of_.toArray⟩, .string ⟨(sorted t).name.toArray⟩, .slice q'.A (sorted t).names.length q'.c, .slice q'.P (sorted t).parts.length q'.d]) ∧ ShAt w' w'.heap.size q' (sorted t) ∧ Below w.heap.size w w' := by
  obtain ⟨hz, _, hr⟩ := check_ok hck
  have HQ := Lib.hid hq
  have HG := Lib.hid hg
  have HR := Lib.hid hr
  have HCK := Lib.hid hck
  have HS := Lib.hid (sW_below w t q)
  have HB := Lib.hid (sW_arg w t q)
  have HE := Lib.hid (sW_res w t q)
  have HCP := Lib.hid (fshape_walk t q (sW w t q) (hq.next (sW_below w t q)) hz hr)
  have HB0 := Lib.hid (box5_new w t q)
  obtain ⟨_, ⟨c0, c1, c2, c3, c4⟩, _⟩ := HB0.out
  clear hq hg hr hck
  go_enter Tryd.func19, Tryd.ntmps19
  go_wp2_with fail
  clear c0 c1 c2 c3 c4 HB0
  change Calls _ _ _ (sW w t q) _
  generalize sW w t q = W at HS HB HE HCP ⊢
  refine HCP.out.mono ?_
  rintro e w1 ⟨q', F, rfl, ho, hnd, hF, hb1⟩
  have HO := Lib.hid ho
  have HND := Lib.hid hnd
  have HF := Lib.hid hF
  have HS1 := Lib.hid (below_next HS.out hb1)
  have HB1 := Lib.hid (HB.out.next hb1)
  have HE1 := Lib.hid (HE.out.next hb1)
  have HLF := Lib.hid ho.lt
  have hbw := below_one w1 (.cells #[.int .i64 t.kind, .string ⟨t.of_.toArray⟩, .string ⟨t.name.toArray⟩, .slice q'.A t.names.length q'.c, .slice q'.P t.parts.length q'.d] 25)
  have HBW := Lib.hid hbw
  have HB2 := Lib.hid (HB1.out.next hbw)
  have HE2 := Lib.hid (HE1.out.next hbw)
  have HT2 := Lib.hid (box5_new w1 t q')
  have HO2 := Lib.hid (own_below ho hbw)
  have HS2 := Lib.hid (below_next HS1.out hbw)
  have hm := mayBe_walk t q _ (HQ.out.next HS2.out) (HG.out.next HS2.out)
  rw [show decide (check t = 0) = true from by rw [HCK.out]; rfl] at hm
  have HM := Lib.hid hm
  obtain ⟨_, ⟨c0, c1, c2, c3, c4⟩, _⟩ := HB2.out
  clear ho hnd hF hb1 hbw hm HCP
  go_wp2_with fail
  refine HM.out.mono ?_
  rintro e w3 ⟨rfl, hb3⟩
  have HS3 := Lib.hid (below_next HS2.out hb3)
  have HE3 := Lib.hid (HE2.out.next hb3)
  have HT3 := Lib.hid (HT2.out.next hb3)
  have HO3 := Lib.hid (own_below HO2.out hb3)
  clear c0 c1 c2 c3 c4
  obtain ⟨_, ⟨c0, c1, c2, c3, c4⟩, _⟩ := HT3.out
  have HW := Lib.hid (sortWithin_walk t q' F w3 HO3.out HND.out HR.out hz)
  have hbl : w1.heap.size + 1 ≤ w3.heap.size := by have := hb3.size; simp at this; exact this
  have HLT := Lib.hid hbl
  clear hb3 HM hbl
  go_wp2_with fail
  refine HW.out.mono ?_
  rintro e w4 ⟨rfl, hu, F', hp, ho⟩
  have HLN := Lib.hid (show w.heap.size + 1 ∉ F from fun hm => by have := HF.out _ hm; have := HE.out.1; omega)
  have HLT2 := Lib.hid (show w1.heap.size ∉ F from fun hm => by have := HLF.out _ hm; omega)
  have HT4 := Lib.hid (HT3.out.same (hu.same HT3.out.1 HLT2.out) hu.size)
  have HE4 := Lib.hid (HE3.out.same (hu.same HE3.out.1 HLN.out) hu.size)
  have HS4 := Lib.hid (HS3.out.trans (hu.toBelow (fun b hb => by have := HF.out b hb; have := HB.out.1; omega) HS3.out.size))
  have HO4 := Lib.hid ho
  have HNF := Lib.hid (show ∀ b ∈ F', w.heap.size + 1 ≠ b from fun b hb e => HLN.out (by rw [e]; exact hp.mem_iff.1 hb))
  clear hu hp ho HW c0 c1 c2 c3 c4
  obtain ⟨_, ⟨c0, c1, c2, c3, c4⟩, _⟩ := HT4.out
  obtain ⟨_, ⟨r0, r1, r2, r3, r4⟩, f0, f1, f2, f3, f4⟩ := HE4.out
  simp only [Nat.zero_add] at c0 c1 c2 c3 c4 r0 r1 r2 r3 r4
  have hne : w1.heap.size ≠ w.heap.size + 1 := fun e => by have := HE1.out.1; omega
  go_wp2
  refine bodyPost_ret (v := .agg #[.int .i64 t.kind, .string ⟨t.of_.toArray⟩, .string ⟨t.name.toArray⟩, .slice q'.A t.names.length q'.c, .slice q'.P t.parts.length q'.d]) (by simp [results, Tryd.results19, go_sem, r0, r1, r2, r3, r4]) rfl ?_
  refine ⟨q', by rw [agg_sorted q' HR.out], ?_, below_put5 HS4.out (by omega) _ _ _ _ _⟩
  have h5 := own_set5 HO4.out HNF.out (.int .i64 t.kind) (.string ⟨t.of_.toArray⟩) (.string ⟨t.name.toArray⟩) (.slice q'.A t.names.length q'.c) (.slice q'.P t.parts.length q'.d)
  exact h5.at_ h5.lt
end Go.Proofs.YtkehnmapnckdgaaDoor
