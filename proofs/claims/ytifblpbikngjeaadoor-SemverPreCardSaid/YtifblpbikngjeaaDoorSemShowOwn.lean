/- The program's Show. -/
import Derived.Test.YtifblpbikngjeaaDoorSemGlob
import Derived.Test.YtifblpbikngjeaaDoorSemCheckOwn2
import Derived.Test.YtifblpbikngjeaaDoorSemShow
import Derived.Deep.RegionHeld3
import Derived.Lib.AppendIntMem
namespace Go.Proofs.YtifblpbikngjeaaDoor
open Go.RowKit
set_option linter.unusedVariables false

theorem dec_eq (n : Nat) : Lib.decDigits n = Sem.dec n := by
  induction n using Nat.strongRecOn with
  | ind n ih =>
    rw [Lib.decDigits, Sem.dec]
    by_cases h : n < 10
    · rw [dif_pos h, dif_pos h]
    · rw [dif_neg h, dif_neg h, ih _ (by omega)]

theorem itoa_walk (n : Nat) (h : n ≤ 999999) (w : World) (hg : Globs w) :
    Calls Tryd.prog 27 #[.int .i64 n] w fun e w' => e = .returned (.string ⟨(Sem.dec n).toArray⟩) ∧ Below w.heap.size w w' := by
  have hi := Any.strconv_Itoa Tryd.laysM171 n (by omega) (by omega) w hg.tab
  rw [Lib.itoa_nonneg, dec_eq] at hi
  refine Calls.mono hi ?_
  rintro e w' ⟨rfl, k, os, rfl⟩
  exact ⟨rfl, Lib.below_grow _ _ (Nat.le_refl _) _ _⟩

theorem itoaI_walk (z : Int) (h0 : 0 ≤ z) (h : z ≤ 999999) (w : World) (hg : Globs w) :
    Calls Tryd.prog 27 #[.int .i64 z] w fun e w' => e = .returned (.string ⟨(Sem.dec z.toNat).toArray⟩) ∧ Below w.heap.size w w' := by
  obtain ⟨n, rfl⟩ := Int.eq_ofNat_of_zero_le h0
  exact itoa_walk n (by omega) w hg

/-- What is held while the numbers are written. -/
theorem heldS_next {w W w' : World} {g : Nat} {a b c : Int} {x : ByteArray} (h : g < W.heap.size ∧ W.cell? ⟨g, 0, none⟩ = some (.int .i64 a) ∧ W.cell? ⟨g, 1, none⟩ = some (.int .i64 b) ∧ W.cell? ⟨g, 2, none⟩ = some (.int .i64 c) ∧ W.cell? ⟨g, 3, none⟩ = some (.string x) ∧ Globs W ∧ Below w.heap.size w W) (hb : Below W.heap.size W w') :
    g < w'.heap.size ∧ w'.cell? ⟨g, 0, none⟩ = some (.int .i64 a) ∧ w'.cell? ⟨g, 1, none⟩ = some (.int .i64 b) ∧ w'.cell? ⟨g, 2, none⟩ = some (.int .i64 c) ∧ w'.cell? ⟨g, 3, none⟩ = some (.string x) ∧ Globs w' ∧ Below w.heap.size w w' := by
  obtain ⟨h0, h1, h2, h3, h4, h5, h6⟩ := h
  exact ⟨Nat.lt_of_lt_of_le h0 hb.size, ((cell_of_below (o := 0) hb h0).1).trans h1, ((cell_of_below (o := 1) hb h0).1).trans h2, ((cell_of_below (o := 2) hb h0).1).trans h3, ((cell_of_below (o := 3) hb h0).1).trans h4, h5.next hb, below_next h6 hb⟩

theorem itoaK_walk (z : Int) (z0 : 0 ≤ z) (z1 : z ≤ 999999) {w W : World} {g : Nat} {a b c : Int} {x : ByteArray} (h : g < W.heap.size ∧ W.cell? ⟨g, 0, none⟩ = some (.int .i64 a) ∧ W.cell? ⟨g, 1, none⟩ = some (.int .i64 b) ∧ W.cell? ⟨g, 2, none⟩ = some (.int .i64 c) ∧ W.cell? ⟨g, 3, none⟩ = some (.string x) ∧ Globs W ∧ Below w.heap.size w W) :
    Calls Tryd.prog 27 #[.int .i64 z] W fun e w' => e = .returned (.string ⟨(Sem.dec z.toNat).toArray⟩) ∧ Below W.heap.size W w' :=
  itoaI_walk z z0 z1 W h.2.2.2.2.2.1

theorem Globs.drew {w : World} (h : Globs w) : Globs w.drew := ⟨h.syn, h.rng, h.tab⟩

theorem heldS_drew {w W : World} {g : Nat} {a b c : Int} {x : ByteArray} (h : g < W.heap.size ∧ W.cell? ⟨g, 0, none⟩ = some (.int .i64 a) ∧ W.cell? ⟨g, 1, none⟩ = some (.int .i64 b) ∧ W.cell? ⟨g, 2, none⟩ = some (.int .i64 c) ∧ W.cell? ⟨g, 3, none⟩ = some (.string x) ∧ Globs W ∧ Below w.heap.size w W) :
    g < W.drew.heap.size ∧ W.drew.cell? ⟨g, 0, none⟩ = some (.int .i64 a) ∧ W.drew.cell? ⟨g, 1, none⟩ = some (.int .i64 b) ∧ W.drew.cell? ⟨g, 2, none⟩ = some (.int .i64 c) ∧ W.drew.cell? ⟨g, 3, none⟩ = some (.string x) ∧ Globs W.drew ∧ Below w.heap.size w W.drew :=
  ⟨h.1, h.2.1, h.2.2.1, h.2.2.2.1, h.2.2.2.2.1, h.2.2.2.2.2.1.drew, h.2.2.2.2.2.2.drew⟩

theorem cat_none (x y z : List UInt8) : (⟨x.toArray⟩ : ByteArray) ++ ⟨#[46]⟩ ++ ⟨y.toArray⟩ ++ ⟨#[46]⟩ ++ ⟨z.toArray⟩ = ⟨(x ++ 46 :: (y ++ 46 :: z)).toArray⟩ := by
  apply ByteArray.ext
  simp [ByteArray.data_append]

theorem cat_some (x y z p : List UInt8) : (⟨(x ++ 46 :: (y ++ 46 :: z)).toArray⟩ : ByteArray) ++ (⟨#[45]⟩ ++ ⟨p.toArray⟩) = ⟨(x ++ 46 :: (y ++ 46 :: (z ++ 45 :: p))).toArray⟩ := by
  apply ByteArray.ext
  simp [ByteArray.data_append]

set_option maxRecDepth 100000 in
set_option maxHeartbeats 4000000 in
theorem show_walk (v : Sem.Ver) (hs : v.pre.length ≤ 140737488351232) (w : World) (hg : Globs w) :
    Calls Tryd.prog 14 #[verV v] w fun e w' => e = .returned (showR v) ∧ Below w.heap.size w w' := by
  cases hm : Sem.may v
  · have HM := Lib.hid hm
    have hc : chk v = 40 := by rw [chk, hm]; rfl
    have HC := Lib.hid hc
    obtain ⟨a, b, c, p⟩ := v
    clear hm hc
    have hv : verV ⟨a, b, c, p⟩ = .agg #[.int .i64 a, .int .i64 b, .int .i64 c, .string ⟨p.toArray⟩] := rfl
    rw [hv]
    clear hv
    go_enter Tryd.func14, Tryd.ntmps14
    go_wp2_with fail
    refine (check_walk ⟨a, b, c, p⟩ hs _).mono ?_
    rintro e w1 ⟨he, hb⟩
    rw [HC.out] at he
    subst he
    go_wp2
    go_ret2
    exact ⟨by rw [showR, HM.out, if_neg (by simp)]; rfl, below_next (below_one _ _) hb⟩
  · have HM := Lib.hid hm
    have hc : chk v = 0 := by rw [chk, hm]; rfl
    have HC := Lib.hid hc
    have hmi := (Sem.may_iff v).1 hm
    obtain ⟨a, b, c, p⟩ := v
    simp only at hmi hs
    obtain ⟨⟨a1, a2⟩, ⟨b1, b2⟩, ⟨c1, c2⟩, hp, _⟩ := hmi
    clear hm hc
    have HS : Hid (showR ⟨a, b, c, p⟩ = .tuple #[.string ⟨(Sem.dec a.toNat ++ 46 :: (Sem.dec b.toNat ++ 46 :: (Sem.dec c.toNat ++ if p = [] then [] else 45 :: p))).toArray⟩, .int .i64 0]) := Lib.hid (by
      rw [showR, HM.out, if_pos rfl]; rfl)
    have la := dec_short (n := a.toNat) (by omega)
    have lb := dec_short (n := b.toNat) (by omega)
    have lc := dec_short (n := c.toNat) (by omega)
    have lp : (⟨p.toArray⟩ : ByteArray).size = p.length := size_list _
    have sa : (⟨(Sem.dec a.toNat).toArray⟩ : ByteArray).size = (Sem.dec a.toNat).length := size_list _
    have sb : (⟨(Sem.dec b.toNat).toArray⟩ : ByteArray).size = (Sem.dec b.toNat).length := size_list _
    have sc : (⟨(Sem.dec c.toNat).toArray⟩ : ByteArray).size = (Sem.dec c.toNat).length := size_list _
    have sd : (⟨#[46]⟩ : ByteArray).size = 1 := rfl
    have n1 : ((⟨(Sem.dec a.toNat).toArray⟩ : ByteArray) ++ ⟨#[46]⟩).size = (Sem.dec a.toNat).length + 1 := by rw [ByteArray.size_append, sa, sd]
    have n2 : ((⟨(Sem.dec a.toNat).toArray⟩ : ByteArray) ++ ⟨#[46]⟩ ++ ⟨(Sem.dec b.toNat).toArray⟩).size = (Sem.dec a.toNat).length + 1 + (Sem.dec b.toNat).length := by rw [ByteArray.size_append, n1, sb]
    have n3 : ((⟨(Sem.dec a.toNat).toArray⟩ : ByteArray) ++ ⟨#[46]⟩ ++ ⟨(Sem.dec b.toNat).toArray⟩ ++ ⟨#[46]⟩).size = (Sem.dec a.toNat).length + 1 + (Sem.dec b.toNat).length + 1 := by rw [ByteArray.size_append, n2, sd]
    have k1 : ∀ W : World, (Op.stringOp .add (⟨(Sem.dec a.toNat).toArray⟩ : ByteArray) ⟨#[46]⟩).run Tryd.prog W = .ok (.string ((⟨(Sem.dec a.toNat).toArray⟩ : ByteArray) ++ ⟨#[46]⟩)) W := fun W => run_string_add_sum _ _ _ (by omega)
    have k2 : ∀ W : World, (Op.stringOp .add ((⟨(Sem.dec a.toNat).toArray⟩ : ByteArray) ++ ⟨#[46]⟩) ⟨(Sem.dec b.toNat).toArray⟩).run Tryd.prog W = .ok (.string ((⟨(Sem.dec a.toNat).toArray⟩ : ByteArray) ++ ⟨#[46]⟩ ++ ⟨(Sem.dec b.toNat).toArray⟩)) W := fun W => run_string_add_sum _ _ _ (by omega)
    have k3 : ∀ W : World, (Op.stringOp .add ((⟨(Sem.dec a.toNat).toArray⟩ : ByteArray) ++ ⟨#[46]⟩ ++ ⟨(Sem.dec b.toNat).toArray⟩) ⟨#[46]⟩).run Tryd.prog W = .ok (.string ((⟨(Sem.dec a.toNat).toArray⟩ : ByteArray) ++ ⟨#[46]⟩ ++ ⟨(Sem.dec b.toNat).toArray⟩ ++ ⟨#[46]⟩)) W := fun W => run_string_add_sum _ _ _ (by omega)
    have k4 : ∀ W : World, (Op.stringOp .add ((⟨(Sem.dec a.toNat).toArray⟩ : ByteArray) ++ ⟨#[46]⟩ ++ ⟨(Sem.dec b.toNat).toArray⟩ ++ ⟨#[46]⟩) ⟨(Sem.dec c.toNat).toArray⟩).run Tryd.prog W = .ok (.string ((⟨(Sem.dec a.toNat).toArray⟩ : ByteArray) ++ ⟨#[46]⟩ ++ ⟨(Sem.dec b.toNat).toArray⟩ ++ ⟨#[46]⟩ ++ ⟨(Sem.dec c.toNat).toArray⟩)) W := fun W => run_string_add_sum _ _ _ (by omega)
    clear n1 n2 n3 sd
    unfold verV
    go_enter Tryd.func14, Tryd.ntmps14
    go_wp2_with fail
    refine (check_walk ⟨a, b, c, p⟩ hs _).mono ?_
    rintro e w1 ⟨he, hb⟩
    rw [HC.out] at he
    subst he
    obtain ⟨h0, g0, g1, g2, g3⟩ := (ver_new w ⟨a, b, c, p⟩).next hb
    have hb1 := below_next (below_one w (Obj.cells #[Value.int IntKind.i64 a, Value.int IntKind.i64 b, Value.int IntKind.i64 c, Value.string ⟨p.toArray⟩] 23)) hb
    have hS0 : w.heap.size < w1.heap.size ∧ w1.cell? ⟨w.heap.size, 0, none⟩ = some (.int .i64 a) ∧ w1.cell? ⟨w.heap.size, 1, none⟩ = some (.int .i64 b) ∧ w1.cell? ⟨w.heap.size, 2, none⟩ = some (.int .i64 c) ∧ w1.cell? ⟨w.heap.size, 3, none⟩ = some (.string ⟨p.toArray⟩) ∧ Globs w1 ∧ Below w.heap.size w w1 := ⟨h0, g0, g1, g2, g3, hg.next hb1, hb1⟩
    simp only at g0 g1 g2 g3
    have hG1 := hS0.2.2.2.2.2.1
    clear hb hb1
    go_wp2_with fail
    go_region_held3 (fun w' => w.heap.size < w'.heap.size ∧ w'.cell? ⟨w.heap.size, 0, none⟩ = some (.int .i64 a) ∧ w'.cell? ⟨w.heap.size, 1, none⟩ = some (.int .i64 b) ∧ w'.cell? ⟨w.heap.size, 2, none⟩ = some (.int .i64 c) ∧ w'.cell? ⟨w.heap.size, 3, none⟩ = some (.string ⟨p.toArray⟩) ∧ Globs w' ∧ Below w.heap.size w w')
      (first | exact heldS_drew hS0 | exact heldS_next (by assumption) (by assumption) | assumption)
      (first | (go_at_call 27; refine Calls.mono (itoaK_walk (w := w) (g := w.heap.size) (a := a) (b := b) (c := c) (x := ⟨p.toArray⟩) a a1 a2 ?_) ?_; (first | exact heldS_drew hS0 | exact hS0 | assumption); rintro e w4 ⟨rfl, hb4⟩) | (go_at_call 27; refine Calls.mono (itoaK_walk (w := w) (g := w.heap.size) (a := a) (b := b) (c := c) (x := ⟨p.toArray⟩) b b1 b2 ?_) ?_; (first | exact heldS_drew hS0 | exact hS0 | assumption); rintro e w5 ⟨rfl, hb5⟩) | (go_at_call 27; refine Calls.mono (itoaK_walk (w := w) (g := w.heap.size) (a := a) (b := b) (c := c) (x := ⟨p.toArray⟩) c c1 c2 ?_) ?_; (first | exact heldS_drew hS0 | exact hS0 | assumption); rintro e w6 ⟨rfl, hb6⟩))
    all_goals (
      have hH : w.heap.size < w6.heap.size ∧ w6.cell? ⟨w.heap.size, 0, none⟩ = some (.int .i64 a) ∧ w6.cell? ⟨w.heap.size, 1, none⟩ = some (.int .i64 b) ∧ w6.cell? ⟨w.heap.size, 2, none⟩ = some (.int .i64 c) ∧ w6.cell? ⟨w.heap.size, 3, none⟩ = some (.string ⟨p.toArray⟩) ∧ Globs w6 ∧ Below w.heap.size w w6 := by assumption
      obtain ⟨_, j0, j1, j2, j3, _, kb⟩ := hH
      clear k1 k2 k3 k4
      rw [cat_none]
      obtain ⟨t, ht⟩ : ∃ t, t = Sem.dec a.toNat ++ 46 :: (Sem.dec b.toNat ++ 46 :: Sem.dec c.toNat) := ⟨_, rfl⟩
      have htl : t.length ≤ 20 := by rw [ht]; simp; omega
      have hts : (⟨t.toArray⟩ : ByteArray).size = t.length := size_list _
      rw [← ht]
      by_cases hz : p = []
      · have he : p.isEmpty = true := by rw [hz]; rfl
        have HF : Hid (showR ⟨a, b, c, p⟩ = .tuple #[.string ⟨t.toArray⟩, .int .i64 0]) := Lib.hid (by rw [HS.out, if_pos hz, List.append_nil, ht])
        clear ht hz
        go_wp2
        go_ret2
        exact ⟨by rw [HF.out]; rfl, kb⟩
      · have he : p.isEmpty = false := by simpa using hz
        have HF : Hid (showR ⟨a, b, c, p⟩ = .tuple #[.string (⟨t.toArray⟩ ++ (⟨#[45]⟩ ++ ⟨p.toArray⟩)), .int .i64 0]) := Lib.hid (by
          rw [HS.out, if_neg hz, ht, cat_some])
        clear ht hz
        go_wp2
        go_ret2
        exact ⟨by rw [HF.out]; rfl, kb⟩)
end Go.Proofs.YtifblpbikngjeaaDoor
