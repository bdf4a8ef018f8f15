/- SemGlob, SemShowOwn, SemSplit, SemPieces, SemAtoi, SemParseOwn, together. -/
import Derived.Test.YtebphmkefpaeaaaGreatDoorGSemA
import Derived.Test.YtebphmkefpaeaaaGreatDoorGSemB
import Derived.Lib.LaidTab
import Derived.Lib.ItoaNum
import Derived.LaidLaws
import Derived.WalkSmall
import Derived.MakeChecks
import Derived.Deep.RegionHeld3
import Derived.Lib.AppendIntMem
import Derived.Lib.Split
import Derived.Deep.OwnRows
import Derived.Test.YtebphmkefpaeaaaGreatDoorGPure
import Derived.Lib.AtoiAllCases
/- What the package-level variables hold that the library's number texts read: the two errors, the table of powers of ten. -/
namespace Go.Proofs.YtebphmkefpaeaaaGreatDoor
open Go.RowKit
set_option linter.unusedVariables false

/-- The variables hold what the program's text lays. -/
structure Globs (w : World) : Prop where
  syn : ∃ te pe, w.cell? ⟨1, 0, none⟩ = some (.iface te pe)
  rng : ∃ te pe, w.cell? ⟨2, 0, none⟩ = some (.iface te pe)
  tab : Lib.TabIs Tryz.prog w "internal/strconv.uint64pow10" .u64 Lib.pow10Tab

theorem pow10_at : Tryz.prog.globalNamed "internal/strconv.uint64pow10" = some 5 := by kernel_rfl

theorem Globs.next {w w' : World} (h : Globs w) (hb : Below w.heap.size w w') : Globs w' := by
  obtain ⟨⟨te, pe, h1⟩, ⟨te', pe', h2⟩, h3⟩ := h
  have l1 := Lib.lt_of_cell h1
  have l2 := Lib.lt_of_cell h2
  have l3 := Lib.lt_of_cell (Lib.TabIs.cell h3 pow10_at 0 (by rw [Lib.pow10Tab_length]; omega))
  exact ⟨⟨te, pe, (hb.cell (p := ⟨1, 0, none⟩) l1).trans h1⟩, ⟨te', pe', (hb.cell (p := ⟨2, 0, none⟩) l2).trans h2⟩, var?_below hb pow10_at l3 h3⟩

theorem laidVars_mem {P : Program} {w : World} : ∀ {l : List (String × DataW Unit)} {ps : List MemPlace}, DataW.LaidVars P w l ps → ∀ x ∈ l,
    ∃ g t cs fuel p, P.globalNamed x.1 = some g ∧ (P.globals[g]?).map (·.type) = some t ∧ w.var? P x.1 = some cs ∧ DataW.trod (fun _ => ()) P w 0 (fun _ => true) false fuel t cs.toList = some (x.2, p)
  | [], _, _, x, hx => by simp at hx
  | (n, d) :: r, ps, h, x, hx => by
    obtain ⟨g, t, cs, fuel, p, q, h1, h2, h3, h4, h5, _⟩ := h
    rcases List.mem_cons.1 hx with rfl | hx
    · exact ⟨g, t, cs, fuel, p, h1, h2, h3, h4⟩
    · exact laidVars_mem h5 x hx

theorem err_cell {w : World} {n : String} {g : Nat} {d : DataW Unit} {nm : String} {cs : Array Value} {fuel : Nat} {p : List MemPlace} {g' t : Nat}
    (hg : Tryz.prog.globalNamed n = some g) (ht : (Tryz.prog.globals[g]?).map (·.type) = some 60)
    (h1 : Tryz.prog.globalNamed n = some g') (h2 : (Tryz.prog.globals[g']?).map (·.type) = some t) (h3 : w.var? Tryz.prog n = some cs) (h4 : DataW.trod (fun _ => ()) Tryz.prog w 0 (fun _ => true) false fuel t cs.toList = some (.iface nm d, p)) :
    ∃ te pe, w.cell? ⟨g, 0, none⟩ = some (.iface te pe) := by
  obtain rfl := Option.some.inj (hg.symm.trans h1)
  obtain rfl := Option.some.inj (ht.symm.trans h2)
  obtain ⟨_, u, v, hcs, _, _⟩ := iface_of_trod Tryz.underlying60 h4
  have h5 := World.var?_cell hg h3 0
  refine ⟨u, v, h5.trans ?_⟩
  have e : cs = #[.iface u v] := by
    apply Array.ext'
    simpa using hcs
  rw [e]; rfl

theorem globs_of {L : List (String × DataW Unit)} {W : World} (h : laidMet Tryz.prog L W) (m1 : ("strconv.ErrSyntax", Rows.laid_strconv_ErrSyntax) ∈ L) (m2 : ("strconv.ErrRange", Rows.laid_strconv_ErrRange) ∈ L)
    (m3 : ("internal/strconv.uint64pow10", Rows.laid_internal_strconv_uint64pow10) ∈ L) : Globs W := by
  obtain ⟨ps, hv, _, _⟩ := h
  obtain ⟨g1, t1, cs1, f1, p1, a1, b1, c1, d1⟩ := laidVars_mem hv _ m1
  obtain ⟨g2, t2, cs2, f2, p2, a2, b2, c2, d2⟩ := laidVars_mem hv _ m2
  obtain ⟨g3, t3, cs3, f3, p3, a3, b3, c3, d3⟩ := laidVars_mem hv _ m3
  refine ⟨err_cell (by kernel_rfl) (by kernel_rfl) a1 b1 c1 d1, err_cell (by kernel_rfl) (by kernel_rfl) a2 b2 c2 d2, ?_⟩
  obtain rfl := Option.some.inj (pow10_at.symm.trans a3)
  have ht : (Tryz.prog.globals[5]?).map (·.type) = some 146 := by kernel_rfl
  obtain rfl := Option.some.inj (ht.symm.trans b3)
  unfold Lib.TabIs
  rw [c3]
  have e : (Rows.laid_internal_strconv_uint64pow10 : DataW Unit) = Lib.tabData .u64 Lib.pow10Tab := by kernel_rfl
  have d3' : DataW.trod (fun _ => ()) Tryz.prog W 0 (fun _ => true) false f3 146 cs3.toList = some (Lib.tabData .u64 Lib.pow10Tab, p3) := by rw [← e]; exact d3
  have hc := Lib.cells_of_tab (n := 20) Tryz.underlying146 Tryz.underlying124 (by kernel_rfl) (by kernel_rfl) d3'
  rw [← hc]
end Go.Proofs.YtebphmkefpaeaaaGreatDoor

/- The program's Show. -/
namespace Go.Proofs.YtebphmkefpaeaaaGreatDoor
open Go.RowKit
set_option linter.unusedVariables false

theorem dec_eq (n : Nat) : Lib.decDigits n = Sem.dec n := by
  induction n using Nat.strongRecOn with
  | ind n ih =>
    rw [Lib.decDigits, Sem.dec]
    by_cases h : n < 10
    · rw [dif_pos h, dif_pos h]
    · rw [dif_neg h, dif_neg h, ih _ (by omega)]

theorem itoa_walk (n : Nat) (h : n ≤ 999999) (w : World) (hg : Globs w) :
    Calls Tryz.prog 103 #[.int .i64 n] w fun e w' => e = .returned (.string ⟨(Sem.dec n).toArray⟩) ∧ Below w.heap.size w w' := by
  have hi := Any.strconv_Itoa Tryz.laysM171 n (by omega) (by omega) w hg.tab
  rw [Lib.itoa_nonneg, dec_eq] at hi
  refine Calls.mono hi ?_
  rintro e w' ⟨rfl, k, os, rfl⟩
  exact ⟨rfl, Lib.below_grow _ _ (Nat.le_refl _) _ _⟩

theorem itoaI_walk (z : Int) (h0 : 0 ≤ z) (h : z ≤ 999999) (w : World) (hg : Globs w) :
    Calls Tryz.prog 103 #[.int .i64 z] w fun e w' => e = .returned (.string ⟨(Sem.dec z.toNat).toArray⟩) ∧ Below w.heap.size w w' := by
  obtain ⟨n, rfl⟩ := Int.eq_ofNat_of_zero_le h0
  exact itoa_walk n (by omega) w hg

/-- What is held while the numbers are written. -/
theorem heldS_next {w W w' : World} {g : Nat} {a b c : Int} {x : ByteArray} (h : g < W.heap.size ∧ W.cell? ⟨g, 0, none⟩ = some (.int .i64 a) ∧ W.cell? ⟨g, 1, none⟩ = some (.int .i64 b) ∧ W.cell? ⟨g, 2, none⟩ = some (.int .i64 c) ∧ W.cell? ⟨g, 3, none⟩ = some (.string x) ∧ Globs W ∧ Below w.heap.size w W) (hb : Below W.heap.size W w') :
    g < w'.heap.size ∧ w'.cell? ⟨g, 0, none⟩ = some (.int .i64 a) ∧ w'.cell? ⟨g, 1, none⟩ = some (.int .i64 b) ∧ w'.cell? ⟨g, 2, none⟩ = some (.int .i64 c) ∧ w'.cell? ⟨g, 3, none⟩ = some (.string x) ∧ Globs w' ∧ Below w.heap.size w w' := by
  obtain ⟨h0, h1, h2, h3, h4, h5, h6⟩ := h
  exact ⟨Nat.lt_of_lt_of_le h0 hb.size, ((cell_of_below (o := 0) hb h0).1).trans h1, ((cell_of_below (o := 1) hb h0).1).trans h2, ((cell_of_below (o := 2) hb h0).1).trans h3, ((cell_of_below (o := 3) hb h0).1).trans h4, h5.next hb, below_next h6 hb⟩

theorem itoaK_walk (z : Int) (z0 : 0 ≤ z) (z1 : z ≤ 999999) {w W : World} {g : Nat} {a b c : Int} {x : ByteArray} (h : g < W.heap.size ∧ W.cell? ⟨g, 0, none⟩ = some (.int .i64 a) ∧ W.cell? ⟨g, 1, none⟩ = some (.int .i64 b) ∧ W.cell? ⟨g, 2, none⟩ = some (.int .i64 c) ∧ W.cell? ⟨g, 3, none⟩ = some (.string x) ∧ Globs W ∧ Below w.heap.size w W) :
    Calls Tryz.prog 103 #[.int .i64 z] W fun e w' => e = .returned (.string ⟨(Sem.dec z.toNat).toArray⟩) ∧ Below W.heap.size W w' :=
  itoaI_walk z z0 z1 W h.2.2.2.2.2.1

theorem Globs.drew {w : World} (h : Globs w) : Globs w.drew := ⟨h.syn, h.rng, h.tab⟩

theorem heldS_drew {w W : World} {g : Nat} {a b c : Int} {x : ByteArray} (h : g < W.heap.size ∧ W.cell? ⟨g, 0, none⟩ = some (.int .i64 a) ∧ W.cell? ⟨g, 1, none⟩ = some (.int .i64 b) ∧ W.cell? ⟨g, 2, none⟩ = some (.int .i64 c) ∧ W.cell? ⟨g, 3, none⟩ = some (.string x) ∧ Globs W ∧ Below w.heap.size w W) :
    g < W.drew.heap.size ∧ W.drew.cell? ⟨g, 0, none⟩ = some (.int .i64 a) ∧ W.drew.cell? ⟨g, 1, none⟩ = some (.int .i64 b) ∧ W.drew.cell? ⟨g, 2, none⟩ = some (.int .i64 c) ∧ W.drew.cell? ⟨g, 3, none⟩ = some (.string x) ∧ Globs W.drew ∧ Below w.heap.size w W.drew :=
  ⟨h.1, h.2.1, h.2.2.1, h.2.2.2.1, h.2.2.2.2.1, h.2.2.2.2.2.1.drew, h.2.2.2.2.2.2.drew⟩

theorem cat_none (x y z : List UInt8) : (⟨x.toArray⟩ : ByteArray) ++ ⟨#[46]⟩ ++ ⟨y.toArray⟩ ++ ⟨#[46]⟩ ++ ⟨z.toArray⟩ = ⟨(x ++ 46 :: (y ++ 46 :: z)).toArray⟩ := by
  apply ByteArray.ext
  simp [ByteArray.data_append]

theorem cat_some (x y z p : List UInt8) : (⟨(x ++ 46 :: (y ++ 46 :: z)).toArray⟩ : ByteArray) ++ (⟨#[45]⟩ ++ ⟨p.toArray⟩) = ⟨(x ++ 46 :: (y ++ 46 :: (z ++ 45 :: p))).toArray⟩ := by
  apply ByteArray.ext
  simp [ByteArray.data_append]

set_option maxRecDepth 100000 in
set_option maxHeartbeats 4000000 in
theorem show_walk (v : Sem.Ver) (hs : v.pre.length ≤ 140737488351232) (w : World) (hg : Globs w) :
    Calls Tryz.prog 97 #[verV v] w fun e w' => e = .returned (showR v) ∧ Below w.heap.size w w' := by
  cases hm : Sem.may v
  · have HM := Lib.hid hm
    have hc : chk v = 40 := by rw [chk, hm]; rfl
    have HC := Lib.hid hc
    obtain ⟨a, b, c, p⟩ := v
    clear hm hc
    have hv : verV ⟨a, b, c, p⟩ = .agg #[.int .i64 a, .int .i64 b, .int .i64 c, .string ⟨p.toArray⟩] := rfl
    rw [hv]
    clear hv
    go_enter Tryz.func97, Tryz.ntmps97
    go_wp2_with fail
    refine (check_walk ⟨a, b, c, p⟩ (Nat.le_trans hs (by decide)) _).mono ?_
    rintro e w1 ⟨he, hb⟩
    rw [HC.out] at he
    subst he
    go_wp2
    go_ret2
    exact ⟨by rw [showR, HM.out, if_neg (by simp)]; rfl, below_next (below_one _ _) hb⟩
  · have HM := Lib.hid hm
    have hc : chk v = 0 := by rw [chk, hm]; rfl
    have HC := Lib.hid hc
    have hmi := (Sem.may_iff v).1 hm
    obtain ⟨a, b, c, p⟩ := v
    simp only at hmi hs
    obtain ⟨⟨a1, a2⟩, ⟨b1, b2⟩, ⟨c1, c2⟩, hp, _⟩ := hmi
    clear hm hc
    have HS : Hid (showR ⟨a, b, c, p⟩ = .tuple #[.string ⟨(Sem.dec a.toNat ++ 46 :: (Sem.dec b.toNat ++ 46 :: (Sem.dec c.toNat ++ if p = [] then [] else 45 :: p))).toArray⟩, .int .i64 0]) := Lib.hid (by
      rw [showR, HM.out, if_pos rfl]; rfl)
    have la := dec_short (n := a.toNat) (by omega)
    have lb := dec_short (n := b.toNat) (by omega)
    have lc := dec_short (n := c.toNat) (by omega)
    have lp : (⟨p.toArray⟩ : ByteArray).size = p.length := size_list _
    have sa : (⟨(Sem.dec a.toNat).toArray⟩ : ByteArray).size = (Sem.dec a.toNat).length := size_list _
    have sb : (⟨(Sem.dec b.toNat).toArray⟩ : ByteArray).size = (Sem.dec b.toNat).length := size_list _
    have sc : (⟨(Sem.dec c.toNat).toArray⟩ : ByteArray).size = (Sem.dec c.toNat).length := size_list _
    have sd : (⟨#[46]⟩ : ByteArray).size = 1 := rfl
    have n1 : ((⟨(Sem.dec a.toNat).toArray⟩ : ByteArray) ++ ⟨#[46]⟩).size = (Sem.dec a.toNat).length + 1 := by rw [ByteArray.size_append, sa, sd]
    have n2 : ((⟨(Sem.dec a.toNat).toArray⟩ : ByteArray) ++ ⟨#[46]⟩ ++ ⟨(Sem.dec b.toNat).toArray⟩).size = (Sem.dec a.toNat).length + 1 + (Sem.dec b.toNat).length := by rw [ByteArray.size_append, n1, sb]
    have n3 : ((⟨(Sem.dec a.toNat).toArray⟩ : ByteArray) ++ ⟨#[46]⟩ ++ ⟨(Sem.dec b.toNat).toArray⟩ ++ ⟨#[46]⟩).size = (Sem.dec a.toNat).length + 1 + (Sem.dec b.toNat).length + 1 := by rw [ByteArray.size_append, n2, sd]
    have k1 : ∀ W : World, (Op.stringOp .add (⟨(Sem.dec a.toNat).toArray⟩ : ByteArray) ⟨#[46]⟩).run Tryz.prog W = .ok (.string ((⟨(Sem.dec a.toNat).toArray⟩ : ByteArray) ++ ⟨#[46]⟩)) W := fun W => run_string_add_sum _ _ _ (by omega)
    have k2 : ∀ W : World, (Op.stringOp .add ((⟨(Sem.dec a.toNat).toArray⟩ : ByteArray) ++ ⟨#[46]⟩) ⟨(Sem.dec b.toNat).toArray⟩).run Tryz.prog W = .ok (.string ((⟨(Sem.dec a.toNat).toArray⟩ : ByteArray) ++ ⟨#[46]⟩ ++ ⟨(Sem.dec b.toNat).toArray⟩)) W := fun W => run_string_add_sum _ _ _ (by omega)
    have k3 : ∀ W : World, (Op.stringOp .add ((⟨(Sem.dec a.toNat).toArray⟩ : ByteArray) ++ ⟨#[46]⟩ ++ ⟨(Sem.dec b.toNat).toArray⟩) ⟨#[46]⟩).run Tryz.prog W = .ok (.string ((⟨(Sem.dec a.toNat).toArray⟩ : ByteArray) ++ ⟨#[46]⟩ ++ ⟨(Sem.dec b.toNat).toArray⟩ ++ ⟨#[46]⟩)) W := fun W => run_string_add_sum _ _ _ (by omega)
    have k4 : ∀ W : World, (Op.stringOp .add ((⟨(Sem.dec a.toNat).toArray⟩ : ByteArray) ++ ⟨#[46]⟩ ++ ⟨(Sem.dec b.toNat).toArray⟩ ++ ⟨#[46]⟩) ⟨(Sem.dec c.toNat).toArray⟩).run Tryz.prog W = .ok (.string ((⟨(Sem.dec a.toNat).toArray⟩ : ByteArray) ++ ⟨#[46]⟩ ++ ⟨(Sem.dec b.toNat).toArray⟩ ++ ⟨#[46]⟩ ++ ⟨(Sem.dec c.toNat).toArray⟩)) W := fun W => run_string_add_sum _ _ _ (by omega)
    clear n1 n2 n3 sd
    unfold verV
    go_enter Tryz.func97, Tryz.ntmps97
    go_wp2_with fail
    refine (check_walk ⟨a, b, c, p⟩ (Nat.le_trans hs (by decide)) _).mono ?_
    rintro e w1 ⟨he, hb⟩
    rw [HC.out] at he
    subst he
    obtain ⟨h0, g0, g1, g2, g3⟩ := (ver_new w ⟨a, b, c, p⟩).next hb
    have hb1 := below_next (below_one w (Obj.cells #[Value.int IntKind.i64 a, Value.int IntKind.i64 b, Value.int IntKind.i64 c, Value.string ⟨p.toArray⟩] 70)) hb
    have hS0 : w.heap.size < w1.heap.size ∧ w1.cell? ⟨w.heap.size, 0, none⟩ = some (.int .i64 a) ∧ w1.cell? ⟨w.heap.size, 1, none⟩ = some (.int .i64 b) ∧ w1.cell? ⟨w.heap.size, 2, none⟩ = some (.int .i64 c) ∧ w1.cell? ⟨w.heap.size, 3, none⟩ = some (.string ⟨p.toArray⟩) ∧ Globs w1 ∧ Below w.heap.size w w1 := ⟨h0, g0, g1, g2, g3, hg.next hb1, hb1⟩
    simp only at g0 g1 g2 g3
    have hG1 := hS0.2.2.2.2.2.1
    clear hb hb1
    go_wp2_with fail
    go_region_held3 (fun w' => w.heap.size < w'.heap.size ∧ w'.cell? ⟨w.heap.size, 0, none⟩ = some (.int .i64 a) ∧ w'.cell? ⟨w.heap.size, 1, none⟩ = some (.int .i64 b) ∧ w'.cell? ⟨w.heap.size, 2, none⟩ = some (.int .i64 c) ∧ w'.cell? ⟨w.heap.size, 3, none⟩ = some (.string ⟨p.toArray⟩) ∧ Globs w' ∧ Below w.heap.size w w')
      (first | exact heldS_drew hS0 | exact heldS_next (by assumption) (by assumption) | assumption)
      (first | (go_at_call 103; refine Calls.mono (itoaK_walk (w := w) (g := w.heap.size) (a := a) (b := b) (c := c) (x := ⟨p.toArray⟩) a a1 a2 ?_) ?_; (first | exact heldS_drew hS0 | exact hS0 | assumption); rintro e w4 ⟨rfl, hb4⟩) | (go_at_call 103; refine Calls.mono (itoaK_walk (w := w) (g := w.heap.size) (a := a) (b := b) (c := c) (x := ⟨p.toArray⟩) b b1 b2 ?_) ?_; (first | exact heldS_drew hS0 | exact hS0 | assumption); rintro e w5 ⟨rfl, hb5⟩) | (go_at_call 103; refine Calls.mono (itoaK_walk (w := w) (g := w.heap.size) (a := a) (b := b) (c := c) (x := ⟨p.toArray⟩) c c1 c2 ?_) ?_; (first | exact heldS_drew hS0 | exact hS0 | assumption); rintro e w6 ⟨rfl, hb6⟩))
    all_goals (
      have hH : w.heap.size < w6.heap.size ∧ w6.cell? ⟨w.heap.size, 0, none⟩ = some (.int .i64 a) ∧ w6.cell? ⟨w.heap.size, 1, none⟩ = some (.int .i64 b) ∧ w6.cell? ⟨w.heap.size, 2, none⟩ = some (.int .i64 c) ∧ w6.cell? ⟨w.heap.size, 3, none⟩ = some (.string ⟨p.toArray⟩) ∧ Globs w6 ∧ Below w.heap.size w w6 := by assumption
      obtain ⟨_, j0, j1, j2, j3, _, kb⟩ := hH
      clear k1 k2 k3 k4
      rw [cat_none]
      obtain ⟨t, ht⟩ : ∃ t, t = Sem.dec a.toNat ++ 46 :: (Sem.dec b.toNat ++ 46 :: Sem.dec c.toNat) := ⟨_, rfl⟩
      have htl : t.length ≤ 20 := by rw [ht]; simp; omega
      have hts : (⟨t.toArray⟩ : ByteArray).size = t.length := size_list _
      rw [← ht]
      by_cases hz : p = []
      · have he : p.isEmpty = true := by rw [hz]; rfl
        have HF : Hid (showR ⟨a, b, c, p⟩ = .tuple #[.string ⟨t.toArray⟩, .int .i64 0]) := Lib.hid (by rw [HS.out, if_pos hz, List.append_nil, ht])
        clear ht hz
        go_wp2
        go_ret2
        exact ⟨by rw [HF.out]; rfl, kb⟩
      · have he : p.isEmpty = false := by simpa using hz
        have HF : Hid (showR ⟨a, b, c, p⟩ = .tuple #[.string (⟨t.toArray⟩ ++ (⟨#[45]⟩ ++ ⟨p.toArray⟩)), .int .i64 0]) := Lib.hid (by
          rw [HS.out, if_neg hz, ht, cat_some])
        clear ht hz
        go_wp2
        go_ret2
        exact ⟨by rw [HF.out]; rfl, kb⟩)
end Go.Proofs.YtebphmkefpaeaaaGreatDoor

/- strings.SplitN at a dot, in four pieces at most, for every text. -/
namespace Sem

/-- Cut at the first k dots at most. -/
def split : Nat → List UInt8 → List (List UInt8)
  | 0, l => [l]
  | k + 1, l => if (cut 46 l).2.2 = true then (cut 46 l).1 :: split k (cut 46 l).2.1 else [l]

theorem split_miss {k : Nat} {l : List UInt8} (h : (cut 46 l).2.2 = false) : split k l = [l] := by
  cases k with
  | zero => rfl
  | succ k => rw [split, if_neg (by rw [h]; simp)]

theorem split_hit {k : Nat} {l p q : List UInt8} (h : cut 46 l = (p, q, true)) : split (k + 1) l = p :: split k q := by
  rw [split, h, if_pos rfl]

theorem split_len : ∀ (k : Nat) (l : List UInt8), (split k l).length ≤ k + 1
  | 0, l => by simp [split]
  | k + 1, l => by
    rw [split]
    split
    · have := split_len k (cut 46 l).2.1
      simp only [List.length_cons]; omega
    · simp

theorem split_short : ∀ (k : Nat) (l : List UInt8), ∀ p ∈ split k l, p.length ≤ l.length
  | 0, l, p, hp => by simp [split] at hp; rw [hp]; omega
  | k + 1, l, p, hp => by
    rw [split] at hp
    split at hp
    · obtain ⟨h1, h2, _⟩ := cut_len 46 l
      rcases List.mem_cons.1 hp with rfl | hp
      · exact h1
      · exact Nat.le_trans (split_short k _ p hp) h2
    · simp at hp; rw [hp]; omega
end Sem

namespace Go.Proofs.YtebphmkefpaeaaaGreatDoor
open Go.RowKit
set_option linter.unusedVariables false

theorem string_info : (Tryz.prog.info? 9).map (fun i => (i.zero, i.size, i.bytes)) = some (some (.string ByteArray.empty), 1, 16) := by kernel_rfl

set_option maxHeartbeats 4000000 in
set_option maxRecDepth 1000000 in
theorem genSplit_walk (s : List UInt8) (hs : s.length ≤ 4611686018427387904) (N : Nat) (hN : (N : Int) = min 4 ((s.length : Int) + 1)) (w : World) :
    Calls Tryz.prog 99 #[.string ⟨s.toArray⟩, .string ⟨#[46]⟩, .int .i64 0, .int .i64 4] w fun e w' =>
      e = .returned (.slice (some ⟨w.heap.size, 0, none⟩) (Sem.split (N - 1) s).length N) ∧ w' = w.alloc (.cells (Lib.cellsOf (strs (Sem.split (N - 1) s)) N) 9) := by
  have hsz : (⟨s.toArray⟩ : ByteArray).size = s.length := size_list _
  have eN : min (4 : Int) ((s.length : Int) + 1) = (N : Int) := hN.symm
  have hNs : (N : Int) ≤ (s.length : Int) + 1 := by rw [hN]; exact Int.min_le_right _ _
  have hN4 : (N : Int) ≤ 4 := by rw [hN]; exact Int.min_le_left _ _
  have hN1 : (1 : Int) ≤ (N : Int) := by rw [hN]; exact Int.le_min.2 ⟨by omega, by omega⟩
  have hmk := run_make_row' (P := Tryz.prog) 40 9 (.string ByteArray.empty) 16 Tryz.underlying40 string_info rfl .i64 .i64 N (by omega) (by omega)
  clear hN
  go_enter Tryz.func99, Tryz.ntmps99
  go_wp2_with fail
  clear hmk
  go_loopw [0, 10] (fun a i wr => ∃ (done : List (List UInt8)) (rest : List UInt8), a = .string ⟨rest.toArray⟩ ∧ i = .int .i64 done.length ∧ done.length ≤ N - 1 ∧ rest.length ≤ s.length ∧
      wr = w.alloc (.cells (Lib.cellsOf (strs done) N) 9) ∧ Hid (done ++ Sem.split (N - 1 - done.length) rest = Sem.split (N - 1) s))
    (fun _ i _ => N - (intOf i).toNat)
  case atStart => exact ⟨[], s, rfl, rfl, Nat.zero_le _, Nat.le_refl _, by rw [show strs [] = [] from rfl, Lib.cellsOf_nil], Lib.hid (by simp)⟩
  case round =>
    obtain ⟨done, rest, rfl, rfl, hd, hr, rfl, HP⟩ := hrel
    have hsl : (strs done).length = done.length := by simp [strs]
    have hnext : (Lib.cellsOf (strs done) N)[done.length]? = some (.string ByteArray.empty) := by rw [← hsl]; exact Lib.cellsOf_next (by omega)
    have fin : ∀ x : List UInt8, Sem.split (N - 1 - done.length) rest = [x] → (Sem.split (N - 1) s).length = done.length + 1 ∧ (Lib.cellsOf (strs done) N).setIfInBounds done.length (.string ⟨x.toArray⟩) = Lib.cellsOf (strs (Sem.split (N - 1) s)) N := fun x h => by
      rw [← HP.out, h]
      refine ⟨by simp, ?_⟩
      have := Lib.cellsOf_set (done := strs done) (N := N) (by omega) ⟨x.toArray⟩
      rw [hsl] at this
      rw [this]; simp [strs]
    have hrs : (⟨rest.toArray⟩ : ByteArray).size = rest.length := size_list _
    by_cases hlt : done.length < N - 1
    · have hltz : ((done.length : Nat) : Int) < (N : Int) - 1 := by omega
      have hI := fun w => index_dot_walk rest w
      rcases index_dot rest with ⟨hi, hc⟩ | ⟨i, hi, hil, hc⟩
      · rw [hi] at hI
        obtain ⟨f1, f2⟩ := fin rest (Sem.split_miss hc)
        have F1 := Lib.hid f1
        have F2 := Lib.hid f2
        clear hi hc fin f1 f2
        go_wp2_with (go_at_call 106; refine (hI _).mono ?_; rintro e w' ⟨rfl, hw⟩; rw [hw])
        go_ret
        rw [F1.out, ← F2.out]
        exact ⟨rfl, rfl⟩
      · rw [hi] at hI
        have HN : Hid ((done ++ [rest.take i]) ++ Sem.split (N - 1 - (done.length + 1)) (rest.drop (i + 1)) = Sem.split (N - 1) s) := Lib.hid (by
          rw [← HP.out, show N - 1 - done.length = (N - 1 - (done.length + 1)) + 1 from by omega, Sem.split_hit hc]; simp)
        have ex : (⟨rest.toArray⟩ : ByteArray).extract 0 i = ⟨(rest.take i).toArray⟩ := by
          have := ByteArray.extract_mk rest 0 i
          simpa using this
        have hset : (Lib.cellsOf (strs done) N).setIfInBounds done.length (.string ⟨(rest.take i).toArray⟩) = Lib.cellsOf (strs (done ++ [rest.take i])) N := by
          have := Lib.cellsOf_set (done := strs done) (N := N) (by omega) ⟨(rest.take i).toArray⟩
          rw [hsl] at this
          rw [this]; simp [strs]
        have hw1 : IntKind.i64.wrap ((i : Int) + 1) = (i : Int) + 1 := IntWalk.i64_in _ (by omega)
        have hw0 : IntKind.i64.wrap ((i : Int) + 0) = (i : Int) + 0 := IntWalk.i64_in _ (by omega)
        have hsp : ∀ W, (Instr.slice 9 (.string ⟨rest.toArray⟩) (some (.int .i64 ((i : Int) + 1))) none none).run Tryz.prog W = .ok (.string ⟨(rest.drop (i + 1)).toArray⟩) W := fun W => by
          have h := slice_from ⟨rest.toArray⟩ (i + 1) (by rw [hrs]; omega) W
          exact h
        have HS := Lib.hid hset
        clear hi hc fin hset
        go_wp2_with (go_at_call 106; refine (hI _).mono ?_; rintro e w' ⟨rfl, hw⟩; rw [hw])
        go_roundw
        case rel => exact ⟨done ++ [rest.take i], rest.drop (i + 1), rfl, by simp, by simp; omega, by rw [List.length_drop]; omega, by rw [← HS.out], by rw [List.length_append]; exact HN⟩
        case measure => simp [intOf]; omega
    · have hltz : ¬ (((done.length : Nat) : Int) < (N : Int) - 1) := by omega
      obtain ⟨f1, f2⟩ := fin rest (by rw [show N - 1 - done.length = 0 from by omega]; rfl)
      have F1 := Lib.hid f1
      have F2 := Lib.hid f2
      clear fin f1 f2
      go_wp2
      go_ret
      rw [F1.out, ← F2.out]
      exact ⟨rfl, rfl⟩

theorem strs_cells (w : World) (ps : List (List UInt8)) (N : Nat) : Strs (w.alloc (.cells (Lib.cellsOf (strs ps) N) 9)) (w.alloc (.cells (Lib.cellsOf (strs ps) N) 9)).heap.size (some ⟨w.heap.size, 0, none⟩) (strs ps) := by
  refine Or.inr ⟨w.heap.size, 0, rfl, by simp, fun i hi => ?_⟩
  have h1 : (Lib.cellsOf (strs ps) N)[i]? = some (.string ((strs ps)[i]'hi)) := by
    unfold Lib.cellsOf
    simp [List.getElem?_append_left, hi]
  rw [Nat.zero_add]
  simp [go_sem, h1]

set_option maxRecDepth 100000 in
theorem splitN_walk (s : List UInt8) (hs : s.length ≤ 4611686018427387904) (w : World) :
    Calls Tryz.prog 95 #[.string ⟨s.toArray⟩, .string ⟨#[46]⟩, .int .i64 4] w fun e w' => ∃ g N, e = .returned (.slice (some ⟨g, 0, none⟩) (Sem.split (min 3 s.length) s).length N) ∧
      Strs w' w'.heap.size (some ⟨g, 0, none⟩) (strs (Sem.split (min 3 s.length) s)) ∧ Below w.heap.size w w' := by
  have hg := genSplit_walk s hs (min 4 (s.length + 1)) (by omega)
  rw [show min 4 (s.length + 1) - 1 = min 3 s.length from by omega] at hg
  go_enter Tryz.func95, Tryz.ntmps95
  go_wp2_with fail
  refine (hg _).mono ?_
  rintro e w' ⟨rfl, hw⟩
  have hS := strs_cells w (Sem.split (min 3 s.length) s) (min 4 (s.length + 1))
  rw [← hw] at hS
  have hB : Below w.heap.size w w' := by rw [hw]; exact below_one _ _
  clear hw
  go_wp2
  go_ret
  exact ⟨_, _, rfl, hS, hB⟩
end Go.Proofs.YtebphmkefpaeaaaGreatDoor

/- Mathematics of layer 4: a version's text, cut in its pieces, and read as the library reads numbers. -/
namespace Sem

theorem num_snoc (l : List UInt8) (c : UInt8) : num (l ++ [c]) = 10 * num l + (c.toNat - 48) := by
  unfold num; rw [List.foldl_append]; rfl

theorem num_dec : ∀ n : Nat, num (dec n) = n := by
  intro n
  induction n using Nat.strongRecOn with
  | ind n ih =>
    by_cases h : n < 10
    · rw [dec_small h]
      simp [num]; omega
    · have e : (UInt8.ofNat (48 + n % 10)).toNat = 48 + n % 10 := by simp; omega
      rw [dec_big h, num_snoc, ih _ (by omega), e]
      omega

theorem parse10 : ∀ (l : List UInt8) (acc : Nat), (∀ c ∈ l, 48 ≤ c.toNat ∧ c.toNat ≤ 57) → acc * 10 ^ l.length + num l < 1000000000000000000 → Go.Lib.parseUint10 acc l = .ok (acc * 10 ^ l.length + num l)
  | [], acc, _, _ => by simp [Go.Lib.parseUint10, num]
  | c :: r, acc, hd, hb => by
    have hc := hd c (by simp)
    have h1 := num_from r (10 * acc + (c.toNat - 48))
    have hn : acc * 10 ^ (c :: r).length + num (c :: r) = (acc * 10 + (c.toNat - 48)) * 10 ^ r.length + num r := by
      rw [num_cons, List.length_cons, Nat.pow_succ, Nat.add_mul, ← Nat.add_assoc]
      congr 2
      rw [Nat.mul_assoc, Nat.mul_comm 10 (10 ^ r.length)]
    have hp : 1 ≤ 10 ^ r.length := Nat.one_le_pow _ _ (by omega)
    have hlt : acc * 10 + (c.toNat - 48) < 1000000000000000000 := by
      have : (acc * 10 + (c.toNat - 48)) * 1 ≤ (acc * 10 + (c.toNat - 48)) * 10 ^ r.length := Nat.mul_le_mul_left _ hp
      omega
    rw [Go.Lib.parseUint10, if_pos hc, if_neg (by omega), if_neg (by omega), parse10 r _ (fun d h => hd d (by simp [h])) (by omega), hn]

theorem atoi_dec (n : Nat) (h : n ≤ 999999) : Go.Lib.atoiAll (dec n) = .ok (n : Int) := by
  have hd := dec_dig n
  have hm : Go.Lib.parseMag (dec n) = .ok n := by
    unfold Go.Lib.parseMag
    rw [if_neg (dec_ne n), parse10 (dec n) 0 hd (by rw [num_dec]; omega), num_dec]; simp
  rcases hdn : dec n with _ | ⟨c, r⟩
  · exact absurd hdn (dec_ne n)
  · have hc := hd c (by rw [hdn]; simp)
    rw [hdn] at hm
    rw [Go.Lib.atoiAll_plain c r (by omega) (by omega), hm]
    show (if 9223372036854775808 ≤ n then Go.Lib.NumEnd.range else .ok (n : Int)) = _
    rw [if_neg (by omega)]

/-- What stands ahead of the dash. -/
def coreText (v : Ver) : List UInt8 := dec v.maj.toNat ++ 46 :: (dec v.min.toNat ++ 46 :: dec v.pat.toNat)

theorem text_core (v : Ver) : text v = coreText v ++ if v.pre = [] then [] else 45 :: v.pre := by
  simp [text, coreText]

theorem dec_not (n : Nat) {x : UInt8} (hx : x.toNat < 48) : ∀ d ∈ dec n, d ≠ x := by
  rintro d hd rfl
  have := dec_dig n d hd
  omega

theorem core_nodash (v : Ver) : ∀ d ∈ coreText v, d ≠ 45 := by
  intro d hd
  unfold coreText at hd
  rcases List.mem_append.1 hd with h | h
  · exact dec_not _ (by decide) d h
  · rcases List.mem_cons.1 h with rfl | h
    · decide
    · rcases List.mem_append.1 h with h | h
      · exact dec_not _ (by decide) d h
      · rcases List.mem_cons.1 h with rfl | h
        · decide
        · exact dec_not _ (by decide) d h

theorem cut_text (v : Ver) : (cut 45 (text v)).1 = coreText v ∧ (cut 45 (text v)).2.1 = v.pre := by
  rw [text_core]
  by_cases h : v.pre = []
  · rw [if_pos h, List.append_nil, cut_no (core_nodash v), h]; exact ⟨rfl, rfl⟩
  · rw [if_neg h, cut_at _ (core_nodash v)]; exact ⟨rfl, rfl⟩

theorem split_core (v : Ver) : split (min 3 (coreText v).length) (coreText v) = [dec v.maj.toNat, dec v.min.toNat, dec v.pat.toNat] := by
  have h1 : 1 ≤ (dec v.maj.toNat).length := List.length_pos_iff.2 (dec_ne _)
  have h2 : min 3 (coreText v).length = 3 := by unfold coreText; simp; omega
  rw [h2]
  unfold coreText
  rw [split_hit (cut_at _ (dec_not _ (by decide))), split_hit (cut_at _ (dec_not _ (by decide))), split_miss (by rw [cut_no (dec_not _ (by decide))])]

/-- What a text that is a version's is in pieces. -/
theorem parse_pieces {l : List UInt8} {u : Ver} (h : parse l = some u) :
    split (min 3 (cut 45 l).1.length) (cut 45 l).1 = [dec u.maj.toNat, dec u.min.toNat, dec u.pat.toNat] ∧ (cut 45 l).2.1 = u.pre ∧
    Go.Lib.atoiAll (dec u.maj.toNat) = .ok u.maj ∧ Go.Lib.atoiAll (dec u.min.toNat) = .ok u.min ∧ Go.Lib.atoiAll (dec u.pat.toNat) = .ok u.pat := by
  obtain ⟨hm, ht⟩ := parse_some h
  obtain ⟨h1, h2⟩ := cut_text u
  rw [ht] at h1 h2
  rw [h1]
  rw [may_iff] at hm
  obtain ⟨⟨a1, a2⟩, ⟨b1, b2⟩, ⟨c1, c2⟩, _⟩ := hm
  refine ⟨split_core u, h2, ?_, ?_, ?_⟩
  · rw [atoi_dec _ (by omega), Int.toNat_of_nonneg a1]
  · rw [atoi_dec _ (by omega), Int.toNat_of_nonneg b1]
  · rw [atoi_dec _ (by omega), Int.toNat_of_nonneg c1]

/-- Three numbers that were read, and what stands behind the dash: the version that the text is, or none. -/
theorem parse_made {l : List UInt8} {p0 p1 p2 : List UInt8} {x0 x1 x2 : Int} (hs : split (min 3 (cut 45 l).1.length) (cut 45 l).1 = [p0, p1, p2])
    (h0 : Go.Lib.atoiAll p0 = .ok x0) (h1 : Go.Lib.atoiAll p1 = .ok x1) (h2 : Go.Lib.atoiAll p2 = .ok x2) :
    parse l = if may ⟨x0, x1, x2, (cut 45 l).2.1⟩ = true ∧ text ⟨x0, x1, x2, (cut 45 l).2.1⟩ = l then some ⟨x0, x1, x2, (cut 45 l).2.1⟩ else none := by
  by_cases h : may ⟨x0, x1, x2, (cut 45 l).2.1⟩ = true ∧ text ⟨x0, x1, x2, (cut 45 l).2.1⟩ = l
  · rw [if_pos h]
    have := parse_text h.1
    rwa [h.2] at this
  · rw [if_neg h]
    rcases hp : parse l with _ | u
    · rfl
    · exfalso
      apply h
      obtain ⟨q0, q1, q2, q3, q4⟩ := parse_pieces hp
      rw [hs] at q0
      simp only [List.cons.injEq, and_true] at q0
      obtain ⟨rfl, rfl, rfl⟩ := q0
      have e0 : x0 = u.maj := by rw [h0] at q2; injection q2
      have e1 : x1 = u.min := by rw [h1] at q3; injection q3
      have e2 : x2 = u.pat := by rw [h2] at q4; injection q4
      rw [q1, e0, e1, e2]
      exact parse_some hp

theorem parse_count {l : List UInt8} (h : (split (min 3 (cut 45 l).1.length) (cut 45 l).1).length ≠ 3) : parse l = none := by
  rcases hp : parse l with _ | u
  · rfl
  · rw [(parse_pieces hp).1] at h; exact absurd rfl h

theorem parse_bad {l : List UInt8} {p0 p1 p2 : List UInt8} (hs : split (min 3 (cut 45 l).1.length) (cut 45 l).1 = [p0, p1, p2])
    (h : (∀ x, Go.Lib.atoiAll p0 ≠ .ok x) ∨ (∀ x, Go.Lib.atoiAll p1 ≠ .ok x) ∨ (∀ x, Go.Lib.atoiAll p2 ≠ .ok x)) : parse l = none := by
  rcases hp : parse l with _ | u
  · rfl
  · obtain ⟨q0, _, q2, q3, q4⟩ := parse_pieces hp
    rw [hs] at q0
    simp only [List.cons.injEq, and_true] at q0
    obtain ⟨rfl, rfl, rfl⟩ := q0
    rcases h with h | h | h
    · exact absurd q2 (h _)
    · exact absurd q3 (h _)
    · exact absurd q4 (h _)
end Sem

/- strconv.Atoi and strings.Clone, as the program's Parse calls them. -/
namespace Go.Proofs.YtebphmkefpaeaaaGreatDoor
open Go.RowKit
set_option linter.unusedVariables false

theorem atoi_ok (x : List UInt8) (hx : x.length ≤ 140737488355328) (v : Int) (h : Lib.atoiAll x = .ok v) (w : World) :
    Calls Tryz.prog 96 #[.string ⟨x.toArray⟩] w fun e w' => e = .returned (.tuple #[.int .i64 v, .nilIface]) ∧ Below w.heap.size w w' := by
  have hi := Any.strconv_Atoi_ok Tryz.lays172 ⟨x.toArray⟩ (by rw [size_list]; omega) v h w
  refine Calls.mono hi ?_
  rintro e w' ⟨rfl, hw⟩
  refine ⟨rfl, ?_⟩
  rcases hw with rfl | ⟨t, rfl⟩
  · exact Below.refl _ _
  · exact Lib.bytesWorld_below _ _ _

theorem atoi_bad (x : List UInt8) (hx : x.length ≤ 140737488355328) (h : ∀ v, Lib.atoiAll x ≠ .ok v) (w : World) (hg : Globs w) :
    Calls Tryz.prog 96 #[.string ⟨x.toArray⟩] w fun e w' => ∃ z N, e = .returned (.tuple #[.int .i64 z, .iface 116 (.pointer (some ⟨N, 0, none⟩))]) ∧ Below w.heap.size w w' := by
  obtain ⟨te, pe, h1⟩ := hg.syn
  obtain ⟨te', pe', h2⟩ := hg.rng
  rcases ha : Lib.atoiAll x with v | _ | _
  · exact absurd ha (h v)
  · have hi := Any.strconv_Atoi_syntax Tryz.lays172 ⟨x.toArray⟩ (by rw [size_list]; omega) ha _ w h1 (Or.inr ⟨te, pe, rfl⟩)
    refine Calls.mono hi ?_
    rintro e w' ⟨N, rfl, _, _, hb⟩
    exact ⟨_, N, rfl, hb⟩
  · have hi := Any.strconv_Atoi_range Tryz.lays172 ⟨x.toArray⟩ (by rw [size_list]; omega) ha _ w h2 (Or.inr ⟨te', pe', rfl⟩)
    refine Calls.mono hi ?_
    rintro e w' ⟨N, rfl, _, _, hb⟩
    exact ⟨_, N, rfl, hb⟩

theorem clone_walk (x : List UInt8) (hx : x.length ≤ 140737488355328) (w : World) :
    Calls Tryz.prog 70 #[.string ⟨x.toArray⟩] w fun e w' => e = .returned (.string ⟨x.toArray⟩) ∧ Below w.heap.size w w' := by
  have hi : ∀ w, Calls Tryz.prog 81 #[.string ⟨x.toArray⟩] w fun e w' => e = .returned (.string ⟨x.toArray⟩) ∧ Below w.heap.size w w' := fun w =>
    Any.stringslite_Clone Tryz.laysM316 ⟨x.toArray⟩ w (by rw [size_list]; omega)
  go_enter Tryz.func70, Tryz.ntmps70
  go_wp2_with fail
  refine (hi _).mono ?_
  rintro e w' ⟨rfl, hb⟩
  go_wp2
  go_ret
  exact ⟨rfl, hb⟩
end Go.Proofs.YtebphmkefpaeaaaGreatDoor

/- The program's Parse. -/
namespace Go.Proofs.YtebphmkefpaeaaaGreatDoor
open Go.RowKit
set_option linter.unusedVariables false

/-- Three numbers in a box that may be written. -/
def Arr3 (W : World) (g : Nat) (x0 x1 x2 : Int) : Prop := g < W.heap.size ∧ W.cell? ⟨g, 0, none⟩ = some (.int .i64 x0) ∧ W.cell? ⟨g, 1, none⟩ = some (.int .i64 x1) ∧ W.cell? ⟨g, 2, none⟩ = some (.int .i64 x2) ∧
  W.frozen? ⟨g, 0, none⟩ = false ∧ W.frozen? ⟨g, 1, none⟩ = false ∧ W.frozen? ⟨g, 2, none⟩ = false

theorem Arr3.keep {W W' : World} {g B : Nat} {x0 x1 x2 : Int} (h : Arr3 W g x0 x1 x2) (hg : g < B) (hb : Below B W W') : Arr3 W' g x0 x1 x2 := by
  obtain ⟨h0, h1, h2, h3, f0, f1, f2⟩ := h
  exact ⟨Nat.lt_of_lt_of_le h0 hb.size, (hb.cell (p := ⟨g, 0, none⟩) hg).trans h1, (hb.cell (p := ⟨g, 1, none⟩) hg).trans h2, (hb.cell (p := ⟨g, 2, none⟩) hg).trans h3,
    (hb.frozen (p := ⟨g, 0, none⟩) hg).trans f0, (hb.frozen (p := ⟨g, 1, none⟩) hg).trans f1, (hb.frozen (p := ⟨g, 2, none⟩) hg).trans f2⟩

theorem Arr3.set0 {W : World} {g : Nat} {x0 x1 x2 : Int} (h : Arr3 W g x0 x1 x2) (x : Int) : Arr3 (W.setCell ⟨g, 0, none⟩ (.int .i64 x)) g x x1 x2 := by
  obtain ⟨h0, h1, h2, h3, f0, f1, f2⟩ := h
  exact ⟨by simpa using h0, by simp [go_sem, h1], by simp [go_sem, h2], by simp [go_sem, h3], by simp [go_sem, f0], by simp [go_sem, f1], by simp [go_sem, f2]⟩
theorem Arr3.set1 {W : World} {g : Nat} {x0 x1 x2 : Int} (h : Arr3 W g x0 x1 x2) (x : Int) : Arr3 (W.setCell ⟨g, 1, none⟩ (.int .i64 x)) g x0 x x2 := by
  obtain ⟨h0, h1, h2, h3, f0, f1, f2⟩ := h
  exact ⟨by simpa using h0, by simp [go_sem, h1], by simp [go_sem, h2], by simp [go_sem, h3], by simp [go_sem, f0], by simp [go_sem, f1], by simp [go_sem, f2]⟩
theorem Arr3.set2 {W : World} {g : Nat} {x0 x1 x2 : Int} (h : Arr3 W g x0 x1 x2) (x : Int) : Arr3 (W.setCell ⟨g, 2, none⟩ (.int .i64 x)) g x0 x1 x := by
  obtain ⟨h0, h1, h2, h3, f0, f1, f2⟩ := h
  exact ⟨by simpa using h0, by simp [go_sem, h1], by simp [go_sem, h2], by simp [go_sem, h3], by simp [go_sem, f0], by simp [go_sem, f1], by simp [go_sem, f2]⟩

theorem three_pieces {ps : List (List UInt8)} (h : ps.length = 3) : ∃ p0 p1 p2, ps = [p0, p1, p2] := by
  match ps, h with
  | [a, b, c], _ => exact ⟨a, b, c, rfl⟩

/-- How far the reading of the three numbers has come. -/
def Read (p0 p1 p2 : List UInt8) (i : Value) (x0 x1 x2 : Int) : Prop := i = .int .i64 0 ∨ (i = .int .i64 1 ∧ Lib.atoiAll p0 = .ok x0) ∨ (i = .int .i64 2 ∧ Lib.atoiAll p0 = .ok x0 ∧ Lib.atoiAll p1 = .ok x1) ∨ (i = .int .i64 3 ∧ Lib.atoiAll p0 = .ok x0 ∧ Lib.atoiAll p1 = .ok x1 ∧ Lib.atoiAll p2 = .ok x2)

theorem atoi_cases (p : List UInt8) : (∃ v, Lib.atoiAll p = .ok v) ∨ (∀ v, Lib.atoiAll p ≠ .ok v) := by
  rcases h : Lib.atoiAll p with v | _ | _
  · exact Or.inl ⟨v, rfl⟩
  · exact Or.inr (fun v h => by cases h)
  · exact Or.inr (fun v h => by cases h)

set_option maxRecDepth 100000 in
set_option maxHeartbeats 4000000 in
theorem parseL_walk (l : List UInt8) (hl : l.length ≤ 140737488351232) (w : World) (hg : Globs w) :
    Calls Tryz.prog 87 #[.string ⟨l.toArray⟩] w fun e w' => e = .returned (parseR (Sem.parse l)) ∧ Below w.heap.size w w' := by
  obtain ⟨hc1, hc2, _⟩ := Sem.cut_len 45 l
  have HC := Lib.hid (@Sem.parse_count l)
  have HB := Lib.hid (fun (p0 p1 p2 : List UInt8) => Sem.parse_bad (l := l) (p0 := p0) (p1 := p1) (p2 := p2))
  have HM := Lib.hid (fun (p0 p1 p2 : List UInt8) (x0 x1 x2 : Int) => Sem.parse_made (l := l) (p0 := p0) (p1 := p1) (p2 := p2) (x0 := x0) (x1 := x1) (x2 := x2))
  have hcut : ∀ w, Calls Tryz.prog 63 #[.string ⟨l.toArray⟩, .string ⟨#[45]⟩] w fun e w' => e = .returned (.tuple #[.string ⟨(Sem.cut 45 l).1.toArray⟩, .string ⟨(Sem.cut 45 l).2.1.toArray⟩, .bool (Sem.cut 45 l).2.2]) ∧ Below w.heap.size w w' :=
    fun w => cut_walk ⟨l.toArray⟩ 45 (by rw [size_list]; omega) w
  rcases hcd : Sem.cut 45 l with ⟨core, pre, m⟩
  rw [hcd] at hc1 hc2 hcut HC HB HM
  simp only at hc1 hc2 hcut HB HM
  clear hcd
  go_enter Tryz.func87, Tryz.ntmps87
  go_wp2_with fail
  refine (hcut _).mono ?_
  rintro e w1 ⟨rfl, hb1⟩
  go_wp2_with fail
  refine (splitN_walk core (by omega) _).mono ?_
  rintro e w2 ⟨g, N, rfl, hS, hb2⟩
  have hbx := (box_new w ⟨0, 0, 0, []⟩).keep (B := w.heap.size + 1) (by omega) ((hb1.mono (by simp)).trans (hb2.mono (by have := hb1.size; simp at this; omega)))
  have hbw : Below w.heap.size w w2 := below_next (below_next (below_one w (.cells #[.int .i64 0, .int .i64 0, .int .i64 0, .string ⟨#[]⟩] 70)) hb1) hb2
  have hg2 := hg.next hbw
  have hsh : ∀ p ∈ Sem.split (min 3 core.length) core, p.length ≤ 140737488351232 := fun p hp => by have := Sem.split_short _ _ p hp; omega
  obtain ⟨ps, hps⟩ : ∃ ps, ps = Sem.split (min 3 core.length) core := ⟨_, rfl⟩
  rw [← hps] at hS hsh HC HB HM ⊢
  clear hps hcut hb1 hb2
  have HBX := Lib.hid hbx
  by_cases h3 : ps.length = 3
  · obtain ⟨p0, p1, p2, rfl⟩ := three_pieces h3
    have l0 := hsh p0 (by simp)
    have l1 := hsh p1 (by simp)
    have l2 := hsh p2 (by simp)
    have HST : Hid (w2.cell? ⟨g, 0, none⟩ = some (.string ⟨p0.toArray⟩) ∧ w2.cell? ⟨g, 1, none⟩ = some (.string ⟨p1.toArray⟩) ∧ w2.cell? ⟨g, 2, none⟩ = some (.string ⟨p2.toArray⟩) ∧ g < w2.heap.size) := by
      rcases hS with h | ⟨b, off, hA, hlt, hc⟩
      · simp [strs] at h
      · simp only [Option.some.injEq, Addr.mk.injEq, and_true] at hA
        obtain ⟨rfl, rfl⟩ := hA
        have q0 := hc 0 (by simp [strs])
        have q1 := hc 1 (by simp [strs])
        have q2 := hc 2 (by simp [strs])
        exact Lib.hid ⟨by simpa [strs] using q0, by simpa [strs] using q1, by simpa [strs] using q2, hlt⟩
    clear hS hbx h3 hsh HC
    go_wp2_with fail
    go_loopw [30] (fun i wr => ∃ x0 x1 x2 : Int, Read p0 p1 p2 i x0 x1 x2 ∧ Arr3 wr w2.heap.size x0 x1 x2 ∧ Below w2.heap.size w2 wr) (fun i _ => 3 - (intOf i).toNat)
    case atStart => exact ⟨0, 0, 0, Or.inl rfl, ⟨by simp, by simp [go_sem], by simp [go_sem], by simp [go_sem], by simp [go_sem], by simp [go_sem], by simp [go_sem]⟩, below_one _ _⟩
    case round =>
      obtain ⟨x0, x1, x2, hread, hA, hb⟩ := hrel
      obtain ⟨z0, z1, z2, zg⟩ := HST.out
      rw [← (cell_of_below (o := 0) hb zg).1] at z0
      rw [← (cell_of_below (o := 1) hb zg).1] at z1
      rw [← (cell_of_below (o := 2) hb zg).1] at z2
      rcases hread with rfl | ⟨rfl, q0⟩ | ⟨rfl, q0, q1⟩ | ⟨rfl, q0, q1, q2⟩
      · rcases atoi_cases p0 with ⟨v, hv⟩ | hv
        · go_wp2_with fail
          refine (atoi_ok p0 (by omega) v hv _).mono ?_
          rintro e w3 ⟨rfl, hb3⟩
          have hb4 := below_next hb hb3
          have hA3 := hA.keep (B := wr.heap.size) hA.1 hb3
          have HA3 := Lib.hid hA3
          obtain ⟨_, t0, t1, t2, s0, s1, s2⟩ := hA3
          clear z0 z1 z2
          go_wp2
          go_roundw
          case rel => exact ⟨v, x1, x2, Or.inr (Or.inl ⟨rfl, hv⟩), HA3.out.set0 v, hb4.setCell (p := ⟨w2.heap.size, 0, none⟩) (Nat.le_refl _) _⟩
          case measure => simp [intOf]
        · have HN := Lib.hid (HB.out p0 p1 p2 rfl (Or.inl hv))
          have hgr := hg2.next hb
          go_wp2_with fail
          refine (atoi_bad p0 (by omega) hv _ hgr).mono ?_
          rintro e w3 ⟨z, N3, rfl, hb3⟩
          have hb4 := below_next hb hb3
          have hbw4 := below_next hbw hb4
          obtain ⟨⟨_, r0, r1, r2, r3⟩, f0, f1, f2, f3⟩ := HBX.out.keep (B := w2.heap.size) HBX.out.1.1 hb4
          clear z0 z1 z2
          go_wp2
          refine bodyPost_ret (v := .tuple #[.agg #[.int .i64 0, .int .i64 0, .int .i64 0, .string ByteArray.empty], .int .i64 40]) (by simp [results, Tryz.results87, go_sem, r0, r1, r2, r3]; rfl) rfl ?_
          exact ⟨by rw [HN.out]; rfl, bel4 hbw4⟩
      · rcases atoi_cases p1 with ⟨v, hv⟩ | hv
        · go_wp2_with fail
          refine (atoi_ok p1 (by omega) v hv _).mono ?_
          rintro e w3 ⟨rfl, hb3⟩
          have hb4 := below_next hb hb3
          have hA3 := hA.keep (B := wr.heap.size) hA.1 hb3
          have HA3 := Lib.hid hA3
          obtain ⟨_, t0, t1, t2, s0, s1, s2⟩ := hA3
          clear z0 z1 z2
          go_wp2
          go_roundw
          case rel => exact ⟨x0, v, x2, Or.inr (Or.inr (Or.inl ⟨rfl, q0, hv⟩)), HA3.out.set1 v, hb4.setCell (p := ⟨w2.heap.size, 1, none⟩) (Nat.le_refl _) _⟩
          case measure => simp [intOf]
        · have HN := Lib.hid (HB.out p0 p1 p2 rfl (Or.inr (Or.inl hv)))
          have hgr := hg2.next hb
          go_wp2_with fail
          refine (atoi_bad p1 (by omega) hv _ hgr).mono ?_
          rintro e w3 ⟨z, N3, rfl, hb3⟩
          have hb4 := below_next hb hb3
          have hbw4 := below_next hbw hb4
          obtain ⟨⟨_, r0, r1, r2, r3⟩, f0, f1, f2, f3⟩ := HBX.out.keep (B := w2.heap.size) HBX.out.1.1 hb4
          clear z0 z1 z2
          go_wp2
          refine bodyPost_ret (v := .tuple #[.agg #[.int .i64 0, .int .i64 0, .int .i64 0, .string ByteArray.empty], .int .i64 40]) (by simp [results, Tryz.results87, go_sem, r0, r1, r2, r3]; rfl) rfl ?_
          exact ⟨by rw [HN.out]; rfl, bel4 hbw4⟩
      · rcases atoi_cases p2 with ⟨v, hv⟩ | hv
        · go_wp2_with fail
          refine (atoi_ok p2 (by omega) v hv _).mono ?_
          rintro e w3 ⟨rfl, hb3⟩
          have hb4 := below_next hb hb3
          have hA3 := hA.keep (B := wr.heap.size) hA.1 hb3
          have HA3 := Lib.hid hA3
          obtain ⟨_, t0, t1, t2, s0, s1, s2⟩ := hA3
          clear z0 z1 z2
          go_wp2
          go_roundw
          case rel => exact ⟨x0, x1, v, Or.inr (Or.inr (Or.inr ⟨rfl, q0, q1, hv⟩)), HA3.out.set2 v, hb4.setCell (p := ⟨w2.heap.size, 2, none⟩) (Nat.le_refl _) _⟩
          case measure => simp [intOf]
        · have HN := Lib.hid (HB.out p0 p1 p2 rfl (Or.inr (Or.inr hv)))
          have hgr := hg2.next hb
          go_wp2_with fail
          refine (atoi_bad p2 (by omega) hv _ hgr).mono ?_
          rintro e w3 ⟨z, N3, rfl, hb3⟩
          have hb4 := below_next hb hb3
          have hbw4 := below_next hbw hb4
          obtain ⟨⟨_, r0, r1, r2, r3⟩, f0, f1, f2, f3⟩ := HBX.out.keep (B := w2.heap.size) HBX.out.1.1 hb4
          clear z0 z1 z2
          go_wp2
          refine bodyPost_ret (v := .tuple #[.agg #[.int .i64 0, .int .i64 0, .int .i64 0, .string ByteArray.empty], .int .i64 40]) (by simp [results, Tryz.results87, go_sem, r0, r1, r2, r3]; rfl) rfl ?_
          exact ⟨by rw [HN.out]; rfl, bel4 hbw4⟩
      · have HE := Lib.hid (HM.out p0 p1 p2 x0 x1 x2 rfl q0 q1 q2)
        clear z0 z1 z2 q0 q1 q2
        have HA := Lib.hid hA
        obtain ⟨_, t0, t1, t2, _, _, _⟩ := hA
        go_wp2_with fail
        have hlp : pre.length ≤ 140737488351232 := by omega
        have HVB := Lib.hid (box_new wr ⟨x0, x1, x2, pre⟩)
        have hal := below_one wr (.cells #[.int .i64 x0, .int .i64 x1, .int .i64 x2, .string ⟨pre.toArray⟩] 70)
        refine (show_walk ⟨x0, x1, x2, pre⟩ hlp _ ((hg2.next hb).next hal)).mono ?_
        rintro e w3 ⟨he, hb3⟩
        have hb5 := below_next hb (below_next hal hb3)
        have hbw5 := below_next hbw hb5
        have HV3 := Lib.hid (HVB.out.keep (B := wr.heap.size + 1) (by omega) (hb3.mono (by simp)))
        have HR3 := Lib.hid (HBX.out.keep (B := w2.heap.size) HBX.out.1.1 hb5)
        clear t0 t1 t2
        cases hmay : Sem.may ⟨x0, x1, x2, pre⟩
        · have HN : Hid (Sem.parse l = none) := Lib.hid (by rw [HE.out, if_neg (by rw [hmay]; simp)])
          rw [showR, hmay, if_neg (by simp)] at he
          subst he
          obtain ⟨⟨_, r0, r1, r2, r3⟩, f0, f1, f2, f3⟩ := HR3.out
          clear hal hb3
          go_wp2
          refine bodyPost_ret (v := .tuple #[.agg #[.int .i64 0, .int .i64 0, .int .i64 0, .string ByteArray.empty], .int .i64 40]) (by simp [results, Tryz.results87, go_sem, r0, r1, r2, r3]; rfl) rfl ?_
          exact ⟨by rw [HN.out]; rfl, bel4 hbw5⟩
        · rw [showR, hmay, if_pos rfl] at he
          by_cases ht : Sem.text ⟨x0, x1, x2, pre⟩ = l
          · have HN : Hid (Sem.parse l = some ⟨x0, x1, x2, pre⟩) := Lib.hid (by rw [HE.out, if_pos ⟨hmay, ht⟩])
            rw [ht] at he
            subst he
            have hll : (l == l) = true := by simp
            clear hal hb3 ht
            go_wp2_with fail
            refine (clone_walk pre (by omega) _).mono ?_
            rintro e w4 ⟨rfl, hb4⟩
            have hbw6 := below_next hbw5 hb4
            obtain ⟨⟨_, v0, v1, v2, v3⟩, _, _, _, y3⟩ := HV3.out.keep (B := w3.heap.size) HV3.out.1.1 hb4
            obtain ⟨⟨_, r0, r1, r2, r3⟩, f0, f1, f2, f3⟩ := HR3.out.keep (B := w3.heap.size) HR3.out.1.1 hb4
            have hne : wr.heap.size ≠ w.heap.size := by have := hb.size; have := HBX.out.1.1; omega
            simp only at v0 v1 v2 v3
            clear hb4 hll
            go_wp2
            have hbw7 : Below w.heap.size w (w4.setCell ⟨wr.heap.size, 3, none⟩ (.string ⟨pre.toArray⟩)) := hbw6.setCell (p := ⟨wr.heap.size, 3, none⟩) (by show w.heap.size ≤ wr.heap.size; have := hbw.size; have := hb.size; omega) _
            refine bodyPost_ret (v := .tuple #[.agg #[.int .i64 x0, .int .i64 x1, .int .i64 x2, .string ⟨pre.toArray⟩], .int .i64 0]) (by simp [results, Tryz.results87, go_sem, r0, r1, r2, r3]) rfl ?_
            exact ⟨by rw [HN.out]; rfl, bel4 hbw7⟩
          · have HN : Hid (Sem.parse l = none) := Lib.hid (by rw [HE.out, if_neg (fun h => ht h.2)])
            subst he
            have hll : (Sem.text ⟨x0, x1, x2, pre⟩ == l) = false := by simpa using ht
            obtain ⟨⟨_, r0, r1, r2, r3⟩, f0, f1, f2, f3⟩ := HR3.out
            clear hal hb3 ht
            go_wp2
            refine bodyPost_ret (v := .tuple #[.agg #[.int .i64 0, .int .i64 0, .int .i64 0, .string ByteArray.empty], .int .i64 40]) (by simp [results, Tryz.results87, go_sem, r0, r1, r2, r3]; rfl) rfl ?_
            exact ⟨by rw [HN.out]; rfl, bel4 hbw5⟩
  · have HN := Lib.hid (HC.out h3)
    obtain ⟨⟨_, r0, r1, r2, r3⟩, f0, f1, f2, f3⟩ := hbx
    have hd : ((ps.length : Int) != 3) = true := by rw [bne_iff_ne]; omega
    go_wp2
    refine bodyPost_ret (v := .tuple #[.agg #[.int .i64 0, .int .i64 0, .int .i64 0, .string ByteArray.empty], .int .i64 40]) (by simp [results, Tryz.results87, go_sem, r0, r1, r2, r3]; rfl) rfl ?_
    exact ⟨by rw [HN.out]; rfl, bel4 hbw⟩

theorem parse_walk (s : ByteArray) (hs : s.size ≤ 140737488351232) (w : World) (hg : Globs w) :
    Calls Tryz.prog 87 #[.string s] w fun e w' => e = .returned (parseR (Sem.parse s.data.toList)) ∧ Below w.heap.size w w' := by
  have h := parseL_walk s.data.toList (by rw [← Lib.size_eq]; exact hs) w hg
  rw [← tx_of s] at h
  exact h
end Go.Proofs.YtebphmkefpaeaaaGreatDoor
