/- The program's Parse. -/
import Derived.Test.YtifblpbikngjeaaDoorSemAtoi
import Derived.Test.YtifblpbikngjeaaDoorSemShowOwn
import Derived.Test.YtifblpbikngjeaaDoorSemHighOwn
import Derived.Test.YtifblpbikngjeaaDoorSemParse
namespace Go.Proofs.YtifblpbikngjeaaDoor
open Go.RowKit
set_option linter.unusedVariables false

/-- Three numbers in a box that may be written. -/
def Arr3 (W : World) (g : Nat) (x0 x1 x2 : Int) : Prop := g < W.heap.size ∧ W.cell? ⟨g, 0, none⟩ = some (.int .i64 x0) ∧ W.cell? ⟨g, 1, none⟩ = some (.int .i64 x1) ∧ W.cell? ⟨g, 2, none⟩ = some (.int .i64 x2) ∧
  W.frozen? ⟨g, 0, none⟩ = false ∧ W.frozen? ⟨g, 1, none⟩ = false ∧ W.frozen? ⟨g, 2, none⟩ = false

theorem Arr3.keep {W W' : World} {g B : Nat} {x0 x1 x2 : Int} (h : Arr3 W g x0 x1 x2) (hg : g < B) (hb : Below B W W') : Arr3 W' g x0 x1 x2 := by
  obtain ⟨h0, h1, h2, h3, f0, f1, f2⟩ := h
  exact ⟨Nat.lt_of_lt_of_le h0 hb.size, (hb.cell (p := ⟨g, 0, none⟩) hg).trans h1, (hb.cell (p := ⟨g, 1, none⟩) hg).trans h2, (hb.cell (p := ⟨g, 2, none⟩) hg).trans h3,
    (hb.frozen (p := ⟨g, 0, none⟩) hg).trans f0, (hb.frozen (p := ⟨g, 1, none⟩) hg).trans f1, (hb.frozen (p := ⟨g, 2, none⟩) hg).trans f2⟩

theorem Arr3.set0 {W : World} {g : Nat} {x0 x1 x2 : Int} (h : Arr3 W g x0 x1 x2) (x : Int) : Arr3 (W.setCell ⟨g, 0, none⟩ (.int .i64 x)) g x x1 x2 := by
  obtain ⟨h0, h1, h2, h3, f0, f1, f2⟩ := h
  exact ⟨by simpa using h0, by simp [go_sem, h1], by simp [go_sem, h2], by simp [go_sem, h3], by simp [go_sem, f0], by simp [go_sem, f1], by simp [go_sem, f2]⟩
theorem Arr3.set1 {W : World} {g : Nat} {x0 x1 x2 : Int} (h : Arr3 W g x0 x1 x2) (x : Int) : Arr3 (W.setCell ⟨g, 1, none⟩ (.int .i64 x)) g x0 x x2 := by
  obtain ⟨h0, h1, h2, h3, f0, f1, f2⟩ := h
  exact ⟨by simpa using h0, by simp [go_sem, h1], by simp [go_sem, h2], by simp [go_sem, h3], by simp [go_sem, f0], by simp [go_sem, f1], by simp [go_sem, f2]⟩
theorem Arr3.set2 {W : World} {g : Nat} {x0 x1 x2 : Int} (h : Arr3 W g x0 x1 x2) (x : Int) : Arr3 (W.setCell ⟨g, 2, none⟩ (.int .i64 x)) g x0 x1 x := by
  obtain ⟨h0, h1, h2, h3, f0, f1, f2⟩ := h
  exact ⟨by simpa using h0, by simp [go_sem, h1], by simp [go_sem, h2], by simp [go_sem, h3], by simp [go_sem, f0], by simp [go_sem, f1], by simp [go_sem, f2]⟩

theorem three_pieces {ps : List (List UInt8)} (h : ps.length = 3) : ∃ p0 p1 p2, ps = [p0, p1, p2] := by
  match ps, h with
  | [a, b, c], _ => exact ⟨a, b, c, rfl⟩

/-- How far the reading of the three numbers has come. -/
def Read (p0 p1 p2 : List UInt8) (i : Value) (x0 x1 x2 : Int) : Prop := i = .int .i64 0 ∨ (i = .int .i64 1 ∧ Lib.atoiAll p0 = .ok x0) ∨ (i = .int .i64 2 ∧ Lib.atoiAll p0 = .ok x0 ∧ Lib.atoiAll p1 = .ok x1) ∨ (i = .int .i64 3 ∧ Lib.atoiAll p0 = .ok x0 ∧ Lib.atoiAll p1 = .ok x1 ∧ Lib.atoiAll p2 = .ok x2)

theorem atoi_cases (p : List UInt8) : (∃ v, Lib.atoiAll p = .ok v) ∨ (∀ v, Lib.atoiAll p ≠ .ok v) := by
  rcases h : Lib.atoiAll p with v | _ | _
  · exact Or.inl ⟨v, rfl⟩
  · exact Or.inr (fun v h => by cases h)
  · exact Or.inr (fun v h => by cases h)

set_option maxRecDepth 100000 in
set_option maxHeartbeats 4000000 in
theorem parseL_walk (l : List UInt8) (hl : l.length ≤ 140737488351232) (w : World) (hg : Globs w) :
    Calls Tryd.prog 10 #[.string ⟨l.toArray⟩] w fun e w' => e = .returned (parseR (Sem.parse l)) ∧ Below w.heap.size w w' := by
  obtain ⟨hc1, hc2, _⟩ := Sem.cut_len 45 l
  have HC := Lib.hid (@Sem.parse_count l)
  have HB := Lib.hid (fun (p0 p1 p2 : List UInt8) => Sem.parse_bad (l := l) (p0 := p0) (p1 := p1) (p2 := p2))
  have HM := Lib.hid (fun (p0 p1 p2 : List UInt8) (x0 x1 x2 : Int) => Sem.parse_made (l := l) (p0 := p0) (p1 := p1) (p2 := p2) (x0 := x0) (x1 := x1) (x2 := x2))
  have hcut : ∀ w, Calls Tryd.prog 23 #[.string ⟨l.toArray⟩, .string ⟨#[45]⟩] w fun e w' => e = .returned (.tuple #[.string ⟨(Sem.cut 45 l).1.toArray⟩, .string ⟨(Sem.cut 45 l).2.1.toArray⟩, .bool (Sem.cut 45 l).2.2]) ∧ Below w.heap.size w w' :=
    fun w => cut_walk ⟨l.toArray⟩ 45 (by rw [size_list]; omega) w
  rcases hcd : Sem.cut 45 l with ⟨core, pre, m⟩
  rw [hcd] at hc1 hc2 hcut HC HB HM
  simp only at hc1 hc2 hcut HB HM
  clear hcd
  go_enter Tryd.func10, Tryd.ntmps10
  go_wp2_with fail
  refine (hcut _).mono ?_
  rintro e w1 ⟨rfl, hb1⟩
  go_wp2_with fail
  refine (splitN_walk core (by omega) _).mono ?_
  rintro e w2 ⟨g, N, rfl, hS, hb2⟩
  have hbx := (box_new w ⟨0, 0, 0, []⟩).keep (B := w.heap.size + 1) (by omega) ((hb1.mono (by simp)).trans (hb2.mono (by have := hb1.size; simp at this; omega)))
  have hbw : Below w.heap.size w w2 := below_next (below_next (below_one w (.cells #[.int .i64 0, .int .i64 0, .int .i64 0, .string ⟨#[]⟩] 23)) hb1) hb2
  have hg2 := hg.next hbw
  have hsh : ∀ p ∈ Sem.split (min 3 core.length) core, p.length ≤ 140737488351232 := fun p hp => by have := Sem.split_short _ _ p hp; omega
  obtain ⟨ps, hps⟩ : ∃ ps, ps = Sem.split (min 3 core.length) core := ⟨_, rfl⟩
  rw [← hps] at hS hsh HC HB HM ⊢
  clear hps hcut hb1 hb2
  have HBX := Lib.hid hbx
  by_cases h3 : ps.length = 3
  · obtain ⟨p0, p1, p2, rfl⟩ := three_pieces h3
    have l0 := hsh p0 (by simp)
    have l1 := hsh p1 (by simp)
    have l2 := hsh p2 (by simp)
    have HST : Hid (w2.cell? ⟨g, 0, none⟩ = some (.string ⟨p0.toArray⟩) ∧ w2.cell? ⟨g, 1, none⟩ = some (.string ⟨p1.toArray⟩) ∧ w2.cell? ⟨g, 2, none⟩ = some (.string ⟨p2.toArray⟩) ∧ g < w2.heap.size) := by
      rcases hS with h | ⟨b, off, hA, hlt, hc⟩
      · simp [strs] at h
      · simp only [Option.some.injEq, Addr.mk.injEq, and_true] at hA
        obtain ⟨rfl, rfl⟩ := hA
        have q0 := hc 0 (by simp [strs])
        have q1 := hc 1 (by simp [strs])
        have q2 := hc 2 (by simp [strs])
        exact Lib.hid ⟨by simpa [strs] using q0, by simpa [strs] using q1, by simpa [strs] using q2, hlt⟩
    clear hS hbx h3 hsh HC
    go_wp2_with fail
    go_loopw [30] (fun i wr => ∃ x0 x1 x2 : Int, Read p0 p1 p2 i x0 x1 x2 ∧ Arr3 wr w2.heap.size x0 x1 x2 ∧ Below w2.heap.size w2 wr) (fun i _ => 3 - (intOf i).toNat)
    case atStart => exact ⟨0, 0, 0, Or.inl rfl, ⟨by simp, by simp [go_sem], by simp [go_sem], by simp [go_sem], by simp [go_sem], by simp [go_sem], by simp [go_sem]⟩, below_one _ _⟩
    case round =>
      obtain ⟨x0, x1, x2, hread, hA, hb⟩ := hrel
      obtain ⟨z0, z1, z2, zg⟩ := HST.out
      rw [← (cell_of_below (o := 0) hb zg).1] at z0
      rw [← (cell_of_below (o := 1) hb zg).1] at z1
      rw [← (cell_of_below (o := 2) hb zg).1] at z2
      rcases hread with rfl | ⟨rfl, q0⟩ | ⟨rfl, q0, q1⟩ | ⟨rfl, q0, q1, q2⟩
      · rcases atoi_cases p0 with ⟨v, hv⟩ | hv
        · go_wp2_with fail
          refine (atoi_ok p0 (by omega) v hv _).mono ?_
          rintro e w3 ⟨rfl, hb3⟩
          have hb4 := below_next hb hb3
          have hA3 := hA.keep (B := wr.heap.size) hA.1 hb3
          have HA3 := Lib.hid hA3
          obtain ⟨_, t0, t1, t2, s0, s1, s2⟩ := hA3
          clear z0 z1 z2
          go_wp2
          go_roundw
          case rel => exact ⟨v, x1, x2, Or.inr (Or.inl ⟨rfl, hv⟩), HA3.out.set0 v, hb4.setCell (p := ⟨w2.heap.size, 0, none⟩) (Nat.le_refl _) _⟩
          case measure => simp [intOf]
        · have HN := Lib.hid (HB.out p0 p1 p2 rfl (Or.inl hv))
          have hgr := hg2.next hb
          go_wp2_with fail
          refine (atoi_bad p0 (by omega) hv _ hgr).mono ?_
          rintro e w3 ⟨z, N3, rfl, hb3⟩
          have hb4 := below_next hb hb3
          have hbw4 := below_next hbw hb4
          obtain ⟨⟨_, r0, r1, r2, r3⟩, f0, f1, f2, f3⟩ := HBX.out.keep (B := w2.heap.size) HBX.out.1.1 hb4
          clear z0 z1 z2
          go_wp2
          refine bodyPost_ret (v := .tuple #[.agg #[.int .i64 0, .int .i64 0, .int .i64 0, .string ByteArray.empty], .int .i64 40]) (by simp [results, Tryd.results10, go_sem, r0, r1, r2, r3]; rfl) rfl ?_
          exact ⟨by rw [HN.out]; rfl, bel4 hbw4⟩
      · rcases atoi_cases p1 with ⟨v, hv⟩ | hv
        · go_wp2_with fail
          refine (atoi_ok p1 (by omega) v hv _).mono ?_
          rintro e w3 ⟨rfl, hb3⟩
          have hb4 := below_next hb hb3
          have hA3 := hA.keep (B := wr.heap.size) hA.1 hb3
          have HA3 := Lib.hid hA3
          obtain ⟨_, t0, t1, t2, s0, s1, s2⟩ := hA3
          clear z0 z1 z2
          go_wp2
          go_roundw
          case rel => exact ⟨x0, v, x2, Or.inr (Or.inr (Or.inl ⟨rfl, q0, hv⟩)), HA3.out.set1 v, hb4.setCell (p := ⟨w2.heap.size, 1, none⟩) (Nat.le_refl _) _⟩
          case measure => simp [intOf]
        · have HN := Lib.hid (HB.out p0 p1 p2 rfl (Or.inr (Or.inl hv)))
          have hgr := hg2.next hb
          go_wp2_with fail
          refine (atoi_bad p1 (by omega) hv _ hgr).mono ?_
          rintro e w3 ⟨z, N3, rfl, hb3⟩
          have hb4 := below_next hb hb3
          have hbw4 := below_next hbw hb4
          obtain ⟨⟨_, r0, r1, r2, r3⟩, f0, f1, f2, f3⟩ := HBX.out.keep (B := w2.heap.size) HBX.out.1.1 hb4
          clear z0 z1 z2
          go_wp2
          refine bodyPost_ret (v := .tuple #[.agg #[.int .i64 0, .int .i64 0, .int .i64 0, .string ByteArray.empty], .int .i64 40]) (by simp [results, Tryd.results10, go_sem, r0, r1, r2, r3]; rfl) rfl ?_
          exact ⟨by rw [HN.out]; rfl, bel4 hbw4⟩
      · rcases atoi_cases p2 with ⟨v, hv⟩ | hv
        · go_wp2_with fail
          refine (atoi_ok p2 (by omega) v hv _).mono ?_
          rintro e w3 ⟨rfl, hb3⟩
          have hb4 := below_next hb hb3
          have hA3 := hA.keep (B := wr.heap.size) hA.1 hb3
          have HA3 := Lib.hid hA3
          obtain ⟨_, t0, t1, t2, s0, s1, s2⟩ := hA3
          clear z0 z1 z2
          go_wp2
          go_roundw
          case rel => exact ⟨x0, x1, v, Or.inr (Or.inr (Or.inr ⟨rfl, q0, q1, hv⟩)), HA3.out.set2 v, hb4.setCell (p := ⟨w2.heap.size, 2, none⟩) (Nat.le_refl _) _⟩
          case measure => simp [intOf]
        · have HN := Lib.hid (HB.out p0 p1 p2 rfl (Or.inr (Or.inr hv)))
          have hgr := hg2.next hb
          go_wp2_with fail
          refine (atoi_bad p2 (by omega) hv _ hgr).mono ?_
          rintro e w3 ⟨z, N3, rfl, hb3⟩
          have hb4 := below_next hb hb3
          have hbw4 := below_next hbw hb4
          obtain ⟨⟨_, r0, r1, r2, r3⟩, f0, f1, f2, f3⟩ := HBX.out.keep (B := w2.heap.size) HBX.out.1.1 hb4
          clear z0 z1 z2
          go_wp2
          refine bodyPost_ret (v := .tuple #[.agg #[.int .i64 0, .int .i64 0, .int .i64 0, .string ByteArray.empty], .int .i64 40]) (by simp [results, Tryd.results10, go_sem, r0, r1, r2, r3]; rfl) rfl ?_
          exact ⟨by rw [HN.out]; rfl, bel4 hbw4⟩
      · have HE := Lib.hid (HM.out p0 p1 p2 x0 x1 x2 rfl q0 q1 q2)
        clear z0 z1 z2 q0 q1 q2
        have HA := Lib.hid hA
        obtain ⟨_, t0, t1, t2, _, _, _⟩ := hA
        go_wp2_with fail
        have hlp : pre.length ≤ 140737488351232 := by omega
        have HVB := Lib.hid (box_new wr ⟨x0, x1, x2, pre⟩)
        have hal := below_one wr (.cells #[.int .i64 x0, .int .i64 x1, .int .i64 x2, .string ⟨pre.toArray⟩] 23)
        refine (show_walk ⟨x0, x1, x2, pre⟩ hlp _ ((hg2.next hb).next hal)).mono ?_
        rintro e w3 ⟨he, hb3⟩
        have hb5 := below_next hb (below_next hal hb3)
        have hbw5 := below_next hbw hb5
        have HV3 := Lib.hid (HVB.out.keep (B := wr.heap.size + 1) (by omega) (hb3.mono (by simp)))
        have HR3 := Lib.hid (HBX.out.keep (B := w2.heap.size) HBX.out.1.1 hb5)
        clear t0 t1 t2
        cases hmay : Sem.may ⟨x0, x1, x2, pre⟩
        · have HN : Hid (Sem.parse l = none) := Lib.hid (by rw [HE.out, if_neg (by rw [hmay]; simp)])
          rw [showR, hmay, if_neg (by simp)] at he
          subst he
          obtain ⟨⟨_, r0, r1, r2, r3⟩, f0, f1, f2, f3⟩ := HR3.out
          clear hal hb3
          go_wp2
          refine bodyPost_ret (v := .tuple #[.agg #[.int .i64 0, .int .i64 0, .int .i64 0, .string ByteArray.empty], .int .i64 40]) (by simp [results, Tryd.results10, go_sem, r0, r1, r2, r3]; rfl) rfl ?_
          exact ⟨by rw [HN.out]; rfl, bel4 hbw5⟩
        · rw [showR, hmay, if_pos rfl] at he
          by_cases ht : Sem.text ⟨x0, x1, x2, pre⟩ = l
          · have HN : Hid (Sem.parse l = some ⟨x0, x1, x2, pre⟩) := Lib.hid (by rw [HE.out, if_pos ⟨hmay, ht⟩])
            rw [ht] at he
            subst he
            have hll : (l == l) = true := by simp
            clear hal hb3 ht
            go_wp2_with fail
            refine (clone_walk pre (by omega) _).mono ?_
            rintro e w4 ⟨rfl, hb4⟩
            have hbw6 := below_next hbw5 hb4
            obtain ⟨⟨_, v0, v1, v2, v3⟩, _, _, _, y3⟩ := HV3.out.keep (B := w3.heap.size) HV3.out.1.1 hb4
            obtain ⟨⟨_, r0, r1, r2, r3⟩, f0, f1, f2, f3⟩ := HR3.out.keep (B := w3.heap.size) HR3.out.1.1 hb4
            have hne : wr.heap.size ≠ w.heap.size := by have := hb.size; have := HBX.out.1.1; omega
            simp only at v0 v1 v2 v3
            clear hb4 hll
            go_wp2
            have hbw7 : Below w.heap.size w (w4.setCell ⟨wr.heap.size, 3, none⟩ (.string ⟨pre.toArray⟩)) := hbw6.setCell (p := ⟨wr.heap.size, 3, none⟩) (by show w.heap.size ≤ wr.heap.size; have := hbw.size; have := hb.size; omega) _
            refine bodyPost_ret (v := .tuple #[.agg #[.int .i64 x0, .int .i64 x1, .int .i64 x2, .string ⟨pre.toArray⟩], .int .i64 0]) (by simp [results, Tryd.results10, go_sem, r0, r1, r2, r3]) rfl ?_
            exact ⟨by rw [HN.out]; rfl, bel4 hbw7⟩
          · have HN : Hid (Sem.parse l = none) := Lib.hid (by rw [HE.out, if_neg (fun h => ht h.2)])
            subst he
            have hll : (Sem.text ⟨x0, x1, x2, pre⟩ == l) = false := by simpa using ht
            obtain ⟨⟨_, r0, r1, r2, r3⟩, f0, f1, f2, f3⟩ := HR3.out
            clear hal hb3 ht
            go_wp2
            refine bodyPost_ret (v := .tuple #[.agg #[.int .i64 0, .int .i64 0, .int .i64 0, .string ByteArray.empty], .int .i64 40]) (by simp [results, Tryd.results10, go_sem, r0, r1, r2, r3]; rfl) rfl ?_
            exact ⟨by rw [HN.out]; rfl, bel4 hbw5⟩
  · have HN := Lib.hid (HC.out h3)
    obtain ⟨⟨_, r0, r1, r2, r3⟩, f0, f1, f2, f3⟩ := hbx
    have hd : ((ps.length : Int) != 3) = true := by rw [bne_iff_ne]; omega
    go_wp2
    refine bodyPost_ret (v := .tuple #[.agg #[.int .i64 0, .int .i64 0, .int .i64 0, .string ByteArray.empty], .int .i64 40]) (by simp [results, Tryd.results10, go_sem, r0, r1, r2, r3]; rfl) rfl ?_
    exact ⟨by rw [HN.out]; rfl, bel4 hbw⟩

theorem parse_walk (s : ByteArray) (hs : s.size ≤ 140737488351232) (w : World) (hg : Globs w) :
    Calls Tryd.prog 10 #[.string s] w fun e w' => e = .returned (parseR (Sem.parse s.data.toList)) ∧ Below w.heap.size w w' := by
  have h := parseL_walk s.data.toList (by rw [← Lib.size_eq]; exact hs) w hg
  rw [← tx_of s] at h
  exact h
end Go.Proofs.YtifblpbikngjeaaDoor
