/- The program's Highest. -/
import Derived.Test.YtifblpbikngjeaaDoorSemCmpAll
import Derived.Test.YtifblpbikngjeaaDoorSemHigh
namespace Go.Proofs.YtifblpbikngjeaaDoor
open Go.RowKit
set_option linter.unusedVariables false

/-- A version in a box that may be written. -/
def Box4 (W : World) (g : Nat) (v : Sem.Ver) : Prop := VerAt W g v ∧ W.frozen? ⟨g, 0, none⟩ = false ∧ W.frozen? ⟨g, 1, none⟩ = false ∧ W.frozen? ⟨g, 2, none⟩ = false ∧ W.frozen? ⟨g, 3, none⟩ = false

theorem Box4.keep {W W' : World} {g B : Nat} {v : Sem.Ver} (h : Box4 W g v) (hg : g < B) (hb : Below B W W') : Box4 W' g v := by
  obtain ⟨⟨h0, h1, h2, h3, h4⟩, f0, f1, f2, f3⟩ := h
  exact ⟨⟨Nat.lt_of_lt_of_le h0 hb.size, (hb.cell (p := ⟨g, 0, none⟩) hg).trans h1, (hb.cell (p := ⟨g, 1, none⟩) hg).trans h2, (hb.cell (p := ⟨g, 2, none⟩) hg).trans h3, (hb.cell (p := ⟨g, 3, none⟩) hg).trans h4⟩,
    (hb.frozen (p := ⟨g, 0, none⟩) hg).trans f0, (hb.frozen (p := ⟨g, 1, none⟩) hg).trans f1, (hb.frozen (p := ⟨g, 2, none⟩) hg).trans f2, (hb.frozen (p := ⟨g, 3, none⟩) hg).trans f3⟩

theorem Box4.set {W : World} {g : Nat} {v : Sem.Ver} (h : Box4 W g v) (u : Sem.Ver) : Box4 ((((W.setCell ⟨g, 0, none⟩ (.int .i64 u.maj)).setCell ⟨g, 1, none⟩ (.int .i64 u.min)).setCell ⟨g, 2, none⟩ (.int .i64 u.pat)).setCell ⟨g, 3, none⟩ (.string ⟨u.pre.toArray⟩)) g u := by
  obtain ⟨⟨h0, h1, h2, h3, h4⟩, f0, f1, f2, f3⟩ := h
  exact ⟨⟨by simpa using h0, by simp [go_sem, h1], by simp [go_sem, h2], by simp [go_sem, h3], by simp [go_sem, h4]⟩, by simp [go_sem, f0], by simp [go_sem, f1], by simp [go_sem, f2], by simp [go_sem, f3]⟩

theorem box_new (w : World) (v : Sem.Ver) : Box4 (w.alloc (.cells #[.int .i64 v.maj, .int .i64 v.min, .int .i64 v.pat, .string ⟨v.pre.toArray⟩] 23)) w.heap.size v :=
  ⟨ver_new w v, by simp [go_sem], by simp [go_sem], by simp [go_sem], by simp [go_sem]⟩

set_option maxRecDepth 100000 in
set_option maxHeartbeats 2000000 in
theorem high_walk (A : Option Addr) (cap : Nat) (l : List Sem.Ver) (w : World) (hA : Vers w w.heap.size A l) (hl : l.length ≤ 1000000) (hcap : l.length ≤ cap) (hs : ∀ v ∈ l, v.pre.length ≤ 1000000) :
    Calls Tryd.prog 21 #[.slice A l.length cap] w fun e w' => e = .returned (highR (Sem.best l)) ∧ Below w.heap.size w w' := by
  have HS := Lib.hid hs
  have HA := Lib.hid hA
  clear hs
  by_cases hz : l = []
  · subst hz
    go_enter Tryd.func21, Tryd.ntmps21
    go_wp2
    refine bodyPost_ret (v := .tuple #[.agg #[.int .i64 0, .int .i64 0, .int .i64 0, .string ByteArray.empty], .bool false]) (by simp [results, Tryd.results21, go_sem]; rfl) rfl ?_
    exact ⟨rfl, below_one _ _⟩
  · have hpos : 0 < l.length := List.length_pos_iff.2 hz
    have h1 : (1 : Int) ≤ (l.length : Int) := by omega
    have hlc : (l.length : Int) ≤ (cap : Int) := by omega
    rcases hA with h0 | ⟨g, off, rfl, hg, hc⟩
    · omega
    · have HCC := Lib.hid hc
      have HG := Lib.hid hg
      obtain ⟨p0, p1, p2, p3⟩ := hc 0 hpos
      simp only [Nat.zero_mul, Nat.add_zero] at p0 p1 p2 p3
      obtain ⟨y, hy⟩ : ∃ y, y = l[0] := ⟨_, rfl⟩
      rw [← hy] at p0 p1 p2 p3
      have HY := Lib.hid hy
      clear hc hy
      have hlen0 : ((l.length : Int) == 0) = false := by rw [beq_eq_false_iff_ne]; omega
      have hb0 : Below w.heap.size w ((w.alloc (.cells #[.int .i64 0, .int .i64 0, .int .i64 0, .string ⟨#[]⟩] 23)).alloc (.cells #[.int .i64 y.maj, .int .i64 y.min, .int .i64 y.pat, .string ⟨y.pre.toArray⟩] 23)) := below_new (below_one _ _) _
      have hR0 := (box_new w ⟨0, 0, 0, []⟩).keep (B := w.heap.size + 1) (by omega) ((below_one (w.alloc (.cells #[.int .i64 0, .int .i64 0, .int .i64 0, .string ⟨#[]⟩] 23)) (.cells #[.int .i64 y.maj, .int .i64 y.min, .int .i64 y.pat, .string ⟨y.pre.toArray⟩] 23)).mono (by simp))
      have hH0 := box_new (w.alloc (.cells #[.int .i64 0, .int .i64 0, .int .i64 0, .string ⟨#[]⟩] 23)) y
      have hz0 : ((w.alloc (.cells #[.int .i64 0, .int .i64 0, .int .i64 0, .string ⟨#[]⟩] 23)).alloc (.cells #[.int .i64 y.maj, .int .i64 y.min, .int .i64 y.pat, .string ⟨y.pre.toArray⟩] 23)).heap.size = w.heap.size + 2 := by simp
      rw [World.size_alloc] at hH0
      have HB0 := Lib.hid hb0
      have HR0 := Lib.hid hR0
      have HH0 := Lib.hid hH0
      clear hb0 hR0 hH0
      by_cases hc1 : cap = 1
      · have hl1 : l.length = 1 := by omega
        have HE : Hid (Sem.best l = some y) := Lib.hid (by
          rw [HY.out]
          exact Sem.lead_best (l := l) (i := 0) (by rw [hl1]; exact Sem.lead_first hpos))
        go_enter Tryd.func21, Tryd.ntmps21
        go_wp2_with fail
        clear p0 p1 p2 p3
        go_loop [17] (fun i => i = .int .i64 0) (fun _ => 0)
        case atStart => rfl
        case round =>
          obtain rfl := hrel
          go_wp2
          refine bodyPost_ret (v := .tuple #[.agg #[.int .i64 y.maj, .int .i64 y.min, .int .i64 y.pat, .string ⟨y.pre.toArray⟩], .bool true]) (by simp [results, Tryd.results21, go_sem]) rfl ?_
          exact ⟨by rw [HE.out]; rfl, below_new (below_one _ _) _⟩
      · go_enter Tryd.func21, Tryd.ntmps21
        go_wp2_with fail
        clear p0 p1 p2 p3
        generalize hW0 : (w.alloc (.cells #[.int .i64 0, .int .i64 0, .int .i64 0, .string ⟨#[]⟩] 23)).alloc (.cells #[.int .i64 y.maj, .int .i64 y.min, .int .i64 y.pat, .string ⟨y.pre.toArray⟩] 23) = W0 at HB0 HR0 HH0 hz0 ⊢
        clear hW0
        go_loopw [17] (fun ii wr => ∃ i j : Nat, ii = .int .i64 i ∧ i + 1 ≤ l.length ∧ (∃ hj : j < l.length, Sem.Lead l (i + 1) j ∧ Box4 wr (w.heap.size + 1) l[j]) ∧ Below (w.heap.size + 1) W0 wr)
          (fun i _ => l.length - (intOf i).toNat)
        case atStart => exact ⟨0, 0, rfl, hpos, ⟨hpos, Sem.lead_first hpos, by rw [← HY.out]; exact HH0.out⟩, Below.refl _ _⟩
        case round =>
          obtain ⟨i, j, rfl, hi, ⟨hj, hLd, hbox⟩, hb⟩ := hrel
          have HLD := Lib.hid hLd
          have HBX := Lib.hid hbox
          have HRX := Lib.hid (HR0.out.keep (B := w.heap.size + 1) (by omega) hb)
          have hbw : Below w.heap.size w wr := HB0.out.trans (hb.mono (by omega))
          by_cases hlt : i + 1 < l.length
          · obtain ⟨q0, q1, q2, q3⟩ := HCC.out (i + 1) hlt
            have hgw := HG.out
            rw [← (cell_of_below (o := off + (i + 1) * 4 + 0) hbw hgw).1] at q0
            rw [← (cell_of_below (o := off + (i + 1) * 4 + 1) hbw hgw).1] at q1
            rw [← (cell_of_below (o := off + (i + 1) * 4 + 2) hbw hgw).1] at q2
            rw [← (cell_of_below (o := off + (i + 1) * 4 + 3) hbw hgw).1] at q3
            rw [show off + (i + 1) * 4 + 0 = off + 4 + i * 4 from by omega] at q0
            rw [show off + (i + 1) * 4 + 1 = off + 4 + i * 4 + 1 from by omega] at q1
            rw [show off + (i + 1) * 4 + 2 = off + 4 + i * 4 + 2 from by omega] at q2
            rw [show off + (i + 1) * 4 + 3 = off + 4 + i * 4 + 3 from by omega] at q3
            obtain ⟨x, hx⟩ : ∃ x, x = l[i + 1] := ⟨_, rfl⟩
            obtain ⟨t, ht⟩ : ∃ t, t = l[j] := ⟨_, rfl⟩
            have hxs := HS.out l[i + 1] (List.getElem_mem _)
            have hts := HS.out l[j] (List.getElem_mem _)
            rw [← hx] at q0 q1 q2 q3 hxs
            rw [← ht] at hbox hts
            rw [← ht] at HBX
            have HX := Lib.hid hx
            have HT := Lib.hid ht
            obtain ⟨⟨hk, t0, t1, t2, t3⟩, f0, f1, f2, f3⟩ := hbox
            have hi1 : (i : Int) < ((l.length - 1 : Nat) : Int) := by omega
            clear hx ht hLd
            go_wp2_with fail
            have hV := ver_new wr x
            have hal := below_one wr (.cells #[.int .i64 x.maj, .int .i64 x.min, .int .i64 x.pat, .string ⟨x.pre.toArray⟩] 23)
            refine (cmp_walk x t hxs hts _).mono ?_
            rintro e w3 ⟨rfl, hb3⟩
            obtain ⟨_, v0, v1, v2, v3⟩ := hV.next hb3
            have hb4 := below_next hal hb3
            have hb5 : Below (w.heap.size + 1) W0 w3 := hb.trans (hb4.mono (by have := hb.size; omega))
            have hB3 := HBX.out.keep (B := wr.heap.size) hk hb4
            have HB3 := Lib.hid hB3
            obtain ⟨⟨_, s0, s1, s2, s3⟩, g0, g1, g2, g3⟩ := hB3
            clear t0 t1 t2 t3 f0 f1 f2 f3 q0 q1 q2 q3 hV hal hb3 hb4 hi1
            obtain ⟨k, hkk⟩ : ∃ k, k = Sem.cmp x t := ⟨_, rfl⟩
            rw [← hkk]
            by_cases hgt : 0 < k
            · have HN : Hid (Sem.Lead l (i + 2) (i + 1)) := Lib.hid (Sem.lead_take HLD.out hlt (by rw [← HX.out, ← HT.out, ← hkk]; exact hgt))
              have hi2 : (i : Int) ≤ 1000000 := by omega
              clear hkk
              go_wp2
              go_roundw
              case rel => exact ⟨i + 1, i + 1, by go_num, by omega, ⟨hlt, HN.out, by rw [← HX.out]; exact HB3.out.set x⟩, (((hb5.setCell (p := ⟨w.heap.size + 1, 0, none⟩) (Nat.le_refl _) _).setCell (p := ⟨w.heap.size + 1, 1, none⟩) (Nat.le_refl _) _).setCell (p := ⟨w.heap.size + 1, 2, none⟩) (Nat.le_refl _) _).setCell (p := ⟨w.heap.size + 1, 3, none⟩) (Nat.le_refl _) _⟩
              case measure => simp [intOf]; omega
            · have HN : Hid (Sem.Lead l (i + 2) j) := Lib.hid (Sem.lead_keep HLD.out hlt (by rw [← HX.out, ← HT.out, ← hkk]; omega))
              have hi2 : (i : Int) ≤ 1000000 := by omega
              clear hkk
              go_wp2
              go_roundw
              case rel => exact ⟨i + 1, j, by go_num, by omega, ⟨hj, HN.out, by rw [← HT.out]; exact HB3.out⟩, hb5⟩
              case measure => simp [intOf]; omega
          · obtain ⟨⟨hk, t0, t1, t2, t3⟩, f0, f1, f2, f3⟩ := hbox
            have HE : Hid (Sem.best l = some l[j]) := Lib.hid (Sem.lead_best (l := l) (i := j) (by
              have := HLD.out
              rwa [show i + 1 = l.length from by omega] at this))
            obtain ⟨t, ht⟩ : ∃ t, t = l[j] := ⟨_, rfl⟩
            rw [← ht] at t0 t1 t2 t3 HE
            obtain ⟨⟨hk2, r0, r1, r2, r3⟩, e0, e1, e2, e3⟩ := HRX.out
            have hi1 : ¬ (i : Int) < ((l.length - 1 : Nat) : Int) := by omega
            clear ht hLd
            go_wp2
            refine bodyPost_ret (v := .tuple #[.agg #[.int .i64 t.maj, .int .i64 t.min, .int .i64 t.pat, .string ⟨t.pre.toArray⟩], .bool true]) (by simp [results, Tryd.results21, go_sem, r0, r1, r2, r3]) rfl ?_
            exact ⟨by rw [HE.out]; rfl, bel4 hbw⟩
end Go.Proofs.YtifblpbikngjeaaDoor
