/- The program's bounds of the ends. -/
import Derived.Test.YthjombepcmebfaaGreatDoorGRngB
import Derived.Test.YthjombepcmebfaaGreatDoorGRngA
namespace Go.Proofs.YthjombepcmebfaaGreatDoor
open Go.RowKit
set_option linter.unusedVariables false

theorem Box5.setOp {W : World} {g : Nat} {b : Rng.Bd} (h : Box5 W g b) (o : Int) : Box5 (W.setCell ⟨g, 0, none⟩ (.int .i64 o)) g ⟨o, b.v⟩ := by
  obtain ⟨h0, ⟨h1, h2, h3, h4, h5⟩, f0, f1, f2, f3, f4⟩ := h
  simp only [Nat.zero_add] at h1 h2 h3 h4 h5
  exact ⟨by simpa using h0, ⟨by simp [go_sem, h1], by simp [go_sem, h2], by simp [go_sem, h3], by simp [go_sem, h4], by simp [go_sem, h5]⟩, by simp [go_sem, f0], by simp [go_sem, f1], by simp [go_sem, f2], by simp [go_sem, f3], by simp [go_sem, f4]⟩

theorem Box5.other {W : World} {g z i : Nat} {b : Rng.Bd} {v : Value} (h : Box5 W g b) (hne : z ≠ g) : Box5 (W.setCell ⟨z, i, none⟩ v) g b := by
  have k : ∀ j, (W.setCell ⟨z, i, none⟩ v).cell? ⟨g, j, none⟩ = W.cell? ⟨g, j, none⟩ := fun j => World.cell?_setCell_other _ _ _ _ (fun e => hne (congrArg Addr.block e))
  obtain ⟨h0, ⟨h1, h2, h3, h4, h5⟩, f0, f1, f2, f3, f4⟩ := h
  exact ⟨by simpa using h0, ⟨(k _).trans h1, (k _).trans h2, (k _).trans h3, (k _).trans h4, (k _).trans h5⟩, by simp [go_sem, f0], by simp [go_sem, f1], by simp [go_sem, f2], by simp [go_sem, f3], by simp [go_sem, f4]⟩

theorem least_id {x : Rng.Bd} (h : (x.op == 3) = false) : Rng.least x = x := by unfold Rng.least; rw [if_neg (by simpa using h)]
theorem most_id {x : Rng.Bd} (h : (x.op == 3) = false) : Rng.most x = x := by unfold Rng.most; rw [if_neg (by simpa using h)]
theorem least_three {x : Rng.Bd} (h : (x.op == 3) = true) : Rng.least x = ⟨4, x.v⟩ := by unfold Rng.least; rw [if_pos (by simpa using h)]
theorem most_three {x : Rng.Bd} (h : (x.op == 3) = true) : Rng.most x = ⟨2, x.v⟩ := by unfold Rng.most; rw [if_pos (by simpa using h)]

theorem shut_none {x y : Rng.Bd} (hx : (x.op == 0) = true) (hy : (y.op == 0) = true) : Rng.shut (x, y) = [] := by
  simp only [beq_iff_eq] at hx hy
  unfold Rng.shut; rw [if_pos ⟨hx, hy⟩]
theorem shut_low {x y : Rng.Bd} (hx : (x.op == 0) = false) (hy : (y.op == 0) = true) : Rng.shut (x, y) = [Rng.least x] := by
  simp only [beq_iff_eq, beq_eq_false_iff_ne] at hx hy
  unfold Rng.shut; rw [if_neg (fun h => hx h.1), if_pos hy]
theorem shut_high {x y : Rng.Bd} (hx : (x.op == 0) = true) (hy : (y.op == 0) = false) : Rng.shut (x, y) = [Rng.most y] := by
  simp only [beq_iff_eq, beq_eq_false_iff_ne] at hx hy
  unfold Rng.shut; rw [if_neg (fun h => hy h.2), if_neg hy, if_pos hx]
theorem shut_both {x y : Rng.Bd} (hx : (x.op == 0) = false) (hy : (y.op == 0) = false) : Rng.shut (x, y) = if Sem.cmp x.v y.v < 0 then [Rng.least x, Rng.most y]
    else if (Sem.cmp x.v y.v == 0) = true ∧ ((Rng.least x).op == 4) = true ∧ ((Rng.most y).op == 2) = true then [⟨3, x.v⟩] else [Rng.nil] := by
  simp only [beq_iff_eq, beq_eq_false_iff_ne] at hx hy ⊢
  unfold Rng.shut; rw [if_neg (fun h => hy h.2), if_neg hy, if_neg hx]

set_option maxRecDepth 100000 in
set_option maxHeartbeats 16000000 in
theorem bounds_walk (ge : Nat) (x y : Rng.Bd) (hx : x.v.pre.length ≤ 1000000) (hy : y.v.pre.length ≤ 1000000) (w : World) (hE : EndsAt w ge x y) :
    Calls Tryz.prog 45 #[.pointer (some ⟨ge, 0, none⟩)] w fun e w' => BdsR w (Rng.shut (x, y)) e w' := by
  obtain ⟨h0, x0, x1, x2, x3, x4, y0, y1, y2, y3, y4, f0, f1, f2, f3, f4, f5, f6, f7, f8, f9⟩ := hE
  clear f0 f1 f2 f3 f4 f5 f6 f7 f8 f9
  go_enter Tryz.func45, Tryz.ntmps45
  go_wp2_with fail
  go_region
  · have hbW : Below w.heap.size w ((w.alloc (.cells #[.int .i64 x.op, .int .i64 x.v.maj, .int .i64 x.v.min, .int .i64 x.v.pat, .string ⟨x.v.pre.toArray⟩] 57)).alloc (.cells #[.int .i64 y.op, .int .i64 y.v.maj, .int .i64 y.v.min, .int .i64 y.v.pat, .string ⟨y.v.pre.toArray⟩] 57)).drew := (below_new (below_one _ _) _).drew
    have HF : Hid (Box5 ((w.alloc (.cells #[.int .i64 x.op, .int .i64 x.v.maj, .int .i64 x.v.min, .int .i64 x.v.pat, .string ⟨x.v.pre.toArray⟩] 57)).alloc (.cells #[.int .i64 y.op, .int .i64 y.v.maj, .int .i64 y.v.min, .int .i64 y.v.pat, .string ⟨y.v.pre.toArray⟩] 57)).drew (w.heap.size) x) := Lib.hid ((box5_new w x).keep (B := w.heap.size + 1) (by omega) (((below_one (w.alloc (.cells #[.int .i64 x.op, .int .i64 x.v.maj, .int .i64 x.v.min, .int .i64 x.v.pat, .string ⟨x.v.pre.toArray⟩] 57)) (.cells #[.int .i64 y.op, .int .i64 y.v.maj, .int .i64 y.v.min, .int .i64 y.v.pat, .string ⟨y.v.pre.toArray⟩] 57)).mono (by simp)).drew))
    have hS := box5_new (w.alloc (.cells #[.int .i64 x.op, .int .i64 x.v.maj, .int .i64 x.v.min, .int .i64 x.v.pat, .string ⟨x.v.pre.toArray⟩] 57)) y
    rw [World.size_alloc] at hS
    have HS : Hid (Box5 ((w.alloc (.cells #[.int .i64 x.op, .int .i64 x.v.maj, .int .i64 x.v.min, .int .i64 x.v.pat, .string ⟨x.v.pre.toArray⟩] 57)).alloc (.cells #[.int .i64 y.op, .int .i64 y.v.maj, .int .i64 y.v.min, .int .i64 y.v.pat, .string ⟨y.v.pre.toArray⟩] 57)).drew (w.heap.size + 1) y) := Lib.hid hS
    clear hS
    generalize hW : ((w.alloc (.cells #[.int .i64 x.op, .int .i64 x.v.maj, .int .i64 x.v.min, .int .i64 x.v.pat, .string ⟨x.v.pre.toArray⟩] 57)).alloc (.cells #[.int .i64 y.op, .int .i64 y.v.maj, .int .i64 y.v.min, .int .i64 y.v.pat, .string ⟨y.v.pre.toArray⟩] 57)).drew = W at hbW HF HS ⊢
    clear hW x0 x1 x2 x3 x4 y0 y1 y2 y3 y4
    obtain ⟨zp, ⟨p0, p1, p2, p3, p4⟩, gp0, gp1, gp2, gp3, gp4⟩ := HF.out
    simp only [Nat.zero_add] at p1 p2 p3 p4
    obtain ⟨zq, ⟨q0, q1, q2, q3, q4⟩, gq0, gq1, gq2, gq3, gq4⟩ := HS.out
    simp only [Nat.zero_add] at q1 q2 q3 q4
    cases ex : (x.op == 0)
    · cases ey : (y.op == 0)
      · cases e3 : (x.op == 3)
        · cases n3 : (y.op == 3)
          · have HL : Hid (Rng.shut (x, y) = if Sem.cmp x.v y.v < 0 then [x, y] else if (Sem.cmp x.v y.v == 0) = true ∧ (x.op == 4) = true ∧ (y.op == 2) = true then [⟨3, x.v⟩] else [Rng.nil]) := Lib.hid (by rw [shut_both ex ey, least_id e3, most_id n3])
            have HB2 : Hid (Below w.heap.size w W) := Lib.hid hbW
            have HX2 : Hid (Box5 W (w.heap.size) x) := Lib.hid HF.out
            have HY2 : Hid (Box5 W (w.heap.size + 1) y) := Lib.hid HS.out
            go_wp2_with fail
            clear p0 p1 p2 p3 p4 gp0 gp1 gp2 gp3 gp4 q0 q1 q2 q3 q4 gq0 gq1 gq2 gq3 gq4
            refine (cmp_walk x.v y.v hx hy _).mono ?_
            rintro e W3 ⟨rfl, hb3⟩
            have HX3 := Lib.hid (HX2.out.keep HX2.out.1 hb3)
            have HY3 := Lib.hid (HY2.out.keep HY2.out.1 hb3)
            have HB3 := Lib.hid (below_next HB2.out hb3)
            clear hb3 HX2 HY2 HB2
            obtain ⟨k, hk⟩ : ∃ k, k = Sem.cmp x.v y.v := ⟨_, rfl⟩
            rw [← hk] at HL ⊢
            clear hk
            obtain ⟨za, ⟨a0, a1, a2, a3, a4⟩, ga0, ga1, ga2, ga3, ga4⟩ := HX3.out
            simp only [Nat.zero_add] at a1 a2 a3 a4
            obtain ⟨zb, ⟨b0, b1, b2, b3, b4⟩, gb0, gb1, gb2, gb3, gb4⟩ := HY3.out
            simp only [Nat.zero_add] at b1 b2 b3 b4
            by_cases hk : k < 0
            · have HL2 : Hid (Rng.shut (x, y) = [x, y]) := Lib.hid (by rw [HL.out, if_pos hk])
              go_wp2
              go_ret
              unfold BdsR
              rw [HL2.out]
              exact ⟨_, 2, rfl, by simp, bds_two _ _ (by simp) x y, below_new HB3.out _⟩
            · cases ez : (k == 0)
              · have HL2 : Hid (Rng.shut (x, y) = [Rng.nil]) := Lib.hid (by rw [HL.out, if_neg hk, if_neg (by simp [ez])])
                go_wp2_with fail
                clear a0 a1 a2 a3 a4 ga0 ga1 ga2 ga3 ga4 b0 b1 b2 b3 b4 gb0 gb1 gb2 gb3 gb4
                refine (nothing_walk _).mono ?_
                rintro e W4 ⟨rfl, hb4⟩
                have hb5 := below_next HB3.out hb4
                have hV : bdV Rng.nil = .agg #[.int .i64 1, .int .i64 0, .int .i64 0, .int .i64 0, .string ⟨#[48]⟩] := rfl
                rw [hV]
                clear hV hb4
                go_wp2
                go_ret
                unfold BdsR
                rw [HL2.out]
                exact ⟨_, 1, rfl, by simp, bds_one _ _ (by simp) Rng.nil, below_new hb5 _⟩
              · cases e4 : (x.op == 4)
                · have HL2 : Hid (Rng.shut (x, y) = [Rng.nil]) := Lib.hid (by rw [HL.out, if_neg hk, if_neg (by simp [ez, e4])])
                  go_wp2_with fail
                  clear a0 a1 a2 a3 a4 ga0 ga1 ga2 ga3 ga4 b0 b1 b2 b3 b4 gb0 gb1 gb2 gb3 gb4
                  refine (nothing_walk _).mono ?_
                  rintro e W4 ⟨rfl, hb4⟩
                  have hb5 := below_next HB3.out hb4
                  have hV : bdV Rng.nil = .agg #[.int .i64 1, .int .i64 0, .int .i64 0, .int .i64 0, .string ⟨#[48]⟩] := rfl
                  rw [hV]
                  clear hV hb4
                  go_wp2
                  go_ret
                  unfold BdsR
                  rw [HL2.out]
                  exact ⟨_, 1, rfl, by simp, bds_one _ _ (by simp) Rng.nil, below_new hb5 _⟩
                · cases e2 : (y.op == 2)
                  · have HL2 : Hid (Rng.shut (x, y) = [Rng.nil]) := Lib.hid (by rw [HL.out, if_neg hk, if_neg (by simp [ez, e4, e2])])
                    go_wp2_with fail
                    clear a0 a1 a2 a3 a4 ga0 ga1 ga2 ga3 ga4 b0 b1 b2 b3 b4 gb0 gb1 gb2 gb3 gb4
                    refine (nothing_walk _).mono ?_
                    rintro e W4 ⟨rfl, hb4⟩
                    have hb5 := below_next HB3.out hb4
                    have hV : bdV Rng.nil = .agg #[.int .i64 1, .int .i64 0, .int .i64 0, .int .i64 0, .string ⟨#[48]⟩] := rfl
                    rw [hV]
                    clear hV hb4
                    go_wp2
                    go_ret
                    unfold BdsR
                    rw [HL2.out]
                    exact ⟨_, 1, rfl, by simp, bds_one _ _ (by simp) Rng.nil, below_new hb5 _⟩
                  · have HL2 : Hid (Rng.shut (x, y) = [⟨3, x.v⟩]) := Lib.hid (by rw [HL.out, if_neg hk, if_pos (by simp [ez, e4, e2])])
                    go_wp2
                    go_ret
                    unfold BdsR
                    rw [HL2.out]
                    exact ⟨_, 1, rfl, by simp, bds_one _ _ (by simp) ⟨3, x.v⟩, below_new HB3.out _⟩
          · have HL : Hid (Rng.shut (x, y) = if Sem.cmp x.v y.v < 0 then [x, ⟨2, y.v⟩] else if (Sem.cmp x.v y.v == 0) = true ∧ (x.op == 4) = true ∧ ((2 : Int) == 2) = true then [⟨3, x.v⟩] else [Rng.nil]) := Lib.hid (by rw [shut_both ex ey, least_id e3, most_three n3])
            have HB2 : Hid (Below w.heap.size w (W.setCell ⟨w.heap.size + 1, 0, none⟩ (.int .i64 2))) := Lib.hid (hbW.setCell (p := ⟨w.heap.size + 1, 0, none⟩) (by show w.heap.size ≤ w.heap.size + 1; omega) _)
            have HX2 : Hid (Box5 (W.setCell ⟨w.heap.size + 1, 0, none⟩ (.int .i64 2)) (w.heap.size) x) := Lib.hid (HF.out.other (by omega))
            have HY2 : Hid (Box5 (W.setCell ⟨w.heap.size + 1, 0, none⟩ (.int .i64 2)) (w.heap.size + 1) ⟨2, y.v⟩) := Lib.hid (HS.out.setOp 2)
            go_wp2_with fail
            clear p0 p1 p2 p3 p4 gp0 gp1 gp2 gp3 gp4 q0 q1 q2 q3 q4 gq0 gq1 gq2 gq3 gq4
            refine (cmp_walk x.v y.v hx hy _).mono ?_
            rintro e W3 ⟨rfl, hb3⟩
            have HX3 := Lib.hid (HX2.out.keep HX2.out.1 hb3)
            have HY3 := Lib.hid (HY2.out.keep HY2.out.1 hb3)
            have HB3 := Lib.hid (below_next HB2.out hb3)
            clear hb3 HX2 HY2 HB2
            obtain ⟨k, hk⟩ : ∃ k, k = Sem.cmp x.v y.v := ⟨_, rfl⟩
            rw [← hk] at HL ⊢
            clear hk
            obtain ⟨za, ⟨a0, a1, a2, a3, a4⟩, ga0, ga1, ga2, ga3, ga4⟩ := HX3.out
            simp only [Nat.zero_add] at a1 a2 a3 a4
            obtain ⟨zb, ⟨b0, b1, b2, b3, b4⟩, gb0, gb1, gb2, gb3, gb4⟩ := HY3.out
            simp only [Nat.zero_add] at b1 b2 b3 b4
            by_cases hk : k < 0
            · have HL2 : Hid (Rng.shut (x, y) = [x, ⟨2, y.v⟩]) := Lib.hid (by rw [HL.out, if_pos hk])
              go_wp2
              go_ret
              unfold BdsR
              rw [HL2.out]
              exact ⟨_, 2, rfl, by simp, bds_two _ _ (by simp) x ⟨2, y.v⟩, below_new HB3.out _⟩
            · cases ez : (k == 0)
              · have HL2 : Hid (Rng.shut (x, y) = [Rng.nil]) := Lib.hid (by rw [HL.out, if_neg hk, if_neg (by simp [ez])])
                go_wp2_with fail
                clear a0 a1 a2 a3 a4 ga0 ga1 ga2 ga3 ga4 b0 b1 b2 b3 b4 gb0 gb1 gb2 gb3 gb4
                refine (nothing_walk _).mono ?_
                rintro e W4 ⟨rfl, hb4⟩
                have hb5 := below_next HB3.out hb4
                have hV : bdV Rng.nil = .agg #[.int .i64 1, .int .i64 0, .int .i64 0, .int .i64 0, .string ⟨#[48]⟩] := rfl
                rw [hV]
                clear hV hb4
                go_wp2
                go_ret
                unfold BdsR
                rw [HL2.out]
                exact ⟨_, 1, rfl, by simp, bds_one _ _ (by simp) Rng.nil, below_new hb5 _⟩
              · cases e4 : (x.op == 4)
                · have HL2 : Hid (Rng.shut (x, y) = [Rng.nil]) := Lib.hid (by rw [HL.out, if_neg hk, if_neg (by simp [ez, e4])])
                  go_wp2_with fail
                  clear a0 a1 a2 a3 a4 ga0 ga1 ga2 ga3 ga4 b0 b1 b2 b3 b4 gb0 gb1 gb2 gb3 gb4
                  refine (nothing_walk _).mono ?_
                  rintro e W4 ⟨rfl, hb4⟩
                  have hb5 := below_next HB3.out hb4
                  have hV : bdV Rng.nil = .agg #[.int .i64 1, .int .i64 0, .int .i64 0, .int .i64 0, .string ⟨#[48]⟩] := rfl
                  rw [hV]
                  clear hV hb4
                  go_wp2
                  go_ret
                  unfold BdsR
                  rw [HL2.out]
                  exact ⟨_, 1, rfl, by simp, bds_one _ _ (by simp) Rng.nil, below_new hb5 _⟩
                · have HL2 : Hid (Rng.shut (x, y) = [⟨3, x.v⟩]) := Lib.hid (by rw [HL.out, if_neg hk, if_pos (by simp [ez, e4])])
                  go_wp2
                  go_ret
                  unfold BdsR
                  rw [HL2.out]
                  exact ⟨_, 1, rfl, by simp, bds_one _ _ (by simp) ⟨3, x.v⟩, below_new HB3.out _⟩
        · cases n3 : (y.op == 3)
          · have HL : Hid (Rng.shut (x, y) = if Sem.cmp x.v y.v < 0 then [⟨4, x.v⟩, y] else if (Sem.cmp x.v y.v == 0) = true ∧ ((4 : Int) == 4) = true ∧ (y.op == 2) = true then [⟨3, x.v⟩] else [Rng.nil]) := Lib.hid (by rw [shut_both ex ey, least_three e3, most_id n3])
            have HB2 : Hid (Below w.heap.size w (W.setCell ⟨w.heap.size, 0, none⟩ (.int .i64 4))) := Lib.hid (hbW.setCell (p := ⟨w.heap.size, 0, none⟩) (by show w.heap.size ≤ w.heap.size; omega) _)
            have HX2 : Hid (Box5 (W.setCell ⟨w.heap.size, 0, none⟩ (.int .i64 4)) (w.heap.size) ⟨4, x.v⟩) := Lib.hid (HF.out.setOp 4)
            have HY2 : Hid (Box5 (W.setCell ⟨w.heap.size, 0, none⟩ (.int .i64 4)) (w.heap.size + 1) y) := Lib.hid (HS.out.other (by omega))
            go_wp2_with fail
            clear p0 p1 p2 p3 p4 gp0 gp1 gp2 gp3 gp4 q0 q1 q2 q3 q4 gq0 gq1 gq2 gq3 gq4
            refine (cmp_walk x.v y.v hx hy _).mono ?_
            rintro e W3 ⟨rfl, hb3⟩
            have HX3 := Lib.hid (HX2.out.keep HX2.out.1 hb3)
            have HY3 := Lib.hid (HY2.out.keep HY2.out.1 hb3)
            have HB3 := Lib.hid (below_next HB2.out hb3)
            clear hb3 HX2 HY2 HB2
            obtain ⟨k, hk⟩ : ∃ k, k = Sem.cmp x.v y.v := ⟨_, rfl⟩
            rw [← hk] at HL ⊢
            clear hk
            obtain ⟨za, ⟨a0, a1, a2, a3, a4⟩, ga0, ga1, ga2, ga3, ga4⟩ := HX3.out
            simp only [Nat.zero_add] at a1 a2 a3 a4
            obtain ⟨zb, ⟨b0, b1, b2, b3, b4⟩, gb0, gb1, gb2, gb3, gb4⟩ := HY3.out
            simp only [Nat.zero_add] at b1 b2 b3 b4
            by_cases hk : k < 0
            · have HL2 : Hid (Rng.shut (x, y) = [⟨4, x.v⟩, y]) := Lib.hid (by rw [HL.out, if_pos hk])
              go_wp2
              go_ret
              unfold BdsR
              rw [HL2.out]
              exact ⟨_, 2, rfl, by simp, bds_two _ _ (by simp) ⟨4, x.v⟩ y, below_new HB3.out _⟩
            · cases ez : (k == 0)
              · have HL2 : Hid (Rng.shut (x, y) = [Rng.nil]) := Lib.hid (by rw [HL.out, if_neg hk, if_neg (by simp [ez])])
                go_wp2_with fail
                clear a0 a1 a2 a3 a4 ga0 ga1 ga2 ga3 ga4 b0 b1 b2 b3 b4 gb0 gb1 gb2 gb3 gb4
                refine (nothing_walk _).mono ?_
                rintro e W4 ⟨rfl, hb4⟩
                have hb5 := below_next HB3.out hb4
                have hV : bdV Rng.nil = .agg #[.int .i64 1, .int .i64 0, .int .i64 0, .int .i64 0, .string ⟨#[48]⟩] := rfl
                rw [hV]
                clear hV hb4
                go_wp2
                go_ret
                unfold BdsR
                rw [HL2.out]
                exact ⟨_, 1, rfl, by simp, bds_one _ _ (by simp) Rng.nil, below_new hb5 _⟩
              · cases e2 : (y.op == 2)
                · have HL2 : Hid (Rng.shut (x, y) = [Rng.nil]) := Lib.hid (by rw [HL.out, if_neg hk, if_neg (by simp [ez, e2])])
                  go_wp2_with fail
                  clear a0 a1 a2 a3 a4 ga0 ga1 ga2 ga3 ga4 b0 b1 b2 b3 b4 gb0 gb1 gb2 gb3 gb4
                  refine (nothing_walk _).mono ?_
                  rintro e W4 ⟨rfl, hb4⟩
                  have hb5 := below_next HB3.out hb4
                  have hV : bdV Rng.nil = .agg #[.int .i64 1, .int .i64 0, .int .i64 0, .int .i64 0, .string ⟨#[48]⟩] := rfl
                  rw [hV]
                  clear hV hb4
                  go_wp2
                  go_ret
                  unfold BdsR
                  rw [HL2.out]
                  exact ⟨_, 1, rfl, by simp, bds_one _ _ (by simp) Rng.nil, below_new hb5 _⟩
                · have HL2 : Hid (Rng.shut (x, y) = [⟨3, x.v⟩]) := Lib.hid (by rw [HL.out, if_neg hk, if_pos (by simp [ez, e2])])
                  go_wp2
                  go_ret
                  unfold BdsR
                  rw [HL2.out]
                  exact ⟨_, 1, rfl, by simp, bds_one _ _ (by simp) ⟨3, x.v⟩, below_new HB3.out _⟩
          · have HL : Hid (Rng.shut (x, y) = if Sem.cmp x.v y.v < 0 then [⟨4, x.v⟩, ⟨2, y.v⟩] else if (Sem.cmp x.v y.v == 0) = true ∧ ((4 : Int) == 4) = true ∧ ((2 : Int) == 2) = true then [⟨3, x.v⟩] else [Rng.nil]) := Lib.hid (by rw [shut_both ex ey, least_three e3, most_three n3])
            have HB2 : Hid (Below w.heap.size w ((W.setCell ⟨w.heap.size, 0, none⟩ (.int .i64 4)).setCell ⟨w.heap.size + 1, 0, none⟩ (.int .i64 2))) := Lib.hid ((hbW.setCell (p := ⟨w.heap.size, 0, none⟩) (by show w.heap.size ≤ w.heap.size; omega) _).setCell (p := ⟨w.heap.size + 1, 0, none⟩) (by show w.heap.size ≤ w.heap.size + 1; omega) _)
            have HX2 : Hid (Box5 ((W.setCell ⟨w.heap.size, 0, none⟩ (.int .i64 4)).setCell ⟨w.heap.size + 1, 0, none⟩ (.int .i64 2)) (w.heap.size) ⟨4, x.v⟩) := Lib.hid ((HF.out.setOp 4).other (by omega))
            have HY2 : Hid (Box5 ((W.setCell ⟨w.heap.size, 0, none⟩ (.int .i64 4)).setCell ⟨w.heap.size + 1, 0, none⟩ (.int .i64 2)) (w.heap.size + 1) ⟨2, y.v⟩) := Lib.hid ((HS.out.other (by omega)).setOp 2)
            go_wp2_with fail
            clear p0 p1 p2 p3 p4 gp0 gp1 gp2 gp3 gp4 q0 q1 q2 q3 q4 gq0 gq1 gq2 gq3 gq4
            refine (cmp_walk x.v y.v hx hy _).mono ?_
            rintro e W3 ⟨rfl, hb3⟩
            have HX3 := Lib.hid (HX2.out.keep HX2.out.1 hb3)
            have HY3 := Lib.hid (HY2.out.keep HY2.out.1 hb3)
            have HB3 := Lib.hid (below_next HB2.out hb3)
            clear hb3 HX2 HY2 HB2
            obtain ⟨k, hk⟩ : ∃ k, k = Sem.cmp x.v y.v := ⟨_, rfl⟩
            rw [← hk] at HL ⊢
            clear hk
            obtain ⟨za, ⟨a0, a1, a2, a3, a4⟩, ga0, ga1, ga2, ga3, ga4⟩ := HX3.out
            simp only [Nat.zero_add] at a1 a2 a3 a4
            obtain ⟨zb, ⟨b0, b1, b2, b3, b4⟩, gb0, gb1, gb2, gb3, gb4⟩ := HY3.out
            simp only [Nat.zero_add] at b1 b2 b3 b4
            by_cases hk : k < 0
            · have HL2 : Hid (Rng.shut (x, y) = [⟨4, x.v⟩, ⟨2, y.v⟩]) := Lib.hid (by rw [HL.out, if_pos hk])
              go_wp2
              go_ret
              unfold BdsR
              rw [HL2.out]
              exact ⟨_, 2, rfl, by simp, bds_two _ _ (by simp) ⟨4, x.v⟩ ⟨2, y.v⟩, below_new HB3.out _⟩
            · cases ez : (k == 0)
              · have HL2 : Hid (Rng.shut (x, y) = [Rng.nil]) := Lib.hid (by rw [HL.out, if_neg hk, if_neg (by simp [ez])])
                go_wp2_with fail
                clear a0 a1 a2 a3 a4 ga0 ga1 ga2 ga3 ga4 b0 b1 b2 b3 b4 gb0 gb1 gb2 gb3 gb4
                refine (nothing_walk _).mono ?_
                rintro e W4 ⟨rfl, hb4⟩
                have hb5 := below_next HB3.out hb4
                have hV : bdV Rng.nil = .agg #[.int .i64 1, .int .i64 0, .int .i64 0, .int .i64 0, .string ⟨#[48]⟩] := rfl
                rw [hV]
                clear hV hb4
                go_wp2
                go_ret
                unfold BdsR
                rw [HL2.out]
                exact ⟨_, 1, rfl, by simp, bds_one _ _ (by simp) Rng.nil, below_new hb5 _⟩
              · have HL2 : Hid (Rng.shut (x, y) = [⟨3, x.v⟩]) := Lib.hid (by rw [HL.out, if_neg hk, if_pos (by simp [ez])])
                go_wp2
                go_ret
                unfold BdsR
                rw [HL2.out]
                exact ⟨_, 1, rfl, by simp, bds_one _ _ (by simp) ⟨3, x.v⟩, below_new HB3.out _⟩
      · have n3 : (y.op == 3) = false := by rw [beq_iff_eq.1 ey]; rfl
        cases e3 : (x.op == 3)
        · have HL : Hid (Rng.shut (x, y) = [x]) := Lib.hid (by rw [shut_low ex ey, least_id e3])
          have HB2 : Hid (Below w.heap.size w W) := Lib.hid hbW
          have HX2 : Hid (Box5 W (w.heap.size) x) := Lib.hid HF.out
          have HY2 : Hid (Box5 W (w.heap.size + 1) y) := Lib.hid HS.out
          go_wp2
          go_ret
          unfold BdsR
          rw [HL.out]
          exact ⟨_, 1, rfl, by simp, bds_one _ _ (by simp) x, below_new HB2.out _⟩
        · have HL : Hid (Rng.shut (x, y) = [⟨4, x.v⟩]) := Lib.hid (by rw [shut_low ex ey, least_three e3])
          have HB2 : Hid (Below w.heap.size w (W.setCell ⟨w.heap.size, 0, none⟩ (.int .i64 4))) := Lib.hid (hbW.setCell (p := ⟨w.heap.size, 0, none⟩) (by show w.heap.size ≤ w.heap.size; omega) _)
          have HX2 : Hid (Box5 (W.setCell ⟨w.heap.size, 0, none⟩ (.int .i64 4)) (w.heap.size) ⟨4, x.v⟩) := Lib.hid (HF.out.setOp 4)
          have HY2 : Hid (Box5 (W.setCell ⟨w.heap.size, 0, none⟩ (.int .i64 4)) (w.heap.size + 1) y) := Lib.hid (HS.out.other (by omega))
          go_wp2
          go_ret
          unfold BdsR
          rw [HL.out]
          exact ⟨_, 1, rfl, by simp, bds_one _ _ (by simp) ⟨4, x.v⟩, below_new HB2.out _⟩
    · have m3 : (x.op == 3) = false := by rw [beq_iff_eq.1 ex]; rfl
      cases ey : (y.op == 0)
      · cases e3 : (y.op == 3)
        · have HL : Hid (Rng.shut (x, y) = [y]) := Lib.hid (by rw [shut_high ex ey, most_id e3])
          have HB2 : Hid (Below w.heap.size w W) := Lib.hid hbW
          have HX2 : Hid (Box5 W (w.heap.size) x) := Lib.hid HF.out
          have HY2 : Hid (Box5 W (w.heap.size + 1) y) := Lib.hid HS.out
          go_wp2
          go_ret
          unfold BdsR
          rw [HL.out]
          exact ⟨_, 1, rfl, by simp, bds_one _ _ (by simp) y, below_new HB2.out _⟩
        · have HL : Hid (Rng.shut (x, y) = [⟨2, y.v⟩]) := Lib.hid (by rw [shut_high ex ey, most_three e3])
          have HB2 : Hid (Below w.heap.size w (W.setCell ⟨w.heap.size + 1, 0, none⟩ (.int .i64 2))) := Lib.hid (hbW.setCell (p := ⟨w.heap.size + 1, 0, none⟩) (by show w.heap.size ≤ w.heap.size + 1; omega) _)
          have HX2 : Hid (Box5 (W.setCell ⟨w.heap.size + 1, 0, none⟩ (.int .i64 2)) (w.heap.size) x) := Lib.hid (HF.out.other (by omega))
          have HY2 : Hid (Box5 (W.setCell ⟨w.heap.size + 1, 0, none⟩ (.int .i64 2)) (w.heap.size + 1) ⟨2, y.v⟩) := Lib.hid (HS.out.setOp 2)
          go_wp2
          go_ret
          unfold BdsR
          rw [HL.out]
          exact ⟨_, 1, rfl, by simp, bds_one _ _ (by simp) ⟨2, y.v⟩, below_new HB2.out _⟩
      · have n3 : (y.op == 3) = false := by rw [beq_iff_eq.1 ey]; rfl
        have HL : Hid (Rng.shut (x, y) = []) := Lib.hid (shut_none ex ey)
        go_wp2
        go_ret
        unfold BdsR
        rw [HL.out]
        exact ⟨none, 0, rfl, Nat.le_refl _, Or.inl rfl, hbW⟩
  · have hbW : Below w.heap.size w ((w.alloc (.cells #[.int .i64 y.op, .int .i64 y.v.maj, .int .i64 y.v.min, .int .i64 y.v.pat, .string ⟨y.v.pre.toArray⟩] 57)).alloc (.cells #[.int .i64 x.op, .int .i64 x.v.maj, .int .i64 x.v.min, .int .i64 x.v.pat, .string ⟨x.v.pre.toArray⟩] 57)).drew := (below_new (below_one _ _) _).drew
    have HF : Hid (Box5 ((w.alloc (.cells #[.int .i64 y.op, .int .i64 y.v.maj, .int .i64 y.v.min, .int .i64 y.v.pat, .string ⟨y.v.pre.toArray⟩] 57)).alloc (.cells #[.int .i64 x.op, .int .i64 x.v.maj, .int .i64 x.v.min, .int .i64 x.v.pat, .string ⟨x.v.pre.toArray⟩] 57)).drew (w.heap.size) y) := Lib.hid ((box5_new w y).keep (B := w.heap.size + 1) (by omega) (((below_one (w.alloc (.cells #[.int .i64 y.op, .int .i64 y.v.maj, .int .i64 y.v.min, .int .i64 y.v.pat, .string ⟨y.v.pre.toArray⟩] 57)) (.cells #[.int .i64 x.op, .int .i64 x.v.maj, .int .i64 x.v.min, .int .i64 x.v.pat, .string ⟨x.v.pre.toArray⟩] 57)).mono (by simp)).drew))
    have hS := box5_new (w.alloc (.cells #[.int .i64 y.op, .int .i64 y.v.maj, .int .i64 y.v.min, .int .i64 y.v.pat, .string ⟨y.v.pre.toArray⟩] 57)) x
    rw [World.size_alloc] at hS
    have HS : Hid (Box5 ((w.alloc (.cells #[.int .i64 y.op, .int .i64 y.v.maj, .int .i64 y.v.min, .int .i64 y.v.pat, .string ⟨y.v.pre.toArray⟩] 57)).alloc (.cells #[.int .i64 x.op, .int .i64 x.v.maj, .int .i64 x.v.min, .int .i64 x.v.pat, .string ⟨x.v.pre.toArray⟩] 57)).drew (w.heap.size + 1) x) := Lib.hid hS
    clear hS
    generalize hW : ((w.alloc (.cells #[.int .i64 y.op, .int .i64 y.v.maj, .int .i64 y.v.min, .int .i64 y.v.pat, .string ⟨y.v.pre.toArray⟩] 57)).alloc (.cells #[.int .i64 x.op, .int .i64 x.v.maj, .int .i64 x.v.min, .int .i64 x.v.pat, .string ⟨x.v.pre.toArray⟩] 57)).drew = W at hbW HF HS ⊢
    clear hW x0 x1 x2 x3 x4 y0 y1 y2 y3 y4
    obtain ⟨zp, ⟨p0, p1, p2, p3, p4⟩, gp0, gp1, gp2, gp3, gp4⟩ := HS.out
    simp only [Nat.zero_add] at p1 p2 p3 p4
    obtain ⟨zq, ⟨q0, q1, q2, q3, q4⟩, gq0, gq1, gq2, gq3, gq4⟩ := HF.out
    simp only [Nat.zero_add] at q1 q2 q3 q4
    cases ex : (x.op == 0)
    · cases ey : (y.op == 0)
      · cases e3 : (x.op == 3)
        · cases n3 : (y.op == 3)
          · have HL : Hid (Rng.shut (x, y) = if Sem.cmp x.v y.v < 0 then [x, y] else if (Sem.cmp x.v y.v == 0) = true ∧ (x.op == 4) = true ∧ (y.op == 2) = true then [⟨3, x.v⟩] else [Rng.nil]) := Lib.hid (by rw [shut_both ex ey, least_id e3, most_id n3])
            have HB2 : Hid (Below w.heap.size w W) := Lib.hid hbW
            have HX2 : Hid (Box5 W (w.heap.size + 1) x) := Lib.hid HS.out
            have HY2 : Hid (Box5 W (w.heap.size) y) := Lib.hid HF.out
            go_wp2_with fail
            clear p0 p1 p2 p3 p4 gp0 gp1 gp2 gp3 gp4 q0 q1 q2 q3 q4 gq0 gq1 gq2 gq3 gq4
            refine (cmp_walk x.v y.v hx hy _).mono ?_
            rintro e W3 ⟨rfl, hb3⟩
            have HX3 := Lib.hid (HX2.out.keep HX2.out.1 hb3)
            have HY3 := Lib.hid (HY2.out.keep HY2.out.1 hb3)
            have HB3 := Lib.hid (below_next HB2.out hb3)
            clear hb3 HX2 HY2 HB2
            obtain ⟨k, hk⟩ : ∃ k, k = Sem.cmp x.v y.v := ⟨_, rfl⟩
            rw [← hk] at HL ⊢
            clear hk
            obtain ⟨za, ⟨a0, a1, a2, a3, a4⟩, ga0, ga1, ga2, ga3, ga4⟩ := HX3.out
            simp only [Nat.zero_add] at a1 a2 a3 a4
            obtain ⟨zb, ⟨b0, b1, b2, b3, b4⟩, gb0, gb1, gb2, gb3, gb4⟩ := HY3.out
            simp only [Nat.zero_add] at b1 b2 b3 b4
            by_cases hk : k < 0
            · have HL2 : Hid (Rng.shut (x, y) = [x, y]) := Lib.hid (by rw [HL.out, if_pos hk])
              go_wp2
              go_ret
              unfold BdsR
              rw [HL2.out]
              exact ⟨_, 2, rfl, by simp, bds_two _ _ (by simp) x y, below_new HB3.out _⟩
            · cases ez : (k == 0)
              · have HL2 : Hid (Rng.shut (x, y) = [Rng.nil]) := Lib.hid (by rw [HL.out, if_neg hk, if_neg (by simp [ez])])
                go_wp2_with fail
                clear a0 a1 a2 a3 a4 ga0 ga1 ga2 ga3 ga4 b0 b1 b2 b3 b4 gb0 gb1 gb2 gb3 gb4
                refine (nothing_walk _).mono ?_
                rintro e W4 ⟨rfl, hb4⟩
                have hb5 := below_next HB3.out hb4
                have hV : bdV Rng.nil = .agg #[.int .i64 1, .int .i64 0, .int .i64 0, .int .i64 0, .string ⟨#[48]⟩] := rfl
                rw [hV]
                clear hV hb4
                go_wp2
                go_ret
                unfold BdsR
                rw [HL2.out]
                exact ⟨_, 1, rfl, by simp, bds_one _ _ (by simp) Rng.nil, below_new hb5 _⟩
              · cases e4 : (x.op == 4)
                · have HL2 : Hid (Rng.shut (x, y) = [Rng.nil]) := Lib.hid (by rw [HL.out, if_neg hk, if_neg (by simp [ez, e4])])
                  go_wp2_with fail
                  clear a0 a1 a2 a3 a4 ga0 ga1 ga2 ga3 ga4 b0 b1 b2 b3 b4 gb0 gb1 gb2 gb3 gb4
                  refine (nothing_walk _).mono ?_
                  rintro e W4 ⟨rfl, hb4⟩
                  have hb5 := below_next HB3.out hb4
                  have hV : bdV Rng.nil = .agg #[.int .i64 1, .int .i64 0, .int .i64 0, .int .i64 0, .string ⟨#[48]⟩] := rfl
                  rw [hV]
                  clear hV hb4
                  go_wp2
                  go_ret
                  unfold BdsR
                  rw [HL2.out]
                  exact ⟨_, 1, rfl, by simp, bds_one _ _ (by simp) Rng.nil, below_new hb5 _⟩
                · cases e2 : (y.op == 2)
                  · have HL2 : Hid (Rng.shut (x, y) = [Rng.nil]) := Lib.hid (by rw [HL.out, if_neg hk, if_neg (by simp [ez, e4, e2])])
                    go_wp2_with fail
                    clear a0 a1 a2 a3 a4 ga0 ga1 ga2 ga3 ga4 b0 b1 b2 b3 b4 gb0 gb1 gb2 gb3 gb4
                    refine (nothing_walk _).mono ?_
                    rintro e W4 ⟨rfl, hb4⟩
                    have hb5 := below_next HB3.out hb4
                    have hV : bdV Rng.nil = .agg #[.int .i64 1, .int .i64 0, .int .i64 0, .int .i64 0, .string ⟨#[48]⟩] := rfl
                    rw [hV]
                    clear hV hb4
                    go_wp2
                    go_ret
                    unfold BdsR
                    rw [HL2.out]
                    exact ⟨_, 1, rfl, by simp, bds_one _ _ (by simp) Rng.nil, below_new hb5 _⟩
                  · have HL2 : Hid (Rng.shut (x, y) = [⟨3, x.v⟩]) := Lib.hid (by rw [HL.out, if_neg hk, if_pos (by simp [ez, e4, e2])])
                    go_wp2
                    go_ret
                    unfold BdsR
                    rw [HL2.out]
                    exact ⟨_, 1, rfl, by simp, bds_one _ _ (by simp) ⟨3, x.v⟩, below_new HB3.out _⟩
          · have HL : Hid (Rng.shut (x, y) = if Sem.cmp x.v y.v < 0 then [x, ⟨2, y.v⟩] else if (Sem.cmp x.v y.v == 0) = true ∧ (x.op == 4) = true ∧ ((2 : Int) == 2) = true then [⟨3, x.v⟩] else [Rng.nil]) := Lib.hid (by rw [shut_both ex ey, least_id e3, most_three n3])
            have HB2 : Hid (Below w.heap.size w (W.setCell ⟨w.heap.size, 0, none⟩ (.int .i64 2))) := Lib.hid (hbW.setCell (p := ⟨w.heap.size, 0, none⟩) (by show w.heap.size ≤ w.heap.size; omega) _)
            have HX2 : Hid (Box5 (W.setCell ⟨w.heap.size, 0, none⟩ (.int .i64 2)) (w.heap.size + 1) x) := Lib.hid (HS.out.other (by omega))
            have HY2 : Hid (Box5 (W.setCell ⟨w.heap.size, 0, none⟩ (.int .i64 2)) (w.heap.size) ⟨2, y.v⟩) := Lib.hid (HF.out.setOp 2)
            go_wp2_with fail
            clear p0 p1 p2 p3 p4 gp0 gp1 gp2 gp3 gp4 q0 q1 q2 q3 q4 gq0 gq1 gq2 gq3 gq4
            refine (cmp_walk x.v y.v hx hy _).mono ?_
            rintro e W3 ⟨rfl, hb3⟩
            have HX3 := Lib.hid (HX2.out.keep HX2.out.1 hb3)
            have HY3 := Lib.hid (HY2.out.keep HY2.out.1 hb3)
            have HB3 := Lib.hid (below_next HB2.out hb3)
            clear hb3 HX2 HY2 HB2
            obtain ⟨k, hk⟩ : ∃ k, k = Sem.cmp x.v y.v := ⟨_, rfl⟩
            rw [← hk] at HL ⊢
            clear hk
            obtain ⟨za, ⟨a0, a1, a2, a3, a4⟩, ga0, ga1, ga2, ga3, ga4⟩ := HX3.out
            simp only [Nat.zero_add] at a1 a2 a3 a4
            obtain ⟨zb, ⟨b0, b1, b2, b3, b4⟩, gb0, gb1, gb2, gb3, gb4⟩ := HY3.out
            simp only [Nat.zero_add] at b1 b2 b3 b4
            by_cases hk : k < 0
            · have HL2 : Hid (Rng.shut (x, y) = [x, ⟨2, y.v⟩]) := Lib.hid (by rw [HL.out, if_pos hk])
              go_wp2
              go_ret
              unfold BdsR
              rw [HL2.out]
              exact ⟨_, 2, rfl, by simp, bds_two _ _ (by simp) x ⟨2, y.v⟩, below_new HB3.out _⟩
            · cases ez : (k == 0)
              · have HL2 : Hid (Rng.shut (x, y) = [Rng.nil]) := Lib.hid (by rw [HL.out, if_neg hk, if_neg (by simp [ez])])
                go_wp2_with fail
                clear a0 a1 a2 a3 a4 ga0 ga1 ga2 ga3 ga4 b0 b1 b2 b3 b4 gb0 gb1 gb2 gb3 gb4
                refine (nothing_walk _).mono ?_
                rintro e W4 ⟨rfl, hb4⟩
                have hb5 := below_next HB3.out hb4
                have hV : bdV Rng.nil = .agg #[.int .i64 1, .int .i64 0, .int .i64 0, .int .i64 0, .string ⟨#[48]⟩] := rfl
                rw [hV]
                clear hV hb4
                go_wp2
                go_ret
                unfold BdsR
                rw [HL2.out]
                exact ⟨_, 1, rfl, by simp, bds_one _ _ (by simp) Rng.nil, below_new hb5 _⟩
              · cases e4 : (x.op == 4)
                · have HL2 : Hid (Rng.shut (x, y) = [Rng.nil]) := Lib.hid (by rw [HL.out, if_neg hk, if_neg (by simp [ez, e4])])
                  go_wp2_with fail
                  clear a0 a1 a2 a3 a4 ga0 ga1 ga2 ga3 ga4 b0 b1 b2 b3 b4 gb0 gb1 gb2 gb3 gb4
                  refine (nothing_walk _).mono ?_
                  rintro e W4 ⟨rfl, hb4⟩
                  have hb5 := below_next HB3.out hb4
                  have hV : bdV Rng.nil = .agg #[.int .i64 1, .int .i64 0, .int .i64 0, .int .i64 0, .string ⟨#[48]⟩] := rfl
                  rw [hV]
                  clear hV hb4
                  go_wp2
                  go_ret
                  unfold BdsR
                  rw [HL2.out]
                  exact ⟨_, 1, rfl, by simp, bds_one _ _ (by simp) Rng.nil, below_new hb5 _⟩
                · have HL2 : Hid (Rng.shut (x, y) = [⟨3, x.v⟩]) := Lib.hid (by rw [HL.out, if_neg hk, if_pos (by simp [ez, e4])])
                  go_wp2
                  go_ret
                  unfold BdsR
                  rw [HL2.out]
                  exact ⟨_, 1, rfl, by simp, bds_one _ _ (by simp) ⟨3, x.v⟩, below_new HB3.out _⟩
        · cases n3 : (y.op == 3)
          · have HL : Hid (Rng.shut (x, y) = if Sem.cmp x.v y.v < 0 then [⟨4, x.v⟩, y] else if (Sem.cmp x.v y.v == 0) = true ∧ ((4 : Int) == 4) = true ∧ (y.op == 2) = true then [⟨3, x.v⟩] else [Rng.nil]) := Lib.hid (by rw [shut_both ex ey, least_three e3, most_id n3])
            have HB2 : Hid (Below w.heap.size w (W.setCell ⟨w.heap.size + 1, 0, none⟩ (.int .i64 4))) := Lib.hid (hbW.setCell (p := ⟨w.heap.size + 1, 0, none⟩) (by show w.heap.size ≤ w.heap.size + 1; omega) _)
            have HX2 : Hid (Box5 (W.setCell ⟨w.heap.size + 1, 0, none⟩ (.int .i64 4)) (w.heap.size + 1) ⟨4, x.v⟩) := Lib.hid (HS.out.setOp 4)
            have HY2 : Hid (Box5 (W.setCell ⟨w.heap.size + 1, 0, none⟩ (.int .i64 4)) (w.heap.size) y) := Lib.hid (HF.out.other (by omega))
            go_wp2_with fail
            clear p0 p1 p2 p3 p4 gp0 gp1 gp2 gp3 gp4 q0 q1 q2 q3 q4 gq0 gq1 gq2 gq3 gq4
            refine (cmp_walk x.v y.v hx hy _).mono ?_
            rintro e W3 ⟨rfl, hb3⟩
            have HX3 := Lib.hid (HX2.out.keep HX2.out.1 hb3)
            have HY3 := Lib.hid (HY2.out.keep HY2.out.1 hb3)
            have HB3 := Lib.hid (below_next HB2.out hb3)
            clear hb3 HX2 HY2 HB2
            obtain ⟨k, hk⟩ : ∃ k, k = Sem.cmp x.v y.v := ⟨_, rfl⟩
            rw [← hk] at HL ⊢
            clear hk
            obtain ⟨za, ⟨a0, a1, a2, a3, a4⟩, ga0, ga1, ga2, ga3, ga4⟩ := HX3.out
            simp only [Nat.zero_add] at a1 a2 a3 a4
            obtain ⟨zb, ⟨b0, b1, b2, b3, b4⟩, gb0, gb1, gb2, gb3, gb4⟩ := HY3.out
            simp only [Nat.zero_add] at b1 b2 b3 b4
            by_cases hk : k < 0
            · have HL2 : Hid (Rng.shut (x, y) = [⟨4, x.v⟩, y]) := Lib.hid (by rw [HL.out, if_pos hk])
              go_wp2
              go_ret
              unfold BdsR
              rw [HL2.out]
              exact ⟨_, 2, rfl, by simp, bds_two _ _ (by simp) ⟨4, x.v⟩ y, below_new HB3.out _⟩
            · cases ez : (k == 0)
              · have HL2 : Hid (Rng.shut (x, y) = [Rng.nil]) := Lib.hid (by rw [HL.out, if_neg hk, if_neg (by simp [ez])])
                go_wp2_with fail
                clear a0 a1 a2 a3 a4 ga0 ga1 ga2 ga3 ga4 b0 b1 b2 b3 b4 gb0 gb1 gb2 gb3 gb4
                refine (nothing_walk _).mono ?_
                rintro e W4 ⟨rfl, hb4⟩
                have hb5 := below_next HB3.out hb4
                have hV : bdV Rng.nil = .agg #[.int .i64 1, .int .i64 0, .int .i64 0, .int .i64 0, .string ⟨#[48]⟩] := rfl
                rw [hV]
                clear hV hb4
                go_wp2
                go_ret
                unfold BdsR
                rw [HL2.out]
                exact ⟨_, 1, rfl, by simp, bds_one _ _ (by simp) Rng.nil, below_new hb5 _⟩
              · cases e2 : (y.op == 2)
                · have HL2 : Hid (Rng.shut (x, y) = [Rng.nil]) := Lib.hid (by rw [HL.out, if_neg hk, if_neg (by simp [ez, e2])])
                  go_wp2_with fail
                  clear a0 a1 a2 a3 a4 ga0 ga1 ga2 ga3 ga4 b0 b1 b2 b3 b4 gb0 gb1 gb2 gb3 gb4
                  refine (nothing_walk _).mono ?_
                  rintro e W4 ⟨rfl, hb4⟩
                  have hb5 := below_next HB3.out hb4
                  have hV : bdV Rng.nil = .agg #[.int .i64 1, .int .i64 0, .int .i64 0, .int .i64 0, .string ⟨#[48]⟩] := rfl
                  rw [hV]
                  clear hV hb4
                  go_wp2
                  go_ret
                  unfold BdsR
                  rw [HL2.out]
                  exact ⟨_, 1, rfl, by simp, bds_one _ _ (by simp) Rng.nil, below_new hb5 _⟩
                · have HL2 : Hid (Rng.shut (x, y) = [⟨3, x.v⟩]) := Lib.hid (by rw [HL.out, if_neg hk, if_pos (by simp [ez, e2])])
                  go_wp2
                  go_ret
                  unfold BdsR
                  rw [HL2.out]
                  exact ⟨_, 1, rfl, by simp, bds_one _ _ (by simp) ⟨3, x.v⟩, below_new HB3.out _⟩
          · have HL : Hid (Rng.shut (x, y) = if Sem.cmp x.v y.v < 0 then [⟨4, x.v⟩, ⟨2, y.v⟩] else if (Sem.cmp x.v y.v == 0) = true ∧ ((4 : Int) == 4) = true ∧ ((2 : Int) == 2) = true then [⟨3, x.v⟩] else [Rng.nil]) := Lib.hid (by rw [shut_both ex ey, least_three e3, most_three n3])
            have HB2 : Hid (Below w.heap.size w ((W.setCell ⟨w.heap.size + 1, 0, none⟩ (.int .i64 4)).setCell ⟨w.heap.size, 0, none⟩ (.int .i64 2))) := Lib.hid ((hbW.setCell (p := ⟨w.heap.size + 1, 0, none⟩) (by show w.heap.size ≤ w.heap.size + 1; omega) _).setCell (p := ⟨w.heap.size, 0, none⟩) (by show w.heap.size ≤ w.heap.size; omega) _)
            have HX2 : Hid (Box5 ((W.setCell ⟨w.heap.size + 1, 0, none⟩ (.int .i64 4)).setCell ⟨w.heap.size, 0, none⟩ (.int .i64 2)) (w.heap.size + 1) ⟨4, x.v⟩) := Lib.hid ((HS.out.setOp 4).other (by omega))
            have HY2 : Hid (Box5 ((W.setCell ⟨w.heap.size + 1, 0, none⟩ (.int .i64 4)).setCell ⟨w.heap.size, 0, none⟩ (.int .i64 2)) (w.heap.size) ⟨2, y.v⟩) := Lib.hid ((HF.out.other (by omega)).setOp 2)
            go_wp2_with fail
            clear p0 p1 p2 p3 p4 gp0 gp1 gp2 gp3 gp4 q0 q1 q2 q3 q4 gq0 gq1 gq2 gq3 gq4
            refine (cmp_walk x.v y.v hx hy _).mono ?_
            rintro e W3 ⟨rfl, hb3⟩
            have HX3 := Lib.hid (HX2.out.keep HX2.out.1 hb3)
            have HY3 := Lib.hid (HY2.out.keep HY2.out.1 hb3)
            have HB3 := Lib.hid (below_next HB2.out hb3)
            clear hb3 HX2 HY2 HB2
            obtain ⟨k, hk⟩ : ∃ k, k = Sem.cmp x.v y.v := ⟨_, rfl⟩
            rw [← hk] at HL ⊢
            clear hk
            obtain ⟨za, ⟨a0, a1, a2, a3, a4⟩, ga0, ga1, ga2, ga3, ga4⟩ := HX3.out
            simp only [Nat.zero_add] at a1 a2 a3 a4
            obtain ⟨zb, ⟨b0, b1, b2, b3, b4⟩, gb0, gb1, gb2, gb3, gb4⟩ := HY3.out
            simp only [Nat.zero_add] at b1 b2 b3 b4
            by_cases hk : k < 0
            · have HL2 : Hid (Rng.shut (x, y) = [⟨4, x.v⟩, ⟨2, y.v⟩]) := Lib.hid (by rw [HL.out, if_pos hk])
              go_wp2
              go_ret
              unfold BdsR
              rw [HL2.out]
              exact ⟨_, 2, rfl, by simp, bds_two _ _ (by simp) ⟨4, x.v⟩ ⟨2, y.v⟩, below_new HB3.out _⟩
            · cases ez : (k == 0)
              · have HL2 : Hid (Rng.shut (x, y) = [Rng.nil]) := Lib.hid (by rw [HL.out, if_neg hk, if_neg (by simp [ez])])
                go_wp2_with fail
                clear a0 a1 a2 a3 a4 ga0 ga1 ga2 ga3 ga4 b0 b1 b2 b3 b4 gb0 gb1 gb2 gb3 gb4
                refine (nothing_walk _).mono ?_
                rintro e W4 ⟨rfl, hb4⟩
                have hb5 := below_next HB3.out hb4
                have hV : bdV Rng.nil = .agg #[.int .i64 1, .int .i64 0, .int .i64 0, .int .i64 0, .string ⟨#[48]⟩] := rfl
                rw [hV]
                clear hV hb4
                go_wp2
                go_ret
                unfold BdsR
                rw [HL2.out]
                exact ⟨_, 1, rfl, by simp, bds_one _ _ (by simp) Rng.nil, below_new hb5 _⟩
              · have HL2 : Hid (Rng.shut (x, y) = [⟨3, x.v⟩]) := Lib.hid (by rw [HL.out, if_neg hk, if_pos (by simp [ez])])
                go_wp2
                go_ret
                unfold BdsR
                rw [HL2.out]
                exact ⟨_, 1, rfl, by simp, bds_one _ _ (by simp) ⟨3, x.v⟩, below_new HB3.out _⟩
      · have n3 : (y.op == 3) = false := by rw [beq_iff_eq.1 ey]; rfl
        cases e3 : (x.op == 3)
        · have HL : Hid (Rng.shut (x, y) = [x]) := Lib.hid (by rw [shut_low ex ey, least_id e3])
          have HB2 : Hid (Below w.heap.size w W) := Lib.hid hbW
          have HX2 : Hid (Box5 W (w.heap.size + 1) x) := Lib.hid HS.out
          have HY2 : Hid (Box5 W (w.heap.size) y) := Lib.hid HF.out
          go_wp2
          go_ret
          unfold BdsR
          rw [HL.out]
          exact ⟨_, 1, rfl, by simp, bds_one _ _ (by simp) x, below_new HB2.out _⟩
        · have HL : Hid (Rng.shut (x, y) = [⟨4, x.v⟩]) := Lib.hid (by rw [shut_low ex ey, least_three e3])
          have HB2 : Hid (Below w.heap.size w (W.setCell ⟨w.heap.size + 1, 0, none⟩ (.int .i64 4))) := Lib.hid (hbW.setCell (p := ⟨w.heap.size + 1, 0, none⟩) (by show w.heap.size ≤ w.heap.size + 1; omega) _)
          have HX2 : Hid (Box5 (W.setCell ⟨w.heap.size + 1, 0, none⟩ (.int .i64 4)) (w.heap.size + 1) ⟨4, x.v⟩) := Lib.hid (HS.out.setOp 4)
          have HY2 : Hid (Box5 (W.setCell ⟨w.heap.size + 1, 0, none⟩ (.int .i64 4)) (w.heap.size) y) := Lib.hid (HF.out.other (by omega))
          go_wp2
          go_ret
          unfold BdsR
          rw [HL.out]
          exact ⟨_, 1, rfl, by simp, bds_one _ _ (by simp) ⟨4, x.v⟩, below_new HB2.out _⟩
    · have m3 : (x.op == 3) = false := by rw [beq_iff_eq.1 ex]; rfl
      cases ey : (y.op == 0)
      · cases e3 : (y.op == 3)
        · have HL : Hid (Rng.shut (x, y) = [y]) := Lib.hid (by rw [shut_high ex ey, most_id e3])
          have HB2 : Hid (Below w.heap.size w W) := Lib.hid hbW
          have HX2 : Hid (Box5 W (w.heap.size + 1) x) := Lib.hid HS.out
          have HY2 : Hid (Box5 W (w.heap.size) y) := Lib.hid HF.out
          go_wp2
          go_ret
          unfold BdsR
          rw [HL.out]
          exact ⟨_, 1, rfl, by simp, bds_one _ _ (by simp) y, below_new HB2.out _⟩
        · have HL : Hid (Rng.shut (x, y) = [⟨2, y.v⟩]) := Lib.hid (by rw [shut_high ex ey, most_three e3])
          have HB2 : Hid (Below w.heap.size w (W.setCell ⟨w.heap.size, 0, none⟩ (.int .i64 2))) := Lib.hid (hbW.setCell (p := ⟨w.heap.size, 0, none⟩) (by show w.heap.size ≤ w.heap.size; omega) _)
          have HX2 : Hid (Box5 (W.setCell ⟨w.heap.size, 0, none⟩ (.int .i64 2)) (w.heap.size + 1) x) := Lib.hid (HS.out.other (by omega))
          have HY2 : Hid (Box5 (W.setCell ⟨w.heap.size, 0, none⟩ (.int .i64 2)) (w.heap.size) ⟨2, y.v⟩) := Lib.hid (HF.out.setOp 2)
          go_wp2
          go_ret
          unfold BdsR
          rw [HL.out]
          exact ⟨_, 1, rfl, by simp, bds_one _ _ (by simp) ⟨2, y.v⟩, below_new HB2.out _⟩
      · have n3 : (y.op == 3) = false := by rw [beq_iff_eq.1 ey]; rfl
        have HL : Hid (Rng.shut (x, y) = []) := Lib.hid (shut_none ex ey)
        go_wp2
        go_ret
        unfold BdsR
        rw [HL.out]
        exact ⟨none, 0, rfl, Nat.le_refl _, Or.inl rfl, hbW⟩
end Go.Proofs.YthjombepcmebfaaGreatDoor
