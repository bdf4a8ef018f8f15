/- The document's Cmp: two versions. -/
import Derived.Test.YtifblpbikngjeaaDoorSemCmp
import Derived.Test.YtifblpbikngjeaaDoorSemCheck
import Derived.Test.YtifblpbikngjeaaDoorInts
import Derived.StillTailTactics
import Derived.Deep.RegionHeld3
namespace Go.Proofs.YtifblpbikngjeaaDoor
open Go.RowKit
set_option linter.unusedVariables false

theorem ord_zero (x y : Int) : ord x y = 0 ↔ x = y := by
  unfold ord
  constructor
  · intro h
    by_cases h1 : x < y
    · rw [if_pos h1] at h; omega
    · rw [if_neg h1] at h
      by_cases h2 : y < x
      · rw [if_pos h2] at h; omega
      · omega
  · rintro rfl; rw [if_neg (by omega), if_neg (by omega)]

theorem ord_range (x y : Int) : -1 ≤ ord x y ∧ ord x y ≤ 1 := by
  unfold ord; split; omega; split <;> omega

theorem cmp_ord (v u : Sem.Ver) : Sem.cmp v u = if ord v.maj u.maj = 0 then (if ord v.min u.min = 0 then (if ord v.pat u.pat = 0 then Sem.three (Sem.preKey v.pre) (Sem.preKey u.pre) else ord v.pat u.pat) else ord v.min u.min) else ord v.maj u.maj := by
  rw [Sem.cmp_steps]
  simp only [ord_zero]
  rfl

theorem held2_next {w W w' : World} {g : Nat} {p q : List UInt8} (h : W.cell? ⟨g, 3, none⟩ = some (.string ⟨p.toArray⟩) ∧ W.cell? ⟨g + 1, 3, none⟩ = some (.string ⟨q.toArray⟩) ∧ g + 1 < W.heap.size ∧ Below w.heap.size w W) (hb : Below W.heap.size W w') :
    w'.cell? ⟨g, 3, none⟩ = some (.string ⟨p.toArray⟩) ∧ w'.cell? ⟨g + 1, 3, none⟩ = some (.string ⟨q.toArray⟩) ∧ g + 1 < w'.heap.size ∧ Below w.heap.size w w' := by
  obtain ⟨h1, h2, h3, h4⟩ := h
  exact ⟨(cell_of_below (o := 3) hb (by omega)).1.trans h1, (cell_of_below (o := 3) hb h3).1.trans h2, Nat.lt_of_lt_of_le h3 hb.size, below_next h4 hb⟩

theorem held2_drew {w W : World} {g : Nat} {p q : List UInt8} (h : W.cell? ⟨g, 3, none⟩ = some (.string ⟨p.toArray⟩) ∧ W.cell? ⟨g + 1, 3, none⟩ = some (.string ⟨q.toArray⟩) ∧ g + 1 < W.heap.size ∧ Below w.heap.size w W) :
    W.drew.cell? ⟨g, 3, none⟩ = some (.string ⟨p.toArray⟩) ∧ W.drew.cell? ⟨g + 1, 3, none⟩ = some (.string ⟨q.toArray⟩) ∧ g + 1 < W.drew.heap.size ∧ Below w.heap.size w W.drew :=
  ⟨h.1, h.2.1, h.2.2.1, h.2.2.2.drew⟩

theorem strs_get {w : World} {B : Nat} {A : Option Addr} {ps : List (List UInt8)} (h : Strs w B A (strs ps)) {k : Nat} (hk : k < ps.length) : ∃ g off, A = some ⟨g, off, none⟩ ∧ w.cell? ⟨g, off + k, none⟩ = some (.string ⟨(ps[k]'hk).toArray⟩) := by
  have hl : (strs ps).length = ps.length := by simp [strs]
  rcases h with h | ⟨g, off, hA, _, hc⟩
  · omega
  · refine ⟨g, off, hA, ?_⟩
    rw [hc k (by omega)]; simp [strs]

theorem cmpParts_step {l m : List (List UInt8)} {k : Nat} (h1 : k < l.length) (h2 : k < m.length) : Sem.cmpParts (l.drop k) (m.drop k) = if Sem.cmpPart l[k] m[k] = 0 then Sem.cmpParts (l.drop (k + 1)) (m.drop (k + 1)) else Sem.cmpPart l[k] m[k] := by
  rw [List.drop_eq_getElem_cons h1, List.drop_eq_getElem_cons h2, Sem.cmpParts]

theorem cmpParts_end {l m : List (List UInt8)} {k : Nat} (h1 : k ≤ l.length) (h2 : k ≤ m.length) (h : k = l.length ∨ k = m.length) : Sem.cmpParts (l.drop k) (m.drop k) = ord l.length m.length := by
  rcases Nat.lt_or_ge k l.length with h3 | h3
  · have h4 : k = m.length := by omega
    rw [List.drop_eq_getElem_cons h3, show m.drop k = [] from List.drop_eq_nil_of_le (by omega), Sem.cmpParts]
    unfold ord; rw [if_neg (by omega), if_pos (by omega)]
  · rw [show l.drop k = [] from List.drop_eq_nil_of_le (by omega)]
    rcases Nat.lt_or_ge k m.length with h4 | h4
    · rw [List.drop_eq_getElem_cons h4, Sem.cmpParts]
      unfold ord; rw [if_pos (by omega)]
    · rw [show m.drop k = [] from List.drop_eq_nil_of_le (by omega), Sem.cmpParts]
      unfold ord; rw [if_neg (by omega), if_neg (by omega)]

/-- The three orders. -/
def three3 (v u : Sem.Ver) : List Int := [ord v.maj u.maj, ord v.min u.min, ord v.pat u.pat]

set_option maxRecDepth 100000 in
set_option maxHeartbeats 2000000 in
theorem rcmp_walk (v u : Sem.Ver) (hv : v.pre.length ≤ 1000000) (hu : u.pre.length ≤ 1000000) (w : World) :
    Calls Tryd.prog 20 #[verV v, verV u] w fun e w' => e = .returned (.int .i64 (Sem.cmp v u)) ∧ Below w.heap.size w w' := by
  have hV : verV v = .agg #[.int .i64 v.maj, .int .i64 v.min, .int .i64 v.pat, .string ⟨v.pre.toArray⟩] := rfl
  have hU : verV u = .agg #[.int .i64 u.maj, .int .i64 u.min, .int .i64 u.pat, .string ⟨u.pre.toArray⟩] := rfl
  have HC := Lib.hid (cmp_ord v u)
  rw [hV, hU]
  clear hV hU
  go_enter Tryd.func20, Tryd.ntmps20
  go_wp2_with fail
  generalize hW : (w.alloc (Obj.cells #[Value.int IntKind.i64 v.maj, Value.int IntKind.i64 v.min, Value.int IntKind.i64 v.pat, Value.string ⟨v.pre.toArray⟩] 23)).alloc (Obj.cells #[Value.int IntKind.i64 u.maj, Value.int IntKind.i64 u.min, Value.int IntKind.i64 u.pat, Value.string ⟨u.pre.toArray⟩] 23) = W
  have hA : VerAt W w.heap.size v := by rw [← hW]; exact (ver_new w v).next (below_one _ _)
  have hB : VerAt W (w.heap.size + 1) u := by
    have := ver_new (w.alloc (Obj.cells #[Value.int IntKind.i64 v.maj, Value.int IntKind.i64 v.min, Value.int IntKind.i64 v.pat, Value.string ⟨v.pre.toArray⟩] 23)) u
    rw [hW] at this
    simpa using this
  have hbW : Below w.heap.size w W := by rw [← hW]; exact below_new (below_one _ _) _
  clear hW
  have HA := Lib.hid hA
  have HB := Lib.hid hB
  obtain ⟨_, a0, a1, a2, a3⟩ := hA
  obtain ⟨_, b0, b1, b2, b3⟩ := hB
  refine wp_region_still_tail 15 (by kernel_rfl) (by kernel_rfl) ?_
  simp only [List.take_succ_cons, List.take_zero, List.drop_succ_cons, List.drop_zero]
  repeat (first | still_step | still_call (flip (order_walk _ _ _)))
  refine wpStill_nil ?_
  change wpList _ _ _ _ _ W.drew
  clear a0 a1 a2 a3 b0 b1 b2 b3
  go_wp2_with fail
  have hL := ints_lit W (three3 v u) (cs := #[Value.int IntKind.i64 (ord v.maj u.maj), Value.int IntKind.i64 (ord v.min u.min), Value.int IntKind.i64 (ord v.pat u.pat)]) rfl
  have hbL := (below_one W (Obj.cells #[Value.int IntKind.i64 (ord v.maj u.maj), Value.int IntKind.i64 (ord v.min u.min), Value.int IntKind.i64 (ord v.pat u.pat)] 3)).drew
  have hL2 := ints_drew hL
  generalize hW2 : (W.alloc (Obj.cells #[Value.int IntKind.i64 (ord v.maj u.maj), Value.int IntKind.i64 (ord v.min u.min), Value.int IntKind.i64 (ord v.pat u.pat)] 3)).drew = W2
  rw [hW2] at hbL hL2
  clear hW2 hL
  have HA2 := Lib.hid (HA.out.next hbL)
  have HB2 := Lib.hid (HB.out.next hbL)
  have hbW2 := below_next hbW hbL
  clear HA HB hbW hbL
  rcases hL2 with hL2 | ⟨g, off, hg, _, hc⟩
  · exact absurd hL2 (by simp [three3])
  · simp only [Option.some.injEq, Addr.mk.injEq, and_true] at hg
    obtain ⟨rfl, rfl⟩ := hg
    have HCc := Lib.hid hc
    clear hc
    go_loop [6] (fun i => ∃ k : Nat, i = .int .i64 k ∧ k ≤ 3 ∧ Hid (∀ j, j < k → (three3 v u).getD j 0 = 0)) (fun i => 3 - (intOf i).toNat)
    case atStart => exact ⟨0, rfl, Nat.zero_le _, Lib.hid (fun j hj => absurd hj (by omega))⟩
    case round =>
      obtain ⟨k, rfl, hk, HZ⟩ := hrel
      by_cases hlt : k < 3
      · have hlen : k < (three3 v u).length := hlt
        have hcell := HCc.out k hlen
        rw [Nat.zero_add] at hcell
        obtain ⟨x, hx⟩ : ∃ x, x = (three3 v u)[k] := ⟨_, rfl⟩
        rw [← hx] at hcell
        have HX : Hid (x = (three3 v u).getD k 0) := Lib.hid (by rw [hx, List.getD_eq_getElem?_getD, List.getElem?_eq_getElem hlen]; rfl)
        clear hx hlen
        by_cases hx0 : x = 0
        · subst hx0
          have HN : Hid (∀ j, j < k + 1 → (three3 v u).getD j 0 = 0) := Lib.hid (fun j hj => by
            rcases Nat.lt_succ_iff_lt_or_eq.1 hj with h | rfl
            · exact HZ.out j h
            · exact HX.out.symm)
          go_wp2
          go_round
          case rel => exact ⟨k + 1, by go_num, by omega, HN⟩
          case measure => simp [intOf]; omega
        · have hd : (x != 0) = true := by rw [bne_iff_ne]; exact hx0
          have HN : Hid (Sem.cmp v u = x) := Lib.hid (by
            rw [HC.out, HX.out]
            rw [HX.out] at hx0
            match k, hlt with
            | 0, _ => exact if_neg hx0
            | 1, _ => rw [if_pos (show ord v.maj u.maj = 0 from HZ.out 0 (by omega))]; exact if_neg hx0
            | 2, _ => rw [if_pos (show ord v.maj u.maj = 0 from HZ.out 0 (by omega)), if_pos (show ord v.min u.min = 0 from HZ.out 1 (by omega))]; exact if_neg hx0)
          clear hx0
          go_wp2
          go_ret
          exact ⟨by rw [HN.out]; rfl, hbW2⟩
      · have hk3 : k = 3 := by omega
        subst hk3
        have HP : Hid (Sem.cmp v u = Sem.three (Sem.preKey v.pre) (Sem.preKey u.pre)) := Lib.hid (by
          rw [HC.out, if_pos (show ord v.maj u.maj = 0 from HZ.out 0 (by omega)), if_pos (show ord v.min u.min = 0 from HZ.out 1 (by omega)), if_pos (show ord v.pat u.pat = 0 from HZ.out 2 (by omega))])
        rw [Sem.preKey_cases] at HP
        obtain ⟨_, _, _, _, a3⟩ := HA2.out
        obtain ⟨_, _, _, _, b3⟩ := HB2.out
        obtain ⟨p, hp⟩ : ∃ p, p = v.pre := ⟨_, rfl⟩
        obtain ⟨q, hq⟩ : ∃ q, q = u.pre := ⟨_, rfl⟩
        rw [← hp] at a3 HP hv ⊢
        rw [← hq] at b3 HP hu ⊢
        clear hp hq HC HCc HZ
        by_cases hpe : p = []
        · subst hpe
          by_cases hqe : q = []
          · subst hqe
            have ho : ord 0 0 = 0 := rfl
            have hn : nz [] [] = 0 := rfl
            have HF : Hid (Sem.cmp v u = 0) := Lib.hid (by rw [HP.out]; simp)
            go_wp2_with fail
            go_quiet ((first | (go_at_call 36; exact Calls.quiet_of_same (flip (order_walk _ _ _))) | (go_at_call 37; exact Calls.quiet_of_same (flip (nonzero_walk _ _ _)))))
            go_wp2
            go_ret
            exact ⟨by rw [HF.out]; rfl, below_drewN hbW2 _⟩
          · have hqe2 : q.isEmpty = false := by simpa using hqe
            have hql : 0 < q.length := List.length_pos_iff.2 hqe
            have ho : ord (q.length : Int) 0 = 1 := by unfold ord; rw [if_neg (by omega), if_pos (by omega)]
            have hn : nz [] q = 1 := by unfold nz; rw [if_neg (fun h => hqe h.2)]
            have HF : Hid (Sem.cmp v u = 1) := Lib.hid (by rw [HP.out]; simp [hqe])
            go_wp2_with fail
            go_quiet ((first | (go_at_call 36; exact Calls.quiet_of_same (flip (order_walk _ _ _))) | (go_at_call 37; exact Calls.quiet_of_same (flip (nonzero_walk _ _ _)))))
            go_wp2
            go_ret
            exact ⟨by rw [HF.out]; rfl, below_drewN hbW2 _⟩
        · have hpe2 : p.isEmpty = false := by simpa using hpe
          have hpl : 0 < p.length := List.length_pos_iff.2 hpe
          by_cases hqe : q = []
          · subst hqe
            have ho : ord 0 (p.length : Int) = -1 := by unfold ord; rw [if_pos (by omega)]
            have hn : nz p [] = 1 := by unfold nz; rw [if_neg (fun h => hpe h.1)]
            have HF : Hid (Sem.cmp v u = -1) := Lib.hid (by rw [HP.out]; simp [hpe])
            go_wp2_with fail
            go_quiet ((first | (go_at_call 36; exact Calls.quiet_of_same (flip (order_walk _ _ _))) | (go_at_call 37; exact Calls.quiet_of_same (flip (nonzero_walk _ _ _)))))
            go_wp2
            go_ret
            exact ⟨by rw [HF.out]; rfl, below_drewN hbW2 _⟩
          · have hqe2 : q.isEmpty = false := by simpa using hqe
            have HF : Hid (Sem.cmp v u = Sem.cmpParts (Sem.parts p) (Sem.parts q)) := Lib.hid (by rw [HP.out, if_neg hpe, if_neg hqe])
            clear hpe hqe HP
            go_wp2_with fail
            have hS0 : W2.cell? ⟨w.heap.size, 3, none⟩ = some (.string ⟨p.toArray⟩) ∧ W2.cell? ⟨w.heap.size + 1, 3, none⟩ = some (.string ⟨q.toArray⟩) ∧ w.heap.size + 1 < W2.heap.size ∧ Below w.heap.size w W2 := ⟨a3, b3, HB2.out.1, hbW2⟩
            go_region_held3 (fun w' => w'.cell? ⟨w.heap.size, 3, none⟩ = some (.string ⟨p.toArray⟩) ∧ w'.cell? ⟨w.heap.size + 1, 3, none⟩ = some (.string ⟨q.toArray⟩) ∧ w.heap.size + 1 < w'.heap.size ∧ Below w.heap.size w w') (first | exact held2_drew hS0 | exact held2_next (by assumption) (by assumption))
              (first | (go_at_call 31; refine (parts_walk _ (by rw [size_list]; omega) _).mono ?_; rintro e w' ⟨A, cap, rfl, hS, hb⟩))
            have hSp := Strs.next (ss := strs (Sem.parts p)) (by assumption) hb
            have hbw : Below w.heap.size w w' := by
              have hHH : w'.cell? ⟨w.heap.size, 3, none⟩ = some (.string ⟨p.toArray⟩) ∧ w'.cell? ⟨w.heap.size + 1, 3, none⟩ = some (.string ⟨q.toArray⟩) ∧ w.heap.size + 1 < w'.heap.size ∧ Below w.heap.size w w' := by assumption
              exact hHH.2.2.2
            have hls : (strs (Sem.parts p)).length = (Sem.parts p).length := by simp [strs]
            have hms : (strs (Sem.parts q)).length = (Sem.parts q).length := by simp [strs]
            have hlc := Sem.parts_count p
            have hmc := Sem.parts_count q
            have hll := Lib.hid (Sem.parts_len p)
            have hml := Lib.hid (Sem.parts_len q)
            obtain ⟨l, hl⟩ : ∃ l, l = Sem.parts p := ⟨_, rfl⟩
            obtain ⟨m, hm⟩ : ∃ m, m = Sem.parts q := ⟨_, rfl⟩
            rw [← hl] at hls hlc hll hSp HF ⊢
            rw [← hm] at hms hmc hml hS HF ⊢
            rw [hls, hms]
            clear hl hm
            go_wp2_with fail
            go_loopw [9] (fun i wr => ∃ k : Nat, i = .int .i64 k ∧ k ≤ l.length ∧ k ≤ m.length ∧ Hid (Sem.cmpParts l m = Sem.cmpParts (l.drop k) (m.drop k)) ∧ Below w'.heap.size w' wr)
              (fun i _ => l.length - (intOf i).toNat)
            case atStart => exact ⟨0, rfl, Nat.zero_le _, Nat.zero_le _, Lib.hid rfl, Below.refl _ _⟩
            case round =>
              obtain ⟨k, rfl, hk1, hk2, HK, hbr⟩ := hrel
              by_cases hlt1 : k < l.length
              · by_cases hlt2 : k < m.length
                · obtain ⟨g1, o1, hA1, hc1⟩ := strs_get (hSp.keep hbr (Nat.le_refl _)) hlt1
                  obtain ⟨g2, o2, hA2, hc2⟩ := strs_get (hS.keep hbr (Nat.le_refl _)) hlt2
                  subst hA1
                  subst hA2
                  have HST := Lib.hid (cmpParts_step hlt1 hlt2)
                  have hx1 := hll.out l[k] (List.getElem_mem _)
                  have hx2 := hml.out m[k] (List.getElem_mem _)
                  obtain ⟨x, hx⟩ : ∃ x, x = l[k] := ⟨_, rfl⟩
                  obtain ⟨y, hy⟩ : ∃ y, y = m[k] := ⟨_, rfl⟩
                  rw [← hx] at hc1 hx1 HST
                  rw [← hy] at hc2 hx2 HST
                  clear hx hy
                  obtain ⟨z, hz⟩ : ∃ z, z = Sem.cmpPart x y := ⟨_, rfl⟩
                  have hcon : ∀ w, Calls Tryd.prog 38 #[.string ⟨x.toArray⟩, .string ⟨y.toArray⟩] w fun e w' => e = .returned (.int .i64 z) ∧ w' = w := fun w => by rw [hz]; exact flip (rparts_walk x y (by omega) (by omega) w)
                  rw [← hz] at HST
                  have HCON := Lib.hid hcon
                  clear hz hcon
                  by_cases hz0 : z = 0
                  · subst hz0
                    have HN : Hid (Sem.cmpParts l m = Sem.cmpParts (l.drop (k + 1)) (m.drop (k + 1))) := Lib.hid (HK.out.trans (HST.out.trans (if_pos rfl)))
                    go_wp2_with fail
                    go_quiet ((go_at_call 38; exact Calls.quiet_of_same (HCON.out _)))
                    go_wp2_with fail
                    go_roundw
                    case rel => exact ⟨k + 1, by go_num, by omega, by omega, HN, below_drewN hbr _⟩
                    case measure => simp [intOf]; omega
                  · have hd : (z != 0) = true := by rw [bne_iff_ne]; exact hz0
                    have HN : Hid (Sem.cmp v u = z) := Lib.hid (by rw [HF.out, HK.out, HST.out, if_neg hz0])
                    clear hz0
                    go_wp2_with fail
                    go_quiet ((go_at_call 38; exact Calls.quiet_of_same (HCON.out _)))
                    go_wp2
                    go_ret
                    exact ⟨by rw [HN.out]; rfl, below_drewN (below_next hbw hbr) _⟩
                · have HN : Hid (Sem.cmp v u = ord l.length m.length) := Lib.hid (by rw [HF.out, HK.out, cmpParts_end hk1 hk2 (by omega)])
                  clear hls hms
                  go_wp2_with fail
                  refine (order_walk _ _ _).mono ?_
                  rintro e w3 ⟨rfl, rfl⟩
                  go_wp2
                  go_ret
                  exact ⟨by rw [HN.out]; rfl, below_next hbw hbr⟩
              · have HN : Hid (Sem.cmp v u = ord l.length m.length) := Lib.hid (by rw [HF.out, HK.out, cmpParts_end hk1 hk2 (by omega)])
                clear hls hms
                go_wp2_with fail
                refine (order_walk _ _ _).mono ?_
                rintro e w3 ⟨rfl, rfl⟩
                go_wp2
                go_ret
                exact ⟨by rw [HN.out]; rfl, below_next hbw hbr⟩
end Go.Proofs.YtifblpbikngjeaaDoor
