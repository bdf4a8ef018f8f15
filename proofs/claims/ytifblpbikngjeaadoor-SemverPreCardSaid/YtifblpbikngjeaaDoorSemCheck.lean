/- The document's Check: may a version be? -/
import Derived.Test.YtifblpbikngjeaaDoorSemPart
import Derived.Test.YtifblpbikngjeaaDoorSemParts
namespace Go.Proofs.YtifblpbikngjeaaDoor
open Go.RowKit
set_option linter.unusedVariables false

/-- A version as Go holds it. -/
def verV (v : Sem.Ver) : Value := .agg #[.int .i64 v.maj, .int .i64 v.min, .int .i64 v.pat, .string ⟨v.pre.toArray⟩]

/-- A version that lies in memory. -/
def VerAt (w : World) (g : Nat) (v : Sem.Ver) : Prop := g < w.heap.size ∧ w.cell? ⟨g, 0, none⟩ = some (.int .i64 v.maj) ∧ w.cell? ⟨g, 1, none⟩ = some (.int .i64 v.min) ∧ w.cell? ⟨g, 2, none⟩ = some (.int .i64 v.pat) ∧ w.cell? ⟨g, 3, none⟩ = some (.string ⟨v.pre.toArray⟩)

theorem VerAt.next {w w' : World} {g : Nat} {v : Sem.Ver} (h : VerAt w g v) (hb : Below w.heap.size w w') : VerAt w' g v :=
  ⟨Nat.lt_of_lt_of_le h.1 hb.size, ((cell_of_below (o := 0) hb h.1).1).trans h.2.1, ((cell_of_below (o := 1) hb h.1).1).trans h.2.2.1, ((cell_of_below (o := 2) hb h.1).1).trans h.2.2.2.1, ((cell_of_below (o := 3) hb h.1).1).trans h.2.2.2.2⟩

theorem ver_new (w : World) (v : Sem.Ver) : VerAt (w.alloc (.cells #[.int .i64 v.maj, .int .i64 v.min, .int .i64 v.pat, .string ⟨v.pre.toArray⟩] 23)) w.heap.size v :=
  ⟨by simp, by simp [go_sem], by simp [go_sem], by simp [go_sem], by simp [go_sem]⟩

/-- What Check tells. -/
def chk (v : Sem.Ver) : Int := if Sem.may v = true then 0 else 40

theorem all_part_next {ps : List (List UInt8)} {k : Nat} (h : k < ps.length) : (ps.take (k + 1)).all Sem.part = ((ps.take k).all Sem.part && Sem.part ps[k]) := by
  rw [List.take_succ_eq_append_getElem h, List.all_append]; simp

set_option maxRecDepth 100000 in
set_option maxHeartbeats 1000000 in
theorem rcheck_walk (v : Sem.Ver) (hs : v.pre.length ≤ 9223372036854775807) (w : World) :
    Calls Tryd.prog 17 #[verV v] w fun e w' => e = .returned (.int .i64 (chk v)) ∧ Below w.heap.size w w' := by
  obtain ⟨a, b, c, p⟩ := v
  have hm := Sem.may_iff ⟨a, b, c, p⟩
  simp only at hm hs
  unfold verV
  by_cases hn : (0 ≤ a ∧ a ≤ 999999) ∧ (0 ≤ b ∧ b ≤ 999999) ∧ (0 ≤ c ∧ c ≤ 999999) ∧ p.length ≤ 24
  · obtain ⟨⟨a1, a2⟩, ⟨b1, b2⟩, ⟨c1, c2⟩, hp⟩ := hn
    by_cases hz : p = []
    · have HM : Hid (Sem.may ⟨a, b, c, p⟩ = true) := Lib.hid (hm.2 ⟨⟨a1, a2⟩, ⟨b1, b2⟩, ⟨c1, c2⟩, hp, by rw [hz]; rfl⟩)
      subst hz
      clear hm
      go_enter Tryd.func17, Tryd.ntmps17
      go_wp2
      go_ret
      exact ⟨by rw [chk, if_pos HM.out]; rfl, (Below.refl _ _).alloc (Nat.le_refl _) _⟩
    · have he : p.isEmpty = false := by simpa using hz
      have HM : Hid (Sem.may ⟨a, b, c, p⟩ = (Sem.parts p).all Sem.part) := Lib.hid (by
        rw [Bool.eq_iff_iff, hm]
        have : Sem.preOk p = (Sem.parts p).all Sem.part := by unfold Sem.preOk; rw [he, Bool.false_or]
        rw [this]
        exact ⟨fun h => h.2.2.2.2, fun h => ⟨⟨a1, a2⟩, ⟨b1, b2⟩, ⟨c1, c2⟩, hp, h⟩⟩)
      clear hm hz
      go_enter Tryd.func17, Tryd.ntmps17
      go_wp2_with fail
      refine (parts_walk ⟨p.toArray⟩ (by rw [size_list]; omega) _).mono ?_
      rintro e w1 ⟨A, cap, rfl, hS, hb⟩
      have hb1 := below_next (below_one _ _) hb
      go_wp2_with fail
      obtain ⟨ps, hps⟩ : ∃ ps, ps = Sem.parts p := ⟨_, rfl⟩
      have hpl : ∀ q ∈ ps, q.length ≤ 24 := by
        intro q hq
        have := Sem.parts_len p q (by rw [← hps]; exact hq)
        omega
      have HPL := Lib.hid hpl
      have hcount : ps.length ≤ p.length + 1 := by rw [hps]; exact Sem.parts_count p
      have hsl : (strs ps).length = ps.length := by simp [strs]
      rw [← hps] at HM hS ⊢
      rw [hsl]
      clear hpl hps
      go_loop [4] (fun i => ∃ k : Nat, i = .int .i64 k ∧ k ≤ ps.length ∧ Hid ((ps.take k).all Sem.part = true)) (fun i => ps.length - (intOf i).toNat)
      case atStart => exact ⟨0, rfl, Nat.zero_le _, Lib.hid rfl⟩
      case round =>
        obtain ⟨k, rfl, hk, HP⟩ := hrel
        by_cases hlt : k < ps.length
        · rcases hS with hS | ⟨g, off, rfl, _, hc⟩
          · omega
          · obtain ⟨q, hq⟩ : ∃ q, q = ps[k] := ⟨_, rfl⟩
            have hcell : w1.cell? ⟨g, off + k, none⟩ = some (.string ⟨q.toArray⟩) := by
              rw [hc k (by rw [hsl]; exact hlt), hq]; simp [strs]
            have hq24 := HPL.out q (by rw [hq]; exact List.getElem_mem _)
            have HQ := Lib.hid hq
            clear hc hq hsl
            cases hqp : Sem.part q
            · have HN : Hid (ps.all Sem.part = false) := Lib.hid (by
                rw [List.all_eq_false]
                exact ⟨q, by rw [HQ.out]; exact List.getElem_mem _, by rw [hqp]; simp⟩)
              have hcon := part_walk ⟨q.toArray⟩ (by rw [size_list]; omega) w1
              have hcon2 : Calls Tryd.prog 32 #[.string ⟨q.toArray⟩] w1 fun e w' => e = .returned (.bool false) ∧ w1 = w' := by rw [← hqp]; exact hcon
              clear hcon
              go_wp2_with (go_at_call 32; refine hcon2.mono ?_; rintro e w' ⟨rfl, rfl⟩)
              go_ret
              exact ⟨by rw [chk, HM.out, if_neg (by rw [HN.out]; simp)]; rfl, hb1⟩
            · have HN : Hid ((ps.take (k + 1)).all Sem.part = true) := Lib.hid (by rw [all_part_next hlt, HP.out, ← HQ.out, hqp]; rfl)
              have hcon := part_walk ⟨q.toArray⟩ (by rw [size_list]; omega) w1
              have hcon2 : Calls Tryd.prog 32 #[.string ⟨q.toArray⟩] w1 fun e w' => e = .returned (.bool true) ∧ w1 = w' := by rw [← hqp]; exact hcon
              clear hcon
              go_wp2_with (go_at_call 32; refine hcon2.mono ?_; rintro e w' ⟨rfl, rfl⟩)
              go_round
              case rel => exact ⟨k + 1, by go_num, by omega, HN⟩
              case measure => simp [intOf]; omega
        · have HN : Hid (ps.all Sem.part = true) := Lib.hid (by have := HP.out; rwa [List.take_of_length_le (by omega)] at this)
          clear hsl
          go_wp2
          go_ret
          exact ⟨by rw [chk, HM.out, if_pos HN.out]; rfl, hb1⟩
  · have HM : Hid (Sem.may ⟨a, b, c, p⟩ = false) := Lib.hid (Bool.eq_false_iff.2 fun h => hn ⟨(hm.1 h).1, (hm.1 h).2.1, (hm.1 h).2.2.1, (hm.1 h).2.2.2.1⟩)
    clear hm
    go_enter Tryd.func17, Tryd.ntmps17
    go_wp2
    all_goals
      first
      | (exfalso; omega)
      | (go_ret
         exact ⟨by rw [chk, if_neg (by rw [HM.out]; simp)]; rfl, below_one _ _⟩)
end Go.Proofs.YtifblpbikngjeaaDoor
