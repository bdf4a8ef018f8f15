/- The program's Core and Cmp. -/
import Derived.Test.YtifblpbikngjeaaDoorSemCmpOwn2
namespace Go.Proofs.YtifblpbikngjeaaDoor
open Go.RowKit
set_option linter.unusedVariables false

set_option maxRecDepth 100000 in
set_option maxHeartbeats 1000000 in
theorem core_walk (v : Sem.Ver) (w : World) :
    Calls Tryd.prog 18 #[verV v] w fun e w' => e = .returned (verV (Sem.core v)) ∧ Below w.heap.size w w' := by
  have hV : verV v = .agg #[.int .i64 v.maj, .int .i64 v.min, .int .i64 v.pat, .string ⟨v.pre.toArray⟩] := rfl
  rw [hV]
  clear hV
  go_enter Tryd.func18, Tryd.ntmps18
  go_wp2
  refine bodyPost_ret (v := .agg #[.int .i64 v.maj, .int .i64 v.min, .int .i64 v.pat, .string ByteArray.empty]) (by simp [results, Tryd.results18, go_sem]; rfl) rfl ?_
  exact ⟨rfl, below_new (below_one _ _) _⟩

theorem coreL_walk (v : Sem.Ver) (w : World) :
    Calls Tryd.prog 18 #[.agg #[.int .i64 v.maj, .int .i64 v.min, .int .i64 v.pat, .string ⟨v.pre.toArray⟩]] w fun e w' => e = .returned (.agg #[.int .i64 v.maj, .int .i64 v.min, .int .i64 v.pat, .string ⟨#[]⟩]) ∧ Below w.heap.size w w' :=
  core_walk v w

/-- Two versions in boxes, one behind the other. -/
def Two8 (w W : World) (g : Nat) (v u : Sem.Ver) : Prop := g + 1 < W.heap.size ∧ W.cell? ⟨g, 0, none⟩ = some (.int .i64 v.maj) ∧ W.cell? ⟨g, 1, none⟩ = some (.int .i64 v.min) ∧ W.cell? ⟨g, 2, none⟩ = some (.int .i64 v.pat) ∧ W.cell? ⟨g, 3, none⟩ = some (.string ⟨v.pre.toArray⟩) ∧ W.cell? ⟨g + 1, 0, none⟩ = some (.int .i64 u.maj) ∧ W.cell? ⟨g + 1, 1, none⟩ = some (.int .i64 u.min) ∧ W.cell? ⟨g + 1, 2, none⟩ = some (.int .i64 u.pat) ∧ W.cell? ⟨g + 1, 3, none⟩ = some (.string ⟨u.pre.toArray⟩) ∧ Below w.heap.size w W

theorem two8_next {w W w' : World} {g : Nat} {v u : Sem.Ver} (h : Two8 w W g v u) (hb : Below W.heap.size W w') : Two8 w w' g v u := by
  obtain ⟨h0, a0, a1, a2, a3, b0, b1, b2, b3, h5⟩ := h
  obtain ⟨_, c0, c1, c2, c3⟩ := VerAt.next (v := v) ⟨by omega, a0, a1, a2, a3⟩ hb
  obtain ⟨k0, d0, d1, d2, d3⟩ := VerAt.next (v := u) ⟨h0, b0, b1, b2, b3⟩ hb
  exact ⟨k0, c0, c1, c2, c3, d0, d1, d2, d3, below_next h5 hb⟩

theorem two8_drew {w W : World} {g : Nat} {v u : Sem.Ver} (h : Two8 w W g v u) : Two8 w W.drew g v u := by
  obtain ⟨h0, a0, a1, a2, a3, b0, b1, b2, b3, h5⟩ := h
  exact ⟨h0, a0, a1, a2, a3, b0, b1, b2, b3, h5.drew⟩

theorem orR_cmp (v u : Sem.Ver) (h : ¬ (v.maj = u.maj ∧ v.min = u.min ∧ v.pat = u.pat)) : orR [ord v.maj u.maj, ord v.min u.min, ord v.pat u.pat] = Sem.cmp v u := by
  rw [cmp_ord]
  simp only [orR, ord_zero]
  by_cases h1 : v.maj = u.maj
  · rw [if_pos h1, if_pos h1]
    by_cases h2 : v.min = u.min
    · rw [if_pos h2, if_pos h2]
      have h3 : ¬ v.pat = u.pat := fun h3 => h ⟨h1, h2, h3⟩
      rw [if_neg h3, if_neg h3]
    · rw [if_neg h2, if_neg h2]
  · rw [if_neg h1, if_neg h1]
end Go.Proofs.YtifblpbikngjeaaDoor
