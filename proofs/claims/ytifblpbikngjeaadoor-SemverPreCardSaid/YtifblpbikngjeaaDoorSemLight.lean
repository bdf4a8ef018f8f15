/- The laws' own light: is what stands behind the - so short? -/
import Derived.Test.YtifblpbikngjeaaDoorVers
namespace Go.Proofs.YtifblpbikngjeaaDoor
open Go.RowKit
set_option linter.unusedVariables false

def lightB (l : List Sem.Ver) : Bool := l.all fun v => decide (v.pre.length ≤ 300)

set_option maxRecDepth 100000 in
theorem light_walk (A : Option Addr) (cap : Nat) (l : List Sem.Ver) (w : World) (hA : Vers w w.heap.size A l) (hl : l.length ≤ 9223372036854775807) :
    Calls Tryd.prog 13 #[.slice A l.length cap] w fun e w' => e = .returned (.bool (lightB l)) ∧ w = w' := by
  go_enter Tryd.func13, Tryd.ntmps13
  go_wp2_with fail
  go_loop [3] (fun i => ∃ k : Nat, i = .int .i64 k ∧ k ≤ l.length ∧ Hid (∀ v ∈ l.take k, v.pre.length ≤ 300)) (fun i => l.length - (intOf i).toNat)
  case atStart => exact ⟨0, rfl, Nat.zero_le _, Lib.hid (fun v hv => by simp at hv)⟩
  case round =>
    obtain ⟨k, rfl, hk, HP⟩ := hrel
    by_cases hlt : k < l.length
    · rcases hA with hA | ⟨g, off, rfl, _, hc⟩
      · omega
      · obtain ⟨_, _, _, q3⟩ := hc k hlt
        obtain ⟨x, hx⟩ : ∃ x, x = l[k] := ⟨_, rfl⟩
        rw [← hx] at q3
        have HX := Lib.hid hx
        clear hc hx
        by_cases h3 : x.pre.length ≤ 300
        · have HN : Hid (∀ v ∈ l.take (k + 1), v.pre.length ≤ 300) := Lib.hid (fun v hv => by
            rw [List.take_succ_eq_append_getElem hlt, List.mem_append] at hv
            rcases hv with hv | hv
            · exact HP.out v hv
            · simp at hv; rw [hv, ← HX.out]; exact h3)
          go_wp2
          go_round
          case rel => exact ⟨k + 1, by go_num, by omega, HN⟩
          case measure => simp [intOf]; omega
        · have HN : Hid (lightB l = false) := Lib.hid (by
            unfold lightB; rw [List.all_eq_false]
            exact ⟨x, by rw [HX.out]; exact List.getElem_mem _, by simp; omega⟩)
          go_wp2
          go_ret
          exact ⟨by rw [HN.out]; rfl, rfl⟩
    · have HN : Hid (lightB l = true) := Lib.hid (by
        unfold lightB; rw [List.all_eq_true]
        intro v hv
        exact decide_eq_true (HP.out v (by rw [List.take_of_length_le (by omega)]; exact hv)))
      go_wp2
      go_ret
      exact ⟨by rw [HN.out]; rfl, rfl⟩
end Go.Proofs.YtifblpbikngjeaaDoor
