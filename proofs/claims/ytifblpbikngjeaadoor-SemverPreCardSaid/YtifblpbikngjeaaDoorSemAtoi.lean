/- strconv.Atoi and strings.Clone, as the program's Parse calls them. -/
import Derived.Test.YtifblpbikngjeaaDoorSemGlob
import Derived.Test.YtifblpbikngjeaaDoorSemPieces
namespace Go.Proofs.YtifblpbikngjeaaDoor
open Go.RowKit
set_option linter.unusedVariables false

theorem atoi_ok (x : List UInt8) (hx : x.length ≤ 140737488355328) (v : Int) (h : Lib.atoiAll x = .ok v) (w : World) :
    Calls Tryd.prog 25 #[.string ⟨x.toArray⟩] w fun e w' => e = .returned (.tuple #[.int .i64 v, .nilIface]) ∧ Below w.heap.size w w' := by
  have hi := Any.strconv_Atoi_ok Tryd.lays172 ⟨x.toArray⟩ (by rw [size_list]; omega) v h w
  refine Calls.mono hi ?_
  rintro e w' ⟨rfl, hw⟩
  refine ⟨rfl, ?_⟩
  rcases hw with rfl | ⟨t, rfl⟩
  · exact Below.refl _ _
  · exact Lib.bytesWorld_below _ _ _

theorem atoi_bad (x : List UInt8) (hx : x.length ≤ 140737488355328) (h : ∀ v, Lib.atoiAll x ≠ .ok v) (w : World) (hg : Globs w) :
    Calls Tryd.prog 25 #[.string ⟨x.toArray⟩] w fun e w' => ∃ z N, e = .returned (.tuple #[.int .i64 z, .iface 78 (.pointer (some ⟨N, 0, none⟩))]) ∧ Below w.heap.size w w' := by
  obtain ⟨te, pe, h1⟩ := hg.syn
  obtain ⟨te', pe', h2⟩ := hg.rng
  rcases ha : Lib.atoiAll x with v | _ | _
  · exact absurd ha (h v)
  · have hi := Any.strconv_Atoi_syntax Tryd.lays172 ⟨x.toArray⟩ (by rw [size_list]; omega) ha _ w h1 (Or.inr ⟨te, pe, rfl⟩)
    refine Calls.mono hi ?_
    rintro e w' ⟨N, rfl, _, _, hb⟩
    exact ⟨_, N, rfl, hb⟩
  · have hi := Any.strconv_Atoi_range Tryd.lays172 ⟨x.toArray⟩ (by rw [size_list]; omega) ha _ w h2 (Or.inr ⟨te', pe', rfl⟩)
    refine Calls.mono hi ?_
    rintro e w' ⟨N, rfl, _, _, hb⟩
    exact ⟨_, N, rfl, hb⟩

theorem clone_walk (x : List UInt8) (hx : x.length ≤ 140737488355328) (w : World) :
    Calls Tryd.prog 26 #[.string ⟨x.toArray⟩] w fun e w' => e = .returned (.string ⟨x.toArray⟩) ∧ Below w.heap.size w w' := by
  have hi : ∀ w, Calls Tryd.prog 43 #[.string ⟨x.toArray⟩] w fun e w' => e = .returned (.string ⟨x.toArray⟩) ∧ Below w.heap.size w w' := fun w =>
    Any.stringslite_Clone Tryd.laysM316 ⟨x.toArray⟩ w (by rw [size_list]; omega)
  go_enter Tryd.func26, Tryd.ntmps26
  go_wp2_with fail
  refine (hi _).mono ?_
  rintro e w' ⟨rfl, hb⟩
  go_wp2
  go_ret
  exact ⟨rfl, hb⟩
end Go.Proofs.YtifblpbikngjeaaDoor
