/- The program's Check: may a version be? -/
import Derived.Test.YtifblpbikngjeaaDoorSemRange
import Derived.Test.YtifblpbikngjeaaDoorSemOwn2
import Derived.Test.YtifblpbikngjeaaDoorSemCheck
namespace Go.Proofs.YtifblpbikngjeaaDoor
open Go.RowKit
attribute [local go_sem] Oper.semAt_some
set_option linter.unusedVariables false

theorem int_one (h : 3 < Tryd.prog.types.size) : (Tryd.prog.types[3]'h).size = 1 := by kernel_rfl
theorem arr3_0 (a b c : Int) (W : World) : (Instr.index 53 (.agg #[.int .i64 a, .int .i64 b, .int .i64 c]) (.int .i64 0)).run Tryd.prog W = .ok (.int .i64 a) W := by
  simp [Instr.index, run_underlying Tryd.underlying53, asIntOf, go_sem, Tryd.sizeOf3, Tryd.isAgg3]
theorem arr3_1 (a b c : Int) (W : World) : (Instr.index 53 (.agg #[.int .i64 a, .int .i64 b, .int .i64 c]) (.int .i64 1)).run Tryd.prog W = .ok (.int .i64 b) W := by
  simp [Instr.index, run_underlying Tryd.underlying53, asIntOf, go_sem, Tryd.sizeOf3, Tryd.isAgg3]
theorem arr3_2 (a b c : Int) (W : World) : (Instr.index 53 (.agg #[.int .i64 a, .int .i64 b, .int .i64 c]) (.int .i64 2)).run Tryd.prog W = .ok (.int .i64 c) W := by
  simp [Instr.index, run_underlying Tryd.underlying53, asIntOf, go_sem, Tryd.sizeOf3, Tryd.isAgg3]

/-- How far the look at the three numbers has come. -/
def Far (a b c : Int) (i : Value) : Prop := i = .int .i64 0 ∨ (i = .int .i64 1 ∧ 0 ≤ a ∧ a ≤ 999999) ∨ (i = .int .i64 2 ∧ 0 ≤ a ∧ a ≤ 999999 ∧ 0 ≤ b ∧ b ≤ 999999) ∨ (i = .int .i64 3 ∧ 0 ≤ a ∧ a ≤ 999999 ∧ 0 ≤ b ∧ b ≤ 999999 ∧ 0 ≤ c ∧ c ≤ 999999)

theorem may_false_num {a b c : Int} {p : List UInt8} (h : ¬ ((0 ≤ a ∧ a ≤ 999999) ∧ (0 ≤ b ∧ b ≤ 999999) ∧ (0 ≤ c ∧ c ≤ 999999))) : chk ⟨a, b, c, p⟩ = 40 := by
  rw [chk, if_neg]
  rw [Sem.may_iff]
  rintro ⟨h1, h2, h3, _⟩
  exact h ⟨h1, h2, h3⟩

set_option maxRecDepth 100000 in
set_option maxHeartbeats 4000000 in
theorem check_bad (a b c : Int) (p : List UInt8) (hn : ¬ ((0 ≤ a ∧ a ≤ 999999) ∧ (0 ≤ b ∧ b ≤ 999999) ∧ (0 ≤ c ∧ c ≤ 999999))) (w : World) :
    Calls Tryd.prog 16 #[.agg #[.int .i64 a, .int .i64 b, .int .i64 c, .string ⟨p.toArray⟩]] w fun e w' => e = .returned (.int .i64 (chk ⟨a, b, c, p⟩)) ∧ Below w.heap.size w w' := by
  have HE : Hid (chk ⟨a, b, c, p⟩ = 40) := Lib.hid (may_false_num hn)
  go_enter Tryd.func16, Tryd.ntmps16
  go_wp2_with fail
  have hx0 := arr3_0 a b c
  have hx1 := arr3_1 a b c
  have hx2 := arr3_2 a b c
  go_loop [13] (fun i => Far a b c i) (fun i => 3 - (intOf i).toNat)
  case atStart => exact Or.inl rfl
  case round =>
    rcases hrel with rfl | ⟨rfl, a1, a2⟩ | ⟨rfl, a1, a2, b1, b2⟩ | ⟨rfl, a1, a2, b1, b2, c1, c2⟩
    · rcases (show a < 0 ∨ 999999 < a ∨ (0 ≤ a ∧ a ≤ 999999) from by omega) with h | h | ⟨h1, h2⟩
      · go_wp2
        refine bodyPost_ret (v := .int .i64 40) (by simp [results, Tryd.results16, go_sem]) rfl ?_
        exact ⟨by rw [HE.out], below_new (below_one _ _) _⟩
      · have hd : decide (a < 0) = false := decide_eq_false (by omega)
        have hd2 : decide (999999 < a) = true := decide_eq_true h
        go_wp2
        refine bodyPost_ret (v := .int .i64 40) (by simp [results, Tryd.results16, go_sem]) rfl ?_
        exact ⟨by rw [HE.out], below_new (below_one _ _) _⟩
      · have hd : decide (a < 0) = false := decide_eq_false (by omega)
        have hd2 : decide (999999 < a) = false := decide_eq_false (by omega)
        go_wp2
        go_round
        case rel => exact Or.inr (Or.inl ⟨rfl, by omega, by omega⟩)
        case measure => simp [intOf]
    · rcases (show b < 0 ∨ 999999 < b ∨ (0 ≤ b ∧ b ≤ 999999) from by omega) with h | h | ⟨h1, h2⟩
      · go_wp2
        refine bodyPost_ret (v := .int .i64 40) (by simp [results, Tryd.results16, go_sem]) rfl ?_
        exact ⟨by rw [HE.out], below_new (below_one _ _) _⟩
      · have hd : decide (b < 0) = false := decide_eq_false (by omega)
        have hd2 : decide (999999 < b) = true := decide_eq_true h
        go_wp2
        refine bodyPost_ret (v := .int .i64 40) (by simp [results, Tryd.results16, go_sem]) rfl ?_
        exact ⟨by rw [HE.out], below_new (below_one _ _) _⟩
      · have hd : decide (b < 0) = false := decide_eq_false (by omega)
        have hd2 : decide (999999 < b) = false := decide_eq_false (by omega)
        go_wp2
        go_round
        case rel => exact Or.inr (Or.inr (Or.inl ⟨rfl, a1, a2, by omega, by omega⟩))
        case measure => simp [intOf]
    · rcases (show c < 0 ∨ 999999 < c ∨ (0 ≤ c ∧ c ≤ 999999) from by omega) with h | h | ⟨h1, h2⟩
      · go_wp2
        refine bodyPost_ret (v := .int .i64 40) (by simp [results, Tryd.results16, go_sem]) rfl ?_
        exact ⟨by rw [HE.out], below_new (below_one _ _) _⟩
      · have hd : decide (c < 0) = false := decide_eq_false (by omega)
        have hd2 : decide (999999 < c) = true := decide_eq_true h
        go_wp2
        refine bodyPost_ret (v := .int .i64 40) (by simp [results, Tryd.results16, go_sem]) rfl ?_
        exact ⟨by rw [HE.out], below_new (below_one _ _) _⟩
      · have hd : decide (c < 0) = false := decide_eq_false (by omega)
        have hd2 : decide (999999 < c) = false := decide_eq_false (by omega)
        go_wp2
        go_round
        case rel => exact Or.inr (Or.inr (Or.inr ⟨rfl, a1, a2, b1, b2, by omega, by omega⟩))
        case measure => simp [intOf]
    · exact absurd ⟨⟨a1, a2⟩, ⟨b1, b2⟩, ⟨c1, c2⟩⟩ hn
set_option maxRecDepth 100000 in
set_option maxHeartbeats 4000000 in
theorem check_none (a b c : Int) (a1 : 0 ≤ a) (a2 : a ≤ 999999) (b1 : 0 ≤ b) (b2 : b ≤ 999999) (c1 : 0 ≤ c) (c2 : c ≤ 999999) (w : World) :
    Calls Tryd.prog 16 #[.agg #[.int .i64 a, .int .i64 b, .int .i64 c, .string ⟨(([] : List UInt8)).toArray⟩]] w fun e w' => e = .returned (.int .i64 (chk ⟨a, b, c, []⟩)) ∧ Below w.heap.size w w' := by
  have HE : Hid (chk ⟨a, b, c, []⟩ = 0) := Lib.hid (by rw [chk, if_pos]; exact (Sem.may_iff _).2 ⟨⟨a1, a2⟩, ⟨b1, b2⟩, ⟨c1, c2⟩, by simp, rfl⟩)
  have da : decide (a < 0) = false := decide_eq_false (by omega)
  have db : decide (b < 0) = false := decide_eq_false (by omega)
  have dc : decide (c < 0) = false := decide_eq_false (by omega)
  have da2 : decide (999999 < a) = false := decide_eq_false (by omega)
  have db2 : decide (999999 < b) = false := decide_eq_false (by omega)
  have dc2 : decide (999999 < c) = false := decide_eq_false (by omega)
  go_enter Tryd.func16, Tryd.ntmps16
  go_wp2_with fail
  have hx0 := arr3_0 a b c
  have hx1 := arr3_1 a b c
  have hx2 := arr3_2 a b c
  go_loop [13] (fun i => Far a b c i) (fun i => 3 - (intOf i).toNat)
  case atStart => exact Or.inl rfl
  case round =>
    rcases hrel with rfl | ⟨rfl, _, _⟩ | ⟨rfl, _, _, _, _⟩ | ⟨rfl, _, _, _, _, _, _⟩
    · go_wp2
      go_round
      case rel => exact Or.inr (Or.inl ⟨rfl, a1, a2⟩)
      case measure => simp [intOf]
    · go_wp2
      go_round
      case rel => exact Or.inr (Or.inr (Or.inl ⟨rfl, a1, a2, b1, b2⟩))
      case measure => simp [intOf]
    · go_wp2
      go_round
      case rel => exact Or.inr (Or.inr (Or.inr ⟨rfl, a1, a2, b1, b2, c1, c2⟩))
      case measure => simp [intOf]
    · go_wp2
      refine bodyPost_ret (v := .int .i64 0) (by simp [results, Tryd.results16, go_sem]) rfl ?_
      exact ⟨by rw [HE.out], below_new (below_one _ _) _⟩

set_option maxRecDepth 100000 in
set_option maxHeartbeats 4000000 in
theorem check_long (a b c : Int) (p : List UInt8) (hp : 24 < p.length) (hs : p.length ≤ 9223372036854775807) (a1 : 0 ≤ a) (a2 : a ≤ 999999) (b1 : 0 ≤ b) (b2 : b ≤ 999999) (c1 : 0 ≤ c) (c2 : c ≤ 999999) (w : World) :
    Calls Tryd.prog 16 #[.agg #[.int .i64 a, .int .i64 b, .int .i64 c, .string ⟨p.toArray⟩]] w fun e w' => e = .returned (.int .i64 (chk ⟨a, b, c, p⟩)) ∧ Below w.heap.size w w' := by
  have HE : Hid (chk ⟨a, b, c, p⟩ = 40) := Lib.hid (by rw [chk, if_neg]; rw [Sem.may_iff]; rintro ⟨_, _, _, h, _⟩; simp only at h; omega)
  have he : p.isEmpty = false := by
    cases p with
    | nil => simp at hp
    | cons _ _ => rfl
  have hsz : (⟨p.toArray⟩ : ByteArray).size = p.length := size_list _
  have da : decide (a < 0) = false := decide_eq_false (by omega)
  have db : decide (b < 0) = false := decide_eq_false (by omega)
  have dc : decide (c < 0) = false := decide_eq_false (by omega)
  have da2 : decide (999999 < a) = false := decide_eq_false (by omega)
  have db2 : decide (999999 < b) = false := decide_eq_false (by omega)
  have dc2 : decide (999999 < c) = false := decide_eq_false (by omega)
  go_enter Tryd.func16, Tryd.ntmps16
  go_wp2_with fail
  have hx0 := arr3_0 a b c
  have hx1 := arr3_1 a b c
  have hx2 := arr3_2 a b c
  go_loop [13] (fun i => Far a b c i) (fun i => 3 - (intOf i).toNat)
  case atStart => exact Or.inl rfl
  case round =>
    rcases hrel with rfl | ⟨rfl, _, _⟩ | ⟨rfl, _, _, _, _⟩ | ⟨rfl, _, _, _, _, _, _⟩
    · go_wp2
      go_round
      case rel => exact Or.inr (Or.inl ⟨rfl, a1, a2⟩)
      case measure => simp [intOf]
    · go_wp2
      go_round
      case rel => exact Or.inr (Or.inr (Or.inl ⟨rfl, a1, a2, b1, b2⟩))
      case measure => simp [intOf]
    · go_wp2
      go_round
      case rel => exact Or.inr (Or.inr (Or.inr ⟨rfl, a1, a2, b1, b2, c1, c2⟩))
      case measure => simp [intOf]
    · go_wp2
      refine bodyPost_ret (v := .int .i64 40) (by simp [results, Tryd.results16, go_sem]) rfl ?_
      exact ⟨by rw [HE.out], below_new (below_one _ _) _⟩
end Go.Proofs.YtifblpbikngjeaaDoor
