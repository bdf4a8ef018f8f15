/- strings.SplitN at a dot, in four pieces at most, for every text. -/
import Derived.Test.YtifblpbikngjeaaDoorSemSeq
import Derived.Test.YtifblpbikngjeaaDoorStrs
import Derived.Test.YtifblpbikngjeaaDoorSemParts
import Derived.Lib.Split
import Derived.Deep.OwnRows
namespace Sem

/-- Cut at the first k dots at most. -/
def split : Nat → List UInt8 → List (List UInt8)
  | 0, l => [l]
  | k + 1, l => if (cut 46 l).2.2 = true then (cut 46 l).1 :: split k (cut 46 l).2.1 else [l]

theorem split_miss {k : Nat} {l : List UInt8} (h : (cut 46 l).2.2 = false) : split k l = [l] := by
  cases k with
  | zero => rfl
  | succ k => rw [split, if_neg (by rw [h]; simp)]

theorem split_hit {k : Nat} {l p q : List UInt8} (h : cut 46 l = (p, q, true)) : split (k + 1) l = p :: split k q := by
  rw [split, h, if_pos rfl]

theorem split_len : ∀ (k : Nat) (l : List UInt8), (split k l).length ≤ k + 1
  | 0, l => by simp [split]
  | k + 1, l => by
    rw [split]
    split
    · have := split_len k (cut 46 l).2.1
      simp only [List.length_cons]; omega
    · simp

theorem split_short : ∀ (k : Nat) (l : List UInt8), ∀ p ∈ split k l, p.length ≤ l.length
  | 0, l, p, hp => by simp [split] at hp; rw [hp]; omega
  | k + 1, l, p, hp => by
    rw [split] at hp
    split at hp
    · obtain ⟨h1, h2, _⟩ := cut_len 46 l
      rcases List.mem_cons.1 hp with rfl | hp
      · exact h1
      · exact Nat.le_trans (split_short k _ p hp) h2
    · simp at hp; rw [hp]; omega
end Sem

namespace Go.Proofs.YtifblpbikngjeaaDoor
open Go.RowKit
set_option linter.unusedVariables false

theorem string_info : (Tryd.prog.info? 9).map (fun i => (i.zero, i.size, i.bytes)) = some (some (.string ByteArray.empty), 1, 16) := by kernel_rfl

set_option maxHeartbeats 4000000 in
set_option maxRecDepth 1000000 in
theorem genSplit_walk (s : List UInt8) (hs : s.length ≤ 4611686018427387904) (N : Nat) (hN : (N : Int) = min 4 ((s.length : Int) + 1)) (w : World) :
    Calls Tryd.prog 40 #[.string ⟨s.toArray⟩, .string ⟨#[46]⟩, .int .i64 0, .int .i64 4] w fun e w' =>
      e = .returned (.slice (some ⟨w.heap.size, 0, none⟩) (Sem.split (N - 1) s).length N) ∧ w' = w.alloc (.cells (Lib.cellsOf (strs (Sem.split (N - 1) s)) N) 9) := by
  have hsz : (⟨s.toArray⟩ : ByteArray).size = s.length := size_list _
  have eN : min (4 : Int) ((s.length : Int) + 1) = (N : Int) := hN.symm
  have hNs : (N : Int) ≤ (s.length : Int) + 1 := by rw [hN]; exact Int.min_le_right _ _
  have hN4 : (N : Int) ≤ 4 := by rw [hN]; exact Int.min_le_left _ _
  have hN1 : (1 : Int) ≤ (N : Int) := by rw [hN]; exact Int.le_min.2 ⟨by omega, by omega⟩
  have hmk := run_make_row' (P := Tryd.prog) 51 9 (.string ByteArray.empty) 16 Tryd.underlying51 string_info rfl .i64 .i64 N (by omega) (by omega)
  clear hN
  go_enter Tryd.func40, Tryd.ntmps40
  go_wp2_with fail
  clear hmk
  go_loopw [0, 10] (fun a i wr => ∃ (done : List (List UInt8)) (rest : List UInt8), a = .string ⟨rest.toArray⟩ ∧ i = .int .i64 done.length ∧ done.length ≤ N - 1 ∧ rest.length ≤ s.length ∧
      wr = w.alloc (.cells (Lib.cellsOf (strs done) N) 9) ∧ Hid (done ++ Sem.split (N - 1 - done.length) rest = Sem.split (N - 1) s))
    (fun _ i _ => N - (intOf i).toNat)
  case atStart => exact ⟨[], s, rfl, rfl, Nat.zero_le _, Nat.le_refl _, by rw [show strs [] = [] from rfl, Lib.cellsOf_nil], Lib.hid (by simp)⟩
  case round =>
    obtain ⟨done, rest, rfl, rfl, hd, hr, rfl, HP⟩ := hrel
    have hsl : (strs done).length = done.length := by simp [strs]
    have hnext : (Lib.cellsOf (strs done) N)[done.length]? = some (.string ByteArray.empty) := by rw [← hsl]; exact Lib.cellsOf_next (by omega)
    have fin : ∀ x : List UInt8, Sem.split (N - 1 - done.length) rest = [x] → (Sem.split (N - 1) s).length = done.length + 1 ∧ (Lib.cellsOf (strs done) N).setIfInBounds done.length (.string ⟨x.toArray⟩) = Lib.cellsOf (strs (Sem.split (N - 1) s)) N := fun x h => by
      rw [← HP.out, h]
      refine ⟨by simp, ?_⟩
      have := Lib.cellsOf_set (done := strs done) (N := N) (by omega) ⟨x.toArray⟩
      rw [hsl] at this
      rw [this]; simp [strs]
    have hrs : (⟨rest.toArray⟩ : ByteArray).size = rest.length := size_list _
    by_cases hlt : done.length < N - 1
    · have hltz : ((done.length : Nat) : Int) < (N : Int) - 1 := by omega
      have hI := fun w => index_dot_walk rest w
      rcases index_dot rest with ⟨hi, hc⟩ | ⟨i, hi, hil, hc⟩
      · rw [hi] at hI
        obtain ⟨f1, f2⟩ := fin rest (Sem.split_miss hc)
        have F1 := Lib.hid f1
        have F2 := Lib.hid f2
        clear hi hc fin f1 f2
        go_wp2_with (go_at_call 56; refine (hI _).mono ?_; rintro e w' ⟨rfl, hw⟩; rw [hw])
        go_ret
        rw [F1.out, ← F2.out]
        exact ⟨rfl, rfl⟩
      · rw [hi] at hI
        have HN : Hid ((done ++ [rest.take i]) ++ Sem.split (N - 1 - (done.length + 1)) (rest.drop (i + 1)) = Sem.split (N - 1) s) := Lib.hid (by
          rw [← HP.out, show N - 1 - done.length = (N - 1 - (done.length + 1)) + 1 from by omega, Sem.split_hit hc]; simp)
        have ex : (⟨rest.toArray⟩ : ByteArray).extract 0 i = ⟨(rest.take i).toArray⟩ := by
          have := ByteArray.extract_mk rest 0 i
          simpa using this
        have hset : (Lib.cellsOf (strs done) N).setIfInBounds done.length (.string ⟨(rest.take i).toArray⟩) = Lib.cellsOf (strs (done ++ [rest.take i])) N := by
          have := Lib.cellsOf_set (done := strs done) (N := N) (by omega) ⟨(rest.take i).toArray⟩
          rw [hsl] at this
          rw [this]; simp [strs]
        have hw1 : IntKind.i64.wrap ((i : Int) + 1) = (i : Int) + 1 := IntWalk.i64_in _ (by omega)
        have hw0 : IntKind.i64.wrap ((i : Int) + 0) = (i : Int) + 0 := IntWalk.i64_in _ (by omega)
        have hsp : ∀ W, (Instr.slice 9 (.string ⟨rest.toArray⟩) (some (.int .i64 ((i : Int) + 1))) none none).run Tryd.prog W = .ok (.string ⟨(rest.drop (i + 1)).toArray⟩) W := fun W => by
          have h := slice_from ⟨rest.toArray⟩ (i + 1) (by rw [hrs]; omega) W
          exact h
        have HS := Lib.hid hset
        clear hi hc fin hset
        go_wp2_with (go_at_call 56; refine (hI _).mono ?_; rintro e w' ⟨rfl, hw⟩; rw [hw])
        go_roundw
        case rel => exact ⟨done ++ [rest.take i], rest.drop (i + 1), rfl, by simp, by simp; omega, by rw [List.length_drop]; omega, by rw [← HS.out], by rw [List.length_append]; exact HN⟩
        case measure => simp [intOf]; omega
    · have hltz : ¬ (((done.length : Nat) : Int) < (N : Int) - 1) := by omega
      obtain ⟨f1, f2⟩ := fin rest (by rw [show N - 1 - done.length = 0 from by omega]; rfl)
      have F1 := Lib.hid f1
      have F2 := Lib.hid f2
      clear fin f1 f2
      go_wp2
      go_ret
      rw [F1.out, ← F2.out]
      exact ⟨rfl, rfl⟩

theorem strs_cells (w : World) (ps : List (List UInt8)) (N : Nat) : Strs (w.alloc (.cells (Lib.cellsOf (strs ps) N) 9)) (w.alloc (.cells (Lib.cellsOf (strs ps) N) 9)).heap.size (some ⟨w.heap.size, 0, none⟩) (strs ps) := by
  refine Or.inr ⟨w.heap.size, 0, rfl, by simp, fun i hi => ?_⟩
  have h1 : (Lib.cellsOf (strs ps) N)[i]? = some (.string ((strs ps)[i]'hi)) := by
    unfold Lib.cellsOf
    simp [List.getElem?_append_left, hi]
  rw [Nat.zero_add]
  simp [go_sem, h1]

set_option maxRecDepth 100000 in
theorem splitN_walk (s : List UInt8) (hs : s.length ≤ 4611686018427387904) (w : World) :
    Calls Tryd.prog 24 #[.string ⟨s.toArray⟩, .string ⟨#[46]⟩, .int .i64 4] w fun e w' => ∃ g N, e = .returned (.slice (some ⟨g, 0, none⟩) (Sem.split (min 3 s.length) s).length N) ∧
      Strs w' w'.heap.size (some ⟨g, 0, none⟩) (strs (Sem.split (min 3 s.length) s)) ∧ Below w.heap.size w w' := by
  have hg := genSplit_walk s hs (min 4 (s.length + 1)) (by omega)
  rw [show min 4 (s.length + 1) - 1 = min 3 s.length from by omega] at hg
  go_enter Tryd.func24, Tryd.ntmps24
  go_wp2_with fail
  refine (hg _).mono ?_
  rintro e w' ⟨rfl, hw⟩
  have hS := strs_cells w (Sem.split (min 3 s.length) s) (min 4 (s.length + 1))
  rw [← hw] at hS
  have hB : Below w.heap.size w w' := by rw [hw]; exact below_one _ _
  clear hw
  go_wp2
  go_ret
  exact ⟨_, _, rfl, hS, hB⟩
end Go.Proofs.YtifblpbikngjeaaDoor
