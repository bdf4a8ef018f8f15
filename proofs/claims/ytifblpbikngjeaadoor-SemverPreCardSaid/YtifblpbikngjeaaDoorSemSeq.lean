/- strings.SplitSeq at a dot, over a text of at most 24 bytes: its pieces come one by one. -/
import Derived.Test.YtifblpbikngjeaaDoorShelfSem
import Derived.Test.YtifblpbikngjeaaDoorSemNum
import Derived.Test.YtifblpbikngjeaaDoorSemCut
import Derived.Test.YtifblpbikngjeaaDoorBase
import Derived.RangeFuncFrom
import Derived.RangeFuncCalls
import Derived.RangeFuncLeaves
import Derived.RangeFuncRecord
import Derived.Shelf.Abstract
import Derived.Shelf.RegionOpen
import Derived.WalkKit
import Derived.OwnWalkIn
import Derived.TacticsInMore
import Derived.LoopNIn
import Derived.LoopIn
namespace Go.Proofs.YtifblpbikngjeaaDoor
open Go.RowKit
attribute [local go_sem] Oper.semAt_some
set_option linter.unusedVariables false

/-- The three boxes that the iterator's value holds on to: the text, the dot, 0. -/
def SeqAt (W : World) (b : Nat) (s : List UInt8) : Prop :=
  b + 2 < W.heap.size ∧ W.cell? ⟨b, 0, none⟩ = some (.string ⟨s.toArray⟩) ∧ W.frozen? ⟨b, 0, none⟩ = false ∧ W.cell? ⟨b + 1, 0, none⟩ = some (.string ⟨#[46]⟩) ∧ W.cell? ⟨b + 2, 0, none⟩ = some (.int .i64 0)

theorem SeqAt.keep {W W' : World} {b : Nat} {s : List UInt8} (h : SeqAt W b s) (hb : Below (b + 3) W W') : SeqAt W' b s := by
  obtain ⟨h0, h1, h2, h3, h4⟩ := h
  exact ⟨Nat.lt_of_lt_of_le h0 hb.size, (hb.cell (p := ⟨b, 0, none⟩) (by show b < b + 3; omega)).trans h1, (hb.frozen (p := ⟨b, 0, none⟩) (by show b < b + 3; omega)).trans h2,
    (hb.cell (p := ⟨b + 1, 0, none⟩) (by show b + 1 < b + 3; omega)).trans h3, (hb.cell (p := ⟨b + 2, 0, none⟩) (by show b + 2 < b + 3; omega)).trans h4⟩

theorem SeqAt.set {W : World} {b : Nat} {s t : List UInt8} (h : SeqAt W b s) : SeqAt (W.setCell ⟨b, 0, none⟩ (.string ⟨t.toArray⟩)) b t := by
  obtain ⟨h0, h1, h2, h3, h4⟩ := h
  refine ⟨by rw [World.size_setCell]; exact h0, World.cell?_setCell_same _ _ _ h1, by rw [World.frozen?_setCell]; exact h2, ?_, ?_⟩
  · refine (World.cell?_setCell_other _ _ _ _ ?_).trans h3
    intro h; have := congrArg Addr.block h; simp at this
  · refine (World.cell?_setCell_other _ _ _ _ ?_).trans h4
    intro h; have := congrArg Addr.block h; simp at this

theorem seq_walk (s : List UInt8) (w : World) :
    Calls Tryd.prog 29 #[.string ⟨s.toArray⟩, .string ⟨#[46]⟩] w fun e w' => e = .returned (.func (.func 63) #[] #[.pointer (some ⟨w.heap.size + 1, 0, none⟩), .pointer (some ⟨w.heap.size, 0, none⟩), .pointer (some ⟨w.heap.size + 2, 0, none⟩)]) ∧ SeqAt w' w.heap.size s ∧ Below w.heap.size w w' := by
  have hin : ∀ w, Calls Tryd.prog 45 #[.string ⟨s.toArray⟩, .string ⟨#[46]⟩, .int .i64 0] w fun e w' => e = .returned (.func (.func 63) #[] #[.pointer (some ⟨w.heap.size + 1, 0, none⟩), .pointer (some ⟨w.heap.size, 0, none⟩), .pointer (some ⟨w.heap.size + 2, 0, none⟩)]) ∧ SeqAt w' w.heap.size s ∧ Below w.heap.size w w' := by
    intro w
    go_enter Tryd.func45, Tryd.ntmps45
    go_wp2
    go_ret
    refine ⟨rfl, ⟨by simp, ?_, ?_, ?_, ?_⟩, below_new (below_new (below_one _ _) _) _⟩
    · simp [go_sem]
    · simp [go_sem]
    · simp [go_sem]
    · simp [go_sem]
  go_enter Tryd.func29, Tryd.ntmps29
  go_wp2_with (go_at_call 45; refine (hin _).mono ?_; rintro e w' ⟨rfl, h1, h2⟩)
  go_ret
  exact ⟨rfl, by assumption, by assumption⟩

theorem index_dot (s : List UInt8) : (Lib.indexByte s 46 = -1 ∧ (Sem.cut 46 s).2.2 = false) ∨ ∃ i : Nat, Lib.indexByte s 46 = i ∧ i < s.length ∧ Sem.cut 46 s = (s.take i, s.drop (i + 1), true) := by
  have h := lib_cut 46 s
  unfold Lib.cut at h
  rw [Lib.index_one] at h
  have hge := Lib.indexByte_ge s 46
  by_cases hn : Lib.indexByte s 46 = -1
  · left
    rw [if_neg (by omega)] at h
    exact ⟨hn, by rw [← h]⟩
  · right
    rw [if_pos (by omega)] at h
    refine ⟨(Lib.indexByte s 46).toNat, by omega, ?_, h.symm⟩
    have h1 := (Lib.indexByte_some (l := s) (c := 46) (o := (Lib.indexByte s 46).toNat) (by omega)).1
    rcases Nat.lt_or_ge (Lib.indexByte s 46).toNat s.length with h2 | h2
    · exact h2
    · rw [List.getElem?_eq_none h2] at h1; cases h1

theorem index_dot_walk (s : List UInt8) (w : World) : Calls Tryd.prog 56 #[.string ⟨s.toArray⟩, .string ⟨#[46]⟩] w fun e w' => e = .returned (.int .i64 (Lib.indexByte s 46)) ∧ w' = w :=
  Any.strings_Index_one Tryd.lays143 ⟨s.toArray⟩ 46 w

set_option maxRecDepth 100000 in
set_option maxHeartbeats 2000000 in
/-- The iterator, under whatever loop. -/
theorem split_in (n : Nat) (hn : 1 ≤ n) (l b : Nat) (s : List UInt8) (hs : s.length ≤ 24) (J Jx : List (List UInt8) → World → Prop) (W : World)
    (hY : ∀ pre x W, J pre W → x.length ≤ 24 → YieldAt Fence.wide (n - 1) Tryd.prog l #[.string ⟨x.toArray⟩] W fun e W' =>
      (e = .returned (.bool true) ∧ J (pre ++ [x]) W' ∧ Below (b + 3) W W') ∨ (e = .returned (.bool false) ∧ Jx (pre ++ [x]) W'))
    (hJ : ∀ pre W v, J pre W → J pre (W.setCell ⟨b, 0, none⟩ v)) (hS : SeqAt W b s) (h0 : J [] W) :
    CallsIn Fence.wide n Tryd.prog 63 #[.func (.yield l) #[] #[], .pointer (some ⟨b + 1, 0, none⟩), .pointer (some ⟨b, 0, none⟩), .pointer (some ⟨b + 2, 0, none⟩)] W fun e W' =>
      (∃ v, e = .returned v) ∧ (J (Sem.parts s) W' ∨ ∃ pre suf, pre ++ suf = Sem.parts s ∧ Jx pre W') := by
  refine callsIn_of_wp Tryd.func63 rfl trivial ?_ rfl
  simp only [Tryd.ntmps63, List.size_toArray, List.length_cons, List.length_nil, Nat.reduceAdd, Nat.reduceSub, Array.replicate_succ, Array.replicate_zero, List.push_toArray, List.append_toArray, List.nil_append, List.cons_append]
  have HS := Lib.hid hS
  obtain ⟨hb, c0, f0, c1, c2⟩ := hS
  gi_wp2_with fail
  gi_loopw [7] (fun i wr => ∃ (pre : List (List UInt8)) (rest : List UInt8), rest.length ≤ 24 ∧ SeqAt wr b rest ∧ pre ++ Sem.parts rest = Sem.parts s ∧ J pre wr)
    (fun i wr => match wr.cell? ⟨b, 0, none⟩ with | some (.string x) => x.size | _ => 0)
  case atStart => exact ⟨[], s, hs, HS.out, rfl, h0⟩
  case round =>
    clear HS hb c0 f0 c1 c2
    obtain ⟨pre, rest, hr, hSA, hpp, hJs⟩ := hrel
    have HSA := Lib.hid hSA
    have hcut := Sem.parts_cut rest
    obtain ⟨hb, c0, f0, c1, c2⟩ := hSA
    rcases index_dot rest with ⟨hi, hc⟩ | ⟨i, hi, hlt, hc⟩
    · rw [hc, if_neg (by simp)] at hcut
      have HE : Hid (pre ++ [rest] = Sem.parts s) := Lib.hid (by rw [← hpp, hcut])
      have hI := fun w => callsIn_wide (n := n - 1).2 (index_dot_walk rest w)
      rw [hi] at hI
      obtain ⟨fn, tmps, assign, body, hy, hR⟩ := hY pre rest wr hJs hr
      clear hc hi hcut hpp hY hJs
      gi_wp2_with (refine ⟨trivial, ?_⟩; gi_at_call 56; refine (hI _).mono ?_; rintro e w' ⟨rfl, rfl⟩)
      refine hR.mono ?_
      rintro e W3 (⟨rfl, hJ3, hk3⟩ | ⟨rfl, hJx3⟩)
      · gi_wp2
        go_end0
        exact ⟨⟨_, rfl⟩, Or.inl (by rw [← HE.out]; exact hJ3)⟩
      · gi_wp2
        go_end0
        exact ⟨⟨_, rfl⟩, Or.inr ⟨_, [], (List.append_nil _).trans HE.out, hJx3⟩⟩
    · rw [hc, if_pos rfl] at hcut
      have HE : Hid ((pre ++ [rest.take i]) ++ Sem.parts (rest.drop (i + 1)) = Sem.parts s) := Lib.hid (by rw [← hpp, hcut]; simp)
      have hI := fun w => callsIn_wide (n := n - 1).2 (index_dot_walk rest w)
      rw [hi] at hI
      obtain ⟨fn, tmps, assign, body, hy, hR⟩ := hY pre (rest.take i) wr hJs (by rw [List.length_take]; omega)
      have ex : (⟨(rest.take i).toArray⟩ : ByteArray) = (⟨rest.toArray⟩ : ByteArray).extract 0 i := by
        have := ByteArray.extract_mk rest 0 i
        simpa using this.symm
      rw [ex] at hy
      have hsz : (⟨rest.toArray⟩ : ByteArray).size = rest.length := size_list _
      have hw : IntKind.i64.wrap ((i : Int) + 1) = (i : Int) + 1 := IntWalk.i64_in _ (by omega)
      have hsl : ∀ W, (Instr.slice 9 (.string ⟨rest.toArray⟩) (some (.int .i64 ((i : Int) + 1))) none none).run Tryd.prog W = .ok (.string ⟨(rest.drop (i + 1)).toArray⟩) W := fun W => by
        have h := slice_from ⟨rest.toArray⟩ (i + 1) (by rw [hsz]; omega) W
        exact h
      clear hc hi hcut hpp hY
      gi_wp2_with (refine ⟨trivial, ?_⟩; gi_at_call 56; refine (hI _).mono ?_; rintro e w' ⟨rfl, rfl⟩)
      refine hR.mono ?_
      rintro e W3 (⟨rfl, hJ3, hk3⟩ | ⟨rfl, hJx3⟩)
      · have hS3 := HSA.out.keep hk3
        have HS3 := Lib.hid hS3
        have HJ3 := Lib.hid hJ3
        obtain ⟨hb3, d0, g0, d1, d2⟩ := hS3
        have hm0 := d0
        clear c0 f0 c1 c2 hk3 hJ3
        gi_wp2
        go_roundw
        case rel => exact ⟨pre ++ [rest.take i], rest.drop (i + 1), by rw [List.length_drop]; omega, HS3.out.set, HE.out, hJ _ _ _ HJ3.out⟩
        case measure =>
          rw [World.cell?_setCell_same _ _ _ hm0, HSA.out.2.1]
          show (⟨(rest.drop (i + 1)).toArray⟩ : ByteArray).size < (⟨rest.toArray⟩ : ByteArray).size
          rw [size_list, size_list, List.length_drop]; omega
      · gi_wp2
        refine bodyPost_ret (results_none rfl _ _ _) rfl ?_
        exact ⟨⟨_, rfl⟩, Or.inr ⟨_, _, HE.out, hJx3⟩⟩
end Go.Proofs.YtifblpbikngjeaaDoor
