/- Small lemmas that every walk uses: worlds that only grow, pieces of texts, a Builder behind a call. -/
import Derived.Test.YtifblpbikngjeaaDoorRows
import Derived.WalkKit
import Derived.Below
import Derived.Lib.Hide
import Derived.Lib.Strings
import Derived.Lib.Builder
import Derived.Deep.QuietTactic
import Derived.BigQuiet
namespace Go.Proofs.YtifblpbikngjeaaDoor
open Go.RowKit

theorem below_drewN {B : Nat} {a w : World} (h : Below B a w) (n : Nat) : Below B a (w.drewN n) := ⟨h.os, h.tape, h.output, h.size, h.block⟩

theorem slice_mid (s : ByteArray) (p : Nat) (q : Int) (h1 : (p : Int) ≤ q) (h2 : q ≤ s.size) (W : World) :
    (Instr.slice 9 (.string s) (some (.int .i64 p)) (some (.int .i64 q)) none).run Tryd.prog W = .ok (.string ⟨((s.data.toList.drop p).take (q.toNat - p)).toArray⟩) W := by
  rw [run_slice_string (P := Tryd.prog) W 9 s .i64 .i64 p q Tryd.underlying9 (by omega) h1 h2]
  have := ByteArray.extract_mk s.data.toList p q.toNat
  rw [Int.toNat_natCast]
  exact congrArg (fun b => Result.ok (Value.string b) W) this

theorem slice_from (s : ByteArray) (p : Nat) (h : p ≤ s.size) (W : World) :
    (Instr.slice 9 (.string s) (some (.int .i64 p)) none none).run Tryd.prog W = .ok (.string ⟨(s.data.toList.drop p).toArray⟩) W := by
  rw [run_slice_string_from_if (P := Tryd.prog) W 9 s .i64 p Tryd.underlying9, if_pos ⟨by omega, by omega⟩]
  have := ByteArray.extract_mk s.data.toList p s.size
  rw [Int.toNat_natCast]
  refine congrArg (fun b => Result.ok (Value.string b) W) (this.trans ?_)
  rw [List.take_of_length_le (by rw [List.length_drop, ← Lib.size_eq]; omega)]

theorem slice_to (s : ByteArray) (q : Int) (h0 : 0 ≤ q) (h : q ≤ s.size) (W : World) :
    (Instr.slice 9 (.string s) none (some (.int .i64 q)) none).run Tryd.prog W = .ok (.string ⟨(s.data.toList.take q.toNat).toArray⟩) W := by
  rw [run_slice_string_to_if (P := Tryd.prog) W 9 s .i64 q Tryd.underlying9, if_pos ⟨by omega, by omega⟩]
  have := ByteArray.extract_mk s.data.toList 0 q.toNat
  exact congrArg (fun b => Result.ok (Value.string b) W) this

theorem size_list (l : List UInt8) : (⟨l.toArray⟩ : ByteArray).size = l.length := by simp [ByteArray.size]

/-- What the document's TakeNumber looks at: the rest of the text from a place on. -/
theorem rest_of (s : ByteArray) (p : Nat) (hp : p < s.size) : ∃ r : ByteArray, (∀ W : World, (Instr.slice 9 (.string s) (some (.int .i64 p)) none none).run Tryd.prog W = .ok (.string r) W) ∧
    r.data.toList = s.data.toList.drop p ∧ r.size + p = s.size ∧ 0 < r.size ∧ r.toList.isEmpty = false ∧ ∀ (i : Nat) (h : i < r.size) (h' : p + i < s.size), r[i]'h = s[p + i]'h' := by
  refine ⟨⟨(s.data.toList.drop p).toArray⟩, fun W => slice_from s p (by omega) W, rfl, ?_, ?_, ?_, ?_⟩
  · rw [size_list, List.length_drop, ← Lib.size_eq]; omega
  · rw [size_list, List.length_drop, ← Lib.size_eq]; omega
  · rw [ByteArray.toList_mk, List.isEmpty_eq_false_iff]
    intro h
    have := congrArg List.length h
    rw [List.length_drop, ← Lib.size_eq] at this
    simp at this
    omega
  · intro i h h'
    show (s.data.toList.drop p).toArray[i] = s.data[p + i]
    simp

theorem grown_of_below {B : Nat} {w w' : World} (h : Below B w w') (hB : w.heap.size ≤ B) (row : Option Nat) : w.grownBy w' row :=
  ⟨h.os, h.tape, h.output, h.size, fun i hi _ => h.block i (Nat.lt_of_lt_of_le hi hB)⟩

theorem builder_at_below {T e : TypeId} {B b : Nat} {p : Value} {bs : List Value} {w w' : World} (h : Lib.BuilderAt T e B b p bs w) (hb : Below w.heap.size w w') : Lib.BuilderAt T e B b p bs w' := by
  have hlt := h.lt
  obtain ⟨hB, v, hbk, hown, hne⟩ := h
  exact ⟨hB, v, (hb.block b hlt).trans hbk, hown.kept (grown_of_below hb (Nat.le_refl _) none) (by
    rcases h : v.ownBlock with _ | x
    · exact Or.inl rfl
    · exact Or.inr (by simp)), hne⟩

theorem builder_below {T e : TypeId} {B b : Nat} {bs : List Value} {w w' : World} (h : Lib.IsBuilder T e B b bs w) (hb : Below w.heap.size w w') : Lib.IsBuilder T e B b bs w' := by
  rcases h with h | h
  · exact Or.inl (builder_at_below h hb)
  · exact Or.inr (builder_at_below h hb)
theorem below_next {w W w' : World} (h : Below w.heap.size w W) (hb : Below W.heap.size W w') : Below w.heap.size w w' := h.trans (hb.mono h.size)
theorem below_new {w W : World} (h : Below w.heap.size w W) (o : Obj) : Below w.heap.size w (W.alloc o) := h.alloc h.size o
theorem below_one (w : World) (o : Obj) : Below w.heap.size w (w.alloc o) := (Below.refl _ _).alloc (Nat.le_refl _) _
theorem cell_of_below {W w : World} {b o : Nat} (hb : Below W.heap.size W w) (h : b < W.heap.size) : w.cell? ⟨b, o, none⟩ = W.cell? ⟨b, o, none⟩ ∧ w.frozen? ⟨b, o, none⟩ = W.frozen? ⟨b, o, none⟩ :=
  ⟨hb.cell (p := ⟨b, o, none⟩) h, hb.frozen (p := ⟨b, o, none⟩) h⟩
theorem flip {P : Program} {f : FuncId} {args : Array Value} {w : World} {v : Value} (h : Calls P f args w fun e w' => e = .returned v ∧ w = w') : Calls P f args w fun e w' => e = .returned v ∧ w' = w :=
  h.mono fun _ _ ⟨he, hw⟩ => ⟨he, hw.symm⟩
end Go.Proofs.YtifblpbikngjeaaDoor
