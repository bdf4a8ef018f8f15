/- Base, Text, Strs, Ints, Bytes, SemSmall, SemPart, SemDec, SemParts, SemCheck, SemShow, Box4, SemParse, together. -/
import Derived.Test.YtebphmkefpaeaaaGreatDoorRows
import Derived.WalkKit
import Derived.Below
import Derived.Lib.Hide
import Derived.Lib.Strings
import Derived.Lib.Builder
import Derived.Deep.QuietTactic
import Derived.BigQuiet
import Derived.SliceStrings
import Derived.SizedLaws
import Derived.OpenShut
import Derived.ChangeSlices
import Derived.Laws.BytesArg
import Derived.Lib.UnsafeStr
import Derived.Test.YtebphmkefpaeaaaGreatDoorGPure
import Derived.Laws.Cover1
import Derived.Deep.AppendLies
import Derived.StillTailTactics
import Derived.IntWalk
import Derived.RegionTactic
import Derived.BigRegion
/- Small lemmas that every walk uses: worlds that only grow, pieces of texts, a Builder behind a call. -/
namespace Go.Proofs.YtebphmkefpaeaaaGreatDoor
open Go.RowKit

theorem below_drewN {B : Nat} {a w : World} (h : Below B a w) (n : Nat) : Below B a (w.drewN n) := ⟨h.os, h.tape, h.output, h.size, h.block⟩

theorem slice_mid (s : ByteArray) (p : Nat) (q : Int) (h1 : (p : Int) ≤ q) (h2 : q ≤ s.size) (W : World) :
    (Instr.slice 9 (.string s) (some (.int .i64 p)) (some (.int .i64 q)) none).run Tryz.prog W = .ok (.string ⟨((s.data.toList.drop p).take (q.toNat - p)).toArray⟩) W := by
  rw [run_slice_string (P := Tryz.prog) W 9 s .i64 .i64 p q Tryz.underlying9 (by omega) h1 h2]
  have := ByteArray.extract_mk s.data.toList p q.toNat
  rw [Int.toNat_natCast]
  exact congrArg (fun b => Result.ok (Value.string b) W) this

theorem slice_from (s : ByteArray) (p : Nat) (h : p ≤ s.size) (W : World) :
    (Instr.slice 9 (.string s) (some (.int .i64 p)) none none).run Tryz.prog W = .ok (.string ⟨(s.data.toList.drop p).toArray⟩) W := by
  rw [run_slice_string_from_if (P := Tryz.prog) W 9 s .i64 p Tryz.underlying9, if_pos ⟨by omega, by omega⟩]
  have := ByteArray.extract_mk s.data.toList p s.size
  rw [Int.toNat_natCast]
  refine congrArg (fun b => Result.ok (Value.string b) W) (this.trans ?_)
  rw [List.take_of_length_le (by rw [List.length_drop, ← Lib.size_eq]; omega)]

theorem slice_to (s : ByteArray) (q : Int) (h0 : 0 ≤ q) (h : q ≤ s.size) (W : World) :
    (Instr.slice 9 (.string s) none (some (.int .i64 q)) none).run Tryz.prog W = .ok (.string ⟨(s.data.toList.take q.toNat).toArray⟩) W := by
  rw [run_slice_string_to_if (P := Tryz.prog) W 9 s .i64 q Tryz.underlying9, if_pos ⟨by omega, by omega⟩]
  have := ByteArray.extract_mk s.data.toList 0 q.toNat
  exact congrArg (fun b => Result.ok (Value.string b) W) this

theorem size_list (l : List UInt8) : (⟨l.toArray⟩ : ByteArray).size = l.length := by simp [ByteArray.size]

/-- What the document's TakeNumber looks at: the rest of the text from a place on. -/
theorem rest_of (s : ByteArray) (p : Nat) (hp : p < s.size) : ∃ r : ByteArray, (∀ W : World, (Instr.slice 9 (.string s) (some (.int .i64 p)) none none).run Tryz.prog W = .ok (.string r) W) ∧
    r.data.toList = s.data.toList.drop p ∧ r.size + p = s.size ∧ 0 < r.size ∧ r.toList.isEmpty = false ∧ ∀ (i : Nat) (h : i < r.size) (h' : p + i < s.size), r[i]'h = s[p + i]'h' := by
  refine ⟨⟨(s.data.toList.drop p).toArray⟩, fun W => slice_from s p (by omega) W, rfl, ?_, ?_, ?_, ?_⟩
  · rw [size_list, List.length_drop, ← Lib.size_eq]; omega
  · rw [size_list, List.length_drop, ← Lib.size_eq]; omega
  · rw [ByteArray.toList_mk, List.isEmpty_eq_false_iff]
    intro h
    have := congrArg List.length h
    rw [List.length_drop, ← Lib.size_eq] at this
    simp at this
    omega
  · intro i h h'
    show (s.data.toList.drop p).toArray[i] = s.data[p + i]
    simp

theorem grown_of_below {B : Nat} {w w' : World} (h : Below B w w') (hB : w.heap.size ≤ B) (row : Option Nat) : w.grownBy w' row :=
  ⟨h.os, h.tape, h.output, h.size, fun i hi _ => h.block i (Nat.lt_of_lt_of_le hi hB)⟩

theorem builder_at_below {T e : TypeId} {B b : Nat} {p : Value} {bs : List Value} {w w' : World} (h : Lib.BuilderAt T e B b p bs w) (hb : Below w.heap.size w w') : Lib.BuilderAt T e B b p bs w' := by
  have hlt := h.lt
  obtain ⟨hB, v, hbk, hown, hne⟩ := h
  exact ⟨hB, v, (hb.block b hlt).trans hbk, hown.kept (grown_of_below hb (Nat.le_refl _) none) (by
    rcases h : v.ownBlock with _ | x
    · exact Or.inl rfl
    · exact Or.inr (by simp)), hne⟩

theorem builder_below {T e : TypeId} {B b : Nat} {bs : List Value} {w w' : World} (h : Lib.IsBuilder T e B b bs w) (hb : Below w.heap.size w w') : Lib.IsBuilder T e B b bs w' := by
  rcases h with h | h
  · exact Or.inl (builder_at_below h hb)
  · exact Or.inr (builder_at_below h hb)
theorem below_next {w W w' : World} (h : Below w.heap.size w W) (hb : Below W.heap.size W w') : Below w.heap.size w w' := h.trans (hb.mono h.size)
theorem below_new {w W : World} (h : Below w.heap.size w W) (o : Obj) : Below w.heap.size w (W.alloc o) := h.alloc h.size o
theorem below_one (w : World) (o : Obj) : Below w.heap.size w (w.alloc o) := (Below.refl _ _).alloc (Nat.le_refl _) _
theorem cell_of_below {W w : World} {b o : Nat} (hb : Below W.heap.size W w) (h : b < W.heap.size) : w.cell? ⟨b, o, none⟩ = W.cell? ⟨b, o, none⟩ ∧ w.frozen? ⟨b, o, none⟩ = W.frozen? ⟨b, o, none⟩ :=
  ⟨hb.cell (p := ⟨b, o, none⟩) h, hb.frozen (p := ⟨b, o, none⟩) h⟩
theorem flip {P : Program} {f : FuncId} {args : Array Value} {w : World} {v : Value} (h : Calls P f args w fun e w' => e = .returned v ∧ w = w') : Calls P f args w fun e w' => e = .returned v ∧ w' = w :=
  h.mono fun _ _ ⟨he, hw⟩ => ⟨he, hw.symm⟩
end Go.Proofs.YtebphmkefpaeaaaGreatDoor

/- Texts as lists of bytes: one behind the other, cut, as results. -/
namespace Go.Proofs.YtebphmkefpaeaaaGreatDoor
open Go.RowKit

theorem tx_append (a b : List UInt8) : (⟨a.toArray⟩ : ByteArray) ++ ⟨b.toArray⟩ = ⟨(a ++ b).toArray⟩ := by
  apply ByteArray.ext
  simp [ByteArray.data_append]

theorem tx_data (a b : ByteArray) : (a ++ b).data.toList = a.data.toList ++ b.data.toList := by
  simp [ByteArray.data_append]

theorem tx_of (s : ByteArray) : s = ⟨s.data.toList.toArray⟩ := by
  apply ByteArray.ext
  simp

theorem tx_list (s : ByteArray) : s.toList = s.data.toList := by
  conv => lhs; rw [tx_of s]
  rw [ByteArray.toList_mk]

theorem tx_ret {a b : List UInt8} (h : a = b) : Ending.returned (.string ⟨a.toArray⟩) = .returned (.string ⟨b.toArray⟩) := by rw [h]

theorem tx_get (s : ByteArray) (i : Nat) (h : i < s.size) (h' : i < s.data.toList.length) : s[i]'h = s.data.toList[i]'h' := rfl
end Go.Proofs.YtebphmkefpaeaaaGreatDoor

/- Slices of texts (and arrays of two) as lists of texts: that came in, or that the call made. -/
namespace Go.Proofs.YtebphmkefpaeaaaGreatDoor
open Go.RowKit

/-- The cells of a slice of texts, in blocks below B. -/
def Strs (w : World) (B : Nat) (A : Option Addr) (ss : List ByteArray) : Prop :=
  ss.length = 0 ∨ ∃ b off, A = some ⟨b, off, none⟩ ∧ b < B ∧ ∀ i (h : i < ss.length), w.cell? ⟨b, off + i, none⟩ = some (.string (ss[i]'h))

theorem Strs.keep {w w' : World} {B B' : Nat} {A : Option Addr} {ss : List ByteArray} (h : Strs w B A ss) (hb : Below B' w w') (hB : B ≤ B') : Strs w' B A ss := by
  rcases h with h | ⟨b, off, hA, hlt, hc⟩
  · exact Or.inl h
  · exact Or.inr ⟨b, off, hA, hlt, fun i hi => (hb.cell (p := ⟨b, off + i, none⟩) (Nat.lt_of_lt_of_le hlt hB)).trans (hc i hi)⟩

theorem Strs.more {w : World} {B B' : Nat} {A : Option Addr} {ss : List ByteArray} (h : Strs w B A ss) (hB : B ≤ B') : Strs w B' A ss := by
  rcases h with h | ⟨b, off, hA, hlt, hc⟩
  · exact Or.inl h
  · exact Or.inr ⟨b, off, hA, Nat.lt_of_lt_of_le hlt hB, hc⟩

theorem Strs.next {w w' : World} {A : Option Addr} {ss : List ByteArray} (h : Strs w w.heap.size A ss) (hb : Below w.heap.size w w') : Strs w' w'.heap.size A ss :=
  (h.keep hb (Nat.le_refl _)).more hb.size

theorem strs_of_own {w : World} {B n : Nat} {v : Value} {ss : List ByteArray} (h : w.ownsRow B 9 1 v n (ss.map Value.string)) : ∃ A cap, v = .slice A ss.length cap ∧ Strs w w.heap.size A ss := by
  have hlen := h.1
  rw [List.length_map, Nat.mul_one] at hlen
  subst hlen
  rcases h.2 with ⟨rfl, h0⟩ | ⟨g, cap, cur, rfl, hB, hh, _⟩
  · exact ⟨none, 0, by rw [h0], Or.inl h0⟩
  · refine ⟨_, _, rfl, Or.inr ⟨g, 0, rfl, ?_, fun i hi => ?_⟩⟩
    · exact (h.lt g rfl).2
    · rw [Nat.zero_add, h.cellAt i (by omega)]
      simp [hi]

theorem strs_drew {w : World} {A : Option Addr} {ss : List ByteArray} (h : Strs w w.heap.size A ss) : Strs w.drew w.drew.heap.size A ss := h

theorem lt_of_cell {w : World} {b o : Nat} {v : Value} (h : w.cell? ⟨b, o, none⟩ = some v) : b < w.heap.size := by
  rcases Nat.lt_or_ge b w.heap.size with h' | h'
  · exact h'
  · simp [World.cell?, Array.getElem?_eq_none h'] at h

theorem strs_of_cells {w : World} {a : Addr} {ss : List ByteArray} {len : Nat} (hc : ∀ i, i < ss.length → w.cell? (a.add i) = some (.string (ss.getD i ByteArray.empty))) : Strs w w.heap.size (some a) (ss.take len) := by
  by_cases h0 : (ss.take len).length = 0
  · exact Or.inl h0
  · have hpos : 0 < ss.length := by rw [List.length_take] at h0; omega
    obtain ⟨b, off, spot⟩ := a
    have h1 := hc 0 hpos
    have hspot : spot = none := by simpa [Addr.add] using World.cell?_spot h1
    subst hspot
    refine Or.inr ⟨b, off, rfl, lt_of_cell (o := off) (by simpa [Addr.add] using h1), fun i hi => ?_⟩
    rw [List.length_take] at hi
    have hplain : (⟨b, off, none⟩ : Addr).add i = ⟨b, off + i, none⟩ := by unfold Addr.add; split <;> simp_all
    rw [← hplain, hc i (by omega), List.getElem_take]
    simp [List.getD, List.getElem?_eq_getElem (show i < ss.length by omega)]

theorem strs_open {H : Type} {enc : TypeId × Value → H} {W : World} {base : Nat} {held : Bool} {A : Option Addr} {n c : Nat} {d : DataW H} {p : List MemPlace}
    (h : DataW.Trod enc Tryz.prog W base (fun _ => true) held 40 (.slice A n c) d p) :
    ∃ ss : List ByteArray, n = ss.length ∧ Strs W W.heap.size A ss ∧ ss.length ≤ 9223372036854775807 ∧ ∀ x ∈ ss, x.size ≤ 9223372036854775807 := by
  obtain ⟨fuel, hf⟩ := h
  rcases Go.ChangeShapes.open_strings Tryz.underlying40 Tryz.underlying9 (by kernel_rfl) hf with ⟨hcs, _⟩ | ⟨a, len, cap, ss, hcs, _, hl, hm, hz, _, hcell, hws⟩
  · simp [Value.cells] at hcs
    obtain ⟨rfl, rfl, rfl⟩ := hcs
    exact ⟨[], rfl, Or.inl rfl, by simp, by simp⟩
  · simp [Value.cells] at hcs
    obtain ⟨rfl, rfl, rfl⟩ := hcs
    have hz' : ss.length = c := by simpa using hz
    unfold maxLen at hm
    refine ⟨ss.take n, by rw [List.length_take]; omega, strs_of_cells hcell, by rw [List.length_take]; omega, fun x hx => ?_⟩
    have := hws x (List.mem_of_mem_take hx)
    unfold maxLen at this
    exact this

end Go.Proofs.YtebphmkefpaeaaaGreatDoor

/- Slices of ints as lists of numbers: that came in, or that the call made. -/
namespace Go.Proofs.YtebphmkefpaeaaaGreatDoor
open Go.RowKit

/-- The cells of a slice of ints, in blocks below B. -/
def Ints (w : World) (B : Nat) (A : Option Addr) (zs : List Int) : Prop :=
  zs.length = 0 ∨ ∃ b off, A = some ⟨b, off, none⟩ ∧ b < B ∧ ∀ i (h : i < zs.length), w.cell? ⟨b, off + i, none⟩ = some (.int .i64 (zs[i]'h))

theorem Ints.keep {w w' : World} {B B' : Nat} {A : Option Addr} {zs : List Int} (h : Ints w B A zs) (hb : Below B' w w') (hB : B ≤ B') : Ints w' B A zs := by
  rcases h with h | ⟨b, off, hA, hlt, hc⟩
  · exact Or.inl h
  · exact Or.inr ⟨b, off, hA, hlt, fun i hi => (hb.cell (p := ⟨b, off + i, none⟩) (Nat.lt_of_lt_of_le hlt hB)).trans (hc i hi)⟩

theorem Ints.more {w : World} {B B' : Nat} {A : Option Addr} {zs : List Int} (h : Ints w B A zs) (hB : B ≤ B') : Ints w B' A zs := by
  rcases h with h | ⟨b, off, hA, hlt, hc⟩
  · exact Or.inl h
  · exact Or.inr ⟨b, off, hA, Nat.lt_of_lt_of_le hlt hB, hc⟩

theorem Ints.next {w w' : World} {A : Option Addr} {zs : List Int} (h : Ints w w.heap.size A zs) (hb : Below w.heap.size w w') : Ints w' w'.heap.size A zs :=
  (h.keep hb (Nat.le_refl _)).more hb.size

theorem ints_of_own {w : World} {B n : Nat} {v : Value} {zs : List Int} (h : w.ownsRow B 3 1 v n (zs.map (Value.int .i64))) : ∃ A cap, v = .slice A zs.length cap ∧ Ints w w.heap.size A zs ∧ (A = none → zs.length = 0 ∧ cap = 0) := by
  have hlen := h.1
  rw [List.length_map, Nat.mul_one] at hlen
  subst hlen
  rcases h.2 with ⟨rfl, h0⟩ | ⟨g, cap, cur, rfl, hB, hh, _⟩
  · exact ⟨none, 0, by rw [h0], Or.inl h0, fun _ => ⟨h0, rfl⟩⟩
  · refine ⟨_, _, rfl, Or.inr ⟨g, 0, rfl, ?_, fun i hi => ?_⟩, fun h => by cases h⟩
    · exact (h.lt g rfl).2
    · rw [Nat.zero_add, h.cellAt i (by omega)]
      simp [hi]

theorem ints_drew {w : World} {B : Nat} {A : Option Addr} {zs : List Int} (h : Ints w B A zs) : Ints w.drew B A zs := h

theorem ints_drewN {w : World} {B : Nat} {A : Option Addr} {zs : List Int} (h : Ints w B A zs) (n : Nat) : Ints (w.drewN n) B A zs := h

theorem lt_of_int {w : World} {b o : Nat} {v : Value} (h : w.cell? ⟨b, o, none⟩ = some v) : b < w.heap.size := by
  rcases Nat.lt_or_ge b w.heap.size with h' | h'
  · exact h'
  · simp [World.cell?, Array.getElem?_eq_none h'] at h

theorem ints_of_cells {w : World} {a : Addr} {zs : List Int} {len : Nat} (hc : ∀ i, i < zs.length → w.cell? (a.add i) = some (.int .i64 (zs.getD i 0))) : Ints w w.heap.size (some a) (zs.take len) := by
  by_cases h0 : (zs.take len).length = 0
  · exact Or.inl h0
  · have hpos : 0 < zs.length := by rw [List.length_take] at h0; omega
    obtain ⟨b, off, spot⟩ := a
    have h1 := hc 0 hpos
    have hspot : spot = none := by simpa [Addr.add] using World.cell?_spot h1
    subst hspot
    refine Or.inr ⟨b, off, rfl, lt_of_int (o := off) (by simpa [Addr.add] using h1), fun i hi => ?_⟩
    rw [List.length_take] at hi
    have hplain : (⟨b, off, none⟩ : Addr).add i = ⟨b, off + i, none⟩ := by unfold Addr.add; split <;> simp_all
    rw [← hplain, hc i (by omega), List.getElem_take]
    simp [List.getD, List.getElem?_eq_getElem (show i < zs.length by omega)]

theorem ints_open {H : Type} {enc : TypeId × Value → H} {W : World} {base : Nat} {held : Bool} {A : Option Addr} {n c : Nat} {d : DataW H} {p : List MemPlace}
    (h : DataW.Trod enc Tryz.prog W base (fun _ => true) held 78 (.slice A n c) d p) :
    ∃ zs : List Int, n = zs.length ∧ Ints W W.heap.size A zs ∧ zs.length ≤ 9223372036854775807 ∧ ∀ x ∈ zs, -9223372036854775808 ≤ x ∧ x ≤ 9223372036854775807 := by
  obtain ⟨fuel, hf⟩ := h
  rcases Go.ChangeShapes.open_ints Tryz.underlying78 Tryz.underlying3 (by kernel_rfl) hf with ⟨hcs, _⟩ | ⟨a, len, cap, zs, hcs, _, hl, hm, hz, _, hcell, hws⟩
  · simp [Value.cells] at hcs
    obtain ⟨rfl, rfl, rfl⟩ := hcs
    exact ⟨[], rfl, Or.inl rfl, by simp, by simp⟩
  · simp [Value.cells] at hcs
    obtain ⟨rfl, rfl, rfl⟩ := hcs
    have hz' : zs.length = c := by simpa using hz
    unfold maxLen at hm
    refine ⟨zs.take n, by rw [List.length_take]; omega, ints_of_cells hcell, by rw [List.length_take]; omega, fun x hx => ?_⟩
    have := hws x (List.mem_of_mem_take hx)
    simpa [Lit.wf, IntKind.min, IntKind.max, IntKind.signed, IntKind.bits] using this

theorem ints_lit (w : World) (zs : List Int) {cs : Array Value} (h : cs.toList = zs.map (Value.int .i64)) :
    Ints (w.alloc (.cells cs 3)) (w.alloc (.cells cs 3)).heap.size (some ⟨w.heap.size, 0, none⟩) zs := by
  refine Or.inr ⟨w.heap.size, 0, rfl, by simp, fun i hi => ?_⟩
  have hz : cs.size = zs.length := by rw [← Array.length_toList, h, List.length_map]
  have h1 : cs[i]? = some (.int .i64 (zs[i]'hi)) := by
    rw [← Array.getElem?_toList, h, List.getElem?_map, List.getElem?_eq_getElem hi]; rfl
  rw [Nat.zero_add]
  simp [go_sem, h1]
end Go.Proofs.YtebphmkefpaeaaaGreatDoor

/- Rows of bytes that the call made, turned into texts. -/
namespace Go.Proofs.YtebphmkefpaeaaaGreatDoor
open Go.RowKit

set_option maxRecDepth 100000 in
/-- A row of bytes that the call itself made, turned into a text. -/
theorem conv_own {w : World} {B n : Nat} {v : Value} {l : List UInt8} (h : w.ownsRow B 5 1 v n (Lib.byteCells l)) :
    (convert 53 9 v).run Tryz.prog w = .ok (.string ⟨l.toArray⟩) w := by
  have hlen := h.1
  rw [Lib.byteCells_length, Nat.mul_one] at hlen
  rcases h.2 with ⟨rfl, rfl⟩ | ⟨g, cap, cur, rfl, _, hh, _⟩
  · have : l = [] := List.eq_nil_of_length_eq_zero hlen
    subst this
    exact run_convert_bytes_nil w 53 5 Tryz.underlying53 Tryz.underlying5 0 0 9 Tryz.underlying9
  · have hr := run_convert_bytes_arg (P := Tryz.prog) w 53 5 Tryz.underlying53 Tryz.underlying5 g 0 n cap (l.map fun b => (b.toNat : Int)) (by simpa using hlen) (fun i hi => by
        have hc := h.cellAt i (by omega)
        rw [Nat.zero_add, hc, Lib.byteCells]
        have hi' : i < l.length := by omega
        simp [hi']) 9 Tryz.underlying9
    rw [hr]
    have e : strOfNums (l.map fun b => (b.toNat : Int)) = ⟨l.toArray⟩ := by
      unfold strOfNums
      rw [List.map_map]
      congr 2
      conv => rhs; rw [← List.map_id l]
      apply List.map_congr_left
      intro b _
      simp
    rw [e]

theorem ret_str {a b : List UInt8} (h : a = b) : Ending.returned (.string ⟨a.toArray⟩) = .returned (.string ⟨b.toArray⟩) := by rw [h]

theorem ofNat_u8 (n : Nat) : ((UInt8.ofNat n).toNat : Int) = (n : Int) % 256 := by simp

/-- 'string([]byte{b})' at a new row of one byte. -/
theorem conv_cell (w : World) (b : UInt8) {x : Int} (h : x = b.toNat) :
    (convert 53 9 (.slice (some ⟨w.heap.size, 0, none⟩) 1 1)).run Tryz.prog (w.alloc (.cells #[.int .u8 x] 5)) = .ok (.string ⟨[b].toArray⟩) (w.alloc (.cells #[.int .u8 x] 5)) := by
  subst h
  exact conv_own (World.ownsRow_lit (base := w.heap.size) (e := 5) (size := 1) w #[Value.int .u8 b.toNat] 1 (Nat.le_refl _) (by simp [maxLen]) rfl)

theorem ba_append (a b : List UInt8) : (⟨a.toArray⟩ : ByteArray) ++ ⟨b.toArray⟩ = ⟨(a ++ b).toArray⟩ := by
  apply ByteArray.ext
  simp [ByteArray.data_append]

/-- 'string([]byte{..})' at a new row of bytes. -/
theorem conv_cells (w : World) (l : List UInt8) {cs : Array Value} {n : Nat} (h : cs.toList = Lib.byteCells l) (hn : n = l.length) (hl : l.length ≤ 1000) :
    (convert 53 9 (.slice (some ⟨w.heap.size, 0, none⟩) n n)).run Tryz.prog (w.alloc (.cells cs 5)) = .ok (.string ⟨l.toArray⟩) (w.alloc (.cells cs 5)) := by
  subst hn
  have hz : cs.size = l.length := by rw [← Array.length_toList, h, Lib.byteCells_length]
  have := World.ownsRow_lit (base := w.heap.size) (e := 5) (size := 1) w cs l.length (Nat.le_refl _) (by unfold maxLen; omega) (by omega)
  rw [h] at this
  exact conv_own this
end Go.Proofs.YtebphmkefpaeaaaGreatDoor

/- The document's small functions of layer 4: order, texts, nonzero, digits, part, Digits. -/
namespace Go.Proofs.YtebphmkefpaeaaaGreatDoor
open Go.RowKit
set_option linter.unusedVariables false

def ord (a b : Int) : Int := if a < b then -1 else if b < a then 1 else 0


theorem less_eq : ∀ (x y : List UInt8), Op.bytesLess x y = decide (x < y)
  | x, [] => by simp [Op.bytesLess]
  | [], _ :: _ => by simp [Op.bytesLess]
  | a :: x, b :: y => by
    rw [Op.bytesLess, less_eq x y, Bool.eq_iff_iff]
    simp [List.cons_lt_cons_iff]


/-- 0 of two empty texts. -/
def nz (a b : List UInt8) : Int := if a = [] ∧ b = [] then 0 else 1


/-- The first k bytes are digits. -/
theorem all_dig_next {s : ByteArray} {k : Nat} (h : k < s.size) : (s.data.toList.take (k + 1)).all Sem.dig = ((s.data.toList.take k).all Sem.dig && Sem.dig (s[k]'h)) := by
  rw [List.take_succ_eq_append_getElem (by rw [← Lib.size_eq]; exact h), List.all_append]
  simp
  rfl

set_option maxRecDepth 100000 in
theorem digits_walk (s : ByteArray) (hs : s.size ≤ 9223372036854775807) (w : World) :
    Calls Tryz.prog 88 #[.string s] w fun e w' => e = .returned (.bool (Sem.digits s.data.toList)) ∧ w = w' := by
  go_enter Tryz.func88, Tryz.ntmps88
  go_wp2_with fail
  go_loop [3] (fun i => ∃ k : Nat, i = .int .i64 k ∧ k ≤ s.size ∧ Hid ((s.data.toList.take k).all Sem.dig = true)) (fun i => s.size - (intOf i).toNat)
  case atStart => exact ⟨0, rfl, Nat.zero_le _, Lib.hid rfl⟩
  case round =>
    obtain ⟨k, rfl, hk, HP⟩ := hrel
    by_cases hlt : k < s.size
    · have hb := (s[k]'hlt).toNat_lt
      by_cases h1 : (s[k]'hlt).toNat < 48
      · have HN : Hid (Sem.digits s.data.toList = false) := Lib.hid (by
          unfold Sem.digits
          rw [Bool.and_eq_false_iff]; right
          rw [List.all_eq_false]
          exact ⟨s[k]'hlt, by rw [show s[k]'hlt = s.data.toList[k]'(by rw [← Lib.size_eq]; exact hlt) from rfl]; exact List.getElem_mem _, by simp [Sem.dig]; omega⟩)
        go_wp2
        go_ret
        exact ⟨by rw [HN.out]; rfl, rfl⟩
      · by_cases h2 : 57 < (s[k]'hlt).toNat
        · have HN : Hid (Sem.digits s.data.toList = false) := Lib.hid (by
            unfold Sem.digits
            rw [Bool.and_eq_false_iff]; right
            rw [List.all_eq_false]
            exact ⟨s[k]'hlt, by rw [show s[k]'hlt = s.data.toList[k]'(by rw [← Lib.size_eq]; exact hlt) from rfl]; exact List.getElem_mem _, by simp [Sem.dig]; omega⟩)
          go_wp2
          go_ret
          exact ⟨by rw [HN.out]; rfl, rfl⟩
        · have HN : Hid ((s.data.toList.take (k + 1)).all Sem.dig = true) := Lib.hid (by rw [all_dig_next hlt, HP.out]; simp [Sem.dig]; omega)
          go_wp2
          go_round
          case rel => exact ⟨k + 1, by go_num, by omega, HN⟩
          case measure => simp [intOf]; omega
    · have hall : s.data.toList.all Sem.dig = true := by have := HP.out; rwa [List.take_of_length_le (by rw [← Lib.size_eq]; omega)] at this
      have HN : Hid (Sem.digits s.data.toList = !s.toList.isEmpty) := Lib.hid (by unfold Sem.digits; rw [hall, Bool.and_true, tx_list])
      clear hall
      go_wp2
      go_ret
      exact ⟨by rw [HN.out]; rfl, rfl⟩
end Go.Proofs.YtebphmkefpaeaaaGreatDoor

/- The document's part: may a part of Pre be? -/
namespace Go.Proofs.YtebphmkefpaeaaaGreatDoor
open Go.RowKit
set_option linter.unusedVariables false

theorem byte_kinds (n : Nat) (h : n < 256) : (0 ≤ n ∧ n ≤ 44) ∨ (45 ≤ n ∧ n ≤ 45) ∨ (46 ≤ n ∧ n ≤ 47) ∨ (48 ≤ n ∧ n ≤ 57) ∨ (58 ≤ n ∧ n ≤ 64) ∨ (65 ≤ n ∧ n ≤ 90) ∨ (91 ≤ n ∧ n ≤ 96) ∨ (97 ≤ n ∧ n ≤ 122) ∨ (123 ≤ n ∧ n ≤ 255) := by omega

theorem okc_at (c : UInt8) : Sem.okc c = ((decide (97 ≤ c.toNat) && decide (c.toNat ≤ 122)) || (decide (65 ≤ c.toNat) && decide (c.toNat ≤ 90)) || decide (c.toNat = 45) || (decide (48 ≤ c.toNat) && decide (c.toNat ≤ 57))) := rfl

theorem all_okc_next {s : ByteArray} {k : Nat} (h : k < s.size) : (s.data.toList.take (k + 1)).all Sem.okc = ((s.data.toList.take k).all Sem.okc && Sem.okc (s[k]'h)) := by
  rw [List.take_succ_eq_append_getElem (by rw [← Lib.size_eq]; exact h), List.all_append]
  simp
  rfl

theorem part_bad {s : ByteArray} {k : Nat} (h : k < s.size) (hc : Sem.okc (s[k]'h) = false) : Sem.part s.data.toList = false := by
  have : s.data.toList.all Sem.okc = false := by
    rw [List.all_eq_false]
    exact ⟨s[k]'h, by rw [show s[k]'h = s.data.toList[k]'(by rw [← Lib.size_eq]; exact h) from rfl]; exact List.getElem_mem _, by rw [hc]; simp⟩
  unfold Sem.part
  rw [this, Bool.and_false, Bool.false_and]

set_option maxRecDepth 100000 in
set_option maxHeartbeats 1000000 in
theorem part_walk (s : ByteArray) (hs : s.size ≤ 9223372036854775807) (w : World) :
    Calls Tryz.prog 83 #[.string s] w fun e w' => e = .returned (.bool (Sem.part s.data.toList)) ∧ w = w' := by
  go_enter Tryz.func83, Tryz.ntmps83
  go_wp2_with fail
  go_loop [3] (fun i => ∃ k : Nat, i = .int .i64 k ∧ k ≤ s.size ∧ Hid ((s.data.toList.take k).all Sem.okc = true)) (fun i => s.size - (intOf i).toNat)
  case atStart => exact ⟨0, rfl, Nat.zero_le _, Lib.hid rfl⟩
  case round =>
    obtain ⟨k, rfl, hk, HP⟩ := hrel
    by_cases hlt : k < s.size
    · have hb := (s[k]'hlt).toNat_lt
      have ho := okc_at (s[k]'hlt)
      rcases byte_kinds (s[k]'hlt).toNat (by omega) with ⟨h1, h2⟩ | ⟨h1, h2⟩ | ⟨h1, h2⟩ | ⟨h1, h2⟩ | ⟨h1, h2⟩ | ⟨h1, h2⟩ | ⟨h1, h2⟩ | ⟨h1, h2⟩ | ⟨h1, h2⟩
      · have HN : Hid (Sem.part s.data.toList = false) := Lib.hid (part_bad hlt (by rw [ho]; simp; omega))
        clear ho
        have h3 : (((s[k]'hlt).toNat : Int) != 45) = true := by rw [bne_iff_ne]; omega
        go_wp2
        go_ret
        exact ⟨by rw [HN.out]; rfl, rfl⟩
      · have HN : Hid ((s.data.toList.take (k + 1)).all Sem.okc = true) := Lib.hid (by rw [all_okc_next hlt, HP.out, ho]; simp; omega)
        clear ho
        have h3 : (((s[k]'hlt).toNat : Int) != 45) = false := by rw [bne_eq_false_iff_eq]; omega
        go_wp2
        go_round
        case rel => exact ⟨k + 1, by go_num, by omega, HN⟩
        case measure => simp [intOf]; omega
      · have HN : Hid (Sem.part s.data.toList = false) := Lib.hid (part_bad hlt (by rw [ho]; simp; omega))
        clear ho
        have h3 : (((s[k]'hlt).toNat : Int) != 45) = true := by rw [bne_iff_ne]; omega
        go_wp2
        go_ret
        exact ⟨by rw [HN.out]; rfl, rfl⟩
      · have HN : Hid ((s.data.toList.take (k + 1)).all Sem.okc = true) := Lib.hid (by rw [all_okc_next hlt, HP.out, ho]; simp; omega)
        clear ho
        have h3 : (((s[k]'hlt).toNat : Int) != 45) = true := by rw [bne_iff_ne]; omega
        go_wp2
        go_round
        case rel => exact ⟨k + 1, by go_num, by omega, HN⟩
        case measure => simp [intOf]; omega
      · have HN : Hid (Sem.part s.data.toList = false) := Lib.hid (part_bad hlt (by rw [ho]; simp; omega))
        clear ho
        have h3 : (((s[k]'hlt).toNat : Int) != 45) = true := by rw [bne_iff_ne]; omega
        go_wp2
        go_ret
        exact ⟨by rw [HN.out]; rfl, rfl⟩
      · have HN : Hid ((s.data.toList.take (k + 1)).all Sem.okc = true) := Lib.hid (by rw [all_okc_next hlt, HP.out, ho]; simp; omega)
        clear ho
        have h3 : (((s[k]'hlt).toNat : Int) != 45) = true := by rw [bne_iff_ne]; omega
        go_wp2
        go_round
        case rel => exact ⟨k + 1, by go_num, by omega, HN⟩
        case measure => simp [intOf]; omega
      · have HN : Hid (Sem.part s.data.toList = false) := Lib.hid (part_bad hlt (by rw [ho]; simp; omega))
        clear ho
        have h3 : (((s[k]'hlt).toNat : Int) != 45) = true := by rw [bne_iff_ne]; omega
        have h4 : decide (((s[k]'hlt).toNat : Int) ≤ 90) = false := by rw [decide_eq_false_iff_not]; omega
        go_wp2
        go_ret
        exact ⟨by rw [HN.out]; rfl, rfl⟩
      · have HN : Hid ((s.data.toList.take (k + 1)).all Sem.okc = true) := Lib.hid (by rw [all_okc_next hlt, HP.out, ho]; simp; omega)
        clear ho
        have h3 : (((s[k]'hlt).toNat : Int) != 45) = true := by rw [bne_iff_ne]; omega
        go_wp2
        go_round
        case rel => exact ⟨k + 1, by go_num, by omega, HN⟩
        case measure => simp [intOf]; omega
      · have HN : Hid (Sem.part s.data.toList = false) := Lib.hid (part_bad hlt (by rw [ho]; simp; omega))
        clear ho
        have h3 : (((s[k]'hlt).toNat : Int) != 45) = true := by rw [bne_iff_ne]; omega
        have h4 : decide (((s[k]'hlt).toNat : Int) ≤ 90) = false := by rw [decide_eq_false_iff_not]; omega
        have h5 : decide (((s[k]'hlt).toNat : Int) ≤ 122) = false := by rw [decide_eq_false_iff_not]; omega
        go_wp2
        go_ret
        exact ⟨by rw [HN.out]; rfl, rfl⟩
    · have hall : s.data.toList.all Sem.okc = true := by have := HP.out; rwa [List.take_of_length_le (by rw [← Lib.size_eq]; omega)] at this
      have he0 : s.toList.isEmpty = s.data.toList.isEmpty := by rw [tx_list]
      have HS : Hid (Sem.part s.data.toList = (!s.data.toList.isEmpty && (!Sem.digits s.data.toList || s.data.toList == [48] || s.data.toList.head? != some 48))) := Lib.hid (by unfold Sem.part; rw [hall, Bool.and_true])
      clear hall
      by_cases hz : s.data.toList = []
      · have he : s.toList.isEmpty = true := by rw [he0, hz]; rfl
        have HN : Hid (Sem.part s.data.toList = false) := Lib.hid (by rw [HS.out, hz]; rfl)
        clear he0 hz
        go_wp2
        go_ret
        exact ⟨by rw [HN.out]; rfl, rfl⟩
      · have he : s.toList.isEmpty = false := by rw [he0]; simpa using hz
        have hpos : 0 < s.size := by rw [Lib.size_eq]; exact List.length_pos_iff.2 hz
        have hhead : s.data.toList.head? = some (s[0]'hpos) := by
          rw [List.head?_eq_getElem?, List.getElem?_eq_getElem (by rw [← Lib.size_eq]; exact hpos)]; rfl
        cases hd : Sem.digits s.data.toList
        · have HN : Hid (Sem.part s.data.toList = true) := Lib.hid (by rw [HS.out, hd]; simpa using hz)
          clear he0 hz hhead
          go_wp2_with (go_at_call 88; refine (digits_walk s hs _).mono ?_; rintro e w' ⟨rfl, rfl⟩)
          go_ret
          exact ⟨by rw [HN.out]; rfl, rfl⟩
        · have HD : Hid (Sem.part s.data.toList = (s.data.toList == [48] || s.data.toList.head? != some 48)) := Lib.hid (by
            rw [HS.out, hd]
            have : s.data.toList.isEmpty = false := by simpa using hz
            rw [this]; rfl)
          rw [hhead] at HD
          cases h48 : (s.toList == [48])
          · have h49 : (s.data.toList == [48]) = false := by rw [← tx_list]; exact h48
            by_cases hh : (s[0]'hpos).toNat = 48
            · have HN : Hid (Sem.part s.data.toList = false) := Lib.hid (by
                have : s[0]'hpos = 48 := UInt8.toNat_inj.1 hh
                rw [HD.out, h49, this]; rfl)
              have h50 : (((s[0]'hpos).toNat : Int) != 48) = false := by rw [bne_eq_false_iff_eq]; omega
              clear he0 hz hhead h49 hh
              go_wp2_with (go_at_call 88; refine (digits_walk s hs _).mono ?_; rintro e w' ⟨rfl, rfl⟩)
              go_ret
              exact ⟨by rw [HN.out]; rfl, rfl⟩
            · have HN : Hid (Sem.part s.data.toList = true) := Lib.hid (by
                have : s[0]'hpos ≠ 48 := fun h => hh (by rw [h]; rfl)
                rw [HD.out, h49]; simpa using this)
              have h50 : (((s[0]'hpos).toNat : Int) != 48) = true := by rw [bne_iff_ne]; omega
              clear he0 hz hhead h49 hh
              go_wp2_with (go_at_call 88; refine (digits_walk s hs _).mono ?_; rintro e w' ⟨rfl, rfl⟩)
              go_ret
              exact ⟨by rw [HN.out]; rfl, rfl⟩
          · have HN : Hid (Sem.part s.data.toList = true) := Lib.hid (by
              have h49 : (s.data.toList == [48]) = true := by rw [← tx_list]; exact h48
              rw [HD.out, h49]; rfl)
            clear he0 hz hhead
            go_wp2_with (go_at_call 88; refine (digits_walk s hs _).mono ?_; rintro e w' ⟨rfl, rfl⟩)
            go_ret
            exact ⟨by rw [HN.out]; rfl, rfl⟩
end Go.Proofs.YtebphmkefpaeaaaGreatDoor

/- The document's Digits: a number in decimal. -/
namespace Go.Proofs.YtebphmkefpaeaaaGreatDoor
open Go.RowKit
set_option linter.unusedVariables false

/-- The byte of a digit. -/
def digB (d : Nat) : UInt8 := UInt8.ofNat (48 + d)

set_option maxRecDepth 100000 in
/-- One digit out of "0123456789". -/
theorem one_digit (d : Nat) (h : d < 10) (W : World) :
    (Instr.slice 9 (.string ⟨#[48, 49, 50, 51, 52, 53, 54, 55, 56, 57]⟩) (some (.int .i64 d)) (some (.int .i64 (d + 1))) none).run Tryz.prog W = .ok (.string ⟨[digB d].toArray⟩) W := by
  have hz : (⟨#[48, 49, 50, 51, 52, 53, 54, 55, 56, 57]⟩ : ByteArray).size = 10 := by decide
  have := slice_mid ⟨#[48, 49, 50, 51, 52, 53, 54, 55, 56, 57]⟩ d (d + 1) (by omega) (by rw [hz]; omega) W
  rw [this, show ((d : Int) + 1).toNat - d = 1 from by omega]
  have e : (([48, 49, 50, 51, 52, 53, 54, 55, 56, 57] : List UInt8).drop d).take 1 = [digB d] := by
    match d, h with
    | 0, _ => rfl
    | 1, _ => rfl
    | 2, _ => rfl
    | 3, _ => rfl
    | 4, _ => rfl
    | 5, _ => rfl
    | 6, _ => rfl
    | 7, _ => rfl
    | 8, _ => rfl
    | 9, _ => rfl
  exact congrArg (fun l : List UInt8 => Result.ok (Value.string ⟨l.toArray⟩) W) e

set_option maxRecDepth 100000 in
theorem dec_walk (N : Nat) (h : N ≤ 999999) (w : World) :
    Calls Tryz.prog 72 #[.int .i64 N] w fun e w' => e = .returned (.string ⟨(Sem.dec N).toArray⟩) ∧ w = w' := by
  obtain ⟨d, hd⟩ : ∃ d : Nat, (N : Int) % 10 = d := ⟨N % 10, by omega⟩
  have hd9 : d < 10 := by omega
  have hsl := one_digit d hd9
  have HD : Hid (Sem.dec N = Sem.ahead N ++ [digB d]) := Lib.hid (by rw [Sem.dec_last, show N % 10 = d from by omega]; rfl)
  go_enter Tryz.func72, Tryz.ntmps72
  go_wp2_with fail
  clear hsl
  go_loop [0, 3, 4] (fun n d o => ∃ (m : Nat) (x : Int) (out : List UInt8), n = .int .i64 m ∧ d = .int .i64 x ∧ o = .string ⟨out.toArray⟩ ∧ out.length + m ≤ N + 1 ∧ Hid (Sem.dec N = Sem.ahead m ++ out))
    (fun n _ _ => (intOf n).toNat)
  case atStart => exact ⟨N, _, _, rfl, rfl, rfl, by simp; omega, HD⟩
  case round =>
    clear hd HD hd9
    obtain ⟨m, x, out, rfl, rfl, rfl, hm, HM⟩ := hrel
    by_cases hlt : 10 ≤ m
    · obtain ⟨c, hc⟩ : ∃ c : Nat, (m : Int) / 10 % 10 = c := ⟨m / 10 % 10, by omega⟩
      have hc9 : c < 10 := by omega
      have hsl := one_digit c hc9
      have HN : Hid (Sem.dec N = Sem.ahead (m / 10) ++ (digB c :: out)) := Lib.hid (by
        rw [HM.out]
        have e : Sem.ahead m = Sem.dec (m / 10) := by unfold Sem.ahead; rw [if_neg (by omega)]
        rw [e, Sem.dec_last, show m / 10 % 10 = c from by omega, List.append_assoc]; rfl)
      have hol : out.length ≤ 1000000 := by omega
      go_wp2
      go_round
      case rel => exact ⟨m / 10, _, digB c :: out, by go_num, rfl, congrArg Value.string (tx_append [digB c] out), by simp; omega, HN⟩
      case measure => simp [intOf]; omega
    · have HN : Hid (Sem.dec N = out) := Lib.hid (by
        rw [HM.out]
        have e : Sem.ahead m = [] := by unfold Sem.ahead; rw [if_pos (by omega)]
        rw [e, List.nil_append])
      go_wp2
      go_ret
      exact ⟨by rw [HN.out]; rfl, rfl⟩
end Go.Proofs.YtebphmkefpaeaaaGreatDoor

/- The document's Parts: a text at its dots. -/
namespace Go.Proofs.YtebphmkefpaeaaaGreatDoor
open Go.RowKit
set_option linter.unusedVariables false

/-- Texts as strings. -/
def strs (l : List (List UInt8)) : List ByteArray := l.map fun p => ⟨p.toArray⟩

theorem piece_one (s : ByteArray) (k : Nat) (h : k < s.size) (W : World) :
    (Instr.slice 9 (.string s) (some (.int .i64 k)) (some (.int .i64 (k + 1))) none).run Tryz.prog W = .ok (.string ⟨[s[k]'h].toArray⟩) W := by
  have := slice_mid s k (k + 1) (by omega) (by omega) W
  rw [this, show ((k : Int) + 1).toNat - k = 1 from by omega]
  have hk : k < s.data.toList.length := by rw [← Lib.size_eq]; exact h
  have e : (s.data.toList.drop k).take 1 = [s[k]'h] := by
    rw [List.drop_eq_getElem_cons hk]; rfl
  rw [e]

set_option maxRecDepth 100000 in
set_option maxHeartbeats 1000000 in
theorem parts_walk (s : ByteArray) (hs : s.size ≤ 1000000) (w : World) :
    Calls Tryz.prog 82 #[.string s] w fun e w' => ∃ A cap, e = .returned (.slice A (strs (Sem.parts s.data.toList)).length cap) ∧ Strs w' w'.heap.size A (strs (Sem.parts s.data.toList)) ∧ Below w.heap.size w w' := by
  obtain ⟨i0, hi, hz0, hz1, hz2⟩ := info_parts (P := Tryz.prog) (e := 9) (z := .string ByteArray.empty) (size := 1) (bytes := 16) (by kernel_rfl)
  go_enter Tryz.func82, Tryz.ntmps82
  go_wp2_with fail
  go_loopw [3, 4] (fun v i wr => ∃ (k : Nat) (ps : List (List UInt8)), i = .int .i64 k ∧ k ≤ s.size ∧ Hid (ps = Sem.parts (s.data.toList.take k)) ∧ ps.length ≤ k + 1 ∧
      wr.ownsRow w.heap.size 9 1 v ps.length ((strs ps).map Value.string) ∧ Below w.heap.size w wr)
    (fun _ i _ => s.size - (intOf i).toNat)
  case atStart =>
    refine ⟨0, [[]], rfl, Nat.zero_le _, Lib.hid rfl, by simp, ?_, (Below.refl _ _).alloc (Nat.le_refl _) _⟩
    exact World.ownsRow_lit (base := w.heap.size) (e := 9) (size := 1) w #[.string ByteArray.empty] 1 (Nat.le_refl _) (by simp [maxLen]) rfl
  case round =>
    obtain ⟨k, ps, rfl, hk, HP, hpl, hown, hb⟩ := hrel
    have hsz := hb.size
    by_cases hlt : k < s.size
    · have hkl : k < s.data.toList.length := by rw [← Lib.size_eq]; exact hlt
      by_cases hc : (s[k]'hlt).toNat = 46
      · have hd : (((s[k]'hlt).toNat : Int) == 46) = true := by rw [beq_iff_eq]; omega
        have HN : Hid (ps ++ [[]] = Sem.parts (s.data.toList.take (k + 1))) := Lib.hid (by
          rw [List.take_succ_eq_append_getElem hkl, show s.data.toList[k] = 46 from UInt8.toNat_inj.1 hc, Sem.parts_snoc_dot, HP.out])
        clear hc
        go_wp2_with (at_builtin; refine wpList_append_own _ rfl _ _ 40 rfl w.heap.size 9 i0 (.string ByteArray.empty) 1 16 Tryz.underlying40 hi hz0 hz1 hz2 rfl (by decide) _ _ _ rfl (hown.alloc _) ⟨wr.heap.size, 0, none⟩ 1 1 [.string ByteArray.empty] rfl rfl ?c1 ?c2 ?c3 ?c4 ?c5 ?_)
        case c1 =>
          intro i u hu
          match i, hu with
          | 0, hu => simp at hu; subst hu; simp [Addr.add]; rfl
        case c2 => intro u hu; simp at hu; subst hu; rfl
        case c3 => unfold maxLen; omega
        case c4 => omega
        case c5 => simp; omega
        intro v' w3 hown3 hgrow _
        go_wp2
        go_roundw
        case rel =>
          refine ⟨k + 1, ps ++ [[]], by go_num, by omega, HN, by simp; omega, ?_, (hb.alloc hsz _).grown hgrow (by simp; omega) (fun k hk => (hown.lt k hk).1)⟩
          rw [List.length_append, strs, List.map_append, List.map_append]
          exact hown3
        case measure => simp [intOf]; omega
      · have hd : (((s[k]'hlt).toNat : Int) == 46) = false := by rw [beq_eq_false_iff_ne]; omega
        obtain ⟨qs, p, hq1, hq2⟩ := Sem.parts_snoc (d := s[k]'hlt) (fun h => hc (by rw [h]; rfl)) (s.data.toList.take k)
        have HN : Hid (qs ++ [p ++ [s[k]'hlt]] = Sem.parts (s.data.toList.take (k + 1))) := Lib.hid (by
          rw [List.take_succ_eq_append_getElem hkl]; exact hq2.symm)
        rw [← HP.out] at hq1
        subst hq1
        have hpl2 : p.length ≤ k := by
          have := Sem.parts_len (s.data.toList.take k) p (by rw [← HP.out]; simp)
          rw [List.length_take] at this; omega
        have hln : (qs ++ [p]).length = qs.length + 1 := by simp
        have hxs : (strs (qs ++ [p])).map Value.string = (strs qs).map Value.string ++ [.string ⟨p.toArray⟩] := by simp [strs]
        have hsl : ((strs qs).map Value.string).length = qs.length := by simp [strs]
        rw [hln, hxs] at hown
        rw [hln] at hpl
        obtain ⟨g, cap, rfl, hg, _⟩ := hown.form (by omega)
        have hcell := hown.cellAt qs.length (by omega)
        rw [List.getElem?_append_right (by omega), hsl, Nat.sub_self] at hcell
        have hfr := hown.frozenAt qs.length
        have hst := hown.stored qs.length (.string ⟨(p ++ [s[k]'hlt]).toArray⟩)
        have hset : ((strs qs).map Value.string ++ [Value.string ⟨p.toArray⟩]).set qs.length (.string ⟨(p ++ [s[k]'hlt]).toArray⟩) = (strs (qs ++ [p ++ [s[k]'hlt]])).map Value.string := by
          rw [List.set_append_right _ _ (by omega), hsl, Nat.sub_self]; simp [strs]
        rw [hset] at hst
        have HST := Lib.hid hst
        have hpc := piece_one s k hlt
        simp only [List.getElem?_cons_zero] at hcell
        clear hst hset hxs hsl hln hc
        go_wp2_with fail
        have hw1 : IntKind.i64.wrap ((qs.length : Nat) : Int) = (qs.length : Int) := IntWalk.i64_in _ (by omega)
        have hw2 : IntKind.i64.wrap ((k : Int) + 1) = (k : Int) + 1 := IntWalk.i64_in _ (by omega)
        have hq2 : (qs.length : Int) < (qs.length : Int) + 1 := by omega
        have hsz2 : (⟨p.toArray⟩ : ByteArray).size + (⟨#[s[k]'hlt]⟩ : ByteArray).size ≤ 9223372036854775807 := by
          rw [size_list, show (⟨#[s[k]'hlt]⟩ : ByteArray).size = 1 from rfl]; omega
        have hcat : ∀ W : World, (Op.stringOp .add (⟨p.toArray⟩ : ByteArray) ⟨#[s[k]'hlt]⟩).run Tryz.prog W = .ok (.string ⟨(p ++ [s[k]'hlt]).toArray⟩) W := fun W => by
          rw [run_string_add_sum _ _ _ hsz2]
          exact congrArg (fun b => Result.ok (Value.string b) W) (tx_append p [s[k]'hlt])
        have hcat2 : ∀ W : World, (binOp .add 9 (.string ⟨p.toArray⟩) (.string ⟨#[s[k]'hlt]⟩)).run Tryz.prog W = .ok (.string ⟨(p ++ [s[k]'hlt]).toArray⟩) W := fun W => hcat W
        have hcell2 : ({ heap := wr.heap, tape := wr.tape, drawn := wr.drawn + 1, os := wr.os, output := wr.output } : World).cell? ⟨g, qs.length, none⟩ = some (.string ⟨p.toArray⟩) := hcell
        go_still_tail 17, (by kernel_rfl)
        change wpList _ _ _ _ _ wr.drew
        clear hw1 hw2 hcat hcat2 hcell2 hq2 hsz2 hpc
        go_wp2
        go_roundw
        case rel =>
          refine ⟨k + 1, qs ++ [p ++ [s[k]'hlt]], by go_num, by omega, HN, by simp; omega, ?_, ((hb.setCell (p := ⟨g, qs.length, none⟩) hg _).drew)⟩
          have hl2 : (qs ++ [p ++ [s[k]'hlt]]).length = qs.length + 1 := by simp
          rw [hl2]
          exact HST.out.1.drew
        case measure => simp [intOf]; omega
    · have HK : Hid (ps = Sem.parts s.data.toList) := Lib.hid (by rw [HP.out, List.take_of_length_le (by rw [← Lib.size_eq]; omega)])
      have hpl3 : ps.length = (strs ps).length := by simp [strs]
      rw [hpl3] at hown
      obtain ⟨A, cap, rfl, hS⟩ := strs_of_own hown
      have hpl4 := hpl3.symm
      go_wp2
      go_ret
      refine ⟨A, cap, ?_, ?_, hb⟩
      · rw [← HK.out]; rfl
      · rw [← HK.out]; exact hS
end Go.Proofs.YtebphmkefpaeaaaGreatDoor

/- The document's Check: may a version be? -/
namespace Go.Proofs.YtebphmkefpaeaaaGreatDoor
open Go.RowKit
set_option linter.unusedVariables false

/-- A version as Go holds it. -/
def verV (v : Sem.Ver) : Value := .agg #[.int .i64 v.maj, .int .i64 v.min, .int .i64 v.pat, .string ⟨v.pre.toArray⟩]

/-- A version that lies in memory. -/
def VerAt (w : World) (g : Nat) (v : Sem.Ver) : Prop := g < w.heap.size ∧ w.cell? ⟨g, 0, none⟩ = some (.int .i64 v.maj) ∧ w.cell? ⟨g, 1, none⟩ = some (.int .i64 v.min) ∧ w.cell? ⟨g, 2, none⟩ = some (.int .i64 v.pat) ∧ w.cell? ⟨g, 3, none⟩ = some (.string ⟨v.pre.toArray⟩)

theorem VerAt.next {w w' : World} {g : Nat} {v : Sem.Ver} (h : VerAt w g v) (hb : Below w.heap.size w w') : VerAt w' g v :=
  ⟨Nat.lt_of_lt_of_le h.1 hb.size, ((cell_of_below (o := 0) hb h.1).1).trans h.2.1, ((cell_of_below (o := 1) hb h.1).1).trans h.2.2.1, ((cell_of_below (o := 2) hb h.1).1).trans h.2.2.2.1, ((cell_of_below (o := 3) hb h.1).1).trans h.2.2.2.2⟩

theorem ver_new (w : World) (v : Sem.Ver) : VerAt (w.alloc (.cells #[.int .i64 v.maj, .int .i64 v.min, .int .i64 v.pat, .string ⟨v.pre.toArray⟩] 70)) w.heap.size v :=
  ⟨by simp, by simp [go_sem], by simp [go_sem], by simp [go_sem], by simp [go_sem]⟩

/-- What Check tells. -/
def chk (v : Sem.Ver) : Int := if Sem.may v = true then 0 else 40

theorem all_part_next {ps : List (List UInt8)} {k : Nat} (h : k < ps.length) : (ps.take (k + 1)).all Sem.part = ((ps.take k).all Sem.part && Sem.part ps[k]) := by
  rw [List.take_succ_eq_append_getElem h, List.all_append]; simp

set_option maxRecDepth 100000 in
set_option maxHeartbeats 1000000 in
theorem rcheck_walk (v : Sem.Ver) (hs : v.pre.length ≤ 9223372036854775807) (w : World) :
    Calls Tryz.prog 71 #[verV v] w fun e w' => e = .returned (.int .i64 (chk v)) ∧ Below w.heap.size w w' := by
  obtain ⟨a, b, c, p⟩ := v
  have hm := Sem.may_iff ⟨a, b, c, p⟩
  simp only at hm hs
  unfold verV
  by_cases hn : (0 ≤ a ∧ a ≤ 999999) ∧ (0 ≤ b ∧ b ≤ 999999) ∧ (0 ≤ c ∧ c ≤ 999999) ∧ p.length ≤ 24
  · obtain ⟨⟨a1, a2⟩, ⟨b1, b2⟩, ⟨c1, c2⟩, hp⟩ := hn
    by_cases hz : p = []
    · have HM : Hid (Sem.may ⟨a, b, c, p⟩ = true) := Lib.hid (hm.2 ⟨⟨a1, a2⟩, ⟨b1, b2⟩, ⟨c1, c2⟩, hp, by rw [hz]; rfl⟩)
      subst hz
      clear hm
      go_enter Tryz.func71, Tryz.ntmps71
      go_wp2
      go_ret
      exact ⟨by rw [chk, if_pos HM.out]; rfl, (Below.refl _ _).alloc (Nat.le_refl _) _⟩
    · have he : p.isEmpty = false := by simpa using hz
      have HM : Hid (Sem.may ⟨a, b, c, p⟩ = (Sem.parts p).all Sem.part) := Lib.hid (by
        rw [Bool.eq_iff_iff, hm]
        have : Sem.preOk p = (Sem.parts p).all Sem.part := by unfold Sem.preOk; rw [he, Bool.false_or]
        rw [this]
        exact ⟨fun h => h.2.2.2.2, fun h => ⟨⟨a1, a2⟩, ⟨b1, b2⟩, ⟨c1, c2⟩, hp, h⟩⟩)
      clear hm hz
      go_enter Tryz.func71, Tryz.ntmps71
      go_wp2_with fail
      refine (parts_walk ⟨p.toArray⟩ (by rw [size_list]; omega) _).mono ?_
      rintro e w1 ⟨A, cap, rfl, hS, hb⟩
      have hb1 := below_next (below_one _ _) hb
      go_wp2_with fail
      obtain ⟨ps, hps⟩ : ∃ ps, ps = Sem.parts p := ⟨_, rfl⟩
      have hpl : ∀ q ∈ ps, q.length ≤ 24 := by
        intro q hq
        have := Sem.parts_len p q (by rw [← hps]; exact hq)
        omega
      have HPL := Lib.hid hpl
      have hcount : ps.length ≤ p.length + 1 := by rw [hps]; exact Sem.parts_count p
      have hsl : (strs ps).length = ps.length := by simp [strs]
      rw [← hps] at HM hS ⊢
      rw [hsl]
      clear hpl hps
      go_loop [4] (fun i => ∃ k : Nat, i = .int .i64 k ∧ k ≤ ps.length ∧ Hid ((ps.take k).all Sem.part = true)) (fun i => ps.length - (intOf i).toNat)
      case atStart => exact ⟨0, rfl, Nat.zero_le _, Lib.hid rfl⟩
      case round =>
        obtain ⟨k, rfl, hk, HP⟩ := hrel
        by_cases hlt : k < ps.length
        · rcases hS with hS | ⟨g, off, rfl, _, hc⟩
          · omega
          · obtain ⟨q, hq⟩ : ∃ q, q = ps[k] := ⟨_, rfl⟩
            have hcell : w1.cell? ⟨g, off + k, none⟩ = some (.string ⟨q.toArray⟩) := by
              rw [hc k (by rw [hsl]; exact hlt), hq]; simp [strs]
            have hq24 := HPL.out q (by rw [hq]; exact List.getElem_mem _)
            have HQ := Lib.hid hq
            clear hc hq hsl
            cases hqp : Sem.part q
            · have HN : Hid (ps.all Sem.part = false) := Lib.hid (by
                rw [List.all_eq_false]
                exact ⟨q, by rw [HQ.out]; exact List.getElem_mem _, by rw [hqp]; simp⟩)
              have hcon := part_walk ⟨q.toArray⟩ (by rw [size_list]; omega) w1
              have hcon2 : Calls Tryz.prog 83 #[.string ⟨q.toArray⟩] w1 fun e w' => e = .returned (.bool false) ∧ w1 = w' := by rw [← hqp]; exact hcon
              clear hcon
              go_wp2_with (go_at_call 83; refine hcon2.mono ?_; rintro e w' ⟨rfl, rfl⟩)
              go_ret
              exact ⟨by rw [chk, HM.out, if_neg (by rw [HN.out]; simp)]; rfl, hb1⟩
            · have HN : Hid ((ps.take (k + 1)).all Sem.part = true) := Lib.hid (by rw [all_part_next hlt, HP.out, ← HQ.out, hqp]; rfl)
              have hcon := part_walk ⟨q.toArray⟩ (by rw [size_list]; omega) w1
              have hcon2 : Calls Tryz.prog 83 #[.string ⟨q.toArray⟩] w1 fun e w' => e = .returned (.bool true) ∧ w1 = w' := by rw [← hqp]; exact hcon
              clear hcon
              go_wp2_with (go_at_call 83; refine hcon2.mono ?_; rintro e w' ⟨rfl, rfl⟩)
              go_round
              case rel => exact ⟨k + 1, by go_num, by omega, HN⟩
              case measure => simp [intOf]; omega
        · have HN : Hid (ps.all Sem.part = true) := Lib.hid (by have := HP.out; rwa [List.take_of_length_le (by omega)] at this)
          clear hsl
          go_wp2
          go_ret
          exact ⟨by rw [chk, HM.out, if_pos HN.out]; rfl, hb1⟩
  · have HM : Hid (Sem.may ⟨a, b, c, p⟩ = false) := Lib.hid (Bool.eq_false_iff.2 fun h => hn ⟨(hm.1 h).1, (hm.1 h).2.1, (hm.1 h).2.2.1, (hm.1 h).2.2.2.1⟩)
    clear hm
    go_enter Tryz.func71, Tryz.ntmps71
    go_wp2
    all_goals
      first
      | (exfalso; omega)
      | (go_ret
         exact ⟨by rw [chk, if_neg (by rw [HM.out]; simp)]; rfl, below_one _ _⟩)
end Go.Proofs.YtebphmkefpaeaaaGreatDoor

/- The document's Show: a version's text. -/
namespace Go.Proofs.YtebphmkefpaeaaaGreatDoor
open Go.RowKit
set_option linter.unusedVariables false

/-- What Show tells. -/
def showR (v : Sem.Ver) : Value := if Sem.may v = true then .tuple #[.string ⟨(Sem.text v).toArray⟩, .int .i64 0] else .tuple #[.string ByteArray.empty, .int .i64 40]

theorem dec_short {n : Nat} (h : n ≤ 999999) : (Sem.dec n).length ≤ 6 := Sem.dec_len 6 n (by have : (10 : Nat) ^ 6 = 1000000 := rfl; omega) (by omega)

theorem show_none (x y z : List UInt8) : (⟨x.toArray⟩ : ByteArray) ++ ⟨#[46]⟩ ++ ⟨y.toArray⟩ ++ ⟨#[46]⟩ ++ ⟨z.toArray⟩ = ⟨(x ++ 46 :: (y ++ 46 :: (z ++ if ([] : List UInt8) = [] then [] else 45 :: []))).toArray⟩ := by
  apply ByteArray.ext
  simp [ByteArray.data_append]

theorem show_some (x y z p : List UInt8) (h : p ≠ []) : (⟨x.toArray⟩ : ByteArray) ++ ⟨#[46]⟩ ++ ⟨y.toArray⟩ ++ ⟨#[46]⟩ ++ ⟨z.toArray⟩ ++ ⟨#[45]⟩ ++ ⟨p.toArray⟩ = ⟨(x ++ 46 :: (y ++ 46 :: (z ++ if p = [] then [] else 45 :: p))).toArray⟩ := by
  rw [if_neg h]
  apply ByteArray.ext
  simp [ByteArray.data_append]

theorem two_eq {s t : ByteArray} (e : Int) (h : s = t) : Ending.returned (.tuple #[.string s, .int .i64 e]) = .returned (.tuple #[.string t, .int .i64 e]) := by rw [h]

set_option maxRecDepth 100000 in
set_option maxHeartbeats 1000000 in
theorem rshow_walk (v : Sem.Ver) (hs : v.pre.length ≤ 9223372036854775807) (w : World) :
    Calls Tryz.prog 60 #[verV v] w fun e w' => e = .returned (showR v) ∧ Below w.heap.size w w' := by
  cases hm : Sem.may v
  · have HM := Lib.hid hm
    have hc : chk v = 40 := by rw [chk, hm]; rfl
    have HC := Lib.hid hc
    obtain ⟨a, b, c, p⟩ := v
    clear hm hc
    have hv : verV ⟨a, b, c, p⟩ = .agg #[.int .i64 a, .int .i64 b, .int .i64 c, .string ⟨p.toArray⟩] := rfl
    have HV := Lib.hid hv
    rw [hv]
    clear hv
    go_enter Tryz.func60, Tryz.ntmps60
    go_wp2_with fail
    refine (rcheck_walk ⟨a, b, c, p⟩ hs _).mono ?_
    rintro e w1 ⟨he, hb⟩
    rw [HC.out] at he
    subst he
    go_wp2
    go_ret2
    exact ⟨by rw [showR, HM.out, if_neg (by simp)]; rfl, below_next (below_one _ _) hb⟩
  · have HM := Lib.hid hm
    have hc : chk v = 0 := by rw [chk, hm]; rfl
    have HC := Lib.hid hc
    have hmi := (Sem.may_iff v).1 hm
    obtain ⟨a, b, c, p⟩ := v
    simp only at hmi hs
    obtain ⟨⟨a1, a2⟩, ⟨b1, b2⟩, ⟨c1, c2⟩, hp, _⟩ := hmi
    obtain ⟨a, rfl⟩ := Int.eq_ofNat_of_zero_le a1
    obtain ⟨b, rfl⟩ := Int.eq_ofNat_of_zero_le b1
    obtain ⟨c, rfl⟩ := Int.eq_ofNat_of_zero_le c1
    clear hm hc
    have HS : Hid (showR ⟨a, b, c, p⟩ = .tuple #[.string ⟨(Sem.dec a ++ 46 :: (Sem.dec b ++ 46 :: (Sem.dec c ++ if p = [] then [] else 45 :: p))).toArray⟩, .int .i64 0]) := Lib.hid (by
      rw [showR, HM.out, if_pos rfl]; rfl)
    have la := dec_short (n := a) (by omega)
    have lb := dec_short (n := b) (by omega)
    have lc := dec_short (n := c) (by omega)
    unfold verV
    by_cases hz : p = []
    · subst hz
      go_enter Tryz.func60, Tryz.ntmps60
      go_wp2_with fail
      refine (rcheck_walk ⟨a, b, c, []⟩ hs _).mono ?_
      rintro e w1 ⟨he, hb⟩
      rw [HC.out] at he
      subst he
      obtain ⟨_, g0, g1, g2, g3⟩ := (ver_new w ⟨a, b, c, []⟩).next hb
      go_wp2_with fail
      go_quiet ((go_at_call 72; exact Calls.quiet_of_same (flip (dec_walk _ (by omega) _))))
      go_wp2
      go_ret2
      refine ⟨?_, below_drewN (below_next (below_one _ _) hb) _⟩
      rw [HS.out]
      exact two_eq 0 (show_none _ _ _)
    · have hpe : p.isEmpty = false := by simpa using hz
      go_enter Tryz.func60, Tryz.ntmps60
      go_wp2_with fail
      refine (rcheck_walk ⟨a, b, c, p⟩ hs _).mono ?_
      rintro e w1 ⟨he, hb⟩
      rw [HC.out] at he
      subst he
      obtain ⟨_, g0, g1, g2, g3⟩ := (ver_new w ⟨a, b, c, p⟩).next hb
      go_wp2_with fail
      go_quiet ((go_at_call 72; exact Calls.quiet_of_same (flip (dec_walk _ (by omega) _))))
      go_wp2
      go_ret2
      refine ⟨?_, below_drewN (below_next (below_one _ _) hb) _⟩
      rw [HS.out]
      exact two_eq 0 (show_some _ _ _ _ hz)
end Go.Proofs.YtebphmkefpaeaaaGreatDoor

/- A version in a box that may be written. -/
namespace Go.Proofs.YtebphmkefpaeaaaGreatDoor
open Go.RowKit
set_option linter.unusedVariables false

/-- A version in a box that may be written. -/
def Box4 (W : World) (g : Nat) (v : Sem.Ver) : Prop := VerAt W g v ∧ W.frozen? ⟨g, 0, none⟩ = false ∧ W.frozen? ⟨g, 1, none⟩ = false ∧ W.frozen? ⟨g, 2, none⟩ = false ∧ W.frozen? ⟨g, 3, none⟩ = false

theorem Box4.keep {W W' : World} {g B : Nat} {v : Sem.Ver} (h : Box4 W g v) (hg : g < B) (hb : Below B W W') : Box4 W' g v := by
  obtain ⟨⟨h0, h1, h2, h3, h4⟩, f0, f1, f2, f3⟩ := h
  exact ⟨⟨Nat.lt_of_lt_of_le h0 hb.size, (hb.cell (p := ⟨g, 0, none⟩) hg).trans h1, (hb.cell (p := ⟨g, 1, none⟩) hg).trans h2, (hb.cell (p := ⟨g, 2, none⟩) hg).trans h3, (hb.cell (p := ⟨g, 3, none⟩) hg).trans h4⟩,
    (hb.frozen (p := ⟨g, 0, none⟩) hg).trans f0, (hb.frozen (p := ⟨g, 1, none⟩) hg).trans f1, (hb.frozen (p := ⟨g, 2, none⟩) hg).trans f2, (hb.frozen (p := ⟨g, 3, none⟩) hg).trans f3⟩

theorem Box4.set {W : World} {g : Nat} {v : Sem.Ver} (h : Box4 W g v) (u : Sem.Ver) : Box4 ((((W.setCell ⟨g, 0, none⟩ (.int .i64 u.maj)).setCell ⟨g, 1, none⟩ (.int .i64 u.min)).setCell ⟨g, 2, none⟩ (.int .i64 u.pat)).setCell ⟨g, 3, none⟩ (.string ⟨u.pre.toArray⟩)) g u := by
  obtain ⟨⟨h0, h1, h2, h3, h4⟩, f0, f1, f2, f3⟩ := h
  exact ⟨⟨by simpa using h0, by simp [go_sem, h1], by simp [go_sem, h2], by simp [go_sem, h3], by simp [go_sem, h4]⟩, by simp [go_sem, f0], by simp [go_sem, f1], by simp [go_sem, f2], by simp [go_sem, f3]⟩

theorem box_new (w : World) (v : Sem.Ver) : Box4 (w.alloc (.cells #[.int .i64 v.maj, .int .i64 v.min, .int .i64 v.pat, .string ⟨v.pre.toArray⟩] 70)) w.heap.size v :=
  ⟨ver_new w v, by simp [go_sem], by simp [go_sem], by simp [go_sem], by simp [go_sem]⟩

theorem VerAt.put {W : World} {g x : Nat} {v : Sem.Ver} (h : VerAt W g v) (hne : x ≠ g) (p q r s : Value) :
    VerAt ((((W.setCell ⟨x, 0, none⟩ p).setCell ⟨x, 1, none⟩ q).setCell ⟨x, 2, none⟩ r).setCell ⟨x, 3, none⟩ s) g v := by
  obtain ⟨h0, h1, h2, h3, h4⟩ := h
  have k : ∀ (V : World) (i j : Nat) (z : Value), (V.setCell ⟨x, i, none⟩ z).cell? ⟨g, j, none⟩ = V.cell? ⟨g, j, none⟩ := fun V i j z => World.cell?_setCell_other _ _ _ _ (fun e => hne (congrArg Addr.block e))
  refine ⟨by simpa using h0, ?_, ?_, ?_, ?_⟩ <;> rw [k, k, k, k] <;> assumption

theorem Box4.put {W : World} {g x : Nat} {v : Sem.Ver} (h : Box4 W g v) (hne : x ≠ g) (p q r s : Value) :
    Box4 ((((W.setCell ⟨x, 0, none⟩ p).setCell ⟨x, 1, none⟩ q).setCell ⟨x, 2, none⟩ r).setCell ⟨x, 3, none⟩ s) g v := by
  obtain ⟨h1, f0, f1, f2, f3⟩ := h
  exact ⟨h1.put hne p q r s, by simp [go_sem, f0], by simp [go_sem, f1], by simp [go_sem, f2], by simp [go_sem, f3]⟩

theorem below_put4 {B : Nat} {a W : World} (h : Below B a W) {x : Nat} (hx : B ≤ x) (p q r s : Value) :
    Below B a ((((W.setCell ⟨x, 0, none⟩ p).setCell ⟨x, 1, none⟩ q).setCell ⟨x, 2, none⟩ r).setCell ⟨x, 3, none⟩ s) :=
  (((h.setCell (p := ⟨x, 0, none⟩) hx _).setCell (p := ⟨x, 1, none⟩) hx _).setCell (p := ⟨x, 2, none⟩) hx _).setCell (p := ⟨x, 3, none⟩) hx _

end Go.Proofs.YtebphmkefpaeaaaGreatDoor

/- The document's Parse: the version that a text is. -/
namespace Go.Proofs.YtebphmkefpaeaaaGreatDoor
open Go.RowKit
set_option linter.unusedVariables false

/-- What Parse tells. -/
def parseR (o : Option Sem.Ver) : Value := match o with
  | some v => .tuple #[verV v, .int .i64 0]
  | none => .tuple #[verV ⟨0, 0, 0, []⟩, .int .i64 40]

theorem parse_long {l : List UInt8} (h : 60 < l.length) : Sem.parse l = none := by
  cases hp : Sem.parse l with
  | none => rfl
  | some v =>
    obtain ⟨h1, h2⟩ := Sem.parse_some hp
    have := Sem.text_len h1
    rw [h2] at this
    omega

/-- Three numbers as cells. -/
def tl (t : Nat × Nat × Nat) : List Value := [.int .i64 t.1, .int .i64 t.2.1, .int .i64 t.2.2]

theorem tl_get (t : Nat × Nat × Nat) (k : Nat) (h : k ≤ 2) : (tl t)[k]? = some (.int .i64 (Sem.get t k)) := by
  match k, h with
  | 0, _ => rfl
  | 1, _ => rfl
  | 2, _ => rfl

theorem tl_put (t : Nat × Nat × Nat) (k x : Nat) (h : k ≤ 2) : (tl t).set k (.int .i64 x) = tl (Sem.put t k x) := by
  match k, h with
  | 0, _ => rfl
  | 1, _ => rfl
  | 2, _ => rfl

set_option maxRecDepth 100000 in
theorem rparse_long (s : ByteArray) (h : 60 < s.size) (hs : s.size ≤ 9223372036854775807) (w : World) :
    Calls Tryz.prog 47 #[.string s] w fun e w' => e = .returned (parseR (Sem.parse s.data.toList)) ∧ Below w.heap.size w w' := by
  rw [parse_long (by rw [← Lib.size_eq]; exact h)]
  go_enter Tryz.func47, Tryz.ntmps47
  go_wp2
  refine bodyPost_ret (v := .tuple #[.agg #[.int .i64 0, .int .i64 0, .int .i64 0, .string ByteArray.empty], .int .i64 40]) (by simp [results, Tryz.results47, go_sem]; rfl) rfl ?_
  exact ⟨rfl, below_one _ _⟩

theorem scan_step {s : ByteArray} {i : Nat} (h : i < s.size) (k : Nat) (t : Nat × Nat × Nat) : Sem.scan (s.data.toList.drop i) k t =
    if s[i]'h = 45 then some (t, s.data.toList.drop i) else if s[i]'h = 46 then (if k < 2 then Sem.scan (s.data.toList.drop (i + 1)) (k + 1) t else none)
    else if Sem.dig (s[i]'h) = true then Sem.scan (s.data.toList.drop (i + 1)) k (Sem.put t k (Sem.rd (Sem.get t k) (s[i]'h))) else none := by
  rw [List.drop_eq_getElem_cons (by rw [← Lib.size_eq]; exact h), Sem.scan]
  rfl

theorem bel4 {w W : World} {x0 x1 x2 x3 : Value} (h : Below w.heap.size w W) : Below w.heap.size w ((((W.setCell ⟨w.heap.size, 0, none⟩ x0).setCell ⟨w.heap.size, 1, none⟩ x1).setCell ⟨w.heap.size, 2, none⟩ x2).setCell ⟨w.heap.size, 3, none⟩ x3) :=
  (((h.setCell (p := ⟨w.heap.size, 0, none⟩) (Nat.le_refl _) _).setCell (p := ⟨w.heap.size, 1, none⟩) (Nat.le_refl _) _).setCell (p := ⟨w.heap.size, 2, none⟩) (Nat.le_refl _) _).setCell (p := ⟨w.heap.size, 3, none⟩) (Nat.le_refl _) _

theorem rd_le {a : Nat} {c : UInt8} (h : a ≤ 9999999) (hc : c.toNat ≤ 57) : Sem.rd a c ≤ 9999999 := by
  unfold Sem.rd; split <;> omega

theorem put_le {t : Nat × Nat × Nat} {k x : Nat} (h : ∀ j, Sem.get t j ≤ 9999999) (hx : x ≤ 9999999) : ∀ j, Sem.get (Sem.put t k x) j ≤ 9999999 := by
  have h0 : t.1 ≤ 9999999 := h 0
  have h1 : t.2.1 ≤ 9999999 := h 1
  have h2 : t.2.2 ≤ 9999999 := h 2
  intro j
  unfold Sem.put
  by_cases e0 : k = 0
  · rw [if_pos e0]; unfold Sem.get
    by_cases j0 : j = 0
    · rw [if_pos j0]; exact hx
    · rw [if_neg j0]; split <;> assumption
  · rw [if_neg e0]
    by_cases e1 : k = 1
    · rw [if_pos e1]; unfold Sem.get
      by_cases j0 : j = 0
      · rw [if_pos j0]; exact h0
      · rw [if_neg j0]; split <;> assumption
    · rw [if_neg e1]; unfold Sem.get
      by_cases j0 : j = 0
      · rw [if_pos j0]; exact h0
      · rw [if_neg j0]; split <;> assumption

theorem scan_none {l : List UInt8} (h : Sem.scan l 0 (0, 0, 0) = none) : Sem.parse l = none := by rw [Sem.parse, h]
theorem scan_some {l : List UInt8} {t : Nat × Nat × Nat} {rest : List UInt8} (h : Sem.scan l 0 (0, 0, 0) = some (t, rest)) :
    Sem.parse l = if Sem.may ⟨t.1, t.2.1, t.2.2, rest.tail⟩ = true ∧ Sem.text ⟨t.1, t.2.1, t.2.2, rest.tail⟩ = l then some ⟨t.1, t.2.1, t.2.2, rest.tail⟩ else none := by
  rw [Sem.parse, h]

set_option maxRecDepth 100000 in
set_option maxHeartbeats 2000000 in
theorem rparse_in (s : ByteArray) (h : s.size ≤ 60) (w : World) :
    Calls Tryz.prog 47 #[.string s] w fun e w' => e = .returned (parseR (Sem.parse s.data.toList)) ∧ Below w.heap.size w w' := by
  have hz := Lib.hid (Lib.size_eq s)
  go_enter Tryz.func47, Tryz.ntmps47
  go_wp2_with fail
  generalize hW0 : w.alloc (Obj.cells #[Value.int IntKind.i64 0, Value.int IntKind.i64 0, Value.int IntKind.i64 0, Value.string ⟨#[]⟩] 70) = W0
  have hz0 : W0.heap.size = w.heap.size + 1 := by rw [← hW0]; simp
  have hR0 : VerAt W0 w.heap.size ⟨0, 0, 0, []⟩ := by rw [← hW0]; exact ver_new w ⟨0, 0, 0, []⟩
  have hF0 : Hid (W0.frozen? ⟨w.heap.size, 0, none⟩ = false ∧ W0.frozen? ⟨w.heap.size, 1, none⟩ = false ∧ W0.frozen? ⟨w.heap.size, 2, none⟩ = false ∧ W0.frozen? ⟨w.heap.size, 3, none⟩ = false) := by
    rw [← hW0]; exact Lib.hid ⟨by simp [go_sem], by simp [go_sem], by simp [go_sem], by simp [go_sem]⟩
  have hb0 : Below w.heap.size w W0 := by rw [← hW0]; exact below_one _ _
  have hown0 : (W0.alloc (Obj.cells #[Value.int IntKind.i64 0, Value.int IntKind.i64 0, Value.int IntKind.i64 0] 3)).ownsRow (w.heap.size + 1) 3 1 (.slice (some ⟨w.heap.size + 1, 0, none⟩) 3 3) 3 (tl (0, 0, 0)) := by
    have := World.ownsRow_lit (base := W0.heap.size) (e := 3) (size := 1) W0 #[Value.int IntKind.i64 0, Value.int IntKind.i64 0, Value.int IntKind.i64 0] 3 (Nat.le_refl _) (by simp [maxLen]) rfl
    rw [hz0] at this
    exact this
  have hbl0 : Below (w.heap.size + 1) W0 (W0.alloc (Obj.cells #[Value.int IntKind.i64 0, Value.int IntKind.i64 0, Value.int IntKind.i64 0] 3)) := by rw [← hz0]; exact below_one _ _
  have HR0 := Lib.hid hR0
  have HZ0 := Lib.hid hz0
  clear hW0 hR0 hz0
  go_loopw [5, 6] (fun kk ii wr => ∃ (k i : Nat) (t : Nat × Nat × Nat), kk = .int .i64 k ∧ ii = .int .i64 i ∧ k ≤ 2 ∧ i ≤ s.size ∧ Hid (∀ j, Sem.get t j ≤ 9999999) ∧
      Hid (Sem.scan s.data.toList 0 (0, 0, 0) = Sem.scan (s.data.toList.drop i) k t) ∧ wr.ownsRow (w.heap.size + 1) 3 1 (.slice (some ⟨w.heap.size + 1, 0, none⟩) 3 3) 3 (tl t) ∧ Below (w.heap.size + 1) W0 wr)
    (fun _ i _ => s.size - (intOf i).toNat)
  case atStart => exact ⟨0, 0, (0, 0, 0), rfl, rfl, by omega, Nat.zero_le _, Lib.hid (fun j => by unfold Sem.get; split <;> simp), Lib.hid rfl, hown0, hbl0⟩
  case round =>
    clear hown0 hbl0
    obtain ⟨k, i, t, rfl, rfl, hk, hi, HT, HSC, hown, hb⟩ := hrel
    have hbw : Below w.heap.size w wr := hb0.trans (hb.mono (by omega))
    have hr1 : w.heap.size < w.heap.size + 1 := by omega
    obtain ⟨_, r0, r1, r2, r3⟩ := HR0.out
    obtain ⟨f0, f1, f2, f3⟩ := hF0.out
    have hbz : Below W0.heap.size W0 wr := by rw [HZ0.out]; exact hb
    have hgz : w.heap.size < W0.heap.size := by rw [HZ0.out]; omega
    rw [← (cell_of_below (o := 0) hbz hgz).1] at r0
    rw [← (cell_of_below (o := 1) hbz hgz).1] at r1
    rw [← (cell_of_below (o := 2) hbz hgz).1] at r2
    rw [← (cell_of_below (o := 3) hbz hgz).1] at r3
    rw [← (cell_of_below (o := 0) hbz hgz).2] at f0
    rw [← (cell_of_below (o := 1) hbz hgz).2] at f1
    rw [← (cell_of_below (o := 2) hbz hgz).2] at f2
    rw [← (cell_of_below (o := 3) hbz hgz).2] at f3
    have hwz : w.heap.size + 1 ≤ wr.heap.size := by have := hb.size; rw [HZ0.out] at this; exact this
    clear hbz hgz
    by_cases hgo : ∃ h : i < s.size, (s[i]'h).toNat ≠ 45
    · obtain ⟨hlt, hc45⟩ := hgo
      have hst := scan_step hlt k t
      have h45 : s[i]'hlt ≠ 45 := fun h => hc45 (by rw [h]; rfl)
      rw [if_neg h45] at hst
      have hd45 : (((s[i]'hlt).toNat : Int) != 45) = true := by rw [bne_iff_ne]; omega
      by_cases hc46 : (s[i]'hlt).toNat = 46
      · have h46 : s[i]'hlt = 46 := UInt8.toNat_inj.1 hc46
        have hd46 : (((s[i]'hlt).toNat : Int) == 46) = true := by rw [beq_iff_eq]; omega
        have hd46n : (((s[i]'hlt).toNat : Int) != 46) = false := by rw [bne_eq_false_iff_eq]; omega
        rw [if_pos h46] at hst
        by_cases hk2 : k < 2
        · rw [if_pos hk2] at hst
          have HN : Hid (Sem.scan s.data.toList 0 (0, 0, 0) = Sem.scan (s.data.toList.drop (i + 1)) (k + 1) t) := Lib.hid (HSC.out.trans hst)
          clear hst h45 hc45 hc46 h46 r0 r1 r2 r3 f0 f1 f2 f3
          go_wp2_with fail
          go_roundw
          case rel => exact ⟨k + 1, i + 1, t, by go_num, by go_num, by omega, by omega, HT, HN, hown, hb⟩
          case measure => simp [intOf]; omega
        · rw [if_neg hk2] at hst
          have HE : Hid (Sem.parse s.data.toList = none) := Lib.hid (scan_none (HSC.out.trans hst))
          clear hst h45 hc45 hc46 h46
          go_wp2
          refine bodyPost_ret (v := .tuple #[.agg #[.int .i64 0, .int .i64 0, .int .i64 0, .string ByteArray.empty], .int .i64 40]) (by simp [results, Tryz.results47, go_sem, r0, r1, r2, r3]; rfl) rfl ?_
          exact ⟨by rw [HE.out]; rfl, bel4 hbw⟩
      · have h46 : s[i]'hlt ≠ 46 := fun h => hc46 (by rw [h]; rfl)
        have hd46 : (((s[i]'hlt).toNat : Int) == 46) = false := by rw [beq_eq_false_iff_ne]; omega
        have hd46n : (((s[i]'hlt).toNat : Int) != 46) = true := by rw [bne_iff_ne]; omega
        rw [if_neg h46] at hst
        by_cases hdig : 48 ≤ (s[i]'hlt).toNat ∧ (s[i]'hlt).toNat ≤ 57
        · rw [if_pos (by simp [Sem.dig]; omega)] at hst
          have HN := Lib.hid (HSC.out.trans hst)
          obtain ⟨hd1, hd2⟩ := hdig
          have hcell := hown.cellAt k (by omega)
          rw [tl_get t k hk] at hcell
          have hfr := hown.frozenAt k
          obtain ⟨a, ha⟩ : ∃ a, a = Sem.get t k := ⟨_, rfl⟩
          have hal : a ≤ 9999999 := by rw [ha]; exact HT.out k
          rw [← ha] at hcell
          have HX := Lib.hid ha
          have hkI : (k : Int) < 3 := by omega
          by_cases hal2 : a ≤ 999999
          · have HST := Lib.hid (hown.stored k (.int .i64 (10 * a + ((s[i]'hlt).toNat - 48) : Nat)))
            have HP : Hid ((tl t).set k (.int .i64 (10 * a + ((s[i]'hlt).toNat - 48) : Nat)) = tl (Sem.put t k (Sem.rd (Sem.get t k) (s[i]'hlt)))) := Lib.hid (by
              rw [tl_put t k _ hk, ← HX.out, Sem.rd, if_pos hal2])
            clear hst h45 hc45 hc46 h46 ha hown r0 r1 r2 r3 f0 f1 f2 f3
            go_wp2_with fail
            have hw1 : IntKind.i64.wrap (10 * (a : Int)) = 10 * (a : Int) := IntWalk.i64_in _ (by omega)
            have hw2 : IntKind.u8.wrap (((s[i]'hlt).toNat : Int) - 48) = ((s[i]'hlt).toNat : Int) - 48 := IntWalk.u8_in _ (by omega)
            have hw3 : IntKind.i64.wrap (((s[i]'hlt).toNat : Int) - 48) = ((s[i]'hlt).toNat : Int) - 48 := IntWalk.i64_in _ (by omega)
            have hw4 : IntKind.i64.wrap (10 * (a : Int) + (((s[i]'hlt).toNat : Int) - 48)) = 10 * (a : Int) + (((s[i]'hlt).toNat : Int) - 48) := IntWalk.i64_in _ (by omega)
            have hi1 : (i : Int) < (s.size : Int) := by omega
            go_still_tail 14, (by kernel_rfl)
            change wpList _ _ _ _ _ wr.drew
            clear hw1 hw2 hw3 hw4
            go_wp2
            go_roundw
            case rel =>
              refine ⟨k, i + 1, _, rfl, by go_num, hk, by omega, Lib.hid (put_le HT.out (rd_le (HT.out k) hd2)), HN, ?_, ((hb.setCell (p := ⟨w.heap.size + 1, k, none⟩) (Nat.le_refl _) _).drew)⟩
              rw [← HP.out]
              have := HST.out.1.drew
              rw [show ((10 * a + ((s[i]'hlt).toNat - 48) : Nat) : Int) = 10 * (a : Int) + (((s[i]'hlt).toNat : Int) - 48) from by omega] at this ⊢
              exact this
            case measure => simp [intOf]; omega
          · have HP : Hid (Sem.put t k (Sem.rd (Sem.get t k) (s[i]'hlt)) = t) := Lib.hid (by
              have e : Sem.rd (Sem.get t k) (s[i]'hlt) = Sem.get t k := by rw [← HX.out, Sem.rd, if_neg hal2]
              rw [e]
              match k, hk with
              | 0, _ => rfl
              | 1, _ => rfl
              | 2, _ => rfl)
            rw [HP.out] at HN
            clear hst h45 hc45 hc46 h46 ha r0 r1 r2 r3 f0 f1 f2 f3
            go_wp2_with fail
            go_roundw
            case rel => exact ⟨k, i + 1, t, rfl, by go_num, hk, by omega, HT, HN, hown, hb⟩
            case measure => simp [intOf]; omega
        · rw [if_neg (by simp [Sem.dig]; omega)] at hst
          have HE : Hid (Sem.parse s.data.toList = none) := Lib.hid (scan_none (HSC.out.trans hst))
          clear hst h45 hc45 h46
          by_cases h48 : (s[i]'hlt).toNat < 48
          · clear hdig
            go_wp2
            refine bodyPost_ret (v := .tuple #[.agg #[.int .i64 0, .int .i64 0, .int .i64 0, .string ByteArray.empty], .int .i64 40]) (by simp [results, Tryz.results47, go_sem, r0, r1, r2, r3]; rfl) rfl ?_
            exact ⟨by rw [HE.out]; rfl, bel4 hbw⟩
          · have h57 : 57 < (s[i]'hlt).toNat := by omega
            clear hdig
            go_wp2
            refine bodyPost_ret (v := .tuple #[.agg #[.int .i64 0, .int .i64 0, .int .i64 0, .string ByteArray.empty], .int .i64 40]) (by simp [results, Tryz.results47, go_sem, r0, r1, r2, r3]; rfl) rfl ?_
            exact ⟨by rw [HE.out]; rfl, bel4 hbw⟩
    · have hstop : Sem.scan (s.data.toList.drop i) k t = some (t, s.data.toList.drop i) := by
        by_cases hlt : i < s.size
        · have h45 : s[i]'hlt = 45 := UInt8.toNat_inj.1 (Classical.not_not.1 (fun h => hgo ⟨hlt, h⟩))
          rw [scan_step hlt, if_pos h45]
        · rw [List.drop_eq_nil_of_le (by rw [← hz.out]; omega)]; rfl
      have hps := scan_some (HSC.out.trans hstop)
      obtain ⟨ta, tb, tc⟩ := t
      have hta : ta ≤ 9999999 := HT.out 0
      have htb : tb ≤ 9999999 := HT.out 1
      have htc : tc ≤ 9999999 := HT.out 2
      have hgl : w.heap.size + 1 < wr.heap.size := (hown.lt (w.heap.size + 1) rfl).2
      have hgl2 : w.heap.size < wr.heap.size := by omega
      have c0 : wr.cell? ⟨w.heap.size + 1, 0, none⟩ = some (.int .i64 ta) := by have := hown.cellAt 0 (by omega); exact this
      have c1 : wr.cell? ⟨w.heap.size + 1, 1, none⟩ = some (.int .i64 tb) := by have := hown.cellAt 1 (by omega); exact this
      have c2 : wr.cell? ⟨w.heap.size + 1, 2, none⟩ = some (.int .i64 tc) := by have := hown.cellAt 2 (by omega); exact this
      by_cases hlt : i < s.size
      · have h45 : (s[i]'hlt).toNat = 45 := Classical.not_not.1 (fun h => hgo ⟨hlt, h⟩)
        have hd45 : (((s[i]'hlt).toNat : Int) != 45) = false := by rw [bne_eq_false_iff_eq]; omega
        obtain ⟨pre, hpre⟩ : ∃ pre, pre = (s.data.toList.drop i).tail := ⟨_, rfl⟩
        have hpre2 : s.data.toList.drop (i + 1) = pre := by rw [hpre, List.tail_drop]
        have hpl : pre.length ≤ 60 := by rw [← hpre2, List.length_drop, ← hz.out]; omega
        have hsl : ∀ W : World, (Instr.slice 9 (.string s) (some (.int .i64 ((i : Int) + 1))) none none).run Tryz.prog W = .ok (.string ⟨pre.toArray⟩) W := fun W => by
          have := slice_from s (i + 1) (by omega) W
          rw [hpre2] at this
          exact this
        rw [← hpre] at hps
        have HPS := Lib.hid hps
        clear hps hpre hpre2 hstop hgo h45 hown HT HSC
        go_wp2_with fail
        go_region
        go_wp2_with fail
        generalize hX : (wr.alloc (Obj.cells #[Value.int IntKind.i64 (ta : Int), Value.int IntKind.i64 (tb : Int), Value.int IntKind.i64 (tc : Int), Value.string ⟨pre.toArray⟩] 70)).drew = X
        have hbo := (below_one wr (Obj.cells #[Value.int IntKind.i64 (ta : Int), Value.int IntKind.i64 (tb : Int), Value.int IntKind.i64 (tc : Int), Value.string ⟨pre.toArray⟩] 70)).drew
        have hV : VerAt X wr.heap.size ⟨ta, tb, tc, pre⟩ := by rw [← hX]; exact ver_new wr ⟨ta, tb, tc, pre⟩
        rw [hX] at hbo
        have hRX : VerAt X w.heap.size ⟨0, 0, 0, []⟩ := VerAt.next ⟨hgl2, r0, r1, r2, r3⟩ hbo
        have hbX := below_next hbw hbo
        have F0 := (cell_of_below (o := 0) hbo hgl2).2.trans f0
        have F1 := (cell_of_below (o := 1) hbo hgl2).2.trans f1
        have F2 := (cell_of_below (o := 2) hbo hgl2).2.trans f2
        have F3 := (cell_of_below (o := 3) hbo hgl2).2.trans f3
        have hgX : w.heap.size < X.heap.size := hRX.1
        clear hX hbo r0 r1 r2 r3 f0 f1 f2 f3 c0 c1 c2 hb hwz
        cases hm : Sem.may ⟨ta, tb, tc, pre⟩
        · have HE : Hid (Sem.parse s.data.toList = none) := Lib.hid (by rw [HPS.out, hm, if_neg (by simp)])
          have HSH : Hid (showR ⟨ta, tb, tc, pre⟩ = .tuple #[.string ByteArray.empty, .int .i64 40]) := Lib.hid (by rw [showR, hm, if_neg (by simp)])
          clear hm
          refine (rshow_walk ⟨ta, tb, tc, pre⟩ (by simp only; omega) _).mono ?_
          rintro e w2 ⟨he, hb2⟩
          rw [HSH.out] at he
          subst he
          obtain ⟨_, r0, r1, r2, r3⟩ := hRX.next hb2
          have f0 := (cell_of_below (o := 0) hb2 hgX).2.trans F0
          have f1 := (cell_of_below (o := 1) hb2 hgX).2.trans F1
          have f2 := (cell_of_below (o := 2) hb2 hgX).2.trans F2
          have f3 := (cell_of_below (o := 3) hb2 hgX).2.trans F3
          have hbw2 := below_next hbX hb2
          clear F0 F1 F2 F3 hV hRX hb2
          go_wp2
          refine bodyPost_ret (v := .tuple #[.agg #[.int .i64 0, .int .i64 0, .int .i64 0, .string ByteArray.empty], .int .i64 40]) (by simp [results, Tryz.results47, go_sem, r0, r1, r2, r3]; rfl) rfl ?_
          exact ⟨by rw [HE.out]; rfl, bel4 hbw2⟩
        · have HSH : Hid (showR ⟨ta, tb, tc, pre⟩ = .tuple #[.string ⟨(Sem.text ⟨ta, tb, tc, pre⟩).toArray⟩, .int .i64 0]) := Lib.hid (by rw [showR, hm, if_pos rfl])
          obtain ⟨x, hx⟩ : ∃ x, x = Sem.text ⟨ta, tb, tc, pre⟩ := ⟨_, rfl⟩
          rw [hm, ← hx] at HPS
          rw [← hx] at HSH
          clear hm hx
          cases hts : x == s.toList
          · have HE : Hid (Sem.parse s.data.toList = none) := Lib.hid (by
              rw [HPS.out, if_neg]; rintro ⟨_, h⟩; rw [tx_list, beq_eq_false_iff_ne] at hts; exact hts h)
            refine (rshow_walk ⟨ta, tb, tc, pre⟩ (by simp only; omega) _).mono ?_
            rintro e w2 ⟨he, hb2⟩
            rw [HSH.out] at he
            subst he
            obtain ⟨_, r0, r1, r2, r3⟩ := hRX.next hb2
            have f0 := (cell_of_below (o := 0) hb2 hgX).2.trans F0
            have f1 := (cell_of_below (o := 1) hb2 hgX).2.trans F1
            have f2 := (cell_of_below (o := 2) hb2 hgX).2.trans F2
            have f3 := (cell_of_below (o := 3) hb2 hgX).2.trans F3
            have hbw2 := below_next hbX hb2
            clear F0 F1 F2 F3 hV hRX hb2
            go_wp2
            refine bodyPost_ret (v := .tuple #[.agg #[.int .i64 0, .int .i64 0, .int .i64 0, .string ByteArray.empty], .int .i64 40]) (by simp [results, Tryz.results47, go_sem, r0, r1, r2, r3]; rfl) rfl ?_
            exact ⟨by rw [HE.out]; rfl, bel4 hbw2⟩
          · have HE : Hid (Sem.parse s.data.toList = some ⟨ta, tb, tc, pre⟩) := Lib.hid (by
              have hxe : x = s.data.toList := by
                rw [tx_list, beq_iff_eq] at hts
                exact hts
              rw [HPS.out, if_pos ⟨rfl, hxe⟩])
            refine (rshow_walk ⟨ta, tb, tc, pre⟩ (by simp only; omega) _).mono ?_
            rintro e w2 ⟨he, hb2⟩
            rw [HSH.out] at he
            subst he
            obtain ⟨_, r0, r1, r2, r3⟩ := hRX.next hb2
            obtain ⟨_, v0, v1, v2, v3⟩ := hV.next hb2
            have f0 := (cell_of_below (o := 0) hb2 hgX).2.trans F0
            have f1 := (cell_of_below (o := 1) hb2 hgX).2.trans F1
            have f2 := (cell_of_below (o := 2) hb2 hgX).2.trans F2
            have f3 := (cell_of_below (o := 3) hb2 hgX).2.trans F3
            have hbw2 := below_next hbX hb2
            clear F0 F1 F2 F3 hV hRX hb2
            go_wp2
            refine bodyPost_ret (v := .tuple #[.agg #[.int .i64 ta, .int .i64 tb, .int .i64 tc, .string ⟨pre.toArray⟩], .int .i64 0]) (by simp [results, Tryz.results47, go_sem, r0, r1, r2, r3]) rfl ?_
            exact ⟨by rw [HE.out]; rfl, bel4 hbw2⟩
      · have hae : s.data.toList.drop i = [] := List.drop_eq_nil_of_le (by rw [← hz.out]; omega)
        rw [hae, List.tail_nil] at hps
        have HPS := Lib.hid hps
        clear hps hstop hgo hown HT HSC hae
        go_wp2_with fail
        go_region
        go_wp2_with fail
        generalize hX : (wr.alloc (Obj.cells #[Value.int IntKind.i64 (ta : Int), Value.int IntKind.i64 (tb : Int), Value.int IntKind.i64 (tc : Int), Value.string ⟨#[]⟩] 70)).drew = X
        have hbo := (below_one wr (Obj.cells #[Value.int IntKind.i64 (ta : Int), Value.int IntKind.i64 (tb : Int), Value.int IntKind.i64 (tc : Int), Value.string ⟨#[]⟩] 70)).drew
        have hV : VerAt X wr.heap.size ⟨ta, tb, tc, []⟩ := by rw [← hX]; exact ver_new wr ⟨ta, tb, tc, []⟩
        rw [hX] at hbo
        have hRX : VerAt X w.heap.size ⟨0, 0, 0, []⟩ := VerAt.next ⟨hgl2, r0, r1, r2, r3⟩ hbo
        have hbX := below_next hbw hbo
        have F0 := (cell_of_below (o := 0) hbo hgl2).2.trans f0
        have F1 := (cell_of_below (o := 1) hbo hgl2).2.trans f1
        have F2 := (cell_of_below (o := 2) hbo hgl2).2.trans f2
        have F3 := (cell_of_below (o := 3) hbo hgl2).2.trans f3
        have hgX : w.heap.size < X.heap.size := hRX.1
        clear hX hbo r0 r1 r2 r3 f0 f1 f2 f3 c0 c1 c2 hb hwz
        cases hm : Sem.may ⟨ta, tb, tc, []⟩
        · have HE : Hid (Sem.parse s.data.toList = none) := Lib.hid (by rw [HPS.out, hm, if_neg (by simp)])
          have HSH : Hid (showR ⟨ta, tb, tc, []⟩ = .tuple #[.string ByteArray.empty, .int .i64 40]) := Lib.hid (by rw [showR, hm, if_neg (by simp)])
          clear hm
          refine (rshow_walk ⟨ta, tb, tc, []⟩ (by simp only; decide) _).mono ?_
          rintro e w2 ⟨he, hb2⟩
          rw [HSH.out] at he
          subst he
          obtain ⟨_, r0, r1, r2, r3⟩ := hRX.next hb2
          have f0 := (cell_of_below (o := 0) hb2 hgX).2.trans F0
          have f1 := (cell_of_below (o := 1) hb2 hgX).2.trans F1
          have f2 := (cell_of_below (o := 2) hb2 hgX).2.trans F2
          have f3 := (cell_of_below (o := 3) hb2 hgX).2.trans F3
          have hbw2 := below_next hbX hb2
          clear F0 F1 F2 F3 hV hRX hb2
          go_wp2
          refine bodyPost_ret (v := .tuple #[.agg #[.int .i64 0, .int .i64 0, .int .i64 0, .string ByteArray.empty], .int .i64 40]) (by simp [results, Tryz.results47, go_sem, r0, r1, r2, r3]; rfl) rfl ?_
          exact ⟨by rw [HE.out]; rfl, bel4 hbw2⟩
        · have HSH : Hid (showR ⟨ta, tb, tc, []⟩ = .tuple #[.string ⟨(Sem.text ⟨ta, tb, tc, []⟩).toArray⟩, .int .i64 0]) := Lib.hid (by rw [showR, hm, if_pos rfl])
          obtain ⟨x, hx⟩ : ∃ x, x = Sem.text ⟨ta, tb, tc, []⟩ := ⟨_, rfl⟩
          rw [hm, ← hx] at HPS
          rw [← hx] at HSH
          clear hm hx
          cases hts : x == s.toList
          · have HE : Hid (Sem.parse s.data.toList = none) := Lib.hid (by
              rw [HPS.out, if_neg]; rintro ⟨_, h⟩; rw [tx_list, beq_eq_false_iff_ne] at hts; exact hts h)
            refine (rshow_walk ⟨ta, tb, tc, []⟩ (by simp only; decide) _).mono ?_
            rintro e w2 ⟨he, hb2⟩
            rw [HSH.out] at he
            subst he
            obtain ⟨_, r0, r1, r2, r3⟩ := hRX.next hb2
            have f0 := (cell_of_below (o := 0) hb2 hgX).2.trans F0
            have f1 := (cell_of_below (o := 1) hb2 hgX).2.trans F1
            have f2 := (cell_of_below (o := 2) hb2 hgX).2.trans F2
            have f3 := (cell_of_below (o := 3) hb2 hgX).2.trans F3
            have hbw2 := below_next hbX hb2
            clear F0 F1 F2 F3 hV hRX hb2
            go_wp2
            refine bodyPost_ret (v := .tuple #[.agg #[.int .i64 0, .int .i64 0, .int .i64 0, .string ByteArray.empty], .int .i64 40]) (by simp [results, Tryz.results47, go_sem, r0, r1, r2, r3]; rfl) rfl ?_
            exact ⟨by rw [HE.out]; rfl, bel4 hbw2⟩
          · have HE : Hid (Sem.parse s.data.toList = some ⟨ta, tb, tc, []⟩) := Lib.hid (by
              have hxe : x = s.data.toList := by
                rw [tx_list, beq_iff_eq] at hts
                exact hts
              rw [HPS.out, if_pos ⟨rfl, hxe⟩])
            refine (rshow_walk ⟨ta, tb, tc, []⟩ (by simp only; decide) _).mono ?_
            rintro e w2 ⟨he, hb2⟩
            rw [HSH.out] at he
            subst he
            obtain ⟨_, r0, r1, r2, r3⟩ := hRX.next hb2
            obtain ⟨_, v0, v1, v2, v3⟩ := hV.next hb2
            have f0 := (cell_of_below (o := 0) hb2 hgX).2.trans F0
            have f1 := (cell_of_below (o := 1) hb2 hgX).2.trans F1
            have f2 := (cell_of_below (o := 2) hb2 hgX).2.trans F2
            have f3 := (cell_of_below (o := 3) hb2 hgX).2.trans F3
            have hbw2 := below_next hbX hb2
            clear F0 F1 F2 F3 hV hRX hb2
            go_wp2
            refine bodyPost_ret (v := .tuple #[.agg #[.int .i64 ta, .int .i64 tb, .int .i64 tc, .string ⟨#[]⟩], .int .i64 0]) (by simp [results, Tryz.results47, go_sem, r0, r1, r2, r3]) rfl ?_
            exact ⟨by rw [HE.out]; rfl, bel4 hbw2⟩

/-- Parse, of whatever text. -/
theorem rparse_walk (s : ByteArray) (hs : s.size ≤ 9223372036854775807) (w : World) :
    Calls Tryz.prog 47 #[.string s] w fun e w' => e = .returned (parseR (Sem.parse s.data.toList)) ∧ Below w.heap.size w w' := by
  by_cases h : 60 < s.size
  · exact rparse_long s h hs w
  · exact rparse_in s (by omega) w
end Go.Proofs.YtebphmkefpaeaaaGreatDoor
