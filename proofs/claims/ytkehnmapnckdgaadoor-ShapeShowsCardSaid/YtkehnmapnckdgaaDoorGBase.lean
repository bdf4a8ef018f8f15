/- Base, Text, SemSmall, Strs, SemParts, Append, together. -/
import Derived.Test.YtkehnmapnckdgaaDoorRows
import Derived.WalkKit
import Derived.Below
import Derived.Lib.Hide
import Derived.Lib.Strings
import Derived.Lib.Builder
import Derived.Deep.QuietTactic
import Derived.BigQuiet
import Derived.Test.YtkehnmapnckdgaaDoorGPure
import Derived.Laws.Cover1
import Derived.SliceStrings
import Derived.SizedLaws
import Derived.OpenShut
import Derived.Deep.AppendLies
import Derived.StillTailTactics
import Derived.IntWalk
import Derived.Laws.OwnMore
/- Small lemmas that every walk uses: worlds that only grow, pieces of texts, a Builder behind a call. -/
namespace Go.Proofs.YtkehnmapnckdgaaDoor
open Go.RowKit

theorem below_drewN {B : Nat} {a w : World} (h : Below B a w) (n : Nat) : Below B a (w.drewN n) := ⟨h.os, h.tape, h.output, h.size, h.block⟩

theorem slice_mid (s : ByteArray) (p : Nat) (q : Int) (h1 : (p : Int) ≤ q) (h2 : q ≤ s.size) (W : World) :
    (Instr.slice 9 (.string s) (some (.int .i64 p)) (some (.int .i64 q)) none).run Tryd.prog W = .ok (.string ⟨((s.data.toList.drop p).take (q.toNat - p)).toArray⟩) W := by
  rw [run_slice_string (P := Tryd.prog) W 9 s .i64 .i64 p q Tryd.underlying9 (by omega) h1 h2]
  have := ByteArray.extract_mk s.data.toList p q.toNat
  rw [Int.toNat_natCast]
  exact congrArg (fun b => Result.ok (Value.string b) W) this

theorem slice_from (s : ByteArray) (p : Nat) (h : p ≤ s.size) (W : World) :
    (Instr.slice 9 (.string s) (some (.int .i64 p)) none none).run Tryd.prog W = .ok (.string ⟨(s.data.toList.drop p).toArray⟩) W := by
  rw [run_slice_string_from_if (P := Tryd.prog) W 9 s .i64 p Tryd.underlying9, if_pos ⟨by omega, by omega⟩]
  have := ByteArray.extract_mk s.data.toList p s.size
  rw [Int.toNat_natCast]
  refine congrArg (fun b => Result.ok (Value.string b) W) (this.trans ?_)
  rw [List.take_of_length_le (by rw [List.length_drop, ← Lib.size_eq]; omega)]

theorem slice_to (s : ByteArray) (q : Int) (h0 : 0 ≤ q) (h : q ≤ s.size) (W : World) :
    (Instr.slice 9 (.string s) none (some (.int .i64 q)) none).run Tryd.prog W = .ok (.string ⟨(s.data.toList.take q.toNat).toArray⟩) W := by
  rw [run_slice_string_to_if (P := Tryd.prog) W 9 s .i64 q Tryd.underlying9, if_pos ⟨by omega, by omega⟩]
  have := ByteArray.extract_mk s.data.toList 0 q.toNat
  exact congrArg (fun b => Result.ok (Value.string b) W) this

theorem size_list (l : List UInt8) : (⟨l.toArray⟩ : ByteArray).size = l.length := by simp [ByteArray.size]

/-- What the document's TakeNumber looks at: the rest of the text from a place on. -/
theorem rest_of (s : ByteArray) (p : Nat) (hp : p < s.size) : ∃ r : ByteArray, (∀ W : World, (Instr.slice 9 (.string s) (some (.int .i64 p)) none none).run Tryd.prog W = .ok (.string r) W) ∧
    r.data.toList = s.data.toList.drop p ∧ r.size + p = s.size ∧ 0 < r.size ∧ r.toList.isEmpty = false ∧ ∀ (i : Nat) (h : i < r.size) (h' : p + i < s.size), r[i]'h = s[p + i]'h' := by
  refine ⟨⟨(s.data.toList.drop p).toArray⟩, fun W => slice_from s p (by omega) W, rfl, ?_, ?_, ?_, ?_⟩
  · rw [size_list, List.length_drop, ← Lib.size_eq]; omega
  · rw [size_list, List.length_drop, ← Lib.size_eq]; omega
  · rw [ByteArray.toList_mk, List.isEmpty_eq_false_iff]
    intro h
    have := congrArg List.length h
    rw [List.length_drop, ← Lib.size_eq] at this
    simp at this
    omega
  · intro i h h'
    show (s.data.toList.drop p).toArray[i] = s.data[p + i]
    simp

theorem grown_of_below {B : Nat} {w w' : World} (h : Below B w w') (hB : w.heap.size ≤ B) (row : Option Nat) : w.grownBy w' row :=
  ⟨h.os, h.tape, h.output, h.size, fun i hi _ => h.block i (Nat.lt_of_lt_of_le hi hB)⟩

theorem builder_at_below {T e : TypeId} {B b : Nat} {p : Value} {bs : List Value} {w w' : World} (h : Lib.BuilderAt T e B b p bs w) (hb : Below w.heap.size w w') : Lib.BuilderAt T e B b p bs w' := by
  have hlt := h.lt
  obtain ⟨hB, v, hbk, hown, hne⟩ := h
  exact ⟨hB, v, (hb.block b hlt).trans hbk, hown.kept (grown_of_below hb (Nat.le_refl _) none) (by
    rcases h : v.ownBlock with _ | x
    · exact Or.inl rfl
    · exact Or.inr (by simp)), hne⟩

theorem builder_below {T e : TypeId} {B b : Nat} {bs : List Value} {w w' : World} (h : Lib.IsBuilder T e B b bs w) (hb : Below w.heap.size w w') : Lib.IsBuilder T e B b bs w' := by
  rcases h with h | h
  · exact Or.inl (builder_at_below h hb)
  · exact Or.inr (builder_at_below h hb)
theorem below_next {w W w' : World} (h : Below w.heap.size w W) (hb : Below W.heap.size W w') : Below w.heap.size w w' := h.trans (hb.mono h.size)
theorem below_new {w W : World} (h : Below w.heap.size w W) (o : Obj) : Below w.heap.size w (W.alloc o) := h.alloc h.size o
theorem below_one (w : World) (o : Obj) : Below w.heap.size w (w.alloc o) := (Below.refl _ _).alloc (Nat.le_refl _) _
theorem cell_of_below {W w : World} {b o : Nat} (hb : Below W.heap.size W w) (h : b < W.heap.size) : w.cell? ⟨b, o, none⟩ = W.cell? ⟨b, o, none⟩ ∧ w.frozen? ⟨b, o, none⟩ = W.frozen? ⟨b, o, none⟩ :=
  ⟨hb.cell (p := ⟨b, o, none⟩) h, hb.frozen (p := ⟨b, o, none⟩) h⟩
theorem flip {P : Program} {f : FuncId} {args : Array Value} {w : World} {v : Value} (h : Calls P f args w fun e w' => e = .returned v ∧ w = w') : Calls P f args w fun e w' => e = .returned v ∧ w' = w :=
  h.mono fun _ _ ⟨he, hw⟩ => ⟨he, hw.symm⟩
end Go.Proofs.YtkehnmapnckdgaaDoor

/- Texts as lists of bytes: one behind the other, cut, as results. -/
namespace Go.Proofs.YtkehnmapnckdgaaDoor
open Go.RowKit

theorem tx_append (a b : List UInt8) : (⟨a.toArray⟩ : ByteArray) ++ ⟨b.toArray⟩ = ⟨(a ++ b).toArray⟩ := by
  apply ByteArray.ext
  simp [ByteArray.data_append]

theorem tx_data (a b : ByteArray) : (a ++ b).data.toList = a.data.toList ++ b.data.toList := by
  simp [ByteArray.data_append]

theorem tx_of (s : ByteArray) : s = ⟨s.data.toList.toArray⟩ := by
  apply ByteArray.ext
  simp

theorem tx_list (s : ByteArray) : s.toList = s.data.toList := by
  conv => lhs; rw [tx_of s]
  rw [ByteArray.toList_mk]

theorem tx_ret {a b : List UInt8} (h : a = b) : Ending.returned (.string ⟨a.toArray⟩) = .returned (.string ⟨b.toArray⟩) := by rw [h]

theorem tx_get (s : ByteArray) (i : Nat) (h : i < s.size) (h' : i < s.data.toList.length) : s[i]'h = s.data.toList[i]'h' := rfl
end Go.Proofs.YtkehnmapnckdgaaDoor

/- The document's small functions of layer 4: order, texts, nonzero, digits, part, Digits. -/
namespace Go.Proofs.YtkehnmapnckdgaaDoor
open Go.RowKit
set_option linter.unusedVariables false

def ord (a b : Int) : Int := if a < b then -1 else if b < a then 1 else 0


theorem less_eq : ∀ (x y : List UInt8), Op.bytesLess x y = decide (x < y)
  | x, [] => by simp [Op.bytesLess]
  | [], _ :: _ => by simp [Op.bytesLess]
  | a :: x, b :: y => by
    rw [Op.bytesLess, less_eq x y, Bool.eq_iff_iff]
    simp [List.cons_lt_cons_iff]


/-- 0 of two empty texts. -/
def nz (a b : List UInt8) : Int := if a = [] ∧ b = [] then 0 else 1


/-- The first k bytes are digits. -/
theorem all_dig_next {s : ByteArray} {k : Nat} (h : k < s.size) : (s.data.toList.take (k + 1)).all Sem.dig = ((s.data.toList.take k).all Sem.dig && Sem.dig (s[k]'h)) := by
  rw [List.take_succ_eq_append_getElem (by rw [← Lib.size_eq]; exact h), List.all_append]
  simp
  rfl

end Go.Proofs.YtkehnmapnckdgaaDoor

/- Slices of texts (and arrays of two) as lists of texts: that came in, or that the call made. -/
namespace Go.Proofs.YtkehnmapnckdgaaDoor
open Go.RowKit

/-- The cells of a slice of texts, in blocks below B. -/
def Strs (w : World) (B : Nat) (A : Option Addr) (ss : List ByteArray) : Prop :=
  ss.length = 0 ∨ ∃ b off, A = some ⟨b, off, none⟩ ∧ b < B ∧ ∀ i (h : i < ss.length), w.cell? ⟨b, off + i, none⟩ = some (.string (ss[i]'h))

theorem Strs.keep {w w' : World} {B B' : Nat} {A : Option Addr} {ss : List ByteArray} (h : Strs w B A ss) (hb : Below B' w w') (hB : B ≤ B') : Strs w' B A ss := by
  rcases h with h | ⟨b, off, hA, hlt, hc⟩
  · exact Or.inl h
  · exact Or.inr ⟨b, off, hA, hlt, fun i hi => (hb.cell (p := ⟨b, off + i, none⟩) (Nat.lt_of_lt_of_le hlt hB)).trans (hc i hi)⟩

theorem Strs.more {w : World} {B B' : Nat} {A : Option Addr} {ss : List ByteArray} (h : Strs w B A ss) (hB : B ≤ B') : Strs w B' A ss := by
  rcases h with h | ⟨b, off, hA, hlt, hc⟩
  · exact Or.inl h
  · exact Or.inr ⟨b, off, hA, Nat.lt_of_lt_of_le hlt hB, hc⟩

theorem Strs.next {w w' : World} {A : Option Addr} {ss : List ByteArray} (h : Strs w w.heap.size A ss) (hb : Below w.heap.size w w') : Strs w' w'.heap.size A ss :=
  (h.keep hb (Nat.le_refl _)).more hb.size

theorem strs_of_own {w : World} {B n : Nat} {v : Value} {ss : List ByteArray} (h : w.ownsRow B 9 1 v n (ss.map Value.string)) : ∃ A cap, v = .slice A ss.length cap ∧ Strs w w.heap.size A ss := by
  have hlen := h.1
  rw [List.length_map, Nat.mul_one] at hlen
  subst hlen
  rcases h.2 with ⟨rfl, h0⟩ | ⟨g, cap, cur, rfl, hB, hh, _⟩
  · exact ⟨none, 0, by rw [h0], Or.inl h0⟩
  · refine ⟨_, _, rfl, Or.inr ⟨g, 0, rfl, ?_, fun i hi => ?_⟩⟩
    · exact (h.lt g rfl).2
    · rw [Nat.zero_add, h.cellAt i (by omega)]
      simp [hi]

theorem strs_drew {w : World} {A : Option Addr} {ss : List ByteArray} (h : Strs w w.heap.size A ss) : Strs w.drew w.drew.heap.size A ss := h

theorem lt_of_cell {w : World} {b o : Nat} {v : Value} (h : w.cell? ⟨b, o, none⟩ = some v) : b < w.heap.size := by
  rcases Nat.lt_or_ge b w.heap.size with h' | h'
  · exact h'
  · simp [World.cell?, Array.getElem?_eq_none h'] at h

theorem strs_of_cells {w : World} {a : Addr} {ss : List ByteArray} {len : Nat} (hc : ∀ i, i < ss.length → w.cell? (a.add i) = some (.string (ss.getD i ByteArray.empty))) : Strs w w.heap.size (some a) (ss.take len) := by
  by_cases h0 : (ss.take len).length = 0
  · exact Or.inl h0
  · have hpos : 0 < ss.length := by rw [List.length_take] at h0; omega
    obtain ⟨b, off, spot⟩ := a
    have h1 := hc 0 hpos
    have hspot : spot = none := by simpa [Addr.add] using World.cell?_spot h1
    subst hspot
    refine Or.inr ⟨b, off, rfl, lt_of_cell (o := off) (by simpa [Addr.add] using h1), fun i hi => ?_⟩
    rw [List.length_take] at hi
    have hplain : (⟨b, off, none⟩ : Addr).add i = ⟨b, off + i, none⟩ := by unfold Addr.add; split <;> simp_all
    rw [← hplain, hc i (by omega), List.getElem_take]
    simp [List.getD, List.getElem?_eq_getElem (show i < ss.length by omega)]

theorem strs_open {H : Type} {enc : TypeId × Value → H} {W : World} {base : Nat} {held : Bool} {A : Option Addr} {n c : Nat} {d : DataW H} {p : List MemPlace}
    (h : DataW.Trod enc Tryd.prog W base (fun _ => true) held 22 (.slice A n c) d p) :
    ∃ ss : List ByteArray, n = ss.length ∧ Strs W W.heap.size A ss ∧ ss.length ≤ 9223372036854775807 ∧ ∀ x ∈ ss, x.size ≤ 9223372036854775807 := by
  obtain ⟨fuel, hf⟩ := h
  rcases Go.ChangeShapes.open_strings Tryd.underlying22 Tryd.underlying9 (by kernel_rfl) hf with ⟨hcs, _⟩ | ⟨a, len, cap, ss, hcs, _, hl, hm, hz, _, hcell, hws⟩
  · simp [Value.cells] at hcs
    obtain ⟨rfl, rfl, rfl⟩ := hcs
    exact ⟨[], rfl, Or.inl rfl, by simp, by simp⟩
  · simp [Value.cells] at hcs
    obtain ⟨rfl, rfl, rfl⟩ := hcs
    have hz' : ss.length = c := by simpa using hz
    unfold maxLen at hm
    refine ⟨ss.take n, by rw [List.length_take]; omega, strs_of_cells hcell, by rw [List.length_take]; omega, fun x hx => ?_⟩
    have := hws x (List.mem_of_mem_take hx)
    unfold maxLen at this
    exact this

end Go.Proofs.YtkehnmapnckdgaaDoor

/- The document's Parts: a text at its dots. -/
namespace Go.Proofs.YtkehnmapnckdgaaDoor
open Go.RowKit
set_option linter.unusedVariables false

/-- Texts as strings. -/
def strs (l : List (List UInt8)) : List ByteArray := l.map fun p => ⟨p.toArray⟩

theorem piece_one (s : ByteArray) (k : Nat) (h : k < s.size) (W : World) :
    (Instr.slice 9 (.string s) (some (.int .i64 k)) (some (.int .i64 (k + 1))) none).run Tryd.prog W = .ok (.string ⟨[s[k]'h].toArray⟩) W := by
  have := slice_mid s k (k + 1) (by omega) (by omega) W
  rw [this, show ((k : Int) + 1).toNat - k = 1 from by omega]
  have hk : k < s.data.toList.length := by rw [← Lib.size_eq]; exact h
  have e : (s.data.toList.drop k).take 1 = [s[k]'h] := by
    rw [List.drop_eq_getElem_cons hk]; rfl
  rw [e]

end Go.Proofs.YtkehnmapnckdgaaDoor

/- append onto a row that the call owns, of a slice that may be nil. -/
namespace Go.Proofs.YtkehnmapnckdgaaDoor
open Go.RowKit
set_option linter.unusedVariables false

theorem wpList_append_any {P : Program} (w : World) {ops : Array Oper} {rest : List Oper} {o : Oper} {a : Act} {Q : Exit → Act → World → Prop} (hgd : Region.wanted o (yielded ops a.tmps) = true) (s x : Operand) (t : TypeId)
    (ho : o.op = .call { callee := .builtin .append, args := #[s, x], argTypes := #[t, t] })
    (base : Nat) (e : TypeId) (i : TypeInfo) (z : Value) (size bytes : Nat) (ht : P.underlying t = some (.slice e)) (hi : P.info? e = some i) (hz : i.zero = some z)
    (hsize : i.size = size) (hby : i.bytes = bytes) (hzs : z.cells.size = size) (hsz : 0 < size)
    (v : Value) (n : Nat) (xs : List Value) (hs : a.eval s = v) (hown : w.ownsRow base e size v n xs)
    (A : Option Addr) (m c : Nat) (news : List Value) (hx : a.eval x = .slice A m c) (hA : A = none → m = 0 ∧ c = 0) (hl : news.length = m * size)
    (hnews : ∀ ad, A = some ad → ∀ j u, news[j]? = some u → w.cell? (ad.add j) = some u) (h1 : ∀ u ∈ news, u.oneCell' = true)
    (h63 : n + m ≤ maxLen) (hbytes : (n + m) * bytes ≤ 140737488355328) (hbase : base ≤ w.heap.size)
    (h : ∀ v' w', w'.ownsRow base e size v' (n + m) (xs ++ news) → Below base w w' → wpList P ops Q rest (a.put o.dst v') w') : wpList P ops Q (o :: rest) a w := by
  refine wpList_step fun K hK => ?_
  rw [if_pos hgd]
  match A, hA, hnews, hx with
  | some ad, _, hnews, hx =>
    exact wp_append_own w s x t ho base e i z size bytes ht hi hz hsize hby hzs hsz v n xs hs hown ad m c news hx hl (hnews ad rfl) h1 h63 hbytes hbase
      fun v' w' h2 h3 _ => hK _ _ (h v' w' h2 ((Below.refl _ _).grown h3 hbase (fun k hk => (hown.lt k hk).1)))
  | none, hA, _, hx =>
    obtain ⟨rfl, rfl⟩ := hA rfl
    obtain rfl : news = [] := List.eq_nil_of_length_eq_zero (by rw [hl, Nat.zero_mul])
    have hr := run_append_owned_none (P := P) (w := w) base t o.type e i size ht hi v n xs hown
    unfold Oper.wp execOp
    simp only [ho, resolve, invoke, builtin, Sem.run_bind, Sem.run_pure, Result.andThen_ok, List.map_toArray, List.map_cons, List.map_nil, hs, hx, hr]
    exact hK _ _ (h v w (by rw [List.append_nil]; exact hown) (Below.refl _ _))
end Go.Proofs.YtkehnmapnckdgaaDoor
