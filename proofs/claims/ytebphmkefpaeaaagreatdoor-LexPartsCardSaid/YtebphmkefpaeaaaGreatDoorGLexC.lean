/- ShelfLex, LexO9, LexO10, LexO11, LexO12, LexO13, LexO14, LexO15, LexO16, LexO17, together. -/
import Derived.Shelf.Strings.Builder1
import Derived.Test.YtebphmkefpaeaaaGreatDoorProg
import Derived.Test.YtebphmkefpaeaaaGreatDoorGLexB
import Derived.Shelf.Small.Strs
import Derived.Test.YtebphmkefpaeaaaGreatDoorGLexA
import Derived.Test.YtebphmkefpaeaaaGreatDoorGPure
import Derived.WalkMore
/- The library contracts of strings.Builder that layer 6 uses (WriteString, String, Len), stated at this translation's numbers. -/
namespace Go.Proofs
open Go.Shelf
def Tryz.lays240_ren : Go.Shelf.Ren := ⟨fun | 240 => 51 | 276 => 62 | n => n, fun | 0 => 0 | 4 => 4 | 9 => 9 | 20 => 20 | 70 => 52 | 72 => 55 | 164 => 81 | 37 => 53 | n => n, fun | n => n⟩
theorem Tryz.lays240 : Go.Proofs.Lays.n240 Tryz.prog Tryz.lays240_ren := {
  mixed := by kernel_rfl
  f240 := Tryz.func51.trans (congrArg some (by kernel_rfl))
  f276 := Tryz.func62.trans (congrArg some (by kernel_rfl))
  t0 := Tryz.underlying0
  a0 := Tryz.isAgg0
  z0 := Tryz.sizeOf0
  v0 := Tryz.zeroValue0
  t4 := Tryz.underlying4
  a4 := Tryz.isAgg4
  z4 := Tryz.sizeOf4
  v4 := Tryz.zeroValue4
  t9 := Tryz.underlying9
  a9 := Tryz.isAgg9
  z9 := Tryz.sizeOf9
  v9 := Tryz.zeroValue9
  t20 := Tryz.underlying20
  a20 := Tryz.isAgg20
  z20 := Tryz.sizeOf20
  v20 := Tryz.zeroValue20
  t70 := Tryz.underlying52
  a70 := Tryz.isAgg52
  z70 := Tryz.sizeOf52
  v70 := Tryz.zeroValue52
  t72 := Tryz.underlying55
  a72 := Tryz.isAgg55
  z72 := Tryz.sizeOf55
  v72 := Tryz.zeroValue55
  t164 := Tryz.underlying81
  a164 := Tryz.isAgg81
  z164 := Tryz.sizeOf81
  v164 := Tryz.zeroValue81 }
theorem Tryz.x240 : Builder.X72 Tryz.prog Tryz.lays240_ren := {
  sizeBuilder := by kernel_rfl
  liesBuilder := by kernel_rfl }
def Tryz.lays166_ren : Go.Shelf.Ren := ⟨fun | 166 => 37 | 240 => 51 | 276 => 62 | n => n, fun | 0 => 0 | 3 => 3 | 4 => 4 | 9 => 9 | 20 => 20 | 37 => 53 | 70 => 52 | 72 => 55 | 75 => 60 | 164 => 81 | 5 => 5 | 80 => 63 | n => n, fun | n => n⟩
theorem Tryz.lays166 : Go.Proofs.Lays.n166 Tryz.prog Tryz.lays166_ren := {
  mixed := by kernel_rfl
  f166 := Tryz.func37.trans (congrArg some (by kernel_rfl))
  f240 := Tryz.func51.trans (congrArg some (by kernel_rfl))
  f276 := Tryz.func62.trans (congrArg some (by kernel_rfl))
  t0 := Tryz.underlying0
  a0 := Tryz.isAgg0
  z0 := Tryz.sizeOf0
  v0 := Tryz.zeroValue0
  t3 := Tryz.underlying3
  a3 := Tryz.isAgg3
  z3 := Tryz.sizeOf3
  v3 := Tryz.zeroValue3
  t4 := Tryz.underlying4
  a4 := Tryz.isAgg4
  z4 := Tryz.sizeOf4
  v4 := Tryz.zeroValue4
  t9 := Tryz.underlying9
  a9 := Tryz.isAgg9
  z9 := Tryz.sizeOf9
  v9 := Tryz.zeroValue9
  t20 := Tryz.underlying20
  a20 := Tryz.isAgg20
  z20 := Tryz.sizeOf20
  v20 := Tryz.zeroValue20
  t37 := Tryz.underlying53
  a37 := Tryz.isAgg53
  z37 := Tryz.sizeOf53
  v37 := Tryz.zeroValue53
  t70 := Tryz.underlying52
  a70 := Tryz.isAgg52
  z70 := Tryz.sizeOf52
  v70 := Tryz.zeroValue52
  t72 := Tryz.underlying55
  a72 := Tryz.isAgg55
  z72 := Tryz.sizeOf55
  v72 := Tryz.zeroValue55
  t75 := Tryz.underlying60
  a75 := Tryz.isAgg60
  z75 := Tryz.sizeOf60
  v75 := Tryz.zeroValue60
  t164 := Tryz.underlying81
  a164 := Tryz.isAgg81
  z164 := Tryz.sizeOf81
  v164 := Tryz.zeroValue81 }
theorem Tryz.x166 : Builder.Extra Tryz.prog Tryz.lays166_ren := {
  sizeBuilder := by kernel_rfl
  liesBuilder := by kernel_rfl
  t5 := Tryz.underlying5
  a5 := Tryz.isAgg5
  z5 := Tryz.sizeOf5
  v5 := Tryz.zeroValue5
  infoByte := by kernel_rfl
  cellsByte := by kernel_rfl
  sizeByte := by kernel_rfl
  neB5 := by decide }
def Tryz.lays169_ren : Go.Shelf.Ren := ⟨fun | 169 => 38 | n => n, fun | 0 => 0 | 3 => 3 | 9 => 9 | 37 => 53 | 70 => 52 | 72 => 55 | 127 => 74 | 5 => 5 | n => n, fun | n => n⟩
theorem Tryz.lays169 : Go.Proofs.Lays.n169 Tryz.prog Tryz.lays169_ren := {
  mixed := by kernel_rfl
  f169 := Tryz.func38.trans (congrArg some (by kernel_rfl))
  t0 := Tryz.underlying0
  a0 := Tryz.isAgg0
  z0 := Tryz.sizeOf0
  v0 := Tryz.zeroValue0
  t3 := Tryz.underlying3
  a3 := Tryz.isAgg3
  z3 := Tryz.sizeOf3
  v3 := Tryz.zeroValue3
  t9 := Tryz.underlying9
  a9 := Tryz.isAgg9
  z9 := Tryz.sizeOf9
  v9 := Tryz.zeroValue9
  t37 := Tryz.underlying53
  a37 := Tryz.isAgg53
  z37 := Tryz.sizeOf53
  v37 := Tryz.zeroValue53
  t70 := Tryz.underlying52
  a70 := Tryz.isAgg52
  z70 := Tryz.sizeOf52
  v70 := Tryz.zeroValue52
  t72 := Tryz.underlying55
  a72 := Tryz.isAgg55
  z72 := Tryz.sizeOf55
  v72 := Tryz.zeroValue55
  t127 := Tryz.underlying74
  a127 := Tryz.isAgg74
  z127 := Tryz.sizeOf74
  v127 := Tryz.zeroValue74 }
theorem Tryz.x169 : Builder.Extra Tryz.prog Tryz.lays169_ren := {
  sizeBuilder := by kernel_rfl
  liesBuilder := by kernel_rfl
  t5 := Tryz.underlying5
  a5 := Tryz.isAgg5
  z5 := Tryz.sizeOf5
  v5 := Tryz.zeroValue5
  infoByte := by kernel_rfl
  cellsByte := by kernel_rfl
  sizeByte := by kernel_rfl
  neB5 := by decide }
def Tryz.lays170_ren : Go.Shelf.Ren := ⟨fun | 170 => 36 | n => n, fun | 70 => 52 | 3 => 3 | 0 => 0 | 72 => 55 | 37 => 53 | 5 => 5 | n => n, fun | n => n⟩
theorem Tryz.lays170 : Go.Proofs.Lays.n170 Tryz.prog Tryz.lays170_ren := {
  mixed := by kernel_rfl
  f170 := Tryz.func36.trans (congrArg some (by kernel_rfl))
  t0 := Tryz.underlying0
  a0 := Tryz.isAgg0
  z0 := Tryz.sizeOf0
  v0 := Tryz.zeroValue0
  t3 := Tryz.underlying3
  a3 := Tryz.isAgg3
  z3 := Tryz.sizeOf3
  v3 := Tryz.zeroValue3
  t37 := Tryz.underlying53
  a37 := Tryz.isAgg53
  z37 := Tryz.sizeOf53
  v37 := Tryz.zeroValue53
  t70 := Tryz.underlying52
  a70 := Tryz.isAgg52
  z70 := Tryz.sizeOf52
  v70 := Tryz.zeroValue52
  t72 := Tryz.underlying55
  a72 := Tryz.isAgg55
  z72 := Tryz.sizeOf55
  v72 := Tryz.zeroValue55 }
section
open Go.RowKit
/-- WriteString: the builder that the call itself made holds the text besides. -/
theorem Tryz.builder_write (B b : Nat) (bs : List Value) (s : ByteArray) (w : World) (h : Lib.IsBuilder 55 5 B b bs w) (hlen : bs.length + s.size ≤ 140737488355328) (hBw : B ≤ w.heap.size) :
    Calls Tryz.prog 37 #[.pointer (some ⟨b, 0, none⟩), .string s] w fun e w' => e = .returned (.tuple #[.int .i64 s.size, .nilIface]) ∧ (Lib.BuilderAt 55 5 B b (.pointer (some ⟨b, 0, none⟩)) (bs ++ Lib.strCells s) w' ∧ Below B w w') :=
  Any.Builder_WriteString Tryz.lays166 Tryz.x166 B b bs s w h hlen hBw
/-- String: the text of the bytes that the builder holds. -/
theorem Tryz.builder_text (B b : Nat) (l : List UInt8) (w : World) (h : Lib.IsBuilder 55 5 B b (Lib.byteCells l) w) (hBw : B ≤ w.heap.size) :
    Calls Tryz.prog 38 #[.pointer (some ⟨b, 0, none⟩)] w fun e w' => e = .returned (.string ⟨l.toArray⟩) ∧ Below B w w' :=
  Any.Builder_String_any Tryz.lays169 Tryz.x169 B b l w h hBw
/-- Len: how many bytes the builder holds. -/
theorem Tryz.builder_len (B b : Nat) (bs : List Value) (w : World) (h : Lib.IsBuilder 55 5 B b bs w) :
    Calls Tryz.prog 36 #[.pointer (some ⟨b, 0, none⟩)] w fun e w' => e = .returned (.int .i64 bs.length) ∧ w' = w :=
  Any.Builder_Len Tryz.lays170 B b bs w h
end
end Go.Proofs

/- The program's unescape, unquote of layer 6. -/
namespace Go.Proofs
def Tryz.lays137_ren : Go.Shelf.Ren := ⟨fun | 137 => 61 | 217 => 73 | 266 => 84 | n => n, fun | 9 => 9 | 5 => 5 | 3 => 3 | n => n, fun | n => n⟩
theorem Tryz.lays137 : Go.Proofs.Lays.n137 Tryz.prog Tryz.lays137_ren := {
  mixed := by kernel_rfl
  f137 := Tryz.func61.trans (congrArg some (by kernel_rfl))
  f217 := Tryz.func73.trans (congrArg some (by kernel_rfl))
  f266 := Tryz.func84.trans (congrArg some (by kernel_rfl))
  t3 := Tryz.underlying3
  a3 := Tryz.isAgg3
  z3 := Tryz.sizeOf3
  v3 := Tryz.zeroValue3
  t5 := Tryz.underlying5
  a5 := Tryz.isAgg5
  z5 := Tryz.sizeOf5
  v5 := Tryz.zeroValue5
  t9 := Tryz.underlying9
  a9 := Tryz.isAgg9
  z9 := Tryz.sizeOf9
  v9 := Tryz.zeroValue9 }
end Go.Proofs
namespace Go.Proofs.YtebphmkefpaeaaaGreatDoor
open Go.RowKit
set_option linter.unusedVariables false

theorem ix_walk (s : List UInt8) (c : UInt8) (w : World) :
    Calls Tryz.prog 61 #[.string ⟨s.toArray⟩, .int .u8 (c.toNat : Int)] w fun e w' => e = .returned (.int .i64 (Lib.indexByte s c)) ∧ w = w' := by
  have h := Any.strings_IndexByte Tryz.lays137 ⟨s.toArray⟩ (c.toNat : Int) w
  have e : ((c.toNat : Int)).toNat.toUInt8 = c := by simp
  rw [e] at h
  refine h.mono ?_
  rintro e w' ⟨rfl, rfl⟩
  exact ⟨rfl, rfl⟩

/-- What unescape tells. -/
def unescV : List UInt8 → Value
  | [] => .tuple #[.int .u8 0, .bool false]
  | d :: _ => match Lex.unesc d with
    | some x => .tuple #[.int .u8 (x.toNat : Int), .bool true]
    | none => .tuple #[.int .u8 0, .bool false]

theorem unescV_cons (d : UInt8) (q : List UInt8) : unescV (d :: q) = match Lex.unesc d with | some x => .tuple #[.int .u8 (x.toNat : Int), .bool true] | none => .tuple #[.int .u8 0, .bool false] := rfl

theorem letters_ix (d : UInt8) : (Lib.indexByte [110, 116, 34, 92] d = 0 ∧ Lex.unesc d = some 10) ∨ (Lib.indexByte [110, 116, 34, 92] d = 1 ∧ Lex.unesc d = some 9) ∨
    (Lib.indexByte [110, 116, 34, 92] d = 2 ∧ Lex.unesc d = some 34) ∨ (Lib.indexByte [110, 116, 34, 92] d = 3 ∧ Lex.unesc d = some 92) ∨ (Lib.indexByte [110, 116, 34, 92] d = -1 ∧ Lex.unesc d = none) := by
  by_cases h1 : d = 110
  · subst h1; exact Or.inl ⟨by decide, rfl⟩
  by_cases h2 : d = 116
  · subst h2; exact Or.inr (Or.inl ⟨by decide, rfl⟩)
  by_cases h3 : d = 34
  · subst h3; exact Or.inr (Or.inr (Or.inl ⟨by decide, rfl⟩))
  by_cases h4 : d = 92
  · subst h4; exact Or.inr (Or.inr (Or.inr (Or.inl ⟨by decide, rfl⟩)))
  · refine Or.inr (Or.inr (Or.inr (Or.inr ⟨?_, ?_⟩)))
    · have g1 : ((110 : UInt8) == d) = false := beq_eq_false_iff_ne.2 (Ne.symm h1)
      have g2 : ((116 : UInt8) == d) = false := beq_eq_false_iff_ne.2 (Ne.symm h2)
      have g3 : ((34 : UInt8) == d) = false := beq_eq_false_iff_ne.2 (Ne.symm h3)
      have g4 : ((92 : UInt8) == d) = false := beq_eq_false_iff_ne.2 (Ne.symm h4)
      simp [Lib.indexByte, g1, g2, g3, g4]
    · unfold Lex.unesc; rw [if_neg h1, if_neg h2, if_neg h3, if_neg h4]

set_option maxRecDepth 100000 in
set_option maxHeartbeats 2000000 in
theorem unescape_walk (l : List UInt8) (w : World) :
    Calls Tryz.prog 76 #[.string ⟨l.toArray⟩] w fun e w' => e = .returned (unescV l) ∧ w = w' := by
  cases l with
  | nil =>
    have HM : Hid (unescV [] = .tuple #[.int .u8 0, .bool false]) := Lib.hid rfl
    go_enter Tryz.func76, Tryz.ntmps76
    go_wp2
    go_ret2
    exact ⟨by rw [HM.out]; rfl, rfl⟩
  | cons d q =>
    have hM : unescV (d :: q) = match Lex.unesc d with | some x => .tuple #[.int .u8 (x.toNat : Int), .bool true] | none => .tuple #[.int .u8 0, .bool false] := rfl
    obtain ⟨l, hll⟩ : ∃ l : List UInt8, l = d :: q := ⟨_, rfl⟩
    rw [← hll] at hM ⊢
    have hz : (⟨l.toArray⟩ : ByteArray).size = l.length := size_list _
    have he : l.isEmpty = false := by rw [hll]; rfl
    have he2 : (l == []) = false := by rw [hll]; rfl
    have hidx : ∀ W, (Instr.index 9 (.string ⟨l.toArray⟩) (.int .i64 0)).run Tryz.prog W = .ok (.int .u8 d.toNat) W := fun W => by rw [hll]; rfl
    clear hll
    rcases letters_ix d with ⟨h2, h3⟩ | ⟨h2, h3⟩ | ⟨h2, h3⟩ | ⟨h2, h3⟩ | ⟨h2, h3⟩
    all_goals
      rw [h3] at hM
      have HM := Lib.hid hM
      clear hM h3
      go_enter Tryz.func76, Tryz.ntmps76
      go_wp2_with fail
      refine (ix_walk [110, 116, 34, 92] d _).mono ?_
      rintro e w2 ⟨rfl, rfl⟩
      rw [h2]
      clear h2
      go_wp2
      go_ret2
      exact ⟨by rw [HM.out]; rfl, rfl⟩
end Go.Proofs.YtebphmkefpaeaaaGreatDoor

/- The program's unquote of layer 6. -/
namespace Lex
theorem unq_at {r p : List UInt8} {a : Nat} (h : unq r = (p ++ (unq (r.drop a)).1, a + (unq (r.drop a)).2.1, (unq (r.drop a)).2.2)) {b : Nat} {m : List UInt8}
    (h2 : unq (r.drop a) = (m ++ (unq (r.drop (a + b))).1, (unq (r.drop (a + b))).2.1 + b, (unq (r.drop (a + b))).2.2)) :
    unq r = ((p ++ m) ++ (unq (r.drop (a + b))).1, (a + b) + (unq (r.drop (a + b))).2.1, (unq (r.drop (a + b))).2.2) := by
  rw [h, h2]
  simp only [List.append_assoc]
  congr 2
  omega

theorem drop_two {r : List UInt8} {a : Nat} {c d : UInt8} {q : List UInt8} (h : r.drop a = c :: d :: q) : r.drop (a + 2) = q := by
  rw [← List.drop_drop, h]; rfl
theorem drop_one {r : List UInt8} {a : Nat} {c : UInt8} {q : List UInt8} (h : r.drop a = c :: q) : r.drop (a + 1) = q := by
  rw [← List.drop_drop, h]; rfl
end Lex
namespace Go.Proofs.YtebphmkefpaeaaaGreatDoor
open Go.RowKit
set_option linter.unusedVariables false

/-- What unquote tells. -/
def unqV (r : List UInt8) : Value := if (Lex.unq r).2.2 then .tuple #[.string ⟨(Lex.unq r).1.toArray⟩, .int .i64 ((1 + (Lex.unq r).2.1 : Nat) : Int), .bool true] else .tuple #[.string ⟨#[]⟩, .int .i64 ((1 + (Lex.unq r).2.1 : Nat) : Int), .bool false]

theorem unqV_no {r : List UInt8} {n : Nat} (h1 : (Lex.unq r).2.1 = n) (h2 : (Lex.unq r).2.2 = false) : unqV r = .tuple #[.string ⟨#[]⟩, .int .i64 ((1 + n : Nat) : Int), .bool false] := by
  unfold unqV; rw [if_neg (by rw [h2]; simp), h1]

theorem unqV_yes {r p : List UInt8} {n : Nat} (h0 : (Lex.unq r).1 = p) (h1 : (Lex.unq r).2.1 = n) (h2 : (Lex.unq r).2.2 = true) : unqV r = .tuple #[.string ⟨p.toArray⟩, .int .i64 ((1 + n : Nat) : Int), .bool true] := by
  unfold unqV; rw [if_pos h2, h1, h0]

theorem byteCells_snoc (p : List UInt8) (c : UInt8) : Lib.byteCells (p ++ [c]) = Lib.byteCells p ++ [.int .u8 (c.toNat : Int)] := by simp [Lib.byteCells]

/-- Bytes gathered, and how far. -/
def Unq (r : List UInt8) (w wr : World) (v : Value) (a : Nat) : Prop := ∃ p : List UInt8, Lex.unq r = (p ++ (Lex.unq (r.drop a)).1, a + (Lex.unq (r.drop a)).2.1, (Lex.unq (r.drop a)).2.2) ∧ p.length ≤ a ∧ wr.ownsRow w.heap.size 5 1 v p.length (Lib.byteCells p) ∧ Below w.heap.size w wr

set_option maxRecDepth 100000 in
set_option maxHeartbeats 4000000 in
theorem unquote_walk (r : List UInt8) (hr : r.length ≤ 1000000) (w : World) :
    Calls Tryz.prog 66 #[.string ⟨(34 :: r).toArray⟩] w fun e w' => e = .returned (unqV r) ∧ Below w.heap.size w w' := by
  obtain ⟨i0, hi, hz0, hz1, hz2⟩ := info_parts (P := Tryz.prog) (e := 5) (z := .int .u8 0) (size := 1) (bytes := 1) (by kernel_rfl)
  obtain ⟨l, hl⟩ : ∃ l : List UInt8, l = 34 :: r := ⟨_, rfl⟩
  have hll : l.length = r.length + 1 := by rw [hl]; rfl
  have HL := Lib.hid hl
  have HLL := Lib.hid hll
  have hz : (⟨l.toArray⟩ : ByteArray).size = l.length := size_list _
  have hl9 : l.length ≤ 1000001 := by omega
  rw [← hl]
  clear hl hll
  go_enter Tryz.func66, Tryz.ntmps66
  go_wp2_with fail
  go_loopw [5, 6] (fun v ii wr => ∃ a : Nat, ii = .int .i64 ((1 + a : Nat) : Int) ∧ 1 + a ≤ l.length ∧ Hid (Unq r w wr v a))
    (fun _ ii _ => l.length - (intOf ii).toNat)
  case atStart => exact ⟨0, rfl, by rw [HLL.out]; omega, Lib.hid ⟨[], by simp, Nat.le_refl _, World.ownsRow_nil _ _ _ _, Below.refl _ _⟩⟩
  case round =>
    obtain ⟨a, rfl, ha, HU⟩ := hrel
    obtain ⟨p, hu, hpa, hown, hb⟩ := HU.out
    have HUN := Lib.hid hu
    have HO := Lib.hid hown
    have HB := Lib.hid hb
    have hbw := hb.size
    have hcv := conv_own hown
    obtain ⟨n, hn⟩ : ∃ n, n = 1 + a := ⟨_, rfl⟩
    rw [← hn] at ha ⊢
    have HN := Lib.hid hn
    clear hu hown hb HU hn
    by_cases hlt : n < l.length
    · have hi1 : (n : Int) < (l.length : Int) := by omega
      have har : a < r.length := by have := HN.out; have := HLL.out; omega
      obtain ⟨c, hc⟩ : ∃ c, c = r[a]'har := ⟨_, rfl⟩
      obtain ⟨q, hq⟩ : ∃ q, q = r.drop (a + 1) := ⟨_, rfl⟩
      have hdr : r.drop a = c :: q := by rw [hc, hq]; exact List.drop_eq_getElem_cons har
      have hcl : l[n]'hlt = c := by
        have e := HN.out
        have e2 := HL.out
        subst e2
        subst e
        rw [hc, List.getElem_cons]
        simp [Nat.add_comm 1 a]
      have hidx : ∀ W, (Instr.index 9 (.string ⟨l.toArray⟩) (.int .i64 (n : Int))).run Tryz.prog W = .ok (.int .u8 c.toNat) W := fun W => by
        rw [← hcl]; exact index_byte ⟨l.toArray⟩ n (by omega) W
      have hdn : l.drop (n + 1) = q := by rw [HL.out, HN.out, hq, show 1 + a + 1 = (a + 1) + 1 by omega, List.drop_succ_cons]
      have HDR := Lib.hid hdr
      have HQ := Lib.hid hq
      have HDN := Lib.hid hdn
      have k34 : ((c.toNat : Int) == 34) = (c == 34) := byte_is c 34 (by decide)
      have k92 : ((c.toNat : Int) == 92) = (c == 92) := byte_is c 92 (by decide)
      have HUC := Lib.hid (Lex.unq_cons c q)
      clear hc hq hdr hcl hdn
      cases e34 : (c == 34)
      · rw [e34] at k34
        have n34 : c ≠ 34 := by simpa using e34
        cases e92 : (c == 92)
        · rw [e92] at k92
          have n92 : c ≠ 92 := by simpa using e92
          by_cases h32 : c.toNat < 32
          · have k32 : (c.toNat : Int) < 32 := by omega
            have hq0 : Lex.unq (r.drop a) = ([], 0, false) := by rw [HDR.out, HUC.out, if_neg n34, if_neg n92, if_pos h32]
            have HV : Hid (unqV r = .tuple #[.string ⟨#[]⟩, .int .i64 (n : Int), .bool false]) := Lib.hid (by
              rw [unqV_no (n := a) (by rw [HUN.out, hq0]; rfl) (by rw [HUN.out, hq0]), ← HN.out])
            clear hq0 e34 e92 n34 n92
            go_wp2
            go_ret3
            exact ⟨by rw [HV.out]; rfl, HB.out⟩
          · have k32 : ¬ (c.toNat : Int) < 32 := by omega
            have hq0 : Lex.unq (r.drop a) = ([c] ++ (Lex.unq (r.drop (a + 1))).1, (Lex.unq (r.drop (a + 1))).2.1 + 1, (Lex.unq (r.drop (a + 1))).2.2) := by rw [← HQ.out, HDR.out, HUC.out, if_neg n34, if_neg n92, if_neg h32]; rfl
            have HV := Lib.hid (Lex.unq_at HUN.out hq0)
            have hc0 := c.toNat_lt
            clear hq0 e34 e92 n34 n92
            go_wp2_with (at_builtin; refine wpList_append_own _ rfl _ _ 53 rfl w.heap.size 5 i0 (.int .u8 0) 1 1 Tryz.underlying53 hi hz0 hz1 hz2 rfl (by decide) _ _ _ rfl (HO.out.alloc _) ⟨wr.heap.size, 0, none⟩ 1 1 [.int .u8 (c.toNat : Int)] rfl rfl (World.news_of_block (heap_alloc_new wr _)) (by intro u hu; simp at hu; subst hu; rfl) (by unfold maxLen; omega) (by omega) (by simp; omega) ?_)
            intro v' w3 hown3 hgrow _
            have hb3 := (HB.out.alloc hbw (.cells #[.int .u8 (c.toNat : Int)] 5)).grown hgrow (by simp; omega) (fun k hk => (HO.out.lt k hk).1)
            have HU3 : Hid (Unq r w w3 v' (a + 1)) := Lib.hid ⟨p ++ [c], HV.out, by rw [List.length_append]; simp; omega, by rw [byteCells_snoc, List.length_append]; exact hown3, hb3⟩
            clear hown3 hgrow hb3
            go_wp2
            go_roundw
            case rel => exact ⟨a + 1, by rw [HN.out]; go_num, by have := HN.out; omega, HU3⟩
            case measure => simp [intOf]; omega
        · rw [e92] at k92
          have hsl : ∀ W, (Instr.slice 9 (.string ⟨l.toArray⟩) (some (.int .i64 ((n : Int) + 1))) none none).run Tryz.prog W = .ok (.string ⟨q.toArray⟩) W := fun W => by
            have := slice_from (W := W) ⟨l.toArray⟩ (n + 1) (by omega)
            rw [show (⟨l.toArray⟩ : ByteArray).data.toList = l from rfl, HDN.out] at this
            exact this
          have n92 : c = 92 := by simpa using e92
          cases q with
          | nil =>
            have hq0 : Lex.unq (r.drop a) = ([], 0, false) := by rw [HDR.out, HUC.out, if_neg (by simpa using e34), if_pos n92]
            have HV : Hid (unqV r = .tuple #[.string ⟨#[]⟩, .int .i64 (n : Int), .bool false]) := Lib.hid (by
              rw [unqV_no (n := a) (by rw [HUN.out, hq0]; rfl) (by rw [HUN.out, hq0]), ← HN.out])
            have HE : Hid (unescV [] = .tuple #[.int .u8 0, .bool false]) := Lib.hid rfl
            clear hq0 e34 e92 n92
            go_wp2_with fail
            refine (unescape_walk [] _).mono ?_
            rintro e w2 ⟨he, rfl⟩
            rw [HE.out] at he
            subst he
            go_wp2
            go_ret3
            exact ⟨by rw [HV.out]; rfl, HB.out⟩
          | cons d q2 =>
            have hd2 : n + 2 ≤ l.length := by
              have := congrArg List.length HDN.out
              rw [List.length_drop, List.length_cons] at this; omega
            cases hx : Lex.unesc d with
            | none =>
              have hq0 : Lex.unq (r.drop a) = ([], 0, false) := by rw [HDR.out, HUC.out, if_neg (by simpa using e34), if_pos n92]; simp only; rw [hx]
              have HV : Hid (unqV r = .tuple #[.string ⟨#[]⟩, .int .i64 (n : Int), .bool false]) := Lib.hid (by
                rw [unqV_no (n := a) (by rw [HUN.out, hq0]; rfl) (by rw [HUN.out, hq0]), ← HN.out])
              have HE : Hid (unescV (d :: q2) = .tuple #[.int .u8 0, .bool false]) := Lib.hid (by rw [unescV_cons, hx])
              clear hq0 e34 e92 n92 hx
              go_wp2_with fail
              refine (unescape_walk (d :: q2) _).mono ?_
              rintro e w2 ⟨he, rfl⟩
              rw [HE.out] at he
              subst he
              go_wp2
              go_ret3
              exact ⟨by rw [HV.out]; rfl, HB.out⟩
            | some x =>
              have hq0 : Lex.unq (r.drop a) = ([x] ++ (Lex.unq (r.drop (a + 2))).1, (Lex.unq (r.drop (a + 2))).2.1 + 2, (Lex.unq (r.drop (a + 2))).2.2) := by
                rw [Lex.drop_two HDR.out, HDR.out, HUC.out, if_neg (by simpa using e34), if_pos n92]; simp only; rw [hx]; rfl
              have HV := Lib.hid (Lex.unq_at HUN.out hq0)
              have HE : Hid (unescV (d :: q2) = .tuple #[.int .u8 (x.toNat : Int), .bool true]) := Lib.hid (by rw [unescV_cons, hx])
              have hc0 := x.toNat_lt
              clear hq0 e34 e92 n92 hx
              go_wp2_with fail
              refine (unescape_walk (d :: q2) _).mono ?_
              rintro e w2 ⟨he, rfl⟩
              rw [HE.out] at he
              subst he
              go_wp2_with (at_builtin; refine wpList_append_own _ rfl _ _ 53 rfl w.heap.size 5 i0 (.int .u8 0) 1 1 Tryz.underlying53 hi hz0 hz1 hz2 rfl (by decide) _ _ _ rfl (HO.out.alloc _) ⟨wr.heap.size, 0, none⟩ 1 1 [.int .u8 (x.toNat : Int)] rfl rfl (World.news_of_block (heap_alloc_new wr _)) (by intro u hu; simp at hu; subst hu; rfl) (by unfold maxLen; omega) (by omega) (by simp; omega) ?_)
              intro v' w3 hown3 hgrow _
              have hb3 := (HB.out.alloc hbw (.cells #[.int .u8 (x.toNat : Int)] 5)).grown hgrow (by simp; omega) (fun k hk => (HO.out.lt k hk).1)
              have HU3 : Hid (Unq r w w3 v' (a + 2)) := Lib.hid ⟨p ++ [x], HV.out, by rw [List.length_append]; simp; omega, by rw [byteCells_snoc, List.length_append]; exact hown3, hb3⟩
              clear hown3 hgrow hb3
              go_wp2
              go_roundw
              case rel => exact ⟨a + 2, by rw [HN.out]; go_num, by have := HN.out; omega, HU3⟩
              case measure => simp [intOf]; omega
      · rw [e34] at k34
        have hq0 : Lex.unq (r.drop a) = ([], 1, true) := by rw [HDR.out, HUC.out, if_pos (by simpa using e34)]
        have HV : Hid (unqV r = .tuple #[.string ⟨p.toArray⟩, .int .i64 ((n + 1 : Nat) : Int), .bool true]) := Lib.hid (by
          rw [unqV_yes (p := p) (n := a + 1) (by rw [HUN.out, hq0]; simp) (by rw [HUN.out, hq0]) (by rw [HUN.out, hq0]), HN.out]; rfl)
        clear hq0 e34 k92
        go_wp2
        go_ret3
        exact ⟨by rw [HV.out]; rfl, HB.out⟩
    · have hi1 : ¬ (n : Int) < (l.length : Int) := by omega
      have hq0 : Lex.unq (r.drop a) = ([], 0, false) := by
        rw [List.drop_eq_nil_of_le (by have := HN.out; have := HLL.out; omega)]; rfl
      have HV : Hid (unqV r = .tuple #[.string ⟨#[]⟩, .int .i64 (n : Int), .bool false]) := Lib.hid (by
        rw [unqV_no (n := a) (by rw [HUN.out, hq0]; rfl) (by rw [HUN.out, hq0]), ← HN.out])
      clear hq0
      go_wp2
      go_ret3
      exact ⟨by rw [HV.out]; rfl, HB.out⟩
end Go.Proofs.YtebphmkefpaeaaaGreatDoor

/- The program's takeQuoted, takeAny of layer 6. -/
namespace Go.Proofs.YtebphmkefpaeaaaGreatDoor
open Go.RowKit
set_option linter.unusedVariables false

theorem unqV_form (r : List UInt8) : unqV r = .tuple #[.string ⟨(if (Lex.unq r).2.2 then (Lex.unq r).1 else []).toArray⟩, .int .i64 ((1 + (Lex.unq r).2.1 : Nat) : Int), .bool (Lex.unq r).2.2] := by
  unfold unqV
  cases h : (Lex.unq r).2.2 <;> rfl

set_option maxRecDepth 100000 in
set_option maxHeartbeats 4000000 in
theorem quoted_walk (g B : Nat) (hgB : g < B) (s : List UInt8) (i : Nat) (hi : i < s.length) (hs : s.length ≤ 4096) (h34 : s[i]'hi = 34) (v : Value) (l : List Tk) (hl : l.length ≤ i) (w : World) (h : ScanT w g B s i v l) :
    Calls Tryz.prog 56 #[.pointer (some ⟨g, 0, none⟩)] w (StepE g B s i v l (Lex.piece (s.drop i)) w) := by
  have hd : s.drop i = 34 :: s.drop (i + 1) := by rw [List.drop_eq_getElem_cons hi, h34]
  obtain ⟨r, hr⟩ : ∃ r, r = s.drop (i + 1) := ⟨_, rfl⟩
  rw [← hr] at hd
  obtain ⟨ps, rest, hR, hQ⟩ := Lex.quoted_own r
  have hP : Lex.piece (34 :: r) = match Lex.quoted (34 :: r) with | .error x => .error x | .ok (t, n) => .ok ([t], n) := rfl
  rw [hQ] at hP
  have hrl : r.length + 1 + i = s.length := by have := congrArg List.length hd; rw [List.length_drop, List.length_cons] at this; omega
  obtain ⟨hu1, hu2⟩ := Lex.unq_len r.length r (Nat.le_refl _)
  have hV := unqV_form r
  have HW := Lib.hid (unquote_walk r (by omega))
  obtain ⟨K, hK⟩ : ∃ K, K = (Lex.unq r).2.2 := ⟨_, rfl⟩
  obtain ⟨n, hn⟩ : ∃ n, n = 1 + (Lex.unq r).2.1 := ⟨_, rfl⟩
  obtain ⟨T, hT⟩ : ∃ T, T = (Lex.unq r).1 := ⟨_, rfl⟩
  rw [← hK, ← hn, ← hT] at hV
  rw [← hK, ← hn, ← hT] at hP
  rw [← hn] at hR
  have hn1 : n ≤ r.length + 1 := by omega
  have HD := Lib.hid (decoded_walk g s i n (Nat.le_of_lt hi) (by omega) (by omega) ps rest (by rw [hd]; exact hR))
  have HV := Lib.hid hV
  have HP := Lib.hid hP
  have HDR := Lib.hid hd
  have hb0 := below_one w (.cells #[.int .i64 0, .int .i64 0] 27)
  have HX := Lib.hid (box2_new w 0 0)
  have HS := Lib.hid (h.keep hb0)
  have HB0 := Lib.hid hb0
  have hglt := h.at_.lt
  have hBw := h.le
  have hne : w.heap.size ≠ g := by omega
  have HNV : Hid (some w.heap.size ≠ v.ownBlock) := Lib.hid (fun e => by have := (h.own.lt _ e.symm).2; omega)
  have HRS := Lib.hid (wrest_walk g s i (Nat.le_of_lt hi))
  rw [hd] at HRS
  rw [hd]
  clear hb0 h h34 hR hQ hP hV hK hn hT hu1 hu2 hd hr
  go_enter Tryz.func56, Tryz.ntmps56
  go_wp2_with fail
  generalize hW : w.alloc (.cells #[.int .i64 0, .int .i64 0] 27) = W0 at HX HB0 HS ⊢
  clear hW
  go_wp2_with fail
  refine (HRS.out _ HS.out.at_).mono ?_
  rintro e w2 ⟨rfl, nq, rfl⟩
  go_wp2_with fail
  refine (HW.out _).mono ?_
  rintro e w3 ⟨he, hb3⟩
  rw [HV.out] at he
  subst he
  have hb3' : Below W0.heap.size W0 w3 := (below_drew1 W0 nq).trans (hb3.mono (Nat.le_refl _))
  have HS3 := Lib.hid (HS.out.keep hb3')
  have HX3 := Lib.hid (HX.out.keep (B := W0.heap.size) HX.out.1 hb3')
  have HB3 := Lib.hid (below_next HB0.out hb3')
  clear hb3 hb3' HS HX HB0 HW HRS
  obtain ⟨T2, hT2⟩ : ∃ T2 : List UInt8, T2 = if K then T else [] := ⟨_, rfl⟩
  rw [← hT2]
  have HT2 := Lib.hid hT2
  clear hT2
  go_wp2_with fail
  refine (HD.out _ HS3.out.at_).mono ?_
  rintro e w4 ⟨he, hb4⟩
  have HS4 := Lib.hid (HS3.out.keep hb4)
  have HX4 := Lib.hid (HX3.out.keep (B := w3.heap.size) HX3.out.1 hb4)
  have HB4 := Lib.hid (below_next HB3.out hb4)
  clear hb4 HS3 HX3 HB3 HD
  by_cases hrest : rest = []
  · have hfv : faultV ps rest i = .agg #[.int .i64 0, .int .i64 0] := by unfold faultV; rw [if_pos hrest]
    rw [hfv] at he
    subst he
    have hbn := below_one w4 (.cells #[.int .i64 0, .int .i64 0] 27)
    have HSn := Lib.hid (HS4.out.keep hbn)
    have HXn := Lib.hid (HX4.out.keep (B := w4.heap.size) HX4.out.1 hbn)
    have HBn := Lib.hid (below_next HB4.out hbn)
    clear hfv hbn HX4 HS4
    cases K with
    | false =>
      have HR : Hid (Lex.piece (34 :: r) = .error (60, 0)) := Lib.hid (by rw [HP.out, if_neg (by rw [hrest]; simp)]; rfl)
      clear hrest HP
      go_wp2_with fail
      refine (nofound_walk g s i _ HSn.out.at_).mono ?_
      rintro e w5 ⟨rfl, hb5⟩
      have HX5 := Lib.hid (HXn.out.keep (B := (w4.alloc (.cells #[.int .i64 0, .int .i64 0] 27)).heap.size) HXn.out.1 hb5)
      have HB5 := Lib.hid (below_next HBn.out hb5)
      clear hb5
      obtain ⟨q0, x0, x1, y0, y1⟩ := HX5.out
      go_wp2
      refine bodyPost_ret (v := .agg #[.int .i64 60, .int .i64 (i : Int)]) (by simp [results, Tryz.results56, go_sem, x0, x1]) rfl ?_
      refine ⟨updT_box (UpdT.of HB5.out (by omega)) _ (by omega) (by omega) _ _, ?_⟩
      rw [HR.out]
      simp
    | true =>
      have HR : Hid (Lex.piece (34 :: r) = .ok ([⟨4, T⟩], n)) := Lib.hid (by rw [HP.out, if_neg (by rw [hrest]; simp)]; rfl)
      obtain rfl : T2 = T := by rw [HT2.out]; rfl
      clear hrest HP
      go_wp2_with fail
      refine (take_walk g B hgB s i v l (by omega) 4 T2 n (by omega) _ HSn.out).mono ?_
      rintro e w5 ⟨rfl, ⟨v', hS5, hv5⟩, hu5⟩
      have HV5 : Hid (v'.ownBlock ≠ some w.heap.size) := Lib.hid (fun e => by
        rcases hv5 _ e with h | h
        · exact HNV.out h.symm
        · have := HXn.out.1; omega)
      have HVV : Hid (∀ x, v'.ownBlock = some x → v.ownBlock = some x ∨ w.heap.size ≤ x) := Lib.hid (fun x hx => by
        rcases hv5 x hx with h | h
        · exact Or.inl h
        · right; have := HBn.out.size; omega)
      have HX5 := Lib.hid (HXn.out.updT hu5 hne HNV.out)
      have HU5 := Lib.hid ((UpdT.of HBn.out (by omega)).trans hu5)
      have HS5 := Lib.hid hS5
      clear hS5 hu5 hv5
      obtain ⟨q0, x0, x1, y0, y1⟩ := HX5.out
      go_wp2
      refine bodyPost_ret (v := .agg #[.int .i64 0, .int .i64 0]) (by simp [results, Tryz.results56, go_sem, x0, x1]) rfl ?_
      refine ⟨updT_box HU5.out _ (by omega) (by omega) _ _, ?_⟩
      rw [HR.out]
      exact ⟨rfl, v', (HS5.out.box _ (Ne.symm hne) HV5.out _ _).box _ (Ne.symm hne) HV5.out _ _, HVV.out⟩
  · have hfv : faultV ps rest i = .agg #[.int .i64 30, .int .i64 ((i + (Utf.enc ps).length : Nat) : Int)] := by unfold faultV; rw [if_neg hrest]
    rw [hfv] at he
    subst he
    have HR : Hid (Lex.piece (34 :: r) = .error (30, (Utf.enc ps).length)) := Lib.hid (by rw [HP.out, if_pos hrest])
    obtain ⟨m, hm⟩ : ∃ m, m = i + (Utf.enc ps).length := ⟨_, rfl⟩
    rw [← hm]
    have HMM := Lib.hid hm
    clear hrest hfv HP hm
    obtain ⟨q0, x0, x1, y0, y1⟩ := HX4.out
    go_wp2
    refine bodyPost_ret (v := .agg #[.int .i64 30, .int .i64 (m : Int)]) (by simp [results, Tryz.results56, go_sem, x0, x1, q0]) rfl ?_
    have hwb := HB4.out.size
    refine ⟨(updT_box (UpdT.of HB4.out (by omega)) _ (by omega) (by omega) _ _).trans (UpdT.of (below_one _ _) (by simp; omega)), ?_⟩
    rw [HR.out]
    show _ = Ending.returned (.agg #[.int .i64 30, .int .i64 ((i + (Utf.enc ps).length : Nat) : Int)])
    rw [← HMM.out]
end Go.Proofs.YtebphmkefpaeaaaGreatDoor

/- The program's takeAny of layer 6. -/
namespace Lex
theorem hasRemark_take (l : List UInt8) : (l.take 2 == [45, 45]) = hasRemark l := by
  match l with
  | [] => rfl
  | [x] => simp [hasRemark]
  | x :: y :: q =>
    rw [hasRemark_two]
    show ([x, y] == [45, 45]) = _
    simp
end Lex
namespace Go.Proofs.YtebphmkefpaeaaaGreatDoor
open Go.RowKit
set_option linter.unusedVariables false

theorem StepE.form {g B : Nat} {s : List UInt8} {i : Nat} {v : Value} {l : List Tk} {r : Except (Int × Nat) (List Lex.Tok × Nat)} {w : World} {e : Ending} {w' : World} (h : StepE g B s i v l r w e w') : ∃ a b : Int, e = .returned (.agg #[.int .i64 a, .int .i64 b]) := by
  obtain ⟨_, h⟩ := h
  match r, h with
  | .error (x, k), h => exact ⟨_, _, h⟩
  | .ok (ts, n), h => exact ⟨_, _, h.1⟩

/-- A fault handed on in a result of its own. -/
theorem StepE.lift {g B : Nat} {s : List UInt8} {i : Nat} {v : Value} {l : List Tk} {r : Except (Int × Nat) (List Lex.Tok × Nat)} {w W0 : World} {e : Ending} {w' : World} (h : StepE g B s i v l r W0 e w') (hb : Below w.heap.size w W0) (hlt : w.heap.size < W0.heap.size)
    (hg : g < w.heap.size) (hv : v.ownBlock ≠ some w.heap.size) (a b : Value) : StepE g B s i v l r w e ((w'.setCell ⟨w.heap.size, 0, none⟩ a).setCell ⟨w.heap.size, 1, none⟩ b) := by
  obtain ⟨hu, h⟩ := h
  refine ⟨updT_box ((UpdT.of hb (Nat.le_of_lt hg)).trans hu) _ (Nat.le_refl _) (Nat.le_of_lt hg) _ _, ?_⟩
  match r, h with
  | .error (x, k), h => exact h
  | .ok (ts, n), h =>
    obtain ⟨he, v', hS, hv'⟩ := h
    have hne : v'.ownBlock ≠ some w.heap.size := fun e => by
      rcases hv' _ e with h | h
      · exact hv h
      · omega
    exact ⟨he, v', (hS.box _ (by omega) hne _ _).box _ (by omega) hne _ _, fun x hx => by
      rcases hv' x hx with h | h
      · exact Or.inl h
      · right; omega⟩

set_option maxRecDepth 100000 in
set_option maxHeartbeats 4000000 in
theorem any_walk (g B : Nat) (hgB : g < B) (s : List UInt8) (i : Nat) (hi : i < s.length) (hs : s.length ≤ 4096) (v : Value) (l : List Tk) (hl : l.length ≤ i) (w : World) (h : ScanT w g B s i v l) (hg : Globs w) :
    Calls Tryz.prog 44 #[.pointer (some ⟨g, 0, none⟩)] w (StepE g B s i v l (Lex.piece (s.drop i)) w) := by
  have hb0 := below_one w (.cells #[.int .i64 0, .int .i64 0] 27)
  have HX := Lib.hid (box2_new w 0 0)
  have HS := Lib.hid (h.keep hb0)
  have HG := Lib.hid (hg.next hb0)
  have HB0 := Lib.hid hb0
  have hglt := h.at_.lt
  have hBw := h.le
  have hne : w.heap.size ≠ g := by omega
  have HNV : Hid (v.ownBlock ≠ some w.heap.size) := Lib.hid (fun e => by have := (h.own.lt _ e).2; omega)
  have HF := Lib.hid (wfirst_walk g s i hi)
  have HRM := Lib.hid (Lex.hasRemark_take (s.drop i))
  have HNX := Lib.hid (wnext_walk g s i 2 (Nat.le_of_lt hi) (by omega) (by decide))
  obtain ⟨p2, hp2⟩ : ∃ p2, p2 = (s.drop i).take 2 := ⟨_, rfl⟩
  rw [← hp2] at HRM HNX
  clear hb0 h hg hp2
  cases hr : Lex.hasRemark (s.drop i) with
  | true =>
    have hq : (p2 == [45, 45]) = true := by rw [HRM.out]; exact hr
    have HW := Lib.hid (remark_walk g B hgB s i hi hs hr v l)
    clear hr
    go_enter Tryz.func44, Tryz.ntmps44
    go_wp2_with fail
    generalize hW : w.alloc (.cells #[.int .i64 0, .int .i64 0] 27) = W0 at HX HB0 HS HG ⊢
    clear hW
    go_wp2_with fail
    refine (HNX.out _ HS.out.at_).mono ?_
    rintro e w2 ⟨rfl, n1, rfl⟩
    have HS2 := Lib.hid (HS.out.keep (below_drew1 W0 n1))
    have HB2 := Lib.hid (below_next HB0.out (below_drew1 W0 n1))
    have hlt2 : Hid (w.heap.size < (W0.drewN n1).heap.size) := Lib.hid HX.out.1
    have HX2 : Hid (Box2 (W0.drewN n1) w.heap.size 0 0) := HX
    go_wp2_with fail
    refine (HW.out _ HS2.out).mono ?_
    rintro e w3 h3
    have HX3 := Lib.hid (HX2.out.updT h3.1 hne (fun e => HNV.out e.symm))
    have HL3 := Lib.hid (fun a b => h3.lift HB2.out hlt2.out hglt HNV.out a b)
    obtain ⟨a, b, rfl⟩ := h3.form
    obtain ⟨q0, x0, x1, y0, y1⟩ := HX3.out
    clear h3
    go_wp2
    refine bodyPost_ret (v := .agg #[.int .i64 a, .int .i64 b]) (by simp [results, Tryz.results44, go_sem, x0, x1]) rfl ?_
    exact HL3.out _ _
  | false =>
    have hq : (p2 == [45, 45]) = false := by rw [HRM.out]; exact hr
    obtain ⟨c, hc⟩ : ∃ c, c = s[i]'hi := ⟨_, rfl⟩
    rw [← hc] at HF
    have k34 : ((c.toNat : Int) == 34) = (c == 34) := byte_is c 34 (by decide)
    cases e34 : (c == 34) with
    | true =>
      rw [e34] at k34
      have HW := Lib.hid (quoted_walk g B hgB s i hi hs (by rw [← hc]; simpa using e34) v l hl)
      clear hr e34 hc
      go_enter Tryz.func44, Tryz.ntmps44
      go_wp2_with fail
      generalize hW : w.alloc (.cells #[.int .i64 0, .int .i64 0] 27) = W0 at HX HB0 HS HG ⊢
      clear hW
      go_wp2_with fail
      refine (HNX.out _ HS.out.at_).mono ?_
      rintro e w2 ⟨rfl, n1, rfl⟩
      go_wp2_with fail
      refine (HF.out _ (HS.out.at_.draw _)).mono ?_
      rintro e w2 ⟨rfl, n2, rfl⟩
      have HS2 := Lib.hid (HS.out.keep (below_drew1 W0 (n1 + n2)))
      have HB2 := Lib.hid (below_next HB0.out (below_drew1 W0 (n1 + n2)))
      have hlt2 : Hid (w.heap.size < (W0.drewN (n1 + n2)).heap.size) := Lib.hid HX.out.1
      have HX2 : Hid (Box2 (W0.drewN (n1 + n2)) w.heap.size 0 0) := HX
      go_wp2_with fail
      refine (HW.out _ HS2.out).mono ?_
      rintro e w3 h3
      have HX3 := Lib.hid (HX2.out.updT h3.1 hne (fun e => HNV.out e.symm))
      have HL3 := Lib.hid (fun a b => h3.lift HB2.out hlt2.out hglt HNV.out a b)
      obtain ⟨a, b, rfl⟩ := h3.form
      obtain ⟨q0, x0, x1, y0, y1⟩ := HX3.out
      clear h3
      go_wp2
      refine bodyPost_ret (v := .agg #[.int .i64 a, .int .i64 b]) (by simp [results, Tryz.results44, go_sem, x0, x1]) rfl ?_
      exact HL3.out _ _
    | false =>
      rw [e34] at k34
      have HW := Lib.hid (plain_walk g B hgB s i hi hs (by rw [← hc]; simpa using e34) hr v l hl)
      clear hr e34 hc
      go_enter Tryz.func44, Tryz.ntmps44
      go_wp2_with fail
      generalize hW : w.alloc (.cells #[.int .i64 0, .int .i64 0] 27) = W0 at HX HB0 HS HG ⊢
      clear hW
      go_wp2_with fail
      refine (HNX.out _ HS.out.at_).mono ?_
      rintro e w2 ⟨rfl, n1, rfl⟩
      go_wp2_with fail
      refine (HF.out _ (HS.out.at_.draw _)).mono ?_
      rintro e w2 ⟨rfl, n2, rfl⟩
      have HS2 := Lib.hid (HS.out.keep (below_drew1 W0 (n1 + n2)))
      have HG2 := Lib.hid (HG.out.next (below_drew1 W0 (n1 + n2)))
      have HB2 := Lib.hid (below_next HB0.out (below_drew1 W0 (n1 + n2)))
      have hlt2 : Hid (w.heap.size < (W0.drewN (n1 + n2)).heap.size) := Lib.hid HX.out.1
      have HX2 : Hid (Box2 (W0.drewN (n1 + n2)) w.heap.size 0 0) := HX
      go_wp2_with fail
      refine (HW.out _ HS2.out HG2.out).mono ?_
      rintro e w3 h3
      have HX3 := Lib.hid (HX2.out.updT h3.1 hne (fun e => HNV.out e.symm))
      have HL3 := Lib.hid (fun a b => h3.lift HB2.out hlt2.out hglt HNV.out a b)
      obtain ⟨a, b, rfl⟩ := h3.form
      obtain ⟨q0, x0, x1, y0, y1⟩ := HX3.out
      clear h3
      go_wp2
      refine bodyPost_ret (v := .agg #[.int .i64 a, .int .i64 b]) (by simp [results, Tryz.results44, go_sem, x0, x1]) rfl ?_
      exact HL3.out _ _
end Go.Proofs.YtebphmkefpaeaaaGreatDoor

/- The program's scan of layer 6. -/
namespace Lex
def bl (j : Nat) : UInt8 := [9, 10, 13, 32].getD j 0
theorem blank_bl (c : UInt8) (h : ∀ j, j < 4 → c ≠ bl j) : blank c = false := by
  have h0 := h 0 (by decide)
  have h1 := h 1 (by decide)
  have h2 := h 2 (by decide)
  have h3 := h 3 (by decide)
  have e0 : bl 0 = 9 := rfl
  have e1 : bl 1 = 10 := rfl
  have e2 : bl 2 = 13 := rfl
  have e3 : bl 3 = 32 := rfl
  rw [e0] at h0; rw [e1] at h1; rw [e2] at h2; rw [e3] at h3
  unfold blank
  simp [h0, h1, h2, h3]
theorem bl_blank (j : Nat) (h : j < 4) : blank (bl j) = true := by
  have : j = 0 ∨ j = 1 ∨ j = 2 ∨ j = 3 := by omega
  rcases this with rfl | rfl | rfl | rfl <;> rfl
end Lex
namespace Go.Proofs.YtebphmkefpaeaaaGreatDoor
open Go.RowKit
set_option linter.unusedVariables false

theorem UpdB.refl (g B : Nat) (w : World) : UpdB g B w w := ⟨Below.refl _ _, fun _ _ _ _ => ⟨rfl, rfl⟩⟩
theorem UpdB.of {g B : Nat} {w w' : World} (h : Below w.heap.size w w') (hg : g ≤ w.heap.size) (hB : B ≤ w.heap.size) : UpdB g B w w' :=
  ⟨h.mono hg, fun b o hb _ => ⟨h.cell (p := ⟨b, o, none⟩) (Nat.lt_of_lt_of_le hb hB), h.frozen (p := ⟨b, o, none⟩) (Nat.lt_of_lt_of_le hb hB)⟩⟩
theorem UpdB.trans {g B : Nat} {a b c : World} (h : UpdB g B a b) (k : UpdB g B b c) : UpdB g B a c :=
  ⟨h.1.trans k.1, fun x o hx hne => ⟨(k.2 x o hx hne).1.trans (h.2 x o hx hne).1, (k.2 x o hx hne).2.trans (h.2 x o hx hne).2⟩⟩
theorem UpdB.move {g B : Nat} {w w' : World} (h : UpdB g B w w') (a : Value) (j : Nat) : UpdB g B w (w'.setCell ⟨g, j, none⟩ a) :=
  ⟨h.1.setCell (p := ⟨g, j, none⟩) (Nat.le_refl _) _, fun x o hx hne => by
    refine ⟨?_, ?_⟩
    · rw [World.cell?_setCell_other _ _ _ _ (fun e => hne (congrArg Addr.block e).symm)]; exact (h.2 x o hx hne).1
    · have := (h.2 x o hx hne).2
      simpa [go_sem] using this⟩
theorem Box2.updB {W W' : World} {g B gr : Nat} {a b : Int} (h : Box2 W gr a b) (hu : UpdB g B W W') (hg : gr ≠ g) (hB : gr < B) : Box2 W' gr a b := by
  obtain ⟨h0, h1, h2, h3, h4⟩ := h
  have k := fun o => hu.2 gr o hB hg
  exact ⟨Nat.lt_of_lt_of_le h0 hu.1.size, (k 0).1.trans h1, (k 1).1.trans h2, (k 0).2.trans h3, (k 1).2.trans h4⟩

/-- Tokens and their places, in memory's form. -/
def tkOf (l : List (Lex.Tok × Nat)) : List Tk := l.map fun x => ⟨x.1, (x.2 : Int)⟩
theorem tkOf_len (l : List (Lex.Tok × Nat)) : (tkOf l).length = l.length := by simp [tkOf]
theorem tkOf_append (a b : List (Lex.Tok × Nat)) : tkOf (a ++ b) = tkOf a ++ tkOf b := by simp [tkOf]
theorem tkOf_at (ts : List Lex.Tok) (i : Nat) : tkOf (ts.map fun t => (t, i)) = ts.map fun t => ⟨t, (i : Int)⟩ := by simp [tkOf]

/-- The scanner on its way. -/
structure Scan1 (g B : Nat) (s : List UInt8) (W0 wr : World) (i : Nat) (v : Value) (pre : List (Lex.Tok × Nat)) : Prop where
  t : ScanT wr g B s i v (tkOf pre)
  u : UpdB g B W0 wr
  le : i ≤ s.length
  len : pre.length ≤ i
  eq : Lex.toks s 0 = Lex.joinR pre (Lex.toks (s.drop i) i)

/-- What scan leaves. -/
def ScanE (g : Nat) (s : List UInt8) (w : World) (e : Ending) (w' : World) : Prop := Below g w w' ∧ match Lex.toks s 0 with
  | .error (x, k) => e = .returned (.agg #[.int .i64 x, .int .i64 (k : Int)])
  | .ok m => e = .returned (.agg #[.int .i64 0, .int .i64 0]) ∧ ∃ v', w'.cell? ⟨g, 2, none⟩ = some v' ∧ w'.ownsRow (w.heap.size + 1) 32 3 v' (m.length + 1) (cellsT (tkOf (m ++ [(Lex.endTok, s.length)])))

theorem u8_eq (a b : UInt8) : ((a.toNat : Int) == (b.toNat : Int)) = (a == b) := by
  rw [Bool.eq_iff_iff, beq_iff_eq, beq_iff_eq]
  exact ⟨fun h => UInt8.toNat_inj.1 (by omega), fun h => by rw [h]⟩

theorem Scan1.blank {g B : Nat} {s : List UInt8} {W0 wr : World} {i : Nat} {v : Value} {pre : List (Lex.Tok × Nat)} (h : Scan1 g B s W0 wr i v pre) (hgB : g < B) (hi : i < s.length) (hb : Lex.blank (s[i]'hi) = true) :
    Scan1 g B s W0 (wr.setCell ⟨g, 1, none⟩ (.int .i64 ((i + 1 : Nat) : Int))) (i + 1) v pre :=
  ⟨h.t.move hgB (i + 1), h.u.move _ 1, hi, by have := h.len; omega, by rw [h.eq, List.drop_eq_getElem_cons hi, Lex.toks_blank hb]⟩

theorem Scan1.draw {g B : Nat} {s : List UInt8} {W0 wr : World} {i : Nat} {v : Value} {pre : List (Lex.Tok × Nat)} (h : Scan1 g B s W0 wr i v pre) (hgB : g < B) (n : Nat) : Scan1 g B s W0 (wr.drewN n) i v pre :=
  ⟨h.t.keep (below_drew1 wr n), h.u.trans (UpdB.of (below_drew1 wr n) (Nat.le_of_lt h.t.at_.lt) h.t.le), h.le, h.len, h.eq⟩

/-- A step that took something. -/
theorem Scan1.step {g B : Nat} {s : List UInt8} {W0 wr : World} {i : Nat} {v : Value} {pre : List (Lex.Tok × Nat)} (h : Scan1 g B s W0 wr i v pre) (hi : i < s.length) (hb : Lex.blank (s[i]'hi) = false) {e : Ending} {w' : World} (hs : StepE g B s i v (tkOf pre) (Lex.piece (s.drop i)) wr e w') :
    UpdB g B W0 w' ∧ ((∃ x k, e = .returned (.agg #[.int .i64 x, .int .i64 ((k : Nat) : Int)]) ∧ Lex.toks s 0 = .error (x, k) ∧ x ≠ 0) ∨ (e = .returned (.agg #[.int .i64 0, .int .i64 0]) ∧ ∃ v' j pre', i < j ∧ Scan1 g B s W0 w' j v' pre')) := by
  obtain ⟨hu, hm⟩ := hs
  have hU := h.u.trans (hu.toB h.t)
  refine ⟨hU, ?_⟩
  have hp := Lex.piece_toks (l := s.drop i) (by intro e; have := congrArg List.length e; rw [List.length_drop] at this; simp at this; omega) (fun c hc => by
    obtain rfl : s[i]'hi = c := by simpa [List.getElem?_eq_getElem hi] using hc
    exact hb) i
  have he := h.eq
  cases hq : Lex.piece (s.drop i) with
  | error x =>
    obtain ⟨x, k⟩ := x
    rw [hq] at hm hp
    simp only at hm hp
    refine Or.inl ⟨x, i + k, hm, by rw [he, hp]; rfl, ?_⟩
    have ht : Lex.toks s 0 = .error (x, i + k) := by rw [he, hp]; rfl
    have := (Lex.toks_err _ _ _ _ _ (Nat.le_refl _) ht).2
    rcases this with h | h <;> rw [h] <;> decide
  | ok x =>
    obtain ⟨ts, n⟩ := x
    rw [hq] at hm hp
    simp only at hm hp
    obtain ⟨h1, h2, h3, h4⟩ := hp
    obtain ⟨hm1, v', hm2, _⟩ := hm
    rw [List.length_drop] at h3
    refine Or.inr ⟨hm1, v', i + n, pre ++ ts.map (fun t => (t, i)), by omega, ⟨by rw [tkOf_append, tkOf_at]; exact hm2, hU, by omega, by rw [List.length_append, List.length_map]; have := h.len; omega, ?_⟩⟩
    rw [he, h1, Lex.joinR_joinR, List.drop_drop]

theorem Globs.upd {w0 w w' : World} {g : Nat} (h : Globs w0) (hb : Below w0.heap.size w0 w) (hu : Below g w w') (hg : w0.heap.size ≤ g) : Globs w' := h.next (hb.trans (hu.mono hg))

set_option maxRecDepth 100000 in
set_option maxHeartbeats 8000000 in
theorem scan_walk (g : Nat) (s : List UInt8) (hs : s.length ≤ 4096) (w0 : World) (hg : Globs w0) (w : World) (hb0 : Below w0.heap.size w0 w) (hg0 : w0.heap.size ≤ g) (h : ScanAt w g s 0) (hc2 : w.cell? ⟨g, 2, none⟩ = some (.slice none 0 0)) :
    Calls Tryz.prog 31 #[.pointer (some ⟨g, 0, none⟩)] w (ScanE g s w) := by
  have hb1 := below_one w (.cells #[.int .i64 0, .int .i64 0] 27)
  have HX := Lib.hid (box2_new w 0 0)
  have HG := Lib.hid hg
  have HB0 := Lib.hid (hb0.trans (hb1.mono (Nat.le_trans hg0 (Nat.le_of_lt h.lt))))
  have hglt := h.lt
  have hgB : g < w.heap.size + 1 := by omega
  have HW1 := Lib.hid hb1
  have HS : Hid (Scan1 g (w.heap.size + 1) s (w.alloc (.cells #[.int .i64 0, .int .i64 0] 27)) (w.alloc (.cells #[.int .i64 0, .int .i64 0] 27)) 0 (.slice none 0 0) []) := Lib.hid
    ⟨⟨h.keep h.lt hb1, (hb1.cell (p := ⟨g, 2, none⟩) h.lt).trans hc2, World.ownsRow_nil _ _ _ _, by simp⟩, UpdB.refl _ _ _, Nat.zero_le _, Nat.le_refl _, by rw [Lex.joinR_nil]; rfl⟩
  clear hb0 hb1 h hc2 hg
  go_enter Tryz.func31, Tryz.ntmps31
  go_wp2_with fail
  generalize hW : w.alloc (.cells #[.int .i64 0, .int .i64 0] 27) = W0 at HX HB0 HS HW1 ⊢
  clear hW
  go_step3
  go_wp2_with fail
  go_step3
  go_wp2_with fail
  go_loopw [4] (fun _ wr => ∃ (i : Nat) (v : Value) (pre : List (Lex.Tok × Nat)), Hid (Scan1 g (w.heap.size + 1) s W0 wr i v pre))
    (fun _ wr => s.length - (match wr.cell? ⟨g, 1, none⟩ with | some (.int _ n) => n.toNat | _ => 0))
  case atStart => exact ⟨0, _, _, HS⟩
  case round =>
    obtain ⟨i, v, pre, HSi⟩ := hrel
    have hci := HSi.out.t.at_.c1
    have HCI := Lib.hid hci
    clear hci
    by_cases hi : i < s.length
    · have hid : ((i : Int) == (s.length : Int)) = false := by rw [beq_eq_false_iff_ne]; omega
      have HF := Lib.hid (wfirst_walk g s i hi)
      obtain ⟨c, hc⟩ : ∃ c, c = s[i]'hi := ⟨_, rfl⟩
      rw [← hc] at HF
      have HC := Lib.hid hc
      clear hc
      go_wp2_with fail
      refine (ended_walk g s i _ HSi.out.t.at_).mono ?_
      rintro e w2 ⟨rfl, n1, rfl⟩
      rw [hid]
      have HS1 := Lib.hid (HSi.out.draw hgB n1)
      generalize wr.drewN n1 = wr1 at HS1 ⊢
      go_wp2_with fail
      go_loopw [10] (fun kk wx => ∃ k : Nat, kk = .int .i64 k ∧ k ≤ 4 ∧ Hid (∀ j, j < k → c ≠ Lex.bl j) ∧ Hid (Scan1 g (w.heap.size + 1) s W0 wx i v pre))
        (fun kk _ => 4 - (intOf kk).toNat)
      case atStart => exact ⟨0, rfl, by omega, Lib.hid (fun j hj => absurd hj (by omega)), HS1⟩
      case round =>
        obtain ⟨k, rfl, hk, HN, HS2⟩ := hrel
        clear HS1
        by_cases hk4 : k < 4
        · have hk1 : (k : Int) < 4 := by omega
          obtain ⟨d, hd⟩ : ∃ d, d = Lex.bl k := ⟨_, rfl⟩
          have hidx : ∀ W, (Instr.index 9 (.string ⟨#[9, 10, 13, 32]⟩) (.int .i64 (k : Int))).run Tryz.prog W = .ok (.int .u8 d.toNat) W := fun W => by
            have := index_byte ⟨#[9, 10, 13, 32]⟩ k hk4 W
            rw [this, hd]
            have : k = 0 ∨ k = 1 ∨ k = 2 ∨ k = 3 := by omega
            rcases this with rfl | rfl | rfl | rfl <;> rfl
          have kd := u8_eq c d
          have HD := Lib.hid hd
          clear hd
          cases hcd : (c == d)
          · rw [hcd] at kd
            have HN2 : Hid (∀ j, j < k + 1 → c ≠ Lex.bl j) := Lib.hid (fun j hj => by
              rcases Nat.lt_succ_iff_lt_or_eq.1 hj with h' | rfl
              · exact HN.out j h'
              · rw [← HD.out]; simpa using hcd)
            clear hcd
            go_wp2_with fail
            go_quiet ((go_at_call 43; exact Calls.quiet_of (HF.out _ (HS2.out.t.at_.draw _))))
            go_wp2
            go_roundw
            case rel => exact ⟨k + 1, by go_num, by omega, HN2, Lib.hid (HS2.out.draw hgB _)⟩
            case measure => simp [intOf]; omega
          · rw [hcd] at kd
            have hbl : Lex.blank (s[i]'hi) = true := by
              rw [← HC.out, beq_iff_eq.1 hcd, HD.out]; exact Lex.bl_blank k hk4
            have HBL := Lib.hid hbl
            obtain ⟨q1, q2, q3, q4, q5⟩ := HS2.out.t.at_
            clear hcd hbl
            go_wp2_with fail
            go_quiet ((go_at_call 43; exact Calls.quiet_of (HF.out _ (HS2.out.t.at_.draw _))))
            go_wp2
            go_roundw
            case rel => exact ⟨i + 1, v, pre, Lib.hid ((HS2.out.draw hgB _).blank hgB hi HBL.out)⟩
            case measure =>
              rw [HCI.out]
              simp [go_sem, q3]
              exact Nat.sub_lt_sub_left hi (Nat.lt_succ_self i)
        · have HBL : Hid (Lex.blank (s[i]'hi) = false) := Lib.hid (by rw [← HC.out]; exact Lex.blank_bl c (fun j hj => HN.out j (by omega)))
          have hk1 : ¬ (k : Int) < 4 := by omega
          have HGW := Lib.hid (HG.out.upd HB0.out HS2.out.u.1 hg0)
          go_wp2_with fail
          refine (any_walk g (w.heap.size + 1) hgB s i hi hs v (tkOf pre) (by rw [tkOf_len]; exact HS2.out.len) _ HS2.out.t HGW.out).mono ?_
          rintro e w3 h3
          obtain ⟨hU3, hcase⟩ := HS2.out.step hi HBL.out h3
          have HX3 := Lib.hid (HX.out.updB hU3 (by omega) (by omega))
          have HU3 := Lib.hid hU3
          clear h3 hU3
          rcases hcase with ⟨x, k2, rfl, ht, hx0⟩ | ⟨rfl, v', j, pre', hij, hS3⟩
          · have hxd : (x == 0) = false := by simpa using hx0
            have hxn : (x != 0) = true := by simpa using hx0
            have HTE := Lib.hid ht
            clear ht hx0
            obtain ⟨q0, x0, x1, y0, y1⟩ := HX3.out
            go_wp2
            rw [Exit.noGoto_ret]
            refine bodyPost_ret (v := .agg #[.int .i64 x, .int .i64 (k2 : Int)]) (by simp [results, Tryz.results31, go_sem, x0, x1, q0]) rfl ?_
            have hbw : Below g w w3 := (HW1.out.mono (Nat.le_of_lt hglt)).trans HU3.out.1
            refine ⟨(((hbw.setCell (p := ⟨w.heap.size, 0, none⟩) (Nat.le_of_lt hglt) _).setCell (p := ⟨w.heap.size, 1, none⟩) (Nat.le_of_lt hglt) _).alloc (by simp; omega) _), ?_⟩
            rw [HTE.out]
          · have HS4 := Lib.hid hS3
            have hb4 := below_one w3 (.cells #[.int .i64 0, .int .i64 0] 27)
            have HS5 : Hid (Scan1 g (w.heap.size + 1) s W0 (w3.alloc (.cells #[.int .i64 0, .int .i64 0] 27)) j v' pre') := Lib.hid ⟨hS3.t.keep hb4, hS3.u.trans (UpdB.of hb4 (Nat.le_of_lt hS3.t.at_.lt) hS3.t.le), hS3.le, hS3.len, hS3.eq⟩
            clear hS3 hb4
            go_wp2
            go_roundw
            case rel => exact ⟨j, v', pre', HS5⟩
            case measure =>
              rw [HCI.out, HS5.out.t.at_.c1]
              simp
              omega
    · have hid : ((i : Int) == (s.length : Int)) = true := by rw [beq_iff_eq]; have := HSi.out.le; omega
      have hil : i = s.length := by have := HSi.out.le; omega
      have HTE : Hid (Lex.toks s 0 = .ok pre) := Lib.hid (by rw [HSi.out.eq, List.drop_eq_nil_of_le (by omega), Lex.toks_nil]; simp [Lex.joinR])
      have HIL := Lib.hid hil
      have hpl := HSi.out.len
      have hil2 : i ≤ s.length := HSi.out.le
      clear hil
      go_wp2_with fail
      refine (ended_walk g s i _ HSi.out.t.at_).mono ?_
      rintro e w2 ⟨rfl, n1, rfl⟩
      rw [hid]
      have HS1 := Lib.hid (HSi.out.draw hgB n1)
      generalize wr.drewN n1 = wr1 at HS1 ⊢
      go_wp2_with fail
      refine (take_walk g (w.heap.size + 1) hgB s i v (tkOf pre) (by rw [tkOf_len]; omega) 0 [] 0 (by omega) _ HS1.out.t).mono ?_
      rintro e w5 ⟨rfl, ⟨v', hS5, hv5⟩, hu5⟩
      have HU5 := Lib.hid (HS1.out.u.trans (hu5.toB HS1.out.t))
      have HX5 := Lib.hid (HX.out.updB HU5.out (by omega) (by omega))
      have HS5 := Lib.hid hS5
      clear hS5 hv5 hu5
      obtain ⟨q0, x0, x1, y0, y1⟩ := HX5.out
      go_wp2
      rw [Exit.noGoto_ret]
      refine bodyPost_ret (v := .agg #[.int .i64 0, .int .i64 0]) (by simp [results, Tryz.results31, go_sem, x0, x1]) rfl ?_
      have hbw : Below g w w5 := (HW1.out.mono (Nat.le_of_lt hglt)).trans HU5.out.1
      refine ⟨(hbw.setCell (p := ⟨w.heap.size, 0, none⟩) (Nat.le_of_lt hglt) _).setCell (p := ⟨w.heap.size, 1, none⟩) (Nat.le_of_lt hglt) _, ?_⟩
      rw [HTE.out]
      have hn : ∀ k, (⟨w.heap.size, k, none⟩ : Addr) ≠ ⟨g, 2, none⟩ := fun k e => by have := congrArg Addr.block e; simp at this; omega
      refine ⟨rfl, v', ?_, ?_⟩
      · rw [World.cell?_setCell_other _ _ _ _ (hn 1), World.cell?_setCell_other _ _ _ _ (hn 0)]; exact HS5.out.c2
      · have ho := HS5.out.own
        rw [List.length_append, tkOf_len] at ho
        rw [tkOf_append]
        have e : tkOf [(Lex.endTok, s.length)] = [⟨⟨0, []⟩, (i : Int)⟩] := by rw [← HIL.out]; rfl
        rw [e]
        exact ownsRow_setCell_below (a := ⟨w.heap.size, 1, none⟩) (ownsRow_setCell_below (a := ⟨w.heap.size, 0, none⟩) ho (Nat.lt_succ_self _) _) (Nat.lt_succ_self _) _
end Go.Proofs.YtebphmkefpaeaaaGreatDoor

/- The program's Scan of layer 6. -/
namespace Go.Proofs.YtebphmkefpaeaaaGreatDoor
open Go.RowKit
set_option linter.unusedVariables false

/-- What Scan tells, of the program and of the document. -/
def ScanV (s : List UInt8) (w : World) (e : Ending) (w' : World) : Prop := ∃ (A : Option Addr) (cap : Nat) (l : List Tk) (a b : Int), e = .returned (.tuple #[.slice A l.length cap, .agg #[.int .i64 a, .int .i64 b]]) ∧
  w'.ownsRow w.heap.size 32 3 (.slice A l.length cap) l.length (cellsT l) ∧ Below w.heap.size w w' ∧ match Lex.scanR s with
  | .error (x, k) => l = [] ∧ a = x ∧ b = (k : Int)
  | .ok m => l = tkOf m ∧ a = 0 ∧ b = 0

theorem scanR_long {s : List UInt8} (h : 4096 < s.length) : Lex.scanR s = .error (3, 4096) := by unfold Lex.scanR; rw [if_pos h]
theorem scanR_toks {s : List UInt8} (h : s.length ≤ 4096) : Lex.scanR s = match Lex.toks s 0 with
  | .error x => .error x
  | .ok l => .ok (l ++ [(Lex.endTok, s.length)]) := by unfold Lex.scanR; rw [if_neg (by omega)]; rfl

set_option maxRecDepth 100000 in
set_option maxHeartbeats 4000000 in
theorem oscan_long (s : List UInt8) (h4 : 4096 < s.length) (hs : s.length ≤ 9223372036854775807) (w : World) :
    Calls Tryz.prog 19 #[.string ⟨s.toArray⟩] w (ScanV s w) := by
  have hz : (⟨s.toArray⟩ : ByteArray).size = s.length := size_list _
  have h1 : (4096 : Int) < (s.length : Int) := by omega
  have HR := Lib.hid (scanR_long h4)
  clear h4
  go_enter Tryz.func19, Tryz.ntmps19
  go_wp2
  refine bodyPost_ret (v := .tuple #[.slice none 0 0, .agg #[.int .i64 3, .int .i64 4096]]) (by simp [results, Tryz.results19, go_sem]) rfl ?_
  refine ⟨none, 0, [], 3, 4096, rfl, World.ownsRow_nil _ _ _ _, below_one _ _, ?_⟩
  rw [HR.out]
  exact ⟨rfl, rfl, rfl⟩

theorem scan_new (W : World) (s : List UInt8) : ScanAt (W.alloc (.cells #[.string ⟨s.toArray⟩, .int .i64 0, .slice none 0 0] 46)) W.heap.size s 0 :=
  ⟨by simp, by simp [go_sem], by simp [go_sem], by simp [go_sem], by simp [go_sem]⟩

theorem scan_cell (W : World) (s : List UInt8) : (W.alloc (.cells #[.string ⟨s.toArray⟩, .int .i64 0, .slice none 0 0] 46)).cell? ⟨W.heap.size, 2, none⟩ = some (.slice none 0 0) := by simp [go_sem]

set_option maxRecDepth 100000 in
set_option maxHeartbeats 4000000 in
theorem oscan_short (s : List UInt8) (h4 : s.length ≤ 4096) (w : World) (hg : Globs w) :
    Calls Tryz.prog 19 #[.string ⟨s.toArray⟩] w (ScanV s w) := by
  have hz : (⟨s.toArray⟩ : ByteArray).size = s.length := size_list _
  have h1 : ¬ (4096 : Int) < (s.length : Int) := by omega
  have HR := Lib.hid (scanR_toks h4)
  have hb0 := below_one w (.cells #[.int .i64 0, .int .i64 0] 27)
  have HX := Lib.hid (box2_new w 0 0)
  have HG := Lib.hid (hg.next hb0)
  have HB0 := Lib.hid hb0
  clear hb0 hg
  go_enter Tryz.func19, Tryz.ntmps19
  go_wp2_with fail
  have HZ : Hid ((w.alloc (.cells #[.int .i64 0, .int .i64 0] 27)).heap.size = w.heap.size + 1) := Lib.hid (by simp)
  generalize hW : w.alloc (.cells #[.int .i64 0, .int .i64 0] 27) = W0 at HX HG HB0 HZ ⊢
  clear hW
  have hn := scan_new W0 s
  have hc := scan_cell W0 s
  rw [HZ.out] at hn hc
  have HN := Lib.hid hn
  have HC := Lib.hid hc
  clear hn hc
  have HB1 := Lib.hid (below_one W0 (.cells #[.string ⟨s.toArray⟩, .int .i64 0, .slice none 0 0] 46))
  go_wp2_with fail
  generalize hW : W0.alloc (.cells #[.string ⟨s.toArray⟩, .int .i64 0, .slice none 0 0] 46) = W1 at HN HC HB1 ⊢
  clear hW
  refine (scan_walk (w.heap.size + 1) s h4 W0 HG.out W1 HB1.out (Nat.le_of_eq HZ.out) HN.out HC.out).mono ?_
  rintro e w3 ⟨hb3, hcase⟩
  have HB3 : Hid (Below W0.heap.size W0 w3) := Lib.hid (HB1.out.trans (hb3.mono (Nat.le_of_eq HZ.out)))
  have HBW := Lib.hid (below_next HB0.out HB3.out)
  have HX3 := Lib.hid (HX.out.keep (B := W0.heap.size) HX.out.1 HB3.out)
  have hW0 := HX.out.1
  have hW1 := HN.out.lt
  have hw1w3 := hb3.size
  have hz0 := HZ.out
  have hlt1 : w.heap.size + 1 < w3.heap.size := by omega
  clear hb3 HX HG HN HC hz0 hW1 hW0 hw1w3
  cases ht : Lex.toks s 0 with
  | error x =>
    obtain ⟨x, k⟩ := x
    rw [ht] at hcase HR
    simp only at hcase HR
    subst hcase
    have hx0 : x ≠ 0 := by
      rcases (Lex.toks_err _ _ _ _ _ (Nat.le_refl _) ht).2 with h | h <;> rw [h] <;> decide
    have hxd : (x == 0) = false := by simpa using hx0
    have hxn : (x != 0) = true := by simpa using hx0
    obtain ⟨q0, x0, x1, y0, y1⟩ := HX3.out
    clear ht hx0
    go_wp2_with fail
    go_region
    all_goals
      go_wp2
      refine bodyPost_ret (v := .tuple #[.slice none 0 0, .agg #[.int .i64 x, .int .i64 (k : Int)]]) (by simp [results, Tryz.results19, go_sem, x0, x1, q0]) rfl ?_
      refine ⟨none, 0, [], x, (k : Int), rfl, World.ownsRow_nil _ _ _ _, (((HBW.out.setCell (p := ⟨w.heap.size, 0, none⟩) (Nat.le_refl _) _).setCell (p := ⟨w.heap.size, 1, none⟩) (Nat.le_refl _) _).alloc (by have := HBW.out.size; simp; omega) _).drew, ?_⟩
      rw [HR.out]
      exact ⟨rfl, rfl, rfl⟩
  | ok m =>
    rw [ht] at hcase HR
    simp only at hcase HR
    obtain ⟨rfl, v', hc2, hown⟩ := hcase
    have HO := Lib.hid hown
    obtain ⟨q0, x0, x1, y0, y1⟩ := HX3.out
    clear ht hown
    obtain ⟨g1, cap, hv', _, hg1⟩ := HO.out.form (Nat.succ_pos _)
    have hlen : (tkOf (m ++ [(Lex.endTok, s.length)])).length = m.length + 1 := by rw [tkOf_len, List.length_append]; rfl
    have hb1w := HB1.out.size
    have hzz := HZ.out
    have HO2 : Hid (∀ W : World, (∃ B, W.ownsRow B 32 3 v' (m.length + 1) (cellsT (tkOf (m ++ [(Lex.endTok, s.length)]))) ∧ w.heap.size ≤ B) → W.ownsRow w.heap.size 32 3 (.slice (some ⟨g1, 0, none⟩) (tkOf (m ++ [(Lex.endTok, s.length)])).length cap) (tkOf (m ++ [(Lex.endTok, s.length)])).length (cellsT (tkOf (m ++ [(Lex.endTok, s.length)])))) := Lib.hid (fun W ⟨B, h, hB⟩ => by rw [hlen, ← hv']; exact own_base h hB)
    have HV : Hid (v' = .slice (some ⟨g1, 0, none⟩) (tkOf (m ++ [(Lex.endTok, s.length)])).length cap) := Lib.hid (by rw [hlen]; exact hv')
    have hbb : Hid (w.heap.size < W1.heap.size + 1) := Lib.hid (by omega)
    clear hv' hlen hb1w hzz hg1
    go_wp2
    refine bodyPost_ret (v := .tuple #[v', .agg #[.int .i64 0, .int .i64 0]]) (by simp [results, Tryz.results19, go_sem, x0, x1, q0]) rfl ?_
    refine ⟨some ⟨g1, 0, none⟩, cap, tkOf (m ++ [(Lex.endTok, s.length)]), 0, 0, by rw [HV.out], HO2.out _ ⟨W1.heap.size + 1, ?_, Nat.le_of_lt hbb.out⟩, ((HBW.out.setCell (p := ⟨w.heap.size, 0, none⟩) (Nat.le_refl _) _).setCell (p := ⟨w.heap.size, 1, none⟩) (Nat.le_refl _) _).alloc (by have := HBW.out.size; simp; omega) _, ?_⟩
    · exact own_below (ownsRow_setCell_below (a := ⟨w.heap.size, 1, none⟩) (ownsRow_setCell_below (a := ⟨w.heap.size, 0, none⟩) HO.out hbb.out _) hbb.out _) (below_one _ _)
    · rw [HR.out]
      exact ⟨rfl, rfl, rfl⟩

theorem oscanL_walk (s : List UInt8) (hs : s.length ≤ 9223372036854775807) (w : World) (hg : Globs w) :
    Calls Tryz.prog 19 #[.string ⟨s.toArray⟩] w (ScanV s w) := by
  by_cases h4 : s.length ≤ 4096
  · exact oscan_short s h4 w hg
  · exact oscan_long s (by omega) hs w
end Go.Proofs.YtebphmkefpaeaaaGreatDoor

/- The program's enquote, written of layer 6. -/
namespace Go.Proofs.YtebphmkefpaeaaaGreatDoor
open Go.RowKit
set_option linter.unusedVariables false

set_option maxRecDepth 100000 in
theorem lettered_ix (c : UInt8) : (∃ (j : Nat) (x : UInt8), j < 4 ∧ Lib.indexByte [10, 9, 34, 92] c = (j : Int) ∧ Lex.escB c = [92, x] ∧ (∀ W, (Instr.index 9 (.string ⟨#[110, 116, 34, 92]⟩) (.int .i64 (j : Int))).run Tryz.prog W = .ok (.int .u8 x.toNat) W)) ∨ (Lib.indexByte [10, 9, 34, 92] c = -1 ∧ Lex.escB c = [c]) := by
  have hk : ∀ (j : Nat) (hj : j < 4) (W : World), (Instr.index 9 (.string ⟨#[110, 116, 34, 92]⟩) (.int .i64 (j : Int))).run Tryz.prog W = .ok (.int .u8 ((⟨#[110, 116, 34, 92]⟩ : ByteArray)[j]'hj).toNat) W := fun j hj W => index_byte ⟨#[110, 116, 34, 92]⟩ j hj W
  by_cases h1 : c = 10
  · subst h1; exact Or.inl ⟨0, 110, by decide, by decide, rfl, hk 0 (by decide)⟩
  by_cases h2 : c = 9
  · subst h2; exact Or.inl ⟨1, 116, by decide, by decide, rfl, hk 1 (by decide)⟩
  by_cases h3 : c = 34
  · subst h3; exact Or.inl ⟨2, 34, by decide, by decide, rfl, hk 2 (by decide)⟩
  by_cases h4 : c = 92
  · subst h4; exact Or.inl ⟨3, 92, by decide, by decide, rfl, hk 3 (by decide)⟩
  · refine Or.inr ⟨?_, ?_⟩
    · have g1 : ((10 : UInt8) == c) = false := beq_eq_false_iff_ne.2 (Ne.symm h1)
      have g2 : ((9 : UInt8) == c) = false := beq_eq_false_iff_ne.2 (Ne.symm h2)
      have g3 : ((34 : UInt8) == c) = false := beq_eq_false_iff_ne.2 (Ne.symm h3)
      have g4 : ((92 : UInt8) == c) = false := beq_eq_false_iff_ne.2 (Ne.symm h4)
      simp [Lib.indexByte, g1, g2, g3, g4]
    · unfold Lex.escB; rw [if_neg h1, if_neg h2, if_neg (by rintro (h | h); exact h3 h; exact h4 h)]

theorem byteCells_two (p : List UInt8) (a b : UInt8) : Lib.byteCells (p ++ [a, b]) = Lib.byteCells p ++ [.int .u8 (a.toNat : Int), .int .u8 (b.toNat : Int)] := by simp [Lib.byteCells]

/-- Bytes that are written, so far. -/
def Enq (l : List UInt8) (w wr : World) (v : Value) (n : Nat) : Prop := wr.ownsRow w.heap.size 5 1 v (Lex.sow l n).length (Lib.byteCells (Lex.sow l n)) ∧ Below w.heap.size w wr

set_option maxRecDepth 100000 in
set_option maxHeartbeats 4000000 in
theorem enquote_walk (l : List UInt8) (hl : l.length ≤ 1000000) (w : World) :
    Calls Tryz.prog 50 #[.string ⟨l.toArray⟩] w fun e w' => e = .returned (.string ⟨(34 :: (l.flatMap Lex.escB ++ [34])).toArray⟩) ∧ Below w.heap.size w w' := by
  obtain ⟨i0, hi, hz0, hz1, hz2⟩ := info_parts (P := Tryz.prog) (e := 5) (z := .int .u8 0) (size := 1) (bytes := 1) (by kernel_rfl)
  have hz : (⟨l.toArray⟩ : ByteArray).size = l.length := size_list _
  have hsow : ∀ n, (Lex.sow l n).length ≤ 1 + 2 * n := Lex.sow_len l
  have HE0 : Hid (Enq l w (w.alloc (.cells #[.int .u8 34] 5)) (.slice (some ⟨w.heap.size, 0, none⟩) 1 1) 0) := Lib.hid
    ⟨World.ownsRow_lit (base := w.heap.size) (e := 5) (size := 1) w #[Value.int .u8 34] 1 (Nat.le_refl _) (by simp [maxLen]) rfl, below_one _ _⟩
  go_enter Tryz.func50, Tryz.ntmps50
  go_wp2_with fail
  go_loopw [3, 9] (fun v ii wr => ∃ n : Nat, ii = .int .i64 n ∧ n ≤ l.length ∧ Hid (Enq l w wr v n))
    (fun _ ii _ => l.length - (intOf ii).toNat)
  case atStart => exact ⟨0, rfl, Nat.zero_le _, HE0⟩
  case round =>
    obtain ⟨n, rfl, hn, HE⟩ := hrel
    have hsz := hsow n
    have hbw := HE.out.2.size
    by_cases hlt : n < l.length
    · have hi1 : (n : Int) < (l.length : Int) := by omega
      obtain ⟨c, hc⟩ : ∃ c, c = l[n]'hlt := ⟨_, rfl⟩
      have hidx : ∀ W, (Instr.index 9 (.string ⟨l.toArray⟩) (.int .i64 (n : Int))).run Tryz.prog W = .ok (.int .u8 c.toNat) W := fun W => by
        rw [hc]; exact index_byte ⟨l.toArray⟩ n (by omega) W
      have HS : Hid (Lex.sow l (n + 1) = Lex.sow l n ++ Lex.escB c) := Lib.hid (by rw [hc]; exact Lex.sow_next hlt)
      clear hc
      rcases lettered_ix c with ⟨j, x, hj, hix, hesc, hjx⟩ | ⟨hix, hesc⟩
      · have HIX := Lib.hid hix
        have HSE : Hid (Lex.sow l (n + 1) = Lex.sow l n ++ [92, x]) := Lib.hid (by rw [HS.out, hesc])
        have hj0 : (0 : Int) ≤ (j : Int) := by omega
        have hj4 : (j : Int) < 4 := by omega
        have hx0 := x.toNat_lt
        clear hix hesc HS
        go_wp2_with fail
        refine (ix_walk [10, 9, 34, 92] c _).mono ?_
        rintro e w2 ⟨he, rfl⟩
        rw [HIX.out] at he
        subst he
        go_wp2_with (at_builtin; refine wpList_append_own _ rfl _ _ 53 rfl w.heap.size 5 i0 (.int .u8 0) 1 1 Tryz.underlying53 hi hz0 hz1 hz2 rfl (by decide) _ _ _ rfl (HE.out.1.alloc _) ⟨wr.heap.size, 0, none⟩ 2 2 [.int .u8 92, .int .u8 (x.toNat : Int)] rfl rfl (World.news_of_block (heap_alloc_new wr _)) (by intro u hu; simp at hu; rcases hu with rfl | rfl <;> rfl) (by unfold maxLen; omega) (by omega) (by simp; omega) ?_)
        intro v' w3 hown3 hgrow _
        have hb3 := (HE.out.2.alloc hbw (.cells #[.int .u8 92, .int .u8 (x.toNat : Int)] 5)).grown hgrow (by simp; omega) (fun k hk => (HE.out.1.lt k hk).1)
        have HE3 : Hid (Enq l w w3 v' (n + 1)) := Lib.hid ⟨by rw [HSE.out, byteCells_two, List.length_append]; exact hown3, hb3⟩
        clear hown3 hgrow hb3
        go_wp2
        go_roundw
        case rel => exact ⟨n + 1, by go_num, by omega, HE3⟩
        case measure => simp [intOf]; omega
      · have HIX := Lib.hid hix
        have HSE : Hid (Lex.sow l (n + 1) = Lex.sow l n ++ [c]) := Lib.hid (by rw [HS.out, hesc])
        have hx0 := c.toNat_lt
        clear hix hesc HS
        go_wp2_with fail
        refine (ix_walk [10, 9, 34, 92] c _).mono ?_
        rintro e w2 ⟨he, rfl⟩
        rw [HIX.out] at he
        subst he
        go_wp2_with (at_builtin; refine wpList_append_own _ rfl _ _ 53 rfl w.heap.size 5 i0 (.int .u8 0) 1 1 Tryz.underlying53 hi hz0 hz1 hz2 rfl (by decide) _ _ _ rfl (HE.out.1.alloc _) ⟨wr.heap.size, 0, none⟩ 1 1 [.int .u8 (c.toNat : Int)] rfl rfl (World.news_of_block (heap_alloc_new wr _)) (by intro u hu; simp at hu; subst hu; rfl) (by unfold maxLen; omega) (by omega) (by simp; omega) ?_)
        intro v' w3 hown3 hgrow _
        have hb3 := (HE.out.2.alloc hbw (.cells #[.int .u8 (c.toNat : Int)] 5)).grown hgrow (by simp; omega) (fun k hk => (HE.out.1.lt k hk).1)
        have HE3 : Hid (Enq l w w3 v' (n + 1)) := Lib.hid ⟨by rw [HSE.out, byteCells_snoc, List.length_append]; exact hown3, hb3⟩
        clear hown3 hgrow hb3
        go_wp2
        go_roundw
        case rel => exact ⟨n + 1, by go_num, by omega, HE3⟩
        case measure => simp [intOf]; omega
    · have hi1 : ¬ (n : Int) < (l.length : Int) := by omega
      have HF : Hid (Lex.sow l n ++ [34] = 34 :: (l.flatMap Lex.escB ++ [34])) := Lib.hid (by unfold Lex.sow; rw [List.take_of_length_le (by omega)]; rfl)
      go_wp2_with (at_builtin; refine wpList_append_own _ rfl _ _ 53 rfl w.heap.size 5 i0 (.int .u8 0) 1 1 Tryz.underlying53 hi hz0 hz1 hz2 rfl (by decide) _ _ _ rfl (HE.out.1.alloc _) ⟨wr.heap.size, 0, none⟩ 1 1 [.int .u8 34] rfl rfl (World.news_of_block (heap_alloc_new wr _)) (by intro u hu; simp at hu; subst hu; rfl) (by unfold maxLen; omega) (by omega) (by simp; omega) ?_)
      intro v' w3 hown3 hgrow _
      have hb3 := (HE.out.2.alloc hbw (.cells #[.int .u8 34] 5)).grown hgrow (by simp; omega) (fun k hk => (HE.out.1.lt k hk).1)
      have ho : w3.ownsRow w.heap.size 5 1 v' ((Lex.sow l n).length + 1) (Lib.byteCells (34 :: (l.flatMap Lex.escB ++ [34]))) := by rw [← HF.out, byteCells_snoc]; exact hown3
      have hcv := conv_own ho
      have HB3 := Lib.hid hb3
      clear hown3 hgrow hb3 ho
      go_wp2
      go_ret
      exact ⟨rfl, HB3.out⟩

set_option maxRecDepth 100000 in
set_option maxHeartbeats 4000000 in
theorem owritten_walk (k : Int) (l : List UInt8) (hl : l.length ≤ 1000000) (a : Int) (w : World) :
    Calls Tryz.prog 34 #[.agg #[.int .i64 k, .string ⟨l.toArray⟩, .int .i64 a]] w fun e w' => e = .returned (.string ⟨(Lex.written ⟨k, l⟩).toArray⟩) ∧ Below w.heap.size w w' := by
  have HB0 := Lib.hid (below_one w (.cells #[.int .i64 k, .string ⟨l.toArray⟩, .int .i64 a] 32))
  have HX : Hid (BoxT (w.alloc (.cells #[.int .i64 k, .string ⟨l.toArray⟩, .int .i64 a] 32)) w.heap.size k l) := Lib.hid ⟨by simp [go_sem], by simp [go_sem]⟩
  by_cases h4 : k = 4
  · subst h4
    have HE : Hid (Lex.written ⟨4, l⟩ = 34 :: (l.flatMap Lex.escB ++ [34])) := Lib.hid (by unfold Lex.written; rw [if_pos rfl])
    go_enter Tryz.func34, Tryz.ntmps34
    go_wp2_with fail
    generalize hW : w.alloc (.cells #[.int .i64 4, .string ⟨l.toArray⟩, .int .i64 a] 32) = W0 at HX HB0 ⊢
    clear hW
    obtain ⟨x0, x1⟩ := HX.out
    go_wp2_with fail
    refine (enquote_walk l hl _).mono ?_
    rintro e w2 ⟨rfl, hb2⟩
    go_wp2
    go_ret
    exact ⟨by rw [HE.out]; rfl, below_next HB0.out hb2⟩
  · have hk : (k == 4) = false := by simp [h4]
    have HE : Hid (Lex.written ⟨k, l⟩ = l) := Lib.hid (by unfold Lex.written; rw [if_neg h4])
    go_enter Tryz.func34, Tryz.ntmps34
    go_wp2_with fail
    generalize hW : w.alloc (.cells #[.int .i64 k, .string ⟨l.toArray⟩, .int .i64 a] 32) = W0 at HX HB0 ⊢
    clear hW
    obtain ⟨x0, x1⟩ := HX.out
    go_wp2
    go_ret
    exact ⟨by rw [HE.out]; rfl, HB0.out⟩
end Go.Proofs.YtebphmkefpaeaaaGreatDoor

/- The program's readAs, Show of layer 6. -/
namespace Lex
theorem scanR_err {s : List UInt8} {x : Int} {k : Nat} (h : scanR s = .error (x, k)) : x ≠ 0 := by
  unfold scanR at h
  split at h
  · obtain ⟨rfl, _⟩ := Prod.mk.inj (Except.error.inj h); decide
  · split at h
    · rename_i y hy
      obtain ⟨e, j⟩ := y
      obtain ⟨rfl, _⟩ := Prod.mk.inj (Except.error.inj h)
      rcases (toks_err _ _ _ _ _ (Nat.le_refl _) hy).2 with h | h <;> rw [h] <;> decide
    · cases h

theorem written_most (t : Tok) : (written t).length ≤ 2 * t.text.length + 2 := by
  unfold written
  split
  · have := fm_len t.text
    simp only [List.length_cons, List.length_append, List.length_nil]; omega
  · omega

theorem read_yes {t : Tok} (h : t = endTok ∨ good t) : ∃ x m, scanR (written t) = .ok (x :: m) ∧ x.1 = t := by
  rcases h with rfl | h
  · exact ⟨_, _, end_scan, rfl⟩
  · exact ⟨_, _, good_scan h, rfl⟩
end Lex
namespace Go.Proofs.YtebphmkefpaeaaaGreatDoor
open Go.RowKit
set_option linter.unusedVariables false

theorem tk_new (W : World) (b : Tk) : TkAt (W.alloc (.cells #[.int .i64 b.t.kind, .string ⟨b.t.text.toArray⟩, .int .i64 b.at_] 32)) W.heap.size 0 b :=
  ⟨by simp [go_sem], by simp [go_sem], by simp [go_sem]⟩

set_option maxRecDepth 100000 in
set_option maxHeartbeats 4000000 in
theorem readas_walk (t : Lex.Tok) (a : Int) (ht : t.text.length ≤ 1000000) (b : Bool) (hb : b = true ↔ (t = Lex.endTok ∨ Lex.good t)) (w : World) (hg : Globs w) :
    Calls Tryz.prog 35 #[.string ⟨(Lex.written t).toArray⟩, .agg #[.int .i64 t.kind, .string ⟨t.text.toArray⟩, .int .i64 a]] w fun e w' => e = .returned (.bool b) ∧ Below w.heap.size w w' := by
  have hwl := Lex.written_most t
  have hb0 := below_one w (.cells #[.int .i64 t.kind, .string ⟨t.text.toArray⟩, .int .i64 a] 32)
  have HX := Lib.hid (tk_new w ⟨t, a⟩)
  have HXL : Hid (w.heap.size < (w.alloc (.cells #[.int .i64 t.kind, .string ⟨t.text.toArray⟩, .int .i64 a] 32)).heap.size) := Lib.hid (by simp)
  have HG := Lib.hid (hg.next hb0)
  have HB0 := Lib.hid hb0
  have HBB := Lib.hid hb
  have HW := Lib.hid (oscanL_walk (Lex.written t) (by omega))
  have hE := fun h => Lex.read_yes (t := t) h
  have hI := fun x m h1 h2 => Lex.read_iff (t := t) (x := x) (m := m) h1 h2
  have hN := fun x k h => Lex.scanR_err (s := Lex.written t) (x := x) (k := k) h
  have hne : Lex.scanR (Lex.written t) ≠ .ok [] := fun h => by
    unfold Lex.scanR at h
    split at h
    · cases h
    · split at h
      · cases h
      · simp at h
  obtain ⟨s, hs⟩ : ∃ s, s = Lex.written t := ⟨_, rfl⟩
  rw [← hs] at HW hE hI hN hne
  rw [← hs]
  clear hs hb0 hb hg hwl
  go_enter Tryz.func35, Tryz.ntmps35
  go_wp2_with fail
  generalize hW : w.alloc (.cells #[.int .i64 t.kind, .string ⟨t.text.toArray⟩, .int .i64 a] 32) = W0 at HX HXL HG HB0 ⊢
  clear hW
  have HHE := Lib.hid hE
  have HHI := Lib.hid hI
  have HHN := Lib.hid hN
  have HNE := Lib.hid hne
  clear hE hI hN hne
  go_wp2_with fail
  refine (HW.out _ HG.out).mono ?_
  rintro e w2 ⟨A, cap, l, a1, b1, rfl, hown, hb2, hcase⟩
  have HB2 := Lib.hid (below_next HB0.out hb2)
  have HX2 := Lib.hid (HX.out.keep HXL.out hb2)
  have hx2 := hb2.size
  have hxl2 : w.heap.size < w2.heap.size := Nat.lt_of_lt_of_le HXL.out hx2
  clear hb2 HX HB0
  cases hq : Lex.scanR s with
  | error x =>
    obtain ⟨x, k⟩ := x
    rw [hq] at hcase
    obtain ⟨rfl, rfl, rfl⟩ := hcase
    have hx0 := HHN.out _ _ hq
    have hxd : (a1 == 0) = false := by simpa using hx0
    have HF : Hid (b = false) := Lib.hid (by
      cases b with
      | false => rfl
      | true =>
        obtain ⟨y, m, h, _⟩ := HHE.out (HBB.out.1 rfl)
        rw [hq] at h; cases h)
    clear hq hx0 hown
    go_wp2_with fail
    go_quiet (fail)
    go_wp2
    go_ret
    exact ⟨by rw [HF.out]; rfl, below_drewN (below_new HB2.out _) _⟩
  | ok m =>
    cases m with
    | nil => exact absurd hq HNE.out
    | cons y m =>
      rw [hq] at hcase
      obtain ⟨rfl, rfl, rfl⟩ := hcase
      obtain ⟨y, j⟩ := y
      have hlen : (tkOf ((y, j) :: m)).length = m.length + 1 := by rw [tkOf_len]; rfl
      obtain ⟨g1, cap1, hv, _, hg1⟩ := hown.form (by rw [hlen]; omega)
      obtain ⟨hA, hcap⟩ : A = some ⟨g1, 0, none⟩ ∧ cap = cap1 := by
        simp at hv
        exact hv
      subst hA
      have k0 : w2.cell? ⟨g1, 0, none⟩ = some (.int .i64 y.kind) := (hown.cellAt 0 (by rw [hlen]; omega)).trans rfl
      have k1 : w2.cell? ⟨g1, 1, none⟩ = some (.string ⟨y.text.toArray⟩) := (hown.cellAt 1 (by rw [hlen]; omega)).trans rfl
      obtain ⟨x0, x1, _⟩ := HX2.out
      simp only [Nat.zero_add] at x1
      rw [hlen]
      have hl1 : (0 : Int) < ((m.length + 1 : Nat) : Int) := by omega
      have hl2 : 0 < m.length + 1 := by omega
      cases e0 : (y.kind == t.kind)
      · have HF : Hid (b = false) := Lib.hid (by
          cases b with
          | false => rfl
          | true =>
            obtain ⟨z, m2, h, h2⟩ := HHE.out (HBB.out.1 rfl)
            rw [hq] at h
            obtain ⟨rfl, _⟩ := List.cons.inj (Except.ok.inj h)
            simp only at h2
            rw [h2] at e0; simp at e0)
        clear hq hown hv hlen
        go_wp2_with fail
        go_quiet (fail)
        go_wp2
        go_ret
        exact ⟨by rw [HF.out]; rfl, below_drewN (below_new HB2.out _) _⟩
      · cases e1 : (y.text == t.text)
        · have HF : Hid (b = false) := Lib.hid (by
            cases b with
            | false => rfl
            | true =>
              obtain ⟨z, m2, h, h2⟩ := HHE.out (HBB.out.1 rfl)
              rw [hq] at h
              obtain ⟨rfl, _⟩ := List.cons.inj (Except.ok.inj h)
              simp only at h2
              rw [h2] at e1; simp at e1)
          clear hq hown hv hlen
          go_wp2_with fail
          go_quiet (fail)
          go_wp2
          go_ret
          exact ⟨by rw [HF.out]; rfl, below_drewN (below_new HB2.out _) _⟩
        · have HF : Hid (b = true) := Lib.hid (HBB.out.2 (HHI.out (y, j) m hq (by
            simp only [beq_iff_eq] at e0 e1
            cases t; cases y
            simp only at e0 e1
            rw [e0, e1])))
          clear hq hown hv hlen
          go_wp2_with fail
          go_quiet (fail)
          go_wp2
          go_ret
          exact ⟨by rw [HF.out]; rfl, below_drewN (below_new HB2.out _) _⟩
end Go.Proofs.YtebphmkefpaeaaaGreatDoor

/- The program's Show of layer 6. -/
namespace Go.Proofs.YtebphmkefpaeaaaGreatDoor
open Go.RowKit
set_option linter.unusedVariables false

/-- What Show tells, of the program and of the document. -/
def ShowV (l : List Lex.Tok) (e : Ending) : Prop := (Lex.mayShow l ∧ e = .returned (.tuple #[.string ⟨(Lex.shown l).toArray⟩, .int .i64 0])) ∨ (¬ Lex.mayShow l ∧ e = .returned (.tuple #[.string ⟨#[]⟩, .int .i64 60]))

theorem mayShow_snoc {l : List Lex.Tok} {t : Lex.Tok} (h : Lex.mayShow l) (ht : t = Lex.endTok ∨ Lex.good t) : Lex.mayShow (l ++ [t]) := fun x hx => by
  rcases List.mem_append.1 hx with hx | hx
  · exact h x hx
  · obtain rfl : x = t := by simpa using hx
    exact ht

theorem map_take_snoc {l : List Tk} {k : Nat} (h : k < l.length) : (l.map (·.t)).take (k + 1) = (l.map (·.t)).take k ++ [(l[k]'h).t] := by
  rw [List.take_succ_eq_append_getElem (by simpa using h)]; simp

set_option maxRecDepth 100000 in
set_option maxHeartbeats 8000000 in
theorem oshow_walk (A : Option Addr) (cap : Nat) (l : List Tk) (w : World) (hA : Tks w w.heap.size A l) (hl : l.length ≤ 10000) (hs : ∀ b ∈ l, b.t.text.length ≤ 100000) (hg : Globs w) :
    Calls Tryz.prog 22 #[.slice A l.length cap] w fun e w' => ShowV (l.map (·.t)) e ∧ Below w.heap.size w w' := by
  have HA := Lib.hid hA
  have HS := Lib.hid hs
  have HG := Lib.hid hg
  have HF := Lib.hid (Lib.fresh_isBuilder 55 5 w)
  obtain ⟨ts, hts⟩ : ∃ ts, ts = l.map (·.t) := ⟨_, rfl⟩
  have htl : ts.length = l.length := by rw [hts]; simp
  have HTS := Lib.hid hts
  have HTL := Lib.hid htl
  rw [← hts]
  clear hA hs hg hts htl
  go_enter Tryz.func22, Tryz.ntmps22
  go_wp2_with fail
  go_loopw [10] (fun ii wr => ∃ k : Nat, ii = .int .i64 k ∧ k ≤ l.length ∧ Hid (Lex.mayShow (ts.take k)) ∧ Hid (Lib.IsBuilder 55 5 w.heap.size w.heap.size (Lib.byteCells (Lex.shown (ts.take k))) wr) ∧ Hid (Below w.heap.size w wr))
    (fun ii _ => l.length - (intOf ii).toNat)
  case atStart => exact ⟨0, rfl, Nat.zero_le _, Lib.hid (fun x hx => by rw [List.take_zero] at hx; cases hx), Lib.hid (by rw [List.take_zero]; exact HF.out), Lib.hid (below_one _ _)⟩
  case round =>
    obtain ⟨k, rfl, hk, HM, HU, HB⟩ := hrel
    clear HF
    have hsl := Lex.shown_len _ HM.out
    rw [List.length_take, HTL.out] at hsl
    have hsl2 : (Lex.shown (ts.take k)).length ≤ 4097 * 10000 := Nat.le_trans hsl (Nat.mul_le_mul_left _ (by omega))
    clear hsl
    by_cases hlt : k < l.length
    · have hi1 : (k : Int) < (l.length : Int) := by omega
      rcases HA.out.keep HB.out (Nat.le_refl _) with h0 | ⟨g, off, rfl, hgw, hc⟩
      · omega
      · obtain ⟨p0, p1, p2⟩ := hc k hlt
        obtain ⟨x, hx⟩ : ∃ x, x = l[k]'hlt := ⟨_, rfl⟩
        rw [← hx] at p0 p1 p2
        have hxl : x.t.text.length ≤ 100000 := by rw [hx]; exact HS.out _ (List.getElem_mem _)
        have HT : Hid (ts.take (k + 1) = ts.take k ++ [x.t]) := Lib.hid (by rw [HTS.out, hx]; exact map_take_snoc hlt)
        have hxm : x.t ∈ ts := by rw [HTS.out, hx]; exact List.mem_map.2 ⟨_, List.getElem_mem hlt, rfl⟩
        have HXM := Lib.hid hxm
        have HN := Lib.hid (tk_new wr x)
        have HNL : Hid (wr.heap.size < (wr.alloc (.cells #[.int .i64 x.t.kind, .string ⟨x.t.text.toArray⟩, .int .i64 x.at_] 32)).heap.size) := Lib.hid (by simp)
        have hb1 := below_one wr (.cells #[.int .i64 x.t.kind, .string ⟨x.t.text.toArray⟩, .int .i64 x.at_] 32)
        have HU1 := Lib.hid (builder_below HU.out hb1)
        have HB1 := Lib.hid (below_next HB.out hb1)
        clear hx hc hxm hb1
        go_wp2_with fail
        generalize hW : wr.alloc (.cells #[.int .i64 x.t.kind, .string ⟨x.t.text.toArray⟩, .int .i64 x.at_] 32) = W1 at HN HNL HU1 HB1 ⊢
        clear hW p0 p1 p2
        obtain ⟨q0, q1, q2⟩ := HN.out
        simp only [Nat.zero_add] at q1 q2
        try go_wp2_with fail
        refine (owritten_walk x.t.kind x.t.text (by omega) x.at_ _).mono ?_
        rintro e w2 ⟨rfl, hb2⟩
        clear q0 q1 q2
        have hW2 : (⟨x.t.kind, x.t.text⟩ : Lex.Tok) = x.t := rfl
        rw [hW2]
        have HN2 := Lib.hid (HN.out.keep HNL.out hb2)
        have HNL2 : Hid (wr.heap.size < w2.heap.size) := Lib.hid (Nat.lt_of_lt_of_le HNL.out hb2.size)
        have HU2 := Lib.hid (builder_below HU1.out hb2)
        have HB2 := Lib.hid (below_next HB1.out hb2)
        have HWL := Lib.hid (Lex.written_most x.t)
        have HWR := Lib.hid (fun (b : Bool) (hb : b = true ↔ (x.t = Lex.endTok ∨ Lex.good x.t)) => readas_walk x.t x.at_ (by omega) b hb w2 (HG.out.next HB2.out))
        have HSN := Lib.hid (Lex.shown_snoc (ts.take k) x.t)
        obtain ⟨s, hs⟩ : ∃ s, s = Lex.written x.t := ⟨_, rfl⟩
        rw [← hs] at HWR HWL HSN ⊢
        clear hs hb2 HN HNL HU1 HB1 hW2
        obtain ⟨q0, q1, q2⟩ := HN2.out
        simp only [Nat.zero_add] at q1 q2
        by_cases hgd : x.t = Lex.endTok ∨ Lex.good x.t
        · have HC := Lib.hid (HWR.out true (by simp [hgd]))
          have HM2 : Hid (Lex.mayShow (ts.take (k + 1))) := Lib.hid (by rw [HT.out]; exact mayShow_snoc HM.out hgd)
          have HGD := Lib.hid hgd
          clear hgd
          by_cases hend : x.t = Lex.endTok
          · have hk0 : (x.t.kind == 0) = true := by rw [hend]; rfl
            have HSE : Hid (Lex.shown (ts.take (k + 1)) = Lex.shown (ts.take k)) := Lib.hid (by rw [HT.out, HSN.out, if_pos hend])
            clear hend
            go_wp2_with fail
            refine HC.out.mono ?_
            rintro e w3 ⟨rfl, hb3⟩
            have HN3 := Lib.hid (HN2.out.keep HNL2.out hb3)
            have HU3 := Lib.hid (builder_below HU2.out hb3)
            have HB3 := Lib.hid (below_next HB2.out hb3)
            clear q0 q1 q2 hb3
            obtain ⟨q0, q1, q2⟩ := HN3.out
            go_wp2
            go_roundw
            case rel => exact ⟨k + 1, by go_num, by omega, HM2, Lib.hid (by rw [HSE.out]; exact HU3.out), HB3⟩
            case measure => simp [intOf]; omega
          · have hgood : Lex.good x.t := by
              rcases HGD.out with h | h
              · exact absurd h hend
              · exact h
            have hk0 : (x.t.kind == 0) = false := by rw [beq_eq_false_iff_ne]; have := (Lex.good_kind hgood).1; omega
            by_cases hkp : Lex.kept (ts.take k) = []
            · have hz0 : (Lex.shown (ts.take k)).length = 0 := by rw [(Lex.shown_nil HM.out).2 hkp]; rfl
              have HSE : Hid (Lex.shown (ts.take (k + 1)) = Lex.shown (ts.take k) ++ s) := Lib.hid (by rw [HT.out, HSN.out, if_neg hend, if_pos hkp, (Lex.shown_nil HM.out).2 hkp]; rfl)
              have hbl : ((Lib.byteCells (Lex.shown (ts.take k))).length : Int) = 0 := by rw [Lib.byteCells_length, hz0]; rfl
              have HBL := Lib.hid hbl
              clear hend hgood hkp hz0 hbl
              go_wp2_with fail
              refine HC.out.mono ?_
              rintro e w3 ⟨rfl, hb3⟩
              have HN3 := Lib.hid (HN2.out.keep HNL2.out hb3)
              have HU3 := Lib.hid (builder_below HU2.out hb3)
              have HB3 := Lib.hid (below_next HB2.out hb3)
              clear q0 q1 q2 hb3
              obtain ⟨q0, q1, q2⟩ := HN3.out
              go_wp2_with fail
              refine (Tryz.builder_len _ _ _ _ HU3.out).mono ?_
              rintro e w4 ⟨he, rfl⟩
              rw [HBL.out] at he
              subst he
              go_wp2_with fail
              refine (Tryz.builder_write _ _ _ _ _ HU3.out (by rw [size_list, Lib.byteCells_length]; have := HWL.out; omega) HB3.out.size).mono ?_
              rintro e w5 ⟨rfl, hu5, hb5⟩
              have HU5 : Hid (Lib.IsBuilder 55 5 w.heap.size w.heap.size (Lib.byteCells (Lex.shown (ts.take (k + 1)))) w5) := Lib.hid (Or.inr (by rw [HSE.out, Lib.byteCells_append]; exact hu5))
              have HB5 := Lib.hid (HB3.out.trans hb5)
              clear hu5 hb5
              go_wp2
              go_roundw
              case rel => exact ⟨k + 1, by go_num, by omega, HM2, HU5, HB5⟩
              case measure => simp [intOf]; omega
            · have hz0 : 0 < (Lex.shown (ts.take k)).length := by
                rcases Nat.eq_zero_or_pos (Lex.shown (ts.take k)).length with h | h
                · exact absurd ((Lex.shown_nil HM.out).1 (List.eq_nil_of_length_eq_zero h)) hkp
                · exact h
              have HSE : Hid (Lex.shown (ts.take (k + 1)) = (Lex.shown (ts.take k) ++ [32]) ++ s) := Lib.hid (by rw [HT.out, HSN.out, if_neg hend, if_neg hkp]; simp)
              obtain ⟨z, hzz⟩ : ∃ z : Nat, z = (Lib.byteCells (Lex.shown (ts.take k))).length := ⟨_, rfl⟩
              have hz1 : (0 : Int) < (z : Int) := by rw [hzz, Lib.byteCells_length]; omega
              have HZZ := Lib.hid hzz
              clear hend hgood hkp hz0 hzz
              go_wp2_with fail
              refine HC.out.mono ?_
              rintro e w3 ⟨rfl, hb3⟩
              have HN3 := Lib.hid (HN2.out.keep HNL2.out hb3)
              have HU3 := Lib.hid (builder_below HU2.out hb3)
              have HB3 := Lib.hid (below_next HB2.out hb3)
              clear q0 q1 q2 hb3
              obtain ⟨q0, q1, q2⟩ := HN3.out
              go_wp2_with fail
              refine (Tryz.builder_len _ _ _ _ HU3.out).mono ?_
              rintro e w4 ⟨he, rfl⟩
              rw [← HZZ.out] at he
              subst he
              go_wp2_with fail
              refine (Tryz.builder_write _ _ _ ⟨#[32]⟩ _ HU3.out (by rw [show (⟨#[32]⟩ : ByteArray).size = 1 from rfl, Lib.byteCells_length]; omega) HB3.out.size).mono ?_
              rintro e w5 ⟨rfl, hu5, hb5⟩
              have HU5 : Hid (Lib.IsBuilder 55 5 w.heap.size w.heap.size (Lib.byteCells (Lex.shown (ts.take k) ++ [32])) w5) := Lib.hid (Or.inr (by rw [Lib.byteCells_append]; exact hu5))
              have HB5 := Lib.hid (HB3.out.trans hb5)
              clear hu5 hb5 q0 q1 q2
              go_wp2_with fail
              refine (Tryz.builder_write _ _ _ _ _ HU5.out (by rw [size_list, Lib.byteCells_length, List.length_append]; simp; have := HWL.out; omega) HB5.out.size).mono ?_
              rintro e w6 ⟨rfl, hu6, hb6⟩
              have HU6 : Hid (Lib.IsBuilder 55 5 w.heap.size w.heap.size (Lib.byteCells (Lex.shown (ts.take (k + 1)))) w6) := Lib.hid (Or.inr (by rw [HSE.out, Lib.byteCells_append]; exact hu6))
              have HB6 := Lib.hid (HB5.out.trans hb6)
              clear hu6 hb6
              go_wp2
              go_roundw
              case rel => exact ⟨k + 1, by go_num, by omega, HM2, HU6, HB6⟩
              case measure => simp [intOf]; omega
        · have HC := Lib.hid (HWR.out false (by simp [hgd]))
          have HNO : Hid (¬ Lex.mayShow ts) := Lib.hid (fun h => hgd (h _ HXM.out))
          clear hgd
          go_wp2_with fail
          refine HC.out.mono ?_
          rintro e w3 ⟨rfl, hb3⟩
          have HB3 := Lib.hid (below_next HB2.out hb3)
          go_wp2
          go_ret2
          exact ⟨Or.inr ⟨HNO.out, rfl⟩, HB3.out⟩
    · have hi1 : ¬ (k : Int) < (l.length : Int) := by omega
      have HT : Hid (ts.take k = ts) := Lib.hid (List.take_of_length_le (by rw [HTL.out]; omega))
      have HU2 := HU.out
      have HM2 := HM.out
      rw [HT.out] at HU2 HM2
      have HUU := Lib.hid HU2
      have HMM := Lib.hid HM2
      clear HU2 HM2
      go_wp2_with fail
      refine (Tryz.builder_text _ _ _ _ HUU.out HB.out.size).mono ?_
      rintro e w2 ⟨rfl, hb2⟩
      go_wp2
      go_ret2
      exact ⟨Or.inl ⟨HMM.out, rfl⟩, HB.out.trans hb2⟩
end Go.Proofs.YtebphmkefpaeaaaGreatDoor
