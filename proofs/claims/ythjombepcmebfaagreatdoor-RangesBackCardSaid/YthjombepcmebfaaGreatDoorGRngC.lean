/- RngO8, ShelfRng, RngGlob, RngO9, RngSplit, RngO10, RngRow, RngO11, RngO12, RngO13, RngAwake, RngLight, RngLawsH, together. -/
import Derived.Test.YthjombepcmebfaaGreatDoorRngO7
import Derived.Shelf.Small.Wraps
import Derived.Shelf.Strings.SlTrimAscii
import Derived.Shelf.Strings.OnBuilder
import Derived.Test.YthjombepcmebfaaGreatDoorGSemB
import Derived.Test.YthjombepcmebfaaGreatDoorGSemC
import Derived.Test.YthjombepcmebfaaGreatDoorGPure
import Derived.Test.YthjombepcmebfaaGreatDoorGSemA
import Derived.Test.YthjombepcmebfaaGreatDoorGRngB
import Derived.Test.YthjombepcmebfaaGreatDoorGRngA
import Derived.Laws.MakeOwn
/- The program's Normal of ranges. -/
namespace Go.Proofs.YthjombepcmebfaaGreatDoor
open Go.RowKit
set_option linter.unusedVariables false

def endsCells : Obj := .cells #[.int .i64 0, .int .i64 0, .int .i64 0, .int .i64 0, .string ⟨#[]⟩, .int .i64 0, .int .i64 0, .int .i64 0, .int .i64 0, .string ⟨#[]⟩] 74

theorem ends_new (w : World) : EndsAt (w.alloc endsCells) w.heap.size Rng.zero Rng.zero := by
  unfold endsCells
  constructor
  all_goals simp [go_sem, Rng.zero]

set_option maxRecDepth 100000 in
set_option maxHeartbeats 4000000 in
theorem normal_walk (A : Option Addr) (cap : Nat) (ls : List Row) (w : World) (hA : Bdss w w.heap.size A ls) (hl : ls.length ≤ 1000000) (hll : ∀ r ∈ ls, r.l.length ≤ 1000000) (hs : ∀ r ∈ ls, ∀ b ∈ r.l, b.v.pre.length ≤ 1000000) :
    Calls Tryz.prog 24 #[.slice A ls.length cap] w fun e w' => BdsR w (Rng.normal (flat ls)) e w' := by
  have hb1 := below_one w endsCells
  have HA := Lib.hid (hA.keep hb1 (Nat.le_refl _))
  have HE := Lib.hid (ends_new w)
  have HEL := Lib.hid (ends_len (l := flat ls) (fun b hb => by
    obtain ⟨r, hr, hb⟩ := List.mem_flatMap.1 hb
    exact hs r hr b hb))
  have HS : Hid (Rng.shut ((Rng.ends (flat ls)).1, (Rng.ends (flat ls)).2) = Rng.normal (flat ls)) := Lib.hid (Rng.shut_ends _)
  clear hA
  unfold endsCells at HA HE hb1
  go_enter Tryz.func24, Tryz.ntmps24
  go_wp2_with fail
  refine (each_walk w.heap.size A cap ls _ HA.out hl hll hs HE.out).mono ?_
  rintro e w2 ⟨rfl, hE2, hb2⟩
  have hb3 : Below w.heap.size w w2 := hb1.trans hb2
  clear hb1 hb2 HA HE
  go_wp2_with fail
  refine (bounds_walk w.heap.size _ _ HEL.out.1 HEL.out.2 _ hE2).mono ?_
  rintro e w4 ⟨B, c, rfl, hc, hB, hb4⟩
  rw [HS.out] at hB hc ⊢
  have hb5 := below_next hb3 hb4
  clear hE2 hb3 hb4
  go_wp2
  go_ret
  exact ⟨B, c, rfl, hc, hB, hb5⟩
end Go.Proofs.YthjombepcmebfaaGreatDoor

/- The library contracts that layer 5 uses (strings.CutPrefix, strings.TrimLeft at an ASCII cutset, strings.Join), stated at this translation's numbers. -/
namespace Go.Proofs
open Go.Shelf
def Tryz.lays103_ren : Go.Shelf.Ren := ⟨fun | 103 => 28 | 210 => 54 | 206 => 79 | n => n, fun | 9 => 9 | 4 => 4 | 24 => 52 | 3 => 3 | n => n, fun | n => n⟩
theorem Tryz.lays103 : Go.Proofs.Lays.n103 Tryz.prog Tryz.lays103_ren := {
  mixed := by kernel_rfl
  f103 := Tryz.func28.trans (congrArg some (by kernel_rfl))
  f206 := Tryz.func79.trans (congrArg some (by kernel_rfl))
  f210 := Tryz.func54.trans (congrArg some (by kernel_rfl))
  t3 := Tryz.underlying3
  a3 := Tryz.isAgg3
  z3 := Tryz.sizeOf3
  v3 := Tryz.zeroValue3
  t4 := Tryz.underlying4
  a4 := Tryz.isAgg4
  z4 := Tryz.sizeOf4
  v4 := Tryz.zeroValue4
  t9 := Tryz.underlying9
  a9 := Tryz.isAgg9
  z9 := Tryz.sizeOf9
  v9 := Tryz.zeroValue9
  t24 := Tryz.underlying52
  a24 := Tryz.isAgg52
  z24 := Tryz.sizeOf52
  v24 := Tryz.zeroValue52 }
def Tryz.lays156_ren : Go.Shelf.Ren := ⟨fun | 156 => 36 | 165 => 60 | 166 => 61 | 169 => 62 | 240 => 90 | 241 => 91 | 276 => 108 | 277 => 109 | n => n, fun | 31 => 54 | 9 => 9 | 3 => 3 | 4 => 4 | 0 => 0 | 20 => 20 | 72 => 98 | 76 => 102 | 70 => 95 | 37 => 96 | 75 => 101 | 127 => 121 | 164 => 129 | 5 => 5 | 80 => 104 | n => n, fun | n => n⟩
theorem Tryz.lays156 : Go.Proofs.Lays.n156 Tryz.prog Tryz.lays156_ren := {
  mixed := by kernel_rfl
  f156 := Tryz.func36.trans (congrArg some (by kernel_rfl))
  f165 := Tryz.func60.trans (congrArg some (by kernel_rfl))
  f166 := Tryz.func61.trans (congrArg some (by kernel_rfl))
  f169 := Tryz.func62.trans (congrArg some (by kernel_rfl))
  f240 := Tryz.func90.trans (congrArg some (by kernel_rfl))
  f241 := Tryz.func91.trans (congrArg some (by kernel_rfl))
  f276 := Tryz.func108.trans (congrArg some (by kernel_rfl))
  f277 := Tryz.func109.trans (congrArg some (by kernel_rfl))
  t0 := Tryz.underlying0
  a0 := Tryz.isAgg0
  z0 := Tryz.sizeOf0
  v0 := Tryz.zeroValue0
  t3 := Tryz.underlying3
  a3 := Tryz.isAgg3
  z3 := Tryz.sizeOf3
  v3 := Tryz.zeroValue3
  t4 := Tryz.underlying4
  a4 := Tryz.isAgg4
  z4 := Tryz.sizeOf4
  v4 := Tryz.zeroValue4
  t9 := Tryz.underlying9
  a9 := Tryz.isAgg9
  z9 := Tryz.sizeOf9
  v9 := Tryz.zeroValue9
  t20 := Tryz.underlying20
  a20 := Tryz.isAgg20
  z20 := Tryz.sizeOf20
  v20 := Tryz.zeroValue20
  t31 := Tryz.underlying54
  a31 := Tryz.isAgg54
  z31 := Tryz.sizeOf54
  v31 := Tryz.zeroValue54
  t37 := Tryz.underlying96
  a37 := Tryz.isAgg96
  z37 := Tryz.sizeOf96
  v37 := Tryz.zeroValue96
  t70 := Tryz.underlying95
  a70 := Tryz.isAgg95
  z70 := Tryz.sizeOf95
  v70 := Tryz.zeroValue95
  t72 := Tryz.underlying98
  a72 := Tryz.isAgg98
  z72 := Tryz.sizeOf98
  v72 := Tryz.zeroValue98
  t75 := Tryz.underlying101
  a75 := Tryz.isAgg101
  z75 := Tryz.sizeOf101
  v75 := Tryz.zeroValue101
  t76 := Tryz.underlying102
  a76 := Tryz.isAgg102
  z76 := Tryz.sizeOf102
  v76 := Tryz.zeroValue102
  t127 := Tryz.underlying121
  a127 := Tryz.isAgg121
  z127 := Tryz.sizeOf121
  v127 := Tryz.zeroValue121
  t164 := Tryz.underlying129
  a164 := Tryz.isAgg129
  z164 := Tryz.sizeOf129
  v164 := Tryz.zeroValue129 }
theorem Tryz.extra156 : Builder.Extra Tryz.prog Tryz.lays156_ren := {
  sizeBuilder := by kernel_rfl
  liesBuilder := by kernel_rfl
  t5 := Tryz.underlying5
  a5 := Tryz.isAgg5
  z5 := Tryz.sizeOf5
  v5 := Tryz.zeroValue5
  infoByte := by kernel_rfl
  cellsByte := by kernel_rfl
  sizeByte := by kernel_rfl
  neB5 := by decide }
end Go.Proofs
namespace Go.Proofs.YthjombepcmebfaaGreatDoor
open Go.RowKit

theorem cutPrefix_walk (s p : ByteArray) (w : World) :
    Calls Tryz.prog 28 #[.string s, .string p] w fun e w' => e = .returned (.tuple #[.string ⟨(Lib.trimPrefix s.data.toList p.data.toList).toArray⟩, .bool (Lib.hasPrefix s.data.toList p.data.toList)]) ∧ w' = w :=
  Any.strings_CutPrefix Tryz.lays103 s p w

theorem trimLeft_walk (s cutset : ByteArray) (w : World) (hcs : cutset.size < 4294967281) (hascii : ∀ (j : Nat) b, cutset.data.toList[j]? = some b → b.toNat < 128) :
    Calls Tryz.prog 57 #[.string s, .string cutset] w fun e w' => e = .returned (.string ⟨(Lib.trimLeftS s.data.toList cutset.data.toList).toArray⟩) ∧ Below w.heap.size w w' :=
  Any.strings_TrimLeft_laid Tryz.lays161 (by kernel_rfl) s cutset w hcs hascii

theorem join_walk (bk o c : Nat) (xs : List ByteArray) (sep : ByteArray) (w : World)
    (hcells : ∀ (j : Nat) x, xs[j]? = some x → w.cell? ⟨bk, o + j, none⟩ = some (.string x))
    (hbk : bk < w.heap.size) (hN : xs.length ≤ 140737488355328) (hcap : xs.length ≤ c)
    (hlen : (Lib.join (xs.map (·.data.toList)) sep.data.toList).length ≤ 140737488355328) :
    Calls Tryz.prog 36 #[.slice (some ⟨bk, o, none⟩) xs.length c, .string sep] w fun e w' => e = .returned (.string ⟨(Lib.join (xs.map (·.data.toList)) sep.data.toList).toArray⟩) ∧ Below w.heap.size w w' :=
  Any.strings_Join Tryz.lays156 Tryz.extra156 bk o c xs sep w hcells hbk hN hcap hlen
end Go.Proofs.YthjombepcmebfaaGreatDoor

/- What the variable holds that the program's ranges read: the signs. -/
namespace Go.Proofs.YthjombepcmebfaaGreatDoor
open Go.RowKit
set_option linter.unusedVariables false

def signsC : Array Value := #[.string ⟨#[]⟩, .string ⟨#[60]⟩, .string ⟨#[60, 61]⟩, .string ⟨#[61]⟩, .string ⟨#[62, 61]⟩, .string ⟨#[62]⟩]

theorem signs_at : Tryz.prog.globalNamed "pandect/ranges.signs" = some 0 := by kernel_rfl

/-- All variables hold what the program's text lays. -/
structure RGlobs (w : World) : Prop where
  g : Globs w
  s : w.var? Tryz.prog "pandect/ranges.signs" = some signsC

theorem RGlobs.cell {w : World} (h : RGlobs w) (i : Nat) : w.cell? ⟨0, i, none⟩ = signsC[i]? := World.var?_cell signs_at h.s i

theorem RGlobs.next {w w' : World} (h : RGlobs w) (hb : Below w.heap.size w w') : RGlobs w' :=
  ⟨h.g.next hb, var?_below hb signs_at (Lib.lt_of_cell ((h.cell 0).trans (by rfl : signsC[0]? = some (.string ⟨#[]⟩)))) h.s⟩

theorem rglobs_of {L : List (String × DataW Unit)} {W : World} (h : laidMet Tryz.prog L W) (m1 : ("strconv.ErrSyntax", Rows.laid_strconv_ErrSyntax) ∈ L) (m2 : ("strconv.ErrRange", Rows.laid_strconv_ErrRange) ∈ L)
    (m3 : ("internal/strconv.uint64pow10", Rows.laid_internal_strconv_uint64pow10) ∈ L) (m4 : ("pandect/ranges.signs", Rows.laid_pandect_ranges_signs) ∈ L) : RGlobs W := by
  refine ⟨globs_of h m1 m2 m3, ?_⟩
  obtain ⟨ps, hv, _, _⟩ := h
  obtain ⟨g1, t1, cs, f1, p1, a1, b1, c1, d1⟩ := laidVars_mem hv _ m4
  obtain rfl := Option.some.inj (signs_at.symm.trans a1)
  have ht : (Tryz.prog.globals[0]?).map (·.type) = some 65 := by kernel_rfl
  obtain rfl := Option.some.inj (ht.symm.trans b1)
  rw [c1]
  congr 1
  have hc1 : Tryz.prog.cellsOf 9 = 1 := by kernel_rfl
  obtain ⟨xs, m, _, hx, hsz, hl, he⟩ := DataW.trod_array Tryz.underlying65 d1
  rw [hc1] at he
  have hc6 : Tryz.prog.cellsOf 65 = 6 := by kernel_rfl
  rw [hc6] at hsz
  have hx1 := (Prod.mk.inj hx).1
  apply Array.ext'
  match xs, hl, hx1 with
  | [y0, y1, y2, y3, y4, y5], _, hx1 =>
    obtain ⟨L, hL⟩ : ∃ L, L = cs.toList := ⟨_, rfl⟩
    rw [← hL] at hsz he ⊢
    clear hL
    match L, hsz with
    | [k0, k1, k2, k3, k4, k5], _ =>
      have e0 := he 0 (by omega)
      have e1 := he 1 (by omega)
      have e2 := he 2 (by omega)
      have e3 := he 3 (by omega)
      have e4 := he 4 (by omega)
      have e5 := he 5 (by omega)
      simp only [List.getElem?_cons_zero, List.getElem?_cons_succ, Nat.mul_one, List.drop_zero, List.drop_succ_cons, List.take_succ_cons, List.take_zero] at e0 e1 e2 e3 e4 e5
      obtain ⟨x0, h0, rfl, _⟩ := DataW.trod_string Tryz.underlying9 e0
      obtain ⟨x1, h1, rfl, _⟩ := DataW.trod_string Tryz.underlying9 e1
      obtain ⟨x2, h2, rfl, _⟩ := DataW.trod_string Tryz.underlying9 e2
      obtain ⟨x3, h3, rfl, _⟩ := DataW.trod_string Tryz.underlying9 e3
      obtain ⟨x4, h4, rfl, _⟩ := DataW.trod_string Tryz.underlying9 e4
      obtain ⟨x5, h5, rfl, _⟩ := DataW.trod_string Tryz.underlying9 e5
      simp at h0 h1 h2 h3 h4 h5
      simp [Rows.laid_pandect_ranges_signs] at hx1
      obtain ⟨z0, z1, z2, z3, z4, z5⟩ := hx1
      have key : ∀ (x : ByteArray) (l : List UInt8), l = x.data.toList → x = ⟨l.toArray⟩ := fun x l h => by rw [h]
      rw [h0, h1, h2, h3, h4, h5]
      have k0 := key x0 [] (by simp [z0])
      have k1 := key x1 [60] (by simp [← z1])
      have k2 := key x2 [60, 61] (by simp [← z2])
      have k3 := key x3 [61] (by simp [← z3])
      have k4 := key x4 [62, 61] (by simp [← z4])
      have k5 := key x5 [62] (by simp [← z5])
      rw [k0, k1, k2, k3, k4, k5]; rfl
end Go.Proofs.YthjombepcmebfaaGreatDoor

/- The program's opOf: a sign as an Op. -/
namespace Go.Proofs.YthjombepcmebfaaGreatDoor
open Go.RowKit
set_option linter.unusedVariables false

def opR (o : Option Int) : Value := match o with
  | some op => .tuple #[.int .i64 op, .bool true]
  | none => .tuple #[.int .i64 0, .bool false]

theorem sign_text {s l : List UInt8} (h : (l == s) = true) : s = l := (beq_iff_eq.1 h).symm
theorem sign_not {s l : List UInt8} (h : (l == s) = false) : s ≠ l := fun e => by
  rw [beq_eq_false_iff_ne] at h
  exact h e.symm

set_option maxRecDepth 100000 in
set_option maxHeartbeats 4000000 in
theorem opOfL_walk (s : List UInt8) (w : World) (hg : RGlobs w) :
    Calls Tryz.prog 58 #[.string ⟨s.toArray⟩] w fun e w' => e = .returned (opR (Rng.opOf s)) ∧ w = w' := by
  have c0 : w.cell? ⟨0, 0, none⟩ = some (.string ⟨#[]⟩) := hg.cell 0
  have c1 : w.cell? ⟨0, 1, none⟩ = some (.string ⟨#[60]⟩) := hg.cell 1
  have c2 : w.cell? ⟨0, 2, none⟩ = some (.string ⟨#[60, 61]⟩) := hg.cell 2
  have c3 : w.cell? ⟨0, 3, none⟩ = some (.string ⟨#[61]⟩) := hg.cell 3
  have c4 : w.cell? ⟨0, 4, none⟩ = some (.string ⟨#[62, 61]⟩) := hg.cell 4
  have c5 : w.cell? ⟨0, 5, none⟩ = some (.string ⟨#[62]⟩) := hg.cell 5
  clear hg
  have i0 : ∀ W, (Instr.index 65 (.agg #[.string ⟨#[]⟩, .string ⟨#[60]⟩, .string ⟨#[60, 61]⟩, .string ⟨#[61]⟩, .string ⟨#[62, 61]⟩, .string ⟨#[62]⟩]) (.int .i64 0)).run Tryz.prog W = .ok (.string ⟨#[]⟩) W := fun W => by kernel_rfl
  have i1 : ∀ W, (Instr.index 65 (.agg #[.string ⟨#[]⟩, .string ⟨#[60]⟩, .string ⟨#[60, 61]⟩, .string ⟨#[61]⟩, .string ⟨#[62, 61]⟩, .string ⟨#[62]⟩]) (.int .i64 1)).run Tryz.prog W = .ok (.string ⟨#[60]⟩) W := fun W => by kernel_rfl
  have i2 : ∀ W, (Instr.index 65 (.agg #[.string ⟨#[]⟩, .string ⟨#[60]⟩, .string ⟨#[60, 61]⟩, .string ⟨#[61]⟩, .string ⟨#[62, 61]⟩, .string ⟨#[62]⟩]) (.int .i64 2)).run Tryz.prog W = .ok (.string ⟨#[60, 61]⟩) W := fun W => by kernel_rfl
  have i3 : ∀ W, (Instr.index 65 (.agg #[.string ⟨#[]⟩, .string ⟨#[60]⟩, .string ⟨#[60, 61]⟩, .string ⟨#[61]⟩, .string ⟨#[62, 61]⟩, .string ⟨#[62]⟩]) (.int .i64 3)).run Tryz.prog W = .ok (.string ⟨#[61]⟩) W := fun W => by kernel_rfl
  have i4 : ∀ W, (Instr.index 65 (.agg #[.string ⟨#[]⟩, .string ⟨#[60]⟩, .string ⟨#[60, 61]⟩, .string ⟨#[61]⟩, .string ⟨#[62, 61]⟩, .string ⟨#[62]⟩]) (.int .i64 4)).run Tryz.prog W = .ok (.string ⟨#[62, 61]⟩) W := fun W => by kernel_rfl
  have i5 : ∀ W, (Instr.index 65 (.agg #[.string ⟨#[]⟩, .string ⟨#[60]⟩, .string ⟨#[60, 61]⟩, .string ⟨#[61]⟩, .string ⟨#[62, 61]⟩, .string ⟨#[62]⟩]) (.int .i64 5)).run Tryz.prog W = .ok (.string ⟨#[62]⟩) W := fun W => by kernel_rfl
  go_enter Tryz.func58, Tryz.ntmps58
  go_wp2_with fail
  go_loopw [7] (fun ii wr => ∃ i : Int, ii = .int .i64 i ∧ 0 ≤ i ∧ i ≤ 6 ∧ Hid ((2 ≤ i → s ≠ [60]) ∧ (3 ≤ i → s ≠ [60, 61]) ∧ (4 ≤ i → s ≠ [61]) ∧ (5 ≤ i → s ≠ [62, 61]) ∧ (6 ≤ i → s ≠ [62])) ∧ w = wr)
    (fun i _ => (6 - intOf i).toNat)
  case atStart => exact ⟨0, rfl, by omega, by omega, Lib.hid ⟨fun h => absurd h (by omega), fun h => absurd h (by omega), fun h => absurd h (by omega), fun h => absurd h (by omega), fun h => absurd h (by omega)⟩, rfl⟩
  case round =>
    obtain ⟨i, rfl, hi0, hi, HN, rfl⟩ := hrel
    clear c0 c1 c2 c3 c4 c5
    have hc : i = 0 ∨ i = 1 ∨ i = 2 ∨ i = 3 ∨ i = 4 ∨ i = 5 ∨ i = 6 := by omega
    rcases hc with rfl | rfl | rfl | rfl | rfl | rfl | rfl
    · go_wp2_with fail
      refine (isOp_walk 0 _).mono ?_
      rintro e w2 ⟨he, rfl⟩
      have h5 : decide ((1 : Int) ≤ 0 ∧ (0 : Int) ≤ 5) = false := by decide
      rw [h5] at he
      subst he
      go_wp2
      go_roundw
      case rel => exact ⟨1, rfl, by omega, by omega, Lib.hid ⟨fun h => absurd h (by omega), fun h => absurd h (by omega), fun h => absurd h (by omega), fun h => absurd h (by omega), fun h => absurd h (by omega)⟩, trivial⟩
      case measure => simp [intOf]
    · cases hq : ([60] == s)
      · have HN2 := Lib.hid (show ((2 : Int) ≤ 2 → s ≠ [60]) ∧ ((3 : Int) ≤ 2 → s ≠ [60, 61]) ∧ ((4 : Int) ≤ 2 → s ≠ [61]) ∧ ((5 : Int) ≤ 2 → s ≠ [62, 61]) ∧ ((6 : Int) ≤ 2 → s ≠ [62]) from ⟨fun _ => sign_not (l := [60]) hq, fun h => absurd h (by omega), fun h => absurd h (by omega), fun h => absurd h (by omega), fun h => absurd h (by omega)⟩)
        go_wp2_with fail
        refine (isOp_walk 1 _).mono ?_
        rintro e w2 ⟨he, rfl⟩
        have h5 : decide ((1 : Int) ≤ 1 ∧ (1 : Int) ≤ 5) = true := by decide
        rw [h5] at he
        subst he
        go_wp2
        go_roundw
        case rel => exact ⟨2, rfl, by omega, by omega, HN2, trivial⟩
        case measure => simp [intOf]
      · have HR : Hid (opR (Rng.opOf s) = .tuple #[.int .i64 1, .bool true]) := Lib.hid (by rw [sign_text (l := [60]) hq]; rfl)
        go_wp2_with fail
        refine (isOp_walk 1 _).mono ?_
        rintro e w2 ⟨he, rfl⟩
        have h5 : decide ((1 : Int) ≤ 1 ∧ (1 : Int) ≤ 5) = true := by decide
        rw [h5] at he
        subst he
        go_wp2
        go_ret2
        exact ⟨by rw [HR.out]; rfl, rfl⟩
    · cases hq : ([60, 61] == s)
      · have HN2 := Lib.hid (show ((2 : Int) ≤ 3 → s ≠ [60]) ∧ ((3 : Int) ≤ 3 → s ≠ [60, 61]) ∧ ((4 : Int) ≤ 3 → s ≠ [61]) ∧ ((5 : Int) ≤ 3 → s ≠ [62, 61]) ∧ ((6 : Int) ≤ 3 → s ≠ [62]) from ⟨fun _ => HN.out.1 (by omega), fun _ => sign_not (l := [60, 61]) hq, fun h => absurd h (by omega), fun h => absurd h (by omega), fun h => absurd h (by omega)⟩)
        go_wp2_with fail
        refine (isOp_walk 2 _).mono ?_
        rintro e w2 ⟨he, rfl⟩
        have h5 : decide ((1 : Int) ≤ 2 ∧ (2 : Int) ≤ 5) = true := by decide
        rw [h5] at he
        subst he
        go_wp2
        go_roundw
        case rel => exact ⟨3, rfl, by omega, by omega, HN2, trivial⟩
        case measure => simp [intOf]
      · have HR : Hid (opR (Rng.opOf s) = .tuple #[.int .i64 2, .bool true]) := Lib.hid (by rw [sign_text (l := [60, 61]) hq]; rfl)
        go_wp2_with fail
        refine (isOp_walk 2 _).mono ?_
        rintro e w2 ⟨he, rfl⟩
        have h5 : decide ((1 : Int) ≤ 2 ∧ (2 : Int) ≤ 5) = true := by decide
        rw [h5] at he
        subst he
        go_wp2
        go_ret2
        exact ⟨by rw [HR.out]; rfl, rfl⟩
    · cases hq : ([61] == s)
      · have HN2 := Lib.hid (show ((2 : Int) ≤ 4 → s ≠ [60]) ∧ ((3 : Int) ≤ 4 → s ≠ [60, 61]) ∧ ((4 : Int) ≤ 4 → s ≠ [61]) ∧ ((5 : Int) ≤ 4 → s ≠ [62, 61]) ∧ ((6 : Int) ≤ 4 → s ≠ [62]) from ⟨fun _ => HN.out.1 (by omega), fun _ => HN.out.2.1 (by omega), fun _ => sign_not (l := [61]) hq, fun h => absurd h (by omega), fun h => absurd h (by omega)⟩)
        go_wp2_with fail
        refine (isOp_walk 3 _).mono ?_
        rintro e w2 ⟨he, rfl⟩
        have h5 : decide ((1 : Int) ≤ 3 ∧ (3 : Int) ≤ 5) = true := by decide
        rw [h5] at he
        subst he
        go_wp2
        go_roundw
        case rel => exact ⟨4, rfl, by omega, by omega, HN2, trivial⟩
        case measure => simp [intOf]
      · have HR : Hid (opR (Rng.opOf s) = .tuple #[.int .i64 3, .bool true]) := Lib.hid (by rw [sign_text (l := [61]) hq]; rfl)
        go_wp2_with fail
        refine (isOp_walk 3 _).mono ?_
        rintro e w2 ⟨he, rfl⟩
        have h5 : decide ((1 : Int) ≤ 3 ∧ (3 : Int) ≤ 5) = true := by decide
        rw [h5] at he
        subst he
        go_wp2
        go_ret2
        exact ⟨by rw [HR.out]; rfl, rfl⟩
    · cases hq : ([62, 61] == s)
      · have HN2 := Lib.hid (show ((2 : Int) ≤ 5 → s ≠ [60]) ∧ ((3 : Int) ≤ 5 → s ≠ [60, 61]) ∧ ((4 : Int) ≤ 5 → s ≠ [61]) ∧ ((5 : Int) ≤ 5 → s ≠ [62, 61]) ∧ ((6 : Int) ≤ 5 → s ≠ [62]) from ⟨fun _ => HN.out.1 (by omega), fun _ => HN.out.2.1 (by omega), fun _ => HN.out.2.2.1 (by omega), fun _ => sign_not (l := [62, 61]) hq, fun h => absurd h (by omega)⟩)
        go_wp2_with fail
        refine (isOp_walk 4 _).mono ?_
        rintro e w2 ⟨he, rfl⟩
        have h5 : decide ((1 : Int) ≤ 4 ∧ (4 : Int) ≤ 5) = true := by decide
        rw [h5] at he
        subst he
        go_wp2
        go_roundw
        case rel => exact ⟨5, rfl, by omega, by omega, HN2, trivial⟩
        case measure => simp [intOf]
      · have HR : Hid (opR (Rng.opOf s) = .tuple #[.int .i64 4, .bool true]) := Lib.hid (by rw [sign_text (l := [62, 61]) hq]; rfl)
        go_wp2_with fail
        refine (isOp_walk 4 _).mono ?_
        rintro e w2 ⟨he, rfl⟩
        have h5 : decide ((1 : Int) ≤ 4 ∧ (4 : Int) ≤ 5) = true := by decide
        rw [h5] at he
        subst he
        go_wp2
        go_ret2
        exact ⟨by rw [HR.out]; rfl, rfl⟩
    · cases hq : ([62] == s)
      · have HN2 := Lib.hid (show ((2 : Int) ≤ 6 → s ≠ [60]) ∧ ((3 : Int) ≤ 6 → s ≠ [60, 61]) ∧ ((4 : Int) ≤ 6 → s ≠ [61]) ∧ ((5 : Int) ≤ 6 → s ≠ [62, 61]) ∧ ((6 : Int) ≤ 6 → s ≠ [62]) from ⟨fun _ => HN.out.1 (by omega), fun _ => HN.out.2.1 (by omega), fun _ => HN.out.2.2.1 (by omega), fun _ => HN.out.2.2.2.1 (by omega), fun _ => sign_not (l := [62]) hq⟩)
        go_wp2_with fail
        refine (isOp_walk 5 _).mono ?_
        rintro e w2 ⟨he, rfl⟩
        have h5 : decide ((1 : Int) ≤ 5 ∧ (5 : Int) ≤ 5) = true := by decide
        rw [h5] at he
        subst he
        go_wp2
        go_roundw
        case rel => exact ⟨6, rfl, by omega, by omega, HN2, trivial⟩
        case measure => simp [intOf]
      · have HR : Hid (opR (Rng.opOf s) = .tuple #[.int .i64 5, .bool true]) := Lib.hid (by rw [sign_text (l := [62]) hq]; rfl)
        go_wp2_with fail
        refine (isOp_walk 5 _).mono ?_
        rintro e w2 ⟨he, rfl⟩
        have h5 : decide ((1 : Int) ≤ 5 ∧ (5 : Int) ≤ 5) = true := by decide
        rw [h5] at he
        subst he
        go_wp2
        go_ret2
        exact ⟨by rw [HR.out]; rfl, rfl⟩
    · have HR : Hid (opR (Rng.opOf s) = .tuple #[.int .i64 0, .bool false]) := Lib.hid (by
        obtain ⟨h1, h2, h3, h4, h5⟩ := HN.out
        unfold Rng.opOf
        rw [if_neg (h1 (by omega)), if_neg (h2 (by omega)), if_neg (h3 (by omega)), if_neg (h4 (by omega)), if_neg (h5 (by omega))]
        rfl)
      go_wp2
      go_ret2
      exact ⟨by rw [HR.out]; rfl, rfl⟩

theorem opOf_walk (s : ByteArray) (w : World) (hg : RGlobs w) :
    Calls Tryz.prog 58 #[.string s] w fun e w' => e = .returned (opR (Rng.opOf s.data.toList)) ∧ w = w' := by
  have h := opOfL_walk s.data.toList w hg
  rw [← tx_of s] at h
  exact h
end Go.Proofs.YthjombepcmebfaaGreatDoor

/- strings.SplitN at a blank, in 21 pieces at most, for every text. -/
namespace Rng
open Sem

/-- Cut at the first k blanks at most. -/
def splitB : Nat → List UInt8 → List (List UInt8)
  | 0, l => [l]
  | k + 1, l => if (cut 32 l).2.2 = true then (cut 32 l).1 :: splitB k (cut 32 l).2.1 else [l]

theorem splitB_miss {k : Nat} {l : List UInt8} (h : (cut 32 l).2.2 = false) : splitB k l = [l] := by
  cases k with
  | zero => rfl
  | succ k => rw [splitB, if_neg (by rw [h]; simp)]

theorem splitB_hit {k : Nat} {l p q : List UInt8} (h : cut 32 l = (p, q, true)) : splitB (k + 1) l = p :: splitB k q := by
  rw [splitB, h, if_pos rfl]

theorem splitB_len : ∀ (k : Nat) (l : List UInt8), (splitB k l).length ≤ k + 1
  | 0, l => by simp [splitB]
  | k + 1, l => by
    rw [splitB]
    split
    · have := splitB_len k (cut 32 l).2.1
      simp only [List.length_cons]; omega
    · simp

theorem splitB_short : ∀ (k : Nat) (l : List UInt8), ∀ p ∈ splitB k l, p.length ≤ l.length
  | 0, l, p, hp => by simp [splitB] at hp; rw [hp]; omega
  | k + 1, l, p, hp => by
    rw [splitB] at hp
    split at hp
    · obtain ⟨h1, h2, _⟩ := cut_len 32 l
      rcases List.mem_cons.1 hp with rfl | hp
      · exact h1
      · exact Nat.le_trans (splitB_short k _ p hp) h2
    · simp at hp; rw [hp]; omega

theorem words_cut (l : List UInt8) : words l = if (cut 32 l).2.2 = true then (cut 32 l).1 :: words (cut 32 l).2.1 else [l] := by
  induction l with
  | nil => rfl
  | cons d r ih =>
    by_cases h : d = 32
    · subst h; rw [words_blank, cut, if_pos rfl]; rfl
    · rw [cut, if_neg h]
      simp only
      rcases hp : words r with _ | ⟨p, ps⟩
      · exact absurd hp (words_ne r)
      · rw [words_cons h hp]
        rw [hp] at ih
        by_cases hc : (cut 32 r).2.2 = true
        · rw [if_pos hc] at ih ⊢
          simp only [List.cons.injEq] at ih
          rw [ih.1, ih.2]
        · rw [if_neg hc] at ih ⊢
          simp only [List.cons.injEq] at ih
          rw [ih.1, ih.2]

/-- The pieces are the words, if there are no more. -/
theorem splitB_words : ∀ (k : Nat) (l : List UInt8), if (words l).length ≤ k + 1 then splitB k l = words l else (splitB k l).length = k + 1
  | 0, l => by
    split
    · rename_i h
      rw [words_cut] at h ⊢
      split
      · rename_i hc
        rw [if_pos hc, List.length_cons] at h
        have := List.length_pos_iff.2 (words_ne (cut 32 l).2.1)
        omega
      · rfl
    · simp [splitB]
  | k + 1, l => by
    have ih := splitB_words k (cut 32 l).2.1
    rw [splitB, words_cut l]
    by_cases hc : (cut 32 l).2.2 = true
    · rw [if_pos hc, if_pos hc, List.length_cons, List.length_cons]
      split
      · rename_i h
        rw [if_pos (by omega)] at ih
        rw [ih]
      · rename_i h
        rw [if_neg (by omega)] at ih
        omega
    · rw [if_neg hc, if_neg hc]
      simp

theorem splitB_few {s : List UInt8} (h : (splitB (min 20 s.length) s).length ≤ 20) : splitB (min 20 s.length) s = words s ∧ (words s).length ≤ 20 := by
  have := splitB_words (min 20 s.length) s
  have hc := words_count s
  split at this
  · rw [this] at h ⊢; exact ⟨rfl, h⟩
  · omega

theorem splitB_many {s : List UInt8} (h : ¬ (splitB (min 20 s.length) s).length ≤ 20) : 20 < (words s).length := by
  have := splitB_words (min 20 s.length) s
  split at this
  · rw [this] at h; omega
  · omega
end Rng

namespace Go.Proofs.YthjombepcmebfaaGreatDoor
open Go.RowKit
set_option linter.unusedVariables false

theorem index_blank (s : List UInt8) : (Lib.indexByte s 32 = -1 ∧ (Sem.cut 32 s).2.2 = false) ∨ ∃ i : Nat, Lib.indexByte s 32 = i ∧ i < s.length ∧ Sem.cut 32 s = (s.take i, s.drop (i + 1), true) := by
  have h := lib_cut 32 s
  unfold Lib.cut at h
  rw [Lib.index_one] at h
  have hge := Lib.indexByte_ge s 32
  by_cases hn : Lib.indexByte s 32 = -1
  · left
    rw [if_neg (by omega)] at h
    exact ⟨hn, by rw [← h]⟩
  · right
    rw [if_pos (by omega)] at h
    refine ⟨(Lib.indexByte s 32).toNat, by omega, ?_, h.symm⟩
    have h1 := (Lib.indexByte_some (l := s) (c := 32) (o := (Lib.indexByte s 32).toNat) (by omega)).1
    rcases Nat.lt_or_ge (Lib.indexByte s 32).toNat s.length with h2 | h2
    · exact h2
    · rw [List.getElem?_eq_none h2] at h1; cases h1

theorem index_blank_walk (s : List UInt8) (w : World) : Calls Tryz.prog 84 #[.string ⟨s.toArray⟩, .string ⟨#[32]⟩] w fun e w' => e = .returned (.int .i64 (Lib.indexByte s 32)) ∧ w' = w :=
  Any.strings_Index_one Tryz.lays143 ⟨s.toArray⟩ 32 w

set_option maxHeartbeats 4000000 in
set_option maxRecDepth 1000000 in
theorem genSplitB_walk (s : List UInt8) (hs : s.length ≤ 4611686018427387904) (N : Nat) (hN : (N : Int) = min 21 ((s.length : Int) + 1)) (w : World) :
    Calls Tryz.prog 56 #[.string ⟨s.toArray⟩, .string ⟨#[32]⟩, .int .i64 0, .int .i64 21] w fun e w' =>
      e = .returned (.slice (some ⟨w.heap.size, 0, none⟩) (Rng.splitB (N - 1) s).length N) ∧ w' = w.alloc (.cells (Lib.cellsOf (strs (Rng.splitB (N - 1) s)) N) 9) := by
  have hsz : (⟨s.toArray⟩ : ByteArray).size = s.length := size_list _
  have eN : min (21 : Int) ((s.length : Int) + 1) = (N : Int) := hN.symm
  have hNs : (N : Int) ≤ (s.length : Int) + 1 := by rw [hN]; exact Int.min_le_right _ _
  have hN4 : (N : Int) ≤ 21 := by rw [hN]; exact Int.min_le_left _ _
  have hN1 : (1 : Int) ≤ (N : Int) := by rw [hN]; exact Int.le_min.2 ⟨by omega, by omega⟩
  have hmk := run_make_row' (P := Tryz.prog) 54 9 (.string ByteArray.empty) 16 Tryz.underlying54 string_info rfl .i64 .i64 N (by omega) (by omega)
  clear hN
  go_enter Tryz.func56, Tryz.ntmps56
  go_wp2_with fail
  clear hmk
  go_loopw [0, 10] (fun a i wr => ∃ (done : List (List UInt8)) (rest : List UInt8), a = .string ⟨rest.toArray⟩ ∧ i = .int .i64 done.length ∧ done.length ≤ N - 1 ∧ rest.length ≤ s.length ∧
      wr = w.alloc (.cells (Lib.cellsOf (strs done) N) 9) ∧ Hid (done ++ Rng.splitB (N - 1 - done.length) rest = Rng.splitB (N - 1) s))
    (fun _ i _ => N - (intOf i).toNat)
  case atStart => exact ⟨[], s, rfl, rfl, Nat.zero_le _, Nat.le_refl _, by rw [show strs [] = [] from rfl, Lib.cellsOf_nil], Lib.hid (by simp)⟩
  case round =>
    obtain ⟨done, rest, rfl, rfl, hd, hr, rfl, HP⟩ := hrel
    have hsl : (strs done).length = done.length := by simp [strs]
    have hnext : (Lib.cellsOf (strs done) N)[done.length]? = some (.string ByteArray.empty) := by rw [← hsl]; exact Lib.cellsOf_next (by omega)
    have fin : ∀ x : List UInt8, Rng.splitB (N - 1 - done.length) rest = [x] → (Rng.splitB (N - 1) s).length = done.length + 1 ∧ (Lib.cellsOf (strs done) N).setIfInBounds done.length (.string ⟨x.toArray⟩) = Lib.cellsOf (strs (Rng.splitB (N - 1) s)) N := fun x h => by
      rw [← HP.out, h]
      refine ⟨by simp, ?_⟩
      have := Lib.cellsOf_set (done := strs done) (N := N) (by omega) ⟨x.toArray⟩
      rw [hsl] at this
      rw [this]; simp [strs]
    have hrs : (⟨rest.toArray⟩ : ByteArray).size = rest.length := size_list _
    by_cases hlt : done.length < N - 1
    · have hltz : ((done.length : Nat) : Int) < (N : Int) - 1 := by omega
      have hI := fun w => index_blank_walk rest w
      rcases index_blank rest with ⟨hi, hc⟩ | ⟨i, hi, hil, hc⟩
      · rw [hi] at hI
        obtain ⟨f1, f2⟩ := fin rest (Rng.splitB_miss hc)
        have F1 := Lib.hid f1
        have F2 := Lib.hid f2
        clear hi hc fin f1 f2
        go_wp2_with (go_at_call 84; refine (hI _).mono ?_; rintro e w' ⟨rfl, hw⟩; rw [hw])
        go_ret
        rw [F1.out, ← F2.out]
        exact ⟨rfl, rfl⟩
      · rw [hi] at hI
        have HN : Hid ((done ++ [rest.take i]) ++ Rng.splitB (N - 1 - (done.length + 1)) (rest.drop (i + 1)) = Rng.splitB (N - 1) s) := Lib.hid (by
          rw [← HP.out, show N - 1 - done.length = (N - 1 - (done.length + 1)) + 1 from by omega, Rng.splitB_hit hc]; simp)
        have ex : (⟨rest.toArray⟩ : ByteArray).extract 0 i = ⟨(rest.take i).toArray⟩ := by
          have := ByteArray.extract_mk rest 0 i
          simpa using this
        have hset : (Lib.cellsOf (strs done) N).setIfInBounds done.length (.string ⟨(rest.take i).toArray⟩) = Lib.cellsOf (strs (done ++ [rest.take i])) N := by
          have := Lib.cellsOf_set (done := strs done) (N := N) (by omega) ⟨(rest.take i).toArray⟩
          rw [hsl] at this
          rw [this]; simp [strs]
        have hw1 : IntKind.i64.wrap ((i : Int) + 1) = (i : Int) + 1 := IntWalk.i64_in _ (by omega)
        have hw0 : IntKind.i64.wrap ((i : Int) + 0) = (i : Int) + 0 := IntWalk.i64_in _ (by omega)
        have hsp : ∀ W, (Instr.slice 9 (.string ⟨rest.toArray⟩) (some (.int .i64 ((i : Int) + 1))) none none).run Tryz.prog W = .ok (.string ⟨(rest.drop (i + 1)).toArray⟩) W := fun W => by
          have h := slice_from ⟨rest.toArray⟩ (i + 1) (by rw [hrs]; omega) W
          exact h
        have HS := Lib.hid hset
        clear hi hc fin hset
        go_wp2_with (go_at_call 84; refine (hI _).mono ?_; rintro e w' ⟨rfl, hw⟩; rw [hw])
        go_roundw
        case rel => exact ⟨done ++ [rest.take i], rest.drop (i + 1), rfl, by simp, by simp; omega, by rw [List.length_drop]; omega, by rw [← HS.out], by rw [List.length_append]; exact HN⟩
        case measure => simp [intOf]; omega
    · have hltz : ¬ (((done.length : Nat) : Int) < (N : Int) - 1) := by omega
      obtain ⟨f1, f2⟩ := fin rest (by rw [show N - 1 - done.length = 0 from by omega]; rfl)
      have F1 := Lib.hid f1
      have F2 := Lib.hid f2
      clear fin f1 f2
      go_wp2
      go_ret
      rw [F1.out, ← F2.out]
      exact ⟨rfl, rfl⟩

set_option maxRecDepth 100000 in
theorem splitNB_walk (s : List UInt8) (hs : s.length ≤ 4611686018427387904) (w : World) :
    Calls Tryz.prog 30 #[.string ⟨s.toArray⟩, .string ⟨#[32]⟩, .int .i64 21] w fun e w' => ∃ g N, e = .returned (.slice (some ⟨g, 0, none⟩) (Rng.splitB (min 20 s.length) s).length N) ∧
      Strs w' w'.heap.size (some ⟨g, 0, none⟩) (strs (Rng.splitB (min 20 s.length) s)) ∧ Below w.heap.size w w' := by
  have hg := genSplitB_walk s hs (min 21 (s.length + 1)) (by omega)
  rw [show min 21 (s.length + 1) - 1 = min 20 s.length from by omega] at hg
  go_enter Tryz.func30, Tryz.ntmps30
  go_wp2_with fail
  refine (hg _).mono ?_
  rintro e w' ⟨rfl, hw⟩
  have hS := strs_cells w (Rng.splitB (min 20 s.length) s) (min 21 (s.length + 1))
  rw [← hw] at hS
  have hB : Below w.heap.size w w' := by rw [hw]; exact below_one _ _
  clear hw
  go_wp2
  go_ret
  exact ⟨_, _, rfl, hS, hB⟩
end Go.Proofs.YthjombepcmebfaaGreatDoor

/- The program's parseBound: a word as a bound. -/
namespace Go.Proofs.YthjombepcmebfaaGreatDoor
open Go.RowKit
set_option linter.unusedVariables false

def boundR (o : Option Rng.Bd) : Value := match o with
  | some b => .tuple #[bdV b, .int .i64 0]
  | none => .tuple #[bdV ⟨0, ⟨0, 0, 0, []⟩⟩, .int .i64 50]

theorem trim_sign (s : List UInt8) : Lib.trimLeftS s [60, 61, 62] = s.dropWhile Rng.isSign := by
  unfold Lib.trimLeftS
  congr 1
  funext c
  simp only [List.contains_cons, List.contains_nil, Bool.or_false, Rng.isSign, Bool.or_assoc]

theorem take_sign (s : List UInt8) : s.length = (s.takeWhile Rng.isSign).length + (s.dropWhile Rng.isSign).length ∧ s.take (s.takeWhile Rng.isSign).length = s.takeWhile Rng.isSign := by
  have h := List.takeWhile_append_dropWhile (p := Rng.isSign) (l := s)
  refine ⟨by rw [← List.length_append, h], ?_⟩
  have := List.take_left (l₁ := s.takeWhile Rng.isSign) (l₂ := s.dropWhile Rng.isSign)
  rwa [h] at this

set_option maxRecDepth 100000 in
set_option maxHeartbeats 4000000 in
theorem parseBound_walk (s : List UInt8) (hs : s.length ≤ 140737488351232) (w : World) (hg : RGlobs w) :
    Calls Tryz.prog 31 #[.string ⟨s.toArray⟩] w fun e w' => e = .returned (boundR (Rng.bound1 s)) ∧ Below w.heap.size w w' := by
  obtain ⟨hsl, htk⟩ := take_sign s
  have hb1 := below_one w (.cells #[.int .i64 0, .int .i64 0, .int .i64 0, .int .i64 0, .string ⟨#[]⟩] 57)
  have HX := Lib.hid (box5_new w ⟨0, ⟨0, 0, 0, []⟩⟩)
  have HG := Lib.hid (hg.next hb1)
  clear hg
  go_enter Tryz.func31, Tryz.ntmps31
  go_wp2_with fail
  refine (trimLeft_walk ⟨s.toArray⟩ ⟨#[60, 61, 62]⟩ _ (by decide) (fun j b h => by
    have : b ∈ ([60, 61, 62] : List UInt8) := List.mem_of_getElem? h
    simp at this
    rcases this with rfl | rfl | rfl <;> decide)).mono ?_
  rintro e w2 ⟨he, hb2⟩
  have et : Lib.trimLeftS (⟨s.toArray⟩ : ByteArray).data.toList (⟨#[60, 61, 62]⟩ : ByteArray).data.toList = s.dropWhile Rng.isSign := trim_sign s
  rw [et] at he
  subst he
  have hb3 := below_next hb1 hb2
  have HX2 := Lib.hid (HX.out.keep (B := w.heap.size + 1) (by omega) (hb2.mono (by simp)))
  have HG2 := Lib.hid (HG.out.next hb2)
  clear hb1 hb2 HX HG et
  obtain ⟨g, hgs⟩ : ∃ g, g = s.takeWhile Rng.isSign := ⟨_, rfl⟩
  obtain ⟨t, ht⟩ : ∃ t, t = s.dropWhile Rng.isSign := ⟨_, rfl⟩
  have HB : Hid (Rng.bound1 s = match Rng.opOf g with | none => none | some op => (Sem.parse t).map fun v => ⟨op, v⟩) := Lib.hid (by rw [hgs, ht]; rfl)
  rw [← hgs, ← ht] at hsl
  rw [← hgs] at htk
  rw [← ht]
  clear hgs ht
  have z1 : (⟨s.toArray⟩ : ByteArray).size = s.length := size_list _
  have z2 : (⟨t.toArray⟩ : ByteArray).size = t.length := size_list _
  go_wp2_with fail
  have ex : (⟨s.toArray⟩ : ByteArray).extract 0 g.length = ⟨g.toArray⟩ := by
    have := ByteArray.extract_mk s 0 g.length
    simp only [Nat.sub_zero, List.drop_zero] at this
    rw [htk] at this
    simpa using this
  rw [ex]
  refine (opOfL_walk g _ HG2.out).mono ?_
  rintro e w3 ⟨he, rfl⟩
  clear ex z1 z2
  cases ho : Rng.opOf g with
  | none =>
    rw [ho] at he HB
    subst he
    have HN : Hid (boundR (Rng.bound1 s) = .tuple #[bdV ⟨0, ⟨0, 0, 0, []⟩⟩, .int .i64 50]) := Lib.hid (by rw [HB.out]; rfl)
    have hb5 := hb3
    obtain ⟨_, ⟨r0, r1, r2, r3, r4⟩, f0, f1, f2, f3, f4⟩ := HX2.out
    simp only [Nat.zero_add] at r1 r2 r3 r4
    clear ho HB
    unfold opR
    go_wp2
    refine bodyPost_ret (v := .tuple #[.agg #[.int .i64 0, .int .i64 0, .int .i64 0, .int .i64 0, .string ByteArray.empty], .int .i64 50]) (by simp [results, Tryz.results31, go_sem, r0, r1, r2, r3, r4]; rfl) rfl ?_
    exact ⟨by rw [HN.out]; rfl, bel5 hb5⟩
  | some op =>
    rw [ho] at he HB
    subst he
    clear ho
    unfold opR
    simp only at HB
    go_wp2_with fail
    refine (parseL_walk t (by omega) _ HG2.out.g).mono ?_
    rintro e w4 ⟨he, hb4⟩
    have hb5 := below_next hb3 hb4
    have HX4 := Lib.hid (HX2.out.keep (B := w2.heap.size) HX2.out.1 hb4)
    cases hp : Sem.parse t with
    | none =>
      rw [hp] at he HB
      subst he
      have HN : Hid (boundR (Rng.bound1 s) = .tuple #[bdV ⟨0, ⟨0, 0, 0, []⟩⟩, .int .i64 50]) := Lib.hid (by rw [HB.out]; rfl)
      have hV : parseR none = .tuple #[.agg #[.int .i64 0, .int .i64 0, .int .i64 0, .string ⟨#[]⟩], .int .i64 40] := rfl
      rw [hV]
      clear hV hp HB hb4
      have hb5 := below_new hb5 (.cells #[.int .i64 0, .int .i64 0, .int .i64 0, .string ⟨#[]⟩] 40)
      obtain ⟨_, ⟨r0, r1, r2, r3, r4⟩, f0, f1, f2, f3, f4⟩ := HX4.out.keep (B := w4.heap.size) HX4.out.1 (below_one w4 (.cells #[.int .i64 0, .int .i64 0, .int .i64 0, .string ⟨#[]⟩] 40))
      simp only [Nat.zero_add] at r1 r2 r3 r4
      go_wp2
      refine bodyPost_ret (v := .tuple #[.agg #[.int .i64 0, .int .i64 0, .int .i64 0, .int .i64 0, .string ByteArray.empty], .int .i64 50]) (by simp [results, Tryz.results31, go_sem, r0, r1, r2, r3, r4]; rfl) rfl ?_
      exact ⟨by rw [HN.out]; rfl, bel5 hb5⟩
    | some v =>
      rw [hp] at he HB
      subst he
      have HN : Hid (boundR (Rng.bound1 s) = .tuple #[bdV ⟨op, v⟩, .int .i64 0]) := Lib.hid (by rw [HB.out]; rfl)
      have hV : parseR (some v) = .tuple #[.agg #[.int .i64 v.maj, .int .i64 v.min, .int .i64 v.pat, .string ⟨v.pre.toArray⟩], .int .i64 0] := rfl
      rw [hV]
      clear hV hp HB hb4
      have hb5 := below_new hb5 (.cells #[.int .i64 v.maj, .int .i64 v.min, .int .i64 v.pat, .string ⟨v.pre.toArray⟩] 40)
      have hx5 := HX4.out.keep (B := w4.heap.size) HX4.out.1 (below_one w4 (.cells #[.int .i64 v.maj, .int .i64 v.min, .int .i64 v.pat, .string ⟨v.pre.toArray⟩] 40))
      obtain ⟨_, ⟨r0, r1, r2, r3, r4⟩, f0, f1, f2, f3, f4⟩ := hx5
      simp only [Nat.zero_add] at r1 r2 r3 r4
      go_wp2
      refine bodyPost_ret (v := .tuple #[.agg #[.int .i64 op, .int .i64 v.maj, .int .i64 v.min, .int .i64 v.pat, .string ⟨v.pre.toArray⟩], .int .i64 0]) (by simp [results, Tryz.results31, go_sem, r0, r1, r2, r3, r4]) rfl ?_
      exact ⟨by rw [HN.out]; rfl, bel5 hb5⟩
end Go.Proofs.YthjombepcmebfaaGreatDoor

/- A row of bounds that make lays, filled one by one. -/
namespace Go.Proofs.YthjombepcmebfaaGreatDoor
open Go.RowKit
set_option linter.unusedVariables false

def zeroC : Array Value := #[.int .i64 0, .int .i64 0, .int .i64 0, .int .i64 0, .string ⟨#[]⟩]

theorem bound_info : (Tryz.prog.info? 57).map (fun i => (i.zero, i.size, i.bytes)) = some (some (.agg zeroC), 5, 48) := by kernel_rfl

theorem run_make_bounds (n : Nat) (hn : n ≤ 1000000) (W : World) :
    (Instr.makeSlice 23 (.int .i64 (n : Int)) (.int .i64 (n : Int))).run Tryz.prog W = .ok (.slice (some ⟨W.heap.size, 0, none⟩) n n) (W.alloc (.cells (madeCells zeroC (n * 5)) 57)) := by
  obtain ⟨i, hi, hzz⟩ := Option.map_eq_some_iff.1 bound_info
  simp only [Prod.mk.injEq] at hzz
  obtain ⟨hz, hs, hb⟩ := hzz
  have hr := run_make (P := Tryz.prog) W 23 57 i (.agg zeroC) Tryz.underlying23 hi hz .i64 .i64 n n (by omega) (Int.le_refl _) (by rw [hb]; omega) (by omega)
  simp only [Int.toNat_natCast, hs] at hr
  exact hr

/-- The row, in part filled. -/
structure Made (W : World) (g n : Nat) (done : List Rng.Bd) : Prop where
  lt : g < W.heap.size
  le : done.length ≤ n
  at_ : ∀ j, j < n → BdAt W g (j * 5) (done.getD j Rng.zero)
  fz : ∀ o, W.frozen? ⟨g, o, none⟩ = false

theorem made_cell (n j : Nat) (h : j < n) (k : Nat) (hk : k < 5) : (madeCells zeroC (n * 5))[j * 5 + k]? = some (zeroC[k]!) := by
  have h5 : zeroC.size = 5 := rfl
  unfold madeCells
  rw [Array.getElem?_map, Array.getElem?_range, if_pos (by omega)]
  simp only [Option.map_some, h5]
  congr 2
  omega

theorem made_new (W : World) (n : Nat) : Made (W.alloc (.cells (madeCells zeroC (n * 5)) 57)) W.heap.size n [] := by
  refine ⟨by simp, Nat.zero_le _, fun j hj => ?_, fun o => by simp [go_sem]⟩
  have h0 := made_cell n j hj 0 (by omega)
  have h1 := made_cell n j hj 1 (by omega)
  have h2 := made_cell n j hj 2 (by omega)
  have h3 := made_cell n j hj 3 (by omega)
  have h4 := made_cell n j hj 4 (by omega)
  simp only [Nat.add_zero] at h0
  simp only [List.getD_nil]
  refine ⟨?_, ?_, ?_, ?_, ?_⟩
  · simp [go_sem, h0]; rfl
  · simp [go_sem, h1]; rfl
  · simp [go_sem, h2]; rfl
  · simp [go_sem, h3]; rfl
  · simp [go_sem, h4]; rfl

theorem Made.keep {W W' : World} {g n B : Nat} {done : List Rng.Bd} (h : Made W g n done) (hg : g < B) (hb : Below B W W') : Made W' g n done :=
  ⟨Nat.lt_of_lt_of_le h.lt hb.size, h.le, fun j hj => (h.at_ j hj).keep hg hb, fun o => (hb.frozen (p := ⟨g, o, none⟩) hg).trans (h.fz o)⟩

theorem Made.set {W : World} {g n : Nat} {done : List Rng.Bd} (h : Made W g n done) (hn : done.length < n) (u : Rng.Bd) :
    Made (((((W.setCell ⟨g, done.length * 5, none⟩ (.int .i64 u.op)).setCell ⟨g, done.length * 5 + 1, none⟩ (.int .i64 u.v.maj)).setCell ⟨g, done.length * 5 + 2, none⟩ (.int .i64 u.v.min)).setCell ⟨g, done.length * 5 + 3, none⟩ (.int .i64 u.v.pat)).setCell ⟨g, done.length * 5 + 4, none⟩ (.string ⟨u.v.pre.toArray⟩)) g n (done ++ [u]) := by
  have k : ∀ (V : World) (i j : Nat) (v : Value), i ≠ j → (V.setCell ⟨g, i, none⟩ v).cell? ⟨g, j, none⟩ = V.cell? ⟨g, j, none⟩ := fun V i j v hij => World.cell?_setCell_other _ _ _ _ (fun e => hij (congrArg Addr.off e))
  refine ⟨by simpa using h.lt, by rw [List.length_append]; simp; omega, fun j hj => ?_, fun o => by simp [go_sem, h.fz]⟩
  by_cases hjd : j = done.length
  · subst hjd
    have e : (done ++ [u]).getD done.length Rng.zero = u := by simp
    rw [e]
    obtain ⟨h0, h1, h2, h3, h4⟩ := h.at_ done.length hj
    refine ⟨?_, ?_, ?_, ?_, ?_⟩
    · rw [k _ _ _ _ (by omega), k _ _ _ _ (by omega), k _ _ _ _ (by omega), k _ _ _ _ (by omega)]; exact World.cell?_setCell_same _ _ _ h0
    · rw [k _ _ _ _ (by omega), k _ _ _ _ (by omega), k _ _ _ _ (by omega)]; exact World.cell?_setCell_same _ _ _ ((k _ _ _ _ (by omega)).trans h1)
    · rw [k _ _ _ _ (by omega), k _ _ _ _ (by omega)]; exact World.cell?_setCell_same _ _ _ ((k _ _ _ _ (by omega)).trans ((k _ _ _ _ (by omega)).trans h2))
    · rw [k _ _ _ _ (by omega)]; exact World.cell?_setCell_same _ _ _ ((k _ _ _ _ (by omega)).trans ((k _ _ _ _ (by omega)).trans ((k _ _ _ _ (by omega)).trans h3)))
    · exact World.cell?_setCell_same _ _ _ ((k _ _ _ _ (by omega)).trans ((k _ _ _ _ (by omega)).trans ((k _ _ _ _ (by omega)).trans ((k _ _ _ _ (by omega)).trans h4))))
  · have e : (done ++ [u]).getD j Rng.zero = done.getD j Rng.zero := by
      rcases Nat.lt_or_ge j done.length with hl | hl
      · simp [List.getD_eq_getElem?_getD, List.getElem?_append_left hl]
      · rw [List.getD_eq_getElem?_getD, List.getD_eq_getElem?_getD, List.getElem?_eq_none (by simp; omega), List.getElem?_eq_none hl]
    rw [e]
    obtain ⟨h0, h1, h2, h3, h4⟩ := h.at_ j hj
    have hjj : j * 5 + 5 ≤ done.length * 5 ∨ done.length * 5 + 5 ≤ j * 5 := by omega
    refine ⟨?_, ?_, ?_, ?_, ?_⟩ <;> (rw [k _ _ _ _ (by omega), k _ _ _ _ (by omega), k _ _ _ _ (by omega), k _ _ _ _ (by omega), k _ _ _ _ (by omega)]; assumption)

theorem Made.all {W : World} {g : Nat} {done : List Rng.Bd} (h : Made W g done.length done) : Bds W W.heap.size (some ⟨g, 0, none⟩) done := by
  refine Or.inr ⟨g, 0, rfl, h.lt, fun i hi => ?_⟩
  have := h.at_ i hi
  rw [Nat.zero_add]
  have e : done.getD i Rng.zero = done[i] := by simp [List.getD_eq_getElem?_getD, hi]
  rwa [e] at this

theorem below_at5 {B : Nat} {a W : World} {g o : Nat} {p q r s t : Value} (h : Below B a W) (hg : B ≤ g) :
    Below B a (((((W.setCell ⟨g, o, none⟩ p).setCell ⟨g, o + 1, none⟩ q).setCell ⟨g, o + 2, none⟩ r).setCell ⟨g, o + 3, none⟩ s).setCell ⟨g, o + 4, none⟩ t) :=
  ((((h.setCell (p := ⟨g, o, none⟩) hg _).setCell (p := ⟨g, o + 1, none⟩) hg _).setCell (p := ⟨g, o + 2, none⟩) hg _).setCell (p := ⟨g, o + 3, none⟩) hg _).setCell (p := ⟨g, o + 4, none⟩) hg _
end Go.Proofs.YthjombepcmebfaaGreatDoor

/- The program's parseNear; a row of bounds that make lays. -/
namespace Rng
theorem bounds_snoc : ∀ {ws : List (List UInt8)} {l : List Bd} {p : List UInt8} {b : Bd}, bounds ws = some l → bound p = some b → bounds (ws ++ [p]) = some (l ++ [b])
  | [], l, p, b, h, hb => by
    obtain rfl : [] = l := by simpa [bounds] using h
    simp [bounds, hb]
  | w :: r, l, p, b, h, hb => by
    rw [bounds] at h
    rw [List.cons_append, bounds]
    cases hw : bound w with
    | none => rw [hw] at h; cases h
    | some c =>
      rw [hw] at h
      simp only at h ⊢
      cases hr : bounds r with
      | none => rw [hr] at h; cases h
      | some m =>
        rw [hr] at h
        obtain rfl : c :: m = l := by simpa using h
        rw [bounds_snoc hr hb]; rfl

theorem bounds_bad : ∀ {ws : List (List UInt8)} {p : List UInt8}, p ∈ ws → bound p = none → bounds ws = none
  | [], p, h, _ => by cases h
  | w :: r, p, h, hb => by
    rw [bounds]
    cases hw : bound w with
    | none => rfl
    | some c =>
      simp only
      rcases List.mem_cons.1 h with rfl | h
      · rw [hb] at hw; cases hw
      · rw [bounds_bad h hb]; rfl

theorem bounds_step {ws : List (List UInt8)} {i : Nat} {l : List Bd} {b : Bd} (hi : i < ws.length) (h : bounds (ws.take i) = some l) (hb : bound (ws[i]'hi) = some b) : bounds (ws.take (i + 1)) = some (l ++ [b]) := by
  rw [List.take_succ_eq_append_getElem hi]; exact bounds_snoc h hb
theorem bounds_stop {ws : List (List UInt8)} {i : Nat} (hi : i < ws.length) (hb : bound (ws[i]'hi) = none) : bounds ws = none := bounds_bad (List.getElem_mem _) hb
end Rng
namespace Go.Proofs.YthjombepcmebfaaGreatDoor
open Go.RowKit
set_option linter.unusedVariables false

/-- A range as an answer, or none. -/
def BdsE (w : World) (o : Option (List Rng.Bd)) (e : Ending) (w' : World) : Prop :=
  ∃ (A : Option Addr) (c : Nat), e = .returned (.tuple #[.slice A (o.getD []).length c, .int .i64 (if o.isSome then 0 else 50)]) ∧ (o.getD []).length ≤ c ∧ Bds w' w'.heap.size A (o.getD []) ∧ Below w.heap.size w w'

theorem BdsE.no {w w' : World} (hb : Below w.heap.size w w') : BdsE w none (.returned (.tuple #[.slice none 0 0, .int .i64 50])) w' := ⟨none, 0, rfl, Nat.le_refl _, Or.inl rfl, hb⟩

set_option maxRecDepth 100000 in
set_option maxHeartbeats 4000000 in
theorem parseNear_walk (s : List UInt8) (hs : s.length ≤ 140737488351232) (w : World) (hg : Globs w) :
    Calls Tryz.prog 29 #[.string ⟨s.toArray⟩] w fun e w' => BdsE w ((Sem.parse s).map Rng.near) e w' := by
  go_enter Tryz.func29, Tryz.ntmps29
  go_wp2_with fail
  refine (parseL_walk s hs _ hg).mono ?_
  rintro e w2 ⟨rfl, hb2⟩
  cases hp : Sem.parse s with
  | none =>
    have hV : parseR none = .tuple #[.agg #[.int .i64 0, .int .i64 0, .int .i64 0, .string ⟨#[]⟩], .int .i64 40] := rfl
    rw [hV]
    have HN : Hid ((Sem.parse s).map Rng.near = none) := Lib.hid (by rw [hp]; rfl)
    clear hV hp
    go_wp2
    go_ret2
    rw [HN.out]
    exact BdsE.no (below_new hb2 _)
  | some v =>
    have hpl : v.pre.length ≤ 24 := ((Sem.may_iff v).1 (Sem.parse_some hp).1).2.2.2.1
    have hV : parseR (some v) = .tuple #[.agg #[.int .i64 v.maj, .int .i64 v.min, .int .i64 v.pat, .string ⟨v.pre.toArray⟩], .int .i64 0] := rfl
    rw [hV]
    have HN : Hid ((Sem.parse s).map Rng.near = some (Rng.near v)) := Lib.hid (by rw [hp]; rfl)
    clear hV hp
    go_wp2_with fail
    refine (near_walk v (by omega) _).mono ?_
    rintro e w4 ⟨B, c, rfl, hc, hB, hb4⟩
    have hb5 := below_next (below_new hb2 _) hb4
    clear hb2 hb4
    go_wp2
    go_ret2
    rw [HN.out]
    exact ⟨B, c, rfl, hc, hB, hb5⟩
end Go.Proofs.YthjombepcmebfaaGreatDoor

/- The program's Parse of ranges. -/
namespace Go.Proofs.YthjombepcmebfaaGreatDoor
open Go.RowKit
set_option linter.unusedVariables false

theorem cut_hat (s : List UInt8) : Lib.hasPrefix s [94] = decide (s.head? = some 94) ∧ (s.head? = some 94 → Lib.trimPrefix s [94] = s.tail) := by
  cases s with
  | nil => exact ⟨by decide, nofun⟩
  | cons c r =>
    constructor
    · by_cases h : c = 94
      · subst h; simp [Lib.hasPrefix]
      · have h1 : ((94 : UInt8) == c) = false := beq_eq_false_iff_ne.2 (fun e => h e.symm)
        simp [Lib.hasPrefix, h, List.isPrefixOf, h1]
    · intro h
      obtain rfl : c = 94 := by simpa using h
      simp [Lib.trimPrefix, Lib.hasPrefix]

set_option maxRecDepth 100000 in
set_option maxHeartbeats 8000000 in
theorem rparseL_walk (s : List UInt8) (hs : s.length ≤ 140737488351232) (w : World) (hg : RGlobs w) :
    Calls Tryz.prog 12 #[.string ⟨s.toArray⟩] w fun e w' => BdsE w (Rng.parse s) e w' := by
  have HP := Lib.hid (Rng.parse_own s)
  obtain ⟨hh1, hh2⟩ := cut_hat s
  cases e42 : (s == [42])
  · have n42 : s ≠ [42] := by simpa using e42
    by_cases h94 : s.head? = some 94
    · have HN : Hid (Rng.parse s = (Sem.parse s.tail).map Rng.near) := Lib.hid (by rw [HP.out, if_neg n42, if_pos h94])
      have e1 : Lib.hasPrefix s [94] = true := by rw [hh1]; exact decide_eq_true h94
      have e2 := hh2 h94
      have hcp := fun w => cutPrefix_walk ⟨s.toArray⟩ ⟨#[94]⟩ w
      have hx : ∀ w, Calls Tryz.prog 28 #[.string ⟨s.toArray⟩, .string ⟨#[94]⟩] w fun e w' => e = .returned (.tuple #[.string ⟨s.tail.toArray⟩, .bool true]) ∧ w' = w := fun w => by
        refine (hcp w).mono ?_
        rintro e w' ⟨rfl, rfl⟩
        exact ⟨by show Ending.returned (.tuple #[.string ⟨(Lib.trimPrefix s [94]).toArray⟩, .bool (Lib.hasPrefix s [94])]) = _; rw [e1, e2], rfl⟩
      clear hcp e1 e2 hh1 hh2 h94 n42 HP
      go_enter Tryz.func12, Tryz.ntmps12
      go_wp2_with fail
      refine (hx _).mono ?_
      rintro e w2 ⟨rfl, rfl⟩
      go_wp2_with fail
      refine (parseNear_walk s.tail (by rw [List.length_tail]; omega) _ hg.g).mono ?_
      rintro e w4 ⟨B, c, he, hc, hB, hb4⟩
      rw [← HN.out] at he hc hB
      obtain ⟨z, hz⟩ : ∃ z : Int, z = if (Rng.parse s).isSome = true then 0 else 50 := ⟨_, rfl⟩
      obtain ⟨m, hm⟩ : ∃ m, m = ((Rng.parse s).getD []).length := ⟨_, rfl⟩
      rw [← hz, ← hm] at he
      subst he
      have HZ := Lib.hid hz
      have HM := Lib.hid hm
      clear hz hm
      go_wp2
      go_ret2
      exact ⟨B, c, by rw [← HZ.out, ← HM.out]; rfl, hc, hB, hb4⟩
    · have HN : Hid (Rng.parse s = if 20 < (Rng.words s).length then none else Rng.bounds (Rng.words s)) := Lib.hid (by rw [HP.out, if_neg n42, if_neg h94])
      have e1 : Lib.hasPrefix s [94] = false := by rw [hh1]; exact decide_eq_false h94
      have hcp := fun w => cutPrefix_walk ⟨s.toArray⟩ ⟨#[94]⟩ w
      have hx : ∀ w, Calls Tryz.prog 28 #[.string ⟨s.toArray⟩, .string ⟨#[94]⟩] w fun e w' => e = .returned (.tuple #[.string ⟨(Lib.trimPrefix s [94]).toArray⟩, .bool false]) ∧ w' = w := fun w => by
        refine (hcp w).mono ?_
        rintro e w' ⟨rfl, rfl⟩
        exact ⟨by show Ending.returned (.tuple #[.string ⟨(Lib.trimPrefix s [94]).toArray⟩, .bool (Lib.hasPrefix s [94])]) = _; rw [e1], rfl⟩
      clear hcp e1 hh1 hh2 h94 n42 HP
      go_enter Tryz.func12, Tryz.ntmps12
      go_wp2_with fail
      refine (hx _).mono ?_
      rintro e w2 ⟨rfl, rfl⟩
      go_wp2_with fail
      refine (splitNB_walk s (by omega) _).mono ?_
      rintro e w3 ⟨g, N, rfl, hS, hb3⟩
      have HG3 := Lib.hid (hg.next hb3)
      clear hx
      by_cases hl : (Rng.splitB (min 20 s.length) s).length ≤ 20
      · obtain ⟨hw, hw20⟩ := Rng.splitB_few hl
        have HN2 : Hid (Rng.parse s = Rng.bounds (Rng.words s)) := Lib.hid (by rw [HN.out, if_neg (by omega)])
        have HWL : Hid (∀ p ∈ Rng.words s, p.length ≤ 140737488351232) := Lib.hid (fun p hp => Nat.le_trans (Rng.words_len s p hp) hs)
        rw [hw] at hS hl ⊢
        obtain ⟨ws, hws⟩ : ∃ ws, ws = Rng.words s := ⟨_, rfl⟩
        rw [← hws] at hS hl HN2 HWL ⊢
        clear hw hw20 HN hws
        have HS := Lib.hid hS
        clear hS
        have hmk := fun W => run_make_bounds ws.length (by omega) W
        have hMd := made_new w3 ws.length
        have hb4 := below_new hb3 (.cells (madeCells zeroC (ws.length * 5)) 57)
        have hb34 := below_one w3 (.cells (madeCells zeroC (ws.length * 5)) 57)
        have hl2 : ¬ (20 : Int) < (ws.length : Int) := by omega
        go_wp2_with fail
        clear hmk
        have HC : Hid (∀ i (h : i < ws.length), g < w3.heap.size ∧ w3.cell? ⟨g, i, none⟩ = some (.string ⟨(ws[i]'h).toArray⟩)) := Lib.hid (fun i hi => by
          have hsl : (strs ws).length = ws.length := by simp [strs]
          rcases HS.out with h0 | ⟨g2, off, hA, hlt, hc⟩
          · omega
          · simp only [Option.some.injEq, Addr.mk.injEq] at hA
            obtain ⟨rfl, rfl, _⟩ := hA
            have := hc i (by omega)
            rw [Nat.zero_add] at this
            exact ⟨hlt, by rw [this]; simp [strs]⟩)
        have HB3 := Lib.hid hb3
        clear HS hb4
        generalize hW4 : w3.alloc (.cells (madeCells zeroC (ws.length * 5)) 57) = W4 at hMd hb34 ⊢
        clear hW4
        go_loopw [34] (fun ii wr => ∃ done : List Rng.Bd, ii = .int .i64 done.length ∧ done.length ≤ ws.length ∧ Hid (Rng.bounds (ws.take done.length) = some done) ∧ Hid (Made wr w3.heap.size ws.length done) ∧ Hid (Below w3.heap.size w3 wr))
          (fun i _ => ws.length - (intOf i).toNat)
        case atStart => exact ⟨[], rfl, Nat.zero_le _, Lib.hid rfl, Lib.hid hMd, Lib.hid hb34⟩
        case round =>
          obtain ⟨done, rfl, hd, HBD, HMd, HB⟩ := hrel
          by_cases hlt : done.length < ws.length
          · have hlt1 : (done.length : Int) < (ws.length : Int) := by omega
            obtain ⟨hgw, hcell⟩ := HC.out done.length hlt
            obtain ⟨p, hp⟩ : ∃ p, p = ws[done.length] := ⟨_, rfl⟩
            have hpl : p.length ≤ 140737488351232 := by rw [hp]; exact HWL.out _ (List.getElem_mem _)
            rw [← hp] at hcell
            have HPP := Lib.hid hp
            clear hp
            have hcell2 := (HB.out.cell (p := ⟨g, done.length, none⟩) hgw).trans hcell
            clear hcell
            go_wp2_with fail
            refine (parseBound_walk p hpl _ (HG3.out.next HB.out)).mono ?_
            rintro e w5 ⟨he, hb5⟩
            rw [Rng.bound1_eq] at he
            have HB5 := Lib.hid (below_next HB.out hb5)
            have HM5 := Lib.hid (HMd.out.keep HMd.out.lt hb5)
            clear hcell2 hb5
            cases hbd : Rng.bound p with
            | none =>
              rw [hbd] at he
              subst he
              have hV : boundR none = .tuple #[.agg #[.int .i64 0, .int .i64 0, .int .i64 0, .int .i64 0, .string ⟨#[]⟩], .int .i64 50] := rfl
              rw [hV]
              have HN3 : Hid (Rng.parse s = none) := Lib.hid (by rw [HN2.out]; exact Rng.bounds_stop hlt (by rw [← HPP.out]; exact hbd))
              clear hV hbd
              go_wp2
              go_ret2
              rw [HN3.out]
              exact BdsE.no (below_new (below_next HB3.out HB5.out) _)
            | some b =>
              rw [hbd] at he
              subst he
              have hV : boundR (some b) = .tuple #[.agg #[.int .i64 b.op, .int .i64 b.v.maj, .int .i64 b.v.min, .int .i64 b.v.pat, .string ⟨b.v.pre.toArray⟩], .int .i64 0] := rfl
              rw [hV]
              have HN3 : Hid (Rng.bounds (ws.take (done.length + 1)) = some (done ++ [b])) := Lib.hid (Rng.bounds_step hlt HBD.out (by rw [← HPP.out]; exact hbd))
              clear hV hbd
              have hb6 := below_new HB5.out (.cells #[.int .i64 b.op, .int .i64 b.v.maj, .int .i64 b.v.min, .int .i64 b.v.pat, .string ⟨b.v.pre.toArray⟩] 57)
              have hM6 := HM5.out.keep (B := w5.heap.size) HM5.out.lt (below_one w5 (.cells #[.int .i64 b.op, .int .i64 b.v.maj, .int .i64 b.v.min, .int .i64 b.v.pat, .string ⟨b.v.pre.toArray⟩] 57))
              obtain ⟨r0, r1, r2, r3, r4⟩ := hM6.at_ done.length hlt
              have f0 := hM6.fz (done.length * 5)
              have f1 := hM6.fz (done.length * 5 + 1)
              have f2 := hM6.fz (done.length * 5 + 2)
              have f3 := hM6.fz (done.length * 5 + 3)
              have f4 := hM6.fz (done.length * 5 + 4)
              have HM7 := Lib.hid (hM6.set hlt b)
              have HB7 := Lib.hid hb6
              clear hb6 hM6
              go_wp2
              go_roundw
              case rel => exact ⟨done ++ [b], by rw [List.length_append]; go_num, by rw [List.length_append]; simp; omega, Lib.hid (by rw [List.length_append]; exact HN3.out), HM7, Lib.hid (below_at5 HB7.out (Nat.le_refl _))⟩
              case measure => simp [intOf]; omega
          · have hlt1 : ¬ (done.length : Int) < (ws.length : Int) := by omega
            have hdl : done.length = ws.length := by omega
            have HN3 : Hid (Rng.parse s = some done) := Lib.hid (by rw [HN2.out, ← HBD.out, List.take_of_length_le (by omega)])
            go_wp2
            go_ret2
            rw [HN3.out]
            have hM := HMd.out
            rw [← hdl] at hM
            exact ⟨some ⟨w3.heap.size, 0, none⟩, ws.length, by rw [← hdl]; rfl, by rw [← hdl]; exact Nat.le_refl _, hM.all, below_next HB3.out HB.out⟩
      · have HN2 : Hid (Rng.parse s = none) := Lib.hid (by rw [HN.out, if_pos (Rng.splitB_many hl)])
        have hl2 : (20 : Int) < ((Rng.splitB (min 20 s.length) s).length : Int) := by omega
        clear hS HG3
        go_wp2
        go_ret2
        rw [HN2.out]
        exact BdsE.no hb3
  · have HN : Hid (Rng.parse s = some []) := Lib.hid (by rw [HP.out, if_pos (by simpa using e42)])
    clear HP
    go_enter Tryz.func12, Tryz.ntmps12
    go_wp2
    go_ret2
    rw [HN.out]
    exact ⟨none, 0, rfl, Nat.le_refl _, Or.inl rfl, Below.refl _ _⟩

theorem ownParse_walk (s : ByteArray) (hs : s.size ≤ 140737488351232) (w : World) (hg : RGlobs w) :
    Calls Tryz.prog 12 #[.string s] w fun e w' => BdsE w (Rng.parse s.data.toList) e w' := by
  have h := rparseL_walk s.data.toList (by rw [← Lib.size_eq]; exact hs) w hg
  rw [← tx_of s] at h
  exact h
end Go.Proofs.YthjombepcmebfaaGreatDoor

/- The program's Show of ranges. -/
namespace Go.Proofs.YthjombepcmebfaaGreatDoor
open Go.RowKit
set_option linter.unusedVariables false

theorem run_make_texts (n : Nat) (hn : n ≤ 1000000) (W : World) :
    (Instr.makeSlice 54 (.int .i64 (n : Int)) (.int .i64 (n : Int))).run Tryz.prog W = .ok (.slice (some ⟨W.heap.size, 0, none⟩) n n) (W.alloc (.cells (madeCells #[.string ⟨#[]⟩] n) 9)) :=
  run_make_row' (P := Tryz.prog) 54 9 (.string ByteArray.empty) 16 Tryz.underlying54 string_info rfl .i64 .i64 n (by omega) (by omega) W

/-- A row of texts, in part filled. -/
structure MadeS (W : World) (g n : Nat) (done : List ByteArray) : Prop where
  lt : g < W.heap.size
  le : done.length ≤ n
  at_ : ∀ j, j < n → W.cell? ⟨g, j, none⟩ = some (.string (done.getD j ⟨#[]⟩))
  fz : ∀ o, W.frozen? ⟨g, o, none⟩ = false

theorem mades_new (W : World) (n : Nat) : MadeS (W.alloc (.cells (madeCells #[.string ⟨#[]⟩] n) 9)) W.heap.size n [] := by
  refine ⟨by simp, Nat.zero_le _, fun j hj => ?_, fun o => by simp [go_sem]⟩
  have : (madeCells #[.string ⟨#[]⟩] n)[j]? = some (.string ⟨#[]⟩) := by simp [madeCells, hj, Nat.mod_one]
  simp [go_sem, this]

theorem MadeS.keep {W W' : World} {g n B : Nat} {done : List ByteArray} (h : MadeS W g n done) (hg : g < B) (hb : Below B W W') : MadeS W' g n done :=
  ⟨Nat.lt_of_lt_of_le h.lt hb.size, h.le, fun j hj => (hb.cell (p := ⟨g, j, none⟩) hg).trans (h.at_ j hj), fun o => (hb.frozen (p := ⟨g, o, none⟩) hg).trans (h.fz o)⟩

theorem MadeS.set {W : World} {g n : Nat} {done : List ByteArray} (h : MadeS W g n done) (hn : done.length < n) (u : ByteArray) : MadeS (W.setCell ⟨g, done.length, none⟩ (.string u)) g n (done ++ [u]) := by
  refine ⟨by simpa using h.lt, by rw [List.length_append]; simp; omega, fun j hj => ?_, fun o => by simp [go_sem, h.fz]⟩
  by_cases hjd : j = done.length
  · subst hjd
    rw [World.cell?_setCell_same _ _ _ (h.at_ _ hj)]
    simp
  · rw [World.cell?_setCell_other _ _ _ _ (fun e => hjd (congrArg Addr.off e).symm), h.at_ j hj]
    rcases Nat.lt_or_ge j done.length with hl | hl
    · simp [List.getD_eq_getElem?_getD, List.getElem?_append_left hl]
    · have e1 : (done ++ [u])[j]? = none := List.getElem?_eq_none (by rw [List.length_append]; simp; omega)
      have e2 : done[j]? = none := List.getElem?_eq_none hl
      rw [List.getD_eq_getElem?_getD, List.getD_eq_getElem?_getD, e1, e2]

theorem lib_join : ∀ l : List (List UInt8), Lib.join l [32] = Rng.join l
  | [] => rfl
  | [p] => by rw [Lib.join_one]; rfl
  | p :: q :: ps => by
    have ih := lib_join (q :: ps)
    rw [Rng.join, ← ih]
    simp [Lib.join]

/-- The texts of bounds. -/
def bdTexts (l : List Rng.Bd) : List ByteArray := l.map fun b => ⟨b.text.toArray⟩

theorem bdTexts_len (l : List Rng.Bd) : (bdTexts l).length = l.length := by simp [bdTexts]
theorem bdTexts_join (l : List Rng.Bd) : (bdTexts l).map (·.data.toList) = l.map Rng.Bd.text := by simp [bdTexts]

theorem sign_cell {w : World} (hg : RGlobs w) (k : Nat) (h1 : 1 ≤ k) (h5 : k ≤ 5) : w.cell? ⟨0, k, none⟩ = some (.string ⟨(Rng.sign k).toArray⟩) := by
  rw [hg.cell k]
  have : k = 1 ∨ k = 2 ∨ k = 3 ∨ k = 4 ∨ k = 5 := by omega
  rcases this with rfl | rfl | rfl | rfl | rfl <;> rfl

set_option maxRecDepth 100000 in
set_option maxHeartbeats 8000000 in
theorem bshow_walk (A : Option Addr) (cap : Nat) (l : List Rng.Bd) (w : World) (hA : Bds w w.heap.size A l) (hs : ∀ b ∈ l, b.v.pre.length ≤ 9223372036854775807) (hg : RGlobs w) :
    Calls Tryz.prog 16 #[.slice A l.length cap] w fun e w' => e = .returned (showB l) ∧ Below w.heap.size w w' := by
  have HG := Lib.hid hg
  clear hg
  cases hm : Rng.may l
  · have HM : Hid (showB l = .tuple #[.string ByteArray.empty, .int .i64 50]) := Lib.hid (by unfold showB; rw [if_neg (by rw [hm]; simp)])
    have HC : Hid (chkB l = 50) := Lib.hid (by unfold chkB; rw [if_neg (by rw [hm]; simp)])
    have HA := Lib.hid hA
    have HS := Lib.hid hs
    clear hm hA hs
    go_enter Tryz.func16, Tryz.ntmps16
    go_wp2_with fail
    refine (bcheck_walk A cap l _ HA.out HS.out).mono ?_
    rintro e w1 ⟨he, hb⟩
    rw [HC.out] at he
    subst he
    go_wp2
    go_ret2
    exact ⟨by rw [HM.out]; rfl, hb⟩
  · have HM : Hid (showB l = .tuple #[.string ⟨(Rng.text l).toArray⟩, .int .i64 0]) := Lib.hid (by unfold showB; rw [if_pos hm])
    have HC : Hid (chkB l = 0) := Lib.hid (by unfold chkB; rw [if_pos hm])
    have HMM := Lib.hid hm
    have HA := Lib.hid hA
    have HS := Lib.hid hs
    have hl20 : l.length ≤ 20 := ((Rng.may_iff l).1 hm).1
    clear hm hA hs
    by_cases hz : l = []
    · subst hz
      go_enter Tryz.func16, Tryz.ntmps16
      go_wp2_with fail
      refine (bcheck_walk A cap [] _ HA.out HS.out).mono ?_
      rintro e w1 ⟨he, hb⟩
      rw [HC.out] at he
      subst he
      go_wp2
      go_ret2
      exact ⟨by rw [HM.out]; rfl, hb⟩
    · have hpos : 0 < l.length := List.length_pos_iff.2 hz
      have hlen0 : ((l.length : Int) == 0) = false := by rw [beq_eq_false_iff_ne]; omega
      have hmk := fun W => run_make_texts l.length (by omega) W
      go_enter Tryz.func16, Tryz.ntmps16
      go_wp2_with fail
      refine (bcheck_walk A cap l _ HA.out HS.out).mono ?_
      rintro e w1 ⟨he, hb0⟩
      rw [HC.out] at he
      subst he
      have hMd := mades_new w1 l.length
      have hb1 := below_new hb0 (.cells (madeCells #[.string ⟨#[]⟩] l.length) 9)
      have hb01 := below_one w1 (.cells (madeCells #[.string ⟨#[]⟩] l.length) 9)
      have HB0 := Lib.hid hb0
      clear hb0
      go_wp2_with fail
      clear hmk hb1
      generalize hW4 : w1.alloc (.cells (madeCells #[.string ⟨#[]⟩] l.length) 9) = W4 at hMd hb01 ⊢
      clear hW4
      go_loopw [23] (fun ii wr => ∃ i : Nat, ii = .int .i64 i ∧ i ≤ l.length ∧ Hid (MadeS wr w1.heap.size l.length (bdTexts (l.take i))) ∧ Hid (Below w1.heap.size w1 wr))
        (fun i _ => l.length - (intOf i).toNat)
      case atStart => exact ⟨0, rfl, Nat.zero_le _, Lib.hid hMd, Lib.hid hb01⟩
      case round =>
        obtain ⟨i, rfl, hi, HMd, HB⟩ := hrel
        have HBW := Lib.hid (below_next HB0.out HB.out)
        by_cases hlt : i < l.length
        · have hi1 : (i : Int) < (l.length : Int) := by omega
          rcases HA.out.keep HBW.out (Nat.le_refl _) with h0 | ⟨g, off, rfl, hgl, hc⟩
          · omega
          · obtain ⟨p0, p1, p2, p3, p4⟩ := hc i hlt
            obtain ⟨x, hx⟩ : ∃ x, x = l[i] := ⟨_, rfl⟩
            rw [← hx] at p0 p1 p2 p3 p4
            have hxm : x.may = true := by rw [hx]; exact ((Rng.may_iff l).1 HMM.out).2 _ (List.getElem_mem _)
            obtain ⟨ho1, ho5, hxv⟩ := (Rng.Bd.may_iff x).1 hxm
            have hxs : x.v.pre.length ≤ 24 := ((Sem.may_iff x.v).1 hxv).2.2.2.1
            have HR : Hid (showR x.v = .tuple #[.string ⟨(Sem.text x.v).toArray⟩, .int .i64 0]) := Lib.hid (by unfold showR; rw [if_pos hxv])
            have htl := Sem.text_len hxv
            have HT : Hid (bdTexts (l.take (i + 1)) = bdTexts (l.take i) ++ [⟨(Rng.sign x.op ++ Sem.text x.v).toArray⟩]) := Lib.hid (by
              rw [List.take_succ_eq_append_getElem hlt, ← hx]; simp [bdTexts, Rng.Bd.text])
            obtain ⟨k, hk⟩ : ∃ k : Nat, x.op = (k : Int) := ⟨x.op.toNat, by omega⟩
            have hk1 : 1 ≤ k := by omega
            have hk5 : k ≤ 5 := by omega
            have hsg : (Rng.sign k).length ≤ 2 := by
              unfold Rng.sign; repeat (split; simp)
              simp
            rw [hk] at p0 HT
            clear hx hc hxm hxv ho1 ho5 hk
            go_wp2_with fail
            clear p0 p1 p2 p3 p4
            refine (show_walk x.v (by omega) _ ((HG.out.next HBW.out).g.next (below_one _ _))).mono ?_
            rintro e w5 ⟨he, hb5⟩
            rw [HR.out] at he
            subst he
            have hbx := box5_new wr ⟨k, x.v⟩
            obtain ⟨_, ⟨q0, _⟩, _⟩ := hbx.keep (B := wr.heap.size + 1) (by omega) (hb5.mono (by simp))
            have HB5 := Lib.hid (below_next (below_new HB.out _) hb5)
            have HM5 := Lib.hid ((HMd.out.keep (B := wr.heap.size) HMd.out.lt (below_one wr (.cells #[.int .i64 (k : Int), .int .i64 x.v.maj, .int .i64 x.v.min, .int .i64 x.v.pat, .string ⟨x.v.pre.toArray⟩] 57))).keep (B := wr.heap.size + 1) (by have := HMd.out.lt; omega) (hb5.mono (by simp)))
            have hsc := sign_cell ((HG.out.next HB0.out).next HB5.out) k hk1 hk5
            obtain ⟨g1, hg1⟩ : ∃ g1, g1 = Rng.sign k := ⟨_, rfl⟩
            rw [← hg1] at hsg hsc HT
            obtain ⟨t, ht⟩ : ∃ t, t = Sem.text x.v := ⟨_, rfl⟩
            rw [← ht] at htl HT ⊢
            have z1 : (⟨g1.toArray⟩ : ByteArray).size = g1.length := size_list _
            have z2 : (⟨t.toArray⟩ : ByteArray).size = t.length := size_list _
            have hdl : (bdTexts (l.take i)).length = i := by rw [bdTexts_len, List.length_take]; omega
            have r0 := HM5.out.at_ i hlt
            have f0 := HM5.out.fz i
            have e0 : (bdTexts (l.take i)).getD i ⟨#[]⟩ = ⟨#[]⟩ := by
              rw [List.getD_eq_getElem?_getD, List.getElem?_eq_none (by omega)]; rfl
            rw [e0] at r0
            have hM7 := HM5.out.set (by omega) (⟨(g1 ++ t).toArray⟩ : ByteArray)
            rw [hdl, ← HT.out] at hM7
            have HM7 := Lib.hid hM7
            have hcat : (⟨g1.toArray⟩ : ByteArray) ++ ⟨t.toArray⟩ = ⟨(g1 ++ t).toArray⟩ := by apply ByteArray.ext; simp [ByteArray.data_append]
            have HCAT := Lib.hid hcat
            clear e0 hM7 hdl hb5 hbx hg1 ht hcat
            go_wp2
            go_roundw
            case rel => exact ⟨i + 1, by go_num, by omega, by rw [HCAT.out]; exact HM7, Lib.hid (HB5.out.setCell (p := ⟨w1.heap.size, i, none⟩) (Nat.le_refl _) _)⟩
            case measure => simp [intOf]; omega
        · have hi1 : ¬ (i : Int) < (l.length : Int) := by omega
          have HT : Hid (bdTexts (l.take i) = bdTexts l) := Lib.hid (by rw [List.take_of_length_le (by omega)])
          have hM := HMd.out
          rw [HT.out] at hM
          have hjl : (Lib.join ((bdTexts l).map (·.data.toList)) (⟨#[32]⟩ : ByteArray).data.toList) = Rng.text l := by
            rw [bdTexts_join]
            show Lib.join _ [32] = _
            rw [lib_join]; unfold Rng.text; rw [if_neg hz]
          have htx := Rng.text_length HMM.out
          have hJ := fun W h1 => join_walk w1.heap.size 0 l.length (bdTexts l) ⟨#[32]⟩ W h1
          rw [bdTexts_len, hjl] at hJ
          have HJ := Lib.hid hJ
          have HMS := Lib.hid hM
          clear hJ hM hjl
          go_wp2_with fail
          refine (HJ.out _ (fun j x hx => by
            have hj : j < l.length := by
              rcases Nat.lt_or_ge j (bdTexts l).length with h | h
              · rwa [bdTexts_len] at h
              · rw [List.getElem?_eq_none h] at hx; cases hx
            rw [Nat.zero_add, HMS.out.at_ j hj, List.getD_eq_getElem?_getD, hx]; rfl) HMS.out.lt (by omega) (by omega) (by omega)).mono ?_
          rintro e w8 ⟨rfl, hb8⟩
          have hb9 := below_next HBW.out hb8
          clear hb8
          go_wp2
          go_ret2
          exact ⟨by rw [HM.out]; rfl, hb9⟩
end Go.Proofs.YthjombepcmebfaaGreatDoor

/- The probes that every law of layer 5 asks. -/
namespace Go.Proofs.YthjombepcmebfaaGreatDoor
open Go.RowKit
set_option linter.unusedVariables false

def vP : Sem.Ver := ⟨1, 2, 3, []⟩
def vN : Sem.Ver := ⟨2, 0, 0, []⟩
def lP : List Rng.Bd := [⟨4, vP⟩, ⟨1, vN⟩]

theorem text_P : Sem.text vP = [49, 46, 50, 46, 51] := by
  unfold Sem.text vP
  simp only
  rw [show ((1 : Int).toNat) = 1 from rfl, show ((2 : Int).toNat) = 2 from rfl, show ((3 : Int).toNat) = 3 from rfl, Sem.dec_small (by decide), Sem.dec_small (by decide), Sem.dec_small (by decide)]
  rfl
theorem text_N : Sem.text vN = [50, 46, 48, 46, 48] := by
  unfold Sem.text vN
  simp only
  rw [show ((2 : Int).toNat) = 2 from rfl, show ((0 : Int).toNat) = 0 from rfl, Sem.dec_small (by decide), Sem.dec_small (by decide)]
  rfl

theorem near_P : Rng.near vP = lP := by
  rw [Rng.near_of (by decide) (by decide) (by decide)]; rfl

theorem parse_P : Rng.parse (⟨#[94, 49, 46, 50, 46, 51]⟩ : ByteArray).data.toList = some lP := by
  show Rng.parse [94, 49, 46, 50, 46, 51] = some lP
  unfold Rng.parse
  rw [if_neg (by decide), if_neg (by decide), if_pos (by decide)]
  show (Sem.parse [49, 46, 50, 46, 51]).map Rng.near = some lP
  rw [← text_P, Sem.parse_text (by decide), Option.map_some, near_P]

theorem parse_Q : Rng.parse (⟨#[49, 46, 48, 46, 48]⟩ : ByteArray).data.toList = none := by
  show Rng.parse [49, 46, 48, 46, 48] = none
  unfold Rng.parse
  rw [if_neg (by decide), if_neg (by decide), if_neg (by decide)]
  have h : Rng.bounds (Rng.words [49, 46, 48, 46, 48]) = none := Rng.bounds_bad (p := [49, 46, 48, 46, 48]) (by decide) (by decide)
  rw [h]

theorem show_P : showB lP = .tuple #[.string ⟨#[62, 61, 49, 46, 50, 46, 51, 32, 60, 50, 46, 48, 46, 48]⟩, .int .i64 0] := by
  unfold showB
  rw [if_pos (by decide)]
  have : Rng.text lP = [62, 61, 49, 46, 50, 46, 51, 32, 60, 50, 46, 48, 46, 48] := by
    unfold Rng.text lP
    rw [if_neg (by decide), List.map_cons, List.map_cons, List.map_nil, Rng.join, Rng.join]
    unfold Rng.Bd.text
    simp only
    rw [text_P, text_N]; rfl
  rw [this]

theorem meets_P : Rng.meets ⟨1, 9, 0, []⟩ lP = true := by decide
theorem meets_Q : Rng.meets ⟨2, 0, 0, []⟩ lP = false := by decide

set_option maxRecDepth 100000 in
set_option maxHeartbeats 4000000 in
theorem rawake_walk (w : World) (hg : RGlobs w) : Calls Tryz.prog 11 #[] w fun e w' => e = .returned (.bool true) ∧ Below w.heap.size w w' := by
  go_enter Tryz.func11, Tryz.ntmps11
  go_wp2_with fail
  refine (ownParse_walk _ (by decide) _ hg).mono ?_
  rintro e w1 ⟨A, c, he, hc, hA, hb1⟩
  rw [parse_P] at he hc hA
  simp only [Option.getD_some, Option.isSome_some, if_true] at he hc hA
  have HA := Lib.hid hA
  have HG := Lib.hid (hg.next hb1)
  have hll : lP.length = 2 := rfl
  have HS : Hid (∀ b ∈ lP, b.v.pre.length ≤ 1000000) := Lib.hid (by decide)
  subst he
  clear hA hg
  go_wp2_with fail
  refine (bshow_walk A c lP _ HA.out (fun b hb => Nat.le_trans (HS.out b hb) (by decide)) HG.out).mono ?_
  rintro e w2 ⟨rfl, hb2⟩
  rw [show_P]
  have hb12 := below_next hb1 hb2
  have HA2 := Lib.hid (HA.out.next hb2)
  have HG2 := Lib.hid (HG.out.next hb2)
  clear hb1 hb2
  go_wp2_with fail
  refine (ownParse_walk _ (by decide) _ HG2.out).mono ?_
  rintro e w3 ⟨B, d, he, hd, hB, hb3⟩
  rw [parse_Q] at he
  simp only [Option.getD_none, Option.isSome_none, List.length_nil] at he
  subst he
  have hb13 := below_next hb12 hb3
  have HA3 := Lib.hid (HA2.out.next hb3)
  clear hb12 hb3 hB hd
  go_wp2_with fail
  refine (meets_walk ⟨1, 9, 0, []⟩ A c lP _ HA3.out (by decide) HS.out (by decide)).mono ?_
  rintro e w4 ⟨he, hb4⟩
  rw [meets_P] at he
  subst he
  have hb14 := below_next hb13 hb4
  have HA4 := Lib.hid (HA3.out.next hb4)
  clear hb13 hb4
  go_wp2_with fail
  refine (meets_walk ⟨2, 0, 0, []⟩ A c lP _ HA4.out (by decide) HS.out (by decide)).mono ?_
  rintro e w5 ⟨he, hb5⟩
  rw [meets_Q] at he
  subst he
  have hb15 := below_next hb14 hb5
  clear hb14 hb5
  go_wp2
  go_ret
  exact ⟨rfl, hb15⟩
end Go.Proofs.YthjombepcmebfaaGreatDoor

/- light: few and short ranges. -/
namespace Go.Proofs.YthjombepcmebfaaGreatDoor
open Go.RowKit
set_option linter.unusedVariables false

def lightRow (r : Row) : Bool := decide (r.l.length ≤ 60) && r.l.all fun b => decide (b.v.pre.length ≤ 100)
def light (ls : List Row) : Bool := decide (ls.length ≤ 20) && ls.all lightRow

theorem light_many {ls : List Row} (h : 20 < ls.length) : light ls = false := by
  unfold light; rw [decide_eq_false (by omega)]; rfl
theorem light_long {ls : List Row} {r : Row} (hr : r ∈ ls) (h : lightRow r = false) : light ls = false := by
  unfold light
  have : ls.all lightRow = false := List.all_eq_false.2 ⟨r, hr, by rw [h]; simp⟩
  rw [this, Bool.and_false]
theorem lightRow_long {r : Row} (h : 60 < r.l.length) : lightRow r = false := by
  unfold lightRow; rw [decide_eq_false (by omega)]; rfl
theorem lightRow_big {r : Row} {b : Rng.Bd} (hb : b ∈ r.l) (h : 100 < b.v.pre.length) : lightRow r = false := by
  unfold lightRow
  have : r.l.all (fun b => decide (b.v.pre.length ≤ 100)) = false := List.all_eq_false.2 ⟨b, hb, by simp; omega⟩
  rw [this, Bool.and_false]
theorem lightRow_all {r : Row} (h : r.l.length ≤ 60) (k : ∀ j (hj : j < r.l.length), (r.l[j]'hj).v.pre.length ≤ 100) : lightRow r = true := by
  unfold lightRow
  rw [decide_eq_true h, Bool.true_and, List.all_eq_true]
  intro b hb
  obtain ⟨j, hj, rfl⟩ := List.mem_iff_getElem.1 hb
  exact decide_eq_true (k j hj)
theorem light_all {ls : List Row} (h : ls.length ≤ 20) (k : ∀ j (hj : j < ls.length), lightRow (ls[j]'hj) = true) : light ls = true := by
  unfold light
  rw [decide_eq_true h, Bool.true_and, List.all_eq_true]
  intro b hb
  obtain ⟨j, hj, rfl⟩ := List.mem_iff_getElem.1 hb
  exact k j hj
theorem light_iff (ls : List Row) : light ls = true ↔ ls.length ≤ 20 ∧ ∀ r ∈ ls, r.l.length ≤ 60 ∧ ∀ b ∈ r.l, b.v.pre.length ≤ 100 := by
  simp [light, lightRow]

set_option maxRecDepth 100000 in
set_option maxHeartbeats 4000000 in
theorem light_walk (A : Option Addr) (cap : Nat) (ls : List Row) (w : World) (hA : Bdss w w.heap.size A ls) :
    Calls Tryz.prog 15 #[.slice A ls.length cap] w fun e w' => e = .returned (.bool (light ls)) ∧ w = w' := by
  have HA := Lib.hid hA
  clear hA
  go_enter Tryz.func15, Tryz.ntmps15
  go_wp2_with fail
  go_loopw [3] (fun ii wr => ∃ i : Nat, ii = .int .i64 i ∧ i ≤ ls.length ∧ i ≤ 20 ∧ Hid (∀ j (hj : j < ls.length), j < i → lightRow (ls[j]'hj) = true) ∧ w = wr)
    (fun i _ => ls.length - (intOf i).toNat)
  case atStart => exact ⟨0, rfl, Nat.zero_le _, Nat.zero_le _, Lib.hid (fun j _ hj => absurd hj (by omega)), rfl⟩
  case round =>
    obtain ⟨i, rfl, hi, hi20, HN, rfl⟩ := hrel
    by_cases hlt : i < ls.length
    · have hi1 : (i : Int) < (ls.length : Int) := by omega
      by_cases h20 : i = 20
      · have HC : Hid (light ls = false) := Lib.hid (light_many (by omega))
        have h2 : (20 : Int) ≤ (i : Int) := by omega
        go_wp2
        go_ret
        exact ⟨by rw [HC.out]; rfl, rfl⟩
      · have h2 : ¬ (20 : Int) ≤ (i : Int) := by omega
        have hi19 : i < 20 := by omega
        obtain ⟨r, hr⟩ : ∃ r, r = ls[i] := ⟨_, rfl⟩
        have HRM : Hid (r ∈ ls) := Lib.hid (by rw [hr]; exact List.getElem_mem _)
        have HRB := Lib.hid (HA.out.2 r HRM.out).1
        rcases HA.out.1 with h0 | ⟨g, off, rfl, hg, hc⟩
        · omega
        · have hcell := hc i hlt
          rw [← hr] at hcell
          have HR := Lib.hid hr
          clear hc hr
          by_cases h60 : 60 < r.l.length
          · have HC : Hid (light ls = false) := Lib.hid (light_long HRM.out (lightRow_long h60))
            have h61 : (60 : Int) < (r.l.length : Int) := by omega
            go_wp2
            go_ret
            exact ⟨by rw [HC.out]; rfl, rfl⟩
          · have h61 : ¬ (60 : Int) < (r.l.length : Int) := by omega
            go_wp2_with fail
            go_loopw [4] (fun kk wq => ∃ k : Nat, kk = .int .i64 k ∧ k ≤ r.l.length ∧ Hid (∀ j (hj : j < r.l.length), j < k → (r.l[j]'hj).v.pre.length ≤ 100) ∧ w = wq)
              (fun k _ => r.l.length - (intOf k).toNat)
            case atStart => exact ⟨0, rfl, Nat.zero_le _, Lib.hid (fun j _ hj => absurd hj (by omega)), rfl⟩
            case round =>
              obtain ⟨k, rfl, hk, HK, rfl⟩ := hrel
              by_cases hkl : k < r.l.length
              · have hk1 : (k : Int) < (r.l.length : Int) := by omega
                rcases HRB.out with h0 | ⟨g2, off2, hA2, hg2, hc2⟩
                · omega
                · obtain ⟨p0, p1, p2, p3, p4⟩ := hc2 k hkl
                  obtain ⟨b, hb⟩ : ∃ b, b = r.l[k] := ⟨_, rfl⟩
                  rw [← hb] at p0 p1 p2 p3 p4
                  have hbm : b ∈ r.l := by rw [hb]; exact List.getElem_mem _
                  have HB := Lib.hid hb
                  clear hc2 hb
                  rw [hA2] at hcell
                  have hz : (⟨b.v.pre.toArray⟩ : ByteArray).size = b.v.pre.length := size_list _
                  by_cases h100 : 100 < b.v.pre.length
                  · have HC : Hid (light ls = false) := Lib.hid (light_long HRM.out (lightRow_big hbm h100))
                    have h101 : (100 : Int) < (b.v.pre.length : Int) := by omega
                    go_wp2
                    go_ret
                    exact ⟨by rw [HC.out]; rfl, rfl⟩
                  · have h101 : ¬ (100 : Int) < (b.v.pre.length : Int) := by omega
                    have HM : Hid ((r.l[k]'hkl).v.pre.length ≤ 100) := Lib.hid (by rw [← HB.out]; omega)
                    go_wp2
                    go_roundw
                    case rel => exact ⟨k + 1, by go_num, by omega, Lib.hid (fun j hj hji => by
                      rcases Nat.lt_succ_iff_lt_or_eq.1 hji with h | rfl
                      · exact HK.out j hj h
                      · exact HM.out), trivial⟩
                    case measure => simp [intOf]; omega
              · have hk1 : ¬ (k : Int) < (r.l.length : Int) := by omega
                have HM : Hid (lightRow (ls[i]'hlt) = true) := Lib.hid (by rw [← HR.out]; exact lightRow_all (by omega) (fun j hj => HK.out j hj (by omega)))
                go_wp2
                go_roundw
                case rel => exact ⟨i + 1, by go_num, by omega, by omega, Lib.hid (fun j hj hji => by
                  rcases Nat.lt_succ_iff_lt_or_eq.1 hji with h | rfl
                  · exact HN.out j hj h
                  · exact HM.out), trivial⟩
                case measure => simp [intOf]; omega
    · have hi1 : ¬ (i : Int) < (ls.length : Int) := by omega
      have HC : Hid (light ls = true) := Lib.hid (light_all (by omega) (fun j hj => HN.out j hj (by omega)))
      go_wp2
      go_ret
      exact ⟨by rw [HC.out]; rfl, rfl⟩
end Go.Proofs.YthjombepcmebfaaGreatDoor

/- What the walks of layer 5's laws share. -/
namespace Go.Proofs.YthjombepcmebfaaGreatDoor
open Go.RowKit
set_option linter.unusedVariables false

/-- Ranges that the call puts together. -/
theorem bdss_made (W : World) (rs : List Row) (g : Nat) (hg : g = W.heap.size) (h : ∀ r ∈ rs, Bds W W.heap.size r.A r.l ∧ r.l.length ≤ r.c) :
    Bdss (W.alloc (.cells (rs.map fun r => Value.slice r.A r.l.length r.c).toArray 23)) (W.alloc (.cells (rs.map fun r => Value.slice r.A r.l.length r.c).toArray 23)).heap.size (some ⟨g, 0, none⟩) rs := by
  subst hg
  refine ⟨Or.inr ⟨W.heap.size, 0, rfl, by simp, fun i hi => ?_⟩, fun r hr => ⟨(h r hr).1.next (below_one _ _), (h r hr).2⟩⟩
  have : (rs.map fun r => Value.slice r.A r.l.length r.c).toArray[i]? = some (.slice (rs[i]'hi).A (rs[i]'hi).l.length (rs[i]'hi).c) := by simp [hi]
  rw [Nat.zero_add]
  simp [go_sem, hi]

theorem parse_few (s : List UInt8) : ((Rng.parse s).getD []).length ≤ 20 := by
  cases h : Rng.parse s with
  | none => simp
  | some l => exact ((Rng.may_iff l).1 (Rng.parse_some h).1).1

theorem light_one {r : Row} (h : light [r] = true) : r.l.length ≤ 60 ∧ ∀ b ∈ r.l, b.v.pre.length ≤ 100 := ((light_iff _).1 h).2 r (by simp)
theorem light_two {r q : Row} (h : light [r, q] = true) : (r.l.length ≤ 60 ∧ ∀ b ∈ r.l, b.v.pre.length ≤ 100) ∧ (q.l.length ≤ 60 ∧ ∀ b ∈ q.l, b.v.pre.length ≤ 100) := ⟨((light_iff _).1 h).2 r (by simp), ((light_iff _).1 h).2 q (by simp)⟩
theorem flat_short {ls : List Row} {n : Nat} (h : ∀ r ∈ ls, r.l.length ≤ n) : (flat ls).length ≤ n * ls.length := by
  induction ls with
  | nil => simp [flat]
  | cons r rs ih =>
    have h1 := h r (by simp)
    have h2 := ih (fun q hq => h q (List.mem_cons_of_mem _ hq))
    have e : flat (r :: rs) = r.l ++ flat rs := by simp [flat]
    rw [e, List.length_append, List.length_cons, Nat.mul_add]
    omega
end Go.Proofs.YthjombepcmebfaaGreatDoor
