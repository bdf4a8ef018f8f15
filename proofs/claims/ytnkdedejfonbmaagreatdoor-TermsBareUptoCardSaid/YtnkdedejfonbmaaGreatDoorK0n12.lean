/- What the proofs of TermsBare, TermsChecks, TermsDeep, TermsSame, TermsSames want, part 12. -/
import Derived.Shelf.Strings.Builder1
import Derived.Test.YtnkdedejfonbmaaGreatDoorProg
import Derived.StillTailTactics
import Derived.Deep.RegionHeld3
import Derived.Test.YtnkdedejfonbmaaGreatDoorK0n11
set_option linter.unusedVariables false
set_option linter.unusedSimpArgs false
set_option maxRecDepth 100000
set_option maxHeartbeats 16000000
namespace Go.Proofs.YtnkdedejfonbmaaGreatDoor
open Go.RowKit
theorem ZaE (c : UInt8) : (∃ (j : Nat) (x : UInt8), j < 4 /\ Lib.indexByte [10, 9, 34, 92] c = (j : Int) /\ Lex.escB c = [92, x] /\ (∀ W, (Instr.index 9 (.string ⟨#[110, 116, 34, 92]⟩) (.int .i64 (j : Int))).run Tryz.prog W = .ok (.int .u8 x.toNat) W)) \/ (Lib.indexByte [10, 9, 34, 92] c = -1 /\ Lex.escB c = [c]) := by
 have hk : ∀ (j : Nat) (hj : j < 4) (W : World), (Instr.index 9 (.string ⟨#[110, 116, 34, 92]⟩) (.int .i64 (j : Int))).run Tryz.prog W = .ok (.int .u8 ((⟨#[110, 116, 34, 92]⟩ : ByteArray)[j]'hj).toNat) W := fun j hj W => Z0K ⟨#[110, 116, 34, 92]⟩ j hj W
 by_cases h1 : c = 10
 {subst h1; exact Or.inl ⟨0, 110, by decide, by decide, rfl, hk 0 (by decide)⟩}
 by_cases h2 : c = 9
 {subst h2; exact Or.inl ⟨1, 116, by decide, by decide, rfl, hk 1 (by decide)⟩}
 by_cases h3 : c = 34
 {subst h3; exact Or.inl ⟨2, 34, by decide, by decide, rfl, hk 2 (by decide)⟩}
 by_cases h4 : c = 92
 {subst h4; exact Or.inl ⟨3, 92, by decide, by decide, rfl, hk 3 (by decide)⟩}
 {refine Or.inr ⟨?_, ?_⟩
  {have g1 : ((10 : UInt8) == c) = false := beq_eq_false_iff_ne.2 (Ne.symm h1)
   have g2 : ((9 : UInt8) == c) = false := beq_eq_false_iff_ne.2 (Ne.symm h2)
   have g3 : ((34 : UInt8) == c) = false := beq_eq_false_iff_ne.2 (Ne.symm h3)
   have g4 : ((92 : UInt8) == c) = false := beq_eq_false_iff_ne.2 (Ne.symm h4)
   simp [Lib.indexByte, g1, g2, g3, g4]}
  {unfold Lex.escB; rw [if_neg h1, if_neg h2, if_neg (by rintro (h | h); exact h3 h; exact h4 h)]}}
theorem Z82 (p : List UInt8) (a b : UInt8) : Lib.byteCells (p ++ [a, b]) = Lib.byteCells p ++ [.int .u8 (a.toNat : Int), .int .u8 (b.toNat : Int)] := by simp [Lib.byteCells]
def Enq (l : List UInt8) (w wr : World) (v : Value) (n : Nat) : Prop := wr.ownsRow w.heap.size 5 1 v (Lex.sow l n).length (Lib.byteCells (Lex.sow l n)) /\ Below w.heap.size w wr
theorem Z95 (l : List UInt8) (hl : l.length <= 1000000) (w : World) :
 Y9 128 #[.string ⟨l.toArray⟩] w (.string ⟨(34 :: (l.flatMap Lex.escB ++ [34])).toArray⟩) := by
 obtain ⟨i0, hi, hz0, hz1, hz2⟩ := info_parts (P := Tryz.prog) (e := 5) (z := .int .u8 0) (size := 1) (bytes := 1) (by kernel_rfl)
 have hz : (⟨l.toArray⟩ : ByteArray).size = l.length := Z04 _
 have hsow : ∀ n, (Lex.sow l n).length <= 1 + 2 * n := Lex.ZgW l
 have HE0 : Hid (Enq l w (w.alloc (.cells #[.int .u8 34] 5)) (.slice (some ⟨w.heap.size, 0, none⟩) 1 1) 0) := Y1
  ⟨World.ownsRow_lit (base := w.heap.size) (e := 5) (size := 1) w #[Value.int .u8 34] 1 (Nat.le_refl _) (by simp [maxLen]) rfl, Z02 _ _⟩
 go_enter Tryz.func128, Tryz.ntmps128
 go_wp2_with fail
 go_loopw [3, 9] (fun v ii wr => ∃ n : Nat, ii = .int .i64 n /\ n <= l.length /\ Hid (Enq l w wr v n))
  (fun _ ii _ => l.length - (intOf ii).toNat)
 case atStart => exact ⟨0, rfl, Nat.zero_le _, HE0⟩
 case round =>
  obtain ⟨n, rfl, hn, HE⟩ := hrel
  have hsz := hsow n
  have hbw := HE.out.2.size
  by_cases hlt : n < l.length
  {have hi1 : (n : Int) < (l.length : Int) := by omega
   obtain ⟨c, hc⟩ : ∃ c, c = l[n]'hlt := ⟨_, rfl⟩
   have hidx : ∀ W, (Instr.index 9 (.string ⟨l.toArray⟩) (.int .i64 (n : Int))).run Tryz.prog W = .ok (.int .u8 c.toNat) W := fun W => by
    rw [hc]; exact Z0K ⟨l.toArray⟩ n (by omega) W
   have HS : Hid (Lex.sow l (n + 1) = Lex.sow l n ++ Lex.escB c) := Y1 (by rw [hc]; exact Lex.Zg5 hlt)
   clear hc
   rcases ZaE c with ⟨j, x, hj, hix, hesc, hjx⟩ | ⟨hix, hesc⟩
   {have HIX := Y1 hix
    have HSE : Hid (Lex.sow l (n + 1) = Lex.sow l n ++ [92, x]) := Y1 (by rw [HS.out, hesc])
    have hj0 : (0 : Int) <= (j : Int) := by omega
    have hj4 : (j : Int) < 4 := by omega
    have hx0 := x.toNat_lt
    clear hix hesc HS
    go_wp2_with fail
    refine (Z73 [10, 9, 34, 92] c _).mono ?_
    rintro e w2 ⟨he, rfl⟩
    rw [HIX.out] at he
    subst he
    go_wp2_with (at_builtin; refine wpList_append_own _ rfl _ _ 89 rfl w.heap.size 5 i0 (.int .u8 0) 1 1 Tryz.underlying89 hi hz0 hz1 hz2 rfl (by decide) _ _ _ rfl (HE.out.1.alloc _) ⟨wr.heap.size, 0, none⟩ 2 2 [.int .u8 92, .int .u8 (x.toNat : Int)] rfl rfl (World.news_of_block (heap_alloc_new wr _)) (by intro u hu; simp at hu; rcases hu with rfl | rfl <;> rfl) (by unfold maxLen; omega) (by omega) (by simp; omega) ?_)
    intro v' w3 hown3 hgrow _
    have hb3 := (HE.out.2.alloc hbw (.cells #[.int .u8 92, .int .u8 (x.toNat : Int)] 5)).grown hgrow (by simp; omega) (fun k hk => (HE.out.1.lt k hk).1)
    have HE3 : Hid (Enq l w w3 v' (n + 1)) := Y1 ⟨by rw [HSE.out, Z82, List.length_append]; exact hown3, hb3⟩
    clear hown3 hgrow hb3
    go_wp2
    go_roundw
    case rel => exact ⟨n + 1, by go_num, by omega, HE3⟩
    case measure => simp [intOf]; omega}
   {have HIX := Y1 hix
    have HSE : Hid (Lex.sow l (n + 1) = Lex.sow l n ++ [c]) := Y1 (by rw [HS.out, hesc])
    have hx0 := c.toNat_lt
    clear hix hesc HS
    go_wp2_with fail
    refine (Z73 [10, 9, 34, 92] c _).mono ?_
    rintro e w2 ⟨he, rfl⟩
    rw [HIX.out] at he
    subst he
    go_wp2_with (at_builtin; refine wpList_append_own _ rfl _ _ 89 rfl w.heap.size 5 i0 (.int .u8 0) 1 1 Tryz.underlying89 hi hz0 hz1 hz2 rfl (by decide) _ _ _ rfl (HE.out.1.alloc _) ⟨wr.heap.size, 0, none⟩ 1 1 [.int .u8 (c.toNat : Int)] rfl rfl (World.news_of_block (heap_alloc_new wr _)) (by intro u hu; simp at hu; subst hu; rfl) (by unfold maxLen; omega) (by omega) (by simp; omega) ?_)
    intro v' w3 hown3 hgrow _
    have hb3 := (HE.out.2.alloc hbw (.cells #[.int .u8 (c.toNat : Int)] 5)).grown hgrow (by simp; omega) (fun k hk => (HE.out.1.lt k hk).1)
    have HE3 : Hid (Enq l w w3 v' (n + 1)) := Y1 ⟨by rw [HSE.out, Z1X, List.length_append]; exact hown3, hb3⟩
    clear hown3 hgrow hb3
    go_wp2
    go_roundw
    case rel => exact ⟨n + 1, by go_num, by omega, HE3⟩
    case measure => simp [intOf]; omega}}
  {have hi1 : ¬ (n : Int) < (l.length : Int) := by omega
   have HF : Hid (Lex.sow l n ++ [34] = 34 :: (l.flatMap Lex.escB ++ [34])) := Y1 (by unfold Lex.sow; rw [List.take_of_length_le (by omega)]; rfl)
   go_wp2_with (at_builtin; refine wpList_append_own _ rfl _ _ 89 rfl w.heap.size 5 i0 (.int .u8 0) 1 1 Tryz.underlying89 hi hz0 hz1 hz2 rfl (by decide) _ _ _ rfl (HE.out.1.alloc _) ⟨wr.heap.size, 0, none⟩ 1 1 [.int .u8 34] rfl rfl (World.news_of_block (heap_alloc_new wr _)) (by intro u hu; simp at hu; subst hu; rfl) (by unfold maxLen; omega) (by omega) (by simp; omega) ?_)
   intro v' w3 hown3 hgrow _
   have hb3 := (HE.out.2.alloc hbw (.cells #[.int .u8 34] 5)).grown hgrow (by simp; omega) (fun k hk => (HE.out.1.lt k hk).1)
   have ho : w3.ownsRow w.heap.size 5 1 v' ((Lex.sow l n).length + 1) (Lib.byteCells (34 :: (l.flatMap Lex.escB ++ [34]))) := by rw [<- HF.out, Z1X]; exact hown3
   have hcv := Z4g ho
   have HB3 := Y1 hb3
   clear hown3 hgrow hb3 ho
   go_wp2
   go_ret
   exact ⟨rfl, HB3.out⟩}
theorem Z83 (k : Int) (l : List UInt8) (hl : l.length <= 1000000) (a : Int) (w : World) :
 Y9 103 #[.agg #[.int .i64 k, .string ⟨l.toArray⟩, .int .i64 a]] w (.string ⟨(Lex.written ⟨k, l⟩).toArray⟩) := by
 have HB0 := Y1 (Z02 w (.cells #[.int .i64 k, .string ⟨l.toArray⟩, .int .i64 a] 99))
 have HX : Hid (BoxT (w.alloc (.cells #[.int .i64 k, .string ⟨l.toArray⟩, .int .i64 a] 99)) w.heap.size k l) := Y1 ⟨by simp [go_sem], by simp [go_sem]⟩
 by_cases h4 : k = 4
 {subst h4
  have HE : Hid (Lex.written ⟨4, l⟩ = 34 :: (l.flatMap Lex.escB ++ [34])) := Y1 (by unfold Lex.written; rw [if_pos rfl])
  go_enter Tryz.func103, Tryz.ntmps103
  go_wp2_with fail
  generalize hW : w.alloc (.cells #[.int .i64 4, .string ⟨l.toArray⟩, .int .i64 a] 99) = W0 at HX HB0 ⊢
  clear hW
  obtain ⟨x0, x1⟩ := HX.out
  go_wp2_with fail
  refine (Z95 l hl _).mono ?_
  rintro e w2 ⟨rfl, hb2⟩
  go_wp2
  go_ret
  exact ⟨by rw [HE.out]; rfl, Z00 HB0.out hb2⟩}
 {have hk : (k == 4) = false := by simp [h4]
  have HE : Hid (Lex.written ⟨k, l⟩ = l) := Y1 (by unfold Lex.written; rw [if_neg h4])
  go_enter Tryz.func103, Tryz.ntmps103
  go_wp2_with fail
  generalize hW : w.alloc (.cells #[.int .i64 k, .string ⟨l.toArray⟩, .int .i64 a] 99) = W0 at HX HB0 ⊢
  clear hW
  obtain ⟨x0, x1⟩ := HX.out
  go_wp2
  go_ret
  exact ⟨by rw [HE.out]; rfl, HB0.out⟩}
end Go.Proofs.YtnkdedejfonbmaaGreatDoor
namespace Go.Proofs
open Go.Shelf
def Tryz.lays166_ren : Go.Shelf.Ren := ⟨fun | 166 => 74 | 240 => 101 | 276 => 127 | n => n, fun | 0 => 0 | 3 => 3 | 4 => 4 | 9 => 9 | 20 => 20 | 37 => 89 | 70 => 88 | 72 => 91 | 75 => 93 | 164 => 153 | 5 => 5 | 80 => 100 | n => n, fun | n => n⟩
theorem Tryz.lays166 : Go.Proofs.Lays.n166 Tryz.prog Tryz.lays166_ren := {
 mixed := by kernel_rfl
 f166 := Tryz.func74.trans (congrArg some (by kernel_rfl))
 f240 := Tryz.func101.trans (congrArg some (by kernel_rfl))
 f276 := Tryz.func127.trans (congrArg some (by kernel_rfl))
 t0 := Tryz.underlying0
 a0 := Tryz.isAgg0
 z0 := Tryz.sizeOf0
 v0 := Tryz.zeroValue0
 t3 := Tryz.underlying3
 a3 := Tryz.isAgg3
 z3 := Tryz.sizeOf3
 v3 := Tryz.zeroValue3
 t4 := Tryz.underlying4
 a4 := Tryz.isAgg4
 z4 := Tryz.sizeOf4
 v4 := Tryz.zeroValue4
 t9 := Tryz.underlying9
 a9 := Tryz.isAgg9
 z9 := Tryz.sizeOf9
 v9 := Tryz.zeroValue9
 t20 := Tryz.underlying20
 a20 := Tryz.isAgg20
 z20 := Tryz.sizeOf20
 v20 := Tryz.zeroValue20
 t37 := Tryz.underlying89
 a37 := Tryz.isAgg89
 z37 := Tryz.sizeOf89
 v37 := Tryz.zeroValue89
 t70 := Tryz.underlying88
 a70 := Tryz.isAgg88
 z70 := Tryz.sizeOf88
 v70 := Tryz.zeroValue88
 t72 := Tryz.underlying91
 a72 := Tryz.isAgg91
 z72 := Tryz.sizeOf91
 v72 := Tryz.zeroValue91
 t75 := Tryz.underlying93
 a75 := Tryz.isAgg93
 z75 := Tryz.sizeOf93
 v75 := Tryz.zeroValue93
 t164 := Tryz.underlying153
 a164 := Tryz.isAgg153
 z164 := Tryz.sizeOf153
 v164 := Tryz.zeroValue153 }
theorem Tryz.x166 : Builder.Extra Tryz.prog Tryz.lays166_ren := {
 sizeBuilder := by kernel_rfl
 liesBuilder := by kernel_rfl
 t5 := Tryz.underlying5
 a5 := Tryz.isAgg5
 z5 := Tryz.sizeOf5
 v5 := Tryz.zeroValue5
 infoByte := by kernel_rfl
 cellsByte := by kernel_rfl
 sizeByte := by kernel_rfl
 neB5 := by decide }
def Tryz.lays169_ren : Go.Shelf.Ren := ⟨fun | 169 => 77 | n => n, fun | 0 => 0 | 3 => 3 | 9 => 9 | 37 => 89 | 70 => 88 | 72 => 91 | 127 => 135 | 5 => 5 | n => n, fun | n => n⟩
theorem Tryz.lays169 : Go.Proofs.Lays.n169 Tryz.prog Tryz.lays169_ren := {
 mixed := by kernel_rfl
 f169 := Tryz.func77.trans (congrArg some (by kernel_rfl))
 t0 := Tryz.underlying0
 a0 := Tryz.isAgg0
 z0 := Tryz.sizeOf0
 v0 := Tryz.zeroValue0
 t3 := Tryz.underlying3
 a3 := Tryz.isAgg3
 z3 := Tryz.sizeOf3
 v3 := Tryz.zeroValue3
 t9 := Tryz.underlying9
 a9 := Tryz.isAgg9
 z9 := Tryz.sizeOf9
 v9 := Tryz.zeroValue9
 t37 := Tryz.underlying89
 a37 := Tryz.isAgg89
 z37 := Tryz.sizeOf89
 v37 := Tryz.zeroValue89
 t70 := Tryz.underlying88
 a70 := Tryz.isAgg88
 z70 := Tryz.sizeOf88
 v70 := Tryz.zeroValue88
 t72 := Tryz.underlying91
 a72 := Tryz.isAgg91
 z72 := Tryz.sizeOf91
 v72 := Tryz.zeroValue91
 t127 := Tryz.underlying135
 a127 := Tryz.isAgg135
 z127 := Tryz.sizeOf135
 v127 := Tryz.zeroValue135 }
theorem Tryz.x169 : Builder.Extra Tryz.prog Tryz.lays169_ren := {
 sizeBuilder := by kernel_rfl
 liesBuilder := by kernel_rfl
 t5 := Tryz.underlying5
 a5 := Tryz.isAgg5
 z5 := Tryz.sizeOf5
 v5 := Tryz.zeroValue5
 infoByte := by kernel_rfl
 cellsByte := by kernel_rfl
 sizeByte := by kernel_rfl
 neB5 := by decide }
def Tryz.lays170_ren : Go.Shelf.Ren := ⟨fun | 170 => 105 | n => n, fun | 70 => 88 | 3 => 3 | 0 => 0 | 72 => 91 | 37 => 89 | 5 => 5 | n => n, fun | n => n⟩
theorem Tryz.lays170 : Go.Proofs.Lays.n170 Tryz.prog Tryz.lays170_ren := {
 mixed := by kernel_rfl
 f170 := Tryz.func105.trans (congrArg some (by kernel_rfl))
 t0 := Tryz.underlying0
 a0 := Tryz.isAgg0
 z0 := Tryz.sizeOf0
 v0 := Tryz.zeroValue0
 t3 := Tryz.underlying3
 a3 := Tryz.isAgg3
 z3 := Tryz.sizeOf3
 v3 := Tryz.zeroValue3
 t37 := Tryz.underlying89
 a37 := Tryz.isAgg89
 z37 := Tryz.sizeOf89
 v37 := Tryz.zeroValue89
 t70 := Tryz.underlying88
 a70 := Tryz.isAgg88
 z70 := Tryz.sizeOf88
 v70 := Tryz.zeroValue88
 t72 := Tryz.underlying91
 a72 := Tryz.isAgg91
 z72 := Tryz.sizeOf91
 v72 := Tryz.zeroValue91 }
section
open Go.RowKit
theorem Tryz.builder_write (B b : Nat) (bs : List Value) (s : ByteArray) (w : World) (h : Lib.IsBuilder 91 5 B b bs w) (hlen : bs.length + s.size <= 140737488355328) (hBw : B <= w.heap.size) :
 Calls Tryz.prog 74 #[.pointer (some ⟨b, 0, none⟩), .string s] w fun e w' => e = .returned (.tuple #[.int .i64 s.size, .nilIface]) /\ (Lib.BuilderAt 91 5 B b (.pointer (some ⟨b, 0, none⟩)) (bs ++ Lib.strCells s) w' /\ Below B w w') :=
 Any.Builder_WriteString Tryz.lays166 Tryz.x166 B b bs s w h hlen hBw
theorem Tryz.builder_text (B b : Nat) (l : List UInt8) (w : World) (h : Lib.IsBuilder 91 5 B b (Lib.byteCells l) w) (hBw : B <= w.heap.size) :
 Calls Tryz.prog 77 #[.pointer (some ⟨b, 0, none⟩)] w fun e w' => e = .returned (.string ⟨l.toArray⟩) /\ Below B w w' :=
 Any.Builder_String_any Tryz.lays169 Tryz.x169 B b l w h hBw
theorem Tryz.builder_len (B b : Nat) (bs : List Value) (w : World) (h : Lib.IsBuilder 91 5 B b bs w) :
 Calls Tryz.prog 105 #[.pointer (some ⟨b, 0, none⟩)] w fun e w' => e = .returned (.int .i64 bs.length) /\ w' = w :=
 Any.Builder_Len Tryz.lays170 B b bs w h
end
end Go.Proofs
namespace Lex
theorem ZeK {s : List UInt8} {x : Int} {k : Nat} (h : scanR s = .error (x, k)) : x ≠ 0 := by
 unfold scanR at h
 split at h
 {obtain ⟨rfl, _⟩ := Prod.mk.inj (Except.error.inj h); decide}
 {split at h
  {rename_i y hy
   obtain ⟨e, j⟩ := y
   obtain ⟨rfl, _⟩ := Prod.mk.inj (Except.error.inj h)
   rcases (Z2p _ _ _ _ _ (Nat.le_refl _) hy).2 with h | h <;> rw [h] <;> decide}
  {cases h}}
theorem Z4Z (t : Tok) : (written t).length <= 2 * t.text.length + 2 := by
 unfold written
 split
 {have := Z94 t.text
  simp only [List.length_cons, List.length_append, List.length_nil]; omega}
 {omega}
theorem Zg6 {t : Tok} (h : t = endTok \/ good t) : ∃ x m, scanR (written t) = .ok (x :: m) /\ x.1 = t := by
 rcases h with rfl | h
 {exact ⟨_, _, Zg0, rfl⟩}
 {exact ⟨_, _, ZeF h, rfl⟩}
end Lex
namespace Go.Proofs.YtnkdedejfonbmaaGreatDoor
open Go.RowKit
theorem ZeL (W : World) (b : Tk) : TkAt (W.alloc (.cells #[.int .i64 b.t.kind, .string ⟨b.t.text.toArray⟩, .int .i64 b.at_] 99)) W.heap.size 0 b :=
 ⟨by simp [go_sem], by simp [go_sem], by simp [go_sem]⟩
theorem ZaF (t : Lex.Tok) (a : Int) (ht : t.text.length <= 1000000) (b : Bool) (hb : b = true ↔ (t = Lex.endTok \/ Lex.good t)) (w : World) (hg : Globs w) :
 Y9 104 #[.string ⟨(Lex.written t).toArray⟩, .agg #[.int .i64 t.kind, .string ⟨t.text.toArray⟩, .int .i64 a]] w (.bool b) := by
 have hwl := Lex.Z4Z t
 have hb0 := Z02 w (.cells #[.int .i64 t.kind, .string ⟨t.text.toArray⟩, .int .i64 a] 99)
 have HX := Y1 (ZeL w ⟨t, a⟩)
 have HXL : Hid (w.heap.size < (w.alloc (.cells #[.int .i64 t.kind, .string ⟨t.text.toArray⟩, .int .i64 a] 99)).heap.size) := Y1 (by simp)
 have HG := Y1 (hg.next hb0)
 have HB0 := Y1 hb0
 have HBB := Y1 hb
 have HW := Y1 (ZaD (Lex.written t) (by omega))
 have hE := fun h => Lex.Zg6 (t := t) h
 have hI := fun x m h1 h2 => Lex.Z93 (t := t) (x := x) (m := m) h1 h2
 have hN := fun x k h => Lex.ZeK (s := Lex.written t) (x := x) (k := k) h
 have hne : Lex.scanR (Lex.written t) ≠ .ok [] := fun h => by
  unfold Lex.scanR at h
  split at h
  {cases h}
  {split at h
   {cases h}
   {simp at h}}
 obtain ⟨s, hs⟩ : ∃ s, s = Lex.written t := ⟨_, rfl⟩
 rw [<- hs] at HW hE hI hN hne
 rw [<- hs]
 clear hs hb0 hb hg hwl
 go_enter Tryz.func104, Tryz.ntmps104
 go_wp2_with fail
 generalize hW : w.alloc (.cells #[.int .i64 t.kind, .string ⟨t.text.toArray⟩, .int .i64 a] 99) = W0 at HX HXL HG HB0 ⊢
 clear hW
 have HHE := Y1 hE
 have HHI := Y1 hI
 have HHN := Y1 hN
 have HNE := Y1 hne
 clear hE hI hN hne
 go_wp2_with fail
 refine (HW.out _ HG.out).mono ?_
 rintro e w2 ⟨A, cap, l, a1, b1, rfl, hown, hb2, hcase⟩
 have HB2 := Y1 (Z00 HB0.out hb2)
 have HX2 := Y1 (HX.out.keep HXL.out hb2)
 have hx2 := hb2.size
 have hxl2 : w.heap.size < w2.heap.size := Nat.lt_of_lt_of_le HXL.out hx2
 clear hb2 HX HB0
 cases hq : Lex.scanR s with
 | error x =>
  obtain ⟨x, k⟩ := x
  rw [hq] at hcase
  obtain ⟨rfl, rfl, rfl⟩ := hcase
  have hx0 := HHN.out _ _ hq
  have hxd : (a1 == 0) = false := by simpa using hx0
  have HF : Hid (b = false) := Y1 (by
   cases b with
   | false => rfl
   | true =>
    obtain ⟨y, m, h, _⟩ := HHE.out (HBB.out.1 rfl)
    rw [hq] at h; cases h)
  clear hq hx0 hown
  go_wp2_with fail
  go_quiet (fail)
  go_wp2
  go_ret
  exact ⟨by rw [HF.out]; rfl, Z0k (Z08 HB2.out _) _⟩
 | ok m =>
  cases m with
  | nil => exact absurd hq HNE.out
  | cons y m =>
   rw [hq] at hcase
   obtain ⟨rfl, rfl, rfl⟩ := hcase
   obtain ⟨y, j⟩ := y
   have hlen : (tkOf ((y, j) :: m)).length = m.length + 1 := by rw [Z3m]; rfl
   obtain ⟨g1, cap1, hv, _, hg1⟩ := hown.form (by rw [hlen]; omega)
   obtain ⟨hA, hcap⟩ : A = some ⟨g1, 0, none⟩ /\ cap = cap1 := by
    simp at hv
    exact hv
   subst hA
   have k0 : w2.cell? ⟨g1, 0, none⟩ = some (.int .i64 y.kind) := (hown.cellAt 0 (by rw [hlen]; omega)).trans rfl
   have k1 : w2.cell? ⟨g1, 1, none⟩ = some (.string ⟨y.text.toArray⟩) := (hown.cellAt 1 (by rw [hlen]; omega)).trans rfl
   obtain ⟨x0, x1, _⟩ := HX2.out
   simp only [Nat.zero_add] at x1
   rw [hlen]
   have hl1 : (0 : Int) < ((m.length + 1 : Nat) : Int) := by omega
   have hl2 : 0 < m.length + 1 := by omega
   cases e0 : (y.kind == t.kind)
   {have HF : Hid (b = false) := Y1 (by
     cases b with
     | false => rfl
     | true =>
      obtain ⟨z, m2, h, h2⟩ := HHE.out (HBB.out.1 rfl)
      rw [hq] at h
      obtain ⟨rfl, _⟩ := List.cons.inj (Except.ok.inj h)
      simp only at h2
      rw [h2] at e0; simp at e0)
    clear hq hown hv hlen
    go_wp2_with fail
    go_quiet (fail)
    go_wp2
    go_ret
    exact ⟨by rw [HF.out]; rfl, Z0k (Z08 HB2.out _) _⟩}
   {cases e1 : (y.text == t.text)
    {have HF : Hid (b = false) := Y1 (by
      cases b with
      | false => rfl
      | true =>
       obtain ⟨z, m2, h, h2⟩ := HHE.out (HBB.out.1 rfl)
       rw [hq] at h
       obtain ⟨rfl, _⟩ := List.cons.inj (Except.ok.inj h)
       simp only at h2
       rw [h2] at e1; simp at e1)
     clear hq hown hv hlen
     go_wp2_with fail
     go_quiet (fail)
     go_wp2
     go_ret
     exact ⟨by rw [HF.out]; rfl, Z0k (Z08 HB2.out _) _⟩}
    {have HF : Hid (b = true) := Y1 (HBB.out.2 (HHI.out (y, j) m hq (by
      simp only [beq_iff_eq] at e0 e1
      cases t; cases y
      simp only at e0 e1
      rw [e0, e1])))
     clear hq hown hv hlen
     go_wp2_with fail
     go_quiet (fail)
     go_wp2
     go_ret
     exact ⟨by rw [HF.out]; rfl, Z0k (Z08 HB2.out _) _⟩}}
end Go.Proofs.YtnkdedejfonbmaaGreatDoor
namespace Go.Proofs.YtnkdedejfonbmaaGreatDoor
open Go.RowKit
def ShowV (l : List Lex.Tok) (e : Ending) : Prop := (Lex.mayShow l /\ e = .returned (.tuple #[.string ⟨(Lex.shown l).toArray⟩, .int .i64 0])) \/ (¬ Lex.mayShow l /\ e = .returned (.tuple #[.string ⟨#[]⟩, .int .i64 60]))
theorem Z96 {l : List Lex.Tok} {t : Lex.Tok} (h : Lex.mayShow l) (ht : t = Lex.endTok \/ Lex.good t) : Lex.mayShow (l ++ [t]) := fun x hx => by
 rcases List.mem_append.1 hx with hx | hx
 {exact h x hx}
 {obtain rfl : x = t := by simpa using hx
  exact ht}
theorem Z84 {l : List Tk} {k : Nat} (h : k < l.length) : (l.map (·.t)).take (k + 1) = (l.map (·.t)).take k ++ [(l[k]'h).t] := by
 rw [List.take_succ_eq_append_getElem (by simpa using h)]; simp
theorem ZcK (A : Option Addr) (cap : Nat) (l : List Tk) (w : World) (hA : Tks w w.heap.size A l) (hl : l.length <= 10000) (hs : ∀ b ∈ l, b.t.text.length <= 100000) (hg : Globs w) :
 Calls Tryz.prog 76 #[.slice A l.length cap] w fun e w' => ShowV (l.map (·.t)) e /\ Below w.heap.size w w' := by
 have HA := Y1 hA
 have HS := Y1 hs
 have HG := Y1 hg
 have HF := Y1 (Lib.fresh_isBuilder 91 5 w)
 obtain ⟨ts, hts⟩ : ∃ ts, ts = l.map (·.t) := ⟨_, rfl⟩
 have htl : ts.length = l.length := by rw [hts]; simp
 have HTS := Y1 hts
 have HTL := Y1 htl
 rw [<- hts]
 clear hA hs hg hts htl
 go_enter Tryz.func76, Tryz.ntmps76
 go_wp2_with fail
 go_loopw [10] (fun ii wr => ∃ k : Nat, ii = .int .i64 k /\ k <= l.length /\ Hid (Lex.mayShow (ts.take k)) /\ Hid (Lib.IsBuilder 91 5 w.heap.size w.heap.size (Lib.byteCells (Lex.shown (ts.take k))) wr) /\ Hid (Below w.heap.size w wr))
  (fun ii _ => l.length - (intOf ii).toNat)
 case atStart => exact ⟨0, rfl, Nat.zero_le _, Y1 (fun x hx => by rw [List.take_zero] at hx; cases hx), Y1 (by rw [List.take_zero]; exact HF.out), Y1 (Z02 _ _)⟩
 case round =>
  obtain ⟨k, rfl, hk, HM, HU, HB⟩ := hrel
  clear HF
  have hsl := Lex.ZeH _ HM.out
  rw [List.length_take, HTL.out] at hsl
  have hsl2 : (Lex.shown (ts.take k)).length <= 4097 * 10000 := Nat.le_trans hsl (Nat.mul_le_mul_left _ (by omega))
  clear hsl
  by_cases hlt : k < l.length
  {have hi1 : (k : Int) < (l.length : Int) := by omega
   rcases HA.out.keep HB.out (Nat.le_refl _) with h0 | ⟨g, off, rfl, hgw, hc⟩
   {omega}
   {obtain ⟨p0, p1, p2⟩ := hc k hlt
    obtain ⟨x, hx⟩ : ∃ x, x = l[k]'hlt := ⟨_, rfl⟩
    rw [<- hx] at p0 p1 p2
    have hxl : x.t.text.length <= 100000 := by rw [hx]; exact HS.out _ (List.getElem_mem _)
    have HT : Hid (ts.take (k + 1) = ts.take k ++ [x.t]) := Y1 (by rw [HTS.out, hx]; exact Z84 hlt)
    have hxm : x.t ∈ ts := by rw [HTS.out, hx]; exact List.mem_map.2 ⟨_, List.getElem_mem hlt, rfl⟩
    have HXM := Y1 hxm
    have HN := Y1 (ZeL wr x)
    have HNL : Hid (wr.heap.size < (wr.alloc (.cells #[.int .i64 x.t.kind, .string ⟨x.t.text.toArray⟩, .int .i64 x.at_] 99)).heap.size) := Y1 (by simp)
    have hb1 := Z02 wr (.cells #[.int .i64 x.t.kind, .string ⟨x.t.text.toArray⟩, .int .i64 x.at_] 99)
    have HU1 := Y1 (Z19 HU.out hb1)
    have HB1 := Y1 (Z00 HB.out hb1)
    clear hx hc hxm hb1
    go_wp2_with fail
    generalize hW : wr.alloc (.cells #[.int .i64 x.t.kind, .string ⟨x.t.text.toArray⟩, .int .i64 x.at_] 99) = W1 at HN HNL HU1 HB1 ⊢
    clear hW p0 p1 p2
    obtain ⟨q0, q1, q2⟩ := HN.out
    simp only [Nat.zero_add] at q1 q2
    try go_wp2_with fail
    refine (Z83 x.t.kind x.t.text (by omega) x.at_ _).mono ?_
    rintro e w2 ⟨rfl, hb2⟩
    clear q0 q1 q2
    have hW2 : (⟨x.t.kind, x.t.text⟩ : Lex.Tok) = x.t := rfl
    rw [hW2]
    have HN2 := Y1 (HN.out.keep HNL.out hb2)
    have HNL2 : Hid (wr.heap.size < w2.heap.size) := Y1 (Nat.lt_of_lt_of_le HNL.out hb2.size)
    have HU2 := Y1 (Z19 HU1.out hb2)
    have HB2 := Y1 (Z00 HB1.out hb2)
    have HWL := Y1 (Lex.Z4Z x.t)
    have HWR := Y1 (fun (b : Bool) (hb : b = true ↔ (x.t = Lex.endTok \/ Lex.good x.t)) => ZaF x.t x.at_ (by omega) b hb w2 (HG.out.next HB2.out))
    have HSN := Y1 (Lex.Z6v (ts.take k) x.t)
    obtain ⟨s, hs⟩ : ∃ s, s = Lex.written x.t := ⟨_, rfl⟩
    rw [<- hs] at HWR HWL HSN ⊢
    clear hs hb2 HN HNL HU1 HB1 hW2
    obtain ⟨q0, q1, q2⟩ := HN2.out
    simp only [Nat.zero_add] at q1 q2
    by_cases hgd : x.t = Lex.endTok \/ Lex.good x.t
    {have HC := Y1 (HWR.out true (by simp [hgd]))
     have HM2 : Hid (Lex.mayShow (ts.take (k + 1))) := Y1 (by rw [HT.out]; exact Z96 HM.out hgd)
     have HGD := Y1 hgd
     clear hgd
     by_cases hend : x.t = Lex.endTok
     {have hk0 : (x.t.kind == 0) = true := by rw [hend]; rfl
      have HSE : Hid (Lex.shown (ts.take (k + 1)) = Lex.shown (ts.take k)) := Y1 (by rw [HT.out, HSN.out, if_pos hend])
      clear hend
      go_wp2_with fail
      refine HC.out.mono ?_
      rintro e w3 ⟨rfl, hb3⟩
      have HN3 := Y1 (HN2.out.keep HNL2.out hb3)
      have HU3 := Y1 (Z19 HU2.out hb3)
      have HB3 := Y1 (Z00 HB2.out hb3)
      clear q0 q1 q2 hb3
      obtain ⟨q0, q1, q2⟩ := HN3.out
      go_wp2
      go_roundw
      case rel => exact ⟨k + 1, by go_num, by omega, HM2, Y1 (by rw [HSE.out]; exact HU3.out), HB3⟩
      case measure => simp [intOf]; omega}
     {have hgood : Lex.good x.t := by
       rcases HGD.out with h | h
       {exact absurd h hend}
       {exact h}
      have hk0 : (x.t.kind == 0) = false := by rw [beq_eq_false_iff_ne]; have := (Lex.Z4X hgood).1; omega
      by_cases hkp : Lex.kept (ts.take k) = []
      {have hz0 : (Lex.shown (ts.take k)).length = 0 := by rw [(Lex.Z4Y HM.out).2 hkp]; rfl
       have HSE : Hid (Lex.shown (ts.take (k + 1)) = Lex.shown (ts.take k) ++ s) := Y1 (by rw [HT.out, HSN.out, if_neg hend, if_pos hkp, (Lex.Z4Y HM.out).2 hkp]; rfl)
       have hbl : ((Lib.byteCells (Lex.shown (ts.take k))).length : Int) = 0 := by rw [Lib.byteCells_length, hz0]; rfl
       have HBL := Y1 hbl
       clear hend hgood hkp hz0 hbl
       go_wp2_with fail
       refine HC.out.mono ?_
       rintro e w3 ⟨rfl, hb3⟩
       have HN3 := Y1 (HN2.out.keep HNL2.out hb3)
       have HU3 := Y1 (Z19 HU2.out hb3)
       have HB3 := Y1 (Z00 HB2.out hb3)
       clear q0 q1 q2 hb3
       obtain ⟨q0, q1, q2⟩ := HN3.out
       go_wp2_with fail
       refine (Tryz.builder_len _ _ _ _ HU3.out).mono ?_
       rintro e w4 ⟨he, rfl⟩
       rw [HBL.out] at he
       subst he
       go_wp2_with fail
       refine (Tryz.builder_write _ _ _ _ _ HU3.out (by rw [Z04, Lib.byteCells_length]; have := HWL.out; omega) HB3.out.size).mono ?_
       rintro e w5 ⟨rfl, hu5, hb5⟩
       have HU5 : Hid (Lib.IsBuilder 91 5 w.heap.size w.heap.size (Lib.byteCells (Lex.shown (ts.take (k + 1)))) w5) := Y1 (Or.inr (by rw [HSE.out, Lib.byteCells_append]; exact hu5))
       have HB5 := Y1 (HB3.out.trans hb5)
       clear hu5 hb5
       go_wp2
       go_roundw
       case rel => exact ⟨k + 1, by go_num, by omega, HM2, HU5, HB5⟩
       case measure => simp [intOf]; omega}
      {have hz0 : 0 < (Lex.shown (ts.take k)).length := by
        rcases Nat.eq_zero_or_pos (Lex.shown (ts.take k)).length with h | h
        {exact absurd ((Lex.Z4Y HM.out).1 (List.eq_nil_of_length_eq_zero h)) hkp}
        {exact h}
       have HSE : Hid (Lex.shown (ts.take (k + 1)) = (Lex.shown (ts.take k) ++ [32]) ++ s) := Y1 (by rw [HT.out, HSN.out, if_neg hend, if_neg hkp]; simp)
       obtain ⟨z, hzz⟩ : ∃ z : Nat, z = (Lib.byteCells (Lex.shown (ts.take k))).length := ⟨_, rfl⟩
       have hz1 : (0 : Int) < (z : Int) := by rw [hzz, Lib.byteCells_length]; omega
       have HZZ := Y1 hzz
       clear hend hgood hkp hz0 hzz
       go_wp2_with fail
       refine HC.out.mono ?_
       rintro e w3 ⟨rfl, hb3⟩
       have HN3 := Y1 (HN2.out.keep HNL2.out hb3)
       have HU3 := Y1 (Z19 HU2.out hb3)
       have HB3 := Y1 (Z00 HB2.out hb3)
       clear q0 q1 q2 hb3
       obtain ⟨q0, q1, q2⟩ := HN3.out
       go_wp2_with fail
       refine (Tryz.builder_len _ _ _ _ HU3.out).mono ?_
       rintro e w4 ⟨he, rfl⟩
       rw [<- HZZ.out] at he
       subst he
       go_wp2_with fail
       refine (Tryz.builder_write _ _ _ ⟨#[32]⟩ _ HU3.out (by rw [show (⟨#[32]⟩ : ByteArray).size = 1 from rfl, Lib.byteCells_length]; omega) HB3.out.size).mono ?_
       rintro e w5 ⟨rfl, hu5, hb5⟩
       have HU5 : Hid (Lib.IsBuilder 91 5 w.heap.size w.heap.size (Lib.byteCells (Lex.shown (ts.take k) ++ [32])) w5) := Y1 (Or.inr (by rw [Lib.byteCells_append]; exact hu5))
       have HB5 := Y1 (HB3.out.trans hb5)
       clear hu5 hb5 q0 q1 q2
       go_wp2_with fail
       refine (Tryz.builder_write _ _ _ _ _ HU5.out (by rw [Z04, Lib.byteCells_length, List.length_append]; simp; have := HWL.out; omega) HB5.out.size).mono ?_
       rintro e w6 ⟨rfl, hu6, hb6⟩
       have HU6 : Hid (Lib.IsBuilder 91 5 w.heap.size w.heap.size (Lib.byteCells (Lex.shown (ts.take (k + 1)))) w6) := Y1 (Or.inr (by rw [HSE.out, Lib.byteCells_append]; exact hu6))
       have HB6 := Y1 (HB5.out.trans hb6)
       clear hu6 hb6
       go_wp2
       go_roundw
       case rel => exact ⟨k + 1, by go_num, by omega, HM2, HU6, HB6⟩
       case measure => simp [intOf]; omega}}}
    {have HC := Y1 (HWR.out false (by simp [hgd]))
     have HNO : Hid (¬ Lex.mayShow ts) := Y1 (fun h => hgd (h _ HXM.out))
     clear hgd
     go_wp2_with fail
     refine HC.out.mono ?_
     rintro e w3 ⟨rfl, hb3⟩
     have HB3 := Y1 (Z00 HB2.out hb3)
     go_wp2
     go_ret2
     exact ⟨Or.inr ⟨HNO.out, rfl⟩, HB3.out⟩}}}
  {have hi1 : ¬ (k : Int) < (l.length : Int) := by omega
   have HT : Hid (ts.take k = ts) := Y1 (List.take_of_length_le (by rw [HTL.out]; omega))
   have HU2 := HU.out
   have HM2 := HM.out
   rw [HT.out] at HU2 HM2
   have HUU := Y1 HU2
   have HMM := Y1 HM2
   clear HU2 HM2
   go_wp2_with fail
   refine (Tryz.builder_text _ _ _ _ HUU.out HB.out.size).mono ?_
   rintro e w2 ⟨rfl, hb2⟩
   go_wp2
   go_ret2
   exact ⟨Or.inl ⟨HMM.out, rfl⟩, HB.out.trans hb2⟩}
end Go.Proofs.YtnkdedejfonbmaaGreatDoor
namespace Go.Proofs.YtnkdedejfonbmaaGreatDoor
open Go.RowKit Tms
def quoB (p : List UInt8) : List UInt8 := p.flatMap Lex.escB
theorem ZaG (a b : List UInt8) : quoB (a ++ b) = quoB a ++ quoB b := by unfold quoB; rw [List.flatMap_append]
theorem Z97 (p : List UInt8) : (quoB p).length <= 2 * p.length := Z6X p
theorem ZeM (w : World) (p : List UInt8) : Tks (w.alloc (.cells #[.int .i64 4, .string ⟨p.toArray⟩, .int .i64 0] 99)) (w.alloc (.cells #[.int .i64 4, .string ⟨p.toArray⟩, .int .i64 0] 99)).heap.size (some ⟨w.heap.size, 0, none⟩) [⟨⟨4, p⟩, 0⟩] := by
 refine Or.inr ⟨w.heap.size, 0, rfl, by simp, fun i hi => ?_⟩
 have : i = 0 := by simp at hi; omega
 subst this
 exact ⟨by simp [go_sem], by simp [go_sem], by simp [go_sem]⟩
theorem Z98 (ps : List Int) (h : ∀ p ∈ ps, Lex.okP p = true) (hl : (Utf.enc ps).length <= 2047) : Lex.mayShow [⟨4, Utf.enc ps⟩] /\ Lex.shown [⟨4, Utf.enc ps⟩] = 34 :: (quoB (Utf.enc ps) ++ [34]) := by
 have hg := Zam h hl
 refine ⟨fun x hx => by rw [List.mem_singleton] at hx; subst hx; exact Or.inr hg, ?_⟩
 have := Lex.Z6v [] ⟨4, Utf.enc ps⟩
 rw [List.nil_append, if_neg (fun e => by have h4 : (4 : Int) = Lex.endTok.kind := congrArg Lex.Tok.kind e; simp [Lex.endTok] at h4), if_pos (show Lex.kept [] = [] from rfl)] at this
 rw [this]
 unfold Lex.written
 rw [if_pos rfl]; rfl
theorem Z99 (s : List UInt8) (w : World) (hs : textOk s = true) (hl : s.length <= 1000000000) (hg : Globs w) :
 Y9 46 #[.string ⟨s.toArray⟩] w (.string ⟨(quoteT s).toArray⟩) := by
 obtain ⟨ps, hps, hok⟩ := Zcm hs
 have HPS := Y1 hps
 have HOK := Y1 hok
 have HG := Y1 hg
 have HF := Y1 (Lib.fresh_isBuilder 91 5 w)
 have HQ : Hid (quoteT s = [34] ++ quoB s ++ [34]) := Y1 rfl
 have HL := Y1 hl
 clear hps hok hg hs hl
 go_enter Tryz.func46, Tryz.ntmps46
 go_wp2_with fail
 refine (Tryz.builder_write _ _ _ ⟨#[34]⟩ _ HF.out (by rw [show (⟨#[34]⟩ : ByteArray).size = 1 from rfl]; simp) (by simp)).mono ?_
 rintro e w1 ⟨rfl, hu1, hb1⟩
 have HU1 : Hid (Lib.IsBuilder 91 5 w.heap.size w.heap.size (Lib.byteCells [34]) w1) := Y1 (Or.inr hu1)
 have HB1 : Hid (Below w.heap.size w w1) := Y1 ((Z02 w _).trans (hb1.mono (by simp)))
 clear hu1 hb1 HF
 go_wp2_with fail
 go_loopw [0] (fun v wr => ∃ k : Nat, v = .string ⟨(Utf.enc (ps.drop k)).toArray⟩ /\ k <= ps.length /\ Hid (Lib.IsBuilder 91 5 w.heap.size w.heap.size (Lib.byteCells ([34] ++ quoB (Utf.enc (ps.take k)))) wr) /\ Hid (Below w.heap.size w wr)) (fun v _ => (match v with | .string b => b.size | _ => 0))
 case atStart => exact ⟨0, by rw [List.drop_zero, <- HPS.out], Nat.zero_le _, Y1 (by rw [List.take_zero]; exact HU1.out), HB1⟩
 case round =>
  obtain ⟨k, rfl, hk, HU, HB⟩ := hrel
  have hsplit : Utf.enc ps = Utf.enc (ps.take k) ++ Utf.enc (ps.drop k) := by rw [<- Utf.Z1F, List.take_append_drop]
  have hlen : (Utf.enc (ps.take k)).length + (Utf.enc (ps.drop k)).length <= 1000000000 := by
   have h1 := HL.out
   rw [HPS.out, hsplit, List.length_append] at h1
   exact h1
  have hokd : ∀ p ∈ ps.drop k, Lex.okP p = true := fun p hp => HOK.out p (List.mem_of_mem_drop hp)
  have HW := Y1 (Z97 (Utf.enc (ps.take k)))
  cases hb : (Utf.enc (ps.drop k) == [])
  {have hoe := Z0o hb
   have hpos : 0 < (Utf.enc (ps.drop k)).length := by
    rcases Nat.eq_zero_or_pos (Utf.enc (ps.drop k)).length with h | h
    {rw [List.eq_nil_of_length_eq_zero h] at hb; cases hb}
    {exact h}
   have HPOS := Y1 hpos
   have HLEN := Y1 hlen
   have CALL := Zcq (ps.drop k) (fun p hp => Zhi (hokd p hp)) wr (by omega)
   have HOKD := Y1 hokd
   clear hb hsplit hlen hpos hokd
   obtain ⟨qs, hqs⟩ : ∃ qs, qs = ps.drop k := ⟨_, rfl⟩
   have HQS := Y1 hqs
   rw [<- hqs] at CALL hoe HPOS HLEN HOKD
   rw [<- hqs]
   clear hqs
   go_wp2_with fail
   refine CALL.mono ?_
   rintro e w2 ⟨⟨n, j, rfl, hn, hj, hnj, hn0⟩, rfl⟩
   have hn0' := hn0 HPOS.out
   have hz : (⟨(Utf.enc qs).toArray⟩ : ByteArray).size = (Utf.enc qs).length := Z04 _
   obtain ⟨c1, c2⟩ := ZgR hnj
   have hnl : n <= (Utf.enc qs).length := by
    have := congrArg List.length c1
    rw [List.length_take] at this
    omega
   have hs1 : ∀ W, (Instr.slice 9 (.string ⟨(Utf.enc qs).toArray⟩) none (some (.int .i64 (n : Int))) none).run Tryz.prog W = .ok (.string ⟨(Utf.enc (qs.take j)).toArray⟩) W := fun W => by
    have h := Zft ⟨(Utf.enc qs).toArray⟩ (n : Int) (by omega) (by rw [hz]; omega) W
    rw [h, <- c1]
    simp
   have hs2 : ∀ W, (Instr.slice 9 (.string ⟨(Utf.enc qs).toArray⟩) (some (.int .i64 (n : Int))) none none).run Tryz.prog W = .ok (.string ⟨(Utf.enc (qs.drop j)).toArray⟩) W := fun W => by
    have h := Z1T ⟨(Utf.enc qs).toArray⟩ n (by rw [hz]; exact hnl) W
    rw [h, <- c2]
   have hokj : ∀ p ∈ qs.take j, Lex.okP p = true := fun p hp => HOKD.out p (List.mem_of_mem_take hp)
   obtain ⟨hms, hsh⟩ := Z98 (qs.take j) hokj (by omega)
   have hb3 := Z02 wr (.cells #[.int .i64 4, .string ⟨(Utf.enc (qs.take j)).toArray⟩, .int .i64 0] 99)
   have hle2 : (Utf.enc (qs.take j)).length <= 2047 := by omega
   have SHOW := ZcK (some ⟨wr.heap.size, 0, none⟩) 1 [⟨⟨4, Utf.enc (qs.take j)⟩, 0⟩] _ (ZeM wr (Utf.enc (qs.take j))) (by simp) (fun b hb => by rw [List.mem_singleton] at hb; subst hb; show (Utf.enc (qs.take j)).length <= 100000; omega) (HG.out.next (Z00 HB.out hb3))
   have HB3 := Y1 (Z00 HB.out hb3)
   have HU3 := Y1 (Z19 HU.out hb3)
   have HMS := Y1 hms
   have HSH := Y1 hsh
   have HNJ := Y1 hnj
   have HN := Y1 (⟨hn0', hnl, hj, hle2⟩ : 0 < n /\ n <= (Utf.enc qs).length /\ j <= qs.length /\ (Utf.enc (qs.take j)).length <= 2047)
   clear hb3 hms hsh hn0 hn0' hnl hj hle2 hokj c1 c2 hoe hnj
   go_wp2_with fail
   refine SHOW.mono ?_
   rintro e w3 ⟨hv, hb4⟩
   rcases hv with ⟨_, rfl⟩ | ⟨h, _⟩
   rotate_left
   {exact absurd HMS.out h}
   rw [show [(⟨⟨4, Utf.enc (qs.take j)⟩, 0⟩ : Tk)].map (·.t) = [⟨4, Utf.enc (qs.take j)⟩] from rfl, HSH.out]
   have HB4 := Y1 (Z00 HB3.out hb4)
   have HU4 := Y1 (Z19 HU3.out hb4)
   have HPL := Y1 (Z97 (Utf.enc (qs.take j)))
   obtain ⟨tx, htx⟩ : ∃ tx : List UInt8, tx = 34 :: (quoB (Utf.enc (qs.take j)) ++ [34]) := ⟨_, rfl⟩
   have hz2 : (⟨tx.toArray⟩ : ByteArray).size = tx.length := Z04 _
   have htl : tx.length = (quoB (Utf.enc (qs.take j))).length + 2 := by rw [htx]; simp
   have hs3 : ∀ W, (Instr.slice 9 (.string ⟨tx.toArray⟩) (some (.int .i64 1)) (some (.int .i64 ((tx.length : Int) - 1))) none).run Tryz.prog W = .ok (.string ⟨(quoB (Utf.enc (qs.take j))).toArray⟩) W := fun W => by
    have h := Z1D ⟨tx.toArray⟩ 1 ((tx.length : Int) - 1) (by omega) (by rw [hz2]; omega) W
    refine h.trans ?_
    have e : ((⟨tx.toArray⟩ : ByteArray).data.toList.drop 1).take (((tx.length : Int) - 1).toNat - 1) = quoB (Utf.enc (qs.take j)) := by
     rw [show ((tx.length : Int) - 1).toNat - 1 = (quoB (Utf.enc (qs.take j))).length from by omega]
     show (tx.drop 1).take _ = _
     rw [htx, List.drop_succ_cons, List.drop_zero, List.take_left]
    rw [e]
   rw [<- htx]
   have htm : tx.length <= 5000 := by have := HPL.out; have := HN.out.2.2.2; omega
   have htm2 : 2 <= tx.length := by omega
   have htm3 : (1 : Int) <= (tx.length : Int) - 1 := by omega
   clear htx hb4 SHOW hs1 htl
   go_wp2_with fail
   refine (Tryz.builder_write _ _ _ ⟨(quoB (Utf.enc (qs.take j))).toArray⟩ _ HU4.out (by
    have := HW.out; have := HLEN.out; have := HPL.out; have := HN.out.2.2.2
    rw [Z04, Lib.byteCells_length, List.length_append]
    simp only [List.length_cons, List.length_nil]
    omega) HB4.out.size).mono ?_
   rintro e w5 ⟨rfl, hu5, hb5⟩
   have htk : ps.take (k + j) = ps.take k ++ qs.take j := by rw [HQS.out, List.take_add]
   have hdk : ps.drop (k + j) = qs.drop j := by rw [HQS.out, List.drop_drop]
   have HU5 : Hid (Lib.IsBuilder 91 5 w.heap.size w.heap.size (Lib.byteCells ([34] ++ quoB (Utf.enc (ps.take (k + j))))) w5) := Y1 (Or.inr (by rw [htk, Utf.Z1F, ZaG, <- List.append_assoc, Lib.byteCells_append]; exact hu5))
   have HB5 := Y1 (HB4.out.trans hb5)
   have HDK := Y1 hdk
   have HKJ : Hid (k + j <= ps.length) := Y1 (by
    have h1 := HN.out.2.2.1
    rw [HQS.out, List.length_drop] at h1
    omega)
   have HME : Hid ((Utf.enc (qs.drop j)).length < (Utf.enc qs).length) := Y1 (by
    have h1 : Utf.enc qs = Utf.enc (qs.take j) ++ Utf.enc (qs.drop j) := by rw [<- Utf.Z1F, List.take_append_drop]
    have h2 := congrArg List.length h1
    rw [List.length_append] at h2
    have := HNJ.out
    have := HN.out.1
    omega)
   clear hu5 hb5 htk hdk hs3 hz2
   go_wp2
   go_roundw
   case rel => exact ⟨k + j, by rw [HDK.out], HKJ.out, HU5, HB5⟩
   case measure =>
    show (⟨(Utf.enc (qs.drop j)).toArray⟩ : ByteArray).size < (⟨(Utf.enc qs).toArray⟩ : ByteArray).size
    rw [Z04, Z04]; exact HME.out}
  {have hoe := Z0o hb
   have h0 : Utf.enc (ps.drop k) = [] := by simpa using hb
   have hall : quoB s = quoB (Utf.enc (ps.take k)) := by rw [HPS.out, hsplit, h0, List.append_nil]
   have HALL := Y1 hall
   have HLEN := Y1 hlen
   rw [h0] at hoe
   rw [h0]
   clear hb hsplit hlen hokd h0 hall
   go_wp2_with fail
   refine (Tryz.builder_write _ _ _ ⟨#[34]⟩ _ HU.out (by
    have := HW.out; have := HLEN.out
    rw [show (⟨#[34]⟩ : ByteArray).size = 1 from rfl, Lib.byteCells_length, List.length_append]
    simp only [List.length_cons, List.length_nil]
    omega) HB.out.size).mono ?_
   rintro e w5 ⟨rfl, hu5, hb5⟩
   have HU5 : Hid (Lib.IsBuilder 91 5 w.heap.size w.heap.size (Lib.byteCells (quoteT s)) w5) := Y1 (Or.inr (by rw [HQ.out, HALL.out, Lib.byteCells_append]; exact hu5))
   have HB5 := Y1 (HB.out.trans hb5)
   clear hu5 hb5
   go_wp2_with fail
   refine (Tryz.builder_text _ _ _ _ HU5.out HB5.out.size).mono ?_
   rintro e w6 ⟨rfl, hb6⟩
   have HB6 := Y1 (HB5.out.trans hb6)
   clear hb6
   go_wp2
   go_ret
   exact ⟨rfl, HB6.out⟩}
end Go.Proofs.YtnkdedejfonbmaaGreatDoor
namespace Go.Proofs.YtnkdedejfonbmaaGreatDoor
open Go.RowKit Tms
open Shp (Sh field join)
def Wr8 (x : Tm) : Prop := ∀ (q : TP) (w : World), TmAt w w.heap.size q x -> Globs w -> WGlobs w -> Y9 27 #[.agg (Y7 x q)] w (.string ⟨(text x).toArray⟩)
theorem Z1N (n : Nat) (hn : n <= 2000000) (W : World) :
 (Instr.makeSlice 22 (.int .i64 (n : Int)) (.int .i64 (n : Int))).run Tryz.prog W = .ok (.slice (some ⟨W.heap.size, 0, none⟩) n n) (W.alloc (.cells (madeCells #[.string ⟨#[]⟩] n) 9)) :=
 run_make_row' (P := Tryz.prog) 22 9 (.string ByteArray.empty) 16 Tryz.underlying22 Z4J rfl .i64 .i64 n (by omega) (by omega) W
theorem Z30 (g : Nat) (ts : List (List UInt8)) (sep : List UInt8) (w : World) (h : TxR w g ts) (hl : ts.length <= 2000000) (hj : (join sep ts).length <= 140737488355328) :
 Y9 79 #[.slice (some ⟨g, 0, none⟩) ts.length ts.length, .string ⟨sep.toArray⟩] w (.string ⟨(join sep ts).toArray⟩) := by
 have hj' : (Lib.join ((ts.map (fun t => (⟨t.toArray⟩ : ByteArray))).map (·.data.toList)) (⟨sep.toArray⟩ : ByteArray).data.toList) = join sep ts := by rw [Z7r]; rfl
 have := Z7q g 0 ts.length (ts.map (fun t => (⟨t.toArray⟩ : ByteArray))) ⟨sep.toArray⟩ w (fun j x hx => by
  rw [List.getElem?_map] at hx
  have hj : j < ts.length := by
   rcases Nat.lt_or_ge j ts.length with h | h
   {exact h}
   {rw [List.getElem?_eq_none h] at hx; cases hx}
  rw [List.getElem?_eq_getElem hj] at hx
  rw [Nat.zero_add, h.at_ j hj]
  simpa using hx) h.lt (by simp; omega) (by simp) (by rw [hj']; omega)
 rwa [hj', List.length_map] at this
theorem Z50 (P : Option Addr) (d : Nat) (l : List Tm) (w : World) (hP : TmsAt w w.heap.size P l) (hl : l.length <= 1000000) (hG : Globs w) (hg : WGlobs w) (hf : ∀ x ∈ l, Wr8 x) (hj : (join [44, 32] (l.map text)).length <= 140737488355328) :
 Y9 50 #[.slice P l.length d] w (.string ⟨(join [44, 32] (l.map text)).toArray⟩) := by
 have HP := Y1 hP
 have HF0 := Y1 hf
 have HG := Y1 hg
 have HG0 := Y1 hG
 have HJ := Y1 hj
 have hmk := Z1N l.length (by omega) w
 have hT0 := Z3T w l.length
 have hb0 := Z02 w (.cells (madeCells #[.string ⟨#[]⟩] l.length) 9)
 have HT0 := Y1 hT0
 have HB0 := Y1 hb0
 clear hP hf hg hG hT0 hb0 hj
 go_enter Tryz.func50, Tryz.ntmps50
 go_wp2_with fail
 clear hmk
 generalize w.alloc (.cells (madeCells #[.string ⟨#[]⟩] l.length) 9) = W0 at HT0 HB0 ⊢
 go_loopw [11] (fun ii wr => ∃ i : Nat, ii = .int .i64 i /\ i <= l.length /\ Hid (TxR wr w.heap.size ((l.take i).map text ++ List.replicate (l.length - i) [])) /\ Hid (Below w.heap.size w wr)) (fun i _ => l.length - (intOf i).toNat)
 case atStart => exact ⟨0, rfl, Nat.zero_le _, HT0, HB0⟩
 case round =>
  obtain ⟨i, rfl, hi, HT, HB⟩ := hrel
  by_cases hlt : i < l.length
  {have hi1 : (i : Int) < (l.length : Int) := by omega
   rcases HP.out.next HB.out with h0 | ⟨g, off, qs, rfl, hg, hc, hr⟩
   {omega}
   {obtain ⟨x, hx⟩ : ∃ x, x = l[i]'hlt := ⟨_, rfl⟩
    obtain ⟨p0, p1, p2, p3, p4, p5, p6, p7, p8⟩ := hc i hlt
    have hat := hr i hlt
    have ihx := HF0.out l[i] (List.getElem_mem _)
    rw [<- hx] at p0 p1 p2 p3 p4 p5 p6 p7 p8 hat ihx
    have hb1 := Z02 wr (.cells (Y7 x (qs i)) 26)
    have IH := ihx (qs i) _ (hat.next hb1) ((HG0.out.next HB.out).next hb1) ((HG.out.next HB.out).next hb1)
    have HB1 := Y1 hb1
    have HS : Hid (((l.take i).map text ++ List.replicate (l.length - i) []).set i (text x) = (l.take (i + 1)).map text ++ List.replicate (l.length - (i + 1)) []) := Y1 (by
     rw [Z3g (by simp; omega) hlt, Shp.Z0C hlt, <- hx]; simp)
    have hlen : i < ((l.take i).map text ++ List.replicate (l.length - i) []).length := by simp; omega
    generalize text x = tx at IH HS
    clear hx hc hr hat ihx hb1
    go_wp2_with fail
    refine IH.mono ?_
    rintro e w' ⟨rfl, hb'⟩
    have hT' := (HT.out.next HB1.out).next hb'
    have r0 := hT'.at_ i hlen
    have f0 := hT'.fz i
    have HT2 := Y1 (hT'.set hlen tx)
    have HBW : Hid (Below w.heap.size w w') := Y1 (Z00 (Z00 HB.out HB1.out) hb')
    clear hT' hb' IH
    go_wp2
    go_roundw
    case rel => exact ⟨i + 1, by go_num, by omega, by rw [<- HS.out]; exact HT2, Y1 (HBW.out.setCell (p := ⟨w.heap.size, i, none⟩) (Nat.le_refl _) _)⟩
    case measure => simp [intOf]; omega}}
  {have hi1 : ¬ (i : Int) < (l.length : Int) := by omega
   have hE : (l.take i).map text ++ List.replicate (l.length - i) [] = l.map text := by rw [show i = l.length from by omega, List.take_length]; simp
   rw [hE] at HT
   have JN := Z30 w.heap.size (l.map text) [44, 32] wr HT.out (by rw [List.length_map]; omega) HJ.out
   rw [List.length_map] at JN
   clear hE
   go_wp2_with fail
   refine JN.mono ?_
   rintro e w2 ⟨rfl, hb2⟩
   have HB2 := Y1 (Z00 HB.out hb2)
   clear hb2 JN
   go_wp2
   go_ret
   exact ⟨rfl, HB2.out⟩}
theorem Z9a (A S : Option Addr) (c s : Nat) (ns : List (List UInt8)) (l : List Sh) (w : World) (hA : Strs w w.heap.size A (strs ns)) (hS : ShsAt w w.heap.size S l) (hl : ns.length <= 2000000) (hls : l.length = ns.length) (hg : WGlobs w)
 (hn : ∀ x ∈ ns, x.length <= 1000000) (hc : ∀ x ∈ l, Shp.check x = 0 /\ (Shp.text x).length <= 1000000) (hj : (join [44, 32] (binds ns (l.map Shp.text))).length <= 140737488355328) :
 Calls Tryz.prog 48 #[.slice A ns.length c, .slice S l.length s] w fun e w' => e = .returned (.string ⟨(join [44, 32] (binds ns (l.map Shp.text))).toArray⟩) /\ Below w.heap.size w w' := by
 have HA := Y1 hA
 have HSH := Y1 hS
 have HG := Y1 hg
 have HJ := Y1 hj
 have HNN := Y1 hn
 have HCC := Y1 hc
 have HLS := Y1 hls
 have hmk := Z1N ns.length (by omega) w
 have hT0 := Z3T w ns.length
 have hb0 := Z02 w (.cells (madeCells #[.string ⟨#[]⟩] ns.length) 9)
 have HBL : Hid ((binds ns (l.map Shp.text)).length = ns.length) := Y1 (by simp [binds])
 have HBA : Hid (∀ i (h1 : i < ns.length) (h2 : i < l.length) (h3 : i < (binds ns (l.map Shp.text)).length), (binds ns (l.map Shp.text))[i]'h3 = field (ns[i]'h1) (Shp.text (l[i]'h2))) := Y1 (fun i h1 h2 h3 => by
  simp [binds, h1, h2, List.getD])
 obtain ⟨bs, hbs⟩ : ∃ bs, bs = binds ns (l.map Shp.text) := ⟨_, rfl⟩
 rw [<- hbs] at HBL HBA HJ ⊢
 have HT0 := Y1 hT0
 have HB0 := Y1 hb0
 clear hA hS hg hT0 hb0 hj hbs hn hc hls
 go_enter Tryz.func48, Tryz.ntmps48
 go_wp2_with fail
 clear hmk
 generalize w.alloc (.cells (madeCells #[.string ⟨#[]⟩] ns.length) 9) = W0 at HT0 HB0 ⊢
 go_loopw [13] (fun ii wr => ∃ i : Nat, ii = .int .i64 i /\ i <= ns.length /\ Hid (TxR wr w.heap.size (bs.take i ++ List.replicate (ns.length - i) [])) /\ Hid (Below w.heap.size w wr)) (fun i _ => ns.length - (intOf i).toNat)
 case atStart => exact ⟨0, rfl, Nat.zero_le _, HT0, HB0⟩
 case round =>
  obtain ⟨i, rfl, hi, HT, HB⟩ := hrel
  by_cases hlt : i < ns.length
  {have hi1 : (i : Int) < (ns.length : Int) := by omega
   have hil : i < l.length := by have := HLS.out; omega
   have hi2 : (i : Int) < (l.length : Int) := by omega
   rcases (HSH.out.next HB.out) with h0 | ⟨g, off, rs, hqS, hgl, hc, hr⟩
   {omega}
   rcases (HA.out.next HB.out).cell7 with h0 | ⟨g2, off2, hqA, hgl2, hc2⟩
   {omega}
   {obtain ⟨x, hx⟩ : ∃ x, x = ns[i]'hlt := ⟨_, rfl⟩
    obtain ⟨y, hy⟩ : ∃ y, y = l[i]'hil := ⟨_, rfl⟩
    have n0 := hc2 i hlt
    obtain ⟨p0, p1, p2, p3, p4⟩ := hc i hil
    have hat := hr i hil
    have hcy := HCC.out (l[i]'hil) (List.getElem_mem _)
    have hcx := HNN.out (ns[i]'hlt) (List.getElem_mem _)
    have hbi := HBA.out i hlt hil (by rw [HBL.out]; exact hlt)
    rw [<- hx] at n0 hcx hbi
    rw [<- hy] at p0 p1 p2 p3 p4 hat hcy hbi
    have IH := Z5B x y (rs i) wr hat (HG.out.next HB.out) hcy.1 hcx hcy.2
    have HS : Hid ((bs.take i ++ List.replicate (ns.length - i) []).set i (field x (Shp.text y)) = bs.take (i + 1) ++ List.replicate (ns.length - (i + 1)) []) := Y1 (by
     rw [Z3g (by rw [List.length_take, HBL.out]; omega) hlt, Shp.Z0C (by rw [HBL.out]; exact hlt), hbi])
    have hlen : i < (bs.take i ++ List.replicate (ns.length - i) []).length := by have := HBL.out; simp; omega
    generalize field x (Shp.text y) = tx at IH HS
    rw [hqS, hqA]
    clear hx hy hc hr hat hcy hcx hbi hc2 hqS hqA
    go_wp2_with fail
    refine IH.mono ?_
    rintro e w' ⟨rfl, hb'⟩
    have hT' := HT.out.next hb'
    have r0 := hT'.at_ i hlen
    have f0 := hT'.fz i
    have HT2 := Y1 (hT'.set hlen tx)
    have HBW : Hid (Below w.heap.size w w') := Y1 (Z00 HB.out hb')
    clear hT' hb' IH
    go_wp2
    go_roundw
    case rel => exact ⟨i + 1, by go_num, by omega, by rw [<- HS.out]; exact HT2, Y1 (HBW.out.setCell (p := ⟨w.heap.size, i, none⟩) (Nat.le_refl _) _)⟩
    case measure => simp [intOf]; omega}}
  {have hi1 : ¬ (i : Int) < (ns.length : Int) := by omega
   have hE : bs.take i ++ List.replicate (ns.length - i) [] = bs := by rw [List.take_of_length_le (by rw [HBL.out]; omega), show ns.length - i = 0 from by omega]; simp
   rw [hE] at HT
   have JN := Z30 w.heap.size bs [44, 32] wr HT.out (by rw [HBL.out]; omega) HJ.out
   rw [HBL.out] at JN
   clear hE
   go_wp2_with fail
   refine JN.mono ?_
   rintro e w2 ⟨rfl, hb2⟩
   have HB2 := Y1 (Z00 HB.out hb2)
   clear hb2 JN
   go_wp2
   go_ret
   exact ⟨rfl, HB2.out⟩}
theorem Z85 (t : Tm) (q : TP) (w : World) (hq : TmAt w w.heap.size q t) (hG : Globs w) (hg : WGlobs w) (hl : t.names.length <= 1000000) (hnp : t.parts.length = t.names.length) (hf : ∀ x ∈ t.parts, Wr8 x) (hn : ∀ x ∈ t.names, x.length <= 1000000) (ht : ∀ x ∈ t.parts, (text x).length <= 1000000000000)
 (hj : (join [44, 32] (recs t.names (t.parts.map text))).length <= 140737488355328) :
 Calls Tryz.prog 51 #[.agg (Y7 t q)] w fun e w' => e = .returned (.string ⟨(join [44, 32] (recs t.names (t.parts.map text))).toArray⟩) /\ Below w.heap.size w w' := by
 have hb0 := Z02 w (.cells (Y7 t q) 26)
 have HB0 := Y1 hb0
 have HBX := Y1 (Z07 w t q)
 have HQ := Y1 (hq.next hb0)
 have HG0 := Y1 (hG.next hb0)
 have HG := Y1 (hg.next hb0)
 have HJ := Y1 hj
 have HNN := Y1 hn
 have HTT := Y1 ht
 have HNP := Y1 hnp
 have HF0 := Y1 hf
 have hmk := Z1N t.names.length (by omega)
 have HBL : Hid ((recs t.names (t.parts.map text)).length = t.names.length) := Y1 (by simp [recs])
 have HBA : Hid (∀ i (h1 : i < t.names.length) (h2 : i < t.parts.length) (h3 : i < (recs t.names (t.parts.map text)).length), (recs t.names (t.parts.map text))[i]'h3 = rfield (t.names[i]'h1) (text (t.parts[i]'h2))) := Y1 (fun i h1 h2 h3 => by
  simp [recs, h1, h2, List.getD])
 obtain ⟨bs, hbs⟩ : ∃ bs, bs = recs t.names (t.parts.map text) := ⟨_, rfl⟩
 rw [<- hbs] at HBL HBA HJ ⊢
 obtain ⟨_, ⟨c0, c1, c2, c3, c4, c5, c6, c7, c8⟩, _⟩ := Z07 w t q
 simp only [Nat.zero_add] at c0 c1 c2 c3 c4 c5 c6 c7 c8
 have hm := hq.small.l
 have hmp := hq.small.m
 clear hq hg hG hb0 hj hbs hn ht hnp hf
 go_enter Tryz.func51, Tryz.ntmps51
 go_upto_region 1 with fail
 obtain ⟨W1, hW1⟩ : ∃ W1, W1 = w.alloc (.cells (Y7 t q) 26) := ⟨_, rfl⟩
 have hz1 : W1.heap.size = w.heap.size + 1 := by rw [hW1]; simp
 rw [<- hW1] at HB0 HBX HQ HG0 HG c0 c1 c2 c3 c4 c5 c6 c7 c8 ⊢
 clear hW1
 have HT0 := Y1 (Z3T W1 t.names.length)
 have HB1 := Y1 (Z02 W1 (.cells (madeCells #[.string ⟨#[]⟩] t.names.length) 9))
 have c4' := (HB1.out.cell (p := ⟨w.heap.size, 4, none⟩) (by show w.heap.size < W1.heap.size; omega)).trans c4
 clear hz1
 go_wp2_with fail
 clear hmk c0 c1 c2 c3 c4 c5 c6 c7 c8 c4'
 generalize W1.alloc (.cells (madeCells #[.string ⟨#[]⟩] t.names.length) 9) = W0 at HT0 HB1 ⊢
 go_loopw [13] (fun ii wr => ∃ i : Nat, ii = .int .i64 i /\ i <= t.names.length /\ Hid (TxR wr W1.heap.size (bs.take i ++ List.replicate (t.names.length - i) [])) /\ Hid (Below W1.heap.size W1 wr)) (fun i _ => t.names.length - (intOf i).toNat)
 case atStart => exact ⟨0, rfl, Nat.zero_le _, HT0, HB1⟩
 case round =>
  obtain ⟨i, rfl, hi, HT, HB⟩ := hrel
  by_cases hlt : i < t.names.length
  {have hi1 : (i : Int) < (t.names.length : Int) := by omega
   have hil : i < t.parts.length := by have := HNP.out; omega
   have hi2 : (i : Int) < (t.parts.length : Int) := by omega
   rcases (HQ.out.next HB.out).part with h0 | ⟨g, off, qs, hqP, hgl, hc, hr⟩
   {omega}
   rcases (HQ.out.next HB.out).strs.cell7 with h0 | ⟨g2, off2, hqA, hgl2, hc2⟩
   {omega}
   {obtain ⟨x, hx⟩ : ∃ x, x = t.names[i]'hlt := ⟨_, rfl⟩
    obtain ⟨y, hy⟩ : ∃ y, y = t.parts[i]'hil := ⟨_, rfl⟩
    have n0 := hc2 i hlt
    obtain ⟨p0, p1, p2, p3, p4, p5, p6, p7, p8⟩ := hc i hil
    have hat := hr i hil
    have hcy := HTT.out (t.parts[i]'hil) (List.getElem_mem _)
    have hcx := HNN.out (t.names[i]'hlt) (List.getElem_mem _)
    have hfy := HF0.out (t.parts[i]'hil) (List.getElem_mem _)
    have hbi := HBA.out i hlt hil (by rw [HBL.out]; exact hlt)
    rw [<- hx] at n0 hcx hbi
    rw [<- hy] at p0 p1 p2 p3 p4 p5 p6 p7 p8 hat hcy hbi hfy
    have IH := hfy (qs i) wr hat (HG0.out.next HB.out) (HG.out.next HB.out)
    have HS : Hid ((bs.take i ++ List.replicate (t.names.length - i) []).set i (x ++ [32, 61, 32] ++ text y) = bs.take (i + 1) ++ List.replicate (t.names.length - (i + 1)) []) := Y1 (by
     rw [Z3g (by rw [List.length_take, HBL.out]; omega) hlt, Shp.Z0C (by rw [HBL.out]; exact hlt), hbi]; rfl)
    have hlen : i < (bs.take i ++ List.replicate (t.names.length - i) []).length := by have := HBL.out; simp; omega
    have z1 : (⟨x.toArray⟩ : ByteArray).size = x.length := Z04 _
    have z2 : (⟨(text y).toArray⟩ : ByteArray).size = (text y).length := Z04 _
    generalize text y = tx at IH HS hcy z2
    obtain ⟨_, ⟨_, _, _, _, y4, _, _, y7, _⟩, _⟩ := HBX.out.next HB.out
    simp only [Nat.zero_add] at y4 y7
    rw [hqA]
    rw [hqA] at y4
    rw [hqP] at y7
    have HCAT : Hid ((⟨x.toArray⟩ : ByteArray) ++ ⟨#[32, 61, 32]⟩ ++ ⟨tx.toArray⟩ = ⟨(x ++ [32, 61, 32] ++ tx).toArray⟩) := Y1 (by rw [<- cat7, <- cat7])
    clear hx hy hc hr hat hbi hc2 hqP hqA hfy
    go_wp2_with fail
    refine IH.mono ?_
    rintro e w' ⟨rfl, hb'⟩
    have hT' := HT.out.next hb'
    have r0 := hT'.at_ i hlen
    have f0 := hT'.fz i
    have HT2 := Y1 (hT'.set hlen (x ++ [32, 61, 32] ++ tx))
    have HBW : Hid (Below W1.heap.size W1 w') := Y1 (Z00 HB.out hb')
    clear hT' hb' IH
    go_wp2
    rw [HCAT.out]
    go_roundw
    case rel => exact ⟨i + 1, by go_num, by omega, by rw [<- HS.out]; exact HT2, Y1 (HBW.out.setCell (p := ⟨W1.heap.size, i, none⟩) (Nat.le_refl _) _)⟩
    case measure => simp [intOf]; omega}}
  {have hi1 : ¬ (i : Int) < (t.names.length : Int) := by omega
   have hE : bs.take i ++ List.replicate (t.names.length - i) [] = bs := by rw [List.take_of_length_le (by rw [HBL.out]; omega), show t.names.length - i = 0 from by omega]; simp
   rw [hE] at HT
   have JN := Z30 W1.heap.size bs [44, 32] wr HT.out (by rw [HBL.out]; omega) HJ.out
   rw [HBL.out] at JN
   clear hE
   go_wp2_with fail
   refine JN.mono ?_
   rintro e w2 ⟨rfl, hb2⟩
   have HB2 := Y1 (Z00 HB0.out (Z00 HB.out hb2))
   clear hb2 JN
   go_wp2
   go_ret
   exact ⟨rfl, HB2.out⟩}
end Go.Proofs.YtnkdedejfonbmaaGreatDoor
