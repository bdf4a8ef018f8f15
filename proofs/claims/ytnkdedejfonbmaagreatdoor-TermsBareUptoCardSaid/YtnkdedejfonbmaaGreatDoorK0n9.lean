/- What the proofs of TermsBare, TermsChecks, TermsDeep, TermsSame, TermsSames want, part 9. -/
import Derived.Deep.RegionHeld3
import Derived.Lib.AppendIntMem
import Derived.IntWalk
import Derived.StillTailTactics
import Derived.RegionTactic
import Derived.BigRegion
import Derived.Deep.QuietTactic
import Derived.BigQuiet
import Derived.Test.YtnkdedejfonbmaaGreatDoorK0n8
set_option linter.unusedVariables false
set_option linter.unusedSimpArgs false
set_option maxRecDepth 100000
set_option maxHeartbeats 16000000
namespace Go.Proofs.YtnkdedejfonbmaaGreatDoor
open Go.RowKit
attribute [local go_sem] Oper.semAt_some
theorem Z6o (a b c : Int) (W : World) : (Instr.index 209 (.agg #[.int .i64 a, .int .i64 b, .int .i64 c]) (.int .i64 0)).run Tryz.prog W = .ok (.int .i64 a) W := by
 simp [Instr.index, run_underlying Tryz.underlying209, asIntOf, go_sem, Tryz.sizeOf3, Tryz.isAgg3]
theorem Z6p (a b c : Int) (W : World) : (Instr.index 209 (.agg #[.int .i64 a, .int .i64 b, .int .i64 c]) (.int .i64 1)).run Tryz.prog W = .ok (.int .i64 b) W := by
 simp [Instr.index, run_underlying Tryz.underlying209, asIntOf, go_sem, Tryz.sizeOf3, Tryz.isAgg3]
theorem Z6q (a b c : Int) (W : World) : (Instr.index 209 (.agg #[.int .i64 a, .int .i64 b, .int .i64 c]) (.int .i64 2)).run Tryz.prog W = .ok (.int .i64 c) W := by
 simp [Instr.index, run_underlying Tryz.underlying209, asIntOf, go_sem, Tryz.sizeOf3, Tryz.isAgg3]
def Far (a b c : Int) (i : Value) : Prop := i = .int .i64 0 \/ (i = .int .i64 1 /\ 0 <= a /\ a <= 999999) \/ (i = .int .i64 2 /\ 0 <= a /\ a <= 999999 /\ 0 <= b /\ b <= 999999) \/ (i = .int .i64 3 /\ 0 <= a /\ a <= 999999 /\ 0 <= b /\ b <= 999999 /\ 0 <= c /\ c <= 999999)
theorem Z81 {a b c : Int} {p : List UInt8} (h : ¬ ((0 <= a /\ a <= 999999) /\ (0 <= b /\ b <= 999999) /\ (0 <= c /\ c <= 999999))) : chk ⟨a, b, c, p⟩ = 40 := by
 rw [chk, if_neg]
 rw [Sem.Z1A]
 rintro ⟨h1, h2, h3, _⟩
 exact h ⟨h1, h2, h3⟩
theorem Zev (a b c : Int) (p : List UInt8) (hn : ¬ ((0 <= a /\ a <= 999999) /\ (0 <= b /\ b <= 999999) /\ (0 <= c /\ c <= 999999))) (w : World) :
 Y9 202 #[.agg #[.int .i64 a, .int .i64 b, .int .i64 c, .string ⟨p.toArray⟩]] w (.int .i64 (chk ⟨a, b, c, p⟩)) := by
 have HE : Hid (chk ⟨a, b, c, p⟩ = 40) := Y1 (Z81 hn)
 go_enter Tryz.func202, Tryz.ntmps202
 go_wp2_with fail
 have hx0 := Z6o a b c
 have hx1 := Z6p a b c
 have hx2 := Z6q a b c
 go_loop [13] (fun i => Far a b c i) (fun i => 3 - (intOf i).toNat)
 case atStart => exact Or.inl rfl
 case round =>
  rcases hrel with rfl | ⟨rfl, a1, a2⟩ | ⟨rfl, a1, a2, b1, b2⟩ | ⟨rfl, a1, a2, b1, b2, c1, c2⟩
  {rcases (show a < 0 \/ 999999 < a \/ (0 <= a /\ a <= 999999) from by omega) with h | h | ⟨h1, h2⟩
   {go_wp2
    refine bodyPost_ret (v := .int .i64 40) (by simp [results, Tryz.results202, go_sem]) rfl ?_
    exact ⟨by rw [HE.out], Z08 (Z02 _ _) _⟩}
   {have hd : decide (a < 0) = false := decide_eq_false (by omega)
    have hd2 : decide (999999 < a) = true := decide_eq_true h
    go_wp2
    refine bodyPost_ret (v := .int .i64 40) (by simp [results, Tryz.results202, go_sem]) rfl ?_
    exact ⟨by rw [HE.out], Z08 (Z02 _ _) _⟩}
   {have hd : decide (a < 0) = false := decide_eq_false (by omega)
    have hd2 : decide (999999 < a) = false := decide_eq_false (by omega)
    go_wp2
    go_round
    case rel => exact Or.inr (Or.inl ⟨rfl, by omega, by omega⟩)
    case measure => simp [intOf]}}
  {rcases (show b < 0 \/ 999999 < b \/ (0 <= b /\ b <= 999999) from by omega) with h | h | ⟨h1, h2⟩
   {go_wp2
    refine bodyPost_ret (v := .int .i64 40) (by simp [results, Tryz.results202, go_sem]) rfl ?_
    exact ⟨by rw [HE.out], Z08 (Z02 _ _) _⟩}
   {have hd : decide (b < 0) = false := decide_eq_false (by omega)
    have hd2 : decide (999999 < b) = true := decide_eq_true h
    go_wp2
    refine bodyPost_ret (v := .int .i64 40) (by simp [results, Tryz.results202, go_sem]) rfl ?_
    exact ⟨by rw [HE.out], Z08 (Z02 _ _) _⟩}
   {have hd : decide (b < 0) = false := decide_eq_false (by omega)
    have hd2 : decide (999999 < b) = false := decide_eq_false (by omega)
    go_wp2
    go_round
    case rel => exact Or.inr (Or.inr (Or.inl ⟨rfl, a1, a2, by omega, by omega⟩))
    case measure => simp [intOf]}}
  {rcases (show c < 0 \/ 999999 < c \/ (0 <= c /\ c <= 999999) from by omega) with h | h | ⟨h1, h2⟩
   {go_wp2
    refine bodyPost_ret (v := .int .i64 40) (by simp [results, Tryz.results202, go_sem]) rfl ?_
    exact ⟨by rw [HE.out], Z08 (Z02 _ _) _⟩}
   {have hd : decide (c < 0) = false := decide_eq_false (by omega)
    have hd2 : decide (999999 < c) = true := decide_eq_true h
    go_wp2
    refine bodyPost_ret (v := .int .i64 40) (by simp [results, Tryz.results202, go_sem]) rfl ?_
    exact ⟨by rw [HE.out], Z08 (Z02 _ _) _⟩}
   {have hd : decide (c < 0) = false := decide_eq_false (by omega)
    have hd2 : decide (999999 < c) = false := decide_eq_false (by omega)
    go_wp2
    go_round
    case rel => exact Or.inr (Or.inr (Or.inr ⟨rfl, a1, a2, b1, b2, by omega, by omega⟩))
    case measure => simp [intOf]}}
  {exact absurd ⟨⟨a1, a2⟩, ⟨b1, b2⟩, ⟨c1, c2⟩⟩ hn}
theorem Zcu (a b c : Int) (a1 : 0 <= a) (a2 : a <= 999999) (b1 : 0 <= b) (b2 : b <= 999999) (c1 : 0 <= c) (c2 : c <= 999999) (w : World) :
 Y9 202 #[.agg #[.int .i64 a, .int .i64 b, .int .i64 c, .string ⟨(([] : List UInt8)).toArray⟩]] w (.int .i64 (chk ⟨a, b, c, []⟩)) := by
 have HE : Hid (chk ⟨a, b, c, []⟩ = 0) := Y1 (by rw [chk, if_pos]; exact (Sem.Z1A _).2 ⟨⟨a1, a2⟩, ⟨b1, b2⟩, ⟨c1, c2⟩, by simp, rfl⟩)
 have da : decide (a < 0) = false := decide_eq_false (by omega)
 have db : decide (b < 0) = false := decide_eq_false (by omega)
 have dc : decide (c < 0) = false := decide_eq_false (by omega)
 have da2 : decide (999999 < a) = false := decide_eq_false (by omega)
 have db2 : decide (999999 < b) = false := decide_eq_false (by omega)
 have dc2 : decide (999999 < c) = false := decide_eq_false (by omega)
 go_enter Tryz.func202, Tryz.ntmps202
 go_wp2_with fail
 have hx0 := Z6o a b c
 have hx1 := Z6p a b c
 have hx2 := Z6q a b c
 go_loop [13] (fun i => Far a b c i) (fun i => 3 - (intOf i).toNat)
 case atStart => exact Or.inl rfl
 case round =>
  rcases hrel with rfl | ⟨rfl, _, _⟩ | ⟨rfl, _, _, _, _⟩ | ⟨rfl, _, _, _, _, _, _⟩
  {go_wp2
   go_round
   case rel => exact Or.inr (Or.inl ⟨rfl, a1, a2⟩)
   case measure => simp [intOf]}
  {go_wp2
   go_round
   case rel => exact Or.inr (Or.inr (Or.inl ⟨rfl, a1, a2, b1, b2⟩))
   case measure => simp [intOf]}
  {go_wp2
   go_round
   case rel => exact Or.inr (Or.inr (Or.inr ⟨rfl, a1, a2, b1, b2, c1, c2⟩))
   case measure => simp [intOf]}
  {go_wp2
   refine bodyPost_ret (v := .int .i64 0) (by simp [results, Tryz.results202, go_sem]) rfl ?_
   exact ⟨by rw [HE.out], Z08 (Z02 _ _) _⟩}
theorem Zcv (a b c : Int) (p : List UInt8) (hp : 24 < p.length) (hs : p.length <= 9223372036854775807) (a1 : 0 <= a) (a2 : a <= 999999) (b1 : 0 <= b) (b2 : b <= 999999) (c1 : 0 <= c) (c2 : c <= 999999) (w : World) :
 Y9 202 #[.agg #[.int .i64 a, .int .i64 b, .int .i64 c, .string ⟨p.toArray⟩]] w (.int .i64 (chk ⟨a, b, c, p⟩)) := by
 have HE : Hid (chk ⟨a, b, c, p⟩ = 40) := Y1 (by rw [chk, if_neg]; rw [Sem.Z1A]; rintro ⟨_, _, _, h, _⟩; simp only at h; omega)
 have he : p.isEmpty = false := by
  cases p with
  | nil => simp at hp
  | cons _ _ => rfl
 have hsz : (⟨p.toArray⟩ : ByteArray).size = p.length := Z04 _
 have da : decide (a < 0) = false := decide_eq_false (by omega)
 have db : decide (b < 0) = false := decide_eq_false (by omega)
 have dc : decide (c < 0) = false := decide_eq_false (by omega)
 have da2 : decide (999999 < a) = false := decide_eq_false (by omega)
 have db2 : decide (999999 < b) = false := decide_eq_false (by omega)
 have dc2 : decide (999999 < c) = false := decide_eq_false (by omega)
 go_enter Tryz.func202, Tryz.ntmps202
 go_wp2_with fail
 have hx0 := Z6o a b c
 have hx1 := Z6p a b c
 have hx2 := Z6q a b c
 go_loop [13] (fun i => Far a b c i) (fun i => 3 - (intOf i).toNat)
 case atStart => exact Or.inl rfl
 case round =>
  rcases hrel with rfl | ⟨rfl, _, _⟩ | ⟨rfl, _, _, _, _⟩ | ⟨rfl, _, _, _, _, _, _⟩
  {go_wp2
   go_round
   case rel => exact Or.inr (Or.inl ⟨rfl, a1, a2⟩)
   case measure => simp [intOf]}
  {go_wp2
   go_round
   case rel => exact Or.inr (Or.inr (Or.inl ⟨rfl, a1, a2, b1, b2⟩))
   case measure => simp [intOf]}
  {go_wp2
   go_round
   case rel => exact Or.inr (Or.inr (Or.inr ⟨rfl, a1, a2, b1, b2, c1, c2⟩))
   case measure => simp [intOf]}
  {go_wp2
   refine bodyPost_ret (v := .int .i64 40) (by simp [results, Tryz.results202, go_sem]) rfl ?_
   exact ⟨by rw [HE.out], Z08 (Z02 _ _) _⟩}
attribute [local go_sem] Oper.semAt_some
theorem Zas (a b c : Int) (p : List UInt8) (hp : p.length <= 24) (hz : p ≠ []) (a1 : 0 <= a) (a2 : a <= 999999) (b1 : 0 <= b) (b2 : b <= 999999) (c1 : 0 <= c) (c2 : c <= 999999) (w : World) :
 Y9 202 #[.agg #[.int .i64 a, .int .i64 b, .int .i64 c, .string ⟨p.toArray⟩]] w (.int .i64 (chk ⟨a, b, c, p⟩)) := by
 have HE : Hid (chk ⟨a, b, c, p⟩ = if (Sem.parts p).all Sem.part = true then 0 else 40) := Y1 (by
  rw [chk]
  have e : Sem.may ⟨a, b, c, p⟩ = (Sem.parts p).all Sem.part := by
   rw [Bool.eq_iff_iff, Sem.Z1A]
   have e2 : Sem.preOk p = (Sem.parts p).all Sem.part := by
    unfold Sem.preOk
    rw [show p.isEmpty = false from by simpa using hz, Bool.false_or]
   rw [e2]
   exact ⟨fun h => h.2.2.2.2, fun h => ⟨⟨a1, a2⟩, ⟨b1, b2⟩, ⟨c1, c2⟩, hp, h⟩⟩
  rw [e])
 have he : p.isEmpty = false := by simpa using hz
 have hsz : (⟨p.toArray⟩ : ByteArray).size = p.length := Z04 _
 clear hz
 have da : decide (a < 0) = false := decide_eq_false (by omega)
 have db : decide (b < 0) = false := decide_eq_false (by omega)
 have dc : decide (c < 0) = false := decide_eq_false (by omega)
 have da2 : decide (999999 < a) = false := decide_eq_false (by omega)
 have db2 : decide (999999 < b) = false := decide_eq_false (by omega)
 have dc2 : decide (999999 < c) = false := decide_eq_false (by omega)
 have hx0 := Z6o a b c
 have hx1 := Z6p a b c
 have hx2 := Z6q a b c
 refine (callsIn_wide (n := 6)).1 ?_
 refine callsIn_of_wp_marks Tryz.func202 rfl trivial ?_ rfl
 simp only [Tryz.ntmps202, List.size_toArray, List.length_cons, List.length_nil, Nat.reduceAdd, Nat.reduceSub, Array.replicate_succ, Array.replicate_zero, List.push_toArray, List.append_toArray, List.nil_append, List.cons_append]
 gi_wp2_with fail
 gi_loopw [13] (fun i wr => Far a b c i /\ wr = (w.alloc (Obj.cells #[Value.int IntKind.i64 a, Value.int IntKind.i64 b, Value.int IntKind.i64 c, Value.string ⟨p.toArray⟩] 204)).alloc (Obj.cells #[Value.int IntKind.i64 0] 27)) (fun i _ => 3 - (intOf i).toNat)
 case atStart => exact ⟨Or.inl rfl, rfl⟩
 case round =>
  obtain ⟨hfar, rfl⟩ := hrel
  rcases hfar with rfl | ⟨rfl, _, _⟩ | ⟨rfl, _, _, _, _⟩ | ⟨rfl, _, _, _, _, _, _⟩
  {gi_wp2
   go_roundw
   case rel => exact ⟨Or.inr (Or.inl ⟨rfl, a1, a2⟩), trivial⟩
   case measure => simp [intOf]}
  {gi_wp2
   go_roundw
   case rel => exact ⟨Or.inr (Or.inr (Or.inl ⟨rfl, a1, a2, b1, b2⟩)), trivial⟩
   case measure => simp [intOf]}
  {gi_wp2
   go_roundw
   case rel => exact ⟨Or.inr (Or.inr (Or.inr ⟨rfl, a1, a2, b1, b2, c1, c2⟩)), trivial⟩
   case measure => simp [intOf]}
  {gi_wp2_with (refine ⟨trivial, ?_⟩; gi_at_call 211; refine (callsIn_wide.2 (ZfM p _)).mono ?_; rintro e w' ⟨rfl, hS, hb⟩)
   simp only [World.size_alloc] at hS hb
   have hb0 : Below w.heap.size w w' := (Z08 (Z02 _ _) _).trans (hb.mono (by omega))
   have hc0 : w'.cell? ⟨w.heap.size + 1, 0, none⟩ = some (.int .i64 0) := (hb.cell (p := ⟨w.heap.size + 1, 0, none⟩) (by show w.heap.size + 1 < w.heap.size + 1 + 1; omega)).trans (by simp [go_sem])
   have hf0 : w'.frozen? ⟨w.heap.size + 1, 0, none⟩ = false := (hb.frozen (p := ⟨w.heap.size + 1, 0, none⟩) (by show w.heap.size + 1 < w.heap.size + 1 + 1; omega)).trans (by simp [go_sem])
   clear hb
   refine Zeu 6 (by omega) (w.heap.size + 1 + 1) p rfl hS hp rfl
    (fun pre W => Below w.heap.size w W /\ W.cell? ⟨w.heap.size + 1, 0, none⟩ = some (.int .i64 0) /\ W.frozen? ⟨w.heap.size + 1, 0, none⟩ = false /\ pre.all Sem.part = true)
    (fun pre W => Below w.heap.size w W /\ W.cell? ⟨w.heap.size + 1, 0, none⟩ = some (.int .i64 40) /\ pre.all Sem.part = false)
    ?hI ?hIx ⟨hb0, hc0, hf0, rfl⟩
    (fun x => { tmps := #[.agg #[.int .i64 a, .int .i64 b, .int .i64 c, .string ⟨p.toArray⟩], .pointer (some ⟨w.heap.size, 0, none⟩), .pointer (some ⟨w.heap.size + 1, 0, none⟩), undef, u4, .string ⟨x.toArray⟩, .pointer (some ⟨w.heap.size, 0, none⟩), .int .i64 a,
     .pointer (some ⟨w.heap.size, 1, none⟩), .int .i64 b, .pointer (some ⟨w.heap.size, 2, none⟩), .int .i64 c, .agg #[.int .i64 a, .int .i64 b, .int .i64 c], .int .i64 3, .bool false, u15, u16, u17, u18, u19, u20, u21, u22, .pointer (some ⟨w.heap.size, 3, none⟩), .string ⟨p.toArray⟩, .bool false,
     .pointer (some ⟨w.heap.size, 3, none⟩), .string ⟨p.toArray⟩, .int .i64 p.length, .bool (decide ((24 : Int) < p.length)), .pointer (some ⟨w.heap.size, 3, none⟩), .string ⟨p.toArray⟩,
     .func (.func 225) #[] #[.pointer (some ⟨w.heap.size + 1 + 1 + 1, 0, none⟩), .pointer (some ⟨w.heap.size + 1 + 1, 0, none⟩), .pointer (some ⟨w.heap.size + 1 + 1 + 2, 0, none⟩)], .string ⟨x.toArray⟩, undef, undef, undef], defers := [] }) ?hassign ?hbody ?hdone ?hstop
   case hI =>
    rintro pre A B ⟨h1, h2, h3, h4⟩ hb
    exact ⟨h1.trans (hb.mono (by omega)), (hb.cell (p := ⟨w.heap.size + 1, 0, none⟩) (by show w.heap.size + 1 < w.heap.size + 1 + 1; omega)).trans h2, (hb.frozen (p := ⟨w.heap.size + 1, 0, none⟩) (by show w.heap.size + 1 < w.heap.size + 1 + 1; omega)).trans h3, h4⟩
   case hIx =>
    rintro pre A B ⟨h1, h2, h4⟩ hb
    exact ⟨h1.trans (hb.mono (by omega)), (hb.cell (p := ⟨w.heap.size + 1, 0, none⟩) (by show w.heap.size + 1 < w.heap.size + 1 + 1; omega)).trans h2, h4⟩
   case hassign =>
    intro l x W K hK
    gi_wp2
    exact hK
   case hbody =>
    rintro l pre x W ⟨h1, h2, h3, h4⟩ hx
    have hcon := fun W => CallsIn.inRound l (callsIn_wide (n := 6 - 1 - 1 - 1).2 (Z72 ⟨x.toArray⟩ (by rw [Z04]; omega) W))
    have hq0 : Sem.part (⟨x.toArray⟩ : ByteArray).data.toList = Sem.part x := rfl
    rw [hq0] at hcon
    cases hq : Sem.part x
    {have H4 : Hid ((pre ++ [x]).all Sem.part = false) := Y1 (by rw [List.all_append, h4]; simp [hq])
     rw [hq] at hcon
     clear hq hq0 h4
     gi_wp2_with (refine ⟨trivial, ?_⟩; gi_at_call 212; refine (hcon _).mono ?_; rintro e w' ⟨rfl, rfl⟩)
     exact ⟨KeepsOthers.setCell _ _ _, h1.setCell (p := ⟨w.heap.size + 1, 0, none⟩) (by show w.heap.size <= w.heap.size + 1; omega) _, World.cell?_setCell_same _ _ _ h2, H4.out⟩}
    {have H4 : Hid ((pre ++ [x]).all Sem.part = true) := Y1 (by rw [List.all_append, h4]; simp [hq])
     rw [hq] at hcon
     clear hq hq0 h4
     gi_wp2_with (refine ⟨trivial, ?_⟩; gi_at_call 212; refine (hcon _).mono ?_; rintro e w' ⟨rfl, rfl⟩)
     exact ⟨KeepsOthers.refl _, Below.refl _ _, h1, h2, h3, H4.out⟩}
   case hdone =>
    rintro D W ⟨h1, h2, h3, h4⟩ hK hD
    have HF : Hid (chk ⟨a, b, c, p⟩ = 0) := Y1 (by rw [HE.out, if_pos h4])
    clear h4 hc0 hf0
    gi_wp2
    have hDR : w.heap.size + 1 + 1 + 2 < D := Nat.lt_of_lt_of_le hS.1 hD
    have hK2 : (W.setCell ⟨w.heap.size + 1, 0, none⟩ (.int .i64 0)).heap[D]? = some (.deferred (some [])) := (Below.heap_setCell W ⟨w.heap.size + 1, 0, none⟩ _ D (by show D ≠ w.heap.size + 1; omega)).trans hK
    have hP := Z1E (B := w.heap.size + 2) (W := W.setCell ⟨w.heap.size + 1, 0, none⟩ (.int .i64 0)) (l := D) (.deferred none) (by omega)
    have hc5 := (hP.cell (p := ⟨w.heap.size + 1, 0, none⟩) (by show w.heap.size + 1 < w.heap.size + 2; omega)).trans (World.cell?_setCell_same _ _ (.int .i64 0) h2)
    have hB5 : Below w.heap.size w ((W.setCell ⟨w.heap.size + 1, 0, none⟩ (.int .i64 0)).putObj D (.deferred none)) := (h1.setCell (p := ⟨w.heap.size + 1, 0, none⟩) (by show w.heap.size <= w.heap.size + 1; omega) _).trans (hP.mono (by omega))
    refine ⟨by simp, .inl ⟨_, _, rfl, run_takeDeferred hK2, ?_⟩⟩
    generalize (W.setCell ⟨w.heap.size + 1, 0, none⟩ (.int .i64 0)).putObj D (.deferred none) = W5 at hc5 hB5 ⊢
    refine ⟨.int .i64 0, by simp [results, Tryz.results202, go_sem, hc5], ?_⟩
    exact ⟨by rw [HF.out], hB5⟩
   case hstop =>
    rintro D pre suf W hps ⟨h1, h2, h4⟩ hK hD
    have HF : Hid (chk ⟨a, b, c, p⟩ = 40) := Y1 (by
     rw [HE.out, if_neg]
     rw [<- hps, List.all_append, h4]; simp)
    clear h4 hc0 hf0 hps
    gi_wp2
    have hDR : w.heap.size + 1 + 1 + 2 < D := Nat.lt_of_lt_of_le hS.1 hD
    have hP := Z1E (B := w.heap.size + 2) (W := W) (l := D) (.deferred none) (by omega)
    have hc5 := (hP.cell (p := ⟨w.heap.size + 1, 0, none⟩) (by show w.heap.size + 1 < w.heap.size + 2; omega)).trans h2
    have hB5 : Below w.heap.size w (W.putObj D (.deferred none)) := h1.trans (hP.mono (by omega))
    refine ⟨by simp, .inl ⟨_, _, rfl, run_takeDeferred hK, ?_⟩⟩
    generalize W.putObj D (.deferred none) = W5 at hc5 hB5 ⊢
    refine ⟨.int .i64 40, by simp [results, Tryz.results202, go_sem, hc5], ?_⟩
    exact ⟨by rw [HF.out], hB5⟩}
theorem Z6r (v : Sem.Ver) (hs : v.pre.length <= 9223372036854775807) (w : World) :
 Y9 202 #[verV v] w (.int .i64 (chk v)) := by
 obtain ⟨a, b, c, p⟩ := v
 unfold verV
 simp only at hs
 by_cases hn : (0 <= a /\ a <= 999999) /\ (0 <= b /\ b <= 999999) /\ (0 <= c /\ c <= 999999)
 {obtain ⟨⟨a1, a2⟩, ⟨b1, b2⟩, ⟨c1, c2⟩⟩ := hn
  by_cases hz : p = []
  {subst hz; exact Zcu a b c a1 a2 b1 b2 c1 c2 w}
  {by_cases hp : p.length <= 24
   {exact Zas a b c p hp hz a1 a2 b1 b2 c1 c2 w}
   {exact Zcv a b c p (by omega) (by omega) a1 a2 b1 b2 c1 c2 w}}}
 {exact Zev a b c p hn w}
def showR (v : Sem.Ver) : Value := if Sem.may v = true then .tuple #[.string ⟨(Sem.text v).toArray⟩, .int .i64 0] else .tuple #[.string ByteArray.empty, .int .i64 40]
theorem Z4R {n : Nat} (h : n <= 999999) : (Sem.dec n).length <= 6 := Sem.Z36 6 n (by have : (10 : Nat) ^ 6 = 1000000 := rfl; omega) (by omega)
theorem Zhk (n : Nat) : Lib.decDigits n = Sem.dec n := by
 induction n using Nat.strongRecOn with
 | ind n ih =>
  rw [Lib.decDigits, Sem.dec]
  by_cases h : n < 10
  {rw [dif_pos h, dif_pos h]}
  {rw [dif_neg h, dif_neg h, ih _ (by omega)]}
theorem Zew (n : Nat) (h : n <= 999999) (w : World) (hg : Globs w) :
 Y9 45 #[.int .i64 n] w (.string ⟨(Sem.dec n).toArray⟩) := by
 have hi := Any.strconv_Itoa Tryz.laysM171 n (by omega) (by omega) w hg.tab
 rw [Lib.itoa_nonneg, Zhk] at hi
 refine Calls.mono hi ?_
 rintro e w' ⟨rfl, k, os, rfl⟩
 exact ⟨rfl, Lib.below_grow _ _ (Nat.le_refl _) _ _⟩
theorem Zcw (z : Int) (h0 : 0 <= z) (h : z <= 999999) (w : World) (hg : Globs w) :
 Y9 45 #[.int .i64 z] w (.string ⟨(Sem.dec z.toNat).toArray⟩) := by
 obtain ⟨n, rfl⟩ := Int.eq_ofNat_of_zero_le h0
 exact Zew n (by omega) w hg
theorem Zcx {w W w' : World} {g : Nat} {a b c : Int} {x : ByteArray} (h : g < W.heap.size /\ W.cell? ⟨g, 0, none⟩ = some (.int .i64 a) /\ W.cell? ⟨g, 1, none⟩ = some (.int .i64 b) /\ W.cell? ⟨g, 2, none⟩ = some (.int .i64 c) /\ W.cell? ⟨g, 3, none⟩ = some (.string x) /\ Globs W /\ Below w.heap.size w W) (hb : Below W.heap.size W w') :
 g < w'.heap.size /\ w'.cell? ⟨g, 0, none⟩ = some (.int .i64 a) /\ w'.cell? ⟨g, 1, none⟩ = some (.int .i64 b) /\ w'.cell? ⟨g, 2, none⟩ = some (.int .i64 c) /\ w'.cell? ⟨g, 3, none⟩ = some (.string x) /\ Globs w' /\ Below w.heap.size w w' := by
 obtain ⟨h0, h1, h2, h3, h4, h5, h6⟩ := h
 exact ⟨Nat.lt_of_lt_of_le h0 hb.size, ((Z0n (o := 0) hb h0).1).trans h1, ((Z0n (o := 1) hb h0).1).trans h2, ((Z0n (o := 2) hb h0).1).trans h3, ((Z0n (o := 3) hb h0).1).trans h4, h5.next hb, Z00 h6 hb⟩
theorem Z4j (z : Int) (z0 : 0 <= z) (z1 : z <= 999999) {w W : World} {g : Nat} {a b c : Int} {x : ByteArray} (h : g < W.heap.size /\ W.cell? ⟨g, 0, none⟩ = some (.int .i64 a) /\ W.cell? ⟨g, 1, none⟩ = some (.int .i64 b) /\ W.cell? ⟨g, 2, none⟩ = some (.int .i64 c) /\ W.cell? ⟨g, 3, none⟩ = some (.string x) /\ Globs W /\ Below w.heap.size w W) :
 Y9 45 #[.int .i64 z] W (.string ⟨(Sem.dec z.toNat).toArray⟩) :=
 Zcw z z0 z1 W h.2.2.2.2.2.1
theorem Globs.drew {w : World} (h : Globs w) : Globs w.drew := ⟨h.syn, h.rng, h.tab⟩
theorem Z2Z {w W : World} {g : Nat} {a b c : Int} {x : ByteArray} (h : g < W.heap.size /\ W.cell? ⟨g, 0, none⟩ = some (.int .i64 a) /\ W.cell? ⟨g, 1, none⟩ = some (.int .i64 b) /\ W.cell? ⟨g, 2, none⟩ = some (.int .i64 c) /\ W.cell? ⟨g, 3, none⟩ = some (.string x) /\ Globs W /\ Below w.heap.size w W) :
 g < W.drew.heap.size /\ W.drew.cell? ⟨g, 0, none⟩ = some (.int .i64 a) /\ W.drew.cell? ⟨g, 1, none⟩ = some (.int .i64 b) /\ W.drew.cell? ⟨g, 2, none⟩ = some (.int .i64 c) /\ W.drew.cell? ⟨g, 3, none⟩ = some (.string x) /\ Globs W.drew /\ Below w.heap.size w W.drew :=
 ⟨h.1, h.2.1, h.2.2.1, h.2.2.2.1, h.2.2.2.2.1, h.2.2.2.2.2.1.drew, h.2.2.2.2.2.2.drew⟩
theorem ZfR (x y z : List UInt8) : (⟨x.toArray⟩ : ByteArray) ++ ⟨#[46]⟩ ++ ⟨y.toArray⟩ ++ ⟨#[46]⟩ ++ ⟨z.toArray⟩ = ⟨(x ++ 46 :: (y ++ 46 :: z)).toArray⟩ := by
 apply ByteArray.ext
 simp [ByteArray.data_append]
theorem ZfS (x y z p : List UInt8) : (⟨(x ++ 46 :: (y ++ 46 :: z)).toArray⟩ : ByteArray) ++ (⟨#[45]⟩ ++ ⟨p.toArray⟩) = ⟨(x ++ 46 :: (y ++ 46 :: (z ++ 45 :: p))).toArray⟩ := by
 apply ByteArray.ext
 simp [ByteArray.data_append]
theorem Zex (v : Sem.Ver) (hs : v.pre.length <= 140737488351232) (w : World) (hg : Globs w) :
 Y9 197 #[verV v] w (showR v) := by
 cases hm : Sem.may v
 {have HM := Y1 hm
  have hc : chk v = 40 := by rw [chk, hm]; rfl
  have HC := Y1 hc
  obtain ⟨a, b, c, p⟩ := v
  clear hm hc
  have hv : verV ⟨a, b, c, p⟩ = .agg #[.int .i64 a, .int .i64 b, .int .i64 c, .string ⟨p.toArray⟩] := rfl
  rw [hv]
  clear hv
  go_enter Tryz.func197, Tryz.ntmps197
  go_wp2_with fail
  refine (Z6r ⟨a, b, c, p⟩ (Nat.le_trans hs (by decide)) _).mono ?_
  rintro e w1 ⟨he, hb⟩
  rw [HC.out] at he
  subst he
  go_wp2
  go_ret2
  exact ⟨by rw [showR, HM.out, if_neg (by simp)]; rfl, Z00 (Z02 _ _) hb⟩}
 {have HM := Y1 hm
  have hc : chk v = 0 := by rw [chk, hm]; rfl
  have HC := Y1 hc
  have hmi := (Sem.Z1A v).1 hm
  obtain ⟨a, b, c, p⟩ := v
  simp only at hmi hs
  obtain ⟨⟨a1, a2⟩, ⟨b1, b2⟩, ⟨c1, c2⟩, hp, _⟩ := hmi
  clear hm hc
  have HS : Hid (showR ⟨a, b, c, p⟩ = .tuple #[.string ⟨(Sem.dec a.toNat ++ 46 :: (Sem.dec b.toNat ++ 46 :: (Sem.dec c.toNat ++ if p = [] then [] else 45 :: p))).toArray⟩, .int .i64 0]) := Y1 (by
   rw [showR, HM.out, if_pos rfl]; rfl)
  have la := Z4R (n := a.toNat) (by omega)
  have lb := Z4R (n := b.toNat) (by omega)
  have lc := Z4R (n := c.toNat) (by omega)
  have lp : (⟨p.toArray⟩ : ByteArray).size = p.length := Z04 _
  have sa : (⟨(Sem.dec a.toNat).toArray⟩ : ByteArray).size = (Sem.dec a.toNat).length := Z04 _
  have sb : (⟨(Sem.dec b.toNat).toArray⟩ : ByteArray).size = (Sem.dec b.toNat).length := Z04 _
  have sc : (⟨(Sem.dec c.toNat).toArray⟩ : ByteArray).size = (Sem.dec c.toNat).length := Z04 _
  have sd : (⟨#[46]⟩ : ByteArray).size = 1 := rfl
  have n1 : ((⟨(Sem.dec a.toNat).toArray⟩ : ByteArray) ++ ⟨#[46]⟩).size = (Sem.dec a.toNat).length + 1 := by rw [ByteArray.size_append, sa, sd]
  have n2 : ((⟨(Sem.dec a.toNat).toArray⟩ : ByteArray) ++ ⟨#[46]⟩ ++ ⟨(Sem.dec b.toNat).toArray⟩).size = (Sem.dec a.toNat).length + 1 + (Sem.dec b.toNat).length := by rw [ByteArray.size_append, n1, sb]
  have n3 : ((⟨(Sem.dec a.toNat).toArray⟩ : ByteArray) ++ ⟨#[46]⟩ ++ ⟨(Sem.dec b.toNat).toArray⟩ ++ ⟨#[46]⟩).size = (Sem.dec a.toNat).length + 1 + (Sem.dec b.toNat).length + 1 := by rw [ByteArray.size_append, n2, sd]
  have k1 : ∀ W : World, (Op.stringOp .add (⟨(Sem.dec a.toNat).toArray⟩ : ByteArray) ⟨#[46]⟩).run Tryz.prog W = .ok (.string ((⟨(Sem.dec a.toNat).toArray⟩ : ByteArray) ++ ⟨#[46]⟩)) W := fun W => run_string_add_sum _ _ _ (by omega)
  have k2 : ∀ W : World, (Op.stringOp .add ((⟨(Sem.dec a.toNat).toArray⟩ : ByteArray) ++ ⟨#[46]⟩) ⟨(Sem.dec b.toNat).toArray⟩).run Tryz.prog W = .ok (.string ((⟨(Sem.dec a.toNat).toArray⟩ : ByteArray) ++ ⟨#[46]⟩ ++ ⟨(Sem.dec b.toNat).toArray⟩)) W := fun W => run_string_add_sum _ _ _ (by omega)
  have k3 : ∀ W : World, (Op.stringOp .add ((⟨(Sem.dec a.toNat).toArray⟩ : ByteArray) ++ ⟨#[46]⟩ ++ ⟨(Sem.dec b.toNat).toArray⟩) ⟨#[46]⟩).run Tryz.prog W = .ok (.string ((⟨(Sem.dec a.toNat).toArray⟩ : ByteArray) ++ ⟨#[46]⟩ ++ ⟨(Sem.dec b.toNat).toArray⟩ ++ ⟨#[46]⟩)) W := fun W => run_string_add_sum _ _ _ (by omega)
  have k4 : ∀ W : World, (Op.stringOp .add ((⟨(Sem.dec a.toNat).toArray⟩ : ByteArray) ++ ⟨#[46]⟩ ++ ⟨(Sem.dec b.toNat).toArray⟩ ++ ⟨#[46]⟩) ⟨(Sem.dec c.toNat).toArray⟩).run Tryz.prog W = .ok (.string ((⟨(Sem.dec a.toNat).toArray⟩ : ByteArray) ++ ⟨#[46]⟩ ++ ⟨(Sem.dec b.toNat).toArray⟩ ++ ⟨#[46]⟩ ++ ⟨(Sem.dec c.toNat).toArray⟩)) W := fun W => run_string_add_sum _ _ _ (by omega)
  clear n1 n2 n3 sd
  unfold verV
  go_enter Tryz.func197, Tryz.ntmps197
  go_wp2_with fail
  refine (Z6r ⟨a, b, c, p⟩ (Nat.le_trans hs (by decide)) _).mono ?_
  rintro e w1 ⟨he, hb⟩
  rw [HC.out] at he
  subst he
  obtain ⟨h0, g0, g1, g2, g3⟩ := (ZbD w ⟨a, b, c, p⟩).next hb
  have hb1 := Z00 (Z02 w (Obj.cells #[Value.int IntKind.i64 a, Value.int IntKind.i64 b, Value.int IntKind.i64 c, Value.string ⟨p.toArray⟩] 204)) hb
  have hS0 : w.heap.size < w1.heap.size /\ w1.cell? ⟨w.heap.size, 0, none⟩ = some (.int .i64 a) /\ w1.cell? ⟨w.heap.size, 1, none⟩ = some (.int .i64 b) /\ w1.cell? ⟨w.heap.size, 2, none⟩ = some (.int .i64 c) /\ w1.cell? ⟨w.heap.size, 3, none⟩ = some (.string ⟨p.toArray⟩) /\ Globs w1 /\ Below w.heap.size w w1 := ⟨h0, g0, g1, g2, g3, hg.next hb1, hb1⟩
  simp only at g0 g1 g2 g3
  have hG1 := hS0.2.2.2.2.2.1
  clear hb hb1
  go_wp2_with fail
  go_region_held3 (fun w' => w.heap.size < w'.heap.size /\ w'.cell? ⟨w.heap.size, 0, none⟩ = some (.int .i64 a) /\ w'.cell? ⟨w.heap.size, 1, none⟩ = some (.int .i64 b) /\ w'.cell? ⟨w.heap.size, 2, none⟩ = some (.int .i64 c) /\ w'.cell? ⟨w.heap.size, 3, none⟩ = some (.string ⟨p.toArray⟩) /\ Globs w' /\ Below w.heap.size w w')
   (first | exact Z2Z hS0 | exact Zcx (by assumption) (by assumption) | assumption)
   (first | (go_at_call 45; refine Calls.mono (Z4j (w := w) (g := w.heap.size) (a := a) (b := b) (c := c) (x := ⟨p.toArray⟩) a a1 a2 ?_) ?_; (first | exact Z2Z hS0 | exact hS0 | assumption); rintro e w4 ⟨rfl, hb4⟩) | (go_at_call 45; refine Calls.mono (Z4j (w := w) (g := w.heap.size) (a := a) (b := b) (c := c) (x := ⟨p.toArray⟩) b b1 b2 ?_) ?_; (first | exact Z2Z hS0 | exact hS0 | assumption); rintro e w5 ⟨rfl, hb5⟩) | (go_at_call 45; refine Calls.mono (Z4j (w := w) (g := w.heap.size) (a := a) (b := b) (c := c) (x := ⟨p.toArray⟩) c c1 c2 ?_) ?_; (first | exact Z2Z hS0 | exact hS0 | assumption); rintro e w6 ⟨rfl, hb6⟩))
  all_goals (
   have hH : w.heap.size < w6.heap.size /\ w6.cell? ⟨w.heap.size, 0, none⟩ = some (.int .i64 a) /\ w6.cell? ⟨w.heap.size, 1, none⟩ = some (.int .i64 b) /\ w6.cell? ⟨w.heap.size, 2, none⟩ = some (.int .i64 c) /\ w6.cell? ⟨w.heap.size, 3, none⟩ = some (.string ⟨p.toArray⟩) /\ Globs w6 /\ Below w.heap.size w w6 := by assumption
   obtain ⟨_, j0, j1, j2, j3, _, kb⟩ := hH
   clear k1 k2 k3 k4
   rw [ZfR]
   obtain ⟨t, ht⟩ : ∃ t, t = Sem.dec a.toNat ++ 46 :: (Sem.dec b.toNat ++ 46 :: Sem.dec c.toNat) := ⟨_, rfl⟩
   have htl : t.length <= 20 := by rw [ht]; simp; omega
   have hts : (⟨t.toArray⟩ : ByteArray).size = t.length := Z04 _
   rw [<- ht]
   by_cases hz : p = []
   {have he : p.isEmpty = true := by rw [hz]; rfl
    have HF : Hid (showR ⟨a, b, c, p⟩ = .tuple #[.string ⟨t.toArray⟩, .int .i64 0]) := Y1 (by rw [HS.out, if_pos hz, List.append_nil, ht])
    clear ht hz
    go_wp2
    go_ret2
    exact ⟨by rw [HF.out]; rfl, kb⟩}
   · have he : p.isEmpty = false := by simpa using hz
     have HF : Hid (showR ⟨a, b, c, p⟩ = .tuple #[.string (⟨t.toArray⟩ ++ (⟨#[45]⟩ ++ ⟨p.toArray⟩)), .int .i64 0]) := Y1 (by
      rw [HS.out, if_neg hz, ht, ZfS])
     clear ht hz
     go_wp2
     go_ret2
     exact ⟨by rw [HF.out]; rfl, kb⟩)}
def Box4 (W : World) (g : Nat) (v : Sem.Ver) : Prop := VerAt W g v /\ W.frozen? ⟨g, 0, none⟩ = false /\ W.frozen? ⟨g, 1, none⟩ = false /\ W.frozen? ⟨g, 2, none⟩ = false /\ W.frozen? ⟨g, 3, none⟩ = false
theorem Box4.keep {W W' : World} {g B : Nat} {v : Sem.Ver} (h : Box4 W g v) (hg : g < B) (hb : Below B W W') : Box4 W' g v := by
 obtain ⟨⟨h0, h1, h2, h3, h4⟩, f0, f1, f2, f3⟩ := h
 exact ⟨⟨Nat.lt_of_lt_of_le h0 hb.size, (hb.cell (p := ⟨g, 0, none⟩) hg).trans h1, (hb.cell (p := ⟨g, 1, none⟩) hg).trans h2, (hb.cell (p := ⟨g, 2, none⟩) hg).trans h3, (hb.cell (p := ⟨g, 3, none⟩) hg).trans h4⟩,
  (hb.frozen (p := ⟨g, 0, none⟩) hg).trans f0, (hb.frozen (p := ⟨g, 1, none⟩) hg).trans f1, (hb.frozen (p := ⟨g, 2, none⟩) hg).trans f2, (hb.frozen (p := ⟨g, 3, none⟩) hg).trans f3⟩
theorem Box4.set {W : World} {g : Nat} {v : Sem.Ver} (h : Box4 W g v) (u : Sem.Ver) : Box4 ((((W.setCell ⟨g, 0, none⟩ (.int .i64 u.maj)).setCell ⟨g, 1, none⟩ (.int .i64 u.min)).setCell ⟨g, 2, none⟩ (.int .i64 u.pat)).setCell ⟨g, 3, none⟩ (.string ⟨u.pre.toArray⟩)) g u := by
 obtain ⟨⟨h0, h1, h2, h3, h4⟩, f0, f1, f2, f3⟩ := h
 exact ⟨⟨by simpa using h0, by simp [go_sem, h1], by simp [go_sem, h2], by simp [go_sem, h3], by simp [go_sem, h4]⟩, by simp [go_sem, f0], by simp [go_sem, f1], by simp [go_sem, f2], by simp [go_sem, f3]⟩
theorem ZbE (w : World) (v : Sem.Ver) : Box4 (w.alloc (.cells #[.int .i64 v.maj, .int .i64 v.min, .int .i64 v.pat, .string ⟨v.pre.toArray⟩] 204)) w.heap.size v :=
 ⟨ZbD w v, by simp [go_sem], by simp [go_sem], by simp [go_sem], by simp [go_sem]⟩
theorem VerAt.put {W : World} {g x : Nat} {v : Sem.Ver} (h : VerAt W g v) (hne : x ≠ g) (p q r s : Value) :
 VerAt ((((W.setCell ⟨x, 0, none⟩ p).setCell ⟨x, 1, none⟩ q).setCell ⟨x, 2, none⟩ r).setCell ⟨x, 3, none⟩ s) g v := by
 obtain ⟨h0, h1, h2, h3, h4⟩ := h
 have k : ∀ (V : World) (i j : Nat) (z : Value), (V.setCell ⟨x, i, none⟩ z).cell? ⟨g, j, none⟩ = V.cell? ⟨g, j, none⟩ := fun V i j z => World.cell?_setCell_other _ _ _ _ (fun e => hne (congrArg Addr.block e))
 refine ⟨by simpa using h0, ?_, ?_, ?_, ?_⟩ <;> rw [k, k, k, k] <;> assumption
theorem Box4.put {W : World} {g x : Nat} {v : Sem.Ver} (h : Box4 W g v) (hne : x ≠ g) (p q r s : Value) :
 Box4 ((((W.setCell ⟨x, 0, none⟩ p).setCell ⟨x, 1, none⟩ q).setCell ⟨x, 2, none⟩ r).setCell ⟨x, 3, none⟩ s) g v := by
 obtain ⟨h1, f0, f1, f2, f3⟩ := h
 exact ⟨h1.put hne p q r s, by simp [go_sem, f0], by simp [go_sem, f1], by simp [go_sem, f2], by simp [go_sem, f3]⟩
def parseR (o : Option Sem.Ver) : Value := match o with
 | some v => .tuple #[verV v, .int .i64 0]
 | none => .tuple #[verV ⟨0, 0, 0, []⟩, .int .i64 40]
def tl (t : Nat × Nat × Nat) : List Value := [.int .i64 t.1, .int .i64 t.2.1, .int .i64 t.2.2]
theorem bel4 {w W : World} {x0 x1 x2 x3 : Value} (h : Below w.heap.size w W) : Below w.heap.size w ((((W.setCell ⟨w.heap.size, 0, none⟩ x0).setCell ⟨w.heap.size, 1, none⟩ x1).setCell ⟨w.heap.size, 2, none⟩ x2).setCell ⟨w.heap.size, 3, none⟩ x3) :=
 (((h.setCell (p := ⟨w.heap.size, 0, none⟩) (Nat.le_refl _) _).setCell (p := ⟨w.heap.size, 1, none⟩) (Nat.le_refl _) _).setCell (p := ⟨w.heap.size, 2, none⟩) (Nat.le_refl _) _).setCell (p := ⟨w.heap.size, 3, none⟩) (Nat.le_refl _) _
def Arr3 (W : World) (g : Nat) (x0 x1 x2 : Int) : Prop := g < W.heap.size /\ W.cell? ⟨g, 0, none⟩ = some (.int .i64 x0) /\ W.cell? ⟨g, 1, none⟩ = some (.int .i64 x1) /\ W.cell? ⟨g, 2, none⟩ = some (.int .i64 x2) /\
 W.frozen? ⟨g, 0, none⟩ = false /\ W.frozen? ⟨g, 1, none⟩ = false /\ W.frozen? ⟨g, 2, none⟩ = false
theorem Arr3.keep {W W' : World} {g B : Nat} {x0 x1 x2 : Int} (h : Arr3 W g x0 x1 x2) (hg : g < B) (hb : Below B W W') : Arr3 W' g x0 x1 x2 := by
 obtain ⟨h0, h1, h2, h3, f0, f1, f2⟩ := h
 exact ⟨Nat.lt_of_lt_of_le h0 hb.size, (hb.cell (p := ⟨g, 0, none⟩) hg).trans h1, (hb.cell (p := ⟨g, 1, none⟩) hg).trans h2, (hb.cell (p := ⟨g, 2, none⟩) hg).trans h3,
  (hb.frozen (p := ⟨g, 0, none⟩) hg).trans f0, (hb.frozen (p := ⟨g, 1, none⟩) hg).trans f1, (hb.frozen (p := ⟨g, 2, none⟩) hg).trans f2⟩
theorem Arr3.set0 {W : World} {g : Nat} {x0 x1 x2 : Int} (h : Arr3 W g x0 x1 x2) (x : Int) : Arr3 (W.setCell ⟨g, 0, none⟩ (.int .i64 x)) g x x1 x2 := by
 obtain ⟨h0, h1, h2, h3, f0, f1, f2⟩ := h
 exact ⟨by simpa using h0, by simp [go_sem, h1], by simp [go_sem, h2], by simp [go_sem, h3], by simp [go_sem, f0], by simp [go_sem, f1], by simp [go_sem, f2]⟩
theorem Arr3.set1 {W : World} {g : Nat} {x0 x1 x2 : Int} (h : Arr3 W g x0 x1 x2) (x : Int) : Arr3 (W.setCell ⟨g, 1, none⟩ (.int .i64 x)) g x0 x x2 := by
 obtain ⟨h0, h1, h2, h3, f0, f1, f2⟩ := h
 exact ⟨by simpa using h0, by simp [go_sem, h1], by simp [go_sem, h2], by simp [go_sem, h3], by simp [go_sem, f0], by simp [go_sem, f1], by simp [go_sem, f2]⟩
theorem Arr3.set2 {W : World} {g : Nat} {x0 x1 x2 : Int} (h : Arr3 W g x0 x1 x2) (x : Int) : Arr3 (W.setCell ⟨g, 2, none⟩ (.int .i64 x)) g x0 x1 x := by
 obtain ⟨h0, h1, h2, h3, f0, f1, f2⟩ := h
 exact ⟨by simpa using h0, by simp [go_sem, h1], by simp [go_sem, h2], by simp [go_sem, h3], by simp [go_sem, f0], by simp [go_sem, f1], by simp [go_sem, f2]⟩
theorem Z8Y {ps : List (List UInt8)} (h : ps.length = 3) : ∃ p0 p1 p2, ps = [p0, p1, p2] := by
 match ps, h with
 | [a, b, c], _ => exact ⟨a, b, c, rfl⟩
def Read (p0 p1 p2 : List UInt8) (i : Value) (x0 x1 x2 : Int) : Prop := i = .int .i64 0 \/ (i = .int .i64 1 /\ Lib.atoiAll p0 = .ok x0) \/ (i = .int .i64 2 /\ Lib.atoiAll p0 = .ok x0 /\ Lib.atoiAll p1 = .ok x1) \/ (i = .int .i64 3 /\ Lib.atoiAll p0 = .ok x0 /\ Lib.atoiAll p1 = .ok x1 /\ Lib.atoiAll p2 = .ok x2)
theorem Z4k (p : List UInt8) : (∃ v, Lib.atoiAll p = .ok v) \/ (∀ v, Lib.atoiAll p ≠ .ok v) := by
 rcases h : Lib.atoiAll p with v | _ | _
 {exact Or.inl ⟨v, rfl⟩}
 {exact Or.inr (fun v h => by cases h)}
 {exact Or.inr (fun v h => by cases h)}
theorem Zat (l : List UInt8) (hl : l.length <= 140737488351232) (w : World) (hg : Globs w) :
 Y9 188 #[.string ⟨l.toArray⟩] w (parseR (Sem.parse l)) := by
 obtain ⟨hc1, hc2, _⟩ := Sem.Z6Z 45 l
 have HC := Y1 (@Sem.Zar l)
 have HB := Y1 (fun (p0 p1 p2 : List UInt8) => Sem.Zet (l := l) (p0 := p0) (p1 := p1) (p2 := p2))
 have HM := Y1 (fun (p0 p1 p2 : List UInt8) (x0 x1 x2 : Int) => Sem.Zct (l := l) (p0 := p0) (p1 := p1) (p2 := p2) (x0 := x0) (x1 := x1) (x2 := x2))
 have hcut : ∀ w, Y9 169 #[.string ⟨l.toArray⟩, .string ⟨#[45]⟩] w (.tuple #[.string ⟨(Sem.cut 45 l).1.toArray⟩, .string ⟨(Sem.cut 45 l).2.1.toArray⟩, .bool (Sem.cut 45 l).2.2]) :=
  fun w => Z8W ⟨l.toArray⟩ 45 (by rw [Z04]; omega) w
 rcases hcd : Sem.cut 45 l with ⟨core, pre, m⟩
 rw [hcd] at hc1 hc2 hcut HC HB HM
 simp only at hc1 hc2 hcut HB HM
 clear hcd
 go_enter Tryz.func188, Tryz.ntmps188
 go_wp2_with fail
 refine (hcut _).mono ?_
 rintro e w1 ⟨rfl, hb1⟩
 go_wp2_with fail
 refine (Zaq core (by omega) _).mono ?_
 rintro e w2 ⟨g, N, rfl, hS, hb2⟩
 have hbx := (ZbE w ⟨0, 0, 0, []⟩).keep (B := w.heap.size + 1) (by omega) ((hb1.mono (by simp)).trans (hb2.mono (by have := hb1.size; simp at this; omega)))
 have hbw : Below w.heap.size w w2 := Z00 (Z00 (Z02 w (.cells #[.int .i64 0, .int .i64 0, .int .i64 0, .string ⟨#[]⟩] 204)) hb1) hb2
 have hg2 := hg.next hbw
 have hsh : ∀ p ∈ Sem.split (min 3 core.length) core, p.length <= 140737488351232 := fun p hp => by have := Sem.Z5E _ _ p hp; omega
 obtain ⟨ps, hps⟩ : ∃ ps, ps = Sem.split (min 3 core.length) core := ⟨_, rfl⟩
 rw [<- hps] at hS hsh HC HB HM ⊢
 clear hps hcut hb1 hb2
 have HBX := Y1 hbx
 by_cases h3 : ps.length = 3
 {obtain ⟨p0, p1, p2, rfl⟩ := Z8Y h3
  have l0 := hsh p0 (by simp)
  have l1 := hsh p1 (by simp)
  have l2 := hsh p2 (by simp)
  have HST : Hid (w2.cell? ⟨g, 0, none⟩ = some (.string ⟨p0.toArray⟩) /\ w2.cell? ⟨g, 1, none⟩ = some (.string ⟨p1.toArray⟩) /\ w2.cell? ⟨g, 2, none⟩ = some (.string ⟨p2.toArray⟩) /\ g < w2.heap.size) := by
   rcases hS with h | ⟨b, off, hA, hlt, hc⟩
   {simp [strs] at h}
   {simp only [Option.some.injEq, Addr.mk.injEq, and_true] at hA
    obtain ⟨rfl, rfl⟩ := hA
    have q0 := hc 0 (by simp [strs])
    have q1 := hc 1 (by simp [strs])
    have q2 := hc 2 (by simp [strs])
    exact Y1 ⟨by simpa [strs] using q0, by simpa [strs] using q1, by simpa [strs] using q2, hlt⟩}
  clear hS hbx h3 hsh HC
  go_wp2_with fail
  go_loopw [30] (fun i wr => ∃ x0 x1 x2 : Int, Read p0 p1 p2 i x0 x1 x2 /\ Arr3 wr w2.heap.size x0 x1 x2 /\ Below w2.heap.size w2 wr) (fun i _ => 3 - (intOf i).toNat)
  case atStart => exact ⟨0, 0, 0, Or.inl rfl, ⟨by simp, by simp [go_sem], by simp [go_sem], by simp [go_sem], by simp [go_sem], by simp [go_sem], by simp [go_sem]⟩, Z02 _ _⟩
  case round =>
   obtain ⟨x0, x1, x2, hread, hA, hb⟩ := hrel
   obtain ⟨z0, z1, z2, zg⟩ := HST.out
   rw [<- (Z0n (o := 0) hb zg).1] at z0
   rw [<- (Z0n (o := 1) hb zg).1] at z1
   rw [<- (Z0n (o := 2) hb zg).1] at z2
   rcases hread with rfl | ⟨rfl, q0⟩ | ⟨rfl, q0, q1⟩ | ⟨rfl, q0, q1, q2⟩
   {rcases Z4k p0 with ⟨v, hv⟩ | hv
    {go_wp2_with fail
     refine (Z71 p0 (by omega) v hv _).mono ?_
     rintro e w3 ⟨rfl, hb3⟩
     have hb4 := Z00 hb hb3
     have hA3 := hA.keep (B := wr.heap.size) hA.1 hb3
     have HA3 := Y1 hA3
     obtain ⟨_, t0, t1, t2, s0, s1, s2⟩ := hA3
     clear z0 z1 z2
     go_wp2
     go_roundw
     case rel => exact ⟨v, x1, x2, Or.inr (Or.inl ⟨rfl, hv⟩), HA3.out.set0 v, hb4.setCell (p := ⟨w2.heap.size, 0, none⟩) (Nat.le_refl _) _⟩
     case measure => simp [intOf]}
    {have HN := Y1 (HB.out p0 p1 p2 rfl (Or.inl hv))
     have hgr := hg2.next hb
     go_wp2_with fail
     refine (Z5Z p0 (by omega) hv _ hgr).mono ?_
     rintro e w3 ⟨z, N3, rfl, hb3⟩
     have hb4 := Z00 hb hb3
     have hbw4 := Z00 hbw hb4
     obtain ⟨⟨_, r0, r1, r2, r3⟩, f0, f1, f2, f3⟩ := HBX.out.keep (B := w2.heap.size) HBX.out.1.1 hb4
     clear z0 z1 z2
     go_wp2
     refine bodyPost_ret (v := .tuple #[.agg #[.int .i64 0, .int .i64 0, .int .i64 0, .string ByteArray.empty], .int .i64 40]) (by simp [results, Tryz.results188, go_sem, r0, r1, r2, r3]; rfl) rfl ?_
     exact ⟨by rw [HN.out]; rfl, bel4 hbw4⟩}}
   {rcases Z4k p1 with ⟨v, hv⟩ | hv
    {go_wp2_with fail
     refine (Z71 p1 (by omega) v hv _).mono ?_
     rintro e w3 ⟨rfl, hb3⟩
     have hb4 := Z00 hb hb3
     have hA3 := hA.keep (B := wr.heap.size) hA.1 hb3
     have HA3 := Y1 hA3
     obtain ⟨_, t0, t1, t2, s0, s1, s2⟩ := hA3
     clear z0 z1 z2
     go_wp2
     go_roundw
     case rel => exact ⟨x0, v, x2, Or.inr (Or.inr (Or.inl ⟨rfl, q0, hv⟩)), HA3.out.set1 v, hb4.setCell (p := ⟨w2.heap.size, 1, none⟩) (Nat.le_refl _) _⟩
     case measure => simp [intOf]}
    {have HN := Y1 (HB.out p0 p1 p2 rfl (Or.inr (Or.inl hv)))
     have hgr := hg2.next hb
     go_wp2_with fail
     refine (Z5Z p1 (by omega) hv _ hgr).mono ?_
     rintro e w3 ⟨z, N3, rfl, hb3⟩
     have hb4 := Z00 hb hb3
     have hbw4 := Z00 hbw hb4
     obtain ⟨⟨_, r0, r1, r2, r3⟩, f0, f1, f2, f3⟩ := HBX.out.keep (B := w2.heap.size) HBX.out.1.1 hb4
     clear z0 z1 z2
     go_wp2
     refine bodyPost_ret (v := .tuple #[.agg #[.int .i64 0, .int .i64 0, .int .i64 0, .string ByteArray.empty], .int .i64 40]) (by simp [results, Tryz.results188, go_sem, r0, r1, r2, r3]; rfl) rfl ?_
     exact ⟨by rw [HN.out]; rfl, bel4 hbw4⟩}}
   {rcases Z4k p2 with ⟨v, hv⟩ | hv
    {go_wp2_with fail
     refine (Z71 p2 (by omega) v hv _).mono ?_
     rintro e w3 ⟨rfl, hb3⟩
     have hb4 := Z00 hb hb3
     have hA3 := hA.keep (B := wr.heap.size) hA.1 hb3
     have HA3 := Y1 hA3
     obtain ⟨_, t0, t1, t2, s0, s1, s2⟩ := hA3
     clear z0 z1 z2
     go_wp2
     go_roundw
     case rel => exact ⟨x0, x1, v, Or.inr (Or.inr (Or.inr ⟨rfl, q0, q1, hv⟩)), HA3.out.set2 v, hb4.setCell (p := ⟨w2.heap.size, 2, none⟩) (Nat.le_refl _) _⟩
     case measure => simp [intOf]}
    {have HN := Y1 (HB.out p0 p1 p2 rfl (Or.inr (Or.inr hv)))
     have hgr := hg2.next hb
     go_wp2_with fail
     refine (Z5Z p2 (by omega) hv _ hgr).mono ?_
     rintro e w3 ⟨z, N3, rfl, hb3⟩
     have hb4 := Z00 hb hb3
     have hbw4 := Z00 hbw hb4
     obtain ⟨⟨_, r0, r1, r2, r3⟩, f0, f1, f2, f3⟩ := HBX.out.keep (B := w2.heap.size) HBX.out.1.1 hb4
     clear z0 z1 z2
     go_wp2
     refine bodyPost_ret (v := .tuple #[.agg #[.int .i64 0, .int .i64 0, .int .i64 0, .string ByteArray.empty], .int .i64 40]) (by simp [results, Tryz.results188, go_sem, r0, r1, r2, r3]; rfl) rfl ?_
     exact ⟨by rw [HN.out]; rfl, bel4 hbw4⟩}}
   {have HE := Y1 (HM.out p0 p1 p2 x0 x1 x2 rfl q0 q1 q2)
    clear z0 z1 z2 q0 q1 q2
    have HA := Y1 hA
    obtain ⟨_, t0, t1, t2, _, _, _⟩ := hA
    go_wp2_with fail
    have hlp : pre.length <= 140737488351232 := by omega
    have HVB := Y1 (ZbE wr ⟨x0, x1, x2, pre⟩)
    have hal := Z02 wr (.cells #[.int .i64 x0, .int .i64 x1, .int .i64 x2, .string ⟨pre.toArray⟩] 204)
    refine (Zex ⟨x0, x1, x2, pre⟩ hlp _ ((hg2.next hb).next hal)).mono ?_
    rintro e w3 ⟨he, hb3⟩
    have hb5 := Z00 hb (Z00 hal hb3)
    have hbw5 := Z00 hbw hb5
    have HV3 := Y1 (HVB.out.keep (B := wr.heap.size + 1) (by omega) (hb3.mono (by simp)))
    have HR3 := Y1 (HBX.out.keep (B := w2.heap.size) HBX.out.1.1 hb5)
    clear t0 t1 t2
    cases hmay : Sem.may ⟨x0, x1, x2, pre⟩
    {have HN : Hid (Sem.parse l = none) := Y1 (by rw [HE.out, if_neg (by rw [hmay]; simp)])
     rw [showR, hmay, if_neg (by simp)] at he
     subst he
     obtain ⟨⟨_, r0, r1, r2, r3⟩, f0, f1, f2, f3⟩ := HR3.out
     clear hal hb3
     go_wp2
     refine bodyPost_ret (v := .tuple #[.agg #[.int .i64 0, .int .i64 0, .int .i64 0, .string ByteArray.empty], .int .i64 40]) (by simp [results, Tryz.results188, go_sem, r0, r1, r2, r3]; rfl) rfl ?_
     exact ⟨by rw [HN.out]; rfl, bel4 hbw5⟩}
    {rw [showR, hmay, if_pos rfl] at he
     by_cases ht : Sem.text ⟨x0, x1, x2, pre⟩ = l
     {have HN : Hid (Sem.parse l = some ⟨x0, x1, x2, pre⟩) := Y1 (by rw [HE.out, if_pos ⟨hmay, ht⟩])
      rw [ht] at he
      subst he
      have hll : (l == l) = true := by simp
      clear hal hb3 ht
      go_wp2_with fail
      refine (Z6n pre (by omega) _).mono ?_
      rintro e w4 ⟨rfl, hb4⟩
      have hbw6 := Z00 hbw5 hb4
      obtain ⟨⟨_, v0, v1, v2, v3⟩, _, _, _, y3⟩ := HV3.out.keep (B := w3.heap.size) HV3.out.1.1 hb4
      obtain ⟨⟨_, r0, r1, r2, r3⟩, f0, f1, f2, f3⟩ := HR3.out.keep (B := w3.heap.size) HR3.out.1.1 hb4
      have hne : wr.heap.size ≠ w.heap.size := by have := hb.size; have := HBX.out.1.1; omega
      simp only at v0 v1 v2 v3
      clear hb4 hll
      go_wp2
      have hbw7 : Below w.heap.size w (w4.setCell ⟨wr.heap.size, 3, none⟩ (.string ⟨pre.toArray⟩)) := hbw6.setCell (p := ⟨wr.heap.size, 3, none⟩) (by show w.heap.size <= wr.heap.size; have := hbw.size; have := hb.size; omega) _
      refine bodyPost_ret (v := .tuple #[.agg #[.int .i64 x0, .int .i64 x1, .int .i64 x2, .string ⟨pre.toArray⟩], .int .i64 0]) (by simp [results, Tryz.results188, go_sem, r0, r1, r2, r3]) rfl ?_
      exact ⟨by rw [HN.out]; rfl, bel4 hbw7⟩}
     {have HN : Hid (Sem.parse l = none) := Y1 (by rw [HE.out, if_neg (fun h => ht h.2)])
      subst he
      have hll : (Sem.text ⟨x0, x1, x2, pre⟩ == l) = false := by simpa using ht
      obtain ⟨⟨_, r0, r1, r2, r3⟩, f0, f1, f2, f3⟩ := HR3.out
      clear hal hb3 ht
      go_wp2
      refine bodyPost_ret (v := .tuple #[.agg #[.int .i64 0, .int .i64 0, .int .i64 0, .string ByteArray.empty], .int .i64 40]) (by simp [results, Tryz.results188, go_sem, r0, r1, r2, r3]; rfl) rfl ?_
      exact ⟨by rw [HN.out]; rfl, bel4 hbw5⟩}}}}
 {have HN := Y1 (HC.out h3)
  obtain ⟨⟨_, r0, r1, r2, r3⟩, f0, f1, f2, f3⟩ := hbx
  have hd : ((ps.length : Int) != 3) = true := by rw [bne_iff_ne]; omega
  go_wp2
  refine bodyPost_ret (v := .tuple #[.agg #[.int .i64 0, .int .i64 0, .int .i64 0, .string ByteArray.empty], .int .i64 40]) (by simp [results, Tryz.results188, go_sem, r0, r1, r2, r3]; rfl) rfl ?_
  exact ⟨by rw [HN.out]; rfl, bel4 hbw⟩}
theorem Zcy (s : ByteArray) (hs : s.size <= 140737488351232) (w : World) (hg : Globs w) :
 Y9 188 #[.string s] w (parseR (Sem.parse s.data.toList)) := by
 have h := Zat s.data.toList (by rw [<- Lib.size_eq]; exact hs) w hg
 rw [<- Zgs s] at h
 exact h
def kindV (l : List UInt8) : Value := match Lex.kindR l with
 | some k => .tuple #[.int .i64 k, .bool true]
 | none => .tuple #[.int .i64 0, .bool false]
theorem Z4S (l : List UInt8) (hl : l.length <= 140737488351232) (u : Sem.Ver) (e0 : Int) (hp : parseR (Sem.parse l) = .tuple #[verV u, .int .i64 e0]) (w : World) (hg : Globs w) :
 Y9 184 #[.string ⟨l.toArray⟩] w (.bool (e0 == 0)) := by
 obtain ⟨a, b, c, p⟩ := u
 have HP : Hid (parseR (Sem.parse l) = .tuple #[.agg #[.int .i64 a, .int .i64 b, .int .i64 c, .string ⟨p.toArray⟩], .int .i64 e0]) := Y1 hp
 clear hp
 go_enter Tryz.func184, Tryz.ntmps184
 go_wp2_with fail
 refine (Zcy ⟨l.toArray⟩ (by rw [Z04]; exact hl) _ hg).mono ?_
 rintro e w1 ⟨he, hb1⟩
 rw [show (⟨l.toArray⟩ : ByteArray).data.toList = l from rfl, HP.out] at he
 subst he
 go_wp2
 go_ret
 exact ⟨rfl, Z08 hb1 _⟩
theorem Z4s (l : List UInt8) (hl : l.length <= 140737488351232) (w : World) (hg : Globs w) :
 Y9 184 #[.string ⟨l.toArray⟩] w (.bool (Sem.parse l).isSome) := by
 rcases hp : Sem.parse l with _ | v
 {exact Z4S l hl ⟨0, 0, 0, []⟩ 40 (by rw [hp]; rfl) w hg}
 {exact Z4S l hl v 0 (by rw [hp]; rfl) w hg}
theorem Zcz (l : List UInt8) (hl : l.length <= 140737488351232) (w : World) (hg : Globs w) :
 Y9 175 #[.string ⟨l.toArray⟩] w (kindV l) := by
 have HK : Hid (Lex.kindR l = if Lex.isWord l then some 5 else if Lex.isName l then some 1 else if Lex.isUpper l then some 2 else if Lex.isSign l then some 6 else if Lex.number l then some 3 else if (Sem.parse l).isSome then some 7 else none) := Y1 rfl
 cases h0 : Lex.isWord l
 {cases h1 : Lex.isName l
  {cases h2 : Lex.isUpper l
   {cases h3 : Lex.isSign l
    {cases h4 : Lex.number l
     {cases h5 : (Sem.parse l).isSome
      {have HV : Hid (kindV l = .tuple #[.int .i64 0, .bool false]) := Y1 (by
        have : Lex.kindR l = none := by rw [HK.out, h0, h1, h2, h3, h4, h5]; rfl
        unfold kindV; rw [this])
       go_enter Tryz.func175, Tryz.ntmps175
       go_wp2_with fail
       refine (Z1u l _).mono ?_
       rintro e w2 ⟨rfl, rfl⟩
       rw [h0]
       go_wp2_with fail
       refine (Z0L l (by omega) _).mono ?_
       rintro e w2 ⟨rfl, rfl⟩
       rw [h1]
       go_wp2_with fail
       refine (Z1f l (by omega) _).mono ?_
       rintro e w2 ⟨rfl, rfl⟩
       rw [h2]
       go_wp2_with fail
       refine (Z1V l _).mono ?_
       rintro e w2 ⟨rfl, rfl⟩
       rw [h3]
       go_wp2_with fail
       refine (Z3i l (by omega) _).mono ?_
       rintro e w2 ⟨rfl, rfl⟩
       rw [h4]
       go_wp2_with fail
       refine (Z4s l hl _ hg).mono ?_
       rintro e w2 ⟨rfl, hb⟩
       rw [h5]
       go_wp2
       go_ret2
       exact ⟨by rw [HV.out]; rfl, hb⟩}
      {have HV : Hid (kindV l = .tuple #[.int .i64 7, .bool true]) := Y1 (by
        have : Lex.kindR l = some 7 := by rw [HK.out, h0, h1, h2, h3, h4, h5]; rfl
        unfold kindV; rw [this])
       go_enter Tryz.func175, Tryz.ntmps175
       go_wp2_with fail
       refine (Z1u l _).mono ?_
       rintro e w2 ⟨rfl, rfl⟩
       rw [h0]
       go_wp2_with fail
       refine (Z0L l (by omega) _).mono ?_
       rintro e w2 ⟨rfl, rfl⟩
       rw [h1]
       go_wp2_with fail
       refine (Z1f l (by omega) _).mono ?_
       rintro e w2 ⟨rfl, rfl⟩
       rw [h2]
       go_wp2_with fail
       refine (Z1V l _).mono ?_
       rintro e w2 ⟨rfl, rfl⟩
       rw [h3]
       go_wp2_with fail
       refine (Z3i l (by omega) _).mono ?_
       rintro e w2 ⟨rfl, rfl⟩
       rw [h4]
       go_wp2_with fail
       refine (Z4s l hl _ hg).mono ?_
       rintro e w2 ⟨rfl, hb⟩
       rw [h5]
       go_wp2
       go_ret2
       exact ⟨by rw [HV.out]; rfl, hb⟩}}
     {have HV : Hid (kindV l = .tuple #[.int .i64 3, .bool true]) := Y1 (by
       have : Lex.kindR l = some 3 := by rw [HK.out, h0, h1, h2, h3, h4]; rfl
       unfold kindV; rw [this])
      go_enter Tryz.func175, Tryz.ntmps175
      go_wp2_with fail
      refine (Z1u l _).mono ?_
      rintro e w2 ⟨rfl, rfl⟩
      rw [h0]
      go_wp2_with fail
      refine (Z0L l (by omega) _).mono ?_
      rintro e w2 ⟨rfl, rfl⟩
      rw [h1]
      go_wp2_with fail
      refine (Z1f l (by omega) _).mono ?_
      rintro e w2 ⟨rfl, rfl⟩
      rw [h2]
      go_wp2_with fail
      refine (Z1V l _).mono ?_
      rintro e w2 ⟨rfl, rfl⟩
      rw [h3]
      go_wp2_with fail
      refine (Z3i l (by omega) _).mono ?_
      rintro e w2 ⟨rfl, rfl⟩
      rw [h4]
      go_wp2
      go_ret2
      exact ⟨by rw [HV.out]; rfl, Below.refl _ _⟩}}
    {have HV : Hid (kindV l = .tuple #[.int .i64 6, .bool true]) := Y1 (by
      have : Lex.kindR l = some 6 := by rw [HK.out, h0, h1, h2, h3]; rfl
      unfold kindV; rw [this])
     go_enter Tryz.func175, Tryz.ntmps175
     go_wp2_with fail
     refine (Z1u l _).mono ?_
     rintro e w2 ⟨rfl, rfl⟩
     rw [h0]
     go_wp2_with fail
     refine (Z0L l (by omega) _).mono ?_
     rintro e w2 ⟨rfl, rfl⟩
     rw [h1]
     go_wp2_with fail
     refine (Z1f l (by omega) _).mono ?_
     rintro e w2 ⟨rfl, rfl⟩
     rw [h2]
     go_wp2_with fail
     refine (Z1V l _).mono ?_
     rintro e w2 ⟨rfl, rfl⟩
     rw [h3]
     go_wp2
     go_ret2
     exact ⟨by rw [HV.out]; rfl, Below.refl _ _⟩}}
   {have HV : Hid (kindV l = .tuple #[.int .i64 2, .bool true]) := Y1 (by
     have : Lex.kindR l = some 2 := by rw [HK.out, h0, h1, h2]; rfl
     unfold kindV; rw [this])
    go_enter Tryz.func175, Tryz.ntmps175
    go_wp2_with fail
    refine (Z1u l _).mono ?_
    rintro e w2 ⟨rfl, rfl⟩
    rw [h0]
    go_wp2_with fail
    refine (Z0L l (by omega) _).mono ?_
    rintro e w2 ⟨rfl, rfl⟩
    rw [h1]
    go_wp2_with fail
    refine (Z1f l (by omega) _).mono ?_
    rintro e w2 ⟨rfl, rfl⟩
    rw [h2]
    go_wp2
    go_ret2
    exact ⟨by rw [HV.out]; rfl, Below.refl _ _⟩}}
  {have HV : Hid (kindV l = .tuple #[.int .i64 1, .bool true]) := Y1 (by
    have : Lex.kindR l = some 1 := by rw [HK.out, h0, h1]; rfl
    unfold kindV; rw [this])
   go_enter Tryz.func175, Tryz.ntmps175
   go_wp2_with fail
   refine (Z1u l _).mono ?_
   rintro e w2 ⟨rfl, rfl⟩
   rw [h0]
   go_wp2_with fail
   refine (Z0L l (by omega) _).mono ?_
   rintro e w2 ⟨rfl, rfl⟩
   rw [h1]
   go_wp2
   go_ret2
   exact ⟨by rw [HV.out]; rfl, Below.refl _ _⟩}}
 {have HV : Hid (kindV l = .tuple #[.int .i64 5, .bool true]) := Y1 (by
   have : Lex.kindR l = some 5 := by rw [HK.out, h0]; rfl
   unfold kindV; rw [this])
  go_enter Tryz.func175, Tryz.ntmps175
  go_wp2_with fail
  refine (Z1u l _).mono ?_
  rintro e w2 ⟨rfl, rfl⟩
  rw [h0]
  go_wp2
  go_ret2
  exact ⟨by rw [HV.out]; rfl, Below.refl _ _⟩}
structure ScanAt (W : World) (g : Nat) (s : List UInt8) (i : Nat) : Prop where
 lt : g < W.heap.size
 c0 : W.cell? ⟨g, 0, none⟩ = some (.string ⟨s.toArray⟩)
 c1 : W.cell? ⟨g, 1, none⟩ = some (.int .i64 (i : Int))
 f1 : W.frozen? ⟨g, 1, none⟩ = false
 f2 : W.frozen? ⟨g, 2, none⟩ = false
theorem ScanAt.keep {W W' : World} {g B i : Nat} {s : List UInt8} (h : ScanAt W g s i) (hg : g < B) (hb : Below B W W') : ScanAt W' g s i :=
 ⟨Nat.lt_of_lt_of_le h.lt hb.size, (hb.cell (p := ⟨g, 0, none⟩) hg).trans h.c0, (hb.cell (p := ⟨g, 1, none⟩) hg).trans h.c1, (hb.frozen (p := ⟨g, 1, none⟩) hg).trans h.f1, (hb.frozen (p := ⟨g, 2, none⟩) hg).trans h.f2⟩
theorem Z0u (w : World) (n : Nat) : Below w.heap.size w (w.drewN n) := Z0k Y2 n
theorem Z6s (g : Nat) (s : List UInt8) (i : Nat) (w : World) (h : ScanAt w g s i) :
 Calls Tryz.prog 159 #[.pointer (some ⟨g, 0, none⟩)] w fun e w' => e = .returned (.bool ((i : Int) == (s.length : Int))) /\ ∃ n, w' = w.drewN n := by
 have hz : (⟨s.toArray⟩ : ByteArray).size = s.length := Z04 _
 obtain ⟨hlt, c0, c1, f1, f2⟩ := h
 go_enter Tryz.func159, Tryz.ntmps159
 go_wp2_with fail
 go_quiet (fail)
 go_wp2
 go_ret
 exact ⟨rfl, _, rfl⟩
theorem Z3L (g : Nat) (s : List UInt8) (i : Nat) (hi : i < s.length) (w : World) (h : ScanAt w g s i) :
 Calls Tryz.prog 160 #[.pointer (some ⟨g, 0, none⟩)] w fun e w' => e = .returned (.int .u8 (s[i]'hi).toNat) /\ ∃ n, w' = w.drewN n := by
 have hz : (⟨s.toArray⟩ : ByteArray).size = s.length := Z04 _
 obtain ⟨c, hc⟩ : ∃ c, c = s[i]'hi := ⟨_, rfl⟩
 have hidx : ∀ W, (Instr.index 9 (.string ⟨s.toArray⟩) (.int .i64 (i : Int))).run Tryz.prog W = .ok (.int .u8 c.toNat) W := fun W => by
  rw [hc]; exact Z0K ⟨s.toArray⟩ i (by omega) W
 rw [<- hc]
 clear hc
 have hi1 : (i : Int) < (s.length : Int) := by omega
 obtain ⟨hlt, c0, c1, f1, f2⟩ := h
 go_enter Tryz.func160, Tryz.ntmps160
 go_wp2_with fail
 go_quiet (fail)
 go_wp2
 go_ret
 exact ⟨rfl, _, rfl⟩
theorem Z6t (g : Nat) (s : List UInt8) (i : Nat) (hi : i <= s.length) (w : World) (h : ScanAt w g s i) :
 Calls Tryz.prog 170 #[.pointer (some ⟨g, 0, none⟩)] w fun e w' => e = .returned (.string ⟨(s.drop i).toArray⟩) /\ ∃ n, w' = w.drewN n := by
 have hz : (⟨s.toArray⟩ : ByteArray).size = s.length := Z04 _
 have hsl : ∀ W, (Instr.slice 9 (.string ⟨s.toArray⟩) (some (.int .i64 (i : Int))) none none).run Tryz.prog W = .ok (.string ⟨(s.drop i).toArray⟩) W := fun W => Z1T (W := W) ⟨s.toArray⟩ i (by omega)
 have hi1 : (i : Int) <= (s.length : Int) := by omega
 obtain ⟨hlt, c0, c1, f1, f2⟩ := h
 go_enter Tryz.func170, Tryz.ntmps170
 go_wp2_with fail
 go_quiet (fail)
 go_wp2
 go_ret
 exact ⟨rfl, _, rfl⟩
theorem Z1W (g : Nat) (s : List UInt8) (i n : Nat) (hi : i <= s.length) (hs : s.length <= 1000000) (hn : n <= 1000000) (w : World) (h : ScanAt w g s i) :
 Calls Tryz.prog 165 #[.pointer (some ⟨g, 0, none⟩), .int .i64 (n : Int)] w fun e w' => e = .returned (.string ⟨((s.drop i).take n).toArray⟩) /\ ∃ n, w' = w.drewN n := by
 have hz : (⟨s.toArray⟩ : ByteArray).size = s.length := Z04 _
 have hsl : ∀ (k : Int), (i : Int) <= k -> k <= s.length -> ∀ W, (Instr.slice 9 (.string ⟨s.toArray⟩) (some (.int .i64 (i : Int))) (some (.int .i64 k)) none).run Tryz.prog W = .ok (.string ⟨((s.drop i).take (k.toNat - i)).toArray⟩) W := fun k h1 h2 W => Z1D ⟨s.toArray⟩ i k h1 (by omega) W
 have hw : IntKind.i64.wrap ((i : Int) + (n : Int)) = (i : Int) + (n : Int) := IntWalk.i64_in _ (by omega)
 obtain ⟨hlt, c0, c1, f1, f2⟩ := h
 by_cases hl : i + n <= s.length
 {have hm : min ((i : Int) + n) (s.length : Int) = (i : Int) + n := by omega
  have h1 := hsl ((i : Int) + n) (by omega) (by omega)
  have e : (((i : Int) + n).toNat - i) = n := by omega
  rw [e] at h1
  have hle : (i : Int) + n <= (s.length : Int) := by omega
  clear hsl e
  go_enter Tryz.func165, Tryz.ntmps165
  go_wp2_with fail
  go_quiet (fail)
  go_wp2
  go_ret
  exact ⟨rfl, _, rfl⟩}
 {have hm : min ((i : Int) + n) (s.length : Int) = (s.length : Int) := by omega
  have h1 := hsl (s.length : Int) (by omega) (by omega)
  have e : ((s.drop i).take ((s.length : Int).toNat - i)) = (s.drop i).take n := by
   rw [List.take_of_length_le (by rw [List.length_drop]; omega), List.take_of_length_le (by rw [List.length_drop]; omega)]
  rw [e] at h1
  have hle : ¬ (i : Int) + n <= (s.length : Int) := by omega
  clear hsl e
  go_enter Tryz.func165, Tryz.ntmps165
  go_wp2_with fail
  go_quiet (fail)
  go_wp2
  go_ret
  exact ⟨rfl, _, rfl⟩}
end Go.Proofs.YtnkdedejfonbmaaGreatDoor
