/- The program's Check, where a Pre is looked at part by part. -/
import Derived.Test.YtifblpbikngjeaaDoorSemCheckOwn
namespace Go.Proofs.YtifblpbikngjeaaDoor
open Go.RowKit
attribute [local go_sem] Oper.semAt_some
set_option linter.unusedVariables false

set_option maxRecDepth 100000 in
set_option maxHeartbeats 4000000 in
theorem check_parts (a b c : Int) (p : List UInt8) (hp : p.length ≤ 24) (hz : p ≠ []) (a1 : 0 ≤ a) (a2 : a ≤ 999999) (b1 : 0 ≤ b) (b2 : b ≤ 999999) (c1 : 0 ≤ c) (c2 : c ≤ 999999) (w : World) :
    Calls Tryd.prog 16 #[.agg #[.int .i64 a, .int .i64 b, .int .i64 c, .string ⟨p.toArray⟩]] w fun e w' => e = .returned (.int .i64 (chk ⟨a, b, c, p⟩)) ∧ Below w.heap.size w w' := by
  have HE : Hid (chk ⟨a, b, c, p⟩ = if (Sem.parts p).all Sem.part = true then 0 else 40) := Lib.hid (by
    rw [chk]
    have e : Sem.may ⟨a, b, c, p⟩ = (Sem.parts p).all Sem.part := by
      rw [Bool.eq_iff_iff, Sem.may_iff]
      have e2 : Sem.preOk p = (Sem.parts p).all Sem.part := by
        unfold Sem.preOk
        rw [show p.isEmpty = false from by simpa using hz, Bool.false_or]
      rw [e2]
      exact ⟨fun h => h.2.2.2.2, fun h => ⟨⟨a1, a2⟩, ⟨b1, b2⟩, ⟨c1, c2⟩, hp, h⟩⟩
    rw [e])
  have he : p.isEmpty = false := by simpa using hz
  have hsz : (⟨p.toArray⟩ : ByteArray).size = p.length := size_list _
  clear hz
  have da : decide (a < 0) = false := decide_eq_false (by omega)
  have db : decide (b < 0) = false := decide_eq_false (by omega)
  have dc : decide (c < 0) = false := decide_eq_false (by omega)
  have da2 : decide (999999 < a) = false := decide_eq_false (by omega)
  have db2 : decide (999999 < b) = false := decide_eq_false (by omega)
  have dc2 : decide (999999 < c) = false := decide_eq_false (by omega)
  have hx0 := arr3_0 a b c
  have hx1 := arr3_1 a b c
  have hx2 := arr3_2 a b c
  refine (callsIn_wide (n := 6)).1 ?_
  refine callsIn_of_wp_marks Tryd.func16 rfl trivial ?_ rfl
  simp only [Tryd.ntmps16, List.size_toArray, List.length_cons, List.length_nil, Nat.reduceAdd, Nat.reduceSub, Array.replicate_succ, Array.replicate_zero, List.push_toArray, List.append_toArray, List.nil_append, List.cons_append]
  gi_wp2_with fail
  gi_loopw [13] (fun i wr => Far a b c i ∧ wr = (w.alloc (Obj.cells #[Value.int IntKind.i64 a, Value.int IntKind.i64 b, Value.int IntKind.i64 c, Value.string ⟨p.toArray⟩] 23)).alloc (Obj.cells #[Value.int IntKind.i64 0] 24)) (fun i _ => 3 - (intOf i).toNat)
  case atStart => exact ⟨Or.inl rfl, rfl⟩
  case round =>
    obtain ⟨hfar, rfl⟩ := hrel
    rcases hfar with rfl | ⟨rfl, _, _⟩ | ⟨rfl, _, _, _, _⟩ | ⟨rfl, _, _, _, _, _, _⟩
    · gi_wp2
      go_roundw
      case rel => exact ⟨Or.inr (Or.inl ⟨rfl, a1, a2⟩), trivial⟩
      case measure => simp [intOf]
    · gi_wp2
      go_roundw
      case rel => exact ⟨Or.inr (Or.inr (Or.inl ⟨rfl, a1, a2, b1, b2⟩)), trivial⟩
      case measure => simp [intOf]
    · gi_wp2
      go_roundw
      case rel => exact ⟨Or.inr (Or.inr (Or.inr ⟨rfl, a1, a2, b1, b2, c1, c2⟩)), trivial⟩
      case measure => simp [intOf]
    · gi_wp2_with (refine ⟨trivial, ?_⟩; gi_at_call 29; refine (callsIn_wide.2 (seq_walk p _)).mono ?_; rintro e w' ⟨rfl, hS, hb⟩)
      simp only [World.size_alloc] at hS hb
      have hb0 : Below w.heap.size w w' := (below_new (below_one _ _) _).trans (hb.mono (by omega))
      have hc0 : w'.cell? ⟨w.heap.size + 1, 0, none⟩ = some (.int .i64 0) := (hb.cell (p := ⟨w.heap.size + 1, 0, none⟩) (by show w.heap.size + 1 < w.heap.size + 1 + 1; omega)).trans (by simp [go_sem])
      have hf0 : w'.frozen? ⟨w.heap.size + 1, 0, none⟩ = false := (hb.frozen (p := ⟨w.heap.size + 1, 0, none⟩) (by show w.heap.size + 1 < w.heap.size + 1 + 1; omega)).trans (by simp [go_sem])
      clear hb
      refine range_seq 6 (by omega) (w.heap.size + 1 + 1) p rfl hS hp rfl
        (fun pre W => Below w.heap.size w W ∧ W.cell? ⟨w.heap.size + 1, 0, none⟩ = some (.int .i64 0) ∧ W.frozen? ⟨w.heap.size + 1, 0, none⟩ = false ∧ pre.all Sem.part = true)
        (fun pre W => Below w.heap.size w W ∧ W.cell? ⟨w.heap.size + 1, 0, none⟩ = some (.int .i64 40) ∧ pre.all Sem.part = false)
        ?hI ?hIx ⟨hb0, hc0, hf0, rfl⟩
        (fun x => { tmps := #[.agg #[.int .i64 a, .int .i64 b, .int .i64 c, .string ⟨p.toArray⟩], .pointer (some ⟨w.heap.size, 0, none⟩), .pointer (some ⟨w.heap.size + 1, 0, none⟩), undef, u4, .string ⟨x.toArray⟩, .pointer (some ⟨w.heap.size, 0, none⟩), .int .i64 a,
          .pointer (some ⟨w.heap.size, 1, none⟩), .int .i64 b, .pointer (some ⟨w.heap.size, 2, none⟩), .int .i64 c, .agg #[.int .i64 a, .int .i64 b, .int .i64 c], .int .i64 3, .bool false, u15, u16, u17, u18, u19, u20, u21, u22, .pointer (some ⟨w.heap.size, 3, none⟩), .string ⟨p.toArray⟩, .bool false,
          .pointer (some ⟨w.heap.size, 3, none⟩), .string ⟨p.toArray⟩, .int .i64 p.length, .bool (decide ((24 : Int) < p.length)), .pointer (some ⟨w.heap.size, 3, none⟩), .string ⟨p.toArray⟩,
          .func (.func 63) #[] #[.pointer (some ⟨w.heap.size + 1 + 1 + 1, 0, none⟩), .pointer (some ⟨w.heap.size + 1 + 1, 0, none⟩), .pointer (some ⟨w.heap.size + 1 + 1 + 2, 0, none⟩)], .string ⟨x.toArray⟩, undef, undef, undef], defers := [] }) ?hassign ?hbody ?hdone ?hstop
      case hI =>
        rintro pre A B ⟨h1, h2, h3, h4⟩ hb
        exact ⟨h1.trans (hb.mono (by omega)), (hb.cell (p := ⟨w.heap.size + 1, 0, none⟩) (by show w.heap.size + 1 < w.heap.size + 1 + 1; omega)).trans h2, (hb.frozen (p := ⟨w.heap.size + 1, 0, none⟩) (by show w.heap.size + 1 < w.heap.size + 1 + 1; omega)).trans h3, h4⟩
      case hIx =>
        rintro pre A B ⟨h1, h2, h4⟩ hb
        exact ⟨h1.trans (hb.mono (by omega)), (hb.cell (p := ⟨w.heap.size + 1, 0, none⟩) (by show w.heap.size + 1 < w.heap.size + 1 + 1; omega)).trans h2, h4⟩
      case hassign =>
        intro l x W K hK
        gi_wp2
        exact hK
      case hbody =>
        rintro l pre x W ⟨h1, h2, h3, h4⟩ hx
        have hcon := fun W => CallsIn.inRound l (callsIn_wide (n := 6 - 1 - 1 - 1).2 (partMayBe_walk ⟨x.toArray⟩ (by rw [size_list]; omega) W))
        have hq0 : Sem.part (⟨x.toArray⟩ : ByteArray).data.toList = Sem.part x := rfl
        rw [hq0] at hcon
        cases hq : Sem.part x
        · have H4 : Hid ((pre ++ [x]).all Sem.part = false) := Lib.hid (by rw [List.all_append, h4]; simp [hq])
          rw [hq] at hcon
          clear hq hq0 h4
          gi_wp2_with (refine ⟨trivial, ?_⟩; gi_at_call 30; refine (hcon _).mono ?_; rintro e w' ⟨rfl, rfl⟩)
          exact ⟨KeepsOthers.setCell _ _ _, h1.setCell (p := ⟨w.heap.size + 1, 0, none⟩) (by show w.heap.size ≤ w.heap.size + 1; omega) _, World.cell?_setCell_same _ _ _ h2, H4.out⟩
        · have H4 : Hid ((pre ++ [x]).all Sem.part = true) := Lib.hid (by rw [List.all_append, h4]; simp [hq])
          rw [hq] at hcon
          clear hq hq0 h4
          gi_wp2_with (refine ⟨trivial, ?_⟩; gi_at_call 30; refine (hcon _).mono ?_; rintro e w' ⟨rfl, rfl⟩)
          exact ⟨KeepsOthers.refl _, Below.refl _ _, h1, h2, h3, H4.out⟩
      case hdone =>
        rintro D W ⟨h1, h2, h3, h4⟩ hK hD
        have HF : Hid (chk ⟨a, b, c, p⟩ = 0) := Lib.hid (by rw [HE.out, if_pos h4])
        clear h4 hc0 hf0
        gi_wp2
        have hDR : w.heap.size + 1 + 1 + 2 < D := Nat.lt_of_lt_of_le hS.1 hD
        have hK2 : (W.setCell ⟨w.heap.size + 1, 0, none⟩ (.int .i64 0)).heap[D]? = some (.deferred (some [])) := (Below.heap_setCell W ⟨w.heap.size + 1, 0, none⟩ _ D (by show D ≠ w.heap.size + 1; omega)).trans hK
        have hP := below_put (B := w.heap.size + 2) (W := W.setCell ⟨w.heap.size + 1, 0, none⟩ (.int .i64 0)) (l := D) (.deferred none) (by omega)
        have hc5 := (hP.cell (p := ⟨w.heap.size + 1, 0, none⟩) (by show w.heap.size + 1 < w.heap.size + 2; omega)).trans (World.cell?_setCell_same _ _ (.int .i64 0) h2)
        have hB5 : Below w.heap.size w ((W.setCell ⟨w.heap.size + 1, 0, none⟩ (.int .i64 0)).putObj D (.deferred none)) := (h1.setCell (p := ⟨w.heap.size + 1, 0, none⟩) (by show w.heap.size ≤ w.heap.size + 1; omega) _).trans (hP.mono (by omega))
        refine ⟨by simp, .inl ⟨_, _, rfl, run_takeDeferred hK2, ?_⟩⟩
        generalize (W.setCell ⟨w.heap.size + 1, 0, none⟩ (.int .i64 0)).putObj D (.deferred none) = W5 at hc5 hB5 ⊢
        refine ⟨.int .i64 0, by simp [results, Tryd.results16, go_sem, hc5], ?_⟩
        exact ⟨by rw [HF.out], hB5⟩
      case hstop =>
        rintro D pre suf W hps ⟨h1, h2, h4⟩ hK hD
        have HF : Hid (chk ⟨a, b, c, p⟩ = 40) := Lib.hid (by
          rw [HE.out, if_neg]
          rw [← hps, List.all_append, h4]; simp)
        clear h4 hc0 hf0 hps
        gi_wp2
        have hDR : w.heap.size + 1 + 1 + 2 < D := Nat.lt_of_lt_of_le hS.1 hD
        have hP := below_put (B := w.heap.size + 2) (W := W) (l := D) (.deferred none) (by omega)
        have hc5 := (hP.cell (p := ⟨w.heap.size + 1, 0, none⟩) (by show w.heap.size + 1 < w.heap.size + 2; omega)).trans h2
        have hB5 : Below w.heap.size w (W.putObj D (.deferred none)) := h1.trans (hP.mono (by omega))
        refine ⟨by simp, .inl ⟨_, _, rfl, run_takeDeferred hK, ?_⟩⟩
        generalize W.putObj D (.deferred none) = W5 at hc5 hB5 ⊢
        refine ⟨.int .i64 40, by simp [results, Tryd.results16, go_sem, hc5], ?_⟩
        exact ⟨by rw [HF.out], hB5⟩

theorem check_walk (v : Sem.Ver) (hs : v.pre.length ≤ 140737488351232) (w : World) :
    Calls Tryd.prog 16 #[verV v] w fun e w' => e = .returned (.int .i64 (chk v)) ∧ Below w.heap.size w w' := by
  obtain ⟨a, b, c, p⟩ := v
  unfold verV
  simp only at hs
  by_cases hn : (0 ≤ a ∧ a ≤ 999999) ∧ (0 ≤ b ∧ b ≤ 999999) ∧ (0 ≤ c ∧ c ≤ 999999)
  · obtain ⟨⟨a1, a2⟩, ⟨b1, b2⟩, ⟨c1, c2⟩⟩ := hn
    by_cases hz : p = []
    · subst hz; exact check_none a b c a1 a2 b1 b2 c1 c2 w
    · by_cases hp : p.length ≤ 24
      · exact check_parts a b c p hp hz a1 a2 b1 b2 c1 c2 w
      · exact check_long a b c p (by omega) (by omega) a1 a2 b1 b2 c1 c2 w
  · exact check_bad a b c p hn w
end Go.Proofs.YtifblpbikngjeaaDoor
