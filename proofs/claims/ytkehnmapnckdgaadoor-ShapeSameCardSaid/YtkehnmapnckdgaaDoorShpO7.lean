/- The program's Check, Size, Deep, mayBe, Closed of layer 7. -/
import Derived.Test.YtkehnmapnckdgaaDoorShpO6
import Derived.Test.YtkehnmapnckdgaaDoorGO2
namespace Go.Proofs.YtkehnmapnckdgaaDoor
open Go.RowKit Shp
set_option linter.unusedVariables false

/-- What measure tells. -/
def parts7 (m : Nat) (t : Sh) : Int := if m < size t then (m : Int) + 1 else size t
def levels7 (m : Nat) (t : Sh) : Int := if m < size t then 0 else deep t
theorem measure_walk (t : Sh) (q : Ptr) (w : World) (hq : ShAt w w.heap.size q t) :
    Calls Tryd.prog 26 #[.agg #[.int .i64 t.kind, .string ⟨t.of_.toArray⟩, .string ⟨t.name.toArray⟩, .slice q.A t.names.length q.c, .slice q.P t.parts.length q.d]] w fun e w' => e = .returned (.tuple #[.int .i64 (parts7 400 t), .int .i64 (levels7 400 t)]) ∧ Below w.heap.size w w' := by
  unfold parts7 levels7
  by_cases h : 400 < size t
  · rw [if_pos h, if_pos h]; exact measure_over t q w hq h
  · rw [if_neg h, if_neg h]; exact measure_ok t q w hq (by omega)

set_option maxRecDepth 100000 in
theorem oSize_walk (t : Sh) (q : Ptr) (w : World) (hq : ShAt w w.heap.size q t) :
    Calls Tryd.prog 13 #[.agg #[.int .i64 t.kind, .string ⟨t.of_.toArray⟩, .string ⟨t.name.toArray⟩, .slice q.A t.names.length q.c, .slice q.P t.parts.length q.d]] w fun e w' => e = .returned (.int .i64 (sizeTo 400 t : Int)) ∧ Below w.heap.size w w' := by
  have hb0 := below_one w (.cells #[.int .i64 t.kind, .string ⟨t.of_.toArray⟩, .string ⟨t.name.toArray⟩, .slice q.A t.names.length q.c, .slice q.P t.parts.length q.d] 25)
  have hm := measure_walk t q _ (hq.next hb0)
  have HF : Hid (parts7 400 t = (sizeTo 400 t : Int)) := Lib.hid (by unfold parts7 sizeTo; split <;> omega)
  have HB0 := Lib.hid hb0
  generalize parts7 400 t = x at hm HF
  generalize levels7 400 t = y at hm
  obtain ⟨_, ⟨c0, c1, c2, c3, c4⟩, _⟩ := box5_new w t q
  clear hb0 hq
  go_enter Tryd.func13, Tryd.ntmps13
  go_wp2_with fail
  refine hm.mono ?_
  rintro e w' ⟨rfl, hb'⟩
  go_wp2
  go_ret
  exact ⟨ret_int7 HF.out, below_next HB0.out hb'⟩

/-- Deep, as the document tells it of a type that may have too many parts. -/
def deepTo (t : Sh) : Int := if 400 < size t then 0 else deep t
set_option maxRecDepth 100000 in
theorem oDeep_walk (t : Sh) (q : Ptr) (w : World) (hq : ShAt w w.heap.size q t) :
    Calls Tryd.prog 14 #[.agg #[.int .i64 t.kind, .string ⟨t.of_.toArray⟩, .string ⟨t.name.toArray⟩, .slice q.A t.names.length q.c, .slice q.P t.parts.length q.d]] w fun e w' => e = .returned (.int .i64 (deepTo t)) ∧ Below w.heap.size w w' := by
  have hb0 := below_one w (.cells #[.int .i64 t.kind, .string ⟨t.of_.toArray⟩, .string ⟨t.name.toArray⟩, .slice q.A t.names.length q.c, .slice q.P t.parts.length q.d] 25)
  have hm := measure_walk t q _ (hq.next hb0)
  have HF : Hid (levels7 400 t = deepTo t) := Lib.hid rfl
  have HB0 := Lib.hid hb0
  generalize parts7 400 t = x at hm
  generalize levels7 400 t = y at hm HF
  obtain ⟨_, ⟨c0, c1, c2, c3, c4⟩, _⟩ := box5_new w t q
  clear hb0 hq
  go_enter Tryd.func14, Tryd.ntmps14
  go_wp2_with fail
  refine hm.mono ?_
  rintro e w' ⟨rfl, hb'⟩
  go_wp2
  go_ret
  exact ⟨ret_int7 HF.out, below_next HB0.out hb'⟩

set_option maxRecDepth 100000 in
set_option maxHeartbeats 1000000 in
theorem oCheck_walk (t : Sh) (q : Ptr) (w : World) (hq : ShAt w w.heap.size q t) (hg : WGlobs w) :
    Calls Tryd.prog 11 #[.agg #[.int .i64 t.kind, .string ⟨t.of_.toArray⟩, .string ⟨t.name.toArray⟩, .slice q.A t.names.length q.c, .slice q.P t.parts.length q.d]] w fun e w' => e = .returned (.int .i64 (check t)) ∧ Below w.heap.size w w' := by
  have hb0 := below_one w (.cells #[.int .i64 t.kind, .string ⟨t.of_.toArray⟩, .string ⟨t.name.toArray⟩, .slice q.A t.names.length q.c, .slice q.P t.parts.length q.d] 25)
  have hm := measure_walk t q _ (hq.next hb0)
  have HC : Hid (check t = if 400 < size t then 3 else if 40 < deep t then 91 else if right t = false then 70 else 0) := Lib.hid rfl
  have HB0 := Lib.hid hb0
  have HB := Lib.hid (box5_new w t q)
  have HQ := Lib.hid hq
  have HG := Lib.hid hg
  obtain ⟨_, ⟨c0, c1, c2, c3, c4⟩, _⟩ := HB.out
  clear hb0 hq hg
  by_cases h4 : 400 < size t
  · have HF : Hid (check t = 3) := Lib.hid (by rw [HC.out, if_pos h4])
    have hx : parts7 400 t = 401 := by unfold parts7; rw [if_pos h4]; rfl
    rw [hx] at hm
    generalize levels7 400 t = y at hm
    clear h4 hx
    go_enter Tryd.func11, Tryd.ntmps11
    go_wp2_with fail
    refine hm.mono ?_
    rintro e w' ⟨rfl, hb'⟩
    go_wp2
    go_ret
    exact ⟨ret_int7 HF.out.symm, below_next HB0.out hb'⟩
  · have hx : parts7 400 t = (size t : Int) := by unfold parts7; rw [if_neg h4]
    have hy : levels7 400 t = (deep t : Int) := by unfold levels7; rw [if_neg h4]
    rw [hx, hy] at hm
    have h4' : ¬ (400 : Int) < (size t : Int) := by omega
    by_cases h40 : 40 < deep t
    · have HF : Hid (check t = 91) := Lib.hid (by rw [HC.out, if_neg h4, if_pos h40])
      have h40' : (40 : Int) < (deep t : Int) := by omega
      clear h4 h40 hx hy
      go_enter Tryd.func11, Tryd.ntmps11
      go_wp2_with fail
      refine hm.mono ?_
      rintro e w' ⟨rfl, hb'⟩
      go_wp2
      go_ret
      exact ⟨ret_int7 HF.out.symm, below_next HB0.out hb'⟩
    · have h40' : ¬ (40 : Int) < (deep t : Int) := by omega
      have HF : Hid (check t = if right t = false then 70 else 0) := Lib.hid (by rw [HC.out, if_neg h4, if_neg h40])
      have HZ : Hid (size t ≤ 1000000) := Lib.hid (by omega)
      clear h4 h40 hx hy
      go_enter Tryd.func11, Tryd.ntmps11
      go_wp2_with fail
      refine hm.mono ?_
      rintro e w2 ⟨rfl, hb2⟩
      have hbw := below_next HB0.out hb2
      have HBW2 := Lib.hid hbw
      have HB2 := Lib.hid (HB.out.next hb2)
      have hr := misfits_walk t q w2 (HQ.out.next hbw) (HG.out.next hbw) HZ.out
      clear hm hb2 hbw c0 c1 c2 c3 c4
      obtain ⟨_, ⟨c0, c1, c2, c3, c4⟩, _⟩ := HB2.out
      cases hrt : right t
      all_goals
        rw [hrt] at hr HF
        clear hrt
        go_wp2_with fail
        refine hr.mono ?_
        rintro e w' ⟨rfl, hb'⟩
        go_wp2
        go_ret
        exact ⟨ret_int7 (by rw [HF.out]; rfl), below_next HBW2.out hb'⟩

set_option maxRecDepth 100000 in
theorem mayBe_walk (t : Sh) (q : Ptr) (w : World) (hq : ShAt w w.heap.size q t) (hg : WGlobs w) :
    Calls Tryd.prog 29 #[.agg #[.int .i64 t.kind, .string ⟨t.of_.toArray⟩, .string ⟨t.name.toArray⟩, .slice q.A t.names.length q.c, .slice q.P t.parts.length q.d]] w fun e w' => e = .returned (.bool (decide (check t = 0))) ∧ Below w.heap.size w w' := by
  have hb0 := below_one w (.cells #[.int .i64 t.kind, .string ⟨t.of_.toArray⟩, .string ⟨t.name.toArray⟩, .slice q.A t.names.length q.c, .slice q.P t.parts.length q.d] 25)
  have hm := oCheck_walk t q _ (hq.next hb0) (hg.next hb0)
  have HB0 := Lib.hid hb0
  obtain ⟨_, ⟨c0, c1, c2, c3, c4⟩, _⟩ := box5_new w t q
  clear hb0 hq hg
  go_enter Tryd.func29, Tryd.ntmps29
  go_wp2_with fail
  refine hm.mono ?_
  rintro e w' ⟨rfl, hb'⟩
  go_wp2
  go_ret
  exact ⟨ret_bool7 (by rw [Bool.eq_iff_iff]; simp), below_next HB0.out hb'⟩

set_option maxRecDepth 100000 in
theorem oClosed_walk (t : Sh) (q : Ptr) (w : World) (hq : ShAt w w.heap.size q t) (hg : WGlobs w) :
    Calls Tryd.prog 15 #[.agg #[.int .i64 t.kind, .string ⟨t.of_.toArray⟩, .string ⟨t.name.toArray⟩, .slice q.A t.names.length q.c, .slice q.P t.parts.length q.d]] w fun e w' => e = .returned (.bool (closed t)) ∧ Below w.heap.size w w' := by
  have hb0 := below_one w (.cells #[.int .i64 t.kind, .string ⟨t.of_.toArray⟩, .string ⟨t.name.toArray⟩, .slice q.A t.names.length q.c, .slice q.P t.parts.length q.d] 25)
  have hm := mayBe_walk t q _ (hq.next hb0) (hg.next hb0)
  have HC : Hid (closed t = (decide (check t = 0) && !opened t)) := Lib.hid rfl
  have HB0 := Lib.hid hb0
  have HB := Lib.hid (box5_new w t q)
  have HQ := Lib.hid hq
  obtain ⟨_, ⟨c0, c1, c2, c3, c4⟩, _⟩ := HB.out
  clear hb0 hq hg
  cases h0 : decide (check t = 0)
  · have HF : Hid (closed t = false) := Lib.hid (by rw [HC.out, h0]; rfl)
    rw [h0] at hm
    clear h0
    go_enter Tryd.func15, Tryd.ntmps15
    go_wp2_with fail
    refine hm.mono ?_
    rintro e w1 ⟨rfl, hb1⟩
    go_wp2
    go_ret
    exact ⟨by rw [HF.out]; rfl, below_next HB0.out hb1⟩
  · have HF : Hid (closed t = !opened t) := Lib.hid (by rw [HC.out, h0]; rfl)
    rw [h0] at hm
    have HZ : Hid (size t ≤ 1000000) := Lib.hid (by
      have := of_decide_eq_true h0
      unfold check at this
      by_cases h4 : 400 < size t
      · rw [if_pos h4] at this; omega
      · omega)
    clear h0
    go_enter Tryd.func15, Tryd.ntmps15
    go_wp2_with fail
    refine hm.mono ?_
    rintro e w1 ⟨rfl, hb1⟩
    have hbw := below_next HB0.out hb1
    have hd := hasName_walk t q w1 (HQ.out.next hbw) HZ.out
    obtain ⟨_, ⟨d0, d1, d2, d3, d4⟩, _⟩ := HB.out.next hb1
    clear hm hb1 c0 c1 c2 c3 c4
    go_wp2_with fail
    refine hd.mono ?_
    rintro e w' ⟨rfl, hb'⟩
    go_wp2
    go_ret
    exact ⟨ret_bool7 HF.out.symm, below_next hbw hb'⟩
end Go.Proofs.YtkehnmapnckdgaaDoor
