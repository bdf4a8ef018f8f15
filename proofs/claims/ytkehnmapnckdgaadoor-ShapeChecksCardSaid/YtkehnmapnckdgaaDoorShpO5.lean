/- The program's isUnnamed, isNamed, fits of layer 7. -/
import Derived.Test.YtkehnmapnckdgaaDoorGO1
import Derived.Test.YtkehnmapnckdgaaDoorGR
namespace Shp
/-- The name of a type, as the program asks for it. -/
def nameOk (t : Sh) (wordB : List UInt8 → Bool) : Bool := if t.of_ = [] then Lex.isUpper t.name && !wordB t.name else Lex.isName t.of_ && Lex.isUpper t.name
theorem fits_plain {t : Sh} (h1 : 1 ≤ t.kind) (h2 : t.kind ≤ 4) : fits t = (bare t && decide (t.names.length = 0) && decide (t.parts.length = 0)) := by
  cases hb : bare t with
  | false => rw [fits_full (by omega) hb]; rfl
  | true =>
    by_cases hz : 0 < t.names.length
    · rw [fits_more (by omega) hb (by omega) hz, decide_eq_false (p := t.names.length = 0) (by omega)]; rfl
    · rw [fits_rest hb (by omega) (by omega) hz (by omega) (by omega), decide_eq_true h1, decide_eq_true h2, decide_eq_true (p := t.names.length = 0) (by omega)]
theorem fits_list' {t : Sh} (h : t.kind = 5) : fits t = (bare t && decide (t.names.length = 0) && decide (t.parts.length = 1)) := by
  cases hb : bare t with
  | false => rw [fits_full (by omega) hb]; rfl
  | true =>
    by_cases hz : 0 < t.names.length
    · rw [fits_more (by omega) hb (by omega) hz, decide_eq_false (p := t.names.length = 0) (by omega)]; rfl
    · rw [fits_list hb h hz, decide_eq_true (p := t.names.length = 0) (by omega)]; rfl
theorem fits_fun' {t : Sh} (h : t.kind = 8) : fits t = (bare t && decide (t.names.length = 0) && decide (0 < t.parts.length)) := by
  cases hb : bare t with
  | false => rw [fits_full (by omega) hb]; rfl
  | true =>
    by_cases hz : 0 < t.names.length
    · rw [fits_more (by omega) hb (by omega) hz, decide_eq_false (p := t.names.length = 0) (by omega)]; rfl
    · rw [fits_fun hb h hz, decide_eq_true (p := t.names.length = 0) (by omega)]; rfl
theorem fits_rec' {t : Sh} (h : t.kind = 6 ∨ t.kind = 7) : fits t = (bare t && decide (t.names.length = t.parts.length) && areNames t.names) := by
  cases hb : bare t with
  | false => rw [fits_full (by omega) hb]; rfl
  | true => rw [fits_rec hb h, Bool.true_and, Bool.and_comm]
theorem fits_none {t : Sh} (h : t.kind < 1 ∨ 10 < t.kind) : fits t = false := by
  cases hb : bare t with
  | false => rw [fits_full (by omega) hb]
  | true =>
    by_cases hz : 0 < t.names.length
    · rw [fits_more (by omega) hb (by omega) hz]
    · rw [fits_rest hb (by omega) (by omega) hz (by omega) (by omega)]
      rcases h with h | h
      · rw [decide_eq_false (by omega)]; rfl
      · rw [decide_eq_false (p := t.kind ≤ 4) (by omega), Bool.and_false]; rfl
theorem fits_opaque {t : Sh} (h : t.kind = 10) : fits t = (Lex.isName t.of_ && Lex.isUpper t.name && decide (t.names.length = 0) && decide (t.parts.length = 0)) := by
  rw [fits_name (Or.inr h)]
  unfold ofOk
  rw [h, show decide ((10 : Int) = 9) = false from rfl, Bool.and_false, Bool.false_and, Bool.or_false, Bool.and_comm (Lex.isUpper t.name)]
end Shp
namespace Go.Proofs.YtkehnmapnckdgaaDoor
open Go.RowKit Shp
set_option linter.unusedVariables false

theorem upper_nil : Lex.isUpper [] = false := rfl
theorem wordB_plain {s : List UInt8} (h : Lex.isUpper s = true) : wordB s = plain s := by
  have h0 : ([] == s) = false := by
    cases s with
    | nil => rw [upper_nil] at h; cases h
    | cons a l => rfl
  have c : ∀ a b : List UInt8, (a == b) = (b == a) := fun a b => by rw [Bool.eq_iff_iff, beq_iff_eq, beq_iff_eq]; exact eq_comm
  unfold wordB plain
  rw [h0, Bool.false_or, c [73, 110, 116], c [66, 111, 111, 108], c [84, 101, 120, 116], c [65, 110, 121]]
theorem fits_nameO {t : Sh} (h : t.kind = 9) : fits t = (nameOk t wordB && decide (t.names.length = 0) && decide (t.parts.length = 0)) := by
  rw [fits_name (Or.inl h)]
  congr 2
  unfold ofOk nameOk
  rw [h, show decide ((9 : Int) = 9) = true from rfl, Bool.and_true]
  by_cases ho : t.of_ = []
  · rw [if_pos ho, ho]
    cases hu : Lex.isUpper t.name with
    | false => rfl
    | true => rw [wordB_plain hu]; rfl
  · rw [if_neg ho, show (t.of_ == []) = false from beq_eq_false_iff_ne.2 ho, Bool.false_and, Bool.or_false, Bool.and_comm]

set_option maxRecDepth 100000 in
theorem unnamed_walk (t : Sh) (q : Ptr) (w : World) :
    Calls Tryd.prog 55 #[.agg #[.int .i64 t.kind, .string ⟨t.of_.toArray⟩, .string ⟨t.name.toArray⟩, .slice q.A t.names.length q.c, .slice q.P t.parts.length q.d]] w fun e w' => e = .returned (.bool (bare t)) ∧ Below w.heap.size w w' := by
  have HB : Hid (bare t = (t.of_ == [] && t.name == [])) := Lib.hid rfl
  have hb0 := below_one w (.cells #[.int .i64 t.kind, .string ⟨t.of_.toArray⟩, .string ⟨t.name.toArray⟩, .slice q.A t.names.length q.c, .slice q.P t.parts.length q.d] 25)
  have HB0 := Lib.hid hb0
  clear hb0
  obtain ⟨_, ⟨c0, c1, c2, c3, c4⟩, _⟩ := box5_new w t q
  cases h1 : (t.of_ == [])
  · have hoe := isEmpty_of h1
    have HF : Hid (bare t = false) := Lib.hid (by rw [HB.out, h1]; rfl)
    clear h1
    go_enter Tryd.func55, Tryd.ntmps55
    go_wp2
    go_ret
    exact ⟨by rw [HF.out]; rfl, HB0.out⟩
  · have hoe := isEmpty_of h1
    cases h2 : (t.name == [])
    all_goals
      have hne := isEmpty_of h2
      have HF : Hid _ := Lib.hid (show bare t = _ from by rw [HB.out, h1, h2])
      clear h1 h2
      go_enter Tryd.func55, Tryd.ntmps55
      go_wp2
      go_ret
      exact ⟨ret_bool7 (by rw [HF.out]; rfl), HB0.out⟩

set_option maxRecDepth 100000 in
set_option maxHeartbeats 1000000 in
theorem named7_walk (t : Sh) (q : Ptr) (w : World) (hs : Small t q) (hg : WGlobs w) :
    Calls Tryd.prog 57 #[.agg #[.int .i64 t.kind, .string ⟨t.of_.toArray⟩, .string ⟨t.name.toArray⟩, .slice q.A t.names.length q.c, .slice q.P t.parts.length q.d]] w fun e w' => e = .returned (.bool (nameOk t wordB)) ∧ Below w.heap.size w w' := by
  have HS := Lib.hid hs
  have HB : Hid (nameOk t wordB = if t.of_ = [] then Lex.isUpper t.name && !wordB t.name else Lex.isName t.of_ && Lex.isUpper t.name) := Lib.hid rfl
  have hb0 := below_one w (.cells #[.int .i64 t.kind, .string ⟨t.of_.toArray⟩, .string ⟨t.name.toArray⟩, .slice q.A t.names.length q.c, .slice q.P t.parts.length q.d] 25)
  have hu := fun W => oupper_walk t.name HS.out.n W
  have hn := fun W => oname_walk t.of_ HS.out.o W
  have hw := isWord7_walk t.name _ (hg.next hb0)
  have HB0 := Lib.hid hb0
  clear hb0 hg hs
  obtain ⟨_, ⟨c0, c1, c2, c3, c4⟩, _⟩ := box5_new w t q
  cases h1 : (t.of_ == [])
  · have hoe := isEmpty_of h1
    have HF : Hid (nameOk t wordB = (Lex.isName t.of_ && Lex.isUpper t.name)) := Lib.hid (by rw [HB.out, if_neg (by simpa using h1)])
    clear h1
    cases h2 : Lex.isName t.of_
    all_goals
      rw [h2] at HF
      simp only [h2] at hn
      clear h2
      go_enter Tryd.func57, Tryd.ntmps57
      go_wp2_with fail
      refine (hn _).mono ?_
      rintro e w' ⟨rfl, rfl⟩
    · go_wp2
      go_ret
      exact ⟨by rw [HF.out]; rfl, HB0.out⟩
    · go_wp2_with fail
      refine (hu _).mono ?_
      rintro e w' ⟨rfl, rfl⟩
      go_wp2
      go_ret
      exact ⟨ret_bool7 (by rw [HF.out]; rfl), HB0.out⟩
  · have hoe := isEmpty_of h1
    have HF : Hid (nameOk t wordB = (Lex.isUpper t.name && !wordB t.name)) := Lib.hid (by rw [HB.out, if_pos (by simpa using h1)])
    clear h1
    cases h2 : Lex.isUpper t.name
    all_goals
      rw [h2] at HF
      simp only [h2] at hu
      clear h2
      go_enter Tryd.func57, Tryd.ntmps57
      go_wp2_with fail
      refine (hu _).mono ?_
      rintro e w' ⟨rfl, rfl⟩
    · go_wp2
      go_ret
      exact ⟨by rw [HF.out]; rfl, HB0.out⟩
    · go_wp2_with fail
      refine hw.mono ?_
      rintro e w' ⟨rfl, rfl⟩
      go_wp2
      go_ret
      exact ⟨ret_bool7 (by rw [HF.out]; rfl), HB0.out⟩

theorem eq_dec7 {a b : Nat} : ((a : Int) == (b : Int)) = decide (a = b) := by rw [Bool.eq_iff_iff, beq_iff_eq, decide_eq_true_eq]; omega

set_option maxRecDepth 100000 in
set_option maxHeartbeats 4000000 in
theorem ofits_1 (t : Sh) (q : Ptr) (w : World) (hq : ShAt w w.heap.size q t) (hg : WGlobs w) (hk : t.kind = 1) :
    Calls Tryd.prog 40 #[.agg #[.int .i64 t.kind, .string ⟨t.of_.toArray⟩, .string ⟨t.name.toArray⟩, .slice q.A t.names.length q.c, .slice q.P t.parts.length q.d]] w fun e w' => e = .returned (.bool (fits t)) ∧ Below w.heap.size w w' := by
  have HS := Lib.hid hq.small
  have HA := Lib.hid hq.strs
  have hB := box5_new w t q
  have HB := Lib.hid hB
  have hb0 := below_one w (.cells #[.int .i64 t.kind, .string ⟨t.of_.toArray⟩, .string ⟨t.name.toArray⟩, .slice q.A t.names.length q.c, .slice q.P t.parts.length q.d] 25)
  have HB0 := Lib.hid hb0
  have HG := Lib.hid (hg.next hb0)
  obtain ⟨_, ⟨c0, c1, c2, c3, c4⟩, _⟩ := hB
  have k1 : (t.kind == 1) = true := by rw [hk]; rfl
  have k2 : (t.kind == 2) = false := by rw [hk]; rfl
  have k3 : (t.kind == 3) = false := by rw [hk]; rfl
  have k4 : (t.kind == 4) = false := by rw [hk]; rfl
  have k5 : (t.kind == 5) = false := by rw [hk]; rfl
  have k6 : (t.kind == 6) = false := by rw [hk]; rfl
  have k7 : (t.kind == 7) = false := by rw [hk]; rfl
  have k8 : (t.kind == 8) = false := by rw [hk]; rfl
  have k9 : (t.kind == 9) = false := by rw [hk]; rfl
  have k10 : (t.kind == 10) = false := by rw [hk]; rfl
  have HF := Lib.hid (fits_plain (t := t) (by omega) (by omega))
  have hc := unnamed_walk t q (w.alloc (.cells #[.int .i64 t.kind, .string ⟨t.of_.toArray⟩, .string ⟨t.name.toArray⟩, .slice q.A t.names.length q.c, .slice q.P t.parts.length q.d] 25))
  clear hk hg hq hb0
  cases hb : bare t
  · rw [hb] at hc HF
    clear hb
    go_enter Tryd.func40, Tryd.ntmps40
    go_wp2_with fail
    refine hc.mono ?_
    rintro e w' ⟨rfl, hb'⟩
    go_wp2
    go_ret
    exact ⟨by rw [HF.out]; rfl, below_next HB0.out hb'⟩
  · rw [hb] at hc HF
    clear hb
    cases hz : decide (t.names.length = 0)
    · rw [hz] at HF
      have hz2 : ((t.names.length : Int) == 0) = false := by rw [isNil_dec]; exact hz
      clear hz
      go_enter Tryd.func40, Tryd.ntmps40
      go_wp2_with fail
      refine hc.mono ?_
      rintro e w' ⟨rfl, hb'⟩
      obtain ⟨_, ⟨c0, c1, c2, c3, c4⟩, _⟩ := HB.out.next hb'
      go_wp2
      go_ret
      exact ⟨by rw [HF.out]; rfl, below_next HB0.out hb'⟩
    · rw [hz] at HF
      have hz2 : ((t.names.length : Int) == 0) = true := by rw [isNil_dec]; exact hz
      clear hz
      go_enter Tryd.func40, Tryd.ntmps40
      go_wp2_with fail
      refine hc.mono ?_
      rintro e w' ⟨rfl, hb'⟩
      obtain ⟨_, ⟨c0, c1, c2, c3, c4⟩, _⟩ := HB.out.next hb'
      go_wp2
      go_ret
      exact ⟨ret_bool7 (by rw [HF.out, Bool.eq_iff_iff]; simp; try omega), below_next HB0.out hb'⟩

set_option maxRecDepth 100000 in
set_option maxHeartbeats 4000000 in
theorem ofits_2 (t : Sh) (q : Ptr) (w : World) (hq : ShAt w w.heap.size q t) (hg : WGlobs w) (hk : t.kind = 2) :
    Calls Tryd.prog 40 #[.agg #[.int .i64 t.kind, .string ⟨t.of_.toArray⟩, .string ⟨t.name.toArray⟩, .slice q.A t.names.length q.c, .slice q.P t.parts.length q.d]] w fun e w' => e = .returned (.bool (fits t)) ∧ Below w.heap.size w w' := by
  have HS := Lib.hid hq.small
  have HA := Lib.hid hq.strs
  have hB := box5_new w t q
  have HB := Lib.hid hB
  have hb0 := below_one w (.cells #[.int .i64 t.kind, .string ⟨t.of_.toArray⟩, .string ⟨t.name.toArray⟩, .slice q.A t.names.length q.c, .slice q.P t.parts.length q.d] 25)
  have HB0 := Lib.hid hb0
  have HG := Lib.hid (hg.next hb0)
  obtain ⟨_, ⟨c0, c1, c2, c3, c4⟩, _⟩ := hB
  have k1 : (t.kind == 1) = false := by rw [hk]; rfl
  have k2 : (t.kind == 2) = true := by rw [hk]; rfl
  have k3 : (t.kind == 3) = false := by rw [hk]; rfl
  have k4 : (t.kind == 4) = false := by rw [hk]; rfl
  have k5 : (t.kind == 5) = false := by rw [hk]; rfl
  have k6 : (t.kind == 6) = false := by rw [hk]; rfl
  have k7 : (t.kind == 7) = false := by rw [hk]; rfl
  have k8 : (t.kind == 8) = false := by rw [hk]; rfl
  have k9 : (t.kind == 9) = false := by rw [hk]; rfl
  have k10 : (t.kind == 10) = false := by rw [hk]; rfl
  have HF := Lib.hid (fits_plain (t := t) (by omega) (by omega))
  have hc := unnamed_walk t q (w.alloc (.cells #[.int .i64 t.kind, .string ⟨t.of_.toArray⟩, .string ⟨t.name.toArray⟩, .slice q.A t.names.length q.c, .slice q.P t.parts.length q.d] 25))
  clear hk hg hq hb0
  cases hb : bare t
  · rw [hb] at hc HF
    clear hb
    go_enter Tryd.func40, Tryd.ntmps40
    go_wp2_with fail
    refine hc.mono ?_
    rintro e w' ⟨rfl, hb'⟩
    go_wp2
    go_ret
    exact ⟨by rw [HF.out]; rfl, below_next HB0.out hb'⟩
  · rw [hb] at hc HF
    clear hb
    cases hz : decide (t.names.length = 0)
    · rw [hz] at HF
      have hz2 : ((t.names.length : Int) == 0) = false := by rw [isNil_dec]; exact hz
      clear hz
      go_enter Tryd.func40, Tryd.ntmps40
      go_wp2_with fail
      refine hc.mono ?_
      rintro e w' ⟨rfl, hb'⟩
      obtain ⟨_, ⟨c0, c1, c2, c3, c4⟩, _⟩ := HB.out.next hb'
      go_wp2
      go_ret
      exact ⟨by rw [HF.out]; rfl, below_next HB0.out hb'⟩
    · rw [hz] at HF
      have hz2 : ((t.names.length : Int) == 0) = true := by rw [isNil_dec]; exact hz
      clear hz
      go_enter Tryd.func40, Tryd.ntmps40
      go_wp2_with fail
      refine hc.mono ?_
      rintro e w' ⟨rfl, hb'⟩
      obtain ⟨_, ⟨c0, c1, c2, c3, c4⟩, _⟩ := HB.out.next hb'
      go_wp2
      go_ret
      exact ⟨ret_bool7 (by rw [HF.out, Bool.eq_iff_iff]; simp; try omega), below_next HB0.out hb'⟩

set_option maxRecDepth 100000 in
set_option maxHeartbeats 4000000 in
theorem ofits_3 (t : Sh) (q : Ptr) (w : World) (hq : ShAt w w.heap.size q t) (hg : WGlobs w) (hk : t.kind = 3) :
    Calls Tryd.prog 40 #[.agg #[.int .i64 t.kind, .string ⟨t.of_.toArray⟩, .string ⟨t.name.toArray⟩, .slice q.A t.names.length q.c, .slice q.P t.parts.length q.d]] w fun e w' => e = .returned (.bool (fits t)) ∧ Below w.heap.size w w' := by
  have HS := Lib.hid hq.small
  have HA := Lib.hid hq.strs
  have hB := box5_new w t q
  have HB := Lib.hid hB
  have hb0 := below_one w (.cells #[.int .i64 t.kind, .string ⟨t.of_.toArray⟩, .string ⟨t.name.toArray⟩, .slice q.A t.names.length q.c, .slice q.P t.parts.length q.d] 25)
  have HB0 := Lib.hid hb0
  have HG := Lib.hid (hg.next hb0)
  obtain ⟨_, ⟨c0, c1, c2, c3, c4⟩, _⟩ := hB
  have k1 : (t.kind == 1) = false := by rw [hk]; rfl
  have k2 : (t.kind == 2) = false := by rw [hk]; rfl
  have k3 : (t.kind == 3) = true := by rw [hk]; rfl
  have k4 : (t.kind == 4) = false := by rw [hk]; rfl
  have k5 : (t.kind == 5) = false := by rw [hk]; rfl
  have k6 : (t.kind == 6) = false := by rw [hk]; rfl
  have k7 : (t.kind == 7) = false := by rw [hk]; rfl
  have k8 : (t.kind == 8) = false := by rw [hk]; rfl
  have k9 : (t.kind == 9) = false := by rw [hk]; rfl
  have k10 : (t.kind == 10) = false := by rw [hk]; rfl
  have HF := Lib.hid (fits_plain (t := t) (by omega) (by omega))
  have hc := unnamed_walk t q (w.alloc (.cells #[.int .i64 t.kind, .string ⟨t.of_.toArray⟩, .string ⟨t.name.toArray⟩, .slice q.A t.names.length q.c, .slice q.P t.parts.length q.d] 25))
  clear hk hg hq hb0
  cases hb : bare t
  · rw [hb] at hc HF
    clear hb
    go_enter Tryd.func40, Tryd.ntmps40
    go_wp2_with fail
    refine hc.mono ?_
    rintro e w' ⟨rfl, hb'⟩
    go_wp2
    go_ret
    exact ⟨by rw [HF.out]; rfl, below_next HB0.out hb'⟩
  · rw [hb] at hc HF
    clear hb
    cases hz : decide (t.names.length = 0)
    · rw [hz] at HF
      have hz2 : ((t.names.length : Int) == 0) = false := by rw [isNil_dec]; exact hz
      clear hz
      go_enter Tryd.func40, Tryd.ntmps40
      go_wp2_with fail
      refine hc.mono ?_
      rintro e w' ⟨rfl, hb'⟩
      obtain ⟨_, ⟨c0, c1, c2, c3, c4⟩, _⟩ := HB.out.next hb'
      go_wp2
      go_ret
      exact ⟨by rw [HF.out]; rfl, below_next HB0.out hb'⟩
    · rw [hz] at HF
      have hz2 : ((t.names.length : Int) == 0) = true := by rw [isNil_dec]; exact hz
      clear hz
      go_enter Tryd.func40, Tryd.ntmps40
      go_wp2_with fail
      refine hc.mono ?_
      rintro e w' ⟨rfl, hb'⟩
      obtain ⟨_, ⟨c0, c1, c2, c3, c4⟩, _⟩ := HB.out.next hb'
      go_wp2
      go_ret
      exact ⟨ret_bool7 (by rw [HF.out, Bool.eq_iff_iff]; simp; try omega), below_next HB0.out hb'⟩

set_option maxRecDepth 100000 in
set_option maxHeartbeats 4000000 in
theorem ofits_4 (t : Sh) (q : Ptr) (w : World) (hq : ShAt w w.heap.size q t) (hg : WGlobs w) (hk : t.kind = 4) :
    Calls Tryd.prog 40 #[.agg #[.int .i64 t.kind, .string ⟨t.of_.toArray⟩, .string ⟨t.name.toArray⟩, .slice q.A t.names.length q.c, .slice q.P t.parts.length q.d]] w fun e w' => e = .returned (.bool (fits t)) ∧ Below w.heap.size w w' := by
  have HS := Lib.hid hq.small
  have HA := Lib.hid hq.strs
  have hB := box5_new w t q
  have HB := Lib.hid hB
  have hb0 := below_one w (.cells #[.int .i64 t.kind, .string ⟨t.of_.toArray⟩, .string ⟨t.name.toArray⟩, .slice q.A t.names.length q.c, .slice q.P t.parts.length q.d] 25)
  have HB0 := Lib.hid hb0
  have HG := Lib.hid (hg.next hb0)
  obtain ⟨_, ⟨c0, c1, c2, c3, c4⟩, _⟩ := hB
  have k1 : (t.kind == 1) = false := by rw [hk]; rfl
  have k2 : (t.kind == 2) = false := by rw [hk]; rfl
  have k3 : (t.kind == 3) = false := by rw [hk]; rfl
  have k4 : (t.kind == 4) = true := by rw [hk]; rfl
  have k5 : (t.kind == 5) = false := by rw [hk]; rfl
  have k6 : (t.kind == 6) = false := by rw [hk]; rfl
  have k7 : (t.kind == 7) = false := by rw [hk]; rfl
  have k8 : (t.kind == 8) = false := by rw [hk]; rfl
  have k9 : (t.kind == 9) = false := by rw [hk]; rfl
  have k10 : (t.kind == 10) = false := by rw [hk]; rfl
  have HF := Lib.hid (fits_plain (t := t) (by omega) (by omega))
  have hc := unnamed_walk t q (w.alloc (.cells #[.int .i64 t.kind, .string ⟨t.of_.toArray⟩, .string ⟨t.name.toArray⟩, .slice q.A t.names.length q.c, .slice q.P t.parts.length q.d] 25))
  clear hk hg hq hb0
  cases hb : bare t
  · rw [hb] at hc HF
    clear hb
    go_enter Tryd.func40, Tryd.ntmps40
    go_wp2_with fail
    refine hc.mono ?_
    rintro e w' ⟨rfl, hb'⟩
    go_wp2
    go_ret
    exact ⟨by rw [HF.out]; rfl, below_next HB0.out hb'⟩
  · rw [hb] at hc HF
    clear hb
    cases hz : decide (t.names.length = 0)
    · rw [hz] at HF
      have hz2 : ((t.names.length : Int) == 0) = false := by rw [isNil_dec]; exact hz
      clear hz
      go_enter Tryd.func40, Tryd.ntmps40
      go_wp2_with fail
      refine hc.mono ?_
      rintro e w' ⟨rfl, hb'⟩
      obtain ⟨_, ⟨c0, c1, c2, c3, c4⟩, _⟩ := HB.out.next hb'
      go_wp2
      go_ret
      exact ⟨by rw [HF.out]; rfl, below_next HB0.out hb'⟩
    · rw [hz] at HF
      have hz2 : ((t.names.length : Int) == 0) = true := by rw [isNil_dec]; exact hz
      clear hz
      go_enter Tryd.func40, Tryd.ntmps40
      go_wp2_with fail
      refine hc.mono ?_
      rintro e w' ⟨rfl, hb'⟩
      obtain ⟨_, ⟨c0, c1, c2, c3, c4⟩, _⟩ := HB.out.next hb'
      go_wp2
      go_ret
      exact ⟨ret_bool7 (by rw [HF.out, Bool.eq_iff_iff]; simp; try omega), below_next HB0.out hb'⟩

set_option maxRecDepth 100000 in
set_option maxHeartbeats 4000000 in
theorem ofits_5 (t : Sh) (q : Ptr) (w : World) (hq : ShAt w w.heap.size q t) (hg : WGlobs w) (hk : t.kind = 5) :
    Calls Tryd.prog 40 #[.agg #[.int .i64 t.kind, .string ⟨t.of_.toArray⟩, .string ⟨t.name.toArray⟩, .slice q.A t.names.length q.c, .slice q.P t.parts.length q.d]] w fun e w' => e = .returned (.bool (fits t)) ∧ Below w.heap.size w w' := by
  have HS := Lib.hid hq.small
  have HA := Lib.hid hq.strs
  have hB := box5_new w t q
  have HB := Lib.hid hB
  have hb0 := below_one w (.cells #[.int .i64 t.kind, .string ⟨t.of_.toArray⟩, .string ⟨t.name.toArray⟩, .slice q.A t.names.length q.c, .slice q.P t.parts.length q.d] 25)
  have HB0 := Lib.hid hb0
  have HG := Lib.hid (hg.next hb0)
  obtain ⟨_, ⟨c0, c1, c2, c3, c4⟩, _⟩ := hB
  have k1 : (t.kind == 1) = false := by rw [hk]; rfl
  have k2 : (t.kind == 2) = false := by rw [hk]; rfl
  have k3 : (t.kind == 3) = false := by rw [hk]; rfl
  have k4 : (t.kind == 4) = false := by rw [hk]; rfl
  have k5 : (t.kind == 5) = true := by rw [hk]; rfl
  have k6 : (t.kind == 6) = false := by rw [hk]; rfl
  have k7 : (t.kind == 7) = false := by rw [hk]; rfl
  have k8 : (t.kind == 8) = false := by rw [hk]; rfl
  have k9 : (t.kind == 9) = false := by rw [hk]; rfl
  have k10 : (t.kind == 10) = false := by rw [hk]; rfl
  have HF := Lib.hid (fits_list' hk)
  have hc := unnamed_walk t q (w.alloc (.cells #[.int .i64 t.kind, .string ⟨t.of_.toArray⟩, .string ⟨t.name.toArray⟩, .slice q.A t.names.length q.c, .slice q.P t.parts.length q.d] 25))
  clear hk hg hq hb0
  cases hb : bare t
  · rw [hb] at hc HF
    clear hb
    go_enter Tryd.func40, Tryd.ntmps40
    go_wp2_with fail
    refine hc.mono ?_
    rintro e w' ⟨rfl, hb'⟩
    go_wp2
    go_ret
    exact ⟨by rw [HF.out]; rfl, below_next HB0.out hb'⟩
  · rw [hb] at hc HF
    clear hb
    cases hz : decide (t.names.length = 0)
    · rw [hz] at HF
      have hz2 : ((t.names.length : Int) == 0) = false := by rw [isNil_dec]; exact hz
      clear hz
      go_enter Tryd.func40, Tryd.ntmps40
      go_wp2_with fail
      refine hc.mono ?_
      rintro e w' ⟨rfl, hb'⟩
      obtain ⟨_, ⟨c0, c1, c2, c3, c4⟩, _⟩ := HB.out.next hb'
      go_wp2
      go_ret
      exact ⟨by rw [HF.out]; rfl, below_next HB0.out hb'⟩
    · rw [hz] at HF
      have hz2 : ((t.names.length : Int) == 0) = true := by rw [isNil_dec]; exact hz
      clear hz
      go_enter Tryd.func40, Tryd.ntmps40
      go_wp2_with fail
      refine hc.mono ?_
      rintro e w' ⟨rfl, hb'⟩
      obtain ⟨_, ⟨c0, c1, c2, c3, c4⟩, _⟩ := HB.out.next hb'
      go_wp2
      go_ret
      exact ⟨ret_bool7 (by rw [HF.out, Bool.eq_iff_iff]; simp; try omega), below_next HB0.out hb'⟩

set_option maxRecDepth 100000 in
set_option maxHeartbeats 4000000 in
theorem ofits_6 (t : Sh) (q : Ptr) (w : World) (hq : ShAt w w.heap.size q t) (hg : WGlobs w) (hk : t.kind = 6) (hz : t.parts.length ≤ 1000000) :
    Calls Tryd.prog 40 #[.agg #[.int .i64 t.kind, .string ⟨t.of_.toArray⟩, .string ⟨t.name.toArray⟩, .slice q.A t.names.length q.c, .slice q.P t.parts.length q.d]] w fun e w' => e = .returned (.bool (fits t)) ∧ Below w.heap.size w w' := by
  have HS := Lib.hid hq.small
  have HA := Lib.hid hq.strs
  have hB := box5_new w t q
  have HB := Lib.hid hB
  have hb0 := below_one w (.cells #[.int .i64 t.kind, .string ⟨t.of_.toArray⟩, .string ⟨t.name.toArray⟩, .slice q.A t.names.length q.c, .slice q.P t.parts.length q.d] 25)
  have HB0 := Lib.hid hb0
  have HG := Lib.hid (hg.next hb0)
  have HZ := Lib.hid hz
  clear hz
  obtain ⟨_, ⟨c0, c1, c2, c3, c4⟩, _⟩ := hB
  have k1 : (t.kind == 1) = false := by rw [hk]; rfl
  have k2 : (t.kind == 2) = false := by rw [hk]; rfl
  have k3 : (t.kind == 3) = false := by rw [hk]; rfl
  have k4 : (t.kind == 4) = false := by rw [hk]; rfl
  have k5 : (t.kind == 5) = false := by rw [hk]; rfl
  have k6 : (t.kind == 6) = true := by rw [hk]; rfl
  have k7 : (t.kind == 7) = false := by rw [hk]; rfl
  have k8 : (t.kind == 8) = false := by rw [hk]; rfl
  have k9 : (t.kind == 9) = false := by rw [hk]; rfl
  have k10 : (t.kind == 10) = false := by rw [hk]; rfl
  have HF := Lib.hid (fits_rec' (t := t) (by first | exact Or.inl hk | exact Or.inr hk))
  have hc := unnamed_walk t q (w.alloc (.cells #[.int .i64 t.kind, .string ⟨t.of_.toArray⟩, .string ⟨t.name.toArray⟩, .slice q.A t.names.length q.c, .slice q.P t.parts.length q.d] 25))
  clear hk hg hq hb0
  cases hb : bare t
  · rw [hb] at hc HF
    clear hb
    go_enter Tryd.func40, Tryd.ntmps40
    go_wp2_with fail
    refine hc.mono ?_
    rintro e w' ⟨rfl, hb'⟩
    go_wp2
    go_ret
    exact ⟨by rw [HF.out]; rfl, below_next HB0.out hb'⟩
  · rw [hb] at hc HF
    clear hb
    cases hz : decide (t.names.length = t.parts.length)
    · rw [hz] at HF
      have hz2 : ((t.names.length : Int) == (t.parts.length : Int)) = false := by rw [eq_dec7]; exact hz
      clear hz
      go_enter Tryd.func40, Tryd.ntmps40
      go_wp2_with fail
      refine hc.mono ?_
      rintro e w' ⟨rfl, hb'⟩
      obtain ⟨_, ⟨c0, c1, c2, c3, c4⟩, _⟩ := HB.out.next hb'
      go_wp2
      go_ret
      exact ⟨by rw [HF.out]; rfl, below_next HB0.out hb'⟩
    · rw [hz] at HF
      have hz2 : ((t.names.length : Int) == (t.parts.length : Int)) = true := by rw [eq_dec7]; exact hz
      clear hz
      have hlen : t.names.length ≤ 1000000 := by have := HZ.out; have h2 := beq_iff_eq.1 hz2; omega
      have HA0 := HA.out.next HB0.out
      go_enter Tryd.func40, Tryd.ntmps40
      go_wp2_with fail
      refine hc.mono ?_
      rintro e w1 ⟨rfl, hb'⟩
      have hn := onames_walk q.A q.c t.names w1 (HA0.next hb') hlen HS.out.ns
      obtain ⟨_, ⟨c0, c1, c2, c3, c4⟩, _⟩ := HB.out.next hb'
      have hbw := below_next HB0.out hb'
      clear hc hb' HA0
      go_wp2_with fail
      refine hn.mono ?_
      rintro e w' ⟨rfl, hb2⟩
      go_wp2
      go_ret
      exact ⟨ret_bool7 (by rw [HF.out]; rfl), below_next hbw hb2⟩

set_option maxRecDepth 100000 in
set_option maxHeartbeats 4000000 in
theorem ofits_7 (t : Sh) (q : Ptr) (w : World) (hq : ShAt w w.heap.size q t) (hg : WGlobs w) (hk : t.kind = 7) (hz : t.parts.length ≤ 1000000) :
    Calls Tryd.prog 40 #[.agg #[.int .i64 t.kind, .string ⟨t.of_.toArray⟩, .string ⟨t.name.toArray⟩, .slice q.A t.names.length q.c, .slice q.P t.parts.length q.d]] w fun e w' => e = .returned (.bool (fits t)) ∧ Below w.heap.size w w' := by
  have HS := Lib.hid hq.small
  have HA := Lib.hid hq.strs
  have hB := box5_new w t q
  have HB := Lib.hid hB
  have hb0 := below_one w (.cells #[.int .i64 t.kind, .string ⟨t.of_.toArray⟩, .string ⟨t.name.toArray⟩, .slice q.A t.names.length q.c, .slice q.P t.parts.length q.d] 25)
  have HB0 := Lib.hid hb0
  have HG := Lib.hid (hg.next hb0)
  have HZ := Lib.hid hz
  clear hz
  obtain ⟨_, ⟨c0, c1, c2, c3, c4⟩, _⟩ := hB
  have k1 : (t.kind == 1) = false := by rw [hk]; rfl
  have k2 : (t.kind == 2) = false := by rw [hk]; rfl
  have k3 : (t.kind == 3) = false := by rw [hk]; rfl
  have k4 : (t.kind == 4) = false := by rw [hk]; rfl
  have k5 : (t.kind == 5) = false := by rw [hk]; rfl
  have k6 : (t.kind == 6) = false := by rw [hk]; rfl
  have k7 : (t.kind == 7) = true := by rw [hk]; rfl
  have k8 : (t.kind == 8) = false := by rw [hk]; rfl
  have k9 : (t.kind == 9) = false := by rw [hk]; rfl
  have k10 : (t.kind == 10) = false := by rw [hk]; rfl
  have HF := Lib.hid (fits_rec' (t := t) (by first | exact Or.inl hk | exact Or.inr hk))
  have hc := unnamed_walk t q (w.alloc (.cells #[.int .i64 t.kind, .string ⟨t.of_.toArray⟩, .string ⟨t.name.toArray⟩, .slice q.A t.names.length q.c, .slice q.P t.parts.length q.d] 25))
  clear hk hg hq hb0
  cases hb : bare t
  · rw [hb] at hc HF
    clear hb
    go_enter Tryd.func40, Tryd.ntmps40
    go_wp2_with fail
    refine hc.mono ?_
    rintro e w' ⟨rfl, hb'⟩
    go_wp2
    go_ret
    exact ⟨by rw [HF.out]; rfl, below_next HB0.out hb'⟩
  · rw [hb] at hc HF
    clear hb
    cases hz : decide (t.names.length = t.parts.length)
    · rw [hz] at HF
      have hz2 : ((t.names.length : Int) == (t.parts.length : Int)) = false := by rw [eq_dec7]; exact hz
      clear hz
      go_enter Tryd.func40, Tryd.ntmps40
      go_wp2_with fail
      refine hc.mono ?_
      rintro e w' ⟨rfl, hb'⟩
      obtain ⟨_, ⟨c0, c1, c2, c3, c4⟩, _⟩ := HB.out.next hb'
      go_wp2
      go_ret
      exact ⟨by rw [HF.out]; rfl, below_next HB0.out hb'⟩
    · rw [hz] at HF
      have hz2 : ((t.names.length : Int) == (t.parts.length : Int)) = true := by rw [eq_dec7]; exact hz
      clear hz
      have hlen : t.names.length ≤ 1000000 := by have := HZ.out; have h2 := beq_iff_eq.1 hz2; omega
      have HA0 := HA.out.next HB0.out
      go_enter Tryd.func40, Tryd.ntmps40
      go_wp2_with fail
      refine hc.mono ?_
      rintro e w1 ⟨rfl, hb'⟩
      have hn := onames_walk q.A q.c t.names w1 (HA0.next hb') hlen HS.out.ns
      obtain ⟨_, ⟨c0, c1, c2, c3, c4⟩, _⟩ := HB.out.next hb'
      have hbw := below_next HB0.out hb'
      clear hc hb' HA0
      go_wp2_with fail
      refine hn.mono ?_
      rintro e w' ⟨rfl, hb2⟩
      go_wp2
      go_ret
      exact ⟨ret_bool7 (by rw [HF.out]; rfl), below_next hbw hb2⟩

set_option maxRecDepth 100000 in
set_option maxHeartbeats 4000000 in
theorem ofits_8 (t : Sh) (q : Ptr) (w : World) (hq : ShAt w w.heap.size q t) (hg : WGlobs w) (hk : t.kind = 8) :
    Calls Tryd.prog 40 #[.agg #[.int .i64 t.kind, .string ⟨t.of_.toArray⟩, .string ⟨t.name.toArray⟩, .slice q.A t.names.length q.c, .slice q.P t.parts.length q.d]] w fun e w' => e = .returned (.bool (fits t)) ∧ Below w.heap.size w w' := by
  have HS := Lib.hid hq.small
  have HA := Lib.hid hq.strs
  have hB := box5_new w t q
  have HB := Lib.hid hB
  have hb0 := below_one w (.cells #[.int .i64 t.kind, .string ⟨t.of_.toArray⟩, .string ⟨t.name.toArray⟩, .slice q.A t.names.length q.c, .slice q.P t.parts.length q.d] 25)
  have HB0 := Lib.hid hb0
  have HG := Lib.hid (hg.next hb0)
  obtain ⟨_, ⟨c0, c1, c2, c3, c4⟩, _⟩ := hB
  have k1 : (t.kind == 1) = false := by rw [hk]; rfl
  have k2 : (t.kind == 2) = false := by rw [hk]; rfl
  have k3 : (t.kind == 3) = false := by rw [hk]; rfl
  have k4 : (t.kind == 4) = false := by rw [hk]; rfl
  have k5 : (t.kind == 5) = false := by rw [hk]; rfl
  have k6 : (t.kind == 6) = false := by rw [hk]; rfl
  have k7 : (t.kind == 7) = false := by rw [hk]; rfl
  have k8 : (t.kind == 8) = true := by rw [hk]; rfl
  have k9 : (t.kind == 9) = false := by rw [hk]; rfl
  have k10 : (t.kind == 10) = false := by rw [hk]; rfl
  have HF := Lib.hid (fits_fun' hk)
  have hc := unnamed_walk t q (w.alloc (.cells #[.int .i64 t.kind, .string ⟨t.of_.toArray⟩, .string ⟨t.name.toArray⟩, .slice q.A t.names.length q.c, .slice q.P t.parts.length q.d] 25))
  clear hk hg hq hb0
  cases hb : bare t
  · rw [hb] at hc HF
    clear hb
    go_enter Tryd.func40, Tryd.ntmps40
    go_wp2_with fail
    refine hc.mono ?_
    rintro e w' ⟨rfl, hb'⟩
    go_wp2
    go_ret
    exact ⟨by rw [HF.out]; rfl, below_next HB0.out hb'⟩
  · rw [hb] at hc HF
    clear hb
    cases hz : decide (t.names.length = 0)
    · rw [hz] at HF
      have hz2 : ((t.names.length : Int) == 0) = false := by rw [isNil_dec]; exact hz
      clear hz
      go_enter Tryd.func40, Tryd.ntmps40
      go_wp2_with fail
      refine hc.mono ?_
      rintro e w' ⟨rfl, hb'⟩
      obtain ⟨_, ⟨c0, c1, c2, c3, c4⟩, _⟩ := HB.out.next hb'
      go_wp2
      go_ret
      exact ⟨by rw [HF.out]; rfl, below_next HB0.out hb'⟩
    · rw [hz] at HF
      have hz2 : ((t.names.length : Int) == 0) = true := by rw [isNil_dec]; exact hz
      clear hz
      go_enter Tryd.func40, Tryd.ntmps40
      go_wp2_with fail
      refine hc.mono ?_
      rintro e w' ⟨rfl, hb'⟩
      obtain ⟨_, ⟨c0, c1, c2, c3, c4⟩, _⟩ := HB.out.next hb'
      go_wp2
      go_ret
      exact ⟨ret_bool7 (by rw [HF.out, Bool.eq_iff_iff]; simp; try omega), below_next HB0.out hb'⟩

set_option maxRecDepth 100000 in
set_option maxHeartbeats 4000000 in
theorem ofits_9 (t : Sh) (q : Ptr) (w : World) (hq : ShAt w w.heap.size q t) (hg : WGlobs w) (hk : t.kind = 9) :
    Calls Tryd.prog 40 #[.agg #[.int .i64 t.kind, .string ⟨t.of_.toArray⟩, .string ⟨t.name.toArray⟩, .slice q.A t.names.length q.c, .slice q.P t.parts.length q.d]] w fun e w' => e = .returned (.bool (fits t)) ∧ Below w.heap.size w w' := by
  have HS := Lib.hid hq.small
  have HA := Lib.hid hq.strs
  have hB := box5_new w t q
  have HB := Lib.hid hB
  have hb0 := below_one w (.cells #[.int .i64 t.kind, .string ⟨t.of_.toArray⟩, .string ⟨t.name.toArray⟩, .slice q.A t.names.length q.c, .slice q.P t.parts.length q.d] 25)
  have HB0 := Lib.hid hb0
  have HG := Lib.hid (hg.next hb0)
  obtain ⟨_, ⟨c0, c1, c2, c3, c4⟩, _⟩ := hB
  have k1 : (t.kind == 1) = false := by rw [hk]; rfl
  have k2 : (t.kind == 2) = false := by rw [hk]; rfl
  have k3 : (t.kind == 3) = false := by rw [hk]; rfl
  have k4 : (t.kind == 4) = false := by rw [hk]; rfl
  have k5 : (t.kind == 5) = false := by rw [hk]; rfl
  have k6 : (t.kind == 6) = false := by rw [hk]; rfl
  have k7 : (t.kind == 7) = false := by rw [hk]; rfl
  have k8 : (t.kind == 8) = false := by rw [hk]; rfl
  have k9 : (t.kind == 9) = true := by rw [hk]; rfl
  have k10 : (t.kind == 10) = false := by rw [hk]; rfl
  have HF := Lib.hid (fits_nameO hk)
  have hc := named7_walk t q (w.alloc (.cells #[.int .i64 t.kind, .string ⟨t.of_.toArray⟩, .string ⟨t.name.toArray⟩, .slice q.A t.names.length q.c, .slice q.P t.parts.length q.d] 25)) HS.out HG.out
  clear hk hg hq hb0
  cases hb : nameOk t wordB
  · rw [hb] at hc HF
    clear hb
    go_enter Tryd.func40, Tryd.ntmps40
    go_wp2_with fail
    refine hc.mono ?_
    rintro e w' ⟨rfl, hb'⟩
    go_wp2
    go_ret
    exact ⟨by rw [HF.out]; rfl, below_next HB0.out hb'⟩
  · rw [hb] at hc HF
    clear hb
    cases hz : decide (t.names.length = 0)
    · rw [hz] at HF
      have hz2 : ((t.names.length : Int) == 0) = false := by rw [isNil_dec]; exact hz
      clear hz
      go_enter Tryd.func40, Tryd.ntmps40
      go_wp2_with fail
      refine hc.mono ?_
      rintro e w' ⟨rfl, hb'⟩
      obtain ⟨_, ⟨c0, c1, c2, c3, c4⟩, _⟩ := HB.out.next hb'
      go_wp2
      go_ret
      exact ⟨by rw [HF.out]; rfl, below_next HB0.out hb'⟩
    · rw [hz] at HF
      have hz2 : ((t.names.length : Int) == 0) = true := by rw [isNil_dec]; exact hz
      clear hz
      go_enter Tryd.func40, Tryd.ntmps40
      go_wp2_with fail
      refine hc.mono ?_
      rintro e w' ⟨rfl, hb'⟩
      obtain ⟨_, ⟨c0, c1, c2, c3, c4⟩, _⟩ := HB.out.next hb'
      go_wp2
      go_ret
      exact ⟨ret_bool7 (by rw [HF.out, Bool.eq_iff_iff]; simp; try omega), below_next HB0.out hb'⟩

set_option maxRecDepth 100000 in
set_option maxHeartbeats 4000000 in
theorem ofits_10 (t : Sh) (q : Ptr) (w : World) (hq : ShAt w w.heap.size q t) (hg : WGlobs w) (hk : t.kind = 10) :
    Calls Tryd.prog 40 #[.agg #[.int .i64 t.kind, .string ⟨t.of_.toArray⟩, .string ⟨t.name.toArray⟩, .slice q.A t.names.length q.c, .slice q.P t.parts.length q.d]] w fun e w' => e = .returned (.bool (fits t)) ∧ Below w.heap.size w w' := by
  have HS := Lib.hid hq.small
  have HA := Lib.hid hq.strs
  have hB := box5_new w t q
  have HB := Lib.hid hB
  have hb0 := below_one w (.cells #[.int .i64 t.kind, .string ⟨t.of_.toArray⟩, .string ⟨t.name.toArray⟩, .slice q.A t.names.length q.c, .slice q.P t.parts.length q.d] 25)
  have HB0 := Lib.hid hb0
  have HG := Lib.hid (hg.next hb0)
  obtain ⟨_, ⟨c0, c1, c2, c3, c4⟩, _⟩ := hB
  have k1 : (t.kind == 1) = false := by rw [hk]; rfl
  have k2 : (t.kind == 2) = false := by rw [hk]; rfl
  have k3 : (t.kind == 3) = false := by rw [hk]; rfl
  have k4 : (t.kind == 4) = false := by rw [hk]; rfl
  have k5 : (t.kind == 5) = false := by rw [hk]; rfl
  have k6 : (t.kind == 6) = false := by rw [hk]; rfl
  have k7 : (t.kind == 7) = false := by rw [hk]; rfl
  have k8 : (t.kind == 8) = false := by rw [hk]; rfl
  have k9 : (t.kind == 9) = false := by rw [hk]; rfl
  have k10 : (t.kind == 10) = true := by rw [hk]; rfl
  have HF := Lib.hid (fits_opaque hk)
  have hn := fun W => oname_walk t.of_ HS.out.o W
  have hu := fun W => oupper_walk t.name HS.out.n W
  clear hk hg hq hb0
  cases h1 : Lex.isName t.of_
  · rw [h1] at HF
    simp only [h1] at hn
    clear h1
    go_enter Tryd.func40, Tryd.ntmps40
    go_wp2_with fail
    refine (hn _).mono ?_
    rintro e w' ⟨rfl, rfl⟩
    go_wp2
    go_ret
    exact ⟨by rw [HF.out]; rfl, HB0.out⟩
  · rw [h1] at HF
    simp only [h1] at hn
    clear h1
    cases h2 : Lex.isUpper t.name
    · rw [h2] at HF
      simp only [h2] at hu
      clear h2
      go_enter Tryd.func40, Tryd.ntmps40
      go_wp2_with fail
      refine (hn _).mono ?_
      rintro e w' ⟨rfl, rfl⟩
      go_wp2_with fail
      refine (hu _).mono ?_
      rintro e w' ⟨rfl, rfl⟩
      go_wp2
      go_ret
      exact ⟨by rw [HF.out]; rfl, HB0.out⟩
    · rw [h2] at HF
      simp only [h2] at hu
      clear h2
      cases hz : decide (t.names.length = 0)
      all_goals
        rw [hz] at HF
        have hz2 := hz
        rw [← isNil_dec] at hz2
        clear hz
        go_enter Tryd.func40, Tryd.ntmps40
        go_wp2_with fail
        refine (hn _).mono ?_
        rintro e w' ⟨rfl, rfl⟩
        go_wp2_with fail
        refine (hu _).mono ?_
        rintro e w' ⟨rfl, rfl⟩
        go_wp2
        go_ret
        exact ⟨ret_bool7 (by rw [HF.out, Bool.eq_iff_iff]; simp), HB0.out⟩

set_option maxRecDepth 100000 in
set_option maxHeartbeats 4000000 in
theorem ofits_none (t : Sh) (q : Ptr) (w : World) (hq : ShAt w w.heap.size q t) (hg : WGlobs w) (hk : t.kind < 1 ∨ 10 < t.kind) :
    Calls Tryd.prog 40 #[.agg #[.int .i64 t.kind, .string ⟨t.of_.toArray⟩, .string ⟨t.name.toArray⟩, .slice q.A t.names.length q.c, .slice q.P t.parts.length q.d]] w fun e w' => e = .returned (.bool (fits t)) ∧ Below w.heap.size w w' := by
  have HS := Lib.hid hq.small
  have HA := Lib.hid hq.strs
  have hB := box5_new w t q
  have HB := Lib.hid hB
  have hb0 := below_one w (.cells #[.int .i64 t.kind, .string ⟨t.of_.toArray⟩, .string ⟨t.name.toArray⟩, .slice q.A t.names.length q.c, .slice q.P t.parts.length q.d] 25)
  have HB0 := Lib.hid hb0
  have HG := Lib.hid (hg.next hb0)
  obtain ⟨_, ⟨c0, c1, c2, c3, c4⟩, _⟩ := hB
  have k1 : (t.kind == 1) = false := by rw [beq_eq_false_iff_ne]; omega
  have k2 : (t.kind == 2) = false := by rw [beq_eq_false_iff_ne]; omega
  have k3 : (t.kind == 3) = false := by rw [beq_eq_false_iff_ne]; omega
  have k4 : (t.kind == 4) = false := by rw [beq_eq_false_iff_ne]; omega
  have k5 : (t.kind == 5) = false := by rw [beq_eq_false_iff_ne]; omega
  have k6 : (t.kind == 6) = false := by rw [beq_eq_false_iff_ne]; omega
  have k7 : (t.kind == 7) = false := by rw [beq_eq_false_iff_ne]; omega
  have k8 : (t.kind == 8) = false := by rw [beq_eq_false_iff_ne]; omega
  have k9 : (t.kind == 9) = false := by rw [beq_eq_false_iff_ne]; omega
  have k10 : (t.kind == 10) = false := by rw [beq_eq_false_iff_ne]; omega
  have HF := Lib.hid (fits_none hk)
  clear hk hg hq hb0
  go_enter Tryd.func40, Tryd.ntmps40
  go_wp2
  go_ret
  exact ⟨by rw [HF.out]; rfl, HB0.out⟩

theorem ofits_walk (t : Sh) (q : Ptr) (w : World) (hq : ShAt w w.heap.size q t) (hg : WGlobs w) (hz : t.parts.length ≤ 1000000) :
    Calls Tryd.prog 40 #[.agg #[.int .i64 t.kind, .string ⟨t.of_.toArray⟩, .string ⟨t.name.toArray⟩, .slice q.A t.names.length q.c, .slice q.P t.parts.length q.d]] w fun e w' => e = .returned (.bool (fits t)) ∧ Below w.heap.size w w' := by
  by_cases h : t.kind < 1 ∨ 10 < t.kind
  · exact ofits_none t q w hq hg h
  · have : t.kind = 1 ∨ t.kind = 2 ∨ t.kind = 3 ∨ t.kind = 4 ∨ t.kind = 5 ∨ t.kind = 6 ∨ t.kind = 7 ∨ t.kind = 8 ∨ t.kind = 9 ∨ t.kind = 10 := by omega
    rcases this with h | h | h | h | h | h | h | h | h | h
    · exact ofits_1 t q w hq hg h
    · exact ofits_2 t q w hq hg h
    · exact ofits_3 t q w hq hg h
    · exact ofits_4 t q w hq hg h
    · exact ofits_5 t q w hq hg h
    · exact ofits_6 t q w hq hg h hz
    · exact ofits_7 t q w hq hg h hz
    · exact ofits_8 t q w hq hg h
    · exact ofits_9 t q w hq hg h
    · exact ofits_10 t q w hq hg h
end Go.Proofs.YtkehnmapnckdgaaDoor
