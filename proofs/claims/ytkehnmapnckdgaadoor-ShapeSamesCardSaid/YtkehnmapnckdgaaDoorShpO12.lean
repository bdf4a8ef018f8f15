/- The program's written and Show of layer 7. -/
import Derived.Test.YtkehnmapnckdgaaDoorGW
import Derived.Test.YtkehnmapnckdgaaDoorShpO11
import Derived.Test.YtkehnmapnckdgaaDoorShpO7
namespace Go.Proofs.YtkehnmapnckdgaaDoor
open Go.RowKit Shp
set_option linter.unusedVariables false

theorem written_walk (t : Sh) : ∀ (q : Ptr) (w : World), ShAt w w.heap.size q t → WGlobs w → right t = true → size t ≤ 400 →
    Calls Tryd.prog 36 #[.agg #[.int .i64 t.kind, .string ⟨t.of_.toArray⟩, .string ⟨t.name.toArray⟩, .slice q.A t.names.length q.c, .slice q.P t.parts.length q.d]] w fun e w' => e = .returned (.string ⟨(text t).toArray⟩) ∧ Below w.heap.size w w' := by
  induction t using Sh.ind with
  | h t ih =>
  intro q w hq hg hr hz
  have hf : Wr7 t := fun x hx q' w' h1 h2 => ih x hx q' w' h1 h2 (right_part hr hx) (by have := sizes_mem hx; rw [size_eq] at hz; omega)
  rcases fits_kinds (right_fits hr) with ⟨h1, h2, _, _⟩ | ⟨h, _⟩ | ⟨h, _⟩ | ⟨h, _⟩ | ⟨h, _⟩
  · have : t.kind = 1 ∨ t.kind = 2 ∨ t.kind = 3 ∨ t.kind = 4 := by omega
    rcases this with h | h | h | h
    · exact written_1 t q w hq hg hr hz hf h
    · exact written_2 t q w hq hg hr hz hf h
    · exact written_3 t q w hq hg hr hz hf h
    · exact written_4 t q w hq hg hr hz hf h
  · exact written_5 t q w hq hg hr hz hf h
  · rcases h with h | h
    · exact written_6 t q w hq hg hr hz hf h
    · exact written_7 t q w hq hg hr hz hf h
  · exact written_8 t q w hq hg hr hz hf h
  · rcases h with h | h
    · exact written_9 t q w hq hg hr hz hf h
    · exact written_10 t q w hq hg hr hz hf h

/-- What Show tells. -/
def show7 (t : Sh) : List UInt8 := if check t = 0 then text t else []
theorem check_ok {t : Sh} (h : check t = 0) : size t ≤ 400 ∧ deep t ≤ 40 ∧ right t = true := by
  unfold check at h
  by_cases h4 : 400 < size t
  · rw [if_pos h4] at h; omega
  · rw [if_neg h4] at h
    by_cases h40 : 40 < deep t
    · rw [if_pos h40] at h; omega
    · rw [if_neg h40] at h
      cases hr : right t with
      | false => rw [hr] at h; simp at h
      | true => exact ⟨by omega, by omega, rfl⟩

set_option maxRecDepth 100000 in
theorem oShow_walk (t : Sh) (q : Ptr) (w : World) (hq : ShAt w w.heap.size q t) (hg : WGlobs w) :
    Calls Tryd.prog 23 #[.agg #[.int .i64 t.kind, .string ⟨t.of_.toArray⟩, .string ⟨t.name.toArray⟩, .slice q.A t.names.length q.c, .slice q.P t.parts.length q.d]] w fun e w' => e = .returned (.tuple #[.string ⟨(show7 t).toArray⟩, .int .i64 (check t)]) ∧ Below w.heap.size w w' := by
  have hb0 := below_one w (.cells #[.int .i64 t.kind, .string ⟨t.of_.toArray⟩, .string ⟨t.name.toArray⟩, .slice q.A t.names.length q.c, .slice q.P t.parts.length q.d] 25)
  have hm := oCheck_walk t q _ (hq.next hb0) (hg.next hb0)
  have HB0 := Lib.hid hb0
  have HB := Lib.hid (box5_new w t q)
  have HQ := Lib.hid hq
  have HG := Lib.hid hg
  have HS : Hid (show7 t = if check t = 0 then text t else []) := Lib.hid rfl
  obtain ⟨_, ⟨c0, c1, c2, c3, c4⟩, _⟩ := HB.out
  clear hb0 hq hg
  by_cases h0 : check t = 0
  · have HF : Hid (show7 t = text t) := Lib.hid (by rw [HS.out, if_pos h0])
    have HH := Lib.hid h0
    rw [h0] at hm
    clear h0
    go_enter Tryd.func23, Tryd.ntmps23
    go_wp2_with fail
    refine hm.mono ?_
    rintro e w1 ⟨rfl, hb1⟩
    have hbw := below_next HB0.out hb1
    obtain ⟨hz, _, hr⟩ := check_ok HH.out
    have hd := written_walk t q w1 (HQ.out.next hbw) (HG.out.next hbw) hr hz
    obtain ⟨_, ⟨d0, d1, d2, d3, d4⟩, _⟩ := HB.out.next hb1
    have HBW := Lib.hid hbw
    clear hm hb1 c0 c1 c2 c3 c4 hbw hz hr
    go_wp2_with fail
    refine hd.mono ?_
    rintro e w' ⟨rfl, hb'⟩
    have HBW2 := Lib.hid (below_next HBW.out hb')
    clear hd hb'
    go_wp2
    go_ret2
    exact ⟨by rw [HF.out, HH.out]; rfl, HBW2.out⟩
  · have HF : Hid (show7 t = []) := Lib.hid (by rw [HS.out, if_neg h0])
    have n0 : (check t != 0) = true := by simpa using h0
    have e0 : (check t == 0) = false := by simpa using h0
    clear h0
    go_enter Tryd.func23, Tryd.ntmps23
    go_wp2_with fail
    refine hm.mono ?_
    rintro e w1 ⟨rfl, hb1⟩
    have HBW := Lib.hid (below_next HB0.out hb1)
    clear hm hb1
    go_wp2
    go_ret2
    exact ⟨by rw [HF.out]; rfl, HBW.out⟩
end Go.Proofs.YtkehnmapnckdgaaDoor
