/- ShpO10, ShpO10a, ShpO10b, ShpO10c, ShpO10d, together. -/
import Derived.Test.YtkehnmapnckdgaaDoorGO8
/- The program's written of layer 7, kind by kind (but for functions). -/
namespace Go.Proofs.YtkehnmapnckdgaaDoor
open Go.RowKit Shp
set_option linter.unusedVariables false

/-- What is asked of the parts. -/
def Wr7 (t : Sh) : Prop := ∀ x ∈ t.parts, ∀ (q : Ptr) (w : World), ShAt w w.heap.size q x → WGlobs w → Calls Tryd.prog 36 #[.agg #[.int .i64 x.kind, .string ⟨x.of_.toArray⟩, .string ⟨x.name.toArray⟩, .slice q.A x.names.length q.c, .slice q.P x.parts.length q.d]] w fun e w' => e = .returned (.string ⟨(text x).toArray⟩) ∧ Below w.heap.size w w'

theorem map_data7 (ts : List (List UInt8)) : (ts.map (fun t => (⟨t.toArray⟩ : ByteArray))).map (·.data.toList) = ts := by
  rw [List.map_map]
  conv => rhs; rw [← List.map_id ts]
  rfl
/-- strings.Join of a row of texts that the call made. -/
theorem join7_walk (g : Nat) (ts : List (List UInt8)) (sep : List UInt8) (w : World) (h : TxR w g ts) (hl : ts.length ≤ 1000000) (hj : (join sep ts).length ≤ 1000000) :
    Calls Tryd.prog 50 #[.slice (some ⟨g, 0, none⟩) ts.length ts.length, .string ⟨sep.toArray⟩] w fun e w' => e = .returned (.string ⟨(join sep ts).toArray⟩) ∧ Below w.heap.size w w' := by
  have hj' : (Lib.join ((ts.map (fun t => (⟨t.toArray⟩ : ByteArray))).map (·.data.toList)) (⟨sep.toArray⟩ : ByteArray).data.toList) = join sep ts := by rw [map_data7]; rfl
  have := join_walk g 0 ts.length (ts.map (fun t => (⟨t.toArray⟩ : ByteArray))) ⟨sep.toArray⟩ w (fun j x hx => by
    rw [List.getElem?_map] at hx
    have hj : j < ts.length := by
      rcases Nat.lt_or_ge j ts.length with h | h
      · exact h
      · rw [List.getElem?_eq_none h] at hx; cases hx
    rw [List.getElem?_eq_getElem hj] at hx
    rw [Nat.zero_add, h.at_ j hj]
    simpa using hx) h.lt (by simp; omega) (by simp) (by rw [hj']; omega)
  rwa [hj', List.length_map] at this

end Go.Proofs.YtkehnmapnckdgaaDoor

/- The program's written of layer 7: kinds. -/
namespace Go.Proofs.YtkehnmapnckdgaaDoor
open Go.RowKit Shp
set_option linter.unusedVariables false

set_option maxRecDepth 100000 in
set_option maxHeartbeats 2000000 in
theorem written_1 (t : Sh) (q : Ptr) (w : World) (hq : ShAt w w.heap.size q t) (hg : WGlobs w) (hr : right t = true) (hz : size t ≤ 400) (hf : Wr7 t) (hk : t.kind = 1) :
    Calls Tryd.prog 36 #[.agg #[.int .i64 t.kind, .string ⟨t.of_.toArray⟩, .string ⟨t.name.toArray⟩, .slice q.A t.names.length q.c, .slice q.P t.parts.length q.d]] w fun e w' => e = .returned (.string ⟨(text t).toArray⟩) ∧ Below w.heap.size w w' := by
  have hb0 := below_one w (.cells #[.int .i64 t.kind, .string ⟨t.of_.toArray⟩, .string ⟨t.name.toArray⟩, .slice q.A t.names.length q.c, .slice q.P t.parts.length q.d] 25)
  have HB := Lib.hid (box5_new w t q)
  have HB0 := Lib.hid hb0
  have HQ := Lib.hid hq
  obtain ⟨_, ⟨c0, c1, c2, c3, c4⟩, _⟩ := HB.out
  have k5 : (t.kind == 5) = false := by rw [hk]; rfl
  have k6 : (t.kind == 6) = false := by rw [hk]; rfl
  have k7 : (t.kind == 7) = false := by rw [hk]; rfl
  have k8 : (t.kind == 8) = false := by rw [hk]; rfl
  have k9 : (t.kind == 9) = false := by rw [hk]; rfl
  have k10 : (t.kind == 10) = false := by rw [hk]; rfl
  have HT := Lib.hid (text_kind_1 hk)
  have gc : (w.alloc (.cells #[.int .i64 t.kind, .string ⟨t.of_.toArray⟩, .string ⟨t.name.toArray⟩, .slice q.A t.names.length q.c, .slice q.P t.parts.length q.d] 25)).cell? ⟨0, 1, none⟩ = some (.string ⟨#[73, 110, 116]⟩) := (WGlobs.cell (hg.next hb0) 1).trans rfl
  have HB1 := HB0.out
  rw [hk] at c0 gc HB1
  have HB2 := Lib.hid HB1
  clear hb0 hq hg hr hz hf HB1 c1 c2 c3 c4
  go_enter Tryd.func36, Tryd.ntmps36
  go_wp2
  go_ret
  exact ⟨by rw [HT.out]; rfl, HB2.out⟩

set_option maxRecDepth 100000 in
set_option maxHeartbeats 2000000 in
theorem written_2 (t : Sh) (q : Ptr) (w : World) (hq : ShAt w w.heap.size q t) (hg : WGlobs w) (hr : right t = true) (hz : size t ≤ 400) (hf : Wr7 t) (hk : t.kind = 2) :
    Calls Tryd.prog 36 #[.agg #[.int .i64 t.kind, .string ⟨t.of_.toArray⟩, .string ⟨t.name.toArray⟩, .slice q.A t.names.length q.c, .slice q.P t.parts.length q.d]] w fun e w' => e = .returned (.string ⟨(text t).toArray⟩) ∧ Below w.heap.size w w' := by
  have hb0 := below_one w (.cells #[.int .i64 t.kind, .string ⟨t.of_.toArray⟩, .string ⟨t.name.toArray⟩, .slice q.A t.names.length q.c, .slice q.P t.parts.length q.d] 25)
  have HB := Lib.hid (box5_new w t q)
  have HB0 := Lib.hid hb0
  have HQ := Lib.hid hq
  obtain ⟨_, ⟨c0, c1, c2, c3, c4⟩, _⟩ := HB.out
  have k5 : (t.kind == 5) = false := by rw [hk]; rfl
  have k6 : (t.kind == 6) = false := by rw [hk]; rfl
  have k7 : (t.kind == 7) = false := by rw [hk]; rfl
  have k8 : (t.kind == 8) = false := by rw [hk]; rfl
  have k9 : (t.kind == 9) = false := by rw [hk]; rfl
  have k10 : (t.kind == 10) = false := by rw [hk]; rfl
  have HT := Lib.hid (text_kind_2 hk)
  have gc : (w.alloc (.cells #[.int .i64 t.kind, .string ⟨t.of_.toArray⟩, .string ⟨t.name.toArray⟩, .slice q.A t.names.length q.c, .slice q.P t.parts.length q.d] 25)).cell? ⟨0, 2, none⟩ = some (.string ⟨#[66, 111, 111, 108]⟩) := (WGlobs.cell (hg.next hb0) 2).trans rfl
  have HB1 := HB0.out
  rw [hk] at c0 gc HB1
  have HB2 := Lib.hid HB1
  clear hb0 hq hg hr hz hf HB1 c1 c2 c3 c4
  go_enter Tryd.func36, Tryd.ntmps36
  go_wp2
  go_ret
  exact ⟨by rw [HT.out]; rfl, HB2.out⟩

set_option maxRecDepth 100000 in
set_option maxHeartbeats 2000000 in
theorem written_3 (t : Sh) (q : Ptr) (w : World) (hq : ShAt w w.heap.size q t) (hg : WGlobs w) (hr : right t = true) (hz : size t ≤ 400) (hf : Wr7 t) (hk : t.kind = 3) :
    Calls Tryd.prog 36 #[.agg #[.int .i64 t.kind, .string ⟨t.of_.toArray⟩, .string ⟨t.name.toArray⟩, .slice q.A t.names.length q.c, .slice q.P t.parts.length q.d]] w fun e w' => e = .returned (.string ⟨(text t).toArray⟩) ∧ Below w.heap.size w w' := by
  have hb0 := below_one w (.cells #[.int .i64 t.kind, .string ⟨t.of_.toArray⟩, .string ⟨t.name.toArray⟩, .slice q.A t.names.length q.c, .slice q.P t.parts.length q.d] 25)
  have HB := Lib.hid (box5_new w t q)
  have HB0 := Lib.hid hb0
  have HQ := Lib.hid hq
  obtain ⟨_, ⟨c0, c1, c2, c3, c4⟩, _⟩ := HB.out
  have k5 : (t.kind == 5) = false := by rw [hk]; rfl
  have k6 : (t.kind == 6) = false := by rw [hk]; rfl
  have k7 : (t.kind == 7) = false := by rw [hk]; rfl
  have k8 : (t.kind == 8) = false := by rw [hk]; rfl
  have k9 : (t.kind == 9) = false := by rw [hk]; rfl
  have k10 : (t.kind == 10) = false := by rw [hk]; rfl
  have HT := Lib.hid (text_kind_3 hk)
  have gc : (w.alloc (.cells #[.int .i64 t.kind, .string ⟨t.of_.toArray⟩, .string ⟨t.name.toArray⟩, .slice q.A t.names.length q.c, .slice q.P t.parts.length q.d] 25)).cell? ⟨0, 3, none⟩ = some (.string ⟨#[84, 101, 120, 116]⟩) := (WGlobs.cell (hg.next hb0) 3).trans rfl
  have HB1 := HB0.out
  rw [hk] at c0 gc HB1
  have HB2 := Lib.hid HB1
  clear hb0 hq hg hr hz hf HB1 c1 c2 c3 c4
  go_enter Tryd.func36, Tryd.ntmps36
  go_wp2
  go_ret
  exact ⟨by rw [HT.out]; rfl, HB2.out⟩

set_option maxRecDepth 100000 in
set_option maxHeartbeats 2000000 in
theorem written_4 (t : Sh) (q : Ptr) (w : World) (hq : ShAt w w.heap.size q t) (hg : WGlobs w) (hr : right t = true) (hz : size t ≤ 400) (hf : Wr7 t) (hk : t.kind = 4) :
    Calls Tryd.prog 36 #[.agg #[.int .i64 t.kind, .string ⟨t.of_.toArray⟩, .string ⟨t.name.toArray⟩, .slice q.A t.names.length q.c, .slice q.P t.parts.length q.d]] w fun e w' => e = .returned (.string ⟨(text t).toArray⟩) ∧ Below w.heap.size w w' := by
  have hb0 := below_one w (.cells #[.int .i64 t.kind, .string ⟨t.of_.toArray⟩, .string ⟨t.name.toArray⟩, .slice q.A t.names.length q.c, .slice q.P t.parts.length q.d] 25)
  have HB := Lib.hid (box5_new w t q)
  have HB0 := Lib.hid hb0
  have HQ := Lib.hid hq
  obtain ⟨_, ⟨c0, c1, c2, c3, c4⟩, _⟩ := HB.out
  have k5 : (t.kind == 5) = false := by rw [hk]; rfl
  have k6 : (t.kind == 6) = false := by rw [hk]; rfl
  have k7 : (t.kind == 7) = false := by rw [hk]; rfl
  have k8 : (t.kind == 8) = false := by rw [hk]; rfl
  have k9 : (t.kind == 9) = false := by rw [hk]; rfl
  have k10 : (t.kind == 10) = false := by rw [hk]; rfl
  have HT := Lib.hid (text_kind_4 hk)
  have gc : (w.alloc (.cells #[.int .i64 t.kind, .string ⟨t.of_.toArray⟩, .string ⟨t.name.toArray⟩, .slice q.A t.names.length q.c, .slice q.P t.parts.length q.d] 25)).cell? ⟨0, 4, none⟩ = some (.string ⟨#[65, 110, 121]⟩) := (WGlobs.cell (hg.next hb0) 4).trans rfl
  have HB1 := HB0.out
  rw [hk] at c0 gc HB1
  have HB2 := Lib.hid HB1
  clear hb0 hq hg hr hz hf HB1 c1 c2 c3 c4
  go_enter Tryd.func36, Tryd.ntmps36
  go_wp2
  go_ret
  exact ⟨by rw [HT.out]; rfl, HB2.out⟩

end Go.Proofs.YtkehnmapnckdgaaDoor

/- The program's written of layer 7: kinds. -/
namespace Go.Proofs.YtkehnmapnckdgaaDoor
open Go.RowKit Shp
set_option linter.unusedVariables false

set_option maxRecDepth 100000 in
set_option maxHeartbeats 2000000 in
theorem written_5 (t : Sh) (q : Ptr) (w : World) (hq : ShAt w w.heap.size q t) (hg : WGlobs w) (hr : right t = true) (hz : size t ≤ 400) (hf : Wr7 t) (hk : t.kind = 5) :
    Calls Tryd.prog 36 #[.agg #[.int .i64 t.kind, .string ⟨t.of_.toArray⟩, .string ⟨t.name.toArray⟩, .slice q.A t.names.length q.c, .slice q.P t.parts.length q.d]] w fun e w' => e = .returned (.string ⟨(text t).toArray⟩) ∧ Below w.heap.size w w' := by
  have hb0 := below_one w (.cells #[.int .i64 t.kind, .string ⟨t.of_.toArray⟩, .string ⟨t.name.toArray⟩, .slice q.A t.names.length q.c, .slice q.P t.parts.length q.d] 25)
  have HB := Lib.hid (box5_new w t q)
  have HB0 := Lib.hid hb0
  have HQ := Lib.hid hq
  obtain ⟨_, ⟨c0, c1, c2, c3, c4⟩, _⟩ := HB.out
  have k5 : (t.kind == 5) = true := by rw [hk]; rfl
  have k6 : (t.kind == 6) = false := by rw [hk]; rfl
  have k7 : (t.kind == 7) = false := by rw [hk]; rfl
  have k8 : (t.kind == 8) = false := by rw [hk]; rfl
  have k9 : (t.kind == 9) = false := by rw [hk]; rfl
  have k10 : (t.kind == 10) = false := by rw [hk]; rfl
  have HT := Lib.hid (text_kind_5 hk)
  have h1 : t.parts.length = 1 := by
    rcases fits_kinds (right_fits hr) with ⟨_, h, _⟩ | ⟨_, _, h⟩ | ⟨h, _⟩ | ⟨h, _⟩ | ⟨h, _⟩
    · omega
    · exact h
    · omega
    · omega
    · omega
  obtain ⟨g, off, qs, hP⟩ := (hq.next hb0).lies
  rcases hP with h0 | ⟨hqP, hgl, hc, hrr⟩
  · omega
  · obtain ⟨x, hx⟩ : ∃ x, x = t.parts[0]'(by omega) := ⟨_, rfl⟩
    obtain ⟨p0, p1, p2, p3, p4⟩ := hc 0 (by omega)
    have hat := hrr 0 (by omega)
    have hfx := hf t.parts[0] (List.getElem_mem _)
    have hxs : (text x).length ≤ 40000 := by
      have hm : x ∈ t.parts := by rw [hx]; exact List.getElem_mem _
      refine text_small (right_part hr hm) ?_
      have := sizes_mem hm
      rw [size_eq] at hz; omega
    have HX : Hid ((t.parts.map text).headD [] = text x) := Lib.hid (by
      rw [hx, List.headD_eq_head?_getD, List.head?_eq_getElem?, List.getElem?_map, List.getElem?_eq_getElem (by omega)]; rfl)
    have hi2 : 0 < t.parts.length := by omega
    rw [← hx] at p0 p1 p2 p3 p4 hat hfx
    simp only [Nat.zero_mul, Nat.add_zero] at p0 p1 p2 p3 p4
    have IH := hfx (qs 0) _ hat (hg.next hb0)
    have hi1 : (0 : Int) < (t.parts.length : Int) := by omega
    have z1 : (⟨(text x).toArray⟩ : ByteArray).size = (text x).length := size_list _
    obtain ⟨tx, htx⟩ : ∃ tx, tx = text x := ⟨_, rfl⟩
    rw [← htx] at HX IH hxs z1
    have HIH := Lib.hid IH
    have HQP := Lib.hid hqP
    clear hb0 hq hg hr hz hf hx hc hrr hat hfx h1 hk htx IH hqP
    go_enter Tryd.func36, Tryd.ntmps36
    go_upto_region 1 with fail
    generalize w.alloc (.cells #[.int .i64 t.kind, .string ⟨t.of_.toArray⟩, .string ⟨t.name.toArray⟩, .slice q.A t.names.length q.c, .slice q.P t.parts.length q.d] 25) = W0 at HB HB0 c0 c1 c2 c3 c4 p0 p1 p2 p3 p4 HIH ⊢
    rw [HQP.out] at c4
    go_wp2_with fail
    refine HIH.out.mono ?_
    rintro e w' ⟨rfl, hb'⟩
    go_wp2
    go_ret
    exact ⟨ret_text7 (by rw [HT.out, HX.out, ← cat7, ← cat7]), below_next HB0.out hb'⟩

end Go.Proofs.YtkehnmapnckdgaaDoor

/- The program's written of layer 7: kinds. -/
namespace Go.Proofs.YtkehnmapnckdgaaDoor
open Go.RowKit Shp
set_option linter.unusedVariables false

set_option maxRecDepth 100000 in
set_option maxHeartbeats 2000000 in
theorem written_6 (t : Sh) (q : Ptr) (w : World) (hq : ShAt w w.heap.size q t) (hg : WGlobs w) (hr : right t = true) (hz : size t ≤ 400) (hf : Wr7 t) (hk : t.kind = 6) :
    Calls Tryd.prog 36 #[.agg #[.int .i64 t.kind, .string ⟨t.of_.toArray⟩, .string ⟨t.name.toArray⟩, .slice q.A t.names.length q.c, .slice q.P t.parts.length q.d]] w fun e w' => e = .returned (.string ⟨(text t).toArray⟩) ∧ Below w.heap.size w w' := by
  have hb0 := below_one w (.cells #[.int .i64 t.kind, .string ⟨t.of_.toArray⟩, .string ⟨t.name.toArray⟩, .slice q.A t.names.length q.c, .slice q.P t.parts.length q.d] 25)
  have HB := Lib.hid (box5_new w t q)
  have HB0 := Lib.hid hb0
  have HQ := Lib.hid hq
  obtain ⟨_, ⟨c0, c1, c2, c3, c4⟩, _⟩ := HB.out
  have k5 : (t.kind == 5) = false := by rw [hk]; rfl
  have k6 : (t.kind == 6) = true := by rw [hk]; rfl
  have k7 : (t.kind == 7) = false := by rw [hk]; rfl
  have k8 : (t.kind == 8) = false := by rw [hk]; rfl
  have k9 : (t.kind == 9) = false := by rw [hk]; rfl
  have k10 : (t.kind == 10) = false := by rw [hk]; rfl
  have HT := Lib.hid (text_kind_6 hk)
  obtain ⟨hn, ha⟩ : t.names.length = t.parts.length ∧ areNames t.names = true := by
    rcases fits_kinds (right_fits hr) with ⟨_, h, _⟩ | ⟨h, _⟩ | ⟨_, h1, h2⟩ | ⟨h, _⟩ | ⟨h, _⟩
    · omega
    · omega
    · exact ⟨h1, h2⟩
    · omega
    · omega
  have hlp : t.parts.length ≤ 400 := by have := length_sizes t.parts; rw [size_eq] at hz; omega
  have htx : ∀ x ∈ t.parts.map text, x.length ≤ 1000000 := fun x hx => by
    obtain ⟨p, hp, rfl⟩ := List.mem_map.1 hx
    have := text_small (right_part hr hp) (by have := sizes_mem hp; rw [size_eq] at hz; omega)
    omega
  obtain ⟨hft, hfl⟩ := fields_total hn ha
  have htt := total_texts (l := t.parts) (fun p hp => text_len (right_part hr hp))
  have hjl : (join [44, 32] (fields t.names (t.parts.map text))).length ≤ 1000000 := by
    have := join_len [44, 32] (fields t.names (t.parts.map text))
    have : sizes t.parts ≤ 400 := by rw [size_eq] at hz; omega
    simp only [List.length_cons, List.length_nil] at *
    omega
  have hw := wfields_walk t q _ (hq.next hb0) (by omega) (hg.next hb0) hn (fun x hx => by have := areNames_len ha x hx; omega) htx hf
  have hJ := fun (g : Nat) (W : World) (h : TxR W g (fields t.names (t.parts.map text))) => join7_walk g (fields t.names (t.parts.map text)) [44, 32] W h (by omega) hjl
  rw [hfl] at hJ
  obtain ⟨j, hj⟩ : ∃ j, j = join [44, 32] (fields t.names (t.parts.map text)) := ⟨_, rfl⟩
  rw [← hj] at hJ HT hjl
  have HW := Lib.hid hw
  have HJ := Lib.hid hJ
  have z1 : (⟨j.toArray⟩ : ByteArray).size = j.length := size_list _
  clear hb0 hq hg hr hz hf hn ha htx hft hfl htt hw hJ hj hk hlp
  go_enter Tryd.func36, Tryd.ntmps36
  go_wp2_with fail
  refine HW.out.mono ?_
  rintro e w1 ⟨g, rfl, hT, hb1⟩
  have hjw := HJ.out g w1 hT
  go_wp2_with fail
  refine hjw.mono ?_
  rintro e w2 ⟨rfl, hb2⟩
  have HBW : Hid (Below w.heap.size w w2) := Lib.hid (below_next (below_next HB0.out hb1) hb2)
  clear hjw hT hb1 hb2 c0 c1 c2 c3 c4 k5 k6 k7 k8 k9 k10
  go_wp2
  go_ret
  exact ⟨ret_text7 (by rw [HT.out, ← cat7, ← cat7]), HBW.out⟩

set_option maxRecDepth 100000 in
set_option maxHeartbeats 2000000 in
theorem written_7 (t : Sh) (q : Ptr) (w : World) (hq : ShAt w w.heap.size q t) (hg : WGlobs w) (hr : right t = true) (hz : size t ≤ 400) (hf : Wr7 t) (hk : t.kind = 7) :
    Calls Tryd.prog 36 #[.agg #[.int .i64 t.kind, .string ⟨t.of_.toArray⟩, .string ⟨t.name.toArray⟩, .slice q.A t.names.length q.c, .slice q.P t.parts.length q.d]] w fun e w' => e = .returned (.string ⟨(text t).toArray⟩) ∧ Below w.heap.size w w' := by
  have hb0 := below_one w (.cells #[.int .i64 t.kind, .string ⟨t.of_.toArray⟩, .string ⟨t.name.toArray⟩, .slice q.A t.names.length q.c, .slice q.P t.parts.length q.d] 25)
  have HB := Lib.hid (box5_new w t q)
  have HB0 := Lib.hid hb0
  have HQ := Lib.hid hq
  obtain ⟨_, ⟨c0, c1, c2, c3, c4⟩, _⟩ := HB.out
  have k5 : (t.kind == 5) = false := by rw [hk]; rfl
  have k6 : (t.kind == 6) = false := by rw [hk]; rfl
  have k7 : (t.kind == 7) = true := by rw [hk]; rfl
  have k8 : (t.kind == 8) = false := by rw [hk]; rfl
  have k9 : (t.kind == 9) = false := by rw [hk]; rfl
  have k10 : (t.kind == 10) = false := by rw [hk]; rfl
  have HT := Lib.hid (text_kind_7 hk)
  obtain ⟨hn, ha⟩ : t.names.length = t.parts.length ∧ areNames t.names = true := by
    rcases fits_kinds (right_fits hr) with ⟨_, h, _⟩ | ⟨h, _⟩ | ⟨_, h1, h2⟩ | ⟨h, _⟩ | ⟨h, _⟩
    · omega
    · omega
    · exact ⟨h1, h2⟩
    · omega
    · omega
  have hlp : t.parts.length ≤ 400 := by have := length_sizes t.parts; rw [size_eq] at hz; omega
  have htx : ∀ x ∈ t.parts.map text, x.length ≤ 1000000 := fun x hx => by
    obtain ⟨p, hp, rfl⟩ := List.mem_map.1 hx
    have := text_small (right_part hr hp) (by have := sizes_mem hp; rw [size_eq] at hz; omega)
    omega
  obtain ⟨hft, hfl⟩ := fields_total hn ha
  have htt := total_texts (l := t.parts) (fun p hp => text_len (right_part hr hp))
  have hjl : (join [32, 124, 32] (fields t.names (t.parts.map text))).length ≤ 1000000 := by
    have := join_len [32, 124, 32] (fields t.names (t.parts.map text))
    have : sizes t.parts ≤ 400 := by rw [size_eq] at hz; omega
    simp only [List.length_cons, List.length_nil] at *
    omega
  have hw := wfields_walk t q _ (hq.next hb0) (by omega) (hg.next hb0) hn (fun x hx => by have := areNames_len ha x hx; omega) htx hf
  have hJ := fun (g : Nat) (W : World) (h : TxR W g (fields t.names (t.parts.map text))) => join7_walk g (fields t.names (t.parts.map text)) [32, 124, 32] W h (by omega) hjl
  rw [hfl] at hJ
  obtain ⟨j, hj⟩ : ∃ j, j = join [32, 124, 32] (fields t.names (t.parts.map text)) := ⟨_, rfl⟩
  rw [← hj] at hJ HT hjl
  have HW := Lib.hid hw
  have HJ := Lib.hid hJ
  have z1 : (⟨j.toArray⟩ : ByteArray).size = j.length := size_list _
  clear hb0 hq hg hr hz hf hn ha htx hft hfl htt hw hJ hj hk hlp
  go_enter Tryd.func36, Tryd.ntmps36
  go_wp2_with fail
  refine HW.out.mono ?_
  rintro e w1 ⟨g, rfl, hT, hb1⟩
  have hjw := HJ.out g w1 hT
  go_wp2_with fail
  refine hjw.mono ?_
  rintro e w2 ⟨rfl, hb2⟩
  have HBW : Hid (Below w.heap.size w w2) := Lib.hid (below_next (below_next HB0.out hb1) hb2)
  clear hjw hT hb1 hb2 c0 c1 c2 c3 c4 k5 k6 k7 k8 k9 k10
  go_wp2
  go_ret
  exact ⟨ret_text7 (by rw [HT.out, ← cat7, ← cat7]), HBW.out⟩

end Go.Proofs.YtkehnmapnckdgaaDoor

/- The program's written of layer 7: kinds. -/
namespace Go.Proofs.YtkehnmapnckdgaaDoor
open Go.RowKit Shp
set_option linter.unusedVariables false

set_option maxRecDepth 100000 in
set_option maxHeartbeats 2000000 in
theorem written_9 (t : Sh) (q : Ptr) (w : World) (hq : ShAt w w.heap.size q t) (hg : WGlobs w) (hr : right t = true) (hz : size t ≤ 400) (hf : Wr7 t) (hk : t.kind = 9) :
    Calls Tryd.prog 36 #[.agg #[.int .i64 t.kind, .string ⟨t.of_.toArray⟩, .string ⟨t.name.toArray⟩, .slice q.A t.names.length q.c, .slice q.P t.parts.length q.d]] w fun e w' => e = .returned (.string ⟨(text t).toArray⟩) ∧ Below w.heap.size w w' := by
  have hb0 := below_one w (.cells #[.int .i64 t.kind, .string ⟨t.of_.toArray⟩, .string ⟨t.name.toArray⟩, .slice q.A t.names.length q.c, .slice q.P t.parts.length q.d] 25)
  have HB := Lib.hid (box5_new w t q)
  have HB0 := Lib.hid hb0
  have HQ := Lib.hid hq
  obtain ⟨_, ⟨c0, c1, c2, c3, c4⟩, _⟩ := HB.out
  have k5 : (t.kind == 5) = false := by rw [hk]; rfl
  have k6 : (t.kind == 6) = false := by rw [hk]; rfl
  have k7 : (t.kind == 7) = false := by rw [hk]; rfl
  have k8 : (t.kind == 8) = false := by rw [hk]; rfl
  have k9 : (t.kind == 9) = true := by rw [hk]; rfl
  have k10 : (t.kind == 10) = false := by rw [hk]; rfl
  have HT := Lib.hid (text_kind_9 (t := t) (by first | exact Or.inl hk | exact Or.inr hk))
  obtain ⟨hl, ho⟩ : t.name.length ≤ 24 ∧ t.of_.length ≤ 24 := by
    rcases fits_kinds (right_fits hr) with ⟨_, h, _⟩ | ⟨h, _⟩ | ⟨h, _⟩ | ⟨h, _⟩ | ⟨_, _, _, h1, h2⟩
    · omega
    · omega
    · omega
    · omega
    · exact ⟨h1, h2⟩
  have hw := wname_walk t q (w.alloc (.cells #[.int .i64 t.kind, .string ⟨t.of_.toArray⟩, .string ⟨t.name.toArray⟩, .slice q.A t.names.length q.c, .slice q.P t.parts.length q.d] 25)) (by omega) (by omega)
  clear hb0 hq hg hr hz hf hl ho hk
  go_enter Tryd.func36, Tryd.ntmps36
  go_wp2_with fail
  refine hw.mono ?_
  rintro e w' ⟨rfl, hb'⟩
  go_wp2
  go_ret
  exact ⟨ret_text7 (by rw [HT.out]), below_next HB0.out hb'⟩

set_option maxRecDepth 100000 in
set_option maxHeartbeats 2000000 in
theorem written_10 (t : Sh) (q : Ptr) (w : World) (hq : ShAt w w.heap.size q t) (hg : WGlobs w) (hr : right t = true) (hz : size t ≤ 400) (hf : Wr7 t) (hk : t.kind = 10) :
    Calls Tryd.prog 36 #[.agg #[.int .i64 t.kind, .string ⟨t.of_.toArray⟩, .string ⟨t.name.toArray⟩, .slice q.A t.names.length q.c, .slice q.P t.parts.length q.d]] w fun e w' => e = .returned (.string ⟨(text t).toArray⟩) ∧ Below w.heap.size w w' := by
  have hb0 := below_one w (.cells #[.int .i64 t.kind, .string ⟨t.of_.toArray⟩, .string ⟨t.name.toArray⟩, .slice q.A t.names.length q.c, .slice q.P t.parts.length q.d] 25)
  have HB := Lib.hid (box5_new w t q)
  have HB0 := Lib.hid hb0
  have HQ := Lib.hid hq
  obtain ⟨_, ⟨c0, c1, c2, c3, c4⟩, _⟩ := HB.out
  have k5 : (t.kind == 5) = false := by rw [hk]; rfl
  have k6 : (t.kind == 6) = false := by rw [hk]; rfl
  have k7 : (t.kind == 7) = false := by rw [hk]; rfl
  have k8 : (t.kind == 8) = false := by rw [hk]; rfl
  have k9 : (t.kind == 9) = false := by rw [hk]; rfl
  have k10 : (t.kind == 10) = true := by rw [hk]; rfl
  have HT := Lib.hid (text_kind_9 (t := t) (by first | exact Or.inl hk | exact Or.inr hk))
  obtain ⟨hl, ho⟩ : t.name.length ≤ 24 ∧ t.of_.length ≤ 24 := by
    rcases fits_kinds (right_fits hr) with ⟨_, h, _⟩ | ⟨h, _⟩ | ⟨h, _⟩ | ⟨h, _⟩ | ⟨_, _, _, h1, h2⟩
    · omega
    · omega
    · omega
    · omega
    · exact ⟨h1, h2⟩
  have hw := wname_walk t q (w.alloc (.cells #[.int .i64 t.kind, .string ⟨t.of_.toArray⟩, .string ⟨t.name.toArray⟩, .slice q.A t.names.length q.c, .slice q.P t.parts.length q.d] 25)) (by omega) (by omega)
  clear hb0 hq hg hr hz hf hl ho hk
  go_enter Tryd.func36, Tryd.ntmps36
  go_wp2_with fail
  refine hw.mono ?_
  rintro e w' ⟨rfl, hb'⟩
  go_wp2
  go_ret
  exact ⟨ret_text7 (by rw [HT.out]), below_next HB0.out hb'⟩

end Go.Proofs.YtkehnmapnckdgaaDoor
