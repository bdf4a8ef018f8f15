/- The program's written of layer 7: functions. -/
import Derived.Test.YtkehnmapnckdgaaDoorGW
import Derived.Test.YtkehnmapnckdgaaDoorGOrd
namespace Go.Proofs.YtkehnmapnckdgaaDoor
open Go.RowKit Shp
set_option linter.unusedVariables false

theorem lies_take {w : World} {P : Option Addr} {l : List Sh} (h : Lies7 w P l) (n : Nat) : Lies7 w P (l.take n) := by
  obtain ⟨g, off, qs, h⟩ := h
  rcases h with h | ⟨h1, h2, h3, h4⟩
  · exact ⟨g, off, qs, Or.inl (by rw [List.length_take]; omega)⟩
  · refine ⟨g, off, qs, Or.inr ⟨h1, h2, fun i hi => ?_, fun i hi => ?_⟩⟩
    · rw [List.getElem_take]; exact h3 i (by rw [List.length_take] at hi; omega)
    · rw [List.getElem_take]; exact h4 i (by rw [List.length_take] at hi; omega)

/-- A row of texts, as the region leaves it. -/
def wantTx (m : Nat) (ts : List (List UInt8)) : Want := ⟨fun v W => ∃ g, v = .slice (some ⟨g, 0, none⟩) m m ∧ TxR W g ts, fun v w w' hb ⟨g, hv, h⟩ => ⟨g, hv, h.next hb⟩⟩
def w8T (b g off n m d : Nat) (ts : List (List UInt8)) (j tx : List UInt8) (x : Sh) (qx : Ptr) : Nat → Want
  | 0 => .val (.pointer (some ⟨b, 4, none⟩))
  | 1 => .val (.slice (some ⟨g, off, none⟩) n d)
  | 2 => .val (.int .i64 ((n : Int) - 1))
  | 3 => .val (.slice (some ⟨g, off, none⟩) m d)
  | 4 => wantTx m ts
  | 5 => .val (.string ⟨j.toArray⟩)
  | 6 => .val (.string ((⟨#[40]⟩ : ByteArray) ++ (⟨j.toArray⟩ : ByteArray)))
  | 7 => .val (.string ((⟨#[40]⟩ : ByteArray) ++ (⟨j.toArray⟩ : ByteArray) ++ (⟨#[41, 32, 45, 62, 32]⟩ : ByteArray)))
  | 8 => .val (.pointer (some ⟨b, 4, none⟩))
  | 9 => .val (.slice (some ⟨g, off, none⟩) n d)
  | 10 => .val (.int .i64 ((n : Int) - 1))
  | 11 => .val (.pointer (some ⟨g, off + m * 5, none⟩))
  | 12 => .val (.agg #[.int .i64 x.kind, .string ⟨x.of_.toArray⟩, .string ⟨x.name.toArray⟩, .slice qx.A x.names.length qx.c, .slice qx.P x.parts.length qx.d])
  | 13 => .val (.string ⟨tx.toArray⟩)
  | 14 => .val (.string ((⟨#[40]⟩ : ByteArray) ++ (⟨j.toArray⟩ : ByteArray) ++ (⟨#[41, 32, 45, 62, 32]⟩ : ByteArray) ++ (⟨tx.toArray⟩ : ByteArray)))
  | 15 => .val (.string ((⟨#[40]⟩ : ByteArray) ++ (⟨j.toArray⟩ : ByteArray) ++ (⟨#[41, 32, 45, 62, 32]⟩ : ByteArray) ++ (⟨tx.toArray⟩ : ByteArray)))
  | _ => .any

set_option maxRecDepth 100000 in
set_option maxHeartbeats 8000000 in
theorem written_8 (t : Sh) (q : Ptr) (w : World) (hq : ShAt w w.heap.size q t) (hg : WGlobs w) (hr : right t = true) (hz : size t ≤ 400) (hf : Wr7 t) (hk : t.kind = 8) :
    Calls Tryd.prog 36 #[.agg #[.int .i64 t.kind, .string ⟨t.of_.toArray⟩, .string ⟨t.name.toArray⟩, .slice q.A t.names.length q.c, .slice q.P t.parts.length q.d]] w fun e w' => e = .returned (.string ⟨(text t).toArray⟩) ∧ Below w.heap.size w w' := by
  have hb0 := below_one w (.cells #[.int .i64 t.kind, .string ⟨t.of_.toArray⟩, .string ⟨t.name.toArray⟩, .slice q.A t.names.length q.c, .slice q.P t.parts.length q.d] 25)
  have HB := Lib.hid (box5_new w t q)
  have HB0 := Lib.hid hb0
  obtain ⟨_, ⟨c0, c1, c2, c3, c4⟩, _⟩ := HB.out
  have k5 : (t.kind == 5) = false := by rw [hk]; rfl
  have k6 : (t.kind == 6) = false := by rw [hk]; rfl
  have k7 : (t.kind == 7) = false := by rw [hk]; rfl
  have k8 : (t.kind == 8) = true := by rw [hk]; rfl
  have HT := Lib.hid (text_kind_8 hk)
  have h1 : 1 ≤ t.parts.length := by
    rcases fits_kinds (right_fits hr) with ⟨_, h, _⟩ | ⟨h, _⟩ | ⟨h, _⟩ | ⟨_, _, h⟩ | ⟨h, _⟩
    · omega
    · omega
    · omega
    · exact h
    · omega
  have hlp : t.parts.length ≤ 400 := by have := length_sizes t.parts; rw [size_eq] at hz; omega
  obtain ⟨m, hm⟩ : ∃ m, t.parts.length = m + 1 := ⟨t.parts.length - 1, by omega⟩
  obtain ⟨x, hx⟩ : ∃ x, x = t.parts[m]'(by omega) := ⟨_, rfl⟩
  have hxm : x ∈ t.parts := by rw [hx]; exact List.getElem_mem _
  obtain ⟨g, off, qs, hP⟩ := hq.lies
  rcases hP with h0 | ⟨hqP, hgl, hc, hrr⟩
  · omega
  have HX5 : Hid (Sh5 w g (off + m * 5) x (qs m)) := Lib.hid (by rw [hx]; exact hc m (by omega))
  have HXA : Hid (ShAt w w.heap.size (qs m) x) := Lib.hid (by rw [hx]; exact hrr m (by omega))
  obtain ⟨ts, hts⟩ : ∃ ts, ts = (t.parts.take m).map text := ⟨_, rfl⟩
  have hdl : (t.parts.map text).dropLast = ts := by
    rw [hts, List.dropLast_eq_take, List.length_map, hm, Nat.add_sub_cancel, List.map_take]
  have hla : (t.parts.map text).getLastD [] = text x := by
    rw [List.getLastD_eq_getLast?, List.getLast?_eq_getElem?, List.length_map, hm, Nat.add_sub_cancel, List.getElem?_map, List.getElem?_eq_getElem (by omega), hx]; rfl
  have htl : ts.length = m := by rw [hts, List.length_map, List.length_take]; omega
  have htt := total_texts (l := t.parts) (fun p hp => text_len (right_part hr hp))
  have hjl : (join [44, 32] ts).length ≤ 1000000 := by
    have h2 := join_len [44, 32] ts
    have h3 := total_take (t.parts.map text) m
    rw [← List.map_take, ← hts] at h3
    have : sizes t.parts ≤ 400 := by rw [size_eq] at hz; omega
    simp only [List.length_cons, List.length_nil] at h2
    omega
  have hxl : (text x).length ≤ 1000000 := by
    have := text_small (right_part hr hxm) (by have := sizes_mem hxm; rw [size_eq] at hz; omega)
    omega
  have HE := Lib.hid (fun (W : World) (h : Below w.heap.size w W) => weach_walk q.P q.d (t.parts.take m) W (lies_take ((hq.next h).lies) m) (by rw [List.length_take]; omega) (hg.next h) (fun x hx => hf x (List.mem_of_mem_take hx)))
  have htk : (t.parts.take m).length = m := by rw [List.length_take]; omega
  rw [htk, ← hts, hqP] at HE
  have HJ := Lib.hid (fun (G : Nat) (W : World) (h : TxR W G ts) => join7_walk G ts [44, 32] W h (by omega) hjl)
  rw [htl] at HJ
  have HWX := Lib.hid (fun (W : World) (h : Below w.heap.size w W) => hf x hxm (qs m) W (HXA.out.next h) (hg.next h))
  rw [hdl, hla] at HT
  obtain ⟨j, hj⟩ : ∃ j, j = join [44, 32] ts := ⟨_, rfl⟩
  obtain ⟨tx, htx⟩ : ∃ tx, tx = text x := ⟨_, rfl⟩
  rw [← hj] at HT HJ hjl
  rw [← htx] at HT HWX hxl
  have z1 : (⟨j.toArray⟩ : ByteArray).size = j.length := size_list _
  have z2 : (⟨tx.toArray⟩ : ByteArray).size = tx.length := size_list _
  have hm1 : (m : Int) < (t.parts.length : Int) := by omega
  have hm2 : (t.parts.length : Int) - 1 = (m : Int) := by omega
  have hm3 : m ≤ t.parts.length := by omega
  have hsm := hq.small.d
  have HQP := Lib.hid hqP
  have HM1 := Lib.hid hm1
  have HM2 := Lib.hid hm2
  have HM3 := Lib.hid hm3
  clear hb0 hq hg hr hz hf hk hm hx hxm hqP hc hrr hts hdl hla htl htt htk hj htx hm1 hm2 hm3
  go_enter Tryd.func36, Tryd.ntmps36
  go_upto_region 1 with fail
  generalize w.alloc (.cells #[.int .i64 t.kind, .string ⟨t.of_.toArray⟩, .string ⟨t.name.toArray⟩, .slice q.A t.names.length q.c, .slice q.P t.parts.length q.d] 25) = W0 at HB HB0 c0 c1 c2 c3 c4 ⊢
  have HB5 := HB.out
  go_wp2_with fail
  refine wp_orders (rs := [0, 1, 2, 3, 4, 5, 6, 7, 8, 9, 10, 11, 12, 13, 14, 15])
    (fun u' => { tmps := #[.agg #[.int .i64 t.kind, .string ⟨t.of_.toArray⟩, .string ⟨t.name.toArray⟩, .slice q.A t.names.length q.c, .slice q.P t.parts.length q.d], .pointer (some ⟨w.heap.size, 0, none⟩), u' 15, .int .i64 ((t.parts.length : Int) - 1), .pointer (some ⟨w.heap.size, 0, none⟩), .int .i64 t.kind, .bool false, .bool false, undef, undef, undef, undef, undef, undef, undef, .bool false, .bool false, undef, undef, undef, undef, undef, .bool false, .bool false, undef, undef, undef, undef, undef, .bool true, .bool true, .pointer (some ⟨w.heap.size, 4, none⟩), .slice q.P t.parts.length q.d, .int .i64 (t.parts.length : Int), .int .i64 ((t.parts.length : Int) - 1), u' 0, u' 1, u' 2, u' 3, u' 4, u' 5, u' 6, u' 7, u' 8, u' 9, u' 10, u' 11, u' 12, u' 13, u' 14, undef, undef, undef, undef, undef, undef, undef, undef, undef], defers := [] })
    (upd (fun _ => undef) 15 (.string ⟨#[]⟩)) (w8T w.heap.size g off t.parts.length m q.d ts j tx x (qs m)) (fun W => Below W0.heap.size W0 W) (by kernel_rfl) (by kernel_rfl) (by kernel_rfl) (Below.refl _ _).drew ?_ ?_
  refine StepsAt.cons _ rfl (fun u' W K' hJ hd hK => ?_) ?_
  · refine step_value (v := .pointer (some ⟨w.heap.size, 4, none⟩)) (W' := W) rfl ?_ (hK.out _ _ rfl hJ (Below.refl _ _))
    try dsimp only
    go_simp
  refine StepsAt.cons _ rfl (fun u' W K' hJ hd hK => ?_) ?_
  · have d1 : u' 0 = .pointer (some ⟨w.heap.size, 4, none⟩) := hd 0 (by kernel_rfl)
    obtain ⟨_, ⟨y0, y1, y2, y3, y4⟩, _⟩ := HB.out.next hJ
    rw [HQP.out] at y4
    refine step_value (v := .slice (some ⟨g, off, none⟩) t.parts.length q.d) (W' := W) rfl ?_ (hK.out _ _ rfl hJ (Below.refl _ _))
    try dsimp only
    go_simp
  refine StepsAt.cons _ rfl (fun u' W K' hJ hd hK => ?_) ?_
  · refine step_value (v := .int .i64 ((t.parts.length : Int) - 1)) (W' := W) rfl ?_ (hK.out _ _ rfl hJ (Below.refl _ _))
    try dsimp only
    go_simp
  refine StepsAt.cons _ rfl (fun u' W K' hJ hd hK => ?_) ?_
  · have d1 : u' 1 = .slice (some ⟨g, off, none⟩) t.parts.length q.d := hd 1 (by kernel_rfl)
    have d2 : u' 2 = .int .i64 ((t.parts.length : Int) - 1) := hd 2 (by kernel_rfl)
    have hm1 := HM1.out
    have hm2 := HM2.out
    have hm3 : (m : Int) ≤ (q.d : Int) := by omega
    refine step_value (v := .slice (some ⟨g, off, none⟩) m q.d) (W' := W) rfl ?_ (hK.out _ _ rfl hJ (Below.refl _ _))
    try dsimp only
    go_simp
  refine StepsAt.cons _ rfl (fun u' W K' hJ hd hK => ?_) ?_
  · have d1 : u' 3 = .slice (some ⟨g, off, none⟩) m q.d := hd 3 (by kernel_rfl)
    refine step_enter (f := 52) (args := #[.slice (some ⟨g, off, none⟩) m q.d]) (W' := W) rfl ?_ ((HE.out W (below_next HB0.out hJ)).mono fun e w' h => ⟨_, h.1, hK.out _ _ ⟨_, rfl, h.2.1⟩ (below_next hJ h.2.2) h.2.2⟩)
    try dsimp only
    go_simp
  refine StepsAt.cons _ rfl (fun u' W K' hJ hd hK => ?_) ?_
  · obtain ⟨G, d1, hG⟩ := hd 4 (by kernel_rfl)
    refine step_enter (f := 50) (args := #[.slice (some ⟨G, 0, none⟩) m m, .string ⟨#[44, 32]⟩]) (W' := W) rfl ?_ ((HJ.out G W hG).mono fun e w' h => ⟨_, h.1, hK.out _ _ rfl (below_next hJ h.2) h.2⟩)
    try dsimp only
    go_simp
  refine StepsAt.cons _ rfl (fun u' W K' hJ hd hK => ?_) ?_
  · have d1 : u' 5 = .string ⟨j.toArray⟩ := hd 5 (by kernel_rfl)
    refine step_value (v := .string ((⟨#[40]⟩ : ByteArray) ++ (⟨j.toArray⟩ : ByteArray))) (W' := W) rfl ?_ (hK.out _ _ rfl hJ (Below.refl _ _))
    try dsimp only
    go_simp
    all_goals omega
  refine StepsAt.cons _ rfl (fun u' W K' hJ hd hK => ?_) ?_
  · have d1 : u' 6 = .string ((⟨#[40]⟩ : ByteArray) ++ (⟨j.toArray⟩ : ByteArray)) := hd 6 (by kernel_rfl)
    refine step_value (v := .string ((⟨#[40]⟩ : ByteArray) ++ (⟨j.toArray⟩ : ByteArray) ++ (⟨#[41, 32, 45, 62, 32]⟩ : ByteArray))) (W' := W) rfl ?_ (hK.out _ _ rfl hJ (Below.refl _ _))
    try dsimp only
    go_simp
    all_goals omega
  refine StepsAt.cons _ rfl (fun u' W K' hJ hd hK => ?_) ?_
  · refine step_value (v := .pointer (some ⟨w.heap.size, 4, none⟩)) (W' := W) rfl ?_ (hK.out _ _ rfl hJ (Below.refl _ _))
    try dsimp only
    go_simp
  refine StepsAt.cons _ rfl (fun u' W K' hJ hd hK => ?_) ?_
  · have d1 : u' 8 = .pointer (some ⟨w.heap.size, 4, none⟩) := hd 8 (by kernel_rfl)
    obtain ⟨_, ⟨y0, y1, y2, y3, y4⟩, _⟩ := HB.out.next hJ
    rw [HQP.out] at y4
    refine step_value (v := .slice (some ⟨g, off, none⟩) t.parts.length q.d) (W' := W) rfl ?_ (hK.out _ _ rfl hJ (Below.refl _ _))
    try dsimp only
    go_simp
  refine StepsAt.cons _ rfl (fun u' W K' hJ hd hK => ?_) ?_
  · refine step_value (v := .int .i64 ((t.parts.length : Int) - 1)) (W' := W) rfl ?_ (hK.out _ _ rfl hJ (Below.refl _ _))
    try dsimp only
    go_simp
  refine StepsAt.cons _ rfl (fun u' W K' hJ hd hK => ?_) ?_
  · have d1 : u' 9 = .slice (some ⟨g, off, none⟩) t.parts.length q.d := hd 9 (by kernel_rfl)
    have d2 : u' 10 = .int .i64 ((t.parts.length : Int) - 1) := hd 10 (by kernel_rfl)
    have hm1 := HM1.out
    have hm2 := HM2.out
    refine step_value (v := .pointer (some ⟨g, off + m * 5, none⟩)) (W' := W) rfl ?_ (hK.out _ _ rfl hJ (Below.refl _ _))
    try dsimp only
    go_simp
  refine StepsAt.cons _ rfl (fun u' W K' hJ hd hK => ?_) ?_
  · have d1 : u' 11 = .pointer (some ⟨g, off + m * 5, none⟩) := hd 11 (by kernel_rfl)
    obtain ⟨p0, p1, p2, p3, p4⟩ := HX5.out.keep hgl (below_next HB0.out hJ)
    refine step_value (v := .agg #[.int .i64 x.kind, .string ⟨x.of_.toArray⟩, .string ⟨x.name.toArray⟩, .slice (qs m).A x.names.length (qs m).c, .slice (qs m).P x.parts.length (qs m).d]) (W' := W) rfl ?_ (hK.out _ _ rfl hJ (Below.refl _ _))
    try dsimp only
    go_simp
  refine StepsAt.cons _ rfl (fun u' W K' hJ hd hK => ?_) ?_
  · have d1 : u' 12 = .agg #[.int .i64 x.kind, .string ⟨x.of_.toArray⟩, .string ⟨x.name.toArray⟩, .slice (qs m).A x.names.length (qs m).c, .slice (qs m).P x.parts.length (qs m).d] := hd 12 (by kernel_rfl)
    refine step_enter (f := 36) (args := #[.agg #[.int .i64 x.kind, .string ⟨x.of_.toArray⟩, .string ⟨x.name.toArray⟩, .slice (qs m).A x.names.length (qs m).c, .slice (qs m).P x.parts.length (qs m).d]]) (W' := W) rfl ?_ ((HWX.out W (below_next HB0.out hJ)).mono fun e w' h => ⟨_, h.1, hK.out _ _ rfl (below_next hJ h.2) h.2⟩)
    try dsimp only
    go_simp
  refine StepsAt.cons _ rfl (fun u' W K' hJ hd hK => ?_) ?_
  · have d1 : u' 7 = .string ((⟨#[40]⟩ : ByteArray) ++ (⟨j.toArray⟩ : ByteArray) ++ (⟨#[41, 32, 45, 62, 32]⟩ : ByteArray)) := hd 7 (by kernel_rfl)
    have d2 : u' 13 = .string ⟨tx.toArray⟩ := hd 13 (by kernel_rfl)
    refine step_value (v := .string ((⟨#[40]⟩ : ByteArray) ++ (⟨j.toArray⟩ : ByteArray) ++ (⟨#[41, 32, 45, 62, 32]⟩ : ByteArray) ++ (⟨tx.toArray⟩ : ByteArray))) (W' := W) rfl ?_ (hK.out _ _ rfl hJ (Below.refl _ _))
    try dsimp only
    go_simp
    all_goals omega
  refine StepsAt.cons _ rfl (fun u' W K' hJ hd hK => ?_) StepsAt.nil
  · have d1 : u' 14 = .string ((⟨#[40]⟩ : ByteArray) ++ (⟨j.toArray⟩ : ByteArray) ++ (⟨#[41, 32, 45, 62, 32]⟩ : ByteArray) ++ (⟨tx.toArray⟩ : ByteArray)) := hd 14 (by kernel_rfl)
    refine step_value (v := .string ((⟨#[40]⟩ : ByteArray) ++ (⟨j.toArray⟩ : ByteArray) ++ (⟨#[41, 32, 45, 62, 32]⟩ : ByteArray) ++ (⟨tx.toArray⟩ : ByteArray))) (W' := W) rfl ?_ (hK.out _ _ rfl hJ (Below.refl _ _))
    try dsimp only
    go_simp
    all_goals omega
  intro u' W5 hJ hok
  have e15 : u' 15 = .string ((⟨#[40]⟩ : ByteArray) ++ (⟨j.toArray⟩ : ByteArray) ++ (⟨#[41, 32, 45, 62, 32]⟩ : ByteArray) ++ (⟨tx.toArray⟩ : ByteArray)) := hok 15 (by decide)
  try dsimp only
  rw [e15]
  have HBW := Lib.hid (below_next HB0.out hJ)
  clear hok e15 hJ
  go_wp2
  go_ret
  exact ⟨ret_text7 (by rw [HT.out, ← cat7, ← cat7, ← cat7]), HBW.out⟩
end Go.Proofs.YtkehnmapnckdgaaDoor
