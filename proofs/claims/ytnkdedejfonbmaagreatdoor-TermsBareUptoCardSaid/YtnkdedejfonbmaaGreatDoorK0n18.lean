/- What the proofs of TermsBare, TermsChecks, TermsDeep, TermsSame, TermsSames want, part 18. -/
import Derived.StillTailTactics
import Derived.Deep.RegionHeld3
import Derived.Test.YtnkdedejfonbmaaGreatDoorK0n17
set_option linter.unusedVariables false
set_option linter.unusedSimpArgs false
set_option maxRecDepth 100000
set_option maxHeartbeats 16000000
namespace Go.Proofs.YtnkdedejfonbmaaGreatDoor
open Go.RowKit Tms
open Shp (Sh field join)
structure ChV (Wd : World) (val : Nat -> Option Value) (d : Nat -> Bool) (u : Nat -> Value) (W : World) : Prop where
 bel : Below Wd.heap.size Wd W
 vals : ∀ j, d j = true -> ∀ v, val j = some v -> u j = v
theorem ChV.step {Wd W W' : World} {val : Nat -> Option Value} {d : Nat -> Bool} {u : Nat -> Value} (h : ChV Wd val d u W) (i : Nat) (v : Value) (hb : Below W.heap.size W W') (hv : ∀ v', val i = some v' -> v = v') : ChV Wd val (also d i) (upd u i v) W' :=
 ⟨h.bel.trans (hb.mono h.bel.size), Z1e h.vals i v hv⟩
theorem ChV.pure {Wd W : World} {val : Nat -> Option Value} {d : Nat -> Bool} {u : Nat -> Value} (h : ChV Wd val d u W) (i : Nat) (v : Value) (hv : ∀ v', val i = some v' -> v = v') : ChV Wd val (also d i) (upd u i v) W :=
 ⟨h.bel, Z1e h.vals i v hv⟩
def valW (G b0 gv ov gs os g off i : Nat) (t : Tm) (q : TP) (x v : List UInt8) (s : Sh) (rs : Nat -> Ptr) (y : Tm) (qs : Nat -> TP) (tB tX : List UInt8) : Nat -> Option Value
 | 0 => some (.slice (some ⟨G, 0, none⟩) t.names.length t.names.length)
 | 1 => some (.int .i64 (i : Int))
 | 2 => some (.string (⟨x.toArray⟩ : ByteArray))
 | 3 => some (.string ((⟨x.toArray⟩ : ByteArray) ++ (⟨#[40]⟩ : ByteArray)))
 | 4 => some (.pointer (some ⟨b0, 5, none⟩))
 | 5 => some (.slice (some ⟨gv, ov, none⟩) t.vars.length q.e)
 | 6 => some (.int .i64 (i : Int))
 | 7 => some (.pointer (some ⟨gv, ov + i, none⟩))
 | 8 => some (.string (⟨v.toArray⟩ : ByteArray))
 | 9 => some (.pointer (some ⟨b0, 6, none⟩))
 | 10 => some (.slice (some ⟨gs, os, none⟩) t.shapes.length q.s)
 | 11 => some (.int .i64 (i : Int))
 | 12 => some (.pointer (some ⟨gs, os + i * 5, none⟩))
 | 13 => some (.agg (Y8 s (rs i)))
 | 14 => some (.string (⟨tB.toArray⟩ : ByteArray))
 | 15 => some (.string (((⟨x.toArray⟩ : ByteArray) ++ (⟨#[40]⟩ : ByteArray)) ++ (⟨tB.toArray⟩ : ByteArray)))
 | 16 => some (.string ((((⟨x.toArray⟩ : ByteArray) ++ (⟨#[40]⟩ : ByteArray)) ++ (⟨tB.toArray⟩ : ByteArray)) ++ (⟨#[41, 32, 45, 62, 32]⟩ : ByteArray)))
 | 17 => some (.pointer (some ⟨b0, 7, none⟩))
 | 18 => some (.slice (some ⟨g, off, none⟩) t.parts.length q.d)
 | 19 => some (.int .i64 (i : Int))
 | 20 => some (.int .i64 ((i : Int) + 1))
 | 21 => some (.pointer (some ⟨g, off + (i + 1) * 9, none⟩))
 | 22 => some (.agg (Y7 y (qs (i + 1))))
 | 23 => some (.string (⟨tX.toArray⟩ : ByteArray))
 | 24 => some (.string (((((⟨x.toArray⟩ : ByteArray) ++ (⟨#[40]⟩ : ByteArray)) ++ (⟨tB.toArray⟩ : ByteArray)) ++ (⟨#[41, 32, 45, 62, 32]⟩ : ByteArray)) ++ (⟨tX.toArray⟩ : ByteArray)))
 | 25 => some (.pointer (some ⟨G, i, none⟩))
 | _ => none
theorem ZaT (t : Tm) (q : TP) (w : World) (hq : TmAt w w.heap.size q t) (hG : Globs w) (hg : WGlobs w) (hl : t.names.length <= 1000000) (hnv : t.vars.length = t.names.length) (hns : t.shapes.length = t.names.length + 1) (hnp : t.parts.length = t.names.length + 1) (hf : ∀ x ∈ t.parts, Wr8 x) (hn : ∀ x ∈ t.names, x.length <= 1000000) (hv : ∀ x ∈ t.vars, x.length <= 1000000)
 (hsc : ∀ x ∈ t.shapes, Shp.check x = 0 /\ (Shp.text x).length <= 1000000) (ht : ∀ x ∈ t.parts, (text x).length <= 1000000000000)
 (hj : (join [32, 124, 32] (Tms.ways t.names t.vars (t.shapes.map Shp.text) (t.parts.map text))).length <= 140737488355328) :
 Calls Tryz.prog 53 #[.agg #[.int .i64 t.kind, .string ⟨t.of_.toArray⟩, .string ⟨t.name.toArray⟩, .int .i64 t.n, .slice q.A t.names.length q.c, .slice q.V t.vars.length q.e, .slice q.S t.shapes.length q.s, .slice q.P t.parts.length q.d, .int .i64 t.at_]] w fun e w' => e = .returned (.string ⟨(join [32, 124, 32] (Tms.ways t.names t.vars (t.shapes.map Shp.text) (t.parts.map text))).toArray⟩) /\ Below w.heap.size w w' := by
 have hb0 := Z02 w (.cells #[.int .i64 t.kind, .string ⟨t.of_.toArray⟩, .string ⟨t.name.toArray⟩, .int .i64 t.n, .slice q.A t.names.length q.c, .slice q.V t.vars.length q.e, .slice q.S t.shapes.length q.s, .slice q.P t.parts.length q.d, .int .i64 t.at_] 26)
 have HB0 := Y1 hb0
 have HBX := Y1 (Z07 w t q)
 have HQ := Y1 (hq.next hb0)
 have HG0 := Y1 (hG.next hb0)
 have HG := Y1 (hg.next hb0)
 have HJ := Y1 hj
 have HNN := Y1 hn
 have HVV := Y1 hv
 have HSC := Y1 hsc
 have HTT := Y1 ht
 have HLN := Y1 (⟨hnv, hns, hnp⟩ : t.vars.length = t.names.length /\ t.shapes.length = t.names.length + 1 /\ t.parts.length = t.names.length + 1)
 have HF0 := Y1 hf
 have hmk := Z1N t.names.length (by omega)
 have HBL : Hid ((Tms.ways t.names t.vars (t.shapes.map Shp.text) (t.parts.map text)).length = t.names.length) := Y1 (by simp [Tms.ways])
 have HBA : Hid (∀ i (h1 : i < t.names.length) (h2 : i < t.vars.length) (h3 : i < t.shapes.length) (h4 : i + 1 < t.parts.length) (h5 : i < (Tms.ways t.names t.vars (t.shapes.map Shp.text) (t.parts.map text)).length), (Tms.ways t.names t.vars (t.shapes.map Shp.text) (t.parts.map text))[i]'h5 = Tms.way (t.names[i]'h1) (t.vars[i]'h2) (Shp.text (t.shapes[i]'h3)) (text (t.parts[i + 1]'h4))) := Y1 (fun i h1 h2 h3 h4 h5 => by
  simp [Tms.ways, h1, h2, h3, h4, List.getD])
 obtain ⟨bs, hbs⟩ : ∃ bs, bs = Tms.ways t.names t.vars (t.shapes.map Shp.text) (t.parts.map text) := ⟨_, rfl⟩
 rw [<- hbs] at HBL HBA HJ ⊢
 obtain ⟨_, ⟨c0, c1, c2, c3, c4, c5, c6, c7, c8⟩, _⟩ := Z07 w t q
 simp only [Nat.zero_add] at c0 c1 c2 c3 c4 c5 c6 c7 c8
 have hm := hq.small.l
 have hmp := hq.small.m
 have hmv := hq.small.v
 have hms := hq.small.sh
 clear hq hg hG hb0 hj hbs hn ht hnp hf hv hsc hnv hns
 go_enter Tryz.func53, Tryz.ntmps53
 go_upto_region 1 with fail
 obtain ⟨W1, hW1⟩ : ∃ W1, W1 = w.alloc (.cells #[.int .i64 t.kind, .string ⟨t.of_.toArray⟩, .string ⟨t.name.toArray⟩, .int .i64 t.n, .slice q.A t.names.length q.c, .slice q.V t.vars.length q.e, .slice q.S t.shapes.length q.s, .slice q.P t.parts.length q.d, .int .i64 t.at_] 26) := ⟨_, rfl⟩
 have hz1 : W1.heap.size = w.heap.size + 1 := by rw [hW1]; simp
 rw [<- hW1] at HB0 HBX HQ HG0 HG c0 c1 c2 c3 c4 c5 c6 c7 c8 ⊢
 clear hW1
 have HT0 := Y1 (Z3T W1 t.names.length)
 have HB1 := Y1 (Z02 W1 (.cells (madeCells #[.string ⟨#[]⟩] t.names.length) 9))
 have c4' := (HB1.out.cell (p := ⟨w.heap.size, 4, none⟩) (by show w.heap.size < W1.heap.size; omega)).trans c4
 clear hz1
 go_wp2_with fail
 clear hmk c0 c1 c2 c3 c4 c5 c6 c7 c8 c4'
 generalize W1.alloc (.cells (madeCells #[.string ⟨#[]⟩] t.names.length) 9) = W0 at HT0 HB1 ⊢
 go_loopw [13] (fun ii wr => ∃ i : Nat, ii = .int .i64 i /\ i <= t.names.length /\ Hid (TxR wr W1.heap.size (bs.take i ++ List.replicate (t.names.length - i) [])) /\ Hid (Below W1.heap.size W1 wr)) (fun i _ => t.names.length - (intOf i).toNat)
 case atStart => exact ⟨0, rfl, Nat.zero_le _, HT0, HB1⟩
 case round =>
  obtain ⟨i, rfl, hi, HT, HB⟩ := hrel
  by_cases hlt : i < t.names.length
  {have hi1 : (i : Int) < (t.names.length : Int) := by omega
   have hil : i + 1 < t.parts.length := by have := HLN.out; omega
   have hiv : i < t.vars.length := by have := HLN.out; omega
   have his : i < t.shapes.length := by have := HLN.out; omega
   have hi2 : (i : Int) + 1 < (t.parts.length : Int) := by omega
   have hi3 : (i : Int) < (t.vars.length : Int) := by omega
   have hi4 : (i : Int) < (t.shapes.length : Int) := by omega
   rcases (HQ.out.next HB.out).part with h0 | ⟨g, off, qs, hqP, hgl, hc, hr⟩
   {omega}
   rcases (HQ.out.next HB.out).strs.cell7 with h0 | ⟨g2, off2, hqA, hgl2, hc2⟩
   {omega}
   rcases (HQ.out.next HB.out).vars.cell7 with h0 | ⟨gv, ov, hqV, hglv, hcv⟩
   {omega}
   rcases (HQ.out.next HB.out).shapes with h0 | ⟨gs, os, rs, hqS, hgls, hcs, hrs⟩
   {omega}
   obtain ⟨x, hx⟩ : ∃ x, x = t.names[i]'hlt := ⟨_, rfl⟩
   obtain ⟨v, hv⟩ : ∃ x, x = t.vars[i]'hiv := ⟨_, rfl⟩
   obtain ⟨s, hs⟩ : ∃ x, x = t.shapes[i]'his := ⟨_, rfl⟩
   obtain ⟨y, hy⟩ : ∃ y, y = t.parts[i + 1]'hil := ⟨_, rfl⟩
   have n0 := hc2 i hlt
   have HV0 : Hid (wr.cell? ⟨gv, ov + i, none⟩ = some (.string ⟨v.toArray⟩)) := Y1 (by rw [hv]; exact hcv i hiv)
   have HS5 : Hid (Sh5 wr gs (os + i * 5) s (rs i)) := Y1 (by rw [hs]; exact hcs i his)
   have HSA : Hid (ShAt wr wr.heap.size (rs i) s) := Y1 (by rw [hs]; exact hrs i his)
   have HY9 : Hid (Tm9 wr g (off + (i + 1) * 9) y (qs (i + 1))) := Y1 (by rw [hy]; exact hc (i + 1) hil)
   have HYA : Hid (TmAt wr wr.heap.size (qs (i + 1)) y) := Y1 (by rw [hy]; exact hr (i + 1) hil)
   have hcx : x.length <= 1000000 := by rw [hx]; exact HNN.out _ (List.getElem_mem _)
   have hcv' : v.length <= 1000000 := by rw [hv]; exact HVV.out _ (List.getElem_mem _)
   have hcs' : Shp.check s = 0 /\ (Shp.text s).length <= 1000000 := by rw [hs]; exact HSC.out _ (List.getElem_mem _)
   have hcy : (text y).length <= 1000000000000 := by rw [hy]; exact HTT.out _ (List.getElem_mem _)
   have hfy : Wr8 y := by rw [hy]; exact HF0.out _ (List.getElem_mem _)
   have hbi := HBA.out i hlt hiv his hil (by rw [HBL.out]; exact hlt)
   rw [<- hx, <- hv, <- hs, <- hy] at hbi
   rw [<- hx] at n0
   have HWB := Y1 (fun (W : World) (h : Below wr.heap.size wr W) => Z5B v s (rs i) W (HSA.out.next h) ((HG.out.next HB.out).next h) hcs'.1 hcv' hcs'.2)
   have HWX := Y1 (fun (W : World) (h : Below wr.heap.size wr W) => hfy (qs (i + 1)) W (HYA.out.next h) ((HG0.out.next HB.out).next h) ((HG.out.next HB.out).next h))
   have hfl : (field v (Shp.text s)).length <= 3000000 := by
    have h1 := hcs'.2
    unfold field
    simp only [List.length_append, List.length_cons, List.length_nil]
    omega
   unfold Tms.way at hbi
   obtain ⟨tX, htX⟩ : ∃ z, z = text y := ⟨_, rfl⟩
   obtain ⟨tB, htB⟩ : ∃ z, z = field v (Shp.text s) := ⟨_, rfl⟩
   rw [<- htX] at HWX hcy hbi
   rw [<- htB] at HWB hfl hbi
   have HS : Hid ((bs.take i ++ List.replicate (t.names.length - i) []).set i (x ++ [40] ++ tB ++ [41, 32, 45, 62, 32] ++ tX) = bs.take (i + 1) ++ List.replicate (t.names.length - (i + 1)) []) := Y1 (by
    rw [Z3g (by rw [List.length_take, HBL.out]; omega) hlt, Shp.Z0C (by rw [HBL.out]; exact hlt), hbi])
   have hlen : i < (bs.take i ++ List.replicate (t.names.length - i) []).length := by have := HBL.out; simp; omega
   have HLE := Y1 hlen
   have z1 : (⟨x.toArray⟩ : ByteArray).size = x.length := Z04 _
   have z2 : (⟨tX.toArray⟩ : ByteArray).size = tX.length := Z04 _
   have z3 : (⟨tB.toArray⟩ : ByteArray).size = tB.length := Z04 _
   have HCAT : Hid ((((((⟨x.toArray⟩ : ByteArray) ++ (⟨#[40]⟩ : ByteArray)) ++ (⟨tB.toArray⟩ : ByteArray)) ++ (⟨#[41, 32, 45, 62, 32]⟩ : ByteArray)) ++ (⟨tX.toArray⟩ : ByteArray)) = ⟨(x ++ [40] ++ tB ++ [41, 32, 45, 62, 32] ++ tX).toArray⟩) := Y1 (by rw [<- cat7, <- cat7, <- cat7, <- cat7])
   have HYY := Y1 (HBX.out.next HB.out)
   have HQE := Y1 (⟨hqA, hqV, hqS, hqP⟩ : _ /\ _ /\ _ /\ _)
   rw [hqA]
   clear hx hv hs hy hc hr hcv hcs hrs hbi hc2 hqP hqA hqV hqS hfy htX htB hcs' hlen
   go_wp2_with fail
   refine Z6A (rs := [0, 1, 2, 3, 4, 5, 6, 7, 8, 9, 10, 11, 12, 13, 14, 15, 16, 17, 18, 19, 20, 21, 22, 23, 24, 25, 26])
    (fun ux => { tmps := #[.agg #[.int .i64 t.kind, .string { data := t.of_.toArray }, .string { data := t.name.toArray }, .int .i64 t.n, .slice (some { block := g2, off := off2 }) t.names.length q.c, .slice q.V t.vars.length q.e, .slice q.S t.shapes.length q.s, .slice q.P t.parts.length q.d, .int .i64 t.at_], .pointer (some { block := w.heap.size, off := 0 }), .string { data := #[] }, .slice (some { block := W1.heap.size, off := 0 }) t.names.length t.names.length, .int .i64 ↑i, .string { data := x.toArray }, .pointer (some { block := w.heap.size, off := 4 }), .slice (some { block := g2, off := off2 }) t.names.length q.c, .int .i64 ↑t.names.length, .slice (some { block := W1.heap.size, off := 0 }) t.names.length t.names.length, .pointer (some { block := w.heap.size, off := 4 }), .slice (some { block := g2, off := off2 }) t.names.length q.c, .int .i64 ↑t.names.length, .int .i64 ↑i, .bool true, .int .i64 ↑i, .pointer (some { block := g2, off := off2 + i }), .string { data := x.toArray }, ux 0, ux 1, ux 2, ux 3, ux 4, ux 5, ux 6, ux 7, ux 8, ux 9, ux 10, ux 11, ux 12, ux 13, ux 14, ux 15, ux 16, ux 17, ux 18, ux 19, ux 20, ux 21, ux 22, ux 23, ux 24, ux 25, u44, undef, undef], defers := [] })
    (fun j => ([u18, u19, u20, u21, u22, u23, u24, u25, u26, u27, u28, u29, u30, u31, u32, u33, u34, u35, u36, u37, u38, u39, u40, u41, u42, u43, undef] : List Value).getD j undef) (InvC 26 (ChV wr (valW W1.heap.size w.heap.size gv ov gs os g off i t q x v s rs y qs tB tX)) (fun W => TxR W W1.heap.size ((bs.take i ++ List.replicate (t.names.length - i) []).set i (x ++ [40] ++ tB ++ [41, 32, 45, 62, 32] ++ tX)) /\ Below W1.heap.size W1 W)) (by kernel_rfl) (by kernel_rfl) (by kernel_rfl) (Or.inl ⟨rfl, ⟨Y2.drew, nofun⟩⟩) ?_ ?_
   refine StepsInv.cons _ rfl (fun dx ux W K' hI hd hw hK => ?_) ?_
   {obtain ⟨hS, hC⟩ := hI.open hd (by decide)
    refine Z01 (v := .slice (some ⟨W1.heap.size, 0, none⟩) t.names.length t.names.length) (W' := W) rfl ?_ (hK.out _ _ (InvC.next hS (by decide) (hC.pure 0 _ (fun v' h => by cases h; rfl))))
    try dsimp only
    go_simp}
   refine StepsInv.cons _ rfl (fun dx ux W K' hI hd hw hK => ?_) ?_
   {obtain ⟨hS, hC⟩ := hI.open hd (by decide)
    refine Z01 (v := .int .i64 (i : Int)) (W' := W) rfl ?_ (hK.out _ _ (InvC.next hS (by decide) (hC.pure 1 _ (fun v' h => by cases h; rfl))))
    try dsimp only
    go_simp}
   refine StepsInv.cons _ rfl (fun dx ux W K' hI hd hw hK => ?_) ?_
   {obtain ⟨hS, hC⟩ := hI.open hd (by decide)
    refine Z01 (v := .string (⟨x.toArray⟩ : ByteArray)) (W' := W) rfl ?_ (hK.out _ _ (InvC.next hS (by decide) (hC.pure 2 _ (fun v' h => by cases h; rfl))))
    try dsimp only
    go_simp}
   refine StepsInv.cons _ rfl (fun dx ux W K' hI hd hw hK => ?_) ?_
   {obtain ⟨hS, hC⟩ := hI.open hd (by decide)
    have d2 : ux 2 = .string (⟨x.toArray⟩ : ByteArray) := hC.vals 2 (hw 2 (by kernel_rfl)) _ rfl
    refine Z01 (v := .string ((⟨x.toArray⟩ : ByteArray) ++ (⟨#[40]⟩ : ByteArray))) (W' := W) rfl ?_ (hK.out _ _ (InvC.next hS (by decide) (hC.pure 3 _ (fun v' h => by cases h; rfl))))
    try dsimp only
    go_simp
    all_goals omega}
   refine StepsInv.cons _ rfl (fun dx ux W K' hI hd hw hK => ?_) ?_
   {obtain ⟨hS, hC⟩ := hI.open hd (by decide)
    refine Z01 (v := .pointer (some ⟨w.heap.size, 5, none⟩)) (W' := W) rfl ?_ (hK.out _ _ (InvC.next hS (by decide) (hC.pure 4 _ (fun v' h => by cases h; rfl))))
    try dsimp only
    go_simp}
   refine StepsInv.cons _ rfl (fun dx ux W K' hI hd hw hK => ?_) ?_
   {obtain ⟨hS, hC⟩ := hI.open hd (by decide)
    have d4 : ux 4 = .pointer (some ⟨w.heap.size, 5, none⟩) := hC.vals 4 (hw 4 (by kernel_rfl)) _ rfl
    obtain ⟨_, ⟨y0, y1, y2, y3, y4, y5, y6, y7, y8⟩, _⟩ := HYY.out.next hC.bel
    simp only [Nat.zero_add] at y0 y1 y2 y3 y4 y5 y6 y7 y8
    rw [HQE.out.2.1] at y5
    refine Z01 (v := .slice (some ⟨gv, ov, none⟩) t.vars.length q.e) (W' := W) rfl ?_ (hK.out _ _ (InvC.next hS (by decide) (hC.pure 5 _ (fun v' h => by cases h; rfl))))
    try dsimp only
    go_simp}
   refine StepsInv.cons _ rfl (fun dx ux W K' hI hd hw hK => ?_) ?_
   {obtain ⟨hS, hC⟩ := hI.open hd (by decide)
    refine Z01 (v := .int .i64 (i : Int)) (W' := W) rfl ?_ (hK.out _ _ (InvC.next hS (by decide) (hC.pure 6 _ (fun v' h => by cases h; rfl))))
    try dsimp only
    go_simp}
   refine StepsInv.cons _ rfl (fun dx ux W K' hI hd hw hK => ?_) ?_
   {obtain ⟨hS, hC⟩ := hI.open hd (by decide)
    have d5 : ux 5 = .slice (some ⟨gv, ov, none⟩) t.vars.length q.e := hC.vals 5 (hw 5 (by kernel_rfl)) _ rfl
    have d6 : ux 6 = .int .i64 (i : Int) := hC.vals 6 (hw 6 (by kernel_rfl)) _ rfl
    refine Z01 (v := .pointer (some ⟨gv, ov + i, none⟩)) (W' := W) rfl ?_ (hK.out _ _ (InvC.next hS (by decide) (hC.pure 7 _ (fun v' h => by cases h; rfl))))
    try dsimp only
    go_simp}
   refine StepsInv.cons _ rfl (fun dx ux W K' hI hd hw hK => ?_) ?_
   {obtain ⟨hS, hC⟩ := hI.open hd (by decide)
    have d7 : ux 7 = .pointer (some ⟨gv, ov + i, none⟩) := hC.vals 7 (hw 7 (by kernel_rfl)) _ rfl
    have yv := (hC.bel.cell (p := ⟨gv, ov + i, none⟩) hglv).trans HV0.out
    refine Z01 (v := .string (⟨v.toArray⟩ : ByteArray)) (W' := W) rfl ?_ (hK.out _ _ (InvC.next hS (by decide) (hC.pure 8 _ (fun v' h => by cases h; rfl))))
    try dsimp only
    go_simp}
   refine StepsInv.cons _ rfl (fun dx ux W K' hI hd hw hK => ?_) ?_
   {obtain ⟨hS, hC⟩ := hI.open hd (by decide)
    refine Z01 (v := .pointer (some ⟨w.heap.size, 6, none⟩)) (W' := W) rfl ?_ (hK.out _ _ (InvC.next hS (by decide) (hC.pure 9 _ (fun v' h => by cases h; rfl))))
    try dsimp only
    go_simp}
   refine StepsInv.cons _ rfl (fun dx ux W K' hI hd hw hK => ?_) ?_
   {obtain ⟨hS, hC⟩ := hI.open hd (by decide)
    have d9 : ux 9 = .pointer (some ⟨w.heap.size, 6, none⟩) := hC.vals 9 (hw 9 (by kernel_rfl)) _ rfl
    obtain ⟨_, ⟨y0, y1, y2, y3, y4, y5, y6, y7, y8⟩, _⟩ := HYY.out.next hC.bel
    simp only [Nat.zero_add] at y0 y1 y2 y3 y4 y5 y6 y7 y8
    rw [HQE.out.2.2.1] at y6
    refine Z01 (v := .slice (some ⟨gs, os, none⟩) t.shapes.length q.s) (W' := W) rfl ?_ (hK.out _ _ (InvC.next hS (by decide) (hC.pure 10 _ (fun v' h => by cases h; rfl))))
    try dsimp only
    go_simp}
   refine StepsInv.cons _ rfl (fun dx ux W K' hI hd hw hK => ?_) ?_
   {obtain ⟨hS, hC⟩ := hI.open hd (by decide)
    refine Z01 (v := .int .i64 (i : Int)) (W' := W) rfl ?_ (hK.out _ _ (InvC.next hS (by decide) (hC.pure 11 _ (fun v' h => by cases h; rfl))))
    try dsimp only
    go_simp}
   refine StepsInv.cons _ rfl (fun dx ux W K' hI hd hw hK => ?_) ?_
   {obtain ⟨hS, hC⟩ := hI.open hd (by decide)
    have d10 : ux 10 = .slice (some ⟨gs, os, none⟩) t.shapes.length q.s := hC.vals 10 (hw 10 (by kernel_rfl)) _ rfl
    have d11 : ux 11 = .int .i64 (i : Int) := hC.vals 11 (hw 11 (by kernel_rfl)) _ rfl
    refine Z01 (v := .pointer (some ⟨gs, os + i * 5, none⟩)) (W' := W) rfl ?_ (hK.out _ _ (InvC.next hS (by decide) (hC.pure 12 _ (fun v' h => by cases h; rfl))))
    try dsimp only
    go_simp}
   refine StepsInv.cons _ rfl (fun dx ux W K' hI hd hw hK => ?_) ?_
   {obtain ⟨hS, hC⟩ := hI.open hd (by decide)
    have d12 : ux 12 = .pointer (some ⟨gs, os + i * 5, none⟩) := hC.vals 12 (hw 12 (by kernel_rfl)) _ rfl
    obtain ⟨p0, p1, p2, p3, p4⟩ := HS5.out.keep hgls hC.bel
    refine Z01 (v := .agg #[.int .i64 s.kind, .string ⟨s.of_.toArray⟩, .string ⟨s.name.toArray⟩, .slice (rs i).A s.names.length (rs i).c, .slice (rs i).P s.parts.length (rs i).d]) (W' := W) rfl ?_ (hK.out _ _ (InvC.next hS (by decide) (hC.pure 13 _ (fun v' h => by cases h; rfl))))
    try dsimp only
    go_simp}
   refine StepsInv.cons _ rfl (fun dx ux W K' hI hd hw hK => ?_) ?_
   {obtain ⟨hS, hC⟩ := hI.open hd (by decide)
    have d8 : ux 8 = .string (⟨v.toArray⟩ : ByteArray) := hC.vals 8 (hw 8 (by kernel_rfl)) _ rfl
    have d13 : ux 13 = .agg #[.int .i64 s.kind, .string ⟨s.of_.toArray⟩, .string ⟨s.name.toArray⟩, .slice (rs i).A s.names.length (rs i).c, .slice (rs i).P s.parts.length (rs i).d] := hC.vals 13 (hw 13 (by kernel_rfl)) _ rfl
    refine Z05 (f := 78) (args := #[.string ⟨v.toArray⟩, .agg #[.int .i64 s.kind, .string ⟨s.of_.toArray⟩, .string ⟨s.name.toArray⟩, .slice (rs i).A s.names.length (rs i).c, .slice (rs i).P s.parts.length (rs i).d]]) (W' := W) rfl ?_ ((HWB.out W hC.bel).mono fun e w' h => ⟨_, h.1, hK.out _ _ (InvC.next hS (by decide) (hC.step 14 _ h.2 (fun v' h => by cases h; rfl)))⟩)
    try dsimp only
    go_simp}
   refine StepsInv.cons _ rfl (fun dx ux W K' hI hd hw hK => ?_) ?_
   {obtain ⟨hS, hC⟩ := hI.open hd (by decide)
    have d3 : ux 3 = .string ((⟨x.toArray⟩ : ByteArray) ++ (⟨#[40]⟩ : ByteArray)) := hC.vals 3 (hw 3 (by kernel_rfl)) _ rfl
    have d14 : ux 14 = .string (⟨tB.toArray⟩ : ByteArray) := hC.vals 14 (hw 14 (by kernel_rfl)) _ rfl
    refine Z01 (v := .string (((⟨x.toArray⟩ : ByteArray) ++ (⟨#[40]⟩ : ByteArray)) ++ (⟨tB.toArray⟩ : ByteArray))) (W' := W) rfl ?_ (hK.out _ _ (InvC.next hS (by decide) (hC.pure 15 _ (fun v' h => by cases h; rfl))))
    try dsimp only
    go_simp
    all_goals omega}
   refine StepsInv.cons _ rfl (fun dx ux W K' hI hd hw hK => ?_) ?_
   {obtain ⟨hS, hC⟩ := hI.open hd (by decide)
    have d15 : ux 15 = .string (((⟨x.toArray⟩ : ByteArray) ++ (⟨#[40]⟩ : ByteArray)) ++ (⟨tB.toArray⟩ : ByteArray)) := hC.vals 15 (hw 15 (by kernel_rfl)) _ rfl
    refine Z01 (v := .string ((((⟨x.toArray⟩ : ByteArray) ++ (⟨#[40]⟩ : ByteArray)) ++ (⟨tB.toArray⟩ : ByteArray)) ++ (⟨#[41, 32, 45, 62, 32]⟩ : ByteArray))) (W' := W) rfl ?_ (hK.out _ _ (InvC.next hS (by decide) (hC.pure 16 _ (fun v' h => by cases h; rfl))))
    try dsimp only
    go_simp
    all_goals omega}
   refine StepsInv.cons _ rfl (fun dx ux W K' hI hd hw hK => ?_) ?_
   {obtain ⟨hS, hC⟩ := hI.open hd (by decide)
    refine Z01 (v := .pointer (some ⟨w.heap.size, 7, none⟩)) (W' := W) rfl ?_ (hK.out _ _ (InvC.next hS (by decide) (hC.pure 17 _ (fun v' h => by cases h; rfl))))
    try dsimp only
    go_simp}
   refine StepsInv.cons _ rfl (fun dx ux W K' hI hd hw hK => ?_) ?_
   {obtain ⟨hS, hC⟩ := hI.open hd (by decide)
    have d17 : ux 17 = .pointer (some ⟨w.heap.size, 7, none⟩) := hC.vals 17 (hw 17 (by kernel_rfl)) _ rfl
    obtain ⟨_, ⟨y0, y1, y2, y3, y4, y5, y6, y7, y8⟩, _⟩ := HYY.out.next hC.bel
    simp only [Nat.zero_add] at y0 y1 y2 y3 y4 y5 y6 y7 y8
    rw [HQE.out.2.2.2] at y7
    refine Z01 (v := .slice (some ⟨g, off, none⟩) t.parts.length q.d) (W' := W) rfl ?_ (hK.out _ _ (InvC.next hS (by decide) (hC.pure 18 _ (fun v' h => by cases h; rfl))))
    try dsimp only
    go_simp}
   refine StepsInv.cons _ rfl (fun dx ux W K' hI hd hw hK => ?_) ?_
   {obtain ⟨hS, hC⟩ := hI.open hd (by decide)
    refine Z01 (v := .int .i64 (i : Int)) (W' := W) rfl ?_ (hK.out _ _ (InvC.next hS (by decide) (hC.pure 19 _ (fun v' h => by cases h; rfl))))
    try dsimp only
    go_simp}
   refine StepsInv.cons _ rfl (fun dx ux W K' hI hd hw hK => ?_) ?_
   {obtain ⟨hS, hC⟩ := hI.open hd (by decide)
    have d19 : ux 19 = .int .i64 (i : Int) := hC.vals 19 (hw 19 (by kernel_rfl)) _ rfl
    refine Z01 (v := .int .i64 ((i : Int) + 1)) (W' := W) rfl ?_ (hK.out _ _ (InvC.next hS (by decide) (hC.pure 20 _ (fun v' h => by cases h; rfl))))
    try dsimp only
    go_simp
    exact IntWalk.i64_in _ (by omega)}
   refine StepsInv.cons _ rfl (fun dx ux W K' hI hd hw hK => ?_) ?_
   {obtain ⟨hS, hC⟩ := hI.open hd (by decide)
    have d18 : ux 18 = .slice (some ⟨g, off, none⟩) t.parts.length q.d := hC.vals 18 (hw 18 (by kernel_rfl)) _ rfl
    have d20 : ux 20 = .int .i64 ((i : Int) + 1) := hC.vals 20 (hw 20 (by kernel_rfl)) _ rfl
    refine Z01 (v := .pointer (some ⟨g, off + (i + 1) * 9, none⟩)) (W' := W) rfl ?_ (hK.out _ _ (InvC.next hS (by decide) (hC.pure 21 _ (fun v' h => by cases h; rfl))))
    try dsimp only
    go_simp
    all_goals (intro hneg; exact absurd hneg (by omega))}
   refine StepsInv.cons _ rfl (fun dx ux W K' hI hd hw hK => ?_) ?_
   {obtain ⟨hS, hC⟩ := hI.open hd (by decide)
    have d21 : ux 21 = .pointer (some ⟨g, off + (i + 1) * 9, none⟩) := hC.vals 21 (hw 21 (by kernel_rfl)) _ rfl
    obtain ⟨p0, p1, p2, p3, p4, p5, p6, p7, p8⟩ := HY9.out.keep hgl hC.bel
    refine Z01 (v := .agg #[.int .i64 y.kind, .string ⟨y.of_.toArray⟩, .string ⟨y.name.toArray⟩, .int .i64 y.n, .slice (qs (i + 1)).A y.names.length (qs (i + 1)).c, .slice (qs (i + 1)).V y.vars.length (qs (i + 1)).e, .slice (qs (i + 1)).S y.shapes.length (qs (i + 1)).s, .slice (qs (i + 1)).P y.parts.length (qs (i + 1)).d, .int .i64 y.at_]) (W' := W) rfl ?_ (hK.out _ _ (InvC.next hS (by decide) (hC.pure 22 _ (fun v' h => by cases h; rfl))))
    try dsimp only
    go_simp}
   refine StepsInv.cons _ rfl (fun dx ux W K' hI hd hw hK => ?_) ?_
   {obtain ⟨hS, hC⟩ := hI.open hd (by decide)
    have d22 : ux 22 = .agg #[.int .i64 y.kind, .string ⟨y.of_.toArray⟩, .string ⟨y.name.toArray⟩, .int .i64 y.n, .slice (qs (i + 1)).A y.names.length (qs (i + 1)).c, .slice (qs (i + 1)).V y.vars.length (qs (i + 1)).e, .slice (qs (i + 1)).S y.shapes.length (qs (i + 1)).s, .slice (qs (i + 1)).P y.parts.length (qs (i + 1)).d, .int .i64 y.at_] := hC.vals 22 (hw 22 (by kernel_rfl)) _ rfl
    refine Z05 (f := 27) (args := #[.agg #[.int .i64 y.kind, .string ⟨y.of_.toArray⟩, .string ⟨y.name.toArray⟩, .int .i64 y.n, .slice (qs (i + 1)).A y.names.length (qs (i + 1)).c, .slice (qs (i + 1)).V y.vars.length (qs (i + 1)).e, .slice (qs (i + 1)).S y.shapes.length (qs (i + 1)).s, .slice (qs (i + 1)).P y.parts.length (qs (i + 1)).d, .int .i64 y.at_]]) (W' := W) rfl ?_ ((HWX.out W hC.bel).mono fun e w' h => ⟨_, h.1, hK.out _ _ (InvC.next hS (by decide) (hC.step 23 _ h.2 (fun v' h => by cases h; rfl)))⟩)
    try dsimp only
    go_simp}
   refine StepsInv.cons _ rfl (fun dx ux W K' hI hd hw hK => ?_) ?_
   {obtain ⟨hS, hC⟩ := hI.open hd (by decide)
    have d16 : ux 16 = .string ((((⟨x.toArray⟩ : ByteArray) ++ (⟨#[40]⟩ : ByteArray)) ++ (⟨tB.toArray⟩ : ByteArray)) ++ (⟨#[41, 32, 45, 62, 32]⟩ : ByteArray)) := hC.vals 16 (hw 16 (by kernel_rfl)) _ rfl
    have d23 : ux 23 = .string (⟨tX.toArray⟩ : ByteArray) := hC.vals 23 (hw 23 (by kernel_rfl)) _ rfl
    refine Z01 (v := .string (((((⟨x.toArray⟩ : ByteArray) ++ (⟨#[40]⟩ : ByteArray)) ++ (⟨tB.toArray⟩ : ByteArray)) ++ (⟨#[41, 32, 45, 62, 32]⟩ : ByteArray)) ++ (⟨tX.toArray⟩ : ByteArray))) (W' := W) rfl ?_ (hK.out _ _ (InvC.next hS (by decide) (hC.pure 24 _ (fun v' h => by cases h; rfl))))
    try dsimp only
    go_simp
    all_goals omega}
   refine StepsInv.cons _ rfl (fun dx ux W K' hI hd hw hK => ?_) ?_
   {obtain ⟨hS, hC⟩ := hI.open hd (by decide)
    have d0 : ux 0 = .slice (some ⟨W1.heap.size, 0, none⟩) t.names.length t.names.length := hC.vals 0 (hw 0 (by kernel_rfl)) _ rfl
    have d1 : ux 1 = .int .i64 (i : Int) := hC.vals 1 (hw 1 (by kernel_rfl)) _ rfl
    refine Z01 (v := .pointer (some ⟨W1.heap.size, i, none⟩)) (W' := W) rfl ?_ (hK.out _ _ (InvC.next hS (by decide) (hC.pure 25 _ (fun v' h => by cases h; rfl))))
    try dsimp only
    go_simp}
   refine StepsInv.cons _ rfl (fun dx ux W K' hI hd hw hK => ?_) StepsInv.nil
   {obtain ⟨hS, hC⟩ := hI.open hd (by decide)
    have d24 : ux 24 = .string (((((⟨x.toArray⟩ : ByteArray) ++ (⟨#[40]⟩ : ByteArray)) ++ (⟨tB.toArray⟩ : ByteArray)) ++ (⟨#[41, 32, 45, 62, 32]⟩ : ByteArray)) ++ (⟨tX.toArray⟩ : ByteArray)) := hC.vals 24 (hw 24 (by kernel_rfl)) _ rfl
    have d25 : ux 25 = .pointer (some ⟨W1.heap.size, i, none⟩) := hC.vals 25 (hw 25 (by kernel_rfl)) _ rfl
    have hall : ∀ j, j < 26 -> dx j = true := by
     intro j hj
     have : j ∈ [0, 1, 2, 3, 4, 5, 6, 7, 8, 9, 10, 11, 12, 13, 14, 15, 16, 17, 18, 19, 20, 21, 22, 23, 24, 25] := by simp; omega
     simp only [List.mem_cons, List.not_mem_nil, or_false] at this
     rcases this with rfl | rfl | rfl | rfl | rfl | rfl | rfl | rfl | rfl | rfl | rfl | rfl | rfl | rfl | rfl | rfl | rfl | rfl | rfl | rfl | rfl | rfl | rfl | rfl | rfl | rfl <;> exact hw _ (by kernel_rfl)
    have hT' := HT.out.next hC.bel
    have r0 := hT'.at_ i HLE.out
    have f0 := hT'.fz i
    have HT2 := Y1 (hT'.set HLE.out (x ++ [40] ++ tB ++ [41, 32, 45, 62, 32] ++ tX))
    have HBW := Y1 ((Z00 HB.out hC.bel).setCell (p := ⟨W1.heap.size, i, none⟩) (Nat.le_refl _) (.string ⟨(x ++ [40] ++ tB ++ [41, 32, 45, 62, 32] ++ tX).toArray⟩))
    rw [HCAT.out] at d24
    clear hT'
    refine Z2d (W' := W.setCell ⟨W1.heap.size, i, none⟩ (.string ⟨(x ++ [40] ++ tB ++ [41, 32, 45, 62, 32] ++ tX).toArray⟩)) rfl ?_ (hK.out undef _ (InvC.last hall ⟨HT2.out, HBW.out⟩))
    try dsimp only
    go_simp}
   intro d'' ua W4 hI hall
   rcases hI with ⟨h1, _⟩ | ⟨_, _, h1⟩
   {rw [hall 26 (by decide)] at h1; cases h1}
   have HT2 := Y1 h1.1
   have HBW := Y1 h1.2
   clear h1 hall
   go_wp2
   go_roundw
   case rel => exact ⟨i + 1, by go_num, by omega, by rw [<- HS.out]; exact HT2, HBW⟩
   case measure => simp [intOf]; omega}
  {have hi1 : ¬ (i : Int) < (t.names.length : Int) := by omega
   have hE : bs.take i ++ List.replicate (t.names.length - i) [] = bs := by rw [List.take_of_length_le (by rw [HBL.out]; omega), show t.names.length - i = 0 from by omega]; simp
   rw [hE] at HT
   have JN := Z30 W1.heap.size bs [32, 124, 32] wr HT.out (by rw [HBL.out]; omega) HJ.out
   rw [HBL.out] at JN
   clear hE
   go_wp2_with fail
   refine JN.mono ?_
   rintro e w2 ⟨rfl, hb2⟩
   have HB2 := Y1 (Z00 HB0.out (Z00 HB.out hb2))
   clear hb2 JN
   go_wp2
   go_ret
   exact ⟨rfl, HB2.out⟩}
def Zhs (w : World) (g off gs offs : Nat) (t : Tm) (q : TP) (x0 : Tm) (qs : Nat -> TP) (s0 : Sh) (rs : Nat -> Ptr) (tX0 tY tS0 : List UInt8) : Nat -> Want
 | 0 => .val (.pointer (some ⟨w.heap.size, 7, none⟩))
 | 1 => .val (.slice (some ⟨g, off, none⟩) t.parts.length q.d)
 | 2 => .val (.pointer (some ⟨g, off, none⟩))
 | 3 => .val (.agg (Y7 x0 (qs 0)))
 | 4 => .val (.string (⟨tX0.toArray⟩ : ByteArray))
 | 5 => .val (.string ((⟨#[99, 97, 115, 101, 32]⟩ : ByteArray) ++ (⟨tX0.toArray⟩ : ByteArray)))
 | 6 => .val (.string (((⟨#[99, 97, 115, 101, 32]⟩ : ByteArray) ++ (⟨tX0.toArray⟩ : ByteArray)) ++ (⟨#[32, 111, 102, 32, 123]⟩ : ByteArray)))
 | 7 => .val (.agg (Y7 t q))
 | 8 => .val (.string (⟨tY.toArray⟩ : ByteArray))
 | 9 => .val (.string ((((⟨#[99, 97, 115, 101, 32]⟩ : ByteArray) ++ (⟨tX0.toArray⟩ : ByteArray)) ++ (⟨#[32, 111, 102, 32, 123]⟩ : ByteArray)) ++ (⟨tY.toArray⟩ : ByteArray)))
 | 10 => .val (.string (((((⟨#[99, 97, 115, 101, 32]⟩ : ByteArray) ++ (⟨tX0.toArray⟩ : ByteArray)) ++ (⟨#[32, 111, 102, 32, 123]⟩ : ByteArray)) ++ (⟨tY.toArray⟩ : ByteArray)) ++ (⟨#[125, 32, 97, 115, 32]⟩ : ByteArray)))
 | 11 => .val (.pointer (some ⟨w.heap.size, 6, none⟩))
 | 12 => .val (.slice (some ⟨gs, offs, none⟩) t.shapes.length q.s)
 | 13 => .val (.pointer (some ⟨w.heap.size, 4, none⟩))
 | 14 => .val (.slice q.A t.names.length q.c)
 | 15 => .val (.int .i64 (t.names.length : Int))
 | 16 => .val (.pointer (some ⟨gs, offs + t.names.length * 5, none⟩))
 | 17 => .val (.agg (Y8 s0 (rs t.names.length)))
 | 18 => .val (.string (⟨tS0.toArray⟩ : ByteArray))
 | 19 => .val (.string ((((((⟨#[99, 97, 115, 101, 32]⟩ : ByteArray) ++ (⟨tX0.toArray⟩ : ByteArray)) ++ (⟨#[32, 111, 102, 32, 123]⟩ : ByteArray)) ++ (⟨tY.toArray⟩ : ByteArray)) ++ (⟨#[125, 32, 97, 115, 32]⟩ : ByteArray)) ++ (⟨tS0.toArray⟩ : ByteArray)))
 | 20 => .val (.string ((((((⟨#[99, 97, 115, 101, 32]⟩ : ByteArray) ++ (⟨tX0.toArray⟩ : ByteArray)) ++ (⟨#[32, 111, 102, 32, 123]⟩ : ByteArray)) ++ (⟨tY.toArray⟩ : ByteArray)) ++ (⟨#[125, 32, 97, 115, 32]⟩ : ByteArray)) ++ (⟨tS0.toArray⟩ : ByteArray)))
 | _ => .any
theorem ZaU (t : Tm) (q : TP) (w : World) (hq : TmAt w w.heap.size q t) (hG : Globs w) (hg : WGlobs w) (hr : right t = true) (ht : tame t = true) (hz : size t <= 4096) (hf : ∀ x ∈ t.parts, Wr8 x) (hk : t.kind = 13) :
 Y9 27 #[.agg (Y7 t q)] w (.string ⟨(text t).toArray⟩) := by
 have hb0 := Z02 w (.cells (Y7 t q) 26)
 have HB := Y1 (Z07 w t q)
 have HB0 := Y1 hb0
 obtain ⟨_, ⟨c0, c1, c2, c3, c4, c5, c6, c7, c8⟩, _⟩ := HB.out
 simp only [Nat.zero_add] at c0 c1 c2 c3 c4 c5 c6 c7 c8
 have k1 := Y3 1 hk rfl
 have k2 := Y3 2 hk rfl
 have k3 := Y3 3 hk rfl
 have k4 := Y3 4 hk rfl
 have k5 := Y3 5 hk rfl
 have k6 := Y3 6 hk rfl
 have k7 := Y3 7 hk rfl
 have k8 := Y3 8 hk rfl
 have k9 := Y3 9 hk rfl
 have k10 := Y3 10 hk rfl
 have k11 := Y3 11 hk rfl
 have k12 := Y3 12 hk rfl
 have k13 := Y4 13 hk rfl
 have hfk : fitsK t = true := by have hf := right_fits hr; unfold fits at hf; simp only [Bool.and_eq_true] at hf; exact hf.2
 unfold fitsK at hfk
 rw [if_neg (by omega), if_neg (by omega), if_neg (by omega), if_neg (by omega), if_neg (by omega), if_neg (by omega), if_neg (by omega), if_neg (by omega), if_neg (by omega), if_neg (by omega), if_pos (by omega)] at hfk
 simp only [Bool.and_eq_true, Z0e] at hfk
 obtain ⟨_, hn1, hv1, hs1, hp1⟩ := hfk
 have htl := Z0t hr
 have hwt : weight t <= 1048576 := by unfold tame at ht; simpa using ht
 have HT := Z8y hk
 have hnl := Z0x ht
 have hlp : t.parts.length <= 4096 := by have := length_sizes t.parts; rw [size_eq] at hz; omega
 rcases hq.part with h0 | ⟨g, off, qs, hqP, hgl, hc, hrr⟩
 {omega}
 obtain ⟨x0, hx0⟩ : ∃ x, x = t.parts[0]'(by omega) := ⟨_, rfl⟩
 have hm0 : x0 ∈ t.parts := by rw [hx0]; exact List.getElem_mem _
 have HX0 : Hid (Tm9 w g (off) x0 (qs 0)) := Y1 (by rw [hx0]; exact hc 0 (by omega))
 have HA0 : Hid (TmAt w w.heap.size (qs 0) x0) := Y1 (by rw [hx0]; exact hrr 0 (by omega))
 have hg0 : (t.parts.map text).getD 0 [] = text x0 := by rw [List.getD_eq_getElem?_getD, List.getElem?_map, List.getElem?_eq_getElem (by omega), hx0]; rfl
 rw [hg0] at HT
 rcases hq.shapes with h0 | ⟨gs, offs, rs, hqS, hgsl, hcs, hrs⟩
 {omega}
 obtain ⟨s0, hs0⟩ : ∃ s, s = t.shapes[t.names.length]'(by omega) := ⟨_, rfl⟩
 have hsm0 : s0 ∈ t.shapes := by rw [hs0]; exact List.getElem_mem _
 have hsc0 := ((Z0V (right_fits hr)).2.2 s0 hsm0).1
 have HS0 : Hid (Sh5 w gs (offs + t.names.length * 5) s0 (rs t.names.length)) := Y1 (by rw [hs0]; exact hcs (t.names.length) (by omega))
 have HSA0 : Hid (ShAt w w.heap.size (rs t.names.length) s0) := Y1 (by rw [hs0]; exact hrs (t.names.length) (by omega))
 have hgs0 : (t.shapes.map Shp.text).getD t.names.length [] = Shp.text s0 := by rw [List.getD_eq_getElem?_getD, List.getElem?_map, List.getElem?_eq_getElem (by omega), hs0]; rfl
 rw [hgs0] at HT
 have HWX0 := Y1 (fun (W : World) (h : Below w.heap.size w W) => hf x0 hm0 (qs 0) W (HA0.out.next h) (hG.next h) (hg.next h))
 obtain ⟨tX0, htX0⟩ : ∃ z, z = text x0 := ⟨_, rfl⟩
 rw [<- htX0] at HT HWX0
 have hjl : (join [32, 124, 32] (Tms.ways t.names t.vars (t.shapes.map Shp.text) (t.parts.map text))).length <= 140737488355328 := by
  have h1 := congrArg List.length HT
  simp only [List.length_append] at h1
  omega
 have hfl := Z0V (right_fits hr)
 have hpt : ∀ x ∈ t.parts, (text x).length <= 1000000000000 := fun x hx => by
  have h1 := Z0t (right_part hr hx)
  have h2 := Z1C ht hx
  unfold tame at h2
  rw [decide_eq_true_eq] at h2
  omega
 have HWY := Y1 (fun (W : World) (h : Below w.heap.size w W) => ZaT t q W (hq.next h) (hG.next h) (hg.next h) (by omega) (by omega) (by omega) (by omega) hf (fun x hx => by have := Shp.Z0U (hfl.1 x hx); omega) (fun x hx => by have := Shp.Z0U (hfl.2.1 x hx); omega) (fun x hx => ⟨(hfl.2.2 x hx).1, by have h4 := Z4c (hfl.2.2 x hx).1; have := Shp.Z1H h4.2 h4.1; omega⟩) hpt hjl)
 obtain ⟨tY, htY⟩ : ∃ z, z = join [32, 124, 32] (Tms.ways t.names t.vars (t.shapes.map Shp.text) (t.parts.map text)) := ⟨_, rfl⟩
 rw [<- htY] at HT HWY
 have HWS0 := Y1 (fun (W : World) (h : Below w.heap.size w W) => Z21 s0 (rs t.names.length) W (HSA0.out.next h) (hg.next h) hsc0)
 obtain ⟨tS0, htS0⟩ : ∃ z, z = Shp.text s0 := ⟨_, rfl⟩
 rw [<- htS0] at HT HWS0
 have hlen := congrArg List.length HT
 simp only [List.length_append, List.length_cons, List.length_nil] at hlen
 have zn : (⟨t.name.toArray⟩ : ByteArray).size = t.name.length := Z04 _
 have zX0 : (⟨tX0.toArray⟩ : ByteArray).size = tX0.length := Z04 _
 have bX0 : tX0.length <= 100000000000 := by omega
 have zY : (⟨tY.toArray⟩ : ByteArray).size = tY.length := Z04 _
 have bY : tY.length <= 100000000000 := by omega
 have zS0 : (⟨tS0.toArray⟩ : ByteArray).size = tS0.length := Z04 _
 have bS0 : tS0.length <= 100000000000 := by omega
 have HQP := Y1 hqP
 have hi0 : (0 : Int) < (t.parts.length : Int) := by omega
 have HQS := Y1 hqS
 have hj0 : (t.names.length : Int) < (t.shapes.length : Int) := by omega
 have hneP : ¬ t.parts = [] := fun e => by rw [e] at hp1; simp at hp1
 have hneS : ¬ t.shapes = [] := fun e => by rw [e] at hs1; simp at hs1
 have HT' := Y1 HT
 have bn : t.name.length <= 1000000000 := hnl.1
 have hpm := hq.small.m
 have hsm := hq.small.sh
 clear hb0 hq hG hg hr ht hz hf hk hn1 hv1 hs1 hp1 htl hwt HT hnl hlp hlen hqP hc hrr hx0 hm0 hg0 hqS hcs hrs hs0 hsm0 hsc0 hgs0 htX0 htY hjl hfl hpt htS0
 go_enter Tryz.func27, Tryz.ntmps27
 go_upto_region 1 with fail
 generalize w.alloc (.cells (Y7 t q) 26) = W0 at HB HB0 c0 c1 c2 c3 c4 c5 c6 c7 c8 ⊢
 go_wp2_with fail
 refine Z0p (rs := [0, 1, 2, 3, 4, 5, 6, 7, 8, 9, 10, 11, 12, 13, 14, 15, 16, 17, 18, 19, 20])
  (fun u' => { tmps := #[.agg (Y7 t q), .pointer (some ⟨w.heap.size, 0, none⟩), u' 20, .pointer (some ⟨w.heap.size, 0, none⟩), .int .i64 t.kind, .bool false, .bool false, undef, undef, undef, .bool false, .bool false, undef, undef, undef, .bool false, .bool false, .bool false, .bool false, .bool false, .bool false, undef, undef, .bool false, .bool false, undef, undef, undef, undef, undef, undef, undef, undef, undef, undef, undef, undef, undef, .bool false, .bool false, undef, undef, undef, undef, undef, undef, undef, undef, undef, undef, undef, undef, .bool false, .bool false, undef, undef, undef, undef, .bool false, .bool false, undef, undef, undef, undef, undef, undef, undef, undef, undef, .bool false, .bool false, undef, undef, undef, undef, undef, undef, undef, undef, undef, undef, undef, .bool false, .bool false, undef, undef, undef, undef, undef, undef, undef, undef, undef, undef, undef, .bool false, .bool false, undef, undef, undef, undef, undef, undef, undef, undef, undef, undef, undef, undef, undef, undef, undef, undef, undef, undef, undef, undef, undef, undef, undef, undef, undef, undef, undef, .bool true, .bool true, u' 0, u' 1, u' 2, u' 3, u' 4, u' 5, u' 6, u' 7, u' 8, u' 9, u' 10, u' 11, u' 12, u' 13, u' 14, u' 15, u' 16, u' 17, u' 18, u' 19, undef, undef, undef, undef, undef, undef, undef, undef, undef, undef, undef, undef, undef, undef, undef, undef, undef, undef, undef, undef, undef, undef, undef, undef, undef, undef, undef, undef, undef, undef, undef, undef, undef, undef, undef, undef, undef, undef, undef, undef, undef, undef, undef, undef, undef, undef, undef, undef, undef, undef, undef, undef, undef, undef, undef, undef, undef, undef, undef], defers := [] })
  (upd (fun _ => undef) 20 (.string ⟨#[]⟩)) (Zhs w g off gs offs t q x0 qs s0 rs tX0 tY tS0) (fun W => Below W0.heap.size W0 W) (by kernel_rfl) (by kernel_rfl) (by kernel_rfl) Y2.drew ?_ ?_
 refine StepsAt.cons _ rfl (fun u' W K' hJ hd hK => ?_) ?_
 {refine Y0 hK hJ rfl rfl rfl ?_
  try dsimp only
  go_simp}
 refine StepsAt.cons _ rfl (fun u' W K' hJ hd hK => ?_) ?_
 {have d0 : _ = _ := hd 0 (by kernel_rfl)
  obtain ⟨_, ⟨y0, y1, y2, y3, y4, y5, y6, y7, y8⟩, _⟩ := HB.out.next hJ
  simp only [Nat.zero_add] at y0 y1 y2 y3 y4 y5 y6 y7 y8
  rw [HQP.out] at y7
  refine Y0 hK hJ rfl rfl rfl ?_
  try dsimp only
  go_simp}
 refine StepsAt.cons _ rfl (fun u' W K' hJ hd hK => ?_) ?_
 {have d1 : _ = _ := hd 1 (by kernel_rfl)
  refine Y0 hK hJ rfl rfl rfl ?_
  try dsimp only
  go_simp
  all_goals (first | (intro hnil; exact absurd hnil hneP) | omega)}
 refine StepsAt.cons _ rfl (fun u' W K' hJ hd hK => ?_) ?_
 {have d2 : _ = _ := hd 2 (by kernel_rfl)
  obtain ⟨p0, p1, p2, p3, p4, p5, p6, p7, p8⟩ := HX0.out.keep hgl (Z00 HB0.out hJ)
  refine Y0 hK hJ rfl rfl rfl ?_
  try dsimp only
  go_simp}
 refine StepsAt.cons _ rfl (fun u' W K' hJ hd hK => ?_) ?_
 {have d3 : _ = _ := hd 3 (by kernel_rfl)
  refine Z05 (f := 27) (args := #[.agg (Y7 x0 (qs 0))]) (W' := W) rfl ?_ ((HWX0.out W (Z00 HB0.out hJ)).mono fun e w' h => ⟨_, h.1, hK.out _ _ rfl (Z00 hJ h.2) h.2⟩)
  try dsimp only
  go_simp}
 refine StepsAt.cons _ rfl (fun u' W K' hJ hd hK => ?_) ?_
 {have d4 : _ = _ := hd 4 (by kernel_rfl)
  refine Y0 hK hJ rfl rfl rfl ?_
  try dsimp only
  go_simp
  all_goals omega}
 refine StepsAt.cons _ rfl (fun u' W K' hJ hd hK => ?_) ?_
 {have d5 : _ = _ := hd 5 (by kernel_rfl)
  refine Y0 hK hJ rfl rfl rfl ?_
  try dsimp only
  go_simp
  all_goals omega}
 refine StepsAt.cons _ rfl (fun u' W K' hJ hd hK => ?_) ?_
 {obtain ⟨_, ⟨y0, y1, y2, y3, y4, y5, y6, y7, y8⟩, _⟩ := HB.out.next hJ
  simp only [Nat.zero_add] at y0 y1 y2 y3 y4 y5 y6 y7 y8
  refine Y0 hK hJ rfl rfl rfl ?_
  try dsimp only
  go_simp}
 refine StepsAt.cons _ rfl (fun u' W K' hJ hd hK => ?_) ?_
 {have d7 : _ = _ := hd 7 (by kernel_rfl)
  refine Z05 (f := 53) (args := #[.agg (Y7 t q)]) (W' := W) rfl ?_ ((HWY.out W (Z00 HB0.out hJ)).mono fun e w' h => ⟨_, h.1, hK.out _ _ rfl (Z00 hJ h.2) h.2⟩)
  try dsimp only
  go_simp}
 refine StepsAt.cons _ rfl (fun u' W K' hJ hd hK => ?_) ?_
 {have d6 : _ = _ := hd 6 (by kernel_rfl)
  have d8 : _ = _ := hd 8 (by kernel_rfl)
  refine Y0 hK hJ rfl rfl rfl ?_
  try dsimp only
  go_simp
  all_goals omega}
 refine StepsAt.cons _ rfl (fun u' W K' hJ hd hK => ?_) ?_
 {have d9 : _ = _ := hd 9 (by kernel_rfl)
  refine Y0 hK hJ rfl rfl rfl ?_
  try dsimp only
  go_simp
  all_goals omega}
 refine StepsAt.cons _ rfl (fun u' W K' hJ hd hK => ?_) ?_
 {refine Y0 hK hJ rfl rfl rfl ?_
  try dsimp only
  go_simp}
 refine StepsAt.cons _ rfl (fun u' W K' hJ hd hK => ?_) ?_
 {have d11 : _ = _ := hd 11 (by kernel_rfl)
  obtain ⟨_, ⟨y0, y1, y2, y3, y4, y5, y6, y7, y8⟩, _⟩ := HB.out.next hJ
  simp only [Nat.zero_add] at y0 y1 y2 y3 y4 y5 y6 y7 y8
  rw [HQS.out] at y6
  refine Y0 hK hJ rfl rfl rfl ?_
  try dsimp only
  go_simp}
 refine StepsAt.cons _ rfl (fun u' W K' hJ hd hK => ?_) ?_
 {refine Y0 hK hJ rfl rfl rfl ?_
  try dsimp only
  go_simp}
 refine StepsAt.cons _ rfl (fun u' W K' hJ hd hK => ?_) ?_
 {have d13 : _ = _ := hd 13 (by kernel_rfl)
  obtain ⟨_, ⟨y0, y1, y2, y3, y4, y5, y6, y7, y8⟩, _⟩ := HB.out.next hJ
  simp only [Nat.zero_add] at y0 y1 y2 y3 y4 y5 y6 y7 y8
  refine Y0 hK hJ rfl rfl rfl ?_
  try dsimp only
  go_simp}
 refine StepsAt.cons _ rfl (fun u' W K' hJ hd hK => ?_) ?_
 {have d14 : _ = _ := hd 14 (by kernel_rfl)
  refine Y0 hK hJ rfl rfl rfl ?_
  try dsimp only
  go_simp}
 refine StepsAt.cons _ rfl (fun u' W K' hJ hd hK => ?_) ?_
 {have d12 : _ = _ := hd 12 (by kernel_rfl)
  have d15 : _ = _ := hd 15 (by kernel_rfl)
  refine Y0 hK hJ rfl rfl rfl ?_
  try dsimp only
  go_simp
  all_goals (first | (intro hnil; exact absurd hnil hneS) | omega)}
 refine StepsAt.cons _ rfl (fun u' W K' hJ hd hK => ?_) ?_
 {have d16 : _ = _ := hd 16 (by kernel_rfl)
  obtain ⟨p0, p1, p2, p3, p4⟩ := HS0.out.keep hgsl (Z00 HB0.out hJ)
  refine Y0 hK hJ rfl rfl rfl ?_
  try dsimp only
  go_simp}
 refine StepsAt.cons _ rfl (fun u' W K' hJ hd hK => ?_) ?_
 {have d17 : _ = _ := hd 17 (by kernel_rfl)
  refine Z05 (f := 52) (args := #[.agg (Y8 s0 (rs t.names.length))]) (W' := W) rfl ?_ ((HWS0.out W (Z00 HB0.out hJ)).mono fun e w' h => ⟨_, h.1, hK.out _ _ rfl (Z00 hJ h.2) h.2⟩)
  try dsimp only
  go_simp}
 refine StepsAt.cons _ rfl (fun u' W K' hJ hd hK => ?_) ?_
 {have d10 : _ = _ := hd 10 (by kernel_rfl)
  have d18 : _ = _ := hd 18 (by kernel_rfl)
  refine Y0 hK hJ rfl rfl rfl ?_
  try dsimp only
  go_simp
  all_goals omega}
 refine StepsAt.cons _ rfl (fun u' W K' hJ hd hK => ?_) StepsAt.nil
 {have d19 : _ = _ := hd 19 (by kernel_rfl)
  refine Y0 hK hJ rfl rfl rfl ?_
  try dsimp only
  go_simp
  all_goals omega}
 intro u' W5 hJ hok
 have eL : u' 20 = .string ((((((⟨#[99, 97, 115, 101, 32]⟩ : ByteArray) ++ (⟨tX0.toArray⟩ : ByteArray)) ++ (⟨#[32, 111, 102, 32, 123]⟩ : ByteArray)) ++ (⟨tY.toArray⟩ : ByteArray)) ++ (⟨#[125, 32, 97, 115, 32]⟩ : ByteArray)) ++ (⟨tS0.toArray⟩ : ByteArray)) := hok 20 (by decide)
 try dsimp only
 rw [eL]
 have HBW := Y1 (Z00 HB0.out hJ)
 clear hok eL hJ
 go_wp2
 go_ret
 exact ⟨Z0h (by rw [HT'.out, <- cat7, <- cat7, <- cat7, <- cat7, <- cat7]), HBW.out⟩
def Zht (w : World) (g off : Nat) (t : Tm) (q : TP) (x0 : Tm) (x1 : Tm) (qs : Nat -> TP) (tX0 tX1 : List UInt8) : Nat -> Want
 | 0 => .val (.pointer (some ⟨w.heap.size, 2, none⟩))
 | 1 => .val (.string (⟨t.name.toArray⟩ : ByteArray))
 | 2 => .val (.string ((⟨#[108, 101, 116, 32]⟩ : ByteArray) ++ (⟨t.name.toArray⟩ : ByteArray)))
 | 3 => .val (.string (((⟨#[108, 101, 116, 32]⟩ : ByteArray) ++ (⟨t.name.toArray⟩ : ByteArray)) ++ (⟨#[32, 61, 32]⟩ : ByteArray)))
 | 4 => .val (.pointer (some ⟨w.heap.size, 7, none⟩))
 | 5 => .val (.slice (some ⟨g, off, none⟩) t.parts.length q.d)
 | 6 => .val (.pointer (some ⟨g, off, none⟩))
 | 7 => .val (.agg (Y7 x0 (qs 0)))
 | 8 => .val (.string (⟨tX0.toArray⟩ : ByteArray))
 | 9 => .val (.string ((((⟨#[108, 101, 116, 32]⟩ : ByteArray) ++ (⟨t.name.toArray⟩ : ByteArray)) ++ (⟨#[32, 61, 32]⟩ : ByteArray)) ++ (⟨tX0.toArray⟩ : ByteArray)))
 | 10 => .val (.string (((((⟨#[108, 101, 116, 32]⟩ : ByteArray) ++ (⟨t.name.toArray⟩ : ByteArray)) ++ (⟨#[32, 61, 32]⟩ : ByteArray)) ++ (⟨tX0.toArray⟩ : ByteArray)) ++ (⟨#[32, 105, 110, 32]⟩ : ByteArray)))
 | 11 => .val (.pointer (some ⟨w.heap.size, 7, none⟩))
 | 12 => .val (.slice (some ⟨g, off, none⟩) t.parts.length q.d)
 | 13 => .val (.pointer (some ⟨g, off + 9, none⟩))
 | 14 => .val (.agg (Y7 x1 (qs 1)))
 | 15 => .val (.string (⟨tX1.toArray⟩ : ByteArray))
 | 16 => .val (.string ((((((⟨#[108, 101, 116, 32]⟩ : ByteArray) ++ (⟨t.name.toArray⟩ : ByteArray)) ++ (⟨#[32, 61, 32]⟩ : ByteArray)) ++ (⟨tX0.toArray⟩ : ByteArray)) ++ (⟨#[32, 105, 110, 32]⟩ : ByteArray)) ++ (⟨tX1.toArray⟩ : ByteArray)))
 | 17 => .val (.string ((((((⟨#[108, 101, 116, 32]⟩ : ByteArray) ++ (⟨t.name.toArray⟩ : ByteArray)) ++ (⟨#[32, 61, 32]⟩ : ByteArray)) ++ (⟨tX0.toArray⟩ : ByteArray)) ++ (⟨#[32, 105, 110, 32]⟩ : ByteArray)) ++ (⟨tX1.toArray⟩ : ByteArray)))
 | _ => .any
theorem ZaV (t : Tm) (q : TP) (w : World) (hq : TmAt w w.heap.size q t) (hG : Globs w) (hg : WGlobs w) (hr : right t = true) (ht : tame t = true) (hz : size t <= 4096) (hf : ∀ x ∈ t.parts, Wr8 x) (hk : t.kind = 14) :
 Y9 27 #[.agg (Y7 t q)] w (.string ⟨(text t).toArray⟩) := by
 have hb0 := Z02 w (.cells (Y7 t q) 26)
 have HB := Y1 (Z07 w t q)
 have HB0 := Y1 hb0
 obtain ⟨_, ⟨c0, c1, c2, c3, c4, c5, c6, c7, c8⟩, _⟩ := HB.out
 simp only [Nat.zero_add] at c0 c1 c2 c3 c4 c5 c6 c7 c8
 have k1 := Y3 1 hk rfl
 have k2 := Y3 2 hk rfl
 have k3 := Y3 3 hk rfl
 have k4 := Y3 4 hk rfl
 have k5 := Y3 5 hk rfl
 have k6 := Y3 6 hk rfl
 have k7 := Y3 7 hk rfl
 have k8 := Y3 8 hk rfl
 have k9 := Y3 9 hk rfl
 have k10 := Y3 10 hk rfl
 have k11 := Y3 11 hk rfl
 have k12 := Y3 12 hk rfl
 have k13 := Y3 13 hk rfl
 have k14 := Y4 14 hk rfl
 have hfk : fitsK t = true := by have hf := right_fits hr; unfold fits at hf; simp only [Bool.and_eq_true] at hf; exact hf.2
 unfold fitsK at hfk
 rw [if_neg (by omega), if_neg (by omega), if_neg (by omega), if_neg (by omega), if_neg (by omega), if_neg (by omega), if_neg (by omega), if_neg (by omega), if_neg (by omega), if_neg (by omega), if_neg (by omega), if_pos (by omega)] at hfk
 simp only [Bool.and_eq_true, Z0e] at hfk
 obtain ⟨_, hn1, hv1, hs1, hp1⟩ := hfk
 have htl := Z0t hr
 have hwt : weight t <= 1048576 := by unfold tame at ht; simpa using ht
 have HT := Z8z hk
 have hnl := Z0x ht
 have hlp : t.parts.length <= 4096 := by have := length_sizes t.parts; rw [size_eq] at hz; omega
 rcases hq.part with h0 | ⟨g, off, qs, hqP, hgl, hc, hrr⟩
 {omega}
 obtain ⟨x0, hx0⟩ : ∃ x, x = t.parts[0]'(by omega) := ⟨_, rfl⟩
 have hm0 : x0 ∈ t.parts := by rw [hx0]; exact List.getElem_mem _
 have HX0 : Hid (Tm9 w g (off) x0 (qs 0)) := Y1 (by rw [hx0]; exact hc 0 (by omega))
 have HA0 : Hid (TmAt w w.heap.size (qs 0) x0) := Y1 (by rw [hx0]; exact hrr 0 (by omega))
 have hg0 : (t.parts.map text).getD 0 [] = text x0 := by rw [List.getD_eq_getElem?_getD, List.getElem?_map, List.getElem?_eq_getElem (by omega), hx0]; rfl
 rw [hg0] at HT
 obtain ⟨x1, hx1⟩ : ∃ x, x = t.parts[1]'(by omega) := ⟨_, rfl⟩
 have hm1 : x1 ∈ t.parts := by rw [hx1]; exact List.getElem_mem _
 have HX1 : Hid (Tm9 w g (off + 9) x1 (qs 1)) := Y1 (by rw [hx1]; exact hc 1 (by omega))
 have HA1 : Hid (TmAt w w.heap.size (qs 1) x1) := Y1 (by rw [hx1]; exact hrr 1 (by omega))
 have hg1 : (t.parts.map text).getD 1 [] = text x1 := by rw [List.getD_eq_getElem?_getD, List.getElem?_map, List.getElem?_eq_getElem (by omega), hx1]; rfl
 rw [hg1] at HT
 have HWX0 := Y1 (fun (W : World) (h : Below w.heap.size w W) => hf x0 hm0 (qs 0) W (HA0.out.next h) (hG.next h) (hg.next h))
 obtain ⟨tX0, htX0⟩ : ∃ z, z = text x0 := ⟨_, rfl⟩
 rw [<- htX0] at HT HWX0
 have HWX1 := Y1 (fun (W : World) (h : Below w.heap.size w W) => hf x1 hm1 (qs 1) W (HA1.out.next h) (hG.next h) (hg.next h))
 obtain ⟨tX1, htX1⟩ : ∃ z, z = text x1 := ⟨_, rfl⟩
 rw [<- htX1] at HT HWX1
 have hlen := congrArg List.length HT
 simp only [List.length_append, List.length_cons, List.length_nil] at hlen
 have zn : (⟨t.name.toArray⟩ : ByteArray).size = t.name.length := Z04 _
 have zX0 : (⟨tX0.toArray⟩ : ByteArray).size = tX0.length := Z04 _
 have bX0 : tX0.length <= 100000000000 := by omega
 have zX1 : (⟨tX1.toArray⟩ : ByteArray).size = tX1.length := Z04 _
 have bX1 : tX1.length <= 100000000000 := by omega
 have HQP := Y1 hqP
 have hi0 : (0 : Int) < (t.parts.length : Int) := by omega
 have hi1 : (1 : Int) < (t.parts.length : Int) := by omega
 have hneP : ¬ t.parts = [] := fun e => by rw [e] at hp1; simp at hp1
 have HT' := Y1 HT
 have bn : t.name.length <= 1000000000 := hnl.1
 have hpm := hq.small.m
 clear hb0 hq hG hg hr ht hz hf hk hn1 hv1 hs1 hp1 htl hwt HT hnl hlp hlen hqP hc hrr hx0 hx1 hm0 hm1 hg0 hg1 htX0 htX1
 go_enter Tryz.func27, Tryz.ntmps27
 go_upto_region 1 with fail
 generalize w.alloc (.cells (Y7 t q) 26) = W0 at HB HB0 c0 c1 c2 c3 c4 c5 c6 c7 c8 ⊢
 go_wp2_with fail
 refine Z0p (rs := [0, 1, 2, 3, 4, 5, 6, 7, 8, 9, 10, 11, 12, 13, 14, 15, 16, 17])
  (fun u' => { tmps := #[.agg (Y7 t q), .pointer (some ⟨w.heap.size, 0, none⟩), u' 17, .pointer (some ⟨w.heap.size, 0, none⟩), .int .i64 t.kind, .bool false, .bool false, undef, undef, undef, .bool false, .bool false, undef, undef, undef, .bool false, .bool false, .bool false, .bool false, .bool false, .bool false, undef, undef, .bool false, .bool false, undef, undef, undef, undef, undef, undef, undef, undef, undef, undef, undef, undef, undef, .bool false, .bool false, undef, undef, undef, undef, undef, undef, undef, undef, undef, undef, undef, undef, .bool false, .bool false, undef, undef, undef, undef, .bool false, .bool false, undef, undef, undef, undef, undef, undef, undef, undef, undef, .bool false, .bool false, undef, undef, undef, undef, undef, undef, undef, undef, undef, undef, undef, .bool false, .bool false, undef, undef, undef, undef, undef, undef, undef, undef, undef, undef, undef, .bool false, .bool false, undef, undef, undef, undef, undef, undef, undef, undef, undef, undef, undef, undef, undef, undef, undef, undef, undef, undef, undef, undef, undef, undef, undef, undef, undef, undef, undef, .bool false, .bool false, undef, undef, undef, undef, undef, undef, undef, undef, undef, undef, undef, undef, undef, undef, undef, undef, undef, undef, undef, undef, .bool true, .bool true, u' 0, u' 1, u' 2, u' 3, u' 4, u' 5, u' 6, u' 7, u' 8, u' 9, u' 10, u' 11, u' 12, u' 13, u' 14, u' 15, u' 16, undef, undef, undef, undef, undef, undef, undef, undef, undef, undef, undef, undef, undef, undef, undef, undef, undef, undef, undef, undef, undef, undef, undef, undef, undef, undef, undef, undef, undef, undef, undef, undef, undef, undef, undef, undef, undef, undef, undef, undef], defers := [] })
  (upd (fun _ => undef) 17 (.string ⟨#[]⟩)) (Zht w g off t q x0 x1 qs tX0 tX1) (fun W => Below W0.heap.size W0 W) (by kernel_rfl) (by kernel_rfl) (by kernel_rfl) Y2.drew ?_ ?_
 refine StepsAt.cons _ rfl (fun u' W K' hJ hd hK => ?_) ?_
 {refine Y0 hK hJ rfl rfl rfl ?_
  try dsimp only
  go_simp}
 refine StepsAt.cons _ rfl (fun u' W K' hJ hd hK => ?_) ?_
 {have d0 : _ = _ := hd 0 (by kernel_rfl)
  obtain ⟨_, ⟨y0, y1, y2, y3, y4, y5, y6, y7, y8⟩, _⟩ := HB.out.next hJ
  simp only [Nat.zero_add] at y0 y1 y2 y3 y4 y5 y6 y7 y8
  refine Y0 hK hJ rfl rfl rfl ?_
  try dsimp only
  go_simp}
 refine StepsAt.cons _ rfl (fun u' W K' hJ hd hK => ?_) ?_
 {have d1 : _ = _ := hd 1 (by kernel_rfl)
  refine Y0 hK hJ rfl rfl rfl ?_
  try dsimp only
  go_simp
  all_goals omega}
 refine StepsAt.cons _ rfl (fun u' W K' hJ hd hK => ?_) ?_
 {have d2 : _ = _ := hd 2 (by kernel_rfl)
  refine Y0 hK hJ rfl rfl rfl ?_
  try dsimp only
  go_simp
  all_goals omega}
 refine StepsAt.cons _ rfl (fun u' W K' hJ hd hK => ?_) ?_
 {refine Y0 hK hJ rfl rfl rfl ?_
  try dsimp only
  go_simp}
 refine StepsAt.cons _ rfl (fun u' W K' hJ hd hK => ?_) ?_
 {have d4 : _ = _ := hd 4 (by kernel_rfl)
  obtain ⟨_, ⟨y0, y1, y2, y3, y4, y5, y6, y7, y8⟩, _⟩ := HB.out.next hJ
  simp only [Nat.zero_add] at y0 y1 y2 y3 y4 y5 y6 y7 y8
  rw [HQP.out] at y7
  refine Y0 hK hJ rfl rfl rfl ?_
  try dsimp only
  go_simp}
 refine StepsAt.cons _ rfl (fun u' W K' hJ hd hK => ?_) ?_
 {have d5 : _ = _ := hd 5 (by kernel_rfl)
  refine Y0 hK hJ rfl rfl rfl ?_
  try dsimp only
  go_simp
  all_goals (first | (intro hnil; exact absurd hnil hneP) | omega)}
 refine StepsAt.cons _ rfl (fun u' W K' hJ hd hK => ?_) ?_
 {have d6 : _ = _ := hd 6 (by kernel_rfl)
  obtain ⟨p0, p1, p2, p3, p4, p5, p6, p7, p8⟩ := HX0.out.keep hgl (Z00 HB0.out hJ)
  refine Y0 hK hJ rfl rfl rfl ?_
  try dsimp only
  go_simp}
 refine StepsAt.cons _ rfl (fun u' W K' hJ hd hK => ?_) ?_
 {have d7 : _ = _ := hd 7 (by kernel_rfl)
  refine Z05 (f := 27) (args := #[.agg (Y7 x0 (qs 0))]) (W' := W) rfl ?_ ((HWX0.out W (Z00 HB0.out hJ)).mono fun e w' h => ⟨_, h.1, hK.out _ _ rfl (Z00 hJ h.2) h.2⟩)
  try dsimp only
  go_simp}
 refine StepsAt.cons _ rfl (fun u' W K' hJ hd hK => ?_) ?_
 {have d3 : _ = _ := hd 3 (by kernel_rfl)
  have d8 : _ = _ := hd 8 (by kernel_rfl)
  refine Y0 hK hJ rfl rfl rfl ?_
  try dsimp only
  go_simp
  all_goals omega}
 refine StepsAt.cons _ rfl (fun u' W K' hJ hd hK => ?_) ?_
 {have d9 : _ = _ := hd 9 (by kernel_rfl)
  refine Y0 hK hJ rfl rfl rfl ?_
  try dsimp only
  go_simp
  all_goals omega}
 refine StepsAt.cons _ rfl (fun u' W K' hJ hd hK => ?_) ?_
 {refine Y0 hK hJ rfl rfl rfl ?_
  try dsimp only
  go_simp}
 refine StepsAt.cons _ rfl (fun u' W K' hJ hd hK => ?_) ?_
 {have d11 : _ = _ := hd 11 (by kernel_rfl)
  obtain ⟨_, ⟨y0, y1, y2, y3, y4, y5, y6, y7, y8⟩, _⟩ := HB.out.next hJ
  simp only [Nat.zero_add] at y0 y1 y2 y3 y4 y5 y6 y7 y8
  rw [HQP.out] at y7
  refine Y0 hK hJ rfl rfl rfl ?_
  try dsimp only
  go_simp}
 refine StepsAt.cons _ rfl (fun u' W K' hJ hd hK => ?_) ?_
 {have d12 : _ = _ := hd 12 (by kernel_rfl)
  refine Y0 hK hJ rfl rfl rfl ?_
  try dsimp only
  go_simp
  all_goals (first | (intro hnil; exact absurd hnil hneP) | omega)}
 refine StepsAt.cons _ rfl (fun u' W K' hJ hd hK => ?_) ?_
 {have d13 : _ = _ := hd 13 (by kernel_rfl)
  obtain ⟨p0, p1, p2, p3, p4, p5, p6, p7, p8⟩ := HX1.out.keep hgl (Z00 HB0.out hJ)
  simp only [Nat.add_assoc, Nat.reduceAdd] at p0 p1 p2 p3 p4 p5 p6 p7 p8
  refine Y0 hK hJ rfl rfl rfl ?_
  try dsimp only
  go_simp}
 refine StepsAt.cons _ rfl (fun u' W K' hJ hd hK => ?_) ?_
 {have d14 : _ = _ := hd 14 (by kernel_rfl)
  refine Z05 (f := 27) (args := #[.agg (Y7 x1 (qs 1))]) (W' := W) rfl ?_ ((HWX1.out W (Z00 HB0.out hJ)).mono fun e w' h => ⟨_, h.1, hK.out _ _ rfl (Z00 hJ h.2) h.2⟩)
  try dsimp only
  go_simp}
 refine StepsAt.cons _ rfl (fun u' W K' hJ hd hK => ?_) ?_
 {have d10 : _ = _ := hd 10 (by kernel_rfl)
  have d15 : _ = _ := hd 15 (by kernel_rfl)
  refine Y0 hK hJ rfl rfl rfl ?_
  try dsimp only
  go_simp
  all_goals omega}
 refine StepsAt.cons _ rfl (fun u' W K' hJ hd hK => ?_) StepsAt.nil
 {have d16 : _ = _ := hd 16 (by kernel_rfl)
  refine Y0 hK hJ rfl rfl rfl ?_
  try dsimp only
  go_simp
  all_goals omega}
 intro u' W5 hJ hok
 have eL : u' 17 = .string ((((((⟨#[108, 101, 116, 32]⟩ : ByteArray) ++ (⟨t.name.toArray⟩ : ByteArray)) ++ (⟨#[32, 61, 32]⟩ : ByteArray)) ++ (⟨tX0.toArray⟩ : ByteArray)) ++ (⟨#[32, 105, 110, 32]⟩ : ByteArray)) ++ (⟨tX1.toArray⟩ : ByteArray)) := hok 17 (by decide)
 try dsimp only
 rw [eL]
 have HBW := Y1 (Z00 HB0.out hJ)
 clear hok eL hJ
 go_wp2
 go_ret
 exact ⟨Z0h (by rw [HT'.out, <- cat7, <- cat7, <- cat7, <- cat7, <- cat7]), HBW.out⟩
end Go.Proofs.YtnkdedejfonbmaaGreatDoor
