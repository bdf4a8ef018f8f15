/- What the proofs of TermsBare, TermsChecks, TermsDeep, TermsSame, TermsSames want, part 14. -/
import Derived.WalkMore
import Derived.StillTailTactics
import Derived.Deep.RegionHeld3
import Derived.Test.YtnkdedejfonbmaaGreatDoorK0n13
set_option linter.unusedVariables false
set_option linter.unusedSimpArgs false
set_option maxRecDepth 100000
set_option maxHeartbeats 16000000
namespace Go.Proofs.YtnkdedejfonbmaaGreatDoor
open Go.RowKit Tms
open Shp (Sh field join)
def Zhn (w : World) (gs offs : Nat) (t : Tm) (q : TP) (s0 : Sh) (rs : Nat -> Ptr) (tP tS0 : List UInt8) : Nat -> Want
 | 0 => .val (.pointer (some ⟨w.heap.size, 7, none⟩))
 | 1 => .val (.slice q.P t.parts.length q.d)
 | 2 => .val (.string (⟨tP.toArray⟩ : ByteArray))
 | 3 => .val (.string ((⟨#[91]⟩ : ByteArray) ++ (⟨tP.toArray⟩ : ByteArray)))
 | 4 => .val (.string (((⟨#[91]⟩ : ByteArray) ++ (⟨tP.toArray⟩ : ByteArray)) ++ (⟨#[93, 32, 111, 102, 32]⟩ : ByteArray)))
 | 5 => .val (.pointer (some ⟨w.heap.size, 6, none⟩))
 | 6 => .val (.slice (some ⟨gs, offs, none⟩) t.shapes.length q.s)
 | 7 => .val (.pointer (some ⟨gs, offs, none⟩))
 | 8 => .val (.agg (Y8 s0 (rs 0)))
 | 9 => .val (.string (⟨tS0.toArray⟩ : ByteArray))
 | 10 => .val (.string ((((⟨#[91]⟩ : ByteArray) ++ (⟨tP.toArray⟩ : ByteArray)) ++ (⟨#[93, 32, 111, 102, 32]⟩ : ByteArray)) ++ (⟨tS0.toArray⟩ : ByteArray)))
 | 11 => .val (.string ((((⟨#[91]⟩ : ByteArray) ++ (⟨tP.toArray⟩ : ByteArray)) ++ (⟨#[93, 32, 111, 102, 32]⟩ : ByteArray)) ++ (⟨tS0.toArray⟩ : ByteArray)))
 | _ => .any
theorem ZaI (t : Tm) (q : TP) (w : World) (hq : TmAt w w.heap.size q t) (hG : Globs w) (hg : WGlobs w) (hr : right t = true) (ht : tame t = true) (hz : size t <= 4096) (hf : ∀ x ∈ t.parts, Wr8 x) (hk : t.kind = 11) :
 Y9 27 #[.agg (Y7 t q)] w (.string ⟨(text t).toArray⟩) := by
 have hb0 := Z02 w (.cells (Y7 t q) 26)
 have HB := Y1 (Z07 w t q)
 have HB0 := Y1 hb0
 obtain ⟨_, ⟨c0, c1, c2, c3, c4, c5, c6, c7, c8⟩, _⟩ := HB.out
 simp only [Nat.zero_add] at c0 c1 c2 c3 c4 c5 c6 c7 c8
 have k1 := Y3 1 hk rfl
 have k2 := Y3 2 hk rfl
 have k3 := Y3 3 hk rfl
 have k4 := Y3 4 hk rfl
 have k5 := Y3 5 hk rfl
 have k6 := Y3 6 hk rfl
 have k7 := Y3 7 hk rfl
 have k8 := Y3 8 hk rfl
 have k9 := Y3 9 hk rfl
 have k10 := Y3 10 hk rfl
 have k11 := Y4 11 hk rfl
 have hfk : fitsK t = true := by have hf := right_fits hr; unfold fits at hf; simp only [Bool.and_eq_true] at hf; exact hf.2
 unfold fitsK at hfk
 rw [if_neg (by omega), if_neg (by omega), if_neg (by omega), if_neg (by omega), if_neg (by omega), if_neg (by omega), if_neg (by omega), if_neg (by omega), if_pos (by omega)] at hfk
 simp only [Bool.and_eq_true, Z0e] at hfk
 obtain ⟨_, hn1, hv1, hs1, hp1⟩ := hfk
 have htl := Z0t hr
 have hwt : weight t <= 1048576 := by unfold tame at ht; simpa using ht
 have HT := Z8w hk
 have hnl := Z0x ht
 have hlp : t.parts.length <= 4096 := by have := length_sizes t.parts; rw [size_eq] at hz; omega
 rcases hq.shapes with h0 | ⟨gs, offs, rs, hqS, hgsl, hcs, hrs⟩
 {omega}
 obtain ⟨s0, hs0⟩ : ∃ s, s = t.shapes[0]'(by omega) := ⟨_, rfl⟩
 have hsm0 : s0 ∈ t.shapes := by rw [hs0]; exact List.getElem_mem _
 have hsc0 := ((Z0V (right_fits hr)).2.2 s0 hsm0).1
 have HS0 : Hid (Sh5 w gs (offs) s0 (rs 0)) := Y1 (by rw [hs0]; exact hcs 0 (by omega))
 have HSA0 : Hid (ShAt w w.heap.size (rs 0) s0) := Y1 (by rw [hs0]; exact hrs 0 (by omega))
 have hgs0 : (t.shapes.map Shp.text).getD 0 [] = Shp.text s0 := by rw [List.getD_eq_getElem?_getD, List.getElem?_map, List.getElem?_eq_getElem (by omega), hs0]; rfl
 rw [hgs0] at HT
 have hjl : (join [44, 32] (t.parts.map text)).length <= 140737488355328 := by
  have h1 := congrArg List.length HT
  simp only [List.length_append] at h1
  omega
 have HWP := Y1 (fun (W : World) (h : Below w.heap.size w W) => Z50 q.P q.d t.parts W (by
  rcases hq.part with h0 | ⟨g', off', qs', h1, h2, h3, h4⟩
  {exact Or.inl h0}
  · exact TmsAt.next (Or.inr ⟨g', off', qs', h1, h2, h3, h4⟩) h) (by omega) (hG.next h) (hg.next h) hf hjl)
 obtain ⟨tP, htP⟩ : ∃ z, z = join [44, 32] (t.parts.map text) := ⟨_, rfl⟩
 rw [<- htP] at HT HWP
 have HWS0 := Y1 (fun (W : World) (h : Below w.heap.size w W) => Z21 s0 (rs 0) W (HSA0.out.next h) (hg.next h) hsc0)
 obtain ⟨tS0, htS0⟩ : ∃ z, z = Shp.text s0 := ⟨_, rfl⟩
 rw [<- htS0] at HT HWS0
 have hlen := congrArg List.length HT
 simp only [List.length_append, List.length_cons, List.length_nil] at hlen
 have zn : (⟨t.name.toArray⟩ : ByteArray).size = t.name.length := Z04 _
 have zP : (⟨tP.toArray⟩ : ByteArray).size = tP.length := Z04 _
 have bP : tP.length <= 100000000000 := by omega
 have zS0 : (⟨tS0.toArray⟩ : ByteArray).size = tS0.length := Z04 _
 have bS0 : tS0.length <= 100000000000 := by omega
 have HQS := Y1 hqS
 have hj0 : (0 : Int) < (t.shapes.length : Int) := by omega
 have hneS : ¬ t.shapes = [] := fun e => by rw [e] at hs1; simp at hs1
 have HT' := Y1 HT
 have bn : t.name.length <= 1000000000 := hnl.1
 have hsm := hq.small.sh
 clear hb0 hq hG hg hr ht hz hf hk hn1 hv1 hs1 hp1 htl hwt HT hnl hlp hlen hqS hcs hrs hs0 hsm0 hsc0 hgs0 htP hjl htS0
 go_enter Tryz.func27, Tryz.ntmps27
 go_upto_region 1 with fail
 generalize w.alloc (.cells (Y7 t q) 26) = W0 at HB HB0 c0 c1 c2 c3 c4 c5 c6 c7 c8 ⊢
 go_wp2_with fail
 refine Z0p (rs := [0, 1, 2, 3, 4, 5, 6, 7, 8, 9, 10, 11])
  (fun u' => { tmps := #[.agg (Y7 t q), .pointer (some ⟨w.heap.size, 0, none⟩), u' 11, .pointer (some ⟨w.heap.size, 0, none⟩), .int .i64 t.kind, .bool false, .bool false, undef, undef, undef, .bool false, .bool false, undef, undef, undef, .bool false, .bool false, .bool false, .bool false, .bool false, .bool false, undef, undef, .bool false, .bool false, undef, undef, undef, undef, undef, undef, undef, undef, undef, undef, undef, undef, undef, .bool false, .bool false, undef, undef, undef, undef, undef, undef, undef, undef, undef, undef, undef, undef, .bool false, .bool false, undef, undef, undef, undef, .bool false, .bool false, undef, undef, undef, undef, undef, undef, undef, undef, undef, .bool false, .bool false, undef, undef, undef, undef, undef, undef, undef, undef, undef, undef, undef, .bool true, .bool true, u' 0, u' 1, u' 2, u' 3, u' 4, u' 5, u' 6, u' 7, u' 8, u' 9, u' 10, undef, undef, undef, undef, undef, undef, undef, undef, undef, undef, undef, undef, undef, undef, undef, undef, undef, undef, undef, undef, undef, undef, undef, undef, undef, undef, undef, undef, undef, undef, undef, undef, undef, undef, undef, undef, undef, undef, undef, undef, undef, undef, undef, undef, undef, undef, undef, undef, undef, undef, undef, undef, undef, undef, undef, undef, undef, undef, undef, undef, undef, undef, undef, undef, undef, undef, undef, undef, undef, undef, undef, undef, undef, undef, undef, undef, undef, undef, undef, undef, undef, undef, undef, undef, undef, undef, undef, undef, undef, undef, undef, undef, undef, undef, undef, undef, undef, undef, undef, undef, undef, undef, undef, undef, undef, undef, undef, undef, undef, undef], defers := [] })
  (upd (fun _ => undef) 11 (.string ⟨#[]⟩)) (Zhn w gs offs t q s0 rs tP tS0) (fun W => Below W0.heap.size W0 W) (by kernel_rfl) (by kernel_rfl) (by kernel_rfl) Y2.drew ?_ ?_
 refine StepsAt.cons _ rfl (fun u' W K' hJ hd hK => ?_) ?_
 {refine Y0 hK hJ rfl rfl rfl ?_
  try dsimp only
  go_simp}
 refine StepsAt.cons _ rfl (fun u' W K' hJ hd hK => ?_) ?_
 {have d0 : _ = _ := hd 0 (by kernel_rfl)
  obtain ⟨_, ⟨y0, y1, y2, y3, y4, y5, y6, y7, y8⟩, _⟩ := HB.out.next hJ
  simp only [Nat.zero_add] at y0 y1 y2 y3 y4 y5 y6 y7 y8
  refine Y0 hK hJ rfl rfl rfl ?_
  try dsimp only
  go_simp}
 refine StepsAt.cons _ rfl (fun u' W K' hJ hd hK => ?_) ?_
 {have d1 : _ = _ := hd 1 (by kernel_rfl)
  refine Z05 (f := 50) (args := #[.slice q.P t.parts.length q.d]) (W' := W) rfl ?_ ((HWP.out W (Z00 HB0.out hJ)).mono fun e w' h => ⟨_, h.1, hK.out _ _ rfl (Z00 hJ h.2) h.2⟩)
  try dsimp only
  go_simp}
 refine StepsAt.cons _ rfl (fun u' W K' hJ hd hK => ?_) ?_
 {have d2 : _ = _ := hd 2 (by kernel_rfl)
  refine Y0 hK hJ rfl rfl rfl ?_
  try dsimp only
  go_simp
  all_goals omega}
 refine StepsAt.cons _ rfl (fun u' W K' hJ hd hK => ?_) ?_
 {have d3 : _ = _ := hd 3 (by kernel_rfl)
  refine Y0 hK hJ rfl rfl rfl ?_
  try dsimp only
  go_simp
  all_goals omega}
 refine StepsAt.cons _ rfl (fun u' W K' hJ hd hK => ?_) ?_
 {refine Y0 hK hJ rfl rfl rfl ?_
  try dsimp only
  go_simp}
 refine StepsAt.cons _ rfl (fun u' W K' hJ hd hK => ?_) ?_
 {have d5 : _ = _ := hd 5 (by kernel_rfl)
  obtain ⟨_, ⟨y0, y1, y2, y3, y4, y5, y6, y7, y8⟩, _⟩ := HB.out.next hJ
  simp only [Nat.zero_add] at y0 y1 y2 y3 y4 y5 y6 y7 y8
  rw [HQS.out] at y6
  refine Y0 hK hJ rfl rfl rfl ?_
  try dsimp only
  go_simp}
 refine StepsAt.cons _ rfl (fun u' W K' hJ hd hK => ?_) ?_
 {have d6 : _ = _ := hd 6 (by kernel_rfl)
  refine Y0 hK hJ rfl rfl rfl ?_
  try dsimp only
  go_simp
  all_goals (first | (intro hnil; exact absurd hnil hneS) | omega)}
 refine StepsAt.cons _ rfl (fun u' W K' hJ hd hK => ?_) ?_
 {have d7 : _ = _ := hd 7 (by kernel_rfl)
  obtain ⟨p0, p1, p2, p3, p4⟩ := HS0.out.keep hgsl (Z00 HB0.out hJ)
  refine Y0 hK hJ rfl rfl rfl ?_
  try dsimp only
  go_simp}
 refine StepsAt.cons _ rfl (fun u' W K' hJ hd hK => ?_) ?_
 {have d8 : _ = _ := hd 8 (by kernel_rfl)
  refine Z05 (f := 52) (args := #[.agg (Y8 s0 (rs 0))]) (W' := W) rfl ?_ ((HWS0.out W (Z00 HB0.out hJ)).mono fun e w' h => ⟨_, h.1, hK.out _ _ rfl (Z00 hJ h.2) h.2⟩)
  try dsimp only
  go_simp}
 refine StepsAt.cons _ rfl (fun u' W K' hJ hd hK => ?_) ?_
 {have d4 : _ = _ := hd 4 (by kernel_rfl)
  have d9 : _ = _ := hd 9 (by kernel_rfl)
  refine Y0 hK hJ rfl rfl rfl ?_
  try dsimp only
  go_simp
  all_goals omega}
 refine StepsAt.cons _ rfl (fun u' W K' hJ hd hK => ?_) StepsAt.nil
 {have d10 : _ = _ := hd 10 (by kernel_rfl)
  refine Y0 hK hJ rfl rfl rfl ?_
  try dsimp only
  go_simp
  all_goals omega}
 intro u' W5 hJ hok
 have eL : u' 11 = .string ((((⟨#[91]⟩ : ByteArray) ++ (⟨tP.toArray⟩ : ByteArray)) ++ (⟨#[93, 32, 111, 102, 32]⟩ : ByteArray)) ++ (⟨tS0.toArray⟩ : ByteArray)) := hok 11 (by decide)
 try dsimp only
 rw [eL]
 have HBW := Y1 (Z00 HB0.out hJ)
 clear hok eL hJ
 go_wp2
 go_ret
 exact ⟨Z0h (by rw [HT'.out, <- cat7, <- cat7, <- cat7]), HBW.out⟩
def Zho (w : World) (g off gs offs : Nat) (t : Tm) (q : TP) (x0 : Tm) (x1 : Tm) (x2 : Tm) (qs : Nat -> TP) (s0 : Sh) (rs : Nat -> Ptr) (tX0 tX1 tX2 tS0 : List UInt8) : Nat -> Want
 | 0 => .val (.pointer (some ⟨w.heap.size, 7, none⟩))
 | 1 => .val (.slice (some ⟨g, off, none⟩) t.parts.length q.d)
 | 2 => .val (.pointer (some ⟨g, off, none⟩))
 | 3 => .val (.agg (Y7 x0 (qs 0)))
 | 4 => .val (.string (⟨tX0.toArray⟩ : ByteArray))
 | 5 => .val (.string ((⟨#[105, 102, 32]⟩ : ByteArray) ++ (⟨tX0.toArray⟩ : ByteArray)))
 | 6 => .val (.string (((⟨#[105, 102, 32]⟩ : ByteArray) ++ (⟨tX0.toArray⟩ : ByteArray)) ++ (⟨#[32, 116, 104, 101, 110, 32]⟩ : ByteArray)))
 | 7 => .val (.pointer (some ⟨w.heap.size, 7, none⟩))
 | 8 => .val (.slice (some ⟨g, off, none⟩) t.parts.length q.d)
 | 9 => .val (.pointer (some ⟨g, off + 9, none⟩))
 | 10 => .val (.agg (Y7 x1 (qs 1)))
 | 11 => .val (.string (⟨tX1.toArray⟩ : ByteArray))
 | 12 => .val (.string ((((⟨#[105, 102, 32]⟩ : ByteArray) ++ (⟨tX0.toArray⟩ : ByteArray)) ++ (⟨#[32, 116, 104, 101, 110, 32]⟩ : ByteArray)) ++ (⟨tX1.toArray⟩ : ByteArray)))
 | 13 => .val (.string (((((⟨#[105, 102, 32]⟩ : ByteArray) ++ (⟨tX0.toArray⟩ : ByteArray)) ++ (⟨#[32, 116, 104, 101, 110, 32]⟩ : ByteArray)) ++ (⟨tX1.toArray⟩ : ByteArray)) ++ (⟨#[32, 101, 108, 115, 101, 32]⟩ : ByteArray)))
 | 14 => .val (.pointer (some ⟨w.heap.size, 7, none⟩))
 | 15 => .val (.slice (some ⟨g, off, none⟩) t.parts.length q.d)
 | 16 => .val (.pointer (some ⟨g, off + 18, none⟩))
 | 17 => .val (.agg (Y7 x2 (qs 2)))
 | 18 => .val (.string (⟨tX2.toArray⟩ : ByteArray))
 | 19 => .val (.string ((((((⟨#[105, 102, 32]⟩ : ByteArray) ++ (⟨tX0.toArray⟩ : ByteArray)) ++ (⟨#[32, 116, 104, 101, 110, 32]⟩ : ByteArray)) ++ (⟨tX1.toArray⟩ : ByteArray)) ++ (⟨#[32, 101, 108, 115, 101, 32]⟩ : ByteArray)) ++ (⟨tX2.toArray⟩ : ByteArray)))
 | 20 => .val (.string (((((((⟨#[105, 102, 32]⟩ : ByteArray) ++ (⟨tX0.toArray⟩ : ByteArray)) ++ (⟨#[32, 116, 104, 101, 110, 32]⟩ : ByteArray)) ++ (⟨tX1.toArray⟩ : ByteArray)) ++ (⟨#[32, 101, 108, 115, 101, 32]⟩ : ByteArray)) ++ (⟨tX2.toArray⟩ : ByteArray)) ++ (⟨#[32, 97, 115, 32]⟩ : ByteArray)))
 | 21 => .val (.pointer (some ⟨w.heap.size, 6, none⟩))
 | 22 => .val (.slice (some ⟨gs, offs, none⟩) t.shapes.length q.s)
 | 23 => .val (.pointer (some ⟨gs, offs, none⟩))
 | 24 => .val (.agg (Y8 s0 (rs 0)))
 | 25 => .val (.string (⟨tS0.toArray⟩ : ByteArray))
 | 26 => .val (.string ((((((((⟨#[105, 102, 32]⟩ : ByteArray) ++ (⟨tX0.toArray⟩ : ByteArray)) ++ (⟨#[32, 116, 104, 101, 110, 32]⟩ : ByteArray)) ++ (⟨tX1.toArray⟩ : ByteArray)) ++ (⟨#[32, 101, 108, 115, 101, 32]⟩ : ByteArray)) ++ (⟨tX2.toArray⟩ : ByteArray)) ++ (⟨#[32, 97, 115, 32]⟩ : ByteArray)) ++ (⟨tS0.toArray⟩ : ByteArray)))
 | 27 => .val (.string ((((((((⟨#[105, 102, 32]⟩ : ByteArray) ++ (⟨tX0.toArray⟩ : ByteArray)) ++ (⟨#[32, 116, 104, 101, 110, 32]⟩ : ByteArray)) ++ (⟨tX1.toArray⟩ : ByteArray)) ++ (⟨#[32, 101, 108, 115, 101, 32]⟩ : ByteArray)) ++ (⟨tX2.toArray⟩ : ByteArray)) ++ (⟨#[32, 97, 115, 32]⟩ : ByteArray)) ++ (⟨tS0.toArray⟩ : ByteArray)))
 | _ => .any
theorem ZaJ (t : Tm) (q : TP) (w : World) (hq : TmAt w w.heap.size q t) (hG : Globs w) (hg : WGlobs w) (hr : right t = true) (ht : tame t = true) (hz : size t <= 4096) (hf : ∀ x ∈ t.parts, Wr8 x) (hk : t.kind = 12) :
 Y9 27 #[.agg (Y7 t q)] w (.string ⟨(text t).toArray⟩) := by
 have hb0 := Z02 w (.cells (Y7 t q) 26)
 have HB := Y1 (Z07 w t q)
 have HB0 := Y1 hb0
 obtain ⟨_, ⟨c0, c1, c2, c3, c4, c5, c6, c7, c8⟩, _⟩ := HB.out
 simp only [Nat.zero_add] at c0 c1 c2 c3 c4 c5 c6 c7 c8
 have k1 := Y3 1 hk rfl
 have k2 := Y3 2 hk rfl
 have k3 := Y3 3 hk rfl
 have k4 := Y3 4 hk rfl
 have k5 := Y3 5 hk rfl
 have k6 := Y3 6 hk rfl
 have k7 := Y3 7 hk rfl
 have k8 := Y3 8 hk rfl
 have k9 := Y3 9 hk rfl
 have k10 := Y3 10 hk rfl
 have k11 := Y3 11 hk rfl
 have k12 := Y4 12 hk rfl
 have hfk : fitsK t = true := by have hf := right_fits hr; unfold fits at hf; simp only [Bool.and_eq_true] at hf; exact hf.2
 unfold fitsK at hfk
 rw [if_neg (by omega), if_neg (by omega), if_neg (by omega), if_neg (by omega), if_neg (by omega), if_neg (by omega), if_neg (by omega), if_neg (by omega), if_neg (by omega), if_pos (by omega)] at hfk
 simp only [Bool.and_eq_true, Z0e] at hfk
 obtain ⟨_, hn1, hv1, hs1, hp1⟩ := hfk
 have htl := Z0t hr
 have hwt : weight t <= 1048576 := by unfold tame at ht; simpa using ht
 have HT := Z8x hk
 have hnl := Z0x ht
 have hlp : t.parts.length <= 4096 := by have := length_sizes t.parts; rw [size_eq] at hz; omega
 rcases hq.part with h0 | ⟨g, off, qs, hqP, hgl, hc, hrr⟩
 {omega}
 obtain ⟨x0, hx0⟩ : ∃ x, x = t.parts[0]'(by omega) := ⟨_, rfl⟩
 have hm0 : x0 ∈ t.parts := by rw [hx0]; exact List.getElem_mem _
 have HX0 : Hid (Tm9 w g (off) x0 (qs 0)) := Y1 (by rw [hx0]; exact hc 0 (by omega))
 have HA0 : Hid (TmAt w w.heap.size (qs 0) x0) := Y1 (by rw [hx0]; exact hrr 0 (by omega))
 have hg0 : (t.parts.map text).getD 0 [] = text x0 := by rw [List.getD_eq_getElem?_getD, List.getElem?_map, List.getElem?_eq_getElem (by omega), hx0]; rfl
 rw [hg0] at HT
 obtain ⟨x1, hx1⟩ : ∃ x, x = t.parts[1]'(by omega) := ⟨_, rfl⟩
 have hm1 : x1 ∈ t.parts := by rw [hx1]; exact List.getElem_mem _
 have HX1 : Hid (Tm9 w g (off + 9) x1 (qs 1)) := Y1 (by rw [hx1]; exact hc 1 (by omega))
 have HA1 : Hid (TmAt w w.heap.size (qs 1) x1) := Y1 (by rw [hx1]; exact hrr 1 (by omega))
 have hg1 : (t.parts.map text).getD 1 [] = text x1 := by rw [List.getD_eq_getElem?_getD, List.getElem?_map, List.getElem?_eq_getElem (by omega), hx1]; rfl
 rw [hg1] at HT
 obtain ⟨x2, hx2⟩ : ∃ x, x = t.parts[2]'(by omega) := ⟨_, rfl⟩
 have hm2 : x2 ∈ t.parts := by rw [hx2]; exact List.getElem_mem _
 have HX2 : Hid (Tm9 w g (off + 18) x2 (qs 2)) := Y1 (by rw [hx2]; exact hc 2 (by omega))
 have HA2 : Hid (TmAt w w.heap.size (qs 2) x2) := Y1 (by rw [hx2]; exact hrr 2 (by omega))
 have hg2 : (t.parts.map text).getD 2 [] = text x2 := by rw [List.getD_eq_getElem?_getD, List.getElem?_map, List.getElem?_eq_getElem (by omega), hx2]; rfl
 rw [hg2] at HT
 rcases hq.shapes with h0 | ⟨gs, offs, rs, hqS, hgsl, hcs, hrs⟩
 {omega}
 obtain ⟨s0, hs0⟩ : ∃ s, s = t.shapes[0]'(by omega) := ⟨_, rfl⟩
 have hsm0 : s0 ∈ t.shapes := by rw [hs0]; exact List.getElem_mem _
 have hsc0 := ((Z0V (right_fits hr)).2.2 s0 hsm0).1
 have HS0 : Hid (Sh5 w gs (offs) s0 (rs 0)) := Y1 (by rw [hs0]; exact hcs 0 (by omega))
 have HSA0 : Hid (ShAt w w.heap.size (rs 0) s0) := Y1 (by rw [hs0]; exact hrs 0 (by omega))
 have hgs0 : (t.shapes.map Shp.text).getD 0 [] = Shp.text s0 := by rw [List.getD_eq_getElem?_getD, List.getElem?_map, List.getElem?_eq_getElem (by omega), hs0]; rfl
 rw [hgs0] at HT
 have HWX0 := Y1 (fun (W : World) (h : Below w.heap.size w W) => hf x0 hm0 (qs 0) W (HA0.out.next h) (hG.next h) (hg.next h))
 obtain ⟨tX0, htX0⟩ : ∃ z, z = text x0 := ⟨_, rfl⟩
 rw [<- htX0] at HT HWX0
 have HWX1 := Y1 (fun (W : World) (h : Below w.heap.size w W) => hf x1 hm1 (qs 1) W (HA1.out.next h) (hG.next h) (hg.next h))
 obtain ⟨tX1, htX1⟩ : ∃ z, z = text x1 := ⟨_, rfl⟩
 rw [<- htX1] at HT HWX1
 have HWX2 := Y1 (fun (W : World) (h : Below w.heap.size w W) => hf x2 hm2 (qs 2) W (HA2.out.next h) (hG.next h) (hg.next h))
 obtain ⟨tX2, htX2⟩ : ∃ z, z = text x2 := ⟨_, rfl⟩
 rw [<- htX2] at HT HWX2
 have HWS0 := Y1 (fun (W : World) (h : Below w.heap.size w W) => Z21 s0 (rs 0) W (HSA0.out.next h) (hg.next h) hsc0)
 obtain ⟨tS0, htS0⟩ : ∃ z, z = Shp.text s0 := ⟨_, rfl⟩
 rw [<- htS0] at HT HWS0
 have hlen := congrArg List.length HT
 simp only [List.length_append, List.length_cons, List.length_nil] at hlen
 have zn : (⟨t.name.toArray⟩ : ByteArray).size = t.name.length := Z04 _
 have zX0 : (⟨tX0.toArray⟩ : ByteArray).size = tX0.length := Z04 _
 have bX0 : tX0.length <= 100000000000 := by omega
 have zX1 : (⟨tX1.toArray⟩ : ByteArray).size = tX1.length := Z04 _
 have bX1 : tX1.length <= 100000000000 := by omega
 have zX2 : (⟨tX2.toArray⟩ : ByteArray).size = tX2.length := Z04 _
 have bX2 : tX2.length <= 100000000000 := by omega
 have zS0 : (⟨tS0.toArray⟩ : ByteArray).size = tS0.length := Z04 _
 have bS0 : tS0.length <= 100000000000 := by omega
 have HQP := Y1 hqP
 have hi0 : (0 : Int) < (t.parts.length : Int) := by omega
 have hi1 : (1 : Int) < (t.parts.length : Int) := by omega
 have hi2 : (2 : Int) < (t.parts.length : Int) := by omega
 have HQS := Y1 hqS
 have hj0 : (0 : Int) < (t.shapes.length : Int) := by omega
 have hneP : ¬ t.parts = [] := fun e => by rw [e] at hp1; simp at hp1
 have hneS : ¬ t.shapes = [] := fun e => by rw [e] at hs1; simp at hs1
 have HT' := Y1 HT
 have bn : t.name.length <= 1000000000 := hnl.1
 have hpm := hq.small.m
 have hsm := hq.small.sh
 clear hb0 hq hG hg hr ht hz hf hk hn1 hv1 hs1 hp1 htl hwt HT hnl hlp hlen hqP hc hrr hx0 hx1 hx2 hm0 hm1 hm2 hg0 hg1 hg2 hqS hcs hrs hs0 hsm0 hsc0 hgs0 htX0 htX1 htX2 htS0
 go_enter Tryz.func27, Tryz.ntmps27
 go_upto_region 1 with fail
 generalize w.alloc (.cells (Y7 t q) 26) = W0 at HB HB0 c0 c1 c2 c3 c4 c5 c6 c7 c8 ⊢
 go_wp2_with fail
 refine Z0p (rs := [0, 1, 2, 3, 4, 5, 6, 7, 8, 9, 10, 11, 12, 13, 14, 15, 16, 17, 18, 19, 20, 21, 22, 23, 24, 25, 26, 27])
  (fun u' => { tmps := #[.agg (Y7 t q), .pointer (some ⟨w.heap.size, 0, none⟩), u' 27, .pointer (some ⟨w.heap.size, 0, none⟩), .int .i64 t.kind, .bool false, .bool false, undef, undef, undef, .bool false, .bool false, undef, undef, undef, .bool false, .bool false, .bool false, .bool false, .bool false, .bool false, undef, undef, .bool false, .bool false, undef, undef, undef, undef, undef, undef, undef, undef, undef, undef, undef, undef, undef, .bool false, .bool false, undef, undef, undef, undef, undef, undef, undef, undef, undef, undef, undef, undef, .bool false, .bool false, undef, undef, undef, undef, .bool false, .bool false, undef, undef, undef, undef, undef, undef, undef, undef, undef, .bool false, .bool false, undef, undef, undef, undef, undef, undef, undef, undef, undef, undef, undef, .bool false, .bool false, undef, undef, undef, undef, undef, undef, undef, undef, undef, undef, undef, .bool true, .bool true, u' 0, u' 1, u' 2, u' 3, u' 4, u' 5, u' 6, u' 7, u' 8, u' 9, u' 10, u' 11, u' 12, u' 13, u' 14, u' 15, u' 16, u' 17, u' 18, u' 19, u' 20, u' 21, u' 22, u' 23, u' 24, u' 25, u' 26, undef, undef, undef, undef, undef, undef, undef, undef, undef, undef, undef, undef, undef, undef, undef, undef, undef, undef, undef, undef, undef, undef, undef, undef, undef, undef, undef, undef, undef, undef, undef, undef, undef, undef, undef, undef, undef, undef, undef, undef, undef, undef, undef, undef, undef, undef, undef, undef, undef, undef, undef, undef, undef, undef, undef, undef, undef, undef, undef, undef, undef, undef, undef, undef, undef, undef, undef, undef, undef, undef, undef, undef, undef, undef, undef, undef, undef, undef, undef, undef, undef], defers := [] })
  (upd (fun _ => undef) 27 (.string ⟨#[]⟩)) (Zho w g off gs offs t q x0 x1 x2 qs s0 rs tX0 tX1 tX2 tS0) (fun W => Below W0.heap.size W0 W) (by kernel_rfl) (by kernel_rfl) (by kernel_rfl) Y2.drew ?_ ?_
 refine StepsAt.cons _ rfl (fun u' W K' hJ hd hK => ?_) ?_
 {refine Y0 hK hJ rfl rfl rfl ?_
  try dsimp only
  go_simp}
 refine StepsAt.cons _ rfl (fun u' W K' hJ hd hK => ?_) ?_
 {have d0 : _ = _ := hd 0 (by kernel_rfl)
  obtain ⟨_, ⟨y0, y1, y2, y3, y4, y5, y6, y7, y8⟩, _⟩ := HB.out.next hJ
  simp only [Nat.zero_add] at y0 y1 y2 y3 y4 y5 y6 y7 y8
  rw [HQP.out] at y7
  refine Y0 hK hJ rfl rfl rfl ?_
  try dsimp only
  go_simp}
 refine StepsAt.cons _ rfl (fun u' W K' hJ hd hK => ?_) ?_
 {have d1 : _ = _ := hd 1 (by kernel_rfl)
  refine Y0 hK hJ rfl rfl rfl ?_
  try dsimp only
  go_simp
  all_goals (first | (intro hnil; exact absurd hnil hneP) | omega)}
 refine StepsAt.cons _ rfl (fun u' W K' hJ hd hK => ?_) ?_
 {have d2 : _ = _ := hd 2 (by kernel_rfl)
  obtain ⟨p0, p1, p2, p3, p4, p5, p6, p7, p8⟩ := HX0.out.keep hgl (Z00 HB0.out hJ)
  refine Y0 hK hJ rfl rfl rfl ?_
  try dsimp only
  go_simp}
 refine StepsAt.cons _ rfl (fun u' W K' hJ hd hK => ?_) ?_
 {have d3 : _ = _ := hd 3 (by kernel_rfl)
  refine Z05 (f := 27) (args := #[.agg (Y7 x0 (qs 0))]) (W' := W) rfl ?_ ((HWX0.out W (Z00 HB0.out hJ)).mono fun e w' h => ⟨_, h.1, hK.out _ _ rfl (Z00 hJ h.2) h.2⟩)
  try dsimp only
  go_simp}
 refine StepsAt.cons _ rfl (fun u' W K' hJ hd hK => ?_) ?_
 {have d4 : _ = _ := hd 4 (by kernel_rfl)
  refine Y0 hK hJ rfl rfl rfl ?_
  try dsimp only
  go_simp
  all_goals omega}
 refine StepsAt.cons _ rfl (fun u' W K' hJ hd hK => ?_) ?_
 {have d5 : _ = _ := hd 5 (by kernel_rfl)
  refine Y0 hK hJ rfl rfl rfl ?_
  try dsimp only
  go_simp
  all_goals omega}
 refine StepsAt.cons _ rfl (fun u' W K' hJ hd hK => ?_) ?_
 {refine Y0 hK hJ rfl rfl rfl ?_
  try dsimp only
  go_simp}
 refine StepsAt.cons _ rfl (fun u' W K' hJ hd hK => ?_) ?_
 {have d7 : _ = _ := hd 7 (by kernel_rfl)
  obtain ⟨_, ⟨y0, y1, y2, y3, y4, y5, y6, y7, y8⟩, _⟩ := HB.out.next hJ
  simp only [Nat.zero_add] at y0 y1 y2 y3 y4 y5 y6 y7 y8
  rw [HQP.out] at y7
  refine Y0 hK hJ rfl rfl rfl ?_
  try dsimp only
  go_simp}
 refine StepsAt.cons _ rfl (fun u' W K' hJ hd hK => ?_) ?_
 {have d8 : _ = _ := hd 8 (by kernel_rfl)
  refine Y0 hK hJ rfl rfl rfl ?_
  try dsimp only
  go_simp
  all_goals (first | (intro hnil; exact absurd hnil hneP) | omega)}
 refine StepsAt.cons _ rfl (fun u' W K' hJ hd hK => ?_) ?_
 {have d9 : _ = _ := hd 9 (by kernel_rfl)
  obtain ⟨p0, p1, p2, p3, p4, p5, p6, p7, p8⟩ := HX1.out.keep hgl (Z00 HB0.out hJ)
  simp only [Nat.add_assoc, Nat.reduceAdd] at p0 p1 p2 p3 p4 p5 p6 p7 p8
  refine Y0 hK hJ rfl rfl rfl ?_
  try dsimp only
  go_simp}
 refine StepsAt.cons _ rfl (fun u' W K' hJ hd hK => ?_) ?_
 {have d10 : _ = _ := hd 10 (by kernel_rfl)
  refine Z05 (f := 27) (args := #[.agg (Y7 x1 (qs 1))]) (W' := W) rfl ?_ ((HWX1.out W (Z00 HB0.out hJ)).mono fun e w' h => ⟨_, h.1, hK.out _ _ rfl (Z00 hJ h.2) h.2⟩)
  try dsimp only
  go_simp}
 refine StepsAt.cons _ rfl (fun u' W K' hJ hd hK => ?_) ?_
 {have d6 : _ = _ := hd 6 (by kernel_rfl)
  have d11 : _ = _ := hd 11 (by kernel_rfl)
  refine Y0 hK hJ rfl rfl rfl ?_
  try dsimp only
  go_simp
  all_goals omega}
 refine StepsAt.cons _ rfl (fun u' W K' hJ hd hK => ?_) ?_
 {have d12 : _ = _ := hd 12 (by kernel_rfl)
  refine Y0 hK hJ rfl rfl rfl ?_
  try dsimp only
  go_simp
  all_goals omega}
 refine StepsAt.cons _ rfl (fun u' W K' hJ hd hK => ?_) ?_
 {refine Y0 hK hJ rfl rfl rfl ?_
  try dsimp only
  go_simp}
 refine StepsAt.cons _ rfl (fun u' W K' hJ hd hK => ?_) ?_
 {have d14 : _ = _ := hd 14 (by kernel_rfl)
  obtain ⟨_, ⟨y0, y1, y2, y3, y4, y5, y6, y7, y8⟩, _⟩ := HB.out.next hJ
  simp only [Nat.zero_add] at y0 y1 y2 y3 y4 y5 y6 y7 y8
  rw [HQP.out] at y7
  refine Y0 hK hJ rfl rfl rfl ?_
  try dsimp only
  go_simp}
 refine StepsAt.cons _ rfl (fun u' W K' hJ hd hK => ?_) ?_
 {have d15 : _ = _ := hd 15 (by kernel_rfl)
  refine Y0 hK hJ rfl rfl rfl ?_
  try dsimp only
  go_simp
  all_goals (first | (intro hnil; exact absurd hnil hneP) | omega)}
 refine StepsAt.cons _ rfl (fun u' W K' hJ hd hK => ?_) ?_
 {have d16 : _ = _ := hd 16 (by kernel_rfl)
  obtain ⟨p0, p1, p2, p3, p4, p5, p6, p7, p8⟩ := HX2.out.keep hgl (Z00 HB0.out hJ)
  simp only [Nat.add_assoc, Nat.reduceAdd] at p0 p1 p2 p3 p4 p5 p6 p7 p8
  refine Y0 hK hJ rfl rfl rfl ?_
  try dsimp only
  go_simp}
 refine StepsAt.cons _ rfl (fun u' W K' hJ hd hK => ?_) ?_
 {have d17 : _ = _ := hd 17 (by kernel_rfl)
  refine Z05 (f := 27) (args := #[.agg (Y7 x2 (qs 2))]) (W' := W) rfl ?_ ((HWX2.out W (Z00 HB0.out hJ)).mono fun e w' h => ⟨_, h.1, hK.out _ _ rfl (Z00 hJ h.2) h.2⟩)
  try dsimp only
  go_simp}
 refine StepsAt.cons _ rfl (fun u' W K' hJ hd hK => ?_) ?_
 {have d13 : _ = _ := hd 13 (by kernel_rfl)
  have d18 : _ = _ := hd 18 (by kernel_rfl)
  refine Y0 hK hJ rfl rfl rfl ?_
  try dsimp only
  go_simp
  all_goals omega}
 refine StepsAt.cons _ rfl (fun u' W K' hJ hd hK => ?_) ?_
 {have d19 : _ = _ := hd 19 (by kernel_rfl)
  refine Y0 hK hJ rfl rfl rfl ?_
  try dsimp only
  go_simp
  all_goals omega}
 refine StepsAt.cons _ rfl (fun u' W K' hJ hd hK => ?_) ?_
 {refine Y0 hK hJ rfl rfl rfl ?_
  try dsimp only
  go_simp}
 refine StepsAt.cons _ rfl (fun u' W K' hJ hd hK => ?_) ?_
 {have d21 : _ = _ := hd 21 (by kernel_rfl)
  obtain ⟨_, ⟨y0, y1, y2, y3, y4, y5, y6, y7, y8⟩, _⟩ := HB.out.next hJ
  simp only [Nat.zero_add] at y0 y1 y2 y3 y4 y5 y6 y7 y8
  rw [HQS.out] at y6
  refine Y0 hK hJ rfl rfl rfl ?_
  try dsimp only
  go_simp}
 refine StepsAt.cons _ rfl (fun u' W K' hJ hd hK => ?_) ?_
 {have d22 : _ = _ := hd 22 (by kernel_rfl)
  refine Y0 hK hJ rfl rfl rfl ?_
  try dsimp only
  go_simp
  all_goals (first | (intro hnil; exact absurd hnil hneS) | omega)}
 refine StepsAt.cons _ rfl (fun u' W K' hJ hd hK => ?_) ?_
 {have d23 : _ = _ := hd 23 (by kernel_rfl)
  obtain ⟨p0, p1, p2, p3, p4⟩ := HS0.out.keep hgsl (Z00 HB0.out hJ)
  refine Y0 hK hJ rfl rfl rfl ?_
  try dsimp only
  go_simp}
 refine StepsAt.cons _ rfl (fun u' W K' hJ hd hK => ?_) ?_
 {have d24 : _ = _ := hd 24 (by kernel_rfl)
  refine Z05 (f := 52) (args := #[.agg (Y8 s0 (rs 0))]) (W' := W) rfl ?_ ((HWS0.out W (Z00 HB0.out hJ)).mono fun e w' h => ⟨_, h.1, hK.out _ _ rfl (Z00 hJ h.2) h.2⟩)
  try dsimp only
  go_simp}
 refine StepsAt.cons _ rfl (fun u' W K' hJ hd hK => ?_) ?_
 {have d20 : _ = _ := hd 20 (by kernel_rfl)
  have d25 : _ = _ := hd 25 (by kernel_rfl)
  refine Y0 hK hJ rfl rfl rfl ?_
  try dsimp only
  go_simp
  all_goals omega}
 refine StepsAt.cons _ rfl (fun u' W K' hJ hd hK => ?_) StepsAt.nil
 {have d26 : _ = _ := hd 26 (by kernel_rfl)
  refine Y0 hK hJ rfl rfl rfl ?_
  try dsimp only
  go_simp
  all_goals omega}
 intro u' W5 hJ hok
 have eL : u' 27 = .string ((((((((⟨#[105, 102, 32]⟩ : ByteArray) ++ (⟨tX0.toArray⟩ : ByteArray)) ++ (⟨#[32, 116, 104, 101, 110, 32]⟩ : ByteArray)) ++ (⟨tX1.toArray⟩ : ByteArray)) ++ (⟨#[32, 101, 108, 115, 101, 32]⟩ : ByteArray)) ++ (⟨tX2.toArray⟩ : ByteArray)) ++ (⟨#[32, 97, 115, 32]⟩ : ByteArray)) ++ (⟨tS0.toArray⟩ : ByteArray)) := hok 27 (by decide)
 try dsimp only
 rw [eL]
 have HBW := Y1 (Z00 HB0.out hJ)
 clear hok eL hJ
 go_wp2
 go_ret
 exact ⟨Z0h (by rw [HT'.out, <- cat7, <- cat7, <- cat7, <- cat7, <- cat7, <- cat7, <- cat7]), HBW.out⟩
end Go.Proofs.YtnkdedejfonbmaaGreatDoor
namespace Go.Proofs.YtnkdedejfonbmaaGreatDoor
open Go.RowKit Shp
structure UpH (cb : Nat) (w w' : World) : Prop where
 os : w'.os = w.os
 tape : w'.tape = w.tape
 output : w'.output = w.output
 size : w'.heap.size = w.heap.size
 block : ∀ k, k ≠ cb -> w'.heap[k]? = w.heap[k]?
theorem UpH.refl (cb : Nat) (w : World) : UpH cb w w := ⟨rfl, rfl, rfl, rfl, fun _ _ => rfl⟩
theorem UpH.trans {cb : Nat} {a b c : World} (h : UpH cb a b) (k : UpH cb b c) : UpH cb a c :=
 ⟨k.os.trans h.os, k.tape.trans h.tape, k.output.trans h.output, k.size.trans h.size, fun i hn => (k.block i hn).trans (h.block i hn)⟩
theorem UpH.set {cb : Nat} {a w : World} (h : UpH cb a w) (v : Value) : UpH cb a (w.setCell ⟨cb, 1, none⟩ v) :=
 h.trans ⟨rfl, rfl, rfl, by simp [World.setCell], fun k hn => Below.heap_setCell _ _ _ _ hn⟩
theorem UpH.cell {cb : Nat} {w w' : World} (h : UpH cb w w') {g k : Nat} (hn : g ≠ cb) : w'.cell? ⟨g, k, none⟩ = w.cell? ⟨g, k, none⟩ := World.cell?_of_block (w := w) (h.block g hn)
theorem UpH.frozen {cb : Nat} {w w' : World} (h : UpH cb w w') {g k : Nat} (hn : g ≠ cb) : w'.frozen? ⟨g, k, none⟩ = w.frozen? ⟨g, k, none⟩ := World.frozen?_of_block (w := w) (h.block g hn)
theorem UpH.toBelow {cb B : Nat} {w w' : World} (h : UpH cb w w') (hB : B <= cb) : Below B w w' := ⟨h.os, h.tape, h.output, Nat.le_of_eq h.size.symm, fun k hk => h.block k (by omega)⟩
structure CntH (w : World) (cb p : Nat) (f : Value) : Prop where
 lt : cb < w.heap.size
 c0 : w.cell? ⟨cb, 0, none⟩ = some f
 c1 : w.cell? ⟨cb, 1, none⟩ = some (.int .i64 (p : Int))
 f1 : w.frozen? ⟨cb, 1, none⟩ = false
theorem CntH.set {w : World} {cb p : Nat} {f : Value} (h : CntH w cb p f) (n : Nat) : CntH (w.setCell ⟨cb, 1, none⟩ (.int .i64 (n : Int))) cb n f :=
 ⟨by simpa [World.setCell] using h.lt, by simp [go_sem, h.c0], by simp [go_sem, h.c1], by simp [go_sem, h.f1]⟩
theorem ShAt.uph {w w' : World} {B cb : Nat} {q : Ptr} {t : Sh} (h : ShAt w B q t) (hu : UpH cb w w') (h1 : B <= cb) : ShAt w' B q t :=
 h.of (Nat.le_refl _) (fun g k hg => hu.cell (by omega))
theorem Z6w (g o : Nat) (w : World) : Calls Tryz.prog 70 #[.pointer (some ⟨g, o, none⟩)] w fun e w' => e = .returned (.pointer (some ⟨g, o + 4, none⟩)) /\ w = w' := by
 go_enter Tryz.func70, Tryz.ntmps70
 go_wp2
 go_ret
 exact ⟨rfl, rfl⟩
theorem ZcV (t : Sh) : ∀ (q : Ptr) (g o B cb p lv : Nat) (w : World), Sh5 w g o t q -> g ≠ cb -> ShAt w B q t -> B <= cb -> CntH w cb p (.func (.func 70) #[] #[]) -> p + size t <= 1000000 -> lv + deep t <= 60000 ->
 Calls Tryz.prog 98 #[.pointer (some ⟨cb, 0, none⟩), .pointer (some ⟨g, o, none⟩), .int .i64 (lv : Int)] w
  fun e w' => e = .returned (.bool true) /\ UpH cb w w' /\ CntH w' cb (p + size t) (.func (.func 70) #[] #[]) := by
 induction t using Sh.ind with
 | h t ih =>
 intro q g o B cb p lv w hs hgc hq hBc hc hpm hlv
 have HP := Y1 hq.part
 have HM := Y1 hq.small.m
 have HD : Hid (deep t = deeps t.parts + 1) := Y1 (deep_eq t)
 have HZ : Hid (size t = 1 + sizes t.parts) := Y1 (size_eq t)
 have HPM : Hid (p + size t <= 1000000) := Y1 hpm
 have HLV : Hid (lv + deep t <= 60000) := Y1 hlv
 have hp1 : (p : Int) <= 1000000 := by omega
 have hg1 : ¬ (16777216 : Int) < (p : Int) + 1 := by omega
 have hg2 : ¬ (65536 : Int) < (lv : Int) := by omega
 have hlvi : (lv : Int) <= 60000 := by omega
 have e1 : decide ((16777216 : Int) < (p : Int) + 1) = false := decide_eq_false hg1
 have e2 : decide ((65536 : Int) < (lv : Int)) = false := decide_eq_false hg2
 have HS := Y1 hs
 have HC := Y1 hc
 obtain ⟨_, _, _, _, k4⟩ := hs
 obtain ⟨_, c0, c1, f1⟩ := hc
 have hne2 : cb ≠ g := Ne.symm hgc
 have L1 := fun (W : World) => Z6w g o W
 clear hpm hlv hq
 go_enter Tryz.func98, Tryz.ntmps98
 go_wp2_with fail
 obtain ⟨W0, hW0⟩ : ∃ W0, W0 = w.setCell ⟨cb, 1, none⟩ (.int .i64 ((p : Int) + 1)) := ⟨_, rfl⟩
 have HU0 : Hid (UpH cb w W0) := Y1 (by rw [hW0]; exact (UpH.refl cb w).set _)
 have HC0 : Hid (CntH W0 cb (p + 1) (.func (.func 70) #[] #[])) := Y1 (by rw [hW0]; exact HC.out.set (p + 1))
 have k4' : W0.cell? ⟨g, o + 4, none⟩ = some (.slice q.P t.parts.length q.d) := (HU0.out.cell hgc).trans k4
 rw [<- hW0]
 clear hW0 k4 c0 c1 f1 hp1 hg1 hg2 e1 e2
 refine (L1 W0).mono ?_
 rintro e w1 ⟨rfl, rfl⟩
 go_wp2_with fail
 clear k4'
 go_loopw [35] (fun ii wr => ∃ i : Nat, ii = .int .i64 i /\ i <= t.parts.length /\ Hid (UpH cb w wr) /\ Hid (CntH wr cb (p + 1 + sizes (t.parts.take i)) (.func (.func 70) #[] #[]))) (fun i _ => t.parts.length - (intOf i).toNat)
 case atStart => exact ⟨0, rfl, Nat.zero_le _, HU0, by rw [List.take_zero]; exact HC0⟩
 case round =>
  obtain ⟨i, rfl, hi, HUR, HCR⟩ := hrel
  have hmm := HM.out
  by_cases hlt : i < t.parts.length
  {rcases HP.out with h0 | ⟨g', off, qs, hqP, hg', hc, hr⟩
   {omega}
   {obtain ⟨x, hx⟩ : ∃ x, x = t.parts[i] := ⟨_, rfl⟩
    have hxs := hc i hlt
    have hxa := hr i hlt
    have ihx := ih t.parts[i] (List.getElem_mem _) (qs i) g' (off + i * 5) B cb (p + 1 + sizes (t.parts.take i)) (lv + 1) wr
    rw [<- hx] at ihx hxs hxa
    have HN : Hid (sizes (t.parts.take (i + 1)) = sizes (t.parts.take i) + size x) := Y1 (by rw [hx]; exact sizes_next hlt)
    have hdx : deep x <= deeps t.parts := by rw [hx]; exact deeps_mem (List.getElem_mem _)
    have IH := ihx (hxs.of (fun k => HUR.out.cell (by omega))) (by omega) (hxa.uph HUR.out hBc) hBc HCR.out (by
     have := sizes_take t.parts (i + 1)
     have := HN.out
     have := HPM.out
     have := HZ.out
     omega) (by have := HD.out; have := HLV.out; omega)
    have hi1 : (i : Int) < (t.parts.length : Int) := by omega
    rw [show (((lv + 1 : Nat)) : Int) = (lv : Int) + 1 from by omega] at IH
    clear hxs hxa ihx hc hr hx hdx ih
    rw [hqP]
    clear hqP
    go_wp2_with fail
    refine IH.mono ?_
    rintro e w2 ⟨rfl, hu2, hc2⟩
    have HU2 : Hid (UpH cb w w2) := Y1 (HUR.out.trans hu2)
    have HC2 : Hid (CntH w2 cb (p + 1 + sizes (t.parts.take (i + 1))) (.func (.func 70) #[] #[])) := Y1 (by rw [HN.out, <- Nat.add_assoc]; exact hc2)
    clear hu2 hc2 IH
    go_wp2
    go_roundw
    case rel => exact ⟨i + 1, by go_num, by omega, HU2, HC2⟩
    case measure => simp [intOf]; omega}}
  {have HG : Hid (p + size t = p + 1 + sizes (t.parts.take i)) := Y1 (by rw [HZ.out, show i = t.parts.length from by omega, List.take_length]; omega)
   have hi1 : ¬ (i : Int) < (t.parts.length : Int) := by omega
   go_wp2
   go_ret
   exact ⟨rfl, HUR.out, by rw [HG.out]; exact HCR.out⟩}
end Go.Proofs.YtnkdedejfonbmaaGreatDoor
namespace Go.Proofs.YtnkdedejfonbmaaGreatDoor
open Go.RowKit Tms
open Shp (Sh)
theorem TmAt.uph {w w' : World} {B cb : Nat} {q : TP} {t : Tm} (h : TmAt w B q t) (hu : UpH cb w w') (h1 : B <= cb) : TmAt w' B q t :=
 h.of (Nat.le_refl _) (fun g k hg => hu.cell (by omega))
theorem Z51 (g o : Nat) (w : World) : Calls Tryz.prog 39 #[.pointer (some ⟨g, o, none⟩)] w fun e w' => e = .returned (.pointer (some ⟨g, o + 7, none⟩)) /\ w = w' := by
 go_enter Tryz.func39, Tryz.ntmps39
 go_wp2
 go_ret
 exact ⟨rfl, rfl⟩
theorem ZaK (t : Tm) : ∀ (q : TP) (g o B cb p lv : Nat) (w : World), Tm9 w g o t q -> g ≠ cb -> TmAt w B q t -> B <= cb -> CntH w cb p (.func (.func 39) #[] #[]) -> p + size t <= 1000000 -> lv + deep t <= 60000 ->
 Calls Tryz.prog 68 #[.pointer (some ⟨cb, 0, none⟩), .pointer (some ⟨g, o, none⟩), .int .i64 (lv : Int)] w
  fun e w' => e = .returned (.bool true) /\ UpH cb w w' /\ CntH w' cb (p + size t) (.func (.func 39) #[] #[]) := by
 induction t using Tm.ind with
 | h t ih =>
 intro q g o B cb p lv w hs hgc hq hBc hc hpm hlv
 have HP := Y1 hq.part
 have HM := Y1 hq.small.m
 have HD : Hid (deep t = deeps t.parts + 1) := Y1 (deep_eq t)
 have HZ : Hid (size t = 1 + sizes t.parts) := Y1 (size_eq t)
 have HPM : Hid (p + size t <= 1000000) := Y1 hpm
 have HLV : Hid (lv + deep t <= 60000) := Y1 hlv
 have hp1 : (p : Int) <= 1000000 := by omega
 have hg1 : ¬ (16777216 : Int) < (p : Int) + 1 := by omega
 have hg2 : ¬ (65536 : Int) < (lv : Int) := by omega
 have hlvi : (lv : Int) <= 60000 := by omega
 have e1 : decide ((16777216 : Int) < (p : Int) + 1) = false := decide_eq_false hg1
 have e2 : decide ((65536 : Int) < (lv : Int)) = false := decide_eq_false hg2
 have HS := Y1 hs
 have HC := Y1 hc
 obtain ⟨_, _, _, _, _, _, _, k4, _⟩ := hs
 obtain ⟨_, c0, c1, f1⟩ := hc
 have hne2 : cb ≠ g := Ne.symm hgc
 have L1 := fun (W : World) => Z51 g o W
 clear hpm hlv hq
 go_enter Tryz.func68, Tryz.ntmps68
 go_wp2_with fail
 obtain ⟨W0, hW0⟩ : ∃ W0, W0 = w.setCell ⟨cb, 1, none⟩ (.int .i64 ((p : Int) + 1)) := ⟨_, rfl⟩
 have HU0 : Hid (UpH cb w W0) := Y1 (by rw [hW0]; exact (UpH.refl cb w).set _)
 have HC0 : Hid (CntH W0 cb (p + 1) (.func (.func 39) #[] #[])) := Y1 (by rw [hW0]; exact HC.out.set (p + 1))
 have k4' : W0.cell? ⟨g, o + 7, none⟩ = some (.slice q.P t.parts.length q.d) := (HU0.out.cell hgc).trans k4
 rw [<- hW0]
 clear hW0 k4 c0 c1 f1 hp1 hg1 hg2 e1 e2
 refine (L1 W0).mono ?_
 rintro e w1 ⟨rfl, rfl⟩
 go_wp2_with fail
 clear k4'
 go_loopw [35] (fun ii wr => ∃ i : Nat, ii = .int .i64 i /\ i <= t.parts.length /\ Hid (UpH cb w wr) /\ Hid (CntH wr cb (p + 1 + sizes (t.parts.take i)) (.func (.func 39) #[] #[]))) (fun i _ => t.parts.length - (intOf i).toNat)
 case atStart => exact ⟨0, rfl, Nat.zero_le _, HU0, by rw [List.take_zero]; exact HC0⟩
 case round =>
  obtain ⟨i, rfl, hi, HUR, HCR⟩ := hrel
  have hmm := HM.out
  by_cases hlt : i < t.parts.length
  {rcases HP.out with h0 | ⟨g', off, qs, hqP, hg', hc, hr⟩
   {omega}
   {obtain ⟨x, hx⟩ : ∃ x, x = t.parts[i] := ⟨_, rfl⟩
    have hxs := hc i hlt
    have hxa := hr i hlt
    have ihx := ih t.parts[i] (List.getElem_mem _) (qs i) g' (off + i * 9) B cb (p + 1 + sizes (t.parts.take i)) (lv + 1) wr
    rw [<- hx] at ihx hxs hxa
    have HN : Hid (sizes (t.parts.take (i + 1)) = sizes (t.parts.take i) + size x) := Y1 (by rw [hx]; exact sizes_next hlt)
    have hdx : deep x <= deeps t.parts := by rw [hx]; exact deeps_mem (List.getElem_mem _)
    have IH := ihx (hxs.of (fun k => HUR.out.cell (by omega))) (by omega) (hxa.uph HUR.out hBc) hBc HCR.out (by
     have := sizes_take t.parts (i + 1)
     have := HN.out
     have := HPM.out
     have := HZ.out
     omega) (by have := HD.out; have := HLV.out; omega)
    have hi1 : (i : Int) < (t.parts.length : Int) := by omega
    rw [show (((lv + 1 : Nat)) : Int) = (lv : Int) + 1 from by omega] at IH
    clear hxs hxa ihx hc hr hx hdx ih
    rw [hqP]
    clear hqP
    go_wp2_with fail
    refine IH.mono ?_
    rintro e w2 ⟨rfl, hu2, hc2⟩
    have HU2 : Hid (UpH cb w w2) := Y1 (HUR.out.trans hu2)
    have HC2 : Hid (CntH w2 cb (p + 1 + sizes (t.parts.take (i + 1))) (.func (.func 39) #[] #[])) := Y1 (by rw [HN.out, <- Nat.add_assoc]; exact hc2)
    clear hu2 hc2 IH
    go_wp2
    go_roundw
    case rel => exact ⟨i + 1, by go_num, by omega, HU2, HC2⟩
    case measure => simp [intOf]; omega}}
  {have HG : Hid (p + size t = p + 1 + sizes (t.parts.take i)) := Y1 (by rw [HZ.out, show i = t.parts.length from by omega, List.take_length]; omega)
   have hi1 : ¬ (i : Int) < (t.parts.length : Int) := by omega
   go_wp2
   go_ret
   exact ⟨rfl, HUR.out, by rw [HG.out]; exact HCR.out⟩}
end Go.Proofs.YtnkdedejfonbmaaGreatDoor
namespace Go.Proofs.YtnkdedejfonbmaaGreatDoor
open Go.RowKit Shp
structure PaR (W : World) (b : Nat) (ps : List Sh) (qs : Nat -> Ptr) : Prop where
 lt : b < W.heap.size
 at_ : ∀ i (h : i < ps.length), Sh5 W b (i * 5) (ps[i]'h) (qs i)
 fz : ∀ k, W.frozen? ⟨b, k, none⟩ = false
def Z0r (W W' : World) (b : Nat) : Prop := (∀ k, W'.cell? ⟨b, k, none⟩ = W.cell? ⟨b, k, none⟩) /\ ∀ k, W'.frozen? ⟨b, k, none⟩ = W.frozen? ⟨b, k, none⟩
theorem PaR.of {W W' : World} {b : Nat} {ps : List Sh} {qs : Nat -> Ptr} (h : PaR W b ps qs) (hs : Z0r W W' b) (hz : W.heap.size <= W'.heap.size) : PaR W' b ps qs :=
 ⟨Nat.lt_of_lt_of_le h.lt hz, fun i hi => (h.at_ i hi).of hs.1, fun k => (hs.2 k).trans (h.fz k)⟩
theorem TxR.of {W W' : World} {b : Nat} {ts : List (List UInt8)} (h : TxR W b ts) (hs : Z0r W W' b) (hz : W.heap.size <= W'.heap.size) : TxR W' b ts :=
 ⟨Nat.lt_of_lt_of_le h.lt hz, fun i hi => (hs.1 i).trans (h.at_ i hi), fun k => (hs.2 k).trans (h.fz k)⟩
inductive Own (W : World) : Ptr -> Sh -> List Nat -> Prop
 | mk (q : Ptr) (t : Sh) (F FN FP : List Nat) (qs : Nat -> Ptr) (Fs : Nat -> List Nat) (hs : Small t q)
  (hn : t.names.length = 0 /\ FN = [] \/ ∃ b, q.A = some ⟨b, 0, none⟩ /\ FN = [b] /\ TxR W b t.names)
  (hp : t.parts.length = 0 /\ FP = [] \/ ∃ b, q.P = some ⟨b, 0, none⟩ /\ FP = [b] /\ PaR W b t.parts qs)
  (hr : ∀ i (h : i < t.parts.length), Own W (qs i) (t.parts[i]'h) (Fs i)) (hF : F = FN ++ FP ++ (List.range t.parts.length).flatMap Fs) : Own W q t F
theorem Own.small {W : World} {q : Ptr} {t : Sh} {F : List Nat} (h : Own W q t F) : Small t q := by cases h; assumption
theorem Own.of {W W' : World} {q : Ptr} {t : Sh} {F : List Nat} (h : Own W q t F) (hc : ∀ b ∈ F, Z0r W W' b) (hz : W.heap.size <= W'.heap.size) : Own W' q t F := by
 induction h with
 | mk q t F FN FP qs Fs hs hn hp hr hF ih =>
  subst hF
  refine .mk q t _ FN FP qs Fs hs ?_ ?_ ?_ rfl
  {rcases hn with h | ⟨b, h1, rfl, h3⟩
   {exact Or.inl h}
   {exact Or.inr ⟨b, h1, rfl, h3.of (hc b (by simp)) hz⟩}}
  {rcases hp with h | ⟨b, h1, rfl, h3⟩
   {exact Or.inl h}
   {exact Or.inr ⟨b, h1, rfl, h3.of (hc b (by simp)) hz⟩}}
  {intro i hi
   refine ih i hi (fun b hb => hc b ?_)
   refine List.mem_append_right _ (List.mem_flatMap.2 ⟨i, List.mem_range.2 hi, hb⟩)}
theorem Own.at_ {W : World} {q : Ptr} {t : Sh} {F : List Nat} {B : Nat} (h : Own W q t F) (hB : ∀ b ∈ F, b < B) : ShAt W B q t := by
 induction h with
 | mk q t F FN FP qs Fs hs hn hp hr hF ih =>
  subst hF
  have hS : Strs W B q.A (strs t.names) := by
   rcases hn with ⟨h, _⟩ | ⟨b, h1, rfl, h3⟩
   {exact Or.inl (by rw [Z26]; exact h)}
   {refine Or.inr ⟨b, 0, h1, hB b (by simp), fun i hi => ?_⟩
    rw [Z26] at hi
    rw [Nat.zero_add, h3.at_ i hi]
    simp [strs]}
  have hrr : ∀ i (h : i < t.parts.length), ShAt W B (qs i) (t.parts[i]'h) := fun i hi => ih i hi (fun b hb => hB b (List.mem_append_right _ (List.mem_flatMap.2 ⟨i, List.mem_range.2 hi, hb⟩)))
  rcases hp with ⟨h, _⟩ | ⟨b, h1, rfl, h3⟩
  {exact .mk q t 0 0 qs hs hS (Or.inl h) (fun i hi => absurd hi (by omega)) hrr}
  {exact .mk q t b 0 qs hs hS (Or.inr ⟨h1, hB b (by simp)⟩) (fun i hi => by rw [Nat.zero_add]; exact h3.at_ i hi) hrr}
theorem Own.lt {W : World} {q : Ptr} {t : Sh} {F : List Nat} (h : Own W q t F) : ∀ b ∈ F, b < W.heap.size := by
 induction h with
 | mk q t F FN FP qs Fs hs hn hp hr hF ih =>
  subst hF
  intro b hb
  rcases List.mem_append.1 hb with hb | hb
  {rcases List.mem_append.1 hb with hb | hb
   {rcases hn with ⟨_, rfl⟩ | ⟨c, _, rfl, h3⟩
    {cases hb}
    {rw [List.mem_singleton] at hb; subst hb; exact h3.lt}}
   {rcases hp with ⟨_, rfl⟩ | ⟨c, _, rfl, h3⟩
    {cases hb}
    {rw [List.mem_singleton] at hb; subst hb; exact h3.lt}}}
  {obtain ⟨i, hi, hb⟩ := List.mem_flatMap.1 hb
   exact ih i (List.mem_range.1 hi) b hb}
def Node (W : World) (g i : Nat) (t : Sh) (F : List Nat) : Prop := ∃ q, Sh5 W g (i * 5) t q /\ Own W q t F
structure Nd where
 g : Nat
 i : Nat
 t : Sh
 q : Ptr
def Ready (r : Nat) (T : Sh) (L : List Nd) (D : List Nat) (W : World) : Prop :=
 ∀ (W' : World) (Fs : Nat -> List Nat), W.heap.size <= W'.heap.size ->
  (∀ b ∈ D, ∀ k, (∀ n ∈ L, ¬ (n.g = b /\ (k = n.i * 5 + 3 \/ k = n.i * 5 + 4))) -> W'.cell? ⟨b, k, none⟩ = W.cell? ⟨b, k, none⟩) ->
  (∀ b ∈ D, ∀ k, W'.frozen? ⟨b, k, none⟩ = W.frozen? ⟨b, k, none⟩) ->
  (∀ j (h : j < L.length), Node W' (L[j]'h).g (L[j]'h).i (L[j]'h).t (Fs j)) ->
  (∀ j, j < L.length -> ∀ b ∈ Fs j, b ∉ D) -> ((List.range L.length).flatMap Fs).Nodup ->
  ∃ F, Node W' r 0 T F /\ F.Nodup /\ ∀ b ∈ F, b ∈ D \/ ∃ j, j < L.length /\ b ∈ Fs j
theorem ZaL (r : Nat) (T : Sh) (q : Ptr) (D : List Nat) (W : World) : Ready r T [⟨r, 0, T, q⟩] D W := by
 intro W' Fs _ _ _ hN _ hnd
 refine ⟨Fs 0, hN 0 (by simp), by simpa using hnd, fun b hb => Or.inr ⟨0, by simp, hb⟩⟩
theorem ZcW {r : Nat} {T : Sh} {D : List Nat} {W : World} (h : Ready r T [] D W) : ∃ F, Node W r 0 T F /\ F.Nodup /\ ∀ b ∈ F, b ∈ D := by
 obtain ⟨F, h1, h2, h3⟩ := h W (fun _ => []) (Nat.le_refl _) (fun _ _ _ _ => rfl) (fun _ _ _ => rfl) (fun j hj => absurd hj (by simp)) (fun j hj => absurd hj (by simp)) (by simp)
 refine ⟨F, h1, h2, fun b hb => ?_⟩
 rcases h3 b hb with h | ⟨j, hj, _⟩
 {exact h}
 {exact absurd hj (by simp)}
theorem Ready.of {r : Nat} {T : Sh} {L : List Nd} {D : List Nat} {W W1 : World} (h : Ready r T L D W) (hs : ∀ b ∈ D, Z0r W W1 b) (hz : W.heap.size <= W1.heap.size) : Ready r T L D W1 :=
 fun W' Fs hz' hc hf hN hd hn => h W' Fs (Nat.le_trans hz hz') (fun b hb k hx => (hc b hb k hx).trans ((hs b hb).1 k)) (fun b hb k => (hf b hb k).trans ((hs b hb).2 k)) hN hd hn
def kids (pb : Nat) (ps : List Sh) (qs : Nat -> Ptr) : List Nd := ps.mapIdx fun i p => ⟨pb, i, p, qs i⟩
theorem Z1o (pb : Nat) (ps : List Sh) (qs : Nat -> Ptr) : (kids pb ps qs).length = ps.length := by simp [kids]
theorem Z2u (pb : Nat) (ps : List Sh) (qs : Nat -> Ptr) (i : Nat) (h : i < (kids pb ps qs).length) : (kids pb ps qs)[i]'h = ⟨pb, i, ps[i]'(by rwa [Z1o] at h), qs i⟩ := by simp [kids]
theorem Z9b {pb : Nat} {ps : List Sh} {qs : Nat -> Ptr} {n : Nd} (h : n ∈ kids pb ps qs) : n.g = pb := by
 obtain ⟨i, hi, rfl⟩ := List.getElem_of_mem h
 rw [Z2u]
theorem Z86 {n m : Nat} (Fs : Nat -> List Nat) : (List.range (n + m)).flatMap Fs = (List.range n).flatMap Fs ++ (List.range m).flatMap (fun i => Fs (n + i)) := by
 rw [List.range_add, List.flatMap_append, List.flatMap_map]
theorem Ready.step {r : Nat} {T : Sh} {L : List Nd} {a : Nd} {D DN DP : List Nat} {W W1 : World} {q1 : Ptr} {pb : Nat} {qs : Nat -> Ptr} (hR : Ready r T (L ++ [a]) D W) (hD : ∀ b ∈ D, b < W.heap.size)
 (hag : a.g ∈ D) (hLg : ∀ n ∈ L, n.g ∈ D) (hne : ∀ n ∈ L, n.g = a.g -> n.i ≠ a.i) (hsz : W.heap.size <= W1.heap.size) (ha : Sh5 W1 a.g (a.i * 5) a.t q1) (hs : Small a.t q1)
 (hk : ∀ b ∈ D, ∀ k, ¬ (a.g = b /\ (k = a.i * 5 + 3 \/ k = a.i * 5 + 4)) -> W1.cell? ⟨b, k, none⟩ = W.cell? ⟨b, k, none⟩) (hf : ∀ b ∈ D, ∀ k, W1.frozen? ⟨b, k, none⟩ = W.frozen? ⟨b, k, none⟩)
 (hn : a.t.names.length = 0 /\ DN = [] \/ ∃ b, q1.A = some ⟨b, 0, none⟩ /\ DN = [b] /\ W.heap.size <= b /\ TxR W1 b a.t.names)
 (hp : a.t.parts.length = 0 /\ DP = [] \/ q1.P = some ⟨pb, 0, none⟩ /\ DP = [pb] /\ W.heap.size <= pb /\ pb ∉ DN /\ PaR W1 pb a.t.parts qs) :
 Ready r T (L ++ kids pb a.t.parts qs) (D ++ DN ++ DP) W1 := by
 intro W' Fs hsz' hcell hfr hN hdis hnd
 have hlen : (L ++ kids pb a.t.parts qs).length = L.length + a.t.parts.length := by rw [List.length_append, Z1o]
 have hpg : ∀ n ∈ kids pb a.t.parts qs, a.t.parts.length ≠ 0 := fun n hn h0 => by
  have : kids pb a.t.parts qs = [] := List.eq_nil_of_length_eq_zero (by rw [Z1o]; exact h0)
  rw [this] at hn; cases hn
 have hkid : ∀ n ∈ kids pb a.t.parts qs, n.g = pb /\ W.heap.size <= pb /\ pb ∉ DN := fun n hnm => by
  rcases hp with ⟨h0, _⟩ | ⟨_, _, h3, h4, _⟩
  {exact absurd h0 (hpg n hnm)}
  {exact ⟨Z9b hnm, h3, h4⟩}
 have hDNb : ∀ b ∈ DN, W.heap.size <= b := fun b hb => by
  rcases hn with ⟨_, rfl⟩ | ⟨c, _, rfl, h3, _⟩
  {cases hb}
  {rw [List.mem_singleton] at hb; subst hb; exact h3}
 have hDPb : ∀ b ∈ DP, W.heap.size <= b /\ b ∉ DN := fun b hb => by
  rcases hp with ⟨_, rfl⟩ | ⟨_, rfl, h3, h4, _⟩
  {cases hb}
  {rw [List.mem_singleton] at hb; subst hb; exact ⟨h3, h4⟩}
 have hDNn : DN.Nodup := by
  rcases hn with ⟨_, rfl⟩ | ⟨c, _, rfl, _⟩ <;> simp
 have hDPn : DP.Nodup := by
  rcases hp with ⟨_, rfl⟩ | ⟨_, rfl, _⟩ <;> simp
 let Fk : Nat -> List Nat := fun i => Fs (L.length + i)
 let Fa : List Nat := DN ++ DP ++ (List.range a.t.parts.length).flatMap Fk
 let Fs' : Nat -> List Nat := fun j => if j < L.length then Fs j else Fa
 rw [hlen] at hdis hnd
 rw [Z86] at hnd
 have hnd' := List.nodup_append.1 hnd
 have hdisD : ∀ j, j < L.length + a.t.parts.length -> ∀ b ∈ Fs j, b ∉ D /\ b ∉ DN /\ b ∉ DP := fun j hj b hb => by
  have := hdis j hj b hb
  simp only [List.mem_append, not_or] at this
  exact ⟨this.1.1, this.1.2, this.2⟩
 -- the place that was copied
 have hkn : ∀ i (h : i < a.t.parts.length), Node W' pb i (a.t.parts[i]'h) (Fk i) := fun i hi => by
  have h1 := hN (L.length + i) (by rw [hlen]; omega)
  have e : (L ++ kids pb a.t.parts qs)[L.length + i]'(by rw [hlen]; omega) = ⟨pb, i, a.t.parts[i]'hi, qs i⟩ := by
   rw [List.getElem_append_right (by omega)]
   simp only [Nat.add_sub_cancel_left]
   exact Z2u _ _ _ _ _
  rw [e] at h1
  exact h1
 have hqk : ∃ qk : Nat -> Ptr, ∀ i (h : i < a.t.parts.length), Sh5 W' pb (i * 5) (a.t.parts[i]'h) (qk i) /\ Own W' (qk i) (a.t.parts[i]'h) (Fk i) := by
  refine ⟨fun i => if h : i < a.t.parts.length then (hkn i h).choose else ⟨none, 0, none, 0⟩, fun i h => ?_⟩
  simp only [dif_pos h]
  exact (hkn i h).choose_spec
 obtain ⟨qk, hqk⟩ := hqk
 have hexc : ∀ b ∈ D, ∀ k, (∀ n ∈ L, ¬ (n.g = b /\ (k = n.i * 5 + 3 \/ k = n.i * 5 + 4))) -> W'.cell? ⟨b, k, none⟩ = W1.cell? ⟨b, k, none⟩ := fun b hb k hx => by
  refine hcell b (by simp [hb]) k (fun n hnm => ?_)
  rcases List.mem_append.1 hnm with h | h
  {exact hx n h}
  {intro ⟨h1, _⟩
   have h2 := hkid n h
   have := hD b hb
   omega}
 have hNa : Node W' a.g a.i a.t Fa := by
  refine ⟨q1, ?_, .mk q1 a.t Fa DN DP qk Fk hs ?_ ?_ (fun i hi => (hqk i hi).2) rfl⟩
  {have e : ∀ c, c < 5 -> W'.cell? ⟨a.g, a.i * 5 + c, none⟩ = W1.cell? ⟨a.g, a.i * 5 + c, none⟩ := fun c hc => hexc a.g hag _ (fun n hnm ⟨h1, h2⟩ => by
    have := hne n hnm h1
    omega)
   obtain ⟨h0, h1, h2, h3, h4⟩ := ha
   exact ⟨(e 0 (by omega)).trans h0, (e 1 (by omega)).trans h1, (e 2 (by omega)).trans h2, (e 3 (by omega)).trans h3, (e 4 (by omega)).trans h4⟩}
  {rcases hn with h | ⟨b, h1, rfl, h3, h4⟩
   {exact Or.inl h}
   {refine Or.inr ⟨b, h1, rfl, h4.of ⟨fun k => hcell b (by simp) k (fun n hnm => ?_), fun k => hfr b (by simp) k⟩ hsz'⟩
    rcases List.mem_append.1 hnm with h | h
    {intro ⟨h5, _⟩
     have := hD _ (hLg n h)
     omega}
    {intro ⟨h5, _⟩
     have h6 := hkid n h
     rw [List.mem_singleton] at h6
     omega}}}
  {rcases hp with h | ⟨h1, rfl, h3, h4, h5⟩
   {exact Or.inl h}
   {exact Or.inr ⟨pb, h1, rfl, Nat.lt_of_lt_of_le h5.lt hsz', fun i hi => (hqk i hi).1, fun k => (hfr pb (by simp) k).trans (h5.fz k)⟩}}
 have hFaD : ∀ b ∈ Fa, b ∉ D := fun b hb hbD => by
  have hlt := hD b hbD
  rcases List.mem_append.1 hb with hb | hb
  {rcases List.mem_append.1 hb with hb | hb
   {have := hDNb b hb; omega}
   {have := (hDPb b hb).1; omega}}
  {obtain ⟨i, hi, hb⟩ := List.mem_flatMap.1 hb
   exact (hdisD (L.length + i) (by have := List.mem_range.1 hi; omega) b hb).1 hbD}
 have hFan : Fa.Nodup := by
  refine List.nodup_append.2 ⟨List.nodup_append.2 ⟨hDNn, hDPn, fun x hx y hy e => (hDPb y hy).2 (e ▸ hx)⟩, hnd'.2.1, fun x hx y hy e => ?_⟩
  subst e
  obtain ⟨i, hi, hb⟩ := List.mem_flatMap.1 hy
  have h1 := hdisD (L.length + i) (by have := List.mem_range.1 hi; omega) x hb
  rcases List.mem_append.1 hx with h | h
  {exact h1.2.1 h}
  {exact h1.2.2 h}
 have hll : (L ++ [a]).length = L.length + 1 := by simp
 have hFs' : (List.range L.length).flatMap Fs' = (List.range L.length).flatMap Fs := by
  have : ∀ (l : List Nat), (∀ j ∈ l, j < L.length) -> l.flatMap Fs' = l.flatMap Fs := by
   intro l
   induction l with
   | nil => intro _; rfl
   | cons j l ih =>
    intro h
    rw [List.flatMap_cons, List.flatMap_cons, ih (fun j hj => h j (by simp [hj]))]
    simp only [Fs', if_pos (h j (by simp))]
  exact this _ (fun j hj => List.mem_range.1 hj)
 obtain ⟨F, h1, h2, h3⟩ := hR W' Fs' (Nat.le_trans hsz hsz') (fun b hb k hx => by
  rw [hexc b hb k (fun n hnm => hx n (by simp [hnm]))]
  exact hk b hb k (hx a (by simp)))
  (fun b hb k => (hfr b (by simp [hb]) k).trans (hf b hb k))
  (fun j hj => by
   rw [hll] at hj
   by_cases hjl : j < L.length
   {have e : (L ++ [a])[j]'(by rw [hll]; omega) = L[j]'hjl := List.getElem_append_left hjl
    have h1 := hN j (by rw [hlen]; omega)
    have e2 : (L ++ kids pb a.t.parts qs)[j]'(by rw [hlen]; omega) = L[j]'hjl := List.getElem_append_left hjl
    rw [e2] at h1
    rw [e]
    simp only [Fs', if_pos hjl]
    exact h1}
   · have hje : j = L.length := by omega
     subst hje
     have e : (L ++ [a])[L.length]'(by rw [hll]; omega) = a := by simp
     rw [e]
     simp only [Fs', if_neg hjl]
     exact hNa)
  (fun j hj b hb => by
   rw [hll] at hj
   by_cases hjl : j < L.length
   {simp only [Fs', if_pos hjl] at hb
    exact (hdisD j (by omega) b hb).1}
   · simp only [Fs', if_neg hjl] at hb
     exact hFaD b hb)
  (by
   rw [hll, List.range_succ, List.flatMap_append, hFs']
   have e : [L.length].flatMap Fs' = Fa := by simp [Fs']
   rw [e]
   refine List.nodup_append.2 ⟨hnd'.1, hFan, fun x hx y hy e => ?_⟩
   subst e
   obtain ⟨j, hj, hxj⟩ := List.mem_flatMap.1 hx
   have hd := hdisD j (by have := List.mem_range.1 hj; omega) x hxj
   rcases List.mem_append.1 hy with hy | hy
   {rcases List.mem_append.1 hy with hy | hy
    {exact hd.2.1 hy}
    {exact hd.2.2 hy}}
   · exact hnd'.2.2 x hx x hy rfl)
 refine ⟨F, h1, h2, fun b hb => ?_⟩
 rcases h3 b hb with h | ⟨j, hj, h⟩
 {exact Or.inl (by simp [h])}
 {rw [hll] at hj
  by_cases hjl : j < L.length
  {simp only [Fs', if_pos hjl] at h
   exact Or.inr ⟨j, by rw [hlen]; omega, h⟩}
  {simp only [Fs', if_neg hjl] at h
   rcases List.mem_append.1 h with h | h
   {rcases List.mem_append.1 h with h | h
    {exact Or.inl (by simp [h])}
    {exact Or.inl (by simp [h])}}
   {obtain ⟨i, hi, h⟩ := List.mem_flatMap.1 h
    exact Or.inr ⟨L.length + i, by rw [hlen]; have := List.mem_range.1 hi; omega, h⟩}}}
end Go.Proofs.YtnkdedejfonbmaaGreatDoor
