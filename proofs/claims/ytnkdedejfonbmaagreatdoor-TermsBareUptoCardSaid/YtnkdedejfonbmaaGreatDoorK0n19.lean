/- What the proofs of TermsBare, TermsChecks, TermsDeep, TermsSame, TermsSames want, part 19. -/
import Derived.Shelf.Unicode.ValidAny
import Derived.Lib.LaidU8T
import Derived.Test.YtnkdedejfonbmaaGreatDoorRows
import Derived.Lib.ValidLaws
import Derived.StillTailTactics
import Derived.Deep.RegionHeld3
import Derived.Test.YtnkdedejfonbmaaGreatDoorK0n13
set_option linter.unusedVariables false
set_option linter.unusedSimpArgs false
set_option maxRecDepth 100000
set_option maxHeartbeats 16000000
namespace Go.Proofs.YtnkdedejfonbmaaGreatDoor
open Go.RowKit Tms
open Shp (Sh field join)
def Zhu (w : World) (g off gs offs : Nat) (t : Tm) (q : TP) (x0 : Tm) (qs : Nat -> TP) (s0 : Sh) (rs : Nat -> Ptr) (tX0 tS0 : List UInt8) : Nat -> Want
 | 0 => .val (.pointer (some ⟨w.heap.size, 7, none⟩))
 | 1 => .val (.slice (some ⟨g, off, none⟩) t.parts.length q.d)
 | 2 => .val (.pointer (some ⟨g, off, none⟩))
 | 3 => .val (.agg (Y7 x0 (qs 0)))
 | 4 => .val (.string (⟨tX0.toArray⟩ : ByteArray))
 | 5 => .val (.string ((⟨#[40]⟩ : ByteArray) ++ (⟨tX0.toArray⟩ : ByteArray)))
 | 6 => .val (.string (((⟨#[40]⟩ : ByteArray) ++ (⟨tX0.toArray⟩ : ByteArray)) ++ (⟨#[32, 97, 115, 32]⟩ : ByteArray)))
 | 7 => .val (.pointer (some ⟨w.heap.size, 6, none⟩))
 | 8 => .val (.slice (some ⟨gs, offs, none⟩) t.shapes.length q.s)
 | 9 => .val (.pointer (some ⟨gs, offs, none⟩))
 | 10 => .val (.agg (Y8 s0 (rs 0)))
 | 11 => .val (.string (⟨tS0.toArray⟩ : ByteArray))
 | 12 => .val (.string ((((⟨#[40]⟩ : ByteArray) ++ (⟨tX0.toArray⟩ : ByteArray)) ++ (⟨#[32, 97, 115, 32]⟩ : ByteArray)) ++ (⟨tS0.toArray⟩ : ByteArray)))
 | 13 => .val (.string (((((⟨#[40]⟩ : ByteArray) ++ (⟨tX0.toArray⟩ : ByteArray)) ++ (⟨#[32, 97, 115, 32]⟩ : ByteArray)) ++ (⟨tS0.toArray⟩ : ByteArray)) ++ (⟨#[41]⟩ : ByteArray)))
 | 14 => .val (.string (((((⟨#[40]⟩ : ByteArray) ++ (⟨tX0.toArray⟩ : ByteArray)) ++ (⟨#[32, 97, 115, 32]⟩ : ByteArray)) ++ (⟨tS0.toArray⟩ : ByteArray)) ++ (⟨#[41]⟩ : ByteArray)))
 | _ => .any
theorem ZaW (t : Tm) (q : TP) (w : World) (hq : TmAt w w.heap.size q t) (hG : Globs w) (hg : WGlobs w) (hr : right t = true) (ht : tame t = true) (hz : size t <= 4096) (hf : ∀ x ∈ t.parts, Wr8 x) (hk : t.kind = 15) :
 Y9 27 #[.agg (Y7 t q)] w (.string ⟨(text t).toArray⟩) := by
 have hb0 := Z02 w (.cells (Y7 t q) 26)
 have HB := Y1 (Z07 w t q)
 have HB0 := Y1 hb0
 obtain ⟨_, ⟨c0, c1, c2, c3, c4, c5, c6, c7, c8⟩, _⟩ := HB.out
 simp only [Nat.zero_add] at c0 c1 c2 c3 c4 c5 c6 c7 c8
 have k1 := Y3 1 hk rfl
 have k2 := Y3 2 hk rfl
 have k3 := Y3 3 hk rfl
 have k4 := Y3 4 hk rfl
 have k5 := Y3 5 hk rfl
 have k6 := Y3 6 hk rfl
 have k7 := Y3 7 hk rfl
 have k8 := Y3 8 hk rfl
 have k9 := Y3 9 hk rfl
 have k10 := Y3 10 hk rfl
 have k11 := Y3 11 hk rfl
 have k12 := Y3 12 hk rfl
 have k13 := Y3 13 hk rfl
 have k14 := Y3 14 hk rfl
 have k15 := Y4 15 hk rfl
 have hfk : fitsK t = true := by have hf := right_fits hr; unfold fits at hf; simp only [Bool.and_eq_true] at hf; exact hf.2
 unfold fitsK at hfk
 rw [if_neg (by omega), if_neg (by omega), if_neg (by omega), if_neg (by omega), if_neg (by omega), if_neg (by omega), if_neg (by omega), if_neg (by omega), if_neg (by omega), if_neg (by omega), if_neg (by omega), if_neg (by omega), if_pos (by omega)] at hfk
 simp only [Bool.and_eq_true, Z0e] at hfk
 obtain ⟨_, hn1, hv1, hs1, hp1⟩ := hfk
 have htl := Z0t hr
 have hwt : weight t <= 1048576 := by unfold tame at ht; simpa using ht
 have HT := Z8A hk
 have hnl := Z0x ht
 have hlp : t.parts.length <= 4096 := by have := length_sizes t.parts; rw [size_eq] at hz; omega
 rcases hq.part with h0 | ⟨g, off, qs, hqP, hgl, hc, hrr⟩
 {omega}
 obtain ⟨x0, hx0⟩ : ∃ x, x = t.parts[0]'(by omega) := ⟨_, rfl⟩
 have hm0 : x0 ∈ t.parts := by rw [hx0]; exact List.getElem_mem _
 have HX0 : Hid (Tm9 w g (off) x0 (qs 0)) := Y1 (by rw [hx0]; exact hc 0 (by omega))
 have HA0 : Hid (TmAt w w.heap.size (qs 0) x0) := Y1 (by rw [hx0]; exact hrr 0 (by omega))
 have hg0 : (t.parts.map text).getD 0 [] = text x0 := by rw [List.getD_eq_getElem?_getD, List.getElem?_map, List.getElem?_eq_getElem (by omega), hx0]; rfl
 rw [hg0] at HT
 rcases hq.shapes with h0 | ⟨gs, offs, rs, hqS, hgsl, hcs, hrs⟩
 {omega}
 obtain ⟨s0, hs0⟩ : ∃ s, s = t.shapes[0]'(by omega) := ⟨_, rfl⟩
 have hsm0 : s0 ∈ t.shapes := by rw [hs0]; exact List.getElem_mem _
 have hsc0 := ((Z0V (right_fits hr)).2.2 s0 hsm0).1
 have HS0 : Hid (Sh5 w gs (offs) s0 (rs 0)) := Y1 (by rw [hs0]; exact hcs 0 (by omega))
 have HSA0 : Hid (ShAt w w.heap.size (rs 0) s0) := Y1 (by rw [hs0]; exact hrs 0 (by omega))
 have hgs0 : (t.shapes.map Shp.text).getD 0 [] = Shp.text s0 := by rw [List.getD_eq_getElem?_getD, List.getElem?_map, List.getElem?_eq_getElem (by omega), hs0]; rfl
 rw [hgs0] at HT
 have HWX0 := Y1 (fun (W : World) (h : Below w.heap.size w W) => hf x0 hm0 (qs 0) W (HA0.out.next h) (hG.next h) (hg.next h))
 obtain ⟨tX0, htX0⟩ : ∃ z, z = text x0 := ⟨_, rfl⟩
 rw [<- htX0] at HT HWX0
 have HWS0 := Y1 (fun (W : World) (h : Below w.heap.size w W) => Z21 s0 (rs 0) W (HSA0.out.next h) (hg.next h) hsc0)
 obtain ⟨tS0, htS0⟩ : ∃ z, z = Shp.text s0 := ⟨_, rfl⟩
 rw [<- htS0] at HT HWS0
 have hlen := congrArg List.length HT
 simp only [List.length_append, List.length_cons, List.length_nil] at hlen
 have zn : (⟨t.name.toArray⟩ : ByteArray).size = t.name.length := Z04 _
 have zX0 : (⟨tX0.toArray⟩ : ByteArray).size = tX0.length := Z04 _
 have bX0 : tX0.length <= 100000000000 := by omega
 have zS0 : (⟨tS0.toArray⟩ : ByteArray).size = tS0.length := Z04 _
 have bS0 : tS0.length <= 100000000000 := by omega
 have HQP := Y1 hqP
 have hi0 : (0 : Int) < (t.parts.length : Int) := by omega
 have HQS := Y1 hqS
 have hj0 : (0 : Int) < (t.shapes.length : Int) := by omega
 have hneP : ¬ t.parts = [] := fun e => by rw [e] at hp1; simp at hp1
 have hneS : ¬ t.shapes = [] := fun e => by rw [e] at hs1; simp at hs1
 have HT' := Y1 HT
 have bn : t.name.length <= 1000000000 := hnl.1
 have hpm := hq.small.m
 have hsm := hq.small.sh
 clear hb0 hq hG hg hr ht hz hf hk hn1 hv1 hs1 hp1 htl hwt HT hnl hlp hlen hqP hc hrr hx0 hm0 hg0 hqS hcs hrs hs0 hsm0 hsc0 hgs0 htX0 htS0
 go_enter Tryz.func27, Tryz.ntmps27
 go_upto_region 1 with fail
 generalize w.alloc (.cells (Y7 t q) 26) = W0 at HB HB0 c0 c1 c2 c3 c4 c5 c6 c7 c8 ⊢
 go_wp2_with fail
 refine Z0p (rs := [0, 1, 2, 3, 4, 5, 6, 7, 8, 9, 10, 11, 12, 13, 14])
  (fun u' => { tmps := #[.agg (Y7 t q), .pointer (some ⟨w.heap.size, 0, none⟩), u' 14, .pointer (some ⟨w.heap.size, 0, none⟩), .int .i64 t.kind, .bool false, .bool false, undef, undef, undef, .bool false, .bool false, undef, undef, undef, .bool false, .bool false, .bool false, .bool false, .bool false, .bool false, undef, undef, .bool false, .bool false, undef, undef, undef, undef, undef, undef, undef, undef, undef, undef, undef, undef, undef, .bool false, .bool false, undef, undef, undef, undef, undef, undef, undef, undef, undef, undef, undef, undef, .bool false, .bool false, undef, undef, undef, undef, .bool false, .bool false, undef, undef, undef, undef, undef, undef, undef, undef, undef, .bool false, .bool false, undef, undef, undef, undef, undef, undef, undef, undef, undef, undef, undef, .bool false, .bool false, undef, undef, undef, undef, undef, undef, undef, undef, undef, undef, undef, .bool false, .bool false, undef, undef, undef, undef, undef, undef, undef, undef, undef, undef, undef, undef, undef, undef, undef, undef, undef, undef, undef, undef, undef, undef, undef, undef, undef, undef, undef, .bool false, .bool false, undef, undef, undef, undef, undef, undef, undef, undef, undef, undef, undef, undef, undef, undef, undef, undef, undef, undef, undef, undef, .bool false, .bool false, undef, undef, undef, undef, undef, undef, undef, undef, undef, undef, undef, undef, undef, undef, undef, undef, undef, .bool true, .bool true, u' 0, u' 1, u' 2, u' 3, u' 4, u' 5, u' 6, u' 7, u' 8, u' 9, u' 10, u' 11, u' 12, u' 13, undef, undef, undef, undef, undef, undef, undef, undef, undef, undef, undef, undef, undef, undef, undef, undef, undef, undef, undef, undef, undef, undef, undef, undef], defers := [] })
  (upd (fun _ => undef) 14 (.string ⟨#[]⟩)) (Zhu w g off gs offs t q x0 qs s0 rs tX0 tS0) (fun W => Below W0.heap.size W0 W) (by kernel_rfl) (by kernel_rfl) (by kernel_rfl) Y2.drew ?_ ?_
 refine StepsAt.cons _ rfl (fun u' W K' hJ hd hK => ?_) ?_
 {refine Y0 hK hJ rfl rfl rfl ?_
  try dsimp only
  go_simp}
 refine StepsAt.cons _ rfl (fun u' W K' hJ hd hK => ?_) ?_
 {have d0 : _ = _ := hd 0 (by kernel_rfl)
  obtain ⟨_, ⟨y0, y1, y2, y3, y4, y5, y6, y7, y8⟩, _⟩ := HB.out.next hJ
  simp only [Nat.zero_add] at y0 y1 y2 y3 y4 y5 y6 y7 y8
  rw [HQP.out] at y7
  refine Y0 hK hJ rfl rfl rfl ?_
  try dsimp only
  go_simp}
 refine StepsAt.cons _ rfl (fun u' W K' hJ hd hK => ?_) ?_
 {have d1 : _ = _ := hd 1 (by kernel_rfl)
  refine Y0 hK hJ rfl rfl rfl ?_
  try dsimp only
  go_simp
  all_goals (first | (intro hnil; exact absurd hnil hneP) | omega)}
 refine StepsAt.cons _ rfl (fun u' W K' hJ hd hK => ?_) ?_
 {have d2 : _ = _ := hd 2 (by kernel_rfl)
  obtain ⟨p0, p1, p2, p3, p4, p5, p6, p7, p8⟩ := HX0.out.keep hgl (Z00 HB0.out hJ)
  refine Y0 hK hJ rfl rfl rfl ?_
  try dsimp only
  go_simp}
 refine StepsAt.cons _ rfl (fun u' W K' hJ hd hK => ?_) ?_
 {have d3 : _ = _ := hd 3 (by kernel_rfl)
  refine Z05 (f := 27) (args := #[.agg (Y7 x0 (qs 0))]) (W' := W) rfl ?_ ((HWX0.out W (Z00 HB0.out hJ)).mono fun e w' h => ⟨_, h.1, hK.out _ _ rfl (Z00 hJ h.2) h.2⟩)
  try dsimp only
  go_simp}
 refine StepsAt.cons _ rfl (fun u' W K' hJ hd hK => ?_) ?_
 {have d4 : _ = _ := hd 4 (by kernel_rfl)
  refine Y0 hK hJ rfl rfl rfl ?_
  try dsimp only
  go_simp
  all_goals omega}
 refine StepsAt.cons _ rfl (fun u' W K' hJ hd hK => ?_) ?_
 {have d5 : _ = _ := hd 5 (by kernel_rfl)
  refine Y0 hK hJ rfl rfl rfl ?_
  try dsimp only
  go_simp
  all_goals omega}
 refine StepsAt.cons _ rfl (fun u' W K' hJ hd hK => ?_) ?_
 {refine Y0 hK hJ rfl rfl rfl ?_
  try dsimp only
  go_simp}
 refine StepsAt.cons _ rfl (fun u' W K' hJ hd hK => ?_) ?_
 {have d7 : _ = _ := hd 7 (by kernel_rfl)
  obtain ⟨_, ⟨y0, y1, y2, y3, y4, y5, y6, y7, y8⟩, _⟩ := HB.out.next hJ
  simp only [Nat.zero_add] at y0 y1 y2 y3 y4 y5 y6 y7 y8
  rw [HQS.out] at y6
  refine Y0 hK hJ rfl rfl rfl ?_
  try dsimp only
  go_simp}
 refine StepsAt.cons _ rfl (fun u' W K' hJ hd hK => ?_) ?_
 {have d8 : _ = _ := hd 8 (by kernel_rfl)
  refine Y0 hK hJ rfl rfl rfl ?_
  try dsimp only
  go_simp
  all_goals (first | (intro hnil; exact absurd hnil hneS) | omega)}
 refine StepsAt.cons _ rfl (fun u' W K' hJ hd hK => ?_) ?_
 {have d9 : _ = _ := hd 9 (by kernel_rfl)
  obtain ⟨p0, p1, p2, p3, p4⟩ := HS0.out.keep hgsl (Z00 HB0.out hJ)
  refine Y0 hK hJ rfl rfl rfl ?_
  try dsimp only
  go_simp}
 refine StepsAt.cons _ rfl (fun u' W K' hJ hd hK => ?_) ?_
 {have d10 : _ = _ := hd 10 (by kernel_rfl)
  refine Z05 (f := 52) (args := #[.agg (Y8 s0 (rs 0))]) (W' := W) rfl ?_ ((HWS0.out W (Z00 HB0.out hJ)).mono fun e w' h => ⟨_, h.1, hK.out _ _ rfl (Z00 hJ h.2) h.2⟩)
  try dsimp only
  go_simp}
 refine StepsAt.cons _ rfl (fun u' W K' hJ hd hK => ?_) ?_
 {have d6 : _ = _ := hd 6 (by kernel_rfl)
  have d11 : _ = _ := hd 11 (by kernel_rfl)
  refine Y0 hK hJ rfl rfl rfl ?_
  try dsimp only
  go_simp
  all_goals omega}
 refine StepsAt.cons _ rfl (fun u' W K' hJ hd hK => ?_) ?_
 {have d12 : _ = _ := hd 12 (by kernel_rfl)
  refine Y0 hK hJ rfl rfl rfl ?_
  try dsimp only
  go_simp
  all_goals omega}
 refine StepsAt.cons _ rfl (fun u' W K' hJ hd hK => ?_) StepsAt.nil
 {have d13 : _ = _ := hd 13 (by kernel_rfl)
  refine Y0 hK hJ rfl rfl rfl ?_
  try dsimp only
  go_simp
  all_goals omega}
 intro u' W5 hJ hok
 have eL : u' 14 = .string (((((⟨#[40]⟩ : ByteArray) ++ (⟨tX0.toArray⟩ : ByteArray)) ++ (⟨#[32, 97, 115, 32]⟩ : ByteArray)) ++ (⟨tS0.toArray⟩ : ByteArray)) ++ (⟨#[41]⟩ : ByteArray)) := hok 14 (by decide)
 try dsimp only
 rw [eL]
 have HBW := Y1 (Z00 HB0.out hJ)
 clear hok eL hJ
 go_wp2
 go_ret
 exact ⟨Z0h (by rw [HT'.out, <- cat7, <- cat7, <- cat7, <- cat7]), HBW.out⟩
def Zhv (w : World) (g off : Nat) (t : Tm) (q : TP) (x0 : Tm) (qs : Nat -> TP) (tX0 : List UInt8) : Nat -> Want
 | 0 => .val (.pointer (some ⟨w.heap.size, 2, none⟩))
 | 1 => .val (.string (⟨t.name.toArray⟩ : ByteArray))
 | 2 => .val (.string ((⟨#[110, 101, 119, 32]⟩ : ByteArray) ++ (⟨t.name.toArray⟩ : ByteArray)))
 | 3 => .val (.string (((⟨#[110, 101, 119, 32]⟩ : ByteArray) ++ (⟨t.name.toArray⟩ : ByteArray)) ++ (⟨#[40]⟩ : ByteArray)))
 | 4 => .val (.pointer (some ⟨w.heap.size, 7, none⟩))
 | 5 => .val (.slice (some ⟨g, off, none⟩) t.parts.length q.d)
 | 6 => .val (.pointer (some ⟨g, off, none⟩))
 | 7 => .val (.agg (Y7 x0 (qs 0)))
 | 8 => .val (.string (⟨tX0.toArray⟩ : ByteArray))
 | 9 => .val (.string ((((⟨#[110, 101, 119, 32]⟩ : ByteArray) ++ (⟨t.name.toArray⟩ : ByteArray)) ++ (⟨#[40]⟩ : ByteArray)) ++ (⟨tX0.toArray⟩ : ByteArray)))
 | 10 => .val (.string (((((⟨#[110, 101, 119, 32]⟩ : ByteArray) ++ (⟨t.name.toArray⟩ : ByteArray)) ++ (⟨#[40]⟩ : ByteArray)) ++ (⟨tX0.toArray⟩ : ByteArray)) ++ (⟨#[41]⟩ : ByteArray)))
 | 11 => .val (.string (((((⟨#[110, 101, 119, 32]⟩ : ByteArray) ++ (⟨t.name.toArray⟩ : ByteArray)) ++ (⟨#[40]⟩ : ByteArray)) ++ (⟨tX0.toArray⟩ : ByteArray)) ++ (⟨#[41]⟩ : ByteArray)))
 | _ => .any
theorem ZaX (t : Tm) (q : TP) (w : World) (hq : TmAt w w.heap.size q t) (hG : Globs w) (hg : WGlobs w) (hr : right t = true) (ht : tame t = true) (hz : size t <= 4096) (hf : ∀ x ∈ t.parts, Wr8 x) (hk : t.kind = 16) :
 Y9 27 #[.agg (Y7 t q)] w (.string ⟨(text t).toArray⟩) := by
 have hb0 := Z02 w (.cells (Y7 t q) 26)
 have HB := Y1 (Z07 w t q)
 have HB0 := Y1 hb0
 obtain ⟨_, ⟨c0, c1, c2, c3, c4, c5, c6, c7, c8⟩, _⟩ := HB.out
 simp only [Nat.zero_add] at c0 c1 c2 c3 c4 c5 c6 c7 c8
 have k1 := Y3 1 hk rfl
 have k2 := Y3 2 hk rfl
 have k3 := Y3 3 hk rfl
 have k4 := Y3 4 hk rfl
 have k5 := Y3 5 hk rfl
 have k6 := Y3 6 hk rfl
 have k7 := Y3 7 hk rfl
 have k8 := Y3 8 hk rfl
 have k9 := Y3 9 hk rfl
 have k10 := Y3 10 hk rfl
 have k11 := Y3 11 hk rfl
 have k12 := Y3 12 hk rfl
 have k13 := Y3 13 hk rfl
 have k14 := Y3 14 hk rfl
 have k15 := Y3 15 hk rfl
 have k16 := Y4 16 hk rfl
 have hfk : fitsK t = true := by have hf := right_fits hr; unfold fits at hf; simp only [Bool.and_eq_true] at hf; exact hf.2
 unfold fitsK at hfk
 rw [if_neg (by omega), if_neg (by omega), if_neg (by omega), if_neg (by omega), if_neg (by omega), if_neg (by omega), if_neg (by omega), if_neg (by omega), if_neg (by omega), if_neg (by omega), if_neg (by omega), if_neg (by omega), if_neg (by omega), if_pos (by omega)] at hfk
 simp only [Bool.and_eq_true, Z0e] at hfk
 obtain ⟨_, hn1, hv1, hs1, hp1⟩ := hfk
 have htl := Z0t hr
 have hwt : weight t <= 1048576 := by unfold tame at ht; simpa using ht
 have HT := Z8B hk
 have hnl := Z0x ht
 have hlp : t.parts.length <= 4096 := by have := length_sizes t.parts; rw [size_eq] at hz; omega
 rcases hq.part with h0 | ⟨g, off, qs, hqP, hgl, hc, hrr⟩
 {omega}
 obtain ⟨x0, hx0⟩ : ∃ x, x = t.parts[0]'(by omega) := ⟨_, rfl⟩
 have hm0 : x0 ∈ t.parts := by rw [hx0]; exact List.getElem_mem _
 have HX0 : Hid (Tm9 w g (off) x0 (qs 0)) := Y1 (by rw [hx0]; exact hc 0 (by omega))
 have HA0 : Hid (TmAt w w.heap.size (qs 0) x0) := Y1 (by rw [hx0]; exact hrr 0 (by omega))
 have hg0 : (t.parts.map text).getD 0 [] = text x0 := by rw [List.getD_eq_getElem?_getD, List.getElem?_map, List.getElem?_eq_getElem (by omega), hx0]; rfl
 rw [hg0] at HT
 have HWX0 := Y1 (fun (W : World) (h : Below w.heap.size w W) => hf x0 hm0 (qs 0) W (HA0.out.next h) (hG.next h) (hg.next h))
 obtain ⟨tX0, htX0⟩ : ∃ z, z = text x0 := ⟨_, rfl⟩
 rw [<- htX0] at HT HWX0
 have hlen := congrArg List.length HT
 simp only [List.length_append, List.length_cons, List.length_nil] at hlen
 have zn : (⟨t.name.toArray⟩ : ByteArray).size = t.name.length := Z04 _
 have zX0 : (⟨tX0.toArray⟩ : ByteArray).size = tX0.length := Z04 _
 have bX0 : tX0.length <= 100000000000 := by omega
 have HQP := Y1 hqP
 have hi0 : (0 : Int) < (t.parts.length : Int) := by omega
 have hneP : ¬ t.parts = [] := fun e => by rw [e] at hp1; simp at hp1
 have HT' := Y1 HT
 have bn : t.name.length <= 1000000000 := hnl.1
 have hpm := hq.small.m
 clear hb0 hq hG hg hr ht hz hf hk hn1 hv1 hs1 hp1 htl hwt HT hnl hlp hlen hqP hc hrr hx0 hm0 hg0 htX0
 go_enter Tryz.func27, Tryz.ntmps27
 go_upto_region 1 with fail
 generalize w.alloc (.cells (Y7 t q) 26) = W0 at HB HB0 c0 c1 c2 c3 c4 c5 c6 c7 c8 ⊢
 go_wp2_with fail
 refine Z0p (rs := [0, 1, 2, 3, 4, 5, 6, 7, 8, 9, 10, 11])
  (fun u' => { tmps := #[.agg (Y7 t q), .pointer (some ⟨w.heap.size, 0, none⟩), u' 11, .pointer (some ⟨w.heap.size, 0, none⟩), .int .i64 t.kind, .bool false, .bool false, undef, undef, undef, .bool false, .bool false, undef, undef, undef, .bool false, .bool false, .bool false, .bool false, .bool false, .bool false, undef, undef, .bool false, .bool false, undef, undef, undef, undef, undef, undef, undef, undef, undef, undef, undef, undef, undef, .bool false, .bool false, undef, undef, undef, undef, undef, undef, undef, undef, undef, undef, undef, undef, .bool false, .bool false, undef, undef, undef, undef, .bool false, .bool false, undef, undef, undef, undef, undef, undef, undef, undef, undef, .bool false, .bool false, undef, undef, undef, undef, undef, undef, undef, undef, undef, undef, undef, .bool false, .bool false, undef, undef, undef, undef, undef, undef, undef, undef, undef, undef, undef, .bool false, .bool false, undef, undef, undef, undef, undef, undef, undef, undef, undef, undef, undef, undef, undef, undef, undef, undef, undef, undef, undef, undef, undef, undef, undef, undef, undef, undef, undef, .bool false, .bool false, undef, undef, undef, undef, undef, undef, undef, undef, undef, undef, undef, undef, undef, undef, undef, undef, undef, undef, undef, undef, .bool false, .bool false, undef, undef, undef, undef, undef, undef, undef, undef, undef, undef, undef, undef, undef, undef, undef, undef, undef, .bool false, .bool false, undef, undef, undef, undef, undef, undef, undef, undef, undef, undef, undef, undef, undef, undef, .bool true, .bool true, u' 0, u' 1, u' 2, u' 3, u' 4, u' 5, u' 6, u' 7, u' 8, u' 9, u' 10, undef, undef, undef, undef, undef, undef, undef, undef, undef, undef, undef], defers := [] })
  (upd (fun _ => undef) 11 (.string ⟨#[]⟩)) (Zhv w g off t q x0 qs tX0) (fun W => Below W0.heap.size W0 W) (by kernel_rfl) (by kernel_rfl) (by kernel_rfl) Y2.drew ?_ ?_
 refine StepsAt.cons _ rfl (fun u' W K' hJ hd hK => ?_) ?_
 {refine Y0 hK hJ rfl rfl rfl ?_
  try dsimp only
  go_simp}
 refine StepsAt.cons _ rfl (fun u' W K' hJ hd hK => ?_) ?_
 {have d0 : _ = _ := hd 0 (by kernel_rfl)
  obtain ⟨_, ⟨y0, y1, y2, y3, y4, y5, y6, y7, y8⟩, _⟩ := HB.out.next hJ
  simp only [Nat.zero_add] at y0 y1 y2 y3 y4 y5 y6 y7 y8
  refine Y0 hK hJ rfl rfl rfl ?_
  try dsimp only
  go_simp}
 refine StepsAt.cons _ rfl (fun u' W K' hJ hd hK => ?_) ?_
 {have d1 : _ = _ := hd 1 (by kernel_rfl)
  refine Y0 hK hJ rfl rfl rfl ?_
  try dsimp only
  go_simp
  all_goals omega}
 refine StepsAt.cons _ rfl (fun u' W K' hJ hd hK => ?_) ?_
 {have d2 : _ = _ := hd 2 (by kernel_rfl)
  refine Y0 hK hJ rfl rfl rfl ?_
  try dsimp only
  go_simp
  all_goals omega}
 refine StepsAt.cons _ rfl (fun u' W K' hJ hd hK => ?_) ?_
 {refine Y0 hK hJ rfl rfl rfl ?_
  try dsimp only
  go_simp}
 refine StepsAt.cons _ rfl (fun u' W K' hJ hd hK => ?_) ?_
 {have d4 : _ = _ := hd 4 (by kernel_rfl)
  obtain ⟨_, ⟨y0, y1, y2, y3, y4, y5, y6, y7, y8⟩, _⟩ := HB.out.next hJ
  simp only [Nat.zero_add] at y0 y1 y2 y3 y4 y5 y6 y7 y8
  rw [HQP.out] at y7
  refine Y0 hK hJ rfl rfl rfl ?_
  try dsimp only
  go_simp}
 refine StepsAt.cons _ rfl (fun u' W K' hJ hd hK => ?_) ?_
 {have d5 : _ = _ := hd 5 (by kernel_rfl)
  refine Y0 hK hJ rfl rfl rfl ?_
  try dsimp only
  go_simp
  all_goals (first | (intro hnil; exact absurd hnil hneP) | omega)}
 refine StepsAt.cons _ rfl (fun u' W K' hJ hd hK => ?_) ?_
 {have d6 : _ = _ := hd 6 (by kernel_rfl)
  obtain ⟨p0, p1, p2, p3, p4, p5, p6, p7, p8⟩ := HX0.out.keep hgl (Z00 HB0.out hJ)
  refine Y0 hK hJ rfl rfl rfl ?_
  try dsimp only
  go_simp}
 refine StepsAt.cons _ rfl (fun u' W K' hJ hd hK => ?_) ?_
 {have d7 : _ = _ := hd 7 (by kernel_rfl)
  refine Z05 (f := 27) (args := #[.agg (Y7 x0 (qs 0))]) (W' := W) rfl ?_ ((HWX0.out W (Z00 HB0.out hJ)).mono fun e w' h => ⟨_, h.1, hK.out _ _ rfl (Z00 hJ h.2) h.2⟩)
  try dsimp only
  go_simp}
 refine StepsAt.cons _ rfl (fun u' W K' hJ hd hK => ?_) ?_
 {have d3 : _ = _ := hd 3 (by kernel_rfl)
  have d8 : _ = _ := hd 8 (by kernel_rfl)
  refine Y0 hK hJ rfl rfl rfl ?_
  try dsimp only
  go_simp
  all_goals omega}
 refine StepsAt.cons _ rfl (fun u' W K' hJ hd hK => ?_) ?_
 {have d9 : _ = _ := hd 9 (by kernel_rfl)
  refine Y0 hK hJ rfl rfl rfl ?_
  try dsimp only
  go_simp
  all_goals omega}
 refine StepsAt.cons _ rfl (fun u' W K' hJ hd hK => ?_) StepsAt.nil
 {have d10 : _ = _ := hd 10 (by kernel_rfl)
  refine Y0 hK hJ rfl rfl rfl ?_
  try dsimp only
  go_simp
  all_goals omega}
 intro u' W5 hJ hok
 have eL : u' 11 = .string (((((⟨#[110, 101, 119, 32]⟩ : ByteArray) ++ (⟨t.name.toArray⟩ : ByteArray)) ++ (⟨#[40]⟩ : ByteArray)) ++ (⟨tX0.toArray⟩ : ByteArray)) ++ (⟨#[41]⟩ : ByteArray)) := hok 11 (by decide)
 try dsimp only
 rw [eL]
 have HBW := Y1 (Z00 HB0.out hJ)
 clear hok eL hJ
 go_wp2
 go_ret
 exact ⟨Z0h (by rw [HT'.out, <- cat7, <- cat7, <- cat7, <- cat7]), HBW.out⟩
def Zhw (w : World) (g off : Nat) (t : Tm) (q : TP) (x0 : Tm) (qs : Nat -> TP) (tX0 : List UInt8) : Nat -> Want
 | 0 => .val (.pointer (some ⟨w.heap.size, 2, none⟩))
 | 1 => .val (.string (⟨t.name.toArray⟩ : ByteArray))
 | 2 => .val (.string ((⟨#[114, 97, 119, 32]⟩ : ByteArray) ++ (⟨t.name.toArray⟩ : ByteArray)))
 | 3 => .val (.string (((⟨#[114, 97, 119, 32]⟩ : ByteArray) ++ (⟨t.name.toArray⟩ : ByteArray)) ++ (⟨#[40]⟩ : ByteArray)))
 | 4 => .val (.pointer (some ⟨w.heap.size, 7, none⟩))
 | 5 => .val (.slice (some ⟨g, off, none⟩) t.parts.length q.d)
 | 6 => .val (.pointer (some ⟨g, off, none⟩))
 | 7 => .val (.agg (Y7 x0 (qs 0)))
 | 8 => .val (.string (⟨tX0.toArray⟩ : ByteArray))
 | 9 => .val (.string ((((⟨#[114, 97, 119, 32]⟩ : ByteArray) ++ (⟨t.name.toArray⟩ : ByteArray)) ++ (⟨#[40]⟩ : ByteArray)) ++ (⟨tX0.toArray⟩ : ByteArray)))
 | 10 => .val (.string (((((⟨#[114, 97, 119, 32]⟩ : ByteArray) ++ (⟨t.name.toArray⟩ : ByteArray)) ++ (⟨#[40]⟩ : ByteArray)) ++ (⟨tX0.toArray⟩ : ByteArray)) ++ (⟨#[41]⟩ : ByteArray)))
 | 11 => .val (.string (((((⟨#[114, 97, 119, 32]⟩ : ByteArray) ++ (⟨t.name.toArray⟩ : ByteArray)) ++ (⟨#[40]⟩ : ByteArray)) ++ (⟨tX0.toArray⟩ : ByteArray)) ++ (⟨#[41]⟩ : ByteArray)))
 | _ => .any
theorem ZaY (t : Tm) (q : TP) (w : World) (hq : TmAt w w.heap.size q t) (hG : Globs w) (hg : WGlobs w) (hr : right t = true) (ht : tame t = true) (hz : size t <= 4096) (hf : ∀ x ∈ t.parts, Wr8 x) (hk : t.kind = 17) :
 Y9 27 #[.agg (Y7 t q)] w (.string ⟨(text t).toArray⟩) := by
 have hb0 := Z02 w (.cells (Y7 t q) 26)
 have HB := Y1 (Z07 w t q)
 have HB0 := Y1 hb0
 obtain ⟨_, ⟨c0, c1, c2, c3, c4, c5, c6, c7, c8⟩, _⟩ := HB.out
 simp only [Nat.zero_add] at c0 c1 c2 c3 c4 c5 c6 c7 c8
 have k1 := Y3 1 hk rfl
 have k2 := Y3 2 hk rfl
 have k3 := Y3 3 hk rfl
 have k4 := Y3 4 hk rfl
 have k5 := Y3 5 hk rfl
 have k6 := Y3 6 hk rfl
 have k7 := Y3 7 hk rfl
 have k8 := Y3 8 hk rfl
 have k9 := Y3 9 hk rfl
 have k10 := Y3 10 hk rfl
 have k11 := Y3 11 hk rfl
 have k12 := Y3 12 hk rfl
 have k13 := Y3 13 hk rfl
 have k14 := Y3 14 hk rfl
 have k15 := Y3 15 hk rfl
 have k16 := Y3 16 hk rfl
 have hfk : fitsK t = true := by have hf := right_fits hr; unfold fits at hf; simp only [Bool.and_eq_true] at hf; exact hf.2
 unfold fitsK at hfk
 rw [if_neg (by omega), if_neg (by omega), if_neg (by omega), if_neg (by omega), if_neg (by omega), if_neg (by omega), if_neg (by omega), if_neg (by omega), if_neg (by omega), if_neg (by omega), if_neg (by omega), if_neg (by omega), if_neg (by omega), if_pos (by omega)] at hfk
 simp only [Bool.and_eq_true, Z0e] at hfk
 obtain ⟨_, hn1, hv1, hs1, hp1⟩ := hfk
 have htl := Z0t hr
 have hwt : weight t <= 1048576 := by unfold tame at ht; simpa using ht
 have HT := Z8C hk
 have hnl := Z0x ht
 have hlp : t.parts.length <= 4096 := by have := length_sizes t.parts; rw [size_eq] at hz; omega
 rcases hq.part with h0 | ⟨g, off, qs, hqP, hgl, hc, hrr⟩
 {omega}
 obtain ⟨x0, hx0⟩ : ∃ x, x = t.parts[0]'(by omega) := ⟨_, rfl⟩
 have hm0 : x0 ∈ t.parts := by rw [hx0]; exact List.getElem_mem _
 have HX0 : Hid (Tm9 w g (off) x0 (qs 0)) := Y1 (by rw [hx0]; exact hc 0 (by omega))
 have HA0 : Hid (TmAt w w.heap.size (qs 0) x0) := Y1 (by rw [hx0]; exact hrr 0 (by omega))
 have hg0 : (t.parts.map text).getD 0 [] = text x0 := by rw [List.getD_eq_getElem?_getD, List.getElem?_map, List.getElem?_eq_getElem (by omega), hx0]; rfl
 rw [hg0] at HT
 have HWX0 := Y1 (fun (W : World) (h : Below w.heap.size w W) => hf x0 hm0 (qs 0) W (HA0.out.next h) (hG.next h) (hg.next h))
 obtain ⟨tX0, htX0⟩ : ∃ z, z = text x0 := ⟨_, rfl⟩
 rw [<- htX0] at HT HWX0
 have hlen := congrArg List.length HT
 simp only [List.length_append, List.length_cons, List.length_nil] at hlen
 have zn : (⟨t.name.toArray⟩ : ByteArray).size = t.name.length := Z04 _
 have zX0 : (⟨tX0.toArray⟩ : ByteArray).size = tX0.length := Z04 _
 have bX0 : tX0.length <= 100000000000 := by omega
 have HQP := Y1 hqP
 have hi0 : (0 : Int) < (t.parts.length : Int) := by omega
 have hneP : ¬ t.parts = [] := fun e => by rw [e] at hp1; simp at hp1
 have HT' := Y1 HT
 have bn : t.name.length <= 1000000000 := hnl.1
 have hpm := hq.small.m
 clear hb0 hq hG hg hr ht hz hf hk hn1 hv1 hs1 hp1 htl hwt HT hnl hlp hlen hqP hc hrr hx0 hm0 hg0 htX0
 go_enter Tryz.func27, Tryz.ntmps27
 go_upto_region 1 with fail
 generalize w.alloc (.cells (Y7 t q) 26) = W0 at HB HB0 c0 c1 c2 c3 c4 c5 c6 c7 c8 ⊢
 go_wp2_with fail
 refine Z0p (rs := [0, 1, 2, 3, 4, 5, 6, 7, 8, 9, 10, 11])
  (fun u' => { tmps := #[.agg (Y7 t q), .pointer (some ⟨w.heap.size, 0, none⟩), u' 11, .pointer (some ⟨w.heap.size, 0, none⟩), .int .i64 t.kind, .bool false, .bool false, undef, undef, undef, .bool false, .bool false, undef, undef, undef, .bool false, .bool false, .bool false, .bool false, .bool false, .bool false, undef, undef, .bool false, .bool false, undef, undef, undef, undef, undef, undef, undef, undef, undef, undef, undef, undef, undef, .bool false, .bool false, undef, undef, undef, undef, undef, undef, undef, undef, undef, undef, undef, undef, .bool false, .bool false, undef, undef, undef, undef, .bool false, .bool false, undef, undef, undef, undef, undef, undef, undef, undef, undef, .bool false, .bool false, undef, undef, undef, undef, undef, undef, undef, undef, undef, undef, undef, .bool false, .bool false, undef, undef, undef, undef, undef, undef, undef, undef, undef, undef, undef, .bool false, .bool false, undef, undef, undef, undef, undef, undef, undef, undef, undef, undef, undef, undef, undef, undef, undef, undef, undef, undef, undef, undef, undef, undef, undef, undef, undef, undef, undef, .bool false, .bool false, undef, undef, undef, undef, undef, undef, undef, undef, undef, undef, undef, undef, undef, undef, undef, undef, undef, undef, undef, undef, .bool false, .bool false, undef, undef, undef, undef, undef, undef, undef, undef, undef, undef, undef, undef, undef, undef, undef, undef, undef, .bool false, .bool false, undef, undef, undef, undef, undef, undef, undef, undef, undef, undef, undef, undef, undef, undef, .bool false, .bool false, undef, undef, undef, undef, undef, undef, undef, undef, undef, undef, undef, u' 0, u' 1, u' 2, u' 3, u' 4, u' 5, u' 6, u' 7, u' 8, u' 9, u' 10], defers := [] })
  (upd (fun _ => undef) 11 (.string ⟨#[]⟩)) (Zhw w g off t q x0 qs tX0) (fun W => Below W0.heap.size W0 W) (by kernel_rfl) (by kernel_rfl) (by kernel_rfl) Y2.drew ?_ ?_
 refine StepsAt.cons _ rfl (fun u' W K' hJ hd hK => ?_) ?_
 {refine Y0 hK hJ rfl rfl rfl ?_
  try dsimp only
  go_simp}
 refine StepsAt.cons _ rfl (fun u' W K' hJ hd hK => ?_) ?_
 {have d0 : _ = _ := hd 0 (by kernel_rfl)
  obtain ⟨_, ⟨y0, y1, y2, y3, y4, y5, y6, y7, y8⟩, _⟩ := HB.out.next hJ
  simp only [Nat.zero_add] at y0 y1 y2 y3 y4 y5 y6 y7 y8
  refine Y0 hK hJ rfl rfl rfl ?_
  try dsimp only
  go_simp}
 refine StepsAt.cons _ rfl (fun u' W K' hJ hd hK => ?_) ?_
 {have d1 : _ = _ := hd 1 (by kernel_rfl)
  refine Y0 hK hJ rfl rfl rfl ?_
  try dsimp only
  go_simp
  all_goals omega}
 refine StepsAt.cons _ rfl (fun u' W K' hJ hd hK => ?_) ?_
 {have d2 : _ = _ := hd 2 (by kernel_rfl)
  refine Y0 hK hJ rfl rfl rfl ?_
  try dsimp only
  go_simp
  all_goals omega}
 refine StepsAt.cons _ rfl (fun u' W K' hJ hd hK => ?_) ?_
 {refine Y0 hK hJ rfl rfl rfl ?_
  try dsimp only
  go_simp}
 refine StepsAt.cons _ rfl (fun u' W K' hJ hd hK => ?_) ?_
 {have d4 : _ = _ := hd 4 (by kernel_rfl)
  obtain ⟨_, ⟨y0, y1, y2, y3, y4, y5, y6, y7, y8⟩, _⟩ := HB.out.next hJ
  simp only [Nat.zero_add] at y0 y1 y2 y3 y4 y5 y6 y7 y8
  rw [HQP.out] at y7
  refine Y0 hK hJ rfl rfl rfl ?_
  try dsimp only
  go_simp}
 refine StepsAt.cons _ rfl (fun u' W K' hJ hd hK => ?_) ?_
 {have d5 : _ = _ := hd 5 (by kernel_rfl)
  refine Y0 hK hJ rfl rfl rfl ?_
  try dsimp only
  go_simp
  all_goals (first | (intro hnil; exact absurd hnil hneP) | omega)}
 refine StepsAt.cons _ rfl (fun u' W K' hJ hd hK => ?_) ?_
 {have d6 : _ = _ := hd 6 (by kernel_rfl)
  obtain ⟨p0, p1, p2, p3, p4, p5, p6, p7, p8⟩ := HX0.out.keep hgl (Z00 HB0.out hJ)
  refine Y0 hK hJ rfl rfl rfl ?_
  try dsimp only
  go_simp}
 refine StepsAt.cons _ rfl (fun u' W K' hJ hd hK => ?_) ?_
 {have d7 : _ = _ := hd 7 (by kernel_rfl)
  refine Z05 (f := 27) (args := #[.agg (Y7 x0 (qs 0))]) (W' := W) rfl ?_ ((HWX0.out W (Z00 HB0.out hJ)).mono fun e w' h => ⟨_, h.1, hK.out _ _ rfl (Z00 hJ h.2) h.2⟩)
  try dsimp only
  go_simp}
 refine StepsAt.cons _ rfl (fun u' W K' hJ hd hK => ?_) ?_
 {have d3 : _ = _ := hd 3 (by kernel_rfl)
  have d8 : _ = _ := hd 8 (by kernel_rfl)
  refine Y0 hK hJ rfl rfl rfl ?_
  try dsimp only
  go_simp
  all_goals omega}
 refine StepsAt.cons _ rfl (fun u' W K' hJ hd hK => ?_) ?_
 {have d9 : _ = _ := hd 9 (by kernel_rfl)
  refine Y0 hK hJ rfl rfl rfl ?_
  try dsimp only
  go_simp
  all_goals omega}
 refine StepsAt.cons _ rfl (fun u' W K' hJ hd hK => ?_) StepsAt.nil
 {have d10 : _ = _ := hd 10 (by kernel_rfl)
  refine Y0 hK hJ rfl rfl rfl ?_
  try dsimp only
  go_simp
  all_goals omega}
 intro u' W5 hJ hok
 have eL : u' 11 = .string (((((⟨#[114, 97, 119, 32]⟩ : ByteArray) ++ (⟨t.name.toArray⟩ : ByteArray)) ++ (⟨#[40]⟩ : ByteArray)) ++ (⟨tX0.toArray⟩ : ByteArray)) ++ (⟨#[41]⟩ : ByteArray)) := hok 11 (by decide)
 try dsimp only
 rw [eL]
 have HBW := Y1 (Z00 HB0.out hJ)
 clear hok eL hJ
 go_wp2
 go_ret
 exact ⟨Z0h (by rw [HT'.out, <- cat7, <- cat7, <- cat7, <- cat7]), HBW.out⟩
end Go.Proofs.YtnkdedejfonbmaaGreatDoor
namespace Go.Proofs
open Go.Shelf
def Tryz.lays196_ren : Go.Shelf.Ren := ⟨fun | 196 => 111 | 259 => 135 | n => n, fun | 9 => 9 | 4 => 4 | 3 => 3 | 5 => 5 | 12 => 12 | 119 => 161 | 0 => 0 | 46 => 165 | 139 => 164 | 138 => 163 | 53 => 148 | n => n, fun | 3 => 1 | 4 => 2 | n => n⟩
theorem Tryz.lays196 : Go.Proofs.Lays.n196 Tryz.prog Tryz.lays196_ren := {
 mixed := by kernel_rfl
 f196 := Tryz.func111.trans (congrArg some (by kernel_rfl))
 f259 := Tryz.func135.trans (congrArg some (by kernel_rfl))
 t0 := Tryz.underlying0
 a0 := Tryz.isAgg0
 z0 := Tryz.sizeOf0
 v0 := Tryz.zeroValue0
 t3 := Tryz.underlying3
 a3 := Tryz.isAgg3
 z3 := Tryz.sizeOf3
 v3 := Tryz.zeroValue3
 t4 := Tryz.underlying4
 a4 := Tryz.isAgg4
 z4 := Tryz.sizeOf4
 v4 := Tryz.zeroValue4
 t5 := Tryz.underlying5
 a5 := Tryz.isAgg5
 z5 := Tryz.sizeOf5
 v5 := Tryz.zeroValue5
 t9 := Tryz.underlying9
 a9 := Tryz.isAgg9
 z9 := Tryz.sizeOf9
 v9 := Tryz.zeroValue9
 t12 := Tryz.underlying12
 a12 := Tryz.isAgg12
 z12 := Tryz.sizeOf12
 v12 := Tryz.zeroValue12
 t46 := Tryz.underlying165
 a46 := Tryz.isAgg165
 z46 := Tryz.sizeOf165
 v46 := Tryz.zeroValue165
 t53 := Tryz.underlying148
 a53 := Tryz.isAgg148
 z53 := Tryz.sizeOf148
 v53 := Tryz.zeroValue148
 t119 := Tryz.underlying161
 a119 := Tryz.isAgg161
 z119 := Tryz.sizeOf161
 t138 := Tryz.underlying163
 a138 := Tryz.isAgg163
 z138 := Tryz.sizeOf163
 v138 := Tryz.zeroValue163
 t139 := Tryz.underlying164
 a139 := Tryz.isAgg164
 z139 := Tryz.sizeOf164
 v139 := Tryz.zeroValue164
 g3 := by kernel_rfl
 g4 := by kernel_rfl }
end Go.Proofs
namespace Go.Proofs.YtnkdedejfonbmaaGreatDoor
open Go.RowKit Go.Shelf
def Z0l (w : World) : Prop := Go.Lib.Utf8Tabs (Tryz.lays196_ren.g 3) (Tryz.lays196_ren.g 4) w
theorem Z0l.next {w w' : World} (h : Z0l w) (hb : Below w.heap.size w w') : Z0l w' := Utf8Tabs_below h hb
theorem Z2k {L : List (String × DataW Unit)} {W : World} (h : laidMet Tryz.prog L W) (m1 : ("unicode/utf8.first", Rows.laid_unicode_utf8_first) ∈ L) (m2 : ("unicode/utf8.acceptRanges", Rows.laid_unicode_utf8_acceptRanges) ∈ L) : Z0l W :=
 utf8Tabs_of_readsT (U8Types.of196 Tryz.lays196) ⟨by kernel_rfl, by kernel_rfl, by kernel_rfl, by kernel_rfl, by kernel_rfl, by kernel_rfl, by kernel_rfl⟩
  (by have e := Go.Lib.laidMet.reads h m1; rwa [show (Rows.laid_unicode_utf8_first : DataW Unit) = Go.Lib.firstData from by kernel_rfl] at e)
  (by have e := Go.Lib.laidMet.reads h m2; rwa [show (Rows.laid_unicode_utf8_acceptRanges : DataW Unit) = Go.Lib.acceptData from by kernel_rfl] at e)
theorem Z61 (s : ByteArray) (w : World) (hs : s.size <= 9223372036854775807) (hT : Z0l w) :
 Y9 111 #[.string s] w (.bool (Go.Lib.validD s.data.toList)) := Any.utf8_ValidString Tryz.lays196 s w hs hT
end Go.Proofs.YtnkdedejfonbmaaGreatDoor
namespace Tms
open Go.Lib (decodeL decodeN decodeL_N validD validD_step validD_nil)
theorem Z9l {p : Int} (h : Utf.pt p = true) (m : List UInt8) : (decodeL (Utf.bytes p ++ m)).2 = Utf.width p /\ ¬ ((decodeL (Utf.bytes p ++ m)).1 = 65533 /\ (decodeL (Utf.bytes p ++ m)).2 = 1) := by
 obtain ⟨h0, h1, h2⟩ := (Utf.Z1r p).1 h
 rw [decodeL_N]
 unfold Utf.bytes Utf.width
 by_cases c1 : p < 128
 {rw [if_pos c1, if_pos c1]
  have e0 := Utf.Z0d p
  simp only [List.cons_append, List.nil_append, List.getD_cons_zero]
  unfold decodeN
  rw [if_pos (by omega)]
  exact ⟨rfl, by simp; omega⟩}
 rw [if_neg c1, if_neg c1]
 by_cases c2 : p < 2048
 {rw [if_pos c2, if_pos c2]
  have e0 := Utf.Z0d (192 + p / 64)
  have e1 := Utf.Z0d (128 + p % 64)
  simp only [List.cons_append, List.nil_append, List.getD_cons_zero, List.getD_cons_succ, List.length_cons]
  unfold decodeN
  rw [if_neg (by omega), if_pos ⟨by omega, by omega, by omega⟩, if_pos (by omega)]
  exact ⟨rfl, by simp⟩}
 rw [if_neg c2, if_neg c2]
 by_cases c3 : p < 65536
 {rw [if_pos c3, if_pos c3]
  have e0 := Utf.Z0d (224 + p / 4096)
  have e1 := Utf.Z0d (128 + p / 64 % 64)
  have e2 := Utf.Z0d (128 + p % 64)
  simp only [List.cons_append, List.nil_append, List.getD_cons_zero, List.getD_cons_succ, List.length_cons]
  unfold decodeN
  rw [if_neg (by omega), if_neg (fun x => by omega), if_pos ⟨by omega, ⟨by omega, by omega⟩, by omega, by omega⟩, if_pos ⟨by omega, by omega⟩]
  exact ⟨rfl, by simp⟩}
 rw [if_neg c3, if_neg c3]
 have e0 := Utf.Z0d (240 + p / 262144)
 have e1 := Utf.Z0d (128 + p / 4096 % 64)
 have e2 := Utf.Z0d (128 + p / 64 % 64)
 have e3 := Utf.Z0d (128 + p % 64)
 simp only [List.cons_append, List.nil_append, List.getD_cons_zero, List.getD_cons_succ, List.length_cons]
 unfold decodeN
 rw [if_neg (by omega), if_neg (fun x => by omega), if_neg (fun x => by omega), if_pos ⟨by omega, ⟨by omega, by omega⟩, ⟨by omega, by omega⟩, by omega, by omega⟩, if_pos ⟨by omega, by omega⟩]
 exact ⟨rfl, by simp⟩
theorem Z9m {p : Int} (h : Utf.pt p = true) (m : List UInt8) : validD (Utf.bytes p ++ m) = validD m := by
 obtain ⟨h1, h2⟩ := Z9l h m
 have hw := Utf.Z0q p
 have hp := Utf.Z0X p
 have hne : Utf.bytes p ++ m ≠ [] := fun e => by
  have := congrArg List.length e
  rw [List.length_append, List.length_nil] at this
  omega
 rw [validD_step _ hne, if_neg h2, h1, <- hw, List.drop_left]
theorem Zd5 {a : UInt8} {r : List UInt8} (hn : ∀ p m, Utf.pt p = true -> a :: r ≠ Utf.bytes p ++ m) : decodeL (a :: r) = (65533, 1) := by
 have hno : ∀ (p : Int) (m : List UInt8), 0 <= p -> p <= 1114111 -> (p < 55296 \/ 57343 < p) -> ¬ a :: r = Utf.bytes p ++ m := fun p m h1 h2 h3 => hn p m ((Utf.Z1r p).2 ⟨h1, h2, h3⟩)
 rw [decodeL_N]
 have la := a.toNat_lt
 simp only [List.getD_cons_zero, List.getD_cons_succ, List.length_cons]
 unfold decodeN
 by_cases c1 : a.toNat < 128
 {refine absurd ?_ (hno a.toNat r (by omega) (by omega) (Or.inl (by omega)))
  unfold Utf.bytes
  rw [if_pos (by omega), Utf.Z0E rfl]; rfl}
 rw [if_neg c1]
 match r with
 | [] => 
  rw [if_neg (fun x => by simp at x), if_neg (fun x => by simp at x), if_neg (fun x => by simp at x)]
 | b :: r =>
  have lb := b.toNat_lt
  simp only [List.getD_cons_zero, List.getD_cons_succ, List.length_cons] at hno ⊢
  by_cases c2 : a.toNat / 32 = 6 /\ (1 < r.length + 1 + 1 /\ b.toNat / 64 = 2)
  {rw [if_pos c2]
   by_cases c3 : a.toNat % 32 * 64 + b.toNat % 64 >= 128
   {refine absurd ?_ (hno ((a.toNat % 32 * 64 + b.toNat % 64 : Nat) : Int) r (by omega) (by omega) (Or.inl (by omega)))
    unfold Utf.bytes
    rw [if_neg (by omega), if_pos (by omega), Utf.Z0E (b := a) (by omega), Utf.Z0E (b := b) (by omega)]; rfl}
   {rw [if_neg c3]}}
  rw [if_neg c2]
  match r with
  | [] => rw [if_neg (fun x => by simp at x), if_neg (fun x => by simp at x)]
  | c :: r =>
   have lc := c.toNat_lt
   simp only [List.getD_cons_zero, List.getD_cons_succ, List.length_cons] at hno ⊢
   by_cases c4 : a.toNat / 16 = 14 /\ (1 < r.length + 1 + 1 + 1 /\ b.toNat / 64 = 2) /\ (2 < r.length + 1 + 1 + 1 /\ c.toNat / 64 = 2)
   {rw [if_pos c4]
    by_cases c5 : a.toNat % 16 * 4096 + b.toNat % 64 * 64 + c.toNat % 64 >= 2048 /\ (a.toNat % 16 * 4096 + b.toNat % 64 * 64 + c.toNat % 64 < 55296 \/ (57344 <= a.toNat % 16 * 4096 + b.toNat % 64 * 64 + c.toNat % 64 /\ a.toNat % 16 * 4096 + b.toNat % 64 * 64 + c.toNat % 64 <= 1114111))
    {refine absurd ?_ (hno ((a.toNat % 16 * 4096 + b.toNat % 64 * 64 + c.toNat % 64 : Nat) : Int) r (by omega) (by omega) (by omega))
     unfold Utf.bytes
     rw [if_neg (by omega), if_neg (by omega), if_pos (by omega), Utf.Z0E (b := a) (by omega), Utf.Z0E (b := b) (by omega), Utf.Z0E (b := c) (by omega)]; rfl}
    {rw [if_neg c5]}}
   rw [if_neg c4]
   match r with
   | [] => rw [if_neg (fun x => by simp at x)]
   | d :: r =>
    have ld := d.toNat_lt
    simp only [List.getD_cons_zero, List.length_cons] at hno ⊢
    by_cases c6 : a.toNat / 8 = 30 /\ (1 < r.length + 1 + 1 + 1 + 1 /\ b.toNat / 64 = 2) /\ (2 < r.length + 1 + 1 + 1 + 1 /\ c.toNat / 64 = 2) /\ (3 < r.length + 1 + 1 + 1 + 1 /\ d.toNat / 64 = 2)
    {rw [if_pos c6]
     by_cases c7 : a.toNat % 8 * 262144 + b.toNat % 64 * 4096 + c.toNat % 64 * 64 + d.toNat % 64 >= 65536 /\ (a.toNat % 8 * 262144 + b.toNat % 64 * 4096 + c.toNat % 64 * 64 + d.toNat % 64 < 55296 \/ (57344 <= a.toNat % 8 * 262144 + b.toNat % 64 * 4096 + c.toNat % 64 * 64 + d.toNat % 64 /\ a.toNat % 8 * 262144 + b.toNat % 64 * 4096 + c.toNat % 64 * 64 + d.toNat % 64 <= 1114111))
     {refine absurd ?_ (hno ((a.toNat % 8 * 262144 + b.toNat % 64 * 4096 + c.toNat % 64 * 64 + d.toNat % 64 : Nat) : Int) r (by omega) (by omega) (by omega))
      unfold Utf.bytes
      rw [if_neg (by omega), if_neg (by omega), if_neg (by omega), Utf.Z0E (b := a) (by omega), Utf.Z0E (b := b) (by omega), Utf.Z0E (b := c) (by omega), Utf.Z0E (b := d) (by omega)]; rfl}
     {rw [if_neg c7]}}
    rw [if_neg c6]
theorem ZaZ {l : List UInt8} (hne : l ≠ []) (h : Utf.first l = (0, 0)) : validD l = false := by
 match l, hne with
 | a :: r, hne =>
  have hd := Zd5 (a := a) (r := r) (fun p m hp e => by
   rw [e, Utf.Z0N p hp] at h
   have := Utf.Z0X p
   simp only [Prod.mk.injEq] at h
   omega)
  rw [validD_step _ hne, hd]
  rfl
theorem Z52 : ∀ {ps : List Int} {l rest : List UInt8}, Utf.Reads l ps rest -> (validD l = true ↔ rest = [])
 | [], l, rest, h => by
  obtain rfl : l = rest := by have := h.text; simpa [Utf.Z3O] using this
  by_cases hne : l = []
  {subst hne; simp [validD_nil]}
  {have := ZaZ hne h.none
   rw [this]; simp [hne]}
 | p :: ps, l, rest, h => by
  have ht : l = Utf.bytes p ++ (Utf.enc ps ++ rest) := by rw [h.text, Utf.Z0F, List.append_assoc]
  rw [ht, Z9m (h.pts p (by simp))]
  exact Z52 (ps := ps) (l := Utf.enc ps ++ rest) (rest := rest) ⟨fun x hx => h.pts x (by simp [hx]), rfl, h.none⟩
theorem Z9n (l : List UInt8) : validD l = valid l := by
 obtain ⟨ps, rest, h⟩ := Utf.reads l
 rw [Bool.eq_iff_iff, Z52 h, Z2B h]
end Tms
namespace Go.Proofs.YtnkdedejfonbmaaGreatDoor
open Go.RowKit
theorem Z6B {s : List UInt8} {i : Nat} (hi : i < s.length) (h : Tms.plainB (s[i]'hi) = false) : Tms.textOk s = false := by
 unfold Tms.textOk
 rw [Bool.and_eq_false_iff]
 left
 rw [List.all_eq_false]
 exact ⟨_, List.getElem_mem hi, by rw [h]; decide⟩
theorem Z6C {s : List UInt8} (h : ∀ j (hj : j < s.length), Tms.plainB (s[j]'hj) = true) : Tms.textOk s = Tms.valid s := by
 unfold Tms.textOk
 rw [show s.all Tms.plainB = true from by
  rw [List.all_eq_true]
  intro y hy
  obtain ⟨j, hj, rfl⟩ := List.getElem_of_mem hy
  exact h j hj]
 simp
theorem Z87 (s : List UInt8) (hs : s.length <= 9223372036854775807) (w : World) (hu8 : Z0l w) :
 Y9 82 #[.string ⟨s.toArray⟩] w (.bool (Tms.textOk s)) := by
 have hz : (⟨s.toArray⟩ : ByteArray).size = s.length := Z04 _
 have HV := Y1 (Z61 ⟨s.toArray⟩ w (by rw [hz]; exact hs) hu8)
 rw [show ((⟨s.toArray⟩ : ByteArray).data.toList) = s from rfl, Tms.Z9n] at HV
 clear hu8
 go_enter Tryz.func82, Tryz.ntmps82
 go_wp2_with fail
 go_loopw [6] (fun ii wr => ∃ i : Nat, ii = .int .i64 i /\ i <= s.length /\ Hid (∀ j (hj : j < s.length), j < i -> Tms.plainB (s[j]'hj) = true) /\ w = wr) (fun ii _ => s.length - (intOf ii).toNat)
 case atStart => exact ⟨0, rfl, Nat.zero_le _, Y1 (fun j _ hj => absurd hj (by omega)), rfl⟩
 case round =>
  obtain ⟨i, rfl, hi, HN, rfl⟩ := hrel
  by_cases hlt : i < s.length
  {have hi1 : (i : Int) < (s.length : Int) := by omega
   obtain ⟨c, hc⟩ : ∃ c, c = s[i]'hlt := ⟨_, rfl⟩
   have hidx : ∀ W, (Instr.index 9 (.string ⟨s.toArray⟩) (.int .i64 (i : Int))).run Tryz.prog W = .ok (.int .u8 c.toNat) W := fun W => by
    rw [hc]; exact Z0K ⟨s.toArray⟩ i (by rw [hz]; exact hlt) W
   have HC := Y1 hc
   clear hc
   have k9 : ((c.toNat : Int) == 9) = (c == 9) := Z2r c 9 (by decide)
   have k10 : ((c.toNat : Int) == 10) = (c == 10) := Z2r c 10 (by decide)
   have next : Tms.plainB c = true -> Hid (∀ j (hj : j < s.length), j < i + 1 -> Tms.plainB (s[j]'hj) = true) := fun h => Y1 (fun j hj hji => by
    rcases Nat.lt_succ_iff_lt_or_eq.1 hji with h1 | rfl
    {exact HN.out j hj h1}
    · rw [<- HC.out]; exact h)
   by_cases h32 : c.toNat < 32
   {have k32 : (c.toNat : Int) < 32 := by omega
    by_cases h9 : c = 9
    {have e9 : (c == 9) = true := by simpa using h9
     have b9 : ((c.toNat : Int) != 9) = false := by unfold bne; rw [k9, e9]; rfl
     have HP := next (by rw [Tms.Z1t]; exact fun h => h.2.1 h9)
     rw [e9] at k9
     clear next h9 e9 h32
     go_wp2
     go_roundw
     case rel => exact ⟨i + 1, by go_num, by omega, HP, trivial⟩
     case measure => simp [intOf]; omega}
    {have e9 : (c == 9) = false := by simpa using h9
     have b9 : ((c.toNat : Int) != 9) = true := by unfold bne; rw [k9, e9]; rfl
     rw [e9] at k9
     by_cases h10 : c = 10
     {have e10 : (c == 10) = true := by simpa using h10
      have b10 : ((c.toNat : Int) != 10) = false := by unfold bne; rw [k10, e10]; rfl
      have HP := next (by rw [Tms.Z1t]; exact fun h => h.2.2 h10)
      rw [e10] at k10
      clear next h9 e9 h10 e10 h32
      go_wp2
      go_roundw
      case rel => exact ⟨i + 1, by go_num, by omega, HP, trivial⟩
      case measure => simp [intOf]; omega}
     {have e10 : (c == 10) = false := by simpa using h10
      have b10 : ((c.toNat : Int) != 10) = true := by unfold bne; rw [k10, e10]; rfl
      rw [e10] at k10
      have HF : Hid (Tms.textOk s = false) := Y1 (Z6B hlt (by
       rw [<- HC.out]
       cases e : Tms.plainB c with
       | false => rfl
       | true => exact absurd ⟨h32, h9, h10⟩ ((Tms.Z1t c).1 e)))
      clear next h9 e9 h10 e10 h32
      go_wp2
      go_ret
      exact ⟨Z03 HF.out.symm, Below.refl _ _⟩}}}
   {have k32 : ¬ (c.toNat : Int) < 32 := by omega
    have HP := next (by rw [Tms.Z1t]; exact fun h => h32 h.1)
    clear next h32
    go_wp2
    go_roundw
    case rel => exact ⟨i + 1, by go_num, by omega, HP, trivial⟩
    case measure => simp [intOf]; omega}}
  {have hi1 : ¬ (i : Int) < (s.length : Int) := by omega
   have HT : Hid (Tms.textOk s = Tms.valid s) := Y1 (Z6C (fun j hj => HN.out j hj (by omega)))
   go_wp2_with fail
   refine HV.out.mono ?_
   rintro e w' ⟨rfl, hb⟩
   go_wp2
   go_ret
   exact ⟨Z03 HT.out.symm, hb⟩}
end Go.Proofs.YtnkdedejfonbmaaGreatDoor
namespace Go.Proofs.YtnkdedejfonbmaaGreatDoor
open Go.RowKit Tms
open Shp (Sh)
theorem Zb0 (t : Tm) (q : TP) (w : World) (hl : t.of_.length <= 9223372036854775807) :
 Y9 55 #[.agg (Y7 t q)] w (.bool (ofB t)) := by
 have HF : Hid (ofB t = (t.of_ == [] || (t.kind == 5 && Lex.isName t.of_))) := Y1 rfl
 have HB0 := Y1 (Z02 w (.cells (Y7 t q) 26))
 have HN := fun W => Z0L t.of_ hl W
 obtain ⟨_, ⟨c0, c1, c2, c3, c4, c5, c6, c7, c8⟩, _⟩ := Z07 w t q
 cases h0 : (t.of_ == [])
 {have hoe := Z0o h0
  cases h1 : (t.kind == 5)
  {rw [h0, h1] at HF
   clear h0
   go_enter Tryz.func55, Tryz.ntmps55
   go_wp2
   go_ret
   exact ⟨Z03 HF.out.symm, HB0.out⟩}
  {rw [h0, h1] at HF
   clear h0
   go_enter Tryz.func55, Tryz.ntmps55
   go_wp2_with fail
   refine (HN _).mono ?_
   rintro e w' ⟨rfl, rfl⟩
   go_wp2
   go_ret
   exact ⟨Z03 (by rw [HF.out]; rfl), HB0.out⟩}}
 {have hoe := Z0o h0
  rw [h0] at HF
  clear h0
  go_enter Tryz.func55, Tryz.ntmps55
  go_wp2
  go_ret
  exact ⟨Z03 HF.out.symm, HB0.out⟩}
theorem Z88 (t : Tm) (q : TP) (w : World) (hl : t.name.length <= 9223372036854775807) (hu8 : Z0l w) :
 Calls Tryz.prog 56 #[.agg #[.int .i64 t.kind, .string ⟨t.of_.toArray⟩, .string ⟨t.name.toArray⟩, .int .i64 t.n, .slice q.A t.names.length q.c, .slice q.V t.vars.length q.e, .slice q.S t.shapes.length q.s, .slice q.P t.parts.length q.d, .int .i64 t.at_]] w fun e w' => e = .returned (.bool (nameB t)) /\ Below w.heap.size w w' := by
 have hb0 := Z02 w (.cells #[.int .i64 t.kind, .string ⟨t.of_.toArray⟩, .string ⟨t.name.toArray⟩, .int .i64 t.n, .slice q.A t.names.length q.c, .slice q.V t.vars.length q.e, .slice q.S t.shapes.length q.s, .slice q.P t.parts.length q.d, .int .i64 t.at_] 26)
 have HB0 := Y1 hb0
 have HN := fun W => Z0L t.name hl W
 have HU := fun W => Z1f t.name hl W
 have HQ := Z87 t.name hl _ (hu8.next hb0)
 obtain ⟨_, ⟨c0, c1, c2, c3, c4, c5, c6, c7, c8⟩, _⟩ := Z07 w t q
 by_cases k2 : t.kind = 2
 {have HF : Hid (nameB t = textOk t.name) := Y1 (by unfold nameB; rw [if_pos k2])
  have e2 := Y4 2 k2 rfl
  clear k2 hb0
  go_enter Tryz.func56, Tryz.ntmps56
  go_wp2_with fail
  refine HQ.mono ?_
  rintro e w' ⟨rfl, hb⟩
  go_wp2
  go_ret
  exact ⟨Z03 HF.out.symm, Z00 HB0.out hb⟩}
 have e2 : (t.kind == 2) = false := by simpa using k2
 by_cases k5 : t.kind = 5 \/ t.kind = 9 \/ t.kind = 10 \/ t.kind = 14
 {have HF : Hid (nameB t = Lex.isName t.name) := Y1 (by unfold nameB; rw [if_neg k2, if_pos k5])
  rcases k5 with k | k | k | k
  all_goals
   rw [k] at c0
   rw [k]
   clear k k2 e2 hb0
   go_enter Tryz.func56, Tryz.ntmps56
   go_wp2_with fail
   refine (HN _).mono ?_
   rintro e w' ⟨rfl, rfl⟩
   go_wp2
   go_ret
   exact ⟨Z03 HF.out.symm, Z02 _ _⟩}
 by_cases k16 : t.kind = 16 \/ t.kind = 17
 {have HF : Hid (nameB t = Lex.isUpper t.name) := Y1 (by unfold nameB; rw [if_neg k2, if_neg k5, if_pos k16])
  clear k5
  rcases k16 with k | k
  all_goals
   rw [k] at c0
   rw [k]
   clear k k2 e2 hb0
   go_enter Tryz.func56, Tryz.ntmps56
   go_wp2_with fail
   refine (HU _).mono ?_
   rintro e w' ⟨rfl, rfl⟩
   go_wp2
   go_ret
   exact ⟨Z03 HF.out.symm, Z02 _ _⟩}
 {have HF : Hid (nameB t = (t.name == [])) := Y1 (by unfold nameB; rw [if_neg k2, if_neg k5, if_neg k16])
  have e5 : (t.kind == 5) = false := by simp; omega
  have e9 : (t.kind == 9) = false := by simp; omega
  have e10 : (t.kind == 10) = false := by simp; omega
  have e14 : (t.kind == 14) = false := by simp; omega
  have e16 : (t.kind == 16) = false := by simp; omega
  have e17 : (t.kind == 17) = false := by simp; omega
  clear k2 k5 k16 hb0
  cases h0 : (t.name == [])
  all_goals
   have hoe := Z0o h0
   rw [h0] at HF
   clear h0
   go_enter Tryz.func56, Tryz.ntmps56
   go_wp2
   go_ret
   exact ⟨Z03 HF.out.symm, HB0.out⟩}
end Go.Proofs.YtnkdedejfonbmaaGreatDoor
