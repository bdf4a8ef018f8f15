/- TermsChecks: any tree may be an expression, or not, and has as many parts, as the document says; for all values of a bulk of at most 1048576 that the row lets in, with the program's variables laid as their texts lay them. -/
import Derived.Test.YtnkdedejfonbmaaGreatDoorRows
import Derived.WalkKit
import Derived.ProofKit
import Derived.OpenShut
import Derived.ShutString
import Derived.SizedLaws
import Derived.ChangeOld
import Derived.Below
import Derived.JoinedCond
import Derived.Test.YtnkdedejfonbmaaGreatDoorTie
import Derived.Test.YtnkdedejfonbmaaGreatDoorCards
import Derived.LaidMore
import Derived.Lay
import Derived.SevenTiedAt
import Derived.Deep.RegionHeld3
import Derived.Test.YtnkdedejfonbmaaGreatDoorK0n23
import Derived.Test.YtnkdedejfonbmaaGreatDoorK8n2
import Derived.Test.YtnkdedejfonbmaaGreatDoorK3n0
set_option linter.unusedVariables false
set_option linter.unusedSimpArgs false
set_option maxRecDepth 100000
set_option maxHeartbeats 16000000
namespace Go.Proofs.YtnkdedejfonbmaaGreatDoor
open Go.RowKit Tms
def chkT (t : Tm) (q : TP) (k : Int) (z : Nat) : Nat -> Want
 | 0 => .val (.agg (Y7 t q))
 | 1 => .val (.int .i64 k)
 | 2 => .val (.agg (Y7 t q))
 | 3 => .val (.int .i64 k)
 | 4 => .val (.bool true)
 | 5 => .val (.bool true)
 | 6 => .val (.agg (Y7 t q))
 | 7 => .val (.int .i64 (z : Int))
 | 8 => .val (.agg (Y7 t q))
 | 9 => .val (.int .i64 (z : Int))
 | 10 => .val (.bool true)
 | 11 => .val (.bool true)
 | 12 => .val (.bool true)
 | 13 => .val (.bool true)
 | 14 => .val (.bool true)
 | 15 => .val (.bool true)
 | _ => .any
theorem Z65 (t : Tm) (q : TP) (w : World) (hq : TmAt w w.heap.size q t) (ht : tame t = true) (hG : Globs w) (hg : WGlobs w) (hu : Z0l w) :
 Y9 3 #[.agg (Y7 t q)] w (.bool true) := by
 have hb0 := Z02 w (.cells (Y7 t q) 26)
 have HB := Y1 (Z07 w t q)
 have HB0 := Y1 hb0
 have HC := Y1 (fun (W : World) (h : Below w.heap.size w W) => Z0j t q W (hq.next h) (hg.next h) (hu.next h) (Z09 ht))
 have HR := Y1 (fun (W : World) (h : Below w.heap.size w W) => Z2I t q W (hq.next h) ht)
 have HS := Y1 (fun (W : World) (h : Below w.heap.size w W) => Z1y t q W (hq.next h))
 have HT := Y1 (fun (W : World) (h : Below w.heap.size w W) => Z6J t q 4096 W (hq.next h) (by omega))
 have HW := Y1 (fun (W : World) (h : Below w.heap.size w W) => Z0J W (hG.next h) (hg.next h) (hu.next h))
 rw [show ((4096 : Nat) : Int) = (4096 : Int) from rfl] at HT
 clear hb0 hq ht hG hg hu
 obtain ⟨k, hk⟩ : ∃ k, k = Tms.check t := ⟨_, rfl⟩
 obtain ⟨z, hz⟩ : ∃ z, z = sizeTo 4096 t := ⟨_, rfl⟩
 rw [<- hk] at HC HR
 rw [<- hz] at HS HT
 clear hk hz
 go_enter Tryz.func3, Tryz.ntmps3
 go_upto_region 1 with fail
 generalize w.alloc (.cells (Y7 t q) 26) = W0 at HB HB0 ⊢
 try go_wp2_with fail
 refine Z0p (rs := [0, 1, 2, 3, 4, 5, 6, 7, 8, 9, 10, 11, 12, 13, 14, 15])
  (fun u' => { tmps := #[.agg (Y7 t q), .pointer (some ⟨w.heap.size, 0, none⟩), u' 15, u' 0, u' 1, u' 2, u' 3, u' 4, u' 5, u' 6, u' 7, u' 8, u' 9, u' 10, u' 11, u' 12, u' 13, u' 14], defers := [] })
  (fun j => ([undef, undef, undef, undef, undef, undef, undef, undef, undef, undef, undef, undef, undef, undef, undef, .bool false] : List Value).getD j undef) (chkT t q k z) (fun W => Below W0.heap.size W0 W) (by kernel_rfl) (by kernel_rfl) (by kernel_rfl) Y2.drew ?_ ?_
 refine StepsAt.cons _ rfl (fun u' W K' hJ hd hK => ?_) ?_
 {obtain ⟨_, ⟨y0, y1, y2, y3, y4, y5, y6, y7, y8⟩, _⟩ := HB.out.next hJ
  simp only [Nat.zero_add] at y0 y1 y2 y3 y4 y5 y6 y7 y8
  refine Y0 hK hJ rfl rfl rfl ?_
  try dsimp only
  go_simp}
 refine StepsAt.cons _ rfl (fun u' W K' hJ hd hK => ?_) ?_
 {have d0 : _ = _ := hd 0 (by kernel_rfl)
  refine Z05 (f := 8) (args := #[.agg (Y7 t q)]) (W' := W) rfl ?_ ((HC.out W (Z00 HB0.out hJ)).mono fun e w' h => ⟨_, h.1, hK.out _ _ rfl (Z00 hJ h.2) h.2⟩)
  try dsimp only
  go_simp}
 refine StepsAt.cons _ rfl (fun u' W K' hJ hd hK => ?_) ?_
 {obtain ⟨_, ⟨y0, y1, y2, y3, y4, y5, y6, y7, y8⟩, _⟩ := HB.out.next hJ
  simp only [Nat.zero_add] at y0 y1 y2 y3 y4 y5 y6 y7 y8
  refine Y0 hK hJ rfl rfl rfl ?_
  try dsimp only
  go_simp}
 refine StepsAt.cons _ rfl (fun u' W K' hJ hd hK => ?_) ?_
 {have d2 : _ = _ := hd 2 (by kernel_rfl)
  refine Z05 (f := 9) (args := #[.agg (Y7 t q)]) (W' := W) rfl ?_ ((HR.out W (Z00 HB0.out hJ)).mono fun e w' h => ⟨_, h.1, hK.out _ _ rfl (Z00 hJ h.2) h.2⟩)
  try dsimp only
  go_simp}
 refine StepsAt.cons _ rfl (fun u' W K' hJ hd hK => ?_) ?_
 {have d1 : _ = _ := hd 1 (by kernel_rfl)
  have d3 : _ = _ := hd 3 (by kernel_rfl)
  refine Y0 hK hJ rfl rfl rfl ?_
  try dsimp only
  go_simp}
 refine StepsAt.cons _ rfl (fun u' W K' hJ hd hK => ?_) ?_
 {have d4 : _ = _ := hd 4 (by kernel_rfl)
  refine Y0 hK hJ rfl rfl rfl ?_
  try dsimp only
  go_simp}
 refine StepsAt.cons _ rfl (fun u' W K' hJ hd hK => ?_) ?_
 {have dg : _ = _ := hd 5 (by kernel_rfl)
  obtain ⟨_, ⟨y0, y1, y2, y3, y4, y5, y6, y7, y8⟩, _⟩ := HB.out.next hJ
  simp only [Nat.zero_add] at y0 y1 y2 y3 y4 y5 y6 y7 y8
  refine Y0 hK hJ rfl rfl ?_ ?_
  {simp [Region.wanted, yielded, dg]}
  {try dsimp only
   go_simp}}
 refine StepsAt.cons _ rfl (fun u' W K' hJ hd hK => ?_) ?_
 {have dg : _ = _ := hd 5 (by kernel_rfl)
  have d6 : _ = _ := hd 6 (by kernel_rfl)
  refine Z05 (f := 10) (args := #[.agg (Y7 t q)]) (W' := W) ?_ ?_ ((HS.out W (Z00 HB0.out hJ)).mono fun e w' h => ⟨_, h.1, hK.out _ _ rfl (Z00 hJ h.2) h.2⟩)
  {simp [Region.wanted, yielded, dg]}
  {try dsimp only
   go_simp}}
 refine StepsAt.cons _ rfl (fun u' W K' hJ hd hK => ?_) ?_
 {have dg : _ = _ := hd 5 (by kernel_rfl)
  obtain ⟨_, ⟨y0, y1, y2, y3, y4, y5, y6, y7, y8⟩, _⟩ := HB.out.next hJ
  simp only [Nat.zero_add] at y0 y1 y2 y3 y4 y5 y6 y7 y8
  refine Y0 hK hJ rfl rfl ?_ ?_
  {simp [Region.wanted, yielded, dg]}
  {try dsimp only
   go_simp}}
 refine StepsAt.cons _ rfl (fun u' W K' hJ hd hK => ?_) ?_
 {have dg : _ = _ := hd 5 (by kernel_rfl)
  have d8 : _ = _ := hd 8 (by kernel_rfl)
  refine Z05 (f := 11) (args := #[.agg (Y7 t q), .int .i64 4096]) (W' := W) ?_ ?_ ((HT.out W (Z00 HB0.out hJ)).mono fun e w' h => ⟨_, h.1, hK.out _ _ rfl (Z00 hJ h.2) h.2⟩)
  {simp [Region.wanted, yielded, dg]}
  {try dsimp only
   go_simp}}
 refine StepsAt.cons _ rfl (fun u' W K' hJ hd hK => ?_) ?_
 {have dg : _ = _ := hd 5 (by kernel_rfl)
  have d7 : _ = _ := hd 7 (by kernel_rfl)
  have d9 : _ = _ := hd 9 (by kernel_rfl)
  refine Y0 hK hJ rfl rfl ?_ ?_
  {simp [Region.wanted, yielded, dg]}
  {try dsimp only
   go_simp}}
 refine StepsAt.cons _ rfl (fun u' W K' hJ hd hK => ?_) ?_
 {have d5 : _ = _ := hd 5 (by kernel_rfl)
  have d10 : _ = _ := hd 10 (by kernel_rfl)
  refine Y0 hK hJ rfl rfl rfl ?_
  try dsimp only
  go_simp}
 refine StepsAt.cons _ rfl (fun u' W K' hJ hd hK => ?_) ?_
 {have d11 : _ = _ := hd 11 (by kernel_rfl)
  refine Y0 hK hJ rfl rfl rfl ?_
  try dsimp only
  go_simp}
 refine StepsAt.cons _ rfl (fun u' W K' hJ hd hK => ?_) ?_
 {have dg : _ = _ := hd 12 (by kernel_rfl)
  refine Z05 (f := 12) (args := #[]) (W' := W) ?_ ?_ ((HW.out W (Z00 HB0.out hJ)).mono fun e w' h => ⟨_, h.1, hK.out _ _ rfl (Z00 hJ h.2) h.2⟩)
  {simp [Region.wanted, yielded, dg]}
  {try dsimp only
   go_simp}}
 refine StepsAt.cons _ rfl (fun u' W K' hJ hd hK => ?_) ?_
 {have d12 : _ = _ := hd 12 (by kernel_rfl)
  have d13 : _ = _ := hd 13 (by kernel_rfl)
  refine Y0 hK hJ rfl rfl rfl ?_
  try dsimp only
  go_simp}
 refine StepsAt.cons _ rfl (fun u' W K' hJ hd hK => ?_) StepsAt.nil
 {have d14 : _ = _ := hd 14 (by kernel_rfl)
  refine Y0 hK hJ rfl rfl rfl ?_
  try dsimp only
  go_simp}
 intro u' W5 hJ hok
 have eL : u' 15 = .bool true := hok 15 (by decide)
 try dsimp only
 rw [eL]
 have HBX := Y1 (Z00 HB0.out hJ)
 clear hok eL hJ
 go_wp2
 go_ret
 exact ⟨rfl, HBX.out⟩
end Go.Proofs.YtnkdedejfonbmaaGreatDoor
namespace Go.Proofs.YtnkdedejfonbmaaGreatDoor.termsChecks
open Go.ChangeShapes Go.WideShapes Go.ChangeAt Go.RowKit
open Go.ChangeMaps (open_string shut_string)
theorem own : ownKnob Tryz.prog.godebug = none := by kernel_rfl
theorem laidOut : laidOutB Tryz.prog = true := by kernel_rfl
theorem contract (H : Type) (enc : TypeId × Value -> H) (W : World) (base : Nat) (args : Array Value) (ds gs : List (DataW H)) (before : List MemPlace)
 (hval : ∀ (j : Nat) t v, Tryz.f3.params[j]? = some t -> args[j]? = some v -> Value.okWide Tryz.prog W .any base t v)
 (hW : DataW.Whole enc Tryz.prog Tryz.f3.params.toList Rows.termsChecksSpec.vars false W args.toList ds gs before) (hL : laidMetH Tryz.prog Rows.termsChecksUptoRow.laid W) (hk : Rows.uptoSmall H (ds ++ gs) = true)
 (hsz : (DataW.weightsEach Tryz.prog (Tryz.f3.params.toList ++ Rows.termsChecksSpec.plain.varTypes Tryz.prog) (ds ++ gs)).all (· <= reachBytes) = true) :
 Calls Tryz.prog 3 args W fun e W' => ∃ v, e = .returned v /\ Rows.termsChecksSpec.post enc Tryz.prog Tryz.f3 false true false false W args v W' := by
 have hW' := hW
 obtain ⟨p, q, hA0, hV, rfl, hfz, hnd⟩ := hW
 have hA : DataW.TrodAll enc Tryz.prog W 0 (fun _ => true) true Tryz.f3.params.toList args.toList ds p := hA0
 rw [Tryz.params3] at hA hval hsz
 obtain ⟨v0, vs0, d0, ds0, p0, q0, hargs, rfl, rfl, h0, t0⟩ := trodAll_cons hA
 obtain ⟨rfl, rfl, rfl⟩ := trodAll_nil t0
 obtain rfl : args = #[v0] := by cases args; simp_all
 obtain ⟨rfl, rfl⟩ := trodVars_none hV
 simp only [List.append_nil] at hk
 have hbulk : Rows.uptoBulkAll (H := H) _ <= 1048576 := of_decide_eq_true hk
 simp only [Rows.uptoBulkAll] at hbulk
 have k0 := h0
 have lt0 : ∀ x ∈ p0, x.block < W.heap.size := by obtain ⟨m, hm⟩ := k0; exact DataW.trod_lt m _ _ _ hm
 obtain ⟨u0, y0, rfl, S0, b0⟩ := Z2J (hval 0 26 v0 rfl rfl) h0
 have t0 : Tms.tame u0 = true := Z37 b0 (by omega)
 clear hA0
 rw [MakeChecks.laidMetH_plain _ _ _ (by kernel_rfl)] at hL
 have g0 : Globs W := Z3j hL (List.Mem.tail _ (List.Mem.tail _ (List.Mem.tail _ (List.Mem.tail _ (List.Mem.tail _ (List.Mem.head _)))))) (List.Mem.tail _ (List.Mem.tail _ (List.Mem.tail _ (List.Mem.tail _ (List.Mem.head _))))) (List.Mem.tail _ (List.Mem.tail _ (List.Mem.head _)))
 have g1 : WGlobs W := Z2M hL (List.Mem.tail _ (List.Mem.tail _ (List.Mem.tail _ (List.Mem.tail _ (List.Mem.tail _ (List.Mem.tail _ (List.Mem.head _)))))))
 have g2 : Z0l W := Z2k hL (List.Mem.tail _ (List.Mem.tail _ (List.Mem.tail _ (List.Mem.tail _ (List.Mem.tail _ (List.Mem.tail _ (List.Mem.tail _ (List.Mem.head _)))))))) (List.Mem.tail _ (List.Mem.tail _ (List.Mem.tail _ (List.Mem.head _))))
 refine (Z65 u0 y0 W S0 t0 g0 g1 g2).mono fun e W' ⟨he, bel⟩ => ?_
 subst he
 exact ⟨_, rfl, _, _, _, [], _, [], hW', trodAll_mk1 (shut_bool Tryz.underlying4 _), (trodAll_cons_mk (Below.trod laidOut (by kernel_rfl) (of_decide_eq_true (by kernel_rfl)) k0 bel lt0) trodAll_mk0), rfl, bel.frame _, fun h => by cases h⟩
theorem reads (os : Os) {H : Type} (enc : TypeId × Value -> H) : ∃ places, DataW.whole enc Tryz.prog ((World.laidAll Tryz.prog os Rows.termsChecksUptoRow.laid).forCall (fun _ _ => 0) ⟨#[], #[(.agg #[.int .i64 0, .string ByteArray.empty, .string ByteArray.empty, .int .i64 0, .slice none 0 0, .slice none 0 0, .slice none 0 0, .slice none 0 0, .int .i64 0])], []⟩).memory Tryz.f3.params.toList Rows.termsChecksSpec.vars false #[(.agg #[.int .i64 0, .string ByteArray.empty, .string ByteArray.empty, .int .i64 0, .slice none 0 0, .slice none 0 0, .slice none 0 0, .slice none 0 0, .int .i64 0])].toList 8 = some ([.agg [.lit (.int .i64 0), .lit (.string []), .lit (.string []), .lit (.int .i64 0), .nil, .nil, .nil, .nil, .lit (.int .i64 0)]], [], places) :=
 ⟨[], by kernel_rfl⟩
theorem lifted (os : Os) (started : os.Started) (H : Type) (enc : TypeId × Value -> H) (F : Stop.Interp) :
 ReturnsInHanded {} Tryz.checked os 3 .any ((Rows.OpenSpec.upto Rows.termsChecksSpec).preRow enc Tryz.prog Tryz.f3 Rows.termsChecksUptoRow.domain false Rows.termsChecksUptoRow.laid) (((Rows.OpenSpec.upto Rows.termsChecksSpec).at F).post enc Tryz.prog Tryz.f3 false true false false) := by
 obtain ⟨places, hx⟩ := reads os enc
 refine returnsInHanded_of_row (C := Tryz.checked) (s := Rows.OpenSpec.upto Rows.termsChecksSpec) own started (by kernel_rfl) Tryz.func3
  (Z15 (enc := enc) (C := Tryz.checked) (s := Rows.OpenSpec.upto Rows.termsChecksSpec) false (World.laidAll Tryz.prog os Rows.termsChecksUptoRow.laid) #[(.agg #[.int .i64 0, .string ByteArray.empty, .string ByteArray.empty, .int .i64 0, .slice none 0 0, .slice none 0 0, .slice none 0 0, .slice none 0 0, .int .i64 0])] (World.laidAll_os _ _ _)
   (World.shaped_of_ZipB (by kernel_rfl) (by kernel_rfl)) (by kernel_rfl)
   (OpenSpec.preRow_of_cond 8 hx (by kernel_rfl) (fun k hk => by cases hk; kernel_rfl) (by kernel_rfl)
    (by rw [MakeChecks.laidMetH_plain _ _ _ (by kernel_rfl)]; exact laidMet_laidAll _ (by kernel_rfl) (by kernel_rfl)))) ?_
 intro W base args ds gs before hval hW _ hcond hsz hL _ _
 exact contract H enc W base args ds gs before hval hW hL (hcond _ rfl) hsz
theorem proved : Rows.TermsChecksUptoSaid :=
 OpenClaim.holds_of_cond 3 Tryz.f3 rfl rfl rfl rfl rfl rfl rfl ⟨rfl, rfl, rfl, rfl, rfl⟩ rfl rfl rfl rfl rfl (by kernel_rfl) Tryz.func3 (by kernel_rfl)
  (of_decide_eq_true (by kernel_rfl)) (by unfold Func.isWrapper; first | (rw [if_pos (by decide +kernel)]; kernel_rfl) | (rw [if_neg (by decide +kernel)]; exact ⟨rfl, rfl⟩))
  (fun os started H enc _ F => by rw [OpenClaim.pre_eq_preRow]; exact lifted os started H enc F)
theorem card : Rows.TermsChecksUptoCardSaid :=
 Claim7.holds_tied_plain_at .later [] _ _ _ _ proved (fun _ h => by cases h) (by kernel_rfl) (fun _ h => by cases h) termsChecksUpto_row_tie rfl ⟨rfl, rfl⟩ (by kernel_rfl) rfl
  (fun f fn hf hfn => by
   obtain rfl : f = 3 := Option.some.inj ((show Tryz.prog.funcNamed "pandect/pandectlaw08.TermsChecks" = some 3 by kernel_rfl).symm.trans hf) |>.symm
   obtain rfl : fn = Tryz.f3 := (Option.some.inj (Tryz.func3.symm.trans hfn)).symm
   exact ⟨by kernel_rfl, fun j t ht => by
    rw [Tryz.params3] at ht
    have hm : t ∈ [26] := by simpa using Array.mem_of_getElem? ht
    have hall : ([26].all fun u => !Tryz.prog.wantsStandIn u) = true := by kernel_rfl
    exact (show Tryz.prog.wantsStandIn t = false by simpa using List.all_eq_true.1 hall t hm)⟩)
  (by kernel_rfl)
end Go.Proofs.YtnkdedejfonbmaaGreatDoor.termsChecks
