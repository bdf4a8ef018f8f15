/- What the proofs of TermsBare, TermsChecks, TermsDeep, TermsSame, TermsSames want, part 6. -/
import Derived.Maps.OwnSet
import Derived.StillTailTactics
import Derived.Deep.RegionHeld3
import Derived.Test.YtnkdedejfonbmaaGreatDoorK0n5
import Derived.Test.YtnkdedejfonbmaaGreatDoorK0n4
set_option linter.unusedVariables false
set_option linter.unusedSimpArgs false
set_option maxRecDepth 100000
set_option maxHeartbeats 16000000
namespace Go.Proofs.YtnkdedejfonbmaaGreatDoor
open Go.RowKit Shp
theorem Ze8 {w : World} {P : Option Addr} {l : List Sh} (h : Z4d w P l) (n : Nat) : Z4d w P (l.take n) := by
 obtain ⟨g, off, qs, h⟩ := h
 rcases h with h | ⟨h1, h2, h3, h4⟩
 {exact ⟨g, off, qs, Or.inl (by rw [List.length_take]; omega)⟩}
 {refine ⟨g, off, qs, Or.inr ⟨h1, h2, fun i hi => ?_, fun i hi => ?_⟩⟩
  {rw [List.getElem_take]; exact h3 i (by rw [List.length_take] at hi; omega)}
  {rw [List.getElem_take]; exact h4 i (by rw [List.length_take] at hi; omega)}}
def wantTx (m : Nat) (ts : List (List UInt8)) : Want := ⟨fun v W => ∃ g, v = .slice (some ⟨g, 0, none⟩) m m /\ TxR W g ts, fun v w w' hb ⟨g, hv, h⟩ => ⟨g, hv, h.next hb⟩⟩
def w8T (b g off n m d : Nat) (ts : List (List UInt8)) (j tx : List UInt8) (x : Sh) (qx : Ptr) : Nat -> Want
 | 0 => .val (.pointer (some ⟨b, 4, none⟩))
 | 1 => .val (.slice (some ⟨g, off, none⟩) n d)
 | 2 => .val (.int .i64 ((n : Int) - 1))
 | 3 => .val (.slice (some ⟨g, off, none⟩) m d)
 | 4 => wantTx m ts
 | 5 => .val (.string ⟨j.toArray⟩)
 | 6 => .val (.string ((⟨#[40]⟩ : ByteArray) ++ (⟨j.toArray⟩ : ByteArray)))
 | 7 => .val (.string ((⟨#[40]⟩ : ByteArray) ++ (⟨j.toArray⟩ : ByteArray) ++ (⟨#[41, 32, 45, 62, 32]⟩ : ByteArray)))
 | 8 => .val (.pointer (some ⟨b, 4, none⟩))
 | 9 => .val (.slice (some ⟨g, off, none⟩) n d)
 | 10 => .val (.int .i64 ((n : Int) - 1))
 | 11 => .val (.pointer (some ⟨g, off + m * 5, none⟩))
 | 12 => .val (.agg (Y8 x qx))
 | 13 => .val (.string ⟨tx.toArray⟩)
 | 14 => .val (.string ((⟨#[40]⟩ : ByteArray) ++ (⟨j.toArray⟩ : ByteArray) ++ (⟨#[41, 32, 45, 62, 32]⟩ : ByteArray) ++ (⟨tx.toArray⟩ : ByteArray)))
 | 15 => .val (.string ((⟨#[40]⟩ : ByteArray) ++ (⟨j.toArray⟩ : ByteArray) ++ (⟨#[41, 32, 45, 62, 32]⟩ : ByteArray) ++ (⟨tx.toArray⟩ : ByteArray)))
 | _ => .any
theorem Ze9 (t : Sh) (q : Ptr) (w : World) (hq : ShAt w w.heap.size q t) (hg : WGlobs w) (hr : right t = true) (hz : size t <= 400) (hf : Wr7 t) (hk : t.kind = 8) :
 Y9 107 #[.agg (Y8 t q)] w (.string ⟨(text t).toArray⟩) := by
 have hb0 := Z02 w (.cells (Y8 t q) 45)
 have HB := Y1 (Z0c w t q)
 have HB0 := Y1 hb0
 obtain ⟨_, ⟨c0, c1, c2, c3, c4⟩, _⟩ := HB.out
 have k5 := Y3 5 hk rfl
 have k6 := Y3 6 hk rfl
 have k7 := Y3 7 hk rfl
 have k8 := Y4 8 hk rfl
 have HT := Y1 (Z5t hk)
 have h1 : 1 <= t.parts.length := by
  rcases Z1d (right_fits hr) with ⟨_, h, _⟩ | ⟨h, _⟩ | ⟨h, _⟩ | ⟨_, _, h⟩ | ⟨h, _⟩
  {omega}
  {omega}
  {omega}
  {exact h}
  {omega}
 have hlp : t.parts.length <= 400 := by have := length_sizes t.parts; rw [size_eq] at hz; omega
 obtain ⟨m, hm⟩ : ∃ m, t.parts.length = m + 1 := ⟨t.parts.length - 1, by omega⟩
 obtain ⟨x, hx⟩ : ∃ x, x = t.parts[m]'(by omega) := ⟨_, rfl⟩
 have hxm : x ∈ t.parts := by rw [hx]; exact List.getElem_mem _
 obtain ⟨g, off, qs, hP⟩ := hq.lies
 rcases hP with h0 | ⟨hqP, hgl, hc, hrr⟩
 {omega}
 have HX5 : Hid (Sh5 w g (off + m * 5) x (qs m)) := Y1 (by rw [hx]; exact hc m (by omega))
 have HXA : Hid (ShAt w w.heap.size (qs m) x) := Y1 (by rw [hx]; exact hrr m (by omega))
 obtain ⟨ts, hts⟩ : ∃ ts, ts = (t.parts.take m).map text := ⟨_, rfl⟩
 have hdl : (t.parts.map text).dropLast = ts := by
  rw [hts, List.dropLast_eq_take, List.length_map, hm, Nat.add_sub_cancel, List.map_take]
 have hla : (t.parts.map text).getLastD [] = text x := by
  rw [List.getLastD_eq_getLast?, List.getLast?_eq_getElem?, List.length_map, hm, Nat.add_sub_cancel, List.getElem?_map, List.getElem?_eq_getElem (by omega), hx]; rfl
 have htl : ts.length = m := by rw [hts, List.length_map, List.length_take]; omega
 have htt := Z2D (l := t.parts) (fun p hp => text_len (right_part hr hp))
 have hjl : (join [44, 32] ts).length <= 1000000 := by
  have h2 := join_len [44, 32] ts
  have h3 := Z47 (t.parts.map text) m
  rw [<- List.map_take, <- hts] at h3
  have : sizes t.parts <= 400 := by rw [size_eq] at hz; omega
  simp only [List.length_cons, List.length_nil] at h2
  omega
 have hxl : (text x).length <= 1000000 := by
  have := Z1H (right_part hr hxm) (by have := sizes_mem hxm; rw [size_eq] at hz; omega)
  omega
 have HE := Y1 (fun (W : World) (h : Below w.heap.size w W) => Z6g q.P q.d (t.parts.take m) W (Ze8 ((hq.next h).lies) m) (by rw [List.length_take]; omega) (hg.next h) (fun x hx => hf x (List.mem_of_mem_take hx)))
 have htk : (t.parts.take m).length = m := by rw [List.length_take]; omega
 rw [htk, <- hts, hqP] at HE
 have HJ := Y1 (fun (G : Nat) (W : World) (h : TxR W G ts) => Z4e G ts [44, 32] W h (by omega) hjl)
 rw [htl] at HJ
 have HWX := Y1 (fun (W : World) (h : Below w.heap.size w W) => hf x hxm (qs m) W (HXA.out.next h) (hg.next h))
 rw [hdl, hla] at HT
 obtain ⟨j, hj⟩ : ∃ j, j = join [44, 32] ts := ⟨_, rfl⟩
 obtain ⟨tx, htx⟩ : ∃ tx, tx = text x := ⟨_, rfl⟩
 rw [<- hj] at HT HJ hjl
 rw [<- htx] at HT HWX hxl
 have z1 : (⟨j.toArray⟩ : ByteArray).size = j.length := Z04 _
 have z2 : (⟨tx.toArray⟩ : ByteArray).size = tx.length := Z04 _
 have hm1 : (m : Int) < (t.parts.length : Int) := by omega
 have hm2 : (t.parts.length : Int) - 1 = (m : Int) := by omega
 have hm3 : m <= t.parts.length := by omega
 have hsm := hq.small.d
 have HQP := Y1 hqP
 have HM1 := Y1 hm1
 have HM2 := Y1 hm2
 have HM3 := Y1 hm3
 clear hb0 hq hg hr hz hf hk hm hx hxm hqP hc hrr hts hdl hla htl htt htk hj htx hm1 hm2 hm3
 go_enter Tryz.func107, Tryz.ntmps107
 go_upto_region 1 with fail
 generalize w.alloc (.cells (Y8 t q) 45) = W0 at HB HB0 c0 c1 c2 c3 c4 ⊢
 have HB5 := HB.out
 go_wp2_with fail
 refine Z0p (rs := [0, 1, 2, 3, 4, 5, 6, 7, 8, 9, 10, 11, 12, 13, 14, 15])
  (fun u' => { tmps := #[.agg (Y8 t q), .pointer (some ⟨w.heap.size, 0, none⟩), u' 15, .int .i64 ((t.parts.length : Int) - 1), .pointer (some ⟨w.heap.size, 0, none⟩), .int .i64 t.kind, .bool false, .bool false, undef, undef, undef, undef, undef, undef, undef, .bool false, .bool false, undef, undef, undef, undef, undef, .bool false, .bool false, undef, undef, undef, undef, undef, .bool true, .bool true, .pointer (some ⟨w.heap.size, 4, none⟩), .slice q.P t.parts.length q.d, .int .i64 (t.parts.length : Int), .int .i64 ((t.parts.length : Int) - 1), u' 0, u' 1, u' 2, u' 3, u' 4, u' 5, u' 6, u' 7, u' 8, u' 9, u' 10, u' 11, u' 12, u' 13, u' 14, undef, undef, undef, undef, undef, undef, undef, undef, undef], defers := [] })
  (upd (fun _ => undef) 15 (.string ⟨#[]⟩)) (w8T w.heap.size g off t.parts.length m q.d ts j tx x (qs m)) (fun W => Below W0.heap.size W0 W) (by kernel_rfl) (by kernel_rfl) (by kernel_rfl) Y2.drew ?_ ?_
 refine StepsAt.cons _ rfl (fun u' W K' hJ hd hK => ?_) ?_
 {refine Y0 hK hJ rfl rfl rfl ?_
  try dsimp only
  go_simp}
 refine StepsAt.cons _ rfl (fun u' W K' hJ hd hK => ?_) ?_
 {have d1 : _ = _ := hd 0 (by kernel_rfl)
  obtain ⟨_, ⟨y0, y1, y2, y3, y4⟩, _⟩ := HB.out.next hJ
  rw [HQP.out] at y4
  refine Y0 hK hJ rfl rfl rfl ?_
  try dsimp only
  go_simp}
 refine StepsAt.cons _ rfl (fun u' W K' hJ hd hK => ?_) ?_
 {refine Y0 hK hJ rfl rfl rfl ?_
  try dsimp only
  go_simp}
 refine StepsAt.cons _ rfl (fun u' W K' hJ hd hK => ?_) ?_
 {have d1 : _ = _ := hd 1 (by kernel_rfl)
  have d2 : _ = _ := hd 2 (by kernel_rfl)
  have hm1 := HM1.out
  have hm2 := HM2.out
  have hm3 : (m : Int) <= (q.d : Int) := by omega
  refine Y0 hK hJ rfl rfl rfl ?_
  try dsimp only
  go_simp}
 refine StepsAt.cons _ rfl (fun u' W K' hJ hd hK => ?_) ?_
 {have d1 : _ = _ := hd 3 (by kernel_rfl)
  refine Z05 (f := 132) (args := #[.slice (some ⟨g, off, none⟩) m q.d]) (W' := W) rfl ?_ ((HE.out W (Z00 HB0.out hJ)).mono fun e w' h => ⟨_, h.1, hK.out _ _ ⟨_, rfl, h.2.1⟩ (Z00 hJ h.2.2) h.2.2⟩)
  try dsimp only
  go_simp}
 refine StepsAt.cons _ rfl (fun u' W K' hJ hd hK => ?_) ?_
 {obtain ⟨G, d1, hG⟩ := hd 4 (by kernel_rfl)
  refine Z05 (f := 79) (args := #[.slice (some ⟨G, 0, none⟩) m m, .string ⟨#[44, 32]⟩]) (W' := W) rfl ?_ ((HJ.out G W hG).mono fun e w' h => ⟨_, h.1, hK.out _ _ rfl (Z00 hJ h.2) h.2⟩)
  try dsimp only
  go_simp}
 refine StepsAt.cons _ rfl (fun u' W K' hJ hd hK => ?_) ?_
 {have d1 : _ = _ := hd 5 (by kernel_rfl)
  refine Y0 hK hJ rfl rfl rfl ?_
  try dsimp only
  go_simp
  all_goals omega}
 refine StepsAt.cons _ rfl (fun u' W K' hJ hd hK => ?_) ?_
 {have d1 : _ = _ := hd 6 (by kernel_rfl)
  refine Y0 hK hJ rfl rfl rfl ?_
  try dsimp only
  go_simp
  all_goals omega}
 refine StepsAt.cons _ rfl (fun u' W K' hJ hd hK => ?_) ?_
 {refine Y0 hK hJ rfl rfl rfl ?_
  try dsimp only
  go_simp}
 refine StepsAt.cons _ rfl (fun u' W K' hJ hd hK => ?_) ?_
 {have d1 : _ = _ := hd 8 (by kernel_rfl)
  obtain ⟨_, ⟨y0, y1, y2, y3, y4⟩, _⟩ := HB.out.next hJ
  rw [HQP.out] at y4
  refine Y0 hK hJ rfl rfl rfl ?_
  try dsimp only
  go_simp}
 refine StepsAt.cons _ rfl (fun u' W K' hJ hd hK => ?_) ?_
 {refine Y0 hK hJ rfl rfl rfl ?_
  try dsimp only
  go_simp}
 refine StepsAt.cons _ rfl (fun u' W K' hJ hd hK => ?_) ?_
 {have d1 : _ = _ := hd 9 (by kernel_rfl)
  have d2 : _ = _ := hd 10 (by kernel_rfl)
  have hm1 := HM1.out
  have hm2 := HM2.out
  refine Y0 hK hJ rfl rfl rfl ?_
  try dsimp only
  go_simp}
 refine StepsAt.cons _ rfl (fun u' W K' hJ hd hK => ?_) ?_
 {have d1 : _ = _ := hd 11 (by kernel_rfl)
  obtain ⟨p0, p1, p2, p3, p4⟩ := HX5.out.keep hgl (Z00 HB0.out hJ)
  refine Y0 hK hJ rfl rfl rfl ?_
  try dsimp only
  go_simp}
 refine StepsAt.cons _ rfl (fun u' W K' hJ hd hK => ?_) ?_
 {have d1 : _ = _ := hd 12 (by kernel_rfl)
  refine Z05 (f := 107) (args := #[.agg (Y8 x (qs m))]) (W' := W) rfl ?_ ((HWX.out W (Z00 HB0.out hJ)).mono fun e w' h => ⟨_, h.1, hK.out _ _ rfl (Z00 hJ h.2) h.2⟩)
  try dsimp only
  go_simp}
 refine StepsAt.cons _ rfl (fun u' W K' hJ hd hK => ?_) ?_
 {have d1 : _ = _ := hd 7 (by kernel_rfl)
  have d2 : _ = _ := hd 13 (by kernel_rfl)
  refine Y0 hK hJ rfl rfl rfl ?_
  try dsimp only
  go_simp
  all_goals omega}
 refine StepsAt.cons _ rfl (fun u' W K' hJ hd hK => ?_) StepsAt.nil
 {have d1 : _ = _ := hd 14 (by kernel_rfl)
  refine Y0 hK hJ rfl rfl rfl ?_
  try dsimp only
  go_simp
  all_goals omega}
 intro u' W5 hJ hok
 have e15 : u' 15 = .string ((⟨#[40]⟩ : ByteArray) ++ (⟨j.toArray⟩ : ByteArray) ++ (⟨#[41, 32, 45, 62, 32]⟩ : ByteArray) ++ (⟨tx.toArray⟩ : ByteArray)) := hok 15 (by decide)
 try dsimp only
 rw [e15]
 have HBW := Y1 (Z00 HB0.out hJ)
 clear hok e15 hJ
 go_wp2
 go_ret
 exact ⟨Z0h (by rw [HT.out, <- cat7, <- cat7, <- cat7]), HBW.out⟩
end Go.Proofs.YtnkdedejfonbmaaGreatDoor
namespace Go.Proofs.YtnkdedejfonbmaaGreatDoor
open Go.RowKit Go.Maps Go.WideMaps Shp
theorem Z3U : Keyed Tryz.prog 9 := string_keyed Tryz.underlying9
theorem Z4L (w : World) : (zeroValue 108).run Tryz.prog w = .ok (.agg #[]) w := by kernel_rfl
def seenOf (l : List (List UInt8)) (k : Nat) : DataW Unit := setOf (.agg []) ((l.take k).map Lit.string)
theorem Z4M (l : List (List UInt8)) : seenOf l 0 = .map [] := by simp [seenOf, setOf]
theorem Z4N (l : List (List UInt8)) (k : Nat) (hk : k < l.length) : seenOf l (k + 1) = (seenOf l k).put (.string (l[k]'hk)) (.agg []) := by
 unfold seenOf
 rw [List.take_succ_eq_append_getElem hk, List.map_append, List.map_cons, List.map_nil, setOf_snoc]
theorem Z8L (x : List UInt8) : ∀ l : List (List UInt8), l.any ((fun y : Lit => y.sameKey (.string x)) ∘ Lit.string) = l.contains x
 | [] => rfl
 | a :: r => by
  rw [List.any_cons, List.contains_cons, Z8L x r]
  congr 1
  by_cases e : a = x
  {subst e; simp [Lit.sameKey]}
  {have e' : ¬ x = a := fun h => e h.symm
   simp [Lit.sameKey]
   rw [show (a == x) = false from by simpa using e, show (x == a) = false from by simpa using e']}
theorem Z8M (l : List (List UInt8)) (k : Nat) (x : List UInt8) : Maps.has (seenOf l k) (.string x) = (l.take k).contains x := by
 unfold seenOf
 rw [has_setOf _ _ _ (fun y hy => by obtain ⟨_, _, rfl⟩ := List.mem_map.1 hy; trivial), List.any_map]
 exact Z8L x _
theorem Z5z (A : Option Addr) (c : Nat) (l : List (List UInt8)) (w : World) (hA : Strs w w.heap.size A (strs l)) (hl : l.length <= 1000000) (hx : ∀ x ∈ l, x.length <= 9223372036854775807) :
 Y9 153 #[.slice A l.length c] w (.bool (areNames l)) := by
 have hmm := @run_makeMap Tryz.prog
 have HA := Y1 hA
 have HX := Y1 hx
 clear hA hx
 go_enter Tryz.func153, Tryz.ntmps153
 go_wp2_with fail
 go_loopw [11] (fun ii wr => ∃ k : Nat, k <= l.length /\ ii = .int .i64 k /\ wr.ownsMap Tryz.prog 9 unitElem w.heap.size k (seenOf l k) /\ Below w.heap.size w wr /\ Hid (∀ j (hj : j < l.length), j < k -> Lex.isName (l[j]'hj) = true /\ ∀ m (hm : m < j), l[m]'(by omega) ≠ l[j]'hj))
  (fun i _ => l.length - (intOf i).toNat)
 case atStart => exact ⟨0, Nat.zero_le _, rfl, by rw [Z4M]; exact World.ownsMap_made _ _ _ _, Y2.alloc (Nat.le_refl _) _, Y1 (fun j _ hj => absurd hj (by omega))⟩
 case round =>
  obtain ⟨k, hk, rfl, hown, hb, HN⟩ := hrel
  by_cases hlt : k < l.length
  {have hi1 : (k : Int) < (l.length : Int) := by omega
   rcases (HA.out.next hb).cell7 with h0 | ⟨g, off, rfl, hg, hc⟩
   {omega}
   {have hcell := hc k hlt
    obtain ⟨x, hx⟩ : ∃ x, x = l[k]'hlt := ⟨_, rfl⟩
    rw [<- hx] at hcell
    have hxl : x.length <= 9223372036854775807 := by rw [hx]; exact HX.out _ (List.getElem_mem _)
    have HE := Y1 hx
    have hkey : keyOf Tryz.prog 9 (.string ⟨x.toArray⟩) = some (.string x) := keyOf_string_mk Tryz.underlying9 (by rw [Z04]; unfold maxLen; exact hxl)
    clear hx hc
    have HHAS := Y1 (Z8M l k x)
    have HOWN := Y1 hown
    have HBB := Y1 hb
    clear hb
    cases hin : (l.take k).contains x with
    | true =>
     have HF : Hid (areNames l = false) := Y1 (by
      have hm := List.contains_iff_mem.1 hin
      obtain ⟨m, hm, he⟩ := List.getElem_of_mem hm
      rw [List.length_take] at hm
      rw [List.getElem_take] at he
      exact Z2m (k := m) hlt (by omega) (by rw [he, HE.out]))
     have hhas := HHAS.out
     rw [hin] at hhas
     clear hin
     go_wp2_with (first
      | (at_lookup; refine wpList_lookup_own_unit _ rfl _ _ 107 rfl 9 108 Z3U Tryz.underlying107 (Z4L _) w.heap.size k _ rfl hown _ _ rfl hkey ?_)
      | fail)
     go_ret
     exact ⟨by rw [HF.out]; rfl, HBB.out.alloc HBB.out.size _⟩
    | false =>
     have HNU : Hid (∀ m (hm : m < k), l[m]'(by omega) ≠ l[k]'hlt) := Y1 (fun m hm he => by
      rw [<- HE.out] at he
      have : x ∈ l.take k := by
       rw [<- he]
       have := List.getElem_mem (l := l.take k) (n := m) (by rw [List.length_take]; omega)
       rwa [List.getElem_take] at this
      rw [List.contains_iff_mem.2 this] at hin
      cases hin)
     have hhas := HHAS.out
     rw [hin] at hhas
     clear hin
     cases hn : Lex.isName x with
     | false =>
      have HF : Hid (areNames l = false) := Y1 (Z3b hlt (by rw [<- HE.out]; exact hn))
      have hw := fun W => Z0L x hxl W
      simp only [hn] at hw
      clear hn
      go_wp2_with (first
       | (at_lookup; refine wpList_lookup_own_unit _ rfl _ _ 107 rfl 9 108 Z3U Tryz.underlying107 (Z4L _) w.heap.size k _ rfl hown _ _ rfl hkey ?_)
       | (go_at_call 81; refine (hw _).mono ?_; rintro e w' ⟨rfl, rfl⟩))
      go_ret
      exact ⟨by rw [HF.out]; rfl, HBB.out.alloc HBB.out.size _⟩
     | true =>
      have HNA : Hid (Lex.isName (l[k]'hlt) = true) := Y1 (by rw [<- HE.out]; exact hn)
      have hw := fun W => Z0L x hxl W
      simp only [hn] at hw
      clear hn
      go_wp2_with (first
       | (at_lookup; refine wpList_lookup_own_unit _ rfl _ _ 107 rfl 9 108 Z3U Tryz.underlying107 (Z4L _) w.heap.size k _ rfl hown _ _ rfl hkey ?_)
       | (go_at_call 81; refine (hw _).mono ?_; rintro e w' ⟨rfl, rfl⟩)
       | (at_mapUpdate; refine wpList_mapUpdate_own _ rfl _ _ _ 107 rfl 9 108 Z3U Tryz.underlying107 (unitElem (H := Unit)) w.heap.size k _ rfl (hown.alloc _) (by unfold maxLen; omega) _ _ _ rfl rfl hkey _ [] unitElem_mk ?_; intro w1 hown1 hgrow1))
      go_roundw
      case rel =>
       refine ⟨k + 1, by omega, by go_num, ?_, ?_, Y1 (fun j hj hji => by
        rcases Nat.lt_succ_iff_lt_or_eq.1 hji with h | rfl
        {exact HN.out j hj h}
        · exact ⟨HNA.out, HNU.out⟩)⟩
       {rw [Z4N l k hlt, <- HE.out]; exact hown1}
       {exact (HBB.out.alloc HBB.out.size _).grown hgrow1 (by have := HBB.out.size; simp; omega) (fun j hj => by cases hj; exact Nat.le_refl _)}
      case measure => simp [intOf]; omega}}
  {have hi1 : ¬ (k : Int) < (l.length : Int) := by omega
   have HM : Hid (areNames l = true) := Y1 (Z3A (fun j hj => (HN.out j hj (by omega)).1) (fun j hj => (HN.out j hj (by omega)).2))
   go_wp2
   go_ret
   exact ⟨by rw [HM.out]; rfl, hb⟩}
end Go.Proofs.YtnkdedejfonbmaaGreatDoor
namespace Go.Proofs.YtnkdedejfonbmaaGreatDoor
open Go.RowKit Shp
def wordB (s : List UInt8) : Bool := [] == s || [73, 110, 116] == s || [66, 111, 111, 108] == s || [84, 101, 120, 116] == s || [65, 110, 121] == s
def NotYet (s : List UInt8) (i : Int) : Prop := ((1 : Int) <= i -> (([] : List UInt8) == s) = false) /\ ((2 : Int) <= i -> ([73, 110, 116] == s) = false) /\ ((3 : Int) <= i -> ([66, 111, 111, 108] == s) = false) /\ ((4 : Int) <= i -> ([84, 101, 120, 116] == s) = false) /\ ((5 : Int) <= i -> ([65, 110, 121] == s) = false)
theorem Z8N (s : List UInt8) (w : World) (hg : WGlobs w) :
 Calls Tryz.prog 163 #[.string ⟨s.toArray⟩] w fun e w' => e = .returned (.bool (wordB s)) /\ w = w' := by
 have c0 : w.cell? ⟨0, 0, none⟩ = some (.string ⟨#[]⟩) := hg.cell 0
 have c1 : w.cell? ⟨0, 1, none⟩ = some (.string ⟨#[73, 110, 116]⟩) := hg.cell 1
 have c2 : w.cell? ⟨0, 2, none⟩ = some (.string ⟨#[66, 111, 111, 108]⟩) := hg.cell 2
 have c3 : w.cell? ⟨0, 3, none⟩ = some (.string ⟨#[84, 101, 120, 116]⟩) := hg.cell 3
 have c4 : w.cell? ⟨0, 4, none⟩ = some (.string ⟨#[65, 110, 121]⟩) := hg.cell 4
 clear hg
 have i0 : ∀ W, (Instr.index 159 (.agg #[.string ⟨#[]⟩, .string ⟨#[73, 110, 116]⟩, .string ⟨#[66, 111, 111, 108]⟩, .string ⟨#[84, 101, 120, 116]⟩, .string ⟨#[65, 110, 121]⟩]) (.int .i64 0)).run Tryz.prog W = .ok (.string ⟨#[]⟩) W := fun W => by kernel_rfl
 have i1 : ∀ W, (Instr.index 159 (.agg #[.string ⟨#[]⟩, .string ⟨#[73, 110, 116]⟩, .string ⟨#[66, 111, 111, 108]⟩, .string ⟨#[84, 101, 120, 116]⟩, .string ⟨#[65, 110, 121]⟩]) (.int .i64 1)).run Tryz.prog W = .ok (.string ⟨#[73, 110, 116]⟩) W := fun W => by kernel_rfl
 have i2 : ∀ W, (Instr.index 159 (.agg #[.string ⟨#[]⟩, .string ⟨#[73, 110, 116]⟩, .string ⟨#[66, 111, 111, 108]⟩, .string ⟨#[84, 101, 120, 116]⟩, .string ⟨#[65, 110, 121]⟩]) (.int .i64 2)).run Tryz.prog W = .ok (.string ⟨#[66, 111, 111, 108]⟩) W := fun W => by kernel_rfl
 have i3 : ∀ W, (Instr.index 159 (.agg #[.string ⟨#[]⟩, .string ⟨#[73, 110, 116]⟩, .string ⟨#[66, 111, 111, 108]⟩, .string ⟨#[84, 101, 120, 116]⟩, .string ⟨#[65, 110, 121]⟩]) (.int .i64 3)).run Tryz.prog W = .ok (.string ⟨#[84, 101, 120, 116]⟩) W := fun W => by kernel_rfl
 have i4 : ∀ W, (Instr.index 159 (.agg #[.string ⟨#[]⟩, .string ⟨#[73, 110, 116]⟩, .string ⟨#[66, 111, 111, 108]⟩, .string ⟨#[84, 101, 120, 116]⟩, .string ⟨#[65, 110, 121]⟩]) (.int .i64 4)).run Tryz.prog W = .ok (.string ⟨#[65, 110, 121]⟩) W := fun W => by kernel_rfl
 go_enter Tryz.func163, Tryz.ntmps163
 go_wp2_with fail
 go_loopw [6] (fun ii wr => ∃ i : Int, ii = .int .i64 i /\ 0 <= i /\ i <= 5 /\ Hid (NotYet s i) /\ w = wr)
  (fun i _ => (5 - intOf i).toNat)
 case atStart => exact ⟨0, rfl, by omega, by omega, Y1 ⟨fun h => absurd h (by omega), fun h => absurd h (by omega), fun h => absurd h (by omega), fun h => absurd h (by omega), fun h => absurd h (by omega)⟩, rfl⟩
 case round =>
  obtain ⟨i, rfl, hi0, hi, HN, rfl⟩ := hrel
  clear c0 c1 c2 c3 c4
  have hc : i = 0 \/ i = 1 \/ i = 2 \/ i = 3 \/ i = 4 \/ i = 5 := by omega
  rcases hc with rfl | rfl | rfl | rfl | rfl | rfl
  {cases hq : (([] : List UInt8) == s)
   {have HN2 : Hid (NotYet s 1) := Y1 (show ((1 : Int) <= 1 -> (([] : List UInt8) == s) = false) /\ ((2 : Int) <= 1 -> ([73, 110, 116] == s) = false) /\ ((3 : Int) <= 1 -> ([66, 111, 111, 108] == s) = false) /\ ((4 : Int) <= 1 -> ([84, 101, 120, 116] == s) = false) /\ ((5 : Int) <= 1 -> ([65, 110, 121] == s) = false) from ⟨fun _ => hq, fun h => absurd h (by omega), fun h => absurd h (by omega), fun h => absurd h (by omega), fun h => absurd h (by omega)⟩)
    have hqe : s.isEmpty = false := by cases s <;> simp_all
    go_wp2
    go_roundw
    case rel => exact ⟨1, rfl, by omega, by omega, HN2, trivial⟩
    case measure => simp [intOf]}
   {have HF : Hid (wordB s = true) := Y1 (by unfold wordB; rw [hq]; simp)
    have hqe : s.isEmpty = true := by cases s <;> simp_all
    go_wp2
    go_ret
    exact ⟨by rw [HF.out]; rfl, rfl⟩}}
  {cases hq : ([73, 110, 116] == s)
   {have HN2 : Hid (NotYet s 2) := Y1 (show ((1 : Int) <= 2 -> (([] : List UInt8) == s) = false) /\ ((2 : Int) <= 2 -> ([73, 110, 116] == s) = false) /\ ((3 : Int) <= 2 -> ([66, 111, 111, 108] == s) = false) /\ ((4 : Int) <= 2 -> ([84, 101, 120, 116] == s) = false) /\ ((5 : Int) <= 2 -> ([65, 110, 121] == s) = false) from ⟨fun _ => HN.out.1 (by omega), fun _ => hq, fun h => absurd h (by omega), fun h => absurd h (by omega), fun h => absurd h (by omega)⟩)
    go_wp2
    go_roundw
    case rel => exact ⟨2, rfl, by omega, by omega, HN2, trivial⟩
    case measure => simp [intOf]}
   {have HF : Hid (wordB s = true) := Y1 (by unfold wordB; rw [hq]; simp)
    go_wp2
    go_ret
    exact ⟨by rw [HF.out]; rfl, rfl⟩}}
  {cases hq : ([66, 111, 111, 108] == s)
   {have HN2 : Hid (NotYet s 3) := Y1 (show ((1 : Int) <= 3 -> (([] : List UInt8) == s) = false) /\ ((2 : Int) <= 3 -> ([73, 110, 116] == s) = false) /\ ((3 : Int) <= 3 -> ([66, 111, 111, 108] == s) = false) /\ ((4 : Int) <= 3 -> ([84, 101, 120, 116] == s) = false) /\ ((5 : Int) <= 3 -> ([65, 110, 121] == s) = false) from ⟨fun _ => HN.out.1 (by omega), fun _ => HN.out.2.1 (by omega), fun _ => hq, fun h => absurd h (by omega), fun h => absurd h (by omega)⟩)
    go_wp2
    go_roundw
    case rel => exact ⟨3, rfl, by omega, by omega, HN2, trivial⟩
    case measure => simp [intOf]}
   {have HF : Hid (wordB s = true) := Y1 (by unfold wordB; rw [hq]; simp)
    go_wp2
    go_ret
    exact ⟨by rw [HF.out]; rfl, rfl⟩}}
  {cases hq : ([84, 101, 120, 116] == s)
   {have HN2 : Hid (NotYet s 4) := Y1 (show ((1 : Int) <= 4 -> (([] : List UInt8) == s) = false) /\ ((2 : Int) <= 4 -> ([73, 110, 116] == s) = false) /\ ((3 : Int) <= 4 -> ([66, 111, 111, 108] == s) = false) /\ ((4 : Int) <= 4 -> ([84, 101, 120, 116] == s) = false) /\ ((5 : Int) <= 4 -> ([65, 110, 121] == s) = false) from ⟨fun _ => HN.out.1 (by omega), fun _ => HN.out.2.1 (by omega), fun _ => HN.out.2.2.1 (by omega), fun _ => hq, fun h => absurd h (by omega)⟩)
    go_wp2
    go_roundw
    case rel => exact ⟨4, rfl, by omega, by omega, HN2, trivial⟩
    case measure => simp [intOf]}
   {have HF : Hid (wordB s = true) := Y1 (by unfold wordB; rw [hq]; simp)
    go_wp2
    go_ret
    exact ⟨by rw [HF.out]; rfl, rfl⟩}}
  {cases hq : ([65, 110, 121] == s)
   {have HN2 : Hid (NotYet s 5) := Y1 (show ((1 : Int) <= 5 -> (([] : List UInt8) == s) = false) /\ ((2 : Int) <= 5 -> ([73, 110, 116] == s) = false) /\ ((3 : Int) <= 5 -> ([66, 111, 111, 108] == s) = false) /\ ((4 : Int) <= 5 -> ([84, 101, 120, 116] == s) = false) /\ ((5 : Int) <= 5 -> ([65, 110, 121] == s) = false) from ⟨fun _ => HN.out.1 (by omega), fun _ => HN.out.2.1 (by omega), fun _ => HN.out.2.2.1 (by omega), fun _ => HN.out.2.2.2.1 (by omega), fun _ => hq⟩)
    go_wp2
    go_roundw
    case rel => exact ⟨5, rfl, by omega, by omega, HN2, trivial⟩
    case measure => simp [intOf]}
   {have HF : Hid (wordB s = true) := Y1 (by unfold wordB; rw [hq]; simp)
    go_wp2
    go_ret
    exact ⟨by rw [HF.out]; rfl, rfl⟩}}
  {have HF : Hid (wordB s = false) := Y1 (by
    unfold wordB
    obtain ⟨h0, h1, h2, h3, h4⟩ := HN.out
    rw [h0 (by omega), h1 (by omega), h2 (by omega), h3 (by omega), h4 (by omega)]; rfl)
   go_wp2
   go_ret
   exact ⟨by rw [HF.out]; rfl, rfl⟩}
end Go.Proofs.YtnkdedejfonbmaaGreatDoor
namespace Shp
def nameOk (t : Sh) (wordB : List UInt8 -> Bool) : Bool := if t.of_ = [] then Lex.isUpper t.name && !wordB t.name else Lex.isName t.of_ && Lex.isUpper t.name
theorem Z2X {t : Sh} (h1 : 1 <= t.kind) (h2 : t.kind <= 4) : fits t = (bare t && decide (t.names.length = 0) && decide (t.parts.length = 0)) := by
 cases hb : bare t with
 | false => rw [Z1B (by omega) hb]; rfl
 | true =>
  by_cases hz : 0 < t.names.length
  {rw [Z2c (by omega) hb (by omega) hz, decide_eq_false (p := t.names.length = 0) (by omega)]; rfl}
  {rw [Z3s hb (by omega) (by omega) hz (by omega) (by omega), decide_eq_true h1, decide_eq_true h2, decide_eq_true (p := t.names.length = 0) (by omega)]}
theorem Zcc {t : Sh} (h : t.kind = 5) : fits t = (bare t && decide (t.names.length = 0) && decide (t.parts.length = 1)) := by
 cases hb : bare t with
 | false => rw [Z1B (by omega) hb]; rfl
 | true =>
  by_cases hz : 0 < t.names.length
  {rw [Z2c (by omega) hb (by omega) hz, decide_eq_false (p := t.names.length = 0) (by omega)]; rfl}
  {rw [Z4B hb h hz, decide_eq_true (p := t.names.length = 0) (by omega)]; rfl}
theorem Zed {t : Sh} (h : t.kind = 8) : fits t = (bare t && decide (t.names.length = 0) && decide (0 < t.parts.length)) := by
 cases hb : bare t with
 | false => rw [Z1B (by omega) hb]; rfl
 | true =>
  by_cases hz : 0 < t.names.length
  {rw [Z2c (by omega) hb (by omega) hz, decide_eq_false (p := t.names.length = 0) (by omega)]; rfl}
  {rw [Z5S hb h hz, decide_eq_true (p := t.names.length = 0) (by omega)]; rfl}
theorem Z7v {t : Sh} (h : t.kind = 6 \/ t.kind = 7) : fits t = (bare t && decide (t.names.length = t.parts.length) && areNames t.names) := by
 cases hb : bare t with
 | false => rw [Z1B (by omega) hb]; rfl
 | true => rw [Z5R hb h, Bool.true_and, Bool.and_comm]
theorem Zee {t : Sh} (h : t.kind < 1 \/ 10 < t.kind) : fits t = false := by
 cases hb : bare t with
 | false => rw [Z1B (by omega) hb]
 | true =>
  by_cases hz : 0 < t.names.length
  {rw [Z2c (by omega) hb (by omega) hz]}
  {rw [Z3s hb (by omega) (by omega) hz (by omega) (by omega)]
   rcases h with h | h
   {rw [decide_eq_false (by omega)]; rfl}
   {rw [decide_eq_false (p := t.kind <= 4) (by omega), Bool.and_false]; rfl}}
theorem Zag {t : Sh} (h : t.kind = 10) : fits t = (Lex.isName t.of_ && Lex.isUpper t.name && decide (t.names.length = 0) && decide (t.parts.length = 0)) := by
 rw [Z3r (Or.inr h)]
 unfold ofOk
 rw [h, show decide ((10 : Int) = 9) = false from rfl, Bool.and_false, Bool.false_and, Bool.or_false, Bool.and_comm (Lex.isUpper t.name)]
end Shp
namespace Go.Proofs.YtnkdedejfonbmaaGreatDoor
open Go.RowKit Shp
theorem Zef : Lex.isUpper [] = false := rfl
theorem Zah {s : List UInt8} (h : Lex.isUpper s = true) : wordB s = plain s := by
 have h0 : ([] == s) = false := by
  cases s with
  | nil => rw [Zef] at h; cases h
  | cons a l => rfl
 have c : ∀ a b : List UInt8, (a == b) = (b == a) := fun a b => by rw [Bool.eq_iff_iff, beq_iff_eq, beq_iff_eq]; exact eq_comm
 unfold wordB plain
 rw [h0, Bool.false_or, c [73, 110, 116], c [66, 111, 111, 108], c [84, 101, 120, 116], c [65, 110, 121]]
theorem Zcd {t : Sh} (h : t.kind = 9) : fits t = (nameOk t wordB && decide (t.names.length = 0) && decide (t.parts.length = 0)) := by
 rw [Z3r (Or.inl h)]
 congr 2
 unfold ofOk nameOk
 rw [h, show decide ((9 : Int) = 9) = true from rfl, Bool.and_true]
 by_cases ho : t.of_ = []
 {rw [if_pos ho, ho]
  cases hu : Lex.isUpper t.name with
  | false => rfl
  | true => rw [Zah hu]; rfl}
 {rw [if_neg ho, show (t.of_ == []) = false from beq_eq_false_iff_ne.2 ho, Bool.false_and, Bool.or_false, Bool.and_comm]}
theorem Z16 (t : Sh) (q : Ptr) (w : World) :
 Y9 152 #[.agg (Y8 t q)] w (.bool (bare t)) := by
 have HB : Hid (bare t = (t.of_ == [] && t.name == [])) := Y1 rfl
 have hb0 := Z02 w (.cells (Y8 t q) 45)
 have HB0 := Y1 hb0
 clear hb0
 obtain ⟨_, ⟨c0, c1, c2, c3, c4⟩, _⟩ := Z0c w t q
 cases h1 : (t.of_ == [])
 {have hoe := Z0o h1
  have HF : Hid (bare t = false) := Y1 (by rw [HB.out, h1]; rfl)
  clear h1
  go_enter Tryz.func152, Tryz.ntmps152
  go_wp2
  go_ret
  exact ⟨by rw [HF.out]; rfl, HB0.out⟩}
 {have hoe := Z0o h1
  cases h2 : (t.name == [])
  all_goals
   have hne := Z0o h2
   have HF : Hid _ := Y1 (show bare t = _ from by rw [HB.out, h1, h2])
   clear h1 h2
   go_enter Tryz.func152, Tryz.ntmps152
   go_wp2
   go_ret
   exact ⟨Z03 (by rw [HF.out]; rfl), HB0.out⟩}
theorem Zai (t : Sh) (q : Ptr) (w : World) (hs : Small t q) (hg : WGlobs w) :
 Y9 154 #[.agg (Y8 t q)] w (.bool (nameOk t wordB)) := by
 have HS := Y1 hs
 have HB : Hid (nameOk t wordB = if t.of_ = [] then Lex.isUpper t.name && !wordB t.name else Lex.isName t.of_ && Lex.isUpper t.name) := Y1 rfl
 have hb0 := Z02 w (.cells (Y8 t q) 45)
 have hu := fun W => Z1f t.name HS.out.n W
 have hn := fun W => Z0L t.of_ HS.out.o W
 have hw := Z8N t.name _ (hg.next hb0)
 have HB0 := Y1 hb0
 clear hb0 hg hs
 obtain ⟨_, ⟨c0, c1, c2, c3, c4⟩, _⟩ := Z0c w t q
 cases h1 : (t.of_ == [])
 {have hoe := Z0o h1
  have HF : Hid (nameOk t wordB = (Lex.isName t.of_ && Lex.isUpper t.name)) := Y1 (by rw [HB.out, if_neg (by simpa using h1)])
  clear h1
  cases h2 : Lex.isName t.of_
  all_goals
   rw [h2] at HF
   simp only [h2] at hn
   clear h2
   go_enter Tryz.func154, Tryz.ntmps154
   go_wp2_with fail
   refine (hn _).mono ?_
   rintro e w' ⟨rfl, rfl⟩
  {go_wp2
   go_ret
   exact ⟨by rw [HF.out]; rfl, HB0.out⟩}
  {go_wp2_with fail
   refine (hu _).mono ?_
   rintro e w' ⟨rfl, rfl⟩
   go_wp2
   go_ret
   exact ⟨Z03 (by rw [HF.out]; rfl), HB0.out⟩}}
 {have hoe := Z0o h1
  have HF : Hid (nameOk t wordB = (Lex.isUpper t.name && !wordB t.name)) := Y1 (by rw [HB.out, if_pos (by simpa using h1)])
  clear h1
  cases h2 : Lex.isUpper t.name
  all_goals
   rw [h2] at HF
   simp only [h2] at hu
   clear h2
   go_enter Tryz.func154, Tryz.ntmps154
   go_wp2_with fail
   refine (hu _).mono ?_
   rintro e w' ⟨rfl, rfl⟩
  {go_wp2
   go_ret
   exact ⟨by rw [HF.out]; rfl, HB0.out⟩}
  {go_wp2_with fail
   refine hw.mono ?_
   rintro e w' ⟨rfl, rfl⟩
   go_wp2
   go_ret
   exact ⟨Z03 (by rw [HF.out]; rfl), HB0.out⟩}}
theorem Z5b {a b : Nat} : ((a : Int) == (b : Int)) = decide (a = b) := by rw [Bool.eq_iff_iff, beq_iff_eq, decide_eq_true_eq]; omega
theorem ZgH (t : Sh) (q : Ptr) (w : World) (hq : ShAt w w.heap.size q t) (hg : WGlobs w) (hk : t.kind = 1) :
 Y9 138 #[.agg (Y8 t q)] w (.bool (fits t)) := by
 have HS := Y1 hq.small
 have HA := Y1 hq.strs
 have hB := Z0c w t q
 have HB := Y1 hB
 have hb0 := Z02 w (.cells (Y8 t q) 45)
 have HB0 := Y1 hb0
 have HG := Y1 (hg.next hb0)
 obtain ⟨_, ⟨c0, c1, c2, c3, c4⟩, _⟩ := hB
 have k1 := Y4 1 hk rfl
 have k2 := Y3 2 hk rfl
 have k3 := Y3 3 hk rfl
 have k4 := Y3 4 hk rfl
 have k5 := Y3 5 hk rfl
 have k6 := Y3 6 hk rfl
 have k7 := Y3 7 hk rfl
 have k8 := Y3 8 hk rfl
 have k9 := Y3 9 hk rfl
 have k10 := Y3 10 hk rfl
 have HF := Y1 (Z2X (t := t) (by omega) (by omega))
 have hc := Z16 t q (w.alloc (.cells (Y8 t q) 45))
 clear hk hg hq hb0
 cases hb : bare t
 {rw [hb] at hc HF
  clear hb
  go_enter Tryz.func138, Tryz.ntmps138
  go_wp2_with fail
  refine hc.mono ?_
  rintro e w' ⟨rfl, hb'⟩
  go_wp2
  go_ret
  exact ⟨by rw [HF.out]; rfl, Z00 HB0.out hb'⟩}
 {rw [hb] at hc HF
  clear hb
  cases hz : decide (t.names.length = 0)
  {rw [hz] at HF
   have hz2 : ((t.names.length : Int) == 0) = false := by rw [Z0z]; exact hz
   clear hz
   go_enter Tryz.func138, Tryz.ntmps138
   go_wp2_with fail
   refine hc.mono ?_
   rintro e w' ⟨rfl, hb'⟩
   obtain ⟨_, ⟨c0, c1, c2, c3, c4⟩, _⟩ := HB.out.next hb'
   go_wp2
   go_ret
   exact ⟨by rw [HF.out]; rfl, Z00 HB0.out hb'⟩}
  {rw [hz] at HF
   have hz2 : ((t.names.length : Int) == 0) = true := by rw [Z0z]; exact hz
   clear hz
   go_enter Tryz.func138, Tryz.ntmps138
   go_wp2_with fail
   refine hc.mono ?_
   rintro e w' ⟨rfl, hb'⟩
   obtain ⟨_, ⟨c0, c1, c2, c3, c4⟩, _⟩ := HB.out.next hb'
   go_wp2
   go_ret
   exact ⟨Z03 (by rw [HF.out, Bool.eq_iff_iff]; simp; try omega), Z00 HB0.out hb'⟩}}
theorem ZgI (t : Sh) (q : Ptr) (w : World) (hq : ShAt w w.heap.size q t) (hg : WGlobs w) (hk : t.kind = 2) :
 Y9 138 #[.agg (Y8 t q)] w (.bool (fits t)) := by
 have HS := Y1 hq.small
 have HA := Y1 hq.strs
 have hB := Z0c w t q
 have HB := Y1 hB
 have hb0 := Z02 w (.cells (Y8 t q) 45)
 have HB0 := Y1 hb0
 have HG := Y1 (hg.next hb0)
 obtain ⟨_, ⟨c0, c1, c2, c3, c4⟩, _⟩ := hB
 have k1 := Y3 1 hk rfl
 have k2 := Y4 2 hk rfl
 have k3 := Y3 3 hk rfl
 have k4 := Y3 4 hk rfl
 have k5 := Y3 5 hk rfl
 have k6 := Y3 6 hk rfl
 have k7 := Y3 7 hk rfl
 have k8 := Y3 8 hk rfl
 have k9 := Y3 9 hk rfl
 have k10 := Y3 10 hk rfl
 have HF := Y1 (Z2X (t := t) (by omega) (by omega))
 have hc := Z16 t q (w.alloc (.cells (Y8 t q) 45))
 clear hk hg hq hb0
 cases hb : bare t
 {rw [hb] at hc HF
  clear hb
  go_enter Tryz.func138, Tryz.ntmps138
  go_wp2_with fail
  refine hc.mono ?_
  rintro e w' ⟨rfl, hb'⟩
  go_wp2
  go_ret
  exact ⟨by rw [HF.out]; rfl, Z00 HB0.out hb'⟩}
 {rw [hb] at hc HF
  clear hb
  cases hz : decide (t.names.length = 0)
  {rw [hz] at HF
   have hz2 : ((t.names.length : Int) == 0) = false := by rw [Z0z]; exact hz
   clear hz
   go_enter Tryz.func138, Tryz.ntmps138
   go_wp2_with fail
   refine hc.mono ?_
   rintro e w' ⟨rfl, hb'⟩
   obtain ⟨_, ⟨c0, c1, c2, c3, c4⟩, _⟩ := HB.out.next hb'
   go_wp2
   go_ret
   exact ⟨by rw [HF.out]; rfl, Z00 HB0.out hb'⟩}
  {rw [hz] at HF
   have hz2 : ((t.names.length : Int) == 0) = true := by rw [Z0z]; exact hz
   clear hz
   go_enter Tryz.func138, Tryz.ntmps138
   go_wp2_with fail
   refine hc.mono ?_
   rintro e w' ⟨rfl, hb'⟩
   obtain ⟨_, ⟨c0, c1, c2, c3, c4⟩, _⟩ := HB.out.next hb'
   go_wp2
   go_ret
   exact ⟨Z03 (by rw [HF.out, Bool.eq_iff_iff]; simp; try omega), Z00 HB0.out hb'⟩}}
theorem ZgJ (t : Sh) (q : Ptr) (w : World) (hq : ShAt w w.heap.size q t) (hg : WGlobs w) (hk : t.kind = 3) :
 Y9 138 #[.agg (Y8 t q)] w (.bool (fits t)) := by
 have HS := Y1 hq.small
 have HA := Y1 hq.strs
 have hB := Z0c w t q
 have HB := Y1 hB
 have hb0 := Z02 w (.cells (Y8 t q) 45)
 have HB0 := Y1 hb0
 have HG := Y1 (hg.next hb0)
 obtain ⟨_, ⟨c0, c1, c2, c3, c4⟩, _⟩ := hB
 have k1 := Y3 1 hk rfl
 have k2 := Y3 2 hk rfl
 have k3 := Y4 3 hk rfl
 have k4 := Y3 4 hk rfl
 have k5 := Y3 5 hk rfl
 have k6 := Y3 6 hk rfl
 have k7 := Y3 7 hk rfl
 have k8 := Y3 8 hk rfl
 have k9 := Y3 9 hk rfl
 have k10 := Y3 10 hk rfl
 have HF := Y1 (Z2X (t := t) (by omega) (by omega))
 have hc := Z16 t q (w.alloc (.cells (Y8 t q) 45))
 clear hk hg hq hb0
 cases hb : bare t
 {rw [hb] at hc HF
  clear hb
  go_enter Tryz.func138, Tryz.ntmps138
  go_wp2_with fail
  refine hc.mono ?_
  rintro e w' ⟨rfl, hb'⟩
  go_wp2
  go_ret
  exact ⟨by rw [HF.out]; rfl, Z00 HB0.out hb'⟩}
 {rw [hb] at hc HF
  clear hb
  cases hz : decide (t.names.length = 0)
  {rw [hz] at HF
   have hz2 : ((t.names.length : Int) == 0) = false := by rw [Z0z]; exact hz
   clear hz
   go_enter Tryz.func138, Tryz.ntmps138
   go_wp2_with fail
   refine hc.mono ?_
   rintro e w' ⟨rfl, hb'⟩
   obtain ⟨_, ⟨c0, c1, c2, c3, c4⟩, _⟩ := HB.out.next hb'
   go_wp2
   go_ret
   exact ⟨by rw [HF.out]; rfl, Z00 HB0.out hb'⟩}
  {rw [hz] at HF
   have hz2 : ((t.names.length : Int) == 0) = true := by rw [Z0z]; exact hz
   clear hz
   go_enter Tryz.func138, Tryz.ntmps138
   go_wp2_with fail
   refine hc.mono ?_
   rintro e w' ⟨rfl, hb'⟩
   obtain ⟨_, ⟨c0, c1, c2, c3, c4⟩, _⟩ := HB.out.next hb'
   go_wp2
   go_ret
   exact ⟨Z03 (by rw [HF.out, Bool.eq_iff_iff]; simp; try omega), Z00 HB0.out hb'⟩}}
theorem ZgK (t : Sh) (q : Ptr) (w : World) (hq : ShAt w w.heap.size q t) (hg : WGlobs w) (hk : t.kind = 4) :
 Y9 138 #[.agg (Y8 t q)] w (.bool (fits t)) := by
 have HS := Y1 hq.small
 have HA := Y1 hq.strs
 have hB := Z0c w t q
 have HB := Y1 hB
 have hb0 := Z02 w (.cells (Y8 t q) 45)
 have HB0 := Y1 hb0
 have HG := Y1 (hg.next hb0)
 obtain ⟨_, ⟨c0, c1, c2, c3, c4⟩, _⟩ := hB
 have k1 := Y3 1 hk rfl
 have k2 := Y3 2 hk rfl
 have k3 := Y3 3 hk rfl
 have k4 := Y4 4 hk rfl
 have k5 := Y3 5 hk rfl
 have k6 := Y3 6 hk rfl
 have k7 := Y3 7 hk rfl
 have k8 := Y3 8 hk rfl
 have k9 := Y3 9 hk rfl
 have k10 := Y3 10 hk rfl
 have HF := Y1 (Z2X (t := t) (by omega) (by omega))
 have hc := Z16 t q (w.alloc (.cells (Y8 t q) 45))
 clear hk hg hq hb0
 cases hb : bare t
 {rw [hb] at hc HF
  clear hb
  go_enter Tryz.func138, Tryz.ntmps138
  go_wp2_with fail
  refine hc.mono ?_
  rintro e w' ⟨rfl, hb'⟩
  go_wp2
  go_ret
  exact ⟨by rw [HF.out]; rfl, Z00 HB0.out hb'⟩}
 {rw [hb] at hc HF
  clear hb
  cases hz : decide (t.names.length = 0)
  {rw [hz] at HF
   have hz2 : ((t.names.length : Int) == 0) = false := by rw [Z0z]; exact hz
   clear hz
   go_enter Tryz.func138, Tryz.ntmps138
   go_wp2_with fail
   refine hc.mono ?_
   rintro e w' ⟨rfl, hb'⟩
   obtain ⟨_, ⟨c0, c1, c2, c3, c4⟩, _⟩ := HB.out.next hb'
   go_wp2
   go_ret
   exact ⟨by rw [HF.out]; rfl, Z00 HB0.out hb'⟩}
  {rw [hz] at HF
   have hz2 : ((t.names.length : Int) == 0) = true := by rw [Z0z]; exact hz
   clear hz
   go_enter Tryz.func138, Tryz.ntmps138
   go_wp2_with fail
   refine hc.mono ?_
   rintro e w' ⟨rfl, hb'⟩
   obtain ⟨_, ⟨c0, c1, c2, c3, c4⟩, _⟩ := HB.out.next hb'
   go_wp2
   go_ret
   exact ⟨Z03 (by rw [HF.out, Bool.eq_iff_iff]; simp; try omega), Z00 HB0.out hb'⟩}}
theorem ZgL (t : Sh) (q : Ptr) (w : World) (hq : ShAt w w.heap.size q t) (hg : WGlobs w) (hk : t.kind = 5) :
 Y9 138 #[.agg (Y8 t q)] w (.bool (fits t)) := by
 have HS := Y1 hq.small
 have HA := Y1 hq.strs
 have hB := Z0c w t q
 have HB := Y1 hB
 have hb0 := Z02 w (.cells (Y8 t q) 45)
 have HB0 := Y1 hb0
 have HG := Y1 (hg.next hb0)
 obtain ⟨_, ⟨c0, c1, c2, c3, c4⟩, _⟩ := hB
 have k1 := Y3 1 hk rfl
 have k2 := Y3 2 hk rfl
 have k3 := Y3 3 hk rfl
 have k4 := Y3 4 hk rfl
 have k5 := Y4 5 hk rfl
 have k6 := Y3 6 hk rfl
 have k7 := Y3 7 hk rfl
 have k8 := Y3 8 hk rfl
 have k9 := Y3 9 hk rfl
 have k10 := Y3 10 hk rfl
 have HF := Y1 (Zcc hk)
 have hc := Z16 t q (w.alloc (.cells (Y8 t q) 45))
 clear hk hg hq hb0
 cases hb : bare t
 {rw [hb] at hc HF
  clear hb
  go_enter Tryz.func138, Tryz.ntmps138
  go_wp2_with fail
  refine hc.mono ?_
  rintro e w' ⟨rfl, hb'⟩
  go_wp2
  go_ret
  exact ⟨by rw [HF.out]; rfl, Z00 HB0.out hb'⟩}
 {rw [hb] at hc HF
  clear hb
  cases hz : decide (t.names.length = 0)
  {rw [hz] at HF
   have hz2 : ((t.names.length : Int) == 0) = false := by rw [Z0z]; exact hz
   clear hz
   go_enter Tryz.func138, Tryz.ntmps138
   go_wp2_with fail
   refine hc.mono ?_
   rintro e w' ⟨rfl, hb'⟩
   obtain ⟨_, ⟨c0, c1, c2, c3, c4⟩, _⟩ := HB.out.next hb'
   go_wp2
   go_ret
   exact ⟨by rw [HF.out]; rfl, Z00 HB0.out hb'⟩}
  {rw [hz] at HF
   have hz2 : ((t.names.length : Int) == 0) = true := by rw [Z0z]; exact hz
   clear hz
   go_enter Tryz.func138, Tryz.ntmps138
   go_wp2_with fail
   refine hc.mono ?_
   rintro e w' ⟨rfl, hb'⟩
   obtain ⟨_, ⟨c0, c1, c2, c3, c4⟩, _⟩ := HB.out.next hb'
   go_wp2
   go_ret
   exact ⟨Z03 (by rw [HF.out, Bool.eq_iff_iff]; simp; try omega), Z00 HB0.out hb'⟩}}
theorem ZgM (t : Sh) (q : Ptr) (w : World) (hq : ShAt w w.heap.size q t) (hg : WGlobs w) (hk : t.kind = 6) (hz : t.parts.length <= 1000000) :
 Y9 138 #[.agg (Y8 t q)] w (.bool (fits t)) := by
 have HS := Y1 hq.small
 have HA := Y1 hq.strs
 have hB := Z0c w t q
 have HB := Y1 hB
 have hb0 := Z02 w (.cells (Y8 t q) 45)
 have HB0 := Y1 hb0
 have HG := Y1 (hg.next hb0)
 have HZ := Y1 hz
 clear hz
 obtain ⟨_, ⟨c0, c1, c2, c3, c4⟩, _⟩ := hB
 have k1 := Y3 1 hk rfl
 have k2 := Y3 2 hk rfl
 have k3 := Y3 3 hk rfl
 have k4 := Y3 4 hk rfl
 have k5 := Y3 5 hk rfl
 have k6 := Y4 6 hk rfl
 have k7 := Y3 7 hk rfl
 have k8 := Y3 8 hk rfl
 have k9 := Y3 9 hk rfl
 have k10 := Y3 10 hk rfl
 have HF := Y1 (Z7v (t := t) (by first | exact Or.inl hk | exact Or.inr hk))
 have hc := Z16 t q (w.alloc (.cells (Y8 t q) 45))
 clear hk hg hq hb0
 cases hb : bare t
 {rw [hb] at hc HF
  clear hb
  go_enter Tryz.func138, Tryz.ntmps138
  go_wp2_with fail
  refine hc.mono ?_
  rintro e w' ⟨rfl, hb'⟩
  go_wp2
  go_ret
  exact ⟨by rw [HF.out]; rfl, Z00 HB0.out hb'⟩}
 {rw [hb] at hc HF
  clear hb
  cases hz : decide (t.names.length = t.parts.length)
  {rw [hz] at HF
   have hz2 : ((t.names.length : Int) == (t.parts.length : Int)) = false := by rw [Z5b]; exact hz
   clear hz
   go_enter Tryz.func138, Tryz.ntmps138
   go_wp2_with fail
   refine hc.mono ?_
   rintro e w' ⟨rfl, hb'⟩
   obtain ⟨_, ⟨c0, c1, c2, c3, c4⟩, _⟩ := HB.out.next hb'
   go_wp2
   go_ret
   exact ⟨by rw [HF.out]; rfl, Z00 HB0.out hb'⟩}
  {rw [hz] at HF
   have hz2 : ((t.names.length : Int) == (t.parts.length : Int)) = true := by rw [Z5b]; exact hz
   clear hz
   have hlen : t.names.length <= 1000000 := by have := HZ.out; have h2 := beq_iff_eq.1 hz2; omega
   have HA0 := HA.out.next HB0.out
   go_enter Tryz.func138, Tryz.ntmps138
   go_wp2_with fail
   refine hc.mono ?_
   rintro e w1 ⟨rfl, hb'⟩
   have hn := Z5z q.A q.c t.names w1 (HA0.next hb') hlen HS.out.ns
   obtain ⟨_, ⟨c0, c1, c2, c3, c4⟩, _⟩ := HB.out.next hb'
   have hbw := Z00 HB0.out hb'
   clear hc hb' HA0
   go_wp2_with fail
   refine hn.mono ?_
   rintro e w' ⟨rfl, hb2⟩
   go_wp2
   go_ret
   exact ⟨Z03 (by rw [HF.out]; rfl), Z00 hbw hb2⟩}}
theorem ZgN (t : Sh) (q : Ptr) (w : World) (hq : ShAt w w.heap.size q t) (hg : WGlobs w) (hk : t.kind = 7) (hz : t.parts.length <= 1000000) :
 Y9 138 #[.agg (Y8 t q)] w (.bool (fits t)) := by
 have HS := Y1 hq.small
 have HA := Y1 hq.strs
 have hB := Z0c w t q
 have HB := Y1 hB
 have hb0 := Z02 w (.cells (Y8 t q) 45)
 have HB0 := Y1 hb0
 have HG := Y1 (hg.next hb0)
 have HZ := Y1 hz
 clear hz
 obtain ⟨_, ⟨c0, c1, c2, c3, c4⟩, _⟩ := hB
 have k1 := Y3 1 hk rfl
 have k2 := Y3 2 hk rfl
 have k3 := Y3 3 hk rfl
 have k4 := Y3 4 hk rfl
 have k5 := Y3 5 hk rfl
 have k6 := Y3 6 hk rfl
 have k7 := Y4 7 hk rfl
 have k8 := Y3 8 hk rfl
 have k9 := Y3 9 hk rfl
 have k10 := Y3 10 hk rfl
 have HF := Y1 (Z7v (t := t) (by first | exact Or.inl hk | exact Or.inr hk))
 have hc := Z16 t q (w.alloc (.cells (Y8 t q) 45))
 clear hk hg hq hb0
 cases hb : bare t
 {rw [hb] at hc HF
  clear hb
  go_enter Tryz.func138, Tryz.ntmps138
  go_wp2_with fail
  refine hc.mono ?_
  rintro e w' ⟨rfl, hb'⟩
  go_wp2
  go_ret
  exact ⟨by rw [HF.out]; rfl, Z00 HB0.out hb'⟩}
 {rw [hb] at hc HF
  clear hb
  cases hz : decide (t.names.length = t.parts.length)
  {rw [hz] at HF
   have hz2 : ((t.names.length : Int) == (t.parts.length : Int)) = false := by rw [Z5b]; exact hz
   clear hz
   go_enter Tryz.func138, Tryz.ntmps138
   go_wp2_with fail
   refine hc.mono ?_
   rintro e w' ⟨rfl, hb'⟩
   obtain ⟨_, ⟨c0, c1, c2, c3, c4⟩, _⟩ := HB.out.next hb'
   go_wp2
   go_ret
   exact ⟨by rw [HF.out]; rfl, Z00 HB0.out hb'⟩}
  {rw [hz] at HF
   have hz2 : ((t.names.length : Int) == (t.parts.length : Int)) = true := by rw [Z5b]; exact hz
   clear hz
   have hlen : t.names.length <= 1000000 := by have := HZ.out; have h2 := beq_iff_eq.1 hz2; omega
   have HA0 := HA.out.next HB0.out
   go_enter Tryz.func138, Tryz.ntmps138
   go_wp2_with fail
   refine hc.mono ?_
   rintro e w1 ⟨rfl, hb'⟩
   have hn := Z5z q.A q.c t.names w1 (HA0.next hb') hlen HS.out.ns
   obtain ⟨_, ⟨c0, c1, c2, c3, c4⟩, _⟩ := HB.out.next hb'
   have hbw := Z00 HB0.out hb'
   clear hc hb' HA0
   go_wp2_with fail
   refine hn.mono ?_
   rintro e w' ⟨rfl, hb2⟩
   go_wp2
   go_ret
   exact ⟨Z03 (by rw [HF.out]; rfl), Z00 hbw hb2⟩}}
theorem ZgO (t : Sh) (q : Ptr) (w : World) (hq : ShAt w w.heap.size q t) (hg : WGlobs w) (hk : t.kind = 8) :
 Y9 138 #[.agg (Y8 t q)] w (.bool (fits t)) := by
 have HS := Y1 hq.small
 have HA := Y1 hq.strs
 have hB := Z0c w t q
 have HB := Y1 hB
 have hb0 := Z02 w (.cells (Y8 t q) 45)
 have HB0 := Y1 hb0
 have HG := Y1 (hg.next hb0)
 obtain ⟨_, ⟨c0, c1, c2, c3, c4⟩, _⟩ := hB
 have k1 := Y3 1 hk rfl
 have k2 := Y3 2 hk rfl
 have k3 := Y3 3 hk rfl
 have k4 := Y3 4 hk rfl
 have k5 := Y3 5 hk rfl
 have k6 := Y3 6 hk rfl
 have k7 := Y3 7 hk rfl
 have k8 := Y4 8 hk rfl
 have k9 := Y3 9 hk rfl
 have k10 := Y3 10 hk rfl
 have HF := Y1 (Zed hk)
 have hc := Z16 t q (w.alloc (.cells (Y8 t q) 45))
 clear hk hg hq hb0
 cases hb : bare t
 {rw [hb] at hc HF
  clear hb
  go_enter Tryz.func138, Tryz.ntmps138
  go_wp2_with fail
  refine hc.mono ?_
  rintro e w' ⟨rfl, hb'⟩
  go_wp2
  go_ret
  exact ⟨by rw [HF.out]; rfl, Z00 HB0.out hb'⟩}
 {rw [hb] at hc HF
  clear hb
  cases hz : decide (t.names.length = 0)
  {rw [hz] at HF
   have hz2 : ((t.names.length : Int) == 0) = false := by rw [Z0z]; exact hz
   clear hz
   go_enter Tryz.func138, Tryz.ntmps138
   go_wp2_with fail
   refine hc.mono ?_
   rintro e w' ⟨rfl, hb'⟩
   obtain ⟨_, ⟨c0, c1, c2, c3, c4⟩, _⟩ := HB.out.next hb'
   go_wp2
   go_ret
   exact ⟨by rw [HF.out]; rfl, Z00 HB0.out hb'⟩}
  {rw [hz] at HF
   have hz2 : ((t.names.length : Int) == 0) = true := by rw [Z0z]; exact hz
   clear hz
   go_enter Tryz.func138, Tryz.ntmps138
   go_wp2_with fail
   refine hc.mono ?_
   rintro e w' ⟨rfl, hb'⟩
   obtain ⟨_, ⟨c0, c1, c2, c3, c4⟩, _⟩ := HB.out.next hb'
   go_wp2
   go_ret
   exact ⟨Z03 (by rw [HF.out, Bool.eq_iff_iff]; simp; try omega), Z00 HB0.out hb'⟩}}
theorem ZgP (t : Sh) (q : Ptr) (w : World) (hq : ShAt w w.heap.size q t) (hg : WGlobs w) (hk : t.kind = 9) :
 Y9 138 #[.agg (Y8 t q)] w (.bool (fits t)) := by
 have HS := Y1 hq.small
 have HA := Y1 hq.strs
 have hB := Z0c w t q
 have HB := Y1 hB
 have hb0 := Z02 w (.cells (Y8 t q) 45)
 have HB0 := Y1 hb0
 have HG := Y1 (hg.next hb0)
 obtain ⟨_, ⟨c0, c1, c2, c3, c4⟩, _⟩ := hB
 have k1 := Y3 1 hk rfl
 have k2 := Y3 2 hk rfl
 have k3 := Y3 3 hk rfl
 have k4 := Y3 4 hk rfl
 have k5 := Y3 5 hk rfl
 have k6 := Y3 6 hk rfl
 have k7 := Y3 7 hk rfl
 have k8 := Y3 8 hk rfl
 have k9 := Y4 9 hk rfl
 have k10 := Y3 10 hk rfl
 have HF := Y1 (Zcd hk)
 have hc := Zai t q (w.alloc (.cells (Y8 t q) 45)) HS.out HG.out
 clear hk hg hq hb0
 cases hb : nameOk t wordB
 {rw [hb] at hc HF
  clear hb
  go_enter Tryz.func138, Tryz.ntmps138
  go_wp2_with fail
  refine hc.mono ?_
  rintro e w' ⟨rfl, hb'⟩
  go_wp2
  go_ret
  exact ⟨by rw [HF.out]; rfl, Z00 HB0.out hb'⟩}
 {rw [hb] at hc HF
  clear hb
  cases hz : decide (t.names.length = 0)
  {rw [hz] at HF
   have hz2 : ((t.names.length : Int) == 0) = false := by rw [Z0z]; exact hz
   clear hz
   go_enter Tryz.func138, Tryz.ntmps138
   go_wp2_with fail
   refine hc.mono ?_
   rintro e w' ⟨rfl, hb'⟩
   obtain ⟨_, ⟨c0, c1, c2, c3, c4⟩, _⟩ := HB.out.next hb'
   go_wp2
   go_ret
   exact ⟨by rw [HF.out]; rfl, Z00 HB0.out hb'⟩}
  {rw [hz] at HF
   have hz2 : ((t.names.length : Int) == 0) = true := by rw [Z0z]; exact hz
   clear hz
   go_enter Tryz.func138, Tryz.ntmps138
   go_wp2_with fail
   refine hc.mono ?_
   rintro e w' ⟨rfl, hb'⟩
   obtain ⟨_, ⟨c0, c1, c2, c3, c4⟩, _⟩ := HB.out.next hb'
   go_wp2
   go_ret
   exact ⟨Z03 (by rw [HF.out, Bool.eq_iff_iff]; simp; try omega), Z00 HB0.out hb'⟩}}
theorem ZfF (t : Sh) (q : Ptr) (w : World) (hq : ShAt w w.heap.size q t) (hg : WGlobs w) (hk : t.kind = 10) :
 Y9 138 #[.agg (Y8 t q)] w (.bool (fits t)) := by
 have HS := Y1 hq.small
 have HA := Y1 hq.strs
 have hB := Z0c w t q
 have HB := Y1 hB
 have hb0 := Z02 w (.cells (Y8 t q) 45)
 have HB0 := Y1 hb0
 have HG := Y1 (hg.next hb0)
 obtain ⟨_, ⟨c0, c1, c2, c3, c4⟩, _⟩ := hB
 have k1 := Y3 1 hk rfl
 have k2 := Y3 2 hk rfl
 have k3 := Y3 3 hk rfl
 have k4 := Y3 4 hk rfl
 have k5 := Y3 5 hk rfl
 have k6 := Y3 6 hk rfl
 have k7 := Y3 7 hk rfl
 have k8 := Y3 8 hk rfl
 have k9 := Y3 9 hk rfl
 have k10 := Y4 10 hk rfl
 have HF := Y1 (Zag hk)
 have hn := fun W => Z0L t.of_ HS.out.o W
 have hu := fun W => Z1f t.name HS.out.n W
 clear hk hg hq hb0
 cases h1 : Lex.isName t.of_
 {rw [h1] at HF
  simp only [h1] at hn
  clear h1
  go_enter Tryz.func138, Tryz.ntmps138
  go_wp2_with fail
  refine (hn _).mono ?_
  rintro e w' ⟨rfl, rfl⟩
  go_wp2
  go_ret
  exact ⟨by rw [HF.out]; rfl, HB0.out⟩}
 {rw [h1] at HF
  simp only [h1] at hn
  clear h1
  cases h2 : Lex.isUpper t.name
  {rw [h2] at HF
   simp only [h2] at hu
   clear h2
   go_enter Tryz.func138, Tryz.ntmps138
   go_wp2_with fail
   refine (hn _).mono ?_
   rintro e w' ⟨rfl, rfl⟩
   go_wp2_with fail
   refine (hu _).mono ?_
   rintro e w' ⟨rfl, rfl⟩
   go_wp2
   go_ret
   exact ⟨by rw [HF.out]; rfl, HB0.out⟩}
  {rw [h2] at HF
   simp only [h2] at hu
   clear h2
   cases hz : decide (t.names.length = 0)
   all_goals
    rw [hz] at HF
    have hz2 := hz
    rw [<- Z0z] at hz2
    clear hz
    go_enter Tryz.func138, Tryz.ntmps138
    go_wp2_with fail
    refine (hn _).mono ?_
    rintro e w' ⟨rfl, rfl⟩
    go_wp2_with fail
    refine (hu _).mono ?_
    rintro e w' ⟨rfl, rfl⟩
    go_wp2
    go_ret
    exact ⟨Z03 (by rw [HF.out, Bool.eq_iff_iff]; simp), HB0.out⟩}}
theorem Zce (t : Sh) (q : Ptr) (w : World) (hq : ShAt w w.heap.size q t) (hg : WGlobs w) (hk : t.kind < 1 \/ 10 < t.kind) :
 Y9 138 #[.agg (Y8 t q)] w (.bool (fits t)) := by
 have HS := Y1 hq.small
 have HA := Y1 hq.strs
 have hB := Z0c w t q
 have HB := Y1 hB
 have hb0 := Z02 w (.cells (Y8 t q) 45)
 have HB0 := Y1 hb0
 have HG := Y1 (hg.next hb0)
 obtain ⟨_, ⟨c0, c1, c2, c3, c4⟩, _⟩ := hB
 have k1 : (t.kind == 1) = false := by rw [beq_eq_false_iff_ne]; omega
 have k2 : (t.kind == 2) = false := by rw [beq_eq_false_iff_ne]; omega
 have k3 : (t.kind == 3) = false := by rw [beq_eq_false_iff_ne]; omega
 have k4 : (t.kind == 4) = false := by rw [beq_eq_false_iff_ne]; omega
 have k5 : (t.kind == 5) = false := by rw [beq_eq_false_iff_ne]; omega
 have k6 : (t.kind == 6) = false := by rw [beq_eq_false_iff_ne]; omega
 have k7 : (t.kind == 7) = false := by rw [beq_eq_false_iff_ne]; omega
 have k8 : (t.kind == 8) = false := by rw [beq_eq_false_iff_ne]; omega
 have k9 : (t.kind == 9) = false := by rw [beq_eq_false_iff_ne]; omega
 have k10 : (t.kind == 10) = false := by rw [beq_eq_false_iff_ne]; omega
 have HF := Y1 (Zee hk)
 clear hk hg hq hb0
 go_enter Tryz.func138, Tryz.ntmps138
 go_wp2
 go_ret
 exact ⟨by rw [HF.out]; rfl, HB0.out⟩
theorem Zcf (t : Sh) (q : Ptr) (w : World) (hq : ShAt w w.heap.size q t) (hg : WGlobs w) (hz : t.parts.length <= 1000000) :
 Y9 138 #[.agg (Y8 t q)] w (.bool (fits t)) := by
 by_cases h : t.kind < 1 \/ 10 < t.kind
 {exact Zce t q w hq hg h}
 {have : t.kind = 1 \/ t.kind = 2 \/ t.kind = 3 \/ t.kind = 4 \/ t.kind = 5 \/ t.kind = 6 \/ t.kind = 7 \/ t.kind = 8 \/ t.kind = 9 \/ t.kind = 10 := by omega
  rcases this with h | h | h | h | h | h | h | h | h | h
  {exact ZgH t q w hq hg h}
  {exact ZgI t q w hq hg h}
  {exact ZgJ t q w hq hg h}
  {exact ZgK t q w hq hg h}
  {exact ZgL t q w hq hg h}
  {exact ZgM t q w hq hg h hz}
  {exact ZgN t q w hq hg h hz}
  {exact ZgO t q w hq hg h}
  {exact ZgP t q w hq hg h}
  {exact ZfF t q w hq hg h}}
end Go.Proofs.YtnkdedejfonbmaaGreatDoor
