/- What the proofs of TermsChecks, TermsSames want, part 1. -/
import Derived.Deep.RegionHeld3
import Derived.StillTailTactics
import Derived.Test.YtnkdedejfonbmaaGreatDoorK8n0
import Derived.Test.YtnkdedejfonbmaaGreatDoorK0n19
set_option linter.unusedVariables false
set_option linter.unusedSimpArgs false
set_option maxRecDepth 100000
set_option maxHeartbeats 16000000
namespace Go.Proofs.YtnkdedejfonbmaaGreatDoor
open Go.RowKit
theorem Z1R (s : ByteArray) (n : Nat) : (s.extract 0 n).toList = s.data.toList.take n := by
 have := ByteArray.extract_mk s.data.toList 0 n
 have e : s.extract 0 n = ⟨(s.data.toList.take n).toArray⟩ := this
 rw [e, ByteArray.toList_mk]
theorem Zao (w : World) :
 Y9 122 #[.string ByteArray.empty] w (duo (0, 0)) := by
 go_enter Tryz.func122, Tryz.ntmps122
 go_wp2
 go_ret2
 exact ⟨rfl, Below.refl _ _⟩
theorem ZfG (s : ByteArray) (h : 0 < s.size) (hs : s.size <= 9223372036854775807) (w : World) (h1 : (s[0]).toNat < 192) (e : Utf.lead (s[0]).toNat = (1, ((s[0]).toNat : Int))) :
 Y9 122 #[.string s] w (duo (Utf.first s.data.toList)) := by
 obtain ⟨r, hr, hl, hi⟩ := Z3X s h
 have ha := (s[0]).toNat_lt
 have he : s.toList.isEmpty = false := by
  rw [ByteArray.toList_mk, hr]; rfl
 have HR := Y1 hr
 have HL := Y1 hl
 have HI := Y1 hi
 have HE := Y1 e
 clear hr hl hi e
 by_cases hn : s.size < 1
 {omega}
 {go_enter Tryz.func122, Tryz.ntmps122
  go_wp2
  go_quiet (fail)
  go_wp2
  go_loopw [5, 6] (fun p i wr => ∃ (k : Nat) (x : Int), i = .int .i64 k /\ 1 <= k /\ k <= 1 /\ p = .int .i64 x /\ Hid (x = Utf.val (((s[0]).toNat : Int)) (r.take (k - 1))) /\ Below w.heap.size w wr)
   (fun _ i _ => 4 - (intOf i).toNat)
  case atStart => exact ⟨1, _, rfl, by omega, by omega, rfl, Y1 rfl, by first | exact Below.refl _ _ | exact Z0k Y2 _⟩
  case round =>
   obtain ⟨k, x, rfl, hk1, hk, rfl, HX, hbel⟩ := hrel
   by_cases hlt : k < 1
   {omega}
   {have hkn : k = 1 := by omega
    subst hkn
    rw [show 1 - 1 = 0 from rfl] at HX
    cases hp : Utf.pt x
    {go_wp2_with fail
     go_quiet ((go_at_call 140; exact Calls.quiet_of_same (flip (Z1g _ _))))
     go_wp2
     go_ret2
     refine ⟨?_, Z0k hbel _⟩
     rw [HR.out, Utf.first, HE.out]
     simp only
     rw [<- HX.out, hp, if_neg (by simp)]
     rfl}
    {go_wp2_with fail
     go_region_held3 (fun w' => Below w.heap.size w w') (first | exact hbel.drew | assumption | exact Z00 (by assumption) (by assumption) | exact Below.drew (by assumption))
      (first | (go_at_call 140; refine (Z1g _ _).mono ?_; rintro e w' ⟨rfl, rfl⟩) | (go_at_call 141; refine (Z2F _ _ hp).mono ?_; rintro e w' ⟨rfl, hb1⟩))
     go_wp2
     {have ht : (!Utf.bytes x == (s.extract 0 1).toList) = true := by assumption
      rw [Z1R, HR.out] at ht
      go_ret2
      refine ⟨?_, by assumption⟩
      rw [HR.out, Utf.first, HE.out]
      simp only
      rw [<- HX.out, if_neg (by rintro ⟨_, _, h3⟩; rw [h3] at ht; simp at ht)]
      rfl}
     {have ht : (!Utf.bytes x == (s.extract 0 1).toList) = false := by assumption
      rw [Z1R, HR.out] at ht
      go_ret2
      refine ⟨?_, by assumption⟩
      rw [HR.out, Utf.first, HE.out]
      simp only
      rw [<- HX.out, if_pos ⟨by have := HL.out; omega, hp, by simpa using ht⟩]
      rfl}}}}
theorem ZfH (s : ByteArray) (h : 0 < s.size) (hs : s.size <= 9223372036854775807) (w : World) (h1 : 192 <= (s[0]).toNat) (h2 : (s[0]).toNat < 224) (e : Utf.lead (s[0]).toNat = (2, ((s[0]).toNat : Int) - 192)) :
 Y9 122 #[.string s] w (duo (Utf.first s.data.toList)) := by
 obtain ⟨r, hr, hl, hi⟩ := Z3X s h
 have ha := (s[0]).toNat_lt
 have he : s.toList.isEmpty = false := by
  rw [ByteArray.toList_mk, hr]; rfl
 have HR := Y1 hr
 have HL := Y1 hl
 have HI := Y1 hi
 have HE := Y1 e
 clear hr hl hi e
 by_cases hn : s.size < 2
 {go_enter Tryz.func122, Tryz.ntmps122
  go_wp2
  go_quiet (fail)
  go_wp2
  go_ret2
  refine ⟨?_, by first | exact Below.refl _ _ | exact Z0k Y2 _⟩
  rw [HR.out, Utf.first, HE.out, if_neg (by have := HL.out; simp only; omega)]
  rfl}
 {go_enter Tryz.func122, Tryz.ntmps122
  go_wp2
  go_quiet (fail)
  go_wp2
  go_loopw [5, 6] (fun p i wr => ∃ (k : Nat) (x : Int), i = .int .i64 k /\ 1 <= k /\ k <= 2 /\ p = .int .i64 x /\ Hid (x = Utf.val (((s[0]).toNat : Int) - 192) (r.take (k - 1))) /\ Below w.heap.size w wr)
   (fun _ i _ => 4 - (intOf i).toNat)
  case atStart => exact ⟨1, _, rfl, by omega, by omega, rfl, Y1 rfl, by first | exact Below.refl _ _ | exact Z0k Y2 _⟩
  case round =>
   obtain ⟨k, x, rfl, hk1, hk, rfl, HX, hbel⟩ := hrel
   by_cases hlt : k < 2
   {have hks : k < s.size := by omega
    have hb8 := (s[k]'hks).toNat_lt
    have hx : -100000000 <= x /\ x <= 100000000 := by
     rw [HX.out]
     exact Utf.Z4v (by omega) (by omega) (by rw [List.length_take]; omega)
    have HN : Hid (x * 64 + (s[k]'hks).toNat - 128 = Utf.val (((s[0]).toNat : Int) - 192) (r.take k)) := Y1 (Z4i s r HL.out HI.out k hk1 hks HX.out)
    obtain ⟨hx1, hx2⟩ := hx
    go_wp2_with fail
    go_roundw
    case rel => exact ⟨k + 1, _, by go_num, by omega, by omega, rfl, HN, hbel⟩
    case measure => simp [intOf]; omega}
   {have hkn : k = 2 := by omega
    subst hkn
    rw [show 2 - 1 = 1 from rfl] at HX
    cases hp : Utf.pt x
    {go_wp2_with fail
     go_quiet ((go_at_call 140; exact Calls.quiet_of_same (flip (Z1g _ _))))
     go_wp2
     go_ret2
     refine ⟨?_, Z0k hbel _⟩
     rw [HR.out, Utf.first, HE.out]
     simp only
     rw [<- HX.out, hp, if_neg (by simp)]
     rfl}
    {go_wp2_with fail
     go_region_held3 (fun w' => Below w.heap.size w w') (first | exact hbel.drew | assumption | exact Z00 (by assumption) (by assumption) | exact Below.drew (by assumption))
      (first | (go_at_call 140; refine (Z1g _ _).mono ?_; rintro e w' ⟨rfl, rfl⟩) | (go_at_call 141; refine (Z2F _ _ hp).mono ?_; rintro e w' ⟨rfl, hb1⟩))
     go_wp2
     {have ht : (!Utf.bytes x == (s.extract 0 2).toList) = true := by assumption
      rw [Z1R, HR.out] at ht
      go_ret2
      refine ⟨?_, by assumption⟩
      rw [HR.out, Utf.first, HE.out]
      simp only
      rw [<- HX.out, if_neg (by rintro ⟨_, _, h3⟩; rw [h3] at ht; simp at ht)]
      rfl}
     {have ht : (!Utf.bytes x == (s.extract 0 2).toList) = false := by assumption
      rw [Z1R, HR.out] at ht
      go_ret2
      refine ⟨?_, by assumption⟩
      rw [HR.out, Utf.first, HE.out]
      simp only
      rw [<- HX.out, if_pos ⟨by have := HL.out; omega, hp, by simpa using ht⟩]
      rfl}}}}
theorem ZfI (s : ByteArray) (h : 0 < s.size) (hs : s.size <= 9223372036854775807) (w : World) (h1 : 224 <= (s[0]).toNat) (h2 : (s[0]).toNat < 240) (e : Utf.lead (s[0]).toNat = (3, ((s[0]).toNat : Int) - 224)) :
 Y9 122 #[.string s] w (duo (Utf.first s.data.toList)) := by
 obtain ⟨r, hr, hl, hi⟩ := Z3X s h
 have ha := (s[0]).toNat_lt
 have he : s.toList.isEmpty = false := by
  rw [ByteArray.toList_mk, hr]; rfl
 have HR := Y1 hr
 have HL := Y1 hl
 have HI := Y1 hi
 have HE := Y1 e
 clear hr hl hi e
 by_cases hn : s.size < 3
 {go_enter Tryz.func122, Tryz.ntmps122
  go_wp2
  go_quiet (fail)
  go_wp2
  go_ret2
  refine ⟨?_, by first | exact Below.refl _ _ | exact Z0k Y2 _⟩
  rw [HR.out, Utf.first, HE.out, if_neg (by have := HL.out; simp only; omega)]
  rfl}
 {go_enter Tryz.func122, Tryz.ntmps122
  go_wp2
  go_quiet (fail)
  go_wp2
  go_loopw [5, 6] (fun p i wr => ∃ (k : Nat) (x : Int), i = .int .i64 k /\ 1 <= k /\ k <= 3 /\ p = .int .i64 x /\ Hid (x = Utf.val (((s[0]).toNat : Int) - 224) (r.take (k - 1))) /\ Below w.heap.size w wr)
   (fun _ i _ => 4 - (intOf i).toNat)
  case atStart => exact ⟨1, _, rfl, by omega, by omega, rfl, Y1 rfl, by first | exact Below.refl _ _ | exact Z0k Y2 _⟩
  case round =>
   obtain ⟨k, x, rfl, hk1, hk, rfl, HX, hbel⟩ := hrel
   by_cases hlt : k < 3
   {have hks : k < s.size := by omega
    have hb8 := (s[k]'hks).toNat_lt
    have hx : -100000000 <= x /\ x <= 100000000 := by
     rw [HX.out]
     exact Utf.Z4v (by omega) (by omega) (by rw [List.length_take]; omega)
    have HN : Hid (x * 64 + (s[k]'hks).toNat - 128 = Utf.val (((s[0]).toNat : Int) - 224) (r.take k)) := Y1 (Z4i s r HL.out HI.out k hk1 hks HX.out)
    obtain ⟨hx1, hx2⟩ := hx
    go_wp2_with fail
    go_roundw
    case rel => exact ⟨k + 1, _, by go_num, by omega, by omega, rfl, HN, hbel⟩
    case measure => simp [intOf]; omega}
   {have hkn : k = 3 := by omega
    subst hkn
    rw [show 3 - 1 = 2 from rfl] at HX
    cases hp : Utf.pt x
    {go_wp2_with fail
     go_quiet ((go_at_call 140; exact Calls.quiet_of_same (flip (Z1g _ _))))
     go_wp2
     go_ret2
     refine ⟨?_, Z0k hbel _⟩
     rw [HR.out, Utf.first, HE.out]
     simp only
     rw [<- HX.out, hp, if_neg (by simp)]
     rfl}
    {go_wp2_with fail
     go_region_held3 (fun w' => Below w.heap.size w w') (first | exact hbel.drew | assumption | exact Z00 (by assumption) (by assumption) | exact Below.drew (by assumption))
      (first | (go_at_call 140; refine (Z1g _ _).mono ?_; rintro e w' ⟨rfl, rfl⟩) | (go_at_call 141; refine (Z2F _ _ hp).mono ?_; rintro e w' ⟨rfl, hb1⟩))
     go_wp2
     {have ht : (!Utf.bytes x == (s.extract 0 3).toList) = true := by assumption
      rw [Z1R, HR.out] at ht
      go_ret2
      refine ⟨?_, by assumption⟩
      rw [HR.out, Utf.first, HE.out]
      simp only
      rw [<- HX.out, if_neg (by rintro ⟨_, _, h3⟩; rw [h3] at ht; simp at ht)]
      rfl}
     {have ht : (!Utf.bytes x == (s.extract 0 3).toList) = false := by assumption
      rw [Z1R, HR.out] at ht
      go_ret2
      refine ⟨?_, by assumption⟩
      rw [HR.out, Utf.first, HE.out]
      simp only
      rw [<- HX.out, if_pos ⟨by have := HL.out; omega, hp, by simpa using ht⟩]
      rfl}}}}
theorem ZfJ (s : ByteArray) (h : 0 < s.size) (hs : s.size <= 9223372036854775807) (w : World) (h1 : 240 <= (s[0]).toNat) (e : Utf.lead (s[0]).toNat = (4, ((s[0]).toNat : Int) - 240)) :
 Y9 122 #[.string s] w (duo (Utf.first s.data.toList)) := by
 obtain ⟨r, hr, hl, hi⟩ := Z3X s h
 have ha := (s[0]).toNat_lt
 have he : s.toList.isEmpty = false := by
  rw [ByteArray.toList_mk, hr]; rfl
 have HR := Y1 hr
 have HL := Y1 hl
 have HI := Y1 hi
 have HE := Y1 e
 clear hr hl hi e
 by_cases hn : s.size < 4
 {go_enter Tryz.func122, Tryz.ntmps122
  go_wp2
  go_quiet (fail)
  go_wp2
  go_ret2
  refine ⟨?_, by first | exact Below.refl _ _ | exact Z0k Y2 _⟩
  rw [HR.out, Utf.first, HE.out, if_neg (by have := HL.out; simp only; omega)]
  rfl}
 {go_enter Tryz.func122, Tryz.ntmps122
  go_wp2
  go_quiet (fail)
  go_wp2
  go_loopw [5, 6] (fun p i wr => ∃ (k : Nat) (x : Int), i = .int .i64 k /\ 1 <= k /\ k <= 4 /\ p = .int .i64 x /\ Hid (x = Utf.val (((s[0]).toNat : Int) - 240) (r.take (k - 1))) /\ Below w.heap.size w wr)
   (fun _ i _ => 4 - (intOf i).toNat)
  case atStart => exact ⟨1, _, rfl, by omega, by omega, rfl, Y1 rfl, by first | exact Below.refl _ _ | exact Z0k Y2 _⟩
  case round =>
   obtain ⟨k, x, rfl, hk1, hk, rfl, HX, hbel⟩ := hrel
   by_cases hlt : k < 4
   {have hks : k < s.size := by omega
    have hb8 := (s[k]'hks).toNat_lt
    have hx : -100000000 <= x /\ x <= 100000000 := by
     rw [HX.out]
     exact Utf.Z4v (by omega) (by omega) (by rw [List.length_take]; omega)
    have HN : Hid (x * 64 + (s[k]'hks).toNat - 128 = Utf.val (((s[0]).toNat : Int) - 240) (r.take k)) := Y1 (Z4i s r HL.out HI.out k hk1 hks HX.out)
    obtain ⟨hx1, hx2⟩ := hx
    go_wp2_with fail
    go_roundw
    case rel => exact ⟨k + 1, _, by go_num, by omega, by omega, rfl, HN, hbel⟩
    case measure => simp [intOf]; omega}
   {have hkn : k = 4 := by omega
    subst hkn
    rw [show 4 - 1 = 3 from rfl] at HX
    cases hp : Utf.pt x
    {go_wp2_with fail
     go_quiet ((go_at_call 140; exact Calls.quiet_of_same (flip (Z1g _ _))))
     go_wp2
     go_ret2
     refine ⟨?_, Z0k hbel _⟩
     rw [HR.out, Utf.first, HE.out]
     simp only
     rw [<- HX.out, hp, if_neg (by simp)]
     rfl}
    {go_wp2_with fail
     go_region_held3 (fun w' => Below w.heap.size w w') (first | exact hbel.drew | assumption | exact Z00 (by assumption) (by assumption) | exact Below.drew (by assumption))
      (first | (go_at_call 140; refine (Z1g _ _).mono ?_; rintro e w' ⟨rfl, rfl⟩) | (go_at_call 141; refine (Z2F _ _ hp).mono ?_; rintro e w' ⟨rfl, hb1⟩))
     go_wp2
     {have ht : (!Utf.bytes x == (s.extract 0 4).toList) = true := by assumption
      rw [Z1R, HR.out] at ht
      go_ret2
      refine ⟨?_, by assumption⟩
      rw [HR.out, Utf.first, HE.out]
      simp only
      rw [<- HX.out, if_neg (by rintro ⟨_, _, h3⟩; rw [h3] at ht; simp at ht)]
      rfl}
     {have ht : (!Utf.bytes x == (s.extract 0 4).toList) = false := by assumption
      rw [Z1R, HR.out] at ht
      go_ret2
      refine ⟨?_, by assumption⟩
      rw [HR.out, Utf.first, HE.out]
      simp only
      rw [<- HX.out, if_pos ⟨by have := HL.out; omega, hp, by simpa using ht⟩]
      rfl}}}}
theorem Z5D (s : ByteArray) (hs : s.size <= 9223372036854775807) (w : World) :
 Y9 122 #[.string s] w (duo (Utf.first s.data.toList)) := by
 by_cases h : 0 < s.size
 {rcases Utf.Z41 (s[0]).toNat with ⟨h1, e⟩ | ⟨h1, h2, e⟩ | ⟨h1, h2, e⟩ | ⟨h1, e⟩
  {exact ZfG s h hs w h1 e}
  {exact ZfH s h hs w h1 h2 e}
  {exact ZfI s h hs w h1 h2 e}
  {exact ZfJ s h hs w h1 e}}
 {obtain rfl : s = ByteArray.empty := by
   rcases s with ⟨⟨l⟩⟩
   match l with
   | [] => rfl
   | a :: r => exact absurd (show 0 < (a :: r).length from Nat.succ_pos _) h
  exact Zao w}
theorem Z8Z (s : ByteArray) (hs : s.size <= 1000000000) (ps : List Int) (rest : List UInt8) (hR : Utf.Reads s.data.toList ps rest) (w : World) :
 Calls Tryz.prog 95 #[.string s] w (Decoded ps rest w) := by
 have hz := Y1 (Lib.size_eq s)
 obtain ⟨i0, hi, hz0, hz1, hz2⟩ := info_parts (P := Tryz.prog) (e := 3) (z := .int .i64 0) (size := 1) (bytes := 8) (by kernel_rfl)
 have hcount : ps.length <= s.size := by
  have h1 := Utf.Z7f ps
  have h2 := (Utf.Z2a hR).2
  rw [<- hz.out] at h2
  omega
 go_enter Tryz.func95, Tryz.ntmps95
 go_wp2_with fail
 generalize hW1 : w.alloc (Obj.cells #[Value.int IntKind.i64 0, Value.int IntKind.i64 0] 116) = W1
 have hf0 : Below w.heap.size w W1 := by rw [<- hW1]; exact Y2.alloc (Nat.le_refl _) _
 have hf1 : w.heap.size < W1.heap.size := by rw [<- hW1]; simp
 have HC : Hid (W1.cell? ⟨w.heap.size, 0, none⟩ = some (.int .i64 0) /\ W1.cell? ⟨w.heap.size, 1, none⟩ = some (.int .i64 0) /\ W1.frozen? ⟨w.heap.size, 0, none⟩ = false /\ W1.frozen? ⟨w.heap.size, 1, none⟩ = false) := by
  rw [<- hW1]
  exact Y1 ⟨by simp [go_sem], by simp [go_sem], by simp [go_sem], by simp [go_sem]⟩
 clear hW1
 go_loopw [4, 5] (fun v i wr => ∃ k a : Nat, i = .int .i64 a /\ k <= ps.length /\ Hid (a = (Utf.enc (ps.take k)).length) /\ wr.ownsRow W1.heap.size 3 1 v k ((ps.take k).map (Value.int .i64)) /\ Below W1.heap.size W1 wr)
  (fun _ i _ => s.size - (intOf i).toNat)
 case atStart => exact ⟨0, 0, rfl, Nat.zero_le _, Y1 rfl, World.ownsRow_nil _ _ _ _, Below.refl _ _⟩
 case round =>
  obtain ⟨k, a, rfl, hk, HA, hown, hb⟩ := hrel
  have hsz := hb.size
  by_cases hlt : k < ps.length
  {obtain ⟨h1, h2, h3⟩ := Utf.Z8k hR k hlt
   rw [<- HA.out] at h1 h3
   rw [<- hz.out] at h3
   obtain ⟨hw1, hw2⟩ := Utf.Z0X ps[k]
   have hak : a < s.size := by omega
   obtain ⟨x, hx⟩ : ∃ x, x = ps[k] := ⟨_, rfl⟩
   have HX := Y1 hx
   rw [<- hx] at h1 h2 h3 hw1 hw2
   have HN : Hid (a + Utf.width x = (Utf.enc (ps.take (k + 1))).length) := Y1 (by rw [h2, List.length_append, Utf.Z0q, <- HA.out])
   have H1 := Y1 h1
   clear h1 h2 hx
   obtain ⟨r, hsl, hr1, hr2, hr3, _, _⟩ := Z59 s a hak
   have HR1 := Y1 hr1
   clear hr1
   have hd0 : ((Utf.width x : Int) == 0) = false := by rw [beq_eq_false_iff_ne]; omega
   have HT : Hid ((ps.take (k + 1)).map (Value.int .i64) = (ps.take k).map (Value.int .i64) ++ [.int .i64 x]) := Y1 (by rw [List.take_succ_eq_append_getElem hlt, List.map_append, HX.out]; rfl)
   go_wp2_with fail
   refine (Z5D r (by omega) _).mono ?_
   rintro e w2 ⟨he, hb2⟩
   have hown2 := hown.kept (Z1l hb2 (Nat.le_refl _) none) (by
    rcases hv : Value.ownBlock u4 with _ | x
    {exact Or.inl rfl}
    · exact Or.inr (by simp))
   have hb3 := hb.trans (hb2.mono hsz)
   have hsz3 := hb3.size
   rw [HR1.out, H1.out, duo] at he
   subst he
   go_wp2_with (at_builtin; refine wpList_append_own _ rfl _ _ 114 rfl W1.heap.size 3 i0 (.int .i64 0) 1 8 Tryz.underlying114 hi hz0 hz1 hz2 rfl (by decide) _ _ _ rfl (hown2.alloc _) ⟨w2.heap.size, 0, none⟩ 1 1 [.int .i64 x] rfl rfl ?c1 ?c2 ?c3 ?c4 ?c5 ?_)
   case c1 =>
    intro i u hu
    match i, hu with
    | 0, hu => simp at hu; subst hu; simp [Addr.add]
   case c2 => intro u hu; simp at hu; subst hu; rfl
   case c3 => unfold maxLen; omega
   case c4 => omega
   case c5 => simp; omega
   intro v' w3 hown3 hgrow _
   go_wp2
   go_roundw
   case rel =>
    refine ⟨k + 1, a + Utf.width x, by go_num, by omega, HN, ?_, (hb3.alloc hsz3 _).grown hgrow (by simp; omega) (fun k hk => (hown2.lt k hk).1)⟩
    rw [HT.out, List.map_take]
    exact hown3
   case measure => simp [intOf]; omega}
  {have hkl : k = ps.length := by omega
   have HP : Hid (ps.take k = ps) := Y1 (List.take_of_length_le (by omega))
   rw [HP.out] at HA hown
   obtain ⟨h1, h2⟩ := Utf.Z2a hR
   rw [<- hz.out, <- HA.out] at h2
   rw [<- HA.out] at h1
   have H1 := Y1 h1
   clear h1
   by_cases hrest : rest = []
   {have hae : ¬ a < s.size := by rw [hrest, List.length_nil] at h2; omega
    obtain ⟨hc0, hc2⟩ := Z0n (o := 0) hb hf1
    obtain ⟨hc1, hc3⟩ := Z0n (o := 1) hb hf1
    obtain ⟨g0, g1, g2, g3⟩ := HC.out
    rw [g0] at hc0
    rw [g1] at hc1
    rw [g2] at hc2
    rw [g3] at hc3
    obtain ⟨A, cap, hv, hI, hAn⟩ := Z5C (ownsRow_setCell_below (a := ⟨w.heap.size, 1, none⟩) (ownsRow_setCell_below (a := ⟨w.heap.size, 0, none⟩) hown hf1 (.int .i64 0)) hf1 (.int .i64 0))
    subst hkl
    clear g0 g1 g2 g3
    go_wp2
    refine bodyPost_ret (v := .tuple #[.slice A ps.length cap, .agg #[.int .i64 0, .int .i64 0]]) (by simp [results, Tryz.results95, go_sem, hv, hc0, hc1]) rfl ?_
    have hbb : Below w.heap.size w wr := hf0.trans (hb.mono (Nat.le_of_lt hf1))
    have hb2 : Below w.heap.size w ((wr.setCell ⟨w.heap.size, 0, none⟩ (.int .i64 0)).setCell ⟨w.heap.size, 1, none⟩ (.int .i64 0)) := (hbb.setCell (Nat.le_refl _) _).setCell (Nat.le_refl _) _
    exact ⟨A, cap, ps, _, rfl, hI, hAn, hb2, Or.inl ⟨hrest, rfl, rfl⟩⟩}
   {have hae : a < s.size := by have := List.length_pos_iff.2 hrest; omega
    obtain ⟨r, hsl, hr1, hr2, hr3, _, _⟩ := Z59 s a hae
    have HR1 := Y1 hr1
    clear hr1
    go_wp2_with fail
    refine (Z5D r (by omega) _).mono ?_
    rintro e w2 ⟨he, hb2⟩
    have hb3 := hb.trans (hb2.mono hsz)
    rw [HR1.out, H1.out, duo] at he
    subst he
    obtain ⟨hc0, hc2⟩ := Z0n (o := 0) hb3 hf1
    obtain ⟨hc1, hc3⟩ := Z0n (o := 1) hb3 hf1
    obtain ⟨g0, g1, g2, g3⟩ := HC.out
    rw [g0] at hc0
    rw [g1] at hc1
    rw [g2] at hc2
    rw [g3] at hc3
    clear g0 g1 g2 g3
    go_wp2
    refine bodyPost_ret (v := .tuple #[.slice none 0 0, .agg #[.int .i64 30, .int .i64 a]]) (by simp [results, Tryz.results95, go_sem, hc0, hc1]) rfl ?_
    have hbb : Below w.heap.size w w2 := hf0.trans (hb3.mono (Nat.le_of_lt hf1))
    refine ⟨none, 0, [], _, rfl, Or.inl rfl, fun _ => ⟨rfl, rfl⟩, (hbb.setCell (Nat.le_refl _) _).setCell (Nat.le_refl _) _, Or.inr ⟨hrest, rfl, by rw [HA.out]⟩⟩}}
theorem Zd6 (s : List UInt8) (hs : s.length <= 1000000000) (w : World) :
 Y9 66 #[.string ⟨s.toArray⟩] w (.bool (Tms.textOk s)) := by
 obtain ⟨ps, rest, hR⟩ := Utf.reads s
 have HR := Y1 hR
 have hz : (⟨s.toArray⟩ : ByteArray).size = s.length := Z04 _
 clear hR
 go_enter Tryz.func66, Tryz.ntmps66
 go_wp2_with fail
 go_loopw [3] (fun ii wr => ∃ i : Nat, ii = .int .i64 i /\ i <= s.length /\ Hid (∀ j (hj : j < s.length), j < i -> Tms.plainB (s[j]'hj) = true) /\ Hid (Below w.heap.size w wr)) (fun i _ => s.length - (intOf i).toNat)
 case atStart => exact ⟨0, rfl, Nat.zero_le _, Y1 (fun j _ hj => absurd hj (by omega)), Y1 Y2⟩
 case round =>
  obtain ⟨i, rfl, hi, HN, HB⟩ := hrel
  by_cases hlt : i < s.length
  {have hi1 : (i : Int) < (s.length : Int) := by omega
   obtain ⟨c, hc⟩ : ∃ c, c = s[i]'hlt := ⟨_, rfl⟩
   have hidx : ∀ W, (Instr.index 9 (.string ⟨s.toArray⟩) (.int .i64 (i : Int))).run Tryz.prog W = .ok (.int .u8 c.toNat) W := fun W => by
    rw [hc]; exact Z0K ⟨s.toArray⟩ i (by rw [hz]; exact hlt) W
   have HC := Y1 hc
   clear hc
   have k9 : ((c.toNat : Int) == 9) = (c == 9) := Z2r c 9 (by decide)
   have k10 : ((c.toNat : Int) == 10) = (c == 10) := Z2r c 10 (by decide)
   have next : Tms.plainB c = true -> Hid (∀ j (hj : j < s.length), j < i + 1 -> Tms.plainB (s[j]'hj) = true) := fun h => Y1 (fun j hj hji => by
    rcases Nat.lt_succ_iff_lt_or_eq.1 hji with h1 | rfl
    {exact HN.out j hj h1}
    · rw [<- HC.out]; exact h)
   by_cases h32 : c.toNat < 32
   {have k32 : (c.toNat : Int) < 32 := by omega
    by_cases h9 : c = 9
    {have e9 : (c == 9) = true := by simpa using h9
     have b9 : ((c.toNat : Int) != 9) = false := by unfold bne; rw [k9, e9]; rfl
     have HP := next (by rw [Tms.Z1t]; exact fun h => h.2.1 h9)
     rw [e9] at k9
     clear next h9 e9 h32
     go_wp2
     go_roundw
     case rel => exact ⟨i + 1, by go_num, by omega, HP, HB⟩
     case measure => simp [intOf]; omega}
    {have e9 : (c == 9) = false := by simpa using h9
     have b9 : ((c.toNat : Int) != 9) = true := by unfold bne; rw [k9, e9]; rfl
     rw [e9] at k9
     by_cases h10 : c = 10
     {have e10 : (c == 10) = true := by simpa using h10
      have b10 : ((c.toNat : Int) != 10) = false := by unfold bne; rw [k10, e10]; rfl
      have HP := next (by rw [Tms.Z1t]; exact fun h => h.2.2 h10)
      rw [e10] at k10
      clear next h9 e9 h10 e10 h32
      go_wp2
      go_roundw
      case rel => exact ⟨i + 1, by go_num, by omega, HP, HB⟩
      case measure => simp [intOf]; omega}
     {have e10 : (c == 10) = false := by simpa using h10
      have b10 : ((c.toNat : Int) != 10) = true := by unfold bne; rw [k10, e10]; rfl
      have HF : Hid (Tms.textOk s = false) := Y1 (Z6B hlt (by
       rw [<- HC.out, Bool.eq_false_iff]
       intro h
       exact (Tms.Z1t c).1 h ⟨h32, h9, h10⟩))
      rw [e10] at k10
      clear next h9 e9 h10 e10 h32
      go_wp2
      go_ret
      exact ⟨by rw [HF.out]; rfl, HB.out⟩}}}
   {have k32 : ¬ (c.toNat : Int) < 32 := by omega
    have HP := next (by rw [Tms.Z1t]; exact fun h => h32 h.1)
    clear next h32
    go_wp2
    go_roundw
    case rel => exact ⟨i + 1, by go_num, by omega, HP, HB⟩
    case measure => simp [intOf]; omega}}
  {have hi1 : ¬ (i : Int) < (s.length : Int) := by omega
   have HT : Hid (Tms.textOk s = Tms.valid s) := Y1 (Z6C (fun j hj => HN.out j hj (by omega)))
   have hd := Z8Z ⟨s.toArray⟩ (by rw [hz]; exact hs) ps rest HR.out wr
   have HD := Y1 hd
   clear hd
   go_wp2_with fail
   refine HD.out.mono ?_
   rintro e w2 ⟨A, cap, zs, f, rfl, _, _, hb2, hf⟩
   have HB2 := Y1 (Z00 HB.out hb2)
   rcases hf with ⟨h1, _, rfl⟩ | ⟨h1, _, rfl⟩
   {have HV : Hid (Tms.textOk s = true) := Y1 (by rw [HT.out]; exact (Tms.Z2B HR.out).2 h1)
    clear hb2 h1 HD
    go_wp2
    go_ret
    exact ⟨by rw [HV.out]; rfl, Z08 HB2.out _⟩}
   {have HV : Hid (Tms.textOk s = false) := Y1 (by
     rw [HT.out, Bool.eq_false_iff]
     exact fun h => h1 ((Tms.Z2B HR.out).1 h))
    clear hb2 h1 HD
    go_wp2
    go_ret
    exact ⟨by rw [HV.out]; rfl, Z08 HB2.out _⟩}}
end Go.Proofs.YtnkdedejfonbmaaGreatDoor
namespace Go.Proofs.YtnkdedejfonbmaaGreatDoor
open Go.RowKit Tms
open Shp (Sh)
theorem Zdf (t : Tm) : ∀ (q : TP) (w : World), TmAt w w.heap.size q t -> deep t <= 1000000 ->
 Calls Tryz.prog 21 #[.agg (Y7 t q)] w
  fun e w' => e = .returned (.int .i64 (deep t : Int)) /\ Below w.heap.size w w' := by
 induction t using Tm.ind with
 | h t ih =>
 intro q w hq hd
 have HM := Y1 hq.small.m
 have HP := Y1 hq.part
 have HD : Hid (deep t = deeps t.parts + 1) := Y1 (deep_eq t)
 have hd2 : deeps t.parts <= 1000000 := by have := HD.out; omega
 have hB := Z07 w t q
 have HB := Y1 hB
 have hb0 := Z02 w (.cells (Y7 t q) 26)
 have HB0 := Y1 hb0
 clear hB hb0 hq hd
 go_enter Tryz.func21, Tryz.ntmps21
 go_wp2_with fail
 generalize hW0 : w.alloc (.cells (Y7 t q) 26) = W0 at HB HB0 ⊢
 clear hW0
 go_loopw [3, 4] (fun nn ii wr => ∃ i : Nat, ii = .int .i64 i /\ i <= t.parts.length /\ nn = .int .i64 (deeps (t.parts.take i) : Int) /\ Below W0.heap.size W0 wr) (fun _ i _ => t.parts.length - (intOf i).toNat)
 case atStart => exact ⟨0, rfl, Nat.zero_le _, rfl, Below.refl _ _⟩
 case round =>
  obtain ⟨i, rfl, hi, rfl, hb⟩ := hrel
  have HBX := Y1 (HB.out.next hb)
  have hm := HM.out
  obtain ⟨_, ⟨_, _, _, _, _, _, _, c4, _⟩, _⟩ := HB.out.next hb
  by_cases hlt : i < t.parts.length
  {rcases HP.out with h0 | ⟨g, off, qs, hqP, hg, hc, hr⟩
   {omega}
   {have hbw : Below w.heap.size w wr := HB0.out.trans (hb.mono HB0.out.size)
    obtain ⟨x, hx⟩ : ∃ x, x = t.parts[i] := ⟨_, rfl⟩
    obtain ⟨p0, p1, p2, p3, p4, p5, p6, p7, p8⟩ := (hc i hlt).keep hg hbw
    have hat : TmAt wr wr.heap.size (qs i) x := by rw [hx]; exact (hr i hlt).next hbw
    have ihx := ih t.parts[i] (List.getElem_mem _) (qs i) wr
    have hdx : deep x <= 1000000 := by rw [hx]; exact Nat.le_trans (deeps_mem (List.getElem_mem _)) hd2
    have HN : Hid (deeps (t.parts.take (i + 1)) = max (deeps (t.parts.take i)) (deep x)) := Y1 (by rw [hx]; exact deeps_next hlt)
    rw [<- hx] at p0 p1 p2 p3 p4 p5 p6 p7 p8 ihx
    have IH := ihx hat hdx
    have htk := deeps_take t.parts i
    rw [hqP] at c4
    clear hx hc hr hat ihx hdx hd2 ih hqP
    have hi1 : (i : Int) < (t.parts.length : Int) := by omega
    generalize deeps (t.parts.take i) = a at HN htk ⊢
    by_cases hgt : (a : Int) < (deep x : Int)
    all_goals
     go_wp2_with (refine IH.mono ?_; rintro e w' ⟨rfl, hb'⟩)
     go_wp2
     go_roundw
     case rel => exact ⟨i + 1, by go_num, by omega, by rw [HN.out]; go_num, hb.trans (hb'.mono hb.size)⟩
     case measure => simp [intOf]; omega}}
  {have hie : i = t.parts.length := by omega
   have HE : Hid (deeps (t.parts.take i) = deeps t.parts) := Y1 (by rw [hie, List.take_length])
   have htk := deeps_take t.parts i
   clear hie
   go_wp2
   go_ret
   exact ⟨by rw [HE.out, HD.out]; go_num, HB0.out.trans (hb.mono HB0.out.size)⟩}
theorem Z9C {l : List Tm} {i m : Nat} (hi : i < l.length) (h : 1 + sizes (l.take i) <= m) : min (1 + sizes (l.take i)) (m + 1) + sizeTo (m - min (1 + sizes (l.take i)) (m + 1)) (l[i]'hi) = min (1 + sizes (l.take (i + 1))) (m + 1) := by
 rw [sizes_next hi]; unfold sizeTo; omega
theorem Z6J (t : Tm) : ∀ (q : TP) (m : Nat) (w : World), TmAt w w.heap.size q t -> m <= 1000000 ->
 Calls Tryz.prog 11 #[.agg (Y7 t q), .int .i64 (m : Int)] w
  fun e w' => e = .returned (.int .i64 (sizeTo m t : Int)) /\ Below w.heap.size w w' := by
 induction t using Tm.ind with
 | h t ih =>
 intro q m w hq hmm
 have HM := Y1 hq.small.m
 have HP := Y1 hq.part
 have HZ : Hid (size t = 1 + sizes t.parts) := Y1 (size_eq t)
 have hB := Z07 w t q
 have HB := Y1 hB
 have hb0 := Z02 w (.cells (Y7 t q) 26)
 have HB0 := Y1 hb0
 clear hB hb0 hq
 go_enter Tryz.func11, Tryz.ntmps11
 go_wp2_with fail
 generalize hW0 : w.alloc (.cells (Y7 t q) 26) = W0 at HB HB0 ⊢
 clear hW0
 go_loopw [5, 6] (fun nn ii wr => ∃ i : Nat, ii = .int .i64 i /\ i <= t.parts.length /\ nn = .int .i64 ((min (1 + sizes (t.parts.take i)) (m + 1) : Nat) : Int) /\ Below W0.heap.size W0 wr) (fun _ i _ => t.parts.length - (intOf i).toNat)
 case atStart => exact ⟨0, rfl, Nat.zero_le _, by rw [List.take_zero]; show Value.int .i64 1 = .int .i64 ((min (1 + 0) (m + 1) : Nat) : Int); rw [Nat.min_eq_left (by omega)]; rfl, Below.refl _ _⟩
 case round =>
  obtain ⟨i, rfl, hi, rfl, hb⟩ := hrel
  have hm := HM.out
  obtain ⟨_, ⟨_, _, _, _, _, _, _, c4, _⟩, _⟩ := HB.out.next hb
  obtain ⟨n, hn⟩ : ∃ n, n = min (1 + sizes (t.parts.take i)) (m + 1) := ⟨_, rfl⟩
  rw [<- hn]
  have HE := Y1 hn
  have hn1 : 1 <= n := by omega
  have hn2 : n <= m + 1 := by omega
  by_cases hlt : i < t.parts.length
  {have hi1 : (i : Int) < (t.parts.length : Int) := by omega
   by_cases hnm : n <= m
   {rcases HP.out with h0 | ⟨g, off, qs, hqP, hg, hc, hr⟩
    {omega}
    {have hbw : Below w.heap.size w wr := HB0.out.trans (hb.mono HB0.out.size)
     obtain ⟨x, hx⟩ : ∃ x, x = t.parts[i] := ⟨_, rfl⟩
     obtain ⟨p0, p1, p2, p3, p4, p5, p6, p7, p8⟩ := (hc i hlt).keep hg hbw
     have hat : TmAt wr wr.heap.size (qs i) x := by rw [hx]; exact (hr i hlt).next hbw
     have ihx := ih t.parts[i] (List.getElem_mem _) (qs i) (m - n) wr
     have HN : Hid (n + sizeTo (m - n) x = min (1 + sizes (t.parts.take (i + 1))) (m + 1)) := Y1 (by rw [hx, hn]; exact Z9C hlt (by omega))
     rw [<- hx] at p0 p1 p2 p3 p4 p5 p6 p7 p8 ihx
     have IH := ihx hat (by omega)
     rw [show ((m - n : Nat) : Int) = (m : Int) - (n : Int) from by omega] at IH
     rw [hqP] at c4
     have hsz : sizeTo (m - n) x <= m - n + 1 := Nat.min_le_right _ _
     have d2 : decide (n <= m) = true := decide_eq_true (by omega)
     have d3 : decide (i < t.parts.length) = true := decide_eq_true (by omega)
     have hnm2 : (n : Int) <= (m : Int) := by omega
     have hmm2 : (m : Int) <= 1000000 := by omega
     generalize sizeTo (m - n) x = z at IH HN hsz
     have hz2 : (n : Int) + (z : Int) <= 1000001 := by omega
     clear hx hc hr hat ihx ih hqP hn
     go_wp2_with (refine IH.mono ?_; rintro e w' ⟨rfl, hb'⟩)
     go_roundw
     case rel => exact ⟨i + 1, by go_num, by omega, by rw [<- HN.out]; go_num, hb.trans (hb'.mono hb.size)⟩
     case measure => simp [intOf]; omega}}
   {have HF : Hid (n = sizeTo m t) := Y1 (by
     have := sizes_take t.parts i
     unfold sizeTo; have := HZ.out; omega)
    have d2 : decide (n <= m) = false := decide_eq_false (by omega)
    have d3 : decide (i < t.parts.length) = true := decide_eq_true (by omega)
    clear hn
    go_wp2
    go_ret
    exact ⟨by rw [<- HF.out]; rfl, HB0.out.trans (hb.mono HB0.out.size)⟩}}
  {have HF : Hid (n = sizeTo m t) := Y1 (by
    rw [show i = t.parts.length from by omega, List.take_length] at hn
    unfold sizeTo; have := HZ.out; omega)
   have d3 : decide (i < t.parts.length) = false := decide_eq_false (by omega)
   clear hn
   go_wp2
   go_ret
   exact ⟨by rw [<- HF.out]; rfl, HB0.out.trans (hb.mono HB0.out.size)⟩}
theorem Z9D (t : Sh) : ∀ (q : Ptr) (w : World), ShAt w w.heap.size q t ->
 Calls Tryz.prog 91 #[.agg (Y8 t q)] w
  fun e w' => e = .returned (.bool (hasOpaque t)) /\ Below w.heap.size w w' := by
 induction t using Shp.Sh.ind with
 | h t ih =>
 intro q w hq
 have HM := Y1 hq.small.m
 have HP := Y1 hq.part
 have HD : Hid (hasOpaque t = (decide (t.kind = 10) || hasOpaques t.parts)) := Y1 (Z4C t)
 have hB := Z0c w t q
 have HB := Y1 hB
 have hb0 := Z02 w (.cells (Y8 t q) 45)
 have HB0 := Y1 hb0
 clear hB hb0 hq
 go_enter Tryz.func91, Tryz.ntmps91
 go_wp2_with fail
 generalize hW0 : w.alloc (.cells (Y8 t q) 45) = W0 at HB HB0 ⊢
 clear hW0
 go_loopw [3] (fun ii wr => ∃ i : Nat, ii = .int .i64 i /\ i <= t.parts.length /\ Hid (∀ j (h : j < t.parts.length), j < i -> hasOpaque (t.parts[j]'h) = false) /\ Below W0.heap.size W0 wr) (fun i _ => t.parts.length - (intOf i).toNat)
 case atStart => exact ⟨0, rfl, Nat.zero_le _, Y1 (fun j _ hj => absurd hj (by omega)), Below.refl _ _⟩
 case round =>
  obtain ⟨i, rfl, hi, HN, hb⟩ := hrel
  have hm := HM.out
  obtain ⟨_, ⟨c0, _, _, _, c4⟩, _⟩ := HB.out.next hb
  by_cases hlt : i < t.parts.length
  {rcases HP.out with h0 | ⟨g, off, qs, hqP, hg, hc, hr⟩
   {omega}
   {have hbw : Below w.heap.size w wr := HB0.out.trans (hb.mono HB0.out.size)
    obtain ⟨x, hx⟩ : ∃ x, x = t.parts[i] := ⟨_, rfl⟩
    obtain ⟨p0, p1, p2, p3, p4⟩ := (hc i hlt).keep hg hbw
    have hat : ShAt wr wr.heap.size (qs i) x := by rw [hx]; exact (hr i hlt).next hbw
    have ihx := ih t.parts[i] (List.getElem_mem _) (qs i) wr
    rw [<- hx] at p0 p1 p2 p3 p4 ihx
    have IH := ihx hat
    rw [hqP] at c4
    have HX := Y1 hx
    clear hx hc hr hat ihx ih hqP
    have hi1 : (i : Int) < (t.parts.length : Int) := by omega
    cases hox : hasOpaque x with
    | true =>
     rw [hox] at IH
     have HF : Hid (hasOpaque t = true) := Y1 (by
      rw [HD.out, Z2n, Bool.or_eq_true]; right
      rw [List.any_eq_true]
      exact ⟨x, by rw [HX.out]; exact List.getElem_mem _, hox⟩)
     go_wp2_with (refine IH.mono ?_; rintro e w' ⟨rfl, hb'⟩)
     go_ret
     exact ⟨by rw [HF.out]; rfl, HB0.out.trans ((hb.trans (hb'.mono hb.size)).mono HB0.out.size)⟩
    | false =>
     rw [hox] at IH
     have HO := Y1 hox
     clear hox
     go_wp2_with (refine IH.mono ?_; rintro e w' ⟨rfl, hb'⟩)
     go_roundw
     case rel => exact ⟨i + 1, by go_num, by omega, Y1 (fun j hj hji => by
      rcases Nat.lt_succ_iff_lt_or_eq.1 hji with h | rfl
      {exact HN.out j hj h}
      · rw [<- HX.out]; exact HO.out), hb.trans (hb'.mono hb.size)⟩
     case measure => simp [intOf]; omega}}
  {have HF : Hid (hasOpaque t = decide (t.kind = 10)) := Y1 (by
    rw [HD.out, Z2n]
    have : t.parts.any hasOpaque = false := by
     rw [List.any_eq_false]
     intro p hp
     obtain ⟨j, hj, rfl⟩ := List.getElem_of_mem hp
     rw [HN.out j hj (by omega)]; simp
    rw [this, Bool.or_false])
   go_wp2
   go_ret
   exact ⟨by rw [HF.out]; congr 2, HB0.out.trans (hb.mono HB0.out.size)⟩}
end Go.Proofs.YtnkdedejfonbmaaGreatDoor
namespace Go.Proofs.YtnkdedejfonbmaaGreatDoor
open Go.RowKit Shp
theorem Z13 (A : Option Addr) (c : Nat) (l : List (List UInt8)) (w : World) (hA : Strs w w.heap.size A (strs l)) (hl : l.length <= 9223372036854775807) (hx : ∀ x ∈ l, x.length <= 9223372036854775807) :
 Y9 62 #[.slice A l.length c, .bool true] w (.bool (areNames l)) := by
 have HA := Y1 hA
 have HX := Y1 hx
 clear hA hx
 go_enter Tryz.func62, Tryz.ntmps62
 go_wp2_with fail
 go_loopw [5] (fun ii wr => ∃ i : Nat, ii = .int .i64 i /\ i <= l.length /\ Hid (∀ j (hj : j < l.length), j < i -> Lex.isName (l[j]'hj) = true /\ ∀ k (hk : k < j), l[k]'(by omega) ≠ l[j]'hj) /\ Below w.heap.size w wr)
  (fun i _ => l.length - (intOf i).toNat)
 case atStart => exact ⟨0, rfl, Nat.zero_le _, Y1 (fun j _ hj => absurd hj (by omega)), Below.refl _ _⟩
 case round =>
  obtain ⟨i, rfl, hi, HN, hb⟩ := hrel
  by_cases hlt : i < l.length
  {have hi1 : (i : Int) < (l.length : Int) := by omega
   rcases (HA.out.next hb).cell7 with h0 | ⟨g, off, rfl, hg, hc⟩
   {omega}
   {have hcell := hc i hlt
    obtain ⟨x, hx⟩ : ∃ x, x = l[i]'hlt := ⟨_, rfl⟩
    rw [<- hx] at hcell
    have hxl : x.length <= 9223372036854775807 := by rw [hx]; exact HX.out _ (List.getElem_mem _)
    have HE := Y1 hx
    have HC := Y1 hc
    clear hx hc
    cases hn : Lex.isName x with
    | false =>
     have HF : Hid (areNames l = false) := Y1 (Z3b hlt (by rw [<- HE.out]; exact hn))
     have hw := Z0W x hxl wr
     rw [hn] at hw
     clear hn
     go_wp2_with (refine hw.mono ?_; rintro e w' ⟨rfl, hb'⟩)
     go_ret
     exact ⟨by rw [HF.out]; rfl, Z00 hb hb'⟩
    | true =>
     have HT : Hid (Lex.isName (l[i]'hlt) = true) := Y1 (by rw [<- HE.out]; exact hn)
     have hw := Z0W x hxl wr
     rw [hn] at hw
     clear hn
     go_wp2_with (refine hw.mono ?_; rintro e w' ⟨rfl, hb'⟩)
     have hbw := Z00 hb hb'
     have HC2 : Hid (∀ j (hj : j < l.length), w'.cell? ⟨g, off + j, none⟩ = some (.string ⟨(l[j]'hj).toArray⟩)) := Y1 (fun j hj => ((hb'.cell (p := ⟨g, off + j, none⟩) hg).trans (HC.out j hj)))
     have hcell2 := HC2.out i hlt
     rw [<- HE.out] at hcell2
     have HH2 := Y1 hcell2
     have HBW := Y1 hbw
     clear hw hb hb' hbw hcell hcell2
     go_loopw [6] (fun kk wr2 => ∃ k : Nat, kk = .int .i64 k /\ k <= i /\ Hid (∀ j (hj : j < i), j < k -> l[j]'(by omega) ≠ l[i]'hlt) /\ Hid (Below w'.heap.size w' wr2))
      (fun k _ => i - (intOf k).toNat)
     case atStart => exact ⟨0, rfl, Nat.zero_le _, Y1 (fun j _ hj => absurd hj (by omega)), Y1 Y2⟩
     case round =>
      obtain ⟨k, rfl, hk, HK, HB2⟩ := hrel
      have hgw : g < w'.heap.size := lt_of_cell HH2.out
      by_cases hki : k < i
      {have hk1 : (k : Int) < (i : Int) := by omega
       have hk2 : (k : Int) < (l.length : Int) := by omega
       have hck := (HB2.out.cell (p := ⟨g, off + k, none⟩) hgw).trans (HC2.out k (by omega))
       have hci := (HB2.out.cell (p := ⟨g, off + i, none⟩) hgw).trans HH2.out
       obtain ⟨y, hy⟩ : ∃ y, y = l[k]'(by omega) := ⟨_, rfl⟩
       rw [<- hy] at hck
       have HY := Y1 hy
       clear hy
       cases hq : (y == x)
       {have HM : Hid (l[k]'(by omega) ≠ l[i]'hlt) := Y1 (by rw [<- HY.out, <- HE.out]; intro h; rw [h] at hq; simp at hq)
        go_wp2_with fail
        go_quiet (fail)
        go_wp2
        go_roundw
        case rel => exact ⟨k + 1, by go_num, by omega, Y1 (fun j hj hji => by
         rcases Nat.lt_succ_iff_lt_or_eq.1 hji with h | rfl
         {exact HK.out j hj h}
         · exact HM.out), Y1 (Z0k HB2.out _)⟩
        case measure => simp [intOf]; omega}
       {have HF : Hid (areNames l = false) := Y1 (Z2m hlt hki (by rw [<- HY.out, <- HE.out]; simpa using hq))
        go_wp2_with fail
        go_quiet (fail)
        go_wp2
        go_ret
        exact ⟨by rw [HF.out]; rfl, Z0k (Z00 HBW.out HB2.out) _⟩}}
      {have hke : k = i := by omega
       have HN2 : Hid (∀ j (hj : j < l.length), j < i + 1 -> Lex.isName (l[j]'hj) = true /\ ∀ k (hk : k < j), l[k]'(by omega) ≠ l[j]'hj) := Y1 (fun j hj hji => by
        rcases Nat.lt_succ_iff_lt_or_eq.1 hji with h | rfl
        {exact HN.out j hj h}
        · exact ⟨HT.out, fun m hm => HK.out m hm (by omega)⟩)
       have hk1 : ¬ (k : Int) < (i : Int) := by omega
       clear hke
       go_wp2
       go_roundw
       case rel => exact ⟨i + 1, by go_num, by omega, HN2, Z00 HBW.out HB2.out⟩
       case measure => simp [intOf]; omega}}}
  {have hi1 : ¬ (i : Int) < (l.length : Int) := by omega
   have HM : Hid (areNames l = true) := Y1 (Z3A (fun j hj => (HN.out j hj (by omega)).1) (fun j hj => (HN.out j hj (by omega)).2))
   go_wp2
   go_ret
   exact ⟨Z03 (by rw [HM.out]), hb⟩}
theorem Z1v (A : Option Addr) (c : Nat) (l : List (List UInt8)) (w : World) (hA : Strs w w.heap.size A (strs l)) (hl : l.length <= 9223372036854775807) (hx : ∀ x ∈ l, x.length <= 9223372036854775807) :
 Y9 62 #[.slice A l.length c, .bool false] w (.bool (l.all Lex.isName)) := by
 have HA := Y1 hA
 have HX := Y1 hx
 clear hA hx
 go_enter Tryz.func62, Tryz.ntmps62
 go_wp2_with fail
 go_loopw [5] (fun ii wr => ∃ i : Nat, ii = .int .i64 i /\ i <= l.length /\ Hid (∀ j (hj : j < l.length), j < i -> Lex.isName (l[j]'hj) = true) /\ Below w.heap.size w wr)
  (fun i _ => l.length - (intOf i).toNat)
 case atStart => exact ⟨0, rfl, Nat.zero_le _, Y1 (fun j _ hj => absurd hj (by omega)), Below.refl _ _⟩
 case round =>
  obtain ⟨i, rfl, hi, HN, hb⟩ := hrel
  by_cases hlt : i < l.length
  {have hi1 : (i : Int) < (l.length : Int) := by omega
   rcases (HA.out.next hb).cell7 with h0 | ⟨g, off, rfl, hg, hc⟩
   {omega}
   {have hcell := hc i hlt
    obtain ⟨x, hx⟩ : ∃ x, x = l[i]'hlt := ⟨_, rfl⟩
    rw [<- hx] at hcell
    have hxl : x.length <= 9223372036854775807 := by rw [hx]; exact HX.out _ (List.getElem_mem _)
    have HE := Y1 hx
    clear hx hc
    cases hn : Lex.isName x with
    | false =>
     have HF : Hid (l.all Lex.isName = false) := Y1 (by
      rw [List.all_eq_false]
      exact ⟨_, List.getElem_mem hlt, by rw [<- HE.out, hn]; decide⟩)
     have hw := Z0W x hxl wr
     rw [hn] at hw
     clear hn
     go_wp2_with (refine hw.mono ?_; rintro e w' ⟨rfl, hb'⟩)
     go_ret
     exact ⟨by rw [HF.out]; rfl, Z00 hb hb'⟩
    | true =>
     have HT : Hid (Lex.isName (l[i]'hlt) = true) := Y1 (by rw [<- HE.out]; exact hn)
     have hw := Z0W x hxl wr
     rw [hn] at hw
     clear hn
     go_wp2_with (refine hw.mono ?_; rintro e w' ⟨rfl, hb'⟩)
     have HBW := Y1 (Z00 hb hb')
     clear hw hb hb' hcell
     go_loopw [6] (fun kk wr2 => kk = .int .i64 0 /\ Hid (Below w'.heap.size w' wr2)) (fun k _ => 0)
     case atStart => exact ⟨rfl, Y1 Y2⟩
     case round =>
      obtain ⟨rfl, HB2⟩ := hrel
      have HN2 : Hid (∀ j (hj : j < l.length), j < i + 1 -> Lex.isName (l[j]'hj) = true) := Y1 (fun j hj hji => by
       rcases Nat.lt_succ_iff_lt_or_eq.1 hji with h | rfl
       {exact HN.out j hj h}
       · exact HT.out)
      by_cases h0 : (0 : Int) < (i : Int)
      all_goals
       go_wp2
       go_roundw
       case rel => exact ⟨i + 1, by go_num, by omega, HN2, Z00 HBW.out HB2.out⟩
       case measure => simp [intOf]; omega}}
  {have hi1 : ¬ (i : Int) < (l.length : Int) := by omega
   have HM : Hid (l.all Lex.isName = true) := Y1 (by
    rw [List.all_eq_true]
    intro y hy
    obtain ⟨j, hj, rfl⟩ := List.getElem_of_mem hy
    exact HN.out j hj (by omega))
   go_wp2
   go_ret
   exact ⟨Z03 (by rw [HM.out]), hb⟩}
theorem Z1p (S : Option Addr) (c : Nat) (l : List Sh) (w : World) (hS : ShsAt w w.heap.size S l) (hl : l.length <= 9223372036854775807) :
 Y9 63 #[.slice S l.length c] w (.bool (Tms.shapesOk l)) := by
 have HS := Y1 hS
 clear hS
 go_enter Tryz.func63, Tryz.ntmps63
 go_wp2_with fail
 go_loopw [3] (fun ii wr => ∃ i : Nat, ii = .int .i64 i /\ i <= l.length /\ Hid (∀ j (hj : j < l.length), j < i -> check (l[j]'hj) = 0 /\ Tms.hasOpaque (l[j]'hj) = false) /\ Hid (Below w.heap.size w wr))
  (fun i _ => l.length - (intOf i).toNat)
 case atStart => exact ⟨0, rfl, Nat.zero_le _, Y1 (fun j _ hj => absurd hj (by omega)), Y1 Y2⟩
 case round =>
  obtain ⟨i, rfl, hi, HN, HB⟩ := hrel
  by_cases hlt : i < l.length
  {have hi1 : (i : Int) < (l.length : Int) := by omega
   rcases HS.out.next HB.out with h0 | ⟨g, off, rs, rfl, hg, hc, hr⟩
   {omega}
   {obtain ⟨x, hx⟩ : ∃ x, x = l[i]'hlt := ⟨_, rfl⟩
    obtain ⟨p0, p1, p2, p3, p4⟩ := hc i hlt
    have HAT : Hid (ShAt wr wr.heap.size (rs i) x) := Y1 (by rw [hx]; exact hr i hlt)
    have H5 : Hid (Sh5 wr g (off + i * 5) x (rs i)) := Y1 (by rw [hx]; exact hc i hlt)
    rw [<- hx] at p0 p1 p2 p3 p4
    have HE := Y1 hx
    have HG := Y1 hg
    clear hx hc hr hg
    by_cases hck : check x = 0
    {have hw := Z5v x (rs i) wr HAT.out
     rw [hck] at hw
     have HCK := Y1 hck
     clear hck
     go_wp2_with fail
     refine hw.mono ?_
     rintro e w2 ⟨rfl, hb2⟩
     have HB2 := Y1 (Z00 HB.out hb2)
     obtain ⟨y0, y1, y2, y3, y4⟩ := H5.out.keep HG.out hb2
     have HOP := Y1 (Z9D x (rs i) w2 (HAT.out.next hb2))
     clear hw hb2 p0 p1 p2 p3 p4
     cases hop : Tms.hasOpaque x
     {rw [hop] at HOP
      have HO := Y1 hop
      clear hop
      go_wp2_with fail
      refine HOP.out.mono ?_
      rintro e w3 ⟨rfl, hb3⟩
      have HB3 := Y1 (Z00 HB2.out hb3)
      clear HOP hb3 y0 y1 y2 y3 y4
      go_wp2
      go_roundw
      case rel => exact ⟨i + 1, by go_num, by omega, Y1 (fun j hj hji => by
       rcases Nat.lt_succ_iff_lt_or_eq.1 hji with h | rfl
       {exact HN.out j hj h}
       · rw [<- HE.out]; exact ⟨HCK.out, HO.out⟩), HB3⟩
      case measure => simp [intOf]; omega}
     {rw [hop] at HOP
      have HF : Hid (Tms.shapesOk l = false) := Y1 (by
       unfold Tms.shapesOk
       rw [List.all_eq_false]
       exact ⟨_, List.getElem_mem hlt, by rw [<- HE.out, hop]; simp⟩)
      clear hop
      go_wp2_with fail
      refine HOP.out.mono ?_
      rintro e w3 ⟨rfl, hb3⟩
      have HB3 := Y1 (Z00 HB2.out hb3)
      clear HOP hb3 y0 y1 y2 y3 y4
      go_wp2
      go_ret
      exact ⟨Z03 (by rw [HF.out]), HB3.out⟩}}
    {have hw := Z5v x (rs i) wr HAT.out
     have n0 : (check x != 0) = true := by simpa using hck
     have n1 : (check x == 0) = false := by simpa using hck
     have HF : Hid (Tms.shapesOk l = false) := Y1 (by
      unfold Tms.shapesOk
      rw [List.all_eq_false]
      exact ⟨_, List.getElem_mem hlt, by rw [<- HE.out]; simp [hck]⟩)
     clear hck
     go_wp2_with fail
     refine hw.mono ?_
     rintro e w2 ⟨rfl, hb2⟩
     have HB2 := Y1 (Z00 HB.out hb2)
     clear hw hb2 p0 p1 p2 p3 p4
     go_wp2
     go_ret
     exact ⟨Z03 (by rw [HF.out]), HB2.out⟩}}}
  {have hi1 : ¬ (i : Int) < (l.length : Int) := by omega
   have HM : Hid (Tms.shapesOk l = true) := Y1 (by
    unfold Tms.shapesOk
    rw [List.all_eq_true]
    intro y hy
    obtain ⟨j, hj, rfl⟩ := List.getElem_of_mem hy
    obtain ⟨h1, h2⟩ := HN.out j hj (by omega)
    simp [h1, h2])
   go_wp2
   go_ret
   exact ⟨Z03 (by rw [HM.out]), HB.out⟩}
theorem Zf9 (t : Tms.Tm) (n v s p : Nat) : Tms.lists t n v s p = (decide ((t.names.length : Int) = n) && decide ((t.vars.length : Int) = v) && decide ((t.shapes.length : Int) = s) && decide ((t.parts.length : Int) = p)) := by
 unfold Tms.lists
 have e : ∀ a b : Nat, decide ((a : Int) = (b : Int)) = decide (a = b) := fun a b => by
  rw [Bool.eq_iff_iff, decide_eq_true_iff, decide_eq_true_iff]; omega
 rw [e, e, e, e]
theorem Z0s (t : Tms.Tm) (q : TP) (n v s p : Nat) (w : World) : Y9 65 #[.agg (Y7 t q), .int .i64 (n : Int), .int .i64 (v : Int), .int .i64 (s : Int), .int .i64 (p : Int)] w (.bool (Tms.lists t n v s p)) := by
 have HL := Y1 (Zf9 t n v s p)
 obtain ⟨a, ha⟩ : ∃ a : Int, a = (t.names.length : Int) := ⟨_, rfl⟩
 by_cases h1 : (t.names.length : Int) = n
 {by_cases h2 : (t.vars.length : Int) = v
  {by_cases h3 : (t.shapes.length : Int) = s
   {by_cases h4 : (t.parts.length : Int) = p
    all_goals
     have HF := Y1 HL.out
     have e1 : ((t.names.length : Int) == n) = true := by simpa using h1
     have e2 : ((t.vars.length : Int) == v) = true := by simpa using h2
     have e3 : ((t.shapes.length : Int) == s) = true := by simpa using h3
     first | (have e4 : ((t.parts.length : Int) == p) = true := by simpa using h4) | (have e4 : ((t.parts.length : Int) == p) = false := by simpa using h4)
     have HV : Hid (Tms.lists t n v s p = ((t.parts.length : Int) == p)) := Y1 (by rw [HL.out, decide_eq_true h1, decide_eq_true h2, decide_eq_true h3]; simp [e4, h4])
     rw [e4] at HV
     clear h1 h2 h3 h4 HF ha
     go_enter Tryz.func65, Tryz.ntmps65
     go_wp2
     go_ret
     exact ⟨Z03 (by rw [HV.out]), Z02 _ _⟩}
   {have HV : Hid (Tms.lists t n v s p = false) := Y1 (by rw [HL.out, decide_eq_false h3]; simp)
    have e1 : ((t.names.length : Int) == n) = true := by simpa using h1
    have e2 : ((t.vars.length : Int) == v) = true := by simpa using h2
    have e3 : ((t.shapes.length : Int) == s) = false := by simpa using h3
    clear h1 h2 h3 ha
    go_enter Tryz.func65, Tryz.ntmps65
    go_wp2
    go_ret
    exact ⟨Z03 (by rw [HV.out]), Z02 _ _⟩}}
  {have HV : Hid (Tms.lists t n v s p = false) := Y1 (by rw [HL.out, decide_eq_false h2]; simp)
   have e1 : ((t.names.length : Int) == n) = true := by simpa using h1
   have e2 : ((t.vars.length : Int) == v) = false := by simpa using h2
   clear h1 h2 ha
   go_enter Tryz.func65, Tryz.ntmps65
   go_wp2
   go_ret
   exact ⟨Z03 (by rw [HV.out]), Z02 _ _⟩}}
 {have HV : Hid (Tms.lists t n v s p = false) := Y1 (by rw [HL.out, decide_eq_false h1]; simp)
  have e1 : ((t.names.length : Int) == n) = false := by simpa using h1
  clear h1 ha
  go_enter Tryz.func65, Tryz.ntmps65
  go_wp2
  go_ret
  exact ⟨Z03 (by rw [HV.out]), Z02 _ _⟩}
end Go.Proofs.YtnkdedejfonbmaaGreatDoor
