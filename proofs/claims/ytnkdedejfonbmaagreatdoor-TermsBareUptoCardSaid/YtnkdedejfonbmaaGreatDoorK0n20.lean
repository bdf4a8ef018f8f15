/- What the proofs of TermsBare, TermsChecks, TermsDeep, TermsSame, TermsSames want, part 20. -/
import Derived.StillTailTactics
import Derived.Deep.RegionHeld3
import Derived.Test.YtnkdedejfonbmaaGreatDoorK0n19
import Derived.Test.YtnkdedejfonbmaaGreatDoorK0n18
set_option linter.unusedVariables false
set_option linter.unusedSimpArgs false
set_option maxRecDepth 100000
set_option maxHeartbeats 16000000
namespace Go.Proofs.YtnkdedejfonbmaaGreatDoor
open Go.RowKit Tms Go.Maps Go.WideMaps
open Shp (Sh)
def placeG {α : Type} (p : α -> Bool) (l : List α) : Int := match l.findIdx? p with
 | some i => (i : Int)
 | none => -1
theorem Z3v {α : Type} {p : α -> Bool} {l : List α} {i : Nat} (hi : i < l.length) (h : p (l[i]'hi) = true) (hn : ∀ j (hj : j < l.length), j < i -> p (l[j]'hj) = false) : placeG p l = (i : Int) := by
 have : l.findIdx? p = some i := List.findIdx?_eq_some_iff_getElem.2 ⟨hi, h, fun j hj => by rw [hn j (by omega) hj]; simp⟩
 unfold placeG; rw [this]
theorem Z2G {α : Type} {p : α -> Bool} {l : List α} (hn : ∀ j (hj : j < l.length), p (l[j]'hj) = false) : placeG p l = -1 := by
 have : l.findIdx? p = none := List.findIdx?_eq_none_iff.2 (fun x hx => by
  obtain ⟨j, hj, rfl⟩ := List.getElem_of_mem hx
  exact hn j hj)
 unfold placeG; rw [this]
theorem Z31 {α : Type} (p : α -> Bool) (l : List α) : decide (0 <= placeG p l) = l.any p := by
 unfold placeG
 cases h : l.findIdx? p with
 | some i =>
  obtain ⟨hi, hp, _⟩ := List.findIdx?_eq_some_iff_getElem.1 h
  show decide ((0 : Int) <= (i : Int)) = _
  rw [decide_eq_true (by omega)]
  exact (List.any_eq_true.2 ⟨_, List.getElem_mem hi, hp⟩).symm
 | none =>
  have := List.findIdx?_eq_none_iff.1 h
  show false = _
  symm
  rw [List.any_eq_false]
  intro x hx; rw [this x hx]; simp
theorem Z3w {α : Type} (p : α -> Bool) (l : List α) : -1 <= placeG p l := by
 unfold placeG
 cases l.findIdx? p with
 | some i => show (-1 : Int) <= (i : Int); omega
 | none => show (-1 : Int) <= -1; omega
theorem Z76 {α : Type} (p : α -> Bool) (l : List α) : l.any (fun x => !p x) = !l.all p := by
 induction l with
 | nil => rfl
 | cons a l ih => simp [ih]
def badName (s : List UInt8) : Bool := !Lex.isName s
theorem Z9o (x : List UInt8) (hx : x.length <= 9223372036854775807) (w : World) : Y9 85 #[.string ⟨x.toArray⟩] w (.bool (badName x)) := by
 have HN := Z0L x hx w
 go_enter Tryz.func85, Tryz.ntmps85
 go_wp2_with fail
 refine HN.mono ?_
 rintro e w' ⟨rfl, rfl⟩
 go_wp2
 go_ret
 exact ⟨rfl, Below.refl _ _⟩
theorem Zb1 (P : Option Addr) (d : Nat) (l : List (List UInt8)) (w : World) (hl : l.length <= 9223372036854775807)
 (hp : Strs w w.heap.size P (strs l))
 (hf : ∀ x ∈ l, x.length <= 9223372036854775807) :
 Y9 113 #[.slice P l.length d, .func (.func 85) #[] #[]] w (.int .i64 (placeG badName l)) := by
 have HP := Y1 hp
 have HF := Y1 hf
 clear hp hf
 go_enter Tryz.func113, Tryz.ntmps113
 go_wp2_with fail
 go_loopw [8] (fun ii wr => ∃ i : Nat, ii = .int .i64 i /\ i <= l.length /\ Hid (∀ j (h : j < l.length), j < i -> badName (l[j]'h) = false) /\ Below w.heap.size w wr) (fun i _ => l.length - (intOf i).toNat)
 case atStart => exact ⟨0, rfl, Nat.zero_le _, Y1 (fun j _ hj => absurd hj (by omega)), Below.refl _ _⟩
 case round =>
  obtain ⟨i, rfl, hi, HN, hb⟩ := hrel
  by_cases hlt : i < l.length
  {rcases (HP.out.next hb).cell7 with h0 | ⟨g, off, rfl, hg, hc⟩
   {omega}
   {obtain ⟨x, hx⟩ : ∃ x, x = l[i]'hlt := ⟨_, rfl⟩
    have p0 := hc i hlt
    rw [<- hx] at p0
    have IH := Z9o x (by rw [hx]; exact HF.out _ (List.getElem_mem _)) wr
    have HX := Y1 hx
    clear hx hc
    have hi1 : (i : Int) < (l.length : Int) := by omega
    cases hox : badName x with
    | true =>
     rw [hox] at IH
     have HV : Hid (placeG badName l = (i : Int)) := Y1 (Z3v hlt (by show badName _ = true; rw [<- HX.out]; exact hox) (fun j hj hji => HN.out j hj hji))
     clear hox
     go_wp2_with fail
     refine IH.mono ?_
     rintro e w' ⟨rfl, hb'⟩
     go_wp2
     go_ret
     exact ⟨Z0v HV.out.symm, Z00 hb hb'⟩
    | false =>
     rw [hox] at IH
     have HO := Y1 hox
     clear hox
     go_wp2_with fail
     refine IH.mono ?_
     rintro e w' ⟨rfl, hb'⟩
     go_wp2
     go_roundw
     case rel => exact ⟨i + 1, by go_num, by omega, Y1 (fun j hj hji => by
      rcases Nat.lt_succ_iff_lt_or_eq.1 hji with h | rfl
      {exact HN.out j hj h}
      · rw [<- HX.out]; exact HO.out), Z00 hb hb'⟩
     case measure => simp [intOf]; omega}}
  {have hi1 : ¬ (i : Int) < (l.length : Int) := by omega
   have HV : Hid (placeG badName l = -1) := Y1 (Z2G (fun j hj => HN.out j hj (by omega)))
   go_wp2
   go_ret
   exact ⟨Z0v HV.out.symm, hb⟩}
theorem Z77 (P : Option Addr) (d : Nat) (l : List (List UInt8)) (w : World) (hl : l.length <= 9223372036854775807)
 (hp : Strs w w.heap.size P (strs l))
 (hf : ∀ x ∈ l, x.length <= 9223372036854775807) :
 Y9 84 #[.slice P l.length d, .func (.func 85) #[] #[]] w (.bool (l.any badName)) := by
 have HI := Zb1 P d l w hl hp hf
 have HV := Y1 (Z31 badName l)
 have hge := Z3w badName l
 generalize placeG badName l = r at HI HV hge
 clear hp hf
 go_enter Tryz.func84, Tryz.ntmps84
 go_wp2_with fail
 refine HI.mono ?_
 rintro e w' ⟨rfl, hb'⟩
 go_wp2
 go_ret
 exact ⟨Z03 HV.out, hb'⟩
theorem Z3Z (P : Option Addr) (d : Nat) (l : List (List UInt8)) (w : World) (hp : Strs w w.heap.size P (strs l)) (hl : l.length <= 9223372036854775807) (hx : ∀ x ∈ l, x.length <= 9223372036854775807) :
 Y9 58 #[.slice P l.length d] w (.bool (l.all Lex.isName)) := by
 have HC := Z77 P d l w hl hp hx
 have HV : Hid (l.any badName = !l.all Lex.isName) := Y1 (Z76 Lex.isName l)
 rw [HV.out] at HC
 clear hp hx
 go_enter Tryz.func58, Tryz.ntmps58
 go_wp2_with fail
 refine HC.mono ?_
 rintro e w' ⟨rfl, hb⟩
 go_wp2
 go_ret
 exact ⟨Z03 (by simp), hb⟩
theorem ZeV (P : Option Addr) (d : Nat) (l : List Sh) (w : World) (hl : l.length <= 9223372036854775807)
 (hp : ShsAt w w.heap.size P l)
 (hf : ∀ x ∈ l, ∀ (q : Ptr) (w : World), ShAt w w.heap.size q x -> Y9 89 #[.agg (Y8 x q)] w (.bool (hasOpaque x))) :
 Y9 114 #[.slice P l.length d, .func (.func 89) #[] #[]] w (.int .i64 (placeG hasOpaque l)) := by
 have HP := Y1 hp
 have HF := Y1 hf
 clear hp hf
 go_enter Tryz.func114, Tryz.ntmps114
 go_wp2_with fail
 go_loopw [8] (fun ii wr => ∃ i : Nat, ii = .int .i64 i /\ i <= l.length /\ Hid (∀ j (h : j < l.length), j < i -> hasOpaque (l[j]'h) = false) /\ Below w.heap.size w wr) (fun i _ => l.length - (intOf i).toNat)
 case atStart => exact ⟨0, rfl, Nat.zero_le _, Y1 (fun j _ hj => absurd hj (by omega)), Below.refl _ _⟩
 case round =>
  obtain ⟨i, rfl, hi, HN, hb⟩ := hrel
  by_cases hlt : i < l.length
  {rcases HP.out.next hb with h0 | ⟨g, off, qs, rfl, hg, hc, hr⟩
   {omega}
   {obtain ⟨x, hx⟩ : ∃ x, x = l[i]'hlt := ⟨_, rfl⟩
    obtain ⟨p0, p1, p2, p3, p4⟩ := hc i hlt
    have hat : ShAt wr wr.heap.size (qs i) x := by rw [hx]; exact hr i hlt
    have ihx := HF.out l[i] (List.getElem_mem _) (qs i) wr
    rw [<- hx] at p0 p1 p2 p3 p4 ihx
    have IH := ihx hat
    have HX := Y1 hx
    clear hx hc hr hat ihx
    have hi1 : (i : Int) < (l.length : Int) := by omega
    cases hox : hasOpaque x with
    | true =>
     rw [hox] at IH
     have HV : Hid (placeG hasOpaque l = (i : Int)) := Y1 (Z3v hlt (by show hasOpaque _ = true; rw [<- HX.out]; exact hox) (fun j hj hji => HN.out j hj hji))
     clear hox
     go_wp2_with fail
     refine IH.mono ?_
     rintro e w' ⟨rfl, hb'⟩
     go_wp2
     go_ret
     exact ⟨Z0v HV.out.symm, Z00 hb hb'⟩
    | false =>
     rw [hox] at IH
     have HO := Y1 hox
     clear hox
     go_wp2_with fail
     refine IH.mono ?_
     rintro e w' ⟨rfl, hb'⟩
     go_wp2
     go_roundw
     case rel => exact ⟨i + 1, by go_num, by omega, Y1 (fun j hj hji => by
      rcases Nat.lt_succ_iff_lt_or_eq.1 hji with h | rfl
      {exact HN.out j hj h}
      · rw [<- HX.out]; exact HO.out), Z00 hb hb'⟩
     case measure => simp [intOf]; omega}}
  {have hi1 : ¬ (i : Int) < (l.length : Int) := by omega
   have HV : Hid (placeG hasOpaque l = -1) := Y1 (Z2G (fun j hj => HN.out j hj (by omega)))
   go_wp2
   go_ret
   exact ⟨Z0v HV.out.symm, hb⟩}
theorem Z9p (P : Option Addr) (d : Nat) (l : List Sh) (w : World) (hl : l.length <= 9223372036854775807)
 (hp : ShsAt w w.heap.size P l)
 (hf : ∀ x ∈ l, ∀ (q : Ptr) (w : World), ShAt w w.heap.size q x -> Y9 89 #[.agg (Y8 x q)] w (.bool (hasOpaque x))) :
 Y9 86 #[.slice P l.length d, .func (.func 89) #[] #[]] w (.bool (l.any hasOpaque)) := by
 have HI := ZeV P d l w hl hp hf
 have HV := Y1 (Z31 hasOpaque l)
 have hge := Z3w hasOpaque l
 generalize placeG hasOpaque l = r at HI HV hge
 clear hp hf
 go_enter Tryz.func86, Tryz.ntmps86
 go_wp2_with fail
 refine HI.mono ?_
 rintro e w' ⟨rfl, hb'⟩
 go_wp2
 go_ret
 exact ⟨Z03 HV.out, hb'⟩
theorem Z6D (t : Sh) : ∀ (q : Ptr) (w : World), ShAt w w.heap.size q t ->
 Y9 89 #[.agg (Y8 t q)] w (.bool (hasOpaque t)) := by
 induction t using Shp.Sh.ind with
 | h t ih =>
 intro q w hq
 have hb0 := Z02 w (.cells (Y8 t q) 45)
 have HC := Z9p q.P q.d t.parts _ hq.small.m (by
  rcases (hq.next hb0).part with h0 | h1
  {exact Or.inl h0}
  · exact Or.inr h1) (fun x hx q' w' hat => ih x hx q' w' hat)
 have HD := Y1 (Z4C t)
 have HA := Y1 (Z2n t.parts)
 have HB0 := Y1 hb0
 obtain ⟨_, ⟨c0, c1, c2, c3, c4⟩, _⟩ := Z0c w t q
 clear hb0 hq ih
 by_cases hk : t.kind = 10
 {have HF : Hid (hasOpaque t = true) := Y1 (by rw [HD.out, decide_eq_true hk]; rfl)
  have hk2 := Y4 10 hk rfl
  clear hk
  go_enter Tryz.func89, Tryz.ntmps89
  go_wp2
  go_ret
  exact ⟨by rw [HF.out]; rfl, HB0.out⟩}
 {have HF : Hid (hasOpaque t = t.parts.any hasOpaque) := Y1 (by rw [HD.out, decide_eq_false hk, HA.out]; rfl)
  have hk2 : (t.kind == 10) = false := by rw [beq_eq_false_iff_ne]; exact hk
  clear hk
  go_enter Tryz.func89, Tryz.ntmps89
  go_wp2_with fail
  refine HC.mono ?_
  rintro e w' ⟨rfl, hb2⟩
  go_wp2
  go_ret
  exact ⟨Z03 HF.out.symm, Z00 HB0.out hb2⟩}
def badType (s : Sh) : Bool := !(decide (Shp.check s = 0) && !hasOpaque s)
theorem Z9q (t : Sh) (q : Ptr) (w : World) (hq : ShAt w w.heap.size q t) (hg : WGlobs w) :
 Y9 87 #[.agg (Y8 t q)] w (.bool (badType t)) := by
 have hb0 := Z02 w (.cells (Y8 t q) 45)
 have HK := Z5A t q _ (hq.next hb0) (hg.next hb0)
 have HO := Y1 (fun W (h : Below w.heap.size w W) => Z6D t q W (hq.next h))
 have HB0 := Y1 hb0
 have HB := Y1 (Z0c w t q)
 have HD : Hid (badType t = !(decide (Shp.check t = 0) && !hasOpaque t)) := Y1 rfl
 obtain ⟨_, ⟨c0, c1, c2, c3, c4⟩, _⟩ := HB.out
 clear hb0 hq hg
 by_cases h0 : Shp.check t = 0
 {have HF : Hid (badType t = hasOpaque t) := Y1 (by rw [HD.out, decide_eq_true h0]; simp)
  rw [h0] at HK
  clear h0
  go_enter Tryz.func87, Tryz.ntmps87
  go_wp2_with fail
  refine HK.mono ?_
  rintro e w1 ⟨rfl, hb1⟩
  have hbw := Z00 HB0.out hb1
  have hd := HO.out w1 hbw
  obtain ⟨_, ⟨d0, d1, d2, d3, d4⟩, _⟩ := HB.out.next hb1
  have HBW := Y1 hbw
  clear hbw hb1 HK c0 c1 c2 c3 c4
  go_wp2_with fail
  refine hd.mono ?_
  rintro e w' ⟨rfl, hb2⟩
  go_wp2
  go_ret
  exact ⟨Z03 HF.out.symm, Z00 HBW.out hb2⟩}
 {have HF : Hid (badType t = true) := Y1 (by rw [HD.out, decide_eq_false h0]; rfl)
  have n0 : (Shp.check t != 0) = true := by simpa using h0
  have e0 : (Shp.check t == 0) = false := by simpa using h0
  clear h0
  go_enter Tryz.func87, Tryz.ntmps87
  go_wp2_with fail
  refine HK.mono ?_
  rintro e w1 ⟨rfl, hb1⟩
  go_wp2
  go_ret
  exact ⟨Z03 HF.out.symm, Z00 HB0.out hb1⟩}
theorem Zb2 (P : Option Addr) (d : Nat) (l : List Sh) (w : World) (hl : l.length <= 9223372036854775807)
 (hp : ShsAt w w.heap.size P l) (hg : WGlobs w)
 (hf : True) :
 Y9 114 #[.slice P l.length d, .func (.func 87) #[] #[]] w (.int .i64 (placeG badType l)) := by
 have HP := Y1 hp
 have HF := Y1 hf
 have HG := Y1 hg
 clear hg
 clear hp hf
 go_enter Tryz.func114, Tryz.ntmps114
 go_wp2_with fail
 go_loopw [8] (fun ii wr => ∃ i : Nat, ii = .int .i64 i /\ i <= l.length /\ Hid (∀ j (h : j < l.length), j < i -> badType (l[j]'h) = false) /\ Below w.heap.size w wr) (fun i _ => l.length - (intOf i).toNat)
 case atStart => exact ⟨0, rfl, Nat.zero_le _, Y1 (fun j _ hj => absurd hj (by omega)), Below.refl _ _⟩
 case round =>
  obtain ⟨i, rfl, hi, HN, hb⟩ := hrel
  by_cases hlt : i < l.length
  {rcases HP.out.next hb with h0 | ⟨g, off, qs, rfl, hg, hc, hr⟩
   {omega}
   {obtain ⟨x, hx⟩ : ∃ x, x = l[i]'hlt := ⟨_, rfl⟩
    obtain ⟨p0, p1, p2, p3, p4⟩ := hc i hlt
    have hat : ShAt wr wr.heap.size (qs i) x := by rw [hx]; exact hr i hlt
    rw [<- hx] at p0 p1 p2 p3 p4
    have IH := Z9q x (qs i) wr hat (HG.out.next hb)
    have HX := Y1 hx
    clear hx hc hr hat
    have hi1 : (i : Int) < (l.length : Int) := by omega
    cases hox : badType x with
    | true =>
     rw [hox] at IH
     have HV : Hid (placeG badType l = (i : Int)) := Y1 (Z3v hlt (by show badType _ = true; rw [<- HX.out]; exact hox) (fun j hj hji => HN.out j hj hji))
     clear hox
     go_wp2_with fail
     refine IH.mono ?_
     rintro e w' ⟨rfl, hb'⟩
     go_wp2
     go_ret
     exact ⟨Z0v HV.out.symm, Z00 hb hb'⟩
    | false =>
     rw [hox] at IH
     have HO := Y1 hox
     clear hox
     go_wp2_with fail
     refine IH.mono ?_
     rintro e w' ⟨rfl, hb'⟩
     go_wp2
     go_roundw
     case rel => exact ⟨i + 1, by go_num, by omega, Y1 (fun j hj hji => by
      rcases Nat.lt_succ_iff_lt_or_eq.1 hji with h | rfl
      {exact HN.out j hj h}
      · rw [<- HX.out]; exact HO.out), Z00 hb hb'⟩
     case measure => simp [intOf]; omega}}
  {have hi1 : ¬ (i : Int) < (l.length : Int) := by omega
   have HV : Hid (placeG badType l = -1) := Y1 (Z2G (fun j hj => HN.out j hj (by omega)))
   go_wp2
   go_ret
   exact ⟨Z0v HV.out.symm, hb⟩}
theorem Z78 (P : Option Addr) (d : Nat) (l : List Sh) (w : World) (hl : l.length <= 9223372036854775807)
 (hp : ShsAt w w.heap.size P l) (hg : WGlobs w)
 (hf : True) :
 Y9 86 #[.slice P l.length d, .func (.func 87) #[] #[]] w (.bool (l.any badType)) := by
 have HI := Zb2 P d l w hl hp hg hf
 have HV := Y1 (Z31 badType l)
 have hge := Z3w badType l
 generalize placeG badType l = r at HI HV hge
 clear hp hf
 go_enter Tryz.func86, Tryz.ntmps86
 go_wp2_with fail
 refine HI.mono ?_
 rintro e w' ⟨rfl, hb'⟩
 go_wp2
 go_ret
 exact ⟨Z03 HV.out, hb'⟩
theorem Z89 (P : Option Addr) (d : Nat) (l : List Sh) (w : World) (hp : ShsAt w w.heap.size P l) (hl : l.length <= 9223372036854775807) (hg : WGlobs w) :
 Y9 60 #[.slice P l.length d] w (.bool (shapesOk l)) := by
 have HC := Z78 P d l w hl hp hg trivial
 have HV : Hid (l.any badType = !shapesOk l) := Y1 (Z76 (fun s => decide (Shp.check s = 0) && !hasOpaque s) l)
 rw [HV.out] at HC
 clear hp
 go_enter Tryz.func60, Tryz.ntmps60
 go_wp2_with fail
 refine HC.mono ?_
 rintro e w' ⟨rfl, hb⟩
 go_wp2
 go_ret
 exact ⟨Z03 (by simp), hb⟩
theorem Z6E (l : List (List UInt8)) : ∀ k, k <= l.length -> Maps.size (seenOf l k) <= k /\ (Maps.size (seenOf l k) = k ↔ (l.take k).Nodup)
 | 0, _ => by rw [Z4M]; simp [Maps.size]
 | k + 1, hk => by
  obtain ⟨h1, h2⟩ := Z6E l k (by omega)
  have ht : Tidy (seenOf l k) := tidy_setOf _ _ (fun y hy => by obtain ⟨_, _, rfl⟩ := List.mem_map.1 hy; trivial)
  rw [Z4N l k hk, size_put ht, Z8M, Shp.Z0C hk, List.nodup_append]
  cases hin : (l.take k).contains (l[k]'hk) with
  | true =>
   have hm := List.contains_iff_mem.1 hin
   rw [if_pos rfl]
   refine ⟨by omega, fun h => by omega, fun ⟨_, _, h⟩ => absurd rfl (h _ hm _ (by simp))⟩
  | false =>
   have hm : l[k]'hk ∉ l.take k := fun h => by rw [List.contains_iff_mem.2 h] at hin; cases hin
   rw [if_neg (by decide)]
   refine ⟨by omega, fun h => ⟨h2.1 (by omega), by simp, fun a ha b hb e => ?_⟩, fun ⟨h, _, _⟩ => by rw [h2.2 h]⟩
   obtain rfl : b = l[k]'hk := by simpa using hb
   exact hm (e ▸ ha)
theorem Zd7 (l : List (List UInt8)) : (((Maps.size (seenOf l l.length) : Nat) : Int) == (l.length : Int)) = Shp.noDup l := by
 obtain ⟨_, h⟩ := Z6E l l.length (Nat.le_refl _)
 rw [List.take_length, <- Shp.Z7g] at h
 rw [Bool.eq_iff_iff, <- h, beq_iff_eq]
 omega
theorem Z8a (A : Option Addr) (c : Nat) (l : List (List UInt8)) (w : World) (hA : Strs w w.heap.size A (strs l)) (hl : l.length <= 9223372036854775807) (hx : ∀ x ∈ l, x.length <= 9223372036854775807) :
 Y9 59 #[.slice A l.length c] w (.bool (Shp.noDup l)) := by
 have hmm := @run_makeMap Tryz.prog
 have HA := Y1 hA
 have HX := Y1 hx
 have HS := Y1 (Zd7 l)
 clear hA hx
 go_enter Tryz.func59, Tryz.ntmps59
 go_wp2_with fail
 go_loopw [9] (fun ii wr => ∃ k : Nat, k <= l.length /\ ii = .int .i64 k /\ wr.ownsMap Tryz.prog 9 unitElem w.heap.size k (seenOf l k) /\ Below w.heap.size w wr)
  (fun i _ => l.length - (intOf i).toNat)
 case atStart => exact ⟨0, Nat.zero_le _, rfl, by rw [Z4M]; exact World.ownsMap_made _ _ _ _, Y2.alloc (Nat.le_refl _) _⟩
 case round =>
  obtain ⟨k, hk, rfl, hown, hb⟩ := hrel
  by_cases hlt : k < l.length
  {have hi1 : (k : Int) < (l.length : Int) := by omega
   rcases (HA.out.next hb).cell7 with h0 | ⟨g, off, rfl, hg, hc⟩
   {omega}
   {have hcell := hc k hlt
    obtain ⟨x, hx⟩ : ∃ x, x = l[k]'hlt := ⟨_, rfl⟩
    rw [<- hx] at hcell
    have hxl : x.length <= 9223372036854775807 := by rw [hx]; exact HX.out _ (List.getElem_mem _)
    have HE := Y1 hx
    have hkey : keyOf Tryz.prog 9 (.string ⟨x.toArray⟩) = some (.string x) := keyOf_string_mk Tryz.underlying9 (by rw [Z04]; unfold maxLen; exact hxl)
    clear hx hc
    have HBB := Y1 hb
    clear hb
    go_wp2_with (at_mapUpdate; refine wpList_mapUpdate_own _ rfl _ _ _ 107 rfl 9 108 Z3U Tryz.underlying107 (unitElem (H := Unit)) w.heap.size k _ rfl hown (by unfold maxLen; omega) _ _ _ rfl rfl hkey _ [] unitElem_mk ?_; intro w1 hown1 hgrow1)
    go_roundw
    case rel =>
     refine ⟨k + 1, by omega, by go_num, ?_, ?_⟩
     {rw [Z4N l k hlt, <- HE.out]; exact hown1}
     {exact HBB.out.grown hgrow1 HBB.out.size (fun j hj => by cases hj; exact Nat.le_refl _)}
    case measure => simp [intOf]; omega}}
  {have hie : k = l.length := by omega
   have HW : Hid (wr.ownsMap Tryz.prog 9 (unitElem (H := Unit)) w.heap.size l.length (seenOf l l.length)) := Y1 (by rw [<- hie]; exact hown)
   have hi1 : ¬ (k : Int) < (l.length : Int) := by omega
   have HBB := Y1 hb
   have hs := HS.out
   clear hb hown hie
   go_wp2_with (at_len; refine wpList_len_own _ rfl _ 107 rfl 9 108 Tryz.underlying107 _ w.heap.size l.length (seenOf l l.length) rfl HW.out ?_)
   go_ret
   exact ⟨rfl, HBB.out⟩}
end Go.Proofs.YtnkdedejfonbmaaGreatDoor
namespace Go.Proofs.YtnkdedejfonbmaaGreatDoor
open Go.RowKit Tms
open Shp (Sh)
theorem Z9r (t : Tm) (q : TP) (w : World) (hs : TSmall t q) (hmn : t.names.length <= 9223372036854775806) :
 Calls Tryz.prog 57 #[.agg #[.int .i64 t.kind, .string ⟨t.of_.toArray⟩, .string ⟨t.name.toArray⟩, .int .i64 t.n, .slice q.A t.names.length q.c, .slice q.V t.vars.length q.e, .slice q.S t.shapes.length q.s, .slice q.P t.parts.length q.d, .int .i64 t.at_]] w fun e w' => e = .returned (.bool (cntB t)) /\ Below w.heap.size w w' := by
 unfold cntB
 have hv := hs.v
 have hsh := hs.sh
 have hm := hs.m
 generalize t.names.length = n at *
 generalize t.vars.length = v at *
 generalize t.shapes.length = s at *
 generalize t.parts.length = p at *
 generalize t.kind = k
 clear hs
 by_cases h : k < 1 \/ 17 < k
 {have : cntN k n v s p = false := by
   unfold cntN
   rw [if_neg (by omega), if_neg (by omega), if_neg (by omega), if_neg (by omega), if_neg (by omega), if_neg (by omega), if_neg (by omega), if_neg (by omega), if_neg (by omega), if_neg (by omega)]
  rw [this]
  exact ZhF k _ _ _ _ _ _ _ _ _ _ _ _ _ _ _ _ w h hmn hv hsh hm}
 have : k = 1 \/ k = 2 \/ k = 3 \/ k = 4 \/ k = 5 \/ k = 6 \/ k = 7 \/ k = 8 \/ k = 9 \/ k = 10 \/ k = 11 \/ k = 12 \/ k = 13 \/ k = 14 \/ k = 15 \/ k = 16 \/ k = 17 := by omega
 rcases this with rfl | rfl | rfl | rfl | rfl | rfl | rfl | rfl | rfl | rfl | rfl | rfl | rfl | rfl | rfl | rfl | rfl
 {exact ZhY _ _ _ _ _ _ _ _ _ _ _ _ _ _ _ _ w hmn hv hsh hm}
 {exact ZhZ _ _ _ _ _ _ _ _ _ _ _ _ _ _ _ _ w hmn hv hsh hm}
 {exact Zi0 _ _ _ _ _ _ _ _ _ _ _ _ _ _ _ _ w hmn hv hsh hm}
 {exact Zi1 _ _ _ _ _ _ _ _ _ _ _ _ _ _ _ _ w hmn hv hsh hm}
 {exact Zi2 _ _ _ _ _ _ _ _ _ _ _ _ _ _ _ _ w hmn hv hsh hm}
 {exact Zi3 _ _ _ _ _ _ _ _ _ _ _ _ _ _ _ _ w hmn hv hsh hm}
 {exact Zi4 _ _ _ _ _ _ _ _ _ _ _ _ _ _ _ _ w hmn hv hsh hm}
 {exact Zi5 _ _ _ _ _ _ _ _ _ _ _ _ _ _ _ _ w hmn hv hsh hm}
 {exact Zi6 _ _ _ _ _ _ _ _ _ _ _ _ _ _ _ _ w hmn hv hsh hm}
 {exact Zhx _ _ _ _ _ _ _ _ _ _ _ _ _ _ _ _ w hmn hv hsh hm}
 {exact Zhy _ _ _ _ _ _ _ _ _ _ _ _ _ _ _ _ w hmn hv hsh hm}
 {exact Zhz _ _ _ _ _ _ _ _ _ _ _ _ _ _ _ _ w hmn hv hsh hm}
 {exact ZhA _ _ _ _ _ _ _ _ _ _ _ _ _ _ _ _ w hmn hv hsh hm}
 {exact ZhB _ _ _ _ _ _ _ _ _ _ _ _ _ _ _ _ w hmn hv hsh hm}
 {exact ZhC _ _ _ _ _ _ _ _ _ _ _ _ _ _ _ _ w hmn hv hsh hm}
 {exact ZhD _ _ _ _ _ _ _ _ _ _ _ _ _ _ _ _ w hmn hv hsh hm}
 {exact ZhE _ _ _ _ _ _ _ _ _ _ _ _ _ _ _ _ w hmn hv hsh hm}
theorem Zd8 (t : Tm) (q : TP) (w : World) (hq : TmAt w w.heap.size q t) (hg : WGlobs w) (hu : Z0l w) (hmn : t.names.length <= 9223372036854775806) :
 Y9 31 #[.agg (Y7 t q)] w (.bool (fits t)) := by
 have HB := Y1 (Z07 w t q)
 have HB0 := Y1 (Z02 w (.cells (Y7 t q) 26))
 have C1 := Y1 (fun (W : World) (h : Below w.heap.size w W) => Z9k t q W)
 have C2 := Y1 (fun (W : World) (h : Below w.heap.size w W) => Zb0 t q W hq.small.o)
 have C3 := Y1 (fun (W : World) (h : Below w.heap.size w W) => Z88 t q W hq.small.n (hu.next h))
 have C4 := Y1 (fun (W : World) (h : Below w.heap.size w W) => Z9r t q W hq.small hmn)
 have C5 := Y1 (fun (W : World) (h : Below w.heap.size w W) => Z3Z q.A q.c t.names W (hq.next h).strs hq.small.l hq.small.ns)
 have C6 := Y1 (fun (W : World) (h : Below w.heap.size w W) => Z8a q.A q.c t.names W (hq.next h).strs hq.small.l hq.small.ns)
 have C7 := Y1 (fun (W : World) (h : Below w.heap.size w W) => Z3Z q.V q.e t.vars W (hq.next h).vars hq.small.v hq.small.vs)
 have C8 := Y1 (fun (W : World) (h : Below w.heap.size w W) => Z89 q.S q.s t.shapes W (hq.next h).shapes hq.small.sh (hg.next h))
 have HF : Hid (fits t = (decide (0 <= t.at_) && numB t && ofB t && nameB t && cntB t && t.names.all Lex.isName && Shp.noDup t.names && t.vars.all Lex.isName && shapesOk t.shapes)) := Y1 (Zgb t).symm
 generalize numB t = b1 at C1 HF
 generalize ofB t = b2 at C2 HF
 generalize nameB t = b3 at C3 HF
 generalize cntB t = b4 at C4 HF
 generalize t.names.all Lex.isName = b5 at C5 HF
 generalize Shp.noDup t.names = b6 at C6 HF
 generalize t.vars.all Lex.isName = b7 at C7 HF
 generalize shapesOk t.shapes = b8 at C8 HF
 obtain ⟨_, ⟨c0, c1, c2, c3, c4, c5, c6, c7, c8⟩, _⟩ := HB.out
 clear hq hg hu hmn
 by_cases h0 : 0 <= t.at_
 {rw [decide_eq_true h0] at HF
  go_enter Tryz.func31, Tryz.ntmps31
  go_wp2_with fail
  refine (C1.out _ HB0.out).mono ?_
  rintro e w1 ⟨rfl, hb⟩
  have BW1 := Y1 (Z00 HB0.out hb)
  have BX1 := Y1 (HB.out.next hb)
  clear hb c0 c1 c2 c3 c4 c5 c6 c7 c8
  obtain ⟨_, ⟨c0, c1, c2, c3, c4, c5, c6, c7, c8⟩, _⟩ := BX1.out
  cases b1
  {go_wp2
   go_ret
   exact ⟨Z03 (by rw [HF.out]; simp), BW1.out⟩}
  go_wp2_with fail
  refine (C2.out _ BW1.out).mono ?_
  rintro e w2 ⟨rfl, hb⟩
  have BW2 := Y1 (Z00 BW1.out hb)
  have BX2 := Y1 (BX1.out.next hb)
  clear hb c0 c1 c2 c3 c4 c5 c6 c7 c8
  obtain ⟨_, ⟨c0, c1, c2, c3, c4, c5, c6, c7, c8⟩, _⟩ := BX2.out
  cases b2
  {go_wp2
   go_ret
   exact ⟨Z03 (by rw [HF.out]; simp), BW2.out⟩}
  go_wp2_with fail
  refine (C3.out _ BW2.out).mono ?_
  rintro e w3 ⟨rfl, hb⟩
  have BW3 := Y1 (Z00 BW2.out hb)
  have BX3 := Y1 (BX2.out.next hb)
  clear hb c0 c1 c2 c3 c4 c5 c6 c7 c8
  obtain ⟨_, ⟨c0, c1, c2, c3, c4, c5, c6, c7, c8⟩, _⟩ := BX3.out
  cases b3
  {go_wp2
   go_ret
   exact ⟨Z03 (by rw [HF.out]; simp), BW3.out⟩}
  go_wp2_with fail
  refine (C4.out _ BW3.out).mono ?_
  rintro e w4 ⟨rfl, hb⟩
  have BW4 := Y1 (Z00 BW3.out hb)
  have BX4 := Y1 (BX3.out.next hb)
  clear hb c0 c1 c2 c3 c4 c5 c6 c7 c8
  obtain ⟨_, ⟨c0, c1, c2, c3, c4, c5, c6, c7, c8⟩, _⟩ := BX4.out
  cases b4
  {go_wp2
   go_ret
   exact ⟨Z03 (by rw [HF.out]; simp), BW4.out⟩}
  go_wp2_with fail
  refine (C5.out _ BW4.out).mono ?_
  rintro e w5 ⟨rfl, hb⟩
  have BW5 := Y1 (Z00 BW4.out hb)
  have BX5 := Y1 (BX4.out.next hb)
  clear hb c0 c1 c2 c3 c4 c5 c6 c7 c8
  obtain ⟨_, ⟨c0, c1, c2, c3, c4, c5, c6, c7, c8⟩, _⟩ := BX5.out
  cases b5
  {go_wp2
   go_ret
   exact ⟨Z03 (by rw [HF.out]; simp), BW5.out⟩}
  go_wp2_with fail
  refine (C6.out _ BW5.out).mono ?_
  rintro e w6 ⟨rfl, hb⟩
  have BW6 := Y1 (Z00 BW5.out hb)
  have BX6 := Y1 (BX5.out.next hb)
  clear hb c0 c1 c2 c3 c4 c5 c6 c7 c8
  obtain ⟨_, ⟨c0, c1, c2, c3, c4, c5, c6, c7, c8⟩, _⟩ := BX6.out
  cases b6
  {go_wp2
   go_ret
   exact ⟨Z03 (by rw [HF.out]; simp), BW6.out⟩}
  go_wp2_with fail
  refine (C7.out _ BW6.out).mono ?_
  rintro e w7 ⟨rfl, hb⟩
  have BW7 := Y1 (Z00 BW6.out hb)
  have BX7 := Y1 (BX6.out.next hb)
  clear hb c0 c1 c2 c3 c4 c5 c6 c7 c8
  obtain ⟨_, ⟨c0, c1, c2, c3, c4, c5, c6, c7, c8⟩, _⟩ := BX7.out
  cases b7
  {go_wp2
   go_ret
   exact ⟨Z03 (by rw [HF.out]; simp), BW7.out⟩}
  go_wp2_with fail
  refine (C8.out _ BW7.out).mono ?_
  rintro e w8 ⟨rfl, hb⟩
  have BW8 := Y1 (Z00 BW7.out hb)
  have BX8 := Y1 (BX7.out.next hb)
  clear hb c0 c1 c2 c3 c4 c5 c6 c7 c8
  obtain ⟨_, ⟨c0, c1, c2, c3, c4, c5, c6, c7, c8⟩, _⟩ := BX8.out
  go_wp2
  go_ret
  exact ⟨Z03 (by rw [HF.out]; simp), BW8.out⟩}
 {rw [decide_eq_false h0] at HF
  go_enter Tryz.func31, Tryz.ntmps31
  go_wp2
  go_ret
  exact ⟨Z03 (by rw [HF.out]; simp), HB0.out⟩}
theorem ZeW (l : List Tm) : l.any (fun p => !right p) = !rights l := by rw [rights_all]; exact Z76 right l
def wrong (t : Tm) : Bool := !right t
def TmsIn (w : World) (B : Nat) (P : Option Addr) (l : List Tm) : Prop :=
 l.length = 0 \/ ∃ (g off : Nat) (qs : Nat -> TP), P = some ⟨g, off, none⟩ /\ g < B /\ (∀ i (h : i < l.length), Tm9 w g (off + i * 9) (l[i]'h) (qs i)) /\ ∀ i (h : i < l.length), TmAt w B (qs i) (l[i]'h)
theorem TmsIn.next {w w' : World} {P : Option Addr} {l : List Tm} (h : TmsIn w w.heap.size P l) (hb : Below w.heap.size w w') : TmsIn w' w'.heap.size P l := by
 rcases h with h | ⟨g, off, qs, h1, h2, h3, h4⟩
 {exact Or.inl h}
 {exact Or.inr ⟨g, off, qs, h1, Nat.lt_of_lt_of_le h2 hb.size, fun i hi => (h3 i hi).keep h2 hb, fun i hi => (h4 i hi).next hb⟩}
theorem Zb3 (P : Option Addr) (d : Nat) (l : List Tm) (w : World) (hl : l.length <= 9223372036854775807)
 (hp : TmsIn w w.heap.size P l) (hg : WGlobs w) (hu : Z0l w)
 (hf : ∀ x ∈ l, ∀ (q : TP) (w : World), TmAt w w.heap.size q x -> WGlobs w -> Z0l w -> Y9 20 #[.agg (Y7 x q)] w (.bool (wrong x))) :
 Y9 61 #[.slice P l.length d, .func (.func 20) #[] #[]] w (.int .i64 (placeG wrong l)) := by
 have HP := Y1 hp
 have HF := Y1 hf
 have HG := Y1 hg
 have HU := Y1 hu
 clear hg hu
 clear hp hf
 go_enter Tryz.func61, Tryz.ntmps61
 go_wp2_with fail
 go_loopw [8] (fun ii wr => ∃ i : Nat, ii = .int .i64 i /\ i <= l.length /\ Hid (∀ j (h : j < l.length), j < i -> wrong (l[j]'h) = false) /\ Below w.heap.size w wr) (fun i _ => l.length - (intOf i).toNat)
 case atStart => exact ⟨0, rfl, Nat.zero_le _, Y1 (fun j _ hj => absurd hj (by omega)), Below.refl _ _⟩
 case round =>
  obtain ⟨i, rfl, hi, HN, hb⟩ := hrel
  by_cases hlt : i < l.length
  {rcases HP.out.next hb with h0 | ⟨g, off, qs, rfl, hg, hc, hr⟩
   {omega}
   {obtain ⟨x, hx⟩ : ∃ x, x = l[i]'hlt := ⟨_, rfl⟩
    obtain ⟨p0, p1, p2, p3, p4, p5, p6, p7, p8⟩ := hc i hlt
    have hat : TmAt wr wr.heap.size (qs i) x := by rw [hx]; exact hr i hlt
    have ihx := HF.out l[i] (List.getElem_mem _) (qs i) wr
    rw [<- hx] at p0 p1 p2 p3 p4 p5 p6 p7 p8 ihx
    have IH := ihx hat (HG.out.next hb) (HU.out.next hb)
    have HX := Y1 hx
    clear hx hc hr hat ihx
    have hi1 : (i : Int) < (l.length : Int) := by omega
    cases hox : wrong x with
    | true =>
     rw [hox] at IH
     have HV : Hid (placeG wrong l = (i : Int)) := Y1 (Z3v hlt (by show wrong _ = true; rw [<- HX.out]; exact hox) (fun j hj hji => HN.out j hj hji))
     clear hox
     go_wp2_with fail
     refine IH.mono ?_
     rintro e w' ⟨rfl, hb'⟩
     go_wp2
     go_ret
     exact ⟨Z0v HV.out.symm, Z00 hb hb'⟩
    | false =>
     rw [hox] at IH
     have HO := Y1 hox
     clear hox
     go_wp2_with fail
     refine IH.mono ?_
     rintro e w' ⟨rfl, hb'⟩
     go_wp2
     go_roundw
     case rel => exact ⟨i + 1, by go_num, by omega, Y1 (fun j hj hji => by
      rcases Nat.lt_succ_iff_lt_or_eq.1 hji with h | rfl
      {exact HN.out j hj h}
      · rw [<- HX.out]; exact HO.out), Z00 hb hb'⟩
     case measure => simp [intOf]; omega}}
  {have hi1 : ¬ (i : Int) < (l.length : Int) := by omega
   have HV : Hid (placeG wrong l = -1) := Y1 (Z2G (fun j hj => HN.out j hj (by omega)))
   go_wp2
   go_ret
   exact ⟨Z0v HV.out.symm, hb⟩}
theorem Z79 (P : Option Addr) (d : Nat) (l : List Tm) (w : World) (hl : l.length <= 9223372036854775807)
 (hp : TmsIn w w.heap.size P l) (hg : WGlobs w) (hu : Z0l w)
 (hf : ∀ x ∈ l, ∀ (q : TP) (w : World), TmAt w w.heap.size q x -> WGlobs w -> Z0l w -> Y9 20 #[.agg (Y7 x q)] w (.bool (wrong x))) :
 Y9 32 #[.slice P l.length d, .func (.func 20) #[] #[]] w (.bool (l.any wrong)) := by
 have HI := Zb3 P d l w hl hp hg hu hf
 have HV := Y1 (Z31 wrong l)
 have hge := Z3w wrong l
 generalize placeG wrong l = r at HI HV hge
 clear hp hf
 go_enter Tryz.func32, Tryz.ntmps32
 go_wp2_with fail
 refine HI.mono ?_
 rintro e w' ⟨rfl, hb'⟩
 go_wp2
 go_ret
 exact ⟨Z03 HV.out, hb'⟩
theorem Z8b (t : Tm) : ∀ (q : TP) (w : World), TmAt w w.heap.size q t -> WGlobs w -> Z0l w -> few t = true ->
 Y9 20 #[.agg (Y7 t q)] w (.bool (wrong t)) := by
 induction t using Tm.ind with
 | h t ih =>
 intro q w hq hg hu hfew
 have hb0 := Z02 w (.cells (Y7 t q) 26)
 have hf := Zd8 t q _ (hq.next hb0) (hg.next hb0) (hu.next hb0) (Zh1 hfew)
 have HC := Y1 (fun W (h : Below w.heap.size w W) => Z79 q.P q.d t.parts W hq.small.m (by
  rcases (hq.next h).part with h0 | h1
  {exact Or.inl h0}
  · exact Or.inr h1) (hg.next h) (hu.next h) (fun x hx q' w' hat hg' hu' => ih x hx q' w' hat hg' hu' (Zgc hfew hx)))
 have HD := Y1 (right_eq t)
 have HA := Y1 (ZeW t.parts)
 have HW : Hid (wrong t = !right t) := Y1 rfl
 have HB0 := Y1 hb0
 have HB := Y1 (Z07 w t q)
 obtain ⟨_, ⟨c0, c1, c2, c3, c4, c5, c6, c7, c8⟩, _⟩ := HB.out
 clear hb0 hq hg hu ih hfew
 cases hft : fits t
 {have HF : Hid (wrong t = true) := Y1 (by rw [HW.out, HD.out, hft]; rfl)
  rw [hft] at hf
  clear hft
  go_enter Tryz.func20, Tryz.ntmps20
  go_wp2_with fail
  refine hf.mono ?_
  rintro e w' ⟨rfl, hb'⟩
  go_wp2
  go_ret
  exact ⟨by rw [HF.out]; rfl, Z00 HB0.out hb'⟩}
 {have HF : Hid (wrong t = t.parts.any wrong) := Y1 (by rw [HW.out, HD.out, hft, show t.parts.any wrong = _ from HA.out]; rfl)
  rw [hft] at hf
  clear hft
  go_enter Tryz.func20, Tryz.ntmps20
  go_wp2_with fail
  refine hf.mono ?_
  rintro e w1 ⟨rfl, hb'⟩
  have hbw := Z00 HB0.out hb'
  have hc := HC.out w1 hbw
  obtain ⟨_, ⟨d0, d1, d2, d3, d4, d5, d6, d7, d8⟩, _⟩ := HB.out.next hb'
  clear hf c0 c1 c2 c3 c4 c5 c6 c7 c8 hb'
  go_wp2_with fail
  refine hc.mono ?_
  rintro e w' ⟨rfl, hb2⟩
  go_wp2
  go_ret
  exact ⟨Z03 HF.out.symm, Z00 hbw hb2⟩}
theorem Z0j (t : Tm) (q : TP) (w : World) (hq : TmAt w w.heap.size q t) (hg : WGlobs w) (hu : Z0l w) (hfew : few t = true) :
 Y9 8 #[.agg (Y7 t q)] w (.int .i64 (check t)) := by
 have hb0 := Z02 w (.cells (Y7 t q) 26)
 have hm := Z4u t q _ (hq.next hb0)
 have HC : Hid (check t = if 4096 < size t then 3 else if 40 < deep t then 91 else if right t = false then 80 else 0) := Y1 rfl
 have HB0 := Y1 hb0
 have HB := Y1 (Z07 w t q)
 have HQ := Y1 hq
 have HG := Y1 hg
 have HU := Y1 hu
 obtain ⟨_, ⟨c0, c1, c2, c3, c4, c5, c6, c7, c8⟩, _⟩ := HB.out
 obtain ⟨m, hmm⟩ : ∃ m, m = min (size t) 4097 := ⟨_, rfl⟩
 rw [<- hmm] at hm
 clear hb0 hq hg hu
 by_cases h4 : 4096 < size t
 {have HF : Hid (check t = 3) := Y1 (by rw [HC.out, if_pos h4])
  have hx : (4096 : Int) < (m : Int) := by omega
  clear h4 hmm
  go_enter Tryz.func8, Tryz.ntmps8
  go_wp2_with fail
  refine hm.mono ?_
  rintro e w' ⟨r, rfl, _, _, hb'⟩
  go_wp2
  go_ret
  exact ⟨Z0v HF.out.symm, Z00 HB0.out hb'⟩}
 {have hx : ¬ (4096 : Int) < (m : Int) := by omega
  have HS := Y1 (show size t <= 4096 by omega)
  by_cases h40 : 40 < deep t
  {have HF : Hid (check t = 91) := Y1 (by rw [HC.out, if_neg h4, if_pos h40])
   have HDD := Y1 h40
   clear h4 hmm h40
   go_enter Tryz.func8, Tryz.ntmps8
   go_wp2_with fail
   refine hm.mono ?_
   rintro e w' ⟨r, rfl, hr, _, hb'⟩
   have hy : (40 : Int) < (r : Int) := by have := hr HS.out; have := HDD.out; omega
   clear hr
   go_wp2
   go_ret
   exact ⟨Z0v HF.out.symm, Z00 HB0.out hb'⟩}
  {have HF : Hid (check t = if right t = false then 80 else 0) := Y1 (by rw [HC.out, if_neg h4, if_neg h40])
   have HDD := Y1 h40
   have HWR : Hid (wrong t = !right t) := Y1 rfl
   clear h4 hmm h40
   go_enter Tryz.func8, Tryz.ntmps8
   go_wp2_with fail
   refine hm.mono ?_
   rintro e w2 ⟨r, rfl, hr', _, hb2⟩
   have hy : ¬ (40 : Int) < (r : Int) := by have := hr' HS.out; have := HDD.out; omega
   have hbw := Z00 HB0.out hb2
   have HBW2 := Y1 hbw
   have HB2 := Y1 (HB.out.next hb2)
   have hr := Z8b t q w2 (HQ.out.next hbw) (HG.out.next hbw) (HU.out.next hbw) hfew
   rw [HWR.out] at hr
   clear hm hb2 hbw hr' c0 c1 c2 c3 c4 c5 c6 c7 c8
   obtain ⟨_, ⟨c0, c1, c2, c3, c4, c5, c6, c7, c8⟩, _⟩ := HB2.out
   cases hrt : right t
   all_goals
    rw [hrt] at hr HF
    clear hrt
    go_wp2_with fail
    refine hr.mono ?_
    rintro e w' ⟨rfl, hb'⟩
    go_wp2
    go_ret
    exact ⟨Z0v (by rw [HF.out]; rfl), Z00 HBW2.out hb'⟩}}
theorem Z2H (t : Tm) (q : TP) (w : World) (hq : TmAt w w.heap.size q t) (hg : WGlobs w) (hu : Z0l w) (hfew : few t = true) :
 Y9 23 #[.agg (Y7 t q)] w (.bool (decide (check t = 0))) := by
 have hb0 := Z02 w (.cells (Y7 t q) 26)
 have hm := Z0j t q _ (hq.next hb0) (hg.next hb0) (hu.next hb0) hfew
 have HB0 := Y1 hb0
 obtain ⟨_, ⟨c0, c1, c2, c3, c4, c5, c6, c7, c8⟩, _⟩ := Z07 w t q
 clear hb0 hq hg hu
 go_enter Tryz.func23, Tryz.ntmps23
 go_wp2_with fail
 refine hm.mono ?_
 rintro e w' ⟨rfl, hb'⟩
 go_wp2
 go_ret
 exact ⟨Z03 (by rw [Bool.eq_iff_iff]; simp), Z00 HB0.out hb'⟩
end Go.Proofs.YtnkdedejfonbmaaGreatDoor
namespace Go.Proofs.YtnkdedejfonbmaaGreatDoor
open Go.RowKit Tms
theorem Zd9 {t : Tm} (h : fits t = true) : 1 <= t.kind /\ t.kind <= 17 := by
 rcases Z5u h with ⟨h, _⟩ | ⟨h, _⟩ | ⟨h⟩ | ⟨h⟩ | ⟨h, _⟩ | ⟨h, _⟩ | ⟨h, _⟩ | ⟨h, _⟩ | ⟨h, _⟩ | ⟨h, _⟩ | ⟨h, _⟩ | ⟨h, _⟩ | ⟨h, _⟩ | ⟨h, _⟩ | ⟨h, _⟩ | ⟨h, _⟩ | ⟨h, _⟩ <;> omega
theorem Z8c (t : Tm) (hr : right t = true) (ht : tame t = true) (hz : size t <= 4096) : Wr8 t := by
 induction t using Tm.ind with
 | h t ih =>
 have hf : ∀ x ∈ t.parts, Wr8 x := fun x hx => ih x hx (right_part hr hx) (Z1C ht hx) (by have := sizes_mem hx; rw [size_eq] at hz; omega)
 intro q w hq hG hg
 obtain ⟨k1, k2⟩ := Zd9 (right_fits hr)
 by_cases h1 : t.kind = 1
 {exact ZcM t q w hq hG hg hr ht hz hf h1}
 by_cases h2 : t.kind = 2
 {exact ZcN t q w hq hG hg hr ht hz hf h2}
 by_cases h3 : t.kind = 3
 {exact ZcO t q w hq hG hg hr ht hz hf h3}
 by_cases h4 : t.kind = 4
 {exact ZcP t q w hq hG hg hr ht hz hf h4}
 by_cases h5 : t.kind = 5
 {exact ZcQ t q w hq hG hg hr ht hz hf h5}
 by_cases h6 : t.kind = 6
 {exact ZcS t q w hq hG hg hr ht hz hf h6}
 by_cases h7 : t.kind = 7
 {exact ZcU t q w hq hG hg hr ht hz hf h7}
 by_cases h8 : t.kind = 8
 {exact ZcR t q w hq hG hg hr ht hz hf h8}
 by_cases h9 : t.kind = 9
 {exact ZcT t q w hq hG hg hr ht hz hf h9}
 by_cases h10 : t.kind = 10
 {exact ZaH t q w hq hG hg hr ht hz hf h10}
 by_cases h11 : t.kind = 11
 {exact ZaI t q w hq hG hg hr ht hz hf h11}
 by_cases h12 : t.kind = 12
 {exact ZaJ t q w hq hG hg hr ht hz hf h12}
 by_cases h13 : t.kind = 13
 {exact ZaU t q w hq hG hg hr ht hz hf h13}
 by_cases h14 : t.kind = 14
 {exact ZaV t q w hq hG hg hr ht hz hf h14}
 by_cases h15 : t.kind = 15
 {exact ZaW t q w hq hG hg hr ht hz hf h15}
 by_cases h16 : t.kind = 16
 {exact ZaX t q w hq hG hg hr ht hz hf h16}
 exact ZaY t q w hq hG hg hr ht hz hf (by omega)
theorem Z12 (t : Tm) (q : TP) (w : World) (hq : TmAt w w.heap.size q t) (hG : Globs w) (hg : WGlobs w) (hu : Z0l w) (ht : tame t = true) (hc : check t = 0) :
 Y9 16 #[.agg (Y7 t q)] w (.tuple #[.string ⟨(text t).toArray⟩, .int .i64 0]) := by
 obtain ⟨hz, hd, hr⟩ := Tms.check_ok hc
 have hb0 := Z02 w (.cells (Y7 t q) 26)
 have HB0 := Y1 hb0
 have HQ := Y1 (hq.next hb0)
 have HG0 := Y1 (hG.next hb0)
 have HG := Y1 (hg.next hb0)
 have HC := Y1 (Z0j t q _ (hq.next hb0) (hg.next hb0) (hu.next hb0) (Z09 ht))
 rw [hc] at HC
 have HW := Y1 (fun (W : World) => Z8c t hr ht hz q W)
 have HBX := Y1 (Z07 w t q)
 obtain ⟨_, ⟨c0, c1, c2, c3, c4, c5, c6, c7, c8⟩, _⟩ := HBX.out
 simp only [Nat.zero_add] at c0 c1 c2 c3 c4 c5 c6 c7 c8
 clear hb0 hq hG hg hu ht hd hr hz hc
 generalize text t = tx at HW ⊢
 go_enter Tryz.func16, Tryz.ntmps16
 go_wp2_with fail
 refine HC.out.mono ?_
 rintro e w1 ⟨rfl, hb1⟩
 obtain ⟨_, ⟨d0, d1, d2, d3, d4, d5, d6, d7, d8⟩, _⟩ := HBX.out.next hb1
 simp only [Nat.zero_add] at d0 d1 d2 d3 d4 d5 d6 d7 d8
 have HB1 := Y1 (Z00 HB0.out hb1)
 have CALL := HW.out w1 (HQ.out.next hb1) (HG0.out.next hb1) (HG.out.next hb1)
 clear hb1 HC c0 c1 c2 c3 c4 c5 c6 c7 c8
 go_wp2_with fail
 refine CALL.mono ?_
 rintro e w2 ⟨rfl, hb2⟩
 have HB2 := Y1 (Z00 HB1.out hb2)
 clear hb2 CALL d0 d1 d2 d3 d4 d5 d6 d7 d8
 go_wp2
 go_ret2
 exact ⟨rfl, HB2.out⟩
end Go.Proofs.YtnkdedejfonbmaaGreatDoor
