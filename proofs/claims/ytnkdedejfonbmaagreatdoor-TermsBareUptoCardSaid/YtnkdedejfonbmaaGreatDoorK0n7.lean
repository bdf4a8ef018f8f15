/- What the proofs of TermsBare, TermsChecks, TermsDeep, TermsSame, TermsSames want, part 7. -/
import Derived.Tactics
import Derived.Tactics2
import Derived.Defers
import Derived.Recover
import Derived.Laws.Pointers
import Derived.BigRegion
import Derived.ChangeSlices
import Derived.SizedLaws
import Derived.OpenShut
import Derived.Laws.BytesArg
import Derived.Lib.UnsafeStr
import Derived.Laws.BitsAllLaws
import Derived.Laws.BitsLemmas
import Derived.WalkKit
import Derived.Below
import Derived.Lib.Hide
import Derived.Deep.RegionHeld3
import Derived.Shelf.Strings.Search3
import Derived.Shelf.Strings.Search2
import Derived.Shelf.Strconv.AtoiAll
import Derived.Shelf.Strconv.Itoa3
import Derived.Shelf.Strings.Trim
import Derived.Shelf.Strconv.Clone
import Derived.Shelf.Small.Strs
import Derived.Shelf.Small.Wraps
import Derived.Test.YtnkdedejfonbmaaGreatDoorProg
import Derived.StillTailTactics
import Derived.Test.YtnkdedejfonbmaaGreatDoorK0n6
set_option linter.unusedVariables false
set_option linter.unusedSimpArgs false
set_option maxRecDepth 100000
set_option maxHeartbeats 16000000
namespace Go.Proofs.YtnkdedejfonbmaaGreatDoor
open Go.RowKit Shp
def Z1J (p : Sh -> Bool) (l : List Sh) : Int := match l.findIdx? p with
 | some i => (i : Int)
 | none => -1
theorem Zeg {p : Sh -> Bool} {l : List Sh} {i : Nat} (hi : i < l.length) (h : p (l[i]'hi) = true) (hn : ∀ j (hj : j < l.length), j < i -> p (l[j]'hj) = false) : Z1J p l = (i : Int) := by
 have : l.findIdx? p = some i := List.findIdx?_eq_some_iff_getElem.2 ⟨hi, h, fun j hj => by rw [hn j (by omega) hj]; simp⟩
 unfold Z1J; rw [this]
theorem Zaj {p : Sh -> Bool} {l : List Sh} (hn : ∀ j (hj : j < l.length), p (l[j]'hj) = false) : Z1J p l = -1 := by
 have : l.findIdx? p = none := List.findIdx?_eq_none_iff.2 (fun x hx => by
  obtain ⟨j, hj, rfl⟩ := List.getElem_of_mem hx
  exact hn j hj)
 unfold Z1J; rw [this]
theorem Zcg (p : Sh -> Bool) (l : List Sh) : decide (0 <= Z1J p l) = l.any p := by
 unfold Z1J
 cases h : l.findIdx? p with
 | some i =>
  obtain ⟨hi, hp, _⟩ := List.findIdx?_eq_some_iff_getElem.1 h
  show decide ((0 : Int) <= (i : Int)) = _
  rw [decide_eq_true (by omega)]
  exact (List.any_eq_true.2 ⟨_, List.getElem_mem hi, hp⟩).symm
 | none =>
  have := List.findIdx?_eq_none_iff.1 h
  show false = _
  symm
  rw [List.any_eq_false]
  intro x hx; rw [this x hx]; simp
theorem Zeh (p : Sh -> Bool) (l : List Sh) : -1 <= Z1J p l := by
 unfold Z1J
 cases l.findIdx? p with
 | some i => show (-1 : Int) <= (i : Int); omega
 | none => show (-1 : Int) <= -1; omega
theorem Z7V (l : List Sh) : l.any (fun p => !right p) = !rights l := by
 rw [rights_all]
 induction l with
 | nil => rfl
 | cons a l ih => simp [ih]
theorem Zei (P : Option Addr) (d : Nat) (l : List Sh) (g off : Nat) (qs : Nat -> Ptr) (w : World) (hl : l.length <= 1000000)
 (hp : l.length = 0 \/ P = some ⟨g, off, none⟩ /\ g < w.heap.size /\ (∀ i (h : i < l.length), Sh5 w g (off + i * 5) (l[i]'h) (qs i)) /\ ∀ i (h : i < l.length), ShAt w w.heap.size (qs i) (l[i]'h)) (hg : WGlobs w)
 (hf : ∀ x ∈ l, ∀ (q : Ptr) (w : World), ShAt w w.heap.size q x -> WGlobs w -> Y9 116 #[.agg (Y8 x q)] w (.bool (!right x))) :
 Y9 114 #[.slice P l.length d, .func (.func 116) #[] #[]] w (.int .i64 (Z1J (fun p => !right p) l)) := by
 have HP := Y1 hp
 have HF := Y1 hf
 have HG := Y1 hg
 clear hg
 clear hp hf
 go_enter Tryz.func114, Tryz.ntmps114
 go_wp2_with fail
 go_loopw [8] (fun ii wr => ∃ i : Nat, ii = .int .i64 i /\ i <= l.length /\ Hid (∀ j (h : j < l.length), j < i -> (!right (l[j]'h)) = false) /\ Below w.heap.size w wr) (fun i _ => l.length - (intOf i).toNat)
 case atStart => exact ⟨0, rfl, Nat.zero_le _, Y1 (fun j _ hj => absurd hj (by omega)), Below.refl _ _⟩
 case round =>
  obtain ⟨i, rfl, hi, HN, hb⟩ := hrel
  by_cases hlt : i < l.length
  {rcases HP.out with h0 | ⟨rfl, hg, hc, hr⟩
   {omega}
   {obtain ⟨x, hx⟩ : ∃ x, x = l[i]'hlt := ⟨_, rfl⟩
    obtain ⟨p0, p1, p2, p3, p4⟩ := (hc i hlt).keep hg hb
    have hat : ShAt wr wr.heap.size (qs i) x := by rw [hx]; exact (hr i hlt).next hb
    have ihx := HF.out l[i] (List.getElem_mem _) (qs i) wr
    rw [<- hx] at p0 p1 p2 p3 p4 ihx
    have IH := ihx hat (HG.out.next hb)
    have HX := Y1 hx
    clear hx hc hr hat ihx
    have hi1 : (i : Int) < (l.length : Int) := by omega
    cases hox : !right x with
    | true =>
     rw [hox] at IH
     have HV : Hid (Z1J (fun p => !right p) l = (i : Int)) := Y1 (Zeg hlt (by show (!right _) = true; rw [<- HX.out]; exact hox) (fun j hj hji => HN.out j hj hji))
     clear hox
     go_wp2_with fail
     refine IH.mono ?_
     rintro e w' ⟨rfl, hb'⟩
     go_wp2
     go_ret
     exact ⟨Z0v HV.out.symm, Z00 hb hb'⟩
    | false =>
     rw [hox] at IH
     have HO := Y1 hox
     clear hox
     go_wp2_with fail
     refine IH.mono ?_
     rintro e w' ⟨rfl, hb'⟩
     go_wp2
     go_roundw
     case rel => exact ⟨i + 1, by go_num, by omega, Y1 (fun j hj hji => by
      rcases Nat.lt_succ_iff_lt_or_eq.1 hji with h | rfl
      {exact HN.out j hj h}
      · rw [<- HX.out]; exact HO.out), Z00 hb hb'⟩
     case measure => simp [intOf]; omega}}
  {have hi1 : ¬ (i : Int) < (l.length : Int) := by omega
   have HV : Hid (Z1J (fun p => !right p) l = -1) := Y1 (Zaj (fun j hj => HN.out j hj (by omega)))
   go_wp2
   go_ret
   exact ⟨Z0v HV.out.symm, hb⟩}
theorem Z8O (P : Option Addr) (d : Nat) (l : List Sh) (g off : Nat) (qs : Nat -> Ptr) (w : World) (hl : l.length <= 1000000)
 (hp : l.length = 0 \/ P = some ⟨g, off, none⟩ /\ g < w.heap.size /\ (∀ i (h : i < l.length), Sh5 w g (off + i * 5) (l[i]'h) (qs i)) /\ ∀ i (h : i < l.length), ShAt w w.heap.size (qs i) (l[i]'h)) (hg : WGlobs w)
 (hf : ∀ x ∈ l, ∀ (q : Ptr) (w : World), ShAt w w.heap.size q x -> WGlobs w -> Y9 116 #[.agg (Y8 x q)] w (.bool (!right x))) :
 Y9 86 #[.slice P l.length d, .func (.func 116) #[] #[]] w (.bool (l.any (fun p => !right p))) := by
 have HI := Zei P d l g off qs w hl hp hg hf
 have HV := Y1 (Zcg (fun p => !right p) l)
 have hge := Zeh (fun p => !right p) l
 generalize Z1J (fun p => !right p) l = r at HI HV hge
 clear hp hf
 go_enter Tryz.func86, Tryz.ntmps86
 go_wp2_with fail
 refine HI.mono ?_
 rintro e w' ⟨rfl, hb'⟩
 go_wp2
 go_ret
 exact ⟨Z03 HV.out, hb'⟩
theorem ZgQ {w : World} {q : Ptr} {t : Sh} (h : ShAt w w.heap.size q t) : ∃ (g off : Nat) (qs : Nat -> Ptr), t.parts.length = 0 \/ q.P = some ⟨g, off, none⟩ /\ g < w.heap.size /\ (∀ i (h : i < t.parts.length), Sh5 w g (off + i * 5) (t.parts[i]'h) (qs i)) /\ ∀ i (h : i < t.parts.length), ShAt w w.heap.size (qs i) (t.parts[i]'h) := by
 rcases h.part with h0 | ⟨g, off, qs, h1, h2, h3, h4⟩
 {exact ⟨0, 0, fun _ => q, Or.inl h0⟩}
 {exact ⟨g, off, qs, Or.inr ⟨h1, h2, h3, h4⟩⟩}
theorem Z8P (t : Sh) : ∀ (q : Ptr) (w : World), ShAt w w.heap.size q t -> WGlobs w -> size t <= 1000000 ->
 Y9 116 #[.agg (Y8 t q)] w (.bool (!right t)) := by
 induction t using Sh.ind with
 | h t ih =>
 intro q w hq hg hz
 have hpl : t.parts.length <= 1000000 := by have := length_sizes t.parts; rw [size_eq] at hz; omega
 have hb0 := Z02 w (.cells (Y8 t q) 45)
 have hf := Zcf t q _ (hq.next hb0) (hg.next hb0) hpl
 have HC := Y1 (fun W (h : Below w.heap.size w W) => by
  obtain ⟨g, off, qs, h1⟩ := ZgQ (hq.next h)
  exact Z8O q.P q.d t.parts g off qs W hpl h1 (hg.next h) (fun x hx q' w' hat hg' => ih x hx q' w' hat hg' (by have := sizes_mem hx; rw [size_eq] at hz; omega)))
 have HD := Y1 (right_eq t)
 have HA := Y1 (Z7V t.parts)
 have HB0 := Y1 hb0
 have HB := Y1 (Z0c w t q)
 obtain ⟨_, ⟨c0, c1, c2, c3, c4⟩, _⟩ := HB.out
 clear hb0 hq hg hz hpl ih
 cases hft : fits t
 {have HF : Hid (right t = false) := Y1 (by rw [HD.out, hft]; rfl)
  rw [hft] at hf
  clear hft
  go_enter Tryz.func116, Tryz.ntmps116
  go_wp2_with fail
  refine hf.mono ?_
  rintro e w' ⟨rfl, hb'⟩
  go_wp2
  go_ret
  exact ⟨by rw [HF.out]; rfl, Z00 HB0.out hb'⟩}
 {have HF : Hid ((!right t) = t.parts.any (fun p => !right p)) := Y1 (by rw [HD.out, hft, HA.out]; rfl)
  rw [hft] at hf
  clear hft
  go_enter Tryz.func116, Tryz.ntmps116
  go_wp2_with fail
  refine hf.mono ?_
  rintro e w1 ⟨rfl, hb'⟩
  have hbw := Z00 HB0.out hb'
  have hc := HC.out w1 hbw
  obtain ⟨_, ⟨d0, d1, d2, d3, d4⟩, _⟩ := HB.out.next hb'
  clear hf c0 c1 c2 c3 c4 hb'
  go_wp2_with fail
  refine hc.mono ?_
  rintro e w' ⟨rfl, hb2⟩
  go_wp2
  go_ret
  exact ⟨Z03 HF.out.symm, Z00 hbw hb2⟩}
theorem Zch (b c : Addr) (x y : Int) (u : TypeId) (pv : Value) (older : List PanicEntry) (w : World) (hb : w.cell? b = some (.int .i64 x)) (hc : w.cell? c = some (.int .i64 y)) (fb : w.frozen? b = false) (fc : w.frozen? c = false)
 (hbc : b ≠ c) :
 CallsD Tryz.prog 136 #[.pointer (some b), .pointer (some c)] (.panicking ({ v := .iface u pv, recovered := false } :: older)) w fun e u' w' =>
  e = .returned (.tuple #[]) /\ u' = .panicking ({ v := .iface u pv, recovered := true } :: older) /\ w' = (w.setCell b (.int .i64 401)).setCell c (.int .i64 0) := by
 have hc2 : (w.setCell b (.int .i64 401)).cell? c = some (.int .i64 y) := (World.cell?_setCell_other _ _ _ _ hbc).trans hc
 refine callsD_of_wpS Tryz.func136 rfl fun c₀ cs hu => ?_
 apply wpS_seq
 apply wpS_region
 simp [wpOpsS, go_sem, recoverD, hu, Tryz.ntmps136, Exit.thenS]
 refine wpS_cond (t := true) (by simp [Act.eval, Array.replicate]) ?_
 simp only [if_true]
 apply wpS_region
 simp [wpOpsS, go_sem, hb, hc2, fb, fc, bodyPostS, results, Tryz.results136]
theorem Zci (b c : Addr) (w : World) :
 CallsD Tryz.prog 136 #[.pointer (some b), .pointer (some c)] .returning w fun e u' w' => e = .returned (.tuple #[]) /\ u' = .returning /\ w' = w := by
 refine callsD_of_wpS Tryz.func136 rfl fun c₀ cs hu => ?_
 apply wpS_seq
 apply wpS_region
 simp [wpOpsS, go_sem, recoverD, hu, Tryz.ntmps136, Exit.thenS]
 refine wpS_cond (t := false) (by simp [Act.eval, Array.replicate]) ?_
 simp only [Bool.false_eq_true, if_false]
 refine wpS_of_wp (wp_skip ?_)
 cases c₀
 simp_all [bodyPostS, results, Tryz.results136]
def mW (w : World) (t : Sh) (q : Ptr) : World :=
 (((w.alloc (.cells (Y8 t q) 45)).alloc (.cells #[.int .i64 0] 3)).alloc (.cells #[.int .i64 0] 3)).alloc (.cells #[.int .i64 0] 167)
structure MW (w W : World) (x y : Int) : Prop where
 bel : Below w.heap.size w W
 size : w.heap.size + 4 <= W.heap.size
 b : W.cell? ⟨w.heap.size + 1, 0, none⟩ = some (.int .i64 x)
 c : W.cell? ⟨w.heap.size + 1 + 1, 0, none⟩ = some (.int .i64 y)
 fb : W.frozen? ⟨w.heap.size + 1, 0, none⟩ = false
 fc : W.frozen? ⟨w.heap.size + 1 + 1, 0, none⟩ = false
theorem Zej (w : World) (t : Sh) (q : Ptr) : Cnt (mW w t q) (w.heap.size + 1 + 1 + 1) 0 400 := by
 unfold mW
 exact ⟨by simp, by simp [go_sem], rfl, by simp [go_sem]⟩
theorem Z8h (w : World) (t : Sh) (q : Ptr) : MW w (mW w t q) 0 0 := by
 unfold mW
 refine ⟨Z08 (Z08 (Z08 (Z02 _ _) _) _) _, by simp, ?_, ?_, ?_, ?_⟩ <;> simp [go_sem]
theorem MW.upc {w W W' : World} {x y : Int} (h : MW w W x y) (hu : UpC (w.heap.size + 1 + 1 + 1) W.heap.size W W') : MW w W' x y := by
 have e : ∀ g, g < w.heap.size + 3 -> W'.heap[g]? = W.heap[g]? := fun g hg => hu.block g (by have := h.size; omega) (by omega)
 refine ⟨h.bel.trans ⟨hu.os, hu.tape, hu.output, hu.size, fun k hk => e k (by omega)⟩, Nat.le_trans h.size hu.size, ?_, ?_, ?_, ?_⟩
 {exact (World.cell?_of_block (w := W) (e (w.heap.size + 1) (by omega))).trans h.b}
 {exact (World.cell?_of_block (w := W) (e (w.heap.size + 1 + 1) (by omega))).trans h.c}
 {exact (World.frozen?_of_block (w := W) (e (w.heap.size + 1) (by omega))).trans h.fb}
 {exact (World.frozen?_of_block (w := W) (e (w.heap.size + 1 + 1) (by omega))).trans h.fc}
theorem Z8Q (t : Sh) (q : Ptr) (w : World) (hq : ShAt w w.heap.size q t) (hov : 400 < size t) :
 Y9 115 #[.agg (Y8 t q)] w (.tuple #[.int .i64 401, .int .i64 0]) := by
 have hmf : ∀ (fn : Fn) (first cap : Array Value) (w : World), (Instr.makeFunc fn first cap).run Tryz.prog w = .ok (.func fn first cap) w := fun _ _ _ _ => rfl
 have HL := Y1 (Zak t q w.heap.size _ 0 400 _ (hq.keep (Z8h w t q).bel (Nat.le_refl _)) (by omega) (Zej w t q) (Nat.zero_le _) (by omega) (by omega))
 have HW := Y1 (Z8h w t q)
 clear hq hov
 go_enter_defers Tryz.func115, Tryz.ntmps115
 go_wp2_with fail
 change Calls _ _ _ (mW w t q) _
 generalize mW w t q = W at HL HW ⊢
 refine HL.out.mono ?_
 rintro e w2 ⟨rfl, hu⟩
 obtain ⟨hbel, hsz, cb, cc, fb, fc⟩ := HW.out.upc hu
 have HBEL := Y1 hbel
 clear hbel hu HL
 go_wp2_with fail
 refine leaves_cons (f := 136) (args := #[.pointer (some ⟨w.heap.size + 1, 0, none⟩), .pointer (some ⟨w.heap.size + 1 + 1, 0, none⟩)]) (by simp) (by simp [go_sem]) ?_
 refine (Zch ⟨w.heap.size + 1, 0, none⟩ ⟨w.heap.size + 1 + 1, 0, none⟩ 0 0 27 _ [] _ cb cc fb fc (by simp)).mono ?_
 rintro e u' w'' ⟨rfl, rfl, rfl⟩
 simp [Leaves, settle, results, Tryz.results115, go_sem, cb, cc]
 exact (HBEL.out.setCell (p := ⟨w.heap.size + 1, 0, none⟩) (by simp) _).setCell (p := ⟨w.heap.size + 1 + 1, 0, none⟩) (by simp; omega) _
theorem Zcj (t : Sh) (q : Ptr) (w : World) (hq : ShAt w w.heap.size q t) (hov : size t <= 400) :
 Y9 115 #[.agg (Y8 t q)] w (.tuple #[.int .i64 (size t : Int), .int .i64 (deep t : Int)]) := by
 have hmf : ∀ (fn : Fn) (first cap : Array Value) (w : World), (Instr.makeFunc fn first cap).run Tryz.prog w = .ok (.func fn first cap) w := fun _ _ _ _ => rfl
 have HL := Y1 (Z7w t q w.heap.size _ 0 400 _ (hq.keep (Z8h w t q).bel (Nat.le_refl _)) (by omega) (Zej w t q) (by omega) (by omega))
 have HW := Y1 (Z8h w t q)
 clear hq hov
 go_enter_defers Tryz.func115, Tryz.ntmps115
 go_wp2_with fail
 change Calls _ _ _ (mW w t q) _
 generalize mW w t q = W at HL HW ⊢
 refine HL.out.mono ?_
 rintro e w2 ⟨rfl, hu, hcn⟩
 obtain ⟨hbel, hsz, cb, cc, fb, fc⟩ := HW.out.upc hu
 have k0 := hcn.c0
 have HBEL := Y1 hbel
 rw [Nat.zero_add] at k0
 clear hbel hu HL hcn
 go_wp2_with fail
 have HB3 : Hid (Below w.heap.size w (w2.setCell ⟨w.heap.size + 1 + 1, 0, none⟩ (.int .i64 (deep t : Int)))) := Y1 (HBEL.out.setCell (by simp; omega) _)
 have k3 : (w2.setCell ⟨w.heap.size + 1 + 1, 0, none⟩ (.int .i64 (deep t : Int))).cell? ⟨w.heap.size + 1 + 1 + 1, 0, none⟩ = some (.int .i64 (size t : Int)) := (World.cell?_setCell_other _ _ _ _ (fun e => by have := congrArg Addr.block e; simp at this)).trans k0
 have b3 : (w2.setCell ⟨w.heap.size + 1 + 1, 0, none⟩ (.int .i64 (deep t : Int))).cell? ⟨w.heap.size + 1, 0, none⟩ = some (.int .i64 0) := (World.cell?_setCell_other _ _ _ _ (fun e => by have := congrArg Addr.block e; simp at this)).trans cb
 have c3 : (w2.setCell ⟨w.heap.size + 1 + 1, 0, none⟩ (.int .i64 (deep t : Int))).cell? ⟨w.heap.size + 1 + 1, 0, none⟩ = some (.int .i64 (deep t : Int)) := by simp [go_sem, cc]
 have fb3 : (w2.setCell ⟨w.heap.size + 1 + 1, 0, none⟩ (.int .i64 (deep t : Int))).frozen? ⟨w.heap.size + 1, 0, none⟩ = false := by rw [World.frozen?_setCell]; exact fb
 have fc3 : (w2.setCell ⟨w.heap.size + 1 + 1, 0, none⟩ (.int .i64 (deep t : Int))).frozen? ⟨w.heap.size + 1 + 1, 0, none⟩ = false := by rw [World.frozen?_setCell]; exact fc
 generalize w2.setCell ⟨w.heap.size + 1 + 1, 0, none⟩ (.int .i64 (deep t : Int)) = W3 at HB3 k3 b3 c3 fb3 fc3 ⊢
 clear k0 cb cc fb fc hsz HBEL
 go_region
 all_goals
  go_wp2_with fail
  refine leaves_cons (f := 136) (args := #[.pointer (some ⟨w.heap.size + 1, 0, none⟩), .pointer (some ⟨w.heap.size + 1 + 1, 0, none⟩)]) (by simp) (by simp [go_sem]) ?_
  refine (Zci ⟨w.heap.size + 1, 0, none⟩ ⟨w.heap.size + 1 + 1, 0, none⟩ _).mono ?_
  rintro e u' w'' ⟨rfl, rfl, rfl⟩
  simp [Leaves, settle, results, Tryz.results115, go_sem, b3, c3]
  exact ((HB3.out.setCell (p := ⟨w.heap.size + 1, 0, none⟩) (by simp) _).setCell (p := ⟨w.heap.size + 1 + 1, 0, none⟩) (by simp; omega) _).drew
def Z3V (m : Nat) (t : Sh) : Int := if m < size t then (m : Int) + 1 else size t
def Z3W (m : Nat) (t : Sh) : Int := if m < size t then 0 else deep t
theorem Z8R (t : Sh) (q : Ptr) (w : World) (hq : ShAt w w.heap.size q t) :
 Y9 115 #[.agg (Y8 t q)] w (.tuple #[.int .i64 (Z3V 400 t), .int .i64 (Z3W 400 t)]) := by
 unfold Z3V Z3W
 by_cases h : 400 < size t
 {rw [if_pos h, if_pos h]; exact Z8Q t q w hq h}
 {rw [if_neg h, if_neg h]; exact Zcj t q w hq (by omega)}
theorem Z5A (t : Sh) (q : Ptr) (w : World) (hq : ShAt w w.heap.size q t) (hg : WGlobs w) :
 Y9 88 #[.agg (Y8 t q)] w (.int .i64 (check t)) := by
 have hb0 := Z02 w (.cells (Y8 t q) 45)
 have hm := Z8R t q _ (hq.next hb0)
 have HC : Hid (check t = if 400 < size t then 3 else if 40 < deep t then 91 else if right t = false then 70 else 0) := Y1 rfl
 have HB0 := Y1 hb0
 have HB := Y1 (Z0c w t q)
 have HQ := Y1 hq
 have HG := Y1 hg
 obtain ⟨_, ⟨c0, c1, c2, c3, c4⟩, _⟩ := HB.out
 clear hb0 hq hg
 by_cases h4 : 400 < size t
 {have HF : Hid (check t = 3) := Y1 (by rw [HC.out, if_pos h4])
  have hx : Z3V 400 t = 401 := by unfold Z3V; rw [if_pos h4]; rfl
  rw [hx] at hm
  generalize Z3W 400 t = y at hm
  clear h4 hx
  go_enter Tryz.func88, Tryz.ntmps88
  go_wp2_with fail
  refine hm.mono ?_
  rintro e w' ⟨rfl, hb'⟩
  go_wp2
  go_ret
  exact ⟨Z0v HF.out.symm, Z00 HB0.out hb'⟩}
 {have hx : Z3V 400 t = (size t : Int) := by unfold Z3V; rw [if_neg h4]
  have hy : Z3W 400 t = (deep t : Int) := by unfold Z3W; rw [if_neg h4]
  rw [hx, hy] at hm
  have h4' : ¬ (400 : Int) < (size t : Int) := by omega
  by_cases h40 : 40 < deep t
  {have HF : Hid (check t = 91) := Y1 (by rw [HC.out, if_neg h4, if_pos h40])
   have h40' : (40 : Int) < (deep t : Int) := by omega
   clear h4 h40 hx hy
   go_enter Tryz.func88, Tryz.ntmps88
   go_wp2_with fail
   refine hm.mono ?_
   rintro e w' ⟨rfl, hb'⟩
   go_wp2
   go_ret
   exact ⟨Z0v HF.out.symm, Z00 HB0.out hb'⟩}
  {have h40' : ¬ (40 : Int) < (deep t : Int) := by omega
   have HF : Hid (check t = if right t = false then 70 else 0) := Y1 (by rw [HC.out, if_neg h4, if_neg h40])
   have HZ : Hid (size t <= 1000000) := Y1 (by omega)
   clear h4 h40 hx hy
   go_enter Tryz.func88, Tryz.ntmps88
   go_wp2_with fail
   refine hm.mono ?_
   rintro e w2 ⟨rfl, hb2⟩
   have hbw := Z00 HB0.out hb2
   have HBW2 := Y1 hbw
   have HB2 := Y1 (HB.out.next hb2)
   have hr := Z8P t q w2 (HQ.out.next hbw) (HG.out.next hbw) HZ.out
   clear hm hb2 hbw c0 c1 c2 c3 c4
   obtain ⟨_, ⟨c0, c1, c2, c3, c4⟩, _⟩ := HB2.out
   cases hrt : right t
   all_goals
    rw [hrt] at hr HF
    clear hrt
    go_wp2_with fail
    refine hr.mono ?_
    rintro e w' ⟨rfl, hb'⟩
    go_wp2
    go_ret
    exact ⟨Z0v (by rw [HF.out]; rfl), Z00 HBW2.out hb'⟩}}
theorem Z8S (t : Sh) : ∀ (q : Ptr) (w : World), ShAt w w.heap.size q t -> WGlobs w -> right t = true -> size t <= 400 ->
 Y9 107 #[.agg (Y8 t q)] w (.string ⟨(text t).toArray⟩) := by
 induction t using Sh.ind with
 | h t ih =>
 intro q w hq hg hr hz
 have hf : Wr7 t := fun x hx q' w' h1 h2 => ih x hx q' w' h1 h2 (right_part hr hx) (by have := sizes_mem hx; rw [size_eq] at hz; omega)
 rcases Z1d (right_fits hr) with ⟨h1, h2, _, _⟩ | ⟨h, _⟩ | ⟨h, _⟩ | ⟨h, _⟩ | ⟨h, _⟩
 {have : t.kind = 1 \/ t.kind = 2 \/ t.kind = 3 \/ t.kind = 4 := by omega
  rcases this with h | h | h | h
  {exact ZdZ t q w hq hg hr hz hf h}
  {exact Ze0 t q w hq hg hr hz hf h}
  {exact Ze1 t q w hq hg hr hz hf h}
  {exact Ze2 t q w hq hg hr hz hf h}}
 {exact Ze3 t q w hq hg hr hz hf h}
 {rcases h with h | h
  {exact Ze4 t q w hq hg hr hz hf h}
  {exact Ze5 t q w hq hg hr hz hf h}}
 {exact Ze9 t q w hq hg hr hz hf h}
 {rcases h with h | h
  {exact Ze6 t q w hq hg hr hz hf h}
  {exact Zc5 t q w hq hg hr hz hf h}}
def Z5c (t : Sh) : List UInt8 := if check t = 0 then text t else []
theorem check_ok {t : Sh} (h : check t = 0) : size t <= 400 /\ deep t <= 40 /\ right t = true := by
 unfold check at h
 by_cases h4 : 400 < size t
 {rw [if_pos h4] at h; omega}
 {rw [if_neg h4] at h
  by_cases h40 : 40 < deep t
  {rw [if_pos h40] at h; omega}
  {rw [if_neg h40] at h
   cases hr : right t with
   | false => rw [hr] at h; simp at h
   | true => exact ⟨by omega, by omega, rfl⟩}}
theorem Zck (t : Sh) (q : Ptr) (w : World) (hq : ShAt w w.heap.size q t) (hg : WGlobs w) :
 Y9 80 #[.agg (Y8 t q)] w (.tuple #[.string ⟨(Z5c t).toArray⟩, .int .i64 (check t)]) := by
 have hb0 := Z02 w (.cells (Y8 t q) 45)
 have hm := Z5A t q _ (hq.next hb0) (hg.next hb0)
 have HB0 := Y1 hb0
 have HB := Y1 (Z0c w t q)
 have HQ := Y1 hq
 have HG := Y1 hg
 have HS : Hid (Z5c t = if check t = 0 then text t else []) := Y1 rfl
 obtain ⟨_, ⟨c0, c1, c2, c3, c4⟩, _⟩ := HB.out
 clear hb0 hq hg
 by_cases h0 : check t = 0
 {have HF : Hid (Z5c t = text t) := Y1 (by rw [HS.out, if_pos h0])
  have HH := Y1 h0
  rw [h0] at hm
  clear h0
  go_enter Tryz.func80, Tryz.ntmps80
  go_wp2_with fail
  refine hm.mono ?_
  rintro e w1 ⟨rfl, hb1⟩
  have hbw := Z00 HB0.out hb1
  obtain ⟨hz, _, hr⟩ := check_ok HH.out
  have hd := Z8S t q w1 (HQ.out.next hbw) (HG.out.next hbw) hr hz
  obtain ⟨_, ⟨d0, d1, d2, d3, d4⟩, _⟩ := HB.out.next hb1
  have HBW := Y1 hbw
  clear hm hb1 c0 c1 c2 c3 c4 hbw hz hr
  go_wp2_with fail
  refine hd.mono ?_
  rintro e w' ⟨rfl, hb'⟩
  have HBW2 := Y1 (Z00 HBW.out hb')
  clear hd hb'
  go_wp2
  go_ret2
  exact ⟨by rw [HF.out, HH.out]; rfl, HBW2.out⟩}
 {have HF : Hid (Z5c t = []) := Y1 (by rw [HS.out, if_neg h0])
  have n0 : (check t != 0) = true := by simpa using h0
  have e0 : (check t == 0) = false := by simpa using h0
  clear h0
  go_enter Tryz.func80, Tryz.ntmps80
  go_wp2_with fail
  refine hm.mono ?_
  rintro e w1 ⟨rfl, hb1⟩
  have HBW := Y1 (Z00 HB0.out hb1)
  clear hm hb1
  go_wp2
  go_ret2
  exact ⟨by rw [HF.out]; rfl, HBW.out⟩}
end Go.Proofs.YtnkdedejfonbmaaGreatDoor
namespace Go.Proofs.YtnkdedejfonbmaaGreatDoor
open Go.RowKit Tms
open Shp (Sh field join)
theorem Z21 (s : Sh) (q : Ptr) (w : World) (hq : ShAt w w.heap.size q s) (hg : WGlobs w) (hc : Shp.check s = 0) :
 Y9 52 #[.agg (Y8 s q)] w (.string ⟨(Shp.text s).toArray⟩) := by
 have hb0 := Z02 w (.cells (Y8 s q) 45)
 have HB0 := Y1 hb0
 have HC := Y1 (Zck s q _ (hq.next hb0) (hg.next hb0))
 have HE : Hid (Z5c s = Shp.text s) := Y1 (by unfold Z5c; rw [if_pos hc])
 obtain ⟨_, ⟨c0, c1, c2, c3, c4⟩, _⟩ := Z0c w s q
 simp only [Nat.zero_add] at c0 c1 c2 c3 c4
 clear hb0 hq hg
 go_enter Tryz.func52, Tryz.ntmps52
 go_wp2_with fail
 refine HC.out.mono ?_
 rintro e w1 ⟨rfl, hb1⟩
 have HB := Y1 (Z00 HB0.out hb1)
 clear hb1 HC c0 c1 c2 c3 c4
 go_wp2
 go_ret
 exact ⟨Z0h (by rw [HE.out]), HB.out⟩
theorem Z5B (n : List UInt8) (s : Sh) (q : Ptr) (w : World) (hq : ShAt w w.heap.size q s) (hg : WGlobs w) (hc : Shp.check s = 0) (hn : n.length <= 1000000) (hl : (Shp.text s).length <= 1000000) :
 Y9 78 #[.string ⟨n.toArray⟩, .agg (Y8 s q)] w (.string ⟨(field n (Shp.text s)).toArray⟩) := by
 have hb0 := Z02 w (.cells (Y8 s q) 45)
 have HB0 := Y1 hb0
 have HC := Y1 (Z21 s q _ (hq.next hb0) (hg.next hb0) hc)
 obtain ⟨_, ⟨c0, c1, c2, c3, c4⟩, _⟩ := Z0c w s q
 simp only [Nat.zero_add] at c0 c1 c2 c3 c4
 have HF : Hid (field n (Shp.text s) = n ++ [58, 32] ++ Shp.text s) := Y1 rfl
 have z1 : (⟨n.toArray⟩ : ByteArray).size = n.length := Z04 _
 have z2 : (⟨(Shp.text s).toArray⟩ : ByteArray).size = (Shp.text s).length := Z04 _
 clear hb0 hq hg
 generalize Shp.text s = tx at HC HF hl z2
 go_enter Tryz.func78, Tryz.ntmps78
 go_wp2_with fail
 refine HC.out.mono ?_
 rintro e w1 ⟨rfl, hb1⟩
 have HB := Y1 (Z00 HB0.out hb1)
 clear hb1 HC c0 c1 c2 c3 c4
 go_wp2
 go_ret
 exact ⟨Z0h (by rw [HF.out, <- cat7, <- cat7]), HB.out⟩
theorem Zal (t : Tm) (q : TP) (w : World) (hn : t.name.length <= 1000000000) (ho : t.of_.length <= 1000000000) :
 Y9 47 #[.agg (Y7 t q)] w (.string ⟨(if t.of_ = [] then t.name else t.of_ ++ [47] ++ t.name).toArray⟩) := by
 have hb0 := Z02 w (.cells (Y7 t q) 26)
 have HB0 := Y1 hb0
 clear hb0
 obtain ⟨_, ⟨c0, c1, c2, c3, c4, c5, c6, c7, c8⟩, _⟩ := Z07 w t q
 have z1 : (⟨t.of_.toArray⟩ : ByteArray).size = t.of_.length := Z04 _
 have z2 : (⟨t.name.toArray⟩ : ByteArray).size = t.name.length := Z04 _
 cases h1 : (t.of_ == [])
 {have hoe := Z0o h1
  rw [if_neg (by simpa using h1)]
  clear h1
  go_enter Tryz.func47, Tryz.ntmps47
  go_wp2
  go_ret
  exact ⟨Z0h (by rw [<- cat7, <- cat7]), HB0.out⟩}
 {have hoe := Z0o h1
  rw [if_pos (by simpa using h1)]
  clear h1
  go_enter Tryz.func47, Tryz.ntmps47
  go_wp2
  go_ret
  exact ⟨rfl, HB0.out⟩}
end Go.Proofs.YtnkdedejfonbmaaGreatDoor
namespace Tms
def runeStart (b : UInt8) : Bool := decide (b.toNat < 128) || decide (192 <= b.toNat)
theorem Zcl {p : Int} (h0 : 0 <= p) (h : p < 128) : ∃ b, Utf.bytes p = [b] /\ (b.toNat : Int) = p := by
 refine ⟨Utf.byte p, ?_, by rw [Utf.Z0d]; omega⟩
 unfold Utf.bytes
 rw [if_pos h]
theorem Zcm {s : List UInt8} (h : textOk s = true) : ∃ ps, s = Utf.enc ps /\ ∀ p ∈ ps, Lex.okP p = true := by
 unfold textOk at h
 rw [Bool.and_eq_true, List.all_eq_true] at h
 obtain ⟨ps, rest, hr⟩ := Utf.reads s
 have hre : rest = [] := (Z2B hr).1 h.2
 have hs : s = Utf.enc ps := by have := hr.text; rw [hre, List.append_nil] at this; exact this
 refine ⟨ps, hs, fun p hp => ?_⟩
 have hpt := hr.pts p hp
 have h0 := ((Utf.Z1r p).1 hpt).1
 unfold Lex.okP
 rw [hpt, Bool.true_and]
 simp only [Bool.or_eq_true, decide_eq_true_eq]
 by_cases h32 : 32 <= p
 {exact Or.inl (Or.inl h32)}
 {obtain ⟨b, hb, hbp⟩ := Zcl h0 (by omega)
  have hm : b ∈ s := by
   rw [hs]; unfold Utf.enc
   exact List.mem_flatMap.2 ⟨p, hp, by rw [hb]; simp⟩
  have := h.1 b hm
  unfold plainB at this
  simp only [Bool.or_eq_true, decide_eq_true_eq, beq_iff_eq] at this
  rcases this with (h1 | rfl) | rfl
  {omega}
  {exact Or.inr (by rw [<- hbp]; rfl)}
  {exact Or.inl (Or.inr (by rw [<- hbp]; rfl))}}
theorem Zhi {p : Int} (h : Lex.okP p = true) : Utf.pt p = true := by
 unfold Lex.okP at h; rw [Bool.and_eq_true] at h; exact h.1
theorem cut_at : ∀ {ps : List Int}, (∀ p ∈ ps, Utf.pt p = true) -> ∀ {n : Nat} (hn : n < (Utf.enc ps).length), runeStart ((Utf.enc ps)[n]) = true -> ∃ k, k <= ps.length /\ n = (Utf.enc (ps.take k)).length
 | [], _, n, hn, _ => by simp [Utf.Z3O] at hn
 | p :: ps, hp, n, hn, hb => by
  obtain ⟨a, r, h1, h2, h3, h4⟩ := Utf.Z0S p (hp p (by simp))
  have hw : (Utf.bytes p).length = r.length + 1 := by rw [h1]; rfl
  have he : Utf.enc (p :: ps) = (a :: r) ++ Utf.enc ps := by rw [Utf.Z0F, h1]
  by_cases hlt : n < r.length + 1
  {cases n with
   | zero => exact ⟨0, by simp, by simp [Utf.Z3O]⟩
   | succ n =>
    have e : (Utf.enc (p :: ps))[n + 1] = r[n]'(by omega) := by
     simp only [he]
     rw [List.getElem_append_left (by simp; omega)]; rfl
    rw [e] at hb
    have := h4 _ (List.getElem_mem (by omega : n < r.length))
    unfold runeStart at hb
    simp only [Bool.or_eq_true, decide_eq_true_eq] at hb
    omega}
  {have hl : (Utf.enc (p :: ps)).length = r.length + 1 + (Utf.enc ps).length := by rw [he]; simp; omega
   have e : (Utf.enc (p :: ps))[n] = (Utf.enc ps)[n - (r.length + 1)]'(by omega) := by
    simp only [he]
    rw [List.getElem_append_right (by simp; omega)]; rfl
   rw [e] at hb
   obtain ⟨k, h5, h6⟩ := cut_at (fun q hq => hp q (by simp [hq])) (by omega) hb
   refine ⟨k + 1, by simp; omega, ?_⟩
   rw [List.take_succ_cons, Utf.Z0F, List.length_append, hw, <- h6]; omega}
theorem Z6k : ∀ {ps : List Int}, (∀ p ∈ ps, Utf.pt p = true) -> ∀ {n : Nat} (hn : n < (Utf.enc ps).length), ∃ j, j <= 3 /\ j <= n /\ ∀ h : n - j < (Utf.enc ps).length, runeStart ((Utf.enc ps)[n - j]) = true
 | [], _, n, hn => by simp [Utf.Z3O] at hn
 | p :: ps, hp, n, hn => by
  obtain ⟨a, r, h1, h2, h3, h4⟩ := Utf.Z0S p (hp p (by simp))
  have hw : (Utf.bytes p).length = r.length + 1 := by rw [h1]; rfl
  have hw2 := Utf.Z0X p
  rw [<- Utf.Z0q, hw] at hw2
  have he : Utf.enc (p :: ps) = (a :: r) ++ Utf.enc ps := by rw [Utf.Z0F, h1]
  by_cases hlt : n < r.length + 1
  {refine ⟨n, by omega, by omega, fun h => ?_⟩
   have e : (Utf.enc (p :: ps))[n - n] = a := by simp only [he, Nat.sub_self]; rfl
   rw [e]
   unfold runeStart
   simp only [Bool.or_eq_true, decide_eq_true_eq]; omega}
  {have hl : (Utf.enc (p :: ps)).length = r.length + 1 + (Utf.enc ps).length := by rw [he]; simp; omega
   obtain ⟨j, h5, h6, h7⟩ := Z6k (ps := ps) (fun q hq => hp q (by simp [hq])) (n := n - (r.length + 1)) (by omega)
   refine ⟨j, h5, by omega, fun h => ?_⟩
   have e : (Utf.enc (p :: ps))[n - j] = (Utf.enc ps)[n - (r.length + 1) - j]'(by omega) := by
    simp only [he]
    rw [List.getElem_append_right (by simp; omega)]
    congr 1
    simp; omega
   rw [e]
   exact h7 (by omega)}
theorem ZgR {ps : List Int} {n k : Nat} (h : n = (Utf.enc (ps.take k)).length) : (Utf.enc ps).take n = Utf.enc (ps.take k) /\ (Utf.enc ps).drop n = Utf.enc (ps.drop k) := by
 have e : Utf.enc ps = Utf.enc (ps.take k) ++ Utf.enc (ps.drop k) := by rw [<- Utf.Z1F, List.take_append_drop]
 exact ⟨by conv => lhs; rw [e, h, List.take_left]
  , by conv => lhs; rw [e, h, List.drop_left]⟩
theorem Zam {ps : List Int} (h : ∀ p ∈ ps, Lex.okP p = true) (hl : (Utf.enc ps).length <= 2047) : Lex.good ⟨4, Utf.enc ps⟩ := by
 have hw : Lex.written ⟨4, Utf.enc ps⟩ = 34 :: ((Utf.enc ps).flatMap Lex.escB ++ [34]) := by unfold Lex.written; rw [if_pos rfl]
 have he := Lex.Z5U h
 have hle := Z6X (Utf.enc ps)
 refine ⟨34, (Utf.enc ps).flatMap Lex.escB ++ [34], hw, by rw [List.length_cons, List.length_append, List.length_singleton]; omega, by decide, ?_⟩
 rw [he]
 have hb : Lex.body (34 :: (Lex.esc ps ++ [34])).length (Lex.esc ps ++ [34]) = (ps, [34]) := Lex.Z3P _ h (by rw [Lex.Z24, if_pos (Or.inl rfl)]) (by simp)
 have hq : Lex.quoted (34 :: (Lex.esc ps ++ [34])) = .ok (⟨4, Utf.enc ps⟩, (Lex.esc ps).length + 2) := by
  unfold Lex.quoted
  rw [List.tail_cons, hb]
  unfold Lex.finish
  simp
 unfold Lex.token
 simp only
 rw [if_neg (by decide), if_neg (by decide), if_pos trivial, hq]
 simp
end Tms
namespace Go.Proofs.YtnkdedejfonbmaaGreatDoor
open Go.RowKit
def Ints (w : World) (B : Nat) (A : Option Addr) (zs : List Int) : Prop :=
 zs.length = 0 \/ ∃ b off, A = some ⟨b, off, none⟩ /\ b < B /\ ∀ i (h : i < zs.length), w.cell? ⟨b, off + i, none⟩ = some (.int .i64 (zs[i]'h))
theorem Ints.keep {w w' : World} {B B' : Nat} {A : Option Addr} {zs : List Int} (h : Ints w B A zs) (hb : Below B' w w') (hB : B <= B') : Ints w' B A zs := by
 rcases h with h | ⟨b, off, hA, hlt, hc⟩
 {exact Or.inl h}
 {exact Or.inr ⟨b, off, hA, hlt, fun i hi => (hb.cell (p := ⟨b, off + i, none⟩) (Nat.lt_of_lt_of_le hlt hB)).trans (hc i hi)⟩}
theorem Ints.more {w : World} {B B' : Nat} {A : Option Addr} {zs : List Int} (h : Ints w B A zs) (hB : B <= B') : Ints w B' A zs := by
 rcases h with h | ⟨b, off, hA, hlt, hc⟩
 {exact Or.inl h}
 {exact Or.inr ⟨b, off, hA, Nat.lt_of_lt_of_le hlt hB, hc⟩}
theorem Ints.next {w w' : World} {A : Option Addr} {zs : List Int} (h : Ints w w.heap.size A zs) (hb : Below w.heap.size w w') : Ints w' w'.heap.size A zs :=
 (h.keep hb (Nat.le_refl _)).more hb.size
theorem Z5C {w : World} {B n : Nat} {v : Value} {zs : List Int} (h : w.ownsRow B 3 1 v n (zs.map (Value.int .i64))) : ∃ A cap, v = .slice A zs.length cap /\ Ints w w.heap.size A zs /\ (A = none -> zs.length = 0 /\ cap = 0) := by
 have hlen := h.1
 rw [List.length_map, Nat.mul_one] at hlen
 subst hlen
 rcases h.2 with ⟨rfl, h0⟩ | ⟨g, cap, cur, rfl, hB, hh, _⟩
 {exact ⟨none, 0, by rw [h0], Or.inl h0, fun _ => ⟨h0, rfl⟩⟩}
 {refine ⟨_, _, rfl, Or.inr ⟨g, 0, rfl, ?_, fun i hi => ?_⟩, fun h => by cases h⟩
  {exact (h.lt g rfl).2}
  {rw [Nat.zero_add, h.cellAt i (by omega)]
   simp [hi]}}
theorem Z4g {w : World} {B n : Nat} {v : Value} {l : List UInt8} (h : w.ownsRow B 5 1 v n (Lib.byteCells l)) :
 (convert 89 9 v).run Tryz.prog w = .ok (.string ⟨l.toArray⟩) w := by
 have hlen := h.1
 rw [Lib.byteCells_length, Nat.mul_one] at hlen
 rcases h.2 with ⟨rfl, rfl⟩ | ⟨g, cap, cur, rfl, _, hh, _⟩
 {have : l = [] := List.eq_nil_of_length_eq_zero hlen
  subst this
  exact run_convert_bytes_nil w 89 5 Tryz.underlying89 Tryz.underlying5 0 0 9 Tryz.underlying9}
 {have hr := run_convert_bytes_arg (P := Tryz.prog) w 89 5 Tryz.underlying89 Tryz.underlying5 g 0 n cap (l.map fun b => (b.toNat : Int)) (by simpa using hlen) (fun i hi => by
   have hc := h.cellAt i (by omega)
   rw [Nat.zero_add, hc, Lib.byteCells]
   have hi' : i < l.length := by omega
   simp [hi']) 9 Tryz.underlying9
  rw [hr]
  have e : strOfNums (l.map fun b => (b.toNat : Int)) = ⟨l.toArray⟩ := by
   unfold strOfNums
   rw [List.map_map]
   congr 2
   conv => rhs; rw [<- List.map_id l]
   apply List.map_congr_left
   intro b _
   simp
  rw [e]}
end Go.Proofs.YtnkdedejfonbmaaGreatDoor
namespace Go.Proofs.YtnkdedejfonbmaaGreatDoor
open Go
theorem Z7x (a : Nat) (ha : a < 9223372036854775808) : (BitVec.ofInt 64 (a : Int)).toNat = a := by
 rw [BitVec.ofInt_natCast, BitVec.toNat_ofNat]; exact Nat.mod_eq_of_lt (by omega)
theorem Zcn (a b : Nat) (ha : a < 9223372036854775808) (hb : b < 9223372036854775808) : bits .or .i64 (a : Int) (b : Int) = ((a ||| b : Nat) : Int) := by
 have hx : a ||| b < 2 ^ 63 := Nat.or_lt_two_pow (by omega) (by omega)
 show IntKind.i64.wrap ((BitVec.ofInt 64 (a : Int) ||| BitVec.ofInt 64 (b : Int)).toNat : Int) = _
 rw [BitVec.toNat_or, Z7x a ha, Z7x b hb, IntKind.wrap_i64]
 omega
theorem Zel (x y : Int) (h0 : 0 <= x) (h1 : x < 1000000000) (h2 : 0 <= y) (h3 : y < 64) : bits .or .i64 (x * 64) y = x * 64 + y := by
 obtain ⟨a, rfl⟩ := Int.eq_ofNat_of_zero_le h0
 obtain ⟨b, rfl⟩ := Int.eq_ofNat_of_zero_le h2
 rw [show (a : Int) * 64 = ((a * 64 : Nat) : Int) from by omega, Zcn _ _ (by omega) (by omega), nat_join 6 (a * 64) b (by omega) (by omega)]
 omega
end Go.Proofs.YtnkdedejfonbmaaGreatDoor
namespace Go.Proofs.YtnkdedejfonbmaaGreatDoor
open Go.RowKit
theorem Z2q {p : Int} (h : Utf.pt p = true) : 0 <= p /\ p <= 1114111 /\ (p < 55296 \/ 57343 < p) := (Utf.Z1r p).1 h
theorem Z4O (p : Int) (w : World) :
 Calls Tryz.prog 193 #[.int .i64 p] w fun e w' => e = .returned (.bool (Utf.pt p)) /\ w = w' := by
 by_cases h0 : 0 <= p
 {by_cases h1 : p <= 1114111
  {by_cases h2 : p < 55296
   {have e : Utf.pt p = true := (Utf.Z1r p).2 ⟨h0, h1, Or.inl h2⟩
    rw [e]
    clear e
    go_enter Tryz.func193, Tryz.ntmps193
    go_wp2
    go_ret
    exact ⟨rfl, rfl⟩}
   {by_cases h3 : 57343 < p
    {have e : Utf.pt p = true := (Utf.Z1r p).2 ⟨h0, h1, Or.inr h3⟩
     rw [e]
     clear e
     go_enter Tryz.func193, Tryz.ntmps193
     go_wp2
     go_ret
     exact ⟨rfl, rfl⟩}
    {have e : Utf.pt p = false := Bool.eq_false_iff.2 fun h => by have := Z2q h; omega
     rw [e]
     clear e
     go_enter Tryz.func193, Tryz.ntmps193
     go_wp2
     go_ret
     exact ⟨rfl, rfl⟩}}}
  {have e : Utf.pt p = false := Bool.eq_false_iff.2 fun h => by have := Z2q h; omega
   rw [e]
   clear e
   go_enter Tryz.func193, Tryz.ntmps193
   go_wp2
   go_ret
   exact ⟨rfl, rfl⟩}}
 {have e : Utf.pt p = false := Bool.eq_false_iff.2 fun h => by have := Z2q h; omega
  rw [e]
  clear e
  go_enter Tryz.func193, Tryz.ntmps193
  go_wp2
  go_ret
  exact ⟨rfl, rfl⟩}
theorem Z4h (p : Int) (w : World) :
 Calls Tryz.prog 194 #[.int .i64 p] w fun e w' => e = .returned (.int .i64 (Utf.width p : Nat)) /\ w = w' := by
 unfold Utf.width
 by_cases h0 : p < 128
 {rw [if_pos h0]
  go_enter Tryz.func194, Tryz.ntmps194
  go_wp2
  go_ret
  exact ⟨rfl, rfl⟩}
 {rw [if_neg h0]
  by_cases h1 : p < 2048
  {rw [if_pos h1]
   go_enter Tryz.func194, Tryz.ntmps194
   go_wp2
   go_ret
   exact ⟨rfl, rfl⟩}
  {rw [if_neg h1]
   by_cases h2 : p < 65536
   {rw [if_pos h2]
    go_enter Tryz.func194, Tryz.ntmps194
    go_wp2
    go_ret
    exact ⟨rfl, rfl⟩}
   {rw [if_neg h2]
    go_enter Tryz.func194, Tryz.ntmps194
    go_wp2
    go_ret
    exact ⟨rfl, rfl⟩}}}
def duo (x : Int × Nat) : Value := .tuple #[.int .i64 x.1, .int .i64 x.2]
theorem Z4P (a : UInt8) (w : World) :
 Calls Tryz.prog 192 #[.int .u8 a.toNat] w fun e w' => e = .returned (duo (Utf.plead a.toNat)) /\ w = w' := by
 have ha := a.toNat_lt
 rcases Utf.Z1Z a.toNat with ⟨h1, e⟩ | ⟨h1, h2, e⟩ | ⟨h1, h2, e⟩ | ⟨h1, h2, e⟩ | ⟨h1, e⟩ <;> rw [e] <;> clear e
 {go_enter Tryz.func192, Tryz.ntmps192
  go_wp2
  go_ret2
  exact ⟨rfl, rfl⟩}
 {go_enter Tryz.func192, Tryz.ntmps192
  go_wp2
  go_ret2
  exact ⟨rfl, rfl⟩}
 {go_enter Tryz.func192, Tryz.ntmps192
  go_wp2
  go_ret2
  exact ⟨rfl, rfl⟩}
 {go_enter Tryz.func192, Tryz.ntmps192
  go_wp2
  go_ret2
  exact ⟨rfl, rfl⟩}
 {rcases h1 with ⟨h1, h2⟩ | h1
  {go_enter Tryz.func192, Tryz.ntmps192
   go_wp2
   go_ret2
   exact ⟨rfl, rfl⟩}
  {go_enter Tryz.func192, Tryz.ntmps192
   go_wp2
   go_ret2
   exact ⟨rfl, rfl⟩}}
theorem Z3X (s : ByteArray) (h : 0 < s.size) : ∃ r, s.data.toList = s[0] :: r /\ r.length + 1 = s.size /\ ∀ (i : Nat) (hi : i < r.length) (h' : i + 1 < s.size), r[i] = s[i + 1] := by
 have hz := Lib.size_eq s
 obtain ⟨a, r, e⟩ : ∃ a r, s.data.toList = a :: r := by
  rcases hl : s.data.toList with _ | ⟨a, r⟩
  {rw [hl, List.length_nil] at hz; omega}
  {exact ⟨a, r, rfl⟩}
 have h0 : s[0] = s.data.toList[0]'(by rw [e]; simp) := rfl
 refine ⟨r, ?_, by rw [hz, e]; rfl, ?_⟩
 {rw [e, h0]; simp [e]}
 {intro i hi h'
  have : s[i + 1] = s.data.toList[i + 1]'(by rw [<- hz]; exact h') := rfl
  rw [this]; simp [e]}
theorem Z4i (s : ByteArray) (r : List UInt8) (hl : r.length + 1 = s.size) (hi : ∀ (i : Nat) (hi : i < r.length) (h' : i + 1 < s.size), r[i] = s[i + 1]) {x v : Int} (k : Nat) (hk : 1 <= k) (hks : k < s.size)
 (hx : x = Utf.val v (r.take (k - 1))) : x * 64 + (s[k]'hks).toNat - 128 = Utf.val v (r.take k) := by
 obtain ⟨j, rfl⟩ : ∃ j, k = j + 1 := ⟨k - 1, by omega⟩
 rw [List.take_succ_eq_append_getElem (by omega), Utf.Zfi, hi j (by omega) hks, hx]
 rfl
def Box2 (W : World) (g : Nat) (a b : Int) : Prop := g < W.heap.size /\ W.cell? ⟨g, 0, none⟩ = some (.int .i64 a) /\ W.cell? ⟨g, 1, none⟩ = some (.int .i64 b) /\ W.frozen? ⟨g, 0, none⟩ = false /\ W.frozen? ⟨g, 1, none⟩ = false
theorem Box2.keep {W W' : World} {g B : Nat} {a b : Int} (h : Box2 W g a b) (hg : g < B) (hb : Below B W W') : Box2 W' g a b :=
 ⟨Nat.lt_of_lt_of_le h.1 hb.size, (hb.cell (p := ⟨g, 0, none⟩) hg).trans h.2.1, (hb.cell (p := ⟨g, 1, none⟩) hg).trans h.2.2.1, (hb.frozen (p := ⟨g, 0, none⟩) hg).trans h.2.2.2.1, (hb.frozen (p := ⟨g, 1, none⟩) hg).trans h.2.2.2.2⟩
theorem Z27 (w : World) (a b : Int) : Box2 (w.alloc (.cells #[.int .i64 a, .int .i64 b] 116)) w.heap.size a b :=
 ⟨by simp, by simp [go_sem], by simp [go_sem], by simp [go_sem], by simp [go_sem]⟩
theorem Z2r (c : UInt8) (k : Nat) (hk : k < 256) : ((c.toNat : Int) == (k : Int)) = (c == UInt8.ofNat k) := by
 have hm : (UInt8.ofNat k).toNat = k := by simp; omega
 rw [Bool.eq_iff_iff, beq_iff_eq, beq_iff_eq]
 constructor
 {intro h; apply UInt8.toNat_inj.1; rw [hm]; omega}
 {intro h; rw [h, hm]}
end Go.Proofs.YtnkdedejfonbmaaGreatDoor
namespace Go.Proofs.YtnkdedejfonbmaaGreatDoor
open Go.RowKit Tms
theorem Zcp : ∀ n : Fin 256, (bits .and .u8 ((n.val : Nat) : Int) 192 == 128) = !(decide (n.val < 128) || decide (192 <= n.val)) := by decide +kernel
theorem Z7X (b : UInt8) : (bits .and .u8 (b.toNat : Int) 192 == 128) = !(runeStart b) := Zcp ⟨b.toNat, b.toNat_lt⟩
theorem Zeo (b : UInt8) (w : World) : Calls Tryz.prog 102 #[.int .u8 b.toNat] w fun e w' => e = .returned (.bool (runeStart b)) /\ w = w' := by
 have hs := Z7X b
 go_enter Tryz.func102, Tryz.ntmps102
 go_wp2
 go_ret
 exact ⟨by simp only [bne, hs, Bool.not_not]; rfl, rfl⟩
theorem Zcq (ps : List Int) (hp : ∀ p ∈ ps, Utf.pt p = true) (w : World) (hs : (Utf.enc ps).length <= 140737488355328) :
 Calls Tryz.prog 75 #[.string ⟨(Utf.enc ps).toArray⟩] w fun e w' => (∃ n k : Nat, e = .returned (.int .i64 (n : Int)) /\ n <= 2047 /\ k <= ps.length /\ n = (Utf.enc (ps.take k)).length /\ (0 < (Utf.enc ps).length -> 0 < n)) /\ w = w' := by
 have HN : Hid ((Utf.enc ps).length <= 2047 \/ ∃ j, j <= 3 /\ (2047 < (Utf.enc ps).length) /\ ∀ h : 2047 - j < (Utf.enc ps).length, runeStart ((Utf.enc ps)[2047 - j]) = true) := Y1 (by
  by_cases h : (Utf.enc ps).length <= 2047
  {exact Or.inl h}
  · obtain ⟨j, h1, h2, h3⟩ := Z6k hp (n := 2047) (by omega)
    exact Or.inr ⟨j, h1, by omega, h3⟩)
 have HC := Y1 (fun (n : Nat) (hn : n < (Utf.enc ps).length) (h : runeStart ((Utf.enc ps)[n]) = true) => cut_at hp hn h)
 have HA : Hid (Utf.enc ps = Utf.enc (ps.take ps.length)) := Y1 (by rw [List.take_length])
 have hz : (⟨(Utf.enc ps).toArray⟩ : ByteArray).size = (Utf.enc ps).length := Z04 _
 have HIX := Y1 (fun (n : Nat) (hn : n < (Utf.enc ps).length) (W : World) => Z0K ⟨(Utf.enc ps).toArray⟩ n (by rw [hz]; exact hn) W)
 obtain ⟨s, hsd⟩ : ∃ s, s = Utf.enc ps := ⟨_, rfl⟩
 have HRS := fun (b : UInt8) (W : World) => Zeo b W
 by_cases hle : (Utf.enc ps).length <= 2047
 {have hi : ((Utf.enc ps).length : Int) <= 2047 := by omega
  go_enter Tryz.func75, Tryz.ntmps75
  go_wp2
  go_ret
  exact ⟨⟨(Utf.enc ps).length, ps.length, rfl, hle, Nat.le_refl _, by rw [List.take_length], fun h => h⟩, rfl⟩}
 {have hi : ¬ ((Utf.enc ps).length : Int) <= 2047 := by omega
  have hlt : 2047 < (Utf.enc ps).length := by omega
  obtain ⟨j, hj, HJ⟩ : ∃ j, j <= 3 /\ Hid (∀ h : 2047 - j < (Utf.enc ps).length, runeStart ((Utf.enc ps)[2047 - j]) = true) := by
   rcases HN.out with h | ⟨j, h1, _, h3⟩
   {omega}
   {exact ⟨j, h1, Y1 h3⟩}
  clear HN HA
  go_enter Tryz.func75, Tryz.ntmps75
  go_wp2_with fail
  go_loopw [3] (fun ii wr => ∃ n : Nat, ii = .int .i64 n /\ n <= 2047 /\ 2047 - j <= n /\ w = wr) (fun ii _ => (intOf ii).toNat)
  case atStart => exact ⟨2047, rfl, Nat.le_refl _, by omega, rfl⟩
  case round =>
   obtain ⟨n, rfl, hn, hn2, rfl⟩ := hrel
   have hnl : n < (Utf.enc ps).length := by omega
   have hidx := HIX.out n hnl
   obtain ⟨b, hb⟩ : ∃ b, b = (Utf.enc ps)[n] := ⟨_, rfl⟩
   have hidx2 : ∀ W, (Instr.index 9 (.string ⟨(Utf.enc ps).toArray⟩) (.int .i64 (n : Int))).run Tryz.prog W = .ok (.int .u8 b.toNat) W := fun W => by rw [hb]; exact hidx W
   have HBB := Y1 hb
   clear hidx hb
   have hn3 : (n : Int) <= 2047 := by omega
   have hn4 : (2044 : Int) <= n := by omega
   go_wp2_with fail
   refine (HRS b _).mono ?_
   rintro e w2 ⟨rfl, rfl⟩
   cases hr : runeStart b with
   | true =>
    have HK := Y1 (HC.out n hnl (by rw [<- HBB.out]; exact hr))
    go_wp2
    go_ret
    obtain ⟨k, h1, h2⟩ := HK.out
    exact ⟨⟨n, k, rfl, hn, h1, h2, fun _ => by omega⟩, rfl⟩
   | false =>
    have hne : n ≠ 2047 - j := fun e => by
     subst e
     have := HJ.out hnl
     rw [<- HBB.out, hr] at this
     cases this
    go_wp2
    go_roundw
    case rel => exact ⟨n - 1, by go_num, by omega, by omega, by trivial⟩
    case measure => simp [intOf]; omega}
end Go.Proofs.YtnkdedejfonbmaaGreatDoor
namespace Go.Proofs
open Go.Shelf
def Tryz.lays143_ren : Go.Shelf.Ren := ⟨fun | 143 => 205 | 219 => 186 | 217 => 158 | 225 => 189 | 224 => 190 | 267 => 191 | 266 => 164 | 314 => 198 | n => n, fun | 9 => 9 | 3 => 3 | 4 => 4 | 5 => 5 | 46 => 165 | 146 => 211 | 51 => 172 | n => n, fun | 1 => 4 | n => n⟩
theorem Tryz.lays143 : Go.Proofs.Lays.n143 Tryz.prog Tryz.lays143_ren := {
 mixed := by kernel_rfl
 f143 := Tryz.func205.trans (congrArg some (by kernel_rfl))
 f217 := Tryz.func158.trans (congrArg some (by kernel_rfl))
 f219 := Tryz.func186.trans (congrArg some (by kernel_rfl))
 f224 := Tryz.func190.trans (congrArg some (by kernel_rfl))
 f225 := Tryz.func189.trans (congrArg some (by kernel_rfl))
 f266 := Tryz.func164.trans (congrArg some (by kernel_rfl))
 f267 := Tryz.func191.trans (congrArg some (by kernel_rfl))
 f314 := Tryz.func198.trans (congrArg some (by kernel_rfl))
 t3 := Tryz.underlying3
 a3 := Tryz.isAgg3
 z3 := Tryz.sizeOf3
 v3 := Tryz.zeroValue3
 t4 := Tryz.underlying4
 a4 := Tryz.isAgg4
 z4 := Tryz.sizeOf4
 v4 := Tryz.zeroValue4
 t5 := Tryz.underlying5
 a5 := Tryz.isAgg5
 z5 := Tryz.sizeOf5
 v5 := Tryz.zeroValue5
 t9 := Tryz.underlying9
 a9 := Tryz.isAgg9
 z9 := Tryz.sizeOf9
 v9 := Tryz.zeroValue9
 t46 := Tryz.underlying165
 a46 := Tryz.isAgg165
 z46 := Tryz.sizeOf165
 v46 := Tryz.zeroValue165
 t51 := Tryz.underlying172
 a51 := Tryz.isAgg172
 z51 := Tryz.sizeOf172
 v51 := Tryz.zeroValue172
 t146 := Tryz.underlying211
 a146 := Tryz.isAgg211
 z146 := Tryz.sizeOf211
 v146 := Tryz.zeroValue211
 g1 := by kernel_rfl }
def Tryz.lays219_ren : Go.Shelf.Ren := ⟨fun | 219 => 186 | 217 => 158 | 225 => 189 | 224 => 190 | 267 => 191 | 266 => 164 | 314 => 198 | n => n, fun | 9 => 9 | 3 => 3 | 4 => 4 | 5 => 5 | 46 => 165 | 146 => 211 | 51 => 172 | n => n, fun | 1 => 4 | n => n⟩
theorem Tryz.lays219 : Go.Proofs.Lays.n219 Tryz.prog Tryz.lays219_ren := {
 mixed := by kernel_rfl
 f217 := Tryz.func158.trans (congrArg some (by kernel_rfl))
 f219 := Tryz.func186.trans (congrArg some (by kernel_rfl))
 f224 := Tryz.func190.trans (congrArg some (by kernel_rfl))
 f225 := Tryz.func189.trans (congrArg some (by kernel_rfl))
 f266 := Tryz.func164.trans (congrArg some (by kernel_rfl))
 f267 := Tryz.func191.trans (congrArg some (by kernel_rfl))
 f314 := Tryz.func198.trans (congrArg some (by kernel_rfl))
 t3 := Tryz.underlying3
 a3 := Tryz.isAgg3
 z3 := Tryz.sizeOf3
 v3 := Tryz.zeroValue3
 t4 := Tryz.underlying4
 a4 := Tryz.isAgg4
 z4 := Tryz.sizeOf4
 v4 := Tryz.zeroValue4
 t5 := Tryz.underlying5
 a5 := Tryz.isAgg5
 z5 := Tryz.sizeOf5
 v5 := Tryz.zeroValue5
 t9 := Tryz.underlying9
 a9 := Tryz.isAgg9
 z9 := Tryz.sizeOf9
 v9 := Tryz.zeroValue9
 t46 := Tryz.underlying165
 a46 := Tryz.isAgg165
 z46 := Tryz.sizeOf165
 v46 := Tryz.zeroValue165
 t51 := Tryz.underlying172
 a51 := Tryz.isAgg172
 z51 := Tryz.sizeOf172
 v51 := Tryz.zeroValue172
 t146 := Tryz.underlying211
 a146 := Tryz.isAgg211
 z146 := Tryz.sizeOf211
 v146 := Tryz.zeroValue211
 g1 := by kernel_rfl }
def Tryz.lays172_ren : Go.Shelf.Ren := ⟨fun | 172 => 196 | 244 => 200 | 245 => 201 | 247 => 206 | 279 => 207 | 280 => 208 | 281 => 209 | 282 => 210 | 287 => 216 | 316 => 185 | 171 => 45 | 205 => 217 | 321 => 223 | 322 => 224 | 243 => 73 | 246 => 100 | 283 => 123 | 284 => 124 | 285 => 125 | 286 => 126 | 129 => 143 | 317 => 142 | 318 => 144 | 319 => 145 | 320 => 146 | 337 => 156 | 338 => 157 | n => n, fun | 9 => 9 | 3 => 3 | 75 => 93 | 76 => 94 | 4 => 4 | 5 => 5 | 167 => 217 | 37 => 89 | 0 => 0 | 85 => 218 | 2 => 2 | 168 => 220 | 53 => 148 | 175 => 228 | 46 => 165 | 210 => 231 | 127 => 135 | 145 => 237 | 143 => 235 | 21 => 21 | 171 => 147 | 173 => 151 | 212 => 171 | 51 => 172 | 20 => 20 | 213 => 173 | 232 => 189 | 233 => 190 | 80 => 100 | n => n, fun | 15 => 7 | 16 => 8 | 17 => 3 | 18 => 5 | 19 => 6 | n => n⟩
theorem Tryz.lays172 : Go.Proofs.LaysC.n172 Tryz.prog Tryz.lays172_ren := {
 mixed := by kernel_rfl
 f129 := Tryz.func143.trans (congrArg some (by kernel_rfl))
 f171 := Tryz.func45.trans (congrArg some (by kernel_rfl))
 f172 := Tryz.func196.trans (congrArg some (by kernel_rfl))
 f205 := Tryz.func217.trans (congrArg some (by kernel_rfl))
 f243 := Tryz.func73.trans (congrArg some (by kernel_rfl))
 f244 := Tryz.func200.trans (congrArg some (by kernel_rfl))
 f245 := Tryz.func201.trans (congrArg some (by kernel_rfl))
 f246 := Tryz.func100.trans (congrArg some (by kernel_rfl))
 f247 := Tryz.func206.trans (congrArg some (by kernel_rfl))
 f279 := Tryz.func207.trans (congrArg some (by kernel_rfl))
 f280 := Tryz.func208.trans (congrArg some (by kernel_rfl))
 f281 := Tryz.func209.trans (congrArg some (by kernel_rfl))
 f282 := Tryz.func210.trans (congrArg some (by kernel_rfl))
 f283 := Tryz.func123.trans (congrArg some (by kernel_rfl))
 f284 := Tryz.func124.trans (congrArg some (by kernel_rfl))
 f285 := Tryz.func125.trans (congrArg some (by kernel_rfl))
 f286 := Tryz.func126.trans (congrArg some (by kernel_rfl))
 f287 := Tryz.func216.trans (congrArg some (by kernel_rfl))
 f316 := Tryz.func185.trans (congrArg some (by kernel_rfl))
 f317 := Tryz.func142.trans (congrArg some (by kernel_rfl))
 f318 := Tryz.func144.trans (congrArg some (by kernel_rfl))
 f319 := Tryz.func145.trans (congrArg some (by kernel_rfl))
 f320 := Tryz.func146.trans (congrArg some (by kernel_rfl))
 f321 := Tryz.func223.trans (congrArg some (by kernel_rfl))
 f322 := Tryz.func224.trans (congrArg some (by kernel_rfl))
 f337 := Tryz.func156.trans (congrArg some (by kernel_rfl))
 f338 := Tryz.func157.trans (congrArg some (by kernel_rfl))
 t0 := Tryz.underlying0
 a0 := Tryz.isAgg0
 z0 := Tryz.sizeOf0
 v0 := Tryz.zeroValue0
 t2 := Tryz.underlying2
 a2 := Tryz.isAgg2
 z2 := Tryz.sizeOf2
 v2 := Tryz.zeroValue2
 t3 := Tryz.underlying3
 a3 := Tryz.isAgg3
 z3 := Tryz.sizeOf3
 v3 := Tryz.zeroValue3
 t4 := Tryz.underlying4
 a4 := Tryz.isAgg4
 z4 := Tryz.sizeOf4
 v4 := Tryz.zeroValue4
 t5 := Tryz.underlying5
 a5 := Tryz.isAgg5
 z5 := Tryz.sizeOf5
 v5 := Tryz.zeroValue5
 t9 := Tryz.underlying9
 a9 := Tryz.isAgg9
 z9 := Tryz.sizeOf9
 v9 := Tryz.zeroValue9
 t20 := Tryz.underlying20
 a20 := Tryz.isAgg20
 z20 := Tryz.sizeOf20
 v20 := Tryz.zeroValue20
 t21 := Tryz.underlying21
 a21 := Tryz.isAgg21
 z21 := Tryz.sizeOf21
 v21 := Tryz.zeroValue21
 t37 := Tryz.underlying89
 a37 := Tryz.isAgg89
 z37 := Tryz.sizeOf89
 v37 := Tryz.zeroValue89
 t46 := Tryz.underlying165
 a46 := Tryz.isAgg165
 z46 := Tryz.sizeOf165
 v46 := Tryz.zeroValue165
 t51 := Tryz.underlying172
 a51 := Tryz.isAgg172
 z51 := Tryz.sizeOf172
 v51 := Tryz.zeroValue172
 t53 := Tryz.underlying148
 a53 := Tryz.isAgg148
 z53 := Tryz.sizeOf148
 v53 := Tryz.zeroValue148
 t75 := Tryz.underlying93
 a75 := Tryz.isAgg93
 z75 := Tryz.sizeOf93
 v75 := Tryz.zeroValue93
 t76 := Tryz.underlying94
 a76 := Tryz.isAgg94
 z76 := Tryz.sizeOf94
 v76 := Tryz.zeroValue94
 t85 := Tryz.underlying218
 a85 := Tryz.isAgg218
 z85 := Tryz.sizeOf218
 v85 := Tryz.zeroValue218
 t127 := Tryz.underlying135
 a127 := Tryz.isAgg135
 z127 := Tryz.sizeOf135
 v127 := Tryz.zeroValue135
 t143 := Tryz.underlying235
 a143 := Tryz.isAgg235
 z143 := Tryz.sizeOf235
 v143 := Tryz.zeroValue235
 t145 := Tryz.underlying237
 a145 := Tryz.isAgg237
 z145 := Tryz.sizeOf237
 v145 := Tryz.zeroValue237
 t167 := Tryz.underlying217
 a167 := Tryz.isAgg217
 z167 := Tryz.sizeOf217
 v167 := Tryz.zeroValue217
 t168 := Tryz.underlying220
 a168 := Tryz.isAgg220
 z168 := Tryz.sizeOf220
 v168 := Tryz.zeroValue220
 t171 := Tryz.underlying147
 a171 := Tryz.isAgg147
 z171 := Tryz.sizeOf147
 v171 := Tryz.zeroValue147
 t173 := Tryz.underlying151
 a173 := Tryz.isAgg151
 z173 := Tryz.sizeOf151
 v173 := Tryz.zeroValue151
 t175 := Tryz.underlying228
 a175 := Tryz.isAgg228
 z175 := Tryz.sizeOf228
 v175 := Tryz.zeroValue228
 t210 := Tryz.underlying231
 a210 := Tryz.isAgg231
 z210 := Tryz.sizeOf231
 v210 := Tryz.zeroValue231
 t212 := Tryz.underlying171
 a212 := Tryz.isAgg171
 z212 := Tryz.sizeOf171
 v212 := Tryz.zeroValue171
 t213 := Tryz.underlying173
 a213 := Tryz.isAgg173
 z213 := Tryz.sizeOf173
 t232 := Tryz.underlying189
 a232 := Tryz.isAgg189
 z232 := Tryz.sizeOf189
 v232 := Tryz.zeroValue189
 t233 := Tryz.underlying190
 a233 := Tryz.isAgg190
 z233 := Tryz.sizeOf190
 v233 := Tryz.zeroValue190
 g15 := by kernel_rfl
 g16 := by kernel_rfl
 g17 := by kernel_rfl
 g18 := by kernel_rfl
 g19 := by kernel_rfl
 t80 := Tryz.underlying100
 a80 := Tryz.isAgg100
 z80 := Tryz.sizeOf100
 v80 := Tryz.zeroValue100
 i0 := by kernel_rfl
 i2 := by kernel_rfl
 i3 := by kernel_rfl
 i4 := by kernel_rfl
 i5 := by kernel_rfl
 i9 := by kernel_rfl
 i20 := by kernel_rfl
 i21 := by kernel_rfl
 i37 := by kernel_rfl
 i46 := by kernel_rfl
 i51 := by kernel_rfl
 i53 := by kernel_rfl
 i75 := by kernel_rfl
 i76 := by kernel_rfl
 i80 := by kernel_rfl
 i85 := by kernel_rfl
 i127 := by kernel_rfl
 i143 := by kernel_rfl
 i145 := by kernel_rfl
 i167 := by kernel_rfl
 i168 := by kernel_rfl
 i171 := by kernel_rfl
 i173 := by kernel_rfl
 i175 := by kernel_rfl
 i210 := by kernel_rfl
 i212 := by kernel_rfl
 i232 := by kernel_rfl
 i233 := by kernel_rfl
 m15 := by kernel_rfl
 m16 := by kernel_rfl
 m17 := by kernel_rfl
 m18 := by kernel_rfl
 m19 := by kernel_rfl
 c0 := by kernel_rfl
 c2 := by kernel_rfl
 c3 := by kernel_rfl
 c4 := by kernel_rfl
 c5 := by kernel_rfl
 c9 := by kernel_rfl
 c20 := by kernel_rfl
 c21 := by kernel_rfl
 c37 := by kernel_rfl
 c46 := by kernel_rfl
 c51 := by kernel_rfl
 c53 := by kernel_rfl
 c75 := by kernel_rfl
 c76 := by kernel_rfl
 c80 := by kernel_rfl
 c85 := by kernel_rfl
 c127 := by kernel_rfl
 c143 := by kernel_rfl
 c145 := by kernel_rfl
 c167 := by kernel_rfl
 c168 := by kernel_rfl
 c171 := by kernel_rfl
 c173 := by kernel_rfl
 c175 := by kernel_rfl
 c210 := by kernel_rfl
 c212 := by kernel_rfl
 c213 := by kernel_rfl
 c232 := by kernel_rfl
 c233 := by kernel_rfl }
def Tryz.laysM171_ren : Go.Shelf.Ren := ⟨fun | 171 => 45 | 243 => 73 | 246 => 100 | 283 => 123 | 284 => 124 | 285 => 125 | 286 => 126 | 129 => 143 | 317 => 142 | 318 => 144 | 319 => 145 | 320 => 146 | 337 => 156 | 338 => 157 | n => n, fun | 3 => 3 | 9 => 9 | 2 => 2 | 4 => 4 | 171 => 147 | 0 => 0 | 53 => 148 | 37 => 89 | 5 => 5 | 173 => 151 | 212 => 171 | 51 => 172 | 20 => 20 | 213 => 173 | 46 => 165 | 232 => 189 | 233 => 190 | n => n, fun | 17 => 3 | 18 => 5 | 19 => 6 | n => n⟩
theorem Tryz.laysM171 : Go.Proofs.LaysM.n171 Tryz.prog Tryz.laysM171_ren := {
 mixed := by kernel_rfl
 f129 := Tryz.func143.trans (congrArg some (by kernel_rfl))
 f171 := Tryz.func45.trans (congrArg some (by kernel_rfl))
 f243 := Tryz.func73.trans (congrArg some (by kernel_rfl))
 f246 := Tryz.func100.trans (congrArg some (by kernel_rfl))
 f283 := Tryz.func123.trans (congrArg some (by kernel_rfl))
 f284 := Tryz.func124.trans (congrArg some (by kernel_rfl))
 f285 := Tryz.func125.trans (congrArg some (by kernel_rfl))
 f286 := Tryz.func126.trans (congrArg some (by kernel_rfl))
 f317 := Tryz.func142.trans (congrArg some (by kernel_rfl))
 f318 := Tryz.func144.trans (congrArg some (by kernel_rfl))
 f319 := Tryz.func145.trans (congrArg some (by kernel_rfl))
 f320 := Tryz.func146.trans (congrArg some (by kernel_rfl))
 f337 := Tryz.func156.trans (congrArg some (by kernel_rfl))
 f338 := Tryz.func157.trans (congrArg some (by kernel_rfl))
 t0 := Tryz.underlying0
 a0 := Tryz.isAgg0
 z0 := Tryz.sizeOf0
 v0 := Tryz.zeroValue0
 t2 := Tryz.underlying2
 a2 := Tryz.isAgg2
 z2 := Tryz.sizeOf2
 v2 := Tryz.zeroValue2
 t3 := Tryz.underlying3
 a3 := Tryz.isAgg3
 z3 := Tryz.sizeOf3
 v3 := Tryz.zeroValue3
 t4 := Tryz.underlying4
 a4 := Tryz.isAgg4
 z4 := Tryz.sizeOf4
 v4 := Tryz.zeroValue4
 t5 := Tryz.underlying5
 a5 := Tryz.isAgg5
 z5 := Tryz.sizeOf5
 v5 := Tryz.zeroValue5
 t9 := Tryz.underlying9
 a9 := Tryz.isAgg9
 z9 := Tryz.sizeOf9
 v9 := Tryz.zeroValue9
 t20 := Tryz.underlying20
 a20 := Tryz.isAgg20
 z20 := Tryz.sizeOf20
 v20 := Tryz.zeroValue20
 t37 := Tryz.underlying89
 a37 := Tryz.isAgg89
 z37 := Tryz.sizeOf89
 v37 := Tryz.zeroValue89
 t46 := Tryz.underlying165
 a46 := Tryz.isAgg165
 z46 := Tryz.sizeOf165
 v46 := Tryz.zeroValue165
 t51 := Tryz.underlying172
 a51 := Tryz.isAgg172
 z51 := Tryz.sizeOf172
 v51 := Tryz.zeroValue172
 t53 := Tryz.underlying148
 a53 := Tryz.isAgg148
 z53 := Tryz.sizeOf148
 v53 := Tryz.zeroValue148
 t171 := Tryz.underlying147
 a171 := Tryz.isAgg147
 z171 := Tryz.sizeOf147
 v171 := Tryz.zeroValue147
 t173 := Tryz.underlying151
 a173 := Tryz.isAgg151
 z173 := Tryz.sizeOf151
 v173 := Tryz.zeroValue151
 t212 := Tryz.underlying171
 a212 := Tryz.isAgg171
 z212 := Tryz.sizeOf171
 v212 := Tryz.zeroValue171
 t213 := Tryz.underlying173
 a213 := Tryz.isAgg173
 z213 := Tryz.sizeOf173
 t232 := Tryz.underlying189
 a232 := Tryz.isAgg189
 z232 := Tryz.sizeOf189
 v232 := Tryz.zeroValue189
 t233 := Tryz.underlying190
 a233 := Tryz.isAgg190
 z233 := Tryz.sizeOf190
 v233 := Tryz.zeroValue190
 g17 := by kernel_rfl
 g18 := by kernel_rfl
 g19 := by kernel_rfl
 i0 := by kernel_rfl
 i2 := by kernel_rfl
 i3 := by kernel_rfl
 i4 := by kernel_rfl
 i5 := by kernel_rfl
 i9 := by kernel_rfl
 i20 := by kernel_rfl
 i37 := by kernel_rfl
 i46 := by kernel_rfl
 i51 := by kernel_rfl
 i53 := by kernel_rfl
 i171 := by kernel_rfl
 i173 := by kernel_rfl
 i212 := by kernel_rfl
 i232 := by kernel_rfl
 i233 := by kernel_rfl
 m17 := by kernel_rfl
 m18 := by kernel_rfl
 m19 := by kernel_rfl }
def Tryz.laysM316_ren : Go.Shelf.Ren := ⟨fun | 316 => 185 | n => n, fun | 9 => 9 | 3 => 3 | 4 => 4 | 37 => 89 | 0 => 0 | 127 => 135 | 5 => 5 | n => n, fun | n => n⟩
theorem Tryz.laysM316 : Go.Proofs.LaysM.n316 Tryz.prog Tryz.laysM316_ren := {
 mixed := by kernel_rfl
 f316 := Tryz.func185.trans (congrArg some (by kernel_rfl))
 t0 := Tryz.underlying0
 a0 := Tryz.isAgg0
 z0 := Tryz.sizeOf0
 v0 := Tryz.zeroValue0
 t3 := Tryz.underlying3
 a3 := Tryz.isAgg3
 z3 := Tryz.sizeOf3
 v3 := Tryz.zeroValue3
 t4 := Tryz.underlying4
 a4 := Tryz.isAgg4
 z4 := Tryz.sizeOf4
 v4 := Tryz.zeroValue4
 t9 := Tryz.underlying9
 a9 := Tryz.isAgg9
 z9 := Tryz.sizeOf9
 v9 := Tryz.zeroValue9
 t37 := Tryz.underlying89
 a37 := Tryz.isAgg89
 z37 := Tryz.sizeOf89
 v37 := Tryz.zeroValue89
 t127 := Tryz.underlying135
 a127 := Tryz.isAgg135
 z127 := Tryz.sizeOf135
 v127 := Tryz.zeroValue135
 t5 := Tryz.underlying5
 a5 := Tryz.isAgg5
 z5 := Tryz.sizeOf5
 v5 := Tryz.zeroValue5
 i0 := by kernel_rfl
 i3 := by kernel_rfl
 i4 := by kernel_rfl
 i5 := by kernel_rfl
 i9 := by kernel_rfl
 i37 := by kernel_rfl
 i127 := by kernel_rfl }
end Go.Proofs
