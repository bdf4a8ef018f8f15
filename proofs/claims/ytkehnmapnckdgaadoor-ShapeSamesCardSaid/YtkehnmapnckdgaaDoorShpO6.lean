/- The program's misfits and hasName of layer 7, through slices.ContainsFunc. -/
import Derived.Test.YtkehnmapnckdgaaDoorShpO5
namespace Go.Proofs.YtkehnmapnckdgaaDoor
open Go.RowKit Shp
set_option linter.unusedVariables false

/-- The place of the first one, or -1. -/
def place7 (p : Sh → Bool) (l : List Sh) : Int := match l.findIdx? p with
  | some i => (i : Int)
  | none => -1
theorem place7_at {p : Sh → Bool} {l : List Sh} {i : Nat} (hi : i < l.length) (h : p (l[i]'hi) = true) (hn : ∀ j (hj : j < l.length), j < i → p (l[j]'hj) = false) : place7 p l = (i : Int) := by
  have : l.findIdx? p = some i := List.findIdx?_eq_some_iff_getElem.2 ⟨hi, h, fun j hj => by rw [hn j (by omega) hj]; simp⟩
  unfold place7; rw [this]
theorem place7_none {p : Sh → Bool} {l : List Sh} (hn : ∀ j (hj : j < l.length), p (l[j]'hj) = false) : place7 p l = -1 := by
  have : l.findIdx? p = none := List.findIdx?_eq_none_iff.2 (fun x hx => by
    obtain ⟨j, hj, rfl⟩ := List.getElem_of_mem hx
    exact hn j hj)
  unfold place7; rw [this]
theorem place7_any (p : Sh → Bool) (l : List Sh) : decide (0 ≤ place7 p l) = l.any p := by
  unfold place7
  cases h : l.findIdx? p with
  | some i =>
    obtain ⟨hi, hp, _⟩ := List.findIdx?_eq_some_iff_getElem.1 h
    show decide ((0 : Int) ≤ (i : Int)) = _
    rw [decide_eq_true (by omega)]
    exact (List.any_eq_true.2 ⟨_, List.getElem_mem hi, hp⟩).symm
  | none =>
    have := List.findIdx?_eq_none_iff.1 h
    show false = _
    symm
    rw [List.any_eq_false]
    intro x hx; rw [this x hx]; simp
theorem place7_ge (p : Sh → Bool) (l : List Sh) : -1 ≤ place7 p l := by
  unfold place7
  cases l.findIdx? p with
  | some i => show (-1 : Int) ≤ (i : Int); omega
  | none => show (-1 : Int) ≤ -1; omega
theorem any_not_right (l : List Sh) : l.any (fun p => !right p) = !rights l := by
  rw [rights_all]
  induction l with
  | nil => rfl
  | cons a l ih => simp [ih]

set_option maxRecDepth 100000 in
set_option maxHeartbeats 2000000 in
theorem index_mis (P : Option Addr) (d : Nat) (l : List Sh) (g off : Nat) (qs : Nat → Ptr) (w : World) (hl : l.length ≤ 1000000)
    (hp : l.length = 0 ∨ P = some ⟨g, off, none⟩ ∧ g < w.heap.size ∧ (∀ i (h : i < l.length), Sh5 w g (off + i * 5) (l[i]'h) (qs i)) ∧ ∀ i (h : i < l.length), ShAt w w.heap.size (qs i) (l[i]'h)) (hg : WGlobs w)
    (hf : ∀ x ∈ l, ∀ (q : Ptr) (w : World), ShAt w w.heap.size q x → WGlobs w → Calls Tryd.prog 27 #[.agg #[.int .i64 x.kind, .string ⟨x.of_.toArray⟩, .string ⟨x.name.toArray⟩, .slice q.A x.names.length q.c, .slice q.P x.parts.length q.d]] w fun e w' => e = .returned (.bool (!right x)) ∧ Below w.heap.size w w') :
    Calls Tryd.prog 60 #[.slice P l.length d, .func (.func 27) #[] #[]] w fun e w' => e = .returned (.int .i64 (place7 (fun p => !right p) l)) ∧ Below w.heap.size w w' := by
  have HP := Lib.hid hp
  have HF := Lib.hid hf
  have HG := Lib.hid hg
  clear hg
  clear hp hf
  go_enter Tryd.func60, Tryd.ntmps60
  go_wp2_with fail
  go_loopw [8] (fun ii wr => ∃ i : Nat, ii = .int .i64 i ∧ i ≤ l.length ∧ Hid (∀ j (h : j < l.length), j < i → (!right (l[j]'h)) = false) ∧ Below w.heap.size w wr) (fun i _ => l.length - (intOf i).toNat)
  case atStart => exact ⟨0, rfl, Nat.zero_le _, Lib.hid (fun j _ hj => absurd hj (by omega)), Below.refl _ _⟩
  case round =>
    obtain ⟨i, rfl, hi, HN, hb⟩ := hrel
    by_cases hlt : i < l.length
    · rcases HP.out with h0 | ⟨rfl, hg, hc, hr⟩
      · omega
      · obtain ⟨x, hx⟩ : ∃ x, x = l[i]'hlt := ⟨_, rfl⟩
        obtain ⟨p0, p1, p2, p3, p4⟩ := (hc i hlt).keep hg hb
        have hat : ShAt wr wr.heap.size (qs i) x := by rw [hx]; exact (hr i hlt).next hb
        have ihx := HF.out l[i] (List.getElem_mem _) (qs i) wr
        rw [← hx] at p0 p1 p2 p3 p4 ihx
        have IH := ihx hat (HG.out.next hb)
        have HX := Lib.hid hx
        clear hx hc hr hat ihx
        have hi1 : (i : Int) < (l.length : Int) := by omega
        cases hox : !right x with
        | true =>
          rw [hox] at IH
          have HV : Hid (place7 (fun p => !right p) l = (i : Int)) := Lib.hid (place7_at hlt (by show (!right _) = true; rw [← HX.out]; exact hox) (fun j hj hji => HN.out j hj hji))
          clear hox
          go_wp2_with fail
          refine IH.mono ?_
          rintro e w' ⟨rfl, hb'⟩
          go_wp2
          go_ret
          exact ⟨ret_int7 HV.out.symm, below_next hb hb'⟩
        | false =>
          rw [hox] at IH
          have HO := Lib.hid hox
          clear hox
          go_wp2_with fail
          refine IH.mono ?_
          rintro e w' ⟨rfl, hb'⟩
          go_wp2
          go_roundw
          case rel => exact ⟨i + 1, by go_num, by omega, Lib.hid (fun j hj hji => by
            rcases Nat.lt_succ_iff_lt_or_eq.1 hji with h | rfl
            · exact HN.out j hj h
            · rw [← HX.out]; exact HO.out), below_next hb hb'⟩
          case measure => simp [intOf]; omega
    · have hi1 : ¬ (i : Int) < (l.length : Int) := by omega
      have HV : Hid (place7 (fun p => !right p) l = -1) := Lib.hid (place7_none (fun j hj => HN.out j hj (by omega)))
      go_wp2
      go_ret
      exact ⟨ret_int7 HV.out.symm, hb⟩

set_option maxRecDepth 100000 in
theorem contains_mis (P : Option Addr) (d : Nat) (l : List Sh) (g off : Nat) (qs : Nat → Ptr) (w : World) (hl : l.length ≤ 1000000)
    (hp : l.length = 0 ∨ P = some ⟨g, off, none⟩ ∧ g < w.heap.size ∧ (∀ i (h : i < l.length), Sh5 w g (off + i * 5) (l[i]'h) (qs i)) ∧ ∀ i (h : i < l.length), ShAt w w.heap.size (qs i) (l[i]'h)) (hg : WGlobs w)
    (hf : ∀ x ∈ l, ∀ (q : Ptr) (w : World), ShAt w w.heap.size q x → WGlobs w → Calls Tryd.prog 27 #[.agg #[.int .i64 x.kind, .string ⟨x.of_.toArray⟩, .string ⟨x.name.toArray⟩, .slice q.A x.names.length q.c, .slice q.P x.parts.length q.d]] w fun e w' => e = .returned (.bool (!right x)) ∧ Below w.heap.size w w') :
    Calls Tryd.prog 41 #[.slice P l.length d, .func (.func 27) #[] #[]] w fun e w' => e = .returned (.bool (l.any (fun p => !right p))) ∧ Below w.heap.size w w' := by
  have HI := index_mis P d l g off qs w hl hp hg hf
  have HV := Lib.hid (place7_any (fun p => !right p) l)
  have hge := place7_ge (fun p => !right p) l
  generalize place7 (fun p => !right p) l = r at HI HV hge
  clear hp hf
  go_enter Tryd.func41, Tryd.ntmps41
  go_wp2_with fail
  refine HI.mono ?_
  rintro e w' ⟨rfl, hb'⟩
  go_wp2
  go_ret
  exact ⟨ret_bool7 HV.out, hb'⟩

theorem partOf7 {w : World} {q : Ptr} {t : Sh} (h : ShAt w w.heap.size q t) : ∃ (g off : Nat) (qs : Nat → Ptr), t.parts.length = 0 ∨ q.P = some ⟨g, off, none⟩ ∧ g < w.heap.size ∧ (∀ i (h : i < t.parts.length), Sh5 w g (off + i * 5) (t.parts[i]'h) (qs i)) ∧ ∀ i (h : i < t.parts.length), ShAt w w.heap.size (qs i) (t.parts[i]'h) := by
  rcases h.part with h0 | ⟨g, off, qs, h1, h2, h3, h4⟩
  · exact ⟨0, 0, fun _ => q, Or.inl h0⟩
  · exact ⟨g, off, qs, Or.inr ⟨h1, h2, h3, h4⟩⟩

set_option maxRecDepth 100000 in
set_option maxHeartbeats 2000000 in
theorem misfits_walk (t : Sh) : ∀ (q : Ptr) (w : World), ShAt w w.heap.size q t → WGlobs w → size t ≤ 1000000 →
    Calls Tryd.prog 27 #[.agg #[.int .i64 t.kind, .string ⟨t.of_.toArray⟩, .string ⟨t.name.toArray⟩, .slice q.A t.names.length q.c, .slice q.P t.parts.length q.d]] w fun e w' => e = .returned (.bool (!right t)) ∧ Below w.heap.size w w' := by
  induction t using Sh.ind with
  | h t ih =>
  intro q w hq hg hz
  have hpl : t.parts.length ≤ 1000000 := by have := length_sizes t.parts; rw [size_eq] at hz; omega
  have hb0 := below_one w (.cells #[.int .i64 t.kind, .string ⟨t.of_.toArray⟩, .string ⟨t.name.toArray⟩, .slice q.A t.names.length q.c, .slice q.P t.parts.length q.d] 25)
  have hf := ofits_walk t q _ (hq.next hb0) (hg.next hb0) hpl
  have HC := Lib.hid (fun W (h : Below w.heap.size w W) => by
    obtain ⟨g, off, qs, h1⟩ := partOf7 (hq.next h)
    exact contains_mis q.P q.d t.parts g off qs W hpl h1 (hg.next h) (fun x hx q' w' hat hg' => ih x hx q' w' hat hg' (by have := sizes_mem hx; rw [size_eq] at hz; omega)))
  have HD := Lib.hid (right_eq t)
  have HA := Lib.hid (any_not_right t.parts)
  have HB0 := Lib.hid hb0
  have HB := Lib.hid (box5_new w t q)
  obtain ⟨_, ⟨c0, c1, c2, c3, c4⟩, _⟩ := HB.out
  clear hb0 hq hg hz hpl ih
  cases hft : fits t
  · have HF : Hid (right t = false) := Lib.hid (by rw [HD.out, hft]; rfl)
    rw [hft] at hf
    clear hft
    go_enter Tryd.func27, Tryd.ntmps27
    go_wp2_with fail
    refine hf.mono ?_
    rintro e w' ⟨rfl, hb'⟩
    go_wp2
    go_ret
    exact ⟨by rw [HF.out]; rfl, below_next HB0.out hb'⟩
  · have HF : Hid ((!right t) = t.parts.any (fun p => !right p)) := Lib.hid (by rw [HD.out, hft, HA.out]; rfl)
    rw [hft] at hf
    clear hft
    go_enter Tryd.func27, Tryd.ntmps27
    go_wp2_with fail
    refine hf.mono ?_
    rintro e w1 ⟨rfl, hb'⟩
    have hbw := below_next HB0.out hb'
    have hc := HC.out w1 hbw
    obtain ⟨_, ⟨d0, d1, d2, d3, d4⟩, _⟩ := HB.out.next hb'
    clear hf c0 c1 c2 c3 c4 hb'
    go_wp2_with fail
    refine hc.mono ?_
    rintro e w' ⟨rfl, hb2⟩
    go_wp2
    go_ret
    exact ⟨ret_bool7 HF.out.symm, below_next hbw hb2⟩

set_option maxRecDepth 100000 in
set_option maxHeartbeats 2000000 in
theorem index_has (P : Option Addr) (d : Nat) (l : List Sh) (g off : Nat) (qs : Nat → Ptr) (w : World) (hl : l.length ≤ 1000000)
    (hp : l.length = 0 ∨ P = some ⟨g, off, none⟩ ∧ g < w.heap.size ∧ (∀ i (h : i < l.length), Sh5 w g (off + i * 5) (l[i]'h) (qs i)) ∧ ∀ i (h : i < l.length), ShAt w w.heap.size (qs i) (l[i]'h))
    (hf : ∀ x ∈ l, ∀ (q : Ptr) (w : World), ShAt w w.heap.size q x → Calls Tryd.prog 30 #[.agg #[.int .i64 x.kind, .string ⟨x.of_.toArray⟩, .string ⟨x.name.toArray⟩, .slice q.A x.names.length q.c, .slice q.P x.parts.length q.d]] w fun e w' => e = .returned (.bool (opened x)) ∧ Below w.heap.size w w') :
    Calls Tryd.prog 60 #[.slice P l.length d, .func (.func 30) #[] #[]] w fun e w' => e = .returned (.int .i64 (place7 opened l)) ∧ Below w.heap.size w w' := by
  have HP := Lib.hid hp
  have HF := Lib.hid hf
  clear hp hf
  go_enter Tryd.func60, Tryd.ntmps60
  go_wp2_with fail
  go_loopw [8] (fun ii wr => ∃ i : Nat, ii = .int .i64 i ∧ i ≤ l.length ∧ Hid (∀ j (h : j < l.length), j < i → opened (l[j]'h) = false) ∧ Below w.heap.size w wr) (fun i _ => l.length - (intOf i).toNat)
  case atStart => exact ⟨0, rfl, Nat.zero_le _, Lib.hid (fun j _ hj => absurd hj (by omega)), Below.refl _ _⟩
  case round =>
    obtain ⟨i, rfl, hi, HN, hb⟩ := hrel
    by_cases hlt : i < l.length
    · rcases HP.out with h0 | ⟨rfl, hg, hc, hr⟩
      · omega
      · obtain ⟨x, hx⟩ : ∃ x, x = l[i]'hlt := ⟨_, rfl⟩
        obtain ⟨p0, p1, p2, p3, p4⟩ := (hc i hlt).keep hg hb
        have hat : ShAt wr wr.heap.size (qs i) x := by rw [hx]; exact (hr i hlt).next hb
        have ihx := HF.out l[i] (List.getElem_mem _) (qs i) wr
        rw [← hx] at p0 p1 p2 p3 p4 ihx
        have IH := ihx hat
        have HX := Lib.hid hx
        clear hx hc hr hat ihx
        have hi1 : (i : Int) < (l.length : Int) := by omega
        cases hox : opened x with
        | true =>
          rw [hox] at IH
          have HV : Hid (place7 opened l = (i : Int)) := Lib.hid (place7_at hlt (by show opened _ = true; rw [← HX.out]; exact hox) (fun j hj hji => HN.out j hj hji))
          clear hox
          go_wp2_with fail
          refine IH.mono ?_
          rintro e w' ⟨rfl, hb'⟩
          go_wp2
          go_ret
          exact ⟨ret_int7 HV.out.symm, below_next hb hb'⟩
        | false =>
          rw [hox] at IH
          have HO := Lib.hid hox
          clear hox
          go_wp2_with fail
          refine IH.mono ?_
          rintro e w' ⟨rfl, hb'⟩
          go_wp2
          go_roundw
          case rel => exact ⟨i + 1, by go_num, by omega, Lib.hid (fun j hj hji => by
            rcases Nat.lt_succ_iff_lt_or_eq.1 hji with h | rfl
            · exact HN.out j hj h
            · rw [← HX.out]; exact HO.out), below_next hb hb'⟩
          case measure => simp [intOf]; omega
    · have hi1 : ¬ (i : Int) < (l.length : Int) := by omega
      have HV : Hid (place7 opened l = -1) := Lib.hid (place7_none (fun j hj => HN.out j hj (by omega)))
      go_wp2
      go_ret
      exact ⟨ret_int7 HV.out.symm, hb⟩

set_option maxRecDepth 100000 in
theorem contains_has (P : Option Addr) (d : Nat) (l : List Sh) (g off : Nat) (qs : Nat → Ptr) (w : World) (hl : l.length ≤ 1000000)
    (hp : l.length = 0 ∨ P = some ⟨g, off, none⟩ ∧ g < w.heap.size ∧ (∀ i (h : i < l.length), Sh5 w g (off + i * 5) (l[i]'h) (qs i)) ∧ ∀ i (h : i < l.length), ShAt w w.heap.size (qs i) (l[i]'h))
    (hf : ∀ x ∈ l, ∀ (q : Ptr) (w : World), ShAt w w.heap.size q x → Calls Tryd.prog 30 #[.agg #[.int .i64 x.kind, .string ⟨x.of_.toArray⟩, .string ⟨x.name.toArray⟩, .slice q.A x.names.length q.c, .slice q.P x.parts.length q.d]] w fun e w' => e = .returned (.bool (opened x)) ∧ Below w.heap.size w w') :
    Calls Tryd.prog 41 #[.slice P l.length d, .func (.func 30) #[] #[]] w fun e w' => e = .returned (.bool (l.any opened)) ∧ Below w.heap.size w w' := by
  have HI := index_has P d l g off qs w hl hp hf
  have HV := Lib.hid (place7_any opened l)
  have hge := place7_ge opened l
  generalize place7 opened l = r at HI HV hge
  clear hp hf
  go_enter Tryd.func41, Tryd.ntmps41
  go_wp2_with fail
  refine HI.mono ?_
  rintro e w' ⟨rfl, hb'⟩
  go_wp2
  go_ret
  exact ⟨ret_bool7 HV.out, hb'⟩

set_option maxRecDepth 100000 in
set_option maxHeartbeats 2000000 in
theorem hasName_walk (t : Sh) : ∀ (q : Ptr) (w : World), ShAt w w.heap.size q t → size t ≤ 1000000 →
    Calls Tryd.prog 30 #[.agg #[.int .i64 t.kind, .string ⟨t.of_.toArray⟩, .string ⟨t.name.toArray⟩, .slice q.A t.names.length q.c, .slice q.P t.parts.length q.d]] w fun e w' => e = .returned (.bool (opened t)) ∧ Below w.heap.size w w' := by
  induction t using Sh.ind with
  | h t ih =>
  intro q w hq hz
  have hpl : t.parts.length ≤ 1000000 := by have := length_sizes t.parts; rw [size_eq] at hz; omega
  have hb0 := below_one w (.cells #[.int .i64 t.kind, .string ⟨t.of_.toArray⟩, .string ⟨t.name.toArray⟩, .slice q.A t.names.length q.c, .slice q.P t.parts.length q.d] 25)
  have HC := Lib.hid (fun W (h : Below w.heap.size w W) => by
    obtain ⟨g, off, qs, h1⟩ := partOf7 (hq.next h)
    exact contains_has q.P q.d t.parts g off qs W hpl h1 (fun x hx q' w' hat => ih x hx q' w' hat (by have := sizes_mem hx; rw [size_eq] at hz; omega)))
  have HD := Lib.hid (opened_eq t)
  have HA := Lib.hid (openeds_any t.parts)
  have HB0 := Lib.hid hb0
  have HB := Lib.hid (box5_new w t q)
  obtain ⟨_, ⟨c0, c1, c2, c3, c4⟩, _⟩ := HB.out
  clear hb0 hq hz hpl ih
  by_cases hk : t.kind = 9
  · have HF : Hid (opened t = true) := Lib.hid (by rw [HD.out, decide_eq_true hk]; rfl)
    have hk2 : (t.kind == 9) = true := by rw [hk]; rfl
    clear hk
    go_enter Tryd.func30, Tryd.ntmps30
    go_wp2
    go_ret
    exact ⟨by rw [HF.out]; rfl, HB0.out⟩
  · have HF : Hid (opened t = t.parts.any opened) := Lib.hid (by rw [HD.out, decide_eq_false hk, HA.out]; rfl)
    have hk2 : (t.kind == 9) = false := by rw [beq_eq_false_iff_ne]; exact hk
    have hc := HC.out _ HB0.out
    clear hk
    go_enter Tryd.func30, Tryd.ntmps30
    go_wp2_with fail
    refine hc.mono ?_
    rintro e w' ⟨rfl, hb2⟩
    go_wp2
    go_ret
    exact ⟨ret_bool7 HF.out.symm, below_next HB0.out hb2⟩
end Go.Proofs.YtkehnmapnckdgaaDoor
