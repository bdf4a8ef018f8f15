/- ShpGlob, ShpO3, ShpO4, together. -/
import Derived.Test.YtkehnmapnckdgaaDoorGBase
import Derived.LaidLaws
import Derived.WalkSmall
import Derived.MakeChecks
import Derived.Lib.LaidTab
import Derived.Test.YtkehnmapnckdgaaDoorGShpM
import Derived.Test.YtkehnmapnckdgaaDoorGLex
import Derived.Maps.OwnSet
/- What the variable holds that the program's shape reads: the words of kinds. -/
namespace Go.Proofs.YtkehnmapnckdgaaDoor
open Go.RowKit
set_option linter.unusedVariables false

def wordsC : Array Value := #[.string ⟨#[]⟩, .string ⟨#[73, 110, 116]⟩, .string ⟨#[66, 111, 111, 108]⟩, .string ⟨#[84, 101, 120, 116]⟩, .string ⟨#[65, 110, 121]⟩]

theorem words_at : Tryd.prog.globalNamed "pandect/shape.words" = some 0 := by kernel_rfl

/-- The variable holds what the program's text lays. -/
def WGlobs (w : World) : Prop := w.var? Tryd.prog "pandect/shape.words" = some wordsC

theorem WGlobs.cell {w : World} (h : WGlobs w) (i : Nat) : w.cell? ⟨0, i, none⟩ = wordsC[i]? := World.var?_cell words_at h i
theorem WGlobs.lt {w : World} (h : WGlobs w) : 0 < w.heap.size := lt_of_cell ((WGlobs.cell h 0).trans (by rfl : wordsC[0]? = some (.string ⟨#[]⟩)))
theorem WGlobs.next {w w' : World} (h : WGlobs w) (hb : Below w.heap.size w w') : WGlobs w' := var?_below hb words_at (WGlobs.lt h) h

theorem laidVars_mem7 {P : Program} {w : World} : ∀ {l : List (String × DataW Unit)} {ps : List MemPlace}, DataW.LaidVars P w l ps → ∀ x ∈ l,
    ∃ g t cs fuel p, P.globalNamed x.1 = some g ∧ (P.globals[g]?).map (·.type) = some t ∧ w.var? P x.1 = some cs ∧ DataW.trod (fun _ => ()) P w 0 (fun _ => true) false fuel t cs.toList = some (x.2, p)
  | [], _, _, x, hx => by simp at hx
  | (n, d) :: r, ps, h, x, hx => by
    obtain ⟨g, t, cs, fuel, p, q, h1, h2, h3, h4, h5, _⟩ := h
    rcases List.mem_cons.1 hx with rfl | hx
    · exact ⟨g, t, cs, fuel, p, h1, h2, h3, h4⟩
    · exact laidVars_mem7 h5 x hx

theorem wglobs_of {L : List (String × DataW Unit)} {W : World} (h : laidMet Tryd.prog L W) (m4 : ("pandect/shape.words", Rows.laid_pandect_shape_words) ∈ L) : WGlobs W := by
  unfold WGlobs
  obtain ⟨ps, hv, _, _⟩ := h
  obtain ⟨g1, t1, cs, f1, p1, a1, b1, c1, d1⟩ := laidVars_mem7 hv _ m4
  obtain rfl := Option.some.inj (words_at.symm.trans a1)
  have ht : (Tryd.prog.globals[0]?).map (·.type) = some 59 := by kernel_rfl
  obtain rfl := Option.some.inj (ht.symm.trans b1)
  rw [c1]
  congr 1
  have hc1 : Tryd.prog.cellsOf 9 = 1 := by kernel_rfl
  obtain ⟨xs, m, _, hx, hsz, hl, he⟩ := DataW.trod_array Tryd.underlying59 d1
  rw [hc1] at he
  have hc6 : Tryd.prog.cellsOf 59 = 5 := by kernel_rfl
  rw [hc6] at hsz
  have hx1 := (Prod.mk.inj hx).1
  apply Array.ext'
  match xs, hl, hx1 with
  | [y0, y1, y2, y3, y4], _, hx1 =>
    obtain ⟨L, hL⟩ : ∃ L, L = cs.toList := ⟨_, rfl⟩
    rw [← hL] at hsz he ⊢
    clear hL
    match L, hsz with
    | [k0, k1, k2, k3, k4], _ =>
      have e0 := he 0 (by omega)
      have e1 := he 1 (by omega)
      have e2 := he 2 (by omega)
      have e3 := he 3 (by omega)
      have e4 := he 4 (by omega)
      simp only [List.getElem?_cons_zero, List.getElem?_cons_succ, Nat.mul_one, List.drop_zero, List.drop_succ_cons, List.take_succ_cons, List.take_zero] at e0 e1 e2 e3 e4
      obtain ⟨x0, h0, rfl, _⟩ := DataW.trod_string Tryd.underlying9 e0
      obtain ⟨x1, h1, rfl, _⟩ := DataW.trod_string Tryd.underlying9 e1
      obtain ⟨x2, h2, rfl, _⟩ := DataW.trod_string Tryd.underlying9 e2
      obtain ⟨x3, h3, rfl, _⟩ := DataW.trod_string Tryd.underlying9 e3
      obtain ⟨x4, h4, rfl, _⟩ := DataW.trod_string Tryd.underlying9 e4
      simp at h0 h1 h2 h3 h4
      simp [Rows.laid_pandect_shape_words] at hx1
      obtain ⟨z0, z1, z2, z3, z4⟩ := hx1
      have key : ∀ (x : ByteArray) (l : List UInt8), l = x.data.toList → x = ⟨l.toArray⟩ := fun x l h => by rw [h]
      rw [h0, h1, h2, h3, h4]
      have k0 := key x0 [] (by simp [z0])
      have k1 := key x1 [73, 110, 116] (by simp [← z1])
      have k2 := key x2 [66, 111, 111, 108] (by simp [← z2])
      have k3 := key x3 [84, 101, 120, 116] (by simp [← z3])
      have k4 := key x4 [65, 110, 121] (by simp [← z4])
      rw [k0, k1, k2, k3, k4]; rfl
end Go.Proofs.YtkehnmapnckdgaaDoor

/- The program's areNames of layer 7: a set of texts. -/
namespace Go.Proofs.YtkehnmapnckdgaaDoor
open Go.RowKit Go.Maps Go.WideMaps Shp
set_option linter.unusedVariables false

theorem law_str : Keyed Tryd.prog 9 := string_keyed Tryd.underlying9
theorem zero_unit (w : World) : (zeroValue 89).run Tryd.prog w = .ok (.agg #[]) w := by kernel_rfl
def seenOf (l : List (List UInt8)) (k : Nat) : DataW Unit := setOf (.agg []) ((l.take k).map Lit.string)
theorem seen_zero (l : List (List UInt8)) : seenOf l 0 = .map [] := by simp [seenOf, setOf]
theorem seen_succ (l : List (List UInt8)) (k : Nat) (hk : k < l.length) : seenOf l (k + 1) = (seenOf l k).put (.string (l[k]'hk)) (.agg []) := by
  unfold seenOf
  rw [List.take_succ_eq_append_getElem hk, List.map_append, List.map_cons, List.map_nil, setOf_snoc]
theorem any_text (x : List UInt8) : ∀ l : List (List UInt8), l.any ((fun y : Lit => y.sameKey (.string x)) ∘ Lit.string) = l.contains x
  | [] => rfl
  | a :: r => by
    rw [List.any_cons, List.contains_cons, any_text x r]
    congr 1
    by_cases e : a = x
    · subst e; simp [Lit.sameKey]
    · have e' : ¬ x = a := fun h => e h.symm
      simp [Lit.sameKey]
      rw [show (a == x) = false from by simpa using e, show (x == a) = false from by simpa using e']
theorem has_seen (l : List (List UInt8)) (k : Nat) (x : List UInt8) : Maps.has (seenOf l k) (.string x) = (l.take k).contains x := by
  unfold seenOf
  rw [has_setOf _ _ _ (fun y hy => by obtain ⟨_, _, rfl⟩ := List.mem_map.1 hy; trivial), List.any_map]
  exact any_text x _

set_option maxRecDepth 100000 in
set_option maxHeartbeats 2000000 in
theorem onames_walk (A : Option Addr) (c : Nat) (l : List (List UInt8)) (w : World) (hA : Strs w w.heap.size A (strs l)) (hl : l.length ≤ 1000000) (hx : ∀ x ∈ l, x.length ≤ 9223372036854775807) :
    Calls Tryd.prog 56 #[.slice A l.length c] w fun e w' => e = .returned (.bool (areNames l)) ∧ Below w.heap.size w w' := by
  have hmm := @run_makeMap Tryd.prog
  have HA := Lib.hid hA
  have HX := Lib.hid hx
  clear hA hx
  go_enter Tryd.func56, Tryd.ntmps56
  go_wp2_with fail
  go_loopw [11] (fun ii wr => ∃ k : Nat, k ≤ l.length ∧ ii = .int .i64 k ∧ wr.ownsMap Tryd.prog 9 unitElem w.heap.size k (seenOf l k) ∧ Below w.heap.size w wr ∧ Hid (∀ j (hj : j < l.length), j < k → Lex.isName (l[j]'hj) = true ∧ ∀ m (hm : m < j), l[m]'(by omega) ≠ l[j]'hj))
    (fun i _ => l.length - (intOf i).toNat)
  case atStart => exact ⟨0, Nat.zero_le _, rfl, by rw [seen_zero]; exact World.ownsMap_made _ _ _ _, (Below.refl _ _).alloc (Nat.le_refl _) _, Lib.hid (fun j _ hj => absurd hj (by omega))⟩
  case round =>
    obtain ⟨k, hk, rfl, hown, hb, HN⟩ := hrel
    by_cases hlt : k < l.length
    · have hi1 : (k : Int) < (l.length : Int) := by omega
      rcases (HA.out.next hb).cell7 with h0 | ⟨g, off, rfl, hg, hc⟩
      · omega
      · have hcell := hc k hlt
        obtain ⟨x, hx⟩ : ∃ x, x = l[k]'hlt := ⟨_, rfl⟩
        rw [← hx] at hcell
        have hxl : x.length ≤ 9223372036854775807 := by rw [hx]; exact HX.out _ (List.getElem_mem _)
        have HE := Lib.hid hx
        have hkey : keyOf Tryd.prog 9 (.string ⟨x.toArray⟩) = some (.string x) := keyOf_string_mk Tryd.underlying9 (by rw [size_list]; unfold maxLen; exact hxl)
        clear hx hc
        have HHAS := Lib.hid (has_seen l k x)
        have HOWN := Lib.hid hown
        have HBB := Lib.hid hb
        clear hb
        cases hin : (l.take k).contains x with
        | true =>
          have HF : Hid (areNames l = false) := Lib.hid (by
            have hm := List.contains_iff_mem.1 hin
            obtain ⟨m, hm, he⟩ := List.getElem_of_mem hm
            rw [List.length_take] at hm
            rw [List.getElem_take] at he
            exact areNames_twice (k := m) hlt (by omega) (by rw [he, HE.out]))
          have hhas := HHAS.out
          rw [hin] at hhas
          clear hin
          go_wp2_with (first
            | (at_lookup; refine wpList_lookup_own_unit _ rfl _ _ 88 rfl 9 89 law_str Tryd.underlying88 (zero_unit _) w.heap.size k _ rfl hown _ _ rfl hkey ?_)
            | fail)
          go_ret
          exact ⟨by rw [HF.out]; rfl, HBB.out.alloc HBB.out.size _⟩
        | false =>
          have HNU : Hid (∀ m (hm : m < k), l[m]'(by omega) ≠ l[k]'hlt) := Lib.hid (fun m hm he => by
            rw [← HE.out] at he
            have : x ∈ l.take k := by
              rw [← he]
              have := List.getElem_mem (l := l.take k) (n := m) (by rw [List.length_take]; omega)
              rwa [List.getElem_take] at this
            rw [List.contains_iff_mem.2 this] at hin
            cases hin)
          have hhas := HHAS.out
          rw [hin] at hhas
          clear hin
          cases hn : Lex.isName x with
          | false =>
            have HF : Hid (areNames l = false) := Lib.hid (areNames_off hlt (by rw [← HE.out]; exact hn))
            have hw := fun W => oname_walk x hxl W
            simp only [hn] at hw
            clear hn
            go_wp2_with (first
              | (at_lookup; refine wpList_lookup_own_unit _ rfl _ _ 88 rfl 9 89 law_str Tryd.underlying88 (zero_unit _) w.heap.size k _ rfl hown _ _ rfl hkey ?_)
              | (go_at_call 58; refine (hw _).mono ?_; rintro e w' ⟨rfl, rfl⟩))
            go_ret
            exact ⟨by rw [HF.out]; rfl, HBB.out.alloc HBB.out.size _⟩
          | true =>
            have HNA : Hid (Lex.isName (l[k]'hlt) = true) := Lib.hid (by rw [← HE.out]; exact hn)
            have hw := fun W => oname_walk x hxl W
            simp only [hn] at hw
            clear hn
            go_wp2_with (first
              | (at_lookup; refine wpList_lookup_own_unit _ rfl _ _ 88 rfl 9 89 law_str Tryd.underlying88 (zero_unit _) w.heap.size k _ rfl hown _ _ rfl hkey ?_)
              | (go_at_call 58; refine (hw _).mono ?_; rintro e w' ⟨rfl, rfl⟩)
              | (at_mapUpdate; refine wpList_mapUpdate_own _ rfl _ _ _ 88 rfl 9 89 law_str Tryd.underlying88 (unitElem (H := Unit)) w.heap.size k _ rfl (hown.alloc _) (by unfold maxLen; omega) _ _ _ rfl rfl hkey _ [] unitElem_mk ?_; intro w1 hown1 hgrow1))
            go_roundw
            case rel =>
              refine ⟨k + 1, by omega, by go_num, ?_, ?_, Lib.hid (fun j hj hji => by
                rcases Nat.lt_succ_iff_lt_or_eq.1 hji with h | rfl
                · exact HN.out j hj h
                · exact ⟨HNA.out, HNU.out⟩)⟩
              · rw [seen_succ l k hlt, ← HE.out]; exact hown1
              · exact (HBB.out.alloc HBB.out.size _).grown hgrow1 (by have := HBB.out.size; simp; omega) (fun j hj => by cases hj; exact Nat.le_refl _)
            case measure => simp [intOf]; omega
    · have hi1 : ¬ (k : Int) < (l.length : Int) := by omega
      have HM : Hid (areNames l = true) := Lib.hid (areNames_on (fun j hj => (HN.out j hj (by omega)).1) (fun j hj => (HN.out j hj (by omega)).2))
      go_wp2
      go_ret
      exact ⟨by rw [HM.out]; rfl, hb⟩
end Go.Proofs.YtkehnmapnckdgaaDoor

/- The program's isWord, isUnnamed, isNamed of layer 7. -/
namespace Go.Proofs.YtkehnmapnckdgaaDoor
open Go.RowKit Shp
set_option linter.unusedVariables false

def wordB (s : List UInt8) : Bool := [] == s || [73, 110, 116] == s || [66, 111, 111, 108] == s || [84, 101, 120, 116] == s || [65, 110, 121] == s

def NotYet (s : List UInt8) (i : Int) : Prop := ((1 : Int) ≤ i → (([] : List UInt8) == s) = false) ∧ ((2 : Int) ≤ i → ([73, 110, 116] == s) = false) ∧ ((3 : Int) ≤ i → ([66, 111, 111, 108] == s) = false) ∧ ((4 : Int) ≤ i → ([84, 101, 120, 116] == s) = false) ∧ ((5 : Int) ≤ i → ([65, 110, 121] == s) = false)

set_option maxRecDepth 100000 in
set_option maxHeartbeats 4000000 in
theorem isWord7_walk (s : List UInt8) (w : World) (hg : WGlobs w) :
    Calls Tryd.prog 71 #[.string ⟨s.toArray⟩] w fun e w' => e = .returned (.bool (wordB s)) ∧ w = w' := by
  have c0 : w.cell? ⟨0, 0, none⟩ = some (.string ⟨#[]⟩) := hg.cell 0
  have c1 : w.cell? ⟨0, 1, none⟩ = some (.string ⟨#[73, 110, 116]⟩) := hg.cell 1
  have c2 : w.cell? ⟨0, 2, none⟩ = some (.string ⟨#[66, 111, 111, 108]⟩) := hg.cell 2
  have c3 : w.cell? ⟨0, 3, none⟩ = some (.string ⟨#[84, 101, 120, 116]⟩) := hg.cell 3
  have c4 : w.cell? ⟨0, 4, none⟩ = some (.string ⟨#[65, 110, 121]⟩) := hg.cell 4
  clear hg
  have i0 : ∀ W, (Instr.index 59 (.agg #[.string ⟨#[]⟩, .string ⟨#[73, 110, 116]⟩, .string ⟨#[66, 111, 111, 108]⟩, .string ⟨#[84, 101, 120, 116]⟩, .string ⟨#[65, 110, 121]⟩]) (.int .i64 0)).run Tryd.prog W = .ok (.string ⟨#[]⟩) W := fun W => by kernel_rfl
  have i1 : ∀ W, (Instr.index 59 (.agg #[.string ⟨#[]⟩, .string ⟨#[73, 110, 116]⟩, .string ⟨#[66, 111, 111, 108]⟩, .string ⟨#[84, 101, 120, 116]⟩, .string ⟨#[65, 110, 121]⟩]) (.int .i64 1)).run Tryd.prog W = .ok (.string ⟨#[73, 110, 116]⟩) W := fun W => by kernel_rfl
  have i2 : ∀ W, (Instr.index 59 (.agg #[.string ⟨#[]⟩, .string ⟨#[73, 110, 116]⟩, .string ⟨#[66, 111, 111, 108]⟩, .string ⟨#[84, 101, 120, 116]⟩, .string ⟨#[65, 110, 121]⟩]) (.int .i64 2)).run Tryd.prog W = .ok (.string ⟨#[66, 111, 111, 108]⟩) W := fun W => by kernel_rfl
  have i3 : ∀ W, (Instr.index 59 (.agg #[.string ⟨#[]⟩, .string ⟨#[73, 110, 116]⟩, .string ⟨#[66, 111, 111, 108]⟩, .string ⟨#[84, 101, 120, 116]⟩, .string ⟨#[65, 110, 121]⟩]) (.int .i64 3)).run Tryd.prog W = .ok (.string ⟨#[84, 101, 120, 116]⟩) W := fun W => by kernel_rfl
  have i4 : ∀ W, (Instr.index 59 (.agg #[.string ⟨#[]⟩, .string ⟨#[73, 110, 116]⟩, .string ⟨#[66, 111, 111, 108]⟩, .string ⟨#[84, 101, 120, 116]⟩, .string ⟨#[65, 110, 121]⟩]) (.int .i64 4)).run Tryd.prog W = .ok (.string ⟨#[65, 110, 121]⟩) W := fun W => by kernel_rfl
  go_enter Tryd.func71, Tryd.ntmps71
  go_wp2_with fail
  go_loopw [6] (fun ii wr => ∃ i : Int, ii = .int .i64 i ∧ 0 ≤ i ∧ i ≤ 5 ∧ Hid (NotYet s i) ∧ w = wr)
    (fun i _ => (5 - intOf i).toNat)
  case atStart => exact ⟨0, rfl, by omega, by omega, Lib.hid ⟨fun h => absurd h (by omega), fun h => absurd h (by omega), fun h => absurd h (by omega), fun h => absurd h (by omega), fun h => absurd h (by omega)⟩, rfl⟩
  case round =>
    obtain ⟨i, rfl, hi0, hi, HN, rfl⟩ := hrel
    clear c0 c1 c2 c3 c4
    have hc : i = 0 ∨ i = 1 ∨ i = 2 ∨ i = 3 ∨ i = 4 ∨ i = 5 := by omega
    rcases hc with rfl | rfl | rfl | rfl | rfl | rfl
    · cases hq : (([] : List UInt8) == s)
      · have HN2 : Hid (NotYet s 1) := Lib.hid (show ((1 : Int) ≤ 1 → (([] : List UInt8) == s) = false) ∧ ((2 : Int) ≤ 1 → ([73, 110, 116] == s) = false) ∧ ((3 : Int) ≤ 1 → ([66, 111, 111, 108] == s) = false) ∧ ((4 : Int) ≤ 1 → ([84, 101, 120, 116] == s) = false) ∧ ((5 : Int) ≤ 1 → ([65, 110, 121] == s) = false) from ⟨fun _ => hq, fun h => absurd h (by omega), fun h => absurd h (by omega), fun h => absurd h (by omega), fun h => absurd h (by omega)⟩)
        have hqe : s.isEmpty = false := by cases s <;> simp_all
        go_wp2
        go_roundw
        case rel => exact ⟨1, rfl, by omega, by omega, HN2, trivial⟩
        case measure => simp [intOf]
      · have HF : Hid (wordB s = true) := Lib.hid (by unfold wordB; rw [hq]; simp)
        have hqe : s.isEmpty = true := by cases s <;> simp_all
        go_wp2
        go_ret
        exact ⟨by rw [HF.out]; rfl, rfl⟩
    · cases hq : ([73, 110, 116] == s)
      · have HN2 : Hid (NotYet s 2) := Lib.hid (show ((1 : Int) ≤ 2 → (([] : List UInt8) == s) = false) ∧ ((2 : Int) ≤ 2 → ([73, 110, 116] == s) = false) ∧ ((3 : Int) ≤ 2 → ([66, 111, 111, 108] == s) = false) ∧ ((4 : Int) ≤ 2 → ([84, 101, 120, 116] == s) = false) ∧ ((5 : Int) ≤ 2 → ([65, 110, 121] == s) = false) from ⟨fun _ => HN.out.1 (by omega), fun _ => hq, fun h => absurd h (by omega), fun h => absurd h (by omega), fun h => absurd h (by omega)⟩)
        go_wp2
        go_roundw
        case rel => exact ⟨2, rfl, by omega, by omega, HN2, trivial⟩
        case measure => simp [intOf]
      · have HF : Hid (wordB s = true) := Lib.hid (by unfold wordB; rw [hq]; simp)
        go_wp2
        go_ret
        exact ⟨by rw [HF.out]; rfl, rfl⟩
    · cases hq : ([66, 111, 111, 108] == s)
      · have HN2 : Hid (NotYet s 3) := Lib.hid (show ((1 : Int) ≤ 3 → (([] : List UInt8) == s) = false) ∧ ((2 : Int) ≤ 3 → ([73, 110, 116] == s) = false) ∧ ((3 : Int) ≤ 3 → ([66, 111, 111, 108] == s) = false) ∧ ((4 : Int) ≤ 3 → ([84, 101, 120, 116] == s) = false) ∧ ((5 : Int) ≤ 3 → ([65, 110, 121] == s) = false) from ⟨fun _ => HN.out.1 (by omega), fun _ => HN.out.2.1 (by omega), fun _ => hq, fun h => absurd h (by omega), fun h => absurd h (by omega)⟩)
        go_wp2
        go_roundw
        case rel => exact ⟨3, rfl, by omega, by omega, HN2, trivial⟩
        case measure => simp [intOf]
      · have HF : Hid (wordB s = true) := Lib.hid (by unfold wordB; rw [hq]; simp)
        go_wp2
        go_ret
        exact ⟨by rw [HF.out]; rfl, rfl⟩
    · cases hq : ([84, 101, 120, 116] == s)
      · have HN2 : Hid (NotYet s 4) := Lib.hid (show ((1 : Int) ≤ 4 → (([] : List UInt8) == s) = false) ∧ ((2 : Int) ≤ 4 → ([73, 110, 116] == s) = false) ∧ ((3 : Int) ≤ 4 → ([66, 111, 111, 108] == s) = false) ∧ ((4 : Int) ≤ 4 → ([84, 101, 120, 116] == s) = false) ∧ ((5 : Int) ≤ 4 → ([65, 110, 121] == s) = false) from ⟨fun _ => HN.out.1 (by omega), fun _ => HN.out.2.1 (by omega), fun _ => HN.out.2.2.1 (by omega), fun _ => hq, fun h => absurd h (by omega)⟩)
        go_wp2
        go_roundw
        case rel => exact ⟨4, rfl, by omega, by omega, HN2, trivial⟩
        case measure => simp [intOf]
      · have HF : Hid (wordB s = true) := Lib.hid (by unfold wordB; rw [hq]; simp)
        go_wp2
        go_ret
        exact ⟨by rw [HF.out]; rfl, rfl⟩
    · cases hq : ([65, 110, 121] == s)
      · have HN2 : Hid (NotYet s 5) := Lib.hid (show ((1 : Int) ≤ 5 → (([] : List UInt8) == s) = false) ∧ ((2 : Int) ≤ 5 → ([73, 110, 116] == s) = false) ∧ ((3 : Int) ≤ 5 → ([66, 111, 111, 108] == s) = false) ∧ ((4 : Int) ≤ 5 → ([84, 101, 120, 116] == s) = false) ∧ ((5 : Int) ≤ 5 → ([65, 110, 121] == s) = false) from ⟨fun _ => HN.out.1 (by omega), fun _ => HN.out.2.1 (by omega), fun _ => HN.out.2.2.1 (by omega), fun _ => HN.out.2.2.2.1 (by omega), fun _ => hq⟩)
        go_wp2
        go_roundw
        case rel => exact ⟨5, rfl, by omega, by omega, HN2, trivial⟩
        case measure => simp [intOf]
      · have HF : Hid (wordB s = true) := Lib.hid (by unfold wordB; rw [hq]; simp)
        go_wp2
        go_ret
        exact ⟨by rw [HF.out]; rfl, rfl⟩
    · have HF : Hid (wordB s = false) := Lib.hid (by
        unfold wordB
        obtain ⟨h0, h1, h2, h3, h4⟩ := HN.out
        rw [h0 (by omega), h1 (by omega), h2 (by omega), h3 (by omega), h4 (by omega)]; rfl)
      go_wp2
      go_ret
      exact ⟨by rw [HF.out]; rfl, rfl⟩
end Go.Proofs.YtkehnmapnckdgaaDoor
