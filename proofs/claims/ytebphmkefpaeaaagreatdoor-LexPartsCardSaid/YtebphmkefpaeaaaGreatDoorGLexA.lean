/- LexR1, LexR2, LexR3, LexR4, Toks, TokRow, Append, LexRSame, together. -/
import Derived.Test.YtebphmkefpaeaaaGreatDoorGPure
import Derived.Test.YtebphmkefpaeaaaGreatDoorGSemA
import Derived.Laws.Strings
import Derived.Test.YtebphmkefpaeaaaGreatDoorGUtf
import Derived.Lib.SmallJoins
import Derived.Deep.Slices
import Derived.Deep.Fields
import Derived.ChangeSame
import Derived.SizedLaws
import Derived.OpenShut
import Derived.Deep.AppendLies
import Derived.Laws.OwnMore
import Derived.StillTailTactics
/- The document's small functions of layer 6: small, great, digit, among, Word, Sign, rest, Name, Upper, number. -/
namespace Lex
theorem tw_at {p : UInt8 → Bool} : ∀ {s : List UInt8} {n : Nat}, n ≤ s.length → (∀ j (hj : j < s.length), j < n → p (s[j]'hj) = true) → (∀ (h : n < s.length), p (s[n]'h) = false) → (s.takeWhile p).length = n
  | [], n, h, _, _ => by simp at h; simp [h]
  | x :: r, 0, _, _, h => by
    have := h (by simp)
    simp at this
    rw [List.takeWhile_cons_of_neg (by simp [this])]; rfl
  | x :: r, n + 1, h1, h2, h3 => by
    have hx := h2 0 (by simp) (by omega)
    simp at hx
    rw [List.takeWhile_cons_of_pos hx, List.length_cons, tw_at (s := r) (n := n) (by simpa using h1) (fun j hj hn => by
      have := h2 (j + 1) (by simpa using hj) (by omega)
      simpa using this) (fun h => by
      have := h3 (by simpa using h)
      simpa using this)]

/-- Is it one of them? -/
def isIn (s : List UInt8) (l : List (List UInt8)) : Bool := l.contains s

theorem tw_all {p : UInt8 → Bool} : ∀ {s : List UInt8}, (s.takeWhile p).length = s.length ↔ s.all p = true
  | [] => by simp
  | x :: r => by
    by_cases hx : p x = true
    · rw [List.takeWhile_cons_of_pos hx, List.length_cons, List.length_cons, List.all_cons, hx, Bool.true_and, ← tw_all (s := r)]; omega
    · rw [List.takeWhile_cons_of_neg hx]; simp [hx]
end Lex
namespace Go.Proofs.YtebphmkefpaeaaaGreatDoor
open Go.RowKit
set_option linter.unusedVariables false

theorem lsmall_walk (c : UInt8) (w : World) :
    Calls Tryz.prog 27 #[.int .u8 (c.toNat : Int)] w fun e w' => e = .returned (.bool (Lex.small c)) ∧ w = w' := by
  have hlt := c.toNat_lt
  have H : c.toNat ≤ 96 ∨ (97 ≤ c.toNat ∧ c.toNat ≤ 122) ∨ 123 ≤ c.toNat := by omega
  have HB : Hid (Lex.small c = (decide (97 ≤ c.toNat) && decide (c.toNat ≤ 122))) := Lib.hid rfl
  obtain ⟨n, hn⟩ : ∃ n, n = c.toNat := ⟨_, rfl⟩
  rw [← hn] at H HB hlt ⊢
  clear hn
  rcases H with h1 | ⟨h1, h2⟩ | h1
  · have h3 : decide ((97 : Int) ≤ (n : Int)) = false := decide_eq_false (by omega)
    go_enter Tryz.func27, Tryz.ntmps27
    go_wp2
    go_ret
    exact ⟨by rw [HB.out, decide_eq_false (by omega)]; rfl, rfl⟩
  · have h3 : decide ((n : Int) ≤ 122) = true := decide_eq_true (by omega)
    have h4 : decide ((97 : Int) ≤ (n : Int)) = true := decide_eq_true (by omega)
    go_enter Tryz.func27, Tryz.ntmps27
    go_wp2
    go_ret
    exact ⟨by rw [HB.out, decide_eq_true h1, decide_eq_true h2]; rfl, rfl⟩
  · have h3 : decide ((n : Int) ≤ 122) = false := decide_eq_false (by omega)
    have h4 : decide ((97 : Int) ≤ (n : Int)) = true := decide_eq_true (by omega)
    go_enter Tryz.func27, Tryz.ntmps27
    go_wp2
    go_ret
    exact ⟨by rw [HB.out, decide_eq_false (p := n ≤ 122) (by omega), Bool.and_false]; rfl, rfl⟩

theorem lgreat_walk (c : UInt8) (w : World) :
    Calls Tryz.prog 30 #[.int .u8 (c.toNat : Int)] w fun e w' => e = .returned (.bool (Lex.great c)) ∧ w = w' := by
  have hlt := c.toNat_lt
  have H : c.toNat ≤ 64 ∨ (65 ≤ c.toNat ∧ c.toNat ≤ 90) ∨ 91 ≤ c.toNat := by omega
  have HB : Hid (Lex.great c = (decide (65 ≤ c.toNat) && decide (c.toNat ≤ 90))) := Lib.hid rfl
  obtain ⟨n, hn⟩ : ∃ n, n = c.toNat := ⟨_, rfl⟩
  rw [← hn] at H HB hlt ⊢
  clear hn
  rcases H with h1 | ⟨h1, h2⟩ | h1
  · have h3 : decide ((65 : Int) ≤ (n : Int)) = false := decide_eq_false (by omega)
    go_enter Tryz.func30, Tryz.ntmps30
    go_wp2
    go_ret
    exact ⟨by rw [HB.out, decide_eq_false (by omega)]; rfl, rfl⟩
  · have h3 : decide ((n : Int) ≤ 90) = true := decide_eq_true (by omega)
    have h4 : decide ((65 : Int) ≤ (n : Int)) = true := decide_eq_true (by omega)
    go_enter Tryz.func30, Tryz.ntmps30
    go_wp2
    go_ret
    exact ⟨by rw [HB.out, decide_eq_true h1, decide_eq_true h2]; rfl, rfl⟩
  · have h3 : decide ((n : Int) ≤ 90) = false := decide_eq_false (by omega)
    have h4 : decide ((65 : Int) ≤ (n : Int)) = true := decide_eq_true (by omega)
    go_enter Tryz.func30, Tryz.ntmps30
    go_wp2
    go_ret
    exact ⟨by rw [HB.out, decide_eq_false (p := n ≤ 90) (by omega), Bool.and_false]; rfl, rfl⟩

theorem ldigit_walk (c : UInt8) (w : World) :
    Calls Tryz.prog 41 #[.int .u8 (c.toNat : Int)] w fun e w' => e = .returned (.bool (Lex.digit c)) ∧ w = w' := by
  have hlt := c.toNat_lt
  have H : c.toNat ≤ 47 ∨ (48 ≤ c.toNat ∧ c.toNat ≤ 57) ∨ 58 ≤ c.toNat := by omega
  have HB : Hid (Lex.digit c = (decide (48 ≤ c.toNat) && decide (c.toNat ≤ 57))) := Lib.hid rfl
  obtain ⟨n, hn⟩ : ∃ n, n = c.toNat := ⟨_, rfl⟩
  rw [← hn] at H HB hlt ⊢
  clear hn
  rcases H with h1 | ⟨h1, h2⟩ | h1
  · have h3 : decide ((48 : Int) ≤ (n : Int)) = false := decide_eq_false (by omega)
    go_enter Tryz.func41, Tryz.ntmps41
    go_wp2
    go_ret
    exact ⟨by rw [HB.out, decide_eq_false (by omega)]; rfl, rfl⟩
  · have h3 : decide ((n : Int) ≤ 57) = true := decide_eq_true (by omega)
    have h4 : decide ((48 : Int) ≤ (n : Int)) = true := decide_eq_true (by omega)
    go_enter Tryz.func41, Tryz.ntmps41
    go_wp2
    go_ret
    exact ⟨by rw [HB.out, decide_eq_true h1, decide_eq_true h2]; rfl, rfl⟩
  · have h3 : decide ((n : Int) ≤ 57) = false := decide_eq_false (by omega)
    have h4 : decide ((48 : Int) ≤ (n : Int)) = true := decide_eq_true (by omega)
    go_enter Tryz.func41, Tryz.ntmps41
    go_wp2
    go_ret
    exact ⟨by rw [HB.out, decide_eq_false (p := n ≤ 57) (by omega), Bool.and_false]; rfl, rfl⟩

theorem among_at {s : List UInt8} {l : List (List UInt8)} {i : Nat} (hi : i < l.length) (h : (s == l[i]'hi) = true) : Lex.isIn s l = true := by
  unfold Lex.isIn
  rw [List.contains_iff_mem, beq_iff_eq.1 h]; exact List.getElem_mem _
theorem among_no {s : List UInt8} {l : List (List UInt8)} (h : ∀ j (hj : j < l.length), (s == l[j]'hj) = false) : Lex.isIn s l = false := by
  unfold Lex.isIn
  cases hq : l.contains s with
  | false => rfl
  | true =>
    obtain ⟨j, hj, e⟩ := List.mem_iff_getElem.1 (List.contains_iff_mem.1 hq)
    have := h j hj
    rw [e] at this; simp at this

set_option maxRecDepth 100000 in
set_option maxHeartbeats 2000000 in
theorem among_walk (s : List UInt8) (A : Option Addr) (cap : Nat) (l : List (List UInt8)) (w : World) (hA : Strs w w.heap.size A (strs l)) (hl : l.length ≤ 1000000) :
    Calls Tryz.prog 24 #[.string ⟨s.toArray⟩, .slice A l.length cap] w fun e w' => e = .returned (.bool (Lex.isIn s l)) ∧ w = w' := by
  have HA := Lib.hid hA
  have hsl : (strs l).length = l.length := by simp [strs]
  clear hA
  go_enter Tryz.func24, Tryz.ntmps24
  go_wp2_with fail
  go_loopw [5] (fun ii wr => ∃ i : Nat, ii = .int .i64 i ∧ i ≤ l.length ∧ Hid (∀ j (hj : j < l.length), j < i → (s == l[j]'hj) = false) ∧ w = wr)
    (fun i _ => l.length - (intOf i).toNat)
  case atStart => exact ⟨0, rfl, Nat.zero_le _, Lib.hid (fun j _ hj => absurd hj (by omega)), rfl⟩
  case round =>
    obtain ⟨i, rfl, hi, HN, rfl⟩ := hrel
    by_cases hlt : i < l.length
    · have hi1 : (i : Int) < (l.length : Int) := by omega
      rcases HA.out with h0 | ⟨g, off, rfl, hg, hc⟩
      · omega
      · have hcell := hc i (by omega)
        have e1 : (strs l)[i]'(by omega) = ⟨(l[i]'hlt).toArray⟩ := by simp [strs]
        rw [e1] at hcell
        obtain ⟨p, hp⟩ : ∃ p, p = l[i]'hlt := ⟨_, rfl⟩
        rw [← hp] at hcell
        have HP := Lib.hid hp
        clear hc e1 hp
        cases hq : (s == p)
        · have HM : Hid ((s == l[i]'hlt) = false) := Lib.hid (by rw [← HP.out]; exact hq)
          go_wp2
          go_roundw
          case rel => exact ⟨i + 1, by go_num, by omega, Lib.hid (fun j hj hji => by
            rcases Nat.lt_succ_iff_lt_or_eq.1 hji with h | rfl
            · exact HN.out j hj h
            · exact HM.out), trivial⟩
          case measure => simp [intOf]; omega
        · have HM : Hid (Lex.isIn s l = true) := Lib.hid (among_at hlt (by rw [← HP.out]; exact hq))
          go_wp2
          go_ret
          exact ⟨by rw [HM.out]; rfl, rfl⟩
    · have hi1 : ¬ (i : Int) < (l.length : Int) := by omega
      have HM : Hid (Lex.isIn s l = false) := Lib.hid (among_no (fun j hj => HN.out j hj (by omega)))
      go_wp2
      go_ret
      exact ⟨by rw [HM.out]; rfl, rfl⟩

theorem strs_made (W : World) (l : List (List UInt8)) (g : Nat) (hg : g = W.heap.size) : Strs (W.alloc (.cells ((strs l).map Value.string).toArray 9)) (W.alloc (.cells ((strs l).map Value.string).toArray 9)).heap.size (some ⟨g, 0, none⟩) (strs l) := by
  subst hg
  refine Or.inr ⟨W.heap.size, 0, rfl, by simp, fun i hi => ?_⟩
  rw [Nat.zero_add]
  simp [go_sem, hi]

set_option maxRecDepth 100000 in
set_option maxHeartbeats 2000000 in
theorem lword_walk (s : List UInt8) (w : World) :
    Calls Tryz.prog 11 #[.string ⟨s.toArray⟩] w fun e w' => e = .returned (.bool (Lex.isWord s)) ∧ Below w.heap.size w w' := by
  have HS : Hid (Strs (w.alloc (.cells #[.string ⟨#[109, 111, 100, 117, 108, 101]⟩, .string ⟨#[105, 109, 112, 111, 114, 116]⟩, .string ⟨#[112, 105, 110]⟩, .string ⟨#[114, 97, 110, 103, 101]⟩, .string ⟨#[116, 121, 112, 101]⟩, .string ⟨#[111, 112, 97, 113, 117, 101]⟩, .string ⟨#[108, 101, 116]⟩, .string ⟨#[105, 110]⟩, .string ⟨#[101, 120, 112, 111, 114, 116]⟩, .string ⟨#[102, 117, 110]⟩, .string ⟨#[105, 102]⟩, .string ⟨#[116, 104, 101, 110]⟩, .string ⟨#[101, 108, 115, 101]⟩, .string ⟨#[99, 97, 115, 101]⟩, .string ⟨#[111, 102]⟩, .string ⟨#[97, 115]⟩, .string ⟨#[110, 101, 119]⟩, .string ⟨#[114, 97, 119]⟩, .string ⟨#[116, 114, 117, 101]⟩, .string ⟨#[102, 97, 108, 115, 101]⟩] 9)) (w.alloc (.cells #[.string ⟨#[109, 111, 100, 117, 108, 101]⟩, .string ⟨#[105, 109, 112, 111, 114, 116]⟩, .string ⟨#[112, 105, 110]⟩, .string ⟨#[114, 97, 110, 103, 101]⟩, .string ⟨#[116, 121, 112, 101]⟩, .string ⟨#[111, 112, 97, 113, 117, 101]⟩, .string ⟨#[108, 101, 116]⟩, .string ⟨#[105, 110]⟩, .string ⟨#[101, 120, 112, 111, 114, 116]⟩, .string ⟨#[102, 117, 110]⟩, .string ⟨#[105, 102]⟩, .string ⟨#[116, 104, 101, 110]⟩, .string ⟨#[101, 108, 115, 101]⟩, .string ⟨#[99, 97, 115, 101]⟩, .string ⟨#[111, 102]⟩, .string ⟨#[97, 115]⟩, .string ⟨#[110, 101, 119]⟩, .string ⟨#[114, 97, 119]⟩, .string ⟨#[116, 114, 117, 101]⟩, .string ⟨#[102, 97, 108, 115, 101]⟩] 9)).heap.size (some ⟨w.heap.size, 0, none⟩) (strs Lex.words)) := Lib.hid (strs_made w Lex.words _ rfl)
  have hb := below_one w (.cells #[.string ⟨#[109, 111, 100, 117, 108, 101]⟩, .string ⟨#[105, 109, 112, 111, 114, 116]⟩, .string ⟨#[112, 105, 110]⟩, .string ⟨#[114, 97, 110, 103, 101]⟩, .string ⟨#[116, 121, 112, 101]⟩, .string ⟨#[111, 112, 97, 113, 117, 101]⟩, .string ⟨#[108, 101, 116]⟩, .string ⟨#[105, 110]⟩, .string ⟨#[101, 120, 112, 111, 114, 116]⟩, .string ⟨#[102, 117, 110]⟩, .string ⟨#[105, 102]⟩, .string ⟨#[116, 104, 101, 110]⟩, .string ⟨#[101, 108, 115, 101]⟩, .string ⟨#[99, 97, 115, 101]⟩, .string ⟨#[111, 102]⟩, .string ⟨#[97, 115]⟩, .string ⟨#[110, 101, 119]⟩, .string ⟨#[114, 97, 119]⟩, .string ⟨#[116, 114, 117, 101]⟩, .string ⟨#[102, 97, 108, 115, 101]⟩] 9)
  have ha := fun W h => among_walk s (some ⟨w.heap.size, 0, none⟩) 20 Lex.words W h (by decide)
  have HI : Hid (Lex.isWord s = Lex.isIn s Lex.words) := Lib.hid rfl
  rw [show Lex.words.length = 20 from rfl] at ha
  go_enter Tryz.func11, Tryz.ntmps11
  go_wp2_with fail
  refine (ha _ HS.out).mono ?_
  rintro e w1 ⟨rfl, rfl⟩
  go_wp2
  go_ret
  exact ⟨by rw [HI.out]; rfl, hb⟩

set_option maxRecDepth 100000 in
set_option maxHeartbeats 2000000 in
theorem lsign_walk (s : List UInt8) (w : World) :
    Calls Tryz.prog 13 #[.string ⟨s.toArray⟩] w fun e w' => e = .returned (.bool (Lex.isSign s)) ∧ Below w.heap.size w w' := by
  have HS : Hid (Strs (w.alloc (.cells #[.string ⟨#[40]⟩, .string ⟨#[41]⟩, .string ⟨#[123]⟩, .string ⟨#[125]⟩, .string ⟨#[91]⟩, .string ⟨#[93]⟩, .string ⟨#[60]⟩, .string ⟨#[62]⟩, .string ⟨#[60, 61]⟩, .string ⟨#[62, 61]⟩, .string ⟨#[61]⟩, .string ⟨#[94]⟩, .string ⟨#[42]⟩, .string ⟨#[44]⟩, .string ⟨#[58]⟩, .string ⟨#[46]⟩, .string ⟨#[47]⟩, .string ⟨#[64]⟩, .string ⟨#[124]⟩, .string ⟨#[45, 62]⟩] 9)) (w.alloc (.cells #[.string ⟨#[40]⟩, .string ⟨#[41]⟩, .string ⟨#[123]⟩, .string ⟨#[125]⟩, .string ⟨#[91]⟩, .string ⟨#[93]⟩, .string ⟨#[60]⟩, .string ⟨#[62]⟩, .string ⟨#[60, 61]⟩, .string ⟨#[62, 61]⟩, .string ⟨#[61]⟩, .string ⟨#[94]⟩, .string ⟨#[42]⟩, .string ⟨#[44]⟩, .string ⟨#[58]⟩, .string ⟨#[46]⟩, .string ⟨#[47]⟩, .string ⟨#[64]⟩, .string ⟨#[124]⟩, .string ⟨#[45, 62]⟩] 9)).heap.size (some ⟨w.heap.size, 0, none⟩) (strs Lex.signs)) := Lib.hid (strs_made w Lex.signs _ rfl)
  have hb := below_one w (.cells #[.string ⟨#[40]⟩, .string ⟨#[41]⟩, .string ⟨#[123]⟩, .string ⟨#[125]⟩, .string ⟨#[91]⟩, .string ⟨#[93]⟩, .string ⟨#[60]⟩, .string ⟨#[62]⟩, .string ⟨#[60, 61]⟩, .string ⟨#[62, 61]⟩, .string ⟨#[61]⟩, .string ⟨#[94]⟩, .string ⟨#[42]⟩, .string ⟨#[44]⟩, .string ⟨#[58]⟩, .string ⟨#[46]⟩, .string ⟨#[47]⟩, .string ⟨#[64]⟩, .string ⟨#[124]⟩, .string ⟨#[45, 62]⟩] 9)
  have ha := fun W h => among_walk s (some ⟨w.heap.size, 0, none⟩) 20 Lex.signs W h (by decide)
  have HI : Hid (Lex.isSign s = Lex.isIn s Lex.signs) := Lib.hid rfl
  rw [show Lex.signs.length = 20 from rfl] at ha
  go_enter Tryz.func13, Tryz.ntmps13
  go_wp2_with fail
  refine (ha _ HS.out).mono ?_
  rintro e w1 ⟨rfl, rfl⟩
  go_wp2
  go_ret
  exact ⟨by rw [HI.out]; rfl, hb⟩

theorem nameB_one {c : UInt8} : Lex.nameB c = (Lex.small c || Lex.great c || Lex.digit c || c == 95) := rfl

theorem index_byte (s : ByteArray) (n : Nat) (h : n < s.size) (W : World) : (Instr.index 9 (.string s) (.int .i64 (n : Int))).run Tryz.prog W = .ok (.int .u8 (s[n]'h).toNat) W := by
  rw [run_index_string (P := Tryz.prog) _ _ _ _ _ Tryz.underlying9, dif_pos ⟨by omega, by omega⟩]
  simp

theorem byte_95 (c : UInt8) : ((c.toNat : Int) == 95) = (c == 95) := by
  rw [Bool.eq_iff_iff, beq_iff_eq, beq_iff_eq]
  constructor
  · intro h; apply UInt8.toNat_inj.1; show c.toNat = 95; omega
  · rintro rfl; rfl

set_option maxRecDepth 100000 in
set_option maxHeartbeats 4000000 in
theorem rest_walk (s : ByteArray) (hs : s.size ≤ 9223372036854775806) (w : World) :
    Calls Tryz.prog 28 #[.string s] w fun e w' => e = .returned (.int .i64 (s.data.toList.takeWhile Lex.nameB).length) ∧ w = w' := by
  have hsl : s.data.toList.length = s.size := (Lib.size_eq s).symm
  go_enter Tryz.func28, Tryz.ntmps28
  go_wp2_with fail
  go_loopw [3] (fun ii wr => ∃ n : Nat, ii = .int .i64 n ∧ n ≤ s.size ∧ Hid (∀ j (hj : j < s.data.toList.length), j < n → Lex.nameB (s.data.toList[j]'hj) = true) ∧ w = wr)
    (fun i _ => s.size - (intOf i).toNat)
  case atStart => exact ⟨0, rfl, Nat.zero_le _, Lib.hid (fun j _ hj => absurd hj (by omega)), rfl⟩
  case round =>
    obtain ⟨n, rfl, hn, HN, rfl⟩ := hrel
    by_cases hlt : n < s.size
    · have hi1 : (n : Int) < (s.size : Int) := by omega
      obtain ⟨c, hc⟩ : ∃ c, c = s[n]'hlt := ⟨_, rfl⟩
      have hcl : s.data.toList[n]'(by omega) = c := hc.symm
      have HCL := Lib.hid hcl
      have hidx : ∀ W, (Instr.index 9 (.string s) (.int .i64 (n : Int))).run Tryz.prog W = .ok (.int .u8 c.toNat) W := fun W => by
        rw [hc]; exact index_byte s n hlt W
      have hcn := c.toNat_lt
      have h95 := byte_95 c
      have HB := Lib.hid (@nameB_one c)
      clear hcl hc
      have yes : Lex.nameB c = true → Hid (∀ j (hj : j < s.data.toList.length), j < n + 1 → Lex.nameB (s.data.toList[j]'hj) = true) := fun h => Lib.hid (fun j hj hji => by
        rcases Nat.lt_succ_iff_lt_or_eq.1 hji with h' | rfl
        · exact HN.out j hj h'
        · rw [HCL.out]; exact h)
      have no : Lex.nameB c = false → Hid ((s.data.toList.takeWhile Lex.nameB).length = n) := fun h => Lib.hid (Lex.tw_at (by omega) HN.out (fun h' => by rw [HCL.out]; exact h))
      cases h1 : Lex.small c
      · cases h2 : Lex.great c
        · cases h3 : Lex.digit c
          · cases h4 : (c == 95)
            · rw [h4] at h95
              have HM := no (by rw [HB.out, h1, h2, h3, h4]; rfl)
              clear yes no
              go_wp2_with fail
              refine (lsmall_walk c _).mono ?_
              rintro e w2 ⟨rfl, rfl⟩
              rw [h1]
              go_wp2_with fail
              refine (lgreat_walk c _).mono ?_
              rintro e w2 ⟨rfl, rfl⟩
              rw [h2]
              go_wp2_with fail
              refine (ldigit_walk c _).mono ?_
              rintro e w2 ⟨rfl, rfl⟩
              rw [h3]
              go_wp2
              go_ret
              exact ⟨by rw [HM.out]; rfl, rfl⟩
            · rw [h4] at h95
              have HM := yes (by rw [HB.out, h1, h2, h3, h4]; rfl)
              clear yes no
              go_wp2_with fail
              refine (lsmall_walk c _).mono ?_
              rintro e w2 ⟨rfl, rfl⟩
              rw [h1]
              go_wp2_with fail
              refine (lgreat_walk c _).mono ?_
              rintro e w2 ⟨rfl, rfl⟩
              rw [h2]
              go_wp2_with fail
              refine (ldigit_walk c _).mono ?_
              rintro e w2 ⟨rfl, rfl⟩
              rw [h3]
              go_wp2
              go_roundw
              case rel => exact ⟨n + 1, by go_num, by omega, HM, trivial⟩
              case measure => simp [intOf]; omega
          · have HM := yes (by rw [HB.out, h1, h2, h3]; rfl)
            clear yes no
            go_wp2_with fail
            refine (lsmall_walk c _).mono ?_
            rintro e w2 ⟨rfl, rfl⟩
            rw [h1]
            go_wp2_with fail
            refine (lgreat_walk c _).mono ?_
            rintro e w2 ⟨rfl, rfl⟩
            rw [h2]
            go_wp2_with fail
            refine (ldigit_walk c _).mono ?_
            rintro e w2 ⟨rfl, rfl⟩
            rw [h3]
            go_wp2
            go_roundw
            case rel => exact ⟨n + 1, by go_num, by omega, HM, trivial⟩
            case measure => simp [intOf]; omega
        · have HM := yes (by rw [HB.out, h1, h2]; rfl)
          clear yes no
          go_wp2_with fail
          refine (lsmall_walk c _).mono ?_
          rintro e w2 ⟨rfl, rfl⟩
          rw [h1]
          go_wp2_with fail
          refine (lgreat_walk c _).mono ?_
          rintro e w2 ⟨rfl, rfl⟩
          rw [h2]
          go_wp2
          go_roundw
          case rel => exact ⟨n + 1, by go_num, by omega, HM, trivial⟩
          case measure => simp [intOf]; omega
      · have HM := yes (by rw [HB.out, h1]; rfl)
        clear yes no
        go_wp2_with fail
        refine (lsmall_walk c _).mono ?_
        rintro e w2 ⟨rfl, rfl⟩
        rw [h1]
        go_wp2
        go_roundw
        case rel => exact ⟨n + 1, by go_num, by omega, HM, trivial⟩
        case measure => simp [intOf]; omega
    · have hi1 : ¬ (n : Int) < (s.size : Int) := by omega
      have HM : Hid ((s.data.toList.takeWhile Lex.nameB).length = n) := Lib.hid (Lex.tw_at (by omega) HN.out (fun h' => absurd h' (by omega)))
      go_wp2
      go_ret
      exact ⟨by rw [HM.out]; rfl, rfl⟩

end Go.Proofs.YtebphmkefpaeaaaGreatDoor

/- The document's Name, Upper, number of layer 6. -/
namespace Go.Proofs.YtebphmkefpaeaaaGreatDoor
open Go.RowKit
set_option linter.unusedVariables false

theorem lrest_walk (l : List UInt8) (hl : l.length ≤ 1000000) (w : World) :
    Calls Tryz.prog 28 #[.string ⟨l.toArray⟩] w fun e w' => e = .returned (.int .i64 (l.takeWhile Lex.nameB).length) ∧ w = w' :=
  rest_walk ⟨l.toArray⟩ (by rw [size_list]; omega) w

theorem lname_cons (c : UInt8) (r : List UInt8) : Lex.isName (c :: r) = (decide ((c :: r).length ≤ 24) && Lex.small c && (c :: r).all Lex.nameB && !Lex.isWord (c :: r)) := rfl

set_option maxRecDepth 100000 in
set_option maxHeartbeats 2000000 in
theorem lname_walk (l : List UInt8) (hl : l.length ≤ 9223372036854775806) (w : World) :
    Calls Tryz.prog 15 #[.string ⟨l.toArray⟩] w fun e w' => e = .returned (.bool (Lex.isName l)) ∧ Below w.heap.size w w' := by
  cases l with
  | nil =>
    have HM : Hid (Lex.isName [] = false) := Lib.hid rfl
    go_enter Tryz.func15, Tryz.ntmps15
    go_wp2
    go_ret
    exact ⟨by rw [HM.out]; rfl, Below.refl _ _⟩
  | cons c r =>
    have HM := Lib.hid (lname_cons c r)
    have HT := Lib.hid (Lex.tw_all (p := Lex.nameB) (s := c :: r))
    obtain ⟨l, hll⟩ : ∃ l : List UInt8, l = c :: r := ⟨_, rfl⟩
    rw [← hll] at hl HM HT ⊢
    have hz : (⟨l.toArray⟩ : ByteArray).size = l.length := size_list _
    have he : l.isEmpty = false := by rw [hll]; rfl
    have hidx : ∀ W, (Instr.index 9 (.string ⟨l.toArray⟩) (.int .i64 0)).run Tryz.prog W = .ok (.int .u8 c.toNat) W := fun W => by rw [hll]; rfl
    clear hll
    by_cases h24 : l.length ≤ 24
    · have h24d : decide ((l.length : Int) ≤ 24) = true := decide_eq_true (by omega)
      cases h1 : Lex.small c
      · have HF : Hid (Lex.isName l = false) := Lib.hid (by rw [HM.out, h1]; simp)
        go_enter Tryz.func15, Tryz.ntmps15
        go_wp2_with fail
        refine (lsmall_walk c _).mono ?_
        rintro e w2 ⟨rfl, rfl⟩
        rw [h1]
        go_wp2
        go_ret
        exact ⟨by rw [HF.out]; rfl, Below.refl _ _⟩
      · have H1 := Lib.hid h1
        go_enter Tryz.func15, Tryz.ntmps15
        go_wp2_with fail
        refine (lsmall_walk c _).mono ?_
        rintro e w2 ⟨rfl, rfl⟩
        rw [h1]
        clear h1
        go_wp2_with fail
        refine (lrest_walk l (by omega) _).mono ?_
        rintro e w2 ⟨rfl, rfl⟩
        obtain ⟨k, hk⟩ : ∃ k, k = (l.takeWhile Lex.nameB).length := ⟨_, rfl⟩
        rw [← hk] at HT ⊢
        clear hk
        by_cases hkl : k = l.length
        · have hkd : ((k : Int) == (l.length : Int)) = true := by rw [beq_iff_eq]; omega
          have HA : Hid (l.all Lex.nameB = true) := Lib.hid (HT.out.1 hkl)
          have HF : Hid (Lex.isName l = !Lex.isWord l) := Lib.hid (by rw [HM.out, H1.out, HA.out, decide_eq_true h24]; simp)
          clear hkl
          go_wp2_with fail
          refine (lword_walk l _).mono ?_
          rintro e w2 ⟨rfl, hb2⟩
          go_wp2
          go_ret
          exact ⟨by rw [HF.out]; rfl, hb2⟩
        · have hkd : ((k : Int) == (l.length : Int)) = false := by rw [beq_eq_false_iff_ne]; omega
          have HF : Hid (Lex.isName l = false) := Lib.hid (by
            have : l.all Lex.nameB = false := by
              cases hq : l.all Lex.nameB with
              | false => rfl
              | true => exact absurd (HT.out.2 hq) hkl
            rw [HM.out, this]; simp)
          clear hkl
          go_wp2
          go_ret
          exact ⟨by rw [HF.out]; rfl, Below.refl _ _⟩
    · have h24d : decide ((l.length : Int) ≤ 24) = false := decide_eq_false (by omega)
      have HF : Hid (Lex.isName l = false) := Lib.hid (by rw [HM.out, decide_eq_false h24]; rfl)
      go_enter Tryz.func15, Tryz.ntmps15
      go_wp2
      go_ret
      exact ⟨by rw [HF.out]; rfl, Below.refl _ _⟩

theorem lupper_cons (c : UInt8) (r : List UInt8) : Lex.isUpper (c :: r) = (decide ((c :: r).length ≤ 24) && Lex.great c && (c :: r).all Lex.nameB) := rfl

set_option maxRecDepth 100000 in
set_option maxHeartbeats 2000000 in
theorem lupper_walk (l : List UInt8) (hl : l.length ≤ 9223372036854775806) (w : World) :
    Calls Tryz.prog 17 #[.string ⟨l.toArray⟩] w fun e w' => e = .returned (.bool (Lex.isUpper l)) ∧ Below w.heap.size w w' := by
  cases l with
  | nil =>
    have HM : Hid (Lex.isUpper [] = false) := Lib.hid rfl
    go_enter Tryz.func17, Tryz.ntmps17
    go_wp2
    go_ret
    exact ⟨by rw [HM.out]; rfl, Below.refl _ _⟩
  | cons c r =>
    have HM := Lib.hid (lupper_cons c r)
    have HT := Lib.hid (Lex.tw_all (p := Lex.nameB) (s := c :: r))
    obtain ⟨l, hll⟩ : ∃ l : List UInt8, l = c :: r := ⟨_, rfl⟩
    rw [← hll] at hl HM HT ⊢
    have hz : (⟨l.toArray⟩ : ByteArray).size = l.length := size_list _
    have he : l.isEmpty = false := by rw [hll]; rfl
    have hidx : ∀ W, (Instr.index 9 (.string ⟨l.toArray⟩) (.int .i64 0)).run Tryz.prog W = .ok (.int .u8 c.toNat) W := fun W => by rw [hll]; rfl
    clear hll
    by_cases h24 : l.length ≤ 24
    · have h24d : decide ((l.length : Int) ≤ 24) = true := decide_eq_true (by omega)
      cases h1 : Lex.great c
      · have HF : Hid (Lex.isUpper l = false) := Lib.hid (by rw [HM.out, h1]; simp)
        go_enter Tryz.func17, Tryz.ntmps17
        go_wp2_with fail
        refine (lgreat_walk c _).mono ?_
        rintro e w2 ⟨rfl, rfl⟩
        rw [h1]
        go_wp2
        go_ret
        exact ⟨by rw [HF.out]; rfl, Below.refl _ _⟩
      · have H1 := Lib.hid h1
        go_enter Tryz.func17, Tryz.ntmps17
        go_wp2_with fail
        refine (lgreat_walk c _).mono ?_
        rintro e w2 ⟨rfl, rfl⟩
        rw [h1]
        clear h1
        go_wp2_with fail
        refine (lrest_walk l (by omega) _).mono ?_
        rintro e w2 ⟨rfl, rfl⟩
        obtain ⟨k, hk⟩ : ∃ k, k = (l.takeWhile Lex.nameB).length := ⟨_, rfl⟩
        rw [← hk] at HT ⊢
        clear hk
        by_cases hkl : k = l.length
        · have hkd : ((k : Int) == (l.length : Int)) = true := by rw [beq_iff_eq]; omega
          have HA : Hid (l.all Lex.nameB = true) := Lib.hid (HT.out.1 hkl)
          have HF : Hid (Lex.isUpper l = true) := Lib.hid (by rw [HM.out, H1.out, HA.out, decide_eq_true h24]; rfl)
          clear hkl
          go_wp2
          go_ret
          exact ⟨by rw [HF.out]; rfl, Below.refl _ _⟩
        · have hkd : ((k : Int) == (l.length : Int)) = false := by rw [beq_eq_false_iff_ne]; omega
          have HF : Hid (Lex.isUpper l = false) := Lib.hid (by
            have : l.all Lex.nameB = false := by
              cases hq : l.all Lex.nameB with
              | false => rfl
              | true => exact absurd (HT.out.2 hq) hkl
            rw [HM.out, this]; simp)
          clear hkl
          go_wp2
          go_ret
          exact ⟨by rw [HF.out]; rfl, Below.refl _ _⟩
    · have h24d : decide ((l.length : Int) ≤ 24) = false := decide_eq_false (by omega)
      have HF : Hid (Lex.isUpper l = false) := Lib.hid (by rw [HM.out, decide_eq_false h24]; rfl)
      go_enter Tryz.func17, Tryz.ntmps17
      go_wp2
      go_ret
      exact ⟨by rw [HF.out]; rfl, Below.refl _ _⟩

theorem all_off {p : UInt8 → Bool} {l : List UInt8} {i : Nat} (hi : i < l.length) (h : p (l[i]'hi) = false) : l.all p = false := by
  rw [List.all_eq_false]; exact ⟨l[i], List.getElem_mem _, by rw [h]; simp⟩
theorem all_on {p : UInt8 → Bool} {l : List UInt8} (h : ∀ j (hj : j < l.length), p (l[j]'hj) = true) : l.all p = true := by
  rw [List.all_eq_true]
  intro x hx
  obtain ⟨j, hj, rfl⟩ := List.mem_iff_getElem.1 hx
  exact h j hj

theorem byte_48 (c : UInt8) : ((c.toNat : Int) != 48) = decide (c ≠ 48) := by
  rw [Bool.eq_iff_iff, bne_iff_ne, decide_eq_true_eq]
  constructor
  · rintro h rfl; exact h rfl
  · intro h h2; refine h (UInt8.toNat_inj.1 ?_); show c.toNat = 48; omega

set_option maxRecDepth 100000 in
set_option maxHeartbeats 2000000 in
theorem lnumber_walk (l : List UInt8) (hl : l.length ≤ 1000000) (w : World) :
    Calls Tryz.prog 48 #[.string ⟨l.toArray⟩] w fun e w' => e = .returned (.bool (Lex.number l)) ∧ w = w' := by
  have hz : (⟨l.toArray⟩ : ByteArray).size = l.length := size_list _
  go_enter Tryz.func48, Tryz.ntmps48
  go_wp2_with fail
  go_loopw [3] (fun ii wr => ∃ n : Nat, ii = .int .i64 n ∧ n ≤ l.length ∧ Hid (∀ j (hj : j < l.length), j < n → Lex.digit (l[j]'hj) = true) ∧ w = wr)
    (fun i _ => l.length - (intOf i).toNat)
  case atStart => exact ⟨0, rfl, Nat.zero_le _, Lib.hid (fun j _ hj => absurd hj (by omega)), rfl⟩
  case round =>
    obtain ⟨n, rfl, hn, HN, rfl⟩ := hrel
    by_cases hlt : n < l.length
    · have hi1 : (n : Int) < (l.length : Int) := by omega
      obtain ⟨c, hc⟩ : ∃ c, c = l[n]'hlt := ⟨_, rfl⟩
      have hidx : ∀ W, (Instr.index 9 (.string ⟨l.toArray⟩) (.int .i64 (n : Int))).run Tryz.prog W = .ok (.int .u8 c.toNat) W := fun W => by
        rw [hc]; exact index_byte ⟨l.toArray⟩ n (by omega) W
      have HC := Lib.hid hc
      clear hc
      cases h1 : Lex.digit c
      · have HF : Hid (Lex.number l = false) := Lib.hid (by unfold Lex.number; rw [all_off hlt (by rw [← HC.out]; exact h1)]; rfl)
        go_wp2_with fail
        refine (ldigit_walk c _).mono ?_
        rintro e w2 ⟨rfl, rfl⟩
        rw [h1]
        go_wp2
        go_ret
        exact ⟨by rw [HF.out]; rfl, rfl⟩
      · have HM : Hid (Lex.digit (l[n]'hlt) = true) := Lib.hid (by rw [← HC.out]; exact h1)
        go_wp2_with fail
        refine (ldigit_walk c _).mono ?_
        rintro e w2 ⟨rfl, rfl⟩
        rw [h1]
        go_wp2
        go_roundw
        case rel => exact ⟨n + 1, by go_num, by omega, Lib.hid (fun j hj hji => by
          rcases Nat.lt_succ_iff_lt_or_eq.1 hji with h | rfl
          · exact HN.out j hj h
          · exact HM.out), trivial⟩
        case measure => simp [intOf]; omega
    · have hi1 : ¬ (n : Int) < (l.length : Int) := by omega
      have HA : Hid (l.all Lex.digit = true) := Lib.hid (all_on (fun j hj => HN.out j hj (by omega)))
      have HF : Hid (Lex.number l = (decide (1 ≤ l.length) && decide (l.length ≤ 15) && (decide (l.length = 1) || decide (l.head? ≠ some 48)))) := Lib.hid (by unfold Lex.number; rw [HA.out, Bool.true_and])
      by_cases h1 : 1 ≤ l.length
      · have h1d : decide ((1 : Int) ≤ (l.length : Int)) = true := decide_eq_true (by omega)
        by_cases h15 : l.length ≤ 15
        · have h15d : decide ((l.length : Int) ≤ 15) = true := decide_eq_true (by omega)
          by_cases hone : l.length = 1
          · have honed : ((l.length : Int) == 1) = true := by rw [beq_iff_eq]; omega
            have HF2 : Hid (Lex.number l = true) := Lib.hid (by rw [HF.out, decide_eq_true h1, decide_eq_true h15, decide_eq_true hone]; rfl)
            clear hone
            go_wp2
            go_ret
            exact ⟨by rw [HF2.out]; rfl, rfl⟩
          · have honed : ((l.length : Int) == 1) = false := by rw [beq_eq_false_iff_ne]; omega
            obtain ⟨c, r, hcr⟩ : ∃ c r, l = c :: r := by cases l with
              | nil => simp at h1
              | cons c r => exact ⟨c, r, rfl⟩
            have hidx : ∀ W, (Instr.index 9 (.string ⟨l.toArray⟩) (.int .i64 0)).run Tryz.prog W = .ok (.int .u8 c.toNat) W := fun W => by rw [hcr]; rfl
            have h48 := byte_48 c
            have HF2 : Hid (Lex.number l = decide (c ≠ 48)) := Lib.hid (by
              rw [HF.out, decide_eq_true h1, decide_eq_true h15, decide_eq_false hone, hcr]
              simp)
            obtain ⟨q, hq⟩ : ∃ q, q = decide (c ≠ 48) := ⟨_, rfl⟩
            rw [← hq] at HF2 h48
            clear hcr hq hone
            go_wp2
            go_ret
            exact ⟨by rw [HF2.out]; rfl, rfl⟩
        · have h15d : decide ((l.length : Int) ≤ 15) = false := decide_eq_false (by omega)
          have HF2 : Hid (Lex.number l = false) := Lib.hid (by rw [HF.out, decide_eq_false h15]; simp)
          go_wp2
          go_ret
          exact ⟨by rw [HF2.out]; rfl, rfl⟩
      · have h1d : decide ((1 : Int) ≤ (l.length : Int)) = false := decide_eq_false (by omega)
        have HF2 : Hid (Lex.number l = false) := Lib.hid (by rw [HF.out, decide_eq_false h1]; rfl)
        go_wp2
        go_ret
        exact ⟨by rw [HF2.out]; rfl, rfl⟩
end Go.Proofs.YtebphmkefpaeaaaGreatDoor

/- The document's passed of layer 6: blanks and one remark. -/
namespace Go.Proofs.YtebphmkefpaeaaaGreatDoor
open Go.RowKit
set_option linter.unusedVariables false

def passedR : Except Nat Nat → Value
  | .ok n => .tuple #[.int .i64 n, .agg #[.int .i64 0, .int .i64 0]]
  | .error j => .tuple #[.int .i64 0, .agg #[.int .i64 30, .int .i64 j]]

/-- A fault in a box that may be written. -/
def Box2 (W : World) (g : Nat) (a b : Int) : Prop := g < W.heap.size ∧ W.cell? ⟨g, 0, none⟩ = some (.int .i64 a) ∧ W.cell? ⟨g, 1, none⟩ = some (.int .i64 b) ∧ W.frozen? ⟨g, 0, none⟩ = false ∧ W.frozen? ⟨g, 1, none⟩ = false

theorem Box2.keep {W W' : World} {g B : Nat} {a b : Int} (h : Box2 W g a b) (hg : g < B) (hb : Below B W W') : Box2 W' g a b :=
  ⟨Nat.lt_of_lt_of_le h.1 hb.size, (hb.cell (p := ⟨g, 0, none⟩) hg).trans h.2.1, (hb.cell (p := ⟨g, 1, none⟩) hg).trans h.2.2.1, (hb.frozen (p := ⟨g, 0, none⟩) hg).trans h.2.2.2.1, (hb.frozen (p := ⟨g, 1, none⟩) hg).trans h.2.2.2.2⟩

theorem box2_new (w : World) (a b : Int) : Box2 (w.alloc (.cells #[.int .i64 a, .int .i64 b] 27)) w.heap.size a b :=
  ⟨by simp, by simp [go_sem], by simp [go_sem], by simp [go_sem], by simp [go_sem]⟩

theorem byte_is (c : UInt8) (k : Nat) (hk : k < 256) : ((c.toNat : Int) == (k : Int)) = (c == UInt8.ofNat k) := by
  have hm : (UInt8.ofNat k).toNat = k := by simp; omega
  rw [Bool.eq_iff_iff, beq_iff_eq, beq_iff_eq]
  constructor
  · intro h; apply UInt8.toNat_inj.1; rw [hm]; omega
  · intro h; rw [h, hm]

set_option maxRecDepth 100000 in
set_option maxHeartbeats 8000000 in
theorem passed_walk (l : List UInt8) (hl : l.length ≤ 1000000) (w : World) :
    Calls Tryz.prog 32 #[.string ⟨l.toArray⟩] w fun e w' => e = .returned (passedR (Lex.passed l)) ∧ Below w.heap.size w w' := by
  have hz : (⟨l.toArray⟩ : ByteArray).size = l.length := size_list _
  have hb0 := below_one w (.cells #[.int .i64 0, .int .i64 0] 27)
  have HX := Lib.hid (box2_new w 0 0)
  have HB0 := Lib.hid hb0
  clear hb0
  go_enter Tryz.func32, Tryz.ntmps32
  go_wp2_with fail
  generalize hW : w.alloc (.cells #[.int .i64 0, .int .i64 0] 27) = W0 at HX HB0 ⊢
  clear hW
  go_loopw [4] (fun ii wr => ∃ n : Nat, ii = .int .i64 n ∧ n ≤ l.length ∧ Hid (∀ j (hj : j < l.length), j < n → Lex.blank (l[j]'hj) = true) ∧ W0 = wr)
    (fun i _ => l.length - (intOf i).toNat)
  case atStart => exact ⟨0, rfl, Nat.zero_le _, Lib.hid (fun j _ hj => absurd hj (by omega)), rfl⟩
  case round =>
    obtain ⟨n, rfl, hn, HN, rfl⟩ := hrel
    have after : (∀ h : n < l.length, Lex.blank (l[n]'h) = false) → Hid ((l.takeWhile Lex.blank).length = n) := fun h => Lib.hid (Lex.tw_at hn HN.out h)
    by_cases hlt : n < l.length
    · have hi1 : (n : Int) < (l.length : Int) := by omega
      obtain ⟨c, hc⟩ : ∃ c, c = l[n]'hlt := ⟨_, rfl⟩
      have hidx : ∀ W, (Instr.index 9 (.string ⟨l.toArray⟩) (.int .i64 (n : Int))).run Tryz.prog W = .ok (.int .u8 c.toNat) W := fun W => by
        rw [hc]; exact index_byte ⟨l.toArray⟩ n (by omega) W
      have HC := Lib.hid hc
      clear hc
      have more : Lex.blank c = true → Hid (∀ j (hj : j < l.length), j < n + 1 → Lex.blank (l[j]'hj) = true) := fun h => Lib.hid (fun j hj hji => by
        rcases Nat.lt_succ_iff_lt_or_eq.1 hji with h' | rfl
        · exact HN.out j hj h'
        · rw [← HC.out]; exact h)
      have k9 : ((c.toNat : Int) == 9) = (c == 9) := byte_is c 9 (by decide)
      have k10 : ((c.toNat : Int) == 10) = (c == 10) := byte_is c 10 (by decide)
      have k13 : ((c.toNat : Int) == 13) = (c == 13) := byte_is c 13 (by decide)
      have k32 : ((c.toNat : Int) == 32) = (c == 32) := byte_is c 32 (by decide)
      have kb : Lex.blank c = (c == 9 || c == 10 || c == 13 || c == 32) := rfl
      cases e9 : (c == 9)
      · rw [e9] at k9 kb
        cases e10 : (c == 10)
        · rw [e10] at k10 kb
          cases e13 : (c == 13)
          · rw [e13] at k13 kb
            cases e32 : (c == 32)
            · rw [e32] at k32 kb
              have HT := after (fun h => by rw [← HC.out]; exact kb)
              have HNE : Hid (c ≠ 10) := Lib.hid (beq_eq_false_iff_ne.1 e10)
              clear after more kb e9 e10 e13 e32
              -- what stands behind the blanks
              by_cases h2 : n + 1 < l.length
              · obtain ⟨d, hd⟩ : ∃ d, d = l[n + 1]'h2 := ⟨_, rfl⟩
                have hidx2 : ∀ W, (Instr.index 9 (.string ⟨l.toArray⟩) (.int .i64 ((n : Int) + 1))).run Tryz.prog W = .ok (.int .u8 d.toNat) W := fun W => by
                  rw [hd]; exact index_byte ⟨l.toArray⟩ (n + 1) (by omega) W
                have HD := Lib.hid hd
                have h2i : ¬ ((l.length : Int) ≤ (n : Int) + 1) := by omega
                have hdr : l.drop n = c :: d :: l.drop (n + 2) := by
                  rw [List.drop_eq_getElem_cons hlt, ← HC.out, List.drop_eq_getElem_cons h2, ← HD.out]
                have HR : Hid (Lex.hasRemark (l.drop n) = (c == 45 && d == 45)) := Lib.hid (by rw [hdr, Lex.hasRemark_two])
                have HP : Hid (Lex.passed l = if Lex.hasRemark (l.drop n) then Lex.up n (Lex.remarkOf (l.drop n)) else .ok n) := Lib.hid (by unfold Lex.passed; rw [HT.out])
                have k45 : ((c.toNat : Int) == 45) = (c == 45) := byte_is c 45 (by decide)
                have j45 : ((d.toNat : Int) == 45) = (d == 45) := byte_is d 45 (by decide)
                clear hd hdr
                cases e45 : (c == 45)
                · rw [e45] at k45
                  have k45n : ((c.toNat : Int) != 45) = true := by rw [bne, k45]; rfl
                  have HF : Hid (Lex.passed l = .ok n) := Lib.hid (by rw [HP.out, HR.out, e45]; rfl)
                  obtain ⟨_, x0, x1, f0, f1⟩ := HX.out
                  clear e45
                  go_wp2
                  refine bodyPost_ret (v := .tuple #[.int .i64 n, .agg #[.int .i64 0, .int .i64 0]]) (by simp [results, Tryz.results32, go_sem, x0, x1]) rfl ?_
                  exact ⟨by rw [HF.out]; rfl, (HB0.out.setCell (p := ⟨w.heap.size, 0, none⟩) (Nat.le_refl _) _).setCell (p := ⟨w.heap.size, 1, none⟩) (Nat.le_refl _) _⟩
                · rw [e45] at k45
                  have k45n : ((c.toNat : Int) != 45) = false := by rw [bne, k45]; rfl
                  cases f45 : (d == 45)
                  · rw [f45] at j45
                    have j45n : ((d.toNat : Int) != 45) = true := by rw [bne, j45]; rfl
                    have HF : Hid (Lex.passed l = .ok n) := Lib.hid (by rw [HP.out, HR.out, e45, f45]; rfl)
                    obtain ⟨_, x0, x1, f0, f1⟩ := HX.out
                    clear e45 f45
                    go_wp2
                    refine bodyPost_ret (v := .tuple #[.int .i64 n, .agg #[.int .i64 0, .int .i64 0]]) (by simp [results, Tryz.results32, go_sem, x0, x1]) rfl ?_
                    exact ⟨by rw [HF.out]; rfl, (HB0.out.setCell (p := ⟨w.heap.size, 0, none⟩) (Nat.le_refl _) _).setCell (p := ⟨w.heap.size, 1, none⟩) (Nat.le_refl _) _⟩
                  · rw [f45] at j45
                    have j45n : ((d.toNat : Int) != 45) = false := by rw [bne, j45]; rfl
                    have HF : Hid (Lex.passed l = Lex.up n (Lex.remarkOf (l.drop n))) := Lib.hid (by rw [HP.out, HR.out, e45, f45]; rfl)
                    clear e45 f45
                    go_wp2_with fail
                    go_loopw [4] (fun ii wr => ∃ m : Nat, ii = .int .i64 m ∧ m ≤ l.length ∧ Hid (Lex.passed l = Lex.up m (Lex.remarkOf (l.drop m))) ∧ Hid (Box2 wr w.heap.size 0 0) ∧ Below w.heap.size w wr)
                      (fun i _ => l.length - (intOf i).toNat)
                    case atStart => exact ⟨n, rfl, hn, HF, HX, HB0.out⟩
                    case round =>
                      obtain ⟨m, rfl, hm, HFm, HXm, hbm⟩ := hrel
                      clear hidx hidx2 hi1
                      by_cases hml : m < l.length
                      · have hm1 : (m : Int) < (l.length : Int) := by omega
                        obtain ⟨x, hx⟩ : ∃ x, x = l[m]'hml := ⟨_, rfl⟩
                        have hidx : ∀ W, (Instr.index 9 (.string ⟨l.toArray⟩) (.int .i64 (m : Int))).run Tryz.prog W = .ok (.int .u8 x.toNat) W := fun W => by
                          rw [hx]; exact index_byte ⟨l.toArray⟩ m (by omega) W
                        have hdm : l.drop m = x :: l.drop (m + 1) := by rw [List.drop_eq_getElem_cons hml, ← hx]
                        have HDM := Lib.hid hdm
                        have x10 : ((x.toNat : Int) == 10) = (x == 10) := byte_is x 10 (by decide)
                        clear hx hdm
                        cases e10 : (x == 10)
                        · rw [e10] at x10
                          have x10n : ((x.toNat : Int) != 10) = true := by rw [bne, x10]; rfl
                          have hx10 : x ≠ 10 := beq_eq_false_iff_ne.1 e10
                          have hsl : ∀ W, (Instr.slice 9 (.string ⟨l.toArray⟩) (some (.int .i64 (m : Int))) none none).run Tryz.prog W = .ok (.string ⟨(l.drop m).toArray⟩) W := fun W => slice_from (W := W) ⟨l.toArray⟩ m (by omega)
                          have HX10 := Lib.hid hx10
                          clear e10 hx10
                          go_wp2_with fail
                          refine (rfirst_walk ⟨(l.drop m).toArray⟩ (by rw [size_list, List.length_drop]; omega) _).mono ?_
                          rintro e w5 ⟨rfl, hb5⟩
                          have hd5 : (⟨(l.drop m).toArray⟩ : ByteArray).data.toList = l.drop m := rfl
                          rw [hd5]
                          have HB5 := Lib.hid (below_next hbm hb5)
                          have HX5 := Lib.hid (HXm.out.keep (B := wr.heap.size) HXm.out.1 hb5)
                          rcases hq : Utf.first (l.drop m) with ⟨p, k⟩
                          have hdu : duo (p, k) = .tuple #[.int .i64 p, .int .i64 k] := rfl
                          rw [hdu]
                          clear hd5 hb5 hdu
                          by_cases hk0 : k = 0
                          · have HE : Hid (Lex.passed l = .error m) := Lib.hid (by
                              rw [HFm.out, HDM.out, Lex.remarkOf_bad HX10.out (by rw [← HDM.out, hq]; exact hk0)]
                              simp [Lex.up])
                            have hkd : ((k : Int) == 0) = true := by rw [beq_iff_eq]; omega
                            obtain ⟨_, x0, x1, f0, f1⟩ := HX5.out
                            clear hq hk0
                            go_wp2
                            refine bodyPost_ret (v := .tuple #[.int .i64 0, .agg #[.int .i64 30, .int .i64 m]]) (by simp [results, Tryz.results32, go_sem, x0, x1]) rfl ?_
                            exact ⟨by rw [HE.out]; rfl, (HB5.out.setCell (p := ⟨w.heap.size, 0, none⟩) (Nat.le_refl _) _).setCell (p := ⟨w.heap.size, 1, none⟩) (Nat.le_refl _) _⟩
                          · have hkd : ((k : Int) == 0) = false := by rw [beq_eq_false_iff_ne]; omega
                            have hkl : m + k ≤ l.length := by
                              have := (Utf.first_some hq hk0).2.2.2
                              rw [List.length_drop] at this; omega
                            have HE : Hid (Lex.passed l = Lex.up (m + k) (Lex.remarkOf (l.drop (m + k)))) := Lib.hid (by
                              have h1 := Lex.remarkOf_step (c := x) (r := l.drop (m + 1)) HX10.out (by rw [← HDM.out]; exact hq) hk0
                              rw [← HDM.out, List.drop_drop] at h1
                              rw [HFm.out, h1, Lex.up_up])
                            have hkp : 1 ≤ k := by omega
                            clear hq hk0
                            go_wp2
                            go_roundw
                            case rel => exact ⟨m + k, by go_num, hkl, HE, HX5, HB5.out⟩
                            case measure => simp [intOf]; omega
                        · rw [e10] at x10
                          have x10n : ((x.toNat : Int) != 10) = false := by rw [bne, x10]; rfl
                          have HE : Hid (Lex.passed l = .ok m) := Lib.hid (by
                            rw [HFm.out, HDM.out, beq_iff_eq.1 e10, Lex.remarkOf_line]; simp [Lex.up])
                          obtain ⟨_, x0, x1, f0, f1⟩ := HXm.out
                          clear e10
                          go_wp2
                          refine bodyPost_ret (v := .tuple #[.int .i64 m, .agg #[.int .i64 0, .int .i64 0]]) (by simp [results, Tryz.results32, go_sem, x0, x1]) rfl ?_
                          exact ⟨by rw [HE.out]; rfl, (hbm.setCell (p := ⟨w.heap.size, 0, none⟩) (Nat.le_refl _) _).setCell (p := ⟨w.heap.size, 1, none⟩) (Nat.le_refl _) _⟩
                      · have hm1 : ¬ (m : Int) < (l.length : Int) := by omega
                        have HE : Hid (Lex.passed l = .ok m) := Lib.hid (by
                          rw [HFm.out, List.drop_eq_nil_of_le (by omega), Lex.remarkOf_nil]; simp [Lex.up])
                        obtain ⟨_, x0, x1, f0, f1⟩ := HXm.out
                        go_wp2
                        refine bodyPost_ret (v := .tuple #[.int .i64 m, .agg #[.int .i64 0, .int .i64 0]]) (by simp [results, Tryz.results32, go_sem, x0, x1]) rfl ?_
                        exact ⟨by rw [HE.out]; rfl, (hbm.setCell (p := ⟨w.heap.size, 0, none⟩) (Nat.le_refl _) _).setCell (p := ⟨w.heap.size, 1, none⟩) (Nat.le_refl _) _⟩
              · have h2i : (l.length : Int) ≤ (n : Int) + 1 := by omega
                have HF : Hid (Lex.passed l = .ok n) := Lib.hid (by
                  unfold Lex.passed; rw [HT.out, Lex.hasRemark_short (by rw [List.length_drop]; omega)]; rfl)
                obtain ⟨_, x0, x1, f0, f1⟩ := HX.out
                go_wp2
                refine bodyPost_ret (v := .tuple #[.int .i64 n, .agg #[.int .i64 0, .int .i64 0]]) (by simp [results, Tryz.results32, go_sem, x0, x1]) rfl ?_
                exact ⟨by rw [HF.out]; rfl, (HB0.out.setCell (p := ⟨w.heap.size, 0, none⟩) (Nat.le_refl _) _).setCell (p := ⟨w.heap.size, 1, none⟩) (Nat.le_refl _) _⟩
            · rw [e32] at k32 kb
              have HM := more kb
              clear after more kb e9 e10 e13 e32
              go_wp2
              go_roundw
              case rel => exact ⟨n + 1, by go_num, by omega, HM, trivial⟩
              case measure => simp [intOf]; omega
          · rw [e13] at k13 kb
            have HM := more (by rw [kb]; rfl)
            clear after more kb e9 e10 e13
            go_wp2
            go_roundw
            case rel => exact ⟨n + 1, by go_num, by omega, HM, trivial⟩
            case measure => simp [intOf]; omega
        · rw [e10] at k10 kb
          have HM := more (by rw [kb]; rfl)
          clear after more kb e9 e10
          go_wp2
          go_roundw
          case rel => exact ⟨n + 1, by go_num, by omega, HM, trivial⟩
          case measure => simp [intOf]; omega
      · rw [e9] at k9 kb
        have HM := more (by rw [kb]; rfl)
        clear after more kb e9
        go_wp2
        go_roundw
        case rel => exact ⟨n + 1, by go_num, by omega, HM, trivial⟩
        case measure => simp [intOf]; omega
    · have hi1 : ¬ (n : Int) < (l.length : Int) := by omega
      have h2i : (l.length : Int) ≤ (n : Int) + 1 := by omega
      have HT := after (fun h => absurd h hlt)
      have HF : Hid (Lex.passed l = .ok n) := Lib.hid (by
        unfold Lex.passed; rw [HT.out, Lex.hasRemark_short (by rw [List.length_drop]; omega)]; rfl)
      obtain ⟨_, x0, x1, f0, f1⟩ := HX.out
      clear after
      go_wp2
      refine bodyPost_ret (v := .tuple #[.int .i64 n, .agg #[.int .i64 0, .int .i64 0]]) (by simp [results, Tryz.results32, go_sem, x0, x1]) rfl ?_
      exact ⟨by rw [HF.out]; rfl, (HB0.out.setCell (p := ⟨w.heap.size, 0, none⟩) (Nat.le_refl _) _).setCell (p := ⟨w.heap.size, 1, none⟩) (Nat.le_refl _) _⟩
end Go.Proofs.YtebphmkefpaeaaaGreatDoor

/- The document's written of layer 6: how a token is written. -/
namespace Lex
/-- A quoted text, written so far. -/
def sow (l : List UInt8) (n : Nat) : List UInt8 := 34 :: (l.take n).flatMap escB

theorem escB_len (c : UInt8) : (escB c).length ≤ 2 := by
  unfold escB; repeat (split; simp)
  simp

theorem fm_len : ∀ l : List UInt8, (l.flatMap escB).length ≤ 2 * l.length
  | [] => by simp
  | c :: r => by
    have := escB_len c
    have := fm_len r
    rw [List.flatMap_cons, List.length_append, List.length_cons]; omega

theorem sow_len (l : List UInt8) (n : Nat) : (sow l n).length ≤ 1 + 2 * n := by
  have h1 := fm_len (l.take n)
  have h2 := List.length_take_le n l
  unfold sow; rw [List.length_cons]; omega

theorem sow_next {l : List UInt8} {n : Nat} (h : n < l.length) : sow l (n + 1) = sow l n ++ escB (l[n]'h) := by
  unfold sow
  rw [List.take_succ_eq_append_getElem h, List.flatMap_append]; simp
end Lex
namespace Go.Proofs.YtebphmkefpaeaaaGreatDoor
open Go.RowKit
set_option linter.unusedVariables false

/-- A token, as Go hands it over. -/
def tokV (t : Lex.Tok) (at_ : Int) : Value := .agg #[.int .i64 t.kind, .string ⟨t.text.toArray⟩, .int .i64 at_]

/-- A token in a box. -/
def BoxT (W : World) (g : Nat) (k : Int) (l : List UInt8) : Prop := W.cell? ⟨g, 0, none⟩ = some (.int .i64 k) ∧ W.cell? ⟨g, 1, none⟩ = some (.string ⟨l.toArray⟩)

set_option maxRecDepth 100000 in
set_option maxHeartbeats 8000000 in
theorem lwritten_walk (k : Int) (l : List UInt8) (hl : l.length ≤ 1000000) (a : Int) (w : World) :
    Calls Tryz.prog 39 #[.agg #[.int .i64 k, .string ⟨l.toArray⟩, .int .i64 a]] w fun e w' => e = .returned (.string ⟨(Lex.written ⟨k, l⟩).toArray⟩) ∧ Below w.heap.size w w' := by
  have hz : (⟨l.toArray⟩ : ByteArray).size = l.length := size_list _
  have hb0 := below_one w (.cells #[.int .i64 k, .string ⟨l.toArray⟩, .int .i64 a] 32)
  have HB0 := Lib.hid hb0
  have HX : Hid (BoxT (w.alloc (.cells #[.int .i64 k, .string ⟨l.toArray⟩, .int .i64 a] 32)) w.heap.size k l) := Lib.hid ⟨by simp [go_sem], by simp [go_sem]⟩
  clear hb0
  by_cases h4 : k = 4
  · subst h4
    go_enter Tryz.func39, Tryz.ntmps39
    go_wp2_with fail
    generalize hW : w.alloc (.cells #[.int .i64 4, .string ⟨l.toArray⟩, .int .i64 a] 32) = W0 at HX HB0 ⊢
    clear hW
    obtain ⟨x0, x1⟩ := HX.out
    go_wp2_with fail
    have hsow : ∀ n, (Lex.sow l n).length ≤ 1 + 2 * n := Lex.sow_len l
    go_loopw [3, 4] (fun oo ii wr => ∃ n : Nat, ii = .int .i64 n ∧ n ≤ l.length ∧ oo = .string ⟨(Lex.sow l n).toArray⟩ ∧ W0 = wr)
      (fun _ i _ => l.length - (intOf i).toNat)
    case atStart => exact ⟨0, rfl, Nat.zero_le _, rfl, rfl⟩
    case round =>
      obtain ⟨n, rfl, hn, rfl, rfl⟩ := hrel
      have hsz := hsow n
      have hsz2 : (⟨(Lex.sow l n).toArray⟩ : ByteArray).size = (Lex.sow l n).length := size_list _
      by_cases hlt : n < l.length
      · have hi1 : (n : Int) < (l.length : Int) := by omega
        obtain ⟨c, hc⟩ : ∃ c, c = l[n]'hlt := ⟨_, rfl⟩
        have hidx : ∀ W, (Instr.index 9 (.string ⟨l.toArray⟩) (.int .i64 (n : Int))).run Tryz.prog W = .ok (.int .u8 c.toNat) W := fun W => by
          rw [hc]; exact index_byte ⟨l.toArray⟩ n (by omega) W
        have hsl : ∀ W, (Instr.slice 9 (.string ⟨l.toArray⟩) (some (.int .i64 (n : Int))) (some (.int .i64 ((n : Int) + 1))) none).run Tryz.prog W = .ok (.string ⟨([c] : List UInt8).toArray⟩) W := fun W => by
          rw [slice_mid ⟨l.toArray⟩ n ((n : Int) + 1) (by omega) (by omega) W]
          have e : ((l.drop n).take (((n : Int) + 1).toNat - n)) = [c] := by
            rw [show ((n : Int) + 1).toNat - n = 1 by omega, List.drop_eq_getElem_cons hlt, hc]; rfl
          exact congrArg (fun b => Result.ok (Value.string ⟨List.toArray b⟩) W) e
        have HS : Hid (Lex.sow l (n + 1) = Lex.sow l n ++ Lex.escB c) := Lib.hid (by rw [hc]; exact Lex.sow_next hlt)
        clear hc
        have k10 : ((c.toNat : Int) == 10) = (c == 10) := byte_is c 10 (by decide)
        have k9 : ((c.toNat : Int) == 9) = (c == 9) := byte_is c 9 (by decide)
        have k34 : ((c.toNat : Int) == 34) = (c == 34) := byte_is c 34 (by decide)
        have k92 : ((c.toNat : Int) == 92) = (c == 92) := byte_is c 92 (by decide)
        cases e10 : c == 10
        · rw [e10] at k10
          cases e9 : c == 9
          · rw [e9] at k9
            cases e34 : c == 34
            · rw [e34] at k34
              cases e92 : c == 92
              · rw [e92] at k92
                have HE : Hid (Lex.escB c = [c]) := Lib.hid (by unfold Lex.escB; rw [if_neg (by simpa using e10), if_neg (by simpa using e9), if_neg (by simp at e34 e92; simp [e34, e92])])
                clear e10 e9 e34 e92
                go_wp2
                go_roundw
                case rel => exact ⟨n + 1, by go_num, by omega, by rw [HS.out, HE.out, ← ba_append], trivial⟩
                case measure => simp [intOf]; omega
              · rw [e92] at k92
                have HE : Hid (Lex.escB c = [92] ++ [c]) := Lib.hid (by unfold Lex.escB; rw [if_neg (by simpa using e10), if_neg (by simpa using e9), if_pos (by simp at e92; simp [e92])]; rfl)
                clear e10 e9 e34 e92
                go_wp2
                go_roundw
                case rel => exact ⟨n + 1, by go_num, by omega, by rw [HS.out, HE.out, ← List.append_assoc, ← ba_append, ← ba_append], trivial⟩
                case measure => simp [intOf]; omega
            · rw [e34] at k34
              have HE : Hid (Lex.escB c = [92] ++ [c]) := Lib.hid (by unfold Lex.escB; rw [if_neg (by simpa using e10), if_neg (by simpa using e9), if_pos (by simp at e34; simp [e34])]; rfl)
              clear e10 e9 e34 k92
              go_wp2
              go_roundw
              case rel => exact ⟨n + 1, by go_num, by omega, by rw [HS.out, HE.out, ← List.append_assoc, ← ba_append, ← ba_append], trivial⟩
              case measure => simp [intOf]; omega
          · rw [e9] at k9
            have HE : Hid (Lex.escB c = [92, 116]) := Lib.hid (by unfold Lex.escB; rw [if_neg (by simpa using e10), if_pos (by simpa using e9)])
            clear e10 e9 k34 k92
            go_wp2
            go_roundw
            case rel => exact ⟨n + 1, by go_num, by omega, by rw [HS.out, HE.out, ← ba_append], trivial⟩
            case measure => simp [intOf]; omega
        · rw [e10] at k10
          have HE : Hid (Lex.escB c = [92, 110]) := Lib.hid (by unfold Lex.escB; rw [if_pos (by simpa using e10)])
          clear e10 k9 k34 k92
          go_wp2
          go_roundw
          case rel => exact ⟨n + 1, by go_num, by omega, by rw [HS.out, HE.out, ← ba_append], trivial⟩
          case measure => simp [intOf]; omega
      · have hi1 : ¬ (n : Int) < (l.length : Int) := by omega
        have HE : Hid (Lex.written ⟨4, l⟩ = Lex.sow l n ++ [34]) := Lib.hid (by
          unfold Lex.written Lex.sow; rw [if_pos rfl, List.take_of_length_le (by omega)]; rfl)
        go_wp2
        go_ret
        exact ⟨by rw [HE.out, ← ba_append]; rfl, HB0.out⟩
  · go_enter Tryz.func39, Tryz.ntmps39
    have hk : (k == 4) = false := by simp [h4]
    go_wp2_with fail
    generalize hW : w.alloc (.cells #[.int .i64 k, .string ⟨l.toArray⟩, .int .i64 a] 32) = W0 at HX HB0 ⊢
    clear hW
    obtain ⟨x0, x1⟩ := HX.out
    go_wp2_with fail
    have HE : Hid (Lex.written ⟨k, l⟩ = l) := Lib.hid (by unfold Lex.written; rw [if_neg h4])
    go_ret
    exact ⟨by rw [HE.out]; rfl, HB0.out⟩
end Go.Proofs.YtebphmkefpaeaaaGreatDoor

/- Slices of tokens: what lies in them; slices of tokens that came in. -/
namespace Go.Proofs.YtebphmkefpaeaaaGreatDoor
open Go.RowKit
set_option linter.unusedVariables false
set_option maxRecDepth 100000

/-- A token and the place that it names. -/
structure Tk where
  t : Lex.Tok
  at_ : Int
deriving DecidableEq

/-- A token in memory, from a cell on. -/
def TkAt (w : World) (g o : Nat) (b : Tk) : Prop :=
  w.cell? ⟨g, o, none⟩ = some (.int .i64 b.t.kind) ∧ w.cell? ⟨g, o + 1, none⟩ = some (.string ⟨b.t.text.toArray⟩) ∧ w.cell? ⟨g, o + 2, none⟩ = some (.int .i64 b.at_)

theorem TkAt.keep {w w' : World} {g o B : Nat} {b : Tk} (h : TkAt w g o b) (hg : g < B) (hb : Below B w w') : TkAt w' g o b := by
  obtain ⟨h0, h1, h2⟩ := h
  exact ⟨(hb.cell (p := ⟨g, o, none⟩) hg).trans h0, (hb.cell (p := ⟨g, o + 1, none⟩) hg).trans h1, (hb.cell (p := ⟨g, o + 2, none⟩) hg).trans h2⟩

/-- The cells of a slice of tokens, in blocks below B. -/
def Tks (w : World) (B : Nat) (A : Option Addr) (l : List Tk) : Prop :=
  l.length = 0 ∨ ∃ g off, A = some ⟨g, off, none⟩ ∧ g < B ∧ ∀ i (h : i < l.length), TkAt w g (off + i * 3) (l[i]'h)

theorem Tks.keep {w w' : World} {B B' : Nat} {A : Option Addr} {l : List Tk} (h : Tks w B A l) (hb : Below B' w w') (hB : B ≤ B') : Tks w' B A l := by
  rcases h with h | ⟨g, off, hA, hlt, hc⟩
  · exact Or.inl h
  · exact Or.inr ⟨g, off, hA, hlt, fun i hi => (hc i hi).keep (Nat.lt_of_lt_of_le hlt hB) hb⟩

theorem Tks.more {w : World} {B B' : Nat} {A : Option Addr} {l : List Tk} (h : Tks w B A l) (hB : B ≤ B') : Tks w B' A l := by
  rcases h with h | ⟨g, off, hA, hlt, hc⟩
  · exact Or.inl h
  · exact Or.inr ⟨g, off, hA, Nat.lt_of_lt_of_le hlt hB, hc⟩

theorem Tks.next {w w' : World} {A : Option Addr} {l : List Tk} (h : Tks w w.heap.size A l) (hb : Below w.heap.size w w') : Tks w' w'.heap.size A l :=
  (h.keep hb (Nat.le_refl _)).more hb.size

theorem add_plain3 (b off k : Nat) : (⟨b, off, none⟩ : Addr).add k = ⟨b, off + k, none⟩ := by unfold Addr.add; split <;> simp_all

section
variable {H : Type} {enc : TypeId × Value → H} {W : World} {base fuel : Nat} {spare : Nat → Bool} {held : Bool} {cs : List Value} {x : DataW H × List MemPlace}

/-- A token's cells. -/
theorem tok_cells (h : DataW.trod enc Tryz.prog W base spare held fuel 32 cs = some x) :
    ∃ v : Tk, cs = [.int .i64 v.t.kind, .string ⟨v.t.text.toArray⟩, .int .i64 v.at_] ∧ v.t.text.length ≤ 9223372036854775807 := by
  obtain ⟨xs, n, _, _, hlen, hxl, hf⟩ := DataW.trod_struct Tryz.underlying32 h
  have hC : Tryz.prog.cellsOf 32 = 3 := by kernel_rfl
  have c1 : Tryz.prog.cellsOf 3 = 1 := by kernel_rfl
  have c9 : Tryz.prog.cellsOf 9 = 1 := by kernel_rfl
  rw [hC] at hlen
  match cs, hlen with
  | [a0, a1, a2], _ =>
    have f0 := hf 0 _ rfl
    have f1 := hf 1 _ rfl
    have f2 := hf 2 _ rfl
    have hz : xs.length = 3 := hxl
    change DataW.trod enc _ W base spare held n 3 (([a0, a1, a2].drop 0).take (Tryz.prog.cellsOf 3)) = _ at f0
    change DataW.trod enc _ W base spare held n 9 (([a0, a1, a2].drop 1).take (Tryz.prog.cellsOf 9)) = _ at f1
    change DataW.trod enc _ W base spare held n 3 (([a0, a1, a2].drop 2).take (Tryz.prog.cellsOf 3)) = _ at f2
    rw [c1, List.getElem?_eq_getElem (by omega)] at f0 f2
    rw [c9, List.getElem?_eq_getElem (by omega)] at f1
    obtain ⟨b0, hb0, _, _⟩ := DataW.trod_int Tryz.underlying3 f0
    obtain ⟨b1, hb1, _, hml⟩ := DataW.trod_string Tryz.underlying9 f1
    obtain ⟨b2, hb2, _, _⟩ := DataW.trod_int Tryz.underlying3 f2
    simp at hb0 hb1 hb2
    subst hb0 hb1 hb2
    exact ⟨⟨⟨b0, b1.data.toList⟩, b2⟩, rfl, by unfold maxLen at hml; exact hml⟩

/-- A slice of tokens that came in. -/
theorem tks_trod (h : DataW.trod enc Tryz.prog W base (fun _ => true) held fuel 24 cs = some x) :
    ∃ (A : Option Addr) (l : List Tk) (c : Nat), cs = [.slice A l.length c] ∧ Tks W W.heap.size A l ∧ l.length ≤ 9223372036854775807 ∧ l.length ≤ c ∧ ∀ b ∈ l, b.t.text.length ≤ 9223372036854775807 := by
  rcases Go.Deep.open_slice Tryz.underlying24 h with ⟨hcs, _⟩ | ⟨a, len, cap, m, n, D, Pl, hcs, hb, hl, hm, hmm, hx, hi⟩
  · exact ⟨none, [], 0, hcs, Or.inl rfl, Nat.zero_le _, Nat.zero_le _, fun b hb => by cases hb⟩
  · have hC : Tryz.prog.cellsOf 32 = 3 := by kernel_rfl
    unfold maxLen at hm
    have hmc : m = cap := by simpa using hmm
    subst hmc
    have hv : ∀ i, ∃ u : Tk, i < m → W.cell? (a.add (i * 3 + 0)) = some (.int .i64 u.t.kind) ∧ W.cell? (a.add (i * 3 + 1)) = some (.string ⟨u.t.text.toArray⟩) ∧ W.cell? (a.add (i * 3 + 2)) = some (.int .i64 u.at_) ∧ u.t.text.length ≤ 9223372036854775807 := by
      intro i
      by_cases him : i < m
      · obtain ⟨cs', hc, ht⟩ := hi i him
        rw [hC] at hc
        obtain ⟨b, rfl, hml⟩ := tok_cells ht
        obtain ⟨_, hcl, hat⟩ := World.cells?_some hc
        refine ⟨b, fun _ => ⟨?_, ?_, ?_, hml⟩⟩
        · rw [← Go.Deep.add_add]; exact hat 0 (by omega)
        · rw [← Go.Deep.add_add]; exact hat 1 (by omega)
        · rw [← Go.Deep.add_add]; exact hat 2 (by omega)
      · exact ⟨⟨⟨0, []⟩, 0⟩, fun h => absurd h him⟩
    let f := fun i => (hv i).choose
    have hf2 : ∀ i, i < m → W.cell? (a.add (i * 3 + 0)) = some (.int .i64 (f i).t.kind) ∧ W.cell? (a.add (i * 3 + 1)) = some (.string ⟨(f i).t.text.toArray⟩) ∧ W.cell? (a.add (i * 3 + 2)) = some (.int .i64 (f i).at_) ∧ (f i).t.text.length ≤ 9223372036854775807 := fun i => (hv i).choose_spec
    have hln : ((List.range len).map f).length = len := by simp
    refine ⟨some a, (List.range len).map f, m, by rw [hln]; exact hcs, ?_, by rw [hln]; omega, by rw [hln]; exact hl, fun b hb => by
      obtain ⟨i, hi, rfl⟩ := List.mem_map.1 hb
      exact (hf2 i (by have := List.mem_range.1 hi; omega)).2.2.2⟩
    by_cases h0 : len = 0
    · exact Or.inl (by simp [h0])
    · obtain ⟨b, off, spot⟩ := a
      have h1 := (hf2 0 (by omega)).1
      have hspot : spot = none := by simpa [Addr.add] using World.cell?_spot h1
      subst hspot
      have hplain : ∀ k, (⟨b, off, none⟩ : Addr).add k = ⟨b, off + k, none⟩ := fun k => add_plain3 b off k
      refine Or.inr ⟨b, off, rfl, ?_, fun i hi' => ?_⟩
      · rw [hplain] at h1
        rcases Nat.lt_or_ge b W.heap.size with h' | h'
        · exact h'
        · simp [World.cell?, Array.getElem?_eq_none h'] at h1
      · have hin : i < len := by simpa using hi'
        obtain ⟨g0, g1, g2, _⟩ := hf2 i (by omega)
        have := And.intro g0 (And.intro g1 g2)
        simp only [hplain] at this
        simp only [List.getElem_map, List.getElem_range]
        simpa [TkAt, Nat.add_assoc] using this
end

theorem tks_open {H : Type} {enc : TypeId × Value → H} {W : World} {base : Nat} {held : Bool} {A : Option Addr} {n c : Nat} {d : DataW H} {p : List MemPlace}
    (h : DataW.Trod enc Tryz.prog W base (fun _ => true) held 24 (.slice A n c) d p) :
    ∃ l : List Tk, n = l.length ∧ Tks W W.heap.size A l ∧ l.length ≤ 9223372036854775807 ∧ l.length ≤ c ∧ ∀ b ∈ l, b.t.text.length ≤ 9223372036854775807 := by
  obtain ⟨fuel, hf⟩ := h
  obtain ⟨A', l, c', hcs, h1, h2, h3, h4⟩ := tks_trod hf
  simp [Value.cells] at hcs
  obtain ⟨rfl, rfl, rfl⟩ := hcs
  exact ⟨l, rfl, h1, h2, h3, h4⟩
end Go.Proofs.YtebphmkefpaeaaaGreatDoor

/- Rows of tokens that a call made itself. -/
namespace Go.Proofs.YtebphmkefpaeaaaGreatDoor
open Go.RowKit
set_option linter.unusedVariables false

/-- The cells of tokens. -/
def cellsT (l : List Tk) : List Value := l.flatMap fun b => [.int .i64 b.t.kind, .string ⟨b.t.text.toArray⟩, .int .i64 b.at_]

theorem cellsT_len (l : List Tk) : (cellsT l).length = l.length * 3 := by
  induction l with
  | nil => rfl
  | cons b r ih => simp only [cellsT, List.flatMap_cons, List.length_append, List.length_cons, List.length_nil] at ih ⊢; omega

theorem cellsT_snoc (l : List Tk) (b : Tk) : cellsT (l ++ [b]) = cellsT l ++ [.int .i64 b.t.kind, .string ⟨b.t.text.toArray⟩, .int .i64 b.at_] := by simp [cellsT]

theorem cellsT_at : ∀ (l : List Tk) (i : Nat) (h : i < l.length), (cellsT l)[i * 3]? = some (.int .i64 (l[i]'h).t.kind) ∧ (cellsT l)[i * 3 + 1]? = some (.string ⟨(l[i]'h).t.text.toArray⟩) ∧ (cellsT l)[i * 3 + 2]? = some (.int .i64 (l[i]'h).at_)
  | [], i, h => by simp at h
  | b :: r, 0, _ => ⟨rfl, rfl, rfl⟩
  | b :: r, i + 1, h => by
    have ih := cellsT_at r i (by simpa using h)
    have e : ∀ k, (cellsT (b :: r))[(i + 1) * 3 + k]? = (cellsT r)[i * 3 + k]? := fun k => by
      rw [show (i + 1) * 3 + k = i * 3 + k + 3 from by omega]
      simp [cellsT]
    have e0 := e 0
    simp only [Nat.add_zero] at e0
    rw [e0, e 1, e 2]
    exact ih

theorem tks_of_own {w : World} {B : Nat} {v : Value} {l : List Tk} (h : w.ownsRow B 32 3 v l.length (cellsT l)) : ∃ A cap, v = .slice A l.length cap ∧ l.length ≤ cap ∧ Tks w w.heap.size A l := by
  rcases h.2 with ⟨rfl, h0⟩ | ⟨g, cap, cur, rfl, hB, hh, hc, _⟩
  · exact ⟨none, 0, by rw [h0], by omega, Or.inl h0⟩
  · refine ⟨_, _, rfl, hc, Or.inr ⟨g, 0, rfl, (h.lt g rfl).2, fun i hi => ?_⟩⟩
    obtain ⟨c0, c1, c2⟩ := cellsT_at l i hi
    rw [Nat.zero_add]
    exact ⟨(h.cellAt _ (by omega)).trans c0, (h.cellAt _ (by omega)).trans c1, (h.cellAt _ (by omega)).trans c2⟩

theorem news3 (W : World) (a b : Int) (s : ByteArray) (g : Nat) (hg : g = W.heap.size) : ∀ j u, ([.int .i64 a, .string s, .int .i64 b] : List Value)[j]? = some u →
    (W.alloc (.cells #[.int .i64 a, .string s, .int .i64 b] 32)).cell? ((⟨g, 0, none⟩ : Addr).add j) = some u := by
  subst hg
  exact World.news_of_block (heap_alloc_new W _)

theorem one3 {a b : Int} {s : ByteArray} : ∀ u ∈ ([.int .i64 a, .string s, .int .i64 b] : List Value), u.oneCell' = true := by
  intro u hu
  simp at hu
  rcases hu with rfl | rfl | rfl <;> rfl
theorem own_base {w : World} {B B' : Nat} {e : TypeId} {size : Nat} {v : Value} {n : Nat} {xs : List Value} (h : w.ownsRow B e size v n xs) (hB : B' ≤ B) : w.ownsRow B' e size v n xs := by
  obtain ⟨h1, h2⟩ := h
  refine ⟨h1, ?_⟩
  rcases h2 with h2 | ⟨g, cap, cur, r1, r2, r⟩
  · exact Or.inl h2
  · exact Or.inr ⟨g, cap, cur, r1, Nat.le_trans hB r2, r⟩

theorem own_below {w w' : World} {B : Nat} {e : TypeId} {size : Nat} {v : Value} {n : Nat} {xs : List Value} (h : w.ownsRow B e size v n xs) (hb : Below w.heap.size w w') : w'.ownsRow B e size v n xs :=
  h.kept (grown_of_below hb (Nat.le_refl _) none) (by
    rcases hq : v.ownBlock with _ | x
    · exact Or.inl rfl
    · exact Or.inr (by simp))
end Go.Proofs.YtebphmkefpaeaaaGreatDoor

/- append onto a row that the call owns, of a slice that may be nil. -/
namespace Go.Proofs.YtebphmkefpaeaaaGreatDoor
open Go.RowKit
set_option linter.unusedVariables false

theorem wpList_append_any {P : Program} (w : World) {ops : Array Oper} {rest : List Oper} {o : Oper} {a : Act} {Q : Exit → Act → World → Prop} (hgd : Region.wanted o (yielded ops a.tmps) = true) (s x : Operand) (t : TypeId)
    (ho : o.op = .call { callee := .builtin .append, args := #[s, x], argTypes := #[t, t] })
    (base : Nat) (e : TypeId) (i : TypeInfo) (z : Value) (size bytes : Nat) (ht : P.underlying t = some (.slice e)) (hi : P.info? e = some i) (hz : i.zero = some z)
    (hsize : i.size = size) (hby : i.bytes = bytes) (hzs : z.cells.size = size) (hsz : 0 < size)
    (v : Value) (n : Nat) (xs : List Value) (hs : a.eval s = v) (hown : w.ownsRow base e size v n xs)
    (A : Option Addr) (m c : Nat) (news : List Value) (hx : a.eval x = .slice A m c) (hA : A = none → m = 0 ∧ c = 0) (hl : news.length = m * size)
    (hnews : ∀ ad, A = some ad → ∀ j u, news[j]? = some u → w.cell? (ad.add j) = some u) (h1 : ∀ u ∈ news, u.oneCell' = true)
    (h63 : n + m ≤ maxLen) (hbytes : (n + m) * bytes ≤ 140737488355328) (hbase : base ≤ w.heap.size)
    (h : ∀ v' w', w'.ownsRow base e size v' (n + m) (xs ++ news) → Below base w w' → wpList P ops Q rest (a.put o.dst v') w') : wpList P ops Q (o :: rest) a w := by
  refine wpList_step fun K hK => ?_
  rw [if_pos hgd]
  match A, hA, hnews, hx with
  | some ad, _, hnews, hx =>
    exact wp_append_own w s x t ho base e i z size bytes ht hi hz hsize hby hzs hsz v n xs hs hown ad m c news hx hl (hnews ad rfl) h1 h63 hbytes hbase
      fun v' w' h2 h3 _ => hK _ _ (h v' w' h2 ((Below.refl _ _).grown h3 hbase (fun k hk => (hown.lt k hk).1)))
  | none, hA, _, hx =>
    obtain ⟨rfl, rfl⟩ := hA rfl
    obtain rfl : news = [] := List.eq_nil_of_length_eq_zero (by rw [hl, Nat.zero_mul])
    have hr := run_append_owned_none (P := P) (w := w) base t o.type e i size ht hi v n xs hown
    unfold Oper.wp execOp
    simp only [ho, resolve, invoke, builtin, Sem.run_bind, Sem.run_pure, Result.andThen_ok, List.map_toArray, List.map_cons, List.map_nil, hs, hx, hr]
    exact hK _ _ (h v w (by rw [List.append_nil]; exact hown) (Below.refl _ _))
end Go.Proofs.YtebphmkefpaeaaaGreatDoor

/- The document's Same of layer 6: are two slices of tokens the same, with or without the places? -/
namespace Go.Proofs.YtebphmkefpaeaaaGreatDoor
open Go.RowKit
set_option linter.unusedVariables false

/-- What is compared. -/
def Tk.key (p : Bool) (x : Tk) : Lex.Tok × Int := (x.t, if p then x.at_ else 0)
def sameT (p : Bool) (l m : List Tk) : Bool := decide (l.map (Tk.key p) = m.map (Tk.key p))

theorem sameT_off {p : Bool} {l m : List Tk} {i : Nat} (hl : l.length = m.length) (hi : i < l.length) (h : (l[i]'hi).key p ≠ (m[i]'(by omega)).key p) : sameT p l m = false :=
  decide_eq_false (fun e => h (by
    have e1 : (l.map (Tk.key p))[i]'(by simpa using hi) = (m.map (Tk.key p))[i]'(by simp; omega) := by simp only [e]
    simpa using e1))

theorem sameT_all {p : Bool} {l m : List Tk} (hl : l.length = m.length) (h : ∀ j (hj : j < l.length), (l[j]'hj).key p = (m[j]'(by omega)).key p) : sameT p l m = true :=
  decide_eq_true (List.ext_getElem (by simpa using hl) (fun j h1 _ => by
    have := h j (by simpa using h1)
    simpa using this))

set_option maxRecDepth 100000 in
set_option maxHeartbeats 4000000 in
theorem tsame_walk (A B : Option Addr) (ca cb : Nat) (l m : List Tk) (p : Bool) (w : World) (hA : Tks w w.heap.size A l) (hB : Tks w w.heap.size B m) (hll : l.length ≤ 9223372036854775806) :
    Calls Tryz.prog 21 #[.slice A l.length ca, .slice B m.length cb, .bool p] w fun e w' => e = .returned (.bool (sameT p l m)) ∧ Below w.heap.size w w' := by
  have HA := Lib.hid hA
  have HB := Lib.hid hB
  clear hA hB
  by_cases hlm : l.length = m.length
  · have hlq : ((l.length : Int) == (m.length : Int)) = true := by rw [beq_iff_eq]; omega
    have hlm2 : (m.length : Int) = (l.length : Int) := by omega
    cases p
    · go_enter Tryz.func21, Tryz.ntmps21
      go_wp2_with fail
      go_loopw [7] (fun ii wr => ∃ i : Nat, ii = .int .i64 i ∧ i ≤ l.length ∧ Hid (∀ j (hj : j < l.length), j < i → (l[j]'hj).key false = (m[j]'(by omega)).key false) ∧ Below w.heap.size w wr)
        (fun i _ => l.length - (intOf i).toNat)
      case atStart => exact ⟨0, rfl, Nat.zero_le _, Lib.hid (fun j _ hj => absurd hj (by omega)), Below.refl _ _⟩
      case round =>
        obtain ⟨i, rfl, hi, HN, hb⟩ := hrel
        by_cases hlt : i < l.length
        · rcases HA.out.keep hb (Nat.le_refl _) with h0 | ⟨g, off, rfl, hg, hc⟩
          · omega
          · rcases HB.out.keep hb (Nat.le_refl _) with h0 | ⟨g', off', rfl, hg', hc'⟩
            · omega
            · obtain ⟨p0, p1, p2⟩ := hc i hlt
              obtain ⟨q0, q1, q2⟩ := hc' i (by omega)
              obtain ⟨x, hx⟩ : ∃ x, x = l[i] := ⟨_, rfl⟩
              obtain ⟨y, hy⟩ : ∃ y, y = m[i]'(by omega) := ⟨_, rfl⟩
              rw [← hx] at p0 p1 p2
              rw [← hy] at q0 q1 q2
              have HX := Lib.hid hx.symm
              have HY := Lib.hid hy.symm
              have hi1 : (i : Int) < (l.length : Int) := by omega
              have hi2 : (i : Int) < (m.length : Int) := by omega
              clear hx hy hc hc'
              have HO : Hid (x.key false ≠ y.key false → sameT false l m = false) := Lib.hid (fun h => sameT_off hlm hlt (by rw [HX.out, HY.out]; exact h))
              cases h0 : (x.t.kind == y.t.kind)
              · have HC : Hid (sameT false l m = false) := Lib.hid (HO.out (fun h => by have e : x.t = y.t := congrArg Prod.fst h; simp [e] at h0))
                have n0 : (x.t.kind != y.t.kind) = true := by unfold bne; rw [h0]; rfl
                go_wp2_with fail
                go_quiet (fail)
                go_wp2
                go_ret
                exact ⟨by rw [HC.out]; rfl, below_drewN hb _⟩
              · have n0 : (x.t.kind != y.t.kind) = false := by unfold bne; rw [h0]; rfl
                cases h1 : (x.t.text == y.t.text)
                · have HC : Hid (sameT false l m = false) := Lib.hid (HO.out (fun h => by have e : x.t = y.t := congrArg Prod.fst h; simp [e] at h1))
                  have n1 : (x.t.text != y.t.text) = true := by unfold bne; rw [h1]; rfl
                  go_wp2_with fail
                  go_quiet (fail)
                  go_wp2
                  go_ret
                  exact ⟨by rw [HC.out]; rfl, below_drewN hb _⟩
                · have n1 : (x.t.text != y.t.text) = false := by unfold bne; rw [h1]; rfl
                  have HT : Hid (x.t = y.t) := Lib.hid (by
                    obtain ⟨⟨_, _⟩, _⟩ := x
                    obtain ⟨⟨_, _⟩, _⟩ := y
                    simp only [beq_iff_eq] at h0 h1
                    simp only [h0, h1])
                  have HM : Hid ((l[i]'hlt).key false = (m[i]'(by omega)).key false) := Lib.hid (by rw [HX.out, HY.out]; simp [Tk.key, HT.out])
                  go_wp2_with fail
                  go_quiet (fail)
                  go_wp2
                  go_roundw
                  case rel => exact ⟨i + 1, by go_num, by omega, Lib.hid (fun j hj hji => by
                    rcases Nat.lt_succ_iff_lt_or_eq.1 hji with h | rfl
                    · exact HN.out j hj h
                    · exact HM.out), below_drewN hb _⟩
                  case measure => simp [intOf]; omega
        · have HC : Hid (sameT false l m = true) := Lib.hid (sameT_all hlm (fun j hj => HN.out j hj (by omega)))
          go_wp2
          go_ret
          exact ⟨by rw [HC.out]; rfl, hb⟩
    · go_enter Tryz.func21, Tryz.ntmps21
      go_wp2_with fail
      go_loopw [7] (fun ii wr => ∃ i : Nat, ii = .int .i64 i ∧ i ≤ l.length ∧ Hid (∀ j (hj : j < l.length), j < i → (l[j]'hj).key true = (m[j]'(by omega)).key true) ∧ Below w.heap.size w wr)
        (fun i _ => l.length - (intOf i).toNat)
      case atStart => exact ⟨0, rfl, Nat.zero_le _, Lib.hid (fun j _ hj => absurd hj (by omega)), Below.refl _ _⟩
      case round =>
        obtain ⟨i, rfl, hi, HN, hb⟩ := hrel
        by_cases hlt : i < l.length
        · rcases HA.out.keep hb (Nat.le_refl _) with h0 | ⟨g, off, rfl, hg, hc⟩
          · omega
          · rcases HB.out.keep hb (Nat.le_refl _) with h0 | ⟨g', off', rfl, hg', hc'⟩
            · omega
            · obtain ⟨p0, p1, p2⟩ := hc i hlt
              obtain ⟨q0, q1, q2⟩ := hc' i (by omega)
              obtain ⟨x, hx⟩ : ∃ x, x = l[i] := ⟨_, rfl⟩
              obtain ⟨y, hy⟩ : ∃ y, y = m[i]'(by omega) := ⟨_, rfl⟩
              rw [← hx] at p0 p1 p2
              rw [← hy] at q0 q1 q2
              have HX := Lib.hid hx.symm
              have HY := Lib.hid hy.symm
              have hi1 : (i : Int) < (l.length : Int) := by omega
              have hi2 : (i : Int) < (m.length : Int) := by omega
              clear hx hy hc hc'
              have HO : Hid (x.key true ≠ y.key true → sameT true l m = false) := Lib.hid (fun h => sameT_off hlm hlt (by rw [HX.out, HY.out]; exact h))
              cases h0 : (x.t.kind == y.t.kind)
              · have HC : Hid (sameT true l m = false) := Lib.hid (HO.out (fun h => by have e : x.t = y.t := congrArg Prod.fst h; simp [e] at h0))
                have n0 : (x.t.kind != y.t.kind) = true := by unfold bne; rw [h0]; rfl
                go_wp2_with fail
                go_quiet (fail)
                go_wp2
                go_ret
                exact ⟨by rw [HC.out]; rfl, below_drewN hb _⟩
              · have n0 : (x.t.kind != y.t.kind) = false := by unfold bne; rw [h0]; rfl
                cases h1 : (x.t.text == y.t.text)
                · have HC : Hid (sameT true l m = false) := Lib.hid (HO.out (fun h => by have e : x.t = y.t := congrArg Prod.fst h; simp [e] at h1))
                  have n1 : (x.t.text != y.t.text) = true := by unfold bne; rw [h1]; rfl
                  go_wp2_with fail
                  go_quiet (fail)
                  go_wp2
                  go_ret
                  exact ⟨by rw [HC.out]; rfl, below_drewN hb _⟩
                · have n1 : (x.t.text != y.t.text) = false := by unfold bne; rw [h1]; rfl
                  have HT : Hid (x.t = y.t) := Lib.hid (by
                    obtain ⟨⟨_, _⟩, _⟩ := x
                    obtain ⟨⟨_, _⟩, _⟩ := y
                    simp only [beq_iff_eq] at h0 h1
                    simp only [h0, h1])
                  cases h2 : (x.at_ == y.at_)
                  · have HC : Hid (sameT true l m = false) := Lib.hid (HO.out (fun h => by have e : x.at_ = y.at_ := congrArg Prod.snd h; simp [e] at h2))
                    have n2 : (x.at_ != y.at_) = true := by unfold bne; rw [h2]; rfl
                    go_wp2_with fail
                    go_quiet (fail)
                    go_wp2
                    go_ret
                    exact ⟨by rw [HC.out]; rfl, below_drewN hb _⟩
                  · have n2 : (x.at_ != y.at_) = false := by unfold bne; rw [h2]; rfl
                    have HM : Hid ((l[i]'hlt).key true = (m[i]'(by omega)).key true) := Lib.hid (by rw [HX.out, HY.out]; simp [Tk.key, HT.out, beq_iff_eq.1 h2])
                    go_wp2_with fail
                    go_quiet (fail)
                    go_wp2
                    go_roundw
                    case rel => exact ⟨i + 1, by go_num, by omega, Lib.hid (fun j hj hji => by
                      rcases Nat.lt_succ_iff_lt_or_eq.1 hji with h | rfl
                      · exact HN.out j hj h
                      · exact HM.out), below_drewN hb _⟩
                    case measure => simp [intOf]; omega
        · have HC : Hid (sameT true l m = true) := Lib.hid (sameT_all hlm (fun j hj => HN.out j hj (by omega)))
          go_wp2
          go_ret
          exact ⟨by rw [HC.out]; rfl, hb⟩
  · have hlq : ((l.length : Int) == (m.length : Int)) = false := by rw [beq_eq_false_iff_ne]; omega
    have HC : Hid (sameT p l m = false) := Lib.hid (decide_eq_false (fun h => hlm (by simpa using congrArg List.length h)))
    go_enter Tryz.func21, Tryz.ntmps21
    go_wp2
    go_ret
    exact ⟨by rw [HC.out]; rfl, Below.refl _ _⟩
end Go.Proofs.YtebphmkefpaeaaaGreatDoor
