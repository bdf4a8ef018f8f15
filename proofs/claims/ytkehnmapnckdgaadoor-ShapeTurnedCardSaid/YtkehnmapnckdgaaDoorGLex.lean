/- LexR1, LexR2, LexO1, LexO2, together. -/
import Derived.Test.YtkehnmapnckdgaaDoorGPure
import Derived.Test.YtkehnmapnckdgaaDoorGBase
import Derived.Laws.Strings
/- The document's small functions of layer 6: small, great, digit, among, Word, Sign, rest, Name, Upper, number. -/
namespace Lex
theorem tw_at {p : UInt8 → Bool} : ∀ {s : List UInt8} {n : Nat}, n ≤ s.length → (∀ j (hj : j < s.length), j < n → p (s[j]'hj) = true) → (∀ (h : n < s.length), p (s[n]'h) = false) → (s.takeWhile p).length = n
  | [], n, h, _, _ => by simp at h; simp [h]
  | x :: r, 0, _, _, h => by
    have := h (by simp)
    simp at this
    rw [List.takeWhile_cons_of_neg (by simp [this])]; rfl
  | x :: r, n + 1, h1, h2, h3 => by
    have hx := h2 0 (by simp) (by omega)
    simp at hx
    rw [List.takeWhile_cons_of_pos hx, List.length_cons, tw_at (s := r) (n := n) (by simpa using h1) (fun j hj hn => by
      have := h2 (j + 1) (by simpa using hj) (by omega)
      simpa using this) (fun h => by
      have := h3 (by simpa using h)
      simpa using this)]

/-- Is it one of them? -/
def isIn (s : List UInt8) (l : List (List UInt8)) : Bool := l.contains s

theorem tw_all {p : UInt8 → Bool} : ∀ {s : List UInt8}, (s.takeWhile p).length = s.length ↔ s.all p = true
  | [] => by simp
  | x :: r => by
    by_cases hx : p x = true
    · rw [List.takeWhile_cons_of_pos hx, List.length_cons, List.length_cons, List.all_cons, hx, Bool.true_and, ← tw_all (s := r)]; omega
    · rw [List.takeWhile_cons_of_neg hx]; simp [hx]
end Lex
namespace Go.Proofs.YtkehnmapnckdgaaDoor
open Go.RowKit
set_option linter.unusedVariables false

theorem lsmall_walk (c : UInt8) (w : World) :
    Calls Tryd.prog 76 #[.int .u8 (c.toNat : Int)] w fun e w' => e = .returned (.bool (Lex.small c)) ∧ w = w' := by
  have hlt := c.toNat_lt
  have H : c.toNat ≤ 96 ∨ (97 ≤ c.toNat ∧ c.toNat ≤ 122) ∨ 123 ≤ c.toNat := by omega
  have HB : Hid (Lex.small c = (decide (97 ≤ c.toNat) && decide (c.toNat ≤ 122))) := Lib.hid rfl
  obtain ⟨n, hn⟩ : ∃ n, n = c.toNat := ⟨_, rfl⟩
  rw [← hn] at H HB hlt ⊢
  clear hn
  rcases H with h1 | ⟨h1, h2⟩ | h1
  · have h3 : decide ((97 : Int) ≤ (n : Int)) = false := decide_eq_false (by omega)
    go_enter Tryd.func76, Tryd.ntmps76
    go_wp2
    go_ret
    exact ⟨by rw [HB.out, decide_eq_false (by omega)]; rfl, rfl⟩
  · have h3 : decide ((n : Int) ≤ 122) = true := decide_eq_true (by omega)
    have h4 : decide ((97 : Int) ≤ (n : Int)) = true := decide_eq_true (by omega)
    go_enter Tryd.func76, Tryd.ntmps76
    go_wp2
    go_ret
    exact ⟨by rw [HB.out, decide_eq_true h1, decide_eq_true h2]; rfl, rfl⟩
  · have h3 : decide ((n : Int) ≤ 122) = false := decide_eq_false (by omega)
    have h4 : decide ((97 : Int) ≤ (n : Int)) = true := decide_eq_true (by omega)
    go_enter Tryd.func76, Tryd.ntmps76
    go_wp2
    go_ret
    exact ⟨by rw [HB.out, decide_eq_false (p := n ≤ 122) (by omega), Bool.and_false]; rfl, rfl⟩

theorem lgreat_walk (c : UInt8) (w : World) :
    Calls Tryd.prog 79 #[.int .u8 (c.toNat : Int)] w fun e w' => e = .returned (.bool (Lex.great c)) ∧ w = w' := by
  have hlt := c.toNat_lt
  have H : c.toNat ≤ 64 ∨ (65 ≤ c.toNat ∧ c.toNat ≤ 90) ∨ 91 ≤ c.toNat := by omega
  have HB : Hid (Lex.great c = (decide (65 ≤ c.toNat) && decide (c.toNat ≤ 90))) := Lib.hid rfl
  obtain ⟨n, hn⟩ : ∃ n, n = c.toNat := ⟨_, rfl⟩
  rw [← hn] at H HB hlt ⊢
  clear hn
  rcases H with h1 | ⟨h1, h2⟩ | h1
  · have h3 : decide ((65 : Int) ≤ (n : Int)) = false := decide_eq_false (by omega)
    go_enter Tryd.func79, Tryd.ntmps79
    go_wp2
    go_ret
    exact ⟨by rw [HB.out, decide_eq_false (by omega)]; rfl, rfl⟩
  · have h3 : decide ((n : Int) ≤ 90) = true := decide_eq_true (by omega)
    have h4 : decide ((65 : Int) ≤ (n : Int)) = true := decide_eq_true (by omega)
    go_enter Tryd.func79, Tryd.ntmps79
    go_wp2
    go_ret
    exact ⟨by rw [HB.out, decide_eq_true h1, decide_eq_true h2]; rfl, rfl⟩
  · have h3 : decide ((n : Int) ≤ 90) = false := decide_eq_false (by omega)
    have h4 : decide ((65 : Int) ≤ (n : Int)) = true := decide_eq_true (by omega)
    go_enter Tryd.func79, Tryd.ntmps79
    go_wp2
    go_ret
    exact ⟨by rw [HB.out, decide_eq_false (p := n ≤ 90) (by omega), Bool.and_false]; rfl, rfl⟩

theorem ldigit_walk (c : UInt8) (w : World) :
    Calls Tryd.prog 94 #[.int .u8 (c.toNat : Int)] w fun e w' => e = .returned (.bool (Lex.digit c)) ∧ w = w' := by
  have hlt := c.toNat_lt
  have H : c.toNat ≤ 47 ∨ (48 ≤ c.toNat ∧ c.toNat ≤ 57) ∨ 58 ≤ c.toNat := by omega
  have HB : Hid (Lex.digit c = (decide (48 ≤ c.toNat) && decide (c.toNat ≤ 57))) := Lib.hid rfl
  obtain ⟨n, hn⟩ : ∃ n, n = c.toNat := ⟨_, rfl⟩
  rw [← hn] at H HB hlt ⊢
  clear hn
  rcases H with h1 | ⟨h1, h2⟩ | h1
  · have h3 : decide ((48 : Int) ≤ (n : Int)) = false := decide_eq_false (by omega)
    go_enter Tryd.func94, Tryd.ntmps94
    go_wp2
    go_ret
    exact ⟨by rw [HB.out, decide_eq_false (by omega)]; rfl, rfl⟩
  · have h3 : decide ((n : Int) ≤ 57) = true := decide_eq_true (by omega)
    have h4 : decide ((48 : Int) ≤ (n : Int)) = true := decide_eq_true (by omega)
    go_enter Tryd.func94, Tryd.ntmps94
    go_wp2
    go_ret
    exact ⟨by rw [HB.out, decide_eq_true h1, decide_eq_true h2]; rfl, rfl⟩
  · have h3 : decide ((n : Int) ≤ 57) = false := decide_eq_false (by omega)
    have h4 : decide ((48 : Int) ≤ (n : Int)) = true := decide_eq_true (by omega)
    go_enter Tryd.func94, Tryd.ntmps94
    go_wp2
    go_ret
    exact ⟨by rw [HB.out, decide_eq_false (p := n ≤ 57) (by omega), Bool.and_false]; rfl, rfl⟩

theorem among_at {s : List UInt8} {l : List (List UInt8)} {i : Nat} (hi : i < l.length) (h : (s == l[i]'hi) = true) : Lex.isIn s l = true := by
  unfold Lex.isIn
  rw [List.contains_iff_mem, beq_iff_eq.1 h]; exact List.getElem_mem _
theorem among_no {s : List UInt8} {l : List (List UInt8)} (h : ∀ j (hj : j < l.length), (s == l[j]'hj) = false) : Lex.isIn s l = false := by
  unfold Lex.isIn
  cases hq : l.contains s with
  | false => rfl
  | true =>
    obtain ⟨j, hj, e⟩ := List.mem_iff_getElem.1 (List.contains_iff_mem.1 hq)
    have := h j hj
    rw [e] at this; simp at this

set_option maxRecDepth 100000 in
set_option maxHeartbeats 2000000 in
theorem among_walk (s : List UInt8) (A : Option Addr) (cap : Nat) (l : List (List UInt8)) (w : World) (hA : Strs w w.heap.size A (strs l)) (hl : l.length ≤ 1000000) :
    Calls Tryd.prog 95 #[.string ⟨s.toArray⟩, .slice A l.length cap] w fun e w' => e = .returned (.bool (Lex.isIn s l)) ∧ w = w' := by
  have HA := Lib.hid hA
  have hsl : (strs l).length = l.length := by simp [strs]
  clear hA
  go_enter Tryd.func95, Tryd.ntmps95
  go_wp2_with fail
  go_loopw [5] (fun ii wr => ∃ i : Nat, ii = .int .i64 i ∧ i ≤ l.length ∧ Hid (∀ j (hj : j < l.length), j < i → (s == l[j]'hj) = false) ∧ w = wr)
    (fun i _ => l.length - (intOf i).toNat)
  case atStart => exact ⟨0, rfl, Nat.zero_le _, Lib.hid (fun j _ hj => absurd hj (by omega)), rfl⟩
  case round =>
    obtain ⟨i, rfl, hi, HN, rfl⟩ := hrel
    by_cases hlt : i < l.length
    · have hi1 : (i : Int) < (l.length : Int) := by omega
      rcases HA.out with h0 | ⟨g, off, rfl, hg, hc⟩
      · omega
      · have hcell := hc i (by omega)
        have e1 : (strs l)[i]'(by omega) = ⟨(l[i]'hlt).toArray⟩ := by simp [strs]
        rw [e1] at hcell
        obtain ⟨p, hp⟩ : ∃ p, p = l[i]'hlt := ⟨_, rfl⟩
        rw [← hp] at hcell
        have HP := Lib.hid hp
        clear hc e1 hp
        cases hq : (s == p)
        · have HM : Hid ((s == l[i]'hlt) = false) := Lib.hid (by rw [← HP.out]; exact hq)
          go_wp2
          go_roundw
          case rel => exact ⟨i + 1, by go_num, by omega, Lib.hid (fun j hj hji => by
            rcases Nat.lt_succ_iff_lt_or_eq.1 hji with h | rfl
            · exact HN.out j hj h
            · exact HM.out), trivial⟩
          case measure => simp [intOf]; omega
        · have HM : Hid (Lex.isIn s l = true) := Lib.hid (among_at hlt (by rw [← HP.out]; exact hq))
          go_wp2
          go_ret
          exact ⟨by rw [HM.out]; rfl, rfl⟩
    · have hi1 : ¬ (i : Int) < (l.length : Int) := by omega
      have HM : Hid (Lex.isIn s l = false) := Lib.hid (among_no (fun j hj => HN.out j hj (by omega)))
      go_wp2
      go_ret
      exact ⟨by rw [HM.out]; rfl, rfl⟩

theorem strs_made (W : World) (l : List (List UInt8)) (g : Nat) (hg : g = W.heap.size) : Strs (W.alloc (.cells ((strs l).map Value.string).toArray 9)) (W.alloc (.cells ((strs l).map Value.string).toArray 9)).heap.size (some ⟨g, 0, none⟩) (strs l) := by
  subst hg
  refine Or.inr ⟨W.heap.size, 0, rfl, by simp, fun i hi => ?_⟩
  rw [Nat.zero_add]
  simp [go_sem, hi]

set_option maxRecDepth 100000 in
set_option maxHeartbeats 2000000 in
theorem lword_walk (s : List UInt8) (w : World) :
    Calls Tryd.prog 78 #[.string ⟨s.toArray⟩] w fun e w' => e = .returned (.bool (Lex.isWord s)) ∧ Below w.heap.size w w' := by
  have HS : Hid (Strs (w.alloc (.cells #[.string ⟨#[109, 111, 100, 117, 108, 101]⟩, .string ⟨#[105, 109, 112, 111, 114, 116]⟩, .string ⟨#[112, 105, 110]⟩, .string ⟨#[114, 97, 110, 103, 101]⟩, .string ⟨#[116, 121, 112, 101]⟩, .string ⟨#[111, 112, 97, 113, 117, 101]⟩, .string ⟨#[108, 101, 116]⟩, .string ⟨#[105, 110]⟩, .string ⟨#[101, 120, 112, 111, 114, 116]⟩, .string ⟨#[102, 117, 110]⟩, .string ⟨#[105, 102]⟩, .string ⟨#[116, 104, 101, 110]⟩, .string ⟨#[101, 108, 115, 101]⟩, .string ⟨#[99, 97, 115, 101]⟩, .string ⟨#[111, 102]⟩, .string ⟨#[97, 115]⟩, .string ⟨#[110, 101, 119]⟩, .string ⟨#[114, 97, 119]⟩, .string ⟨#[116, 114, 117, 101]⟩, .string ⟨#[102, 97, 108, 115, 101]⟩] 9)) (w.alloc (.cells #[.string ⟨#[109, 111, 100, 117, 108, 101]⟩, .string ⟨#[105, 109, 112, 111, 114, 116]⟩, .string ⟨#[112, 105, 110]⟩, .string ⟨#[114, 97, 110, 103, 101]⟩, .string ⟨#[116, 121, 112, 101]⟩, .string ⟨#[111, 112, 97, 113, 117, 101]⟩, .string ⟨#[108, 101, 116]⟩, .string ⟨#[105, 110]⟩, .string ⟨#[101, 120, 112, 111, 114, 116]⟩, .string ⟨#[102, 117, 110]⟩, .string ⟨#[105, 102]⟩, .string ⟨#[116, 104, 101, 110]⟩, .string ⟨#[101, 108, 115, 101]⟩, .string ⟨#[99, 97, 115, 101]⟩, .string ⟨#[111, 102]⟩, .string ⟨#[97, 115]⟩, .string ⟨#[110, 101, 119]⟩, .string ⟨#[114, 97, 119]⟩, .string ⟨#[116, 114, 117, 101]⟩, .string ⟨#[102, 97, 108, 115, 101]⟩] 9)).heap.size (some ⟨w.heap.size, 0, none⟩) (strs Lex.words)) := Lib.hid (strs_made w Lex.words _ rfl)
  have hb := below_one w (.cells #[.string ⟨#[109, 111, 100, 117, 108, 101]⟩, .string ⟨#[105, 109, 112, 111, 114, 116]⟩, .string ⟨#[112, 105, 110]⟩, .string ⟨#[114, 97, 110, 103, 101]⟩, .string ⟨#[116, 121, 112, 101]⟩, .string ⟨#[111, 112, 97, 113, 117, 101]⟩, .string ⟨#[108, 101, 116]⟩, .string ⟨#[105, 110]⟩, .string ⟨#[101, 120, 112, 111, 114, 116]⟩, .string ⟨#[102, 117, 110]⟩, .string ⟨#[105, 102]⟩, .string ⟨#[116, 104, 101, 110]⟩, .string ⟨#[101, 108, 115, 101]⟩, .string ⟨#[99, 97, 115, 101]⟩, .string ⟨#[111, 102]⟩, .string ⟨#[97, 115]⟩, .string ⟨#[110, 101, 119]⟩, .string ⟨#[114, 97, 119]⟩, .string ⟨#[116, 114, 117, 101]⟩, .string ⟨#[102, 97, 108, 115, 101]⟩] 9)
  have ha := fun W h => among_walk s (some ⟨w.heap.size, 0, none⟩) 20 Lex.words W h (by decide)
  have HI : Hid (Lex.isWord s = Lex.isIn s Lex.words) := Lib.hid rfl
  rw [show Lex.words.length = 20 from rfl] at ha
  go_enter Tryd.func78, Tryd.ntmps78
  go_wp2_with fail
  refine (ha _ HS.out).mono ?_
  rintro e w1 ⟨rfl, rfl⟩
  go_wp2
  go_ret
  exact ⟨by rw [HI.out]; rfl, hb⟩


theorem nameB_one {c : UInt8} : Lex.nameB c = (Lex.small c || Lex.great c || Lex.digit c || c == 95) := rfl

theorem index_byte (s : ByteArray) (n : Nat) (h : n < s.size) (W : World) : (Instr.index 9 (.string s) (.int .i64 (n : Int))).run Tryd.prog W = .ok (.int .u8 (s[n]'h).toNat) W := by
  rw [run_index_string (P := Tryd.prog) _ _ _ _ _ Tryd.underlying9, dif_pos ⟨by omega, by omega⟩]
  simp

theorem byte_95 (c : UInt8) : ((c.toNat : Int) == 95) = (c == 95) := by
  rw [Bool.eq_iff_iff, beq_iff_eq, beq_iff_eq]
  constructor
  · intro h; apply UInt8.toNat_inj.1; show c.toNat = 95; omega
  · rintro rfl; rfl

set_option maxRecDepth 100000 in
set_option maxHeartbeats 4000000 in
theorem rest_walk (s : ByteArray) (hs : s.size ≤ 9223372036854775806) (w : World) :
    Calls Tryd.prog 77 #[.string s] w fun e w' => e = .returned (.int .i64 (s.data.toList.takeWhile Lex.nameB).length) ∧ w = w' := by
  have hsl : s.data.toList.length = s.size := (Lib.size_eq s).symm
  go_enter Tryd.func77, Tryd.ntmps77
  go_wp2_with fail
  go_loopw [3] (fun ii wr => ∃ n : Nat, ii = .int .i64 n ∧ n ≤ s.size ∧ Hid (∀ j (hj : j < s.data.toList.length), j < n → Lex.nameB (s.data.toList[j]'hj) = true) ∧ w = wr)
    (fun i _ => s.size - (intOf i).toNat)
  case atStart => exact ⟨0, rfl, Nat.zero_le _, Lib.hid (fun j _ hj => absurd hj (by omega)), rfl⟩
  case round =>
    obtain ⟨n, rfl, hn, HN, rfl⟩ := hrel
    by_cases hlt : n < s.size
    · have hi1 : (n : Int) < (s.size : Int) := by omega
      obtain ⟨c, hc⟩ : ∃ c, c = s[n]'hlt := ⟨_, rfl⟩
      have hcl : s.data.toList[n]'(by omega) = c := hc.symm
      have HCL := Lib.hid hcl
      have hidx : ∀ W, (Instr.index 9 (.string s) (.int .i64 (n : Int))).run Tryd.prog W = .ok (.int .u8 c.toNat) W := fun W => by
        rw [hc]; exact index_byte s n hlt W
      have hcn := c.toNat_lt
      have h95 := byte_95 c
      have HB := Lib.hid (@nameB_one c)
      clear hcl hc
      have yes : Lex.nameB c = true → Hid (∀ j (hj : j < s.data.toList.length), j < n + 1 → Lex.nameB (s.data.toList[j]'hj) = true) := fun h => Lib.hid (fun j hj hji => by
        rcases Nat.lt_succ_iff_lt_or_eq.1 hji with h' | rfl
        · exact HN.out j hj h'
        · rw [HCL.out]; exact h)
      have no : Lex.nameB c = false → Hid ((s.data.toList.takeWhile Lex.nameB).length = n) := fun h => Lib.hid (Lex.tw_at (by omega) HN.out (fun h' => by rw [HCL.out]; exact h))
      cases h1 : Lex.small c
      · cases h2 : Lex.great c
        · cases h3 : Lex.digit c
          · cases h4 : (c == 95)
            · rw [h4] at h95
              have HM := no (by rw [HB.out, h1, h2, h3, h4]; rfl)
              clear yes no
              go_wp2_with fail
              refine (lsmall_walk c _).mono ?_
              rintro e w2 ⟨rfl, rfl⟩
              rw [h1]
              go_wp2_with fail
              refine (lgreat_walk c _).mono ?_
              rintro e w2 ⟨rfl, rfl⟩
              rw [h2]
              go_wp2_with fail
              refine (ldigit_walk c _).mono ?_
              rintro e w2 ⟨rfl, rfl⟩
              rw [h3]
              go_wp2
              go_ret
              exact ⟨by rw [HM.out]; rfl, rfl⟩
            · rw [h4] at h95
              have HM := yes (by rw [HB.out, h1, h2, h3, h4]; rfl)
              clear yes no
              go_wp2_with fail
              refine (lsmall_walk c _).mono ?_
              rintro e w2 ⟨rfl, rfl⟩
              rw [h1]
              go_wp2_with fail
              refine (lgreat_walk c _).mono ?_
              rintro e w2 ⟨rfl, rfl⟩
              rw [h2]
              go_wp2_with fail
              refine (ldigit_walk c _).mono ?_
              rintro e w2 ⟨rfl, rfl⟩
              rw [h3]
              go_wp2
              go_roundw
              case rel => exact ⟨n + 1, by go_num, by omega, HM, trivial⟩
              case measure => simp [intOf]; omega
          · have HM := yes (by rw [HB.out, h1, h2, h3]; rfl)
            clear yes no
            go_wp2_with fail
            refine (lsmall_walk c _).mono ?_
            rintro e w2 ⟨rfl, rfl⟩
            rw [h1]
            go_wp2_with fail
            refine (lgreat_walk c _).mono ?_
            rintro e w2 ⟨rfl, rfl⟩
            rw [h2]
            go_wp2_with fail
            refine (ldigit_walk c _).mono ?_
            rintro e w2 ⟨rfl, rfl⟩
            rw [h3]
            go_wp2
            go_roundw
            case rel => exact ⟨n + 1, by go_num, by omega, HM, trivial⟩
            case measure => simp [intOf]; omega
        · have HM := yes (by rw [HB.out, h1, h2]; rfl)
          clear yes no
          go_wp2_with fail
          refine (lsmall_walk c _).mono ?_
          rintro e w2 ⟨rfl, rfl⟩
          rw [h1]
          go_wp2_with fail
          refine (lgreat_walk c _).mono ?_
          rintro e w2 ⟨rfl, rfl⟩
          rw [h2]
          go_wp2
          go_roundw
          case rel => exact ⟨n + 1, by go_num, by omega, HM, trivial⟩
          case measure => simp [intOf]; omega
      · have HM := yes (by rw [HB.out, h1]; rfl)
        clear yes no
        go_wp2_with fail
        refine (lsmall_walk c _).mono ?_
        rintro e w2 ⟨rfl, rfl⟩
        rw [h1]
        go_wp2
        go_roundw
        case rel => exact ⟨n + 1, by go_num, by omega, HM, trivial⟩
        case measure => simp [intOf]; omega
    · have hi1 : ¬ (n : Int) < (s.size : Int) := by omega
      have HM : Hid ((s.data.toList.takeWhile Lex.nameB).length = n) := Lib.hid (Lex.tw_at (by omega) HN.out (fun h' => absurd h' (by omega)))
      go_wp2
      go_ret
      exact ⟨by rw [HM.out]; rfl, rfl⟩

end Go.Proofs.YtkehnmapnckdgaaDoor

/- The document's Name, Upper, number of layer 6. -/
namespace Go.Proofs.YtkehnmapnckdgaaDoor
open Go.RowKit
set_option linter.unusedVariables false

theorem lrest_walk (l : List UInt8) (hl : l.length ≤ 1000000) (w : World) :
    Calls Tryd.prog 77 #[.string ⟨l.toArray⟩] w fun e w' => e = .returned (.int .i64 (l.takeWhile Lex.nameB).length) ∧ w = w' :=
  rest_walk ⟨l.toArray⟩ (by rw [size_list]; omega) w

theorem lname_cons (c : UInt8) (r : List UInt8) : Lex.isName (c :: r) = (decide ((c :: r).length ≤ 24) && Lex.small c && (c :: r).all Lex.nameB && !Lex.isWord (c :: r)) := rfl

set_option maxRecDepth 100000 in
set_option maxHeartbeats 2000000 in
theorem lname_walk (l : List UInt8) (hl : l.length ≤ 9223372036854775807) (w : World) :
    Calls Tryd.prog 61 #[.string ⟨l.toArray⟩] w fun e w' => e = .returned (.bool (Lex.isName l)) ∧ Below w.heap.size w w' := by
  cases l with
  | nil =>
    have HM : Hid (Lex.isName [] = false) := Lib.hid rfl
    go_enter Tryd.func61, Tryd.ntmps61
    go_wp2
    go_ret
    exact ⟨by rw [HM.out]; rfl, Below.refl _ _⟩
  | cons c r =>
    have HM := Lib.hid (lname_cons c r)
    have HT := Lib.hid (Lex.tw_all (p := Lex.nameB) (s := c :: r))
    obtain ⟨l, hll⟩ : ∃ l : List UInt8, l = c :: r := ⟨_, rfl⟩
    rw [← hll] at hl HM HT ⊢
    have hz : (⟨l.toArray⟩ : ByteArray).size = l.length := size_list _
    have he : l.isEmpty = false := by rw [hll]; rfl
    have hidx : ∀ W, (Instr.index 9 (.string ⟨l.toArray⟩) (.int .i64 0)).run Tryd.prog W = .ok (.int .u8 c.toNat) W := fun W => by rw [hll]; rfl
    clear hll
    by_cases h24 : l.length ≤ 24
    · have h24d : decide ((l.length : Int) ≤ 24) = true := decide_eq_true (by omega)
      cases h1 : Lex.small c
      · have HF : Hid (Lex.isName l = false) := Lib.hid (by rw [HM.out, h1]; simp)
        go_enter Tryd.func61, Tryd.ntmps61
        go_wp2_with fail
        refine (lsmall_walk c _).mono ?_
        rintro e w2 ⟨rfl, rfl⟩
        rw [h1]
        go_wp2
        go_ret
        exact ⟨by rw [HF.out]; rfl, Below.refl _ _⟩
      · have H1 := Lib.hid h1
        go_enter Tryd.func61, Tryd.ntmps61
        go_wp2_with fail
        refine (lsmall_walk c _).mono ?_
        rintro e w2 ⟨rfl, rfl⟩
        rw [h1]
        clear h1
        go_wp2_with fail
        refine (lrest_walk l (by omega) _).mono ?_
        rintro e w2 ⟨rfl, rfl⟩
        obtain ⟨k, hk⟩ : ∃ k, k = (l.takeWhile Lex.nameB).length := ⟨_, rfl⟩
        rw [← hk] at HT ⊢
        clear hk
        by_cases hkl : k = l.length
        · have hkd : ((k : Int) == (l.length : Int)) = true := by rw [beq_iff_eq]; omega
          have HA : Hid (l.all Lex.nameB = true) := Lib.hid (HT.out.1 hkl)
          have HF : Hid (Lex.isName l = !Lex.isWord l) := Lib.hid (by rw [HM.out, H1.out, HA.out, decide_eq_true h24]; simp)
          clear hkl
          go_wp2_with fail
          refine (lword_walk l _).mono ?_
          rintro e w2 ⟨rfl, hb2⟩
          go_wp2
          go_ret
          exact ⟨by rw [HF.out]; rfl, hb2⟩
        · have hkd : ((k : Int) == (l.length : Int)) = false := by rw [beq_eq_false_iff_ne]; omega
          have HF : Hid (Lex.isName l = false) := Lib.hid (by
            have : l.all Lex.nameB = false := by
              cases hq : l.all Lex.nameB with
              | false => rfl
              | true => exact absurd (HT.out.2 hq) hkl
            rw [HM.out, this]; simp)
          clear hkl
          go_wp2
          go_ret
          exact ⟨by rw [HF.out]; rfl, Below.refl _ _⟩
    · have h24d : decide ((l.length : Int) ≤ 24) = false := decide_eq_false (by omega)
      have HF : Hid (Lex.isName l = false) := Lib.hid (by rw [HM.out, decide_eq_false h24]; rfl)
      go_enter Tryd.func61, Tryd.ntmps61
      go_wp2
      go_ret
      exact ⟨by rw [HF.out]; rfl, Below.refl _ _⟩

theorem lupper_cons (c : UInt8) (r : List UInt8) : Lex.isUpper (c :: r) = (decide ((c :: r).length ≤ 24) && Lex.great c && (c :: r).all Lex.nameB) := rfl

set_option maxRecDepth 100000 in
set_option maxHeartbeats 2000000 in
theorem lupper_walk (l : List UInt8) (hl : l.length ≤ 9223372036854775807) (w : World) :
    Calls Tryd.prog 62 #[.string ⟨l.toArray⟩] w fun e w' => e = .returned (.bool (Lex.isUpper l)) ∧ Below w.heap.size w w' := by
  cases l with
  | nil =>
    have HM : Hid (Lex.isUpper [] = false) := Lib.hid rfl
    go_enter Tryd.func62, Tryd.ntmps62
    go_wp2
    go_ret
    exact ⟨by rw [HM.out]; rfl, Below.refl _ _⟩
  | cons c r =>
    have HM := Lib.hid (lupper_cons c r)
    have HT := Lib.hid (Lex.tw_all (p := Lex.nameB) (s := c :: r))
    obtain ⟨l, hll⟩ : ∃ l : List UInt8, l = c :: r := ⟨_, rfl⟩
    rw [← hll] at hl HM HT ⊢
    have hz : (⟨l.toArray⟩ : ByteArray).size = l.length := size_list _
    have he : l.isEmpty = false := by rw [hll]; rfl
    have hidx : ∀ W, (Instr.index 9 (.string ⟨l.toArray⟩) (.int .i64 0)).run Tryd.prog W = .ok (.int .u8 c.toNat) W := fun W => by rw [hll]; rfl
    clear hll
    by_cases h24 : l.length ≤ 24
    · have h24d : decide ((l.length : Int) ≤ 24) = true := decide_eq_true (by omega)
      cases h1 : Lex.great c
      · have HF : Hid (Lex.isUpper l = false) := Lib.hid (by rw [HM.out, h1]; simp)
        go_enter Tryd.func62, Tryd.ntmps62
        go_wp2_with fail
        refine (lgreat_walk c _).mono ?_
        rintro e w2 ⟨rfl, rfl⟩
        rw [h1]
        go_wp2
        go_ret
        exact ⟨by rw [HF.out]; rfl, Below.refl _ _⟩
      · have H1 := Lib.hid h1
        go_enter Tryd.func62, Tryd.ntmps62
        go_wp2_with fail
        refine (lgreat_walk c _).mono ?_
        rintro e w2 ⟨rfl, rfl⟩
        rw [h1]
        clear h1
        go_wp2_with fail
        refine (lrest_walk l (by omega) _).mono ?_
        rintro e w2 ⟨rfl, rfl⟩
        obtain ⟨k, hk⟩ : ∃ k, k = (l.takeWhile Lex.nameB).length := ⟨_, rfl⟩
        rw [← hk] at HT ⊢
        clear hk
        by_cases hkl : k = l.length
        · have hkd : ((k : Int) == (l.length : Int)) = true := by rw [beq_iff_eq]; omega
          have HA : Hid (l.all Lex.nameB = true) := Lib.hid (HT.out.1 hkl)
          have HF : Hid (Lex.isUpper l = true) := Lib.hid (by rw [HM.out, H1.out, HA.out, decide_eq_true h24]; rfl)
          clear hkl
          go_wp2
          go_ret
          exact ⟨by rw [HF.out]; rfl, Below.refl _ _⟩
        · have hkd : ((k : Int) == (l.length : Int)) = false := by rw [beq_eq_false_iff_ne]; omega
          have HF : Hid (Lex.isUpper l = false) := Lib.hid (by
            have : l.all Lex.nameB = false := by
              cases hq : l.all Lex.nameB with
              | false => rfl
              | true => exact absurd (HT.out.2 hq) hkl
            rw [HM.out, this]; simp)
          clear hkl
          go_wp2
          go_ret
          exact ⟨by rw [HF.out]; rfl, Below.refl _ _⟩
    · have h24d : decide ((l.length : Int) ≤ 24) = false := decide_eq_false (by omega)
      have HF : Hid (Lex.isUpper l = false) := Lib.hid (by rw [HM.out, decide_eq_false h24]; rfl)
      go_enter Tryd.func62, Tryd.ntmps62
      go_wp2
      go_ret
      exact ⟨by rw [HF.out]; rfl, Below.refl _ _⟩

theorem all_off {p : UInt8 → Bool} {l : List UInt8} {i : Nat} (hi : i < l.length) (h : p (l[i]'hi) = false) : l.all p = false := by
  rw [List.all_eq_false]; exact ⟨l[i], List.getElem_mem _, by rw [h]; simp⟩
theorem all_on {p : UInt8 → Bool} {l : List UInt8} (h : ∀ j (hj : j < l.length), p (l[j]'hj) = true) : l.all p = true := by
  rw [List.all_eq_true]
  intro x hx
  obtain ⟨j, hj, rfl⟩ := List.mem_iff_getElem.1 hx
  exact h j hj

theorem byte_48 (c : UInt8) : ((c.toNat : Int) != 48) = decide (c ≠ 48) := by
  rw [Bool.eq_iff_iff, bne_iff_ne, decide_eq_true_eq]
  constructor
  · rintro h rfl; exact h rfl
  · intro h h2; refine h (UInt8.toNat_inj.1 ?_); show c.toNat = 48; omega

end Go.Proofs.YtkehnmapnckdgaaDoor

/- The program's byte classes of layer 6, Word, Sign. -/
namespace Lex
def letter (c : UInt8) : Bool := small c || great c
theorem nameB_letter (c : UInt8) : nameB c = (letter c || digit c || c == 95) := rfl
theorem lumpB_letter (c : UInt8) : lumpB c = (letter c || digit c || c == 46 || c == 45) := rfl
end Lex
namespace Go.Proofs.YtkehnmapnckdgaaDoor
open Go.RowKit
set_option linter.unusedVariables false

theorem byte_46 (c : UInt8) : ((c.toNat : Int) == 46) = (c == 46) := by
  rw [Bool.eq_iff_iff, beq_iff_eq, beq_iff_eq]
  constructor
  · intro h; apply UInt8.toNat_inj.1; show c.toNat = 46; omega
  · rintro rfl; rfl

theorem byte_45 (c : UInt8) : ((c.toNat : Int) == 45) = (c == 45) := by
  rw [Bool.eq_iff_iff, beq_iff_eq, beq_iff_eq]
  constructor
  · intro h; apply UInt8.toNat_inj.1; show c.toNat = 45; omega
  · rintro rfl; rfl

theorem osmall_walk (c : UInt8) (w : World) :
    Calls Tryd.prog 72 #[.int .u8 (c.toNat : Int)] w fun e w' => e = .returned (.bool (Lex.small c)) ∧ w = w' := by
  have hlt := c.toNat_lt
  have H : c.toNat ≤ 96 ∨ (97 ≤ c.toNat ∧ c.toNat ≤ 122) ∨ 123 ≤ c.toNat := by omega
  have HB : Hid (Lex.small c = (decide (97 ≤ c.toNat) && decide (c.toNat ≤ 122))) := Lib.hid rfl
  obtain ⟨n, hn⟩ : ∃ n, n = c.toNat := ⟨_, rfl⟩
  rw [← hn] at H HB hlt ⊢
  clear hn
  rcases H with h1 | ⟨h1, h2⟩ | h1
  · have h3 : decide ((97 : Int) ≤ (n : Int)) = false := decide_eq_false (by omega)
    go_enter Tryd.func72, Tryd.ntmps72
    go_wp2
    go_ret
    exact ⟨by rw [HB.out, decide_eq_false (by omega)]; rfl, rfl⟩
  · have h3 : decide ((n : Int) ≤ 122) = true := decide_eq_true (by omega)
    have h4 : decide ((97 : Int) ≤ (n : Int)) = true := decide_eq_true (by omega)
    go_enter Tryd.func72, Tryd.ntmps72
    go_wp2
    go_ret
    exact ⟨by rw [HB.out, decide_eq_true h1, decide_eq_true h2]; rfl, rfl⟩
  · have h3 : decide ((n : Int) ≤ 122) = false := decide_eq_false (by omega)
    have h4 : decide ((97 : Int) ≤ (n : Int)) = true := decide_eq_true (by omega)
    go_enter Tryd.func72, Tryd.ntmps72
    go_wp2
    go_ret
    exact ⟨by rw [HB.out, decide_eq_false (p := n ≤ 122) (by omega), Bool.and_false]; rfl, rfl⟩

theorem ogreat_walk (c : UInt8) (w : World) :
    Calls Tryd.prog 75 #[.int .u8 (c.toNat : Int)] w fun e w' => e = .returned (.bool (Lex.great c)) ∧ w = w' := by
  have hlt := c.toNat_lt
  have H : c.toNat ≤ 64 ∨ (65 ≤ c.toNat ∧ c.toNat ≤ 90) ∨ 91 ≤ c.toNat := by omega
  have HB : Hid (Lex.great c = (decide (65 ≤ c.toNat) && decide (c.toNat ≤ 90))) := Lib.hid rfl
  obtain ⟨n, hn⟩ : ∃ n, n = c.toNat := ⟨_, rfl⟩
  rw [← hn] at H HB hlt ⊢
  clear hn
  rcases H with h1 | ⟨h1, h2⟩ | h1
  · have h3 : decide ((65 : Int) ≤ (n : Int)) = false := decide_eq_false (by omega)
    go_enter Tryd.func75, Tryd.ntmps75
    go_wp2
    go_ret
    exact ⟨by rw [HB.out, decide_eq_false (by omega)]; rfl, rfl⟩
  · have h3 : decide ((n : Int) ≤ 90) = true := decide_eq_true (by omega)
    have h4 : decide ((65 : Int) ≤ (n : Int)) = true := decide_eq_true (by omega)
    go_enter Tryd.func75, Tryd.ntmps75
    go_wp2
    go_ret
    exact ⟨by rw [HB.out, decide_eq_true h1, decide_eq_true h2]; rfl, rfl⟩
  · have h3 : decide ((n : Int) ≤ 90) = false := decide_eq_false (by omega)
    have h4 : decide ((65 : Int) ≤ (n : Int)) = true := decide_eq_true (by omega)
    go_enter Tryd.func75, Tryd.ntmps75
    go_wp2
    go_ret
    exact ⟨by rw [HB.out, decide_eq_false (p := n ≤ 90) (by omega), Bool.and_false]; rfl, rfl⟩

theorem odigit_walk (c : UInt8) (w : World) :
    Calls Tryd.prog 104 #[.int .u8 (c.toNat : Int)] w fun e w' => e = .returned (.bool (Lex.digit c)) ∧ w = w' := by
  have hlt := c.toNat_lt
  have H : c.toNat ≤ 47 ∨ (48 ≤ c.toNat ∧ c.toNat ≤ 57) ∨ 58 ≤ c.toNat := by omega
  have HB : Hid (Lex.digit c = (decide (48 ≤ c.toNat) && decide (c.toNat ≤ 57))) := Lib.hid rfl
  obtain ⟨n, hn⟩ : ∃ n, n = c.toNat := ⟨_, rfl⟩
  rw [← hn] at H HB hlt ⊢
  clear hn
  rcases H with h1 | ⟨h1, h2⟩ | h1
  · have h3 : decide ((48 : Int) ≤ (n : Int)) = false := decide_eq_false (by omega)
    go_enter Tryd.func104, Tryd.ntmps104
    go_wp2
    go_ret
    exact ⟨by rw [HB.out, decide_eq_false (by omega)]; rfl, rfl⟩
  · have h3 : decide ((n : Int) ≤ 57) = true := decide_eq_true (by omega)
    have h4 : decide ((48 : Int) ≤ (n : Int)) = true := decide_eq_true (by omega)
    go_enter Tryd.func104, Tryd.ntmps104
    go_wp2
    go_ret
    exact ⟨by rw [HB.out, decide_eq_true h1, decide_eq_true h2]; rfl, rfl⟩
  · have h3 : decide ((n : Int) ≤ 57) = false := decide_eq_false (by omega)
    have h4 : decide ((48 : Int) ≤ (n : Int)) = true := decide_eq_true (by omega)
    go_enter Tryd.func104, Tryd.ntmps104
    go_wp2
    go_ret
    exact ⟨by rw [HB.out, decide_eq_false (p := n ≤ 57) (by omega), Bool.and_false]; rfl, rfl⟩

theorem oletter_walk (c : UInt8) (w : World) :
    Calls Tryd.prog 103 #[.int .u8 (c.toNat : Int)] w fun e w' => e = .returned (.bool (Lex.letter c)) ∧ w = w' := by
  have HM : Hid (Lex.letter c = (Lex.small c || Lex.great c)) := Lib.hid rfl
  cases h1 : Lex.small c
  · have HF : Hid (Lex.letter c = Lex.great c) := Lib.hid (by rw [HM.out, h1]; rfl)
    go_enter Tryd.func103, Tryd.ntmps103
    go_wp2_with fail
    refine (osmall_walk c _).mono ?_
    rintro e w2 ⟨rfl, rfl⟩
    rw [h1]
    go_wp2_with fail
    refine (ogreat_walk c _).mono ?_
    rintro e w2 ⟨rfl, rfl⟩
    go_wp2
    go_ret
    exact ⟨by rw [HF.out]; rfl, rfl⟩
  · have HF : Hid (Lex.letter c = true) := Lib.hid (by rw [HM.out, h1]; rfl)
    go_enter Tryd.func103, Tryd.ntmps103
    go_wp2_with fail
    refine (osmall_walk c _).mono ?_
    rintro e w2 ⟨rfl, rfl⟩
    rw [h1]
    go_wp2
    go_ret
    exact ⟨by rw [HF.out]; rfl, rfl⟩

theorem onameB_walk (c : UInt8) (w : World) :
    Calls Tryd.prog 93 #[.int .u8 (c.toNat : Int)] w fun e w' => e = .returned (.bool (Lex.nameB c)) ∧ w = w' := by
  have HM := Lib.hid (Lex.nameB_letter c)
  have b95 := byte_95 c
  cases h1 : Lex.letter c
  · cases h2 : Lex.digit c
    · cases g95 : (c == 95)
      · rw [g95] at b95
        have HF : Hid (Lex.nameB c = false) := Lib.hid (by rw [HM.out, h1, h2, g95]; rfl)
        clear HM
        go_enter Tryd.func93, Tryd.ntmps93
        go_wp2_with fail
        refine (oletter_walk c _).mono ?_
        rintro e w2 ⟨rfl, rfl⟩
        rw [h1]
        go_wp2_with fail
        refine (odigit_walk c _).mono ?_
        rintro e w2 ⟨rfl, rfl⟩
        rw [h2]
        go_wp2
        go_ret
        exact ⟨by rw [HF.out]; rfl, rfl⟩
      · rw [g95] at b95
        have HF : Hid (Lex.nameB c = true) := Lib.hid (by rw [HM.out, h1, h2, g95]; rfl)
        clear HM
        go_enter Tryd.func93, Tryd.ntmps93
        go_wp2_with fail
        refine (oletter_walk c _).mono ?_
        rintro e w2 ⟨rfl, rfl⟩
        rw [h1]
        go_wp2_with fail
        refine (odigit_walk c _).mono ?_
        rintro e w2 ⟨rfl, rfl⟩
        rw [h2]
        go_wp2
        go_ret
        exact ⟨by rw [HF.out]; rfl, rfl⟩
    · have HF : Hid (Lex.nameB c = true) := Lib.hid (by rw [HM.out, h1, h2]; rfl)
      clear HM
      go_enter Tryd.func93, Tryd.ntmps93
      go_wp2_with fail
      refine (oletter_walk c _).mono ?_
      rintro e w2 ⟨rfl, rfl⟩
      rw [h1]
      go_wp2_with fail
      refine (odigit_walk c _).mono ?_
      rintro e w2 ⟨rfl, rfl⟩
      rw [h2]
      go_wp2
      go_ret
      exact ⟨by rw [HF.out]; rfl, rfl⟩
  · have HF : Hid (Lex.nameB c = true) := Lib.hid (by rw [HM.out, h1]; rfl)
    clear HM
    go_enter Tryd.func93, Tryd.ntmps93
    go_wp2_with fail
    refine (oletter_walk c _).mono ?_
    rintro e w2 ⟨rfl, rfl⟩
    rw [h1]
    go_wp2
    go_ret
    exact ⟨by rw [HF.out]; rfl, rfl⟩


set_option maxRecDepth 100000 in
set_option maxHeartbeats 4000000 in
theorem oword_walk (s : List UInt8) (w : World) :
    Calls Tryd.prog 74 #[.string ⟨s.toArray⟩] w fun e w' => e = .returned (.bool (Lex.isWord s)) ∧ w = w' := by
  cases hq : Lex.isWord s
  · have HN : ∀ t ∈ Lex.words, (s == t) = false := fun t ht => by
      cases h : (s == t) with
      | false => rfl
      | true =>
        obtain rfl := beq_iff_eq.1 h
        unfold Lex.isWord at hq
        rw [List.contains_iff_mem.2 ht] at hq; cases hq
    have n0 : (s == [109, 111, 100, 117, 108, 101]) = false := HN _ (by decide)
    have n1 : (s == [105, 109, 112, 111, 114, 116]) = false := HN _ (by decide)
    have n2 : (s == [112, 105, 110]) = false := HN _ (by decide)
    have n3 : (s == [114, 97, 110, 103, 101]) = false := HN _ (by decide)
    have n4 : (s == [116, 121, 112, 101]) = false := HN _ (by decide)
    have n5 : (s == [111, 112, 97, 113, 117, 101]) = false := HN _ (by decide)
    have n6 : (s == [108, 101, 116]) = false := HN _ (by decide)
    have n7 : (s == [105, 110]) = false := HN _ (by decide)
    have n8 : (s == [101, 120, 112, 111, 114, 116]) = false := HN _ (by decide)
    have n9 : (s == [102, 117, 110]) = false := HN _ (by decide)
    have n10 : (s == [105, 102]) = false := HN _ (by decide)
    have n11 : (s == [116, 104, 101, 110]) = false := HN _ (by decide)
    have n12 : (s == [101, 108, 115, 101]) = false := HN _ (by decide)
    have n13 : (s == [99, 97, 115, 101]) = false := HN _ (by decide)
    have n14 : (s == [111, 102]) = false := HN _ (by decide)
    have n15 : (s == [97, 115]) = false := HN _ (by decide)
    have n16 : (s == [110, 101, 119]) = false := HN _ (by decide)
    have n17 : (s == [114, 97, 119]) = false := HN _ (by decide)
    have n18 : (s == [116, 114, 117, 101]) = false := HN _ (by decide)
    have n19 : (s == [102, 97, 108, 115, 101]) = false := HN _ (by decide)
    clear HN hq
    go_enter Tryd.func74, Tryd.ntmps74
    go_wp2
    go_ret
    exact ⟨rfl, rfl⟩
  · have hm : s ∈ Lex.words := List.contains_iff_mem.1 hq
    clear hq
    unfold Lex.words at hm
    simp only [List.mem_cons, List.not_mem_nil, or_false] at hm
    rcases hm with rfl | rfl | rfl | rfl | rfl | rfl | rfl | rfl | rfl | rfl | rfl | rfl | rfl | rfl | rfl | rfl | rfl | rfl | rfl | rfl
    all_goals
      go_enter Tryd.func74, Tryd.ntmps74
      go_wp2
      go_ret
      exact ⟨rfl, rfl⟩

end Go.Proofs.YtkehnmapnckdgaaDoor

/- The program's isNamed, Name, Upper, isNumber of layer 6. -/
namespace Lex
def named (l : List UInt8) : Bool := decide (l.length ≤ 24) && l.tail.all nameB

theorem tail_all {p : UInt8 → Bool} {l : List UInt8} (h : ∀ j (hj : j < l.length), 1 ≤ j → p (l[j]'hj) = true) : l.tail.all p = true := by
  cases l with
  | nil => rfl
  | cons c r =>
    refine List.all_eq_true.2 (fun x hx => ?_)
    obtain ⟨j, hj, rfl⟩ := List.mem_iff_getElem.1 hx
    exact h (j + 1) (by simpa using hj) (by omega)

theorem tail_no {p : UInt8 → Bool} {l : List UInt8} {j : Nat} (hj : j < l.length) (h1 : 1 ≤ j) (h : p (l[j]'hj) = false) : l.tail.all p = false := by
  cases l with
  | nil => simp at hj
  | cons c r =>
    obtain ⟨k, rfl⟩ : ∃ k, j = k + 1 := ⟨j - 1, by omega⟩
    have hm : (r[k]'(by simpa using hj)) ∈ r := List.getElem_mem _
    cases hq : (c :: r).tail.all p with
    | false => rfl
    | true =>
      have := List.all_eq_true.1 hq _ hm
      have h' : p (r[k]'(by simpa using hj)) = false := h
      rw [h'] at this; cases this

theorem all_of {p : UInt8 → Bool} {l : List UInt8} (h : ∀ j (hj : j < l.length), p (l[j]'hj) = true) : l.all p = true :=
  List.all_eq_true.2 (fun x hx => by obtain ⟨j, hj, rfl⟩ := List.mem_iff_getElem.1 hx; exact h j hj)

theorem all_no {p : UInt8 → Bool} {l : List UInt8} {j : Nat} (hj : j < l.length) (h : p (l[j]'hj) = false) : l.all p = false := by
  cases hq : l.all p with
  | false => rfl
  | true =>
    have := List.all_eq_true.1 hq _ (List.getElem_mem hj)
    rw [h] at this; cases this

theorem isName_own (c : UInt8) (r : List UInt8) : isName (c :: r) = (small c && named (c :: r) && !isWord (c :: r)) := by
  show (decide ((c :: r).length ≤ 24) && small c && (c :: r).all nameB && !isWord (c :: r)) = _
  cases h : small c with
  | false => simp
  | true =>
    have : nameB c = true := by unfold nameB; rw [h]; rfl
    unfold named
    simp [this]

theorem isUpper_own (c : UInt8) (r : List UInt8) : isUpper (c :: r) = (great c && named (c :: r)) := by
  show (decide ((c :: r).length ≤ 24) && great c && (c :: r).all nameB) = _
  cases h : great c with
  | false => simp
  | true =>
    have : nameB c = true := by unfold nameB; rw [h]; simp
    unfold named
    simp [this]
end Lex
namespace Go.Proofs.YtkehnmapnckdgaaDoor
open Go.RowKit
set_option linter.unusedVariables false

set_option maxRecDepth 100000 in
set_option maxHeartbeats 4000000 in
theorem onamed_walk (l : List UInt8) (hl : l.length ≤ 9223372036854775807) (w : World) :
    Calls Tryd.prog 73 #[.string ⟨l.toArray⟩] w fun e w' => e = .returned (.bool (Lex.named l)) ∧ w = w' := by
  have hz : (⟨l.toArray⟩ : ByteArray).size = l.length := size_list _
  have HM : Hid (Lex.named l = (decide (l.length ≤ 24) && l.tail.all Lex.nameB)) := Lib.hid rfl
  by_cases h24 : l.length ≤ 24
  · have h24d : ¬ ((24 : Int) < (l.length : Int)) := by omega
    go_enter Tryd.func73, Tryd.ntmps73
    go_wp2_with fail
    go_loopw [3] (fun ii wr => ∃ n : Nat, ii = .int .i64 n ∧ 1 ≤ n ∧ (n ≤ l.length ∨ n = 1) ∧ Hid (∀ j (hj : j < l.length), 1 ≤ j → j < n → Lex.nameB (l[j]'hj) = true) ∧ w = wr)
      (fun i _ => l.length - (intOf i).toNat)
    case atStart => exact ⟨1, rfl, Nat.le_refl _, Or.inr rfl, Lib.hid (fun j _ h1 hj => absurd hj (by omega)), rfl⟩
    case round =>
      obtain ⟨n, rfl, h1, hn, HN, rfl⟩ := hrel
      by_cases hlt : n < l.length
      · have hi1 : (n : Int) < (l.length : Int) := by omega
        obtain ⟨c, hc⟩ : ∃ c, c = l[n]'hlt := ⟨_, rfl⟩
        have hidx : ∀ W, (Instr.index 9 (.string ⟨l.toArray⟩) (.int .i64 (n : Int))).run Tryd.prog W = .ok (.int .u8 c.toNat) W := fun W => by
          rw [hc]; exact index_byte ⟨l.toArray⟩ n (by omega) W
        have HC := Lib.hid hc
        clear hc
        cases hb : Lex.nameB c
        · have HF : Hid (Lex.named l = false) := Lib.hid (by rw [HM.out, Lex.tail_no hlt h1 (by rw [← HC.out]; exact hb)]; simp)
          go_wp2_with fail
          refine (onameB_walk c _).mono ?_
          rintro e w2 ⟨rfl, rfl⟩
          rw [hb]
          go_wp2
          go_ret
          exact ⟨by rw [HF.out]; rfl, rfl⟩
        · have HN2 : Hid (∀ j (hj : j < l.length), 1 ≤ j → j < n + 1 → Lex.nameB (l[j]'hj) = true) := Lib.hid (fun j hj h1 hji => by
            rcases Nat.lt_succ_iff_lt_or_eq.1 hji with h' | rfl
            · exact HN.out j hj h1 h'
            · rw [← HC.out]; exact hb)
          go_wp2_with fail
          refine (onameB_walk c _).mono ?_
          rintro e w2 ⟨rfl, rfl⟩
          rw [hb]
          go_wp2
          go_roundw
          case rel => exact ⟨n + 1, by go_num, by omega, Or.inl (by omega), HN2, trivial⟩
          case measure => simp [intOf]; omega
      · have hi1 : ¬ (n : Int) < (l.length : Int) := by omega
        have HF : Hid (Lex.named l = true) := Lib.hid (by rw [HM.out, decide_eq_true h24, Lex.tail_all (fun j hj h1 => HN.out j hj h1 (by omega))]; rfl)
        go_wp2
        go_ret
        exact ⟨by rw [HF.out]; rfl, rfl⟩
  · have h24d : (24 : Int) < (l.length : Int) := by omega
    have HF : Hid (Lex.named l = false) := Lib.hid (by rw [HM.out, decide_eq_false h24]; rfl)
    go_enter Tryd.func73, Tryd.ntmps73
    go_wp2
    go_ret
    exact ⟨by rw [HF.out]; rfl, rfl⟩

set_option maxRecDepth 100000 in
set_option maxHeartbeats 2000000 in
theorem oname_walk (l : List UInt8) (hl : l.length ≤ 9223372036854775807) (w : World) :
    Calls Tryd.prog 58 #[.string ⟨l.toArray⟩] w fun e w' => e = .returned (.bool (Lex.isName l)) ∧ w = w' := by
  cases l with
  | nil =>
    have HM : Hid (Lex.isName [] = false) := Lib.hid rfl
    go_enter Tryd.func58, Tryd.ntmps58
    go_wp2
    go_ret
    exact ⟨by rw [HM.out]; rfl, rfl⟩
  | cons c r =>
    have HM := Lib.hid (Lex.isName_own c r)
    obtain ⟨l, hll⟩ : ∃ l : List UInt8, l = c :: r := ⟨_, rfl⟩
    rw [← hll] at hl HM ⊢
    have hz : (⟨l.toArray⟩ : ByteArray).size = l.length := size_list _
    have he : l.isEmpty = false := by rw [hll]; rfl
    have he2 : (l == []) = false := by rw [hll]; rfl
    have he3 : (l != []) = true := by rw [hll]; rfl
    have hidx : ∀ W, (Instr.index 9 (.string ⟨l.toArray⟩) (.int .i64 0)).run Tryd.prog W = .ok (.int .u8 c.toNat) W := fun W => by rw [hll]; rfl
    clear hll
    cases h1 : Lex.small c
    · have HF : Hid (Lex.isName l = false) := Lib.hid (by rw [HM.out, h1]; rfl)
      go_enter Tryd.func58, Tryd.ntmps58
      go_wp2_with fail
      refine (osmall_walk c _).mono ?_
      rintro e w2 ⟨rfl, rfl⟩
      rw [h1]
      go_wp2
      go_ret
      exact ⟨by rw [HF.out]; rfl, rfl⟩
    · cases h2 : Lex.named l
      · have HF : Hid (Lex.isName l = false) := Lib.hid (by rw [HM.out, h1, h2]; rfl)
        go_enter Tryd.func58, Tryd.ntmps58
        go_wp2_with fail
        refine (osmall_walk c _).mono ?_
        rintro e w2 ⟨rfl, rfl⟩
        rw [h1]
        go_wp2_with fail
        refine (onamed_walk l hl _).mono ?_
        rintro e w2 ⟨rfl, rfl⟩
        rw [h2]
        go_wp2
        go_ret
        exact ⟨by rw [HF.out]; rfl, rfl⟩
      · have HF : Hid (Lex.isName l = !Lex.isWord l) := Lib.hid (by rw [HM.out, h1, h2]; rfl)
        go_enter Tryd.func58, Tryd.ntmps58
        go_wp2_with fail
        refine (osmall_walk c _).mono ?_
        rintro e w2 ⟨rfl, rfl⟩
        rw [h1]
        go_wp2_with fail
        refine (onamed_walk l hl _).mono ?_
        rintro e w2 ⟨rfl, rfl⟩
        rw [h2]
        go_wp2_with fail
        refine (oword_walk l _).mono ?_
        rintro e w2 ⟨rfl, rfl⟩
        go_wp2
        go_ret
        exact ⟨by rw [HF.out]; rfl, rfl⟩

set_option maxRecDepth 100000 in
set_option maxHeartbeats 2000000 in
theorem oupper_walk (l : List UInt8) (hl : l.length ≤ 9223372036854775807) (w : World) :
    Calls Tryd.prog 59 #[.string ⟨l.toArray⟩] w fun e w' => e = .returned (.bool (Lex.isUpper l)) ∧ w = w' := by
  cases l with
  | nil =>
    have HM : Hid (Lex.isUpper [] = false) := Lib.hid rfl
    go_enter Tryd.func59, Tryd.ntmps59
    go_wp2
    go_ret
    exact ⟨by rw [HM.out]; rfl, rfl⟩
  | cons c r =>
    have HM := Lib.hid (Lex.isUpper_own c r)
    obtain ⟨l, hll⟩ : ∃ l : List UInt8, l = c :: r := ⟨_, rfl⟩
    rw [← hll] at hl HM ⊢
    have hz : (⟨l.toArray⟩ : ByteArray).size = l.length := size_list _
    have he : l.isEmpty = false := by rw [hll]; rfl
    have he2 : (l == []) = false := by rw [hll]; rfl
    have he3 : (l != []) = true := by rw [hll]; rfl
    have hidx : ∀ W, (Instr.index 9 (.string ⟨l.toArray⟩) (.int .i64 0)).run Tryd.prog W = .ok (.int .u8 c.toNat) W := fun W => by rw [hll]; rfl
    clear hll
    cases h1 : Lex.great c
    · have HF : Hid (Lex.isUpper l = false) := Lib.hid (by rw [HM.out, h1]; rfl)
      go_enter Tryd.func59, Tryd.ntmps59
      go_wp2_with fail
      refine (ogreat_walk c _).mono ?_
      rintro e w2 ⟨rfl, rfl⟩
      rw [h1]
      go_wp2
      go_ret
      exact ⟨by rw [HF.out]; rfl, rfl⟩
    · have HF : Hid (Lex.isUpper l = Lex.named l) := Lib.hid (by rw [HM.out, h1]; rfl)
      go_enter Tryd.func59, Tryd.ntmps59
      go_wp2_with fail
      refine (ogreat_walk c _).mono ?_
      rintro e w2 ⟨rfl, rfl⟩
      rw [h1]
      go_wp2_with fail
      refine (onamed_walk l hl _).mono ?_
      rintro e w2 ⟨rfl, rfl⟩
      go_wp2
      go_ret
      exact ⟨by rw [HF.out]; rfl, rfl⟩

theorem number_cons (c : UInt8) (r : List UInt8) : Lex.number (c :: r) = ((c :: r).all Lex.digit && decide (1 ≤ (c :: r).length) && decide ((c :: r).length ≤ 15) && (decide ((c :: r).length = 1) || (c != 48))) := by
  show (_ && _ && _ && (_ || decide ((c :: r).head? ≠ some 48))) = _
  congr 2
  by_cases h : c = 48
  · subst h; rfl
  · simp [h]


end Go.Proofs.YtkehnmapnckdgaaDoor
