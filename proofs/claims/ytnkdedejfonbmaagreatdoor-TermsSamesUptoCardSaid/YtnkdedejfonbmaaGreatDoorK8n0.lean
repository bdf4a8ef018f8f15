/- What the proofs of TermsChecks, TermsSames want, part 0. -/
import Derived.Test.YtnkdedejfonbmaaGreatDoorRows
import Derived.WalkKit
import Derived.Below
import Derived.Lib.Hide
import Derived.Lib.Strings
import Derived.Lib.Builder
import Derived.Deep.QuietTactic
import Derived.BigQuiet
import Derived.Laws.Strings
import Derived.Deep.DeepCutAuto
import Derived.StillTailTactics
import Derived.Laws.BytesArg
import Derived.Lib.UnsafeStr
import Derived.Test.YtnkdedejfonbmaaGreatDoorK1n0
import Derived.Test.YtnkdedejfonbmaaGreatDoorK0n7
set_option linter.unusedVariables false
set_option linter.unusedSimpArgs false
set_option maxRecDepth 100000
set_option maxHeartbeats 16000000
namespace Utf
theorem Z4v {p : Int} {l : List UInt8} (h0 : 0 <= p) (h1 : p <= 255) (hl : l.length <= 2) : -100000000 <= val p l /\ val p l <= 100000000 := by
 match l, hl with
 | [], _ => simp only [val]; omega
 | [b], _ => have := b.toNat_lt; simp only [val]; omega
 | [b, c], _ => have := b.toNat_lt; have := c.toNat_lt; simp only [val]; omega
end Utf
namespace Shp
theorem Zfs (t : Sh) : bare t = true ↔ t.of_ = [] /\ t.name = [] := by simp [bare]
theorem Zgz {t : Sh} (h : (t.of_ == []) = false) : bare t = false := by simp [bare, h]
theorem ZdF {t : Sh} (h : (t.name == []) = false) : bare t = false := by simp [bare, h]
theorem right_off {t p : Sh} (hp : p ∈ t.parts) (h : right p = false) : right t = false := by
 cases e : right t with
 | false => rfl
 | true => rw [right_part e hp] at h; cases h
end Shp
namespace Tms
open Shp (Sh Z0C)
theorem right_off {t p : Tm} (hp : p ∈ t.parts) (h : right p = false) : right t = false := by
 cases e : right t with
 | false => rfl
 | true => rw [right_part e hp] at h; cases h
end Tms
namespace Go.Proofs.YtnkdedejfonbmaaGreatDoor
open Go.RowKit
theorem flip {P : Program} {f : FuncId} {args : Array Value} {w : World} {v : Value} (h : Calls P f args w fun e w' => e = .returned v /\ w = w') : Calls P f args w fun e w' => e = .returned v /\ w' = w :=
 h.mono fun _ _ ⟨he, hw⟩ => ⟨he, hw.symm⟩
end Go.Proofs.YtnkdedejfonbmaaGreatDoor
namespace Lex
def isIn (s : List UInt8) (l : List (List UInt8)) : Bool := l.contains s
theorem Z8r {p : UInt8 -> Bool} : ∀ {s : List UInt8}, (s.takeWhile p).length = s.length ↔ s.all p = true
 | [] => by simp
 | x :: r => by
  by_cases hx : p x = true
  {rw [List.takeWhile_cons_of_pos hx, List.length_cons, List.length_cons, List.all_cons, hx, Bool.true_and, <- Z8r (s := r)]; omega}
  {rw [List.takeWhile_cons_of_neg hx]; simp [hx]}
end Lex
namespace Go.Proofs.YtnkdedejfonbmaaGreatDoor
open Go.RowKit
theorem Z1x (c : UInt8) (w : World) :
 Calls Tryz.prog 92 #[.int .u8 (c.toNat : Int)] w fun e w' => e = .returned (.bool (Lex.small c)) /\ w = w' := by
 have hlt := c.toNat_lt
 have H : c.toNat <= 96 \/ (97 <= c.toNat /\ c.toNat <= 122) \/ 123 <= c.toNat := by omega
 have HB : Hid (Lex.small c = (decide (97 <= c.toNat) && decide (c.toNat <= 122))) := Y1 rfl
 obtain ⟨n, hn⟩ : ∃ n, n = c.toNat := ⟨_, rfl⟩
 rw [<- hn] at H HB hlt ⊢
 clear hn
 rcases H with h1 | ⟨h1, h2⟩ | h1
 {have h3 : decide ((97 : Int) <= (n : Int)) = false := decide_eq_false (by omega)
  go_enter Tryz.func92, Tryz.ntmps92
  go_wp2
  go_ret
  exact ⟨by rw [HB.out, decide_eq_false (by omega)]; rfl, rfl⟩}
 {have h3 : decide ((n : Int) <= 122) = true := decide_eq_true (by omega)
  have h4 : decide ((97 : Int) <= (n : Int)) = true := decide_eq_true (by omega)
  go_enter Tryz.func92, Tryz.ntmps92
  go_wp2
  go_ret
  exact ⟨by rw [HB.out, decide_eq_true h1, decide_eq_true h2]; rfl, rfl⟩}
 {have h3 : decide ((n : Int) <= 122) = false := decide_eq_false (by omega)
  have h4 : decide ((97 : Int) <= (n : Int)) = true := decide_eq_true (by omega)
  go_enter Tryz.func92, Tryz.ntmps92
  go_wp2
  go_ret
  exact ⟨by rw [HB.out, decide_eq_false (p := n <= 122) (by omega), Bool.and_false]; rfl, rfl⟩}
theorem Z1L (c : UInt8) (w : World) :
 Calls Tryz.prog 96 #[.int .u8 (c.toNat : Int)] w fun e w' => e = .returned (.bool (Lex.great c)) /\ w = w' := by
 have hlt := c.toNat_lt
 have H : c.toNat <= 64 \/ (65 <= c.toNat /\ c.toNat <= 90) \/ 91 <= c.toNat := by omega
 have HB : Hid (Lex.great c = (decide (65 <= c.toNat) && decide (c.toNat <= 90))) := Y1 rfl
 obtain ⟨n, hn⟩ : ∃ n, n = c.toNat := ⟨_, rfl⟩
 rw [<- hn] at H HB hlt ⊢
 clear hn
 rcases H with h1 | ⟨h1, h2⟩ | h1
 {have h3 : decide ((65 : Int) <= (n : Int)) = false := decide_eq_false (by omega)
  go_enter Tryz.func96, Tryz.ntmps96
  go_wp2
  go_ret
  exact ⟨by rw [HB.out, decide_eq_false (by omega)]; rfl, rfl⟩}
 {have h3 : decide ((n : Int) <= 90) = true := decide_eq_true (by omega)
  have h4 : decide ((65 : Int) <= (n : Int)) = true := decide_eq_true (by omega)
  go_enter Tryz.func96, Tryz.ntmps96
  go_wp2
  go_ret
  exact ⟨by rw [HB.out, decide_eq_true h1, decide_eq_true h2]; rfl, rfl⟩}
 {have h3 : decide ((n : Int) <= 90) = false := decide_eq_false (by omega)
  have h4 : decide ((65 : Int) <= (n : Int)) = true := decide_eq_true (by omega)
  go_enter Tryz.func96, Tryz.ntmps96
  go_wp2
  go_ret
  exact ⟨by rw [HB.out, decide_eq_false (p := n <= 90) (by omega), Bool.and_false]; rfl, rfl⟩}
theorem Z3B (c : UInt8) (w : World) :
 Calls Tryz.prog 120 #[.int .u8 (c.toNat : Int)] w fun e w' => e = .returned (.bool (Lex.digit c)) /\ w = w' := by
 have hlt := c.toNat_lt
 have H : c.toNat <= 47 \/ (48 <= c.toNat /\ c.toNat <= 57) \/ 58 <= c.toNat := by omega
 have HB : Hid (Lex.digit c = (decide (48 <= c.toNat) && decide (c.toNat <= 57))) := Y1 rfl
 obtain ⟨n, hn⟩ : ∃ n, n = c.toNat := ⟨_, rfl⟩
 rw [<- hn] at H HB hlt ⊢
 clear hn
 rcases H with h1 | ⟨h1, h2⟩ | h1
 {have h3 : decide ((48 : Int) <= (n : Int)) = false := decide_eq_false (by omega)
  go_enter Tryz.func120, Tryz.ntmps120
  go_wp2
  go_ret
  exact ⟨by rw [HB.out, decide_eq_false (by omega)]; rfl, rfl⟩}
 {have h3 : decide ((n : Int) <= 57) = true := decide_eq_true (by omega)
  have h4 : decide ((48 : Int) <= (n : Int)) = true := decide_eq_true (by omega)
  go_enter Tryz.func120, Tryz.ntmps120
  go_wp2
  go_ret
  exact ⟨by rw [HB.out, decide_eq_true h1, decide_eq_true h2]; rfl, rfl⟩}
 {have h3 : decide ((n : Int) <= 57) = false := decide_eq_false (by omega)
  have h4 : decide ((48 : Int) <= (n : Int)) = true := decide_eq_true (by omega)
  go_enter Tryz.func120, Tryz.ntmps120
  go_wp2
  go_ret
  exact ⟨by rw [HB.out, decide_eq_false (p := n <= 57) (by omega), Bool.and_false]; rfl, rfl⟩}
theorem Zfu {s : List UInt8} {l : List (List UInt8)} {i : Nat} (hi : i < l.length) (h : (s == l[i]'hi) = true) : Lex.isIn s l = true := by
 unfold Lex.isIn
 rw [List.contains_iff_mem, beq_iff_eq.1 h]; exact List.getElem_mem _
theorem Zfv {s : List UInt8} {l : List (List UInt8)} (h : ∀ j (hj : j < l.length), (s == l[j]'hj) = false) : Lex.isIn s l = false := by
 unfold Lex.isIn
 cases hq : l.contains s with
 | false => rfl
 | true =>
  obtain ⟨j, hj, e⟩ := List.mem_iff_getElem.1 (List.contains_iff_mem.1 hq)
  have := h j hj
  rw [e] at this; simp at this
theorem ZbO (s : List UInt8) (A : Option Addr) (cap : Nat) (l : List (List UInt8)) (w : World) (hA : Strs w w.heap.size A (strs l)) (hl : l.length <= 1000000) :
 Calls Tryz.prog 121 #[.string ⟨s.toArray⟩, .slice A l.length cap] w fun e w' => e = .returned (.bool (Lex.isIn s l)) /\ w = w' := by
 have HA := Y1 hA
 have hsl : (strs l).length = l.length := by simp [strs]
 clear hA
 go_enter Tryz.func121, Tryz.ntmps121
 go_wp2_with fail
 go_loopw [5] (fun ii wr => ∃ i : Nat, ii = .int .i64 i /\ i <= l.length /\ Hid (∀ j (hj : j < l.length), j < i -> (s == l[j]'hj) = false) /\ w = wr)
  (fun i _ => l.length - (intOf i).toNat)
 case atStart => exact ⟨0, rfl, Nat.zero_le _, Y1 (fun j _ hj => absurd hj (by omega)), rfl⟩
 case round =>
  obtain ⟨i, rfl, hi, HN, rfl⟩ := hrel
  by_cases hlt : i < l.length
  {have hi1 : (i : Int) < (l.length : Int) := by omega
   rcases HA.out with h0 | ⟨g, off, rfl, hg, hc⟩
   {omega}
   {have hcell := hc i (by omega)
    have e1 : (strs l)[i]'(by omega) = ⟨(l[i]'hlt).toArray⟩ := by simp [strs]
    rw [e1] at hcell
    obtain ⟨p, hp⟩ : ∃ p, p = l[i]'hlt := ⟨_, rfl⟩
    rw [<- hp] at hcell
    have HP := Y1 hp
    clear hc e1 hp
    cases hq : (s == p)
    {have HM : Hid ((s == l[i]'hlt) = false) := Y1 (by rw [<- HP.out]; exact hq)
     go_wp2
     go_roundw
     case rel => exact ⟨i + 1, by go_num, by omega, Y1 (fun j hj hji => by
      rcases Nat.lt_succ_iff_lt_or_eq.1 hji with h | rfl
      {exact HN.out j hj h}
      · exact HM.out), trivial⟩
     case measure => simp [intOf]; omega}
    {have HM : Hid (Lex.isIn s l = true) := Y1 (Zfu hlt (by rw [<- HP.out]; exact hq))
     go_wp2
     go_ret
     exact ⟨by rw [HM.out]; rfl, rfl⟩}}}
  {have hi1 : ¬ (i : Int) < (l.length : Int) := by omega
   have HM : Hid (Lex.isIn s l = false) := Y1 (Zfv (fun j hj => HN.out j hj (by omega)))
   go_wp2
   go_ret
   exact ⟨by rw [HM.out]; rfl, rfl⟩}
theorem ZdG (W : World) (l : List (List UInt8)) (g : Nat) (hg : g = W.heap.size) : Strs (W.alloc (.cells ((strs l).map Value.string).toArray 9)) (W.alloc (.cells ((strs l).map Value.string).toArray 9)).heap.size (some ⟨g, 0, none⟩) (strs l) := by
 subst hg
 refine Or.inr ⟨W.heap.size, 0, rfl, by simp, fun i hi => ?_⟩
 rw [Nat.zero_add]
 simp [go_sem, hi]
theorem ZbP (s : List UInt8) (w : World) :
 Y9 94 #[.string ⟨s.toArray⟩] w (.bool (Lex.isWord s)) := by
 have HS : Hid (Strs (w.alloc (.cells #[.string ⟨#[109, 111, 100, 117, 108, 101]⟩, .string ⟨#[105, 109, 112, 111, 114, 116]⟩, .string ⟨#[112, 105, 110]⟩, .string ⟨#[114, 97, 110, 103, 101]⟩, .string ⟨#[116, 121, 112, 101]⟩, .string ⟨#[111, 112, 97, 113, 117, 101]⟩, .string ⟨#[108, 101, 116]⟩, .string ⟨#[105, 110]⟩, .string ⟨#[101, 120, 112, 111, 114, 116]⟩, .string ⟨#[102, 117, 110]⟩, .string ⟨#[105, 102]⟩, .string ⟨#[116, 104, 101, 110]⟩, .string ⟨#[101, 108, 115, 101]⟩, .string ⟨#[99, 97, 115, 101]⟩, .string ⟨#[111, 102]⟩, .string ⟨#[97, 115]⟩, .string ⟨#[110, 101, 119]⟩, .string ⟨#[114, 97, 119]⟩, .string ⟨#[116, 114, 117, 101]⟩, .string ⟨#[102, 97, 108, 115, 101]⟩] 9)) (w.alloc (.cells #[.string ⟨#[109, 111, 100, 117, 108, 101]⟩, .string ⟨#[105, 109, 112, 111, 114, 116]⟩, .string ⟨#[112, 105, 110]⟩, .string ⟨#[114, 97, 110, 103, 101]⟩, .string ⟨#[116, 121, 112, 101]⟩, .string ⟨#[111, 112, 97, 113, 117, 101]⟩, .string ⟨#[108, 101, 116]⟩, .string ⟨#[105, 110]⟩, .string ⟨#[101, 120, 112, 111, 114, 116]⟩, .string ⟨#[102, 117, 110]⟩, .string ⟨#[105, 102]⟩, .string ⟨#[116, 104, 101, 110]⟩, .string ⟨#[101, 108, 115, 101]⟩, .string ⟨#[99, 97, 115, 101]⟩, .string ⟨#[111, 102]⟩, .string ⟨#[97, 115]⟩, .string ⟨#[110, 101, 119]⟩, .string ⟨#[114, 97, 119]⟩, .string ⟨#[116, 114, 117, 101]⟩, .string ⟨#[102, 97, 108, 115, 101]⟩] 9)).heap.size (some ⟨w.heap.size, 0, none⟩) (strs Lex.words)) := Y1 (ZdG w Lex.words _ rfl)
 have hb := Z02 w (.cells #[.string ⟨#[109, 111, 100, 117, 108, 101]⟩, .string ⟨#[105, 109, 112, 111, 114, 116]⟩, .string ⟨#[112, 105, 110]⟩, .string ⟨#[114, 97, 110, 103, 101]⟩, .string ⟨#[116, 121, 112, 101]⟩, .string ⟨#[111, 112, 97, 113, 117, 101]⟩, .string ⟨#[108, 101, 116]⟩, .string ⟨#[105, 110]⟩, .string ⟨#[101, 120, 112, 111, 114, 116]⟩, .string ⟨#[102, 117, 110]⟩, .string ⟨#[105, 102]⟩, .string ⟨#[116, 104, 101, 110]⟩, .string ⟨#[101, 108, 115, 101]⟩, .string ⟨#[99, 97, 115, 101]⟩, .string ⟨#[111, 102]⟩, .string ⟨#[97, 115]⟩, .string ⟨#[110, 101, 119]⟩, .string ⟨#[114, 97, 119]⟩, .string ⟨#[116, 114, 117, 101]⟩, .string ⟨#[102, 97, 108, 115, 101]⟩] 9)
 have ha := fun W h => ZbO s (some ⟨w.heap.size, 0, none⟩) 20 Lex.words W h (by decide)
 have HI : Hid (Lex.isWord s = Lex.isIn s Lex.words) := Y1 rfl
 rw [show Lex.words.length = 20 from rfl] at ha
 go_enter Tryz.func94, Tryz.ntmps94
 go_wp2_with fail
 refine (ha _ HS.out).mono ?_
 rintro e w1 ⟨rfl, rfl⟩
 go_wp2
 go_ret
 exact ⟨by rw [HI.out]; rfl, hb⟩
theorem ZdH {c : UInt8} : Lex.nameB c = (Lex.small c || Lex.great c || Lex.digit c || c == 95) := rfl
theorem ZdI (s : ByteArray) (hs : s.size <= 9223372036854775806) (w : World) :
 Calls Tryz.prog 93 #[.string s] w fun e w' => e = .returned (.int .i64 (s.data.toList.takeWhile Lex.nameB).length) /\ w = w' := by
 have hsl : s.data.toList.length = s.size := (Lib.size_eq s).symm
 go_enter Tryz.func93, Tryz.ntmps93
 go_wp2_with fail
 go_loopw [3] (fun ii wr => ∃ n : Nat, ii = .int .i64 n /\ n <= s.size /\ Hid (∀ j (hj : j < s.data.toList.length), j < n -> Lex.nameB (s.data.toList[j]'hj) = true) /\ w = wr)
  (fun i _ => s.size - (intOf i).toNat)
 case atStart => exact ⟨0, rfl, Nat.zero_le _, Y1 (fun j _ hj => absurd hj (by omega)), rfl⟩
 case round =>
  obtain ⟨n, rfl, hn, HN, rfl⟩ := hrel
  by_cases hlt : n < s.size
  {have hi1 : (n : Int) < (s.size : Int) := by omega
   obtain ⟨c, hc⟩ : ∃ c, c = s[n]'hlt := ⟨_, rfl⟩
   have hcl : s.data.toList[n]'(by omega) = c := hc.symm
   have HCL := Y1 hcl
   have hidx : ∀ W, (Instr.index 9 (.string s) (.int .i64 (n : Int))).run Tryz.prog W = .ok (.int .u8 c.toNat) W := fun W => by
    rw [hc]; exact Z0K s n hlt W
   have hcn := c.toNat_lt
   have h95 := Zbl c
   have HB := Y1 (@ZdH c)
   clear hcl hc
   have yes : Lex.nameB c = true -> Hid (∀ j (hj : j < s.data.toList.length), j < n + 1 -> Lex.nameB (s.data.toList[j]'hj) = true) := fun h => Y1 (fun j hj hji => by
    rcases Nat.lt_succ_iff_lt_or_eq.1 hji with h' | rfl
    {exact HN.out j hj h'}
    · rw [HCL.out]; exact h)
   have no : Lex.nameB c = false -> Hid ((s.data.toList.takeWhile Lex.nameB).length = n) := fun h => Y1 (Lex.Z8g (by omega) HN.out (fun h' => by rw [HCL.out]; exact h))
   cases h1 : Lex.small c
   {cases h2 : Lex.great c
    {cases h3 : Lex.digit c
     {cases h4 : (c == 95)
      {rw [h4] at h95
       have HM := no (by rw [HB.out, h1, h2, h3, h4]; rfl)
       clear yes no
       go_wp2_with fail
       refine (Z1x c _).mono ?_
       rintro e w2 ⟨rfl, rfl⟩
       rw [h1]
       go_wp2_with fail
       refine (Z1L c _).mono ?_
       rintro e w2 ⟨rfl, rfl⟩
       rw [h2]
       go_wp2_with fail
       refine (Z3B c _).mono ?_
       rintro e w2 ⟨rfl, rfl⟩
       rw [h3]
       go_wp2
       go_ret
       exact ⟨by rw [HM.out]; rfl, rfl⟩}
      {rw [h4] at h95
       have HM := yes (by rw [HB.out, h1, h2, h3, h4]; rfl)
       clear yes no
       go_wp2_with fail
       refine (Z1x c _).mono ?_
       rintro e w2 ⟨rfl, rfl⟩
       rw [h1]
       go_wp2_with fail
       refine (Z1L c _).mono ?_
       rintro e w2 ⟨rfl, rfl⟩
       rw [h2]
       go_wp2_with fail
       refine (Z3B c _).mono ?_
       rintro e w2 ⟨rfl, rfl⟩
       rw [h3]
       go_wp2
       go_roundw
       case rel => exact ⟨n + 1, by go_num, by omega, HM, trivial⟩
       case measure => simp [intOf]; omega}}
     {have HM := yes (by rw [HB.out, h1, h2, h3]; rfl)
      clear yes no
      go_wp2_with fail
      refine (Z1x c _).mono ?_
      rintro e w2 ⟨rfl, rfl⟩
      rw [h1]
      go_wp2_with fail
      refine (Z1L c _).mono ?_
      rintro e w2 ⟨rfl, rfl⟩
      rw [h2]
      go_wp2_with fail
      refine (Z3B c _).mono ?_
      rintro e w2 ⟨rfl, rfl⟩
      rw [h3]
      go_wp2
      go_roundw
      case rel => exact ⟨n + 1, by go_num, by omega, HM, trivial⟩
      case measure => simp [intOf]; omega}}
    {have HM := yes (by rw [HB.out, h1, h2]; rfl)
     clear yes no
     go_wp2_with fail
     refine (Z1x c _).mono ?_
     rintro e w2 ⟨rfl, rfl⟩
     rw [h1]
     go_wp2_with fail
     refine (Z1L c _).mono ?_
     rintro e w2 ⟨rfl, rfl⟩
     rw [h2]
     go_wp2
     go_roundw
     case rel => exact ⟨n + 1, by go_num, by omega, HM, trivial⟩
     case measure => simp [intOf]; omega}}
   {have HM := yes (by rw [HB.out, h1]; rfl)
    clear yes no
    go_wp2_with fail
    refine (Z1x c _).mono ?_
    rintro e w2 ⟨rfl, rfl⟩
    rw [h1]
    go_wp2
    go_roundw
    case rel => exact ⟨n + 1, by go_num, by omega, HM, trivial⟩
    case measure => simp [intOf]; omega}}
  {have hi1 : ¬ (n : Int) < (s.size : Int) := by omega
   have HM : Hid ((s.data.toList.takeWhile Lex.nameB).length = n) := Y1 (Lex.Z8g (by omega) HN.out (fun h' => absurd h' (by omega)))
   go_wp2
   go_ret
   exact ⟨by rw [HM.out]; rfl, rfl⟩}
end Go.Proofs.YtnkdedejfonbmaaGreatDoor
namespace Go.Proofs.YtnkdedejfonbmaaGreatDoor
open Go.RowKit
theorem Z6d (l : List UInt8) (hl : l.length <= 1000000) (w : World) :
 Calls Tryz.prog 93 #[.string ⟨l.toArray⟩] w fun e w' => e = .returned (.int .i64 (l.takeWhile Lex.nameB).length) /\ w = w' :=
 ZdI ⟨l.toArray⟩ (by rw [Z04]; omega) w
theorem Zc0 (c : UInt8) (r : List UInt8) : Lex.isName (c :: r) = (decide ((c :: r).length <= 24) && Lex.small c && (c :: r).all Lex.nameB && !Lex.isWord (c :: r)) := rfl
theorem Z0W (l : List UInt8) (hl : l.length <= 9223372036854775807) (w : World) :
 Y9 64 #[.string ⟨l.toArray⟩] w (.bool (Lex.isName l)) := by
 cases l with
 | nil =>
  have HM : Hid (Lex.isName [] = false) := Y1 rfl
  go_enter Tryz.func64, Tryz.ntmps64
  go_wp2
  go_ret
  exact ⟨by rw [HM.out]; rfl, Below.refl _ _⟩
 | cons c r =>
  have HM := Y1 (Zc0 c r)
  have HT := Y1 (Lex.Z8r (p := Lex.nameB) (s := c :: r))
  obtain ⟨l, hll⟩ : ∃ l : List UInt8, l = c :: r := ⟨_, rfl⟩
  rw [<- hll] at hl HM HT ⊢
  have hz : (⟨l.toArray⟩ : ByteArray).size = l.length := Z04 _
  have he : l.isEmpty = false := by rw [hll]; rfl
  have hidx : ∀ W, (Instr.index 9 (.string ⟨l.toArray⟩) (.int .i64 0)).run Tryz.prog W = .ok (.int .u8 c.toNat) W := fun W => by rw [hll]; rfl
  clear hll
  by_cases h24 : l.length <= 24
  {have h24d : decide ((l.length : Int) <= 24) = true := decide_eq_true (by omega)
   cases h1 : Lex.small c
   {have HF : Hid (Lex.isName l = false) := Y1 (by rw [HM.out, h1]; simp)
    go_enter Tryz.func64, Tryz.ntmps64
    go_wp2_with fail
    refine (Z1x c _).mono ?_
    rintro e w2 ⟨rfl, rfl⟩
    rw [h1]
    go_wp2
    go_ret
    exact ⟨by rw [HF.out]; rfl, Below.refl _ _⟩}
   {have H1 := Y1 h1
    go_enter Tryz.func64, Tryz.ntmps64
    go_wp2_with fail
    refine (Z1x c _).mono ?_
    rintro e w2 ⟨rfl, rfl⟩
    rw [h1]
    clear h1
    go_wp2_with fail
    refine (Z6d l (by omega) _).mono ?_
    rintro e w2 ⟨rfl, rfl⟩
    obtain ⟨k, hk⟩ : ∃ k, k = (l.takeWhile Lex.nameB).length := ⟨_, rfl⟩
    rw [<- hk] at HT ⊢
    clear hk
    by_cases hkl : k = l.length
    {have hkd : ((k : Int) == (l.length : Int)) = true := by rw [beq_iff_eq]; omega
     have HA : Hid (l.all Lex.nameB = true) := Y1 (HT.out.1 hkl)
     have HF : Hid (Lex.isName l = !Lex.isWord l) := Y1 (by rw [HM.out, H1.out, HA.out, decide_eq_true h24]; simp)
     clear hkl
     go_wp2_with fail
     refine (ZbP l _).mono ?_
     rintro e w2 ⟨rfl, hb2⟩
     go_wp2
     go_ret
     exact ⟨by rw [HF.out]; rfl, hb2⟩}
    {have hkd : ((k : Int) == (l.length : Int)) = false := by rw [beq_eq_false_iff_ne]; omega
     have HF : Hid (Lex.isName l = false) := Y1 (by
      have : l.all Lex.nameB = false := by
       cases hq : l.all Lex.nameB with
       | false => rfl
       | true => exact absurd (HT.out.2 hq) hkl
      rw [HM.out, this]; simp)
     clear hkl
     go_wp2
     go_ret
     exact ⟨by rw [HF.out]; rfl, Below.refl _ _⟩}}}
  {have h24d : decide ((l.length : Int) <= 24) = false := decide_eq_false (by omega)
   have HF : Hid (Lex.isName l = false) := Y1 (by rw [HM.out, decide_eq_false h24]; rfl)
   go_enter Tryz.func64, Tryz.ntmps64
   go_wp2
   go_ret
   exact ⟨by rw [HF.out]; rfl, Below.refl _ _⟩}
theorem Za6 (c : UInt8) (r : List UInt8) : Lex.isUpper (c :: r) = (decide ((c :: r).length <= 24) && Lex.great c && (c :: r).all Lex.nameB) := rfl
theorem Z3H (l : List UInt8) (hl : l.length <= 9223372036854775807) (w : World) :
 Y9 67 #[.string ⟨l.toArray⟩] w (.bool (Lex.isUpper l)) := by
 cases l with
 | nil =>
  have HM : Hid (Lex.isUpper [] = false) := Y1 rfl
  go_enter Tryz.func67, Tryz.ntmps67
  go_wp2
  go_ret
  exact ⟨by rw [HM.out]; rfl, Below.refl _ _⟩
 | cons c r =>
  have HM := Y1 (Za6 c r)
  have HT := Y1 (Lex.Z8r (p := Lex.nameB) (s := c :: r))
  obtain ⟨l, hll⟩ : ∃ l : List UInt8, l = c :: r := ⟨_, rfl⟩
  rw [<- hll] at hl HM HT ⊢
  have hz : (⟨l.toArray⟩ : ByteArray).size = l.length := Z04 _
  have he : l.isEmpty = false := by rw [hll]; rfl
  have hidx : ∀ W, (Instr.index 9 (.string ⟨l.toArray⟩) (.int .i64 0)).run Tryz.prog W = .ok (.int .u8 c.toNat) W := fun W => by rw [hll]; rfl
  clear hll
  by_cases h24 : l.length <= 24
  {have h24d : decide ((l.length : Int) <= 24) = true := decide_eq_true (by omega)
   cases h1 : Lex.great c
   {have HF : Hid (Lex.isUpper l = false) := Y1 (by rw [HM.out, h1]; simp)
    go_enter Tryz.func67, Tryz.ntmps67
    go_wp2_with fail
    refine (Z1L c _).mono ?_
    rintro e w2 ⟨rfl, rfl⟩
    rw [h1]
    go_wp2
    go_ret
    exact ⟨by rw [HF.out]; rfl, Below.refl _ _⟩}
   {have H1 := Y1 h1
    go_enter Tryz.func67, Tryz.ntmps67
    go_wp2_with fail
    refine (Z1L c _).mono ?_
    rintro e w2 ⟨rfl, rfl⟩
    rw [h1]
    clear h1
    go_wp2_with fail
    refine (Z6d l (by omega) _).mono ?_
    rintro e w2 ⟨rfl, rfl⟩
    obtain ⟨k, hk⟩ : ∃ k, k = (l.takeWhile Lex.nameB).length := ⟨_, rfl⟩
    rw [<- hk] at HT ⊢
    clear hk
    by_cases hkl : k = l.length
    {have hkd : ((k : Int) == (l.length : Int)) = true := by rw [beq_iff_eq]; omega
     have HA : Hid (l.all Lex.nameB = true) := Y1 (HT.out.1 hkl)
     have HF : Hid (Lex.isUpper l = true) := Y1 (by rw [HM.out, H1.out, HA.out, decide_eq_true h24]; rfl)
     clear hkl
     go_wp2
     go_ret
     exact ⟨by rw [HF.out]; rfl, Below.refl _ _⟩}
    {have hkd : ((k : Int) == (l.length : Int)) = false := by rw [beq_eq_false_iff_ne]; omega
     have HF : Hid (Lex.isUpper l = false) := Y1 (by
      have : l.all Lex.nameB = false := by
       cases hq : l.all Lex.nameB with
       | false => rfl
       | true => exact absurd (HT.out.2 hq) hkl
      rw [HM.out, this]; simp)
     clear hkl
     go_wp2
     go_ret
     exact ⟨by rw [HF.out]; rfl, Below.refl _ _⟩}}}
  {have h24d : decide ((l.length : Int) <= 24) = false := decide_eq_false (by omega)
   have HF : Hid (Lex.isUpper l = false) := Y1 (by rw [HM.out, decide_eq_false h24]; rfl)
   go_enter Tryz.func67, Tryz.ntmps67
   go_wp2
   go_ret
   exact ⟨by rw [HF.out]; rfl, Below.refl _ _⟩}
end Go.Proofs.YtnkdedejfonbmaaGreatDoor
namespace Go.Proofs.YtnkdedejfonbmaaGreatDoor
open Go.RowKit Shp
theorem Za7 (A : Option Addr) (c : Nat) (l : List (List UInt8)) (p : Nat) (w : World) (hA : Strs w w.heap.size A (strs l)) (hl : l.length <= 9223372036854775807) (hx : ∀ x ∈ l, x.length <= 9223372036854775807) :
 Y9 155 #[.slice A l.length c, .int .i64 (p : Int)] w (.bool (areNames l && decide (l.length = p))) := by
 have HA := Y1 hA
 have HX := Y1 hx
 clear hA hx
 go_enter Tryz.func155, Tryz.ntmps155
 go_wp2_with fail
 go_loopw [5] (fun ii wr => ∃ i : Nat, ii = .int .i64 i /\ i <= l.length /\ Hid (∀ j (hj : j < l.length), j < i -> Lex.isName (l[j]'hj) = true /\ ∀ k (hk : k < j), l[k]'(by omega) ≠ l[j]'hj) /\ Below w.heap.size w wr)
  (fun i _ => l.length - (intOf i).toNat)
 case atStart => exact ⟨0, rfl, Nat.zero_le _, Y1 (fun j _ hj => absurd hj (by omega)), Below.refl _ _⟩
 case round =>
  obtain ⟨i, rfl, hi, HN, hb⟩ := hrel
  by_cases hlt : i < l.length
  {have hi1 : (i : Int) < (l.length : Int) := by omega
   rcases (HA.out.next hb).cell7 with h0 | ⟨g, off, rfl, hg, hc⟩
   {omega}
   {have hcell := hc i hlt
    obtain ⟨x, hx⟩ : ∃ x, x = l[i]'hlt := ⟨_, rfl⟩
    rw [<- hx] at hcell
    have hxl : x.length <= 9223372036854775807 := by rw [hx]; exact HX.out _ (List.getElem_mem _)
    have HE := Y1 hx
    have HC := Y1 hc
    clear hx hc
    cases hn : Lex.isName x with
    | false =>
     have HF : Hid (areNames l = false) := Y1 (Z3b hlt (by rw [<- HE.out]; exact hn))
     have hw := Z0W x hxl wr
     rw [hn] at hw
     clear hn
     go_wp2_with (refine hw.mono ?_; rintro e w' ⟨rfl, hb'⟩)
     go_ret
     exact ⟨by rw [HF.out]; rfl, Z00 hb hb'⟩
    | true =>
     have HT : Hid (Lex.isName (l[i]'hlt) = true) := Y1 (by rw [<- HE.out]; exact hn)
     have hw := Z0W x hxl wr
     rw [hn] at hw
     clear hn
     go_wp2_with (refine hw.mono ?_; rintro e w' ⟨rfl, hb'⟩)
     have hbw := Z00 hb hb'
     have HC2 : Hid (∀ j (hj : j < l.length), w'.cell? ⟨g, off + j, none⟩ = some (.string ⟨(l[j]'hj).toArray⟩)) := Y1 (fun j hj => ((hb'.cell (p := ⟨g, off + j, none⟩) hg).trans (HC.out j hj)))
     have hcell2 := HC2.out i hlt
     rw [<- HE.out] at hcell2
     have HH2 := Y1 hcell2
     have HBW := Y1 hbw
     clear hw hb hb' hbw hcell hcell2
     go_loopw [6] (fun kk wr2 => ∃ k : Nat, kk = .int .i64 k /\ k <= i /\ Hid (∀ j (hj : j < i), j < k -> l[j]'(by omega) ≠ l[i]'hlt) /\ Hid (Below w'.heap.size w' wr2))
      (fun k _ => i - (intOf k).toNat)
     case atStart => exact ⟨0, rfl, Nat.zero_le _, Y1 (fun j _ hj => absurd hj (by omega)), Y1 Y2⟩
     case round =>
      obtain ⟨k, rfl, hk, HK, HB2⟩ := hrel
      have hgw : g < w'.heap.size := lt_of_cell HH2.out
      by_cases hki : k < i
      {have hk1 : (k : Int) < (i : Int) := by omega
       have hk2 : (k : Int) < (l.length : Int) := by omega
       have hck := (HB2.out.cell (p := ⟨g, off + k, none⟩) hgw).trans (HC2.out k (by omega))
       have hci := (HB2.out.cell (p := ⟨g, off + i, none⟩) hgw).trans HH2.out
       obtain ⟨y, hy⟩ : ∃ y, y = l[k]'(by omega) := ⟨_, rfl⟩
       rw [<- hy] at hck
       have HY := Y1 hy
       clear hy
       cases hq : (y == x)
       {have HM : Hid (l[k]'(by omega) ≠ l[i]'hlt) := Y1 (by rw [<- HY.out, <- HE.out]; intro h; rw [h] at hq; simp at hq)
        go_wp2_with fail
        go_quiet (fail)
        go_wp2
        go_roundw
        case rel => exact ⟨k + 1, by go_num, by omega, Y1 (fun j hj hji => by
         rcases Nat.lt_succ_iff_lt_or_eq.1 hji with h | rfl
         {exact HK.out j hj h}
         · exact HM.out), Y1 (Z0k HB2.out _)⟩
        case measure => simp [intOf]; omega}
       {have HF : Hid (areNames l = false) := Y1 (Z2m hlt hki (by rw [<- HY.out, <- HE.out]; simpa using hq))
        go_wp2_with fail
        go_quiet (fail)
        go_wp2
        go_ret
        exact ⟨by rw [HF.out]; rfl, Z0k (Z00 HBW.out HB2.out) _⟩}}
      {have hke : k = i := by omega
       have HN2 : Hid (∀ j (hj : j < l.length), j < i + 1 -> Lex.isName (l[j]'hj) = true /\ ∀ k (hk : k < j), l[k]'(by omega) ≠ l[j]'hj) := Y1 (fun j hj hji => by
        rcases Nat.lt_succ_iff_lt_or_eq.1 hji with h | rfl
        {exact HN.out j hj h}
        · exact ⟨HT.out, fun m hm => HK.out m hm (by omega)⟩)
       have hk1 : ¬ (k : Int) < (i : Int) := by omega
       clear hke
       go_wp2
       go_roundw
       case rel => exact ⟨i + 1, by go_num, by omega, HN2, Z00 HBW.out HB2.out⟩
       case measure => simp [intOf]; omega}}}
  {have hi1 : ¬ (i : Int) < (l.length : Int) := by omega
   have HM : Hid (areNames l = true) := Y1 (Z3A (fun j hj => (HN.out j hj (by omega)).1) (fun j hj => (HN.out j hj (by omega)).2))
   go_wp2
   go_ret
   exact ⟨Z03 (by rw [HM.out, Bool.true_and, Bool.eq_iff_iff]; simp; omega), hb⟩}
theorem Za8 (t : Sh) (q : Ptr) (w : World) (hq : ShAt w w.heap.size q t) (hk : t.kind = 9 \/ t.kind = 10) :
 Calls Tryz.prog 139 #[.agg (Y8 t q)] w
  fun e w' => e = .returned (.bool (fits t)) /\ Below w.heap.size w w' := by
 have HS := Y1 hq.small
 have hB := Z0c w t q
 have HB := Y1 hB
 have hb0 := Z02 w (.cells (Y8 t q) 45)
 have HB0 := Y1 hb0
 have HF := Y1 (Z3r hk)
 have HO : Hid (ofOk t = (Lex.isName t.of_ || (t.of_ == [] && decide (t.kind = 9) && !plain t.name))) := Y1 rfl
 have HPL : Hid (plain t.name = (t.name == [73, 110, 116] || t.name == [66, 111, 111, 108] || t.name == [84, 101, 120, 116] || t.name == [65, 110, 121])) := Y1 rfl
 obtain ⟨h9, h10⟩ : ((t.kind == 9) = true \/ (t.kind == 9) = false /\ (t.kind == 10) = true) /\ True := ⟨by rcases hk with h | h <;> simp [h], trivial⟩
 have HD9 : Hid (decide (t.kind = 9) = (t.kind == 9)) := Y1 (by rw [Bool.eq_iff_iff]; simp)
 clear hB hb0 hq h10 hk
 rcases h9 with h9 | ⟨h9, h10⟩
 all_goals
  have H9 := Y1 h9
  go_enter Tryz.func139, Tryz.ntmps139
  go_upto_region 1 with fail
  generalize hW0 : w.alloc (.cells (Y8 t q) 45) = W0 at HB HB0 ⊢
  clear hW0
  obtain ⟨_, ⟨c0, c1, c2, c3, c4⟩, _⟩ := HB.out
  go_upto_region 2 with fail
  go_cut [3] (fun p wx => p = .bool (plain t.name) /\ W0 = wx)
  case first =>
   cases e1 : (t.name == [73, 110, 116])
   {cases e2 : (t.name == [66, 111, 111, 108])
    {cases e3 : (t.name == [84, 101, 120, 116])
     {cases e4 : (t.name == [65, 110, 121])
      all_goals
       have HE : Hid _ := Y1 (show plain t.name = _ from by rw [HPL.out, e1, e2, e3, e4])
       go_wp2_with fail
       go_meet
       exact ⟨by rw [HE.out]; rfl, rfl⟩}
     {have HE : Hid _ := Y1 (show plain t.name = _ from by rw [HPL.out, e1, e2, e3])
      go_wp2_with fail
      go_meet
      exact ⟨by rw [HE.out]; rfl, rfl⟩}}
    {have HE : Hid _ := Y1 (show plain t.name = _ from by rw [HPL.out, e1, e2])
     go_wp2_with fail
     go_meet
     exact ⟨by rw [HE.out]; rfl, rfl⟩}}
   {have HE : Hid _ := Y1 (show plain t.name = _ from by rw [HPL.out, e1])
    go_wp2_with fail
    go_meet
    exact ⟨by rw [HE.out]; rfl, rfl⟩}
  case rest =>
   obtain ⟨rfl, rfl⟩ := hcut
   have hlo := HS.out.o
   have hln := HS.out.n
   generalize plain t.name = pl at HO ⊢
   go_upto_region 3 with fail
   go_cut [4] (fun o wx => o = .bool (ofOk t) /\ Below W0.heap.size W0 wx)
   case first =>
    have hw := Z0W t.of_ hlo W0
    have hblk := HB.out.1
    cases hn : Lex.isName t.of_
    {cases ho : (t.of_ == [])
     {have HE : Hid (ofOk t = false) := Y1 (by rw [HO.out, hn, ho]; rfl)
      have hoe := Z0o ho
      rw [hn] at hw
      clear hn ho
      go_wp2_with fail
      refine hw.mono ?_
      rintro e w' ⟨rfl, hb'⟩
      have c1' := (hb'.cell (p := ⟨w.heap.size, 1, none⟩) hblk).trans c1
      go_wp2_with fail
      go_meet
      exact ⟨by (first | (rw [HE.out]; done) | (rw [HE.out]; rfl)), hb'⟩}
     {have HE : Hid (ofOk t = ((t.kind == 9) && !pl)) := Y1 (by rw [HO.out, hn, ho, HD9.out]; rfl)
      rw [H9.out] at HE
      have hoe := Z0o ho
      rw [hn] at hw
      clear hn ho
      go_wp2_with fail
      refine hw.mono ?_
      rintro e w' ⟨rfl, hb'⟩
      have c1' := (hb'.cell (p := ⟨w.heap.size, 1, none⟩) hblk).trans c1
      have c0' := (hb'.cell (p := ⟨w.heap.size, 0, none⟩) hblk).trans c0
      go_wp2_with fail
      go_meet
      exact ⟨by (first | (rw [HE.out]; done) | (rw [HE.out]; rfl)), hb'⟩}}
    {have HE : Hid (ofOk t = true) := Y1 (by rw [HO.out, hn]; rfl)
     rw [hn] at hw
     clear hn
     go_wp2_with fail
     refine hw.mono ?_
     rintro e w' ⟨rfl, hb'⟩
     go_wp2_with fail
     go_meet
     exact ⟨by (first | (rw [HE.out]; done) | (rw [HE.out]; rfl)), hb'⟩}
   case rest =>
    obtain ⟨rfl, hb'⟩ := hcut
    have hbw : Below w.heap.size w _ := HB0.out.trans (hb'.mono HB0.out.size)
    obtain ⟨_, ⟨d0, d1, d2, d3, d4⟩, _⟩ := HB.out.next hb'
    clear c0 c1 c2 c3 c4
    have hw := fun wx => Z3H t.name hln wx
    have hblk := HB.out.1
    generalize ofOk t = ok at HF ⊢
    cases hn : Lex.isUpper t.name
    {rw [hn] at HF
     simp only [hn] at hw
     clear hn
     go_wp2_with fail
     refine (hw _).mono ?_
     rintro e w' ⟨rfl, hb2⟩
     go_wp2
     go_ret
     exact ⟨by rw [HF.out]; rfl, hbw.trans (hb2.mono hbw.size)⟩}
    {rw [hn] at HF
     simp only [hn] at hw
     clear hn
     cases ok
     {go_wp2_with fail
      refine (hw _).mono ?_
      rintro e w' ⟨rfl, hb2⟩
      go_wp2
      go_ret
      exact ⟨by rw [HF.out]; rfl, hbw.trans (hb2.mono hbw.size)⟩}
     {have HX := Y1 (HB.out.next hb')
      cases hz : decide (t.names.length = 0)
      {have HF2 := HF
       rw [hz] at HF2
       have hz2 : ((t.names.length : Int) == 0) = false := by rw [Z0z]; exact hz
       have HZ := Y1 hz
       clear hz
       go_wp2_with fail
       refine (hw _).mono ?_
       rintro e w' ⟨rfl, hb2⟩
       obtain ⟨_, ⟨e0, e1, e2, e3, e4⟩, _⟩ := HX.out.next hb2
       go_wp2
       go_ret
       exact ⟨by rw [HF2.out]; rfl, hbw.trans (hb2.mono hbw.size)⟩}
      {have HF2 := HF
       rw [hz] at HF2
       have hz2 : ((t.names.length : Int) == 0) = true := by rw [Z0z]; exact hz
       clear hz
       go_wp2_with fail
       refine (hw _).mono ?_
       rintro e w' ⟨rfl, hb2⟩
       obtain ⟨_, ⟨e0, e1, e2, e3, e4⟩, _⟩ := HX.out.next hb2
       go_wp2
       go_ret
       exact ⟨Z03 (by rw [HF2.out, Bool.eq_iff_iff]; simp), hbw.trans (hb2.mono hbw.size)⟩}}}
theorem Zc1 (t : Sh) : ∀ (q : Ptr) (w : World), ShAt w w.heap.size q t -> deep t <= 1000000 ->
 Calls Tryz.prog 118 #[.agg (Y8 t q)] w
  fun e w' => e = .returned (.int .i64 (deep t : Int)) /\ Below w.heap.size w w' := by
 induction t using Sh.ind with
 | h t ih =>
 intro q w hq hd
 have HM := Y1 hq.small.m
 have HP := Y1 hq.part
 have HD : Hid (deep t = deeps t.parts + 1) := Y1 (deep_eq t)
 have hd2 : deeps t.parts <= 1000000 := by have := HD.out; omega
 have hB := Z0c w t q
 have HB := Y1 hB
 have hb0 := Z02 w (.cells (Y8 t q) 45)
 have HB0 := Y1 hb0
 clear hB hb0 hq hd
 go_enter Tryz.func118, Tryz.ntmps118
 go_wp2_with fail
 generalize hW0 : w.alloc (.cells (Y8 t q) 45) = W0 at HB HB0 ⊢
 clear hW0
 go_loopw [3, 4] (fun nn ii wr => ∃ i : Nat, ii = .int .i64 i /\ i <= t.parts.length /\ nn = .int .i64 (deeps (t.parts.take i) : Int) /\ Below W0.heap.size W0 wr) (fun _ i _ => t.parts.length - (intOf i).toNat)
 case atStart => exact ⟨0, rfl, Nat.zero_le _, rfl, Below.refl _ _⟩
 case round =>
  obtain ⟨i, rfl, hi, rfl, hb⟩ := hrel
  have HBX := Y1 (HB.out.next hb)
  have hm := HM.out
  obtain ⟨_, ⟨_, _, _, _, c4⟩, _⟩ := HB.out.next hb
  by_cases hlt : i < t.parts.length
  {rcases HP.out with h0 | ⟨g, off, qs, hqP, hg, hc, hr⟩
   {omega}
   {have hbw : Below w.heap.size w wr := HB0.out.trans (hb.mono HB0.out.size)
    obtain ⟨x, hx⟩ : ∃ x, x = t.parts[i] := ⟨_, rfl⟩
    obtain ⟨p0, p1, p2, p3, p4⟩ := (hc i hlt).keep hg hbw
    have hat : ShAt wr wr.heap.size (qs i) x := by rw [hx]; exact (hr i hlt).next hbw
    have ihx := ih t.parts[i] (List.getElem_mem _) (qs i) wr
    have hdx : deep x <= 1000000 := by rw [hx]; exact Nat.le_trans (deeps_mem (List.getElem_mem _)) hd2
    have HN : Hid (deeps (t.parts.take (i + 1)) = max (deeps (t.parts.take i)) (deep x)) := Y1 (by rw [hx]; exact deeps_next hlt)
    rw [<- hx] at p0 p1 p2 p3 p4 ihx
    have IH := ihx hat hdx
    have htk := deeps_take t.parts i
    rw [hqP] at c4
    clear hx hc hr hat ihx hdx hd2 ih hqP
    have hi1 : (i : Int) < (t.parts.length : Int) := by omega
    generalize deeps (t.parts.take i) = a at HN htk ⊢
    by_cases hgt : (a : Int) < (deep x : Int)
    all_goals
     go_wp2_with (refine IH.mono ?_; rintro e w' ⟨rfl, hb'⟩)
     go_wp2
     go_roundw
     case rel => exact ⟨i + 1, by go_num, by omega, by rw [HN.out]; go_num, hb.trans (hb'.mono hb.size)⟩
     case measure => simp [intOf]; omega}}
  {have hie : i = t.parts.length := by omega
   have HE : Hid (deeps (t.parts.take i) = deeps t.parts) := Y1 (by rw [hie, List.take_length])
   have htk := deeps_take t.parts i
   clear hie
   go_wp2
   go_ret
   exact ⟨by rw [HE.out, HD.out]; go_num, HB0.out.trans (hb.mono HB0.out.size)⟩}
theorem Za9 {l : List Sh} {i m : Nat} (hi : i < l.length) (h : 1 + sizes (l.take i) <= m) : min (1 + sizes (l.take i)) (m + 1) + sizeTo (m - min (1 + sizes (l.take i)) (m + 1)) (l[i]'hi) = min (1 + sizes (l.take (i + 1))) (m + 1) := by
 rw [sizes_next hi]; unfold sizeTo; omega
theorem Zc2 (t : Sh) : ∀ (q : Ptr) (m : Nat) (w : World), ShAt w w.heap.size q t -> m <= 1000000 ->
 Calls Tryz.prog 117 #[.agg (Y8 t q), .int .i64 (m : Int)] w
  fun e w' => e = .returned (.int .i64 (sizeTo m t : Int)) /\ Below w.heap.size w w' := by
 induction t using Sh.ind with
 | h t ih =>
 intro q m w hq hmm
 have HM := Y1 hq.small.m
 have HP := Y1 hq.part
 have HZ : Hid (size t = 1 + sizes t.parts) := Y1 (size_eq t)
 have hB := Z0c w t q
 have HB := Y1 hB
 have hb0 := Z02 w (.cells (Y8 t q) 45)
 have HB0 := Y1 hb0
 clear hB hb0 hq
 go_enter Tryz.func117, Tryz.ntmps117
 go_wp2_with fail
 generalize hW0 : w.alloc (.cells (Y8 t q) 45) = W0 at HB HB0 ⊢
 clear hW0
 go_loopw [5, 6] (fun nn ii wr => ∃ i : Nat, ii = .int .i64 i /\ i <= t.parts.length /\ nn = .int .i64 ((min (1 + sizes (t.parts.take i)) (m + 1) : Nat) : Int) /\ Below W0.heap.size W0 wr) (fun _ i _ => t.parts.length - (intOf i).toNat)
 case atStart => exact ⟨0, rfl, Nat.zero_le _, by rw [List.take_zero]; show Value.int .i64 1 = .int .i64 ((min (1 + 0) (m + 1) : Nat) : Int); rw [Nat.min_eq_left (by omega)]; rfl, Below.refl _ _⟩
 case round =>
  obtain ⟨i, rfl, hi, rfl, hb⟩ := hrel
  have hm := HM.out
  obtain ⟨_, ⟨_, _, _, _, c4⟩, _⟩ := HB.out.next hb
  obtain ⟨n, hn⟩ : ∃ n, n = min (1 + sizes (t.parts.take i)) (m + 1) := ⟨_, rfl⟩
  rw [<- hn]
  have HE := Y1 hn
  have hn1 : 1 <= n := by omega
  have hn2 : n <= m + 1 := by omega
  by_cases hlt : i < t.parts.length
  {have hi1 : (i : Int) < (t.parts.length : Int) := by omega
   by_cases hnm : n <= m
   {rcases HP.out with h0 | ⟨g, off, qs, hqP, hg, hc, hr⟩
    {omega}
    {have hbw : Below w.heap.size w wr := HB0.out.trans (hb.mono HB0.out.size)
     obtain ⟨x, hx⟩ : ∃ x, x = t.parts[i] := ⟨_, rfl⟩
     obtain ⟨p0, p1, p2, p3, p4⟩ := (hc i hlt).keep hg hbw
     have hat : ShAt wr wr.heap.size (qs i) x := by rw [hx]; exact (hr i hlt).next hbw
     have ihx := ih t.parts[i] (List.getElem_mem _) (qs i) (m - n) wr
     have HN : Hid (n + sizeTo (m - n) x = min (1 + sizes (t.parts.take (i + 1))) (m + 1)) := Y1 (by rw [hx, hn]; exact Za9 hlt (by omega))
     rw [<- hx] at p0 p1 p2 p3 p4 ihx
     have IH := ihx hat (by omega)
     rw [show ((m - n : Nat) : Int) = (m : Int) - (n : Int) from by omega] at IH
     rw [hqP] at c4
     have hsz : sizeTo (m - n) x <= m - n + 1 := Nat.min_le_right _ _
     have d2 : decide (n <= m) = true := decide_eq_true (by omega)
     have d3 : decide (i < t.parts.length) = true := decide_eq_true (by omega)
     have hnm2 : (n : Int) <= (m : Int) := by omega
     have hmm2 : (m : Int) <= 1000000 := by omega
     generalize sizeTo (m - n) x = z at IH HN hsz
     have hz2 : (n : Int) + (z : Int) <= 1000001 := by omega
     clear hx hc hr hat ihx ih hqP hn
     go_wp2_with (refine IH.mono ?_; rintro e w' ⟨rfl, hb'⟩)
     go_roundw
     case rel => exact ⟨i + 1, by go_num, by omega, by rw [<- HN.out]; go_num, hb.trans (hb'.mono hb.size)⟩
     case measure => simp [intOf]; omega}}
   {have HF : Hid (n = sizeTo m t) := Y1 (by
     have := sizes_take t.parts i
     unfold sizeTo; have := HZ.out; omega)
    have d2 : decide (n <= m) = false := decide_eq_false (by omega)
    have d3 : decide (i < t.parts.length) = true := decide_eq_true (by omega)
    clear hn
    go_wp2
    go_ret
    exact ⟨by rw [<- HF.out]; rfl, HB0.out.trans (hb.mono HB0.out.size)⟩}}
  {have HF : Hid (n = sizeTo m t) := Y1 (by
    rw [show i = t.parts.length from by omega, List.take_length] at hn
    unfold sizeTo; have := HZ.out; omega)
   have d3 : decide (i < t.parts.length) = false := decide_eq_false (by omega)
   clear hn
   go_wp2
   go_ret
   exact ⟨by rw [<- HF.out]; rfl, HB0.out.trans (hb.mono HB0.out.size)⟩}
theorem Zaa (t : Sh) (q : Ptr) (w : World) (hq : ShAt w w.heap.size q t) (hk : ¬ (t.kind = 9 \/ t.kind = 10)) :
 Calls Tryz.prog 139 #[.agg (Y8 t q)] w
  fun e w' => e = .returned (.bool (fits t)) /\ Below w.heap.size w w' := by
 have HS := Y1 hq.small
 have HA := Y1 hq.strs
 have hB := Z0c w t q
 have HB := Y1 hB
 have hb0 := Z02 w (.cells (Y8 t q) 45)
 have HB0 := Y1 hb0
 have h9 : (t.kind == 9) = false := by rw [beq_eq_false_iff_ne]; omega
 have h10 : (t.kind == 10) = false := by rw [beq_eq_false_iff_ne]; omega
 have HK := Y1 hk
 clear hB hb0 hq hk
 obtain ⟨_, ⟨c0, c1, c2, c3, c4⟩, _⟩ := HB.out
 cases ho : (t.of_ == [])
 {have HF := Y1 (Z1B HK.out (Zgz ho))
  have hoe := Z0o ho
  clear ho
  go_enter Tryz.func139, Tryz.ntmps139
  go_wp2
  go_ret
  exact ⟨by rw [HF.out]; rfl, HB0.out⟩}
 {have hoe := Z0o ho
  cases hn : (t.name == [])
  {have HF := Y1 (Z1B HK.out (ZdF hn))
   have hne := Z0o hn
   clear ho hn
   go_enter Tryz.func139, Tryz.ntmps139
   go_wp2
   go_ret
   exact ⟨by rw [HF.out]; rfl, HB0.out⟩}
  {have hne := Z0o hn
   have HBA : Hid (bare t = true) := Y1 ((Zfs t).2 ⟨by simpa using ho, by simpa using hn⟩)
   clear ho hn
   by_cases h67 : t.kind = 6 \/ t.kind = 7
   {have HF := Y1 (Z5R HBA.out h67)
    have h6 : (t.kind == 6) = true \/ (t.kind == 6) = false /\ (t.kind == 7) = true := by rcases h67 with h | h <;> simp [h]
    have hA := (HA.out.next HB0.out)
    have hr := fun W h => Za7 q.A q.c t.names t.parts.length W h HS.out.l HS.out.ns
    have hw := hr _ hA
    clear h67 hA hr
    rcases h6 with h6 | ⟨h6, h7⟩
    all_goals
     go_enter Tryz.func139, Tryz.ntmps139
     go_wp2_with fail
     refine hw.mono ?_
     rintro e w' ⟨rfl, hb'⟩
     go_wp2
     go_ret
     exact ⟨by rw [HF.out]; rfl, Z00 HB0.out hb'⟩}
   {have H67 := Y1 h67
    have h6 : (t.kind == 6) = false := by rw [beq_eq_false_iff_ne]; omega
    have h7 : (t.kind == 7) = false := by rw [beq_eq_false_iff_ne]; omega
    clear h67
    by_cases hz : 0 < t.names.length
    {have HF := Y1 (Z2c HK.out HBA.out H67.out hz)
     have hz2 : (0 : Int) < (t.names.length : Int) := by omega
     go_enter Tryz.func139, Tryz.ntmps139
     go_wp2
     go_ret
     exact ⟨by rw [HF.out]; rfl, HB0.out⟩}
    {have HZ := Y1 hz
     have hz2 : ¬ (0 : Int) < (t.names.length : Int) := by omega
     have hz3 : ¬ 0 < t.names.length := hz
     by_cases hk8 : t.kind = 8
     {have HF := Y1 (Z5S HBA.out hk8 HZ.out)
      have h8 : (t.kind == 8) = true := by simp [hk8]
      clear hk8
      go_enter Tryz.func139, Tryz.ntmps139
      go_wp2
      go_ret
      exact ⟨Z03 (by rw [HF.out, Bool.eq_iff_iff]; simp; try omega), HB0.out⟩}
     {have h8 : (t.kind == 8) = false := by rw [beq_eq_false_iff_ne]; omega
      by_cases hk5 : t.kind = 5
      {have HF := Y1 (Z4B HBA.out hk5 HZ.out)
       have h5 : (t.kind == 5) = true := by simp [hk5]
       clear hk8 hk5
       go_enter Tryz.func139, Tryz.ntmps139
       go_wp2
       go_ret
       exact ⟨Z03 (by rw [HF.out, Bool.eq_iff_iff]; simp; try omega), HB0.out⟩}
      {have h5 : (t.kind == 5) = false := by rw [beq_eq_false_iff_ne]; omega
       have HF := Y1 (Z3s HBA.out HK.out H67.out HZ.out hk8 hk5)
       clear hk8 hk5
       cases e1 : decide (1 <= t.kind)
       {have HF2 : Hid (fits t = false) := Y1 (by rw [HF.out, e1]; rfl)
        go_enter Tryz.func139, Tryz.ntmps139
        go_wp2
        go_ret
        exact ⟨by rw [HF2.out]; rfl, HB0.out⟩}
       {cases e2 : decide (t.kind <= 4)
        {have HF2 : Hid (fits t = false) := Y1 (by rw [HF.out, e1, e2]; rfl)
         go_enter Tryz.func139, Tryz.ntmps139
         go_wp2
         go_ret
         exact ⟨by rw [HF2.out]; rfl, HB0.out⟩}
        {have HF2 : Hid (fits t = decide (t.parts.length = 0)) := Y1 (by rw [HF.out, e1, e2]; rfl)
         go_enter Tryz.func139, Tryz.ntmps139
         go_wp2
         go_ret
         exact ⟨Z03 (by rw [HF2.out, Bool.eq_iff_iff]; simp), HB0.out⟩}}}}}}}}
theorem Zc3 (t : Sh) (q : Ptr) (w : World) (hq : ShAt w w.heap.size q t) :
 Calls Tryz.prog 139 #[.agg (Y8 t q)] w
  fun e w' => e = .returned (.bool (fits t)) /\ Below w.heap.size w w' := by
 by_cases hk : t.kind = 9 \/ t.kind = 10
 {exact Za8 t q w hq hk}
 {exact Zaa t q w hq hk}
theorem Zab (t : Sh) : ∀ (q : Ptr) (w : World), ShAt w w.heap.size q t ->
 Calls Tryz.prog 119 #[.agg (Y8 t q)] w
  fun e w' => e = .returned (.bool (right t)) /\ Below w.heap.size w w' := by
 induction t using Sh.ind with
 | h t ih =>
 intro q w hq
 have HM := Y1 hq.small.m
 have HP := Y1 hq.part
 have HD : Hid (right t = (fits t && rights t.parts)) := Y1 (right_eq t)
 have hB := Z0c w t q
 have HB := Y1 hB
 have hb0 := Z02 w (.cells (Y8 t q) 45)
 have HB0 := Y1 hb0
 have hf := Zc3 t q _ (hq.next hb0)
 have HQ := Y1 hq
 clear hb0 hq
 obtain ⟨_, ⟨c0, c1, c2, c3, c4⟩, _⟩ := hB
 have ih := ih
 cases hft : fits t with
 | false =>
  have HF : Hid (right t = false) := Y1 (by rw [HD.out, hft]; rfl)
  rw [hft] at hf
  clear hft ih
  go_enter Tryz.func119, Tryz.ntmps119
  go_wp2_with fail
  refine hf.mono ?_
  rintro e w' ⟨rfl, hb'⟩
  go_wp2
  go_ret
  exact ⟨by rw [HF.out]; rfl, Z00 HB0.out hb'⟩
 | true =>
  have HFT := Y1 hft
  rw [hft] at hf
  clear hft
  go_enter Tryz.func119, Tryz.ntmps119
  go_wp2_with fail
  refine hf.mono ?_
  rintro e W0 ⟨rfl, hb'⟩
  have HB1 := Y1 (HB.out.next hb')
  have HBW : Hid (Below w.heap.size w W0) := Y1 (Z00 HB0.out hb')
  clear hf hb' c0 c1 c2 c3 c4 HB HB0
  go_wp2_with fail
  go_loopw [3] (fun ii wr => ∃ i : Nat, ii = .int .i64 i /\ i <= t.parts.length /\ Hid (∀ j (h : j < t.parts.length), j < i -> right (t.parts[j]'h) = true) /\ Below W0.heap.size W0 wr) (fun i _ => t.parts.length - (intOf i).toNat)
  case atStart => exact ⟨0, rfl, Nat.zero_le _, Y1 (fun j _ hj => absurd hj (by omega)), Below.refl _ _⟩
  case round =>
   obtain ⟨i, rfl, hi, HN, hb⟩ := hrel
   have hm := HM.out
   obtain ⟨_, ⟨c0, _, _, _, c4⟩, _⟩ := HB1.out.next hb
   by_cases hlt : i < t.parts.length
   {rcases HP.out with h0 | ⟨g, off, qs, hqP, hg, hc, hr⟩
    {omega}
    {have hbw : Below w.heap.size w wr := HBW.out.trans (hb.mono HBW.out.size)
     obtain ⟨x, hx⟩ : ∃ x, x = t.parts[i] := ⟨_, rfl⟩
     obtain ⟨p0, p1, p2, p3, p4⟩ := (hc i hlt).keep hg hbw
     have hat : ShAt wr wr.heap.size (qs i) x := by rw [hx]; exact (hr i hlt).next hbw
     have ihx := ih t.parts[i] (List.getElem_mem _) (qs i) wr
     rw [<- hx] at p0 p1 p2 p3 p4 ihx
     have IH := ihx hat
     rw [hqP] at c4
     have HX := Y1 hx
     clear hx hc hr hat ihx ih hqP
     have hi1 : (i : Int) < (t.parts.length : Int) := by omega
     cases hox : right x with
     | false =>
      rw [hox] at IH
      have HF : Hid (right t = false) := Y1 (right_off (p := x) (by rw [HX.out]; exact List.getElem_mem _) hox)
      clear hox
      go_wp2_with (refine IH.mono ?_; rintro e w' ⟨rfl, hb'⟩)
      go_ret
      exact ⟨by rw [HF.out]; rfl, hbw.trans (hb'.mono hbw.size)⟩
     | true =>
      rw [hox] at IH
      have HO := Y1 hox
      clear hox
      go_wp2_with (refine IH.mono ?_; rintro e w' ⟨rfl, hb'⟩)
      go_roundw
      case rel => exact ⟨i + 1, by go_num, by omega, Y1 (fun j hj hji => by
       rcases Nat.lt_succ_iff_lt_or_eq.1 hji with h | rfl
       {exact HN.out j hj h}
       · rw [<- HX.out]; exact HO.out), hb.trans (hb'.mono hb.size)⟩
      case measure => simp [intOf]; omega}}
   {have HF : Hid (right t = true) := Y1 (right_on HFT.out (fun p hp => by
     obtain ⟨j, hj, rfl⟩ := List.getElem_of_mem hp
     exact HN.out j hj (by omega)))
    go_wp2
    go_ret
    exact ⟨by rw [HF.out]; rfl, HBW.out.trans (hb.mono HBW.out.size)⟩}
theorem Zc4 {t : Sh} (h : 400 < size t) : sizeTo 400 t = 401 := by unfold sizeTo; omega
theorem ZdW {t : Sh} (h : ¬ 400 < size t) : sizeTo 400 t = size t := by unfold sizeTo; omega
theorem Z5v (t : Sh) (q : Ptr) (w : World) (hq : ShAt w w.heap.size q t) :
 Calls Tryz.prog 90 #[.agg (Y8 t q)] w
  fun e w' => e = .returned (.int .i64 (check t)) /\ Below w.heap.size w w' := by
 have hB := Z0c w t q
 have HB := Y1 hB
 have hb0 := Z02 w (.cells (Y8 t q) 45)
 have HB0 := Y1 hb0
 have hs := Zc2 t q 400 _ (hq.next hb0) (by omega)
 rw [show (((400 : Nat) : Int)) = (400 : Int) from rfl] at hs
 have HQ := Y1 hq
 have HC : Hid (check t = if 400 < size t then 3 else if 40 < deep t then 91 else if right t = false then 70 else 0) := Y1 rfl
 clear hb0 hq
 obtain ⟨_, ⟨c0, c1, c2, c3, c4⟩, _⟩ := hB
 by_cases h4 : 400 < size t
 {rw [Zc4 h4] at hs
  have HF : Hid (check t = 3) := Y1 (by rw [HC.out, if_pos h4])
  clear h4
  go_enter Tryz.func90, Tryz.ntmps90
  go_wp2_with fail
  refine hs.mono ?_
  rintro e w' ⟨rfl, hb'⟩
  go_wp2
  go_ret
  exact ⟨Z0v HF.out.symm, Z00 HB0.out hb'⟩}
 {rw [ZdW h4] at hs
  have h4' : ¬ (400 : Int) < (size t : Int) := by omega
  have hdd := deep_size t
  go_enter Tryz.func90, Tryz.ntmps90
  go_wp2_with fail
  refine hs.mono ?_
  rintro e w1 ⟨rfl, hb1⟩
  have hbw := Z00 HB0.out hb1
  have HBW := Y1 hbw
  have HB1 := Y1 (HB.out.next hb1)
  have hd := Zc1 t q w1 (HQ.out.next hbw) (by omega)
  clear hs hb1 hbw c0 c1 c2 c3 c4
  obtain ⟨_, ⟨c0, c1, c2, c3, c4⟩, _⟩ := HB1.out
  by_cases h40 : 40 < deep t
  {have HF : Hid (check t = 91) := Y1 (by rw [HC.out, if_neg h4, if_pos h40])
   have h40' : (40 : Int) < (deep t : Int) := by omega
   clear h4 h40 hdd
   go_wp2_with fail
   refine hd.mono ?_
   rintro e w' ⟨rfl, hb'⟩
   go_wp2
   go_ret
   exact ⟨Z0v HF.out.symm, Z00 HBW.out hb'⟩}
  {have h40' : ¬ (40 : Int) < (deep t : Int) := by omega
   have HF : Hid (check t = if right t = false then 70 else 0) := Y1 (by rw [HC.out, if_neg h4, if_neg h40])
   clear h4 h40 hdd
   go_wp2_with fail
   refine hd.mono ?_
   rintro e w2 ⟨rfl, hb2⟩
   have hbw := Z00 HBW.out hb2
   have HBW2 := Y1 hbw
   have HB2 := Y1 (HB1.out.next hb2)
   have hr := Zab t q w2 (HQ.out.next hbw)
   clear hd hb2 hbw c0 c1 c2 c3 c4
   obtain ⟨_, ⟨c0, c1, c2, c3, c4⟩, _⟩ := HB2.out
   cases hrt : right t
   all_goals
    rw [hrt] at hr HF
    clear hrt
    go_wp2_with fail
    refine hr.mono ?_
    rintro e w' ⟨rfl, hb'⟩
    go_wp2
    go_ret
    exact ⟨Z0v (by rw [HF.out]; rfl), Z00 HBW2.out hb'⟩}}
end Go.Proofs.YtnkdedejfonbmaaGreatDoor
namespace Go.Proofs.YtnkdedejfonbmaaGreatDoor
open Go.RowKit
theorem Z2Y (w : World) (l : List UInt8) {cs : Array Value} {n : Nat} (h : cs.toList = Lib.byteCells l) (hn : n = l.length) (hl : l.length <= 1000) :
 (convert 89 9 (.slice (some ⟨w.heap.size, 0, none⟩) n n)).run Tryz.prog (w.alloc (.cells cs 5)) = .ok (.string ⟨l.toArray⟩) (w.alloc (.cells cs 5)) := by
 subst hn
 have hz : cs.size = l.length := by rw [<- Array.length_toList, h, Lib.byteCells_length]
 have := World.ownsRow_lit (base := w.heap.size) (e := 5) (size := 1) w cs l.length (Nat.le_refl _) (by unfold maxLen; omega) (by omega)
 rw [h] at this
 exact Z4g this
theorem Z1g (p : Int) (w : World) :
 Calls Tryz.prog 140 #[.int .i64 p] w fun e w' => e = .returned (.bool (Utf.pt p)) /\ w = w' := by
 by_cases h0 : 0 <= p
 {by_cases h1 : p <= 1114111
  {by_cases h2 : p < 55296
   {have e : Utf.pt p = true := (Utf.Z1r p).2 ⟨h0, h1, Or.inl h2⟩
    rw [e]
    clear e
    go_enter Tryz.func140, Tryz.ntmps140
    go_wp2
    go_ret
    exact ⟨rfl, rfl⟩}
   {by_cases h3 : 57343 < p
    {have e : Utf.pt p = true := (Utf.Z1r p).2 ⟨h0, h1, Or.inr h3⟩
     rw [e]
     clear e
     go_enter Tryz.func140, Tryz.ntmps140
     go_wp2
     go_ret
     exact ⟨rfl, rfl⟩}
    {have e : Utf.pt p = false := Bool.eq_false_iff.2 fun h => by have := Z2q h; omega
     rw [e]
     clear e
     go_enter Tryz.func140, Tryz.ntmps140
     go_wp2
     go_ret
     exact ⟨rfl, rfl⟩}}}
  {have e : Utf.pt p = false := Bool.eq_false_iff.2 fun h => by have := Z2q h; omega
   rw [e]
   clear e
   go_enter Tryz.func140, Tryz.ntmps140
   go_wp2
   go_ret
   exact ⟨rfl, rfl⟩}}
 {have e : Utf.pt p = false := Bool.eq_false_iff.2 fun h => by have := Z2q h; omega
  rw [e]
  clear e
  go_enter Tryz.func140, Tryz.ntmps140
  go_wp2
  go_ret
  exact ⟨rfl, rfl⟩}
theorem Zem (x : Int) : Lib.byteCells [Utf.byte x] = [.int .u8 (x % 256)] := by
 simp [Lib.byteCells, Utf.Z0d]
theorem Zen (x y : Int) : Lib.byteCells [Utf.byte x, Utf.byte y] = [.int .u8 (x % 256), .int .u8 (y % 256)] := by
 simp [Lib.byteCells, Utf.Z0d]
theorem Zan (x y z : Int) : Lib.byteCells [Utf.byte x, Utf.byte y, Utf.byte z] = [.int .u8 (x % 256), .int .u8 (y % 256), .int .u8 (z % 256)] := by
 simp [Lib.byteCells, Utf.Z0d]
theorem Zco (x y z u : Int) : Lib.byteCells [Utf.byte x, Utf.byte y, Utf.byte z, Utf.byte u] = [.int .u8 (x % 256), .int .u8 (y % 256), .int .u8 (z % 256), .int .u8 (u % 256)] := by
 simp [Lib.byteCells, Utf.Z0d]
theorem Z2F (p : Int) (w : World) (h : Utf.pt p = true) :
 Y9 141 #[.int .i64 p] w (.string ⟨(Utf.bytes p).toArray⟩) := by
 obtain ⟨h0, h1, _⟩ := Z2q h
 clear h
 unfold Utf.bytes
 by_cases h2 : p < 128
 {rw [if_pos h2]
  have hc := Z2Y w [Utf.byte (p)] (cs := #[.int .u8 (p)]) (n := 1) (by rw [Zem, show (p) % 256 = p from by omega]) rfl (by simp)
  go_enter Tryz.func141, Tryz.ntmps141
  go_wp2
  go_ret
  exact ⟨rfl, Y2.alloc (Nat.le_refl _) _⟩}
 {rw [if_neg h2]
  by_cases h3 : p < 2048
  {rw [if_pos h3]
   have hc := Z2Y w [Utf.byte (192 + p / 64), Utf.byte (128 + p % 64)] (cs := #[.int .u8 (192 + p / 64), .int .u8 (128 + p % 64)]) (n := 2) (by rw [Zen, show (192 + p / 64) % 256 = 192 + p / 64 from by omega, show (128 + p % 64) % 256 = 128 + p % 64 from by omega]) rfl (by simp)
   go_enter Tryz.func141, Tryz.ntmps141
   go_wp2
   go_ret
   exact ⟨rfl, Y2.alloc (Nat.le_refl _) _⟩}
  {rw [if_neg h3]
   by_cases h4 : p < 65536
   {rw [if_pos h4]
    have hc := Z2Y w [Utf.byte (224 + p / 4096), Utf.byte (128 + p / 64 % 64), Utf.byte (128 + p % 64)] (cs := #[.int .u8 (224 + p / 4096), .int .u8 (128 + p / 64 % 64), .int .u8 (128 + p % 64)]) (n := 3) (by rw [Zan, show (224 + p / 4096) % 256 = 224 + p / 4096 from by omega, show (128 + p / 64 % 64) % 256 = 128 + p / 64 % 64 from by omega, show (128 + p % 64) % 256 = 128 + p % 64 from by omega]) rfl (by simp)
    go_enter Tryz.func141, Tryz.ntmps141
    go_wp2
    go_ret
    exact ⟨rfl, Y2.alloc (Nat.le_refl _) _⟩}
   {rw [if_neg h4]
    have hc := Z2Y w [Utf.byte (240 + p / 262144), Utf.byte (128 + p / 4096 % 64), Utf.byte (128 + p / 64 % 64), Utf.byte (128 + p % 64)] (cs := #[.int .u8 (240 + p / 262144), .int .u8 (128 + p / 4096 % 64), .int .u8 (128 + p / 64 % 64), .int .u8 (128 + p % 64)]) (n := 4) (by rw [Zco, show (240 + p / 262144) % 256 = 240 + p / 262144 from by omega, show (128 + p / 4096 % 64) % 256 = 128 + p / 4096 % 64 from by omega, show (128 + p / 64 % 64) % 256 = 128 + p / 64 % 64 from by omega, show (128 + p % 64) % 256 = 128 + p % 64 from by omega]) rfl (by simp)
    go_enter Tryz.func141, Tryz.ntmps141
    go_wp2
    go_ret
    exact ⟨rfl, Y2.alloc (Nat.le_refl _) _⟩}}}
end Go.Proofs.YtnkdedejfonbmaaGreatDoor
