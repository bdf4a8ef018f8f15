/- LexO1, LexO2, LexO3, LexO4, LexO5, LexO6, LexO7, LexO8, together. -/
import Derived.Test.YtebphmkefpaeaaaGreatDoorGLexA
import Derived.Test.YtebphmkefpaeaaaGreatDoorGPure
import Derived.Test.YtebphmkefpaeaaaGreatDoorGSemC
import Derived.Deep.RegionHeld3
import Derived.Deep.QuietTactic
import Derived.BigQuiet
import Derived.Test.YtebphmkefpaeaaaGreatDoorGUtf
import Derived.StillTailTactics
import Derived.BigRegion
import Derived.Deep.RegionLaw
import Derived.Test.YtebphmkefpaeaaaGreatDoorGSemB
import Derived.OneCell
/- The program's byte classes of layer 6, Word, Sign. -/
namespace Lex
def letter (c : UInt8) : Bool := small c || great c
theorem nameB_letter (c : UInt8) : nameB c = (letter c || digit c || c == 95) := rfl
theorem lumpB_letter (c : UInt8) : lumpB c = (letter c || digit c || c == 46 || c == 45) := rfl
end Lex
namespace Go.Proofs.YtebphmkefpaeaaaGreatDoor
open Go.RowKit
set_option linter.unusedVariables false

theorem byte_46 (c : UInt8) : ((c.toNat : Int) == 46) = (c == 46) := by
  rw [Bool.eq_iff_iff, beq_iff_eq, beq_iff_eq]
  constructor
  · intro h; apply UInt8.toNat_inj.1; show c.toNat = 46; omega
  · rintro rfl; rfl

theorem byte_45 (c : UInt8) : ((c.toNat : Int) == 45) = (c == 45) := by
  rw [Bool.eq_iff_iff, beq_iff_eq, beq_iff_eq]
  constructor
  · intro h; apply UInt8.toNat_inj.1; show c.toNat = 45; omega
  · rintro rfl; rfl

theorem osmall_walk (c : UInt8) (w : World) :
    Calls Tryz.prog 25 #[.int .u8 (c.toNat : Int)] w fun e w' => e = .returned (.bool (Lex.small c)) ∧ w = w' := by
  have hlt := c.toNat_lt
  have H : c.toNat ≤ 96 ∨ (97 ≤ c.toNat ∧ c.toNat ≤ 122) ∨ 123 ≤ c.toNat := by omega
  have HB : Hid (Lex.small c = (decide (97 ≤ c.toNat) && decide (c.toNat ≤ 122))) := Lib.hid rfl
  obtain ⟨n, hn⟩ : ∃ n, n = c.toNat := ⟨_, rfl⟩
  rw [← hn] at H HB hlt ⊢
  clear hn
  rcases H with h1 | ⟨h1, h2⟩ | h1
  · have h3 : decide ((97 : Int) ≤ (n : Int)) = false := decide_eq_false (by omega)
    go_enter Tryz.func25, Tryz.ntmps25
    go_wp2
    go_ret
    exact ⟨by rw [HB.out, decide_eq_false (by omega)]; rfl, rfl⟩
  · have h3 : decide ((n : Int) ≤ 122) = true := decide_eq_true (by omega)
    have h4 : decide ((97 : Int) ≤ (n : Int)) = true := decide_eq_true (by omega)
    go_enter Tryz.func25, Tryz.ntmps25
    go_wp2
    go_ret
    exact ⟨by rw [HB.out, decide_eq_true h1, decide_eq_true h2]; rfl, rfl⟩
  · have h3 : decide ((n : Int) ≤ 122) = false := decide_eq_false (by omega)
    have h4 : decide ((97 : Int) ≤ (n : Int)) = true := decide_eq_true (by omega)
    go_enter Tryz.func25, Tryz.ntmps25
    go_wp2
    go_ret
    exact ⟨by rw [HB.out, decide_eq_false (p := n ≤ 122) (by omega), Bool.and_false]; rfl, rfl⟩

theorem ogreat_walk (c : UInt8) (w : World) :
    Calls Tryz.prog 29 #[.int .u8 (c.toNat : Int)] w fun e w' => e = .returned (.bool (Lex.great c)) ∧ w = w' := by
  have hlt := c.toNat_lt
  have H : c.toNat ≤ 64 ∨ (65 ≤ c.toNat ∧ c.toNat ≤ 90) ∨ 91 ≤ c.toNat := by omega
  have HB : Hid (Lex.great c = (decide (65 ≤ c.toNat) && decide (c.toNat ≤ 90))) := Lib.hid rfl
  obtain ⟨n, hn⟩ : ∃ n, n = c.toNat := ⟨_, rfl⟩
  rw [← hn] at H HB hlt ⊢
  clear hn
  rcases H with h1 | ⟨h1, h2⟩ | h1
  · have h3 : decide ((65 : Int) ≤ (n : Int)) = false := decide_eq_false (by omega)
    go_enter Tryz.func29, Tryz.ntmps29
    go_wp2
    go_ret
    exact ⟨by rw [HB.out, decide_eq_false (by omega)]; rfl, rfl⟩
  · have h3 : decide ((n : Int) ≤ 90) = true := decide_eq_true (by omega)
    have h4 : decide ((65 : Int) ≤ (n : Int)) = true := decide_eq_true (by omega)
    go_enter Tryz.func29, Tryz.ntmps29
    go_wp2
    go_ret
    exact ⟨by rw [HB.out, decide_eq_true h1, decide_eq_true h2]; rfl, rfl⟩
  · have h3 : decide ((n : Int) ≤ 90) = false := decide_eq_false (by omega)
    have h4 : decide ((65 : Int) ≤ (n : Int)) = true := decide_eq_true (by omega)
    go_enter Tryz.func29, Tryz.ntmps29
    go_wp2
    go_ret
    exact ⟨by rw [HB.out, decide_eq_false (p := n ≤ 90) (by omega), Bool.and_false]; rfl, rfl⟩

theorem odigit_walk (c : UInt8) (w : World) :
    Calls Tryz.prog 53 #[.int .u8 (c.toNat : Int)] w fun e w' => e = .returned (.bool (Lex.digit c)) ∧ w = w' := by
  have hlt := c.toNat_lt
  have H : c.toNat ≤ 47 ∨ (48 ≤ c.toNat ∧ c.toNat ≤ 57) ∨ 58 ≤ c.toNat := by omega
  have HB : Hid (Lex.digit c = (decide (48 ≤ c.toNat) && decide (c.toNat ≤ 57))) := Lib.hid rfl
  obtain ⟨n, hn⟩ : ∃ n, n = c.toNat := ⟨_, rfl⟩
  rw [← hn] at H HB hlt ⊢
  clear hn
  rcases H with h1 | ⟨h1, h2⟩ | h1
  · have h3 : decide ((48 : Int) ≤ (n : Int)) = false := decide_eq_false (by omega)
    go_enter Tryz.func53, Tryz.ntmps53
    go_wp2
    go_ret
    exact ⟨by rw [HB.out, decide_eq_false (by omega)]; rfl, rfl⟩
  · have h3 : decide ((n : Int) ≤ 57) = true := decide_eq_true (by omega)
    have h4 : decide ((48 : Int) ≤ (n : Int)) = true := decide_eq_true (by omega)
    go_enter Tryz.func53, Tryz.ntmps53
    go_wp2
    go_ret
    exact ⟨by rw [HB.out, decide_eq_true h1, decide_eq_true h2]; rfl, rfl⟩
  · have h3 : decide ((n : Int) ≤ 57) = false := decide_eq_false (by omega)
    have h4 : decide ((48 : Int) ≤ (n : Int)) = true := decide_eq_true (by omega)
    go_enter Tryz.func53, Tryz.ntmps53
    go_wp2
    go_ret
    exact ⟨by rw [HB.out, decide_eq_false (p := n ≤ 57) (by omega), Bool.and_false]; rfl, rfl⟩

theorem oletter_walk (c : UInt8) (w : World) :
    Calls Tryz.prog 52 #[.int .u8 (c.toNat : Int)] w fun e w' => e = .returned (.bool (Lex.letter c)) ∧ w = w' := by
  have HM : Hid (Lex.letter c = (Lex.small c || Lex.great c)) := Lib.hid rfl
  cases h1 : Lex.small c
  · have HF : Hid (Lex.letter c = Lex.great c) := Lib.hid (by rw [HM.out, h1]; rfl)
    go_enter Tryz.func52, Tryz.ntmps52
    go_wp2_with fail
    refine (osmall_walk c _).mono ?_
    rintro e w2 ⟨rfl, rfl⟩
    rw [h1]
    go_wp2_with fail
    refine (ogreat_walk c _).mono ?_
    rintro e w2 ⟨rfl, rfl⟩
    go_wp2
    go_ret
    exact ⟨by rw [HF.out]; rfl, rfl⟩
  · have HF : Hid (Lex.letter c = true) := Lib.hid (by rw [HM.out, h1]; rfl)
    go_enter Tryz.func52, Tryz.ntmps52
    go_wp2_with fail
    refine (osmall_walk c _).mono ?_
    rintro e w2 ⟨rfl, rfl⟩
    rw [h1]
    go_wp2
    go_ret
    exact ⟨by rw [HF.out]; rfl, rfl⟩

theorem onameB_walk (c : UInt8) (w : World) :
    Calls Tryz.prog 40 #[.int .u8 (c.toNat : Int)] w fun e w' => e = .returned (.bool (Lex.nameB c)) ∧ w = w' := by
  have HM := Lib.hid (Lex.nameB_letter c)
  have b95 := byte_95 c
  cases h1 : Lex.letter c
  · cases h2 : Lex.digit c
    · cases g95 : (c == 95)
      · rw [g95] at b95
        have HF : Hid (Lex.nameB c = false) := Lib.hid (by rw [HM.out, h1, h2, g95]; rfl)
        clear HM
        go_enter Tryz.func40, Tryz.ntmps40
        go_wp2_with fail
        refine (oletter_walk c _).mono ?_
        rintro e w2 ⟨rfl, rfl⟩
        rw [h1]
        go_wp2_with fail
        refine (odigit_walk c _).mono ?_
        rintro e w2 ⟨rfl, rfl⟩
        rw [h2]
        go_wp2
        go_ret
        exact ⟨by rw [HF.out]; rfl, rfl⟩
      · rw [g95] at b95
        have HF : Hid (Lex.nameB c = true) := Lib.hid (by rw [HM.out, h1, h2, g95]; rfl)
        clear HM
        go_enter Tryz.func40, Tryz.ntmps40
        go_wp2_with fail
        refine (oletter_walk c _).mono ?_
        rintro e w2 ⟨rfl, rfl⟩
        rw [h1]
        go_wp2_with fail
        refine (odigit_walk c _).mono ?_
        rintro e w2 ⟨rfl, rfl⟩
        rw [h2]
        go_wp2
        go_ret
        exact ⟨by rw [HF.out]; rfl, rfl⟩
    · have HF : Hid (Lex.nameB c = true) := Lib.hid (by rw [HM.out, h1, h2]; rfl)
      clear HM
      go_enter Tryz.func40, Tryz.ntmps40
      go_wp2_with fail
      refine (oletter_walk c _).mono ?_
      rintro e w2 ⟨rfl, rfl⟩
      rw [h1]
      go_wp2_with fail
      refine (odigit_walk c _).mono ?_
      rintro e w2 ⟨rfl, rfl⟩
      rw [h2]
      go_wp2
      go_ret
      exact ⟨by rw [HF.out]; rfl, rfl⟩
  · have HF : Hid (Lex.nameB c = true) := Lib.hid (by rw [HM.out, h1]; rfl)
    clear HM
    go_enter Tryz.func40, Tryz.ntmps40
    go_wp2_with fail
    refine (oletter_walk c _).mono ?_
    rintro e w2 ⟨rfl, rfl⟩
    rw [h1]
    go_wp2
    go_ret
    exact ⟨by rw [HF.out]; rfl, rfl⟩

theorem olumpB_walk (c : UInt8) (w : World) :
    Calls Tryz.prog 78 #[.int .u8 (c.toNat : Int)] w fun e w' => e = .returned (.bool (Lex.lumpB c)) ∧ w = w' := by
  have HM := Lib.hid (Lex.lumpB_letter c)
  have b46 := byte_46 c
  have b45 := byte_45 c
  cases h1 : Lex.letter c
  · cases h2 : Lex.digit c
    · cases g46 : (c == 46)
      · cases g45 : (c == 45)
        · rw [g46] at b46
          rw [g45] at b45
          have HF : Hid (Lex.lumpB c = false) := Lib.hid (by rw [HM.out, h1, h2, g46, g45]; rfl)
          clear HM
          go_enter Tryz.func78, Tryz.ntmps78
          go_wp2_with fail
          refine (oletter_walk c _).mono ?_
          rintro e w2 ⟨rfl, rfl⟩
          rw [h1]
          go_wp2_with fail
          refine (odigit_walk c _).mono ?_
          rintro e w2 ⟨rfl, rfl⟩
          rw [h2]
          go_wp2
          go_ret
          exact ⟨by rw [HF.out]; rfl, rfl⟩
        · rw [g46] at b46
          rw [g45] at b45
          have HF : Hid (Lex.lumpB c = true) := Lib.hid (by rw [HM.out, h1, h2, g46, g45]; rfl)
          clear HM
          go_enter Tryz.func78, Tryz.ntmps78
          go_wp2_with fail
          refine (oletter_walk c _).mono ?_
          rintro e w2 ⟨rfl, rfl⟩
          rw [h1]
          go_wp2_with fail
          refine (odigit_walk c _).mono ?_
          rintro e w2 ⟨rfl, rfl⟩
          rw [h2]
          go_wp2
          go_ret
          exact ⟨by rw [HF.out]; rfl, rfl⟩
      · rw [g46] at b46
        have HF : Hid (Lex.lumpB c = true) := Lib.hid (by rw [HM.out, h1, h2, g46]; rfl)
        clear HM
        go_enter Tryz.func78, Tryz.ntmps78
        go_wp2_with fail
        refine (oletter_walk c _).mono ?_
        rintro e w2 ⟨rfl, rfl⟩
        rw [h1]
        go_wp2_with fail
        refine (odigit_walk c _).mono ?_
        rintro e w2 ⟨rfl, rfl⟩
        rw [h2]
        go_wp2
        go_ret
        exact ⟨by rw [HF.out]; rfl, rfl⟩
    · have HF : Hid (Lex.lumpB c = true) := Lib.hid (by rw [HM.out, h1, h2]; rfl)
      clear HM
      go_enter Tryz.func78, Tryz.ntmps78
      go_wp2_with fail
      refine (oletter_walk c _).mono ?_
      rintro e w2 ⟨rfl, rfl⟩
      rw [h1]
      go_wp2_with fail
      refine (odigit_walk c _).mono ?_
      rintro e w2 ⟨rfl, rfl⟩
      rw [h2]
      go_wp2
      go_ret
      exact ⟨by rw [HF.out]; rfl, rfl⟩
  · have HF : Hid (Lex.lumpB c = true) := Lib.hid (by rw [HM.out, h1]; rfl)
    clear HM
    go_enter Tryz.func78, Tryz.ntmps78
    go_wp2_with fail
    refine (oletter_walk c _).mono ?_
    rintro e w2 ⟨rfl, rfl⟩
    rw [h1]
    go_wp2
    go_ret
    exact ⟨by rw [HF.out]; rfl, rfl⟩

set_option maxRecDepth 100000 in
set_option maxHeartbeats 4000000 in
theorem oword_walk (s : List UInt8) (w : World) :
    Calls Tryz.prog 10 #[.string ⟨s.toArray⟩] w fun e w' => e = .returned (.bool (Lex.isWord s)) ∧ w = w' := by
  cases hq : Lex.isWord s
  · have HN : ∀ t ∈ Lex.words, (s == t) = false := fun t ht => by
      cases h : (s == t) with
      | false => rfl
      | true =>
        obtain rfl := beq_iff_eq.1 h
        unfold Lex.isWord at hq
        rw [List.contains_iff_mem.2 ht] at hq; cases hq
    have n0 : (s == [109, 111, 100, 117, 108, 101]) = false := HN _ (by decide)
    have n1 : (s == [105, 109, 112, 111, 114, 116]) = false := HN _ (by decide)
    have n2 : (s == [112, 105, 110]) = false := HN _ (by decide)
    have n3 : (s == [114, 97, 110, 103, 101]) = false := HN _ (by decide)
    have n4 : (s == [116, 121, 112, 101]) = false := HN _ (by decide)
    have n5 : (s == [111, 112, 97, 113, 117, 101]) = false := HN _ (by decide)
    have n6 : (s == [108, 101, 116]) = false := HN _ (by decide)
    have n7 : (s == [105, 110]) = false := HN _ (by decide)
    have n8 : (s == [101, 120, 112, 111, 114, 116]) = false := HN _ (by decide)
    have n9 : (s == [102, 117, 110]) = false := HN _ (by decide)
    have n10 : (s == [105, 102]) = false := HN _ (by decide)
    have n11 : (s == [116, 104, 101, 110]) = false := HN _ (by decide)
    have n12 : (s == [101, 108, 115, 101]) = false := HN _ (by decide)
    have n13 : (s == [99, 97, 115, 101]) = false := HN _ (by decide)
    have n14 : (s == [111, 102]) = false := HN _ (by decide)
    have n15 : (s == [97, 115]) = false := HN _ (by decide)
    have n16 : (s == [110, 101, 119]) = false := HN _ (by decide)
    have n17 : (s == [114, 97, 119]) = false := HN _ (by decide)
    have n18 : (s == [116, 114, 117, 101]) = false := HN _ (by decide)
    have n19 : (s == [102, 97, 108, 115, 101]) = false := HN _ (by decide)
    clear HN hq
    go_enter Tryz.func10, Tryz.ntmps10
    go_wp2
    go_ret
    exact ⟨rfl, rfl⟩
  · have hm : s ∈ Lex.words := List.contains_iff_mem.1 hq
    clear hq
    unfold Lex.words at hm
    simp only [List.mem_cons, List.not_mem_nil, or_false] at hm
    rcases hm with rfl | rfl | rfl | rfl | rfl | rfl | rfl | rfl | rfl | rfl | rfl | rfl | rfl | rfl | rfl | rfl | rfl | rfl | rfl | rfl
    all_goals
      go_enter Tryz.func10, Tryz.ntmps10
      go_wp2
      go_ret
      exact ⟨rfl, rfl⟩

set_option maxRecDepth 100000 in
set_option maxHeartbeats 4000000 in
theorem osign_walk (s : List UInt8) (w : World) :
    Calls Tryz.prog 12 #[.string ⟨s.toArray⟩] w fun e w' => e = .returned (.bool (Lex.isSign s)) ∧ w = w' := by
  cases hq : Lex.isSign s
  · have HN : ∀ t ∈ Lex.signs, (s == t) = false := fun t ht => by
      cases h : (s == t) with
      | false => rfl
      | true =>
        obtain rfl := beq_iff_eq.1 h
        unfold Lex.isSign at hq
        rw [List.contains_iff_mem.2 ht] at hq; cases hq
    have n0 : (s == [40]) = false := HN _ (by decide)
    have n1 : (s == [41]) = false := HN _ (by decide)
    have n2 : (s == [123]) = false := HN _ (by decide)
    have n3 : (s == [125]) = false := HN _ (by decide)
    have n4 : (s == [91]) = false := HN _ (by decide)
    have n5 : (s == [93]) = false := HN _ (by decide)
    have n6 : (s == [60]) = false := HN _ (by decide)
    have n7 : (s == [62]) = false := HN _ (by decide)
    have n8 : (s == [60, 61]) = false := HN _ (by decide)
    have n9 : (s == [62, 61]) = false := HN _ (by decide)
    have n10 : (s == [61]) = false := HN _ (by decide)
    have n11 : (s == [94]) = false := HN _ (by decide)
    have n12 : (s == [42]) = false := HN _ (by decide)
    have n13 : (s == [44]) = false := HN _ (by decide)
    have n14 : (s == [58]) = false := HN _ (by decide)
    have n15 : (s == [46]) = false := HN _ (by decide)
    have n16 : (s == [47]) = false := HN _ (by decide)
    have n17 : (s == [64]) = false := HN _ (by decide)
    have n18 : (s == [124]) = false := HN _ (by decide)
    have n19 : (s == [45, 62]) = false := HN _ (by decide)
    clear HN hq
    go_enter Tryz.func12, Tryz.ntmps12
    go_wp2
    go_ret
    exact ⟨rfl, rfl⟩
  · have hm : s ∈ Lex.signs := List.contains_iff_mem.1 hq
    clear hq
    unfold Lex.signs at hm
    simp only [List.mem_cons, List.not_mem_nil, or_false] at hm
    rcases hm with rfl | rfl | rfl | rfl | rfl | rfl | rfl | rfl | rfl | rfl | rfl | rfl | rfl | rfl | rfl | rfl | rfl | rfl | rfl | rfl
    all_goals
      go_enter Tryz.func12, Tryz.ntmps12
      go_wp2
      go_ret
      exact ⟨rfl, rfl⟩
end Go.Proofs.YtebphmkefpaeaaaGreatDoor

/- The program's isNamed, Name, Upper, isNumber of layer 6. -/
namespace Lex
def named (l : List UInt8) : Bool := decide (l.length ≤ 24) && l.tail.all nameB

theorem tail_all {p : UInt8 → Bool} {l : List UInt8} (h : ∀ j (hj : j < l.length), 1 ≤ j → p (l[j]'hj) = true) : l.tail.all p = true := by
  cases l with
  | nil => rfl
  | cons c r =>
    refine List.all_eq_true.2 (fun x hx => ?_)
    obtain ⟨j, hj, rfl⟩ := List.mem_iff_getElem.1 hx
    exact h (j + 1) (by simpa using hj) (by omega)

theorem tail_no {p : UInt8 → Bool} {l : List UInt8} {j : Nat} (hj : j < l.length) (h1 : 1 ≤ j) (h : p (l[j]'hj) = false) : l.tail.all p = false := by
  cases l with
  | nil => simp at hj
  | cons c r =>
    obtain ⟨k, rfl⟩ : ∃ k, j = k + 1 := ⟨j - 1, by omega⟩
    have hm : (r[k]'(by simpa using hj)) ∈ r := List.getElem_mem _
    cases hq : (c :: r).tail.all p with
    | false => rfl
    | true =>
      have := List.all_eq_true.1 hq _ hm
      have h' : p (r[k]'(by simpa using hj)) = false := h
      rw [h'] at this; cases this

theorem all_of {p : UInt8 → Bool} {l : List UInt8} (h : ∀ j (hj : j < l.length), p (l[j]'hj) = true) : l.all p = true :=
  List.all_eq_true.2 (fun x hx => by obtain ⟨j, hj, rfl⟩ := List.mem_iff_getElem.1 hx; exact h j hj)

theorem all_no {p : UInt8 → Bool} {l : List UInt8} {j : Nat} (hj : j < l.length) (h : p (l[j]'hj) = false) : l.all p = false := by
  cases hq : l.all p with
  | false => rfl
  | true =>
    have := List.all_eq_true.1 hq _ (List.getElem_mem hj)
    rw [h] at this; cases this

theorem isName_own (c : UInt8) (r : List UInt8) : isName (c :: r) = (small c && named (c :: r) && !isWord (c :: r)) := by
  show (decide ((c :: r).length ≤ 24) && small c && (c :: r).all nameB && !isWord (c :: r)) = _
  cases h : small c with
  | false => simp
  | true =>
    have : nameB c = true := by unfold nameB; rw [h]; rfl
    unfold named
    simp [this]

theorem isUpper_own (c : UInt8) (r : List UInt8) : isUpper (c :: r) = (great c && named (c :: r)) := by
  show (decide ((c :: r).length ≤ 24) && great c && (c :: r).all nameB) = _
  cases h : great c with
  | false => simp
  | true =>
    have : nameB c = true := by unfold nameB; rw [h]; simp
    unfold named
    simp [this]
end Lex
namespace Go.Proofs.YtebphmkefpaeaaaGreatDoor
open Go.RowKit
set_option linter.unusedVariables false

set_option maxRecDepth 100000 in
set_option maxHeartbeats 4000000 in
theorem onamed_walk (l : List UInt8) (hl : l.length ≤ 9223372036854775806) (w : World) :
    Calls Tryz.prog 26 #[.string ⟨l.toArray⟩] w fun e w' => e = .returned (.bool (Lex.named l)) ∧ w = w' := by
  have hz : (⟨l.toArray⟩ : ByteArray).size = l.length := size_list _
  have HM : Hid (Lex.named l = (decide (l.length ≤ 24) && l.tail.all Lex.nameB)) := Lib.hid rfl
  by_cases h24 : l.length ≤ 24
  · have h24d : ¬ ((24 : Int) < (l.length : Int)) := by omega
    go_enter Tryz.func26, Tryz.ntmps26
    go_wp2_with fail
    go_loopw [3] (fun ii wr => ∃ n : Nat, ii = .int .i64 n ∧ 1 ≤ n ∧ (n ≤ l.length ∨ n = 1) ∧ Hid (∀ j (hj : j < l.length), 1 ≤ j → j < n → Lex.nameB (l[j]'hj) = true) ∧ w = wr)
      (fun i _ => l.length - (intOf i).toNat)
    case atStart => exact ⟨1, rfl, Nat.le_refl _, Or.inr rfl, Lib.hid (fun j _ h1 hj => absurd hj (by omega)), rfl⟩
    case round =>
      obtain ⟨n, rfl, h1, hn, HN, rfl⟩ := hrel
      by_cases hlt : n < l.length
      · have hi1 : (n : Int) < (l.length : Int) := by omega
        obtain ⟨c, hc⟩ : ∃ c, c = l[n]'hlt := ⟨_, rfl⟩
        have hidx : ∀ W, (Instr.index 9 (.string ⟨l.toArray⟩) (.int .i64 (n : Int))).run Tryz.prog W = .ok (.int .u8 c.toNat) W := fun W => by
          rw [hc]; exact index_byte ⟨l.toArray⟩ n (by omega) W
        have HC := Lib.hid hc
        clear hc
        cases hb : Lex.nameB c
        · have HF : Hid (Lex.named l = false) := Lib.hid (by rw [HM.out, Lex.tail_no hlt h1 (by rw [← HC.out]; exact hb)]; simp)
          go_wp2_with fail
          refine (onameB_walk c _).mono ?_
          rintro e w2 ⟨rfl, rfl⟩
          rw [hb]
          go_wp2
          go_ret
          exact ⟨by rw [HF.out]; rfl, rfl⟩
        · have HN2 : Hid (∀ j (hj : j < l.length), 1 ≤ j → j < n + 1 → Lex.nameB (l[j]'hj) = true) := Lib.hid (fun j hj h1 hji => by
            rcases Nat.lt_succ_iff_lt_or_eq.1 hji with h' | rfl
            · exact HN.out j hj h1 h'
            · rw [← HC.out]; exact hb)
          go_wp2_with fail
          refine (onameB_walk c _).mono ?_
          rintro e w2 ⟨rfl, rfl⟩
          rw [hb]
          go_wp2
          go_roundw
          case rel => exact ⟨n + 1, by go_num, by omega, Or.inl (by omega), HN2, trivial⟩
          case measure => simp [intOf]; omega
      · have hi1 : ¬ (n : Int) < (l.length : Int) := by omega
        have HF : Hid (Lex.named l = true) := Lib.hid (by rw [HM.out, decide_eq_true h24, Lex.tail_all (fun j hj h1 => HN.out j hj h1 (by omega))]; rfl)
        go_wp2
        go_ret
        exact ⟨by rw [HF.out]; rfl, rfl⟩
  · have h24d : (24 : Int) < (l.length : Int) := by omega
    have HF : Hid (Lex.named l = false) := Lib.hid (by rw [HM.out, decide_eq_false h24]; rfl)
    go_enter Tryz.func26, Tryz.ntmps26
    go_wp2
    go_ret
    exact ⟨by rw [HF.out]; rfl, rfl⟩

set_option maxRecDepth 100000 in
set_option maxHeartbeats 2000000 in
theorem oname_walk (l : List UInt8) (hl : l.length ≤ 9223372036854775806) (w : World) :
    Calls Tryz.prog 14 #[.string ⟨l.toArray⟩] w fun e w' => e = .returned (.bool (Lex.isName l)) ∧ w = w' := by
  cases l with
  | nil =>
    have HM : Hid (Lex.isName [] = false) := Lib.hid rfl
    go_enter Tryz.func14, Tryz.ntmps14
    go_wp2
    go_ret
    exact ⟨by rw [HM.out]; rfl, rfl⟩
  | cons c r =>
    have HM := Lib.hid (Lex.isName_own c r)
    obtain ⟨l, hll⟩ : ∃ l : List UInt8, l = c :: r := ⟨_, rfl⟩
    rw [← hll] at hl HM ⊢
    have hz : (⟨l.toArray⟩ : ByteArray).size = l.length := size_list _
    have he : l.isEmpty = false := by rw [hll]; rfl
    have he2 : (l == []) = false := by rw [hll]; rfl
    have he3 : (l != []) = true := by rw [hll]; rfl
    have hidx : ∀ W, (Instr.index 9 (.string ⟨l.toArray⟩) (.int .i64 0)).run Tryz.prog W = .ok (.int .u8 c.toNat) W := fun W => by rw [hll]; rfl
    clear hll
    cases h1 : Lex.small c
    · have HF : Hid (Lex.isName l = false) := Lib.hid (by rw [HM.out, h1]; rfl)
      go_enter Tryz.func14, Tryz.ntmps14
      go_wp2_with fail
      refine (osmall_walk c _).mono ?_
      rintro e w2 ⟨rfl, rfl⟩
      rw [h1]
      go_wp2
      go_ret
      exact ⟨by rw [HF.out]; rfl, rfl⟩
    · cases h2 : Lex.named l
      · have HF : Hid (Lex.isName l = false) := Lib.hid (by rw [HM.out, h1, h2]; rfl)
        go_enter Tryz.func14, Tryz.ntmps14
        go_wp2_with fail
        refine (osmall_walk c _).mono ?_
        rintro e w2 ⟨rfl, rfl⟩
        rw [h1]
        go_wp2_with fail
        refine (onamed_walk l hl _).mono ?_
        rintro e w2 ⟨rfl, rfl⟩
        rw [h2]
        go_wp2
        go_ret
        exact ⟨by rw [HF.out]; rfl, rfl⟩
      · have HF : Hid (Lex.isName l = !Lex.isWord l) := Lib.hid (by rw [HM.out, h1, h2]; rfl)
        go_enter Tryz.func14, Tryz.ntmps14
        go_wp2_with fail
        refine (osmall_walk c _).mono ?_
        rintro e w2 ⟨rfl, rfl⟩
        rw [h1]
        go_wp2_with fail
        refine (onamed_walk l hl _).mono ?_
        rintro e w2 ⟨rfl, rfl⟩
        rw [h2]
        go_wp2_with fail
        refine (oword_walk l _).mono ?_
        rintro e w2 ⟨rfl, rfl⟩
        go_wp2
        go_ret
        exact ⟨by rw [HF.out]; rfl, rfl⟩

set_option maxRecDepth 100000 in
set_option maxHeartbeats 2000000 in
theorem oupper_walk (l : List UInt8) (hl : l.length ≤ 9223372036854775806) (w : World) :
    Calls Tryz.prog 16 #[.string ⟨l.toArray⟩] w fun e w' => e = .returned (.bool (Lex.isUpper l)) ∧ w = w' := by
  cases l with
  | nil =>
    have HM : Hid (Lex.isUpper [] = false) := Lib.hid rfl
    go_enter Tryz.func16, Tryz.ntmps16
    go_wp2
    go_ret
    exact ⟨by rw [HM.out]; rfl, rfl⟩
  | cons c r =>
    have HM := Lib.hid (Lex.isUpper_own c r)
    obtain ⟨l, hll⟩ : ∃ l : List UInt8, l = c :: r := ⟨_, rfl⟩
    rw [← hll] at hl HM ⊢
    have hz : (⟨l.toArray⟩ : ByteArray).size = l.length := size_list _
    have he : l.isEmpty = false := by rw [hll]; rfl
    have he2 : (l == []) = false := by rw [hll]; rfl
    have he3 : (l != []) = true := by rw [hll]; rfl
    have hidx : ∀ W, (Instr.index 9 (.string ⟨l.toArray⟩) (.int .i64 0)).run Tryz.prog W = .ok (.int .u8 c.toNat) W := fun W => by rw [hll]; rfl
    clear hll
    cases h1 : Lex.great c
    · have HF : Hid (Lex.isUpper l = false) := Lib.hid (by rw [HM.out, h1]; rfl)
      go_enter Tryz.func16, Tryz.ntmps16
      go_wp2_with fail
      refine (ogreat_walk c _).mono ?_
      rintro e w2 ⟨rfl, rfl⟩
      rw [h1]
      go_wp2
      go_ret
      exact ⟨by rw [HF.out]; rfl, rfl⟩
    · have HF : Hid (Lex.isUpper l = Lex.named l) := Lib.hid (by rw [HM.out, h1]; rfl)
      go_enter Tryz.func16, Tryz.ntmps16
      go_wp2_with fail
      refine (ogreat_walk c _).mono ?_
      rintro e w2 ⟨rfl, rfl⟩
      rw [h1]
      go_wp2_with fail
      refine (onamed_walk l hl _).mono ?_
      rintro e w2 ⟨rfl, rfl⟩
      go_wp2
      go_ret
      exact ⟨by rw [HF.out]; rfl, rfl⟩

theorem number_cons (c : UInt8) (r : List UInt8) : Lex.number (c :: r) = ((c :: r).all Lex.digit && decide (1 ≤ (c :: r).length) && decide ((c :: r).length ≤ 15) && (decide ((c :: r).length = 1) || (c != 48))) := by
  show (_ && _ && _ && (_ || decide ((c :: r).head? ≠ some 48))) = _
  congr 2
  by_cases h : c = 48
  · subst h; rfl
  · simp [h]

set_option maxRecDepth 100000 in
set_option maxHeartbeats 4000000 in
theorem onumber_loop (l : List UInt8) (h0 : (l == []) = false) (h15 : l.length ≤ 15) (c : UInt8) (hidx0 : ∀ W, (Instr.index 9 (.string ⟨l.toArray⟩) (.int .i64 0)).run Tryz.prog W = .ok (.int .u8 c.toNat) W) (hc : ¬ (1 < l.length) ∨ (c == 48) = false) (w : World) :
    Calls Tryz.prog 79 #[.string ⟨l.toArray⟩] w fun e w' => e = .returned (.bool (l.all Lex.digit)) ∧ w = w' := by
  have hz : (⟨l.toArray⟩ : ByteArray).size = l.length := size_list _
  have he : l.isEmpty = false := by cases l with | nil => cases h0 | cons c r => rfl
  have h15d : ¬ ((15 : Int) < (l.length : Int)) := by omega
  have hq : Hid ((((1 : Int) < (l.length : Int)) ∧ ((c.toNat : Int) == 48) = false) ∨ ¬ ((1 : Int) < (l.length : Int))) := Lib.hid (by
    by_cases h : 1 < l.length
    · left
      refine ⟨by omega, ?_⟩
      rcases hc with h' | h'
      · exact absurd h h'
      · rw [show ((c.toNat : Int) == 48) = (c == 48) from by
          rw [Bool.eq_iff_iff, beq_iff_eq, beq_iff_eq]
          exact ⟨fun h => UInt8.toNat_inj.1 (by show c.toNat = 48; omega), fun h => by rw [h]; rfl⟩]
        exact h'
    · right; omega)
  clear hc
  rcases hq.out with ⟨q1, q2⟩ | q1
  all_goals
    go_enter Tryz.func79, Tryz.ntmps79
    go_wp2_with fail
    go_loopw [23] (fun ii wr => ∃ n : Nat, ii = .int .i64 n ∧ n ≤ l.length ∧ Hid (∀ j (hj : j < l.length), j < n → Lex.digit (l[j]'hj) = true) ∧ w = wr)
      (fun i _ => l.length - (intOf i).toNat)
    case atStart => exact ⟨0, rfl, Nat.zero_le _, Lib.hid (fun j _ hj => absurd hj (by omega)), rfl⟩
    case round =>
      obtain ⟨n, rfl, hn, HN, rfl⟩ := hrel
      by_cases hlt : n < l.length
      · have hi1 : (n : Int) < (l.length : Int) := by omega
        obtain ⟨d, hd⟩ : ∃ d, d = l[n]'hlt := ⟨_, rfl⟩
        have hidx : ∀ W, (Instr.index 9 (.string ⟨l.toArray⟩) (.int .i64 (n : Int))).run Tryz.prog W = .ok (.int .u8 d.toNat) W := fun W => by
          rw [hd]; exact index_byte ⟨l.toArray⟩ n (by omega) W
        have HC := Lib.hid hd
        clear hd
        cases hb : Lex.digit d
        · have HF : Hid (l.all Lex.digit = false) := Lib.hid (Lex.all_no hlt (by rw [← HC.out]; exact hb))
          go_wp2_with fail
          refine (odigit_walk d _).mono ?_
          rintro e w2 ⟨rfl, rfl⟩
          rw [hb]
          go_wp2
          go_ret
          exact ⟨by rw [HF.out]; rfl, rfl⟩
        · have HN2 : Hid (∀ j (hj : j < l.length), j < n + 1 → Lex.digit (l[j]'hj) = true) := Lib.hid (fun j hj hji => by
            rcases Nat.lt_succ_iff_lt_or_eq.1 hji with h' | rfl
            · exact HN.out j hj h'
            · rw [← HC.out]; exact hb)
          go_wp2_with fail
          refine (odigit_walk d _).mono ?_
          rintro e w2 ⟨rfl, rfl⟩
          rw [hb]
          go_wp2
          go_roundw
          case rel => exact ⟨n + 1, by go_num, by omega, HN2, trivial⟩
          case measure => simp [intOf]; omega
      · have hi1 : ¬ (n : Int) < (l.length : Int) := by omega
        have HF : Hid (l.all Lex.digit = true) := Lib.hid (Lex.all_of (fun j hj => HN.out j hj (by omega)))
        go_wp2
        go_ret
        exact ⟨by rw [HF.out]; rfl, rfl⟩

set_option maxRecDepth 100000 in
set_option maxHeartbeats 4000000 in
theorem onumber_walk (l : List UInt8) (hl : l.length ≤ 9223372036854775806) (w : World) :
    Calls Tryz.prog 79 #[.string ⟨l.toArray⟩] w fun e w' => e = .returned (.bool (Lex.number l)) ∧ w = w' := by
  cases l with
  | nil =>
    have HM : Hid (Lex.number [] = false) := Lib.hid rfl
    go_enter Tryz.func79, Tryz.ntmps79
    go_wp2
    go_ret
    exact ⟨by rw [HM.out]; rfl, rfl⟩
  | cons c r =>
    have HM := Lib.hid (number_cons c r)
    have hidx0 : ∀ W, (Instr.index 9 (.string ⟨(c :: r).toArray⟩) (.int .i64 0)).run Tryz.prog W = .ok (.int .u8 c.toNat) W := fun W => rfl
    have h1 : decide (1 ≤ (c :: r).length) = true := by simp
    by_cases h15 : (c :: r).length ≤ 15
    · by_cases hc : ¬ (1 < (c :: r).length) ∨ (c == 48) = false
      · refine (onumber_loop (c :: r) rfl h15 c hidx0 hc w).mono ?_
        rintro e w' ⟨rfl, rfl⟩
        refine ⟨?_, rfl⟩
        have : (decide ((c :: r).length = 1) || (c != 48)) = true := by
          rcases hc with h | h
          · rw [decide_eq_true (by rw [List.length_cons] at h ⊢; omega)]; rfl
          · rw [bne, h]; simp
        rw [HM.out, h1, decide_eq_true h15, this]; simp
      · have h48 : (c == 48) = true := by cases h : (c == 48) with | true => rfl | false => exact absurd (Or.inr h) hc
        have hlt : 1 < (c :: r).length := Decidable.byContradiction (fun h => hc (Or.inl h))
        have HF : Hid (Lex.number (c :: r) = false) := Lib.hid (by rw [HM.out, bne, h48, decide_eq_false (p := (c :: r).length = 1) (by omega)]; simp)
        obtain rfl := beq_iff_eq.1 h48
        obtain ⟨l, hll⟩ : ∃ l : List UInt8, l = 48 :: r := ⟨_, rfl⟩
        rw [← hll] at hl HF hidx0 h15 hlt ⊢
        have hz : (⟨l.toArray⟩ : ByteArray).size = l.length := size_list _
        have he : l.isEmpty = false := by rw [hll]; rfl
        have he2 : (l == []) = false := by rw [hll]; rfl
        have h15d : ¬ ((15 : Int) < (l.length : Int)) := by omega
        have q1 : (1 : Int) < (l.length : Int) := by omega
        clear hll HM h1 hc h48
        go_enter Tryz.func79, Tryz.ntmps79
        go_wp2
        go_ret
        exact ⟨by rw [HF.out]; rfl, rfl⟩
    · have HF : Hid (Lex.number (c :: r) = false) := Lib.hid (by rw [HM.out, decide_eq_false h15]; simp)
      obtain ⟨l, hll⟩ : ∃ l : List UInt8, l = c :: r := ⟨_, rfl⟩
      rw [← hll] at hl HF h15 ⊢
      have hz : (⟨l.toArray⟩ : ByteArray).size = l.length := size_list _
      have he : l.isEmpty = false := by rw [hll]; rfl
      have he2 : (l == []) = false := by rw [hll]; rfl
      have h15d : (15 : Int) < (l.length : Int) := by omega
      clear hll HM h1 hidx0
      go_enter Tryz.func79, Tryz.ntmps79
      go_wp2
      go_ret
      exact ⟨by rw [HF.out]; rfl, rfl⟩
end Go.Proofs.YtebphmkefpaeaaaGreatDoor

/- The program's isVersion and kindOf of layer 6. -/
namespace Go.Proofs.YtebphmkefpaeaaaGreatDoor
open Go.RowKit
set_option linter.unusedVariables false

/-- What kindOf tells. -/
def kindV (l : List UInt8) : Value := match Lex.kindR l with
  | some k => .tuple #[.int .i64 k, .bool true]
  | none => .tuple #[.int .i64 0, .bool false]

set_option maxRecDepth 100000 in
set_option maxHeartbeats 2000000 in
theorem oversion_gen (l : List UInt8) (hl : l.length ≤ 140737488351232) (u : Sem.Ver) (e0 : Int) (hp : parseR (Sem.parse l) = .tuple #[verV u, .int .i64 e0]) (w : World) (hg : Globs w) :
    Calls Tryz.prog 80 #[.string ⟨l.toArray⟩] w fun e w' => e = .returned (.bool (e0 == 0)) ∧ Below w.heap.size w w' := by
  obtain ⟨a, b, c, p⟩ := u
  have HP : Hid (parseR (Sem.parse l) = .tuple #[.agg #[.int .i64 a, .int .i64 b, .int .i64 c, .string ⟨p.toArray⟩], .int .i64 e0]) := Lib.hid hp
  clear hp
  go_enter Tryz.func80, Tryz.ntmps80
  go_wp2_with fail
  refine (parse_walk ⟨l.toArray⟩ (by rw [size_list]; exact hl) _ hg).mono ?_
  rintro e w1 ⟨he, hb1⟩
  rw [show (⟨l.toArray⟩ : ByteArray).data.toList = l from rfl, HP.out] at he
  subst he
  go_wp2
  go_ret
  exact ⟨rfl, below_new hb1 _⟩

theorem oversion_walk (l : List UInt8) (hl : l.length ≤ 140737488351232) (w : World) (hg : Globs w) :
    Calls Tryz.prog 80 #[.string ⟨l.toArray⟩] w fun e w' => e = .returned (.bool (Sem.parse l).isSome) ∧ Below w.heap.size w w' := by
  rcases hp : Sem.parse l with _ | v
  · exact oversion_gen l hl ⟨0, 0, 0, []⟩ 40 (by rw [hp]; rfl) w hg
  · exact oversion_gen l hl v 0 (by rw [hp]; rfl) w hg

set_option maxRecDepth 100000 in
set_option maxHeartbeats 2000000 in
theorem okind_walk (l : List UInt8) (hl : l.length ≤ 140737488351232) (w : World) (hg : Globs w) :
    Calls Tryz.prog 69 #[.string ⟨l.toArray⟩] w fun e w' => e = .returned (kindV l) ∧ Below w.heap.size w w' := by
  have HK : Hid (Lex.kindR l = if Lex.isWord l then some 5 else if Lex.isName l then some 1 else if Lex.isUpper l then some 2 else if Lex.isSign l then some 6 else if Lex.number l then some 3 else if (Sem.parse l).isSome then some 7 else none) := Lib.hid rfl
  cases h0 : Lex.isWord l
  · cases h1 : Lex.isName l
    · cases h2 : Lex.isUpper l
      · cases h3 : Lex.isSign l
        · cases h4 : Lex.number l
          · cases h5 : (Sem.parse l).isSome
            · have HV : Hid (kindV l = .tuple #[.int .i64 0, .bool false]) := Lib.hid (by
                have : Lex.kindR l = none := by rw [HK.out, h0, h1, h2, h3, h4, h5]; rfl
                unfold kindV; rw [this])
              go_enter Tryz.func69, Tryz.ntmps69
              go_wp2_with fail
              refine (oword_walk l _).mono ?_
              rintro e w2 ⟨rfl, rfl⟩
              rw [h0]
              go_wp2_with fail
              refine (oname_walk l (by omega) _).mono ?_
              rintro e w2 ⟨rfl, rfl⟩
              rw [h1]
              go_wp2_with fail
              refine (oupper_walk l (by omega) _).mono ?_
              rintro e w2 ⟨rfl, rfl⟩
              rw [h2]
              go_wp2_with fail
              refine (osign_walk l _).mono ?_
              rintro e w2 ⟨rfl, rfl⟩
              rw [h3]
              go_wp2_with fail
              refine (onumber_walk l (by omega) _).mono ?_
              rintro e w2 ⟨rfl, rfl⟩
              rw [h4]
              go_wp2_with fail
              refine (oversion_walk l hl _ hg).mono ?_
              rintro e w2 ⟨rfl, hb⟩
              rw [h5]
              go_wp2
              go_ret2
              exact ⟨by rw [HV.out]; rfl, hb⟩
            · have HV : Hid (kindV l = .tuple #[.int .i64 7, .bool true]) := Lib.hid (by
                have : Lex.kindR l = some 7 := by rw [HK.out, h0, h1, h2, h3, h4, h5]; rfl
                unfold kindV; rw [this])
              go_enter Tryz.func69, Tryz.ntmps69
              go_wp2_with fail
              refine (oword_walk l _).mono ?_
              rintro e w2 ⟨rfl, rfl⟩
              rw [h0]
              go_wp2_with fail
              refine (oname_walk l (by omega) _).mono ?_
              rintro e w2 ⟨rfl, rfl⟩
              rw [h1]
              go_wp2_with fail
              refine (oupper_walk l (by omega) _).mono ?_
              rintro e w2 ⟨rfl, rfl⟩
              rw [h2]
              go_wp2_with fail
              refine (osign_walk l _).mono ?_
              rintro e w2 ⟨rfl, rfl⟩
              rw [h3]
              go_wp2_with fail
              refine (onumber_walk l (by omega) _).mono ?_
              rintro e w2 ⟨rfl, rfl⟩
              rw [h4]
              go_wp2_with fail
              refine (oversion_walk l hl _ hg).mono ?_
              rintro e w2 ⟨rfl, hb⟩
              rw [h5]
              go_wp2
              go_ret2
              exact ⟨by rw [HV.out]; rfl, hb⟩
          · have HV : Hid (kindV l = .tuple #[.int .i64 3, .bool true]) := Lib.hid (by
              have : Lex.kindR l = some 3 := by rw [HK.out, h0, h1, h2, h3, h4]; rfl
              unfold kindV; rw [this])
            go_enter Tryz.func69, Tryz.ntmps69
            go_wp2_with fail
            refine (oword_walk l _).mono ?_
            rintro e w2 ⟨rfl, rfl⟩
            rw [h0]
            go_wp2_with fail
            refine (oname_walk l (by omega) _).mono ?_
            rintro e w2 ⟨rfl, rfl⟩
            rw [h1]
            go_wp2_with fail
            refine (oupper_walk l (by omega) _).mono ?_
            rintro e w2 ⟨rfl, rfl⟩
            rw [h2]
            go_wp2_with fail
            refine (osign_walk l _).mono ?_
            rintro e w2 ⟨rfl, rfl⟩
            rw [h3]
            go_wp2_with fail
            refine (onumber_walk l (by omega) _).mono ?_
            rintro e w2 ⟨rfl, rfl⟩
            rw [h4]
            go_wp2
            go_ret2
            exact ⟨by rw [HV.out]; rfl, Below.refl _ _⟩
        · have HV : Hid (kindV l = .tuple #[.int .i64 6, .bool true]) := Lib.hid (by
            have : Lex.kindR l = some 6 := by rw [HK.out, h0, h1, h2, h3]; rfl
            unfold kindV; rw [this])
          go_enter Tryz.func69, Tryz.ntmps69
          go_wp2_with fail
          refine (oword_walk l _).mono ?_
          rintro e w2 ⟨rfl, rfl⟩
          rw [h0]
          go_wp2_with fail
          refine (oname_walk l (by omega) _).mono ?_
          rintro e w2 ⟨rfl, rfl⟩
          rw [h1]
          go_wp2_with fail
          refine (oupper_walk l (by omega) _).mono ?_
          rintro e w2 ⟨rfl, rfl⟩
          rw [h2]
          go_wp2_with fail
          refine (osign_walk l _).mono ?_
          rintro e w2 ⟨rfl, rfl⟩
          rw [h3]
          go_wp2
          go_ret2
          exact ⟨by rw [HV.out]; rfl, Below.refl _ _⟩
      · have HV : Hid (kindV l = .tuple #[.int .i64 2, .bool true]) := Lib.hid (by
          have : Lex.kindR l = some 2 := by rw [HK.out, h0, h1, h2]; rfl
          unfold kindV; rw [this])
        go_enter Tryz.func69, Tryz.ntmps69
        go_wp2_with fail
        refine (oword_walk l _).mono ?_
        rintro e w2 ⟨rfl, rfl⟩
        rw [h0]
        go_wp2_with fail
        refine (oname_walk l (by omega) _).mono ?_
        rintro e w2 ⟨rfl, rfl⟩
        rw [h1]
        go_wp2_with fail
        refine (oupper_walk l (by omega) _).mono ?_
        rintro e w2 ⟨rfl, rfl⟩
        rw [h2]
        go_wp2
        go_ret2
        exact ⟨by rw [HV.out]; rfl, Below.refl _ _⟩
    · have HV : Hid (kindV l = .tuple #[.int .i64 1, .bool true]) := Lib.hid (by
        have : Lex.kindR l = some 1 := by rw [HK.out, h0, h1]; rfl
        unfold kindV; rw [this])
      go_enter Tryz.func69, Tryz.ntmps69
      go_wp2_with fail
      refine (oword_walk l _).mono ?_
      rintro e w2 ⟨rfl, rfl⟩
      rw [h0]
      go_wp2_with fail
      refine (oname_walk l (by omega) _).mono ?_
      rintro e w2 ⟨rfl, rfl⟩
      rw [h1]
      go_wp2
      go_ret2
      exact ⟨by rw [HV.out]; rfl, Below.refl _ _⟩
  · have HV : Hid (kindV l = .tuple #[.int .i64 5, .bool true]) := Lib.hid (by
      have : Lex.kindR l = some 5 := by rw [HK.out, h0]; rfl
      unfold kindV; rw [this])
    go_enter Tryz.func69, Tryz.ntmps69
    go_wp2_with fail
    refine (oword_walk l _).mono ?_
    rintro e w2 ⟨rfl, rfl⟩
    rw [h0]
    go_wp2
    go_ret2
    exact ⟨by rw [HV.out]; rfl, Below.refl _ _⟩
end Go.Proofs.YtebphmkefpaeaaaGreatDoor

/- Where the program's scanner of layer 6 stands: ended, first, next, rest. -/
namespace Go.Proofs.YtebphmkefpaeaaaGreatDoor
open Go.RowKit
set_option linter.unusedVariables false

/-- A scanner's source and place, in memory. -/
structure ScanAt (W : World) (g : Nat) (s : List UInt8) (i : Nat) : Prop where
  lt : g < W.heap.size
  c0 : W.cell? ⟨g, 0, none⟩ = some (.string ⟨s.toArray⟩)
  c1 : W.cell? ⟨g, 1, none⟩ = some (.int .i64 (i : Int))
  f1 : W.frozen? ⟨g, 1, none⟩ = false
  f2 : W.frozen? ⟨g, 2, none⟩ = false

theorem ScanAt.keep {W W' : World} {g B i : Nat} {s : List UInt8} (h : ScanAt W g s i) (hg : g < B) (hb : Below B W W') : ScanAt W' g s i :=
  ⟨Nat.lt_of_lt_of_le h.lt hb.size, (hb.cell (p := ⟨g, 0, none⟩) hg).trans h.c0, (hb.cell (p := ⟨g, 1, none⟩) hg).trans h.c1, (hb.frozen (p := ⟨g, 1, none⟩) hg).trans h.f1, (hb.frozen (p := ⟨g, 2, none⟩) hg).trans h.f2⟩

theorem below_drew1 (w : World) (n : Nat) : Below w.heap.size w (w.drewN n) := below_drewN (Below.refl _ _) n

theorem ended_walk (g : Nat) (s : List UInt8) (i : Nat) (w : World) (h : ScanAt w g s i) :
    Calls Tryz.prog 42 #[.pointer (some ⟨g, 0, none⟩)] w fun e w' => e = .returned (.bool ((i : Int) == (s.length : Int))) ∧ ∃ n, w' = w.drewN n := by
  have hz : (⟨s.toArray⟩ : ByteArray).size = s.length := size_list _
  obtain ⟨hlt, c0, c1, f1, f2⟩ := h
  go_enter Tryz.func42, Tryz.ntmps42
  go_wp2_with fail
  go_quiet (fail)
  go_wp2
  go_ret
  exact ⟨rfl, _, rfl⟩

theorem wfirst_walk (g : Nat) (s : List UInt8) (i : Nat) (hi : i < s.length) (w : World) (h : ScanAt w g s i) :
    Calls Tryz.prog 43 #[.pointer (some ⟨g, 0, none⟩)] w fun e w' => e = .returned (.int .u8 (s[i]'hi).toNat) ∧ ∃ n, w' = w.drewN n := by
  have hz : (⟨s.toArray⟩ : ByteArray).size = s.length := size_list _
  obtain ⟨c, hc⟩ : ∃ c, c = s[i]'hi := ⟨_, rfl⟩
  have hidx : ∀ W, (Instr.index 9 (.string ⟨s.toArray⟩) (.int .i64 (i : Int))).run Tryz.prog W = .ok (.int .u8 c.toNat) W := fun W => by
    rw [hc]; exact index_byte ⟨s.toArray⟩ i (by omega) W
  rw [← hc]
  clear hc
  have hi1 : (i : Int) < (s.length : Int) := by omega
  obtain ⟨hlt, c0, c1, f1, f2⟩ := h
  go_enter Tryz.func43, Tryz.ntmps43
  go_wp2_with fail
  go_quiet (fail)
  go_wp2
  go_ret
  exact ⟨rfl, _, rfl⟩

theorem wrest_walk (g : Nat) (s : List UInt8) (i : Nat) (hi : i ≤ s.length) (w : World) (h : ScanAt w g s i) :
    Calls Tryz.prog 64 #[.pointer (some ⟨g, 0, none⟩)] w fun e w' => e = .returned (.string ⟨(s.drop i).toArray⟩) ∧ ∃ n, w' = w.drewN n := by
  have hz : (⟨s.toArray⟩ : ByteArray).size = s.length := size_list _
  have hsl : ∀ W, (Instr.slice 9 (.string ⟨s.toArray⟩) (some (.int .i64 (i : Int))) none none).run Tryz.prog W = .ok (.string ⟨(s.drop i).toArray⟩) W := fun W => slice_from (W := W) ⟨s.toArray⟩ i (by omega)
  have hi1 : (i : Int) ≤ (s.length : Int) := by omega
  obtain ⟨hlt, c0, c1, f1, f2⟩ := h
  go_enter Tryz.func64, Tryz.ntmps64
  go_wp2_with fail
  go_quiet (fail)
  go_wp2
  go_ret
  exact ⟨rfl, _, rfl⟩

theorem wnext_walk (g : Nat) (s : List UInt8) (i n : Nat) (hi : i ≤ s.length) (hs : s.length ≤ 1000000) (hn : n ≤ 1000000) (w : World) (h : ScanAt w g s i) :
    Calls Tryz.prog 54 #[.pointer (some ⟨g, 0, none⟩), .int .i64 (n : Int)] w fun e w' => e = .returned (.string ⟨((s.drop i).take n).toArray⟩) ∧ ∃ n, w' = w.drewN n := by
  have hz : (⟨s.toArray⟩ : ByteArray).size = s.length := size_list _
  have hsl : ∀ (k : Int), (i : Int) ≤ k → k ≤ s.length → ∀ W, (Instr.slice 9 (.string ⟨s.toArray⟩) (some (.int .i64 (i : Int))) (some (.int .i64 k)) none).run Tryz.prog W = .ok (.string ⟨((s.drop i).take (k.toNat - i)).toArray⟩) W := fun k h1 h2 W => slice_mid ⟨s.toArray⟩ i k h1 (by omega) W
  have hw : IntKind.i64.wrap ((i : Int) + (n : Int)) = (i : Int) + (n : Int) := IntWalk.i64_in _ (by omega)
  obtain ⟨hlt, c0, c1, f1, f2⟩ := h
  by_cases hl : i + n ≤ s.length
  · have hm : min ((i : Int) + n) (s.length : Int) = (i : Int) + n := by omega
    have h1 := hsl ((i : Int) + n) (by omega) (by omega)
    have e : (((i : Int) + n).toNat - i) = n := by omega
    rw [e] at h1
    have hle : (i : Int) + n ≤ (s.length : Int) := by omega
    clear hsl e
    go_enter Tryz.func54, Tryz.ntmps54
    go_wp2_with fail
    go_quiet (fail)
    go_wp2
    go_ret
    exact ⟨rfl, _, rfl⟩
  · have hm : min ((i : Int) + n) (s.length : Int) = (s.length : Int) := by omega
    have h1 := hsl (s.length : Int) (by omega) (by omega)
    have e : ((s.drop i).take ((s.length : Int).toNat - i)) = (s.drop i).take n := by
      rw [List.take_of_length_le (by rw [List.length_drop]; omega), List.take_of_length_le (by rw [List.length_drop]; omega)]
    rw [e] at h1
    have hle : ¬ (i : Int) + n ≤ (s.length : Int) := by omega
    clear hsl e
    go_enter Tryz.func54, Tryz.ntmps54
    go_wp2_with fail
    go_quiet (fail)
    go_wp2
    go_ret
    exact ⟨rfl, _, rfl⟩
end Go.Proofs.YtebphmkefpaeaaaGreatDoor

/- The program's run, noToken, decoded of layer 6. -/
namespace Lex
theorem take_tw {p : UInt8 → Bool} {l : List UInt8} {k : Nat} (h1 : k ≤ l.length) (h2 : ∀ j (hj : j < l.length), j < k → p (l[j]'hj) = true) (h3 : ∀ (h : k < l.length), p (l[k]'h) = false) : l.take k = l.takeWhile p := by
  have h := tw_at h1 h2 h3
  have := (tw_len p l).2
  rw [h] at this
  exact this
end Lex
namespace Go.Proofs.YtebphmkefpaeaaaGreatDoor
open Go.RowKit
set_option linter.unusedVariables false

set_option maxRecDepth 100000 in
set_option maxHeartbeats 4000000 in
theorem wrun_nameB (g : Nat) (s : List UInt8) (i : Nat) (hi : i ≤ s.length) (hs : s.length ≤ 1000000) (w : World) (h : ScanAt w g s i) :
    Calls Tryz.prog 77 #[.pointer (some ⟨g, 0, none⟩), .func (.func 40) #[] #[]] w fun e w' => e = .returned (.string ⟨((s.drop i).takeWhile Lex.nameB).toArray⟩) ∧ ∃ n, w' = w.drewN n := by
  have hz : (⟨s.toArray⟩ : ByteArray).size = s.length := size_list _
  obtain ⟨hlt, c0, c1, f1, f2⟩ := h
  go_enter Tryz.func77, Tryz.ntmps77
  go_wp2_with fail
  go_loopw [5] (fun ii wr => ∃ k : Nat, ii = .int .i64 ((i + k : Nat) : Int) ∧ i + k ≤ s.length ∧ Hid (∀ j (hj : j < (s.drop i).length), j < k → Lex.nameB ((s.drop i)[j]'hj) = true) ∧ w = wr)
    (fun ii _ => s.length - (intOf ii).toNat)
  case atStart => exact ⟨0, by simp, by omega, Lib.hid (fun j _ hj => absurd hj (by omega)), rfl⟩
  case round =>
    obtain ⟨k, rfl, hk, HN, rfl⟩ := hrel
    have hdl : (s.drop i).length = s.length - i := List.length_drop
    have HDL := Lib.hid hdl
    clear hdl
    obtain ⟨n, hn⟩ : ∃ n, n = i + k := ⟨_, rfl⟩
    rw [← hn] at hk ⊢
    have HNN := Lib.hid hn
    clear hn
    have stop : (∀ h : n < s.length, Lex.nameB (s[n]'h) = false) → Hid (((s.drop i).take (n - i)) = (s.drop i).takeWhile Lex.nameB) := fun h => Lib.hid (by
      have e := HNN.out
      have e2 := HDL.out
      refine Lex.take_tw (by omega) (fun j hj hjk => HN.out j hj (by omega)) (fun hj => ?_)
      rw [List.getElem_drop]
      have : i + (n - i) = n := by omega
      simp only [this]
      exact h (by omega))
    by_cases hlt' : n < s.length
    · have hi1 : (n : Int) < (s.length : Int) := by omega
      obtain ⟨c, hc⟩ : ∃ c, c = s[n]'hlt' := ⟨_, rfl⟩
      have hidx : ∀ W, (Instr.index 9 (.string ⟨s.toArray⟩) (.int .i64 (n : Int))).run Tryz.prog W = .ok (.int .u8 c.toNat) W := fun W => by
        rw [hc]; exact index_byte ⟨s.toArray⟩ n (by omega) W
      have HC := Lib.hid hc
      clear hc
      cases hb : Lex.nameB c
      · have HS := stop (fun _ => by rw [← HC.out]; exact hb)
        have hsl : ∀ W, (Instr.slice 9 (.string ⟨s.toArray⟩) (some (.int .i64 (i : Int))) (some (.int .i64 (n : Int))) none).run Tryz.prog W = .ok (.string ⟨((s.drop i).takeWhile Lex.nameB).toArray⟩) W := fun W => by
          rw [slice_mid ⟨s.toArray⟩ i (n : Int) (by have := HNN.out; omega) (by omega) W, Int.toNat_natCast]
          exact congrArg (fun b => Result.ok (Value.string ⟨List.toArray b⟩) W) HS.out
        have hin : (i : Int) ≤ (n : Int) := by have := HNN.out; omega
        have hn2 : (n : Int) ≤ (s.length : Int) := by omega
        clear stop
        go_wp2_with fail
        refine (onameB_walk c _).mono ?_
        rintro e w2 ⟨rfl, rfl⟩
        rw [hb]
        go_wp2_with fail
        go_quiet (fail)
        go_wp2
        go_ret
        exact ⟨rfl, _, rfl⟩
      · have HN2 : Hid (∀ j (hj : j < (s.drop i).length), j < k + 1 → Lex.nameB ((s.drop i)[j]'hj) = true) := Lib.hid (fun j hj hji => by
          rcases Nat.lt_succ_iff_lt_or_eq.1 hji with h' | h'
          · exact HN.out j hj h'
          · have e := HNN.out
            rw [List.getElem_drop]
            have : i + j = n := by omega
            simp only [this]
            rw [← HC.out]; exact hb)
        clear stop
        go_wp2_with fail
        refine (onameB_walk c _).mono ?_
        rintro e w2 ⟨rfl, rfl⟩
        rw [hb]
        go_wp2
        go_roundw
        case rel => exact ⟨k + 1, by rw [HNN.out]; go_num, by have := HNN.out; omega, HN2, trivial⟩
        case measure => simp [intOf]; omega
    · have hi1 : ¬ (n : Int) < (s.length : Int) := by omega
      have HS := stop (fun h => absurd h hlt')
      have hsl : ∀ W, (Instr.slice 9 (.string ⟨s.toArray⟩) (some (.int .i64 (i : Int))) (some (.int .i64 (n : Int))) none).run Tryz.prog W = .ok (.string ⟨((s.drop i).takeWhile Lex.nameB).toArray⟩) W := fun W => by
        rw [slice_mid ⟨s.toArray⟩ i (n : Int) (by have := HNN.out; omega) (by omega) W, Int.toNat_natCast]
        exact congrArg (fun b => Result.ok (Value.string ⟨List.toArray b⟩) W) HS.out
      have hin : (i : Int) ≤ (n : Int) := by have := HNN.out; omega
      have hn2 : (n : Int) ≤ (s.length : Int) := by omega
      clear stop
      go_wp2_with fail
      go_quiet (fail)
      go_wp2
      go_ret
      exact ⟨rfl, _, rfl⟩

set_option maxRecDepth 100000 in
set_option maxHeartbeats 4000000 in
theorem wrun_lumpB (g : Nat) (s : List UInt8) (i : Nat) (hi : i ≤ s.length) (hs : s.length ≤ 1000000) (w : World) (h : ScanAt w g s i) :
    Calls Tryz.prog 77 #[.pointer (some ⟨g, 0, none⟩), .func (.func 78) #[] #[]] w fun e w' => e = .returned (.string ⟨((s.drop i).takeWhile Lex.lumpB).toArray⟩) ∧ ∃ n, w' = w.drewN n := by
  have hz : (⟨s.toArray⟩ : ByteArray).size = s.length := size_list _
  obtain ⟨hlt, c0, c1, f1, f2⟩ := h
  go_enter Tryz.func77, Tryz.ntmps77
  go_wp2_with fail
  go_loopw [5] (fun ii wr => ∃ k : Nat, ii = .int .i64 ((i + k : Nat) : Int) ∧ i + k ≤ s.length ∧ Hid (∀ j (hj : j < (s.drop i).length), j < k → Lex.lumpB ((s.drop i)[j]'hj) = true) ∧ w = wr)
    (fun ii _ => s.length - (intOf ii).toNat)
  case atStart => exact ⟨0, by simp, by omega, Lib.hid (fun j _ hj => absurd hj (by omega)), rfl⟩
  case round =>
    obtain ⟨k, rfl, hk, HN, rfl⟩ := hrel
    have hdl : (s.drop i).length = s.length - i := List.length_drop
    have HDL := Lib.hid hdl
    clear hdl
    obtain ⟨n, hn⟩ : ∃ n, n = i + k := ⟨_, rfl⟩
    rw [← hn] at hk ⊢
    have HNN := Lib.hid hn
    clear hn
    have stop : (∀ h : n < s.length, Lex.lumpB (s[n]'h) = false) → Hid (((s.drop i).take (n - i)) = (s.drop i).takeWhile Lex.lumpB) := fun h => Lib.hid (by
      have e := HNN.out
      have e2 := HDL.out
      refine Lex.take_tw (by omega) (fun j hj hjk => HN.out j hj (by omega)) (fun hj => ?_)
      rw [List.getElem_drop]
      have : i + (n - i) = n := by omega
      simp only [this]
      exact h (by omega))
    by_cases hlt' : n < s.length
    · have hi1 : (n : Int) < (s.length : Int) := by omega
      obtain ⟨c, hc⟩ : ∃ c, c = s[n]'hlt' := ⟨_, rfl⟩
      have hidx : ∀ W, (Instr.index 9 (.string ⟨s.toArray⟩) (.int .i64 (n : Int))).run Tryz.prog W = .ok (.int .u8 c.toNat) W := fun W => by
        rw [hc]; exact index_byte ⟨s.toArray⟩ n (by omega) W
      have HC := Lib.hid hc
      clear hc
      cases hb : Lex.lumpB c
      · have HS := stop (fun _ => by rw [← HC.out]; exact hb)
        have hsl : ∀ W, (Instr.slice 9 (.string ⟨s.toArray⟩) (some (.int .i64 (i : Int))) (some (.int .i64 (n : Int))) none).run Tryz.prog W = .ok (.string ⟨((s.drop i).takeWhile Lex.lumpB).toArray⟩) W := fun W => by
          rw [slice_mid ⟨s.toArray⟩ i (n : Int) (by have := HNN.out; omega) (by omega) W, Int.toNat_natCast]
          exact congrArg (fun b => Result.ok (Value.string ⟨List.toArray b⟩) W) HS.out
        have hin : (i : Int) ≤ (n : Int) := by have := HNN.out; omega
        have hn2 : (n : Int) ≤ (s.length : Int) := by omega
        clear stop
        go_wp2_with fail
        refine (olumpB_walk c _).mono ?_
        rintro e w2 ⟨rfl, rfl⟩
        rw [hb]
        go_wp2_with fail
        go_quiet (fail)
        go_wp2
        go_ret
        exact ⟨rfl, _, rfl⟩
      · have HN2 : Hid (∀ j (hj : j < (s.drop i).length), j < k + 1 → Lex.lumpB ((s.drop i)[j]'hj) = true) := Lib.hid (fun j hj hji => by
          rcases Nat.lt_succ_iff_lt_or_eq.1 hji with h' | h'
          · exact HN.out j hj h'
          · have e := HNN.out
            rw [List.getElem_drop]
            have : i + j = n := by omega
            simp only [this]
            rw [← HC.out]; exact hb)
        clear stop
        go_wp2_with fail
        refine (olumpB_walk c _).mono ?_
        rintro e w2 ⟨rfl, rfl⟩
        rw [hb]
        go_wp2
        go_roundw
        case rel => exact ⟨k + 1, by rw [HNN.out]; go_num, by have := HNN.out; omega, HN2, trivial⟩
        case measure => simp [intOf]; omega
    · have hi1 : ¬ (n : Int) < (s.length : Int) := by omega
      have HS := stop (fun h => absurd h hlt')
      have hsl : ∀ W, (Instr.slice 9 (.string ⟨s.toArray⟩) (some (.int .i64 (i : Int))) (some (.int .i64 (n : Int))) none).run Tryz.prog W = .ok (.string ⟨((s.drop i).takeWhile Lex.lumpB).toArray⟩) W := fun W => by
        rw [slice_mid ⟨s.toArray⟩ i (n : Int) (by have := HNN.out; omega) (by omega) W, Int.toNat_natCast]
        exact congrArg (fun b => Result.ok (Value.string ⟨List.toArray b⟩) W) HS.out
      have hin : (i : Int) ≤ (n : Int) := by have := HNN.out; omega
      have hn2 : (n : Int) ≤ (s.length : Int) := by omega
      clear stop
      go_wp2_with fail
      go_quiet (fail)
      go_wp2
      go_ret
      exact ⟨rfl, _, rfl⟩

theorem nofound_walk (g : Nat) (s : List UInt8) (i : Nat) (w : World) (h : ScanAt w g s i) :
    Calls Tryz.prog 67 #[.pointer (some ⟨g, 0, none⟩)] w fun e w' => e = .returned (.agg #[.int .i64 60, .int .i64 (i : Int)]) ∧ Below w.heap.size w w' := by
  have hb := below_one w (.cells #[.int .i64 0, .int .i64 0] 27)
  obtain ⟨hlt, c0, c1, f1, f2⟩ := h
  go_enter Tryz.func67, Tryz.ntmps67
  go_wp2
  refine bodyPost_ret (v := .agg #[.int .i64 60, .int .i64 (i : Int)]) (by simp [results, Tryz.results67, go_sem]) rfl ?_
  exact ⟨rfl, below_one _ _⟩

/-- The fault of what was read as code points. -/
def faultV (ps : List Int) (rest : List UInt8) (i : Nat) : Value := if rest = [] then .agg #[.int .i64 0, .int .i64 0] else .agg #[.int .i64 30, .int .i64 ((i + (Utf.enc ps).length : Nat) : Int)]

set_option maxRecDepth 100000 in
set_option maxHeartbeats 4000000 in
theorem decoded_walk (g : Nat) (s : List UInt8) (i n : Nat) (hi : i ≤ s.length) (hs : s.length ≤ 1000000) (hn : n ≤ 1000000) (ps : List Int) (rest : List UInt8) (hR : Utf.Reads ((s.drop i).take n) ps rest) (w : World) (h : ScanAt w g s i) :
    Calls Tryz.prog 65 #[.pointer (some ⟨g, 0, none⟩), .int .i64 (n : Int)] w fun e w' => e = .returned (faultV ps rest i) ∧ Below w.heap.size w w' := by
  have HX := Lib.hid (box2_new w 0 0)
  have hb0 := below_one w (.cells #[.int .i64 0, .int .i64 0] 27)
  have HS := Lib.hid (h.keep h.lt hb0)
  have HB0 := Lib.hid hb0
  have hglt : g < w.heap.size := h.lt
  have hle : (Utf.enc ps).length ≤ 1000000 := by
    have := (Utf.reads_end hR).2
    rw [List.length_take, List.length_drop] at this; omega
  have HR := Lib.hid hR
  clear h hb0 hR
  go_enter Tryz.func65, Tryz.ntmps65
  go_wp2_with fail
  generalize hW : w.alloc (.cells #[.int .i64 0, .int .i64 0] 27) = W0 at HX HB0 HS ⊢
  clear hW
  go_wp2_with fail
  refine (wnext_walk g s i n hi hs hn _ HS.out).mono ?_
  rintro e w2 ⟨rfl, nq, rfl⟩
  go_wp2_with fail
  refine (decode_walk ⟨((s.drop i).take n).toArray⟩ (by rw [size_list, List.length_take]; omega) ps rest HR.out _).mono ?_
  rintro e w3 ⟨A, cap, zs, f, rfl, _, _, hb3, hcase⟩
  have hb3' : Below W0.heap.size W0 w3 := (below_drew1 W0 nq).trans (hb3.mono (Nat.le_refl _))
  have HB3 := Lib.hid (below_next HB0.out hb3')
  have HX3 := Lib.hid (HX.out.keep (B := W0.heap.size) HX.out.1 hb3')
  have HS3 := Lib.hid (HS.out.keep HS.out.lt hb3')
  clear hb3 hb3' HX HS HR
  rcases hcase with ⟨hr, _, rfl⟩ | ⟨hr, _, rfl⟩
  · have HF : Hid (faultV ps rest i = .agg #[.int .i64 0, .int .i64 0]) := Lib.hid (by unfold faultV; rw [if_pos hr])
    have hbn := below_new HB3.out (.cells #[.int .i64 0, .int .i64 0] 27)
    obtain ⟨q0, x0, x1, y0, y1⟩ := HX3.out
    clear hr
    go_wp2
    refine bodyPost_ret (v := .agg #[.int .i64 0, .int .i64 0]) (by simp [results, Tryz.results65, go_sem, x0, x1, q0]) rfl ?_
    exact ⟨by rw [HF.out], ((HB3.out.setCell (p := ⟨w.heap.size, 0, none⟩) (Nat.le_refl _) _).setCell (p := ⟨w.heap.size, 1, none⟩) (Nat.le_refl _) _).alloc (by have := HB3.out.size; simp; omega) _⟩
  · have HF : Hid (faultV ps rest i = .agg #[.int .i64 30, .int .i64 ((i + (Utf.enc ps).length : Nat) : Int)]) := Lib.hid (by unfold faultV; rw [if_neg hr])
    have hbn := below_new HB3.out (.cells #[.int .i64 30, .int .i64 (Utf.enc ps).length] 27)
    obtain ⟨m, hm⟩ : ∃ m, m = (Utf.enc ps).length := ⟨_, rfl⟩
    rw [← hm] at HF hle hbn ⊢
    obtain ⟨q0, x0, x1, y0, y1⟩ := HX3.out
    obtain ⟨hlt, c0, c1, f1, f2⟩ := HS3.out
    have hne : w.heap.size ≠ w3.heap.size := by omega
    have hne2 : g ≠ w3.heap.size := by omega
    have hne3 : g ≠ w.heap.size := by omega
    clear hr hm
    go_wp2_with fail
    go_region
    go_wp2
    refine bodyPost_ret (v := .agg #[.int .i64 30, .int .i64 ((m : Int) + (i : Int))]) (by simp [results, Tryz.results65, go_sem, x0, x1, q0]) rfl ?_
    exact ⟨by rw [HF.out, show ((i + m : Nat) : Int) = (m : Int) + (i : Int) by omega], (((HB3.out.setCell (p := ⟨w.heap.size, 0, none⟩) (Nat.le_refl _) _).setCell (p := ⟨w.heap.size, 1, none⟩) (Nat.le_refl _) _).alloc (by have := HB3.out.size; simp; omega) _).drew⟩
end Go.Proofs.YtebphmkefpaeaaaGreatDoor

/- The program's take of layer 6. -/
namespace Go.Proofs.YtebphmkefpaeaaaGreatDoor
open Go.RowKit
set_option linter.unusedVariables false

/-- A scanner in memory: its source, its place, its tokens, whose row lies at B or above. -/
structure ScanT (W : World) (g B : Nat) (s : List UInt8) (i : Nat) (v : Value) (l : List Tk) : Prop where
  at_ : ScanAt W g s i
  c2 : W.cell? ⟨g, 2, none⟩ = some v
  own : W.ownsRow B 32 3 v l.length (cellsT l)
  le : B ≤ W.heap.size

/-- What only turns a scanner and its row. -/
def UpdT (g : Nat) (v : Value) (w w' : World) : Prop := Below g w w' ∧ ∀ b o, b < w.heap.size → b ≠ g → some b ≠ v.ownBlock → w'.cell? ⟨b, o, none⟩ = w.cell? ⟨b, o, none⟩ ∧ w'.frozen? ⟨b, o, none⟩ = w.frozen? ⟨b, o, none⟩

theorem far_of {w w1 : World} {o : Obj} {row : Option Nat} (hg : (w.drew.alloc o).grownBy w1 row) {g : Nat} (hlt : g < w.heap.size) (hne : some g ≠ row) (j : Nat) :
    w1.cell? ⟨g, j, none⟩ = w.cell? ⟨g, j, none⟩ ∧ w1.frozen? ⟨g, j, none⟩ = w.frozen? ⟨g, j, none⟩ := by
  have hl2 : g < (w.drew.alloc o).heap.size := by simp; omega
  have hb := below_one w.drew o
  exact ⟨(hg.cell_far ⟨g, j, none⟩ hl2 hne).trans (hb.cell (p := ⟨g, j, none⟩) hlt), (hg.frozen_far ⟨g, j, none⟩ hl2 hne).trans (hb.frozen (p := ⟨g, j, none⟩) hlt)⟩

set_option maxRecDepth 100000 in
set_option maxHeartbeats 4000000 in
theorem take_walk (g B : Nat) (hgB : g < B) (s : List UInt8) (i : Nat) (v : Value) (l : List Tk) (hl : l.length ≤ 1000000) (k : Int) (t : List UInt8) (n : Nat) (hn : i + n ≤ 1000000) (w : World) (h : ScanT w g B s i v l) :
    Calls Tryz.prog 45 #[.pointer (some ⟨g, 0, none⟩), .int .i64 k, .string ⟨t.toArray⟩, .int .i64 (n : Int)] w fun e w' => e = .returned (.tuple #[]) ∧ (∃ v', ScanT w' g B s (i + n) v' (l ++ [⟨⟨k, t⟩, i⟩]) ∧ ∀ x, v'.ownBlock = some x → v.ownBlock = some x ∨ w.heap.size ≤ x) ∧ UpdT g v w w' := by
  obtain ⟨i0, hi, hz0, hz1, hz2⟩ := info_parts (P := Tryz.prog) (e := 32) (z := .agg #[.int .i64 0, .string ByteArray.empty, .int .i64 0]) (size := 3) (bytes := 32) (by kernel_rfl)
  obtain ⟨⟨hlt, c0, c1, f1, f2⟩, c2, hown, hle⟩ := h
  have HO := Lib.hid hown
  have hne : some g ≠ v.ownBlock := fun e => by have := (hown.lt g e.symm).1; omega
  have HNE := Lib.hid hne
  clear hown
  go_enter Tryz.func45, Tryz.ntmps45
  go_wp2_with fail
  have mixed : Tryz.prog.follows .mixedOrders = true := by kernel_rfl
  go_region_law ((refine step_append_lies _ rfl _ _ 24 rfl B 32 i0 (.agg #[.int .i64 0, .string ByteArray.empty, .int .i64 0]) 3 32 Tryz.underlying24 hi hz0 hz1 hz2 rfl (by decide) v _ _ (by simp [Act.eval]) (HO.out.alloc _) ⟨w.heap.size, 0, none⟩ 1 1 [.int .i64 k, .string ⟨t.toArray⟩, .int .i64 (i : Int)] (by simp [Act.eval]) rfl (news3 _ _ _ _ _ rfl) one3 (by decide) (by unfold maxLen; omega) (by omega) (by simp; omega) _ rfl ?_); intro g1 cap w1 hown1 hgrow hat hlt1; have HF := Lib.hid (far_of hgrow hlt hne); have d1 := (HF.out 1).1.trans c1; have d2 := (HF.out 2).1.trans c2; have d0 := (HF.out 0).1.trans c0; have e1 := (HF.out 1).2.trans f1; have e2 := (HF.out 2).2.trans f2; have HG := Lib.hid hgrow; have HW := Lib.hid hown1; clear hown1 hgrow)
  all_goals
    go_wp2
    refine bodyPost_end (v := .tuple #[]) (by simp [results, Tryz.results45, go_sem]) rfl ?_
    have hBw1 : B ≤ w1.heap.size := by have := HG.out.size; simp at this; omega
    have hb1 : Below g w w1 := (((Below.refl _ w).alloc (Nat.le_of_lt hlt) _).drew).grown HG.out (by simp; omega) (fun k hk => by have := (HO.out.lt k hk).1; omega)
    have hg1 : B ≤ g1 := (HW.out.lt g1 rfl).1
    refine ⟨rfl, ⟨.slice (some ⟨g1, 0, none⟩) (l.length + 1) cap, ⟨⟨?_, ?_, ?_, ?_, ?_⟩, ?_, ?_, ?_⟩, ?_⟩, ?_, ?_⟩
    · simp; omega
    · simp [go_sem, d0]
    · simp [go_sem, d1]
    · simp [go_sem, e1]
    · simp [go_sem]; exact (HF.out 2).2.trans f2
    · simp [go_sem, d2]
    · rw [cellsT_snoc, List.length_append]
      exact ownsRow_setCell_below (a := ⟨g, 1, none⟩) (ownsRow_setCell_below (a := ⟨g, 2, none⟩) HW.out hgB _) hgB _
    · simpa using hBw1
    · intro x hx
      obtain rfl : g1 = x := by simpa [Value.ownBlock] using hx
      rcases hat with h | h
      · exact Or.inl h
      · right; rw [h]; simp
    · exact (hb1.setCell (p := ⟨g, 2, none⟩) (Nat.le_refl _) _).setCell (p := ⟨g, 1, none⟩) (Nat.le_refl _) _
    · intro b o hb hbg hbv
      have := far_of HG.out hb hbv o
      rw [← this.1, ← this.2]
      refine ⟨?_, ?_⟩
      · rw [World.cell?_setCell_other _ _ _ _ (fun e => hbg (congrArg Addr.block e).symm), World.cell?_setCell_other _ _ _ _ (fun e => hbg (congrArg Addr.block e).symm)]
      · simp [go_sem]
end Go.Proofs.YtebphmkefpaeaaaGreatDoor

/- The program's longest, takePlain, passRemark of layer 6. -/
namespace Lex
theorem cut_line (l : List UInt8) : (Sem.cut 10 l).1 = l.takeWhile (· != 10) := by
  induction l with
  | nil => rfl
  | cons c r ih =>
    rw [Sem.cut]
    by_cases h : c = 10
    · subst h; rfl
    · have hp : (c != 10) = true := by simpa using h
      rw [if_neg h, List.takeWhile_cons, if_pos hp, ← ih]

/-- What stands ahead: a remark's length, or a token and its length. -/
def piece (l : List UInt8) : Except (Int × Nat) (List Tok × Nat) := if hasRemark l then (match remark l.length l with
  | .error k => .error (30, k)
  | .ok n => .ok ([], n)) else match token l with
  | .error x => .error x
  | .ok (t, n) => .ok ([t], n)

/-- Tokens, and then what comes. -/
def joinR (pre : List (Tok × Nat)) : Except (Int × Nat) (List (Tok × Nat)) → Except (Int × Nat) (List (Tok × Nat))
  | .error x => .error x
  | .ok m => .ok (pre ++ m)

theorem joinR_joinR (a b : List (Tok × Nat)) (r : Except (Int × Nat) (List (Tok × Nat))) : joinR a (joinR b r) = joinR (a ++ b) r := by cases r <;> simp [joinR]
theorem joinR_nil (r : Except (Int × Nat) (List (Tok × Nat))) : joinR [] r = r := by cases r <;> simp [joinR]

/-- A step of the scanner, in tokens. -/
theorem piece_toks {l : List UInt8} (hl : l ≠ []) (hb : ∀ c ∈ l.head?, blank c = false) (i : Nat) : match piece l with
    | .error (x, k) => toks l i = .error (x, i + k)
    | .ok (ts, n) => toks l i = joinR (ts.map fun t => (t, i)) (toks (l.drop n) (i + n)) ∧ 1 ≤ n ∧ n ≤ l.length ∧ ts.length ≤ 1 := by
  unfold piece
  cases hr : hasRemark l with
  | true =>
    rw [toks_remark hb hr]
    obtain ⟨k, hk⟩ : ∃ k, l.length = k + 1 := ⟨l.length - 1, by have := List.length_pos_iff.2 hl; omega⟩
    cases hm : remark l.length l with
    | error k => simp
    | ok n =>
      have h1 := remark_len _ _ _ hm
      rw [hk] at hm
      have h2 := remark_pos hr hm
      simp only [if_true, List.map_nil, joinR_nil]
      exact ⟨trivial, h2, h1, Nat.zero_le _⟩
  | false =>
    rw [toks_token hl hb hr]
    cases ht : token l with
    | error x => obtain ⟨x, k⟩ := x; simp
    | ok x =>
      obtain ⟨t, n⟩ := x
      obtain ⟨h1, h2, _⟩ := token_len ht
      simp only [Bool.false_eq_true, if_false, List.map_cons, List.map_nil]
      refine ⟨?_, h1, h2, by simp⟩
      cases toks (l.drop n) (i + n) <;> rfl
end Lex
namespace Go.Proofs.YtebphmkefpaeaaaGreatDoor
open Go.RowKit
set_option linter.unusedVariables false

theorem UpdT.of {g : Nat} {v : Value} {w w' : World} (h : Below w.heap.size w w') (hg : g ≤ w.heap.size) : UpdT g v w w' :=
  ⟨h.mono hg, fun b o hb _ _ => ⟨h.cell (p := ⟨b, o, none⟩) hb, h.frozen (p := ⟨b, o, none⟩) hb⟩⟩

theorem UpdT.trans {g : Nat} {v : Value} {a b c : World} (h : UpdT g v a b) (k : UpdT g v b c) : UpdT g v a c :=
  ⟨h.1.trans k.1, fun x o hx h1 h2 => ⟨(k.2 x o (Nat.lt_of_lt_of_le hx h.1.size) h1 h2).1.trans (h.2 x o hx h1 h2).1, (k.2 x o (Nat.lt_of_lt_of_le hx h.1.size) h1 h2).2.trans (h.2 x o hx h1 h2).2⟩⟩

theorem ScanT.keep {w w' : World} {g B i : Nat} {s : List UInt8} {v : Value} {l : List Tk} (h : ScanT w g B s i v l) (hb : Below w.heap.size w w') : ScanT w' g B s i v l :=
  ⟨h.at_.keep h.at_.lt hb, (hb.cell (p := ⟨g, 2, none⟩) h.at_.lt).trans h.c2, h.own.kept (grown_of_below hb (Nat.le_refl _) none) (by
    rcases hq : v.ownBlock with _ | x
    · exact Or.inl rfl
    · exact Or.inr (by simp)), Nat.le_trans h.le hb.size⟩

/-- What turns nothing below B but a scanner. -/
def UpdB (g B : Nat) (w w' : World) : Prop := Below g w w' ∧ ∀ b o, b < B → b ≠ g → w'.cell? ⟨b, o, none⟩ = w.cell? ⟨b, o, none⟩ ∧ w'.frozen? ⟨b, o, none⟩ = w.frozen? ⟨b, o, none⟩

theorem UpdT.toB {w w' : World} {g B i : Nat} {s : List UInt8} {v : Value} {l : List Tk} (h : ScanT w g B s i v l) (u : UpdT g v w w') : UpdB g B w w' :=
  ⟨u.1, fun b o hb hne => u.2 b o (Nat.lt_of_lt_of_le hb h.le) hne (fun e => by have := (h.own.lt b e.symm).1; omega)⟩

/-- A step of the scanner: what stands ahead is a fault, or is taken. -/
def StepE (g B : Nat) (s : List UInt8) (i : Nat) (v : Value) (l : List Tk) (r : Except (Int × Nat) (List Lex.Tok × Nat)) (w : World) (e : Ending) (w' : World) : Prop :=
  UpdT g v w w' ∧ match r with
  | .error (x, k) => e = .returned (.agg #[.int .i64 x, .int .i64 ((i + k : Nat) : Int)])
  | .ok (ts, n) => e = .returned (.agg #[.int .i64 0, .int .i64 0]) ∧ ∃ v', ScanT w' g B s (i + n) v' (l ++ ts.map fun t => ⟨t, (i : Int)⟩) ∧ ∀ x, v'.ownBlock = some x → v.ownBlock = some x ∨ w.heap.size ≤ x

theorem ScanAt.draw {w : World} {g i : Nat} {s : List UInt8} (h : ScanAt w g s i) (n : Nat) : ScanAt (w.drewN n) g s i := h.keep h.lt (below_drew1 w n)

theorem longest_drop {s : List UInt8} {i : Nat} (hi : i < s.length) : Lex.longest (s.drop i) = if Lex.letter (s[i]'hi) then (s.drop i).takeWhile Lex.nameB else if Lex.digit (s[i]'hi) then (s.drop i).takeWhile Lex.lumpB else if Lex.isSign ((s.drop i).take 2) then (s.drop i).take 2 else (s.drop i).take 1 := by
  have h := List.drop_eq_getElem_cons hi
  have h1 : (s.drop i).take 1 = [s[i]'hi] := by rw [h]; rfl
  rw [h1]
  conv => lhs; rw [h, Lex.longest_cons, ← h]
  rfl

set_option maxRecDepth 100000 in
set_option maxHeartbeats 4000000 in
theorem longest_walk (g : Nat) (s : List UInt8) (i : Nat) (hi : i < s.length) (hs : s.length ≤ 1000000) (w : World) (h : ScanAt w g s i) :
    Calls Tryz.prog 68 #[.pointer (some ⟨g, 0, none⟩)] w fun e w' => e = .returned (.string ⟨(Lex.longest (s.drop i)).toArray⟩) ∧ Below w.heap.size w w' := by
  have HL := Lib.hid (longest_drop hi)
  have HF := Lib.hid (wfirst_walk g s i hi)
  obtain ⟨c, hc⟩ : ∃ c, c = s[i]'hi := ⟨_, rfl⟩
  rw [← hc] at HL HF
  clear hc
  have HS := Lib.hid h
  clear h
  cases h1 : Lex.letter c
  · cases h2 : Lex.digit c
    · cases h3 : Lex.isSign ((s.drop i).take 2)
      · have HR : Hid (Lex.longest (s.drop i) = (s.drop i).take 1) := Lib.hid (by rw [HL.out, h1, h2, h3]; rfl)
        clear HL
        go_enter Tryz.func68, Tryz.ntmps68
        go_wp2_with fail
        refine (HF.out _ HS.out).mono ?_
        rintro e w2 ⟨rfl, n1, rfl⟩
        go_wp2_with fail
        refine (oletter_walk c _).mono ?_
        rintro e w2 ⟨rfl, rfl⟩
        rw [h1]
        go_wp2_with fail
        refine (odigit_walk c _).mono ?_
        rintro e w2 ⟨rfl, rfl⟩
        rw [h2]
        go_wp2_with fail
        refine (wnext_walk g s i 2 (Nat.le_of_lt hi) hs (by decide) _ (HS.out.draw _)).mono ?_
        rintro e w2 ⟨rfl, n2, rfl⟩
        go_wp2_with fail
        refine (osign_walk _ _).mono ?_
        rintro e w2 ⟨rfl, rfl⟩
        rw [h3]
        go_wp2_with fail
        refine (wnext_walk g s i 1 (Nat.le_of_lt hi) hs (by decide) _ (HS.out.draw _)).mono ?_
        rintro e w2 ⟨rfl, n3, rfl⟩
        go_wp2
        go_ret
        exact ⟨by rw [HR.out]; rfl, below_drew1 _ _⟩
      · have HR : Hid (Lex.longest (s.drop i) = (s.drop i).take 2) := Lib.hid (by rw [HL.out, h1, h2, h3]; rfl)
        clear HL
        go_enter Tryz.func68, Tryz.ntmps68
        go_wp2_with fail
        refine (HF.out _ HS.out).mono ?_
        rintro e w2 ⟨rfl, n1, rfl⟩
        go_wp2_with fail
        refine (oletter_walk c _).mono ?_
        rintro e w2 ⟨rfl, rfl⟩
        rw [h1]
        go_wp2_with fail
        refine (odigit_walk c _).mono ?_
        rintro e w2 ⟨rfl, rfl⟩
        rw [h2]
        go_wp2_with fail
        refine (wnext_walk g s i 2 (Nat.le_of_lt hi) hs (by decide) _ (HS.out.draw _)).mono ?_
        rintro e w2 ⟨rfl, n2, rfl⟩
        go_wp2_with fail
        refine (osign_walk _ _).mono ?_
        rintro e w2 ⟨rfl, rfl⟩
        rw [h3]
        go_wp2_with fail
        refine (wnext_walk g s i 2 (Nat.le_of_lt hi) hs (by decide) _ (HS.out.draw _)).mono ?_
        rintro e w2 ⟨rfl, n3, rfl⟩
        go_wp2
        go_ret
        exact ⟨by rw [HR.out]; rfl, below_drew1 _ _⟩
    · have HR : Hid (Lex.longest (s.drop i) = (s.drop i).takeWhile Lex.lumpB) := Lib.hid (by rw [HL.out, h1, h2]; rfl)
      clear HL
      go_enter Tryz.func68, Tryz.ntmps68
      go_wp2_with fail
      refine (HF.out _ HS.out).mono ?_
      rintro e w2 ⟨rfl, n1, rfl⟩
      go_wp2_with fail
      refine (oletter_walk c _).mono ?_
      rintro e w2 ⟨rfl, rfl⟩
      rw [h1]
      go_wp2_with fail
      refine (odigit_walk c _).mono ?_
      rintro e w2 ⟨rfl, rfl⟩
      rw [h2]
      go_wp2_with fail
      refine (wrun_lumpB g s i (Nat.le_of_lt hi) hs _ (HS.out.draw _)).mono ?_
      rintro e w2 ⟨rfl, n2, rfl⟩
      go_wp2
      go_ret
      exact ⟨by rw [HR.out]; rfl, below_drew1 _ _⟩
  · have HR : Hid (Lex.longest (s.drop i) = (s.drop i).takeWhile Lex.nameB) := Lib.hid (by rw [HL.out, h1]; rfl)
    clear HL
    go_enter Tryz.func68, Tryz.ntmps68
    go_wp2_with fail
    refine (HF.out _ HS.out).mono ?_
    rintro e w2 ⟨rfl, n1, rfl⟩
    go_wp2_with fail
    refine (oletter_walk c _).mono ?_
    rintro e w2 ⟨rfl, rfl⟩
    rw [h1]
    go_wp2_with fail
    refine (wrun_nameB g s i (Nat.le_of_lt hi) hs _ (HS.out.draw _)).mono ?_
    rintro e w2 ⟨rfl, n2, rfl⟩
    go_wp2
    go_ret
    exact ⟨by rw [HR.out]; rfl, below_drew1 _ _⟩

/-- A fault that a call hands on, in a result of its own. -/
theorem updT_box {g : Nat} {v : Value} {w w' : World} (h : UpdT g v w w') (gr : Nat) (hgr : w.heap.size ≤ gr) (hgg : g ≤ gr) (a b : Value) : UpdT g v w ((w'.setCell ⟨gr, 0, none⟩ a).setCell ⟨gr, 1, none⟩ b) :=
  ⟨(h.1.setCell (p := ⟨gr, 0, none⟩) hgg _).setCell (p := ⟨gr, 1, none⟩) hgg _, fun x o hx h1 h2 => by
    have hn : ∀ k, (⟨gr, k, none⟩ : Addr) ≠ ⟨x, o, none⟩ := fun k e => by have := congrArg Addr.block e; simp at this; omega
    refine ⟨?_, ?_⟩
    · rw [World.cell?_setCell_other _ _ _ _ (hn 1), World.cell?_setCell_other _ _ _ _ (hn 0)]; exact (h.2 x o hx h1 h2).1
    · have := (h.2 x o hx h1 h2).2
      simpa [go_sem] using this⟩

theorem ScanT.box {w : World} {g B i : Nat} {s : List UInt8} {v : Value} {l : List Tk} (h : ScanT w g B s i v l) (gr : Nat) (hg : g ≠ gr) (hv : v.ownBlock ≠ some gr) (a : Value) (j : Nat) : ScanT (w.setCell ⟨gr, j, none⟩ a) g B s i v l := by
  have hn : ∀ o, (⟨gr, j, none⟩ : Addr) ≠ ⟨g, o, none⟩ := fun o e => hg (congrArg Addr.block e).symm
  obtain ⟨⟨hlt, c0, c1, f1, f2⟩, c2, own, le⟩ := h
  refine ⟨⟨by simpa using hlt, ?_, ?_, by simpa [go_sem] using f1, by simpa [go_sem] using f2⟩, ?_, ?_, by simpa using le⟩
  · rw [World.cell?_setCell_other _ _ _ _ (hn 0)]; exact c0
  · rw [World.cell?_setCell_other _ _ _ _ (hn 1)]; exact c1
  · rw [World.cell?_setCell_other _ _ _ _ (hn 2)]; exact c2
  · exact ownsRow_setCell_other own hv _

theorem Box2.updT {W W' : World} {g gr : Nat} {v : Value} {a b : Int} (h : Box2 W gr a b) (hu : UpdT g v W W') (hg : gr ≠ g) (hv : some gr ≠ v.ownBlock) : Box2 W' gr a b := by
  obtain ⟨h0, h1, h2, h3, h4⟩ := h
  have k := fun o => hu.2 gr o h0 hg hv
  exact ⟨Nat.lt_of_lt_of_le h0 hu.1.size, (k 0).1.trans h1, (k 1).1.trans h2, (k 0).2.trans h3, (k 1).2.trans h4⟩

theorem token_drop {s : List UInt8} {i : Nat} (hi : i < s.length) (h34 : s[i]'hi ≠ 34) : Lex.token (s.drop i) = match Lex.kindR (Lex.longest (s.drop i)) with
    | some k => .ok (⟨k, Lex.longest (s.drop i)⟩, (Lex.longest (s.drop i)).length)
    | none => .error (60, 0) := by
  rw [List.drop_eq_getElem_cons hi]
  exact Lex.token_own h34

theorem longest_len (l : List UInt8) : (Lex.longest l).length ≤ l.length := by
  cases l with
  | nil => exact Nat.le_refl _
  | cons c r =>
    rw [Lex.longest_cons]
    split
    · exact (Lex.tw_len _ _).1
    split
    · exact (Lex.tw_len _ _).1
    split
    · rw [List.length_take]; omega
    · simp

set_option maxRecDepth 100000 in
set_option maxHeartbeats 4000000 in
theorem plain_walk (g B : Nat) (hgB : g < B) (s : List UInt8) (i : Nat) (hi : i < s.length) (hs : s.length ≤ 4096) (h34 : s[i]'hi ≠ 34) (hr : Lex.hasRemark (s.drop i) = false) (v : Value) (l : List Tk) (hl : l.length ≤ i) (w : World) (h : ScanT w g B s i v l) (hg : Globs w) :
    Calls Tryz.prog 57 #[.pointer (some ⟨g, 0, none⟩)] w (StepE g B s i v l (Lex.piece (s.drop i)) w) := by
  have HT := Lib.hid (token_drop hi h34)
  have HP : Hid (Lex.piece (s.drop i) = match Lex.token (s.drop i) with | .error x => .error x | .ok (t, n) => .ok ([t], n)) := Lib.hid (by unfold Lex.piece; rw [hr]; rfl)
  have hll : (Lex.longest (s.drop i)).length ≤ s.length - i := by have := longest_len (s.drop i); rw [List.length_drop] at this; exact this
  obtain ⟨t, ht⟩ : ∃ t, t = Lex.longest (s.drop i) := ⟨_, rfl⟩
  have HLW := Lib.hid (longest_walk g s i hi (by omega))
  rw [← ht] at HT hll HLW
  have hb0 := below_one w (.cells #[.int .i64 0, .int .i64 0] 27)
  have HX := Lib.hid (box2_new w 0 0)
  have HS := Lib.hid (h.keep hb0)
  have HG := Lib.hid (hg.next hb0)
  have HB0 := Lib.hid hb0
  have hglt := h.at_.lt
  have hBw := h.le
  have hne : w.heap.size ≠ g := by omega
  have hnv : some w.heap.size ≠ v.ownBlock := fun e => by have := (h.own.lt _ e.symm).2; omega
  have HNV := Lib.hid hnv
  have hz : (⟨t.toArray⟩ : ByteArray).size = t.length := size_list _
  clear hb0 h34 h hnv hg hr
  go_enter Tryz.func57, Tryz.ntmps57
  go_wp2_with fail
  generalize hW : w.alloc (.cells #[.int .i64 0, .int .i64 0] 27) = W0 at HX HB0 HS HG ⊢
  clear hW
  go_wp2_with fail
  refine (HLW.out _ HS.out.at_).mono ?_
  rintro e w2 ⟨rfl, hb2⟩
  have HS2 := Lib.hid (HS.out.keep hb2)
  have HX2 := Lib.hid (HX.out.keep (B := W0.heap.size) HX.out.1 hb2)
  have HG2 := Lib.hid (HG.out.next hb2)
  have HB2 := Lib.hid (below_next HB0.out hb2)
  clear hb2 HS HX HG HB0 HLW ht
  go_wp2_with fail
  refine (okind_walk t (by omega) _ HG2.out).mono ?_
  rintro e w3 ⟨he, hb3⟩
  have HS3 := Lib.hid (HS2.out.keep hb3)
  have HX3 := Lib.hid (HX2.out.keep (B := w2.heap.size) HX2.out.1 hb3)
  have HB3 := Lib.hid (below_next HB2.out hb3)
  clear hb3 HS2 HX2 HG2 HB2
  cases hk : Lex.kindR t with
  | none =>
    have hkv : kindV t = .tuple #[.int .i64 0, .bool false] := by unfold kindV; rw [hk]
    rw [hkv] at he
    subst he
    have HR : Hid (Lex.piece (s.drop i) = .error (60, 0)) := Lib.hid (by rw [HP.out, HT.out, hk])
    clear hk hkv HT HP
    go_wp2_with fail
    refine (nofound_walk g s i _ HS3.out.at_).mono ?_
    rintro e w4 ⟨rfl, hb4⟩
    have HX4 := Lib.hid (HX3.out.keep (B := w3.heap.size) HX3.out.1 hb4)
    have HB4 := Lib.hid (below_next HB3.out hb4)
    obtain ⟨q0, x0, x1, y0, y1⟩ := HX4.out
    clear hb4
    go_wp2
    refine bodyPost_ret (v := .agg #[.int .i64 60, .int .i64 (i : Int)]) (by simp [results, Tryz.results57, go_sem, x0, x1]) rfl ?_
    refine ⟨updT_box (UpdT.of HB4.out (by omega)) _ (by omega) (by omega) _ _, ?_⟩
    rw [HR.out]
    simp
  | some k =>
    have hkv : kindV t = .tuple #[.int .i64 k, .bool true] := by unfold kindV; rw [hk]
    rw [hkv] at he
    subst he
    have HR : Hid (Lex.piece (s.drop i) = .ok ([⟨k, t⟩], t.length)) := Lib.hid (by rw [HP.out, HT.out, hk])
    clear hk hkv HT HP
    go_wp2_with fail
    refine (clone_walk t (by omega) _).mono ?_
    rintro e w4 ⟨rfl, hb4⟩
    have HS4 := Lib.hid (HS3.out.keep hb4)
    have HX4 := Lib.hid (HX3.out.keep (B := w3.heap.size) HX3.out.1 hb4)
    have HB4 := Lib.hid (below_next HB3.out hb4)
    clear hb4 HX3 HB3 HS3
    go_wp2_with fail
    refine (take_walk g B hgB s i v l (by omega) k t t.length (by omega) _ HS4.out).mono ?_
    rintro e w5 ⟨rfl, ⟨v', hS5, hv5⟩, hu5⟩
    have HV5 : Hid (v'.ownBlock ≠ some w.heap.size) := Lib.hid (fun e => by
      rcases hv5 _ e with h | h
      · exact HNV.out h.symm
      · have := HX4.out.1; omega)
    have HVV : Hid (∀ x, v'.ownBlock = some x → v.ownBlock = some x ∨ w.heap.size ≤ x) := Lib.hid (fun x hx => by
      rcases hv5 x hx with h | h
      · exact Or.inl h
      · right; have := HB4.out.size; omega)
    clear hv5
    have HX5 := Lib.hid (HX4.out.updT hu5 hne HNV.out)
    have HU5 := Lib.hid ((UpdT.of HB4.out (by omega)).trans hu5)
    have HS5 := Lib.hid hS5
    clear hS5 hu5
    obtain ⟨q0, x0, x1, y0, y1⟩ := HX5.out
    go_wp2
    refine bodyPost_ret (v := .agg #[.int .i64 0, .int .i64 0]) (by simp [results, Tryz.results57, go_sem, x0, x1]) rfl ?_
    refine ⟨updT_box HU5.out _ (by omega) (by omega) _ _, ?_⟩
    rw [HR.out]
    exact ⟨rfl, v', (HS5.out.box _ (Ne.symm hne) HV5.out _ _).box _ (Ne.symm hne) HV5.out _ _, HVV.out⟩
end Go.Proofs.YtebphmkefpaeaaaGreatDoor

/- The program's passRemark of layer 6. -/
namespace Go.Proofs.YtebphmkefpaeaaaGreatDoor
open Go.RowKit
set_option linter.unusedVariables false

theorem ScanT.move {w : World} {g B i : Nat} {s : List UInt8} {v : Value} {l : List Tk} (h : ScanT w g B s i v l) (hgB : g < B) (j : Nat) : ScanT (w.setCell ⟨g, 1, none⟩ (.int .i64 (j : Int))) g B s j v l := by
  obtain ⟨⟨hlt, c0, c1, f1, f2⟩, c2, own, le⟩ := h
  refine ⟨⟨by simpa using hlt, ?_, ?_, by simpa [go_sem] using f1, by simpa [go_sem] using f2⟩, ?_, ?_, by simpa using le⟩
  · simp [go_sem, c0]
  · simp [go_sem, c1]
  · simp [go_sem, c2]
  · exact ownsRow_setCell_below (a := ⟨g, 1, none⟩) own hgB _

theorem updT_move {g : Nat} {v : Value} {w w' : World} (h : UpdT g v w w') (a : Value) (j : Nat) : UpdT g v w (w'.setCell ⟨g, j, none⟩ a) :=
  ⟨h.1.setCell (p := ⟨g, j, none⟩) (Nat.le_refl _) _, fun x o hx h1 h2 => by
    refine ⟨?_, ?_⟩
    · rw [World.cell?_setCell_other _ _ _ _ (fun e => h1 (congrArg Addr.block e).symm)]; exact (h.2 x o hx h1 h2).1
    · have := (h.2 x o hx h1 h2).2
      simpa [go_sem] using this⟩

set_option maxRecDepth 100000 in
set_option maxHeartbeats 4000000 in
theorem remark_walk (g B : Nat) (hgB : g < B) (s : List UInt8) (i : Nat) (hi : i < s.length) (hs : s.length ≤ 4096) (hr : Lex.hasRemark (s.drop i) = true) (v : Value) (l : List Tk) (w : World) (h : ScanT w g B s i v l) :
    Calls Tryz.prog 55 #[.pointer (some ⟨g, 0, none⟩)] w (StepE g B s i v l (Lex.piece (s.drop i)) w) := by
  obtain ⟨ps, rest, hR, hP⟩ := Lex.remark_own (s.drop i).length (s.drop i) (Nat.le_refl _)
  have HP : Hid (Lex.piece (s.drop i) = match Lex.remark (s.drop i).length (s.drop i) with | .error k => .error (30, k) | .ok n => .ok ([], n)) := Lib.hid (by unfold Lex.piece; first | (rw [if_pos hr]; done) | (rw [if_pos hr]; rfl))
  rw [hP] at HP
  have hcut := Lex.cut_line (s.drop i)
  obtain ⟨htl, htt⟩ := Lex.tw_len (· != 10) (s.drop i)
  obtain ⟨t, ht⟩ : ∃ t, t = (s.drop i).takeWhile (· != 10) := ⟨_, rfl⟩
  rw [← ht] at hR HP hcut htl htt
  have hll : t.length ≤ s.length - i := by rw [List.length_drop] at htl; exact htl
  have HD := Lib.hid (decoded_walk g s i t.length (Nat.le_of_lt hi) (by omega) (by omega) ps rest (by rw [htt]; exact hR))
  have HC : Hid (cutR 10 (s.drop i) = .tuple #[.string ⟨t.toArray⟩, .string ⟨(Sem.cut 10 (s.drop i)).2.1.toArray⟩, .bool (Sem.cut 10 (s.drop i)).2.2]) := Lib.hid (by unfold cutR; rw [hcut])
  obtain ⟨c2, hc2⟩ : ∃ x, x = (Sem.cut 10 (s.drop i)).2.1 := ⟨_, rfl⟩
  obtain ⟨c3, hc3⟩ : ∃ x, x = (Sem.cut 10 (s.drop i)).2.2 := ⟨_, rfl⟩
  rw [← hc2, ← hc3] at HC
  have hb0 := below_one w (.cells #[.int .i64 0, .int .i64 0] 27)
  have HX := Lib.hid (box2_new w 0 0)
  have HS := Lib.hid (h.keep hb0)
  have HB0 := Lib.hid hb0
  have hglt := h.at_.lt
  have hBw := h.le
  have hne : w.heap.size ≠ g := by omega
  have HNV : Hid (v.ownBlock ≠ some w.heap.size) := Lib.hid (fun e => by have := (h.own.lt _ e).2; omega)
  have hz : (⟨t.toArray⟩ : ByteArray).size = t.length := size_list _
  clear hb0 h hr hR hP hcut htl htt ht hc2 hc3
  go_enter Tryz.func55, Tryz.ntmps55
  go_wp2_with fail
  generalize hW : w.alloc (.cells #[.int .i64 0, .int .i64 0] 27) = W0 at HX HB0 HS ⊢
  clear hW
  go_wp2_with fail
  refine (wrest_walk g s i (Nat.le_of_lt hi) _ HS.out.at_).mono ?_
  rintro e w2 ⟨rfl, nq, rfl⟩
  go_wp2_with fail
  refine (cut_walk ⟨(s.drop i).toArray⟩ 10 (by rw [size_list, List.length_drop]; omega) _).mono ?_
  rintro e w3 ⟨he, hb3⟩
  rw [show (⟨(s.drop i).toArray⟩ : ByteArray).data.toList = s.drop i from rfl, HC.out] at he
  subst he
  have hb3' : Below W0.heap.size W0 w3 := (below_drew1 W0 nq).trans (hb3.mono (Nat.le_refl _))
  have HS3 := Lib.hid (HS.out.keep hb3')
  have HX3 := Lib.hid (HX.out.keep (B := W0.heap.size) HX.out.1 hb3')
  have HB3 := Lib.hid (below_next HB0.out hb3')
  clear hb3 hb3' HS HX HB0 HC
  go_wp2_with fail
  refine (HD.out _ HS3.out.at_).mono ?_
  rintro e w4 ⟨he, hb4⟩
  have HS4 := Lib.hid (HS3.out.keep hb4)
  have HX4 := Lib.hid (HX3.out.keep (B := w3.heap.size) HX3.out.1 hb4)
  have HB4 := Lib.hid (below_next HB3.out hb4)
  clear hb4 HS3 HX3 HB3 HD
  by_cases hrest : rest = []
  · have hfv : faultV ps rest i = .agg #[.int .i64 0, .int .i64 0] := by unfold faultV; rw [if_pos hrest]
    rw [hfv] at he
    subst he
    have HR : Hid (Lex.piece (s.drop i) = .ok ([], t.length)) := Lib.hid (by rw [HP.out, if_neg (by rw [hrest]; simp)])
    have hbn := below_one w4 (.cells #[.int .i64 0, .int .i64 0] 27)
    have HSn := Lib.hid (HS4.out.keep hbn)
    have HXn := Lib.hid (HX4.out.keep (B := w4.heap.size) HX4.out.1 hbn)
    have HBn := Lib.hid (below_next HB4.out hbn)
    have hq4 := HX4.out.1
    have HQ : Hid (w.heap.size < w4.heap.size) := Lib.hid hq4
    clear hrest hfv HP hbn hq4
    obtain ⟨q0, x0, x1, y0, y1⟩ := HX4.out
    obtain ⟨⟨hlt, c0, c1, f1, f2⟩, d2, _, _⟩ := HS4.out
    go_wp2
    refine bodyPost_ret (v := .agg #[.int .i64 0, .int .i64 0]) (by simp [results, Tryz.results55, go_sem, x0, x1, q0]) rfl ?_
    have hwb := HB4.out.size
    refine ⟨(updT_box (updT_move (UpdT.of HB4.out (by omega)) _ 1) _ (by omega) (by omega) _ _).trans (UpdT.of (below_one _ _) (by simp; omega)), ?_⟩
    rw [HR.out]
    exact ⟨rfl, v, by rw [List.map_nil, List.append_nil]; exact ((((HS4.out.move hgB (i + t.length)).box _ (Ne.symm hne) HNV.out _ _).box _ (Ne.symm hne) HNV.out _ _).keep (below_one _ _)), fun x hx => Or.inl hx⟩
  · have hfv : faultV ps rest i = .agg #[.int .i64 30, .int .i64 ((i + (Utf.enc ps).length : Nat) : Int)] := by unfold faultV; rw [if_neg hrest]
    rw [hfv] at he
    subst he
    have HR : Hid (Lex.piece (s.drop i) = .error (30, (Utf.enc ps).length)) := Lib.hid (by rw [HP.out, if_pos hrest])
    obtain ⟨m, hm⟩ : ∃ m, m = i + (Utf.enc ps).length := ⟨_, rfl⟩
    rw [← hm]
    have HMM := Lib.hid hm
    clear hrest hfv HP hm
    obtain ⟨q0, x0, x1, y0, y1⟩ := HX4.out
    go_wp2
    refine bodyPost_ret (v := .agg #[.int .i64 30, .int .i64 (m : Int)]) (by simp [results, Tryz.results55, go_sem, x0, x1, q0]) rfl ?_
    have hwb := HB4.out.size
    refine ⟨(updT_box (UpdT.of HB4.out (by omega)) _ (by omega) (by omega) _ _).trans (UpdT.of (below_one _ _) (by simp; omega)), ?_⟩
    rw [HR.out]
    show _ = Ending.returned (.agg #[.int .i64 30, .int .i64 ((i + (Utf.enc ps).length : Nat) : Int)])
    rw [← HMM.out]
end Go.Proofs.YtebphmkefpaeaaaGreatDoor
