/- What the proofs of TermsBare, TermsChecks, TermsDeep, TermsSame, TermsSames want, part 4. -/
import Derived.Test.YtnkdedejfonbmaaGreatDoorK0n3
set_option linter.unusedVariables false
set_option linter.unusedSimpArgs false
set_option maxRecDepth 100000
set_option maxHeartbeats 16000000
namespace Lex
def letter (c : UInt8) : Bool := small c || great c
theorem Z8I (c : UInt8) : nameB c = (letter c || digit c || c == 95) := rfl
theorem Z8J (c : UInt8) : lumpB c = (letter c || digit c || c == 46 || c == 45) := rfl
end Lex
namespace Go.Proofs.YtnkdedejfonbmaaGreatDoor
open Go.RowKit
theorem ZgE (c : UInt8) : ((c.toNat : Int) == 46) = (c == 46) := by
 rw [Bool.eq_iff_iff, beq_iff_eq, beq_iff_eq]
 constructor
 {intro h; apply UInt8.toNat_inj.1; show c.toNat = 46; omega}
 {rintro rfl; rfl}
theorem ZgF (c : UInt8) : ((c.toNat : Int) == 45) = (c == 45) := by
 rw [Bool.eq_iff_iff, beq_iff_eq, beq_iff_eq]
 constructor
 {intro h; apply UInt8.toNat_inj.1; show c.toNat = 45; omega}
 {rintro rfl; rfl}
theorem Z20 (c : UInt8) (w : World) :
 Calls Tryz.prog 108 #[.int .u8 (c.toNat : Int)] w fun e w' => e = .returned (.bool (Lex.small c)) /\ w = w' := by
 have hlt := c.toNat_lt
 have H : c.toNat <= 96 \/ (97 <= c.toNat /\ c.toNat <= 122) \/ 123 <= c.toNat := by omega
 have HB : Hid (Lex.small c = (decide (97 <= c.toNat) && decide (c.toNat <= 122))) := Y1 rfl
 obtain ⟨n, hn⟩ : ∃ n, n = c.toNat := ⟨_, rfl⟩
 rw [<- hn] at H HB hlt ⊢
 clear hn
 rcases H with h1 | ⟨h1, h2⟩ | h1
 {have h3 : decide ((97 : Int) <= (n : Int)) = false := decide_eq_false (by omega)
  go_enter Tryz.func108, Tryz.ntmps108
  go_wp2
  go_ret
  exact ⟨by rw [HB.out, decide_eq_false (by omega)]; rfl, rfl⟩}
 {have h3 : decide ((n : Int) <= 122) = true := decide_eq_true (by omega)
  have h4 : decide ((97 : Int) <= (n : Int)) = true := decide_eq_true (by omega)
  go_enter Tryz.func108, Tryz.ntmps108
  go_wp2
  go_ret
  exact ⟨by rw [HB.out, decide_eq_true h1, decide_eq_true h2]; rfl, rfl⟩}
 {have h3 : decide ((n : Int) <= 122) = false := decide_eq_false (by omega)
  have h4 : decide ((97 : Int) <= (n : Int)) = true := decide_eq_true (by omega)
  go_enter Tryz.func108, Tryz.ntmps108
  go_wp2
  go_ret
  exact ⟨by rw [HB.out, decide_eq_false (p := n <= 122) (by omega), Bool.and_false]; rfl, rfl⟩}
theorem Z3J (c : UInt8) (w : World) :
 Calls Tryz.prog 112 #[.int .u8 (c.toNat : Int)] w fun e w' => e = .returned (.bool (Lex.great c)) /\ w = w' := by
 have hlt := c.toNat_lt
 have H : c.toNat <= 64 \/ (65 <= c.toNat /\ c.toNat <= 90) \/ 91 <= c.toNat := by omega
 have HB : Hid (Lex.great c = (decide (65 <= c.toNat) && decide (c.toNat <= 90))) := Y1 rfl
 obtain ⟨n, hn⟩ : ∃ n, n = c.toNat := ⟨_, rfl⟩
 rw [<- hn] at H HB hlt ⊢
 clear hn
 rcases H with h1 | ⟨h1, h2⟩ | h1
 {have h3 : decide ((65 : Int) <= (n : Int)) = false := decide_eq_false (by omega)
  go_enter Tryz.func112, Tryz.ntmps112
  go_wp2
  go_ret
  exact ⟨by rw [HB.out, decide_eq_false (by omega)]; rfl, rfl⟩}
 {have h3 : decide ((n : Int) <= 90) = true := decide_eq_true (by omega)
  have h4 : decide ((65 : Int) <= (n : Int)) = true := decide_eq_true (by omega)
  go_enter Tryz.func112, Tryz.ntmps112
  go_wp2
  go_ret
  exact ⟨by rw [HB.out, decide_eq_true h1, decide_eq_true h2]; rfl, rfl⟩}
 {have h3 : decide ((n : Int) <= 90) = false := decide_eq_false (by omega)
  have h4 : decide ((65 : Int) <= (n : Int)) = true := decide_eq_true (by omega)
  go_enter Tryz.func112, Tryz.ntmps112
  go_wp2
  go_ret
  exact ⟨by rw [HB.out, decide_eq_false (p := n <= 90) (by omega), Bool.and_false]; rfl, rfl⟩}
theorem Z0I (c : UInt8) (w : World) :
 Calls Tryz.prog 151 #[.int .u8 (c.toNat : Int)] w fun e w' => e = .returned (.bool (Lex.digit c)) /\ w = w' := by
 have hlt := c.toNat_lt
 have H : c.toNat <= 47 \/ (48 <= c.toNat /\ c.toNat <= 57) \/ 58 <= c.toNat := by omega
 have HB : Hid (Lex.digit c = (decide (48 <= c.toNat) && decide (c.toNat <= 57))) := Y1 rfl
 obtain ⟨n, hn⟩ : ∃ n, n = c.toNat := ⟨_, rfl⟩
 rw [<- hn] at H HB hlt ⊢
 clear hn
 rcases H with h1 | ⟨h1, h2⟩ | h1
 {have h3 : decide ((48 : Int) <= (n : Int)) = false := decide_eq_false (by omega)
  go_enter Tryz.func151, Tryz.ntmps151
  go_wp2
  go_ret
  exact ⟨by rw [HB.out, decide_eq_false (by omega)]; rfl, rfl⟩}
 {have h3 : decide ((n : Int) <= 57) = true := decide_eq_true (by omega)
  have h4 : decide ((48 : Int) <= (n : Int)) = true := decide_eq_true (by omega)
  go_enter Tryz.func151, Tryz.ntmps151
  go_wp2
  go_ret
  exact ⟨by rw [HB.out, decide_eq_true h1, decide_eq_true h2]; rfl, rfl⟩}
 {have h3 : decide ((n : Int) <= 57) = false := decide_eq_false (by omega)
  have h4 : decide ((48 : Int) <= (n : Int)) = true := decide_eq_true (by omega)
  go_enter Tryz.func151, Tryz.ntmps151
  go_wp2
  go_ret
  exact ⟨by rw [HB.out, decide_eq_false (p := n <= 57) (by omega), Bool.and_false]; rfl, rfl⟩}
theorem Z0y (c : UInt8) (w : World) :
 Calls Tryz.prog 150 #[.int .u8 (c.toNat : Int)] w fun e w' => e = .returned (.bool (Lex.letter c)) /\ w = w' := by
 have HM : Hid (Lex.letter c = (Lex.small c || Lex.great c)) := Y1 rfl
 cases h1 : Lex.small c
 {have HF : Hid (Lex.letter c = Lex.great c) := Y1 (by rw [HM.out, h1]; rfl)
  go_enter Tryz.func150, Tryz.ntmps150
  go_wp2_with fail
  refine (Z20 c _).mono ?_
  rintro e w2 ⟨rfl, rfl⟩
  rw [h1]
  go_wp2_with fail
  refine (Z3J c _).mono ?_
  rintro e w2 ⟨rfl, rfl⟩
  go_wp2
  go_ret
  exact ⟨by rw [HF.out]; rfl, rfl⟩}
 {have HF : Hid (Lex.letter c = true) := Y1 (by rw [HM.out, h1]; rfl)
  go_enter Tryz.func150, Tryz.ntmps150
  go_wp2_with fail
  refine (Z20 c _).mono ?_
  rintro e w2 ⟨rfl, rfl⟩
  rw [h1]
  go_wp2
  go_ret
  exact ⟨by rw [HF.out]; rfl, rfl⟩}
theorem Z2E (c : UInt8) (w : World) :
 Calls Tryz.prog 134 #[.int .u8 (c.toNat : Int)] w fun e w' => e = .returned (.bool (Lex.nameB c)) /\ w = w' := by
 have HM := Y1 (Lex.Z8I c)
 have b95 := Zbl c
 cases h1 : Lex.letter c
 {cases h2 : Lex.digit c
  {cases g95 : (c == 95)
   {rw [g95] at b95
    have HF : Hid (Lex.nameB c = false) := Y1 (by rw [HM.out, h1, h2, g95]; rfl)
    clear HM
    go_enter Tryz.func134, Tryz.ntmps134
    go_wp2_with fail
    refine (Z0y c _).mono ?_
    rintro e w2 ⟨rfl, rfl⟩
    rw [h1]
    go_wp2_with fail
    refine (Z0I c _).mono ?_
    rintro e w2 ⟨rfl, rfl⟩
    rw [h2]
    go_wp2
    go_ret
    exact ⟨by rw [HF.out]; rfl, rfl⟩}
   {rw [g95] at b95
    have HF : Hid (Lex.nameB c = true) := Y1 (by rw [HM.out, h1, h2, g95]; rfl)
    clear HM
    go_enter Tryz.func134, Tryz.ntmps134
    go_wp2_with fail
    refine (Z0y c _).mono ?_
    rintro e w2 ⟨rfl, rfl⟩
    rw [h1]
    go_wp2_with fail
    refine (Z0I c _).mono ?_
    rintro e w2 ⟨rfl, rfl⟩
    rw [h2]
    go_wp2
    go_ret
    exact ⟨by rw [HF.out]; rfl, rfl⟩}}
  {have HF : Hid (Lex.nameB c = true) := Y1 (by rw [HM.out, h1, h2]; rfl)
   clear HM
   go_enter Tryz.func134, Tryz.ntmps134
   go_wp2_with fail
   refine (Z0y c _).mono ?_
   rintro e w2 ⟨rfl, rfl⟩
   rw [h1]
   go_wp2_with fail
   refine (Z0I c _).mono ?_
   rintro e w2 ⟨rfl, rfl⟩
   rw [h2]
   go_wp2
   go_ret
   exact ⟨by rw [HF.out]; rfl, rfl⟩}}
 {have HF : Hid (Lex.nameB c = true) := Y1 (by rw [HM.out, h1]; rfl)
  clear HM
  go_enter Tryz.func134, Tryz.ntmps134
  go_wp2_with fail
  refine (Z0y c _).mono ?_
  rintro e w2 ⟨rfl, rfl⟩
  rw [h1]
  go_wp2
  go_ret
  exact ⟨by rw [HF.out]; rfl, rfl⟩}
theorem Z5y (c : UInt8) (w : World) :
 Calls Tryz.prog 181 #[.int .u8 (c.toNat : Int)] w fun e w' => e = .returned (.bool (Lex.lumpB c)) /\ w = w' := by
 have HM := Y1 (Lex.Z8J c)
 have b46 := ZgE c
 have b45 := ZgF c
 cases h1 : Lex.letter c
 {cases h2 : Lex.digit c
  {cases g46 : (c == 46)
   {cases g45 : (c == 45)
    {rw [g46] at b46
     rw [g45] at b45
     have HF : Hid (Lex.lumpB c = false) := Y1 (by rw [HM.out, h1, h2, g46, g45]; rfl)
     clear HM
     go_enter Tryz.func181, Tryz.ntmps181
     go_wp2_with fail
     refine (Z0y c _).mono ?_
     rintro e w2 ⟨rfl, rfl⟩
     rw [h1]
     go_wp2_with fail
     refine (Z0I c _).mono ?_
     rintro e w2 ⟨rfl, rfl⟩
     rw [h2]
     go_wp2
     go_ret
     exact ⟨by rw [HF.out]; rfl, rfl⟩}
    {rw [g46] at b46
     rw [g45] at b45
     have HF : Hid (Lex.lumpB c = true) := Y1 (by rw [HM.out, h1, h2, g46, g45]; rfl)
     clear HM
     go_enter Tryz.func181, Tryz.ntmps181
     go_wp2_with fail
     refine (Z0y c _).mono ?_
     rintro e w2 ⟨rfl, rfl⟩
     rw [h1]
     go_wp2_with fail
     refine (Z0I c _).mono ?_
     rintro e w2 ⟨rfl, rfl⟩
     rw [h2]
     go_wp2
     go_ret
     exact ⟨by rw [HF.out]; rfl, rfl⟩}}
   {rw [g46] at b46
    have HF : Hid (Lex.lumpB c = true) := Y1 (by rw [HM.out, h1, h2, g46]; rfl)
    clear HM
    go_enter Tryz.func181, Tryz.ntmps181
    go_wp2_with fail
    refine (Z0y c _).mono ?_
    rintro e w2 ⟨rfl, rfl⟩
    rw [h1]
    go_wp2_with fail
    refine (Z0I c _).mono ?_
    rintro e w2 ⟨rfl, rfl⟩
    rw [h2]
    go_wp2
    go_ret
    exact ⟨by rw [HF.out]; rfl, rfl⟩}}
  {have HF : Hid (Lex.lumpB c = true) := Y1 (by rw [HM.out, h1, h2]; rfl)
   clear HM
   go_enter Tryz.func181, Tryz.ntmps181
   go_wp2_with fail
   refine (Z0y c _).mono ?_
   rintro e w2 ⟨rfl, rfl⟩
   rw [h1]
   go_wp2_with fail
   refine (Z0I c _).mono ?_
   rintro e w2 ⟨rfl, rfl⟩
   rw [h2]
   go_wp2
   go_ret
   exact ⟨by rw [HF.out]; rfl, rfl⟩}}
 {have HF : Hid (Lex.lumpB c = true) := Y1 (by rw [HM.out, h1]; rfl)
  clear HM
  go_enter Tryz.func181, Tryz.ntmps181
  go_wp2_with fail
  refine (Z0y c _).mono ?_
  rintro e w2 ⟨rfl, rfl⟩
  rw [h1]
  go_wp2
  go_ret
  exact ⟨by rw [HF.out]; rfl, rfl⟩}
theorem Z1u (s : List UInt8) (w : World) :
 Calls Tryz.prog 110 #[.string ⟨s.toArray⟩] w fun e w' => e = .returned (.bool (Lex.isWord s)) /\ w = w' := by
 cases hq : Lex.isWord s
 {have HN : ∀ t ∈ Lex.words, (s == t) = false := fun t ht => by
   cases h : (s == t) with
   | false => rfl
   | true =>
    obtain rfl := beq_iff_eq.1 h
    unfold Lex.isWord at hq
    rw [List.contains_iff_mem.2 ht] at hq; cases hq
  have n0 : (s == [109, 111, 100, 117, 108, 101]) = false := HN _ (by decide)
  have n1 : (s == [105, 109, 112, 111, 114, 116]) = false := HN _ (by decide)
  have n2 : (s == [112, 105, 110]) = false := HN _ (by decide)
  have n3 : (s == [114, 97, 110, 103, 101]) = false := HN _ (by decide)
  have n4 : (s == [116, 121, 112, 101]) = false := HN _ (by decide)
  have n5 : (s == [111, 112, 97, 113, 117, 101]) = false := HN _ (by decide)
  have n6 : (s == [108, 101, 116]) = false := HN _ (by decide)
  have n7 : (s == [105, 110]) = false := HN _ (by decide)
  have n8 : (s == [101, 120, 112, 111, 114, 116]) = false := HN _ (by decide)
  have n9 : (s == [102, 117, 110]) = false := HN _ (by decide)
  have n10 : (s == [105, 102]) = false := HN _ (by decide)
  have n11 : (s == [116, 104, 101, 110]) = false := HN _ (by decide)
  have n12 : (s == [101, 108, 115, 101]) = false := HN _ (by decide)
  have n13 : (s == [99, 97, 115, 101]) = false := HN _ (by decide)
  have n14 : (s == [111, 102]) = false := HN _ (by decide)
  have n15 : (s == [97, 115]) = false := HN _ (by decide)
  have n16 : (s == [110, 101, 119]) = false := HN _ (by decide)
  have n17 : (s == [114, 97, 119]) = false := HN _ (by decide)
  have n18 : (s == [116, 114, 117, 101]) = false := HN _ (by decide)
  have n19 : (s == [102, 97, 108, 115, 101]) = false := HN _ (by decide)
  clear HN hq
  go_enter Tryz.func110, Tryz.ntmps110
  go_wp2
  go_ret
  exact ⟨rfl, rfl⟩}
 {have hm : s ∈ Lex.words := List.contains_iff_mem.1 hq
  clear hq
  unfold Lex.words at hm
  simp only [List.mem_cons, List.not_mem_nil, or_false] at hm
  rcases hm with rfl | rfl | rfl | rfl | rfl | rfl | rfl | rfl | rfl | rfl | rfl | rfl | rfl | rfl | rfl | rfl | rfl | rfl | rfl | rfl
  all_goals
   go_enter Tryz.func110, Tryz.ntmps110
   go_wp2
   go_ret
   exact ⟨rfl, rfl⟩}
theorem Z1V (s : List UInt8) (w : World) :
 Calls Tryz.prog 182 #[.string ⟨s.toArray⟩] w fun e w' => e = .returned (.bool (Lex.isSign s)) /\ w = w' := by
 cases hq : Lex.isSign s
 {have HN : ∀ t ∈ Lex.signs, (s == t) = false := fun t ht => by
   cases h : (s == t) with
   | false => rfl
   | true =>
    obtain rfl := beq_iff_eq.1 h
    unfold Lex.isSign at hq
    rw [List.contains_iff_mem.2 ht] at hq; cases hq
  have n0 : (s == [40]) = false := HN _ (by decide)
  have n1 : (s == [41]) = false := HN _ (by decide)
  have n2 : (s == [123]) = false := HN _ (by decide)
  have n3 : (s == [125]) = false := HN _ (by decide)
  have n4 : (s == [91]) = false := HN _ (by decide)
  have n5 : (s == [93]) = false := HN _ (by decide)
  have n6 : (s == [60]) = false := HN _ (by decide)
  have n7 : (s == [62]) = false := HN _ (by decide)
  have n8 : (s == [60, 61]) = false := HN _ (by decide)
  have n9 : (s == [62, 61]) = false := HN _ (by decide)
  have n10 : (s == [61]) = false := HN _ (by decide)
  have n11 : (s == [94]) = false := HN _ (by decide)
  have n12 : (s == [42]) = false := HN _ (by decide)
  have n13 : (s == [44]) = false := HN _ (by decide)
  have n14 : (s == [58]) = false := HN _ (by decide)
  have n15 : (s == [46]) = false := HN _ (by decide)
  have n16 : (s == [47]) = false := HN _ (by decide)
  have n17 : (s == [64]) = false := HN _ (by decide)
  have n18 : (s == [124]) = false := HN _ (by decide)
  have n19 : (s == [45, 62]) = false := HN _ (by decide)
  clear HN hq
  go_enter Tryz.func182, Tryz.ntmps182
  go_wp2
  go_ret
  exact ⟨rfl, rfl⟩}
 {have hm : s ∈ Lex.signs := List.contains_iff_mem.1 hq
  clear hq
  unfold Lex.signs at hm
  simp only [List.mem_cons, List.not_mem_nil, or_false] at hm
  rcases hm with rfl | rfl | rfl | rfl | rfl | rfl | rfl | rfl | rfl | rfl | rfl | rfl | rfl | rfl | rfl | rfl | rfl | rfl | rfl | rfl
  all_goals
   go_enter Tryz.func182, Tryz.ntmps182
   go_wp2
   go_ret
   exact ⟨rfl, rfl⟩}
end Go.Proofs.YtnkdedejfonbmaaGreatDoor
namespace Lex
def named (l : List UInt8) : Bool := decide (l.length <= 24) && l.tail.all nameB
theorem ZfE {p : UInt8 -> Bool} {l : List UInt8} (h : ∀ j (hj : j < l.length), 1 <= j -> p (l[j]'hj) = true) : l.tail.all p = true := by
 cases l with
 | nil => rfl
 | cons c r =>
  refine List.all_eq_true.2 (fun x hx => ?_)
  obtain ⟨j, hj, rfl⟩ := List.mem_iff_getElem.1 hx
  exact h (j + 1) (by simpa using hj) (by omega)
theorem ZgG {p : UInt8 -> Bool} {l : List UInt8} {j : Nat} (hj : j < l.length) (h1 : 1 <= j) (h : p (l[j]'hj) = false) : l.tail.all p = false := by
 cases l with
 | nil => simp at hj
 | cons c r =>
  obtain ⟨k, rfl⟩ : ∃ k, j = k + 1 := ⟨j - 1, by omega⟩
  have hm : (r[k]'(by simpa using hj)) ∈ r := List.getElem_mem _
  cases hq : (c :: r).tail.all p with
  | false => rfl
  | true =>
   have := List.all_eq_true.1 hq _ hm
   have h' : p (r[k]'(by simpa using hj)) = false := h
   rw [h'] at this; cases this
theorem Zhg {p : UInt8 -> Bool} {l : List UInt8} (h : ∀ j (hj : j < l.length), p (l[j]'hj) = true) : l.all p = true :=
 List.all_eq_true.2 (fun x hx => by obtain ⟨j, hj, rfl⟩ := List.mem_iff_getElem.1 hx; exact h j hj)
theorem Zhh {p : UInt8 -> Bool} {l : List UInt8} {j : Nat} (hj : j < l.length) (h : p (l[j]'hj) = false) : l.all p = false := by
 cases hq : l.all p with
 | false => rfl
 | true =>
  have := List.all_eq_true.1 hq _ (List.getElem_mem hj)
  rw [h] at this; cases this
theorem Zcb (c : UInt8) (r : List UInt8) : isName (c :: r) = (small c && named (c :: r) && !isWord (c :: r)) := by
 show (decide ((c :: r).length <= 24) && small c && (c :: r).all nameB && !isWord (c :: r)) = _
 cases h : small c with
 | false => simp
 | true =>
  have : nameB c = true := by unfold nameB; rw [h]; rfl
  unfold named
  simp [this]
theorem Zae (c : UInt8) (r : List UInt8) : isUpper (c :: r) = (great c && named (c :: r)) := by
 show (decide ((c :: r).length <= 24) && great c && (c :: r).all nameB) = _
 cases h : great c with
 | false => simp
 | true =>
  have : nameB c = true := by unfold nameB; rw [h]; simp
  unfold named
  simp [this]
end Lex
namespace Go.Proofs.YtnkdedejfonbmaaGreatDoor
open Go.RowKit
theorem Z3K (l : List UInt8) (hl : l.length <= 9223372036854775807) (w : World) :
 Calls Tryz.prog 109 #[.string ⟨l.toArray⟩] w fun e w' => e = .returned (.bool (Lex.named l)) /\ w = w' := by
 have hz : (⟨l.toArray⟩ : ByteArray).size = l.length := Z04 _
 have HM : Hid (Lex.named l = (decide (l.length <= 24) && l.tail.all Lex.nameB)) := Y1 rfl
 by_cases h24 : l.length <= 24
 {have h24d : ¬ ((24 : Int) < (l.length : Int)) := by omega
  go_enter Tryz.func109, Tryz.ntmps109
  go_wp2_with fail
  go_loopw [3] (fun ii wr => ∃ n : Nat, ii = .int .i64 n /\ 1 <= n /\ (n <= l.length \/ n = 1) /\ Hid (∀ j (hj : j < l.length), 1 <= j -> j < n -> Lex.nameB (l[j]'hj) = true) /\ w = wr)
   (fun i _ => l.length - (intOf i).toNat)
  case atStart => exact ⟨1, rfl, Nat.le_refl _, Or.inr rfl, Y1 (fun j _ h1 hj => absurd hj (by omega)), rfl⟩
  case round =>
   obtain ⟨n, rfl, h1, hn, HN, rfl⟩ := hrel
   by_cases hlt : n < l.length
   {have hi1 : (n : Int) < (l.length : Int) := by omega
    obtain ⟨c, hc⟩ : ∃ c, c = l[n]'hlt := ⟨_, rfl⟩
    have hidx : ∀ W, (Instr.index 9 (.string ⟨l.toArray⟩) (.int .i64 (n : Int))).run Tryz.prog W = .ok (.int .u8 c.toNat) W := fun W => by
     rw [hc]; exact Z0K ⟨l.toArray⟩ n (by omega) W
    have HC := Y1 hc
    clear hc
    cases hb : Lex.nameB c
    {have HF : Hid (Lex.named l = false) := Y1 (by rw [HM.out, Lex.ZgG hlt h1 (by rw [<- HC.out]; exact hb)]; simp)
     go_wp2_with fail
     refine (Z2E c _).mono ?_
     rintro e w2 ⟨rfl, rfl⟩
     rw [hb]
     go_wp2
     go_ret
     exact ⟨by rw [HF.out]; rfl, rfl⟩}
    {have HN2 : Hid (∀ j (hj : j < l.length), 1 <= j -> j < n + 1 -> Lex.nameB (l[j]'hj) = true) := Y1 (fun j hj h1 hji => by
      rcases Nat.lt_succ_iff_lt_or_eq.1 hji with h' | rfl
      {exact HN.out j hj h1 h'}
      · rw [<- HC.out]; exact hb)
     go_wp2_with fail
     refine (Z2E c _).mono ?_
     rintro e w2 ⟨rfl, rfl⟩
     rw [hb]
     go_wp2
     go_roundw
     case rel => exact ⟨n + 1, by go_num, by omega, Or.inl (by omega), HN2, trivial⟩
     case measure => simp [intOf]; omega}}
   {have hi1 : ¬ (n : Int) < (l.length : Int) := by omega
    have HF : Hid (Lex.named l = true) := Y1 (by rw [HM.out, decide_eq_true h24, Lex.ZfE (fun j hj h1 => HN.out j hj h1 (by omega))]; rfl)
    go_wp2
    go_ret
    exact ⟨by rw [HF.out]; rfl, rfl⟩}}
 {have h24d : (24 : Int) < (l.length : Int) := by omega
  have HF : Hid (Lex.named l = false) := Y1 (by rw [HM.out, decide_eq_false h24]; rfl)
  go_enter Tryz.func109, Tryz.ntmps109
  go_wp2
  go_ret
  exact ⟨by rw [HF.out]; rfl, rfl⟩}
theorem Z0L (l : List UInt8) (hl : l.length <= 9223372036854775807) (w : World) :
 Calls Tryz.prog 81 #[.string ⟨l.toArray⟩] w fun e w' => e = .returned (.bool (Lex.isName l)) /\ w = w' := by
 cases l with
 | nil =>
  have HM : Hid (Lex.isName [] = false) := Y1 rfl
  go_enter Tryz.func81, Tryz.ntmps81
  go_wp2
  go_ret
  exact ⟨by rw [HM.out]; rfl, rfl⟩
 | cons c r =>
  have HM := Y1 (Lex.Zcb c r)
  obtain ⟨l, hll⟩ : ∃ l : List UInt8, l = c :: r := ⟨_, rfl⟩
  rw [<- hll] at hl HM ⊢
  have hz : (⟨l.toArray⟩ : ByteArray).size = l.length := Z04 _
  have he : l.isEmpty = false := by rw [hll]; rfl
  have he2 : (l == []) = false := by rw [hll]; rfl
  have he3 : (l != []) = true := by rw [hll]; rfl
  have hidx : ∀ W, (Instr.index 9 (.string ⟨l.toArray⟩) (.int .i64 0)).run Tryz.prog W = .ok (.int .u8 c.toNat) W := fun W => by rw [hll]; rfl
  clear hll
  cases h1 : Lex.small c
  {have HF : Hid (Lex.isName l = false) := Y1 (by rw [HM.out, h1]; rfl)
   go_enter Tryz.func81, Tryz.ntmps81
   go_wp2_with fail
   refine (Z20 c _).mono ?_
   rintro e w2 ⟨rfl, rfl⟩
   rw [h1]
   go_wp2
   go_ret
   exact ⟨by rw [HF.out]; rfl, rfl⟩}
  {cases h2 : Lex.named l
   {have HF : Hid (Lex.isName l = false) := Y1 (by rw [HM.out, h1, h2]; rfl)
    go_enter Tryz.func81, Tryz.ntmps81
    go_wp2_with fail
    refine (Z20 c _).mono ?_
    rintro e w2 ⟨rfl, rfl⟩
    rw [h1]
    go_wp2_with fail
    refine (Z3K l hl _).mono ?_
    rintro e w2 ⟨rfl, rfl⟩
    rw [h2]
    go_wp2
    go_ret
    exact ⟨by rw [HF.out]; rfl, rfl⟩}
   {have HF : Hid (Lex.isName l = !Lex.isWord l) := Y1 (by rw [HM.out, h1, h2]; rfl)
    go_enter Tryz.func81, Tryz.ntmps81
    go_wp2_with fail
    refine (Z20 c _).mono ?_
    rintro e w2 ⟨rfl, rfl⟩
    rw [h1]
    go_wp2_with fail
    refine (Z3K l hl _).mono ?_
    rintro e w2 ⟨rfl, rfl⟩
    rw [h2]
    go_wp2_with fail
    refine (Z1u l _).mono ?_
    rintro e w2 ⟨rfl, rfl⟩
    go_wp2
    go_ret
    exact ⟨by rw [HF.out]; rfl, rfl⟩}}
theorem Z1f (l : List UInt8) (hl : l.length <= 9223372036854775807) (w : World) :
 Calls Tryz.prog 83 #[.string ⟨l.toArray⟩] w fun e w' => e = .returned (.bool (Lex.isUpper l)) /\ w = w' := by
 cases l with
 | nil =>
  have HM : Hid (Lex.isUpper [] = false) := Y1 rfl
  go_enter Tryz.func83, Tryz.ntmps83
  go_wp2
  go_ret
  exact ⟨by rw [HM.out]; rfl, rfl⟩
 | cons c r =>
  have HM := Y1 (Lex.Zae c r)
  obtain ⟨l, hll⟩ : ∃ l : List UInt8, l = c :: r := ⟨_, rfl⟩
  rw [<- hll] at hl HM ⊢
  have hz : (⟨l.toArray⟩ : ByteArray).size = l.length := Z04 _
  have he : l.isEmpty = false := by rw [hll]; rfl
  have he2 : (l == []) = false := by rw [hll]; rfl
  have he3 : (l != []) = true := by rw [hll]; rfl
  have hidx : ∀ W, (Instr.index 9 (.string ⟨l.toArray⟩) (.int .i64 0)).run Tryz.prog W = .ok (.int .u8 c.toNat) W := fun W => by rw [hll]; rfl
  clear hll
  cases h1 : Lex.great c
  {have HF : Hid (Lex.isUpper l = false) := Y1 (by rw [HM.out, h1]; rfl)
   go_enter Tryz.func83, Tryz.ntmps83
   go_wp2_with fail
   refine (Z3J c _).mono ?_
   rintro e w2 ⟨rfl, rfl⟩
   rw [h1]
   go_wp2
   go_ret
   exact ⟨by rw [HF.out]; rfl, rfl⟩}
  {have HF : Hid (Lex.isUpper l = Lex.named l) := Y1 (by rw [HM.out, h1]; rfl)
   go_enter Tryz.func83, Tryz.ntmps83
   go_wp2_with fail
   refine (Z3J c _).mono ?_
   rintro e w2 ⟨rfl, rfl⟩
   rw [h1]
   go_wp2_with fail
   refine (Z3K l hl _).mono ?_
   rintro e w2 ⟨rfl, rfl⟩
   go_wp2
   go_ret
   exact ⟨by rw [HF.out]; rfl, rfl⟩}
theorem Zaf (c : UInt8) (r : List UInt8) : Lex.number (c :: r) = ((c :: r).all Lex.digit && decide (1 <= (c :: r).length) && decide ((c :: r).length <= 15) && (decide ((c :: r).length = 1) || (c != 48))) := by
 show (_ && _ && _ && (_ || decide ((c :: r).head? ≠ some 48))) = _
 congr 2
 by_cases h : c = 48
 {subst h; rfl}
 {simp [h]}
theorem Z8K (l : List UInt8) (h0 : (l == []) = false) (h15 : l.length <= 15) (c : UInt8) (hidx0 : ∀ W, (Instr.index 9 (.string ⟨l.toArray⟩) (.int .i64 0)).run Tryz.prog W = .ok (.int .u8 c.toNat) W) (hc : ¬ (1 < l.length) \/ (c == 48) = false) (w : World) :
 Calls Tryz.prog 183 #[.string ⟨l.toArray⟩] w fun e w' => e = .returned (.bool (l.all Lex.digit)) /\ w = w' := by
 have hz : (⟨l.toArray⟩ : ByteArray).size = l.length := Z04 _
 have he : l.isEmpty = false := by cases l with | nil => cases h0 | cons c r => rfl
 have h15d : ¬ ((15 : Int) < (l.length : Int)) := by omega
 have hq : Hid ((((1 : Int) < (l.length : Int)) /\ ((c.toNat : Int) == 48) = false) \/ ¬ ((1 : Int) < (l.length : Int))) := Y1 (by
  by_cases h : 1 < l.length
  {left
   refine ⟨by omega, ?_⟩
   rcases hc with h' | h'
   {exact absurd h h'}
   {rw [show ((c.toNat : Int) == 48) = (c == 48) from by
     rw [Bool.eq_iff_iff, beq_iff_eq, beq_iff_eq]
     exact ⟨fun h => UInt8.toNat_inj.1 (by show c.toNat = 48; omega), fun h => by rw [h]; rfl⟩]
    exact h'}}
  · right; omega)
 clear hc
 rcases hq.out with ⟨q1, q2⟩ | q1
 all_goals
  go_enter Tryz.func183, Tryz.ntmps183
  go_wp2_with fail
  go_loopw [23] (fun ii wr => ∃ n : Nat, ii = .int .i64 n /\ n <= l.length /\ Hid (∀ j (hj : j < l.length), j < n -> Lex.digit (l[j]'hj) = true) /\ w = wr)
   (fun i _ => l.length - (intOf i).toNat)
  case atStart => exact ⟨0, rfl, Nat.zero_le _, Y1 (fun j _ hj => absurd hj (by omega)), rfl⟩
  case round =>
   obtain ⟨n, rfl, hn, HN, rfl⟩ := hrel
   by_cases hlt : n < l.length
   {have hi1 : (n : Int) < (l.length : Int) := by omega
    obtain ⟨d, hd⟩ : ∃ d, d = l[n]'hlt := ⟨_, rfl⟩
    have hidx : ∀ W, (Instr.index 9 (.string ⟨l.toArray⟩) (.int .i64 (n : Int))).run Tryz.prog W = .ok (.int .u8 d.toNat) W := fun W => by
     rw [hd]; exact Z0K ⟨l.toArray⟩ n (by omega) W
    have HC := Y1 hd
    clear hd
    cases hb : Lex.digit d
    {have HF : Hid (l.all Lex.digit = false) := Y1 (Lex.Zhh hlt (by rw [<- HC.out]; exact hb))
     go_wp2_with fail
     refine (Z0I d _).mono ?_
     rintro e w2 ⟨rfl, rfl⟩
     rw [hb]
     go_wp2
     go_ret
     exact ⟨by rw [HF.out]; rfl, rfl⟩}
    {have HN2 : Hid (∀ j (hj : j < l.length), j < n + 1 -> Lex.digit (l[j]'hj) = true) := Y1 (fun j hj hji => by
      rcases Nat.lt_succ_iff_lt_or_eq.1 hji with h' | rfl
      {exact HN.out j hj h'}
      · rw [<- HC.out]; exact hb)
     go_wp2_with fail
     refine (Z0I d _).mono ?_
     rintro e w2 ⟨rfl, rfl⟩
     rw [hb]
     go_wp2
     go_roundw
     case rel => exact ⟨n + 1, by go_num, by omega, HN2, trivial⟩
     case measure => simp [intOf]; omega}}
   {have hi1 : ¬ (n : Int) < (l.length : Int) := by omega
    have HF : Hid (l.all Lex.digit = true) := Y1 (Lex.Zhg (fun j hj => HN.out j hj (by omega)))
    go_wp2
    go_ret
    exact ⟨by rw [HF.out]; rfl, rfl⟩}
theorem Z3i (l : List UInt8) (hl : l.length <= 9223372036854775807) (w : World) :
 Calls Tryz.prog 183 #[.string ⟨l.toArray⟩] w fun e w' => e = .returned (.bool (Lex.number l)) /\ w = w' := by
 cases l with
 | nil =>
  have HM : Hid (Lex.number [] = false) := Y1 rfl
  go_enter Tryz.func183, Tryz.ntmps183
  go_wp2
  go_ret
  exact ⟨by rw [HM.out]; rfl, rfl⟩
 | cons c r =>
  have HM := Y1 (Zaf c r)
  have hidx0 : ∀ W, (Instr.index 9 (.string ⟨(c :: r).toArray⟩) (.int .i64 0)).run Tryz.prog W = .ok (.int .u8 c.toNat) W := fun W => rfl
  have h1 : decide (1 <= (c :: r).length) = true := by simp
  by_cases h15 : (c :: r).length <= 15
  {by_cases hc : ¬ (1 < (c :: r).length) \/ (c == 48) = false
   {refine (Z8K (c :: r) rfl h15 c hidx0 hc w).mono ?_
    rintro e w' ⟨rfl, rfl⟩
    refine ⟨?_, rfl⟩
    have : (decide ((c :: r).length = 1) || (c != 48)) = true := by
     rcases hc with h | h
     {rw [decide_eq_true (by rw [List.length_cons] at h ⊢; omega)]; rfl}
     {rw [bne, h]; simp}
    rw [HM.out, h1, decide_eq_true h15, this]; simp}
   {have h48 : (c == 48) = true := by cases h : (c == 48) with | true => rfl | false => exact absurd (Or.inr h) hc
    have hlt : 1 < (c :: r).length := Decidable.byContradiction (fun h => hc (Or.inl h))
    have HF : Hid (Lex.number (c :: r) = false) := Y1 (by rw [HM.out, bne, h48, decide_eq_false (p := (c :: r).length = 1) (by omega)]; simp)
    obtain rfl := beq_iff_eq.1 h48
    obtain ⟨l, hll⟩ : ∃ l : List UInt8, l = 48 :: r := ⟨_, rfl⟩
    rw [<- hll] at hl HF hidx0 h15 hlt ⊢
    have hz : (⟨l.toArray⟩ : ByteArray).size = l.length := Z04 _
    have he : l.isEmpty = false := by rw [hll]; rfl
    have he2 : (l == []) = false := by rw [hll]; rfl
    have h15d : ¬ ((15 : Int) < (l.length : Int)) := by omega
    have q1 : (1 : Int) < (l.length : Int) := by omega
    clear hll HM h1 hc h48
    go_enter Tryz.func183, Tryz.ntmps183
    go_wp2
    go_ret
    exact ⟨by rw [HF.out]; rfl, rfl⟩}}
  {have HF : Hid (Lex.number (c :: r) = false) := Y1 (by rw [HM.out, decide_eq_false h15]; simp)
   obtain ⟨l, hll⟩ : ∃ l : List UInt8, l = c :: r := ⟨_, rfl⟩
   rw [<- hll] at hl HF h15 ⊢
   have hz : (⟨l.toArray⟩ : ByteArray).size = l.length := Z04 _
   have he : l.isEmpty = false := by rw [hll]; rfl
   have he2 : (l == []) = false := by rw [hll]; rfl
   have h15d : (15 : Int) < (l.length : Int) := by omega
   clear hll HM h1 hidx0
   go_enter Tryz.func183, Tryz.ntmps183
   go_wp2
   go_ret
   exact ⟨by rw [HF.out]; rfl, rfl⟩}
end Go.Proofs.YtnkdedejfonbmaaGreatDoor
namespace Go.Proofs.YtnkdedejfonbmaaGreatDoor
open Go.RowKit Tms
open Shp (Sh)
theorem Z4u (t : Tm) (q : TP) (w : World) (hq : TmAt w w.heap.size q t) :
 Calls Tryz.prog 19 #[.agg (Y7 t q)] w fun e w' => ∃ r : Nat, e = .returned (.tuple #[.int .i64 (min (size t) 4097 : Nat), .int .i64 (r : Int)]) /\ (size t <= 4096 -> r = deep t) /\ r <= 4097 /\ Below w.heap.size w w' := by
 have hb0 := Z02 w (.cells (Y7 t q) 26)
 have hb1 : Below w.heap.size w ((w.alloc (.cells (Y7 t q) 26)).alloc (.cells #[.int .i64 0] 53)) := Z08 hb0 _
 have hc : Cnt8 ((w.alloc (.cells (Y7 t q) 26)).alloc (.cells #[.int .i64 0] 53)) (w.heap.size + 1) 0 := ⟨by simp, by simp [go_sem], by simp [go_sem]⟩
 have HL := Y1 (Z9j t q w.heap.size (w.heap.size + 1) 0 _ (hq.keep hb1 (Nat.le_refl _)) (by omega) hc (by omega))
 have HB := Y1 (Z07 w t q)
 have HB1 := Y1 hb1
 obtain ⟨_, ⟨c0, c1, c2, c3, c4, c5, c6, c7, c8⟩, _⟩ := HB.out
 clear hb0 hb1 hc hq
 go_enter Tryz.func19, Tryz.ntmps19
 go_wp2_with fail
 refine HL.out.mono ?_
 rintro e w2 ⟨r, rfl, hr1, hr2, hu, hc⟩
 rw [Nat.zero_add] at hr1 hr2 hc
 have k0 := hc.c0
 have HBW : Hid (Below w.heap.size w w2) := Y1 (HB1.out.trans ((hu.mono (B' := w.heap.size) (by simp; omega)).toBelow (by omega)))
 have HR1 := Y1 hr1
 have HR2 : Hid (r <= 4097) := Y1 (by omega)
 obtain ⟨m, hm⟩ : ∃ m, m = min (size t) 4097 := ⟨_, rfl⟩
 rw [<- hm] at k0
 have HMM := Y1 hm
 clear hm
 clear hu hc hr1 hr2 HL c0 c1 c2 c3 c4 c5 c6 c7 c8
 go_wp2
 go_ret2
 exact ⟨r, by rw [<- HMM.out]; rfl, HR1.out, HR2.out, HBW.out⟩
theorem Z1y (t : Tm) (q : TP) (w : World) (hq : TmAt w w.heap.size q t) :
 Y9 10 #[.agg (Y7 t q)] w (.int .i64 (sizeTo 4096 t : Int)) := by
 have hb0 := Z02 w (.cells (Y7 t q) 26)
 have hm := Z4u t q _ (hq.next hb0)
 have HF : Hid (min (size t) 4097 = sizeTo 4096 t) := Y1 rfl
 have HB0 := Y1 hb0
 rw [HF.out] at hm
 generalize sizeTo 4096 t = m at hm ⊢
 obtain ⟨_, ⟨c0, c1, c2, c3, c4, c5, c6, c7, c8⟩, _⟩ := Z07 w t q
 clear hb0 hq
 go_enter Tryz.func10, Tryz.ntmps10
 go_wp2_with fail
 refine hm.mono ?_
 rintro e w' ⟨r, rfl, _, _, hb'⟩
 go_wp2
 go_ret
 exact ⟨rfl, Z00 HB0.out hb'⟩
theorem Z9k (t : Tm) (q : TP) (w : World) :
 Y9 54 #[.agg (Y7 t q)] w (.bool (numB t)) := by
 have HF : Hid (numB t = (t.n == 0 || (t.kind == 1 && decide (0 < t.n) && decide (t.n <= 999999999999999)))) := Y1 rfl
 have HB0 := Y1 (Z02 w (.cells (Y7 t q) 26))
 obtain ⟨_, ⟨c0, c1, c2, c3, c4, c5, c6, c7, c8⟩, _⟩ := Z07 w t q
 cases h0 : (t.n == 0)
 {cases h1 : (t.kind == 1)
  {rw [h0, h1] at HF
   go_enter Tryz.func54, Tryz.ntmps54
   go_wp2
   go_ret
   exact ⟨Z03 HF.out.symm, HB0.out⟩}
  {cases h2 : decide (0 < t.n)
   {rw [h0, h1, h2] at HF
    go_enter Tryz.func54, Tryz.ntmps54
    go_wp2
    go_ret
    exact ⟨Z03 HF.out.symm, HB0.out⟩}
   {cases h3 : decide (t.n <= 999999999999999)
    all_goals
     rw [h0, h1, h2, h3] at HF
     go_enter Tryz.func54, Tryz.ntmps54
     go_wp2
     go_ret
     exact ⟨Z03 HF.out.symm, HB0.out⟩}}}
 {rw [h0] at HF
  go_enter Tryz.func54, Tryz.ntmps54
  go_wp2
  go_ret
  exact ⟨Z03 HF.out.symm, HB0.out⟩}
theorem ZhY (o f : ByteArray) (N at_ : Int) (A V S P : Option Addr) (n v s p c e z d : Nat) (w : World) (hn : n <= 9223372036854775806) (hv : v <= 9223372036854775807) (hs : s <= 9223372036854775807) (hp : p <= 9223372036854775807) :
 Calls Tryz.prog 57 #[.agg #[.int .i64 1, .string o, .string f, .int .i64 N, .slice A n c, .slice V v e, .slice S s z, .slice P p d, .int .i64 at_]] w fun r w' => r = .returned (.bool (decide (n = 0 /\ v = 0 /\ s = 0 /\ p = 0))) /\ Below w.heap.size w w' := by
 go_enter Tryz.func57, Tryz.ntmps57
 go_wp2
 all_goals
  go_ret
  refine ⟨Z03 ?_, Z08 (Z02 _ _) _⟩
  first
  | rfl
  | exact (decide_eq_true (by omega)).symm
  | exact (decide_eq_false (by omega)).symm
theorem ZhZ (o f : ByteArray) (N at_ : Int) (A V S P : Option Addr) (n v s p c e z d : Nat) (w : World) (hn : n <= 9223372036854775806) (hv : v <= 9223372036854775807) (hs : s <= 9223372036854775807) (hp : p <= 9223372036854775807) :
 Calls Tryz.prog 57 #[.agg #[.int .i64 2, .string o, .string f, .int .i64 N, .slice A n c, .slice V v e, .slice S s z, .slice P p d, .int .i64 at_]] w fun r w' => r = .returned (.bool (decide (n = 0 /\ v = 0 /\ s = 0 /\ p = 0))) /\ Below w.heap.size w w' := by
 go_enter Tryz.func57, Tryz.ntmps57
 go_wp2
 all_goals
  go_ret
  refine ⟨Z03 ?_, Z08 (Z02 _ _) _⟩
  first
  | rfl
  | exact (decide_eq_true (by omega)).symm
  | exact (decide_eq_false (by omega)).symm
theorem Zi0 (o f : ByteArray) (N at_ : Int) (A V S P : Option Addr) (n v s p c e z d : Nat) (w : World) (hn : n <= 9223372036854775806) (hv : v <= 9223372036854775807) (hs : s <= 9223372036854775807) (hp : p <= 9223372036854775807) :
 Calls Tryz.prog 57 #[.agg #[.int .i64 3, .string o, .string f, .int .i64 N, .slice A n c, .slice V v e, .slice S s z, .slice P p d, .int .i64 at_]] w fun r w' => r = .returned (.bool (decide (n = 0 /\ v = 0 /\ s = 0 /\ p = 0))) /\ Below w.heap.size w w' := by
 go_enter Tryz.func57, Tryz.ntmps57
 go_wp2
 all_goals
  go_ret
  refine ⟨Z03 ?_, Z08 (Z02 _ _) _⟩
  first
  | rfl
  | exact (decide_eq_true (by omega)).symm
  | exact (decide_eq_false (by omega)).symm
theorem Zi1 (o f : ByteArray) (N at_ : Int) (A V S P : Option Addr) (n v s p c e z d : Nat) (w : World) (hn : n <= 9223372036854775806) (hv : v <= 9223372036854775807) (hs : s <= 9223372036854775807) (hp : p <= 9223372036854775807) :
 Calls Tryz.prog 57 #[.agg #[.int .i64 4, .string o, .string f, .int .i64 N, .slice A n c, .slice V v e, .slice S s z, .slice P p d, .int .i64 at_]] w fun r w' => r = .returned (.bool (decide (n = 0 /\ v = 0 /\ s = 0 /\ p = 0))) /\ Below w.heap.size w w' := by
 go_enter Tryz.func57, Tryz.ntmps57
 go_wp2
 all_goals
  go_ret
  refine ⟨Z03 ?_, Z08 (Z02 _ _) _⟩
  first
  | rfl
  | exact (decide_eq_true (by omega)).symm
  | exact (decide_eq_false (by omega)).symm
theorem Zi2 (o f : ByteArray) (N at_ : Int) (A V S P : Option Addr) (n v s p c e z d : Nat) (w : World) (hn : n <= 9223372036854775806) (hv : v <= 9223372036854775807) (hs : s <= 9223372036854775807) (hp : p <= 9223372036854775807) :
 Calls Tryz.prog 57 #[.agg #[.int .i64 5, .string o, .string f, .int .i64 N, .slice A n c, .slice V v e, .slice S s z, .slice P p d, .int .i64 at_]] w fun r w' => r = .returned (.bool (decide (n = 0 /\ v = 0 /\ s = 0 /\ p = 0))) /\ Below w.heap.size w w' := by
 go_enter Tryz.func57, Tryz.ntmps57
 go_wp2
 all_goals
  go_ret
  refine ⟨Z03 ?_, Z08 (Z02 _ _) _⟩
  first
  | rfl
  | exact (decide_eq_true (by omega)).symm
  | exact (decide_eq_false (by omega)).symm
theorem Zi3 (o f : ByteArray) (N at_ : Int) (A V S P : Option Addr) (n v s p c e z d : Nat) (w : World) (hn : n <= 9223372036854775806) (hv : v <= 9223372036854775807) (hs : s <= 9223372036854775807) (hp : p <= 9223372036854775807) :
 Calls Tryz.prog 57 #[.agg #[.int .i64 6, .string o, .string f, .int .i64 N, .slice A n c, .slice V v e, .slice S s z, .slice P p d, .int .i64 at_]] w fun r w' => r = .returned (.bool (decide (v = 0 /\ s = n /\ p = 1))) /\ Below w.heap.size w w' := by
 go_enter Tryz.func57, Tryz.ntmps57
 go_wp2
 all_goals
  go_ret
  refine ⟨Z03 ?_, Z08 (Z02 _ _) _⟩
  first
  | rfl
  | exact (decide_eq_true (by omega)).symm
  | exact (decide_eq_false (by omega)).symm
theorem Zi4 (o f : ByteArray) (N at_ : Int) (A V S P : Option Addr) (n v s p c e z d : Nat) (w : World) (hn : n <= 9223372036854775806) (hv : v <= 9223372036854775807) (hs : s <= 9223372036854775807) (hp : p <= 9223372036854775807) :
 Calls Tryz.prog 57 #[.agg #[.int .i64 7, .string o, .string f, .int .i64 N, .slice A n c, .slice V v e, .slice S s z, .slice P p d, .int .i64 at_]] w fun r w' => r = .returned (.bool (decide (n = 0 /\ v = 0 /\ s = 0 /\ 1 <= p))) /\ Below w.heap.size w w' := by
 go_enter Tryz.func57, Tryz.ntmps57
 go_wp2
 all_goals
  go_ret
  refine ⟨Z03 ?_, Z08 (Z02 _ _) _⟩
  first
  | rfl
  | exact (decide_eq_true (by omega)).symm
  | exact (decide_eq_false (by omega)).symm
theorem Zi5 (o f : ByteArray) (N at_ : Int) (A V S P : Option Addr) (n v s p c e z d : Nat) (w : World) (hn : n <= 9223372036854775806) (hv : v <= 9223372036854775807) (hs : s <= 9223372036854775807) (hp : p <= 9223372036854775807) :
 Calls Tryz.prog 57 #[.agg #[.int .i64 8, .string o, .string f, .int .i64 N, .slice A n c, .slice V v e, .slice S s z, .slice P p d, .int .i64 at_]] w fun r w' => r = .returned (.bool (decide (v = 0 /\ s = 0 /\ p = n))) /\ Below w.heap.size w w' := by
 go_enter Tryz.func57, Tryz.ntmps57
 go_wp2
 all_goals
  go_ret
  refine ⟨Z03 ?_, Z08 (Z02 _ _) _⟩
  first
  | rfl
  | exact (decide_eq_true (by omega)).symm
  | exact (decide_eq_false (by omega)).symm
theorem Zi6 (o f : ByteArray) (N at_ : Int) (A V S P : Option Addr) (n v s p c e z d : Nat) (w : World) (hn : n <= 9223372036854775806) (hv : v <= 9223372036854775807) (hs : s <= 9223372036854775807) (hp : p <= 9223372036854775807) :
 Calls Tryz.prog 57 #[.agg #[.int .i64 9, .string o, .string f, .int .i64 N, .slice A n c, .slice V v e, .slice S s z, .slice P p d, .int .i64 at_]] w fun r w' => r = .returned (.bool (decide (n = 0 /\ v = 0 /\ s = 0 /\ p = 1))) /\ Below w.heap.size w w' := by
 go_enter Tryz.func57, Tryz.ntmps57
 go_wp2
 all_goals
  go_ret
  refine ⟨Z03 ?_, Z08 (Z02 _ _) _⟩
  first
  | rfl
  | exact (decide_eq_true (by omega)).symm
  | exact (decide_eq_false (by omega)).symm
theorem Zhx (o f : ByteArray) (N at_ : Int) (A V S P : Option Addr) (n v s p c e z d : Nat) (w : World) (hn : n <= 9223372036854775806) (hv : v <= 9223372036854775807) (hs : s <= 9223372036854775807) (hp : p <= 9223372036854775807) :
 Calls Tryz.prog 57 #[.agg #[.int .i64 10, .string o, .string f, .int .i64 N, .slice A n c, .slice V v e, .slice S s z, .slice P p d, .int .i64 at_]] w fun r w' => r = .returned (.bool (decide (n = 0 /\ v = 0 /\ s = 0 /\ p = 1))) /\ Below w.heap.size w w' := by
 go_enter Tryz.func57, Tryz.ntmps57
 go_wp2
 all_goals
  go_ret
  refine ⟨Z03 ?_, Z08 (Z02 _ _) _⟩
  first
  | rfl
  | exact (decide_eq_true (by omega)).symm
  | exact (decide_eq_false (by omega)).symm
theorem Zhy (o f : ByteArray) (N at_ : Int) (A V S P : Option Addr) (n v s p c e z d : Nat) (w : World) (hn : n <= 9223372036854775806) (hv : v <= 9223372036854775807) (hs : s <= 9223372036854775807) (hp : p <= 9223372036854775807) :
 Calls Tryz.prog 57 #[.agg #[.int .i64 11, .string o, .string f, .int .i64 N, .slice A n c, .slice V v e, .slice S s z, .slice P p d, .int .i64 at_]] w fun r w' => r = .returned (.bool (decide (n = 0 /\ v = 0 /\ s = 1))) /\ Below w.heap.size w w' := by
 go_enter Tryz.func57, Tryz.ntmps57
 go_wp2
 all_goals
  go_ret
  refine ⟨Z03 ?_, Z08 (Z02 _ _) _⟩
  first
  | rfl
  | exact (decide_eq_true (by omega)).symm
  | exact (decide_eq_false (by omega)).symm
theorem Zhz (o f : ByteArray) (N at_ : Int) (A V S P : Option Addr) (n v s p c e z d : Nat) (w : World) (hn : n <= 9223372036854775806) (hv : v <= 9223372036854775807) (hs : s <= 9223372036854775807) (hp : p <= 9223372036854775807) :
 Calls Tryz.prog 57 #[.agg #[.int .i64 12, .string o, .string f, .int .i64 N, .slice A n c, .slice V v e, .slice S s z, .slice P p d, .int .i64 at_]] w fun r w' => r = .returned (.bool (decide (n = 0 /\ v = 0 /\ s = 1 /\ p = 3))) /\ Below w.heap.size w w' := by
 go_enter Tryz.func57, Tryz.ntmps57
 go_wp2
 all_goals
  go_ret
  refine ⟨Z03 ?_, Z08 (Z02 _ _) _⟩
  first
  | rfl
  | exact (decide_eq_true (by omega)).symm
  | exact (decide_eq_false (by omega)).symm
theorem ZhA (o f : ByteArray) (N at_ : Int) (A V S P : Option Addr) (n v s p c e z d : Nat) (w : World) (hn : n <= 9223372036854775806) (hv : v <= 9223372036854775807) (hs : s <= 9223372036854775807) (hp : p <= 9223372036854775807) :
 Calls Tryz.prog 57 #[.agg #[.int .i64 13, .string o, .string f, .int .i64 N, .slice A n c, .slice V v e, .slice S s z, .slice P p d, .int .i64 at_]] w fun r w' => r = .returned (.bool (decide (v = n /\ s = n + 1 /\ p = n + 1))) /\ Below w.heap.size w w' := by
 go_enter Tryz.func57, Tryz.ntmps57
 go_wp2
 all_goals
  go_ret
  refine ⟨Z03 ?_, Z08 (Z02 _ _) _⟩
  first
  | rfl
  | exact (decide_eq_true (by omega)).symm
  | exact (decide_eq_false (by omega)).symm
theorem ZhB (o f : ByteArray) (N at_ : Int) (A V S P : Option Addr) (n v s p c e z d : Nat) (w : World) (hn : n <= 9223372036854775806) (hv : v <= 9223372036854775807) (hs : s <= 9223372036854775807) (hp : p <= 9223372036854775807) :
 Calls Tryz.prog 57 #[.agg #[.int .i64 14, .string o, .string f, .int .i64 N, .slice A n c, .slice V v e, .slice S s z, .slice P p d, .int .i64 at_]] w fun r w' => r = .returned (.bool (decide (n = 0 /\ v = 0 /\ s = 0 /\ p = 2))) /\ Below w.heap.size w w' := by
 go_enter Tryz.func57, Tryz.ntmps57
 go_wp2
 all_goals
  go_ret
  refine ⟨Z03 ?_, Z08 (Z02 _ _) _⟩
  first
  | rfl
  | exact (decide_eq_true (by omega)).symm
  | exact (decide_eq_false (by omega)).symm
theorem ZhC (o f : ByteArray) (N at_ : Int) (A V S P : Option Addr) (n v s p c e z d : Nat) (w : World) (hn : n <= 9223372036854775806) (hv : v <= 9223372036854775807) (hs : s <= 9223372036854775807) (hp : p <= 9223372036854775807) :
 Calls Tryz.prog 57 #[.agg #[.int .i64 15, .string o, .string f, .int .i64 N, .slice A n c, .slice V v e, .slice S s z, .slice P p d, .int .i64 at_]] w fun r w' => r = .returned (.bool (decide (n = 0 /\ v = 0 /\ s = 1 /\ p = 1))) /\ Below w.heap.size w w' := by
 go_enter Tryz.func57, Tryz.ntmps57
 go_wp2
 all_goals
  go_ret
  refine ⟨Z03 ?_, Z08 (Z02 _ _) _⟩
  first
  | rfl
  | exact (decide_eq_true (by omega)).symm
  | exact (decide_eq_false (by omega)).symm
theorem ZhD (o f : ByteArray) (N at_ : Int) (A V S P : Option Addr) (n v s p c e z d : Nat) (w : World) (hn : n <= 9223372036854775806) (hv : v <= 9223372036854775807) (hs : s <= 9223372036854775807) (hp : p <= 9223372036854775807) :
 Calls Tryz.prog 57 #[.agg #[.int .i64 16, .string o, .string f, .int .i64 N, .slice A n c, .slice V v e, .slice S s z, .slice P p d, .int .i64 at_]] w fun r w' => r = .returned (.bool (decide (n = 0 /\ v = 0 /\ s = 0 /\ p = 1))) /\ Below w.heap.size w w' := by
 go_enter Tryz.func57, Tryz.ntmps57
 go_wp2
 all_goals
  go_ret
  refine ⟨Z03 ?_, Z08 (Z02 _ _) _⟩
  first
  | rfl
  | exact (decide_eq_true (by omega)).symm
  | exact (decide_eq_false (by omega)).symm
theorem ZhE (o f : ByteArray) (N at_ : Int) (A V S P : Option Addr) (n v s p c e z d : Nat) (w : World) (hn : n <= 9223372036854775806) (hv : v <= 9223372036854775807) (hs : s <= 9223372036854775807) (hp : p <= 9223372036854775807) :
 Calls Tryz.prog 57 #[.agg #[.int .i64 17, .string o, .string f, .int .i64 N, .slice A n c, .slice V v e, .slice S s z, .slice P p d, .int .i64 at_]] w fun r w' => r = .returned (.bool (decide (n = 0 /\ v = 0 /\ s = 0 /\ p = 1))) /\ Below w.heap.size w w' := by
 go_enter Tryz.func57, Tryz.ntmps57
 go_wp2
 all_goals
  go_ret
  refine ⟨Z03 ?_, Z08 (Z02 _ _) _⟩
  first
  | rfl
  | exact (decide_eq_true (by omega)).symm
  | exact (decide_eq_false (by omega)).symm
theorem ZhF (k : Int) (o f : ByteArray) (N at_ : Int) (A V S P : Option Addr) (n v s p c e z d : Nat) (w : World) (hk : k < 1 \/ 17 < k) (hn : n <= 9223372036854775806) (hv : v <= 9223372036854775807) (hs : s <= 9223372036854775807) (hp : p <= 9223372036854775807) :
 Calls Tryz.prog 57 #[.agg #[.int .i64 k, .string o, .string f, .int .i64 N, .slice A n c, .slice V v e, .slice S s z, .slice P p d, .int .i64 at_]] w fun r w' => r = .returned (.bool false) /\ Below w.heap.size w w' := by
 have e1 : (k == 1) = false := by simp; omega
 have e2 : (k == 2) = false := by simp; omega
 have e3 : (k == 3) = false := by simp; omega
 have e4 : (k == 4) = false := by simp; omega
 have e5 : (k == 5) = false := by simp; omega
 have e6 : (k == 6) = false := by simp; omega
 have e7 : (k == 7) = false := by simp; omega
 have e8 : (k == 8) = false := by simp; omega
 have e9 : (k == 9) = false := by simp; omega
 have e10 : (k == 10) = false := by simp; omega
 have e11 : (k == 11) = false := by simp; omega
 have e12 : (k == 12) = false := by simp; omega
 have e13 : (k == 13) = false := by simp; omega
 have e14 : (k == 14) = false := by simp; omega
 have e15 : (k == 15) = false := by simp; omega
 have e16 : (k == 16) = false := by simp; omega
 have e17 : (k == 17) = false := by simp; omega
 clear hk
 go_enter Tryz.func57, Tryz.ntmps57
 go_wp2
 go_ret
 exact ⟨rfl, Z08 (Z02 _ _) _⟩
end Go.Proofs.YtnkdedejfonbmaaGreatDoor
