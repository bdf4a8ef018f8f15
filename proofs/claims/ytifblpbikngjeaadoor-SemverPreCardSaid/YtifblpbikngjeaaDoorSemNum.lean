/- Mathematics of layer 4: numbers without 0s ahead; cutting at a byte; a version's text cut in its pieces. -/
import Derived.Test.YtifblpbikngjeaaDoorSemOrd
namespace Sem

/-- Without the 0s ahead. -/
def trim (l : List UInt8) : List UInt8 := l.dropWhile (· == 48)

theorem trim_num : ∀ l : List UInt8, num (trim l) = num l
  | [] => rfl
  | c :: r => by
    unfold trim
    rw [List.dropWhile_cons]
    by_cases h : (c == 48) = true
    · rw [if_pos h]
      obtain rfl : c = 48 := by simpa using h
      rw [num_zero]; exact trim_num r
    · rw [if_neg h]

theorem trim_mem {l : List UInt8} {c : UInt8} (h : c ∈ trim l) : c ∈ l := (List.dropWhile_sublist _).mem h

theorem trim_low {l : List UInt8} (hl : ∀ c ∈ l, 48 ≤ c.toNat ∧ c.toNat ≤ 57) : trim l = [] ∨ 10 ^ ((trim l).length - 1) ≤ num (trim l) := by
  rcases h : trim l with _ | ⟨c, r⟩
  · exact Or.inl rfl
  · right
    have hc : ¬ (c == 48) = true := by
      have := List.head?_dropWhile_not (· == (48 : UInt8)) l
      rw [show l.dropWhile (· == 48) = c :: r from h] at this
      simpa using this
    have hcm := hl c (trim_mem (l := l) (by rw [h]; simp))
    have h48 : c.toNat ≠ 48 := fun h' => hc (by rw [beq_iff_eq]; exact UInt8.toNat_inj.1 h')
    rw [num_cons, List.length_cons, Nat.add_sub_cancel]
    have : 1 * 10 ^ r.length ≤ (c.toNat - 48) * 10 ^ r.length := Nat.mul_le_mul_right _ (by omega)
    omega

theorem trim_short {a b : List UInt8} (ha : ∀ c ∈ a, 48 ≤ c.toNat ∧ c.toNat ≤ 57) (hb : ∀ c ∈ b, 48 ≤ c.toNat ∧ c.toNat ≤ 57) (h : (trim a).length < (trim b).length) : num a < num b := by
  have h1 := num_lt (trim a) (fun c hc => ha c (trim_mem hc))
  rcases trim_low hb with h2 | h2
  · rw [h2] at h; simp at h
  · have h3 := Nat.pow_le_pow_right (n := 10) (by omega) (show (trim a).length ≤ (trim b).length - 1 by omega)
    rw [← trim_num a, ← trim_num b]; omega

/-- Two parts of digits: by their lengths without the 0s ahead, then byte by byte. -/
theorem cmpPart_trim {a b : List UInt8} (ha : digits a = true) (hb : digits b = true) :
    cmpPart a b = if (trim a).length < (trim b).length then -1 else if (trim b).length < (trim a).length then 1 else three (trim a) (trim b) := by
  have h1 := digits_all ha
  have h2 := digits_all hb
  have e : cmpPart a b = three (num a) (num b) := by
    unfold cmpPart partKey
    rw [ha, hb, if_pos rfl, if_pos rfl, three_cons irrI, if_pos rfl]
    refine three_congr ?_ ?_ <;> rw [List.cons_lt_cons_iff] <;> simp
  rw [e]
  by_cases c1 : (trim a).length < (trim b).length
  · have := trim_short h1 h2 c1
    rw [if_pos c1]; unfold three; rw [if_pos this]
  · rw [if_neg c1]
    by_cases c2 : (trim b).length < (trim a).length
    · have := trim_short h2 h1 c2
      rw [if_pos c2]; unfold three; rw [if_neg (by omega), if_pos this]
    · rw [if_neg c2]
      have hl : (trim a).length = (trim b).length := by omega
      refine (three_congr ?_ ?_).symm
      · rw [num_order _ _ hl (fun c hc => h1 c (trim_mem hc)) (fun c hc => h2 c (trim_mem hc)), trim_num, trim_num]
      · rw [num_order _ _ hl.symm (fun c hc => h2 c (trim_mem hc)) (fun c hc => h1 c (trim_mem hc)), trim_num, trim_num]

/-- A part that is the same. -/
theorem cmpParts_same : ∀ l : List (List UInt8), cmpParts l l = 0
  | [] => rfl
  | a :: l => by
    have h : cmpPart a a = 0 := three_same (irrL _)
    rw [cmpParts, if_pos h, cmpParts_same l]

/-- Cut at the first such byte: what stands ahead of it, what stands behind it, and is there one? -/
def cut (c : UInt8) : List UInt8 → List UInt8 × List UInt8 × Bool
  | [] => ([], [], false)
  | d :: r => if d = c then ([], r, true) else (d :: (cut c r).1, (cut c r).2.1, (cut c r).2.2)

theorem cut_no {c : UInt8} : ∀ {l : List UInt8}, (∀ d ∈ l, d ≠ c) → cut c l = (l, [], false)
  | [], _ => rfl
  | d :: r, h => by rw [cut, if_neg (h d (by simp)), cut_no (fun e he => h e (by simp [he]))]

theorem cut_at {c : UInt8} : ∀ {p : List UInt8} (q : List UInt8), (∀ d ∈ p, d ≠ c) → cut c (p ++ c :: q) = (p, q, true)
  | [], q, _ => by rw [List.nil_append, cut, if_pos rfl]
  | d :: r, q, h => by rw [List.cons_append, cut, if_neg (h d (by simp)), cut_at q (fun e he => h e (by simp [he]))]

/-- Cut at dots, part by part. -/
theorem parts_cut (l : List UInt8) : parts l = if (cut 46 l).2.2 = true then (cut 46 l).1 :: parts (cut 46 l).2.1 else [l] := by
  induction l with
  | nil => rfl
  | cons d r ih =>
    by_cases h : d = 46
    · subst h; rw [parts_dot, cut, if_pos rfl]; rfl
    · rw [cut, if_neg h]
      simp only
      rcases hp : parts r with _ | ⟨p, ps⟩
      · exact absurd hp (parts_ne r)
      · rw [parts_cons h hp]
        rw [hp] at ih
        by_cases hc : (cut 46 r).2.2 = true
        · rw [if_pos hc] at ih ⊢
          simp only [List.cons.injEq] at ih
          rw [ih.1, ih.2]
        · rw [if_neg hc] at ih ⊢
          simp only [List.cons.injEq] at ih
          rw [ih.1, ih.2]

theorem cut_len (c : UInt8) : ∀ l : List UInt8, (cut c l).1.length ≤ l.length ∧ (cut c l).2.1.length ≤ l.length ∧ ((cut c l).2.2 = true → (cut c l).2.1.length < l.length)
  | [] => by simp [cut]
  | d :: r => by
    obtain ⟨h1, h2, h3⟩ := cut_len c r
    rw [cut]
    split
    · simp
    · simp only [List.length_cons]
      exact ⟨by omega, by omega, fun h => by have := h3 h; omega⟩

theorem cut_first (c : UInt8) : ∀ l : List UInt8, ¬ (cut c l).2.2 = true → (cut c l).1 = l
  | [], _ => rfl
  | d :: r, h => by
    rw [cut] at h ⊢
    split at h
    · exact absurd rfl h
    · rename_i hd
      rw [if_neg hd]
      simp only at h ⊢
      rw [cut_first c r h]

theorem cut_miss (c : UInt8) : ∀ l : List UInt8, ¬ (cut c l).2.2 = true → (cut c l).2.1 = []
  | [], _ => rfl
  | d :: r, h => by
    rw [cut] at h ⊢
    split at h
    · exact absurd rfl h
    · rename_i hd
      rw [if_neg hd]
      exact cut_miss c r h

end Sem
