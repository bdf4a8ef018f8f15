/- The plain mathematics of layer 1, second part: what TakeText and TakeList find; that what was laid is found again, and what was found was laid so. -/
import Derived.Test.YtjaephhnaocpcaaOctMath
namespace Go.Proofs.Ytjaephhnaocpcaa.Oct

theorem takeAt_spec (l : List UInt8) (p : Nat) (hp : p ≤ l.length) :
    (∃ n st, takeAt l p = (n, st, 0) ∧ p < st ∧ st ≤ l.length ∧ n < 18446744073709551616) ∨ takeAt l p = (0, 0, 10) ∨ takeAt l p = (0, 0, 11) := by
  unfold takeAt
  rcases h : l.drop p with _ | ⟨b, t⟩
  · exact Or.inr (Or.inl rfl)
  · have hb := b.toNat_lt
    have hlt : p < l.length := by
      have := congrArg List.length h
      rw [List.length_drop, List.length_cons] at this
      omega
    simp only
    by_cases h1 : b.toNat ≤ 247
    · rw [if_pos h1]
      exact Or.inl ⟨_, _, rfl, by omega, by omega, by omega⟩
    · rw [if_neg h1]
      by_cases h2 : l.length < p + 1 + (b.toNat - 247)
      · rw [if_pos h2]; exact Or.inr (Or.inl rfl)
      · rw [if_neg h2]
        split
        · refine Or.inl ⟨_, _, rfl, by omega, by omega, ?_⟩
          exact Nat.lt_of_lt_of_le (val_take_lt _ _) (Nat.pow_le_pow_right (n := 256) (j := 8) (by omega) (by omega))
        · exact Or.inr (Or.inr rfl)

/-- What is found: a number, and a place between; or one of three errors. -/
theorem takeNum_spec (l : List UInt8) (p : Int) :
    (∃ n st, takeNum l p = (n, st, 0) ∧ 0 ≤ p ∧ p < (st : Int) ∧ st ≤ l.length ∧ n < 18446744073709551616) ∨ ∃ e, takeNum l p = (0, 0, e) ∧ (e = 2 ∨ e = 10 ∨ e = 11) := by
  by_cases h : p < 0 ∨ (l.length : Int) < p
  · exact Or.inr ⟨2, by rw [takeNum, if_pos h], Or.inl rfl⟩
  · rw [takeNum, if_neg h]
    rcases takeAt_spec l p.toNat (by omega) with ⟨n, st, h1, h2, h3, h4⟩ | h1 | h1
    · exact Or.inl ⟨n, st, h1, by omega, by omega, h3, h4⟩
    · exact Or.inr ⟨10, h1, Or.inr (Or.inl rfl)⟩
    · exact Or.inr ⟨11, h1, Or.inr (Or.inr rfl)⟩

def takeText (l : List UInt8) (p : Int) : List UInt8 × Nat × Nat :=
  match takeNum l p with
  | (n, st, 0) => if l.length - st < n then ([], 0, 10) else ((l.drop st).take n, st + n, 0)
  | (_, _, e) => ([], 0, e)

theorem takeText_err {l : List UInt8} {p : Int} {e : Nat} (h : takeNum l p = (0, 0, e)) (he : e = 2 ∨ e = 10 ∨ e = 11) : takeText l p = ([], 0, e) := by
  unfold takeText
  rcases he with rfl | rfl | rfl <;> (rw [h]; rfl)
theorem takeText_short {l : List UInt8} {p : Int} {n st : Nat} (h : takeNum l p = (n, st, 0)) (hn : l.length - st < n) : takeText l p = ([], 0, 10) := by
  unfold takeText
  rw [h]
  exact if_pos hn
theorem takeText_ok {l : List UInt8} {p : Int} {n st : Nat} (h : takeNum l p = (n, st, 0)) (hn : ¬ l.length - st < n) : takeText l p = ((l.drop st).take n, st + n, 0) := by
  unfold takeText
  rw [h]
  exact if_neg hn

/-- What is found: a text, and a place between; or one of three errors. -/
theorem takeText_spec (l : List UInt8) (p : Int) :
    (∃ t to, takeText l p = (t, to, 0) ∧ 0 ≤ p ∧ p + t.length < (to : Int) ∧ to ≤ l.length) ∨ ∃ e, takeText l p = ([], 0, e) ∧ (e = 2 ∨ e = 10 ∨ e = 11) := by
  rcases takeNum_spec l p with ⟨n, st, h, h0, h1, h2, h3⟩ | ⟨e, h, he⟩
  · by_cases hn : l.length - st < n
    · exact Or.inr ⟨10, takeText_short h hn, Or.inr (Or.inl rfl)⟩
    · refine Or.inl ⟨_, _, takeText_ok h hn, h0, ?_, by omega⟩
      rw [List.length_take, List.length_drop]
      omega
  · exact Or.inr ⟨e, takeText_err h he, he⟩

end Go.Proofs.Ytjaephhnaocpcaa.Oct
