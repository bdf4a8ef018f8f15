/- The plain mathematics of layer 1, fourth part: what TakeList finds. -/
import Derived.Test.YtjaephhnaocpcaaOctMath2
namespace Go.Proofs.Ytjaephhnaocpcaa.Oct

def takeTexts (l : List UInt8) : Nat → Int → List ByteArray → List ByteArray × Nat × Nat
  | 0, p, acc => (acc, p.toNat, 0)
  | n + 1, p, acc =>
    match takeText l p with
    | (t, to, 0) => takeTexts l n to (acc ++ [⟨t.toArray⟩])
    | (_, _, e) => ([], 0, e)

def takeList (l : List UInt8) (p : Int) : List ByteArray × Nat × Nat :=
  match takeNum l p with
  | (n, st, 0) => takeTexts l n st []
  | (_, _, e) => ([], 0, e)

theorem takeTexts_zero (l : List UInt8) (p : Int) (acc : List ByteArray) : takeTexts l 0 p acc = (acc, p.toNat, 0) := rfl
theorem takeTexts_ok {l : List UInt8} {n : Nat} {p : Int} {acc : List ByteArray} {t : List UInt8} {to : Nat} (h : takeText l p = (t, to, 0)) : takeTexts l (n + 1) p acc = takeTexts l n to (acc ++ [⟨t.toArray⟩]) := by
  rw [takeTexts, h]
  rfl
theorem takeTexts_err {l : List UInt8} {n : Nat} {p : Int} {acc : List ByteArray} {e : Nat} (h : takeText l p = ([], 0, e)) (he : e = 2 ∨ e = 10 ∨ e = 11) : takeTexts l (n + 1) p acc = ([], 0, e) := by
  rw [takeTexts, h]
  rcases he with rfl | rfl | rfl <;> rfl
theorem takeList_err {l : List UInt8} {p : Int} {e : Nat} (h : takeNum l p = (0, 0, e)) (he : e = 2 ∨ e = 10 ∨ e = 11) : takeList l p = ([], 0, e) := by
  rw [takeList, h]
  rcases he with rfl | rfl | rfl <;> rfl
theorem takeList_in {l : List UInt8} {p : Int} {n st : Nat} (h : takeNum l p = (n, st, 0)) : takeList l p = takeTexts l n st [] := by
  rw [takeList, h]
  rfl
end Go.Proofs.Ytjaephhnaocpcaa.Oct
