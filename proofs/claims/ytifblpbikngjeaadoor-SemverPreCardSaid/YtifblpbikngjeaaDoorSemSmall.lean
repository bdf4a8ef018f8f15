/- The document's small functions of layer 4: order, texts, nonzero, digits, part, Digits. -/
import Derived.Test.YtifblpbikngjeaaDoorSemMath
import Derived.Test.YtifblpbikngjeaaDoorBase
import Derived.Test.YtifblpbikngjeaaDoorText
import Derived.WalkKit
import Derived.Below
import Derived.Lib.Hide
import Derived.Laws.Cover1
namespace Go.Proofs.YtifblpbikngjeaaDoor
open Go.RowKit
set_option linter.unusedVariables false

def ord (a b : Int) : Int := if a < b then -1 else if b < a then 1 else 0

theorem order_walk (a b : Int) (w : World) :
    Calls Tryd.prog 36 #[.int .i64 a, .int .i64 b] w fun e w' => e = .returned (.int .i64 (ord a b)) ∧ w = w' := by
  unfold ord
  by_cases h : a < b
  · rw [if_pos h]
    go_enter Tryd.func36, Tryd.ntmps36
    go_wp2
    go_ret
    exact ⟨rfl, rfl⟩
  · rw [if_neg h]
    by_cases h2 : b < a
    · rw [if_pos h2]
      go_enter Tryd.func36, Tryd.ntmps36
      go_wp2
      go_ret
      exact ⟨rfl, rfl⟩
    · rw [if_neg h2]
      go_enter Tryd.func36, Tryd.ntmps36
      go_wp2
      go_ret
      exact ⟨rfl, rfl⟩

theorem less_eq : ∀ (x y : List UInt8), Op.bytesLess x y = decide (x < y)
  | x, [] => by simp [Op.bytesLess]
  | [], _ :: _ => by simp [Op.bytesLess]
  | a :: x, b :: y => by
    rw [Op.bytesLess, less_eq x y, Bool.eq_iff_iff]
    simp [List.cons_lt_cons_iff]

theorem texts_walk (a b : ByteArray) (w : World) :
    Calls Tryd.prog 52 #[.string a, .string b] w fun e w' => e = .returned (.int .i64 (Sem.three a.data.toList b.data.toList)) ∧ w = w' := by
  unfold Sem.three
  have h0 := less_eq a.toList b.toList
  rw [tx_list, tx_list] at h0
  by_cases h : a.data.toList < b.data.toList
  · rw [if_pos h]
    have h1 : Op.bytesLess a.toList b.toList = true := by rw [tx_list, tx_list, h0]; exact decide_eq_true h
    clear h h0
    go_enter Tryd.func52, Tryd.ntmps52
    go_wp2
    go_ret
    exact ⟨rfl, rfl⟩
  · rw [if_neg h]
    have h1 : Op.bytesLess a.toList b.toList = false := by rw [tx_list, tx_list, h0]; exact decide_eq_false h
    by_cases h2 : b.data.toList < a.data.toList
    · rw [if_pos h2]
      have h3 : (a.toList == b.toList) = false := by
        rw [tx_list, tx_list, beq_eq_false_iff_ne]
        intro h4
        rw [h4] at h2
        exact List.lt_irrefl _ h2
      clear h h2 h0
      go_enter Tryd.func52, Tryd.ntmps52
      go_wp2
      go_ret
      exact ⟨rfl, rfl⟩
    · rw [if_neg h2]
      have h3 : (a.toList == b.toList) = true := by
        rw [tx_list, tx_list, beq_iff_eq]
        exact List.le_antisymm (List.not_lt.1 h2) (List.not_lt.1 h)
      clear h h2 h0
      go_enter Tryd.func52, Tryd.ntmps52
      go_wp2
      go_ret
      exact ⟨rfl, rfl⟩

/-- 0 of two empty texts. -/
def nz (a b : List UInt8) : Int := if a = [] ∧ b = [] then 0 else 1

theorem nonzero_walk (a b : ByteArray) (w : World) :
    Calls Tryd.prog 37 #[.string a, .string b] w fun e w' => e = .returned (.int .i64 (nz a.data.toList b.data.toList)) ∧ w = w' := by
  unfold nz
  have ha : a.toList.isEmpty = a.data.toList.isEmpty := by rw [tx_list]
  have hb : b.toList.isEmpty = b.data.toList.isEmpty := by rw [tx_list]
  by_cases h1 : a.data.toList = []
  · have h3 : a.toList.isEmpty = true := by rw [ha, h1]; rfl
    by_cases h2 : b.data.toList = []
    · have h4 : b.toList.isEmpty = true := by rw [hb, h2]; rfl
      rw [if_pos ⟨h1, h2⟩]
      clear h1 h2 ha hb
      go_enter Tryd.func37, Tryd.ntmps37
      go_wp2
      go_ret
      exact ⟨rfl, rfl⟩
    · have h4 : b.toList.isEmpty = false := by rw [hb]; simpa using h2
      rw [if_neg (fun h => h2 h.2)]
      clear h1 h2 ha hb
      go_enter Tryd.func37, Tryd.ntmps37
      go_wp2
      go_ret
      exact ⟨rfl, rfl⟩
  · have h3 : a.toList.isEmpty = false := by rw [ha]; simpa using h1
    rw [if_neg (fun h => h1 h.1)]
    clear h1 ha hb
    go_enter Tryd.func37, Tryd.ntmps37
    go_wp2
    go_ret
    exact ⟨rfl, rfl⟩

/-- The first k bytes are digits. -/
theorem all_dig_next {s : ByteArray} {k : Nat} (h : k < s.size) : (s.data.toList.take (k + 1)).all Sem.dig = ((s.data.toList.take k).all Sem.dig && Sem.dig (s[k]'h)) := by
  rw [List.take_succ_eq_append_getElem (by rw [← Lib.size_eq]; exact h), List.all_append]
  simp
  rfl

set_option maxRecDepth 100000 in
theorem digits_walk (s : ByteArray) (hs : s.size ≤ 9223372036854775807) (w : World) :
    Calls Tryd.prog 49 #[.string s] w fun e w' => e = .returned (.bool (Sem.digits s.data.toList)) ∧ w = w' := by
  go_enter Tryd.func49, Tryd.ntmps49
  go_wp2_with fail
  go_loop [3] (fun i => ∃ k : Nat, i = .int .i64 k ∧ k ≤ s.size ∧ Hid ((s.data.toList.take k).all Sem.dig = true)) (fun i => s.size - (intOf i).toNat)
  case atStart => exact ⟨0, rfl, Nat.zero_le _, Lib.hid rfl⟩
  case round =>
    obtain ⟨k, rfl, hk, HP⟩ := hrel
    by_cases hlt : k < s.size
    · have hb := (s[k]'hlt).toNat_lt
      by_cases h1 : (s[k]'hlt).toNat < 48
      · have HN : Hid (Sem.digits s.data.toList = false) := Lib.hid (by
          unfold Sem.digits
          rw [Bool.and_eq_false_iff]; right
          rw [List.all_eq_false]
          exact ⟨s[k]'hlt, by rw [show s[k]'hlt = s.data.toList[k]'(by rw [← Lib.size_eq]; exact hlt) from rfl]; exact List.getElem_mem _, by simp [Sem.dig]; omega⟩)
        go_wp2
        go_ret
        exact ⟨by rw [HN.out]; rfl, rfl⟩
      · by_cases h2 : 57 < (s[k]'hlt).toNat
        · have HN : Hid (Sem.digits s.data.toList = false) := Lib.hid (by
            unfold Sem.digits
            rw [Bool.and_eq_false_iff]; right
            rw [List.all_eq_false]
            exact ⟨s[k]'hlt, by rw [show s[k]'hlt = s.data.toList[k]'(by rw [← Lib.size_eq]; exact hlt) from rfl]; exact List.getElem_mem _, by simp [Sem.dig]; omega⟩)
          go_wp2
          go_ret
          exact ⟨by rw [HN.out]; rfl, rfl⟩
        · have HN : Hid ((s.data.toList.take (k + 1)).all Sem.dig = true) := Lib.hid (by rw [all_dig_next hlt, HP.out]; simp [Sem.dig]; omega)
          go_wp2
          go_round
          case rel => exact ⟨k + 1, by go_num, by omega, HN⟩
          case measure => simp [intOf]; omega
    · have hall : s.data.toList.all Sem.dig = true := by have := HP.out; rwa [List.take_of_length_le (by rw [← Lib.size_eq]; omega)] at this
      have HN : Hid (Sem.digits s.data.toList = !s.toList.isEmpty) := Lib.hid (by unfold Sem.digits; rw [hall, Bool.and_true, tx_list])
      clear hall
      go_wp2
      go_ret
      exact ⟨by rw [HN.out]; rfl, rfl⟩
end Go.Proofs.YtifblpbikngjeaaDoor
