/- strings.Cut at one byte, for every text. -/
import Derived.Test.YtifblpbikngjeaaDoorShelfSem
import Derived.Test.YtifblpbikngjeaaDoorSemNum
import Derived.Test.YtifblpbikngjeaaDoorText
import Derived.WalkKit
import Derived.Below
import Derived.Lib.Hide
import Derived.Lib.IndexBytes
import Derived.Lib.CutLaws
import Derived.Shelf.RegionOpenPlain
import Derived.IntWalk
namespace Go.Proofs.YtifblpbikngjeaaDoor
open Go.RowKit
set_option linter.unusedVariables false

theorem lib_cut (c : UInt8) : ∀ l : List UInt8, Lib.cut l [c] = Sem.cut c l
  | [] => by simp [Lib.cut, Lib.index, Sem.cut]
  | d :: r => by
    have ih := lib_cut c r
    have hge := Lib.indexByte_ge r c
    unfold Lib.cut at ih ⊢
    rw [Lib.index_one] at ih ⊢
    rw [Sem.cut]
    unfold Lib.indexByte
    by_cases h : d = c
    · subst h
      simp
    · have hb : (d == c) = false := by simpa using h
      rw [hb, if_neg h]
      simp only [Bool.false_eq_true, if_false]
      by_cases h2 : Lib.indexByte r c = -1
      · rw [h2] at ih ⊢
        simp at ih ⊢
        rw [← ih]
        simp
      · have h3 : (Lib.indexByte r c == -1) = false := by simpa using h2
        rw [h3]
        simp only [Bool.false_eq_true, if_false]
        rw [if_pos (by omega)] at ih
        rw [if_pos (by omega), ← ih]
        have e : (Lib.indexByte r c + 1).toNat = (Lib.indexByte r c).toNat + 1 := by omega
        rw [e]
        simp

/-- What Cut tells. -/
def cutR (c : UInt8) (l : List UInt8) : Value := .tuple #[.string ⟨(Sem.cut c l).1.toArray⟩, .string ⟨(Sem.cut c l).2.1.toArray⟩, .bool (Sem.cut c l).2.2]

set_option maxHeartbeats 2000000 in
set_option maxRecDepth 100000 in
theorem liteCut_walk (s : ByteArray) (c : UInt8) (hs : s.size ≤ 4611686018427387904) (w : World) :
    Calls Tryd.prog 39 #[.string s, .string ⟨#[c]⟩] w fun e w' => e = .returned (cutR c s.data.toList) ∧ Below w.heap.size w w' := by
  have hsz : (⟨#[c]⟩ : ByteArray).size = 1 := rfl
  have hI : ∀ w, Calls Tryd.prog 53 #[.string s, .string ⟨#[c]⟩] w fun e w' => e = .returned (.int .i64 (Lib.indexB s ⟨#[c]⟩)) ∧ w' = w := fun w => by
    have := Any.stringslite_Index_one Tryd.lays219 s c w
    rw [← Lib.index_one] at this
    exact this
  have hc := lib_cut c s.data.toList
  have HC : Hid (cutR c s.data.toList = .tuple #[.string ⟨(Lib.cut s.data.toList (⟨#[c]⟩ : ByteArray).data.toList).1.toArray⟩, .string ⟨(Lib.cut s.data.toList (⟨#[c]⟩ : ByteArray).data.toList).2.1.toArray⟩, .bool (Lib.cut s.data.toList (⟨#[c]⟩ : ByteArray).data.toList).2.2]) := Lib.hid (by
    show _ = Value.tuple #[.string ⟨(Lib.cut s.data.toList [c]).1.toArray⟩, .string ⟨(Lib.cut s.data.toList [c]).2.1.toArray⟩, .bool (Lib.cut s.data.toList [c]).2.2]
    rw [hc]; rfl)
  clear hc
  rcases Lib.indexB_cases s ⟨#[c]⟩ with hix | ⟨i, hix, hroom⟩
  · obtain ⟨e1, e2, e3⟩ := Lib.cutB_miss s ⟨#[c]⟩ hix
    rw [e1, e2, e3] at HC
    rw [hix] at hI
    clear hix e1 e2 e3
    go_enter Tryd.func39, Tryd.ntmps39
    go_wp2_with (go_at_call 53; refine (hI _).mono ?_; rintro e w' ⟨rfl, rfl⟩)
    go_ret3
    exact ⟨by rw [HC.out]; rfl, Below.refl _ _⟩
  · obtain ⟨e1, e2, e3⟩ := Lib.cutB_hit s ⟨#[c]⟩ i hix
    rw [e1, e2, e3] at HC
    rw [hix] at hI
    rw [hsz] at hroom HC
    clear hix e1 e2 e3
    have c1 : (0 : Int) ≤ ↑i := by omega
    have c2 : (↑i : Int) ≤ ↑s.size := by omega
    have c3 : (0 : Int) ≤ ↑i + 1 := by omega
    have c4 : (↑i + 1 : Int) ≤ ↑s.size := by omega
    have hw : IntKind.i64.wrap ((i : Int) + 1) = (i : Int) + 1 := IntWalk.i64_in _ (by omega)
    have mixed : Tryd.prog.follows .mixedOrders = true := by kernel_rfl
    go_enter Tryd.func39, Tryd.ntmps39
    go_wp2_with (go_at_call 53; refine (hI _).mono ?_; rintro e w' ⟨rfl, rfl⟩)
    go_region
    go_wp2
    go_ret3
    exact ⟨by rw [HC.out]; rfl, below_drewN (Below.refl _ _) _⟩

theorem cut_walk (s : ByteArray) (c : UInt8) (hs : s.size ≤ 4611686018427387904) (w : World) :
    Calls Tryd.prog 23 #[.string s, .string ⟨#[c]⟩] w fun e w' => e = .returned (cutR c s.data.toList) ∧ Below w.heap.size w w' := by
  have hI := liteCut_walk s c hs
  unfold cutR at hI ⊢
  go_enter Tryd.func23, Tryd.ntmps23
  go_wp2_with (go_at_call 39; refine (hI _).mono ?_; rintro e w' ⟨rfl, hb⟩)
  go_ret3
  exact ⟨rfl, by assumption⟩
end Go.Proofs.YtifblpbikngjeaaDoor
