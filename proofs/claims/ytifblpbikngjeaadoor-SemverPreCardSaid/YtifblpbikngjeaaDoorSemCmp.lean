/- The document's comparison of two parts. -/
import Derived.Test.YtifblpbikngjeaaDoorSemOrd
import Derived.Test.YtifblpbikngjeaaDoorSemSmall
namespace Go.Proofs.YtifblpbikngjeaaDoor
open Go.RowKit
set_option linter.unusedVariables false

/-- So many 0s ahead. -/
def padB (k : Nat) (l : List UInt8) : List UInt8 := List.replicate k 48 ++ l
theorem padB_len (k : Nat) (l : List UInt8) : (padB k l).length = k + l.length := by simp [padB]
theorem padB_next (k : Nat) (l : List UInt8) : (⟨#[48]⟩ : ByteArray) ++ ⟨(padB k l).toArray⟩ = ⟨(padB (k + 1) l).toArray⟩ := by
  have := tx_append [48] (padB k l)
  rw [show [48] ++ padB k l = padB (k + 1) l from by simp [padB, List.replicate_succ]] at this
  exact this

set_option maxRecDepth 100000 in
set_option maxHeartbeats 1000000 in
theorem rparts_walk (a b : List UInt8) (ha : a.length ≤ 1000000) (hb : b.length ≤ 1000000) (w : World) :
    Calls Tryd.prog 38 #[.string ⟨a.toArray⟩, .string ⟨b.toArray⟩] w fun e w' => e = .returned (.int .i64 (Sem.cmpPart a b)) ∧ w = w' := by
  have da : ∀ w, Calls Tryd.prog 49 #[.string ⟨a.toArray⟩] w fun e w' => e = .returned (.bool (Sem.digits a)) ∧ w = w' := fun w => digits_walk ⟨a.toArray⟩ (by rw [size_list]; omega) w
  have db : ∀ w, Calls Tryd.prog 49 #[.string ⟨b.toArray⟩] w fun e w' => e = .returned (.bool (Sem.digits b)) ∧ w = w' := fun w => digits_walk ⟨b.toArray⟩ (by rw [size_list]; omega) w
  have DA := Lib.hid da
  have DB := Lib.hid db
  clear da db
  cases hda : Sem.digits a
  · cases hdb : Sem.digits b
    · rw [Sem.cmpPart_nn hda hdb]
      go_enter Tryd.func38, Tryd.ntmps38
      go_wp2_with fail
      refine (DA.out _).mono ?_
      rintro e w' ⟨rfl, rfl⟩
      go_wp2_with fail
      refine (DB.out _).mono ?_
      rintro e w' ⟨rfl, rfl⟩
      go_wp2_with fail
      refine (texts_walk _ _ _).mono ?_
      rintro e w' ⟨rfl, rfl⟩
      go_wp2
      go_ret
      exact ⟨rfl, rfl⟩
    · rw [Sem.cmpPart_nd hda hdb]
      go_enter Tryd.func38, Tryd.ntmps38
      go_wp2_with fail
      refine (DA.out _).mono ?_
      rintro e w' ⟨rfl, rfl⟩
      go_wp2_with fail
      refine (DB.out _).mono ?_
      rintro e w' ⟨rfl, rfl⟩
      go_wp2
      go_ret
      exact ⟨rfl, rfl⟩
  · cases hdb : Sem.digits b
    · rw [Sem.cmpPart_dn hda hdb]
      go_enter Tryd.func38, Tryd.ntmps38
      go_wp2_with fail
      refine (DA.out _).mono ?_
      rintro e w' ⟨rfl, rfl⟩
      go_wp2_with fail
      refine (DB.out _).mono ?_
      rintro e w' ⟨rfl, rfl⟩
      go_wp2
      go_ret
      exact ⟨rfl, rfl⟩
    · have HD := Lib.hid (fun j k => Sem.cmpPart_dd hda hdb j k)
      go_enter Tryd.func38, Tryd.ntmps38
      go_wp2_with fail
      refine (DA.out _).mono ?_
      rintro e w' ⟨rfl, rfl⟩
      go_wp2_with fail
      refine (DB.out _).mono ?_
      rintro e w' ⟨rfl, rfl⟩
      go_wp2_with fail
      clear hda hdb
      go_loop [0] (fun x => ∃ j : Nat, x = .string ⟨(padB j a).toArray⟩ ∧ (j = 0 ∨ j + a.length ≤ b.length)) (fun x => match x with | .string s => 1000001 - s.size | _ => 0)
      case atStart => exact ⟨0, rfl, Or.inl rfl⟩
      case round =>
        obtain ⟨j, rfl, hj⟩ := hrel
        have hpl := padB_len j a
        by_cases hlt : j + a.length < b.length
        · go_wp2
          refine ⟨⟨j + 1, congrArg Value.string (padB_next j a), Or.inr (by omega)⟩, ?_⟩
          rw [padB_next]
          show 1000001 - (⟨(padB (j + 1) a).toArray⟩ : ByteArray).size < 1000001 - (⟨(padB j a).toArray⟩ : ByteArray).size
          rw [size_list, size_list, padB_len, padB_len]
          omega
        · go_wp2_with fail
          go_loop [1] (fun x => ∃ k : Nat, x = .string ⟨(padB k b).toArray⟩ ∧ (k = 0 ∨ k + b.length ≤ j + a.length)) (fun x => match x with | .string s => 2000001 - s.size | _ => 0)
          case atStart => exact ⟨0, rfl, Or.inl rfl⟩
          case round =>
            obtain ⟨k, rfl, hk⟩ := hrel
            have hpl2 := padB_len k b
            by_cases hlt2 : k + b.length < j + a.length
            · go_wp2
              refine ⟨⟨k + 1, congrArg Value.string (padB_next k b), Or.inr (by omega)⟩, ?_⟩
              rw [padB_next]
              show 2000001 - (⟨(padB (k + 1) b).toArray⟩ : ByteArray).size < 2000001 - (⟨(padB k b).toArray⟩ : ByteArray).size
              rw [size_list, size_list, padB_len, padB_len]
              omega
            · have HE : Hid (Sem.cmpPart a b = Sem.three (padB j a) (padB k b)) := Lib.hid (HD.out j k (by omega))
              go_wp2_with fail
              refine (texts_walk _ _ _).mono ?_
              rintro e w' ⟨rfl, rfl⟩
              go_wp2
              go_ret
              exact ⟨by rw [HE.out]; rfl, rfl⟩
end Go.Proofs.YtifblpbikngjeaaDoor
