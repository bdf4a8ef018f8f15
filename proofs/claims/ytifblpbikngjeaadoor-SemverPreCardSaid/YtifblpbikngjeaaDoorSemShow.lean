/- The document's Show: a version's text. -/
import Derived.Test.YtifblpbikngjeaaDoorSemCheck
import Derived.Test.YtifblpbikngjeaaDoorSemDec
namespace Go.Proofs.YtifblpbikngjeaaDoor
open Go.RowKit
set_option linter.unusedVariables false

/-- What Show tells. -/
def showR (v : Sem.Ver) : Value := if Sem.may v = true then .tuple #[.string ⟨(Sem.text v).toArray⟩, .int .i64 0] else .tuple #[.string ByteArray.empty, .int .i64 40]

theorem dec_short {n : Nat} (h : n ≤ 999999) : (Sem.dec n).length ≤ 6 := Sem.dec_len 6 n (by have : (10 : Nat) ^ 6 = 1000000 := rfl; omega) (by omega)

theorem show_none (x y z : List UInt8) : (⟨x.toArray⟩ : ByteArray) ++ ⟨#[46]⟩ ++ ⟨y.toArray⟩ ++ ⟨#[46]⟩ ++ ⟨z.toArray⟩ = ⟨(x ++ 46 :: (y ++ 46 :: (z ++ if ([] : List UInt8) = [] then [] else 45 :: []))).toArray⟩ := by
  apply ByteArray.ext
  simp [ByteArray.data_append]

theorem show_some (x y z p : List UInt8) (h : p ≠ []) : (⟨x.toArray⟩ : ByteArray) ++ ⟨#[46]⟩ ++ ⟨y.toArray⟩ ++ ⟨#[46]⟩ ++ ⟨z.toArray⟩ ++ ⟨#[45]⟩ ++ ⟨p.toArray⟩ = ⟨(x ++ 46 :: (y ++ 46 :: (z ++ if p = [] then [] else 45 :: p))).toArray⟩ := by
  rw [if_neg h]
  apply ByteArray.ext
  simp [ByteArray.data_append]

theorem two_eq {s t : ByteArray} (e : Int) (h : s = t) : Ending.returned (.tuple #[.string s, .int .i64 e]) = .returned (.tuple #[.string t, .int .i64 e]) := by rw [h]

set_option maxRecDepth 100000 in
set_option maxHeartbeats 1000000 in
theorem rshow_walk (v : Sem.Ver) (hs : v.pre.length ≤ 9223372036854775807) (w : World) :
    Calls Tryd.prog 15 #[verV v] w fun e w' => e = .returned (showR v) ∧ Below w.heap.size w w' := by
  cases hm : Sem.may v
  · have HM := Lib.hid hm
    have hc : chk v = 40 := by rw [chk, hm]; rfl
    have HC := Lib.hid hc
    obtain ⟨a, b, c, p⟩ := v
    clear hm hc
    have hv : verV ⟨a, b, c, p⟩ = .agg #[.int .i64 a, .int .i64 b, .int .i64 c, .string ⟨p.toArray⟩] := rfl
    have HV := Lib.hid hv
    rw [hv]
    clear hv
    go_enter Tryd.func15, Tryd.ntmps15
    go_wp2_with fail
    refine (rcheck_walk ⟨a, b, c, p⟩ hs _).mono ?_
    rintro e w1 ⟨he, hb⟩
    rw [HC.out] at he
    subst he
    go_wp2
    go_ret2
    exact ⟨by rw [showR, HM.out, if_neg (by simp)]; rfl, below_next (below_one _ _) hb⟩
  · have HM := Lib.hid hm
    have hc : chk v = 0 := by rw [chk, hm]; rfl
    have HC := Lib.hid hc
    have hmi := (Sem.may_iff v).1 hm
    obtain ⟨a, b, c, p⟩ := v
    simp only at hmi hs
    obtain ⟨⟨a1, a2⟩, ⟨b1, b2⟩, ⟨c1, c2⟩, hp, _⟩ := hmi
    obtain ⟨a, rfl⟩ := Int.eq_ofNat_of_zero_le a1
    obtain ⟨b, rfl⟩ := Int.eq_ofNat_of_zero_le b1
    obtain ⟨c, rfl⟩ := Int.eq_ofNat_of_zero_le c1
    clear hm hc
    have HS : Hid (showR ⟨a, b, c, p⟩ = .tuple #[.string ⟨(Sem.dec a ++ 46 :: (Sem.dec b ++ 46 :: (Sem.dec c ++ if p = [] then [] else 45 :: p))).toArray⟩, .int .i64 0]) := Lib.hid (by
      rw [showR, HM.out, if_pos rfl]; rfl)
    have la := dec_short (n := a) (by omega)
    have lb := dec_short (n := b) (by omega)
    have lc := dec_short (n := c) (by omega)
    unfold verV
    by_cases hz : p = []
    · subst hz
      go_enter Tryd.func15, Tryd.ntmps15
      go_wp2_with fail
      refine (rcheck_walk ⟨a, b, c, []⟩ hs _).mono ?_
      rintro e w1 ⟨he, hb⟩
      rw [HC.out] at he
      subst he
      obtain ⟨_, g0, g1, g2, g3⟩ := (ver_new w ⟨a, b, c, []⟩).next hb
      go_wp2_with fail
      go_quiet ((go_at_call 28; exact Calls.quiet_of_same (flip (dec_walk _ (by omega) _))))
      go_wp2
      go_ret2
      refine ⟨?_, below_drewN (below_next (below_one _ _) hb) _⟩
      rw [HS.out]
      exact two_eq 0 (show_none _ _ _)
    · have hpe : p.isEmpty = false := by simpa using hz
      go_enter Tryd.func15, Tryd.ntmps15
      go_wp2_with fail
      refine (rcheck_walk ⟨a, b, c, p⟩ hs _).mono ?_
      rintro e w1 ⟨he, hb⟩
      rw [HC.out] at he
      subst he
      obtain ⟨_, g0, g1, g2, g3⟩ := (ver_new w ⟨a, b, c, p⟩).next hb
      go_wp2_with fail
      go_quiet ((go_at_call 28; exact Calls.quiet_of_same (flip (dec_walk _ (by omega) _))))
      go_wp2
      go_ret2
      refine ⟨?_, below_drewN (below_next (below_one _ _) hb) _⟩
      rw [HS.out]
      exact two_eq 0 (show_some _ _ _ _ hz)
end Go.Proofs.YtifblpbikngjeaaDoor
