/- What a text begins with: the program's first tells Utf.first. -/
import Derived.Test.YticfgdedlleapaaUtfFirst
namespace Go.Proofs.Yticfgdedlleapaa
open Go.RowKit
set_option linter.unusedVariables false

theorem plead_bound (a : UInt8) : 0 ≤ (Utf.plead a.toNat).1 ∧ (Utf.plead a.toNat).1 ≤ 127 ∧ (Utf.plead a.toNat).2 ≤ 4 := by
  have ha := a.toNat_lt
  rcases Utf.plead_cases a.toNat with ⟨h1, e⟩ | ⟨h1, h2, e⟩ | ⟨h1, h2, e⟩ | ⟨h1, h2, e⟩ | ⟨h1, e⟩ <;> rw [e] <;> simp only <;> omega

theorem val_up {p : Int} {l : List UInt8} (h0 : 0 ≤ p) (h1 : p ≤ 127) (hl : l.length ≤ 2) (h : ∀ b ∈ l, 128 ≤ b.toNat ∧ b.toNat < 192) : 0 ≤ Utf.val p l ∧ Utf.val p l ≤ 1000000 := by
  match l, hl, h with
  | [], _, _ => simp only [Utf.val]; omega
  | [b], _, h => have := h b (by simp); simp only [Utf.val]; omega
  | [b, c], _, h => have := h b (by simp); have := h c (by simp); simp only [Utf.val]; omega

theorem onbits (x : Int) (b : UInt8) (h0 : 0 ≤ x) (h1 : x ≤ 1000000) (h2 : 128 ≤ b.toNat) (h3 : b.toNat < 192) :
    bits .or .i64 (x * 64) ((b.toNat : Int) - 128) = x * 64 + b.toNat - 128 := by
  rw [i64_join6 x _ h0 (by omega) (by omega) (by omega)]
  omega

/-- Some bytes that go on. -/
def On (r : List UInt8) (k : Nat) : Prop := ∀ b ∈ r.take k, 128 ≤ b.toNat ∧ b.toNat < 192

theorem on_next {r : List UInt8} {k : Nat} (h : On r k) (hk : k < r.length) (h1 : 128 ≤ r[k].toNat) (h2 : r[k].toNat < 192) : On r (k + 1) := by
  intro b hb
  rw [List.take_succ_eq_append_getElem hk, List.mem_append] at hb
  rcases hb with hb | hb
  · exact h b hb
  · simp at hb; subst hb; exact ⟨h1, h2⟩

set_option maxRecDepth 100000 in
set_option maxHeartbeats 1000000 in
theorem first_walk (s : ByteArray) (h : 0 < s.size) (hs : s.size ≤ 9223372036854775807) (w : World) :
    Calls Try.prog 17 #[.string s] w fun e w' => e = .returned (duo (Utf.first s.data.toList)) ∧ w = w' := by
  obtain ⟨r, hr, hl, hi⟩ := cons_of s h
  obtain ⟨hv0, hv1, hn4⟩ := plead_bound s[0]
  have HR := Lib.hid hr
  have HL := Lib.hid hl
  have HI := Lib.hid hi
  clear hr hl hi
  obtain ⟨v, n, hvn⟩ : ∃ v n, Utf.plead (s[0]).toNat = (v, n) := ⟨_, _, rfl⟩
  have HV := Lib.hid hvn
  rw [hvn] at hv0 hv1 hn4
  simp only at hv0 hv1 hn4
  clear hvn
  by_cases hn0 : n = 0
  · subst hn0
    go_enter Try.func17, Try.ntmps17
    go_wp2_with fail
    refine (lead_walk s[0] _).mono ?_
    rintro e w' ⟨he, rfl⟩
    rw [HV.out, duo] at he
    subst he
    go_wp2
    go_ret2
    refine ⟨?_, rfl⟩
    rw [HR.out, Utf.first_nolead (by rw [HV.out])]
    rfl
  · have hd0 : ((n : Int) == 0) = false := by simp; omega
    by_cases hns : s.size < n
    · have hd1 : decide (s.size < n) = true := by simpa using hns
      go_enter Try.func17, Try.ntmps17
      go_wp2_with fail
      refine (lead_walk s[0] _).mono ?_
      rintro e w' ⟨he, rfl⟩
      rw [HV.out, duo] at he
      subst he
      go_wp2
      go_ret2
      refine ⟨?_, rfl⟩
      rw [HR.out, Utf.first_short (by rw [HV.out]; exact hn0) (by rw [HV.out]; have := HL.out; simp only; omega)]
      rfl
    · have hd1 : decide (s.size < n) = false := by simpa using hns
      go_enter Try.func17, Try.ntmps17
      go_wp2_with fail
      refine (lead_walk s[0] _).mono ?_
      rintro e w' ⟨he, rfl⟩
      rw [HV.out, duo] at he
      subst he
      go_wp2_with fail
      go_loop [4, 6] (fun p i => ∃ (k : Nat) (x : Int), i = .int .i64 k ∧ 1 ≤ k ∧ k ≤ n ∧ p = .int .i64 x ∧ Hid (x = Utf.val v (r.take (k - 1))) ∧ Hid (On r (k - 1)))
        (fun _ i => 4 - (intOf i).toNat)
      case atStart => exact ⟨1, _, rfl, by omega, by omega, rfl, Lib.hid rfl, Lib.hid (fun b hb => by simp at hb)⟩
      case round =>
        obtain ⟨k, x, rfl, hk1, hk, rfl, HX, HO⟩ := hrel
        by_cases hlt : k < n
        · have hks : k < s.size := by omega
          have hx := val_up (p := v) (l := r.take (k - 1)) hv0 hv1 (by rw [List.length_take]; omega) HO.out
          rw [← HX.out] at hx
          obtain ⟨hx1, hx2⟩ := hx
          have hb8 := (s[k]'hks).toNat_lt
          have HK : Hid (∃ hr : k - 1 < r.length, r[k - 1] = s[k]'hks) := Lib.hid (by
            have h1 := HL.out
            have h2 := HI.out (k - 1) (by omega) (by omega)
            refine ⟨by omega, h2.trans ?_⟩
            simp only [show k - 1 + 1 = k from by omega])
          by_cases hgo : 128 ≤ (s[k]'hks).toNat ∧ (s[k]'hks).toNat < 192
          · obtain ⟨hg1, hg2⟩ := hgo
            have HN : Hid (x * 64 + (s[k]'hks).toNat - 128 = Utf.val v (r.take k)) := Lib.hid (val_next s r HL.out HI.out k hk1 hks HX.out)
            have HB := Lib.hid (onbits x (s[k]'hks) hx1 hx2 hg1 hg2)
            have HO2 : Hid (On r k) := Lib.hid (by
              obtain ⟨h1, h2⟩ := HK.out
              have := on_next HO.out h1 (by rw [h2]; exact hg1) (by rw [h2]; exact hg2)
              rwa [show k - 1 + 1 = k from by omega] at this)
            go_wp2_with fail
            go_round
            case rel => exact ⟨k + 1, _, by go_num, by omega, by omega, by rw [HB.out], HN, HO2⟩
            case measure => simp [intOf]; omega
          · have hf : Utf.first s.data.toList = (0, 0) := by
              obtain ⟨h1, h2⟩ := HK.out
              rw [HR.out]
              exact Utf.first_stop (i := k - 1) (by rw [HV.out]; exact hn0) (by rw [HV.out]; simp only; omega) h1 (by rw [h2]; omega)
            have HF := Lib.hid hf
            clear hf
            by_cases hg1 : (s[k]'hks).toNat < 128
            · clear hgo
              go_wp2
              go_ret2
              exact ⟨by rw [HF.out]; rfl, rfl⟩
            · have hg2 : 192 ≤ (s[k]'hks).toNat := by omega
              clear hgo
              go_wp2
              go_ret2
              exact ⟨by rw [HF.out]; rfl, rfl⟩
        · have hkn : k = n := by omega
          subst hkn
          have hf := Utf.first_all (a := s[0]) (r := r) (by rw [HV.out]; exact hn0) (by rw [HV.out]; have := HL.out; simp only; omega) (by rw [HV.out]; exact HO.out)
          rw [HV.out] at hf
          simp only at hf
          rw [← HX.out, ← HR.out] at hf
          have HF := Lib.hid hf
          clear hf
          cases hp : Utf.pt x
          · go_wp2_with (first | (go_at_call 19; refine (ispt_walk _ _).mono ?_; rintro e w' ⟨rfl, rfl⟩) | (go_at_call 26; refine (width_walk _ _).mono ?_; rintro e w' ⟨rfl, rfl⟩))
            go_ret2
            refine ⟨?_, rfl⟩
            rw [HF.out, hp, if_neg (by simp)]
            rfl
          · by_cases hw : Utf.width x = k
            · have hd2 : ((Utf.width x : Int) == (k : Int)) = true := by rw [beq_iff_eq]; omega
              have hd3 : ((Utf.width x : Int) != (k : Int)) = false := by rw [bne_eq_false_iff_eq]; omega
              have HW := Lib.hid hw
              clear hw
              go_wp2_with (first | (go_at_call 19; refine (ispt_walk _ _).mono ?_; rintro e w' ⟨rfl, rfl⟩) | (go_at_call 26; refine (width_walk _ _).mono ?_; rintro e w' ⟨rfl, rfl⟩))
              go_ret2
              refine ⟨?_, rfl⟩
              rw [HF.out, if_pos ⟨hp, HW.out⟩]
              rfl
            · have hd2 : ((Utf.width x : Int) == (k : Int)) = false := by rw [beq_eq_false_iff_ne]; omega
              have hd3 : ((Utf.width x : Int) != (k : Int)) = true := by rw [bne_iff_ne]; omega
              go_wp2_with (first | (go_at_call 19; refine (ispt_walk _ _).mono ?_; rintro e w' ⟨rfl, rfl⟩) | (go_at_call 26; refine (width_walk _ _).mono ?_; rintro e w' ⟨rfl, rfl⟩))
              go_ret2
              refine ⟨?_, rfl⟩
              rw [HF.out, if_neg (by rintro ⟨_, h⟩; exact hw h)]
              rfl
end Go.Proofs.Yticfgdedlleapaa
