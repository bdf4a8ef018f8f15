/- The walk of LexShows. -/
import Derived.Test.YtebphmkefpaeaaaGreatDoorLexAwake
namespace Go.Proofs.YtebphmkefpaeaaaGreatDoor
open Go.RowKit
set_option linter.unusedVariables false

/-- The texts so far are short. -/
def ShortT (l : List Tk) (k : Nat) : Prop := ∀ j (h : j < l.length), j < k → (l[j]'h).t.text.length ≤ 20000

theorem ShortT.all {l : List Tk} {k : Nat} (h : ShortT l k) (hk : l.length ≤ k) : ∀ b ∈ l, b.t.text.length ≤ 100000 := fun b hb => by
  obtain ⟨j, hj, rfl⟩ := List.mem_iff_getElem.1 hb
  exact Nat.le_trans (h j hj (by omega)) (by decide)

theorem ShortT.next {l : List Tk} {k : Nat} (h : ShortT l k) (hk : k < l.length) (ht : (l[k]'hk).t.text.length ≤ 20000) : ShortT l (k + 1) := fun j hj hji => by
  rcases Nat.lt_succ_iff_lt_or_eq.1 hji with h' | rfl
  · exact h j hj h'
  · exact ht

set_option maxRecDepth 100000 in
set_option maxHeartbeats 8000000 in
theorem shows_walk (A : Option Addr) (cap : Nat) (l : List Tk) (w : World) (hA : Tks w w.heap.size A l) (hl : l.length ≤ 9223372036854775807) (hs : ∀ b ∈ l, b.t.text.length ≤ 9223372036854775807) (hg : Globs w) :
    Calls Tryz.prog 5 #[.slice A l.length cap] w fun e w' => e = .returned (.bool true) ∧ Below w.heap.size w w' := by
  have HA := Lib.hid hA
  have HS := Lib.hid hs
  have HG := Lib.hid hg
  clear hA hs hg
  go_enter Tryz.func5, Tryz.ntmps5
  go_wp2_with fail
  go_loopw [3, 4] (fun nn ii wr => ∃ n k : Nat, nn = .int .i64 (n : Int) ∧ ii = .int .i64 (k : Int) ∧ k ≤ l.length ∧ 5 * k ≤ n ∧ n ≤ 20000 ∧ Hid (ShortT l k) ∧ w = wr)
    (fun _ ii _ => l.length - (intOf ii).toNat)
  case atStart => exact ⟨0, 0, rfl, rfl, Nat.zero_le _, Nat.le_refl _, Nat.zero_le _, Lib.hid (fun j _ hj => absurd hj (by omega)), rfl⟩
  case round =>
    obtain ⟨n, k, rfl, rfl, hk, h5, hn, HT, rfl⟩ := hrel
    by_cases hlt : k < l.length
    · have hi1 : (k : Int) < (l.length : Int) := by omega
      rcases HA.out with h0 | ⟨g, off, rfl, hgw, hc⟩
      · omega
      · obtain ⟨p0, p1, p2⟩ := hc k hlt
        obtain ⟨x, hx⟩ : ∃ x, x = l[k]'hlt := ⟨_, rfl⟩
        have hxl : x.t.text.length ≤ 9223372036854775807 := by rw [hx]; exact HS.out _ (List.getElem_mem _)
        rw [← hx] at p0 p1 p2
        have HX := Lib.hid hx
        have hz : (⟨x.t.text.toArray⟩ : ByteArray).size = x.t.text.length := size_list _
        clear hx hc
        by_cases h20 : x.t.text.length ≤ 20000
        · have hle : (x.t.text.length : Int) ≤ 20000 := by omega
          have hmn : min (x.t.text.length : Int) 20000 = (x.t.text.length : Int) := by omega
          have HT2 : Hid (ShortT l (k + 1)) := Lib.hid (HT.out.next hlt (by rw [← HX.out]; exact h20))
          by_cases hov : 20000 < n + (x.t.text.length + 5)
          · have hov1 : (20000 : Int) < (n : Int) + ((x.t.text.length : Int) + 5) := by omega
            clear h20 hov
            go_wp2_with fail
            refine (awake_walk _ HG.out).mono ?_
            rintro e w2 ⟨rfl, hb2⟩
            go_wp2
            go_ret
            exact ⟨rfl, hb2⟩
          · have hov1 : ¬ (20000 : Int) < (n : Int) + ((x.t.text.length : Int) + 5) := by omega
            clear h20
            go_wp2
            go_roundw
            case rel => exact ⟨n + (x.t.text.length + 5), k + 1, by go_num, by go_num, by omega, by omega, by omega, HT2, trivial⟩
            case measure => simp [intOf]; omega
        · have hle : ¬ (x.t.text.length : Int) ≤ 20000 := by omega
          have hmn : min (x.t.text.length : Int) 20000 = 20000 := by omega
          have hov1 : (20000 : Int) < (n : Int) + (20000 + 5) := by omega
          have hov2 : (20000 : Int) < (n : Int) + 20005 := by omega
          clear h20
          go_wp2_with fail
          refine (awake_walk _ HG.out).mono ?_
          rintro e w2 ⟨rfl, hb2⟩
          go_wp2
          go_ret
          exact ⟨rfl, hb2⟩
    · have hi1 : ¬ (k : Int) < (l.length : Int) := by omega
      have hlen : l.length ≤ 10000 := by omega
      have HSS := Lib.hid (HT.out.all (by omega))
      by_cases hm : Lex.mayShow (l.map (·.t))
      · have HM := Lib.hid hm
        have hss : (Lex.shown (l.map (·.t)) == Lex.shown (l.map (·.t))) = true := by simp
        clear hm
        go_wp2_with fail
        refine (oshow_walk A cap l _ HA.out hlen HSS.out HG.out).mono ?_
        rintro e w2 ⟨h2, hb2⟩
        have he := show_yes h2 HM.out
        subst he
        have HB2 := Lib.hid hb2
        clear h2 hb2
        go_wp2_with fail
        refine (lshow_walk A cap l _ (HA.out.next HB2.out) hlen HSS.out).mono ?_
        rintro e w3 ⟨h3, hb3⟩
        have he := show_yes h3 HM.out
        subst he
        have HB3 := Lib.hid (below_next HB2.out hb3)
        clear h3 hb3
        go_wp2_with fail
        refine (awake_walk _ (HG.out.next HB3.out)).mono ?_
        rintro e w4 ⟨rfl, hb4⟩
        go_wp2
        go_ret
        exact ⟨rfl, below_next HB3.out hb4⟩
      · have HM := Lib.hid hm
        clear hm
        go_wp2_with fail
        refine (oshow_walk A cap l _ HA.out hlen HSS.out HG.out).mono ?_
        rintro e w2 ⟨h2, hb2⟩
        have he := show_no h2 HM.out
        subst he
        have HB2 := Lib.hid hb2
        clear h2 hb2
        go_wp2_with fail
        refine (lshow_walk A cap l _ (HA.out.next HB2.out) hlen HSS.out).mono ?_
        rintro e w3 ⟨h3, hb3⟩
        have he := show_no h3 HM.out
        subst he
        have HB3 := Lib.hid (below_next HB2.out hb3)
        clear h3 hb3
        go_wp2_with fail
        refine (awake_walk _ (HG.out.next HB3.out)).mono ?_
        rintro e w4 ⟨rfl, hb4⟩
        go_wp2
        go_ret
        exact ⟨rfl, below_next HB3.out hb4⟩
end Go.Proofs.YtebphmkefpaeaaaGreatDoor
