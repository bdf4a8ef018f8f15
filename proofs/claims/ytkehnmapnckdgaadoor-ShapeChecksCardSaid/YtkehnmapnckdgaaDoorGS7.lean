/- ShpS7, ShpS8, together. -/
import Derived.Test.YtkehnmapnckdgaaDoorGS0
import Derived.Test.YtkehnmapnckdgaaDoorShpS4
import Derived.Test.YtkehnmapnckdgaaDoorShpS5
import Derived.Test.YtkehnmapnckdgaaDoorShpS6
/- sort.Sort over the methods: a permutation, in order. -/
namespace Go.Proofs.YtkehnmapnckdgaaDoor
open Go.RowKit Go.Sort
set_option linter.unusedVariables false
variable {α : Type} [Inhabited α] {N B : Nat} {rv : Value} {lt : α → α → Bool} {St : Array α → World → Prop}

/-- Whatever sorts this part sorts the whole. -/
def Sorts {α : Type} [Inhabited α] (lt : α → α → Bool) (a b : Nat) (d : Array α) (a' b' : Nat) (dk : Array α) : Prop := ∀ R, PermIn a' b' dk R → SortedIn lt a' b' R → PermIn a b d R ∧ SortedIn lt a b R
theorem Sorts.perm {a b a' b' : Nat} {d dk d2 : Array α} (h : Sorts lt a b d a' b' dk) (hp : PermIn a' b' dk d2) : Sorts lt a b d a' b' d2 := fun R h1 h2 => h R (permIn_trans _ _ _ a' b' hp h1) h2
theorem below_perm {a b : Nat} {d d2 : Array α} (h : Sort.Below lt a b d) (hb : b ≤ d.size) (hp : PermIn a b d d2) : Sort.Below lt a b d2 := h.perm hb hp

set_option maxHeartbeats 12800000 in
set_option maxRecDepth 1000000 in
theorem spdq_walk (H : Srt N B rv lt St) (hO : SWO lt) : ∀ (n a b limit : Nat) (d : Array α) (w : World), b - a < n → St d w → a ≤ b → b ≤ N → limit < 1000000 → Sort.Below lt a b d →
    Calls Tryd.prog 67 #[.iface 53 rv, .int .i64 a, .int .i64 b, .int .i64 limit] w fun e w' => e = .returned (.tuple #[]) ∧ ∃ d', PermIn a b d d' ∧ SortedIn lt a b d' ∧ St d' w' := by
  have mL := H.mL
  have mS := H.mS
  have hbig := H.big
  intro n
  induction n with
  | zero => intro _ _ _ _ _ h; exact absurd h (Nat.not_lt_zero _)
  | succ n ih =>
    intro a b limit d w hn hH hab hb hlimit hBel
    have IH : Hid _ := ih
    clear ih
    go_enter Tryd.func67, Tryd.ntmps67
    go_wp2
    go_loopg [1, 2, 3, 8, 9] (b - a) (fun k s1 s2 s3 s8 s9 wr => ∃ (a' b' lim : Nat) (wb wp : Bool) (dk : Array α), s1 = .int .i64 a' ∧ s2 = .int .i64 b' ∧ s3 = .int .i64 lim ∧ s8 = .bool wb ∧ s9 = .bool wp ∧
      a' ≤ b' ∧ b' ≤ b ∧ b' - a' ≤ k ∧ k ≤ b - a ∧ lim ≤ limit ∧ St dk wr ∧ Hid (Sort.Below lt a' b' dk) ∧ Hid (Sorts lt a b d a' b' dk))
    case atStart => exact ⟨a, b, limit, true, true, d, rfl, rfl, rfl, rfl, rfl, hab, Nat.le_refl _, Nat.le_refl _, Nat.le_refl _, Nat.le_refl _, hH, hBel, (show Hid _ from fun R h1 h2 => ⟨h1, h2⟩)⟩
    case round =>
      clear hH hBel
      obtain ⟨a', b', lim, wb, wp, dk, rfl, rfl, rfl, rfl, rfl, hab', hb', hk, hkN, hlim, hS, HB, HA⟩ := hrel
      have hsk := H.size _ _ hS
      by_cases h12 : b' - a' ≤ 12
      · have h12z : (b' : Int) - (a' : Int) ≤ 12 := by omega
        go_wp2_with fail
        refine (sins_walk H a' b' dk _ hS hab' (by omega)).mono ?_
        rintro e w1 ⟨rfl, hS1⟩
        go_wp2_with fail
        (try simp only [Exit.inBlock, Exit.then]); refine bodyPost_ret (results_none rfl _ _ _) rfl ?_
        obtain ⟨r1, r2⟩ := insertionSort_holds hO dk a' b' hab' (by omega)
        exact ⟨rfl, _, (HA.out _ r1 r2).1, (HA.out _ r1 r2).2, hS1⟩
      · have h12z : ¬ (b' : Int) - (a' : Int) ≤ 12 := by omega
        by_cases hl0 : lim = 0
        · subst hl0
          go_wp2_with fail
          refine (sheap_walk H a' b' dk _ hS (by omega) (by omega)).mono ?_
          rintro e w1 ⟨rfl, hS1⟩
          go_wp2_with fail
          (try simp only [Exit.inBlock, Exit.then]); refine bodyPost_ret (results_none rfl _ _ _) rfl ?_
          obtain ⟨r1, r2⟩ := heapSort_holds hO dk a' b' hab' (by omega)
          exact ⟨rfl, _, (HA.out _ r1 r2).1, (HA.out _ r1 r2).2, hS1⟩
        · have hl0z : ¬ (lim : Int) = 0 := by omega
          go_upto_if 35 with fail
          go_cut [3] (fun p wx => ∃ (l2 : Nat) (d2 : Array α), p = .int .i64 l2 ∧ l2 ≤ lim ∧ Hid (PermIn a' b' dk d2) ∧ St d2 wx)
          case first =>
            cases wb with
            | true =>
              go_wp2_with fail
              go_meet
              exact ⟨lim, dk, rfl, Nat.le_refl _, permIn_refl _ _ _, hS⟩
            | false =>
              go_wp2_with fail
              refine (sbreak_walk H a' b' dk _ hS (by omega) (by omega)).mono ?_
              rintro e w1 ⟨rfl, d2, hp, hS1⟩
              have HP : Hid _ := hp
              clear hp
              go_wp2_with fail
              go_meet
              exact ⟨lim - 1, d2, by go_num, by omega, HP, hS1⟩
          case rest =>
            clear hS
            obtain ⟨l2, d2, rfl, hl2, HP2, hS⟩ := hcut
            have HB2 : Hid (Sort.Below lt a' b' d2) := HB.out.perm (by omega) HP2.out
            have HA2 : Hid (Sorts lt a b d a' b' d2) := HA.out.perm HP2.out
            clear HB HA HP2 hsk
            go_wp2_with fail
            refine (spivot_walk H a' b' d2 _ hS (by omega) (by omega)).mono ?_
            rintro e w1 ⟨pv, hint, rfl, hp1, hp2, hh0, hh2, hS1⟩
            have hsk := H.size _ _ hS1
            go_upto_if 50 with fail
            go_cut [11, 12] (fun p h wx => ∃ (p2 : Nat) (h2 : Int) (d3 : Array α), p = .int .i64 p2 ∧ h = .int .i64 h2 ∧ a' ≤ p2 ∧ p2 < b' ∧ Hid (PermIn a' b' d2 d3) ∧ St d3 wx)
            case first =>
              by_cases h2 : hint = 2
              · subst h2
                go_wp2_with fail
                refine (srev_walk H a' b' d2 _ hS1 (by omega) (by omega)).mono ?_
                rintro e w2 ⟨rfl, d3, hp, hS2⟩
                have HP : Hid _ := hp
                clear hp
                go_wp2_with fail
                go_meet
                exact ⟨(b' - 1) - (pv - a'), 1, d3, by congr 1; omega, rfl, by omega, by omega, HP, hS2⟩
              · go_wp2_with fail
                go_meet
                exact ⟨pv, hint, d2, rfl, rfl, hp1, hp2, permIn_refl _ _ _, hS1⟩
            case rest =>
              clear hS hS1 hp1 hp2 hh0 hh2
              obtain ⟨p, h, d3, rfl, rfl, hp1, hp2, HP3, hS⟩ := hcut
              have HB3 : Hid (Sort.Below lt a' b' d3) := HB2.out.perm (by omega) HP3.out
              have HA3 : Hid (Sorts lt a b d a' b' d3) := HA2.out.perm HP3.out
              clear HB2 HA2 HP3 hsk
              have hsk := H.size _ _ hS
              go_upto_region 15 with fail
              go_cut [68] (fun q wx => ∃ v : Bool, q = .bool v ∧ St d3 wx)
              case first =>
                cases wb with
                | false =>
                  go_wp2_with fail
                  go_meet
                  exact ⟨_, rfl, hS⟩
                | true =>
                  cases wp with
                  | false =>
                    go_wp2_with fail
                    go_meet
                    exact ⟨_, rfl, hS⟩
                  | true =>
                    go_wp2_with fail
                    go_meet
                    exact ⟨_, rfl, hS⟩
              case rest =>
                clear hS
                obtain ⟨v, rfl, hS⟩ := hcut
                go_upto_if 68 with fail
                go_cut [0] (fun q wx => ∃ d4 : Array α, q = .iface 53 rv ∧ Hid (PermIn a' b' d3 d4) ∧ St d4 wx)
                case first =>
                  cases v with
                  | false =>
                    go_wp2_with fail
                    go_meet
                    exact ⟨d3, rfl, permIn_refl _ _ _, hS⟩
                  | true =>
                    have hpi := partialInsertionSort_holds hO d3 a' b' (by omega) (by omega) HB3.out
                    have hc := spi_walk H a' b' d3 wc hS (by omega) (by omega)
                    generalize Sort.partialInsertionSort lt d3 a' b' = r at hpi hc
                    obtain ⟨d4, u⟩ := r
                    have HPI : Hid _ := hpi
                    clear hpi
                    cases u with
                    | true =>
                      go_wp2_with fail
                      refine hc.mono ?_
                      rintro e w2 ⟨rfl, hS2⟩
                      clear hc
                      go_wp2_with fail
                      (try simp only [Exit.inBlock, Exit.then]); refine bodyPost_ret (results_none rfl _ _ _) rfl ?_
                      obtain ⟨r1, r2⟩ := HPI.out
                      have r3 := r2 (by first | trivial | rfl)
                      exact ⟨rfl, _, (HA3.out _ r1 r3).1, (HA3.out _ r1 r3).2, hS2⟩
                    | false =>
                      go_wp2_with fail
                      refine hc.mono ?_
                      rintro e w2 ⟨rfl, hS2⟩
                      clear hc
                      go_wp2_with fail
                      go_meet
                      exact ⟨d4, rfl, HPI.out.1, hS2⟩
                case rest =>
                  clear hS
                  obtain ⟨d4, rfl, HP4, hS⟩ := hcut
                  have HB4 : Hid (Sort.Below lt a' b' d4) := HB3.out.perm (by omega) HP4.out
                  have HA4 : Hid (Sorts lt a b d a' b' d4) := HA3.out.perm HP4.out
                  clear HB3 HA3 HP4 hsk
                  have hsk := H.size _ _ hS
                  go_upto_region 17 with fail
                  go_cut [82] (fun q wx => ∃ v : Bool, q = .bool v ∧ St d4 wx ∧ Hid (v = true → 0 < a' ∧ lt d4[a' - 1]! d4[p]! = false))
                  case first =>
                    by_cases ha0 : 0 < a'
                    · cases hlv : lt d4[a' - 1]! d4[p]! with
                      | true =>
                        go_wp2_with fail
                        refine (H.lessAt hS (a' - 1) p hlv (by omega) (by omega) (by omega) rfl).mono ?_
                        rintro e w2 ⟨rfl, hS2, -⟩
                        go_wp2_with fail
                        go_meet
                        exact ⟨_, rfl, hS2, (show Hid _ from fun h => by cases h)⟩
                      | false =>
                        go_wp2_with fail
                        refine (H.lessAt hS (a' - 1) p hlv (by omega) (by omega) (by omega) rfl).mono ?_
                        rintro e w2 ⟨rfl, hS2, -⟩
                        go_wp2_with fail
                        go_meet
                        exact ⟨_, rfl, hS2, (show Hid _ from fun _ => ⟨ha0, hlv⟩)⟩
                    · go_wp2_with fail
                      go_meet
                      exact ⟨_, rfl, hS, (show Hid _ from fun h => by cases h)⟩
                  case rest =>
                    clear hS
                    obtain ⟨v, rfl, hS, HV⟩ := hcut
                    cases v with
                    | true =>
                      have hv := HV.out (by first | trivial | rfl)
                      have hc := speq_walk H a' b' p d4 wc hS hp1 hp2 (by omega)
                      obtain ⟨mid, d5, hx⟩ : ∃ mid d5, partitionEqual lt d4 a' b' p = (mid, d5) := ⟨_, _, rfl⟩
                      obtain ⟨r1, r2, r3, r4, r5⟩ := round_eq hO (partitionEqual_holds lt) hv.1 hp1 hp2 (by omega) HB4.out hv.2 hx
                      rw [hx] at hc
                      have R4 : Hid _ := r4
                      have R5 : Hid _ := r5
                      clear r4 r5 hx hv
                      go_wp2_with fail
                      refine hc.mono ?_
                      rintro e w2 ⟨rfl, hS2⟩
                      clear hc
                      go_wp2_with fail
                      go_roundg (b' - mid)
                      case measure => omega
                      case rel => exact ⟨mid, b', l2, wb, wp, d5, rfl, rfl, rfl, rfl, rfl, r2, hb', Nat.le_refl _, by omega, by omega, hS2, R4, (show Hid _ from fun R h1 h2 => HA4.out R (R5.out R h1 h2).1 (R5.out R h1 h2).2)⟩
                    | false =>
                      have hc := spart_walk H a' b' p d4 wc hS hp1 hp2 (by omega)
                      obtain ⟨mid, ap, d5, hx⟩ : ∃ mid ap d5, partition lt d4 a' b' p = (mid, ap, d5) := ⟨_, _, _, rfl⟩
                      obtain ⟨r1, r2, r3, r4, r5, r6, r7⟩ := round_part hO (partition_holds lt) hp1 hp2 (by omega) HB4.out hx
                      rw [hx] at hc
                      have R4 : Hid _ := r4
                      have R5 : Hid _ := r5
                      have R6 : Hid _ := r6
                      have R7 : Hid _ := r7
                      clear r4 r5 r6 r7 hx HV
                      go_wp2_with fail
                      refine hc.mono ?_
                      rintro e w2 ⟨rfl, hS2⟩
                      clear hc
                      by_cases h4 : mid - a' < b' - mid
                      · have h4z : (mid : Int) - (a' : Int) < (b' : Int) - (mid : Int) := by omega
                        go_wp2_with fail
                        refine (IH.out a' mid l2 d5 _ (by omega) hS2 (by omega) (by omega) (by omega) R4.out).mono ?_
                        rintro e w3 ⟨rfl, d6, q1, q2, hS3⟩
                        have Q := R6.out d6 q1 q2
                        have Q1 : Hid _ := Q
                        clear Q q1 q2
                        go_wp2_with fail
                        go_roundg (b' - (mid + 1))
                        case measure => omega
                        case rel => exact ⟨mid + 1, b', l2, _, ap, d6, by go_num, rfl, rfl, rfl, rfl, by omega, by omega, Nat.le_refl _, by omega, by omega, hS3, (show Hid _ from Q1.out.1), (show Hid _ from fun R h1 h2 => HA4.out R (Q1.out.2 R h1 h2).1 (Q1.out.2 R h1 h2).2)⟩
                      · have h4z : ¬ (mid : Int) - (a' : Int) < (b' : Int) - (mid : Int) := by omega
                        have hih := IH.out (mid + 1) b' l2 d5
                        rw [show ((mid + 1 : Nat) : Int) = (mid : Int) + 1 by omega] at hih
                        go_wp2_with fail
                        refine (hih _ (by omega) hS2 (by omega) (by omega) (by omega) R5.out).mono ?_
                        rintro e w3 ⟨rfl, d6, q1, q2, hS3⟩
                        have Q := R7.out d6 q1 q2
                        have Q1 : Hid _ := Q
                        clear Q q1 q2 hih
                        go_wp2_with fail
                        go_roundg (mid - a')
                        case measure => omega
                        case rel => exact ⟨a', mid, l2, _, ap, d6, rfl, rfl, rfl, rfl, rfl, by omega, by omega, Nat.le_refl _, by omega, by omega, hS3, (show Hid _ from Q1.out.1), (show Hid _ from fun R h1 h2 => HA4.out R (Q1.out.2 R h1 h2).1 (Q1.out.2 R h1 h2).2)⟩

theorem ssort_len (n : Nat) (hn : n < 1000000) : bitsLen n ≤ 20 := (bitsLen_le_iff n 20).2 (by omega)
end Go.Proofs.YtkehnmapnckdgaaDoor

/- sort.Sort itself. -/
namespace Go.Proofs.YtkehnmapnckdgaaDoor
open Go.RowKit Go.Sort
set_option linter.unusedVariables false
variable {α : Type} [Inhabited α] {N B : Nat} {rv : Value} {lt : α → α → Bool} {St : Array α → World → Prop}

set_option maxHeartbeats 4000000 in
set_option maxRecDepth 1000000 in
theorem ssort_walk (H : Srt N B rv lt St) (hO : SWO lt) (mN : ∀ w, Sem.run Tryd.prog (method (Tryd.prog.types.size + 100) 53 rv "Len") w = .ok (123, rv) w)
    (hlen : ∀ d w, St d w → Calls Tryd.prog 123 #[rv] w fun e w' => e = .returned (.int .i64 (N : Int)) ∧ St d w') (d : Array α) (w : World) (hH : St d w) :
    Calls Tryd.prog 47 #[.iface 53 rv] w fun e w' => e = .returned (.tuple #[]) ∧ ∃ d', PermIn 0 N d d' ∧ SortedIn lt 0 N d' ∧ St d' w' := by
  have hbig := H.big
  have hsz := H.size _ _ hH
  have hb := ssort_len N hbig
  by_cases h1 : N ≤ 1
  · have h1z : (N : Int) ≤ 1 := by omega
    go_enter Tryd.func47, Tryd.ntmps47
    go_wp2_with fail
    refine (hlen d _ hH).mono ?_
    rintro e w1 ⟨rfl, hS1⟩
    go_wp2_with fail
    (try simp only [Exit.inBlock, Exit.then]); refine bodyPost_ret (results_none rfl _ _ _) rfl ?_
    exact ⟨rfl, d, permIn_refl _ _ _, fun i j _ h2 h3 => absurd h3 (by omega), hS1⟩
  · have h1z : ¬ (N : Int) ≤ 1 := by omega
    have wr : IntKind.u64.wrap (N : Int) = N := by rw [IntKind.wrap_u64]; omega
    go_enter Tryd.func47, Tryd.ntmps47
    go_wp2_with fail
    refine (hlen d _ hH).mono ?_
    rintro e w1 ⟨rfl, hS1⟩
    go_wp2_with fail
    refine (slen_walk N (by omega) _).mono ?_
    rintro e w2 ⟨rfl, rfl⟩
    go_wp2_with fail
    have hc := spdq_walk H hO (N + 1) 0 N (bitsLen N) d _ (by omega) hS1 (by omega) (by omega) (by omega) (Or.inl rfl)
    refine hc.mono ?_
    rintro e w3 ⟨rfl, d', q1, q2, hS3⟩
    clear hc
    go_wp2_with fail
    go_end0
    exact ⟨rfl, d', q1, q2, hS3⟩
end Go.Proofs.YtkehnmapnckdgaaDoor
