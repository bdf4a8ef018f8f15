/- The document's Highest: of any versions. -/
import Derived.Test.YtifblpbikngjeaaDoorSemRCmp
import Derived.Test.YtifblpbikngjeaaDoorSemLead
import Derived.Test.YtifblpbikngjeaaDoorVers
import Derived.Test.YtifblpbikngjeaaDoorSemParse
import Derived.StillTailTactics
namespace Go.Proofs.YtifblpbikngjeaaDoor
open Go.RowKit
set_option linter.unusedVariables false

def highR (o : Option Sem.Ver) : Value := match o with
  | some v => .tuple #[verV v, .bool true]
  | none => .tuple #[verV ⟨0, 0, 0, []⟩, .bool false]

set_option maxRecDepth 100000 in
set_option maxHeartbeats 2000000 in
theorem rhigh_walk (A : Option Addr) (cap : Nat) (l : List Sem.Ver) (w : World) (hA : Vers w w.heap.size A l) (hl : l.length ≤ 1000000) (hs : ∀ v ∈ l, v.pre.length ≤ 1000000) :
    Calls Tryd.prog 22 #[.slice A l.length cap] w fun e w' => e = .returned (highR (Sem.best l)) ∧ Below w.heap.size w w' := by
  have HS := Lib.hid hs
  have HA := Lib.hid hA
  clear hs hA
  go_enter Tryd.func22, Tryd.ntmps22
  go_wp2_with fail
  generalize hW0 : w.alloc (Obj.cells #[Value.int IntKind.i64 0, Value.int IntKind.i64 0, Value.int IntKind.i64 0, Value.string ⟨#[]⟩] 23) = W0
  have hR0 : VerAt W0 w.heap.size ⟨0, 0, 0, []⟩ := by rw [← hW0]; exact ver_new w ⟨0, 0, 0, []⟩
  have hF0 : Hid (W0.frozen? ⟨w.heap.size, 0, none⟩ = false ∧ W0.frozen? ⟨w.heap.size, 1, none⟩ = false ∧ W0.frozen? ⟨w.heap.size, 2, none⟩ = false ∧ W0.frozen? ⟨w.heap.size, 3, none⟩ = false) := by
    rw [← hW0]; exact Lib.hid ⟨by simp [go_sem], by simp [go_sem], by simp [go_sem], by simp [go_sem]⟩
  have hb0 : Below w.heap.size w W0 := by rw [← hW0]; exact below_one _ _
  have HR0 := Lib.hid hR0
  clear hW0 hR0
  go_loopw [4] (fun ii wr => ∃ i : Nat, ii = .int .i64 i ∧ i ≤ l.length ∧ Hid (∀ j (hj : j < l.length), j < i → Sem.top l l[j] = false) ∧ Below W0.heap.size W0 wr)
    (fun i _ => l.length - (intOf i).toNat)
  case atStart => exact ⟨0, rfl, Nat.zero_le _, Lib.hid (fun j _ hj => absurd hj (by omega)), Below.refl _ _⟩
  case round =>
    obtain ⟨i, rfl, hi, HN, hb⟩ := hrel
    by_cases hlt : i < l.length
    · go_wp2_with fail
      go_loopw [5, 6] (fun b kk w2 => ∃ (k : Nat) (t : Bool), kk = .int .i64 k ∧ k ≤ l.length ∧ b = .bool t ∧ Hid (t = (l.take k).all fun u => decide (Sem.cmp u l[i] ≤ 0)) ∧ Below W0.heap.size W0 w2)
        (fun _ k _ => l.length - (intOf k).toNat)
      case atStart => exact ⟨0, true, rfl, Nat.zero_le _, rfl, Lib.hid rfl, hb⟩
      case round =>
        obtain ⟨k, t, rfl, hk, rfl, HT, hb2⟩ := hrel
        by_cases hlt2 : k < l.length
        · cases t
          · have HTN : Hid (false = (l.take (k + 1)).all fun u => decide (Sem.cmp u l[i] ≤ 0)) := Lib.hid (by
              rw [List.take_succ_eq_append_getElem hlt2, List.all_append, ← HT.out]; rfl)
            go_wp2_with fail
            go_quiet (fail)
            go_wp2_with fail
            go_roundw
            case rel => exact ⟨k + 1, false, by go_num, by omega, rfl, HTN, below_drewN hb2 _⟩
            case measure => simp [intOf]; omega
          · have HTN : Hid (decide (Sem.cmp l[k] l[i] ≤ 0) = (l.take (k + 1)).all fun u => decide (Sem.cmp u l[i] ≤ 0)) := Lib.hid (by
              rw [List.take_succ_eq_append_getElem hlt2, List.all_append, ← HT.out]; simp)
            have hbw : Below w.heap.size w wr := hb0.trans (hb2.mono hb0.size)
            rcases HA.out.keep hbw (Nat.le_refl _) with h0 | ⟨g, off, rfl, _, hc⟩
            · omega
            · obtain ⟨p0, p1, p2, p3⟩ := hc k hlt2
              obtain ⟨q0, q1, q2, q3⟩ := hc i hlt
              have hx := HS.out l[k] (List.getElem_mem _)
              have hy := HS.out l[i] (List.getElem_mem _)
              obtain ⟨x, hxe⟩ : ∃ x, x = l[k] := ⟨_, rfl⟩
              obtain ⟨y, hye⟩ : ∃ y, y = l[i] := ⟨_, rfl⟩
              rw [← hxe] at p0 p1 p2 p3 hx HTN
              rw [← hye] at q0 q1 q2 q3 hy HTN
              have HYE := Lib.hid hye
              simp only [Nat.add_zero] at p0 q0
              clear hc hxe hye
              have hk1 : (k : Int) < (l.length : Int) := by omega
              have hi1 : (i : Int) < (l.length : Int) := by omega
              go_wp2_with fail
              go_still_tail 10, (by kernel_rfl)
              change wpList _ _ _ _ _ wr.drew
              go_wp2_with fail
              refine (rcmp_walk x y hx hy _).mono ?_
              rintro e w3 ⟨rfl, hb3⟩
              have hb4 : Below W0.heap.size W0 w3 := (hb2.drew).trans (hb3.mono (by show W0.heap.size ≤ wr.heap.size; exact hb2.size))
              clear p0 p1 p2 p3 q0 q1 q2 q3 hk1 hi1 hb3
              go_wp2_with fail
              go_roundw
              case rel => exact ⟨k + 1, _, by go_num, by omega, rfl, by rw [← HYE.out]; exact HTN, hb4⟩
              case measure => simp [intOf]; omega
        · have HTT : Hid (t = Sem.top l l[i]) := Lib.hid (by rw [HT.out, Sem.top, List.take_of_length_le (by omega)])
          cases t
          · have HN2 : Hid (∀ j (hj : j < l.length), j < i + 1 → Sem.top l l[j] = false) := Lib.hid (fun j hj h => by
              rcases Nat.lt_succ_iff_lt_or_eq.1 h with h | rfl
              · exact HN.out j hj h
              · exact HTT.out.symm)
            go_wp2_with fail
            go_roundw
            case rel => exact ⟨i + 1, by go_num, by omega, HN2, hb2⟩
            case measure => simp [intOf]; omega
          · have HB : Hid (Sem.best l = some l[i]) := Lib.hid (Sem.best_at hlt HTT.out.symm HN.out)
            have hbw : Below w.heap.size w wr := hb0.trans (hb2.mono hb0.size)
            obtain ⟨hgz, r0, r1, r2, r3⟩ := HR0.out
            obtain ⟨f0, f1, f2, f3⟩ := hF0.out
            rw [← (cell_of_below (o := 0) hb2 hgz).1] at r0
            rw [← (cell_of_below (o := 1) hb2 hgz).1] at r1
            rw [← (cell_of_below (o := 2) hb2 hgz).1] at r2
            rw [← (cell_of_below (o := 3) hb2 hgz).1] at r3
            rw [← (cell_of_below (o := 0) hb2 hgz).2] at f0
            rw [← (cell_of_below (o := 1) hb2 hgz).2] at f1
            rw [← (cell_of_below (o := 2) hb2 hgz).2] at f2
            rw [← (cell_of_below (o := 3) hb2 hgz).2] at f3
            clear hgz
            rcases HA.out.keep hbw (Nat.le_refl _) with h0 | ⟨g, off, rfl, hgw, hc⟩
            · omega
            · obtain ⟨q0, q1, q2, q3⟩ := hc i hlt
              obtain ⟨y, hye⟩ : ∃ y, y = l[i] := ⟨_, rfl⟩
              rw [← hye] at q0 q1 q2 q3 HB
              simp only [Nat.add_zero] at q0
              clear hc hye
              have hi1 : (i : Int) < (l.length : Int) := by omega
              go_wp2
              refine bodyPost_ret (v := .tuple #[.agg #[.int .i64 y.maj, .int .i64 y.min, .int .i64 y.pat, .string ⟨y.pre.toArray⟩], .bool true]) (by simp [results, Tryd.results22, go_sem, r0, r1, r2, r3]) rfl ?_
              exact ⟨by rw [HB.out]; rfl, bel4 hbw⟩
    · have HB : Hid (Sem.best l = none) := Lib.hid (Sem.best_none (fun j hj => HN.out j hj (by omega)))
      have hb2 := hb
      have hbw : Below w.heap.size w wr := hb0.trans (hb2.mono hb0.size)
      obtain ⟨hgz, r0, r1, r2, r3⟩ := HR0.out
      obtain ⟨f0, f1, f2, f3⟩ := hF0.out
      rw [← (cell_of_below (o := 0) hb2 hgz).1] at r0
      rw [← (cell_of_below (o := 1) hb2 hgz).1] at r1
      rw [← (cell_of_below (o := 2) hb2 hgz).1] at r2
      rw [← (cell_of_below (o := 3) hb2 hgz).1] at r3
      rw [← (cell_of_below (o := 0) hb2 hgz).2] at f0
      rw [← (cell_of_below (o := 1) hb2 hgz).2] at f1
      rw [← (cell_of_below (o := 2) hb2 hgz).2] at f2
      rw [← (cell_of_below (o := 3) hb2 hgz).2] at f3
      clear hgz
      go_wp2
      refine bodyPost_ret (v := .tuple #[.agg #[.int .i64 0, .int .i64 0, .int .i64 0, .string ByteArray.empty], .bool false]) (by simp [results, Tryd.results22, go_sem, r0, r1, r2, r3]; rfl) rfl ?_
      exact ⟨by rw [HB.out]; rfl, bel4 hbw⟩
end Go.Proofs.YtifblpbikngjeaaDoor
