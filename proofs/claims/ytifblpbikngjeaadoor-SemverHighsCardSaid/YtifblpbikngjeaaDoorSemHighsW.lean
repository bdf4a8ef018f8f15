/- The walk of SemverHighs, over the program's contracts. -/
import Derived.Test.YtifblpbikngjeaaDoorSemAwake
namespace Go.Proofs.YtifblpbikngjeaaDoor
open Go.RowKit
set_option linter.unusedVariables false

theorem light_all {l : List Sem.Ver} (h : lightB l = true) : ∀ v ∈ l, v.pre.length ≤ 300 := fun v hv => of_decide_eq_true (List.all_eq_true.1 h v hv)

set_option maxRecDepth 100000 in
set_option maxHeartbeats 2000000 in
theorem highs_gen (A : Option Addr) (cap : Nat) (l : List Sem.Ver) (w : World) (hA : Vers w w.heap.size A l) (hl : l.length ≤ 50) (hL : lightB l = true) (u : Sem.Ver) (t : Bool) (hp : highR (Sem.best l) = .tuple #[verV u, .bool t]) (hcap : l.length ≤ cap) (hg : Globs w) :
    Calls Tryd.prog 6 #[.slice A l.length cap] w fun e w' => e = .returned (.bool true) ∧ Below w.heap.size w w' := by
  obtain ⟨a, b, c, p⟩ := u
  have HP : Hid (highR (Sem.best l) = .tuple #[.agg #[.int .i64 a, .int .i64 b, .int .i64 c, .string ⟨p.toArray⟩], .bool t]) := Lib.hid hp
  have HA := Lib.hid hA
  have HS := Lib.hid (light_all hL)
  have hcon : ∀ w', Below w.heap.size w w' → Calls Tryd.prog 13 #[.slice A l.length cap] w' fun e w'' => e = .returned (.bool true) ∧ w' = w'' := fun w' hb => by
    rw [← hL]; exact light_walk A cap l w' (HA.out.next hb) (by omega)
  have HC := Lib.hid hcon
  clear hp hA hL hcon
  have haa : (a == a) = true := by simp
  have hbb : (b == b) = true := by simp
  have hcc : (c == c) = true := by simp
  have hpp : (p == p) = true := by simp
  have htt : (t == t) = true := by simp
  go_enter Tryd.func6, Tryd.ntmps6
  go_wp2_with fail
  refine (HC.out _ (Below.refl _ _)).mono ?_
  rintro e w0 ⟨rfl, rfl⟩
  go_wp2_with fail
  refine (high_walk A cap l _ HA.out (by omega) hcap (fun v hv => by have := HS.out v hv; omega)).mono ?_
  rintro e w1 ⟨he, hb1⟩
  rw [HP.out] at he
  subst he
  go_wp2_with fail
  generalize hW1 : w1.alloc (Obj.cells #[Value.int IntKind.i64 a, Value.int IntKind.i64 b, Value.int IntKind.i64 c, Value.string ⟨p.toArray⟩] 23) = W1
  have hV1 : VerAt W1 w1.heap.size ⟨a, b, c, p⟩ := by rw [← hW1]; exact ver_new w1 ⟨a, b, c, p⟩
  have hB1 : Below w.heap.size w W1 := by rw [← hW1]; exact below_new hb1 _
  clear hW1
  refine (rhigh_walk A cap l _ (HA.out.next hB1) (by omega) (fun v hv => by have := HS.out v hv; omega)).mono ?_
  rintro e w2 ⟨he, hb2⟩
  rw [HP.out] at he
  subst he
  obtain ⟨h0, h1, h2, h3, h4⟩ := hV1.next hb2
  simp only at h1 h2 h3 h4
  have hB2 := below_next hB1 hb2
  clear hV1 hB1 hb2
  go_wp2_with fail
  refine (awake_walk _ (hg.next (below_new hB2 _))).mono ?_
  rintro e w3 ⟨rfl, hb3⟩
  go_wp2
  go_ret
  exact ⟨rfl, below_next (below_new hB2 _) hb3⟩

set_option maxRecDepth 100000 in
theorem highs_walk (A : Option Addr) (cap : Nat) (l : List Sem.Ver) (w : World) (hA : Vers w w.heap.size A l) (hl : l.length ≤ 9223372036854775807) (hcap : l.length ≤ cap) (hg : Globs w) :
    Calls Tryd.prog 6 #[.slice A l.length cap] w fun e w' => e = .returned (.bool true) ∧ Below w.heap.size w w' := by
  by_cases h50 : 50 < l.length
  · go_enter Tryd.func6, Tryd.ntmps6
    go_wp2_with fail
    refine (awake_walk _ hg).mono ?_
    rintro e w3 ⟨rfl, hb3⟩
    go_wp2
    go_ret
    exact ⟨rfl, hb3⟩
  · cases hL : lightB l
    · have hcon : Calls Tryd.prog 13 #[.slice A l.length cap] w fun e w'' => e = .returned (.bool false) ∧ w = w'' := by
        rw [← hL]; exact light_walk A cap l w hA hl
      have HC := Lib.hid hcon
      clear hcon hL
      go_enter Tryd.func6, Tryd.ntmps6
      go_wp2_with fail
      refine HC.out.mono ?_
      rintro e w0 ⟨rfl, rfl⟩
      go_wp2_with fail
      refine (awake_walk _ hg).mono ?_
      rintro e w3 ⟨rfl, hb3⟩
      go_wp2
      go_ret
      exact ⟨rfl, hb3⟩
    · rcases hp : Sem.best l with _ | v
      · exact highs_gen A cap l w hA (by omega) hL ⟨0, 0, 0, []⟩ false (by rw [hp]; rfl) hcap hg
      · exact highs_gen A cap l w hA (by omega) hL v true (by rw [hp]; rfl) hcap hg
end Go.Proofs.YtifblpbikngjeaaDoor
