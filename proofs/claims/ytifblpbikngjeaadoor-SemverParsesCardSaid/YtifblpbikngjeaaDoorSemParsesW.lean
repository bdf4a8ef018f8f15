/- The walk of SemverParses, over the program's contracts. -/
import Derived.Test.YtifblpbikngjeaaDoorSemAwake
namespace Go.Proofs.YtifblpbikngjeaaDoor
open Go.RowKit
set_option linter.unusedVariables false

set_option maxRecDepth 100000 in
set_option maxHeartbeats 2000000 in
theorem parses_gen (s : ByteArray) (hs : s.size ≤ 140737488351232) (u : Sem.Ver) (e0 : Int) (hp : parseR (Sem.parse s.data.toList) = .tuple #[verV u, .int .i64 e0]) (w : World) (hg : Globs w) :
    Calls Tryd.prog 3 #[.string s] w fun e w' => e = .returned (.bool true) ∧ Below w.heap.size w w' := by
  obtain ⟨a, b, c, p⟩ := u
  have HP : Hid (parseR (Sem.parse s.data.toList) = .tuple #[.agg #[.int .i64 a, .int .i64 b, .int .i64 c, .string ⟨p.toArray⟩], .int .i64 e0]) := Lib.hid hp
  clear hp
  have haa : (a == a) = true := by simp
  have hbb : (b == b) = true := by simp
  have hcc : (c == c) = true := by simp
  have hpp : (p == p) = true := by simp
  have hee : (e0 == e0) = true := by simp
  go_enter Tryd.func3, Tryd.ntmps3
  go_wp2_with fail
  refine (parse_walk s hs _ hg).mono ?_
  rintro e w1 ⟨he, hb1⟩
  rw [HP.out] at he
  subst he
  go_wp2_with fail
  generalize hW1 : w1.alloc (Obj.cells #[Value.int IntKind.i64 a, Value.int IntKind.i64 b, Value.int IntKind.i64 c, Value.string ⟨p.toArray⟩] 23) = W1
  have hV1 : VerAt W1 w1.heap.size ⟨a, b, c, p⟩ := by rw [← hW1]; exact ver_new w1 ⟨a, b, c, p⟩
  have hB1 : Below w.heap.size w W1 := by rw [← hW1]; exact below_new hb1 _
  clear hW1
  refine (rparse_walk s (by omega) _).mono ?_
  rintro e w2 ⟨he, hb2⟩
  rw [HP.out] at he
  subst he
  obtain ⟨h0, h1, h2, h3, h4⟩ := hV1.next hb2
  simp only at h1 h2 h3 h4
  have hB2 := below_next hB1 hb2
  clear hV1 hB1 hb2
  go_wp2_with fail
  refine (awake_walk _ (hg.next (below_new hB2 _))).mono ?_
  rintro e w3 ⟨rfl, hb3⟩
  go_wp2
  go_ret
  exact ⟨rfl, below_next (below_new hB2 _) hb3⟩

theorem parses_walk (s : ByteArray) (hs : s.size ≤ 140737488351232) (w : World) (hg : Globs w) :
    Calls Tryd.prog 3 #[.string s] w fun e w' => e = .returned (.bool true) ∧ Below w.heap.size w w' := by
  rcases hp : Sem.parse s.data.toList with _ | v
  · exact parses_gen s hs ⟨0, 0, 0, []⟩ 40 (by rw [hp]; rfl) w hg
  · exact parses_gen s hs v 0 (by rw [hp]; rfl) w hg
end Go.Proofs.YtifblpbikngjeaaDoor
