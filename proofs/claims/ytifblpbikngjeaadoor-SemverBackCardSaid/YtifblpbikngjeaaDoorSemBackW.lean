/- The walk of SemverBack, over the program's contracts. -/
import Derived.Test.YtifblpbikngjeaaDoorSemAwake
namespace Go.Proofs.YtifblpbikngjeaaDoor
open Go.RowKit
set_option linter.unusedVariables false

set_option maxRecDepth 100000 in
set_option maxHeartbeats 2000000 in
theorem sback_yes_none (v : Sem.Ver) (hv : v.pre.length ≤ 140737488351232) (hm : Sem.may v = true) (s : ByteArray) (hs : s.size ≤ 140737488351232) (hp : Sem.parse s.data.toList = none) (w : World) (hg : Globs w) :
    Calls Tryd.prog 7 #[verV v, .string s] w fun e w' => e = .returned (.bool true) ∧ Below w.heap.size w w' := by
  obtain ⟨a, b, c, p⟩ := v
  have HC : Hid (chk ⟨a, b, c, p⟩ = 0) := Lib.hid (by rw [chk, if_pos hm])
  have HSH : Hid (showR ⟨a, b, c, p⟩ = .tuple #[.string ⟨(Sem.text ⟨a, b, c, p⟩).toArray⟩, .int .i64 0]) := Lib.hid (by rw [showR, if_pos hm])
  have HPT : Hid (parseR (Sem.parse (⟨(Sem.text ⟨a, b, c, p⟩).toArray⟩ : ByteArray).data.toList) = .tuple #[.agg #[.int .i64 a, .int .i64 b, .int .i64 c, .string ⟨p.toArray⟩], .int .i64 0]) := Lib.hid (by
    show parseR (Sem.parse (Sem.text ⟨a, b, c, p⟩)) = _
    rw [Sem.parse_text hm]; rfl)
  have htl := Sem.text_len hm
  have haa : (a == a) = true := by simp
  have hbb : (b == b) = true := by simp
  have hcc : (c == c) = true := by simp
  have hpp : (p == p) = true := by simp
  clear hm
  have HPS : Hid (parseR (Sem.parse s.data.toList) = .tuple #[.agg #[.int .i64 0, .int .i64 0, .int .i64 0, .string ⟨#[]⟩], .int .i64 40]) := Lib.hid (by rw [hp]; rfl)
  clear hp
  unfold verV
  go_enter Tryd.func7, Tryd.ntmps7
  go_wp2_with fail
  generalize hW0 : w.alloc (Obj.cells #[Value.int IntKind.i64 a, Value.int IntKind.i64 b, Value.int IntKind.i64 c, Value.string ⟨p.toArray⟩] 23) = W0
  have hV0 : VerAt W0 w.heap.size ⟨a, b, c, p⟩ := by rw [← hW0]; exact ver_new w ⟨a, b, c, p⟩
  have hB0 : Below w.heap.size w W0 := by rw [← hW0]; exact below_one _ _
  clear hW0
  refine (check_walk ⟨a, b, c, p⟩ hv _).mono ?_
  rintro e w1 ⟨he, hb1⟩
  rw [HC.out] at he
  subst he
  have hV1 := hV0.next hb1
  have hB1 := below_next hB0 hb1
  clear hV0 hB0 hb1
  obtain ⟨h0, h1, h2, h3, h4⟩ := hV1
  simp only at h1 h2 h3 h4
  go_wp2_with fail
  refine (show_walk ⟨a, b, c, p⟩ hv _ (hg.next hB1)).mono ?_
  rintro e w2 ⟨he, hb2⟩
  rw [HSH.out] at he
  subst he
  have hV2 := VerAt.next (v := ⟨a, b, c, p⟩) ⟨h0, h1, h2, h3, h4⟩ hb2
  have hB2 := below_next hB1 hb2
  clear h0 h1 h2 h3 h4 hB1 hb2
  go_wp2_with fail
  refine (parse_walk ⟨(Sem.text ⟨a, b, c, p⟩).toArray⟩ (by rw [size_list]; omega) _ (hg.next hB2)).mono ?_
  rintro e w3 ⟨he, hb3⟩
  rw [HPT.out] at he
  subst he
  obtain ⟨h0, h1, h2, h3, h4⟩ := hV2.next hb3
  simp only at h1 h2 h3 h4
  have hB3 := below_next hB2 hb3
  clear hV2 hB2 hb3
  go_wp2_with fail
  generalize hW3 : w3.alloc (Obj.cells #[Value.int IntKind.i64 a, Value.int IntKind.i64 b, Value.int IntKind.i64 c, Value.string ⟨p.toArray⟩] 23) = W3
  have hB : Below w.heap.size w W3 := by rw [← hW3]; exact below_new hB3 _
  clear h0 h1 h2 h3 h4 hW3 hB3
  refine (parse_walk s hs _ (hg.next hB)).mono ?_
  rintro e w5 ⟨he, hb5⟩
  rw [HPS.out] at he
  subst he
  have hB5 := below_next hB hb5
  clear hB hb5
  go_wp2_with fail
  refine (awake_walk _ (hg.next (below_new hB5 _))).mono ?_
  rintro e w6 ⟨rfl, hb6⟩
  go_wp2
  go_ret
  exact ⟨rfl, below_next (below_new hB5 _) hb6⟩

set_option maxRecDepth 100000 in
set_option maxHeartbeats 2000000 in
theorem sback_yes_some (v : Sem.Ver) (hv : v.pre.length ≤ 140737488351232) (hm : Sem.may v = true) (s : ByteArray) (hs : s.size ≤ 140737488351232) (u : Sem.Ver) (hp : Sem.parse s.data.toList = some u) (w : World) (hg : Globs w) :
    Calls Tryd.prog 7 #[verV v, .string s] w fun e w' => e = .returned (.bool true) ∧ Below w.heap.size w w' := by
  obtain ⟨a, b, c, p⟩ := v
  have HC : Hid (chk ⟨a, b, c, p⟩ = 0) := Lib.hid (by rw [chk, if_pos hm])
  have HSH : Hid (showR ⟨a, b, c, p⟩ = .tuple #[.string ⟨(Sem.text ⟨a, b, c, p⟩).toArray⟩, .int .i64 0]) := Lib.hid (by rw [showR, if_pos hm])
  have HPT : Hid (parseR (Sem.parse (⟨(Sem.text ⟨a, b, c, p⟩).toArray⟩ : ByteArray).data.toList) = .tuple #[.agg #[.int .i64 a, .int .i64 b, .int .i64 c, .string ⟨p.toArray⟩], .int .i64 0]) := Lib.hid (by
    show parseR (Sem.parse (Sem.text ⟨a, b, c, p⟩)) = _
    rw [Sem.parse_text hm]; rfl)
  have htl := Sem.text_len hm
  have haa : (a == a) = true := by simp
  have hbb : (b == b) = true := by simp
  have hcc : (c == c) = true := by simp
  have hpp : (p == p) = true := by simp
  clear hm
  obtain ⟨hm2, ht2⟩ := Sem.parse_some hp
  obtain ⟨a2, b2, c2, p2⟩ := u
  have HPS : Hid (parseR (Sem.parse s.data.toList) = .tuple #[.agg #[.int .i64 a2, .int .i64 b2, .int .i64 c2, .string ⟨p2.toArray⟩], .int .i64 0]) := Lib.hid (by rw [hp]; rfl)
  have HC2 : Hid (chk ⟨a2, b2, c2, p2⟩ = 0) := Lib.hid (by rw [chk, if_pos hm2])
  obtain ⟨x, hx⟩ : ∃ x, x = Sem.text ⟨a2, b2, c2, p2⟩ := ⟨_, rfl⟩
  have HS2 : Hid (showR ⟨a2, b2, c2, p2⟩ = .tuple #[.string ⟨x.toArray⟩, .int .i64 0]) := Lib.hid (by rw [showR, if_pos hm2, hx])
  have hts : (x == s.toList) = true := by rw [tx_list, beq_iff_eq, hx, ht2]
  have hpl2 : p2.length ≤ 24 := ((Sem.may_iff _).1 hm2).2.2.2.1
  clear hp hm2 ht2 hx
  unfold verV
  go_enter Tryd.func7, Tryd.ntmps7
  go_wp2_with fail
  generalize hW0 : w.alloc (Obj.cells #[Value.int IntKind.i64 a, Value.int IntKind.i64 b, Value.int IntKind.i64 c, Value.string ⟨p.toArray⟩] 23) = W0
  have hV0 : VerAt W0 w.heap.size ⟨a, b, c, p⟩ := by rw [← hW0]; exact ver_new w ⟨a, b, c, p⟩
  have hB0 : Below w.heap.size w W0 := by rw [← hW0]; exact below_one _ _
  clear hW0
  refine (check_walk ⟨a, b, c, p⟩ hv _).mono ?_
  rintro e w1 ⟨he, hb1⟩
  rw [HC.out] at he
  subst he
  have hV1 := hV0.next hb1
  have hB1 := below_next hB0 hb1
  clear hV0 hB0 hb1
  obtain ⟨h0, h1, h2, h3, h4⟩ := hV1
  simp only at h1 h2 h3 h4
  go_wp2_with fail
  refine (show_walk ⟨a, b, c, p⟩ hv _ (hg.next hB1)).mono ?_
  rintro e w2 ⟨he, hb2⟩
  rw [HSH.out] at he
  subst he
  have hV2 := VerAt.next (v := ⟨a, b, c, p⟩) ⟨h0, h1, h2, h3, h4⟩ hb2
  have hB2 := below_next hB1 hb2
  clear h0 h1 h2 h3 h4 hB1 hb2
  go_wp2_with fail
  refine (parse_walk ⟨(Sem.text ⟨a, b, c, p⟩).toArray⟩ (by rw [size_list]; omega) _ (hg.next hB2)).mono ?_
  rintro e w3 ⟨he, hb3⟩
  rw [HPT.out] at he
  subst he
  obtain ⟨h0, h1, h2, h3, h4⟩ := hV2.next hb3
  simp only at h1 h2 h3 h4
  have hB3 := below_next hB2 hb3
  clear hV2 hB2 hb3
  go_wp2_with fail
  generalize hW3 : w3.alloc (Obj.cells #[Value.int IntKind.i64 a, Value.int IntKind.i64 b, Value.int IntKind.i64 c, Value.string ⟨p.toArray⟩] 23) = W3
  have hB : Below w.heap.size w W3 := by rw [← hW3]; exact below_new hB3 _
  clear h0 h1 h2 h3 h4 hW3 hB3
  refine (parse_walk s hs _ (hg.next hB)).mono ?_
  rintro e w5 ⟨he, hb5⟩
  rw [HPS.out] at he
  subst he
  have hB5 := below_next hB hb5
  clear hB hb5
  go_wp2_with fail
  generalize hW5 : w5.alloc (Obj.cells #[Value.int IntKind.i64 a2, Value.int IntKind.i64 b2, Value.int IntKind.i64 c2, Value.string ⟨p2.toArray⟩] 23) = W5
  have hV5 : VerAt W5 w5.heap.size ⟨a2, b2, c2, p2⟩ := by rw [← hW5]; exact ver_new w5 ⟨a2, b2, c2, p2⟩
  have hB6 : Below w.heap.size w W5 := by rw [← hW5]; exact below_new hB5 _
  clear hW5 hB5
  refine (show_walk ⟨a2, b2, c2, p2⟩ (by simp only; omega) _ (hg.next hB6)).mono ?_
  rintro e w7 ⟨he, hb7⟩
  rw [HS2.out] at he
  subst he
  obtain ⟨h0, h1, h2, h3, h4⟩ := hV5.next hb7
  simp only at h1 h2 h3 h4
  have hB7 := below_next hB6 hb7
  clear hV5 hB6 hb7
  go_wp2_with fail
  refine (check_walk ⟨a2, b2, c2, p2⟩ (by simp only; omega) _).mono ?_
  rintro e w8 ⟨he, hb8⟩
  rw [HC2.out] at he
  subst he
  have hB8 := below_next hB7 hb8
  clear h0 h1 h2 h3 h4 hB7 hb8
  go_wp2_with fail
  refine (awake_walk _ (hg.next hB8)).mono ?_
  rintro e w9 ⟨rfl, hb9⟩
  go_wp2
  go_ret
  exact ⟨rfl, below_next hB8 hb9⟩

set_option maxRecDepth 100000 in
set_option maxHeartbeats 2000000 in
theorem sback_no_none (v : Sem.Ver) (hv : v.pre.length ≤ 140737488351232) (hm : Sem.may v = false) (s : ByteArray) (hs : s.size ≤ 140737488351232) (hp : Sem.parse s.data.toList = none) (w : World) (hg : Globs w) :
    Calls Tryd.prog 7 #[verV v, .string s] w fun e w' => e = .returned (.bool true) ∧ Below w.heap.size w w' := by
  obtain ⟨a, b, c, p⟩ := v
  have HC : Hid (chk ⟨a, b, c, p⟩ = 40) := Lib.hid (by rw [chk, hm, if_neg (by simp)])
  clear hm
  have HPS : Hid (parseR (Sem.parse s.data.toList) = .tuple #[.agg #[.int .i64 0, .int .i64 0, .int .i64 0, .string ⟨#[]⟩], .int .i64 40]) := Lib.hid (by rw [hp]; rfl)
  clear hp
  unfold verV
  go_enter Tryd.func7, Tryd.ntmps7
  go_wp2_with fail
  generalize hW0 : w.alloc (Obj.cells #[Value.int IntKind.i64 a, Value.int IntKind.i64 b, Value.int IntKind.i64 c, Value.string ⟨p.toArray⟩] 23) = W0
  have hV0 : VerAt W0 w.heap.size ⟨a, b, c, p⟩ := by rw [← hW0]; exact ver_new w ⟨a, b, c, p⟩
  have hB0 : Below w.heap.size w W0 := by rw [← hW0]; exact below_one _ _
  clear hW0
  refine (check_walk ⟨a, b, c, p⟩ hv _).mono ?_
  rintro e w1 ⟨he, hb1⟩
  rw [HC.out] at he
  subst he
  have hV1 := hV0.next hb1
  have hB1 := below_next hB0 hb1
  clear hV0 hB0 hb1
  have hB := hB1
  clear hV1 hB1
  go_wp2_with fail
  refine (parse_walk s hs _ (hg.next hB)).mono ?_
  rintro e w5 ⟨he, hb5⟩
  rw [HPS.out] at he
  subst he
  have hB5 := below_next hB hb5
  clear hB hb5
  go_wp2_with fail
  refine (awake_walk _ (hg.next (below_new hB5 _))).mono ?_
  rintro e w6 ⟨rfl, hb6⟩
  go_wp2
  go_ret
  exact ⟨rfl, below_next (below_new hB5 _) hb6⟩

set_option maxRecDepth 100000 in
set_option maxHeartbeats 2000000 in
theorem sback_no_some (v : Sem.Ver) (hv : v.pre.length ≤ 140737488351232) (hm : Sem.may v = false) (s : ByteArray) (hs : s.size ≤ 140737488351232) (u : Sem.Ver) (hp : Sem.parse s.data.toList = some u) (w : World) (hg : Globs w) :
    Calls Tryd.prog 7 #[verV v, .string s] w fun e w' => e = .returned (.bool true) ∧ Below w.heap.size w w' := by
  obtain ⟨a, b, c, p⟩ := v
  have HC : Hid (chk ⟨a, b, c, p⟩ = 40) := Lib.hid (by rw [chk, hm, if_neg (by simp)])
  clear hm
  obtain ⟨hm2, ht2⟩ := Sem.parse_some hp
  obtain ⟨a2, b2, c2, p2⟩ := u
  have HPS : Hid (parseR (Sem.parse s.data.toList) = .tuple #[.agg #[.int .i64 a2, .int .i64 b2, .int .i64 c2, .string ⟨p2.toArray⟩], .int .i64 0]) := Lib.hid (by rw [hp]; rfl)
  have HC2 : Hid (chk ⟨a2, b2, c2, p2⟩ = 0) := Lib.hid (by rw [chk, if_pos hm2])
  obtain ⟨x, hx⟩ : ∃ x, x = Sem.text ⟨a2, b2, c2, p2⟩ := ⟨_, rfl⟩
  have HS2 : Hid (showR ⟨a2, b2, c2, p2⟩ = .tuple #[.string ⟨x.toArray⟩, .int .i64 0]) := Lib.hid (by rw [showR, if_pos hm2, hx])
  have hts : (x == s.toList) = true := by rw [tx_list, beq_iff_eq, hx, ht2]
  have hpl2 : p2.length ≤ 24 := ((Sem.may_iff _).1 hm2).2.2.2.1
  clear hp hm2 ht2 hx
  unfold verV
  go_enter Tryd.func7, Tryd.ntmps7
  go_wp2_with fail
  generalize hW0 : w.alloc (Obj.cells #[Value.int IntKind.i64 a, Value.int IntKind.i64 b, Value.int IntKind.i64 c, Value.string ⟨p.toArray⟩] 23) = W0
  have hV0 : VerAt W0 w.heap.size ⟨a, b, c, p⟩ := by rw [← hW0]; exact ver_new w ⟨a, b, c, p⟩
  have hB0 : Below w.heap.size w W0 := by rw [← hW0]; exact below_one _ _
  clear hW0
  refine (check_walk ⟨a, b, c, p⟩ hv _).mono ?_
  rintro e w1 ⟨he, hb1⟩
  rw [HC.out] at he
  subst he
  have hV1 := hV0.next hb1
  have hB1 := below_next hB0 hb1
  clear hV0 hB0 hb1
  have hB := hB1
  clear hV1 hB1
  go_wp2_with fail
  refine (parse_walk s hs _ (hg.next hB)).mono ?_
  rintro e w5 ⟨he, hb5⟩
  rw [HPS.out] at he
  subst he
  have hB5 := below_next hB hb5
  clear hB hb5
  go_wp2_with fail
  generalize hW5 : w5.alloc (Obj.cells #[Value.int IntKind.i64 a2, Value.int IntKind.i64 b2, Value.int IntKind.i64 c2, Value.string ⟨p2.toArray⟩] 23) = W5
  have hV5 : VerAt W5 w5.heap.size ⟨a2, b2, c2, p2⟩ := by rw [← hW5]; exact ver_new w5 ⟨a2, b2, c2, p2⟩
  have hB6 : Below w.heap.size w W5 := by rw [← hW5]; exact below_new hB5 _
  clear hW5 hB5
  refine (show_walk ⟨a2, b2, c2, p2⟩ (by simp only; omega) _ (hg.next hB6)).mono ?_
  rintro e w7 ⟨he, hb7⟩
  rw [HS2.out] at he
  subst he
  obtain ⟨h0, h1, h2, h3, h4⟩ := hV5.next hb7
  simp only at h1 h2 h3 h4
  have hB7 := below_next hB6 hb7
  clear hV5 hB6 hb7
  go_wp2_with fail
  refine (check_walk ⟨a2, b2, c2, p2⟩ (by simp only; omega) _).mono ?_
  rintro e w8 ⟨he, hb8⟩
  rw [HC2.out] at he
  subst he
  have hB8 := below_next hB7 hb8
  clear h0 h1 h2 h3 h4 hB7 hb8
  go_wp2_with fail
  refine (awake_walk _ (hg.next hB8)).mono ?_
  rintro e w9 ⟨rfl, hb9⟩
  go_wp2
  go_ret
  exact ⟨rfl, below_next hB8 hb9⟩

theorem sback_walk (v : Sem.Ver) (hv : v.pre.length ≤ 140737488351232) (s : ByteArray) (hs : s.size ≤ 140737488351232) (w : World) (hg : Globs w) :
    Calls Tryd.prog 7 #[verV v, .string s] w fun e w' => e = .returned (.bool true) ∧ Below w.heap.size w w' := by
  cases hm : Sem.may v
  · rcases hp : Sem.parse s.data.toList with _ | u
    · exact sback_no_none v hv hm s hs hp w hg
    · exact sback_no_some v hv hm s hs u hp w hg
  · rcases hp : Sem.parse s.data.toList with _ | u
    · exact sback_yes_none v hv hm s hs hp w hg
    · exact sback_yes_some v hv hm s hs u hp w hg
end Go.Proofs.YtifblpbikngjeaaDoor
