/- The walk of LexParts. -/
import Derived.Test.YtebphmkefpaeaaaGreatDoorLexPlacesW
import Derived.Test.YtebphmkefpaeaaaGreatDoorLexBackW
namespace Lex
/-- One source behind the other, with a line's end between: their tokens. -/
def sh (d : Nat) (x : Tok × Nat) : Tok × Nat := (x.1, x.2 + d)

theorem shift0 (b : List UInt8) (d : Nat) : toks b d = match toks b 0 with
    | .error (e, j) => .error (e, j + d)
    | .ok l => .ok (l.map (sh d)) := by
  have h := toks_shift b.length b 0 d (Nat.le_refl _)
  rw [Nat.zero_add] at h
  exact h

theorem parts0 (a b : List UInt8) : toks (a ++ 10 :: b) 0 = match toks a 0 with
    | .error e => .error e
    | .ok l => (toks b (a.length + 1)).map (l ++ ·) := by
  have h := toks_parts a.length a b 0 (Nat.le_refl _)
  rw [Nat.zero_add] at h
  exact h

/-- Some moved, the rest not. -/
def moved (d : Nat) (m : List (Tok × Nat)) (k : Nat) : List (Tok × Nat) := (m.take k).map (sh d) ++ m.drop k
theorem moved_len (d : Nat) (m : List (Tok × Nat)) (k : Nat) : (moved d m k).length = m.length := by
  unfold moved; rw [List.length_append, List.length_map, List.length_take, List.length_drop]; omega
theorem moved_zero (d : Nat) (m : List (Tok × Nat)) : moved d m 0 = m := by simp [moved]
theorem moved_this (d : Nat) (m : List (Tok × Nat)) (k : Nat) (h : k < m.length) : moved d m k = (m.take k).map (sh d) ++ (m[k]'h) :: m.drop (k + 1) := by
  unfold moved; rw [List.drop_eq_getElem_cons h]
theorem moved_next (d : Nat) (m : List (Tok × Nat)) (k : Nat) (h : k < m.length) : moved d m (k + 1) = (m.take k).map (sh d) ++ sh d (m[k]'h) :: m.drop (k + 1) := by
  unfold moved
  rw [List.take_succ_eq_append_getElem h, List.map_append, List.append_assoc]; rfl

theorem scanR_joined {s : List UInt8} {l : List (Tok × Nat)} (hs : s.length ≤ 4096) (h : toks s 0 = .ok l) : scanR s = .ok (l ++ [(endTok, s.length)]) := by
  unfold scanR
  rw [if_neg (by omega), h]; rfl

theorem placedE_le {s : List UInt8} : ∀ (m : List (Tok × Nat)) (a : Nat), PlacedE s a m → ∀ x ∈ m, x.2 ≤ s.length
  | [], _, _, x, hx => by simp at hx
  | (t, p) :: r, a, h, x, hx => by
    obtain ⟨_, h2, _, h4⟩ := h
    rcases List.mem_cons.1 hx with rfl | hx
    · exact h2
    · rcases h4 with ⟨_, h⟩ | ⟨_, _, _, h⟩
      · exact placedE_le r _ h x hx
      · exact placedE_le r _ h x hx
end Lex
namespace Go.Proofs.YtebphmkefpaeaaaGreatDoor
open Go.RowKit
set_option linter.unusedVariables false

set_option maxRecDepth 100000 in
set_option maxHeartbeats 4000000 in
theorem parts_long (a b : List UInt8) (ha : a.length ≤ 140737488351232) (hb : b.length ≤ 140737488351232) (hab : 4096 ≤ a.length + b.length) (w : World) (hg : Globs w) :
    Calls Tryz.prog 8 #[.string ⟨a.toArray⟩, .string ⟨b.toArray⟩] w fun e w' => e = .returned (.bool true) ∧ Below w.heap.size w w' := by
  have HG := Lib.hid hg
  have hza : (⟨a.toArray⟩ : ByteArray).size = a.length := size_list _
  have hzb : (⟨b.toArray⟩ : ByteArray).size = b.length := size_list _
  have hge : (4096 : Int) ≤ (a.length : Int) + (b.length : Int) := by omega
  clear hg
  go_enter Tryz.func8, Tryz.ntmps8
  go_wp2_with fail
  refine (awake_walk _ HG.out).mono ?_
  rintro e w4 ⟨rfl, hb4⟩
  go_wp2
  go_ret
  exact ⟨rfl, hb4⟩

theorem parts_text (a b : List UInt8) : (⟨a.toArray⟩ : ByteArray) ++ ⟨#[10]⟩ ++ ⟨b.toArray⟩ = ⟨(a ++ 10 :: b).toArray⟩ := by
  have e : (⟨#[10]⟩ : ByteArray) = ⟨([10] : List UInt8).toArray⟩ := rfl
  have e2 : a ++ 10 :: b = a ++ [10] ++ b := by rw [List.append_assoc]; rfl
  rw [e, e2, ← ba_append, ← ba_append]

set_option maxRecDepth 100000 in
set_option maxHeartbeats 8000000 in
theorem parts_err1 (a b : List UInt8) (hab : a.length + b.length < 4096) (x : Int) (k : Nat) (hq : Lex.toks a 0 = .error (x, k)) (w : World) (hg : Globs w) :
    Calls Tryz.prog 8 #[.string ⟨a.toArray⟩, .string ⟨b.toArray⟩] w fun e w' => e = .returned (.bool true) ∧ Below w.heap.size w w' := by
  have HG := Lib.hid hg
  have hla : (a ++ 10 :: b).length ≤ 4096 := by rw [List.length_append, List.length_cons]; omega
  have hqa : Lex.scanR a = .error (x, k) := by rw [scanR_toks (by omega), hq]
  have hqn : Lex.scanR (a ++ 10 :: b) = .error (x, k) := by rw [scanR_toks hla, Lex.parts0, hq]
  have hx0 := Lex.scanR_err hqa
  have hxn : (x != 0) = true := by simpa using hx0
  have hkk : (k : Int) ≤ (k : Int) := Int.le_refl _
  have hza : (⟨a.toArray⟩ : ByteArray).size = a.length := size_list _
  have hzb : (⟨b.toArray⟩ : ByteArray).size = b.length := size_list _
  have hge : ¬ (4096 : Int) ≤ (a.length : Int) + (b.length : Int) := by omega
  have hw2 := fun w hg => oscanL_walk (a ++ 10 :: b) (by omega) w hg
  rw [← parts_text] at hw2
  have HW2 := Lib.hid hw2
  have HQA := Lib.hid hqa
  have HQN := Lib.hid hqn
  clear hg hq hqa hqn hw2 hx0
  go_enter Tryz.func8, Tryz.ntmps8
  go_wp2_with fail
  refine (oscanL_walk a (by omega) _ HG.out).mono ?_
  rintro e w1 h1
  obtain ⟨A1, cap1, rfl, hb1⟩ := scanV_err h1 HQA.out
  have hbf := below_one w1 (.cells #[.int .i64 x, .int .i64 (k : Int)] 27)
  have HF1 := Lib.hid (box2_new w1 x k)
  have HB1 := Lib.hid (below_next hb1 hbf)
  clear h1 hb1 hbf
  go_wp2_with fail
  generalize hW : w1.alloc (.cells #[.int .i64 x, .int .i64 (k : Int)] 27) = W1 at HF1 HB1 ⊢
  clear hW
  refine (oscanL_walk b (by omega) _ (HG.out.next HB1.out)).mono ?_
  rintro e w2 h2
  obtain ⟨A2, cap2, l2, a2, b2, rfl, _, hb2, _⟩ := h2
  have hbf := below_one w2 (.cells #[.int .i64 a2, .int .i64 b2] 27)
  have hb2' := below_next hb2 hbf
  have HF2 := Lib.hid (HF1.out.keep (B := W1.heap.size) HF1.out.1 hb2')
  have HB2 := Lib.hid (below_next HB1.out hb2')
  clear hb2 hb2' hbf HF1
  go_wp2_with fail
  generalize hW : w2.alloc (.cells #[.int .i64 a2, .int .i64 b2] 27) = W2 at HF2 HB2 ⊢
  clear hW
  refine (HW2.out _ (HG.out.next HB2.out)).mono ?_
  rintro e w3 h3
  obtain ⟨A3, cap3, rfl, hb3⟩ := scanV_err h3 HQN.out
  have hbf := below_one w3 (.cells #[.int .i64 x, .int .i64 (k : Int)] 27)
  have hb3' := below_next hb3 hbf
  have HF3 := Lib.hid (HF2.out.keep (B := W2.heap.size) HF2.out.1 hb3')
  have HB3 := Lib.hid (below_next HB2.out hb3')
  obtain ⟨q0, x0, x1, _, _⟩ := HF2.out.keep (B := W2.heap.size) HF2.out.1 hb3
  have HH := Lib.hid (box2_new w3 x k)
  clear h3 hb3 hb3' hbf HF2
  go_wp2_with fail
  refine (awake_walk _ (HG.out.next HB3.out)).mono ?_
  rintro e w4 ⟨rfl, hb4⟩
  go_wp2
  go_ret
  exact ⟨rfl, below_next HB3.out hb4⟩

set_option maxRecDepth 100000 in
set_option maxHeartbeats 8000000 in
theorem parts_err2 (a b : List UInt8) (hab : a.length + b.length < 4096) (l : List (Lex.Tok × Nat)) (ha : Lex.toks a 0 = .ok l) (x : Int) (k : Nat) (hq : Lex.toks b 0 = .error (x, k)) (w : World) (hg : Globs w) :
    Calls Tryz.prog 8 #[.string ⟨a.toArray⟩, .string ⟨b.toArray⟩] w fun e w' => e = .returned (.bool true) ∧ Below w.heap.size w w' := by
  have HG := Lib.hid hg
  have hla : (a ++ 10 :: b).length ≤ 4096 := by rw [List.length_append, List.length_cons]; omega
  obtain ⟨kn, hkn⟩ : ∃ kn : Nat, kn = k + (a.length + 1) := ⟨_, rfl⟩
  obtain ⟨ma, hma⟩ : ∃ ma, Lex.scanR a = .ok ma := ⟨_, by rw [scanR_toks (by omega), ha]⟩
  have hqb : Lex.scanR b = .error (x, k) := by rw [scanR_toks (by omega), hq]
  have hqn : Lex.scanR (a ++ 10 :: b) = .error (x, kn) := by rw [scanR_toks hla, Lex.parts0, ha, Lex.shift0, hq, hkn]; rfl
  have hx0 := Lex.scanR_err hqb
  have hk := scanR_errk hqb
  have hxn : (x != 0) = true := by simpa using hx0
  have hxx : (x == x) = true := by simp
  have hkb : ((kn : Int) == (a.length : Int) + 1 + (k : Int)) = true := by rw [beq_iff_eq]; omega
  have hza : (⟨a.toArray⟩ : ByteArray).size = a.length := size_list _
  have hzb : (⟨b.toArray⟩ : ByteArray).size = b.length := size_list _
  have hge : ¬ (4096 : Int) ≤ (a.length : Int) + (b.length : Int) := by omega
  have hw2 := fun w hg => oscanL_walk (a ++ 10 :: b) (by omega) w hg
  rw [← parts_text] at hw2
  have HW2 := Lib.hid hw2
  have HQA := Lib.hid hma
  have HQB := Lib.hid hqb
  have HQN := Lib.hid hqn
  clear hg hq hma hqb hqn hw2 hx0 hkn ha
  go_enter Tryz.func8, Tryz.ntmps8
  go_wp2_with fail
  refine (oscanL_walk a (by omega) _ HG.out).mono ?_
  rintro e w1 h1
  obtain ⟨A1, cap1, rfl, _, _, hb1⟩ := scanV_ok h1 HQA.out
  have hbf := below_one w1 (.cells #[.int .i64 0, .int .i64 0] 27)
  have HF1 := Lib.hid (box2_new w1 0 0)
  have HB1 := Lib.hid (below_next hb1 hbf)
  clear h1 hb1 hbf
  go_wp2_with fail
  generalize hW : w1.alloc (.cells #[.int .i64 0, .int .i64 0] 27) = W1 at HF1 HB1 ⊢
  clear hW
  refine (oscanL_walk b (by omega) _ (HG.out.next HB1.out)).mono ?_
  rintro e w2 h2
  obtain ⟨A2, cap2, rfl, hb2⟩ := scanV_err h2 HQB.out
  have hbf := below_one w2 (.cells #[.int .i64 x, .int .i64 (k : Int)] 27)
  have hb2' := below_next hb2 hbf
  have HF2 := Lib.hid (HF1.out.keep (B := W1.heap.size) HF1.out.1 hb2')
  have HG2 := Lib.hid (box2_new w2 x k)
  have HB2 := Lib.hid (below_next HB1.out hb2')
  clear hb2 hb2' hbf HF1 h2
  go_wp2_with fail
  generalize hW : w2.alloc (.cells #[.int .i64 x, .int .i64 (k : Int)] 27) = W2 at HF2 HG2 HB2 ⊢
  clear hW
  refine (HW2.out _ (HG.out.next HB2.out)).mono ?_
  rintro e w3 h3
  obtain ⟨A3, cap3, rfl, hb3⟩ := scanV_err h3 HQN.out
  have hbf := below_one w3 (.cells #[.int .i64 x, .int .i64 (kn : Int)] 27)
  have hb3' := below_next hb3 hbf
  have HB3 := Lib.hid (below_next HB2.out hb3')
  obtain ⟨q0, x0, x1, _, _⟩ := HF2.out.keep (B := W2.heap.size) HF2.out.1 hb3
  obtain ⟨q2, x2, x3, _, _⟩ := HG2.out.keep (B := W2.heap.size) HG2.out.1 hb3
  clear h3 hb3 hb3' hbf HF2 HG2
  go_wp2_with fail
  refine (awake_walk _ (HG.out.next HB3.out)).mono ?_
  rintro e w4 ⟨rfl, hb4⟩
  go_wp2
  go_ret
  exact ⟨rfl, below_next HB3.out hb4⟩
/-- A row below D is as it was. -/
theorem own_lo {D B : Nat} {w w' : World} {e : TypeId} {size n : Nat} {v : Value} {xs : List Value} (h : w.ownsRow B e size v n xs) (hv : ∀ k, v.ownBlock = some k → k < D) (hb : Below D w w') : w'.ownsRow B e size v n xs := by
  obtain ⟨h1, h2⟩ := h
  refine ⟨h1, ?_⟩
  rcases h2 with h2 | ⟨g, cap, cur, rfl, r2, r3, r⟩
  · exact Or.inl h2
  · refine Or.inr ⟨g, cap, cur, rfl, r2, ?_, r⟩
    rw [hb.block g (hv g rfl)]; exact r3

theorem own_some {B : Nat} {w : World} {e : TypeId} {size n cap : Nat} {A : Option Addr} {xs : List Value} (h : w.ownsRow B e size (.slice A n cap) n xs) (hn : 0 < n) : ∃ g, A = some ⟨g, 0, none⟩ ∧ B ≤ g ∧ g < w.heap.size := by
  rcases h.2 with ⟨h2, h3⟩ | ⟨g, cap', cur, h2, r2, _⟩
  · omega
  · injection h2 with h2 _ _
    subst h2
    exact ⟨g, rfl, r2, (h.lt g rfl).2⟩

theorem cellsT_append (x y : List Tk) : cellsT (x ++ y) = cellsT x ++ cellsT y := by simp [cellsT]
theorem cellsT_cons (b : Tk) (y : List Tk) : cellsT (b :: y) = .int .i64 b.t.kind :: .string ⟨b.t.text.toArray⟩ :: .int .i64 b.at_ :: cellsT y := by simp [cellsT]
theorem cellsT_one : ∀ (l : List Tk) (u : Value), u ∈ cellsT l → u.oneCell' = true
  | [], u, h => by simp [cellsT] at h
  | b :: r, u, h => by
    rw [cellsT_cons] at h
    simp only [List.mem_cons] at h
    rcases h with rfl | rfl | rfl | h
    · rfl
    · rfl
    · rfl
    · exact cellsT_one r u h
theorem cellsT_set (x : List Tk) (b : Tk) (r : List Tk) (j : Nat) (v : Int) (hj : j = x.length * 3 + 2) : (cellsT (x ++ b :: r)).set j (.int .i64 v) = cellsT (x ++ ⟨b.t, v⟩ :: r) := by
  subst hj
  rw [cellsT_append, cellsT_append, cellsT_cons, cellsT_cons, List.set_append_right _ _ (by rw [cellsT_len]; omega), cellsT_len, show x.length * 3 + 2 - x.length * 3 = 2 from by omega]
  rfl

/-- On the way: the second row moved so far, the whole source's row, the fault's box, what is gathered. -/
structure PartI (g2 cap2 : Nat) (A3 : Option Addr) (cap3 q B C D d : Nat) (l mb mn : List (Lex.Tok × Nat)) (w wr : World) (v : Value) (k1 k : Nat) : Prop where
  m : wr.ownsRow B 32 3 (.slice (some ⟨g2, 0, none⟩) mb.length cap2) mb.length (cellsT (tkOf (Lex.moved d mb k1)))
  n : wr.ownsRow C 32 3 (.slice A3 mn.length cap3) mn.length (cellsT (tkOf mn))
  nl : ∀ j, (Value.slice A3 mn.length cap3).ownBlock = some j → j < D
  q0 : Box2 wr q 0 0
  o : wr.ownsRow D 32 3 v (l.length + k) (cellsT (tkOf (l ++ (mb.take k).map (Lex.sh d))))
  b : Below w.heap.size w wr
  z : D ≤ wr.heap.size

structure PartN (g2 q B C D : Nat) (w : World) : Prop where
  h0 : w.heap.size ≤ B
  h1 : B ≤ g2
  h2 : g2 < C
  h3 : C ≤ q
  h4 : q < D

section
variable {g2 cap2 : Nat} {A3 : Option Addr} {cap3 q B C D d : Nat} {l mb mn : List (Lex.Tok × Nat)} {w wr : World} {v : Value} {k1 k : Nat}

theorem PartI.drew (h : PartI g2 cap2 A3 cap3 q B C D d l mb mn w wr v k1 k) : PartI g2 cap2 A3 cap3 q B C D d l mb mn w wr.drew v k1 k :=
  ⟨h.m.drew, h.n.drew, h.nl, h.q0, h.o.drew, h.b.drew, h.z⟩

theorem PartI.alloc (h : PartI g2 cap2 A3 cap3 q B C D d l mb mn w wr v k1 k) (hn : PartN g2 q B C D w) (ob : Obj) : PartI g2 cap2 A3 cap3 q B C D d l mb mn w (wr.alloc ob) v k1 k :=
  ⟨h.m.alloc ob, h.n.alloc ob, h.nl, h.q0.keep (B := wr.heap.size) h.q0.1 (below_one _ _), h.o.alloc ob, h.b.alloc h.b.size ob, by have := h.z; simp; omega⟩

theorem PartI.set (h : PartI g2 cap2 A3 cap3 q B C D d l mb mn w wr v k k) (hn : PartN g2 q B C D w) (hk : k < mb.length) (x : Int) (hx : x = ((mb[k]'hk).2 : Int) + (d : Int)) :
    PartI g2 cap2 A3 cap3 q B C D d l mb mn w (wr.setCell ⟨g2, k * 3 + 2, none⟩ (.int .i64 x)) v (k + 1) k := by
  obtain ⟨e1, e2⟩ := h.m.stored (k * 3 + 2) (.int .i64 x)
  have hg2 := (h.m.lt g2 rfl).2
  have n0 := hn.h0
  have n1 := hn.h1
  have n2 := hn.h2
  have n3 := hn.h3
  have n4 := hn.h4
  refine ⟨?_, h.n.kept e2 ?_, h.nl, ?_, h.o.kept e2 ?_, h.b.setCell (p := ⟨g2, k * 3 + 2, none⟩) (by show w.heap.size ≤ g2; omega) _, Nat.le_trans h.z e2.size⟩
  · have e : (cellsT (tkOf (Lex.moved d mb k))).set (k * 3 + 2) (.int .i64 x) = cellsT (tkOf (Lex.moved d mb (k + 1))) := by
      rw [Lex.moved_this d mb k hk, Lex.moved_next d mb k hk, tkOf_append, tkOf_append]
      show (cellsT (tkOf _ ++ _ :: tkOf _)).set _ _ = cellsT (tkOf _ ++ _ :: tkOf _)
      rw [cellsT_set _ _ _ _ _ (by rw [tkOf_len, List.length_map, List.length_take]; omega), hx]
      simp only [Lex.sh, Int.natCast_add]
    rw [← e]; exact e1
  · cases hq : (Value.slice A3 mn.length cap3).ownBlock with
    | none => exact Or.inl rfl
    | some j => exact Or.inr (fun ee => by
        have := (h.n.lt j hq).1
        injection ee with ee
        omega)
  · obtain ⟨b0, b1, b2, b3, b4⟩ := h.q0
    have hq2 : some q ≠ some g2 := fun ee => by injection ee with ee; omega
    exact ⟨Nat.lt_of_lt_of_le b0 e2.size, (e2.cell_far ⟨q, 0, none⟩ b0 hq2).trans b1, (e2.cell_far ⟨q, 1, none⟩ b0 hq2).trans b2, (e2.frozen_far ⟨q, 0, none⟩ b0 hq2).trans b3, (e2.frozen_far ⟨q, 1, none⟩ b0 hq2).trans b4⟩
  · cases hq : v.ownBlock with
    | none => exact Or.inl rfl
    | some j => exact Or.inr (fun ee => by
        have := (h.o.lt j hq).1
        injection ee with ee
        omega)

theorem PartI.app (h : PartI g2 cap2 A3 cap3 q B C D d l mb mn w wr v (k + 1) k) (hn : PartN g2 q B C D w) (hk : k < mb.length) {v' : Value} {w' : World}
    (ho : w'.ownsRow D 32 3 v' (l.length + k + 1) (cellsT (tkOf (l ++ (mb.take k).map (Lex.sh d))) ++ [.int .i64 (mb[k]'hk).1.kind, .string ⟨(mb[k]'hk).1.text.toArray⟩, .int .i64 (((mb[k]'hk).2 : Int) + (d : Int))]))
    (hb : Below D wr w') : PartI g2 cap2 A3 cap3 q B C D d l mb mn w w' v' (k + 1) (k + 1) := by
  have n0 := hn.h0
  have n1 := hn.h1
  have n2 := hn.h2
  have n3 := hn.h3
  have n4 := hn.h4
  refine ⟨own_lo h.m (fun j hj => by obtain rfl : g2 = j := by simpa [Value.ownBlock] using hj
                                     omega) hb, own_lo h.n h.nl hb, h.nl, h.q0.keep (B := D) (by omega) hb, ?_, h.b.trans (hb.mono (by omega)), Nat.le_trans h.z hb.size⟩
  have e : tkOf (l ++ (mb.take (k + 1)).map (Lex.sh d)) = tkOf (l ++ (mb.take k).map (Lex.sh d)) ++ [⟨(mb[k]'hk).1, ((mb[k]'hk).2 : Int) + (d : Int)⟩] := by
    rw [List.take_succ_eq_append_getElem hk, List.map_append, ← List.append_assoc, tkOf_append]
    unfold Lex.sh
    simp [tkOf]
  rw [e, cellsT_snoc]
  exact ho

/-- The cells of the token that comes next, as it lay and as it lies. -/
theorem PartI.at (h : PartI g2 cap2 A3 cap3 q B C D d l mb mn w wr v k k) (hk : k < mb.length) : wr.cell? ⟨g2, k * 3 + 2, none⟩ = some (.int .i64 (mb[k]'hk).2) ∧ wr.frozen? ⟨g2, k * 3 + 2, none⟩ = false := by
  refine ⟨?_, h.m.frozenAt _⟩
  rw [h.m.cellAt _ (by omega), Lex.moved_this d mb k hk, tkOf_append]
  show (cellsT (tkOf _ ++ _ :: tkOf _))[_]? = _
  rw [cellsT_append, cellsT_cons, List.getElem?_append_right (by rw [cellsT_len, tkOf_len, List.length_map, List.length_take]; omega), cellsT_len, tkOf_len, List.length_map, List.length_take, show k * 3 + 2 - min k mb.length * 3 = 2 from by omega]
  rfl

theorem PartI.now (h : PartI g2 cap2 A3 cap3 q B C D d l mb mn w wr v (k + 1) k) (hk : k < mb.length) : wr.cell? ⟨g2, k * 3, none⟩ = some (.int .i64 (mb[k]'hk).1.kind) ∧ wr.cell? ⟨g2, k * 3 + 1, none⟩ = some (.string ⟨(mb[k]'hk).1.text.toArray⟩) ∧ wr.cell? ⟨g2, k * 3 + 2, none⟩ = some (.int .i64 (((mb[k]'hk).2 : Int) + (d : Int))) := by
  have e : ∀ j, j < 3 → wr.cell? ⟨g2, k * 3 + j, none⟩ = (cellsT (tkOf (Lex.sh d (mb[k]'hk) :: mb.drop (k + 1))))[j]? := fun j hj => by
    rw [h.m.cellAt _ (by omega), Lex.moved_next d mb k hk, tkOf_append, cellsT_append, List.getElem?_append_right (by rw [cellsT_len, tkOf_len, List.length_map, List.length_take]; omega), cellsT_len, tkOf_len, List.length_map, List.length_take, show k * 3 + j - min k mb.length * 3 = j from by omega]
  refine ⟨(e 0 (by omega)).trans rfl, (e 1 (by omega)).trans rfl, (e 2 (by omega)).trans ?_⟩
  show some (Value.int .i64 (((mb[k]'hk).2 + d : Nat) : Int)) = _
  rw [Int.natCast_add]
end

theorem own_empty (W : World) (o : Obj) : ((W.alloc o).alloc (.cells #[] 32)).ownsRow (W.heap.size + 1) 32 3 (.slice (some ⟨W.heap.size + 1, 0, none⟩) 0 0) 0 [] := by
  have h := World.ownsRow_lit (base := W.heap.size + 1) (e := 32) (size := 3) (W.alloc o) #[] 0 (by simp) (by decide) rfl
  have e : (W.alloc o).heap.size = W.heap.size + 1 := by simp
  rw [e] at h; exact h

theorem news_own {w : World} {B g n cap : Nat} {xs ys : List Value} (h : w.ownsRow B 32 3 (.slice (some ⟨g, 0, none⟩) n cap) n (xs ++ ys)) : ∀ ad, some (⟨g, 0, none⟩ : Addr) = some ad → ∀ j u, xs[j]? = some u → w.cell? (ad.add j) = some u := by
  rintro ad had j u hj
  cases had
  have hjl : j < xs.length := (List.getElem?_eq_some_iff.1 hj).1
  rw [add_plain3, Nat.zero_add, h.cellAt j (by have := h.1; rw [List.length_append] at this; omega), List.getElem?_append_left hjl]
  exact hj

theorem own_cap {w : World} {B g n cap : Nat} {xs : List Value} (h : w.ownsRow B 32 3 (.slice (some ⟨g, 0, none⟩) n cap) n xs) : n ≤ cap := by
  rcases h.2 with ⟨h2, h3⟩ | ⟨g', cap', cur, h2, _, _, hc, _⟩
  · omega
  · injection h2 with _ _ h2
    omega

set_option maxRecDepth 100000 in
set_option maxHeartbeats 16000000 in
theorem parts_ok (a b : List UInt8) (hab : a.length + b.length < 4096) (l m : List (Lex.Tok × Nat)) (ha : Lex.toks a 0 = .ok l) (hb : Lex.toks b 0 = .ok m) (w : World) (hg : Globs w) :
    Calls Tryz.prog 8 #[.string ⟨a.toArray⟩, .string ⟨b.toArray⟩] w fun e w' => e = .returned (.bool true) ∧ Below w.heap.size w w' := by
  obtain ⟨i0, hi, hz0, hz1, hz2⟩ := info_parts (P := Tryz.prog) (e := 32) (z := .agg #[.int .i64 0, .string ByteArray.empty, .int .i64 0]) (size := 3) (bytes := 32) (by kernel_rfl)
  have HG := Lib.hid hg
  have hla : (a ++ 10 :: b).length ≤ 4096 := by rw [List.length_append, List.length_cons]; omega
  obtain ⟨mb, hmb⟩ : ∃ mb, mb = m ++ [(Lex.endTok, b.length)] := ⟨_, rfl⟩
  obtain ⟨mn, hmn⟩ : ∃ mn, mn = l ++ mb.map (Lex.sh (a.length + 1)) := ⟨_, rfl⟩
  have hqa := Lex.scanR_joined (by omega) ha
  have hqb := Lex.scanR_joined (by omega) hb
  have hqn : Lex.scanR (a ++ 10 :: b) = .ok mn := by
    rw [Lex.scanR_joined (l := l ++ m.map (Lex.sh (a.length + 1))) hla (by rw [Lex.parts0, ha, Lex.shift0, hb]; rfl), hmn, hmb, List.map_append, List.append_assoc]
    have e : (a ++ 10 :: b).length = b.length + (a.length + 1) := by rw [List.length_append, List.length_cons]; omega
    rw [e]; rfl
  rw [← hmb] at hqb
  have hll : l.length ≤ 4097 := by have := (scanR_len hqa).2; rw [List.length_append] at this; simp at this; omega
  have hlb := (scanR_len hqb).2
  have hln := (scanR_len hqn).2
  have hb1 : 0 < mb.length := by rw [hmb]; simp
  have hnl : mn.length = l.length + mb.length := by rw [hmn, List.length_append, List.length_map]
  obtain ⟨_, _, hpl⟩ := Lex.placedE_last hqb
  have hat : ∀ k (hk : k < mb.length), (mb[k]'hk).2 ≤ 4096 := fun k hk => by
    have := Lex.placedE_le mb 0 hpl _ (List.getElem_mem hk)
    omega
  have hlz : ((l.length + 1 : Nat) : Int) = (l.length : Int) + 1 := by omega
  have hla0 : (((l.length : Int) + 1) == 0) = false := by rw [beq_eq_false_iff_ne]; omega
  have hma : (tkOf (l ++ [(Lex.endTok, a.length)])).length = l.length + 1 := by rw [tkOf_len, List.length_append]; rfl
  have hNB : (tkOf mb).length = mb.length := tkOf_len mb
  have hNN : (tkOf mn).length = mn.length := tkOf_len mn
  have HCA : Hid (cellsT (tkOf (l ++ [(Lex.endTok, a.length)])) = cellsT (tkOf l) ++ cellsT (tkOf [(Lex.endTok, a.length)])) := Lib.hid (by rw [tkOf_append, cellsT_append])
  have HMN := Lib.hid hmn
  have HAT := Lib.hid hat
  have hza : (⟨a.toArray⟩ : ByteArray).size = a.length := size_list _
  have hzb : (⟨b.toArray⟩ : ByteArray).size = b.length := size_list _
  have hge : ¬ (4096 : Int) ≤ (a.length : Int) + (b.length : Int) := by omega
  have hw2 := fun w hg => oscanL_walk (a ++ 10 :: b) (by omega) w hg
  rw [← parts_text] at hw2
  have HW2 := Lib.hid hw2
  have HQA := Lib.hid hqa
  have HQB := Lib.hid hqb
  have HQN := Lib.hid hqn
  have HNL := Lib.hid hnl
  clear hg hqa hqb hqn hw2 ha hb hmb hmn hpl hat hnl
  go_enter Tryz.func8, Tryz.ntmps8
  go_wp2_with fail
  refine (oscanL_walk a (by omega) _ HG.out).mono ?_
  rintro e w1 h1
  obtain ⟨A1, cap1, rfl, _, ho1, hb1⟩ := scanV_ok h1 HQA.out
  obtain ⟨g1, rfl, hg1, hg1'⟩ := own_some ho1 (by omega)
  have hbf := below_one w1 (.cells #[.int .i64 0, .int .i64 0] 27)
  have HF1 := Lib.hid (box2_new w1 0 0)
  have HB1 := Lib.hid (below_next hb1 hbf)
  rw [hma] at ho1
  have HO1 := Lib.hid (own_below ho1 hbf)
  clear h1 hb1 hbf ho1
  rw [hma]
  go_wp2_with fail
  generalize hW : w1.alloc (.cells #[.int .i64 0, .int .i64 0] 27) = W1 at HF1 HB1 HO1 ⊢
  clear hW
  refine (oscanL_walk b (by omega) _ (HG.out.next HB1.out)).mono ?_
  rintro e w2 h2
  obtain ⟨A2, cap2, rfl, _, ho2, hb2⟩ := scanV_ok h2 HQB.out
  obtain ⟨g2, rfl, hg2, hg2'⟩ := own_some ho2 (by omega)
  have hbf := below_one w2 (.cells #[.int .i64 0, .int .i64 0] 27)
  have hb2' := below_next hb2 hbf
  have HF2 := Lib.hid (HF1.out.keep (B := W1.heap.size) HF1.out.1 hb2')
  have HG2 := Lib.hid (box2_new w2 0 0)
  have HB2 := Lib.hid (below_next HB1.out hb2')
  rw [hNB] at ho2
  have HO2 := Lib.hid (own_below ho2 hbf)
  have HO12 := Lib.hid (own_below HO1.out hb2')
  have hG2 : g2 < w2.heap.size + 1 := by omega
  clear hb2 hb2' hbf HF1 h2 ho2 HO1
  rw [hNB]
  go_wp2_with fail
  have hS2 : (w2.alloc (.cells #[.int .i64 0, .int .i64 0] 27)).heap.size = w2.heap.size + 1 := by simp
  generalize hW : w2.alloc (.cells #[.int .i64 0, .int .i64 0] 27) = W2 at HF2 HG2 HB2 HO2 HO12 hS2 ⊢
  rw [← hS2] at hG2
  clear hW hS2
  refine (HW2.out _ (HG.out.next HB2.out)).mono ?_
  rintro e w3 h3
  obtain ⟨A3, cap3, rfl, _, ho3, hb3⟩ := scanV_ok h3 HQN.out
  have hbf := below_one w3 (.cells #[.int .i64 0, .int .i64 0] 27)
  have hb3' := below_next hb3 hbf
  have HB3 := Lib.hid (below_next HB2.out hb3')
  obtain ⟨q0, x0, x1, _, _⟩ := HF2.out.keep (B := W2.heap.size) HF2.out.1 hb3
  obtain ⟨q2, x2, x3, _, _⟩ := HG2.out.keep (B := W2.heap.size) HG2.out.1 hb3
  have HH3 := Lib.hid (box2_new w3 0 0)
  rw [hNN] at ho3
  have HO3 := Lib.hid (own_below ho3 hbf)
  have HO23 := Lib.hid (own_below HO2.out hb3')
  have HO13 := Lib.hid (own_below HO12.out hb3')
  have hnl3 : ∀ j, (Value.slice A3 mn.length cap3).ownBlock = some j → j < w3.heap.size + 1 := fun j hj => by have := (ho3.lt j hj).2; omega
  have hbs := hb3.size
  have hcap := own_cap HO13.out
  have HPN : Hid (PartN g2 w3.heap.size W1.heap.size W2.heap.size (w3.heap.size + 1) w) := Lib.hid ⟨HB1.out.size, hg2, hG2, hbs, by omega⟩
  have HNL3 := Lib.hid hnl3
  have HNW : Hid (∀ ad, some (⟨g1, 0, none⟩ : Addr) = some ad → ∀ j u, (cellsT (tkOf l))[j]? = some u → ((w3.alloc (.cells #[.int .i64 0, .int .i64 0] 27)).alloc (.cells #[] 32)).cell? (ad.add j) = some u) := Lib.hid (by
    have h := HO13.out
    rw [HCA.out] at h
    exact news_own (h.alloc _))
  have HEM := Lib.hid (own_empty w3 (.cells #[.int .i64 0, .int .i64 0] 27))
  have hcl : (cellsT (tkOf l)).length = l.length * 3 := by rw [cellsT_len, tkOf_len]
  clear h3 hb3 hb3' hbf HF2 HG2 ho3 HO2 HO12 hnl3 HO13
  rw [hNN]
  go_wp2_with (at_builtin; refine wpList_append_any _ rfl _ _ 24 rfl (w3.heap.size + 1) 32 i0 (.agg #[.int .i64 0, .string ByteArray.empty, .int .i64 0]) 3 32 Tryz.underlying24 hi hz0 hz1 hz2 rfl (by decide) _ _ _ rfl HEM.out (some ⟨g1, 0, none⟩) l.length cap1 (cellsT (tkOf l)) rfl nofun hcl HNW.out (cellsT_one _) (by unfold maxLen; omega) (by omega) (by simp) ?_)
  intro v' w5 hown5 hb5
  have hb5' : Below (w3.heap.size + 1) (w3.alloc (.cells #[.int .i64 0, .int .i64 0] 27)) w5 := ((Below.refl _ _).alloc (by simp) _).trans hb5
  have HI5 : Hid (PartI g2 cap2 A3 cap3 w3.heap.size W1.heap.size W2.heap.size (w3.heap.size + 1) (a.length + 1) l mb mn w w5 v' 0 0) := Lib.hid
    ⟨by rw [Lex.moved_zero]; exact own_lo HO23.out (fun j hj => by obtain rfl : g2 = j := by simpa [Value.ownBlock] using hj
                                                                   omega) hb5',
     own_lo HO3.out HNL3.out hb5', HNL3.out, HH3.out.keep (B := w3.heap.size + 1) (by omega) hb5', by simpa using hown5, HB3.out.trans (hb5'.mono (by have := HB3.out.size; simp at this; omega)), by have := hb5'.size; simpa using this⟩
  clear hown5 hb5 hb5' HEM HNW HCA HO23 HO3
  go_wp2_with fail
  go_loopw [11, 12] (fun vv ii wr => ∃ k : Nat, ii = .int .i64 (k : Int) ∧ k ≤ mb.length ∧ Hid (PartI g2 cap2 A3 cap3 w3.heap.size W1.heap.size W2.heap.size (w3.heap.size + 1) (a.length + 1) l mb mn w wr vv k k))
    (fun _ ii _ => mb.length - (intOf ii).toNat)
  case atStart => exact ⟨0, rfl, Nat.zero_le _, HI5⟩
  case round =>
    obtain ⟨k, rfl, hk, HI⟩ := hrel
    by_cases hlt : k < mb.length
    · have hi1 : (k : Int) < (mb.length : Int) := by omega
      obtain ⟨c2, f2⟩ := HI.out.at hlt
      have hp := HAT.out k hlt
      have HS := Lib.hid (HI.out.set HPN.out hlt (((mb[k]'hlt).2 : Int) + ((a.length : Int) + 1)) (by omega))
      obtain ⟨d0, d1, d2⟩ := HS.out.now hlt
      have HAP := Lib.hid (fun v' w' (hw : World) (hS : PartI g2 cap2 A3 cap3 w3.heap.size W1.heap.size W2.heap.size (w3.heap.size + 1) (a.length + 1) l mb mn w hw u11 (k + 1) k) ho hb => hS.app (v' := v') (w' := w') HPN.out hlt ho hb)
      have hbsz := HS.out.z
      obtain ⟨x, hx⟩ : ∃ x, x = mb[k]'hlt := ⟨_, rfl⟩
      rw [← hx] at c2 hp HS d0 d1 d2 HAP
      have HX := Lib.hid hx
      have hdI : (x.2 : Int) + ((a.length + 1 : Nat) : Int) = (x.2 : Int) + ((a.length : Int) + 1) := by omega
      rw [hdI] at d2 HAP
      clear hx hdI
      go_wp2_with (at_builtin; refine wpList_append_any _ rfl _ _ 24 rfl (w3.heap.size + 1) 32 i0 (.agg #[.int .i64 0, .string ByteArray.empty, .int .i64 0]) 3 32 Tryz.underlying24 hi hz0 hz1 hz2 rfl (by decide) _ _ _ rfl (HS.out.o.alloc _) (some ⟨wr.heap.size, 0, none⟩) 1 1 [.int .i64 x.1.kind, .string ⟨x.1.text.toArray⟩, .int .i64 ((x.2 : Int) + ((a.length : Int) + 1))] rfl nofun rfl (fun ad had => by cases had; exact news3 _ _ _ _ _ (by simp [World.setCell])) one3 (by unfold maxLen; omega) (by omega) (by simp [World.setCell] at hbsz ⊢; omega) ?_)
      intro v' w6 hown6 hb6
      rw [← List.map_take] at hown6
      have HI6 := Lib.hid (HAP.out v' w6 _ (HS.out.alloc HPN.out _) hown6 hb6)
      clear hown6 hb6 c2 f2 d0 d1 d2
      go_wp2
      go_roundw
      case rel => exact ⟨k + 1, by go_num, by omega, HI6⟩
      case measure => simp [intOf]; omega
    · have hi1 : ¬ (k : Int) < (mb.length : Int) := by omega
      have hke : k = mb.length := by omega
      have hfin : tkOf (l ++ (mb.take k).map (Lex.sh (a.length + 1))) = tkOf mn := by rw [HMN.out, List.take_of_length_le (by omega)]
      have ho6 := HI.out.o
      rw [hfin] at ho6
      have hlen : l.length + k = (tkOf mn).length := by rw [hNN, HNL.out]; omega
      rw [hlen] at ho6
      obtain ⟨A6, cap6, rfl, _, hT6⟩ := tks_of_own ho6
      have hn6 := HI.out.n
      rw [← hNN] at hn6
      have HTN := Lib.hid (tks_same hn6)
      have HT6 := Lib.hid hT6
      have HB6 := Lib.hid HI.out.b
      obtain ⟨q5, x5, x6, _, _⟩ := HI.out.q0
      have hsm := fun W h1 h2 => tsame_walk A3 A6 cap3 cap6 (tkOf mn) (tkOf mn) true W h1 h2 (by omega)
      rw [sameT_refl, hNN] at hsm
      have HSM := Lib.hid hsm
      have HI := HI5
      clear ho6 hfin hlen hn6 hT6 hsm hke
      rw [hNN]
      go_wp2_with fail
      refine (HSM.out _ HTN.out HT6.out).mono ?_
      rintro e w7 ⟨rfl, hb7⟩
      have HB7 := Lib.hid (below_next HB6.out hb7)
      clear hb7
      go_wp2_with fail
      refine (awake_walk _ (HG.out.next HB7.out)).mono ?_
      rintro e w8 ⟨rfl, hb8⟩
      go_wp2
      go_ret
      exact ⟨rfl, below_next HB7.out hb8⟩

theorem lexParts_walk (a : ByteArray) (ha : a.size ≤ 140737488351232) (b : ByteArray) (hb : b.size ≤ 140737488351232) (w : World) (hg : Globs w) :
    Calls Tryz.prog 8 #[.string a, .string b] w fun e w' => e = .returned (.bool true) ∧ Below w.heap.size w w' := by
  have hla : a.data.toList.length ≤ 140737488351232 := by rw [← Lib.size_eq]; exact ha
  have hlb : b.data.toList.length ≤ 140737488351232 := by rw [← Lib.size_eq]; exact hb
  have h : Calls Tryz.prog 8 #[.string ⟨a.data.toList.toArray⟩, .string ⟨b.data.toList.toArray⟩] w fun e w' => e = .returned (.bool true) ∧ Below w.heap.size w w' := by
    by_cases hab : 4096 ≤ a.data.toList.length + b.data.toList.length
    · exact parts_long _ _ hla hlb hab w hg
    · cases hqa : Lex.toks a.data.toList 0 with
      | error x => obtain ⟨x, k⟩ := x; exact parts_err1 _ _ (by omega) x k hqa w hg
      | ok l =>
        cases hqb : Lex.toks b.data.toList 0 with
        | error x => obtain ⟨x, k⟩ := x; exact parts_err2 _ _ (by omega) l hqa x k hqb w hg
        | ok m => exact parts_ok _ _ (by omega) l m hqa hqb w hg
  rw [← tx_of a, ← tx_of b] at h
  exact h
end Go.Proofs.YtebphmkefpaeaaaGreatDoor
