/- The probes that every law of layer 4 asks. Over the program's contracts (XSemOwn: check_walk, show_walk, parse_walk, cmp_walk, core_walk, high_walk). -/
import Derived.Test.YtifblpbikngjeaaDoorSemOwn
import Derived.Deep.RegionHeld3
namespace Go.Proofs.YtifblpbikngjeaaDoor
open Go.RowKit
set_option linter.unusedVariables false

def vA : Sem.Ver := ⟨1, 2, 3, [114, 99, 46, 49]⟩

theorem text_A : Sem.text vA = [49, 46, 50, 46, 51, 45, 114, 99, 46, 49] := by
  unfold Sem.text vA
  simp only
  rw [show ((1 : Int).toNat) = 1 from rfl, show ((2 : Int).toNat) = 2 from rfl, show ((3 : Int).toNat) = 3 from rfl, Sem.dec_small (by decide), Sem.dec_small (by decide), Sem.dec_small (by decide)]
  rfl

theorem parse_A : Sem.parse (⟨#[49, 46, 50, 46, 51, 45, 114, 99, 46, 49]⟩ : ByteArray).data.toList = some vA := by
  show Sem.parse [49, 46, 50, 46, 51, 45, 114, 99, 46, 49] = some vA
  rw [← text_A]
  exact Sem.parse_text (by decide)

theorem parse_B : Sem.parse (⟨#[48, 49, 46, 50, 46, 51]⟩ : ByteArray).data.toList = none := by
  show Sem.parse [48, 49, 46, 50, 46, 51] = none
  rw [scan_some (t := (1, 2, 3)) (rest := []) (by decide), if_neg]
  rintro ⟨_, h⟩
  have e : Sem.text ⟨((1 : Nat) : Int), ((2 : Nat) : Int), ((3 : Nat) : Int), ([] : List UInt8).tail⟩ = [49, 46, 50, 46, 51] := by
    unfold Sem.text
    simp only
    rw [show (((1 : Nat) : Int).toNat) = 1 from rfl, show (((2 : Nat) : Int).toNat) = 2 from rfl, show (((3 : Nat) : Int).toNat) = 3 from rfl, Sem.dec_small (by decide), Sem.dec_small (by decide), Sem.dec_small (by decide)]
    rfl
  have h2 := e.symm.trans h
  exact absurd h2 (by decide)

theorem show_A : showR vA = .tuple #[.string ⟨#[49, 46, 50, 46, 51, 45, 114, 99, 46, 49]⟩, .int .i64 0] := by
  rw [showR, if_pos (by decide), text_A]

theorem cmp_A : Sem.cmp vA (Sem.core vA) = -1 := Sem.pre_below (by decide)

theorem heldA_next {w W w' : World} {g : Nat} {v : Sem.Ver} (h : g < W.heap.size ∧ W.cell? ⟨g, 0, none⟩ = some (.int .i64 v.maj) ∧ W.cell? ⟨g, 1, none⟩ = some (.int .i64 v.min) ∧ W.cell? ⟨g, 2, none⟩ = some (.int .i64 v.pat) ∧ W.cell? ⟨g, 3, none⟩ = some (.string ⟨v.pre.toArray⟩) ∧ Below w.heap.size w W) (hb : Below W.heap.size W w') :
    g < w'.heap.size ∧ w'.cell? ⟨g, 0, none⟩ = some (.int .i64 v.maj) ∧ w'.cell? ⟨g, 1, none⟩ = some (.int .i64 v.min) ∧ w'.cell? ⟨g, 2, none⟩ = some (.int .i64 v.pat) ∧ w'.cell? ⟨g, 3, none⟩ = some (.string ⟨v.pre.toArray⟩) ∧ Below w.heap.size w w' := by
  obtain ⟨h0, h1, h2, h3, h4, h5⟩ := h
  obtain ⟨k0, k1, k2, k3, k4⟩ := VerAt.next (v := v) ⟨h0, h1, h2, h3, h4⟩ hb
  exact ⟨k0, k1, k2, k3, k4, below_next h5 hb⟩

theorem heldA_drew {w W : World} {g : Nat} {a b c : Int} {x : ByteArray} (h : g < W.heap.size ∧ W.cell? ⟨g, 0, none⟩ = some (.int .i64 a) ∧ W.cell? ⟨g, 1, none⟩ = some (.int .i64 b) ∧ W.cell? ⟨g, 2, none⟩ = some (.int .i64 c) ∧ W.cell? ⟨g, 3, none⟩ = some (.string x) ∧ Below w.heap.size w W) :
    g < W.drew.heap.size ∧ W.drew.cell? ⟨g, 0, none⟩ = some (.int .i64 a) ∧ W.drew.cell? ⟨g, 1, none⟩ = some (.int .i64 b) ∧ W.drew.cell? ⟨g, 2, none⟩ = some (.int .i64 c) ∧ W.drew.cell? ⟨g, 3, none⟩ = some (.string x) ∧ Below w.heap.size w W.drew :=
  ⟨h.1, h.2.1, h.2.2.1, h.2.2.2.1, h.2.2.2.2.1, h.2.2.2.2.2.drew⟩

set_option maxRecDepth 100000 in
set_option maxHeartbeats 2000000 in
theorem awake_walk (w : World) (hg : Globs w) : Calls Tryd.prog 12 #[] w fun e w' => e = .returned (.bool true) ∧ Below w.heap.size w w' := by
  go_enter Tryd.func12, Tryd.ntmps12
  go_wp2_with fail
  refine (parse_walk _ (by decide) _ hg).mono ?_
  rintro e w1 ⟨he, hb1⟩
  rw [parse_A, parseR, verV, vA] at he
  simp only at he
  subst he
  go_wp2_with fail
  generalize hW1 : w1.alloc (Obj.cells #[Value.int IntKind.i64 1, Value.int IntKind.i64 2, Value.int IntKind.i64 3, Value.string ⟨#[114, 99, 46, 49]⟩] 23) = W1
  have hV1 : VerAt W1 w1.heap.size vA := by rw [← hW1]; exact ver_new w1 vA
  have hB1 : Below w.heap.size w W1 := by rw [← hW1]; exact below_new hb1 _
  clear hW1
  refine (parse_walk _ (by decide) _ (hg.next hB1)).mono ?_
  rintro e w2 ⟨he, hb2⟩
  rw [parse_B, parseR, verV] at he
  simp only at he
  subst he
  have hV2 := hV1.next hb2
  have hB2 := below_next hB1 hb2
  clear hV1 hB1 hb2
  obtain ⟨h0, h1, h2, h3, h4⟩ := hV2
  simp only [vA] at h1 h2 h3 h4
  go_wp2_with fail
  generalize hW2 : w2.alloc (Obj.cells #[Value.int IntKind.i64 0, Value.int IntKind.i64 0, Value.int IntKind.i64 0, Value.string ⟨#[]⟩] 23) = W2
  have hB3 : Below w.heap.size w W2 := by rw [← hW2]; exact below_new hB2 _
  have hV3 : VerAt W2 w1.heap.size vA := by rw [← hW2]; exact VerAt.next ⟨h0, h1, h2, h3, h4⟩ (below_one w2 _)
  clear hW2 h0 h1 h2 h3 h4 hB2
  refine (show_walk vA (by decide) _ (hg.next hB3)).mono ?_
  rintro e w3 ⟨he, hb3⟩
  rw [show_A] at he
  subst he
  have hV4 := hV3.next hb3
  have hB4 := below_next hB3 hb3
  clear hV3 hB3 hb3
  obtain ⟨h0, h1, h2, h3, h4⟩ := hV4
  have hS0 : w1.heap.size < w3.heap.size ∧ w3.cell? ⟨w1.heap.size, 0, none⟩ = some (.int .i64 vA.maj) ∧ w3.cell? ⟨w1.heap.size, 1, none⟩ = some (.int .i64 vA.min) ∧ w3.cell? ⟨w1.heap.size, 2, none⟩ = some (.int .i64 vA.pat) ∧ w3.cell? ⟨w1.heap.size, 3, none⟩ = some (.string ⟨vA.pre.toArray⟩) ∧ Below w.heap.size w w3 := ⟨h0, h1, h2, h3, h4, hB4⟩
  simp only [vA] at hS0
  simp only [vA] at h1 h2 h3 h4
  go_wp2_with fail
  go_region_held3 (fun w' => w1.heap.size < w'.heap.size ∧ w'.cell? ⟨w1.heap.size, 0, none⟩ = some (.int .i64 1) ∧ w'.cell? ⟨w1.heap.size, 1, none⟩ = some (.int .i64 2) ∧ w'.cell? ⟨w1.heap.size, 2, none⟩ = some (.int .i64 3) ∧ w'.cell? ⟨w1.heap.size, 3, none⟩ = some (.string ⟨#[114, 99, 46, 49]⟩) ∧ Below w.heap.size w w')
    (first | exact heldA_drew hS0 | exact heldA_next (v := vA) (by assumption) (by assumption))
    (first | (go_at_call 18; refine (core_walk vA _).mono ?_; rintro e w4 ⟨rfl, hb4⟩) | (go_at_call 19; refine (cmp_walk vA (Sem.core vA) (by decide) (by decide) _).mono ?_; rintro e w5 ⟨he, hb5⟩; rw [cmp_A] at he; subst he))
  have hH : w1.heap.size < w5.heap.size ∧ w5.cell? ⟨w1.heap.size, 0, none⟩ = some (.int .i64 1) ∧ w5.cell? ⟨w1.heap.size, 1, none⟩ = some (.int .i64 2) ∧ w5.cell? ⟨w1.heap.size, 2, none⟩ = some (.int .i64 3) ∧ w5.cell? ⟨w1.heap.size, 3, none⟩ = some (.string ⟨#[114, 99, 46, 49]⟩) ∧ Below w.heap.size w w5 := by assumption
  go_wp2
  go_ret
  exact ⟨rfl, hH.2.2.2.2.2⟩

theorem awakeK {w W : World} (hg : Globs w) {g : Nat} {a b c : Int} {x : ByteArray} (h : g < W.heap.size ∧ W.cell? ⟨g, 0, none⟩ = some (.int .i64 a) ∧ W.cell? ⟨g, 1, none⟩ = some (.int .i64 b) ∧ W.cell? ⟨g, 2, none⟩ = some (.int .i64 c) ∧ W.cell? ⟨g, 3, none⟩ = some (.string x) ∧ Below w.heap.size w W) :
    Calls Tryd.prog 12 #[] W fun e w' => e = .returned (.bool true) ∧ Below W.heap.size W w' := awake_walk W (hg.next h.2.2.2.2.2)
end Go.Proofs.YtifblpbikngjeaaDoor
