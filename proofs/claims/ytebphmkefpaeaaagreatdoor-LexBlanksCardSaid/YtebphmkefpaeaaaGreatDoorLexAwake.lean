/- The probes that every law of layer 6 asks. -/
import Derived.Test.YtebphmkefpaeaaaGreatDoorGLexC
import Derived.Test.YtebphmkefpaeaaaGreatDoorGLexA
import Derived.Test.YtebphmkefpaeaaaGreatDoorGLexE
namespace Lex
def src1 : List UInt8 := [108, 101, 116, 32, 120, 61, 49, 32, 45, 45, 32, 97]
def toks1 : List (Tok × Nat) := [(⟨5, [108, 101, 116]⟩, 0), (⟨1, [120]⟩, 4), (⟨6, [61]⟩, 5), (⟨3, [49]⟩, 6), (endTok, 12)]
theorem scan_1 : scanR src1 = .ok toks1 := rfl

theorem parse_12 : Sem.parse [49, 46, 50] = none := by
  cases hp : Sem.parse [49, 46, 50] with
  | none => rfl
  | some v =>
    exfalso
    obtain ⟨_, h2⟩ := Sem.parse_some hp
    have h3 := congrArg List.length h2
    unfold Sem.text at h3
    have d1 := List.length_pos_iff.2 (Sem.dec_ne v.maj.toNat)
    have d2 := List.length_pos_iff.2 (Sem.dec_ne v.min.toNat)
    have d3 := List.length_pos_iff.2 (Sem.dec_ne v.pat.toNat)
    simp only [List.length_append, List.length_cons, List.length_nil] at h3
    omega

theorem scan_2 : scanR [49, 46, 50] = .error (60, 0) := by
  have ht : token [49, 46, 50] = .error (60, 0) := by
    rw [token_lump (T := [49, 46, 50]) (by decide) (by decide) (by decide), parse_12]; rfl
  have h : toks [49, 46, 50] 0 = .error (60, 0) := by
    rw [toks_token (by simp) (by decide) (by decide), ht]
  unfold scanR
  rw [if_neg (by decide), h]

theorem toks_count : ∀ (k : Nat) (a : List UInt8) (i : Nat) (l : List (Tok × Nat)), a.length ≤ k → toks a i = .ok l → l.length ≤ a.length
  | _, [], i, l, _, h => by obtain rfl := Except.ok.inj h; exact Nat.le_refl _
  | 0, c :: r, _, _, h, _ => by simp at h
  | k + 1, c :: r, i, l, hk, h => by
    rw [List.length_cons] at hk
    by_cases hb : blank c = true
    · rw [toks_blank hb] at h
      have := toks_count k r (i + 1) l (by omega) h
      rw [List.length_cons]; omega
    · have hp := piece_toks (l := c :: r) (by simp) (fun x hx => by
        obtain rfl : c = x := by simpa using hx
        simpa using hb) i
      cases hq : piece (c :: r) with
      | error x =>
        obtain ⟨x, j⟩ := x
        rw [hq] at hp
        simp only at hp
        rw [hp] at h; cases h
      | ok x =>
        obtain ⟨ts, n⟩ := x
        rw [hq] at hp
        simp only at hp
        obtain ⟨h1, h2, h3, h4⟩ := hp
        rw [h1] at h
        cases ht : toks ((c :: r).drop n) (i + n) with
        | error x => rw [ht] at h; cases h
        | ok m =>
          rw [ht] at h
          obtain rfl := Except.ok.inj h
          have := toks_count k _ _ m (by rw [List.length_drop, List.length_cons]; omega) ht
          rw [List.length_drop] at this
          rw [List.length_append, List.length_map]; omega

def tq : Tok := ⟨4, [97, 34, 98]⟩
theorem good_q : good tq := ⟨34, [97, 92, 34, 98, 34], rfl, by decide, by decide, rfl⟩
theorem written_q : written tq = [34, 97, 92, 34, 98, 34] := rfl
theorem shown_q : shown [tq] = [34, 97, 92, 34, 98, 34] := rfl
theorem may_q : mayShow [tq] := fun t ht => by
  obtain rfl : t = tq := by simpa using ht
  exact Or.inr good_q
end Lex
namespace Go.Proofs.YtebphmkefpaeaaaGreatDoor
open Go.RowKit
set_option linter.unusedVariables false

theorem tks_next {w w' : World} {A : Option Addr} {l : List Tk} (h : Tks w w.heap.size A l) (hb : Below w.heap.size w w') : Tks w' w'.heap.size A l := h.next hb

/-- What Scan told, as it is read later. -/
theorem scanV_ok {s : List UInt8} {w w' : World} {e : Ending} (h : ScanV s w e w') {m : List (Lex.Tok × Nat)} (hm : Lex.scanR s = .ok m) :
    ∃ A cap, e = .returned (.tuple #[.slice A (tkOf m).length cap, .agg #[.int .i64 0, .int .i64 0]]) ∧ Tks w' w'.heap.size A (tkOf m) ∧ w'.ownsRow w.heap.size 32 3 (.slice A (tkOf m).length cap) (tkOf m).length (cellsT (tkOf m)) ∧ Below w.heap.size w w' := by
  obtain ⟨A, cap, l, a, b, rfl, ho, hb, hc⟩ := h
  rw [hm] at hc
  obtain ⟨rfl, rfl, rfl⟩ := hc
  obtain ⟨A', cap', hv, _, ht⟩ := tks_of_own ho
  have hA : A = A' := by simp at hv; exact hv.1
  subst hA
  exact ⟨A, cap, rfl, ht, ho, hb⟩

theorem scanV_err {s : List UInt8} {w w' : World} {e : Ending} (h : ScanV s w e w') {x : Int} {k : Nat} (hm : Lex.scanR s = .error (x, k)) :
    ∃ A cap, e = .returned (.tuple #[.slice A 0 cap, .agg #[.int .i64 x, .int .i64 (k : Int)]]) ∧ Below w.heap.size w w' := by
  obtain ⟨A, cap, l, a, b, rfl, ho, hb, hc⟩ := h
  rw [hm] at hc
  obtain ⟨rfl, rfl, rfl⟩ := hc
  exact ⟨A, cap, rfl, hb⟩

theorem show_yes {l : List Lex.Tok} {e : Ending} (h : ShowV l e) (hm : Lex.mayShow l) : e = .returned (.tuple #[.string ⟨(Lex.shown l).toArray⟩, .int .i64 0]) := by
  rcases h with ⟨_, h⟩ | ⟨h, _⟩
  · exact h
  · exact absurd hm h
theorem show_no {l : List Lex.Tok} {e : Ending} (h : ShowV l e) (hm : ¬ Lex.mayShow l) : e = .returned (.tuple #[.string ⟨#[]⟩, .int .i64 60]) := by
  rcases h with ⟨h, _⟩ | ⟨_, h⟩
  · exact absurd h hm
  · exact h

theorem sameT_refl (p : Bool) (l : List Tk) : sameT p l l = true := by unfold sameT; exact decide_eq_true rfl

/-- One token in a new row. -/
theorem tks_one (W : World) (b : Tk) : Tks (W.alloc (.cells #[.int .i64 b.t.kind, .string ⟨b.t.text.toArray⟩, .int .i64 b.at_] 32)) (W.alloc (.cells #[.int .i64 b.t.kind, .string ⟨b.t.text.toArray⟩, .int .i64 b.at_] 32)).heap.size (some ⟨W.heap.size, 0, none⟩) [b] :=
  Or.inr ⟨W.heap.size, 0, rfl, by simp, fun i hi => by
    obtain rfl : i = 0 := by simpa using hi
    exact tk_new W b⟩

theorem tks_five (W : World) (g : Nat) (hg : g = W.heap.size) : Tks (W.alloc (.cells #[.int .i64 5, .string ⟨#[108, 101, 116]⟩, .int .i64 0, .int .i64 1, .string ⟨#[120]⟩, .int .i64 4, .int .i64 6, .string ⟨#[61]⟩, .int .i64 5, .int .i64 3, .string ⟨#[49]⟩, .int .i64 6, .int .i64 0, .string ⟨#[]⟩, .int .i64 12] 32))
    (W.alloc (.cells #[.int .i64 5, .string ⟨#[108, 101, 116]⟩, .int .i64 0, .int .i64 1, .string ⟨#[120]⟩, .int .i64 4, .int .i64 6, .string ⟨#[61]⟩, .int .i64 5, .int .i64 3, .string ⟨#[49]⟩, .int .i64 6, .int .i64 0, .string ⟨#[]⟩, .int .i64 12] 32)).heap.size (some ⟨g, 0, none⟩) (tkOf Lex.toks1) := by
  subst hg
  refine Or.inr ⟨W.heap.size, 0, rfl, by simp, fun i hi => ?_⟩
  have hi5 : i < 5 := hi
  have : i = 0 ∨ i = 1 ∨ i = 2 ∨ i = 3 ∨ i = 4 := by omega
  rcases this with rfl | rfl | rfl | rfl | rfl
  all_goals exact ⟨by simp [go_sem, tkOf, Lex.toks1, Lex.endTok], by simp [go_sem, tkOf, Lex.toks1, Lex.endTok], by simp [go_sem, tkOf, Lex.toks1, Lex.endTok]⟩

set_option maxRecDepth 100000 in
set_option maxHeartbeats 4000000 in
theorem awake_walk (w : World) (hg : Globs w) : Calls Tryz.prog 18 #[] w fun e w' => e = .returned (.bool true) ∧ Below w.heap.size w w' := by
  have HG := Lib.hid hg
  clear hg
  go_enter Tryz.func18, Tryz.ntmps18
  go_wp2_with fail
  refine (oscanL_walk Lex.src1 (by decide) _ HG.out).mono ?_
  rintro e w1 h1
  obtain ⟨A, cap, rfl, hT1, _, hb1⟩ := scanV_ok h1 Lex.scan_1
  clear h1
  have hn1 : (tkOf Lex.toks1).length = 5 := rfl
  rw [hn1]
  have hbf := below_one w1 (.cells #[.int .i64 0, .int .i64 0] 27)
  have HF1 := Lib.hid (box2_new w1 0 0)
  have HT1 := Lib.hid (hT1.next hbf)
  have HB1 := Lib.hid (below_next hb1 hbf)
  clear hT1 hb1 hbf hn1
  go_wp2_with fail
  generalize hW : w1.alloc (.cells #[.int .i64 0, .int .i64 0] 27) = W1 at HF1 HT1 HB1 ⊢
  clear hW
  refine (oscanL_walk [49, 46, 50] (by decide) _ (HG.out.next HB1.out)).mono ?_
  rintro e w2 h2
  obtain ⟨A2, cap2, rfl, hb2⟩ := scanV_err h2 Lex.scan_2
  clear h2
  have hbf := below_one w2 (.cells #[.int .i64 60, .int .i64 0] 27)
  have hb2' := below_next hb2 hbf
  have HF2 := Lib.hid (box2_new w2 60 0)
  have HF12 := Lib.hid (HF1.out.keep (B := W1.heap.size) HF1.out.1 hb2')
  have HT2 := Lib.hid (HT1.out.next hb2')
  have HB2 := Lib.hid (below_next HB1.out hb2')
  have hw12 : w1.heap.size < W1.heap.size := HF1.out.1
  clear hb2 hb2' hbf HF1 HT1
  go_wp2_with fail
  have HZ2 : Hid ((w2.alloc (.cells #[.int .i64 60, .int .i64 0] 27)).heap.size = w2.heap.size + 1) := Lib.hid (by simp)
  generalize hW : w2.alloc (.cells #[.int .i64 60, .int .i64 0] 27) = W2 at HF2 HF12 HT2 HB2 HZ2 ⊢
  clear hW
  have hone := tks_one W2 ⟨Lex.tq, 0⟩
  rw [HZ2.out] at hone
  have hba := below_one W2 (.cells #[.int .i64 4, .string ⟨#[97, 34, 98]⟩, .int .i64 0] 32)
  refine (oshow_walk (some ⟨w2.heap.size + 1, 0, none⟩) 1 [⟨Lex.tq, 0⟩] _ hone (by decide) (by intro b hb; simp at hb; subst hb; decide) (HG.out.next (below_next HB2.out hba))).mono ?_
  rintro e w3 ⟨h3, hb3⟩
  have he := show_yes h3 Lex.may_q
  subst he
  have hb3' := below_next hba hb3
  have HF23 := Lib.hid (HF2.out.keep (B := W2.heap.size) HF2.out.1 hb3')
  have HF13 := Lib.hid (HF12.out.keep (B := W2.heap.size) HF12.out.1 hb3')
  have HT3 := Lib.hid (HT2.out.next hb3')
  have HB3 := Lib.hid (below_next HB2.out hb3')
  have hs3 : w2.heap.size + 1 < w3.heap.size := by have := hb3.size; simp at this; have := HZ2.out; omega
  clear hone hba h3 hb3 hb3' HF2 HF12 HT2
  have hq : (Lex.shown (List.map (fun (x : Tk) => x.t) [⟨Lex.tq, 0⟩])) = [34, 97, 92, 34, 98, 34] := rfl
  rw [hq]
  clear hq
  have hfv := tks_five w3 w3.heap.size rfl
  have hbv := below_one w3 (.cells #[.int .i64 5, .string ⟨#[108, 101, 116]⟩, .int .i64 0, .int .i64 1, .string ⟨#[120]⟩, .int .i64 4, .int .i64 6, .string ⟨#[61]⟩, .int .i64 5, .int .i64 3, .string ⟨#[49]⟩, .int .i64 6, .int .i64 0, .string ⟨#[]⟩, .int .i64 12] 32)
  have HFV := Lib.hid hfv
  have HT4 := Lib.hid (HT3.out.next hbv)
  have HB4 := Lib.hid (below_next HB3.out hbv)
  have HF24 := Lib.hid (HF23.out.keep (B := w3.heap.size) HF23.out.1 hbv)
  have HF14 := Lib.hid (HF13.out.keep (B := w3.heap.size) HF13.out.1 hbv)
  clear hfv hbv
  obtain ⟨q0, x0, x1, _, _⟩ := HF13.out
  obtain ⟨q2, x2, x3, _, _⟩ := HF23.out
  have hll : (tkOf Lex.toks1).length = 5 := rfl
  go_wp2_with fail
  clear x0 x1 x2 x3
  generalize hW : w3.alloc (.cells #[.int .i64 5, .string ⟨#[108, 101, 116]⟩, .int .i64 0, .int .i64 1, .string ⟨#[120]⟩, .int .i64 4, .int .i64 6, .string ⟨#[61]⟩, .int .i64 5, .int .i64 3, .string ⟨#[49]⟩, .int .i64 6, .int .i64 0, .string ⟨#[]⟩, .int .i64 12] 32) = W4 at HFV HT4 HB4 HF24 HF14 ⊢
  clear hW
  refine (tsame_walk A (some ⟨w3.heap.size, 0, none⟩) cap 5 (tkOf Lex.toks1) (tkOf Lex.toks1) true _ HT4.out HFV.out (by decide)).mono ?_
  rintro e w5 ⟨rfl, hb5⟩
  rw [sameT_refl]
  have HB5 := Lib.hid (below_next HB4.out hb5)
  have HF25 := Lib.hid (HF24.out.keep (B := W4.heap.size) HF24.out.1 hb5)
  obtain ⟨q4, x2, x3, _, _⟩ := HF25.out
  clear hb5
  go_wp2
  go_ret
  exact ⟨rfl, HB5.out⟩
end Go.Proofs.YtebphmkefpaeaaaGreatDoor
