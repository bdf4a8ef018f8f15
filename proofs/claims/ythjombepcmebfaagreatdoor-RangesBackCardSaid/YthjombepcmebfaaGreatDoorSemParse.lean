/- The document's Parse: the version that a text is. -/
import Derived.Test.YthjombepcmebfaaGreatDoorGSemA
import Derived.IntWalk
import Derived.StillTailTactics
import Derived.RegionTactic
import Derived.BigRegion
namespace Go.Proofs.YthjombepcmebfaaGreatDoor
open Go.RowKit
set_option linter.unusedVariables false

/-- What Parse tells. -/
def parseR (o : Option Sem.Ver) : Value := match o with
  | some v => .tuple #[verV v, .int .i64 0]
  | none => .tuple #[verV ⟨0, 0, 0, []⟩, .int .i64 40]

theorem parse_long {l : List UInt8} (h : 60 < l.length) : Sem.parse l = none := by
  cases hp : Sem.parse l with
  | none => rfl
  | some v =>
    obtain ⟨h1, h2⟩ := Sem.parse_some hp
    have := Sem.text_len h1
    rw [h2] at this
    omega

/-- Three numbers as cells. -/
def tl (t : Nat × Nat × Nat) : List Value := [.int .i64 t.1, .int .i64 t.2.1, .int .i64 t.2.2]

theorem tl_get (t : Nat × Nat × Nat) (k : Nat) (h : k ≤ 2) : (tl t)[k]? = some (.int .i64 (Sem.get t k)) := by
  match k, h with
  | 0, _ => rfl
  | 1, _ => rfl
  | 2, _ => rfl

theorem tl_put (t : Nat × Nat × Nat) (k x : Nat) (h : k ≤ 2) : (tl t).set k (.int .i64 x) = tl (Sem.put t k x) := by
  match k, h with
  | 0, _ => rfl
  | 1, _ => rfl
  | 2, _ => rfl

set_option maxRecDepth 100000 in
theorem rparse_long (s : ByteArray) (h : 60 < s.size) (hs : s.size ≤ 9223372036854775807) (w : World) :
    Calls Tryz.prog 32 #[.string s] w fun e w' => e = .returned (parseR (Sem.parse s.data.toList)) ∧ Below w.heap.size w w' := by
  rw [parse_long (by rw [← Lib.size_eq]; exact h)]
  go_enter Tryz.func32, Tryz.ntmps32
  go_wp2
  refine bodyPost_ret (v := .tuple #[.agg #[.int .i64 0, .int .i64 0, .int .i64 0, .string ByteArray.empty], .int .i64 40]) (by simp [results, Tryz.results32, go_sem]; rfl) rfl ?_
  exact ⟨rfl, below_one _ _⟩

theorem scan_step {s : ByteArray} {i : Nat} (h : i < s.size) (k : Nat) (t : Nat × Nat × Nat) : Sem.scan (s.data.toList.drop i) k t =
    if s[i]'h = 45 then some (t, s.data.toList.drop i) else if s[i]'h = 46 then (if k < 2 then Sem.scan (s.data.toList.drop (i + 1)) (k + 1) t else none)
    else if Sem.dig (s[i]'h) = true then Sem.scan (s.data.toList.drop (i + 1)) k (Sem.put t k (Sem.rd (Sem.get t k) (s[i]'h))) else none := by
  rw [List.drop_eq_getElem_cons (by rw [← Lib.size_eq]; exact h), Sem.scan]
  rfl

theorem bel4 {w W : World} {x0 x1 x2 x3 : Value} (h : Below w.heap.size w W) : Below w.heap.size w ((((W.setCell ⟨w.heap.size, 0, none⟩ x0).setCell ⟨w.heap.size, 1, none⟩ x1).setCell ⟨w.heap.size, 2, none⟩ x2).setCell ⟨w.heap.size, 3, none⟩ x3) :=
  (((h.setCell (p := ⟨w.heap.size, 0, none⟩) (Nat.le_refl _) _).setCell (p := ⟨w.heap.size, 1, none⟩) (Nat.le_refl _) _).setCell (p := ⟨w.heap.size, 2, none⟩) (Nat.le_refl _) _).setCell (p := ⟨w.heap.size, 3, none⟩) (Nat.le_refl _) _

theorem rd_le {a : Nat} {c : UInt8} (h : a ≤ 9999999) (hc : c.toNat ≤ 57) : Sem.rd a c ≤ 9999999 := by
  unfold Sem.rd; split <;> omega

theorem put_le {t : Nat × Nat × Nat} {k x : Nat} (h : ∀ j, Sem.get t j ≤ 9999999) (hx : x ≤ 9999999) : ∀ j, Sem.get (Sem.put t k x) j ≤ 9999999 := by
  have h0 : t.1 ≤ 9999999 := h 0
  have h1 : t.2.1 ≤ 9999999 := h 1
  have h2 : t.2.2 ≤ 9999999 := h 2
  intro j
  unfold Sem.put
  by_cases e0 : k = 0
  · rw [if_pos e0]; unfold Sem.get
    by_cases j0 : j = 0
    · rw [if_pos j0]; exact hx
    · rw [if_neg j0]; split <;> assumption
  · rw [if_neg e0]
    by_cases e1 : k = 1
    · rw [if_pos e1]; unfold Sem.get
      by_cases j0 : j = 0
      · rw [if_pos j0]; exact h0
      · rw [if_neg j0]; split <;> assumption
    · rw [if_neg e1]; unfold Sem.get
      by_cases j0 : j = 0
      · rw [if_pos j0]; exact h0
      · rw [if_neg j0]; split <;> assumption

theorem scan_none {l : List UInt8} (h : Sem.scan l 0 (0, 0, 0) = none) : Sem.parse l = none := by rw [Sem.parse, h]
theorem scan_some {l : List UInt8} {t : Nat × Nat × Nat} {rest : List UInt8} (h : Sem.scan l 0 (0, 0, 0) = some (t, rest)) :
    Sem.parse l = if Sem.may ⟨t.1, t.2.1, t.2.2, rest.tail⟩ = true ∧ Sem.text ⟨t.1, t.2.1, t.2.2, rest.tail⟩ = l then some ⟨t.1, t.2.1, t.2.2, rest.tail⟩ else none := by
  rw [Sem.parse, h]

set_option maxRecDepth 100000 in
set_option maxHeartbeats 2000000 in
theorem rparse_in (s : ByteArray) (h : s.size ≤ 60) (w : World) :
    Calls Tryz.prog 32 #[.string s] w fun e w' => e = .returned (parseR (Sem.parse s.data.toList)) ∧ Below w.heap.size w w' := by
  have hz := Lib.hid (Lib.size_eq s)
  go_enter Tryz.func32, Tryz.ntmps32
  go_wp2_with fail
  generalize hW0 : w.alloc (Obj.cells #[Value.int IntKind.i64 0, Value.int IntKind.i64 0, Value.int IntKind.i64 0, Value.string ⟨#[]⟩] 40) = W0
  have hz0 : W0.heap.size = w.heap.size + 1 := by rw [← hW0]; simp
  have hR0 : VerAt W0 w.heap.size ⟨0, 0, 0, []⟩ := by rw [← hW0]; exact ver_new w ⟨0, 0, 0, []⟩
  have hF0 : Hid (W0.frozen? ⟨w.heap.size, 0, none⟩ = false ∧ W0.frozen? ⟨w.heap.size, 1, none⟩ = false ∧ W0.frozen? ⟨w.heap.size, 2, none⟩ = false ∧ W0.frozen? ⟨w.heap.size, 3, none⟩ = false) := by
    rw [← hW0]; exact Lib.hid ⟨by simp [go_sem], by simp [go_sem], by simp [go_sem], by simp [go_sem]⟩
  have hb0 : Below w.heap.size w W0 := by rw [← hW0]; exact below_one _ _
  have hown0 : (W0.alloc (Obj.cells #[Value.int IntKind.i64 0, Value.int IntKind.i64 0, Value.int IntKind.i64 0] 3)).ownsRow (w.heap.size + 1) 3 1 (.slice (some ⟨w.heap.size + 1, 0, none⟩) 3 3) 3 (tl (0, 0, 0)) := by
    have := World.ownsRow_lit (base := W0.heap.size) (e := 3) (size := 1) W0 #[Value.int IntKind.i64 0, Value.int IntKind.i64 0, Value.int IntKind.i64 0] 3 (Nat.le_refl _) (by simp [maxLen]) rfl
    rw [hz0] at this
    exact this
  have hbl0 : Below (w.heap.size + 1) W0 (W0.alloc (Obj.cells #[Value.int IntKind.i64 0, Value.int IntKind.i64 0, Value.int IntKind.i64 0] 3)) := by rw [← hz0]; exact below_one _ _
  have HR0 := Lib.hid hR0
  have HZ0 := Lib.hid hz0
  clear hW0 hR0 hz0
  go_loopw [5, 6] (fun kk ii wr => ∃ (k i : Nat) (t : Nat × Nat × Nat), kk = .int .i64 k ∧ ii = .int .i64 i ∧ k ≤ 2 ∧ i ≤ s.size ∧ Hid (∀ j, Sem.get t j ≤ 9999999) ∧
      Hid (Sem.scan s.data.toList 0 (0, 0, 0) = Sem.scan (s.data.toList.drop i) k t) ∧ wr.ownsRow (w.heap.size + 1) 3 1 (.slice (some ⟨w.heap.size + 1, 0, none⟩) 3 3) 3 (tl t) ∧ Below (w.heap.size + 1) W0 wr)
    (fun _ i _ => s.size - (intOf i).toNat)
  case atStart => exact ⟨0, 0, (0, 0, 0), rfl, rfl, by omega, Nat.zero_le _, Lib.hid (fun j => by unfold Sem.get; split <;> simp), Lib.hid rfl, hown0, hbl0⟩
  case round =>
    clear hown0 hbl0
    obtain ⟨k, i, t, rfl, rfl, hk, hi, HT, HSC, hown, hb⟩ := hrel
    have hbw : Below w.heap.size w wr := hb0.trans (hb.mono (by omega))
    have hr1 : w.heap.size < w.heap.size + 1 := by omega
    obtain ⟨_, r0, r1, r2, r3⟩ := HR0.out
    obtain ⟨f0, f1, f2, f3⟩ := hF0.out
    have hbz : Below W0.heap.size W0 wr := by rw [HZ0.out]; exact hb
    have hgz : w.heap.size < W0.heap.size := by rw [HZ0.out]; omega
    rw [← (cell_of_below (o := 0) hbz hgz).1] at r0
    rw [← (cell_of_below (o := 1) hbz hgz).1] at r1
    rw [← (cell_of_below (o := 2) hbz hgz).1] at r2
    rw [← (cell_of_below (o := 3) hbz hgz).1] at r3
    rw [← (cell_of_below (o := 0) hbz hgz).2] at f0
    rw [← (cell_of_below (o := 1) hbz hgz).2] at f1
    rw [← (cell_of_below (o := 2) hbz hgz).2] at f2
    rw [← (cell_of_below (o := 3) hbz hgz).2] at f3
    have hwz : w.heap.size + 1 ≤ wr.heap.size := by have := hb.size; rw [HZ0.out] at this; exact this
    clear hbz hgz
    by_cases hgo : ∃ h : i < s.size, (s[i]'h).toNat ≠ 45
    · obtain ⟨hlt, hc45⟩ := hgo
      have hst := scan_step hlt k t
      have h45 : s[i]'hlt ≠ 45 := fun h => hc45 (by rw [h]; rfl)
      rw [if_neg h45] at hst
      have hd45 : (((s[i]'hlt).toNat : Int) != 45) = true := by rw [bne_iff_ne]; omega
      by_cases hc46 : (s[i]'hlt).toNat = 46
      · have h46 : s[i]'hlt = 46 := UInt8.toNat_inj.1 hc46
        have hd46 : (((s[i]'hlt).toNat : Int) == 46) = true := by rw [beq_iff_eq]; omega
        have hd46n : (((s[i]'hlt).toNat : Int) != 46) = false := by rw [bne_eq_false_iff_eq]; omega
        rw [if_pos h46] at hst
        by_cases hk2 : k < 2
        · rw [if_pos hk2] at hst
          have HN : Hid (Sem.scan s.data.toList 0 (0, 0, 0) = Sem.scan (s.data.toList.drop (i + 1)) (k + 1) t) := Lib.hid (HSC.out.trans hst)
          clear hst h45 hc45 hc46 h46 r0 r1 r2 r3 f0 f1 f2 f3
          go_wp2_with fail
          go_roundw
          case rel => exact ⟨k + 1, i + 1, t, by go_num, by go_num, by omega, by omega, HT, HN, hown, hb⟩
          case measure => simp [intOf]; omega
        · rw [if_neg hk2] at hst
          have HE : Hid (Sem.parse s.data.toList = none) := Lib.hid (scan_none (HSC.out.trans hst))
          clear hst h45 hc45 hc46 h46
          go_wp2
          refine bodyPost_ret (v := .tuple #[.agg #[.int .i64 0, .int .i64 0, .int .i64 0, .string ByteArray.empty], .int .i64 40]) (by simp [results, Tryz.results32, go_sem, r0, r1, r2, r3]; rfl) rfl ?_
          exact ⟨by rw [HE.out]; rfl, bel4 hbw⟩
      · have h46 : s[i]'hlt ≠ 46 := fun h => hc46 (by rw [h]; rfl)
        have hd46 : (((s[i]'hlt).toNat : Int) == 46) = false := by rw [beq_eq_false_iff_ne]; omega
        have hd46n : (((s[i]'hlt).toNat : Int) != 46) = true := by rw [bne_iff_ne]; omega
        rw [if_neg h46] at hst
        by_cases hdig : 48 ≤ (s[i]'hlt).toNat ∧ (s[i]'hlt).toNat ≤ 57
        · rw [if_pos (by simp [Sem.dig]; omega)] at hst
          have HN := Lib.hid (HSC.out.trans hst)
          obtain ⟨hd1, hd2⟩ := hdig
          have hcell := hown.cellAt k (by omega)
          rw [tl_get t k hk] at hcell
          have hfr := hown.frozenAt k
          obtain ⟨a, ha⟩ : ∃ a, a = Sem.get t k := ⟨_, rfl⟩
          have hal : a ≤ 9999999 := by rw [ha]; exact HT.out k
          rw [← ha] at hcell
          have HX := Lib.hid ha
          have hkI : (k : Int) < 3 := by omega
          by_cases hal2 : a ≤ 999999
          · have HST := Lib.hid (hown.stored k (.int .i64 (10 * a + ((s[i]'hlt).toNat - 48) : Nat)))
            have HP : Hid ((tl t).set k (.int .i64 (10 * a + ((s[i]'hlt).toNat - 48) : Nat)) = tl (Sem.put t k (Sem.rd (Sem.get t k) (s[i]'hlt)))) := Lib.hid (by
              rw [tl_put t k _ hk, ← HX.out, Sem.rd, if_pos hal2])
            clear hst h45 hc45 hc46 h46 ha hown r0 r1 r2 r3 f0 f1 f2 f3
            go_wp2_with fail
            have hw1 : IntKind.i64.wrap (10 * (a : Int)) = 10 * (a : Int) := IntWalk.i64_in _ (by omega)
            have hw2 : IntKind.u8.wrap (((s[i]'hlt).toNat : Int) - 48) = ((s[i]'hlt).toNat : Int) - 48 := IntWalk.u8_in _ (by omega)
            have hw3 : IntKind.i64.wrap (((s[i]'hlt).toNat : Int) - 48) = ((s[i]'hlt).toNat : Int) - 48 := IntWalk.i64_in _ (by omega)
            have hw4 : IntKind.i64.wrap (10 * (a : Int) + (((s[i]'hlt).toNat : Int) - 48)) = 10 * (a : Int) + (((s[i]'hlt).toNat : Int) - 48) := IntWalk.i64_in _ (by omega)
            have hi1 : (i : Int) < (s.size : Int) := by omega
            go_still_tail 14, (by kernel_rfl)
            change wpList _ _ _ _ _ wr.drew
            clear hw1 hw2 hw3 hw4
            go_wp2
            go_roundw
            case rel =>
              refine ⟨k, i + 1, _, rfl, by go_num, hk, by omega, Lib.hid (put_le HT.out (rd_le (HT.out k) hd2)), HN, ?_, ((hb.setCell (p := ⟨w.heap.size + 1, k, none⟩) (Nat.le_refl _) _).drew)⟩
              rw [← HP.out]
              have := HST.out.1.drew
              rw [show ((10 * a + ((s[i]'hlt).toNat - 48) : Nat) : Int) = 10 * (a : Int) + (((s[i]'hlt).toNat : Int) - 48) from by omega] at this ⊢
              exact this
            case measure => simp [intOf]; omega
          · have HP : Hid (Sem.put t k (Sem.rd (Sem.get t k) (s[i]'hlt)) = t) := Lib.hid (by
              have e : Sem.rd (Sem.get t k) (s[i]'hlt) = Sem.get t k := by rw [← HX.out, Sem.rd, if_neg hal2]
              rw [e]
              match k, hk with
              | 0, _ => rfl
              | 1, _ => rfl
              | 2, _ => rfl)
            rw [HP.out] at HN
            clear hst h45 hc45 hc46 h46 ha r0 r1 r2 r3 f0 f1 f2 f3
            go_wp2_with fail
            go_roundw
            case rel => exact ⟨k, i + 1, t, rfl, by go_num, hk, by omega, HT, HN, hown, hb⟩
            case measure => simp [intOf]; omega
        · rw [if_neg (by simp [Sem.dig]; omega)] at hst
          have HE : Hid (Sem.parse s.data.toList = none) := Lib.hid (scan_none (HSC.out.trans hst))
          clear hst h45 hc45 h46
          by_cases h48 : (s[i]'hlt).toNat < 48
          · clear hdig
            go_wp2
            refine bodyPost_ret (v := .tuple #[.agg #[.int .i64 0, .int .i64 0, .int .i64 0, .string ByteArray.empty], .int .i64 40]) (by simp [results, Tryz.results32, go_sem, r0, r1, r2, r3]; rfl) rfl ?_
            exact ⟨by rw [HE.out]; rfl, bel4 hbw⟩
          · have h57 : 57 < (s[i]'hlt).toNat := by omega
            clear hdig
            go_wp2
            refine bodyPost_ret (v := .tuple #[.agg #[.int .i64 0, .int .i64 0, .int .i64 0, .string ByteArray.empty], .int .i64 40]) (by simp [results, Tryz.results32, go_sem, r0, r1, r2, r3]; rfl) rfl ?_
            exact ⟨by rw [HE.out]; rfl, bel4 hbw⟩
    · have hstop : Sem.scan (s.data.toList.drop i) k t = some (t, s.data.toList.drop i) := by
        by_cases hlt : i < s.size
        · have h45 : s[i]'hlt = 45 := UInt8.toNat_inj.1 (Classical.not_not.1 (fun h => hgo ⟨hlt, h⟩))
          rw [scan_step hlt, if_pos h45]
        · rw [List.drop_eq_nil_of_le (by rw [← hz.out]; omega)]; rfl
      have hps := scan_some (HSC.out.trans hstop)
      obtain ⟨ta, tb, tc⟩ := t
      have hta : ta ≤ 9999999 := HT.out 0
      have htb : tb ≤ 9999999 := HT.out 1
      have htc : tc ≤ 9999999 := HT.out 2
      have hgl : w.heap.size + 1 < wr.heap.size := (hown.lt (w.heap.size + 1) rfl).2
      have hgl2 : w.heap.size < wr.heap.size := by omega
      have c0 : wr.cell? ⟨w.heap.size + 1, 0, none⟩ = some (.int .i64 ta) := by have := hown.cellAt 0 (by omega); exact this
      have c1 : wr.cell? ⟨w.heap.size + 1, 1, none⟩ = some (.int .i64 tb) := by have := hown.cellAt 1 (by omega); exact this
      have c2 : wr.cell? ⟨w.heap.size + 1, 2, none⟩ = some (.int .i64 tc) := by have := hown.cellAt 2 (by omega); exact this
      by_cases hlt : i < s.size
      · have h45 : (s[i]'hlt).toNat = 45 := Classical.not_not.1 (fun h => hgo ⟨hlt, h⟩)
        have hd45 : (((s[i]'hlt).toNat : Int) != 45) = false := by rw [bne_eq_false_iff_eq]; omega
        obtain ⟨pre, hpre⟩ : ∃ pre, pre = (s.data.toList.drop i).tail := ⟨_, rfl⟩
        have hpre2 : s.data.toList.drop (i + 1) = pre := by rw [hpre, List.tail_drop]
        have hpl : pre.length ≤ 60 := by rw [← hpre2, List.length_drop, ← hz.out]; omega
        have hsl : ∀ W : World, (Instr.slice 9 (.string s) (some (.int .i64 ((i : Int) + 1))) none none).run Tryz.prog W = .ok (.string ⟨pre.toArray⟩) W := fun W => by
          have := slice_from s (i + 1) (by omega) W
          rw [hpre2] at this
          exact this
        rw [← hpre] at hps
        have HPS := Lib.hid hps
        clear hps hpre hpre2 hstop hgo h45 hown HT HSC
        go_wp2_with fail
        go_region
        go_wp2_with fail
        generalize hX : (wr.alloc (Obj.cells #[Value.int IntKind.i64 (ta : Int), Value.int IntKind.i64 (tb : Int), Value.int IntKind.i64 (tc : Int), Value.string ⟨pre.toArray⟩] 40)).drew = X
        have hbo := (below_one wr (Obj.cells #[Value.int IntKind.i64 (ta : Int), Value.int IntKind.i64 (tb : Int), Value.int IntKind.i64 (tc : Int), Value.string ⟨pre.toArray⟩] 40)).drew
        have hV : VerAt X wr.heap.size ⟨ta, tb, tc, pre⟩ := by rw [← hX]; exact ver_new wr ⟨ta, tb, tc, pre⟩
        rw [hX] at hbo
        have hRX : VerAt X w.heap.size ⟨0, 0, 0, []⟩ := VerAt.next ⟨hgl2, r0, r1, r2, r3⟩ hbo
        have hbX := below_next hbw hbo
        have F0 := (cell_of_below (o := 0) hbo hgl2).2.trans f0
        have F1 := (cell_of_below (o := 1) hbo hgl2).2.trans f1
        have F2 := (cell_of_below (o := 2) hbo hgl2).2.trans f2
        have F3 := (cell_of_below (o := 3) hbo hgl2).2.trans f3
        have hgX : w.heap.size < X.heap.size := hRX.1
        clear hX hbo r0 r1 r2 r3 f0 f1 f2 f3 c0 c1 c2 hb hwz
        cases hm : Sem.may ⟨ta, tb, tc, pre⟩
        · have HE : Hid (Sem.parse s.data.toList = none) := Lib.hid (by rw [HPS.out, hm, if_neg (by simp)])
          have HSH : Hid (showR ⟨ta, tb, tc, pre⟩ = .tuple #[.string ByteArray.empty, .int .i64 40]) := Lib.hid (by rw [showR, hm, if_neg (by simp)])
          clear hm
          refine (rshow_walk ⟨ta, tb, tc, pre⟩ (by simp only; omega) _).mono ?_
          rintro e w2 ⟨he, hb2⟩
          rw [HSH.out] at he
          subst he
          obtain ⟨_, r0, r1, r2, r3⟩ := hRX.next hb2
          have f0 := (cell_of_below (o := 0) hb2 hgX).2.trans F0
          have f1 := (cell_of_below (o := 1) hb2 hgX).2.trans F1
          have f2 := (cell_of_below (o := 2) hb2 hgX).2.trans F2
          have f3 := (cell_of_below (o := 3) hb2 hgX).2.trans F3
          have hbw2 := below_next hbX hb2
          clear F0 F1 F2 F3 hV hRX hb2
          go_wp2
          refine bodyPost_ret (v := .tuple #[.agg #[.int .i64 0, .int .i64 0, .int .i64 0, .string ByteArray.empty], .int .i64 40]) (by simp [results, Tryz.results32, go_sem, r0, r1, r2, r3]; rfl) rfl ?_
          exact ⟨by rw [HE.out]; rfl, bel4 hbw2⟩
        · have HSH : Hid (showR ⟨ta, tb, tc, pre⟩ = .tuple #[.string ⟨(Sem.text ⟨ta, tb, tc, pre⟩).toArray⟩, .int .i64 0]) := Lib.hid (by rw [showR, hm, if_pos rfl])
          obtain ⟨x, hx⟩ : ∃ x, x = Sem.text ⟨ta, tb, tc, pre⟩ := ⟨_, rfl⟩
          rw [hm, ← hx] at HPS
          rw [← hx] at HSH
          clear hm hx
          cases hts : x == s.toList
          · have HE : Hid (Sem.parse s.data.toList = none) := Lib.hid (by
              rw [HPS.out, if_neg]; rintro ⟨_, h⟩; rw [tx_list, beq_eq_false_iff_ne] at hts; exact hts h)
            refine (rshow_walk ⟨ta, tb, tc, pre⟩ (by simp only; omega) _).mono ?_
            rintro e w2 ⟨he, hb2⟩
            rw [HSH.out] at he
            subst he
            obtain ⟨_, r0, r1, r2, r3⟩ := hRX.next hb2
            have f0 := (cell_of_below (o := 0) hb2 hgX).2.trans F0
            have f1 := (cell_of_below (o := 1) hb2 hgX).2.trans F1
            have f2 := (cell_of_below (o := 2) hb2 hgX).2.trans F2
            have f3 := (cell_of_below (o := 3) hb2 hgX).2.trans F3
            have hbw2 := below_next hbX hb2
            clear F0 F1 F2 F3 hV hRX hb2
            go_wp2
            refine bodyPost_ret (v := .tuple #[.agg #[.int .i64 0, .int .i64 0, .int .i64 0, .string ByteArray.empty], .int .i64 40]) (by simp [results, Tryz.results32, go_sem, r0, r1, r2, r3]; rfl) rfl ?_
            exact ⟨by rw [HE.out]; rfl, bel4 hbw2⟩
          · have HE : Hid (Sem.parse s.data.toList = some ⟨ta, tb, tc, pre⟩) := Lib.hid (by
              have hxe : x = s.data.toList := by
                rw [tx_list, beq_iff_eq] at hts
                exact hts
              rw [HPS.out, if_pos ⟨rfl, hxe⟩])
            refine (rshow_walk ⟨ta, tb, tc, pre⟩ (by simp only; omega) _).mono ?_
            rintro e w2 ⟨he, hb2⟩
            rw [HSH.out] at he
            subst he
            obtain ⟨_, r0, r1, r2, r3⟩ := hRX.next hb2
            obtain ⟨_, v0, v1, v2, v3⟩ := hV.next hb2
            have f0 := (cell_of_below (o := 0) hb2 hgX).2.trans F0
            have f1 := (cell_of_below (o := 1) hb2 hgX).2.trans F1
            have f2 := (cell_of_below (o := 2) hb2 hgX).2.trans F2
            have f3 := (cell_of_below (o := 3) hb2 hgX).2.trans F3
            have hbw2 := below_next hbX hb2
            clear F0 F1 F2 F3 hV hRX hb2
            go_wp2
            refine bodyPost_ret (v := .tuple #[.agg #[.int .i64 ta, .int .i64 tb, .int .i64 tc, .string ⟨pre.toArray⟩], .int .i64 0]) (by simp [results, Tryz.results32, go_sem, r0, r1, r2, r3]) rfl ?_
            exact ⟨by rw [HE.out]; rfl, bel4 hbw2⟩
      · have hae : s.data.toList.drop i = [] := List.drop_eq_nil_of_le (by rw [← hz.out]; omega)
        rw [hae, List.tail_nil] at hps
        have HPS := Lib.hid hps
        clear hps hstop hgo hown HT HSC hae
        go_wp2_with fail
        go_region
        go_wp2_with fail
        generalize hX : (wr.alloc (Obj.cells #[Value.int IntKind.i64 (ta : Int), Value.int IntKind.i64 (tb : Int), Value.int IntKind.i64 (tc : Int), Value.string ⟨#[]⟩] 40)).drew = X
        have hbo := (below_one wr (Obj.cells #[Value.int IntKind.i64 (ta : Int), Value.int IntKind.i64 (tb : Int), Value.int IntKind.i64 (tc : Int), Value.string ⟨#[]⟩] 40)).drew
        have hV : VerAt X wr.heap.size ⟨ta, tb, tc, []⟩ := by rw [← hX]; exact ver_new wr ⟨ta, tb, tc, []⟩
        rw [hX] at hbo
        have hRX : VerAt X w.heap.size ⟨0, 0, 0, []⟩ := VerAt.next ⟨hgl2, r0, r1, r2, r3⟩ hbo
        have hbX := below_next hbw hbo
        have F0 := (cell_of_below (o := 0) hbo hgl2).2.trans f0
        have F1 := (cell_of_below (o := 1) hbo hgl2).2.trans f1
        have F2 := (cell_of_below (o := 2) hbo hgl2).2.trans f2
        have F3 := (cell_of_below (o := 3) hbo hgl2).2.trans f3
        have hgX : w.heap.size < X.heap.size := hRX.1
        clear hX hbo r0 r1 r2 r3 f0 f1 f2 f3 c0 c1 c2 hb hwz
        cases hm : Sem.may ⟨ta, tb, tc, []⟩
        · have HE : Hid (Sem.parse s.data.toList = none) := Lib.hid (by rw [HPS.out, hm, if_neg (by simp)])
          have HSH : Hid (showR ⟨ta, tb, tc, []⟩ = .tuple #[.string ByteArray.empty, .int .i64 40]) := Lib.hid (by rw [showR, hm, if_neg (by simp)])
          clear hm
          refine (rshow_walk ⟨ta, tb, tc, []⟩ (by simp only; decide) _).mono ?_
          rintro e w2 ⟨he, hb2⟩
          rw [HSH.out] at he
          subst he
          obtain ⟨_, r0, r1, r2, r3⟩ := hRX.next hb2
          have f0 := (cell_of_below (o := 0) hb2 hgX).2.trans F0
          have f1 := (cell_of_below (o := 1) hb2 hgX).2.trans F1
          have f2 := (cell_of_below (o := 2) hb2 hgX).2.trans F2
          have f3 := (cell_of_below (o := 3) hb2 hgX).2.trans F3
          have hbw2 := below_next hbX hb2
          clear F0 F1 F2 F3 hV hRX hb2
          go_wp2
          refine bodyPost_ret (v := .tuple #[.agg #[.int .i64 0, .int .i64 0, .int .i64 0, .string ByteArray.empty], .int .i64 40]) (by simp [results, Tryz.results32, go_sem, r0, r1, r2, r3]; rfl) rfl ?_
          exact ⟨by rw [HE.out]; rfl, bel4 hbw2⟩
        · have HSH : Hid (showR ⟨ta, tb, tc, []⟩ = .tuple #[.string ⟨(Sem.text ⟨ta, tb, tc, []⟩).toArray⟩, .int .i64 0]) := Lib.hid (by rw [showR, hm, if_pos rfl])
          obtain ⟨x, hx⟩ : ∃ x, x = Sem.text ⟨ta, tb, tc, []⟩ := ⟨_, rfl⟩
          rw [hm, ← hx] at HPS
          rw [← hx] at HSH
          clear hm hx
          cases hts : x == s.toList
          · have HE : Hid (Sem.parse s.data.toList = none) := Lib.hid (by
              rw [HPS.out, if_neg]; rintro ⟨_, h⟩; rw [tx_list, beq_eq_false_iff_ne] at hts; exact hts h)
            refine (rshow_walk ⟨ta, tb, tc, []⟩ (by simp only; decide) _).mono ?_
            rintro e w2 ⟨he, hb2⟩
            rw [HSH.out] at he
            subst he
            obtain ⟨_, r0, r1, r2, r3⟩ := hRX.next hb2
            have f0 := (cell_of_below (o := 0) hb2 hgX).2.trans F0
            have f1 := (cell_of_below (o := 1) hb2 hgX).2.trans F1
            have f2 := (cell_of_below (o := 2) hb2 hgX).2.trans F2
            have f3 := (cell_of_below (o := 3) hb2 hgX).2.trans F3
            have hbw2 := below_next hbX hb2
            clear F0 F1 F2 F3 hV hRX hb2
            go_wp2
            refine bodyPost_ret (v := .tuple #[.agg #[.int .i64 0, .int .i64 0, .int .i64 0, .string ByteArray.empty], .int .i64 40]) (by simp [results, Tryz.results32, go_sem, r0, r1, r2, r3]; rfl) rfl ?_
            exact ⟨by rw [HE.out]; rfl, bel4 hbw2⟩
          · have HE : Hid (Sem.parse s.data.toList = some ⟨ta, tb, tc, []⟩) := Lib.hid (by
              have hxe : x = s.data.toList := by
                rw [tx_list, beq_iff_eq] at hts
                exact hts
              rw [HPS.out, if_pos ⟨rfl, hxe⟩])
            refine (rshow_walk ⟨ta, tb, tc, []⟩ (by simp only; decide) _).mono ?_
            rintro e w2 ⟨he, hb2⟩
            rw [HSH.out] at he
            subst he
            obtain ⟨_, r0, r1, r2, r3⟩ := hRX.next hb2
            obtain ⟨_, v0, v1, v2, v3⟩ := hV.next hb2
            have f0 := (cell_of_below (o := 0) hb2 hgX).2.trans F0
            have f1 := (cell_of_below (o := 1) hb2 hgX).2.trans F1
            have f2 := (cell_of_below (o := 2) hb2 hgX).2.trans F2
            have f3 := (cell_of_below (o := 3) hb2 hgX).2.trans F3
            have hbw2 := below_next hbX hb2
            clear F0 F1 F2 F3 hV hRX hb2
            go_wp2
            refine bodyPost_ret (v := .tuple #[.agg #[.int .i64 ta, .int .i64 tb, .int .i64 tc, .string ⟨#[]⟩], .int .i64 0]) (by simp [results, Tryz.results32, go_sem, r0, r1, r2, r3]) rfl ?_
            exact ⟨by rw [HE.out]; rfl, bel4 hbw2⟩

/-- Parse, of whatever text. -/
theorem rparse_walk (s : ByteArray) (hs : s.size ≤ 9223372036854775807) (w : World) :
    Calls Tryz.prog 32 #[.string s] w fun e w' => e = .returned (parseR (Sem.parse s.data.toList)) ∧ Below w.heap.size w w' := by
  by_cases h : 60 < s.size
  · exact rparse_long s h hs w
  · exact rparse_in s (by omega) w
end Go.Proofs.YthjombepcmebfaaGreatDoor
