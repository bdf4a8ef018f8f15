/- The document's Parse of a range. -/
import Derived.Test.YthjombepcmebfaaGreatDoorGRngC
import Derived.Test.YthjombepcmebfaaGreatDoorGRngA
import Derived.Test.YthjombepcmebfaaGreatDoorSemParse
namespace Rng
theorem bound_at {w : List UInt8} {op : Int} {b : Bd} (h1 : 1 ≤ op) (h5 : op ≤ 5) (h : ∀ j : Int, 1 ≤ j → j < op → try1 w j = none) (hb : try1 w op = some b) : bound w = some b := by
  unfold bound
  have : op = 1 ∨ op = 2 ∨ op = 3 ∨ op = 4 ∨ op = 5 := by omega
  rcases this with rfl | rfl | rfl | rfl | rfl
  · simp [List.findSome?, hb]
  · simp [List.findSome?, hb, h 1 (by decide) (by decide)]
  · simp [List.findSome?, hb, h 1 (by decide) (by decide), h 2 (by decide) (by decide)]
  · simp [List.findSome?, hb, h 1 (by decide) (by decide), h 2 (by decide) (by decide), h 3 (by decide) (by decide)]
  · simp [List.findSome?, hb, h 1 (by decide) (by decide), h 2 (by decide) (by decide), h 3 (by decide) (by decide), h 4 (by decide) (by decide)]

theorem bound_no {w : List UInt8} (h : ∀ j : Int, 1 ≤ j → j < 6 → try1 w j = none) : bound w = none := by
  unfold bound
  simp [List.findSome?, h 1 (by decide) (by decide), h 2 (by decide) (by decide), h 3 (by decide) (by decide), h 4 (by decide) (by decide), h 5 (by decide) (by decide)]

theorem try1_short {w : List UInt8} {op : Int} (h : w.length < (sign op).length) : try1 w op = none := by
  unfold try1
  rw [if_neg]
  intro hp
  have := hp.length_le
  omega
theorem try1_other {w : List UInt8} {op : Int} (h : w.take (sign op).length ≠ sign op) : try1 w op = none := by
  unfold try1
  rw [if_neg]
  intro hp
  exact h (List.prefix_iff_eq_take.1 hp).symm
theorem try1_same {w : List UInt8} {op : Int} (h : w.take (sign op).length = sign op) : try1 w op = (Sem.parse (w.drop (sign op).length)).map fun v => ⟨op, v⟩ := by
  unfold try1
  rw [if_pos (List.prefix_iff_eq_take.2 h.symm)]
theorem sign_len (op : Int) : (sign op).length ≤ 2 := by
  unfold sign; repeat (split; simp)
  simp

theorem parse_loop {s : List UInt8} (h1 : s ≠ [42]) (h2 : ¬ 3000 < s.length) (h3 : s.head? ≠ some 94) : parse s = match bounds (words s) with
    | none => none
    | some l => if may l = true then some l else none := by
  unfold parse; rw [if_neg h1, if_neg h2, if_neg h3]; rfl
end Rng
namespace Go.Proofs.YthjombepcmebfaaGreatDoor
open Go.RowKit
set_option linter.unusedVariables false

theorem own_keep {W W' : World} {B n : Nat} {e : TypeId} {v : Value} {xs : List Value} (h : W.ownsRow B e 5 v n xs) (hb : Below W.heap.size W W') : W'.ownsRow B e 5 v n xs :=
  h.kept (grown_of_below hb (Nat.le_refl _) none) (by cases hv : v.ownBlock <;> simp)

set_option maxRecDepth 100000 in
set_option maxHeartbeats 16000000 in
/-- Where a ^ stands ahead. -/
theorem rbparse_hat (r : List UInt8) (hs : r.length < 3000) (w : World) :
    Calls Tryz.prog 13 #[.string ⟨(94 :: r).toArray⟩] w fun e w' => BdsE w (Rng.parse (94 :: r)) e w' := by
  have HN : Hid (Rng.parse (94 :: r) = (Sem.parse r).map Rng.near) := Lib.hid (by
    unfold Rng.parse
    rw [if_neg (by simp), if_neg (by simp; omega), if_pos (by simp)]; rfl)
  obtain ⟨l, hl⟩ : ∃ l : List UInt8, l = 94 :: r := ⟨_, rfl⟩
  rw [← hl]
  rw [← hl] at HN
  have hz : (⟨l.toArray⟩ : ByteArray).size = l.length := size_list _
  have hll : l.length = r.length + 1 := by rw [hl]; rfl
  have hidx : ∀ W, (Instr.index 9 (.string ⟨l.toArray⟩) (.int .i64 0)).run Tryz.prog W = .ok (.int .u8 94) W := fun W => by rw [hl]; rfl
  have hsl : ∀ W, (Instr.slice 9 (.string ⟨l.toArray⟩) (some (.int .i64 1)) none none).run Tryz.prog W = .ok (.string ⟨r.toArray⟩) W := fun W => by
    have h := slice_from (W := W) ⟨l.toArray⟩ 1 (by omega)
    have e : (⟨l.toArray⟩ : ByteArray).data.toList.drop 1 = r := by rw [hl]; rfl
    rw [e] at h
    exact h
  have e1 : (l == [42]) = false := by
    rw [beq_eq_false_iff_ne, hl]; simp
  have e2 : l.isEmpty = false := by rw [hl]; rfl
  have h3 : ¬ (3000 : Int) < (r.length : Int) + 1 := by omega
  clear hl
  go_enter Tryz.func13, Tryz.ntmps13
  go_wp2_with fail
  refine (rparse_walk ⟨r.toArray⟩ (by rw [size_list]; omega) _).mono ?_
  rintro e w2 ⟨he, hb2⟩
  have hr : (⟨r.toArray⟩ : ByteArray).data.toList = r := rfl
  rw [hr] at he
  subst he
  cases hp : Sem.parse r with
  | none =>
    have hV : parseR none = .tuple #[.agg #[.int .i64 0, .int .i64 0, .int .i64 0, .string ⟨#[]⟩], .int .i64 40] := rfl
    rw [hV]
    have HN2 : Hid (Rng.parse l = none) := Lib.hid (by rw [HN.out, hp]; rfl)
    clear hV hp
    go_wp2
    go_ret2
    rw [HN2.out]
    exact BdsE.no (below_new hb2 _)
  | some v =>
    have hpl : v.pre.length ≤ 24 := ((Sem.may_iff v).1 (Sem.parse_some hp).1).2.2.2.1
    have hV : parseR (some v) = .tuple #[.agg #[.int .i64 v.maj, .int .i64 v.min, .int .i64 v.pat, .string ⟨v.pre.toArray⟩], .int .i64 0] := rfl
    rw [hV]
    have HN2 : Hid (Rng.parse l = some (Rng.near v)) := Lib.hid (by rw [HN.out, hp]; rfl)
    clear hV hp
    go_wp2_with fail
    refine (rnear_walk v (by omega) _).mono ?_
    rintro e w4 ⟨B, c, rfl, hc, hB, hb4⟩
    have hb5 := below_next (below_new hb2 _) hb4
    clear hb2 hb4
    go_wp2
    go_ret2
    rw [HN2.out]
    exact ⟨B, c, rfl, hc, hB, hb5⟩

set_option maxRecDepth 100000 in
set_option maxHeartbeats 16000000 in
/-- A list of words. -/
theorem rbparse_loop (s : List UInt8) (h3000 : s.length ≤ 3000) (h42 : s ≠ [42]) (h94 : s.head? ≠ some 94) (w : World) :
    Calls Tryz.prog 13 #[.string ⟨s.toArray⟩] w fun e w' => BdsE w (Rng.parse s) e w' := by
  obtain ⟨i0, hi, hz0, hz1, hz2⟩ := info_parts (P := Tryz.prog) (e := 57) (z := .agg #[.int .i64 0, .int .i64 0, .int .i64 0, .int .i64 0, .string ByteArray.empty]) (size := 5) (bytes := 48) (by kernel_rfl)
  have HP := Lib.hid (Rng.parse_loop h42 (show ¬ 3000 < s.length by omega) h94)
  have hz : (⟨s.toArray⟩ : ByteArray).size = s.length := size_list _
  have e1 : (s == [42]) = false := beq_eq_false_iff_ne.2 h42
  have h3 : ¬ (3000 : Int) < (s.length : Int) := by omega
  have hhead : s.isEmpty = true ∨ (s.isEmpty = false ∧ ∃ c : UInt8, (c.toNat == 94) = false ∧ ((c.toNat : Int) == 94) = false ∧ ∀ W, (Instr.index 9 (.string ⟨s.toArray⟩) (.int .i64 0)).run Tryz.prog W = .ok (.int .u8 c.toNat) W) := by
    cases s with
    | nil => exact Or.inl rfl
    | cons c r =>
      right
      have hc : c.toNat ≠ 94 := fun h => h94 (by
        have : c = 94 := UInt8.toNat_inj.1 h
        rw [this]; rfl)
      exact ⟨rfl, c, beq_eq_false_iff_ne.2 hc, by rw [beq_eq_false_iff_ne]; omega, fun W => rfl⟩
  clear h42 h94
  go_enter Tryz.func13, Tryz.ntmps13
  rcases hhead with he | ⟨he, c, hc1, hc2, hci⟩ <;> go_wp2_with fail
  all_goals
    refine (rwords_walk ⟨s.toArray⟩ (by rw [size_list]; omega) _).mono ?_
    rintro e w2 ⟨A, cap, rfl, hS, hb2⟩
    have hds : (⟨s.toArray⟩ : ByteArray).data.toList = s := rfl
    rw [hds] at hS ⊢
    have hwl0 := Rng.words_len s
    have hwc0 := Rng.words_count s
    have hwne := Rng.words_ne s
    obtain ⟨ws, hws⟩ : ∃ ws, ws = Rng.words s := ⟨_, rfl⟩
    rw [← hws] at HP hS hwl0 hwc0 hwne ⊢
    have hwl : Hid (∀ p ∈ ws, p.length ≤ 3000) := Lib.hid (fun p hp => Nat.le_trans (hwl0 p hp) h3000)
    have hwc : ws.length ≤ 3001 := by omega
    have hsl : (strs ws).length = ws.length := by simp [strs]
    have hw0 : 0 < ws.length := List.length_pos_iff.2 hwne
    rcases hS with h0 | ⟨g, off, rfl, hg, hc⟩
    · omega
    · have HC : Hid (∀ i (h : i < ws.length), w2.cell? ⟨g, off + i, none⟩ = some (.string ⟨(ws[i]'h).toArray⟩)) := Lib.hid (fun i h => by
        have := hc i (by omega)
        rw [this]; simp [strs])
      rw [hsl]
      clear hwl0 hwc0 hwne hws hds hsl hc hw0
      go_wp2_with fail
      go_loopw [6, 8] (fun v ii wr => ∃ done : List Rng.Bd, ii = .int .i64 done.length ∧ done.length ≤ ws.length ∧ Hid (Rng.bounds (ws.take done.length) = some done) ∧ Hid (wr.ownsRow w2.heap.size 57 5 v done.length (cellsB done)) ∧ Hid (Below w2.heap.size w2 wr))
        (fun _ i _ => ws.length - (intOf i).toNat)
      case atStart => exact ⟨[], rfl, Nat.zero_le _, Lib.hid rfl, Lib.hid (World.ownsRow_nil _ _ _ _), Lib.hid (Below.refl _ _)⟩
      case round =>
        obtain ⟨done, rfl, hdl, HBD, HO, HB⟩ := hrel
        by_cases hlt : done.length < ws.length
        · have hlt1 : (done.length : Int) < (ws.length : Int) := by omega
          obtain ⟨p, hp⟩ : ∃ p, p = ws[done.length] := ⟨_, rfl⟩
          have HPP := Lib.hid hp
          have hpl : p.length ≤ 3000 := by rw [hp]; exact hwl.out _ (List.getElem_mem _)
          have HCP : Hid (∀ W, Below w2.heap.size w2 W → W.cell? ⟨g, off + done.length, none⟩ = some (.string ⟨p.toArray⟩)) := Lib.hid (fun W hW => by
            rw [hp]; exact (hW.cell (p := ⟨g, off + done.length, none⟩) hg).trans (HC.out _ hlt))
          have hpz : (⟨p.toArray⟩ : ByteArray).size = p.length := size_list _
          clear hp
          go_wp2_with fail
          go_loopw [6, 9, 10] (fun v f oo wq => ∃ op : Int, oo = .int .i64 op ∧ 1 ≤ op ∧ op ≤ 6 ∧ Hid (Below w2.heap.size w2 wq) ∧
              ((f = .bool false ∧ Hid (∀ j : Int, 1 ≤ j → j < op → Rng.try1 p j = none) ∧ Hid (wq.ownsRow w2.heap.size 57 5 v done.length (cellsB done))) ∨
               (f = .bool true ∧ ∃ b, Hid (Rng.bound p = some b) ∧ Hid (wq.ownsRow w2.heap.size 57 5 v (done ++ [b]).length (cellsB (done ++ [b]))))))
            (fun _ f o _ => match f with | .bool true => 0 | _ => (7 - intOf o).toNat)
          case atStart => exact ⟨1, rfl, by omega, by omega, HB, Or.inl ⟨rfl, Lib.hid (fun j h1 h2 => absurd h2 (by omega)), HO⟩⟩
          case round =>
            obtain ⟨op, rfl, ho1, ho6, HBq, hcase⟩ := hrel
            rcases hcase with ⟨rfl, HNo, HOq⟩ | ⟨rfl, b, HBb, HOq⟩
            · by_cases ho5 : op ≤ 5
              · have HBS : ∀ W, Below w2.heap.size w2 W → w2.heap.size ≤ W.heap.size := fun W h => h.size
                go_wp2_with fail
                refine (rsign_walk op _).mono ?_
                rintro e w5 ⟨rfl, hb5⟩
                have HB5 := Lib.hid (below_next HBq.out hb5)
                have HO5 := Lib.hid (own_keep HOq.out hb5)
                have hcell := HCP.out _ HB5.out
                have hgl := Rng.sign_len op
                have HT1 := Lib.hid (@Rng.try1_short p op)
                have HT2 := Lib.hid (@Rng.try1_other p op)
                have HT3 := Lib.hid (@Rng.try1_same p op)
                obtain ⟨sg, hsg⟩ : ∃ sg, sg = Rng.sign op := ⟨_, rfl⟩
                rw [← hsg] at hgl HT1 HT2 HT3 ⊢
                have hgz : (⟨sg.toArray⟩ : ByteArray).size = sg.length := size_list _
                clear hsg hb5 HBS
                have HNx : Hid (Rng.try1 p op = none → ∀ j : Int, 1 ≤ j → j < op + 1 → Rng.try1 p j = none) := Lib.hid (fun h j h1 h2 => by
                  by_cases hj : j = op
                  · rw [hj]; exact h
                  · exact HNo.out j h1 (by omega))
                by_cases hs1 : p.length < sg.length
                · have hs2 : (p.length : Int) < (sg.length : Int) := by omega
                  have HT := Lib.hid (HNx.out (HT1.out hs1))
                  go_wp2
                  go_roundw
                  case rel => exact ⟨op + 1, rfl, by omega, by omega, HB5, Or.inl ⟨rfl, HT, HO5⟩⟩
                  case measure => simp [intOf]; omega
                · have hs2 : ¬ (p.length : Int) < (sg.length : Int) := by omega
                  have ex : (⟨p.toArray⟩ : ByteArray).extract 0 sg.length = ⟨(p.take sg.length).toArray⟩ := by
                    have := ByteArray.extract_mk p 0 sg.length
                    simpa using this
                  cases hq : (p.take sg.length == sg)
                  · have hqn : (p.take sg.length != sg) = true := by rw [bne_iff_ne]; exact beq_eq_false_iff_ne.1 hq
                    have HT := Lib.hid (HNx.out (HT2.out (beq_eq_false_iff_ne.1 hq)))
                    go_wp2
                    go_roundw
                    case rel => exact ⟨op + 1, rfl, by omega, by omega, HB5, Or.inl ⟨rfl, HT, HO5⟩⟩
                    case measure => simp [intOf]; omega
                  · have hqn : (p.take sg.length != sg) = false := by rw [bne_eq_false_iff_eq]; exact beq_iff_eq.1 hq
                    have HT := Lib.hid (HT3.out (beq_iff_eq.1 hq))
                    have hsp : ∀ W, (Instr.slice 9 (.string ⟨p.toArray⟩) (some (.int .i64 (sg.length : Int))) none none).run Tryz.prog W = .ok (.string ⟨(p.drop sg.length).toArray⟩) W := fun W => slice_from (W := W) ⟨p.toArray⟩ sg.length (by omega)
                    go_wp2_with fail
                    clear hcell hsp ex hq hqn hs2
                    refine (rparse_walk ⟨(p.drop sg.length).toArray⟩ (by rw [size_list, List.length_drop]; omega) _).mono ?_
                    rintro e w7 ⟨hee, hb7⟩
                    have hdd : (⟨(p.drop sg.length).toArray⟩ : ByteArray).data.toList = p.drop sg.length := rfl
                    rw [hdd] at hee
                    subst hee
                    have HB7 := Lib.hid (below_next HB5.out hb7)
                    have HO7 := Lib.hid (own_keep HO5.out hb7)
                    clear hdd hb7
                    cases hv : Sem.parse (p.drop sg.length) with
                    | none =>
                      have hV : parseR none = .tuple #[.agg #[.int .i64 0, .int .i64 0, .int .i64 0, .string ⟨#[]⟩], .int .i64 40] := rfl
                      rw [hV]
                      have HN5 := Lib.hid (HNx.out (by rw [HT.out, hv]; rfl))
                      have HB8 := Lib.hid (below_new HB7.out (.cells #[.int .i64 0, .int .i64 0, .int .i64 0, .string ⟨#[]⟩] 40))
                      have HO8 := Lib.hid (HO7.out.alloc (.cells #[.int .i64 0, .int .i64 0, .int .i64 0, .string ⟨#[]⟩] 40))
                      clear hV hv
                      go_wp2
                      go_roundw
                      case rel => exact ⟨op + 1, rfl, by omega, by omega, HB8, Or.inl ⟨rfl, HN5, HO8⟩⟩
                      case measure => simp [intOf]; omega
                    | some v =>
                      have hV : parseR (some v) = .tuple #[.agg #[.int .i64 v.maj, .int .i64 v.min, .int .i64 v.pat, .string ⟨v.pre.toArray⟩], .int .i64 0] := rfl
                      rw [hV]
                      have HN5 : Hid (Rng.bound p = some ⟨op, v⟩) := Lib.hid (Rng.bound_at ho1 ho5 HNo.out (by rw [HT.out, hv]; rfl))
                      clear hV hv
                      go_wp2_with (at_builtin; refine wpList_append_lies _ rfl _ _ 23 rfl w2.heap.size 57 i0 (.agg #[.int .i64 0, .int .i64 0, .int .i64 0, .int .i64 0, .string ByteArray.empty]) 5 48 Tryz.underlying23 hi hz0 hz1 hz2 rfl (by decide) _ _ _ rfl ((HO7.out.alloc _).alloc _) ⟨w7.heap.size + 1, 0, none⟩ 1 1 [.int .i64 op, .int .i64 v.maj, .int .i64 v.min, .int .i64 v.pat, .string ⟨v.pre.toArray⟩] rfl rfl (news5 _ ⟨op, v⟩ _ (by simp)) one5 (by decide) (by unfold maxLen; omega) (by omega) (below_new (below_new HB7.out _) _).size _ rfl ?_)
                      intro g5 cap5 w9 hown9 hgrow9 hat9 hlt9
                      have hb89 := below_new (below_new HB7.out (.cells #[.int .i64 v.maj, .int .i64 v.min, .int .i64 v.pat, .string ⟨v.pre.toArray⟩] 40)) (.cells #[.int .i64 op, .int .i64 v.maj, .int .i64 v.min, .int .i64 v.pat, .string ⟨v.pre.toArray⟩] 57)
                      have HB9 := Lib.hid (hb89.grown hgrow9 (below_new (below_new HB7.out _) _).size (fun k hk => (HO7.out.lt k hk).1))
                      have HO9 : Hid (w9.ownsRow w2.heap.size 57 5 (.slice (some ⟨g5, 0, none⟩) (done.length + 1) cap5) (done ++ [(⟨op, v⟩ : Rng.Bd)]).length (cellsB (done ++ [(⟨op, v⟩ : Rng.Bd)]))) := Lib.hid (by
                        rw [cellsB_snoc, List.length_append]; exact hown9)
                      clear hown9 hgrow9 hat9 hlt9 hb89
                      go_wp2
                      go_roundw
                      case rel => exact ⟨op + 1, rfl, by omega, by omega, HB9, Or.inr ⟨rfl, _, HN5, HO9⟩⟩
                      case measure => simp [intOf]; omega
              · have HN3 : Hid (Rng.parse s = none) := Lib.hid (by
                  rw [HP.out, Rng.bounds_stop hlt (by rw [← HPP.out]; exact Rng.bound_no (fun j h1 h2 => HNo.out j h1 (by omega)))])
                have ho5' : ¬ (op ≤ 5) := ho5
                go_wp2
                go_ret2
                rw [HN3.out]
                exact BdsE.no (below_next hb2 HBq.out)
            · have HN3 : Hid (Rng.bounds (ws.take (done ++ [b]).length) = some (done ++ [b])) := Lib.hid (by
                rw [List.length_append]
                exact Rng.bounds_step hlt HBD.out (by rw [← HPP.out]; exact HBb.out))
              have hl2 : (done ++ [b]).length = done.length + 1 := by simp
              by_cases ho5 : op ≤ 5
              · go_wp2
                go_roundw
                case rel => exact ⟨done ++ [b], by rw [hl2]; go_num, by omega, HN3, HOq, HBq⟩
                case measure => simp [intOf]; omega
              · go_wp2
                go_roundw
                case rel => exact ⟨done ++ [b], by rw [hl2]; go_num, by omega, HN3, HOq, HBq⟩
                case measure => simp [intOf]; omega
        · have hlt1 : ¬ (done.length : Int) < (ws.length : Int) := by omega
          have HBD2 : Hid (Rng.bounds ws = some done) := Lib.hid (by rw [← HBD.out, List.take_of_length_le (by omega)])
          have HPS : Hid (Rng.parse s = if Rng.may done = true then some done else none) := Lib.hid (by rw [HP.out, HBD2.out])
          have hpre : ∀ b ∈ done, b.v.pre.length ≤ 9223372036854775807 := fun b hb => by
            have h1 := (Rng.bounds_some HBD2.out).2 b hb
            have h2 := (Rng.Bd.may_iff b).1 h1
            have h3 := (Sem.may_iff b.v).1 h2.2.2
            have := h3.2.2.2.1
            omega
          obtain ⟨A1, c1, rfl, hc1, hB1⟩ := bds_of_own HO.out
          have HB1 := Lib.hid hB1
          clear hB1
          go_wp2_with fail
          refine (rbcheck_walk A1 c1 done _ HB1.out hpre).mono ?_
          rintro e w5 ⟨hee, hb5⟩
          have HB5 := Lib.hid (below_next (below_next hb2 HB.out) hb5)
          have HB15 := Lib.hid (HB1.out.next hb5)
          clear hb5 hpre
          cases hm : Rng.may done
          · have hch : chkB done = 50 := by unfold chkB; rw [hm]; rfl
            rw [hch] at hee
            subst hee
            have HN3 : Hid (Rng.parse s = none) := Lib.hid (by rw [HPS.out, hm]; rfl)
            clear hch hm
            go_wp2
            go_ret2
            rw [HN3.out]
            exact BdsE.no HB5.out
          · have hch : chkB done = 0 := by unfold chkB; rw [hm]; rfl
            rw [hch] at hee
            subst hee
            have HN3 : Hid (Rng.parse s = some done) := Lib.hid (by rw [HPS.out, hm]; rfl)
            clear hch hm
            go_wp2
            go_ret2
            rw [HN3.out]
            exact ⟨A1, c1, rfl, hc1, HB15.out, HB5.out⟩

/-- The document's Parse, of whatever text. -/
theorem rbparse_walk (s : ByteArray) (hs : s.size ≤ 9223372036854775807) (w : World) :
    Calls Tryz.prog 13 #[.string s] w fun e w' => BdsE w (Rng.parse s.data.toList) e w' := by
  obtain ⟨l, hl⟩ : ∃ l, l = s.data.toList := ⟨_, rfl⟩
  have hsl : l.length = s.size := by rw [hl, ← Lib.size_eq]
  rw [← hl, tx_of s, ← hl]
  clear hl
  have hz : (⟨l.toArray⟩ : ByteArray).size = l.length := size_list _
  by_cases h42 : l = [42]
  · have HN : Hid (Rng.parse l = some []) := Lib.hid (by unfold Rng.parse; rw [if_pos h42])
    have e1 : (l == [42]) = true := beq_iff_eq.2 h42
    clear h42
    go_enter Tryz.func13, Tryz.ntmps13
    go_wp2
    go_ret2
    rw [HN.out]
    exact ⟨none, 0, rfl, Nat.le_refl _, Or.inl rfl, Below.refl _ _⟩
  · by_cases h3 : 3000 < l.length
    · have HN : Hid (Rng.parse l = none) := Lib.hid (by unfold Rng.parse; rw [if_neg h42, if_pos h3])
      have e1 : (l == [42]) = false := beq_eq_false_iff_ne.2 h42
      have h3i : (3000 : Int) < (l.length : Int) := by omega
      go_enter Tryz.func13, Tryz.ntmps13
      go_wp2
      go_ret2
      rw [HN.out]
      exact BdsE.no (Below.refl _ _)
    · by_cases h94 : l.head? = some 94
      · cases l with
        | nil => cases h94
        | cons c r =>
          obtain rfl : c = 94 := by simpa using h94
          exact rbparse_hat r (by simp at h3; omega) w
      · exact rbparse_loop l (by omega) h42 h94 w
end Go.Proofs.YthjombepcmebfaaGreatDoor
