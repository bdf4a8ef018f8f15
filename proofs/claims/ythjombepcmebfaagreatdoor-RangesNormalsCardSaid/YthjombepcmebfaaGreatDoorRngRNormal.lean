/- The document's Normal. -/
import Derived.Test.YthjombepcmebfaaGreatDoorGRngA
import Derived.Test.YthjombepcmebfaaGreatDoorRngO7
namespace Go.Proofs.YthjombepcmebfaaGreatDoor
open Go.RowKit
set_option linter.unusedVariables false

theorem BdAt.other1 {W : World} {g z i : Nat} {b : Rng.Bd} {v : Value} (h : BdAt W g 0 b) (hne : z ≠ g) : BdAt (W.setCell ⟨z, i, none⟩ v) g 0 b := by
  have k : ∀ j, (W.setCell ⟨z, i, none⟩ v).cell? ⟨g, j, none⟩ = W.cell? ⟨g, j, none⟩ := fun j => World.cell?_setCell_other _ _ _ _ (fun e => hne (congrArg Addr.block e))
  obtain ⟨h1, h2, h3, h4, h5⟩ := h
  exact ⟨(k _).trans h1, (k _).trans h2, (k _).trans h3, (k _).trans h4, (k _).trans h5⟩

theorem low_snoc (l : List Rng.Bd) (b : Rng.Bd) : Rng.low (l ++ [b]) = if 3 ≤ (Rng.fix b).op then Rng.low l ++ [Rng.fix b] else Rng.low l := by
  rw [Rng.low_append]
  have : Rng.low [b] = if 3 ≤ (Rng.fix b).op then [Rng.fix b] else [] := by unfold Rng.low; simp [List.filter_cons]
  rw [this]; split <;> simp
theorem high_snoc (l : List Rng.Bd) (b : Rng.Bd) : Rng.high (l ++ [b]) = if (Rng.fix b).op ≤ 3 then Rng.high l ++ [Rng.fix b] else Rng.high l := by
  rw [Rng.high_append]
  have : Rng.high [b] = if (Rng.fix b).op ≤ 3 then [Rng.fix b] else [] := by unfold Rng.high; simp [List.filter_cons]
  rw [this]; split <;> simp

theorem low_le (l : List Rng.Bd) : (Rng.low l).length ≤ l.length := by
  unfold Rng.low; exact Nat.le_trans (List.length_filter_le _ _) (by simp)
theorem high_le (l : List Rng.Bd) : (Rng.high l).length ≤ l.length := by
  unfold Rng.high; exact Nat.le_trans (List.length_filter_le _ _) (by simp)

theorem flat_take_le (ls : List Row) (i : Nat) : (flat (ls.take i)).length ≤ (flat ls).length := by
  have h : flat ls = flat (ls.take i) ++ flat (ls.drop i) := by unfold flat; rw [← List.flatMap_append, List.take_append_drop]
  rw [h, List.length_append]; omega

theorem close_both (a b : Rng.Bd) : Rng.close (some a) (some b) = if Sem.cmp a.v b.v < 0 then [a, b] else if (Sem.cmp a.v b.v == 0) = true ∧ (a.op == 4) = true ∧ (b.op == 2) = true then [⟨3, a.v⟩] else [Rng.nil] := by
  simp only [beq_iff_eq]; rfl

theorem low_pre {l : List Rng.Bd} (h : ∀ b ∈ l, b.v.pre.length ≤ 1000000) : ∀ b ∈ Rng.low l, b.v.pre.length ≤ 1000000 := fun b hb => by
  obtain ⟨⟨c, hc, rfl⟩, _⟩ := Rng.low_mem.1 hb
  exact fix_len (h c hc)
theorem high_pre {l : List Rng.Bd} (h : ∀ b ∈ l, b.v.pre.length ≤ 1000000) : ∀ b ∈ Rng.high l, b.v.pre.length ≤ 1000000 := fun b hb => by
  obtain ⟨⟨c, hc, rfl⟩, _⟩ := Rng.high_mem.1 hb
  exact fix_len (h c hc)

set_option maxRecDepth 100000 in
set_option maxHeartbeats 16000000 in
theorem rnormal_walk (A : Option Addr) (cap : Nat) (ls : List Row) (w : World) (hA : Bdss w w.heap.size A ls) (hl : ls.length ≤ 1000000) (hfl : (flat ls).length ≤ 1000000) (hs : ∀ r ∈ ls, ∀ b ∈ r.l, b.v.pre.length ≤ 1000000) :
    Calls Tryz.prog 25 #[.slice A ls.length cap] w fun e w' => BdsR w (Rng.normal (flat ls)) e w' := by
  obtain ⟨i0, hi, hz0, hz1, hz2⟩ := info_parts (P := Tryz.prog) (e := 57) (z := .agg #[.int .i64 0, .int .i64 0, .int .i64 0, .int .i64 0, .string ByteArray.empty]) (size := 5) (bytes := 48) (by kernel_rfl)
  have HA := Lib.hid hA
  have HS := Lib.hid hs
  clear hA hs
  have hb1 := below_one w (.cells #[.int .i64 1, .int .i64 0, .int .i64 0, .int .i64 0, .string ⟨#[48]⟩] 57)
  have hnb := (box5_new w Rng.nil).2.1
  have hT : Two w (w.alloc (.cells #[.int .i64 1, .int .i64 0, .int .i64 0, .int .i64 0, .string ⟨#[48]⟩] 57)) (.slice none 0 0) (.slice none 0 0) [] [] :=
    ⟨by simp, World.ownsRow_nil _ _ _ _, World.ownsRow_nil _ _ _ _, nofun, hnb, hb1⟩
  have HT := Lib.hid hT
  clear hb1 hnb hT
  go_enter Tryz.func25, Tryz.ntmps25
  go_wp2_with fail
  generalize hW0 : w.alloc (.cells #[.int .i64 1, .int .i64 0, .int .i64 0, .int .i64 0, .string ⟨#[48]⟩] 57) = W0 at HT ⊢
  clear hW0
  go_loopw [4, 5, 6] (fun lv hv ii wr => ∃ i : Nat, ii = .int .i64 i ∧ i ≤ ls.length ∧ Hid (Two w wr lv hv (Rng.low (flat (ls.take i))) (Rng.high (flat (ls.take i)))))
    (fun _ _ i _ => ls.length - (intOf i).toNat)
  case atStart => exact ⟨0, rfl, Nat.zero_le _, HT⟩
  case round =>
    obtain ⟨i, rfl, hi', HTi⟩ := hrel
    by_cases hlt : i < ls.length
    · have hi1 : (i : Int) < (ls.length : Int) := by omega
      obtain ⟨r, hr⟩ : ∃ r, r = ls[i] := ⟨_, rfl⟩
      have hrm : r ∈ ls := by rw [hr]; exact List.getElem_mem _
      have HF : Hid (flat (ls.take (i + 1)) = flat (ls.take i) ++ r.l) := Lib.hid (by rw [hr]; exact flat_next hlt)
      have hfl2 : (flat (ls.take i)).length + r.l.length ≤ 1000000 := by
        have := flat_take_le ls (i + 1)
        rw [HF.out, List.length_append] at this; omega
      have HRS := Lib.hid (HS.out r hrm)
      have HRB : Hid (Bds w w.heap.size r.A r.l) := Lib.hid (HA.out.2 r hrm).1
      rcases HA.out.1 with h0 | ⟨g, off, rfl, hg, hc⟩
      · omega
      · have hcell0 := hc i hlt
        rw [← hr] at hcell0
        have HC : Hid (∀ W, Below w.heap.size w W → W.cell? ⟨g, off + i, none⟩ = some (.slice r.A r.l.length r.c)) := Lib.hid (fun W hW => (hW.cell (p := ⟨g, off + i, none⟩) hg).trans hcell0)
        have hrle : r.l.length ≤ 1000000 := by omega
        clear hc hr hrm hcell0
        go_wp2_with fail
        go_loopw [4, 5, 7] (fun lv hv kk wq => ∃ k : Nat, kk = .int .i64 k ∧ k ≤ r.l.length ∧ Hid (Two w wq lv hv (Rng.low (flat (ls.take i) ++ r.l.take k)) (Rng.high (flat (ls.take i) ++ r.l.take k))))
          (fun _ _ k _ => r.l.length - (intOf k).toNat)
        case atStart => exact ⟨0, rfl, Nat.zero_le _, by simpa using HTi⟩
        case round =>
          obtain ⟨k, rfl, hk, HTk⟩ := hrel
          have hcell := HC.out _ HTk.out.bel
          by_cases hkl : k < r.l.length
          · have hk1 : (k : Int) < (r.l.length : Int) := by omega
            rcases HRB.out with h0 | ⟨g2, off2, hA2, hg2, hc2⟩
            · omega
            · obtain ⟨p0, p1, p2, p3, p4⟩ := (hc2 k hkl).keep hg2 HTk.out.bel
              obtain ⟨b, hb⟩ : ∃ b, b = r.l[k] := ⟨_, rfl⟩
              have hbs : b.v.pre.length ≤ 1000000 := HRS.out b (by rw [hb]; exact List.getElem_mem _)
              rw [← hb] at p0 p1 p2 p3 p4
              have HL : Hid (Rng.low (flat (ls.take i) ++ r.l.take (k + 1)) = if 3 ≤ (Rng.fix b).op then Rng.low (flat (ls.take i) ++ r.l.take k) ++ [Rng.fix b] else Rng.low (flat (ls.take i) ++ r.l.take k)) := Lib.hid (by
                rw [List.take_succ_eq_append_getElem hkl, ← List.append_assoc, ← hb, low_snoc])
              have HH : Hid (Rng.high (flat (ls.take i) ++ r.l.take (k + 1)) = if (Rng.fix b).op ≤ 3 then Rng.high (flat (ls.take i) ++ r.l.take k) ++ [Rng.fix b] else Rng.high (flat (ls.take i) ++ r.l.take k)) := Lib.hid (by
                rw [List.take_succ_eq_append_getElem hkl, ← List.append_assoc, ← hb, high_snoc])
              have hn1 := low_le (flat (ls.take i) ++ r.l.take k)
              have hn2 := high_le (flat (ls.take i) ++ r.l.take k)
              have hn0 : (flat (ls.take i) ++ r.l.take k).length ≤ 1000000 := by rw [List.length_append, List.length_take]; omega
              obtain ⟨L, hL⟩ : ∃ L, L = Rng.low (flat (ls.take i) ++ r.l.take k) := ⟨_, rfl⟩
              obtain ⟨H, hH⟩ : ∃ H, H = Rng.high (flat (ls.take i) ++ r.l.take k) := ⟨_, rfl⟩
              rw [← hL] at HL HTk hn1
              rw [← hH] at HH HTk hn2
              have hLn : L.length ≤ 1000000 := by omega
              have hHn : H.length ≤ 1000000 := by omega
              clear hc2 hb hL hH hn0 hn1 hn2
              rw [hA2] at hcell
              by_cases ho1 : b.op < 1
              · have HFX : Hid (Rng.fix b = Rng.nil) := Lib.hid (by unfold Rng.fix; rw [if_pos (Or.inl ho1)])
                obtain ⟨z, hz⟩ : ∃ z, z = Rng.nil := ⟨_, rfl⟩
                rw [← hz] at HFX
                have hzo : z.op = 1 := by rw [hz]; rfl
                have hnb := HTk.out.nb.keep HTk.out.lt (below_one _ (.cells #[.int .i64 b.op, .int .i64 b.v.maj, .int .i64 b.v.min, .int .i64 b.v.pat, .string ⟨b.v.pre.toArray⟩] 57))
                rw [← hz] at hnb
                obtain ⟨n0, n1, n2, n3, n4⟩ := hnb
                simp only [Nat.zero_add] at n1 n2 n3 n4
                clear hz
                have h3d : ¬ (3 ≤ z.op) := by omega
                have h3e : z.op ≤ 3 := by omega
                clear hzo
                go_wp2_with (at_builtin; refine wpList_append_lies _ rfl _ _ 23 rfl (w.heap.size + 1) 57 i0 (.agg #[.int .i64 0, .int .i64 0, .int .i64 0, .int .i64 0, .string ByteArray.empty]) 5 48 Tryz.underlying23 hi hz0 hz1 hz2 rfl (by decide) _ _ _ rfl ((HTk.out.alloc _).alloc _).hi ⟨wr.heap.size + 1, 0, none⟩ 1 1 [.int .i64 z.op, .int .i64 z.v.maj, .int .i64 z.v.min, .int .i64 z.v.pat, .string ⟨z.v.pre.toArray⟩] rfl rfl (news5 _ _ _ (by simp)) one5 (by decide) (by unfold maxLen; omega) (by omega) ((HTk.out.alloc _).alloc _).lt _ rfl ?_)
                intro g5 cap5 w5 hown5 hgrow5 hat5 hlt5
                have T5 := (((HTk.out.alloc (.cells #[.int .i64 z.op, .int .i64 z.v.maj, .int .i64 z.v.min, .int .i64 z.v.pat, .string ⟨z.v.pre.toArray⟩] 57)).alloc (.cells #[.int .i64 z.op, .int .i64 z.v.maj, .int .i64 z.v.min, .int .i64 z.v.pat, .string ⟨z.v.pre.toArray⟩] 57)).swap.low rfl hown5 hgrow5 (by simpa using hat5)).swap
                clear hown5 hgrow5 hat5 hlt5
                go_wp2
                go_roundw
                case rel => exact ⟨k + 1, by go_num, by omega, Lib.hid (by rw [HL.out, HH.out, HFX.out, if_neg (by omega), if_pos (by omega)]; exact T5)⟩
                case measure => simp [intOf]; omega
              · by_cases ho5 : 5 < b.op
                · have HFX : Hid (Rng.fix b = Rng.nil) := Lib.hid (by unfold Rng.fix; rw [if_pos (Or.inr ho5)])
                  obtain ⟨z, hz⟩ : ∃ z, z = Rng.nil := ⟨_, rfl⟩
                  rw [← hz] at HFX
                  have hzo : z.op = 1 := by rw [hz]; rfl
                  have hnb := HTk.out.nb.keep HTk.out.lt (below_one _ (.cells #[.int .i64 b.op, .int .i64 b.v.maj, .int .i64 b.v.min, .int .i64 b.v.pat, .string ⟨b.v.pre.toArray⟩] 57))
                  rw [← hz] at hnb
                  obtain ⟨n0, n1, n2, n3, n4⟩ := hnb
                  simp only [Nat.zero_add] at n1 n2 n3 n4
                  clear hz
                  have h3d : ¬ (3 ≤ z.op) := by omega
                  have h3e : z.op ≤ 3 := by omega
                  clear hzo
                  go_wp2_with (at_builtin; refine wpList_append_lies _ rfl _ _ 23 rfl (w.heap.size + 1) 57 i0 (.agg #[.int .i64 0, .int .i64 0, .int .i64 0, .int .i64 0, .string ByteArray.empty]) 5 48 Tryz.underlying23 hi hz0 hz1 hz2 rfl (by decide) _ _ _ rfl ((HTk.out.alloc _).alloc _).hi ⟨wr.heap.size + 1, 0, none⟩ 1 1 [.int .i64 z.op, .int .i64 z.v.maj, .int .i64 z.v.min, .int .i64 z.v.pat, .string ⟨z.v.pre.toArray⟩] rfl rfl (news5 _ _ _ (by simp)) one5 (by decide) (by unfold maxLen; omega) (by omega) ((HTk.out.alloc _).alloc _).lt _ rfl ?_)
                  intro g5 cap5 w5 hown5 hgrow5 hat5 hlt5
                  have T5 := (((HTk.out.alloc (.cells #[.int .i64 z.op, .int .i64 z.v.maj, .int .i64 z.v.min, .int .i64 z.v.pat, .string ⟨z.v.pre.toArray⟩] 57)).alloc (.cells #[.int .i64 z.op, .int .i64 z.v.maj, .int .i64 z.v.min, .int .i64 z.v.pat, .string ⟨z.v.pre.toArray⟩] 57)).swap.low rfl hown5 hgrow5 (by simpa using hat5)).swap
                  clear hown5 hgrow5 hat5 hlt5
                  go_wp2
                  go_roundw
                  case rel => exact ⟨k + 1, by go_num, by omega, Lib.hid (by rw [HL.out, HH.out, HFX.out, if_neg (by omega), if_pos (by omega)]; exact T5)⟩
                  case measure => simp [intOf]; omega
                · have HFX : Hid (Rng.fix b = b) := Lib.hid (Rng.fix_id (by omega))
                  by_cases h3 : 3 ≤ b.op
                  · by_cases h4 : b.op ≤ 3
                    · skip
                      have hbx := ((box5_new wr b).2.1.keep (B := wr.heap.size + 1) (by omega) ((below_one (wr.alloc (.cells #[.int .i64 b.op, .int .i64 b.v.maj, .int .i64 b.v.min, .int .i64 b.v.pat, .string ⟨b.v.pre.toArray⟩] 57)) (.cells #[.int .i64 b.op, .int .i64 b.v.maj, .int .i64 b.v.min, .int .i64 b.v.pat, .string ⟨b.v.pre.toArray⟩] 57)).mono (by simp)))
                      go_wp2_with (at_builtin; refine wpList_append_lies _ rfl _ _ 23 rfl (w.heap.size + 1) 57 i0 (.agg #[.int .i64 0, .int .i64 0, .int .i64 0, .int .i64 0, .string ByteArray.empty]) 5 48 Tryz.underlying23 hi hz0 hz1 hz2 rfl (by decide) _ _ _ rfl ((HTk.out.alloc _).alloc _).lo ⟨wr.heap.size + 1, 0, none⟩ 1 1 [.int .i64 b.op, .int .i64 b.v.maj, .int .i64 b.v.min, .int .i64 b.v.pat, .string ⟨b.v.pre.toArray⟩] rfl rfl (news5 _ _ _ (by simp)) one5 (by decide) (by unfold maxLen; omega) (by omega) ((HTk.out.alloc _).alloc _).lt _ rfl ?_)
                      intro g5 cap5 w5 hown5 hgrow5 hat5 hlt5
                      have T5 := ((HTk.out.alloc (.cells #[.int .i64 b.op, .int .i64 b.v.maj, .int .i64 b.v.min, .int .i64 b.v.pat, .string ⟨b.v.pre.toArray⟩] 57)).alloc (.cells #[.int .i64 b.op, .int .i64 b.v.maj, .int .i64 b.v.min, .int .i64 b.v.pat, .string ⟨b.v.pre.toArray⟩] 57)).low rfl hown5 hgrow5 (by simpa using hat5)
                      obtain ⟨q0, q1, q2, q3, q4⟩ := grown_box hbx hgrow5 (by simp; omega) (fun e => by have h9 : wr.heap.size < wr.heap.size := (HTk.out.lo.lt _ e.symm).2; omega)
                      simp only [Nat.zero_add] at q1 q2 q3 q4
                      clear hown5 hgrow5 hat5 hlt5 hbx
                      go_wp2_with (at_builtin; refine wpList_append_lies _ rfl _ _ 23 rfl (w.heap.size + 1) 57 i0 (.agg #[.int .i64 0, .int .i64 0, .int .i64 0, .int .i64 0, .string ByteArray.empty]) 5 48 Tryz.underlying23 hi hz0 hz1 hz2 rfl (by decide) _ _ _ rfl (T5.alloc _).hi ⟨w5.heap.size, 0, none⟩ 1 1 [.int .i64 b.op, .int .i64 b.v.maj, .int .i64 b.v.min, .int .i64 b.v.pat, .string ⟨b.v.pre.toArray⟩] rfl rfl (news5 _ _ _ (by simp)) one5 (by decide) (by unfold maxLen; omega) (by omega) (T5.alloc _).lt _ rfl ?_)
                      intro g7 cap7 w7 hown7 hgrow7 hat7 hlt7
                      have T7 := ((T5.alloc (.cells #[.int .i64 b.op, .int .i64 b.v.maj, .int .i64 b.v.min, .int .i64 b.v.pat, .string ⟨b.v.pre.toArray⟩] 57)).swap.low rfl hown7 hgrow7 (by simpa using hat7)).swap
                      clear hown7 hgrow7 hat7 hlt7 T5
                      go_wp2
                      go_roundw
                      case rel => exact ⟨k + 1, by go_num, by omega, Lib.hid (by rw [HL.out, HH.out, HFX.out, if_pos (by omega), if_pos (by omega)]; exact T7)⟩
                      case measure => simp [intOf]; omega
                    · skip
                      have hbx := ((box5_new wr b).2.1.keep (B := wr.heap.size + 1) (by omega) ((below_one (wr.alloc (.cells #[.int .i64 b.op, .int .i64 b.v.maj, .int .i64 b.v.min, .int .i64 b.v.pat, .string ⟨b.v.pre.toArray⟩] 57)) (.cells #[.int .i64 b.op, .int .i64 b.v.maj, .int .i64 b.v.min, .int .i64 b.v.pat, .string ⟨b.v.pre.toArray⟩] 57)).mono (by simp)))
                      go_wp2_with (at_builtin; refine wpList_append_lies _ rfl _ _ 23 rfl (w.heap.size + 1) 57 i0 (.agg #[.int .i64 0, .int .i64 0, .int .i64 0, .int .i64 0, .string ByteArray.empty]) 5 48 Tryz.underlying23 hi hz0 hz1 hz2 rfl (by decide) _ _ _ rfl ((HTk.out.alloc _).alloc _).lo ⟨wr.heap.size + 1, 0, none⟩ 1 1 [.int .i64 b.op, .int .i64 b.v.maj, .int .i64 b.v.min, .int .i64 b.v.pat, .string ⟨b.v.pre.toArray⟩] rfl rfl (news5 _ _ _ (by simp)) one5 (by decide) (by unfold maxLen; omega) (by omega) ((HTk.out.alloc _).alloc _).lt _ rfl ?_)
                      intro g5 cap5 w5 hown5 hgrow5 hat5 hlt5
                      have T5 := ((HTk.out.alloc (.cells #[.int .i64 b.op, .int .i64 b.v.maj, .int .i64 b.v.min, .int .i64 b.v.pat, .string ⟨b.v.pre.toArray⟩] 57)).alloc (.cells #[.int .i64 b.op, .int .i64 b.v.maj, .int .i64 b.v.min, .int .i64 b.v.pat, .string ⟨b.v.pre.toArray⟩] 57)).low rfl hown5 hgrow5 (by simpa using hat5)
                      obtain ⟨q0, q1, q2, q3, q4⟩ := grown_box hbx hgrow5 (by simp; omega) (fun e => by have h9 : wr.heap.size < wr.heap.size := (HTk.out.lo.lt _ e.symm).2; omega)
                      simp only [Nat.zero_add] at q1 q2 q3 q4
                      clear hown5 hgrow5 hat5 hlt5 hbx
                      go_wp2
                      go_roundw
                      case rel => exact ⟨k + 1, by go_num, by omega, Lib.hid (by rw [HL.out, HH.out, HFX.out, if_pos (by omega), if_neg (by omega)]; exact T5)⟩
                      case measure => simp [intOf]; omega
                  · have h4 : b.op ≤ 3 := by omega
                    go_wp2_with (at_builtin; refine wpList_append_lies _ rfl _ _ 23 rfl (w.heap.size + 1) 57 i0 (.agg #[.int .i64 0, .int .i64 0, .int .i64 0, .int .i64 0, .string ByteArray.empty]) 5 48 Tryz.underlying23 hi hz0 hz1 hz2 rfl (by decide) _ _ _ rfl ((HTk.out.alloc _).alloc _).hi ⟨wr.heap.size + 1, 0, none⟩ 1 1 [.int .i64 b.op, .int .i64 b.v.maj, .int .i64 b.v.min, .int .i64 b.v.pat, .string ⟨b.v.pre.toArray⟩] rfl rfl (news5 _ _ _ (by simp)) one5 (by decide) (by unfold maxLen; omega) (by omega) ((HTk.out.alloc _).alloc _).lt _ rfl ?_)
                    intro g5 cap5 w5 hown5 hgrow5 hat5 hlt5
                    have T5 := (((HTk.out.alloc (.cells #[.int .i64 b.op, .int .i64 b.v.maj, .int .i64 b.v.min, .int .i64 b.v.pat, .string ⟨b.v.pre.toArray⟩] 57)).alloc (.cells #[.int .i64 b.op, .int .i64 b.v.maj, .int .i64 b.v.min, .int .i64 b.v.pat, .string ⟨b.v.pre.toArray⟩] 57)).swap.low rfl hown5 hgrow5 (by simpa using hat5)).swap
                    clear hown5 hgrow5 hat5 hlt5
                    go_wp2
                    go_roundw
                    case rel => exact ⟨k + 1, by go_num, by omega, Lib.hid (by rw [HL.out, HH.out, HFX.out, if_neg (by omega), if_pos (by omega)]; exact T5)⟩
                    case measure => simp [intOf]; omega
          · have hk1 : ¬ (k : Int) < (r.l.length : Int) := by omega
            have HN : Hid (flat (ls.take i) ++ r.l.take k = flat (ls.take (i + 1))) := Lib.hid (by rw [HF.out, List.take_of_length_le (show r.l.length ≤ k from by omega)])
            rw [HN.out] at HTk
            go_wp2
            go_roundw
            case rel => exact ⟨i + 1, by go_num, by omega, HTk⟩
            case measure => simp [intOf]; omega
    · have hi1 : ¬ (i : Int) < (ls.length : Int) := by omega
      have hfe : flat (ls.take i) = flat ls := by rw [List.take_of_length_le (by omega)]
      rw [hfe] at HTi
      have hpre : ∀ b ∈ flat ls, b.v.pre.length ≤ 1000000 := fun b hb => by
        obtain ⟨r, hr, hb⟩ := List.mem_flatMap.1 hb
        exact HS.out r hr b hb
      have HQ : Hid (Rng.normal (flat ls) = Rng.close ((Rng.best 1 5 (Rng.low (flat ls))).map Rng.least) ((Rng.best (-1) 1 (Rng.high (flat ls))).map Rng.most)) := Lib.hid rfl
      have hn1 := low_le (flat ls)
      have hn2 := high_le (flat ls)
      have HL1 := Lib.hid (low_pre hpre)
      have HL2 := Lib.hid (high_pre hpre)
      obtain ⟨L, hL⟩ : ∃ L, L = Rng.low (flat ls) := ⟨_, rfl⟩
      obtain ⟨H, hH⟩ : ∃ H, H = Rng.high (flat ls) := ⟨_, rfl⟩
      rw [← hL] at HQ HTi hn1 HL1
      rw [← hH] at HQ HTi hn2 HL2
      have hLn : L.length ≤ 1000000 := by omega
      have hHn : H.length ≤ 1000000 := by omega
      clear hL hH hn1 hn2 hpre hfe
      obtain ⟨A1, c1, rfl, hc1, hB1⟩ := bds_of_own HTi.out.lo
      obtain ⟨A2, c2, rfl, hc2, hB2⟩ := bds_of_own HTi.out.hi
      have HB1 := Lib.hid hB1
      have HB2 := Lib.hid hB2
      have HNB := Lib.hid HTi.out.nb
      have hlt0 := HTi.out.lt
      have hbl := HTi.out.bel
      clear hB1 hB2 HTi
      go_wp2_with fail
      refine (rbest_walk A1 c1 L 1 5 _ HB1.out (Or.inl rfl) hLn HL1.out).mono ?_
      rintro e w5 ⟨rfl, hb5⟩
      have HBL5 := Lib.hid (below_next hbl hb5)
      have HNB5 := Lib.hid (HNB.out.keep hlt0 hb5)
      have HB25 := Lib.hid (HB2.out.next hb5)
      have hlt5 : w.heap.size < w5.heap.size := Nat.lt_of_lt_of_le hlt0 hb5.size
      clear hb5 hbl HB1 HB2 HNB hlt0
      cases hx : Rng.best 1 5 L with
      | none =>
        have hV : bestR none = .tuple #[.agg #[.int .i64 0, .int .i64 0, .int .i64 0, .int .i64 0, .string ⟨#[]⟩], .bool false] := rfl
        rw [hV]
        clear hV
        rw [hx] at HQ
        have hb6 := below_new HBL5.out (.cells #[.int .i64 0, .int .i64 0, .int .i64 0, .int .i64 0, .string ⟨#[]⟩] 57)
        have hb56 := below_one w5 (.cells #[.int .i64 0, .int .i64 0, .int .i64 0, .int .i64 0, .string ⟨#[]⟩] 57)
        have HX6 := Lib.hid (box5_new w5 ⟨0, ⟨0, 0, 0, []⟩⟩)
        have HNB6 := Lib.hid (HNB5.out.keep hlt5 hb56)
        have HB26 := Lib.hid (HB25.out.next hb56)
        clear hx hb56 HBL5 HNB5 HB25
        go_wp2_with fail
        refine (rbest_walk A2 c2 H (-1) 1 _ HB26.out (Or.inr rfl) hHn HL2.out).mono ?_
        rintro e w7 ⟨rfl, hb7⟩
        have HBL7 := Lib.hid (below_next hb6 hb7)
        have HX7 := Lib.hid (HX6.out.keep HX6.out.1 hb7)
        have HNB7 := Lib.hid (HNB6.out.keep (by simp; omega) hb7)
        have HLT7 : Hid (w5.heap.size < w7.heap.size) := Lib.hid HX7.out.1
        have HNE7 : Hid (w5.heap.size ≠ w7.heap.size ∧ w.heap.size ≠ w5.heap.size ∧ w.heap.size ≠ w7.heap.size ∧ w.heap.size < w7.heap.size) := Lib.hid (by have := HLT7.out; omega)
        clear hb7 hb6 HX6 HNB6 HB26
        cases hy : Rng.best (-1) 1 H with
        | none =>
          have hV : bestR none = .tuple #[.agg #[.int .i64 0, .int .i64 0, .int .i64 0, .int .i64 0, .string ⟨#[]⟩], .bool false] := rfl
          rw [hV]
          clear hV
          rw [hy] at HQ
          have HBW := Lib.hid (below_new HBL7.out (.cells #[.int .i64 0, .int .i64 0, .int .i64 0, .int .i64 0, .string ⟨#[]⟩] 57))
          have hb78 := below_one w7 (.cells #[.int .i64 0, .int .i64 0, .int .i64 0, .int .i64 0, .string ⟨#[]⟩] 57)
          have HX := Lib.hid (HX7.out.keep HLT7.out hb78)
          have HY := Lib.hid (box5_new w7 ⟨0, ⟨0, 0, 0, []⟩⟩)
          have HNW := Lib.hid (HNB7.out.keep HNE7.out.2.2.2 hb78)
          have hne57 : w5.heap.size ≠ w7.heap.size := HNE7.out.1
          clear hy hb78
          obtain ⟨W, hW⟩ : ∃ W, W = w7.alloc (.cells #[.int .i64 0, .int .i64 0, .int .i64 0, .int .i64 0, .string ⟨#[]⟩] 57) := ⟨_, rfl⟩
          rw [← hW] at HBW HX HY HNW
          obtain ⟨zp, ⟨p0, p1, p2, p3, p4⟩, gp0, gp1, gp2, gp3, gp4⟩ := HX.out
          simp only [Nat.zero_add] at p1 p2 p3 p4
          obtain ⟨zq, ⟨q0, q1, q2, q3, q4⟩, gq0, gq1, gq2, gq3, gq4⟩ := HY.out
          simp only [Nat.zero_add] at q1 q2 q3 q4
          rw [hW] at p0 p1 p2 p3 p4 gp0 gp1 gp2 gp3 gp4 q0 q1 q2 q3 q4 gq0 gq1 gq2 gq3 gq4
          have HL : Hid (Rng.normal (flat ls) = []) := Lib.hid HQ.out
          go_wp2
          go_ret
          unfold BdsR
          rw [HL.out]
          exact ⟨none, 0, rfl, Nat.le_refl _, Or.inl rfl, by rw [← hW]; exact HBW.out⟩
        | some y =>
          have hV : bestR (some y) = .tuple #[.agg #[.int .i64 y.op, .int .i64 y.v.maj, .int .i64 y.v.min, .int .i64 y.v.pat, .string ⟨y.v.pre.toArray⟩], .bool true] := rfl
          rw [hV]
          clear hV
          rw [hy] at HQ
          have HBW := Lib.hid (below_new HBL7.out (.cells #[.int .i64 y.op, .int .i64 y.v.maj, .int .i64 y.v.min, .int .i64 y.v.pat, .string ⟨y.v.pre.toArray⟩] 57))
          have hb78 := below_one w7 (.cells #[.int .i64 y.op, .int .i64 y.v.maj, .int .i64 y.v.min, .int .i64 y.v.pat, .string ⟨y.v.pre.toArray⟩] 57)
          have HX := Lib.hid (HX7.out.keep HLT7.out hb78)
          have HY := Lib.hid (box5_new w7 y)
          have HNW := Lib.hid (HNB7.out.keep HNE7.out.2.2.2 hb78)
          have hys := HL2.out y (Rng.best_mem hy)
          have hne57 : w5.heap.size ≠ w7.heap.size := HNE7.out.1
          clear hy hb78
          obtain ⟨W, hW⟩ : ∃ W, W = w7.alloc (.cells #[.int .i64 y.op, .int .i64 y.v.maj, .int .i64 y.v.min, .int .i64 y.v.pat, .string ⟨y.v.pre.toArray⟩] 57) := ⟨_, rfl⟩
          rw [← hW] at HBW HX HY HNW
          obtain ⟨zp, ⟨p0, p1, p2, p3, p4⟩, gp0, gp1, gp2, gp3, gp4⟩ := HX.out
          simp only [Nat.zero_add] at p1 p2 p3 p4
          obtain ⟨zq, ⟨q0, q1, q2, q3, q4⟩, gq0, gq1, gq2, gq3, gq4⟩ := HY.out
          simp only [Nat.zero_add] at q1 q2 q3 q4
          rw [hW] at p0 p1 p2 p3 p4 gp0 gp1 gp2 gp3 gp4 q0 q1 q2 q3 q4 gq0 gq1 gq2 gq3 gq4
          cases n3 : (y.op == 3)
          · have HL : Hid (Rng.normal (flat ls) = [y]) := Lib.hid (by rw [HQ.out, Option.map_some, most_id n3]; rfl)
            have HB2 : Hid (Below w.heap.size w W) := Lib.hid HBW.out
            have HX2 : Hid (Box5 W (w5.heap.size) ⟨0, ⟨0, 0, 0, []⟩⟩) := Lib.hid HX.out
            have HY2 : Hid (Box5 W (w7.heap.size) y) := Lib.hid HY.out
            have HN2 : Hid (BdAt W w.heap.size 0 Rng.nil) := Lib.hid HNW.out
            rw [hW] at HB2 HY2
            go_wp2
            go_ret
            unfold BdsR
            rw [HL.out]
            exact ⟨_, 1, rfl, by simp, bds_one _ _ (by simp) y, below_new HB2.out _⟩
          · have HL : Hid (Rng.normal (flat ls) = [⟨2, y.v⟩]) := Lib.hid (by rw [HQ.out, Option.map_some, most_three n3]; rfl)
            have HB2 : Hid (Below w.heap.size w (w7.alloc (.cells #[.int .i64 2, .int .i64 y.v.maj, .int .i64 y.v.min, .int .i64 y.v.pat, .string ⟨y.v.pre.toArray⟩] 57))) := Lib.hid (below_new HBL7.out (.cells #[.int .i64 2, .int .i64 y.v.maj, .int .i64 y.v.min, .int .i64 y.v.pat, .string ⟨y.v.pre.toArray⟩] 57))
            have HX2 : Hid (Box5 (w7.alloc (.cells #[.int .i64 2, .int .i64 y.v.maj, .int .i64 y.v.min, .int .i64 y.v.pat, .string ⟨y.v.pre.toArray⟩] 57)) (w5.heap.size) ⟨0, ⟨0, 0, 0, []⟩⟩) := Lib.hid (HX7.out.keep HLT7.out (below_one w7 (.cells #[.int .i64 2, .int .i64 y.v.maj, .int .i64 y.v.min, .int .i64 y.v.pat, .string ⟨y.v.pre.toArray⟩] 57)))
            have HY2 : Hid (Box5 (w7.alloc (.cells #[.int .i64 2, .int .i64 y.v.maj, .int .i64 y.v.min, .int .i64 y.v.pat, .string ⟨y.v.pre.toArray⟩] 57)) (w7.heap.size) ⟨2, y.v⟩) := Lib.hid (box5_new w7 ⟨2, y.v⟩)
            have HN2 : Hid (BdAt (w7.alloc (.cells #[.int .i64 2, .int .i64 y.v.maj, .int .i64 y.v.min, .int .i64 y.v.pat, .string ⟨y.v.pre.toArray⟩] 57)) w.heap.size 0 Rng.nil) := Lib.hid (HNB7.out.keep HNE7.out.2.2.2 (below_one w7 (.cells #[.int .i64 2, .int .i64 y.v.maj, .int .i64 y.v.min, .int .i64 y.v.pat, .string ⟨y.v.pre.toArray⟩] 57)))
            obtain ⟨_, ⟨s0, s1, s2, s3, s4⟩, gs0, gs1, gs2, gs3, gs4⟩ := HX7.out.keep HLT7.out (below_one w7 (.cells #[.int .i64 2, .int .i64 y.v.maj, .int .i64 y.v.min, .int .i64 y.v.pat, .string ⟨y.v.pre.toArray⟩] 57))
            simp only [Nat.zero_add] at s1 s2 s3 s4
            skip
            go_wp2
            go_ret
            unfold BdsR
            rw [HL.out]
            exact ⟨_, 1, rfl, by simp, bds_one _ _ (by simp) ⟨2, y.v⟩, below_new HB2.out _⟩
      | some x =>
        have hV : bestR (some x) = .tuple #[.agg #[.int .i64 x.op, .int .i64 x.v.maj, .int .i64 x.v.min, .int .i64 x.v.pat, .string ⟨x.v.pre.toArray⟩], .bool true] := rfl
        rw [hV]
        clear hV
        rw [hx] at HQ
        have hb6 := below_new HBL5.out (.cells #[.int .i64 x.op, .int .i64 x.v.maj, .int .i64 x.v.min, .int .i64 x.v.pat, .string ⟨x.v.pre.toArray⟩] 57)
        have hb56 := below_one w5 (.cells #[.int .i64 x.op, .int .i64 x.v.maj, .int .i64 x.v.min, .int .i64 x.v.pat, .string ⟨x.v.pre.toArray⟩] 57)
        have HX6 := Lib.hid (box5_new w5 x)
        have HNB6 := Lib.hid (HNB5.out.keep hlt5 hb56)
        have HB26 := Lib.hid (HB25.out.next hb56)
        have hxs := HL1.out x (Rng.best_mem hx)
        clear hx hb56 HBL5 HNB5 HB25
        go_wp2_with fail
        refine (rbest_walk A2 c2 H (-1) 1 _ HB26.out (Or.inr rfl) hHn HL2.out).mono ?_
        rintro e w7 ⟨rfl, hb7⟩
        have HBL7 := Lib.hid (below_next hb6 hb7)
        have HX7 := Lib.hid (HX6.out.keep HX6.out.1 hb7)
        have HNB7 := Lib.hid (HNB6.out.keep (by simp; omega) hb7)
        have HLT7 : Hid (w5.heap.size < w7.heap.size) := Lib.hid HX7.out.1
        have HNE7 : Hid (w5.heap.size ≠ w7.heap.size ∧ w.heap.size ≠ w5.heap.size ∧ w.heap.size ≠ w7.heap.size ∧ w.heap.size < w7.heap.size) := Lib.hid (by have := HLT7.out; omega)
        clear hb7 hb6 HX6 HNB6 HB26
        cases hy : Rng.best (-1) 1 H with
        | none =>
          have hV : bestR none = .tuple #[.agg #[.int .i64 0, .int .i64 0, .int .i64 0, .int .i64 0, .string ⟨#[]⟩], .bool false] := rfl
          rw [hV]
          clear hV
          rw [hy] at HQ
          have HBW := Lib.hid (below_new HBL7.out (.cells #[.int .i64 0, .int .i64 0, .int .i64 0, .int .i64 0, .string ⟨#[]⟩] 57))
          have hb78 := below_one w7 (.cells #[.int .i64 0, .int .i64 0, .int .i64 0, .int .i64 0, .string ⟨#[]⟩] 57)
          have HX := Lib.hid (HX7.out.keep HLT7.out hb78)
          have HY := Lib.hid (box5_new w7 ⟨0, ⟨0, 0, 0, []⟩⟩)
          have HNW := Lib.hid (HNB7.out.keep HNE7.out.2.2.2 hb78)
          have hne57 : w5.heap.size ≠ w7.heap.size := HNE7.out.1
          clear hy hb78
          obtain ⟨W, hW⟩ : ∃ W, W = w7.alloc (.cells #[.int .i64 0, .int .i64 0, .int .i64 0, .int .i64 0, .string ⟨#[]⟩] 57) := ⟨_, rfl⟩
          rw [← hW] at HBW HX HY HNW
          obtain ⟨zp, ⟨p0, p1, p2, p3, p4⟩, gp0, gp1, gp2, gp3, gp4⟩ := HX.out
          simp only [Nat.zero_add] at p1 p2 p3 p4
          obtain ⟨zq, ⟨q0, q1, q2, q3, q4⟩, gq0, gq1, gq2, gq3, gq4⟩ := HY.out
          simp only [Nat.zero_add] at q1 q2 q3 q4
          rw [hW] at p0 p1 p2 p3 p4 gp0 gp1 gp2 gp3 gp4 q0 q1 q2 q3 q4 gq0 gq1 gq2 gq3 gq4
          cases e3 : (x.op == 3)
          · have HL : Hid (Rng.normal (flat ls) = [x]) := Lib.hid (by rw [HQ.out, Option.map_some, least_id e3]; rfl)
            have HB2 : Hid (Below w.heap.size w W) := Lib.hid HBW.out
            have HX2 : Hid (Box5 W (w5.heap.size) x) := Lib.hid HX.out
            have HY2 : Hid (Box5 W (w7.heap.size) ⟨0, ⟨0, 0, 0, []⟩⟩) := Lib.hid HY.out
            have HN2 : Hid (BdAt W w.heap.size 0 Rng.nil) := Lib.hid HNW.out
            rw [hW] at HB2 HX2
            go_wp2
            go_ret
            unfold BdsR
            rw [HL.out]
            exact ⟨_, 1, rfl, by simp, bds_one _ _ (by simp) x, below_new HB2.out _⟩
          · have HL : Hid (Rng.normal (flat ls) = [⟨4, x.v⟩]) := Lib.hid (by rw [HQ.out, Option.map_some, least_three e3]; rfl)
            have HB2 : Hid (Below w.heap.size w (W.setCell ⟨w5.heap.size, 0, none⟩ (.int .i64 4))) := Lib.hid (HBW.out.setCell (p := ⟨w5.heap.size, 0, none⟩) (by show w.heap.size ≤ w5.heap.size; omega) _)
            have HX2 : Hid (Box5 (W.setCell ⟨w5.heap.size, 0, none⟩ (.int .i64 4)) (w5.heap.size) ⟨4, x.v⟩) := Lib.hid (HX.out.setOp 4)
            have HY2 : Hid (Box5 (W.setCell ⟨w5.heap.size, 0, none⟩ (.int .i64 4)) (w7.heap.size) ⟨0, ⟨0, 0, 0, []⟩⟩) := Lib.hid (HY.out.other (by have := HNE7.out; omega))
            have HN2 : Hid (BdAt (W.setCell ⟨w5.heap.size, 0, none⟩ (.int .i64 4)) w.heap.size 0 Rng.nil) := Lib.hid (HNW.out.other1 (by have := HNE7.out; omega))
            rw [hW] at HB2 HX2
            go_wp2
            go_ret
            unfold BdsR
            rw [HL.out]
            exact ⟨_, 1, rfl, by simp, bds_one _ _ (by simp) ⟨4, x.v⟩, below_new HB2.out _⟩
        | some y =>
          have hV : bestR (some y) = .tuple #[.agg #[.int .i64 y.op, .int .i64 y.v.maj, .int .i64 y.v.min, .int .i64 y.v.pat, .string ⟨y.v.pre.toArray⟩], .bool true] := rfl
          rw [hV]
          clear hV
          rw [hy] at HQ
          have HBW := Lib.hid (below_new HBL7.out (.cells #[.int .i64 y.op, .int .i64 y.v.maj, .int .i64 y.v.min, .int .i64 y.v.pat, .string ⟨y.v.pre.toArray⟩] 57))
          have hb78 := below_one w7 (.cells #[.int .i64 y.op, .int .i64 y.v.maj, .int .i64 y.v.min, .int .i64 y.v.pat, .string ⟨y.v.pre.toArray⟩] 57)
          have HX := Lib.hid (HX7.out.keep HLT7.out hb78)
          have HY := Lib.hid (box5_new w7 y)
          have HNW := Lib.hid (HNB7.out.keep HNE7.out.2.2.2 hb78)
          have hys := HL2.out y (Rng.best_mem hy)
          have hne57 : w5.heap.size ≠ w7.heap.size := HNE7.out.1
          clear hy hb78
          obtain ⟨W, hW⟩ : ∃ W, W = w7.alloc (.cells #[.int .i64 y.op, .int .i64 y.v.maj, .int .i64 y.v.min, .int .i64 y.v.pat, .string ⟨y.v.pre.toArray⟩] 57) := ⟨_, rfl⟩
          rw [← hW] at HBW HX HY HNW
          obtain ⟨zp, ⟨p0, p1, p2, p3, p4⟩, gp0, gp1, gp2, gp3, gp4⟩ := HX.out
          simp only [Nat.zero_add] at p1 p2 p3 p4
          obtain ⟨zq, ⟨q0, q1, q2, q3, q4⟩, gq0, gq1, gq2, gq3, gq4⟩ := HY.out
          simp only [Nat.zero_add] at q1 q2 q3 q4
          rw [hW] at p0 p1 p2 p3 p4 gp0 gp1 gp2 gp3 gp4 q0 q1 q2 q3 q4 gq0 gq1 gq2 gq3 gq4
          cases e3 : (x.op == 3)
          · cases n3 : (y.op == 3)
            · have HL : Hid (Rng.normal (flat ls) = if Sem.cmp x.v y.v < 0 then [x, y] else if (Sem.cmp x.v y.v == 0) = true ∧ (x.op == 4) = true ∧ (y.op == 2) = true then [⟨3, x.v⟩] else [Rng.nil]) := Lib.hid (by rw [HQ.out, Option.map_some, Option.map_some, least_id e3, most_id n3, close_both])
              have HB2 : Hid (Below w.heap.size w W) := Lib.hid HBW.out
              have HX2 : Hid (Box5 W (w5.heap.size) x) := Lib.hid HX.out
              have HY2 : Hid (Box5 W (w7.heap.size) y) := Lib.hid HY.out
              have HN2 : Hid (BdAt W w.heap.size 0 Rng.nil) := Lib.hid HNW.out
              rw [hW] at HB2 HX2 HY2 HN2
              go_wp2_with fail
              clear p0 p1 p2 p3 p4 gp0 gp1 gp2 gp3 gp4 q0 q1 q2 q3 q4 gq0 gq1 gq2 gq3 gq4
              refine (rcmp_walk x.v y.v hxs hys _).mono ?_
              rintro e W3 ⟨rfl, hb3⟩
              have HX3 := Lib.hid (HX2.out.keep HX2.out.1 hb3)
              have HY3 := Lib.hid (HY2.out.keep HY2.out.1 hb3)
              have HN3 := Lib.hid (HN2.out.keep (Nat.lt_trans hlt5 HX2.out.1) hb3)
              have HB3 := Lib.hid (below_next HB2.out hb3)
              clear hb3 HX2 HY2 HB2 HN2
              obtain ⟨k, hk⟩ : ∃ k, k = Sem.cmp x.v y.v := ⟨_, rfl⟩
              rw [← hk] at HL ⊢
              clear hk
              obtain ⟨za, ⟨a0, a1, a2, a3, a4⟩, ga0, ga1, ga2, ga3, ga4⟩ := HX3.out
              simp only [Nat.zero_add] at a1 a2 a3 a4
              obtain ⟨zb, ⟨b0, b1, b2, b3, b4⟩, gb0, gb1, gb2, gb3, gb4⟩ := HY3.out
              simp only [Nat.zero_add] at b1 b2 b3 b4
              obtain ⟨n0, n1, n2, n4, n5⟩ := HN3.out
              simp only [Nat.zero_add] at n1 n2 n4 n5
              by_cases hk : k < 0
              · have HL2 : Hid (Rng.normal (flat ls) = [x, y]) := Lib.hid (by rw [HL.out, if_pos hk])
                go_wp2
                go_ret
                unfold BdsR
                rw [HL2.out]
                exact ⟨_, 2, rfl, by simp, bds_two _ _ (by simp) x y, below_new HB3.out _⟩
              · cases ez : (k == 0)
                · have HL2 : Hid (Rng.normal (flat ls) = [Rng.nil]) := Lib.hid (by rw [HL.out, if_neg hk, if_neg (by simp [ez])])
                  go_wp2
                  go_ret
                  unfold BdsR
                  rw [HL2.out]
                  exact ⟨_, 1, rfl, by simp, bds_one _ _ (by simp) Rng.nil, below_new HB3.out _⟩
                · cases e4 : (x.op == 4)
                  · have HL2 : Hid (Rng.normal (flat ls) = [Rng.nil]) := Lib.hid (by rw [HL.out, if_neg hk, if_neg (by simp [ez, e4])])
                    go_wp2
                    go_ret
                    unfold BdsR
                    rw [HL2.out]
                    exact ⟨_, 1, rfl, by simp, bds_one _ _ (by simp) Rng.nil, below_new HB3.out _⟩
                  · cases e2 : (y.op == 2)
                    · have HL2 : Hid (Rng.normal (flat ls) = [Rng.nil]) := Lib.hid (by rw [HL.out, if_neg hk, if_neg (by simp [ez, e4, e2])])
                      go_wp2
                      go_ret
                      unfold BdsR
                      rw [HL2.out]
                      exact ⟨_, 1, rfl, by simp, bds_one _ _ (by simp) Rng.nil, below_new HB3.out _⟩
                    · have HL2 : Hid (Rng.normal (flat ls) = [⟨3, x.v⟩]) := Lib.hid (by rw [HL.out, if_neg hk, if_pos (by simp [ez, e4, e2])])
                      go_wp2
                      go_ret
                      unfold BdsR
                      rw [HL2.out]
                      exact ⟨_, 1, rfl, by simp, bds_one _ _ (by simp) ⟨3, x.v⟩, below_new HB3.out _⟩
            · have HL : Hid (Rng.normal (flat ls) = if Sem.cmp x.v y.v < 0 then [x, ⟨2, y.v⟩] else if (Sem.cmp x.v y.v == 0) = true ∧ (x.op == 4) = true ∧ ((2 : Int) == 2) = true then [⟨3, x.v⟩] else [Rng.nil]) := Lib.hid (by rw [HQ.out, Option.map_some, Option.map_some, least_id e3, most_three n3, close_both])
              have HB2 : Hid (Below w.heap.size w (w7.alloc (.cells #[.int .i64 2, .int .i64 y.v.maj, .int .i64 y.v.min, .int .i64 y.v.pat, .string ⟨y.v.pre.toArray⟩] 57))) := Lib.hid (below_new HBL7.out (.cells #[.int .i64 2, .int .i64 y.v.maj, .int .i64 y.v.min, .int .i64 y.v.pat, .string ⟨y.v.pre.toArray⟩] 57))
              have HX2 : Hid (Box5 (w7.alloc (.cells #[.int .i64 2, .int .i64 y.v.maj, .int .i64 y.v.min, .int .i64 y.v.pat, .string ⟨y.v.pre.toArray⟩] 57)) (w5.heap.size) x) := Lib.hid (HX7.out.keep HLT7.out (below_one w7 (.cells #[.int .i64 2, .int .i64 y.v.maj, .int .i64 y.v.min, .int .i64 y.v.pat, .string ⟨y.v.pre.toArray⟩] 57)))
              have HY2 : Hid (Box5 (w7.alloc (.cells #[.int .i64 2, .int .i64 y.v.maj, .int .i64 y.v.min, .int .i64 y.v.pat, .string ⟨y.v.pre.toArray⟩] 57)) (w7.heap.size) ⟨2, y.v⟩) := Lib.hid (box5_new w7 ⟨2, y.v⟩)
              have HN2 : Hid (BdAt (w7.alloc (.cells #[.int .i64 2, .int .i64 y.v.maj, .int .i64 y.v.min, .int .i64 y.v.pat, .string ⟨y.v.pre.toArray⟩] 57)) w.heap.size 0 Rng.nil) := Lib.hid (HNB7.out.keep HNE7.out.2.2.2 (below_one w7 (.cells #[.int .i64 2, .int .i64 y.v.maj, .int .i64 y.v.min, .int .i64 y.v.pat, .string ⟨y.v.pre.toArray⟩] 57)))
              obtain ⟨_, ⟨s0, s1, s2, s3, s4⟩, gs0, gs1, gs2, gs3, gs4⟩ := HX7.out.keep HLT7.out (below_one w7 (.cells #[.int .i64 2, .int .i64 y.v.maj, .int .i64 y.v.min, .int .i64 y.v.pat, .string ⟨y.v.pre.toArray⟩] 57))
              simp only [Nat.zero_add] at s1 s2 s3 s4
              skip
              go_wp2_with fail
              clear p0 p1 p2 p3 p4 gp0 gp1 gp2 gp3 gp4 q0 q1 q2 q3 q4 gq0 gq1 gq2 gq3 gq4
              refine (rcmp_walk x.v y.v hxs hys _).mono ?_
              rintro e W3 ⟨rfl, hb3⟩
              have HX3 := Lib.hid (HX2.out.keep HX2.out.1 hb3)
              have HY3 := Lib.hid (HY2.out.keep HY2.out.1 hb3)
              have HN3 := Lib.hid (HN2.out.keep (Nat.lt_trans hlt5 HX2.out.1) hb3)
              have HB3 := Lib.hid (below_next HB2.out hb3)
              clear hb3 HX2 HY2 HB2 HN2
              obtain ⟨k, hk⟩ : ∃ k, k = Sem.cmp x.v y.v := ⟨_, rfl⟩
              rw [← hk] at HL ⊢
              clear hk
              obtain ⟨za, ⟨a0, a1, a2, a3, a4⟩, ga0, ga1, ga2, ga3, ga4⟩ := HX3.out
              simp only [Nat.zero_add] at a1 a2 a3 a4
              obtain ⟨zb, ⟨b0, b1, b2, b3, b4⟩, gb0, gb1, gb2, gb3, gb4⟩ := HY3.out
              simp only [Nat.zero_add] at b1 b2 b3 b4
              obtain ⟨n0, n1, n2, n4, n5⟩ := HN3.out
              simp only [Nat.zero_add] at n1 n2 n4 n5
              by_cases hk : k < 0
              · have HL2 : Hid (Rng.normal (flat ls) = [x, ⟨2, y.v⟩]) := Lib.hid (by rw [HL.out, if_pos hk])
                go_wp2
                go_ret
                unfold BdsR
                rw [HL2.out]
                exact ⟨_, 2, rfl, by simp, bds_two _ _ (by simp) x ⟨2, y.v⟩, below_new HB3.out _⟩
              · cases ez : (k == 0)
                · have HL2 : Hid (Rng.normal (flat ls) = [Rng.nil]) := Lib.hid (by rw [HL.out, if_neg hk, if_neg (by simp [ez])])
                  go_wp2
                  go_ret
                  unfold BdsR
                  rw [HL2.out]
                  exact ⟨_, 1, rfl, by simp, bds_one _ _ (by simp) Rng.nil, below_new HB3.out _⟩
                · cases e4 : (x.op == 4)
                  · have HL2 : Hid (Rng.normal (flat ls) = [Rng.nil]) := Lib.hid (by rw [HL.out, if_neg hk, if_neg (by simp [ez, e4])])
                    go_wp2
                    go_ret
                    unfold BdsR
                    rw [HL2.out]
                    exact ⟨_, 1, rfl, by simp, bds_one _ _ (by simp) Rng.nil, below_new HB3.out _⟩
                  · have HL2 : Hid (Rng.normal (flat ls) = [⟨3, x.v⟩]) := Lib.hid (by rw [HL.out, if_neg hk, if_pos (by simp [ez, e4])])
                    go_wp2
                    go_ret
                    unfold BdsR
                    rw [HL2.out]
                    exact ⟨_, 1, rfl, by simp, bds_one _ _ (by simp) ⟨3, x.v⟩, below_new HB3.out _⟩
          · cases n3 : (y.op == 3)
            · have HL : Hid (Rng.normal (flat ls) = if Sem.cmp x.v y.v < 0 then [⟨4, x.v⟩, y] else if (Sem.cmp x.v y.v == 0) = true ∧ ((4 : Int) == 4) = true ∧ (y.op == 2) = true then [⟨3, x.v⟩] else [Rng.nil]) := Lib.hid (by rw [HQ.out, Option.map_some, Option.map_some, least_three e3, most_id n3, close_both])
              have HB2 : Hid (Below w.heap.size w (W.setCell ⟨w5.heap.size, 0, none⟩ (.int .i64 4))) := Lib.hid (HBW.out.setCell (p := ⟨w5.heap.size, 0, none⟩) (by show w.heap.size ≤ w5.heap.size; omega) _)
              have HX2 : Hid (Box5 (W.setCell ⟨w5.heap.size, 0, none⟩ (.int .i64 4)) (w5.heap.size) ⟨4, x.v⟩) := Lib.hid (HX.out.setOp 4)
              have HY2 : Hid (Box5 (W.setCell ⟨w5.heap.size, 0, none⟩ (.int .i64 4)) (w7.heap.size) y) := Lib.hid (HY.out.other (by have := HNE7.out; omega))
              have HN2 : Hid (BdAt (W.setCell ⟨w5.heap.size, 0, none⟩ (.int .i64 4)) w.heap.size 0 Rng.nil) := Lib.hid (HNW.out.other1 (by have := HNE7.out; omega))
              rw [hW] at HB2 HX2 HY2 HN2
              go_wp2_with fail
              clear p0 p1 p2 p3 p4 gp0 gp1 gp2 gp3 gp4 q0 q1 q2 q3 q4 gq0 gq1 gq2 gq3 gq4
              refine (rcmp_walk x.v y.v hxs hys _).mono ?_
              rintro e W3 ⟨rfl, hb3⟩
              have HX3 := Lib.hid (HX2.out.keep HX2.out.1 hb3)
              have HY3 := Lib.hid (HY2.out.keep HY2.out.1 hb3)
              have HN3 := Lib.hid (HN2.out.keep (Nat.lt_trans hlt5 HX2.out.1) hb3)
              have HB3 := Lib.hid (below_next HB2.out hb3)
              clear hb3 HX2 HY2 HB2 HN2
              obtain ⟨k, hk⟩ : ∃ k, k = Sem.cmp x.v y.v := ⟨_, rfl⟩
              rw [← hk] at HL ⊢
              clear hk
              obtain ⟨za, ⟨a0, a1, a2, a3, a4⟩, ga0, ga1, ga2, ga3, ga4⟩ := HX3.out
              simp only [Nat.zero_add] at a1 a2 a3 a4
              obtain ⟨zb, ⟨b0, b1, b2, b3, b4⟩, gb0, gb1, gb2, gb3, gb4⟩ := HY3.out
              simp only [Nat.zero_add] at b1 b2 b3 b4
              obtain ⟨n0, n1, n2, n4, n5⟩ := HN3.out
              simp only [Nat.zero_add] at n1 n2 n4 n5
              by_cases hk : k < 0
              · have HL2 : Hid (Rng.normal (flat ls) = [⟨4, x.v⟩, y]) := Lib.hid (by rw [HL.out, if_pos hk])
                go_wp2
                go_ret
                unfold BdsR
                rw [HL2.out]
                exact ⟨_, 2, rfl, by simp, bds_two _ _ (by simp) ⟨4, x.v⟩ y, below_new HB3.out _⟩
              · cases ez : (k == 0)
                · have HL2 : Hid (Rng.normal (flat ls) = [Rng.nil]) := Lib.hid (by rw [HL.out, if_neg hk, if_neg (by simp [ez])])
                  go_wp2
                  go_ret
                  unfold BdsR
                  rw [HL2.out]
                  exact ⟨_, 1, rfl, by simp, bds_one _ _ (by simp) Rng.nil, below_new HB3.out _⟩
                · cases e2 : (y.op == 2)
                  · have HL2 : Hid (Rng.normal (flat ls) = [Rng.nil]) := Lib.hid (by rw [HL.out, if_neg hk, if_neg (by simp [ez, e2])])
                    go_wp2
                    go_ret
                    unfold BdsR
                    rw [HL2.out]
                    exact ⟨_, 1, rfl, by simp, bds_one _ _ (by simp) Rng.nil, below_new HB3.out _⟩
                  · have HL2 : Hid (Rng.normal (flat ls) = [⟨3, x.v⟩]) := Lib.hid (by rw [HL.out, if_neg hk, if_pos (by simp [ez, e2])])
                    go_wp2
                    go_ret
                    unfold BdsR
                    rw [HL2.out]
                    exact ⟨_, 1, rfl, by simp, bds_one _ _ (by simp) ⟨3, x.v⟩, below_new HB3.out _⟩
            · have HL : Hid (Rng.normal (flat ls) = if Sem.cmp x.v y.v < 0 then [⟨4, x.v⟩, ⟨2, y.v⟩] else if (Sem.cmp x.v y.v == 0) = true ∧ ((4 : Int) == 4) = true ∧ ((2 : Int) == 2) = true then [⟨3, x.v⟩] else [Rng.nil]) := Lib.hid (by rw [HQ.out, Option.map_some, Option.map_some, least_three e3, most_three n3, close_both])
              have HB2 : Hid (Below w.heap.size w ((W.setCell ⟨w5.heap.size, 0, none⟩ (.int .i64 4)).setCell ⟨w7.heap.size, 0, none⟩ (.int .i64 2))) := Lib.hid ((HBW.out.setCell (p := ⟨w5.heap.size, 0, none⟩) (by show w.heap.size ≤ w5.heap.size; omega) _).setCell (p := ⟨w7.heap.size, 0, none⟩) (by show w.heap.size ≤ w7.heap.size; have := HNE7.out; omega) _)
              have HX2 : Hid (Box5 ((W.setCell ⟨w5.heap.size, 0, none⟩ (.int .i64 4)).setCell ⟨w7.heap.size, 0, none⟩ (.int .i64 2)) (w5.heap.size) ⟨4, x.v⟩) := Lib.hid ((HX.out.setOp 4).other (by have := HNE7.out; omega))
              have HY2 : Hid (Box5 ((W.setCell ⟨w5.heap.size, 0, none⟩ (.int .i64 4)).setCell ⟨w7.heap.size, 0, none⟩ (.int .i64 2)) (w7.heap.size) ⟨2, y.v⟩) := Lib.hid ((HY.out.other (by have := HNE7.out; omega)).setOp 2)
              have HN2 : Hid (BdAt ((W.setCell ⟨w5.heap.size, 0, none⟩ (.int .i64 4)).setCell ⟨w7.heap.size, 0, none⟩ (.int .i64 2)) w.heap.size 0 Rng.nil) := Lib.hid ((HNW.out.other1 (by have := HNE7.out; omega)).other1 (by have := HNE7.out; omega))
              rw [hW] at HB2 HX2 HY2 HN2
              go_wp2_with fail
              clear p0 p1 p2 p3 p4 gp0 gp1 gp2 gp3 gp4 q0 q1 q2 q3 q4 gq0 gq1 gq2 gq3 gq4
              refine (rcmp_walk x.v y.v hxs hys _).mono ?_
              rintro e W3 ⟨rfl, hb3⟩
              have HX3 := Lib.hid (HX2.out.keep HX2.out.1 hb3)
              have HY3 := Lib.hid (HY2.out.keep HY2.out.1 hb3)
              have HN3 := Lib.hid (HN2.out.keep (Nat.lt_trans hlt5 HX2.out.1) hb3)
              have HB3 := Lib.hid (below_next HB2.out hb3)
              clear hb3 HX2 HY2 HB2 HN2
              obtain ⟨k, hk⟩ : ∃ k, k = Sem.cmp x.v y.v := ⟨_, rfl⟩
              rw [← hk] at HL ⊢
              clear hk
              obtain ⟨za, ⟨a0, a1, a2, a3, a4⟩, ga0, ga1, ga2, ga3, ga4⟩ := HX3.out
              simp only [Nat.zero_add] at a1 a2 a3 a4
              obtain ⟨zb, ⟨b0, b1, b2, b3, b4⟩, gb0, gb1, gb2, gb3, gb4⟩ := HY3.out
              simp only [Nat.zero_add] at b1 b2 b3 b4
              obtain ⟨n0, n1, n2, n4, n5⟩ := HN3.out
              simp only [Nat.zero_add] at n1 n2 n4 n5
              by_cases hk : k < 0
              · have HL2 : Hid (Rng.normal (flat ls) = [⟨4, x.v⟩, ⟨2, y.v⟩]) := Lib.hid (by rw [HL.out, if_pos hk])
                go_wp2
                go_ret
                unfold BdsR
                rw [HL2.out]
                exact ⟨_, 2, rfl, by simp, bds_two _ _ (by simp) ⟨4, x.v⟩ ⟨2, y.v⟩, below_new HB3.out _⟩
              · cases ez : (k == 0)
                · have HL2 : Hid (Rng.normal (flat ls) = [Rng.nil]) := Lib.hid (by rw [HL.out, if_neg hk, if_neg (by simp [ez])])
                  go_wp2
                  go_ret
                  unfold BdsR
                  rw [HL2.out]
                  exact ⟨_, 1, rfl, by simp, bds_one _ _ (by simp) Rng.nil, below_new HB3.out _⟩
                · have HL2 : Hid (Rng.normal (flat ls) = [⟨3, x.v⟩]) := Lib.hid (by rw [HL.out, if_neg hk, if_pos (by simp [ez])])
                  go_wp2
                  go_ret
                  unfold BdsR
                  rw [HL2.out]
                  exact ⟨_, 1, rfl, by simp, bds_one _ _ (by simp) ⟨3, x.v⟩, below_new HB3.out _⟩
end Go.Proofs.YthjombepcmebfaaGreatDoor
