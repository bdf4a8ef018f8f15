/- The walk of LexBack. -/
import Derived.Test.YtebphmkefpaeaaaGreatDoorLexShowsW
import Derived.Test.YtebphmkefpaeaaaGreatDoorLexScansW
namespace Go.Proofs.YtebphmkefpaeaaaGreatDoor
open Go.RowKit
set_option linter.unusedVariables false

/-- append under a guard, which says what was changed. -/
theorem wpList_append_grown {P : Program} (w : World) {ops : Array Oper} {rest : List Oper} {o : Oper} {a : Act} {Q : Exit → Act → World → Prop} (hgd : Region.wanted o (yielded ops a.tmps) = true) (s x : Operand) (t : TypeId)
    (ho : o.op = .call { callee := .builtin .append, args := #[s, x], argTypes := #[t, t] })
    (base : Nat) (e : TypeId) (i : TypeInfo) (z : Value) (size bytes : Nat) (ht : P.underlying t = some (.slice e)) (hi : P.info? e = some i) (hz : i.zero = some z)
    (hsize : i.size = size) (hby : i.bytes = bytes) (hzs : z.cells.size = size) (hsz : 0 < size)
    (v : Value) (n : Nat) (xs : List Value) (hs : a.eval s = v) (hown : w.ownsRow base e size v n xs)
    (ad : Addr) (m c : Nat) (news : List Value) (hx : a.eval x = .slice (some ad) m c) (hl : news.length = m * size)
    (hnews : ∀ j u, news[j]? = some u → w.cell? (ad.add j) = some u) (h1 : ∀ u ∈ news, u.oneCell' = true)
    (h63 : n + m ≤ maxLen) (hbytes : (n + m) * bytes ≤ 140737488355328) (hbase : base ≤ w.heap.size)
    (h : ∀ v' w', w'.ownsRow base e size v' (n + m) (xs ++ news) → w.grownBy w' v.ownBlock → wpList P ops Q rest (a.put o.dst v') w') : wpList P ops Q (o :: rest) a w := by
  refine wpList_step fun K hK => ?_
  rw [if_pos hgd]
  exact wp_append_own w s x t ho base e i z size bytes ht hi hz hsize hby hzs hsz v n xs hs hown ad m c news hx hl hnews h1 h63 hbytes hbase
    fun v' w' h2 h3 _ => hK _ _ (h v' w' h2 h3)

/-- Another row is as it was. -/
theorem own_far {w w' : World} {B C : Nat} {v v2 : Value} {l : List Tk} (h : w.ownsRow B 32 3 v l.length (cellsT l)) (hg : w.grownBy w' v2.ownBlock) (hC : ∀ k, v2.ownBlock = some k → k < C) (hB : C ≤ B) : w'.ownsRow B 32 3 v l.length (cellsT l) :=
  h.kept hg (by
    cases hq : v.ownBlock with
    | none => exact Or.inl rfl
    | some k =>
      refine Or.inr (fun e => ?_)
      have h1 := (h.lt k hq).1
      have h2 := hC k e.symm
      omega)

theorem tks_same {w : World} {B : Nat} {A : Option Addr} {n cap : Nat} {l : List Tk} (h : w.ownsRow B 32 3 (.slice A n cap) l.length (cellsT l)) : Tks w w.heap.size A l := by
  obtain ⟨A', cap', hv, _, ht⟩ := tks_of_own h
  have hA : A = A' := by simp at hv; exact hv.1
  rw [hA]; exact ht

/-- The tokens that are no ends. -/
def kf (l : List Tk) (k : Nat) : List Tk := (l.take k).filter (fun x => decide (x.t.kind ≠ 0))

theorem kf_len (l : List Tk) (k : Nat) : (kf l k).length ≤ k := Nat.le_trans (List.length_filter_le _ _) (List.length_take_le _ _)
theorem kf_yes {l : List Tk} {k : Nat} (h : k < l.length) (hk : (l[k]'h).t.kind ≠ 0) : kf l (k + 1) = kf l k ++ [l[k]'h] := by
  unfold kf
  rw [List.take_succ_eq_append_getElem h, List.filter_append]
  simp [hk]
theorem kf_no {l : List Tk} {k : Nat} (h : k < l.length) (hk : (l[k]'h).t.kind = 0) : kf l (k + 1) = kf l k := by
  unfold kf
  rw [List.take_succ_eq_append_getElem h, List.filter_append]
  simp [hk]

theorem kf_kept {l : List Tk} (h : Lex.mayShow (l.map (·.t))) {k : Nat} (hk : l.length ≤ k) : (kf l k).map (·.t) = Lex.kept (l.map (·.t)) := by
  rw [Lex.kept_kind h]
  unfold kf
  rw [List.take_of_length_le hk, List.filter_map]
  rfl

/-- What is gathered, so far. -/
def Own6 (l : List Tk) (w wr : World) (v : Value) (k : Nat) : Prop := wr.ownsRow w.heap.size 32 3 v (kf l k).length (cellsT (kf l k)) ∧ Below w.heap.size w wr

/-- Written, and read again. -/
theorem back_scan {ts : List Lex.Tok} (h : Lex.mayShow ts) (hl : (Lex.shown ts).length ≤ 4096) : ∃ m, Lex.scanR (Lex.shown ts) = .ok (m ++ [(Lex.endTok, (Lex.shown ts).length)]) ∧ m.map (·.1) = Lex.kept ts := by
  obtain ⟨m, h1, h2⟩ := Lex.shown_toks h
  refine ⟨m, ?_, h2⟩
  rw [scanR_toks hl, h1]

theorem same_back {l : List Tk} {m : List (Lex.Tok × Nat)} {k n : Nat} (h : m.map (·.1) = (kf l k).map (·.t)) : sameT false (tkOf (m ++ [(Lex.endTok, n)])) (kf l k ++ [⟨Lex.endTok, 0⟩]) = true := by
  unfold sameT
  refine decide_eq_true ?_
  have e : ∀ (x : List Tk), x.map (Tk.key false) = (x.map (·.t)).map (fun t => (t, (0 : Int))) := fun x => by
    rw [List.map_map]; rfl
  rw [e, e, tkOf_append]
  simp only [List.map_append]
  rw [← h]
  have e2 : (tkOf m).map (·.t) = m.map (·.1) := by unfold tkOf; rw [List.map_map]; rfl
  rw [e2]
  rfl

set_option maxRecDepth 100000 in
set_option maxHeartbeats 16000000 in
theorem back_walk (A : Option Addr) (cap : Nat) (l : List Tk) (w : World) (hA : Tks w w.heap.size A l) (hl : l.length ≤ 9223372036854775807) (hs : ∀ b ∈ l, b.t.text.length ≤ 9223372036854775807) (hg : Globs w) :
    Calls Tryz.prog 6 #[.slice A l.length cap] w fun e w' => e = .returned (.bool true) ∧ Below w.heap.size w w' := by
  obtain ⟨i0, hi, hz0, hz1, hz2⟩ := info_parts (P := Tryz.prog) (e := 32) (z := .agg #[.int .i64 0, .string ByteArray.empty, .int .i64 0]) (size := 3) (bytes := 32) (by kernel_rfl)
  have HA := Lib.hid hA
  have HS := Lib.hid hs
  have HG := Lib.hid hg
  clear hA hs hg
  go_enter Tryz.func6, Tryz.ntmps6
  go_wp2_with fail
  go_loopw [3, 4, 5] (fun nn vv ii wr => ∃ n k : Nat, nn = .int .i64 (n : Int) ∧ ii = .int .i64 (k : Int) ∧ k ≤ l.length ∧ 5 * k ≤ n ∧ n ≤ 20000 ∧ Hid (ShortT l k) ∧ Hid (Own6 l w wr vv k))
    (fun _ _ ii _ => l.length - (intOf ii).toNat)
  case atStart => exact ⟨0, 0, rfl, rfl, Nat.zero_le _, Nat.le_refl _, Nat.zero_le _, Lib.hid (fun j _ hj => absurd hj (by omega)), Lib.hid ⟨World.ownsRow_nil _ _ _ _, Below.refl _ _⟩⟩
  case round =>
    obtain ⟨n, k, rfl, rfl, hk, h5, hn, HT, HO⟩ := hrel
    have hbw := HO.out.2.size
    have hkl := kf_len l k
    by_cases hlt : k < l.length
    · have hi1 : (k : Int) < (l.length : Int) := by omega
      rcases HA.out.keep HO.out.2 (Nat.le_refl _) with h0 | ⟨g, off, rfl, hgw, hc⟩
      · omega
      · obtain ⟨p0, p1, p2⟩ := hc k hlt
        obtain ⟨x, hx⟩ : ∃ x, x = l[k]'hlt := ⟨_, rfl⟩
        have hxl : x.t.text.length ≤ 9223372036854775807 := by rw [hx]; exact HS.out _ (List.getElem_mem _)
        have HKY : Hid (x.t.kind ≠ 0 → kf l (k + 1) = kf l k ++ [x]) := Lib.hid (fun h => by rw [hx] at h ⊢; exact kf_yes hlt h)
        have HKN : Hid (x.t.kind = 0 → kf l (k + 1) = kf l k) := Lib.hid (fun h => by rw [hx] at h; exact kf_no hlt h)
        rw [← hx] at p0 p1 p2
        have HX := Lib.hid hx
        have hz : (⟨x.t.text.toArray⟩ : ByteArray).size = x.t.text.length := size_list _
        clear hx hc
        by_cases h20 : x.t.text.length ≤ 20000
        · have hle : (x.t.text.length : Int) ≤ 20000 := by omega
          have hmn : min (x.t.text.length : Int) 20000 = (x.t.text.length : Int) := by omega
          have HT2 : Hid (ShortT l (k + 1)) := Lib.hid (HT.out.next hlt (by rw [← HX.out]; exact h20))
          by_cases hov : 20000 < n + (x.t.text.length + 5)
          · have hov1 : (20000 : Int) < (n : Int) + ((x.t.text.length : Int) + 5) := by omega
            clear h20 hov
            go_wp2_with fail
            refine (awake_walk _ (HG.out.next HO.out.2)).mono ?_
            rintro e w2 ⟨rfl, hb2⟩
            go_wp2
            go_ret
            exact ⟨rfl, below_next HO.out.2 hb2⟩
          · have hov1 : ¬ (20000 : Int) < (n : Int) + ((x.t.text.length : Int) + 5) := by omega
            clear h20
            cases hk0 : (x.t.kind == 0)
            · have hkn : (x.t.kind != 0) = true := by unfold bne; rw [hk0]; rfl
              have HKE := Lib.hid (HKY.out (by simpa using hk0))
              clear hk0
              go_wp2_with (at_builtin; refine wpList_append_any _ rfl _ _ 24 rfl w.heap.size 32 i0 (.agg #[.int .i64 0, .string ByteArray.empty, .int .i64 0]) 3 32 Tryz.underlying24 hi hz0 hz1 hz2 rfl (by decide) _ _ _ rfl (HO.out.1.alloc _) (some ⟨wr.heap.size, 0, none⟩) 1 1 [.int .i64 x.t.kind, .string ⟨x.t.text.toArray⟩, .int .i64 x.at_] rfl nofun rfl (fun ad had => by cases had; exact news3 _ _ _ _ _ rfl) one3 (by unfold maxLen; omega) (by omega) (by simp; omega) ?_)
              intro v' w3 hown3 hb3
              have HO3 : Hid (Own6 l w w3 v' (k + 1)) := Lib.hid ⟨by rw [HKE.out, cellsT_snoc, List.length_append]; exact hown3, (HO.out.2.alloc hbw _).trans hb3⟩
              clear hown3 hb3
              go_wp2
              go_roundw
              case rel => exact ⟨n + (x.t.text.length + 5), k + 1, by go_num, by go_num, by omega, by omega, by omega, HT2, HO3⟩
              case measure => simp [intOf]; omega
            · have hkn : (x.t.kind != 0) = false := by unfold bne; rw [hk0]; rfl
              have HKE := Lib.hid (HKN.out (by simpa using hk0))
              have HO3 : Hid (∀ v, Own6 l w wr v k → Own6 l w wr v (k + 1)) := Lib.hid (fun v h => by unfold Own6 at h ⊢; rw [HKE.out]; exact h)
              clear hk0
              go_wp2
              go_roundw
              case rel => exact ⟨n + (x.t.text.length + 5), k + 1, by go_num, by go_num, by omega, by omega, by omega, HT2, Lib.hid (HO3.out _ HO.out)⟩
              case measure => simp [intOf]; omega
        · have hle : ¬ (x.t.text.length : Int) ≤ 20000 := by omega
          have hmn : min (x.t.text.length : Int) 20000 = 20000 := by omega
          have hov1 : (20000 : Int) < (n : Int) + (20000 + 5) := by omega
          have hov2 : (20000 : Int) < (n : Int) + 20005 := by omega
          clear h20
          go_wp2_with fail
          refine (awake_walk _ (HG.out.next HO.out.2)).mono ?_
          rintro e w2 ⟨rfl, hb2⟩
          go_wp2
          go_ret
          exact ⟨rfl, below_next HO.out.2 hb2⟩
    · have hi1 : ¬ (k : Int) < (l.length : Int) := by omega
      have hlen : l.length ≤ 10000 := by omega
      have HSS := Lib.hid (HT.out.all (by omega))
      have HB := Lib.hid HO.out.2
      have hkl2 : (kf l k).length ≤ 10000 := by omega
      by_cases hm : Lex.mayShow (l.map (·.t))
      · have HM := Lib.hid hm
        have HKK := Lib.hid (kf_kept hm (k := k) (by omega))
        have hsl := Lex.shown_len _ hm
        rw [List.length_map] at hsl
        have hsl2 : (Lex.shown (l.map (·.t))).length ≤ 4097 * 10000 := Nat.le_trans hsl (Nat.mul_le_mul_left _ hlen)
        have HBS := Lib.hid (fun h => back_scan hm h)
        obtain ⟨s, hs⟩ : ∃ s, s = Lex.shown (l.map (·.t)) := ⟨_, rfl⟩
        rw [← hs] at hsl2 HBS
        have HSH := Lib.hid hs
        have hz : (⟨s.toArray⟩ : ByteArray).size = s.length := size_list _
        clear hm hs hsl
        go_wp2_with fail
        refine (oshow_walk A cap l _ (HA.out.next HB.out) hlen HSS.out (HG.out.next HB.out)).mono ?_
        rintro e w2 ⟨h2, hb2⟩
        have he := show_yes h2 HM.out
        rw [← HSH.out] at he
        subst he
        have HB2 := Lib.hid (below_next HB.out hb2)
        have HO2 := Lib.hid (own_below HO.out.1 hb2)
        clear h2 hb2
        by_cases h46 : s.length ≤ 4096
        · obtain ⟨m, hm1, hm2⟩ := HBS.out h46
          have HSC := Lib.hid hm1
          have hsame := same_back (l := l) (k := k) (n := s.length) (m := m) (by rw [hm2, HKK.out])
          have HSM := Lib.hid hsame
          have hmlen := (scanR_len hm1).2
          have h46i : ¬ (4096 : Int) < (s.length : Int) := by omega
          clear hm1 hm2 hsame
          go_wp2_with fail
          refine (oscanL_walk s (by omega) _ (HG.out.next HB2.out)).mono ?_
          rintro e w3 h3
          obtain ⟨A3, cap3, rfl, _, hM3, hb3⟩ := scanV_ok h3 HSC.out
          have hbf := below_one w3 (.cells #[.int .i64 0, .int .i64 0] 27)
          have hb3' := below_next hb3 hbf
          have HF3 := Lib.hid (box2_new w3 0 0)
          have HM3 := Lib.hid (own_below hM3 hbf)
          have HB3 := Lib.hid (below_next HB2.out hb3')
          have HO3 := Lib.hid (own_below HO2.out hb3')
          have hbw3 : w.heap.size ≤ w3.heap.size + 1 := by have := HB3.out.size; simpa using this
          have hv2 : Hid (∀ kk, u4.ownBlock = some kk → kk < w2.heap.size) := Lib.hid (fun kk hkk => (HO2.out.lt kk hkk).2)
          clear h3 hM3 hb3 hb3' hbf
          obtain ⟨q0, x0, x1, _, _⟩ := HF3.out
          go_wp2_with (at_builtin; refine wpList_append_grown _ rfl _ _ 24 rfl w.heap.size 32 i0 (.agg #[.int .i64 0, .string ByteArray.empty, .int .i64 0]) 3 32 Tryz.underlying24 hi hz0 hz1 hz2 rfl (by decide) _ _ _ rfl (HO3.out.alloc _) ⟨w3.heap.size + 1, 0, none⟩ 1 1 [.int .i64 0, .string ByteArray.empty, .int .i64 0] rfl rfl (news3 _ _ _ _ _ (by simp)) one3 (by unfold maxLen; omega) (by omega) (by simp; omega) ?_)
          intro v' w4 hown4 hgrow
          have hown5 : w4.ownsRow w.heap.size 32 3 v' (kf l k ++ [(⟨Lex.endTok, 0⟩ : Tk)]).length (cellsT (kf l k ++ [(⟨Lex.endTok, 0⟩ : Tk)])) := by rw [cellsT_snoc, List.length_append]; exact hown4
          have hm4 := own_far (own_below HM3.out (below_one _ _)) hgrow hv2.out (Nat.le_refl _)
          have HB4 := Lib.hid (((HB3.out.alloc HB3.out.size (.cells #[.int .i64 0, .string ⟨#[]⟩, .int .i64 0] 32)).grown hgrow (by simp; omega) (fun kk hkk => (HO3.out.lt kk hkk).1)))
          obtain ⟨A5, cap5, rfl, _, hT5⟩ := tks_of_own hown5
          have HT4 := Lib.hid (tks_same hm4)
          have HT5 := Lib.hid hT5
          have hml : (tkOf (m ++ [(Lex.endTok, s.length)])).length ≤ 1000000 := by rw [tkOf_len]; omega
          clear hown4 hown5 hm4 hT5 hgrow x0 x1
          have hln : (kf l k ++ [(⟨Lex.endTok, 0⟩ : Tk)]).length = (kf l k).length + 1 := by rw [List.length_append]; rfl
          have hsm := fun W h1 h2 => tsame_walk A3 A5 cap3 cap5 (tkOf (m ++ [(Lex.endTok, s.length)])) (kf l k ++ [(⟨Lex.endTok, 0⟩ : Tk)]) false W h1 h2 (by omega)
          rw [HSM.out] at hsm
          rw [hln] at hsm
          have HSMW := Lib.hid hsm
          clear hln hsm
          go_wp2_with fail
          refine (HSMW.out _ HT4.out HT5.out).mono ?_
          rintro e w5 ⟨rfl, hb5⟩
          have HB5 := Lib.hid (below_next HB4.out hb5)
          clear hb5
          go_wp2_with fail
          refine (awake_walk _ (HG.out.next HB5.out)).mono ?_
          rintro e w6 ⟨rfl, hb6⟩
          go_wp2
          go_ret
          exact ⟨rfl, below_next HB5.out hb6⟩
        · have HSC : Hid (Lex.scanR s = .error (3, 4096)) := Lib.hid (scanR_long (by omega))
          have h46i : (4096 : Int) < (s.length : Int) := by omega
          go_wp2_with fail
          refine (oscanL_walk s (by omega) _ (HG.out.next HB2.out)).mono ?_
          rintro e w3 h3
          obtain ⟨A3, cap3, rfl, hb3⟩ := scanV_err h3 HSC.out
          have hbf := below_one w3 (.cells #[.int .i64 3, .int .i64 4096] 27)
          have HB3 := Lib.hid (below_next (below_next HB2.out hb3) hbf)
          clear h3 hb3 hbf
          go_wp2_with fail
          refine (awake_walk _ (HG.out.next HB3.out)).mono ?_
          rintro e w4 ⟨rfl, hb4⟩
          go_wp2
          go_ret
          exact ⟨rfl, below_next HB3.out hb4⟩
      · have HM := Lib.hid hm
        have HKL := hkl2
        clear hm
        go_wp2_with fail
        refine (oshow_walk A cap l _ (HA.out.next HB.out) hlen HSS.out (HG.out.next HB.out)).mono ?_
        rintro e w2 ⟨h2, hb2⟩
        have he := show_no h2 HM.out
        subst he
        have HB2 := Lib.hid (below_next HB.out hb2)
        clear h2 hb2
        go_wp2_with fail
        refine (awake_walk _ (HG.out.next HB2.out)).mono ?_
        rintro e w4 ⟨rfl, hb4⟩
        go_wp2
        go_ret
        exact ⟨rfl, below_next HB2.out hb4⟩
end Go.Proofs.YtebphmkefpaeaaaGreatDoor
