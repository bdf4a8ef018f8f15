/- LexR5, LexR6, together. -/
import Derived.Test.YtebphmkefpaeaaaGreatDoorGLexA
import Derived.Test.YtebphmkefpaeaaaGreatDoorGPure
import Derived.Deep.AppendLies
import Derived.Lib.AppendStr
import Derived.BigRegion
import Derived.Test.YtebphmkefpaeaaaGreatDoorGSemA
/- The document's quoted of layer 6. -/
namespace Lex
theorem quoted_stop {r : List UInt8} {qs : List Int} {a : Nat} (h : ∀ p ∈ qs, okP p = true) (hr : r = esc qs ++ r.drop a) (h1 : one (r.drop a) = none) : quoted (34 :: r) = finish (qs, r.drop a) := by
  have hb : body (34 :: r).length r = (qs, r.drop a) := by
    conv => lhs; rw [hr]
    exact body_of _ h h1 (by rw [← hr]; simp)
  show finish (body (34 :: r).length r) = _
  rw [hb]

theorem esc_snoc (qs : List Int) (p : Int) : esc (qs ++ [p]) = esc qs ++ escP p := by simp [esc]

theorem quoted_step {r : List UInt8} {qs : List Int} {a : Nat} (h : ∀ p ∈ qs, okP p = true) (hr : r = esc qs ++ r.drop a) (ha : a = (esc qs).length) {p : Int} {n : Nat} (h1 : one (r.drop a) = some (p, n)) :
    (∀ x ∈ qs ++ [p], okP x = true) ∧ r = esc (qs ++ [p]) ++ r.drop (a + n) ∧ a + n = (esc (qs ++ [p])).length ∧ a + n ≤ r.length := by
  obtain ⟨h2, h3, h4, h5, h6⟩ := one_some h1
  refine ⟨fun x hx => ?_, ?_, ?_, ?_⟩
  · rcases List.mem_append.1 hx with hx | hx
    · exact h x hx
    · obtain rfl : x = p := by simpa using hx
      exact h2
  · rw [esc_snoc, List.append_assoc]
    rw [List.drop_drop] at h4
    rw [← h4]; exact hr
  · rw [esc_snoc, List.length_append, ← ha, ← h3]
  · rw [List.length_drop] at h6; omega
end Lex
namespace Go.Proofs.YtebphmkefpaeaaaGreatDoor
open Go.RowKit
set_option linter.unusedVariables false

/-- What the document's first and quoted tell. -/
def firstV : Except (Int × Nat) (Lex.Tok × Nat) → Value
  | .ok (t, n) => .tuple #[.agg #[.int .i64 t.kind, .string ⟨t.text.toArray⟩, .int .i64 0], .int .i64 (n : Int), .agg #[.int .i64 0, .int .i64 0]]
  | .error (e, k) => .tuple #[.agg #[.int .i64 0, .string ⟨#[]⟩, .int .i64 0], .int .i64 0, .agg #[.int .i64 e, .int .i64 (k : Int)]]

/-- A token's box, a fault's box, and the bad fault's. -/
structure R3 (W : World) (h0 h1 h2 : Nat) : Prop where
  l0 : h0 < W.heap.size
  l1 : h1 < W.heap.size
  l2 : h2 < W.heap.size
  t0 : W.cell? ⟨h0, 0, none⟩ = some (.int .i64 0)
  t1 : W.cell? ⟨h0, 1, none⟩ = some (.string ⟨#[]⟩)
  t2 : W.cell? ⟨h0, 2, none⟩ = some (.int .i64 0)
  f0 : W.cell? ⟨h1, 0, none⟩ = some (.int .i64 0)
  f1 : W.cell? ⟨h1, 1, none⟩ = some (.int .i64 0)
  b0 : W.cell? ⟨h2, 0, none⟩ = some (.int .i64 60)
  b1 : W.cell? ⟨h2, 1, none⟩ = some (.int .i64 0)
  z0 : W.frozen? ⟨h0, 0, none⟩ = false
  z1 : W.frozen? ⟨h0, 1, none⟩ = false
  z2 : W.frozen? ⟨h0, 2, none⟩ = false
  z3 : W.frozen? ⟨h1, 0, none⟩ = false
  z4 : W.frozen? ⟨h1, 1, none⟩ = false

theorem R3.keep {W W' : World} {h0 h1 h2 B : Nat} (r : R3 W h0 h1 h2) (hB0 : h0 < B) (hB1 : h1 < B) (hB2 : h2 < B) (hb : Below B W W') : R3 W' h0 h1 h2 := by
  have k : ∀ b o, b < B → W'.cell? ⟨b, o, none⟩ = W.cell? ⟨b, o, none⟩ := fun b o hbl => hb.cell (p := ⟨b, o, none⟩) hbl
  have f : ∀ b o, b < B → W'.frozen? ⟨b, o, none⟩ = W.frozen? ⟨b, o, none⟩ := fun b o hbl => hb.frozen (p := ⟨b, o, none⟩) hbl
  exact ⟨Nat.lt_of_lt_of_le r.l0 hb.size, Nat.lt_of_lt_of_le r.l1 hb.size, Nat.lt_of_lt_of_le r.l2 hb.size, (k _ _ hB0).trans r.t0, (k _ _ hB0).trans r.t1, (k _ _ hB0).trans r.t2, (k _ _ hB1).trans r.f0, (k _ _ hB1).trans r.f1, (k _ _ hB2).trans r.b0, (k _ _ hB2).trans r.b1,
    (f _ _ hB0).trans r.z0, (f _ _ hB0).trans r.z1, (f _ _ hB0).trans r.z2, (f _ _ hB1).trans r.z3, (f _ _ hB1).trans r.z4⟩

theorem r3_new (w : World) : R3 (((w.alloc (.cells #[.int .i64 0, .string ⟨#[]⟩, .int .i64 0] 32)).alloc (.cells #[.int .i64 0, .int .i64 0] 27)).alloc (.cells #[.int .i64 60, .int .i64 0] 27)) w.heap.size (w.heap.size + 1) (w.heap.size + 1 + 1) := by
  constructor <;> simp [go_sem]

theorem below_w3 (w : World) (a b c : Obj) : Below w.heap.size w (((w.alloc a).alloc b).alloc c) := below_new (below_new (below_one w _) _) _
theorem size_w3 (w : World) (a b c : Obj) : (((w.alloc a).alloc b).alloc c).heap.size = w.heap.size + 3 := by simp

/-- What is kept on the way. -/
def QInv (r : List UInt8) (W0 wr : World) (v : Value) (a : Nat) : Prop := ∃ qs : List Int, (∀ p ∈ qs, Lex.okP p = true) ∧ r = Lex.esc qs ++ r.drop a ∧ a = (Lex.esc qs).length ∧ wr.ownsRow W0.heap.size 5 1 v (Utf.enc qs).length (Lib.byteCells (Utf.enc qs)) ∧ Below W0.heap.size W0 wr

theorem enc_esc : ∀ qs : List Int, (Utf.enc qs).length ≤ 4 * (Lex.esc qs).length
  | [] => Nat.zero_le _
  | p :: qs => by
    have h1 := enc_esc qs
    have h2 := Utf.width_pos p
    have h3 := Utf.bytes_length p
    have h4 := Lex.escP_len p
    have e1 : Lex.esc (p :: qs) = Lex.escP p ++ Lex.esc qs := by simp [Lex.esc]
    rw [e1, Utf.enc_cons, List.length_append, List.length_append]; omega

theorem enc_snoc_cells (qs : List Int) (p : Int) : Lib.byteCells (Utf.enc (qs ++ [p])) = Lib.byteCells (Utf.enc qs) ++ Lib.byteCells (Utf.bytes p) := by rw [Utf.enc_snoc, Lib.byteCells_append]

set_option maxRecDepth 100000 in
set_option maxHeartbeats 16000000 in
theorem rquoted_walk (r : List UInt8) (hr : r.length ≤ 1000000) (w : World) :
    Calls Tryz.prog 49 #[.string ⟨(34 :: r).toArray⟩] w fun e w' => e = .returned (firstV (Lex.quoted (34 :: r))) ∧ Below w.heap.size w w' := by
  obtain ⟨i0, hi, hz0, hz1, hz2⟩ := info_parts (P := Tryz.prog) (e := 5) (z := .int .u8 0) (size := 1) (bytes := 1) (by kernel_rfl)
  obtain ⟨l, hl⟩ : ∃ l : List UInt8, l = 34 :: r := ⟨_, rfl⟩
  have hll : l.length = r.length + 1 := by rw [hl]; rfl
  have HL := Lib.hid hl
  have HLL := Lib.hid hll
  have hz : (⟨l.toArray⟩ : ByteArray).size = l.length := size_list _
  have hl9 : l.length ≤ 1000001 := by omega
  rw [← hl]
  have HR0 := Lib.hid (r3_new w)
  have HB0 := Lib.hid (below_w3 w (.cells #[.int .i64 0, .string ⟨#[]⟩, .int .i64 0] 32) (.cells #[.int .i64 0, .int .i64 0] 27) (.cells #[.int .i64 60, .int .i64 0] 27))
  have hz3 := size_w3 w (.cells #[.int .i64 0, .string ⟨#[]⟩, .int .i64 0] 32) (.cells #[.int .i64 0, .int .i64 0] 27) (.cells #[.int .i64 60, .int .i64 0] 27)
  clear hl hll
  go_enter Tryz.func49, Tryz.ntmps49
  go_wp2_with fail
  generalize hW : ((w.alloc (.cells #[.int .i64 0, .string ⟨#[]⟩, .int .i64 0] 32)).alloc (.cells #[.int .i64 0, .int .i64 0] 27)).alloc (.cells #[.int .i64 60, .int .i64 0] 27) = W0 at HR0 HB0 hz3 ⊢
  clear hW
  obtain ⟨h2, hh2⟩ : ∃ h2, h2 = w.heap.size + 1 + 1 := ⟨_, rfl⟩
  rw [← hh2] at HR0 ⊢
  obtain ⟨h1, hh1⟩ : ∃ h1, h1 = w.heap.size + 1 := ⟨_, rfl⟩
  rw [← hh1] at HR0 ⊢
  have n01 : w.heap.size ≠ h1 := by omega
  have n02 : w.heap.size ≠ h2 := by omega
  have n12 : h1 ≠ h2 := by omega
  have HZ1 : Hid (w.heap.size < h1 ∧ w.heap.size < W0.heap.size ∧ h1 < W0.heap.size ∧ h2 < W0.heap.size) := Lib.hid (by omega)
  clear hh1 hh2 hz3
  go_loopw [6, 7] (fun v ii wr => ∃ a : Nat, ii = .int .i64 ((1 + a : Nat) : Int) ∧ 1 + a ≤ l.length ∧ Hid (QInv r W0 wr v a))
    (fun _ ii _ => l.length - (intOf ii).toNat)
  case atStart => exact ⟨0, rfl, by rw [HLL.out]; omega, Lib.hid ⟨[], (fun p hp => by cases hp), rfl, rfl, World.ownsRow_nil _ _ _ _, Below.refl _ _⟩⟩
  case round =>
    obtain ⟨a, rfl, ha, HU⟩ := hrel
    obtain ⟨qs, hok, hrq, haq, hown, hb⟩ := HU.out
    have hel := enc_esc qs
    rw [← haq] at hel
    have HOK := Lib.hid hok
    have HRQ := Lib.hid hrq
    have HAQ := Lib.hid haq
    have HO := Lib.hid hown
    have HB := Lib.hid (HB0.out.trans (hb.mono (Nat.le_of_lt HZ1.out.2.1)))
    have HBW := Lib.hid hb
    have hbw := hb.size
    have hcv := conv_own hown
    have HR := Lib.hid (HR0.out.keep HZ1.out.2.1 HZ1.out.2.2.1 HZ1.out.2.2.2 hb)
    obtain ⟨n, hn⟩ : ∃ n, n = 1 + a := ⟨_, rfl⟩
    rw [← hn] at ha ⊢
    have HN := Lib.hid hn
    have hnl : (Utf.enc qs).length ≤ 4000000 := by have := HLL.out; omega
    -- how it ends
    have stop : ∀ (R : Except (Int × Nat) (Lex.Tok × Nat)), Lex.one (r.drop a) = none → Lex.finish (qs, r.drop a) = R → Hid (Lex.quoted l = R) := fun R h1 h2 => Lib.hid (by rw [HL.out]; exact (Lex.quoted_stop HOK.out HRQ.out h1).trans h2)
    clear hok hrq haq hown hb HU hn hel
    by_cases hlt : n < l.length
    · have hi1 : (n : Int) < (l.length : Int) := by omega
      have har : a < r.length := by have := HN.out; have := HLL.out; omega
      obtain ⟨c, hc⟩ : ∃ c, c = r[a]'har := ⟨_, rfl⟩
      obtain ⟨q, hq⟩ : ∃ q, q = r.drop (a + 1) := ⟨_, rfl⟩
      have hdr : r.drop a = c :: q := by rw [hc, hq]; exact List.drop_eq_getElem_cons har
      have hcl : l[n]'hlt = c := by
        have e := HN.out
        have e2 := HL.out
        subst e2
        subst e
        rw [hc, List.getElem_cons]
        simp [Nat.add_comm 1 a]
      have hidx : ∀ W, (Instr.index 9 (.string ⟨l.toArray⟩) (.int .i64 (n : Int))).run Tryz.prog W = .ok (.int .u8 c.toNat) W := fun W => by
        rw [← hcl]; exact index_byte ⟨l.toArray⟩ n (by omega) W
      have hdn : l.drop n = c :: q := by rw [HL.out, HN.out, Nat.add_comm, List.drop_succ_cons, hdr]
      have HDR := Lib.hid hdr
      have HDN := Lib.hid hdn
      have k34 : ((c.toNat : Int) == 34) = (c == 34) := byte_is c 34 (by decide)
      have k92 : ((c.toNat : Int) == 92) = (c == 92) := byte_is c 92 (by decide)
      have HON := Lib.hid (Lex.one_cons c q)
      rw [hdr] at stop
      clear hc hq hdr hcl hdn
      cases e34 : (c == 34)
      · rw [e34] at k34
        have n34 : c ≠ 34 := by simpa using e34
        by_cases h32 : c.toNat < 32
        · have k32 : (c.toNat : Int) < 32 := by omega
          have HF := stop (.error (60, 0)) (by rw [HON.out, if_pos (Or.inr h32)]) (by unfold Lex.finish; simp only; rw [if_neg n34, if_pos (Or.inl h32)])
          obtain ⟨l0, l1, l2, t0, t1, t2, f0, f1, b0, b1, z0, z1, z2, z3, z4⟩ := HR.out
          clear stop e34 n34 h32
          go_wp2_with fail
          go_region
          all_goals
            go_wp2
            refine bodyPost_ret (v := .tuple #[.agg #[.int .i64 0, .string ⟨#[]⟩, .int .i64 0], .int .i64 0, .agg #[.int .i64 60, .int .i64 0]]) (by simp [results, Tryz.results49, go_sem, t0, t1, t2, f0, f1]) rfl ?_
            exact ⟨by rw [HF.out]; rfl, (((((HB.out.setCell (p := ⟨w.heap.size, 0, none⟩) (Nat.le_refl _) _).setCell (p := ⟨w.heap.size, 1, none⟩) (Nat.le_refl _) _).setCell (p := ⟨w.heap.size, 2, none⟩) (Nat.le_refl _) _).setCell (p := ⟨h1, 0, none⟩) (Nat.le_of_lt HZ1.out.1) _).setCell (p := ⟨h1, 1, none⟩) (Nat.le_of_lt HZ1.out.1) _).drew⟩
        · have k32 : ¬ (c.toNat : Int) < 32 := by omega
          cases e92 : (c == 92)
          · rw [e92] at k92
            have n92 : c ≠ 92 := by simpa using e92
            have hsl : ∀ W, (Instr.slice 9 (.string ⟨l.toArray⟩) (some (.int .i64 (n : Int))) none none).run Tryz.prog W = .ok (.string ⟨(c :: q).toArray⟩) W := fun W => by
              have := slice_from (W := W) ⟨l.toArray⟩ n (by omega)
              rw [show (⟨l.toArray⟩ : ByteArray).data.toList = l from rfl, HDN.out] at this
              exact this
            have hcq : (c :: q).length + n = l.length := by have := congrArg List.length HDN.out; rw [List.length_drop] at this; omega
            rcases hf : Utf.first (c :: q) with ⟨p, k⟩
            have hdu : duo (p, k) = .tuple #[.int .i64 p, .int .i64 k] := rfl
            by_cases hk0 : k = 0
            · have hkd : ((k : Int) == 0) = true := by rw [beq_iff_eq]; omega
              have HF := stop (.error (30, n)) (by rw [HON.out, if_neg (by rintro (h | h); exact n34 h; exact h32 h), if_neg n92, if_pos (by rw [hf]; exact hk0)]) (by unfold Lex.finish; simp only; rw [if_neg n34, if_neg (by rintro (h | h); exact h32 h; exact n92 h), ← HAQ.out, HN.out, Nat.add_comm])
              clear stop e34 n34 h32 e92 n92 hk0 hcq
              go_wp2_with fail
              refine (rfirst_walk ⟨(c :: q).toArray⟩ (by rw [size_list]; have := congrArg List.length HDN.out; rw [List.length_drop] at this; omega) _).mono ?_
              rintro e w5 ⟨he, hb5⟩
              rw [show (⟨(c :: q).toArray⟩ : ByteArray).data.toList = c :: q from rfl, hf, hdu] at he
              subst he
              have HR5 := Lib.hid (HR.out.keep (Nat.lt_of_lt_of_le HZ1.out.2.1 hbw) (Nat.lt_of_lt_of_le HZ1.out.2.2.1 hbw) (Nat.lt_of_lt_of_le HZ1.out.2.2.2 hbw) hb5)
              have HB5 := Lib.hid (below_next HB.out hb5)
              obtain ⟨l0, l1, l2, t0, t1, t2, f0, f1, b0, b1, z0, z1, z2, z3, z4⟩ := HR5.out
              clear hf hdu hb5
              go_wp2
              refine bodyPost_ret (v := .tuple #[.agg #[.int .i64 0, .string ⟨#[]⟩, .int .i64 0], .int .i64 0, .agg #[.int .i64 30, .int .i64 (n : Int)]]) (by simp [results, Tryz.results49, go_sem, t0, t1, t2, f0, f1]) rfl ?_
              exact ⟨by rw [HF.out]; rfl, ((((HB5.out.setCell (p := ⟨w.heap.size, 0, none⟩) (Nat.le_refl _) _).setCell (p := ⟨w.heap.size, 1, none⟩) (Nat.le_refl _) _).setCell (p := ⟨w.heap.size, 2, none⟩) (Nat.le_refl _) _).setCell (p := ⟨h1, 0, none⟩) (Nat.le_of_lt HZ1.out.1) _).setCell (p := ⟨h1, 1, none⟩) (Nat.le_of_lt HZ1.out.1) _⟩
            · have hkd : ((k : Int) == 0) = false := by rw [beq_eq_false_iff_ne]; omega
              have hone : Lex.one (r.drop a) = some (p, k) := by rw [HDR.out, HON.out, if_neg (by rintro (h | h); exact n34 h; exact h32 h), if_neg n92, if_neg (by rw [hf]; exact hk0), hf]
              obtain ⟨m1, m2, m3, m4⟩ := Lex.quoted_step HOK.out HRQ.out HAQ.out hone
              obtain ⟨_, fw, fb, fl⟩ := Utf.first_some hf hk0
              have hbl := Utf.bytes_length p
              have HK := Lib.hid (And.intro m1 (And.intro m2 (And.intro m3 m4)))
              have hsl2 : ∀ W, (Instr.slice 9 (.string ⟨l.toArray⟩) (some (.int .i64 (n : Int))) (some (.int .i64 ((n : Int) + (k : Int)))) none).run Tryz.prog W = .ok (.string ⟨(Utf.bytes p).toArray⟩) W := fun W => by
                rw [slice_mid ⟨l.toArray⟩ n ((n : Int) + (k : Int)) (by omega) (by omega) W]
                have e : ((l.drop n).take (((n : Int) + (k : Int)).toNat - n)) = Utf.bytes p := by
                  rw [show ((n : Int) + (k : Int)).toNat - n = k by omega, HDN.out, fb, fw, ← hbl, List.take_left]
                exact congrArg (fun b => Result.ok (Value.string ⟨List.toArray b⟩) W) e
              have hkp : 1 ≤ k := by omega
              have hk4 : k ≤ 4 := by have := (Utf.width_pos p).2; omega
              have hnk : n + k ≤ l.length := by omega
              have hbs : (⟨(Utf.bytes p).toArray⟩ : ByteArray).size = k := by rw [size_list, hbl, fw]
              have HBL : Hid ((Utf.bytes p).length = k) := Lib.hid (by rw [hbl, fw])
              have HBS := Lib.hid hbs
              clear hone m1 m2 m3 m4 stop fw fb fl hbl e34 n34 h32 e92 n92 hk0 hcq hbs
              go_wp2_with fail
              refine (rfirst_walk ⟨(c :: q).toArray⟩ (by rw [size_list]; have := congrArg List.length HDN.out; rw [List.length_drop] at this; omega) _).mono ?_
              rintro e w5 ⟨he, hb5⟩
              rw [show (⟨(c :: q).toArray⟩ : ByteArray).data.toList = c :: q from rfl, hf, hdu] at he
              subst he
              have HO5 := Lib.hid (own_below HO.out hb5)
              have HB5 := Lib.hid (HBW.out.trans (hb5.mono hbw))
              have hb5s := HB5.out.size
              clear hf hdu hb5
              go_wp2_with (at_builtin; refine Lib.wpList_append_own_string _ rfl _ _ 53 9 rfl W0.heap.size 5 i0 Tryz.underlying53 Tryz.underlying9 hi hz0 hz1 hz2 _ _ _ rfl HO5.out ⟨(Utf.bytes p).toArray⟩ rfl (by rw [HBS.out]; unfold maxLen; omega) (by rw [HBS.out]; omega) hb5s ?_)
              intro v' w3 hown3 hgrow _
              have hb3 := HB5.out.grown hgrow hb5s (fun k hk => (HO5.out.lt k hk).1)
              have HU3 : Hid (QInv r W0 w3 v' (a + k)) := Lib.hid ⟨_, HK.out.1, HK.out.2.1, HK.out.2.2.1, by rw [enc_snoc_cells, Utf.enc_snoc, List.length_append, HBL.out, ← HBS.out]; exact hown3, hb3⟩
              clear hown3 hgrow hb3
              go_wp2
              go_roundw
              case rel => exact ⟨a + k, by rw [HN.out]; go_num, (by have := HK.out.2.2.2; have := HN.out; have := HLL.out; omega), HU3⟩
              case measure => simp [intOf]; omega
          · rw [e92] at k92
            have n92 : c = 92 := by simpa using e92
            cases q with
            | nil =>
              have hnl1 : ((n : Int) + 1 == (l.length : Int)) = true := by rw [beq_iff_eq]; have := congrArg List.length HDN.out; rw [List.length_drop] at this; simp only [List.length_cons, List.length_nil] at this; omega
              have HF := stop (.error (60, 0)) (by rw [HON.out, if_neg (by rintro (h | h); exact n34 h; exact h32 h), if_pos n92]) (by unfold Lex.finish; simp only; rw [if_neg n34, if_pos (Or.inr n92)])
              obtain ⟨l0, l1, l2, t0, t1, t2, f0, f1, b0, b1, z0, z1, z2, z3, z4⟩ := HR.out
              clear stop e34 n34 h32 e92 n92
              go_wp2_with fail
              go_region
              all_goals
                go_wp2
                refine bodyPost_ret (v := .tuple #[.agg #[.int .i64 0, .string ⟨#[]⟩, .int .i64 0], .int .i64 0, .agg #[.int .i64 60, .int .i64 0]]) (by simp [results, Tryz.results49, go_sem, t0, t1, t2, f0, f1]) rfl ?_
                exact ⟨by rw [HF.out]; rfl, (((((HB.out.setCell (p := ⟨w.heap.size, 0, none⟩) (Nat.le_refl _) _).setCell (p := ⟨w.heap.size, 1, none⟩) (Nat.le_refl _) _).setCell (p := ⟨w.heap.size, 2, none⟩) (Nat.le_refl _) _).setCell (p := ⟨h1, 0, none⟩) (Nat.le_of_lt HZ1.out.1) _).setCell (p := ⟨h1, 1, none⟩) (Nat.le_of_lt HZ1.out.1) _).drew⟩
            | cons d q2 =>
              have hd2 : n + 1 < l.length := by have := congrArg List.length HDN.out; rw [List.length_drop] at this; simp only [List.length_cons] at this; omega
              have hnl1 : ((n : Int) + 1 == (l.length : Int)) = false := by rw [beq_eq_false_iff_ne]; omega
              have hi2 : (n : Int) + 1 < (l.length : Int) := by omega
              have hidx2 : ∀ W, (Instr.index 9 (.string ⟨l.toArray⟩) (.int .i64 ((n : Int) + 1))).run Tryz.prog W = .ok (.int .u8 d.toNat) W := fun W => by
                have h1 := index_byte ⟨l.toArray⟩ (n + 1) (by omega) W
                have h2 : l[n + 1]'hd2 = d := by
                  have : (l.drop n)[1]? = some d := by rw [HDN.out]; rfl
                  rw [List.getElem?_drop, List.getElem?_eq_getElem hd2] at this
                  exact Option.some.inj this
                rw [← h2]; exact h1
              have d110 : ((d.toNat : Int) == 110) = (d == 110) := byte_is d 110 (by decide)
              have d116 : ((d.toNat : Int) == 116) = (d == 116) := byte_is d 116 (by decide)
              have d34 : ((d.toNat : Int) == 34) = (d == 34) := byte_is d 34 (by decide)
              have d92 : ((d.toNat : Int) == 92) = (d == 92) := byte_is d 92 (by decide)
              have hone0 : Lex.one (c :: d :: q2) = if d = 110 then some (10, 2) else if d = 116 then some (9, 2) else if d = 34 then some (34, 2) else if d = 92 then some (92, 2) else none := by rw [HON.out, if_neg (by rintro (h | h); exact n34 h; exact h32 h), if_pos n92]
              have HE := Lib.hid hone0
              have HFI : Hid (Lex.finish (qs, c :: d :: q2) = .error (60, 0)) := Lib.hid (by unfold Lex.finish; simp only; rw [if_neg n34, if_pos (Or.inr n92)])
              clear e34 n34 h32 e92 n92 hone0
              cases g110 : (d == 110)
              · rw [g110] at d110
                cases g116 : (d == 116)
                · rw [g116] at d116
                  cases g34 : (d == 34)
                  · rw [g34] at d34
                    cases g92 : (d == 92)
                    · rw [g92] at d92
                      have HF := stop (.error (60, 0)) (by rw [HE.out, if_neg (by simpa using g110), if_neg (by simpa using g116), if_neg (by simpa using g34), if_neg (by simpa using g92)]) (HFI.out)
                      obtain ⟨l0, l1, l2, t0, t1, t2, f0, f1, b0, b1, z0, z1, z2, z3, z4⟩ := HR.out
                      clear stop g110 g116 g34 g92
                      go_wp2_with fail
                      go_region
                      all_goals
                        go_wp2
                        refine bodyPost_ret (v := .tuple #[.agg #[.int .i64 0, .string ⟨#[]⟩, .int .i64 0], .int .i64 0, .agg #[.int .i64 60, .int .i64 0]]) (by simp [results, Tryz.results49, go_sem, t0, t1, t2, f0, f1]) rfl ?_
                        exact ⟨by rw [HF.out]; rfl, (((((HB.out.setCell (p := ⟨w.heap.size, 0, none⟩) (Nat.le_refl _) _).setCell (p := ⟨w.heap.size, 1, none⟩) (Nat.le_refl _) _).setCell (p := ⟨w.heap.size, 2, none⟩) (Nat.le_refl _) _).setCell (p := ⟨h1, 0, none⟩) (Nat.le_of_lt HZ1.out.1) _).setCell (p := ⟨h1, 1, none⟩) (Nat.le_of_lt HZ1.out.1) _).drew⟩
                    · rw [g92] at d92
                      have HD : Hid (d = 92) := Lib.hid (by simpa using g92)
                      have hone : Lex.one (r.drop a) = some (92, 2) := by rw [HDR.out, HE.out, if_neg (by simpa using g110), if_neg (by simpa using g116), if_neg (by simpa using g34), if_pos (by simpa using g92)]
                      obtain ⟨k1, k2, k3, k4⟩ := Lex.quoted_step HOK.out HRQ.out HAQ.out hone
                      have HK := Lib.hid (And.intro k1 (And.intro k2 (And.intro k3 k4)))
                      clear hone k1 k2 k3 k4 stop g110 g116 g34 g92
                      go_wp2_with (at_builtin; refine wpList_append_own _ rfl _ _ 53 rfl W0.heap.size 5 i0 (.int .u8 0) 1 1 Tryz.underlying53 hi hz0 hz1 hz2 rfl (by decide) _ _ _ rfl (HO.out.alloc _) ⟨wr.heap.size, 0, none⟩ 1 1 [.int .u8 (d.toNat : Int)] rfl rfl (World.news_of_block (heap_alloc_new wr _)) (by intro u hu; simp at hu; subst hu; rfl) (by unfold maxLen; omega) (by omega) (by simp; omega) ?_)
                      intro v' w3 hown3 hgrow _
                      have hb3 := (HBW.out.alloc hbw (.cells #[.int .u8 (d.toNat : Int)] 5)).grown hgrow (by simp; omega) (fun k hk => (HO.out.lt k hk).1)
                      have HU3 : Hid (QInv r W0 w3 v' (a + 2)) := Lib.hid ⟨_, HK.out.1, HK.out.2.1, HK.out.2.2.1, by rw [enc_snoc_cells, Utf.enc_snoc, List.length_append]; rw [HD.out] at hown3; exact hown3, hb3⟩
                      clear hown3 hgrow hb3
                      go_wp2
                      go_roundw
                      case rel => exact ⟨a + 2, by rw [HN.out]; go_num, (by have := HK.out.2.2.2; have := HN.out; have := HLL.out; omega), HU3⟩
                      case measure => simp [intOf]; omega
                  · rw [g34] at d34
                    have HD : Hid (d = 34) := Lib.hid (by simpa using g34)
                    have hone : Lex.one (r.drop a) = some (34, 2) := by rw [HDR.out, HE.out, if_neg (by simpa using g110), if_neg (by simpa using g116), if_pos (by simpa using g34)]
                    obtain ⟨k1, k2, k3, k4⟩ := Lex.quoted_step HOK.out HRQ.out HAQ.out hone
                    have HK := Lib.hid (And.intro k1 (And.intro k2 (And.intro k3 k4)))
                    clear hone k1 k2 k3 k4 stop g110 g116 g34
                    go_wp2_with (at_builtin; refine wpList_append_own _ rfl _ _ 53 rfl W0.heap.size 5 i0 (.int .u8 0) 1 1 Tryz.underlying53 hi hz0 hz1 hz2 rfl (by decide) _ _ _ rfl (HO.out.alloc _) ⟨wr.heap.size, 0, none⟩ 1 1 [.int .u8 (d.toNat : Int)] rfl rfl (World.news_of_block (heap_alloc_new wr _)) (by intro u hu; simp at hu; subst hu; rfl) (by unfold maxLen; omega) (by omega) (by simp; omega) ?_)
                    intro v' w3 hown3 hgrow _
                    have hb3 := (HBW.out.alloc hbw (.cells #[.int .u8 (d.toNat : Int)] 5)).grown hgrow (by simp; omega) (fun k hk => (HO.out.lt k hk).1)
                    have HU3 : Hid (QInv r W0 w3 v' (a + 2)) := Lib.hid ⟨_, HK.out.1, HK.out.2.1, HK.out.2.2.1, by rw [enc_snoc_cells, Utf.enc_snoc, List.length_append]; rw [HD.out] at hown3; exact hown3, hb3⟩
                    clear hown3 hgrow hb3
                    go_wp2
                    go_roundw
                    case rel => exact ⟨a + 2, by rw [HN.out]; go_num, (by have := HK.out.2.2.2; have := HN.out; have := HLL.out; omega), HU3⟩
                    case measure => simp [intOf]; omega
                · rw [g116] at d116
                  have hone : Lex.one (r.drop a) = some (9, 2) := by rw [HDR.out, HE.out, if_neg (by simpa using g110), if_pos (by simpa using g116)]
                  obtain ⟨k1, k2, k3, k4⟩ := Lex.quoted_step HOK.out HRQ.out HAQ.out hone
                  have HK := Lib.hid (And.intro k1 (And.intro k2 (And.intro k3 k4)))
                  clear hone k1 k2 k3 k4 stop g110 g116 d34 d92
                  go_wp2_with (at_builtin; refine wpList_append_own _ rfl _ _ 53 rfl W0.heap.size 5 i0 (.int .u8 0) 1 1 Tryz.underlying53 hi hz0 hz1 hz2 rfl (by decide) _ _ _ rfl (HO.out.alloc _) ⟨wr.heap.size, 0, none⟩ 1 1 [.int .u8 9] rfl rfl (World.news_of_block (heap_alloc_new wr _)) (by intro u hu; simp at hu; subst hu; rfl) (by unfold maxLen; omega) (by omega) (by simp; omega) ?_)
                  intro v' w3 hown3 hgrow _
                  have hb3 := (HBW.out.alloc hbw (.cells #[.int .u8 9] 5)).grown hgrow (by simp; omega) (fun k hk => (HO.out.lt k hk).1)
                  have HU3 : Hid (QInv r W0 w3 v' (a + 2)) := Lib.hid ⟨_, HK.out.1, HK.out.2.1, HK.out.2.2.1, by rw [enc_snoc_cells, Utf.enc_snoc, List.length_append]; exact hown3, hb3⟩
                  clear hown3 hgrow hb3
                  go_wp2
                  go_roundw
                  case rel => exact ⟨a + 2, by rw [HN.out]; go_num, (by have := HK.out.2.2.2; have := HN.out; have := HLL.out; omega), HU3⟩
                  case measure => simp [intOf]; omega
              · rw [g110] at d110
                have hone : Lex.one (r.drop a) = some (10, 2) := by rw [HDR.out, HE.out, if_pos (by simpa using g110)]
                obtain ⟨k1, k2, k3, k4⟩ := Lex.quoted_step HOK.out HRQ.out HAQ.out hone
                have HK := Lib.hid (And.intro k1 (And.intro k2 (And.intro k3 k4)))
                clear hone k1 k2 k3 k4 stop g110 d116 d34 d92
                go_wp2_with (at_builtin; refine wpList_append_own _ rfl _ _ 53 rfl W0.heap.size 5 i0 (.int .u8 0) 1 1 Tryz.underlying53 hi hz0 hz1 hz2 rfl (by decide) _ _ _ rfl (HO.out.alloc _) ⟨wr.heap.size, 0, none⟩ 1 1 [.int .u8 10] rfl rfl (World.news_of_block (heap_alloc_new wr _)) (by intro u hu; simp at hu; subst hu; rfl) (by unfold maxLen; omega) (by omega) (by simp; omega) ?_)
                intro v' w3 hown3 hgrow _
                have hb3 := (HBW.out.alloc hbw (.cells #[.int .u8 10] 5)).grown hgrow (by simp; omega) (fun k hk => (HO.out.lt k hk).1)
                have HU3 : Hid (QInv r W0 w3 v' (a + 2)) := Lib.hid ⟨_, HK.out.1, HK.out.2.1, HK.out.2.2.1, by rw [enc_snoc_cells, Utf.enc_snoc, List.length_append]; exact hown3, hb3⟩
                clear hown3 hgrow hb3
                go_wp2
                go_roundw
                case rel => exact ⟨a + 2, by rw [HN.out]; go_num, (by have := HK.out.2.2.2; have := HN.out; have := HLL.out; omega), HU3⟩
                case measure => simp [intOf]; omega
      · rw [e34] at k34
        have HF := stop (.ok (⟨4, Utf.enc qs⟩, n + 1)) (by rw [HON.out, if_pos (Or.inl (by simpa using e34))]) (by unfold Lex.finish; simp only; rw [if_pos (by simpa using e34), ← HAQ.out, show a + 2 = n + 1 by have := HN.out; omega])
        obtain ⟨l0, l1, l2, t0, t1, t2, f0, f1, b0, b1, z0, z1, z2, z3, z4⟩ := HR.out
        clear stop e34 k92
        obtain ⟨T, hT⟩ : ∃ T, T = Utf.enc qs := ⟨_, rfl⟩
        rw [← hT] at hcv HF
        clear hT
        go_wp2
        refine bodyPost_ret (v := .tuple #[.agg #[.int .i64 4, .string ⟨T.toArray⟩, .int .i64 0], .int .i64 ((n : Int) + 1), .agg #[.int .i64 0, .int .i64 0]]) (by simp [results, Tryz.results49, go_sem, t0, t1, t2, f0, f1]) rfl ?_
        exact ⟨by rw [HF.out]; rfl, ((((HB.out.setCell (p := ⟨w.heap.size, 0, none⟩) (Nat.le_refl _) _).setCell (p := ⟨w.heap.size, 1, none⟩) (Nat.le_refl _) _).setCell (p := ⟨w.heap.size, 2, none⟩) (Nat.le_refl _) _).setCell (p := ⟨h1, 0, none⟩) (Nat.le_of_lt HZ1.out.1) _).setCell (p := ⟨h1, 1, none⟩) (Nat.le_of_lt HZ1.out.1) _⟩
    · have hi1 : ¬ (n : Int) < (l.length : Int) := by omega
      have hd0 : r.drop a = [] := List.drop_eq_nil_of_le (by have := HN.out; have := HLL.out; omega)
      have HF := stop (.error (60, 0)) (by rw [hd0]; rfl) (by rw [hd0]; rfl)
      obtain ⟨l0, l1, l2, t0, t1, t2, f0, f1, b0, b1, z0, z1, z2, z3, z4⟩ := HR.out
      clear hd0 stop
      go_wp2_with fail
      go_region
      all_goals
        go_wp2
        refine bodyPost_ret (v := .tuple #[.agg #[.int .i64 0, .string ⟨#[]⟩, .int .i64 0], .int .i64 0, .agg #[.int .i64 60, .int .i64 0]]) (by simp [results, Tryz.results49, go_sem, t0, t1, t2, f0, f1]) rfl ?_
        exact ⟨by rw [HF.out]; rfl, (((((HB.out.setCell (p := ⟨w.heap.size, 0, none⟩) (Nat.le_refl _) _).setCell (p := ⟨w.heap.size, 1, none⟩) (Nat.le_refl _) _).setCell (p := ⟨w.heap.size, 2, none⟩) (Nat.le_refl _) _).setCell (p := ⟨h1, 0, none⟩) (Nat.le_of_lt HZ1.out.1) _).setCell (p := ⟨h1, 1, none⟩) (Nat.le_of_lt HZ1.out.1) _).drew⟩
end Go.Proofs.YtebphmkefpaeaaaGreatDoor

/- The document's first of layer 6. -/
namespace Lex
theorem token_name {c : UInt8} {r T : List UInt8} (h : (small c || great c) = true) (hT : T = (c :: r).takeWhile nameB) : token (c :: r) = if isWord T then .ok (⟨5, T⟩, T.length) else if isName T then .ok (⟨1, T⟩, T.length) else if isUpper T then .ok (⟨2, T⟩, T.length) else .error (60, 0) := by
  subst hT; rw [token_cons, if_pos h]
theorem token_lump {c : UInt8} {r T : List UInt8} (h : (small c || great c) = false) (h2 : digit c = true) (hT : T = (c :: r).takeWhile lumpB) : token (c :: r) = if number T then .ok (⟨3, T⟩, T.length) else if (Sem.parse T).isSome then .ok (⟨7, T⟩, T.length) else .error (60, 0) := by
  subst hT; rw [token_cons, if_neg (by rw [h]; simp), if_pos h2]
theorem token_rest {c : UInt8} {r : List UInt8} (h : (small c || great c) = false) (h2 : digit c = false) : token (c :: r) = if c = 34 then quoted (c :: r) else if decide (2 ≤ (c :: r).length) && isSign ((c :: r).take 2) then .ok (⟨6, (c :: r).take 2⟩, 2)
    else if isSign [c] then .ok (⟨6, [c]⟩, 1) else .error (60, 0) := by
  rw [token_cons, if_neg (by rw [h]; simp), if_neg (by rw [h2]; simp)]
theorem lumpB_all (c : UInt8) : lumpB c = (small c || great c || digit c || c == 46 || c == 45) := rfl
end Lex
namespace Go.Proofs.YtebphmkefpaeaaaGreatDoor
open Go.RowKit
set_option linter.unusedVariables false

theorem sl_to (l : List UInt8) (n : Nat) (h : n ≤ l.length) (W : World) : (Instr.slice 9 (.string ⟨l.toArray⟩) none (some (.int .i64 (n : Int))) none).run Tryz.prog W = .ok (.string ⟨(l.take n).toArray⟩) W := by
  have := slice_to ⟨l.toArray⟩ (n : Int) (by omega) (by rw [size_list]; omega) W
  rw [Int.toNat_natCast] at this
  exact this

theorem lbyte_46 (c : UInt8) : ((c.toNat : Int) == 46) = (c == 46) := byte_is c 46 (by decide)
theorem lbyte_45 (c : UInt8) : ((c.toNat : Int) == 45) = (c == 45) := byte_is c 45 (by decide)

set_option maxRecDepth 100000 in
set_option maxHeartbeats 16000000 in
theorem first_small (c : UInt8) (l r : List UInt8) (hl9 : l.length ≤ 1000000) (HL : Hid (l = c :: r)) (s1 : Lex.small c = true) (w : World) :
    Calls Tryz.prog 33 #[.string ⟨l.toArray⟩] w fun e w' => e = .returned (firstV (Lex.token l)) ∧ Below w.heap.size w w' := by
  have HT : Hid (∀ T, T = l.takeWhile Lex.nameB → Lex.token l = if Lex.isWord T then .ok (⟨5, T⟩, T.length) else if Lex.isName T then .ok (⟨1, T⟩, T.length) else if Lex.isUpper T then .ok (⟨2, T⟩, T.length) else .error (60, 0)) := Lib.hid (fun T hT => by rw [HL.out] at hT ⊢; exact Lex.token_name (by rw [s1]; rfl) hT)
  obtain ⟨htl, htt⟩ := Lex.tw_len Lex.nameB l
  have hz : (⟨l.toArray⟩ : ByteArray).size = l.length := size_list _
  have hidx0 : ∀ W, (Instr.index 9 (.string ⟨l.toArray⟩) (.int .i64 0)).run Tryz.prog W = .ok (.int .u8 c.toNat) W := fun W => by rw [HL.out]; rfl
  have HR0 := Lib.hid (r3_new w)
  have HB0 := Lib.hid (below_w3 w (.cells #[.int .i64 0, .string ⟨#[]⟩, .int .i64 0] 32) (.cells #[.int .i64 0, .int .i64 0] 27) (.cells #[.int .i64 60, .int .i64 0] 27))
  go_enter Tryz.func33, Tryz.ntmps33
  go_wp2_with fail
  generalize hW : ((w.alloc (.cells #[.int .i64 0, .string ⟨#[]⟩, .int .i64 0] 32)).alloc (.cells #[.int .i64 0, .int .i64 0] 27)).alloc (.cells #[.int .i64 60, .int .i64 0] 27) = W0 at HR0 HB0 ⊢
  clear hW
  obtain ⟨h2, hh2⟩ : ∃ h2, h2 = w.heap.size + 1 + 1 := ⟨_, rfl⟩
  rw [← hh2] at HR0 ⊢
  obtain ⟨h1, hh1⟩ : ∃ h1, h1 = w.heap.size + 1 := ⟨_, rfl⟩
  rw [← hh1] at HR0 ⊢
  have n01 : w.heap.size ≠ h1 := by omega
  have n02 : w.heap.size ≠ h2 := by omega
  have n12 : h1 ≠ h2 := by omega
  have HZ1 : Hid (w.heap.size < h1) := Lib.hid (by omega)
  clear hh1 hh2
  go_wp2_with fail
  refine (lsmall_walk c _).mono ?_
  rintro e wy ⟨rfl, rfl⟩
  rw [s1]
  go_wp2_with fail
  refine (lrest_walk l hl9 _).mono ?_
  rintro e wy ⟨rfl, rfl⟩
  obtain ⟨T, hT⟩ : ∃ T, T = l.takeWhile Lex.nameB := ⟨_, rfl⟩
  have HTT := Lib.hid (HT.out T hT)
  rw [← hT] at htl htt ⊢
  have hsl : ∀ W, (Instr.slice 9 (.string ⟨l.toArray⟩) none (some (.int .i64 (T.length : Int))) none).run Tryz.prog W = .ok (.string ⟨T.toArray⟩) W := fun W => by
    rw [sl_to l T.length htl W, htt]
  have hT9 : T.length ≤ 1000000 := by omega
  clear hT htt HT
  cases g1 : Lex.isWord T
  · go_wp2_with fail
    refine (lword_walk T _).mono ?_
    rintro e w11 ⟨rfl, hbx⟩
    have HR1 := Lib.hid (HR0.out.keep HR0.out.l0 HR0.out.l1 HR0.out.l2 hbx)
    have HB1 := Lib.hid (below_next HB0.out hbx)
    clear hbx
    rw [g1]
    cases g2 : Lex.isName T
    · go_wp2_with fail
      refine (lname_walk T (by omega) _).mono ?_
      rintro e w12 ⟨rfl, hbx⟩
      have HR2 := Lib.hid (HR1.out.keep HR1.out.l0 HR1.out.l1 HR1.out.l2 hbx)
      have HB2 := Lib.hid (below_next HB1.out hbx)
      clear hbx
      rw [g2]
      cases g3 : Lex.isUpper T
      · go_wp2_with fail
        refine (lupper_walk T (by omega) _).mono ?_
        rintro e w13 ⟨rfl, hbx⟩
        have HR3 := Lib.hid (HR2.out.keep HR2.out.l0 HR2.out.l1 HR2.out.l2 hbx)
        have HB3 := Lib.hid (below_next HB2.out hbx)
        clear hbx
        rw [g3]
        have HF : Hid (Lex.token l = .error (60, 0)) := Lib.hid (by rw [HTT.out, g1, g2, g3]; rfl)
        obtain ⟨l0, l1, l2, t0, t1, t2, f0, f1, b0, b1, z0, z1, z2, z3, z4⟩ := HR3.out
        go_wp2_with fail
        go_region
        all_goals
          go_wp2
          refine bodyPost_ret (v := .tuple #[.agg #[.int .i64 0, .string ⟨#[]⟩, .int .i64 0], .int .i64 0, .agg #[.int .i64 60, .int .i64 0]]) (by simp [results, Tryz.results33, go_sem, t0, t1, t2, f0, f1]) rfl ?_
          exact ⟨by rw [HF.out]; rfl, (((((HB3.out.setCell (p := ⟨w.heap.size, 0, none⟩) (Nat.le_refl _) _).setCell (p := ⟨w.heap.size, 1, none⟩) (Nat.le_refl _) _).setCell (p := ⟨w.heap.size, 2, none⟩) (Nat.le_refl _) _).setCell (p := ⟨h1, 0, none⟩) (Nat.le_of_lt HZ1.out) _).setCell (p := ⟨h1, 1, none⟩) (Nat.le_of_lt HZ1.out) _).drew⟩
      · go_wp2_with fail
        refine (lupper_walk T (by omega) _).mono ?_
        rintro e w13 ⟨rfl, hbx⟩
        have HR3 := Lib.hid (HR2.out.keep HR2.out.l0 HR2.out.l1 HR2.out.l2 hbx)
        have HB3 := Lib.hid (below_next HB2.out hbx)
        clear hbx
        rw [g3]
        have HF : Hid (Lex.token l = .ok (⟨2, T⟩, T.length)) := Lib.hid (by rw [HTT.out, g1, g2, g3]; rfl)
        obtain ⟨l0, l1, l2, t0, t1, t2, f0, f1, b0, b1, z0, z1, z2, z3, z4⟩ := HR3.out
        go_wp2
        refine bodyPost_ret (v := .tuple #[.agg #[.int .i64 2, .string ⟨(T).toArray⟩, .int .i64 0], .int .i64 ((T.length : Nat) : Int), .agg #[.int .i64 0, .int .i64 0]]) (by simp [results, Tryz.results33, go_sem, t0, t1, t2, f0, f1]) rfl ?_
        exact ⟨by rw [HF.out]; rfl, ((((HB3.out.setCell (p := ⟨w.heap.size, 0, none⟩) (Nat.le_refl _) _).setCell (p := ⟨w.heap.size, 1, none⟩) (Nat.le_refl _) _).setCell (p := ⟨w.heap.size, 2, none⟩) (Nat.le_refl _) _).setCell (p := ⟨h1, 0, none⟩) (Nat.le_of_lt HZ1.out) _).setCell (p := ⟨h1, 1, none⟩) (Nat.le_of_lt HZ1.out) _⟩
    · go_wp2_with fail
      refine (lname_walk T (by omega) _).mono ?_
      rintro e w12 ⟨rfl, hbx⟩
      have HR2 := Lib.hid (HR1.out.keep HR1.out.l0 HR1.out.l1 HR1.out.l2 hbx)
      have HB2 := Lib.hid (below_next HB1.out hbx)
      clear hbx
      rw [g2]
      have HF : Hid (Lex.token l = .ok (⟨1, T⟩, T.length)) := Lib.hid (by rw [HTT.out, g1, g2]; rfl)
      obtain ⟨l0, l1, l2, t0, t1, t2, f0, f1, b0, b1, z0, z1, z2, z3, z4⟩ := HR2.out
      go_wp2
      refine bodyPost_ret (v := .tuple #[.agg #[.int .i64 1, .string ⟨(T).toArray⟩, .int .i64 0], .int .i64 ((T.length : Nat) : Int), .agg #[.int .i64 0, .int .i64 0]]) (by simp [results, Tryz.results33, go_sem, t0, t1, t2, f0, f1]) rfl ?_
      exact ⟨by rw [HF.out]; rfl, ((((HB2.out.setCell (p := ⟨w.heap.size, 0, none⟩) (Nat.le_refl _) _).setCell (p := ⟨w.heap.size, 1, none⟩) (Nat.le_refl _) _).setCell (p := ⟨w.heap.size, 2, none⟩) (Nat.le_refl _) _).setCell (p := ⟨h1, 0, none⟩) (Nat.le_of_lt HZ1.out) _).setCell (p := ⟨h1, 1, none⟩) (Nat.le_of_lt HZ1.out) _⟩
  · go_wp2_with fail
    refine (lword_walk T _).mono ?_
    rintro e w11 ⟨rfl, hbx⟩
    have HR1 := Lib.hid (HR0.out.keep HR0.out.l0 HR0.out.l1 HR0.out.l2 hbx)
    have HB1 := Lib.hid (below_next HB0.out hbx)
    clear hbx
    rw [g1]
    have HF : Hid (Lex.token l = .ok (⟨5, T⟩, T.length)) := Lib.hid (by rw [HTT.out, g1]; rfl)
    obtain ⟨l0, l1, l2, t0, t1, t2, f0, f1, b0, b1, z0, z1, z2, z3, z4⟩ := HR1.out
    go_wp2
    refine bodyPost_ret (v := .tuple #[.agg #[.int .i64 5, .string ⟨(T).toArray⟩, .int .i64 0], .int .i64 ((T.length : Nat) : Int), .agg #[.int .i64 0, .int .i64 0]]) (by simp [results, Tryz.results33, go_sem, t0, t1, t2, f0, f1]) rfl ?_
    exact ⟨by rw [HF.out]; rfl, ((((HB1.out.setCell (p := ⟨w.heap.size, 0, none⟩) (Nat.le_refl _) _).setCell (p := ⟨w.heap.size, 1, none⟩) (Nat.le_refl _) _).setCell (p := ⟨w.heap.size, 2, none⟩) (Nat.le_refl _) _).setCell (p := ⟨h1, 0, none⟩) (Nat.le_of_lt HZ1.out) _).setCell (p := ⟨h1, 1, none⟩) (Nat.le_of_lt HZ1.out) _⟩

set_option maxRecDepth 100000 in
set_option maxHeartbeats 16000000 in
theorem first_great (c : UInt8) (l r : List UInt8) (hl9 : l.length ≤ 1000000) (HL : Hid (l = c :: r)) (s1 : Lex.small c = false) (s2 : Lex.great c = true) (w : World) :
    Calls Tryz.prog 33 #[.string ⟨l.toArray⟩] w fun e w' => e = .returned (firstV (Lex.token l)) ∧ Below w.heap.size w w' := by
  have HT : Hid (∀ T, T = l.takeWhile Lex.nameB → Lex.token l = if Lex.isWord T then .ok (⟨5, T⟩, T.length) else if Lex.isName T then .ok (⟨1, T⟩, T.length) else if Lex.isUpper T then .ok (⟨2, T⟩, T.length) else .error (60, 0)) := Lib.hid (fun T hT => by rw [HL.out] at hT ⊢; exact Lex.token_name (by rw [s2]; simp) hT)
  obtain ⟨htl, htt⟩ := Lex.tw_len Lex.nameB l
  have hz : (⟨l.toArray⟩ : ByteArray).size = l.length := size_list _
  have hidx0 : ∀ W, (Instr.index 9 (.string ⟨l.toArray⟩) (.int .i64 0)).run Tryz.prog W = .ok (.int .u8 c.toNat) W := fun W => by rw [HL.out]; rfl
  have HR0 := Lib.hid (r3_new w)
  have HB0 := Lib.hid (below_w3 w (.cells #[.int .i64 0, .string ⟨#[]⟩, .int .i64 0] 32) (.cells #[.int .i64 0, .int .i64 0] 27) (.cells #[.int .i64 60, .int .i64 0] 27))
  go_enter Tryz.func33, Tryz.ntmps33
  go_wp2_with fail
  generalize hW : ((w.alloc (.cells #[.int .i64 0, .string ⟨#[]⟩, .int .i64 0] 32)).alloc (.cells #[.int .i64 0, .int .i64 0] 27)).alloc (.cells #[.int .i64 60, .int .i64 0] 27) = W0 at HR0 HB0 ⊢
  clear hW
  obtain ⟨h2, hh2⟩ : ∃ h2, h2 = w.heap.size + 1 + 1 := ⟨_, rfl⟩
  rw [← hh2] at HR0 ⊢
  obtain ⟨h1, hh1⟩ : ∃ h1, h1 = w.heap.size + 1 := ⟨_, rfl⟩
  rw [← hh1] at HR0 ⊢
  have n01 : w.heap.size ≠ h1 := by omega
  have n02 : w.heap.size ≠ h2 := by omega
  have n12 : h1 ≠ h2 := by omega
  have HZ1 : Hid (w.heap.size < h1) := Lib.hid (by omega)
  clear hh1 hh2
  go_wp2_with fail
  refine (lsmall_walk c _).mono ?_
  rintro e wy ⟨rfl, rfl⟩
  rw [s1]
  go_wp2_with fail
  refine (lgreat_walk c _).mono ?_
  rintro e wy ⟨rfl, rfl⟩
  rw [s2]
  go_wp2_with fail
  refine (lrest_walk l hl9 _).mono ?_
  rintro e wy ⟨rfl, rfl⟩
  obtain ⟨T, hT⟩ : ∃ T, T = l.takeWhile Lex.nameB := ⟨_, rfl⟩
  have HTT := Lib.hid (HT.out T hT)
  rw [← hT] at htl htt ⊢
  have hsl : ∀ W, (Instr.slice 9 (.string ⟨l.toArray⟩) none (some (.int .i64 (T.length : Int))) none).run Tryz.prog W = .ok (.string ⟨T.toArray⟩) W := fun W => by
    rw [sl_to l T.length htl W, htt]
  have hT9 : T.length ≤ 1000000 := by omega
  clear hT htt HT
  cases g1 : Lex.isWord T
  · go_wp2_with fail
    refine (lword_walk T _).mono ?_
    rintro e w11 ⟨rfl, hbx⟩
    have HR1 := Lib.hid (HR0.out.keep HR0.out.l0 HR0.out.l1 HR0.out.l2 hbx)
    have HB1 := Lib.hid (below_next HB0.out hbx)
    clear hbx
    rw [g1]
    cases g2 : Lex.isName T
    · go_wp2_with fail
      refine (lname_walk T (by omega) _).mono ?_
      rintro e w12 ⟨rfl, hbx⟩
      have HR2 := Lib.hid (HR1.out.keep HR1.out.l0 HR1.out.l1 HR1.out.l2 hbx)
      have HB2 := Lib.hid (below_next HB1.out hbx)
      clear hbx
      rw [g2]
      cases g3 : Lex.isUpper T
      · go_wp2_with fail
        refine (lupper_walk T (by omega) _).mono ?_
        rintro e w13 ⟨rfl, hbx⟩
        have HR3 := Lib.hid (HR2.out.keep HR2.out.l0 HR2.out.l1 HR2.out.l2 hbx)
        have HB3 := Lib.hid (below_next HB2.out hbx)
        clear hbx
        rw [g3]
        have HF : Hid (Lex.token l = .error (60, 0)) := Lib.hid (by rw [HTT.out, g1, g2, g3]; rfl)
        obtain ⟨l0, l1, l2, t0, t1, t2, f0, f1, b0, b1, z0, z1, z2, z3, z4⟩ := HR3.out
        go_wp2_with fail
        go_region
        all_goals
          go_wp2
          refine bodyPost_ret (v := .tuple #[.agg #[.int .i64 0, .string ⟨#[]⟩, .int .i64 0], .int .i64 0, .agg #[.int .i64 60, .int .i64 0]]) (by simp [results, Tryz.results33, go_sem, t0, t1, t2, f0, f1]) rfl ?_
          exact ⟨by rw [HF.out]; rfl, (((((HB3.out.setCell (p := ⟨w.heap.size, 0, none⟩) (Nat.le_refl _) _).setCell (p := ⟨w.heap.size, 1, none⟩) (Nat.le_refl _) _).setCell (p := ⟨w.heap.size, 2, none⟩) (Nat.le_refl _) _).setCell (p := ⟨h1, 0, none⟩) (Nat.le_of_lt HZ1.out) _).setCell (p := ⟨h1, 1, none⟩) (Nat.le_of_lt HZ1.out) _).drew⟩
      · go_wp2_with fail
        refine (lupper_walk T (by omega) _).mono ?_
        rintro e w13 ⟨rfl, hbx⟩
        have HR3 := Lib.hid (HR2.out.keep HR2.out.l0 HR2.out.l1 HR2.out.l2 hbx)
        have HB3 := Lib.hid (below_next HB2.out hbx)
        clear hbx
        rw [g3]
        have HF : Hid (Lex.token l = .ok (⟨2, T⟩, T.length)) := Lib.hid (by rw [HTT.out, g1, g2, g3]; rfl)
        obtain ⟨l0, l1, l2, t0, t1, t2, f0, f1, b0, b1, z0, z1, z2, z3, z4⟩ := HR3.out
        go_wp2
        refine bodyPost_ret (v := .tuple #[.agg #[.int .i64 2, .string ⟨(T).toArray⟩, .int .i64 0], .int .i64 ((T.length : Nat) : Int), .agg #[.int .i64 0, .int .i64 0]]) (by simp [results, Tryz.results33, go_sem, t0, t1, t2, f0, f1]) rfl ?_
        exact ⟨by rw [HF.out]; rfl, ((((HB3.out.setCell (p := ⟨w.heap.size, 0, none⟩) (Nat.le_refl _) _).setCell (p := ⟨w.heap.size, 1, none⟩) (Nat.le_refl _) _).setCell (p := ⟨w.heap.size, 2, none⟩) (Nat.le_refl _) _).setCell (p := ⟨h1, 0, none⟩) (Nat.le_of_lt HZ1.out) _).setCell (p := ⟨h1, 1, none⟩) (Nat.le_of_lt HZ1.out) _⟩
    · go_wp2_with fail
      refine (lname_walk T (by omega) _).mono ?_
      rintro e w12 ⟨rfl, hbx⟩
      have HR2 := Lib.hid (HR1.out.keep HR1.out.l0 HR1.out.l1 HR1.out.l2 hbx)
      have HB2 := Lib.hid (below_next HB1.out hbx)
      clear hbx
      rw [g2]
      have HF : Hid (Lex.token l = .ok (⟨1, T⟩, T.length)) := Lib.hid (by rw [HTT.out, g1, g2]; rfl)
      obtain ⟨l0, l1, l2, t0, t1, t2, f0, f1, b0, b1, z0, z1, z2, z3, z4⟩ := HR2.out
      go_wp2
      refine bodyPost_ret (v := .tuple #[.agg #[.int .i64 1, .string ⟨(T).toArray⟩, .int .i64 0], .int .i64 ((T.length : Nat) : Int), .agg #[.int .i64 0, .int .i64 0]]) (by simp [results, Tryz.results33, go_sem, t0, t1, t2, f0, f1]) rfl ?_
      exact ⟨by rw [HF.out]; rfl, ((((HB2.out.setCell (p := ⟨w.heap.size, 0, none⟩) (Nat.le_refl _) _).setCell (p := ⟨w.heap.size, 1, none⟩) (Nat.le_refl _) _).setCell (p := ⟨w.heap.size, 2, none⟩) (Nat.le_refl _) _).setCell (p := ⟨h1, 0, none⟩) (Nat.le_of_lt HZ1.out) _).setCell (p := ⟨h1, 1, none⟩) (Nat.le_of_lt HZ1.out) _⟩
  · go_wp2_with fail
    refine (lword_walk T _).mono ?_
    rintro e w11 ⟨rfl, hbx⟩
    have HR1 := Lib.hid (HR0.out.keep HR0.out.l0 HR0.out.l1 HR0.out.l2 hbx)
    have HB1 := Lib.hid (below_next HB0.out hbx)
    clear hbx
    rw [g1]
    have HF : Hid (Lex.token l = .ok (⟨5, T⟩, T.length)) := Lib.hid (by rw [HTT.out, g1]; rfl)
    obtain ⟨l0, l1, l2, t0, t1, t2, f0, f1, b0, b1, z0, z1, z2, z3, z4⟩ := HR1.out
    go_wp2
    refine bodyPost_ret (v := .tuple #[.agg #[.int .i64 5, .string ⟨(T).toArray⟩, .int .i64 0], .int .i64 ((T.length : Nat) : Int), .agg #[.int .i64 0, .int .i64 0]]) (by simp [results, Tryz.results33, go_sem, t0, t1, t2, f0, f1]) rfl ?_
    exact ⟨by rw [HF.out]; rfl, ((((HB1.out.setCell (p := ⟨w.heap.size, 0, none⟩) (Nat.le_refl _) _).setCell (p := ⟨w.heap.size, 1, none⟩) (Nat.le_refl _) _).setCell (p := ⟨w.heap.size, 2, none⟩) (Nat.le_refl _) _).setCell (p := ⟨h1, 0, none⟩) (Nat.le_of_lt HZ1.out) _).setCell (p := ⟨h1, 1, none⟩) (Nat.le_of_lt HZ1.out) _⟩

set_option maxRecDepth 100000 in
set_option maxHeartbeats 16000000 in
theorem first_lump (c : UInt8) (l r : List UInt8) (hl9 : l.length ≤ 1000000) (HL : Hid (l = c :: r)) (s1 : Lex.small c = false) (s2 : Lex.great c = false) (s3 : Lex.digit c = true) (w : World) :
    Calls Tryz.prog 33 #[.string ⟨l.toArray⟩] w fun e w' => e = .returned (firstV (Lex.token l)) ∧ Below w.heap.size w w' := by
  have HT : Hid (∀ T, T = l.takeWhile Lex.lumpB → Lex.token l = if Lex.number T then .ok (⟨3, T⟩, T.length) else if (Sem.parse T).isSome then .ok (⟨7, T⟩, T.length) else .error (60, 0)) := Lib.hid (fun T hT => by rw [HL.out] at hT ⊢; exact Lex.token_lump (by rw [s1, s2]; rfl) s3 hT)
  obtain ⟨htl, htt⟩ := Lex.tw_len Lex.lumpB l
  have hz : (⟨l.toArray⟩ : ByteArray).size = l.length := size_list _
  have hidx0 : ∀ W, (Instr.index 9 (.string ⟨l.toArray⟩) (.int .i64 0)).run Tryz.prog W = .ok (.int .u8 c.toNat) W := fun W => by rw [HL.out]; rfl
  have HR0 := Lib.hid (r3_new w)
  have HB0 := Lib.hid (below_w3 w (.cells #[.int .i64 0, .string ⟨#[]⟩, .int .i64 0] 32) (.cells #[.int .i64 0, .int .i64 0] 27) (.cells #[.int .i64 60, .int .i64 0] 27))
  go_enter Tryz.func33, Tryz.ntmps33
  go_wp2_with fail
  generalize hW : ((w.alloc (.cells #[.int .i64 0, .string ⟨#[]⟩, .int .i64 0] 32)).alloc (.cells #[.int .i64 0, .int .i64 0] 27)).alloc (.cells #[.int .i64 60, .int .i64 0] 27) = W0 at HR0 HB0 ⊢
  clear hW
  obtain ⟨h2, hh2⟩ : ∃ h2, h2 = w.heap.size + 1 + 1 := ⟨_, rfl⟩
  rw [← hh2] at HR0 ⊢
  obtain ⟨h1, hh1⟩ : ∃ h1, h1 = w.heap.size + 1 := ⟨_, rfl⟩
  rw [← hh1] at HR0 ⊢
  have n01 : w.heap.size ≠ h1 := by omega
  have n02 : w.heap.size ≠ h2 := by omega
  have n12 : h1 ≠ h2 := by omega
  have HZ1 : Hid (w.heap.size < h1) := Lib.hid (by omega)
  clear hh1 hh2
  go_wp2_with fail
  refine (lsmall_walk c _).mono ?_
  rintro e wy ⟨rfl, rfl⟩
  rw [s1]
  go_wp2_with fail
  refine (lgreat_walk c _).mono ?_
  rintro e wy ⟨rfl, rfl⟩
  rw [s2]
  go_wp2_with fail
  refine (ldigit_walk c _).mono ?_
  rintro e wy ⟨rfl, rfl⟩
  rw [s3]
  clear s1 s2 s3 hidx0
  go_wp2_with fail
  go_loopw [9] (fun ii wr => ∃ n : Nat, ii = .int .i64 n ∧ n ≤ l.length ∧ Hid (∀ j (hj : j < l.length), j < n → Lex.lumpB (l[j]'hj) = true) ∧ W0 = wr)
    (fun i _ => l.length - (intOf i).toNat)
  case atStart => exact ⟨0, rfl, Nat.zero_le _, Lib.hid (fun j _ hj => absurd hj (by omega)), rfl⟩
  case round =>
    obtain ⟨n, rfl, hn, HN, rfl⟩ := hrel
    have after : (∀ h : n < l.length, Lex.lumpB (l[n]'h) = false) → (l.takeWhile Lex.lumpB).length = n := fun h => Lex.tw_at hn HN.out h
    by_cases hlt : n < l.length
    · have hi1 : (n : Int) < (l.length : Int) := by omega
      obtain ⟨d, hd⟩ : ∃ d, d = l[n]'hlt := ⟨_, rfl⟩
      have hidx : ∀ W, (Instr.index 9 (.string ⟨l.toArray⟩) (.int .i64 (n : Int))).run Tryz.prog W = .ok (.int .u8 d.toNat) W := fun W => by
        rw [hd]; exact index_byte ⟨l.toArray⟩ n (by omega) W
      have HD := Lib.hid hd
      have d46 := lbyte_46 d
      have d45 := lbyte_45 d
      have HLB := Lib.hid (Lex.lumpB_all d)
      have more : Lex.lumpB d = true → Hid (∀ j (hj : j < l.length), j < n + 1 → Lex.lumpB (l[j]'hj) = true) := fun h => Lib.hid (fun j hj hji => by
        rcases Nat.lt_succ_iff_lt_or_eq.1 hji with h' | rfl
        · exact HN.out j hj h'
        · rw [← HD.out]; exact h)
      clear hd
      cases q0 : Lex.small d
      · cases q1 : Lex.great d
        · cases q2 : Lex.digit d
          · cases q3 : (d == 46)
            · cases q4 : (d == 45)
              · rw [q3] at d46
                rw [q4] at d45
                have hTn := after (fun _ => by rw [← HD.out]; exact (by rw [HLB.out, q0, q1, q2, q3, q4]; rfl))
                clear more
                go_wp2_with fail
                refine (lsmall_walk d _).mono ?_
                rintro e wy ⟨rfl, rfl⟩
                rw [q0]
                go_wp2_with fail
                refine (lgreat_walk d _).mono ?_
                rintro e wy ⟨rfl, rfl⟩
                rw [q1]
                go_wp2_with fail
                refine (ldigit_walk d _).mono ?_
                rintro e wy ⟨rfl, rfl⟩
                rw [q2]
                obtain ⟨T, hT⟩ : ∃ T, T = l.takeWhile Lex.lumpB := ⟨_, rfl⟩
                have HTT := Lib.hid (HT.out T hT)
                rw [← hT] at htl htt hTn
                have hsl : ∀ W, (Instr.slice 9 (.string ⟨l.toArray⟩) none (some (.int .i64 (n : Int))) none).run Tryz.prog W = .ok (.string ⟨T.toArray⟩) W := fun W => by
                  rw [← hTn, sl_to l T.length htl W, htt]
                have hT9 : T.length ≤ 1000000 := by omega
                have HTN := Lib.hid hTn
                clear hT htt HT hTn after
                obtain ⟨u, e0, hpu, hpe⟩ : ∃ (u : Sem.Ver) (e0 : Int), parseR (Sem.parse T) = .tuple #[verV u, .int .i64 e0] ∧ (e0 == 0) = (Sem.parse T).isSome := by
                  rcases hp : Sem.parse T with _ | v
                  · exact ⟨⟨0, 0, 0, []⟩, 40, rfl, rfl⟩
                  · exact ⟨v, 0, rfl, rfl⟩
                obtain ⟨ua, ub, uc, up⟩ := u
                have HP : Hid (parseR (Sem.parse T) = .tuple #[.agg #[.int .i64 ua, .int .i64 ub, .int .i64 uc, .string ⟨up.toArray⟩], .int .i64 e0]) := Lib.hid hpu
                have HE := Lib.hid hpe
                clear hpu hpe
                go_wp2_with fail
                refine (rparse_walk ⟨T.toArray⟩ (by rw [size_list]; omega) _).mono ?_
                rintro e w11 ⟨he, hbx⟩
                have HR1 := Lib.hid (HR0.out.keep HR0.out.l0 HR0.out.l1 HR0.out.l2 hbx)
                have HB1 := Lib.hid (below_next HB0.out hbx)
                clear hbx
                rw [show (⟨T.toArray⟩ : ByteArray).data.toList = T from rfl, HP.out] at he
                subst he
                have hba := below_one w11 (.cells #[.int .i64 ua, .int .i64 ub, .int .i64 uc, .string ⟨up.toArray⟩] 70)
                have HR2 := Lib.hid (HR1.out.keep HR1.out.l0 HR1.out.l1 HR1.out.l2 hba)
                have HB2 := Lib.hid (below_next HB1.out hba)
                clear hba
                cases g1 : Lex.number T
                · go_wp2_with fail
                  refine (lnumber_walk T hT9 _).mono ?_
                  rintro e wy ⟨rfl, rfl⟩
                  rw [g1]
                  cases g2 : (e0 == 0)
                  · have HF : Hid (Lex.token l = .error (60, 0)) := Lib.hid (by rw [HTT.out, g1, ← HE.out, g2]; rfl)
                    obtain ⟨l0, l1, l2, t0, t1, t2, f0, f1, b0, b1, z0, z1, z2, z3, z4⟩ := HR2.out
                    go_wp2_with fail
                    go_region
                    all_goals
                      go_wp2
                      refine bodyPost_ret (v := .tuple #[.agg #[.int .i64 0, .string ⟨#[]⟩, .int .i64 0], .int .i64 0, .agg #[.int .i64 60, .int .i64 0]]) (by simp [results, Tryz.results33, go_sem, t0, t1, t2, f0, f1]) rfl ?_
                      exact ⟨by rw [HF.out]; rfl, (((((HB2.out.setCell (p := ⟨w.heap.size, 0, none⟩) (Nat.le_refl _) _).setCell (p := ⟨w.heap.size, 1, none⟩) (Nat.le_refl _) _).setCell (p := ⟨w.heap.size, 2, none⟩) (Nat.le_refl _) _).setCell (p := ⟨h1, 0, none⟩) (Nat.le_of_lt HZ1.out) _).setCell (p := ⟨h1, 1, none⟩) (Nat.le_of_lt HZ1.out) _).drew⟩
                  · have HF : Hid (Lex.token l = .ok (⟨7, T⟩, n)) := Lib.hid (by rw [HTT.out, g1, ← HE.out, g2, HTN.out]; rfl)
                    obtain ⟨l0, l1, l2, t0, t1, t2, f0, f1, b0, b1, z0, z1, z2, z3, z4⟩ := HR2.out
                    go_wp2
                    refine bodyPost_ret (v := .tuple #[.agg #[.int .i64 7, .string ⟨(T).toArray⟩, .int .i64 0], .int .i64 ((n : Nat) : Int), .agg #[.int .i64 0, .int .i64 0]]) (by simp [results, Tryz.results33, go_sem, t0, t1, t2, f0, f1]) rfl ?_
                    exact ⟨by rw [HF.out]; rfl, ((((HB2.out.setCell (p := ⟨w.heap.size, 0, none⟩) (Nat.le_refl _) _).setCell (p := ⟨w.heap.size, 1, none⟩) (Nat.le_refl _) _).setCell (p := ⟨w.heap.size, 2, none⟩) (Nat.le_refl _) _).setCell (p := ⟨h1, 0, none⟩) (Nat.le_of_lt HZ1.out) _).setCell (p := ⟨h1, 1, none⟩) (Nat.le_of_lt HZ1.out) _⟩
                · go_wp2_with fail
                  refine (lnumber_walk T hT9 _).mono ?_
                  rintro e wy ⟨rfl, rfl⟩
                  rw [g1]
                  have HF : Hid (Lex.token l = .ok (⟨3, T⟩, n)) := Lib.hid (by rw [HTT.out, g1, HTN.out]; rfl)
                  obtain ⟨l0, l1, l2, t0, t1, t2, f0, f1, b0, b1, z0, z1, z2, z3, z4⟩ := HR2.out
                  go_wp2
                  refine bodyPost_ret (v := .tuple #[.agg #[.int .i64 3, .string ⟨(T).toArray⟩, .int .i64 0], .int .i64 ((n : Nat) : Int), .agg #[.int .i64 0, .int .i64 0]]) (by simp [results, Tryz.results33, go_sem, t0, t1, t2, f0, f1]) rfl ?_
                  exact ⟨by rw [HF.out]; rfl, ((((HB2.out.setCell (p := ⟨w.heap.size, 0, none⟩) (Nat.le_refl _) _).setCell (p := ⟨w.heap.size, 1, none⟩) (Nat.le_refl _) _).setCell (p := ⟨w.heap.size, 2, none⟩) (Nat.le_refl _) _).setCell (p := ⟨h1, 0, none⟩) (Nat.le_of_lt HZ1.out) _).setCell (p := ⟨h1, 1, none⟩) (Nat.le_of_lt HZ1.out) _⟩
              · rw [q3] at d46
                rw [q4] at d45
                have HM := more (by rw [HLB.out, q0, q1, q2, q3, q4]; rfl)
                clear more after
                go_wp2_with fail
                refine (lsmall_walk d _).mono ?_
                rintro e wy ⟨rfl, rfl⟩
                rw [q0]
                go_wp2_with fail
                refine (lgreat_walk d _).mono ?_
                rintro e wy ⟨rfl, rfl⟩
                rw [q1]
                go_wp2_with fail
                refine (ldigit_walk d _).mono ?_
                rintro e wy ⟨rfl, rfl⟩
                rw [q2]
                go_wp2
                go_roundw
                case rel => exact ⟨n + 1, by go_num, by omega, HM, trivial⟩
                case measure => simp [intOf]; omega
            · rw [q3] at d46
              have HM := more (by rw [HLB.out, q0, q1, q2, q3]; rfl)
              clear more after
              go_wp2_with fail
              refine (lsmall_walk d _).mono ?_
              rintro e wy ⟨rfl, rfl⟩
              rw [q0]
              go_wp2_with fail
              refine (lgreat_walk d _).mono ?_
              rintro e wy ⟨rfl, rfl⟩
              rw [q1]
              go_wp2_with fail
              refine (ldigit_walk d _).mono ?_
              rintro e wy ⟨rfl, rfl⟩
              rw [q2]
              go_wp2
              go_roundw
              case rel => exact ⟨n + 1, by go_num, by omega, HM, trivial⟩
              case measure => simp [intOf]; omega
          · have HM := more (by rw [HLB.out, q0, q1, q2]; rfl)
            clear more after
            go_wp2_with fail
            refine (lsmall_walk d _).mono ?_
            rintro e wy ⟨rfl, rfl⟩
            rw [q0]
            go_wp2_with fail
            refine (lgreat_walk d _).mono ?_
            rintro e wy ⟨rfl, rfl⟩
            rw [q1]
            go_wp2_with fail
            refine (ldigit_walk d _).mono ?_
            rintro e wy ⟨rfl, rfl⟩
            rw [q2]
            go_wp2
            go_roundw
            case rel => exact ⟨n + 1, by go_num, by omega, HM, trivial⟩
            case measure => simp [intOf]; omega
        · have HM := more (by rw [HLB.out, q0, q1]; rfl)
          clear more after
          go_wp2_with fail
          refine (lsmall_walk d _).mono ?_
          rintro e wy ⟨rfl, rfl⟩
          rw [q0]
          go_wp2_with fail
          refine (lgreat_walk d _).mono ?_
          rintro e wy ⟨rfl, rfl⟩
          rw [q1]
          go_wp2
          go_roundw
          case rel => exact ⟨n + 1, by go_num, by omega, HM, trivial⟩
          case measure => simp [intOf]; omega
      · have HM := more (by rw [HLB.out, q0]; rfl)
        clear more after
        go_wp2_with fail
        refine (lsmall_walk d _).mono ?_
        rintro e wy ⟨rfl, rfl⟩
        rw [q0]
        go_wp2
        go_roundw
        case rel => exact ⟨n + 1, by go_num, by omega, HM, trivial⟩
        case measure => simp [intOf]; omega
    · have hi1 : ¬ (n : Int) < (l.length : Int) := by omega
      have hTn := after (fun h => absurd h hlt)
      obtain ⟨T, hT⟩ : ∃ T, T = l.takeWhile Lex.lumpB := ⟨_, rfl⟩
      have HTT := Lib.hid (HT.out T hT)
      rw [← hT] at htl htt hTn
      have hsl : ∀ W, (Instr.slice 9 (.string ⟨l.toArray⟩) none (some (.int .i64 (n : Int))) none).run Tryz.prog W = .ok (.string ⟨T.toArray⟩) W := fun W => by
        rw [← hTn, sl_to l T.length htl W, htt]
      have hT9 : T.length ≤ 1000000 := by omega
      have HTN := Lib.hid hTn
      clear hT htt HT hTn after
      obtain ⟨u, e0, hpu, hpe⟩ : ∃ (u : Sem.Ver) (e0 : Int), parseR (Sem.parse T) = .tuple #[verV u, .int .i64 e0] ∧ (e0 == 0) = (Sem.parse T).isSome := by
        rcases hp : Sem.parse T with _ | v
        · exact ⟨⟨0, 0, 0, []⟩, 40, rfl, rfl⟩
        · exact ⟨v, 0, rfl, rfl⟩
      obtain ⟨ua, ub, uc, up⟩ := u
      have HP : Hid (parseR (Sem.parse T) = .tuple #[.agg #[.int .i64 ua, .int .i64 ub, .int .i64 uc, .string ⟨up.toArray⟩], .int .i64 e0]) := Lib.hid hpu
      have HE := Lib.hid hpe
      clear hpu hpe
      go_wp2_with fail
      refine (rparse_walk ⟨T.toArray⟩ (by rw [size_list]; omega) _).mono ?_
      rintro e w11 ⟨he, hbx⟩
      have HR1 := Lib.hid (HR0.out.keep HR0.out.l0 HR0.out.l1 HR0.out.l2 hbx)
      have HB1 := Lib.hid (below_next HB0.out hbx)
      clear hbx
      rw [show (⟨T.toArray⟩ : ByteArray).data.toList = T from rfl, HP.out] at he
      subst he
      have hba := below_one w11 (.cells #[.int .i64 ua, .int .i64 ub, .int .i64 uc, .string ⟨up.toArray⟩] 70)
      have HR2 := Lib.hid (HR1.out.keep HR1.out.l0 HR1.out.l1 HR1.out.l2 hba)
      have HB2 := Lib.hid (below_next HB1.out hba)
      clear hba
      cases g1 : Lex.number T
      · go_wp2_with fail
        refine (lnumber_walk T hT9 _).mono ?_
        rintro e wy ⟨rfl, rfl⟩
        rw [g1]
        cases g2 : (e0 == 0)
        · have HF : Hid (Lex.token l = .error (60, 0)) := Lib.hid (by rw [HTT.out, g1, ← HE.out, g2]; rfl)
          obtain ⟨l0, l1, l2, t0, t1, t2, f0, f1, b0, b1, z0, z1, z2, z3, z4⟩ := HR2.out
          go_wp2_with fail
          go_region
          all_goals
            go_wp2
            refine bodyPost_ret (v := .tuple #[.agg #[.int .i64 0, .string ⟨#[]⟩, .int .i64 0], .int .i64 0, .agg #[.int .i64 60, .int .i64 0]]) (by simp [results, Tryz.results33, go_sem, t0, t1, t2, f0, f1]) rfl ?_
            exact ⟨by rw [HF.out]; rfl, (((((HB2.out.setCell (p := ⟨w.heap.size, 0, none⟩) (Nat.le_refl _) _).setCell (p := ⟨w.heap.size, 1, none⟩) (Nat.le_refl _) _).setCell (p := ⟨w.heap.size, 2, none⟩) (Nat.le_refl _) _).setCell (p := ⟨h1, 0, none⟩) (Nat.le_of_lt HZ1.out) _).setCell (p := ⟨h1, 1, none⟩) (Nat.le_of_lt HZ1.out) _).drew⟩
        · have HF : Hid (Lex.token l = .ok (⟨7, T⟩, n)) := Lib.hid (by rw [HTT.out, g1, ← HE.out, g2, HTN.out]; rfl)
          obtain ⟨l0, l1, l2, t0, t1, t2, f0, f1, b0, b1, z0, z1, z2, z3, z4⟩ := HR2.out
          go_wp2
          refine bodyPost_ret (v := .tuple #[.agg #[.int .i64 7, .string ⟨(T).toArray⟩, .int .i64 0], .int .i64 ((n : Nat) : Int), .agg #[.int .i64 0, .int .i64 0]]) (by simp [results, Tryz.results33, go_sem, t0, t1, t2, f0, f1]) rfl ?_
          exact ⟨by rw [HF.out]; rfl, ((((HB2.out.setCell (p := ⟨w.heap.size, 0, none⟩) (Nat.le_refl _) _).setCell (p := ⟨w.heap.size, 1, none⟩) (Nat.le_refl _) _).setCell (p := ⟨w.heap.size, 2, none⟩) (Nat.le_refl _) _).setCell (p := ⟨h1, 0, none⟩) (Nat.le_of_lt HZ1.out) _).setCell (p := ⟨h1, 1, none⟩) (Nat.le_of_lt HZ1.out) _⟩
      · go_wp2_with fail
        refine (lnumber_walk T hT9 _).mono ?_
        rintro e wy ⟨rfl, rfl⟩
        rw [g1]
        have HF : Hid (Lex.token l = .ok (⟨3, T⟩, n)) := Lib.hid (by rw [HTT.out, g1, HTN.out]; rfl)
        obtain ⟨l0, l1, l2, t0, t1, t2, f0, f1, b0, b1, z0, z1, z2, z3, z4⟩ := HR2.out
        go_wp2
        refine bodyPost_ret (v := .tuple #[.agg #[.int .i64 3, .string ⟨(T).toArray⟩, .int .i64 0], .int .i64 ((n : Nat) : Int), .agg #[.int .i64 0, .int .i64 0]]) (by simp [results, Tryz.results33, go_sem, t0, t1, t2, f0, f1]) rfl ?_
        exact ⟨by rw [HF.out]; rfl, ((((HB2.out.setCell (p := ⟨w.heap.size, 0, none⟩) (Nat.le_refl _) _).setCell (p := ⟨w.heap.size, 1, none⟩) (Nat.le_refl _) _).setCell (p := ⟨w.heap.size, 2, none⟩) (Nat.le_refl _) _).setCell (p := ⟨h1, 0, none⟩) (Nat.le_of_lt HZ1.out) _).setCell (p := ⟨h1, 1, none⟩) (Nat.le_of_lt HZ1.out) _⟩

set_option maxRecDepth 100000 in
set_option maxHeartbeats 16000000 in
theorem first_quoted (c : UInt8) (l r : List UInt8) (hl9 : l.length ≤ 1000000) (HL : Hid (l = c :: r)) (s1 : Lex.small c = false) (s2 : Lex.great c = false) (s3 : Lex.digit c = false) (h4 : c = 34) (w : World) :
    Calls Tryz.prog 33 #[.string ⟨l.toArray⟩] w fun e w' => e = .returned (firstV (Lex.token l)) ∧ Below w.heap.size w w' := by
  have HT : Hid (Lex.token l = Lex.quoted l) := Lib.hid (by rw [HL.out, Lex.token_rest (by rw [s1, s2]; rfl) s3, if_pos h4])
  have HQ := Lib.hid (rquoted_walk r (by have := congrArg List.length HL.out; rw [List.length_cons] at this; omega))
  have HL2 : Hid (34 :: r = l) := Lib.hid (by rw [HL.out, h4])
  have k34 : ((c.toNat : Int) == 34) = (c == 34) := byte_is c 34 (by decide)
  rw [show (c == 34) = true by rw [h4]; rfl] at k34
  have hz : (⟨l.toArray⟩ : ByteArray).size = l.length := size_list _
  have hidx0 : ∀ W, (Instr.index 9 (.string ⟨l.toArray⟩) (.int .i64 0)).run Tryz.prog W = .ok (.int .u8 c.toNat) W := fun W => by rw [HL.out]; rfl
  have HR0 := Lib.hid (r3_new w)
  have HB0 := Lib.hid (below_w3 w (.cells #[.int .i64 0, .string ⟨#[]⟩, .int .i64 0] 32) (.cells #[.int .i64 0, .int .i64 0] 27) (.cells #[.int .i64 60, .int .i64 0] 27))
  clear h4
  go_enter Tryz.func33, Tryz.ntmps33
  go_wp2_with fail
  generalize hW : ((w.alloc (.cells #[.int .i64 0, .string ⟨#[]⟩, .int .i64 0] 32)).alloc (.cells #[.int .i64 0, .int .i64 0] 27)).alloc (.cells #[.int .i64 60, .int .i64 0] 27) = W0 at HR0 HB0 ⊢
  clear hW
  obtain ⟨h2, hh2⟩ : ∃ h2, h2 = w.heap.size + 1 + 1 := ⟨_, rfl⟩
  rw [← hh2] at HR0 ⊢
  obtain ⟨h1, hh1⟩ : ∃ h1, h1 = w.heap.size + 1 := ⟨_, rfl⟩
  rw [← hh1] at HR0 ⊢
  have n01 : w.heap.size ≠ h1 := by omega
  have n02 : w.heap.size ≠ h2 := by omega
  have n12 : h1 ≠ h2 := by omega
  have HZ1 : Hid (w.heap.size < h1) := Lib.hid (by omega)
  clear hh1 hh2
  go_wp2_with fail
  refine (lsmall_walk c _).mono ?_
  rintro e wy ⟨rfl, rfl⟩
  rw [s1]
  go_wp2_with fail
  refine (lgreat_walk c _).mono ?_
  rintro e wy ⟨rfl, rfl⟩
  rw [s2]
  go_wp2_with fail
  refine (ldigit_walk c _).mono ?_
  rintro e wy ⟨rfl, rfl⟩
  rw [s3]
  clear s1 s2 s3 hidx0
  rw [HL2.out] at HQ
  go_wp2_with fail
  refine (HQ.out _).mono ?_
  rintro e w11 ⟨he, hbx⟩
  have HR1 := Lib.hid (HR0.out.keep HR0.out.l0 HR0.out.l1 HR0.out.l2 hbx)
  have HB1 := Lib.hid (below_next HB0.out hbx)
  clear hbx
  rw [← HT.out] at he
  obtain ⟨l0, l1, l2, t0, t1, t2, f0, f1, b0, b1, z0, z1, z2, z3, z4⟩ := HR1.out
  cases hq : Lex.token l with
  | error x =>
    obtain ⟨x, k⟩ := x
    rw [hq] at he
    have he2 : e = .returned (.tuple #[.agg #[.int .i64 0, .string ⟨#[]⟩, .int .i64 0], .int .i64 0, .agg #[.int .i64 x, .int .i64 (k : Int)]]) := he
    subst he2
    have HTK := Lib.hid hq
    clear he hq
    go_wp2
    refine bodyPost_ret (v := .tuple #[.agg #[.int .i64 0, .string ⟨#[]⟩, .int .i64 0], .int .i64 0, .agg #[.int .i64 x, .int .i64 (k : Int)]]) (by simp [results, Tryz.results33, go_sem, t0, t1, t2, f0, f1]) rfl ?_
    exact ⟨by rw [HTK.out]; rfl, ((((HB1.out.setCell (p := ⟨w.heap.size, 0, none⟩) (Nat.le_refl _) _).setCell (p := ⟨w.heap.size, 1, none⟩) (Nat.le_refl _) _).setCell (p := ⟨w.heap.size, 2, none⟩) (Nat.le_refl _) _).setCell (p := ⟨h1, 0, none⟩) (Nat.le_of_lt HZ1.out) _).setCell (p := ⟨h1, 1, none⟩) (Nat.le_of_lt HZ1.out) _⟩
  | ok x =>
    obtain ⟨⟨tk, tt⟩, k⟩ := x
    rw [hq] at he
    have he2 : e = .returned (.tuple #[.agg #[.int .i64 tk, .string ⟨tt.toArray⟩, .int .i64 0], .int .i64 (k : Int), .agg #[.int .i64 0, .int .i64 0]]) := he
    subst he2
    have HTK := Lib.hid hq
    clear he hq
    go_wp2
    refine bodyPost_ret (v := .tuple #[.agg #[.int .i64 tk, .string ⟨tt.toArray⟩, .int .i64 0], .int .i64 (k : Int), .agg #[.int .i64 0, .int .i64 0]]) (by simp [results, Tryz.results33, go_sem, t0, t1, t2, f0, f1]) rfl ?_
    exact ⟨by rw [HTK.out]; rfl, ((((HB1.out.setCell (p := ⟨w.heap.size, 0, none⟩) (Nat.le_refl _) _).setCell (p := ⟨w.heap.size, 1, none⟩) (Nat.le_refl _) _).setCell (p := ⟨w.heap.size, 2, none⟩) (Nat.le_refl _) _).setCell (p := ⟨h1, 0, none⟩) (Nat.le_of_lt HZ1.out) _).setCell (p := ⟨h1, 1, none⟩) (Nat.le_of_lt HZ1.out) _⟩

set_option maxRecDepth 100000 in
set_option maxHeartbeats 16000000 in
theorem first_sign (c : UInt8) (l r : List UInt8) (hl9 : l.length ≤ 1000000) (HL : Hid (l = c :: r)) (s1 : Lex.small c = false) (s2 : Lex.great c = false) (s3 : Lex.digit c = false) (h4 : (c == 34) = false) (w : World) :
    Calls Tryz.prog 33 #[.string ⟨l.toArray⟩] w fun e w' => e = .returned (firstV (Lex.token l)) ∧ Below w.heap.size w w' := by
  have hT : Lex.token l = if decide (2 ≤ l.length) && Lex.isSign (l.take 2) then .ok (⟨6, l.take 2⟩, 2) else if Lex.isSign [c] then .ok (⟨6, [c]⟩, 1) else .error (60, 0) := by
    have h5 : c ≠ 34 := by simpa using h4
    rw [HL.out, Lex.token_rest (by rw [s1, s2]; rfl) s3, if_neg h5]
  have hl1 : 1 ≤ l.length := by rw [HL.out]; simp
  have hsl1 : ∀ W, (Instr.slice 9 (.string ⟨l.toArray⟩) none (some (.int .i64 1)) none).run Tryz.prog W = .ok (.string ⟨([c] : List UInt8).toArray⟩) W := fun W => by
    have := sl_to l 1 hl1 W
    rw [show l.take 1 = [c] by rw [HL.out]; rfl] at this
    exact this
  have k34 : ((c.toNat : Int) == 34) = (c == 34) := byte_is c 34 (by decide)
  rw [h4] at k34
  have hz : (⟨l.toArray⟩ : ByteArray).size = l.length := size_list _
  have hidx0 : ∀ W, (Instr.index 9 (.string ⟨l.toArray⟩) (.int .i64 0)).run Tryz.prog W = .ok (.int .u8 c.toNat) W := fun W => by rw [HL.out]; rfl
  have HR0 := Lib.hid (r3_new w)
  have HB0 := Lib.hid (below_w3 w (.cells #[.int .i64 0, .string ⟨#[]⟩, .int .i64 0] 32) (.cells #[.int .i64 0, .int .i64 0] 27) (.cells #[.int .i64 60, .int .i64 0] 27))
  clear h4
  go_enter Tryz.func33, Tryz.ntmps33
  go_wp2_with fail
  generalize hW : ((w.alloc (.cells #[.int .i64 0, .string ⟨#[]⟩, .int .i64 0] 32)).alloc (.cells #[.int .i64 0, .int .i64 0] 27)).alloc (.cells #[.int .i64 60, .int .i64 0] 27) = W0 at HR0 HB0 ⊢
  clear hW
  obtain ⟨h2, hh2⟩ : ∃ h2, h2 = w.heap.size + 1 + 1 := ⟨_, rfl⟩
  rw [← hh2] at HR0 ⊢
  obtain ⟨h1, hh1⟩ : ∃ h1, h1 = w.heap.size + 1 := ⟨_, rfl⟩
  rw [← hh1] at HR0 ⊢
  have n01 : w.heap.size ≠ h1 := by omega
  have n02 : w.heap.size ≠ h2 := by omega
  have n12 : h1 ≠ h2 := by omega
  have HZ1 : Hid (w.heap.size < h1) := Lib.hid (by omega)
  clear hh1 hh2
  go_wp2_with fail
  refine (lsmall_walk c _).mono ?_
  rintro e wy ⟨rfl, rfl⟩
  rw [s1]
  go_wp2_with fail
  refine (lgreat_walk c _).mono ?_
  rintro e wy ⟨rfl, rfl⟩
  rw [s2]
  go_wp2_with fail
  refine (ldigit_walk c _).mono ?_
  rintro e wy ⟨rfl, rfl⟩
  rw [s3]
  clear s1 s2 s3 hidx0
  by_cases h2l : 2 ≤ l.length
  · have h2d : decide ((2 : Int) ≤ (l.length : Int)) = true := decide_eq_true (by omega)
    have h2i : (2 : Int) ≤ (l.length : Int) := by omega
    obtain ⟨p2, hp2⟩ : ∃ p2, p2 = l.take 2 := ⟨_, rfl⟩
    have hsl2 : ∀ W, (Instr.slice 9 (.string ⟨l.toArray⟩) none (some (.int .i64 2)) none).run Tryz.prog W = .ok (.string ⟨p2.toArray⟩) W := fun W => by rw [hp2]; exact sl_to l 2 h2l W
    rw [← hp2, decide_eq_true h2l] at hT
    have HT0 := Lib.hid hT
    clear hT hp2
    cases g2 : Lex.isSign p2
    · have HTT : Hid (Lex.token l = if Lex.isSign [c] then .ok (⟨6, [c]⟩, 1) else .error (60, 0)) := Lib.hid (by rw [HT0.out, g2]; rfl)
      go_wp2_with fail
      refine (lsign_walk p2 _).mono ?_
      rintro e w11 ⟨rfl, hbx⟩
      have HR1 := Lib.hid (HR0.out.keep HR0.out.l0 HR0.out.l1 HR0.out.l2 hbx)
      have HB1 := Lib.hid (below_next HB0.out hbx)
      clear hbx
      rw [g2]
      cases g1 : Lex.isSign [c]
      · go_wp2_with fail
        refine (lsign_walk [c] _).mono ?_
        rintro e w12 ⟨rfl, hbx⟩
        have HR2 := Lib.hid (HR1.out.keep HR1.out.l0 HR1.out.l1 HR1.out.l2 hbx)
        have HB2 := Lib.hid (below_next HB1.out hbx)
        clear hbx
        rw [g1]
        have HF : Hid (Lex.token l = .error (60, 0)) := Lib.hid (by rw [HTT.out, g1]; rfl)
        obtain ⟨l0, l1, l2, t0, t1, t2, f0, f1, b0, b1, z0, z1, z2, z3, z4⟩ := HR2.out
        go_wp2_with fail
        go_region
        all_goals
          go_wp2
          refine bodyPost_ret (v := .tuple #[.agg #[.int .i64 0, .string ⟨#[]⟩, .int .i64 0], .int .i64 0, .agg #[.int .i64 60, .int .i64 0]]) (by simp [results, Tryz.results33, go_sem, t0, t1, t2, f0, f1]) rfl ?_
          exact ⟨by rw [HF.out]; rfl, (((((HB2.out.setCell (p := ⟨w.heap.size, 0, none⟩) (Nat.le_refl _) _).setCell (p := ⟨w.heap.size, 1, none⟩) (Nat.le_refl _) _).setCell (p := ⟨w.heap.size, 2, none⟩) (Nat.le_refl _) _).setCell (p := ⟨h1, 0, none⟩) (Nat.le_of_lt HZ1.out) _).setCell (p := ⟨h1, 1, none⟩) (Nat.le_of_lt HZ1.out) _).drew⟩
      · go_wp2_with fail
        refine (lsign_walk [c] _).mono ?_
        rintro e w12 ⟨rfl, hbx⟩
        have HR2 := Lib.hid (HR1.out.keep HR1.out.l0 HR1.out.l1 HR1.out.l2 hbx)
        have HB2 := Lib.hid (below_next HB1.out hbx)
        clear hbx
        rw [g1]
        have HF : Hid (Lex.token l = .ok (⟨6, [c]⟩, 1)) := Lib.hid (by rw [HTT.out, g1]; rfl)
        obtain ⟨l0, l1, l2, t0, t1, t2, f0, f1, b0, b1, z0, z1, z2, z3, z4⟩ := HR2.out
        go_wp2
        refine bodyPost_ret (v := .tuple #[.agg #[.int .i64 6, .string ⟨([c]).toArray⟩, .int .i64 0], .int .i64 ((1 : Nat) : Int), .agg #[.int .i64 0, .int .i64 0]]) (by simp [results, Tryz.results33, go_sem, t0, t1, t2, f0, f1]) rfl ?_
        exact ⟨by rw [HF.out]; rfl, ((((HB2.out.setCell (p := ⟨w.heap.size, 0, none⟩) (Nat.le_refl _) _).setCell (p := ⟨w.heap.size, 1, none⟩) (Nat.le_refl _) _).setCell (p := ⟨w.heap.size, 2, none⟩) (Nat.le_refl _) _).setCell (p := ⟨h1, 0, none⟩) (Nat.le_of_lt HZ1.out) _).setCell (p := ⟨h1, 1, none⟩) (Nat.le_of_lt HZ1.out) _⟩
    · go_wp2_with fail
      refine (lsign_walk p2 _).mono ?_
      rintro e w11 ⟨rfl, hbx⟩
      have HR1 := Lib.hid (HR0.out.keep HR0.out.l0 HR0.out.l1 HR0.out.l2 hbx)
      have HB1 := Lib.hid (below_next HB0.out hbx)
      clear hbx
      rw [g2]
      have HF : Hid (Lex.token l = .ok (⟨6, p2⟩, 2)) := Lib.hid (by rw [HT0.out, g2]; rfl)
      obtain ⟨l0, l1, l2, t0, t1, t2, f0, f1, b0, b1, z0, z1, z2, z3, z4⟩ := HR1.out
      go_wp2
      refine bodyPost_ret (v := .tuple #[.agg #[.int .i64 6, .string ⟨(p2).toArray⟩, .int .i64 0], .int .i64 ((2 : Nat) : Int), .agg #[.int .i64 0, .int .i64 0]]) (by simp [results, Tryz.results33, go_sem, t0, t1, t2, f0, f1]) rfl ?_
      exact ⟨by rw [HF.out]; rfl, ((((HB1.out.setCell (p := ⟨w.heap.size, 0, none⟩) (Nat.le_refl _) _).setCell (p := ⟨w.heap.size, 1, none⟩) (Nat.le_refl _) _).setCell (p := ⟨w.heap.size, 2, none⟩) (Nat.le_refl _) _).setCell (p := ⟨h1, 0, none⟩) (Nat.le_of_lt HZ1.out) _).setCell (p := ⟨h1, 1, none⟩) (Nat.le_of_lt HZ1.out) _⟩
  · have h2d : decide ((2 : Int) ≤ (l.length : Int)) = false := decide_eq_false (by omega)
    have HTT : Hid (Lex.token l = if Lex.isSign [c] then .ok (⟨6, [c]⟩, 1) else .error (60, 0)) := Lib.hid (by rw [hT, decide_eq_false h2l]; rfl)
    clear hT
    cases g1 : Lex.isSign [c]
    · go_wp2_with fail
      refine (lsign_walk [c] _).mono ?_
      rintro e w11 ⟨rfl, hbx⟩
      have HR1 := Lib.hid (HR0.out.keep HR0.out.l0 HR0.out.l1 HR0.out.l2 hbx)
      have HB1 := Lib.hid (below_next HB0.out hbx)
      clear hbx
      rw [g1]
      have HF : Hid (Lex.token l = .error (60, 0)) := Lib.hid (by rw [HTT.out, g1]; rfl)
      obtain ⟨l0, l1, l2, t0, t1, t2, f0, f1, b0, b1, z0, z1, z2, z3, z4⟩ := HR1.out
      go_wp2_with fail
      go_region
      all_goals
        go_wp2
        refine bodyPost_ret (v := .tuple #[.agg #[.int .i64 0, .string ⟨#[]⟩, .int .i64 0], .int .i64 0, .agg #[.int .i64 60, .int .i64 0]]) (by simp [results, Tryz.results33, go_sem, t0, t1, t2, f0, f1]) rfl ?_
        exact ⟨by rw [HF.out]; rfl, (((((HB1.out.setCell (p := ⟨w.heap.size, 0, none⟩) (Nat.le_refl _) _).setCell (p := ⟨w.heap.size, 1, none⟩) (Nat.le_refl _) _).setCell (p := ⟨w.heap.size, 2, none⟩) (Nat.le_refl _) _).setCell (p := ⟨h1, 0, none⟩) (Nat.le_of_lt HZ1.out) _).setCell (p := ⟨h1, 1, none⟩) (Nat.le_of_lt HZ1.out) _).drew⟩
    · go_wp2_with fail
      refine (lsign_walk [c] _).mono ?_
      rintro e w11 ⟨rfl, hbx⟩
      have HR1 := Lib.hid (HR0.out.keep HR0.out.l0 HR0.out.l1 HR0.out.l2 hbx)
      have HB1 := Lib.hid (below_next HB0.out hbx)
      clear hbx
      rw [g1]
      have HF : Hid (Lex.token l = .ok (⟨6, [c]⟩, 1)) := Lib.hid (by rw [HTT.out, g1]; rfl)
      obtain ⟨l0, l1, l2, t0, t1, t2, f0, f1, b0, b1, z0, z1, z2, z3, z4⟩ := HR1.out
      go_wp2
      refine bodyPost_ret (v := .tuple #[.agg #[.int .i64 6, .string ⟨([c]).toArray⟩, .int .i64 0], .int .i64 ((1 : Nat) : Int), .agg #[.int .i64 0, .int .i64 0]]) (by simp [results, Tryz.results33, go_sem, t0, t1, t2, f0, f1]) rfl ?_
      exact ⟨by rw [HF.out]; rfl, ((((HB1.out.setCell (p := ⟨w.heap.size, 0, none⟩) (Nat.le_refl _) _).setCell (p := ⟨w.heap.size, 1, none⟩) (Nat.le_refl _) _).setCell (p := ⟨w.heap.size, 2, none⟩) (Nat.le_refl _) _).setCell (p := ⟨h1, 0, none⟩) (Nat.le_of_lt HZ1.out) _).setCell (p := ⟨h1, 1, none⟩) (Nat.le_of_lt HZ1.out) _⟩

theorem rfirst06_walk (l : List UInt8) (hl : l ≠ []) (hl9 : l.length ≤ 1000000) (w : World) :
    Calls Tryz.prog 33 #[.string ⟨l.toArray⟩] w fun e w' => e = .returned (firstV (Lex.token l)) ∧ Below w.heap.size w w' := by
  cases l with
  | nil => exact absurd rfl hl
  | cons c r =>
    cases h1 : Lex.small c with
    | true => exact first_small c _ r hl9 (Lib.hid rfl) h1 w
    | false =>
      cases h2 : Lex.great c with
      | true => exact first_great c _ r hl9 (Lib.hid rfl) h1 h2 w
      | false =>
        cases h3 : Lex.digit c with
        | true => exact first_lump c _ r hl9 (Lib.hid rfl) h1 h2 h3 w
        | false =>
          cases h4 : (c == 34) with
          | true => exact first_quoted c _ r hl9 (Lib.hid rfl) h1 h2 h3 (by simpa using h4) w
          | false => exact first_sign c _ r hl9 (Lib.hid rfl) h1 h2 h3 h4 w
end Go.Proofs.YtebphmkefpaeaaaGreatDoor
