/- ShpC1, ShpC2, ShpC3, ShpC4, together. -/
import Derived.Test.YtlhgidhhalkgjaaDoorGO8
import Derived.Test.YtlhgidhhalkgjaaDoorGBase
import Derived.WalkSpells
import Derived.Lib.SliceRun
import Derived.Deep.RegionLaw
import Derived.Deep.AppendLies
import Derived.Test.YtlhgidhhalkgjaaDoorShpO7
import Derived.Deep.LoopGhost
/- slices.Clone at texts and at types (layer 7). -/
namespace Go.Proofs.YtlhgidhhalkgjaaDoor
open Go.RowKit Shp
set_option linter.unusedVariables false

theorem info_str7 : (Tryd.prog.info? 9).map (fun i => (i.zero, i.size, i.bytes)) = some (some (.string ByteArray.empty), 1, 16) := by kernel_rfl
theorem info_shape7 : (Tryd.prog.info? 25).map (fun i => (i.zero, i.size, i.bytes)) = some (some (.agg #[.int .i64 0, .string ByteArray.empty, .string ByteArray.empty, .slice none 0 0, .slice none 0 0]), 5, 88) := by kernel_rfl

/-- The cells of types. -/
def cellOf7 (t : Sh) (q : Ptr) : Nat → Value
  | 0 => .int .i64 t.kind
  | 1 => .string ⟨t.of_.toArray⟩
  | 2 => .string ⟨t.name.toArray⟩
  | 3 => .slice q.A t.names.length q.c
  | _ => .slice q.P t.parts.length q.d
def none7 : Sh := ⟨0, [], [], [], []⟩
def cells7 (ps : List Sh) (qs : Nat → Ptr) : List Value := (List.range (ps.length * 5)).map fun j => cellOf7 (ps.getD (j / 5) none7) (qs (j / 5)) (j % 5)
theorem cells7_len (ps : List Sh) (qs : Nat → Ptr) : (cells7 ps qs).length = ps.length * 5 := by simp [cells7]
theorem cells7_at (ps : List Sh) (qs : Nat → Ptr) {i c : Nat} (hi : i < ps.length) (hc : c < 5) : (cells7 ps qs)[i * 5 + c]? = some (cellOf7 (ps[i]'hi) (qs i) c) := by
  have h1 : i * 5 + c < ps.length * 5 := by omega
  have h2 : (i * 5 + c) / 5 = i := by omega
  have h3 : (i * 5 + c) % 5 = c := by omega
  simp [cells7, h1, h2, h3, List.getD, List.getElem?_eq_getElem hi]
theorem cells7_one (ps : List Sh) (qs : Nat → Ptr) : ∀ u ∈ cells7 ps qs, u.oneCell' = true := by
  intro u hu
  obtain ⟨j, _, rfl⟩ := List.mem_map.1 hu
  generalize j % 5 = c
  match c with
  | 0 => rfl
  | 1 => rfl
  | 2 => rfl
  | 3 => rfl
  | _ + 4 => rfl
theorem sh5_cells {W : World} {g o : Nat} {t : Sh} {q : Ptr} (h : Sh5 W g o t q) {c : Nat} (hc : c < 5) : W.cell? ⟨g, o + c, none⟩ = some (cellOf7 t q c) := by
  obtain ⟨h0, h1, h2, h3, h4⟩ := h
  match c, hc with
  | 0, _ => exact h0
  | 1, _ => exact h1
  | 2, _ => exact h2
  | 3, _ => exact h3
  | 4, _ => exact h4
theorem cells_sh5 {W : World} {g o : Nat} {t : Sh} {q : Ptr} (h : ∀ c, c < 5 → W.cell? ⟨g, o + c, none⟩ = some (cellOf7 t q c)) : Sh5 W g o t q :=
  ⟨h 0 (by omega), h 1 (by omega), h 2 (by omega), h 3 (by omega), h 4 (by omega)⟩

theorem paR_own {W : World} {B b n cap : Nat} {ps : List Sh} {qs : Nat → Ptr} (h : W.ownsRow B 25 5 (.slice (some ⟨b, 0, none⟩) n cap) n (cells7 ps qs)) (hn : n = ps.length) : PaR W b ps qs := by
  subst hn
  refine ⟨(h.lt b rfl).2, fun i hi => cells_sh5 (fun c hc => ?_), fun k => h.frozenAt k⟩
  rw [h.cellAt _ (by omega), cells7_at ps qs hi hc]
theorem txR_own {W : World} {B b n cap : Nat} {l : List (List UInt8)} (h : W.ownsRow B 9 1 (.slice (some ⟨b, 0, none⟩) n cap) n ((strs l).map Value.string)) (hn : n = l.length) : TxR W b l := by
  subst hn
  refine ⟨(h.lt b rfl).2, fun i hi => ?_, fun k => h.frozenAt k⟩
  rw [h.cellAt _ (by omega)]
  simp [strs, hi]

theorem add_lit7 (b o k : Nat) : (⟨b, o, none⟩ : Addr).add k = ⟨b, o + k, none⟩ := add_plain7 b o k

set_option maxRecDepth 100000 in
set_option maxHeartbeats 2000000 in
theorem clone_texts (A : Option Addr) (c : Nat) (l : List (List UInt8)) (w : World) (hA : Strs w w.heap.size A (strs l)) (hl : l.length ≤ 1000000) (hlc : l.length ≤ c) (hA0 : A = none → c = 0) :
    Calls Tryd.prog 43 #[.slice A l.length c] w fun e w' => (∃ A' c', e = .returned (.slice A' l.length c') ∧ l.length ≤ c' ∧ (A' = none → c' = 0) ∧ (l.length = 0 ∨ ∃ b, A' = some ⟨b, 0, none⟩ ∧ w.heap.size ≤ b ∧ TxR w' b l)) ∧ Below w.heap.size w w' := by
  obtain ⟨i0, hi, hz0, hz1, hz2⟩ := info_parts (P := Tryd.prog) (e := 9) (z := .string ByteArray.empty) (size := 1) (bytes := 16) info_str7
  have q22 : ∀ (w : World) (a : Option Addr) (n c n' c' : Nat), (binOp .eql 22 (.slice a n c) (.slice none n' c')).run Tryd.prog w = .ok (.bool a.isNone) w := fun w a n c n' c' => Lib.run_eql_slice_nil w _ _ a n c n' c' Tryd.underlying22
  cases A with
  | none =>
    obtain rfl := hA0 rfl
    have hl0 : l = [] := List.eq_nil_of_length_eq_zero (by omega)
    subst hl0
    go_enter Tryd.func43, Tryd.ntmps43
    go_wp2
    go_ret
    exact ⟨⟨none, 0, by simp⟩, Below.refl _ _⟩
  | some ad =>
    have HA := Lib.hid hA.cell7
    clear hA hA0
    go_enter Tryd.func43, Tryd.ntmps43
    go_wp2_with (at_builtin; refine wpList_append_any _ rfl _ _ 22 rfl w.heap.size 9 i0 (.string ByteArray.empty) 1 16 Tryd.underlying22 hi hz0 hz1 hz2 rfl (by decide) _ 0 [] rfl (World.ownsRow_made w #[] 0 (Nat.le_refl _) (Nat.zero_le _) rfl) (some ad) l.length c ((strs l).map Value.string) rfl nofun ?qc1 ?qc2 ?qc3 ?qc4 ?qc5 ?qc6 ?_)
    case qc1 => simp [strs]
    case qc2 =>
      intro ad' had j u hj
      cases had
      have hjl : j < l.length := by
        have := (List.getElem?_eq_some_iff.1 hj).1
        simpa [strs] using this
      rcases HA.out with h0 | ⟨g, off, hgo, hg, hc⟩
      · omega
      · cases hgo
        rw [add_lit7]
        refine ((below_one w _).cell (p := ⟨g, off + j, none⟩) hg).trans ((hc j hjl).trans ?_)
        simp [strs, hjl] at hj
        rw [← hj]
    case qc3 => intro u hu; obtain ⟨x, _, rfl⟩ := List.mem_map.1 hu; rfl
    case qc4 => unfold maxLen; omega
    case qc5 => omega
    case qc6 => simp
    intro v' w' hown hb
    have hown2 : w'.ownsRow w.heap.size 9 1 v' l.length ((strs l).map Value.string) := by simpa using hown
    have HO := Lib.hid hown2
    have HB : Hid (Below w.heap.size w w') := Lib.hid ((below_one w (.cells #[] 9)).trans hb)
    clear hown hown2 hb
    go_wp2
    go_ret
    refine ⟨?_, HB.out⟩
    have h := HO.out
    rcases h.2 with ⟨hv, h0⟩ | ⟨g, cap, cur, hv, hBg, hh, hnc, _⟩
    · exact ⟨none, 0, by rw [hv, h0]; rfl, by omega, fun _ => rfl, Or.inl h0⟩
    · rw [hv] at h
      exact ⟨some ⟨g, 0, none⟩, cap, by rw [hv]; rfl, hnc, nofun, Or.inr ⟨g, rfl, hBg, txR_own h rfl⟩⟩

set_option maxRecDepth 100000 in
set_option maxHeartbeats 2000000 in
theorem clone_parts (g off d : Nat) (ps : List Sh) (qs : Nat → Ptr) (w : World) (hg : g < w.heap.size) (hc : ∀ i (h : i < ps.length), Sh5 w g (off + i * 5) (ps[i]'h) (qs i)) (hl : ps.length ≤ 1000000) (hpos : 0 < ps.length) :
    Calls Tryd.prog 62 #[.slice (some ⟨g, off, none⟩) ps.length d] w fun e w' => (∃ b c', e = .returned (.slice (some ⟨b, 0, none⟩) ps.length c') ∧ ps.length ≤ c' ∧ w.heap.size ≤ b ∧ PaR w' b ps qs) ∧ Below w.heap.size w w' := by
  obtain ⟨i0, hi, hz0, hz1, hz2⟩ := info_parts (P := Tryd.prog) (e := 25) (z := .agg #[.int .i64 0, .string ByteArray.empty, .string ByteArray.empty, .slice none 0 0, .slice none 0 0]) (size := 5) (bytes := 88) info_shape7
  have q23 : ∀ (w : World) (a : Option Addr) (n c n' c' : Nat), (binOp .eql 23 (.slice a n c) (.slice none n' c')).run Tryd.prog w = .ok (.bool a.isNone) w := fun w a n c n' c' => Lib.run_eql_slice_nil w _ _ a n c n' c' Tryd.underlying23
  have HC := Lib.hid hc
  clear hc
  go_enter Tryd.func62, Tryd.ntmps62
  go_wp2_with (at_builtin; refine wpList_append_any _ rfl _ _ 23 rfl w.heap.size 25 i0 (.agg #[.int .i64 0, .string ByteArray.empty, .string ByteArray.empty, .slice none 0 0, .slice none 0 0]) 5 88 Tryd.underlying23 hi hz0 hz1 hz2 rfl (by decide) _ 0 [] rfl (World.ownsRow_made w #[] 0 (Nat.le_refl _) (Nat.zero_le _) rfl) (some ⟨g, off, none⟩) ps.length d (cells7 ps qs) rfl nofun ?qc1 ?qc2 ?qc3 ?qc4 ?qc5 ?qc6 ?_)
  case qc1 => rw [cells7_len]
  case qc2 =>
    intro ad' had j u hj
    cases had
    have hjl : j < ps.length * 5 := by
      have := (List.getElem?_eq_some_iff.1 hj).1
      rwa [cells7_len] at this
    obtain ⟨i, c, rfl, hci⟩ : ∃ i c, j = i * 5 + c ∧ c < 5 := ⟨j / 5, j % 5, by omega, by omega⟩
    have hil : i < ps.length := by omega
    rw [cells7_at ps qs hil hci] at hj
    rw [add_lit7, ← Nat.add_assoc]
    refine ((below_one w _).cell (p := ⟨g, off + i * 5 + c, none⟩) hg).trans ((sh5_cells (HC.out i hil) hci).trans hj)
  case qc3 => exact cells7_one ps qs
  case qc4 => unfold maxLen; omega
  case qc5 => omega
  case qc6 => simp
  intro v' w' hown hb
  have hown2 : w'.ownsRow w.heap.size 25 5 v' ps.length (cells7 ps qs) := by simpa using hown
  have HO := Lib.hid hown2
  have HB : Hid (Below w.heap.size w w') := Lib.hid ((below_one w (.cells #[] 25)).trans hb)
  clear hown hown2 hb
  go_wp2
  go_ret
  refine ⟨?_, HB.out⟩
  have h := HO.out
  rcases h.2 with ⟨hv, h0⟩ | ⟨b, cap, cur, hv, hBg, hh, hnc, _⟩
  · omega
  · rw [hv] at h
    exact ⟨b, cap, by rw [hv]; rfl, hnc, hBg, paR_own h rfl⟩
end Go.Proofs.YtlhgidhhalkgjaaDoor

/- The program's copier of layer 7: a list of parts, copied. -/
namespace Go.Proofs.YtlhgidhhalkgjaaDoor
open Go.RowKit Shp
set_option linter.unusedVariables false

theorem far7 {w w1 : World} {o : Obj} {row : Option Nat} (hg : (w.drew.alloc o).grownBy w1 row) {g : Nat} (hlt : g < w.heap.size) (hne : some g ≠ row) (j : Nat) :
    w1.cell? ⟨g, j, none⟩ = w.cell? ⟨g, j, none⟩ ∧ w1.frozen? ⟨g, j, none⟩ = w.frozen? ⟨g, j, none⟩ := by
  have hl2 : g < (w.drew.alloc o).heap.size := by simp; omega
  have hb := below_one w.drew o
  exact ⟨(hg.cell_far ⟨g, j, none⟩ hl2 hne).trans (hb.cell (p := ⟨g, j, none⟩) hlt), (hg.frozen_far ⟨g, j, none⟩ hl2 hne).trans (hb.frozen (p := ⟨g, j, none⟩) hlt)⟩

theorem info_ptr7 : (Tryd.prog.info? 46).map (fun i => (i.zero, i.size, i.bytes)) = some (some (.pointer none), 1, 8) := by kernel_rfl
def ndP (n : Nd) : Value := .pointer (some ⟨n.g, n.i * 5, none⟩)
theorem own_set7 {W : World} {B : Nat} {e : TypeId} {size : Nat} {v : Value} {n : Nat} {xs : List Value} (h : W.ownsRow B e size v n xs) {a : Addr} (hne : v.ownBlock ≠ some a.block) (u : Value) : (W.setCell a u).ownsRow B e size v n xs :=
  h.kept (row := some a.block) ⟨rfl, rfl, rfl, by simp [World.setCell], fun k hk hn => Below.heap_setCell _ _ _ _ (fun e => hn (by rw [e]))⟩ (Or.inr hne)

/-- The copier: its cells, and the row of what is open. -/
structure Opn (W : World) (cb : Nat) (v : Value) (L : List Nd) : Prop where
  lt : cb < W.heap.size
  c0 : W.cell? ⟨cb, 0, none⟩ = some v
  c1 : W.cell? ⟨cb, 1, none⟩ = some (.map none)
  f0 : W.frozen? ⟨cb, 0, none⟩ = false
  own : W.ownsRow 0 46 1 v L.length (L.map ndP)
  ne : v.ownBlock ≠ some cb
theorem Opn.ne' {W : World} {cb : Nat} {v : Value} {L : List Nd} (h : Opn W cb v L) : some cb ≠ v.ownBlock := fun e => h.ne e.symm

/-- What only turns the copier and its row. -/
structure UpL (cb : Nat) (v : Value) (w w' : World) : Prop where
  os : w'.os = w.os
  tape : w'.tape = w.tape
  output : w'.output = w.output
  size : w.heap.size ≤ w'.heap.size
  block : ∀ k, k < w.heap.size → k ≠ cb → v.ownBlock ≠ some k → w'.heap[k]? = w.heap[k]?
theorem UpL.of_below {cb : Nat} {v : Value} {w w' : World} (h : Below w.heap.size w w') : UpL cb v w w' := ⟨h.os, h.tape, h.output, h.size, fun k hk _ _ => h.block k hk⟩
/-- One after the other; the row may have moved to new memory. -/
theorem UpL.next {cb : Nat} {v v1 : Value} {a b c : World} (h : UpL cb v a b) (k : UpL cb v1 b c) (hv : ∀ x, v1.ownBlock = some x → v.ownBlock = some x ∨ a.heap.size ≤ x) : UpL cb v a c :=
  ⟨k.os.trans h.os, k.tape.trans h.tape, k.output.trans h.output, Nat.le_trans h.size k.size, fun x hx h1 h2 => (k.block x (Nat.lt_of_lt_of_le hx h.size) h1 (fun e => by
    rcases hv x e with h3 | h3
    · exact h2 h3
    · omega)).trans (h.block x hx h1 h2)⟩
theorem UpL.same {cb : Nat} {v : Value} {w w' : World} (h : UpL cb v w w') {b : Nat} (h1 : b < w.heap.size) (h2 : b ≠ cb) (h3 : v.ownBlock ≠ some b) : Same7 w w' b :=
  ⟨fun k => World.cell?_of_block (w := w) (h.block b h1 h2 h3), fun k => World.frozen?_of_block (w := w) (h.block b h1 h2 h3)⟩
theorem Opn.below {W W' : World} {cb : Nat} {v : Value} {L : List Nd} (h : Opn W cb v L) (hb : Below W.heap.size W W') : Opn W' cb v L :=
  ⟨Nat.lt_of_lt_of_le h.lt hb.size, (hb.cell (p := ⟨cb, 0, none⟩) h.lt).trans h.c0, (hb.cell (p := ⟨cb, 1, none⟩) h.lt).trans h.c1, (hb.frozen (p := ⟨cb, 0, none⟩) h.lt).trans h.f0,
    h.own.kept (grown_of_below hb (Nat.le_refl _) none) (by
      rcases e : v.ownBlock with _ | x
      · exact Or.inl rfl
      · exact Or.inr (by simp)), h.ne⟩

theorem look7 (a : Option Addr) (n : Int) (W : World) : (Instr.lookup 48 (.map none) (.agg #[.pointer a, .int .i64 n]) true).run Tryd.prog W = .ok (.tuple #[.slice none 0 0, .bool false]) W := by kernel_rfl

/-- What the loop's round leaves. -/
structure Rnd7 (w wr : World) (cb : Nat) (v : Value) (pb : Nat) (ps : List Sh) (qs : Nat → Ptr) (L : List Nd) (i : Nat) : Prop where
  opn : ∃ v', Opn wr cb v' (L ++ (kids pb ps qs).take i) ∧ (∀ x, v'.ownBlock = some x → v.ownBlock = some x ∨ w.heap.size ≤ x) ∧ v'.ownBlock ≠ some pb
  up : UpL cb v w wr
  par : PaR wr pb ps qs

theorem Rnd7.step {w wr w2 : World} {cb : Nat} {v v' : Value} {pb : Nat} {ps : List Sh} {qs : Nat → Ptr} {L : List Nd} {i g1 cap : Nat} {o : Obj} (h : Rnd7 w wr cb v pb ps qs L i) (hi : i < ps.length) (hcw : cb < w.heap.size) (hpw : w.heap.size ≤ pb)
    (hO : Opn wr cb v' (L ++ (kids pb ps qs).take i)) (hvx : ∀ x, v'.ownBlock = some x → v.ownBlock = some x ∨ w.heap.size ≤ x) (hvp : v'.ownBlock ≠ some pb) (hG : (wr.alloc o).drew.grownBy w2 v'.ownBlock)
    (hW : w2.ownsRow 0 46 1 (.slice (some ⟨g1, 0, none⟩) (L.length + i + 1) cap) (L.length + i + 1) ((L ++ (kids pb ps qs).take i).map ndP ++ [.pointer (some ⟨pb, i * 5, none⟩)]))
    (hat : v'.ownBlock = some g1 ∨ g1 = (wr.alloc o).drew.heap.size) : Rnd7 w (w2.setCell ⟨cb, 0, none⟩ (.slice (some ⟨g1, 0, none⟩) (L.length + i + 1) cap)) cb v pb ps qs L (i + 1) := by
  have hsz : (wr.alloc o).drew.heap.size = wr.heap.size + 1 := by simp
  have hws := h.up.size
  have hg1 : g1 ≠ cb ∧ g1 ≠ pb ∧ (v.ownBlock = some g1 ∨ w.heap.size ≤ g1) := by
    rcases hat with h1 | h1
    · exact ⟨fun e => hO.ne (e ▸ h1), fun e => hvp (e ▸ h1), hvx g1 h1⟩
    · have := h.par.lt
      have := hO.lt
      rw [hsz] at h1
      exact ⟨by omega, by omega, Or.inr (by omega)⟩
  have hblk : ∀ k, k < wr.heap.size → v'.ownBlock ≠ some k → w2.heap[k]? = wr.heap[k]? := fun k hk hn => (hG.block k (by rw [hsz]; omega) (fun e => hn e.symm)).trans (Below.heap_alloc _ _ _ hk)
  have hcell : ∀ k, k < wr.heap.size → v'.ownBlock ≠ some k → Same7 wr w2 k := fun k hk hn => ⟨fun j => World.cell?_of_block (w := wr) (hblk k hk hn), fun j => World.frozen?_of_block (w := wr) (hblk k hk hn)⟩
  have hc := hcell cb hO.lt hO.ne
  have h2s := hG.size
  rw [hsz] at h2s
  have hk1 : ((kids pb ps qs).take (i + 1)) = (kids pb ps qs).take i ++ [⟨pb, i, ps[i]'hi, qs i⟩] := by
    rw [take_next (by rw [kids_len]; exact hi), kids_at]
  have hlen : (L ++ (kids pb ps qs).take (i + 1)).length = L.length + i + 1 := by rw [List.length_append, List.length_take, kids_len]; omega
  refine ⟨⟨.slice (some ⟨g1, 0, none⟩) (L.length + i + 1) cap, ⟨?_, ?_, ?_, ?_, ?_, ?_⟩, ?_, ?_⟩, ⟨?_, ?_, ?_, ?_, ?_⟩, ?_⟩
  · have := hO.lt; simp [World.setCell]; omega
  · exact World.cell?_setCell_same _ _ _ ((hc.1 0).trans hO.c0)
  · exact (World.cell?_setCell_other _ _ _ _ (fun e => by have := congrArg Addr.off e; simp at this)).trans ((hc.1 1).trans hO.c1)
  · rw [World.frozen?_setCell]; exact (hc.2 0).trans hO.f0
  · rw [hlen, hk1, ← List.append_assoc, List.map_append]
    exact own_set7 (a := ⟨cb, 0, none⟩) hW (fun e => hg1.1 (Option.some.inj e)) _
  · exact fun e => hg1.1 (Option.some.inj e)
  · intro x hx
    obtain rfl : g1 = x := Option.some.inj hx
    exact hg1.2.2
  · exact fun e => hg1.2.1 (Option.some.inj e)
  · exact hG.os.trans h.up.os
  · exact hG.tape.trans h.up.tape
  · exact hG.output.trans h.up.output
  · simp [World.setCell]; omega
  · intro k hk h1 h2
    rw [Below.heap_setCell _ _ _ _ h1, hblk k (by omega) (fun e => by
      rcases hvx k e with h3 | h3
      · exact h2 h3
      · omega)]
    exact h.up.block k hk h1 h2
  · have hp := h.par.of (hcell pb h.par.lt hvp) (by omega)
    exact hp.of ⟨fun k => World.cell?_setCell_other _ _ _ _ (fun e => by have := congrArg Addr.block e; simp at this; omega), fun k => by rw [World.frozen?_setCell]⟩ (by simp [World.setCell])

set_option maxRecDepth 100000 in
set_option maxHeartbeats 4000000 in
theorem list_none (cb : Nat) (P : Option Addr) (d : Nat) (w : World) :
    Calls Tryd.prog 44 #[.pointer (some ⟨cb, 0, none⟩), .slice P 0 d] w fun e w' => e = .returned (.slice none 0 0) ∧ w = w' := by
  go_enter Tryd.func44, Tryd.ntmps44
  go_wp2
  go_ret
  exact ⟨rfl, rfl⟩

set_option maxRecDepth 100000 in
set_option maxHeartbeats 4000000 in
theorem list_walk (cb g off d : Nat) (ps : List Sh) (qs : Nat → Ptr) (v : Value) (L : List Nd) (w : World) (hO : Opn w cb v L) (hg : g < w.heap.size) (hc : ∀ i (h : i < ps.length), Sh5 w g (off + i * 5) (ps[i]'h) (qs i))
    (hl : ps.length ≤ 1000000) (hL : L.length ≤ 1000000) (hpos : 0 < ps.length) :
    Calls Tryd.prog 44 #[.pointer (some ⟨cb, 0, none⟩), .slice (some ⟨g, off, none⟩) ps.length d] w fun e w' => ∃ pb c', e = .returned (.slice (some ⟨pb, 0, none⟩) ps.length c') ∧ ps.length ≤ c' ∧ w.heap.size ≤ pb ∧ Rnd7 w w' cb v pb ps qs L ps.length := by
  have HC := Lib.hid hc
  have HO := Lib.hid hO
  have hl0 : ((ps.length : Int) == 0) = false := by rw [beq_eq_false_iff_ne]; omega
  have hi0 : (0 : Int) < (ps.length : Int) := by omega
  obtain ⟨clt, k0, k1, f0, _, _⟩ := hO
  have q48 : ∀ (w : World) (r : Option Nat), (binOp .neq 48 (.map r) (.map none)).run Tryd.prog w = .ok (.bool (!r.isNone)) w := fun w r => run_neq_map_nil w _ _ _ r Tryd.underlying48
  clear hc
  go_enter Tryd.func44, Tryd.ntmps44
  have hlk := look7 (some ⟨g, off, none⟩) (ps.length : Int)
  go_wp2_with fail
  go_quiet (fail)
  have hbq : Below w.heap.size w ((w.alloc (.cells #[.pointer (some ⟨g, off, none⟩), .int .i64 (ps.length : Int)] 69)).drewN nq) := below_drewN (below_one _ _) nq
  have hcl := clone_parts g off d ps qs ((w.alloc (.cells #[.pointer (some ⟨g, off, none⟩), .int .i64 (ps.length : Int)] 69)).drewN nq) (Nat.lt_of_lt_of_le hg hbq.size) (fun i hi => (HC.out i hi).keep hg hbq) hl hpos
  have HCL := Lib.hid hcl
  have HBQ := Lib.hid hbq
  clear hcl hbq
  go_wp2_with fail
  refine HCL.out.mono ?_
  rintro e w1 ⟨⟨pb, c', rfl, hnc, hpb, hpar⟩, hb1⟩
  have hb2 : Below w.heap.size w w1 := below_next HBQ.out hb1
  have hO1 := HO.out.below hb2
  have hpb2 : w.heap.size ≤ pb := Nat.le_trans HBQ.out.size hpb
  have HR0 : Hid (Rnd7 w w1 cb v pb ps qs L 0) := Lib.hid ⟨⟨v, by rw [List.take_zero, List.append_nil]; exact hO1, fun x hx => Or.inl hx, fun e => by have := (HO.out.own.lt pb e).2; omega⟩, UpL.of_below hb2, hpar⟩
  have HPB := Lib.hid hpb2
  have HNC := Lib.hid hnc
  obtain ⟨clt1, k01, k11, f01, _, _⟩ := hO1
  clear k0 k1 f0 hpar hb1 hb2 hpb hpb2 hnc clt
  go_wp2_with fail
  clear k01 k11 f01 clt1
  go_loopw [44] (fun ii wr => ∃ i : Nat, ii = .int .i64 i ∧ i ≤ ps.length ∧ Hid (Rnd7 w wr cb v pb ps qs L i)) (fun i _ => ps.length - (intOf i).toNat)
  case atStart => exact ⟨0, rfl, Nat.zero_le _, HR0⟩
  case round =>
    obtain ⟨i, rfl, hi, HR⟩ := hrel
    by_cases hlt : i < ps.length
    · have hi1 : (i : Int) < (ps.length : Int) := by omega
      obtain ⟨v', hOv, hvx, hvp⟩ := HR.out.opn
      have HOV := Lib.hid hOv
      obtain ⟨clt, k0, k1, f0, hown, hne⟩ := hOv
      obtain ⟨i0, hi2, hz0, hz1, hz2⟩ := info_parts (P := Tryd.prog) (e := 46) (z := .pointer none) (size := 1) (bytes := 8) info_ptr7
      have hlen : (L ++ (kids pb ps qs).take i).length = L.length + i := by rw [List.length_append, List.length_take, kids_len]; omega
      rw [hlen] at hown
      have HOW := Lib.hid hown
      have HVX := Lib.hid hvx
      have HVP := Lib.hid hvp
      have hne' := HOV.out.ne'
      have mixed : Tryd.prog.follows .mixedOrders = true := by kernel_rfl
      clear hown hvx hvp hne hlen
      go_wp2_with fail
      go_region_law ((refine step_append_lies _ rfl _ _ 47 rfl 0 46 i0 (.pointer none) 1 8 Tryd.underlying47 hi2 hz0 hz1 hz2 rfl (by decide) v' _ _ (by simp [Act.eval]) (HOW.out.alloc _) ⟨wr.heap.size, 0, none⟩ 1 1 [.pointer (some ⟨pb, i * 5, none⟩)] (by simp [Act.eval]) rfl (World.news_of_block (cs := #[.pointer (some ⟨pb, i * 5, none⟩)]) (t := 46) (fr := (0, 0)) (heap_alloc_new wr.drew _)) (by simp [Value.oneCell']) (by decide) (by unfold maxLen; omega) (by omega) (by simp) _ rfl ?_); intro g1 cap w2 hown1 hgrow hat hlt1; have HG := Lib.hid hgrow; have HW := Lib.hid hown1; have HAT := Lib.hid hat; have HF := Lib.hid (far7 hgrow clt hne'); have d0 := (HF.out 0).1.trans k0; have d1 := (HF.out 1).1.trans k1; have e0 := (HF.out 0).2.trans f0; clear hown1 hgrow hat)
      all_goals
        have HN := Lib.hid (HR.out.step hlt HO.out.lt HPB.out HOV.out HVX.out HVP.out HG.out HW.out HAT.out)
        clear d0 d1 e0 k0 k1 f0
        go_wp2_with fail
        exact ⟨⟨i + 1, by go_num, by omega, HN⟩, by simp [intOf]; omega⟩
    · have hie : i = ps.length := by omega
      have HN : Hid (Rnd7 w wr cb v pb ps qs L ps.length) := Lib.hid (by rw [← hie]; exact HR.out)
      have hi1 : ¬ (i : Int) < (ps.length : Int) := by omega
      clear hie
      go_wp2
      go_ret
      exact ⟨pb, c', rfl, HNC.out, HPB.out, HN.out⟩
end Go.Proofs.YtlhgidhhalkgjaaDoor

/- The program's copier of layer 7: what holds while it copies. -/
namespace Go.Proofs.YtlhgidhhalkgjaaDoor
open Go.RowKit Shp
set_option linter.unusedVariables false

def sumL (L : List Nd) : Nat := (L.map fun n => size n.t).sum
theorem sumL_append (L M : List Nd) : sumL (L ++ M) = sumL L + sumL M := by simp [sumL]
theorem sumL_kids (pb : Nat) (ps : List Sh) (qs : Nat → Ptr) : sumL (kids pb ps qs) = sizes ps := by
  unfold sumL kids
  have : ∀ (l : List Sh) (f : Nat → Sh → Nd), (∀ i p, (f i p).t = p) → ((l.mapIdx f).map fun n => size n.t).sum = sizes l := by
    intro l
    induction l with
    | nil => intro f _; rfl
    | cons p l ih =>
      intro f hf
      rw [List.mapIdx_cons]
      simp only [List.map_cons, List.sum_cons, hf]
      rw [ih (fun i => f (i + 1)) (fun i p => hf (i + 1) p)]; rfl
  exact this ps _ (fun _ _ => rfl)
theorem sumL_len (L : List Nd) : L.length ≤ sumL L := by
  induction L with
  | nil => simp
  | cons n L ih => have := size_pos n.t; simp [sumL] at ih ⊢; omega

/-- What holds while it copies. -/
structure Cst (w W : World) (cb r r1 : Nat) (T : Sh) (v : Value) (L : List Nd) (D : List Nat) : Prop where
  opn : Opn W cb v L
  rdy : Ready r T L D W
  lo : ∀ b ∈ D, w.heap.size ≤ b ∧ b < W.heap.size ∧ b ≠ cb ∧ v.ownBlock ≠ some b
  nd : ∀ n ∈ L, n.g ∈ D ∧ n.g ≠ r1 ∧ Sh5 W n.g (n.i * 5) n.t n.q ∧ ShAt W w.heap.size n.q n.t ∧ ∀ k, W.frozen? ⟨n.g, k, none⟩ = false
  ap : L.Pairwise fun n m => n.g = m.g → n.i ≠ m.i
  bel : Below w.heap.size w W
  res : r1 ∉ D ∧ (w.heap.size ≤ r1 ∧ r1 < W.heap.size ∧ r1 ≠ cb ∧ v.ownBlock ≠ some r1) ∧ (∀ c, c < 5 → ∃ u, W.cell? ⟨r1, c, none⟩ = some u) ∧ ∀ k, W.frozen? ⟨r1, k, none⟩ = false
  cbw : w.heap.size ≤ cb ∧ ∀ g, v.ownBlock = some g → w.heap.size ≤ g
  rin : r ∈ D ∧ r ≠ r1 ∧ r ≠ cb

theorem Opn.pop {W : World} {cb cap g : Nat} {L : List Nd} {a : Nd} (h : Opn W cb (.slice (some ⟨g, 0, none⟩) (L.length + 1) cap) (L ++ [a])) : Opn (W.setCell ⟨cb, 0, none⟩ (.slice (some ⟨g, 0, none⟩) L.length cap)) cb (.slice (some ⟨g, 0, none⟩) L.length cap) L := by
  refine ⟨by simpa [World.setCell] using h.lt, World.cell?_setCell_same _ _ _ h.c0, (World.cell?_setCell_other _ _ _ _ (fun e => by have := congrArg Addr.off e; simp at this)).trans h.c1, by rw [World.frozen?_setCell]; exact h.f0, ?_, h.ne⟩
  refine own_set7 (a := ⟨cb, 0, none⟩) (v := .slice (some ⟨g, 0, none⟩) L.length cap) ?_ h.ne _
  obtain ⟨h1, h2⟩ := h.own
  refine ⟨by simp, ?_⟩
  rcases h2 with ⟨h2, _⟩ | ⟨g', cap', cur, hv, hB, hh, hn, hc, hcs, htk⟩
  · cases h2
  · right
    obtain ⟨rfl, rfl⟩ : g = g' ∧ cap = cap' := by
      injection hv with h3 h4 h5
      injection h3 with h3
      injection h3 with h3
      exact ⟨h3, h5⟩
    rw [List.length_append, List.length_singleton] at hn htk
    refine ⟨g, cap, cur, rfl, hB, hh, by omega, hc, hcs, ?_⟩
    have := congrArg (List.take (L.length * 1)) htk
    rw [List.take_take, Nat.min_eq_left (by omega)] at this
    rw [this, List.map_append, List.take_left' (by simp)]
/-- The last one that is open. -/
theorem Opn.last {W : World} {cb : Nat} {v : Value} {L : List Nd} {a : Nd} (h : Opn W cb v (L ++ [a])) : ∃ g cap, v = .slice (some ⟨g, 0, none⟩) (L.length + 1) cap ∧ L.length + 1 ≤ cap ∧ W.cell? ⟨g, L.length, none⟩ = some (ndP a) := by
  have ho := h.own
  obtain ⟨h1, h2⟩ := h.own
  rcases h2 with ⟨h2, h3⟩ | ⟨g, cap, cur, hv, hB, hh, hn, hc, hcs, htk⟩
  · rw [List.length_append, List.length_singleton] at h3; omega
  · rw [List.length_append, List.length_singleton] at hv hn
    refine ⟨g, cap, hv, hn, ?_⟩
    rw [hv, List.length_append, List.length_singleton] at ho
    rw [ho.cellAt L.length (by omega)]
    simp

theorem same_set7 (W : World) (a : Addr) (u : Value) {b : Nat} (h : a.block ≠ b) : Same7 W (W.setCell a u) b :=
  ⟨fun k => World.cell?_setCell_other _ _ _ _ (fun e => h (congrArg Addr.block e)), fun k => World.frozen?_setCell ..⟩
theorem Same7.trans {a b c : World} {x : Nat} (h : Same7 a b x) (k : Same7 b c x) : Same7 a c x := ⟨fun j => (k.1 j).trans (h.1 j), fun j => (k.2 j).trans (h.2 j)⟩
theorem Same7.below {a b : World} {x : Nat} (h : Below a.heap.size a b) (hx : x < a.heap.size) : Same7 a b x := ⟨fun k => h.cell (p := ⟨x, k, none⟩) hx, fun k => h.frozen (p := ⟨x, k, none⟩) hx⟩

theorem Opn.set {W : World} {cb : Nat} {v : Value} {L : List Nd} (h : Opn W cb v L) {a : Addr} (h1 : a.block ≠ cb) (h2 : v.ownBlock ≠ some a.block) (u : Value) : Opn (W.setCell a u) cb v L :=
  have hs := same_set7 W a u h1
  ⟨by simpa [World.setCell] using h.lt, (hs.1 0).trans h.c0, (hs.1 1).trans h.c1, (hs.2 0).trans h.f0, own_set7 h.own h2 u, h.ne⟩
theorem kids_pair (pb : Nat) (ps : List Sh) (qs : Nat → Ptr) : (kids pb ps qs).Pairwise fun n m => n.g = m.g → n.i ≠ m.i := by
  refine List.pairwise_iff_getElem.2 (fun i j hi hj hij => ?_)
  rw [kids_at, kids_at]
  intro _
  show i ≠ j
  omega
theorem size_set7 (W : World) (a : Addr) (u : Value) : (W.setCell a u).heap.size = W.heap.size := by simp [World.setCell]

/-- A round: the names and the parts of the last open place are copied. -/
theorem Cst.step {w W W2 W4 : World} {cb r r1 g cap : Nat} {T : Sh} {L : List Nd} {a : Nd} {D : List Nat} {A' P' : Option Addr} {c' d' pb : Nat} {qs : Nat → Ptr}
    (h : Cst w W cb r r1 T (.slice (some ⟨g, 0, none⟩) (L.length + 1) cap) (L ++ [a]) D)
    (hb2 : Below W.heap.size (W.setCell ⟨cb, 0, none⟩ (.slice (some ⟨g, 0, none⟩) L.length cap)) W2) (hc1 : a.t.names.length ≤ c') (hA0 : A' = none → c' = 0)
    (hn : a.t.names.length = 0 ∨ ∃ b, A' = some ⟨b, 0, none⟩ ∧ W.heap.size ≤ b ∧ TxR W2 b a.t.names) (hd1 : a.t.parts.length ≤ d') (hP0 : P' = none → d' = 0)
    (hp : a.t.parts.length = 0 ∧ W4 = W2.setCell ⟨a.g, a.i * 5 + 3, none⟩ (.slice A' a.t.names.length c') ∨
      P' = some ⟨pb, 0, none⟩ ∧ W2.heap.size ≤ pb ∧ (∀ i (hi : i < a.t.parts.length), ShAt W w.heap.size (qs i) (a.t.parts[i]'hi)) ∧ Rnd7 (W2.setCell ⟨a.g, a.i * 5 + 3, none⟩ (.slice A' a.t.names.length c')) W4 cb (.slice (some ⟨g, 0, none⟩) L.length cap) pb a.t.parts qs L a.t.parts.length) :
    ∃ v5 D5, Cst w (W4.setCell ⟨a.g, a.i * 5 + 4, none⟩ (.slice P' a.t.parts.length d')) cb r r1 T v5 (L ++ kids pb a.t.parts qs) D5 := by
  obtain ⟨hagD, har1, haS, haA, haF⟩ := h.nd a (by simp)
  obtain ⟨hlo1, hlo2, hlo3, hlo4⟩ := h.lo a.g hagD
  have hgW : g < W.heap.size := (h.opn.own.lt g rfl).2
  have hgw : w.heap.size ≤ g := h.cbw.2 g rfl
  have hcbW := h.opn.lt
  have hag : a.g ≠ g := fun e => hlo4 (by rw [e]; rfl)
  obtain ⟨W1, hW1⟩ : ∃ W1, W1 = W.setCell ⟨cb, 0, none⟩ (.slice (some ⟨g, 0, none⟩) L.length cap) := ⟨_, rfl⟩
  obtain ⟨W3, hW3⟩ : ∃ W3, W3 = W2.setCell ⟨a.g, a.i * 5 + 3, none⟩ (.slice A' a.t.names.length c') := ⟨_, rfl⟩
  obtain ⟨W5, hW5⟩ : ∃ W5, W5 = W4.setCell ⟨a.g, a.i * 5 + 4, none⟩ (.slice P' a.t.parts.length d') := ⟨_, rfl⟩
  have hO1 : Opn W1 cb (.slice (some ⟨g, 0, none⟩) L.length cap) L := by rw [hW1]; exact h.opn.pop
  rw [← hW1] at hb2
  rw [← hW3] at hp
  rw [← hW5]
  have z1 : W1.heap.size = W.heap.size := by rw [hW1, size_set7]
  have z2 : W.heap.size ≤ W2.heap.size := by have := hb2.size; omega
  have z3 : W3.heap.size = W2.heap.size := by rw [hW3, size_set7]
  have z4 : W3.heap.size ≤ W4.heap.size := by
    rcases hp with ⟨_, rfl⟩ | ⟨_, _, _, hr⟩
    · exact Nat.le_refl _
    · exact hr.up.size
  have z5 : W5.heap.size = W4.heap.size := by rw [hW5, size_set7]
  have hb2' : Below W1.heap.size W1 W2 := by rw [z1]; exact hb2
  have hO3 : Opn W3 cb (.slice (some ⟨g, 0, none⟩) L.length cap) L := by
    rw [hW3]
    exact (hO1.below hb2').set hlo3 (fun e => hag (Option.some.inj e).symm) _
  -- blocks that nothing turns
  have s34 : ∀ b, b < W3.heap.size → b ≠ cb → b ≠ g → Same7 W3 W4 b := fun b h1 h2 h3 => by
    rcases hp with ⟨_, rfl⟩ | ⟨_, _, _, hr⟩
    · exact ⟨fun _ => rfl, fun _ => rfl⟩
    · exact hr.up.same h1 h2 (fun e => h3 (Option.some.inj e).symm)
  have s12 : ∀ b, b < W.heap.size → b ≠ cb → Same7 W W2 b := fun b h1 h2 => by
    have e1 : Same7 W W1 b := by rw [hW1]; exact same_set7 W _ _ (Ne.symm h2)
    exact e1.trans (Same7.below hb2' (by omega))
  have s25 : ∀ b, b < W2.heap.size → b ≠ cb → b ≠ g → b ≠ a.g → Same7 W2 W5 b := fun b h1 h2 h3 h4 => by
    have e1 : Same7 W2 W3 b := by rw [hW3]; exact same_set7 W2 _ _ (Ne.symm h4)
    have e2 := s34 b (by omega) h2 h3
    have e3 : Same7 W4 W5 b := by rw [hW5]; exact same_set7 W4 _ _ (Ne.symm h4)
    exact (e1.trans e2).trans e3
  have hcl : ∀ b, b < W.heap.size → b ≠ cb → b ≠ g → ∀ k, ¬ (a.g = b ∧ (k = a.i * 5 + 3 ∨ k = a.i * 5 + 4)) → W5.cell? ⟨b, k, none⟩ = W.cell? ⟨b, k, none⟩ := fun b h1 h2 h3 k hk => by
    have e1 := (s12 b h1 h2).1 k
    have e2 : W3.cell? ⟨b, k, none⟩ = W2.cell? ⟨b, k, none⟩ := by
      rw [hW3]
      exact World.cell?_setCell_other _ _ _ _ (fun e => hk ⟨congrArg Addr.block e, Or.inl (congrArg Addr.off e).symm⟩)
    have e3 := (s34 b (by omega) h2 h3).1 k
    have e4 : W5.cell? ⟨b, k, none⟩ = W4.cell? ⟨b, k, none⟩ := by
      rw [hW5]
      exact World.cell?_setCell_other _ _ _ _ (fun e => hk ⟨congrArg Addr.block e, Or.inr (congrArg Addr.off e).symm⟩)
    rw [e4, e3, e2, e1]
  have hfz : ∀ b, b < W.heap.size → b ≠ cb → b ≠ g → ∀ k, W5.frozen? ⟨b, k, none⟩ = W.frozen? ⟨b, k, none⟩ := fun b h1 h2 h3 k => by
    rw [hW5, World.frozen?_setCell, (s34 b (by omega) h2 h3).2 k, hW3, World.frozen?_setCell, (s12 b h1 h2).2 k]
  have hDlo : ∀ b ∈ D, b < W.heap.size ∧ b ≠ cb ∧ b ≠ g := fun b hb => by
    obtain ⟨_, h2, h3, h4⟩ := h.lo b hb
    exact ⟨h2, h3, fun e => h4 (by rw [e]; rfl)⟩
  have hbel : Below w.heap.size w W5 := by
    have b1 : Below w.heap.size w W1 := by rw [hW1]; exact h.bel.setCell h.cbw.1 _
    have b2 : Below w.heap.size w W2 := b1.trans (hb2.mono h.bel.size)
    have b3 : Below w.heap.size w W3 := by rw [hW3]; exact b2.setCell hlo1 _
    have b4 : Below w.heap.size w W4 := by
      rcases hp with ⟨_, rfl⟩ | ⟨_, _, _, hr⟩
      · exact b3
      · exact b3.trans ⟨hr.up.os, hr.up.tape, hr.up.output, hr.up.size, fun k hk => hr.up.block k (by have := b3.size; omega) (by have := h.cbw.1; omega) (fun e => by have : g = k := Option.some.inj e; omega)⟩
    rw [hW5]; exact b4.setCell hlo1 _
  have hqs : ShAt W w.heap.size a.q a.t := haA
  obtain ⟨q0, q1', q2, q3, q4⟩ := haS
  -- the place's own cells
  have hSa : Sh5 W5 a.g (a.i * 5) a.t ⟨A', c', P', d'⟩ := by
    have hx : ∀ c, c < 3 → W5.cell? ⟨a.g, a.i * 5 + c, none⟩ = W.cell? ⟨a.g, a.i * 5 + c, none⟩ := fun c hc => hcl a.g hlo2 hlo3 hag _ (fun ⟨_, e⟩ => by omega)
    have e3 : W3.cell? ⟨a.g, a.i * 5 + 3, none⟩ = some (.slice A' a.t.names.length c') := by
      rw [hW3]
      exact World.cell?_setCell_same _ _ _ (((s12 a.g hlo2 hlo3).1 _).trans q3)
    have e34 := s34 a.g (by omega) hlo3 hag
    have e5 : W5.cell? ⟨a.g, a.i * 5 + 3, none⟩ = W4.cell? ⟨a.g, a.i * 5 + 3, none⟩ := by
      rw [hW5]; exact World.cell?_setCell_other _ _ _ _ (fun e => by have := congrArg Addr.off e; simp at this)
    have e4 : W3.cell? ⟨a.g, a.i * 5 + 4, none⟩ = some (.slice a.q.P a.t.parts.length a.q.d) := by
      rw [hW3]
      exact (World.cell?_setCell_other _ _ _ _ (fun e => by have := congrArg Addr.off e; simp at this)).trans (((s12 a.g hlo2 hlo3).1 _).trans q4)
    refine ⟨(hx 0 (by omega)).trans q0, (hx 1 (by omega)).trans q1', (hx 2 (by omega)).trans q2, e5.trans ((e34.1 _).trans e3), ?_⟩
    rw [hW5]
    exact World.cell?_setCell_same _ _ _ ((e34.1 _).trans e4)
  have hsm : Small a.t ⟨A', c', P', d'⟩ := by
    obtain ⟨i1, i2, i3, i4, i5, _, _, _, _⟩ := hqs.small
    exact ⟨i1, i2, i3, i4, i5, hc1, hd1, hA0, hP0⟩
  obtain ⟨DN, hDN⟩ : ∃ DN : List Nat, a.t.names.length = 0 ∧ DN = [] ∨ ∃ b, A' = some ⟨b, 0, none⟩ ∧ DN = [b] ∧ W.heap.size ≤ b ∧ b < W2.heap.size ∧ TxR W5 b a.t.names := by
    rcases hn with h0 | ⟨b, h1, h2, h3⟩
    · exact ⟨[], Or.inl ⟨h0, rfl⟩⟩
    · exact ⟨[b], Or.inr ⟨b, h1, rfl, h2, h3.lt, h3.of (s25 b h3.lt (by omega) (by omega) (by omega)) (by omega)⟩⟩
  have hDNb : ∀ b ∈ DN, W.heap.size ≤ b ∧ b < W2.heap.size := fun b hb => by
    rcases hDN with ⟨_, rfl⟩ | ⟨c, _, rfl, h3, h4, _⟩
    · cases hb
    · rw [List.mem_singleton] at hb; subst hb; exact ⟨h3, h4⟩
  obtain ⟨DP, hDP⟩ : ∃ DP : List Nat, a.t.parts.length = 0 ∧ DP = [] ∨ P' = some ⟨pb, 0, none⟩ ∧ DP = [pb] ∧ W2.heap.size ≤ pb ∧ (∀ i (hi : i < a.t.parts.length), ShAt W w.heap.size (qs i) (a.t.parts[i]'hi)) ∧ PaR W5 pb a.t.parts qs := by
    rcases hp with ⟨h0, _⟩ | ⟨h1, h2, h3, h4⟩
    · exact ⟨[], Or.inl ⟨h0, rfl⟩⟩
    · refine ⟨[pb], Or.inr ⟨h1, rfl, h2, h3, h4.par.of ?_ (by omega)⟩⟩
      rw [hW5]; exact same_set7 W4 _ _ (by show a.g ≠ pb; omega)
  have hDPb : ∀ b ∈ DP, b = pb ∧ W2.heap.size ≤ pb ∧ pb < W5.heap.size := fun b hb => by
    rcases hDP with ⟨_, rfl⟩ | ⟨_, rfl, h3, _, h5⟩
    · cases hb
    · rw [List.mem_singleton] at hb; exact ⟨hb, h3, h5.lt⟩
  have hap := List.pairwise_append.1 h.ap
  have hR := h.rdy.step (W1 := W5) (DN := DN) (DP := DP) (q1 := ⟨A', c', P', d'⟩) (pb := pb) (qs := qs) (fun b hb => (hDlo b hb).1) hagD (fun n hn => (h.nd n (by simp [hn])).1) (fun n hn => hap.2.2 n hn a (by simp)) (by omega) hSa hsm
    (fun b hb k hk => hcl b (hDlo b hb).1 (hDlo b hb).2.1 (hDlo b hb).2.2 k hk) (fun b hb k => hfz b (hDlo b hb).1 (hDlo b hb).2.1 (hDlo b hb).2.2 k)
    (by
      rcases hDN with h1 | ⟨b, h1, h2, h3, _, h5⟩
      · exact Or.inl h1
      · exact Or.inr ⟨b, h1, h2, h3, h5⟩)
    (by
      rcases hDP with h1 | ⟨h1, h2, h3, _, h5⟩
      · exact Or.inl h1
      · exact Or.inr ⟨h1, h2, by omega, fun hm => by have := (hDNb pb hm).2; omega, h5⟩)
  -- the row of what is open
  obtain ⟨v5, hO5, hv5⟩ : ∃ v5, Opn W5 cb v5 (L ++ kids pb a.t.parts qs) ∧ ∀ x, v5.ownBlock = some x → x = g ∨ W3.heap.size ≤ x ∧ x ∉ DP := by
    rcases hp with ⟨h0, rfl⟩ | ⟨_, h2, _, hr⟩
    · have hk : kids pb a.t.parts qs = [] := List.eq_nil_of_length_eq_zero (by rw [kids_len]; exact h0)
      refine ⟨.slice (some ⟨g, 0, none⟩) L.length cap, ?_, fun x hx => Or.inl (Option.some.inj (show some g = some x from hx)).symm⟩
      rw [hk, List.append_nil, hW5]
      exact hO3.set hlo3 (fun e => hag (Option.some.inj e).symm) _
    · obtain ⟨v', ho, hvx, hvp⟩ := hr.opn
      rw [List.take_of_length_le (by rw [kids_len]; exact Nat.le_refl _)] at ho
      refine ⟨v', ?_, fun x hx => ?_⟩
      · rw [hW5]
        refine ho.set hlo3 (fun e => ?_) _
        rcases hvx a.g e with h3 | h3
        · exact hag (Option.some.inj h3).symm
        · omega
      · rcases hvx x hx with h3 | h3
        · exact Or.inl (Option.some.inj h3).symm
        · refine Or.inr ⟨h3, fun hm => hvp ?_⟩
          rw [hx, (hDPb x hm).1]
  have hown5 : ∀ b, b ≠ g → b < W3.heap.size ∨ b ∈ DP → v5.ownBlock ≠ some b := fun b h1 h2 e => by
    rcases hv5 b e with h3 | ⟨h3, h4⟩
    · exact h1 h3
    · rcases h2 with h2 | h2
      · omega
      · exact h4 h2
  refine ⟨v5, D ++ DN ++ DP, hO5, hR, ?_, ?_, ?_, hbel, ?_, ?_, ?_⟩
  · intro b hb
    have hwW := h.bel.size
    rcases List.mem_append.1 hb with hb | hb
    · rcases List.mem_append.1 hb with hb | hb
      · obtain ⟨h1, h2, h3⟩ := hDlo b hb
        exact ⟨(h.lo b hb).1, by omega, h2, hown5 b h3 (Or.inl (by omega))⟩
      · have h1 := hDNb b hb
        exact ⟨by omega, by omega, by omega, hown5 b (by omega) (Or.inl (by omega))⟩
    · obtain ⟨rfl, h2, h3⟩ := hDPb b hb
      exact ⟨by omega, h3, by omega, hown5 b (by omega) (Or.inr hb)⟩
  · intro n hn
    have hat : ∀ {q : Ptr} {t : Sh}, ShAt W w.heap.size q t → ShAt W5 w.heap.size q t := fun hx => hx.of (Nat.le_refl _) (fun x k hx => (hbel.cell (p := ⟨x, k, none⟩) hx).trans (h.bel.cell (p := ⟨x, k, none⟩) hx).symm)
    rcases List.mem_append.1 hn with hn | hn
    · obtain ⟨i1, i2, i3, i4, i5⟩ := h.nd n (by simp [hn])
      obtain ⟨j1, j2, j3⟩ := hDlo n.g i1
      have hne := hap.2.2 n hn a (by simp)
      have e : ∀ c, c < 5 → W5.cell? ⟨n.g, n.i * 5 + c, none⟩ = W.cell? ⟨n.g, n.i * 5 + c, none⟩ := fun c hc => hcl n.g j1 j2 j3 _ (fun ⟨e1, e2⟩ => by
        have := hne e1.symm
        omega)
      obtain ⟨t0, t1, t2, t3, t4⟩ := i3
      exact ⟨by simp [i1], i2, ⟨(e 0 (by omega)).trans t0, (e 1 (by omega)).trans t1, (e 2 (by omega)).trans t2, (e 3 (by omega)).trans t3, (e 4 (by omega)).trans t4⟩, hat i4, fun k => (hfz n.g j1 j2 j3 k).trans (i5 k)⟩
    · obtain ⟨i, hi, rfl⟩ := List.getElem_of_mem hn
      have hil : i < a.t.parts.length := by rwa [kids_len] at hi
      rw [kids_at]
      rcases hDP with ⟨h0, _⟩ | ⟨_, hd, h3, h4, h5⟩
      · omega
      · refine ⟨by simp [hd], ?_, h5.at_ i hil, hat (h4 i hil), h5.fz⟩
        have := h.res.2.1.2.1
        show pb ≠ r1
        omega
  · refine List.pairwise_append.2 ⟨hap.1, kids_pair _ _ _, fun n hn m hm e => ?_⟩
    have h1 := (hDlo n.g (h.nd n (by simp [hn])).1).1
    have h2 := kids_mem hm
    rcases hDP with ⟨h0, _⟩ | ⟨_, _, h3, _⟩
    · have : kids pb a.t.parts qs = [] := List.eq_nil_of_length_eq_zero (by rw [kids_len]; exact h0)
      rw [this] at hm; cases hm
    · omega
  · obtain ⟨h1, ⟨j0, j1, j2, j4⟩, h2, h3⟩ := h.res
    have j3 : r1 ≠ g := fun e => j4 (by rw [e]; rfl)
    refine ⟨fun hm => ?_, ⟨j0, by omega, j2, hown5 r1 j3 (Or.inl (by omega))⟩, fun c hc => ?_, fun k => (hfz r1 j1 j2 j3 k).trans (h3 k)⟩
    · rcases List.mem_append.1 hm with hm | hm
      · rcases List.mem_append.1 hm with hm | hm
        · exact h1 hm
        · have := hDNb r1 hm; omega
      · have := (hDPb r1 hm); omega
    obtain ⟨u, hu⟩ := h2 c hc
    exact ⟨u, (hcl r1 j1 j2 j3 c (fun ⟨e, _⟩ => har1 e)).trans hu⟩
  · refine ⟨h.cbw.1, fun x hx => ?_⟩
    have hwW := h.bel.size
    rcases hv5 x hx with h3 | ⟨h3, _⟩
    · omega
    · omega
  · exact ⟨by simp [h.rin.1], h.rin.2⟩
end Go.Proofs.YtlhgidhhalkgjaaDoor

/- The program's copied of layer 7. -/
namespace Go.Proofs.YtlhgidhhalkgjaaDoor
open Go.RowKit Shp
set_option linter.unusedVariables false

theorem Cst.next {w W W' : World} {cb r r1 : Nat} {T : Sh} {v : Value} {L : List Nd} {D : List Nat} (h : Cst w W cb r r1 T v L D) (hb : Below W.heap.size W W') : Cst w W' cb r r1 T v L D := by
  have hs : ∀ b ∈ D, Same7 W W' b := fun b hb' => Same7.below hb (h.lo b hb').2.1
  refine ⟨h.opn.below hb, h.rdy.of hs hb.size, fun b hb' => ?_, fun n hn => ?_, h.ap, h.bel.trans (hb.mono h.bel.size), ⟨h.res.1, ⟨h.res.2.1.1, Nat.lt_of_lt_of_le h.res.2.1.2.1 hb.size, h.res.2.1.2.2⟩, fun c hc => ?_, fun k => ((Same7.below hb h.res.2.1.2.1).2 k).trans (h.res.2.2.2 k)⟩, h.cbw, h.rin⟩
  · obtain ⟨h1, h2, h3, h4⟩ := h.lo b hb'
    exact ⟨h1, Nat.lt_of_lt_of_le h2 hb.size, h3, h4⟩
  · obtain ⟨h1, h2, h3, h4, h5⟩ := h.nd n hn
    exact ⟨h1, h2, h3.of (hs n.g h1).1, h4.keep hb h.bel.size, fun k => ((hs n.g h1).2 k).trans (h5 k)⟩
  · obtain ⟨u, hu⟩ := h.res.2.2.1 c hc
    exact ⟨u, ((Same7.below hb h.res.2.1.2.1).1 c).trans hu⟩

theorem Cst.two {w W W2 : World} {cb r r1 g cap : Nat} {T : Sh} {L : List Nd} {a : Nd} {D : List Nat} (h : Cst w W cb r r1 T (.slice (some ⟨g, 0, none⟩) (L.length + 1) cap) (L ++ [a]) D)
    (hb2 : Below (W.setCell ⟨cb, 0, none⟩ (.slice (some ⟨g, 0, none⟩) L.length cap)).heap.size (W.setCell ⟨cb, 0, none⟩ (.slice (some ⟨g, 0, none⟩) L.length cap)) W2) : Same7 W W2 a.g ∧ (∀ u o, Opn (W2.setCell ⟨a.g, o, none⟩ u) cb (.slice (some ⟨g, 0, none⟩) L.length cap) L) ∧ W.heap.size ≤ W2.heap.size ∧ Below w.heap.size w W2 := by
  obtain ⟨hagD, _⟩ := h.nd a (by simp)
  obtain ⟨h1, h2, h3, h4⟩ := h.lo a.g hagD
  have hz := size_set7 W ⟨cb, 0, none⟩ (.slice (some ⟨g, 0, none⟩) L.length cap)
  refine ⟨(same_set7 W ⟨cb, 0, none⟩ _ (Ne.symm h3)).trans (Same7.below hb2 (by omega)), fun u o => (h.opn.pop.below hb2).set h3 (fun e => h4 ?_) u, by have := hb2.size; omega, ?_⟩
  · have : g = a.g := Option.some.inj e
    rw [this]; rfl
  · exact (h.bel.setCell (p := ⟨cb, 0, none⟩) h.cbw.1 _).trans (hb2.mono (by have := h.bel.size; omega))
theorem right_names {t : Sh} (h : right t = true) (hz : size t ≤ 400) : t.names.length ≤ 400 := by
  have hp := length_sizes t.parts
  rw [size_eq] at hz
  rcases fits_kinds (right_fits h) with ⟨_, _, h, _⟩ | ⟨_, h, _⟩ | ⟨_, h, _⟩ | ⟨_, h, _⟩ | ⟨_, h, _⟩
  · rw [h]; simp
  · rw [h]; simp
  · omega
  · rw [h]; simp
  · rw [h]; simp

/-- The blocks that copied makes. -/
def cW (w : World) (t : Sh) (q : Ptr) : World :=
  (((w.alloc (.cells #[.int .i64 t.kind, .string ⟨t.of_.toArray⟩, .string ⟨t.name.toArray⟩, .slice q.A t.names.length q.c, .slice q.P t.parts.length q.d] 25)).alloc (.cells #[.int .i64 0, .string ⟨#[]⟩, .string ⟨#[]⟩, .slice none 0 0, .slice none 0 0] 25)).alloc (.cells #[.pointer (some ⟨w.heap.size, 0, none⟩)] 46)).alloc (.cells #[.slice (some ⟨w.heap.size + 1 + 1, 0, none⟩) 1 1, .map none] 50)
theorem cW_below (w : World) (t : Sh) (q : Ptr) : Below w.heap.size w (cW w t q) := below_new (below_new (below_new (below_one _ _) _) _) _
theorem cW_st (w : World) (t : Sh) (q : Ptr) (hq : ShAt w w.heap.size q t) : Cst w (cW w t q) (w.heap.size + 1 + 1 + 1) w.heap.size (w.heap.size + 1) t (.slice (some ⟨w.heap.size + 1 + 1, 0, none⟩) 1 1) [⟨w.heap.size, 0, t, q⟩] [w.heap.size] := by
  have hb := cW_below w t q
  have hsz : (cW w t q).heap.size = w.heap.size + 4 := by simp [cW]
  refine ⟨⟨by omega, by simp [cW, go_sem], by simp [cW, go_sem], by simp [cW, go_sem], ?_, ?_⟩, ready_start _ _ _ _ _, ?_, ?_, by simp, hb, ⟨by simp, ⟨by omega, by omega, by omega, fun e => ?_⟩, ?_, ?_⟩, ⟨by omega, ?_⟩, ⟨by simp, by omega, by omega⟩⟩
  · refine ⟨by simp, Or.inr ⟨w.heap.size + 1 + 1, 1, #[.pointer (some ⟨w.heap.size, 0, none⟩)], rfl, Nat.zero_le _, ?_, Nat.le_refl _, by decide, rfl, rfl⟩⟩
    unfold cW
    rw [Below.heap_alloc _ _ _ (by simp)]
    have e : w.heap.size + 1 + 1 = ((w.alloc (.cells #[.int .i64 t.kind, .string ⟨t.of_.toArray⟩, .string ⟨t.name.toArray⟩, .slice q.A t.names.length q.c, .slice q.P t.parts.length q.d] 25)).alloc (.cells #[.int .i64 0, .string ⟨#[]⟩, .string ⟨#[]⟩, .slice none 0 0, .slice none 0 0] 25)).heap.size := by simp
    rw [e]; exact heap_alloc_new _ _
  · intro e
    have : w.heap.size + 1 + 1 = w.heap.size + 1 + 1 + 1 := Option.some.inj e
    omega
  · intro b hb'
    simp only [List.mem_cons, List.not_mem_nil, or_false] at hb'
    have hn : ∀ x, x < w.heap.size + 2 → (Value.slice (some ⟨w.heap.size + 1 + 1, 0, none⟩) 1 1).ownBlock ≠ some x := fun x hx e => by
      have : w.heap.size + 1 + 1 = x := Option.some.inj e
      omega
    subst hb'
    exact ⟨by omega, by omega, by omega, hn _ (by omega)⟩
  · intro n hn
    simp only [List.mem_cons, List.not_mem_nil, or_false] at hn
    subst hn
    refine ⟨by simp, by show w.heap.size ≠ w.heap.size + 1; omega, ⟨?_, ?_, ?_, ?_, ?_⟩, hq.keep hb (Nat.le_refl _), fun k => ?_⟩
    all_goals simp [cW, go_sem]
  · have : w.heap.size + 1 + 1 = w.heap.size + 1 := Option.some.inj e
    omega
  · intro c hc
    match c, hc with
    | 0, _ => exact ⟨_, by simp [cW, go_sem]; rfl⟩
    | 1, _ => exact ⟨_, by simp [cW, go_sem]; rfl⟩
    | 2, _ => exact ⟨_, by simp [cW, go_sem]; rfl⟩
    | 3, _ => exact ⟨_, by simp [cW, go_sem]; rfl⟩
    | 4, _ => exact ⟨_, by simp [cW, go_sem]; rfl⟩
  · intro k; simp [cW, go_sem]
  · intro g e
    have : w.heap.size + 1 + 1 = g := Option.some.inj e
    omega

set_option maxRecDepth 100000 in
set_option maxHeartbeats 4000000 in
theorem copied_walk (t : Sh) (q : Ptr) (w : World) (hq : ShAt w w.heap.size q t) (hz : size t ≤ 400) (hr : right t = true) :
    Calls Tryd.prog 32 #[.agg #[.int .i64 t.kind, .string ⟨t.of_.toArray⟩, .string ⟨t.name.toArray⟩, .slice q.A t.names.length q.c, .slice q.P t.parts.length q.d]] w fun e w' => ∃ q' F, e = .returned (.agg #[.int .i64 t.kind, .string ⟨t.of_.toArray⟩, .string ⟨t.name.toArray⟩, .slice q'.A t.names.length q'.c, .slice q'.P t.parts.length q'.d]) ∧ Own w' q' t F ∧ F.Nodup ∧ (∀ b ∈ F, w.heap.size ≤ b) ∧ Below w.heap.size w w' := by
  have hm := measure_walk t q 65536 (cW w t q) (hq.next (cW_below w t q)) (by omega)
  rw [show ((65536 : Nat) : Int) = (65536 : Int) from rfl] at hm
  have hp : parts7 65536 t = (size t : Int) := by unfold parts7; rw [if_neg (by omega)]
  rw [hp] at hm
  generalize levels7 65536 t = lv at hm
  have HM := Lib.hid hm
  have HST := Lib.hid (cW_st w t q hq)
  have hz1 : decide ((65536 : Int) < (size t : Int)) = false := decide_eq_false (by omega)
  clear hq hm hp
  go_enter Tryd.func32, Tryd.ntmps32
  go_wp2_with fail
  change Calls _ _ _ (cW w t q) _
  generalize cW w t q = W at HM HST ⊢
  refine HM.out.mono ?_
  rintro e W1 ⟨rfl, hb1⟩
  have HS1 := Lib.hid (HST.out.next hb1)
  clear HM HST hb1
  go_wp2_with fail
  go_loopg [6] (size t) (fun k s6 wr => ∃ v L D, sumL L ≤ k ∧ sumL L ≤ 400 ∧ (∀ n ∈ L, right n.t = true) ∧ Hid (Cst w wr (w.heap.size + 1 + 1 + 1) w.heap.size (w.heap.size + 1) t v L D))
  case atStart => exact ⟨_, _, _, by simp [sumL], by simp [sumL]; omega, fun n hn => by simp only [List.mem_cons, List.not_mem_nil, or_false] at hn; subst hn; exact hr, HS1⟩
  case round =>
    obtain ⟨v, L, D, hk, h400, hri, HC⟩ := hrel
    rcases List.eq_nil_or_concat L with rfl | ⟨L', a, rfl⟩
    · obtain ⟨F, ⟨q', hS, hO⟩, hnd, hFD⟩ := ready_done HC.out.rdy
      have hc0 := HC.out.opn.c0
      obtain ⟨A, cp, rfl⟩ : ∃ A cp, v = .slice A 0 cp := by
        rcases HC.out.opn.own.2 with ⟨rfl, _⟩ | ⟨g, cap, cur, rfl, _⟩
        · exact ⟨none, 0, rfl⟩
        · exact ⟨some ⟨g, 0, none⟩, cap, rfl⟩
      have hS' := hS
      obtain ⟨p0, p1, p2, p3, p4⟩ := hS
      simp only [Nat.zero_mul, Nat.zero_add] at p0 p1 p2 p3 p4
      obtain ⟨r1D, ⟨_, _, _, _⟩, rcs, rfz⟩ := HC.out.res
      obtain ⟨e0, r0⟩ := rcs 0 (by omega)
      obtain ⟨e1, r1⟩ := rcs 1 (by omega)
      obtain ⟨e2, r2⟩ := rcs 2 (by omega)
      obtain ⟨e3, r3⟩ := rcs 3 (by omega)
      obtain ⟨e4, r4⟩ := rcs 4 (by omega)
      have z0 := rfz 0
      have z1 := rfz 1
      have z2 := rfz 2
      have z3 := rfz 3
      have z4 := rfz 4
      have HO := Lib.hid hO
      have HND := Lib.hid hnd
      have HFD := Lib.hid (fun b hb => (HC.out.lo b (hFD b hb)).1)
      have HNE := Lib.hid (fun b hb (e : w.heap.size + 1 = b) => r1D (by rw [e]; exact hFD b hb))
      have HBL := Lib.hid HC.out.bel
      clear hO hnd hFD hS' rcs rfz r1D hri
      go_wp2
      refine bodyPost_ret (v := .agg #[.int .i64 t.kind, .string ⟨t.of_.toArray⟩, .string ⟨t.name.toArray⟩, .slice q'.A t.names.length q'.c, .slice q'.P t.parts.length q'.d]) (by simp [results, Tryd.results32, go_sem, r0, r1, r2, r3, r4]) rfl ?_
      refine ⟨q', F, rfl, HO.out.of (fun b hb => ?_) (by simp [World.setCell]), HND.out, HFD.out, ?_⟩
      · have hne := HNE.out b hb
        exact ((((same_set7 _ ⟨w.heap.size + 1, 0, none⟩ _ hne).trans (same_set7 _ ⟨w.heap.size + 1, 1, none⟩ _ hne)).trans (same_set7 _ ⟨w.heap.size + 1, 2, none⟩ _ hne)).trans (same_set7 _ ⟨w.heap.size + 1, 3, none⟩ _ hne)).trans (same_set7 _ ⟨w.heap.size + 1, 4, none⟩ _ hne)
      · exact ((((HBL.out.setCell (p := ⟨w.heap.size + 1, 0, none⟩) (Nat.le_succ _) _).setCell (p := ⟨w.heap.size + 1, 1, none⟩) (Nat.le_succ _) _).setCell (p := ⟨w.heap.size + 1, 2, none⟩) (Nat.le_succ _) _).setCell (p := ⟨w.heap.size + 1, 3, none⟩) (Nat.le_succ _) _).setCell (p := ⟨w.heap.size + 1, 4, none⟩) (Nat.le_succ _) _
    · rw [List.concat_eq_append] at hk h400 HC hri
      obtain ⟨g, cap, rfl, hcap, hcl⟩ := HC.out.opn.last
      have hc0 := HC.out.opn.c0
      have hf0 := HC.out.opn.f0
      obtain ⟨hagD, har1, hS5, hat, hfr⟩ := HC.out.nd a (by simp)
      obtain ⟨hlo1, hlo2, hlo3, hlo4⟩ := HC.out.lo a.g hagD
      have hi1 : (0 : Int) < ((L'.length + 1 : Nat) : Int) := by omega
      have hL4 : L'.length ≤ 400 := by
        have := sumL_len L'
        rw [sumL_append] at h400
        omega
      have hgn : g ≠ w.heap.size + 1 + 1 + 1 := fun e => HC.out.opn.ne (by rw [← e]; rfl)
      unfold ndP at hcl
      obtain ⟨p0, p1, p2, p3, p4⟩ := hS5
      -- the names
      have hsm := hat.small
      have z1 : (wr.setCell ⟨w.heap.size + 1 + 1 + 1, 0, none⟩ (.slice (some ⟨g, 0, none⟩) L'.length cap)).heap.size = wr.heap.size := size_set7 _ _ _
      have hatS := (hat.strs.more (B' := wr.heap.size) (by have := HC.out.bel.size; omega))
      have ha4 : size a.t ≤ 400 := by rw [sumL_append] at h400; simp [sumL] at h400; omega
      have har := hri a (by simp)
      have hnm : a.t.names.length ≤ 1000000 := by have := right_names har ha4; omega
      have hstr : Strs (wr.setCell ⟨w.heap.size + 1 + 1 + 1, 0, none⟩ (.slice (some ⟨g, 0, none⟩) L'.length cap)) (wr.setCell ⟨w.heap.size + 1 + 1 + 1, 0, none⟩ (.slice (some ⟨g, 0, none⟩) L'.length cap)).heap.size a.q.A (strs a.t.names) := by
        rw [z1]
        rcases hat.strs with h0 | ⟨b, o, h1, h2, h3⟩
        · exact Or.inl h0
        · exact Or.inr ⟨b, o, h1, by have := HC.out.bel.size; omega, fun i hi => (World.cell?_setCell_other _ _ _ _ (fun e => by have := congrArg Addr.block e; simp at this; omega)).trans (h3 i hi)⟩
      have hcn := clone_texts a.q.A a.q.c a.t.names _ hstr hnm hsm.c hsm.A0
      have HCN := Lib.hid hcn
      clear hcn hstr hatS
      have HRI := Lib.hid hri
      have HAT := Lib.hid hat
      clear hri hat
      go_wp2_with fail
      refine HCN.out.mono ?_
      rintro e W2 ⟨⟨A', c', rfl, hc1, hA0, hnn⟩, hb2⟩
      obtain ⟨hs2, hO3, hz2, hbw2⟩ := HC.out.two hb2
      have HB2 := Lib.hid hb2
      have x3 := (hs2.1 (a.i * 5 + 3)).trans p3
      have x4 := (hs2.1 (a.i * 5 + 4)).trans p4
      have f3 := (hs2.2 (a.i * 5 + 3)).trans (hfr _)
      have f4 := (hs2.2 (a.i * 5 + 4)).trans (hfr _)
      have HO3 := Lib.hid (hO3 (.slice A' a.t.names.length c') (a.i * 5 + 3))
      have y4 : (W2.setCell ⟨a.g, a.i * 5 + 3, none⟩ (.slice A' a.t.names.length c')).cell? ⟨a.g, a.i * 5 + 4, none⟩ = some (.slice a.q.P a.t.parts.length a.q.d) := (World.cell?_setCell_other _ _ _ _ (fun e => by have := congrArg Addr.off e; simp at this)).trans x4
      have g4 : (W2.setCell ⟨a.g, a.i * 5 + 3, none⟩ (.slice A' a.t.names.length c')).frozen? ⟨a.g, a.i * 5 + 4, none⟩ = false := by rw [World.frozen?_setCell]; exact f4
      have HNN := Lib.hid hnn
      have HA0 := Lib.hid hA0
      have HHC1 := Lib.hid hc1
      clear hb2 hs2 hO3 hnn hA0 hc1 p0 p1 p2 p3 p4 hc0 hf0 hcl
      by_cases hpz : a.t.parts.length = 0
      · have hln := list_none (w.heap.size + 1 + 1 + 1) a.q.P a.q.d (W2.setCell ⟨a.g, a.i * 5 + 3, none⟩ (.slice A' a.t.names.length c'))
        have HST := Lib.hid (HC.out.step (W4 := W2.setCell ⟨a.g, a.i * 5 + 3, none⟩ (.slice A' a.t.names.length c')) (P' := none) (d' := 0) (pb := 0) (qs := fun _ => a.q) (by have := HB2.out; rwa [size_set7] at this) HHC1.out HA0.out (by rw [← size_set7 wr ⟨w.heap.size + 1 + 1 + 1, 0, none⟩ (.slice (some ⟨g, 0, none⟩) L'.length cap)]; exact HNN.out) (by omega) (fun _ => rfl) (Or.inl ⟨hpz, rfl⟩))
        have hk0 : kids 0 a.t.parts (fun _ => a.q) = [] := List.eq_nil_of_length_eq_zero (by rw [kids_len]; exact hpz)
        rw [hk0, List.append_nil, hpz] at HST
        rw [hpz] at x4 y4
        clear hk0
        go_wp2_with fail
        refine hln.mono ?_
        rintro e W4 ⟨rfl, rfl⟩
        go_wp2
        go_roundg (sumL L')
        case measure => rw [sumL_append] at hk; have := size_pos a.t; simp [sumL] at hk ⊢; omega
        case rel =>
          obtain ⟨v5, D5, h5⟩ := HST.out
          exact ⟨v5, L', D5, Nat.le_refl _, by rw [sumL_append] at h400; omega, fun n hn => HRI.out n (by simp [hn]), Lib.hid h5⟩
      · have hpos : 0 < a.t.parts.length := by omega
        rcases HAT.out.part with h0 | ⟨g', off, qs, hqP, hg', hcc, hrr⟩
        · omega
        · have hgg : g' < (W2.setCell ⟨a.g, a.i * 5 + 3, none⟩ (.slice A' a.t.names.length c')).heap.size := by rw [size_set7]; have := HC.out.bel.size; omega
          have hbw3 : Below w.heap.size w (W2.setCell ⟨a.g, a.i * 5 + 3, none⟩ (.slice A' a.t.names.length c')) := hbw2.setCell hlo1 _
          have hlw := list_walk (w.heap.size + 1 + 1 + 1) g' off a.q.d a.t.parts qs (.slice (some ⟨g, 0, none⟩) L'.length cap) L' _ HO3.out hgg (fun i hi => (hcc i hi).of (fun k => (hbw3.cell (p := ⟨g', k, none⟩) hg').trans (HC.out.bel.cell (p := ⟨g', k, none⟩) hg').symm)) (by have := length_sizes a.t.parts; rw [size_eq] at ha4; omega) (by omega) hpos
          rw [hqP] at y4
          have HLW := Lib.hid hlw
          have HRR := Lib.hid hrr
          clear hlw hcc hrr hqP hgg hbw3
          go_wp2_with fail
          refine HLW.out.mono ?_
          rintro e W4 ⟨pb, d', rfl, hd1, hpb, hrn⟩
          have HST := Lib.hid (HC.out.step (W4 := W4) (P' := some ⟨pb, 0, none⟩) (d' := d') (pb := pb) (qs := qs) (by have := HB2.out; rwa [size_set7] at this) HHC1.out HA0.out (by rw [← size_set7 wr ⟨w.heap.size + 1 + 1 + 1, 0, none⟩ (.slice (some ⟨g, 0, none⟩) L'.length cap)]; exact HNN.out) hd1 nofun (Or.inr ⟨rfl, by rw [size_set7] at hpb; exact hpb, HRR.out, hrn⟩))
          have hs34 : Same7 (W2.setCell ⟨a.g, a.i * 5 + 3, none⟩ (.slice A' a.t.names.length c')) W4 a.g := hrn.up.same (by rw [size_set7]; omega) hlo3 (fun e => hlo4 (by
            have : g = a.g := Option.some.inj e
            rw [this]; rfl))
          have u4 := (hs34.1 (a.i * 5 + 4)).trans y4
          have v4 := (hs34.2 (a.i * 5 + 4)).trans g4
          clear hrn hpb hd1 hs34 y4 g4 x3 x4 f3 f4 HLW
          go_wp2
          go_roundg (sumL (L' ++ kids pb a.t.parts qs))
          case measure =>
            rw [sumL_append, sumL_kids]
            rw [sumL_append] at hk
            have := size_eq a.t
            simp [sumL] at hk ⊢
            omega
          case rel =>
            obtain ⟨v5, D5, h5⟩ := HST.out
            refine ⟨v5, L' ++ kids pb a.t.parts qs, D5, Nat.le_refl _, ?_, fun n hn => ?_, Lib.hid h5⟩
            · rw [sumL_append, sumL_kids]
              rw [sumL_append] at h400
              have := size_eq a.t
              simp [sumL] at h400 ⊢
              omega
            · rcases List.mem_append.1 hn with hn | hn
              · exact HRI.out n (by simp [hn])
              · obtain ⟨i, hi, rfl⟩ := List.getElem_of_mem hn
                rw [kids_at]
                exact right_part har (List.getElem_mem _)
end Go.Proofs.YtlhgidhhalkgjaaDoor
