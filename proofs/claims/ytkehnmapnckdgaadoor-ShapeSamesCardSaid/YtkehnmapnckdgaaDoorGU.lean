/- ShpChain, ShpU0, ShpU1, ShpU2, together. -/
import Derived.Test.YtkehnmapnckdgaaDoorGOrd
import Derived.Test.YtkehnmapnckdgaaDoorGBase
import Derived.Laws.OwnMore
import Derived.Maps.AppendAt
import Derived.Test.YtkehnmapnckdgaaDoorGF
import Derived.Test.YtkehnmapnckdgaaDoorGEq
import Derived.Deep.AppendLies
/- 'append(append(append([]T{}, l[:k]...), y), l[k:]...)' in a region that draws its order: what holds between its operations, whatever the order. -/
namespace Go.Proofs.YtkehnmapnckdgaaDoor
open Go.RowKit
set_option linter.unusedVariables false
set_option linter.unusedSimpArgs false

theorem also_same (d : Nat → Bool) (i : Nat) : also d i i = true := by
  have : Nat.beq i i = true := Nat.beq_refl i
  unfold also; rw [this]; rfl
theorem also_other (d : Nat → Bool) {i j : Nat} (h : j ≠ i) : also d i j = d j := by
  have : Nat.beq j i = false := by cases hb : Nat.beq j i <;> first | rfl | exact absurd (Nat.eq_of_beq_eq_true hb) h
  unfold also; rw [this]; rfl

/-- append at a step of a region that draws, of a slice that may be nil; it says where the new slice lies. -/
theorem step_append_at {P : Program} {ops : Array Oper} {o : Oper} {a : Act} {W : World} {K' : Act → World → Prop} {Q : Exit → Act → World → Prop} {E : Prop} (hgd : Region.wanted o (yielded ops a.tmps) = true) (s x : Operand) (t : TypeId)
    (ho : o.op = .call { callee := .builtin .append, args := #[s, x], argTypes := #[t, t] })
    (base : Nat) (e : TypeId) (i : TypeInfo) (z : Value) (size bytes : Nat) (ht : P.underlying t = some (.slice e)) (hi : P.info? e = some i) (hz : i.zero = some z)
    (hsize : i.size = size) (hby : i.bytes = bytes) (hzs : z.cells.size = size) (hsz : 0 < size)
    (v : Value) (n : Nat) (xs : List Value) (hs : a.eval s = v) (hown : W.ownsRow base e size v n xs)
    (A : Option Addr) (m c : Nat) (news : List Value) (hx : a.eval x = .slice A m c) (hA : A = none → m = 0 ∧ c = 0) (hl : news.length = m * size)
    (hnews : ∀ ad, A = some ad → ∀ j u, news[j]? = some u → W.cell? (ad.add j) = some u) (h1 : ∀ u ∈ news, u.oneCell' = true)
    (h63 : n + m ≤ maxLen) (hbytes : (n + m) * bytes ≤ 140737488355328) (hbase : base ≤ W.heap.size)
    (h : ∀ v' w', w'.ownsRow base e size v' (n + m) (xs ++ news) → W.grownBy w' v.ownBlock → (v'.ownBlock = v.ownBlock ∨ v'.ownBlock = some W.heap.size) → K' (a.put o.dst v') w') :
    if Region.wanted o (yielded ops a.tmps) = true then Oper.wp P o a W K' Q else E := by
  rw [if_pos hgd]
  match A, hA, hnews, hx with
  | some ad, _, hnews, hx =>
    obtain ⟨v', w', hr, h2, h3, _, h5⟩ := run_append_own_at (P := P) W base t o.type e i z size bytes ht hi hz hsize hby hzs hsz v n xs hown ad m c news hl (hnews ad rfl) h1 h63 hbytes hbase
    unfold Oper.wp execOp
    simp only [ho, resolve, invoke, builtin, Sem.run_bind, Sem.run_pure, Result.andThen_ok, List.map_toArray, List.map_cons, List.map_nil, hs, hx, hr]
    exact h v' w' h2 h3 h5
  | none, hA, _, hx =>
    obtain ⟨rfl, rfl⟩ := hA rfl
    obtain rfl : news = [] := List.eq_nil_of_length_eq_zero (by rw [hl, Nat.zero_mul])
    have hr := run_append_owned_none (P := P) (w := W) base t o.type e i size ht hi v n xs hown
    unfold Oper.wp execOp
    simp only [ho, resolve, invoke, builtin, Sem.run_bind, Sem.run_pure, Result.andThen_ok, List.map_toArray, List.map_cons, List.map_nil, hs, hx, hr]
    exact h v W (by rw [List.append_nil]; exact hown) ⟨rfl, rfl, rfl, Nat.le_refl _, fun _ _ _ => rfl⟩ (Or.inl rfl)

/-- The last operation is a store, behind all others. -/
def InvC (S : Nat) (Ch : (Nat → Bool) → (Nat → Value) → World → Prop) (Fin : World → Prop) (d : Nat → Bool) (u : Nat → Value) (W : World) : Prop := (d S = false ∧ Ch d u W) ∨ (d S = true ∧ (∀ j, j < S → d j = true) ∧ Fin W)
theorem InvC.open {S : Nat} {Ch : (Nat → Bool) → (Nat → Value) → World → Prop} {Fin : World → Prop} {d : Nat → Bool} {u : Nat → Value} {W : World} (h : InvC S Ch Fin d u W) {j : Nat} (hd : d j = false) (hj : j ≤ S) : d S = false ∧ Ch d u W := by
  rcases h with h | ⟨h1, h2, _⟩
  · exact h
  · rcases Nat.lt_or_eq_of_le hj with h | rfl
    · rw [h2 j h] at hd; cases hd
    · rw [h1] at hd; cases hd
theorem InvC.next {S : Nat} {Ch : (Nat → Bool) → (Nat → Value) → World → Prop} {Fin : World → Prop} {d : Nat → Bool} {u : Nat → Value} {W' : World} {j : Nat} {v : Value} (h : d S = false) (hj : j < S) (hc : Ch (also d j) (upd u j v) W') : InvC S Ch Fin (also d j) (upd u j v) W' :=
  Or.inl ⟨by rw [also_other d (show S ≠ j by omega)]; exact h, hc⟩
theorem InvC.last {S : Nat} {Ch : (Nat → Bool) → (Nat → Value) → World → Prop} {Fin : World → Prop} {d : Nat → Bool} {u : Nat → Value} {W' : World} (h : ∀ j, j < S → d j = true) (hf : Fin W') : InvC S Ch Fin (also d S) u W' :=
  Or.inr ⟨also_same d S, fun j hj => by rw [also_other d (show j ≠ S by omega)]; exact h j hj, hf⟩

/-- A slice of a slice. -/
theorem run_exec_slice {P : Program} {ρ : Operand → Value} {o : Oper} {W : World} {t : TypeId} {x : Operand} {lo hi : Option Operand} {v : Value} (h : o.op = .slice t x lo hi none) (hr : (Instr.sliceAt t (ρ x) (lo.map ρ) (hi.map ρ) none).run P W = .ok v W) :
    (execOp ρ o).run P W = .ok (.value v) W := by
  unfold execOp; rw [h]
  simp [hr]

/-- What holds between the operations (ChN). -/
structure ChN (W0 : World) (ty : TypeId) (size : Nat) (val : Nat → Option Value) (x y z : List Value) (lx lz : Nat) (d : Nat → Bool) (u : Nat → Value) (W : World) : Prop where
  bel : Below W0.heap.size W0 W
  vals : ∀ j, d j = true → ∀ v, val j = some v → u j = v
  rA : d 0 = true → d 5 = false → W.ownsRow W0.heap.size ty size (u 0) 0 []
  rB : d 5 = true → d 12 = false → W.ownsRow W0.heap.size ty size (u 5) lx x
  rC : d 12 = true → d 17 = false → W.ownsRow W0.heap.size ty size (u 12) (lx + 1) (x ++ y)
  rE : d 17 = true → W.ownsRow W0.heap.size ty size (u 17) (lx + 1 + lz) (x ++ y ++ z)
  rN : d 11 = true → d 12 = false → ∃ g, u 11 = .slice (some ⟨g, 0, none⟩) 1 1 ∧ g < W.heap.size ∧ (∀ j v, y[j]? = some v → W.cell? ⟨g, j, none⟩ = some v) ∧ (d 0 = true → d 5 = false → (u 0).ownBlock ≠ some g) ∧ (d 5 = true → (u 5).ownBlock ≠ some g)
  oB : d 5 = true → d 0 = true
  oC : d 12 = true → d 5 = true
  oN : d 12 = true → d 11 = true
  oE : d 17 = true → d 12 = true

theorem ChN.start (W0 : World) (ty : TypeId) (size : Nat) (val : Nat → Option Value) (x y z : List Value) (lx lz : Nat) (u : Nat → Value) : ChN W0 ty size val x y z lx lz (fun _ => false) u W0 :=
  ⟨Below.refl _ _, nofun, nofun, nofun, nofun, nofun, nofun, nofun, nofun, nofun, nofun⟩

theorem ChN.pure {W0 W : World} {ty : TypeId} {size : Nat} {val : Nat → Option Value} {x y z : List Value} {lx lz : Nat} {d : Nat → Bool} {u : Nat → Value} (h : ChN W0 ty size val x y z lx lz d u W) {j : Nat} (hj : j ≠ 0 ∧ j ≠ 5 ∧ j ≠ 12 ∧ j ≠ 17 ∧ j ≠ 11) (v : Value) (hv : ∀ v', val j = some v' → v = v') :
    ChN W0 ty size val x y z lx lz (also d j) (upd u j v) W := by
  obtain ⟨j0, j1, j2, j3, j4⟩ := hj
  have k0 := also_other d (show 0 ≠ j by omega)
  have l0 := upd_other u v (show 0 ≠ j by omega)
  have k5 := also_other d (show 5 ≠ j by omega)
  have l5 := upd_other u v (show 5 ≠ j by omega)
  have k11 := also_other d (show 11 ≠ j by omega)
  have l11 := upd_other u v (show 11 ≠ j by omega)
  have k12 := also_other d (show 12 ≠ j by omega)
  have l12 := upd_other u v (show 12 ≠ j by omega)
  have k17 := also_other d (show 17 ≠ j by omega)
  have l17 := upd_other u v (show 17 ≠ j by omega)
  refine ⟨h.bel, fun i hi v' hv' => ?_, ?_, ?_, ?_, ?_, ?_, ?_, ?_, ?_, ?_⟩
  · by_cases hij : i = j
    · subst hij; rw [upd_same]; exact hv v' hv'
    · rw [also_other d hij] at hi; rw [upd_other u v hij]; exact h.vals i hi v' hv'
  · simp only [k0, l0, k5, l5, k11, l11, k12, l12, k17, l17]; exact h.rA
  · simp only [k0, l0, k5, l5, k11, l11, k12, l12, k17, l17]; exact h.rB
  · simp only [k0, l0, k5, l5, k11, l11, k12, l12, k17, l17]; exact h.rC
  · simp only [k0, l0, k5, l5, k11, l11, k12, l12, k17, l17]; exact h.rE
  · simp only [k0, l0, k5, l5, k11, l11, k12, l12, k17, l17]; exact h.rN
  · simp only [k0, l0, k5, l5, k11, l11, k12, l12, k17, l17]; exact h.oB
  · simp only [k0, l0, k5, l5, k11, l11, k12, l12, k17, l17]; exact h.oC
  · simp only [k0, l0, k5, l5, k11, l11, k12, l12, k17, l17]; exact h.oN
  · simp only [k0, l0, k5, l5, k11, l11, k12, l12, k17, l17]; exact h.oE

theorem ChN.mkA {W0 W : World} {ty : TypeId} {size : Nat} {val : Nat → Option Value} {x y z : List Value} {lx lz : Nat} {d : Nat → Bool} {u : Nat → Value} (h : ChN W0 ty size val x y z lx lz d u W) (hd : d 0 = false) (hval : val 0 = none)  :
    ChN W0 ty size val x y z lx lz (also d 0) (upd u 0 (.slice (some ⟨W.heap.size, 0, none⟩) 0 0)) (W.alloc (.cells #[] ty)) := by
  have k5 := also_other d (show 5 ≠ 0 by decide)
  have l5 := upd_other u (.slice (some ⟨W.heap.size, 0, none⟩) 0 0) (show 5 ≠ 0 by decide)
  have k11 := also_other d (show 11 ≠ 0 by decide)
  have l11 := upd_other u (.slice (some ⟨W.heap.size, 0, none⟩) 0 0) (show 11 ≠ 0 by decide)
  have k12 := also_other d (show 12 ≠ 0 by decide)
  have l12 := upd_other u (.slice (some ⟨W.heap.size, 0, none⟩) 0 0) (show 12 ≠ 0 by decide)
  have k17 := also_other d (show 17 ≠ 0 by decide)
  have l17 := upd_other u (.slice (some ⟨W.heap.size, 0, none⟩) 0 0) (show 17 ≠ 0 by decide)
  have k0 := also_same d 0
  have l0 := upd_same u 0 (.slice (some ⟨W.heap.size, 0, none⟩) 0 0)
  have n5 : d 5 = false := by
    cases hq : d 5 with
    | false => rfl
    | true => have := h.oB hq; rw [hd] at this; cases this
  have n12 : d 12 = false := by
    cases hq : d 12 with
    | false => rfl
    | true => have := h.oC hq; rw [n5] at this; cases this
  have n17 : d 17 = false := by
    cases hq : d 17 with
    | false => rfl
    | true => have := h.oE hq; rw [n12] at this; cases this
  have hb1 := below_one W (.cells #[] ty)
  refine ⟨h.bel.trans (hb1.mono h.bel.size), fun i hi v' hv' => ?_, ?_, ?_, ?_, ?_, ?_, ?_, ?_, ?_, ?_⟩
  · by_cases hij : i = 0
    · subst hij; rw [hval] at hv'; cases hv'
    · rw [also_other d hij] at hi; rw [upd_other u _ hij]; exact h.vals i hi v' hv'
  · simp only [k0, l0, k5, l5, k11, l11, k12, l12, k17, l17]; intro _ _; exact World.ownsRow_made W #[] 0 h.bel.size (Nat.zero_le _) (by simp)
  · simp only [k0, l0, k5, l5, k11, l11, k12, l12, k17, l17]; intro hq; rw [n5] at hq; cases hq
  · simp only [k0, l0, k5, l5, k11, l11, k12, l12, k17, l17]; intro hq; rw [n12] at hq; cases hq
  · simp only [k0, l0, k5, l5, k11, l11, k12, l12, k17, l17]; intro hq; rw [n17] at hq; cases hq
  · simp only [k0, l0, k5, l5, k11, l11, k12, l12, k17, l17]
    intro hq _
    obtain ⟨g, h1, h2, h3, h4, h5⟩ := h.rN hq n12
    refine ⟨g, h1, by simp; omega, fun j v hj => (hb1.cell (p := ⟨g, j, none⟩) h2).trans (h3 j v hj), fun _ _ => ?_, fun hq2 => by rw [n5] at hq2; cases hq2⟩
    intro he
    have : W.heap.size = g := by simpa [Value.ownBlock] using he
    omega
  · simp only [k0, l0, k5, l5, k11, l11, k12, l12, k17, l17]; intro hq; rw [n5] at hq; cases hq
  · simp only [k0, l0, k5, l5, k11, l11, k12, l12, k17, l17]; intro hq; rw [n12] at hq; cases hq
  · simp only [k0, l0, k5, l5, k11, l11, k12, l12, k17, l17]; intro hq; rw [n12] at hq; cases hq
  · simp only [k0, l0, k5, l5, k11, l11, k12, l12, k17, l17]; intro hq; rw [n17] at hq; cases hq

theorem ChN.mkN {W0 W : World} {ty : TypeId} {size : Nat} {val : Nat → Option Value} {x y z : List Value} {lx lz : Nat} {d : Nat → Bool} {u : Nat → Value} (h : ChN W0 ty size val x y z lx lz d u W) (hd : d 11 = false) (hval : val 11 = none) (hy : y.length = size) (hs : 0 < size) :
    ChN W0 ty size val x y z lx lz (also d 11) (upd u 11 (.slice (some ⟨W.heap.size, 0, none⟩) 1 1)) (W.alloc (.cells y.toArray ty)) := by
  have k0 := also_other d (show 0 ≠ 11 by decide)
  have l0 := upd_other u (.slice (some ⟨W.heap.size, 0, none⟩) 1 1) (show 0 ≠ 11 by decide)
  have k5 := also_other d (show 5 ≠ 11 by decide)
  have l5 := upd_other u (.slice (some ⟨W.heap.size, 0, none⟩) 1 1) (show 5 ≠ 11 by decide)
  have k12 := also_other d (show 12 ≠ 11 by decide)
  have l12 := upd_other u (.slice (some ⟨W.heap.size, 0, none⟩) 1 1) (show 12 ≠ 11 by decide)
  have k17 := also_other d (show 17 ≠ 11 by decide)
  have l17 := upd_other u (.slice (some ⟨W.heap.size, 0, none⟩) 1 1) (show 17 ≠ 11 by decide)
  have k11 := also_same d 11
  have l11 := upd_same u 11 (.slice (some ⟨W.heap.size, 0, none⟩) 1 1)
  have n12 : d 12 = false := by
    cases hq : d 12 with
    | false => rfl
    | true => have := h.oN hq; rw [hd] at this; cases this
  have n17 : d 17 = false := by
    cases hq : d 17 with
    | false => rfl
    | true => have := h.oE hq; rw [n12] at this; cases this
  have hb1 := below_one W (.cells y.toArray ty)
  refine ⟨h.bel.trans (hb1.mono h.bel.size), fun i hi v' hv' => ?_, ?_, ?_, ?_, ?_, ?_, ?_, ?_, ?_, ?_⟩
  · by_cases hij : i = 11
    · subst hij; rw [hval] at hv'; cases hv'
    · rw [also_other d hij] at hi; rw [upd_other u _ hij]; exact h.vals i hi v' hv'
  · simp only [k0, l0, k5, l5, k11, l11, k12, l12, k17, l17]; intro h1 h2; exact (h.rA h1 h2).alloc _
  · simp only [k0, l0, k5, l5, k11, l11, k12, l12, k17, l17]; intro h1 h2; exact (h.rB h1 h2).alloc _
  · simp only [k0, l0, k5, l5, k11, l11, k12, l12, k17, l17]; intro hq; rw [n12] at hq; cases hq
  · simp only [k0, l0, k5, l5, k11, l11, k12, l12, k17, l17]; intro hq; rw [n17] at hq; cases hq
  · simp only [k0, l0, k5, l5, k11, l11, k12, l12, k17, l17]
    intro _ _
    refine ⟨W.heap.size, rfl, by simp, fun j v hj => ?_, fun h1 h2 he => ?_, fun h1 he => ?_⟩
    · rw [World.cell?_alloc_at _ _ _ _ rfl]
      simpa using hj
    · have := ((h.rA h1 h2).lt _ he).2; omega
    · have := ((h.rB h1 n12).lt _ he).2; omega
  · simp only [k0, l0, k5, l5, k11, l11, k12, l12, k17, l17]; exact h.oB
  · simp only [k0, l0, k5, l5, k11, l11, k12, l12, k17, l17]; exact h.oC
  · simp only [k0, l0, k5, l5, k11, l11, k12, l12, k17, l17]; intro _; trivial
  · simp only [k0, l0, k5, l5, k11, l11, k12, l12, k17, l17]; exact h.oE

theorem ChN.apB {W0 W : World} {ty : TypeId} {size : Nat} {val : Nat → Option Value} {x y z : List Value} {lx lz : Nat} {d : Nat → Bool} {u : Nat → Value} (h : ChN W0 ty size val x y z lx lz d u W) (hd : d 5 = false) (hval : val 5 = none) (hp : d 0 = true) {v : Value} {W' : World} (hown : W'.ownsRow W0.heap.size ty size v lx x) (hg : W.grownBy W' (u 0).ownBlock) (hw : v.ownBlock = (u 0).ownBlock ∨ v.ownBlock = some W.heap.size) :
    ChN W0 ty size val x y z lx lz (also d 5) (upd u 5 v) W' := by
  have k0 := also_other d (show 0 ≠ 5 by decide)
  have l0 := upd_other u v (show 0 ≠ 5 by decide)
  have k11 := also_other d (show 11 ≠ 5 by decide)
  have l11 := upd_other u v (show 11 ≠ 5 by decide)
  have k12 := also_other d (show 12 ≠ 5 by decide)
  have l12 := upd_other u v (show 12 ≠ 5 by decide)
  have k17 := also_other d (show 17 ≠ 5 by decide)
  have l17 := upd_other u v (show 17 ≠ 5 by decide)
  have k5 := also_same d 5
  have l5 := upd_same u 5 v
  have n12 : d 12 = false := by
    cases hq : d 12 with
    | false => rfl
    | true => have := h.oC hq; rw [hd] at this; cases this
  have n17 : d 17 = false := by
    cases hq : d 17 with
    | false => rfl
    | true => have := h.oE hq; rw [n12] at this; cases this
  have hrow := h.rA hp hd
  have hb1 : Below W0.heap.size W W' := (Below.refl _ _).grown hg h.bel.size (fun k hk => (hrow.lt k hk).1)
  refine ⟨h.bel.trans hb1, fun i hi v' hv' => ?_, ?_, ?_, ?_, ?_, ?_, ?_, ?_, ?_, ?_⟩
  · by_cases hij : i = 5
    · subst hij; rw [hval] at hv'; cases hv'
    · rw [also_other d hij] at hi; rw [upd_other u _ hij]; exact h.vals i hi v' hv'
  · simp only [k0, l0, k5, l5, k11, l11, k12, l12, k17, l17]; intro _ hq; cases hq
  · simp only [k0, l0, k5, l5, k11, l11, k12, l12, k17, l17]; intro _ _; exact hown
  · simp only [k0, l0, k5, l5, k11, l11, k12, l12, k17, l17]; intro hq; rw [n12] at hq; cases hq
  · simp only [k0, l0, k5, l5, k11, l11, k12, l12, k17, l17]; intro hq; rw [n17] at hq; cases hq
  · simp only [k0, l0, k5, l5, k11, l11, k12, l12, k17, l17]
    intro hq _
    obtain ⟨g, h1, h2, h3, h4, h5⟩ := h.rN hq n12
    have hne := h4 hp hd
    refine ⟨g, h1, Nat.lt_of_lt_of_le h2 hb1.size, fun j v hj => hg.cell (h3 j v hj) (fun he => hne he.symm), nofun, fun _ he => ?_⟩
    rcases hw with hw | hw
    · exact hne (hw ▸ he)
    · rw [hw] at he
      have := Option.some.inj he
      omega
  · simp only [k0, l0, k5, l5, k11, l11, k12, l12, k17, l17]; intro _; exact hp
  · simp only [k0, l0, k5, l5, k11, l11, k12, l12, k17, l17]; intro hq; rw [n12] at hq; cases hq
  · simp only [k0, l0, k5, l5, k11, l11, k12, l12, k17, l17]; intro hq; rw [n12] at hq; cases hq
  · simp only [k0, l0, k5, l5, k11, l11, k12, l12, k17, l17]; exact h.oE

theorem ChN.apC {W0 W : World} {ty : TypeId} {size : Nat} {val : Nat → Option Value} {x y z : List Value} {lx lz : Nat} {d : Nat → Bool} {u : Nat → Value} (h : ChN W0 ty size val x y z lx lz d u W) (hd : d 12 = false) (hval : val 12 = none) (hp : d 5 = true) (hn : d 11 = true) {v : Value} {W' : World} (hown : W'.ownsRow W0.heap.size ty size v (lx + 1) (x ++ y)) (hg : W.grownBy W' (u 5).ownBlock) (hw : v.ownBlock = (u 5).ownBlock ∨ v.ownBlock = some W.heap.size) :
    ChN W0 ty size val x y z lx lz (also d 12) (upd u 12 v) W' := by
  have k0 := also_other d (show 0 ≠ 12 by decide)
  have l0 := upd_other u v (show 0 ≠ 12 by decide)
  have k5 := also_other d (show 5 ≠ 12 by decide)
  have l5 := upd_other u v (show 5 ≠ 12 by decide)
  have k11 := also_other d (show 11 ≠ 12 by decide)
  have l11 := upd_other u v (show 11 ≠ 12 by decide)
  have k17 := also_other d (show 17 ≠ 12 by decide)
  have l17 := upd_other u v (show 17 ≠ 12 by decide)
  have k12 := also_same d 12
  have l12 := upd_same u 12 v
  have n17 : d 17 = false := by
    cases hq : d 17 with
    | false => rfl
    | true => have := h.oE hq; rw [hd] at this; cases this
  have hrow := h.rB hp hd
  have hb1 : Below W0.heap.size W W' := (Below.refl _ _).grown hg h.bel.size (fun k hk => (hrow.lt k hk).1)
  refine ⟨h.bel.trans hb1, fun i hi v' hv' => ?_, ?_, ?_, ?_, ?_, ?_, ?_, ?_, ?_, ?_⟩
  · by_cases hij : i = 12
    · subst hij; rw [hval] at hv'; cases hv'
    · rw [also_other d hij] at hi; rw [upd_other u _ hij]; exact h.vals i hi v' hv'
  · simp only [k0, l0, k5, l5, k11, l11, k12, l12, k17, l17]; intro _ hq; rw [hp] at hq; cases hq
  · simp only [k0, l0, k5, l5, k11, l11, k12, l12, k17, l17]; intro _ hq; cases hq
  · simp only [k0, l0, k5, l5, k11, l11, k12, l12, k17, l17]; intro _ _; exact hown
  · simp only [k0, l0, k5, l5, k11, l11, k12, l12, k17, l17]; intro hq; rw [n17] at hq; cases hq
  · simp only [k0, l0, k5, l5, k11, l11, k12, l12, k17, l17]; intro _ hq; cases hq
  · simp only [k0, l0, k5, l5, k11, l11, k12, l12, k17, l17]; exact h.oB
  · simp only [k0, l0, k5, l5, k11, l11, k12, l12, k17, l17]; intro _; exact hp
  · simp only [k0, l0, k5, l5, k11, l11, k12, l12, k17, l17]; intro _; exact hn
  · simp only [k0, l0, k5, l5, k11, l11, k12, l12, k17, l17]; intro _; trivial

theorem ChN.apE {W0 W : World} {ty : TypeId} {size : Nat} {val : Nat → Option Value} {x y z : List Value} {lx lz : Nat} {d : Nat → Bool} {u : Nat → Value} (h : ChN W0 ty size val x y z lx lz d u W) (hd : d 17 = false) (hval : val 17 = none) (hp : d 12 = true) {v : Value} {W' : World} (hown : W'.ownsRow W0.heap.size ty size v (lx + 1 + lz) (x ++ y ++ z)) (hg : W.grownBy W' (u 12).ownBlock) (hw : v.ownBlock = (u 12).ownBlock ∨ v.ownBlock = some W.heap.size) :
    ChN W0 ty size val x y z lx lz (also d 17) (upd u 17 v) W' := by
  have k0 := also_other d (show 0 ≠ 17 by decide)
  have l0 := upd_other u v (show 0 ≠ 17 by decide)
  have k5 := also_other d (show 5 ≠ 17 by decide)
  have l5 := upd_other u v (show 5 ≠ 17 by decide)
  have k11 := also_other d (show 11 ≠ 17 by decide)
  have l11 := upd_other u v (show 11 ≠ 17 by decide)
  have k12 := also_other d (show 12 ≠ 17 by decide)
  have l12 := upd_other u v (show 12 ≠ 17 by decide)
  have k17 := also_same d 17
  have l17 := upd_same u 17 v
  have hrow := h.rC hp hd
  have hb1 : Below W0.heap.size W W' := (Below.refl _ _).grown hg h.bel.size (fun k hk => (hrow.lt k hk).1)
  have hb := h.oC hp
  have hn := h.oN hp
  refine ⟨h.bel.trans hb1, fun i hi v' hv' => ?_, ?_, ?_, ?_, ?_, ?_, ?_, ?_, ?_, ?_⟩
  · by_cases hij : i = 17
    · subst hij; rw [hval] at hv'; cases hv'
    · rw [also_other d hij] at hi; rw [upd_other u _ hij]; exact h.vals i hi v' hv'
  · simp only [k0, l0, k5, l5, k11, l11, k12, l12, k17, l17]; intro _ hq; rw [hb] at hq; cases hq
  · simp only [k0, l0, k5, l5, k11, l11, k12, l12, k17, l17]; intro _ hq; rw [hp] at hq; cases hq
  · simp only [k0, l0, k5, l5, k11, l11, k12, l12, k17, l17]; intro _ hq; cases hq
  · simp only [k0, l0, k5, l5, k11, l11, k12, l12, k17, l17]; intro _; exact hown
  · simp only [k0, l0, k5, l5, k11, l11, k12, l12, k17, l17]; intro _ hq; rw [hp] at hq; cases hq
  · simp only [k0, l0, k5, l5, k11, l11, k12, l12, k17, l17]; exact h.oB
  · simp only [k0, l0, k5, l5, k11, l11, k12, l12, k17, l17]; exact h.oC
  · simp only [k0, l0, k5, l5, k11, l11, k12, l12, k17, l17]; exact h.oN
  · simp only [k0, l0, k5, l5, k11, l11, k12, l12, k17, l17]; intro _; exact hp

/-- What holds between the operations (ChP). -/
structure ChP (W0 : World) (ty : TypeId) (size : Nat) (val : Nat → Option Value) (x y z : List Value) (lx lz : Nat) (d : Nat → Bool) (u : Nat → Value) (W : World) : Prop where
  bel : Below W0.heap.size W0 W
  vals : ∀ j, d j = true → ∀ v, val j = some v → u j = v
  rA : d 0 = true → d 5 = false → W.ownsRow W0.heap.size ty size (u 0) 0 []
  rB : d 5 = true → d 8 = false → W.ownsRow W0.heap.size ty size (u 5) lx x
  rC : d 8 = true → d 13 = false → W.ownsRow W0.heap.size ty size (u 8) (lx + 1) (x ++ y)
  rE : d 13 = true → W.ownsRow W0.heap.size ty size (u 13) (lx + 1 + lz) (x ++ y ++ z)
  rN : d 7 = true → d 8 = false → ∃ g, u 7 = .slice (some ⟨g, 0, none⟩) 1 1 ∧ g < W.heap.size ∧ (∀ j v, y[j]? = some v → W.cell? ⟨g, j, none⟩ = some v) ∧ (d 0 = true → d 5 = false → (u 0).ownBlock ≠ some g) ∧ (d 5 = true → (u 5).ownBlock ≠ some g)
  oB : d 5 = true → d 0 = true
  oC : d 8 = true → d 5 = true
  oN : d 8 = true → d 7 = true
  oE : d 13 = true → d 8 = true

theorem ChP.start (W0 : World) (ty : TypeId) (size : Nat) (val : Nat → Option Value) (x y z : List Value) (lx lz : Nat) (u : Nat → Value) : ChP W0 ty size val x y z lx lz (fun _ => false) u W0 :=
  ⟨Below.refl _ _, nofun, nofun, nofun, nofun, nofun, nofun, nofun, nofun, nofun, nofun⟩

theorem ChP.pure {W0 W : World} {ty : TypeId} {size : Nat} {val : Nat → Option Value} {x y z : List Value} {lx lz : Nat} {d : Nat → Bool} {u : Nat → Value} (h : ChP W0 ty size val x y z lx lz d u W) {j : Nat} (hj : j ≠ 0 ∧ j ≠ 5 ∧ j ≠ 8 ∧ j ≠ 13 ∧ j ≠ 7) (v : Value) (hv : ∀ v', val j = some v' → v = v') :
    ChP W0 ty size val x y z lx lz (also d j) (upd u j v) W := by
  obtain ⟨j0, j1, j2, j3, j4⟩ := hj
  have k0 := also_other d (show 0 ≠ j by omega)
  have l0 := upd_other u v (show 0 ≠ j by omega)
  have k5 := also_other d (show 5 ≠ j by omega)
  have l5 := upd_other u v (show 5 ≠ j by omega)
  have k7 := also_other d (show 7 ≠ j by omega)
  have l7 := upd_other u v (show 7 ≠ j by omega)
  have k8 := also_other d (show 8 ≠ j by omega)
  have l8 := upd_other u v (show 8 ≠ j by omega)
  have k13 := also_other d (show 13 ≠ j by omega)
  have l13 := upd_other u v (show 13 ≠ j by omega)
  refine ⟨h.bel, fun i hi v' hv' => ?_, ?_, ?_, ?_, ?_, ?_, ?_, ?_, ?_, ?_⟩
  · by_cases hij : i = j
    · subst hij; rw [upd_same]; exact hv v' hv'
    · rw [also_other d hij] at hi; rw [upd_other u v hij]; exact h.vals i hi v' hv'
  · simp only [k0, l0, k5, l5, k7, l7, k8, l8, k13, l13]; exact h.rA
  · simp only [k0, l0, k5, l5, k7, l7, k8, l8, k13, l13]; exact h.rB
  · simp only [k0, l0, k5, l5, k7, l7, k8, l8, k13, l13]; exact h.rC
  · simp only [k0, l0, k5, l5, k7, l7, k8, l8, k13, l13]; exact h.rE
  · simp only [k0, l0, k5, l5, k7, l7, k8, l8, k13, l13]; exact h.rN
  · simp only [k0, l0, k5, l5, k7, l7, k8, l8, k13, l13]; exact h.oB
  · simp only [k0, l0, k5, l5, k7, l7, k8, l8, k13, l13]; exact h.oC
  · simp only [k0, l0, k5, l5, k7, l7, k8, l8, k13, l13]; exact h.oN
  · simp only [k0, l0, k5, l5, k7, l7, k8, l8, k13, l13]; exact h.oE

theorem ChP.mkA {W0 W : World} {ty : TypeId} {size : Nat} {val : Nat → Option Value} {x y z : List Value} {lx lz : Nat} {d : Nat → Bool} {u : Nat → Value} (h : ChP W0 ty size val x y z lx lz d u W) (hd : d 0 = false) (hval : val 0 = none)  :
    ChP W0 ty size val x y z lx lz (also d 0) (upd u 0 (.slice (some ⟨W.heap.size, 0, none⟩) 0 0)) (W.alloc (.cells #[] ty)) := by
  have k5 := also_other d (show 5 ≠ 0 by decide)
  have l5 := upd_other u (.slice (some ⟨W.heap.size, 0, none⟩) 0 0) (show 5 ≠ 0 by decide)
  have k7 := also_other d (show 7 ≠ 0 by decide)
  have l7 := upd_other u (.slice (some ⟨W.heap.size, 0, none⟩) 0 0) (show 7 ≠ 0 by decide)
  have k8 := also_other d (show 8 ≠ 0 by decide)
  have l8 := upd_other u (.slice (some ⟨W.heap.size, 0, none⟩) 0 0) (show 8 ≠ 0 by decide)
  have k13 := also_other d (show 13 ≠ 0 by decide)
  have l13 := upd_other u (.slice (some ⟨W.heap.size, 0, none⟩) 0 0) (show 13 ≠ 0 by decide)
  have k0 := also_same d 0
  have l0 := upd_same u 0 (.slice (some ⟨W.heap.size, 0, none⟩) 0 0)
  have n5 : d 5 = false := by
    cases hq : d 5 with
    | false => rfl
    | true => have := h.oB hq; rw [hd] at this; cases this
  have n8 : d 8 = false := by
    cases hq : d 8 with
    | false => rfl
    | true => have := h.oC hq; rw [n5] at this; cases this
  have n13 : d 13 = false := by
    cases hq : d 13 with
    | false => rfl
    | true => have := h.oE hq; rw [n8] at this; cases this
  have hb1 := below_one W (.cells #[] ty)
  refine ⟨h.bel.trans (hb1.mono h.bel.size), fun i hi v' hv' => ?_, ?_, ?_, ?_, ?_, ?_, ?_, ?_, ?_, ?_⟩
  · by_cases hij : i = 0
    · subst hij; rw [hval] at hv'; cases hv'
    · rw [also_other d hij] at hi; rw [upd_other u _ hij]; exact h.vals i hi v' hv'
  · simp only [k0, l0, k5, l5, k7, l7, k8, l8, k13, l13]; intro _ _; exact World.ownsRow_made W #[] 0 h.bel.size (Nat.zero_le _) (by simp)
  · simp only [k0, l0, k5, l5, k7, l7, k8, l8, k13, l13]; intro hq; rw [n5] at hq; cases hq
  · simp only [k0, l0, k5, l5, k7, l7, k8, l8, k13, l13]; intro hq; rw [n8] at hq; cases hq
  · simp only [k0, l0, k5, l5, k7, l7, k8, l8, k13, l13]; intro hq; rw [n13] at hq; cases hq
  · simp only [k0, l0, k5, l5, k7, l7, k8, l8, k13, l13]
    intro hq _
    obtain ⟨g, h1, h2, h3, h4, h5⟩ := h.rN hq n8
    refine ⟨g, h1, by simp; omega, fun j v hj => (hb1.cell (p := ⟨g, j, none⟩) h2).trans (h3 j v hj), fun _ _ => ?_, fun hq2 => by rw [n5] at hq2; cases hq2⟩
    intro he
    have : W.heap.size = g := by simpa [Value.ownBlock] using he
    omega
  · simp only [k0, l0, k5, l5, k7, l7, k8, l8, k13, l13]; intro hq; rw [n5] at hq; cases hq
  · simp only [k0, l0, k5, l5, k7, l7, k8, l8, k13, l13]; intro hq; rw [n8] at hq; cases hq
  · simp only [k0, l0, k5, l5, k7, l7, k8, l8, k13, l13]; intro hq; rw [n8] at hq; cases hq
  · simp only [k0, l0, k5, l5, k7, l7, k8, l8, k13, l13]; intro hq; rw [n13] at hq; cases hq

theorem ChP.mkN {W0 W : World} {ty : TypeId} {size : Nat} {val : Nat → Option Value} {x y z : List Value} {lx lz : Nat} {d : Nat → Bool} {u : Nat → Value} (h : ChP W0 ty size val x y z lx lz d u W) (hd : d 7 = false) (hval : val 7 = none) (hy : y.length = size) (hs : 0 < size) :
    ChP W0 ty size val x y z lx lz (also d 7) (upd u 7 (.slice (some ⟨W.heap.size, 0, none⟩) 1 1)) (W.alloc (.cells y.toArray ty)) := by
  have k0 := also_other d (show 0 ≠ 7 by decide)
  have l0 := upd_other u (.slice (some ⟨W.heap.size, 0, none⟩) 1 1) (show 0 ≠ 7 by decide)
  have k5 := also_other d (show 5 ≠ 7 by decide)
  have l5 := upd_other u (.slice (some ⟨W.heap.size, 0, none⟩) 1 1) (show 5 ≠ 7 by decide)
  have k8 := also_other d (show 8 ≠ 7 by decide)
  have l8 := upd_other u (.slice (some ⟨W.heap.size, 0, none⟩) 1 1) (show 8 ≠ 7 by decide)
  have k13 := also_other d (show 13 ≠ 7 by decide)
  have l13 := upd_other u (.slice (some ⟨W.heap.size, 0, none⟩) 1 1) (show 13 ≠ 7 by decide)
  have k7 := also_same d 7
  have l7 := upd_same u 7 (.slice (some ⟨W.heap.size, 0, none⟩) 1 1)
  have n8 : d 8 = false := by
    cases hq : d 8 with
    | false => rfl
    | true => have := h.oN hq; rw [hd] at this; cases this
  have n13 : d 13 = false := by
    cases hq : d 13 with
    | false => rfl
    | true => have := h.oE hq; rw [n8] at this; cases this
  have hb1 := below_one W (.cells y.toArray ty)
  refine ⟨h.bel.trans (hb1.mono h.bel.size), fun i hi v' hv' => ?_, ?_, ?_, ?_, ?_, ?_, ?_, ?_, ?_, ?_⟩
  · by_cases hij : i = 7
    · subst hij; rw [hval] at hv'; cases hv'
    · rw [also_other d hij] at hi; rw [upd_other u _ hij]; exact h.vals i hi v' hv'
  · simp only [k0, l0, k5, l5, k7, l7, k8, l8, k13, l13]; intro h1 h2; exact (h.rA h1 h2).alloc _
  · simp only [k0, l0, k5, l5, k7, l7, k8, l8, k13, l13]; intro h1 h2; exact (h.rB h1 h2).alloc _
  · simp only [k0, l0, k5, l5, k7, l7, k8, l8, k13, l13]; intro hq; rw [n8] at hq; cases hq
  · simp only [k0, l0, k5, l5, k7, l7, k8, l8, k13, l13]; intro hq; rw [n13] at hq; cases hq
  · simp only [k0, l0, k5, l5, k7, l7, k8, l8, k13, l13]
    intro _ _
    refine ⟨W.heap.size, rfl, by simp, fun j v hj => ?_, fun h1 h2 he => ?_, fun h1 he => ?_⟩
    · rw [World.cell?_alloc_at _ _ _ _ rfl]
      simpa using hj
    · have := ((h.rA h1 h2).lt _ he).2; omega
    · have := ((h.rB h1 n8).lt _ he).2; omega
  · simp only [k0, l0, k5, l5, k7, l7, k8, l8, k13, l13]; exact h.oB
  · simp only [k0, l0, k5, l5, k7, l7, k8, l8, k13, l13]; exact h.oC
  · simp only [k0, l0, k5, l5, k7, l7, k8, l8, k13, l13]; intro _; trivial
  · simp only [k0, l0, k5, l5, k7, l7, k8, l8, k13, l13]; exact h.oE

theorem ChP.apB {W0 W : World} {ty : TypeId} {size : Nat} {val : Nat → Option Value} {x y z : List Value} {lx lz : Nat} {d : Nat → Bool} {u : Nat → Value} (h : ChP W0 ty size val x y z lx lz d u W) (hd : d 5 = false) (hval : val 5 = none) (hp : d 0 = true) {v : Value} {W' : World} (hown : W'.ownsRow W0.heap.size ty size v lx x) (hg : W.grownBy W' (u 0).ownBlock) (hw : v.ownBlock = (u 0).ownBlock ∨ v.ownBlock = some W.heap.size) :
    ChP W0 ty size val x y z lx lz (also d 5) (upd u 5 v) W' := by
  have k0 := also_other d (show 0 ≠ 5 by decide)
  have l0 := upd_other u v (show 0 ≠ 5 by decide)
  have k7 := also_other d (show 7 ≠ 5 by decide)
  have l7 := upd_other u v (show 7 ≠ 5 by decide)
  have k8 := also_other d (show 8 ≠ 5 by decide)
  have l8 := upd_other u v (show 8 ≠ 5 by decide)
  have k13 := also_other d (show 13 ≠ 5 by decide)
  have l13 := upd_other u v (show 13 ≠ 5 by decide)
  have k5 := also_same d 5
  have l5 := upd_same u 5 v
  have n8 : d 8 = false := by
    cases hq : d 8 with
    | false => rfl
    | true => have := h.oC hq; rw [hd] at this; cases this
  have n13 : d 13 = false := by
    cases hq : d 13 with
    | false => rfl
    | true => have := h.oE hq; rw [n8] at this; cases this
  have hrow := h.rA hp hd
  have hb1 : Below W0.heap.size W W' := (Below.refl _ _).grown hg h.bel.size (fun k hk => (hrow.lt k hk).1)
  refine ⟨h.bel.trans hb1, fun i hi v' hv' => ?_, ?_, ?_, ?_, ?_, ?_, ?_, ?_, ?_, ?_⟩
  · by_cases hij : i = 5
    · subst hij; rw [hval] at hv'; cases hv'
    · rw [also_other d hij] at hi; rw [upd_other u _ hij]; exact h.vals i hi v' hv'
  · simp only [k0, l0, k5, l5, k7, l7, k8, l8, k13, l13]; intro _ hq; cases hq
  · simp only [k0, l0, k5, l5, k7, l7, k8, l8, k13, l13]; intro _ _; exact hown
  · simp only [k0, l0, k5, l5, k7, l7, k8, l8, k13, l13]; intro hq; rw [n8] at hq; cases hq
  · simp only [k0, l0, k5, l5, k7, l7, k8, l8, k13, l13]; intro hq; rw [n13] at hq; cases hq
  · simp only [k0, l0, k5, l5, k7, l7, k8, l8, k13, l13]
    intro hq _
    obtain ⟨g, h1, h2, h3, h4, h5⟩ := h.rN hq n8
    have hne := h4 hp hd
    refine ⟨g, h1, Nat.lt_of_lt_of_le h2 hb1.size, fun j v hj => hg.cell (h3 j v hj) (fun he => hne he.symm), nofun, fun _ he => ?_⟩
    rcases hw with hw | hw
    · exact hne (hw ▸ he)
    · rw [hw] at he
      have := Option.some.inj he
      omega
  · simp only [k0, l0, k5, l5, k7, l7, k8, l8, k13, l13]; intro _; exact hp
  · simp only [k0, l0, k5, l5, k7, l7, k8, l8, k13, l13]; intro hq; rw [n8] at hq; cases hq
  · simp only [k0, l0, k5, l5, k7, l7, k8, l8, k13, l13]; intro hq; rw [n8] at hq; cases hq
  · simp only [k0, l0, k5, l5, k7, l7, k8, l8, k13, l13]; exact h.oE

theorem ChP.apC {W0 W : World} {ty : TypeId} {size : Nat} {val : Nat → Option Value} {x y z : List Value} {lx lz : Nat} {d : Nat → Bool} {u : Nat → Value} (h : ChP W0 ty size val x y z lx lz d u W) (hd : d 8 = false) (hval : val 8 = none) (hp : d 5 = true) (hn : d 7 = true) {v : Value} {W' : World} (hown : W'.ownsRow W0.heap.size ty size v (lx + 1) (x ++ y)) (hg : W.grownBy W' (u 5).ownBlock) (hw : v.ownBlock = (u 5).ownBlock ∨ v.ownBlock = some W.heap.size) :
    ChP W0 ty size val x y z lx lz (also d 8) (upd u 8 v) W' := by
  have k0 := also_other d (show 0 ≠ 8 by decide)
  have l0 := upd_other u v (show 0 ≠ 8 by decide)
  have k5 := also_other d (show 5 ≠ 8 by decide)
  have l5 := upd_other u v (show 5 ≠ 8 by decide)
  have k7 := also_other d (show 7 ≠ 8 by decide)
  have l7 := upd_other u v (show 7 ≠ 8 by decide)
  have k13 := also_other d (show 13 ≠ 8 by decide)
  have l13 := upd_other u v (show 13 ≠ 8 by decide)
  have k8 := also_same d 8
  have l8 := upd_same u 8 v
  have n13 : d 13 = false := by
    cases hq : d 13 with
    | false => rfl
    | true => have := h.oE hq; rw [hd] at this; cases this
  have hrow := h.rB hp hd
  have hb1 : Below W0.heap.size W W' := (Below.refl _ _).grown hg h.bel.size (fun k hk => (hrow.lt k hk).1)
  refine ⟨h.bel.trans hb1, fun i hi v' hv' => ?_, ?_, ?_, ?_, ?_, ?_, ?_, ?_, ?_, ?_⟩
  · by_cases hij : i = 8
    · subst hij; rw [hval] at hv'; cases hv'
    · rw [also_other d hij] at hi; rw [upd_other u _ hij]; exact h.vals i hi v' hv'
  · simp only [k0, l0, k5, l5, k7, l7, k8, l8, k13, l13]; intro _ hq; rw [hp] at hq; cases hq
  · simp only [k0, l0, k5, l5, k7, l7, k8, l8, k13, l13]; intro _ hq; cases hq
  · simp only [k0, l0, k5, l5, k7, l7, k8, l8, k13, l13]; intro _ _; exact hown
  · simp only [k0, l0, k5, l5, k7, l7, k8, l8, k13, l13]; intro hq; rw [n13] at hq; cases hq
  · simp only [k0, l0, k5, l5, k7, l7, k8, l8, k13, l13]; intro _ hq; cases hq
  · simp only [k0, l0, k5, l5, k7, l7, k8, l8, k13, l13]; exact h.oB
  · simp only [k0, l0, k5, l5, k7, l7, k8, l8, k13, l13]; intro _; exact hp
  · simp only [k0, l0, k5, l5, k7, l7, k8, l8, k13, l13]; intro _; exact hn
  · simp only [k0, l0, k5, l5, k7, l7, k8, l8, k13, l13]; intro _; trivial

theorem ChP.apE {W0 W : World} {ty : TypeId} {size : Nat} {val : Nat → Option Value} {x y z : List Value} {lx lz : Nat} {d : Nat → Bool} {u : Nat → Value} (h : ChP W0 ty size val x y z lx lz d u W) (hd : d 13 = false) (hval : val 13 = none) (hp : d 8 = true) {v : Value} {W' : World} (hown : W'.ownsRow W0.heap.size ty size v (lx + 1 + lz) (x ++ y ++ z)) (hg : W.grownBy W' (u 8).ownBlock) (hw : v.ownBlock = (u 8).ownBlock ∨ v.ownBlock = some W.heap.size) :
    ChP W0 ty size val x y z lx lz (also d 13) (upd u 13 v) W' := by
  have k0 := also_other d (show 0 ≠ 13 by decide)
  have l0 := upd_other u v (show 0 ≠ 13 by decide)
  have k5 := also_other d (show 5 ≠ 13 by decide)
  have l5 := upd_other u v (show 5 ≠ 13 by decide)
  have k7 := also_other d (show 7 ≠ 13 by decide)
  have l7 := upd_other u v (show 7 ≠ 13 by decide)
  have k8 := also_other d (show 8 ≠ 13 by decide)
  have l8 := upd_other u v (show 8 ≠ 13 by decide)
  have k13 := also_same d 13
  have l13 := upd_same u 13 v
  have hrow := h.rC hp hd
  have hb1 : Below W0.heap.size W W' := (Below.refl _ _).grown hg h.bel.size (fun k hk => (hrow.lt k hk).1)
  have hb := h.oC hp
  have hn := h.oN hp
  refine ⟨h.bel.trans hb1, fun i hi v' hv' => ?_, ?_, ?_, ?_, ?_, ?_, ?_, ?_, ?_, ?_⟩
  · by_cases hij : i = 13
    · subst hij; rw [hval] at hv'; cases hv'
    · rw [also_other d hij] at hi; rw [upd_other u _ hij]; exact h.vals i hi v' hv'
  · simp only [k0, l0, k5, l5, k7, l7, k8, l8, k13, l13]; intro _ hq; rw [hb] at hq; cases hq
  · simp only [k0, l0, k5, l5, k7, l7, k8, l8, k13, l13]; intro _ hq; rw [hp] at hq; cases hq
  · simp only [k0, l0, k5, l5, k7, l7, k8, l8, k13, l13]; intro _ hq; cases hq
  · simp only [k0, l0, k5, l5, k7, l7, k8, l8, k13, l13]; intro _; exact hown
  · simp only [k0, l0, k5, l5, k7, l7, k8, l8, k13, l13]; intro _ hq; rw [hp] at hq; cases hq
  · simp only [k0, l0, k5, l5, k7, l7, k8, l8, k13, l13]; exact h.oB
  · simp only [k0, l0, k5, l5, k7, l7, k8, l8, k13, l13]; exact h.oC
  · simp only [k0, l0, k5, l5, k7, l7, k8, l8, k13, l13]; exact h.oN
  · simp only [k0, l0, k5, l5, k7, l7, k8, l8, k13, l13]; intro _; exact hp

end Go.Proofs.YtkehnmapnckdgaaDoor

/- A type that is put together part by part: its cells, and its two lists in blocks of their own. -/
namespace Go.Proofs.YtkehnmapnckdgaaDoor
open Go.RowKit Shp
set_option linter.unusedVariables false

/-! ### Fields in a list -/
def pr (x : El) : Fld := (x.n, x.t)
def cells5 (x : El) : List Value := [.int .i64 x.t.kind, .string ⟨x.t.of_.toArray⟩, .string ⟨x.t.name.toArray⟩, .slice x.q.A x.t.names.length x.q.c, .slice x.q.P x.t.parts.length x.q.d]
def cellsE (l : List El) : List Value := l.flatMap cells5
def namesE (l : List (List UInt8)) : List Value := l.map fun n => .string ⟨n.toArray⟩
theorem cellsE_append (l m : List El) : cellsE (l ++ m) = cellsE l ++ cellsE m := by simp [cellsE]
theorem cellsE_one (x : El) : cellsE [x] = cells5 x := by simp [cellsE]
theorem cellsE_len (l : List El) : (cellsE l).length = l.length * 5 := by
  induction l with
  | nil => rfl
  | cons a l ih => rw [show a :: l = [a] ++ l from rfl, cellsE_append, List.length_append, ih, cellsE_one]; simp [cells5]; omega
theorem namesE_len (l : List (List UInt8)) : (namesE l).length = l.length := by simp [namesE]
theorem namesE_append (l m : List (List UInt8)) : namesE (l ++ m) = namesE l ++ namesE m := by simp [namesE]
theorem namesE_one (x : List UInt8) : namesE [x] = [.string ⟨x.toArray⟩] := rfl
theorem cells5_one (x : El) : ∀ u ∈ cells5 x, u.oneCell' = true := by
  intro u hu
  simp only [cells5, List.mem_cons, List.not_mem_nil, or_false] at hu
  rcases hu with rfl | rfl | rfl | rfl | rfl <;> rfl
theorem cellsE_ones (l : List El) : ∀ u ∈ cellsE l, u.oneCell' = true := by
  intro u hu
  obtain ⟨x, _, hx⟩ := List.mem_flatMap.1 hu
  exact cells5_one x u hx
theorem namesE_ones (l : List (List UInt8)) : ∀ u ∈ namesE l, u.oneCell' = true := by
  intro u hu
  obtain ⟨x, _, rfl⟩ := List.mem_map.1 hu
  rfl
theorem cellsE_at {l : List El} {i c : Nat} (hi : i < l.length) (hc : c < 5) : (cellsE l)[i * 5 + c]? = (cells5 (l[i]'hi))[c]? := by
  have h1 : l = l.take i ++ ([l[i]'hi] ++ l.drop (i + 1)) := by rw [List.singleton_append, List.getElem_cons_drop, List.take_append_drop]
  have h2 : (cellsE (l.take i)).length = i * 5 := by rw [cellsE_len, List.length_take]; omega
  have h3 : (cells5 (l[i]'hi)).length = 5 := rfl
  conv => lhs; rw [h1]
  rw [cellsE_append, cellsE_append, cellsE_one, List.getElem?_append_right (by omega), h2, Nat.add_sub_cancel_left, List.getElem?_append_left (by omega)]

/-! ### Where a field goes -/
theorem ins_at {x : Fld} : ∀ {L : List Fld} {k : Nat}, k ≤ L.length → (∀ j (h : j < L.length), j < k → (L[j]'h).1 < x.1) → (∀ h : k < L.length, ¬ (L[k]'h).1 < x.1) → ins x L = L.take k ++ x :: L.drop k
  | [], k, hk, _, _ => by
    have : k = 0 := by simpa using hk
    subst this; rfl
  | y :: L, 0, _, _, h2 => by
    have := h2 (by simp)
    simp only [List.getElem_cons_zero] at this
    simp [ins, this]
  | y :: L, k + 1, hk, h1, h2 => by
    have h0 := h1 0 (by simp) (by omega)
    simp only [List.getElem_cons_zero] at h0
    unfold ins
    rw [if_pos h0, ins_at (L := L) (k := k) (by simpa using hk) (fun j h hj => by
      have := h1 (j + 1) (by simpa using h) (by omega)
      simpa using this) (fun h => by
      have := h2 (by simpa using h)
      simpa using this)]
    rfl
theorem sortF_next {L : List Fld} {i : Nat} (h : i < L.length) : sortF (L.take (i + 1)) = ins (L[i]'h) (sortF (L.take i)) := by
  rw [take_next h]; unfold sortF; rw [List.foldl_append]; rfl

/-- A row's block. -/
def rowB (A : Option Addr) : Option Nat := A.map (·.block)
theorem rowB_own (A : Option Addr) (n c : Nat) : Value.ownBlock (.slice A n c) = rowB A := by cases A <;> rfl

/-- What is put together, so far. -/
structure OutS (W1 W : World) (ob : Nat) (k : Int) (o n : List UInt8) (nl : List (List UInt8)) (l : List El) (AN : Option Addr) (cN : Nat) (AP : Option Addr) (cP : Nat) : Prop where
  up : UpF [ob] W1 W
  lt : ob < W1.heap.size
  c0 : W.cell? ⟨ob, 0, none⟩ = some (.int .i64 k)
  c1 : W.cell? ⟨ob, 1, none⟩ = some (.string ⟨o.toArray⟩)
  c2 : W.cell? ⟨ob, 2, none⟩ = some (.string ⟨n.toArray⟩)
  c3 : W.cell? ⟨ob, 3, none⟩ = some (.slice AN nl.length cN)
  c4 : W.cell? ⟨ob, 4, none⟩ = some (.slice AP l.length cP)
  fz : ∀ j, W.frozen? ⟨ob, j, none⟩ = false
  rN : W.ownsRow W1.heap.size 9 1 (.slice AN nl.length cN) nl.length (namesE nl)
  rP : W.ownsRow W1.heap.size 25 5 (.slice AP l.length cP) l.length (cellsE l)
  ne : rowB AN = none ∨ rowB AN ≠ rowB AP
  own : ∀ x ∈ l, Own W x.q x.t x.F
  fs : ∀ x ∈ l, ∀ b ∈ x.F, W1.heap.size ≤ b ∧ rowB AN ≠ some b ∧ rowB AP ≠ some b

section
variable {W1 W : World} {ob : Nat} {k : Int} {o n : List UInt8} {nl : List (List UInt8)} {l : List El} {AN AP : Option Addr} {cN cP : Nat}

theorem OutS.start {W1 : World} {ob : Nat} (k : Int) (o n : List UInt8) (h : Box5 W1 ob ⟨k, o, n, [], []⟩ noneQ) (hf : ∀ j, W1.frozen? ⟨ob, j, none⟩ = false) : OutS W1 W1 ob k o n [] [] none 0 none 0 := by
  obtain ⟨h0, ⟨c0, c1, c2, c3, c4⟩, _⟩ := h
  simp only [Nat.zero_add] at c0 c1 c2 c3 c4
  exact ⟨UpF.refl _ _, h0, c0, c1, c2, c3, c4, hf, World.ownsRow_nil _ _ _ _, World.ownsRow_nil _ _ _ _, Or.inl rfl, nofun, nofun⟩
theorem OutS.row {A : Option Addr} {m c B e s : Nat} {xs : List Value} (h : W.ownsRow B e s (.slice A m c) m xs) : ∀ b, rowB A = some b → B ≤ b ∧ b < W.heap.size := fun b hb => h.lt b (by rw [rowB_own]; exact hb)
theorem OutS.below {W' : World} (h : OutS W1 W ob k o n nl l AN cN AP cP) (hb : Below W.heap.size W W') : OutS W1 W' ob k o n nl l AN cN AP cP := by
  have hob := Nat.lt_of_lt_of_le h.lt h.up.size
  have e : ∀ j, W'.cell? ⟨ob, j, none⟩ = W.cell? ⟨ob, j, none⟩ := fun j => hb.cell (p := ⟨ob, j, none⟩) hob
  have g : W.grownBy W' none := ⟨hb.os, hb.tape, hb.output, hb.size, fun j hj _ => hb.block j hj⟩
  refine ⟨h.up.below hb, h.lt, (e 0).trans h.c0, (e 1).trans h.c1, (e 2).trans h.c2, (e 3).trans h.c3, (e 4).trans h.c4, fun j => (hb.frozen (p := ⟨ob, j, none⟩) hob).trans (h.fz j), h.rN.kept g ?_, h.rP.kept g ?_, h.ne, fun x hx => own_below (h.own x hx) hb, h.fs⟩
  · cases hq : Value.ownBlock (.slice AN nl.length cN) with
    | none => exact Or.inl rfl
    | some b => exact Or.inr nofun
  · cases hq : Value.ownBlock (.slice AP l.length cP) with
    | none => exact Or.inl rfl
    | some b => exact Or.inr nofun

/-- Another list of parts. -/
theorem OutS.putP {Wm : World} {l' : List El} {g cap : Nat} (h : OutS W1 W ob k o n nl l AN cN AP cP) (hg : W.grownBy Wm (rowB AP)) (hrow : Wm.ownsRow W1.heap.size 25 5 (.slice (some ⟨g, 0, none⟩) l'.length cap) l'.length (cellsE l'))
    (hnew : rowB AP = some g ∨ W.heap.size ≤ g) (hl : ∀ x ∈ l', Own W x.q x.t x.F ∧ ∀ b ∈ x.F, W1.heap.size ≤ b ∧ rowB AN ≠ some b ∧ rowB AP ≠ some b) :
    OutS W1 (Wm.setCell ⟨ob, 4, none⟩ (.slice (some ⟨g, 0, none⟩) l'.length cap)) ob k o n nl l' AN cN (some ⟨g, 0, none⟩) cap := by
  have hob := Nat.lt_of_lt_of_le h.lt h.up.size
  have hgo : g ≠ ob := by
    rcases hnew with h1 | h1
    · have := (OutS.row h.rP g h1).1; have := h.lt; omega
    · omega
  have hne : some ob ≠ rowB AP := fun e => by have := (OutS.row h.rP ob e.symm).1; have := h.lt; omega
  have hs : ∀ b, b < W.heap.size → rowB AP ≠ some b → Same7 W Wm b := fun b hb hn => ⟨fun j => World.cell?_of_block (w := W) (hg.block b hb (fun e => hn e.symm)), fun j => World.frozen?_of_block (w := W) (hg.block b hb (fun e => hn e.symm))⟩
  have ho := hs ob hob (fun e => hne e.symm)
  have far : ∀ j, j ≠ 4 → (Wm.setCell ⟨ob, 4, none⟩ (.slice (some ⟨g, 0, none⟩) l'.length cap)).cell? ⟨ob, j, none⟩ = W.cell? ⟨ob, j, none⟩ := fun j hj => (World.cell?_setCell_other _ _ _ _ (fun e => by have := congrArg Addr.off e; simp at this; omega)).trans (ho.1 j)
  have hsz : (Wm.setCell ⟨ob, 4, none⟩ (.slice (some ⟨g, 0, none⟩) l'.length cap)).heap.size = Wm.heap.size := by simp [World.setCell]
  have hW1 := h.up.size
  have hz := hg.size
  refine ⟨⟨hg.os.trans h.up.os, hg.tape.trans h.up.tape, hg.output.trans h.up.output, by omega, fun b hb hm => ?_⟩, h.lt, (far 0 (by omega)).trans h.c0, (far 1 (by omega)).trans h.c1, (far 2 (by omega)).trans h.c2, (far 3 (by omega)).trans h.c3, World.cell?_setCell_same _ _ _ ((ho.1 4).trans h.c4), fun j => ?_, ?_, ?_, ?_, fun x hx => ?_, fun x hx b hb => ?_⟩
  · have hbo : b ≠ ob := by simpa using hm
    rw [Below.heap_setCell _ _ _ _ hbo, hg.block b (by omega) (fun e => by have := (OutS.row h.rP b e.symm).1; omega)]
    exact h.up.block b hb hm
  · rw [World.frozen?_setCell]; exact (ho.2 j).trans (h.fz j)
  · refine own_set7 (h.rN.kept hg (by rw [rowB_own]; exact h.ne)) (a := ⟨ob, 4, none⟩) (fun e => ?_) _
    rw [rowB_own] at e
    have := (OutS.row h.rN ob e).1; have := h.lt; omega
  · exact own_set7 hrow (a := ⟨ob, 4, none⟩) (fun e => hgo (Option.some.inj e)) _
  · rcases h.ne with h1 | h1
    · exact Or.inl h1
    · refine Or.inr (fun e => ?_)
      have e2 : rowB AN = some g := e
      rcases hnew with h2 | h2
      · exact h1 (e2.trans h2.symm)
      · have := (OutS.row h.rN g e2).2; omega
  · have hx1 := hl x hx
    exact hx1.1.of (fun b hb => (hs b (hx1.1.lt b hb) (hx1.2 b hb).2.2).trans (same_set7 _ _ _ (fun e => by
      have := (hx1.2 b hb).1; have := h.lt
      simp at e; omega))) (by rw [hsz]; exact hz)
  · have hx1 := hl x hx
    have hx2 := hx1.2 b hb
    refine ⟨hx2.1, hx2.2.1, fun e => ?_⟩
    have e2 : g = b := Option.some.inj e
    rcases hnew with h1 | h1
    · exact hx2.2.2 (e2 ▸ h1)
    · have := hx1.1.lt b hb; omega

/-- Another list of names, in a new block. -/
theorem OutS.putN {Wm : World} {nl' : List (List UInt8)} {g cap : Nat} (h : OutS W1 W ob k o n nl l AN cN AP cP) (hg : Below W.heap.size W Wm) (hrow : Wm.ownsRow W1.heap.size 9 1 (.slice (some ⟨g, 0, none⟩) nl'.length cap) nl'.length (namesE nl'))
    (hnew : W.heap.size ≤ g) : OutS W1 (Wm.setCell ⟨ob, 3, none⟩ (.slice (some ⟨g, 0, none⟩) nl'.length cap)) ob k o n nl' l (some ⟨g, 0, none⟩) cap AP cP := by
  have h2 := h.below hg
  have hob := Nat.lt_of_lt_of_le h.lt h.up.size
  have hz := hg.size
  have far : ∀ j, j ≠ 3 → (Wm.setCell ⟨ob, 3, none⟩ (.slice (some ⟨g, 0, none⟩) nl'.length cap)).cell? ⟨ob, j, none⟩ = Wm.cell? ⟨ob, j, none⟩ := fun j hj => World.cell?_setCell_other _ _ _ _ (fun e => by have := congrArg Addr.off e; simp at this; omega)
  have hsz : (Wm.setCell ⟨ob, 3, none⟩ (.slice (some ⟨g, 0, none⟩) nl'.length cap)).heap.size = Wm.heap.size := by simp [World.setCell]
  have hlt := h.lt
  have hW1 := h.up.size
  refine ⟨⟨h2.up.os, h2.up.tape, h2.up.output, by have := h2.up.size; omega, fun b hb hm => ?_⟩, h.lt, (far 0 (by omega)).trans h2.c0, (far 1 (by omega)).trans h2.c1, (far 2 (by omega)).trans h2.c2, World.cell?_setCell_same _ _ _ h2.c3, (far 4 (by omega)).trans h2.c4, fun j => ?_, ?_, ?_, ?_, fun x hx => ?_, fun x hx b hb => ?_⟩
  · have hbo : b ≠ ob := by simpa using hm
    rw [Below.heap_setCell _ _ _ _ hbo]
    exact h2.up.block b hb hm
  · rw [World.frozen?_setCell]; exact h2.fz j
  · exact own_set7 hrow (a := ⟨ob, 3, none⟩) (fun e => by have := Option.some.inj e; simp at this; omega) _
  · refine own_set7 h2.rP (a := ⟨ob, 3, none⟩) (fun e => ?_) _
    rw [rowB_own] at e
    have := (OutS.row h2.rP ob e).1; omega
  · refine Or.inr (fun e => ?_)
    have e2 : rowB AP = some g := e.symm
    have := (OutS.row h.rP g e2).2; omega
  · exact (h2.own x hx).of (fun b hb => same_set7 _ _ _ (fun e => by
      have := (h.fs x hx b hb).1
      simp at e; omega)) (by rw [hsz]; exact Nat.le_refl _)
  · have hx1 := h.fs x hx b hb
    refine ⟨hx1.1, fun e => ?_, hx1.2.2⟩
    have e2 : g = b := Option.some.inj e
    have := (h.own x hx).lt b hb
    omega

theorem slice_form {A : Option Addr} {m c B e s : Nat} {xs : List Value} (h : W.ownsRow B e s (.slice A m c) m xs) : (A = none ∧ m = 0 ∧ c = 0) ∨ ∃ g, A = some ⟨g, 0, none⟩ ∧ m ≤ c := by
  rcases h.2 with ⟨h1, h2⟩ | ⟨g, cap, cur, h1, _, _, h2, _⟩
  · simp only [Value.slice.injEq] at h1; exact Or.inl ⟨h1.1, h2, h1.2.2⟩
  · simp only [Value.slice.injEq] at h1
    obtain ⟨h3, _, rfl⟩ := h1
    exact Or.inr ⟨g, h3, h2⟩

/-- What was put together, as a type in memory of its own. -/
theorem OutS.result {u : Sh} (h : OutS W1 W ob k o n nl l AN cN AP cP) (hn : u.names = nl) (hp : u.parts = l.map El.t) (ho : u.of_.length ≤ 9223372036854775807) (hna : u.name.length ≤ 9223372036854775807) (hns : ∀ x ∈ u.names, x.length ≤ 9223372036854775807) (hnl : nl.length ≤ 9223372036854775807) (hl : l.length ≤ 9223372036854775807) :
    Own W ⟨AN, cN, AP, cP⟩ u ((rowB AN).toList ++ (rowB AP).toList ++ l.flatMap El.F) ∧ ∀ b ∈ (rowB AN).toList ++ (rowB AP).toList ++ l.flatMap El.F, W1.heap.size ≤ b := by
  have hpl : u.parts.length = l.length := by rw [hp, List.length_map]
  have fN := slice_form h.rN
  have fP := slice_form h.rP
  have hget : ∀ i (hi : i < l.length), (l[i]!) = l[i]'hi := fun i hi => getElem!_pos l i hi
  refine ⟨.mk _ u _ (rowB AN).toList (rowB AP).toList (fun i => (l[i]!).q) (fun i => (l[i]!).F) ⟨ho, hna, hns, by rw [hn]; exact hnl, by rw [hpl]; exact hl, ?_, ?_, ?_, ?_⟩ ?_ ?_ ?_ ?_, ?_⟩
  · rw [hn]; rcases fN with ⟨_, h1, h2⟩ | ⟨_, _, h1⟩
    · rw [h1]; exact Nat.zero_le _
    · exact h1
  · rw [hpl]; rcases fP with ⟨_, h1, h2⟩ | ⟨_, _, h1⟩
    · rw [h1]; exact Nat.zero_le _
    · exact h1
  · intro hA
    rcases fN with ⟨_, _, h2⟩ | ⟨g, h1, _⟩
    · exact h2
    · rw [h1] at hA; cases hA
  · intro hA
    rcases fP with ⟨_, _, h2⟩ | ⟨g, h1, _⟩
    · exact h2
    · rw [h1] at hA; cases hA
  · rcases fN with ⟨h1, h2, _⟩ | ⟨g, h1, _⟩
    · exact Or.inl ⟨by rw [hn]; exact h2, by rw [h1]; rfl⟩
    · have hr := h.rN
      rw [h1] at hr
      refine Or.inr ⟨g, h1, by rw [h1]; rfl, (hr.lt g rfl).2, fun j hj => ?_, fun j => hr.frozenAt j⟩
      have hj2 : j < nl.length := by rw [hn] at hj; exact hj
      rw [hr.cellAt j (by omega)]
      simp [namesE, hn, hj2]
  · rcases fP with ⟨h1, h2, _⟩ | ⟨g, h1, _⟩
    · exact Or.inl ⟨by rw [hpl]; exact h2, by rw [h1]; rfl⟩
    · have hr := h.rP
      rw [h1] at hr
      refine Or.inr ⟨g, h1, by rw [h1]; rfl, (hr.lt g rfl).2, fun j hj => ?_, fun j => hr.frozenAt j⟩
      have hj2 : j < l.length := by rw [hpl] at hj; exact hj
      have e : u.parts[j]'hj = (l[j]'hj2).t := by simp [hp]
      have hc : ∀ c, c < 5 → W.cell? ⟨g, j * 5 + c, none⟩ = (cells5 (l[j]'hj2))[c]? := fun c hc => by
        rw [hr.cellAt _ (by omega), cellsE_at hj2 hc]
      rw [e, hget j hj2]
      exact ⟨hc 0 (by omega), hc 1 (by omega), hc 2 (by omega), hc 3 (by omega), hc 4 (by omega)⟩
  · intro i hi
    have hj2 : i < l.length := by rw [hpl] at hi; exact hi
    have e : u.parts[i]'hi = (l[i]'hj2).t := by simp [hp]
    rw [e, hget i hj2]
    exact h.own _ (List.getElem_mem _)
  · congr 1
    rw [hpl]
    have : l = (List.range l.length).map (fun i => l[i]!) := by
      apply List.ext_getElem
      · simp
      · intro i h1 h2
        rw [List.getElem_map, List.getElem_range, hget i h1]
    conv => lhs; rw [this]
    rw [List.flatMap_map]
  · intro b hb
    rcases List.mem_append.1 hb with hb | hb
    · rcases List.mem_append.1 hb with hb | hb
      · exact (OutS.row h.rN b (by simpa using hb)).1
      · exact (OutS.row h.rP b (by simpa using hb)).1
    · obtain ⟨x, hx, hb⟩ := List.mem_flatMap.1 hb
      exact (h.fs x hx b hb).1
end
end Go.Proofs.YtkehnmapnckdgaaDoor

/- The document's sorted, where a type has no names. -/
namespace Go.Proofs.YtkehnmapnckdgaaDoor
open Go.RowKit Shp
set_option linter.unusedVariables false

/-- The memory that sorted makes ahead of its walk: its argument's cells, its result's, what is put together. -/
def rW (w : World) (t : Sh) (q : Ptr) : World := (sW w t q).alloc (.cells #[.int .i64 t.kind, .string ⟨t.of_.toArray⟩, .string ⟨t.name.toArray⟩, .slice none 0 0, .slice none 0 0] 25)
theorem rW_size (w : World) (t : Sh) (q : Ptr) : (rW w t q).heap.size = w.heap.size + 3 := by simp [rW, sW]
theorem rW_below (w : World) (t : Sh) (q : Ptr) : Below w.heap.size w (rW w t q) := below_new (sW_below w t q) _
theorem rW_arg (w : World) (t : Sh) (q : Ptr) : Box5 (rW w t q) w.heap.size t q := (sW_arg w t q).next (below_one _ _)
theorem rW_res (w : World) (t : Sh) (q : Ptr) : Box5 (rW w t q) (w.heap.size + 1) none7 noneQ := (sW_res w t q).next (below_one _ _)
theorem sW_size (w : World) (t : Sh) (q : Ptr) : (sW w t q).heap.size = w.heap.size + 2 := by simp [sW]
theorem rW_out (w : World) (t : Sh) (q : Ptr) : OutS (rW w t q) (rW w t q) (w.heap.size + 2) t.kind t.of_ t.name [] [] none 0 none 0 := by
  have h := box5_new (sW w t q) ⟨t.kind, t.of_, t.name, [], []⟩ noneQ
  rw [sW_size] at h
  refine OutS.start t.kind t.of_ t.name h (fun j => ?_)
  unfold rW
  have e : w.heap.size + 2 = (sW w t q).heap.size := (sW_size w t q).symm
  rw [e]
  simp [go_sem]

/-- Nothing that was there is turned. -/
theorem UpF.old {ob : Nat} {w W1 W : World} (h : UpF [ob] W1 W) (hb : Below w.heap.size w W1) (ho : w.heap.size ≤ ob) : Below w.heap.size w W :=
  ⟨h.os.trans hb.os, h.tape.trans hb.tape, h.output.trans hb.output, Nat.le_trans hb.size h.size, fun k hk => (h.block k (Nat.lt_of_lt_of_le hk hb.size) (by simp; omega)).trans (hb.block k hk)⟩
theorem OutS.box {W1 W : World} {ob : Nat} {k : Int} {o n : List UInt8} {nl : List (List UInt8)} {l : List El} {AN AP : Option Addr} {cN cP : Nat} (h : OutS W1 W ob k o n nl l AN cN AP cP) {g : Nat} {t : Sh} {q : Ptr} (hb : Box5 W1 g t q) (hg : g ≠ ob) : Box5 W g t q :=
  hb.same (h.up.same hb.1 (by simpa using hg)) h.up.size

/-- What is asked of the parts. -/
def Rs7 (t : Sh) : Prop := ∀ x ∈ t.parts, ∀ (q : Ptr) (w : World), ShAt w w.heap.size q x → Calls Tryd.prog 34 #[.agg #[.int .i64 x.kind, .string ⟨x.of_.toArray⟩, .string ⟨x.name.toArray⟩, .slice q.A x.names.length q.c, .slice q.P x.parts.length q.d]] w
  fun e w' => ∃ q' F, e = .returned (.agg #[.int .i64 (sorted x).kind, .string ⟨(sorted x).of_.toArray⟩, .string ⟨(sorted x).name.toArray⟩, .slice q'.A (sorted x).names.length q'.c, .slice q'.P (sorted x).parts.length q'.d]) ∧ Own w' q' (sorted x) F ∧ (∀ b ∈ F, w.heap.size ≤ b) ∧ Below w.heap.size w w'

theorem news5x (W : World) (x : El) (H : Nat) (hH : W.heap.size = H) : ∀ j u, (cells5 x)[j]? = some u → (W.alloc (.cells #[.int .i64 x.t.kind, .string ⟨x.t.of_.toArray⟩, .string ⟨x.t.name.toArray⟩, .slice x.q.A x.t.names.length x.q.c, .slice x.q.P x.t.parts.length x.q.d] 25)).cell? ((⟨H, 0, none⟩ : Addr).add j) = some u := by
  subst hH
  intro j u hj
  rw [add_plain7, Nat.zero_add, World.cell?_alloc_at _ _ _ _ rfl]
  simpa [cells5] using hj

/-- The walk so far: the parts up to a number, in order. -/
def Rp7 (W1 wr : World) (ob : Nat) (t : Sh) (f : Sh → Sh) (i : Nat) : Prop := ∃ l AP cP, OutS W1 wr ob t.kind t.of_ t.name [] l none 0 AP cP ∧ l.map El.t = (t.parts.map f).take i

theorem Rp7.push {W1 Wa W3 : World} {ob : Nat} {t : Sh} {f : Sh → Sh} {i g cap : Nat} {l : List El} {AP : Option Addr} {cP : Nat} {x : El} {o : Obj} (hO : OutS W1 Wa ob t.kind t.of_ t.name [] l none 0 AP cP) (hl : l.map El.t = (t.parts.map f).take i) (hi : i < t.parts.length) (hx : x.t = f (t.parts[i]'hi))
    (hxo : Own Wa x.q x.t x.F) (hxf : ∀ b ∈ x.F, W1.heap.size ≤ b ∧ rowB AP ≠ some b) (hg : (Wa.alloc o).grownBy W3 (rowB AP)) (hat : rowB AP = some g ∨ g = (Wa.alloc o).heap.size)
    (hrow : W3.ownsRow W1.heap.size 25 5 (.slice (some ⟨g, 0, none⟩) (l.length + 1) cap) (l.length + 1) (cellsE l ++ cells5 x)) :
    Rp7 W1 (W3.setCell ⟨ob, 4, none⟩ (.slice (some ⟨g, 0, none⟩) (l.length + 1) cap)) ob t f (i + 1) := by
  have hO2 := hO.below (below_one Wa o)
  refine ⟨l ++ [x], some ⟨g, 0, none⟩, cap, ?_, ?_⟩
  · have e : l.length + 1 = (l ++ [x]).length := by simp
    rw [e] at hrow ⊢
    refine hO2.putP hg (by rw [cellsE_append, cellsE_one]; exact hrow) (hat.imp id (fun h => by omega)) (fun y hy => ?_)
    rcases List.mem_append.1 hy with hy | hy
    · exact ⟨hO2.own y hy, fun b hb => hO2.fs y hy b hb⟩
    · obtain rfl : y = x := by simpa using hy
      exact ⟨own_below hxo (below_one Wa o), fun b hb => ⟨(hxf b hb).1, nofun, (hxf b hb).2⟩⟩
  · rw [List.map_append, hl, take_next (l := t.parts.map f) (by simpa using hi)]
    simp [hx]

set_option maxRecDepth 100000 in
set_option maxHeartbeats 4000000 in
theorem rsorted_plain (t : Sh) (q : Ptr) (w : World) (hq : ShAt w w.heap.size q t) (hz : t.parts.length ≤ 400) (hn : t.names = []) (hf : Rs7 t) :
    Calls Tryd.prog 34 #[.agg #[.int .i64 t.kind, .string ⟨t.of_.toArray⟩, .string ⟨t.name.toArray⟩, .slice q.A t.names.length q.c, .slice q.P t.parts.length q.d]] w
      fun e w' => ∃ q' F, e = .returned (.agg #[.int .i64 (sorted t).kind, .string ⟨(sorted t).of_.toArray⟩, .string ⟨(sorted t).name.toArray⟩, .slice q'.A (sorted t).names.length q'.c, .slice q'.P (sorted t).parts.length q'.d]) ∧ Own w' q' (sorted t) F ∧ (∀ b ∈ F, w.heap.size ≤ b) ∧ Below w.heap.size w w' := by
  have HS : Hid (sorted t = ⟨t.kind, t.of_, t.name, [], t.parts.map sorted⟩) := Lib.hid (by rw [sorted_eq, if_pos hn])
  have HBW := Lib.hid (rW_below w t q)
  have HBA := Lib.hid (rW_arg w t q)
  have HBR := Lib.hid (rW_res w t q)
  have HBO := Lib.hid (rW_out w t q)
  have HSZ := Lib.hid (rW_size w t q)
  have HQ := Lib.hid hq
  have HP := Lib.hid hq.part
  have HF := Lib.hid hf
  have hn0 : (t.names.length : Int) = 0 := by rw [hn]; rfl
  have HB0 := Lib.hid (box5_new w t q)
  obtain ⟨b1, ⟨c0, c1, c2, c3, c4⟩, b2⟩ := HB0.out
  clear hq hf hn b1 b2
  go_enter Tryd.func34, Tryd.ntmps34
  go_wp2_with fail
  clear c0 c1 c2 c3 c4 HB0
  change Code.wp _ _ _ _ (rW w t q)
  obtain ⟨ob, hob⟩ : ∃ ob, ob = w.heap.size + 1 + 1 := ⟨_, rfl⟩
  have HOB := Lib.hid hob
  have HBO2 : Hid (OutS (rW w t q) (rW w t q) ob t.kind t.of_ t.name [] [] none 0 none 0) := Lib.hid (by rw [hob]; exact HBO.out)
  rw [← hob]
  generalize rW w t q = W1 at HBW HBA HBR HBO2 HSZ ⊢
  have hsw : w.heap.size ≠ ob := by omega
  clear HBO hob
  go_loopw [4] (fun ii wr => ∃ i : Nat, ii = .int .i64 i ∧ i ≤ t.parts.length ∧ Hid (Rp7 W1 wr ob t sorted i)) (fun i _ => t.parts.length - (intOf i).toNat)
  case atStart => exact ⟨0, rfl, Nat.zero_le _, Lib.hid ⟨[], none, 0, HBO2.out, by simp⟩⟩
  case round =>
    obtain ⟨i, rfl, hi, HR⟩ := hrel
    obtain ⟨l, AP, cP, hO, hl⟩ := HR.out
    have hli : l.length = i := by
      have := congrArg List.length hl
      rw [List.length_map, List.length_take, List.length_map] at this
      omega
    have hbw : Below w.heap.size w wr := hO.up.old HBW.out (by have := HOB.out; omega)
    have HBX := Lib.hid (hO.box HBA.out hsw)
    obtain ⟨b1, ⟨c0, c1, c2, c3, c4⟩, b2⟩ := HBX.out
    simp only [Nat.zero_add] at c0 c1 c2 c3 c4
    clear b1 b2
    by_cases hlt : i < t.parts.length
    · rcases HP.out with h0 | ⟨g, off, qs, hqP, hg, hc, hr⟩
      · omega
      · obtain ⟨x, hx⟩ : ∃ x, x = t.parts[i] := ⟨_, rfl⟩
        obtain ⟨p0, p1, p2, p3, p4⟩ := (hc i hlt).keep hg hbw
        have IH := Lib.hid (HF.out t.parts[i] (List.getElem_mem _) (qs i) wr ((hr i hlt).keep hbw (Nat.le_refl _) |>.more hbw.size))
        rw [← hx] at p0 p1 p2 p3 p4 IH
        have HX := Lib.hid hx
        have HL := Lib.hid hl
        have HO := Lib.hid hO
        have HLI := Lib.hid hli
        have HBWR := Lib.hid hbw
        have hi1 : (i : Int) < (t.parts.length : Int) := by omega
        have hgw : g < wr.heap.size := Nat.lt_of_lt_of_le hg hbw.size
        rw [hqP] at c4
        have HQP := Lib.hid hqP
        clear hx hl hO hli hbw hc hr hqP HR
        go_wp2_with fail
        refine IH.out.mono ?_
        rintro e w2 ⟨q', F, rfl, ho, hF, hb2⟩
        obtain ⟨z, hz⟩ : ∃ z, z = sorted x := ⟨_, rfl⟩
        rw [← hz] at ho ⊢
        have hO3 := (HO.out.below hb2).below (below_one w2 (.cells #[.int .i64 z.kind, .string ⟨z.of_.toArray⟩, .string ⟨z.name.toArray⟩, .slice q'.A z.names.length q'.c, .slice q'.P z.parts.length q'.d] 25))
        have hBX3 := (HBX.out.next hb2).next (below_one w2 (.cells #[.int .i64 z.kind, .string ⟨z.of_.toArray⟩, .string ⟨z.name.toArray⟩, .slice q'.A z.names.length q'.c, .slice q'.P z.parts.length q'.d] 25))
        have hnz := box5_new w2 z q'
        have HO3 := Lib.hid hO3
        have HOW := Lib.hid (own_below ho (below_one w2 (.cells #[.int .i64 z.kind, .string ⟨z.of_.toArray⟩, .string ⟨z.name.toArray⟩, .slice q'.A z.names.length q'.c, .slice q'.P z.parts.length q'.d] 25)))
        have HFB : Hid (∀ b ∈ F, W1.heap.size ≤ b ∧ rowB AP ≠ some b) := Lib.hid (fun b hb => by
          have h1 := hF b hb
          have h2 := HO.out.up.size
          refine ⟨by omega, fun e => ?_⟩
          have := (OutS.row HO.out.rP b e).2
          omega)
        obtain ⟨b1, ⟨k0, k1, k2, k3, k4⟩, b2⟩ := hBX3
        obtain ⟨b3, ⟨m0, m1, m2, m3, m4⟩, b4⟩ := hnz
        simp only [Nat.zero_add] at k0 k1 k2 k3 k4 m0 m1 m2 m3 m4
        have o4 := hO3.c4
        have fz4 := hO3.fz 4
        have HZ := Lib.hid hz
        have hl400 : l.length ≤ 400 := by have := HLI.out; omega
        obtain ⟨i0, hi2, hz0, hz1, hz2⟩ := info_parts (P := Tryd.prog) (e := 25) (z := .agg #[.int .i64 0, .string ByteArray.empty, .string ByteArray.empty, .slice none 0 0, .slice none 0 0]) (size := 5) (bytes := 88) info_shape7
        clear hO3 ho hF hz b1 b2 b3 b4 c0 c1 c2 c3 c4 p0 p1 p2 p3 p4 IH
        go_wp2_with (at_builtin; refine wpList_append_own_at _ rfl _ _ 23 rfl W1.heap.size 25 i0 (.agg #[.int .i64 0, .string ByteArray.empty, .string ByteArray.empty, .slice none 0 0, .slice none 0 0]) 5 88 Tryd.underlying23 hi2 hz0 hz1 hz2 rfl (by decide) _ _ _ rfl (HO3.out.rP.alloc _) ⟨w2.heap.size + 1, 0, none⟩ 1 1 (cells5 ⟨[], z, q', F⟩) rfl rfl (news5x _ ⟨[], z, q', F⟩ _ (by simp)) (cells5_one _) (by unfold maxLen; omega) (by omega) (by have := HO3.out.up.size; simp at this ⊢; omega) ?_)
        intro v' W3 hrow hg3 _ hat
        obtain ⟨g3, cap, rfl, _, _⟩ := hrow.form (by omega)
        simp only [rowB_own] at hg3 hat
        have hat2 : rowB AP = some g3 ∨ g3 = ((w2.alloc (.cells #[.int .i64 z.kind, .string ⟨z.of_.toArray⟩, .string ⟨z.name.toArray⟩, .slice q'.A z.names.length q'.c, .slice q'.P z.parts.length q'.d] 25)).alloc (.cells #[.int .i64 z.kind, .string ⟨z.of_.toArray⟩, .string ⟨z.name.toArray⟩, .slice q'.A z.names.length q'.c, .slice q'.P z.parts.length q'.d] 25)).heap.size := by
          rcases hat with h | h
          · exact Or.inl h.symm
          · exact Or.inr (by have := Option.some.inj h; simp at this ⊢; omega)
        have HN : Hid (Rp7 W1 (W3.setCell ⟨ob, 4, none⟩ (.slice (some ⟨g3, 0, none⟩) (l.length + 1) cap)) ob t sorted (i + 1)) := Lib.hid (Rp7.push (x := ⟨[], z, q', F⟩) HO3.out HL.out hlt (by rw [← HX.out, ← HZ.out]) HOW.out HFB.out hg3 hat2 hrow)
        have hobr : some ob ≠ rowB AP := fun e => by have := (OutS.row HO3.out.rP ob e.symm).1; have := HO3.out.lt; omega
        have hobl : ob < ((w2.alloc (.cells #[.int .i64 z.kind, .string ⟨z.of_.toArray⟩, .string ⟨z.name.toArray⟩, .slice q'.A z.names.length q'.c, .slice q'.P z.parts.length q'.d] 25)).alloc (.cells #[.int .i64 z.kind, .string ⟨z.of_.toArray⟩, .string ⟨z.name.toArray⟩, .slice q'.A z.names.length q'.c, .slice q'.P z.parts.length q'.d] 25)).heap.size := by
          have := HO3.out.up.size; have := HO3.out.lt; simp at *; omega
        have x4 := (World.cell?_of_block (w := (w2.alloc (.cells #[.int .i64 z.kind, .string ⟨z.of_.toArray⟩, .string ⟨z.name.toArray⟩, .slice q'.A z.names.length q'.c, .slice q'.P z.parts.length q'.d] 25)).alloc (.cells #[.int .i64 z.kind, .string ⟨z.of_.toArray⟩, .string ⟨z.name.toArray⟩, .slice q'.A z.names.length q'.c, .slice q'.P z.parts.length q'.d] 25)) (a := ⟨ob, 4, none⟩) (hg3.block ob hobl hobr)).trans (((below_one (w2.alloc (.cells #[.int .i64 z.kind, .string ⟨z.of_.toArray⟩, .string ⟨z.name.toArray⟩, .slice q'.A z.names.length q'.c, .slice q'.P z.parts.length q'.d] 25)) (.cells #[.int .i64 z.kind, .string ⟨z.of_.toArray⟩, .string ⟨z.name.toArray⟩, .slice q'.A z.names.length q'.c, .slice q'.P z.parts.length q'.d] 25)).cell (p := ⟨ob, 4, none⟩) (by simp at hobl ⊢; have := HO3.out.up.size; have := HO3.out.lt; simp at *; omega)).trans HO3.out.c4)
        have xf := (World.frozen?_of_block (w := (w2.alloc (.cells #[.int .i64 z.kind, .string ⟨z.of_.toArray⟩, .string ⟨z.name.toArray⟩, .slice q'.A z.names.length q'.c, .slice q'.P z.parts.length q'.d] 25)).alloc (.cells #[.int .i64 z.kind, .string ⟨z.of_.toArray⟩, .string ⟨z.name.toArray⟩, .slice q'.A z.names.length q'.c, .slice q'.P z.parts.length q'.d] 25)) (a := ⟨ob, 4, none⟩) (hg3.block ob hobl hobr)).trans (((below_one (w2.alloc (.cells #[.int .i64 z.kind, .string ⟨z.of_.toArray⟩, .string ⟨z.name.toArray⟩, .slice q'.A z.names.length q'.c, .slice q'.P z.parts.length q'.d] 25)) (.cells #[.int .i64 z.kind, .string ⟨z.of_.toArray⟩, .string ⟨z.name.toArray⟩, .slice q'.A z.names.length q'.c, .slice q'.P z.parts.length q'.d] 25)).frozen (p := ⟨ob, 4, none⟩) (by simp at hobl ⊢; have := HO3.out.up.size; have := HO3.out.lt; simp at *; omega)).trans (HO3.out.fz 4))
        clear hrow hg3 hat hat2 hobr hobl o4 fz4 k0 k1 k2 k3 k4 m0 m1 m2 m3 m4
        go_wp2
        go_roundw
        case rel => exact ⟨i + 1, by go_num, by omega, HN⟩
        case measure => simp [intOf]; omega
    · have hie : i = t.parts.length := by omega
      have HLL := Lib.hid hli
      have HE : Hid (l.map El.t = t.parts.map sorted) := Lib.hid (by rw [hl, hie, List.take_of_length_le (by simp)])
      have hi1 : ¬ (i : Int) < (t.parts.length : Int) := by omega
      have HO := Lib.hid hO
      have HBWR := Lib.hid hbw
      have HER := Lib.hid (hO.box HBR.out (by have := HOB.out; omega))
      have HOO := Lib.hid (show w.heap.size + 1 ≠ ob by have := HOB.out; omega)
      obtain ⟨_, ⟨r0, r1, r2, r3, r4⟩, f0, f1, f2, f3, f4⟩ := HER.out
      simp only [Nat.zero_add] at r0 r1 r2 r3 r4
      have o0 := hO.c0
      have o1 := hO.c1
      have o2 := hO.c2
      have o3 := hO.c3
      have o4 := hO.c4
      clear hO hl hbw
      have hne : ob ≠ w.heap.size + 1 := fun e => HOO.out e.symm
      go_wp2
      refine bodyPost_ret (v := .agg #[.int .i64 t.kind, .string ⟨t.of_.toArray⟩, .string ⟨t.name.toArray⟩, .slice none 0 0, .slice AP t.parts.length cP]) (by simp [results, Tryd.results34, go_sem, r0, r1, r2, r3, r4]) rfl ?_
      have hsm := HQ.out.small
      have hnn : (sorted t).names = [] := by rw [HS.out]
      have hpp : (sorted t).parts = l.map El.t := by rw [HS.out, HE.out]
      have hoo : (sorted t).of_ = t.of_ := by rw [HS.out]
      have hna : (sorted t).name = t.name := by rw [HS.out]
      have hkk : (sorted t).kind = t.kind := by rw [HS.out]
      obtain ⟨ho, hF⟩ := HO.out.result (u := sorted t) hnn hpp (by rw [hoo]; exact hsm.o) (by rw [hna]; exact hsm.n) (by rw [hnn]; nofun) (by simp) (by have := HLL.out; omega)
      have h5 := own_set5 (b := w.heap.size + 1) ho (fun b hb e => by have := hF b hb; have := HSZ.out; omega) (.int .i64 t.kind) (.string ⟨t.of_.toArray⟩) (.string ⟨t.name.toArray⟩) (.slice none 0 0) (.slice AP t.parts.length cP)
      have h6 := below_put5 (b := w.heap.size + 1) HBWR.out (by omega) (.int .i64 t.kind) (.string ⟨t.of_.toArray⟩) (.string ⟨t.name.toArray⟩) (.slice none 0 0) (.slice AP t.parts.length cP)
      refine ⟨⟨none, 0, AP, cP⟩, ?_, (rowB none).toList ++ (rowB AP).toList ++ l.flatMap El.F, h5, fun b hb => by have := hF b hb; have := HSZ.out; omega, h6⟩
      rw [hkk, hoo, hna, hnn, hpp, List.length_map, HLL.out, hie]
      rfl
end Go.Proofs.YtkehnmapnckdgaaDoor

/- The document's sorted, where a type has names. -/
namespace Go.Proofs.YtkehnmapnckdgaaDoor
open Go.RowKit Shp
set_option linter.unusedVariables false

theorem own_le7 {w : World} {base base' size n : Nat} {e : TypeId} {v : Value} {xs : List Value} (h : w.ownsRow base e size v n xs) (hb : base' ≤ base) : w.ownsRow base' e size v n xs :=
  ⟨h.1, h.2.elim Or.inl (fun ⟨g, cap, cur, hv, hg, r⟩ => Or.inr ⟨g, cap, cur, hv, Nat.le_trans hb hg, r⟩)⟩

/-! ### A part of a row -/
def hiA (A : Option Addr) (k c size : Nat) : Option Addr := if c = k then A else A.map (·.add (k * size))
theorem row_lo {W W' : World} {B e size m c k : Nat} {A : Option Addr} {xs : List Value} (h : W.ownsRow B e size (.slice A m c) m xs) (hk : k ≤ m) (hb : Below W.heap.size W W') :
    ∀ ad, A = some ad → ∀ j u, (xs.take (k * size))[j]? = some u → W'.cell? (ad.add j) = some u := by
  intro ad hA j u hj
  rcases slice_form h with ⟨h1, _⟩ | ⟨g, h1, _⟩
  · rw [h1] at hA; cases hA
  · rw [h1] at hA h
    cases hA
    have hjl : j < k * size := by
      rcases Nat.lt_or_ge j (k * size) with hl | hl
      · exact hl
      · rw [List.getElem?_eq_none (by rw [List.length_take]; omega)] at hj; cases hj
    have hkm : k * size ≤ m * size := Nat.mul_le_mul_right _ hk
    rw [add_plain7, Nat.zero_add, hb.cell (p := ⟨g, j, none⟩) (h.lt g rfl).2, h.cellAt j (by omega)]
    rwa [List.getElem?_take, if_pos hjl] at hj
theorem row_hi {W W' : World} {B e size m c k : Nat} {A : Option Addr} {xs : List Value} (h : W.ownsRow B e size (.slice A m c) m xs) (hk : k ≤ m) (hb : Below W.heap.size W W') :
    ∀ ad, hiA A k c size = some ad → ∀ j u, (xs.drop (k * size))[j]? = some u → W'.cell? (ad.add j) = some u := by
  intro ad hA j u hj
  have hxl := h.1
  rcases slice_form h with ⟨h1, h2, h3⟩ | ⟨g, h1, h2⟩
  · rw [h1] at hA
    unfold hiA at hA
    split at hA <;> cases hA
  · rw [h1] at hA h
    unfold hiA at hA
    have hjl : k * size + j < m * size := by
      rcases Nat.lt_or_ge (k * size + j) (m * size) with hl | hl
      · exact hl
      · rw [List.getElem?_eq_none (by rw [List.length_drop]; omega)] at hj; cases hj
    split at hA
    · rename_i hck
      have : m * size ≤ k * size := Nat.mul_le_mul_right _ (by omega)
      omega
    · simp only [Option.map_some, Option.some.injEq] at hA
      subst hA
      rw [add_plain7, add_plain7, Nat.zero_add, hb.cell (p := ⟨g, k * size + j, none⟩) (h.lt g rfl).2, h.cellAt _ hjl]
      rwa [List.getElem?_drop] at hj
theorem hiA_none {W : World} {B e size m c k : Nat} {A : Option Addr} {xs : List Value} (h : W.ownsRow B e size (.slice A m c) m xs) (hk : k ≤ m) : hiA A k c size = none → m - k = 0 ∧ c - k = 0 := by
  intro hA
  rcases slice_form h with ⟨h1, h2, h3⟩ | ⟨g, h1, h2⟩
  · omega
  · rw [h1] at hA
    unfold hiA at hA
    split at hA <;> cases hA
theorem lo_none {W : World} {B e size m c k : Nat} {A : Option Addr} {xs : List Value} (h : W.ownsRow B e size (.slice A m c) m xs) (hk : k ≤ m) : A = none → k = 0 ∧ c = 0 := by
  intro hA
  rcases slice_form h with ⟨h1, h2, h3⟩ | ⟨g, h1, h2⟩
  · omega
  · rw [h1] at hA; cases hA
theorem sliced_lo {W : World} {B e size m c k : Nat} {A : Option Addr} {xs : List Value} (h : W.ownsRow B e size (.slice A m c) m xs) (s : Nat) : sliced A 0 k c s = .slice A k c := by
  unfold sliced
  rcases slice_form h with ⟨h1, _⟩ | ⟨g, h1, _⟩
  · rw [h1]; simp
  · rw [h1]; simp [Addr.add]
theorem sliced_hi (A : Option Addr) (k m c s : Nat) : sliced A k m c s = .slice (hiA A k c s) (m - k) (c - k) := rfl

theorem run_lo_str (W : World) (A : Option Addr) (m c k : Nat) (hk : k ≤ c) : (Instr.sliceAt 22 (.slice A m c) none (some (.int .i64 (k : Int))) none).run Tryd.prog W = .ok (sliced A 0 k c 1) W := by
  have h1 : Tryd.prog.underlying 22 = some (.slice (Tryd.prog.elem 22)) := by kernel_rfl
  have h : (sizeOf (Tryd.prog.elem 22)).run Tryd.prog W = .ok 1 W := by kernel_rfl
  rw [run_sliceAt_slice _ _ _ _ _ _ h1, run_slice_h _ _ _ _ _ h1 _ _ (by omega) (by omega), h, show (k : Int).toNat = k from by omega]
  rfl
theorem run_hi_str (W : World) (A : Option Addr) (m c k : Nat) (hk : k ≤ m) : (Instr.sliceAt 22 (.slice A m c) (some (.int .i64 (k : Int))) none none).run Tryd.prog W = .ok (sliced A k m c 1) W := by
  have h1 : Tryd.prog.underlying 22 = some (.slice (Tryd.prog.elem 22)) := by kernel_rfl
  have h : (sizeOf (Tryd.prog.elem 22)).run Tryd.prog W = .ok 1 W := by kernel_rfl
  rw [run_sliceAt_slice _ _ _ _ _ _ h1, run_slice_l _ _ _ _ _ h1 _ _ (by omega) (by omega), h, show (k : Int).toNat = k from by omega]
  rfl
theorem run_lo_shape (W : World) (A : Option Addr) (m c k : Nat) (hk : k ≤ c) : (Instr.sliceAt 23 (.slice A m c) none (some (.int .i64 (k : Int))) none).run Tryd.prog W = .ok (sliced A 0 k c 5) W := by
  have h1 : Tryd.prog.underlying 23 = some (.slice (Tryd.prog.elem 23)) := by kernel_rfl
  have h : (sizeOf (Tryd.prog.elem 23)).run Tryd.prog W = .ok 5 W := by kernel_rfl
  rw [run_sliceAt_slice _ _ _ _ _ _ h1, run_slice_h _ _ _ _ _ h1 _ _ (by omega) (by omega), h, show (k : Int).toNat = k from by omega]
  rfl
theorem run_hi_shape (W : World) (A : Option Addr) (m c k : Nat) (hk : k ≤ m) : (Instr.sliceAt 23 (.slice A m c) (some (.int .i64 (k : Int))) none none).run Tryd.prog W = .ok (sliced A k m c 5) W := by
  have h1 : Tryd.prog.underlying 23 = some (.slice (Tryd.prog.elem 23)) := by kernel_rfl
  have h : (sizeOf (Tryd.prog.elem 23)).run Tryd.prog W = .ok 5 W := by kernel_rfl
  rw [run_sliceAt_slice _ _ _ _ _ _ h1, run_slice_l _ _ _ _ _ h1 _ _ (by omega) (by omega), h, show (k : Int).toNat = k from by omega]
  rfl

/-- The walk so far: the fields up to a number, in order. -/
def Rn7 (W1 wr : World) (ob : Nat) (t : Sh) (i : Nat) : Prop := ∃ l AN cN AP cP, OutS W1 wr ob t.kind t.of_ t.name (l.map El.n) l AN cN AP cP ∧ l.map pr = sortF ((t.names.zip (t.parts.map sorted)).take i)

/-- Behind a row that was put together anew: a store into the type's cells. -/
def FinC (W0 : World) (ob c : Nat) (ty size n : Nat) (xs : List Value) (W : World) : Prop :=
  ∃ Wm g cap, Below W0.heap.size W0 Wm ∧ Wm.ownsRow W0.heap.size ty size (.slice (some ⟨g, 0, none⟩) n cap) n xs ∧ W0.heap.size ≤ g ∧ W = Wm.setCell ⟨ob, c, none⟩ (.slice (some ⟨g, 0, none⟩) n cap)

/-- The places ahead of a field. -/
def Ahead (l : List El) (y : List UInt8) (k : Nat) : Prop := ∀ j (h : j < l.length), j < k → (l[j]'h).n < y

theorem Rn7.push {W1 wr W3 W4 W5 : World} {ob : Nat} {t : Sh} {i k : Nat} {l : List El} {AN AP : Option Addr} {cN cP : Nat} {x : El} (hO : OutS W1 wr ob t.kind t.of_ t.name (l.map El.n) l AN cN AP cP)
    (hl : l.map pr = sortF ((t.names.zip (t.parts.map sorted)).take i)) (hi : i < (t.names.zip (t.parts.map sorted)).length) (hx : pr x = (t.names.zip (t.parts.map sorted))[i]'hi) (hxo : Own wr x.q x.t x.F) (hxf : ∀ b ∈ x.F, W1.heap.size ≤ b ∧ rowB AN ≠ some b ∧ rowB AP ≠ some b)
    (hk : k ≤ l.length) (h1 : Ahead l x.n k) (h2 : ∀ h : k < l.length, ¬ (l[k]'h).n < x.n)
    (f1 : FinC wr ob 3 9 1 (l.length + 1) (namesE ((l.map El.n).take k) ++ [.string ⟨x.n.toArray⟩] ++ namesE ((l.map El.n).drop k)) W4)
    (f2 : FinC W4 ob 4 25 5 (l.length + 1) (cellsE (l.take k) ++ cells5 x ++ cellsE (l.drop k)) W5) : Rn7 W1 W5 ob t (i + 1) := by
  obtain ⟨Wm, g, cap, b1, r1, hg, rfl⟩ := f1
  obtain ⟨Wn, g2, cap2, b2, r2, hg2, rfl⟩ := f2
  have hW := hO.up.size
  have en : namesE ((l.map El.n).take k) ++ [.string ⟨x.n.toArray⟩] ++ namesE ((l.map El.n).drop k) = namesE ((l.take k ++ x :: l.drop k).map El.n) := by
    simp [namesE, List.map_take, List.map_drop]
  have ec : cellsE (l.take k) ++ cells5 x ++ cellsE (l.drop k) = cellsE (l.take k ++ x :: l.drop k) := by
    rw [show l.take k ++ x :: l.drop k = l.take k ++ ([x] ++ l.drop k) from rfl, cellsE_append, cellsE_append, cellsE_one, List.append_assoc]
  have el : (l.take k ++ x :: l.drop k).length = l.length + 1 := by simp; omega
  have elm : ((l.take k ++ x :: l.drop k).map El.n).length = l.length + 1 := by rw [List.length_map, el]
  rw [en] at r1
  rw [ec] at r2
  have hO2 : OutS W1 (Wm.setCell ⟨ob, 3, none⟩ (.slice (some ⟨g, 0, none⟩) ((l.take k ++ x :: l.drop k).map El.n).length cap)) ob t.kind t.of_ t.name ((l.take k ++ x :: l.drop k).map El.n) l (some ⟨g, 0, none⟩) cap AP cP :=
    hO.putN b1 (by rw [elm]; exact own_le7 r1 hW) hg
  rw [elm] at hO2
  have hxo2 : Own (Wm.setCell ⟨ob, 3, none⟩ (.slice (some ⟨g, 0, none⟩) (l.length + 1) cap)) x.q x.t x.F := (own_below hxo b1).of (fun b hb => same_set7 _ _ _ (fun e => by
    have := (hxf b hb).1; have := hO.lt
    simp at e; omega)) (by simp [World.setCell])
  have hsz : (Wm.setCell ⟨ob, 3, none⟩ (.slice (some ⟨g, 0, none⟩) (l.length + 1) cap)).heap.size = Wm.heap.size := by simp [World.setCell]
  have hO3 := hO2.putP (l' := l.take k ++ x :: l.drop k) (g := g2) (cap := cap2) (Wm := Wn) ⟨b2.os, b2.tape, b2.output, b2.size, fun j hj _ => b2.block j hj⟩
    (by rw [el]; exact own_le7 r2 (hO2.up.size)) (Or.inr hg2) (fun y hy => by
      rcases List.mem_append.1 hy with hy | hy
      · exact ⟨hO2.own y (List.mem_of_mem_take hy), fun b hb => hO2.fs y (List.mem_of_mem_take hy) b hb⟩
      · rcases List.mem_cons.1 hy with rfl | hy
        · refine ⟨hxo2, fun b hb => ⟨(hxf b hb).1, fun e => ?_, (hxf b hb).2.2⟩⟩
          have e2 : g = b := Option.some.inj e
          have := hxo.lt b hb
          omega
        · exact ⟨hO2.own y (List.mem_of_mem_drop hy), fun b hb => hO2.fs y (List.mem_of_mem_drop hy) b hb⟩)
  rw [el] at hO3
  refine ⟨l.take k ++ x :: l.drop k, some ⟨g, 0, none⟩, cap, some ⟨g2, 0, none⟩, cap2, ?_, ?_⟩
  · rw [← elm, ← el] at *
    exact hO3
  · rw [sortF_next hi, ← hl, ← hx]
    rw [ins_at (L := l.map pr) (x := pr x) (k := k) (by simpa using hk) (fun j h hj => by
      have := h1 j (by simpa using h) hj
      simpa [pr] using this) (fun h => by
      have := h2 (by simpa using h)
      simpa [pr] using this)]
    simp [List.map_take, List.map_drop]
end Go.Proofs.YtkehnmapnckdgaaDoor
