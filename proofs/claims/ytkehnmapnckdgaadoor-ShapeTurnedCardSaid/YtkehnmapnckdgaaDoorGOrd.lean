/- Orders2, Orders3, together. -/
import Derived.Deep.RegionHeld3
import Derived.Below
/- (Wants told by a predicate.) A region that draws its order of evaluation, walked once for each operation and not once for each order: what each operation leaves is told by a table. My own law, over Derived/Orders.lean. -/
namespace Go.Proofs.YtkehnmapnckdgaaDoor
open Go.RowKit

/-- The values of the operations, one turned. -/
def upd (u : Nat → Value) (i : Nat) (v : Value) : Nat → Value := fun j => cond (Nat.beq j i) v (u j)

theorem upd_same (u : Nat → Value) (i : Nat) (v : Value) : upd u i v i = v := by simp [upd]
theorem upd_other (u : Nat → Value) {i j : Nat} (v : Value) (h : j ≠ i) : upd u i v j = u j := by
  have : Nat.beq j i = false := by cases hb : Nat.beq j i <;> first | rfl | exact absurd (Nat.eq_of_beq_eq_true hb) h
  simp [upd, this]

/-- What an operation is to leave; whatever grows, it stays so. -/
structure Want where
  ok : Value → World → Prop
  keep : ∀ (v : Value) (w w' : World), Below w.heap.size w w' → ok v w → ok v w'

theorem Want.mono {T : Want} {v : Value} {w w' : World} (hb : Below w.heap.size w w') (h : T.ok v w) : T.ok v w' := T.keep v w w' hb h

/-- A value. -/
def Want.val (c : Value) : Want := ⟨fun v _ => v = c, fun _ _ _ _ h => h⟩
def Want.any : Want := ⟨fun _ _ => True, fun _ _ _ _ h => h⟩

section
variable {P : Program} {ops : Array Oper} {Q : Exit → Act → World → Prop}

/-- Does operation o wait for operation j? -/
def waits (o : Oper) (j : Nat) : Bool := o.after.any fun e => Region.binds .any e && e.on == j

/-- One operation's step: what it waits for is as the table says; so is what it leaves. -/
def StepAt (P : Program) (ops : Array Oper) (Q : Exit → Act → World → Prop) (A : (Nat → Value) → Act) (T : Nat → Want) (J : World → Prop) (i : Nat) : Prop :=
  ∀ o, ops[i]? = some o → ∀ (u : Nat → Value) (W : World), J W → (∀ j, waits o j = true → (T j).ok (u j) W) →
    wpOp P ops Q i (fun a' w' => ∃ v, a' = A (upd u i v) ∧ (T i).ok v w' ∧ J w' ∧ Below W.heap.size W w') (A u) W

def StepsAt (P : Program) (ops : Array Oper) (Q : Exit → Act → World → Prop) (A : (Nat → Value) → Act) (T : Nat → Want) (J : World → Prop) (rs : List Nat) : Prop :=
  ∀ i ∈ rs, StepAt P ops Q A T J i

theorem StepsAt.nil {A : (Nat → Value) → Act} {T : Nat → Want} {J : World → Prop} : StepsAt P ops Q A T J [] := fun _ h => by cases h

theorem StepsAt.cons {A : (Nat → Value) → Act} {T : Nat → Want} {J : World → Prop} {i : Nat} {rs : List Nat} (o : Oper) (ho : ops[i]? = some o)
    (h : ∀ (u : Nat → Value) (W : World) (K' : Act → World → Prop), J W → (∀ j, waits o j = true → (T j).ok (u j) W) →
      Shut (∀ v w', (T i).ok v w' → J w' → Below W.heap.size W w' → K' (A (upd u i v)) w') →
      if Region.wanted o (yielded ops (A u).tmps) = true then Oper.wp P o (A u) W K' Q else K' ((A u).put o.dst undef) W)
    (hs : StepsAt P ops Q A T J rs) : StepsAt P ops Q A T J (i :: rs) := fun j hj => by
  rcases List.mem_cons.1 hj with rfl | hj
  · intro o' ho' u W hJ hd
    rw [ho] at ho'
    obtain rfl : o = o' := Option.some.inj ho'
    exact wpOp_step ho (fun K' hK => h u W K' hJ hd (fun v w' h1 h2 h3 => hK _ _ ⟨v, rfl, h1, h2, h3⟩))
  · exact hs j hj

/-- No operation is bound to wait for one behind it. -/
def lowAfter (ops : Array Oper) : Bool := (List.range ops.size).all fun i => ((ops[i]?).map fun o => o.after.all fun e => !Region.binds .any e || decide (e.on < i)).getD true

theorem lowAfter_spec (h : lowAfter ops = true) {i : Nat} {o : Oper} (ho : ops[i]? = some o) : ∀ e ∈ o.after, Region.binds .any e = true → e.on < i := by
  intro e he hb
  have hi : i < ops.size := by
    rcases Nat.lt_or_ge i ops.size with h | h
    · exact h
    · rw [Array.getElem?_eq_none h] at ho; cases ho
  have h1 := List.all_eq_true.1 h i (List.mem_range.2 hi)
  rw [ho] at h1
  simp only [Option.map_some, Option.getD_some] at h1
  have := Array.all_eq_true_iff_forall_mem.1 h1 e he
  rw [hb] at this
  simpa using this

theorem all_listed (hl : lowAfter ops = true) (listed : Array Bool) (hr : Region.ready .any ops listed = []) (hsz : listed.size = ops.size) :
    ∀ n j, j < n → j < ops.size → listed.getD j false = true := by
  intro n
  induction n with
  | zero => intro j hj; omega
  | succ n ih =>
    intro j hj hjs
    by_cases hjn : j < n
    · exact ih j hjn hjs
    · cases hlj : listed.getD j false with
      | true => rfl
      | false =>
        have hmem : j ∈ Region.ready .any ops listed := by
          refine mem_ready.2 ⟨?_, ops[j]'hjs, by simp [hjs], fun e he hb => ?_⟩
          · have : j < listed.size := by omega
            simp [this] at hlj ⊢
            exact hlj
          · have hlt := lowAfter_spec hl (show ops[j]? = some (ops[j]'hjs) by simp [hjs]) e he hb
            exact ih e.on (by omega) (by omega)
        rw [hr] at hmem
        cases hmem

theorem count_set (l : List Bool) : ∀ (i : Nat), l[i]? = some false → (l.set i true).count false + 1 = l.count false := by
  induction l with
  | nil => intro i h; simp at h
  | cons b l ih =>
    intro i h
    cases i with
    | zero =>
      simp at h
      subst h
      simp
    | succ i =>
      simp at h
      have := ih i h
      cases b <;> simp at this ⊢ <;> omega

theorem count_none (l : List Bool) (h : l.count false = 0) (j : Nat) : l[j]? ≠ some false := by
  intro hj
  have := List.count_pos_iff.2 (List.mem_of_getElem? hj)
  omega

theorem orders_go (A : (Nat → Value) → Act) (T : Nat → Want) (J : World → Prop) (hl : lowAfter ops = true)
    (hstep : StepsAt P ops Q A T J (List.range ops.size))
    (hdone : ∀ u W, J W → (∀ j, j < ops.size → (T j).ok (u j) W) → Q .normal (A u) W) :
    ∀ (fuel : Nat) (listed : Array Bool) (u : Nat → Value) (W : World), listed.size = ops.size → listed.toList.count false ≤ fuel → J W →
      (∀ j, listed.getD j false = true → (T j).ok (u j) W) → wpAny P .any ops Q fuel listed (A u) W := by
  intro fuel
  induction fuel with
  | zero =>
    intro listed u W hsz hc hJ hd
    have hr : Region.ready .any ops listed = [] := by
      refine List.eq_nil_iff_forall_not_mem.2 fun j hj => ?_
      obtain ⟨h1, o, ho, _⟩ := mem_ready.1 hj
      have hjs : j < listed.size := by
        rw [hsz]
        rcases Nat.lt_or_ge j ops.size with h | h
        · exact h
        · rw [Array.getElem?_eq_none h] at ho; cases ho
      refine count_none listed.toList (by omega) j ?_
      simp [hjs] at h1 ⊢
      exact h1
    exact ⟨hr, hdone u W hJ fun j hj => hd j (all_listed hl listed hr hsz (j + 1) j (by omega) hj)⟩
  | succ fuel ih =>
    intro listed u W hsz hc hJ hd
    refine ⟨fun hr => hdone u W hJ fun j hj => hd j (all_listed hl listed hr hsz (j + 1) j (by omega) hj), fun i hi => ?_⟩
    obtain ⟨h1, o, ho, hall⟩ := mem_ready.1 hi
    have his : i < ops.size := by
      rcases Nat.lt_or_ge i ops.size with h | h
      · exact h
      · rw [Array.getElem?_eq_none h] at ho; cases ho
    have hil : i < listed.size := by omega
    have hdep : ∀ j, waits o j = true → (T j).ok (u j) W := fun j hj => by
      obtain ⟨e, he, hb⟩ := Array.any_eq_true'.1 hj
      simp only [Bool.and_eq_true, beq_iff_eq] at hb
      obtain ⟨hb, rfl⟩ := hb
      exact hd e.on (hall e he hb)
    refine wpOp_mono (fun a' w' h => ?_) (hstep i (List.mem_range.2 his) o ho u W hJ hdep)
    obtain ⟨v, rfl, hok, hJ', hb⟩ := h
    refine ih _ _ _ (by simpa using hsz) ?_ hJ' fun j hj => ?_
    · have h2 : listed.toList[i]? = some false := by simp [hil] at h1 ⊢; exact h1
      have := count_set listed.toList i h2
      rw [Array.toList_setIfInBounds]
      omega
    · by_cases hji : j = i
      · subst hji
        rw [upd_same]
        exact hok
      · rw [upd_other u v hji]
        refine Want.mono hb (hd j ?_)
        rw [getD_set_ne false (Ne.symm hji)] at hj
        exact hj

/-- A region that draws: a step for each operation, whatever the order. -/
theorem wp_orders {id : Nat} {w : World} {rs : List Nat} (A : (Nat → Value) → Act) (u0 : Nat → Value) (T : Nat → Want) (J : World → Prop) (hm : P.follows .mixedOrders = true) (hl : lowAfter ops = true)
    (hrs : List.range ops.size = rs) (hJ : J w.drew) (hstep : StepsAt P ops Q A T J rs)
    (hdone : ∀ u W, J W → (∀ j, j < ops.size → (T j).ok (u j) W) → Q .normal (A u) W) :
    (Code.region id ops true).wp P Q (A u0) w := by
  subst hrs
  refine wp_region_any hm (orders_go A T J hl hstep hdone _ _ _ _ (by simp) ?_ hJ fun j hj => ?_)
  · exact Nat.le_trans List.count_le_length (by simp)
  · exfalso
    rcases Nat.lt_or_ge j ops.size with h | h
    · simp [h] at hj
    · simp [h] at hj

/-- A step that yields a value. -/
theorem step_value {o : Oper} {a : Act} {W W' : World} {K' : Act → World → Prop} {v : Value} {E : Prop} (hw : Region.wanted o (yielded ops a.tmps) = true)
    (hrun : (execOp a.eval o).run P W = .ok (.value v) W') (hK : K' (a.put o.dst v) W') :
    if Region.wanted o (yielded ops a.tmps) = true then Oper.wp P o a W K' Q else E := by
  rw [if_pos hw, Oper.wp, hrun, Oper.upon_value]
  exact hK

/-- A step that calls a function. -/
theorem step_enter {o : Oper} {a : Act} {W W' : World} {K' : Act → World → Prop} {f : FuncId} {args : Array Value} {E : Prop} (hw : Region.wanted o (yielded ops a.tmps) = true)
    (hrun : (execOp a.eval o).run P W = .ok (.enter f args) W') (hc : Calls P f args W' fun e w' => ∃ v, e = .returned v ∧ K' (a.put o.dst v) w') :
    if Region.wanted o (yielded ops a.tmps) = true then Oper.wp P o a W K' Q else E := by
  rw [if_pos hw, Oper.wp, hrun, Oper.upon_enter]
  refine hc.mono fun e w' h => ?_
  obtain ⟨v, rfl, h⟩ := h
  exact h

/-- A step that is not wanted. -/
theorem step_skip {o : Oper} {a : Act} {W : World} {K' : Act → World → Prop} {E : Prop} (hw : Region.wanted o (yielded ops a.tmps) = false) (hE : E) :
    if Region.wanted o (yielded ops a.tmps) = true then Oper.wp P o a W K' Q else E := by
  rw [if_neg (by rw [hw]; simp)]
  exact hE

theorem run_mv {ρ : Operand → Value} {o : Oper} (x : Operand) (h : o.op = .move x) (w : World) : (execOp ρ o).run P w = .ok (.value (ρ x)) w := by
  unfold execOp; rw [h]; rfl
theorem run_as {ρ : Operand → Value} {o : Oper} (x : Operand) (h : o.op = .assign x) (w : World) : (execOp ρ o).run P w = .ok (.value (ρ x)) w := by
  unfold execOp; rw [h]; rfl
end
end Go.Proofs.YtkehnmapnckdgaaDoor

/- A region that draws its order of evaluation, by an invariant that knows which operations are done: one step for each operation. My own law, over Derived/Orders.lean. -/
namespace Go.Proofs.YtkehnmapnckdgaaDoor
open Go.RowKit

/-- Operation i is done, too. -/
def also (d : Nat → Bool) (i : Nat) : Nat → Bool := fun j => cond (Nat.beq j i) true (d j)

section
variable {P : Program} {ops : Array Oper} {Q : Exit → Act → World → Prop}

/-- One operation's step. -/
def StepInv (P : Program) (ops : Array Oper) (Q : Exit → Act → World → Prop) (A : (Nat → Value) → Act) (I : (Nat → Bool) → (Nat → Value) → World → Prop) (i : Nat) : Prop :=
  ∀ o, ops[i]? = some o → ∀ (d : Nat → Bool) (u : Nat → Value) (W : World), I d u W → d i = false → (∀ j, waits o j = true → d j = true) →
    wpOp P ops Q i (fun a' w' => ∃ v, a' = A (upd u i v) ∧ I (also d i) (upd u i v) w') (A u) W

def StepsInv (P : Program) (ops : Array Oper) (Q : Exit → Act → World → Prop) (A : (Nat → Value) → Act) (I : (Nat → Bool) → (Nat → Value) → World → Prop) (rs : List Nat) : Prop :=
  ∀ i ∈ rs, StepInv P ops Q A I i

theorem StepsInv.nil {A : (Nat → Value) → Act} {I : (Nat → Bool) → (Nat → Value) → World → Prop} : StepsInv P ops Q A I [] := fun _ h => by cases h

theorem StepsInv.cons {A : (Nat → Value) → Act} {I : (Nat → Bool) → (Nat → Value) → World → Prop} {i : Nat} {rs : List Nat} (o : Oper) (ho : ops[i]? = some o)
    (h : ∀ (d : Nat → Bool) (u : Nat → Value) (W : World) (K' : Act → World → Prop), I d u W → d i = false → (∀ j, waits o j = true → d j = true) →
      Shut (∀ v w', I (also d i) (upd u i v) w' → K' (A (upd u i v)) w') →
      if Region.wanted o (yielded ops (A u).tmps) = true then Oper.wp P o (A u) W K' Q else K' ((A u).put o.dst undef) W)
    (hs : StepsInv P ops Q A I rs) : StepsInv P ops Q A I (i :: rs) := fun j hj => by
  rcases List.mem_cons.1 hj with rfl | hj
  · intro o' ho' d u W hI hd hw
    rw [ho] at ho'
    obtain rfl : o = o' := Option.some.inj ho'
    exact wpOp_step ho (fun K' hK => h d u W K' hI hd hw (fun v w' h1 => hK _ _ ⟨v, rfl, h1⟩))
  · exact hs j hj

theorem also_listed (listed : Array Bool) {i : Nat} (hi : i < listed.size) : (fun j => (listed.setIfInBounds i true).getD j false) = also (fun j => listed.getD j false) i := by
  funext j
  unfold also
  by_cases h : j = i
  · subst h
    have : Nat.beq j j = true := Nat.beq_refl j
    rw [this]
    simp [hi]
  · have hb : Nat.beq j i = false := by cases hb : Nat.beq j i <;> first | rfl | exact absurd (Nat.eq_of_beq_eq_true hb) h
    rw [hb]
    exact getD_set_ne false (Ne.symm h)

theorem inv_go (A : (Nat → Value) → Act) (I : (Nat → Bool) → (Nat → Value) → World → Prop) (hl : lowAfter ops = true)
    (hstep : StepsInv P ops Q A I (List.range ops.size))
    (hdone : ∀ d u W, I d u W → (∀ j, j < ops.size → d j = true) → Q .normal (A u) W) :
    ∀ (fuel : Nat) (listed : Array Bool) (u : Nat → Value) (W : World), listed.size = ops.size → listed.toList.count false ≤ fuel → I (fun j => listed.getD j false) u W →
      wpAny P .any ops Q fuel listed (A u) W := by
  intro fuel
  induction fuel with
  | zero =>
    intro listed u W hsz hc hI
    have hr : Region.ready .any ops listed = [] := by
      refine List.eq_nil_iff_forall_not_mem.2 fun j hj => ?_
      obtain ⟨h1, o, ho, _⟩ := mem_ready.1 hj
      have hjs : j < listed.size := by
        rw [hsz]
        rcases Nat.lt_or_ge j ops.size with h | h
        · exact h
        · rw [Array.getElem?_eq_none h] at ho; cases ho
      refine count_none listed.toList (by omega) j ?_
      simp [hjs] at h1 ⊢
      exact h1
    exact ⟨hr, hdone _ u W hI fun j hj => all_listed hl listed hr hsz (j + 1) j (by omega) hj⟩
  | succ fuel ih =>
    intro listed u W hsz hc hI
    refine ⟨fun hr => hdone _ u W hI fun j hj => all_listed hl listed hr hsz (j + 1) j (by omega) hj, fun i hi => ?_⟩
    obtain ⟨h1, o, ho, hall⟩ := mem_ready.1 hi
    have his : i < ops.size := by
      rcases Nat.lt_or_ge i ops.size with h | h
      · exact h
      · rw [Array.getElem?_eq_none h] at ho; cases ho
    have hil : i < listed.size := by omega
    have hdi : listed.getD i false = false := by simp [hil] at h1 ⊢; exact h1
    have hdep : ∀ j, waits o j = true → listed.getD j false = true := fun j hj => by
      obtain ⟨e, he, hb⟩ := Array.any_eq_true'.1 hj
      simp only [Bool.and_eq_true, beq_iff_eq] at hb
      obtain ⟨hb, rfl⟩ := hb
      exact hall e he hb
    refine wpOp_mono (fun a' w' h => ?_) (hstep i (List.mem_range.2 his) o ho (fun j => listed.getD j false) u W hI hdi hdep)
    obtain ⟨v, rfl, hI'⟩ := h
    rw [← also_listed listed hil] at hI'
    refine ih _ _ _ (by simpa using hsz) ?_ hI'
    have h2 : listed.toList[i]? = some false := by simp [hil] at h1 ⊢; exact h1
    have := count_set listed.toList i h2
    rw [Array.toList_setIfInBounds]
    omega

/-- A region that draws: a step for each operation, whatever the order; the invariant knows what is done. -/
theorem wp_inv {id : Nat} {w : World} {rs : List Nat} (A : (Nat → Value) → Act) (u0 : Nat → Value) (I : (Nat → Bool) → (Nat → Value) → World → Prop) (hm : P.follows .mixedOrders = true) (hl : lowAfter ops = true)
    (hrs : List.range ops.size = rs) (hI : I (fun _ => false) u0 w.drew) (hstep : StepsInv P ops Q A I rs)
    (hdone : ∀ d u W, I d u W → (∀ j, j < ops.size → d j = true) → Q .normal (A u) W) :
    (Code.region id ops true).wp P Q (A u0) w := by
  subst hrs
  refine wp_region_any hm (inv_go A I hl hstep hdone _ _ _ _ (by simp) ?_ ?_)
  · exact Nat.le_trans List.count_le_length (by simp)
  · have e : (fun j => (Array.replicate ops.size false).getD j false) = fun _ => false := by
      funext j
      rcases Nat.lt_or_ge j ops.size with h | h
      · simp [h]
      · simp [h]
    rw [e]
    exact hI
/-- A step that yields nothing. -/
theorem step_none {o : Oper} {a : Act} {W W' : World} {K' : Act → World → Prop} {E : Prop} (hw : Region.wanted o (yielded ops a.tmps) = true)
    (hrun : (execOp a.eval o).run P W = .ok .skip W') (hK : K' (a.put o.dst undef) W') :
    if Region.wanted o (yielded ops a.tmps) = true then Oper.wp P o a W K' Q else E := by
  rw [if_pos hw, Oper.wp, hrun, Oper.upon_skip]
  exact hK
end
end Go.Proofs.YtkehnmapnckdgaaDoor
