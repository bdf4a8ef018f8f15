/- A region that draws its order of evaluation, by an invariant that knows which operations are done: one step for each operation. My own law, over Derived/Orders.lean. -/
import Derived.Test.YtifblpbikngjeaaDoorOrders2
namespace Go.Proofs.YtifblpbikngjeaaDoor
open Go.RowKit

/-- Operation i is done, too. -/
def also (d : Nat → Bool) (i : Nat) : Nat → Bool := fun j => cond (Nat.beq j i) true (d j)

section
variable {P : Program} {ops : Array Oper} {Q : Exit → Act → World → Prop}

/-- One operation's step. -/
def StepInv (P : Program) (ops : Array Oper) (Q : Exit → Act → World → Prop) (A : (Nat → Value) → Act) (I : (Nat → Bool) → (Nat → Value) → World → Prop) (i : Nat) : Prop :=
  ∀ o, ops[i]? = some o → ∀ (d : Nat → Bool) (u : Nat → Value) (W : World), I d u W → d i = false → (∀ j, waits o j = true → d j = true) →
    wpOp P ops Q i (fun a' w' => ∃ v, a' = A (upd u i v) ∧ I (also d i) (upd u i v) w') (A u) W

def StepsInv (P : Program) (ops : Array Oper) (Q : Exit → Act → World → Prop) (A : (Nat → Value) → Act) (I : (Nat → Bool) → (Nat → Value) → World → Prop) (rs : List Nat) : Prop :=
  ∀ i ∈ rs, StepInv P ops Q A I i

theorem StepsInv.nil {A : (Nat → Value) → Act} {I : (Nat → Bool) → (Nat → Value) → World → Prop} : StepsInv P ops Q A I [] := fun _ h => by cases h

theorem StepsInv.cons {A : (Nat → Value) → Act} {I : (Nat → Bool) → (Nat → Value) → World → Prop} {i : Nat} {rs : List Nat} (o : Oper) (ho : ops[i]? = some o)
    (h : ∀ (d : Nat → Bool) (u : Nat → Value) (W : World) (K' : Act → World → Prop), I d u W → d i = false → (∀ j, waits o j = true → d j = true) →
      Shut (∀ v w', I (also d i) (upd u i v) w' → K' (A (upd u i v)) w') →
      if Region.wanted o (yielded ops (A u).tmps) = true then Oper.wp P o (A u) W K' Q else K' ((A u).put o.dst undef) W)
    (hs : StepsInv P ops Q A I rs) : StepsInv P ops Q A I (i :: rs) := fun j hj => by
  rcases List.mem_cons.1 hj with rfl | hj
  · intro o' ho' d u W hI hd hw
    rw [ho] at ho'
    obtain rfl : o = o' := Option.some.inj ho'
    exact wpOp_step ho (fun K' hK => h d u W K' hI hd hw (fun v w' h1 => hK _ _ ⟨v, rfl, h1⟩))
  · exact hs j hj

theorem also_listed (listed : Array Bool) {i : Nat} (hi : i < listed.size) : (fun j => (listed.setIfInBounds i true).getD j false) = also (fun j => listed.getD j false) i := by
  funext j
  unfold also
  by_cases h : j = i
  · subst h
    have : Nat.beq j j = true := Nat.beq_refl j
    rw [this]
    simp [hi]
  · have hb : Nat.beq j i = false := by cases hb : Nat.beq j i <;> first | rfl | exact absurd (Nat.eq_of_beq_eq_true hb) h
    rw [hb]
    exact getD_set_ne false (Ne.symm h)

theorem inv_go (A : (Nat → Value) → Act) (I : (Nat → Bool) → (Nat → Value) → World → Prop) (hl : lowAfter ops = true)
    (hstep : StepsInv P ops Q A I (List.range ops.size))
    (hdone : ∀ d u W, I d u W → (∀ j, j < ops.size → d j = true) → Q .normal (A u) W) :
    ∀ (fuel : Nat) (listed : Array Bool) (u : Nat → Value) (W : World), listed.size = ops.size → listed.toList.count false ≤ fuel → I (fun j => listed.getD j false) u W →
      wpAny P .any ops Q fuel listed (A u) W := by
  intro fuel
  induction fuel with
  | zero =>
    intro listed u W hsz hc hI
    have hr : Region.ready .any ops listed = [] := by
      refine List.eq_nil_iff_forall_not_mem.2 fun j hj => ?_
      obtain ⟨h1, o, ho, _⟩ := mem_ready.1 hj
      have hjs : j < listed.size := by
        rw [hsz]
        rcases Nat.lt_or_ge j ops.size with h | h
        · exact h
        · rw [Array.getElem?_eq_none h] at ho; cases ho
      refine count_none listed.toList (by omega) j ?_
      simp [hjs] at h1 ⊢
      exact h1
    exact ⟨hr, hdone _ u W hI fun j hj => all_listed hl listed hr hsz (j + 1) j (by omega) hj⟩
  | succ fuel ih =>
    intro listed u W hsz hc hI
    refine ⟨fun hr => hdone _ u W hI fun j hj => all_listed hl listed hr hsz (j + 1) j (by omega) hj, fun i hi => ?_⟩
    obtain ⟨h1, o, ho, hall⟩ := mem_ready.1 hi
    have his : i < ops.size := by
      rcases Nat.lt_or_ge i ops.size with h | h
      · exact h
      · rw [Array.getElem?_eq_none h] at ho; cases ho
    have hil : i < listed.size := by omega
    have hdi : listed.getD i false = false := by simp [hil] at h1 ⊢; exact h1
    have hdep : ∀ j, waits o j = true → listed.getD j false = true := fun j hj => by
      obtain ⟨e, he, hb⟩ := Array.any_eq_true'.1 hj
      simp only [Bool.and_eq_true, beq_iff_eq] at hb
      obtain ⟨hb, rfl⟩ := hb
      exact hall e he hb
    refine wpOp_mono (fun a' w' h => ?_) (hstep i (List.mem_range.2 his) o ho (fun j => listed.getD j false) u W hI hdi hdep)
    obtain ⟨v, rfl, hI'⟩ := h
    rw [← also_listed listed hil] at hI'
    refine ih _ _ _ (by simpa using hsz) ?_ hI'
    have h2 : listed.toList[i]? = some false := by simp [hil] at h1 ⊢; exact h1
    have := count_set listed.toList i h2
    rw [Array.toList_setIfInBounds]
    omega

/-- A region that draws: a step for each operation, whatever the order; the invariant knows what is done. -/
theorem wp_inv {id : Nat} {w : World} {rs : List Nat} (A : (Nat → Value) → Act) (u0 : Nat → Value) (I : (Nat → Bool) → (Nat → Value) → World → Prop) (hm : P.follows .mixedOrders = true) (hl : lowAfter ops = true)
    (hrs : List.range ops.size = rs) (hI : I (fun _ => false) u0 w.drew) (hstep : StepsInv P ops Q A I rs)
    (hdone : ∀ d u W, I d u W → (∀ j, j < ops.size → d j = true) → Q .normal (A u) W) :
    (Code.region id ops true).wp P Q (A u0) w := by
  subst hrs
  refine wp_region_any hm (inv_go A I hl hstep hdone _ _ _ _ (by simp) ?_ ?_)
  · exact Nat.le_trans List.count_le_length (by simp)
  · have e : (fun j => (Array.replicate ops.size false).getD j false) = fun _ => false := by
      funext j
      rcases Nat.lt_or_ge j ops.size with h | h
      · simp [h]
      · simp [h]
    rw [e]
    exact hI
/-- A step that yields nothing. -/
theorem step_none {o : Oper} {a : Act} {W W' : World} {K' : Act → World → Prop} {E : Prop} (hw : Region.wanted o (yielded ops a.tmps) = true)
    (hrun : (execOp a.eval o).run P W = .ok .skip W') (hK : K' (a.put o.dst undef) W') :
    if Region.wanted o (yielded ops a.tmps) = true then Oper.wp P o a W K' Q else E := by
  rw [if_pos hw, Oper.wp, hrun, Oper.upon_skip]
  exact hK
end
end Go.Proofs.YtifblpbikngjeaaDoor
