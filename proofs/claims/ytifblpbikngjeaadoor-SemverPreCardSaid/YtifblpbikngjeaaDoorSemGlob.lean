/- What the package-level variables hold that the library's number texts read: the two errors, the table of powers of ten. -/
import Derived.Test.YtifblpbikngjeaaDoorBase
import Derived.Test.YtifblpbikngjeaaDoorShelfSem
import Derived.Lib.LaidTab
import Derived.Lib.ItoaNum
import Derived.LaidLaws
import Derived.WalkSmall
import Derived.MakeChecks
namespace Go.Proofs.YtifblpbikngjeaaDoor
open Go.RowKit
set_option linter.unusedVariables false

/-- The variables hold what the program's text lays. -/
structure Globs (w : World) : Prop where
  syn : ∃ te pe, w.cell? ⟨1, 0, none⟩ = some (.iface te pe)
  rng : ∃ te pe, w.cell? ⟨2, 0, none⟩ = some (.iface te pe)
  tab : Lib.TabIs Tryd.prog w "internal/strconv.uint64pow10" .u64 Lib.pow10Tab

theorem pow10_at : Tryd.prog.globalNamed "internal/strconv.uint64pow10" = some 3 := by kernel_rfl

theorem Globs.next {w w' : World} (h : Globs w) (hb : Below w.heap.size w w') : Globs w' := by
  obtain ⟨⟨te, pe, h1⟩, ⟨te', pe', h2⟩, h3⟩ := h
  have l1 := Lib.lt_of_cell h1
  have l2 := Lib.lt_of_cell h2
  have l3 := Lib.lt_of_cell (Lib.TabIs.cell h3 pow10_at 0 (by rw [Lib.pow10Tab_length]; omega))
  exact ⟨⟨te, pe, (hb.cell (p := ⟨1, 0, none⟩) l1).trans h1⟩, ⟨te', pe', (hb.cell (p := ⟨2, 0, none⟩) l2).trans h2⟩, var?_below hb pow10_at l3 h3⟩

theorem laidVars_mem {P : Program} {w : World} : ∀ {l : List (String × DataW Unit)} {ps : List MemPlace}, DataW.LaidVars P w l ps → ∀ x ∈ l,
    ∃ g t cs fuel p, P.globalNamed x.1 = some g ∧ (P.globals[g]?).map (·.type) = some t ∧ w.var? P x.1 = some cs ∧ DataW.trod (fun _ => ()) P w 0 (fun _ => true) false fuel t cs.toList = some (x.2, p)
  | [], _, _, x, hx => by simp at hx
  | (n, d) :: r, ps, h, x, hx => by
    obtain ⟨g, t, cs, fuel, p, q, h1, h2, h3, h4, h5, _⟩ := h
    rcases List.mem_cons.1 hx with rfl | hx
    · exact ⟨g, t, cs, fuel, p, h1, h2, h3, h4⟩
    · exact laidVars_mem h5 x hx

theorem err_cell {w : World} {n : String} {g : Nat} {d : DataW Unit} {nm : String} {cs : Array Value} {fuel : Nat} {p : List MemPlace} {g' t : Nat}
    (hg : Tryd.prog.globalNamed n = some g) (ht : (Tryd.prog.globals[g]?).map (·.type) = some 55)
    (h1 : Tryd.prog.globalNamed n = some g') (h2 : (Tryd.prog.globals[g']?).map (·.type) = some t) (h3 : w.var? Tryd.prog n = some cs) (h4 : DataW.trod (fun _ => ()) Tryd.prog w 0 (fun _ => true) false fuel t cs.toList = some (.iface nm d, p)) :
    ∃ te pe, w.cell? ⟨g, 0, none⟩ = some (.iface te pe) := by
  obtain rfl := Option.some.inj (hg.symm.trans h1)
  obtain rfl := Option.some.inj (ht.symm.trans h2)
  obtain ⟨_, u, v, hcs, _, _⟩ := iface_of_trod Tryd.underlying55 h4
  have h5 := World.var?_cell hg h3 0
  refine ⟨u, v, h5.trans ?_⟩
  have e : cs = #[.iface u v] := by
    apply Array.ext'
    simpa using hcs
  rw [e]; rfl

theorem globs_of {L : List (String × DataW Unit)} {W : World} (h : laidMet Tryd.prog L W) (m1 : ("strconv.ErrSyntax", Rows.laid_strconv_ErrSyntax) ∈ L) (m2 : ("strconv.ErrRange", Rows.laid_strconv_ErrRange) ∈ L)
    (m3 : ("internal/strconv.uint64pow10", Rows.laid_internal_strconv_uint64pow10) ∈ L) : Globs W := by
  obtain ⟨ps, hv, _, _⟩ := h
  obtain ⟨g1, t1, cs1, f1, p1, a1, b1, c1, d1⟩ := laidVars_mem hv _ m1
  obtain ⟨g2, t2, cs2, f2, p2, a2, b2, c2, d2⟩ := laidVars_mem hv _ m2
  obtain ⟨g3, t3, cs3, f3, p3, a3, b3, c3, d3⟩ := laidVars_mem hv _ m3
  refine ⟨err_cell (by kernel_rfl) (by kernel_rfl) a1 b1 c1 d1, err_cell (by kernel_rfl) (by kernel_rfl) a2 b2 c2 d2, ?_⟩
  obtain rfl := Option.some.inj (pow10_at.symm.trans a3)
  have ht : (Tryd.prog.globals[3]?).map (·.type) = some 109 := by kernel_rfl
  obtain rfl := Option.some.inj (ht.symm.trans b3)
  unfold Lib.TabIs
  rw [c3]
  have e : (Rows.laid_internal_strconv_uint64pow10 : DataW Unit) = Lib.tabData .u64 Lib.pow10Tab := by kernel_rfl
  have d3' : DataW.trod (fun _ => ()) Tryd.prog W 0 (fun _ => true) false f3 109 cs3.toList = some (Lib.tabData .u64 Lib.pow10Tab, p3) := by rw [← e]; exact d3
  have hc := Lib.cells_of_tab (n := 20) Tryd.underlying109 Tryd.underlying89 (by kernel_rfl) (by kernel_rfl) d3'
  rw [← hc]
end Go.Proofs.YtifblpbikngjeaaDoor
