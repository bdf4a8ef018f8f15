/- What the proofs of TermsBare, TermsChecks, TermsDeep, TermsSame, TermsSames want, part 8. -/
import Derived.Lib.LaidTab
import Derived.Lib.ItoaNum
import Derived.LaidLaws
import Derived.WalkSmall
import Derived.MakeChecks
import Derived.WalkKit
import Derived.Below
import Derived.Lib.Hide
import Derived.Lib.IndexBytes
import Derived.Lib.CutLaws
import Derived.Shelf.RegionOpenPlain
import Derived.IntWalk
import Derived.RangeFuncFrom
import Derived.RangeFuncCalls
import Derived.RangeFuncLeaves
import Derived.RangeFuncRecord
import Derived.Shelf.Abstract
import Derived.Shelf.RegionOpen
import Derived.OwnWalkIn
import Derived.TacticsInMore
import Derived.LoopNIn
import Derived.LoopIn
import Derived.Lib.Split
import Derived.Deep.OwnRows
import Derived.Lib.AtoiAllCases
import Derived.Test.YtnkdedejfonbmaaGreatDoorK0n7
set_option linter.unusedVariables false
set_option linter.unusedSimpArgs false
set_option maxRecDepth 100000
set_option maxHeartbeats 16000000
namespace Go.Proofs.YtnkdedejfonbmaaGreatDoor
open Go.RowKit
structure Globs (w : World) : Prop where
 syn : ∃ te pe, w.cell? ⟨7, 0, none⟩ = some (.iface te pe)
 rng : ∃ te pe, w.cell? ⟨8, 0, none⟩ = some (.iface te pe)
 tab : Lib.TabIs Tryz.prog w "internal/strconv.uint64pow10" .u64 Lib.pow10Tab
theorem Z5X : Tryz.prog.globalNamed "internal/strconv.uint64pow10" = some 3 := by kernel_rfl
theorem Globs.next {w w' : World} (h : Globs w) (hb : Below w.heap.size w w') : Globs w' := by
 obtain ⟨⟨te, pe, h1⟩, ⟨te', pe', h2⟩, h3⟩ := h
 have l1 := Lib.lt_of_cell h1
 have l2 := Lib.lt_of_cell h2
 have l3 := Lib.lt_of_cell (Lib.TabIs.cell h3 Z5X 0 (by rw [Lib.pow10Tab_length]; omega))
 exact ⟨⟨te, pe, (hb.cell (p := ⟨7, 0, none⟩) l1).trans h1⟩, ⟨te', pe', (hb.cell (p := ⟨8, 0, none⟩) l2).trans h2⟩, var?_below hb Z5X l3 h3⟩
theorem Z2j {P : Program} {w : World} : ∀ {l : List (String × DataW Unit)} {ps : List MemPlace}, DataW.LaidVars P w l ps -> ∀ x ∈ l,
 ∃ g t cs fuel p, P.globalNamed x.1 = some g /\ (P.globals[g]?).map (·.type) = some t /\ w.var? P x.1 = some cs /\ DataW.trod (fun _ => ()) P w 0 (fun _ => true) false fuel t cs.toList = some (x.2, p)
 | [], _, _, x, hx => by simp at hx
 | (n, d) :: r, ps, h, x, hx => by
  obtain ⟨g, t, cs, fuel, p, q, h1, h2, h3, h4, h5, _⟩ := h
  rcases List.mem_cons.1 hx with rfl | hx
  {exact ⟨g, t, cs, fuel, p, h1, h2, h3, h4⟩}
  {exact Z2j h5 x hx}
theorem Z8T {w : World} {n : String} {g : Nat} {d : DataW Unit} {nm : String} {cs : Array Value} {fuel : Nat} {p : List MemPlace} {g' t : Nat}
 (hg : Tryz.prog.globalNamed n = some g) (ht : (Tryz.prog.globals[g]?).map (·.type) = some 93)
 (h1 : Tryz.prog.globalNamed n = some g') (h2 : (Tryz.prog.globals[g']?).map (·.type) = some t) (h3 : w.var? Tryz.prog n = some cs) (h4 : DataW.trod (fun _ => ()) Tryz.prog w 0 (fun _ => true) false fuel t cs.toList = some (.iface nm d, p)) :
 ∃ te pe, w.cell? ⟨g, 0, none⟩ = some (.iface te pe) := by
 obtain rfl := Option.some.inj (hg.symm.trans h1)
 obtain rfl := Option.some.inj (ht.symm.trans h2)
 obtain ⟨_, u, v, hcs, _, _⟩ := iface_of_trod Tryz.underlying93 h4
 have h5 := World.var?_cell hg h3 0
 refine ⟨u, v, h5.trans ?_⟩
 have e : cs = #[.iface u v] := by
  apply Array.ext'
  simpa using hcs
 rw [e]; rfl
theorem Z3j {L : List (String × DataW Unit)} {W : World} (h : laidMet Tryz.prog L W) (m1 : ("strconv.ErrSyntax", Rows.laid_strconv_ErrSyntax) ∈ L) (m2 : ("strconv.ErrRange", Rows.laid_strconv_ErrRange) ∈ L)
 (m3 : ("internal/strconv.uint64pow10", Rows.laid_internal_strconv_uint64pow10) ∈ L) : Globs W := by
 obtain ⟨ps, hv, _, _⟩ := h
 obtain ⟨g1, t1, cs1, f1, p1, a1, b1, c1, d1⟩ := Z2j hv _ m1
 obtain ⟨g2, t2, cs2, f2, p2, a2, b2, c2, d2⟩ := Z2j hv _ m2
 obtain ⟨g3, t3, cs3, f3, p3, a3, b3, c3, d3⟩ := Z2j hv _ m3
 refine ⟨Z8T (by kernel_rfl) (by kernel_rfl) a1 b1 c1 d1, Z8T (by kernel_rfl) (by kernel_rfl) a2 b2 c2 d2, ?_⟩
 obtain rfl := Option.some.inj (Z5X.symm.trans a3)
 have ht : (Tryz.prog.globals[3]?).map (·.type) = some 171 := by kernel_rfl
 obtain rfl := Option.some.inj (ht.symm.trans b3)
 unfold Lib.TabIs
 rw [c3]
 have e : (Rows.laid_internal_strconv_uint64pow10 : DataW Unit) = Lib.tabData .u64 Lib.pow10Tab := by kernel_rfl
 have d3' : DataW.trod (fun _ => ()) Tryz.prog W 0 (fun _ => true) false f3 171 cs3.toList = some (Lib.tabData .u64 Lib.pow10Tab, p3) := by rw [<- e]; exact d3
 have hc := Lib.cells_of_tab (n := 20) Tryz.underlying171 Tryz.underlying148 (by kernel_rfl) (by kernel_rfl) d3'
 rw [<- hc]
end Go.Proofs.YtnkdedejfonbmaaGreatDoor
namespace Sem
def cut (c : UInt8) : List UInt8 -> List UInt8 × List UInt8 × Bool
 | [] => ([], [], false)
 | d :: r => if d = c then ([], r, true) else (d :: (cut c r).1, (cut c r).2.1, (cut c r).2.2)
theorem Z8U {c : UInt8} : ∀ {l : List UInt8}, (∀ d ∈ l, d ≠ c) -> cut c l = (l, [], false)
 | [], _ => rfl
 | d :: r, h => by rw [cut, if_neg (h d (by simp)), Z8U (fun e he => h e (by simp [he]))]
theorem cut_at {c : UInt8} : ∀ {p : List UInt8} (q : List UInt8), (∀ d ∈ p, d ≠ c) -> cut c (p ++ c :: q) = (p, q, true)
 | [], q, _ => by rw [List.nil_append, cut, if_pos rfl]
 | d :: r, q, h => by rw [List.cons_append, cut, if_neg (h d (by simp)), cut_at q (fun e he => h e (by simp [he]))]
theorem Zep (l : List UInt8) : parts l = if (cut 46 l).2.2 = true then (cut 46 l).1 :: parts (cut 46 l).2.1 else [l] := by
 induction l with
 | nil => rfl
 | cons d r ih =>
  by_cases h : d = 46
  {subst h; rw [Z1s, cut, if_pos rfl]; rfl}
  {rw [cut, if_neg h]
   simp only
   rcases hp : parts r with _ | ⟨p, ps⟩
   {exact absurd hp (Z22 r)}
   {rw [Z0T h hp]
    rw [hp] at ih
    by_cases hc : (cut 46 r).2.2 = true
    {rw [if_pos hc] at ih ⊢
     simp only [List.cons.injEq] at ih
     rw [ih.1, ih.2]}
    {rw [if_neg hc] at ih ⊢
     simp only [List.cons.injEq] at ih
     rw [ih.1, ih.2]}}}
theorem Z6Z (c : UInt8) : ∀ l : List UInt8, (cut c l).1.length <= l.length /\ (cut c l).2.1.length <= l.length /\ ((cut c l).2.2 = true -> (cut c l).2.1.length < l.length)
 | [] => by simp [cut]
 | d :: r => by
  obtain ⟨h1, h2, h3⟩ := Z6Z c r
  rw [cut]
  split
  {simp}
  {simp only [List.length_cons]
   exact ⟨by omega, by omega, fun h => by have := h3 h; omega⟩}
end Sem
namespace Go.Proofs.YtnkdedejfonbmaaGreatDoor
open Go.RowKit
theorem Z70 (c : UInt8) : ∀ l : List UInt8, Lib.cut l [c] = Sem.cut c l
 | [] => by simp [Lib.cut, Lib.index, Sem.cut]
 | d :: r => by
  have ih := Z70 c r
  have hge := Lib.indexByte_ge r c
  unfold Lib.cut at ih ⊢
  rw [Lib.index_one] at ih ⊢
  rw [Sem.cut]
  unfold Lib.indexByte
  by_cases h : d = c
  {subst h
   simp}
  {have hb : (d == c) = false := by simpa using h
   rw [hb, if_neg h]
   simp only [Bool.false_eq_true, if_false]
   by_cases h2 : Lib.indexByte r c = -1
   {rw [h2] at ih ⊢
    simp at ih ⊢
    rw [<- ih]
    simp}
   {have h3 : (Lib.indexByte r c == -1) = false := by simpa using h2
    rw [h3]
    simp only [Bool.false_eq_true, if_false]
    rw [if_pos (by omega)] at ih
    rw [if_pos (by omega), <- ih]
    have e : (Lib.indexByte r c + 1).toNat = (Lib.indexByte r c).toNat + 1 := by omega
    rw [e]
    simp}}
def cutR (c : UInt8) (l : List UInt8) : Value := .tuple #[.string ⟨(Sem.cut c l).1.toArray⟩, .string ⟨(Sem.cut c l).2.1.toArray⟩, .bool (Sem.cut c l).2.2]
theorem Z8V (s : ByteArray) (c : UInt8) (hs : s.size <= 4611686018427387904) (w : World) :
 Y9 177 #[.string s, .string ⟨#[c]⟩] w (cutR c s.data.toList) := by
 have hsz : (⟨#[c]⟩ : ByteArray).size = 1 := rfl
 have hI : ∀ w, Calls Tryz.prog 186 #[.string s, .string ⟨#[c]⟩] w fun e w' => e = .returned (.int .i64 (Lib.indexB s ⟨#[c]⟩)) /\ w' = w := fun w => by
  have := Any.stringslite_Index_one Tryz.lays219 s c w
  rw [<- Lib.index_one] at this
  exact this
 have hc := Z70 c s.data.toList
 have HC : Hid (cutR c s.data.toList = .tuple #[.string ⟨(Lib.cut s.data.toList (⟨#[c]⟩ : ByteArray).data.toList).1.toArray⟩, .string ⟨(Lib.cut s.data.toList (⟨#[c]⟩ : ByteArray).data.toList).2.1.toArray⟩, .bool (Lib.cut s.data.toList (⟨#[c]⟩ : ByteArray).data.toList).2.2]) := Y1 (by
  show _ = Value.tuple #[.string ⟨(Lib.cut s.data.toList [c]).1.toArray⟩, .string ⟨(Lib.cut s.data.toList [c]).2.1.toArray⟩, .bool (Lib.cut s.data.toList [c]).2.2]
  rw [hc]; rfl)
 clear hc
 rcases Lib.indexB_cases s ⟨#[c]⟩ with hix | ⟨i, hix, hroom⟩
 {obtain ⟨e1, e2, e3⟩ := Lib.cutB_miss s ⟨#[c]⟩ hix
  rw [e1, e2, e3] at HC
  rw [hix] at hI
  clear hix e1 e2 e3
  go_enter Tryz.func177, Tryz.ntmps177
  go_wp2_with (go_at_call 186; refine (hI _).mono ?_; rintro e w' ⟨rfl, rfl⟩)
  go_ret3
  exact ⟨by rw [HC.out]; rfl, Below.refl _ _⟩}
 {obtain ⟨e1, e2, e3⟩ := Lib.cutB_hit s ⟨#[c]⟩ i hix
  rw [e1, e2, e3] at HC
  rw [hix] at hI
  rw [hsz] at hroom HC
  clear hix e1 e2 e3
  have c1 : (0 : Int) <= ↑i := by omega
  have c2 : (↑i : Int) <= ↑s.size := by omega
  have c3 : (0 : Int) <= ↑i + 1 := by omega
  have c4 : (↑i + 1 : Int) <= ↑s.size := by omega
  have hw : IntKind.i64.wrap ((i : Int) + 1) = (i : Int) + 1 := IntWalk.i64_in _ (by omega)
  have mixed : Tryz.prog.follows .mixedOrders = true := by kernel_rfl
  go_enter Tryz.func177, Tryz.ntmps177
  go_wp2_with (go_at_call 186; refine (hI _).mono ?_; rintro e w' ⟨rfl, rfl⟩)
  go_region
  go_wp2
  go_ret3
  exact ⟨by rw [HC.out]; rfl, Z0k Y2 _⟩}
theorem Z8W (s : ByteArray) (c : UInt8) (hs : s.size <= 4611686018427387904) (w : World) :
 Y9 169 #[.string s, .string ⟨#[c]⟩] w (cutR c s.data.toList) := by
 have hI := Z8V s c hs
 unfold cutR at hI ⊢
 go_enter Tryz.func169, Tryz.ntmps169
 go_wp2_with (go_at_call 177; refine (hI _).mono ?_; rintro e w' ⟨rfl, hb⟩)
 go_ret3
 exact ⟨rfl, by assumption⟩
attribute [local go_sem] Oper.semAt_some
def SeqAt (W : World) (b : Nat) (s : List UInt8) : Prop :=
 b + 2 < W.heap.size /\ W.cell? ⟨b, 0, none⟩ = some (.string ⟨s.toArray⟩) /\ W.frozen? ⟨b, 0, none⟩ = false /\ W.cell? ⟨b + 1, 0, none⟩ = some (.string ⟨#[46]⟩) /\ W.cell? ⟨b + 2, 0, none⟩ = some (.int .i64 0)
theorem SeqAt.keep {W W' : World} {b : Nat} {s : List UInt8} (h : SeqAt W b s) (hb : Below (b + 3) W W') : SeqAt W' b s := by
 obtain ⟨h0, h1, h2, h3, h4⟩ := h
 exact ⟨Nat.lt_of_lt_of_le h0 hb.size, (hb.cell (p := ⟨b, 0, none⟩) (by show b < b + 3; omega)).trans h1, (hb.frozen (p := ⟨b, 0, none⟩) (by show b < b + 3; omega)).trans h2,
  (hb.cell (p := ⟨b + 1, 0, none⟩) (by show b + 1 < b + 3; omega)).trans h3, (hb.cell (p := ⟨b + 2, 0, none⟩) (by show b + 2 < b + 3; omega)).trans h4⟩
theorem SeqAt.set {W : World} {b : Nat} {s t : List UInt8} (h : SeqAt W b s) : SeqAt (W.setCell ⟨b, 0, none⟩ (.string ⟨t.toArray⟩)) b t := by
 obtain ⟨h0, h1, h2, h3, h4⟩ := h
 refine ⟨by rw [World.size_setCell]; exact h0, World.cell?_setCell_same _ _ _ h1, by rw [World.frozen?_setCell]; exact h2, ?_, ?_⟩
 {refine (World.cell?_setCell_other _ _ _ _ ?_).trans h3
  intro h; have := congrArg Addr.block h; simp at this}
 {refine (World.cell?_setCell_other _ _ _ _ ?_).trans h4
  intro h; have := congrArg Addr.block h; simp at this}
theorem ZfM (s : List UInt8) (w : World) :
 Calls Tryz.prog 211 #[.string ⟨s.toArray⟩, .string ⟨#[46]⟩] w fun e w' => e = .returned (.func (.func 225) #[] #[.pointer (some ⟨w.heap.size + 1, 0, none⟩), .pointer (some ⟨w.heap.size, 0, none⟩), .pointer (some ⟨w.heap.size + 2, 0, none⟩)]) /\ SeqAt w' w.heap.size s /\ Below w.heap.size w w' := by
 have hin : ∀ w, Calls Tryz.prog 218 #[.string ⟨s.toArray⟩, .string ⟨#[46]⟩, .int .i64 0] w fun e w' => e = .returned (.func (.func 225) #[] #[.pointer (some ⟨w.heap.size + 1, 0, none⟩), .pointer (some ⟨w.heap.size, 0, none⟩), .pointer (some ⟨w.heap.size + 2, 0, none⟩)]) /\ SeqAt w' w.heap.size s /\ Below w.heap.size w w' := by
  intro w
  go_enter Tryz.func218, Tryz.ntmps218
  go_wp2
  go_ret
  refine ⟨rfl, ⟨by simp, ?_, ?_, ?_, ?_⟩, Z08 (Z08 (Z02 _ _) _) _⟩
  {simp [go_sem]}
  {simp [go_sem]}
  {simp [go_sem]}
  {simp [go_sem]}
 go_enter Tryz.func211, Tryz.ntmps211
 go_wp2_with (go_at_call 218; refine (hin _).mono ?_; rintro e w' ⟨rfl, h1, h2⟩)
 go_ret
 exact ⟨rfl, by assumption, by assumption⟩
theorem Z7y (s : List UInt8) : (Lib.indexByte s 46 = -1 /\ (Sem.cut 46 s).2.2 = false) \/ ∃ i : Nat, Lib.indexByte s 46 = i /\ i < s.length /\ Sem.cut 46 s = (s.take i, s.drop (i + 1), true) := by
 have h := Z70 46 s
 unfold Lib.cut at h
 rw [Lib.index_one] at h
 have hge := Lib.indexByte_ge s 46
 by_cases hn : Lib.indexByte s 46 = -1
 {left
  rw [if_neg (by omega)] at h
  exact ⟨hn, by rw [<- h]⟩}
 {right
  rw [if_pos (by omega)] at h
  refine ⟨(Lib.indexByte s 46).toNat, by omega, ?_, h.symm⟩
  have h1 := (Lib.indexByte_some (l := s) (c := 46) (o := (Lib.indexByte s 46).toNat) (by omega)).1
  rcases Nat.lt_or_ge (Lib.indexByte s 46).toNat s.length with h2 | h2
  {exact h2}
  {rw [List.getElem?_eq_none h2] at h1; cases h1}}
theorem Z2t (s : List UInt8) (w : World) : Calls Tryz.prog 205 #[.string ⟨s.toArray⟩, .string ⟨#[46]⟩] w fun e w' => e = .returned (.int .i64 (Lib.indexByte s 46)) /\ w' = w :=
 Any.strings_Index_one Tryz.lays143 ⟨s.toArray⟩ 46 w
theorem ZfN (n : Nat) (hn : 1 <= n) (l b : Nat) (s : List UInt8) (hs : s.length <= 24) (J Jx : List (List UInt8) -> World -> Prop) (W : World)
 (hY : ∀ pre x W, J pre W -> x.length <= 24 -> YieldAt Fence.wide (n - 1) Tryz.prog l #[.string ⟨x.toArray⟩] W fun e W' =>
  (e = .returned (.bool true) /\ J (pre ++ [x]) W' /\ Below (b + 3) W W') \/ (e = .returned (.bool false) /\ Jx (pre ++ [x]) W'))
 (hJ : ∀ pre W v, J pre W -> J pre (W.setCell ⟨b, 0, none⟩ v)) (hS : SeqAt W b s) (h0 : J [] W) :
 CallsIn Fence.wide n Tryz.prog 225 #[.func (.yield l) #[] #[], .pointer (some ⟨b + 1, 0, none⟩), .pointer (some ⟨b, 0, none⟩), .pointer (some ⟨b + 2, 0, none⟩)] W fun e W' =>
  (∃ v, e = .returned v) /\ (J (Sem.parts s) W' \/ ∃ pre suf, pre ++ suf = Sem.parts s /\ Jx pre W') := by
 refine callsIn_of_wp Tryz.func225 rfl trivial ?_ rfl
 simp only [Tryz.ntmps225, List.size_toArray, List.length_cons, List.length_nil, Nat.reduceAdd, Nat.reduceSub, Array.replicate_succ, Array.replicate_zero, List.push_toArray, List.append_toArray, List.nil_append, List.cons_append]
 have HS := Y1 hS
 obtain ⟨hb, c0, f0, c1, c2⟩ := hS
 gi_wp2_with fail
 gi_loopw [7] (fun i wr => ∃ (pre : List (List UInt8)) (rest : List UInt8), rest.length <= 24 /\ SeqAt wr b rest /\ pre ++ Sem.parts rest = Sem.parts s /\ J pre wr)
  (fun i wr => match wr.cell? ⟨b, 0, none⟩ with | some (.string x) => x.size | _ => 0)
 case atStart => exact ⟨[], s, hs, HS.out, rfl, h0⟩
 case round =>
  clear HS hb c0 f0 c1 c2
  obtain ⟨pre, rest, hr, hSA, hpp, hJs⟩ := hrel
  have HSA := Y1 hSA
  have hcut := Sem.Zep rest
  obtain ⟨hb, c0, f0, c1, c2⟩ := hSA
  rcases Z7y rest with ⟨hi, hc⟩ | ⟨i, hi, hlt, hc⟩
  {rw [hc, if_neg (by simp)] at hcut
   have HE : Hid (pre ++ [rest] = Sem.parts s) := Y1 (by rw [<- hpp, hcut])
   have hI := fun w => callsIn_wide (n := n - 1).2 (Z2t rest w)
   rw [hi] at hI
   obtain ⟨fn, tmps, assign, body, hy, hR⟩ := hY pre rest wr hJs hr
   clear hc hi hcut hpp hY hJs
   gi_wp2_with (refine ⟨trivial, ?_⟩; gi_at_call 205; refine (hI _).mono ?_; rintro e w' ⟨rfl, rfl⟩)
   refine hR.mono ?_
   rintro e W3 (⟨rfl, hJ3, hk3⟩ | ⟨rfl, hJx3⟩)
   {gi_wp2
    go_end0
    exact ⟨⟨_, rfl⟩, Or.inl (by rw [<- HE.out]; exact hJ3)⟩}
   {gi_wp2
    go_end0
    exact ⟨⟨_, rfl⟩, Or.inr ⟨_, [], (List.append_nil _).trans HE.out, hJx3⟩⟩}}
  {rw [hc, if_pos rfl] at hcut
   have HE : Hid ((pre ++ [rest.take i]) ++ Sem.parts (rest.drop (i + 1)) = Sem.parts s) := Y1 (by rw [<- hpp, hcut]; simp)
   have hI := fun w => callsIn_wide (n := n - 1).2 (Z2t rest w)
   rw [hi] at hI
   obtain ⟨fn, tmps, assign, body, hy, hR⟩ := hY pre (rest.take i) wr hJs (by rw [List.length_take]; omega)
   have ex : (⟨(rest.take i).toArray⟩ : ByteArray) = (⟨rest.toArray⟩ : ByteArray).extract 0 i := by
    have := ByteArray.extract_mk rest 0 i
    simpa using this.symm
   rw [ex] at hy
   have hsz : (⟨rest.toArray⟩ : ByteArray).size = rest.length := Z04 _
   have hw : IntKind.i64.wrap ((i : Int) + 1) = (i : Int) + 1 := IntWalk.i64_in _ (by omega)
   have hsl : ∀ W, (Instr.slice 9 (.string ⟨rest.toArray⟩) (some (.int .i64 ((i : Int) + 1))) none none).run Tryz.prog W = .ok (.string ⟨(rest.drop (i + 1)).toArray⟩) W := fun W => by
    have h := Z1T ⟨rest.toArray⟩ (i + 1) (by rw [hsz]; omega) W
    exact h
   clear hc hi hcut hpp hY
   gi_wp2_with (refine ⟨trivial, ?_⟩; gi_at_call 205; refine (hI _).mono ?_; rintro e w' ⟨rfl, rfl⟩)
   refine hR.mono ?_
   rintro e W3 (⟨rfl, hJ3, hk3⟩ | ⟨rfl, hJx3⟩)
   {have hS3 := HSA.out.keep hk3
    have HS3 := Y1 hS3
    have HJ3 := Y1 hJ3
    obtain ⟨hb3, d0, g0, d1, d2⟩ := hS3
    have hm0 := d0
    clear c0 f0 c1 c2 hk3 hJ3
    gi_wp2
    go_roundw
    case rel => exact ⟨pre ++ [rest.take i], rest.drop (i + 1), by rw [List.length_drop]; omega, HS3.out.set, HE.out, hJ _ _ _ HJ3.out⟩
    case measure =>
     rw [World.cell?_setCell_same _ _ _ hm0, HSA.out.2.1]
     show (⟨(rest.drop (i + 1)).toArray⟩ : ByteArray).size < (⟨rest.toArray⟩ : ByteArray).size
     rw [Z04, Z04, List.length_drop]; omega}
   {gi_wp2
    refine bodyPost_ret (results_none rfl _ _ _) rfl ?_
    exact ⟨⟨_, rfl⟩, Or.inr ⟨_, _, HE.out, hJx3⟩⟩}}
end Go.Proofs.YtnkdedejfonbmaaGreatDoor
namespace Sem
def split : Nat -> List UInt8 -> List (List UInt8)
 | 0, l => [l]
 | k + 1, l => if (cut 46 l).2.2 = true then (cut 46 l).1 :: split k (cut 46 l).2.1 else [l]
theorem Z6m {k : Nat} {l : List UInt8} (h : (cut 46 l).2.2 = false) : split k l = [l] := by
 cases k with
 | zero => rfl
 | succ k => rw [split, if_neg (by rw [h]; simp)]
theorem Z4Q {k : Nat} {l p q : List UInt8} (h : cut 46 l = (p, q, true)) : split (k + 1) l = p :: split k q := by
 rw [split, h, if_pos rfl]
theorem Z5E : ∀ (k : Nat) (l : List UInt8), ∀ p ∈ split k l, p.length <= l.length
 | 0, l, p, hp => by simp [split] at hp; rw [hp]; omega
 | k + 1, l, p, hp => by
  rw [split] at hp
  split at hp
  {obtain ⟨h1, h2, _⟩ := Z6Z 46 l
   rcases List.mem_cons.1 hp with rfl | hp
   {exact h1}
   {exact Nat.le_trans (Z5E k _ p hp) h2}}
  {simp at hp; rw [hp]; omega}
end Sem
namespace Go.Proofs.YtnkdedejfonbmaaGreatDoor
open Go.RowKit
theorem Zap : (Tryz.prog.info? 9).map (fun i => (i.zero, i.size, i.bytes)) = some (some (.string ByteArray.empty), 1, 16) := by kernel_rfl
theorem Z7Z (s : List UInt8) (hs : s.length <= 4611686018427387904) (N : Nat) (hN : (N : Int) = min 4 ((s.length : Int) + 1)) (w : World) :
 Calls Tryz.prog 199 #[.string ⟨s.toArray⟩, .string ⟨#[46]⟩, .int .i64 0, .int .i64 4] w fun e w' =>
  e = .returned (.slice (some ⟨w.heap.size, 0, none⟩) (Sem.split (N - 1) s).length N) /\ w' = w.alloc (.cells (Lib.cellsOf (strs (Sem.split (N - 1) s)) N) 9) := by
 have hsz : (⟨s.toArray⟩ : ByteArray).size = s.length := Z04 _
 have eN : min (4 : Int) ((s.length : Int) + 1) = (N : Int) := hN.symm
 have hNs : (N : Int) <= (s.length : Int) + 1 := by rw [hN]; exact Int.min_le_right _ _
 have hN4 : (N : Int) <= 4 := by rw [hN]; exact Int.min_le_left _ _
 have hN1 : (1 : Int) <= (N : Int) := by rw [hN]; exact Int.le_min.2 ⟨by omega, by omega⟩
 have hmk := run_make_row' (P := Tryz.prog) 22 9 (.string ByteArray.empty) 16 Tryz.underlying22 Zap rfl .i64 .i64 N (by omega) (by omega)
 clear hN
 go_enter Tryz.func199, Tryz.ntmps199
 go_wp2_with fail
 clear hmk
 go_loopw [0, 10] (fun a i wr => ∃ (done : List (List UInt8)) (rest : List UInt8), a = .string ⟨rest.toArray⟩ /\ i = .int .i64 done.length /\ done.length <= N - 1 /\ rest.length <= s.length /\
  wr = w.alloc (.cells (Lib.cellsOf (strs done) N) 9) /\ Hid (done ++ Sem.split (N - 1 - done.length) rest = Sem.split (N - 1) s))
  (fun _ i _ => N - (intOf i).toNat)
 case atStart => exact ⟨[], s, rfl, rfl, Nat.zero_le _, Nat.le_refl _, by rw [show strs [] = [] from rfl, Lib.cellsOf_nil], Y1 (by simp)⟩
 case round =>
  obtain ⟨done, rest, rfl, rfl, hd, hr, rfl, HP⟩ := hrel
  have hsl : (strs done).length = done.length := by simp [strs]
  have hnext : (Lib.cellsOf (strs done) N)[done.length]? = some (.string ByteArray.empty) := by rw [<- hsl]; exact Lib.cellsOf_next (by omega)
  have fin : ∀ x : List UInt8, Sem.split (N - 1 - done.length) rest = [x] -> (Sem.split (N - 1) s).length = done.length + 1 /\ (Lib.cellsOf (strs done) N).setIfInBounds done.length (.string ⟨x.toArray⟩) = Lib.cellsOf (strs (Sem.split (N - 1) s)) N := fun x h => by
   rw [<- HP.out, h]
   refine ⟨by simp, ?_⟩
   have := Lib.cellsOf_set (done := strs done) (N := N) (by omega) ⟨x.toArray⟩
   rw [hsl] at this
   rw [this]; simp [strs]
  have hrs : (⟨rest.toArray⟩ : ByteArray).size = rest.length := Z04 _
  by_cases hlt : done.length < N - 1
  {have hltz : ((done.length : Nat) : Int) < (N : Int) - 1 := by omega
   have hI := fun w => Z2t rest w
   rcases Z7y rest with ⟨hi, hc⟩ | ⟨i, hi, hil, hc⟩
   {rw [hi] at hI
    obtain ⟨f1, f2⟩ := fin rest (Sem.Z6m hc)
    have F1 := Y1 f1
    have F2 := Y1 f2
    clear hi hc fin f1 f2
    go_wp2_with (go_at_call 205; refine (hI _).mono ?_; rintro e w' ⟨rfl, hw⟩; rw [hw])
    go_ret
    rw [F1.out, <- F2.out]
    exact ⟨rfl, rfl⟩}
   {rw [hi] at hI
    have HN : Hid ((done ++ [rest.take i]) ++ Sem.split (N - 1 - (done.length + 1)) (rest.drop (i + 1)) = Sem.split (N - 1) s) := Y1 (by
     rw [<- HP.out, show N - 1 - done.length = (N - 1 - (done.length + 1)) + 1 from by omega, Sem.Z4Q hc]; simp)
    have ex : (⟨rest.toArray⟩ : ByteArray).extract 0 i = ⟨(rest.take i).toArray⟩ := by
     have := ByteArray.extract_mk rest 0 i
     simpa using this
    have hset : (Lib.cellsOf (strs done) N).setIfInBounds done.length (.string ⟨(rest.take i).toArray⟩) = Lib.cellsOf (strs (done ++ [rest.take i])) N := by
     have := Lib.cellsOf_set (done := strs done) (N := N) (by omega) ⟨(rest.take i).toArray⟩
     rw [hsl] at this
     rw [this]; simp [strs]
    have hw1 : IntKind.i64.wrap ((i : Int) + 1) = (i : Int) + 1 := IntWalk.i64_in _ (by omega)
    have hw0 : IntKind.i64.wrap ((i : Int) + 0) = (i : Int) + 0 := IntWalk.i64_in _ (by omega)
    have hsp : ∀ W, (Instr.slice 9 (.string ⟨rest.toArray⟩) (some (.int .i64 ((i : Int) + 1))) none none).run Tryz.prog W = .ok (.string ⟨(rest.drop (i + 1)).toArray⟩) W := fun W => by
     have h := Z1T ⟨rest.toArray⟩ (i + 1) (by rw [hrs]; omega) W
     exact h
    have HS := Y1 hset
    clear hi hc fin hset
    go_wp2_with (go_at_call 205; refine (hI _).mono ?_; rintro e w' ⟨rfl, hw⟩; rw [hw])
    go_roundw
    case rel => exact ⟨done ++ [rest.take i], rest.drop (i + 1), rfl, by simp, by simp; omega, by rw [List.length_drop]; omega, by rw [<- HS.out], by rw [List.length_append]; exact HN⟩
    case measure => simp [intOf]; omega}}
  {have hltz : ¬ (((done.length : Nat) : Int) < (N : Int) - 1) := by omega
   obtain ⟨f1, f2⟩ := fin rest (by rw [show N - 1 - done.length = 0 from by omega]; rfl)
   have F1 := Y1 f1
   have F2 := Y1 f2
   clear fin f1 f2
   go_wp2
   go_ret
   rw [F1.out, <- F2.out]
   exact ⟨rfl, rfl⟩}
theorem Zcr (w : World) (ps : List (List UInt8)) (N : Nat) : Strs (w.alloc (.cells (Lib.cellsOf (strs ps) N) 9)) (w.alloc (.cells (Lib.cellsOf (strs ps) N) 9)).heap.size (some ⟨w.heap.size, 0, none⟩) (strs ps) := by
 refine Or.inr ⟨w.heap.size, 0, rfl, by simp, fun i hi => ?_⟩
 have h1 : (Lib.cellsOf (strs ps) N)[i]? = some (.string ((strs ps)[i]'hi)) := by
  unfold Lib.cellsOf
  simp [List.getElem?_append_left, hi]
 rw [Nat.zero_add]
 simp [go_sem, h1]
theorem Zaq (s : List UInt8) (hs : s.length <= 4611686018427387904) (w : World) :
 Calls Tryz.prog 195 #[.string ⟨s.toArray⟩, .string ⟨#[46]⟩, .int .i64 4] w fun e w' => ∃ g N, e = .returned (.slice (some ⟨g, 0, none⟩) (Sem.split (min 3 s.length) s).length N) /\
  Strs w' w'.heap.size (some ⟨g, 0, none⟩) (strs (Sem.split (min 3 s.length) s)) /\ Below w.heap.size w w' := by
 have hg := Z7Z s hs (min 4 (s.length + 1)) (by omega)
 rw [show min 4 (s.length + 1) - 1 = min 3 s.length from by omega] at hg
 go_enter Tryz.func195, Tryz.ntmps195
 go_wp2_with fail
 refine (hg _).mono ?_
 rintro e w' ⟨rfl, hw⟩
 have hS := Zcr w (Sem.split (min 3 s.length) s) (min 4 (s.length + 1))
 rw [<- hw] at hS
 have hB : Below w.heap.size w w' := by rw [hw]; exact Z02 _ _
 clear hw
 go_wp2
 go_ret
 exact ⟨_, _, rfl, hS, hB⟩
end Go.Proofs.YtnkdedejfonbmaaGreatDoor
namespace Sem
theorem ZfO (l : List UInt8) (c : UInt8) : num (l ++ [c]) = 10 * num l + (c.toNat - 48) := by
 unfold num; rw [List.foldl_append]; rfl
theorem ZbB : ∀ n : Nat, num (dec n) = n := by
 intro n
 induction n using Nat.strongRecOn with
 | ind n ih =>
  by_cases h : n < 10
  {rw [Z2b h]
   simp [num]; omega}
  {have e : (UInt8.ofNat (48 + n % 10)).toNat = 48 + n % 10 := by simp; omega
   rw [Z34 h, ZfO, ih _ (by omega), e]
   omega}
theorem ZbC : ∀ (l : List UInt8) (acc : Nat), (∀ c ∈ l, 48 <= c.toNat /\ c.toNat <= 57) -> acc * 10 ^ l.length + num l < 1000000000000000000 -> Go.Lib.parseUint10 acc l = .ok (acc * 10 ^ l.length + num l)
 | [], acc, _, _ => by simp [Go.Lib.parseUint10, num]
 | c :: r, acc, hd, hb => by
  have hc := hd c (by simp)
  have h1 := Z8n r (10 * acc + (c.toNat - 48))
  have hn : acc * 10 ^ (c :: r).length + num (c :: r) = (acc * 10 + (c.toNat - 48)) * 10 ^ r.length + num r := by
   rw [Z23, List.length_cons, Nat.pow_succ, Nat.add_mul, <- Nat.add_assoc]
   congr 2
   rw [Nat.mul_assoc, Nat.mul_comm 10 (10 ^ r.length)]
  have hp : 1 <= 10 ^ r.length := Nat.one_le_pow _ _ (by omega)
  have hlt : acc * 10 + (c.toNat - 48) < 1000000000000000000 := by
   have : (acc * 10 + (c.toNat - 48)) * 1 <= (acc * 10 + (c.toNat - 48)) * 10 ^ r.length := Nat.mul_le_mul_left _ hp
   omega
  rw [Go.Lib.parseUint10, if_pos hc, if_neg (by omega), if_neg (by omega), ZbC r _ (fun d h => hd d (by simp [h])) (by omega), hn]
theorem Z5Y (n : Nat) (h : n <= 999999) : Go.Lib.atoiAll (dec n) = .ok (n : Int) := by
 have hd := Z35 n
 have hm : Go.Lib.parseMag (dec n) = .ok n := by
  unfold Go.Lib.parseMag
  rw [if_neg (Z3a n), ZbC (dec n) 0 hd (by rw [ZbB]; omega), ZbB]; simp
 rcases hdn : dec n with _ | ⟨c, r⟩
 {exact absurd hdn (Z3a n)}
 {have hc := hd c (by rw [hdn]; simp)
  rw [hdn] at hm
  rw [Go.Lib.atoiAll_plain c r (by omega) (by omega), hm]
  show (if 9223372036854775808 <= n then Go.Lib.NumEnd.range else .ok (n : Int)) = _
  rw [if_neg (by omega)]}
def coreText (v : Ver) : List UInt8 := dec v.maj.toNat ++ 46 :: (dec v.min.toNat ++ 46 :: dec v.pat.toNat)
theorem Zes (v : Ver) : text v = coreText v ++ if v.pre = [] then [] else 45 :: v.pre := by
 simp [text, coreText]
theorem Z39 (n : Nat) {x : UInt8} (hx : x.toNat < 48) : ∀ d ∈ dec n, d ≠ x := by
 rintro d hd rfl
 have := Z35 n d hd
 omega
theorem Z5F (v : Ver) : ∀ d ∈ coreText v, d ≠ 45 := by
 intro d hd
 unfold coreText at hd
 rcases List.mem_append.1 hd with h | h
 {exact Z39 _ (by decide) d h}
 {rcases List.mem_cons.1 h with rfl | h
  {decide}
  {rcases List.mem_append.1 h with h | h
   {exact Z39 _ (by decide) d h}
   {rcases List.mem_cons.1 h with rfl | h
    {decide}
    {exact Z39 _ (by decide) d h}}}}
theorem ZfP (v : Ver) : (cut 45 (text v)).1 = coreText v /\ (cut 45 (text v)).2.1 = v.pre := by
 rw [Zes]
 by_cases h : v.pre = []
 {rw [if_pos h, List.append_nil, Z8U (Z5F v), h]; exact ⟨rfl, rfl⟩}
 {rw [if_neg h, cut_at _ (Z5F v)]; exact ⟨rfl, rfl⟩}
theorem Zcs (v : Ver) : split (min 3 (coreText v).length) (coreText v) = [dec v.maj.toNat, dec v.min.toNat, dec v.pat.toNat] := by
 have h1 : 1 <= (dec v.maj.toNat).length := List.length_pos_iff.2 (Z3a _)
 have h2 : min 3 (coreText v).length = 3 := by unfold coreText; simp; omega
 rw [h2]
 unfold coreText
 rw [Z4Q (cut_at _ (Z39 _ (by decide))), Z4Q (cut_at _ (Z39 _ (by decide))), Z6m (by rw [Z8U (Z39 _ (by decide))])]
theorem Z3k {l : List UInt8} {u : Ver} (h : parse l = some u) :
 split (min 3 (cut 45 l).1.length) (cut 45 l).1 = [dec u.maj.toNat, dec u.min.toNat, dec u.pat.toNat] /\ (cut 45 l).2.1 = u.pre /\
 Go.Lib.atoiAll (dec u.maj.toNat) = .ok u.maj /\ Go.Lib.atoiAll (dec u.min.toNat) = .ok u.min /\ Go.Lib.atoiAll (dec u.pat.toNat) = .ok u.pat := by
 obtain ⟨hm, ht⟩ := Z2S h
 obtain ⟨h1, h2⟩ := ZfP u
 rw [ht] at h1 h2
 rw [h1]
 rw [Z1A] at hm
 obtain ⟨⟨a1, a2⟩, ⟨b1, b2⟩, ⟨c1, c2⟩, _⟩ := hm
 refine ⟨Zcs u, h2, ?_, ?_, ?_⟩
 {rw [Z5Y _ (by omega), Int.toNat_of_nonneg a1]}
 {rw [Z5Y _ (by omega), Int.toNat_of_nonneg b1]}
 {rw [Z5Y _ (by omega), Int.toNat_of_nonneg c1]}
theorem Zct {l : List UInt8} {p0 p1 p2 : List UInt8} {x0 x1 x2 : Int} (hs : split (min 3 (cut 45 l).1.length) (cut 45 l).1 = [p0, p1, p2])
 (h0 : Go.Lib.atoiAll p0 = .ok x0) (h1 : Go.Lib.atoiAll p1 = .ok x1) (h2 : Go.Lib.atoiAll p2 = .ok x2) :
 parse l = if may ⟨x0, x1, x2, (cut 45 l).2.1⟩ = true /\ text ⟨x0, x1, x2, (cut 45 l).2.1⟩ = l then some ⟨x0, x1, x2, (cut 45 l).2.1⟩ else none := by
 by_cases h : may ⟨x0, x1, x2, (cut 45 l).2.1⟩ = true /\ text ⟨x0, x1, x2, (cut 45 l).2.1⟩ = l
 {rw [if_pos h]
  have := Z67 h.1
  rwa [h.2] at this}
 {rw [if_neg h]
  rcases hp : parse l with _ | u
  {rfl}
  {exfalso
   apply h
   obtain ⟨q0, q1, q2, q3, q4⟩ := Z3k hp
   rw [hs] at q0
   simp only [List.cons.injEq, and_true] at q0
   obtain ⟨rfl, rfl, rfl⟩ := q0
   have e0 : x0 = u.maj := by rw [h0] at q2; injection q2
   have e1 : x1 = u.min := by rw [h1] at q3; injection q3
   have e2 : x2 = u.pat := by rw [h2] at q4; injection q4
   rw [q1, e0, e1, e2]
   exact Z2S hp}}
theorem Zar {l : List UInt8} (h : (split (min 3 (cut 45 l).1.length) (cut 45 l).1).length ≠ 3) : parse l = none := by
 rcases hp : parse l with _ | u
 {rfl}
 {rw [(Z3k hp).1] at h; exact absurd rfl h}
theorem Zet {l : List UInt8} {p0 p1 p2 : List UInt8} (hs : split (min 3 (cut 45 l).1.length) (cut 45 l).1 = [p0, p1, p2])
 (h : (∀ x, Go.Lib.atoiAll p0 ≠ .ok x) \/ (∀ x, Go.Lib.atoiAll p1 ≠ .ok x) \/ (∀ x, Go.Lib.atoiAll p2 ≠ .ok x)) : parse l = none := by
 rcases hp : parse l with _ | u
 {rfl}
 {obtain ⟨q0, _, q2, q3, q4⟩ := Z3k hp
  rw [hs] at q0
  simp only [List.cons.injEq, and_true] at q0
  obtain ⟨rfl, rfl, rfl⟩ := q0
  rcases h with h | h | h
  {exact absurd q2 (h _)}
  {exact absurd q3 (h _)}
  {exact absurd q4 (h _)}}
end Sem
namespace Go.Proofs.YtnkdedejfonbmaaGreatDoor
open Go.RowKit
theorem Z71 (x : List UInt8) (hx : x.length <= 140737488355328) (v : Int) (h : Lib.atoiAll x = .ok v) (w : World) :
 Y9 196 #[.string ⟨x.toArray⟩] w (.tuple #[.int .i64 v, .nilIface]) := by
 have hi := Any.strconv_Atoi_ok Tryz.lays172 ⟨x.toArray⟩ (by rw [Z04]; omega) v h w
 refine Calls.mono hi ?_
 rintro e w' ⟨rfl, hw⟩
 refine ⟨rfl, ?_⟩
 rcases hw with rfl | ⟨t, rfl⟩
 {exact Below.refl _ _}
 {exact Lib.bytesWorld_below _ _ _}
theorem Z5Z (x : List UInt8) (hx : x.length <= 140737488355328) (h : ∀ v, Lib.atoiAll x ≠ .ok v) (w : World) (hg : Globs w) :
 Calls Tryz.prog 196 #[.string ⟨x.toArray⟩] w fun e w' => ∃ z N, e = .returned (.tuple #[.int .i64 z, .iface 220 (.pointer (some ⟨N, 0, none⟩))]) /\ Below w.heap.size w w' := by
 obtain ⟨te, pe, h1⟩ := hg.syn
 obtain ⟨te', pe', h2⟩ := hg.rng
 rcases ha : Lib.atoiAll x with v | _ | _
 {exact absurd ha (h v)}
 {have hi := Any.strconv_Atoi_syntax Tryz.lays172 ⟨x.toArray⟩ (by rw [Z04]; omega) ha _ w h1 (Or.inr ⟨te, pe, rfl⟩)
  refine Calls.mono hi ?_
  rintro e w' ⟨N, rfl, _, _, hb⟩
  exact ⟨_, N, rfl, hb⟩}
 {have hi := Any.strconv_Atoi_range Tryz.lays172 ⟨x.toArray⟩ (by rw [Z04]; omega) ha _ w h2 (Or.inr ⟨te', pe', rfl⟩)
  refine Calls.mono hi ?_
  rintro e w' ⟨N, rfl, _, _, hb⟩
  exact ⟨_, N, rfl, hb⟩}
theorem Z6n (x : List UInt8) (hx : x.length <= 140737488355328) (w : World) :
 Y9 176 #[.string ⟨x.toArray⟩] w (.string ⟨x.toArray⟩) := by
 have hi : ∀ w, Y9 185 #[.string ⟨x.toArray⟩] w (.string ⟨x.toArray⟩) := fun w =>
  Any.stringslite_Clone Tryz.laysM316 ⟨x.toArray⟩ w (by rw [Z04]; omega)
 go_enter Tryz.func176, Tryz.ntmps176
 go_wp2_with fail
 refine (hi _).mono ?_
 rintro e w' ⟨rfl, hb⟩
 go_wp2
 go_ret
 exact ⟨rfl, hb⟩
def roundLeft (b : Nat) (I Ix : List (List UInt8) -> World -> Prop) (xs : List (List UInt8)) (W : World) : Exit -> Act -> World -> Prop
 | .normal, _, W' => KeepsOthers W W' /\ Below (b + 3) W W' /\ I xs W'
 | .ret, _, W' => KeepsOthers W W' /\ Ix xs W'
 | _, _, _ => False
theorem Z1E {B : Nat} {W : World} {l : Nat} (o : Obj) (h : B <= l) : Below B W (W.putObj l o) :=
 ⟨rfl, rfl, rfl, by simp, fun k hk => World.putObj_heap_other (by omega)⟩
theorem Zeu {g : Operand} {ps : Array Tmp} {assign body : Code} {Q : Exit -> Act -> World -> Prop} {a : Act} {w : World} (n : Nat) (hn : 3 <= n) (b : Nat) (s : List UInt8)
 (hg : a.eval g = .func (.func 225) #[] #[.pointer (some ⟨b + 1, 0, none⟩), .pointer (some ⟨b, 0, none⟩), .pointer (some ⟨b + 2, 0, none⟩)])
 (hS : SeqAt w b s) (hs : s.length <= 24) (hps : ps.size = 1) (I Ix : List (List UInt8) -> World -> Prop)
 (hI : ∀ pre A B, I pre A -> Below b A B -> I pre B) (hIx : ∀ pre A B, Ix pre A -> Below b A B -> Ix pre B) (h0 : I [] w) (a₁ : List UInt8 -> Act)
 (hassign : ∀ (l : Nat) (x : List UInt8) (W : World) (K : Act -> World -> Prop), K (a₁ x) W ->
  assign.wpIn (Fence.wide.inRound l) (n - 1 - 1) Tryz.prog (Exit.then K (fun _ _ _ => False)) { tmps := (ps.zip #[.string ⟨x.toArray⟩]).foldl (fun t (p, v) => t.setIfInBounds p v) a.tmps, defers := [] } W)
 (hbody : ∀ (l : Nat) (pre : List (List UInt8)) (x : List UInt8) (W : World), I pre W -> x.length <= 24 -> body.wpIn (Fence.wide.inRound l) (n - 1 - 1) Tryz.prog (roundLeft b I Ix (pre ++ [x]) W) (a₁ x) W)
 (hdone : ∀ (D : Nat) (W : World), I (Sem.parts s) W -> W.heap[D]? = some (.deferred (some [])) -> w.heap.size <= D -> Q .normal { a with defers := { target := .collected D, args := #[] } :: a.defers } W)
 (hstop : ∀ (D : Nat) (pre suf : List (List UInt8)) (W : World), pre ++ suf = Sem.parts s -> Ix pre W -> W.heap[D]? = some (.deferred (some [])) -> w.heap.size <= D -> Code.ret.wpIn Fence.wide n Tryz.prog Q { a with defers := { target := .collected D, args := #[] } :: a.defers } W) :
 (Code.rangeFunc g ps assign body).wpIn Fence.wide n Tryz.prog Q a w := by
 refine wpIn_rangeFunc ?_
 intro fn hfn
 obtain ⟨rec, hrec⟩ : ∃ rec : LoopState -> Option Code -> Loop, rec = fun st pe => { state := st, pending := pe, fn, tmps := a.tmps, params := ps, assign, body, defers := w.heap.size } := ⟨_, rfl⟩
 obtain ⟨W1, hW1⟩ : ∃ W1, (w.alloc (.deferred (some []))).alloc (.loop (rec .ready none)) = W1 := ⟨_, rfl⟩
 have hb3 : b + 3 <= w.heap.size := hS.1
 have hL1 : W1.heap[w.heap.size + 1]? = some (.loop (rec .ready none)) := by
  rw [<- hW1]; have := World.alloc_heap_new (w.alloc (.deferred (some []))) (.loop (rec .ready none)); rwa [World.size_alloc] at this
 have hK1 : W1.heap[w.heap.size]? = some (.deferred (some [])) := by
  rw [<- hW1]; exact (Below.heap_alloc _ _ _ (by simp)).trans (World.alloc_heap_new w _)
 have hb1 : Below w.heap.size w W1 := by rw [<- hW1]; exact Z08 (Z02 _ _) _
 have hI1 : I [] W1 := hI _ _ _ h0 (hb1.mono (by omega))
 refine ⟨w.heap.size + 1, [{ target := .collected w.heap.size, args := #[] }], W1, { target := .fn (.func 225) #[.pointer (some ⟨b + 1, 0, none⟩), .pointer (some ⟨b, 0, none⟩), .pointer (some ⟨b + 2, 0, none⟩)], args := #[.func (.yield (w.heap.size + 1)) #[] #[]] }, W1, 225,
  #[.func (.yield (w.heap.size + 1)) #[] #[], .pointer (some ⟨b + 1, 0, none⟩), .pointer (some ⟨b, 0, none⟩), .pointer (some ⟨b + 2, 0, none⟩)], W1, ?_, ?_, fun _ _ => trivial, ?_, fun _ => by omega, ?_⟩
 {rw [<- hW1, hrec]; exact run_enterLoop_outer _ _ _ _ _}
 {simp only [resolve, hg]
  simp [go_sem]}
 {have e : ∀ args w, (callFunc 225 args).run Tryz.prog w = .ok (.enter 225 args) w := enters_of Tryz.func225 (by kernel_rfl) rfl
  simp [invoke, go_sem, e]}
 {refine (ZfN (n - 1) (by omega) (w.heap.size + 1) b s hs
   (fun pre W => I pre W /\ W.heap[w.heap.size + 1]? = some (.loop (rec .ready none)) /\ W.heap[w.heap.size]? = some (.deferred (some [])))
   (fun pre W => Ix pre W /\ W.heap[w.heap.size + 1]? = some (.loop (rec .done (some .ret))) /\ W.heap[w.heap.size]? = some (.deferred (some [])))
   W1 ?_ ?_ (hS.keep (hb1.mono (by omega))) ⟨hI1, hL1, hK1⟩).mono ?_
  {-- a round
   rintro pre x W ⟨hi, hl, hk⟩ hx
   have hlt : w.heap.size + 1 < W.heap.size := (Array.getElem?_eq_some_iff.1 hl).1
   have hy := run_yield (P := Tryz.prog) (args := #[.string ⟨x.toArray⟩]) hl (by rw [hrec]; simp [hps])
   rw [hrec] at hy
   refine ⟨fn, _, assign, body, hy, roundIn_of_wpIn hfn (hassign _ x W _ ⟨_, run_beginRound hl (by rw [hrec]), ?_⟩)⟩
   obtain ⟨W2, hW2⟩ : ∃ W2, W.putObj (w.heap.size + 1) (.loop { rec .ready none with state := .busy }) = W2 := ⟨_, rfl⟩
   have hl2 : W2.heap[w.heap.size + 1]? = some (.loop { rec .ready none with state := .busy }) := by rw [<- hW2]; exact World.putObj_heap_same hlt
   have hk2 : W2.heap[w.heap.size]? = some (.deferred (some [])) := by rw [<- hW2]; exact (World.putObj_heap_other (by omega)).trans hk
   have hw2 : Below (b + 3) W W2 := by rw [<- hW2]; exact Z1E _ (by omega)
   rw [hW2]
   refine wpIn_mono (hbody _ pre x _ (hI _ _ _ hi (hw2.mono (by omega))) hx) ?_
   have fin : ∀ (jump : Option Code) (W3 : World), KeepsOthers W2 W3 ->
    (Instr.endRound (w.heap.size + 1) jump).run Tryz.prog W3 = .ok (.bool jump.isNone) (W3.putObj (w.heap.size + 1) (.loop (rec (if jump.isNone then .ready else .done) jump))) /\
    (W3.putObj (w.heap.size + 1) (.loop (rec (if jump.isNone then .ready else .done) jump))).heap[w.heap.size + 1]? = some (.loop (rec (if jump.isNone then .ready else .done) jump)) /\
    (W3.putObj (w.heap.size + 1) (.loop (rec (if jump.isNone then .ready else .done) jump))).heap[w.heap.size]? = some (.deferred (some [])) := fun jump W3 hk3 => by
    have hl3 := hk3.same _ _ hl2 rfl
    have := run_endRound (P := Tryz.prog) jump hl3
    rw [hrec] at this ⊢
    exact ⟨this, World.putObj_heap_same (Array.getElem?_eq_some_iff.1 hl3).1, (World.putObj_heap_other (by omega)).trans (hk3.same _ _ hk2 rfl)⟩
   rintro e a3 W3 hp
   cases e with
   | normal =>
    obtain ⟨hk3, hkp3, hi3⟩ := hp
    obtain ⟨hr, hl4, hk4⟩ := fin none W3 hk3
    exact ⟨_, _, hr, .inl ⟨rfl, ⟨hI _ _ _ hi3 (Z1E _ (by omega)), hl4, hk4⟩, (hw2.trans hkp3).trans (Z1E _ (by omega))⟩⟩
   | ret =>
    obtain ⟨hk3, hi3⟩ := hp
    obtain ⟨hr, hl4, hk4⟩ := fin (some .ret) W3 hk3
    exact ⟨_, _, hr, .inr ⟨rfl, hIx _ _ _ hi3 (Z1E _ (by omega)), hl4, hk4⟩⟩
   | exit id => exact hp.elim
   | goto t => exact hp.elim
   | panic ch => exact hp.elim
   | outgrown => exact hp.elim}
  {-- the iterator's own cell
   rintro pre W v ⟨hi, hl, hk⟩
   have hne1 : w.heap.size + 1 ≠ b := by omega
   have hne2 : w.heap.size ≠ b := by omega
   exact ⟨hI _ _ _ hi ((Below.refl b W).setCell (p := ⟨b, 0, none⟩) (Nat.le_refl _) _), (Below.heap_setCell W ⟨b, 0, none⟩ v _ hne1).trans hl, (Below.heap_setCell W ⟨b, 0, none⟩ v _ hne2).trans hk⟩}
  {-- behind the iterator
   rintro e W2 ⟨⟨v, rfl⟩, (⟨hi, hl, hk⟩ | ⟨pre, suf, hp, hi, hl, hk⟩)⟩
   {exact ⟨none, _, by have := run_endLoop (P := Tryz.prog) hl (by rw [hrec]; simp); rw [hrec] at this; exact this, hdone _ _ (hI _ _ _ hi (Z1E _ (by omega))) ((World.putObj_heap_other (by omega)).trans hk) (Nat.le_refl _)⟩}
   {exact ⟨some .ret, _, by have := run_endLoop (P := Tryz.prog) hl (by rw [hrec]; simp); rw [hrec] at this; exact this, hstop _ pre suf _ hp (hIx _ _ _ hi (Z1E _ (by omega))) ((World.putObj_heap_other (by omega)).trans hk) (Nat.le_refl _)⟩}}}
theorem Zhj (c : UInt8) : Sem.okc c = ((decide (97 <= c.toNat) && decide (c.toNat <= 122)) || (decide (65 <= c.toNat) && decide (c.toNat <= 90)) || decide (c.toNat = 45) || (decide (48 <= c.toNat) && decide (c.toNat <= 57))) := rfl
theorem Z8X {s : ByteArray} {k : Nat} (h : k < s.size) : (s.data.toList.take (k + 1)).all Sem.okc = ((s.data.toList.take k).all Sem.okc && Sem.okc (s[k]'h)) := by
 rw [List.take_succ_eq_append_getElem (by rw [<- Lib.size_eq]; exact h), List.all_append]
 simp
 rfl
theorem ZfQ {s : ByteArray} {k : Nat} (h : k < s.size) (hc : Sem.okc (s[k]'h) = false) : Sem.part s.data.toList = false := by
 have : s.data.toList.all Sem.okc = false := by
  rw [List.all_eq_false]
  exact ⟨s[k]'h, by rw [show s[k]'h = s.data.toList[k]'(by rw [<- Lib.size_eq]; exact h) from rfl]; exact List.getElem_mem _, by rw [hc]; simp⟩
 unfold Sem.part
 rw [this, Bool.and_false, Bool.false_and]
def isLet (n : Nat) : Bool := (decide (97 <= n) && decide (n <= 122)) || (decide (65 <= n) && decide (n <= 90))
def isDig (n : Nat) : Bool := decide (48 <= n) && decide (n <= 57)
theorem Z3l (n : Nat) (h : n < 256) (w : World) :
 Calls Tryz.prog 219 #[.int .u8 n] w fun e w' => e = .returned (.bool (isDig n)) /\ w = w' := by
 have H : n <= 47 \/ (48 <= n /\ n <= 57) \/ 58 <= n := by omega
 rcases H with h1 | ⟨h1, h2⟩ | h1
 {have HB : Hid (isDig n = false) := Y1 (by simp [isDig]; omega)
  go_enter Tryz.func219, Tryz.ntmps219
  go_wp2
  go_ret
  exact ⟨by rw [HB.out]; rfl, rfl⟩}
 {have HB : Hid (isDig n = true) := Y1 (by simp [isDig]; omega)
  have h3 : decide ((n : Int) <= 57) = true := decide_eq_true (by omega)
  go_enter Tryz.func219, Tryz.ntmps219
  go_wp2
  go_ret
  exact ⟨by rw [HB.out]; rfl, rfl⟩}
 {have HB : Hid (isDig n = false) := Y1 (by simp [isDig]; omega)
  have h3 : decide ((n : Int) <= 57) = false := decide_eq_false (by omega)
  go_enter Tryz.func219, Tryz.ntmps219
  go_wp2
  go_ret
  exact ⟨by rw [HB.out]; rfl, rfl⟩}
theorem Z80 (n : Nat) (h : n < 256) (w : World) :
 Calls Tryz.prog 220 #[.int .u8 n] w fun e w' => e = .returned (.bool (isLet n)) /\ w = w' := by
 have H : n <= 64 \/ (65 <= n /\ n <= 90) \/ (91 <= n /\ n <= 96) \/ (97 <= n /\ n <= 122) \/ 123 <= n := by omega
 rcases H with h1 | ⟨h1, h2⟩ | ⟨h1, h2⟩ | ⟨h1, h2⟩ | h1
 {have HB : Hid (isLet n = false) := Y1 (by simp [isLet]; omega)
  go_enter Tryz.func220, Tryz.ntmps220
  go_wp2
  go_ret
  exact ⟨by rw [HB.out]; rfl, rfl⟩}
 {have HB : Hid (isLet n = true) := Y1 (by simp [isLet]; omega)
  have h3 : decide ((n : Int) <= 90) = true := decide_eq_true (by omega)
  go_enter Tryz.func220, Tryz.ntmps220
  go_wp2
  go_ret
  exact ⟨by rw [HB.out]; rfl, rfl⟩}
 {have HB : Hid (isLet n = false) := Y1 (by simp [isLet]; omega)
  have h3 : decide ((n : Int) <= 90) = false := decide_eq_false (by omega)
  go_enter Tryz.func220, Tryz.ntmps220
  go_wp2
  go_ret
  exact ⟨by rw [HB.out]; rfl, rfl⟩}
 {have HB : Hid (isLet n = true) := Y1 (by simp [isLet]; omega)
  have h3 : decide ((n : Int) <= 122) = true := decide_eq_true (by omega)
  go_enter Tryz.func220, Tryz.ntmps220
  go_wp2
  go_ret
  exact ⟨by rw [HB.out]; rfl, rfl⟩}
 {have HB : Hid (isLet n = false) := Y1 (by simp [isLet]; omega)
  have h3 : decide ((n : Int) <= 122) = false := decide_eq_false (by omega)
  have h4 : decide ((n : Int) <= 90) = false := decide_eq_false (by omega)
  go_enter Tryz.func220, Tryz.ntmps220
  go_wp2
  go_ret
  exact ⟨by rw [HB.out]; rfl, rfl⟩}
theorem Z2P (s : ByteArray) (hs : s.size <= 9223372036854775807) (w : World) :
 Calls Tryz.prog 221 #[.string s] w fun e w' => e = .returned (.bool (Sem.digits s.data.toList)) /\ w = w' := by
 go_enter Tryz.func221, Tryz.ntmps221
 go_wp2_with fail
 go_loop [6] (fun i => ∃ k : Nat, i = .int .i64 k /\ k <= s.size /\ Hid ((s.data.toList.take k).all Sem.dig = true)) (fun i => s.size - (intOf i).toNat)
 case atStart => exact ⟨0, rfl, Nat.zero_le _, Y1 rfl⟩
 case round =>
  obtain ⟨k, rfl, hk, HP⟩ := hrel
  by_cases hlt : k < s.size
  {have hb := (s[k]'hlt).toNat_lt
   cases hd : isDig (s[k]'hlt).toNat
   {have HN : Hid (Sem.digits s.data.toList = false) := Y1 (by
     unfold Sem.digits
     rw [Bool.and_eq_false_iff]; right
     rw [List.all_eq_false]
     exact ⟨s[k]'hlt, by rw [show s[k]'hlt = s.data.toList[k]'(by rw [<- Lib.size_eq]; exact hlt) from rfl]; exact List.getElem_mem _, by rw [show Sem.dig (s[k]'hlt) = false from hd]; simp⟩)
    have hcon : ∀ w, Calls Tryz.prog 219 #[.int .u8 (s[k]'hlt).toNat] w fun e w' => e = .returned (.bool false) /\ w = w' := fun w => by rw [<- hd]; exact Z3l _ hb w
    clear hd
    go_wp2_with (go_at_call 219; refine (hcon _).mono ?_; rintro e w' ⟨rfl, rfl⟩)
    go_ret
    exact ⟨by rw [HN.out]; rfl, rfl⟩}
   {have HN : Hid ((s.data.toList.take (k + 1)).all Sem.dig = true) := Y1 (by rw [Z8q hlt, HP.out, show Sem.dig (s[k]'hlt) = true from hd]; rfl)
    have hcon : ∀ w, Calls Tryz.prog 219 #[.int .u8 (s[k]'hlt).toNat] w fun e w' => e = .returned (.bool true) /\ w = w' := fun w => by rw [<- hd]; exact Z3l _ hb w
    clear hd
    go_wp2_with (go_at_call 219; refine (hcon _).mono ?_; rintro e w' ⟨rfl, rfl⟩)
    go_round
    case rel => exact ⟨k + 1, by go_num, by omega, HN⟩
    case measure => simp [intOf]; omega}}
  {have hall : s.data.toList.all Sem.dig = true := by have := HP.out; rwa [List.take_of_length_le (by rw [<- Lib.size_eq]; omega)] at this
   have HN : Hid (Sem.digits s.data.toList = !s.toList.isEmpty) := Y1 (by unfold Sem.digits; rw [hall, Bool.and_true, Z5a])
   clear hall
   go_wp2
   go_ret
   exact ⟨by rw [HN.out]; rfl, rfl⟩}
theorem Z72 (s : ByteArray) (hs : s.size <= 9223372036854775807) (w : World) :
 Calls Tryz.prog 212 #[.string s] w fun e w' => e = .returned (.bool (Sem.part s.data.toList)) /\ w = w' := by
 have he0 : s.toList.isEmpty = s.data.toList.isEmpty := by rw [Z5a]
 by_cases hz : s.data.toList = []
 {have he : s.toList.isEmpty = true := by rw [he0, hz]; rfl
  have HN : Hid (Sem.part s.data.toList = false) := Y1 (by rw [hz]; rfl)
  clear he0 hz
  go_enter Tryz.func212, Tryz.ntmps212
  go_wp2
  go_ret
  exact ⟨by rw [HN.out]; rfl, rfl⟩}
 {have he : s.toList.isEmpty = false := by rw [he0]; simpa using hz
  have hpos : 0 < s.size := by rw [Lib.size_eq]; exact List.length_pos_iff.2 hz
  have hhead : s.data.toList.head? = some (s[0]'hpos) := by
   rw [List.head?_eq_getElem?, List.getElem?_eq_getElem (by rw [<- Lib.size_eq]; exact hpos)]; rfl
  have HHEAD := Y1 hhead
  have HZ := Y1 hz
  clear he0 hz hhead
  go_enter Tryz.func212, Tryz.ntmps212
  go_wp2_with fail
  go_loop [8] (fun i => ∃ k : Nat, i = .int .i64 k /\ k <= s.size /\ Hid ((s.data.toList.take k).all Sem.okc = true)) (fun i => s.size - (intOf i).toNat)
  case atStart => exact ⟨0, rfl, Nat.zero_le _, Y1 rfl⟩
  case round =>
   obtain ⟨k, rfl, hk, HP⟩ := hrel
   by_cases hlt : k < s.size
   {have hb := (s[k]'hlt).toNat_lt
    obtain ⟨n, hn⟩ : ∃ n, n = (s[k]'hlt).toNat := ⟨_, rfl⟩
    have ho : Sem.okc (s[k]'hlt) = (isLet n || decide (n = 45) || isDig n) := by rw [Zhj, hn]; rfl
    have hcd : ∀ w, Calls Tryz.prog 219 #[.int .u8 (s[k]'hlt).toNat] w fun e w' => e = .returned (.bool (isDig n)) /\ w = w' := fun w => by rw [hn]; exact Z3l _ hb w
    have hcl : ∀ w, Calls Tryz.prog 220 #[.int .u8 (s[k]'hlt).toNat] w fun e w' => e = .returned (.bool (isLet n)) /\ w = w' := fun w => by rw [hn]; exact Z80 _ hb w
    have HN : Hid (isDig n = true \/ isLet n = true \/ n = 45 -> (s.data.toList.take (k + 1)).all Sem.okc = true) := Y1 (by
     intro h
     rw [Z8X hlt, HP.out, ho]
     rcases h with h | h | h <;> rw [h] <;> simp)
    have HF : Hid (isDig n = false /\ isLet n = false /\ n ≠ 45 -> Sem.part s.data.toList = false) := Y1 (by
     rintro ⟨h1, h2, h3⟩
     exact ZfQ hlt (by rw [ho, h1, h2]; simp [h3]))
    clear ho
    cases hd : isDig n
    {rw [hd] at hcd
     cases hl : isLet n
     {rw [hl] at hcl
      by_cases h45 : n = 45
      {have HM := Y1 (HN.out (Or.inr (Or.inr h45)))
       have h3 : (((s[k]'hlt).toNat : Int) != 45) = false := by rw [bne_eq_false_iff_eq]; omega
       clear hn hd hl
       go_wp2_with (first | (go_at_call 219; refine (hcd _).mono ?_; rintro e w' ⟨rfl, rfl⟩) | (go_at_call 220; refine (hcl _).mono ?_; rintro e w' ⟨rfl, rfl⟩))
       go_round
       case rel => exact ⟨k + 1, by go_num, by omega, HM⟩
       case measure => simp [intOf]; omega}
      {have HM := Y1 (HF.out ⟨hd, hl, h45⟩)
       have h3 : (((s[k]'hlt).toNat : Int) != 45) = true := by rw [bne_iff_ne]; omega
       clear hn hd hl
       go_wp2_with (first | (go_at_call 219; refine (hcd _).mono ?_; rintro e w' ⟨rfl, rfl⟩) | (go_at_call 220; refine (hcl _).mono ?_; rintro e w' ⟨rfl, rfl⟩))
       go_ret
       exact ⟨by rw [HM.out]; rfl, rfl⟩}}
     {rw [hl] at hcl
      have HM := Y1 (HN.out (Or.inr (Or.inl hl)))
      clear hn hd hl
      go_wp2_with (first | (go_at_call 219; refine (hcd _).mono ?_; rintro e w' ⟨rfl, rfl⟩) | (go_at_call 220; refine (hcl _).mono ?_; rintro e w' ⟨rfl, rfl⟩))
      go_round
      case rel => exact ⟨k + 1, by go_num, by omega, HM⟩
      case measure => simp [intOf]; omega}}
    {rw [hd] at hcd
     have HM := Y1 (HN.out (Or.inl hd))
     clear hn hd hcl
     go_wp2_with (first | (go_at_call 219; refine (hcd _).mono ?_; rintro e w' ⟨rfl, rfl⟩))
     go_round
     case rel => exact ⟨k + 1, by go_num, by omega, HM⟩
     case measure => simp [intOf]; omega}}
   {have hall : s.data.toList.all Sem.okc = true := by have := HP.out; rwa [List.take_of_length_le (by rw [<- Lib.size_eq]; omega)] at this
    have HS : Hid (Sem.part s.data.toList = (!Sem.digits s.data.toList || s.data.toList == [48] || s.data.toList.head? != some 48)) := Y1 (by
     have : s.data.toList.isEmpty = false := by simpa using HZ.out
     unfold Sem.part; rw [hall, this]; rfl)
    rw [HHEAD.out] at HS
    clear hall
    cases h48 : (s.toList == [48])
    {have h49 : (s.data.toList == [48]) = false := by rw [<- Z5a]; exact h48
     by_cases hh : (s[0]'hpos).toNat = 48
     {have HN : Hid (Sem.part s.data.toList = !Sem.digits s.data.toList) := Y1 (by
       have : s[0]'hpos = 48 := UInt8.toNat_inj.1 hh
       rw [HS.out, h49, this]; simp)
      have h50 : (((s[0]'hpos).toNat : Int) != 48) = false := by rw [bne_eq_false_iff_eq]; omega
      clear h49 hh
      go_wp2_with (go_at_call 221; refine (Z2P s hs _).mono ?_; rintro e w' ⟨rfl, rfl⟩)
      go_ret
      exact ⟨by rw [HN.out]; rfl, rfl⟩}
     {have HN : Hid (Sem.part s.data.toList = true) := Y1 (by
       have : s[0]'hpos ≠ 48 := fun h => hh (by rw [h]; rfl)
       rw [HS.out, h49]; simp [this])
      have h50 : (((s[0]'hpos).toNat : Int) != 48) = true := by rw [bne_iff_ne]; omega
      clear h49 hh
      go_wp2_with (go_at_call 221; refine (Z2P s hs _).mono ?_; rintro e w' ⟨rfl, rfl⟩)
      go_ret
      exact ⟨by rw [HN.out]; rfl, rfl⟩}}
    {have HN : Hid (Sem.part s.data.toList = true) := Y1 (by
      have h49 : (s.data.toList == [48]) = true := by rw [<- Z5a]; exact h48
      rw [HS.out, h49]; simp)
     go_wp2_with (go_at_call 221; refine (Z2P s hs _).mono ?_; rintro e w' ⟨rfl, rfl⟩)
     go_ret
     exact ⟨by rw [HN.out]; rfl, rfl⟩}}}
def verV (v : Sem.Ver) : Value := .agg #[.int .i64 v.maj, .int .i64 v.min, .int .i64 v.pat, .string ⟨v.pre.toArray⟩]
def VerAt (w : World) (g : Nat) (v : Sem.Ver) : Prop := g < w.heap.size /\ w.cell? ⟨g, 0, none⟩ = some (.int .i64 v.maj) /\ w.cell? ⟨g, 1, none⟩ = some (.int .i64 v.min) /\ w.cell? ⟨g, 2, none⟩ = some (.int .i64 v.pat) /\ w.cell? ⟨g, 3, none⟩ = some (.string ⟨v.pre.toArray⟩)
theorem VerAt.next {w w' : World} {g : Nat} {v : Sem.Ver} (h : VerAt w g v) (hb : Below w.heap.size w w') : VerAt w' g v :=
 ⟨Nat.lt_of_lt_of_le h.1 hb.size, ((Z0n (o := 0) hb h.1).1).trans h.2.1, ((Z0n (o := 1) hb h.1).1).trans h.2.2.1, ((Z0n (o := 2) hb h.1).1).trans h.2.2.2.1, ((Z0n (o := 3) hb h.1).1).trans h.2.2.2.2⟩
theorem ZbD (w : World) (v : Sem.Ver) : VerAt (w.alloc (.cells #[.int .i64 v.maj, .int .i64 v.min, .int .i64 v.pat, .string ⟨v.pre.toArray⟩] 204)) w.heap.size v :=
 ⟨by simp, by simp [go_sem], by simp [go_sem], by simp [go_sem], by simp [go_sem]⟩
def chk (v : Sem.Ver) : Int := if Sem.may v = true then 0 else 40
end Go.Proofs.YtnkdedejfonbmaaGreatDoor
