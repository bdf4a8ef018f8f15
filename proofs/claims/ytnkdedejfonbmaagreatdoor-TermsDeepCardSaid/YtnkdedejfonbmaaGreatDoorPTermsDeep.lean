/- TermsDeep: what is put within one thing more has one part more, and may be, if it is not too deep then; for all values that the row lets in, with the program's variables laid as their texts lay them. -/
import Derived.Test.YtnkdedejfonbmaaGreatDoorRows
import Derived.SizedLaws
import Derived.WalkKit
import Derived.ProofKit
import Derived.OpenShut
import Derived.ShutString
import Derived.ChangeOld
import Derived.Below
import Derived.JoinedCond
import Derived.Test.YtnkdedejfonbmaaGreatDoorTie
import Derived.Test.YtnkdedejfonbmaaGreatDoorCards
import Derived.LaidMore
import Derived.Lay
import Derived.SevenTiedAt
import Derived.StillTailTactics
import Derived.Deep.RegionHeld3
import Derived.Test.YtnkdedejfonbmaaGreatDoorK5n0
import Derived.Test.YtnkdedejfonbmaaGreatDoorK0n23
set_option linter.unusedVariables false
set_option linter.unusedSimpArgs false
set_option maxRecDepth 100000
set_option maxHeartbeats 16000000
namespace Tms
open Shp (Sh)
def inCase (name : List UInt8) (t : Tm) : Tm := ⟨10, [], name, 0, [], [], [], [t], 0⟩
def asVar (name : List UInt8) : Tm := ⟨5, [], name, 0, [], [], [], [], 0⟩
theorem Z3u (name : List UInt8) (t : Tm) : size (inCase name t) = size t + 1 := by simp [inCase, size, sizes]; omega
theorem Z7l (name : List UInt8) (t : Tm) : fits (inCase name t) = Lex.isName name := by
 simp [inCase, fits, fitsK, names, shapesOk, lists, Shp.noDup]
theorem Z7m (name : List UInt8) : check (asVar name) = 0 ↔ Lex.isName name = true := by
 have hf : fits (asVar name) = Lex.isName name := by simp [asVar, fits, fitsK, names, shapesOk, lists, Shp.noDup]
 have hs : size (asVar name) = 1 := by simp [asVar, size, sizes]
 have hd : deep (asVar name) = 1 := by simp [asVar, deep, deeps]
 constructor
 {intro h; rw [<- hf]; exact right_fits (check_ok h).2.2}
 {intro h; exact Z44 (by omega) (by omega) (right_on (by rw [hf]; exact h) (fun p hp => by simp [asVar] at hp))}
theorem Z7R {name : List UInt8} {t : Tm} (h : check t = 0) (hs : size t < 4096) (hn : check (asVar name) = 0) : check (inCase name t) = 0 \/ check (inCase name t) = 91 := by
 obtain ⟨_, _, h3⟩ := check_ok h
 by_cases hd : deep (inCase name t) <= 40
 {exact Or.inl (Z44 (by rw [Z3u]; omega) hd (right_on (by rw [Z7l]; exact (Z7m name).1 hn) (fun p hp => by
   have : p = t := by simpa [inCase] using hp
   subst this; exact h3)))}
 {refine Or.inr ?_
  unfold check
  rw [if_neg (by rw [Z3u]; omega), if_pos (by omega)]}
theorem Z7S {name : List UInt8} {t : Tm} (hs : size t < 4096) (hn : check (asVar name) ≠ 0) : check (inCase name t) = 80 \/ check (inCase name t) = 91 := by
 have hr : right (inCase name t) = false := by
  cases e : right (inCase name t) with
  | false => rfl
  | true =>
   have := right_fits e
   rw [Z7l] at this
   exact absurd ((Z7m name).2 this) hn
 unfold check
 rw [if_neg (by rw [Z3u]; omega)]
 by_cases hd : 40 < deep (inCase name t)
 {exact Or.inr (if_pos hd)}
 {exact Or.inl (by rw [if_neg hd, if_pos hr])}
end Tms
namespace Go.Proofs.YtnkdedejfonbmaaGreatDoor
open Go.RowKit Tms
open Shp (Sh)
section
variable {H : Type} {enc : TypeId × Value -> H} {W : World} {base : Nat} {held : Bool}
theorem Z57 {t u : TypeId} {j : Nat} {fs : Array Field} {ds : List (DataW H)} {d : DataW H} (hu : Tryz.prog.underlying t = some (.struct fs)) (hw : (DataW.weights Tryz.prog t (.agg ds)).all (· <= reachBytes) = true)
 (ht : (fs.toList.map (·.type))[j]? = some u) (hd : ds[j]? = some d) : (DataW.weights Tryz.prog u d).all (· <= reachBytes) = true := by
 simp only [DataW.weights, hu] at hw
 rw [List.all_eq_true] at hw ⊢
 exact fun n hn => hw n (DataW.weights_mem_each ht hd n hn)
theorem Z9O {e : TypeId} {l : List (DataW H)} (h : (DataW.weightsAll Tryz.prog e l).all (· <= reachBytes) = true) {d : DataW H} (hd : d ∈ l) : (DataW.weights Tryz.prog e d).all (· <= reachBytes) = true := by
 induction l with
 | nil => cases hd
 | cons a l ih =>
  simp only [DataW.weightsAll, List.all_append, Bool.and_eq_true] at h
  rcases List.mem_cons.1 hd with rfl | hd
  {exact h.1}
  {exact ih h.2 hd}
theorem Z8e {t e : TypeId} {l r : List (DataW H)} {d : DataW H} {i : Nat} (hu : Tryz.prog.underlying t = some (.slice e)) (hw : (DataW.weights Tryz.prog t (.slice l r)).all (· <= reachBytes) = true)
 (hd : l[i]? = some d) : (DataW.weights Tryz.prog e d).all (· <= reachBytes) = true := by
 simp only [DataW.weights, hu, List.all_cons, List.all_append, Bool.and_eq_true] at hw
 exact Z9O hw.2.1 (List.mem_of_getElem? hd)
theorem Z9P {fuel : Nat} {cs : List Value} {x : DataW H × List MemPlace} {t e : TypeId} {A : Option Addr} {n c : Nat} (hu : Tryz.prog.underlying t = some (.slice e)) (h : DataW.trod enc Tryz.prog W base (fun _ => true) held fuel t cs = some x) (hcs : cs = [.slice A n c])
 (hw : (DataW.weights Tryz.prog t x.1).all (· <= reachBytes) = true) (hb : decide (1 <= Tryz.prog.bytesOf e) = true) : n <= 140737488355328 := by
 have hb := of_decide_eq_true hb
 rcases DataW.trod_slice hu h with ⟨h4, _⟩ | ⟨a, len, cap, elems, rest, n2, _, h4, hx, _, _, _, hel, _⟩
 {rw [h4] at hcs; simp at hcs; omega}
 {rw [h4] at hcs
  simp only [List.cons.injEq, Value.slice.injEq, and_true] at hcs
  have hx1 : x.1 = .slice (elems.map (·.1)) (rest.map (·.1)) := by rw [hx]
  rw [hx1] at hw
  simp only [DataW.weights, hu, List.all_cons, Bool.and_eq_true, decide_eq_true_eq, List.length_map] at hw
  have h1 := hw.1
  have h2 : elems.length + rest.length <= (elems.length + rest.length) * Tryz.prog.bytesOf e := Nat.le_mul_of_pos_right _ hb
  have h3 : reachBytes <= 140737488355328 := by decide
  omega}
theorem Zgq : ∀ (fuel : Nat) {cs : List Value} {x : DataW H × List MemPlace}, DataW.trod enc Tryz.prog W base (fun _ => true) held fuel 26 cs = some x -> (DataW.weights Tryz.prog 26 x.1).all (· <= reachBytes) = true ->
 ∃ (t : Tm) (q : TP), cs = [.int .i64 t.kind, .string ⟨t.of_.toArray⟩, .string ⟨t.name.toArray⟩, .int .i64 t.n, .slice q.A t.names.length q.c, .slice q.V t.vars.length q.e, .slice q.S t.shapes.length q.s, .slice q.P t.parts.length q.d, .int .i64 t.at_] /\ TmAt W W.heap.size q t /\ few t = true := by
 intro fuel
 induction fuel using Nat.strongRecOn with
 | _ fuel IH =>
 intro cs x h hw
 obtain ⟨xs, n, hn, hxe, hlen, hxl, hf⟩ := DataW.trod_struct Tryz.underlying26 h
 have hC : Tryz.prog.cellsOf 26 = 9 := by kernel_rfl
 have c1 : Tryz.prog.cellsOf 3 = 1 := by kernel_rfl
 have c9 : Tryz.prog.cellsOf 9 = 1 := by kernel_rfl
 have c22 : Tryz.prog.cellsOf 22 = 1 := by kernel_rfl
 have c23 : Tryz.prog.cellsOf 23 = 1 := by kernel_rfl
 have c24 : Tryz.prog.cellsOf 24 = 1 := by kernel_rfl
 rw [hC] at hlen
 match cs, hlen with
 | [a0, a1, a2, a3, a4, a5, a6, a7, a8], _ =>
  have hz : xs.length = 9 := hxl
  match xs, hz with
  | [x0, x1, x2, x3, x4, x5, x6, x7, x8], _ =>
  have hxe1 : x.1 = .agg [x0.1, x1.1, x2.1, x3.1, x4.1, x5.1, x6.1, x7.1, x8.1] := by rw [hxe]; rfl
  rw [hxe1] at hw
  have hw4 : (DataW.weights Tryz.prog 22 x4.1).all (· <= reachBytes) = true := Z57 (j := 4) Tryz.underlying26 hw rfl rfl
  have hw7 : (DataW.weights Tryz.prog 24 x7.1).all (· <= reachBytes) = true := Z57 (j := 7) Tryz.underlying26 hw rfl rfl
  have f0 := hf 0 _ rfl
  have f1 := hf 1 _ rfl
  have f2 := hf 2 _ rfl
  have f3 := hf 3 _ rfl
  have f4 := hf 4 _ rfl
  have f5 := hf 5 _ rfl
  have f6 := hf 6 _ rfl
  have f7 := hf 7 _ rfl
  have f8 := hf 8 _ rfl
  change DataW.trod enc _ W base _ held n 3 (([a0, a1, a2, a3, a4, a5, a6, a7, a8].drop 0).take (Tryz.prog.cellsOf 3)) = _ at f0
  change DataW.trod enc _ W base _ held n 9 (([a0, a1, a2, a3, a4, a5, a6, a7, a8].drop 1).take (Tryz.prog.cellsOf 9)) = _ at f1
  change DataW.trod enc _ W base _ held n 9 (([a0, a1, a2, a3, a4, a5, a6, a7, a8].drop 2).take (Tryz.prog.cellsOf 9)) = _ at f2
  change DataW.trod enc _ W base _ held n 3 (([a0, a1, a2, a3, a4, a5, a6, a7, a8].drop 3).take (Tryz.prog.cellsOf 3)) = _ at f3
  change DataW.trod enc _ W base _ held n 22 (([a0, a1, a2, a3, a4, a5, a6, a7, a8].drop 4).take (Tryz.prog.cellsOf 22)) = _ at f4
  change DataW.trod enc _ W base _ held n 22 (([a0, a1, a2, a3, a4, a5, a6, a7, a8].drop 5).take (Tryz.prog.cellsOf 22)) = _ at f5
  change DataW.trod enc _ W base _ held n 23 (([a0, a1, a2, a3, a4, a5, a6, a7, a8].drop 6).take (Tryz.prog.cellsOf 23)) = _ at f6
  change DataW.trod enc _ W base _ held n 24 (([a0, a1, a2, a3, a4, a5, a6, a7, a8].drop 7).take (Tryz.prog.cellsOf 24)) = _ at f7
  change DataW.trod enc _ W base _ held n 3 (([a0, a1, a2, a3, a4, a5, a6, a7, a8].drop 8).take (Tryz.prog.cellsOf 3)) = _ at f8
  rw [c1, List.getElem?_eq_getElem (by omega)] at f0
  rw [c9, List.getElem?_eq_getElem (by omega)] at f1
  rw [c9, List.getElem?_eq_getElem (by omega)] at f2
  rw [c1, List.getElem?_eq_getElem (by omega)] at f3
  rw [c22, List.getElem?_eq_getElem (by omega)] at f4
  rw [c22, List.getElem?_eq_getElem (by omega)] at f5
  rw [c23, List.getElem?_eq_getElem (by omega)] at f6
  rw [c24, List.getElem?_eq_getElem (by omega)] at f7
  rw [c1, List.getElem?_eq_getElem (by omega)] at f8
  obtain ⟨b0, hb0, _, w0⟩ := DataW.trod_int Tryz.underlying3 f0
  obtain ⟨b1, hb1, _, hm1⟩ := DataW.trod_string Tryz.underlying9 f1
  obtain ⟨b2, hb2, hx2, hm2⟩ := DataW.trod_string Tryz.underlying9 f2
  obtain ⟨b3, hb3, _, w3⟩ := DataW.trod_int Tryz.underlying3 f3
  obtain ⟨A, l, c, hb4, hS, hl, hlc, hA0, hly⟩ := Z1G f4
  obtain ⟨V, lv, e, hb5, hSv, hlv, hlve, hV0, hlvy⟩ := Z1G f5
  obtain ⟨S, ls, s, hb6, hSs, hls, hlss, hS0⟩ := Z3d f6
  obtain ⟨b8, hb8, _, w8⟩ := DataW.trod_int Tryz.underlying3 f8
  have hlnm : ∀ A' n' c', [a4] = [Value.slice A' n' c'] -> n' <= 140737488355328 := fun A' n' c' e => Z9P Tryz.underlying22 (by simpa using f4) (by simpa using e) hw4 (by kernel_rfl)
  unfold maxLen at hm1 hm2
  simp at hb0 hb1 hb2 hb3 hb4 hb5 hb6 hb8
  subst hb0 hb1 hb2 hb3 hb4 hb5 hb6 hb8
  have ht4 : l.length <= 140737488355328 := hlnm _ _ _ rfl
  have i0 : -9223372036854775808 <= b0 /\ b0 <= 9223372036854775807 := wf64 w0
  have i3 : -9223372036854775808 <= b3 /\ b3 <= 9223372036854775807 := wf64 w3
  have i8 : -9223372036854775808 <= b8 /\ b8 <= 9223372036854775807 := wf64 w8
  rcases DataW.trod_slice Tryz.underlying24 f7 with ⟨hb7, _⟩ | ⟨a, len, cap, elems, rest, n2, hn2, hb7, hx7, hb, hle, hmm, hel, hx, _⟩
  {simp at hb7
   subst hb7
   exact ⟨⟨b0, b1.data.toList, b2.data.toList, b3, l, lv, ls, [], b8⟩, ⟨A, c, V, e, S, s, none, 0⟩, rfl,
    .mk _ _ 0 0 (fun _ => ⟨none, 0, none, 0, none, 0, none, 0⟩) ⟨by rw [<- Lib.size_eq]; exact hm1, by rw [<- Lib.size_eq]; exact hm2, hly, hlvy, hl, hlv, hls, by simp, hlc, hlve, hlss, by simp, hA0, hV0, hS0, fun _ => rfl, i3, i8, i0⟩ hS hSv hSs (Or.inl rfl) (fun i h => absurd h (by simp)) (fun i h => absurd h (by simp)), by rw [Z3n]; simp only [Z3o, List.all_nil, Bool.and_true, decide_eq_true_eq]; omega⟩}
  {simp at hb7
   subst hb7
   unfold maxLen at hmm
   have hwe : ∀ i (hi : i < len), (DataW.weights Tryz.prog 26 (elems[i]'(by omega)).1).all (· <= reachBytes) = true := by
    intro i hi
    have hx7' : x7.1 = .slice (elems.map (·.1)) (rest.map (·.1)) := congrArg Prod.fst hx7
    rw [hx7'] at hw7
    exact Z8e (i := i) Tryz.underlying24 hw7 (by simp [hel, hi])
   have hv : ∀ i, ∃ u : Tm × TP, i < len -> (TmAt W W.heap.size u.2 u.1 /\ few u.1 = true) /\ ∀ j (hj : j < 9), W.cell? (a.add (i * 9 + j)) = some ([.int .i64 u.1.kind, .string ⟨u.1.of_.toArray⟩, .string ⟨u.1.name.toArray⟩, .int .i64 u.1.n, .slice u.2.A u.1.names.length u.2.c, .slice u.2.V u.1.vars.length u.2.e, .slice u.2.S u.1.shapes.length u.2.s, .slice u.2.P u.1.parts.length u.2.d, .int .i64 u.1.at_][j]'hj) := by
    intro i
    by_cases hi : i < len
    {have h1 := hx i hi
     rw [hC, List.getElem?_eq_getElem (by omega)] at h1
     cases hcs : W.cells? base (a.add (i * 9)) 9 with
     | none => rw [hcs] at h1; cases h1
     | some cs' =>
      rw [hcs] at h1
      obtain ⟨u, q, hu, hat, htm⟩ := IH n2 (by omega) h1 (hwe i hi)
      subst hu
      obtain ⟨_, hcl, hat'⟩ := World.cells?_some hcs
      refine ⟨(u, q), fun _ => ⟨⟨hat, htm⟩, fun j hj => ?_⟩⟩
      rw [<- Go.Deep.add_add]; exact (hat' j (by simpa using hj)).trans (List.getElem?_eq_getElem _)}
    {exact ⟨(⟨0, [], [], 0, [], [], [], [], 0⟩, ⟨none, 0, none, 0, none, 0, none, 0⟩), fun h => absurd h hi⟩}
   let f := fun i => (hv i).choose
   have hf2 : ∀ i, i < len -> (TmAt W W.heap.size (f i).2 (f i).1 /\ few (f i).1 = true) /\ ∀ j (hj : j < 9), W.cell? (a.add (i * 9 + j)) = some ([.int .i64 (f i).1.kind, .string ⟨(f i).1.of_.toArray⟩, .string ⟨(f i).1.name.toArray⟩, .int .i64 (f i).1.n, .slice (f i).2.A (f i).1.names.length (f i).2.c, .slice (f i).2.V (f i).1.vars.length (f i).2.e, .slice (f i).2.S (f i).1.shapes.length (f i).2.s, .slice (f i).2.P (f i).1.parts.length (f i).2.d, .int .i64 (f i).1.at_][j]'hj) := fun i => (hv i).choose_spec
   have hln : ((List.range len).map fun i => (f i).1).length = len := by simp
   refine ⟨⟨b0, b1.data.toList, b2.data.toList, b3, l, lv, ls, (List.range len).map fun i => (f i).1, b8⟩, ⟨A, c, V, e, S, s, some a, cap⟩, by simp, ?_, ?_⟩
   rotate_left
   {rw [Z3n]
    simp only [Bool.and_eq_true, decide_eq_true_eq]
    refine ⟨by omega, ?_⟩
    rw [Z3o, List.all_eq_true]
    intro p hp
    obtain ⟨i, hi, rfl⟩ := List.mem_map.1 hp
    exact (hf2 i (List.mem_range.1 hi)).1.2}
   obtain ⟨b, off, spot⟩ := a
   have hsm : TSmall ⟨b0, b1.data.toList, b2.data.toList, b3, l, lv, ls, (List.range len).map fun i => (f i).1, b8⟩ ⟨A, c, V, e, S, s, some ⟨b, off, spot⟩, cap⟩ :=
    ⟨by rw [<- Lib.size_eq]; exact hm1, by rw [<- Lib.size_eq]; exact hm2, hly, hlvy, hl, hlv, hls, by simp; omega, hlc, hlve, hlss, by simp; omega, hA0, hV0, hS0, (fun h => by cases h), i3, i8, i0⟩
   by_cases h0 : len = 0
   {exact .mk _ _ 0 0 (fun _ => ⟨none, 0, none, 0, none, 0, none, 0⟩) hsm hS hSv hSs (Or.inl (by simp [h0])) (fun i h => absurd h (by simp [h0])) (fun i h => absurd h (by simp [h0]))}
   {have h1 := (hf2 0 (by omega)).2 0 (by omega)
    have hspot : spot = none := by simpa [Addr.add] using World.cell?_spot h1
    subst hspot
    have hplain : ∀ k, (⟨b, off, none⟩ : Addr).add k = ⟨b, off + k, none⟩ := fun k => Z1c b off k
    refine .mk _ _ b off (fun i => (f i).2) hsm hS hSv hSs (Or.inr ⟨rfl, ?_⟩) ?_ ?_
    {rw [hplain] at h1; exact lt_of_cell h1}
    {intro i hi
     have hin : i < len := by simpa using hi
     have g := (hf2 i hin).2
     simp only [hplain] at g
     simp only [List.getElem_map, List.getElem_range]
     exact ⟨g 0 (by omega), g 1 (by omega), g 2 (by omega), g 3 (by omega), g 4 (by omega), g 5 (by omega), g 6 (by omega), g 7 (by omega), g 8 (by omega)⟩}
    {intro i hi
     have hin : i < len := by simpa using hi
     simp only [List.getElem_map, List.getElem_range]
     exact (hf2 i hin).1.1}}}
end
end Go.Proofs.YtnkdedejfonbmaaGreatDoor
namespace Go.Proofs.YtnkdedejfonbmaaGreatDoor
open Go.RowKit Tms
theorem Zbk {H : Type} {P : Program} {ts : List TypeId} {ds : List (DataW H)} {j : Nat} {t : TypeId} {d : DataW H} (h : (DataW.weightsEach P ts ds).all (· <= reachBytes) = true) (ht : ts[j]? = some t) (hd : ds[j]? = some d) : (DataW.weights P t d).all (· <= reachBytes) = true := by
 rw [List.all_eq_true] at h ⊢
 exact fun n hn => h n (DataW.weights_mem_each ht hd n hn)
theorem Z8f {H : Type} {enc : TypeId × Value -> H} {W : World} {base b0 : Nat} {held : Bool} {v : Value} {d : DataW H} {p : List MemPlace}
 (hv : Value.okWide Tryz.prog W .any b0 26 v) (h : DataW.Trod enc Tryz.prog W base (fun _ => true) held 26 v d p) (hw : (DataW.weights Tryz.prog 26 d).all (· <= reachBytes) = true) :
 ∃ (t : Tm) (q : TP), v = .agg (Y7 t q) /\ TmAt W W.heap.size q t /\ few t = true := by
 obtain ⟨cs, rfl, hsz⟩ := Go.WideShapes.okWide_struct Tryz.underlying26 hv
 obtain ⟨n, hn⟩ := h
 obtain ⟨t, q, hcs, hat, hf⟩ := Zgq n hn hw
 refine ⟨t, q, ?_, hat, hf⟩
 congr 1
 apply Array.ext'
 exact hcs
def qK8 (g : Nat) : TP := ⟨none, 0, none, 0, none, 0, some ⟨g, 0, none⟩, 1⟩
theorem Zgr {name : List UInt8} {t : Tm} (h : few t = true) : few (inCase name t) = true := by
 rw [Z3n]
 show (decide (([] : List (List UInt8)).length <= _) && fews [t]) = true
 rw [Z3o]; simp [h]
theorem Zhe (name : List UInt8) : few (asVar name) = true := by rw [Z3n]; rfl
theorem ZhP (W : World) (B : Nat) (name : List UInt8) (h : name.length <= 9223372036854775807) : TmAt W B noneT (asVar name) := Z63 W B 5 0 0 name (by omega) (by omega) (by omega) h
theorem Zhf {W : World} {g : Nat} {t : Tm} {q : TP} (name : List UInt8) (hn : name.length <= 9223372036854775807) (h : g < W.heap.size) (h9 : Tm9 W g 0 t q) (hq : TmAt W W.heap.size q t) : TmAt W W.heap.size (qK8 g) (inCase name t) := by
 refine .mk _ _ g 0 (fun _ => q) ⟨by simp [inCase], hn, nofun, nofun, by simp [inCase], by simp [inCase], by simp [inCase], by simp [inCase], by simp [inCase], by simp [inCase], by simp [inCase], Nat.le_refl _, fun _ => rfl, fun _ => rfl, fun _ => rfl, nofun, by simp [inCase], by simp [inCase], by simp [inCase]⟩ (Or.inl rfl) (Or.inl rfl) (Or.inl rfl) (Or.inr ⟨rfl, h⟩) (fun i hi => ?_) (fun i hi => ?_)
 {have h1 : i < 1 := hi
  match i, h1 with
  | 0, _ => exact h9}
 {have h1 : i < 1 := hi
  match i, h1 with
  | 0, _ => exact hq}
def dW (w : World) (t : Tm) (q : TP) (name : List UInt8) : World := ((w.alloc (.cells (Y7 t q) 26)).alloc (.cells #[.int .i64 10, .string ⟨#[]⟩, .string ⟨name.toArray⟩, .int .i64 0, .slice none 0 0, .slice none 0 0, .slice none 0 0, .slice (some ⟨w.heap.size, 0, none⟩) 1 1, .int .i64 0] 26)).alloc (.cells #[.int .i64 5, .string ⟨#[]⟩, .string ⟨name.toArray⟩, .int .i64 0, .slice none 0 0, .slice none 0 0, .slice none 0 0, .slice none 0 0, .int .i64 0] 26)
theorem Z66 (w : World) (t : Tm) (q : TP) (name : List UInt8) : Below w.heap.size w (dW w t q name) := Z08 (Z08 (Z02 _ _) _) _
theorem Z7d (w : World) (t : Tm) (q : TP) (name : List UInt8) : (dW w t q name).heap.size = w.heap.size + 3 := by simp [dW]
theorem dW_c (w : World) (t : Tm) (q : TP) (name : List UInt8) : Box9 (dW w t q name) (w.heap.size + 1) (inCase name t) (qK8 w.heap.size) := by
 refine ⟨by rw [Z7d]; omega, ⟨?_, ?_, ?_, ?_, ?_, ?_, ?_, ?_, ?_⟩, fun k => ?_⟩ <;> simp [dW, go_sem, inCase, qK8]
theorem dW_v (w : World) (t : Tm) (q : TP) (name : List UInt8) : Box9 (dW w t q name) (w.heap.size + 1 + 1) (asVar name) noneT := by
 refine ⟨by rw [Z7d]; omega, ⟨?_, ?_, ?_, ?_, ?_, ?_, ?_, ?_, ?_⟩, fun k => ?_⟩ <;> simp [dW, go_sem, asVar, noneT]
theorem Zie (w : World) (t : Tm) (q : TP) (name : List UInt8) (hn : name.length <= 9223372036854775807) (hq : TmAt w w.heap.size q t) : TmAt (dW w t q name) (dW w t q name).heap.size (qK8 w.heap.size) (inCase name t) := by
 refine Zhf name hn (by rw [Z7d]; omega) ?_ (hq.next (Z66 w t q name))
 refine ⟨?_, ?_, ?_, ?_, ?_, ?_, ?_, ?_, ?_⟩ <;> simp [dW, go_sem]
def deeptrue (name : List UInt8) (t : Tm) (q : TP) (G z : Nat) (kc : Int) : Nat -> Want
 | 0 => .val (.agg (Y7 (inCase name t) (qK8 G)))
 | 1 => .val (.int .i64 ((z : Int) + 1))
 | 2 => .val (.agg (Y7 t q))
 | 3 => .val (.int .i64 (z : Int))
 | 4 => .val (.int .i64 ((z : Int) + 1))
 | 5 => .val (.bool true)
 | 6 => .val (.bool true)
 | 7 => .val (.int .i64 kc)
 | 8 => .val (.bool true)
 | 9 => .val (.bool true)
 | 12 => .val (.bool true)
 | 13 => .val (.bool true)
 | 14 => .val (.bool true)
 | 15 => .val (.bool true)
 | 16 => .val (.bool true)
 | 17 => .val (.bool true)
 | _ => .any
def deepfalse (name : List UInt8) (t : Tm) (q : TP) (G z : Nat) (kc : Int) : Nat -> Want
 | 0 => .val (.agg (Y7 (inCase name t) (qK8 G)))
 | 1 => .val (.int .i64 ((z : Int) + 1))
 | 2 => .val (.agg (Y7 t q))
 | 3 => .val (.int .i64 (z : Int))
 | 4 => .val (.int .i64 ((z : Int) + 1))
 | 5 => .val (.bool true)
 | 6 => .val (.bool true)
 | 7 => .val (.int .i64 kc)
 | 8 => .val (.bool false)
 | 9 => .val (.bool false)
 | 10 => .val (.int .i64 kc)
 | 11 => .val (.bool true)
 | 12 => .val (.bool true)
 | 13 => .val (.bool true)
 | 14 => .val (.bool true)
 | 15 => .val (.bool true)
 | 16 => .val (.bool true)
 | 17 => .val (.bool true)
 | _ => .any
theorem Z7e (t : Tm) (q : TP) (name : List UInt8) (w : World) (hn : name.length <= 9223372036854775807) (hq : TmAt w w.heap.size q t) (ht : few t = true) (hG : Globs w) (hg : WGlobs w) (hu : Z0l w) :
 Y9 7 #[.agg (Y7 t q), .string ⟨name.toArray⟩] w (.bool true) := by
 have hb0 := Z02 w (.cells (Y7 t q) 26)
 have HBX := Y1 (Z07 w t q)
 have HB0 := Y1 hb0
 have HQ := Y1 (hq.next hb0)
 have HC := Y1 (fun (W : World) (h : Below w.heap.size w W) => Z0j t q W (hq.next h) (hg.next h) (hu.next h) ht)
 have HS := Y1 (fun (W : World) (h : Below w.heap.size w W) => Z1y t q W (hq.next h))
 have HW := Y1 (fun (W : World) (h : Below w.heap.size w W) => Z0J W (hG.next h) (hg.next h) (hu.next h))
 have HCC := Y1 (fun (W : World) (h : Below w.heap.size w W) (u : Tm) (r : TP) (hr : TmAt W W.heap.size r u) (hf : few u = true) => Z0j u r W hr (hg.next h) (hu.next h) hf)
 have HFT := Y1 ht
 have hsz : Hid (sizeTo 4096 t = min (size t) 4097) := Y1 rfl
 clear hb0 hq ht hG hg hu
 obtain ⟨k, hk⟩ : ∃ k, k = Tms.check t := ⟨_, rfl⟩
 obtain ⟨z, hz⟩ : ∃ z, z = sizeTo 4096 t := ⟨_, rfl⟩
 rw [<- hk] at HC
 rw [<- hz] at HS hsz
 have HK := Y1 hk
 have HZ := Y1 hz
 clear hk hz
 obtain ⟨_, ⟨c0, c1, c2, c3, c4, c5, c6, c7, c8⟩, _⟩ := HBX.out
 simp only [Nat.zero_add] at c0 c1 c2 c3 c4 c5 c6 c7 c8
 by_cases h0 : k = 0
 {have n0 : (k != 0) = false := by rw [h0]; rfl
  have HK0 := Y1 h0
  clear h0
  by_cases h4 : 4096 <= z
  {have n4 : (4096 : Int) <= (z : Int) := by omega
   clear h4
   go_enter Tryz.func7, Tryz.ntmps7
   go_wp2_with fail
   refine (HC.out _ HB0.out).mono ?_
   rintro e w1 ⟨rfl, hb1⟩
   obtain ⟨_, ⟨d0, d1, d2, d3, d4, d5, d6, d7, d8⟩, _⟩ := HBX.out.next hb1
   simp only [Nat.zero_add] at d0 d1 d2 d3 d4 d5 d6 d7 d8
   have HB1 := Y1 (Z00 HB0.out hb1)
   clear hb1 c0 c1 c2 c3 c4 c5 c6 c7 c8
   go_wp2_with fail
   refine (HS.out w1 HB1.out).mono ?_
   rintro e w2 ⟨rfl, hb2⟩
   have HB2 := Y1 (Z00 HB1.out hb2)
   clear hb2 d0 d1 d2 d3 d4 d5 d6 d7 d8
   go_wp2_with fail
   refine (HW.out w2 HB2.out).mono ?_
   rintro e w3 ⟨rfl, hb3⟩
   have HB3 := Y1 (Z00 HB2.out hb3)
   clear hb3
   go_wp2
   go_ret
   exact ⟨rfl, HB3.out⟩}
  {have n4 : ¬ (4096 : Int) <= (z : Int) := by omega
   clear h4
   go_enter Tryz.func7, Tryz.ntmps7
   go_wp2_with fail
   refine (HC.out _ HB0.out).mono ?_
   rintro e w1 ⟨rfl, hb1⟩
   obtain ⟨_, ⟨d0, d1, d2, d3, d4, d5, d6, d7, d8⟩, _⟩ := HBX.out.next hb1
   simp only [Nat.zero_add] at d0 d1 d2 d3 d4 d5 d6 d7 d8
   have HB1 := Y1 (Z00 HB0.out hb1)
   have HBX1 := Y1 (HBX.out.next hb1)
   have HQ1 := Y1 (HQ.out.next hb1)
   clear hb1 c0 c1 c2 c3 c4 c5 c6 c7 c8
   go_wp2_with fail
   refine (HS.out w1 HB1.out).mono ?_
   rintro e w2 ⟨rfl, hb2⟩
   have HB2 := Y1 (Z00 HB1.out hb2)
   have HBX2 := Y1 (HBX1.out.next hb2)
   have HQ2 := Y1 (HQ1.out.next hb2)
   obtain ⟨_, ⟨e0, e1, e2, e3, e4, e5, e6, e7, e8⟩, _⟩ := HBX2.out
   simp only [Nat.zero_add] at e0 e1 e2 e3 e4 e5 e6 e7 e8
   clear hb2 d0 d1 d2 d3 d4 d5 d6 d7 d8
   go_wp2_with fail
   clear e0 e1 e2 e3 e4 e5 e6 e7 e8
   change Calls _ _ _ (dW w2 t q name) _
   have HDB := Y1 (Z00 HB2.out (Z66 w2 t q name))
   have HDC := Y1 (dW_c w2 t q name)
   have HDV := Y1 (dW_v w2 t q name)
   have HDA := Y1 (Zie w2 t q name (by omega) HQ2.out)
   have HBX3 := Y1 (HBX2.out.next (Z66 w2 t q name))
   obtain ⟨G, hG⟩ : ∃ G, G = w2.heap.size := ⟨_, rfl⟩
   rw [<- hG] at HDC HDV HDA ⊢
   clear hG
   generalize dW w2 t q name = w3 at HDB HDC HDV HDA HBX3 ⊢
   obtain ⟨kc, hkc⟩ : ∃ kc, kc = Tms.check (inCase name t) := ⟨_, rfl⟩
   have CC := HCC.out w3 HDB.out (inCase name t) (qK8 G) HDA.out (Zgr HFT.out)
   rw [<- hkc] at CC
   have HKC := Y1 hkc
   clear hkc
   refine CC.mono ?_
   rintro e w4 ⟨rfl, hb4⟩
   have HB4 := Y1 (Z00 HDB.out hb4)
   have HDC4 := Y1 (HDC.out.next hb4)
   have HDV4 := Y1 (HDV.out.next hb4)
   have HDA4 := Y1 (HDA.out.next hb4)
   have HBX4 := Y1 (HBX3.out.next hb4)
   have HQ4 := Y1 (HQ2.out)
   clear hb4 CC
   obtain ⟨_, ⟨v0, v1, v2, v3, v4, v5, v6, v7, v8⟩, _⟩ := HDV4.out
   simp only [Nat.zero_add] at v0 v1 v2 v3 v4 v5 v6 v7 v8
   obtain ⟨kv, hkv⟩ : ∃ kv, kv = Tms.check (asVar name) := ⟨_, rfl⟩
   have CV := HCC.out w4 HB4.out (asVar name) noneT (ZhP w4 _ name (by omega)) (Zhe name)
   rw [<- hkv] at CV
   have HKV := Y1 hkv
   clear hkv
   by_cases hv0 : kv = 0
   {have nv : (kv != 0) = false := by rw [hv0]; rfl
    have hor : kc = 0 \/ kc = 91 := by
     have h1 : size t < 4096 := by
      have h2 := hsz.out
      omega
     rw [HKC.out]
     exact Z7R (by rw [<- HK.out]; exact HK0.out) h1 (by rw [<- HKV.out]; exact hv0)
    have hzc : sizeTo 4096 (inCase name t) = z + 1 := by
     have h2 := hsz.out
     unfold sizeTo
     rw [Z3u]
     omega
    clear hv0
    have HS4 := HS.out
    go_wp2_with fail
    refine CV.mono ?_
    rintro e w5 ⟨rfl, hb5⟩
    have HB5 := Y1 (Z00 HB4.out hb5)
    have HDC5 := Y1 (HDC4.out.next hb5)
    have HDA5 := Y1 (HDA4.out.next hb5)
    have HBX5 := Y1 (HBX4.out.next hb5)
    clear hb5 CV v0 v1 v2 v3 v4 v5 v6 v7 v8 HS4
    go_wp2_with fail
    have HZC := Y1 hzc
    clear hzc n4
    rcases hor with h8 | h8
    {have m0 : (kc == 0) = true := by rw [h8]; rfl
     clear h8
     refine Z0p (rs := [0, 1, 2, 3, 4, 5, 6, 7, 8, 9, 10, 11, 12, 13, 14, 15, 16, 17])
      (fun u' => { tmps := #[.agg (Y7 t q), .string { data := name.toArray }, .pointer (some { block := w.heap.size, off := 0 }), undef, u' 17, .pointer (some { block := G + 1, off := 0 }), .pointer (some { block := G + 1 + 1, off := 0 }), .int .i64 kc, .agg (Y7 t q), .int .i64 k, .bool false, .bool false, .agg (Y7 t q), .int .i64 (z : Int), .bool (decide ((4096 : Int) <= (z : Int))), .bool (decide ((4096 : Int) <= (z : Int))), undef, .string { data := name.toArray }, .agg (Y7 t q), .slice (some { block := G, off := 0 }) 1 1, .agg #[.int .i64 10, .string { data := #[] }, .string { data := name.toArray }, .int .i64 0, .slice none 0 0, .slice none 0 0, .slice none 0 0, .slice (some { block := G, off := 0 }) 1 1, .int .i64 0], .string { data := name.toArray }, .agg #[.int .i64 5, .string { data := #[] }, .string { data := name.toArray }, .int .i64 0, .slice none 0 0, .slice none 0 0, .slice none 0 0, .slice none 0 0, .int .i64 0], .agg #[.int .i64 10, .string { data := #[] }, .string { data := name.toArray }, .int .i64 0, .slice none 0 0, .slice none 0 0, .slice none 0 0, .slice (some { block := G, off := 0 }) 1 1, .int .i64 0], .int .i64 kc, .agg (Y7 (asVar name) noneT), .int .i64 kv, .bool false, undef, undef, undef, undef, undef, undef, undef, undef, undef, u' 0, u' 1, u' 2, u' 3, u' 4, u' 5, u' 6, u' 7, u' 8, u' 9, u' 10, u' 11, u' 12, u' 13, u' 14, u' 15, u' 16], defers := [] })
      (fun j => ([undef, undef, undef, undef, undef, undef, undef, undef, undef, undef, undef, undef, undef, undef, undef, undef, undef, .bool false] : List Value).getD j undef) (deeptrue name t q G z kc) (fun W => Below w5.heap.size w5 W) (by kernel_rfl) (by kernel_rfl) (by kernel_rfl) Y2.drew ?_ ?_
     refine StepsAt.cons _ rfl (fun u' W K' hJ hd hK => ?_) ?_
     {obtain ⟨_, ⟨y0, y1, y2, y3, y4, y5, y6, y7, y8⟩, _⟩ := HDC5.out.next hJ
      simp only [Nat.zero_add] at y0 y1 y2 y3 y4 y5 y6 y7 y8
      refine Y0 hK hJ rfl rfl rfl ?_
      try dsimp only
      go_simp}
     refine StepsAt.cons _ rfl (fun u' W K' hJ hd hK => ?_) ?_
     {have d0 : _ = _ := hd 0 (by kernel_rfl)
      have hw := Z1y (inCase name t) (qK8 G) W (HDA5.out.next hJ)
      rw [HZC.out, show (((z + 1 : Nat)) : Int) = (z : Int) + 1 from by omega] at hw
      refine Z05 (f := 10) (args := #[.agg (Y7 (inCase name t) (qK8 G))]) (W' := W) rfl ?_ ((hw).mono fun e w' h => ⟨_, h.1, hK.out _ _ rfl (Z00 hJ h.2) h.2⟩)
      try dsimp only
      go_simp}
     refine StepsAt.cons _ rfl (fun u' W K' hJ hd hK => ?_) ?_
     {obtain ⟨_, ⟨y0, y1, y2, y3, y4, y5, y6, y7, y8⟩, _⟩ := HBX5.out.next hJ
      simp only [Nat.zero_add] at y0 y1 y2 y3 y4 y5 y6 y7 y8
      refine Y0 hK hJ rfl rfl rfl ?_
      try dsimp only
      go_simp}
     refine StepsAt.cons _ rfl (fun u' W K' hJ hd hK => ?_) ?_
     {have d2 : _ = _ := hd 2 (by kernel_rfl)
      refine Z05 (f := 10) (args := #[.agg (Y7 t q)]) (W' := W) rfl ?_ ((HS.out W (Z00 HB5.out hJ)).mono fun e w' h => ⟨_, h.1, hK.out _ _ rfl (Z00 hJ h.2) h.2⟩)
      try dsimp only
      go_simp}
     refine StepsAt.cons _ rfl (fun u' W K' hJ hd hK => ?_) ?_
     {have d3 : _ = _ := hd 3 (by kernel_rfl)
      refine Y0 hK hJ rfl rfl rfl ?_
      try dsimp only
      go_simp
      exact IntWalk.i64_in _ (by have := hsz.out; omega)}
     refine StepsAt.cons _ rfl (fun u' W K' hJ hd hK => ?_) ?_
     {have d1 : _ = _ := hd 1 (by kernel_rfl)
      have d4 : _ = _ := hd 4 (by kernel_rfl)
      refine Y0 hK hJ rfl rfl rfl ?_
      try dsimp only
      go_simp}
     refine StepsAt.cons _ rfl (fun u' W K' hJ hd hK => ?_) ?_
     {have d5 : _ = _ := hd 5 (by kernel_rfl)
      refine Y0 hK hJ rfl rfl rfl ?_
      try dsimp only
      go_simp}
     refine StepsAt.cons _ rfl (fun u' W K' hJ hd hK => ?_) ?_
     {have dg : _ = _ := hd 6 (by kernel_rfl)
      refine Y0 hK hJ rfl rfl ?_ ?_
      {simp [Region.wanted, yielded, dg]}
      {try dsimp only
       go_simp}}
     refine StepsAt.cons _ rfl (fun u' W K' hJ hd hK => ?_) ?_
     {have dg : _ = _ := hd 6 (by kernel_rfl)
      have d7 : _ = _ := hd 7 (by kernel_rfl)
      refine Y0 hK hJ rfl rfl ?_ ?_
      {simp [Region.wanted, yielded, dg]}
      {try dsimp only
       go_simp}}
     refine StepsAt.cons _ rfl (fun u' W K' hJ hd hK => ?_) ?_
     {have dg : _ = _ := hd 6 (by kernel_rfl)
      have d8 : _ = _ := hd 8 (by kernel_rfl)
      refine Y0 hK hJ rfl rfl ?_ ?_
      {simp [Region.wanted, yielded, dg]}
      {try dsimp only
       go_simp}}
     refine StepsAt.cons _ rfl (fun u' W K' hJ hd hK => ?_) ?_
     {have dg : _ = _ := hd 9 (by kernel_rfl)
      exact Z0i (by simp [Region.wanted, yielded, dg]) (hK.out _ _ trivial hJ Y2)}
     refine StepsAt.cons _ rfl (fun u' W K' hJ hd hK => ?_) ?_
     {have dg : _ = _ := hd 9 (by kernel_rfl)
      exact Z0i (by simp [Region.wanted, yielded, dg]) (hK.out _ _ trivial hJ Y2)}
     refine StepsAt.cons _ rfl (fun u' W K' hJ hd hK => ?_) ?_
     {have dg : _ = _ := hd 6 (by kernel_rfl)
      have d9 : _ = _ := hd 9 (by kernel_rfl)
      refine Y0 hK hJ rfl rfl ?_ ?_
      {simp [Region.wanted, yielded, dg]}
      {try dsimp only
       go_simp}}
     refine StepsAt.cons _ rfl (fun u' W K' hJ hd hK => ?_) ?_
     {have d6 : _ = _ := hd 6 (by kernel_rfl)
      have d12 : _ = _ := hd 12 (by kernel_rfl)
      refine Y0 hK hJ rfl rfl rfl ?_
      try dsimp only
      go_simp}
     refine StepsAt.cons _ rfl (fun u' W K' hJ hd hK => ?_) ?_
     {have d13 : _ = _ := hd 13 (by kernel_rfl)
      refine Y0 hK hJ rfl rfl rfl ?_
      try dsimp only
      go_simp}
     refine StepsAt.cons _ rfl (fun u' W K' hJ hd hK => ?_) ?_
     {have dg : _ = _ := hd 14 (by kernel_rfl)
      refine Z05 (f := 12) (args := #[]) (W' := W) ?_ ?_ ((HW.out W (Z00 HB5.out hJ)).mono fun e w' h => ⟨_, h.1, hK.out _ _ rfl (Z00 hJ h.2) h.2⟩)
      {simp [Region.wanted, yielded, dg]}
      {try dsimp only
       go_simp}}
     refine StepsAt.cons _ rfl (fun u' W K' hJ hd hK => ?_) ?_
     {have d14 : _ = _ := hd 14 (by kernel_rfl)
      have d15 : _ = _ := hd 15 (by kernel_rfl)
      refine Y0 hK hJ rfl rfl rfl ?_
      try dsimp only
      go_simp}
     refine StepsAt.cons _ rfl (fun u' W K' hJ hd hK => ?_) StepsAt.nil
     {have d16 : _ = _ := hd 16 (by kernel_rfl)
      refine Y0 hK hJ rfl rfl rfl ?_
      try dsimp only
      go_simp}
     intro u' W5 hJ hok
     have eL : u' 17 = .bool true := hok 17 (by decide)
     try dsimp only
     rw [eL]
     have HBX := Y1 (Z00 HB5.out hJ)
     clear hok eL hJ
     go_wp2
     go_ret
     exact ⟨rfl, HBX.out⟩}
    {have m0 : (kc == 0) = false := by rw [h8]; rfl
     have m9 := Y4 91 h8 rfl
     clear h8
     refine Z0p (rs := [0, 1, 2, 3, 4, 5, 6, 7, 8, 9, 10, 11, 12, 13, 14, 15, 16, 17])
      (fun u' => { tmps := #[.agg (Y7 t q), .string { data := name.toArray }, .pointer (some { block := w.heap.size, off := 0 }), undef, u' 17, .pointer (some { block := G + 1, off := 0 }), .pointer (some { block := G + 1 + 1, off := 0 }), .int .i64 kc, .agg (Y7 t q), .int .i64 k, .bool false, .bool false, .agg (Y7 t q), .int .i64 (z : Int), .bool (decide ((4096 : Int) <= (z : Int))), .bool (decide ((4096 : Int) <= (z : Int))), undef, .string { data := name.toArray }, .agg (Y7 t q), .slice (some { block := G, off := 0 }) 1 1, .agg #[.int .i64 10, .string { data := #[] }, .string { data := name.toArray }, .int .i64 0, .slice none 0 0, .slice none 0 0, .slice none 0 0, .slice (some { block := G, off := 0 }) 1 1, .int .i64 0], .string { data := name.toArray }, .agg #[.int .i64 5, .string { data := #[] }, .string { data := name.toArray }, .int .i64 0, .slice none 0 0, .slice none 0 0, .slice none 0 0, .slice none 0 0, .int .i64 0], .agg #[.int .i64 10, .string { data := #[] }, .string { data := name.toArray }, .int .i64 0, .slice none 0 0, .slice none 0 0, .slice none 0 0, .slice (some { block := G, off := 0 }) 1 1, .int .i64 0], .int .i64 kc, .agg (Y7 (asVar name) noneT), .int .i64 kv, .bool false, undef, undef, undef, undef, undef, undef, undef, undef, undef, u' 0, u' 1, u' 2, u' 3, u' 4, u' 5, u' 6, u' 7, u' 8, u' 9, u' 10, u' 11, u' 12, u' 13, u' 14, u' 15, u' 16], defers := [] })
      (fun j => ([undef, undef, undef, undef, undef, undef, undef, undef, undef, undef, undef, undef, undef, undef, undef, undef, undef, .bool false] : List Value).getD j undef) (deepfalse name t q G z kc) (fun W => Below w5.heap.size w5 W) (by kernel_rfl) (by kernel_rfl) (by kernel_rfl) Y2.drew ?_ ?_
     refine StepsAt.cons _ rfl (fun u' W K' hJ hd hK => ?_) ?_
     {obtain ⟨_, ⟨y0, y1, y2, y3, y4, y5, y6, y7, y8⟩, _⟩ := HDC5.out.next hJ
      simp only [Nat.zero_add] at y0 y1 y2 y3 y4 y5 y6 y7 y8
      refine Y0 hK hJ rfl rfl rfl ?_
      try dsimp only
      go_simp}
     refine StepsAt.cons _ rfl (fun u' W K' hJ hd hK => ?_) ?_
     {have d0 : _ = _ := hd 0 (by kernel_rfl)
      have hw := Z1y (inCase name t) (qK8 G) W (HDA5.out.next hJ)
      rw [HZC.out, show (((z + 1 : Nat)) : Int) = (z : Int) + 1 from by omega] at hw
      refine Z05 (f := 10) (args := #[.agg (Y7 (inCase name t) (qK8 G))]) (W' := W) rfl ?_ ((hw).mono fun e w' h => ⟨_, h.1, hK.out _ _ rfl (Z00 hJ h.2) h.2⟩)
      try dsimp only
      go_simp}
     refine StepsAt.cons _ rfl (fun u' W K' hJ hd hK => ?_) ?_
     {obtain ⟨_, ⟨y0, y1, y2, y3, y4, y5, y6, y7, y8⟩, _⟩ := HBX5.out.next hJ
      simp only [Nat.zero_add] at y0 y1 y2 y3 y4 y5 y6 y7 y8
      refine Y0 hK hJ rfl rfl rfl ?_
      try dsimp only
      go_simp}
     refine StepsAt.cons _ rfl (fun u' W K' hJ hd hK => ?_) ?_
     {have d2 : _ = _ := hd 2 (by kernel_rfl)
      refine Z05 (f := 10) (args := #[.agg (Y7 t q)]) (W' := W) rfl ?_ ((HS.out W (Z00 HB5.out hJ)).mono fun e w' h => ⟨_, h.1, hK.out _ _ rfl (Z00 hJ h.2) h.2⟩)
      try dsimp only
      go_simp}
     refine StepsAt.cons _ rfl (fun u' W K' hJ hd hK => ?_) ?_
     {have d3 : _ = _ := hd 3 (by kernel_rfl)
      refine Y0 hK hJ rfl rfl rfl ?_
      try dsimp only
      go_simp
      exact IntWalk.i64_in _ (by have := hsz.out; omega)}
     refine StepsAt.cons _ rfl (fun u' W K' hJ hd hK => ?_) ?_
     {have d1 : _ = _ := hd 1 (by kernel_rfl)
      have d4 : _ = _ := hd 4 (by kernel_rfl)
      refine Y0 hK hJ rfl rfl rfl ?_
      try dsimp only
      go_simp}
     refine StepsAt.cons _ rfl (fun u' W K' hJ hd hK => ?_) ?_
     {have d5 : _ = _ := hd 5 (by kernel_rfl)
      refine Y0 hK hJ rfl rfl rfl ?_
      try dsimp only
      go_simp}
     refine StepsAt.cons _ rfl (fun u' W K' hJ hd hK => ?_) ?_
     {have dg : _ = _ := hd 6 (by kernel_rfl)
      refine Y0 hK hJ rfl rfl ?_ ?_
      {simp [Region.wanted, yielded, dg]}
      {try dsimp only
       go_simp}}
     refine StepsAt.cons _ rfl (fun u' W K' hJ hd hK => ?_) ?_
     {have dg : _ = _ := hd 6 (by kernel_rfl)
      have d7 : _ = _ := hd 7 (by kernel_rfl)
      refine Y0 hK hJ rfl rfl ?_ ?_
      {simp [Region.wanted, yielded, dg]}
      {try dsimp only
       go_simp}}
     refine StepsAt.cons _ rfl (fun u' W K' hJ hd hK => ?_) ?_
     {have dg : _ = _ := hd 6 (by kernel_rfl)
      have d8 : _ = _ := hd 8 (by kernel_rfl)
      refine Y0 hK hJ rfl rfl ?_ ?_
      {simp [Region.wanted, yielded, dg]}
      {try dsimp only
       go_simp}}
     refine StepsAt.cons _ rfl (fun u' W K' hJ hd hK => ?_) ?_
     {have dg : _ = _ := hd 9 (by kernel_rfl)
      refine Y0 hK hJ rfl rfl ?_ ?_
      {simp [Region.wanted, yielded, dg]}
      {try dsimp only
       go_simp}}
     refine StepsAt.cons _ rfl (fun u' W K' hJ hd hK => ?_) ?_
     {have dg : _ = _ := hd 9 (by kernel_rfl)
      have d10 : _ = _ := hd 10 (by kernel_rfl)
      refine Y0 hK hJ rfl rfl ?_ ?_
      {simp [Region.wanted, yielded, dg]}
      {try dsimp only
       go_simp}}
     refine StepsAt.cons _ rfl (fun u' W K' hJ hd hK => ?_) ?_
     {have dg : _ = _ := hd 6 (by kernel_rfl)
      have d9 : _ = _ := hd 9 (by kernel_rfl)
      have d11 : _ = _ := hd 11 (by kernel_rfl)
      refine Y0 hK hJ rfl rfl ?_ ?_
      {simp [Region.wanted, yielded, dg]}
      {try dsimp only
       go_simp}}
     refine StepsAt.cons _ rfl (fun u' W K' hJ hd hK => ?_) ?_
     {have d6 : _ = _ := hd 6 (by kernel_rfl)
      have d12 : _ = _ := hd 12 (by kernel_rfl)
      refine Y0 hK hJ rfl rfl rfl ?_
      try dsimp only
      go_simp}
     refine StepsAt.cons _ rfl (fun u' W K' hJ hd hK => ?_) ?_
     {have d13 : _ = _ := hd 13 (by kernel_rfl)
      refine Y0 hK hJ rfl rfl rfl ?_
      try dsimp only
      go_simp}
     refine StepsAt.cons _ rfl (fun u' W K' hJ hd hK => ?_) ?_
     {have dg : _ = _ := hd 14 (by kernel_rfl)
      refine Z05 (f := 12) (args := #[]) (W' := W) ?_ ?_ ((HW.out W (Z00 HB5.out hJ)).mono fun e w' h => ⟨_, h.1, hK.out _ _ rfl (Z00 hJ h.2) h.2⟩)
      {simp [Region.wanted, yielded, dg]}
      {try dsimp only
       go_simp}}
     refine StepsAt.cons _ rfl (fun u' W K' hJ hd hK => ?_) ?_
     {have d14 : _ = _ := hd 14 (by kernel_rfl)
      have d15 : _ = _ := hd 15 (by kernel_rfl)
      refine Y0 hK hJ rfl rfl rfl ?_
      try dsimp only
      go_simp}
     refine StepsAt.cons _ rfl (fun u' W K' hJ hd hK => ?_) StepsAt.nil
     {have d16 : _ = _ := hd 16 (by kernel_rfl)
      refine Y0 hK hJ rfl rfl rfl ?_
      try dsimp only
      go_simp}
     intro u' W5 hJ hok
     have eL : u' 17 = .bool true := hok 17 (by decide)
     try dsimp only
     rw [eL]
     have HBX := Y1 (Z00 HB5.out hJ)
     clear hok eL hJ
     go_wp2
     go_ret
     exact ⟨rfl, HBX.out⟩}}
   {have nv : (kv != 0) = true := by simpa using hv0
    have hor : kc = 80 \/ kc = 91 := by
     have h1 : size t < 4096 := by
      have h2 := hsz.out
      omega
     rw [HKC.out]
     exact Z7S h1 (by rw [<- HKV.out]; exact hv0)
    clear hv0
    rcases hor with h8 | h8
    {have m8 : (kc == 80) = true := by rw [h8]; rfl
     clear h8
     go_wp2_with fail
     refine CV.mono ?_
     rintro e w5 ⟨rfl, hb5⟩
     have HB5 := Y1 (Z00 HB4.out hb5)
     clear hb5 CV v0 v1 v2 v3 v4 v5 v6 v7 v8
     go_wp2_with fail
     refine (HW.out w5 HB5.out).mono ?_
     rintro e w6 ⟨rfl, hb6⟩
     have HB6 := Y1 (Z00 HB5.out hb6)
     clear hb6
     go_wp2
     go_ret
     exact ⟨rfl, HB6.out⟩}
    {have m8 : (kc == 80) = false := by rw [h8]; rfl
     have m9 := Y4 91 h8 rfl
     clear h8
     go_wp2_with fail
     refine CV.mono ?_
     rintro e w5 ⟨rfl, hb5⟩
     have HB5 := Y1 (Z00 HB4.out hb5)
     clear hb5 CV v0 v1 v2 v3 v4 v5 v6 v7 v8
     go_wp2_with fail
     refine (HW.out w5 HB5.out).mono ?_
     rintro e w6 ⟨rfl, hb6⟩
     have HB6 := Y1 (Z00 HB5.out hb6)
     clear hb6
     go_wp2
     go_ret
     exact ⟨rfl, HB6.out⟩}}}}
 {have n0 : (k != 0) = true := by simpa using h0
  clear h0
  go_enter Tryz.func7, Tryz.ntmps7
  go_wp2_with fail
  refine (HC.out _ HB0.out).mono ?_
  rintro e w1 ⟨rfl, hb1⟩
  have HB1 := Y1 (Z00 HB0.out hb1)
  clear hb1 c0 c1 c2 c3 c4 c5 c6 c7 c8
  go_wp2_with fail
  refine (HW.out w1 HB1.out).mono ?_
  rintro e w2 ⟨rfl, hb2⟩
  have HB2 := Y1 (Z00 HB1.out hb2)
  clear hb2
  go_wp2
  go_ret
  exact ⟨rfl, HB2.out⟩}
end Go.Proofs.YtnkdedejfonbmaaGreatDoor
namespace Go.Proofs.YtnkdedejfonbmaaGreatDoor.termsDeep
open Go.ChangeShapes Go.WideShapes Go.ChangeAt Go.RowKit
open Go.ChangeMaps (open_string shut_string)
theorem own : ownKnob Tryz.prog.godebug = none := by kernel_rfl
theorem laidOut : laidOutB Tryz.prog = true := by kernel_rfl
theorem contract (H : Type) (enc : TypeId × Value -> H) (W : World) (base : Nat) (args : Array Value) (ds gs : List (DataW H)) (before : List MemPlace)
 (hval : ∀ (j : Nat) t v, Tryz.f7.params[j]? = some t -> args[j]? = some v -> Value.okWide Tryz.prog W .any base t v)
 (hW : DataW.Whole enc Tryz.prog Tryz.f7.params.toList Rows.termsDeepSpec.vars false W args.toList ds gs before) (hL : laidMetH Tryz.prog Rows.termsDeepRow.laid W)
 (hsz : (DataW.weightsEach Tryz.prog (Tryz.f7.params.toList ++ Rows.termsDeepSpec.plain.varTypes Tryz.prog) (ds ++ gs)).all (· <= reachBytes) = true) :
 Calls Tryz.prog 7 args W fun e W' => ∃ v, e = .returned v /\ Rows.termsDeepSpec.post enc Tryz.prog Tryz.f7 false true false false W args v W' := by
 have hW' := hW
 obtain ⟨p, q, hA0, hV, rfl, hfz, hnd⟩ := hW
 have hA : DataW.TrodAll enc Tryz.prog W 0 (fun _ => true) true Tryz.f7.params.toList args.toList ds p := hA0
 rw [Tryz.params7] at hA hval hsz
 obtain ⟨v0, vs0, d0, ds0, p0, q0, hargs, rfl, rfl, h0, t0⟩ := trodAll_cons hA
 obtain ⟨v1, vs1, d1, ds1, p1, q1, rfl, rfl, rfl, h1, t1⟩ := trodAll_cons t0
 obtain ⟨rfl, rfl, rfl⟩ := trodAll_nil t1
 obtain rfl : args = #[v0, v1] := by cases args; simp_all
 obtain ⟨rfl, rfl⟩ := trodVars_none hV
 have k0 := h0
 have lt0 : ∀ x ∈ p0, x.block < W.heap.size := by obtain ⟨m, hm⟩ := k0; exact DataW.trod_lt m _ _ _ hm
 obtain ⟨u0, y0, rfl, S0, few0⟩ := Z8f (hval 0 26 v0 rfl rfl) h0 (Zbk hsz (j := 0) rfl rfl)
 obtain ⟨a1, rfl, rfl, rfl, w1⟩ := open_string Tryz.underlying9 (hval 1 9 v1 rfl rfl) h1
 have r1 : a1.size <= 140737488351232 := by
  have := sized_string hsz (j := 1) (t := 9) rfl rfl
  rw [Lib.size_eq]; exact Nat.le_trans this (by decide)
 clear hA0
 rw [MakeChecks.laidMetH_plain _ _ _ (by kernel_rfl)] at hL
 have g0 : Globs W := Z3j hL (List.Mem.tail _ (List.Mem.tail _ (List.Mem.tail _ (List.Mem.tail _ (List.Mem.tail _ (List.Mem.head _)))))) (List.Mem.tail _ (List.Mem.tail _ (List.Mem.tail _ (List.Mem.tail _ (List.Mem.head _))))) (List.Mem.tail _ (List.Mem.tail _ (List.Mem.head _)))
 have g1 : WGlobs W := Z2M hL (List.Mem.tail _ (List.Mem.tail _ (List.Mem.tail _ (List.Mem.tail _ (List.Mem.tail _ (List.Mem.tail _ (List.Mem.head _)))))))
 have g2 : Z0l W := Z2k hL (List.Mem.tail _ (List.Mem.tail _ (List.Mem.tail _ (List.Mem.tail _ (List.Mem.tail _ (List.Mem.tail _ (List.Mem.tail _ (List.Mem.head _)))))))) (List.Mem.tail _ (List.Mem.tail _ (List.Mem.tail _ (List.Mem.head _))))
 refine (Z7e u0 y0 a1.data.toList W (by have := Lib.size_eq a1; omega) S0 few0 g0 g1 g2).mono fun e W' ⟨he, bel⟩ => ?_
 subst he
 exact ⟨_, rfl, _, _, _, [], _, [], hW', trodAll_mk1 (shut_bool Tryz.underlying4 _), (trodAll_cons_mk (Below.trod laidOut (by kernel_rfl) (of_decide_eq_true (by kernel_rfl)) k0 bel lt0) (trodAll_cons_mk (shut_string Tryz.underlying9 w1) trodAll_mk0)), rfl, bel.frame _, fun h => by cases h⟩
theorem reads (os : Os) {H : Type} (enc : TypeId × Value -> H) : ∃ places, DataW.whole enc Tryz.prog ((World.laidAll Tryz.prog os Rows.termsDeepRow.laid).forCall (fun _ _ => 0) ⟨#[], #[(.agg #[.int .i64 0, .string ByteArray.empty, .string ByteArray.empty, .int .i64 0, .slice none 0 0, .slice none 0 0, .slice none 0 0, .slice none 0 0, .int .i64 0]), (.string ByteArray.empty)], []⟩).memory Tryz.f7.params.toList Rows.termsDeepSpec.vars false #[(.agg #[.int .i64 0, .string ByteArray.empty, .string ByteArray.empty, .int .i64 0, .slice none 0 0, .slice none 0 0, .slice none 0 0, .slice none 0 0, .int .i64 0]), (.string ByteArray.empty)].toList 8 = some ([.agg [.lit (.int .i64 0), .lit (.string []), .lit (.string []), .lit (.int .i64 0), .nil, .nil, .nil, .nil, .lit (.int .i64 0)], .lit (.string [])], [], places) :=
 ⟨[], by kernel_rfl⟩
theorem lifted (os : Os) (started : os.Started) (H : Type) (enc : TypeId × Value -> H) (F : Stop.Interp) :
 ReturnsInHanded {} Tryz.checked os 7 .any ((OpenSpec.ofChange Rows.termsDeepSpec).preRow enc Tryz.prog Tryz.f7 Rows.termsDeepRow.domain false Rows.termsDeepRow.laid) (((OpenSpec.ofChange Rows.termsDeepSpec).at F).post enc Tryz.prog Tryz.f7 false true false false) := by
 obtain ⟨places, hx⟩ := reads os enc
 refine returnsInHanded_of_row (C := Tryz.checked) (s := OpenSpec.ofChange Rows.termsDeepSpec) own started (by kernel_rfl) Tryz.func7
  (Z15 (enc := enc) (C := Tryz.checked) (s := OpenSpec.ofChange Rows.termsDeepSpec) false (World.laidAll Tryz.prog os Rows.termsDeepRow.laid) #[(.agg #[.int .i64 0, .string ByteArray.empty, .string ByteArray.empty, .int .i64 0, .slice none 0 0, .slice none 0 0, .slice none 0 0, .slice none 0 0, .int .i64 0]), (.string ByteArray.empty)] (World.laidAll_os _ _ _)
   (World.shaped_of_ZipB (by kernel_rfl) (by kernel_rfl)) (by kernel_rfl)
   (OpenSpec.preRow_of_cond 8 hx (by kernel_rfl) (fun k hk => by cases hk) (by kernel_rfl)
    (by rw [MakeChecks.laidMetH_plain _ _ _ (by kernel_rfl)]; exact laidMet_laidAll _ (by kernel_rfl) (by kernel_rfl)))) ?_
 intro W base args ds gs before hval hW _ hcond hsz hL _ _
 exact contract H enc W base args ds gs before hval hW hL hsz
theorem proved : Rows.TermsDeepSaid :=
 OpenClaim.holds_of_cond 7 Tryz.f7 rfl rfl rfl rfl rfl rfl rfl ⟨rfl, rfl, rfl, rfl, rfl⟩ rfl rfl rfl rfl rfl (by kernel_rfl) Tryz.func7 (by kernel_rfl)
  (of_decide_eq_true (by kernel_rfl)) (by unfold Func.isWrapper; first | (rw [if_pos (by decide +kernel)]; kernel_rfl) | (rw [if_neg (by decide +kernel)]; exact ⟨rfl, rfl⟩))
  (fun os started H enc _ F => by rw [OpenClaim.pre_eq_preRow]; exact lifted os started H enc F)
theorem card : Rows.TermsDeepCardSaid :=
 Claim7.holds_tied_plain_at .later [] _ _ _ _ proved (fun _ h => by cases h) (by kernel_rfl) (fun _ h => by cases h) termsDeep_row_tie rfl ⟨rfl, rfl⟩ (by kernel_rfl) rfl
  (fun f fn hf hfn => by
   obtain rfl : f = 7 := Option.some.inj ((show Tryz.prog.funcNamed "pandect/pandectlaw08.TermsDeep" = some 7 by kernel_rfl).symm.trans hf) |>.symm
   obtain rfl : fn = Tryz.f7 := (Option.some.inj (Tryz.func7.symm.trans hfn)).symm
   exact ⟨by kernel_rfl, fun j t ht => by
    rw [Tryz.params7] at ht
    have hm : t ∈ [26, 9] := by simpa using Array.mem_of_getElem? ht
    have hall : ([26, 9].all fun u => !Tryz.prog.wantsStandIn u) = true := by kernel_rfl
    exact (show Tryz.prog.wantsStandIn t = false by simpa using List.all_eq_true.1 hall t hm)⟩)
  (by kernel_rfl)
end Go.Proofs.YtnkdedejfonbmaaGreatDoor.termsDeep
