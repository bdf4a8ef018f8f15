/- What the proofs of TermsBare, TermsChecks, TermsDeep, TermsSame, TermsSames want, part 5. -/
import Derived.Deep.DeepHandedRow
import Derived.LaidLaws
import Derived.WalkKit
import Derived.ProofKit
import Derived.OpenShut
import Derived.Lib.SmallJoins
import Derived.Deep.DeepCutAuto
import Derived.WalkSmall
import Derived.MakeChecks
import Derived.Lib.LaidTab
import Derived.Shelf.Strings.OnBuilder
import Derived.Laws.MakeOwn
import Derived.Deep.OwnRows
import Derived.Deep.RegionHeld3
import Derived.Below
import Derived.Test.YtnkdedejfonbmaaGreatDoorRows
import Derived.StillTailTactics
import Derived.Test.YtnkdedejfonbmaaGreatDoorK0n2
set_option linter.unusedVariables false
set_option linter.unusedSimpArgs false
set_option maxRecDepth 100000
set_option maxHeartbeats 16000000
namespace Go.Proofs.YtnkdedejfonbmaaGreatDoor
open Go.RowKit Tms
open Shp (Sh)
def TmsAt (w : World) (B : Nat) (P : Option Addr) (l : List Tm) : Prop :=
 l.length = 0 \/ ∃ (g off : Nat) (qs : Nat -> TP), P = some ⟨g, off, none⟩ /\ g < B /\ (∀ i (h : i < l.length), Tm9 w g (off + i * 9) (l[i]'h) (qs i)) /\ ∀ i (h : i < l.length), TmAt w B (qs i) (l[i]'h)
theorem TmsAt.of {w w' : World} {B B' : Nat} {P : Option Addr} {l : List Tm} (h : TmsAt w B P l) (hB : B <= B') (hc : ∀ g k, g < B -> w'.cell? ⟨g, k, none⟩ = w.cell? ⟨g, k, none⟩) : TmsAt w' B' P l := by
 rcases h with h | ⟨g, off, rs, h1, h2, h3, h4⟩
 {exact Or.inl h}
 {exact Or.inr ⟨g, off, rs, h1, Nat.lt_of_lt_of_le h2 hB, fun i hi => (h3 i hi).of (fun k => hc g k h2), fun i hi => (h4 i hi).of hB hc⟩}
theorem TmsAt.next {w w' : World} {P : Option Addr} {l : List Tm} (h : TmsAt w w.heap.size P l) (hb : Below w.heap.size w w') : TmsAt w' w'.heap.size P l := h.of hb.size (fun g k hg => hb.cell (p := ⟨g, k, none⟩) hg)
theorem Z15 {H : Type} {enc : TypeId × Value -> H} {C : Checked} {os : Os} {f : FuncId} {fn : Func} {s : OpenSpec} {conds : List PathCond} {apart : Bool} {laid : List (String × DataW Unit)} (modest : Bool) (w0 : World) (args : Array Value) (hos : w0.os = os)
 (hsh : (w0.forCall (fun _ _ => 0) ⟨#[], args, []⟩).Shaped C.prog)
 (hok : Input.okWideB C.prog (w0.forCall (fun _ _ => 0) ⟨#[], args, []⟩) f ⟨#[], args, []⟩ = true)
 (hrow : s.preRow enc C.prog fn conds apart laid (w0.forCall (fun _ _ => 0) ⟨#[], args, []⟩).memory args) :
 ∃ (w : World) (tape : Tape) (i : Input), w.os = os /\ (w.forCall tape i).Shaped C.prog /\ i.vars = [] /\ Input.okWide C.prog (w.forCall tape i) .any w.heap.size f i /\
  s.preRow enc C.prog fn conds apart laid (w.forCall tape i).memory i.args /\ ({ modest := modest } : Assume).holds C.prog (lone (Frame.enter C.prog f i.args .normal) [] (w.forCall tape i)) :=
 ⟨w0, fun _ _ => 0, ⟨#[], args, []⟩, hos, hsh, (Input.okWide_of_okWideB (base := 0) hok).1, (Input.okWide_of_okWideB hok).2, hrow, by
  simp only [Assume.holds]
  exact ⟨by simp, by simp, fun _ => Modest.zero, by simp, by simp⟩⟩
end Go.Proofs.YtnkdedejfonbmaaGreatDoor
namespace Go.Proofs.YtnkdedejfonbmaaGreatDoor
open Go.RowKit Shp
theorem Z26 (l : List (List UInt8)) : (strs l).length = l.length := by simp [strs]
theorem Strs.cell7 {w : World} {B : Nat} {A : Option Addr} {l : List (List UInt8)} (h : Strs w B A (strs l)) : l.length = 0 \/ ∃ g off, A = some ⟨g, off, none⟩ /\ g < B /\ ∀ i (hi : i < l.length), w.cell? ⟨g, off + i, none⟩ = some (.string ⟨(l[i]'hi).toArray⟩) := by
 rcases h with h | ⟨g, off, hA, hg, hc⟩
 {exact Or.inl (by rwa [Z26] at h)}
 {refine Or.inr ⟨g, off, hA, hg, fun i hi => ?_⟩
  rw [hc i (by rwa [Z26])]
  simp [strs]}
theorem Z0o {l : List UInt8} {b : Bool} (h : (l == []) = b) : l.isEmpty = b := by cases l <;> simp_all
theorem Z0z {l : List (List UInt8)} : ((l.length : Int) == 0) = decide (l.length = 0) := by rw [Bool.eq_iff_iff]; simp
def Z4d (w : World) (P : Option Addr) (l : List Sh) : Prop :=
 ∃ (g off : Nat) (qs : Nat -> Ptr), l.length = 0 \/ P = some ⟨g, off, none⟩ /\ g < w.heap.size /\ (∀ i (h : i < l.length), Sh5 w g (off + i * 5) (l[i]'h) (qs i)) /\ ∀ i (h : i < l.length), ShAt w w.heap.size (qs i) (l[i]'h)
theorem Z4d.next {w w' : World} {P : Option Addr} {l : List Sh} (h : Z4d w P l) (hb : Below w.heap.size w w') : Z4d w' P l := by
 obtain ⟨g, off, qs, h⟩ := h
 rcases h with h | ⟨h1, h2, h3, h4⟩
 {exact ⟨g, off, qs, Or.inl h⟩}
 {exact ⟨g, off, qs, Or.inr ⟨h1, Nat.lt_of_lt_of_le h2 hb.size, fun i hi => (h3 i hi).keep h2 hb, fun i hi => (h4 i hi).next hb⟩⟩}
theorem ShAt.lies {w : World} {q : Ptr} {t : Sh} (h : ShAt w w.heap.size q t) : Z4d w q.P t.parts := by
 rcases h.part with h0 | ⟨g, off, qs, h1, h2, h3, h4⟩
 {exact ⟨0, 0, fun _ => q, Or.inl h0⟩}
 {exact ⟨g, off, qs, Or.inr ⟨h1, h2, h3, h4⟩⟩}
end Go.Proofs.YtnkdedejfonbmaaGreatDoor
namespace Go.Proofs.YtnkdedejfonbmaaGreatDoor
open Go.RowKit
def wordsC : Array Value := #[.string ⟨#[]⟩, .string ⟨#[73, 110, 116]⟩, .string ⟨#[66, 111, 111, 108]⟩, .string ⟨#[84, 101, 120, 116]⟩, .string ⟨#[65, 110, 121]⟩]
theorem Z5W : Tryz.prog.globalNamed "pandect/shape.words" = some 0 := by kernel_rfl
def WGlobs (w : World) : Prop := w.var? Tryz.prog "pandect/shape.words" = some wordsC
theorem WGlobs.cell {w : World} (h : WGlobs w) (i : Nat) : w.cell? ⟨0, i, none⟩ = wordsC[i]? := World.var?_cell Z5W h i
theorem WGlobs.lt {w : World} (h : WGlobs w) : 0 < w.heap.size := lt_of_cell ((WGlobs.cell h 0).trans (by rfl : wordsC[0]? = some (.string ⟨#[]⟩)))
theorem WGlobs.next {w w' : World} (h : WGlobs w) (hb : Below w.heap.size w w') : WGlobs w' := var?_below hb Z5W (WGlobs.lt h) h
theorem Z4q {P : Program} {w : World} : ∀ {l : List (String × DataW Unit)} {ps : List MemPlace}, DataW.LaidVars P w l ps -> ∀ x ∈ l,
 ∃ g t cs fuel p, P.globalNamed x.1 = some g /\ (P.globals[g]?).map (·.type) = some t /\ w.var? P x.1 = some cs /\ DataW.trod (fun _ => ()) P w 0 (fun _ => true) false fuel t cs.toList = some (x.2, p)
 | [], _, _, x, hx => by simp at hx
 | (n, d) :: r, ps, h, x, hx => by
  obtain ⟨g, t, cs, fuel, p, q, h1, h2, h3, h4, h5, _⟩ := h
  rcases List.mem_cons.1 hx with rfl | hx
  {exact ⟨g, t, cs, fuel, p, h1, h2, h3, h4⟩}
  {exact Z4q h5 x hx}
theorem Z2M {L : List (String × DataW Unit)} {W : World} (h : laidMet Tryz.prog L W) (m4 : ("pandect/shape.words", Rows.laid_pandect_shape_words) ∈ L) : WGlobs W := by
 unfold WGlobs
 obtain ⟨ps, hv, _, _⟩ := h
 obtain ⟨g1, t1, cs, f1, p1, a1, b1, c1, d1⟩ := Z4q hv _ m4
 obtain rfl := Option.some.inj (Z5W.symm.trans a1)
 have ht : (Tryz.prog.globals[0]?).map (·.type) = some 159 := by kernel_rfl
 obtain rfl := Option.some.inj (ht.symm.trans b1)
 rw [c1]
 congr 1
 have hc1 : Tryz.prog.cellsOf 9 = 1 := by kernel_rfl
 obtain ⟨xs, m, _, hx, hsz, hl, he⟩ := DataW.trod_array Tryz.underlying159 d1
 rw [hc1] at he
 have hc6 : Tryz.prog.cellsOf 159 = 5 := by kernel_rfl
 rw [hc6] at hsz
 have hx1 := (Prod.mk.inj hx).1
 apply Array.ext'
 match xs, hl, hx1 with
 | [y0, y1, y2, y3, y4], _, hx1 =>
  obtain ⟨L, hL⟩ : ∃ L, L = cs.toList := ⟨_, rfl⟩
  rw [<- hL] at hsz he ⊢
  clear hL
  match L, hsz with
  | [k0, k1, k2, k3, k4], _ =>
   have e0 := he 0 (by omega)
   have e1 := he 1 (by omega)
   have e2 := he 2 (by omega)
   have e3 := he 3 (by omega)
   have e4 := he 4 (by omega)
   simp only [List.getElem?_cons_zero, List.getElem?_cons_succ, Nat.mul_one, List.drop_zero, List.drop_succ_cons, List.take_succ_cons, List.take_zero] at e0 e1 e2 e3 e4
   obtain ⟨x0, h0, rfl, _⟩ := DataW.trod_string Tryz.underlying9 e0
   obtain ⟨x1, h1, rfl, _⟩ := DataW.trod_string Tryz.underlying9 e1
   obtain ⟨x2, h2, rfl, _⟩ := DataW.trod_string Tryz.underlying9 e2
   obtain ⟨x3, h3, rfl, _⟩ := DataW.trod_string Tryz.underlying9 e3
   obtain ⟨x4, h4, rfl, _⟩ := DataW.trod_string Tryz.underlying9 e4
   simp at h0 h1 h2 h3 h4
   simp [Rows.laid_pandect_shape_words] at hx1
   obtain ⟨z0, z1, z2, z3, z4⟩ := hx1
   have key : ∀ (x : ByteArray) (l : List UInt8), l = x.data.toList -> x = ⟨l.toArray⟩ := fun x l h => by rw [h]
   rw [h0, h1, h2, h3, h4]
   have k0 := key x0 [] (by simp [z0])
   have k1 := key x1 [73, 110, 116] (by simp [<- z1])
   have k2 := key x2 [66, 111, 111, 108] (by simp [<- z2])
   have k3 := key x3 [84, 101, 120, 116] (by simp [<- z3])
   have k4 := key x4 [65, 110, 121] (by simp [<- z4])
   rw [k0, k1, k2, k3, k4]; rfl
end Go.Proofs.YtnkdedejfonbmaaGreatDoor
namespace Go.Proofs
open Go.Shelf
def Tryz.lays156_ren : Go.Shelf.Ren := ⟨fun | 156 => 79 | 165 => 106 | 166 => 74 | 169 => 77 | 240 => 101 | 241 => 130 | 276 => 127 | 277 => 149 | n => n, fun | 31 => 22 | 9 => 9 | 3 => 3 | 4 => 4 | 0 => 0 | 20 => 20 | 72 => 91 | 76 => 94 | 70 => 88 | 37 => 89 | 75 => 93 | 127 => 135 | 164 => 153 | 5 => 5 | 80 => 100 | n => n, fun | n => n⟩
theorem Tryz.lays156 : Go.Proofs.Lays.n156 Tryz.prog Tryz.lays156_ren := {
 mixed := by kernel_rfl
 f156 := Tryz.func79.trans (congrArg some (by kernel_rfl))
 f165 := Tryz.func106.trans (congrArg some (by kernel_rfl))
 f166 := Tryz.func74.trans (congrArg some (by kernel_rfl))
 f169 := Tryz.func77.trans (congrArg some (by kernel_rfl))
 f240 := Tryz.func101.trans (congrArg some (by kernel_rfl))
 f241 := Tryz.func130.trans (congrArg some (by kernel_rfl))
 f276 := Tryz.func127.trans (congrArg some (by kernel_rfl))
 f277 := Tryz.func149.trans (congrArg some (by kernel_rfl))
 t0 := Tryz.underlying0
 a0 := Tryz.isAgg0
 z0 := Tryz.sizeOf0
 v0 := Tryz.zeroValue0
 t3 := Tryz.underlying3
 a3 := Tryz.isAgg3
 z3 := Tryz.sizeOf3
 v3 := Tryz.zeroValue3
 t4 := Tryz.underlying4
 a4 := Tryz.isAgg4
 z4 := Tryz.sizeOf4
 v4 := Tryz.zeroValue4
 t9 := Tryz.underlying9
 a9 := Tryz.isAgg9
 z9 := Tryz.sizeOf9
 v9 := Tryz.zeroValue9
 t20 := Tryz.underlying20
 a20 := Tryz.isAgg20
 z20 := Tryz.sizeOf20
 v20 := Tryz.zeroValue20
 t31 := Tryz.underlying22
 a31 := Tryz.isAgg22
 z31 := Tryz.sizeOf22
 v31 := Tryz.zeroValue22
 t37 := Tryz.underlying89
 a37 := Tryz.isAgg89
 z37 := Tryz.sizeOf89
 v37 := Tryz.zeroValue89
 t70 := Tryz.underlying88
 a70 := Tryz.isAgg88
 z70 := Tryz.sizeOf88
 v70 := Tryz.zeroValue88
 t72 := Tryz.underlying91
 a72 := Tryz.isAgg91
 z72 := Tryz.sizeOf91
 v72 := Tryz.zeroValue91
 t75 := Tryz.underlying93
 a75 := Tryz.isAgg93
 z75 := Tryz.sizeOf93
 v75 := Tryz.zeroValue93
 t76 := Tryz.underlying94
 a76 := Tryz.isAgg94
 z76 := Tryz.sizeOf94
 v76 := Tryz.zeroValue94
 t127 := Tryz.underlying135
 a127 := Tryz.isAgg135
 z127 := Tryz.sizeOf135
 v127 := Tryz.zeroValue135
 t164 := Tryz.underlying153
 a164 := Tryz.isAgg153
 z164 := Tryz.sizeOf153
 v164 := Tryz.zeroValue153 }
theorem Tryz.extra156 : Builder.Extra Tryz.prog Tryz.lays156_ren := {
 sizeBuilder := by kernel_rfl
 liesBuilder := by kernel_rfl
 t5 := Tryz.underlying5
 a5 := Tryz.isAgg5
 z5 := Tryz.sizeOf5
 v5 := Tryz.zeroValue5
 infoByte := by kernel_rfl
 cellsByte := by kernel_rfl
 sizeByte := by kernel_rfl
 neB5 := by decide }
end Go.Proofs
namespace Go.Proofs.YtnkdedejfonbmaaGreatDoor
open Go.RowKit
theorem Z7q (bk o c : Nat) (xs : List ByteArray) (sep : ByteArray) (w : World)
 (hcells : ∀ (j : Nat) x, xs[j]? = some x -> w.cell? ⟨bk, o + j, none⟩ = some (.string x))
 (hbk : bk < w.heap.size) (hN : xs.length <= 140737488355328) (hcap : xs.length <= c)
 (hlen : (Lib.join (xs.map (·.data.toList)) sep.data.toList).length <= 140737488355328) :
 Calls Tryz.prog 79 #[.slice (some ⟨bk, o, none⟩) xs.length c, .string sep] w fun e w' => e = .returned (.string ⟨(Lib.join (xs.map (·.data.toList)) sep.data.toList).toArray⟩) /\ Below w.heap.size w w' :=
 Any.strings_Join Tryz.lays156 Tryz.extra156 bk o c xs sep w hcells hbk hN hcap hlen
end Go.Proofs.YtnkdedejfonbmaaGreatDoor
namespace Go.Proofs.YtnkdedejfonbmaaGreatDoor
open Go.RowKit Shp
theorem cat7 (a b : List UInt8) : (⟨a.toArray⟩ : ByteArray) ++ ⟨b.toArray⟩ = ⟨(a ++ b).toArray⟩ := by apply ByteArray.ext; simp [ByteArray.data_append]
theorem Z0h {a : ByteArray} {l : List UInt8} (h : a = ⟨l.toArray⟩) : Ending.returned (.string a) = .returned (.string ⟨l.toArray⟩) := by rw [h]
theorem Z4J : (Tryz.prog.info? 9).map (fun i => (i.zero, i.size, i.bytes)) = some (some (.string ByteArray.empty), 1, 16) := by kernel_rfl
theorem Z6e (n : Nat) (hn : n <= 1000000) (W : World) :
 (Instr.makeSlice 22 (.int .i64 (n : Int)) (.int .i64 (n : Int))).run Tryz.prog W = .ok (.slice (some ⟨W.heap.size, 0, none⟩) n n) (W.alloc (.cells (madeCells #[.string ⟨#[]⟩] n) 9)) :=
 run_make_row' (P := Tryz.prog) 22 9 (.string ByteArray.empty) 16 Tryz.underlying22 Z4J rfl .i64 .i64 n (by omega) (by omega) W
structure TxR (W : World) (g : Nat) (ts : List (List UInt8)) : Prop where
 lt : g < W.heap.size
 at_ : ∀ j (h : j < ts.length), W.cell? ⟨g, j, none⟩ = some (.string ⟨(ts[j]'h).toArray⟩)
 fz : ∀ o, W.frozen? ⟨g, o, none⟩ = false
theorem TxR.keep {W W' : World} {g B : Nat} {ts : List (List UInt8)} (h : TxR W g ts) (hg : g < B) (hb : Below B W W') : TxR W' g ts :=
 ⟨Nat.lt_of_lt_of_le h.lt hb.size, fun j hj => (hb.cell (p := ⟨g, j, none⟩) hg).trans (h.at_ j hj), fun o => (hb.frozen (p := ⟨g, o, none⟩) hg).trans (h.fz o)⟩
theorem TxR.next {W W' : World} {g : Nat} {ts : List (List UInt8)} (h : TxR W g ts) (hb : Below W.heap.size W W') : TxR W' g ts := h.keep h.lt hb
theorem Z3T (W : World) (n : Nat) : TxR (W.alloc (.cells (madeCells #[.string ⟨#[]⟩] n) 9)) W.heap.size (List.replicate n []) := by
 refine ⟨by simp, fun j hj => ?_, fun o => by simp [go_sem]⟩
 have hj' : j < n := by simpa using hj
 have : (madeCells #[.string ⟨#[]⟩] n)[j]? = some (.string ⟨#[]⟩) := by simp [madeCells, hj', Nat.mod_one]
 simp [go_sem, this]
theorem TxR.set {W : World} {g i : Nat} {ts : List (List UInt8)} (h : TxR W g ts) (hi : i < ts.length) (u : List UInt8) : TxR (W.setCell ⟨g, i, none⟩ (.string ⟨u.toArray⟩)) g (ts.set i u) := by
 refine ⟨by simpa [World.setCell] using h.lt, fun j hj => ?_, fun o => by simp [go_sem, h.fz]⟩
 have hj' : j < ts.length := by rwa [List.length_set] at hj
 by_cases hji : j = i
 {subst hji
  rw [World.cell?_setCell_same _ _ _ (h.at_ _ hj')]
  simp}
 {rw [World.cell?_setCell_other _ _ _ _ (fun e => hji (congrArg Addr.off e).symm), h.at_ j hj']
  rw [List.getElem_set_ne (Ne.symm hji)]}
theorem Z3g {A : List (List UInt8)} {n i : Nat} (hA : A.length = i) (h : i < n) (u : List UInt8) : (A ++ List.replicate (n - i) []).set i u = (A ++ [u]) ++ List.replicate (n - (i + 1)) [] := by
 obtain ⟨k, hk⟩ : ∃ k, n - i = k + 1 := ⟨n - i - 1, by omega⟩
 rw [hk, show n - (i + 1) = k from by omega, List.replicate_succ, List.set_append_right _ _ (by omega), hA, Nat.sub_self]
 simp
def mix7 (ns ts : List (List UInt8)) (i : Nat) : List (List UInt8) := (List.zipWith field ns ts).take i ++ ts.drop i
theorem ZfC {ns ts : List (List UInt8)} {i : Nat} (hl : ns.length = ts.length) (hi : i < ts.length) : (mix7 ns ts i).set i (field (ns[i]'(by omega)) (ts[i]'hi)) = mix7 ns ts (i + 1) := by
 have hz : (List.zipWith field ns ts).length = ts.length := by simp [hl]
 unfold mix7
 rw [List.set_append_right _ _ (by rw [List.length_take]; omega), List.length_take, Nat.min_eq_left (by omega), Nat.sub_self, List.drop_eq_getElem_cons hi, List.set_cons_zero, Z0C (by omega), List.append_assoc]
 simp
theorem ZgC {ns ts : List (List UInt8)} {i : Nat} (hl : ns.length = ts.length) (hi : i < ts.length) (h : i < (mix7 ns ts i).length) : (mix7 ns ts i)[i]'h = ts[i]'hi := by
 have hz : (List.zipWith field ns ts).length = ts.length := by simp [hl]
 have e : (mix7 ns ts i)[i]? = some (ts[i]'hi) := by
  unfold mix7
  rw [List.getElem?_append_right (by rw [List.length_take]; omega), List.length_take, Nat.min_eq_left (by omega), Nat.sub_self]
  simp [hi]
 exact (List.getElem?_eq_some_iff.1 e).2
theorem ZfD {ns ts : List (List UInt8)} {i : Nat} (hl : ns.length = ts.length) (hi : i <= ts.length) : (mix7 ns ts i).length = ts.length := by
 have hz : (List.zipWith field ns ts).length = ts.length := by simp [hl]
 unfold mix7
 rw [List.length_append, List.length_take, List.length_drop]; omega
theorem Z6f (t : Sh) (q : Ptr) (w : World) (hn : t.name.length <= 1000000) (ho : t.of_.length <= 1000000) :
 Y9 133 #[.agg (Y8 t q)] w (.string ⟨(named t).toArray⟩) := by
 have HF : Hid (named t = if t.of_ = [] then t.name else t.of_ ++ [47] ++ t.name) := Y1 rfl
 have hb0 := Z02 w (.cells (Y8 t q) 45)
 have HB0 := Y1 hb0
 clear hb0
 obtain ⟨_, ⟨c0, c1, c2, c3, c4⟩, _⟩ := Z0c w t q
 have z1 : (⟨t.of_.toArray⟩ : ByteArray).size = t.of_.length := Z04 _
 have z2 : (⟨t.name.toArray⟩ : ByteArray).size = t.name.length := Z04 _
 cases h1 : (t.of_ == [])
 {have hoe := Z0o h1
  have HG : Hid (named t = t.of_ ++ [47] ++ t.name) := Y1 (by rw [HF.out, if_neg (by simpa using h1)])
  clear h1
  go_enter Tryz.func133, Tryz.ntmps133
  go_wp2
  go_ret
  exact ⟨Z0h (by rw [HG.out, <- cat7, <- cat7]), HB0.out⟩}
 {have hoe := Z0o h1
  have HG : Hid (named t = t.name) := Y1 (by rw [HF.out, if_pos (by simpa using h1)])
  clear h1
  go_enter Tryz.func133, Tryz.ntmps133
  go_wp2
  go_ret
  exact ⟨Z0h (by rw [HG.out]), HB0.out⟩}
theorem Z6g (P : Option Addr) (d : Nat) (l : List Sh) (w : World) (hP : Z4d w P l) (hl : l.length <= 1000000) (hg : WGlobs w)
 (hf : ∀ x ∈ l, ∀ (q : Ptr) (w : World), ShAt w w.heap.size q x -> WGlobs w -> Y9 107 #[.agg (Y8 x q)] w (.string ⟨(text x).toArray⟩)) :
 Calls Tryz.prog 132 #[.slice P l.length d] w fun e w' => e = .returned (.slice (some ⟨w.heap.size, 0, none⟩) l.length l.length) /\ TxR w' w.heap.size (l.map text) /\ Below w.heap.size w w' := by
 have HP := Y1 hP
 have HF0 := Y1 hf
 have HG := Y1 hg
 have hmk := Z6e l.length hl w
 have hT0 := Z3T w l.length
 have hb0 := Z02 w (.cells (madeCells #[.string ⟨#[]⟩] l.length) 9)
 have HT0 := Y1 hT0
 have HB0 := Y1 hb0
 clear hP hf hg hT0 hb0
 go_enter Tryz.func132, Tryz.ntmps132
 go_wp2_with fail
 clear hmk
 generalize w.alloc (.cells (madeCells #[.string ⟨#[]⟩] l.length) 9) = W0 at HT0 HB0 ⊢
 go_loopw [11] (fun ii wr => ∃ i : Nat, ii = .int .i64 i /\ i <= l.length /\ Hid (TxR wr w.heap.size ((l.take i).map text ++ List.replicate (l.length - i) [])) /\ Hid (Below w.heap.size w wr)) (fun i _ => l.length - (intOf i).toNat)
 case atStart => exact ⟨0, rfl, Nat.zero_le _, HT0, HB0⟩
 case round =>
  obtain ⟨i, rfl, hi, HT, HB⟩ := hrel
  by_cases hlt : i < l.length
  {have hi1 : (i : Int) < (l.length : Int) := by omega
   obtain ⟨g, off, qs, hPP⟩ := HP.out.next HB.out
   rcases hPP with h0 | ⟨rfl, hg, hc, hr⟩
   {omega}
   {obtain ⟨x, hx⟩ : ∃ x, x = l[i]'hlt := ⟨_, rfl⟩
    obtain ⟨p0, p1, p2, p3, p4⟩ := hc i hlt
    have hat := hr i hlt
    have ihx := HF0.out l[i] (List.getElem_mem _)
    rw [<- hx] at p0 p1 p2 p3 p4 hat ihx
    have hb1 := Z02 wr (.cells (Y8 x (qs i)) 45)
    have IH := ihx (qs i) _ (hat.next hb1) ((HG.out.next HB.out).next hb1)
    have HB1 := Y1 hb1
    have HS : Hid (((l.take i).map text ++ List.replicate (l.length - i) []).set i (text x) = (l.take (i + 1)).map text ++ List.replicate (l.length - (i + 1)) []) := Y1 (by
     rw [Z3g (by simp; omega) hlt, Z0C hlt, <- hx]; simp)
    have hlen : i < ((l.take i).map text ++ List.replicate (l.length - i) []).length := by simp; omega
    generalize text x = tx at IH HS
    clear hx hc hr hat ihx hb1
    go_wp2_with fail
    refine IH.mono ?_
    rintro e w' ⟨rfl, hb'⟩
    have hT' := (HT.out.next HB1.out).next hb'
    have r0 := hT'.at_ i hlen
    have f0 := hT'.fz i
    have HT2 := Y1 (hT'.set hlen tx)
    have HBW : Hid (Below w.heap.size w w') := Y1 (Z00 (Z00 HB.out HB1.out) hb')
    clear hT' hb' IH
    go_wp2
    go_roundw
    case rel => exact ⟨i + 1, by go_num, by omega, by rw [<- HS.out]; exact HT2, Y1 (HBW.out.setCell (p := ⟨w.heap.size, i, none⟩) (Nat.le_refl _) _)⟩
    case measure => simp [intOf]; omega}}
  {have hi1 : ¬ (i : Int) < (l.length : Int) := by omega
   have HE : Hid ((l.take i).map text ++ List.replicate (l.length - i) [] = l.map text) := Y1 (by rw [show i = l.length from by omega, List.take_length]; simp)
   go_wp2
   go_ret
   exact ⟨rfl, by rw [<- HE.out]; exact HT.out, HB.out⟩}
theorem Z4K (t : Sh) (q : Ptr) (w : World) (hq : ShAt w w.heap.size q t) (hl : t.parts.length <= 1000000) (hg : WGlobs w) (hn : t.names.length = t.parts.length) (hns : ∀ x ∈ t.names, x.length <= 1000000) (hts : ∀ x ∈ t.parts.map text, x.length <= 1000000)
 (hf : ∀ x ∈ t.parts, ∀ (q : Ptr) (w : World), ShAt w w.heap.size q x -> WGlobs w -> Y9 107 #[.agg (Y8 x q)] w (.string ⟨(text x).toArray⟩)) :
 Calls Tryz.prog 131 #[.agg (Y8 t q)] w fun e w' => ∃ g, e = .returned (.slice (some ⟨g, 0, none⟩) t.parts.length t.parts.length) /\ TxR w' g (fields t.names (t.parts.map text)) /\ Below w.heap.size w w' := by
 have hb0 := Z02 w (.cells (Y8 t q) 45)
 have HB := Y1 (Z0c w t q)
 have HB0 := Y1 hb0
 have HQ := Y1 (hq.next hb0)
 have hw := Z6g q.P q.d t.parts _ ((hq.next hb0).lies) hl (hg.next hb0) hf
 have HW := Y1 hw
 have HNS := Y1 hns
 have HTS := Y1 hts
 have HN := Y1 hn
 have HMF : Hid (fields t.names (t.parts.map text) = mix7 t.names (t.parts.map text) t.parts.length) := Y1 (by
  unfold fields mix7
  by_cases hz : t.names = []
  {have h0 : t.parts = [] := List.eq_nil_of_length_eq_zero (by rw [<- hn, hz]; rfl)
   rw [if_pos hz, h0]; simp}
  · rw [if_neg hz, List.take_of_length_le (by simp [hn]), List.drop_of_length_le (by simp)]; simp)
 have hTL : (t.parts.map text).length = t.parts.length := List.length_map ..
 generalize t.parts.map text = ts at HMF HTS hTL HW ⊢
 have HTL := Y1 hTL
 obtain ⟨_, ⟨c0, c1, c2, c3, c4⟩, _⟩ := HB.out
 clear hb0 hq hg hf hw hns hts hn hTL
 go_enter Tryz.func131, Tryz.ntmps131
 go_wp2_with fail
 refine HW.out.mono ?_
 rintro e w1 ⟨rfl, hT, hb1⟩
 have HT1 := Y1 hT
 have HB1 := Y1 hb1
 have HQ1 := Y1 (HQ.out.next hb1)
 obtain ⟨_, ⟨d0, d1, d2, d3, d4⟩, _⟩ := HB.out.next hb1
 clear c0 c1 c2 c3 c4 HW hT hb1
 obtain ⟨G, hG⟩ : ∃ G, G = (w.alloc (.cells (Y8 t q) 45)).heap.size := ⟨_, rfl⟩
 have hGw : w.heap.size + 1 = G := by rw [hG, World.size_alloc]
 rw [World.size_alloc] at HT1 ⊢
 rw [hGw] at HT1 ⊢
 have HGW := Y1 hGw
 clear hG hGw
 go_wp2_with fail
 go_loopw [12] (fun ii wr => ∃ i : Nat, ii = .int .i64 i /\ i <= t.names.length /\ Hid (TxR wr G (mix7 t.names ts i)) /\ Hid (Below G w1 wr)) (fun i _ => t.names.length - (intOf i).toNat)
 case atStart => exact ⟨0, rfl, Nat.zero_le _, by unfold mix7; rw [List.take_zero, List.drop_zero, List.nil_append]; exact HT1, Y1 Y2⟩
 case round =>
  obtain ⟨i, rfl, hi, HT, HBB⟩ := hrel
  have HBW : Hid (Below w.heap.size w wr) := Y1 ((Z00 HB0.out HB1.out).trans (HBB.out.mono (by have := HGW.out; omega)))
  have hln := HQ.out.small.l
  by_cases hlt : i < t.names.length
  {have hi1 : (i : Int) < (t.names.length : Int) := by omega
   have hip : i < t.parts.length := by have := HN.out; omega
   have hi2 : (i : Int) < (t.parts.length : Int) := by omega
   have hit : i < ts.length := by have := HTL.out; omega
   rcases HQ.out.strs.cell7 with h0 | ⟨g, off, hqA, hgl, hc⟩
   {omega}
   {have hgG : g < G := by have := HGW.out; rw [World.size_alloc] at hgl; omega
    have hcell := (HBB.out.cell (p := ⟨g, off + i, none⟩) hgG).trans ((HB1.out.cell (p := ⟨g, off + i, none⟩) hgl).trans (hc i hlt))
    obtain ⟨x, hx⟩ : ∃ x, x = t.names[i]'hlt := ⟨_, rfl⟩
    rw [<- hx] at hcell
    have hxl : x.length <= 1000000 := by rw [hx]; exact HNS.out _ (List.getElem_mem _)
    obtain ⟨y, hy⟩ : ∃ y, y = ts[i]'hit := ⟨_, rfl⟩
    have hyl : y.length <= 1000000 := by rw [hy]; exact HTS.out _ (List.getElem_mem _)
    have hll : ts.length = t.names.length := by have := HTL.out; have := HN.out; omega
    have hmi : i < (mix7 t.names ts i).length := by rw [ZfD hll.symm (by omega)]; omega
    have r0 := HT.out.at_ i hmi
    rw [ZgC hll.symm hit, <- hy] at r0
    have f0 := HT.out.fz i
    have HT2 := Y1 (HT.out.set hmi (field x y))
    have HM : Hid ((mix7 t.names ts i).set i (field x y) = mix7 t.names ts (i + 1)) := Y1 (by rw [hx, hy]; exact ZfC hll.symm hit)
    have z1 : (⟨x.toArray⟩ : ByteArray).size = x.length := Z04 _
    have z2 : (⟨y.toArray⟩ : ByteArray).size = y.length := Z04 _
    have HCAT : Hid ((⟨x.toArray⟩ : ByteArray) ++ ⟨#[58, 32]⟩ ++ ⟨y.toArray⟩ = ⟨(field x y).toArray⟩) := Y1 (by unfold field; rw [<- cat7, <- cat7])
    clear hx hy hc hll hmi hip hit
    rw [hqA]
    clear hqA
    go_wp2
    go_roundw
    case rel => exact ⟨i + 1, by go_num, by omega, by rw [HCAT.out, <- HM.out]; exact HT2, Y1 (HBB.out.setCell (p := ⟨G, i, none⟩) (Nat.le_refl _) _)⟩
    case measure => simp [intOf]; omega}}
  {have hi1 : ¬ (i : Int) < (t.names.length : Int) := by omega
   have HE : Hid (mix7 t.names ts i = fields t.names ts) := Y1 (by rw [HMF.out, show i = t.parts.length from by have := HN.out; omega])
   go_wp2
   go_ret
   exact ⟨G, rfl, by rw [<- HE.out]; exact HT.out, HBW.out⟩}
def Wr7 (t : Sh) : Prop := ∀ x ∈ t.parts, ∀ (q : Ptr) (w : World), ShAt w w.heap.size q x -> WGlobs w -> Y9 107 #[.agg (Y8 x q)] w (.string ⟨(text x).toArray⟩)
theorem Z7r (ts : List (List UInt8)) : (ts.map (fun t => (⟨t.toArray⟩ : ByteArray))).map (·.data.toList) = ts := by
 rw [List.map_map]
 conv => rhs; rw [<- List.map_id ts]
 rfl
theorem Z4e (g : Nat) (ts : List (List UInt8)) (sep : List UInt8) (w : World) (h : TxR w g ts) (hl : ts.length <= 1000000) (hj : (join sep ts).length <= 1000000) :
 Y9 79 #[.slice (some ⟨g, 0, none⟩) ts.length ts.length, .string ⟨sep.toArray⟩] w (.string ⟨(join sep ts).toArray⟩) := by
 have hj' : (Lib.join ((ts.map (fun t => (⟨t.toArray⟩ : ByteArray))).map (·.data.toList)) (⟨sep.toArray⟩ : ByteArray).data.toList) = join sep ts := by rw [Z7r]; rfl
 have := Z7q g 0 ts.length (ts.map (fun t => (⟨t.toArray⟩ : ByteArray))) ⟨sep.toArray⟩ w (fun j x hx => by
  rw [List.getElem?_map] at hx
  have hj : j < ts.length := by
   rcases Nat.lt_or_ge j ts.length with h | h
   {exact h}
   {rw [List.getElem?_eq_none h] at hx; cases hx}
  rw [List.getElem?_eq_getElem hj] at hx
  rw [Nat.zero_add, h.at_ j hj]
  simpa using hx) h.lt (by simp; omega) (by simp) (by rw [hj']; omega)
 rwa [hj', List.length_map] at this
theorem ZdZ (t : Sh) (q : Ptr) (w : World) (hq : ShAt w w.heap.size q t) (hg : WGlobs w) (hr : right t = true) (hz : size t <= 400) (hf : Wr7 t) (hk : t.kind = 1) :
 Calls Tryz.prog 107 #[.agg #[.int .i64 t.kind, .string ⟨t.of_.toArray⟩, .string ⟨t.name.toArray⟩, .slice q.A t.names.length q.c, .slice q.P t.parts.length q.d]] w fun e w' => e = .returned (.string ⟨(text t).toArray⟩) /\ Below w.heap.size w w' := by
 have hb0 := Z02 w (.cells #[.int .i64 t.kind, .string ⟨t.of_.toArray⟩, .string ⟨t.name.toArray⟩, .slice q.A t.names.length q.c, .slice q.P t.parts.length q.d] 45)
 have HB := Y1 (Z0c w t q)
 have HB0 := Y1 hb0
 have HQ := Y1 hq
 obtain ⟨_, ⟨c0, c1, c2, c3, c4⟩, _⟩ := HB.out
 have k5 := Y3 5 hk rfl
 have k6 := Y3 6 hk rfl
 have k7 := Y3 7 hk rfl
 have k8 := Y3 8 hk rfl
 have k9 := Y3 9 hk rfl
 have k10 := Y3 10 hk rfl
 have HT := Y1 (Z5m hk)
 have gc : (w.alloc (.cells #[.int .i64 t.kind, .string ⟨t.of_.toArray⟩, .string ⟨t.name.toArray⟩, .slice q.A t.names.length q.c, .slice q.P t.parts.length q.d] 45)).cell? ⟨0, 1, none⟩ = some (.string ⟨#[73, 110, 116]⟩) := (WGlobs.cell (hg.next hb0) 1).trans rfl
 have HB1 := HB0.out
 rw [hk] at c0 gc HB1
 have HB2 := Y1 HB1
 clear hb0 hq hg hr hz hf HB1 c1 c2 c3 c4
 go_enter Tryz.func107, Tryz.ntmps107
 go_wp2
 go_ret
 exact ⟨by rw [HT.out]; rfl, HB2.out⟩
theorem Ze0 (t : Sh) (q : Ptr) (w : World) (hq : ShAt w w.heap.size q t) (hg : WGlobs w) (hr : right t = true) (hz : size t <= 400) (hf : Wr7 t) (hk : t.kind = 2) :
 Calls Tryz.prog 107 #[.agg #[.int .i64 t.kind, .string ⟨t.of_.toArray⟩, .string ⟨t.name.toArray⟩, .slice q.A t.names.length q.c, .slice q.P t.parts.length q.d]] w fun e w' => e = .returned (.string ⟨(text t).toArray⟩) /\ Below w.heap.size w w' := by
 have hb0 := Z02 w (.cells #[.int .i64 t.kind, .string ⟨t.of_.toArray⟩, .string ⟨t.name.toArray⟩, .slice q.A t.names.length q.c, .slice q.P t.parts.length q.d] 45)
 have HB := Y1 (Z0c w t q)
 have HB0 := Y1 hb0
 have HQ := Y1 hq
 obtain ⟨_, ⟨c0, c1, c2, c3, c4⟩, _⟩ := HB.out
 have k5 := Y3 5 hk rfl
 have k6 := Y3 6 hk rfl
 have k7 := Y3 7 hk rfl
 have k8 := Y3 8 hk rfl
 have k9 := Y3 9 hk rfl
 have k10 := Y3 10 hk rfl
 have HT := Y1 (Z5n hk)
 have gc : (w.alloc (.cells #[.int .i64 t.kind, .string ⟨t.of_.toArray⟩, .string ⟨t.name.toArray⟩, .slice q.A t.names.length q.c, .slice q.P t.parts.length q.d] 45)).cell? ⟨0, 2, none⟩ = some (.string ⟨#[66, 111, 111, 108]⟩) := (WGlobs.cell (hg.next hb0) 2).trans rfl
 have HB1 := HB0.out
 rw [hk] at c0 gc HB1
 have HB2 := Y1 HB1
 clear hb0 hq hg hr hz hf HB1 c1 c2 c3 c4
 go_enter Tryz.func107, Tryz.ntmps107
 go_wp2
 go_ret
 exact ⟨by rw [HT.out]; rfl, HB2.out⟩
theorem Ze1 (t : Sh) (q : Ptr) (w : World) (hq : ShAt w w.heap.size q t) (hg : WGlobs w) (hr : right t = true) (hz : size t <= 400) (hf : Wr7 t) (hk : t.kind = 3) :
 Calls Tryz.prog 107 #[.agg #[.int .i64 t.kind, .string ⟨t.of_.toArray⟩, .string ⟨t.name.toArray⟩, .slice q.A t.names.length q.c, .slice q.P t.parts.length q.d]] w fun e w' => e = .returned (.string ⟨(text t).toArray⟩) /\ Below w.heap.size w w' := by
 have hb0 := Z02 w (.cells #[.int .i64 t.kind, .string ⟨t.of_.toArray⟩, .string ⟨t.name.toArray⟩, .slice q.A t.names.length q.c, .slice q.P t.parts.length q.d] 45)
 have HB := Y1 (Z0c w t q)
 have HB0 := Y1 hb0
 have HQ := Y1 hq
 obtain ⟨_, ⟨c0, c1, c2, c3, c4⟩, _⟩ := HB.out
 have k5 := Y3 5 hk rfl
 have k6 := Y3 6 hk rfl
 have k7 := Y3 7 hk rfl
 have k8 := Y3 8 hk rfl
 have k9 := Y3 9 hk rfl
 have k10 := Y3 10 hk rfl
 have HT := Y1 (Z5o hk)
 have gc : (w.alloc (.cells #[.int .i64 t.kind, .string ⟨t.of_.toArray⟩, .string ⟨t.name.toArray⟩, .slice q.A t.names.length q.c, .slice q.P t.parts.length q.d] 45)).cell? ⟨0, 3, none⟩ = some (.string ⟨#[84, 101, 120, 116]⟩) := (WGlobs.cell (hg.next hb0) 3).trans rfl
 have HB1 := HB0.out
 rw [hk] at c0 gc HB1
 have HB2 := Y1 HB1
 clear hb0 hq hg hr hz hf HB1 c1 c2 c3 c4
 go_enter Tryz.func107, Tryz.ntmps107
 go_wp2
 go_ret
 exact ⟨by rw [HT.out]; rfl, HB2.out⟩
theorem Ze2 (t : Sh) (q : Ptr) (w : World) (hq : ShAt w w.heap.size q t) (hg : WGlobs w) (hr : right t = true) (hz : size t <= 400) (hf : Wr7 t) (hk : t.kind = 4) :
 Calls Tryz.prog 107 #[.agg #[.int .i64 t.kind, .string ⟨t.of_.toArray⟩, .string ⟨t.name.toArray⟩, .slice q.A t.names.length q.c, .slice q.P t.parts.length q.d]] w fun e w' => e = .returned (.string ⟨(text t).toArray⟩) /\ Below w.heap.size w w' := by
 have hb0 := Z02 w (.cells #[.int .i64 t.kind, .string ⟨t.of_.toArray⟩, .string ⟨t.name.toArray⟩, .slice q.A t.names.length q.c, .slice q.P t.parts.length q.d] 45)
 have HB := Y1 (Z0c w t q)
 have HB0 := Y1 hb0
 have HQ := Y1 hq
 obtain ⟨_, ⟨c0, c1, c2, c3, c4⟩, _⟩ := HB.out
 have k5 := Y3 5 hk rfl
 have k6 := Y3 6 hk rfl
 have k7 := Y3 7 hk rfl
 have k8 := Y3 8 hk rfl
 have k9 := Y3 9 hk rfl
 have k10 := Y3 10 hk rfl
 have HT := Y1 (Z5p hk)
 have gc : (w.alloc (.cells #[.int .i64 t.kind, .string ⟨t.of_.toArray⟩, .string ⟨t.name.toArray⟩, .slice q.A t.names.length q.c, .slice q.P t.parts.length q.d] 45)).cell? ⟨0, 4, none⟩ = some (.string ⟨#[65, 110, 121]⟩) := (WGlobs.cell (hg.next hb0) 4).trans rfl
 have HB1 := HB0.out
 rw [hk] at c0 gc HB1
 have HB2 := Y1 HB1
 clear hb0 hq hg hr hz hf HB1 c1 c2 c3 c4
 go_enter Tryz.func107, Tryz.ntmps107
 go_wp2
 go_ret
 exact ⟨by rw [HT.out]; rfl, HB2.out⟩
theorem Ze3 (t : Sh) (q : Ptr) (w : World) (hq : ShAt w w.heap.size q t) (hg : WGlobs w) (hr : right t = true) (hz : size t <= 400) (hf : Wr7 t) (hk : t.kind = 5) :
 Y9 107 #[.agg (Y8 t q)] w (.string ⟨(text t).toArray⟩) := by
 have hb0 := Z02 w (.cells (Y8 t q) 45)
 have HB := Y1 (Z0c w t q)
 have HB0 := Y1 hb0
 have HQ := Y1 hq
 obtain ⟨_, ⟨c0, c1, c2, c3, c4⟩, _⟩ := HB.out
 have k5 := Y4 5 hk rfl
 have k6 := Y3 6 hk rfl
 have k7 := Y3 7 hk rfl
 have k8 := Y3 8 hk rfl
 have k9 := Y3 9 hk rfl
 have k10 := Y3 10 hk rfl
 have HT := Y1 (Z5q hk)
 have h1 : t.parts.length = 1 := by
  rcases Z1d (right_fits hr) with ⟨_, h, _⟩ | ⟨_, _, h⟩ | ⟨h, _⟩ | ⟨h, _⟩ | ⟨h, _⟩
  {omega}
  {exact h}
  {omega}
  {omega}
  {omega}
 obtain ⟨g, off, qs, hP⟩ := (hq.next hb0).lies
 rcases hP with h0 | ⟨hqP, hgl, hc, hrr⟩
 {omega}
 {obtain ⟨x, hx⟩ : ∃ x, x = t.parts[0]'(by omega) := ⟨_, rfl⟩
  obtain ⟨p0, p1, p2, p3, p4⟩ := hc 0 (by omega)
  have hat := hrr 0 (by omega)
  have hfx := hf t.parts[0] (List.getElem_mem _)
  have hxs : (text x).length <= 40000 := by
   have hm : x ∈ t.parts := by rw [hx]; exact List.getElem_mem _
   refine Z1H (right_part hr hm) ?_
   have := sizes_mem hm
   rw [size_eq] at hz; omega
  have HX : Hid ((t.parts.map text).headD [] = text x) := Y1 (by
   rw [hx, List.headD_eq_head?_getD, List.head?_eq_getElem?, List.getElem?_map, List.getElem?_eq_getElem (by omega)]; rfl)
  have hi2 : 0 < t.parts.length := by omega
  rw [<- hx] at p0 p1 p2 p3 p4 hat hfx
  simp only [Nat.zero_mul, Nat.add_zero] at p0 p1 p2 p3 p4
  have IH := hfx (qs 0) _ hat (hg.next hb0)
  have hi1 : (0 : Int) < (t.parts.length : Int) := by omega
  have z1 : (⟨(text x).toArray⟩ : ByteArray).size = (text x).length := Z04 _
  obtain ⟨tx, htx⟩ : ∃ tx, tx = text x := ⟨_, rfl⟩
  rw [<- htx] at HX IH hxs z1
  have HIH := Y1 IH
  have HQP := Y1 hqP
  clear hb0 hq hg hr hz hf hx hc hrr hat hfx h1 hk htx IH hqP
  go_enter Tryz.func107, Tryz.ntmps107
  go_upto_region 1 with fail
  generalize w.alloc (.cells (Y8 t q) 45) = W0 at HB HB0 c0 c1 c2 c3 c4 p0 p1 p2 p3 p4 HIH ⊢
  rw [HQP.out] at c4
  go_wp2_with fail
  refine HIH.out.mono ?_
  rintro e w' ⟨rfl, hb'⟩
  go_wp2
  go_ret
  exact ⟨Z0h (by rw [HT.out, HX.out, <- cat7, <- cat7]), Z00 HB0.out hb'⟩}
theorem Ze4 (t : Sh) (q : Ptr) (w : World) (hq : ShAt w w.heap.size q t) (hg : WGlobs w) (hr : right t = true) (hz : size t <= 400) (hf : Wr7 t) (hk : t.kind = 6) :
 Y9 107 #[.agg (Y8 t q)] w (.string ⟨(text t).toArray⟩) := by
 have hb0 := Z02 w (.cells (Y8 t q) 45)
 have HB := Y1 (Z0c w t q)
 have HB0 := Y1 hb0
 have HQ := Y1 hq
 obtain ⟨_, ⟨c0, c1, c2, c3, c4⟩, _⟩ := HB.out
 have k5 := Y3 5 hk rfl
 have k6 := Y4 6 hk rfl
 have k7 := Y3 7 hk rfl
 have k8 := Y3 8 hk rfl
 have k9 := Y3 9 hk rfl
 have k10 := Y3 10 hk rfl
 have HT := Y1 (Z5r hk)
 obtain ⟨hn, ha⟩ : t.names.length = t.parts.length /\ areNames t.names = true := by
  rcases Z1d (right_fits hr) with ⟨_, h, _⟩ | ⟨h, _⟩ | ⟨_, h1, h2⟩ | ⟨h, _⟩ | ⟨h, _⟩
  {omega}
  {omega}
  {exact ⟨h1, h2⟩}
  {omega}
  {omega}
 have hlp : t.parts.length <= 400 := by have := length_sizes t.parts; rw [size_eq] at hz; omega
 have htx : ∀ x ∈ t.parts.map text, x.length <= 1000000 := fun x hx => by
  obtain ⟨p, hp, rfl⟩ := List.mem_map.1 hx
  have := Z1H (right_part hr hp) (by have := sizes_mem hp; rw [size_eq] at hz; omega)
  omega
 obtain ⟨hft, hfl⟩ := Z3f hn ha
 have htt := Z2D (l := t.parts) (fun p hp => text_len (right_part hr hp))
 have hjl : (join [44, 32] (fields t.names (t.parts.map text))).length <= 1000000 := by
  have := join_len [44, 32] (fields t.names (t.parts.map text))
  have : sizes t.parts <= 400 := by rw [size_eq] at hz; omega
  simp only [List.length_cons, List.length_nil] at *
  omega
 have hw := Z4K t q _ (hq.next hb0) (by omega) (hg.next hb0) hn (fun x hx => by have := Z3e ha x hx; omega) htx hf
 have hJ := fun (g : Nat) (W : World) (h : TxR W g (fields t.names (t.parts.map text))) => Z4e g (fields t.names (t.parts.map text)) [44, 32] W h (by omega) hjl
 rw [hfl] at hJ
 obtain ⟨j, hj⟩ : ∃ j, j = join [44, 32] (fields t.names (t.parts.map text)) := ⟨_, rfl⟩
 rw [<- hj] at hJ HT hjl
 have HW := Y1 hw
 have HJ := Y1 hJ
 have z1 : (⟨j.toArray⟩ : ByteArray).size = j.length := Z04 _
 clear hb0 hq hg hr hz hf hn ha htx hft hfl htt hw hJ hj hk hlp
 go_enter Tryz.func107, Tryz.ntmps107
 go_wp2_with fail
 refine HW.out.mono ?_
 rintro e w1 ⟨g, rfl, hT, hb1⟩
 have hjw := HJ.out g w1 hT
 go_wp2_with fail
 refine hjw.mono ?_
 rintro e w2 ⟨rfl, hb2⟩
 have HBW : Hid (Below w.heap.size w w2) := Y1 (Z00 (Z00 HB0.out hb1) hb2)
 clear hjw hT hb1 hb2 c0 c1 c2 c3 c4 k5 k6 k7 k8 k9 k10
 go_wp2
 go_ret
 exact ⟨Z0h (by rw [HT.out, <- cat7, <- cat7]), HBW.out⟩
theorem Ze5 (t : Sh) (q : Ptr) (w : World) (hq : ShAt w w.heap.size q t) (hg : WGlobs w) (hr : right t = true) (hz : size t <= 400) (hf : Wr7 t) (hk : t.kind = 7) :
 Y9 107 #[.agg (Y8 t q)] w (.string ⟨(text t).toArray⟩) := by
 have hb0 := Z02 w (.cells (Y8 t q) 45)
 have HB := Y1 (Z0c w t q)
 have HB0 := Y1 hb0
 have HQ := Y1 hq
 obtain ⟨_, ⟨c0, c1, c2, c3, c4⟩, _⟩ := HB.out
 have k5 := Y3 5 hk rfl
 have k6 := Y3 6 hk rfl
 have k7 := Y4 7 hk rfl
 have k8 := Y3 8 hk rfl
 have k9 := Y3 9 hk rfl
 have k10 := Y3 10 hk rfl
 have HT := Y1 (Z5s hk)
 obtain ⟨hn, ha⟩ : t.names.length = t.parts.length /\ areNames t.names = true := by
  rcases Z1d (right_fits hr) with ⟨_, h, _⟩ | ⟨h, _⟩ | ⟨_, h1, h2⟩ | ⟨h, _⟩ | ⟨h, _⟩
  {omega}
  {omega}
  {exact ⟨h1, h2⟩}
  {omega}
  {omega}
 have hlp : t.parts.length <= 400 := by have := length_sizes t.parts; rw [size_eq] at hz; omega
 have htx : ∀ x ∈ t.parts.map text, x.length <= 1000000 := fun x hx => by
  obtain ⟨p, hp, rfl⟩ := List.mem_map.1 hx
  have := Z1H (right_part hr hp) (by have := sizes_mem hp; rw [size_eq] at hz; omega)
  omega
 obtain ⟨hft, hfl⟩ := Z3f hn ha
 have htt := Z2D (l := t.parts) (fun p hp => text_len (right_part hr hp))
 have hjl : (join [32, 124, 32] (fields t.names (t.parts.map text))).length <= 1000000 := by
  have := join_len [32, 124, 32] (fields t.names (t.parts.map text))
  have : sizes t.parts <= 400 := by rw [size_eq] at hz; omega
  simp only [List.length_cons, List.length_nil] at *
  omega
 have hw := Z4K t q _ (hq.next hb0) (by omega) (hg.next hb0) hn (fun x hx => by have := Z3e ha x hx; omega) htx hf
 have hJ := fun (g : Nat) (W : World) (h : TxR W g (fields t.names (t.parts.map text))) => Z4e g (fields t.names (t.parts.map text)) [32, 124, 32] W h (by omega) hjl
 rw [hfl] at hJ
 obtain ⟨j, hj⟩ : ∃ j, j = join [32, 124, 32] (fields t.names (t.parts.map text)) := ⟨_, rfl⟩
 rw [<- hj] at hJ HT hjl
 have HW := Y1 hw
 have HJ := Y1 hJ
 have z1 : (⟨j.toArray⟩ : ByteArray).size = j.length := Z04 _
 clear hb0 hq hg hr hz hf hn ha htx hft hfl htt hw hJ hj hk hlp
 go_enter Tryz.func107, Tryz.ntmps107
 go_wp2_with fail
 refine HW.out.mono ?_
 rintro e w1 ⟨g, rfl, hT, hb1⟩
 have hjw := HJ.out g w1 hT
 go_wp2_with fail
 refine hjw.mono ?_
 rintro e w2 ⟨rfl, hb2⟩
 have HBW : Hid (Below w.heap.size w w2) := Y1 (Z00 (Z00 HB0.out hb1) hb2)
 clear hjw hT hb1 hb2 c0 c1 c2 c3 c4 k5 k6 k7 k8 k9 k10
 go_wp2
 go_ret
 exact ⟨Z0h (by rw [HT.out, <- cat7, <- cat7]), HBW.out⟩
theorem Ze6 (t : Sh) (q : Ptr) (w : World) (hq : ShAt w w.heap.size q t) (hg : WGlobs w) (hr : right t = true) (hz : size t <= 400) (hf : Wr7 t) (hk : t.kind = 9) :
 Y9 107 #[.agg (Y8 t q)] w (.string ⟨(text t).toArray⟩) := by
 have hb0 := Z02 w (.cells (Y8 t q) 45)
 have HB := Y1 (Z0c w t q)
 have HB0 := Y1 hb0
 have HQ := Y1 hq
 obtain ⟨_, ⟨c0, c1, c2, c3, c4⟩, _⟩ := HB.out
 have k5 := Y3 5 hk rfl
 have k6 := Y3 6 hk rfl
 have k7 := Y3 7 hk rfl
 have k8 := Y3 8 hk rfl
 have k9 := Y4 9 hk rfl
 have k10 := Y3 10 hk rfl
 have HT := Y1 (Z3E (t := t) (by first | exact Or.inl hk | exact Or.inr hk))
 obtain ⟨hl, ho⟩ : t.name.length <= 24 /\ t.of_.length <= 24 := by
  rcases Z1d (right_fits hr) with ⟨_, h, _⟩ | ⟨h, _⟩ | ⟨h, _⟩ | ⟨h, _⟩ | ⟨_, _, _, h1, h2⟩
  {omega}
  {omega}
  {omega}
  {omega}
  {exact ⟨h1, h2⟩}
 have hw := Z6f t q (w.alloc (.cells (Y8 t q) 45)) (by omega) (by omega)
 clear hb0 hq hg hr hz hf hl ho hk
 go_enter Tryz.func107, Tryz.ntmps107
 go_wp2_with fail
 refine hw.mono ?_
 rintro e w' ⟨rfl, hb'⟩
 go_wp2
 go_ret
 exact ⟨Z0h (by rw [HT.out]), Z00 HB0.out hb'⟩
theorem Zc5 (t : Sh) (q : Ptr) (w : World) (hq : ShAt w w.heap.size q t) (hg : WGlobs w) (hr : right t = true) (hz : size t <= 400) (hf : Wr7 t) (hk : t.kind = 10) :
 Y9 107 #[.agg (Y8 t q)] w (.string ⟨(text t).toArray⟩) := by
 have hb0 := Z02 w (.cells (Y8 t q) 45)
 have HB := Y1 (Z0c w t q)
 have HB0 := Y1 hb0
 have HQ := Y1 hq
 obtain ⟨_, ⟨c0, c1, c2, c3, c4⟩, _⟩ := HB.out
 have k5 := Y3 5 hk rfl
 have k6 := Y3 6 hk rfl
 have k7 := Y3 7 hk rfl
 have k8 := Y3 8 hk rfl
 have k9 := Y3 9 hk rfl
 have k10 := Y4 10 hk rfl
 have HT := Y1 (Z3E (t := t) (by first | exact Or.inl hk | exact Or.inr hk))
 obtain ⟨hl, ho⟩ : t.name.length <= 24 /\ t.of_.length <= 24 := by
  rcases Z1d (right_fits hr) with ⟨_, h, _⟩ | ⟨h, _⟩ | ⟨h, _⟩ | ⟨h, _⟩ | ⟨_, _, _, h1, h2⟩
  {omega}
  {omega}
  {omega}
  {omega}
  {exact ⟨h1, h2⟩}
 have hw := Z6f t q (w.alloc (.cells (Y8 t q) 45)) (by omega) (by omega)
 clear hb0 hq hg hr hz hf hl ho hk
 go_enter Tryz.func107, Tryz.ntmps107
 go_wp2_with fail
 refine hw.mono ?_
 rintro e w' ⟨rfl, hb'⟩
 go_wp2
 go_ret
 exact ⟨Z0h (by rw [HT.out]), Z00 HB0.out hb'⟩
end Go.Proofs.YtnkdedejfonbmaaGreatDoor
namespace Go.Proofs.YtnkdedejfonbmaaGreatDoor
open Go.RowKit
def upd (u : Nat -> Value) (i : Nat) (v : Value) : Nat -> Value := fun j => cond (Nat.beq j i) v (u j)
theorem Z0G (u : Nat -> Value) (i : Nat) (v : Value) : upd u i v i = v := by simp [upd]
theorem Z0a (u : Nat -> Value) {i j : Nat} (v : Value) (h : j ≠ i) : upd u i v j = u j := by
 have : Nat.beq j i = false := by cases hb : Nat.beq j i <;> first | rfl | exact absurd (Nat.eq_of_beq_eq_true hb) h
 simp [upd, this]
structure Want where
 ok : Value -> World -> Prop
 keep : ∀ (v : Value) (w w' : World), Below w.heap.size w w' -> ok v w -> ok v w'
theorem Want.mono {T : Want} {v : Value} {w w' : World} (hb : Below w.heap.size w w') (h : T.ok v w) : T.ok v w' := T.keep v w w' hb h
def Want.val (c : Value) : Want := ⟨fun v _ => v = c, fun _ _ _ _ h => h⟩
def Want.any : Want := ⟨fun _ _ => True, fun _ _ _ _ h => h⟩
section
variable {P : Program} {ops : Array Oper} {Q : Exit -> Act -> World -> Prop}
def waits (o : Oper) (j : Nat) : Bool := o.after.any fun e => Region.binds .any e && e.on == j
def StepAt (P : Program) (ops : Array Oper) (Q : Exit -> Act -> World -> Prop) (A : (Nat -> Value) -> Act) (T : Nat -> Want) (J : World -> Prop) (i : Nat) : Prop :=
 ∀ o, ops[i]? = some o -> ∀ (u : Nat -> Value) (W : World), J W -> (∀ j, waits o j = true -> (T j).ok (u j) W) ->
  wpOp P ops Q i (fun a' w' => ∃ v, a' = A (upd u i v) /\ (T i).ok v w' /\ J w' /\ Below W.heap.size W w') (A u) W
def StepsAt (P : Program) (ops : Array Oper) (Q : Exit -> Act -> World -> Prop) (A : (Nat -> Value) -> Act) (T : Nat -> Want) (J : World -> Prop) (rs : List Nat) : Prop :=
 ∀ i ∈ rs, StepAt P ops Q A T J i
theorem StepsAt.nil {A : (Nat -> Value) -> Act} {T : Nat -> Want} {J : World -> Prop} : StepsAt P ops Q A T J [] := fun _ h => by cases h
theorem StepsAt.cons {A : (Nat -> Value) -> Act} {T : Nat -> Want} {J : World -> Prop} {i : Nat} {rs : List Nat} (o : Oper) (ho : ops[i]? = some o)
 (h : ∀ (u : Nat -> Value) (W : World) (K' : Act -> World -> Prop), J W -> (∀ j, waits o j = true -> (T j).ok (u j) W) ->
  Shut (∀ v w', (T i).ok v w' -> J w' -> Below W.heap.size W w' -> K' (A (upd u i v)) w') ->
  if Region.wanted o (yielded ops (A u).tmps) = true then Oper.wp P o (A u) W K' Q else K' ((A u).put o.dst undef) W)
 (hs : StepsAt P ops Q A T J rs) : StepsAt P ops Q A T J (i :: rs) := fun j hj => by
 rcases List.mem_cons.1 hj with rfl | hj
 {intro o' ho' u W hJ hd
  rw [ho] at ho'
  obtain rfl : o = o' := Option.some.inj ho'
  exact wpOp_step ho (fun K' hK => h u W K' hJ hd (fun v w' h1 h2 h3 => hK _ _ ⟨v, rfl, h1, h2, h3⟩))}
 {exact hs j hj}
def lowAfter (ops : Array Oper) : Bool := (List.range ops.size).all fun i => ((ops[i]?).map fun o => o.after.all fun e => !Region.binds .any e || decide (e.on < i)).getD true
theorem Z7T (h : lowAfter ops = true) {i : Nat} {o : Oper} (ho : ops[i]? = some o) : ∀ e ∈ o.after, Region.binds .any e = true -> e.on < i := by
 intro e he hb
 have hi : i < ops.size := by
  rcases Nat.lt_or_ge i ops.size with h | h
  {exact h}
  {rw [Array.getElem?_eq_none h] at ho; cases ho}
 have h1 := List.all_eq_true.1 h i (List.mem_range.2 hi)
 rw [ho] at h1
 simp only [Option.map_some, Option.getD_some] at h1
 have := Array.all_eq_true_iff_forall_mem.1 h1 e he
 rw [hb] at this
 simpa using this
theorem Z2W (hl : lowAfter ops = true) (listed : Array Bool) (hr : Region.ready .any ops listed = []) (hsz : listed.size = ops.size) :
 ∀ n j, j < n -> j < ops.size -> listed.getD j false = true := by
 intro n
 induction n with
 | zero => intro j hj; omega
 | succ n ih =>
  intro j hj hjs
  by_cases hjn : j < n
  {exact ih j hjn hjs}
  {cases hlj : listed.getD j false with
   | true => rfl
   | false =>
    have hmem : j ∈ Region.ready .any ops listed := by
     refine mem_ready.2 ⟨?_, ops[j]'hjs, by simp [hjs], fun e he hb => ?_⟩
     {have : j < listed.size := by omega
      simp [this] at hlj ⊢
      exact hlj}
     {have hlt := Z7T hl (show ops[j]? = some (ops[j]'hjs) by simp [hjs]) e he hb
      exact ih e.on (by omega) (by omega)}
    rw [hr] at hmem
    cases hmem}
theorem Z7s (l : List Bool) : ∀ (i : Nat), l[i]? = some false -> (l.set i true).count false + 1 = l.count false := by
 induction l with
 | nil => intro i h; simp at h
 | cons b l ih =>
  intro i h
  cases i with
  | zero =>
   simp at h
   subst h
   simp
  | succ i =>
   simp at h
   have := ih i h
   cases b <;> simp at this ⊢ <;> omega
theorem Z6h (l : List Bool) (h : l.count false = 0) (j : Nat) : l[j]? ≠ some false := by
 intro hj
 have := List.count_pos_iff.2 (List.mem_of_getElem? hj)
 omega
theorem Ze7 (A : (Nat -> Value) -> Act) (T : Nat -> Want) (J : World -> Prop) (hl : lowAfter ops = true)
 (hstep : StepsAt P ops Q A T J (List.range ops.size))
 (hdone : ∀ u W, J W -> (∀ j, j < ops.size -> (T j).ok (u j) W) -> Q .normal (A u) W) :
 ∀ (fuel : Nat) (listed : Array Bool) (u : Nat -> Value) (W : World), listed.size = ops.size -> listed.toList.count false <= fuel -> J W ->
  (∀ j, listed.getD j false = true -> (T j).ok (u j) W) -> wpAny P .any ops Q fuel listed (A u) W := by
 intro fuel
 induction fuel with
 | zero =>
  intro listed u W hsz hc hJ hd
  have hr : Region.ready .any ops listed = [] := by
   refine List.eq_nil_iff_forall_not_mem.2 fun j hj => ?_
   obtain ⟨h1, o, ho, _⟩ := mem_ready.1 hj
   have hjs : j < listed.size := by
    rw [hsz]
    rcases Nat.lt_or_ge j ops.size with h | h
    {exact h}
    {rw [Array.getElem?_eq_none h] at ho; cases ho}
   refine Z6h listed.toList (by omega) j ?_
   simp [hjs] at h1 ⊢
   exact h1
  exact ⟨hr, hdone u W hJ fun j hj => hd j (Z2W hl listed hr hsz (j + 1) j (by omega) hj)⟩
 | succ fuel ih =>
  intro listed u W hsz hc hJ hd
  refine ⟨fun hr => hdone u W hJ fun j hj => hd j (Z2W hl listed hr hsz (j + 1) j (by omega) hj), fun i hi => ?_⟩
  obtain ⟨h1, o, ho, hall⟩ := mem_ready.1 hi
  have his : i < ops.size := by
   rcases Nat.lt_or_ge i ops.size with h | h
   {exact h}
   {rw [Array.getElem?_eq_none h] at ho; cases ho}
  have hil : i < listed.size := by omega
  have hdep : ∀ j, waits o j = true -> (T j).ok (u j) W := fun j hj => by
   obtain ⟨e, he, hb⟩ := Array.any_eq_true'.1 hj
   simp only [Bool.and_eq_true, beq_iff_eq] at hb
   obtain ⟨hb, rfl⟩ := hb
   exact hd e.on (hall e he hb)
  refine wpOp_mono (fun a' w' h => ?_) (hstep i (List.mem_range.2 his) o ho u W hJ hdep)
  obtain ⟨v, rfl, hok, hJ', hb⟩ := h
  refine ih _ _ _ (by simpa using hsz) ?_ hJ' fun j hj => ?_
  {have h2 : listed.toList[i]? = some false := by simp [hil] at h1 ⊢; exact h1
   have := Z7s listed.toList i h2
   rw [Array.toList_setIfInBounds]
   omega}
  {by_cases hji : j = i
   {subst hji
    rw [Z0G]
    exact hok}
   {rw [Z0a u v hji]
    refine Want.mono hb (hd j ?_)
    rw [getD_set_ne false (Ne.symm hji)] at hj
    exact hj}}
theorem Z0p {id : Nat} {w : World} {rs : List Nat} (A : (Nat -> Value) -> Act) (u0 : Nat -> Value) (T : Nat -> Want) (J : World -> Prop) (hm : P.follows .mixedOrders = true) (hl : lowAfter ops = true)
 (hrs : List.range ops.size = rs) (hJ : J w.drew) (hstep : StepsAt P ops Q A T J rs)
 (hdone : ∀ u W, J W -> (∀ j, j < ops.size -> (T j).ok (u j) W) -> Q .normal (A u) W) :
 (Code.region id ops true).wp P Q (A u0) w := by
 subst hrs
 refine wp_region_any hm (Ze7 A T J hl hstep hdone _ _ _ _ (by simp) ?_ hJ fun j hj => ?_)
 {exact Nat.le_trans List.count_le_length (by simp)}
 {exfalso
  rcases Nat.lt_or_ge j ops.size with h | h
  {simp [h] at hj}
  {simp [h] at hj}}
theorem Z01 {o : Oper} {a : Act} {W W' : World} {K' : Act -> World -> Prop} {v : Value} {E : Prop} (hw : Region.wanted o (yielded ops a.tmps) = true)
 (hrun : (execOp a.eval o).run P W = .ok (.value v) W') (hK : K' (a.put o.dst v) W') :
 if Region.wanted o (yielded ops a.tmps) = true then Oper.wp P o a W K' Q else E := by
 rw [if_pos hw, Oper.wp, hrun, Oper.upon_value]
 exact hK
theorem Y0 {o : Oper} {a : Act} {W : World} {K' : Act -> World -> Prop} {F : Value -> Act} {T : Nat -> Want} {J : World -> Prop} {i : Nat} {E : Prop} {c : Value}
 (hK : Shut (∀ v w', (T i).ok v w' -> J w' -> Below W.heap.size W w' -> K' (F v) w')) (hJ : J W) (hT : T i = Want.val c) (hA : a.put o.dst c = F c)
 (hw : Region.wanted o (yielded ops a.tmps) = true) (hr : (execOp a.eval o).run P W = .ok (.value c) W) :
 if Region.wanted o (yielded ops a.tmps) = true then Oper.wp P o a W K' Q else E :=
 Z01 (v := c) (W' := W) hw hr (by rw [hA]; exact hK.out c W (by rw [hT]; rfl) hJ (Below.refl _ _))
theorem Z05 {o : Oper} {a : Act} {W W' : World} {K' : Act -> World -> Prop} {f : FuncId} {args : Array Value} {E : Prop} (hw : Region.wanted o (yielded ops a.tmps) = true)
 (hrun : (execOp a.eval o).run P W = .ok (.enter f args) W') (hc : Calls P f args W' fun e w' => ∃ v, e = .returned v /\ K' (a.put o.dst v) w') :
 if Region.wanted o (yielded ops a.tmps) = true then Oper.wp P o a W K' Q else E := by
 rw [if_pos hw, Oper.wp, hrun, Oper.upon_enter]
 refine hc.mono fun e w' h => ?_
 obtain ⟨v, rfl, h⟩ := h
 exact h
theorem Z0i {o : Oper} {a : Act} {W : World} {K' : Act -> World -> Prop} {E : Prop} (hw : Region.wanted o (yielded ops a.tmps) = false) (hE : E) :
 if Region.wanted o (yielded ops a.tmps) = true then Oper.wp P o a W K' Q else E := by
 rw [if_neg (by rw [hw]; simp)]
 exact hE
end
end Go.Proofs.YtnkdedejfonbmaaGreatDoor
