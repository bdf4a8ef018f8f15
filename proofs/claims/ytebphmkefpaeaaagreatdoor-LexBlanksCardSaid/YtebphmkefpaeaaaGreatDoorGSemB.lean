/- ShelfSem, SemCut, SemOwn1, SemOwn2, SemSeq, SemRange, SemCheckOwn, SemCheckOwn2, together. -/
import Derived.Shelf.Strings.Search3
import Derived.Shelf.Strings.Search2
import Derived.Shelf.Strconv.AtoiAll
import Derived.Shelf.Strconv.Itoa3
import Derived.Shelf.Strings.Trim
import Derived.Shelf.Strconv.Clone
import Derived.Shelf.Small.Strs
import Derived.Shelf.Small.Wraps
import Derived.Test.YtebphmkefpaeaaaGreatDoorProg
import Derived.Test.YtebphmkefpaeaaaGreatDoorGPure
import Derived.Test.YtebphmkefpaeaaaGreatDoorGSemA
import Derived.WalkKit
import Derived.Below
import Derived.Lib.Hide
import Derived.Lib.IndexBytes
import Derived.Lib.CutLaws
import Derived.Shelf.RegionOpenPlain
import Derived.IntWalk
import Derived.RangeFuncFrom
import Derived.RangeFuncCalls
import Derived.RangeFuncLeaves
import Derived.RangeFuncRecord
import Derived.Shelf.Abstract
import Derived.Shelf.RegionOpen
import Derived.OwnWalkIn
import Derived.TacticsInMore
import Derived.LoopNIn
import Derived.LoopIn
/- The library contracts that layer 4 uses (strings.Index at one byte, strings.Compare, strings.TrimLeft at one byte, strconv.Atoi, strconv.Itoa, strings.Clone, cmp.Compare), stated at this translation's numbers: each is one application of a contract of the library. -/
namespace Go.Proofs
open Go.Shelf
def Tryz.lays143_ren : Go.Shelf.Ren := ⟨fun | 143 => 106 | 219 => 85 | 217 => 73 | 225 => 89 | 224 => 90 | 267 => 91 | 266 => 84 | 314 => 98 | n => n, fun | 9 => 9 | 3 => 3 | 4 => 4 | 5 => 5 | 46 => 101 | 146 => 107 | 51 => 106 | n => n, fun | 1 => 0 | n => n⟩
theorem Tryz.lays143 : Go.Proofs.Lays.n143 Tryz.prog Tryz.lays143_ren := {
  mixed := by kernel_rfl
  f143 := Tryz.func106.trans (congrArg some (by kernel_rfl))
  f217 := Tryz.func73.trans (congrArg some (by kernel_rfl))
  f219 := Tryz.func85.trans (congrArg some (by kernel_rfl))
  f224 := Tryz.func90.trans (congrArg some (by kernel_rfl))
  f225 := Tryz.func89.trans (congrArg some (by kernel_rfl))
  f266 := Tryz.func84.trans (congrArg some (by kernel_rfl))
  f267 := Tryz.func91.trans (congrArg some (by kernel_rfl))
  f314 := Tryz.func98.trans (congrArg some (by kernel_rfl))
  t3 := Tryz.underlying3
  a3 := Tryz.isAgg3
  z3 := Tryz.sizeOf3
  v3 := Tryz.zeroValue3
  t4 := Tryz.underlying4
  a4 := Tryz.isAgg4
  z4 := Tryz.sizeOf4
  v4 := Tryz.zeroValue4
  t5 := Tryz.underlying5
  a5 := Tryz.isAgg5
  z5 := Tryz.sizeOf5
  v5 := Tryz.zeroValue5
  t9 := Tryz.underlying9
  a9 := Tryz.isAgg9
  z9 := Tryz.sizeOf9
  v9 := Tryz.zeroValue9
  t46 := Tryz.underlying101
  a46 := Tryz.isAgg101
  z46 := Tryz.sizeOf101
  v46 := Tryz.zeroValue101
  t51 := Tryz.underlying106
  a51 := Tryz.isAgg106
  z51 := Tryz.sizeOf106
  v51 := Tryz.zeroValue106
  t146 := Tryz.underlying107
  a146 := Tryz.isAgg107
  z146 := Tryz.sizeOf107
  v146 := Tryz.zeroValue107
  g1 := by kernel_rfl }
def Tryz.lays219_ren : Go.Shelf.Ren := ⟨fun | 219 => 85 | 217 => 73 | 225 => 89 | 224 => 90 | 267 => 91 | 266 => 84 | 314 => 98 | n => n, fun | 9 => 9 | 3 => 3 | 4 => 4 | 5 => 5 | 46 => 101 | 146 => 107 | 51 => 106 | n => n, fun | 1 => 0 | n => n⟩
theorem Tryz.lays219 : Go.Proofs.Lays.n219 Tryz.prog Tryz.lays219_ren := {
  mixed := by kernel_rfl
  f217 := Tryz.func73.trans (congrArg some (by kernel_rfl))
  f219 := Tryz.func85.trans (congrArg some (by kernel_rfl))
  f224 := Tryz.func90.trans (congrArg some (by kernel_rfl))
  f225 := Tryz.func89.trans (congrArg some (by kernel_rfl))
  f266 := Tryz.func84.trans (congrArg some (by kernel_rfl))
  f267 := Tryz.func91.trans (congrArg some (by kernel_rfl))
  f314 := Tryz.func98.trans (congrArg some (by kernel_rfl))
  t3 := Tryz.underlying3
  a3 := Tryz.isAgg3
  z3 := Tryz.sizeOf3
  v3 := Tryz.zeroValue3
  t4 := Tryz.underlying4
  a4 := Tryz.isAgg4
  z4 := Tryz.sizeOf4
  v4 := Tryz.zeroValue4
  t5 := Tryz.underlying5
  a5 := Tryz.isAgg5
  z5 := Tryz.sizeOf5
  v5 := Tryz.zeroValue5
  t9 := Tryz.underlying9
  a9 := Tryz.isAgg9
  z9 := Tryz.sizeOf9
  v9 := Tryz.zeroValue9
  t46 := Tryz.underlying101
  a46 := Tryz.isAgg101
  z46 := Tryz.sizeOf101
  v46 := Tryz.zeroValue101
  t51 := Tryz.underlying106
  a51 := Tryz.isAgg106
  z51 := Tryz.sizeOf106
  v51 := Tryz.zeroValue106
  t146 := Tryz.underlying107
  a146 := Tryz.isAgg107
  z146 := Tryz.sizeOf107
  v146 := Tryz.zeroValue107
  g1 := by kernel_rfl }
def Tryz.lays172_ren : Go.Shelf.Ren := ⟨fun | 172 => 96 | 244 => 100 | 245 => 101 | 247 => 107 | 279 => 108 | 280 => 109 | 281 => 110 | 282 => 111 | 287 => 118 | 316 => 81 | 171 => 103 | 205 => 119 | 321 => 126 | 322 => 127 | 243 => 114 | 246 => 124 | 283 => 129 | 284 => 130 | 285 => 131 | 286 => 132 | 129 => 134 | 317 => 133 | 318 => 135 | 319 => 136 | 320 => 137 | 337 => 138 | 338 => 139 | n => n, fun | 9 => 9 | 3 => 3 | 75 => 60 | 76 => 61 | 4 => 4 | 5 => 5 | 167 => 113 | 37 => 53 | 0 => 0 | 85 => 114 | 2 => 2 | 168 => 116 | 53 => 124 | 175 => 125 | 46 => 101 | 210 => 128 | 127 => 74 | 145 => 135 | 143 => 133 | 21 => 21 | 171 => 136 | 173 => 139 | 212 => 146 | 51 => 106 | 20 => 20 | 213 => 147 | 232 => 150 | 233 => 151 | 80 => 63 | n => n, fun | 15 => 1 | 16 => 2 | 17 => 5 | 18 => 6 | 19 => 7 | n => n⟩
theorem Tryz.lays172 : Go.Proofs.LaysC.n172 Tryz.prog Tryz.lays172_ren := {
  mixed := by kernel_rfl
  f129 := Tryz.func134.trans (congrArg some (by kernel_rfl))
  f171 := Tryz.func103.trans (congrArg some (by kernel_rfl))
  f172 := Tryz.func96.trans (congrArg some (by kernel_rfl))
  f205 := Tryz.func119.trans (congrArg some (by kernel_rfl))
  f243 := Tryz.func114.trans (congrArg some (by kernel_rfl))
  f244 := Tryz.func100.trans (congrArg some (by kernel_rfl))
  f245 := Tryz.func101.trans (congrArg some (by kernel_rfl))
  f246 := Tryz.func124.trans (congrArg some (by kernel_rfl))
  f247 := Tryz.func107.trans (congrArg some (by kernel_rfl))
  f279 := Tryz.func108.trans (congrArg some (by kernel_rfl))
  f280 := Tryz.func109.trans (congrArg some (by kernel_rfl))
  f281 := Tryz.func110.trans (congrArg some (by kernel_rfl))
  f282 := Tryz.func111.trans (congrArg some (by kernel_rfl))
  f283 := Tryz.func129.trans (congrArg some (by kernel_rfl))
  f284 := Tryz.func130.trans (congrArg some (by kernel_rfl))
  f285 := Tryz.func131.trans (congrArg some (by kernel_rfl))
  f286 := Tryz.func132.trans (congrArg some (by kernel_rfl))
  f287 := Tryz.func118.trans (congrArg some (by kernel_rfl))
  f316 := Tryz.func81.trans (congrArg some (by kernel_rfl))
  f317 := Tryz.func133.trans (congrArg some (by kernel_rfl))
  f318 := Tryz.func135.trans (congrArg some (by kernel_rfl))
  f319 := Tryz.func136.trans (congrArg some (by kernel_rfl))
  f320 := Tryz.func137.trans (congrArg some (by kernel_rfl))
  f321 := Tryz.func126.trans (congrArg some (by kernel_rfl))
  f322 := Tryz.func127.trans (congrArg some (by kernel_rfl))
  f337 := Tryz.func138.trans (congrArg some (by kernel_rfl))
  f338 := Tryz.func139.trans (congrArg some (by kernel_rfl))
  t0 := Tryz.underlying0
  a0 := Tryz.isAgg0
  z0 := Tryz.sizeOf0
  v0 := Tryz.zeroValue0
  t2 := Tryz.underlying2
  a2 := Tryz.isAgg2
  z2 := Tryz.sizeOf2
  v2 := Tryz.zeroValue2
  t3 := Tryz.underlying3
  a3 := Tryz.isAgg3
  z3 := Tryz.sizeOf3
  v3 := Tryz.zeroValue3
  t4 := Tryz.underlying4
  a4 := Tryz.isAgg4
  z4 := Tryz.sizeOf4
  v4 := Tryz.zeroValue4
  t5 := Tryz.underlying5
  a5 := Tryz.isAgg5
  z5 := Tryz.sizeOf5
  v5 := Tryz.zeroValue5
  t9 := Tryz.underlying9
  a9 := Tryz.isAgg9
  z9 := Tryz.sizeOf9
  v9 := Tryz.zeroValue9
  t20 := Tryz.underlying20
  a20 := Tryz.isAgg20
  z20 := Tryz.sizeOf20
  v20 := Tryz.zeroValue20
  t21 := Tryz.underlying21
  a21 := Tryz.isAgg21
  z21 := Tryz.sizeOf21
  v21 := Tryz.zeroValue21
  t37 := Tryz.underlying53
  a37 := Tryz.isAgg53
  z37 := Tryz.sizeOf53
  v37 := Tryz.zeroValue53
  t46 := Tryz.underlying101
  a46 := Tryz.isAgg101
  z46 := Tryz.sizeOf101
  v46 := Tryz.zeroValue101
  t51 := Tryz.underlying106
  a51 := Tryz.isAgg106
  z51 := Tryz.sizeOf106
  v51 := Tryz.zeroValue106
  t53 := Tryz.underlying124
  a53 := Tryz.isAgg124
  z53 := Tryz.sizeOf124
  v53 := Tryz.zeroValue124
  t75 := Tryz.underlying60
  a75 := Tryz.isAgg60
  z75 := Tryz.sizeOf60
  v75 := Tryz.zeroValue60
  t76 := Tryz.underlying61
  a76 := Tryz.isAgg61
  z76 := Tryz.sizeOf61
  v76 := Tryz.zeroValue61
  t85 := Tryz.underlying114
  a85 := Tryz.isAgg114
  z85 := Tryz.sizeOf114
  v85 := Tryz.zeroValue114
  t127 := Tryz.underlying74
  a127 := Tryz.isAgg74
  z127 := Tryz.sizeOf74
  v127 := Tryz.zeroValue74
  t143 := Tryz.underlying133
  a143 := Tryz.isAgg133
  z143 := Tryz.sizeOf133
  v143 := Tryz.zeroValue133
  t145 := Tryz.underlying135
  a145 := Tryz.isAgg135
  z145 := Tryz.sizeOf135
  v145 := Tryz.zeroValue135
  t167 := Tryz.underlying113
  a167 := Tryz.isAgg113
  z167 := Tryz.sizeOf113
  v167 := Tryz.zeroValue113
  t168 := Tryz.underlying116
  a168 := Tryz.isAgg116
  z168 := Tryz.sizeOf116
  v168 := Tryz.zeroValue116
  t171 := Tryz.underlying136
  a171 := Tryz.isAgg136
  z171 := Tryz.sizeOf136
  v171 := Tryz.zeroValue136
  t173 := Tryz.underlying139
  a173 := Tryz.isAgg139
  z173 := Tryz.sizeOf139
  v173 := Tryz.zeroValue139
  t175 := Tryz.underlying125
  a175 := Tryz.isAgg125
  z175 := Tryz.sizeOf125
  v175 := Tryz.zeroValue125
  t210 := Tryz.underlying128
  a210 := Tryz.isAgg128
  z210 := Tryz.sizeOf128
  v210 := Tryz.zeroValue128
  t212 := Tryz.underlying146
  a212 := Tryz.isAgg146
  z212 := Tryz.sizeOf146
  v212 := Tryz.zeroValue146
  t213 := Tryz.underlying147
  a213 := Tryz.isAgg147
  z213 := Tryz.sizeOf147
  t232 := Tryz.underlying150
  a232 := Tryz.isAgg150
  z232 := Tryz.sizeOf150
  v232 := Tryz.zeroValue150
  t233 := Tryz.underlying151
  a233 := Tryz.isAgg151
  z233 := Tryz.sizeOf151
  v233 := Tryz.zeroValue151
  g15 := by kernel_rfl
  g16 := by kernel_rfl
  g17 := by kernel_rfl
  g18 := by kernel_rfl
  g19 := by kernel_rfl
  t80 := Tryz.underlying63
  a80 := Tryz.isAgg63
  z80 := Tryz.sizeOf63
  v80 := Tryz.zeroValue63
  i0 := by kernel_rfl
  i2 := by kernel_rfl
  i3 := by kernel_rfl
  i4 := by kernel_rfl
  i5 := by kernel_rfl
  i9 := by kernel_rfl
  i20 := by kernel_rfl
  i21 := by kernel_rfl
  i37 := by kernel_rfl
  i46 := by kernel_rfl
  i51 := by kernel_rfl
  i53 := by kernel_rfl
  i75 := by kernel_rfl
  i76 := by kernel_rfl
  i80 := by kernel_rfl
  i85 := by kernel_rfl
  i127 := by kernel_rfl
  i143 := by kernel_rfl
  i145 := by kernel_rfl
  i167 := by kernel_rfl
  i168 := by kernel_rfl
  i171 := by kernel_rfl
  i173 := by kernel_rfl
  i175 := by kernel_rfl
  i210 := by kernel_rfl
  i212 := by kernel_rfl
  i232 := by kernel_rfl
  i233 := by kernel_rfl
  m15 := by kernel_rfl
  m16 := by kernel_rfl
  m17 := by kernel_rfl
  m18 := by kernel_rfl
  m19 := by kernel_rfl
  c0 := by kernel_rfl
  c2 := by kernel_rfl
  c3 := by kernel_rfl
  c4 := by kernel_rfl
  c5 := by kernel_rfl
  c9 := by kernel_rfl
  c20 := by kernel_rfl
  c21 := by kernel_rfl
  c37 := by kernel_rfl
  c46 := by kernel_rfl
  c51 := by kernel_rfl
  c53 := by kernel_rfl
  c75 := by kernel_rfl
  c76 := by kernel_rfl
  c80 := by kernel_rfl
  c85 := by kernel_rfl
  c127 := by kernel_rfl
  c143 := by kernel_rfl
  c145 := by kernel_rfl
  c167 := by kernel_rfl
  c168 := by kernel_rfl
  c171 := by kernel_rfl
  c173 := by kernel_rfl
  c175 := by kernel_rfl
  c210 := by kernel_rfl
  c212 := by kernel_rfl
  c213 := by kernel_rfl
  c232 := by kernel_rfl
  c233 := by kernel_rfl }
def Tryz.laysM171_ren : Go.Shelf.Ren := ⟨fun | 171 => 103 | 243 => 114 | 246 => 124 | 283 => 129 | 284 => 130 | 285 => 131 | 286 => 132 | 129 => 134 | 317 => 133 | 318 => 135 | 319 => 136 | 320 => 137 | 337 => 138 | 338 => 139 | n => n, fun | 3 => 3 | 9 => 9 | 2 => 2 | 4 => 4 | 171 => 136 | 0 => 0 | 53 => 124 | 37 => 53 | 5 => 5 | 173 => 139 | 212 => 146 | 51 => 106 | 20 => 20 | 213 => 147 | 46 => 101 | 232 => 150 | 233 => 151 | n => n, fun | 17 => 5 | 18 => 6 | 19 => 7 | n => n⟩
theorem Tryz.laysM171 : Go.Proofs.LaysM.n171 Tryz.prog Tryz.laysM171_ren := {
  mixed := by kernel_rfl
  f129 := Tryz.func134.trans (congrArg some (by kernel_rfl))
  f171 := Tryz.func103.trans (congrArg some (by kernel_rfl))
  f243 := Tryz.func114.trans (congrArg some (by kernel_rfl))
  f246 := Tryz.func124.trans (congrArg some (by kernel_rfl))
  f283 := Tryz.func129.trans (congrArg some (by kernel_rfl))
  f284 := Tryz.func130.trans (congrArg some (by kernel_rfl))
  f285 := Tryz.func131.trans (congrArg some (by kernel_rfl))
  f286 := Tryz.func132.trans (congrArg some (by kernel_rfl))
  f317 := Tryz.func133.trans (congrArg some (by kernel_rfl))
  f318 := Tryz.func135.trans (congrArg some (by kernel_rfl))
  f319 := Tryz.func136.trans (congrArg some (by kernel_rfl))
  f320 := Tryz.func137.trans (congrArg some (by kernel_rfl))
  f337 := Tryz.func138.trans (congrArg some (by kernel_rfl))
  f338 := Tryz.func139.trans (congrArg some (by kernel_rfl))
  t0 := Tryz.underlying0
  a0 := Tryz.isAgg0
  z0 := Tryz.sizeOf0
  v0 := Tryz.zeroValue0
  t2 := Tryz.underlying2
  a2 := Tryz.isAgg2
  z2 := Tryz.sizeOf2
  v2 := Tryz.zeroValue2
  t3 := Tryz.underlying3
  a3 := Tryz.isAgg3
  z3 := Tryz.sizeOf3
  v3 := Tryz.zeroValue3
  t4 := Tryz.underlying4
  a4 := Tryz.isAgg4
  z4 := Tryz.sizeOf4
  v4 := Tryz.zeroValue4
  t5 := Tryz.underlying5
  a5 := Tryz.isAgg5
  z5 := Tryz.sizeOf5
  v5 := Tryz.zeroValue5
  t9 := Tryz.underlying9
  a9 := Tryz.isAgg9
  z9 := Tryz.sizeOf9
  v9 := Tryz.zeroValue9
  t20 := Tryz.underlying20
  a20 := Tryz.isAgg20
  z20 := Tryz.sizeOf20
  v20 := Tryz.zeroValue20
  t37 := Tryz.underlying53
  a37 := Tryz.isAgg53
  z37 := Tryz.sizeOf53
  v37 := Tryz.zeroValue53
  t46 := Tryz.underlying101
  a46 := Tryz.isAgg101
  z46 := Tryz.sizeOf101
  v46 := Tryz.zeroValue101
  t51 := Tryz.underlying106
  a51 := Tryz.isAgg106
  z51 := Tryz.sizeOf106
  v51 := Tryz.zeroValue106
  t53 := Tryz.underlying124
  a53 := Tryz.isAgg124
  z53 := Tryz.sizeOf124
  v53 := Tryz.zeroValue124
  t171 := Tryz.underlying136
  a171 := Tryz.isAgg136
  z171 := Tryz.sizeOf136
  v171 := Tryz.zeroValue136
  t173 := Tryz.underlying139
  a173 := Tryz.isAgg139
  z173 := Tryz.sizeOf139
  v173 := Tryz.zeroValue139
  t212 := Tryz.underlying146
  a212 := Tryz.isAgg146
  z212 := Tryz.sizeOf146
  v212 := Tryz.zeroValue146
  t213 := Tryz.underlying147
  a213 := Tryz.isAgg147
  z213 := Tryz.sizeOf147
  t232 := Tryz.underlying150
  a232 := Tryz.isAgg150
  z232 := Tryz.sizeOf150
  v232 := Tryz.zeroValue150
  t233 := Tryz.underlying151
  a233 := Tryz.isAgg151
  z233 := Tryz.sizeOf151
  v233 := Tryz.zeroValue151
  g17 := by kernel_rfl
  g18 := by kernel_rfl
  g19 := by kernel_rfl
  i0 := by kernel_rfl
  i2 := by kernel_rfl
  i3 := by kernel_rfl
  i4 := by kernel_rfl
  i5 := by kernel_rfl
  i9 := by kernel_rfl
  i20 := by kernel_rfl
  i37 := by kernel_rfl
  i46 := by kernel_rfl
  i51 := by kernel_rfl
  i53 := by kernel_rfl
  i171 := by kernel_rfl
  i173 := by kernel_rfl
  i212 := by kernel_rfl
  i232 := by kernel_rfl
  i233 := by kernel_rfl
  m17 := by kernel_rfl
  m18 := by kernel_rfl
  m19 := by kernel_rfl }
def Tryz.laysM316_ren : Go.Shelf.Ren := ⟨fun | 316 => 81 | n => n, fun | 9 => 9 | 3 => 3 | 4 => 4 | 37 => 53 | 0 => 0 | 127 => 74 | 5 => 5 | n => n, fun | n => n⟩
theorem Tryz.laysM316 : Go.Proofs.LaysM.n316 Tryz.prog Tryz.laysM316_ren := {
  mixed := by kernel_rfl
  f316 := Tryz.func81.trans (congrArg some (by kernel_rfl))
  t0 := Tryz.underlying0
  a0 := Tryz.isAgg0
  z0 := Tryz.sizeOf0
  v0 := Tryz.zeroValue0
  t3 := Tryz.underlying3
  a3 := Tryz.isAgg3
  z3 := Tryz.sizeOf3
  v3 := Tryz.zeroValue3
  t4 := Tryz.underlying4
  a4 := Tryz.isAgg4
  z4 := Tryz.sizeOf4
  v4 := Tryz.zeroValue4
  t9 := Tryz.underlying9
  a9 := Tryz.isAgg9
  z9 := Tryz.sizeOf9
  v9 := Tryz.zeroValue9
  t37 := Tryz.underlying53
  a37 := Tryz.isAgg53
  z37 := Tryz.sizeOf53
  v37 := Tryz.zeroValue53
  t127 := Tryz.underlying74
  a127 := Tryz.isAgg74
  z127 := Tryz.sizeOf74
  v127 := Tryz.zeroValue74
  t5 := Tryz.underlying5
  a5 := Tryz.isAgg5
  z5 := Tryz.sizeOf5
  v5 := Tryz.zeroValue5
  i0 := by kernel_rfl
  i3 := by kernel_rfl
  i4 := by kernel_rfl
  i5 := by kernel_rfl
  i9 := by kernel_rfl
  i37 := by kernel_rfl
  i127 := by kernel_rfl }
end Go.Proofs

/- strings.Cut at one byte, for every text. -/
namespace Go.Proofs.YtebphmkefpaeaaaGreatDoor
open Go.RowKit
set_option linter.unusedVariables false

theorem lib_cut (c : UInt8) : ∀ l : List UInt8, Lib.cut l [c] = Sem.cut c l
  | [] => by simp [Lib.cut, Lib.index, Sem.cut]
  | d :: r => by
    have ih := lib_cut c r
    have hge := Lib.indexByte_ge r c
    unfold Lib.cut at ih ⊢
    rw [Lib.index_one] at ih ⊢
    rw [Sem.cut]
    unfold Lib.indexByte
    by_cases h : d = c
    · subst h
      simp
    · have hb : (d == c) = false := by simpa using h
      rw [hb, if_neg h]
      simp only [Bool.false_eq_true, if_false]
      by_cases h2 : Lib.indexByte r c = -1
      · rw [h2] at ih ⊢
        simp at ih ⊢
        rw [← ih]
        simp
      · have h3 : (Lib.indexByte r c == -1) = false := by simpa using h2
        rw [h3]
        simp only [Bool.false_eq_true, if_false]
        rw [if_pos (by omega)] at ih
        rw [if_pos (by omega), ← ih]
        have e : (Lib.indexByte r c + 1).toNat = (Lib.indexByte r c).toNat + 1 := by omega
        rw [e]
        simp

/-- What Cut tells. -/
def cutR (c : UInt8) (l : List UInt8) : Value := .tuple #[.string ⟨(Sem.cut c l).1.toArray⟩, .string ⟨(Sem.cut c l).2.1.toArray⟩, .bool (Sem.cut c l).2.2]

set_option maxHeartbeats 2000000 in
set_option maxRecDepth 100000 in
theorem liteCut_walk (s : ByteArray) (c : UInt8) (hs : s.size ≤ 4611686018427387904) (w : World) :
    Calls Tryz.prog 74 #[.string s, .string ⟨#[c]⟩] w fun e w' => e = .returned (cutR c s.data.toList) ∧ Below w.heap.size w w' := by
  have hsz : (⟨#[c]⟩ : ByteArray).size = 1 := rfl
  have hI : ∀ w, Calls Tryz.prog 85 #[.string s, .string ⟨#[c]⟩] w fun e w' => e = .returned (.int .i64 (Lib.indexB s ⟨#[c]⟩)) ∧ w' = w := fun w => by
    have := Any.stringslite_Index_one Tryz.lays219 s c w
    rw [← Lib.index_one] at this
    exact this
  have hc := lib_cut c s.data.toList
  have HC : Hid (cutR c s.data.toList = .tuple #[.string ⟨(Lib.cut s.data.toList (⟨#[c]⟩ : ByteArray).data.toList).1.toArray⟩, .string ⟨(Lib.cut s.data.toList (⟨#[c]⟩ : ByteArray).data.toList).2.1.toArray⟩, .bool (Lib.cut s.data.toList (⟨#[c]⟩ : ByteArray).data.toList).2.2]) := Lib.hid (by
    show _ = Value.tuple #[.string ⟨(Lib.cut s.data.toList [c]).1.toArray⟩, .string ⟨(Lib.cut s.data.toList [c]).2.1.toArray⟩, .bool (Lib.cut s.data.toList [c]).2.2]
    rw [hc]; rfl)
  clear hc
  rcases Lib.indexB_cases s ⟨#[c]⟩ with hix | ⟨i, hix, hroom⟩
  · obtain ⟨e1, e2, e3⟩ := Lib.cutB_miss s ⟨#[c]⟩ hix
    rw [e1, e2, e3] at HC
    rw [hix] at hI
    clear hix e1 e2 e3
    go_enter Tryz.func74, Tryz.ntmps74
    go_wp2_with (go_at_call 85; refine (hI _).mono ?_; rintro e w' ⟨rfl, rfl⟩)
    go_ret3
    exact ⟨by rw [HC.out]; rfl, Below.refl _ _⟩
  · obtain ⟨e1, e2, e3⟩ := Lib.cutB_hit s ⟨#[c]⟩ i hix
    rw [e1, e2, e3] at HC
    rw [hix] at hI
    rw [hsz] at hroom HC
    clear hix e1 e2 e3
    have c1 : (0 : Int) ≤ ↑i := by omega
    have c2 : (↑i : Int) ≤ ↑s.size := by omega
    have c3 : (0 : Int) ≤ ↑i + 1 := by omega
    have c4 : (↑i + 1 : Int) ≤ ↑s.size := by omega
    have hw : IntKind.i64.wrap ((i : Int) + 1) = (i : Int) + 1 := IntWalk.i64_in _ (by omega)
    have mixed : Tryz.prog.follows .mixedOrders = true := by kernel_rfl
    go_enter Tryz.func74, Tryz.ntmps74
    go_wp2_with (go_at_call 85; refine (hI _).mono ?_; rintro e w' ⟨rfl, rfl⟩)
    go_region
    go_wp2
    go_ret3
    exact ⟨by rw [HC.out]; rfl, below_drewN (Below.refl _ _) _⟩

theorem cut_walk (s : ByteArray) (c : UInt8) (hs : s.size ≤ 4611686018427387904) (w : World) :
    Calls Tryz.prog 63 #[.string s, .string ⟨#[c]⟩] w fun e w' => e = .returned (cutR c s.data.toList) ∧ Below w.heap.size w w' := by
  have hI := liteCut_walk s c hs
  unfold cutR at hI ⊢
  go_enter Tryz.func63, Tryz.ntmps63
  go_wp2_with (go_at_call 74; refine (hI _).mono ?_; rintro e w' ⟨rfl, hb⟩)
  go_ret3
  exact ⟨rfl, by assumption⟩
end Go.Proofs.YtebphmkefpaeaaaGreatDoor

/- The program's small functions of layer 4: isDigit, isLetter, isNumber, partMayBe. -/
namespace Go.Proofs.YtebphmkefpaeaaaGreatDoor
open Go.RowKit
set_option linter.unusedVariables false

def isLet (n : Nat) : Bool := (decide (97 ≤ n) && decide (n ≤ 122)) || (decide (65 ≤ n) && decide (n ≤ 90))
def isDig (n : Nat) : Bool := decide (48 ≤ n) && decide (n ≤ 57)

theorem isDigit_walk (n : Nat) (h : n < 256) (w : World) :
    Calls Tryz.prog 121 #[.int .u8 n] w fun e w' => e = .returned (.bool (isDig n)) ∧ w = w' := by
  have H : n ≤ 47 ∨ (48 ≤ n ∧ n ≤ 57) ∨ 58 ≤ n := by omega
  rcases H with h1 | ⟨h1, h2⟩ | h1
  · have HB : Hid (isDig n = false) := Lib.hid (by simp [isDig]; omega)
    go_enter Tryz.func121, Tryz.ntmps121
    go_wp2
    go_ret
    exact ⟨by rw [HB.out]; rfl, rfl⟩
  · have HB : Hid (isDig n = true) := Lib.hid (by simp [isDig]; omega)
    have h3 : decide ((n : Int) ≤ 57) = true := decide_eq_true (by omega)
    go_enter Tryz.func121, Tryz.ntmps121
    go_wp2
    go_ret
    exact ⟨by rw [HB.out]; rfl, rfl⟩
  · have HB : Hid (isDig n = false) := Lib.hid (by simp [isDig]; omega)
    have h3 : decide ((n : Int) ≤ 57) = false := decide_eq_false (by omega)
    go_enter Tryz.func121, Tryz.ntmps121
    go_wp2
    go_ret
    exact ⟨by rw [HB.out]; rfl, rfl⟩

theorem isLetter_walk (n : Nat) (h : n < 256) (w : World) :
    Calls Tryz.prog 122 #[.int .u8 n] w fun e w' => e = .returned (.bool (isLet n)) ∧ w = w' := by
  have H : n ≤ 64 ∨ (65 ≤ n ∧ n ≤ 90) ∨ (91 ≤ n ∧ n ≤ 96) ∨ (97 ≤ n ∧ n ≤ 122) ∨ 123 ≤ n := by omega
  rcases H with h1 | ⟨h1, h2⟩ | ⟨h1, h2⟩ | ⟨h1, h2⟩ | h1
  · have HB : Hid (isLet n = false) := Lib.hid (by simp [isLet]; omega)
    go_enter Tryz.func122, Tryz.ntmps122
    go_wp2
    go_ret
    exact ⟨by rw [HB.out]; rfl, rfl⟩
  · have HB : Hid (isLet n = true) := Lib.hid (by simp [isLet]; omega)
    have h3 : decide ((n : Int) ≤ 90) = true := decide_eq_true (by omega)
    go_enter Tryz.func122, Tryz.ntmps122
    go_wp2
    go_ret
    exact ⟨by rw [HB.out]; rfl, rfl⟩
  · have HB : Hid (isLet n = false) := Lib.hid (by simp [isLet]; omega)
    have h3 : decide ((n : Int) ≤ 90) = false := decide_eq_false (by omega)
    go_enter Tryz.func122, Tryz.ntmps122
    go_wp2
    go_ret
    exact ⟨by rw [HB.out]; rfl, rfl⟩
  · have HB : Hid (isLet n = true) := Lib.hid (by simp [isLet]; omega)
    have h3 : decide ((n : Int) ≤ 122) = true := decide_eq_true (by omega)
    go_enter Tryz.func122, Tryz.ntmps122
    go_wp2
    go_ret
    exact ⟨by rw [HB.out]; rfl, rfl⟩
  · have HB : Hid (isLet n = false) := Lib.hid (by simp [isLet]; omega)
    have h3 : decide ((n : Int) ≤ 122) = false := decide_eq_false (by omega)
    have h4 : decide ((n : Int) ≤ 90) = false := decide_eq_false (by omega)
    go_enter Tryz.func122, Tryz.ntmps122
    go_wp2
    go_ret
    exact ⟨by rw [HB.out]; rfl, rfl⟩

set_option maxRecDepth 100000 in
theorem isNumber_walk (s : ByteArray) (hs : s.size ≤ 9223372036854775807) (w : World) :
    Calls Tryz.prog 123 #[.string s] w fun e w' => e = .returned (.bool (Sem.digits s.data.toList)) ∧ w = w' := by
  go_enter Tryz.func123, Tryz.ntmps123
  go_wp2_with fail
  go_loop [6] (fun i => ∃ k : Nat, i = .int .i64 k ∧ k ≤ s.size ∧ Hid ((s.data.toList.take k).all Sem.dig = true)) (fun i => s.size - (intOf i).toNat)
  case atStart => exact ⟨0, rfl, Nat.zero_le _, Lib.hid rfl⟩
  case round =>
    obtain ⟨k, rfl, hk, HP⟩ := hrel
    by_cases hlt : k < s.size
    · have hb := (s[k]'hlt).toNat_lt
      cases hd : isDig (s[k]'hlt).toNat
      · have HN : Hid (Sem.digits s.data.toList = false) := Lib.hid (by
          unfold Sem.digits
          rw [Bool.and_eq_false_iff]; right
          rw [List.all_eq_false]
          exact ⟨s[k]'hlt, by rw [show s[k]'hlt = s.data.toList[k]'(by rw [← Lib.size_eq]; exact hlt) from rfl]; exact List.getElem_mem _, by rw [show Sem.dig (s[k]'hlt) = false from hd]; simp⟩)
        have hcon : ∀ w, Calls Tryz.prog 121 #[.int .u8 (s[k]'hlt).toNat] w fun e w' => e = .returned (.bool false) ∧ w = w' := fun w => by rw [← hd]; exact isDigit_walk _ hb w
        clear hd
        go_wp2_with (go_at_call 121; refine (hcon _).mono ?_; rintro e w' ⟨rfl, rfl⟩)
        go_ret
        exact ⟨by rw [HN.out]; rfl, rfl⟩
      · have HN : Hid ((s.data.toList.take (k + 1)).all Sem.dig = true) := Lib.hid (by rw [all_dig_next hlt, HP.out, show Sem.dig (s[k]'hlt) = true from hd]; rfl)
        have hcon : ∀ w, Calls Tryz.prog 121 #[.int .u8 (s[k]'hlt).toNat] w fun e w' => e = .returned (.bool true) ∧ w = w' := fun w => by rw [← hd]; exact isDigit_walk _ hb w
        clear hd
        go_wp2_with (go_at_call 121; refine (hcon _).mono ?_; rintro e w' ⟨rfl, rfl⟩)
        go_round
        case rel => exact ⟨k + 1, by go_num, by omega, HN⟩
        case measure => simp [intOf]; omega
    · have hall : s.data.toList.all Sem.dig = true := by have := HP.out; rwa [List.take_of_length_le (by rw [← Lib.size_eq]; omega)] at this
      have HN : Hid (Sem.digits s.data.toList = !s.toList.isEmpty) := Lib.hid (by unfold Sem.digits; rw [hall, Bool.and_true, tx_list])
      clear hall
      go_wp2
      go_ret
      exact ⟨by rw [HN.out]; rfl, rfl⟩
end Go.Proofs.YtebphmkefpaeaaaGreatDoor

/- The program's partMayBe: may a part of Pre be? -/
namespace Go.Proofs.YtebphmkefpaeaaaGreatDoor
open Go.RowKit
set_option linter.unusedVariables false

set_option maxRecDepth 100000 in
set_option maxHeartbeats 1000000 in
theorem partMayBe_walk (s : ByteArray) (hs : s.size ≤ 9223372036854775807) (w : World) :
    Calls Tryz.prog 113 #[.string s] w fun e w' => e = .returned (.bool (Sem.part s.data.toList)) ∧ w = w' := by
  have he0 : s.toList.isEmpty = s.data.toList.isEmpty := by rw [tx_list]
  by_cases hz : s.data.toList = []
  · have he : s.toList.isEmpty = true := by rw [he0, hz]; rfl
    have HN : Hid (Sem.part s.data.toList = false) := Lib.hid (by rw [hz]; rfl)
    clear he0 hz
    go_enter Tryz.func113, Tryz.ntmps113
    go_wp2
    go_ret
    exact ⟨by rw [HN.out]; rfl, rfl⟩
  · have he : s.toList.isEmpty = false := by rw [he0]; simpa using hz
    have hpos : 0 < s.size := by rw [Lib.size_eq]; exact List.length_pos_iff.2 hz
    have hhead : s.data.toList.head? = some (s[0]'hpos) := by
      rw [List.head?_eq_getElem?, List.getElem?_eq_getElem (by rw [← Lib.size_eq]; exact hpos)]; rfl
    have HHEAD := Lib.hid hhead
    have HZ := Lib.hid hz
    clear he0 hz hhead
    go_enter Tryz.func113, Tryz.ntmps113
    go_wp2_with fail
    go_loop [8] (fun i => ∃ k : Nat, i = .int .i64 k ∧ k ≤ s.size ∧ Hid ((s.data.toList.take k).all Sem.okc = true)) (fun i => s.size - (intOf i).toNat)
    case atStart => exact ⟨0, rfl, Nat.zero_le _, Lib.hid rfl⟩
    case round =>
      obtain ⟨k, rfl, hk, HP⟩ := hrel
      by_cases hlt : k < s.size
      · have hb := (s[k]'hlt).toNat_lt
        obtain ⟨n, hn⟩ : ∃ n, n = (s[k]'hlt).toNat := ⟨_, rfl⟩
        have ho : Sem.okc (s[k]'hlt) = (isLet n || decide (n = 45) || isDig n) := by rw [okc_at, hn]; rfl
        have hcd : ∀ w, Calls Tryz.prog 121 #[.int .u8 (s[k]'hlt).toNat] w fun e w' => e = .returned (.bool (isDig n)) ∧ w = w' := fun w => by rw [hn]; exact isDigit_walk _ hb w
        have hcl : ∀ w, Calls Tryz.prog 122 #[.int .u8 (s[k]'hlt).toNat] w fun e w' => e = .returned (.bool (isLet n)) ∧ w = w' := fun w => by rw [hn]; exact isLetter_walk _ hb w
        have HN : Hid (isDig n = true ∨ isLet n = true ∨ n = 45 → (s.data.toList.take (k + 1)).all Sem.okc = true) := Lib.hid (by
          intro h
          rw [all_okc_next hlt, HP.out, ho]
          rcases h with h | h | h <;> rw [h] <;> simp)
        have HF : Hid (isDig n = false ∧ isLet n = false ∧ n ≠ 45 → Sem.part s.data.toList = false) := Lib.hid (by
          rintro ⟨h1, h2, h3⟩
          exact part_bad hlt (by rw [ho, h1, h2]; simp [h3]))
        clear ho
        cases hd : isDig n
        · rw [hd] at hcd
          cases hl : isLet n
          · rw [hl] at hcl
            by_cases h45 : n = 45
            · have HM := Lib.hid (HN.out (Or.inr (Or.inr h45)))
              have h3 : (((s[k]'hlt).toNat : Int) != 45) = false := by rw [bne_eq_false_iff_eq]; omega
              clear hn hd hl
              go_wp2_with (first | (go_at_call 121; refine (hcd _).mono ?_; rintro e w' ⟨rfl, rfl⟩) | (go_at_call 122; refine (hcl _).mono ?_; rintro e w' ⟨rfl, rfl⟩))
              go_round
              case rel => exact ⟨k + 1, by go_num, by omega, HM⟩
              case measure => simp [intOf]; omega
            · have HM := Lib.hid (HF.out ⟨hd, hl, h45⟩)
              have h3 : (((s[k]'hlt).toNat : Int) != 45) = true := by rw [bne_iff_ne]; omega
              clear hn hd hl
              go_wp2_with (first | (go_at_call 121; refine (hcd _).mono ?_; rintro e w' ⟨rfl, rfl⟩) | (go_at_call 122; refine (hcl _).mono ?_; rintro e w' ⟨rfl, rfl⟩))
              go_ret
              exact ⟨by rw [HM.out]; rfl, rfl⟩
          · rw [hl] at hcl
            have HM := Lib.hid (HN.out (Or.inr (Or.inl hl)))
            clear hn hd hl
            go_wp2_with (first | (go_at_call 121; refine (hcd _).mono ?_; rintro e w' ⟨rfl, rfl⟩) | (go_at_call 122; refine (hcl _).mono ?_; rintro e w' ⟨rfl, rfl⟩))
            go_round
            case rel => exact ⟨k + 1, by go_num, by omega, HM⟩
            case measure => simp [intOf]; omega
        · rw [hd] at hcd
          have HM := Lib.hid (HN.out (Or.inl hd))
          clear hn hd hcl
          go_wp2_with (first | (go_at_call 121; refine (hcd _).mono ?_; rintro e w' ⟨rfl, rfl⟩))
          go_round
          case rel => exact ⟨k + 1, by go_num, by omega, HM⟩
          case measure => simp [intOf]; omega
      · have hall : s.data.toList.all Sem.okc = true := by have := HP.out; rwa [List.take_of_length_le (by rw [← Lib.size_eq]; omega)] at this
        have HS : Hid (Sem.part s.data.toList = (!Sem.digits s.data.toList || s.data.toList == [48] || s.data.toList.head? != some 48)) := Lib.hid (by
          have : s.data.toList.isEmpty = false := by simpa using HZ.out
          unfold Sem.part; rw [hall, this]; rfl)
        rw [HHEAD.out] at HS
        clear hall
        cases h48 : (s.toList == [48])
        · have h49 : (s.data.toList == [48]) = false := by rw [← tx_list]; exact h48
          by_cases hh : (s[0]'hpos).toNat = 48
          · have HN : Hid (Sem.part s.data.toList = !Sem.digits s.data.toList) := Lib.hid (by
              have : s[0]'hpos = 48 := UInt8.toNat_inj.1 hh
              rw [HS.out, h49, this]; simp)
            have h50 : (((s[0]'hpos).toNat : Int) != 48) = false := by rw [bne_eq_false_iff_eq]; omega
            clear h49 hh
            go_wp2_with (go_at_call 123; refine (isNumber_walk s hs _).mono ?_; rintro e w' ⟨rfl, rfl⟩)
            go_ret
            exact ⟨by rw [HN.out]; rfl, rfl⟩
          · have HN : Hid (Sem.part s.data.toList = true) := Lib.hid (by
              have : s[0]'hpos ≠ 48 := fun h => hh (by rw [h]; rfl)
              rw [HS.out, h49]; simp [this])
            have h50 : (((s[0]'hpos).toNat : Int) != 48) = true := by rw [bne_iff_ne]; omega
            clear h49 hh
            go_wp2_with (go_at_call 123; refine (isNumber_walk s hs _).mono ?_; rintro e w' ⟨rfl, rfl⟩)
            go_ret
            exact ⟨by rw [HN.out]; rfl, rfl⟩
        · have HN : Hid (Sem.part s.data.toList = true) := Lib.hid (by
            have h49 : (s.data.toList == [48]) = true := by rw [← tx_list]; exact h48
            rw [HS.out, h49]; simp)
          go_wp2_with (go_at_call 123; refine (isNumber_walk s hs _).mono ?_; rintro e w' ⟨rfl, rfl⟩)
          go_ret
          exact ⟨by rw [HN.out]; rfl, rfl⟩
end Go.Proofs.YtebphmkefpaeaaaGreatDoor

/- strings.SplitSeq at a dot, over a text of at most 24 bytes: its pieces come one by one. -/
namespace Go.Proofs.YtebphmkefpaeaaaGreatDoor
open Go.RowKit
attribute [local go_sem] Oper.semAt_some
set_option linter.unusedVariables false

/-- The three boxes that the iterator's value holds on to: the text, the dot, 0. -/
def SeqAt (W : World) (b : Nat) (s : List UInt8) : Prop :=
  b + 2 < W.heap.size ∧ W.cell? ⟨b, 0, none⟩ = some (.string ⟨s.toArray⟩) ∧ W.frozen? ⟨b, 0, none⟩ = false ∧ W.cell? ⟨b + 1, 0, none⟩ = some (.string ⟨#[46]⟩) ∧ W.cell? ⟨b + 2, 0, none⟩ = some (.int .i64 0)

theorem SeqAt.keep {W W' : World} {b : Nat} {s : List UInt8} (h : SeqAt W b s) (hb : Below (b + 3) W W') : SeqAt W' b s := by
  obtain ⟨h0, h1, h2, h3, h4⟩ := h
  exact ⟨Nat.lt_of_lt_of_le h0 hb.size, (hb.cell (p := ⟨b, 0, none⟩) (by show b < b + 3; omega)).trans h1, (hb.frozen (p := ⟨b, 0, none⟩) (by show b < b + 3; omega)).trans h2,
    (hb.cell (p := ⟨b + 1, 0, none⟩) (by show b + 1 < b + 3; omega)).trans h3, (hb.cell (p := ⟨b + 2, 0, none⟩) (by show b + 2 < b + 3; omega)).trans h4⟩

theorem SeqAt.set {W : World} {b : Nat} {s t : List UInt8} (h : SeqAt W b s) : SeqAt (W.setCell ⟨b, 0, none⟩ (.string ⟨t.toArray⟩)) b t := by
  obtain ⟨h0, h1, h2, h3, h4⟩ := h
  refine ⟨by rw [World.size_setCell]; exact h0, World.cell?_setCell_same _ _ _ h1, by rw [World.frozen?_setCell]; exact h2, ?_, ?_⟩
  · refine (World.cell?_setCell_other _ _ _ _ ?_).trans h3
    intro h; have := congrArg Addr.block h; simp at this
  · refine (World.cell?_setCell_other _ _ _ _ ?_).trans h4
    intro h; have := congrArg Addr.block h; simp at this

theorem seq_walk (s : List UInt8) (w : World) :
    Calls Tryz.prog 112 #[.string ⟨s.toArray⟩, .string ⟨#[46]⟩] w fun e w' => e = .returned (.func (.func 128) #[] #[.pointer (some ⟨w.heap.size + 1, 0, none⟩), .pointer (some ⟨w.heap.size, 0, none⟩), .pointer (some ⟨w.heap.size + 2, 0, none⟩)]) ∧ SeqAt w' w.heap.size s ∧ Below w.heap.size w w' := by
  have hin : ∀ w, Calls Tryz.prog 120 #[.string ⟨s.toArray⟩, .string ⟨#[46]⟩, .int .i64 0] w fun e w' => e = .returned (.func (.func 128) #[] #[.pointer (some ⟨w.heap.size + 1, 0, none⟩), .pointer (some ⟨w.heap.size, 0, none⟩), .pointer (some ⟨w.heap.size + 2, 0, none⟩)]) ∧ SeqAt w' w.heap.size s ∧ Below w.heap.size w w' := by
    intro w
    go_enter Tryz.func120, Tryz.ntmps120
    go_wp2
    go_ret
    refine ⟨rfl, ⟨by simp, ?_, ?_, ?_, ?_⟩, below_new (below_new (below_one _ _) _) _⟩
    · simp [go_sem]
    · simp [go_sem]
    · simp [go_sem]
    · simp [go_sem]
  go_enter Tryz.func112, Tryz.ntmps112
  go_wp2_with (go_at_call 120; refine (hin _).mono ?_; rintro e w' ⟨rfl, h1, h2⟩)
  go_ret
  exact ⟨rfl, by assumption, by assumption⟩

theorem index_dot (s : List UInt8) : (Lib.indexByte s 46 = -1 ∧ (Sem.cut 46 s).2.2 = false) ∨ ∃ i : Nat, Lib.indexByte s 46 = i ∧ i < s.length ∧ Sem.cut 46 s = (s.take i, s.drop (i + 1), true) := by
  have h := lib_cut 46 s
  unfold Lib.cut at h
  rw [Lib.index_one] at h
  have hge := Lib.indexByte_ge s 46
  by_cases hn : Lib.indexByte s 46 = -1
  · left
    rw [if_neg (by omega)] at h
    exact ⟨hn, by rw [← h]⟩
  · right
    rw [if_pos (by omega)] at h
    refine ⟨(Lib.indexByte s 46).toNat, by omega, ?_, h.symm⟩
    have h1 := (Lib.indexByte_some (l := s) (c := 46) (o := (Lib.indexByte s 46).toNat) (by omega)).1
    rcases Nat.lt_or_ge (Lib.indexByte s 46).toNat s.length with h2 | h2
    · exact h2
    · rw [List.getElem?_eq_none h2] at h1; cases h1

theorem index_dot_walk (s : List UInt8) (w : World) : Calls Tryz.prog 106 #[.string ⟨s.toArray⟩, .string ⟨#[46]⟩] w fun e w' => e = .returned (.int .i64 (Lib.indexByte s 46)) ∧ w' = w :=
  Any.strings_Index_one Tryz.lays143 ⟨s.toArray⟩ 46 w

set_option maxRecDepth 100000 in
set_option maxHeartbeats 2000000 in
/-- The iterator, under whatever loop. -/
theorem split_in (n : Nat) (hn : 1 ≤ n) (l b : Nat) (s : List UInt8) (hs : s.length ≤ 24) (J Jx : List (List UInt8) → World → Prop) (W : World)
    (hY : ∀ pre x W, J pre W → x.length ≤ 24 → YieldAt Fence.wide (n - 1) Tryz.prog l #[.string ⟨x.toArray⟩] W fun e W' =>
      (e = .returned (.bool true) ∧ J (pre ++ [x]) W' ∧ Below (b + 3) W W') ∨ (e = .returned (.bool false) ∧ Jx (pre ++ [x]) W'))
    (hJ : ∀ pre W v, J pre W → J pre (W.setCell ⟨b, 0, none⟩ v)) (hS : SeqAt W b s) (h0 : J [] W) :
    CallsIn Fence.wide n Tryz.prog 128 #[.func (.yield l) #[] #[], .pointer (some ⟨b + 1, 0, none⟩), .pointer (some ⟨b, 0, none⟩), .pointer (some ⟨b + 2, 0, none⟩)] W fun e W' =>
      (∃ v, e = .returned v) ∧ (J (Sem.parts s) W' ∨ ∃ pre suf, pre ++ suf = Sem.parts s ∧ Jx pre W') := by
  refine callsIn_of_wp Tryz.func128 rfl trivial ?_ rfl
  simp only [Tryz.ntmps128, List.size_toArray, List.length_cons, List.length_nil, Nat.reduceAdd, Nat.reduceSub, Array.replicate_succ, Array.replicate_zero, List.push_toArray, List.append_toArray, List.nil_append, List.cons_append]
  have HS := Lib.hid hS
  obtain ⟨hb, c0, f0, c1, c2⟩ := hS
  gi_wp2_with fail
  gi_loopw [7] (fun i wr => ∃ (pre : List (List UInt8)) (rest : List UInt8), rest.length ≤ 24 ∧ SeqAt wr b rest ∧ pre ++ Sem.parts rest = Sem.parts s ∧ J pre wr)
    (fun i wr => match wr.cell? ⟨b, 0, none⟩ with | some (.string x) => x.size | _ => 0)
  case atStart => exact ⟨[], s, hs, HS.out, rfl, h0⟩
  case round =>
    clear HS hb c0 f0 c1 c2
    obtain ⟨pre, rest, hr, hSA, hpp, hJs⟩ := hrel
    have HSA := Lib.hid hSA
    have hcut := Sem.parts_cut rest
    obtain ⟨hb, c0, f0, c1, c2⟩ := hSA
    rcases index_dot rest with ⟨hi, hc⟩ | ⟨i, hi, hlt, hc⟩
    · rw [hc, if_neg (by simp)] at hcut
      have HE : Hid (pre ++ [rest] = Sem.parts s) := Lib.hid (by rw [← hpp, hcut])
      have hI := fun w => callsIn_wide (n := n - 1).2 (index_dot_walk rest w)
      rw [hi] at hI
      obtain ⟨fn, tmps, assign, body, hy, hR⟩ := hY pre rest wr hJs hr
      clear hc hi hcut hpp hY hJs
      gi_wp2_with (refine ⟨trivial, ?_⟩; gi_at_call 106; refine (hI _).mono ?_; rintro e w' ⟨rfl, rfl⟩)
      refine hR.mono ?_
      rintro e W3 (⟨rfl, hJ3, hk3⟩ | ⟨rfl, hJx3⟩)
      · gi_wp2
        go_end0
        exact ⟨⟨_, rfl⟩, Or.inl (by rw [← HE.out]; exact hJ3)⟩
      · gi_wp2
        go_end0
        exact ⟨⟨_, rfl⟩, Or.inr ⟨_, [], (List.append_nil _).trans HE.out, hJx3⟩⟩
    · rw [hc, if_pos rfl] at hcut
      have HE : Hid ((pre ++ [rest.take i]) ++ Sem.parts (rest.drop (i + 1)) = Sem.parts s) := Lib.hid (by rw [← hpp, hcut]; simp)
      have hI := fun w => callsIn_wide (n := n - 1).2 (index_dot_walk rest w)
      rw [hi] at hI
      obtain ⟨fn, tmps, assign, body, hy, hR⟩ := hY pre (rest.take i) wr hJs (by rw [List.length_take]; omega)
      have ex : (⟨(rest.take i).toArray⟩ : ByteArray) = (⟨rest.toArray⟩ : ByteArray).extract 0 i := by
        have := ByteArray.extract_mk rest 0 i
        simpa using this.symm
      rw [ex] at hy
      have hsz : (⟨rest.toArray⟩ : ByteArray).size = rest.length := size_list _
      have hw : IntKind.i64.wrap ((i : Int) + 1) = (i : Int) + 1 := IntWalk.i64_in _ (by omega)
      have hsl : ∀ W, (Instr.slice 9 (.string ⟨rest.toArray⟩) (some (.int .i64 ((i : Int) + 1))) none none).run Tryz.prog W = .ok (.string ⟨(rest.drop (i + 1)).toArray⟩) W := fun W => by
        have h := slice_from ⟨rest.toArray⟩ (i + 1) (by rw [hsz]; omega) W
        exact h
      clear hc hi hcut hpp hY
      gi_wp2_with (refine ⟨trivial, ?_⟩; gi_at_call 106; refine (hI _).mono ?_; rintro e w' ⟨rfl, rfl⟩)
      refine hR.mono ?_
      rintro e W3 (⟨rfl, hJ3, hk3⟩ | ⟨rfl, hJx3⟩)
      · have hS3 := HSA.out.keep hk3
        have HS3 := Lib.hid hS3
        have HJ3 := Lib.hid hJ3
        obtain ⟨hb3, d0, g0, d1, d2⟩ := hS3
        have hm0 := d0
        clear c0 f0 c1 c2 hk3 hJ3
        gi_wp2
        go_roundw
        case rel => exact ⟨pre ++ [rest.take i], rest.drop (i + 1), by rw [List.length_drop]; omega, HS3.out.set, HE.out, hJ _ _ _ HJ3.out⟩
        case measure =>
          rw [World.cell?_setCell_same _ _ _ hm0, HSA.out.2.1]
          show (⟨(rest.drop (i + 1)).toArray⟩ : ByteArray).size < (⟨rest.toArray⟩ : ByteArray).size
          rw [size_list, size_list, List.length_drop]; omega
      · gi_wp2
        refine bodyPost_ret (results_none rfl _ _ _) rfl ?_
        exact ⟨⟨_, rfl⟩, Or.inr ⟨_, _, HE.out, hJx3⟩⟩
end Go.Proofs.YtebphmkefpaeaaaGreatDoor

/- The statement 'for part := range strings.SplitSeq(s, ".")' in a function's body: what the caller owes. -/
namespace Go.Proofs.YtebphmkefpaeaaaGreatDoor
open Go.RowKit
set_option linter.unusedVariables false

/-- How a round may be left: it goes on, or it returns. -/
def roundLeft (b : Nat) (I Ix : List (List UInt8) → World → Prop) (xs : List (List UInt8)) (W : World) : Exit → Act → World → Prop
  | .normal, _, W' => KeepsOthers W W' ∧ Below (b + 3) W W' ∧ I xs W'
  | .ret, _, W' => KeepsOthers W W' ∧ Ix xs W'
  | _, _, _ => False

theorem below_put {B : Nat} {W : World} {l : Nat} (o : Obj) (h : B ≤ l) : Below B W (W.putObj l o) :=
  ⟨rfl, rfl, rfl, by simp, fun k hk => World.putObj_heap_other (by omega)⟩

set_option maxHeartbeats 1000000 in
theorem range_seq {g : Operand} {ps : Array Tmp} {assign body : Code} {Q : Exit → Act → World → Prop} {a : Act} {w : World} (n : Nat) (hn : 3 ≤ n) (b : Nat) (s : List UInt8)
    (hg : a.eval g = .func (.func 128) #[] #[.pointer (some ⟨b + 1, 0, none⟩), .pointer (some ⟨b, 0, none⟩), .pointer (some ⟨b + 2, 0, none⟩)])
    (hS : SeqAt w b s) (hs : s.length ≤ 24) (hps : ps.size = 1) (I Ix : List (List UInt8) → World → Prop)
    (hI : ∀ pre A B, I pre A → Below b A B → I pre B) (hIx : ∀ pre A B, Ix pre A → Below b A B → Ix pre B) (h0 : I [] w) (a₁ : List UInt8 → Act)
    (hassign : ∀ (l : Nat) (x : List UInt8) (W : World) (K : Act → World → Prop), K (a₁ x) W →
      assign.wpIn (Fence.wide.inRound l) (n - 1 - 1) Tryz.prog (Exit.then K (fun _ _ _ => False)) { tmps := (ps.zip #[.string ⟨x.toArray⟩]).foldl (fun t (p, v) => t.setIfInBounds p v) a.tmps, defers := [] } W)
    (hbody : ∀ (l : Nat) (pre : List (List UInt8)) (x : List UInt8) (W : World), I pre W → x.length ≤ 24 → body.wpIn (Fence.wide.inRound l) (n - 1 - 1) Tryz.prog (roundLeft b I Ix (pre ++ [x]) W) (a₁ x) W)
    (hdone : ∀ (D : Nat) (W : World), I (Sem.parts s) W → W.heap[D]? = some (.deferred (some [])) → w.heap.size ≤ D → Q .normal { a with defers := { target := .collected D, args := #[] } :: a.defers } W)
    (hstop : ∀ (D : Nat) (pre suf : List (List UInt8)) (W : World), pre ++ suf = Sem.parts s → Ix pre W → W.heap[D]? = some (.deferred (some [])) → w.heap.size ≤ D → Code.ret.wpIn Fence.wide n Tryz.prog Q { a with defers := { target := .collected D, args := #[] } :: a.defers } W) :
    (Code.rangeFunc g ps assign body).wpIn Fence.wide n Tryz.prog Q a w := by
  refine wpIn_rangeFunc ?_
  intro fn hfn
  obtain ⟨rec, hrec⟩ : ∃ rec : LoopState → Option Code → Loop, rec = fun st pe => { state := st, pending := pe, fn, tmps := a.tmps, params := ps, assign, body, defers := w.heap.size } := ⟨_, rfl⟩
  obtain ⟨W1, hW1⟩ : ∃ W1, (w.alloc (.deferred (some []))).alloc (.loop (rec .ready none)) = W1 := ⟨_, rfl⟩
  have hb3 : b + 3 ≤ w.heap.size := hS.1
  have hL1 : W1.heap[w.heap.size + 1]? = some (.loop (rec .ready none)) := by
    rw [← hW1]; have := World.alloc_heap_new (w.alloc (.deferred (some []))) (.loop (rec .ready none)); rwa [World.size_alloc] at this
  have hK1 : W1.heap[w.heap.size]? = some (.deferred (some [])) := by
    rw [← hW1]; exact (Below.heap_alloc _ _ _ (by simp)).trans (World.alloc_heap_new w _)
  have hb1 : Below w.heap.size w W1 := by rw [← hW1]; exact below_new (below_one _ _) _
  have hI1 : I [] W1 := hI _ _ _ h0 (hb1.mono (by omega))
  refine ⟨w.heap.size + 1, [{ target := .collected w.heap.size, args := #[] }], W1, { target := .fn (.func 128) #[.pointer (some ⟨b + 1, 0, none⟩), .pointer (some ⟨b, 0, none⟩), .pointer (some ⟨b + 2, 0, none⟩)], args := #[.func (.yield (w.heap.size + 1)) #[] #[]] }, W1, 128,
    #[.func (.yield (w.heap.size + 1)) #[] #[], .pointer (some ⟨b + 1, 0, none⟩), .pointer (some ⟨b, 0, none⟩), .pointer (some ⟨b + 2, 0, none⟩)], W1, ?_, ?_, fun _ _ => trivial, ?_, fun _ => by omega, ?_⟩
  · rw [← hW1, hrec]; exact run_enterLoop_outer _ _ _ _ _
  · simp only [resolve, hg]
    simp [go_sem]
  · have e : ∀ args w, (callFunc 128 args).run Tryz.prog w = .ok (.enter 128 args) w := enters_of Tryz.func128 (by kernel_rfl) rfl
    simp [invoke, go_sem, e]
  · refine (split_in (n - 1) (by omega) (w.heap.size + 1) b s hs
      (fun pre W => I pre W ∧ W.heap[w.heap.size + 1]? = some (.loop (rec .ready none)) ∧ W.heap[w.heap.size]? = some (.deferred (some [])))
      (fun pre W => Ix pre W ∧ W.heap[w.heap.size + 1]? = some (.loop (rec .done (some .ret))) ∧ W.heap[w.heap.size]? = some (.deferred (some [])))
      W1 ?_ ?_ (hS.keep (hb1.mono (by omega))) ⟨hI1, hL1, hK1⟩).mono ?_
    · -- a round
      rintro pre x W ⟨hi, hl, hk⟩ hx
      have hlt : w.heap.size + 1 < W.heap.size := (Array.getElem?_eq_some_iff.1 hl).1
      have hy := run_yield (P := Tryz.prog) (args := #[.string ⟨x.toArray⟩]) hl (by rw [hrec]; simp [hps])
      rw [hrec] at hy
      refine ⟨fn, _, assign, body, hy, roundIn_of_wpIn hfn (hassign _ x W _ ⟨_, run_beginRound hl (by rw [hrec]), ?_⟩)⟩
      obtain ⟨W2, hW2⟩ : ∃ W2, W.putObj (w.heap.size + 1) (.loop { rec .ready none with state := .busy }) = W2 := ⟨_, rfl⟩
      have hl2 : W2.heap[w.heap.size + 1]? = some (.loop { rec .ready none with state := .busy }) := by rw [← hW2]; exact World.putObj_heap_same hlt
      have hk2 : W2.heap[w.heap.size]? = some (.deferred (some [])) := by rw [← hW2]; exact (World.putObj_heap_other (by omega)).trans hk
      have hw2 : Below (b + 3) W W2 := by rw [← hW2]; exact below_put _ (by omega)
      rw [hW2]
      refine wpIn_mono (hbody _ pre x _ (hI _ _ _ hi (hw2.mono (by omega))) hx) ?_
      have fin : ∀ (jump : Option Code) (W3 : World), KeepsOthers W2 W3 →
          (Instr.endRound (w.heap.size + 1) jump).run Tryz.prog W3 = .ok (.bool jump.isNone) (W3.putObj (w.heap.size + 1) (.loop (rec (if jump.isNone then .ready else .done) jump))) ∧
          (W3.putObj (w.heap.size + 1) (.loop (rec (if jump.isNone then .ready else .done) jump))).heap[w.heap.size + 1]? = some (.loop (rec (if jump.isNone then .ready else .done) jump)) ∧
          (W3.putObj (w.heap.size + 1) (.loop (rec (if jump.isNone then .ready else .done) jump))).heap[w.heap.size]? = some (.deferred (some [])) := fun jump W3 hk3 => by
        have hl3 := hk3.same _ _ hl2 rfl
        have := run_endRound (P := Tryz.prog) jump hl3
        rw [hrec] at this ⊢
        exact ⟨this, World.putObj_heap_same (Array.getElem?_eq_some_iff.1 hl3).1, (World.putObj_heap_other (by omega)).trans (hk3.same _ _ hk2 rfl)⟩
      rintro e a3 W3 hp
      cases e with
      | normal =>
        obtain ⟨hk3, hkp3, hi3⟩ := hp
        obtain ⟨hr, hl4, hk4⟩ := fin none W3 hk3
        exact ⟨_, _, hr, .inl ⟨rfl, ⟨hI _ _ _ hi3 (below_put _ (by omega)), hl4, hk4⟩, (hw2.trans hkp3).trans (below_put _ (by omega))⟩⟩
      | ret =>
        obtain ⟨hk3, hi3⟩ := hp
        obtain ⟨hr, hl4, hk4⟩ := fin (some .ret) W3 hk3
        exact ⟨_, _, hr, .inr ⟨rfl, hIx _ _ _ hi3 (below_put _ (by omega)), hl4, hk4⟩⟩
      | exit id => exact hp.elim
      | goto t => exact hp.elim
      | panic ch => exact hp.elim
      | outgrown => exact hp.elim
    · -- the iterator's own cell
      rintro pre W v ⟨hi, hl, hk⟩
      have hne1 : w.heap.size + 1 ≠ b := by omega
      have hne2 : w.heap.size ≠ b := by omega
      exact ⟨hI _ _ _ hi ((Below.refl b W).setCell (p := ⟨b, 0, none⟩) (Nat.le_refl _) _), (Below.heap_setCell W ⟨b, 0, none⟩ v _ hne1).trans hl, (Below.heap_setCell W ⟨b, 0, none⟩ v _ hne2).trans hk⟩
    · -- behind the iterator
      rintro e W2 ⟨⟨v, rfl⟩, (⟨hi, hl, hk⟩ | ⟨pre, suf, hp, hi, hl, hk⟩)⟩
      · exact ⟨none, _, by have := run_endLoop (P := Tryz.prog) hl (by rw [hrec]; simp); rw [hrec] at this; exact this, hdone _ _ (hI _ _ _ hi (below_put _ (by omega))) ((World.putObj_heap_other (by omega)).trans hk) (Nat.le_refl _)⟩
      · exact ⟨some .ret, _, by have := run_endLoop (P := Tryz.prog) hl (by rw [hrec]; simp); rw [hrec] at this; exact this, hstop _ pre suf _ hp (hIx _ _ _ hi (below_put _ (by omega))) ((World.putObj_heap_other (by omega)).trans hk) (Nat.le_refl _)⟩
end Go.Proofs.YtebphmkefpaeaaaGreatDoor

/- The program's Check: may a version be? -/
namespace Go.Proofs.YtebphmkefpaeaaaGreatDoor
open Go.RowKit
attribute [local go_sem] Oper.semAt_some
set_option linter.unusedVariables false

theorem int_one (h : 3 < Tryz.prog.types.size) : (Tryz.prog.types[3]'h).size = 1 := by kernel_rfl
theorem arr3_0 (a b c : Int) (W : World) : (Instr.index 104 (.agg #[.int .i64 a, .int .i64 b, .int .i64 c]) (.int .i64 0)).run Tryz.prog W = .ok (.int .i64 a) W := by
  simp [Instr.index, run_underlying Tryz.underlying104, asIntOf, go_sem, Tryz.sizeOf3, Tryz.isAgg3]
theorem arr3_1 (a b c : Int) (W : World) : (Instr.index 104 (.agg #[.int .i64 a, .int .i64 b, .int .i64 c]) (.int .i64 1)).run Tryz.prog W = .ok (.int .i64 b) W := by
  simp [Instr.index, run_underlying Tryz.underlying104, asIntOf, go_sem, Tryz.sizeOf3, Tryz.isAgg3]
theorem arr3_2 (a b c : Int) (W : World) : (Instr.index 104 (.agg #[.int .i64 a, .int .i64 b, .int .i64 c]) (.int .i64 2)).run Tryz.prog W = .ok (.int .i64 c) W := by
  simp [Instr.index, run_underlying Tryz.underlying104, asIntOf, go_sem, Tryz.sizeOf3, Tryz.isAgg3]

/-- How far the look at the three numbers has come. -/
def Far (a b c : Int) (i : Value) : Prop := i = .int .i64 0 ∨ (i = .int .i64 1 ∧ 0 ≤ a ∧ a ≤ 999999) ∨ (i = .int .i64 2 ∧ 0 ≤ a ∧ a ≤ 999999 ∧ 0 ≤ b ∧ b ≤ 999999) ∨ (i = .int .i64 3 ∧ 0 ≤ a ∧ a ≤ 999999 ∧ 0 ≤ b ∧ b ≤ 999999 ∧ 0 ≤ c ∧ c ≤ 999999)

theorem may_false_num {a b c : Int} {p : List UInt8} (h : ¬ ((0 ≤ a ∧ a ≤ 999999) ∧ (0 ≤ b ∧ b ≤ 999999) ∧ (0 ≤ c ∧ c ≤ 999999))) : chk ⟨a, b, c, p⟩ = 40 := by
  rw [chk, if_neg]
  rw [Sem.may_iff]
  rintro ⟨h1, h2, h3, _⟩
  exact h ⟨h1, h2, h3⟩

set_option maxRecDepth 100000 in
set_option maxHeartbeats 4000000 in
theorem check_bad (a b c : Int) (p : List UInt8) (hn : ¬ ((0 ≤ a ∧ a ≤ 999999) ∧ (0 ≤ b ∧ b ≤ 999999) ∧ (0 ≤ c ∧ c ≤ 999999))) (w : World) :
    Calls Tryz.prog 102 #[.agg #[.int .i64 a, .int .i64 b, .int .i64 c, .string ⟨p.toArray⟩]] w fun e w' => e = .returned (.int .i64 (chk ⟨a, b, c, p⟩)) ∧ Below w.heap.size w w' := by
  have HE : Hid (chk ⟨a, b, c, p⟩ = 40) := Lib.hid (may_false_num hn)
  go_enter Tryz.func102, Tryz.ntmps102
  go_wp2_with fail
  have hx0 := arr3_0 a b c
  have hx1 := arr3_1 a b c
  have hx2 := arr3_2 a b c
  go_loop [13] (fun i => Far a b c i) (fun i => 3 - (intOf i).toNat)
  case atStart => exact Or.inl rfl
  case round =>
    rcases hrel with rfl | ⟨rfl, a1, a2⟩ | ⟨rfl, a1, a2, b1, b2⟩ | ⟨rfl, a1, a2, b1, b2, c1, c2⟩
    · rcases (show a < 0 ∨ 999999 < a ∨ (0 ≤ a ∧ a ≤ 999999) from by omega) with h | h | ⟨h1, h2⟩
      · go_wp2
        refine bodyPost_ret (v := .int .i64 40) (by simp [results, Tryz.results102, go_sem]) rfl ?_
        exact ⟨by rw [HE.out], below_new (below_one _ _) _⟩
      · have hd : decide (a < 0) = false := decide_eq_false (by omega)
        have hd2 : decide (999999 < a) = true := decide_eq_true h
        go_wp2
        refine bodyPost_ret (v := .int .i64 40) (by simp [results, Tryz.results102, go_sem]) rfl ?_
        exact ⟨by rw [HE.out], below_new (below_one _ _) _⟩
      · have hd : decide (a < 0) = false := decide_eq_false (by omega)
        have hd2 : decide (999999 < a) = false := decide_eq_false (by omega)
        go_wp2
        go_round
        case rel => exact Or.inr (Or.inl ⟨rfl, by omega, by omega⟩)
        case measure => simp [intOf]
    · rcases (show b < 0 ∨ 999999 < b ∨ (0 ≤ b ∧ b ≤ 999999) from by omega) with h | h | ⟨h1, h2⟩
      · go_wp2
        refine bodyPost_ret (v := .int .i64 40) (by simp [results, Tryz.results102, go_sem]) rfl ?_
        exact ⟨by rw [HE.out], below_new (below_one _ _) _⟩
      · have hd : decide (b < 0) = false := decide_eq_false (by omega)
        have hd2 : decide (999999 < b) = true := decide_eq_true h
        go_wp2
        refine bodyPost_ret (v := .int .i64 40) (by simp [results, Tryz.results102, go_sem]) rfl ?_
        exact ⟨by rw [HE.out], below_new (below_one _ _) _⟩
      · have hd : decide (b < 0) = false := decide_eq_false (by omega)
        have hd2 : decide (999999 < b) = false := decide_eq_false (by omega)
        go_wp2
        go_round
        case rel => exact Or.inr (Or.inr (Or.inl ⟨rfl, a1, a2, by omega, by omega⟩))
        case measure => simp [intOf]
    · rcases (show c < 0 ∨ 999999 < c ∨ (0 ≤ c ∧ c ≤ 999999) from by omega) with h | h | ⟨h1, h2⟩
      · go_wp2
        refine bodyPost_ret (v := .int .i64 40) (by simp [results, Tryz.results102, go_sem]) rfl ?_
        exact ⟨by rw [HE.out], below_new (below_one _ _) _⟩
      · have hd : decide (c < 0) = false := decide_eq_false (by omega)
        have hd2 : decide (999999 < c) = true := decide_eq_true h
        go_wp2
        refine bodyPost_ret (v := .int .i64 40) (by simp [results, Tryz.results102, go_sem]) rfl ?_
        exact ⟨by rw [HE.out], below_new (below_one _ _) _⟩
      · have hd : decide (c < 0) = false := decide_eq_false (by omega)
        have hd2 : decide (999999 < c) = false := decide_eq_false (by omega)
        go_wp2
        go_round
        case rel => exact Or.inr (Or.inr (Or.inr ⟨rfl, a1, a2, b1, b2, by omega, by omega⟩))
        case measure => simp [intOf]
    · exact absurd ⟨⟨a1, a2⟩, ⟨b1, b2⟩, ⟨c1, c2⟩⟩ hn
set_option maxRecDepth 100000 in
set_option maxHeartbeats 4000000 in
theorem check_none (a b c : Int) (a1 : 0 ≤ a) (a2 : a ≤ 999999) (b1 : 0 ≤ b) (b2 : b ≤ 999999) (c1 : 0 ≤ c) (c2 : c ≤ 999999) (w : World) :
    Calls Tryz.prog 102 #[.agg #[.int .i64 a, .int .i64 b, .int .i64 c, .string ⟨(([] : List UInt8)).toArray⟩]] w fun e w' => e = .returned (.int .i64 (chk ⟨a, b, c, []⟩)) ∧ Below w.heap.size w w' := by
  have HE : Hid (chk ⟨a, b, c, []⟩ = 0) := Lib.hid (by rw [chk, if_pos]; exact (Sem.may_iff _).2 ⟨⟨a1, a2⟩, ⟨b1, b2⟩, ⟨c1, c2⟩, by simp, rfl⟩)
  have da : decide (a < 0) = false := decide_eq_false (by omega)
  have db : decide (b < 0) = false := decide_eq_false (by omega)
  have dc : decide (c < 0) = false := decide_eq_false (by omega)
  have da2 : decide (999999 < a) = false := decide_eq_false (by omega)
  have db2 : decide (999999 < b) = false := decide_eq_false (by omega)
  have dc2 : decide (999999 < c) = false := decide_eq_false (by omega)
  go_enter Tryz.func102, Tryz.ntmps102
  go_wp2_with fail
  have hx0 := arr3_0 a b c
  have hx1 := arr3_1 a b c
  have hx2 := arr3_2 a b c
  go_loop [13] (fun i => Far a b c i) (fun i => 3 - (intOf i).toNat)
  case atStart => exact Or.inl rfl
  case round =>
    rcases hrel with rfl | ⟨rfl, _, _⟩ | ⟨rfl, _, _, _, _⟩ | ⟨rfl, _, _, _, _, _, _⟩
    · go_wp2
      go_round
      case rel => exact Or.inr (Or.inl ⟨rfl, a1, a2⟩)
      case measure => simp [intOf]
    · go_wp2
      go_round
      case rel => exact Or.inr (Or.inr (Or.inl ⟨rfl, a1, a2, b1, b2⟩))
      case measure => simp [intOf]
    · go_wp2
      go_round
      case rel => exact Or.inr (Or.inr (Or.inr ⟨rfl, a1, a2, b1, b2, c1, c2⟩))
      case measure => simp [intOf]
    · go_wp2
      refine bodyPost_ret (v := .int .i64 0) (by simp [results, Tryz.results102, go_sem]) rfl ?_
      exact ⟨by rw [HE.out], below_new (below_one _ _) _⟩

set_option maxRecDepth 100000 in
set_option maxHeartbeats 4000000 in
theorem check_long (a b c : Int) (p : List UInt8) (hp : 24 < p.length) (hs : p.length ≤ 9223372036854775807) (a1 : 0 ≤ a) (a2 : a ≤ 999999) (b1 : 0 ≤ b) (b2 : b ≤ 999999) (c1 : 0 ≤ c) (c2 : c ≤ 999999) (w : World) :
    Calls Tryz.prog 102 #[.agg #[.int .i64 a, .int .i64 b, .int .i64 c, .string ⟨p.toArray⟩]] w fun e w' => e = .returned (.int .i64 (chk ⟨a, b, c, p⟩)) ∧ Below w.heap.size w w' := by
  have HE : Hid (chk ⟨a, b, c, p⟩ = 40) := Lib.hid (by rw [chk, if_neg]; rw [Sem.may_iff]; rintro ⟨_, _, _, h, _⟩; simp only at h; omega)
  have he : p.isEmpty = false := by
    cases p with
    | nil => simp at hp
    | cons _ _ => rfl
  have hsz : (⟨p.toArray⟩ : ByteArray).size = p.length := size_list _
  have da : decide (a < 0) = false := decide_eq_false (by omega)
  have db : decide (b < 0) = false := decide_eq_false (by omega)
  have dc : decide (c < 0) = false := decide_eq_false (by omega)
  have da2 : decide (999999 < a) = false := decide_eq_false (by omega)
  have db2 : decide (999999 < b) = false := decide_eq_false (by omega)
  have dc2 : decide (999999 < c) = false := decide_eq_false (by omega)
  go_enter Tryz.func102, Tryz.ntmps102
  go_wp2_with fail
  have hx0 := arr3_0 a b c
  have hx1 := arr3_1 a b c
  have hx2 := arr3_2 a b c
  go_loop [13] (fun i => Far a b c i) (fun i => 3 - (intOf i).toNat)
  case atStart => exact Or.inl rfl
  case round =>
    rcases hrel with rfl | ⟨rfl, _, _⟩ | ⟨rfl, _, _, _, _⟩ | ⟨rfl, _, _, _, _, _, _⟩
    · go_wp2
      go_round
      case rel => exact Or.inr (Or.inl ⟨rfl, a1, a2⟩)
      case measure => simp [intOf]
    · go_wp2
      go_round
      case rel => exact Or.inr (Or.inr (Or.inl ⟨rfl, a1, a2, b1, b2⟩))
      case measure => simp [intOf]
    · go_wp2
      go_round
      case rel => exact Or.inr (Or.inr (Or.inr ⟨rfl, a1, a2, b1, b2, c1, c2⟩))
      case measure => simp [intOf]
    · go_wp2
      refine bodyPost_ret (v := .int .i64 40) (by simp [results, Tryz.results102, go_sem]) rfl ?_
      exact ⟨by rw [HE.out], below_new (below_one _ _) _⟩
end Go.Proofs.YtebphmkefpaeaaaGreatDoor

/- The program's Check, where a Pre is looked at part by part. -/
namespace Go.Proofs.YtebphmkefpaeaaaGreatDoor
open Go.RowKit
attribute [local go_sem] Oper.semAt_some
set_option linter.unusedVariables false

set_option maxRecDepth 100000 in
set_option maxHeartbeats 4000000 in
theorem check_parts (a b c : Int) (p : List UInt8) (hp : p.length ≤ 24) (hz : p ≠ []) (a1 : 0 ≤ a) (a2 : a ≤ 999999) (b1 : 0 ≤ b) (b2 : b ≤ 999999) (c1 : 0 ≤ c) (c2 : c ≤ 999999) (w : World) :
    Calls Tryz.prog 102 #[.agg #[.int .i64 a, .int .i64 b, .int .i64 c, .string ⟨p.toArray⟩]] w fun e w' => e = .returned (.int .i64 (chk ⟨a, b, c, p⟩)) ∧ Below w.heap.size w w' := by
  have HE : Hid (chk ⟨a, b, c, p⟩ = if (Sem.parts p).all Sem.part = true then 0 else 40) := Lib.hid (by
    rw [chk]
    have e : Sem.may ⟨a, b, c, p⟩ = (Sem.parts p).all Sem.part := by
      rw [Bool.eq_iff_iff, Sem.may_iff]
      have e2 : Sem.preOk p = (Sem.parts p).all Sem.part := by
        unfold Sem.preOk
        rw [show p.isEmpty = false from by simpa using hz, Bool.false_or]
      rw [e2]
      exact ⟨fun h => h.2.2.2.2, fun h => ⟨⟨a1, a2⟩, ⟨b1, b2⟩, ⟨c1, c2⟩, hp, h⟩⟩
    rw [e])
  have he : p.isEmpty = false := by simpa using hz
  have hsz : (⟨p.toArray⟩ : ByteArray).size = p.length := size_list _
  clear hz
  have da : decide (a < 0) = false := decide_eq_false (by omega)
  have db : decide (b < 0) = false := decide_eq_false (by omega)
  have dc : decide (c < 0) = false := decide_eq_false (by omega)
  have da2 : decide (999999 < a) = false := decide_eq_false (by omega)
  have db2 : decide (999999 < b) = false := decide_eq_false (by omega)
  have dc2 : decide (999999 < c) = false := decide_eq_false (by omega)
  have hx0 := arr3_0 a b c
  have hx1 := arr3_1 a b c
  have hx2 := arr3_2 a b c
  refine (callsIn_wide (n := 6)).1 ?_
  refine callsIn_of_wp_marks Tryz.func102 rfl trivial ?_ rfl
  simp only [Tryz.ntmps102, List.size_toArray, List.length_cons, List.length_nil, Nat.reduceAdd, Nat.reduceSub, Array.replicate_succ, Array.replicate_zero, List.push_toArray, List.append_toArray, List.nil_append, List.cons_append]
  gi_wp2_with fail
  gi_loopw [13] (fun i wr => Far a b c i ∧ wr = (w.alloc (Obj.cells #[Value.int IntKind.i64 a, Value.int IntKind.i64 b, Value.int IntKind.i64 c, Value.string ⟨p.toArray⟩] 70)).alloc (Obj.cells #[Value.int IntKind.i64 0] 25)) (fun i _ => 3 - (intOf i).toNat)
  case atStart => exact ⟨Or.inl rfl, rfl⟩
  case round =>
    obtain ⟨hfar, rfl⟩ := hrel
    rcases hfar with rfl | ⟨rfl, _, _⟩ | ⟨rfl, _, _, _, _⟩ | ⟨rfl, _, _, _, _, _, _⟩
    · gi_wp2
      go_roundw
      case rel => exact ⟨Or.inr (Or.inl ⟨rfl, a1, a2⟩), trivial⟩
      case measure => simp [intOf]
    · gi_wp2
      go_roundw
      case rel => exact ⟨Or.inr (Or.inr (Or.inl ⟨rfl, a1, a2, b1, b2⟩)), trivial⟩
      case measure => simp [intOf]
    · gi_wp2
      go_roundw
      case rel => exact ⟨Or.inr (Or.inr (Or.inr ⟨rfl, a1, a2, b1, b2, c1, c2⟩)), trivial⟩
      case measure => simp [intOf]
    · gi_wp2_with (refine ⟨trivial, ?_⟩; gi_at_call 112; refine (callsIn_wide.2 (seq_walk p _)).mono ?_; rintro e w' ⟨rfl, hS, hb⟩)
      simp only [World.size_alloc] at hS hb
      have hb0 : Below w.heap.size w w' := (below_new (below_one _ _) _).trans (hb.mono (by omega))
      have hc0 : w'.cell? ⟨w.heap.size + 1, 0, none⟩ = some (.int .i64 0) := (hb.cell (p := ⟨w.heap.size + 1, 0, none⟩) (by show w.heap.size + 1 < w.heap.size + 1 + 1; omega)).trans (by simp [go_sem])
      have hf0 : w'.frozen? ⟨w.heap.size + 1, 0, none⟩ = false := (hb.frozen (p := ⟨w.heap.size + 1, 0, none⟩) (by show w.heap.size + 1 < w.heap.size + 1 + 1; omega)).trans (by simp [go_sem])
      clear hb
      refine range_seq 6 (by omega) (w.heap.size + 1 + 1) p rfl hS hp rfl
        (fun pre W => Below w.heap.size w W ∧ W.cell? ⟨w.heap.size + 1, 0, none⟩ = some (.int .i64 0) ∧ W.frozen? ⟨w.heap.size + 1, 0, none⟩ = false ∧ pre.all Sem.part = true)
        (fun pre W => Below w.heap.size w W ∧ W.cell? ⟨w.heap.size + 1, 0, none⟩ = some (.int .i64 40) ∧ pre.all Sem.part = false)
        ?hI ?hIx ⟨hb0, hc0, hf0, rfl⟩
        (fun x => { tmps := #[.agg #[.int .i64 a, .int .i64 b, .int .i64 c, .string ⟨p.toArray⟩], .pointer (some ⟨w.heap.size, 0, none⟩), .pointer (some ⟨w.heap.size + 1, 0, none⟩), undef, u4, .string ⟨x.toArray⟩, .pointer (some ⟨w.heap.size, 0, none⟩), .int .i64 a,
          .pointer (some ⟨w.heap.size, 1, none⟩), .int .i64 b, .pointer (some ⟨w.heap.size, 2, none⟩), .int .i64 c, .agg #[.int .i64 a, .int .i64 b, .int .i64 c], .int .i64 3, .bool false, u15, u16, u17, u18, u19, u20, u21, u22, .pointer (some ⟨w.heap.size, 3, none⟩), .string ⟨p.toArray⟩, .bool false,
          .pointer (some ⟨w.heap.size, 3, none⟩), .string ⟨p.toArray⟩, .int .i64 p.length, .bool (decide ((24 : Int) < p.length)), .pointer (some ⟨w.heap.size, 3, none⟩), .string ⟨p.toArray⟩,
          .func (.func 128) #[] #[.pointer (some ⟨w.heap.size + 1 + 1 + 1, 0, none⟩), .pointer (some ⟨w.heap.size + 1 + 1, 0, none⟩), .pointer (some ⟨w.heap.size + 1 + 1 + 2, 0, none⟩)], .string ⟨x.toArray⟩, undef, undef, undef], defers := [] }) ?hassign ?hbody ?hdone ?hstop
      case hI =>
        rintro pre A B ⟨h1, h2, h3, h4⟩ hb
        exact ⟨h1.trans (hb.mono (by omega)), (hb.cell (p := ⟨w.heap.size + 1, 0, none⟩) (by show w.heap.size + 1 < w.heap.size + 1 + 1; omega)).trans h2, (hb.frozen (p := ⟨w.heap.size + 1, 0, none⟩) (by show w.heap.size + 1 < w.heap.size + 1 + 1; omega)).trans h3, h4⟩
      case hIx =>
        rintro pre A B ⟨h1, h2, h4⟩ hb
        exact ⟨h1.trans (hb.mono (by omega)), (hb.cell (p := ⟨w.heap.size + 1, 0, none⟩) (by show w.heap.size + 1 < w.heap.size + 1 + 1; omega)).trans h2, h4⟩
      case hassign =>
        intro l x W K hK
        gi_wp2
        exact hK
      case hbody =>
        rintro l pre x W ⟨h1, h2, h3, h4⟩ hx
        have hcon := fun W => CallsIn.inRound l (callsIn_wide (n := 6 - 1 - 1 - 1).2 (partMayBe_walk ⟨x.toArray⟩ (by rw [size_list]; omega) W))
        have hq0 : Sem.part (⟨x.toArray⟩ : ByteArray).data.toList = Sem.part x := rfl
        rw [hq0] at hcon
        cases hq : Sem.part x
        · have H4 : Hid ((pre ++ [x]).all Sem.part = false) := Lib.hid (by rw [List.all_append, h4]; simp [hq])
          rw [hq] at hcon
          clear hq hq0 h4
          gi_wp2_with (refine ⟨trivial, ?_⟩; gi_at_call 113; refine (hcon _).mono ?_; rintro e w' ⟨rfl, rfl⟩)
          exact ⟨KeepsOthers.setCell _ _ _, h1.setCell (p := ⟨w.heap.size + 1, 0, none⟩) (by show w.heap.size ≤ w.heap.size + 1; omega) _, World.cell?_setCell_same _ _ _ h2, H4.out⟩
        · have H4 : Hid ((pre ++ [x]).all Sem.part = true) := Lib.hid (by rw [List.all_append, h4]; simp [hq])
          rw [hq] at hcon
          clear hq hq0 h4
          gi_wp2_with (refine ⟨trivial, ?_⟩; gi_at_call 113; refine (hcon _).mono ?_; rintro e w' ⟨rfl, rfl⟩)
          exact ⟨KeepsOthers.refl _, Below.refl _ _, h1, h2, h3, H4.out⟩
      case hdone =>
        rintro D W ⟨h1, h2, h3, h4⟩ hK hD
        have HF : Hid (chk ⟨a, b, c, p⟩ = 0) := Lib.hid (by rw [HE.out, if_pos h4])
        clear h4 hc0 hf0
        gi_wp2
        have hDR : w.heap.size + 1 + 1 + 2 < D := Nat.lt_of_lt_of_le hS.1 hD
        have hK2 : (W.setCell ⟨w.heap.size + 1, 0, none⟩ (.int .i64 0)).heap[D]? = some (.deferred (some [])) := (Below.heap_setCell W ⟨w.heap.size + 1, 0, none⟩ _ D (by show D ≠ w.heap.size + 1; omega)).trans hK
        have hP := below_put (B := w.heap.size + 2) (W := W.setCell ⟨w.heap.size + 1, 0, none⟩ (.int .i64 0)) (l := D) (.deferred none) (by omega)
        have hc5 := (hP.cell (p := ⟨w.heap.size + 1, 0, none⟩) (by show w.heap.size + 1 < w.heap.size + 2; omega)).trans (World.cell?_setCell_same _ _ (.int .i64 0) h2)
        have hB5 : Below w.heap.size w ((W.setCell ⟨w.heap.size + 1, 0, none⟩ (.int .i64 0)).putObj D (.deferred none)) := (h1.setCell (p := ⟨w.heap.size + 1, 0, none⟩) (by show w.heap.size ≤ w.heap.size + 1; omega) _).trans (hP.mono (by omega))
        refine ⟨by simp, .inl ⟨_, _, rfl, run_takeDeferred hK2, ?_⟩⟩
        generalize (W.setCell ⟨w.heap.size + 1, 0, none⟩ (.int .i64 0)).putObj D (.deferred none) = W5 at hc5 hB5 ⊢
        refine ⟨.int .i64 0, by simp [results, Tryz.results102, go_sem, hc5], ?_⟩
        exact ⟨by rw [HF.out], hB5⟩
      case hstop =>
        rintro D pre suf W hps ⟨h1, h2, h4⟩ hK hD
        have HF : Hid (chk ⟨a, b, c, p⟩ = 40) := Lib.hid (by
          rw [HE.out, if_neg]
          rw [← hps, List.all_append, h4]; simp)
        clear h4 hc0 hf0 hps
        gi_wp2
        have hDR : w.heap.size + 1 + 1 + 2 < D := Nat.lt_of_lt_of_le hS.1 hD
        have hP := below_put (B := w.heap.size + 2) (W := W) (l := D) (.deferred none) (by omega)
        have hc5 := (hP.cell (p := ⟨w.heap.size + 1, 0, none⟩) (by show w.heap.size + 1 < w.heap.size + 2; omega)).trans h2
        have hB5 : Below w.heap.size w (W.putObj D (.deferred none)) := h1.trans (hP.mono (by omega))
        refine ⟨by simp, .inl ⟨_, _, rfl, run_takeDeferred hK, ?_⟩⟩
        generalize W.putObj D (.deferred none) = W5 at hc5 hB5 ⊢
        refine ⟨.int .i64 40, by simp [results, Tryz.results102, go_sem, hc5], ?_⟩
        exact ⟨by rw [HF.out], hB5⟩

theorem check_walk (v : Sem.Ver) (hs : v.pre.length ≤ 9223372036854775807) (w : World) :
    Calls Tryz.prog 102 #[verV v] w fun e w' => e = .returned (.int .i64 (chk v)) ∧ Below w.heap.size w w' := by
  obtain ⟨a, b, c, p⟩ := v
  unfold verV
  simp only at hs
  by_cases hn : (0 ≤ a ∧ a ≤ 999999) ∧ (0 ≤ b ∧ b ≤ 999999) ∧ (0 ≤ c ∧ c ≤ 999999)
  · obtain ⟨⟨a1, a2⟩, ⟨b1, b2⟩, ⟨c1, c2⟩⟩ := hn
    by_cases hz : p = []
    · subst hz; exact check_none a b c a1 a2 b1 b2 c1 c2 w
    · by_cases hp : p.length ≤ 24
      · exact check_parts a b c p hp hz a1 a2 b1 b2 c1 c2 w
      · exact check_long a b c p (by omega) (by omega) a1 a2 b1 b2 c1 c2 w
  · exact check_bad a b c p hn w
end Go.Proofs.YtebphmkefpaeaaaGreatDoor
