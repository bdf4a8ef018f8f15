/- ShelfSem, SemCut, SemOwn1, SemOwn2, SemCmpOwn, SemCmpOwn2, SemCmpOwn3, Orders2, Orders3, SemCmpAll, SemSeq, SemRange, SemCheckOwn, SemCheckOwn2, together. -/
import Derived.Shelf.Strings.Search3
import Derived.Shelf.Strings.Search2
import Derived.Shelf.Strconv.AtoiAll
import Derived.Shelf.Strconv.Itoa3
import Derived.Shelf.Strings.Trim
import Derived.Shelf.Strconv.Clone
import Derived.Shelf.Small.Strs
import Derived.Shelf.Small.Wraps
import Derived.Test.YthjombepcmebfaaGreatDoorProg
import Derived.Test.YthjombepcmebfaaGreatDoorGPure
import Derived.Test.YthjombepcmebfaaGreatDoorGSemA
import Derived.WalkKit
import Derived.Below
import Derived.Lib.Hide
import Derived.Lib.IndexBytes
import Derived.Lib.CutLaws
import Derived.Shelf.RegionOpenPlain
import Derived.IntWalk
import Derived.Deep.RegionHeld3
import Derived.StillTailTactics
import Derived.RangeFuncFrom
import Derived.RangeFuncCalls
import Derived.RangeFuncLeaves
import Derived.RangeFuncRecord
import Derived.Shelf.Abstract
import Derived.Shelf.RegionOpen
import Derived.OwnWalkIn
import Derived.TacticsInMore
import Derived.LoopNIn
import Derived.LoopIn
/- The library contracts that layer 4 uses (strings.Index at one byte, strings.Compare, strings.TrimLeft at one byte, strconv.Atoi, strconv.Itoa, strings.Clone, cmp.Compare), stated at this translation's numbers: each is one application of a contract of the library. -/
namespace Go.Proofs
open Go.Shelf
def Tryz.lays143_ren : Go.Shelf.Ren := ⟨fun | 143 => 84 | 219 => 104 | 217 => 117 | 225 => 118 | 224 => 119 | 267 => 120 | 266 => 129 | 314 => 130 | n => n, fun | 9 => 9 | 3 => 3 | 4 => 4 | 5 => 5 | 46 => 139 | 146 => 157 | 51 => 156 | n => n, fun | 1 => 1 | n => n⟩
theorem Tryz.lays143 : Go.Proofs.Lays.n143 Tryz.prog Tryz.lays143_ren := {
  mixed := by kernel_rfl
  f143 := Tryz.func84.trans (congrArg some (by kernel_rfl))
  f217 := Tryz.func117.trans (congrArg some (by kernel_rfl))
  f219 := Tryz.func104.trans (congrArg some (by kernel_rfl))
  f224 := Tryz.func119.trans (congrArg some (by kernel_rfl))
  f225 := Tryz.func118.trans (congrArg some (by kernel_rfl))
  f266 := Tryz.func129.trans (congrArg some (by kernel_rfl))
  f267 := Tryz.func120.trans (congrArg some (by kernel_rfl))
  f314 := Tryz.func130.trans (congrArg some (by kernel_rfl))
  t3 := Tryz.underlying3
  a3 := Tryz.isAgg3
  z3 := Tryz.sizeOf3
  v3 := Tryz.zeroValue3
  t4 := Tryz.underlying4
  a4 := Tryz.isAgg4
  z4 := Tryz.sizeOf4
  v4 := Tryz.zeroValue4
  t5 := Tryz.underlying5
  a5 := Tryz.isAgg5
  z5 := Tryz.sizeOf5
  v5 := Tryz.zeroValue5
  t9 := Tryz.underlying9
  a9 := Tryz.isAgg9
  z9 := Tryz.sizeOf9
  v9 := Tryz.zeroValue9
  t46 := Tryz.underlying139
  a46 := Tryz.isAgg139
  z46 := Tryz.sizeOf139
  v46 := Tryz.zeroValue139
  t51 := Tryz.underlying156
  a51 := Tryz.isAgg156
  z51 := Tryz.sizeOf156
  v51 := Tryz.zeroValue156
  t146 := Tryz.underlying157
  a146 := Tryz.isAgg157
  z146 := Tryz.sizeOf157
  v146 := Tryz.zeroValue157
  g1 := by kernel_rfl }
def Tryz.lays219_ren : Go.Shelf.Ren := ⟨fun | 219 => 104 | 217 => 117 | 225 => 118 | 224 => 119 | 267 => 120 | 266 => 129 | 314 => 130 | n => n, fun | 9 => 9 | 3 => 3 | 4 => 4 | 5 => 5 | 46 => 139 | 146 => 157 | 51 => 156 | n => n, fun | 1 => 1 | n => n⟩
theorem Tryz.lays219 : Go.Proofs.Lays.n219 Tryz.prog Tryz.lays219_ren := {
  mixed := by kernel_rfl
  f217 := Tryz.func117.trans (congrArg some (by kernel_rfl))
  f219 := Tryz.func104.trans (congrArg some (by kernel_rfl))
  f224 := Tryz.func119.trans (congrArg some (by kernel_rfl))
  f225 := Tryz.func118.trans (congrArg some (by kernel_rfl))
  f266 := Tryz.func129.trans (congrArg some (by kernel_rfl))
  f267 := Tryz.func120.trans (congrArg some (by kernel_rfl))
  f314 := Tryz.func130.trans (congrArg some (by kernel_rfl))
  t3 := Tryz.underlying3
  a3 := Tryz.isAgg3
  z3 := Tryz.sizeOf3
  v3 := Tryz.zeroValue3
  t4 := Tryz.underlying4
  a4 := Tryz.isAgg4
  z4 := Tryz.sizeOf4
  v4 := Tryz.zeroValue4
  t5 := Tryz.underlying5
  a5 := Tryz.isAgg5
  z5 := Tryz.sizeOf5
  v5 := Tryz.zeroValue5
  t9 := Tryz.underlying9
  a9 := Tryz.isAgg9
  z9 := Tryz.sizeOf9
  v9 := Tryz.zeroValue9
  t46 := Tryz.underlying139
  a46 := Tryz.isAgg139
  z46 := Tryz.sizeOf139
  v46 := Tryz.zeroValue139
  t51 := Tryz.underlying156
  a51 := Tryz.isAgg156
  z51 := Tryz.sizeOf156
  v51 := Tryz.zeroValue156
  t146 := Tryz.underlying157
  a146 := Tryz.isAgg157
  z146 := Tryz.sizeOf157
  v146 := Tryz.zeroValue157
  g1 := by kernel_rfl }
def Tryz.lays172_ren : Go.Shelf.Ren := ⟨fun | 172 => 80 | 244 => 99 | 245 => 100 | 247 => 112 | 279 => 113 | 280 => 114 | 281 => 115 | 282 => 116 | 287 => 127 | 316 => 101 | 171 => 59 | 205 => 128 | 321 => 138 | 322 => 139 | 243 => 89 | 246 => 107 | 283 => 122 | 284 => 123 | 285 => 124 | 286 => 125 | 129 => 134 | 317 => 133 | 318 => 135 | 319 => 136 | 320 => 137 | 337 => 140 | 338 => 141 | n => n, fun | 9 => 9 | 3 => 3 | 75 => 101 | 76 => 102 | 4 => 4 | 5 => 5 | 167 => 132 | 37 => 96 | 0 => 0 | 85 => 133 | 2 => 2 | 168 => 135 | 53 => 142 | 175 => 151 | 46 => 139 | 210 => 154 | 127 => 121 | 145 => 167 | 143 => 165 | 21 => 21 | 171 => 141 | 173 => 145 | 212 => 161 | 51 => 156 | 20 => 20 | 213 => 162 | 232 => 169 | 233 => 170 | 80 => 104 | n => n, fun | 15 => 4 | 16 => 5 | 17 => 6 | 18 => 7 | 19 => 8 | n => n⟩
theorem Tryz.lays172 : Go.Proofs.LaysC.n172 Tryz.prog Tryz.lays172_ren := {
  mixed := by kernel_rfl
  f129 := Tryz.func134.trans (congrArg some (by kernel_rfl))
  f171 := Tryz.func59.trans (congrArg some (by kernel_rfl))
  f172 := Tryz.func80.trans (congrArg some (by kernel_rfl))
  f205 := Tryz.func128.trans (congrArg some (by kernel_rfl))
  f243 := Tryz.func89.trans (congrArg some (by kernel_rfl))
  f244 := Tryz.func99.trans (congrArg some (by kernel_rfl))
  f245 := Tryz.func100.trans (congrArg some (by kernel_rfl))
  f246 := Tryz.func107.trans (congrArg some (by kernel_rfl))
  f247 := Tryz.func112.trans (congrArg some (by kernel_rfl))
  f279 := Tryz.func113.trans (congrArg some (by kernel_rfl))
  f280 := Tryz.func114.trans (congrArg some (by kernel_rfl))
  f281 := Tryz.func115.trans (congrArg some (by kernel_rfl))
  f282 := Tryz.func116.trans (congrArg some (by kernel_rfl))
  f283 := Tryz.func122.trans (congrArg some (by kernel_rfl))
  f284 := Tryz.func123.trans (congrArg some (by kernel_rfl))
  f285 := Tryz.func124.trans (congrArg some (by kernel_rfl))
  f286 := Tryz.func125.trans (congrArg some (by kernel_rfl))
  f287 := Tryz.func127.trans (congrArg some (by kernel_rfl))
  f316 := Tryz.func101.trans (congrArg some (by kernel_rfl))
  f317 := Tryz.func133.trans (congrArg some (by kernel_rfl))
  f318 := Tryz.func135.trans (congrArg some (by kernel_rfl))
  f319 := Tryz.func136.trans (congrArg some (by kernel_rfl))
  f320 := Tryz.func137.trans (congrArg some (by kernel_rfl))
  f321 := Tryz.func138.trans (congrArg some (by kernel_rfl))
  f322 := Tryz.func139.trans (congrArg some (by kernel_rfl))
  f337 := Tryz.func140.trans (congrArg some (by kernel_rfl))
  f338 := Tryz.func141.trans (congrArg some (by kernel_rfl))
  t0 := Tryz.underlying0
  a0 := Tryz.isAgg0
  z0 := Tryz.sizeOf0
  v0 := Tryz.zeroValue0
  t2 := Tryz.underlying2
  a2 := Tryz.isAgg2
  z2 := Tryz.sizeOf2
  v2 := Tryz.zeroValue2
  t3 := Tryz.underlying3
  a3 := Tryz.isAgg3
  z3 := Tryz.sizeOf3
  v3 := Tryz.zeroValue3
  t4 := Tryz.underlying4
  a4 := Tryz.isAgg4
  z4 := Tryz.sizeOf4
  v4 := Tryz.zeroValue4
  t5 := Tryz.underlying5
  a5 := Tryz.isAgg5
  z5 := Tryz.sizeOf5
  v5 := Tryz.zeroValue5
  t9 := Tryz.underlying9
  a9 := Tryz.isAgg9
  z9 := Tryz.sizeOf9
  v9 := Tryz.zeroValue9
  t20 := Tryz.underlying20
  a20 := Tryz.isAgg20
  z20 := Tryz.sizeOf20
  v20 := Tryz.zeroValue20
  t21 := Tryz.underlying21
  a21 := Tryz.isAgg21
  z21 := Tryz.sizeOf21
  v21 := Tryz.zeroValue21
  t37 := Tryz.underlying96
  a37 := Tryz.isAgg96
  z37 := Tryz.sizeOf96
  v37 := Tryz.zeroValue96
  t46 := Tryz.underlying139
  a46 := Tryz.isAgg139
  z46 := Tryz.sizeOf139
  v46 := Tryz.zeroValue139
  t51 := Tryz.underlying156
  a51 := Tryz.isAgg156
  z51 := Tryz.sizeOf156
  v51 := Tryz.zeroValue156
  t53 := Tryz.underlying142
  a53 := Tryz.isAgg142
  z53 := Tryz.sizeOf142
  v53 := Tryz.zeroValue142
  t75 := Tryz.underlying101
  a75 := Tryz.isAgg101
  z75 := Tryz.sizeOf101
  v75 := Tryz.zeroValue101
  t76 := Tryz.underlying102
  a76 := Tryz.isAgg102
  z76 := Tryz.sizeOf102
  v76 := Tryz.zeroValue102
  t85 := Tryz.underlying133
  a85 := Tryz.isAgg133
  z85 := Tryz.sizeOf133
  v85 := Tryz.zeroValue133
  t127 := Tryz.underlying121
  a127 := Tryz.isAgg121
  z127 := Tryz.sizeOf121
  v127 := Tryz.zeroValue121
  t143 := Tryz.underlying165
  a143 := Tryz.isAgg165
  z143 := Tryz.sizeOf165
  v143 := Tryz.zeroValue165
  t145 := Tryz.underlying167
  a145 := Tryz.isAgg167
  z145 := Tryz.sizeOf167
  v145 := Tryz.zeroValue167
  t167 := Tryz.underlying132
  a167 := Tryz.isAgg132
  z167 := Tryz.sizeOf132
  v167 := Tryz.zeroValue132
  t168 := Tryz.underlying135
  a168 := Tryz.isAgg135
  z168 := Tryz.sizeOf135
  v168 := Tryz.zeroValue135
  t171 := Tryz.underlying141
  a171 := Tryz.isAgg141
  z171 := Tryz.sizeOf141
  v171 := Tryz.zeroValue141
  t173 := Tryz.underlying145
  a173 := Tryz.isAgg145
  z173 := Tryz.sizeOf145
  v173 := Tryz.zeroValue145
  t175 := Tryz.underlying151
  a175 := Tryz.isAgg151
  z175 := Tryz.sizeOf151
  v175 := Tryz.zeroValue151
  t210 := Tryz.underlying154
  a210 := Tryz.isAgg154
  z210 := Tryz.sizeOf154
  v210 := Tryz.zeroValue154
  t212 := Tryz.underlying161
  a212 := Tryz.isAgg161
  z212 := Tryz.sizeOf161
  v212 := Tryz.zeroValue161
  t213 := Tryz.underlying162
  a213 := Tryz.isAgg162
  z213 := Tryz.sizeOf162
  t232 := Tryz.underlying169
  a232 := Tryz.isAgg169
  z232 := Tryz.sizeOf169
  v232 := Tryz.zeroValue169
  t233 := Tryz.underlying170
  a233 := Tryz.isAgg170
  z233 := Tryz.sizeOf170
  v233 := Tryz.zeroValue170
  g15 := by kernel_rfl
  g16 := by kernel_rfl
  g17 := by kernel_rfl
  g18 := by kernel_rfl
  g19 := by kernel_rfl
  t80 := Tryz.underlying104
  a80 := Tryz.isAgg104
  z80 := Tryz.sizeOf104
  v80 := Tryz.zeroValue104
  i0 := by kernel_rfl
  i2 := by kernel_rfl
  i3 := by kernel_rfl
  i4 := by kernel_rfl
  i5 := by kernel_rfl
  i9 := by kernel_rfl
  i20 := by kernel_rfl
  i21 := by kernel_rfl
  i37 := by kernel_rfl
  i46 := by kernel_rfl
  i51 := by kernel_rfl
  i53 := by kernel_rfl
  i75 := by kernel_rfl
  i76 := by kernel_rfl
  i80 := by kernel_rfl
  i85 := by kernel_rfl
  i127 := by kernel_rfl
  i143 := by kernel_rfl
  i145 := by kernel_rfl
  i167 := by kernel_rfl
  i168 := by kernel_rfl
  i171 := by kernel_rfl
  i173 := by kernel_rfl
  i175 := by kernel_rfl
  i210 := by kernel_rfl
  i212 := by kernel_rfl
  i232 := by kernel_rfl
  i233 := by kernel_rfl
  m15 := by kernel_rfl
  m16 := by kernel_rfl
  m17 := by kernel_rfl
  m18 := by kernel_rfl
  m19 := by kernel_rfl
  c0 := by kernel_rfl
  c2 := by kernel_rfl
  c3 := by kernel_rfl
  c4 := by kernel_rfl
  c5 := by kernel_rfl
  c9 := by kernel_rfl
  c20 := by kernel_rfl
  c21 := by kernel_rfl
  c37 := by kernel_rfl
  c46 := by kernel_rfl
  c51 := by kernel_rfl
  c53 := by kernel_rfl
  c75 := by kernel_rfl
  c76 := by kernel_rfl
  c80 := by kernel_rfl
  c85 := by kernel_rfl
  c127 := by kernel_rfl
  c143 := by kernel_rfl
  c145 := by kernel_rfl
  c167 := by kernel_rfl
  c168 := by kernel_rfl
  c171 := by kernel_rfl
  c173 := by kernel_rfl
  c175 := by kernel_rfl
  c210 := by kernel_rfl
  c212 := by kernel_rfl
  c213 := by kernel_rfl
  c232 := by kernel_rfl
  c233 := by kernel_rfl }
def Tryz.laysM171_ren : Go.Shelf.Ren := ⟨fun | 171 => 59 | 243 => 89 | 246 => 107 | 283 => 122 | 284 => 123 | 285 => 124 | 286 => 125 | 129 => 134 | 317 => 133 | 318 => 135 | 319 => 136 | 320 => 137 | 337 => 140 | 338 => 141 | n => n, fun | 3 => 3 | 9 => 9 | 2 => 2 | 4 => 4 | 171 => 141 | 0 => 0 | 53 => 142 | 37 => 96 | 5 => 5 | 173 => 145 | 212 => 161 | 51 => 156 | 20 => 20 | 213 => 162 | 46 => 139 | 232 => 169 | 233 => 170 | n => n, fun | 17 => 6 | 18 => 7 | 19 => 8 | n => n⟩
theorem Tryz.laysM171 : Go.Proofs.LaysM.n171 Tryz.prog Tryz.laysM171_ren := {
  mixed := by kernel_rfl
  f129 := Tryz.func134.trans (congrArg some (by kernel_rfl))
  f171 := Tryz.func59.trans (congrArg some (by kernel_rfl))
  f243 := Tryz.func89.trans (congrArg some (by kernel_rfl))
  f246 := Tryz.func107.trans (congrArg some (by kernel_rfl))
  f283 := Tryz.func122.trans (congrArg some (by kernel_rfl))
  f284 := Tryz.func123.trans (congrArg some (by kernel_rfl))
  f285 := Tryz.func124.trans (congrArg some (by kernel_rfl))
  f286 := Tryz.func125.trans (congrArg some (by kernel_rfl))
  f317 := Tryz.func133.trans (congrArg some (by kernel_rfl))
  f318 := Tryz.func135.trans (congrArg some (by kernel_rfl))
  f319 := Tryz.func136.trans (congrArg some (by kernel_rfl))
  f320 := Tryz.func137.trans (congrArg some (by kernel_rfl))
  f337 := Tryz.func140.trans (congrArg some (by kernel_rfl))
  f338 := Tryz.func141.trans (congrArg some (by kernel_rfl))
  t0 := Tryz.underlying0
  a0 := Tryz.isAgg0
  z0 := Tryz.sizeOf0
  v0 := Tryz.zeroValue0
  t2 := Tryz.underlying2
  a2 := Tryz.isAgg2
  z2 := Tryz.sizeOf2
  v2 := Tryz.zeroValue2
  t3 := Tryz.underlying3
  a3 := Tryz.isAgg3
  z3 := Tryz.sizeOf3
  v3 := Tryz.zeroValue3
  t4 := Tryz.underlying4
  a4 := Tryz.isAgg4
  z4 := Tryz.sizeOf4
  v4 := Tryz.zeroValue4
  t5 := Tryz.underlying5
  a5 := Tryz.isAgg5
  z5 := Tryz.sizeOf5
  v5 := Tryz.zeroValue5
  t9 := Tryz.underlying9
  a9 := Tryz.isAgg9
  z9 := Tryz.sizeOf9
  v9 := Tryz.zeroValue9
  t20 := Tryz.underlying20
  a20 := Tryz.isAgg20
  z20 := Tryz.sizeOf20
  v20 := Tryz.zeroValue20
  t37 := Tryz.underlying96
  a37 := Tryz.isAgg96
  z37 := Tryz.sizeOf96
  v37 := Tryz.zeroValue96
  t46 := Tryz.underlying139
  a46 := Tryz.isAgg139
  z46 := Tryz.sizeOf139
  v46 := Tryz.zeroValue139
  t51 := Tryz.underlying156
  a51 := Tryz.isAgg156
  z51 := Tryz.sizeOf156
  v51 := Tryz.zeroValue156
  t53 := Tryz.underlying142
  a53 := Tryz.isAgg142
  z53 := Tryz.sizeOf142
  v53 := Tryz.zeroValue142
  t171 := Tryz.underlying141
  a171 := Tryz.isAgg141
  z171 := Tryz.sizeOf141
  v171 := Tryz.zeroValue141
  t173 := Tryz.underlying145
  a173 := Tryz.isAgg145
  z173 := Tryz.sizeOf145
  v173 := Tryz.zeroValue145
  t212 := Tryz.underlying161
  a212 := Tryz.isAgg161
  z212 := Tryz.sizeOf161
  v212 := Tryz.zeroValue161
  t213 := Tryz.underlying162
  a213 := Tryz.isAgg162
  z213 := Tryz.sizeOf162
  t232 := Tryz.underlying169
  a232 := Tryz.isAgg169
  z232 := Tryz.sizeOf169
  v232 := Tryz.zeroValue169
  t233 := Tryz.underlying170
  a233 := Tryz.isAgg170
  z233 := Tryz.sizeOf170
  v233 := Tryz.zeroValue170
  g17 := by kernel_rfl
  g18 := by kernel_rfl
  g19 := by kernel_rfl
  i0 := by kernel_rfl
  i2 := by kernel_rfl
  i3 := by kernel_rfl
  i4 := by kernel_rfl
  i5 := by kernel_rfl
  i9 := by kernel_rfl
  i20 := by kernel_rfl
  i37 := by kernel_rfl
  i46 := by kernel_rfl
  i51 := by kernel_rfl
  i53 := by kernel_rfl
  i171 := by kernel_rfl
  i173 := by kernel_rfl
  i212 := by kernel_rfl
  i232 := by kernel_rfl
  i233 := by kernel_rfl
  m17 := by kernel_rfl
  m18 := by kernel_rfl
  m19 := by kernel_rfl }
def Tryz.lays161_ren : Go.Shelf.Ren := ⟨fun | 161 => 57 | 231 => 85 | 227 => 86 | 233 => 87 | 235 => 88 | 228 => 105 | 197 => 95 | 151 => 106 | 260 => 110 | 152 => 121 | 137 => 131 | 119 => 132 | 224 => 119 | 225 => 118 | 217 => 117 | 266 => 129 | n => n, fun | 9 => 9 | 4 => 4 | 3 => 3 | 5 => 5 | 117 => 117 | 116 => 116 | 0 => 0 | 124 => 120 | 105 => 122 | 21 => 21 | 119 => 147 | 46 => 139 | 139 => 150 | 138 => 149 | n => n, fun | 3 => 2 | 4 => 3 | n => n⟩
theorem Tryz.lays161 : Go.Proofs.Lays.n161 Tryz.prog Tryz.lays161_ren := {
  mixed := by kernel_rfl
  f119 := Tryz.func132.trans (congrArg some (by kernel_rfl))
  f137 := Tryz.func131.trans (congrArg some (by kernel_rfl))
  f151 := Tryz.func106.trans (congrArg some (by kernel_rfl))
  f152 := Tryz.func121.trans (congrArg some (by kernel_rfl))
  f161 := Tryz.func57.trans (congrArg some (by kernel_rfl))
  f197 := Tryz.func95.trans (congrArg some (by kernel_rfl))
  f217 := Tryz.func117.trans (congrArg some (by kernel_rfl))
  f224 := Tryz.func119.trans (congrArg some (by kernel_rfl))
  f225 := Tryz.func118.trans (congrArg some (by kernel_rfl))
  f227 := Tryz.func86.trans (congrArg some (by kernel_rfl))
  f228 := Tryz.func105.trans (congrArg some (by kernel_rfl))
  f231 := Tryz.func85.trans (congrArg some (by kernel_rfl))
  f233 := Tryz.func87.trans (congrArg some (by kernel_rfl))
  f235 := Tryz.func88.trans (congrArg some (by kernel_rfl))
  f260 := Tryz.func110.trans (congrArg some (by kernel_rfl))
  f266 := Tryz.func129.trans (congrArg some (by kernel_rfl))
  t0 := Tryz.underlying0
  a0 := Tryz.isAgg0
  z0 := Tryz.sizeOf0
  v0 := Tryz.zeroValue0
  t3 := Tryz.underlying3
  a3 := Tryz.isAgg3
  z3 := Tryz.sizeOf3
  v3 := Tryz.zeroValue3
  t4 := Tryz.underlying4
  a4 := Tryz.isAgg4
  z4 := Tryz.sizeOf4
  v4 := Tryz.zeroValue4
  t5 := Tryz.underlying5
  a5 := Tryz.isAgg5
  z5 := Tryz.sizeOf5
  v5 := Tryz.zeroValue5
  t9 := Tryz.underlying9
  a9 := Tryz.isAgg9
  z9 := Tryz.sizeOf9
  v9 := Tryz.zeroValue9
  t21 := Tryz.underlying21
  a21 := Tryz.isAgg21
  z21 := Tryz.sizeOf21
  v21 := Tryz.zeroValue21
  t46 := Tryz.underlying139
  a46 := Tryz.isAgg139
  z46 := Tryz.sizeOf139
  v46 := Tryz.zeroValue139
  t105 := Tryz.underlying122
  a105 := Tryz.isAgg122
  z105 := Tryz.sizeOf122
  v105 := Tryz.zeroValue122
  t116 := Tryz.underlying116
  a116 := Tryz.isAgg116
  z116 := Tryz.sizeOf116
  t117 := Tryz.underlying117
  a117 := Tryz.isAgg117
  z117 := Tryz.sizeOf117
  v117 := Tryz.zeroValue117
  t119 := Tryz.underlying147
  a119 := Tryz.isAgg147
  z119 := Tryz.sizeOf147
  t124 := Tryz.underlying120
  a124 := Tryz.isAgg120
  z124 := Tryz.sizeOf120
  v124 := Tryz.zeroValue120
  t138 := Tryz.underlying149
  a138 := Tryz.isAgg149
  z138 := Tryz.sizeOf149
  v138 := Tryz.zeroValue149
  t139 := Tryz.underlying150
  a139 := Tryz.isAgg150
  z139 := Tryz.sizeOf150
  v139 := Tryz.zeroValue150
  g3 := by kernel_rfl
  g4 := by kernel_rfl }
def Tryz.laysM316_ren : Go.Shelf.Ren := ⟨fun | 316 => 101 | n => n, fun | 9 => 9 | 3 => 3 | 4 => 4 | 37 => 96 | 0 => 0 | 127 => 121 | 5 => 5 | n => n, fun | n => n⟩
theorem Tryz.laysM316 : Go.Proofs.LaysM.n316 Tryz.prog Tryz.laysM316_ren := {
  mixed := by kernel_rfl
  f316 := Tryz.func101.trans (congrArg some (by kernel_rfl))
  t0 := Tryz.underlying0
  a0 := Tryz.isAgg0
  z0 := Tryz.sizeOf0
  v0 := Tryz.zeroValue0
  t3 := Tryz.underlying3
  a3 := Tryz.isAgg3
  z3 := Tryz.sizeOf3
  v3 := Tryz.zeroValue3
  t4 := Tryz.underlying4
  a4 := Tryz.isAgg4
  z4 := Tryz.sizeOf4
  v4 := Tryz.zeroValue4
  t9 := Tryz.underlying9
  a9 := Tryz.isAgg9
  z9 := Tryz.sizeOf9
  v9 := Tryz.zeroValue9
  t37 := Tryz.underlying96
  a37 := Tryz.isAgg96
  z37 := Tryz.sizeOf96
  v37 := Tryz.zeroValue96
  t127 := Tryz.underlying121
  a127 := Tryz.isAgg121
  z127 := Tryz.sizeOf121
  v127 := Tryz.zeroValue121
  t5 := Tryz.underlying5
  a5 := Tryz.isAgg5
  z5 := Tryz.sizeOf5
  v5 := Tryz.zeroValue5
  i0 := by kernel_rfl
  i3 := by kernel_rfl
  i4 := by kernel_rfl
  i5 := by kernel_rfl
  i9 := by kernel_rfl
  i37 := by kernel_rfl
  i127 := by kernel_rfl }
def Tryz.lays106_ren : Go.Shelf.Ren := ⟨fun | 106 => 98 | 213 => 111 | 265 => 126 | n => n, fun | 9 => 9 | 3 => 3 | n => n, fun | n => n⟩
theorem Tryz.lays106 : Go.Proofs.Lays.n106 Tryz.prog Tryz.lays106_ren := {
  mixed := by kernel_rfl
  f106 := Tryz.func98.trans (congrArg some (by kernel_rfl))
  f213 := Tryz.func111.trans (congrArg some (by kernel_rfl))
  f265 := Tryz.func126.trans (congrArg some (by kernel_rfl))
  t3 := Tryz.underlying3
  a3 := Tryz.isAgg3
  z3 := Tryz.sizeOf3
  v3 := Tryz.zeroValue3
  t9 := Tryz.underlying9
  a9 := Tryz.isAgg9
  z9 := Tryz.sizeOf9
  v9 := Tryz.zeroValue9 }
def Tryz.lays122_ren : Go.Shelf.Ren := ⟨fun | 122 => 53 | 215 => 78 | n => n, fun | 3 => 3 | 4 => 4 | n => n, fun | n => n⟩
theorem Tryz.lays122 : Go.Proofs.Lays.n122 Tryz.prog Tryz.lays122_ren := {
  mixed := by kernel_rfl
  f122 := Tryz.func53.trans (congrArg some (by kernel_rfl))
  f215 := Tryz.func78.trans (congrArg some (by kernel_rfl))
  t3 := Tryz.underlying3
  a3 := Tryz.isAgg3
  z3 := Tryz.sizeOf3
  v3 := Tryz.zeroValue3
  t4 := Tryz.underlying4
  a4 := Tryz.isAgg4
  z4 := Tryz.sizeOf4
  v4 := Tryz.zeroValue4 }
end Go.Proofs

/- strings.Cut at one byte, for every text. -/
namespace Go.Proofs.YthjombepcmebfaaGreatDoor
open Go.RowKit
set_option linter.unusedVariables false

theorem lib_cut (c : UInt8) : ∀ l : List UInt8, Lib.cut l [c] = Sem.cut c l
  | [] => by simp [Lib.cut, Lib.index, Sem.cut]
  | d :: r => by
    have ih := lib_cut c r
    have hge := Lib.indexByte_ge r c
    unfold Lib.cut at ih ⊢
    rw [Lib.index_one] at ih ⊢
    rw [Sem.cut]
    unfold Lib.indexByte
    by_cases h : d = c
    · subst h
      simp
    · have hb : (d == c) = false := by simpa using h
      rw [hb, if_neg h]
      simp only [Bool.false_eq_true, if_false]
      by_cases h2 : Lib.indexByte r c = -1
      · rw [h2] at ih ⊢
        simp at ih ⊢
        rw [← ih]
        simp
      · have h3 : (Lib.indexByte r c == -1) = false := by simpa using h2
        rw [h3]
        simp only [Bool.false_eq_true, if_false]
        rw [if_pos (by omega)] at ih
        rw [if_pos (by omega), ← ih]
        have e : (Lib.indexByte r c + 1).toNat = (Lib.indexByte r c).toNat + 1 := by omega
        rw [e]
        simp

/-- What Cut tells. -/
def cutR (c : UInt8) (l : List UInt8) : Value := .tuple #[.string ⟨(Sem.cut c l).1.toArray⟩, .string ⟨(Sem.cut c l).2.1.toArray⟩, .bool (Sem.cut c l).2.2]

set_option maxHeartbeats 2000000 in
set_option maxRecDepth 100000 in
theorem liteCut_walk (s : ByteArray) (c : UInt8) (hs : s.size ≤ 4611686018427387904) (w : World) :
    Calls Tryz.prog 96 #[.string s, .string ⟨#[c]⟩] w fun e w' => e = .returned (cutR c s.data.toList) ∧ Below w.heap.size w w' := by
  have hsz : (⟨#[c]⟩ : ByteArray).size = 1 := rfl
  have hI : ∀ w, Calls Tryz.prog 104 #[.string s, .string ⟨#[c]⟩] w fun e w' => e = .returned (.int .i64 (Lib.indexB s ⟨#[c]⟩)) ∧ w' = w := fun w => by
    have := Any.stringslite_Index_one Tryz.lays219 s c w
    rw [← Lib.index_one] at this
    exact this
  have hc := lib_cut c s.data.toList
  have HC : Hid (cutR c s.data.toList = .tuple #[.string ⟨(Lib.cut s.data.toList (⟨#[c]⟩ : ByteArray).data.toList).1.toArray⟩, .string ⟨(Lib.cut s.data.toList (⟨#[c]⟩ : ByteArray).data.toList).2.1.toArray⟩, .bool (Lib.cut s.data.toList (⟨#[c]⟩ : ByteArray).data.toList).2.2]) := Lib.hid (by
    show _ = Value.tuple #[.string ⟨(Lib.cut s.data.toList [c]).1.toArray⟩, .string ⟨(Lib.cut s.data.toList [c]).2.1.toArray⟩, .bool (Lib.cut s.data.toList [c]).2.2]
    rw [hc]; rfl)
  clear hc
  rcases Lib.indexB_cases s ⟨#[c]⟩ with hix | ⟨i, hix, hroom⟩
  · obtain ⟨e1, e2, e3⟩ := Lib.cutB_miss s ⟨#[c]⟩ hix
    rw [e1, e2, e3] at HC
    rw [hix] at hI
    clear hix e1 e2 e3
    go_enter Tryz.func96, Tryz.ntmps96
    go_wp2_with (go_at_call 104; refine (hI _).mono ?_; rintro e w' ⟨rfl, rfl⟩)
    go_ret3
    exact ⟨by rw [HC.out]; rfl, Below.refl _ _⟩
  · obtain ⟨e1, e2, e3⟩ := Lib.cutB_hit s ⟨#[c]⟩ i hix
    rw [e1, e2, e3] at HC
    rw [hix] at hI
    rw [hsz] at hroom HC
    clear hix e1 e2 e3
    have c1 : (0 : Int) ≤ ↑i := by omega
    have c2 : (↑i : Int) ≤ ↑s.size := by omega
    have c3 : (0 : Int) ≤ ↑i + 1 := by omega
    have c4 : (↑i + 1 : Int) ≤ ↑s.size := by omega
    have hw : IntKind.i64.wrap ((i : Int) + 1) = (i : Int) + 1 := IntWalk.i64_in _ (by omega)
    have mixed : Tryz.prog.follows .mixedOrders = true := by kernel_rfl
    go_enter Tryz.func96, Tryz.ntmps96
    go_wp2_with (go_at_call 104; refine (hI _).mono ?_; rintro e w' ⟨rfl, rfl⟩)
    go_region
    go_wp2
    go_ret3
    exact ⟨by rw [HC.out]; rfl, below_drewN (Below.refl _ _) _⟩

theorem cut_walk (s : ByteArray) (c : UInt8) (hs : s.size ≤ 4611686018427387904) (w : World) :
    Calls Tryz.prog 76 #[.string s, .string ⟨#[c]⟩] w fun e w' => e = .returned (cutR c s.data.toList) ∧ Below w.heap.size w w' := by
  have hI := liteCut_walk s c hs
  unfold cutR at hI ⊢
  go_enter Tryz.func76, Tryz.ntmps76
  go_wp2_with (go_at_call 96; refine (hI _).mono ?_; rintro e w' ⟨rfl, hb⟩)
  go_ret3
  exact ⟨rfl, by assumption⟩
end Go.Proofs.YthjombepcmebfaaGreatDoor

/- The program's small functions of layer 4: isDigit, isLetter, isNumber, partMayBe. -/
namespace Go.Proofs.YthjombepcmebfaaGreatDoor
open Go.RowKit
set_option linter.unusedVariables false

def isLet (n : Nat) : Bool := (decide (97 ≤ n) && decide (n ≤ 122)) || (decide (65 ≤ n) && decide (n ≤ 90))
def isDig (n : Nat) : Bool := decide (48 ≤ n) && decide (n ≤ 57)

theorem isDigit_walk (n : Nat) (h : n < 256) (w : World) :
    Calls Tryz.prog 73 #[.int .u8 n] w fun e w' => e = .returned (.bool (isDig n)) ∧ w = w' := by
  have H : n ≤ 47 ∨ (48 ≤ n ∧ n ≤ 57) ∨ 58 ≤ n := by omega
  rcases H with h1 | ⟨h1, h2⟩ | h1
  · have HB : Hid (isDig n = false) := Lib.hid (by simp [isDig]; omega)
    go_enter Tryz.func73, Tryz.ntmps73
    go_wp2
    go_ret
    exact ⟨by rw [HB.out]; rfl, rfl⟩
  · have HB : Hid (isDig n = true) := Lib.hid (by simp [isDig]; omega)
    have h3 : decide ((n : Int) ≤ 57) = true := decide_eq_true (by omega)
    go_enter Tryz.func73, Tryz.ntmps73
    go_wp2
    go_ret
    exact ⟨by rw [HB.out]; rfl, rfl⟩
  · have HB : Hid (isDig n = false) := Lib.hid (by simp [isDig]; omega)
    have h3 : decide ((n : Int) ≤ 57) = false := decide_eq_false (by omega)
    go_enter Tryz.func73, Tryz.ntmps73
    go_wp2
    go_ret
    exact ⟨by rw [HB.out]; rfl, rfl⟩

theorem isLetter_walk (n : Nat) (h : n < 256) (w : World) :
    Calls Tryz.prog 74 #[.int .u8 n] w fun e w' => e = .returned (.bool (isLet n)) ∧ w = w' := by
  have H : n ≤ 64 ∨ (65 ≤ n ∧ n ≤ 90) ∨ (91 ≤ n ∧ n ≤ 96) ∨ (97 ≤ n ∧ n ≤ 122) ∨ 123 ≤ n := by omega
  rcases H with h1 | ⟨h1, h2⟩ | ⟨h1, h2⟩ | ⟨h1, h2⟩ | h1
  · have HB : Hid (isLet n = false) := Lib.hid (by simp [isLet]; omega)
    go_enter Tryz.func74, Tryz.ntmps74
    go_wp2
    go_ret
    exact ⟨by rw [HB.out]; rfl, rfl⟩
  · have HB : Hid (isLet n = true) := Lib.hid (by simp [isLet]; omega)
    have h3 : decide ((n : Int) ≤ 90) = true := decide_eq_true (by omega)
    go_enter Tryz.func74, Tryz.ntmps74
    go_wp2
    go_ret
    exact ⟨by rw [HB.out]; rfl, rfl⟩
  · have HB : Hid (isLet n = false) := Lib.hid (by simp [isLet]; omega)
    have h3 : decide ((n : Int) ≤ 90) = false := decide_eq_false (by omega)
    go_enter Tryz.func74, Tryz.ntmps74
    go_wp2
    go_ret
    exact ⟨by rw [HB.out]; rfl, rfl⟩
  · have HB : Hid (isLet n = true) := Lib.hid (by simp [isLet]; omega)
    have h3 : decide ((n : Int) ≤ 122) = true := decide_eq_true (by omega)
    go_enter Tryz.func74, Tryz.ntmps74
    go_wp2
    go_ret
    exact ⟨by rw [HB.out]; rfl, rfl⟩
  · have HB : Hid (isLet n = false) := Lib.hid (by simp [isLet]; omega)
    have h3 : decide ((n : Int) ≤ 122) = false := decide_eq_false (by omega)
    have h4 : decide ((n : Int) ≤ 90) = false := decide_eq_false (by omega)
    go_enter Tryz.func74, Tryz.ntmps74
    go_wp2
    go_ret
    exact ⟨by rw [HB.out]; rfl, rfl⟩

set_option maxRecDepth 100000 in
theorem isNumber_walk (s : ByteArray) (hs : s.size ≤ 9223372036854775807) (w : World) :
    Calls Tryz.prog 75 #[.string s] w fun e w' => e = .returned (.bool (Sem.digits s.data.toList)) ∧ w = w' := by
  go_enter Tryz.func75, Tryz.ntmps75
  go_wp2_with fail
  go_loop [6] (fun i => ∃ k : Nat, i = .int .i64 k ∧ k ≤ s.size ∧ Hid ((s.data.toList.take k).all Sem.dig = true)) (fun i => s.size - (intOf i).toNat)
  case atStart => exact ⟨0, rfl, Nat.zero_le _, Lib.hid rfl⟩
  case round =>
    obtain ⟨k, rfl, hk, HP⟩ := hrel
    by_cases hlt : k < s.size
    · have hb := (s[k]'hlt).toNat_lt
      cases hd : isDig (s[k]'hlt).toNat
      · have HN : Hid (Sem.digits s.data.toList = false) := Lib.hid (by
          unfold Sem.digits
          rw [Bool.and_eq_false_iff]; right
          rw [List.all_eq_false]
          exact ⟨s[k]'hlt, by rw [show s[k]'hlt = s.data.toList[k]'(by rw [← Lib.size_eq]; exact hlt) from rfl]; exact List.getElem_mem _, by rw [show Sem.dig (s[k]'hlt) = false from hd]; simp⟩)
        have hcon : ∀ w, Calls Tryz.prog 73 #[.int .u8 (s[k]'hlt).toNat] w fun e w' => e = .returned (.bool false) ∧ w = w' := fun w => by rw [← hd]; exact isDigit_walk _ hb w
        clear hd
        go_wp2_with (go_at_call 73; refine (hcon _).mono ?_; rintro e w' ⟨rfl, rfl⟩)
        go_ret
        exact ⟨by rw [HN.out]; rfl, rfl⟩
      · have HN : Hid ((s.data.toList.take (k + 1)).all Sem.dig = true) := Lib.hid (by rw [all_dig_next hlt, HP.out, show Sem.dig (s[k]'hlt) = true from hd]; rfl)
        have hcon : ∀ w, Calls Tryz.prog 73 #[.int .u8 (s[k]'hlt).toNat] w fun e w' => e = .returned (.bool true) ∧ w = w' := fun w => by rw [← hd]; exact isDigit_walk _ hb w
        clear hd
        go_wp2_with (go_at_call 73; refine (hcon _).mono ?_; rintro e w' ⟨rfl, rfl⟩)
        go_round
        case rel => exact ⟨k + 1, by go_num, by omega, HN⟩
        case measure => simp [intOf]; omega
    · have hall : s.data.toList.all Sem.dig = true := by have := HP.out; rwa [List.take_of_length_le (by rw [← Lib.size_eq]; omega)] at this
      have HN : Hid (Sem.digits s.data.toList = !s.toList.isEmpty) := Lib.hid (by unfold Sem.digits; rw [hall, Bool.and_true, tx_list])
      clear hall
      go_wp2
      go_ret
      exact ⟨by rw [HN.out]; rfl, rfl⟩
end Go.Proofs.YthjombepcmebfaaGreatDoor

/- The program's partMayBe: may a part of Pre be? -/
namespace Go.Proofs.YthjombepcmebfaaGreatDoor
open Go.RowKit
set_option linter.unusedVariables false

set_option maxRecDepth 100000 in
set_option maxHeartbeats 1000000 in
theorem partMayBe_walk (s : ByteArray) (hs : s.size ≤ 9223372036854775807) (w : World) :
    Calls Tryz.prog 49 #[.string s] w fun e w' => e = .returned (.bool (Sem.part s.data.toList)) ∧ w = w' := by
  have he0 : s.toList.isEmpty = s.data.toList.isEmpty := by rw [tx_list]
  by_cases hz : s.data.toList = []
  · have he : s.toList.isEmpty = true := by rw [he0, hz]; rfl
    have HN : Hid (Sem.part s.data.toList = false) := Lib.hid (by rw [hz]; rfl)
    clear he0 hz
    go_enter Tryz.func49, Tryz.ntmps49
    go_wp2
    go_ret
    exact ⟨by rw [HN.out]; rfl, rfl⟩
  · have he : s.toList.isEmpty = false := by rw [he0]; simpa using hz
    have hpos : 0 < s.size := by rw [Lib.size_eq]; exact List.length_pos_iff.2 hz
    have hhead : s.data.toList.head? = some (s[0]'hpos) := by
      rw [List.head?_eq_getElem?, List.getElem?_eq_getElem (by rw [← Lib.size_eq]; exact hpos)]; rfl
    have HHEAD := Lib.hid hhead
    have HZ := Lib.hid hz
    clear he0 hz hhead
    go_enter Tryz.func49, Tryz.ntmps49
    go_wp2_with fail
    go_loop [8] (fun i => ∃ k : Nat, i = .int .i64 k ∧ k ≤ s.size ∧ Hid ((s.data.toList.take k).all Sem.okc = true)) (fun i => s.size - (intOf i).toNat)
    case atStart => exact ⟨0, rfl, Nat.zero_le _, Lib.hid rfl⟩
    case round =>
      obtain ⟨k, rfl, hk, HP⟩ := hrel
      by_cases hlt : k < s.size
      · have hb := (s[k]'hlt).toNat_lt
        obtain ⟨n, hn⟩ : ∃ n, n = (s[k]'hlt).toNat := ⟨_, rfl⟩
        have ho : Sem.okc (s[k]'hlt) = (isLet n || decide (n = 45) || isDig n) := by rw [okc_at, hn]; rfl
        have hcd : ∀ w, Calls Tryz.prog 73 #[.int .u8 (s[k]'hlt).toNat] w fun e w' => e = .returned (.bool (isDig n)) ∧ w = w' := fun w => by rw [hn]; exact isDigit_walk _ hb w
        have hcl : ∀ w, Calls Tryz.prog 74 #[.int .u8 (s[k]'hlt).toNat] w fun e w' => e = .returned (.bool (isLet n)) ∧ w = w' := fun w => by rw [hn]; exact isLetter_walk _ hb w
        have HN : Hid (isDig n = true ∨ isLet n = true ∨ n = 45 → (s.data.toList.take (k + 1)).all Sem.okc = true) := Lib.hid (by
          intro h
          rw [all_okc_next hlt, HP.out, ho]
          rcases h with h | h | h <;> rw [h] <;> simp)
        have HF : Hid (isDig n = false ∧ isLet n = false ∧ n ≠ 45 → Sem.part s.data.toList = false) := Lib.hid (by
          rintro ⟨h1, h2, h3⟩
          exact part_bad hlt (by rw [ho, h1, h2]; simp [h3]))
        clear ho
        cases hd : isDig n
        · rw [hd] at hcd
          cases hl : isLet n
          · rw [hl] at hcl
            by_cases h45 : n = 45
            · have HM := Lib.hid (HN.out (Or.inr (Or.inr h45)))
              have h3 : (((s[k]'hlt).toNat : Int) != 45) = false := by rw [bne_eq_false_iff_eq]; omega
              clear hn hd hl
              go_wp2_with (first | (go_at_call 73; refine (hcd _).mono ?_; rintro e w' ⟨rfl, rfl⟩) | (go_at_call 74; refine (hcl _).mono ?_; rintro e w' ⟨rfl, rfl⟩))
              go_round
              case rel => exact ⟨k + 1, by go_num, by omega, HM⟩
              case measure => simp [intOf]; omega
            · have HM := Lib.hid (HF.out ⟨hd, hl, h45⟩)
              have h3 : (((s[k]'hlt).toNat : Int) != 45) = true := by rw [bne_iff_ne]; omega
              clear hn hd hl
              go_wp2_with (first | (go_at_call 73; refine (hcd _).mono ?_; rintro e w' ⟨rfl, rfl⟩) | (go_at_call 74; refine (hcl _).mono ?_; rintro e w' ⟨rfl, rfl⟩))
              go_ret
              exact ⟨by rw [HM.out]; rfl, rfl⟩
          · rw [hl] at hcl
            have HM := Lib.hid (HN.out (Or.inr (Or.inl hl)))
            clear hn hd hl
            go_wp2_with (first | (go_at_call 73; refine (hcd _).mono ?_; rintro e w' ⟨rfl, rfl⟩) | (go_at_call 74; refine (hcl _).mono ?_; rintro e w' ⟨rfl, rfl⟩))
            go_round
            case rel => exact ⟨k + 1, by go_num, by omega, HM⟩
            case measure => simp [intOf]; omega
        · rw [hd] at hcd
          have HM := Lib.hid (HN.out (Or.inl hd))
          clear hn hd hcl
          go_wp2_with (first | (go_at_call 73; refine (hcd _).mono ?_; rintro e w' ⟨rfl, rfl⟩))
          go_round
          case rel => exact ⟨k + 1, by go_num, by omega, HM⟩
          case measure => simp [intOf]; omega
      · have hall : s.data.toList.all Sem.okc = true := by have := HP.out; rwa [List.take_of_length_le (by rw [← Lib.size_eq]; omega)] at this
        have HS : Hid (Sem.part s.data.toList = (!Sem.digits s.data.toList || s.data.toList == [48] || s.data.toList.head? != some 48)) := Lib.hid (by
          have : s.data.toList.isEmpty = false := by simpa using HZ.out
          unfold Sem.part; rw [hall, this]; rfl)
        rw [HHEAD.out] at HS
        clear hall
        cases h48 : (s.toList == [48])
        · have h49 : (s.data.toList == [48]) = false := by rw [← tx_list]; exact h48
          by_cases hh : (s[0]'hpos).toNat = 48
          · have HN : Hid (Sem.part s.data.toList = !Sem.digits s.data.toList) := Lib.hid (by
              have : s[0]'hpos = 48 := UInt8.toNat_inj.1 hh
              rw [HS.out, h49, this]; simp)
            have h50 : (((s[0]'hpos).toNat : Int) != 48) = false := by rw [bne_eq_false_iff_eq]; omega
            clear h49 hh
            go_wp2_with (go_at_call 75; refine (isNumber_walk s hs _).mono ?_; rintro e w' ⟨rfl, rfl⟩)
            go_ret
            exact ⟨by rw [HN.out]; rfl, rfl⟩
          · have HN : Hid (Sem.part s.data.toList = true) := Lib.hid (by
              have : s[0]'hpos ≠ 48 := fun h => hh (by rw [h]; rfl)
              rw [HS.out, h49]; simp [this])
            have h50 : (((s[0]'hpos).toNat : Int) != 48) = true := by rw [bne_iff_ne]; omega
            clear h49 hh
            go_wp2_with (go_at_call 75; refine (isNumber_walk s hs _).mono ?_; rintro e w' ⟨rfl, rfl⟩)
            go_ret
            exact ⟨by rw [HN.out]; rfl, rfl⟩
        · have HN : Hid (Sem.part s.data.toList = true) := Lib.hid (by
            have h49 : (s.data.toList == [48]) = true := by rw [← tx_list]; exact h48
            rw [HS.out, h49]; simp)
          go_wp2_with (go_at_call 75; refine (isNumber_walk s hs _).mono ?_; rintro e w' ⟨rfl, rfl⟩)
          go_ret
          exact ⟨by rw [HN.out]; rfl, rfl⟩
end Go.Proofs.YthjombepcmebfaaGreatDoor

/- The program's comparison: cmp.Or, numbers, parts, what stands behind the dash, Core, Cmp. -/
namespace Go.Proofs.YthjombepcmebfaaGreatDoor
open Go.RowKit
set_option linter.unusedVariables false

theorem flop {P : Program} {f : FuncId} {args : Array Value} {w : World} {v : Value} (h : Calls P f args w fun e w' => e = .returned v ∧ w' = w) : Calls P f args w fun e w' => e = .returned v ∧ w = w' :=
  h.mono fun _ _ ⟨he, hw⟩ => ⟨he, hw.symm⟩

theorem compare_walk (x y : Int) (w : World) : Calls Tryz.prog 53 #[.int .i64 x, .int .i64 y] w fun e w' => e = .returned (.int .i64 (ord x y)) ∧ w = w' :=
  flop (Any.cmp_Compare_int Tryz.lays122 x y w)

theorem compareBytes_three : ∀ a b : List UInt8, Lib.compareBytes a b = Sem.three a b
  | [], [] => by simp [Lib.compareBytes, Sem.three]
  | [], _ :: _ => by simp [Lib.compareBytes, Sem.three]
  | _ :: _, [] => by simp [Lib.compareBytes, Sem.three]
  | x :: a, y :: b => by
    rw [Lib.compareBytes, compareBytes_three a b]
    rw [Sem.three_cons (fun x => UInt8.lt_irrefl x)]
    by_cases h : x = y
    · subst h; rw [if_neg (UInt8.lt_irrefl x), if_neg (UInt8.lt_irrefl x), if_pos rfl]
    · rw [if_neg h]
      by_cases h1 : x < y
      · rw [if_pos h1, if_pos h1]
      · by_cases h2 : y < x
        · rw [if_neg h1, if_pos h2, if_neg h1, if_pos h2]
        · exact absurd (UInt8.le_antisymm (UInt8.not_lt.1 h2) (UInt8.not_lt.1 h1)) h

theorem strcmp_walk (a b : ByteArray) (w : World) : Calls Tryz.prog 98 #[.string a, .string b] w fun e w' => e = .returned (.int .i64 (Sem.three a.data.toList b.data.toList)) ∧ w = w' := by
  have := Any.strings_Compare Tryz.lays106 a b w
  rw [compareBytes_three] at this
  exact flop this

theorem trim_walk (s : ByteArray) (w : World) : Calls Tryz.prog 57 #[.string s, .string ⟨#[48]⟩] w fun e w' => e = .returned (.string ⟨(Sem.trim s.data.toList).toArray⟩) ∧ w = w' :=
  flop (Any.strings_TrimLeft_one Tryz.lays161 s 48 (by decide) w)

theorem trimL_walk (s : List UInt8) (w : World) : Calls Tryz.prog 57 #[.string ⟨s.toArray⟩, .string ⟨#[48]⟩] w fun e w' => e = .returned (.string ⟨(Sem.trim s).toArray⟩) ∧ w = w' := trim_walk ⟨s.toArray⟩ w
theorem strcmpL_walk (a b : List UInt8) (w : World) : Calls Tryz.prog 98 #[.string ⟨a.toArray⟩, .string ⟨b.toArray⟩] w fun e w' => e = .returned (.int .i64 (Sem.three a b)) ∧ w = w' := strcmp_walk ⟨a.toArray⟩ ⟨b.toArray⟩ w

/-- The first one that is not 0. -/
def orR : List Int → Int
  | [] => 0
  | x :: l => if x = 0 then orR l else x

theorem orR_drop {l : List Int} {k : Nat} (h : k < l.length) : orR (l.drop k) = if l[k] = 0 then orR (l.drop (k + 1)) else l[k] := by
  rw [List.drop_eq_getElem_cons h, orR]

set_option maxRecDepth 100000 in
theorem or_walk (A : Option Addr) (cap : Nat) (l : List Int) (w : World) (hA : Ints w w.heap.size A l) (hl : l.length ≤ 9223372036854775807) :
    Calls Tryz.prog 52 #[.slice A l.length cap] w fun e w' => e = .returned (.int .i64 (orR l)) ∧ w = w' := by
  go_enter Tryz.func52, Tryz.ntmps52
  go_wp2_with fail
  go_loop [8] (fun i => ∃ k : Nat, i = .int .i64 k ∧ k ≤ l.length ∧ Hid (orR l = orR (l.drop k))) (fun i => l.length - (intOf i).toNat)
  case atStart => exact ⟨0, rfl, Nat.zero_le _, Lib.hid rfl⟩
  case round =>
    obtain ⟨k, rfl, hk, HP⟩ := hrel
    by_cases hlt : k < l.length
    · rcases hA with hA | ⟨g, off, rfl, _, hc⟩
      · omega
      · have hcell := hc k hlt
        have hstep := orR_drop hlt
        obtain ⟨x, hx⟩ : ∃ x, x = l[k] := ⟨_, rfl⟩
        rw [← hx] at hcell hstep
        clear hc hx
        by_cases hx0 : x = 0
        · subst hx0
          have HN : Hid (orR l = orR (l.drop (k + 1))) := Lib.hid (by rw [HP.out, hstep, if_pos rfl])
          clear hstep
          go_wp2
          go_round
          case rel => exact ⟨k + 1, by go_num, by omega, HN⟩
          case measure => simp [intOf]; omega
        · have hd : (x != 0) = true := by rw [bne_iff_ne]; exact hx0
          have HN : Hid (orR l = x) := Lib.hid (by rw [HP.out, hstep, if_neg hx0])
          clear hstep
          go_wp2
          go_ret
          exact ⟨by rw [HN.out]; rfl, rfl⟩
    · have HN : Hid (orR l = 0) := Lib.hid (by rw [HP.out, List.drop_eq_nil_of_le (by omega)]; rfl)
      go_wp2
      go_ret
      exact ⟨by rw [HN.out]; rfl, rfl⟩

set_option maxRecDepth 100000 in
set_option maxHeartbeats 1000000 in
theorem cmpNumber_walk (a b : List UInt8) (ha : a.length ≤ 1000000) (hb : b.length ≤ 1000000) (hda : Sem.digits a = true) (hdb : Sem.digits b = true) (w : World) :
    Calls Tryz.prog 97 #[.string ⟨a.toArray⟩, .string ⟨b.toArray⟩] w fun e w' => e = .returned (.int .i64 (Sem.cmpPart a b)) ∧ Below w.heap.size w w' := by
  have HE : Hid (orR [ord (Sem.trim a).length (Sem.trim b).length, Sem.three (Sem.trim a) (Sem.trim b)] = Sem.cmpPart a b) := Lib.hid (by
    rw [Sem.cmpPart_trim hda hdb]
    by_cases h1 : (Sem.trim a).length < (Sem.trim b).length
    · have e : ord (Sem.trim a).length (Sem.trim b).length = -1 := by unfold ord; rw [if_pos (by omega)]
      rw [e, if_pos h1]; rfl
    · rw [if_neg h1]
      by_cases h2 : (Sem.trim b).length < (Sem.trim a).length
      · have e : ord (Sem.trim a).length (Sem.trim b).length = 1 := by unfold ord; rw [if_neg (by omega), if_pos (by omega)]
        rw [e, if_pos h2]; rfl
      · have e : ord (Sem.trim a).length (Sem.trim b).length = 0 := by unfold ord; rw [if_neg (by omega), if_neg (by omega)]
        rw [e, if_neg h2, orR, if_pos rfl, orR, orR]
        split
        · rename_i h; exact h.symm
        · rfl)
  have hla : (Sem.trim a).length ≤ 1000000 := Nat.le_trans (List.dropWhile_sublist _).length_le ha
  have hlb : (Sem.trim b).length ≤ 1000000 := Nat.le_trans (List.dropWhile_sublist _).length_le hb
  have sA : (⟨(Sem.trim a).toArray⟩ : ByteArray).size = (Sem.trim a).length := size_list _
  have sB : (⟨(Sem.trim b).toArray⟩ : ByteArray).size = (Sem.trim b).length := size_list _
  clear hda hdb
  go_enter Tryz.func97, Tryz.ntmps97
  go_wp2_with (first | (go_at_call 57; refine (trimL_walk _ _).mono ?_; rintro e w' ⟨rfl, rfl⟩) | (go_at_call 53; refine (compare_walk _ _ _).mono ?_; rintro e w' ⟨rfl, rfl⟩) | (go_at_call 98; refine (strcmpL_walk _ _ _).mono ?_; rintro e w' ⟨rfl, rfl⟩))
  have hO := or_walk (some ⟨w.heap.size, 0, none⟩) 2 [ord (Sem.trim a).length (Sem.trim b).length, Sem.three (Sem.trim a) (Sem.trim b)] _ (ints_lit w [ord (Sem.trim a).length (Sem.trim b).length, Sem.three (Sem.trim a) (Sem.trim b)] (cs := #[Value.int IntKind.i64 (ord (Sem.trim a).length (Sem.trim b).length), Value.int IntKind.i64 (Sem.three (Sem.trim a) (Sem.trim b))]) rfl) (by simp)
  refine hO.mono ?_
  rintro e w2 ⟨rfl, rfl⟩
  go_wp2
  go_ret
  exact ⟨by rw [← HE.out]; rfl, below_one _ _⟩

set_option maxRecDepth 100000 in
theorem cmpPart_walk (a b : List UInt8) (ha : a.length ≤ 1000000) (hb : b.length ≤ 1000000) (w : World) :
    Calls Tryz.prog 77 #[.string ⟨a.toArray⟩, .string ⟨b.toArray⟩] w fun e w' => e = .returned (.int .i64 (Sem.cmpPart a b)) ∧ Below w.heap.size w w' := by
  have hN : ∀ (x : List UInt8) (hx : x.length ≤ 1000000) (w : World), Calls Tryz.prog 75 #[.string ⟨x.toArray⟩] w fun e w' => e = .returned (.bool (Sem.digits x)) ∧ w = w' := fun x hx w => isNumber_walk ⟨x.toArray⟩ (by rw [size_list]; omega) w
  cases hda : Sem.digits a
  · cases hdb : Sem.digits b
    · have HE := Lib.hid (Sem.cmpPart_nn hda hdb)
      have HA := Lib.hid hda
      have HB := Lib.hid hdb
      clear hda hdb
      go_enter Tryz.func77, Tryz.ntmps77
      go_wp2_with fail
      refine (hN a ha _).mono ?_
      rintro e w' ⟨he, rfl⟩
      rw [HA.out] at he; subst he
      go_wp2_with fail
      refine (hN b hb _).mono ?_
      rintro e w' ⟨he, rfl⟩
      rw [HB.out] at he; subst he
      go_wp2_with fail
      refine (strcmpL_walk _ _ _).mono ?_
      rintro e w' ⟨rfl, rfl⟩
      go_wp2
      go_ret
      exact ⟨by rw [HE.out]; rfl, Below.refl _ _⟩
    · have HE := Lib.hid (Sem.cmpPart_nd hda hdb)
      have HA := Lib.hid hda
      have HB := Lib.hid hdb
      clear hda hdb
      go_enter Tryz.func77, Tryz.ntmps77
      go_wp2_with fail
      refine (hN a ha _).mono ?_
      rintro e w' ⟨he, rfl⟩
      rw [HA.out] at he; subst he
      go_wp2_with fail
      refine (hN b hb _).mono ?_
      rintro e w' ⟨he, rfl⟩
      rw [HB.out] at he; subst he
      go_wp2
      go_ret
      exact ⟨by rw [HE.out]; rfl, Below.refl _ _⟩
  · cases hdb : Sem.digits b
    · have HE := Lib.hid (Sem.cmpPart_dn hda hdb)
      have HA := Lib.hid hda
      have HB := Lib.hid hdb
      clear hda hdb
      go_enter Tryz.func77, Tryz.ntmps77
      go_wp2_with fail
      refine (hN a ha _).mono ?_
      rintro e w' ⟨he, rfl⟩
      rw [HA.out] at he; subst he
      go_wp2_with fail
      refine (hN b hb _).mono ?_
      rintro e w' ⟨he, rfl⟩
      rw [HB.out] at he; subst he
      go_wp2
      go_ret
      exact ⟨by rw [HE.out]; rfl, Below.refl _ _⟩
    · have HC := Lib.hid (fun w => cmpNumber_walk a b ha hb hda hdb w)
      have HA := Lib.hid hda
      have HB := Lib.hid hdb
      clear hda hdb
      go_enter Tryz.func77, Tryz.ntmps77
      go_wp2_with fail
      refine (hN a ha _).mono ?_
      rintro e w' ⟨he, rfl⟩
      rw [HA.out] at he; subst he
      go_wp2_with fail
      refine (hN b hb _).mono ?_
      rintro e w' ⟨he, rfl⟩
      rw [HB.out] at he; subst he
      go_wp2_with fail
      refine (HC.out _).mono ?_
      rintro e w2 ⟨rfl, hb2⟩
      go_wp2
      go_ret
      exact ⟨rfl, hb2⟩
end Go.Proofs.YthjombepcmebfaaGreatDoor

/- The program's comparison of what stands behind the dash, Core and Cmp. -/
namespace Go.Proofs.YthjombepcmebfaaGreatDoor
open Go.RowKit
set_option linter.unusedVariables false

theorem cutL_walk (x : List UInt8) (hx : x.length ≤ 1000000) (w : World) :
    Calls Tryz.prog 76 #[.string ⟨x.toArray⟩, .string ⟨#[46]⟩] w fun e w' => e = .returned (.tuple #[.string ⟨(Sem.cut 46 x).1.toArray⟩, .string ⟨(Sem.cut 46 x).2.1.toArray⟩, .bool (Sem.cut 46 x).2.2]) ∧ Below w.heap.size w w' :=
  cut_walk ⟨x.toArray⟩ 46 (by rw [size_list]; omega) w

/-- A text at its first dot. -/
theorem cut_split (x : List UInt8) : ∃ x1 x2 m, Sem.cut 46 x = (x1, x2, m) ∧ Sem.parts x = (if m = true then x1 :: Sem.parts x2 else [x1]) ∧ x1.length ≤ x.length ∧ x2.length ≤ x.length ∧ (m = true → x2.length < x.length) := by
  obtain ⟨h1, h2, h3⟩ := Sem.cut_len 46 x
  have hp := Sem.parts_cut x
  have hf := Sem.cut_first 46 x
  rcases h : Sem.cut 46 x with ⟨x1, x2, m⟩
  rw [h] at h1 h2 h3 hp hf
  refine ⟨x1, x2, m, rfl, ?_, h1, h2, h3⟩
  rw [hp]
  cases m
  · rw [if_neg (by simp), if_neg (by simp), show x1 = x from hf (by simp)]
  · rw [if_pos rfl, if_pos rfl]

set_option maxRecDepth 100000 in
set_option maxHeartbeats 2000000 in
theorem cmpPre_walk (p q : List UInt8) (hp : p.length ≤ 1000000) (hq : q.length ≤ 1000000) (w : World) :
    Calls Tryz.prog 51 #[.string ⟨p.toArray⟩, .string ⟨q.toArray⟩] w fun e w' => e = .returned (.int .i64 (Sem.three (Sem.preKey p) (Sem.preKey q))) ∧ Below w.heap.size w w' := by
  have hpk := Sem.preKey_cases p q
  have lp : (⟨p.toArray⟩ : ByteArray).toList = p := by rw [tx_list]
  have lq : (⟨q.toArray⟩ : ByteArray).toList = q := by rw [tx_list]
  by_cases e1 : p = q
  · subst e1
    have HE : Hid (Sem.three (Sem.preKey p) (Sem.preKey p) = 0) := Lib.hid (Sem.three_zero.2 rfl)
    have h1 : (p == p) = true := by simp
    clear hpk
    go_enter Tryz.func51, Tryz.ntmps51
    go_wp2
    go_ret
    exact ⟨by rw [HE.out]; rfl, Below.refl _ _⟩
  · have h1 : (p == q) = false := by simpa using e1
    by_cases e2 : p = []
    · have h2 : p.isEmpty = true := by rw [e2]; rfl
      have HE : Hid (Sem.three (Sem.preKey p) (Sem.preKey q) = 1) := Lib.hid (by rw [hpk, if_pos e2, if_neg (fun h => e1 (by rw [e2, h]))])
      clear hpk e1 e2
      go_enter Tryz.func51, Tryz.ntmps51
      go_wp2
      go_ret
      exact ⟨by rw [HE.out]; rfl, Below.refl _ _⟩
    · have h2 : p.isEmpty = false := by simpa using e2
      by_cases e3 : q = []
      · have h3 : q.isEmpty = true := by rw [e3]; rfl
        have HE : Hid (Sem.three (Sem.preKey p) (Sem.preKey q) = -1) := Lib.hid (by rw [hpk, if_neg e2, if_pos e3])
        clear hpk e1 e2 e3
        go_enter Tryz.func51, Tryz.ntmps51
        go_wp2
        go_ret
        exact ⟨by rw [HE.out]; rfl, Below.refl _ _⟩
      · have h3 : q.isEmpty = false := by simpa using e3
        have HE : Hid (Sem.three (Sem.preKey p) (Sem.preKey q) = Sem.cmpParts (Sem.parts p) (Sem.parts q)) := Lib.hid (by rw [hpk, if_neg e2, if_neg e3])
        clear hpk e1 e2 e3
        go_enter Tryz.func51, Tryz.ntmps51
        go_wp2_with fail
        clear h1 h2 h3 lp lq
        go_loopw [0, 1] (fun a b wr => ∃ x y : List UInt8, a = .string ⟨x.toArray⟩ ∧ b = .string ⟨y.toArray⟩ ∧ x.length ≤ 1000000 ∧ y.length ≤ 1000000 ∧ Hid (Sem.three (Sem.preKey p) (Sem.preKey q) = Sem.cmpParts (Sem.parts x) (Sem.parts y)) ∧ Below w.heap.size w wr)
          (fun a _ _ => match a with | .string s => s.size | _ => 0)
        case atStart => exact ⟨p, q, rfl, rfl, hp, hq, HE, Below.refl _ _⟩
        case round =>
          obtain ⟨x, y, rfl, rfl, hx, hy, HP, hb⟩ := hrel
          obtain ⟨x1, x2, mx, cx, px, lx1, lx2, lx3⟩ := cut_split x
          obtain ⟨y1, y2, my, cy, py, ly1, ly2, ly3⟩ := cut_split y
          have hX := cutL_walk x hx
          have hY := cutL_walk y hy
          rw [cx] at hX
          rw [cy] at hY
          obtain ⟨o, ho⟩ : ∃ o, o = Sem.cmpPart x1 y1 := ⟨_, rfl⟩
          have hO := cmpPart_walk x1 y1 (by omega) (by omega)
          rw [← ho] at hO
          have HS : Hid (Sem.cmpParts (Sem.parts x) (Sem.parts y) = if o = 0 then (if mx = true then (if my = true then Sem.cmpParts (Sem.parts x2) (Sem.parts y2) else 1) else (if my = true then -1 else 0)) else o) := Lib.hid (by
            rw [px, py, ho]
            rcases hx2 : Sem.parts x2 with _ | ⟨c, cs⟩
            · exact absurd hx2 (Sem.parts_ne x2)
            · rcases hy2 : Sem.parts y2 with _ | ⟨d, ds⟩
              · exact absurd hy2 (Sem.parts_ne y2)
              · cases mx <;> cases my <;> simp [Sem.cmpParts])
          clear px py cx cy ho
          go_wp2_with fail
          refine (hX _).mono ?_
          rintro e w1 ⟨rfl, hb1⟩
          go_wp2_with fail
          refine (hY _).mono ?_
          rintro e w2 ⟨rfl, hb2⟩
          go_wp2_with fail
          refine (hO _).mono ?_
          rintro e w3 ⟨rfl, hb3⟩
          have hb4 := below_next (below_next (below_next hb hb1) hb2) hb3
          clear hX hY hO hb1 hb2 hb3 hb
          by_cases h0 : o = 0
          · subst h0
            cases mx
            · cases my
              · have HN : Hid (Sem.three (Sem.preKey p) (Sem.preKey q) = 0) := Lib.hid (by rw [HP.out, HS.out]; rfl)
                clear HS
                go_wp2
                go_ret
                exact ⟨by rw [HN.out]; rfl, hb4⟩
              · have HN : Hid (Sem.three (Sem.preKey p) (Sem.preKey q) = -1) := Lib.hid (by rw [HP.out, HS.out]; rfl)
                clear HS
                go_wp2
                go_ret
                exact ⟨by rw [HN.out]; rfl, hb4⟩
            · cases my
              · have HN : Hid (Sem.three (Sem.preKey p) (Sem.preKey q) = 1) := Lib.hid (by rw [HP.out, HS.out]; rfl)
                clear HS
                go_wp2
                go_ret
                exact ⟨by rw [HN.out]; rfl, hb4⟩
              · have HN : Hid (Sem.three (Sem.preKey p) (Sem.preKey q) = Sem.cmpParts (Sem.parts x2) (Sem.parts y2)) := Lib.hid (by rw [HP.out, HS.out]; rfl)
                have hl := lx3 rfl
                clear HS lx3 ly3
                go_wp2
                go_roundw
                case rel => exact ⟨x2, y2, rfl, rfl, by omega, by omega, HN, hb4⟩
                case measure => show (⟨x2.toArray⟩ : ByteArray).size < (⟨x.toArray⟩ : ByteArray).size; rw [size_list, size_list]; exact hl
          · have hd : (o != 0) = true := by rw [bne_iff_ne]; exact h0
            have HN : Hid (Sem.three (Sem.preKey p) (Sem.preKey q) = o) := Lib.hid (by rw [HP.out, HS.out, if_neg h0])
            clear HS
            go_wp2
            go_ret
            exact ⟨by rw [HN.out]; rfl, hb4⟩
end Go.Proofs.YthjombepcmebfaaGreatDoor

/- The program's Core and Cmp. -/
namespace Go.Proofs.YthjombepcmebfaaGreatDoor
open Go.RowKit
set_option linter.unusedVariables false

set_option maxRecDepth 100000 in
set_option maxHeartbeats 1000000 in
theorem core_walk (v : Sem.Ver) (w : World) :
    Calls Tryz.prog 50 #[verV v] w fun e w' => e = .returned (verV (Sem.core v)) ∧ Below w.heap.size w w' := by
  have hV : verV v = .agg #[.int .i64 v.maj, .int .i64 v.min, .int .i64 v.pat, .string ⟨v.pre.toArray⟩] := rfl
  rw [hV]
  clear hV
  go_enter Tryz.func50, Tryz.ntmps50
  go_wp2
  refine bodyPost_ret (v := .agg #[.int .i64 v.maj, .int .i64 v.min, .int .i64 v.pat, .string ByteArray.empty]) (by simp [results, Tryz.results50, go_sem]; rfl) rfl ?_
  exact ⟨rfl, below_new (below_one _ _) _⟩

theorem coreL_walk (v : Sem.Ver) (w : World) :
    Calls Tryz.prog 50 #[.agg #[.int .i64 v.maj, .int .i64 v.min, .int .i64 v.pat, .string ⟨v.pre.toArray⟩]] w fun e w' => e = .returned (.agg #[.int .i64 v.maj, .int .i64 v.min, .int .i64 v.pat, .string ⟨#[]⟩]) ∧ Below w.heap.size w w' :=
  core_walk v w

/-- Two versions in boxes, one behind the other. -/
def Two8 (w W : World) (g : Nat) (v u : Sem.Ver) : Prop := g + 1 < W.heap.size ∧ W.cell? ⟨g, 0, none⟩ = some (.int .i64 v.maj) ∧ W.cell? ⟨g, 1, none⟩ = some (.int .i64 v.min) ∧ W.cell? ⟨g, 2, none⟩ = some (.int .i64 v.pat) ∧ W.cell? ⟨g, 3, none⟩ = some (.string ⟨v.pre.toArray⟩) ∧ W.cell? ⟨g + 1, 0, none⟩ = some (.int .i64 u.maj) ∧ W.cell? ⟨g + 1, 1, none⟩ = some (.int .i64 u.min) ∧ W.cell? ⟨g + 1, 2, none⟩ = some (.int .i64 u.pat) ∧ W.cell? ⟨g + 1, 3, none⟩ = some (.string ⟨u.pre.toArray⟩) ∧ Below w.heap.size w W

theorem two8_next {w W w' : World} {g : Nat} {v u : Sem.Ver} (h : Two8 w W g v u) (hb : Below W.heap.size W w') : Two8 w w' g v u := by
  obtain ⟨h0, a0, a1, a2, a3, b0, b1, b2, b3, h5⟩ := h
  obtain ⟨_, c0, c1, c2, c3⟩ := VerAt.next (v := v) ⟨by omega, a0, a1, a2, a3⟩ hb
  obtain ⟨k0, d0, d1, d2, d3⟩ := VerAt.next (v := u) ⟨h0, b0, b1, b2, b3⟩ hb
  exact ⟨k0, c0, c1, c2, c3, d0, d1, d2, d3, below_next h5 hb⟩

theorem two8_drew {w W : World} {g : Nat} {v u : Sem.Ver} (h : Two8 w W g v u) : Two8 w W.drew g v u := by
  obtain ⟨h0, a0, a1, a2, a3, b0, b1, b2, b3, h5⟩ := h
  exact ⟨h0, a0, a1, a2, a3, b0, b1, b2, b3, h5.drew⟩

theorem orR_cmp (v u : Sem.Ver) (h : ¬ (v.maj = u.maj ∧ v.min = u.min ∧ v.pat = u.pat)) : orR [ord v.maj u.maj, ord v.min u.min, ord v.pat u.pat] = Sem.cmp v u := by
  rw [cmp_ord]
  simp only [orR, ord_zero]
  by_cases h1 : v.maj = u.maj
  · rw [if_pos h1, if_pos h1]
    by_cases h2 : v.min = u.min
    · rw [if_pos h2, if_pos h2]
      have h3 : ¬ v.pat = u.pat := fun h3 => h ⟨h1, h2, h3⟩
      rw [if_neg h3, if_neg h3]
    · rw [if_neg h2, if_neg h2]
  · rw [if_neg h1, if_neg h1]
end Go.Proofs.YthjombepcmebfaaGreatDoor

/- (Wants told by a predicate.) A region that draws its order of evaluation, walked once for each operation and not once for each order: what each operation leaves is told by a table. My own law, over Derived/Orders.lean. -/
namespace Go.Proofs.YthjombepcmebfaaGreatDoor
open Go.RowKit

/-- The values of the operations, one turned. -/
def upd (u : Nat → Value) (i : Nat) (v : Value) : Nat → Value := fun j => cond (Nat.beq j i) v (u j)

theorem upd_same (u : Nat → Value) (i : Nat) (v : Value) : upd u i v i = v := by simp [upd]
theorem upd_other (u : Nat → Value) {i j : Nat} (v : Value) (h : j ≠ i) : upd u i v j = u j := by
  have : Nat.beq j i = false := by cases hb : Nat.beq j i <;> first | rfl | exact absurd (Nat.eq_of_beq_eq_true hb) h
  simp [upd, this]

/-- What an operation is to leave; whatever grows, it stays so. -/
structure Want where
  ok : Value → World → Prop
  keep : ∀ (v : Value) (w w' : World), Below w.heap.size w w' → ok v w → ok v w'

theorem Want.mono {T : Want} {v : Value} {w w' : World} (hb : Below w.heap.size w w') (h : T.ok v w) : T.ok v w' := T.keep v w w' hb h

/-- A value. -/
def Want.val (c : Value) : Want := ⟨fun v _ => v = c, fun _ _ _ _ h => h⟩
def Want.any : Want := ⟨fun _ _ => True, fun _ _ _ _ h => h⟩

section
variable {P : Program} {ops : Array Oper} {Q : Exit → Act → World → Prop}

/-- Does operation o wait for operation j? -/
def waits (o : Oper) (j : Nat) : Bool := o.after.any fun e => Region.binds .any e && e.on == j

/-- One operation's step: what it waits for is as the table says; so is what it leaves. -/
def StepAt (P : Program) (ops : Array Oper) (Q : Exit → Act → World → Prop) (A : (Nat → Value) → Act) (T : Nat → Want) (J : World → Prop) (i : Nat) : Prop :=
  ∀ o, ops[i]? = some o → ∀ (u : Nat → Value) (W : World), J W → (∀ j, waits o j = true → (T j).ok (u j) W) →
    wpOp P ops Q i (fun a' w' => ∃ v, a' = A (upd u i v) ∧ (T i).ok v w' ∧ J w' ∧ Below W.heap.size W w') (A u) W

def StepsAt (P : Program) (ops : Array Oper) (Q : Exit → Act → World → Prop) (A : (Nat → Value) → Act) (T : Nat → Want) (J : World → Prop) (rs : List Nat) : Prop :=
  ∀ i ∈ rs, StepAt P ops Q A T J i

theorem StepsAt.nil {A : (Nat → Value) → Act} {T : Nat → Want} {J : World → Prop} : StepsAt P ops Q A T J [] := fun _ h => by cases h

theorem StepsAt.cons {A : (Nat → Value) → Act} {T : Nat → Want} {J : World → Prop} {i : Nat} {rs : List Nat} (o : Oper) (ho : ops[i]? = some o)
    (h : ∀ (u : Nat → Value) (W : World) (K' : Act → World → Prop), J W → (∀ j, waits o j = true → (T j).ok (u j) W) →
      Shut (∀ v w', (T i).ok v w' → J w' → Below W.heap.size W w' → K' (A (upd u i v)) w') →
      if Region.wanted o (yielded ops (A u).tmps) = true then Oper.wp P o (A u) W K' Q else K' ((A u).put o.dst undef) W)
    (hs : StepsAt P ops Q A T J rs) : StepsAt P ops Q A T J (i :: rs) := fun j hj => by
  rcases List.mem_cons.1 hj with rfl | hj
  · intro o' ho' u W hJ hd
    rw [ho] at ho'
    obtain rfl : o = o' := Option.some.inj ho'
    exact wpOp_step ho (fun K' hK => h u W K' hJ hd (fun v w' h1 h2 h3 => hK _ _ ⟨v, rfl, h1, h2, h3⟩))
  · exact hs j hj

/-- No operation waits for one behind it. -/
def lowAfter (ops : Array Oper) : Bool := (List.range ops.size).all fun i => ((ops[i]?).map fun o => o.after.all fun e => decide (e.on < i)).getD true

theorem lowAfter_spec (h : lowAfter ops = true) {i : Nat} {o : Oper} (ho : ops[i]? = some o) : ∀ e ∈ o.after, e.on < i := by
  intro e he
  have hi : i < ops.size := by
    rcases Nat.lt_or_ge i ops.size with h | h
    · exact h
    · rw [Array.getElem?_eq_none h] at ho; cases ho
  have h1 := List.all_eq_true.1 h i (List.mem_range.2 hi)
  rw [ho] at h1
  simp only [Option.map_some, Option.getD_some] at h1
  have := Array.all_eq_true_iff_forall_mem.1 h1 e he
  simpa using this

theorem all_listed (hl : lowAfter ops = true) (listed : Array Bool) (hr : Region.ready .any ops listed = []) (hsz : listed.size = ops.size) :
    ∀ n j, j < n → j < ops.size → listed.getD j false = true := by
  intro n
  induction n with
  | zero => intro j hj; omega
  | succ n ih =>
    intro j hj hjs
    by_cases hjn : j < n
    · exact ih j hjn hjs
    · cases hlj : listed.getD j false with
      | true => rfl
      | false =>
        have hmem : j ∈ Region.ready .any ops listed := by
          refine mem_ready.2 ⟨?_, ops[j]'hjs, by simp [hjs], fun e he hb => ?_⟩
          · have : j < listed.size := by omega
            simp [this] at hlj ⊢
            exact hlj
          · have hlt := lowAfter_spec hl (show ops[j]? = some (ops[j]'hjs) by simp [hjs]) e he
            exact ih e.on (by omega) (by omega)
        rw [hr] at hmem
        cases hmem

theorem count_set (l : List Bool) : ∀ (i : Nat), l[i]? = some false → (l.set i true).count false + 1 = l.count false := by
  induction l with
  | nil => intro i h; simp at h
  | cons b l ih =>
    intro i h
    cases i with
    | zero =>
      simp at h
      subst h
      simp
    | succ i =>
      simp at h
      have := ih i h
      cases b <;> simp at this ⊢ <;> omega

theorem count_none (l : List Bool) (h : l.count false = 0) (j : Nat) : l[j]? ≠ some false := by
  intro hj
  have := List.count_pos_iff.2 (List.mem_of_getElem? hj)
  omega

theorem orders_go (A : (Nat → Value) → Act) (T : Nat → Want) (J : World → Prop) (hl : lowAfter ops = true)
    (hstep : StepsAt P ops Q A T J (List.range ops.size))
    (hdone : ∀ u W, J W → (∀ j, j < ops.size → (T j).ok (u j) W) → Q .normal (A u) W) :
    ∀ (fuel : Nat) (listed : Array Bool) (u : Nat → Value) (W : World), listed.size = ops.size → listed.toList.count false ≤ fuel → J W →
      (∀ j, listed.getD j false = true → (T j).ok (u j) W) → wpAny P .any ops Q fuel listed (A u) W := by
  intro fuel
  induction fuel with
  | zero =>
    intro listed u W hsz hc hJ hd
    have hr : Region.ready .any ops listed = [] := by
      refine List.eq_nil_iff_forall_not_mem.2 fun j hj => ?_
      obtain ⟨h1, o, ho, _⟩ := mem_ready.1 hj
      have hjs : j < listed.size := by
        rw [hsz]
        rcases Nat.lt_or_ge j ops.size with h | h
        · exact h
        · rw [Array.getElem?_eq_none h] at ho; cases ho
      refine count_none listed.toList (by omega) j ?_
      simp [hjs] at h1 ⊢
      exact h1
    exact ⟨hr, hdone u W hJ fun j hj => hd j (all_listed hl listed hr hsz (j + 1) j (by omega) hj)⟩
  | succ fuel ih =>
    intro listed u W hsz hc hJ hd
    refine ⟨fun hr => hdone u W hJ fun j hj => hd j (all_listed hl listed hr hsz (j + 1) j (by omega) hj), fun i hi => ?_⟩
    obtain ⟨h1, o, ho, hall⟩ := mem_ready.1 hi
    have his : i < ops.size := by
      rcases Nat.lt_or_ge i ops.size with h | h
      · exact h
      · rw [Array.getElem?_eq_none h] at ho; cases ho
    have hil : i < listed.size := by omega
    have hdep : ∀ j, waits o j = true → (T j).ok (u j) W := fun j hj => by
      obtain ⟨e, he, hb⟩ := Array.any_eq_true'.1 hj
      simp only [Bool.and_eq_true, beq_iff_eq] at hb
      obtain ⟨hb, rfl⟩ := hb
      exact hd e.on (hall e he hb)
    refine wpOp_mono (fun a' w' h => ?_) (hstep i (List.mem_range.2 his) o ho u W hJ hdep)
    obtain ⟨v, rfl, hok, hJ', hb⟩ := h
    refine ih _ _ _ (by simpa using hsz) ?_ hJ' fun j hj => ?_
    · have h2 : listed.toList[i]? = some false := by simp [hil] at h1 ⊢; exact h1
      have := count_set listed.toList i h2
      rw [Array.toList_setIfInBounds]
      omega
    · by_cases hji : j = i
      · subst hji
        rw [upd_same]
        exact hok
      · rw [upd_other u v hji]
        refine Want.mono hb (hd j ?_)
        rw [getD_set_ne false (Ne.symm hji)] at hj
        exact hj

/-- A region that draws: a step for each operation, whatever the order. -/
theorem wp_orders {id : Nat} {w : World} {rs : List Nat} (A : (Nat → Value) → Act) (u0 : Nat → Value) (T : Nat → Want) (J : World → Prop) (hm : P.follows .mixedOrders = true) (hl : lowAfter ops = true)
    (hrs : List.range ops.size = rs) (hJ : J w.drew) (hstep : StepsAt P ops Q A T J rs)
    (hdone : ∀ u W, J W → (∀ j, j < ops.size → (T j).ok (u j) W) → Q .normal (A u) W) :
    (Code.region id ops true).wp P Q (A u0) w := by
  subst hrs
  refine wp_region_any hm (orders_go A T J hl hstep hdone _ _ _ _ (by simp) ?_ hJ fun j hj => ?_)
  · exact Nat.le_trans List.count_le_length (by simp)
  · exfalso
    rcases Nat.lt_or_ge j ops.size with h | h
    · simp [h] at hj
    · simp [h] at hj

/-- A step that yields a value. -/
theorem step_value {o : Oper} {a : Act} {W W' : World} {K' : Act → World → Prop} {v : Value} {E : Prop} (hw : Region.wanted o (yielded ops a.tmps) = true)
    (hrun : (execOp a.eval o).run P W = .ok (.value v) W') (hK : K' (a.put o.dst v) W') :
    if Region.wanted o (yielded ops a.tmps) = true then Oper.wp P o a W K' Q else E := by
  rw [if_pos hw, Oper.wp, hrun, Oper.upon_value]
  exact hK

/-- A step that calls a function. -/
theorem step_enter {o : Oper} {a : Act} {W W' : World} {K' : Act → World → Prop} {f : FuncId} {args : Array Value} {E : Prop} (hw : Region.wanted o (yielded ops a.tmps) = true)
    (hrun : (execOp a.eval o).run P W = .ok (.enter f args) W') (hc : Calls P f args W' fun e w' => ∃ v, e = .returned v ∧ K' (a.put o.dst v) w') :
    if Region.wanted o (yielded ops a.tmps) = true then Oper.wp P o a W K' Q else E := by
  rw [if_pos hw, Oper.wp, hrun, Oper.upon_enter]
  refine hc.mono fun e w' h => ?_
  obtain ⟨v, rfl, h⟩ := h
  exact h

/-- A step that is not wanted. -/
theorem step_skip {o : Oper} {a : Act} {W : World} {K' : Act → World → Prop} {E : Prop} (hw : Region.wanted o (yielded ops a.tmps) = false) (hE : E) :
    if Region.wanted o (yielded ops a.tmps) = true then Oper.wp P o a W K' Q else E := by
  rw [if_neg (by rw [hw]; simp)]
  exact hE

theorem run_mv {ρ : Operand → Value} {o : Oper} (x : Operand) (h : o.op = .move x) (w : World) : (execOp ρ o).run P w = .ok (.value (ρ x)) w := by
  unfold execOp; rw [h]; rfl
theorem run_as {ρ : Operand → Value} {o : Oper} (x : Operand) (h : o.op = .assign x) (w : World) : (execOp ρ o).run P w = .ok (.value (ρ x)) w := by
  unfold execOp; rw [h]; rfl
end
end Go.Proofs.YthjombepcmebfaaGreatDoor

/- A region that draws its order of evaluation, by an invariant that knows which operations are done: one step for each operation. My own law, over Derived/Orders.lean. -/
namespace Go.Proofs.YthjombepcmebfaaGreatDoor
open Go.RowKit

/-- Operation i is done, too. -/
def also (d : Nat → Bool) (i : Nat) : Nat → Bool := fun j => cond (Nat.beq j i) true (d j)

section
variable {P : Program} {ops : Array Oper} {Q : Exit → Act → World → Prop}

/-- One operation's step. -/
def StepInv (P : Program) (ops : Array Oper) (Q : Exit → Act → World → Prop) (A : (Nat → Value) → Act) (I : (Nat → Bool) → (Nat → Value) → World → Prop) (i : Nat) : Prop :=
  ∀ o, ops[i]? = some o → ∀ (d : Nat → Bool) (u : Nat → Value) (W : World), I d u W → d i = false → (∀ j, waits o j = true → d j = true) →
    wpOp P ops Q i (fun a' w' => ∃ v, a' = A (upd u i v) ∧ I (also d i) (upd u i v) w') (A u) W

def StepsInv (P : Program) (ops : Array Oper) (Q : Exit → Act → World → Prop) (A : (Nat → Value) → Act) (I : (Nat → Bool) → (Nat → Value) → World → Prop) (rs : List Nat) : Prop :=
  ∀ i ∈ rs, StepInv P ops Q A I i

theorem StepsInv.nil {A : (Nat → Value) → Act} {I : (Nat → Bool) → (Nat → Value) → World → Prop} : StepsInv P ops Q A I [] := fun _ h => by cases h

theorem StepsInv.cons {A : (Nat → Value) → Act} {I : (Nat → Bool) → (Nat → Value) → World → Prop} {i : Nat} {rs : List Nat} (o : Oper) (ho : ops[i]? = some o)
    (h : ∀ (d : Nat → Bool) (u : Nat → Value) (W : World) (K' : Act → World → Prop), I d u W → d i = false → (∀ j, waits o j = true → d j = true) →
      Shut (∀ v w', I (also d i) (upd u i v) w' → K' (A (upd u i v)) w') →
      if Region.wanted o (yielded ops (A u).tmps) = true then Oper.wp P o (A u) W K' Q else K' ((A u).put o.dst undef) W)
    (hs : StepsInv P ops Q A I rs) : StepsInv P ops Q A I (i :: rs) := fun j hj => by
  rcases List.mem_cons.1 hj with rfl | hj
  · intro o' ho' d u W hI hd hw
    rw [ho] at ho'
    obtain rfl : o = o' := Option.some.inj ho'
    exact wpOp_step ho (fun K' hK => h d u W K' hI hd hw (fun v w' h1 => hK _ _ ⟨v, rfl, h1⟩))
  · exact hs j hj

theorem also_listed (listed : Array Bool) {i : Nat} (hi : i < listed.size) : (fun j => (listed.setIfInBounds i true).getD j false) = also (fun j => listed.getD j false) i := by
  funext j
  unfold also
  by_cases h : j = i
  · subst h
    have : Nat.beq j j = true := Nat.beq_refl j
    rw [this]
    simp [hi]
  · have hb : Nat.beq j i = false := by cases hb : Nat.beq j i <;> first | rfl | exact absurd (Nat.eq_of_beq_eq_true hb) h
    rw [hb]
    exact getD_set_ne false (Ne.symm h)

theorem inv_go (A : (Nat → Value) → Act) (I : (Nat → Bool) → (Nat → Value) → World → Prop) (hl : lowAfter ops = true)
    (hstep : StepsInv P ops Q A I (List.range ops.size))
    (hdone : ∀ d u W, I d u W → (∀ j, j < ops.size → d j = true) → Q .normal (A u) W) :
    ∀ (fuel : Nat) (listed : Array Bool) (u : Nat → Value) (W : World), listed.size = ops.size → listed.toList.count false ≤ fuel → I (fun j => listed.getD j false) u W →
      wpAny P .any ops Q fuel listed (A u) W := by
  intro fuel
  induction fuel with
  | zero =>
    intro listed u W hsz hc hI
    have hr : Region.ready .any ops listed = [] := by
      refine List.eq_nil_iff_forall_not_mem.2 fun j hj => ?_
      obtain ⟨h1, o, ho, _⟩ := mem_ready.1 hj
      have hjs : j < listed.size := by
        rw [hsz]
        rcases Nat.lt_or_ge j ops.size with h | h
        · exact h
        · rw [Array.getElem?_eq_none h] at ho; cases ho
      refine count_none listed.toList (by omega) j ?_
      simp [hjs] at h1 ⊢
      exact h1
    exact ⟨hr, hdone _ u W hI fun j hj => all_listed hl listed hr hsz (j + 1) j (by omega) hj⟩
  | succ fuel ih =>
    intro listed u W hsz hc hI
    refine ⟨fun hr => hdone _ u W hI fun j hj => all_listed hl listed hr hsz (j + 1) j (by omega) hj, fun i hi => ?_⟩
    obtain ⟨h1, o, ho, hall⟩ := mem_ready.1 hi
    have his : i < ops.size := by
      rcases Nat.lt_or_ge i ops.size with h | h
      · exact h
      · rw [Array.getElem?_eq_none h] at ho; cases ho
    have hil : i < listed.size := by omega
    have hdi : listed.getD i false = false := by simp [hil] at h1 ⊢; exact h1
    have hdep : ∀ j, waits o j = true → listed.getD j false = true := fun j hj => by
      obtain ⟨e, he, hb⟩ := Array.any_eq_true'.1 hj
      simp only [Bool.and_eq_true, beq_iff_eq] at hb
      obtain ⟨hb, rfl⟩ := hb
      exact hall e he hb
    refine wpOp_mono (fun a' w' h => ?_) (hstep i (List.mem_range.2 his) o ho (fun j => listed.getD j false) u W hI hdi hdep)
    obtain ⟨v, rfl, hI'⟩ := h
    rw [← also_listed listed hil] at hI'
    refine ih _ _ _ (by simpa using hsz) ?_ hI'
    have h2 : listed.toList[i]? = some false := by simp [hil] at h1 ⊢; exact h1
    have := count_set listed.toList i h2
    rw [Array.toList_setIfInBounds]
    omega

/-- A region that draws: a step for each operation, whatever the order; the invariant knows what is done. -/
theorem wp_inv {id : Nat} {w : World} {rs : List Nat} (A : (Nat → Value) → Act) (u0 : Nat → Value) (I : (Nat → Bool) → (Nat → Value) → World → Prop) (hm : P.follows .mixedOrders = true) (hl : lowAfter ops = true)
    (hrs : List.range ops.size = rs) (hI : I (fun _ => false) u0 w.drew) (hstep : StepsInv P ops Q A I rs)
    (hdone : ∀ d u W, I d u W → (∀ j, j < ops.size → d j = true) → Q .normal (A u) W) :
    (Code.region id ops true).wp P Q (A u0) w := by
  subst hrs
  refine wp_region_any hm (inv_go A I hl hstep hdone _ _ _ _ (by simp) ?_ ?_)
  · exact Nat.le_trans List.count_le_length (by simp)
  · have e : (fun j => (Array.replicate ops.size false).getD j false) = fun _ => false := by
      funext j
      rcases Nat.lt_or_ge j ops.size with h | h
      · simp [h]
      · simp [h]
    rw [e]
    exact hI
/-- A step that yields nothing. -/
theorem step_none {o : Oper} {a : Act} {W W' : World} {K' : Act → World → Prop} {E : Prop} (hw : Region.wanted o (yielded ops a.tmps) = true)
    (hrun : (execOp a.eval o).run P W = .ok .skip W') (hK : K' (a.put o.dst undef) W') :
    if Region.wanted o (yielded ops a.tmps) = true then Oper.wp P o a W K' Q else E := by
  rw [if_pos hw, Oper.wp, hrun, Oper.upon_skip]
  exact hK
end
end Go.Proofs.YthjombepcmebfaaGreatDoor

/- The program's Cmp. -/
namespace Go.Proofs.YthjombepcmebfaaGreatDoor
open Go.RowKit
set_option linter.unusedVariables false

/-- Two versions in boxes, one behind the other. -/
structure Duo (w W : World) (v u : Sem.Ver) : Prop where
  a : VerAt W w.heap.size v
  b : VerAt W (w.heap.size + 1) u
  bel : Below w.heap.size w W

theorem Duo.call {w W W' : World} {v u : Sem.Ver} (h : Duo w W v u) (hb : Below W.heap.size W W') : Duo w W' v u := ⟨h.a.next hb, h.b.next hb, below_next h.bel hb⟩
theorem Duo.drew {w W : World} {v u : Sem.Ver} (h : Duo w W v u) : Duo w W.drew v u := ⟨h.a, h.b, h.bel.drew⟩

theorem duo_new (w : World) (v u : Sem.Ver) : Duo w ((w.alloc (.cells #[.int .i64 v.maj, .int .i64 v.min, .int .i64 v.pat, .string ⟨v.pre.toArray⟩] 40)).alloc (.cells #[.int .i64 u.maj, .int .i64 u.min, .int .i64 u.pat, .string ⟨u.pre.toArray⟩] 40)) v u := by
  refine ⟨(ver_new w v).next (below_one _ _), ?_, below_new (below_one _ _) _⟩
  have h := ver_new (w.alloc (.cells #[.int .i64 v.maj, .int .i64 v.min, .int .i64 v.pat, .string ⟨v.pre.toArray⟩] 40)) u
  rw [World.size_alloc] at h
  exact h

/-- One core? -/
def oneCore (v u : Sem.Ver) : Bool := v.maj == u.maj && v.min == u.min && v.pat == u.pat

def cmpT (v u : Sem.Ver) : Nat → Want
  | 0 => .val (.agg #[.int .i64 v.maj, .int .i64 v.min, .int .i64 v.pat, .string ⟨v.pre.toArray⟩])
  | 1 => .val (.agg #[.int .i64 v.maj, .int .i64 v.min, .int .i64 v.pat, .string ⟨#[]⟩])
  | 2 => .val (.agg #[.int .i64 u.maj, .int .i64 u.min, .int .i64 u.pat, .string ⟨u.pre.toArray⟩])
  | 3 => .val (.agg #[.int .i64 u.maj, .int .i64 u.min, .int .i64 u.pat, .string ⟨#[]⟩])
  | 4 => .val (.bool (oneCore v u))
  | _ => .any

set_option maxRecDepth 100000 in
set_option maxHeartbeats 4000000 in
theorem cmp_walk (v u : Sem.Ver) (hv : v.pre.length ≤ 1000000) (hu : u.pre.length ≤ 1000000) (w : World) :
    Calls Tryz.prog 27 #[verV v, verV u] w fun e w' => e = .returned (.int .i64 (Sem.cmp v u)) ∧ Below w.heap.size w w' := by
  have hV : verV v = .agg #[.int .i64 v.maj, .int .i64 v.min, .int .i64 v.pat, .string ⟨v.pre.toArray⟩] := rfl
  have hU : verV u = .agg #[.int .i64 u.maj, .int .i64 u.min, .int .i64 u.pat, .string ⟨u.pre.toArray⟩] := rfl
  rw [hV, hU]
  clear hV hU
  go_enter Tryz.func27, Tryz.ntmps27
  go_wp2_with fail
  have HD := duo_new w v u
  generalize (w.alloc (Obj.cells #[.int .i64 v.maj, .int .i64 v.min, .int .i64 v.pat, .string ⟨v.pre.toArray⟩] 40)).alloc (Obj.cells #[.int .i64 u.maj, .int .i64 u.min, .int .i64 u.pat, .string ⟨u.pre.toArray⟩] 40) = W at HD ⊢
  refine wp_orders (rs := [0, 1, 2, 3, 4])
    (fun u' => { tmps := #[.agg #[.int .i64 v.maj, .int .i64 v.min, .int .i64 v.pat, .string ⟨v.pre.toArray⟩], .agg #[.int .i64 u.maj, .int .i64 u.min, .int .i64 u.pat, .string ⟨u.pre.toArray⟩], .pointer (some ⟨w.heap.size, 0, none⟩), .pointer (some ⟨w.heap.size + 1, 0, none⟩), .int .i64 0, u' 0, u' 1, u' 2, u' 3, u' 4, undef, undef, undef, undef, undef, undef, undef, undef, undef, undef, undef, undef, undef, undef, undef, undef, undef, undef, undef, undef, undef, undef], defers := [] })
    (fun _ => undef) (cmpT v u) (fun W => Duo w W v u) (by kernel_rfl) (by kernel_rfl) (by kernel_rfl) HD.drew ?_ ?_
  refine StepsAt.cons _ rfl (fun u' W K' hJ hd hK => ?_) ?_
  · obtain ⟨z0, y0, y1, y2, y3⟩ := hJ.a
    refine step_value (v := .agg #[.int .i64 v.maj, .int .i64 v.min, .int .i64 v.pat, .string ⟨v.pre.toArray⟩]) (W' := W) rfl ?_ (hK.out _ _ rfl hJ (Below.refl _ _))
    try dsimp only
    go_simp
  refine StepsAt.cons _ rfl (fun u' W K' hJ hd hK => ?_) ?_
  · have d1 : u' 0 = .agg #[.int .i64 v.maj, .int .i64 v.min, .int .i64 v.pat, .string ⟨v.pre.toArray⟩] := hd 0 (by kernel_rfl)
    refine step_enter (f := 50) (args := #[.agg #[.int .i64 v.maj, .int .i64 v.min, .int .i64 v.pat, .string ⟨v.pre.toArray⟩]]) (W' := W) rfl ?_ ((coreL_walk v W).mono fun e w' h => ⟨_, h.1, hK.out _ _ rfl (hJ.call h.2) h.2⟩)
    try dsimp only
    go_simp
  refine StepsAt.cons _ rfl (fun u' W K' hJ hd hK => ?_) ?_
  · obtain ⟨z0, y0, y1, y2, y3⟩ := hJ.b
    refine step_value (v := .agg #[.int .i64 u.maj, .int .i64 u.min, .int .i64 u.pat, .string ⟨u.pre.toArray⟩]) (W' := W) rfl ?_ (hK.out _ _ rfl hJ (Below.refl _ _))
    try dsimp only
    go_simp
  refine StepsAt.cons _ rfl (fun u' W K' hJ hd hK => ?_) ?_
  · have d1 : u' 2 = .agg #[.int .i64 u.maj, .int .i64 u.min, .int .i64 u.pat, .string ⟨u.pre.toArray⟩] := hd 2 (by kernel_rfl)
    refine step_enter (f := 50) (args := #[.agg #[.int .i64 u.maj, .int .i64 u.min, .int .i64 u.pat, .string ⟨u.pre.toArray⟩]]) (W' := W) rfl ?_ ((coreL_walk u W).mono fun e w' h => ⟨_, h.1, hK.out _ _ rfl (hJ.call h.2) h.2⟩)
    try dsimp only
    go_simp
  refine StepsAt.cons _ rfl (fun u' W K' hJ hd hK => ?_) StepsAt.nil
  · have d1 : u' 1 = .agg #[.int .i64 v.maj, .int .i64 v.min, .int .i64 v.pat, .string ⟨#[]⟩] := hd 1 (by kernel_rfl)
    have d2 : u' 3 = .agg #[.int .i64 u.maj, .int .i64 u.min, .int .i64 u.pat, .string ⟨#[]⟩] := hd 3 (by kernel_rfl)
    refine step_value (v := .bool (oneCore v u)) (W' := W) rfl ?_ (hK.out _ _ rfl hJ (Below.refl _ _))
    unfold oneCore
    cases hx : (v.maj == u.maj)
    · try dsimp only
      go_simp
    · cases hy : (v.min == u.min)
      · try dsimp only
        go_simp
      · cases hz : (v.pat == u.pat)
        · try dsimp only
          go_simp
        · try dsimp only
          go_simp
  intro u' W5 hJ hok
  have e0 : u' 0 = .agg #[.int .i64 v.maj, .int .i64 v.min, .int .i64 v.pat, .string ⟨v.pre.toArray⟩] := hok 0 (by decide)
  have e1 : u' 1 = .agg #[.int .i64 v.maj, .int .i64 v.min, .int .i64 v.pat, .string ⟨#[]⟩] := hok 1 (by decide)
  have e2 : u' 2 = .agg #[.int .i64 u.maj, .int .i64 u.min, .int .i64 u.pat, .string ⟨u.pre.toArray⟩] := hok 2 (by decide)
  have e3 : u' 3 = .agg #[.int .i64 u.maj, .int .i64 u.min, .int .i64 u.pat, .string ⟨#[]⟩] := hok 3 (by decide)
  have e4 : u' 4 = .bool (oneCore v u) := hok 4 (by decide)
  try dsimp only
  rw [e0, e1, e2, e3, e4]
  obtain ⟨_, c0, c1, c2, c3⟩ := hJ.a
  obtain ⟨_, d0, d1, d2, d3⟩ := hJ.b
  have hb6 := hJ.bel
  cases ho : oneCore v u
  · have HC : Hid (orR [ord v.maj u.maj, ord v.min u.min, ord v.pat u.pat] = Sem.cmp v u) := Lib.hid (orR_cmp v u (fun h => by
      obtain ⟨h1, h2, h3⟩ := h
      unfold oneCore at ho
      rw [h1, h2, h3] at ho
      simp at ho))
    clear ho
    go_wp2_with fail
    refine wp_region_still_tail 15 (by kernel_rfl) (by kernel_rfl) ?_
    simp only [List.take_succ_cons, List.take_zero, List.drop_succ_cons, List.drop_zero]
    repeat (first | still_step | still_call (flip (compare_walk _ _ _)))
    refine wpStill_nil ?_
    change wpList _ _ _ _ _ W5.drew
    clear c0 c1 c2 c3 d0 d1 d2 d3
    go_wp2_with fail
    have hO := or_walk (some ⟨W5.drew.heap.size, 0, none⟩) 3 [ord v.maj u.maj, ord v.min u.min, ord v.pat u.pat] _ (ints_lit W5.drew [ord v.maj u.maj, ord v.min u.min, ord v.pat u.pat] (cs := #[Value.int IntKind.i64 (ord v.maj u.maj), Value.int IntKind.i64 (ord v.min u.min), Value.int IntKind.i64 (ord v.pat u.pat)]) rfl) (by simp)
    refine hO.mono ?_
    rintro e w6 ⟨rfl, rfl⟩
    go_wp2
    go_ret
    exact ⟨by rw [← HC.out]; rfl, below_new hb6.drew _⟩
  · have HC : Hid (Sem.cmp v u = Sem.three (Sem.preKey v.pre) (Sem.preKey u.pre)) := Lib.hid (by
      unfold oneCore at ho
      simp only [Bool.and_eq_true, beq_iff_eq] at ho
      rw [Sem.cmp_steps, if_pos ho.1.1, if_pos ho.1.2, if_pos ho.2])
    clear ho
    go_wp2_with fail
    refine (cmpPre_walk _ _ hv hu _).mono ?_
    rintro e w6 ⟨rfl, hb7⟩
    go_wp2
    go_ret
    exact ⟨by rw [HC.out]; rfl, below_next hb6 hb7⟩
end Go.Proofs.YthjombepcmebfaaGreatDoor

/- strings.SplitSeq at a dot, over a text of at most 24 bytes: its pieces come one by one. -/
namespace Go.Proofs.YthjombepcmebfaaGreatDoor
open Go.RowKit
attribute [local go_sem] Oper.semAt_some
set_option linter.unusedVariables false

/-- The three boxes that the iterator's value holds on to: the text, the dot, 0. -/
def SeqAt (W : World) (b : Nat) (s : List UInt8) : Prop :=
  b + 2 < W.heap.size ∧ W.cell? ⟨b, 0, none⟩ = some (.string ⟨s.toArray⟩) ∧ W.frozen? ⟨b, 0, none⟩ = false ∧ W.cell? ⟨b + 1, 0, none⟩ = some (.string ⟨#[46]⟩) ∧ W.cell? ⟨b + 2, 0, none⟩ = some (.int .i64 0)

theorem SeqAt.keep {W W' : World} {b : Nat} {s : List UInt8} (h : SeqAt W b s) (hb : Below (b + 3) W W') : SeqAt W' b s := by
  obtain ⟨h0, h1, h2, h3, h4⟩ := h
  exact ⟨Nat.lt_of_lt_of_le h0 hb.size, (hb.cell (p := ⟨b, 0, none⟩) (by show b < b + 3; omega)).trans h1, (hb.frozen (p := ⟨b, 0, none⟩) (by show b < b + 3; omega)).trans h2,
    (hb.cell (p := ⟨b + 1, 0, none⟩) (by show b + 1 < b + 3; omega)).trans h3, (hb.cell (p := ⟨b + 2, 0, none⟩) (by show b + 2 < b + 3; omega)).trans h4⟩

theorem SeqAt.set {W : World} {b : Nat} {s t : List UInt8} (h : SeqAt W b s) : SeqAt (W.setCell ⟨b, 0, none⟩ (.string ⟨t.toArray⟩)) b t := by
  obtain ⟨h0, h1, h2, h3, h4⟩ := h
  refine ⟨by rw [World.size_setCell]; exact h0, World.cell?_setCell_same _ _ _ h1, by rw [World.frozen?_setCell]; exact h2, ?_, ?_⟩
  · refine (World.cell?_setCell_other _ _ _ _ ?_).trans h3
    intro h; have := congrArg Addr.block h; simp at this
  · refine (World.cell?_setCell_other _ _ _ _ ?_).trans h4
    intro h; have := congrArg Addr.block h; simp at this

theorem seq_walk (s : List UInt8) (w : World) :
    Calls Tryz.prog 48 #[.string ⟨s.toArray⟩, .string ⟨#[46]⟩] w fun e w' => e = .returned (.func (.func 94) #[] #[.pointer (some ⟨w.heap.size + 1, 0, none⟩), .pointer (some ⟨w.heap.size, 0, none⟩), .pointer (some ⟨w.heap.size + 2, 0, none⟩)]) ∧ SeqAt w' w.heap.size s ∧ Below w.heap.size w w' := by
  have hin : ∀ w, Calls Tryz.prog 72 #[.string ⟨s.toArray⟩, .string ⟨#[46]⟩, .int .i64 0] w fun e w' => e = .returned (.func (.func 94) #[] #[.pointer (some ⟨w.heap.size + 1, 0, none⟩), .pointer (some ⟨w.heap.size, 0, none⟩), .pointer (some ⟨w.heap.size + 2, 0, none⟩)]) ∧ SeqAt w' w.heap.size s ∧ Below w.heap.size w w' := by
    intro w
    go_enter Tryz.func72, Tryz.ntmps72
    go_wp2
    go_ret
    refine ⟨rfl, ⟨by simp, ?_, ?_, ?_, ?_⟩, below_new (below_new (below_one _ _) _) _⟩
    · simp [go_sem]
    · simp [go_sem]
    · simp [go_sem]
    · simp [go_sem]
  go_enter Tryz.func48, Tryz.ntmps48
  go_wp2_with (go_at_call 72; refine (hin _).mono ?_; rintro e w' ⟨rfl, h1, h2⟩)
  go_ret
  exact ⟨rfl, by assumption, by assumption⟩

theorem index_dot (s : List UInt8) : (Lib.indexByte s 46 = -1 ∧ (Sem.cut 46 s).2.2 = false) ∨ ∃ i : Nat, Lib.indexByte s 46 = i ∧ i < s.length ∧ Sem.cut 46 s = (s.take i, s.drop (i + 1), true) := by
  have h := lib_cut 46 s
  unfold Lib.cut at h
  rw [Lib.index_one] at h
  have hge := Lib.indexByte_ge s 46
  by_cases hn : Lib.indexByte s 46 = -1
  · left
    rw [if_neg (by omega)] at h
    exact ⟨hn, by rw [← h]⟩
  · right
    rw [if_pos (by omega)] at h
    refine ⟨(Lib.indexByte s 46).toNat, by omega, ?_, h.symm⟩
    have h1 := (Lib.indexByte_some (l := s) (c := 46) (o := (Lib.indexByte s 46).toNat) (by omega)).1
    rcases Nat.lt_or_ge (Lib.indexByte s 46).toNat s.length with h2 | h2
    · exact h2
    · rw [List.getElem?_eq_none h2] at h1; cases h1

theorem index_dot_walk (s : List UInt8) (w : World) : Calls Tryz.prog 84 #[.string ⟨s.toArray⟩, .string ⟨#[46]⟩] w fun e w' => e = .returned (.int .i64 (Lib.indexByte s 46)) ∧ w' = w :=
  Any.strings_Index_one Tryz.lays143 ⟨s.toArray⟩ 46 w

set_option maxRecDepth 100000 in
set_option maxHeartbeats 2000000 in
/-- The iterator, under whatever loop. -/
theorem split_in (n : Nat) (hn : 1 ≤ n) (l b : Nat) (s : List UInt8) (hs : s.length ≤ 24) (J Jx : List (List UInt8) → World → Prop) (W : World)
    (hY : ∀ pre x W, J pre W → x.length ≤ 24 → YieldAt Fence.wide (n - 1) Tryz.prog l #[.string ⟨x.toArray⟩] W fun e W' =>
      (e = .returned (.bool true) ∧ J (pre ++ [x]) W' ∧ Below (b + 3) W W') ∨ (e = .returned (.bool false) ∧ Jx (pre ++ [x]) W'))
    (hJ : ∀ pre W v, J pre W → J pre (W.setCell ⟨b, 0, none⟩ v)) (hS : SeqAt W b s) (h0 : J [] W) :
    CallsIn Fence.wide n Tryz.prog 94 #[.func (.yield l) #[] #[], .pointer (some ⟨b + 1, 0, none⟩), .pointer (some ⟨b, 0, none⟩), .pointer (some ⟨b + 2, 0, none⟩)] W fun e W' =>
      (∃ v, e = .returned v) ∧ (J (Sem.parts s) W' ∨ ∃ pre suf, pre ++ suf = Sem.parts s ∧ Jx pre W') := by
  refine callsIn_of_wp Tryz.func94 rfl trivial ?_ rfl
  simp only [Tryz.ntmps94, List.size_toArray, List.length_cons, List.length_nil, Nat.reduceAdd, Nat.reduceSub, Array.replicate_succ, Array.replicate_zero, List.push_toArray, List.append_toArray, List.nil_append, List.cons_append]
  have HS := Lib.hid hS
  obtain ⟨hb, c0, f0, c1, c2⟩ := hS
  gi_wp2_with fail
  gi_loopw [7] (fun i wr => ∃ (pre : List (List UInt8)) (rest : List UInt8), rest.length ≤ 24 ∧ SeqAt wr b rest ∧ pre ++ Sem.parts rest = Sem.parts s ∧ J pre wr)
    (fun i wr => match wr.cell? ⟨b, 0, none⟩ with | some (.string x) => x.size | _ => 0)
  case atStart => exact ⟨[], s, hs, HS.out, rfl, h0⟩
  case round =>
    clear HS hb c0 f0 c1 c2
    obtain ⟨pre, rest, hr, hSA, hpp, hJs⟩ := hrel
    have HSA := Lib.hid hSA
    have hcut := Sem.parts_cut rest
    obtain ⟨hb, c0, f0, c1, c2⟩ := hSA
    rcases index_dot rest with ⟨hi, hc⟩ | ⟨i, hi, hlt, hc⟩
    · rw [hc, if_neg (by simp)] at hcut
      have HE : Hid (pre ++ [rest] = Sem.parts s) := Lib.hid (by rw [← hpp, hcut])
      have hI := fun w => callsIn_wide (n := n - 1).2 (index_dot_walk rest w)
      rw [hi] at hI
      obtain ⟨fn, tmps, assign, body, hy, hR⟩ := hY pre rest wr hJs hr
      clear hc hi hcut hpp hY hJs
      gi_wp2_with (refine ⟨trivial, ?_⟩; gi_at_call 84; refine (hI _).mono ?_; rintro e w' ⟨rfl, rfl⟩)
      refine hR.mono ?_
      rintro e W3 (⟨rfl, hJ3, hk3⟩ | ⟨rfl, hJx3⟩)
      · gi_wp2
        go_end0
        exact ⟨⟨_, rfl⟩, Or.inl (by rw [← HE.out]; exact hJ3)⟩
      · gi_wp2
        go_end0
        exact ⟨⟨_, rfl⟩, Or.inr ⟨_, [], (List.append_nil _).trans HE.out, hJx3⟩⟩
    · rw [hc, if_pos rfl] at hcut
      have HE : Hid ((pre ++ [rest.take i]) ++ Sem.parts (rest.drop (i + 1)) = Sem.parts s) := Lib.hid (by rw [← hpp, hcut]; simp)
      have hI := fun w => callsIn_wide (n := n - 1).2 (index_dot_walk rest w)
      rw [hi] at hI
      obtain ⟨fn, tmps, assign, body, hy, hR⟩ := hY pre (rest.take i) wr hJs (by rw [List.length_take]; omega)
      have ex : (⟨(rest.take i).toArray⟩ : ByteArray) = (⟨rest.toArray⟩ : ByteArray).extract 0 i := by
        have := ByteArray.extract_mk rest 0 i
        simpa using this.symm
      rw [ex] at hy
      have hsz : (⟨rest.toArray⟩ : ByteArray).size = rest.length := size_list _
      have hw : IntKind.i64.wrap ((i : Int) + 1) = (i : Int) + 1 := IntWalk.i64_in _ (by omega)
      have hsl : ∀ W, (Instr.slice 9 (.string ⟨rest.toArray⟩) (some (.int .i64 ((i : Int) + 1))) none none).run Tryz.prog W = .ok (.string ⟨(rest.drop (i + 1)).toArray⟩) W := fun W => by
        have h := slice_from ⟨rest.toArray⟩ (i + 1) (by rw [hsz]; omega) W
        exact h
      clear hc hi hcut hpp hY
      gi_wp2_with (refine ⟨trivial, ?_⟩; gi_at_call 84; refine (hI _).mono ?_; rintro e w' ⟨rfl, rfl⟩)
      refine hR.mono ?_
      rintro e W3 (⟨rfl, hJ3, hk3⟩ | ⟨rfl, hJx3⟩)
      · have hS3 := HSA.out.keep hk3
        have HS3 := Lib.hid hS3
        have HJ3 := Lib.hid hJ3
        obtain ⟨hb3, d0, g0, d1, d2⟩ := hS3
        have hm0 := d0
        clear c0 f0 c1 c2 hk3 hJ3
        gi_wp2
        go_roundw
        case rel => exact ⟨pre ++ [rest.take i], rest.drop (i + 1), by rw [List.length_drop]; omega, HS3.out.set, HE.out, hJ _ _ _ HJ3.out⟩
        case measure =>
          rw [World.cell?_setCell_same _ _ _ hm0, HSA.out.2.1]
          show (⟨(rest.drop (i + 1)).toArray⟩ : ByteArray).size < (⟨rest.toArray⟩ : ByteArray).size
          rw [size_list, size_list, List.length_drop]; omega
      · gi_wp2
        refine bodyPost_ret (results_none rfl _ _ _) rfl ?_
        exact ⟨⟨_, rfl⟩, Or.inr ⟨_, _, HE.out, hJx3⟩⟩
end Go.Proofs.YthjombepcmebfaaGreatDoor

/- The statement 'for part := range strings.SplitSeq(s, ".")' in a function's body: what the caller owes. -/
namespace Go.Proofs.YthjombepcmebfaaGreatDoor
open Go.RowKit
set_option linter.unusedVariables false

/-- How a round may be left: it goes on, or it returns. -/
def roundLeft (b : Nat) (I Ix : List (List UInt8) → World → Prop) (xs : List (List UInt8)) (W : World) : Exit → Act → World → Prop
  | .normal, _, W' => KeepsOthers W W' ∧ Below (b + 3) W W' ∧ I xs W'
  | .ret, _, W' => KeepsOthers W W' ∧ Ix xs W'
  | _, _, _ => False

theorem below_put {B : Nat} {W : World} {l : Nat} (o : Obj) (h : B ≤ l) : Below B W (W.putObj l o) :=
  ⟨rfl, rfl, rfl, by simp, fun k hk => World.putObj_heap_other (by omega)⟩

set_option maxHeartbeats 1000000 in
theorem range_seq {g : Operand} {ps : Array Tmp} {assign body : Code} {Q : Exit → Act → World → Prop} {a : Act} {w : World} (n : Nat) (hn : 3 ≤ n) (b : Nat) (s : List UInt8)
    (hg : a.eval g = .func (.func 94) #[] #[.pointer (some ⟨b + 1, 0, none⟩), .pointer (some ⟨b, 0, none⟩), .pointer (some ⟨b + 2, 0, none⟩)])
    (hS : SeqAt w b s) (hs : s.length ≤ 24) (hps : ps.size = 1) (I Ix : List (List UInt8) → World → Prop)
    (hI : ∀ pre A B, I pre A → Below b A B → I pre B) (hIx : ∀ pre A B, Ix pre A → Below b A B → Ix pre B) (h0 : I [] w) (a₁ : List UInt8 → Act)
    (hassign : ∀ (l : Nat) (x : List UInt8) (W : World) (K : Act → World → Prop), K (a₁ x) W →
      assign.wpIn (Fence.wide.inRound l) (n - 1 - 1) Tryz.prog (Exit.then K (fun _ _ _ => False)) { tmps := (ps.zip #[.string ⟨x.toArray⟩]).foldl (fun t (p, v) => t.setIfInBounds p v) a.tmps, defers := [] } W)
    (hbody : ∀ (l : Nat) (pre : List (List UInt8)) (x : List UInt8) (W : World), I pre W → x.length ≤ 24 → body.wpIn (Fence.wide.inRound l) (n - 1 - 1) Tryz.prog (roundLeft b I Ix (pre ++ [x]) W) (a₁ x) W)
    (hdone : ∀ (D : Nat) (W : World), I (Sem.parts s) W → W.heap[D]? = some (.deferred (some [])) → w.heap.size ≤ D → Q .normal { a with defers := { target := .collected D, args := #[] } :: a.defers } W)
    (hstop : ∀ (D : Nat) (pre suf : List (List UInt8)) (W : World), pre ++ suf = Sem.parts s → Ix pre W → W.heap[D]? = some (.deferred (some [])) → w.heap.size ≤ D → Code.ret.wpIn Fence.wide n Tryz.prog Q { a with defers := { target := .collected D, args := #[] } :: a.defers } W) :
    (Code.rangeFunc g ps assign body).wpIn Fence.wide n Tryz.prog Q a w := by
  refine wpIn_rangeFunc ?_
  intro fn hfn
  obtain ⟨rec, hrec⟩ : ∃ rec : LoopState → Option Code → Loop, rec = fun st pe => { state := st, pending := pe, fn, tmps := a.tmps, params := ps, assign, body, defers := w.heap.size } := ⟨_, rfl⟩
  obtain ⟨W1, hW1⟩ : ∃ W1, (w.alloc (.deferred (some []))).alloc (.loop (rec .ready none)) = W1 := ⟨_, rfl⟩
  have hb3 : b + 3 ≤ w.heap.size := hS.1
  have hL1 : W1.heap[w.heap.size + 1]? = some (.loop (rec .ready none)) := by
    rw [← hW1]; have := World.alloc_heap_new (w.alloc (.deferred (some []))) (.loop (rec .ready none)); rwa [World.size_alloc] at this
  have hK1 : W1.heap[w.heap.size]? = some (.deferred (some [])) := by
    rw [← hW1]; exact (Below.heap_alloc _ _ _ (by simp)).trans (World.alloc_heap_new w _)
  have hb1 : Below w.heap.size w W1 := by rw [← hW1]; exact below_new (below_one _ _) _
  have hI1 : I [] W1 := hI _ _ _ h0 (hb1.mono (by omega))
  refine ⟨w.heap.size + 1, [{ target := .collected w.heap.size, args := #[] }], W1, { target := .fn (.func 94) #[.pointer (some ⟨b + 1, 0, none⟩), .pointer (some ⟨b, 0, none⟩), .pointer (some ⟨b + 2, 0, none⟩)], args := #[.func (.yield (w.heap.size + 1)) #[] #[]] }, W1, 94,
    #[.func (.yield (w.heap.size + 1)) #[] #[], .pointer (some ⟨b + 1, 0, none⟩), .pointer (some ⟨b, 0, none⟩), .pointer (some ⟨b + 2, 0, none⟩)], W1, ?_, ?_, fun _ _ => trivial, ?_, fun _ => by omega, ?_⟩
  · rw [← hW1, hrec]; exact run_enterLoop_outer _ _ _ _ _
  · simp only [resolve, hg]
    simp [go_sem]
  · have e : ∀ args w, (callFunc 94 args).run Tryz.prog w = .ok (.enter 94 args) w := enters_of Tryz.func94 (by kernel_rfl) rfl
    simp [invoke, go_sem, e]
  · refine (split_in (n - 1) (by omega) (w.heap.size + 1) b s hs
      (fun pre W => I pre W ∧ W.heap[w.heap.size + 1]? = some (.loop (rec .ready none)) ∧ W.heap[w.heap.size]? = some (.deferred (some [])))
      (fun pre W => Ix pre W ∧ W.heap[w.heap.size + 1]? = some (.loop (rec .done (some .ret))) ∧ W.heap[w.heap.size]? = some (.deferred (some [])))
      W1 ?_ ?_ (hS.keep (hb1.mono (by omega))) ⟨hI1, hL1, hK1⟩).mono ?_
    · -- a round
      rintro pre x W ⟨hi, hl, hk⟩ hx
      have hlt : w.heap.size + 1 < W.heap.size := (Array.getElem?_eq_some_iff.1 hl).1
      have hy := run_yield (P := Tryz.prog) (args := #[.string ⟨x.toArray⟩]) hl (by rw [hrec]; simp [hps])
      rw [hrec] at hy
      refine ⟨fn, _, assign, body, hy, roundIn_of_wpIn hfn (hassign _ x W _ ⟨_, run_beginRound hl (by rw [hrec]), ?_⟩)⟩
      obtain ⟨W2, hW2⟩ : ∃ W2, W.putObj (w.heap.size + 1) (.loop { rec .ready none with state := .busy }) = W2 := ⟨_, rfl⟩
      have hl2 : W2.heap[w.heap.size + 1]? = some (.loop { rec .ready none with state := .busy }) := by rw [← hW2]; exact World.putObj_heap_same hlt
      have hk2 : W2.heap[w.heap.size]? = some (.deferred (some [])) := by rw [← hW2]; exact (World.putObj_heap_other (by omega)).trans hk
      have hw2 : Below (b + 3) W W2 := by rw [← hW2]; exact below_put _ (by omega)
      rw [hW2]
      refine wpIn_mono (hbody _ pre x _ (hI _ _ _ hi (hw2.mono (by omega))) hx) ?_
      have fin : ∀ (jump : Option Code) (W3 : World), KeepsOthers W2 W3 →
          (Instr.endRound (w.heap.size + 1) jump).run Tryz.prog W3 = .ok (.bool jump.isNone) (W3.putObj (w.heap.size + 1) (.loop (rec (if jump.isNone then .ready else .done) jump))) ∧
          (W3.putObj (w.heap.size + 1) (.loop (rec (if jump.isNone then .ready else .done) jump))).heap[w.heap.size + 1]? = some (.loop (rec (if jump.isNone then .ready else .done) jump)) ∧
          (W3.putObj (w.heap.size + 1) (.loop (rec (if jump.isNone then .ready else .done) jump))).heap[w.heap.size]? = some (.deferred (some [])) := fun jump W3 hk3 => by
        have hl3 := hk3.same _ _ hl2 rfl
        have := run_endRound (P := Tryz.prog) jump hl3
        rw [hrec] at this ⊢
        exact ⟨this, World.putObj_heap_same (Array.getElem?_eq_some_iff.1 hl3).1, (World.putObj_heap_other (by omega)).trans (hk3.same _ _ hk2 rfl)⟩
      rintro e a3 W3 hp
      cases e with
      | normal =>
        obtain ⟨hk3, hkp3, hi3⟩ := hp
        obtain ⟨hr, hl4, hk4⟩ := fin none W3 hk3
        exact ⟨_, _, hr, .inl ⟨rfl, ⟨hI _ _ _ hi3 (below_put _ (by omega)), hl4, hk4⟩, (hw2.trans hkp3).trans (below_put _ (by omega))⟩⟩
      | ret =>
        obtain ⟨hk3, hi3⟩ := hp
        obtain ⟨hr, hl4, hk4⟩ := fin (some .ret) W3 hk3
        exact ⟨_, _, hr, .inr ⟨rfl, hIx _ _ _ hi3 (below_put _ (by omega)), hl4, hk4⟩⟩
      | exit id => exact hp.elim
      | goto t => exact hp.elim
      | panic ch => exact hp.elim
      | outgrown => exact hp.elim
    · -- the iterator's own cell
      rintro pre W v ⟨hi, hl, hk⟩
      have hne1 : w.heap.size + 1 ≠ b := by omega
      have hne2 : w.heap.size ≠ b := by omega
      exact ⟨hI _ _ _ hi ((Below.refl b W).setCell (p := ⟨b, 0, none⟩) (Nat.le_refl _) _), (Below.heap_setCell W ⟨b, 0, none⟩ v _ hne1).trans hl, (Below.heap_setCell W ⟨b, 0, none⟩ v _ hne2).trans hk⟩
    · -- behind the iterator
      rintro e W2 ⟨⟨v, rfl⟩, (⟨hi, hl, hk⟩ | ⟨pre, suf, hp, hi, hl, hk⟩)⟩
      · exact ⟨none, _, by have := run_endLoop (P := Tryz.prog) hl (by rw [hrec]; simp); rw [hrec] at this; exact this, hdone _ _ (hI _ _ _ hi (below_put _ (by omega))) ((World.putObj_heap_other (by omega)).trans hk) (Nat.le_refl _)⟩
      · exact ⟨some .ret, _, by have := run_endLoop (P := Tryz.prog) hl (by rw [hrec]; simp); rw [hrec] at this; exact this, hstop _ pre suf _ hp (hIx _ _ _ hi (below_put _ (by omega))) ((World.putObj_heap_other (by omega)).trans hk) (Nat.le_refl _)⟩
end Go.Proofs.YthjombepcmebfaaGreatDoor

/- The program's Check: may a version be? -/
namespace Go.Proofs.YthjombepcmebfaaGreatDoor
open Go.RowKit
attribute [local go_sem] Oper.semAt_some
set_option linter.unusedVariables false

theorem int_one (h : 3 < Tryz.prog.types.size) : (Tryz.prog.types[3]'h).size = 1 := by kernel_rfl
theorem arr3_0 (a b c : Int) (W : World) : (Instr.index 80 (.agg #[.int .i64 a, .int .i64 b, .int .i64 c]) (.int .i64 0)).run Tryz.prog W = .ok (.int .i64 a) W := by
  simp [Instr.index, run_underlying Tryz.underlying80, asIntOf, go_sem, Tryz.sizeOf3, Tryz.isAgg3]
theorem arr3_1 (a b c : Int) (W : World) : (Instr.index 80 (.agg #[.int .i64 a, .int .i64 b, .int .i64 c]) (.int .i64 1)).run Tryz.prog W = .ok (.int .i64 b) W := by
  simp [Instr.index, run_underlying Tryz.underlying80, asIntOf, go_sem, Tryz.sizeOf3, Tryz.isAgg3]
theorem arr3_2 (a b c : Int) (W : World) : (Instr.index 80 (.agg #[.int .i64 a, .int .i64 b, .int .i64 c]) (.int .i64 2)).run Tryz.prog W = .ok (.int .i64 c) W := by
  simp [Instr.index, run_underlying Tryz.underlying80, asIntOf, go_sem, Tryz.sizeOf3, Tryz.isAgg3]

/-- How far the look at the three numbers has come. -/
def Far (a b c : Int) (i : Value) : Prop := i = .int .i64 0 ∨ (i = .int .i64 1 ∧ 0 ≤ a ∧ a ≤ 999999) ∨ (i = .int .i64 2 ∧ 0 ≤ a ∧ a ≤ 999999 ∧ 0 ≤ b ∧ b ≤ 999999) ∨ (i = .int .i64 3 ∧ 0 ≤ a ∧ a ≤ 999999 ∧ 0 ≤ b ∧ b ≤ 999999 ∧ 0 ≤ c ∧ c ≤ 999999)

theorem may_false_num {a b c : Int} {p : List UInt8} (h : ¬ ((0 ≤ a ∧ a ≤ 999999) ∧ (0 ≤ b ∧ b ≤ 999999) ∧ (0 ≤ c ∧ c ≤ 999999))) : chk ⟨a, b, c, p⟩ = 40 := by
  rw [chk, if_neg]
  rw [Sem.may_iff]
  rintro ⟨h1, h2, h3, _⟩
  exact h ⟨h1, h2, h3⟩

set_option maxRecDepth 100000 in
set_option maxHeartbeats 4000000 in
theorem check_bad (a b c : Int) (p : List UInt8) (hn : ¬ ((0 ≤ a ∧ a ≤ 999999) ∧ (0 ≤ b ∧ b ≤ 999999) ∧ (0 ≤ c ∧ c ≤ 999999))) (w : World) :
    Calls Tryz.prog 26 #[.agg #[.int .i64 a, .int .i64 b, .int .i64 c, .string ⟨p.toArray⟩]] w fun e w' => e = .returned (.int .i64 (chk ⟨a, b, c, p⟩)) ∧ Below w.heap.size w w' := by
  have HE : Hid (chk ⟨a, b, c, p⟩ = 40) := Lib.hid (may_false_num hn)
  go_enter Tryz.func26, Tryz.ntmps26
  go_wp2_with fail
  have hx0 := arr3_0 a b c
  have hx1 := arr3_1 a b c
  have hx2 := arr3_2 a b c
  go_loop [13] (fun i => Far a b c i) (fun i => 3 - (intOf i).toNat)
  case atStart => exact Or.inl rfl
  case round =>
    rcases hrel with rfl | ⟨rfl, a1, a2⟩ | ⟨rfl, a1, a2, b1, b2⟩ | ⟨rfl, a1, a2, b1, b2, c1, c2⟩
    · rcases (show a < 0 ∨ 999999 < a ∨ (0 ≤ a ∧ a ≤ 999999) from by omega) with h | h | ⟨h1, h2⟩
      · go_wp2
        refine bodyPost_ret (v := .int .i64 40) (by simp [results, Tryz.results26, go_sem]) rfl ?_
        exact ⟨by rw [HE.out], below_new (below_one _ _) _⟩
      · have hd : decide (a < 0) = false := decide_eq_false (by omega)
        have hd2 : decide (999999 < a) = true := decide_eq_true h
        go_wp2
        refine bodyPost_ret (v := .int .i64 40) (by simp [results, Tryz.results26, go_sem]) rfl ?_
        exact ⟨by rw [HE.out], below_new (below_one _ _) _⟩
      · have hd : decide (a < 0) = false := decide_eq_false (by omega)
        have hd2 : decide (999999 < a) = false := decide_eq_false (by omega)
        go_wp2
        go_round
        case rel => exact Or.inr (Or.inl ⟨rfl, by omega, by omega⟩)
        case measure => simp [intOf]
    · rcases (show b < 0 ∨ 999999 < b ∨ (0 ≤ b ∧ b ≤ 999999) from by omega) with h | h | ⟨h1, h2⟩
      · go_wp2
        refine bodyPost_ret (v := .int .i64 40) (by simp [results, Tryz.results26, go_sem]) rfl ?_
        exact ⟨by rw [HE.out], below_new (below_one _ _) _⟩
      · have hd : decide (b < 0) = false := decide_eq_false (by omega)
        have hd2 : decide (999999 < b) = true := decide_eq_true h
        go_wp2
        refine bodyPost_ret (v := .int .i64 40) (by simp [results, Tryz.results26, go_sem]) rfl ?_
        exact ⟨by rw [HE.out], below_new (below_one _ _) _⟩
      · have hd : decide (b < 0) = false := decide_eq_false (by omega)
        have hd2 : decide (999999 < b) = false := decide_eq_false (by omega)
        go_wp2
        go_round
        case rel => exact Or.inr (Or.inr (Or.inl ⟨rfl, a1, a2, by omega, by omega⟩))
        case measure => simp [intOf]
    · rcases (show c < 0 ∨ 999999 < c ∨ (0 ≤ c ∧ c ≤ 999999) from by omega) with h | h | ⟨h1, h2⟩
      · go_wp2
        refine bodyPost_ret (v := .int .i64 40) (by simp [results, Tryz.results26, go_sem]) rfl ?_
        exact ⟨by rw [HE.out], below_new (below_one _ _) _⟩
      · have hd : decide (c < 0) = false := decide_eq_false (by omega)
        have hd2 : decide (999999 < c) = true := decide_eq_true h
        go_wp2
        refine bodyPost_ret (v := .int .i64 40) (by simp [results, Tryz.results26, go_sem]) rfl ?_
        exact ⟨by rw [HE.out], below_new (below_one _ _) _⟩
      · have hd : decide (c < 0) = false := decide_eq_false (by omega)
        have hd2 : decide (999999 < c) = false := decide_eq_false (by omega)
        go_wp2
        go_round
        case rel => exact Or.inr (Or.inr (Or.inr ⟨rfl, a1, a2, b1, b2, by omega, by omega⟩))
        case measure => simp [intOf]
    · exact absurd ⟨⟨a1, a2⟩, ⟨b1, b2⟩, ⟨c1, c2⟩⟩ hn
set_option maxRecDepth 100000 in
set_option maxHeartbeats 4000000 in
theorem check_none (a b c : Int) (a1 : 0 ≤ a) (a2 : a ≤ 999999) (b1 : 0 ≤ b) (b2 : b ≤ 999999) (c1 : 0 ≤ c) (c2 : c ≤ 999999) (w : World) :
    Calls Tryz.prog 26 #[.agg #[.int .i64 a, .int .i64 b, .int .i64 c, .string ⟨(([] : List UInt8)).toArray⟩]] w fun e w' => e = .returned (.int .i64 (chk ⟨a, b, c, []⟩)) ∧ Below w.heap.size w w' := by
  have HE : Hid (chk ⟨a, b, c, []⟩ = 0) := Lib.hid (by rw [chk, if_pos]; exact (Sem.may_iff _).2 ⟨⟨a1, a2⟩, ⟨b1, b2⟩, ⟨c1, c2⟩, by simp, rfl⟩)
  have da : decide (a < 0) = false := decide_eq_false (by omega)
  have db : decide (b < 0) = false := decide_eq_false (by omega)
  have dc : decide (c < 0) = false := decide_eq_false (by omega)
  have da2 : decide (999999 < a) = false := decide_eq_false (by omega)
  have db2 : decide (999999 < b) = false := decide_eq_false (by omega)
  have dc2 : decide (999999 < c) = false := decide_eq_false (by omega)
  go_enter Tryz.func26, Tryz.ntmps26
  go_wp2_with fail
  have hx0 := arr3_0 a b c
  have hx1 := arr3_1 a b c
  have hx2 := arr3_2 a b c
  go_loop [13] (fun i => Far a b c i) (fun i => 3 - (intOf i).toNat)
  case atStart => exact Or.inl rfl
  case round =>
    rcases hrel with rfl | ⟨rfl, _, _⟩ | ⟨rfl, _, _, _, _⟩ | ⟨rfl, _, _, _, _, _, _⟩
    · go_wp2
      go_round
      case rel => exact Or.inr (Or.inl ⟨rfl, a1, a2⟩)
      case measure => simp [intOf]
    · go_wp2
      go_round
      case rel => exact Or.inr (Or.inr (Or.inl ⟨rfl, a1, a2, b1, b2⟩))
      case measure => simp [intOf]
    · go_wp2
      go_round
      case rel => exact Or.inr (Or.inr (Or.inr ⟨rfl, a1, a2, b1, b2, c1, c2⟩))
      case measure => simp [intOf]
    · go_wp2
      refine bodyPost_ret (v := .int .i64 0) (by simp [results, Tryz.results26, go_sem]) rfl ?_
      exact ⟨by rw [HE.out], below_new (below_one _ _) _⟩

set_option maxRecDepth 100000 in
set_option maxHeartbeats 4000000 in
theorem check_long (a b c : Int) (p : List UInt8) (hp : 24 < p.length) (hs : p.length ≤ 9223372036854775807) (a1 : 0 ≤ a) (a2 : a ≤ 999999) (b1 : 0 ≤ b) (b2 : b ≤ 999999) (c1 : 0 ≤ c) (c2 : c ≤ 999999) (w : World) :
    Calls Tryz.prog 26 #[.agg #[.int .i64 a, .int .i64 b, .int .i64 c, .string ⟨p.toArray⟩]] w fun e w' => e = .returned (.int .i64 (chk ⟨a, b, c, p⟩)) ∧ Below w.heap.size w w' := by
  have HE : Hid (chk ⟨a, b, c, p⟩ = 40) := Lib.hid (by rw [chk, if_neg]; rw [Sem.may_iff]; rintro ⟨_, _, _, h, _⟩; simp only at h; omega)
  have he : p.isEmpty = false := by
    cases p with
    | nil => simp at hp
    | cons _ _ => rfl
  have hsz : (⟨p.toArray⟩ : ByteArray).size = p.length := size_list _
  have da : decide (a < 0) = false := decide_eq_false (by omega)
  have db : decide (b < 0) = false := decide_eq_false (by omega)
  have dc : decide (c < 0) = false := decide_eq_false (by omega)
  have da2 : decide (999999 < a) = false := decide_eq_false (by omega)
  have db2 : decide (999999 < b) = false := decide_eq_false (by omega)
  have dc2 : decide (999999 < c) = false := decide_eq_false (by omega)
  go_enter Tryz.func26, Tryz.ntmps26
  go_wp2_with fail
  have hx0 := arr3_0 a b c
  have hx1 := arr3_1 a b c
  have hx2 := arr3_2 a b c
  go_loop [13] (fun i => Far a b c i) (fun i => 3 - (intOf i).toNat)
  case atStart => exact Or.inl rfl
  case round =>
    rcases hrel with rfl | ⟨rfl, _, _⟩ | ⟨rfl, _, _, _, _⟩ | ⟨rfl, _, _, _, _, _, _⟩
    · go_wp2
      go_round
      case rel => exact Or.inr (Or.inl ⟨rfl, a1, a2⟩)
      case measure => simp [intOf]
    · go_wp2
      go_round
      case rel => exact Or.inr (Or.inr (Or.inl ⟨rfl, a1, a2, b1, b2⟩))
      case measure => simp [intOf]
    · go_wp2
      go_round
      case rel => exact Or.inr (Or.inr (Or.inr ⟨rfl, a1, a2, b1, b2, c1, c2⟩))
      case measure => simp [intOf]
    · go_wp2
      refine bodyPost_ret (v := .int .i64 40) (by simp [results, Tryz.results26, go_sem]) rfl ?_
      exact ⟨by rw [HE.out], below_new (below_one _ _) _⟩
end Go.Proofs.YthjombepcmebfaaGreatDoor

/- The program's Check, where a Pre is looked at part by part. -/
namespace Go.Proofs.YthjombepcmebfaaGreatDoor
open Go.RowKit
attribute [local go_sem] Oper.semAt_some
set_option linter.unusedVariables false

set_option maxRecDepth 100000 in
set_option maxHeartbeats 4000000 in
theorem check_parts (a b c : Int) (p : List UInt8) (hp : p.length ≤ 24) (hz : p ≠ []) (a1 : 0 ≤ a) (a2 : a ≤ 999999) (b1 : 0 ≤ b) (b2 : b ≤ 999999) (c1 : 0 ≤ c) (c2 : c ≤ 999999) (w : World) :
    Calls Tryz.prog 26 #[.agg #[.int .i64 a, .int .i64 b, .int .i64 c, .string ⟨p.toArray⟩]] w fun e w' => e = .returned (.int .i64 (chk ⟨a, b, c, p⟩)) ∧ Below w.heap.size w w' := by
  have HE : Hid (chk ⟨a, b, c, p⟩ = if (Sem.parts p).all Sem.part = true then 0 else 40) := Lib.hid (by
    rw [chk]
    have e : Sem.may ⟨a, b, c, p⟩ = (Sem.parts p).all Sem.part := by
      rw [Bool.eq_iff_iff, Sem.may_iff]
      have e2 : Sem.preOk p = (Sem.parts p).all Sem.part := by
        unfold Sem.preOk
        rw [show p.isEmpty = false from by simpa using hz, Bool.false_or]
      rw [e2]
      exact ⟨fun h => h.2.2.2.2, fun h => ⟨⟨a1, a2⟩, ⟨b1, b2⟩, ⟨c1, c2⟩, hp, h⟩⟩
    rw [e])
  have he : p.isEmpty = false := by simpa using hz
  have hsz : (⟨p.toArray⟩ : ByteArray).size = p.length := size_list _
  clear hz
  have da : decide (a < 0) = false := decide_eq_false (by omega)
  have db : decide (b < 0) = false := decide_eq_false (by omega)
  have dc : decide (c < 0) = false := decide_eq_false (by omega)
  have da2 : decide (999999 < a) = false := decide_eq_false (by omega)
  have db2 : decide (999999 < b) = false := decide_eq_false (by omega)
  have dc2 : decide (999999 < c) = false := decide_eq_false (by omega)
  have hx0 := arr3_0 a b c
  have hx1 := arr3_1 a b c
  have hx2 := arr3_2 a b c
  refine (callsIn_wide (n := 6)).1 ?_
  refine callsIn_of_wp_marks Tryz.func26 rfl trivial ?_ rfl
  simp only [Tryz.ntmps26, List.size_toArray, List.length_cons, List.length_nil, Nat.reduceAdd, Nat.reduceSub, Array.replicate_succ, Array.replicate_zero, List.push_toArray, List.append_toArray, List.nil_append, List.cons_append]
  gi_wp2_with fail
  gi_loopw [13] (fun i wr => Far a b c i ∧ wr = (w.alloc (Obj.cells #[Value.int IntKind.i64 a, Value.int IntKind.i64 b, Value.int IntKind.i64 c, Value.string ⟨p.toArray⟩] 40)).alloc (Obj.cells #[Value.int IntKind.i64 0] 24)) (fun i _ => 3 - (intOf i).toNat)
  case atStart => exact ⟨Or.inl rfl, rfl⟩
  case round =>
    obtain ⟨hfar, rfl⟩ := hrel
    rcases hfar with rfl | ⟨rfl, _, _⟩ | ⟨rfl, _, _, _, _⟩ | ⟨rfl, _, _, _, _, _, _⟩
    · gi_wp2
      go_roundw
      case rel => exact ⟨Or.inr (Or.inl ⟨rfl, a1, a2⟩), trivial⟩
      case measure => simp [intOf]
    · gi_wp2
      go_roundw
      case rel => exact ⟨Or.inr (Or.inr (Or.inl ⟨rfl, a1, a2, b1, b2⟩)), trivial⟩
      case measure => simp [intOf]
    · gi_wp2
      go_roundw
      case rel => exact ⟨Or.inr (Or.inr (Or.inr ⟨rfl, a1, a2, b1, b2, c1, c2⟩)), trivial⟩
      case measure => simp [intOf]
    · gi_wp2_with (refine ⟨trivial, ?_⟩; gi_at_call 48; refine (callsIn_wide.2 (seq_walk p _)).mono ?_; rintro e w' ⟨rfl, hS, hb⟩)
      simp only [World.size_alloc] at hS hb
      have hb0 : Below w.heap.size w w' := (below_new (below_one _ _) _).trans (hb.mono (by omega))
      have hc0 : w'.cell? ⟨w.heap.size + 1, 0, none⟩ = some (.int .i64 0) := (hb.cell (p := ⟨w.heap.size + 1, 0, none⟩) (by show w.heap.size + 1 < w.heap.size + 1 + 1; omega)).trans (by simp [go_sem])
      have hf0 : w'.frozen? ⟨w.heap.size + 1, 0, none⟩ = false := (hb.frozen (p := ⟨w.heap.size + 1, 0, none⟩) (by show w.heap.size + 1 < w.heap.size + 1 + 1; omega)).trans (by simp [go_sem])
      clear hb
      refine range_seq 6 (by omega) (w.heap.size + 1 + 1) p rfl hS hp rfl
        (fun pre W => Below w.heap.size w W ∧ W.cell? ⟨w.heap.size + 1, 0, none⟩ = some (.int .i64 0) ∧ W.frozen? ⟨w.heap.size + 1, 0, none⟩ = false ∧ pre.all Sem.part = true)
        (fun pre W => Below w.heap.size w W ∧ W.cell? ⟨w.heap.size + 1, 0, none⟩ = some (.int .i64 40) ∧ pre.all Sem.part = false)
        ?hI ?hIx ⟨hb0, hc0, hf0, rfl⟩
        (fun x => { tmps := #[.agg #[.int .i64 a, .int .i64 b, .int .i64 c, .string ⟨p.toArray⟩], .pointer (some ⟨w.heap.size, 0, none⟩), .pointer (some ⟨w.heap.size + 1, 0, none⟩), undef, u4, .string ⟨x.toArray⟩, .pointer (some ⟨w.heap.size, 0, none⟩), .int .i64 a,
          .pointer (some ⟨w.heap.size, 1, none⟩), .int .i64 b, .pointer (some ⟨w.heap.size, 2, none⟩), .int .i64 c, .agg #[.int .i64 a, .int .i64 b, .int .i64 c], .int .i64 3, .bool false, u15, u16, u17, u18, u19, u20, u21, u22, .pointer (some ⟨w.heap.size, 3, none⟩), .string ⟨p.toArray⟩, .bool false,
          .pointer (some ⟨w.heap.size, 3, none⟩), .string ⟨p.toArray⟩, .int .i64 p.length, .bool (decide ((24 : Int) < p.length)), .pointer (some ⟨w.heap.size, 3, none⟩), .string ⟨p.toArray⟩,
          .func (.func 94) #[] #[.pointer (some ⟨w.heap.size + 1 + 1 + 1, 0, none⟩), .pointer (some ⟨w.heap.size + 1 + 1, 0, none⟩), .pointer (some ⟨w.heap.size + 1 + 1 + 2, 0, none⟩)], .string ⟨x.toArray⟩, undef, undef, undef], defers := [] }) ?hassign ?hbody ?hdone ?hstop
      case hI =>
        rintro pre A B ⟨h1, h2, h3, h4⟩ hb
        exact ⟨h1.trans (hb.mono (by omega)), (hb.cell (p := ⟨w.heap.size + 1, 0, none⟩) (by show w.heap.size + 1 < w.heap.size + 1 + 1; omega)).trans h2, (hb.frozen (p := ⟨w.heap.size + 1, 0, none⟩) (by show w.heap.size + 1 < w.heap.size + 1 + 1; omega)).trans h3, h4⟩
      case hIx =>
        rintro pre A B ⟨h1, h2, h4⟩ hb
        exact ⟨h1.trans (hb.mono (by omega)), (hb.cell (p := ⟨w.heap.size + 1, 0, none⟩) (by show w.heap.size + 1 < w.heap.size + 1 + 1; omega)).trans h2, h4⟩
      case hassign =>
        intro l x W K hK
        gi_wp2
        exact hK
      case hbody =>
        rintro l pre x W ⟨h1, h2, h3, h4⟩ hx
        have hcon := fun W => CallsIn.inRound l (callsIn_wide (n := 6 - 1 - 1 - 1).2 (partMayBe_walk ⟨x.toArray⟩ (by rw [size_list]; omega) W))
        have hq0 : Sem.part (⟨x.toArray⟩ : ByteArray).data.toList = Sem.part x := rfl
        rw [hq0] at hcon
        cases hq : Sem.part x
        · have H4 : Hid ((pre ++ [x]).all Sem.part = false) := Lib.hid (by rw [List.all_append, h4]; simp [hq])
          rw [hq] at hcon
          clear hq hq0 h4
          gi_wp2_with (refine ⟨trivial, ?_⟩; gi_at_call 49; refine (hcon _).mono ?_; rintro e w' ⟨rfl, rfl⟩)
          exact ⟨KeepsOthers.setCell _ _ _, h1.setCell (p := ⟨w.heap.size + 1, 0, none⟩) (by show w.heap.size ≤ w.heap.size + 1; omega) _, World.cell?_setCell_same _ _ _ h2, H4.out⟩
        · have H4 : Hid ((pre ++ [x]).all Sem.part = true) := Lib.hid (by rw [List.all_append, h4]; simp [hq])
          rw [hq] at hcon
          clear hq hq0 h4
          gi_wp2_with (refine ⟨trivial, ?_⟩; gi_at_call 49; refine (hcon _).mono ?_; rintro e w' ⟨rfl, rfl⟩)
          exact ⟨KeepsOthers.refl _, Below.refl _ _, h1, h2, h3, H4.out⟩
      case hdone =>
        rintro D W ⟨h1, h2, h3, h4⟩ hK hD
        have HF : Hid (chk ⟨a, b, c, p⟩ = 0) := Lib.hid (by rw [HE.out, if_pos h4])
        clear h4 hc0 hf0
        gi_wp2
        have hDR : w.heap.size + 1 + 1 + 2 < D := Nat.lt_of_lt_of_le hS.1 hD
        have hK2 : (W.setCell ⟨w.heap.size + 1, 0, none⟩ (.int .i64 0)).heap[D]? = some (.deferred (some [])) := (Below.heap_setCell W ⟨w.heap.size + 1, 0, none⟩ _ D (by show D ≠ w.heap.size + 1; omega)).trans hK
        have hP := below_put (B := w.heap.size + 2) (W := W.setCell ⟨w.heap.size + 1, 0, none⟩ (.int .i64 0)) (l := D) (.deferred none) (by omega)
        have hc5 := (hP.cell (p := ⟨w.heap.size + 1, 0, none⟩) (by show w.heap.size + 1 < w.heap.size + 2; omega)).trans (World.cell?_setCell_same _ _ (.int .i64 0) h2)
        have hB5 : Below w.heap.size w ((W.setCell ⟨w.heap.size + 1, 0, none⟩ (.int .i64 0)).putObj D (.deferred none)) := (h1.setCell (p := ⟨w.heap.size + 1, 0, none⟩) (by show w.heap.size ≤ w.heap.size + 1; omega) _).trans (hP.mono (by omega))
        refine ⟨by simp, .inl ⟨_, _, rfl, run_takeDeferred hK2, ?_⟩⟩
        generalize (W.setCell ⟨w.heap.size + 1, 0, none⟩ (.int .i64 0)).putObj D (.deferred none) = W5 at hc5 hB5 ⊢
        refine ⟨.int .i64 0, by simp [results, Tryz.results26, go_sem, hc5], ?_⟩
        exact ⟨by rw [HF.out], hB5⟩
      case hstop =>
        rintro D pre suf W hps ⟨h1, h2, h4⟩ hK hD
        have HF : Hid (chk ⟨a, b, c, p⟩ = 40) := Lib.hid (by
          rw [HE.out, if_neg]
          rw [← hps, List.all_append, h4]; simp)
        clear h4 hc0 hf0 hps
        gi_wp2
        have hDR : w.heap.size + 1 + 1 + 2 < D := Nat.lt_of_lt_of_le hS.1 hD
        have hP := below_put (B := w.heap.size + 2) (W := W) (l := D) (.deferred none) (by omega)
        have hc5 := (hP.cell (p := ⟨w.heap.size + 1, 0, none⟩) (by show w.heap.size + 1 < w.heap.size + 2; omega)).trans h2
        have hB5 : Below w.heap.size w (W.putObj D (.deferred none)) := h1.trans (hP.mono (by omega))
        refine ⟨by simp, .inl ⟨_, _, rfl, run_takeDeferred hK, ?_⟩⟩
        generalize W.putObj D (.deferred none) = W5 at hc5 hB5 ⊢
        refine ⟨.int .i64 40, by simp [results, Tryz.results26, go_sem, hc5], ?_⟩
        exact ⟨by rw [HF.out], hB5⟩

theorem check_walk (v : Sem.Ver) (hs : v.pre.length ≤ 9223372036854775807) (w : World) :
    Calls Tryz.prog 26 #[verV v] w fun e w' => e = .returned (.int .i64 (chk v)) ∧ Below w.heap.size w w' := by
  obtain ⟨a, b, c, p⟩ := v
  unfold verV
  simp only at hs
  by_cases hn : (0 ≤ a ∧ a ≤ 999999) ∧ (0 ≤ b ∧ b ≤ 999999) ∧ (0 ≤ c ∧ c ≤ 999999)
  · obtain ⟨⟨a1, a2⟩, ⟨b1, b2⟩, ⟨c1, c2⟩⟩ := hn
    by_cases hz : p = []
    · subst hz; exact check_none a b c a1 a2 b1 b2 c1 c2 w
    · by_cases hp : p.length ≤ 24
      · exact check_parts a b c p hp hz a1 a2 b1 b2 c1 c2 w
      · exact check_long a b c p (by omega) (by omega) a1 a2 b1 b2 c1 c2 w
  · exact check_bad a b c p hn w
end Go.Proofs.YthjombepcmebfaaGreatDoor
