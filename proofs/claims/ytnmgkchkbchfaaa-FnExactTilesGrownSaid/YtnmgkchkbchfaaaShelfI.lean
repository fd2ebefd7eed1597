/- The library's sort, compact and search of slices of numbers: the shelf's contracts laid at this translation, in plain words. -/
import Derived.Shelf.SlGeneric
import Derived.Shelf.SortG.SortNone
import Derived.Shelf.SortG.Plain
import Derived.Shelf.SlicesG.CompactI
import Derived.Shelf.SlicesG.SearchI
import Derived.Shelf.SlicesG.Cells
import Derived.Ground.SlgnProg
import Derived.Test.YtnmgkchkbchfaaaProg
namespace Go.Proofs
open Go.Shelf
def Try.sortInts_ren : Go.Shelf.Ren := ⟨fun | 53 => 84 | 64 => 114 | 63 => 116 | 78 => 159 | 79 => 160 | 70 => 162 | 71 => 163 | 72 => 164 | 73 => 165 | 74 => 166 | 75 => 167 | 59 => 168 | 76 => 169 | 77 => 170 | 88 => 185 | 89 => 180 | 90 => 181 | 91 => 186 | 92 => 187 | 68 => 184 | 96 => 189 | n => n, fun | 22 => 44 | 23 => 2 | 3 => 3 | 51 => 137 | 0 => 0 | 67 => 120 | 69 => 82 | 4 => 4 | 61 => 172 | 60 => 171 | 44 => 176 | 5 => 5 | 9 => 9 | 75 => 196 | 79 => 199 | 83 => 203 | 84 => 204 | n => n, fun | n => n⟩
theorem Try.sortInts : Go.Proofs.SlLaysN.n53 Try.prog Try.sortInts_ren := {
  mixed := by kernel_rfl
  f53 := ⟨Try.f84.name, by decide, Try.func84.trans (congrArg some (by kernel_rfl))⟩
  f59 := ⟨Try.f168.name, by decide, Try.func168.trans (congrArg some (by kernel_rfl))⟩
  f63 := ⟨Try.f116.name, by decide, Try.func116.trans (congrArg some (by kernel_rfl))⟩
  f64 := Try.func114.trans (congrArg some (by kernel_rfl))
  f68 := ⟨Try.f184.name, by decide, Try.func184.trans (congrArg some (by kernel_rfl))⟩
  f70 := ⟨Try.f162.name, by decide, Try.func162.trans (congrArg some (by kernel_rfl))⟩
  f71 := ⟨Try.f163.name, by decide, Try.func163.trans (congrArg some (by kernel_rfl))⟩
  f72 := ⟨Try.f164.name, by decide, Try.func164.trans (congrArg some (by kernel_rfl))⟩
  f73 := ⟨Try.f165.name, by decide, Try.func165.trans (congrArg some (by kernel_rfl))⟩
  f74 := ⟨Try.f166.name, by decide, Try.func166.trans (congrArg some (by kernel_rfl))⟩
  f75 := ⟨Try.f167.name, by decide, Try.func167.trans (congrArg some (by kernel_rfl))⟩
  f76 := ⟨Try.f169.name, by decide, Try.func169.trans (congrArg some (by kernel_rfl))⟩
  f77 := ⟨Try.f170.name, by decide, Try.func170.trans (congrArg some (by kernel_rfl))⟩
  f78 := Try.func159.trans (congrArg some (by kernel_rfl))
  f79 := Try.func160.trans (congrArg some (by kernel_rfl))
  f88 := ⟨Try.f185.name, by decide, Try.func185.trans (congrArg some (by kernel_rfl))⟩
  f89 := Try.func180.trans (congrArg some (by kernel_rfl))
  f90 := Try.func181.trans (congrArg some (by kernel_rfl))
  f91 := ⟨Try.f186.name, by decide, Try.func186.trans (congrArg some (by kernel_rfl))⟩
  f92 := ⟨Try.f187.name, by decide, Try.func187.trans (congrArg some (by kernel_rfl))⟩
  f96 := ⟨Try.f189.name, by decide, Try.func189.trans (congrArg some (by kernel_rfl))⟩
  t0 := Try.underlying0
  a0 := Try.isAgg0
  z0 := Try.sizeOf0
  v0 := Try.zeroValue0
  t3 := Try.underlying3
  a3 := Try.isAgg3
  z3 := Try.sizeOf3
  v3 := Try.zeroValue3
  t4 := Try.underlying4
  a4 := Try.isAgg4
  z4 := Try.sizeOf4
  v4 := Try.zeroValue4
  t5 := Try.underlying5
  a5 := Try.isAgg5
  z5 := Try.sizeOf5
  v5 := Try.zeroValue5
  t9 := Try.underlying9
  a9 := Try.isAgg9
  z9 := Try.sizeOf9
  v9 := Try.zeroValue9
  t22 := Try.underlying44
  a22 := Try.isAgg44
  z22 := Try.sizeOf44
  v22 := Try.zeroValue44
  t23 := Try.underlying2
  a23 := Try.isAgg2
  z23 := Try.sizeOf2
  v23 := Try.zeroValue2
  t44 := Try.underlying176
  a44 := Try.isAgg176
  z44 := Try.sizeOf176
  v44 := Try.zeroValue176
  t51 := Try.underlying137
  a51 := Try.isAgg137
  z51 := Try.sizeOf137
  v51 := Try.zeroValue137
  t60 := Try.underlying171
  a60 := Try.isAgg171
  z60 := Try.sizeOf171
  v60 := Try.zeroValue171
  t61 := Try.underlying172
  a61 := Try.isAgg172
  z61 := Try.sizeOf172
  v61 := Try.zeroValue172
  t67 := Try.underlying120
  a67 := Try.isAgg120
  z67 := Try.sizeOf120
  v67 := Try.zeroValue120
  t69 := Try.underlying82
  a69 := Try.isAgg82
  z69 := Try.sizeOf82
  v69 := Try.zeroValue82
  t75 := Try.underlying196
  a75 := Try.isAgg196
  z75 := Try.sizeOf196
  v75 := Try.zeroValue196
  t79 := Try.underlying199
  a79 := Try.isAgg199
  z79 := Try.sizeOf199
  v79 := Try.zeroValue199
  t83 := Try.underlying203
  a83 := Try.isAgg203
  z83 := Try.sizeOf203
  v83 := Try.zeroValue203
  t84 := Try.underlying204
  a84 := Try.isAgg204
  z84 := Try.sizeOf204
  v84 := Try.zeroValue204 }
end Go.Proofs
