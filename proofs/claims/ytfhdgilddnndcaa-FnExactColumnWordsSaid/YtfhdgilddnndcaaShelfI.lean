/- The library's sort, compact and search of slices of numbers: the shelf's contracts laid at this translation, in plain words. -/
import Derived.Shelf.SlGeneric
import Derived.Shelf.SortG.SortNone
import Derived.Shelf.SortG.Plain
import Derived.Shelf.SlicesG.CompactI
import Derived.Shelf.SlicesG.SearchI
import Derived.Shelf.SlicesG.Cells
import Derived.Ground.SlgnProg
import Derived.Test.YtfhdgilddnndcaaProg
namespace Go.Proofs
open Go.Shelf
def Try.sortInts_ren : Go.Shelf.Ren := ⟨fun | 53 => 148 | 64 => 138 | 63 => 169 | 78 => 161 | 79 => 162 | 70 => 179 | 71 => 180 | 72 => 181 | 73 => 182 | 74 => 183 | 75 => 184 | 59 => 185 | 76 => 186 | 77 => 187 | 88 => 189 | 89 => 173 | 90 => 174 | 91 => 190 | 92 => 191 | 68 => 177 | 96 => 192 | n => n, fun | 22 => 49 | 23 => 2 | 3 => 3 | 51 => 172 | 0 => 0 | 67 => 201 | 69 => 167 | 4 => 4 | 61 => 194 | 60 => 193 | 44 => 198 | 5 => 5 | 9 => 9 | 75 => 212 | 79 => 216 | 83 => 225 | 84 => 226 | n => n, fun | n => n⟩
theorem Try.sortInts : Go.Proofs.SlLaysN.n53 Try.prog Try.sortInts_ren := {
  mixed := by kernel_rfl
  f53 := ⟨Try.f148.name, by decide, Try.func148.trans (congrArg some (by kernel_rfl))⟩
  f59 := ⟨Try.f185.name, by decide, Try.func185.trans (congrArg some (by kernel_rfl))⟩
  f63 := ⟨Try.f169.name, by decide, Try.func169.trans (congrArg some (by kernel_rfl))⟩
  f64 := Try.func138.trans (congrArg some (by kernel_rfl))
  f68 := ⟨Try.f177.name, by decide, Try.func177.trans (congrArg some (by kernel_rfl))⟩
  f70 := ⟨Try.f179.name, by decide, Try.func179.trans (congrArg some (by kernel_rfl))⟩
  f71 := ⟨Try.f180.name, by decide, Try.func180.trans (congrArg some (by kernel_rfl))⟩
  f72 := ⟨Try.f181.name, by decide, Try.func181.trans (congrArg some (by kernel_rfl))⟩
  f73 := ⟨Try.f182.name, by decide, Try.func182.trans (congrArg some (by kernel_rfl))⟩
  f74 := ⟨Try.f183.name, by decide, Try.func183.trans (congrArg some (by kernel_rfl))⟩
  f75 := ⟨Try.f184.name, by decide, Try.func184.trans (congrArg some (by kernel_rfl))⟩
  f76 := ⟨Try.f186.name, by decide, Try.func186.trans (congrArg some (by kernel_rfl))⟩
  f77 := ⟨Try.f187.name, by decide, Try.func187.trans (congrArg some (by kernel_rfl))⟩
  f78 := Try.func161.trans (congrArg some (by kernel_rfl))
  f79 := Try.func162.trans (congrArg some (by kernel_rfl))
  f88 := ⟨Try.f189.name, by decide, Try.func189.trans (congrArg some (by kernel_rfl))⟩
  f89 := Try.func173.trans (congrArg some (by kernel_rfl))
  f90 := Try.func174.trans (congrArg some (by kernel_rfl))
  f91 := ⟨Try.f190.name, by decide, Try.func190.trans (congrArg some (by kernel_rfl))⟩
  f92 := ⟨Try.f191.name, by decide, Try.func191.trans (congrArg some (by kernel_rfl))⟩
  f96 := ⟨Try.f192.name, by decide, Try.func192.trans (congrArg some (by kernel_rfl))⟩
  t0 := Try.underlying0
  a0 := Try.isAgg0
  z0 := Try.sizeOf0
  v0 := Try.zeroValue0
  t3 := Try.underlying3
  a3 := Try.isAgg3
  z3 := Try.sizeOf3
  v3 := Try.zeroValue3
  t4 := Try.underlying4
  a4 := Try.isAgg4
  z4 := Try.sizeOf4
  v4 := Try.zeroValue4
  t5 := Try.underlying5
  a5 := Try.isAgg5
  z5 := Try.sizeOf5
  v5 := Try.zeroValue5
  t9 := Try.underlying9
  a9 := Try.isAgg9
  z9 := Try.sizeOf9
  v9 := Try.zeroValue9
  t22 := Try.underlying49
  a22 := Try.isAgg49
  z22 := Try.sizeOf49
  v22 := Try.zeroValue49
  t23 := Try.underlying2
  a23 := Try.isAgg2
  z23 := Try.sizeOf2
  v23 := Try.zeroValue2
  t44 := Try.underlying198
  a44 := Try.isAgg198
  z44 := Try.sizeOf198
  v44 := Try.zeroValue198
  t51 := Try.underlying172
  a51 := Try.isAgg172
  z51 := Try.sizeOf172
  v51 := Try.zeroValue172
  t60 := Try.underlying193
  a60 := Try.isAgg193
  z60 := Try.sizeOf193
  v60 := Try.zeroValue193
  t61 := Try.underlying194
  a61 := Try.isAgg194
  z61 := Try.sizeOf194
  v61 := Try.zeroValue194
  t67 := Try.underlying201
  a67 := Try.isAgg201
  z67 := Try.sizeOf201
  v67 := Try.zeroValue201
  t69 := Try.underlying167
  a69 := Try.isAgg167
  z69 := Try.sizeOf167
  v69 := Try.zeroValue167
  t75 := Try.underlying212
  a75 := Try.isAgg212
  z75 := Try.sizeOf212
  v75 := Try.zeroValue212
  t79 := Try.underlying216
  a79 := Try.isAgg216
  z79 := Try.sizeOf216
  v79 := Try.zeroValue216
  t83 := Try.underlying225
  a83 := Try.isAgg225
  z83 := Try.sizeOf225
  v83 := Try.zeroValue225
  t84 := Try.underlying226
  a84 := Try.isAgg226
  z84 := Try.sizeOf226
  v84 := Try.zeroValue226 }
def Try.compactInts_ren : Go.Shelf.Ren := ⟨fun | 43 => 149 | n => n, fun | 22 => 49 | 23 => 2 | 3 => 3 | 4 => 4 | 0 => 0 | n => n, fun | n => n⟩
theorem Try.compactInts : Go.Proofs.SlLaysN.n43 Try.prog Try.compactInts_ren := {
  mixed := by kernel_rfl
  f43 := ⟨Try.f149.name, by decide, Try.func149.trans (congrArg some (by kernel_rfl))⟩
  t0 := Try.underlying0
  a0 := Try.isAgg0
  z0 := Try.sizeOf0
  v0 := Try.zeroValue0
  t3 := Try.underlying3
  a3 := Try.isAgg3
  z3 := Try.sizeOf3
  v3 := Try.zeroValue3
  t4 := Try.underlying4
  a4 := Try.isAgg4
  z4 := Try.sizeOf4
  v4 := Try.zeroValue4
  t22 := Try.underlying49
  a22 := Try.isAgg49
  z22 := Try.sizeOf49
  v22 := Try.zeroValue49
  t23 := Try.underlying2
  a23 := Try.isAgg2
  z23 := Try.sizeOf2
  v23 := Try.zeroValue2
  i23 := by kernel_rfl }
end Go.Proofs
