/-
  slices.Sort and slices.Compact at whole numbers, laid out of the library's contracts.
-/
import Derived.Shelf.SlGeneric
import Derived.Ground.SlgnProg
import Derived.Shelf.SortG.Plain
import Derived.Shelf.SortG.SortNone
import Derived.Shelf.SlicesG.CompactI
import Derived.Test.YtfmighcopilghaaProg
namespace Go.Proofs.Ytfmighcopilghaa
open Go.Shelf
def lsort_ren : Go.Shelf.Ren := ⟨fun | 53 => 37 | 64 => 52 | 63 => 51 | 78 => 65 | 79 => 66 | 70 => 56 | 71 => 57 | 72 => 58 | 73 => 59 | 74 => 60 | 75 => 61 | 59 => 62 | 76 => 63 | 77 => 64 | 88 => 67 | 89 => 68 | 90 => 69 | 91 => 70 | 92 => 71 | 68 => 72 | 96 => 73 | n => n, fun | 22 => 22 | 23 => 2 | 3 => 3 | 51 => 79 | 0 => 0 | 67 => 96 | 69 => 98 | 4 => 4 | 61 => 88 | 60 => 87 | 44 => 93 | 5 => 5 | 9 => 9 | 75 => 99 | 79 => 103 | 83 => 105 | 84 => 106 | n => n, fun | n => n⟩
theorem lsort : Go.Proofs.SlLaysN.n53 Try.prog lsort_ren := {
  mixed := by kernel_rfl
  f53 := ⟨Try.f37.name, by decide, Try.func37.trans (congrArg some (by kernel_rfl))⟩
  f59 := ⟨Try.f62.name, by decide, Try.func62.trans (congrArg some (by kernel_rfl))⟩
  f63 := ⟨Try.f51.name, by decide, Try.func51.trans (congrArg some (by kernel_rfl))⟩
  f64 := Try.func52.trans (congrArg some (by kernel_rfl))
  f68 := ⟨Try.f72.name, by decide, Try.func72.trans (congrArg some (by kernel_rfl))⟩
  f70 := ⟨Try.f56.name, by decide, Try.func56.trans (congrArg some (by kernel_rfl))⟩
  f71 := ⟨Try.f57.name, by decide, Try.func57.trans (congrArg some (by kernel_rfl))⟩
  f72 := ⟨Try.f58.name, by decide, Try.func58.trans (congrArg some (by kernel_rfl))⟩
  f73 := ⟨Try.f59.name, by decide, Try.func59.trans (congrArg some (by kernel_rfl))⟩
  f74 := ⟨Try.f60.name, by decide, Try.func60.trans (congrArg some (by kernel_rfl))⟩
  f75 := ⟨Try.f61.name, by decide, Try.func61.trans (congrArg some (by kernel_rfl))⟩
  f76 := ⟨Try.f63.name, by decide, Try.func63.trans (congrArg some (by kernel_rfl))⟩
  f77 := ⟨Try.f64.name, by decide, Try.func64.trans (congrArg some (by kernel_rfl))⟩
  f78 := Try.func65.trans (congrArg some (by kernel_rfl))
  f79 := Try.func66.trans (congrArg some (by kernel_rfl))
  f88 := ⟨Try.f67.name, by decide, Try.func67.trans (congrArg some (by kernel_rfl))⟩
  f89 := Try.func68.trans (congrArg some (by kernel_rfl))
  f90 := Try.func69.trans (congrArg some (by kernel_rfl))
  f91 := ⟨Try.f70.name, by decide, Try.func70.trans (congrArg some (by kernel_rfl))⟩
  f92 := ⟨Try.f71.name, by decide, Try.func71.trans (congrArg some (by kernel_rfl))⟩
  f96 := ⟨Try.f73.name, by decide, Try.func73.trans (congrArg some (by kernel_rfl))⟩
  t0 := Try.underlying0
  a0 := Try.isAgg0
  z0 := Try.sizeOf0
  v0 := Try.zeroValue0
  t3 := Try.underlying3
  a3 := Try.isAgg3
  z3 := Try.sizeOf3
  v3 := Try.zeroValue3
  t4 := Try.underlying4
  a4 := Try.isAgg4
  z4 := Try.sizeOf4
  v4 := Try.zeroValue4
  t5 := Try.underlying5
  a5 := Try.isAgg5
  z5 := Try.sizeOf5
  v5 := Try.zeroValue5
  t9 := Try.underlying9
  a9 := Try.isAgg9
  z9 := Try.sizeOf9
  v9 := Try.zeroValue9
  t22 := Try.underlying22
  a22 := Try.isAgg22
  z22 := Try.sizeOf22
  v22 := Try.zeroValue22
  t23 := Try.underlying2
  a23 := Try.isAgg2
  z23 := Try.sizeOf2
  v23 := Try.zeroValue2
  t44 := Try.underlying93
  a44 := Try.isAgg93
  z44 := Try.sizeOf93
  v44 := Try.zeroValue93
  t51 := Try.underlying79
  a51 := Try.isAgg79
  z51 := Try.sizeOf79
  v51 := Try.zeroValue79
  t60 := Try.underlying87
  a60 := Try.isAgg87
  z60 := Try.sizeOf87
  v60 := Try.zeroValue87
  t61 := Try.underlying88
  a61 := Try.isAgg88
  z61 := Try.sizeOf88
  v61 := Try.zeroValue88
  t67 := Try.underlying96
  a67 := Try.isAgg96
  z67 := Try.sizeOf96
  v67 := Try.zeroValue96
  t69 := Try.underlying98
  a69 := Try.isAgg98
  z69 := Try.sizeOf98
  v69 := Try.zeroValue98
  t75 := Try.underlying99
  a75 := Try.isAgg99
  z75 := Try.sizeOf99
  v75 := Try.zeroValue99
  t79 := Try.underlying103
  a79 := Try.isAgg103
  z79 := Try.sizeOf103
  v79 := Try.zeroValue103
  t83 := Try.underlying105
  a83 := Try.isAgg105
  z83 := Try.sizeOf105
  v83 := Try.zeroValue105
  t84 := Try.underlying106
  a84 := Try.isAgg106
  z84 := Try.sizeOf106
  v84 := Try.zeroValue106 }
def lcomp_ren : Go.Shelf.Ren := ⟨fun | 43 => 38 | n => n, fun | 22 => 22 | 23 => 2 | 3 => 3 | 4 => 4 | 0 => 0 | n => n, fun | n => n⟩
theorem lcomp : Go.Proofs.SlLaysN.n43 Try.prog lcomp_ren := {
  mixed := by kernel_rfl
  f43 := ⟨Try.f38.name, by decide, Try.func38.trans (congrArg some (by kernel_rfl))⟩
  t0 := Try.underlying0
  a0 := Try.isAgg0
  z0 := Try.sizeOf0
  v0 := Try.zeroValue0
  t3 := Try.underlying3
  a3 := Try.isAgg3
  z3 := Try.sizeOf3
  v3 := Try.zeroValue3
  t4 := Try.underlying4
  a4 := Try.isAgg4
  z4 := Try.sizeOf4
  v4 := Try.zeroValue4
  t22 := Try.underlying22
  a22 := Try.isAgg22
  z22 := Try.sizeOf22
  v22 := Try.zeroValue22
  t23 := Try.underlying2
  a23 := Try.isAgg2
  z23 := Try.sizeOf2
  v23 := Try.zeroValue2
  i23 := by kernel_rfl }
end Go.Proofs.Ytfmighcopilghaa
