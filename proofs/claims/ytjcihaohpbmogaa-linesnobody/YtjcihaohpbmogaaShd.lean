/-
  Layer 11 (lines): slices.Delete of numbers as this program bears it.
-/
import Derived.Test.YtjcihaohpbmogaaRows
import Derived.Shelf.Slices.Delete
namespace Go.Proofs.Ytjcihaohpbmogaa.Oct
open Go.Shelf
def laysDel_ren : Go.Shelf.Ren := ⟨fun | 23 => 71 | n => n, fun | 22 => 82 | 3 => 3 | 4 => 4 | 0 => 0 | n => n, fun | n => n⟩
theorem laysDel : Go.Proofs.Lays2.n23 Try.prog laysDel_ren := {
  mixed := by kernel_rfl
  f23 := Try.func71.trans (congrArg some (by kernel_rfl))
  t0 := Try.underlying0
  a0 := Try.isAgg0
  z0 := Try.sizeOf0
  v0 := Try.zeroValue0
  t3 := Try.underlying3
  a3 := Try.isAgg3
  z3 := Try.sizeOf3
  v3 := Try.zeroValue3
  t4 := Try.underlying4
  a4 := Try.isAgg4
  z4 := Try.sizeOf4
  v4 := Try.zeroValue4
  t22 := Try.underlying82
  a22 := Try.isAgg82
  z22 := Try.sizeOf82
  v22 := Try.zeroValue82
  i3 := by kernel_rfl }
end Go.Proofs.Ytjcihaohpbmogaa.Oct
