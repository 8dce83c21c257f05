/- slices.Insert at []int: the library's own contracts, at this program. -/
import Derived.Test.YtpjajiilgojbgaaRowW
import Derived.Shelf.Spec.SlicesInsertGrow
import Derived.Shelf.Strings.LastIndex
namespace Go.Proofs.Ytpjajiilgojbgaa
open Go.RowKit Go.Shelf
set_option linter.unusedVariables false
def insRen : Ren := ⟨fun | 21 => 29 | 27 => 34 | 28 => 35 | 35 => 36 | 39 => 37 | n => n, fun | 0 => 0 | 3 => 3 | 4 => 4 | 22 => 22 | n => n, fun n => n⟩
theorem insLays : Lays2.n21 Try.prog insRen :=
  { mixed := by kernel_rfl
    f21 := Try.func29.trans (congrArg some (by kernel_rfl))
    f27 := Try.func34.trans (congrArg some (by kernel_rfl))
    f28 := Try.func35.trans (congrArg some (by kernel_rfl))
    f35 := Try.func36.trans (congrArg some (by kernel_rfl))
    f39 := Try.func37.trans (congrArg some (by kernel_rfl))
    t0 := Try.underlying0
    a0 := Try.isAgg0
    z0 := Try.sizeOf0
    v0 := Try.zeroValue0
    t3 := Try.underlying3
    a3 := Try.isAgg3
    z3 := Try.sizeOf3
    v3 := Try.zeroValue3
    t4 := Try.underlying4
    a4 := Try.isAgg4
    z4 := Try.sizeOf4
    v4 := Try.zeroValue4
    t22 := Try.underlying22
    a22 := Try.isAgg22
    z22 := Try.sizeOf22
    v22 := Try.zeroValue22
    i3 := by kernel_rfl }
def lixRen : Ren := ⟨fun | 149 => 27 | 222 => 32 | n => n, fun | 3 => 3 | 4 => 4 | 5 => 5 | 9 => 9 | n => n, fun n => n⟩
theorem lixLays : Lays.n149 Try.prog lixRen :=
  { mixed := by kernel_rfl
    f149 := Try.func27.trans (congrArg some (by kernel_rfl))
    f222 := Try.func32.trans (congrArg some (by kernel_rfl))
    t3 := Try.underlying3
    a3 := Try.isAgg3
    z3 := Try.sizeOf3
    v3 := Try.zeroValue3
    t4 := Try.underlying4
    a4 := Try.isAgg4
    z4 := Try.sizeOf4
    v4 := Try.zeroValue4
    t5 := Try.underlying5
    a5 := Try.isAgg5
    z5 := Try.sizeOf5
    v5 := Try.zeroValue5
    t9 := Try.underlying9
    a9 := Try.isAgg9
    z9 := Try.sizeOf9
    v9 := Try.zeroValue9 }
end Go.Proofs.Ytpjajiilgojbgaa
