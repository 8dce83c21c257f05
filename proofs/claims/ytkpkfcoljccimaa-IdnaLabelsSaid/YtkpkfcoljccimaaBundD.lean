/- Texts of one proof, laid behind one another. -/
import Derived.Test.YtkpkfcoljccimaaBundA
import Derived.Shelf.Spec.SlicesInsertGrow
import Derived.Shelf.Strings.LastIndex
/- slices.Insert at []int: the library's own contracts, at this program. -/
namespace Go.Proofs.Ytkpkfcoljccimaa
open Go.RowKit Go.Shelf
set_option linter.unusedVariables false
def insRen : Ren := ⟨fun | 21 => 48 | 27 => 53 | 28 => 54 | 35 => 55 | 39 => 56 | n => n, fun | 0 => 0 | 3 => 3 | 4 => 4 | 22 => 24 | n => n, fun n => n⟩
theorem insLays : Lays2.n21 Try.prog insRen :=
  { mixed := by kernel_rfl
    f21 := Try.func48.trans (congrArg some (by kernel_rfl))
    f27 := Try.func53.trans (congrArg some (by kernel_rfl))
    f28 := Try.func54.trans (congrArg some (by kernel_rfl))
    f35 := Try.func55.trans (congrArg some (by kernel_rfl))
    f39 := Try.func56.trans (congrArg some (by kernel_rfl))
    t0 := Try.underlying0
    a0 := Try.isAgg0
    z0 := Try.sizeOf0
    v0 := Try.zeroValue0
    t3 := Try.underlying3
    a3 := Try.isAgg3
    z3 := Try.sizeOf3
    v3 := Try.zeroValue3
    t4 := Try.underlying4
    a4 := Try.isAgg4
    z4 := Try.sizeOf4
    v4 := Try.zeroValue4
    t22 := Try.underlying24
    a22 := Try.isAgg24
    z22 := Try.sizeOf24
    v22 := Try.zeroValue24
    i3 := by kernel_rfl }
def lixRen : Ren := ⟨fun | 149 => 46 | 222 => 51 | n => n, fun | 3 => 3 | 4 => 4 | 5 => 5 | 9 => 9 | n => n, fun n => n⟩
theorem lixLays : Lays.n149 Try.prog lixRen :=
  { mixed := by kernel_rfl
    f149 := Try.func46.trans (congrArg some (by kernel_rfl))
    f222 := Try.func51.trans (congrArg some (by kernel_rfl))
    t3 := Try.underlying3
    a3 := Try.isAgg3
    z3 := Try.sizeOf3
    v3 := Try.zeroValue3
    t4 := Try.underlying4
    a4 := Try.isAgg4
    z4 := Try.sizeOf4
    v4 := Try.zeroValue4
    t5 := Try.underlying5
    a5 := Try.isAgg5
    z5 := Try.sizeOf5
    v5 := Try.zeroValue5
    t9 := Try.underlying9
    a9 := Try.isAgg9
    z9 := Try.sizeOf9
    v9 := Try.zeroValue9 }
end Go.Proofs.Ytkpkfcoljccimaa
