/- Texts of one proof, laid behind one another. -/
import Derived.Test.YtkpkfcoljccimaaDoorBundA
import Derived.Shelf.Spec.SlicesInsertGrow
import Derived.Shelf.Strings.LastIndex
/- slices.Insert at []int: the library's own contracts, at this program. -/
namespace Go.Proofs.YtkpkfcoljccimaaDoor
open Go.RowKit Go.Shelf
set_option linter.unusedVariables false
set_option maxRecDepth 20000
def insRen : Ren := ⟨fun | 21 => 77 | 27 => 86 | 28 => 87 | 35 => 93 | 39 => 96 | n => n, fun | 0 => 0 | 3 => 3 | 4 => 4 | 22 => 22 | n => n, fun n => n⟩
theorem insLays : Lays2.n21 Tryd.prog insRen :=
  { mixed := by kernel_rfl
    f21 := Tryd.func77.trans (congrArg some (by kernel_rfl))
    f27 := Tryd.func86.trans (congrArg some (by kernel_rfl))
    f28 := Tryd.func87.trans (congrArg some (by kernel_rfl))
    f35 := Tryd.func93.trans (congrArg some (by kernel_rfl))
    f39 := Tryd.func96.trans (congrArg some (by kernel_rfl))
    t0 := Tryd.underlying0
    a0 := Tryd.isAgg0
    z0 := Tryd.sizeOf0
    v0 := Tryd.zeroValue0
    t3 := Tryd.underlying3
    a3 := Tryd.isAgg3
    z3 := Tryd.sizeOf3
    v3 := Tryd.zeroValue3
    t4 := Tryd.underlying4
    a4 := Tryd.isAgg4
    z4 := Tryd.sizeOf4
    v4 := Tryd.zeroValue4
    t22 := Tryd.underlying22
    a22 := Tryd.isAgg22
    z22 := Tryd.sizeOf22
    v22 := Tryd.zeroValue22
    i3 := by kernel_rfl }
def lixRen : Ren := ⟨fun | 149 => 75 | 222 => 84 | n => n, fun | 3 => 3 | 4 => 4 | 5 => 5 | 9 => 9 | n => n, fun n => n⟩
theorem lixLays : Lays.n149 Tryd.prog lixRen :=
  { mixed := by kernel_rfl
    f149 := Tryd.func75.trans (congrArg some (by kernel_rfl))
    f222 := Tryd.func84.trans (congrArg some (by kernel_rfl))
    t3 := Tryd.underlying3
    a3 := Tryd.isAgg3
    z3 := Tryd.sizeOf3
    v3 := Tryd.zeroValue3
    t4 := Tryd.underlying4
    a4 := Tryd.isAgg4
    z4 := Tryd.sizeOf4
    v4 := Tryd.zeroValue4
    t5 := Tryd.underlying5
    a5 := Tryd.isAgg5
    z5 := Tryd.sizeOf5
    v5 := Tryd.zeroValue5
    t9 := Tryd.underlying9
    a9 := Tryd.isAgg9
    z9 := Tryd.sizeOf9
    v9 := Tryd.zeroValue9 }
end Go.Proofs.YtkpkfcoljccimaaDoor
