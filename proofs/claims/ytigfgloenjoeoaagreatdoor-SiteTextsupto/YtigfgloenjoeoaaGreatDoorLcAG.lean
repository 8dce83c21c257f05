import Derived.Test.YtigfgloenjoeoaaGreatDoorLcAC
import Derived.Shelf.Spec.SlicesInsertGrow
import Derived.Shelf.Strings.LastIndex
set_option linter.unusedVariables false
set_option linter.unusedSimpArgs false
set_option maxRecDepth 20000
set_option maxHeartbeats 16000000
namespace Go.Proofs.YtigfgloenjoeoaaGreatDoor
open Go.RowKit Go.Shelf
def insRen:Ren:=⟨fun | 21=>212 | 27=>221 | 28=>222 | 35=>226 | 39=>227 | n=>n,fun | 0=>0 | 3=>3 | 4=>4 | 22=>63 | n=>n,fun n=>n⟩
theorem insLays:Lays2.n21 Tryz.prog insRen :=
 {mixed:=by kernel_rfl
  f21:=Tryz.func212.trans (congrArg some (by kernel_rfl))
  f27:=Tryz.func221.trans (congrArg some (by kernel_rfl))
  f28:=Tryz.func222.trans (congrArg some (by kernel_rfl))
  f35:=Tryz.func226.trans (congrArg some (by kernel_rfl))
  f39:=Tryz.func227.trans (congrArg some (by kernel_rfl))
  t0:=Tryz.underlying0
  a0:=Tryz.isAgg0
  z0:=Tryz.sizeOf0
  v0:=Tryz.zeroValue0
  t3:=Tryz.underlying3
  a3:=Tryz.isAgg3
  z3:=Tryz.sizeOf3
  v3:=Tryz.zeroValue3
  t4:=Tryz.underlying4
  a4:=Tryz.isAgg4
  z4:=Tryz.sizeOf4
  v4:=Tryz.zeroValue4
  t22:=Tryz.underlying63
  a22:=Tryz.isAgg63
  z22:=Tryz.sizeOf63
  v22:=Tryz.zeroValue63
  i3:=by kernel_rfl }
def lixRen:Ren:=⟨fun | 149=>210 | 222=>41 | n=>n,fun | 3=>3 | 4=>4 | 5=>5 | 9=>9 | n=>n,fun n=>n⟩
theorem lixLays:Lays.n149 Tryz.prog lixRen :=
 {mixed:=by kernel_rfl
  f149:=Tryz.func210.trans (congrArg some (by kernel_rfl))
  f222:=Tryz.func41.trans (congrArg some (by kernel_rfl))
  t3:=Tryz.underlying3
  a3:=Tryz.isAgg3
  z3:=Tryz.sizeOf3
  v3:=Tryz.zeroValue3
  t4:=Tryz.underlying4
  a4:=Tryz.isAgg4
  z4:=Tryz.sizeOf4
  v4:=Tryz.zeroValue4
  t5:=Tryz.underlying5
  a5:=Tryz.isAgg5
  z5:=Tryz.sizeOf5
  v5:=Tryz.zeroValue5
  t9:=Tryz.underlying9
  a9:=Tryz.isAgg9
  z9:=Tryz.sizeOf9
  v9:=Tryz.zeroValue9 }
end Go.Proofs.YtigfgloenjoeoaaGreatDoor
