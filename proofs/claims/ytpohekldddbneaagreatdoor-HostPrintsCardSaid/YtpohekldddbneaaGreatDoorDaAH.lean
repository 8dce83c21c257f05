import Derived.Test.YtpohekldddbneaaGreatDoorDaAB
import Derived.Shelf.Spec.SlicesInsertGrow
import Derived.Shelf.Strings.LastIndex
set_option linter.unusedVariables false
set_option linter.unusedSimpArgs false
set_option maxRecDepth 20000
set_option maxHeartbeats 16000000
namespace Go.Proofs.YtpohekldddbneaaGreatDoor
open Go.RowKit Go.Shelf
def insRen:Ren:=⟨fun | 21=>177 | 27=>185 | 28=>186 | 35=>190 | 39=>192 | n=>n,fun | 0=>0 | 3=>3 | 4=>4 | 22=>48 | n=>n,fun n=>n⟩
theorem insLays:Lays2.n21 Tryz.prog insRen :=
 {mixed:=by kernel_rfl
  f21:=Tryz.func177.trans (congrArg some (by kernel_rfl))
  f27:=Tryz.func185.trans (congrArg some (by kernel_rfl))
  f28:=Tryz.func186.trans (congrArg some (by kernel_rfl))
  f35:=Tryz.func190.trans (congrArg some (by kernel_rfl))
  f39:=Tryz.func192.trans (congrArg some (by kernel_rfl))
  t0:=Tryz.underlying0
  a0:=Tryz.isAgg0
  z0:=Tryz.sizeOf0
  v0:=Tryz.zeroValue0
  t3:=Tryz.underlying3
  a3:=Tryz.isAgg3
  z3:=Tryz.sizeOf3
  v3:=Tryz.zeroValue3
  t4:=Tryz.underlying4
  a4:=Tryz.isAgg4
  z4:=Tryz.sizeOf4
  v4:=Tryz.zeroValue4
  t22:=Tryz.underlying48
  a22:=Tryz.isAgg48
  z22:=Tryz.sizeOf48
  v22:=Tryz.zeroValue48
  i3:=by kernel_rfl }
def lixRen:Ren:=⟨fun | 149=>175 | 222=>118 | n=>n,fun | 3=>3 | 4=>4 | 5=>5 | 9=>9 | n=>n,fun n=>n⟩
theorem lixLays:Lays.n149 Tryz.prog lixRen :=
 {mixed:=by kernel_rfl
  f149:=Tryz.func175.trans (congrArg some (by kernel_rfl))
  f222:=Tryz.func118.trans (congrArg some (by kernel_rfl))
  t3:=Tryz.underlying3
  a3:=Tryz.isAgg3
  z3:=Tryz.sizeOf3
  v3:=Tryz.zeroValue3
  t4:=Tryz.underlying4
  a4:=Tryz.isAgg4
  z4:=Tryz.sizeOf4
  v4:=Tryz.zeroValue4
  t5:=Tryz.underlying5
  a5:=Tryz.isAgg5
  z5:=Tryz.sizeOf5
  v5:=Tryz.zeroValue5
  t9:=Tryz.underlying9
  a9:=Tryz.isAgg9
  z9:=Tryz.sizeOf9
  v9:=Tryz.zeroValue9 }
end Go.Proofs.YtpohekldddbneaaGreatDoor
