import Derived.Test.YtigfgloenjoeoaaGreatDoorLaAP
import Derived.Lib.SmallJoins
set_option linter.unusedVariables false
set_option linter.unusedSimpArgs false
set_option maxRecDepth 20000
set_option maxHeartbeats 16000000
namespace Go.Proofs.YtigfgloenjoeoaaGreatDoor
open Go.ChangeShapes Go.WideShapes Go.ChangeAt Go.RowKit
theorem cellsH1:Tryz.prog.cellsOf 3=1:=by kernel_rfl
theorem cellsH2:Tryz.prog.cellsOf 9=1:=by kernel_rfl
theorem cellsH3:Tryz.prog.cellsOf 22=1:=by kernel_rfl
theorem cellsH4:Tryz.prog.cellsOf 24=8:=by kernel_rfl
theorem cellsH0:Tryz.prog.cellsOf 26=11:=by kernel_rfl
end Go.Proofs.YtigfgloenjoeoaaGreatDoor
