import Derived.Test.YtigfgloenjoeoaaGreatDoorLcBG
import Derived.Test.YtigfgloenjoeoaaGreatDoorLcAC
import Derived.WalkSmall
set_option linter.unusedVariables false
set_option linter.unusedSimpArgs false
set_option maxRecDepth 20000
set_option maxHeartbeats 16000000
namespace Go.Proofs.YtigfgloenjoeoaaGreatDoor
open Go.RowKit
def badS:ByteArray:=⟨#[0,9,10,13,32,35,47,58,60,62,63,64,91,92,93,94,124]⟩
end Go.Proofs.YtigfgloenjoeoaaGreatDoor
