import Derived.Test.YtigfgloenjoeoaaGreatDoorLbBI
import Derived.Test.YtigfgloenjoeoaaGreatDoorLbAY
import Derived.Test.YtigfgloenjoeoaaGreatDoorLbAX
import Derived.Test.YtigfgloenjoeoaaGreatDoorLbAU
set_option linter.unusedVariables false
set_option linter.unusedSimpArgs false
set_option maxRecDepth 20000
set_option maxHeartbeats 16000000
namespace Go.Proofs.YtigfgloenjoeoaaGreatDoor
theorem tail_len (l:List UInt8):(tailOf 46 l).length≤l.length:=by
 rcases tail_suf 46 l with h | ⟨a,b,rfl,h⟩
 ·rw [tail_free h];exact Nat.le_refl _
 ·rw [tail_app a h];simp;omega
end Go.Proofs.YtigfgloenjoeoaaGreatDoor
