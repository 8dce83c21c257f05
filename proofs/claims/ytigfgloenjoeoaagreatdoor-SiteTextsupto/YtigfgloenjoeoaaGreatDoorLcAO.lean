import Derived.Test.YtigfgloenjoeoaaGreatDoorLcAH
import Derived.Test.YtigfgloenjoeoaaGreatDoorLcAA
import Derived.Test.YtigfgloenjoeoaaGreatDoorLcAD
import Derived.Deep.RegionHeld3
import Derived.Deep.DrawnRows
import Derived.Deep.DeepMust
set_option linter.unusedVariables false
set_option linter.unusedSimpArgs false
set_option maxRecDepth 20000
set_option maxHeartbeats 16000000
namespace Go.Proofs.YtigfgloenjoeoaaGreatDoor
open Go.RowKit
theorem pcs_snoc (a:List Nat) (x:Nat):pcs (a++[x])=pcs a++[digsOf 16 x]:=by simp [pcs]
theorem join_more {a:List Nat} (h:a≠[]) (x:Nat):joinC 58 (pcs (a++[x]))=joinC 58 (pcs a)++[58]++digsOf 16 x:=by
 rw [pcs_snoc,joinC_snoc 58 _ _ (by intro e;exact h (by simpa [pcs] using e))]
 simp
theorem take_more {l:List Nat} {k:Nat} (h:k < l.length):l.take (k+1)=l.take k++[l[k]]:=List.take_succ_eq_append_getElem h
def agg8 (p0 p1 p2 p3 p4 p5 p6 p7:Nat):Value:=.agg #[.int .u16 (p0:Int),.int .u16 (p1:Int),.int .u16 (p2:Int),.int .u16 (p3:Int),.int .u16 (p4:Int),.int .u16 (p5:Int),.int .u16 (p6:Int),.int .u16 (p7:Int)]
end Go.Proofs.YtigfgloenjoeoaaGreatDoor
