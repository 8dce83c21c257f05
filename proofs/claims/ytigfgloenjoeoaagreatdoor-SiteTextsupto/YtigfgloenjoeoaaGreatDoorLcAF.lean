import Derived.Test.YtigfgloenjoeoaaGreatDoorLcAC
import Derived.Laws.StructEq
set_option linter.unusedVariables false
set_option linter.unusedSimpArgs false
set_option maxRecDepth 20000
set_option maxHeartbeats 16000000
namespace Go.Proofs.YtigfgloenjoeoaaGreatDoor
open Go.RowKit
def same8 (a0 a1 a2 a3 a4 a5 a6 a7 b0 b1 b2 b3 b4 b5 b6 b7:Int):Bool:=a0==b0&&(a1==b1&&(a2==b2&&(a3==b3&&(a4==b4&&(a5==b5&&(a6==b6&&a7==b7))))))
theorem same8_iff (a0 a1 a2 a3 a4 a5 a6 a7 b0 b1 b2 b3 b4 b5 b6 b7:Nat):same8 a0 a1 a2 a3 a4 a5 a6 a7 b0 b1 b2 b3 b4 b5 b6 b7=([a0,a1,a2,a3,a4,a5,a6,a7]==[b0,b1,b2,b3,b4,b5,b6,b7]):=by
 have h:∀a b:Nat,((a:Int)==(b:Int))=(a==b):=by
  intro a b
  by_cases e:a=b
  ·subst e;simp
  ·rw [beq_eq_false_iff_ne.2 e,beq_eq_false_iff_ne.2 (by omega)]
 unfold same8
 simp only [h,List.cons_beq_cons,List.nil_beq_eq,List.isEmpty_nil,Bool.and_true]
end Go.Proofs.YtigfgloenjoeoaaGreatDoor
