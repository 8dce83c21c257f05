import Derived.Test.YtigfgloenjoeoaaGreatDoorLcBG
import Derived.Test.YtigfgloenjoeoaaGreatDoorLcAF
import Derived.Test.YtigfgloenjoeoaaGreatDoorLcAD
import Derived.Handy
set_option linter.unusedVariables false
set_option linter.unusedSimpArgs false
set_option maxRecDepth 20000
set_option maxHeartbeats 16000000
namespace Go.Proofs.YtigfgloenjoeoaaGreatDoor
open Go.RowKit
theorem eq_arrD (d:Nat) (a0 a1 a2 a3 a4 a5 a6 a7 b0 b1 b2 b3 b4 b5 b6 b7:Int) (w:World):(Op.equalIn (d+1+1) 24 (.agg #[.int .u16 a0,.int .u16 a1,.int .u16 a2,.int .u16 a3,.int .u16 a4,.int .u16 a5,.int .u16 a6,.int .u16 a7]) (.agg #[.int .u16 b0,.int .u16 b1,.int .u16 b2,.int .u16 b3,.int .u16 b4,.int .u16 b5,.int .u16 b6,.int .u16 b7])).run Tryz.prog w=.ok (same8 a0 a1 a2 a3 a4 a5 a6 a7 b0 b1 b2 b3 b4 b5 b6 b7) w:=by
 have u3:=Tryz.underlying23
 have a3':=Tryz.isAgg23
 have z3:=Tryz.sizeOf23
 rw [Op.equalIn]
 simp only [Sem.run_bind,run_underlying Tryz.underlying24,Result.andThen_ok]
 simp only [Std.Legacy.Range.forIn_eq_forIn_range',Std.Legacy.Range.size,Nat.sub_zero,Nat.add_sub_cancel,Nat.div_one,List.range'_succ,List.range'_zero,List.forIn_cons,List.forIn_nil]
 go_simp
 unfold same8
 by_cases h0:a0=b0
 ·by_cases h1:a1=b1
  ·by_cases h2:a2=b2
   ·by_cases h3:a3=b3
    ·by_cases h4:a4=b4
     ·by_cases h5:a5=b5
      ·by_cases h6:a6=b6
       ·by_cases h7:a7=b7<;>simp [h0,h1,h2,h3,h4,h5,h6,h7]
       ·simp [h0,h1,h2,h3,h4,h5,h6]
      ·simp [h0,h1,h2,h3,h4,h5]
     ·simp [h0,h1,h2,h3,h4]
    ·simp [h0,h1,h2,h3]
   ·simp [h0,h1,h2]
  ·simp [h0,h1]
 ·simp [h0]
def sameV (k:Int) (s:ByteArray) (n p0 p1 p2 p3 p4 p5 p6 p7:Nat) (k':Int) (s':ByteArray) (n' q0 q1 q2 q3 q4 q5 q6 q7:Nat):Bool:=k==k'&&(s.toList==s'.toList&&((n:Int)==(n':Int)&&same8 (p0:Int) (p1:Int) (p2:Int) (p3:Int) (p4:Int) (p5:Int) (p6:Int) (p7:Int) (q0:Int) (q1:Int) (q2:Int) (q3:Int) (q4:Int) (q5:Int) (q6:Int) (q7:Int)))
theorem sameV_iff (k:Int) (s:ByteArray) (n p0 p1 p2 p3 p4 p5 p6 p7:Nat) (k':Int) (s':ByteArray) (n' q0 q1 q2 q3 q4 q5 q6 q7:Nat):sameV k s n p0 p1 p2 p3 p4 p5 p6 p7 k' s' n' q0 q1 q2 q3 q4 q5 q6 q7=(((k,s.data.toList,n,[p0,p1,p2,p3,p4,p5,p6,p7]):HostN)==(k',s'.data.toList,n',[q0,q1,q2,q3,q4,q5,q6,q7])):=by
 have h:((n:Int)==(n':Int))=(n==n'):=by
  by_cases e:n=n'
  ·subst e;simp
  ·rw [beq_eq_false_iff_ne.2 e,beq_eq_false_iff_ne.2 (by omega)]
 unfold sameV
 rw [same8_iff,h,ByteArray.toList_eq,ByteArray.toList_eq]
 rfl
theorem eq_host (k:Int) (s:ByteArray) (n p0 p1 p2 p3 p4 p5 p6 p7:Nat) (k':Int) (s':ByteArray) (n' q0 q1 q2 q3 q4 q5 q6 q7:Nat) (w:World):(Op.equalIn 10000 26 (.agg #[.int .i64 k,.string s,.int .u32 (n:Int),.int .u16 (p0:Int),.int .u16 (p1:Int),.int .u16 (p2:Int),.int .u16 (p3:Int),.int .u16 (p4:Int),.int .u16 (p5:Int),.int .u16 (p6:Int),.int .u16 (p7:Int)]) (.agg #[.int .i64 k',.string s',.int .u32 (n':Int),.int .u16 (q0:Int),.int .u16 (q1:Int),.int .u16 (q2:Int),.int .u16 (q3:Int),.int .u16 (q4:Int),.int .u16 (q5:Int),.int .u16 (q6:Int),.int .u16 (q7:Int)])).run Tryz.prog w=.ok (sameV k s n p0 p1 p2 p3 p4 p5 p6 p7 k' s' n' q0 q1 q2 q3 q4 q5 q6 q7) w:=by
 have e8:=fun d w=>eq_arrD d (p0:Int) (p1:Int) (p2:Int) (p3:Int) (p4:Int) (p5:Int) (p6:Int) (p7:Int) (q0:Int) (q1:Int) (q2:Int) (q3:Int) (q4:Int) (q5:Int) (q6:Int) (q7:Int) w
 have u1:=Tryz.underlying3
 have u2:=Tryz.underlying9
 have u3:=Tryz.underlying22
 have a1:=Tryz.isAgg3
 have a2:=Tryz.isAgg9
 have a3:=Tryz.isAgg22
 have a4:=Tryz.isAgg24
 have z4:=Tryz.sizeOf24
 rw [show (10000:Nat)=9997+1+1+1 from rfl,run_equalIn_struct (P:=Tryz.prog) w (9997+1+1) 26 _ _ (by kernel_rfl) (by kernel_rfl)]
 simp only [Program.fieldsOf,Tryz.underlying26]
 go_simp
 unfold sameV
 by_cases h1:k=k'
 ·by_cases h2:s.toList=s'.toList
  ·by_cases h3:(n:Int)=(n':Int)
   ·cases same8 (p0:Int) (p1:Int) (p2:Int) (p3:Int) (p4:Int) (p5:Int) (p6:Int) (p7:Int) (q0:Int) (q1:Int) (q2:Int) (q3:Int) (q4:Int) (q5:Int) (q6:Int) (q7:Int)<;>simp [h1,h2,h3]
   ·simp [h1,h2,h3]
  ·simp [h1,h2]
 ·simp [h1]
theorem ballC (w:World) (o:Obj):Below w.heap.size w (w.alloc o):=(Below.refl _ _).alloc (Nat.le_refl _) _
end Go.Proofs.YtigfgloenjoeoaaGreatDoor
