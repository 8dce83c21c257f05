import Derived.Test.YtpohekldddbneaaGreatDoorPbBJ
import Derived.MapKept
set_option linter.unusedVariables false
set_option linter.unusedSimpArgs false
set_option maxRecDepth 20000
set_option maxHeartbeats 16000000
namespace Go.Proofs.YtpohekldddbneaaGreatDoor
open Go.RowKit
theorem chk_u16 (b:Bool) (n:Nat) (x:Int) (w:World):(Instr.checkKey b (n+1) 24 (.int .u16 x)).run Tryz.prog w=.ok () w:=by
 rw [Instr.checkKey]
 simp only [Sem.run_bind,run_underlying Tryz.underlying24,Result.andThen_ok]
 rfl
theorem chk_u32 (b:Bool) (n:Nat) (x:Int) (w:World):(Instr.checkKey b (n+1) 23 (.int .u32 x)).run Tryz.prog w=.ok () w:=by
 rw [Instr.checkKey]
 simp only [Sem.run_bind,run_underlying Tryz.underlying23,Result.andThen_ok]
 rfl
theorem chk_i64 (b:Bool) (n:Nat) (x:Int) (w:World):(Instr.checkKey b (n+1) 3 (.int .i64 x)).run Tryz.prog w=.ok () w:=by
 rw [Instr.checkKey]
 simp only [Sem.run_bind,run_underlying Tryz.underlying3,Result.andThen_ok]
 rfl
theorem chk_str (b:Bool) (n:Nat) (x:ByteArray) (w:World):(Instr.checkKey b (n+1) 9 (.string x)).run Tryz.prog w=.ok () w:=by
 rw [Instr.checkKey]
 simp only [Sem.run_bind,run_underlying Tryz.underlying9,Result.andThen_ok]
 rfl
theorem chk_arr8 (b:Bool) (n:Nat) (a0 a1 a2 a3 a4 a5 a6 a7:Int) (w:World):(Instr.checkKey b (n+1+1) 25 (.agg #[.int .u16 a0,.int .u16 a1,.int .u16 a2,.int .u16 a3,.int .u16 a4,.int .u16 a5,.int .u16 a6,.int .u16 a7])).run Tryz.prog w=.ok () w:=by
 have u3:=Tryz.underlying24
 have a3':=Tryz.isAgg24
 have z3:=Tryz.sizeOf24
 have hci:=chk_u16 b n
 rw [Instr.checkKey]
 simp only [Sem.run_bind,run_underlying Tryz.underlying25,Result.andThen_ok]
 simp only [Std.Legacy.Range.forIn_eq_forIn_range',Std.Legacy.Range.size,Nat.sub_zero,Nat.add_sub_cancel,Nat.div_one,List.range'_succ,List.range'_zero,List.forIn_cons,List.forIn_nil]
 go_simp
theorem chk_host (b:Bool) (k:Int) (s:ByteArray) (n p0 p1 p2 p3 p4 p5 p6 p7:Nat) (w:World):(Instr.checkKey b 10000 27 (.agg #[.int .i64 k,.string s,.int .u32 (n:Int),.int .u16 (p0:Int),.int .u16 (p1:Int),.int .u16 (p2:Int),.int .u16 (p3:Int),.int .u16 (p4:Int),.int .u16 (p5:Int),.int .u16 (p6:Int),.int .u16 (p7:Int)])).run Tryz.prog w=.ok () w:=by
 have a1:=Tryz.isAgg3
 have a2:=Tryz.isAgg9
 have a3:=Tryz.isAgg23
 have a4:=Tryz.isAgg25
 have z4:=Tryz.sizeOf25
 have c1:=fun w=>chk_i64 b 9998 k w
 have c2:=fun w=>chk_str b 9998 s w
 have c3:=fun w=>chk_u32 b 9998 (n:Int) w
 have c4:=fun w=>chk_arr8 b 9997 (p0:Int) (p1:Int) (p2:Int) (p3:Int) (p4:Int) (p5:Int) (p6:Int) (p7:Int) w
 rw [show (10000:Nat)=9999+1 from rfl,Instr.checkKey]
 simp only [Sem.run_bind,run_underlying Tryz.underlying27,Result.andThen_ok]
 simp only [← Array.forIn_toList,List.forIn_cons,List.forIn_nil]
 go_simp
def putObjH (w:World) (r:Nat) (o:Obj):World:={ w with heap:=w.heap.setIfInBounds r o }
theorem find_noneH (k:Int) (s:ByteArray) (n p0 p1 p2 p3 p4 p5 p6 p7:Nat) (w:World):(Instr.findKey 27 (.agg #[.int .i64 k,.string s,.int .u32 (n:Int),.int .u16 (p0:Int),.int .u16 (p1:Int),.int .u16 (p2:Int),.int .u16 (p3:Int),.int .u16 (p4:Int),.int .u16 (p5:Int),.int .u16 (p6:Int),.int .u16 (p7:Int)]) []).run Tryz.prog w=.ok none w:=by
 unfold Instr.findKey
 simp only [Sem.run_bind,run_underlying Tryz.underlying27,Result.andThen_ok,Instr.findNow]
 rfl
theorem put_newH {w:World} {r:Nat} (hb:w.heap[r]? = some (.map #[] 0)) (k:Int) (s:ByteArray) (n p0 p1 p2 p3 p4 p5 p6 p7:Nat) (v:Value):(Instr.mapUpdate 38 (.map (some r)) (.agg #[.int .i64 k,.string s,.int .u32 (n:Int),.int .u16 (p0:Int),.int .u16 (p1:Int),.int .u16 (p2:Int),.int .u16 (p3:Int),.int .u16 (p4:Int),.int .u16 (p5:Int),.int .u16 (p6:Int),.int .u16 (p7:Int)]) v).run Tryz.prog w=.ok () (putObjH w r (.map #[⟨(.agg #[.int .i64 k,.string s,.int .u32 (n:Int),.int .u16 (p0:Int),.int .u16 (p1:Int),.int .u16 (p2:Int),.int .u16 (p3:Int),.int .u16 (p4:Int),.int .u16 (p5:Int),.int .u16 (p6:Int),.int .u16 (p7:Int)]),v,0⟩] 1)):=by
 have ht:=Tryz.underlying38
 have hc:=chk_host false k s n p0 p1 p2 p3 p4 p5 p6 p7 w
 have hf:=find_noneH k s n p0 p1 p2 p3 p4 p5 p6 p7 w
 simp [Instr.mapUpdate,run_underlying ht,MapKept.run_getObj_map hb,hc,hf,MapKept.run_setObj_map _ hb,Result.andThen,putObjH]
theorem find_oneH (k:Int) (s:ByteArray) (n p0 p1 p2 p3 p4 p5 p6 p7:Nat) (k':Int) (s':ByteArray) (n' q0 q1 q2 q3 q4 q5 q6 q7:Nat) (v:Value) (w:World):(Instr.findKey 27 (.agg #[.int .i64 k',.string s',.int .u32 (n':Int),.int .u16 (q0:Int),.int .u16 (q1:Int),.int .u16 (q2:Int),.int .u16 (q3:Int),.int .u16 (q4:Int),.int .u16 (q5:Int),.int .u16 (q6:Int),.int .u16 (q7:Int)]) [⟨(.agg #[.int .i64 k,.string s,.int .u32 (n:Int),.int .u16 (p0:Int),.int .u16 (p1:Int),.int .u16 (p2:Int),.int .u16 (p3:Int),.int .u16 (p4:Int),.int .u16 (p5:Int),.int .u16 (p6:Int),.int .u16 (p7:Int)]),v,0⟩]).run Tryz.prog w=.ok (if sameV k' s' n' q0 q1 q2 q3 q4 q5 q6 q7 k s n p0 p1 p2 p3 p4 p5 p6 p7=true then some (0,v) else none) w:=by
 have he:=eq_host k' s' n' q0 q1 q2 q3 q4 q5 q6 q7 k s n p0 p1 p2 p3 p4 p5 p6 p7 w
 unfold Instr.findKey
 simp only [Sem.run_bind,run_underlying Tryz.underlying27,Result.andThen_ok,Instr.findNow,Instr.sameNow,Instr.findAsking,Op.equal,Op.maxDepth,he]
 cases hs:sameV k' s' n' q0 q1 q2 q3 q4 q5 q6 q7 k s n p0 p1 p2 p3 p4 p5 p6 p7<;>rfl
theorem ask_oneH {w:World} {r:Nat} {k:Int} {s:ByteArray} {n p0 p1 p2 p3 p4 p5 p6 p7:Nat} (hb:w.heap[r]? = some (.map #[⟨(.agg #[.int .i64 k,.string s,.int .u32 (n:Int),.int .u16 (p0:Int),.int .u16 (p1:Int),.int .u16 (p2:Int),.int .u16 (p3:Int),.int .u16 (p4:Int),.int .u16 (p5:Int),.int .u16 (p6:Int),.int .u16 (p7:Int)]),.int .i64 7,0⟩] 1)) (k':Int) (s':ByteArray) (n' q0 q1 q2 q3 q4 q5 q6 q7:Nat):(Instr.lookup 38 (.map (some r)) (.agg #[.int .i64 k',.string s',.int .u32 (n':Int),.int .u16 (q0:Int),.int .u16 (q1:Int),.int .u16 (q2:Int),.int .u16 (q3:Int),.int .u16 (q4:Int),.int .u16 (q5:Int),.int .u16 (q6:Int),.int .u16 (q7:Int)]) false).run Tryz.prog w=.ok (.int .i64 (if sameV k' s' n' q0 q1 q2 q3 q4 q5 q6 q7 k s n p0 p1 p2 p3 p4 p5 p6 p7=true then 7 else 0)) w:=by
 have ht:=Tryz.underlying38
 have hz:(zeroValue 3).run Tryz.prog w=.ok (.int .i64 0) w:=Tryz.zeroValue3 w
 have hc:=chk_host false k' s' n' q0 q1 q2 q3 q4 q5 q6 q7 w
 have hf:=find_oneH k s n p0 p1 p2 p3 p4 p5 p6 p7 k' s' n' q0 q1 q2 q3 q4 q5 q6 q7 (.int .i64 7) w
 cases hs:sameV k' s' n' q0 q1 q2 q3 q4 q5 q6 q7 k s n p0 p1 p2 p3 p4 p5 p6 p7 with
 | true =>
   simp only [hs] at hf
   simp [Instr.lookup,run_underlying ht,MapKept.run_getObj_map hb,hc,hf,Result.andThen]
 | false =>
   simp only [hs] at hf
   simp [Instr.lookup,run_underlying ht,MapKept.run_getObj_map hb,hc,hf,hz,Result.andThen]
end Go.Proofs.YtpohekldddbneaaGreatDoor
