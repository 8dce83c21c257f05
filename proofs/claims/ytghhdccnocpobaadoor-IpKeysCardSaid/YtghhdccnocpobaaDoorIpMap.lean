/- A map with an array of eight as its key: one entry put into a new one, and asked. -/
import Derived.Test.YtghhdccnocpobaaDoorIpEq
import Derived.MapKept
namespace Go.Proofs.YtghhdccnocpobaaDoor
open Go.RowKit
set_option linter.unusedVariables false
set_option maxRecDepth 20000
theorem chk_int (b : Bool) (n : Nat) (x : Int) (w : World) : (Instr.checkKey b (n + 1) 27 (.int .u16 x)).run Tryd.prog w = .ok () w := by
  rw [Instr.checkKey]
  simp only [Sem.run_bind, run_underlying Tryd.underlying27, Result.andThen_ok]
  rfl
set_option maxHeartbeats 2000000 in
theorem chk_arr (b : Bool) (a0 a1 a2 a3 a4 a5 a6 a7 : Int) (w : World) : (Instr.checkKey b 10000 28 (.agg #[.int .u16 a0, .int .u16 a1, .int .u16 a2, .int .u16 a3, .int .u16 a4, .int .u16 a5, .int .u16 a6, .int .u16 a7])).run Tryd.prog w = .ok () w := by
  have u3 := Tryd.underlying27
  have a3' := Tryd.isAgg27
  have z3 := Tryd.sizeOf27
  have hci := chk_int b 9998
  rw [show (10000 : Nat) = 9999 + 1 from rfl, Instr.checkKey]
  simp only [Sem.run_bind, run_underlying Tryd.underlying28, Result.andThen_ok]
  simp only [Std.Legacy.Range.forIn_eq_forIn_range', Std.Legacy.Range.size, Nat.sub_zero, Nat.add_sub_cancel, Nat.div_one, List.range'_succ, List.range'_zero, List.forIn_cons, List.forIn_nil]
  go_simp
def putObj (w : World) (r : Nat) (o : Obj) : World := { w with heap := w.heap.setIfInBounds r o }
theorem find_none (a0 a1 a2 a3 a4 a5 a6 a7 : Int) (w : World) : (Instr.findKey 28 (.agg #[.int .u16 a0, .int .u16 a1, .int .u16 a2, .int .u16 a3, .int .u16 a4, .int .u16 a5, .int .u16 a6, .int .u16 a7]) []).run Tryd.prog w = .ok none w := by
  unfold Instr.findKey
  simp only [Sem.run_bind, run_underlying Tryd.underlying28, Result.andThen_ok, Instr.findNow]
  rfl
set_option maxHeartbeats 2000000 in
theorem put_new {w : World} {r : Nat} (hb : w.heap[r]? = some (.map #[] 0)) (a0 a1 a2 a3 a4 a5 a6 a7 : Int) (v : Value) : (Instr.mapUpdate 38 (.map (some r)) (.agg #[.int .u16 a0, .int .u16 a1, .int .u16 a2, .int .u16 a3, .int .u16 a4, .int .u16 a5, .int .u16 a6, .int .u16 a7]) v).run Tryd.prog w = .ok () (putObj w r (.map #[⟨(.agg #[.int .u16 a0, .int .u16 a1, .int .u16 a2, .int .u16 a3, .int .u16 a4, .int .u16 a5, .int .u16 a6, .int .u16 a7]), v, 0⟩] 1)) := by
  have ht := Tryd.underlying38
  have hc := chk_arr false a0 a1 a2 a3 a4 a5 a6 a7 w
  have hf := find_none a0 a1 a2 a3 a4 a5 a6 a7 w
  simp [Instr.mapUpdate, run_underlying ht, MapKept.run_getObj_map hb, hc, hf, MapKept.run_setObj_map _ hb, Result.andThen, putObj]
theorem find_one (a0 a1 a2 a3 a4 a5 a6 a7 b0 b1 b2 b3 b4 b5 b6 b7 : Int) (v : Value) (w : World) : (Instr.findKey 28 (.agg #[.int .u16 b0, .int .u16 b1, .int .u16 b2, .int .u16 b3, .int .u16 b4, .int .u16 b5, .int .u16 b6, .int .u16 b7]) [⟨(.agg #[.int .u16 a0, .int .u16 a1, .int .u16 a2, .int .u16 a3, .int .u16 a4, .int .u16 a5, .int .u16 a6, .int .u16 a7]), v, 0⟩]).run Tryd.prog w = .ok (if same8 b0 b1 b2 b3 b4 b5 b6 b7 a0 a1 a2 a3 a4 a5 a6 a7 = true then some (0, v) else none) w := by
  have he := eq_arr b0 b1 b2 b3 b4 b5 b6 b7 a0 a1 a2 a3 a4 a5 a6 a7 w
  unfold Instr.findKey
  simp only [Sem.run_bind, run_underlying Tryd.underlying28, Result.andThen_ok, Instr.findNow, Instr.sameNow, Instr.findAsking, Op.equal, Op.maxDepth, he]
  cases hs : same8 b0 b1 b2 b3 b4 b5 b6 b7 a0 a1 a2 a3 a4 a5 a6 a7 <;> rfl
set_option maxHeartbeats 2000000 in
theorem ask_one {w : World} {r : Nat} {a0 a1 a2 a3 a4 a5 a6 a7 : Int} {S : ByteArray} (hb : w.heap[r]? = some (.map #[⟨(.agg #[.int .u16 a0, .int .u16 a1, .int .u16 a2, .int .u16 a3, .int .u16 a4, .int .u16 a5, .int .u16 a6, .int .u16 a7]), .string S, 0⟩] 1)) (b0 b1 b2 b3 b4 b5 b6 b7 : Int) : (Instr.lookup 38 (.map (some r)) (.agg #[.int .u16 b0, .int .u16 b1, .int .u16 b2, .int .u16 b3, .int .u16 b4, .int .u16 b5, .int .u16 b6, .int .u16 b7]) true).run Tryd.prog w = .ok (if same8 b0 b1 b2 b3 b4 b5 b6 b7 a0 a1 a2 a3 a4 a5 a6 a7 = true then .tuple #[.string S, .bool true] else .tuple #[.string ⟨#[]⟩, .bool false]) w := by
  have ht := Tryd.underlying38
  have hz : (zeroValue 9).run Tryd.prog w = .ok (.string ⟨#[]⟩) w := by kernel_rfl
  have hc := chk_arr false b0 b1 b2 b3 b4 b5 b6 b7 w
  have hf := find_one a0 a1 a2 a3 a4 a5 a6 a7 b0 b1 b2 b3 b4 b5 b6 b7 (.string S) w
  cases hs : same8 b0 b1 b2 b3 b4 b5 b6 b7 a0 a1 a2 a3 a4 a5 a6 a7 with
  | true =>
    simp only [hs] at hf
    simp [Instr.lookup, run_underlying ht, MapKept.run_getObj_map hb, hc, hf, Result.andThen]
  | false =>
    simp only [hs] at hf
    simp [Instr.lookup, run_underlying ht, MapKept.run_getObj_map hb, hc, hf, hz, Result.andThen]
end Go.Proofs.YtghhdccnocpobaaDoor
