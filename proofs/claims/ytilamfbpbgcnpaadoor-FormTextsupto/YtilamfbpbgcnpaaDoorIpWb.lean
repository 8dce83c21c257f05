/- The library's CutPrefix at 0x and at 0X; the program's cutMark and partNumber. -/
import Derived.Test.YtilamfbpbgcnpaaDoorIpWa
namespace Go.Proofs.YtilamfbpbgcnpaaDoor
open Go.RowKit
set_option linter.unusedVariables false
set_option maxRecDepth 20000
def preB (x : UInt8) (l : List UInt8) : Bool := l.take 2 == [48, x]
theorem ext_two (s : ByteArray) (h : 2 ≤ s.size) : (s.extract 0 2).toList = s.data.toList.take 2 := by
  rw [ByteArray.toList_eq, cut_mid s 0 2 h]
  rfl
theorem ext_drop (s : ByteArray) (k : Nat) (h : k ≤ s.size) : s.extract k s.size = strOf (s.data.toList.drop k) := by
  rw [cut_mid s k s.size (Nat.le_refl _), List.take_of_length_le (by rw [List.length_drop, bytes_num]; omega)]
theorem pre_size {x : UInt8} {s : ByteArray} (h : preB x s.data.toList = true) : 2 ≤ s.size := by
  have h2 := congrArg List.length (beq_iff_eq.1 h)
  rw [List.length_take, bytes_num] at h2
  simp at h2
  omega
theorem hexR_pre (l : List UInt8) : hexR l = (preB 120 l || preB 88 l) := by
  match l with
  | [] => rfl
  | [a] => simp [hexR, preB]
  | a :: b :: r =>
    show (a == 48 && (b == 120 || b == 88)) = (([a, b] == [48, 120]) || ([a, b] == [48, 88]))
    have e : ∀ y : UInt8, ([a, b] == [48, y]) = (a == 48 && b == y) := fun y => by simp
    rw [e, e]
    cases a == 48 <;> simp
/-- What is behind the mark, and whether it is there. -/
def cutP (x : UInt8) (l : List UInt8) : List UInt8 × Bool := if preB x l = true then (l.drop 2, true) else (l, false)
def markP (l : List UInt8) : List UInt8 × Bool := if hexR l = true then (l.drop 2, true) else (l, false)
theorem markP_yes {l : List UInt8} (h : hexR l = true) : markP l = (l.drop 2, true) := if_pos h
theorem markP_no {l : List UInt8} (h : hexR l = false) : markP l = (l, false) := by unfold markP; rw [h]; rfl
/-- What a part's number is to the program: 4294967296 at most. -/
def partP (l : List UInt8) : Nat × Bool := match numR l with
  | none => (0, false)
  | some n => (min n 4294967296, true)
theorem partP_none {l : List UInt8} (h : numR l = none) : partP l = (0, false) := by unfold partP; rw [h]
theorem partP_some {l : List UInt8} {n : Nat} (h : numR l = some n) : partP l = (min n 4294967296, true) := by unfold partP; rw [h]
theorem partP_of {l m : List UInt8} {b : Nat} (hne : l ≠ []) (hb : baseR l = (m, b)) (h1 : 1 ≤ b) : numP b m = partP l := by
  have h := numR_of hne hb
  cases hd : digsR b m with
  | true =>
    rw [hd, if_pos rfl] at h
    rw [partP_some h, numP_yes hd, satR_val h1]
  | false =>
    rw [hd, if_neg (by decide)] at h
    rw [partP_none h, numP_no hd]
def PartPost (l : List UInt8) (w : World) (e : Ending) (w' : World) : Prop := e = .returned (.tuple #[.int .u64 ((partP l).1 : Int), .bool (partP l).2]) ∧ w' = w
end Go.Proofs.YtilamfbpbgcnpaaDoor
