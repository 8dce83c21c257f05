/- The program's digit, number, allBelow: digits of a base, a number that stays at 4294967296. -/
import Derived.Test.YtilamfbpbgcnpaaDoorIpF
namespace Go.Proofs.YtilamfbpbgcnpaaDoor
open Go.RowKit
set_option linter.unusedVariables false
set_option maxRecDepth 20000
def dP (z : Nat) : Nat := match hexV z with
  | some d => d
  | none => 4294967296
theorem dP_some {z d : Nat} (h : hexV z = some d) : dP z = d := by unfold dP; rw [h]
theorem dP_none {z : Nat} (h : hexV z = none) : dP z = 4294967296 := by unfold dP; rw [h]
/-- What digits tell, 4294967296 at most. -/
def satR (b : Nat) (l : List UInt8) : Nat := l.foldl (fun n c => min (n * b + dgv c) 4294967296) 0
theorem satR_snoc (b : Nat) (l : List UInt8) (c : UInt8) : satR b (l ++ [c]) = min (satR b l * b + dgv c) 4294967296 := by unfold satR; rw [List.foldl_append]; rfl
theorem satR_le (b : Nat) (l : List UInt8) : satR b l ≤ 4294967296 := by
  rcases List.eq_nil_or_concat l with h | ⟨l', c, h⟩
  · subst h; exact Nat.zero_le _
  · rw [h, List.concat_eq_append, satR_snoc]; exact Nat.min_le_right _ _
theorem satR_step (b x d : Nat) (hb : 1 ≤ b) : min (min x 4294967296 * b + d) 4294967296 = min (x * b + d) 4294967296 := by
  rcases Nat.le_total x 4294967296 with h | h
  · rw [Nat.min_eq_left h]
  · rw [Nat.min_eq_right h]
    have h1 : 4294967296 ≤ 4294967296 * b := Nat.le_mul_of_pos_right _ hb
    have h2 : 4294967296 * b ≤ x * b := Nat.mul_le_mul_right b h
    rw [Nat.min_eq_right (by omega), Nat.min_eq_right (by omega)]
theorem satR_eq (b : Nat) (hb : 1 ≤ b) : ∀ (n : Nat) (l : List UInt8), l.length = n → satR b l = min (valX b l) 4294967296
  | 0, l, h => by rw [List.eq_nil_of_length_eq_zero h]; rfl
  | n + 1, l, h => by
    rcases List.eq_nil_or_concat l with h' | ⟨l', c, h'⟩
    · rw [h'] at h; simp at h
    · rw [List.concat_eq_append] at h'
      subst h'
      rw [List.length_append] at h
      rw [satR_snoc, valX_snoc, satR_eq b hb n l' (by simpa using h), satR_step b _ _ hb]
theorem satR_val {b : Nat} (hb : 1 ≤ b) (l : List UInt8) : satR b l = min (valRIp b l) 4294967296 := by
  rw [satR_eq b hb _ l rfl, valR_eq b hb _ l rfl]
  omega
theorem satR_take {s : ByteArray} {b k : Nat} (h : k < s.size) : satR b (s.data.toList.take (k + 1)) = min (satR b (s.data.toList.take k) * b + dgv s[k]) 4294967296 := by
  have hl : k < s.data.toList.length := by rw [bytes_num]; exact h
  rw [List.take_succ_eq_append_getElem hl, satR_snoc]
  rfl
theorem dgv_of {c : UInt8} {d : Nat} (h : hexV c.toNat = some d) : dgv c = d := by unfold dgv; rw [h]; rfl
/-- What number answers: what the digits tell, and whether they are such. -/
def numP (b : Nat) (l : List UInt8) : Nat × Bool := if digsR b l = true then (satR b l, true) else (0, false)
theorem numP_yes {b : Nat} {l : List UInt8} (h : digsR b l = true) : numP b l = (satR b l, true) := if_pos h
theorem numP_no {b : Nat} {l : List UInt8} (h : digsR b l = false) : numP b l = (0, false) := by unfold numP; rw [h]; rfl
def NPost (b : Nat) (l : List UInt8) (w : World) (e : Ending) (w' : World) : Prop := e = .returned (.tuple #[.int .u64 ((numP b l).1 : Int), .bool (numP b l).2]) ∧ w' = w
theorem NPost.yes {b : Nat} {l : List UInt8} {w : World} (h : digsR b l = true) {n : Nat} (hn : satR b l = n) : NPost b l w (.returned (.tuple #[.int .u64 (n : Int), .bool true])) w := by unfold NPost; rw [numP_yes h, hn]; exact ⟨rfl, rfl⟩
theorem NPost.no {b : Nat} {l : List UInt8} {w : World} (h : digsR b l = false) : NPost b l w (.returned (.tuple #[.int .u64 0, .bool false])) w := by unfold NPost; rw [numP_no h]; exact ⟨rfl, rfl⟩
end Go.Proofs.YtilamfbpbgcnpaaDoor
