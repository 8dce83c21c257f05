/- The document's number. -/
import Derived.Test.YtilamfbpbgcnpaaDoorIpE
namespace Go.Proofs.YtilamfbpbgcnpaaDoor
open Go.RowKit
set_option linter.unusedVariables false
set_option maxRecDepth 20000
theorem empty_yes {s : ByteArray} (h : s.size = 0) : s.toList = [] := by
  rw [ByteArray.toList_eq]
  exact List.eq_nil_of_length_eq_zero (by rw [bytes_num]; exact h)
theorem empty_no {s : ByteArray} (h : s.size ≠ 0) : (s.toList == []) = false ∧ s.toList.isEmpty = false := by
  have hl : s.toList.length = s.size := by rw [ByteArray.toList_eq]; exact bytes_num s
  revert hl
  generalize s.toList = l
  intro hl
  match l, hl with
  | [], hl => exact absurd hl.symm h
  | a :: r, _ => exact ⟨rfl, rfl⟩
theorem data_nil {s : ByteArray} (h : s.size = 0) : s.data.toList = [] := List.eq_nil_of_length_eq_zero (by rw [bytes_num]; exact h)
theorem data_ne {s : ByteArray} (h : s.size ≠ 0) : s.data.toList ≠ [] := fun e => h (by rw [← bytes_num, e]; rfl)
theorem drop_data (s : ByteArray) (k : Nat) (h : k ≤ s.size) : (s.extract k s.size).data.toList = s.data.toList.drop k ∧ (s.extract k s.size).size = s.size - k := by
  constructor
  · rw [ByteArray.data_extract, Array.toList_extract, List.extract_eq_take_drop]
    rw [List.take_of_length_le (by rw [List.length_drop, bytes_num]; omega)]
  · rw [ByteArray.size_extract]; omega
theorem digs_at {t : ByteArray} {b k : Nat} (h : digsR b t.data.toList = true) (hk : k < t.size) : ∃ d, hexV t[k].toNat = some d ∧ d < b ∧ dgv t[k] = d := by
  unfold digsR at h
  have hl : k < t.data.toList.length := by rw [bytes_num]; exact hk
  have := List.all_eq_true.1 h t[k] (List.getElem_mem (l := t.data.toList) (n := k) hl)
  unfold digB at this
  cases hv : hexV t[k].toNat with
  | none => rw [hv] at this; cases this
  | some d => rw [hv] at this; exact ⟨d, rfl, by simpa using this, by unfold dgv; rw [hv]; rfl⟩
theorem valR_take {t : ByteArray} {b k : Nat} (hk : k < t.size) : valRIp b (t.data.toList.take (k + 1)) = min (valRIp b (t.data.toList.take k) * b + dgv t[k]) 1099511627776 := by
  have hl : k < t.data.toList.length := by rw [bytes_num]; exact hk
  rw [List.take_succ_eq_append_getElem hl, valR_snoc]
  rfl
theorem numR_of {l m : List UInt8} {b : Nat} (hne : l ≠ []) (hb : baseR l = (m, b)) : numR l = if digsR b m = true then some (valRIp b m) else none := by
  unfold numR
  rw [if_neg hne, hb]
/-- What number answers. -/
def NumPost (l : List UInt8) (w : World) (e : Ending) (w' : World) : Prop := e = .returned (.tuple #[.int .i64 (((numR l).getD 0 : Nat) : Int), .bool (numR l).isSome]) ∧ w' = w
theorem NumPost.no {l : List UInt8} {w : World} (h : numR l = none) : NumPost l w (.returned (.tuple #[.int .i64 0, .bool false])) w := by unfold NumPost; rw [h]; exact ⟨rfl, rfl⟩
theorem NumPost.yes {l : List UInt8} {w : World} {n : Nat} (h : numR l = some n) : NumPost l w (.returned (.tuple #[.int .i64 (n : Int), .bool true])) w := by unfold NumPost; rw [h]; exact ⟨rfl, rfl⟩
theorem base_hex {l : List UInt8} (h : hexR l = true) : baseR l = (l.drop 2, 16) := by unfold baseR; rw [if_pos h]
theorem base_oct {l : List UInt8} (h : hexR l = false) (h1 : 1 < l.length) (h2 : l.head? = some 48) : baseR l = (l.drop 1, 8) := by unfold baseR; rw [if_neg (by rw [h]; decide), if_pos ⟨h1, h2⟩]
theorem base_ten {l : List UInt8} (h : hexR l = false) (h1 : ¬ (1 < l.length ∧ l.head? = some 48)) : baseR l = (l, 10) := by unfold baseR; rw [if_neg (by rw [h]; decide), if_neg h1]
theorem hexR_two {s : ByteArray} (h : hexR s.data.toList = true) : 2 ≤ s.size := by
  by_cases h2 : 2 ≤ s.size
  · exact h2
  · rw [hexR_short h2] at h; cases h
theorem head_at {s : ByteArray} (h : 0 < s.size) : s.data.toList.head? = some s[0] := by
  have := bytes_at s 0 h
  rw [← this, List.head?_eq_getElem?]
end Go.Proofs.YtilamfbpbgcnpaaDoor
