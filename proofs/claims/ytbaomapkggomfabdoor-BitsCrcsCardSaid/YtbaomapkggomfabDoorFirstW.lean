/- The walk of first: what the chapter's examples fix. -/
import Derived.Test.YtbaomapkggomfabDoorPutW
import Derived.Laws.BytesArg
import Derived.Lib.SlBytesConst
namespace Go.Proofs.YtbaomapkggomfabDoor
open Go.RowKit
set_option linter.unusedVariables false
theorem below_trans {a b c : World} (h : Below a.heap.size a b) (k : Below b.heap.size b c) : Below a.heap.size a c := h.trans (k.mono h.size)
def strOf (l : List UInt8) : ByteArray := ⟨l.toArray⟩
theorem run_loadCells_zero (w : World) (a : Addr) : (loadCells a 0).run Tryd.prog w = .ok #[] w := by
  simp [loadCells, loadCellsFrom]
theorem run_string {w : World} {v : Value} {l : List UInt8} (h : BRow w v l) : (convert 26 9 v).run Tryd.prog w = .ok (.string (strOf l)) w := by
  obtain ⟨a, cap, rfl, h1, h2, h3⟩ := h
  by_cases hl : l = []
  · subst hl
    cases a with
    | none => rw [run_convert_bytes_nil w 26 5 Tryd.underlying26 Tryd.underlying5 _ _ 9 Tryd.underlying9]; rfl
    | some a =>
      rw [run_convert_bytes_string w 26 9 5 _ _ _ Tryd.underlying26 Tryd.underlying5 Tryd.underlying9]
      exact run_bytesToString w a 0 cap [] (run_loadCells_zero w a)
  · obtain ⟨b, off, rfl, hlt, hc⟩ := h3 hl
    have hx := run_convert_bytes_arg (P := Tryd.prog) w 26 5 Tryd.underlying26 Tryd.underlying5 b off l.length cap (l.map fun c => (c.toNat : Int)) (by simp)
      (fun i hi => by rw [hc i hi]; simp [List.getD_eq_getElem?_getD, hi]) 9 Tryd.underlying9
    rw [hx]
    congr 2
    simp [strOf, strOfNums, Function.comp_def]
theorem lit_row (w : World) (l : List UInt8) (fr : Nat × Nat) (h : l.length ≤ 1000) : BRow (w.alloc (.cells (l.map fun c => Value.int .u8 (c.toNat : Int)).toArray 5 fr)) (.slice (some ⟨w.heap.size, 0, none⟩) l.length l.length) l := by
  refine ⟨_, _, rfl, Nat.le_refl _, by unfold maxLen; omega, fun _ => ⟨_, _, rfl, by simp, fun i hi => ?_⟩⟩
  rw [World.cell?_alloc_mark]
  simp [hi]
theorem Tab.below {w w' : World} {B : Nat} (h : Tab w) (hb : Below B w w') (h0 : 0 < B) : Tab w' := fun i hi => (hb.cell (p := ⟨0, i, none⟩) h0).trans (h i hi)
theorem Tab.pos {w : World} (h : Tab w) : 0 < w.heap.size := World.block_lt_of_cell? w ⟨0, 0, none⟩ (h 0 (by decide))
theorem nil_row (w : World) : BRow w (.slice none 0 0) [] := ⟨none, 0, rfl, Nat.le_refl _, Nat.zero_le _, fun h => absurd rfl h⟩
theorem put_first : putL 258 2 = [1, 2] := by decide +kernel
theorem crc_first : crcN [49, 50, 51, 52, 53, 54, 55, 56, 57] = 3421780262 := by decide +kernel
theorem add_first : addI 2147483648 1 = 2147483648 := by decide +kernel
theorem turn_first : turnI 1 (-1 % 32) = 2147483648 := by decide +kernel
set_option maxHeartbeats 1000000 in
theorem first_calls (w : World) (ht : Tab w) : Calls Tryd.prog 5 #[] w fun e w' => e = .returned (.bool true) ∧ Below w.heap.size w w' := by
  have HT := hid ht
  clear ht
  go_enter Tryd.func5, Tryd.ntmps5
  go_wp2_with fail
  refine (put_ok 258 2 _ (by decide) (by decide) (by decide) (by decide)).mono ?_
  rintro e w1 ⟨⟨v, rfl, hv⟩, hb⟩
  rw [put_first] at hv
  have HV := hid hv
  have hr := run_string hv
  clear hv
  have hs : (strOf [1, 2]).toList = [1, 2] := by decide +kernel
  have hcv := fun (w : World) (C : Array Value) (n c : Nat) => Lib.run_convert_bytes_const (P := Tryd.prog) w 26 5 C n c Tryd.underlying26 Tryd.underlying5
  have hp := HT.out.pos
  have hT1 := hid (Tab.below HT.out hb hp)
  have hsz := hb.size
  clear HT HV
  go_wp2_with fail
  refine (crc_calls _ [49, 50, 51, 52, 53, 54, 55, 56, 57] _ (by exact (hT1.out).below ((Below.refl _ _).alloc (Nat.le_refl _) _) hT1.out.pos) (by exact lit_row _ [49, 50, 51, 52, 53, 54, 55, 56, 57] (9, 10) (by decide))).mono ?_
  rintro e w2 ⟨rfl, rfl⟩
  rw [crc_first]
  go_wp2_with fail
  refine (fnv_calls _ [] _ (by exact nil_row _)).mono ?_
  rintro e w2 ⟨rfl, rfl⟩
  rw [fnvBegin.out]
  go_wp2_with fail
  refine (add_calls _ _ _).mono ?_
  rintro e w2 ⟨rfl, rfl⟩
  rw [add_first]
  go_wp2_with fail
  refine (turn_calls _ _ _).mono ?_
  rintro e w2 ⟨rfl, rfl⟩
  rw [turn_first]
  go_wp2_with fail
  go_ret
  exact ⟨rfl, hb.alloc hsz _⟩
end Go.Proofs.YtbaomapkggomfabDoor
