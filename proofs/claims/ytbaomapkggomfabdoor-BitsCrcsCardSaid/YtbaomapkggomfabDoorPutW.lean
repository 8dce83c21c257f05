/- The walk of Put (the program's). -/
import Derived.Test.YtbaomapkggomfabDoorSumsW
import Derived.OwnWalk
import Derived.Laws.MakeOwn
namespace Go.Proofs.YtbaomapkggomfabDoor
open Go.RowKit
set_option linter.unusedVariables false

/-- n in width bytes, the greatest first. -/
def putL (n width : Nat) : List UInt8 := (List.range width).map fun i => UInt8.ofNat (n / 256 ^ (width - 1 - i))

theorem put_bad (n width : Int) (w : World) (h : ¬ (1 ≤ width ∧ width ≤ 6) ∨ n < 0) :
    Calls Tryd.prog 11 #[.int .i64 n, .int .i64 width] w fun e w' => e = .returned (.tuple #[.slice none 0 0, .int .i64 1]) ∧ w' = w := by
  by_cases h1 : 1 ≤ width
  · by_cases h2 : width ≤ 6
    · have h3 : n < 0 := by omega
      clear h
      go_enter Tryd.func11, Tryd.ntmps11
      go_wp2
      go_ret2
      exact ⟨rfl, rfl⟩
    · clear h
      go_enter Tryd.func11, Tryd.ntmps11
      go_wp2
      go_ret2
      exact ⟨rfl, rfl⟩
  · clear h
    go_enter Tryd.func11, Tryd.ntmps11
    go_wp2
    go_ret2
    exact ⟨rfl, rfl⟩
theorem put_big (n width : Int) (w : World) (h1 : 1 ≤ width) (h2 : width ≤ 6) (h0 : 0 ≤ n) (hn : n ≤ 9223372036854775807) (h : (n / 2 ^ (8 * width).toNat == 0) = false) :
    Calls Tryd.prog 11 #[.int .i64 n, .int .i64 width] w fun e w' => e = .returned (.tuple #[.slice none 0 0, .int .i64 1]) ∧ w' = w := by
  go_enter Tryd.func11, Tryd.ntmps11
  go_wp2
  go_ret2
  exact ⟨rfl, rfl⟩
theorem info_u8 : (Tryd.prog.info? 5).map (fun i => (i.zero, i.size, i.bytes)) = some (some (.int .u8 0), 1, 1) := by kernel_rfl
theorem make_bytes (width : Nat) (hw : width ≤ 1000000) (w : World) : (Instr.makeSlice 26 (.int .i64 (width : Int)) (.int .i64 (width : Int))).run Tryd.prog w = .ok (.slice (some ⟨w.heap.size, 0, none⟩) width width) (w.alloc (.cells (madeCells #[.int .u8 0] width) 5)) := by
  obtain ⟨i0, hi, hz0, hz1, hz2⟩ := info_parts info_u8
  have h := run_make (P := Tryd.prog) w 26 5 i0 (.int .u8 0) Tryd.underlying26 hi hz0 .i64 .i64 (width : Int) (width : Int) (by omega) (by omega) (by rw [hz2]; omega) (by omega)
  rw [hz1] at h
  simpa [Value.cells] using h
/-- The cells from m on hold their bytes. -/
def PutAt (n width m : Nat) (arr : Array Value) : Prop := arr.size = width ∧ ∀ j, m ≤ j → j < width → arr[j]? = some (.int .u8 ((n / 256 ^ (width - 1 - j) % 256 : Nat) : Int))
theorem PutAt.start (n width : Nat) : PutAt n width width (madeCells #[.int .u8 0] width) := ⟨size_madeCells _ _, fun j h1 h2 => by omega⟩
theorem PutAt.step {n width m r : Nat} {arr : Array Value} (h : PutAt n width (m + 1) arr) (hm : m + 1 ≤ width) (hr : r = n / 256 ^ (width - (m + 1))) :
    PutAt n width m (arr.setIfInBounds m (.int .u8 ((r : Int) % 256))) := by
  refine ⟨by simpa using h.1, fun j h1 h2 => ?_⟩
  by_cases e : j = m
  · subst e
    rw [Array.getElem?_setIfInBounds_self_of_lt (by rw [h.1]; omega), hr, show width - (j + 1) = width - 1 - j by omega]
    rfl
  · rw [Array.getElem?_setIfInBounds_ne (by omega)]
    exact h.2 j (by omega) h2
theorem rest_step {n width m r : Nat} (hm : m + 1 ≤ width) (hr : r = n / 256 ^ (width - (m + 1))) : r / 256 = n / 256 ^ (width - m) := by
  rw [hr, Nat.div_div_eq_div_mul, ← Nat.pow_succ, show (width - (m + 1)).succ = width - m by omega]
theorem PutAt.row {n width : Nat} {arr : Array Value} (h : PutAt n width 0 arr) (hw : width ≤ 1000000) (w : World) : BRow (w.alloc (.cells arr 5)) (.slice (some ⟨w.heap.size, 0, none⟩) width width) (putL n width) := by
  have hl : (putL n width).length = width := by simp [putL]
  refine ⟨some ⟨w.heap.size, 0, none⟩, width, by rw [hl], by omega, by unfold maxLen; omega, fun _ => ⟨w.heap.size, 0, rfl, by simp, fun i hi => ?_⟩⟩
  have hc := h.2 i (Nat.zero_le _) (by omega)
  rw [World.cell?_alloc_at _ _ _ _ rfl, Nat.zero_add, hc]
  simp [putL]

set_option maxHeartbeats 400000 in
theorem put_ok (n width : Nat) (w : World) (h1 : 1 ≤ width) (h2 : width ≤ 6) (hn : n ≤ 9223372036854775807) (h : ((n : Int) / 2 ^ (8 * width) == 0) = true) :
    Calls Tryd.prog 11 #[.int .i64 n, .int .i64 width] w fun e w' => (∃ v, e = .returned (.tuple #[v, .int .i64 0]) ∧ BRow w' v (putL n width)) ∧ Below w.heap.size w w' := by
  have hmk := make_bytes width (by omega)
  go_enter Tryd.func11, Tryd.ntmps11
  go_wp2
  go_loopw [7, 8] (fun r i wr => ∃ (m q : Nat) (arr : Array Value), m ≤ width ∧ i = .int .i64 ((m : Int) - 1) ∧ q ≤ 9223372036854775807 ∧ q = n / 256 ^ (width - m) ∧ r = .int .u64 (q : Int) ∧ wr = w.alloc (.cells arr 5) ∧ PutAt n width m arr) (fun _ i _ => (intOf i + 1).toNat)
  case atStart => exact ⟨width, n, _, Nat.le_refl _, rfl, hn, by simp, rfl, rfl, PutAt.start n width⟩
  case round =>
    obtain ⟨m, q, arr, hm, rfl, hq, hr, rfl, rfl, hp⟩ := hrel
    have HR := hid hr
    have HP := hid hp
    have hsz := hp.1
    clear hr hp hmk h
    cases m with
    | zero =>
      clear hsz
      go_wp2
      go_ret2
      exact ⟨⟨_, rfl, PutAt.row HP.out (by omega) w⟩, (Below.refl _ _).alloc (Nat.le_refl _) _⟩
    | succ m =>
      have hlt : m < arr.size := by omega
      have HS := hid hsz
      clear hsz
      go_wp2
      go_roundw
      case rel => exact ⟨m, q / 256, _, by omega, rfl, by omega, rest_step hm HR.out, rfl, rfl, HP.out.step hm HR.out⟩
      case measure => simp [intOf]
end Go.Proofs.YtbaomapkggomfabDoor
