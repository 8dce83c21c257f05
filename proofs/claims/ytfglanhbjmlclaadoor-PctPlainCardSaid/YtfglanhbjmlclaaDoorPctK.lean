/- The walk of the statement 'one byte', road by road. -/
import Derived.Test.YtfglanhbjmlclaaDoorPctH
import Derived.Deep.QuietTactic
import Derived.BigQuiet
namespace Go.Proofs.YtfglanhbjmlclaaDoor
open Go.RowKit
set_option linter.unusedVariables false
set_option maxRecDepth 20000
theorem cut_at (h : Nat) (hh : h < 16) (w : World) : (Instr.sliceAt 9 (.string ⟨#[48, 49, 50, 51, 52, 53, 54, 55, 56, 57, 65, 66, 67, 68, 69, 70]⟩) (some (.int .u8 (h : Int))) (some (.int .u8 ((h : Int) + 1))) none).run Tryd.prog w = .ok (.string (strOf [dgU h])) w := by
  obtain rfl | rfl | rfl | rfl | rfl | rfl | rfl | rfl | rfl | rfl | rfl | rfl | rfl | rfl | rfl | rfl : h = 0 ∨ h = 1 ∨ h = 2 ∨ h = 3 ∨ h = 4 ∨ h = 5 ∨ h = 6 ∨ h = 7 ∨ h = 8 ∨ h = 9 ∨ h = 10 ∨ h = 11 ∨ h = 12 ∨ h = 13 ∨ h = 14 ∨ h = 15 := by omega
  all_goals kernel_rfl
theorem cut_at2 (h : Nat) (hh : h < 16) (w : World) : (Instr.slice 9 (.string ⟨#[48, 49, 50, 51, 52, 53, 54, 55, 56, 57, 65, 66, 67, 68, 69, 70]⟩) (some (.int .u8 (h : Int))) (some (.int .u8 ((h : Int) + 1))) none).run Tryd.prog w = .ok (.string (strOf [dgU h])) w := by
  obtain rfl | rfl | rfl | rfl | rfl | rfl | rfl | rfl | rfl | rfl | rfl | rfl | rfl | rfl | rfl | rfl : h = 0 ∨ h = 1 ∨ h = 2 ∨ h = 3 ∨ h = 4 ∨ h = 5 ∨ h = 6 ∨ h = 7 ∨ h = 8 ∨ h = 9 ∨ h = 10 ∨ h = 11 ∨ h = 12 ∨ h = 13 ∨ h = 14 ∨ h = 15 := by omega
  all_goals kernel_rfl
theorem cat_one (a : UInt8) : (⟨#[37]⟩ : ByteArray) ++ strOf [a] = strOf [37, a] := by
  apply ByteArray.ext
  simp [strOf, ByteArray.data_append]
theorem cat_two (a b : UInt8) : strOf [37, a] ++ strOf [b] = strOf [37, a, b] := by
  apply ByteArray.ext
  simp [strOf, ByteArray.data_append]
theorem un_code (c : UInt8) : unR (strOf [37, dgU (c.toNat / 16), dgU (c.toNat % 16)]).data.toList = [c] := by
  show unR [37, dgU (c.toNat / 16), dgU (c.toNat % 16)] = [c]
  exact (unR_two (two_back c)).trans rfl
theorem pct_one (set : Int) (c : UInt8) : pctR set [c] = encP set c := by simp [pctR]
end Go.Proofs.YtfglanhbjmlclaaDoor
