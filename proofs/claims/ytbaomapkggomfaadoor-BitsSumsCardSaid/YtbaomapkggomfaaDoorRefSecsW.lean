/- The walks of the document's own Clip, Add, Sub, Turn. -/
import Derived.Test.YtbaomapkggomfaaDoorSecsW
namespace Go.Proofs.YtbaomapkggomfaaDoor
open Go.RowKit
set_option linter.unusedVariables false
theorem rclip_calls (n : Int) (w : World) : Calls Tryd.prog 23 #[.int .i64 n] w fun e w' => e = .returned (.int .i64 (clipI n)) ∧ w' = w := by
  go_enter Tryd.func23, Tryd.ntmps23
  go_wp2
  all_goals
    go_ret
    exact ⟨ret_int (by unfold clipI; omega), rfl⟩
theorem radd_calls (a b : Int) (w : World) : Calls Tryd.prog 25 #[.int .i64 a, .int .i64 b] w fun e w' => e = .returned (.int .i64 (addI a b)) ∧ w' = w := by
  have ha := clip_bd a
  have hb := clip_bd b
  have HE := hid (show addI a b = min (clipI a + clipI b) 2147483648 by unfold addI; generalize clipI a = x at *; generalize clipI b = y at *; unfold clipI; omega)
  go_enter Tryd.func25, Tryd.ntmps25
  go_wp2_with fail
  refine (rclip_calls _ _).mono ?_
  rintro e w' ⟨rfl, rfl⟩
  go_wp2_with fail
  refine (rclip_calls _ _).mono ?_
  rintro e w' ⟨rfl, rfl⟩
  go_wp2_with fail
  all_goals
    go_ret
    exact ⟨ret_int (by rw [HE.out]; omega), rfl⟩
theorem rsub_calls (a b : Int) (w : World) : Calls Tryd.prog 27 #[.int .i64 a, .int .i64 b] w fun e w' => e = .returned (.int .i64 (subI a b)) ∧ w' = w := by
  have ha := clip_bd a
  have hb := clip_bd b
  have HE := hid (show subI a b = max (clipI a - clipI b) 0 by unfold subI; generalize clipI a = x at *; generalize clipI b = y at *; unfold clipI; omega)
  go_enter Tryd.func27, Tryd.ntmps27
  go_wp2_with fail
  refine (rclip_calls _ _).mono ?_
  rintro e w' ⟨rfl, rfl⟩
  go_wp2_with fail
  refine (rclip_calls _ _).mono ?_
  rintro e w' ⟨rfl, rfl⟩
  go_wp2_with fail
  all_goals
    go_ret
    exact ⟨ret_int (by rw [HE.out]; omega), rfl⟩
theorem tmod32 (n : Int) : n.tmod 32 = if 0 ≤ n then n % 32 else -((-n) % 32) := by
  split
  · rename_i h; exact Int.tmod_eq_emod_of_nonneg h
  · rename_i h
    have : n = -(-n) := by omega
    rw [this, Int.neg_tmod, Int.tmod_eq_emod_of_nonneg (by omega)]
    simp
theorem ref_turn (n : Int) : IntKind.u64.wrap ((wrap64 (n.tmod 32 + 32)).tmod 32) = n % 32 := by
  have ht := tmod32 n
  have b0 : -32 < n.tmod 32 := by rw [ht]; split <;> omega
  have b1 : n.tmod 32 < 32 := by rw [ht]; split <;> omega
  have hm : (n.tmod 32 + 32) % 32 = n % 32 := by rw [ht]; split <;> omega
  generalize n.tmod 32 = y at *
  have hw : wrap64 (y + 32) = y + 32 := by unfold wrap64; omega
  rw [hw, Int.tmod_eq_emod_of_nonneg (by omega), hm]
  simp [IntKind.wrap, IntKind.bits, IntKind.signed]
  omega
theorem ref_turn2 (n : Int) : IntKind.u64.wrap (32 - n % 32) = 32 - n % 32 := by
  simp [IntKind.wrap, IntKind.bits, IntKind.signed]
  omega
theorem rturn_calls (x n : Int) (w : World) : Calls Tryd.prog 21 #[.int .u32 x, .int .i64 n] w fun e w' => e = .returned (.int .u32 (turnI x (n % 32))) ∧ w' = w := by
  go_enter Tryd.func21, Tryd.ntmps21
  go_wp2
  go_ret
  refine ⟨ret_int ?_, rfl⟩
  rw [ref_turn, ref_turn2]
  unfold turnI
  rw [show min (n % 32).toNat 32 = (n % 32).toNat by omega, show min (32 - n % 32).toNat 32 = (32 - n % 32).toNat by omega]
end Go.Proofs.YtbaomapkggomfaaDoor
