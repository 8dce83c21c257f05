/- The walks of the plain functions of numbers: Clip, Add, Sub, Turn (the program's). -/
import Derived.Test.YtbaomapkggomfabDoorRows
import Derived.Test.YtbaomapkggomfabDoorPlainN
import Derived.WalkKit
import Derived.WalkSpells
import Derived.WalkLawsBesides
import Derived.Below
namespace Go.Proofs.YtbaomapkggomfabDoor
open Go.RowKit
set_option linter.unusedVariables false
theorem hid {p : Prop} (h : p) : Hid p := h
theorem ret_int {k : IntKind} {a b : Int} (h : a = b) : Ending.returned (.int k a) = .returned (.int k b) := by rw [h]

theorem clip_calls (n : Int) (w : World) : Calls Tryd.prog 8 #[.int .i64 n] w fun e w' => e = .returned (.int .i64 (clipI n)) ∧ w' = w := by
  go_enter Tryd.func8, Tryd.ntmps8
  go_wp2
  all_goals
    go_ret
    exact ⟨ret_int (by unfold clipI; omega), rfl⟩
theorem add_calls (a b : Int) (w : World) : Calls Tryd.prog 6 #[.int .i64 a, .int .i64 b] w fun e w' => e = .returned (.int .i64 (addI a b)) ∧ w' = w := by
  have ha := clip_bd a
  have hb := clip_bd b
  go_enter Tryd.func6, Tryd.ntmps6
  go_wp2_with fail
  refine (clip_calls _ _).mono ?_
  rintro e w' ⟨rfl, rfl⟩
  go_wp2_with fail
  refine (clip_calls _ _).mono ?_
  rintro e w' ⟨rfl, rfl⟩
  go_wp2_with fail
  refine (clip_calls _ _).mono ?_
  rintro e w' ⟨rfl, rfl⟩
  go_wp2_with fail
  go_ret
  exact ⟨rfl, rfl⟩
theorem turn_calls (x n : Int) (w : World) : Calls Tryd.prog 13 #[.int .u32 x, .int .i64 n] w fun e w' => e = .returned (.int .u32 (turnI x (n % 32))) ∧ w' = w := by
  have hb : bits .and .u32 (n % 4294967296) 31 = n % 32 := by
    obtain ⟨m, hm⟩ := Int.eq_ofNat_of_zero_le (show 0 ≤ n % 4294967296 by omega)
    rw [hm]
    rw [show (31 : Int) = ((31 : Nat) : Int) from rfl, u32_and_nat m 31 (by omega) (by omega), Nat.and_two_pow_sub_one_eq_mod m 5]
    omega
  have h0 : 0 ≤ n % 32 := by omega
  have h1 : n % 32 < 32 := by omega
  go_enter Tryd.func13, Tryd.ntmps13
  go_wp2
  go_ret
  exact ⟨rfl, rfl⟩
theorem sub_calls (a b : Int) (w : World) : Calls Tryd.prog 7 #[.int .i64 a, .int .i64 b] w fun e w' => e = .returned (.int .i64 (subI a b)) ∧ w' = w := by
  have ha := clip_bd a
  have hb := clip_bd b
  go_enter Tryd.func7, Tryd.ntmps7
  go_wp2_with fail
  refine (clip_calls _ _).mono ?_
  rintro e w' ⟨rfl, rfl⟩
  go_wp2_with fail
  refine (clip_calls _ _).mono ?_
  rintro e w' ⟨rfl, rfl⟩
  go_wp2_with fail
  refine (clip_calls _ _).mono ?_
  rintro e w' ⟨rfl, rfl⟩
  go_wp2_with fail
  go_ret
  exact ⟨rfl, rfl⟩
end Go.Proofs.YtbaomapkggomfabDoor
