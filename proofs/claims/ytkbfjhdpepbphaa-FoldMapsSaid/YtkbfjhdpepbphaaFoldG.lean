/- Is a sign in a range? -/
import Derived.Test.YtkbfjhdpepbphaaUtfS
import Derived.Test.YtkbfjhdpepbphaaFoldQ
namespace Go.Proofs.Ytkbfjhdpepbphaa
open Go.RowKit
set_option linter.unusedVariables false
theorem within_t (c lo hi : Int) (w : World) (h1 : lo ≤ c) (h2 : c ≤ hi) : Calls Try.prog 18 #[.int .i64 c, .int .i64 lo, .int .i64 hi] w fun e w' => e = .returned (.bool true) ∧ w' = w := by
  go_enter Try.func18, Try.ntmps18
  go_wp2
  go_ret
  exact ⟨rfl, rfl⟩
theorem within_f (c lo hi : Int) (w : World) (h : c < lo ∨ hi < c) : Calls Try.prog 18 #[.int .i64 c, .int .i64 lo, .int .i64 hi] w fun e w' => e = .returned (.bool false) ∧ w' = w := by
  by_cases h1 : lo ≤ c
  · have h2 : ¬ c ≤ hi := by omega
    clear h
    go_enter Try.func18, Try.ntmps18
    go_wp2
    go_ret
    exact ⟨rfl, rfl⟩
  · clear h
    go_enter Try.func18, Try.ntmps18
    go_wp2
    go_ret
    exact ⟨rfl, rfl⟩
end Go.Proofs.Ytkbfjhdpepbphaa
