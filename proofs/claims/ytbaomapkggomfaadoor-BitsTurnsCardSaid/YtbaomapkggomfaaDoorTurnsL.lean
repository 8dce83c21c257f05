/- The walk of the statement on turns. -/
import Derived.Test.YtbaomapkggomfaaDoorFirstW
import Derived.Test.YtbaomapkggomfaaDoorPlainT
namespace Go.Proofs.YtbaomapkggomfaaDoor
open Go.RowKit
set_option linter.unusedVariables false
set_option maxHeartbeats 1000000 in
theorem bitsTurns_in (x n m : Int) (w : World) (ht : Tab w) (hx : 0 ≤ x ∧ x ≤ 4294967295) (n0 : -1000 ≤ n) (n1 : n ≤ 1000) (m0 : -1000 ≤ m) (m1 : m ≤ 1000) :
    Calls Tryd.prog 8 #[.int .u32 x, .int .i64 n, .int .i64 m] w fun e w' => e = .returned (.bool true) ∧ Below w.heap.size w w' := by
  have HT := hid ht
  have HX := hid hx
  clear ht hx
  go_enter Tryd.func8, Tryd.ntmps8
  go_wp2_with fail
  refine (first_calls _ HT.out).mono ?_
  rintro e w1 ⟨rfl, hb1⟩
  have HT1 := hid (Tab.below HT.out hb1 HT.out.pos)
  have HB1 := hid hb1
  clear hb1
  go_wp2_with fail
  refine (first_calls _ HT1.out).mono ?_
  rintro e w2 ⟨rfl, hb2⟩
  have HB2 := hid (below_trans HB1.out hb2)
  clear hb2 HT HT1 HB1
  go_wp2_with fail
  refine (turn_calls _ _ _).mono ?_
  rintro e w3 ⟨rfl, rfl⟩
  go_wp2_with fail
  refine (turn_calls _ _ _).mono ?_
  rintro e w3 ⟨rfl, rfl⟩
  rw [turn_back x n HX.out.1 HX.out.2]
  go_wp2_with fail
  refine (turn_calls _ _ _).mono ?_
  rintro e w3 ⟨rfl, rfl⟩
  rw [show (32 : Int) % 32 = 0 from rfl, turn_zero x HX.out.1 HX.out.2]
  go_wp2_with fail
  refine (turn_calls _ _ _).mono ?_
  rintro e w3 ⟨rfl, rfl⟩
  go_wp2_with fail
  refine (turn_calls _ _ _).mono ?_
  rintro e w3 ⟨rfl, rfl⟩
  rw [turn_add x n m HX.out.1 HX.out.2]
  go_wp2_with fail
  refine (turn_calls _ _ _).mono ?_
  rintro e w3 ⟨rfl, rfl⟩
  go_wp2_with fail
  go_ret
  exact ⟨rfl, HB2.out⟩
theorem bitsTurns_out (x n m : Int) (w : World) (ht : Tab w) (h : n < -1000 ∨ (-1000 ≤ n ∧ 1000 < n) ∨ (-1000 ≤ n ∧ n ≤ 1000 ∧ m < -1000) ∨ (-1000 ≤ n ∧ n ≤ 1000 ∧ -1000 ≤ m ∧ 1000 < m)) :
    Calls Tryd.prog 8 #[.int .u32 x, .int .i64 n, .int .i64 m] w fun e w' => e = .returned (.bool true) ∧ Below w.heap.size w w' := by
  have HT := hid ht
  clear ht
  rcases h with h | ⟨g1, h⟩ | ⟨g1, g2, h⟩ | ⟨g1, g2, g3, h⟩
  all_goals
    go_enter Tryd.func8, Tryd.ntmps8
    go_wp2_with fail
    refine (first_calls _ HT.out).mono ?_
    rintro e w1 ⟨rfl, hb1⟩
    have HT1 := hid (Tab.below HT.out hb1 HT.out.pos)
    have HB1 := hid hb1
    clear hb1
    go_wp2_with fail
    refine (first_calls _ HT1.out).mono ?_
    rintro e w2 ⟨rfl, hb2⟩
    have HB2 := hid (below_trans HB1.out hb2)
    clear hb2 HT HT1 HB1
    go_wp2_with fail
    go_ret
    exact ⟨rfl, HB2.out⟩
theorem bitsTurns_walk (x n m : Int) (w : World) (ht : Tab w) (hx : 0 ≤ x ∧ x ≤ 4294967295) (hn : -9223372036854775808 ≤ n ∧ n ≤ 9223372036854775807) (hm : -9223372036854775808 ≤ m ∧ m ≤ 9223372036854775807) :
    Calls Tryd.prog 8 #[.int .u32 x, .int .i64 n, .int .i64 m] w fun e w' => e = .returned (.bool true) ∧ Below w.heap.size w w' := by
  by_cases h : -1000 ≤ n ∧ n ≤ 1000 ∧ -1000 ≤ m ∧ m ≤ 1000
  · exact bitsTurns_in x n m w ht hx h.1 h.2.1 h.2.2.1 h.2.2.2
  · exact bitsTurns_out x n m w ht (by omega)
end Go.Proofs.YtbaomapkggomfaaDoor
