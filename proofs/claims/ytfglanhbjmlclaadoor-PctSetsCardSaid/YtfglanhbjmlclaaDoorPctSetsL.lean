/- The walk of the statement 'any number and byte'. -/
import Derived.Test.YtfglanhbjmlclaaDoorPctA
import Derived.Test.YtfglanhbjmlclaaDoorPctH
namespace Go.Proofs.YtfglanhbjmlclaaDoor
open Go.RowKit
set_option linter.unusedVariables false
set_option maxRecDepth 20000
set_option maxHeartbeats 1000000 in
theorem pctSets_walk (set c : Int) (w : World) (ht : Tab w) (hset : -9223372036854775808 ≤ set ∧ set ≤ 9223372036854775807) (hc : 0 ≤ c ∧ c ≤ 255) :
    Calls Tryd.prog 3 #[.int .i64 set, .int .u8 c] w fun e w' => e = .returned (.bool true) ∧ Below w.heap.size w w' := by
  obtain ⟨n, rfl⟩ := Int.eq_ofNat_of_zero_le hc.1
  have hn : n < 256 := by omega
  have HT := hid ht
  have HN := hid hn
  clear ht hset hc hn
  go_enter Tryd.func3, Tryd.ntmps3
  go_wp2_with fail
  refine (pfirst_calls _ HT.out).mono ?_
  rintro e w1 ⟨rfl, hb1⟩
  have HB1 := hid hb1
  have HT1 := hid (HT.out.below hb1)
  clear hb1
  go_wp2_with fail
  refine (in_calls set n HN.out _ HT1.out).mono ?_
  rintro e w2 ⟨rfl, rfl⟩
  go_wp2_with fail
  refine (rin_calls set n HN.out _).mono ?_
  rintro e w2 ⟨rfl, rfl⟩
  generalize inR set n = b
  go_wp2_with fail
  go_ret
  exact ⟨by simp, HB1.out⟩
end Go.Proofs.YtfglanhbjmlclaaDoor
