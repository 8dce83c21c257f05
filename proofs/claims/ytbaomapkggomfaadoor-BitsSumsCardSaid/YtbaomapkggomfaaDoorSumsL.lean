/- The walk of the statement on sums. -/
import Derived.Test.YtbaomapkggomfaaDoorFirstW
import Derived.Test.YtbaomapkggomfaaDoorRefSecsW
import Derived.Test.YtbaomapkggomfaaDoorRefSumsW
namespace Go.Proofs.YtbaomapkggomfaaDoor
open Go.RowKit
set_option linter.unusedVariables false
set_option maxHeartbeats 1000000 in
theorem bitsSums_walk (v : Value) (l : List UInt8) (x n : Int) (w : World) (ht : Tab w) (hv : BRow w v l) (hx : 0 ≤ x ∧ x ≤ 4294967295) (hn : -9223372036854775808 ≤ n ∧ n ≤ 9223372036854775807) :
    Calls Tryd.prog 4 #[v, .int .u32 x, .int .i64 n] w fun e w' => e = .returned (.bool true) ∧ Below w.heap.size w w' := by
  have HT := hid ht
  have HV := hid hv
  obtain ⟨a, cap, rfl, h1, h2, h3⟩ := hv
  clear ht hx hn h3
  unfold maxLen at h2
  by_cases hl : l.length ≤ 8000
  · go_enter Tryd.func4, Tryd.ntmps4
    go_wp2_with fail
    refine (first_calls _ HT.out).mono ?_
    rintro e w1 ⟨rfl, hb1⟩
    have HT1 := hid (Tab.below HT.out hb1 HT.out.pos)
    have HB1 := hid hb1
    clear hb1
    go_wp2_with fail
    refine (first_calls _ HT1.out).mono ?_
    rintro e w2 ⟨rfl, hb2⟩
    have HT2 := hid (Tab.below HT1.out hb2 HT1.out.pos)
    have HB2 := hid (below_trans HB1.out hb2)
    have HV2 := hid (HV.out.below HB2.out)
    clear hb2 HT HT1 HB1 HV
    go_wp2_with fail
    refine (crc_calls _ l _ HT2.out HV2.out).mono ?_
    rintro e w3 ⟨rfl, rfl⟩
    go_wp2_with fail
    refine (rcrc_calls _ l _ HV2.out).mono ?_
    rintro e w3 ⟨rfl, rfl⟩
    go_wp2_with fail
    refine (fnv_calls _ l _ HV2.out).mono ?_
    rintro e w3 ⟨rfl, rfl⟩
    go_wp2_with fail
    refine (rfnv_calls _ l _ HV2.out).mono ?_
    rintro e w3 ⟨rfl, rfl⟩
    go_wp2_with fail
    refine (turn_calls _ _ _).mono ?_
    rintro e w3 ⟨rfl, rfl⟩
    go_wp2_with fail
    refine (rturn_calls _ _ _).mono ?_
    rintro e w3 ⟨rfl, rfl⟩
    go_wp2_with fail
    go_ret
    exact ⟨rfl, HB2.out⟩
  · go_enter Tryd.func4, Tryd.ntmps4
    go_wp2_with fail
    refine (first_calls _ HT.out).mono ?_
    rintro e w1 ⟨rfl, hb1⟩
    have HT1 := hid (Tab.below HT.out hb1 HT.out.pos)
    have HB1 := hid hb1
    clear hb1
    go_wp2_with fail
    refine (first_calls _ HT1.out).mono ?_
    rintro e w2 ⟨rfl, hb2⟩
    have HB2 := hid (below_trans HB1.out hb2)
    clear hb2 HT HT1 HB1
    go_wp2_with fail
    go_ret
    exact ⟨rfl, HB2.out⟩
end Go.Proofs.YtbaomapkggomfaaDoor
