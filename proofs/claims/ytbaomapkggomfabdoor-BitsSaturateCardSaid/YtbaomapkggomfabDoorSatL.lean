/- The walk of the statement on sums that saturate. -/
import Derived.Test.YtbaomapkggomfabDoorFirstW
namespace Go.Proofs.YtbaomapkggomfabDoor
open Go.RowKit
set_option linter.unusedVariables false
theorem add_bd (a b : Int) : 0 ≤ addI a b ∧ addI a b ≤ 2147483648 := clip_bd _
theorem sub_bd (a b : Int) : 0 ≤ subI a b ∧ subI a b ≤ 2147483648 := clip_bd _
theorem add_comm' (a b : Int) : addI b a = addI a b := by unfold addI; rw [Int.add_comm]
theorem add_assoc' (a b c : Int) : addI a (addI b c) = addI (addI a b) c := by unfold addI clipI; omega
theorem add_more (a b c : Int) : addI a b ≤ addI (addI a b) c := by unfold addI clipI; omega
theorem add_less (a b : Int) : subI (addI a b) a ≤ clipI b := by unfold subI addI clipI; omega
theorem clip_add (a b : Int) : clipI (addI a b) = addI a b := clip_id (add_bd a b).1 (add_bd a b).2
set_option maxHeartbeats 1000000 in
theorem bitsSaturate_walk (a b c : Int) (w : World) (ht : Tab w) (ha : -9223372036854775808 ≤ a ∧ a ≤ 9223372036854775807) (hb : -9223372036854775808 ≤ b ∧ b ≤ 9223372036854775807) (hc : -9223372036854775808 ≤ c ∧ c ≤ 9223372036854775807) :
    Calls Tryd.prog 3 #[.int .i64 a, .int .i64 b, .int .i64 c] w fun e w' => e = .returned (.bool true) ∧ Below w.heap.size w w' := by
  have HT := hid ht
  clear ht ha hb hc
  obtain ⟨s0, s1⟩ := add_bd a b
  obtain ⟨d0, d1⟩ := sub_bd a b
  have more := add_more a b c
  have less := add_less a b
  go_enter Tryd.func3, Tryd.ntmps3
  go_wp2_with fail
  refine (first_calls _ HT.out).mono ?_
  rintro e w1 ⟨rfl, hb1⟩
  have HT1 := hid (Tab.below HT.out hb1 HT.out.pos)
  have HB1 := hid hb1
  clear hb1
  go_wp2_with fail
  refine (add_calls _ _ _).mono ?_
  rintro e w3 ⟨rfl, rfl⟩
  go_wp2_with fail
  refine (add_calls _ _ _).mono ?_
  rintro e w3 ⟨rfl, rfl⟩
  go_wp2_with fail
  refine (add_calls _ _ _).mono ?_
  rintro e w3 ⟨rfl, rfl⟩
  go_wp2_with fail
  refine (sub_calls _ _ _).mono ?_
  rintro e w3 ⟨rfl, rfl⟩
  go_wp2_with fail
  refine (first_calls _ HT1.out).mono ?_
  rintro e w2 ⟨rfl, hb2⟩
  have HB2 := hid (below_trans HB1.out hb2)
  clear hb2 HT HT1 HB1
  go_wp2_with fail
  refine (add_calls _ _ _).mono ?_
  rintro e w3 ⟨rfl, rfl⟩
  rw [add_comm' a b]
  go_wp2_with fail
  refine (add_calls _ _ _).mono ?_
  rintro e w3 ⟨rfl, rfl⟩
  go_wp2_with fail
  refine (add_calls _ _ _).mono ?_
  rintro e w3 ⟨rfl, rfl⟩
  rw [add_assoc' a b c]
  go_wp2_with fail
  refine (add_calls _ _ _).mono ?_
  rintro e w3 ⟨rfl, rfl⟩
  go_wp2_with fail
  refine (sub_calls _ _ _).mono ?_
  rintro e w3 ⟨rfl, rfl⟩
  go_wp2_with fail
  refine (clip_calls _ _).mono ?_
  rintro e w3 ⟨rfl, rfl⟩
  go_wp2_with fail
  refine (clip_calls _ _).mono ?_
  rintro e w3 ⟨rfl, rfl⟩
  rw [clip_add a b]
  go_wp2_with fail
  go_ret
  exact ⟨rfl, HB2.out⟩
end Go.Proofs.YtbaomapkggomfabDoor
