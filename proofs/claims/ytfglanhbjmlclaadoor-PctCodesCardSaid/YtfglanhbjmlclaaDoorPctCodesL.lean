/- The walk of the statement 'any bytes by any set, any text decoded'. -/
import Derived.Test.YtfglanhbjmlclaaDoorPctE
import Derived.Test.YtfglanhbjmlclaaDoorPctG
import Derived.Test.YtfglanhbjmlclaaDoorPctH
namespace Go.Proofs.YtfglanhbjmlclaaDoor
open Go.RowKit
set_option linter.unusedVariables false
set_option maxRecDepth 20000
set_option maxHeartbeats 2000000 in
theorem pctCodes_walk (set : Int) (v : Value) (l : List UInt8) (s : ByteArray) (w : World) (ht : Tab w) (hset : -9223372036854775808 ≤ set ∧ set ≤ 9223372036854775807) (hv : BRow w v l) (hs : s.size ≤ maxLen) :
    Calls Tryd.prog 4 #[.int .i64 set, v, .string s] w fun e w' => e = .returned (.bool true) ∧ Below w.heap.size w w' := by
  have HT := hid ht
  have HV := hid hv
  obtain ⟨a, cap, rfl, h1, h2, h3⟩ := hv
  clear ht hset h3
  unfold maxLen at h2 hs
  by_cases hlen : l.length ≤ 8000 ∧ s.size ≤ 8000
  · obtain ⟨hl, hsl⟩ := hlen
    have l1 : ¬ (8000 : Int) < (l.length : Int) := by omega
    have l2 : ¬ (8000 : Int) < (s.size : Int) := by omega
    clear h1 h2 hs
    go_enter Tryd.func4, Tryd.ntmps4
    go_wp2_with fail
    refine (pfirst_calls _ HT.out).mono ?_
    rintro e w1 ⟨rfl, hb1⟩
    have HB1 := hid hb1
    have HT1 := hid (HT.out.below hb1)
    have HV1 := hid (HV.out.below hb1)
    clear hb1 HT HV
    go_wp2_with fail
    refine (copy_calls _ l _ HV1.out (by omega)).mono ?_
    rintro e w2 ⟨⟨vi, rfl, hi⟩, hb2⟩
    have HB2 := hid (below_trans HB1.out hb2)
    have HT2 := hid (HT1.out.below hb2)
    have HV2 := hid (HV1.out.below hb2)
    have HI2 := hid hi.row
    clear hb2 hi HB1 HT1 HV1
    go_wp2_with fail
    refine (pfirst_calls _ HT2.out).mono ?_
    rintro e w3 ⟨rfl, hb3⟩
    have HB3 := hid (below_trans HB2.out hb3)
    have HT3 := hid (HT2.out.below hb3)
    have HV3 := hid (HV2.out.below hb3)
    have HI3 := hid (HI2.out.below hb3)
    clear hb3 HB2 HT2 HV2 HI2
    go_wp2_with fail
    refine (encode_calls set _ l _ HT3.out HI3.out (by omega)).mono ?_
    rintro e w4 ⟨rfl, hb4⟩
    have HB4 := hid (below_trans HB3.out hb4)
    have HV4 := hid (HV3.out.below hb4)
    have HI4 := hid (HI3.out.below hb4)
    clear hb4 HB3 HV3 HI3 HT3
    go_wp2_with fail
    refine (percent_calls set _ l _ HV4.out (by omega)).mono ?_
    rintro e w5 ⟨rfl, hb5⟩
    have HB5 := hid (below_trans HB4.out hb5)
    have HV5 := hid (HV4.out.below hb5)
    have HI5 := hid (HI4.out.below hb5)
    clear hb5 HB4 HV4 HI4
    go_wp2_with fail
    refine (decode_calls s _ (by omega)).mono ?_
    rintro e w6 ⟨⟨vd, rfl, hd⟩, hb6⟩
    have HB6 := hid (below_trans HB5.out hb6)
    have HV6 := hid (HV5.out.below hb6)
    have HI6 := hid (HI5.out.below hb6)
    have HD6 := hid hd
    clear hb6 hd HB5 HV5 HI5
    go_wp2_with fail
    refine (unpercent_calls s _ (by omega)).mono ?_
    rintro e w7 ⟨⟨vu, rfl, hu⟩, hb7⟩
    have HB7 := hid (below_trans HB6.out hb7)
    have HV7 := hid (HV6.out.below hb7)
    have HI7 := hid (HI6.out.below hb7)
    have HD7 := hid (HD6.out.below hb7)
    have HU7 := hid hu
    clear hb7 hu HB6 HV6 HI6 HD6
    go_wp2_with fail
    refine (bytes_calls _ _ _ _ _ HD7.out HU7.out).mono ?_
    rintro e w8 ⟨rfl, rfl⟩
    rw [beq_self_eq_true]
    go_wp2_with fail
    refine (bytes_calls _ _ _ _ _ HI7.out HV7.out).mono ?_
    rintro e w8 ⟨rfl, rfl⟩
    rw [beq_self_eq_true]
    go_wp2_with fail
    go_ret
    exact ⟨rfl, HB7.out⟩
  · by_cases hl : (8000 : Int) < (l.length : Int)
    · clear hlen
      go_enter Tryd.func4, Tryd.ntmps4
      go_wp2_with fail
      refine (pfirst_calls _ HT.out).mono ?_
      rintro e w1 ⟨rfl, hb1⟩
      have HB1 := hid hb1
      have HT1 := hid (HT.out.below hb1)
      clear hb1
      go_wp2_with fail
      refine (pfirst_calls _ HT1.out).mono ?_
      rintro e w2 ⟨rfl, hb2⟩
      have HB2 := hid (below_trans HB1.out hb2)
      clear hb2
      go_wp2_with fail
      go_ret
      exact ⟨rfl, HB2.out⟩
    · have l2 : (8000 : Int) < (s.size : Int) := by omega
      clear hlen
      go_enter Tryd.func4, Tryd.ntmps4
      go_wp2_with fail
      refine (pfirst_calls _ HT.out).mono ?_
      rintro e w1 ⟨rfl, hb1⟩
      have HB1 := hid hb1
      have HT1 := hid (HT.out.below hb1)
      clear hb1
      go_wp2_with fail
      refine (pfirst_calls _ HT1.out).mono ?_
      rintro e w2 ⟨rfl, hb2⟩
      have HB2 := hid (below_trans HB1.out hb2)
      clear hb2
      go_wp2_with fail
      go_ret
      exact ⟨rfl, HB2.out⟩
end Go.Proofs.YtfglanhbjmlclaaDoor
