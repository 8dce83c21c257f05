/- The walk of the statement 'any signs, any letters'. -/
import Derived.Test.YtpjajiilgojbgaaPunyZ
import Derived.Test.YtpjajiilgojbgaaPunyVz
import Derived.Test.YtpjajiilgojbgaaPunyYz
namespace Go.Proofs.Ytpjajiilgojbgaa
open Go.RowKit
set_option linter.unusedVariables false
set_option maxRecDepth 20000 in
set_option maxHeartbeats 8000000 in
theorem punyCodes_walk (va : Value) (l : List Int) (s : ByteArray) (w : World) (ha : IRow w va l) (hs : s.size ≤ maxLen) :
    Calls Try.prog 3 #[va, .string s] w fun e w' => e = .returned (.bool true) ∧ Below w.heap.size w w' := by
  have HA := hid ha
  have HS := hid hs
  obtain ⟨a, cap, rfl, h1, h2, h3⟩ := ha
  unfold maxLen at h2 hs
  have l2 : (l.length : Int) ≤ (cap : Int) := by omega
  have l3 : (cap : Int) ≤ 9223372036854775807 := by omega
  have s3 : (s.size : Int) ≤ 9223372036854775807 := by omega
  clear h1 h2 h3 hs
  by_cases hlong : 300 < l.length
  · have g : (300 : Int) < (l.length : Int) := by omega
    clear hlong
    go_enter Try.func3, Try.ntmps3
    go_wp2_with fail
    refine (first_calls _).mono ?_
    rintro e w1 ⟨rfl, hb1⟩
    have HB1 := hid hb1
    clear hb1
    go_wp2_with fail
    refine (first_calls _).mono ?_
    rintro e w2 ⟨rfl, hb2⟩
    have HB2 := hid (below_trans HB1.out hb2)
    clear hb2
    go_wp2_with fail
    go_ret
    exact ⟨rfl, HB2.out⟩
  · have g : ¬ (300 : Int) < (l.length : Int) := by omega
    by_cases hlong2 : 5000 < s.size
    · have g2 : (5000 : Int) < (s.size : Int) := by omega
      clear hlong hlong2
      go_enter Try.func3, Try.ntmps3
      go_wp2_with fail
      refine (first_calls _).mono ?_
      rintro e w1 ⟨rfl, hb1⟩
      have HB1 := hid hb1
      clear hb1
      go_wp2_with fail
      refine (first_calls _).mono ?_
      rintro e w2 ⟨rfl, hb2⟩
      have HB2 := hid (below_trans HB1.out hb2)
      clear hb2
      go_wp2_with fail
      go_ret
      exact ⟨rfl, HB2.out⟩
    · have g2 : ¬ (5000 : Int) < (s.size : Int) := by omega
      have HL : Hid (l.length ≤ 100000) := by show _ ≤ _; omega
      have e0 := strOf_list []
      have HIl := hid (fun vx vy w0 => ints_calls vx vy l l w0)
      rw [beq_self_eq_true] at HIl
      have HId := hid (fun vx vy w0 => ints_calls vx vy (ints (decR s).1) (ints (decR s).1) w0)
      rw [beq_self_eq_true] at HId
      clear hlong hlong2
      go_enter Try.func3, Try.ntmps3
      go_wp2_with fail
      refine (first_calls _).mono ?_
      rintro e w1 ⟨rfl, hb1⟩
      have HB1 := hid hb1
      have HA1 := hid (HA.out.below hb1)
      clear hb1 HA
      go_wp2_with fail
      refine (copyI_calls _ l _ HA1.out HL.out).mono ?_
      rintro e w2 ⟨⟨vi, rfl, hv2⟩, hb2⟩
      have HB2 := hid (below_trans HB1.out hb2)
      have HA2 := hid (HA1.out.below hb2)
      have HI2 := hid hv2.row
      clear hb2 HB1 HA1 hv2
      go_wp2_with fail
      refine (encode_calls _ l _ HI2.out).mono ?_
      rintro e w3 ⟨rfl, hb3⟩
      have HB3 := hid (below_trans HB2.out hb3)
      have HA3 := hid (HA2.out.below hb3)
      have HI3 := hid (HI2.out.below hb3)
      clear hb3 HB2 HA2 HI2
      go_wp2_with fail
      refine (puny_calls _ l _ HA3.out).mono ?_
      rintro e w4 ⟨rfl, hb4⟩
      have HB4 := hid (below_trans HB3.out hb4)
      have HA4 := hid (HA3.out.below hb4)
      have HI4 := hid (HI3.out.below hb4)
      clear hb4 HB3 HA3 HI3
      generalize encR l = X at *
      go_wp2_with fail
      refine (decode_calls s _ HS.out).mono ?_
      rintro e w5 ⟨⟨vu, rfl, hu⟩, hb5⟩
      have HB5 := hid (below_trans HB4.out hb5)
      have HA5 := hid (HA4.out.below hb5)
      have HI5 := hid (HI4.out.below hb5)
      have HU5 := hid hu
      clear hb5 HB4 HA4 HI4 hu
      go_wp2_with fail
      refine (unpuny_calls s _ HS.out).mono ?_
      rintro e w6 ⟨⟨vv, rfl, hv⟩, hb6⟩
      have HB6 := hid (below_trans HB5.out hb6)
      have HA6 := hid (HA5.out.below hb6)
      have HI6 := hid (HI5.out.below hb6)
      have HU6 := hid (HU5.out.below hb6)
      have HV6 := hid hv
      clear hb6 HB5 HA5 HI5 HU5 hv
      generalize decR s = D at *
      go_wp2_with fail
      refine (first_calls _).mono ?_
      rintro e w7 ⟨rfl, hb7⟩
      have HB7 := hid (below_trans HB6.out hb7)
      have HA7 := hid (HA6.out.below hb7)
      have HI7 := hid (HI6.out.below hb7)
      have HU7 := hid (HU6.out.below hb7)
      have HV7 := hid (HV6.out.below hb7)
      clear hb7 HB6 HA6 HI6 HU6 HV6
      go_wp2_with fail
      refine (HId.out _ _ _ HU7.out HV7.out).mono ?_
      rintro e w8 ⟨rfl, hb8⟩
      have HB8 := hid (below_trans HB7.out hb8)
      have HA8 := hid (HA7.out.below hb8)
      have HI8 := hid (HI7.out.below hb8)
      clear hb8 HB7 HA7 HI7 HU7 HV7
      go_wp2_with fail
      refine (HIl.out _ _ _ HI8.out HA8.out).mono ?_
      rintro e w9 ⟨rfl, hb9⟩
      have HB9 := hid (below_trans HB8.out hb9)
      clear hb9
      go_wp2_with fail
      go_ret
      exact ⟨rfl, HB9.out⟩
end Go.Proofs.Ytpjajiilgojbgaa
