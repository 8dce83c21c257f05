/- The walk of the statement 'any signs, any name'. -/
import Derived.Test.YtkpkfcoljccimaaDoorIdnaQX
import Derived.Test.YtkpkfcoljccimaaDoorBundH
import Derived.Test.YtkpkfcoljccimaaDoorBundA
namespace Go.Proofs.YtkpkfcoljccimaaDoor
open Go.RowKit
set_option linter.unusedVariables false
set_option maxRecDepth 20000
set_option maxRecDepth 20000 in
set_option maxHeartbeats 16000000 in
theorem idnaNames_walk (va : Value) (l : List Int) (s : ByteArray) (w : World) (ha : IRow w va l) (hsm : s.size ≤ maxLen) :
    Calls Tryd.prog 3 #[va, .string s] w fun e w' => e = .returned (.bool true) ∧ Below w.heap.size w w' := by
  have HV := hid ha
  obtain ⟨a, cap, rfl, h1, h2, h3⟩ := ha
  unfold maxLen at h2 hsm
  have l2 : (l.length : Int) ≤ (cap : Int) := by omega
  have l3 : (cap : Int) ≤ 9223372036854775807 := by omega
  have s1 : (s.size : Int) ≤ 9223372036854775807 := by omega
  clear h1 h2 h3 hsm
  by_cases hlong : 300 < l.length
  · have g : (300 : Int) < (l.length : Int) := by omega
    clear hlong
    go_enter Tryd.func3, Tryd.ntmps3
    go_wp2_with fail
    refine (ifirst_calls _).mono ?_
    rintro e w1 ⟨rfl, hb1⟩
    have HB1 := hid hb1
    clear hb1
    go_wp2_with fail
    refine (ifirst_calls _).mono ?_
    rintro e w2 ⟨rfl, hb2⟩
    have HB2 := hid (below_trans HB1.out hb2)
    clear hb2
    go_wp2_with fail
    go_ret
    exact ⟨rfl, HB2.out⟩
  · by_cases hbig : 5000 < s.size
    · have g : ¬ (300 : Int) < (l.length : Int) := by omega
      have g2 : (5000 : Int) < (s.size : Int) := by omega
      clear hlong hbig
      go_enter Tryd.func3, Tryd.ntmps3
      go_wp2_with fail
      refine (ifirst_calls _).mono ?_
      rintro e w1 ⟨rfl, hb1⟩
      have HB1 := hid hb1
      clear hb1
      go_wp2_with fail
      refine (ifirst_calls _).mono ?_
      rintro e w2 ⟨rfl, hb2⟩
      have HB2 := hid (below_trans HB1.out hb2)
      clear hb2
      go_wp2_with fail
      go_ret
      exact ⟨rfl, HB2.out⟩
    · have g : decide ((300 : Int) < (l.length : Int)) = false := decide_eq_false (by omega)
      have g2 : decide ((5000 : Int) < (s.size : Int)) = false := decide_eq_false (by omega)
      have HCp := hid (fun v w' hv => copyI_calls v l w' hv (by omega))
      have HA1 := hid (fun v w' hv => iascii_calls v l w' hv)
      have HA2 := hid (fun v w' hv => rascii_name_calls v l w' hv)
      have HL1 := hid (fun v w' hv => label_calls v l w' hv (by omega))
      have HL2 := hid (fun v w' hv => rlabel_calls v l w' hv (by omega))
      have HU1 := hid (fun w' => iunicode_calls s w' (by omega))
      have HU2 := hid (fun w' => runicode_calls s w' (by omega))
      generalize ascR l = X at *
      obtain ⟨x, e1⟩ := X
      generalize labR l = Y at *
      obtain ⟨y, e2⟩ := Y
      generalize uniR s = U at *
      simp only at HA1 HA2 HL1 HL2
      clear hlong hbig
      go_enter Tryd.func3, Tryd.ntmps3
      go_wp2_with fail
      refine (ifirst_calls _).mono ?_
      rintro e w1 ⟨rfl, hb1⟩
      have HB1 := hid hb1
      have HV1 := hid (HV.out.below hb1)
      clear hb1
      go_wp2_with fail
      refine (HCp.out _ _ HV1.out).mono ?_
      rintro e w2 ⟨⟨vi, rfl, ho⟩, hb2⟩
      have HB2 := hid (below_trans HB1.out hb2)
      have HV2 := hid (HV1.out.below hb2)
      have HI2 := hid ho.row
      clear hb2 ho HB1 HV1
      go_wp2_with fail
      refine (HA1.out _ _ HI2.out).mono ?_
      rintro e w3 ⟨rfl, hb3⟩
      have HB3 := hid (below_trans HB2.out hb3)
      have HV3 := hid (HV2.out.below hb3)
      have HI3 := hid (HI2.out.below hb3)
      clear hb3 HB2 HV2 HI2
      go_wp2_with fail
      refine (HA2.out _ _ HV3.out).mono ?_
      rintro e w4 ⟨rfl, hb4⟩
      have HB4 := hid (below_trans HB3.out hb4)
      have HV4 := hid (HV3.out.below hb4)
      have HI4 := hid (HI3.out.below hb4)
      clear hb4 HB3 HV3 HI3
      go_wp2_with fail
      refine (HL1.out _ _ HI4.out).mono ?_
      rintro e w5 ⟨rfl, hb5⟩
      have HB5 := hid (below_trans HB4.out hb5)
      have HV5 := hid (HV4.out.below hb5)
      have HI5 := hid (HI4.out.below hb5)
      clear hb5 HB4 HV4 HI4
      go_wp2_with fail
      refine (HL2.out _ _ HV5.out).mono ?_
      rintro e w6 ⟨rfl, hb6⟩
      have HB6 := hid (below_trans HB5.out hb6)
      have HV6 := hid (HV5.out.below hb6)
      have HI6 := hid (HI5.out.below hb6)
      clear hb6 HB5 HV5 HI5
      go_wp2_with fail
      refine (ifirst_calls _).mono ?_
      rintro e w7 ⟨rfl, hb7⟩
      have HB7 := hid (below_trans HB6.out hb7)
      have HV7 := hid (HV6.out.below hb7)
      have HI7 := hid (HI6.out.below hb7)
      clear hb7 HB6 HV6 HI6
      go_wp2_with fail
      refine (HU1.out _).mono ?_
      rintro e w8 ⟨⟨vu, rfl, hou⟩, hb8⟩
      have HB8 := hid (below_trans HB7.out hb8)
      have HV8 := hid (HV7.out.below hb8)
      have HI8 := hid (HI7.out.below hb8)
      have HP8 := hid hou.row
      clear hb8 hou HB7 HV7 HI7
      go_wp2_with fail
      refine (HU2.out _).mono ?_
      rintro e w9 ⟨⟨vr, rfl, hor⟩, hb9⟩
      have HB9 := hid (below_trans HB8.out hb9)
      have HV9 := hid (HV8.out.below hb9)
      have HI9 := hid (HI8.out.below hb9)
      have HP9 := hid (HP8.out.below hb9)
      have HR9 := hid hor.row
      clear hb9 hor HB8 HV8 HI8 HP8
      go_wp2_with fail
      refine (ints_calls _ _ U U _ HP9.out HR9.out).mono ?_
      rintro e w10 ⟨rfl, hb10⟩
      rw [beq_self_eq_true]
      have HB10 := hid (below_trans HB9.out hb10)
      have HV10 := hid (HV9.out.below hb10)
      have HI10 := hid (HI9.out.below hb10)
      clear hb10 HB9 HV9 HI9 HP9 HR9
      go_wp2_with fail
      refine (ints_calls _ _ l l _ HI10.out HV10.out).mono ?_
      rintro e w11 ⟨rfl, hb11⟩
      rw [beq_self_eq_true]
      have HB11 := hid (below_trans HB10.out hb11)
      clear hb11 HB10 HV10 HI10
      go_wp2_with fail
      go_ret
      exact ⟨rfl, HB11.out⟩
end Go.Proofs.YtkpkfcoljccimaaDoor
