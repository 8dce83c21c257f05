/- The walk of the statement on digits and texts. -/
import Derived.Test.YtbaomapkggomfaaDoorRefUnhexW
namespace Go.Proofs.YtbaomapkggomfaaDoor
open Go.RowKit
set_option linter.unusedVariables false
theorem unhex_same {bs o1 o2 : List UInt8} {k1 k2 : Bool} (h1 : (k1 = true ∧ hexL o1 = bs) ∨ (k1 = false ∧ o1 = [] ∧ ∀ l, hexL l ≠ bs)) (h2 : (k2 = true ∧ hexL o2 = bs) ∨ (k2 = false ∧ o2 = [] ∧ ∀ l, hexL l ≠ bs)) : o2 = o1 ∧ k2 = k1 := by
  rcases h1 with ⟨rfl, h1⟩ | ⟨rfl, rfl, h1⟩ <;> rcases h2 with ⟨rfl, h2⟩ | ⟨rfl, rfl, h2⟩
  · exact ⟨hex_inj (h2.trans h1.symm), rfl⟩
  · exact absurd h1 (h2 o1)
  · exact absurd h2 (h1 o2)
  · exact ⟨rfl, rfl⟩
set_option maxHeartbeats 1000000 in
theorem bitsTexts_walk (v : Value) (l : List UInt8) (s : ByteArray) (w : World) (ht : Tab w) (hv : BRow w v l) (hs : s.size ≤ maxLen) :
    Calls Tryd.prog 6 #[v, .string s] w fun e w' => e = .returned (.bool true) ∧ Below w.heap.size w w' := by
  have HT := hid ht
  have HV := hid hv
  obtain ⟨a, cap, rfl, c1, c2, c3⟩ := hv
  clear ht c3
  unfold maxLen at c2 hs
  by_cases hl : l.length ≤ 8000 ∧ s.size ≤ 8000
  · obtain ⟨hl, hs8⟩ := hl
    go_enter Tryd.func6, Tryd.ntmps6
    go_wp2_with fail
    refine (first_calls _ HT.out).mono ?_
    rintro e w1 ⟨rfl, hb1⟩
    have HT1 := hid (Tab.below HT.out hb1 HT.out.pos)
    have HB1 := hid hb1
    have HV1 := hid (HV.out.below hb1)
    clear hb1 HT HV
    go_wp2_with fail
    refine (unhex_calls s _ (by omega)).mono ?_
    rintro e w2 ⟨⟨xv, o1, k1, rfl, hx, p1⟩, hb2⟩
    have HX2 := hid hx
    have HP1 := hid p1
    have HT2 := hid (Tab.below HT1.out hb2 HT1.out.pos)
    have HV2 := hid (HV1.out.below hb2)
    have HB2 := hid (below_trans HB1.out hb2)
    clear hb2 hx HT1 HV1 HB1 p1
    go_wp2_with fail
    refine (runhex_calls s _ (by omega)).mono ?_
    rintro e w3 ⟨⟨yv, o2, k2, rfl, hy, p2⟩, hb3⟩
    obtain ⟨rfl, rfl⟩ := unhex_same HP1.out p2
    have HY3 := hid hy
    have HX3 := hid (HX2.out.below hb3)
    have HT3 := hid (Tab.below HT2.out hb3 HT2.out.pos)
    have HV3 := hid (HV2.out.below hb3)
    have HB3 := hid (below_trans HB2.out hb3)
    clear hb3 hy HT2 HV2 HB2 HX2 HP1 p2
    go_wp2_with fail
    refine (first_calls _ HT3.out).mono ?_
    rintro e w4 ⟨rfl, hb4⟩
    have HY4 := hid (HY3.out.below hb4)
    have HX4 := hid (HX3.out.below hb4)
    have HV4 := hid (HV3.out.below hb4)
    have HB4 := hid (below_trans HB3.out hb4)
    clear hb4 HT3 HV3 HB3 HX3 HY3
    go_wp2_with fail
    refine (hex_calls _ l _ HV4.out (by omega)).mono ?_
    rintro e w5 ⟨rfl, hb5⟩
    have HY5 := hid (HY4.out.below hb5)
    have HX5 := hid (HX4.out.below hb5)
    have HV5 := hid (HV4.out.below hb5)
    have HB5 := hid (below_trans HB4.out hb5)
    clear hb5 HV4 HB4 HX4 HY4
    go_wp2_with fail
    refine (rhex_calls _ l _ HV5.out (by omega)).mono ?_
    rintro e w6 ⟨rfl, hb6⟩
    have HY6 := hid (HY5.out.below hb6)
    have HX6 := hid (HX5.out.below hb6)
    have HB6 := hid (below_trans HB5.out hb6)
    clear hb6 HV5 HB5 HX5 HY5
    go_wp2_with fail
    refine (bytes_calls _ _ _ _ _ HX6.out HY6.out).mono ?_
    rintro e w7 ⟨rfl, rfl⟩
    rw [beq_self_eq_true]
    go_wp2_with fail
    go_ret
    exact ⟨by simp, HB6.out⟩
  · have hout : (8000 : Int) < (l.length : Int) ∨ ((l.length : Int) ≤ 8000 ∧ (8000 : Int) < (s.size : Int)) := by omega
    clear hl
    rcases hout with g | ⟨g1, g⟩
    all_goals
      go_enter Tryd.func6, Tryd.ntmps6
      go_wp2_with fail
      refine (first_calls _ HT.out).mono ?_
      rintro e w1 ⟨rfl, hb1⟩
      have HT1 := hid (Tab.below HT.out hb1 HT.out.pos)
      have HB1 := hid hb1
      clear hb1
      go_wp2_with fail
      refine (first_calls _ HT1.out).mono ?_
      rintro e w2 ⟨rfl, hb2⟩
      have HB2 := hid (below_trans HB1.out hb2)
      clear hb2 HT HT1 HB1
      go_wp2_with fail
      go_ret
      exact ⟨rfl, HB2.out⟩
end Go.Proofs.YtbaomapkggomfaaDoor
