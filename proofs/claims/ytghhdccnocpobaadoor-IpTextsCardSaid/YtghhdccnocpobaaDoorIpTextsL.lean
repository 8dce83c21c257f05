/- The walk of the statement 'any text as numbers of machines'. -/
import Derived.Test.YtghhdccnocpobaaDoorIpN
import Derived.Test.YtghhdccnocpobaaDoorIpEq
namespace Go.Proofs.YtghhdccnocpobaaDoor
open Go.RowKit
set_option linter.unusedVariables false
set_option maxRecDepth 20000
set_option maxHeartbeats 4000000 in
theorem ipTexts_walk (s : ByteArray) (w : World) (T0 : Tab w) (hs : s.size ≤ maxLen) : Calls Tryd.prog 3 #[.string s] w fun e w' => e = .returned (.bool true) ∧ Below w.heap.size w w' := by
  have T := hid T0
  clear T0
  unfold maxLen at hs
  by_cases h5 : s.size ≤ 5000
  · have s1 : ¬ (5000 : Int) < (s.size : Int) := by omega
    have HS : Hid (s.size ≤ 100000) := by show _ ≤ _; omega
    have HF6 := hid (parse6_fine s.data.toList)
    have P4a := hid (ip4_calls s)
    have P4b := hid (parse4_calls s)
    have P6a := hid (ip6_calls s)
    have P6b := hid (parse6_calls s)
    unfold P4Post at P4a P4b
    unfold P6Post at P6a P6b
    have HLt := hid (parse4_lt s.data.toList)
    generalize (parse4R s.data.toList).1 = n at *
    generalize (parse4R s.data.toList).2 = m at *
    generalize (parse6R s.data.toList).2 = q at *
    generalize (parse6R s.data.toList).1 = xs at *
    obtain ⟨x0, x1, x2, x3, x4, x5, x6, x7, rfl⟩ := eight HF6.out.1
    simp only [aggL, f16, List.map_cons, List.map_nil] at P6a P6b
    clear h5 hs
    go_enter Tryd.func3, Tryd.ntmps3
    go_wp2_with fail
    refine (ipfirst_calls _ (T.out.below (by first | exact btw (by assumption) | exact btw_al (by assumption) _ | exact btw_dr (by assumption) | exact btw_ad (by assumption) _ | exact Below.refl _ _ | exact (Below.refl _ _).alloc (Nat.le_refl _) _))).mono ?_
    rintro e w1 ⟨rfl, hb⟩
    have HB1 := hid hb
    clear hb
    go_wp2_with fail
    refine (P4a.out _ HS.out).mono ?_
    rintro e w2 ⟨rfl, hb⟩
    have HB2 := hid (below_trans HB1.out hb)
    clear hb HB1
    go_wp2_with fail
    refine (P4b.out _ HS.out).mono ?_
    rintro e w3 ⟨rfl, hb⟩
    have HB3 := hid (below_trans HB2.out hb)
    clear hb HB2
    go_wp2_with fail
    refine (P6a.out _ HS.out (T.out.below (by first | exact btw (by assumption) | exact btw_al (by assumption) _ | exact btw_dr (by assumption) | exact btw_ad (by assumption) _ | exact Below.refl _ _ | exact (Below.refl _ _).alloc (Nat.le_refl _) _))).mono ?_
    rintro e w4 ⟨rfl, hb⟩
    have HB4 := hid (below_trans HB3.out hb)
    have HK4 := hid (blk_new w4 [x0, x1, x2, x3, x4, x5, x6, x7])
    clear hb HB3
    go_wp2_with fail
    refine (P6b.out _ HS.out).mono ?_
    rintro e w5 ⟨rfl, hb⟩
    have HB5 := hid (below_more HB4.out _ hb)
    have HK5 := hid (HK4.out.below hb)
    have HL5 := hid (blk_new w5 [x0, x1, x2, x3, x4, x5, x6, x7])
    clear hb HB4 HK4
    go_wp2_with fail
    refine (ipfirst_calls _ (T.out.below (by first | exact btw (by assumption) | exact btw_al (by assumption) _ | exact btw_dr (by assumption) | exact btw_ad (by assumption) _ | exact Below.refl _ _ | exact (Below.refl _ _).alloc (Nat.le_refl _) _))).mono ?_
    rintro e w6 ⟨rfl, hb⟩
    have HB6 := hid (below_more HB5.out _ hb)
    have HK6 := hid ((HK5.out.below (balloc w5 _)).below hb)
    have HL6 := hid (HL5.out.below hb)
    clear hb HB5 HK5 HL5
    go_wp2_with fail
    refine (ien_calls s _ HS.out).mono ?_
    rintro e w7 ⟨rfl, hb⟩
    have HB7 := hid (below_trans HB6.out hb)
    have HK7 := hid (HK6.out.below hb)
    have HL7 := hid (HL6.out.below hb)
    clear hb HB6 HK6 HL6
    go_wp2_with fail
    refine (ends_calls s _ HS.out).mono ?_
    rintro e w8 ⟨rfl, hb⟩
    have HB8 := hid (below_trans HB7.out hb)
    have HK8 := hid (HK7.out.below hb)
    have HL8 := hid (HL7.out.below hb)
    clear hb HB7 HK7 HL7
    have k0 := (HK8.out.cell 0 (by show 0 < 8; decide)).1
    have k1 := (HK8.out.cell 1 (by show 1 < 8; decide)).1
    have k2 := (HK8.out.cell 2 (by show 2 < 8; decide)).1
    have k3 := (HK8.out.cell 3 (by show 3 < 8; decide)).1
    have k4 := (HK8.out.cell 4 (by show 4 < 8; decide)).1
    have k5 := (HK8.out.cell 5 (by show 5 < 8; decide)).1
    have k6 := (HK8.out.cell 6 (by show 6 < 8; decide)).1
    have k7 := (HK8.out.cell 7 (by show 7 < 8; decide)).1
    have l0 := (HL8.out.cell 0 (by show 0 < 8; decide)).1
    have l1 := (HL8.out.cell 1 (by show 1 < 8; decide)).1
    have l2 := (HL8.out.cell 2 (by show 2 < 8; decide)).1
    have l3 := (HL8.out.cell 3 (by show 3 < 8; decide)).1
    have l4 := (HL8.out.cell 4 (by show 4 < 8; decide)).1
    have l5 := (HL8.out.cell 5 (by show 5 < 8; decide)).1
    have l6 := (HL8.out.cell 6 (by show 6 < 8; decide)).1
    have l7 := (HL8.out.cell 7 (by show 7 < 8; decide)).1
    simp only [List.getElem_cons_zero, List.getElem_cons_succ] at k0 k1 k2 k3 k4 k5 k6 k7 l0 l1 l2 l3 l4 l5 l6 l7
    generalize endsR s.data.toList = eb at *
    have heq := eq_arr (x0 : Int) x1 x2 x3 x4 x5 x6 x7 x0 x1 x2 x3 x4 x5 x6 x7
    simp only [same8_refl] at heq
    go_wp2_with fail
    all_goals
      go_ret
      exact ⟨by first | rfl | simp, HB8.out⟩
  · have s1 : (5000 : Int) < (s.size : Int) := by omega
    clear h5
    go_enter Tryd.func3, Tryd.ntmps3
    go_wp2_with fail
    refine (ipfirst_calls _ (T.out.below (by first | exact btw (by assumption) | exact btw_al (by assumption) _ | exact btw_dr (by assumption) | exact btw_ad (by assumption) _ | exact Below.refl _ _ | exact (Below.refl _ _).alloc (Nat.le_refl _) _))).mono ?_
    rintro e w1 ⟨rfl, hb⟩
    have HB1 := hid hb
    clear hb
    go_wp2_with fail
    refine (ipfirst_calls _ (T.out.below (by first | exact btw (by assumption) | exact btw_al (by assumption) _ | exact btw_dr (by assumption) | exact btw_ad (by assumption) _ | exact Below.refl _ _ | exact (Below.refl _ _).alloc (Nat.le_refl _) _))).mono ?_
    rintro e w2 ⟨rfl, hb⟩
    have HB2 := hid (below_trans HB1.out hb)
    clear hb
    go_wp2_with fail
    go_ret
    exact ⟨rfl, HB2.out⟩
end Go.Proofs.YtghhdccnocpobaaDoor
