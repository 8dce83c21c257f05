/- The walk of the statement on numbers as bytes. -/
import Derived.Test.YtbaomapkggomfaaDoorRefPutW
import Derived.Test.YtbaomapkggomfaaDoorRefGetW
namespace Go.Proofs.YtbaomapkggomfaaDoor
open Go.RowKit
set_option linter.unusedVariables false
theorem pow8 (width : Nat) : (2 : Int) ^ (8 * width) = ((2 ^ (8 * width) : Nat) : Int) := by simp
/-- Both Puts answer alike: a list of bytes, an error's number. -/
theorem put_both (n width : Int) (hn : -9223372036854775808 ≤ n ∧ n ≤ 9223372036854775807) : ∃ (l : List UInt8) (e : Int),
    (∀ w, Calls Tryd.prog 11 #[.int .i64 n, .int .i64 width] w fun r w' => (∃ v, r = .returned (.tuple #[v, .int .i64 e]) ∧ BRow w' v l) ∧ Below w.heap.size w w') ∧
    (∀ w, Calls Tryd.prog 12 #[.int .i64 n, .int .i64 width] w fun r w' => (∃ v, r = .returned (.tuple #[v, .int .i64 e]) ∧ BRow w' v l) ∧ Below w.heap.size w w') := by
  by_cases h1 : 1 ≤ width ∧ width ≤ 6 ∧ 0 ≤ n
  · obtain ⟨h1, h2, h3⟩ := h1
    obtain ⟨m, rfl⟩ := Int.eq_ofNat_of_zero_le h3
    obtain ⟨k, rfl⟩ := Int.eq_ofNat_of_zero_le (show 0 ≤ width by omega)
    have ek : (8 * (k : Int)).toNat = 8 * k := by omega
    by_cases h4 : m / 2 ^ (8 * k) = 0
    · have q : (m : Int) / 2 ^ (8 * k) = 0 := by rw [pow8]; exact_mod_cast h4
      exact ⟨putL m k, 0, fun w => put_ok m k w (by omega) (by omega) (by omega) (by rw [q]; rfl), fun w => rput_ok m k w (by omega) (by omega) (by omega) (by omega)⟩
    · have q : 0 < (m : Int) / 2 ^ (8 * k) := by
        rw [pow8]
        have : 0 < m / 2 ^ (8 * k) := Nat.pos_of_ne_zero h4
        exact_mod_cast this
      refine ⟨[], 1, fun w => (put_big _ _ w (by omega) (by omega) (by omega) (by omega) (by rw [ek, beq_eq_false_iff_ne]; omega)).mono ?_, fun w => (rput_big _ _ w (by omega) (by omega) (by omega) (by omega) (by rw [ek]; exact q)).mono ?_⟩
      all_goals
        rintro e w' ⟨rfl, rfl⟩
        exact ⟨⟨_, rfl, nil_row _⟩, Below.refl _ _⟩
  · refine ⟨[], 1, fun w => (put_bad _ _ w (by omega)).mono ?_, fun w => (rput_bad _ _ w (by omega)).mono ?_⟩
    all_goals
      rintro e w' ⟨rfl, rfl⟩
      exact ⟨⟨_, rfl, nil_row _⟩, Below.refl _ _⟩
/-- Both Gets answer alike. -/
theorem get_both (l : List UInt8) (i width : Int) : ∃ (x e : Int),
    (∀ v w, BRow w v l → Calls Tryd.prog 13 #[v, .int .i64 i, .int .i64 width] w fun r w' => r = .returned (.tuple #[.int .i64 x, .int .i64 e]) ∧ w' = w) ∧
    (∀ v w, BRow w v l → Calls Tryd.prog 14 #[v, .int .i64 i, .int .i64 width] w fun r w' => r = .returned (.tuple #[.int .i64 x, .int .i64 e]) ∧ w' = w) := by
  by_cases h1 : 1 ≤ width ∧ width ≤ 6 ∧ 0 ≤ i ∧ i ≤ (l.length : Int)
  · obtain ⟨h1, h2, h3, h4⟩ := h1
    by_cases h5 : (l.length : Int) - i < width
    · exact ⟨0, 2, fun v w hv => get_short v l i width w hv h1 h2 h3 h4 h5, fun v w hv => rget_short v l i width w hv h1 h2 h3 h4 h5⟩
    · obtain ⟨m, rfl⟩ := Int.eq_ofNat_of_zero_le h3
      obtain ⟨k, rfl⟩ := Int.eq_ofNat_of_zero_le (show 0 ≤ width by omega)
      exact ⟨_, 0, fun v w hv => get_ok v l m k w hv (by omega) (by omega) (by omega), fun v w hv => rget_ok v l m k w hv (by omega) (by omega) (by omega)⟩
  · exact ⟨0, 1, fun v w hv => get_bad v l i width w hv (by omega), fun v w hv => rget_bad v l i width w hv (by omega)⟩
set_option maxHeartbeats 1000000 in
theorem bitsNumbers_walk (n width : Int) (v : Value) (l : List UInt8) (i : Int) (w : World) (ht : Tab w) (hn : -9223372036854775808 ≤ n ∧ n ≤ 9223372036854775807) (hw : -9223372036854775808 ≤ width ∧ width ≤ 9223372036854775807) (hv : BRow w v l) (hi : -9223372036854775808 ≤ i ∧ i ≤ 9223372036854775807) :
    Calls Tryd.prog 3 #[.int .i64 n, .int .i64 width, v, .int .i64 i] w fun e w' => e = .returned (.bool true) ∧ Below w.heap.size w w' := by
  have HT := hid ht
  have HV := hid hv
  obtain ⟨pl, pe, P1, P2⟩ := put_both n width hn
  obtain ⟨gx, ge, G1, G2⟩ := get_both l i width
  have HP1 := hid P1
  have HP2 := hid P2
  have HG1 := hid G1
  have HG2 := hid G2
  obtain ⟨a, cap, rfl, c1, c2, c3⟩ := hv
  clear ht hn hw hi c3 P1 P2 G1 G2
  unfold maxLen at c2
  by_cases hl : l.length ≤ 8000
  · go_enter Tryd.func3, Tryd.ntmps3
    go_wp2_with fail
    refine (first_calls _ HT.out).mono ?_
    rintro e w1 ⟨rfl, hb1⟩
    have HT1 := hid (Tab.below HT.out hb1 HT.out.pos)
    have HB1 := hid hb1
    have HV1 := hid (HV.out.below hb1)
    clear hb1 HT HV
    go_wp2_with fail
    refine (copy_calls _ l _ HV1.out (by omega)).mono ?_
    rintro e w2 ⟨⟨cv, rfl, hc⟩, hb2⟩
    have HC2 := hid hc.row
    have HT2 := hid (Tab.below HT1.out hb2 HT1.out.pos)
    have HV2 := hid (HV1.out.below hb2)
    have HB2 := hid (below_trans HB1.out hb2)
    clear hb2 hc HT1 HV1 HB1
    go_wp2_with fail
    refine (HP1.out _).mono ?_
    rintro e w3 ⟨⟨xv, rfl, hx⟩, hb3⟩
    have HX3 := hid hx
    have HC3 := hid (HC2.out.below hb3)
    have HT3 := hid (Tab.below HT2.out hb3 HT2.out.pos)
    have HV3 := hid (HV2.out.below hb3)
    have HB3 := hid (below_trans HB2.out hb3)
    clear hb3 hx HT2 HV2 HB2 HC2 HP1
    go_wp2_with fail
    refine (HP2.out _).mono ?_
    rintro e w4 ⟨⟨yv, rfl, hy⟩, hb4⟩
    have HY4 := hid hy
    have HX4 := hid (HX3.out.below hb4)
    have HC4 := hid (HC3.out.below hb4)
    have HT4 := hid (Tab.below HT3.out hb4 HT3.out.pos)
    have HV4 := hid (HV3.out.below hb4)
    have HB4 := hid (below_trans HB3.out hb4)
    clear hb4 hy HT3 HV3 HB3 HC3 HP2 HX3
    go_wp2_with fail
    refine (HG1.out _ _ HC4.out).mono ?_
    rintro e w5 ⟨rfl, rfl⟩
    go_wp2_with fail
    refine (HG2.out _ _ HV4.out).mono ?_
    rintro e w5 ⟨rfl, rfl⟩
    clear HG1 HG2
    go_wp2_with fail
    refine (first_calls _ HT4.out).mono ?_
    rintro e w5 ⟨rfl, hb5⟩
    have HY5 := hid (HY4.out.below hb5)
    have HX5 := hid (HX4.out.below hb5)
    have HC5 := hid (HC4.out.below hb5)
    have HV5 := hid (HV4.out.below hb5)
    have HB5 := hid (below_trans HB4.out hb5)
    clear hb5 HT4 HV4 HB4 HC4 HX4 HY4
    go_wp2_with fail
    refine (bytes_calls _ _ _ _ _ HX5.out HY5.out).mono ?_
    rintro e w6 ⟨rfl, rfl⟩
    rw [beq_self_eq_true]
    go_wp2_with fail
    refine (bytes_calls _ _ _ _ _ HC5.out HV5.out).mono ?_
    rintro e w6 ⟨rfl, rfl⟩
    rw [beq_self_eq_true]
    go_wp2_with fail
    go_ret
    exact ⟨rfl, HB5.out⟩
  · go_enter Tryd.func3, Tryd.ntmps3
    go_wp2_with fail
    refine (first_calls _ HT.out).mono ?_
    rintro e w1 ⟨rfl, hb1⟩
    have HT1 := hid (Tab.below HT.out hb1 HT.out.pos)
    have HB1 := hid hb1
    clear hb1
    go_wp2_with fail
    refine (first_calls _ HT1.out).mono ?_
    rintro e w2 ⟨rfl, hb2⟩
    have HB2 := hid (below_trans HB1.out hb2)
    clear hb2 HT HT1 HB1
    go_wp2_with fail
    go_ret
    exact ⟨rfl, HB2.out⟩
end Go.Proofs.YtbaomapkggomfaaDoor
