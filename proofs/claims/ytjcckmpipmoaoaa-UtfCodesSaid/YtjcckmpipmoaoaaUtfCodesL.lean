/- The walk of the statement 'any signs, any bytes'. -/
import Derived.Test.YtjcckmpipmoaoaaUtfR
import Derived.Test.YtjcckmpipmoaoaaUtfF
namespace Go.Proofs.Ytjcckmpipmoaoaa
open Go.RowKit
set_option linter.unusedVariables false
set_option maxHeartbeats 4000000 in
theorem utfCodes_walk (vl : Value) (l : List Int) (vb : Value) (b : List UInt8) (w : World) (hl : IRow w vl l) (hb : BRow w vb b) :
    Calls Try.prog 3 #[vl, vb] w fun e w' => e = .returned (.bool true) ∧ Below w.heap.size w w' := by
  have HA := hid hl
  have HV := hid hb
  obtain ⟨a1, cap1, rfl, -⟩ := hl
  obtain ⟨a2, cap2, rfl, -⟩ := hb
  by_cases hl : l.length ≤ 8000 ∧ b.length ≤ 8000
  · obtain ⟨g1, g2⟩ := hl
    have l1 : (l.length : Int) ≤ 8000 := by omega
    have l2 : (b.length : Int) ≤ 8000 := by omega
    have HL1 : Hid (l.length ≤ 100000) := by show l.length ≤ 100000; omega
    have HL2 : Hid (b.length ≤ 100000) := by show b.length ≤ 100000; omega
    clear g1 g2
    go_enter Try.func3, Try.ntmps3
    go_wp2_with fail
    refine (first_calls _).mono ?_
    rintro e wx1 ⟨rfl, hb⟩
    have A1 := hid (HA.out.below hb)
    have V1 := hid (HV.out.below hb)
    have HB1 := hid (hb)
    clear hb HA HV
    go_wp2_with fail
    refine (copy_calls _ b _ V1.out HL2.out).mono ?_
    rintro e wx2 ⟨⟨iv, rfl, hi⟩, hb⟩
    have A2 := hid (A1.out.below hb)
    have V2 := hid (V1.out.below hb)
    have HB2 := hid (below_trans HB1.out hb)
    have I2 := hid (hi.row)
    clear hb A1 V1 HB1
    go_wp2_with fail
    refine (copyI_calls _ l _ A2.out HL1.out).mono ?_
    rintro e wx3 ⟨⟨tv, rfl, ht⟩, hb⟩
    have A3 := hid (A2.out.below hb)
    have V3 := hid (V2.out.below hb)
    have I3 := hid (I2.out.below hb)
    have HB3 := hid (below_trans HB2.out hb)
    have T3 := hid (ht.row)
    clear hb A2 V2 I2 HB2
    clear hi ht
    go_wp2_with fail
    refine (encode_calls _ l _ T3.out HL1.out).mono ?_
    rintro e wx4 ⟨⟨xv, rfl, hx⟩, hb⟩
    have A4 := hid (A3.out.below hb)
    have V4 := hid (V3.out.below hb)
    have I4 := hid (I3.out.below hb)
    have T4 := hid (T3.out.below hb)
    have HB4 := hid (below_trans HB3.out hb)
    have X4 := hid (hx)
    clear hb A3 V3 I3 T3 HB3
    go_wp2_with fail
    refine (rencode_calls _ l _ A4.out HL1.out).mono ?_
    rintro e wx5 ⟨⟨yv, rfl, hy⟩, hb⟩
    have A5 := hid (A4.out.below hb)
    have V5 := hid (V4.out.below hb)
    have I5 := hid (I4.out.below hb)
    have T5 := hid (T4.out.below hb)
    have X5 := hid (X4.out.below hb)
    have HB5 := hid (below_trans HB4.out hb)
    have Y5 := hid (hy)
    clear hb A4 V4 I4 T4 X4 HB4
    clear hx hy
    go_wp2_with fail
    refine (decode_calls _ b _ I5.out HL2.out).mono ?_
    rintro e wx6 ⟨⟨uv, rfl, hu⟩, hb⟩
    have A6 := hid (A5.out.below hb)
    have V6 := hid (V5.out.below hb)
    have I6 := hid (I5.out.below hb)
    have T6 := hid (T5.out.below hb)
    have X6 := hid (X5.out.below hb)
    have Y6 := hid (Y5.out.below hb)
    have HB6 := hid (below_trans HB5.out hb)
    have U6 := hid (hu)
    clear hb A5 V5 I5 T5 X5 Y5 HB5
    go_wp2_with fail
    refine (rdecode_calls _ b _ V6.out HL2.out).mono ?_
    rintro e wx7 ⟨⟨zv, rfl, hz⟩, hb⟩
    have A7 := hid (A6.out.below hb)
    have V7 := hid (V6.out.below hb)
    have I7 := hid (I6.out.below hb)
    have T7 := hid (T6.out.below hb)
    have X7 := hid (X6.out.below hb)
    have Y7 := hid (Y6.out.below hb)
    have U7 := hid (U6.out.below hb)
    have HB7 := hid (below_trans HB6.out hb)
    have Z7 := hid (hz)
    clear hb A6 V6 I6 T6 X6 Y6 U6 HB6
    clear hu hz
    generalize placeD b = pl at *
    generalize errD b = er at *
    generalize errE l = en at *
    go_wp2_with fail
    refine (first_calls _).mono ?_
    rintro e wx8 ⟨rfl, hb⟩
    have A8 := hid (A7.out.below hb)
    have V8 := hid (V7.out.below hb)
    have I8 := hid (I7.out.below hb)
    have T8 := hid (T7.out.below hb)
    have X8 := hid (X7.out.below hb)
    have Y8 := hid (Y7.out.below hb)
    have U8 := hid (U7.out.below hb)
    have Z8 := hid (Z7.out.below hb)
    have HB8 := hid (below_trans HB7.out hb)
    clear hb A7 V7 I7 T7 X7 Y7 U7 Z7 HB7
    go_wp2_with fail
    refine (bytes_calls _ _ _ _ _ X8.out Y8.out).mono ?_
    rintro e wx9 ⟨rfl, rfl⟩
    rw [beq_self_eq_true]
    go_wp2_with fail
    refine (text_calls _ l _ T8.out HL1.out).mono ?_
    rintro e wx10 ⟨rfl, hb⟩
    have A9 := hid (A8.out.below hb)
    have V9 := hid (V8.out.below hb)
    have I9 := hid (I8.out.below hb)
    have T9 := hid (T8.out.below hb)
    have U9 := hid (U8.out.below hb)
    have Z9 := hid (Z8.out.below hb)
    have HB9 := hid (below_trans HB8.out hb)
    clear hb A8 V8 I8 T8 U8 Z8 HB8
    go_wp2_with fail
    refine (rtext_calls _ l _ A9.out HL1.out).mono ?_
    rintro e wx11 ⟨rfl, hb⟩
    generalize strOf (textL l) = sv at *
    have A10 := hid (A9.out.below hb)
    have V10 := hid (V9.out.below hb)
    have I10 := hid (I9.out.below hb)
    have T10 := hid (T9.out.below hb)
    have U10 := hid (U9.out.below hb)
    have Z10 := hid (Z9.out.below hb)
    have HB10 := hid (below_trans HB9.out hb)
    clear hb A9 V9 I9 T9 U9 Z9 HB9
    go_wp2_with fail
    refine (ints_calls _ _ _ _ _ U10.out Z10.out).mono ?_
    rintro e wx12 ⟨rfl, hb⟩
    rw [beq_self_eq_true]
    have A11 := hid (A10.out.below hb)
    have V11 := hid (V10.out.below hb)
    have I11 := hid (I10.out.below hb)
    have T11 := hid (T10.out.below hb)
    have HB11 := hid (below_trans HB10.out hb)
    clear hb A10 V10 I10 T10 HB10
    go_wp2_with fail
    refine (lossy_calls _ b _ I11.out HL2.out).mono ?_
    rintro e wx13 ⟨⟨pv, rfl, hp⟩, hb⟩
    have A12 := hid (A11.out.below hb)
    have V12 := hid (V11.out.below hb)
    have I12 := hid (I11.out.below hb)
    have T12 := hid (T11.out.below hb)
    have HB12 := hid (below_trans HB11.out hb)
    have P12 := hid (hp.row)
    clear hb A11 V11 I11 T11 HB11
    go_wp2_with fail
    refine (rlossy_calls _ b _ V12.out HL2.out).mono ?_
    rintro e wx14 ⟨⟨qv, rfl, hq⟩, hb⟩
    have A13 := hid (A12.out.below hb)
    have V13 := hid (V12.out.below hb)
    have I13 := hid (I12.out.below hb)
    have T13 := hid (T12.out.below hb)
    have P13 := hid (P12.out.below hb)
    have HB13 := hid (below_trans HB12.out hb)
    have Q13 := hid (hq.row)
    clear hb A12 V12 I12 T12 P12 HB12
    clear hp hq
    go_wp2_with fail
    refine (ints_calls _ _ _ _ _ P13.out Q13.out).mono ?_
    rintro e wx15 ⟨rfl, hb⟩
    rw [beq_self_eq_true]
    have A14 := hid (A13.out.below hb)
    have V14 := hid (V13.out.below hb)
    have I14 := hid (I13.out.below hb)
    have T14 := hid (T13.out.below hb)
    have HB14 := hid (below_trans HB13.out hb)
    clear hb A13 V13 I13 T13 HB13
    go_wp2_with fail
    refine (bytes_calls _ _ _ _ _ I14.out V14.out).mono ?_
    rintro e wx16 ⟨rfl, rfl⟩
    rw [beq_self_eq_true]
    go_wp2_with fail
    refine (ints_calls _ _ _ _ _ T14.out A14.out).mono ?_
    rintro e wx17 ⟨rfl, hb⟩
    rw [beq_self_eq_true]
    have HB15 := hid (below_trans HB14.out hb)
    clear hb HB14
    go_wp2_with fail
    go_ret
    exact ⟨rfl, HB15.out⟩
  · have hl' : ¬ (l.length : Int) ≤ 8000 ∨ ((l.length : Int) ≤ 8000 ∧ ¬ (b.length : Int) ≤ 8000) := by omega
    clear hl HA HV
    rcases hl' with h | ⟨h, h'⟩
    all_goals
      go_enter Try.func3, Try.ntmps3
      go_wp2_with fail
      refine (first_calls _).mono ?_
      rintro e w1 ⟨rfl, hb1⟩
      have HB1 := hid hb1
      clear hb1
      go_wp2_with fail
      refine (first_calls _).mono ?_
      rintro e w2 ⟨rfl, hb2⟩
      have HB2 := hid (below_trans HB1.out hb2)
      clear hb2 HB1
      go_wp2_with fail
      go_ret
      exact ⟨rfl, HB2.out⟩
end Go.Proofs.Ytjcckmpipmoaoaa
