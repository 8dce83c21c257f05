/- The walk of the statement 'there and back'. -/
import Derived.Test.YtjcckmpipmoaoaaUtfJoinsL
namespace Go.Proofs.Ytjcckmpipmoaoaa
open Go.RowKit
set_option linter.unusedVariables false
theorem enc_yes {l : List Int} (h : l.all isS = true) : errE l = 0 ∧ bytesE l = encL l := by
  unfold errE bytesE; rw [if_pos h, if_pos h]; exact ⟨rfl, rfl⟩
theorem enc_no {l : List Int} (h : l.all isS = false) : errE l = 1 := by
  unfold errE; rw [if_neg (by rw [h]; decide)]
theorem lossy_back {l : List Int} (h : l.all isS = true) : lossyL (encL l) = l := by
  have := lossy_enc l [] h
  rwa [List.append_nil, lossy_nil, List.append_nil] at this
/-- Signs, as bytes, and back. -/
theorem signs_back {l : List Int} (h : l.all isS = true) : placeD (encL l) = 0 ∧ errD (encL l) = 0 ∧ signsD (encL l) = l := dec_yes (dec_enc l h)
set_option maxHeartbeats 8000000 in
theorem utfBack_walk (vl : Value) (l : List Int) (vb : Value) (b : List UInt8) (w : World) (hl : IRow w vl l) (hb : BRow w vb b) :
    Calls Try.prog 5 #[vl, vb] w fun e w' => e = .returned (.bool true) ∧ Below w.heap.size w w' := by
  have HA := hid hl
  have HV := hid hb
  obtain ⟨a1, cap1, rfl, -⟩ := hl
  obtain ⟨a2, cap2, rfl, -⟩ := hb
  by_cases hl : l.length ≤ 8000 ∧ b.length ≤ 8000
  · obtain ⟨g1, g2⟩ := hl
    have l1 : (l.length : Int) ≤ 8000 := by omega
    have l2 : (b.length : Int) ≤ 8000 := by omega
    have HL1 : Hid (l.length ≤ 100000) := by show l.length ≤ 100000; omega
    have HL2 : Hid (b.length ≤ 100000) := by show b.length ≤ 100000; omega
    have HL3 : Hid ((encL l).length ≤ 100000) := by show (encL l).length ≤ 100000; have := encL_len l; omega
    have HW := hid (lossy_all _ b (Nat.le_refl _))
    have HL4 : Hid ((lossyL b).length ≤ 100000) := by show (lossyL b).length ≤ 100000; have := HW.out.2; omega
    have HL5 : Hid ((encL (lossyL b)).length ≤ 100000) := by show (encL (lossyL b)).length ≤ 100000; have := encL_len (lossyL b); have := HW.out.2; omega
    have HLW : Hid (((lossyL b).length : Int) ≤ (b.length : Int)) := by show ((lossyL b).length : Int) ≤ (b.length : Int); have := HW.out.2; omega
    clear g1 g2
    go_enter Try.func5, Try.ntmps5
    go_wp2_with fail
    refine (first_calls _).mono ?_
    rintro e wx1 ⟨rfl, hb⟩
    have A1 := hid (HA.out.below hb)
    have V1 := hid (HV.out.below hb)
    have HB1 := hid (hb)
    clear hb HA HV
    go_wp2_with fail
    refine (encode_calls _ l _ A1.out HL1.out).mono ?_
    rintro e wx2 ⟨⟨xv, rfl, hx⟩, hb⟩
    have A2 := hid (A1.out.below hb)
    have V2 := hid (V1.out.below hb)
    have HB2 := hid (below_trans HB1.out hb)
    clear hb A1 V1 HB1
    cases hs : l.all isS with
    | false =>
      rw [enc_no hs]
      clear hx hs
      go_wp2_with fail
      refine (decode_calls _ b _ V2.out HL2.out).mono ?_
      rintro e wx3 ⟨⟨uv, rfl, hu⟩, hb⟩
      have A3 := hid (A2.out.below hb)
      have V3 := hid (V2.out.below hb)
      have HB3 := hid (below_trans HB2.out hb)
      clear hb A2 V2 HB2
      cases hd : decL b with
      | none =>
        obtain ⟨e1, e2, e3⟩ := dec_no hd
        have b1 : (badN b : Int) < (b.length : Int) := by have := bad_lt _ b (Nat.le_refl _) hd; omega
        have b0 : (0 : Int) ≤ (badN b : Int) := by omega
        rw [e1, e2]
        rw [e3] at hu
        generalize badN b = pl at *
        clear e1 e2 e3 hd
        have HU := hid (hu.below (Below.refl _ _))
        obtain ⟨au, cu, rfl, -⟩ := hu
        go_wp2_with fail
        refine (encode_calls _ [] _ HU.out (by decide)).mono ?_
        rintro e wx4 ⟨⟨yv, rfl, hy⟩, hb⟩
        rw [show errE [] = 0 from rfl]
        clear hy HU
        have A4 := hid (A3.out.below hb)
        have V4 := hid (V3.out.below hb)
        have HB4 := hid (below_trans HB3.out hb)
        clear hb A3 V3 HB3
        go_wp2_with fail
        refine (lossy_calls _ b _ V4.out HL2.out).mono ?_
        rintro e wx5 ⟨⟨pv, rfl, hp⟩, hb⟩
        have HPP := hid hp.row
        obtain ⟨ap, cp, rfl, -⟩ := hp.row
        clear hp
        have A5 := hid (A4.out.below hb)
        have V5 := hid (V4.out.below hb)
        have HB5 := hid (below_trans HB4.out hb)
        have P5 := hid (HPP.out)
        clear hb A4 V4 HB4
        go_wp2_with fail
        refine (encode_calls _ (lossyL b) _ P5.out HL4.out).mono ?_
        rintro e wx6 ⟨⟨zv, rfl, hz⟩, hb⟩
        rw [(enc_yes HW.out.1).2] at hz
        rw [(enc_yes HW.out.1).1]
        have A6 := hid (A5.out.below hb)
        have V6 := hid (V5.out.below hb)
        have P6 := hid (P5.out.below hb)
        have HB6 := hid (below_trans HB5.out hb)
        have Z6 := hid (hz)
        clear hb A5 V5 P5 HB5
        clear hz
        go_wp2_with fail
        refine (decode_calls _ (encL (lossyL b)) _ Z6.out HL5.out).mono ?_
        rintro e wx7 ⟨⟨qv, rfl, hq⟩, hb⟩
        rw [(signs_back HW.out.1).2.2] at hq
        rw [(signs_back HW.out.1).1, (signs_back HW.out.1).2.1]
        have A7 := hid (A6.out.below hb)
        have V7 := hid (V6.out.below hb)
        have P7 := hid (P6.out.below hb)
        have HB7 := hid (below_trans HB6.out hb)
        have Q7 := hid (hq)
        clear hb A6 V6 P6 HB6
        clear hq
        go_wp2_with fail
        refine (first_calls _).mono ?_
        rintro e wx8 ⟨rfl, hb⟩
        have A8 := hid (A7.out.below hb)
        have V8 := hid (V7.out.below hb)
        have P8 := hid (P7.out.below hb)
        have Q8 := hid (Q7.out.below hb)
        have HB8 := hid (below_trans HB7.out hb)
        clear hb A7 V7 P7 Q7 HB7
        go_wp2_with fail
        refine (ints_calls _ _ _ _ _ Q8.out P8.out).mono ?_
        rintro e wx9 ⟨rfl, hb⟩
        rw [beq_self_eq_true]
        have A9 := hid (A8.out.below hb)
        have V9 := hid (V8.out.below hb)
        have HB9 := hid (below_trans HB8.out hb)
        clear hb A8 V8 HB8
        have lw := HLW.out
        go_wp2_with fail
        go_ret
        exact ⟨rfl, HB9.out⟩
      | some o =>
        obtain ⟨e1, e2, e3⟩ := dec_yes hd
        obtain ⟨d1, d2, d3⟩ := dec_is hd
        rw [e1, e2]
        rw [e3] at hu
        have HU := hid hu
        obtain ⟨au, cu, rfl, -⟩ := hu
        have HE := hid (enc_yes d1)
        have HD3 : Hid (o.length ≤ 100000) := by show o.length ≤ 100000; have := HL2.out; omega
        have HLO : Hid (lossyL b = o) := by
          show lossyL b = o
          rw [← d2]; exact lossy_back d1
        have HEB := hid d2
        clear e1 e2 e3 hd d1 d2 d3
        go_wp2_with fail
        refine (encode_calls _ o _ HU.out HD3.out).mono ?_
        rintro e wx4 ⟨⟨yv, rfl, hy⟩, hb⟩
        rw [HE.out.2, HEB.out] at hy
        rw [HE.out.1]
        have A4 := hid (A3.out.below hb)
        have V4 := hid (V3.out.below hb)
        have U4 := hid (HU.out.below hb)
        have HB4 := hid (below_trans HB3.out hb)
        have Y4 := hid (hy)
        clear hb A3 V3 HU HB3
        clear hy
        go_wp2_with fail
        refine (bytes_calls _ _ _ _ _ Y4.out V4.out).mono ?_
        rintro e wx5 ⟨rfl, rfl⟩
        rw [beq_self_eq_true]
        go_wp2_with fail
        refine (lossy_calls _ b _ V4.out HL2.out).mono ?_
        rintro e wx6 ⟨⟨rv, rfl, hr⟩, hb⟩
        rw [HLO.out] at hr
        have A5 := hid (A4.out.below hb)
        have V5 := hid (V4.out.below hb)
        have U5 := hid (U4.out.below hb)
        have HB5 := hid (below_trans HB4.out hb)
        have R5 := hid (hr.row)
        clear hb A4 V4 U4 HB4
        clear hr
        go_wp2_with fail
        refine (ints_calls _ _ _ _ _ R5.out U5.out).mono ?_
        rintro e wx7 ⟨rfl, hb⟩
        rw [beq_self_eq_true]
        have A6 := hid (A5.out.below hb)
        have V6 := hid (V5.out.below hb)
        have HB6 := hid (below_trans HB5.out hb)
        clear hb A5 V5 HB5
        go_wp2_with fail
        refine (lossy_calls _ b _ V6.out HL2.out).mono ?_
        rintro e wx8 ⟨⟨pv, rfl, hp⟩, hb⟩
        have HPP := hid hp.row
        obtain ⟨ap, cp, rfl, -⟩ := hp.row
        clear hp
        have A7 := hid (A6.out.below hb)
        have V7 := hid (V6.out.below hb)
        have HB7 := hid (below_trans HB6.out hb)
        have P7 := hid (HPP.out)
        clear hb A6 V6 HB6
        go_wp2_with fail
        refine (encode_calls _ (lossyL b) _ P7.out HL4.out).mono ?_
        rintro e wx9 ⟨⟨zv, rfl, hz⟩, hb⟩
        rw [(enc_yes HW.out.1).2] at hz
        rw [(enc_yes HW.out.1).1]
        have A8 := hid (A7.out.below hb)
        have V8 := hid (V7.out.below hb)
        have P8 := hid (P7.out.below hb)
        have HB8 := hid (below_trans HB7.out hb)
        have Z8 := hid (hz)
        clear hb A7 V7 P7 HB7
        clear hz
        go_wp2_with fail
        refine (decode_calls _ (encL (lossyL b)) _ Z8.out HL5.out).mono ?_
        rintro e wx10 ⟨⟨qv, rfl, hq⟩, hb⟩
        rw [(signs_back HW.out.1).2.2] at hq
        rw [(signs_back HW.out.1).1, (signs_back HW.out.1).2.1]
        have A9 := hid (A8.out.below hb)
        have V9 := hid (V8.out.below hb)
        have P9 := hid (P8.out.below hb)
        have HB9 := hid (below_trans HB8.out hb)
        have Q9 := hid (hq)
        clear hb A8 V8 P8 HB8
        clear hq
        go_wp2_with fail
        refine (first_calls _).mono ?_
        rintro e wx11 ⟨rfl, hb⟩
        have A10 := hid (A9.out.below hb)
        have V10 := hid (V9.out.below hb)
        have P10 := hid (P9.out.below hb)
        have Q10 := hid (Q9.out.below hb)
        have HB10 := hid (below_trans HB9.out hb)
        clear hb A9 V9 P9 Q9 HB9
        go_wp2_with fail
        refine (ints_calls _ _ _ _ _ Q10.out P10.out).mono ?_
        rintro e wx12 ⟨rfl, hb⟩
        rw [beq_self_eq_true]
        have A11 := hid (A10.out.below hb)
        have V11 := hid (V10.out.below hb)
        have HB11 := hid (below_trans HB10.out hb)
        clear hb A10 V10 HB10
        have lw := HLW.out
        go_wp2_with fail
        go_ret
        exact ⟨rfl, HB11.out⟩
    | true =>
      obtain ⟨e1, e2⟩ := enc_yes hs
      rw [e1]
      rw [e2] at hx
      have HX := hid hx
      have HSB := hid (signs_back hs)
      have HLB := hid (lossy_back hs)
      clear hx e1 e2 hs
      go_wp2_with fail
      refine (decode_calls _ (encL l) _ HX.out HL3.out).mono ?_
      rintro e wx3 ⟨⟨tv, rfl, ht⟩, hb⟩
      rw [HSB.out.2.2] at ht
      rw [HSB.out.1, HSB.out.2.1]
      have A3 := hid (A2.out.below hb)
      have V3 := hid (V2.out.below hb)
      have X3 := hid (HX.out.below hb)
      have HB3 := hid (below_trans HB2.out hb)
      have T3 := hid (ht)
      clear hb A2 V2 HX HB2
      clear ht
      go_wp2_with fail
      refine (ints_calls _ _ _ _ _ T3.out A3.out).mono ?_
      rintro e wx4 ⟨rfl, hb⟩
      rw [beq_self_eq_true]
      have A4 := hid (A3.out.below hb)
      have V4 := hid (V3.out.below hb)
      have X4 := hid (X3.out.below hb)
      have HB4 := hid (below_trans HB3.out hb)
      clear hb A3 V3 X3 HB3
      go_wp2_with fail
      refine (lossy_calls _ (encL l) _ X4.out HL3.out).mono ?_
      rintro e wx5 ⟨⟨sv, rfl, hs⟩, hb⟩
      rw [HLB.out] at hs
      have A5 := hid (A4.out.below hb)
      have V5 := hid (V4.out.below hb)
      have HB5 := hid (below_trans HB4.out hb)
      have S5 := hid (hs.row)
      clear hb A4 V4 HB4
      clear hs
      go_wp2_with fail
      refine (ints_calls _ _ _ _ _ S5.out A5.out).mono ?_
      rintro e wx6 ⟨rfl, hb⟩
      rw [beq_self_eq_true]
      have V6 := hid (V5.out.below hb)
      have HB6 := hid (below_trans HB5.out hb)
      clear hb V5 HB5
      go_wp2_with fail
      refine (decode_calls _ b _ V6.out HL2.out).mono ?_
      rintro e wx7 ⟨⟨uv, rfl, hu⟩, hb⟩
      have V7 := hid (V6.out.below hb)
      have HB7 := hid (below_trans HB6.out hb)
      clear hb V6 HB6
      cases hd : decL b with
      | none =>
        obtain ⟨e1, e2, e3⟩ := dec_no hd
        have b1 : (badN b : Int) < (b.length : Int) := by have := bad_lt _ b (Nat.le_refl _) hd; omega
        have b0 : (0 : Int) ≤ (badN b : Int) := by omega
        rw [e1, e2]
        rw [e3] at hu
        generalize badN b = pl at *
        clear e1 e2 e3 hd
        have HU := hid (hu.below (Below.refl _ _))
        obtain ⟨au, cu, rfl, -⟩ := hu
        go_wp2_with fail
        refine (encode_calls _ [] _ HU.out (by decide)).mono ?_
        rintro e wx8 ⟨⟨yv, rfl, hy⟩, hb⟩
        rw [show errE [] = 0 from rfl]
        clear hy HU
        have V8 := hid (V7.out.below hb)
        have HB8 := hid (below_trans HB7.out hb)
        clear hb V7 HB7
        go_wp2_with fail
        refine (lossy_calls _ b _ V8.out HL2.out).mono ?_
        rintro e wx9 ⟨⟨pv, rfl, hp⟩, hb⟩
        have HPP := hid hp.row
        obtain ⟨ap, cp, rfl, -⟩ := hp.row
        clear hp
        have V9 := hid (V8.out.below hb)
        have HB9 := hid (below_trans HB8.out hb)
        have P9 := hid (HPP.out)
        clear hb V8 HB8
        go_wp2_with fail
        refine (encode_calls _ (lossyL b) _ P9.out HL4.out).mono ?_
        rintro e wx10 ⟨⟨zv, rfl, hz⟩, hb⟩
        rw [(enc_yes HW.out.1).2] at hz
        rw [(enc_yes HW.out.1).1]
        have V10 := hid (V9.out.below hb)
        have P10 := hid (P9.out.below hb)
        have HB10 := hid (below_trans HB9.out hb)
        have Z10 := hid (hz)
        clear hb V9 P9 HB9
        clear hz
        go_wp2_with fail
        refine (decode_calls _ (encL (lossyL b)) _ Z10.out HL5.out).mono ?_
        rintro e wx11 ⟨⟨qv, rfl, hq⟩, hb⟩
        rw [(signs_back HW.out.1).2.2] at hq
        rw [(signs_back HW.out.1).1, (signs_back HW.out.1).2.1]
        have V11 := hid (V10.out.below hb)
        have P11 := hid (P10.out.below hb)
        have HB11 := hid (below_trans HB10.out hb)
        have Q11 := hid (hq)
        clear hb V10 P10 HB10
        clear hq
        go_wp2_with fail
        refine (first_calls _).mono ?_
        rintro e wx12 ⟨rfl, hb⟩
        have V12 := hid (V11.out.below hb)
        have P12 := hid (P11.out.below hb)
        have Q12 := hid (Q11.out.below hb)
        have HB12 := hid (below_trans HB11.out hb)
        clear hb V11 P11 Q11 HB11
        go_wp2_with fail
        refine (ints_calls _ _ _ _ _ Q12.out P12.out).mono ?_
        rintro e wx13 ⟨rfl, hb⟩
        rw [beq_self_eq_true]
        have V13 := hid (V12.out.below hb)
        have HB13 := hid (below_trans HB12.out hb)
        clear hb V12 HB12
        have lw := HLW.out
        go_wp2_with fail
        go_ret
        exact ⟨rfl, HB13.out⟩
      | some o =>
        obtain ⟨e1, e2, e3⟩ := dec_yes hd
        obtain ⟨d1, d2, d3⟩ := dec_is hd
        rw [e1, e2]
        rw [e3] at hu
        have HU := hid hu
        obtain ⟨au, cu, rfl, -⟩ := hu
        have HE := hid (enc_yes d1)
        have HD3 : Hid (o.length ≤ 100000) := by show o.length ≤ 100000; have := HL2.out; omega
        have HLO : Hid (lossyL b = o) := by
          show lossyL b = o
          rw [← d2]; exact lossy_back d1
        have HEB := hid d2
        clear e1 e2 e3 hd d1 d2 d3
        go_wp2_with fail
        refine (encode_calls _ o _ HU.out HD3.out).mono ?_
        rintro e wx8 ⟨⟨yv, rfl, hy⟩, hb⟩
        rw [HE.out.2, HEB.out] at hy
        rw [HE.out.1]
        have V8 := hid (V7.out.below hb)
        have U8 := hid (HU.out.below hb)
        have HB8 := hid (below_trans HB7.out hb)
        have Y8 := hid (hy)
        clear hb V7 HU HB7
        clear hy
        go_wp2_with fail
        refine (bytes_calls _ _ _ _ _ Y8.out V8.out).mono ?_
        rintro e wx9 ⟨rfl, rfl⟩
        rw [beq_self_eq_true]
        go_wp2_with fail
        refine (lossy_calls _ b _ V8.out HL2.out).mono ?_
        rintro e wx10 ⟨⟨rv, rfl, hr⟩, hb⟩
        rw [HLO.out] at hr
        have V9 := hid (V8.out.below hb)
        have U9 := hid (U8.out.below hb)
        have HB9 := hid (below_trans HB8.out hb)
        have R9 := hid (hr.row)
        clear hb V8 U8 HB8
        clear hr
        go_wp2_with fail
        refine (ints_calls _ _ _ _ _ R9.out U9.out).mono ?_
        rintro e wx11 ⟨rfl, hb⟩
        rw [beq_self_eq_true]
        have V10 := hid (V9.out.below hb)
        have HB10 := hid (below_trans HB9.out hb)
        clear hb V9 HB9
        go_wp2_with fail
        refine (lossy_calls _ b _ V10.out HL2.out).mono ?_
        rintro e wx12 ⟨⟨pv, rfl, hp⟩, hb⟩
        have HPP := hid hp.row
        obtain ⟨ap, cp, rfl, -⟩ := hp.row
        clear hp
        have V11 := hid (V10.out.below hb)
        have HB11 := hid (below_trans HB10.out hb)
        have P11 := hid (HPP.out)
        clear hb V10 HB10
        go_wp2_with fail
        refine (encode_calls _ (lossyL b) _ P11.out HL4.out).mono ?_
        rintro e wx13 ⟨⟨zv, rfl, hz⟩, hb⟩
        rw [(enc_yes HW.out.1).2] at hz
        rw [(enc_yes HW.out.1).1]
        have V12 := hid (V11.out.below hb)
        have P12 := hid (P11.out.below hb)
        have HB12 := hid (below_trans HB11.out hb)
        have Z12 := hid (hz)
        clear hb V11 P11 HB11
        clear hz
        go_wp2_with fail
        refine (decode_calls _ (encL (lossyL b)) _ Z12.out HL5.out).mono ?_
        rintro e wx14 ⟨⟨qv, rfl, hq⟩, hb⟩
        rw [(signs_back HW.out.1).2.2] at hq
        rw [(signs_back HW.out.1).1, (signs_back HW.out.1).2.1]
        have V13 := hid (V12.out.below hb)
        have P13 := hid (P12.out.below hb)
        have HB13 := hid (below_trans HB12.out hb)
        have Q13 := hid (hq)
        clear hb V12 P12 HB12
        clear hq
        go_wp2_with fail
        refine (first_calls _).mono ?_
        rintro e wx15 ⟨rfl, hb⟩
        have V14 := hid (V13.out.below hb)
        have P14 := hid (P13.out.below hb)
        have Q14 := hid (Q13.out.below hb)
        have HB14 := hid (below_trans HB13.out hb)
        clear hb V13 P13 Q13 HB13
        go_wp2_with fail
        refine (ints_calls _ _ _ _ _ Q14.out P14.out).mono ?_
        rintro e wx16 ⟨rfl, hb⟩
        rw [beq_self_eq_true]
        have V15 := hid (V14.out.below hb)
        have HB15 := hid (below_trans HB14.out hb)
        clear hb V14 HB14
        have lw := HLW.out
        go_wp2_with fail
        go_ret
        exact ⟨rfl, HB15.out⟩
  · have hl' : ¬ (l.length : Int) ≤ 8000 ∨ ((l.length : Int) ≤ 8000 ∧ ¬ (b.length : Int) ≤ 8000) := by omega
    clear hl HA HV
    rcases hl' with h | ⟨h, h'⟩
    all_goals
      go_enter Try.func5, Try.ntmps5
      go_wp2_with fail
      refine (first_calls _).mono ?_
      rintro e w1 ⟨rfl, hb1⟩
      have HB1 := hid hb1
      clear hb1
      go_wp2_with fail
      refine (first_calls _).mono ?_
      rintro e w2 ⟨rfl, hb2⟩
      have HB2 := hid (below_trans HB1.out hb2)
      clear hb2 HB1
      go_wp2_with fail
      go_ret
      exact ⟨rfl, HB2.out⟩
end Go.Proofs.Ytjcckmpipmoaoaa
