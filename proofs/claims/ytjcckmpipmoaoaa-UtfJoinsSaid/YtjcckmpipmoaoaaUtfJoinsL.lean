/- The walk of the statement 'more behind'. -/
import Derived.Test.YtjcckmpipmoaoaaUtfF
namespace Go.Proofs.Ytjcckmpipmoaoaa
open Go.RowKit
set_option linter.unusedVariables false
theorem encL_ge (l : List Int) : l.length ≤ (encL l).length := by
  induction l with
  | nil => simp
  | cons c l ih =>
    have := (enc_len c.toNat).1
    simp only [encL, List.flatMap_cons, List.length_append, List.length_cons] at ih ⊢; omega
theorem dec_is {b : List UInt8} {v : List Int} (h : decL b = some v) : v.all isS = true ∧ encL v = b ∧ v.length ≤ b.length := by
  have q := dec_some _ b v (Nat.le_refl _) h
  refine ⟨q.1, q.2, ?_⟩
  have := encL_ge v
  rw [q.2] at this
  exact this
/-- Of bytes that are read: no place, no error, their signs. -/
theorem dec_yes {b : List UInt8} {v : List Int} (h : decL b = some v) : placeD b = 0 ∧ errD b = 0 ∧ signsD b = v := by
  unfold placeD errD signsD; rw [h]; exact ⟨rfl, rfl, rfl⟩
theorem dec_no {b : List UInt8} (h : decL b = none) : placeD b = badN b ∧ errD b = 4 ∧ signsD b = [] := by
  unfold placeD errD signsD; rw [h]; exact ⟨rfl, rfl, rfl⟩
theorem below_alloc (w : World) (o : Obj) : Below w.heap.size w (w.alloc o) := (Below.refl _ _).alloc (Nat.le_refl _) _
set_option maxHeartbeats 2000000 in
theorem utfJoins_walk (va : Value) (a : List UInt8) (vb : Value) (b : List UInt8) (w : World) (ha : BRow w va a) (hb : BRow w vb b) :
    Calls Try.prog 6 #[va, vb] w fun e w' => e = .returned (.bool true) ∧ Below w.heap.size w w' := by
  have HA := hid ha
  have HV := hid hb
  obtain ⟨a1, cap1, rfl, -⟩ := ha
  obtain ⟨a2, cap2, rfl, -⟩ := hb
  by_cases hl : a.length ≤ 8000 ∧ b.length ≤ 8000
  · obtain ⟨g1, g2⟩ := hl
    have l1 : (a.length : Int) ≤ 8000 := by omega
    have l2 : (b.length : Int) ≤ 8000 := by omega
    have HL := hid (And.intro g1 g2)
    clear g1 g2
    go_enter Try.func6, Try.ntmps6
    go_wp2_with fail
    refine (first_calls _).mono ?_
    rintro e w1 ⟨rfl, hb1⟩
    have HB1 := hid hb1
    have HA1 := hid (HA.out.below hb1)
    have HV1 := hid (HV.out.below hb1)
    clear hb1 HA HV
    go_wp2_with fail
    refine (decode_calls _ a _ HA1.out (by have := HL.out; omega)).mono ?_
    rintro e w2 ⟨⟨xv, rfl, hx⟩, hb2⟩
    have HB2 := hid (below_trans HB1.out hb2)
    have HA2 := hid (HA1.out.below hb2)
    have HV2 := hid (HV1.out.below hb2)
    clear hb2 HA1 HV1 HB1
    cases hd : decL a with
    | none =>
      obtain ⟨e1, e2, e3⟩ := dec_no hd
      rw [e1, e2]
      clear hx e1 e2 e3 hd
      go_wp2_with fail
      refine (first_calls _).mono ?_
      rintro e w3 ⟨rfl, hb3⟩
      have HB3 := hid (below_trans HB2.out hb3)
      clear hb3 HB2
      go_wp2_with fail
      go_ret
      exact ⟨rfl, HB3.out⟩
    | some o =>
      obtain ⟨e1, e2, e3⟩ := dec_yes hd
      obtain ⟨d1, d2, d3⟩ := dec_is hd
      rw [e1, e2]
      rw [e3] at hx
      have HX2 := hid hx
      have HE : Hid (lossyL (a ++ b) = o ++ lossyL b) := by
        show lossyL (a ++ b) = _
        rw [← d2]; exact lossy_enc o b d1
      have HD := hid d3
      clear hx e1 e2 e3 hd d1 d2 d3
      go_wp2_with fail
      refine (copy_calls _ a _ HA2.out (by have := HL.out; omega)).mono ?_
      rintro e w3 ⟨⟨cv, rfl, hc⟩, hb3⟩
      obtain ⟨av, w4, hr, ho4, hg4⟩ := append_run hc (HV2.out.below hb3) (by have := HL.out; omega) hb3.size
      have hb4 := hb3.grown hg4 hb3.size (Own.lt hc)
      have HY4 := hid ho4.row
      have HX4 := hid (HX2.out.below hb4)
      have HV4 := hid (HV2.out.below hb4)
      have HB4 := hid (below_trans HB2.out hb4)
      clear hb3 hb4 hc ho4 hg4 HX2 HV2 HB2 HA2
      go_wp2_with (at_builtin; go_must (refine wpList_append_run hr rfl _ _ rfl rfl rfl rfl ?_))
      refine (lossy_calls _ (a ++ b) _ HY4.out (by have := HL.out; rw [List.length_append]; omega)).mono ?_
      rintro e w5 ⟨⟨yv, rfl, hy⟩, hb5⟩
      rw [HE.out] at hy
      have HY5 := hid hy.row
      have HX5 := hid (HX4.out.below hb5)
      have HV5 := hid (HV4.out.below hb5)
      have HB5 := hid (below_trans HB4.out hb5)
      clear hr hb5 hy HX4 HV4 HB4 HY4
      go_wp2_with fail
      refine (first_calls _).mono ?_
      rintro e w6 ⟨rfl, hb6⟩
      have HY6 := hid (HY5.out.below hb6)
      have HX6 := hid (HX5.out.below hb6)
      have HV6 := hid (HV5.out.below hb6)
      have HB6 := hid (below_trans HB5.out hb6)
      clear hb6 HX5 HV5 HB5 HY5
      go_wp2_with fail
      refine (copyI_calls _ o _ HX6.out (by have := HL.out; have := HD.out; omega)).mono ?_
      rintro e w7 ⟨⟨zv, rfl, hz⟩, hb7⟩
      have HV7 := hid (HV6.out.below hb7)
      have HB7 := hid hb7
      have HZ7 := hid hz
      have HS7 := hid hb7.size
      clear hb7 hz HX6 HV6
      go_wp2_with fail
      refine (lossy_calls _ b _ HV7.out (by have := HL.out; omega)).mono ?_
      rintro e w8 ⟨⟨uv, rfl, hu⟩, hb8⟩
      obtain ⟨rv, w9, hr, ho9, hg9⟩ := appendI_run (HZ7.out.below hb8) hu.row (by have := HL.out; have := HD.out; have := (lossy_all _ b (Nat.le_refl _)).2; omega) (Nat.le_trans HS7.out hb8.size)
      have hb9 : Below w6.heap.size w6 w9 := HB7.out.trans ((hb8.mono HS7.out).grown hg9 (Nat.le_trans HS7.out hb8.size) (Own.lt HZ7.out))
      have HB9 := hid (below_trans HB6.out hb9)
      have HY9 := hid (HY6.out.below hb9)
      have HR9 := hid ho9.row
      clear hu hb8 hb9 ho9 hg9 HY6 HV7 HZ7 HB7 HB6
      go_wp2_with (at_builtin; go_must (refine wpList_append_on hr rfl _ _ rfl rfl rfl rfl ?_))
      refine (ints_calls _ _ _ _ _ HY9.out HR9.out).mono ?_
      rintro e w10 ⟨rfl, hb10⟩
      rw [beq_self_eq_true]
      have HB10 := hid (below_trans HB9.out hb10)
      clear hb10 HB9 hr HY9 HR9
      go_wp2_with fail
      go_ret
      exact ⟨rfl, HB10.out⟩
  · have hl' : ¬ (a.length : Int) ≤ 8000 ∨ ((a.length : Int) ≤ 8000 ∧ ¬ (b.length : Int) ≤ 8000) := by omega
    clear hl HA HV
    rcases hl' with h | ⟨h, h'⟩
    all_goals
      go_enter Try.func6, Try.ntmps6
      go_wp2_with fail
      refine (first_calls _).mono ?_
      rintro e w1 ⟨rfl, hb1⟩
      have HB1 := hid hb1
      clear hb1
      go_wp2_with fail
      refine (first_calls _).mono ?_
      rintro e w2 ⟨rfl, hb2⟩
      have HB2 := hid (below_trans HB1.out hb2)
      clear hb2 HB1
      go_wp2_with fail
      go_ret
      exact ⟨rfl, HB2.out⟩
end Go.Proofs.Ytjcckmpipmoaoaa
