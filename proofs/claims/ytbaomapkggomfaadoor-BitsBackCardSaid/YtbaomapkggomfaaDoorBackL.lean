/- The walk of the statement 'there and back'. -/
import Derived.Test.YtbaomapkggomfaaDoorUnhexW
import Derived.Test.YtbaomapkggomfaaDoorGetW
namespace Go.Proofs.YtbaomapkggomfaaDoor
open Go.RowKit
set_option linter.unusedVariables false
theorem put_len (n width : Nat) : (putL n width).length = width := by simp [putL]
theorem get_put_take (n width : Nat) (h : n < 256 ^ width) : ∀ j, j ≤ width → getN ((putL n width).take j) = n / 256 ^ (width - j) := by
  intro j
  induction j with
  | zero => intro _; rw [List.take_zero, Nat.sub_zero, Nat.div_eq_of_lt h]; rfl
  | succ j ih =>
    intro hj
    have e : (putL n width)[j]'(by rw [put_len]; omega) = UInt8.ofNat (n / 256 ^ (width - 1 - j)) := by simp [putL]
    rw [get_snoc _ j (by rw [put_len]; omega), ih (by omega), e]
    have p : n / 256 ^ (width - j) = n / 256 ^ (width - (j + 1)) / 256 := by
      rw [Nat.div_div_eq_div_mul, ← Nat.pow_succ, show (width - (j + 1)).succ = width - j by omega]
    rw [p, show width - 1 - j = width - (j + 1) by omega]
    simp
    omega
theorem get_put (n width : Nat) (h : n < 256 ^ width) : getN (putL n width) = n := by
  have := get_put_take n width h width (Nat.le_refl _)
  rw [List.take_of_length_le (by rw [put_len]; omega), Nat.sub_self, Nat.pow_zero, Nat.div_one] at this
  exact this
theorem part_end (l p : List UInt8) : ((l ++ p).drop l.length).take p.length = p := by simp
theorem strOf_data (l : List UInt8) : (strOf l).data.toList = l := rfl
theorem strOf_size (l : List UInt8) : (strOf l).size = l.length := by rw [← data_len, strOf_data]
/-- What Put answers: an error and nothing, or the number's bytes. -/
def PutPost (n width : Int) (w : World) (r : Ending) (w' : World) : Prop :=
  (∃ v p e, r = .returned (.tuple #[v, .int .i64 e]) ∧ BRow w' v p ∧ ((e = 1 ∧ p = []) ∨ (e = 0 ∧ 1 ≤ width ∧ width ≤ 6 ∧ 0 ≤ n ∧ (p.length : Int) = width ∧ (getN p : Int) = n))) ∧ Below w.heap.size w w'
theorem put_post (n width : Int) (w : World) (hn : -9223372036854775808 ≤ n ∧ n ≤ 9223372036854775807) : Calls Tryd.prog 11 #[.int .i64 n, .int .i64 width] w fun r w' => PutPost n width w r w' := by
  by_cases h1 : 1 ≤ width ∧ width ≤ 6 ∧ 0 ≤ n
  · obtain ⟨h1, h2, h3⟩ := h1
    obtain ⟨m, rfl⟩ := Int.eq_ofNat_of_zero_le h3
    obtain ⟨k, rfl⟩ := Int.eq_ofNat_of_zero_le (show 0 ≤ width by omega)
    have ek : (8 * (k : Int)).toNat = 8 * k := by omega
    have pw : (2 : Int) ^ (8 * k) = ((256 ^ k : Nat) : Int) := by rw [show (256 : Nat) = 2 ^ 8 from rfl, ← Nat.pow_mul]; simp
    by_cases h4 : m / 256 ^ k = 0
    · have q : (m : Int) / 2 ^ (8 * k) = 0 := by rw [pw]; exact_mod_cast h4
      refine (put_ok m k w (by omega) (by omega) (by omega) (by rw [q]; rfl)).mono ?_
      rintro r w' ⟨⟨v, rfl, hv⟩, hb⟩
      have hlt : m < 256 ^ k := by
        rcases Nat.lt_or_ge m (256 ^ k) with h | h
        · exact h
        · have := Nat.div_pos h (Nat.pow_pos (by decide)); omega
      exact ⟨⟨v, putL m k, 0, rfl, hv, .inr ⟨rfl, h1, h2, h3, by rw [put_len], by rw [get_put m k hlt]⟩⟩, hb⟩
    · have q : 0 < (m : Int) / 2 ^ (8 * k) := by
        rw [pw]
        have : 0 < m / 256 ^ k := Nat.pos_of_ne_zero h4
        exact_mod_cast this
      refine (put_big _ _ w (by omega) (by omega) (by omega) (by omega) (by rw [ek, beq_eq_false_iff_ne]; omega)).mono ?_
      rintro e w' ⟨rfl, rfl⟩
      exact ⟨⟨_, [], 1, rfl, nil_row _, .inl ⟨rfl, rfl⟩⟩, Below.refl _ _⟩
  · refine (put_bad _ _ w (by omega)).mono ?_
    rintro e w' ⟨rfl, rfl⟩
    exact ⟨⟨_, [], 1, rfl, nil_row _, .inl ⟨rfl, rfl⟩⟩, Below.refl _ _⟩
set_option maxHeartbeats 2000000 in
theorem bitsBack_walk (n width : Int) (v : Value) (l : List UInt8) (w : World) (ht : Tab w) (hn : -9223372036854775808 ≤ n ∧ n ≤ 9223372036854775807) (hw : -9223372036854775808 ≤ width ∧ width ≤ 9223372036854775807) (hv : BRow w v l) :
    Calls Tryd.prog 7 #[.int .i64 n, .int .i64 width, v] w fun e w' => e = .returned (.bool true) ∧ Below w.heap.size w w' := by
  have HT := hid ht
  have HV := hid hv
  have HP := hid (fun w => put_post n width w hn)
  obtain ⟨a, cap, rfl, c1, c2, c3⟩ := hv
  clear ht hn hw c3
  unfold maxLen at c2
  by_cases hl : l.length ≤ 8000
  · go_enter Tryd.func7, Tryd.ntmps7
    go_wp2_with fail
    refine (first_calls _ HT.out).mono ?_
    rintro e w1 ⟨rfl, hb1⟩
    have HT1 := hid (Tab.below HT.out hb1 HT.out.pos)
    have HB1 := hid hb1
    have HV1 := hid (HV.out.below hb1)
    clear hb1 HT HV
    go_wp2_with fail
    refine (HP.out _).mono ?_
    rintro e w2 ⟨⟨xv, p, en, rfl, hx, hp⟩, hb2⟩
    have HX2 := hid hx
    have HQ := hid hp
    have HT2 := hid (Tab.below HT1.out hb2 HT1.out.pos)
    have HV2 := hid (HV1.out.below hb2)
    have HB2 := hid (below_trans HB1.out hb2)
    clear hb2 hx hp HT1 HV1 HB1 HP
    go_wp2_with fail
    refine (hex_calls _ l _ HV2.out (by omega)).mono ?_
    rintro e w3 ⟨rfl, hb3⟩
    have HX3 := hid (HX2.out.below hb3)
    have HT3 := hid (Tab.below HT2.out hb3 HT2.out.pos)
    have HV3 := hid (HV2.out.below hb3)
    have HB3 := hid (below_trans HB2.out hb3)
    clear hb3 HX2 HT2 HV2 HB2
    go_wp2_with fail
    refine (unhex_calls (strOf (hexL l)) _ (by rw [strOf_size, hex_len]; omega)).mono ?_
    rintro e w4 ⟨⟨uv, o, ok, rfl, hu, hok⟩, hb4⟩
    obtain ⟨rfl, rfl⟩ : ok = true ∧ o = l := by
      rcases hok with ⟨h1, h2⟩ | ⟨_, _, h⟩
      · exact ⟨h1, hex_inj (h2.trans (strOf_data _))⟩
      · exact absurd rfl (h l)
    have HU4 := hid hu
    have HX4 := hid (HX3.out.below hb4)
    have HT4 := hid (Tab.below HT3.out hb4 HT3.out.pos)
    have HV4 := hid (HV3.out.below hb4)
    have HB4 := hid (below_trans HB3.out hb4)
    clear hb4 hu hok HX3 HT3 HV3 HB3
    go_wp2_with fail
    refine (bytes_calls _ _ _ _ _ HU4.out HV4.out).mono ?_
    rintro e w5 ⟨rfl, rfl⟩
    rw [beq_self_eq_true]
    clear HU4
    rcases HQ.out with ⟨rfl, rfl⟩ | ⟨rfl, g1, g2, g3, g4, g5⟩
    · obtain ⟨ax, capx, rfl, x1, x2, x3⟩ := HX4.out
      unfold maxLen at x2
      clear x3 HQ
      go_wp2_with fail
      refine (first_calls _ HT4.out).mono ?_
      rintro e w6 ⟨rfl, hb6⟩
      have HB6 := hid (below_trans HB4.out hb6)
      clear hb6
      go_wp2_with fail
      go_ret
      exact ⟨by simp, HB6.out⟩
    · clear HQ
      obtain ⟨k, rfl⟩ := Int.eq_ofNat_of_zero_le (show 0 ≤ width by omega)
      obtain ⟨m, rfl⟩ := Int.eq_ofNat_of_zero_le g3
      have HL : Hid (p.length = k) := by show p.length = k; omega
      have HG : Hid (getN p = m) := by show getN p = m; omega
      clear g3 g4 g5
      obtain ⟨ax, capx, rfl, x1, x2, x3⟩ := HX4.out
      unfold maxLen at x2
      clear x3
      rw [HL.out] at x1 HX4 ⊢
      go_wp2_with fail
      refine (copy_calls _ o _ HV4.out (by omega)).mono ?_
      rintro e w6 ⟨⟨cv, rfl, hc⟩, hb6⟩
      have HX6 := hid (HX4.out.below hb6)
      have HT6 := hid (Tab.below HT4.out hb6 HT4.out.pos)
      have HV6 := hid (HV4.out.below hb6)
      have HB6 := hid (below_trans HB4.out hb6)
      obtain ⟨av, w7, hr, ho7, hg7⟩ := append_run hc HX6.out (by rw [HL.out]; omega) hb6.size
      have hb7 := hb6.grown hg7 hb6.size (fun k hk => (World.ownsRow.lt hc k hk).1)
      have HA7 := hid ho7.row
      have HX7 := hid (HX4.out.below hb7)
      have HT7 := hid (Tab.below HT4.out hb7 HT4.out.pos)
      have HV7 := hid (HV4.out.below hb7)
      have HB7 := hid (below_trans HB4.out hb7)
      clear hb6 hb7 hc ho7 hg7 HX6 HT6 HV6 HB6 HX4 HT4 HV4 HB4
      go_wp2_with (at_builtin; go_must (refine wpList_append_run hr rfl _ _ rfl rfl rfl rfl ?_))
      refine (get_ok _ (o ++ p) o.length k _ HA7.out (by omega) (by omega) (by rw [List.length_append, HL.out]; omega)).mono ?_
      rintro e w8 ⟨rfl, rfl⟩
      rw [show ((o ++ p).drop o.length).take k = p from by rw [← HL.out]; exact part_end o p, HG.out]
      clear hr HA7
      go_wp2_with fail
      refine (copy_calls _ o _ HV7.out (by omega)).mono ?_
      rintro e w9 ⟨⟨cv2, rfl, hc⟩, hb9⟩
      have HX9 := hid (HX7.out.below hb9)
      obtain ⟨av2, w10, hr, ho10, hg10⟩ := append_run hc HX9.out (by rw [HL.out]; omega) hb9.size
      have hb10 := hb9.grown hg10 hb9.size (fun k hk => (World.ownsRow.lt hc k hk).1)
      have HA10 := hid ho10.row
      have HT10 := hid (Tab.below HT7.out hb10 HT7.out.pos)
      have HB10 := hid (below_trans HB7.out hb10)
      clear hb9 hb10 hc ho10 hg10 HX9 HX7 HT7 HV7 HB7
      go_wp2_with (at_builtin; go_must (refine wpList_append_run hr rfl _ _ rfl rfl rfl rfl ?_))
      refine (get_short _ (o ++ p) ((o.length : Int) + 1) (k : Int) _ HA10.out (by omega) (by omega) (by omega) (by rw [List.length_append, HL.out]; omega) (by rw [List.length_append, HL.out]; omega)).mono ?_
      rintro e w11 ⟨rfl, rfl⟩
      clear hr HA10
      go_wp2_with fail
      refine (first_calls _ HT10.out).mono ?_
      rintro e w12 ⟨rfl, hb12⟩
      have HB12 := hid (below_trans HB10.out hb12)
      clear hb12
      go_wp2_with fail
      go_ret
      exact ⟨by simp, HB12.out⟩
  · go_enter Tryd.func7, Tryd.ntmps7
    go_wp2_with fail
    refine (first_calls _ HT.out).mono ?_
    rintro e w1 ⟨rfl, hb1⟩
    have HT1 := hid (Tab.below HT.out hb1 HT.out.pos)
    have HB1 := hid hb1
    clear hb1
    go_wp2_with fail
    refine (first_calls _ HT1.out).mono ?_
    rintro e w2 ⟨rfl, hb2⟩
    have HB2 := hid (below_trans HB1.out hb2)
    clear hb2 HT HT1 HB1
    go_wp2_with fail
    go_ret
    exact ⟨rfl, HB2.out⟩
end Go.Proofs.YtbaomapkggomfaaDoor
