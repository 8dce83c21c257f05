/- The walk of the statement 'how many bytes'. -/
import Derived.Test.YtjcckmpipmoaoaaUtfSignsL
namespace Go.Proofs.Ytjcckmpipmoaoaa
open Go.RowKit
set_option linter.unusedVariables false
theorem enc_tail (c k : Nat) (h : k < (encN c).length) (hk : 1 ≤ k) (hc : c ≤ 1114111) : 128 ≤ (encN c)[k].toNat ∧ (encN c)[k].toNat ≤ 191 := by
  have t : ∀ p, p < 64 → 128 ≤ (b8 (128 + p)).toNat ∧ (b8 (128 + p)).toNat ≤ 191 := fun p hp => by rw [b8_nat _ (by omega)]; omega
  have m : ∀ p, p % 64 < 64 := fun p => Nat.mod_lt _ (by decide)
  have gen : ∀ (l : List UInt8) (e : encN c = l) (h' : k < l.length), (encN c)[k] = l[k] := fun l e h' => by subst e; rfl
  by_cases h1 : c < 128
  · rw [enc1 h1] at h; simp at h; omega
  · by_cases h2 : c < 2048
    · have e := enc2 h1 h2
      have h' := h
      rw [e] at h'
      rw [gen _ e h']
      match k, hk, h' with
      | 1, _, _ => exact t _ (m _)
      | k + 2, _, h' => simp at h'; omega
    · by_cases h3 : c < 65536
      · have e := enc3 h2 h3
        have h' := h
        rw [e] at h'
        rw [gen _ e h']
        match k, hk, h' with
        | 1, _, _ => exact t _ (m _)
        | 2, _, _ => exact t _ (m _)
        | k + 3, _, h' => simp at h'; omega
      · have e := enc4 h3
        have h' := h
        rw [e] at h'
        rw [gen _ e h']
        match k, hk, h' with
        | 1, _, _ => exact t _ (m _)
        | 2, _, _ => exact t _ (m _)
        | 3, _, _ => exact t _ (m _)
        | k + 4, _, h' => simp at h'; omega
theorem long_next (r : List UInt8) : nextN (240 :: 128 :: r) = (65533, 1, false) := by
  rw [next_cons 240 _ (show st (240 : UInt8).toNat = some (0, 3, 144, 191) by decide +kernel), goN, if_pos (by left; decide)]
theorem long_dec (x y : UInt8) : placeD [120, 240, 128, x, y] = 1 ∧ errD [120, 240, 128, x, y] = 4 := by
  have n1 : nextN [120, 240, 128, x, y] = (120, 1, true) := by
    rw [next_cons 120 _ (show st (120 : UInt8).toNat = some (120, 0, 128, 191) by decide +kernel), goN]
  have n2 := long_next [x, y]
  have hd : decL [120, 240, 128, x, y] = none := by
    rw [dec_cons (by simp) (by rw [n1]), n1]
    show (decL [240, 128, x, y]).map _ = none
    rw [dec_fail (by simp) (by rw [n2])]; rfl
  have hb : badN [120, 240, 128, x, y] = 1 := by
    rw [bad_cons (by simp) (by rw [n1]), n1]
    show 1 + badN [240, 128, x, y] = 1
    rw [bad_fail (by simp) (by rw [n2])]
  unfold placeD errD; rw [hd, hb]; exact ⟨rfl, rfl⟩
theorem lit_own (w : World) (x : UInt8) : BOwn (w.alloc (.cells #[.int .u8 (x.toNat : Int)] 5)) w.heap.size (.slice (some ⟨w.heap.size, 0, none⟩) 1 1) [x] := Own.lit fb 5 w [x] (by simp)
theorem lit_four (w : World) (x y : UInt8) : BRow (w.alloc (.cells #[.int .u8 240, .int .u8 128, .int .u8 (x.toNat : Int), .int .u8 (y.toNat : Int)] 5)) (.slice (some ⟨w.heap.size, 0, none⟩) 4 4) [240, 128, x, y] := Row.lit fb w [240, 128, x, y] 5 (0, 0) (by simp)
/-- One sign, and the four bytes behind it. -/
theorem long_append (w : World) (x y : UInt8) : ∃ v' w', (Builtin.append_ #[23, 23] 23 #[.slice (some ⟨w.heap.size + 1, 0, none⟩) 1 1, .slice (some ⟨w.heap.size, 0, none⟩) 4 4]).run Try.prog ((w.alloc (.cells #[.int .u8 240, .int .u8 128, .int .u8 (x.toNat : Int), .int .u8 (y.toNat : Int)] 5)).alloc (.cells #[.int .u8 120] 5)) = .ok v' w' ∧ BRow w' v' [120, 240, 128, x, y] ∧ Below w.heap.size w w' := by
  have ho := lit_own (w.alloc (.cells #[.int .u8 240, .int .u8 128, .int .u8 (x.toNat : Int), .int .u8 (y.toNat : Int)] 5)) 120
  have hx := (lit_four w x y).below ((Below.refl _ _).alloc (Nat.le_refl _) (.cells #[.int .u8 ((120 : UInt8).toNat : Int)] 5))
  obtain ⟨v', w', hr, ho', hg⟩ := append_run ho hx (by simp) (by simp)
  simp only [World.size_alloc] at hr
  refine ⟨v', w', hr, ho'.row, ?_⟩
  exact (((Below.refl w.heap.size w).alloc (Nat.le_refl _) _).alloc (by simp) _).grown hg (by simp; omega) (fun k hk => by have := Own.lt ho k hk; simp at this; omega)
set_option maxRecDepth 20000 in
set_option maxHeartbeats 4000000 in
theorem utfWidths_a (c : Nat) (w : World) (hs : isS (c : Int) = true) (h1 : 0 ≤ c) (h2 : c ≤ 127) :
    Calls Try.prog 7 #[.int .i64 (c : Int)] w fun e w' => e = .returned (.bool true) ∧ Below w.heap.size w w' := by
  have HE : Hid (errE [(c : Int)] = 0 ∧ bytesE [(c : Int)] = encN c) := by
    rcases bytesE_one (c : Int) with ⟨_, a, b⟩ | ⟨a, _, _⟩
    · exact ⟨a, b⟩
    · rw [hs] at a; cases a
  have hen := (enc1 (by omega) : encN c = _)
  have hlen : (encN c).length = 1 := by rw [hen]; rfl
  have HT := hid (fun k h hk => enc_tail c k h hk (by omega))
  obtain ⟨y0, hy0⟩ : ∃ y : Nat, y = c := ⟨_, rfl⟩
  have H0 : Hid (∀ h : 0 < (encN c).length, (encN c)[0].toNat = y0) := by
    intro h
    have gen : ∀ (l : List UInt8) (e : encN c = l) (h' : 0 < l.length), (encN c)[0] = l[0] := fun l e h' => by subst e; rfl
    rw [gen _ hen (by simp), hy0]
    exact b8_nat _ (by omega)
  obtain ⟨p1, q1⟩ : ∃ p : Nat, p = c / 64 := ⟨_, rfl⟩
  have d1 : (c : Int) / 64 = (p1 : Int) := by omega
  have l0 := low6 c (by omega)
  have l1 := low6 p1 (by omega)
  have k0 : c % 64 < 64 := Nat.mod_lt _ (by decide)
  have k1 : p1 % 64 < 64 := Nat.mod_lt _ (by decide)
  have n0 := i64mark 128 (c % 64) 6 2 rfl k0 (by omega)
  have n1 := i64mark 128 (p1 % 64) 6 2 rfl k1 (by omega)
  rw [show ((128 : Nat) : Int) = 128 from rfl] at n0 n1
  generalize c % 64 = r0 at *
  generalize p1 % 64 = r1 at *
  generalize b8 (128 + r0) = x0 at *
  generalize b8 (128 + r1) = x1 at *
  have z0 : (x0.toNat : Int) < 256 := by have := byte_lt x0; omega
  have z1 : (x1.toNat : Int) < 256 := by have := byte_lt x1; omega
  have g0 : decide ((128 : Int) ≤ (c : Int)) = false := by rw [decide_eq_false_iff_not]; omega
  have g1 : decide ((2048 : Int) ≤ (c : Int)) = false := by rw [decide_eq_false_iff_not]; omega
  have g2 : decide ((65536 : Int) ≤ (c : Int)) = false := by rw [decide_eq_false_iff_not]; omega
  have g3 : decide ((4096 : Int) ≤ (c : Int)) = false := by rw [decide_eq_false_iff_not]; omega
  have y1 : (y0 : Int) < 128 := by omega
  have HLD := hid (long_dec x1 x0)
  have HAP := hid (fun w => long_append w x1 x0)
  clear h1 h2 hs hen hy0 q1 k0 k1
  go_enter Try.func7, Try.ntmps7
  go_wp2_with fail
  refine (first_calls _).mono ?_
  rintro e w1 ⟨rfl, hb1⟩
  have HB1 := hid hb1
  clear hb1
  go_wp2_with fail
  refine (encode_calls _ [(c : Int)] _ (litI w1 [(c : Int)] (by simp)) (by simp)).mono ?_
  rintro e w2 ⟨⟨v, rfl, hv⟩, hb⟩
  have HB2 := hid (HB1.out.trans ((((Below.refl _ _).alloc (Nat.le_refl w1.heap.size) (.cells #[.int .i64 (c : Int)] 3)).trans (hb.mono (by simp))).mono HB1.out.size))
  clear hb HB1
  rw [HE.out.1]
  rw [HE.out.2] at hv
  obtain ⟨a, cap, rfl, q1, q2, q3⟩ := hv
  obtain ⟨b, off, rfl, hbl, hc⟩ := q3 (by intro h; rw [h] at hlen; simp at hlen)
  have HC := hid hc
  have c0 : w2.cell? ⟨b, off, none⟩ = some (.int .u8 (y0 : Int)) := by
    have q := hc 0 (by rw [hlen]; decide)
    rw [show fb (encN c)[0] = .int .u8 (y0 : Int) by unfold fb; rw [H0.out]] at q
    exact q
  have HC0 := hid c0
  rw [hlen] at q1 ⊢
  have HLEN := hid hlen
  have cc1 : (1 : Int) ≤ (cap : Int) := by omega
  clear hc q3 q1 q2 hlen c0 HE H0
  go_wp2_with fail
  go_loop [6] (fun i => ∃ k : Nat, 1 ≤ k ∧ k ≤ 1 ∧ i = .int .i64 (k : Int)) (fun i => 1 - (intOf i).toNat)
  case atStart => exact ⟨1, Nat.le_refl _, by decide, rfl⟩
  case round =>
    obtain ⟨k, hk1, hkn, rfl⟩ := hrel
    by_cases hlt : k < 1
    · have hk : k < (encN c).length := by rw [HLEN.out]; exact hlt
      have hck : w2.cell? ⟨b, off + k, none⟩ = some (.int .u8 ((encN c)[k].toNat : Int)) := HC.out k hk
      obtain ⟨t1, t2⟩ := HT.out k hk hk1
      generalize (encN c)[k].toNat = y at *
      have t3 : (128 : Int) ≤ (y : Int) := by omega
      have t4 : (y : Int) ≤ 191 := by omega
      have k2 : (k : Int) < 1 := by omega
      have HK := hid (And.intro hk1 hlt)
      clear t1 t2 hk hk1 hkn hlt
      go_wp2_with fail
      go_round
      case rel => exact ⟨k + 1, by omega, by have := HK.out; omega, by go_num⟩
      case measure => have := HK.out; simp [intOf]; omega
    · have k2 : ¬ (k : Int) < 1 := by omega
      clear hk1 hkn hlt HT HC HLEN
      obtain ⟨v3, w3, hr, hv3, hb3⟩ := HAP.out w2
      have HV3 := hid hv3
      have HB3 := hid (below_trans HB2.out hb3)
      have HC3 := hid ((hb3.cell (p := ⟨b, off, none⟩) hbl).trans HC0.out)
      have HBL := hid (Nat.lt_of_lt_of_le hbl hb3.size)
      clear hv3 hb3 HB2 HC0 HAP hbl
      go_wp2_with (at_builtin; go_must (refine wpList_append_run hr rfl _ _ rfl rfl rfl rfl ?_))
      refine (decode_calls _ [120, 240, 128, x1, x0] _ HV3.out (by simp)).mono ?_
      rintro e w4 ⟨⟨v4, rfl, hv4⟩, hb4⟩
      rw [HLD.out.1, HLD.out.2]
      have HB4 := hid (below_trans HB3.out hb4)
      have HC4 := hid ((hb4.cell (p := ⟨b, off, none⟩) HBL.out).trans HC3.out)
      have HBL4 := hid (Nat.lt_of_lt_of_le HBL.out hb4.size)
      clear hv4 hb4 HB3 HC3 HBL HV3 hr
      go_wp2_with fail
      refine (first_calls _).mono ?_
      rintro e w5 ⟨rfl, hb5⟩
      have HB5 := hid (below_trans HB4.out hb5)
      have c5 : w5.cell? ⟨b, off, none⟩ = some (.int .u8 (y0 : Int)) := (hb5.cell (p := ⟨b, off, none⟩) HBL4.out).trans HC4.out
      clear hb5 HB4 HC4 HBL4
      go_wp2_with fail
      go_ret
      exact ⟨by first | rfl | exact ret_bool (by simp; omega), HB5.out⟩
set_option maxRecDepth 20000 in
set_option maxHeartbeats 4000000 in
theorem utfWidths_b (c : Nat) (w : World) (hs : isS (c : Int) = true) (h1 : 128 ≤ c) (h2 : c ≤ 2047) :
    Calls Try.prog 7 #[.int .i64 (c : Int)] w fun e w' => e = .returned (.bool true) ∧ Below w.heap.size w w' := by
  have HE : Hid (errE [(c : Int)] = 0 ∧ bytesE [(c : Int)] = encN c) := by
    rcases bytesE_one (c : Int) with ⟨_, a, b⟩ | ⟨a, _, _⟩
    · exact ⟨a, b⟩
    · rw [hs] at a; cases a
  have hen := (enc2 (by omega) (by omega) : encN c = _)
  have hlen : (encN c).length = 2 := by rw [hen]; rfl
  have HT := hid (fun k h hk => enc_tail c k h hk (by omega))
  obtain ⟨y0, hy0⟩ : ∃ y : Nat, y = 192 + c / 64 := ⟨_, rfl⟩
  have H0 : Hid (∀ h : 0 < (encN c).length, (encN c)[0].toNat = y0) := by
    intro h
    have gen : ∀ (l : List UInt8) (e : encN c = l) (h' : 0 < l.length), (encN c)[0] = l[0] := fun l e h' => by subst e; rfl
    rw [gen _ hen (by simp), hy0]
    exact b8_nat _ (by omega)
  obtain ⟨p1, q1⟩ : ∃ p : Nat, p = c / 64 := ⟨_, rfl⟩
  have d1 : (c : Int) / 64 = (p1 : Int) := by omega
  have l0 := low6 c (by omega)
  have l1 := low6 p1 (by omega)
  have k0 : c % 64 < 64 := Nat.mod_lt _ (by decide)
  have k1 : p1 % 64 < 64 := Nat.mod_lt _ (by decide)
  have n0 := i64mark 128 (c % 64) 6 2 rfl k0 (by omega)
  have n1 := i64mark 128 (p1 % 64) 6 2 rfl k1 (by omega)
  rw [show ((128 : Nat) : Int) = 128 from rfl] at n0 n1
  generalize c % 64 = r0 at *
  generalize p1 % 64 = r1 at *
  generalize b8 (128 + r0) = x0 at *
  generalize b8 (128 + r1) = x1 at *
  have z0 : (x0.toNat : Int) < 256 := by have := byte_lt x0; omega
  have z1 : (x1.toNat : Int) < 256 := by have := byte_lt x1; omega
  have g0 : (128 : Int) ≤ (c : Int) := by omega
  have g1 : decide ((2048 : Int) ≤ (c : Int)) = false := by rw [decide_eq_false_iff_not]; omega
  have g2 : decide ((65536 : Int) ≤ (c : Int)) = false := by rw [decide_eq_false_iff_not]; omega
  have g3 : decide ((4096 : Int) ≤ (c : Int)) = false := by rw [decide_eq_false_iff_not]; omega
  have y1 : ¬ (y0 : Int) < 128 := by omega
  have y2 : (y0 : Int) / 32 = 6 := by omega
  have HLD := hid (long_dec x1 x0)
  have HAP := hid (fun w => long_append w x1 x0)
  clear h1 h2 hs hen hy0 q1 k0 k1
  go_enter Try.func7, Try.ntmps7
  go_wp2_with fail
  refine (first_calls _).mono ?_
  rintro e w1 ⟨rfl, hb1⟩
  have HB1 := hid hb1
  clear hb1
  go_wp2_with fail
  refine (encode_calls _ [(c : Int)] _ (litI w1 [(c : Int)] (by simp)) (by simp)).mono ?_
  rintro e w2 ⟨⟨v, rfl, hv⟩, hb⟩
  have HB2 := hid (HB1.out.trans ((((Below.refl _ _).alloc (Nat.le_refl w1.heap.size) (.cells #[.int .i64 (c : Int)] 3)).trans (hb.mono (by simp))).mono HB1.out.size))
  clear hb HB1
  rw [HE.out.1]
  rw [HE.out.2] at hv
  obtain ⟨a, cap, rfl, q1, q2, q3⟩ := hv
  obtain ⟨b, off, rfl, hbl, hc⟩ := q3 (by intro h; rw [h] at hlen; simp at hlen)
  have HC := hid hc
  have c0 : w2.cell? ⟨b, off, none⟩ = some (.int .u8 (y0 : Int)) := by
    have q := hc 0 (by rw [hlen]; decide)
    rw [show fb (encN c)[0] = .int .u8 (y0 : Int) by unfold fb; rw [H0.out]] at q
    exact q
  have HC0 := hid c0
  rw [hlen] at q1 ⊢
  have HLEN := hid hlen
  have cc1 : (2 : Int) ≤ (cap : Int) := by omega
  clear hc q3 q1 q2 hlen c0 HE H0
  go_wp2_with fail
  go_loop [6] (fun i => ∃ k : Nat, 1 ≤ k ∧ k ≤ 2 ∧ i = .int .i64 (k : Int)) (fun i => 2 - (intOf i).toNat)
  case atStart => exact ⟨1, Nat.le_refl _, by decide, rfl⟩
  case round =>
    obtain ⟨k, hk1, hkn, rfl⟩ := hrel
    by_cases hlt : k < 2
    · have hk : k < (encN c).length := by rw [HLEN.out]; exact hlt
      have hck : w2.cell? ⟨b, off + k, none⟩ = some (.int .u8 ((encN c)[k].toNat : Int)) := HC.out k hk
      obtain ⟨t1, t2⟩ := HT.out k hk hk1
      generalize (encN c)[k].toNat = y at *
      have t3 : (128 : Int) ≤ (y : Int) := by omega
      have t4 : (y : Int) ≤ 191 := by omega
      have k2 : (k : Int) < 2 := by omega
      have HK := hid (And.intro hk1 hlt)
      clear t1 t2 hk hk1 hkn hlt
      go_wp2_with fail
      go_round
      case rel => exact ⟨k + 1, by omega, by have := HK.out; omega, by go_num⟩
      case measure => have := HK.out; simp [intOf]; omega
    · have k2 : ¬ (k : Int) < 2 := by omega
      clear hk1 hkn hlt HT HC HLEN
      obtain ⟨v3, w3, hr, hv3, hb3⟩ := HAP.out w2
      have HV3 := hid hv3
      have HB3 := hid (below_trans HB2.out hb3)
      have HC3 := hid ((hb3.cell (p := ⟨b, off, none⟩) hbl).trans HC0.out)
      have HBL := hid (Nat.lt_of_lt_of_le hbl hb3.size)
      clear hv3 hb3 HB2 HC0 HAP hbl
      go_wp2_with (at_builtin; go_must (refine wpList_append_run hr rfl _ _ rfl rfl rfl rfl ?_))
      refine (decode_calls _ [120, 240, 128, x1, x0] _ HV3.out (by simp)).mono ?_
      rintro e w4 ⟨⟨v4, rfl, hv4⟩, hb4⟩
      rw [HLD.out.1, HLD.out.2]
      have HB4 := hid (below_trans HB3.out hb4)
      have HC4 := hid ((hb4.cell (p := ⟨b, off, none⟩) HBL.out).trans HC3.out)
      have HBL4 := hid (Nat.lt_of_lt_of_le HBL.out hb4.size)
      clear hv4 hb4 HB3 HC3 HBL HV3 hr
      go_wp2_with fail
      refine (first_calls _).mono ?_
      rintro e w5 ⟨rfl, hb5⟩
      have HB5 := hid (below_trans HB4.out hb5)
      have c5 : w5.cell? ⟨b, off, none⟩ = some (.int .u8 (y0 : Int)) := (hb5.cell (p := ⟨b, off, none⟩) HBL4.out).trans HC4.out
      clear hb5 HB4 HC4 HBL4
      go_wp2_with fail
      go_ret
      exact ⟨by first | rfl | exact ret_bool (by simp; omega), HB5.out⟩
set_option maxRecDepth 20000 in
set_option maxHeartbeats 4000000 in
theorem utfWidths_c (c : Nat) (w : World) (hs : isS (c : Int) = true) (h1 : 2048 ≤ c) (h2 : c ≤ 4095) :
    Calls Try.prog 7 #[.int .i64 (c : Int)] w fun e w' => e = .returned (.bool true) ∧ Below w.heap.size w w' := by
  have HE : Hid (errE [(c : Int)] = 0 ∧ bytesE [(c : Int)] = encN c) := by
    rcases bytesE_one (c : Int) with ⟨_, a, b⟩ | ⟨a, _, _⟩
    · exact ⟨a, b⟩
    · rw [hs] at a; cases a
  have hen := (enc3 (by omega) (by omega) : encN c = _)
  have hlen : (encN c).length = 3 := by rw [hen]; rfl
  have HT := hid (fun k h hk => enc_tail c k h hk (by omega))
  obtain ⟨y0, hy0⟩ : ∃ y : Nat, y = 224 + c / 4096 := ⟨_, rfl⟩
  have H0 : Hid (∀ h : 0 < (encN c).length, (encN c)[0].toNat = y0) := by
    intro h
    have gen : ∀ (l : List UInt8) (e : encN c = l) (h' : 0 < l.length), (encN c)[0] = l[0] := fun l e h' => by subst e; rfl
    rw [gen _ hen (by simp), hy0]
    exact b8_nat _ (by omega)
  obtain ⟨p1, q1⟩ : ∃ p : Nat, p = c / 64 := ⟨_, rfl⟩
  have d1 : (c : Int) / 64 = (p1 : Int) := by omega
  have l0 := low6 c (by omega)
  have l1 := low6 p1 (by omega)
  have k0 : c % 64 < 64 := Nat.mod_lt _ (by decide)
  have k1 : p1 % 64 < 64 := Nat.mod_lt _ (by decide)
  have n0 := i64mark 128 (c % 64) 6 2 rfl k0 (by omega)
  have n1 := i64mark 128 (p1 % 64) 6 2 rfl k1 (by omega)
  rw [show ((128 : Nat) : Int) = 128 from rfl] at n0 n1
  generalize c % 64 = r0 at *
  generalize p1 % 64 = r1 at *
  generalize b8 (128 + r0) = x0 at *
  generalize b8 (128 + r1) = x1 at *
  have z0 : (x0.toNat : Int) < 256 := by have := byte_lt x0; omega
  have z1 : (x1.toNat : Int) < 256 := by have := byte_lt x1; omega
  have g0 : (128 : Int) ≤ (c : Int) := by omega
  have g1 : (2048 : Int) ≤ (c : Int) := by omega
  have g2 : decide ((65536 : Int) ≤ (c : Int)) = false := by rw [decide_eq_false_iff_not]; omega
  have g3 : decide ((4096 : Int) ≤ (c : Int)) = false := by rw [decide_eq_false_iff_not]; omega
  have y1 : ¬ (y0 : Int) < 128 := by omega
  have y2 : (y0 : Int) / 16 = 14 := by omega
  have HLD := hid (long_dec x1 x0)
  have HAP := hid (fun w => long_append w x1 x0)
  clear h1 h2 hs hen hy0 q1 k0 k1
  go_enter Try.func7, Try.ntmps7
  go_wp2_with fail
  refine (first_calls _).mono ?_
  rintro e w1 ⟨rfl, hb1⟩
  have HB1 := hid hb1
  clear hb1
  go_wp2_with fail
  refine (encode_calls _ [(c : Int)] _ (litI w1 [(c : Int)] (by simp)) (by simp)).mono ?_
  rintro e w2 ⟨⟨v, rfl, hv⟩, hb⟩
  have HB2 := hid (HB1.out.trans ((((Below.refl _ _).alloc (Nat.le_refl w1.heap.size) (.cells #[.int .i64 (c : Int)] 3)).trans (hb.mono (by simp))).mono HB1.out.size))
  clear hb HB1
  rw [HE.out.1]
  rw [HE.out.2] at hv
  obtain ⟨a, cap, rfl, q1, q2, q3⟩ := hv
  obtain ⟨b, off, rfl, hbl, hc⟩ := q3 (by intro h; rw [h] at hlen; simp at hlen)
  have HC := hid hc
  have c0 : w2.cell? ⟨b, off, none⟩ = some (.int .u8 (y0 : Int)) := by
    have q := hc 0 (by rw [hlen]; decide)
    rw [show fb (encN c)[0] = .int .u8 (y0 : Int) by unfold fb; rw [H0.out]] at q
    exact q
  have HC0 := hid c0
  rw [hlen] at q1 ⊢
  have HLEN := hid hlen
  have cc1 : (3 : Int) ≤ (cap : Int) := by omega
  clear hc q3 q1 q2 hlen c0 HE H0
  go_wp2_with fail
  go_loop [6] (fun i => ∃ k : Nat, 1 ≤ k ∧ k ≤ 3 ∧ i = .int .i64 (k : Int)) (fun i => 3 - (intOf i).toNat)
  case atStart => exact ⟨1, Nat.le_refl _, by decide, rfl⟩
  case round =>
    obtain ⟨k, hk1, hkn, rfl⟩ := hrel
    by_cases hlt : k < 3
    · have hk : k < (encN c).length := by rw [HLEN.out]; exact hlt
      have hck : w2.cell? ⟨b, off + k, none⟩ = some (.int .u8 ((encN c)[k].toNat : Int)) := HC.out k hk
      obtain ⟨t1, t2⟩ := HT.out k hk hk1
      generalize (encN c)[k].toNat = y at *
      have t3 : (128 : Int) ≤ (y : Int) := by omega
      have t4 : (y : Int) ≤ 191 := by omega
      have k2 : (k : Int) < 3 := by omega
      have HK := hid (And.intro hk1 hlt)
      clear t1 t2 hk hk1 hkn hlt
      go_wp2_with fail
      go_round
      case rel => exact ⟨k + 1, by omega, by have := HK.out; omega, by go_num⟩
      case measure => have := HK.out; simp [intOf]; omega
    · have k2 : ¬ (k : Int) < 3 := by omega
      clear hk1 hkn hlt HT HC HLEN
      obtain ⟨v3, w3, hr, hv3, hb3⟩ := HAP.out w2
      have HV3 := hid hv3
      have HB3 := hid (below_trans HB2.out hb3)
      have HC3 := hid ((hb3.cell (p := ⟨b, off, none⟩) hbl).trans HC0.out)
      have HBL := hid (Nat.lt_of_lt_of_le hbl hb3.size)
      clear hv3 hb3 HB2 HC0 HAP hbl
      go_wp2_with (at_builtin; go_must (refine wpList_append_run hr rfl _ _ rfl rfl rfl rfl ?_))
      refine (decode_calls _ [120, 240, 128, x1, x0] _ HV3.out (by simp)).mono ?_
      rintro e w4 ⟨⟨v4, rfl, hv4⟩, hb4⟩
      rw [HLD.out.1, HLD.out.2]
      have HB4 := hid (below_trans HB3.out hb4)
      have HC4 := hid ((hb4.cell (p := ⟨b, off, none⟩) HBL.out).trans HC3.out)
      have HBL4 := hid (Nat.lt_of_lt_of_le HBL.out hb4.size)
      clear hv4 hb4 HB3 HC3 HBL HV3 hr
      go_wp2_with fail
      refine (first_calls _).mono ?_
      rintro e w5 ⟨rfl, hb5⟩
      have HB5 := hid (below_trans HB4.out hb5)
      have c5 : w5.cell? ⟨b, off, none⟩ = some (.int .u8 (y0 : Int)) := (hb5.cell (p := ⟨b, off, none⟩) HBL4.out).trans HC4.out
      clear hb5 HB4 HC4 HBL4
      go_wp2_with fail
      go_ret
      exact ⟨by first | rfl | exact ret_bool (by simp; omega), HB5.out⟩
set_option maxRecDepth 20000 in
set_option maxHeartbeats 4000000 in
theorem utfWidths_d (c : Nat) (w : World) (hs : isS (c : Int) = true) (h1 : 4096 ≤ c) (h2 : c ≤ 65535) :
    Calls Try.prog 7 #[.int .i64 (c : Int)] w fun e w' => e = .returned (.bool true) ∧ Below w.heap.size w w' := by
  have HE : Hid (errE [(c : Int)] = 0 ∧ bytesE [(c : Int)] = encN c) := by
    rcases bytesE_one (c : Int) with ⟨_, a, b⟩ | ⟨a, _, _⟩
    · exact ⟨a, b⟩
    · rw [hs] at a; cases a
  have hen := (enc3 (by omega) (by omega) : encN c = _)
  have hlen : (encN c).length = 3 := by rw [hen]; rfl
  have HT := hid (fun k h hk => enc_tail c k h hk (by omega))
  obtain ⟨y0, hy0⟩ : ∃ y : Nat, y = 224 + c / 4096 := ⟨_, rfl⟩
  have H0 : Hid (∀ h : 0 < (encN c).length, (encN c)[0].toNat = y0) := by
    intro h
    have gen : ∀ (l : List UInt8) (e : encN c = l) (h' : 0 < l.length), (encN c)[0] = l[0] := fun l e h' => by subst e; rfl
    rw [gen _ hen (by simp), hy0]
    exact b8_nat _ (by omega)
  obtain ⟨p1, q1⟩ : ∃ p : Nat, p = c / 64 := ⟨_, rfl⟩
  have d1 : (c : Int) / 64 = (p1 : Int) := by omega
  have l0 := low6 c (by omega)
  have l1 := low6 p1 (by omega)
  have k0 : c % 64 < 64 := Nat.mod_lt _ (by decide)
  have k1 : p1 % 64 < 64 := Nat.mod_lt _ (by decide)
  have n0 := i64mark 128 (c % 64) 6 2 rfl k0 (by omega)
  have n1 := i64mark 128 (p1 % 64) 6 2 rfl k1 (by omega)
  rw [show ((128 : Nat) : Int) = 128 from rfl] at n0 n1
  generalize c % 64 = r0 at *
  generalize p1 % 64 = r1 at *
  generalize b8 (128 + r0) = x0 at *
  generalize b8 (128 + r1) = x1 at *
  have z0 : (x0.toNat : Int) < 256 := by have := byte_lt x0; omega
  have z1 : (x1.toNat : Int) < 256 := by have := byte_lt x1; omega
  have g0 : (128 : Int) ≤ (c : Int) := by omega
  have g1 : (2048 : Int) ≤ (c : Int) := by omega
  have g2 : decide ((65536 : Int) ≤ (c : Int)) = false := by rw [decide_eq_false_iff_not]; omega
  have g3 : (4096 : Int) ≤ (c : Int) := by omega
  have y1 : ¬ (y0 : Int) < 128 := by omega
  have y2 : (y0 : Int) / 16 = 14 := by omega
  have HLD := hid (long_dec x1 x0)
  have HAP := hid (fun w => long_append w x1 x0)
  clear h1 h2 hs hen hy0 q1 k0 k1
  go_enter Try.func7, Try.ntmps7
  go_wp2_with fail
  refine (first_calls _).mono ?_
  rintro e w1 ⟨rfl, hb1⟩
  have HB1 := hid hb1
  clear hb1
  go_wp2_with fail
  refine (encode_calls _ [(c : Int)] _ (litI w1 [(c : Int)] (by simp)) (by simp)).mono ?_
  rintro e w2 ⟨⟨v, rfl, hv⟩, hb⟩
  have HB2 := hid (HB1.out.trans ((((Below.refl _ _).alloc (Nat.le_refl w1.heap.size) (.cells #[.int .i64 (c : Int)] 3)).trans (hb.mono (by simp))).mono HB1.out.size))
  clear hb HB1
  rw [HE.out.1]
  rw [HE.out.2] at hv
  obtain ⟨a, cap, rfl, q1, q2, q3⟩ := hv
  obtain ⟨b, off, rfl, hbl, hc⟩ := q3 (by intro h; rw [h] at hlen; simp at hlen)
  have HC := hid hc
  have c0 : w2.cell? ⟨b, off, none⟩ = some (.int .u8 (y0 : Int)) := by
    have q := hc 0 (by rw [hlen]; decide)
    rw [show fb (encN c)[0] = .int .u8 (y0 : Int) by unfold fb; rw [H0.out]] at q
    exact q
  have HC0 := hid c0
  rw [hlen] at q1 ⊢
  have HLEN := hid hlen
  have cc1 : (3 : Int) ≤ (cap : Int) := by omega
  clear hc q3 q1 q2 hlen c0 HE H0
  go_wp2_with fail
  go_loop [6] (fun i => ∃ k : Nat, 1 ≤ k ∧ k ≤ 3 ∧ i = .int .i64 (k : Int)) (fun i => 3 - (intOf i).toNat)
  case atStart => exact ⟨1, Nat.le_refl _, by decide, rfl⟩
  case round =>
    obtain ⟨k, hk1, hkn, rfl⟩ := hrel
    by_cases hlt : k < 3
    · have hk : k < (encN c).length := by rw [HLEN.out]; exact hlt
      have hck : w2.cell? ⟨b, off + k, none⟩ = some (.int .u8 ((encN c)[k].toNat : Int)) := HC.out k hk
      obtain ⟨t1, t2⟩ := HT.out k hk hk1
      generalize (encN c)[k].toNat = y at *
      have t3 : (128 : Int) ≤ (y : Int) := by omega
      have t4 : (y : Int) ≤ 191 := by omega
      have k2 : (k : Int) < 3 := by omega
      have HK := hid (And.intro hk1 hlt)
      clear t1 t2 hk hk1 hkn hlt
      go_wp2_with fail
      go_round
      case rel => exact ⟨k + 1, by omega, by have := HK.out; omega, by go_num⟩
      case measure => have := HK.out; simp [intOf]; omega
    · have k2 : ¬ (k : Int) < 3 := by omega
      clear hk1 hkn hlt HT HC HLEN
      obtain ⟨v3, w3, hr, hv3, hb3⟩ := HAP.out w2
      have HV3 := hid hv3
      have HB3 := hid (below_trans HB2.out hb3)
      have HC3 := hid ((hb3.cell (p := ⟨b, off, none⟩) hbl).trans HC0.out)
      have HBL := hid (Nat.lt_of_lt_of_le hbl hb3.size)
      clear hv3 hb3 HB2 HC0 HAP hbl
      go_wp2_with (at_builtin; go_must (refine wpList_append_run hr rfl _ _ rfl rfl rfl rfl ?_))
      refine (decode_calls _ [120, 240, 128, x1, x0] _ HV3.out (by simp)).mono ?_
      rintro e w4 ⟨⟨v4, rfl, hv4⟩, hb4⟩
      rw [HLD.out.1, HLD.out.2]
      have HB4 := hid (below_trans HB3.out hb4)
      have HC4 := hid ((hb4.cell (p := ⟨b, off, none⟩) HBL.out).trans HC3.out)
      have HBL4 := hid (Nat.lt_of_lt_of_le HBL.out hb4.size)
      clear hv4 hb4 HB3 HC3 HBL HV3 hr
      go_wp2_with fail
      refine (first_calls _).mono ?_
      rintro e w5 ⟨rfl, hb5⟩
      have HB5 := hid (below_trans HB4.out hb5)
      have c5 : w5.cell? ⟨b, off, none⟩ = some (.int .u8 (y0 : Int)) := (hb5.cell (p := ⟨b, off, none⟩) HBL4.out).trans HC4.out
      clear hb5 HB4 HC4 HBL4
      go_wp2_with fail
      go_ret
      exact ⟨by first | rfl | exact ret_bool (by simp; omega), HB5.out⟩
set_option maxRecDepth 20000 in
set_option maxHeartbeats 4000000 in
theorem utfWidths_e (c : Nat) (w : World) (hs : isS (c : Int) = true) (h1 : 65536 ≤ c) (h2 : c ≤ 1114111) :
    Calls Try.prog 7 #[.int .i64 (c : Int)] w fun e w' => e = .returned (.bool true) ∧ Below w.heap.size w w' := by
  have HE : Hid (errE [(c : Int)] = 0 ∧ bytesE [(c : Int)] = encN c) := by
    rcases bytesE_one (c : Int) with ⟨_, a, b⟩ | ⟨a, _, _⟩
    · exact ⟨a, b⟩
    · rw [hs] at a; cases a
  have hen := (enc4 (by omega) : encN c = _)
  have hlen : (encN c).length = 4 := by rw [hen]; rfl
  have HT := hid (fun k h hk => enc_tail c k h hk (by omega))
  obtain ⟨y0, hy0⟩ : ∃ y : Nat, y = 240 + c / 262144 := ⟨_, rfl⟩
  have H0 : Hid (∀ h : 0 < (encN c).length, (encN c)[0].toNat = y0) := by
    intro h
    have gen : ∀ (l : List UInt8) (e : encN c = l) (h' : 0 < l.length), (encN c)[0] = l[0] := fun l e h' => by subst e; rfl
    rw [gen _ hen (by simp), hy0]
    exact b8_nat _ (by omega)
  obtain ⟨p1, q1⟩ : ∃ p : Nat, p = c / 64 := ⟨_, rfl⟩
  have d1 : (c : Int) / 64 = (p1 : Int) := by omega
  have l0 := low6 c (by omega)
  have l1 := low6 p1 (by omega)
  have k0 : c % 64 < 64 := Nat.mod_lt _ (by decide)
  have k1 : p1 % 64 < 64 := Nat.mod_lt _ (by decide)
  have n0 := i64mark 128 (c % 64) 6 2 rfl k0 (by omega)
  have n1 := i64mark 128 (p1 % 64) 6 2 rfl k1 (by omega)
  rw [show ((128 : Nat) : Int) = 128 from rfl] at n0 n1
  generalize c % 64 = r0 at *
  generalize p1 % 64 = r1 at *
  generalize b8 (128 + r0) = x0 at *
  generalize b8 (128 + r1) = x1 at *
  have z0 : (x0.toNat : Int) < 256 := by have := byte_lt x0; omega
  have z1 : (x1.toNat : Int) < 256 := by have := byte_lt x1; omega
  have g0 : (128 : Int) ≤ (c : Int) := by omega
  have g1 : (2048 : Int) ≤ (c : Int) := by omega
  have g2 : (65536 : Int) ≤ (c : Int) := by omega
  have g3 : (4096 : Int) ≤ (c : Int) := by omega
  have y1 : ¬ (y0 : Int) < 128 := by omega
  have y2 : (y0 : Int) / 8 = 30 := by omega
  have HLD := hid (long_dec x1 x0)
  have HAP := hid (fun w => long_append w x1 x0)
  clear h1 h2 hs hen hy0 q1 k0 k1
  go_enter Try.func7, Try.ntmps7
  go_wp2_with fail
  refine (first_calls _).mono ?_
  rintro e w1 ⟨rfl, hb1⟩
  have HB1 := hid hb1
  clear hb1
  go_wp2_with fail
  refine (encode_calls _ [(c : Int)] _ (litI w1 [(c : Int)] (by simp)) (by simp)).mono ?_
  rintro e w2 ⟨⟨v, rfl, hv⟩, hb⟩
  have HB2 := hid (HB1.out.trans ((((Below.refl _ _).alloc (Nat.le_refl w1.heap.size) (.cells #[.int .i64 (c : Int)] 3)).trans (hb.mono (by simp))).mono HB1.out.size))
  clear hb HB1
  rw [HE.out.1]
  rw [HE.out.2] at hv
  obtain ⟨a, cap, rfl, q1, q2, q3⟩ := hv
  obtain ⟨b, off, rfl, hbl, hc⟩ := q3 (by intro h; rw [h] at hlen; simp at hlen)
  have HC := hid hc
  have c0 : w2.cell? ⟨b, off, none⟩ = some (.int .u8 (y0 : Int)) := by
    have q := hc 0 (by rw [hlen]; decide)
    rw [show fb (encN c)[0] = .int .u8 (y0 : Int) by unfold fb; rw [H0.out]] at q
    exact q
  have HC0 := hid c0
  rw [hlen] at q1 ⊢
  have HLEN := hid hlen
  have cc1 : (4 : Int) ≤ (cap : Int) := by omega
  clear hc q3 q1 q2 hlen c0 HE H0
  go_wp2_with fail
  go_loop [6] (fun i => ∃ k : Nat, 1 ≤ k ∧ k ≤ 4 ∧ i = .int .i64 (k : Int)) (fun i => 4 - (intOf i).toNat)
  case atStart => exact ⟨1, Nat.le_refl _, by decide, rfl⟩
  case round =>
    obtain ⟨k, hk1, hkn, rfl⟩ := hrel
    by_cases hlt : k < 4
    · have hk : k < (encN c).length := by rw [HLEN.out]; exact hlt
      have hck : w2.cell? ⟨b, off + k, none⟩ = some (.int .u8 ((encN c)[k].toNat : Int)) := HC.out k hk
      obtain ⟨t1, t2⟩ := HT.out k hk hk1
      generalize (encN c)[k].toNat = y at *
      have t3 : (128 : Int) ≤ (y : Int) := by omega
      have t4 : (y : Int) ≤ 191 := by omega
      have k2 : (k : Int) < 4 := by omega
      have HK := hid (And.intro hk1 hlt)
      clear t1 t2 hk hk1 hkn hlt
      go_wp2_with fail
      go_round
      case rel => exact ⟨k + 1, by omega, by have := HK.out; omega, by go_num⟩
      case measure => have := HK.out; simp [intOf]; omega
    · have k2 : ¬ (k : Int) < 4 := by omega
      clear hk1 hkn hlt HT HC HLEN
      obtain ⟨v3, w3, hr, hv3, hb3⟩ := HAP.out w2
      have HV3 := hid hv3
      have HB3 := hid (below_trans HB2.out hb3)
      have HC3 := hid ((hb3.cell (p := ⟨b, off, none⟩) hbl).trans HC0.out)
      have HBL := hid (Nat.lt_of_lt_of_le hbl hb3.size)
      clear hv3 hb3 HB2 HC0 HAP hbl
      go_wp2_with (at_builtin; go_must (refine wpList_append_run hr rfl _ _ rfl rfl rfl rfl ?_))
      refine (decode_calls _ [120, 240, 128, x1, x0] _ HV3.out (by simp)).mono ?_
      rintro e w4 ⟨⟨v4, rfl, hv4⟩, hb4⟩
      rw [HLD.out.1, HLD.out.2]
      have HB4 := hid (below_trans HB3.out hb4)
      have HC4 := hid ((hb4.cell (p := ⟨b, off, none⟩) HBL.out).trans HC3.out)
      have HBL4 := hid (Nat.lt_of_lt_of_le HBL.out hb4.size)
      clear hv4 hb4 HB3 HC3 HBL HV3 hr
      go_wp2_with fail
      refine (first_calls _).mono ?_
      rintro e w5 ⟨rfl, hb5⟩
      have HB5 := hid (below_trans HB4.out hb5)
      have c5 : w5.cell? ⟨b, off, none⟩ = some (.int .u8 (y0 : Int)) := (hb5.cell (p := ⟨b, off, none⟩) HBL4.out).trans HC4.out
      clear hb5 HB4 HC4 HBL4
      go_wp2_with fail
      go_ret
      exact ⟨by first | rfl | exact ret_bool (by simp; omega), HB5.out⟩
set_option maxRecDepth 20000 in
set_option maxHeartbeats 4000000 in
theorem utfWidths_none (c : Int) (w : World) (hs : isS c = false) :
    Calls Try.prog 7 #[.int .i64 c] w fun e w' => e = .returned (.bool true) ∧ Below w.heap.size w w' := by
  have HE : Hid (errE [c] = 1 ∧ bytesE [c] = []) := by
    rcases bytesE_one c with ⟨a, _, _⟩ | ⟨_, a, b⟩
    · rw [hs] at a; cases a
    · exact ⟨a, b⟩
  go_enter Try.func7, Try.ntmps7
  go_wp2_with fail
  refine (first_calls _).mono ?_
  rintro e w1 ⟨rfl, hb1⟩
  have HB1 := hid hb1
  clear hb1
  go_wp2_with fail
  refine (encode_calls _ [c] _ (litI w1 [c] (by simp)) (by simp)).mono ?_
  rintro e w2 ⟨⟨v, rfl, hv⟩, hb⟩
  have HB2 := hid (HB1.out.trans ((((Below.refl _ _).alloc (Nat.le_refl w1.heap.size) (.cells #[.int .i64 c] 3)).trans (hb.mono (by simp))).mono HB1.out.size))
  clear hb HB1
  rw [HE.out.1]
  rw [HE.out.2] at hv
  obtain ⟨a, cap, rfl, -⟩ := hv
  clear HE
  go_wp2_with fail
  refine (first_calls _).mono ?_
  rintro e w3 ⟨rfl, hb3⟩
  have HB3 := hid (below_trans HB2.out hb3)
  clear hb3 HB2
  go_wp2_with fail
  refine (scalar_calls _ _).mono ?_
  rintro e w4 ⟨rfl, rfl⟩
  rw [hs]
  go_wp2_with fail
  go_ret
  exact ⟨rfl, HB3.out⟩
theorem utfWidths_walk (c : Int) (w : World) (hc : -9223372036854775808 ≤ c ∧ c ≤ 9223372036854775807) :
    Calls Try.prog 7 #[.int .i64 c] w fun e w' => e = .returned (.bool true) ∧ Below w.heap.size w w' := by
  cases hs : isS c with
  | false => exact utfWidths_none c w hs
  | true =>
    have h := isS_iff.1 hs
    obtain ⟨n, rfl⟩ := Int.eq_ofNat_of_zero_le h.1
    rcases (by omega : n ≤ 127 ∨ (128 ≤ n ∧ n ≤ 2047) ∨ (2048 ≤ n ∧ n ≤ 4095) ∨ (4096 ≤ n ∧ n ≤ 65535) ∨ (65536 ≤ n ∧ n ≤ 1114111)) with h | ⟨h1, h2⟩ | ⟨h1, h2⟩ | ⟨h1, h2⟩ | ⟨h1, h2⟩
    · exact utfWidths_a n w hs (Nat.zero_le _) h
    · exact utfWidths_b n w hs h1 h2
    · exact utfWidths_c n w hs h1 h2
    · exact utfWidths_d n w hs h1 h2
    · exact utfWidths_e n w hs h1 h2
end Go.Proofs.Ytjcckmpipmoaoaa
