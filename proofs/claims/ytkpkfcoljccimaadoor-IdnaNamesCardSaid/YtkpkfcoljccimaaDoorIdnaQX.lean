/- The program's appendPiece, ToUnicode. -/
import Derived.Test.YtkpkfcoljccimaaDoorIdnaOX
import Derived.Test.YtkpkfcoljccimaaDoorBundJ
namespace Go.Proofs.YtkpkfcoljccimaaDoor
open Go.RowKit
set_option linter.unusedVariables false
set_option maxRecDepth 20000
set_option maxRecDepth 20000 in
set_option maxHeartbeats 8000000 in
theorem apiece_calls (v : Value) (xs : List Int) (z : ByteArray) (w : World) (base : Nat) (ho : IOwn w base v xs) (hb : base ≤ w.heap.size) (hl : xs.length ≤ 40000001) (hz : z.size ≤ 5000) :
    Calls Tryd.prog 31 #[v, .string z] w fun e w' => (∃ v', e = .returned v' ∧ IOwn w' base v' (xs ++ uniP z)) ∧ Below base w w' := by
  have HO := hid ho
  have HBs := hid hb
  have HXL := hid hl
  have HZS := hid hz
  have z1 : (z.size : Int) ≤ 5000 := by omega
  have HCu := hid (fun w' => cutp_calls z w' (by unfold maxLen; omega))
  clear ho hb hl
  cases hmk : markB (bytesOf z) with
  | false =>
    have hcut : cutR z = (z, false) := by unfold cutR; rw [if_neg (by rw [hmk]; decide)]
    rw [hcut] at HCu
    have HUP := hid (uniP_plain hmk)
    clear hmk hcut hz
    go_enter Tryd.func31, Tryd.ntmps31
    go_wp2_with fail
    refine (HCu.out _).mono ?_
    rintro e wy ⟨rfl, rfl⟩
    have HO3 := HO
    have HB3 : Hid (Below base wy wy) := Below.refl _ _
    go_wp2_with fail
    go_loopw [0, 28] (fun vo vk wq => ∃ (k : Nat), k ≤ z.size ∧ vk = .int .i64 (k : Int) ∧ IOwn wq base vo (xs ++ byteInts ((bytesOf z).take k)) ∧ Below base wy wq) (fun _ vk _ => z.size - (intOf vk).toNat)
    case atStart => exact ⟨0, Nat.zero_le _, rfl, by rw [List.take_zero]; show IOwn _ _ _ (xs ++ []); rw [List.append_nil]; exact HO3.out, HB3.out⟩
    case round =>
      obtain ⟨k, hk, rfl, ho, hb⟩ := hrel
      have HOk := hid ho
      have HBk := hid hb
      have HSk : Hid (base ≤ wr.heap.size) := Nat.le_trans HBs.out hb.size
      have k0 : (0 : Int) ≤ (k : Int) := by omega
      clear ho hb
      by_cases hkl : k < z.size
      · have k1 : (k : Int) < (z.size : Int) := by omega
        have HSn : Hid (byteInts ((bytesOf z).take (k + 1)) = byteInts ((bytesOf z).take k) ++ [(z[k].toNat : Int)]) := byteInts_snoc (bytesOf z) k (by rw [bytesOf_len]; exact hkl)
        have hx256 := byte_lt z[k]
        obtain ⟨y, hy⟩ : ∃ y, z[k].toNat = y := ⟨_, rfl⟩
        rw [hy] at hx256 HSn
        have y0 : (0 : Int) ≤ (y : Int) := by omega
        have y1 : (y : Int) < 256 := by omega
        have HKl := hid hkl
        have hlen2 : (xs ++ byteInts ((bytesOf z).take k)).length ≤ 50000000 := by
          rw [List.length_append]
          have := HXL.out
          have h9 : (byteInts ((bytesOf z).take k)).length ≤ 5000 := by unfold byteInts; rw [List.length_map, List.length_take, bytesOf_len]; have := HZS.out; omega
          omega
        obtain ⟨v7, w7, hr7, ho7, hg7⟩ := appendI_big (HOk.out.alloc (.cells #[.int .i64 (y : Int)] 3)) (Row.lit fi wr [(y : Int)] 3 (0, 0) (by simp)) (by simp at hlen2 ⊢; omega) (by have := HSk.out; simp; omega)
        have HO7 := hid ho7
        have HB7 := hid ((HBk.out.alloc HSk.out (.cells #[.int .i64 (y : Int)] 3)).grown hg7 (by have := HSk.out; simp; omega) (Own.lt HOk.out))
        clear ho7 hg7 hlen2 hx256 hk
        go_wp2_with (at_builtin; go_must (refine wpList_append_run hr7 rfl _ _ rfl rfl rfl rfl ?_))
        go_roundw
        case rel => exact ⟨k + 1, HKl.out, by go_num, by rw [HSn.out, ← List.append_assoc]; exact HO7.out, HB7.out⟩
        case measure => have := HKl.out; simp [intOf] <;> omega
      · have g5 : ¬ (k : Int) < (z.size : Int) := by omega
        have HOf : Hid (IOwn wr base u0 (xs ++ byteInts (bytesOf z))) := by
          have h := HOk.out
          rw [List.take_of_length_le (by rw [bytesOf_len]; omega)] at h
          exact h
        clear hkl hk
        go_wp2_with fail
        go_ret
        exact ⟨⟨_, rfl, by rw [HUP.out]; exact HOf.out⟩, HBk.out⟩
  | true =>
    have hcut : cutR z = (strOf ((bytesOf z).drop 4), true) := by unfold cutR; rw [if_pos hmk]
    rw [hcut] at HCu
    have HDe := hid (fun w' => pdecode_calls (strOf ((bytesOf z).drop 4)) w' (by rw [strOf_size, List.length_drop, bytesOf_len]; unfold maxLen; omega))
    have HDL := hid (decR_most (strOf ((bytesOf z).drop 4)))
    have HUD := hid (uniP_dec hmk)
    have HUE := hid (uniP_err (p := z))
    clear hmk hcut hz
    generalize decR (strOf ((bytesOf z).drop 4)) = D at *
    generalize strOf ((bytesOf z).drop 4) = t at *
    obtain ⟨du, dn⟩ := D
    unfold DecPost at HDe
    simp only at HDe HDL HUD HUE
    by_cases hdn : dn = 0
    · subst hdn
      have HUP := hid (HUD.out (by first | rfl | trivial))
      clear HUD HUE
      go_enter Tryd.func31, Tryd.ntmps31
      go_wp2_with fail
      refine (HCu.out _).mono ?_
      rintro e wy ⟨rfl, rfl⟩
      go_wp2_with fail
      refine (HDe.out _).mono ?_
      rintro e w5 ⟨⟨vu, rfl, hvu⟩, hb5⟩
      obtain ⟨v6, w6, hr6, ho6, hg6⟩ := appendI_big (HO.out.below hb5) hvu (by have := HXL.out; have := HDL.out; omega) (Nat.le_trans HBs.out hb5.size)
      have HO6 := hid ho6
      have HB6 := hid (((Below.refl _ _).trans (hb5.mono HBs.out)).grown hg6 (Nat.le_trans HBs.out hb5.size) (Own.lt (HO.out.below hb5)))
      clear ho6 hg6 hb5 hvu
      go_wp2_with (at_builtin; go_must (refine wpList_append_run hr6 rfl _ _ rfl rfl rfl rfl ?_))
      go_ret
      exact ⟨⟨_, rfl, by rw [HUP.out]; exact HO6.out⟩, HB6.out⟩
    · have HUP := hid (HUE.out hdn)
      have q1 : (dn == 0) = false := by rw [beq_eq_false_iff_ne]; exact hdn
      have q2 : (dn != 0) = true := by rw [bne_iff_ne]; exact hdn
      clear HUD HUE hdn
      go_enter Tryd.func31, Tryd.ntmps31
      go_wp2_with fail
      refine (HCu.out _).mono ?_
      rintro e wy ⟨rfl, rfl⟩
      go_wp2_with fail
      refine (HDe.out _).mono ?_
      rintro e w5 ⟨⟨vu, rfl, hvu⟩, hb5⟩
      have HO3 := hid (HO.out.below hb5)
      have HB3 : Hid (Below base wy w5) := (hb5.mono HBs.out)
      clear hb5 hvu
      go_wp2_with fail
      go_loopw [0, 28] (fun vo vk wq => ∃ (k : Nat), k ≤ z.size ∧ vk = .int .i64 (k : Int) ∧ IOwn wq base vo (xs ++ byteInts ((bytesOf z).take k)) ∧ Below base wy wq) (fun _ vk _ => z.size - (intOf vk).toNat)
      case atStart => exact ⟨0, Nat.zero_le _, rfl, by rw [List.take_zero]; show IOwn _ _ _ (xs ++ []); rw [List.append_nil]; exact HO3.out, HB3.out⟩
      case round =>
        obtain ⟨k, hk, rfl, ho, hb⟩ := hrel
        have HOk := hid ho
        have HBk := hid hb
        have HSk : Hid (base ≤ wr.heap.size) := Nat.le_trans HBs.out hb.size
        have k0 : (0 : Int) ≤ (k : Int) := by omega
        clear ho hb
        by_cases hkl : k < z.size
        · have k1 : (k : Int) < (z.size : Int) := by omega
          have HSn : Hid (byteInts ((bytesOf z).take (k + 1)) = byteInts ((bytesOf z).take k) ++ [(z[k].toNat : Int)]) := byteInts_snoc (bytesOf z) k (by rw [bytesOf_len]; exact hkl)
          have hx256 := byte_lt z[k]
          obtain ⟨y, hy⟩ : ∃ y, z[k].toNat = y := ⟨_, rfl⟩
          rw [hy] at hx256 HSn
          have y0 : (0 : Int) ≤ (y : Int) := by omega
          have y1 : (y : Int) < 256 := by omega
          have HKl := hid hkl
          have hlen2 : (xs ++ byteInts ((bytesOf z).take k)).length ≤ 50000000 := by
            rw [List.length_append]
            have := HXL.out
            have h9 : (byteInts ((bytesOf z).take k)).length ≤ 5000 := by unfold byteInts; rw [List.length_map, List.length_take, bytesOf_len]; have := HZS.out; omega
            omega
          obtain ⟨v7, w7, hr7, ho7, hg7⟩ := appendI_big (HOk.out.alloc (.cells #[.int .i64 (y : Int)] 3)) (Row.lit fi wr [(y : Int)] 3 (0, 0) (by simp)) (by simp at hlen2 ⊢; omega) (by have := HSk.out; simp; omega)
          have HO7 := hid ho7
          have HB7 := hid ((HBk.out.alloc HSk.out (.cells #[.int .i64 (y : Int)] 3)).grown hg7 (by have := HSk.out; simp; omega) (Own.lt HOk.out))
          clear ho7 hg7 hlen2 hx256 hk
          go_wp2_with (at_builtin; go_must (refine wpList_append_run hr7 rfl _ _ rfl rfl rfl rfl ?_))
          go_roundw
          case rel => exact ⟨k + 1, HKl.out, by go_num, by rw [HSn.out, ← List.append_assoc]; exact HO7.out, HB7.out⟩
          case measure => have := HKl.out; simp [intOf] <;> omega
        · have g5 : ¬ (k : Int) < (z.size : Int) := by omega
          have HOf : Hid (IOwn wr base u0 (xs ++ byteInts (bytesOf z))) := by
            have h := HOk.out
            rw [List.take_of_length_le (by rw [bytesOf_len]; omega)] at h
            exact h
          clear hkl hk
          go_wp2_with fail
          go_ret
          exact ⟨⟨_, rfl, by rw [HUP.out]; exact HOf.out⟩, HBk.out⟩
set_option maxRecDepth 20000 in
set_option maxHeartbeats 8000000 in
theorem iunicode_calls (s : ByteArray) (w : World) (hs : s.size ≤ 5000) :
    Calls Tryd.prog 12 #[.string s] w fun e w' => (∃ v', e = .returned v' ∧ IOwn w' w.heap.size v' (uniR s)) ∧ Below w.heap.size w w' := by
  have HSp := hid (ssplit_calls s w (by omega))
  have hbl := bytesOf_len s
  have hzl := split_len 46 (bytesOf s)
  have HZm : Hid (∀ p ∈ splitB 46 (bytesOf s), p.size ≤ 5000) := fun p hp => by have := split_mem hp; omega
  have HA0 : Hid (UniAt (splitB 46 (bytesOf s)) (uniR s) [] 0) := ⟨Nat.zero_le _, by simp, rfl⟩
  obtain ⟨R, hR⟩ : ∃ R, R = uniR s := ⟨_, rfl⟩
  rw [← hR] at HA0
  rw [← hR]
  generalize splitB 46 (bytesOf s) = zs at *
  have HZL : Hid (zs.length ≤ 5001) := by show _ ≤ _; omega
  have hzI : (zs.length : Int) ≤ 5001 := by omega
  clear hR hbl hzl hs
  go_enter Tryd.func12, Tryd.ntmps12
  go_wp2_with fail
  refine HSp.out.mono ?_
  rintro e w1 ⟨⟨vz, rfl, hvz⟩, hb1⟩
  have HB1 := hid hb1
  have HVZ := hid hvz
  obtain ⟨za, zc, hE0, hE1, hE2, hE3⟩ := hvz
  subst hE0
  unfold maxLen at hE2
  have mm1 : (zs.length : Int) ≤ (zc : Int) := by omega
  have mm2 : (zc : Int) ≤ 9223372036854775807 := by omega
  have HW1 : Hid (w.heap.size ≤ w1.heap.size) := hb1.size
  clear hb1 hE1 hE2 hE3
  go_wp2_with fail
  go_loopw [3, 9] (fun vo vi wr => ∃ (xs : List Int) (i : Nat), vi = .int .i64 (i : Int) ∧ IOwn wr w1.heap.size vo xs ∧ Below w1.heap.size w1 wr ∧ UniAt zs R xs i) (fun _ vi _ => zs.length - (intOf vi).toNat)
  case atStart => exact ⟨[], 0, rfl, Own.nil _ _ _ _, Below.refl _ _, HA0.out⟩
  case round =>
    obtain ⟨xs, i, rfl, ho, hb, hA⟩ := hrel
    have HO := hid ho
    have HB := hid hb
    have HA := hid hA
    have HSz : Hid (w1.heap.size ≤ wr.heap.size) := hb.size
    have i0 : (0 : Int) ≤ (i : Int) := by omega
    have HXL : Hid (xs.length ≤ 40000000) := by
      show _ ≤ _
      obtain ⟨h1, h2, _⟩ := hA
      have := HZL.out
      have := Nat.mul_le_mul_right 6000 (Nat.le_trans h1 HZL.out)
      omega
    clear ho hb hA
    by_cases hlt : i < zs.length
    · obtain ⟨b, off, rfl, hck⟩ := HVZ.out.open HB.out i hlt
      have i1 : (i : Int) < (zs.length : Int) := by omega
      have HK := hid hlt
      have HNx := hid (HA.out.next hlt)
      have HZS : Hid (zs[i].size ≤ 5000) := HZm.out _ (List.getElem_mem hlt)
      have HUL : Hid ((uniP zs[i]).length ≤ 5999) := by
        show _ ≤ _
        have hz := HZS.out
        unfold uniP
        split
        · have := decR_most (strOf ((bytesOf zs[i]).drop 4)); omega
        · unfold byteInts; rw [List.length_map, bytesOf_len]; omega
      generalize zs[i] = z at *
      clear hlt
      by_cases h0 : i = 0
      · have gi : ¬ (0 : Int) < (i : Int) := by omega
        have HDot : Hid (xs ++ (if i = 0 then [] else [46]) = xs) := by show _ = _; rw [if_pos h0]; simp
        have HN2 := hid (HNx.out HUL.out)
        rw [HDot.out] at HN2
        clear h0 HNx
        go_wp2_with fail
        refine (apiece_calls _ xs z _ _ HO.out HSz.out (by have := HXL.out; omega) HZS.out).mono ?_
        rintro e w5 ⟨⟨v5, rfl, ho5⟩, hb5⟩
        have HO5 := hid ho5
        have HB5 := hid (HB.out.trans hb5)
        clear ho5 hb5
        go_wp2_with fail
        go_roundw
        case rel => exact ⟨_, i + 1, by go_num, HO5.out, HB5.out, HN2.out⟩
        case measure => have := HK.out; simp [intOf] <;> omega
      · have gi : (0 : Int) < (i : Int) := by omega
        obtain ⟨v4, wx, hr4, ho4, hg4⟩ := appendI_big (HO.out.alloc (.cells #[.int .i64 46] 3)) (Row.lit fi wr [46] 3 (0, 0) (by simp)) (by have := HXL.out; simp; omega) (by have := HSz.out; simp; omega)
        have HB2 := hid ((HB.out.alloc HSz.out (.cells #[.int .i64 46] 3)).grown hg4 (by have := HSz.out; simp; omega) (Own.lt HO.out))
        obtain ⟨xs2, hxs2⟩ : ∃ xs2, xs2 = xs ++ [46] := ⟨_, rfl⟩
        have HDot : Hid (xs ++ (if i = 0 then [] else [46]) = xs2) := by show _ = _; rw [if_neg h0, hxs2]
        have HL2 : Hid (xs2.length ≤ 40000001) := by show _ ≤ _; have := HXL.out; rw [hxs2]; simp; omega
        rw [← hxs2] at ho4
        have HO2 := hid ho4
        have HN2 := hid (HNx.out HUL.out)
        rw [HDot.out] at HN2
        have HS2 : Hid (w1.heap.size ≤ wx.heap.size) := HB2.out.size
        clear h0 ho4 hg4 hxs2 HNx
        go_wp2_with (at_builtin; go_must (refine wpList_append_run hr4 rfl _ _ rfl rfl rfl rfl ?_))
        refine (apiece_calls _ xs2 z _ _ HO2.out HS2.out HL2.out HZS.out).mono ?_
        rintro e w5 ⟨⟨v5, rfl, ho5⟩, hb5⟩
        have HO5 := hid ho5
        have HB5 := hid (HB2.out.trans hb5)
        clear ho5 hb5
        go_wp2_with fail
        go_roundw
        case rel => exact ⟨_, i + 1, by go_num, HO5.out, HB5.out, HN2.out⟩
        case measure => have := HK.out; simp [intOf] <;> omega
    · have hfin := HA.out.fin hlt
      have HX := hid hfin
      have HOw := hid (HO.out.mono HW1.out)
      have HBw := hid (below_trans HB1.out HB.out)
      have g1 : ¬ (i : Int) < (zs.length : Int) := by omega
      clear hlt hfin
      go_wp2_with fail
      go_ret
      exact ⟨⟨_, rfl, by rw [HX.out]; exact HOw.out⟩, HBw.out⟩
end Go.Proofs.YtkpkfcoljccimaaDoor
