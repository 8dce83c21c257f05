/- The walk of the statement 'sets that hold one another'. -/
import Derived.Test.YtfglanhbjmlclaaDoorPctH
namespace Go.Proofs.YtfglanhbjmlclaaDoor
open Go.RowKit
set_option linter.unusedVariables false
set_option maxRecDepth 20000
theorem str_cat (A B : List UInt8) : (strOf A ++ strOf B).toList = A ++ B := by
  rw [ByteArray.toList_eq]
  simp [strOf, ByteArray.data_append]
theorem rise1 (n : Nat) (hn : n < 256) : (inR 1 n = false ∨ (inR 1 n = true ∧ inR 3 n = true)) ∧ (inR 3 n = false ∨ (inR 3 n = true ∧ inR 5 n = true)) ∧ (inR 5 n = false ∨ (inR 5 n = true ∧ inR 6 n = true)) ∧ (inR 6 n = false ∨ (inR 6 n = true ∧ inR 7 n = true)) := by
  have h := rise (UInt8.ofNat n)
  rw [u8_nat hn] at h
  obtain ⟨h1, h2, h3, h4⟩ := h
  refine ⟨?_, ?_, ?_, ?_⟩
  · cases e : inR 1 n with
    | false => exact .inl rfl
    | true => exact .inr ⟨rfl, h1 e⟩
  · cases e : inR 3 n with
    | false => exact .inl rfl
    | true => exact .inr ⟨rfl, h2 e⟩
  · cases e : inR 5 n with
    | false => exact .inl rfl
    | true => exact .inr ⟨rfl, h3 e⟩
  · cases e : inR 6 n with
    | false => exact .inl rfl
    | true => exact .inr ⟨rfl, h4 e⟩
set_option maxHeartbeats 4000000 in
theorem pctRise_in (set : Int) (n : Nat) (va vb : Value) (la lb : List UInt8) (w : World) (ht : Tab w) (hn : n < 256) (ha : BRow w va la) (hb : BRow w vb lb) (hla : la.length ≤ 8000) (hlb : lb.length ≤ 8000) :
    Calls Tryd.prog 6 #[.int .i64 set, .int .u8 (n : Int), va, vb] w fun e w' => e = .returned (.bool true) ∧ Below w.heap.size w w' := by
  have HT := hid ht
  have HA := hid ha
  have HB := hid hb
  have HR := hid (rise1 n hn)
  have HN := hid hn
  have HE := hid (pctR_append set la lb)
  obtain ⟨a, capa, rfl, a1, a2, a3⟩ := ha
  obtain ⟨b, capb, rfl, b1, b2, b3⟩ := hb
  have l1 : ¬ (8000 : Int) < (la.length : Int) := by omega
  have l2 : ¬ (8000 : Int) < (lb.length : Int) := by omega
  have hcat := str_cat (pctR set la) (pctR set lb)
  have hab := strOf_list (pctR set (la ++ lb))
  have p1 := (pctR_len set la).2
  have p2 := (pctR_len set lb).2
  have z1 : ((strOf (pctR set la)).size : Int) ≤ 24000 := by show ((pctR set la).length : Int) ≤ 24000; omega
  have z2 : ((strOf (pctR set lb)).size : Int) ≤ 24000 := by show ((pctR set lb).length : Int) ≤ 24000; omega
  clear ht hn a1 a2 a3 b1 b2 b3 p1 p2
  go_enter Tryd.func6, Tryd.ntmps6
  go_wp2_with fail
  refine (pfirst_calls _ HT.out).mono ?_
  rintro e w1 ⟨rfl, hb1⟩
  have HB1 := hid hb1
  have HT1 := hid (HT.out.below hb1)
  have HA1 := hid (HA.out.below hb1)
  have HV1 := hid (HB.out.below hb1)
  clear hb1 HT HA HB
  go_wp2_with fail
  have HTa := hid (HT1.out.alloc (.cells #[.int .i64 1, .int .i64 3, .int .i64 5, .int .i64 6, .int .i64 7] 3))
  have HC := hid (fun s => in_calls s n HN.out _ HTa.out)
  go_loop [10] (fun vi => ∃ k : Nat, 1 ≤ k ∧ k ≤ 5 ∧ vi = .int .i64 (k : Int)) (fun vi => 5 - (intOf vi).toNat)
  case atStart => exact ⟨1, by decide, by decide, rfl⟩
  case round =>
    obtain ⟨k, hk1, hk5, rfl⟩ := hrel
    obtain rfl | rfl | rfl | rfl | rfl : k = 1 ∨ k = 2 ∨ k = 3 ∨ k = 4 ∨ k = 5 := by omega
    · rcases HR.out.1 with h | ⟨h, h'⟩
      · have C1 := hid (HC.out 1)
        rw [h] at C1
        clear h hk1 hk5
        go_wp2_with fail
        refine C1.out.mono ?_
        rintro e w2 ⟨rfl, rfl⟩
        go_wp2_with fail
        go_round
        case rel => exact ⟨2, by decide, by decide, rfl⟩
        case measure => simp [intOf]
      · have C1 := hid (HC.out 1)
        have C2 := hid (HC.out 3)
        rw [h] at C1
        rw [h'] at C2
        clear h h' hk1 hk5
        go_wp2_with fail
        refine C1.out.mono ?_
        rintro e w2 ⟨rfl, rfl⟩
        go_wp2_with fail
        refine C2.out.mono ?_
        rintro e w2 ⟨rfl, rfl⟩
        go_wp2_with fail
        go_round
        case rel => exact ⟨2, by decide, by decide, rfl⟩
        case measure => simp [intOf]
    · rcases HR.out.2.1 with h | ⟨h, h'⟩
      · have C1 := hid (HC.out 3)
        rw [h] at C1
        clear h hk1 hk5
        go_wp2_with fail
        refine C1.out.mono ?_
        rintro e w2 ⟨rfl, rfl⟩
        go_wp2_with fail
        go_round
        case rel => exact ⟨3, by decide, by decide, rfl⟩
        case measure => simp [intOf]
      · have C1 := hid (HC.out 3)
        have C2 := hid (HC.out 5)
        rw [h] at C1
        rw [h'] at C2
        clear h h' hk1 hk5
        go_wp2_with fail
        refine C1.out.mono ?_
        rintro e w2 ⟨rfl, rfl⟩
        go_wp2_with fail
        refine C2.out.mono ?_
        rintro e w2 ⟨rfl, rfl⟩
        go_wp2_with fail
        go_round
        case rel => exact ⟨3, by decide, by decide, rfl⟩
        case measure => simp [intOf]
    · rcases HR.out.2.2.1 with h | ⟨h, h'⟩
      · have C1 := hid (HC.out 5)
        rw [h] at C1
        clear h hk1 hk5
        go_wp2_with fail
        refine C1.out.mono ?_
        rintro e w2 ⟨rfl, rfl⟩
        go_wp2_with fail
        go_round
        case rel => exact ⟨4, by decide, by decide, rfl⟩
        case measure => simp [intOf]
      · have C1 := hid (HC.out 5)
        have C2 := hid (HC.out 6)
        rw [h] at C1
        rw [h'] at C2
        clear h h' hk1 hk5
        go_wp2_with fail
        refine C1.out.mono ?_
        rintro e w2 ⟨rfl, rfl⟩
        go_wp2_with fail
        refine C2.out.mono ?_
        rintro e w2 ⟨rfl, rfl⟩
        go_wp2_with fail
        go_round
        case rel => exact ⟨4, by decide, by decide, rfl⟩
        case measure => simp [intOf]
    · rcases HR.out.2.2.2 with h | ⟨h, h'⟩
      · have C1 := hid (HC.out 6)
        rw [h] at C1
        clear h hk1 hk5
        go_wp2_with fail
        refine C1.out.mono ?_
        rintro e w2 ⟨rfl, rfl⟩
        go_wp2_with fail
        go_round
        case rel => exact ⟨5, by decide, by decide, rfl⟩
        case measure => simp [intOf]
      · have C1 := hid (HC.out 6)
        have C2 := hid (HC.out 7)
        rw [h] at C1
        rw [h'] at C2
        clear h h' hk1 hk5
        go_wp2_with fail
        refine C1.out.mono ?_
        rintro e w2 ⟨rfl, rfl⟩
        go_wp2_with fail
        refine C2.out.mono ?_
        rintro e w2 ⟨rfl, rfl⟩
        go_wp2_with fail
        go_round
        case rel => exact ⟨5, by decide, by decide, rfl⟩
        case measure => simp [intOf]
    · clear hk1 hk5
      go_wp2_with fail
      refine (pfirst_calls _ HTa.out).mono ?_
      rintro e w2 ⟨rfl, hb2⟩
      have hb2' := (below_alloc w1 (.cells #[.int .i64 1, .int .i64 3, .int .i64 5, .int .i64 6, .int .i64 7] 3)).trans (hb2.mono (by simp))
      have HB2 := hid (below_trans HB1.out hb2')
      have HT2 := hid (HT1.out.below hb2')
      have HA2 := hid (HA1.out.below hb2')
      have HV2 := hid (HV1.out.below hb2')
      clear hb2 hb2' HB1 HT1 HA1 HV1 HTa HC
      go_wp2_with fail
      refine (copy_calls _ la _ HA2.out (by omega)).mono ?_
      rintro e w3 ⟨⟨cv, rfl, hc⟩, hb3⟩
      obtain ⟨av, w4, hr, ho, hg⟩ := append_run hc (HV2.out.below hb3) (by omega) hb3.size
      have hb4 := hb3.grown hg hb3.size (Own.lt hc)
      have HB4 := hid (below_trans HB2.out hb4)
      have HT4 := hid (HT2.out.below hb4)
      have HA4 := hid (HA2.out.below hb4)
      have HV4 := hid (HV2.out.below hb4)
      have HO4 := hid ho.row
      clear hb3 hb4 hc ho hg HB2 HT2 HA2 HV2
      go_wp2_with (at_builtin; go_must (refine wpList_append_on hr rfl _ _ rfl rfl rfl rfl ?_))
      clear hr
      refine (encode_calls set _ (la ++ lb) _ HT4.out HO4.out (by rw [List.length_append]; omega)).mono ?_
      rintro e w5 ⟨rfl, hb5⟩
      have HB5 := hid (below_trans HB4.out hb5)
      have HT5 := hid (HT4.out.below hb5)
      have HA5 := hid (HA4.out.below hb5)
      have HV5 := hid (HV4.out.below hb5)
      clear hb5 HB4 HT4 HA4 HV4 HO4
      go_wp2_with fail
      refine (encode_calls set _ la _ HT5.out HA5.out (by omega)).mono ?_
      rintro e w6 ⟨rfl, hb6⟩
      have HB6 := hid (below_trans HB5.out hb6)
      have HT6 := hid (HT5.out.below hb6)
      have HV6 := hid (HV5.out.below hb6)
      clear hb6 HB5 HT5 HA5 HV5
      go_wp2_with fail
      refine (encode_calls set _ lb _ HT6.out HV6.out (by omega)).mono ?_
      rintro e w7 ⟨rfl, hb7⟩
      have HB7 := hid (below_trans HB6.out hb7)
      clear hb7 HB6 HT6 HV6
      have hq : (pctR set (la ++ lb) == pctR set la ++ pctR set lb) = true := by rw [HE.out]; exact beq_self_eq_true _
      go_wp2_with fail
      go_ret
      exact ⟨rfl, HB7.out⟩
set_option maxHeartbeats 1000000 in
theorem pctRise_walk (set c : Int) (va : Value) (la : List UInt8) (vb : Value) (lb : List UInt8) (w : World) (ht : Tab w) (hset : -9223372036854775808 ≤ set ∧ set ≤ 9223372036854775807) (hc : 0 ≤ c ∧ c ≤ 255) (ha : BRow w va la) (hb : BRow w vb lb) :
    Calls Tryd.prog 6 #[.int .i64 set, .int .u8 c, va, vb] w fun e w' => e = .returned (.bool true) ∧ Below w.heap.size w w' := by
  obtain ⟨n, rfl⟩ := Int.eq_ofNat_of_zero_le hc.1
  by_cases hl : la.length ≤ 8000 ∧ lb.length ≤ 8000
  · exact pctRise_in set n va vb la lb w ht (by omega) ha hb hl.1 hl.2
  · have HT := hid ht
    obtain ⟨a, capa, rfl, a1, a2, a3⟩ := ha
    obtain ⟨b, capb, rfl, b1, b2, b3⟩ := hb
    unfold maxLen at a2 b2
    have hl2 : (8000 : Int) < (la.length : Int) ∨ (¬ (8000 : Int) < (la.length : Int) ∧ (8000 : Int) < (lb.length : Int)) := by omega
    clear ht hset hc a3 b3 hl
    rcases hl2 with l1 | ⟨l1, l2⟩
    all_goals
      go_enter Tryd.func6, Tryd.ntmps6
      go_wp2_with fail
      refine (pfirst_calls _ HT.out).mono ?_
      rintro e w1 ⟨rfl, hb1⟩
      have HB1 := hid hb1
      have HT1 := hid (HT.out.below hb1)
      clear hb1
      go_wp2_with fail
      refine (pfirst_calls _ HT1.out).mono ?_
      rintro e w2 ⟨rfl, hb2⟩
      have HB2 := hid (below_trans HB1.out hb2)
      clear hb2
      go_wp2_with fail
      go_ret
      exact ⟨rfl, HB2.out⟩
end Go.Proofs.YtfglanhbjmlclaaDoor
