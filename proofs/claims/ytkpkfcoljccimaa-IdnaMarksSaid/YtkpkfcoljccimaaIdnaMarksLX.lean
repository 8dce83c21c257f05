/- The walk of the statement 'signs above 7F'. -/
import Derived.Test.YtkpkfcoljccimaaBundJ
namespace Go.Proofs.Ytkpkfcoljccimaa
open Go.RowKit
set_option linter.unusedVariables false
def anyHigh (l : List Int) : Bool := l.any fun c => decide (127 < c)
theorem high_snoc (l : List Int) (k : Nat) (h : k < l.length) : anyHigh (l.take (k + 1)) = (anyHigh (l.take k) || decide (127 < l[k])) := by
  unfold anyHigh
  rw [List.take_succ_eq_append_getElem h, List.any_append]
  simp
theorem high_not_ascii {l : List Int} (h : anyHigh l = true) : asciiB l = false := by
  unfold anyHigh at h
  rw [List.any_eq_true] at h
  obtain ⟨c, hc, hn⟩ := h
  unfold asciiB
  rw [List.all_eq_false]
  exact ⟨c, hc, by simp at hn ⊢; omega⟩
theorem no_mark {l : List Int} (hp : ∀ c ∈ l, kindOf c = 1) (h : ∀ (h4 : 4 ≤ l.length), l[0] = 120 → l[1] = 110 → l[2] = 45 → l[3] = 45 → False) : markB (textL l) = false := by
  cases hm : markB (textL l) with
  | false => rfl
  | true =>
    obtain ⟨r, rfl⟩ := mark_signs (fun c hc => kind_isS (hp c hc)) hm
    exact (h (by simp) rfl rfl rfl rfl).elim
set_option maxRecDepth 20000 in
set_option maxHeartbeats 16000000 in
theorem idnaMarks_walk (va : Value) (l : List Int) (w : World) (ha : IRow w va l) :
    Calls Try.prog 4 #[va] w fun e w' => e = .returned (.bool true) ∧ Below w.heap.size w w' := by
  have HV := hid ha
  obtain ⟨a, cap, rfl, h1, h2, h3⟩ := ha
  unfold maxLen at h2
  have l2 : (l.length : Int) ≤ (cap : Int) := by omega
  have l3 : (cap : Int) ≤ 9223372036854775807 := by omega
  clear h1 h2 h3
  by_cases hlong : 100 < l.length
  · have g : (100 : Int) < (l.length : Int) := by omega
    clear hlong
    go_enter Try.func4, Try.ntmps4
    go_wp2_with fail
    refine (ifirst_calls _).mono ?_
    rintro e w1 ⟨rfl, hb1⟩
    have HB1 := hid hb1
    clear hb1
    go_wp2_with fail
    refine (ifirst_calls _).mono ?_
    rintro e w2 ⟨rfl, hb2⟩
    have HB2 := hid (below_trans HB1.out hb2)
    clear hb2
    go_wp2_with fail
    go_ret
    exact ⟨rfl, HB2.out⟩
  · have g : decide ((100 : Int) < (l.length : Int)) = false := decide_eq_false (by omega)
    have HLL : Hid (l.length ≤ 100) := by show _ ≤ _; omega
    clear hlong
    go_enter Try.func4, Try.ntmps4
    go_wp2_with fail
    refine (ifirst_calls _).mono ?_
    rintro e w1 ⟨rfl, hb1⟩
    have HB1 := hid hb1
    clear hb1
    go_wp2_with fail
    go_loopw [3, 4] (fun vh vi wr => ∃ (k : Nat), k ≤ l.length ∧ vh = .bool (anyHigh (l.take k)) ∧ vi = .int .i64 (k : Int) ∧ (∀ c ∈ l.take k, kindOf c = 1) ∧ Below w.heap.size w wr) (fun _ vi _ => l.length - (intOf vi).toNat)
    case atStart => exact ⟨0, Nat.zero_le _, rfl, rfl, by simp, HB1.out⟩
    case round =>
      obtain ⟨k, hk, rfl, rfl, hall, hb⟩ := hrel
      have HA := hid hall
      have HB := hid hb
      have k0 : (0 : Int) ≤ (k : Int) := by omega
      clear hall hb
      by_cases hlt : k < l.length
      · obtain ⟨b, off, rfl, hck⟩ := HV.out.open HB.out k hlt
        have k1 : (k : Int) < (l.length : Int) := by omega
        have HK := hid hlt
        have HNx := hid (valid_take l k hlt HA.out)
        have HSn := hid (high_snoc l k hlt)
        generalize l[k] = c at *
        clear hlt hk
        go_wp2_with fail
        refine (kind_calls c _).mono ?_
        rintro e w2 ⟨rfl, hb2⟩
        have hck2 : w2.cell? ⟨b, off + k, none⟩ = some (.int .i64 c) := (hb2.cell (p := ⟨b, off + k, none⟩) (World.block_lt_of_cell? _ _ hck)).trans hck
        have HB2 := hid (below_trans HB.out hb2)
        clear hb2
        generalize kindOf c = kc at *
        by_cases hkc : kc = 1
        · subst hkc
          have HX := hid (HNx.out rfl)
          cases hh : anyHigh (l.take k) with
          | true =>
            have HS2 : Hid (anyHigh (l.take (k + 1)) = true) := by show _ = _; rw [HSn.out, hh]; rfl
            clear HSn hh
            go_wp2_with fail
            go_roundw
            case rel => exact ⟨k + 1, HK.out, by rw [HS2.out] <;> first | done | rfl | simp [h7] | (simp; omega), by go_num, HX.out, HB2.out⟩
            case measure => have := HK.out; simp [intOf]; omega
          | false =>
            by_cases h7 : 127 < c
            · have HS2 : Hid (anyHigh (l.take (k + 1)) = true) := by show _ = _; rw [HSn.out, hh, decide_eq_true h7]; rfl
              clear HSn hh
              go_wp2_with fail
              go_roundw
              case rel => exact ⟨k + 1, HK.out, by rw [HS2.out] <;> first | done | rfl | simp [h7] | (simp; omega), by go_num, HX.out, HB2.out⟩
              case measure => have := HK.out; simp [intOf]; omega
            · have HS2 : Hid (anyHigh (l.take (k + 1)) = false) := by show _ = _; rw [HSn.out, hh, decide_eq_false h7]; rfl
              clear HSn hh
              go_wp2_with fail
              go_roundw
              case rel => exact ⟨k + 1, HK.out, by rw [HS2.out] <;> first | done | rfl | simp [h7] | (simp; omega), by go_num, HX.out, HB2.out⟩
              case measure => have := HK.out; simp [intOf]; omega
        · have q1 : (kc == 1) = false := by rw [beq_eq_false_iff_ne]; exact hkc
          have q2 : (kc != 1) = true := by rw [bne_iff_ne]; exact hkc
          clear hkc
          go_wp2_with fail
          refine (ifirst_calls _).mono ?_
          rintro e w3 ⟨rfl, hb3⟩
          have HB3 := hid (below_trans HB2.out hb3)
          clear hb3
          go_wp2_with fail
          go_ret
          exact ⟨rfl, HB3.out⟩
      · have hkl : k = l.length := by omega
        have g1 : ¬ (k : Int) < (l.length : Int) := by omega
        have HKA : Hid (∀ c ∈ l, kindOf c = 1) := by
          have := HA.out
          rw [hkl, List.take_length] at this
          exact this
        have HTk : Hid (l.take k = l) := by show _ = _; rw [hkl, List.take_length]
        rw [HTk.out]
        have HVk := hid (HV.out.below HB.out)
        clear hkl hlt hk HA
        have hlz := labR_size l (by have := HLL.out; omega)
        cases hh : anyHigh l with
        | false =>
          generalize hL : labR l = X at *
          obtain ⟨s, n⟩ := X
          generalize hE : encR l = Y at *
          obtain ⟨p, m⟩ := Y
          have HLC := hid (fun v w' hv => label_calls v l w' hv (by have := HLL.out; omega))
          have HEC := hid (fun v w' hv => pencode_calls v l w' hv)
          rw [hL] at HLC
          rw [hE] at HEC
          clear hL hE hlz
          go_wp2_with fail
          refine (HEC.out _ _ HVk.out).mono ?_
          rintro e w2 ⟨rfl, hb2⟩
          have HB2 := hid (below_trans HB.out hb2)
          have HV2 := hid (HVk.out.below hb2)
          clear hb2
          go_wp2_with fail
          refine (HLC.out _ _ HV2.out).mono ?_
          rintro e w3 ⟨rfl, hb3⟩
          have HB3 := hid (below_trans HB2.out hb3)
          clear hb3 HB2 HV2
          go_wp2_with fail
          refine (ifirst_calls _).mono ?_
          rintro e w4 ⟨rfl, hb4⟩
          have HB4 := hid (below_trans HB3.out hb4)
          clear hb4
          go_wp2_with fail
          go_ret
          exact ⟨rfl, HB4.out⟩
        | true =>
          have hasc := high_not_ascii hh
          have hall : l.all isS = true := List.all_eq_true.2 fun c hc => kind_isS (HKA.out c hc)
          have hen : encR l = (strOf (enc (nats l)), 0) := encR_ok (by have := HLL.out; omega) hall
          have HEC := hid (fun v w' hv => pencode_calls v l w' hv)
          rw [hen] at HEC
          have HLC := hid (fun v w' hv => label_calls v l w' hv (by have := HLL.out; omega))
          have HAs := hid hasc
          clear hasc hall hen
          by_cases h4 : 4 ≤ l.length
          · have g4 : (4 : Int) ≤ (l.length : Int) := by omega
            have g5 : (4 : Int) ≤ (cap : Int) := by omega
            obtain ⟨x0, hx0⟩ : ∃ x, x = l[0] := ⟨_, rfl⟩
            obtain ⟨x1, hx1⟩ : ∃ x, x = l[1] := ⟨_, rfl⟩
            obtain ⟨x2, hx2⟩ : ∃ x, x = l[2] := ⟨_, rfl⟩
            obtain ⟨x3, hx3⟩ : ∃ x, x = l[3] := ⟨_, rfl⟩
            have HNo : Hid ((x0 = 120 → x1 = 110 → x2 = 45 → x3 = 45 → False) → markB (textL l) = false) := fun h => no_mark HKA.out (fun h4 a0 a1 a2 a3 => h (hx0.trans a0) (hx1.trans a1) (hx2.trans a2) (hx3.trans a3))
            have HX0 := hid hx0
            have HX1 := hid hx1
            have HX2 := hid hx2
            have HX3 := hid hx3
            have H4 := hid h4
            clear hx0 hx1 hx2 hx3
            by_cases e_0 : x0 = 120
            · have r_0 : (x0 == 120) = true := by rw [beq_iff_eq]; exact e_0
              by_cases e_1 : x1 = 110
              · have r_1 : (x1 == 110) = true := by rw [beq_iff_eq]; exact e_1
                by_cases e_2 : x2 = 45
                · have r_2 : (x2 == 45) = true := by rw [beq_iff_eq]; exact e_2
                  by_cases e_3 : x3 = 45
                  · have r_3 : (x3 == 45) = true := by rw [beq_iff_eq]; exact e_3
                    generalize labR l = X at *
                    obtain ⟨s, n⟩ := X
                    generalize strOf (enc (nats l)) = p at *
                    go_wp2_with fail
                    refine (HEC.out _ _ HVk.out).mono ?_
                    rintro e w2 ⟨rfl, hb2⟩
                    have HB2 := hid (below_trans HB.out hb2)
                    have HV2 := hid (HVk.out.below hb2)
                    clear hb2
                    go_wp2_with fail
                    refine (HLC.out _ _ HV2.out).mono ?_
                    rintro e w3 ⟨rfl, hb3⟩
                    have HB3 := hid (below_trans HB2.out hb3)
                    have HV3 := hid (HV2.out.below hb3)
                    clear hb3 HB2 HV2
                    have h4 := H4.out
                    obtain ⟨b, off, rfl, hc0⟩ := HV3.out.open (Below.refl _ _) 0 (by omega)
                    obtain ⟨b', off', he', hc1⟩ := HV3.out.open (Below.refl _ _) 1 (by omega)
                    injection he' with he'
                    injection he' with e1 e2
                    subst e1 e2
                    obtain ⟨b', off', he', hc2⟩ := HV3.out.open (Below.refl _ _) 2 (by omega)
                    injection he' with he'
                    injection he' with e1 e2
                    subst e1 e2
                    obtain ⟨b', off', he', hc3⟩ := HV3.out.open (Below.refl _ _) 3 (by omega)
                    injection he' with he'
                    injection he' with e1 e2
                    subst e1 e2
                    rw [Nat.add_zero] at hc0
                    have HX0' := HX0.out
                    have HX1' := HX1.out
                    have HX2' := HX2.out
                    have HX3' := HX3.out
                    rw [← HX0'] at hc0
                    rw [← HX1'] at hc1
                    rw [← HX2'] at hc2
                    rw [← HX3'] at hc3
                    clear HX0' HX1' HX2' HX3' h4
                    go_wp2_with fail
                    refine (ifirst_calls _).mono ?_
                    rintro e w4 ⟨rfl, hb4⟩
                    have HB4 := hid (below_trans HB3.out hb4)
                    clear hb4
                    go_wp2_with fail
                    go_ret
                    exact ⟨rfl, HB4.out⟩
                  · have r_3 : (x3 == 45) = false := by rw [beq_eq_false_iff_ne]; exact e_3
                    have HNM := hid (HNo.out (fun a0 a1 a2 a3 => e_3 a3))
                    clear e_0 e_1 e_2 e_3
                    obtain ⟨hq1, hq2, hq3, hq4⟩ := high_again HKA.out HLL.out HAs.out HNM.out
                    rw [hq2] at HLC
                    have HL2 := hid (fun v w' hv => label_calls v (byteInts ([120, 110, 45, 45] ++ enc (nats l))) w' hv (by unfold byteInts; rw [List.length_map, List.length_append]; simp; omega))
                    rw [hq3] at HL2
                    have HSS : Hid ((strOf ([120, 110, 45, 45] ++ enc (nats l))).size ≤ 100000) := by show _ ≤ _; rw [strOf_size, List.length_append]; simp; omega
                    have hbs : bytesOf (strOf ([120, 110, 45, 45] ++ enc (nats l))) = [120, 110, 45, 45] ++ enc (nats l) := rfl
                    rw [← hbs] at HL2
                    have hsb : strOf (bytesOf (strOf ([120, 110, 45, 45] ++ enc (nats l)))) = strOf ([120, 110, 45, 45] ++ enc (nats l)) := rfl
                    rw [hsb] at HL2
                    have hj : (⟨#[120, 110, 45, 45]⟩ : ByteArray) ++ strOf (enc (nats l)) = strOf ([120, 110, 45, 45] ++ enc (nats l)) := str_join _
                    have p1 : ((strOf (enc (nats l))).size : Int) ≤ 2000 := by rw [strOf_size]; omega
                    clear hq1 hq2 hq3 hq4 hbs hsb
                    generalize strOf ([120, 110, 45, 45] ++ enc (nats l)) = S at *
                    generalize strOf (enc (nats l)) = p at *
                    go_wp2_with fail
                    refine (HEC.out _ _ HVk.out).mono ?_
                    rintro e w2 ⟨rfl, hb2⟩
                    have HB2 := hid (below_trans HB.out hb2)
                    have HV2 := hid (HVk.out.below hb2)
                    clear hb2
                    go_wp2_with fail
                    refine (HLC.out _ _ HV2.out).mono ?_
                    rintro e w3 ⟨rfl, hb3⟩
                    have HB3 := hid (below_trans HB2.out hb3)
                    have HV3 := hid (HV2.out.below hb3)
                    clear hb3 HB2 HV2
                    have h4 := H4.out
                    obtain ⟨b, off, rfl, hc0⟩ := HV3.out.open (Below.refl _ _) 0 (by omega)
                    obtain ⟨b', off', he', hc1⟩ := HV3.out.open (Below.refl _ _) 1 (by omega)
                    injection he' with he'
                    injection he' with e1 e2
                    subst e1 e2
                    obtain ⟨b', off', he', hc2⟩ := HV3.out.open (Below.refl _ _) 2 (by omega)
                    injection he' with he'
                    injection he' with e1 e2
                    subst e1 e2
                    obtain ⟨b', off', he', hc3⟩ := HV3.out.open (Below.refl _ _) 3 (by omega)
                    injection he' with he'
                    injection he' with e1 e2
                    subst e1 e2
                    rw [Nat.add_zero] at hc0
                    have HX0' := HX0.out
                    have HX1' := HX1.out
                    have HX2' := HX2.out
                    have HX3' := HX3.out
                    rw [← HX0'] at hc0
                    rw [← HX1'] at hc1
                    rw [← HX2'] at hc2
                    rw [← HX3'] at hc3
                    clear HX0' HX1' HX2' HX3' h4
                    go_wp2_with fail
                    refine (isigns_calls S _ HSS.out).mono ?_
                    rintro e w4 ⟨⟨v4, rfl, ho4⟩, hb4⟩
                    have HB4 := hid (below_trans HB3.out hb4)
                    have HV4 := hid ho4.row
                    clear hb4 ho4
                    go_wp2_with fail
                    refine (HL2.out _ _ HV4.out).mono ?_
                    rintro e w5 ⟨rfl, hb5⟩
                    have HB5 := hid (below_trans HB4.out hb5)
                    clear hb5
                    go_wp2_with fail
                    refine (ifirst_calls _).mono ?_
                    rintro e w6 ⟨rfl, hb6⟩
                    have HB6 := hid (below_trans HB5.out hb6)
                    clear hb6
                    go_wp2_with fail
                    go_ret
                    exact ⟨rfl, HB6.out⟩
                · have r_2 : (x2 == 45) = false := by rw [beq_eq_false_iff_ne]; exact e_2
                  have HNM := hid (HNo.out (fun a0 a1 a2 a3 => e_2 a2))
                  clear e_0 e_1 e_2
                  obtain ⟨hq1, hq2, hq3, hq4⟩ := high_again HKA.out HLL.out HAs.out HNM.out
                  rw [hq2] at HLC
                  have HL2 := hid (fun v w' hv => label_calls v (byteInts ([120, 110, 45, 45] ++ enc (nats l))) w' hv (by unfold byteInts; rw [List.length_map, List.length_append]; simp; omega))
                  rw [hq3] at HL2
                  have HSS : Hid ((strOf ([120, 110, 45, 45] ++ enc (nats l))).size ≤ 100000) := by show _ ≤ _; rw [strOf_size, List.length_append]; simp; omega
                  have hbs : bytesOf (strOf ([120, 110, 45, 45] ++ enc (nats l))) = [120, 110, 45, 45] ++ enc (nats l) := rfl
                  rw [← hbs] at HL2
                  have hsb : strOf (bytesOf (strOf ([120, 110, 45, 45] ++ enc (nats l)))) = strOf ([120, 110, 45, 45] ++ enc (nats l)) := rfl
                  rw [hsb] at HL2
                  have hj : (⟨#[120, 110, 45, 45]⟩ : ByteArray) ++ strOf (enc (nats l)) = strOf ([120, 110, 45, 45] ++ enc (nats l)) := str_join _
                  have p1 : ((strOf (enc (nats l))).size : Int) ≤ 2000 := by rw [strOf_size]; omega
                  clear hq1 hq2 hq3 hq4 hbs hsb
                  generalize strOf ([120, 110, 45, 45] ++ enc (nats l)) = S at *
                  generalize strOf (enc (nats l)) = p at *
                  go_wp2_with fail
                  refine (HEC.out _ _ HVk.out).mono ?_
                  rintro e w2 ⟨rfl, hb2⟩
                  have HB2 := hid (below_trans HB.out hb2)
                  have HV2 := hid (HVk.out.below hb2)
                  clear hb2
                  go_wp2_with fail
                  refine (HLC.out _ _ HV2.out).mono ?_
                  rintro e w3 ⟨rfl, hb3⟩
                  have HB3 := hid (below_trans HB2.out hb3)
                  have HV3 := hid (HV2.out.below hb3)
                  clear hb3 HB2 HV2
                  have h4 := H4.out
                  obtain ⟨b, off, rfl, hc0⟩ := HV3.out.open (Below.refl _ _) 0 (by omega)
                  obtain ⟨b', off', he', hc1⟩ := HV3.out.open (Below.refl _ _) 1 (by omega)
                  injection he' with he'
                  injection he' with e1 e2
                  subst e1 e2
                  obtain ⟨b', off', he', hc2⟩ := HV3.out.open (Below.refl _ _) 2 (by omega)
                  injection he' with he'
                  injection he' with e1 e2
                  subst e1 e2
                  obtain ⟨b', off', he', hc3⟩ := HV3.out.open (Below.refl _ _) 3 (by omega)
                  injection he' with he'
                  injection he' with e1 e2
                  subst e1 e2
                  rw [Nat.add_zero] at hc0
                  have HX0' := HX0.out
                  have HX1' := HX1.out
                  have HX2' := HX2.out
                  have HX3' := HX3.out
                  rw [← HX0'] at hc0
                  rw [← HX1'] at hc1
                  rw [← HX2'] at hc2
                  rw [← HX3'] at hc3
                  clear HX0' HX1' HX2' HX3' h4
                  go_wp2_with fail
                  refine (isigns_calls S _ HSS.out).mono ?_
                  rintro e w4 ⟨⟨v4, rfl, ho4⟩, hb4⟩
                  have HB4 := hid (below_trans HB3.out hb4)
                  have HV4 := hid ho4.row
                  clear hb4 ho4
                  go_wp2_with fail
                  refine (HL2.out _ _ HV4.out).mono ?_
                  rintro e w5 ⟨rfl, hb5⟩
                  have HB5 := hid (below_trans HB4.out hb5)
                  clear hb5
                  go_wp2_with fail
                  refine (ifirst_calls _).mono ?_
                  rintro e w6 ⟨rfl, hb6⟩
                  have HB6 := hid (below_trans HB5.out hb6)
                  clear hb6
                  go_wp2_with fail
                  go_ret
                  exact ⟨rfl, HB6.out⟩
              · have r_1 : (x1 == 110) = false := by rw [beq_eq_false_iff_ne]; exact e_1
                have HNM := hid (HNo.out (fun a0 a1 a2 a3 => e_1 a1))
                clear e_0 e_1
                obtain ⟨hq1, hq2, hq3, hq4⟩ := high_again HKA.out HLL.out HAs.out HNM.out
                rw [hq2] at HLC
                have HL2 := hid (fun v w' hv => label_calls v (byteInts ([120, 110, 45, 45] ++ enc (nats l))) w' hv (by unfold byteInts; rw [List.length_map, List.length_append]; simp; omega))
                rw [hq3] at HL2
                have HSS : Hid ((strOf ([120, 110, 45, 45] ++ enc (nats l))).size ≤ 100000) := by show _ ≤ _; rw [strOf_size, List.length_append]; simp; omega
                have hbs : bytesOf (strOf ([120, 110, 45, 45] ++ enc (nats l))) = [120, 110, 45, 45] ++ enc (nats l) := rfl
                rw [← hbs] at HL2
                have hsb : strOf (bytesOf (strOf ([120, 110, 45, 45] ++ enc (nats l)))) = strOf ([120, 110, 45, 45] ++ enc (nats l)) := rfl
                rw [hsb] at HL2
                have hj : (⟨#[120, 110, 45, 45]⟩ : ByteArray) ++ strOf (enc (nats l)) = strOf ([120, 110, 45, 45] ++ enc (nats l)) := str_join _
                have p1 : ((strOf (enc (nats l))).size : Int) ≤ 2000 := by rw [strOf_size]; omega
                clear hq1 hq2 hq3 hq4 hbs hsb
                generalize strOf ([120, 110, 45, 45] ++ enc (nats l)) = S at *
                generalize strOf (enc (nats l)) = p at *
                go_wp2_with fail
                refine (HEC.out _ _ HVk.out).mono ?_
                rintro e w2 ⟨rfl, hb2⟩
                have HB2 := hid (below_trans HB.out hb2)
                have HV2 := hid (HVk.out.below hb2)
                clear hb2
                go_wp2_with fail
                refine (HLC.out _ _ HV2.out).mono ?_
                rintro e w3 ⟨rfl, hb3⟩
                have HB3 := hid (below_trans HB2.out hb3)
                have HV3 := hid (HV2.out.below hb3)
                clear hb3 HB2 HV2
                have h4 := H4.out
                obtain ⟨b, off, rfl, hc0⟩ := HV3.out.open (Below.refl _ _) 0 (by omega)
                obtain ⟨b', off', he', hc1⟩ := HV3.out.open (Below.refl _ _) 1 (by omega)
                injection he' with he'
                injection he' with e1 e2
                subst e1 e2
                obtain ⟨b', off', he', hc2⟩ := HV3.out.open (Below.refl _ _) 2 (by omega)
                injection he' with he'
                injection he' with e1 e2
                subst e1 e2
                obtain ⟨b', off', he', hc3⟩ := HV3.out.open (Below.refl _ _) 3 (by omega)
                injection he' with he'
                injection he' with e1 e2
                subst e1 e2
                rw [Nat.add_zero] at hc0
                have HX0' := HX0.out
                have HX1' := HX1.out
                have HX2' := HX2.out
                have HX3' := HX3.out
                rw [← HX0'] at hc0
                rw [← HX1'] at hc1
                rw [← HX2'] at hc2
                rw [← HX3'] at hc3
                clear HX0' HX1' HX2' HX3' h4
                go_wp2_with fail
                refine (isigns_calls S _ HSS.out).mono ?_
                rintro e w4 ⟨⟨v4, rfl, ho4⟩, hb4⟩
                have HB4 := hid (below_trans HB3.out hb4)
                have HV4 := hid ho4.row
                clear hb4 ho4
                go_wp2_with fail
                refine (HL2.out _ _ HV4.out).mono ?_
                rintro e w5 ⟨rfl, hb5⟩
                have HB5 := hid (below_trans HB4.out hb5)
                clear hb5
                go_wp2_with fail
                refine (ifirst_calls _).mono ?_
                rintro e w6 ⟨rfl, hb6⟩
                have HB6 := hid (below_trans HB5.out hb6)
                clear hb6
                go_wp2_with fail
                go_ret
                exact ⟨rfl, HB6.out⟩
            · have r_0 : (x0 == 120) = false := by rw [beq_eq_false_iff_ne]; exact e_0
              have HNM := hid (HNo.out (fun a0 a1 a2 a3 => e_0 a0))
              clear e_0
              obtain ⟨hq1, hq2, hq3, hq4⟩ := high_again HKA.out HLL.out HAs.out HNM.out
              rw [hq2] at HLC
              have HL2 := hid (fun v w' hv => label_calls v (byteInts ([120, 110, 45, 45] ++ enc (nats l))) w' hv (by unfold byteInts; rw [List.length_map, List.length_append]; simp; omega))
              rw [hq3] at HL2
              have HSS : Hid ((strOf ([120, 110, 45, 45] ++ enc (nats l))).size ≤ 100000) := by show _ ≤ _; rw [strOf_size, List.length_append]; simp; omega
              have hbs : bytesOf (strOf ([120, 110, 45, 45] ++ enc (nats l))) = [120, 110, 45, 45] ++ enc (nats l) := rfl
              rw [← hbs] at HL2
              have hsb : strOf (bytesOf (strOf ([120, 110, 45, 45] ++ enc (nats l)))) = strOf ([120, 110, 45, 45] ++ enc (nats l)) := rfl
              rw [hsb] at HL2
              have hj : (⟨#[120, 110, 45, 45]⟩ : ByteArray) ++ strOf (enc (nats l)) = strOf ([120, 110, 45, 45] ++ enc (nats l)) := str_join _
              have p1 : ((strOf (enc (nats l))).size : Int) ≤ 2000 := by rw [strOf_size]; omega
              clear hq1 hq2 hq3 hq4 hbs hsb
              generalize strOf ([120, 110, 45, 45] ++ enc (nats l)) = S at *
              generalize strOf (enc (nats l)) = p at *
              go_wp2_with fail
              refine (HEC.out _ _ HVk.out).mono ?_
              rintro e w2 ⟨rfl, hb2⟩
              have HB2 := hid (below_trans HB.out hb2)
              have HV2 := hid (HVk.out.below hb2)
              clear hb2
              go_wp2_with fail
              refine (HLC.out _ _ HV2.out).mono ?_
              rintro e w3 ⟨rfl, hb3⟩
              have HB3 := hid (below_trans HB2.out hb3)
              have HV3 := hid (HV2.out.below hb3)
              clear hb3 HB2 HV2
              have h4 := H4.out
              obtain ⟨b, off, rfl, hc0⟩ := HV3.out.open (Below.refl _ _) 0 (by omega)
              obtain ⟨b', off', he', hc1⟩ := HV3.out.open (Below.refl _ _) 1 (by omega)
              injection he' with he'
              injection he' with e1 e2
              subst e1 e2
              obtain ⟨b', off', he', hc2⟩ := HV3.out.open (Below.refl _ _) 2 (by omega)
              injection he' with he'
              injection he' with e1 e2
              subst e1 e2
              obtain ⟨b', off', he', hc3⟩ := HV3.out.open (Below.refl _ _) 3 (by omega)
              injection he' with he'
              injection he' with e1 e2
              subst e1 e2
              rw [Nat.add_zero] at hc0
              have HX0' := HX0.out
              have HX1' := HX1.out
              have HX2' := HX2.out
              have HX3' := HX3.out
              rw [← HX0'] at hc0
              rw [← HX1'] at hc1
              rw [← HX2'] at hc2
              rw [← HX3'] at hc3
              clear HX0' HX1' HX2' HX3' h4
              go_wp2_with fail
              refine (isigns_calls S _ HSS.out).mono ?_
              rintro e w4 ⟨⟨v4, rfl, ho4⟩, hb4⟩
              have HB4 := hid (below_trans HB3.out hb4)
              have HV4 := hid ho4.row
              clear hb4 ho4
              go_wp2_with fail
              refine (HL2.out _ _ HV4.out).mono ?_
              rintro e w5 ⟨rfl, hb5⟩
              have HB5 := hid (below_trans HB4.out hb5)
              clear hb5
              go_wp2_with fail
              refine (ifirst_calls _).mono ?_
              rintro e w6 ⟨rfl, hb6⟩
              have HB6 := hid (below_trans HB5.out hb6)
              clear hb6
              go_wp2_with fail
              go_ret
              exact ⟨rfl, HB6.out⟩
          · have g4 : ¬ (4 : Int) ≤ (l.length : Int) := by omega
            have HNM := hid (no_mark HKA.out (fun h _ _ _ _ => h4 h))
            clear h4
            obtain ⟨hq1, hq2, hq3, hq4⟩ := high_again HKA.out HLL.out HAs.out HNM.out
            rw [hq2] at HLC
            have HL2 := hid (fun v w' hv => label_calls v (byteInts ([120, 110, 45, 45] ++ enc (nats l))) w' hv (by unfold byteInts; rw [List.length_map, List.length_append]; simp; omega))
            rw [hq3] at HL2
            have HSS : Hid ((strOf ([120, 110, 45, 45] ++ enc (nats l))).size ≤ 100000) := by show _ ≤ _; rw [strOf_size, List.length_append]; simp; omega
            have hbs : bytesOf (strOf ([120, 110, 45, 45] ++ enc (nats l))) = [120, 110, 45, 45] ++ enc (nats l) := rfl
            rw [← hbs] at HL2
            have hsb : strOf (bytesOf (strOf ([120, 110, 45, 45] ++ enc (nats l)))) = strOf ([120, 110, 45, 45] ++ enc (nats l)) := rfl
            rw [hsb] at HL2
            have hj : (⟨#[120, 110, 45, 45]⟩ : ByteArray) ++ strOf (enc (nats l)) = strOf ([120, 110, 45, 45] ++ enc (nats l)) := str_join _
            have p1 : ((strOf (enc (nats l))).size : Int) ≤ 2000 := by rw [strOf_size]; omega
            clear hq1 hq2 hq3 hq4 hbs hsb
            generalize strOf ([120, 110, 45, 45] ++ enc (nats l)) = S at *
            generalize strOf (enc (nats l)) = p at *
            go_wp2_with fail
            refine (HEC.out _ _ HVk.out).mono ?_
            rintro e w2 ⟨rfl, hb2⟩
            have HB2 := hid (below_trans HB.out hb2)
            have HV2 := hid (HVk.out.below hb2)
            clear hb2
            go_wp2_with fail
            refine (HLC.out _ _ HV2.out).mono ?_
            rintro e w3 ⟨rfl, hb3⟩
            have HB3 := hid (below_trans HB2.out hb3)
            have HV3 := hid (HV2.out.below hb3)
            clear hb3 HB2 HV2
            go_wp2_with fail
            refine (isigns_calls S _ HSS.out).mono ?_
            rintro e w4 ⟨⟨v4, rfl, ho4⟩, hb4⟩
            have HB4 := hid (below_trans HB3.out hb4)
            have HV4 := hid ho4.row
            clear hb4 ho4
            go_wp2_with fail
            refine (HL2.out _ _ HV4.out).mono ?_
            rintro e w5 ⟨rfl, hb5⟩
            have HB5 := hid (below_trans HB4.out hb5)
            clear hb5
            go_wp2_with fail
            refine (ifirst_calls _).mono ?_
            rintro e w6 ⟨rfl, hb6⟩
            have HB6 := hid (below_trans HB5.out hb6)
            clear hb6
            go_wp2_with fail
            go_ret
            exact ⟨rfl, HB6.out⟩
end Go.Proofs.Ytkpkfcoljccimaa
