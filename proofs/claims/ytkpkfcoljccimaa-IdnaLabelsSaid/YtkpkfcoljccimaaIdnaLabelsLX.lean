/- The walk of the statement 'labels with points between'. -/
import Derived.Test.YtkpkfcoljccimaaBundJ
namespace Go.Proofs.Ytkpkfcoljccimaa
open Go.RowKit
set_option linter.unusedVariables false
theorem good_take (p : List Int) (k : Nat) (h : k < p.length) (h1 : ∀ c ∈ p.take k, kindOf c = 1 ∧ c ≠ 46) (h2 : kindOf p[k] = 1) (h3 : p[k] ≠ 46) : ∀ c ∈ p.take (k + 1), kindOf c = 1 ∧ c ≠ 46 := by
  intro c hc
  rw [List.take_succ_eq_append_getElem h] at hc
  rcases List.mem_append.1 hc with g | g
  · exact h1 c g
  · rw [List.mem_singleton.1 g]; exact ⟨h2, h3⟩
set_option maxRecDepth 20000 in
set_option maxHeartbeats 16000000 in
theorem idnaLabels_walk (va : Value) (ps : List (List Int)) (w : World) (ha : PRow w va ps) :
    Calls Try.prog 3 #[va] w fun e w' => e = .returned (.bool true) ∧ Below w.heap.size w w' := by
  obtain ⟨xs, hrow, heach⟩ := ha
  have HV := hid hrow
  have HE := hid heach
  have hel := heach.len
  obtain ⟨a, cap, rfl, h1, h2, h3⟩ := hrow
  unfold maxLen at h2
  have l2 : (xs.length : Int) ≤ (cap : Int) := by omega
  have l3 : (cap : Int) ≤ 9223372036854775807 := by omega
  have HEL := hid hel
  clear h1 h2 h3 heach
  by_cases hbad : ps.length < 1 ∨ 60 < ps.length
  · rcases hbad with hb | hb
    · have g : (xs.length : Int) < 1 := by omega
      clear hb hel
      go_enter Try.func3, Try.ntmps3
      go_wp2_with fail
      refine (ifirst_calls _).mono ?_
      rintro e w1 ⟨rfl, hb1⟩
      have HB1 := hid hb1
      clear hb1
      go_wp2_with fail
      refine (ifirst_calls _).mono ?_
      rintro e w2 ⟨rfl, hb2⟩
      have HB2 := hid (below_trans HB1.out hb2)
      clear hb2
      go_wp2_with fail
      go_ret
      exact ⟨rfl, HB2.out⟩
    · have g0 : ¬ (xs.length : Int) < 1 := by omega
      have g : (60 : Int) < (xs.length : Int) := by omega
      clear hb hel
      go_enter Try.func3, Try.ntmps3
      go_wp2_with fail
      refine (ifirst_calls _).mono ?_
      rintro e w1 ⟨rfl, hb1⟩
      have HB1 := hid hb1
      clear hb1
      go_wp2_with fail
      refine (ifirst_calls _).mono ?_
      rintro e w2 ⟨rfl, hb2⟩
      have HB2 := hid (below_trans HB1.out hb2)
      clear hb2
      go_wp2_with fail
      go_ret
      exact ⟨rfl, HB2.out⟩
  · have g0 : decide ((xs.length : Int) < 1) = false := decide_eq_false (by omega)
    have g1 : decide ((60 : Int) < (xs.length : Int)) = false := decide_eq_false (by omega)
    have HP1 : Hid (1 ≤ ps.length ∧ ps.length ≤ 60) := by show _ ∧ _; omega
    have HNe : Hid (ps ≠ []) := by intro h; rw [h] at hbad; simp at hbad
    have es : (strOf [] : ByteArray) = ⟨#[]⟩ := rfl
    have HS0 := hid (LabsAt.start ps)
    rw [es] at HS0
    have x60 : (xs.length : Int) ≤ 60 := by omega
    clear hbad hel es
    go_enter Try.func3, Try.ntmps3
    go_wp2_with fail
    refine (ifirst_calls _).mono ?_
    rintro e w1 ⟨rfl, hb1⟩
    have HB1 := hid hb1
    clear hb1
    go_wp2_with fail
    go_loopw [3, 4, 5, 6] (fun vall vwant vgood vi wr => ∃ (i : Nat) (all : List Int) (want : ByteArray) (good : Bool), vwant = .string want ∧ vgood = .bool good ∧ vi = .int .i64 (i : Int) ∧ IOwn wr w.heap.size vall all ∧ LabsAt ps i all want good ∧ Below w.heap.size w wr) (fun _ _ _ vi _ => ps.length - (intOf vi).toNat)
    case atStart => exact ⟨0, [], _, true, rfl, rfl, rfl, Own.nil _ _ _ _, HS0.out, HB1.out⟩
    case round =>
      obtain ⟨i, all, want, good, rfl, rfl, rfl, ho, hA, hb⟩ := hrel
      have HO := hid ho
      have HA := hid hA
      have HB := hid hb
      have HSz : Hid (w.heap.size ≤ wr.heap.size) := hb.size
      obtain ⟨hi1, hal, hws⟩ := hA.bounds
      have i0 : (0 : Int) ≤ (i : Int) := by omega
      have HAL : Hid (all.length ≤ 4000) := by show _ ≤ _; have := HP1.out; omega
      have ws : (want.size : Int) ≤ 700000000 := by have := HP1.out; omega
      clear ho hA hb hal hws
      by_cases hlt : i < ps.length
      · have hix : i < xs.length := by have := HEL.out; omega
        obtain ⟨b, off, rfl, hck⟩ := HV.out.open HB.out i hix
        have i1 : (i : Int) < (xs.length : Int) := by omega
        have HI := hid hlt
        have HVi := hid (fun w' (hb : Below w.heap.size w w') => (HV.out.open hb i hix))
        have HRi := hid (HE.out.get i hix hlt)
        have HNx := hid (HA.out.next hlt)
        have hlz : ps[i].length ≤ 100000 → (labR ps[i]).1.size ≤ 11000000 := labR_size ps[i]
        have HLz := hid hlz
        generalize ps[i] = p at *
        generalize xs[i] = x at *
        obtain ⟨qa, qn, qc⟩ := x
        unfold fx at hck HRi HVi
        simp only at hck HRi HVi
        have HCk : Hid (∀ w' : World, Below w.heap.size w w' → w'.cell? ⟨b, off + i, none⟩ = some (.slice qa qn qc)) := by
          intro w' hb'
          obtain ⟨b', off', he', hc'⟩ := HVi.out w' hb'
          injection he' with he'
          injection he' with e1 e2
          subst e1 e2
          exact hc'
        obtain ⟨a', c', he, hr1, hr2, hr3⟩ := HRi.out
        injection he with e1 e2 e3
        subst e1 e2 e3
        unfold maxLen at hr2
        have q2 : (p.length : Int) ≤ (qc : Int) := by omega
        have q3 : (qc : Int) ≤ 9223372036854775807 := by omega
        clear hlt hix hlz HVi hr1 hr2 hr3
        by_cases h0 : i = 0
        · have gi : ¬ (0 : Int) < (i : Int) := by omega
          have HDt : Hid (all ++ dotI (decide (i = 0)) = all) := by show _ = _; rw [decide_eq_true h0]; simp [dotI]
          have HDw : Hid (∀ z : ByteArray, bytesOf (want ++ z) = bytesOf want ++ dotB (decide (i = 0)) ++ bytesOf z) := by
            intro z
            rw [str_add, decide_eq_true h0]
            simp [dotB, bytesOf, strOf]
          rw [HDt.out] at HNx
          have HO2 := HO
          have HB2 := HB
          have HAL2 : Hid (all.length ≤ 4001) := by show _ ≤ _; have := HAL.out; omega
          have ws2 : (want.size : Int) ≤ 700000001 := by omega
          have hcx := HCk.out _ HB2.out
          clear h0
          by_cases h60 : 60 < p.length
          · have g60 : (60 : Int) < (p.length : Int) := by omega
            clear h60
            go_wp2_with fail
            refine (ifirst_calls _).mono ?_
            rintro e wz ⟨rfl, hbz⟩
            have HBz := hid (below_trans HB2.out hbz)
            clear hbz
            go_wp2_with fail
            go_ret
            exact ⟨rfl, HBz.out⟩
          · have g60 : decide ((60 : Int) < (p.length : Int)) = false := decide_eq_false (by omega)
            have H60 : Hid (p.length ≤ 60) := by show _ ≤ _; omega
            clear h60
            go_wp2_with fail
            go_loopw [7] (fun vk wq => ∃ (k : Nat), k ≤ p.length ∧ vk = .int .i64 (k : Int) ∧ (∀ c ∈ p.take k, kindOf c = 1 ∧ c ≠ 46) ∧ Below wr.heap.size wr wq) (fun vk _ => p.length - (intOf vk).toNat)
            case atStart => exact ⟨0, Nat.zero_le _, rfl, by simp, Below.refl _ _⟩
            case round =>
              obtain ⟨k, hk, rfl, hall, hb⟩ := hrel
              have HKA := hid hall
              have HBq := hid hb
              have HBw := hid (below_trans HB2.out hb)
              have hcq := HCk.out _ HBw.out
              have k0 : (0 : Int) ≤ (k : Int) := by omega
              clear hall hb hcx
              by_cases hkl : k < p.length
              · have k1 : (k : Int) < (p.length : Int) := by omega
                have hd1 : decide (k < p.length) = true := decide_eq_true hkl
                obtain ⟨b2, off2, rfl, hc2⟩ := HRi.out.open HBw.out k hkl
                have HGt := hid (good_take p k hkl HKA.out)
                have HKl := hid hkl
                generalize p[k] = c at *
                clear hkl hk
                go_wp2_with fail
                refine (kind_calls c _).mono ?_
                rintro e w5 ⟨rfl, hb5⟩
                have HB5 := hid (below_trans HBw.out hb5)
                have HB5q := hid (below_trans HBq.out hb5)
                have hc5 := HCk.out _ HB5.out
                have hd5 : w5.cell? ⟨b2, off2 + k, none⟩ = some (.int .i64 c) := (hb5.cell (p := ⟨b2, off2 + k, none⟩) (World.block_lt_of_cell? _ _ hc2)).trans hc2
                clear hb5 hc2 hcq
                generalize kindOf c = kc at *
                by_cases hkc : kc = 1
                · subst hkc
                  by_cases h46 : c = 46
                  · subst h46
                    go_wp2_with fail
                    refine (ifirst_calls _).mono ?_
                    rintro e wz ⟨rfl, hbz⟩
                    have HBz := hid (below_trans HB5.out hbz)
                    clear hbz
                    go_wp2_with fail
                    go_ret
                    exact ⟨rfl, HBz.out⟩
                  · have HX := hid (HGt.out rfl h46)
                    have r1 : (c == 46) = false := by rw [beq_eq_false_iff_ne]; exact h46
                    clear h46
                    go_wp2_with fail
                    go_roundw
                    case rel => exact ⟨k + 1, HKl.out, by go_num, HX.out, HB5q.out⟩
                    case measure => have := HKl.out; simp [intOf]; omega
                · have r1 : (kc == 1) = false := by rw [beq_eq_false_iff_ne]; exact hkc
                  have r2 : (kc != 1) = true := by rw [bne_iff_ne]; exact hkc
                  clear hkc
                  go_wp2_with fail
                  refine (ifirst_calls _).mono ?_
                  rintro e wz ⟨rfl, hbz⟩
                  have HBz := hid (below_trans HB5.out hbz)
                  clear hbz
                  go_wp2_with fail
                  go_ret
                  exact ⟨rfl, HBz.out⟩
              · have hkp : k = p.length := by omega
                have g5 : ¬ (k : Int) < (p.length : Int) := by omega
                have HKp : Hid (∀ c ∈ p, kindOf c = 1 ∧ c ≠ 46) := by
                  have h := HKA.out
                  rw [hkp, List.take_length] at h
                  exact h
                have HN2 := hid (HNx.out H60.out HKp.out)
                have HLC := hid (fun w' hb => label_calls _ _ w' (HRi.out.below hb) (by have := H60.out; omega))
                have hlz := HLz.out (by have := H60.out; omega)
                clear hkl hk hkp HNx
                generalize labR p = X at *
                obtain ⟨s, n⟩ := X
                simp only at HN2 HLC hlz
                have s1 : (s.size : Int) ≤ 11000000 := by omega
                clear hlz
                go_wp2_with fail
                refine (HLC.out _ HBw.out).mono ?_
                rintro e w6 ⟨rfl, hb6⟩
                have HB6 := hid (below_trans HBw.out hb6)
                have hc6 := HCk.out _ HB6.out
                have HS6 : Hid (w.heap.size ≤ w6.heap.size) := HB6.out.size
                have HO6 := hid ((HO2.out.below HBq.out).below hb6)
                obtain ⟨v7, w7, hr7, ho7, hg7⟩ := appendI_run HO6.out (HRi.out.below HB6.out) (by have := HAL2.out; have := H60.out; omega) HS6.out
                have HO7 := hid ho7
                have HB7 := hid (HB6.out.grown hg7 HS6.out (Own.lt HO6.out))
                clear ho7 hg7 hb6 hcq
                by_cases hn : n = 0
                · subst hn
                  cases good with
                  | true =>
                    have HN3 := hid (HN2.out (want ++ s) (HDw.out s))
                    go_wp2_with (at_builtin; go_must (refine wpList_append_run hr7 rfl _ _ rfl rfl rfl rfl ?_))
                    go_roundw
                    case rel => exact ⟨i + 1, _, _, _, rfl, rfl, by go_num, HO7.out, HN3.out, HB7.out⟩
                    case measure => have := HI.out; simp [intOf]; omega
                  | false =>
                    have HN3 := hid (HN2.out (want ++ s) (HDw.out s))
                    go_wp2_with (at_builtin; go_must (refine wpList_append_run hr7 rfl _ _ rfl rfl rfl rfl ?_))
                    go_roundw
                    case rel => exact ⟨i + 1, _, _, _, rfl, rfl, by go_num, HO7.out, HN3.out, HB7.out⟩
                    case measure => have := HI.out; simp [intOf]; omega
                · have n1 : (n == 0) = false := by rw [beq_eq_false_iff_ne]; exact hn
                  have n2 : (n != 0) = true := by rw [bne_iff_ne]; exact hn
                  clear hn
                  cases good with
                  | true =>
                    have HN3 := hid (HN2.out (want ++ s) (HDw.out s))
                    go_wp2_with (at_builtin; go_must (refine wpList_append_run hr7 rfl _ _ rfl rfl rfl rfl ?_))
                    go_roundw
                    case rel => exact ⟨i + 1, _, _, _, rfl, rfl, by go_num, HO7.out, by have h := HN3.out; rw [n1] at h; exact h, HB7.out⟩
                    case measure => have := HI.out; simp [intOf]; omega
                  | false =>
                    have HN3 := hid (HN2.out (want ++ s) (HDw.out s))
                    go_wp2_with (at_builtin; go_must (refine wpList_append_run hr7 rfl _ _ rfl rfl rfl rfl ?_))
                    go_roundw
                    case rel => exact ⟨i + 1, _, _, _, rfl, rfl, by go_num, HO7.out, by have h := HN3.out; rw [n1] at h; exact h, HB7.out⟩
                    case measure => have := HI.out; simp [intOf]; omega
        · have gi : (0 : Int) < (i : Int) := by omega
          obtain ⟨v4, wx, hr4, ho4, hg4⟩ := appendI_run (HO.out.alloc (.cells #[.int .i64 46] 3)) (Row.lit fi wr [46] 3 (0, 0) (by simp)) (by have := HAL.out; simp; omega) (by have := HSz.out; simp; omega)
          have HB2 := hid ((HB.out.alloc HSz.out (.cells #[.int .i64 46] 3)).grown hg4 (by have := HSz.out; simp; omega) (Own.lt HO.out))
          obtain ⟨all2, hall2⟩ : ∃ y, y = all ++ [46] := ⟨_, rfl⟩
          rw [← hall2] at ho4
          have HO2 := hid ho4
          have HDt : Hid (all ++ dotI (decide (i = 0)) = all2) := by show _ = _; rw [decide_eq_false h0, hall2]; simp [dotI]
          have HDw : Hid (∀ z : ByteArray, bytesOf ((want ++ ⟨#[46]⟩) ++ z) = bytesOf want ++ dotB (decide (i = 0)) ++ bytesOf z) := by
            intro z
            rw [str_add, str_add, decide_eq_false h0]
            simp [dotB, bytesOf, strOf]
          rw [HDt.out] at HNx
          have HAL2 : Hid (all2.length ≤ 4001) := by show _ ≤ _; have := HAL.out; rw [hall2]; simp; omega
          have hws2 : (want ++ ⟨#[46]⟩ : ByteArray).size = want.size + 1 := by rw [ByteArray.size_append]; rfl
          have hcx := HCk.out _ HB2.out
          clear h0 ho4 hg4 hall2
          by_cases h60 : 60 < p.length
          · have g60 : (60 : Int) < (p.length : Int) := by omega
            clear h60
            go_wp2_with (at_builtin; go_must (refine wpList_append_run hr4 rfl _ _ rfl rfl rfl rfl ?_))
            refine (ifirst_calls _).mono ?_
            rintro e wz ⟨rfl, hbz⟩
            have HBz := hid (below_trans HB2.out hbz)
            clear hbz
            go_wp2_with fail
            go_ret
            exact ⟨rfl, HBz.out⟩
          · have g60 : decide ((60 : Int) < (p.length : Int)) = false := decide_eq_false (by omega)
            have H60 : Hid (p.length ≤ 60) := by show _ ≤ _; omega
            clear h60
            go_wp2_with (at_builtin; go_must (refine wpList_append_run hr4 rfl _ _ rfl rfl rfl rfl ?_))
            generalize hW2 : want ++ ⟨#[46]⟩ = want2 at *
            have ws2 : (want2.size : Int) ≤ 700000001 := by omega
            clear hW2 hws2
            go_loopw [7] (fun vk wq => ∃ (k : Nat), k ≤ p.length ∧ vk = .int .i64 (k : Int) ∧ (∀ c ∈ p.take k, kindOf c = 1 ∧ c ≠ 46) ∧ Below wx.heap.size wx wq) (fun vk _ => p.length - (intOf vk).toNat)
            case atStart => exact ⟨0, Nat.zero_le _, rfl, by simp, Below.refl _ _⟩
            case round =>
              obtain ⟨k, hk, rfl, hall, hb⟩ := hrel
              have HKA := hid hall
              have HBq := hid hb
              have HBw := hid (below_trans HB2.out hb)
              have hcq := HCk.out _ HBw.out
              have k0 : (0 : Int) ≤ (k : Int) := by omega
              clear hall hb hcx
              by_cases hkl : k < p.length
              · have k1 : (k : Int) < (p.length : Int) := by omega
                have hd1 : decide (k < p.length) = true := decide_eq_true hkl
                obtain ⟨b2, off2, rfl, hc2⟩ := HRi.out.open HBw.out k hkl
                have HGt := hid (good_take p k hkl HKA.out)
                have HKl := hid hkl
                generalize p[k] = c at *
                clear hkl hk
                go_wp2_with fail
                refine (kind_calls c _).mono ?_
                rintro e w5 ⟨rfl, hb5⟩
                have HB5 := hid (below_trans HBw.out hb5)
                have HB5q := hid (below_trans HBq.out hb5)
                have hc5 := HCk.out _ HB5.out
                have hd5 : w5.cell? ⟨b2, off2 + k, none⟩ = some (.int .i64 c) := (hb5.cell (p := ⟨b2, off2 + k, none⟩) (World.block_lt_of_cell? _ _ hc2)).trans hc2
                clear hb5 hc2 hcq
                generalize kindOf c = kc at *
                by_cases hkc : kc = 1
                · subst hkc
                  by_cases h46 : c = 46
                  · subst h46
                    go_wp2_with fail
                    refine (ifirst_calls _).mono ?_
                    rintro e wz ⟨rfl, hbz⟩
                    have HBz := hid (below_trans HB5.out hbz)
                    clear hbz
                    go_wp2_with fail
                    go_ret
                    exact ⟨rfl, HBz.out⟩
                  · have HX := hid (HGt.out rfl h46)
                    have r1 : (c == 46) = false := by rw [beq_eq_false_iff_ne]; exact h46
                    clear h46
                    go_wp2_with fail
                    go_roundw
                    case rel => exact ⟨k + 1, HKl.out, by go_num, HX.out, HB5q.out⟩
                    case measure => have := HKl.out; simp [intOf]; omega
                · have r1 : (kc == 1) = false := by rw [beq_eq_false_iff_ne]; exact hkc
                  have r2 : (kc != 1) = true := by rw [bne_iff_ne]; exact hkc
                  clear hkc
                  go_wp2_with fail
                  refine (ifirst_calls _).mono ?_
                  rintro e wz ⟨rfl, hbz⟩
                  have HBz := hid (below_trans HB5.out hbz)
                  clear hbz
                  go_wp2_with fail
                  go_ret
                  exact ⟨rfl, HBz.out⟩
              · have hkp : k = p.length := by omega
                have g5 : ¬ (k : Int) < (p.length : Int) := by omega
                have HKp : Hid (∀ c ∈ p, kindOf c = 1 ∧ c ≠ 46) := by
                  have h := HKA.out
                  rw [hkp, List.take_length] at h
                  exact h
                have HN2 := hid (HNx.out H60.out HKp.out)
                have HLC := hid (fun w' hb => label_calls _ _ w' (HRi.out.below hb) (by have := H60.out; omega))
                have hlz := HLz.out (by have := H60.out; omega)
                clear hkl hk hkp HNx
                generalize labR p = X at *
                obtain ⟨s, n⟩ := X
                simp only at HN2 HLC hlz
                have s1 : (s.size : Int) ≤ 11000000 := by omega
                clear hlz
                go_wp2_with fail
                refine (HLC.out _ HBw.out).mono ?_
                rintro e w6 ⟨rfl, hb6⟩
                have HB6 := hid (below_trans HBw.out hb6)
                have hc6 := HCk.out _ HB6.out
                have HS6 : Hid (w.heap.size ≤ w6.heap.size) := HB6.out.size
                have HO6 := hid ((HO2.out.below HBq.out).below hb6)
                obtain ⟨v7, w7, hr7, ho7, hg7⟩ := appendI_run HO6.out (HRi.out.below HB6.out) (by have := HAL2.out; have := H60.out; omega) HS6.out
                have HO7 := hid ho7
                have HB7 := hid (HB6.out.grown hg7 HS6.out (Own.lt HO6.out))
                clear ho7 hg7 hb6 hcq
                by_cases hn : n = 0
                · subst hn
                  cases good with
                  | true =>
                    have HN3 := hid (HN2.out (want2 ++ s) (HDw.out s))
                    go_wp2_with (at_builtin; go_must (refine wpList_append_run hr7 rfl _ _ rfl rfl rfl rfl ?_))
                    go_roundw
                    case rel => exact ⟨i + 1, _, _, _, rfl, rfl, by go_num, HO7.out, HN3.out, HB7.out⟩
                    case measure => have := HI.out; simp [intOf]; omega
                  | false =>
                    have HN3 := hid (HN2.out (want2 ++ s) (HDw.out s))
                    go_wp2_with (at_builtin; go_must (refine wpList_append_run hr7 rfl _ _ rfl rfl rfl rfl ?_))
                    go_roundw
                    case rel => exact ⟨i + 1, _, _, _, rfl, rfl, by go_num, HO7.out, HN3.out, HB7.out⟩
                    case measure => have := HI.out; simp [intOf]; omega
                · have n1 : (n == 0) = false := by rw [beq_eq_false_iff_ne]; exact hn
                  have n2 : (n != 0) = true := by rw [bne_iff_ne]; exact hn
                  clear hn
                  cases good with
                  | true =>
                    have HN3 := hid (HN2.out (want2 ++ s) (HDw.out s))
                    go_wp2_with (at_builtin; go_must (refine wpList_append_run hr7 rfl _ _ rfl rfl rfl rfl ?_))
                    go_roundw
                    case rel => exact ⟨i + 1, _, _, _, rfl, rfl, by go_num, HO7.out, by have h := HN3.out; rw [n1] at h; exact h, HB7.out⟩
                    case measure => have := HI.out; simp [intOf]; omega
                  | false =>
                    have HN3 := hid (HN2.out (want2 ++ s) (HDw.out s))
                    go_wp2_with (at_builtin; go_must (refine wpList_append_run hr7 rfl _ _ rfl rfl rfl rfl ?_))
                    go_roundw
                    case rel => exact ⟨i + 1, _, _, _, rfl, rfl, by go_num, HO7.out, by have h := HN3.out; rw [n1] at h; exact h, HB7.out⟩
                    case measure => have := HI.out; simp [intOf]; omega
      · have hie : i = ps.length := by omega
        have g2 : ¬ (i : Int) < (xs.length : Int) := by have := HEL.out; omega
        have HAs := hid (iascii_calls _ all wr HO.out.row)
        obtain ⟨va', ca', hE0, hE1, hE2, hE3⟩ := HO.out.row
        unfold maxLen at hE2
        have c1 : (all.length : Int) ≤ (ca' : Int) := by omega
        have c2 : (ca' : Int) ≤ 9223372036854775807 := by omega
        subst hE0
        by_cases h256 : 256 < all.length
        · have hX := ascR_long h256
          rw [hX] at HAs
          have g3 : (256 : Int) < (all.length : Int) := by omega
          clear hX h256 hie hlt hE1 hE2 hE3
          go_wp2_with fail
          refine HAs.out.mono ?_
          rintro e w4 ⟨rfl, hb4⟩
          have HB4 := hid (below_trans HB.out hb4)
          clear hb4
          go_wp2_with fail
          refine (ifirst_calls _).mono ?_
          rintro e w5 ⟨rfl, hb5⟩
          have HB5 := hid (below_trans HB4.out hb5)
          clear hb5
          go_wp2_with fail
          go_ret
          exact ⟨rfl, HB5.out⟩
        · have g3 : ¬ (256 : Int) < (all.length : Int) := by omega
          have hle : all.length ≤ 256 := by omega
          cases good with
          | true =>
            have hX := HA.out.good hie HNe.out hle
            rw [hX] at HAs
            by_cases h253 : 253 < want.size
            · rw [if_pos h253] at HAs
              have g4 : decide ((want.size : Int) ≤ 253) = false := decide_eq_false (by omega)
              clear hX h256 hie hlt hE1 hE2 hE3 hle h253
              go_wp2_with fail
              refine HAs.out.mono ?_
              rintro e w4 ⟨rfl, hb4⟩
              have HB4 := hid (below_trans HB.out hb4)
              clear hb4
              go_wp2_with fail
              refine (ifirst_calls _).mono ?_
              rintro e w5 ⟨rfl, hb5⟩
              have HB5 := hid (below_trans HB4.out hb5)
              clear hb5
              go_wp2_with fail
              go_ret
              exact ⟨rfl, HB5.out⟩
            · rw [if_neg h253] at HAs
              have g4 : (want.size : Int) ≤ 253 := by omega
              clear hX h256 hie hlt hE1 hE2 hE3 hle h253
              go_wp2_with fail
              refine HAs.out.mono ?_
              rintro e w4 ⟨rfl, hb4⟩
              have HB4 := hid (below_trans HB.out hb4)
              clear hb4
              go_wp2_with fail
              refine (ifirst_calls _).mono ?_
              rintro e w5 ⟨rfl, hb5⟩
              have HB5 := hid (below_trans HB4.out hb5)
              clear hb5
              go_wp2_with fail
              go_ret
              exact ⟨rfl, HB5.out⟩
          | false =>
            obtain ⟨n, hn, hX⟩ := HA.out.bad hie HNe.out hle
            rw [hX] at HAs
            have n1 : (n == 0) = false := by rw [beq_eq_false_iff_ne]; exact hn
            have n2 : (n != 0) = true := by rw [bne_iff_ne]; exact hn
            clear hX h256 hie hlt hE1 hE2 hE3 hle hn
            go_wp2_with fail
            refine HAs.out.mono ?_
            rintro e w4 ⟨rfl, hb4⟩
            have HB4 := hid (below_trans HB.out hb4)
            clear hb4
            go_wp2_with fail
            refine (ifirst_calls _).mono ?_
            rintro e w5 ⟨rfl, hb5⟩
            have HB5 := hid (below_trans HB4.out hb5)
            clear hb5
            go_wp2_with fail
            go_ret
            exact ⟨rfl, HB5.out⟩
end Go.Proofs.Ytkpkfcoljccimaa
