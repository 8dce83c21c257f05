/- The walk of the statement 'one behind the other'. -/
import Derived.Test.YtkbfjhdpepbphaaFoldF
namespace Go.Proofs.Ytkbfjhdpepbphaa
open Go.RowKit
set_option linter.unusedVariables false
theorem fine_append {a b : List Int} (h : Fine a) (g : Fine b) : Fine (a ++ b) := by
  intro c hc
  rcases List.mem_append.1 hc with h' | h'
  · exact h c h'
  · exact g c h'
theorem bad_left {a : List Int} (b : List Int) {i : Nat} (h : BadAt a i) : BadAt (a ++ b) i := by
  obtain ⟨hi, h4, hf⟩ := h
  refine ⟨by rw [List.length_append]; omega, ?_, ?_⟩
  · rw [List.getElem_append_left hi]; exact h4
  · rw [List.take_append_of_le_length (by omega)]; exact hf
theorem bad_right {a b : List Int} {k : Nat} (h : Fine a) (g : BadAt b k) : BadAt (a ++ b) (a.length + k) := by
  obtain ⟨hk, h4, hf⟩ := g
  refine ⟨by rw [List.length_append]; omega, ?_, ?_⟩
  · rw [List.getElem_append_right (by omega)]
    simpa using h4
  · rw [List.take_append, List.take_of_length_le (by omega), Nat.add_sub_cancel_left]
    exact fine_append h hf
theorem map_append (a b : List Int) : mapOf (a ++ b) = mapOf a ++ mapOf b := by unfold mapOf; exact List.flatMap_append
set_option maxHeartbeats 8000000 in
theorem foldParts_walk (va : Value) (a : List Int) (vb : Value) (b : List Int) (w : World) (ha : IRow w va a) (hb : IRow w vb b) :
    Calls Try.prog 6 #[va, vb] w fun e w' => e = .returned (.bool true) ∧ Below w.heap.size w w' := by
  have HA := hid ha
  have HV := hid hb
  obtain ⟨a1, cap1, rfl, -⟩ := ha
  obtain ⟨a2, cap2, rfl, -⟩ := hb
  by_cases hl : a.length ≤ 8000 ∧ b.length ≤ 8000
  · obtain ⟨g1, g2⟩ := hl
    have l1 : (a.length : Int) ≤ 8000 := by omega
    have l2 : (b.length : Int) ≤ 8000 := by omega
    have HL1 : Hid (a.length ≤ 100000) := by show a.length ≤ 100000; omega
    have HL2 : Hid (b.length ≤ 100000) := by show b.length ≤ 100000; omega
    have HL3 : Hid ((a ++ b).length ≤ 100000) := by show (a ++ b).length ≤ 100000; rw [List.length_append]; omega
    have HL4 : Hid ((mapOf a).length ≤ 100000) := by show _ ≤ _; have := map_len a; omega
    have HL5 : Hid ((mapOf a).length + (mapOf b).length ≤ 1000000) := by show _ ≤ _; have := map_len a; have := map_len b; omega
    have HL6 : Hid (a.length + b.length ≤ 1000000) := by show _ ≤ _; omega
    clear g1 g2
    rcases fine_or a with hf | ⟨i, hf⟩
    · rcases fine_or b with hg | ⟨k, hg⟩
      · have HJ := hid (fine_append hf hg)
        have HF := hid hf
        have HG := hid hg
        clear hf hg
        go_enter Try.func6, Try.ntmps6
        go_wp2_with fail
        refine (first_calls _).mono ?_
        rintro e wx1 ⟨rfl, hb⟩
        have A1 := hid (HA.out.below hb)
        have V1 := hid (HV.out.below hb)
        have HB1 := hid (hb)
        clear hb HA HV
        go_wp2_with fail
        refine (map_fine _ a _ A1.out HL1.out HF.out).mono ?_
        rintro e wx2 ⟨⟨xv, rfl, hx⟩, hb⟩
        have A2 := hid (A1.out.below hb)
        have V2 := hid (V1.out.below hb)
        have HB2 := hid (below_trans HB1.out hb)
        have X2 := hid (hx.row)
        clear hb A1 V1 HB1
        clear hx
        go_wp2_with fail
        refine (map_fine _ b _ V2.out HL2.out HG.out).mono ?_
        rintro e wx3 ⟨⟨yv, rfl, hy⟩, hb⟩
        have A3 := hid (A2.out.below hb)
        have V3 := hid (V2.out.below hb)
        have X3 := hid (X2.out.below hb)
        have HB3 := hid (below_trans HB2.out hb)
        have Y3 := hid (hy.row)
        clear hb A2 V2 X2 HB2
        clear hy
        go_wp2_with fail
        refine (copyI_calls _ a _ A3.out HL1.out).mono ?_
        rintro e wx4 ⟨⟨cv, rfl, hc⟩, hb⟩
        obtain ⟨av, wy4, hr, ho, hg⟩ := appendI_run hc (V3.out.below hb) HL6.out hb.size
        have hby := hb.grown hg hb.size (Own.lt hc)
        have A4 := hid (A3.out.below hby)
        have V4 := hid (V3.out.below hby)
        have X4 := hid (X3.out.below hby)
        have Y4 := hid (Y3.out.below hby)
        have HB4 := hid (below_trans HB3.out hby)
        have J4 := hid ho.row
        clear hb hby hc ho hg A3 V3 X3 Y3 HB3
        go_wp2_with (at_builtin; go_must (refine wpList_append_run hr rfl _ _ rfl rfl rfl rfl ?_))
        clear hr
        refine (map_fine _ (a ++ b) _ J4.out HL3.out HJ.out).mono ?_
        rintro e wx5 ⟨⟨zv, rfl, hz⟩, hb⟩
        rw [map_append] at hz
        have A5 := hid (A4.out.below hb)
        have V5 := hid (V4.out.below hb)
        have X5 := hid (X4.out.below hb)
        have Y5 := hid (Y4.out.below hb)
        have HB5 := hid (below_trans HB4.out hb)
        have Z5 := hid (hz.row)
        clear hb A4 V4 X4 Y4 HB4
        clear hz
        go_wp2_with fail
        refine (first_calls _).mono ?_
        rintro e wx6 ⟨rfl, hb⟩
        have A6 := hid (A5.out.below hb)
        have V6 := hid (V5.out.below hb)
        have X6 := hid (X5.out.below hb)
        have Y6 := hid (Y5.out.below hb)
        have Z6 := hid (Z5.out.below hb)
        have HB6 := hid (below_trans HB5.out hb)
        clear hb A5 V5 X5 Y5 Z5 HB5
        go_wp2_with fail
        refine (copyI_calls _ (mapOf a) _ X6.out HL4.out).mono ?_
        rintro e wx7 ⟨⟨cv, rfl, hc⟩, hb⟩
        obtain ⟨av, wy7, hr, ho, hg⟩ := appendI_run hc (Y6.out.below hb) HL5.out hb.size
        have hby := hb.grown hg hb.size (Own.lt hc)
        have A7 := hid (A6.out.below hby)
        have V7 := hid (V6.out.below hby)
        have X7 := hid (X6.out.below hby)
        have Y7 := hid (Y6.out.below hby)
        have Z7 := hid (Z6.out.below hby)
        have HB7 := hid (below_trans HB6.out hby)
        have R7 := hid ho.row
        clear hb hby hc ho hg A6 V6 X6 Y6 Z6 HB6
        go_wp2_with (at_builtin; go_must (refine wpList_append_on hr rfl _ _ rfl rfl rfl rfl ?_))
        clear hr
        refine (ints_calls _ _ _ _ _ Z7.out R7.out).mono ?_
        rintro e wx8 ⟨rfl, hb⟩
        rw [beq_self_eq_true]
        have A8 := hid (A7.out.below hb)
        have V8 := hid (V7.out.below hb)
        have X8 := hid (X7.out.below hb)
        have Y8 := hid (Y7.out.below hb)
        have Z8 := hid (Z7.out.below hb)
        have R8 := hid (R7.out.below hb)
        have HB8 := hid (below_trans HB7.out hb)
        clear hb A7 V7 X7 Y7 Z7 R7 HB7
        go_wp2_with fail
        go_ret
        exact ⟨rfl, HB8.out⟩
      · have HJ := hid (bad_right hf hg)
        have HF := hid hf
        have HG := hid hg
        have kb : (k : Int) < (b.length : Int) := by have := hg.1; omega
        have k0 : (0 : Int) ≤ (k : Int) := by omega
        clear hf hg
        go_enter Try.func6, Try.ntmps6
        go_wp2_with fail
        refine (first_calls _).mono ?_
        rintro e wx1 ⟨rfl, hb⟩
        have A1 := hid (HA.out.below hb)
        have V1 := hid (HV.out.below hb)
        have HB1 := hid (hb)
        clear hb HA HV
        go_wp2_with fail
        refine (map_fine _ a _ A1.out HL1.out HF.out).mono ?_
        rintro e wx2 ⟨⟨xv, rfl, hx⟩, hb⟩
        have A2 := hid (A1.out.below hb)
        have V2 := hid (V1.out.below hb)
        have HB2 := hid (below_trans HB1.out hb)
        have X2 := hid (hx.row)
        clear hb A1 V1 HB1
        clear hx
        go_wp2_with fail
        refine (map_bad _ b _ V2.out HL2.out k HG.out).mono ?_
        rintro e wx3 ⟨rfl, hb⟩
        have A3 := hid (A2.out.below hb)
        have V3 := hid (V2.out.below hb)
        have X3 := hid (X2.out.below hb)
        have HB3 := hid (below_trans HB2.out hb)
        clear hb A2 V2 X2 HB2
        go_wp2_with fail
        refine (copyI_calls _ a _ A3.out HL1.out).mono ?_
        rintro e wx4 ⟨⟨cv, rfl, hc⟩, hb⟩
        obtain ⟨av, wy4, hr, ho, hg⟩ := appendI_run hc (V3.out.below hb) HL6.out hb.size
        have hby := hb.grown hg hb.size (Own.lt hc)
        have A4 := hid (A3.out.below hby)
        have V4 := hid (V3.out.below hby)
        have X4 := hid (X3.out.below hby)
        have HB4 := hid (below_trans HB3.out hby)
        have J4 := hid ho.row
        clear hb hby hc ho hg A3 V3 X3 HB3
        go_wp2_with (at_builtin; go_must (refine wpList_append_run hr rfl _ _ rfl rfl rfl rfl ?_))
        clear hr
        refine (map_bad _ (a ++ b) _ J4.out HL3.out (a.length + k) HJ.out).mono ?_
        rintro e wx5 ⟨rfl, hb⟩
        have A5 := hid (A4.out.below hb)
        have V5 := hid (V4.out.below hb)
        have X5 := hid (X4.out.below hb)
        have HB5 := hid (below_trans HB4.out hb)
        clear hb A4 V4 X4 HB4
        rw [show ((a.length + k : Nat) : Int) = (a.length : Int) + (k : Int) by omega]
        go_wp2_with fail
        refine (first_calls _).mono ?_
        rintro e wx6 ⟨rfl, hb⟩
        have A6 := hid (A5.out.below hb)
        have V6 := hid (V5.out.below hb)
        have X6 := hid (X5.out.below hb)
        have HB6 := hid (below_trans HB5.out hb)
        clear hb A5 V5 X5 HB5
        go_wp2_with fail
        go_ret
        exact ⟨rfl, HB6.out⟩
    · rcases fine_or b with hg | ⟨k, hg⟩
      · have HJ := hid (bad_left b hf)
        have HF := hid hf
        have HG := hid hg
        clear hf hg
        go_enter Try.func6, Try.ntmps6
        go_wp2_with fail
        refine (first_calls _).mono ?_
        rintro e wx1 ⟨rfl, hb⟩
        have A1 := hid (HA.out.below hb)
        have V1 := hid (HV.out.below hb)
        have HB1 := hid (hb)
        clear hb HA HV
        go_wp2_with fail
        refine (map_bad _ a _ A1.out HL1.out i HF.out).mono ?_
        rintro e wx2 ⟨rfl, hb⟩
        have A2 := hid (A1.out.below hb)
        have V2 := hid (V1.out.below hb)
        have HB2 := hid (below_trans HB1.out hb)
        clear hb A1 V1 HB1
        go_wp2_with fail
        refine (map_fine _ b _ V2.out HL2.out HG.out).mono ?_
        rintro e wx3 ⟨⟨yv, rfl, hy⟩, hb⟩
        have A3 := hid (A2.out.below hb)
        have V3 := hid (V2.out.below hb)
        have HB3 := hid (below_trans HB2.out hb)
        have Y3 := hid (hy.row)
        clear hb A2 V2 HB2
        clear hy
        go_wp2_with fail
        refine (copyI_calls _ a _ A3.out HL1.out).mono ?_
        rintro e wx4 ⟨⟨cv, rfl, hc⟩, hb⟩
        obtain ⟨av, wy4, hr, ho, hg⟩ := appendI_run hc (V3.out.below hb) HL6.out hb.size
        have hby := hb.grown hg hb.size (Own.lt hc)
        have A4 := hid (A3.out.below hby)
        have V4 := hid (V3.out.below hby)
        have Y4 := hid (Y3.out.below hby)
        have HB4 := hid (below_trans HB3.out hby)
        have J4 := hid ho.row
        clear hb hby hc ho hg A3 V3 Y3 HB3
        go_wp2_with (at_builtin; go_must (refine wpList_append_run hr rfl _ _ rfl rfl rfl rfl ?_))
        clear hr
        refine (map_bad _ (a ++ b) _ J4.out HL3.out i HJ.out).mono ?_
        rintro e wx5 ⟨rfl, hb⟩
        have A5 := hid (A4.out.below hb)
        have V5 := hid (V4.out.below hb)
        have Y5 := hid (Y4.out.below hb)
        have HB5 := hid (below_trans HB4.out hb)
        clear hb A4 V4 Y4 HB4
        go_wp2_with fail
        refine (first_calls _).mono ?_
        rintro e wx6 ⟨rfl, hb⟩
        have A6 := hid (A5.out.below hb)
        have V6 := hid (V5.out.below hb)
        have Y6 := hid (Y5.out.below hb)
        have HB6 := hid (below_trans HB5.out hb)
        clear hb A5 V5 Y5 HB5
        go_wp2_with fail
        go_ret
        exact ⟨rfl, HB6.out⟩
      · have HJ := hid (bad_left b hf)
        have HF := hid hf
        have HG := hid hg
        clear hf hg
        go_enter Try.func6, Try.ntmps6
        go_wp2_with fail
        refine (first_calls _).mono ?_
        rintro e wx1 ⟨rfl, hb⟩
        have A1 := hid (HA.out.below hb)
        have V1 := hid (HV.out.below hb)
        have HB1 := hid (hb)
        clear hb HA HV
        go_wp2_with fail
        refine (map_bad _ a _ A1.out HL1.out i HF.out).mono ?_
        rintro e wx2 ⟨rfl, hb⟩
        have A2 := hid (A1.out.below hb)
        have V2 := hid (V1.out.below hb)
        have HB2 := hid (below_trans HB1.out hb)
        clear hb A1 V1 HB1
        go_wp2_with fail
        refine (map_bad _ b _ V2.out HL2.out k HG.out).mono ?_
        rintro e wx3 ⟨rfl, hb⟩
        have A3 := hid (A2.out.below hb)
        have V3 := hid (V2.out.below hb)
        have HB3 := hid (below_trans HB2.out hb)
        clear hb A2 V2 HB2
        go_wp2_with fail
        refine (copyI_calls _ a _ A3.out HL1.out).mono ?_
        rintro e wx4 ⟨⟨cv, rfl, hc⟩, hb⟩
        obtain ⟨av, wy4, hr, ho, hg⟩ := appendI_run hc (V3.out.below hb) HL6.out hb.size
        have hby := hb.grown hg hb.size (Own.lt hc)
        have A4 := hid (A3.out.below hby)
        have V4 := hid (V3.out.below hby)
        have HB4 := hid (below_trans HB3.out hby)
        have J4 := hid ho.row
        clear hb hby hc ho hg A3 V3 HB3
        go_wp2_with (at_builtin; go_must (refine wpList_append_run hr rfl _ _ rfl rfl rfl rfl ?_))
        clear hr
        refine (map_bad _ (a ++ b) _ J4.out HL3.out i HJ.out).mono ?_
        rintro e wx5 ⟨rfl, hb⟩
        have A5 := hid (A4.out.below hb)
        have V5 := hid (V4.out.below hb)
        have HB5 := hid (below_trans HB4.out hb)
        clear hb A4 V4 HB4
        go_wp2_with fail
        refine (first_calls _).mono ?_
        rintro e wx6 ⟨rfl, hb⟩
        have A6 := hid (A5.out.below hb)
        have V6 := hid (V5.out.below hb)
        have HB6 := hid (below_trans HB5.out hb)
        clear hb A5 V5 HB5
        go_wp2_with fail
        go_ret
        exact ⟨rfl, HB6.out⟩
  · have hl' : ¬ (a.length : Int) ≤ 8000 ∨ ((a.length : Int) ≤ 8000 ∧ ¬ (b.length : Int) ≤ 8000) := by omega
    clear hl HA HV
    rcases hl' with h | ⟨h, h'⟩
    all_goals
      go_enter Try.func6, Try.ntmps6
      go_wp2_with fail
      refine (first_calls _).mono ?_
      rintro e w1 ⟨rfl, hb1⟩
      have HB1 := hid hb1
      clear hb1
      go_wp2_with fail
      refine (first_calls _).mono ?_
      rintro e w2 ⟨rfl, hb2⟩
      have HB2 := hid (below_trans HB1.out hb2)
      clear hb2 HB1
      go_wp2_with fail
      go_ret
      exact ⟨rfl, HB2.out⟩
end Go.Proofs.Ytkbfjhdpepbphaa
