/- The walk of the statement 'any signs, mapped'. -/
import Derived.Test.YtkbfjhdpepbphaaFoldN
namespace Go.Proofs.Ytkbfjhdpepbphaa
open Go.RowKit
set_option linter.unusedVariables false
set_option maxRecDepth 20000 in
set_option maxHeartbeats 4000000 in
theorem foldMaps_walk (va : Value) (l : List Int) (w : World) (ha : IRow w va l) :
    Calls Try.prog 4 #[va] w fun e w' => e = .returned (.bool true) ∧ Below w.heap.size w w' := by
  have HA := hid ha
  obtain ⟨a1, cap1, rfl, -⟩ := ha
  by_cases hl : l.length ≤ 8000
  · have l1 : (l.length : Int) ≤ 8000 := by omega
    have HL : Hid (l.length ≤ 100000) := by show _ ≤ _; omega
    clear hl
    rcases fine_or l with hf | ⟨i, hf⟩
    · have HF := hid hf
      clear hf
      go_enter Try.func4, Try.ntmps4
      go_wp2_with fail
      refine (first_calls _).mono ?_
      rintro e wx1 ⟨rfl, hb⟩
      have A1 := hid (HA.out.below hb)
      have HB1 := hid (hb)
      clear hb HA
      go_wp2_with fail
      refine (copyI_calls _ l _ A1.out HL.out).mono ?_
      rintro e wx2 ⟨⟨cv, rfl, hc⟩, hb⟩
      have A2 := hid (A1.out.below hb)
      have HB2 := hid (below_trans HB1.out hb)
      have C2 := hid (hc.row)
      clear hb A1 HB1
      clear hc
      go_wp2_with fail
      refine (map_fine _ l _ C2.out HL.out HF.out).mono ?_
      rintro e wx3 ⟨⟨xv, rfl, hx⟩, hb⟩
      have A3 := hid (A2.out.below hb)
      have C3 := hid (C2.out.below hb)
      have HB3 := hid (below_trans HB2.out hb)
      have X3 := hid (hx.row)
      clear hb A2 C2 HB2
      clear hx
      go_wp2_with fail
      refine (rmap_fine _ l _ A3.out HL.out HF.out).mono ?_
      rintro e wx4 ⟨⟨yv, rfl, hy⟩, hb⟩
      have A4 := hid (A3.out.below hb)
      have C4 := hid (C3.out.below hb)
      have X4 := hid (X3.out.below hb)
      have HB4 := hid (below_trans HB3.out hb)
      have Y4 := hid (hy.row)
      clear hb A3 C3 X3 HB3
      clear hy
      go_wp2_with fail
      refine (first_calls _).mono ?_
      rintro e wx5 ⟨rfl, hb⟩
      have A5 := hid (A4.out.below hb)
      have C5 := hid (C4.out.below hb)
      have X5 := hid (X4.out.below hb)
      have Y5 := hid (Y4.out.below hb)
      have HB5 := hid (below_trans HB4.out hb)
      clear hb A4 C4 X4 Y4 HB4
      go_wp2_with fail
      refine (ints_calls _ _ _ _ _ X5.out Y5.out).mono ?_
      rintro e wx6 ⟨rfl, hb⟩
      rw [beq_self_eq_true]
      have A6 := hid (A5.out.below hb)
      have C6 := hid (C5.out.below hb)
      have HB6 := hid (below_trans HB5.out hb)
      clear hb A5 C5 HB5
      go_wp2_with fail
      refine (ints_calls _ _ _ _ _ C6.out A6.out).mono ?_
      rintro e wx7 ⟨rfl, hb⟩
      rw [beq_self_eq_true]
      have A7 := hid (A6.out.below hb)
      have HB7 := hid (below_trans HB6.out hb)
      clear hb A6 HB6
      go_wp2_with fail
      go_ret
      exact ⟨rfl, HB7.out⟩
    · have HF := hid hf
      clear hf
      go_enter Try.func4, Try.ntmps4
      go_wp2_with fail
      refine (first_calls _).mono ?_
      rintro e wx1 ⟨rfl, hb⟩
      have A1 := hid (HA.out.below hb)
      have HB1 := hid (hb)
      clear hb HA
      go_wp2_with fail
      refine (copyI_calls _ l _ A1.out HL.out).mono ?_
      rintro e wx2 ⟨⟨cv, rfl, hc⟩, hb⟩
      have A2 := hid (A1.out.below hb)
      have HB2 := hid (below_trans HB1.out hb)
      have C2 := hid (hc.row)
      clear hb A1 HB1
      clear hc
      go_wp2_with fail
      refine (map_bad _ l _ C2.out HL.out i HF.out).mono ?_
      rintro e wx3 ⟨rfl, hb⟩
      have A3 := hid (A2.out.below hb)
      have C3 := hid (C2.out.below hb)
      have HB3 := hid (below_trans HB2.out hb)
      clear hb A2 C2 HB2
      go_wp2_with fail
      refine (rmap_bad _ l _ A3.out HL.out i HF.out).mono ?_
      rintro e wx4 ⟨rfl, hb⟩
      have A4 := hid (A3.out.below hb)
      have C4 := hid (C3.out.below hb)
      have HB4 := hid (below_trans HB3.out hb)
      clear hb A3 C3 HB3
      go_wp2_with fail
      refine (first_calls _).mono ?_
      rintro e wx5 ⟨rfl, hb⟩
      have A5 := hid (A4.out.below hb)
      have C5 := hid (C4.out.below hb)
      have HB5 := hid (below_trans HB4.out hb)
      clear hb A4 C4 HB4
      go_wp2_with fail
      refine (ints_calls _ _ [] [] _ (Row.nil fi _) (Row.nil fi _)).mono ?_
      rintro e wx6 ⟨rfl, hb⟩
      rw [beq_self_eq_true]
      have A6 := hid (A5.out.below hb)
      have C6 := hid (C5.out.below hb)
      have HB6 := hid (below_trans HB5.out hb)
      clear hb A5 C5 HB5
      go_wp2_with fail
      refine (ints_calls _ _ _ _ _ C6.out A6.out).mono ?_
      rintro e wx7 ⟨rfl, hb⟩
      rw [beq_self_eq_true]
      have A7 := hid (A6.out.below hb)
      have HB7 := hid (below_trans HB6.out hb)
      clear hb A6 HB6
      go_wp2_with fail
      go_ret
      exact ⟨rfl, HB7.out⟩
  · have hl' : ¬ (l.length : Int) ≤ 8000 := by omega
    clear hl HA
    go_enter Try.func4, Try.ntmps4
    go_wp2_with fail
    refine (first_calls _).mono ?_
    rintro e w1 ⟨rfl, hb1⟩
    have HB1 := hid hb1
    clear hb1
    go_wp2_with fail
    refine (first_calls _).mono ?_
    rintro e w2 ⟨rfl, hb2⟩
    have HB2 := hid (below_trans HB1.out hb2)
    clear hb2 HB1
    go_wp2_with fail
    go_ret
    exact ⟨rfl, HB2.out⟩
end Go.Proofs.Ytkbfjhdpepbphaa
