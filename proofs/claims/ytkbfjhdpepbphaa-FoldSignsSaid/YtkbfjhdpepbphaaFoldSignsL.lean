/- The walk of the statement 'any number'. -/
import Derived.Test.YtkbfjhdpepbphaaFoldJ
namespace Go.Proofs.Ytkbfjhdpepbphaa
open Go.RowKit
set_option linter.unusedVariables false
set_option maxRecDepth 20000 in
set_option maxHeartbeats 4000000 in
theorem foldSigns_walk (c : Int) (w : World) (hc : -9223372036854775808 ≤ c ∧ c ≤ 9223372036854775807) :
    Calls Try.prog 3 #[.int .i64 c] w fun e w' => e = .returned (.bool true) ∧ Below w.heap.size w w' := by
  clear hc
  have HR := hid (kind_alike c)
  by_cases h2 : kindOf c = 2
  · have HK := hid h2
    have HT := hid (to_alike h2)
    clear h2
    go_enter Try.func3, Try.ntmps3
    go_wp2_with fail
    refine (first_calls _).mono ?_
    rintro e wx1 ⟨rfl, hb⟩
    have HB1 := hid (hb)
    clear hb 
    go_wp2_with fail
    refine (first_calls _).mono ?_
    rintro e wx2 ⟨rfl, hb⟩
    have HB2 := hid (below_trans HB1.out hb)
    clear hb HB1
    go_wp2_with fail
    refine (kind_calls c _).mono ?_
    rintro e wx3 ⟨rfl, hb⟩
    rw [HK.out]
    have HB3 := hid (below_trans HB2.out hb)
    clear hb HB2
    go_wp2_with fail
    refine (rkind_calls c _).mono ?_
    rintro e wx4 ⟨rfl, hb⟩
    rw [HR.out]
    rw [HK.out]
    have HB4 := hid (below_trans HB3.out hb)
    clear hb HB3
    go_wp2_with fail
    refine (kind_calls c _).mono ?_
    rintro e wx5 ⟨rfl, hb⟩
    rw [HK.out]
    have HB5 := hid (below_trans HB4.out hb)
    clear hb HB4
    go_wp2_with fail
    refine (to_calls c _).mono ?_
    rintro e wx6 ⟨⟨tv, rfl, ht⟩, hb⟩
    have HB6 := hid (below_trans HB5.out hb)
    have T6 := hid (ht.row)
    clear hb HB5
    clear ht
    go_wp2_with fail
    refine (rto_calls c _).mono ?_
    rintro e wx7 ⟨⟨sv, rfl, hs⟩, hb⟩
    rw [HT.out] at hs
    have T7 := hid (T6.out.below hb)
    have HB7 := hid (below_trans HB6.out hb)
    have S7 := hid (hs.row)
    clear hb T6 HB6
    clear hs
    go_wp2_with fail
    refine (ints_calls _ _ _ _ _ T7.out S7.out).mono ?_
    rintro e wx8 ⟨rfl, hb⟩
    rw [beq_self_eq_true]
    have HB8 := hid (below_trans HB7.out hb)
    clear hb HB7
    go_wp2_with fail
    refine (kind_calls c _).mono ?_
    rintro e wx9 ⟨rfl, hb⟩
    rw [HK.out]
    have HB9 := hid (below_trans HB8.out hb)
    clear hb HB8
    go_wp2_with fail
    go_ret
    exact ⟨rfl, HB9.out⟩
  · have HT : Hid (toOf c = []) := by show _ = _; unfold toOf; rw [if_neg h2]
    have h2' : (kindOf c == 2) = false := by rw [beq_eq_false_iff_ne]; exact h2
    have h2n : (kindOf c != 2) = true := by rw [bne_iff_ne]; exact h2
    have HKC := hid (fun w => kind_calls c w)
    generalize kindOf c = kd at *
    clear h2
    go_enter Try.func3, Try.ntmps3
    go_wp2_with fail
    refine (first_calls _).mono ?_
    rintro e wx1 ⟨rfl, hb⟩
    have HB1 := hid (hb)
    clear hb 
    go_wp2_with fail
    refine (first_calls _).mono ?_
    rintro e wx2 ⟨rfl, hb⟩
    have HB2 := hid (below_trans HB1.out hb)
    clear hb HB1
    go_wp2_with fail
    refine (HKC.out _).mono ?_
    rintro e wx3 ⟨rfl, hb⟩
    have HB3 := hid (below_trans HB2.out hb)
    clear hb HB2
    go_wp2_with fail
    refine (rkind_calls c _).mono ?_
    rintro e wx4 ⟨rfl, hb⟩
    rw [HR.out]
    have HB4 := hid (below_trans HB3.out hb)
    clear hb HB3
    go_wp2_with fail
    refine (HKC.out _).mono ?_
    rintro e wx5 ⟨rfl, hb⟩
    have HB5 := hid (below_trans HB4.out hb)
    clear hb HB4
    go_wp2_with fail
    refine (HKC.out _).mono ?_
    rintro e wx6 ⟨rfl, hb⟩
    have HB6 := hid (below_trans HB5.out hb)
    clear hb HB5
    go_wp2_with fail
    refine (to_calls c _).mono ?_
    rintro e wx7 ⟨⟨tv, rfl, ht⟩, hb⟩
    rw [HT.out] at ht
    obtain ⟨ta, tcap, rfl, -⟩ := ht.row
    clear ht
    have HB7 := hid (below_trans HB6.out hb)
    clear hb HB6
    go_wp2_with fail
    go_ret
    exact ⟨rfl, HB7.out⟩
end Go.Proofs.Ytkbfjhdpepbphaa
