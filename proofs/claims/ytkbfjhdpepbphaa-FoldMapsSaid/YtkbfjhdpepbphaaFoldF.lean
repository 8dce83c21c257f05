/- The walk of first: what the chapter's examples fix. -/
import Derived.Test.YtkbfjhdpepbphaaFoldM
import Derived.Test.YtkbfjhdpepbphaaUtfI
namespace Go.Proofs.Ytkbfjhdpepbphaa
open Go.RowKit
set_option linter.unusedVariables false
theorem f1 : Fine [65, 173, 223] := by unfold Fine; decide +kernel
theorem f2 : mapOf [65, 173, 223] = [97, 223] := by decide +kernel
theorem f3 : toOf 65313 = [97] := by decide +kernel
theorem f4 : kindOf 128 = 4 := by decide +kernel
theorem litI (w : World) (l : List Int) (h : l.length ≤ 1000) : IRow (w.alloc (.cells (l.map fi).toArray 3)) (.slice (some ⟨w.heap.size, 0, none⟩) l.length l.length) l := Row.lit fi w l 3 (0, 0) h
theorem below_alloc (w : World) (o : Obj) : Below w.heap.size w (w.alloc o) := (Below.refl _ _).alloc (Nat.le_refl _) _
set_option maxHeartbeats 1000000 in
theorem first_calls (w : World) : Calls Try.prog 7 #[] w fun e w' => e = .returned (.bool true) ∧ Below w.heap.size w w' := by
  go_enter Try.func7, Try.ntmps7
  go_wp2_with fail
  refine (map_fine _ [65, 173, 223] _ (litI w [65, 173, 223] (by decide)) (by decide) f1).mono ?_
  rintro e w1 ⟨⟨v, rfl, hv⟩, hb⟩
  rw [f2] at hv
  have HB1 := hid (below_trans (below_alloc w _) hb)
  have HX := hid (hv.row.below (below_alloc w1 (.cells #[.int .i64 97, .int .i64 223] 3)))
  clear hv hb
  go_wp2_with fail
  refine (ints_calls _ _ [97, 223] [97, 223] _ HX.out (litI w1 [97, 223] (by decide))).mono ?_
  rintro e w2 ⟨rfl, hb⟩
  rw [beq_self_eq_true]
  have HB2 := hid (below_trans HB1.out (below_trans (below_alloc w1 _) hb))
  clear hb HB1 HX
  go_wp2_with fail
  refine (to_calls 65313 _).mono ?_
  rintro e w3 ⟨⟨v3, rfl, hv3⟩, hb⟩
  rw [f3] at hv3
  have HB3 := hid (below_trans HB2.out hb)
  have HX := hid (hv3.row.below (below_alloc w3 (.cells #[.int .i64 97] 3)))
  clear hb HB2 hv3
  go_wp2_with fail
  refine (ints_calls _ _ [97] [97] _ HX.out (litI w3 [97] (by decide))).mono ?_
  rintro e w4 ⟨rfl, hb⟩
  rw [beq_self_eq_true]
  have HB4 := hid (below_trans HB3.out (below_trans (below_alloc w3 _) hb))
  clear hb HB3 HX
  go_wp2_with fail
  refine (kind_calls 128 _).mono ?_
  rintro e w5 ⟨rfl, hb⟩
  rw [f4]
  have HB5 := hid (below_trans HB4.out hb)
  clear hb HB4
  go_wp2_with fail
  go_ret
  exact ⟨rfl, HB5.out⟩
end Go.Proofs.Ytkbfjhdpepbphaa
