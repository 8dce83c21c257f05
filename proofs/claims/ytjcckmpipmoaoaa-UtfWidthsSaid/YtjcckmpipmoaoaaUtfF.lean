/- The walk of first: what the chapter's examples fix. -/
import Derived.Test.YtjcckmpipmoaoaaUtfE
import Derived.Test.YtjcckmpipmoaoaaUtfD
import Derived.Test.YtjcckmpipmoaoaaUtfI
namespace Go.Proofs.Ytjcckmpipmoaoaa
open Go.RowKit
set_option linter.unusedVariables false
theorem f1 : errE [8364] = 0 := by decide +kernel
theorem f2 : bytesE [8364] = [226, 130, 172] := by decide +kernel
theorem f3 : lossyL [226, 130, 65] = [65533, 65] := by
  rw [lossy_cons (by decide), show nextN [226, 130, 65] = (65533, 2, false) by decide +kernel]
  show (65533 : Int) :: lossyL [65] = _
  rw [lossy_cons (by decide), show nextN [65] = (65, 1, true) by decide +kernel]
  show (65533 : Int) :: 65 :: lossyL [] = _
  rw [lossy_nil]
theorem f4 : (lossyL [240, 128]).length = 2 := by
  rw [lossy_cons (by decide), show nextN [240, 128] = (65533, 1, false) by decide +kernel]
  show (65533 :: lossyL [128] : List Int).length = 2
  rw [lossy_cons (by decide), show nextN [128] = (65533, 1, false) by decide +kernel]
  show (65533 :: 65533 :: lossyL [] : List Int).length = 2
  rw [lossy_nil]; rfl
theorem litB (w : World) (l : List UInt8) (h : l.length ≤ 1000) : BRow (w.alloc (.cells (l.map fb).toArray 5)) (.slice (some ⟨w.heap.size, 0, none⟩) l.length l.length) l := Row.lit fb w l 5 (0, 0) h
theorem litI (w : World) (l : List Int) (h : l.length ≤ 1000) : IRow (w.alloc (.cells (l.map fi).toArray 3)) (.slice (some ⟨w.heap.size, 0, none⟩) l.length l.length) l := Row.lit fi w l 3 (0, 0) h
set_option maxHeartbeats 1000000 in
theorem first_calls (w : World) : Calls Try.prog 8 #[] w fun e w' => e = .returned (.bool true) ∧ Below w.heap.size w w' := by
  go_enter Try.func8, Try.ntmps8
  go_wp2_with fail
  refine (encode_calls _ [8364] _ (litI w [8364] (by decide)) (by decide)).mono ?_
  rintro e w1 ⟨⟨v, rfl, hv⟩, hb⟩
  rw [f1]
  rw [f2] at hv
  have HV := hid hv
  have hb1 := ((Below.refl _ _).alloc (Nat.le_refl w.heap.size) (.cells #[.int .i64 8364] 3)).trans (hb.mono (by simp))
  have HB1 := hid hb1
  clear hv hb hb1
  go_wp2_with fail
  refine (lossy_calls _ [226, 130, 65] _ (litB w1 [226, 130, 65] (by decide)) (by decide)).mono ?_
  rintro e w2 ⟨⟨v2, rfl, hv2⟩, hb⟩
  rw [f3] at hv2
  have hb2 := HB1.out.trans ((((Below.refl _ _).alloc (Nat.le_refl w1.heap.size) (.cells #[.int .u8 226, .int .u8 130, .int .u8 65] 5)).trans (hb.mono (by simp))).mono HB1.out.size)
  have HB2 := hid hb2
  have HV2 := hid (HV.out.below (((Below.refl _ _).alloc (Nat.le_refl w1.heap.size) (.cells #[.int .u8 226, .int .u8 130, .int .u8 65] 5)).trans (hb.mono (by simp))))
  have HX := hid (hv2.row.below ((Below.refl _ _).alloc (Nat.le_refl _) (.cells #[.int .i64 65533, .int .i64 65] 3)))
  clear hv2 hb hb2 HV HB1
  go_wp2_with fail
  refine (ints_calls _ _ [65533, 65] [65533, 65] _ HX.out (litI w2 [65533, 65] (by decide))).mono ?_
  rintro e w3 ⟨rfl, hb⟩
  rw [beq_self_eq_true]
  have HB3 := hid (HB2.out.trans ((((Below.refl _ _).alloc (Nat.le_refl w2.heap.size) (.cells #[.int .i64 65533, .int .i64 65] 3)).trans (hb.mono (by simp))).mono HB2.out.size))
  have HV3 := hid (HV2.out.below (((Below.refl _ _).alloc (Nat.le_refl w2.heap.size) (.cells #[.int .i64 65533, .int .i64 65] 3)).trans (hb.mono (by simp))))
  clear hb HB2 HV2 HX
  go_wp2_with fail
  refine (lossy_calls _ [240, 128] _ (litB w3 [240, 128] (by decide)) (by decide)).mono ?_
  rintro e w4 ⟨⟨v4, rfl, hv4⟩, hb⟩
  obtain ⟨a4, cap4, rfl, -⟩ := hv4.row
  rw [f4]
  have HB4 := hid (HB3.out.trans ((((Below.refl _ _).alloc (Nat.le_refl w3.heap.size) (.cells #[.int .u8 240, .int .u8 128] 5)).trans (hb.mono (by simp))).mono HB3.out.size))
  have hr := run_string (HV3.out.below (((Below.refl _ _).alloc (Nat.le_refl w3.heap.size) (.cells #[.int .u8 240, .int .u8 128] 5)).trans (hb.mono (by simp))))
  have hs : (strOf [226, 130, 172]).toList = [226, 130, 172] := by decide +kernel
  clear hb HB3 HV3 hv4
  go_wp2_with fail
  go_ret
  exact ⟨rfl, HB4.out⟩
end Go.Proofs.Ytjcckmpipmoaoaa
