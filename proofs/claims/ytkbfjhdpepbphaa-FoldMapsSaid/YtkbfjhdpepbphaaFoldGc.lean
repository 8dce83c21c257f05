/- The document's small, piece by piece. -/
import Derived.Test.YtkbfjhdpepbphaaFoldG
namespace Go.Proofs.Ytkbfjhdpepbphaa
open Go.RowKit
set_option linter.unusedVariables false
set_option maxRecDepth 20000 in
set_option maxHeartbeats 1000000 in
theorem small_p2 (c : Int) (w : World) (h1 : 0 ≤ c) (h2 : c ≤ 64) (hp : c.tmod 2 = 0) : Calls Try.prog 21 #[.int .i64 c] w fun e w' => e = .returned (.int .i64 (smallR c)) ∧ w' = w := by
  have HV : Hid (smallR c = 0) := by
    show _ = _
    have e0 := win_no (c := c) (lo := 65) (hi := 90) (by omega)
    have e1 := win_no (c := c) (lo := 192) (hi := 222) (by omega)
    have e2 := win_no (c := c) (lo := 913) (hi := 937) (by omega)
    have e3 := win_no (c := c) (lo := 1040) (hi := 1071) (by omega)
    have e4 := win_no (c := c) (lo := 1024) (hi := 1039) (by omega)
    have e5 := win_no (c := c) (lo := 256) (hi := 311) (by omega)
    have e6 := win_no (c := c) (lo := 330) (hi := 375) (by omega)
    have e7 := win_no (c := c) (lo := 313) (hi := 328) (by omega)
    have e8 := win_no (c := c) (lo := 377) (hi := 382) (by omega)
    have b215 : (c == 215) = false := by rw [beq_eq_false_iff_ne]; omega
    have b930 : (c == 930) = false := by rw [beq_eq_false_iff_ne]; omega
    have b304 : (c == 304) = false := by rw [beq_eq_false_iff_ne]; omega
    have b376 : (c == 376) = false := by rw [beq_eq_false_iff_ne]; omega
    have b383 : (c == 383) = false := by rw [beq_eq_false_iff_ne]; omega
    have pe : c % 2 = 0 := by rw [← hp, Int.tmod_eq_emod_of_nonneg (by omega)]
    simp only [smallR, bne, e0, e1, e2, e3, e4, e5, e6, e7, e8, b215, b930, b304, b376, b383, pe]
    first | done | rfl | simp
  have HH := hid (And.intro h1 h2)
  have t376 : (c == 376) = false := by rw [beq_eq_false_iff_ne]; have := HH.out; omega
  have t383 : (c == 383) = false := by rw [beq_eq_false_iff_ne]; have := HH.out; omega
  clear h1 h2
  go_enter Try.func21, Try.ntmps21
  go_wp2_with fail
  refine (within_f c 65 90 _ (by have := HH.out; omega)).mono ?_
  rintro e _ ⟨rfl, rfl⟩
  go_wp2_with fail
  refine (within_f c 192 222 _ (by have := HH.out; omega)).mono ?_
  rintro e _ ⟨rfl, rfl⟩
  go_wp2_with fail
  refine (within_f c 913 937 _ (by have := HH.out; omega)).mono ?_
  rintro e _ ⟨rfl, rfl⟩
  go_wp2_with fail
  refine (within_f c 1040 1071 _ (by have := HH.out; omega)).mono ?_
  rintro e _ ⟨rfl, rfl⟩
  go_wp2_with fail
  refine (within_f c 1024 1039 _ (by have := HH.out; omega)).mono ?_
  rintro e _ ⟨rfl, rfl⟩
  go_wp2_with fail
  refine (within_f c 256 311 _ (by have := HH.out; omega)).mono ?_
  rintro e _ ⟨rfl, rfl⟩
  go_wp2_with fail
  refine (within_f c 330 375 _ (by have := HH.out; omega)).mono ?_
  rintro e _ ⟨rfl, rfl⟩
  go_wp2_with fail
  go_ret
  exact ⟨by rw [HV.out]; rfl, rfl⟩
set_option maxRecDepth 20000 in
set_option maxHeartbeats 1000000 in
theorem small_p6 (c : Int) (w : World) (h1 : 91 ≤ c) (h2 : c ≤ 191) (hp : c.tmod 2 = 1) : Calls Try.prog 21 #[.int .i64 c] w fun e w' => e = .returned (.int .i64 (smallR c)) ∧ w' = w := by
  have HV : Hid (smallR c = 0) := by
    show _ = _
    have e0 := win_no (c := c) (lo := 65) (hi := 90) (by omega)
    have e1 := win_no (c := c) (lo := 192) (hi := 222) (by omega)
    have e2 := win_no (c := c) (lo := 913) (hi := 937) (by omega)
    have e3 := win_no (c := c) (lo := 1040) (hi := 1071) (by omega)
    have e4 := win_no (c := c) (lo := 1024) (hi := 1039) (by omega)
    have e5 := win_no (c := c) (lo := 256) (hi := 311) (by omega)
    have e6 := win_no (c := c) (lo := 330) (hi := 375) (by omega)
    have e7 := win_no (c := c) (lo := 313) (hi := 328) (by omega)
    have e8 := win_no (c := c) (lo := 377) (hi := 382) (by omega)
    have b215 : (c == 215) = false := by rw [beq_eq_false_iff_ne]; omega
    have b930 : (c == 930) = false := by rw [beq_eq_false_iff_ne]; omega
    have b304 : (c == 304) = false := by rw [beq_eq_false_iff_ne]; omega
    have b376 : (c == 376) = false := by rw [beq_eq_false_iff_ne]; omega
    have b383 : (c == 383) = false := by rw [beq_eq_false_iff_ne]; omega
    have pe : c % 2 = 1 := by rw [← hp, Int.tmod_eq_emod_of_nonneg (by omega)]
    simp only [smallR, bne, e0, e1, e2, e3, e4, e5, e6, e7, e8, b215, b930, b304, b376, b383, pe]
    first | done | rfl | simp
  have HH := hid (And.intro h1 h2)
  have t376 : (c == 376) = false := by rw [beq_eq_false_iff_ne]; have := HH.out; omega
  have t383 : (c == 383) = false := by rw [beq_eq_false_iff_ne]; have := HH.out; omega
  clear h1 h2
  go_enter Try.func21, Try.ntmps21
  go_wp2_with fail
  refine (within_f c 65 90 _ (by have := HH.out; omega)).mono ?_
  rintro e _ ⟨rfl, rfl⟩
  go_wp2_with fail
  refine (within_f c 192 222 _ (by have := HH.out; omega)).mono ?_
  rintro e _ ⟨rfl, rfl⟩
  go_wp2_with fail
  refine (within_f c 913 937 _ (by have := HH.out; omega)).mono ?_
  rintro e _ ⟨rfl, rfl⟩
  go_wp2_with fail
  refine (within_f c 1040 1071 _ (by have := HH.out; omega)).mono ?_
  rintro e _ ⟨rfl, rfl⟩
  go_wp2_with fail
  refine (within_f c 1024 1039 _ (by have := HH.out; omega)).mono ?_
  rintro e _ ⟨rfl, rfl⟩
  go_wp2_with fail
  refine (within_f c 313 328 _ (by have := HH.out; omega)).mono ?_
  rintro e _ ⟨rfl, rfl⟩
  go_wp2_with fail
  refine (within_f c 377 382 _ (by have := HH.out; omega)).mono ?_
  rintro e _ ⟨rfl, rfl⟩
  go_wp2_with fail
  go_ret
  exact ⟨by rw [HV.out]; rfl, rfl⟩
set_option maxRecDepth 20000 in
set_option maxHeartbeats 1000000 in
theorem small_p10 (c : Int) (w : World) (h1 : 223 ≤ c) (h2 : c ≤ 255) (hp : c.tmod 2 = 0) : Calls Try.prog 21 #[.int .i64 c] w fun e w' => e = .returned (.int .i64 (smallR c)) ∧ w' = w := by
  have HV : Hid (smallR c = 0) := by
    show _ = _
    have e0 := win_no (c := c) (lo := 65) (hi := 90) (by omega)
    have e1 := win_no (c := c) (lo := 192) (hi := 222) (by omega)
    have e2 := win_no (c := c) (lo := 913) (hi := 937) (by omega)
    have e3 := win_no (c := c) (lo := 1040) (hi := 1071) (by omega)
    have e4 := win_no (c := c) (lo := 1024) (hi := 1039) (by omega)
    have e5 := win_no (c := c) (lo := 256) (hi := 311) (by omega)
    have e6 := win_no (c := c) (lo := 330) (hi := 375) (by omega)
    have e7 := win_no (c := c) (lo := 313) (hi := 328) (by omega)
    have e8 := win_no (c := c) (lo := 377) (hi := 382) (by omega)
    have b215 : (c == 215) = false := by rw [beq_eq_false_iff_ne]; omega
    have b930 : (c == 930) = false := by rw [beq_eq_false_iff_ne]; omega
    have b304 : (c == 304) = false := by rw [beq_eq_false_iff_ne]; omega
    have b376 : (c == 376) = false := by rw [beq_eq_false_iff_ne]; omega
    have b383 : (c == 383) = false := by rw [beq_eq_false_iff_ne]; omega
    have pe : c % 2 = 0 := by rw [← hp, Int.tmod_eq_emod_of_nonneg (by omega)]
    simp only [smallR, bne, e0, e1, e2, e3, e4, e5, e6, e7, e8, b215, b930, b304, b376, b383, pe]
    first | done | rfl | simp
  have HH := hid (And.intro h1 h2)
  have t376 : (c == 376) = false := by rw [beq_eq_false_iff_ne]; have := HH.out; omega
  have t383 : (c == 383) = false := by rw [beq_eq_false_iff_ne]; have := HH.out; omega
  clear h1 h2
  go_enter Try.func21, Try.ntmps21
  go_wp2_with fail
  refine (within_f c 65 90 _ (by have := HH.out; omega)).mono ?_
  rintro e _ ⟨rfl, rfl⟩
  go_wp2_with fail
  refine (within_f c 192 222 _ (by have := HH.out; omega)).mono ?_
  rintro e _ ⟨rfl, rfl⟩
  go_wp2_with fail
  refine (within_f c 913 937 _ (by have := HH.out; omega)).mono ?_
  rintro e _ ⟨rfl, rfl⟩
  go_wp2_with fail
  refine (within_f c 1040 1071 _ (by have := HH.out; omega)).mono ?_
  rintro e _ ⟨rfl, rfl⟩
  go_wp2_with fail
  refine (within_f c 1024 1039 _ (by have := HH.out; omega)).mono ?_
  rintro e _ ⟨rfl, rfl⟩
  go_wp2_with fail
  refine (within_f c 256 311 _ (by have := HH.out; omega)).mono ?_
  rintro e _ ⟨rfl, rfl⟩
  go_wp2_with fail
  refine (within_f c 330 375 _ (by have := HH.out; omega)).mono ?_
  rintro e _ ⟨rfl, rfl⟩
  go_wp2_with fail
  go_ret
  exact ⟨by rw [HV.out]; rfl, rfl⟩
set_option maxRecDepth 20000 in
set_option maxHeartbeats 1000000 in
theorem small_p14 (w : World) : Calls Try.prog 21 #[.int .i64 304] w fun e w' => e = .returned (.int .i64 (smallR 304)) ∧ w' = w := by
  have HV : Hid (smallR 304 = 0) := by show _ = _; decide +kernel
  go_enter Try.func21, Try.ntmps21
  go_wp2_with fail
  refine (within_f 304 65 90 _ (by decide)).mono ?_
  rintro e _ ⟨rfl, rfl⟩
  go_wp2_with fail
  refine (within_f 304 192 222 _ (by decide)).mono ?_
  rintro e _ ⟨rfl, rfl⟩
  go_wp2_with fail
  refine (within_f 304 913 937 _ (by decide)).mono ?_
  rintro e _ ⟨rfl, rfl⟩
  go_wp2_with fail
  refine (within_f 304 1040 1071 _ (by decide)).mono ?_
  rintro e _ ⟨rfl, rfl⟩
  go_wp2_with fail
  refine (within_f 304 1024 1039 _ (by decide)).mono ?_
  rintro e _ ⟨rfl, rfl⟩
  go_wp2_with fail
  refine (within_t 304 256 311 _ (by decide) (by decide)).mono ?_
  rintro e _ ⟨rfl, rfl⟩
  go_wp2_with fail
  refine (within_f 304 330 375 _ (by decide)).mono ?_
  rintro e _ ⟨rfl, rfl⟩
  go_wp2_with fail
  go_ret
  exact ⟨by rw [HV.out]; rfl, rfl⟩
set_option maxRecDepth 20000 in
set_option maxHeartbeats 1000000 in
theorem small_p18 (c : Int) (w : World) (h1 : 313 ≤ c) (h2 : c ≤ 328) (hp : c.tmod 2 = 0) : Calls Try.prog 21 #[.int .i64 c] w fun e w' => e = .returned (.int .i64 (smallR c)) ∧ w' = w := by
  have HV : Hid (smallR c = 0) := by
    show _ = _
    have e0 := win_no (c := c) (lo := 65) (hi := 90) (by omega)
    have e1 := win_no (c := c) (lo := 192) (hi := 222) (by omega)
    have e2 := win_no (c := c) (lo := 913) (hi := 937) (by omega)
    have e3 := win_no (c := c) (lo := 1040) (hi := 1071) (by omega)
    have e4 := win_no (c := c) (lo := 1024) (hi := 1039) (by omega)
    have e5 := win_no (c := c) (lo := 256) (hi := 311) (by omega)
    have e6 := win_no (c := c) (lo := 330) (hi := 375) (by omega)
    have e7 := win_yes (c := c) (lo := 313) (hi := 328) (by omega) (by omega)
    have e8 := win_no (c := c) (lo := 377) (hi := 382) (by omega)
    have b215 : (c == 215) = false := by rw [beq_eq_false_iff_ne]; omega
    have b930 : (c == 930) = false := by rw [beq_eq_false_iff_ne]; omega
    have b304 : (c == 304) = false := by rw [beq_eq_false_iff_ne]; omega
    have b376 : (c == 376) = false := by rw [beq_eq_false_iff_ne]; omega
    have b383 : (c == 383) = false := by rw [beq_eq_false_iff_ne]; omega
    have pe : c % 2 = 0 := by rw [← hp, Int.tmod_eq_emod_of_nonneg (by omega)]
    simp only [smallR, bne, e0, e1, e2, e3, e4, e5, e6, e7, e8, b215, b930, b304, b376, b383, pe]
    first | done | rfl | simp
  have HH := hid (And.intro h1 h2)
  have t376 : (c == 376) = false := by rw [beq_eq_false_iff_ne]; have := HH.out; omega
  have t383 : (c == 383) = false := by rw [beq_eq_false_iff_ne]; have := HH.out; omega
  clear h1 h2
  go_enter Try.func21, Try.ntmps21
  go_wp2_with fail
  refine (within_f c 65 90 _ (by have := HH.out; omega)).mono ?_
  rintro e _ ⟨rfl, rfl⟩
  go_wp2_with fail
  refine (within_f c 192 222 _ (by have := HH.out; omega)).mono ?_
  rintro e _ ⟨rfl, rfl⟩
  go_wp2_with fail
  refine (within_f c 913 937 _ (by have := HH.out; omega)).mono ?_
  rintro e _ ⟨rfl, rfl⟩
  go_wp2_with fail
  refine (within_f c 1040 1071 _ (by have := HH.out; omega)).mono ?_
  rintro e _ ⟨rfl, rfl⟩
  go_wp2_with fail
  refine (within_f c 1024 1039 _ (by have := HH.out; omega)).mono ?_
  rintro e _ ⟨rfl, rfl⟩
  go_wp2_with fail
  refine (within_f c 256 311 _ (by have := HH.out; omega)).mono ?_
  rintro e _ ⟨rfl, rfl⟩
  go_wp2_with fail
  refine (within_f c 330 375 _ (by have := HH.out; omega)).mono ?_
  rintro e _ ⟨rfl, rfl⟩
  go_wp2_with fail
  go_ret
  exact ⟨by rw [HV.out]; rfl, rfl⟩
set_option maxRecDepth 20000 in
set_option maxHeartbeats 1000000 in
theorem small_p22 (c : Int) (w : World) (h1 : 330 ≤ c) (h2 : c ≤ 375) (hp : c.tmod 2 = 1) : Calls Try.prog 21 #[.int .i64 c] w fun e w' => e = .returned (.int .i64 (smallR c)) ∧ w' = w := by
  have HV : Hid (smallR c = 0) := by
    show _ = _
    have e0 := win_no (c := c) (lo := 65) (hi := 90) (by omega)
    have e1 := win_no (c := c) (lo := 192) (hi := 222) (by omega)
    have e2 := win_no (c := c) (lo := 913) (hi := 937) (by omega)
    have e3 := win_no (c := c) (lo := 1040) (hi := 1071) (by omega)
    have e4 := win_no (c := c) (lo := 1024) (hi := 1039) (by omega)
    have e5 := win_no (c := c) (lo := 256) (hi := 311) (by omega)
    have e6 := win_yes (c := c) (lo := 330) (hi := 375) (by omega) (by omega)
    have e7 := win_no (c := c) (lo := 313) (hi := 328) (by omega)
    have e8 := win_no (c := c) (lo := 377) (hi := 382) (by omega)
    have b215 : (c == 215) = false := by rw [beq_eq_false_iff_ne]; omega
    have b930 : (c == 930) = false := by rw [beq_eq_false_iff_ne]; omega
    have b304 : (c == 304) = false := by rw [beq_eq_false_iff_ne]; omega
    have b376 : (c == 376) = false := by rw [beq_eq_false_iff_ne]; omega
    have b383 : (c == 383) = false := by rw [beq_eq_false_iff_ne]; omega
    have pe : c % 2 = 1 := by rw [← hp, Int.tmod_eq_emod_of_nonneg (by omega)]
    simp only [smallR, bne, e0, e1, e2, e3, e4, e5, e6, e7, e8, b215, b930, b304, b376, b383, pe]
    first | done | rfl | simp
  have HH := hid (And.intro h1 h2)
  have t376 : (c == 376) = false := by rw [beq_eq_false_iff_ne]; have := HH.out; omega
  have t383 : (c == 383) = false := by rw [beq_eq_false_iff_ne]; have := HH.out; omega
  clear h1 h2
  go_enter Try.func21, Try.ntmps21
  go_wp2_with fail
  refine (within_f c 65 90 _ (by have := HH.out; omega)).mono ?_
  rintro e _ ⟨rfl, rfl⟩
  go_wp2_with fail
  refine (within_f c 192 222 _ (by have := HH.out; omega)).mono ?_
  rintro e _ ⟨rfl, rfl⟩
  go_wp2_with fail
  refine (within_f c 913 937 _ (by have := HH.out; omega)).mono ?_
  rintro e _ ⟨rfl, rfl⟩
  go_wp2_with fail
  refine (within_f c 1040 1071 _ (by have := HH.out; omega)).mono ?_
  rintro e _ ⟨rfl, rfl⟩
  go_wp2_with fail
  refine (within_f c 1024 1039 _ (by have := HH.out; omega)).mono ?_
  rintro e _ ⟨rfl, rfl⟩
  go_wp2_with fail
  refine (within_f c 313 328 _ (by have := HH.out; omega)).mono ?_
  rintro e _ ⟨rfl, rfl⟩
  go_wp2_with fail
  refine (within_f c 377 382 _ (by have := HH.out; omega)).mono ?_
  rintro e _ ⟨rfl, rfl⟩
  go_wp2_with fail
  go_ret
  exact ⟨by rw [HV.out]; rfl, rfl⟩
set_option maxRecDepth 20000 in
set_option maxHeartbeats 1000000 in
theorem small_p26 (w : World) : Calls Try.prog 21 #[.int .i64 383] w fun e w' => e = .returned (.int .i64 (smallR 383)) ∧ w' = w := by
  have HV : Hid (smallR 383 = 115) := by show _ = _; decide +kernel
  go_enter Try.func21, Try.ntmps21
  go_wp2_with fail
  refine (within_f 383 65 90 _ (by decide)).mono ?_
  rintro e _ ⟨rfl, rfl⟩
  go_wp2_with fail
  refine (within_f 383 192 222 _ (by decide)).mono ?_
  rintro e _ ⟨rfl, rfl⟩
  go_wp2_with fail
  refine (within_f 383 913 937 _ (by decide)).mono ?_
  rintro e _ ⟨rfl, rfl⟩
  go_wp2_with fail
  refine (within_f 383 1040 1071 _ (by decide)).mono ?_
  rintro e _ ⟨rfl, rfl⟩
  go_wp2_with fail
  refine (within_f 383 1024 1039 _ (by decide)).mono ?_
  rintro e _ ⟨rfl, rfl⟩
  go_wp2_with fail
  refine (within_f 383 313 328 _ (by decide)).mono ?_
  rintro e _ ⟨rfl, rfl⟩
  go_wp2_with fail
  refine (within_f 383 377 382 _ (by decide)).mono ?_
  rintro e _ ⟨rfl, rfl⟩
  go_wp2_with fail
  go_ret
  exact ⟨by rw [HV.out]; rfl, rfl⟩
set_option maxRecDepth 20000 in
set_option maxHeartbeats 1000000 in
theorem small_p30 (w : World) : Calls Try.prog 21 #[.int .i64 930] w fun e w' => e = .returned (.int .i64 (smallR 930)) ∧ w' = w := by
  have HV : Hid (smallR 930 = 0) := by show _ = _; decide +kernel
  go_enter Try.func21, Try.ntmps21
  go_wp2_with fail
  refine (within_f 930 65 90 _ (by decide)).mono ?_
  rintro e _ ⟨rfl, rfl⟩
  go_wp2_with fail
  refine (within_f 930 192 222 _ (by decide)).mono ?_
  rintro e _ ⟨rfl, rfl⟩
  go_wp2_with fail
  refine (within_t 930 913 937 _ (by decide) (by decide)).mono ?_
  rintro e _ ⟨rfl, rfl⟩
  go_wp2_with fail
  refine (within_f 930 1040 1071 _ (by decide)).mono ?_
  rintro e _ ⟨rfl, rfl⟩
  go_wp2_with fail
  refine (within_f 930 1024 1039 _ (by decide)).mono ?_
  rintro e _ ⟨rfl, rfl⟩
  go_wp2_with fail
  refine (within_f 930 256 311 _ (by decide)).mono ?_
  rintro e _ ⟨rfl, rfl⟩
  go_wp2_with fail
  refine (within_f 930 330 375 _ (by decide)).mono ?_
  rintro e _ ⟨rfl, rfl⟩
  go_wp2_with fail
  go_ret
  exact ⟨by rw [HV.out]; rfl, rfl⟩
set_option maxRecDepth 20000 in
set_option maxHeartbeats 1000000 in
theorem small_p34 (c : Int) (w : World) (h1 : 1024 ≤ c) (h2 : c ≤ 1039) : Calls Try.prog 21 #[.int .i64 c] w fun e w' => e = .returned (.int .i64 (smallR c)) ∧ w' = w := by
  have HV : Hid (smallR c = c + 80) := by
    show _ = _
    have e0 := win_no (c := c) (lo := 65) (hi := 90) (by omega)
    have e1 := win_no (c := c) (lo := 192) (hi := 222) (by omega)
    have e2 := win_no (c := c) (lo := 913) (hi := 937) (by omega)
    have e3 := win_no (c := c) (lo := 1040) (hi := 1071) (by omega)
    have e4 := win_yes (c := c) (lo := 1024) (hi := 1039) (by omega) (by omega)
    have e5 := win_no (c := c) (lo := 256) (hi := 311) (by omega)
    have e6 := win_no (c := c) (lo := 330) (hi := 375) (by omega)
    have e7 := win_no (c := c) (lo := 313) (hi := 328) (by omega)
    have e8 := win_no (c := c) (lo := 377) (hi := 382) (by omega)
    have b215 : (c == 215) = false := by rw [beq_eq_false_iff_ne]; omega
    have b930 : (c == 930) = false := by rw [beq_eq_false_iff_ne]; omega
    have b304 : (c == 304) = false := by rw [beq_eq_false_iff_ne]; omega
    have b376 : (c == 376) = false := by rw [beq_eq_false_iff_ne]; omega
    have b383 : (c == 383) = false := by rw [beq_eq_false_iff_ne]; omega
    simp only [smallR, bne, e0, e1, e2, e3, e4, e5, e6, e7, e8, b215, b930, b304, b376, b383]
    first | done | rfl | simp
  have HH := hid (And.intro h1 h2)
  go_enter Try.func21, Try.ntmps21
  go_wp2_with fail
  refine (within_f c 65 90 _ (by have := HH.out; omega)).mono ?_
  rintro e _ ⟨rfl, rfl⟩
  go_wp2_with fail
  refine (within_f c 192 222 _ (by have := HH.out; omega)).mono ?_
  rintro e _ ⟨rfl, rfl⟩
  go_wp2_with fail
  refine (within_f c 913 937 _ (by have := HH.out; omega)).mono ?_
  rintro e _ ⟨rfl, rfl⟩
  go_wp2_with fail
  refine (within_f c 1040 1071 _ (by have := HH.out; omega)).mono ?_
  rintro e _ ⟨rfl, rfl⟩
  go_wp2_with fail
  refine (within_t c 1024 1039 _ (by have := HH.out; omega) (by have := HH.out; omega)).mono ?_
  rintro e _ ⟨rfl, rfl⟩
  go_wp2_with fail
  go_ret
  exact ⟨by rw [HV.out]; rfl, rfl⟩
end Go.Proofs.Ytkbfjhdpepbphaa
