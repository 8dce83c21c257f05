/- The walk of the statement 'one byte', some of its roads. -/
import Derived.Test.YtfglanhbjmlclaaDoorPctK
namespace Go.Proofs.YtfglanhbjmlclaaDoor
open Go.RowKit
set_option linter.unusedVariables false
set_option maxRecDepth 20000
set_option maxHeartbeats 2000000 in
theorem plain_gI1 (set : Int) (c ch cl : UInt8) (hi lo : Nat) (X : List UInt8) (w : World) (ht : Tab w) (hX : pctR set [c] = X) (hh : hi < 16) (hl : lo < 16) (eh : (c.toNat : Int) / 16 = (hi : Int)) (el : bits .and .u8 (c.toNat : Int) 15 = (lo : Int)) (ech : dgU hi = ch) (ecl : dgU lo = cl) (hun : unR (strOf [37, ch, cl]).data.toList = [c])
    (r0 : (48 : Int) ≤ (c.toNat : Int)) (r1 : ¬ (c.toNat : Int) ≤ 57) (r2 : (97 : Int) ≤ (c.toNat : Int)) (r3 : (c.toNat : Int) ≤ 122) (r4 : ¬ (c.toNat : Int) < 32) (r5 : ¬ (126 : Int) < (c.toNat : Int))
    (g0 : ¬ set < 1) (g1 : (1 : Int) ≤ set) (g2 : ¬ (8 : Int) < set) (g3 : set ≤ 8)
    (t0 : (X == [c]) = true) : Calls Tryd.prog 7 #[.int .i64 set, .int .u8 (c.toNat : Int)] w fun e w' => e = .returned (.bool true) ∧ Below w.heap.size w w' := by
  have HT := hid ht
  have HX := hid hX
  have HU := hid hun
  have a1 := cut_at hi hh
  have a2 := cut_at lo hl
  have a3 := cut_at2 hi hh
  have a4 := cut_at2 lo hl
  rw [ech] at a1 a3
  rw [ecl] at a2 a4
  have hcv : ∀ w : World, (convert 24 9 (.slice (some ⟨w.heap.size, 0, none⟩) 1 1)).run Tryd.prog (w.alloc (.cells #[.int .u8 (c.toNat : Int)] 5)) = .ok (.string (strOf [c])) (w.alloc (.cells #[.int .u8 (c.toNat : Int)] 5)) := fun w => run_string (one_row w c)
  have c1 := cat_one ch
  have c2 := cat_two ch cl
  have s1 : (strOf [ch]).size = 1 := rfl
  have s2 : (strOf [cl]).size = 1 := rfl
  have s3 : (strOf [37, ch]).size = 2 := rfl
  have s4 : (⟨#[37]⟩ : ByteArray).size = 1 := rfl
  have k1 := strOf_list X
  have k2 := strOf_list [c]
  have k3 := strOf_list [37, ch, cl]
  have k4 : (⟨#[43]⟩ : ByteArray).toList = [43] := strOf_list [43]
  have w1 : IntKind.wrap .u8 ((hi : Int) + 1) = (hi : Int) + 1 := by rw [IntKind.wrap_u8]; omega
  have w2 : IntKind.wrap .u8 ((lo : Int) + 1) = (lo : Int) + 1 := by rw [IntKind.wrap_u8]; omega
  have hcl := byte_lt c
  have HCL := hid hcl
  clear ht hX hun ech ecl hh hl
  go_enter Tryd.func7, Tryd.ntmps7
  go_wp2_with fail
  refine (pfirst_calls _ HT.out).mono ?_
  rintro e x1 ⟨rfl, hb1⟩
  have HB1 := hid hb1
  have HT1 := hid (HT.out.below hb1)
  clear hb1 HT
  go_wp2_with fail
  refine (encode_calls set _ [c] _ (HT1.out.alloc _) (one_row x1 c) (by simp)).mono ?_
  rintro e x2 ⟨rfl, hb2⟩
  rw [HX.out]
  have HB2 := hid ((HB1.out.alloc HB1.out.size (.cells #[.int .u8 (c.toNat : Int)] 5)).trans (hb2.mono (by have := HB1.out.size; simp; omega)))
  have HT2 := hid ((HT1.out.alloc _).below hb2)
  clear hb2 HB1 HT1 HX
  go_wp2_with fail
  go_quiet (fail)
  have HB3 := hid (below_drewN HB2.out nq)
  have HT3 : Hid (Tab (x2.drewN nq)) := HT2.out.below (below_drewN (Below.refl _ _) nq)
  generalize x2.drewN nq = x3 at *
  clear HB2 HT2
  go_wp2_with fail
  refine (pfirst_calls _ (HT3.out.alloc _)).mono ?_
  rintro e x4 ⟨rfl, hb4⟩
  have HB4 := hid ((HB3.out.alloc HB3.out.size (.cells #[.int .u8 (c.toNat : Int)] 5)).trans (hb4.mono (by have := HB3.out.size; simp; omega)))
  have HT4 := hid ((HT3.out.alloc _).below hb4)
  clear hb4 HB3 HT3
  go_wp2_with fail
  refine (decode_calls (strOf [37, ch, cl]) _ (by show 3 ≤ 100000; decide)).mono ?_
  rintro e x5 ⟨⟨vd, rfl, hd⟩, hb5⟩
  rw [HU.out] at hd
  have HD := hid (hd.below (below_alloc x5 (.cells #[.int .u8 (c.toNat : Int)] 5)))
  have HB5 := hid ((HB4.out.alloc HB4.out.size (.cells #[.int .u8 (c.toNat : Int)] 5)).trans (hb5.mono (by have := HB4.out.size; simp; omega)))
  clear hb5 hd HB4 HT4
  go_wp2_with fail
  refine (bytes_calls _ _ _ _ _ HD.out (one_row x5 c)).mono ?_
  rintro e x6 ⟨rfl, rfl⟩
  rw [beq_self_eq_true]
  go_wp2_with fail
  go_ret
  exact ⟨rfl, HB5.out.alloc HB5.out.size _⟩
set_option maxHeartbeats 2000000 in
theorem plain_hL1 (set : Int) (c ch cl : UInt8) (hi lo : Nat) (X : List UInt8) (w : World) (ht : Tab w) (hX : pctR set [c] = X) (hh : hi < 16) (hl : lo < 16) (eh : (c.toNat : Int) / 16 = (hi : Int)) (el : bits .and .u8 (c.toNat : Int) 15 = (lo : Int)) (ech : dgU hi = ch) (ecl : dgU lo = cl) (hun : unR (strOf [37, ch, cl]).data.toList = [c]) (hin : inR set c.toNat = false)
    (r0 : (48 : Int) ≤ (c.toNat : Int)) (r1 : ¬ (c.toNat : Int) ≤ 57) (r2 : (97 : Int) ≤ (c.toNat : Int)) (r3 : ¬ (c.toNat : Int) ≤ 122) (r4 : (65 : Int) ≤ (c.toNat : Int)) (r5 : ¬ (c.toNat : Int) ≤ 90) (r6 : ¬ (c.toNat : Int) < 32) (r7 : ¬ (126 : Int) < (c.toNat : Int))
    (g0 : (set : Int) < 1) (g1 : ¬ (1 : Int) ≤ set)
    (t0 : (X == [c]) = true) : Calls Tryd.prog 7 #[.int .i64 set, .int .u8 (c.toNat : Int)] w fun e w' => e = .returned (.bool true) ∧ Below w.heap.size w w' := by
  have HT := hid ht
  have HX := hid hX
  have HU := hid hun
  have a1 := cut_at hi hh
  have a2 := cut_at lo hl
  have a3 := cut_at2 hi hh
  have a4 := cut_at2 lo hl
  rw [ech] at a1 a3
  rw [ecl] at a2 a4
  have hcv : ∀ w : World, (convert 24 9 (.slice (some ⟨w.heap.size, 0, none⟩) 1 1)).run Tryd.prog (w.alloc (.cells #[.int .u8 (c.toNat : Int)] 5)) = .ok (.string (strOf [c])) (w.alloc (.cells #[.int .u8 (c.toNat : Int)] 5)) := fun w => run_string (one_row w c)
  have c1 := cat_one ch
  have c2 := cat_two ch cl
  have s1 : (strOf [ch]).size = 1 := rfl
  have s2 : (strOf [cl]).size = 1 := rfl
  have s3 : (strOf [37, ch]).size = 2 := rfl
  have s4 : (⟨#[37]⟩ : ByteArray).size = 1 := rfl
  have k1 := strOf_list X
  have k2 := strOf_list [c]
  have k3 := strOf_list [37, ch, cl]
  have k4 : (⟨#[43]⟩ : ByteArray).toList = [43] := strOf_list [43]
  have w1 : IntKind.wrap .u8 ((hi : Int) + 1) = (hi : Int) + 1 := by rw [IntKind.wrap_u8]; omega
  have w2 : IntKind.wrap .u8 ((lo : Int) + 1) = (lo : Int) + 1 := by rw [IntKind.wrap_u8]; omega
  have hcl := byte_lt c
  have HCL := hid hcl
  have HIN := hid hin
  clear ht hX hun ech ecl hh hl hin
  go_enter Tryd.func7, Tryd.ntmps7
  go_wp2_with fail
  refine (pfirst_calls _ HT.out).mono ?_
  rintro e x1 ⟨rfl, hb1⟩
  have HB1 := hid hb1
  have HT1 := hid (HT.out.below hb1)
  clear hb1 HT
  go_wp2_with fail
  refine (encode_calls set _ [c] _ (HT1.out.alloc _) (one_row x1 c) (by simp)).mono ?_
  rintro e x2 ⟨rfl, hb2⟩
  rw [HX.out]
  have HB2 := hid ((HB1.out.alloc HB1.out.size (.cells #[.int .u8 (c.toNat : Int)] 5)).trans (hb2.mono (by have := HB1.out.size; simp; omega)))
  have HT2 := hid ((HT1.out.alloc _).below hb2)
  clear hb2 HB1 HT1 HX
  go_wp2_with fail
  go_quiet (fail)
  have HB3 := hid (below_drewN HB2.out nq)
  have HT3 : Hid (Tab (x2.drewN nq)) := HT2.out.below (below_drewN (Below.refl _ _) nq)
  generalize x2.drewN nq = x3 at *
  clear HB2 HT2
  go_wp2_with fail
  refine (pfirst_calls _ HT3.out).mono ?_
  rintro e x4 ⟨rfl, hb4⟩
  have HB4 := hid (HB3.out.trans (hb4.mono HB3.out.size))
  have HT4 := hid (HT3.out.below hb4)
  clear hb4 HB3 HT3
  go_wp2_with fail
  refine (in_calls set c.toNat HCL.out _ (HT4.out.alloc _)).mono ?_
  rintro e x5 ⟨rfl, rfl⟩
  rw [HIN.out]
  go_wp2_with fail
  go_ret
  exact ⟨rfl, HB4.out.alloc HB4.out.size _⟩
set_option maxHeartbeats 2000000 in
theorem plain_hG1 (set : Int) (c ch cl : UInt8) (hi lo : Nat) (X : List UInt8) (w : World) (ht : Tab w) (hX : pctR set [c] = X) (hh : hi < 16) (hl : lo < 16) (eh : (c.toNat : Int) / 16 = (hi : Int)) (el : bits .and .u8 (c.toNat : Int) 15 = (lo : Int)) (ech : dgU hi = ch) (ecl : dgU lo = cl) (hun : unR (strOf [37, ch, cl]).data.toList = [c]) (hin : inR set c.toNat = false)
    (r0 : (48 : Int) ≤ (c.toNat : Int)) (r1 : ¬ (c.toNat : Int) ≤ 57) (r2 : (97 : Int) ≤ (c.toNat : Int)) (r3 : ¬ (c.toNat : Int) ≤ 122) (r4 : (65 : Int) ≤ (c.toNat : Int)) (r5 : ¬ (c.toNat : Int) ≤ 90) (r6 : ¬ (c.toNat : Int) < 32) (r7 : ¬ (126 : Int) < (c.toNat : Int))
    (g0 : ¬ set < 1) (g1 : (1 : Int) ≤ set) (g2 : (8 : Int) < set) (g3 : ¬ set ≤ 8)
    (t0 : (X == [c]) = true) : Calls Tryd.prog 7 #[.int .i64 set, .int .u8 (c.toNat : Int)] w fun e w' => e = .returned (.bool true) ∧ Below w.heap.size w w' := by
  have HT := hid ht
  have HX := hid hX
  have HU := hid hun
  have a1 := cut_at hi hh
  have a2 := cut_at lo hl
  have a3 := cut_at2 hi hh
  have a4 := cut_at2 lo hl
  rw [ech] at a1 a3
  rw [ecl] at a2 a4
  have hcv : ∀ w : World, (convert 24 9 (.slice (some ⟨w.heap.size, 0, none⟩) 1 1)).run Tryd.prog (w.alloc (.cells #[.int .u8 (c.toNat : Int)] 5)) = .ok (.string (strOf [c])) (w.alloc (.cells #[.int .u8 (c.toNat : Int)] 5)) := fun w => run_string (one_row w c)
  have c1 := cat_one ch
  have c2 := cat_two ch cl
  have s1 : (strOf [ch]).size = 1 := rfl
  have s2 : (strOf [cl]).size = 1 := rfl
  have s3 : (strOf [37, ch]).size = 2 := rfl
  have s4 : (⟨#[37]⟩ : ByteArray).size = 1 := rfl
  have k1 := strOf_list X
  have k2 := strOf_list [c]
  have k3 := strOf_list [37, ch, cl]
  have k4 : (⟨#[43]⟩ : ByteArray).toList = [43] := strOf_list [43]
  have w1 : IntKind.wrap .u8 ((hi : Int) + 1) = (hi : Int) + 1 := by rw [IntKind.wrap_u8]; omega
  have w2 : IntKind.wrap .u8 ((lo : Int) + 1) = (lo : Int) + 1 := by rw [IntKind.wrap_u8]; omega
  have hcl := byte_lt c
  have HCL := hid hcl
  have HIN := hid hin
  clear ht hX hun ech ecl hh hl hin
  go_enter Tryd.func7, Tryd.ntmps7
  go_wp2_with fail
  refine (pfirst_calls _ HT.out).mono ?_
  rintro e x1 ⟨rfl, hb1⟩
  have HB1 := hid hb1
  have HT1 := hid (HT.out.below hb1)
  clear hb1 HT
  go_wp2_with fail
  refine (encode_calls set _ [c] _ (HT1.out.alloc _) (one_row x1 c) (by simp)).mono ?_
  rintro e x2 ⟨rfl, hb2⟩
  rw [HX.out]
  have HB2 := hid ((HB1.out.alloc HB1.out.size (.cells #[.int .u8 (c.toNat : Int)] 5)).trans (hb2.mono (by have := HB1.out.size; simp; omega)))
  have HT2 := hid ((HT1.out.alloc _).below hb2)
  clear hb2 HB1 HT1 HX
  go_wp2_with fail
  go_quiet (fail)
  have HB3 := hid (below_drewN HB2.out nq)
  have HT3 : Hid (Tab (x2.drewN nq)) := HT2.out.below (below_drewN (Below.refl _ _) nq)
  generalize x2.drewN nq = x3 at *
  clear HB2 HT2
  go_wp2_with fail
  refine (pfirst_calls _ HT3.out).mono ?_
  rintro e x4 ⟨rfl, hb4⟩
  have HB4 := hid (HB3.out.trans (hb4.mono HB3.out.size))
  have HT4 := hid (HT3.out.below hb4)
  clear hb4 HB3 HT3
  go_wp2_with fail
  refine (in_calls set c.toNat HCL.out _ (HT4.out.alloc _)).mono ?_
  rintro e x5 ⟨rfl, rfl⟩
  rw [HIN.out]
  go_wp2_with fail
  go_ret
  exact ⟨rfl, HB4.out.alloc HB4.out.size _⟩
set_option maxHeartbeats 2000000 in
theorem plain_hI1 (set : Int) (c ch cl : UInt8) (hi lo : Nat) (X : List UInt8) (w : World) (ht : Tab w) (hX : pctR set [c] = X) (hh : hi < 16) (hl : lo < 16) (eh : (c.toNat : Int) / 16 = (hi : Int)) (el : bits .and .u8 (c.toNat : Int) 15 = (lo : Int)) (ech : dgU hi = ch) (ecl : dgU lo = cl) (hun : unR (strOf [37, ch, cl]).data.toList = [c])
    (r0 : (48 : Int) ≤ (c.toNat : Int)) (r1 : ¬ (c.toNat : Int) ≤ 57) (r2 : (97 : Int) ≤ (c.toNat : Int)) (r3 : ¬ (c.toNat : Int) ≤ 122) (r4 : (65 : Int) ≤ (c.toNat : Int)) (r5 : ¬ (c.toNat : Int) ≤ 90) (r6 : ¬ (c.toNat : Int) < 32) (r7 : ¬ (126 : Int) < (c.toNat : Int))
    (g0 : ¬ set < 1) (g1 : (1 : Int) ≤ set) (g2 : ¬ (8 : Int) < set) (g3 : set ≤ 8)
    (t0 : (X == [c]) = true) : Calls Tryd.prog 7 #[.int .i64 set, .int .u8 (c.toNat : Int)] w fun e w' => e = .returned (.bool true) ∧ Below w.heap.size w w' := by
  have HT := hid ht
  have HX := hid hX
  have HU := hid hun
  have a1 := cut_at hi hh
  have a2 := cut_at lo hl
  have a3 := cut_at2 hi hh
  have a4 := cut_at2 lo hl
  rw [ech] at a1 a3
  rw [ecl] at a2 a4
  have hcv : ∀ w : World, (convert 24 9 (.slice (some ⟨w.heap.size, 0, none⟩) 1 1)).run Tryd.prog (w.alloc (.cells #[.int .u8 (c.toNat : Int)] 5)) = .ok (.string (strOf [c])) (w.alloc (.cells #[.int .u8 (c.toNat : Int)] 5)) := fun w => run_string (one_row w c)
  have c1 := cat_one ch
  have c2 := cat_two ch cl
  have s1 : (strOf [ch]).size = 1 := rfl
  have s2 : (strOf [cl]).size = 1 := rfl
  have s3 : (strOf [37, ch]).size = 2 := rfl
  have s4 : (⟨#[37]⟩ : ByteArray).size = 1 := rfl
  have k1 := strOf_list X
  have k2 := strOf_list [c]
  have k3 := strOf_list [37, ch, cl]
  have k4 : (⟨#[43]⟩ : ByteArray).toList = [43] := strOf_list [43]
  have w1 : IntKind.wrap .u8 ((hi : Int) + 1) = (hi : Int) + 1 := by rw [IntKind.wrap_u8]; omega
  have w2 : IntKind.wrap .u8 ((lo : Int) + 1) = (lo : Int) + 1 := by rw [IntKind.wrap_u8]; omega
  have hcl := byte_lt c
  have HCL := hid hcl
  clear ht hX hun ech ecl hh hl
  go_enter Tryd.func7, Tryd.ntmps7
  go_wp2_with fail
  refine (pfirst_calls _ HT.out).mono ?_
  rintro e x1 ⟨rfl, hb1⟩
  have HB1 := hid hb1
  have HT1 := hid (HT.out.below hb1)
  clear hb1 HT
  go_wp2_with fail
  refine (encode_calls set _ [c] _ (HT1.out.alloc _) (one_row x1 c) (by simp)).mono ?_
  rintro e x2 ⟨rfl, hb2⟩
  rw [HX.out]
  have HB2 := hid ((HB1.out.alloc HB1.out.size (.cells #[.int .u8 (c.toNat : Int)] 5)).trans (hb2.mono (by have := HB1.out.size; simp; omega)))
  have HT2 := hid ((HT1.out.alloc _).below hb2)
  clear hb2 HB1 HT1 HX
  go_wp2_with fail
  go_quiet (fail)
  have HB3 := hid (below_drewN HB2.out nq)
  have HT3 : Hid (Tab (x2.drewN nq)) := HT2.out.below (below_drewN (Below.refl _ _) nq)
  generalize x2.drewN nq = x3 at *
  clear HB2 HT2
  go_wp2_with fail
  refine (pfirst_calls _ HT3.out).mono ?_
  rintro e x4 ⟨rfl, hb4⟩
  have HB4 := hid (HB3.out.trans (hb4.mono HB3.out.size))
  have HT4 := hid (HT3.out.below hb4)
  clear hb4 HB3 HT3
  go_wp2_with fail
  refine (decode_calls (strOf [37, ch, cl]) _ (by show 3 ≤ 100000; decide)).mono ?_
  rintro e x5 ⟨⟨vd, rfl, hd⟩, hb5⟩
  rw [HU.out] at hd
  have HD := hid (hd.below (below_alloc x5 (.cells #[.int .u8 (c.toNat : Int)] 5)))
  have HB5 := hid ((HB4.out.alloc HB4.out.size (.cells #[.int .u8 (c.toNat : Int)] 5)).trans (hb5.mono (by have := HB4.out.size; simp; omega)))
  clear hb5 hd HB4 HT4
  go_wp2_with fail
  refine (bytes_calls _ _ _ _ _ HD.out (one_row x5 c)).mono ?_
  rintro e x6 ⟨rfl, rfl⟩
  rw [beq_self_eq_true]
  go_wp2_with fail
  go_ret
  exact ⟨rfl, HB5.out.alloc HB5.out.size _⟩
set_option maxHeartbeats 2000000 in
theorem plain_hI2 (set : Int) (c ch cl : UInt8) (hi lo : Nat) (X : List UInt8) (w : World) (ht : Tab w) (hX : pctR set [c] = X) (hh : hi < 16) (hl : lo < 16) (eh : (c.toNat : Int) / 16 = (hi : Int)) (el : bits .and .u8 (c.toNat : Int) 15 = (lo : Int)) (ech : dgU hi = ch) (ecl : dgU lo = cl) (hun : unR (strOf [37, ch, cl]).data.toList = [c])
    (r0 : (48 : Int) ≤ (c.toNat : Int)) (r1 : ¬ (c.toNat : Int) ≤ 57) (r2 : (97 : Int) ≤ (c.toNat : Int)) (r3 : ¬ (c.toNat : Int) ≤ 122) (r4 : (65 : Int) ≤ (c.toNat : Int)) (r5 : ¬ (c.toNat : Int) ≤ 90) (r6 : ¬ (c.toNat : Int) < 32) (r7 : ¬ (126 : Int) < (c.toNat : Int))
    (g0 : ¬ set < 1) (g1 : (1 : Int) ≤ set) (g2 : ¬ (8 : Int) < set) (g3 : set ≤ 8)
    (t0 : (X == [c]) = false) (t1 : (X == [37, ch, cl]) = true) : Calls Tryd.prog 7 #[.int .i64 set, .int .u8 (c.toNat : Int)] w fun e w' => e = .returned (.bool true) ∧ Below w.heap.size w w' := by
  have HT := hid ht
  have HX := hid hX
  have HU := hid hun
  have a1 := cut_at hi hh
  have a2 := cut_at lo hl
  have a3 := cut_at2 hi hh
  have a4 := cut_at2 lo hl
  rw [ech] at a1 a3
  rw [ecl] at a2 a4
  have hcv : ∀ w : World, (convert 24 9 (.slice (some ⟨w.heap.size, 0, none⟩) 1 1)).run Tryd.prog (w.alloc (.cells #[.int .u8 (c.toNat : Int)] 5)) = .ok (.string (strOf [c])) (w.alloc (.cells #[.int .u8 (c.toNat : Int)] 5)) := fun w => run_string (one_row w c)
  have c1 := cat_one ch
  have c2 := cat_two ch cl
  have s1 : (strOf [ch]).size = 1 := rfl
  have s2 : (strOf [cl]).size = 1 := rfl
  have s3 : (strOf [37, ch]).size = 2 := rfl
  have s4 : (⟨#[37]⟩ : ByteArray).size = 1 := rfl
  have k1 := strOf_list X
  have k2 := strOf_list [c]
  have k3 := strOf_list [37, ch, cl]
  have k4 : (⟨#[43]⟩ : ByteArray).toList = [43] := strOf_list [43]
  have w1 : IntKind.wrap .u8 ((hi : Int) + 1) = (hi : Int) + 1 := by rw [IntKind.wrap_u8]; omega
  have w2 : IntKind.wrap .u8 ((lo : Int) + 1) = (lo : Int) + 1 := by rw [IntKind.wrap_u8]; omega
  have hcl := byte_lt c
  have HCL := hid hcl
  clear ht hX hun ech ecl hh hl
  go_enter Tryd.func7, Tryd.ntmps7
  go_wp2_with fail
  refine (pfirst_calls _ HT.out).mono ?_
  rintro e x1 ⟨rfl, hb1⟩
  have HB1 := hid hb1
  have HT1 := hid (HT.out.below hb1)
  clear hb1 HT
  go_wp2_with fail
  refine (encode_calls set _ [c] _ (HT1.out.alloc _) (one_row x1 c) (by simp)).mono ?_
  rintro e x2 ⟨rfl, hb2⟩
  rw [HX.out]
  have HB2 := hid ((HB1.out.alloc HB1.out.size (.cells #[.int .u8 (c.toNat : Int)] 5)).trans (hb2.mono (by have := HB1.out.size; simp; omega)))
  have HT2 := hid ((HT1.out.alloc _).below hb2)
  clear hb2 HB1 HT1 HX
  go_wp2_with fail
  go_quiet (fail)
  have HB3 := hid (below_drewN HB2.out nq)
  have HT3 : Hid (Tab (x2.drewN nq)) := HT2.out.below (below_drewN (Below.refl _ _) nq)
  generalize x2.drewN nq = x3 at *
  clear HB2 HT2
  go_wp2_with fail
  refine (pfirst_calls _ HT3.out).mono ?_
  rintro e x4 ⟨rfl, hb4⟩
  have HB4 := hid (HB3.out.trans (hb4.mono HB3.out.size))
  have HT4 := hid (HT3.out.below hb4)
  clear hb4 HB3 HT3
  go_wp2_with fail
  refine (decode_calls (strOf [37, ch, cl]) _ (by show 3 ≤ 100000; decide)).mono ?_
  rintro e x5 ⟨⟨vd, rfl, hd⟩, hb5⟩
  rw [HU.out] at hd
  have HD := hid (hd.below (below_alloc x5 (.cells #[.int .u8 (c.toNat : Int)] 5)))
  have HB5 := hid ((HB4.out.alloc HB4.out.size (.cells #[.int .u8 (c.toNat : Int)] 5)).trans (hb5.mono (by have := HB4.out.size; simp; omega)))
  clear hb5 hd HB4 HT4
  go_wp2_with fail
  refine (bytes_calls _ _ _ _ _ HD.out (one_row x5 c)).mono ?_
  rintro e x6 ⟨rfl, rfl⟩
  rw [beq_self_eq_true]
  go_wp2_with fail
  go_ret
  exact ⟨rfl, HB5.out.alloc HB5.out.size _⟩
set_option maxHeartbeats 2000000 in
theorem plain_iL1 (set : Int) (c ch cl : UInt8) (hi lo : Nat) (X : List UInt8) (w : World) (ht : Tab w) (hX : pctR set [c] = X) (hh : hi < 16) (hl : lo < 16) (eh : (c.toNat : Int) / 16 = (hi : Int)) (el : bits .and .u8 (c.toNat : Int) 15 = (lo : Int)) (ech : dgU hi = ch) (ecl : dgU lo = cl) (hun : unR (strOf [37, ch, cl]).data.toList = [c]) (hin : inR set c.toNat = false)
    (r0 : (48 : Int) ≤ (c.toNat : Int)) (r1 : ¬ (c.toNat : Int) ≤ 57) (r2 : (97 : Int) ≤ (c.toNat : Int)) (r3 : ¬ (c.toNat : Int) ≤ 122) (r4 : (65 : Int) ≤ (c.toNat : Int)) (r5 : ¬ (c.toNat : Int) ≤ 90) (r6 : ¬ (c.toNat : Int) < 32) (r7 : (126 : Int) < (c.toNat : Int))
    (g0 : (set : Int) < 1) (g1 : ¬ (1 : Int) ≤ set)
    (t0 : (X == [c]) = true) : Calls Tryd.prog 7 #[.int .i64 set, .int .u8 (c.toNat : Int)] w fun e w' => e = .returned (.bool true) ∧ Below w.heap.size w w' := by
  have HT := hid ht
  have HX := hid hX
  have HU := hid hun
  have a1 := cut_at hi hh
  have a2 := cut_at lo hl
  have a3 := cut_at2 hi hh
  have a4 := cut_at2 lo hl
  rw [ech] at a1 a3
  rw [ecl] at a2 a4
  have hcv : ∀ w : World, (convert 24 9 (.slice (some ⟨w.heap.size, 0, none⟩) 1 1)).run Tryd.prog (w.alloc (.cells #[.int .u8 (c.toNat : Int)] 5)) = .ok (.string (strOf [c])) (w.alloc (.cells #[.int .u8 (c.toNat : Int)] 5)) := fun w => run_string (one_row w c)
  have c1 := cat_one ch
  have c2 := cat_two ch cl
  have s1 : (strOf [ch]).size = 1 := rfl
  have s2 : (strOf [cl]).size = 1 := rfl
  have s3 : (strOf [37, ch]).size = 2 := rfl
  have s4 : (⟨#[37]⟩ : ByteArray).size = 1 := rfl
  have k1 := strOf_list X
  have k2 := strOf_list [c]
  have k3 := strOf_list [37, ch, cl]
  have k4 : (⟨#[43]⟩ : ByteArray).toList = [43] := strOf_list [43]
  have w1 : IntKind.wrap .u8 ((hi : Int) + 1) = (hi : Int) + 1 := by rw [IntKind.wrap_u8]; omega
  have w2 : IntKind.wrap .u8 ((lo : Int) + 1) = (lo : Int) + 1 := by rw [IntKind.wrap_u8]; omega
  have hcl := byte_lt c
  have HCL := hid hcl
  have HIN := hid hin
  clear ht hX hun ech ecl hh hl hin
  go_enter Tryd.func7, Tryd.ntmps7
  go_wp2_with fail
  refine (pfirst_calls _ HT.out).mono ?_
  rintro e x1 ⟨rfl, hb1⟩
  have HB1 := hid hb1
  have HT1 := hid (HT.out.below hb1)
  clear hb1 HT
  go_wp2_with fail
  refine (encode_calls set _ [c] _ (HT1.out.alloc _) (one_row x1 c) (by simp)).mono ?_
  rintro e x2 ⟨rfl, hb2⟩
  rw [HX.out]
  have HB2 := hid ((HB1.out.alloc HB1.out.size (.cells #[.int .u8 (c.toNat : Int)] 5)).trans (hb2.mono (by have := HB1.out.size; simp; omega)))
  have HT2 := hid ((HT1.out.alloc _).below hb2)
  clear hb2 HB1 HT1 HX
  go_wp2_with fail
  go_quiet (fail)
  have HB3 := hid (below_drewN HB2.out nq)
  have HT3 : Hid (Tab (x2.drewN nq)) := HT2.out.below (below_drewN (Below.refl _ _) nq)
  generalize x2.drewN nq = x3 at *
  clear HB2 HT2
  go_wp2_with fail
  refine (pfirst_calls _ HT3.out).mono ?_
  rintro e x4 ⟨rfl, hb4⟩
  have HB4 := hid (HB3.out.trans (hb4.mono HB3.out.size))
  have HT4 := hid (HT3.out.below hb4)
  clear hb4 HB3 HT3
  go_wp2_with fail
  refine (in_calls set c.toNat HCL.out _ (HT4.out.alloc _)).mono ?_
  rintro e x5 ⟨rfl, rfl⟩
  rw [HIN.out]
  go_wp2_with fail
  go_ret
  exact ⟨rfl, HB4.out.alloc HB4.out.size _⟩
set_option maxHeartbeats 2000000 in
theorem plain_iG1 (set : Int) (c ch cl : UInt8) (hi lo : Nat) (X : List UInt8) (w : World) (ht : Tab w) (hX : pctR set [c] = X) (hh : hi < 16) (hl : lo < 16) (eh : (c.toNat : Int) / 16 = (hi : Int)) (el : bits .and .u8 (c.toNat : Int) 15 = (lo : Int)) (ech : dgU hi = ch) (ecl : dgU lo = cl) (hun : unR (strOf [37, ch, cl]).data.toList = [c]) (hin : inR set c.toNat = false)
    (r0 : (48 : Int) ≤ (c.toNat : Int)) (r1 : ¬ (c.toNat : Int) ≤ 57) (r2 : (97 : Int) ≤ (c.toNat : Int)) (r3 : ¬ (c.toNat : Int) ≤ 122) (r4 : (65 : Int) ≤ (c.toNat : Int)) (r5 : ¬ (c.toNat : Int) ≤ 90) (r6 : ¬ (c.toNat : Int) < 32) (r7 : (126 : Int) < (c.toNat : Int))
    (g0 : ¬ set < 1) (g1 : (1 : Int) ≤ set) (g2 : (8 : Int) < set) (g3 : ¬ set ≤ 8)
    (t0 : (X == [c]) = true) : Calls Tryd.prog 7 #[.int .i64 set, .int .u8 (c.toNat : Int)] w fun e w' => e = .returned (.bool true) ∧ Below w.heap.size w w' := by
  have HT := hid ht
  have HX := hid hX
  have HU := hid hun
  have a1 := cut_at hi hh
  have a2 := cut_at lo hl
  have a3 := cut_at2 hi hh
  have a4 := cut_at2 lo hl
  rw [ech] at a1 a3
  rw [ecl] at a2 a4
  have hcv : ∀ w : World, (convert 24 9 (.slice (some ⟨w.heap.size, 0, none⟩) 1 1)).run Tryd.prog (w.alloc (.cells #[.int .u8 (c.toNat : Int)] 5)) = .ok (.string (strOf [c])) (w.alloc (.cells #[.int .u8 (c.toNat : Int)] 5)) := fun w => run_string (one_row w c)
  have c1 := cat_one ch
  have c2 := cat_two ch cl
  have s1 : (strOf [ch]).size = 1 := rfl
  have s2 : (strOf [cl]).size = 1 := rfl
  have s3 : (strOf [37, ch]).size = 2 := rfl
  have s4 : (⟨#[37]⟩ : ByteArray).size = 1 := rfl
  have k1 := strOf_list X
  have k2 := strOf_list [c]
  have k3 := strOf_list [37, ch, cl]
  have k4 : (⟨#[43]⟩ : ByteArray).toList = [43] := strOf_list [43]
  have w1 : IntKind.wrap .u8 ((hi : Int) + 1) = (hi : Int) + 1 := by rw [IntKind.wrap_u8]; omega
  have w2 : IntKind.wrap .u8 ((lo : Int) + 1) = (lo : Int) + 1 := by rw [IntKind.wrap_u8]; omega
  have hcl := byte_lt c
  have HCL := hid hcl
  have HIN := hid hin
  clear ht hX hun ech ecl hh hl hin
  go_enter Tryd.func7, Tryd.ntmps7
  go_wp2_with fail
  refine (pfirst_calls _ HT.out).mono ?_
  rintro e x1 ⟨rfl, hb1⟩
  have HB1 := hid hb1
  have HT1 := hid (HT.out.below hb1)
  clear hb1 HT
  go_wp2_with fail
  refine (encode_calls set _ [c] _ (HT1.out.alloc _) (one_row x1 c) (by simp)).mono ?_
  rintro e x2 ⟨rfl, hb2⟩
  rw [HX.out]
  have HB2 := hid ((HB1.out.alloc HB1.out.size (.cells #[.int .u8 (c.toNat : Int)] 5)).trans (hb2.mono (by have := HB1.out.size; simp; omega)))
  have HT2 := hid ((HT1.out.alloc _).below hb2)
  clear hb2 HB1 HT1 HX
  go_wp2_with fail
  go_quiet (fail)
  have HB3 := hid (below_drewN HB2.out nq)
  have HT3 : Hid (Tab (x2.drewN nq)) := HT2.out.below (below_drewN (Below.refl _ _) nq)
  generalize x2.drewN nq = x3 at *
  clear HB2 HT2
  go_wp2_with fail
  refine (pfirst_calls _ HT3.out).mono ?_
  rintro e x4 ⟨rfl, hb4⟩
  have HB4 := hid (HB3.out.trans (hb4.mono HB3.out.size))
  have HT4 := hid (HT3.out.below hb4)
  clear hb4 HB3 HT3
  go_wp2_with fail
  refine (in_calls set c.toNat HCL.out _ (HT4.out.alloc _)).mono ?_
  rintro e x5 ⟨rfl, rfl⟩
  rw [HIN.out]
  go_wp2_with fail
  go_ret
  exact ⟨rfl, HB4.out.alloc HB4.out.size _⟩
set_option maxHeartbeats 2000000 in
theorem plain_iI2 (set : Int) (c ch cl : UInt8) (hi lo : Nat) (X : List UInt8) (w : World) (ht : Tab w) (hX : pctR set [c] = X) (hh : hi < 16) (hl : lo < 16) (eh : (c.toNat : Int) / 16 = (hi : Int)) (el : bits .and .u8 (c.toNat : Int) 15 = (lo : Int)) (ech : dgU hi = ch) (ecl : dgU lo = cl) (hun : unR (strOf [37, ch, cl]).data.toList = [c])
    (r0 : (48 : Int) ≤ (c.toNat : Int)) (r1 : ¬ (c.toNat : Int) ≤ 57) (r2 : (97 : Int) ≤ (c.toNat : Int)) (r3 : ¬ (c.toNat : Int) ≤ 122) (r4 : (65 : Int) ≤ (c.toNat : Int)) (r5 : ¬ (c.toNat : Int) ≤ 90) (r6 : ¬ (c.toNat : Int) < 32) (r7 : (126 : Int) < (c.toNat : Int))
    (g0 : ¬ set < 1) (g1 : (1 : Int) ≤ set) (g2 : ¬ (8 : Int) < set) (g3 : set ≤ 8)
    (t0 : (X == [c]) = false) (t1 : (X == [37, ch, cl]) = true) : Calls Tryd.prog 7 #[.int .i64 set, .int .u8 (c.toNat : Int)] w fun e w' => e = .returned (.bool true) ∧ Below w.heap.size w w' := by
  have HT := hid ht
  have HX := hid hX
  have HU := hid hun
  have a1 := cut_at hi hh
  have a2 := cut_at lo hl
  have a3 := cut_at2 hi hh
  have a4 := cut_at2 lo hl
  rw [ech] at a1 a3
  rw [ecl] at a2 a4
  have hcv : ∀ w : World, (convert 24 9 (.slice (some ⟨w.heap.size, 0, none⟩) 1 1)).run Tryd.prog (w.alloc (.cells #[.int .u8 (c.toNat : Int)] 5)) = .ok (.string (strOf [c])) (w.alloc (.cells #[.int .u8 (c.toNat : Int)] 5)) := fun w => run_string (one_row w c)
  have c1 := cat_one ch
  have c2 := cat_two ch cl
  have s1 : (strOf [ch]).size = 1 := rfl
  have s2 : (strOf [cl]).size = 1 := rfl
  have s3 : (strOf [37, ch]).size = 2 := rfl
  have s4 : (⟨#[37]⟩ : ByteArray).size = 1 := rfl
  have k1 := strOf_list X
  have k2 := strOf_list [c]
  have k3 := strOf_list [37, ch, cl]
  have k4 : (⟨#[43]⟩ : ByteArray).toList = [43] := strOf_list [43]
  have w1 : IntKind.wrap .u8 ((hi : Int) + 1) = (hi : Int) + 1 := by rw [IntKind.wrap_u8]; omega
  have w2 : IntKind.wrap .u8 ((lo : Int) + 1) = (lo : Int) + 1 := by rw [IntKind.wrap_u8]; omega
  have hcl := byte_lt c
  have HCL := hid hcl
  clear ht hX hun ech ecl hh hl
  go_enter Tryd.func7, Tryd.ntmps7
  go_wp2_with fail
  refine (pfirst_calls _ HT.out).mono ?_
  rintro e x1 ⟨rfl, hb1⟩
  have HB1 := hid hb1
  have HT1 := hid (HT.out.below hb1)
  clear hb1 HT
  go_wp2_with fail
  refine (encode_calls set _ [c] _ (HT1.out.alloc _) (one_row x1 c) (by simp)).mono ?_
  rintro e x2 ⟨rfl, hb2⟩
  rw [HX.out]
  have HB2 := hid ((HB1.out.alloc HB1.out.size (.cells #[.int .u8 (c.toNat : Int)] 5)).trans (hb2.mono (by have := HB1.out.size; simp; omega)))
  have HT2 := hid ((HT1.out.alloc _).below hb2)
  clear hb2 HB1 HT1 HX
  go_wp2_with fail
  go_quiet (fail)
  have HB3 := hid (below_drewN HB2.out nq)
  have HT3 : Hid (Tab (x2.drewN nq)) := HT2.out.below (below_drewN (Below.refl _ _) nq)
  generalize x2.drewN nq = x3 at *
  clear HB2 HT2
  go_wp2_with fail
  refine (pfirst_calls _ HT3.out).mono ?_
  rintro e x4 ⟨rfl, hb4⟩
  have HB4 := hid (HB3.out.trans (hb4.mono HB3.out.size))
  have HT4 := hid (HT3.out.below hb4)
  clear hb4 HB3 HT3
  go_wp2_with fail
  refine (decode_calls (strOf [37, ch, cl]) _ (by show 3 ≤ 100000; decide)).mono ?_
  rintro e x5 ⟨⟨vd, rfl, hd⟩, hb5⟩
  rw [HU.out] at hd
  have HD := hid (hd.below (below_alloc x5 (.cells #[.int .u8 (c.toNat : Int)] 5)))
  have HB5 := hid ((HB4.out.alloc HB4.out.size (.cells #[.int .u8 (c.toNat : Int)] 5)).trans (hb5.mono (by have := HB4.out.size; simp; omega)))
  clear hb5 hd HB4 HT4
  go_wp2_with fail
  refine (bytes_calls _ _ _ _ _ HD.out (one_row x5 c)).mono ?_
  rintro e x6 ⟨rfl, rfl⟩
  rw [beq_self_eq_true]
  go_wp2_with fail
  go_ret
  exact ⟨rfl, HB5.out.alloc HB5.out.size _⟩
end Go.Proofs.YtfglanhbjmlclaaDoor
