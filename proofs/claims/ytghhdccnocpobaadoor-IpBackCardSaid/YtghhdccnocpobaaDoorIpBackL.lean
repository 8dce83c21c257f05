/- The walk of the statement 'there and back'. -/
import Derived.Test.YtghhdccnocpobaaDoorIpN
import Derived.Test.YtghhdccnocpobaaDoorIpEq
namespace Go.Proofs.YtghhdccnocpobaaDoor
open Go.RowKit
set_option linter.unusedVariables false
set_option maxRecDepth 20000
set_option maxRecDepth 20000 in
set_option maxHeartbeats 16000000 in
theorem ipBack_in (m : Nat) (p0 p1 p2 p3 p4 p5 p6 p7 : Nat) (s : ByteArray) (w : World) (T0 : Tab w) (hm : m < 4294967296) (hx : ∀ x ∈ [p0, p1, p2, p3, p4, p5, p6, p7], x < 65536) (h5 : s.size ≤ 5000) :
    Calls Tryd.prog 5 #[.int .u32 (m : Int), agg8 p0 p1 p2 p3 p4 p5 p6 p7, .string s] w fun e w' => e = .returned (.bool true) ∧ Below w.heap.size w w' := by
  have T := hid T0
  clear T0
  have A1 := hid (fun w => ipr4_calls m w hm)
  have L1 := print4_len hm
  have A2 := hid (ip4_calls (strOf (print4R m)))
  have A5 := hid (ien_calls (strOf (print4R m)))
  unfold P4Post at A2
  rw [str_data, back4 hm] at A2
  rw [str_data, print4_ends hm] at A5
  have HS4 : Hid ((strOf (print4R m)).size ≤ 100000) := by show (print4R m).length ≤ _; omega
  have A3 := hid (fun w => ipr6_calls p0 p1 p2 p3 p4 p5 p6 p7 w hx)
  have L3 := print6_len (p := [p0, p1, p2, p3, p4, p5, p6, p7]) rfl hx
  have A4 := hid (ip6_calls (strOf (print6R [p0, p1, p2, p3, p4, p5, p6, p7])))
  unfold P6Post at A4
  rw [str_data, back6 rfl hx] at A4
  have HS6 : Hid ((strOf (print6R [p0, p1, p2, p3, p4, p5, p6, p7])).size ≤ 100000) := by show (print6R [p0, p1, p2, p3, p4, p5, p6, p7]).length ≤ _; omega
  generalize strOf (print4R m) = S4 at *
  generalize strOf (print6R [p0, p1, p2, p3, p4, p5, p6, p7]) = S6 at *
  have F4 := parse4_lt s.data.toList
  have F6 := parse6_fine s.data.toList
  have B1 := hid (ip4_calls s)
  have B3 := hid (ip6_calls s)
  unfold P4Post at B1
  unfold P6Post at B3
  generalize (parse4R s.data.toList).1 = n at *
  generalize (parse4R s.data.toList).2 = g at *
  generalize (parse6R s.data.toList).2 = q at *
  generalize (parse6R s.data.toList).1 = xs at *
  obtain ⟨f1, f2, f3⟩ := F6
  obtain ⟨x0, x1, x2, x3, x4, x5, x6, x7, rfl⟩ := eight f1
  obtain ⟨f4, f5⟩ := F4
  have C1 := hid (fun w => ipr4_calls n w f4)
  have C2 := hid (ip4_calls (strOf (print4R n)))
  unfold P4Post at C2
  rw [str_data, back4 f4] at C2
  have L4 := print4_len f4
  have HT4 : Hid ((strOf (print4R n)).size ≤ 100000) := by show (print4R n).length ≤ _; omega
  have C3 := hid (fun w => ipr6_calls x0 x1 x2 x3 x4 x5 x6 x7 w f2)
  have C4 := hid (ip6_calls (strOf (print6R [x0, x1, x2, x3, x4, x5, x6, x7])))
  unfold P6Post at C4
  rw [str_data, back6 rfl f2] at C4
  have L6 := print6_len (p := [x0, x1, x2, x3, x4, x5, x6, x7]) rfl f2
  have HT6 : Hid ((strOf (print6R [x0, x1, x2, x3, x4, x5, x6, x7])).size ≤ 100000) := by show (print6R [x0, x1, x2, x3, x4, x5, x6, x7]).length ≤ _; omega
  generalize strOf (print4R n) = T4 at *
  generalize strOf (print6R [x0, x1, x2, x3, x4, x5, x6, x7]) = T6 at *
  simp only [aggL, f16, List.map_cons, List.map_nil] at A4 B3 C4
  unfold agg8 at A3 C3 ⊢
  have heq1 := eq_arr (p0 : Int) p1 p2 p3 p4 p5 p6 p7 p0 p1 p2 p3 p4 p5 p6 p7
  simp only [same8_refl] at heq1
  have heq2 := eq_arr (x0 : Int) x1 x2 x3 x4 x5 x6 x7 x0 x1 x2 x3 x4 x5 x6 x7
  simp only [same8_refl] at heq2
  have hg : ((g : Int) == 0) = true ∨ (((g : Int) == 0) = false ∧ ((n : Int) == 0) = true) := by
    by_cases e : g = 0
    · left; rw [e]; rfl
    · right
      refine ⟨by rw [beq_eq_false_iff_ne]; omega, ?_⟩
      rcases f5 with h | h
      · exact absurd h e
      · rw [h]; rfl
  have hq : ((q : Int) == 0) = true ∨ (((q : Int) == 0) = false ∧ ∀ w, (Op.equalIn 10000 28 (.agg #[.int .u16 (x0 : Int), .int .u16 (x1 : Int), .int .u16 (x2 : Int), .int .u16 (x3 : Int), .int .u16 (x4 : Int), .int .u16 (x5 : Int), .int .u16 (x6 : Int), .int .u16 (x7 : Int)]) (.agg #[.int .u16 0, .int .u16 0, .int .u16 0, .int .u16 0, .int .u16 0, .int .u16 0, .int .u16 0, .int .u16 0])).run Tryd.prog w = .ok true w) := by
    by_cases e : q = 0
    · left; rw [e]; rfl
    · right
      refine ⟨by rw [beq_eq_false_iff_ne]; omega, fun w => ?_⟩
      rcases f3 with h | h
      · exact absurd h e
      · have hz : [x0, x1, x2, x3, x4, x5, x6, x7] = [0, 0, 0, 0, 0, 0, 0, 0] := h
        simp only [List.cons.injEq, and_true] at hz
        obtain ⟨rfl, rfl, rfl, rfl, rfl, rfl, rfl, rfl⟩ := hz
        exact (eq_arr 0 0 0 0 0 0 0 0 0 0 0 0 0 0 0 0 w).trans rfl
  have HK0 := hid (blk_new w [p0, p1, p2, p3, p4, p5, p6, p7])
  have HB0 := hid (balloc w (.cells ([p0, p1, p2, p3, p4, p5, p6, p7].map f16).toArray 28))
  simp only [f16, List.map_cons, List.map_nil] at HB0
  have HS : Hid (s.size ≤ 100000) := by show _ ≤ _; omega
  have s1 : ¬ (5000 : Int) < (s.size : Int) := by omega
  have HGc := hid hg
  have HQc := hid hq
  clear hm hx h5 L1 L3 L4 L6 f1 f2 f3 f4 f5 hg hq
  go_enter Tryd.func5, Tryd.ntmps5
  go_wp2_with fail
  refine (ipfirst_calls _ (T.out.below (by first | exact btw (by assumption) | exact btw_al (by assumption) _ | exact btw_dr (by assumption) | exact btw_ad (by assumption) _ | exact Below.refl _ _ | exact (Below.refl _ _).alloc (Nat.le_refl _) _))).mono ?_
  rintro e w1 ⟨rfl, hb⟩
  have HB1 := hid (HB0.out.trans (hb.mono (by simp)))
  have HK1 := hid (HK0.out.below hb)
  clear hb HB0 HK0
  go_wp2_with fail
  refine (A1.out _ (T.out.below (by first | exact btw (by assumption) | exact btw_al (by assumption) _ | exact btw_dr (by assumption) | exact btw_ad (by assumption) _ | exact Below.refl _ _ | exact (Below.refl _ _).alloc (Nat.le_refl _) _))).mono ?_
  rintro e w2 ⟨rfl, hb⟩
  have HB2 := hid (below_trans HB1.out hb)
  have HK2 := hid (HK1.out.below hb)
  clear hb HB1 HK1
  go_wp2_with fail
  refine (A2.out _ HS4.out).mono ?_
  rintro e w3 ⟨rfl, hb⟩
  have HB3 := hid (below_trans HB2.out hb)
  have HK3 := hid (HK2.out.below hb)
  clear hb HB2 HK2
  obtain ⟨a0, a1, a2, a3, a4, a5, a6, a7⟩ := blk8 HK3.out
  go_wp2_with fail
  refine (A3.out _ (T.out.below (by first | exact btw (by assumption) | exact btw_al (by assumption) _ | exact btw_dr (by assumption) | exact btw_ad (by assumption) _ | exact Below.refl _ _ | exact (Below.refl _ _).alloc (Nat.le_refl _) _))).mono ?_
  rintro e w4 ⟨rfl, hb⟩
  have HB4 := hid (below_trans HB3.out hb)
  have HK4 := hid (HK3.out.below hb)
  clear hb HB3 HK3 a0 a1 a2 a3 a4 a5 a6 a7
  go_wp2_with fail
  refine (A4.out _ HS6.out (T.out.below (by first | exact btw (by assumption) | exact btw_al (by assumption) _ | exact btw_dr (by assumption) | exact btw_ad (by assumption) _ | exact Below.refl _ _ | exact (Below.refl _ _).alloc (Nat.le_refl _) _))).mono ?_
  rintro e w5 ⟨rfl, hb⟩
  have HB5 := hid (below_trans HB4.out hb)
  have HK5 := hid (HK4.out.below hb)
  have HK5' := hid (HK5.out.below (balloc w5 (.cells ([p0, p1, p2, p3, p4, p5, p6, p7].map f16).toArray 28)))
  clear hb HB4 HK4
  obtain ⟨a0, a1, a2, a3, a4, a5, a6, a7⟩ := blk8 HK5'.out
  obtain ⟨b0, b1, b2, b3, b4, b5, b6, b7⟩ := blk8 (blk_new w5 [p0, p1, p2, p3, p4, p5, p6, p7])
  simp only [f16, List.map_cons, List.map_nil] at a0 a1 a2 a3 a4 a5 a6 a7 b0 b1 b2 b3 b4 b5 b6 b7
  go_wp2_with fail
  refine (A1.out _ (T.out.below (by first | exact btw (by assumption) | exact btw_al (by assumption) _ | exact btw_dr (by assumption) | exact btw_ad (by assumption) _ | exact Below.refl _ _ | exact (Below.refl _ _).alloc (Nat.le_refl _) _))).mono ?_
  rintro e w6 ⟨rfl, hb⟩
  have HB6 := hid (below_more HB5.out _ hb)
  clear hb HB5 HK5 HK5' a0 a1 a2 a3 a4 a5 a6 a7 b0 b1 b2 b3 b4 b5 b6 b7
  go_wp2_with fail
  refine (A5.out _ HS4.out).mono ?_
  rintro e w7 ⟨rfl, hb⟩
  have HB7 := hid (below_trans HB6.out hb)
  clear hb HB6
  go_wp2_with fail
  refine (B1.out _ HS.out).mono ?_
  rintro e w8 ⟨rfl, hb⟩
  have HB8 := hid (below_trans HB7.out hb)
  clear hb HB7
  go_wp2_with fail
  refine (C1.out _ (T.out.below (by first | exact btw (by assumption) | exact btw_al (by assumption) _ | exact btw_dr (by assumption) | exact btw_ad (by assumption) _ | exact Below.refl _ _ | exact (Below.refl _ _).alloc (Nat.le_refl _) _))).mono ?_
  rintro e w9 ⟨rfl, hb⟩
  have HB9 := hid (below_trans HB8.out hb)
  clear hb HB8
  go_wp2_with fail
  refine (C2.out _ HT4.out).mono ?_
  rintro e w10 ⟨rfl, hb⟩
  have HB10 := hid (below_trans HB9.out hb)
  clear hb HB9
  go_wp2_with fail
  refine (B3.out _ HS.out (T.out.below (by first | exact btw (by assumption) | exact btw_al (by assumption) _ | exact btw_dr (by assumption) | exact btw_ad (by assumption) _ | exact Below.refl _ _ | exact (Below.refl _ _).alloc (Nat.le_refl _) _))).mono ?_
  rintro e w11 ⟨rfl, hb⟩
  have HB11 := hid (below_trans HB10.out hb)
  have HX11 := hid (blk_new w11 [x0, x1, x2, x3, x4, x5, x6, x7])
  clear hb HB10
  go_wp2_with fail
  refine (C3.out _ (T.out.below (by first | exact btw (by assumption) | exact btw_al (by assumption) _ | exact btw_dr (by assumption) | exact btw_ad (by assumption) _ | exact Below.refl _ _ | exact (Below.refl _ _).alloc (Nat.le_refl _) _))).mono ?_
  rintro e w12 ⟨rfl, hb⟩
  have HB12 := hid (below_more HB11.out _ hb)
  have HX12 := hid (HX11.out.below hb)
  clear hb HB11 HX11
  go_wp2_with fail
  refine (C4.out _ HT6.out (T.out.below (by first | exact btw (by assumption) | exact btw_al (by assumption) _ | exact btw_dr (by assumption) | exact btw_ad (by assumption) _ | exact Below.refl _ _ | exact (Below.refl _ _).alloc (Nat.le_refl _) _))).mono ?_
  rintro e w13 ⟨rfl, hb⟩
  have HB13 := hid (below_trans HB12.out hb)
  have HX13 := hid ((HX12.out.below hb).below (balloc w13 (.cells ([x0, x1, x2, x3, x4, x5, x6, x7].map f16).toArray 28)))
  have HY13 := hid (blk_new w13 [x0, x1, x2, x3, x4, x5, x6, x7])
  clear hb HB12 HX12
  simp only [f16, List.map_cons, List.map_nil] at HX13 HY13
  go_wp2_with fail
  refine (ipfirst_calls _ (T.out.below (by first | exact btw (by assumption) | exact btw_al (by assumption) _ | exact btw_dr (by assumption) | exact btw_ad (by assumption) _ | exact Below.refl _ _ | exact (Below.refl _ _).alloc (Nat.le_refl _) _))).mono ?_
  rintro e w14 ⟨rfl, hb⟩
  have HB14 := hid (below_more HB13.out _ hb)
  have HX14 := hid (HX13.out.below hb)
  have HY14 := hid (HY13.out.below hb)
  clear hb HB13 HX13 HY13
  obtain ⟨a0, a1, a2, a3, a4, a5, a6, a7⟩ := blk8 HX14.out
  obtain ⟨b0, b1, b2, b3, b4, b5, b6, b7⟩ := blk8 HY14.out
  have hg := HGc.out
  have hq := HQc.out
  clear HGc HQc
  rcases hg with hg | ⟨hg, hn⟩
  · rcases hq with hq | ⟨hq, hz⟩
    · go_wp2_with fail
      go_ret
      exact ⟨rfl, HB14.out⟩
    · go_wp2_with fail
      go_ret
      exact ⟨rfl, HB14.out⟩
  · rcases hq with hq | ⟨hq, hz⟩
    · go_wp2_with fail
      go_ret
      exact ⟨rfl, HB14.out⟩
    · go_wp2_with fail
      go_ret
      exact ⟨rfl, HB14.out⟩
set_option maxHeartbeats 2000000 in
theorem ipBack_walk (n : Int) (p0 p1 p2 p3 p4 p5 p6 p7 : Nat) (s : ByteArray) (w : World) (T0 : Tab w) (hn : 0 ≤ n ∧ n ≤ 4294967295) (hx : ∀ x ∈ [p0, p1, p2, p3, p4, p5, p6, p7], x < 65536) (hs : s.size ≤ maxLen) :
    Calls Tryd.prog 5 #[.int .u32 n, agg8 p0 p1 p2 p3 p4 p5 p6 p7, .string s] w fun e w' => e = .returned (.bool true) ∧ Below w.heap.size w w' := by
  have T := hid T0
  clear T0
  obtain ⟨m, rfl⟩ := Int.eq_ofNat_of_zero_le hn.1
  by_cases h5 : s.size ≤ 5000
  · exact ipBack_in m p0 p1 p2 p3 p4 p5 p6 p7 s w T.out (by omega) hx h5
  · unfold maxLen at hs
    have s1 : (5000 : Int) < (s.size : Int) := by omega
    have HB0 := hid (balloc w (.cells ([p0, p1, p2, p3, p4, p5, p6, p7].map f16).toArray 28))
    simp only [f16, List.map_cons, List.map_nil] at HB0
    unfold agg8
    clear h5 hn hx
    go_enter Tryd.func5, Tryd.ntmps5
    go_wp2_with fail
    refine (ipfirst_calls _ (T.out.below (by first | exact btw (by assumption) | exact btw_al (by assumption) _ | exact btw_dr (by assumption) | exact btw_ad (by assumption) _ | exact Below.refl _ _ | exact (Below.refl _ _).alloc (Nat.le_refl _) _))).mono ?_
    rintro e w1 ⟨rfl, hb⟩
    have HB1 := hid (HB0.out.trans (hb.mono (by simp)))
    clear hb
    go_wp2_with fail
    refine (ipfirst_calls _ (T.out.below (by first | exact btw (by assumption) | exact btw_al (by assumption) _ | exact btw_dr (by assumption) | exact btw_ad (by assumption) _ | exact Below.refl _ _ | exact (Below.refl _ _).alloc (Nat.le_refl _) _))).mono ?_
    rintro e w2 ⟨rfl, hb⟩
    have HB2 := hid (below_trans HB1.out hb)
    clear hb
    go_wp2_with fail
    go_ret
    exact ⟨rfl, HB2.out⟩
end Go.Proofs.YtghhdccnocpobaaDoor
