/- The walk of the statement 'any numbers as texts'. -/
import Derived.Test.YtghhdccnocpobaaDoorIpN
import Derived.Deep.RegionHeld3
import Derived.Deep.DrawnRows
namespace Go.Proofs.YtghhdccnocpobaaDoor
open Go.RowKit
set_option linter.unusedVariables false
set_option maxRecDepth 20000
attribute [local go_sem ↓] Go.wp_at_zero Go.wp_at_succ
set_option maxHeartbeats 8000000 in
theorem ipPrints_walk (n : Int) (p0 p1 p2 p3 p4 p5 p6 p7 : Nat) (w : World) (T0 : Tab w) (hn : 0 ≤ n ∧ n ≤ 4294967295) (hx : ∀ x ∈ [p0, p1, p2, p3, p4, p5, p6, p7], x < 65536) :
    Calls Tryd.prog 4 #[.int .u32 n, agg8 p0 p1 p2 p3 p4 p5 p6 p7] w fun e w' => e = .returned (.bool true) ∧ Below w.heap.size w w' := by
  have T := hid T0
  clear T0
  obtain ⟨m, rfl⟩ := Int.eq_ofNat_of_zero_le hn.1
  have hm : m < 4294967296 := by omega
  have A1 := hid (fun w => ipr4_calls m w hm)
  have A2 := hid (fun w => print4_calls m w hm)
  have A3 := hid (fun w => ipr6_calls p0 p1 p2 p3 p4 p5 p6 p7 w hx)
  have A4 := hid (fun w => print6_calls p0 p1 p2 p3 p4 p5 p6 p7 w hx)
  have HK0 := hid (blk_new w [p0, p1, p2, p3, p4, p5, p6, p7])
  have HB0 := hid (balloc w (.cells ([p0, p1, p2, p3, p4, p5, p6, p7].map f16).toArray 28))
  simp only [f16, List.map_cons, List.map_nil] at HB0
  unfold agg8 at A3 A4 ⊢
  clear hn hm hx
  go_enter Tryd.func4, Tryd.ntmps4
  go_wp2_with fail
  refine (ipfirst_calls _ (T.out.below (by first | exact btw (by assumption) | exact btw_al (by assumption) _ | exact btw_dr (by assumption) | exact btw_ad (by assumption) _ | exact Below.refl _ _ | exact (Below.refl _ _).alloc (Nat.le_refl _) _))).mono ?_
  rintro e w1 ⟨rfl, hb⟩
  have HB1 := hid (HB0.out.trans (hb.mono (by simp)))
  have HK1 := hid (HK0.out.below hb)
  clear hb HB0 HK0
  obtain ⟨G, hG⟩ : ∃ G, w.heap.size = G := ⟨_, rfl⟩
  rw [hG] at HK1 ⊢
  have HG := hid hG
  clear hG
  have hk1 := blk8 HK1.out
  have t1 := strOf_list (print4R m)
  have t2 := strOf_list (print6R [p0, p1, p2, p3, p4, p5, p6, p7])
  generalize strOf (print4R m) = S4 at *
  generalize strOf (print6R [p0, p1, p2, p3, p4, p5, p6, p7]) = S6 at *
  go_wp2_with fail
  go_region_held3 (fun w' => w'.cell? ⟨G, 0, none⟩ = some (.int .u16 (p0 : Int)) ∧ w'.cell? ⟨G, 1, none⟩ = some (.int .u16 (p1 : Int)) ∧ w'.cell? ⟨G, 2, none⟩ = some (.int .u16 (p2 : Int)) ∧ w'.cell? ⟨G, 3, none⟩ = some (.int .u16 (p3 : Int)) ∧ w'.cell? ⟨G, 4, none⟩ = some (.int .u16 (p4 : Int)) ∧ w'.cell? ⟨G, 5, none⟩ = some (.int .u16 (p5 : Int)) ∧ w'.cell? ⟨G, 6, none⟩ = some (.int .u16 (p6 : Int)) ∧ w'.cell? ⟨G, 7, none⟩ = some (.int .u16 (p7 : Int))) (first | assumption | exact hk1 | go_keep) (first
    | (go_at_call 9; refine (ipfirst_calls _ (T.out.below (by first | exact btw (by assumption) | exact btw_al (by assumption) _ | exact btw_dr (by assumption) | exact btw_ad (by assumption) _ | exact Below.refl _ _ | exact (Below.refl _ _).alloc (Nat.le_refl _) _))).mono ?_; rintro e wa ⟨rfl, hba⟩; have HKa := hid (Blk.below (w := w1.drew) HK1.out hba); have HBa := hid ((HB1.out.drew).trans (hba.mono HB1.out.size)); have hka := blk8 HKa.out)
    | (go_at_call 16; refine (A1.out _ (T.out.below (by first | exact btw (by assumption) | exact btw_al (by assumption) _ | exact btw_dr (by assumption) | exact btw_ad (by assumption) _ | exact Below.refl _ _ | exact (Below.refl _ _).alloc (Nat.le_refl _) _))).mono ?_; rintro e wb ⟨rfl, hbb⟩; have HKb := hid (HKa.out.below hbb); have HBb := hid (below_trans HBa.out hbb); have hkb := blk8 HKb.out)
    | (go_at_call 17; refine (A2.out _).mono ?_; rintro e wc ⟨rfl, hbc⟩; have HKc := hid (HKb.out.below hbc); have HBc := hid (below_trans HBb.out hbc); have hkc := blk8 HKc.out)
    | (go_at_call 18; refine (A3.out _ (T.out.below (by first | exact btw (by assumption) | exact btw_al (by assumption) _ | exact btw_dr (by assumption) | exact btw_ad (by assumption) _ | exact Below.refl _ _ | exact (Below.refl _ _).alloc (Nat.le_refl _) _))).mono ?_; rintro e wd ⟨rfl, hbd⟩; have HKd := hid (HKc.out.below hbd); have HBd := hid (below_trans HBc.out hbd); have hkd := blk8 HKd.out)
    | (go_at_call 19; refine (A4.out _).mono ?_; rintro e we ⟨rfl, hbe⟩; have HKe := hid (HKd.out.below hbe); have HBe := hid (below_trans HBd.out hbe); have hke := blk8 HKe.out))
  all_goals
    go_wp2_with fail
    go_ret
    exact ⟨by first | rfl | simp, HBe.out⟩
end Go.Proofs.YtghhdccnocpobaaDoor
