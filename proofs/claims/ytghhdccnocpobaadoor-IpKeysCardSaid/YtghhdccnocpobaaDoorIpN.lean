/- first: what the chapter's examples fix. -/
import Derived.Test.YtghhdccnocpobaaDoorIpV
namespace Go.Proofs.YtghhdccnocpobaaDoor
open Go.RowKit
set_option linter.unusedVariables false
set_option maxRecDepth 20000
theorem blk_new (w : World) (xs : List Nat) : Blk (w.alloc (.cells (xs.map f16).toArray 28)) w.heap.size xs := heap_alloc_new w _
theorem balloc (w : World) (o : Obj) : Below w.heap.size w (w.alloc o) := (Below.refl _ _).alloc (Nat.le_refl _) _
theorem below_more {a b c : World} (h : Below a.heap.size a b) (o : Obj) (k : Below (b.alloc o).heap.size (b.alloc o) c) : Below a.heap.size a c := (h.alloc h.size o).trans (k.mono (by have := h.size; simp; omega))
theorem blk8 {w : World} {G x0 x1 x2 x3 x4 x5 x6 x7 : Nat} (h : Blk w G [x0, x1, x2, x3, x4, x5, x6, x7]) : w.cell? ⟨G, 0, none⟩ = some (.int .u16 (x0 : Int)) ∧ w.cell? ⟨G, 1, none⟩ = some (.int .u16 (x1 : Int)) ∧ w.cell? ⟨G, 2, none⟩ = some (.int .u16 (x2 : Int)) ∧ w.cell? ⟨G, 3, none⟩ = some (.int .u16 (x3 : Int)) ∧ w.cell? ⟨G, 4, none⟩ = some (.int .u16 (x4 : Int)) ∧ w.cell? ⟨G, 5, none⟩ = some (.int .u16 (x5 : Int)) ∧ w.cell? ⟨G, 6, none⟩ = some (.int .u16 (x6 : Int)) ∧ w.cell? ⟨G, 7, none⟩ = some (.int .u16 (x7 : Int)) :=
  ⟨(h.cell 0 (by show 0 < 8; decide)).1, (h.cell 1 (by show 1 < 8; decide)).1, (h.cell 2 (by show 2 < 8; decide)).1, (h.cell 3 (by show 3 < 8; decide)).1, (h.cell 4 (by show 4 < 8; decide)).1, (h.cell 5 (by show 5 < 8; decide)).1, (h.cell 6 (by show 6 < 8; decide)).1, (h.cell 7 (by show 7 < 8; decide)).1⟩
set_option maxHeartbeats 2000000 in
theorem ipfirst_calls (w : World) (T0 : Tab w) : Calls Tryd.prog 9 #[] w fun e w' => e = .returned (.bool true) ∧ Below w.heap.size w w' := by
  have T := hid T0
  clear T0
  go_enter Tryd.func9, Tryd.ntmps9
  go_wp2_with fail
  refine (ip4_calls ⟨#[48, 120, 55, 102, 46, 49]⟩ _ (by decide)).mono ?_
  rintro e w1 ⟨rfl, hb1⟩
  rw [show (⟨#[48, 120, 55, 102, 46, 49]⟩ : ByteArray).data.toList = [48, 120, 55, 102, 46, 49] from rfl, form_first]
  have HB1 := hid hb1
  clear hb1
  go_wp2_with fail
  refine (ip6_calls ⟨#[58, 58, 49, 46, 50, 46, 51, 46, 52]⟩ _ (by decide) (T.out.below (by first | exact btw (by assumption) | exact btw_al (by assumption) _ | exact btw_dr (by assumption) | exact btw_ad (by assumption) _ | exact Below.refl _ _ | exact (Below.refl _ _).alloc (Nat.le_refl _) _))).mono ?_
  rintro e w2 ⟨rfl, hb2⟩
  rw [show (⟨#[58, 58, 49, 46, 50, 46, 51, 46, 52]⟩ : ByteArray).data.toList = [58, 58, 49, 46, 50, 46, 51, 46, 52] from rfl, six_first1]
  simp only [aggL, f16, List.map_cons, List.map_nil]
  have HB2 := hid (below_trans HB1.out hb2)
  have HK2 := hid (blk_new w2 [0, 0, 0, 0, 0, 0, 258, 772])
  clear hb2 HB1
  go_wp2_with fail
  refine (ip6_calls ⟨#[49, 58, 58, 58, 50]⟩ _ (by decide) (T.out.below (by first | exact btw (by assumption) | exact btw_al (by assumption) _ | exact btw_dr (by assumption) | exact btw_ad (by assumption) _ | exact Below.refl _ _ | exact (Below.refl _ _).alloc (Nat.le_refl _) _))).mono ?_
  rintro e w3 ⟨rfl, hb3⟩
  rw [show (⟨#[49, 58, 58, 58, 50]⟩ : ByteArray).data.toList = [49, 58, 58, 58, 50] from rfl, six_first2]
  simp only [aggL, f16, z8, List.map_cons, List.map_nil]
  have HB3 := hid (below_more HB2.out _ hb3)
  have HK3 := hid (HK2.out.below hb3)
  clear hb3 HB2 HK2
  go_wp2_with fail
  refine (ipr6_calls 1 0 0 0 0 0 0 1 _ (by decide) (T.out.below (by first | exact btw (by assumption) | exact btw_al (by assumption) _ | exact btw_dr (by assumption) | exact btw_ad (by assumption) _ | exact Below.refl _ _ | exact (Below.refl _ _).alloc (Nat.le_refl _) _))).mono ?_
  rintro e w4 ⟨rfl, hb4⟩
  rw [six_first3]
  have HB4 := hid (below_more HB3.out _ hb4)
  have HK4 := hid ((HK3.out.below (balloc w3 _)).below hb4)
  have c6 := (HK4.out.cell 6 (by decide)).1
  have c7 := (HK4.out.cell 7 (by decide)).1
  have hs : (strOf [49, 58, 58, 49]).toList = [49, 58, 58, 49] := strOf_list _
  simp only [List.getElem_cons_zero, List.getElem_cons_succ] at c6 c7
  clear hb4 HB3 HK3 HK4
  go_wp2_with fail
  go_ret
  exact ⟨rfl, HB4.out⟩
end Go.Proofs.YtghhdccnocpobaaDoor
