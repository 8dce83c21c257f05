/- The program's Parse6. -/
import Derived.Test.YtghhdccnocpobaaDoorIpWs
namespace Go.Proofs.YtghhdccnocpobaaDoor
open Go.RowKit
set_option linter.unusedVariables false
set_option maxRecDepth 20000
set_option linter.unusedSimpArgs false
theorem psix_calls (s : ByteArray) (w : World) (hs : s.size ≤ 100000) (hm : MaxL w) : Calls Tryd.prog 26 #[.string s] w fun e w' => SixPost s.data.toList w e w' := by
  cases hc : cutG [] s.data.toList with
  | none => exact psix_one s w hs hm hc
  | some x =>
    obtain ⟨a, b⟩ := x
    exact psix_two s w hs hm hc
set_option maxHeartbeats 8000000 in
theorem p6in_calls (s : ByteArray) (w : World) (hs : s.size ≤ 100000) (hm : MaxL w) : Calls Tryd.prog 12 #[.string s] w fun e w' => P6Post s.data.toList w e w' := by
  have HLN := hid (bytes_num s)
  have HS := hid hs
  have HG0 := hid (zero8_world w)
  have HB0 := hid ((Below.refl w.heap.size w).alloc (Nat.le_refl _) (.cells #[.int .u16 0, .int .u16 0, .int .u16 0, .int .u16 0, .int .u16 0, .int .u16 0, .int .u16 0, .int .u16 0] 28))
  have HM0 := hid (hm.below HB0.out)
  by_cases h4000 : 4000 < s.size
  · have HX : Hid (parse6R s.data.toList = (z8, 11)) := by show _ = _; unfold parse6R; exact if_pos (by rw [HLN.out]; exact h4000)
    have s1 : (4000 : Int) < (s.size : Int) := by omega
    clear h4000 hs hm
    go_enter Tryd.func12, Tryd.ntmps12
    go_wp2_with fail
    go_returns
    exact P6Post.mk HX.out HB0.out
  · have s1 : ¬ (4000 : Int) < (s.size : Int) := by omega
    have HPS := hid (parse6_six (l := s.data.toList) (by rw [HLN.out]; exact h4000))
    clear h4000 hs hm
    go_enter Tryd.func12, Tryd.ntmps12
    go_wp2_with fail
    refine (psix_calls s _ HS.out HM0.out).mono ?_
    rintro e w3 ⟨ns, b, hl, rfl, hb3, hsix⟩
    obtain ⟨x0, x1, x2, x3, x4, x5, x6, x7, rfl⟩ := eight hl
    have e8 : aggL [x0, x1, x2, x3, x4, x5, x6, x7] = .agg #[.int .u16 (x0 : Int), .int .u16 (x1 : Int), .int .u16 (x2 : Int), .int .u16 (x3 : Int), .int .u16 (x4 : Int), .int .u16 (x5 : Int), .int .u16 (x6 : Int), .int .u16 (x7 : Int)] := rfl
    rw [e8]
    have HB4 := hid (below_trans HB0.out (hb3.alloc hb3.size (.cells #[.int .u16 (x0 : Int), .int .u16 (x1 : Int), .int .u16 (x2 : Int), .int .u16 (x3 : Int), .int .u16 (x4 : Int), .int .u16 (x5 : Int), .int .u16 (x6 : Int), .int .u16 (x7 : Int)] 28)))
    have HG4 := hid (HG0.out.below (hb3.alloc hb3.size (.cells #[.int .u16 (x0 : Int), .int .u16 (x1 : Int), .int .u16 (x2 : Int), .int .u16 (x3 : Int), .int .u16 (x4 : Int), .int .u16 (x5 : Int), .int .u16 (x6 : Int), .int .u16 (x7 : Int)] 28)))
    have HNew : Hid (Blk (w3.alloc (.cells #[.int .u16 (x0 : Int), .int .u16 (x1 : Int), .int .u16 (x2 : Int), .int .u16 (x3 : Int), .int .u16 (x4 : Int), .int .u16 (x5 : Int), .int .u16 (x6 : Int), .int .u16 (x7 : Int)] 28)) w3.heap.size [x0, x1, x2, x3, x4, x5, x6, x7]) := heap_alloc_new w3 _
    clear e8 hl hb3 HG0 HB0 HM0
    cases b with
    | false =>
      have HX : Hid (parse6R s.data.toList = (z8, 4)) := HPS.out.trans hsix
      clear hsix
      go_upto_region 4 with fail
      generalize w3.alloc (.cells #[.int .u16 (x0 : Int), .int .u16 (x1 : Int), .int .u16 (x2 : Int), .int .u16 (x3 : Int), .int .u16 (x4 : Int), .int .u16 (x5 : Int), .int .u16 (x6 : Int), .int .u16 (x7 : Int)] 28) = w4 at *
      generalize w3.heap.size = P at *
      obtain ⟨G, hG⟩ : ∃ G, w.heap.size = G := ⟨_, rfl⟩
      have HGl : Hid (w.heap.size ≤ G) := Nat.le_of_eq hG
      have hGp : (Value.pointer (some ⟨w.heap.size, 0, none⟩)) = Value.pointer (some ⟨G, 0, none⟩) := by rw [hG]
      rw [hGp]
      rw [hG] at HG4
      clear hG hGp
      obtain ⟨⟨c0, c1, c2, c3, c4, c5, c6, c7⟩, ⟨f0, f1, f2, f3, f4, f5, f6, f7⟩⟩ := eight8 HG4.out
      have HFill := hid (fill8 HG4.out HB4.out HGl.out HB4.out.size 0 0 0 0 0 0 0 0)
      obtain ⟨⟨m0, m1, m2, m3, m4, m5, m6, m7⟩, -⟩ := eight8 HNew.out
      go_wp2_with fail
      generalize ((((((((w4.setCell ⟨G, 0, none⟩ (.int .u16 0)).setCell ⟨G, 1, none⟩ (.int .u16 0)).setCell ⟨G, 2, none⟩ (.int .u16 0)).setCell ⟨G, 3, none⟩ (.int .u16 0)).setCell ⟨G, 4, none⟩ (.int .u16 0)).setCell ⟨G, 5, none⟩ (.int .u16 0)).setCell ⟨G, 6, none⟩ (.int .u16 0)).setCell ⟨G, 7, none⟩ (.int .u16 0)) = W9 at *
      obtain ⟨⟨g0, g1, g2, g3, g4, g5, g6, g7⟩, -⟩ := eight8 HFill.out.1
      have HBL := hid HFill.out.2
      clear HFill c0 c1 c2 c3 c4 c5 c6 c7 f0 f1 f2 f3 f4 f5 f6 f7
      refine bodyPost_ret (by simp [results, Tryd.results12, go_sem, g0, g1, g2, g3, g4, g5, g6, g7]; try rfl) rfl ?_
      exact P6Post.mk HX.out HBL.out
    | true =>
      have HX : Hid (parse6R s.data.toList = ([x0, x1, x2, x3, x4, x5, x6, x7], 0)) := HPS.out.trans hsix
      clear hsix
      go_upto_region 4 with fail
      generalize w3.alloc (.cells #[.int .u16 (x0 : Int), .int .u16 (x1 : Int), .int .u16 (x2 : Int), .int .u16 (x3 : Int), .int .u16 (x4 : Int), .int .u16 (x5 : Int), .int .u16 (x6 : Int), .int .u16 (x7 : Int)] 28) = w4 at *
      generalize w3.heap.size = P at *
      obtain ⟨G, hG⟩ : ∃ G, w.heap.size = G := ⟨_, rfl⟩
      have HGl : Hid (w.heap.size ≤ G) := Nat.le_of_eq hG
      have hGp : (Value.pointer (some ⟨w.heap.size, 0, none⟩)) = Value.pointer (some ⟨G, 0, none⟩) := by rw [hG]
      rw [hGp]
      rw [hG] at HG4
      clear hG hGp
      obtain ⟨⟨c0, c1, c2, c3, c4, c5, c6, c7⟩, ⟨f0, f1, f2, f3, f4, f5, f6, f7⟩⟩ := eight8 HG4.out
      have HFill := hid (fill8 HG4.out HB4.out HGl.out HB4.out.size x0 x1 x2 x3 x4 x5 x6 x7)
      obtain ⟨⟨m0, m1, m2, m3, m4, m5, m6, m7⟩, -⟩ := eight8 HNew.out
      go_wp2_with fail
      generalize ((((((((w4.setCell ⟨G, 0, none⟩ (.int .u16 (x0 : Int))).setCell ⟨G, 1, none⟩ (.int .u16 (x1 : Int))).setCell ⟨G, 2, none⟩ (.int .u16 (x2 : Int))).setCell ⟨G, 3, none⟩ (.int .u16 (x3 : Int))).setCell ⟨G, 4, none⟩ (.int .u16 (x4 : Int))).setCell ⟨G, 5, none⟩ (.int .u16 (x5 : Int))).setCell ⟨G, 6, none⟩ (.int .u16 (x6 : Int))).setCell ⟨G, 7, none⟩ (.int .u16 (x7 : Int))) = W9 at *
      obtain ⟨⟨g0, g1, g2, g3, g4, g5, g6, g7⟩, -⟩ := eight8 HFill.out.1
      have HBL := hid HFill.out.2
      clear HFill c0 c1 c2 c3 c4 c5 c6 c7 f0 f1 f2 f3 f4 f5 f6 f7
      refine bodyPost_ret (by simp [results, Tryd.results12, go_sem, g0, g1, g2, g3, g4, g5, g6, g7]; try rfl) rfl ?_
      exact P6Post.mk HX.out HBL.out
end Go.Proofs.YtghhdccnocpobaaDoor
