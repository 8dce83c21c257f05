/- The program's Print6. -/
import Derived.Test.YtghhdccnocpobaaDoorIpWk
import Derived.Deep.RegionHeld3
namespace Go.Proofs.YtghhdccnocpobaaDoor
open Go.RowKit
set_option linter.unusedVariables false
set_option maxRecDepth 20000
set_option linter.unusedSimpArgs false
theorem Bk.row {α : Type} {f : α → Value} {t : TypeId} {w : World} {g : Nat} {xs : List α} (h : Bk f t w g xs) (k m cap : Nat) (hk : k + m ≤ xs.length) (hc : m ≤ cap) (hcap : cap ≤ 1000) : Row f w (.slice (some ⟨g, k, none⟩) m cap) ((xs.drop k).take m) := by
  have hl : ((xs.drop k).take m).length = m := by rw [List.length_take, List.length_drop]; omega
  refine ⟨some ⟨g, k, none⟩, cap, by rw [hl], by rw [hl]; exact hc, by unfold maxLen; omega, fun _ => ⟨g, k, rfl, h.lt, fun i hi => ?_⟩⟩
  have := (h.cell (k + i) (by omega)).1
  rw [this, List.getElem_take, List.getElem_drop]
theorem Row.none {α : Type} (f : α → Value) (w : World) (a : Option Addr) : Row f w (.slice a 0 0) [] := ⟨a, 0, rfl, Nat.le_refl _, Nat.zero_le _, fun h => absurd rfl h⟩
theorem len_28 : Tryd.prog.arrayLen 28 = 8 := by kernel_rfl
theorem elem_28 : Tryd.prog.elem 28 = 27 := by kernel_rfl
theorem slice_h (G A : Nat) (h : A ≤ 8) (W : World) : (Instr.sliceAt 28 (.pointer (some ⟨G, 0, none⟩)) none (some (.int .i64 (A : Int))) none).run Tryd.prog W = .ok (.slice (some ⟨G, 0, none⟩) A 8) W := by
  rw [run_sliceAt_array_h W 28 ⟨G, 0, none⟩ (by kernel_rfl) .i64 (A : Int) (by omega) (by rw [len_28]; omega), len_28, elem_28, Tryd.sizeOf27]
  simp [slicedAt, Result.andThen, Addr.add]
/-- p[T:], as a value. -/
def tailV (G T : Nat) : Value := .slice (some (if 8 = T then ⟨G, 0, none⟩ else ⟨G, T, none⟩)) (8 - T) (8 - T)
theorem slice_l (G T : Nat) (h : T ≤ 8) (W : World) : (Instr.sliceAt 28 (.pointer (some ⟨G, 0, none⟩)) (some (.int .i64 (T : Int))) none none).run Tryd.prog W = .ok (tailV G T) W := by
  rw [run_sliceAt_array_l W 28 ⟨G, 0, none⟩ (by kernel_rfl) .i64 (T : Int) (by omega) (by rw [len_28]; omega), len_28, elem_28, Tryd.sizeOf27]
  unfold tailV
  simp only [slicedAt, Result.andThen, Int.toNat_natCast, Nat.mul_one, addr_add, Nat.zero_add]
theorem tail_row {w : World} {G T : Nat} {xs : List Nat} (h : Bk f16 28 w G xs) (hl : xs.length = 8) (hT : T ≤ 8) : Row f16 w (tailV G T) (xs.drop T) := by
  unfold tailV
  by_cases h8 : 8 = T
  · rw [if_pos h8, ← h8, List.drop_of_length_le (by omega)]
    exact Row.none _ _ _
  · rw [if_neg h8]
    have := h.row T (8 - T) (8 - T) (by omega) (Nat.le_refl _) (by omega)
    rw [List.take_of_length_le (by rw [List.length_drop]; omega)] at this
    exact this
set_option maxHeartbeats 8000000 in
theorem ipr6_calls (p0 p1 p2 p3 p4 p5 p6 p7 : Nat) (w : World) (hx : ∀ x ∈ [p0, p1, p2, p3, p4, p5, p6, p7], x < 65536) (ht : Tab w) :
    Calls Tryd.prog 18 #[agg8 p0 p1 p2 p3 p4 p5 p6 p7] w fun e w' => e = .returned (.string (strOf (print6R [p0, p1, p2, p3, p4, p5, p6, p7]))) ∧ Below w.heap.size w w' := by
  have HB := hid ((Below.refl w.heap.size w).alloc (Nat.le_refl _) (.cells #[.int .u16 (p0 : Int), .int .u16 (p1 : Int), .int .u16 (p2 : Int), .int .u16 (p3 : Int), .int .u16 (p4 : Int), .int .u16 (p5 : Int), .int .u16 (p6 : Int), .int .u16 (p7 : Int)] 28))
  have HG : Hid (Bk f16 28 (w.alloc (.cells #[.int .u16 (p0 : Int), .int .u16 (p1 : Int), .int .u16 (p2 : Int), .int .u16 (p3 : Int), .int .u16 (p4 : Int), .int .u16 (p5 : Int), .int .u16 (p6 : Int), .int .u16 (p7 : Int)] 28)) w.heap.size [p0, p1, p2, p3, p4, p5, p6, p7]) := heap_alloc_new w _
  have HC := hid (fun w => plrun_calls p0 p1 p2 p3 p4 p5 p6 p7 w hx)
  have HF := hid (lrun_fits p0 p1 p2 p3 p4 p5 p6 p7)
  have HX := hid hx
  have HT := hid ht
  have HLen : Hid ([p0, p1, p2, p3, p4, p5, p6, p7].length = 8) := rfl
  clear hx ht
  unfold agg8 at HC ⊢
  generalize [p0, p1, p2, p3, p4, p5, p6, p7] = p at *
  unfold lrunFits at HF
  generalize lrun 0 p 0 0 0 = r at *
  obtain ⟨A, S⟩ := r
  go_enter Tryd.func18, Tryd.ntmps18
  go_wp2_with fail
  refine (HC.out _).mono ?_
  rintro e w1 ⟨rfl, hb⟩
  have HG1 := hid (HG.out.below hb)
  have HB1 := hid (below_trans HB.out hb)
  have HT1 := hid (HT.out.below HB1.out)
  clear hb HG HB HT HC
  obtain ⟨G, hG⟩ : ∃ G, w.heap.size = G := ⟨_, rfl⟩
  rw [hG] at HG1 ⊢
  clear hG
  by_cases h2 : S < 2
  · have HF2 := HF.out
    simp only [if_pos h2, decide_eq_true_eq] at HF2
    have HP : Hid (print6R p = joinC 58 (pcs p)) := by show _ = _; unfold print6R; rw [if_pos HF2]
    have hrow := HG1.out.row 0 8 8 (by rw [HLen.out]; omega) (by omega) (by omega)
    rw [List.drop_zero, List.take_of_length_le (by rw [HLen.out]; omega)] at hrow
    have HC2 := hid (ppieces_calls _ p w1 hrow (by rw [HLen.out]; omega) HX.out HT1.out)
    have s1 : (S : Int) < 2 := by omega
    clear HF2 h2 HF hrow
    go_wp2_with fail
    refine HC2.out.mono ?_
    rintro e w2 ⟨rfl, hb⟩
    have HB2 := hid (HB1.out.trans (hb.mono HB1.out.size))
    clear hb
    go_wp2_with fail
    go_ret
    exact ⟨by rw [HP.out]; rfl, HB2.out⟩
  · have HF2 := HF.out
    simp only [if_neg h2, Bool.and_eq_true, decide_eq_true_eq] at HF2
    obtain ⟨hbest, hle⟩ := HF2
    obtain ⟨T, hT⟩ : ∃ T, A + S = T := ⟨_, rfl⟩
    have HP : Hid (strOf (joinC 58 (pcs (p.take A))) ++ strOf [58, 58] ++ strOf (joinC 58 (pcs (p.drop T))) = strOf (print6R p)) := by
      show _ = _
      rw [cat_str, cat_str]
      unfold print6R
      rw [hbest, if_neg (by show ¬ A = 8; omega)]
      show strOf _ = strOf (joinC 58 (pcs (p.take A)) ++ 58 :: 58 :: joinC 58 (pcs (p.drop (A + S))))
      rw [hT]
      simp
    have hs1 := slice_h G A (by omega)
    have hs2 := slice_l G T (by omega)
    have hrow1 := HG1.out.row 0 A 8 (by rw [HLen.out]; omega) (by omega) (by omega)
    rw [List.drop_zero] at hrow1
    have HR1 := hid hrow1
    have HR2 := hid (tail_row HG1.out HLen.out (T := T) (by omega))
    have HC1 := hid (fun W h t => ppieces_calls (.slice (some ⟨G, 0, none⟩) A 8) (p.take A) W h (by rw [List.length_take]; omega) (fun x hx => HX.out x (List.mem_of_mem_take hx)) t)
    have HC2 := hid (fun W h t => ppieces_calls (tailV G T) (p.drop T) W h (by rw [List.length_drop, HLen.out]; omega) (fun x hx => HX.out x (List.mem_of_mem_drop hx)) t)
    have j1 := join_len (p.take A) (fun x hx => HX.out x (List.mem_of_mem_take hx))
    have j2 := join_len (p.drop T) (fun x hx => HX.out x (List.mem_of_mem_drop hx))
    rw [List.length_take] at j1
    rw [List.length_drop, HLen.out] at j2
    have z1 : ((strOf (joinC 58 (pcs (p.take A)))).size : Int) ≤ 40 := by rw [str_size]; omega
    have z2 : ((strOf (joinC 58 (pcs (p.drop T)))).size : Int) ≤ 40 := by rw [str_size]; omega
    have z3 : (⟨#[58, 58]⟩ : ByteArray).size = 2 := rfl
    have s1 : ¬ (S : Int) < 2 := by omega
    have a0 : (0 : Int) ≤ (A : Int) := by omega
    have a8 : (A : Int) ≤ 8 := by omega
    have t0 : (0 : Int) ≤ (T : Int) := by omega
    have t8 : (T : Int) ≤ 8 := by omega
    have hTT : (A : Int) + (S : Int) = (T : Int) := by omega
    have hTw : IntKind.wrap .i64 (T : Int) = (T : Int) := by rw [IntKind.wrap_i64]; omega
    clear j1 j2 hrow1 h2 hbest hle hT HF
    generalize strOf (joinC 58 (pcs (p.take A))) = Q1 at *
    generalize strOf (joinC 58 (pcs (p.drop T))) = Q2 at *
    generalize tailV G T = V2 at *
    have y1 : ¬ 9223372036854775807 < Q1.size + 2 := by omega
    have y2 : ¬ 9223372036854775807 < Q1.size + 2 + Q2.size := by omega
    have y3 : Q1.size + 2 ≤ 9223372036854775807 := by omega
    have y4 : Q1.size + 2 + Q2.size ≤ 9223372036854775807 := by omega
    go_wp2_with fail
    go_region_held3 (fun w' => True) (trivial) (first
      | (go_at_call 37; (with_reducible refine Calls.mono (HC1.out _ ?hr1 ?ht1) ?_); (case hr1 => (first | exact HR1.out | (refine Row.below ?_ hq2; exact HR1.out))); (case ht1 => (first | exact HT1.out | (refine Tab.below ?_ hq2; exact HT1.out))); rintro e wa ⟨rfl, hq1⟩)
      | (go_at_call 37; (with_reducible refine Calls.mono (HC2.out _ ?hr2 ?ht2) ?_); (case hr2 => (first | exact HR2.out | (refine Row.below ?_ hq1; exact HR2.out))); (case ht2 => (first | exact HT1.out | (refine Tab.below ?_ hq1; exact HT1.out))); rintro e wb ⟨rfl, hq2⟩))
    all_goals
      go_wp2_with fail
      go_ret
      refine ⟨by rw [← HP.out]; rfl, ?_⟩
      first
        | exact (HB1.out.drew.trans (hq1.mono HB1.out.size)).trans (hq2.mono (Nat.le_trans HB1.out.size hq1.size))
        | exact (HB1.out.drew.trans (hq2.mono HB1.out.size)).trans (hq1.mono (Nat.le_trans HB1.out.size hq2.size))
end Go.Proofs.YtghhdccnocpobaaDoor
