/- The walk of the statement 'machines as keys'. -/
import Derived.Test.YtghhdccnocpobaaDoorIpN
import Derived.Test.YtghhdccnocpobaaDoorIpMap
import Derived.Carry
import Derived.Deep.DeepCutAuto
import Derived.Deep.RegionHeld3
import Derived.Deep.DrawnRows
namespace Go.Proofs.YtghhdccnocpobaaDoor
open Go.RowKit
set_option linter.unusedVariables false
set_option maxRecDepth 20000
set_option linter.unusedSimpArgs false
attribute [local go_sem ↓] Go.wp_at_zero Go.wp_at_succ
def KeyAt (n : Nat) (w : World) (G D : Nat) (P Q : List Nat) (K : Value) (S : ByteArray) (m : Value) (wx : World) : Prop := ∃ R, m = .map (some R) ∧ wx.heap[R]? = some (.map #[⟨K, .string S, 0⟩] 1) ∧ Blk wx G P ∧ Blk wx D Q ∧ Below n w wx
theorem put_at {w : World} {r : Nat} {o' : Obj} (h : w.heap[r]? = some o') (o : Obj) : (putObj w r o).heap[r]? = some o := by
  have hl : r < w.heap.size := (Array.getElem?_eq_some_iff.1 h).1
  unfold putObj
  simp [hl]
theorem put_other {w : World} {r k : Nat} (h : k ≠ r) (o : Obj) : (putObj w r o).heap[k]? = w.heap[k]? := by
  unfold putObj
  simp only [Array.getElem?_setIfInBounds]
  rw [if_neg (fun e => h e.symm)]
theorem below_put {n r : Nat} {w w2 : World} (h : Below n w w2) (hr : n ≤ r) (o : Obj) : Below n w (putObj w2 r o) :=
  ⟨h.os, h.tape, h.output, by unfold putObj; simpa using h.size, fun k hk => (put_other (by omega) o).trans (h.block k hk)⟩
theorem blk_put {w : World} {r g : Nat} {xs : List Nat} (h : Blk w g xs) (hr : g ≠ r) (o : Obj) : Blk (putObj w r o) g xs := (put_other hr o).trans h
theorem map_kept {w w2 : World} (hb : Below (w.alloc (.map #[] 0)).drew.heap.size (w.alloc (.map #[] 0)).drew w2) : w2.heap[w.heap.size]? = some (.map #[] 0) :=
  (hb.block w.heap.size (by show w.heap.size < (w.alloc (.map #[] 0)).heap.size; simp)).trans (heap_alloc_new w _)
theorem blk_after {w w2 : World} {g : Nat} {xs : List Nat} (h : Blk w g xs) {o : Obj} (hb : Below (w.alloc o).drew.heap.size (w.alloc o).drew w2) : Blk w2 g xs :=
  Blk.below (w := (w.alloc o).drew) (Blk.below h (balloc w o).drew) hb
theorem key_one {n G D : Nat} {w w1 w2 : World} {P Q : List Nat} {K : Value} {S : ByteArray} (HB : Below n w w1) (hn : n ≤ w1.heap.size) (HK : Blk w1 G P) (HL : Blk w1 D Q)
    (hb : Below (w1.alloc (.map #[] 0)).drew.heap.size (w1.alloc (.map #[] 0)).drew w2) : KeyAt n w G D P Q K S (.map (some w1.heap.size)) (putObj w2 w1.heap.size (.map #[⟨K, .string S, 0⟩] 1)) :=
  ⟨_, rfl, put_at (map_kept hb) _, blk_put (blk_after HK hb) (Nat.ne_of_lt HK.lt) _, blk_put (blk_after HL hb) (Nat.ne_of_lt HL.lt) _,
    below_put (((HB.alloc hn _).drew).trans (hb.mono (by show n ≤ (w1.alloc (.map #[] 0)).heap.size; simp; omega))) hn _⟩
theorem key_two {n G D : Nat} {w w1 w2 : World} {P Q : List Nat} {K : Value} {S : ByteArray} (HB : Below n w w1) (hn : n ≤ w1.heap.size) (HK : Blk w1 G P) (HL : Blk w1 D Q)
    (hb : Below w1.drew.heap.size w1.drew w2) : KeyAt n w G D P Q K S (.map (some w2.heap.size)) (putObj (w2.alloc (.map #[] 0)) w2.heap.size (.map #[⟨K, .string S, 0⟩] 1)) := by
  have h1 : Blk w2 G P := Blk.below (w := w1.drew) HK hb
  have h2 : Blk w2 D Q := Blk.below (w := w1.drew) HL hb
  have h3 : Below n w w2 := HB.drew.trans (hb.mono hn)
  have h4 : n ≤ w2.heap.size := Nat.le_trans hn hb.size
  exact ⟨_, rfl, put_at (heap_alloc_new w2 _) _, blk_put (h1.below (balloc _ _)) (Nat.ne_of_lt h1.lt) _, blk_put (h2.below (balloc _ _)) (Nat.ne_of_lt h2.lt) _, below_put (h3.alloc h4 _) h4 _⟩
set_option maxHeartbeats 8000000 in
theorem ipKeys_walk (p0 p1 p2 p3 p4 p5 p6 p7 q0 q1 q2 q3 q4 q5 q6 q7 : Nat) (w : World) (T0 : Tab w) (hx : ∀ x ∈ [p0, p1, p2, p3, p4, p5, p6, p7], x < 65536) (hy : ∀ x ∈ [q0, q1, q2, q3, q4, q5, q6, q7], x < 65536) :
    Calls Tryd.prog 7 #[agg8 p0 p1 p2 p3 p4 p5 p6 p7, agg8 q0 q1 q2 q3 q4 q5 q6 q7] w fun e w' => e = .returned (.bool true) ∧ Below w.heap.size w w' := by
  have TT := hid T0
  clear T0
  have A3 := hid (fun w => ipr6_calls p0 p1 p2 p3 p4 p5 p6 p7 w hx)
  have A4 := hid (fun w => ipr6_calls q0 q1 q2 q3 q4 q5 q6 q7 w hy)
  have hmm := @run_makeMap Tryd.prog
  have HK0 := hid (blk_new w [p0, p1, p2, p3, p4, p5, p6, p7])
  have HB0 := hid (balloc w (.cells ([p0, p1, p2, p3, p4, p5, p6, p7].map f16).toArray 28))
  have HL0 := hid (blk_new (w.alloc (.cells ([p0, p1, p2, p3, p4, p5, p6, p7].map f16).toArray 28)) [q0, q1, q2, q3, q4, q5, q6, q7])
  have HK1 := hid (HK0.out.below (balloc _ (.cells ([q0, q1, q2, q3, q4, q5, q6, q7].map f16).toArray 28)))
  have HB1 := hid (HB0.out.trans ((balloc _ (.cells ([q0, q1, q2, q3, q4, q5, q6, q7].map f16).toArray 28)).mono (by simp)))
  clear HK0 HB0
  simp only [f16, List.map_cons, List.map_nil] at HK1 HB1 HL0
  unfold agg8 at A3 A4 ⊢
  have HX := hid hx
  have HY := hid hy
  clear hx hy
  go_enter Tryd.func7, Tryd.ntmps7
  go_wp2_with fail
  refine (ipfirst_calls _ (TT.out.below (by first | exact btw (by assumption) | exact btw_al (by assumption) _ | exact btw_dr (by assumption) | exact btw_ad (by assumption) _ | exact Below.refl _ _ | exact (Below.refl _ _).alloc (Nat.le_refl _) _))).mono ?_
  rintro e w1 ⟨rfl, hb⟩
  have HB2 := hid (HB1.out.trans (hb.mono (by simp <;> omega)))
  have HK2 := hid (HK1.out.below hb)
  have HL2 := hid (HL0.out.below hb)
  clear hb HB1 HK1 HL0
  simp only [World.size_alloc] at HL2
  obtain ⟨S, hS⟩ : ∃ S, strOf (print6R [p0, p1, p2, p3, p4, p5, p6, p7]) = S := ⟨_, rfl⟩
  obtain ⟨T, hT⟩ : ∃ S, strOf (print6R [q0, q1, q2, q3, q4, q5, q6, q7]) = S := ⟨_, rfl⟩
  rw [hS] at A3
  rw [hT] at A4
  have HS := hid hS
  have HT := hid hT
  clear hS hT
  go_upto_region 3 with fail
  obtain ⟨G, hG⟩ : ∃ G, w.heap.size = G := ⟨_, rfl⟩
  rw [hG] at HK2 HL2 ⊢
  obtain ⟨D, hD⟩ : ∃ D, G + 1 = D := ⟨_, rfl⟩
  rw [hD] at HL2 ⊢
  have HG := hid hG
  have HD := hid hD
  clear hG hD
  have hk1 := blk8 HK2.out
  go_cut [5] (fun m wx => KeyAt w.heap.size w G D [p0, p1, p2, p3, p4, p5, p6, p7] [q0, q1, q2, q3, q4, q5, q6, q7] (.agg #[.int .u16 (p0 : Int), .int .u16 (p1 : Int), .int .u16 (p2 : Int), .int .u16 (p3 : Int), .int .u16 (p4 : Int), .int .u16 (p5 : Int), .int .u16 (p6 : Int), .int .u16 (p7 : Int)]) S m wx)
  case first =>
    go_region_held3 (fun w' => w'.cell? ⟨G, 0, none⟩ = some (.int .u16 (p0 : Int)) ∧ w'.cell? ⟨G, 1, none⟩ = some (.int .u16 (p1 : Int)) ∧ w'.cell? ⟨G, 2, none⟩ = some (.int .u16 (p2 : Int)) ∧ w'.cell? ⟨G, 3, none⟩ = some (.int .u16 (p3 : Int)) ∧ w'.cell? ⟨G, 4, none⟩ = some (.int .u16 (p4 : Int)) ∧ w'.cell? ⟨G, 5, none⟩ = some (.int .u16 (p5 : Int)) ∧ w'.cell? ⟨G, 6, none⟩ = some (.int .u16 (p6 : Int)) ∧ w'.cell? ⟨G, 7, none⟩ = some (.int .u16 (p7 : Int))) (first | assumption | exact hk1 | go_keep) ((go_at_call 18; refine (A3.out _ (TT.out.below (by first | exact btw (by assumption) | exact btw_al (by assumption) _ | exact btw_dr (by assumption) | exact btw_ad (by assumption) _ | exact Below.refl _ _ | exact (Below.refl _ _).alloc (Nat.le_refl _) _))).mono ?_; rintro e w2 ⟨rfl, hb2⟩; first
      | (have hmp := map_kept hb2; have hput := put_new hmp (p0 : Int) p1 p2 p3 p4 p5 p6 p7 (.string S); have hk2 := blk8 (blk_after HK2.out hb2); have hk3 := blk8 (blk_put (blk_after HK2.out hb2) (Nat.ne_of_lt HK2.out.lt) (.map #[⟨(.agg #[.int .u16 (p0 : Int), .int .u16 (p1 : Int), .int .u16 (p2 : Int), .int .u16 (p3 : Int), .int .u16 (p4 : Int), .int .u16 (p5 : Int), .int .u16 (p6 : Int), .int .u16 (p7 : Int)]), .string S, 0⟩] 1)); have HC := hid (key_one (K := (.agg #[.int .u16 (p0 : Int), .int .u16 (p1 : Int), .int .u16 (p2 : Int), .int .u16 (p3 : Int), .int .u16 (p4 : Int), .int .u16 (p5 : Int), .int .u16 (p6 : Int), .int .u16 (p7 : Int)])) (S := S) HB2.out HB2.out.size HK2.out HL2.out hb2))
      | (have hmp := heap_alloc_new w2 (.map #[] 0); have hput := put_new hmp (p0 : Int) p1 p2 p3 p4 p5 p6 p7 (.string S); have hk2 := blk8 (Blk.below (w := w1.drew) HK2.out hb2); have hk3 := blk8 (blk_put (Blk.below (Blk.below (w := w1.drew) HK2.out hb2) (balloc _ (.map #[] 0))) (Nat.ne_of_lt (Blk.below (w := w1.drew) HK2.out hb2).lt) (.map #[⟨(.agg #[.int .u16 (p0 : Int), .int .u16 (p1 : Int), .int .u16 (p2 : Int), .int .u16 (p3 : Int), .int .u16 (p4 : Int), .int .u16 (p5 : Int), .int .u16 (p6 : Int), .int .u16 (p7 : Int)]), .string S, 0⟩] 1)); have HC := hid (key_two (K := (.agg #[.int .u16 (p0 : Int), .int .u16 (p1 : Int), .int .u16 (p2 : Int), .int .u16 (p3 : Int), .int .u16 (p4 : Int), .int .u16 (p5 : Int), .int .u16 (p6 : Int), .int .u16 (p7 : Int)])) (S := S) HB2.out HB2.out.size HK2.out HL2.out hb2))))
    all_goals
      go_wp2_with fail
      go_meet
      case rel => exact HC.out
  case rest =>
    obtain ⟨R, rfl, r1, r2, r3, r4⟩ := hcut
    have HKx := hid r2
    have HLx := hid r3
    have HBx := hid r4
    have hk2 := blk8 r2
    have hl2 := blk8 r3
    have hask := ask_one r1 (q0 : Int) q1 q2 q3 q4 q5 q6 q7
    have heq := eq_arr (p0 : Int) p1 p2 p3 p4 p5 p6 p7 q0 q1 q2 q3 q4 q5 q6 q7
    have e1 := same8_iff q0 q1 q2 q3 q4 q5 q6 q7 p0 p1 p2 p3 p4 p5 p6 p7
    have e2 := same8_iff p0 p1 p2 p3 p4 p5 p6 p7 q0 q1 q2 q3 q4 q5 q6 q7
    rw [e1] at hask
    rw [e2] at heq
    clear e1 e2 r1 r2 r3 r4 hk1 hmm HK2 HL2 HB2
    by_cases hpq : [p0, p1, p2, p3, p4, p5, p6, p7] = [q0, q1, q2, q3, q4, q5, q6, q7]
    · have hST : S = T := by rw [← HS.out, ← HT.out, hpq]
      rw [hpq] at hask heq
      simp only [beq_self_eq_true, if_true] at hask heq
      subst hST
      clear hpq
      go_upto_region 5 with fail
      go_region_held3 (fun w' => w'.cell? ⟨G, 0, none⟩ = some (.int .u16 (p0 : Int)) ∧ w'.cell? ⟨G, 1, none⟩ = some (.int .u16 (p1 : Int)) ∧ w'.cell? ⟨G, 2, none⟩ = some (.int .u16 (p2 : Int)) ∧ w'.cell? ⟨G, 3, none⟩ = some (.int .u16 (p3 : Int)) ∧ w'.cell? ⟨G, 4, none⟩ = some (.int .u16 (p4 : Int)) ∧ w'.cell? ⟨G, 5, none⟩ = some (.int .u16 (p5 : Int)) ∧ w'.cell? ⟨G, 6, none⟩ = some (.int .u16 (p6 : Int)) ∧ w'.cell? ⟨G, 7, none⟩ = some (.int .u16 (p7 : Int)) ∧ w'.cell? ⟨D, 0, none⟩ = some (.int .u16 (q0 : Int)) ∧ w'.cell? ⟨D, 1, none⟩ = some (.int .u16 (q1 : Int)) ∧ w'.cell? ⟨D, 2, none⟩ = some (.int .u16 (q2 : Int)) ∧ w'.cell? ⟨D, 3, none⟩ = some (.int .u16 (q3 : Int)) ∧ w'.cell? ⟨D, 4, none⟩ = some (.int .u16 (q4 : Int)) ∧ w'.cell? ⟨D, 5, none⟩ = some (.int .u16 (q5 : Int)) ∧ w'.cell? ⟨D, 6, none⟩ = some (.int .u16 (q6 : Int)) ∧ w'.cell? ⟨D, 7, none⟩ = some (.int .u16 (q7 : Int))) (first | assumption | exact ⟨hk2.1, hk2.2.1, hk2.2.2.1, hk2.2.2.2.1, hk2.2.2.2.2.1, hk2.2.2.2.2.2.1, hk2.2.2.2.2.2.2.1, hk2.2.2.2.2.2.2.2, hl2⟩ | go_keep) (first
        | (go_at_call 9; (with_reducible refine Calls.mono (ipfirst_calls _ ?htf) ?_); (case htf => exact TT.out.below HBx.out.drew); rintro e wn ⟨rfl, hbn⟩; have HKa := hid (Blk.below (w := wc.drew) HKx.out hbn); have HLa := hid (Blk.below (w := wc.drew) HLx.out hbn); have HBa := hid ((HBx.out.drew).trans (hbn.mono HBx.out.size)); have hk3 := blk8 HKa.out; have hl3 := blk8 HLa.out)
        | (go_at_call 18; (with_reducible refine Calls.mono (A3.out _ ?ht3) ?_); (case ht3 => exact TT.out.below HBa.out); rintro e wm ⟨rfl, hbm⟩; replace HKa := hid (HKa.out.below hbm); replace HLa := hid (HLa.out.below hbm); replace HBa := hid (below_trans HBa.out hbm); have hk4 := blk8 HKa.out; have hl4 := blk8 HLa.out)
        | (go_at_call 18; (with_reducible refine Calls.mono (A4.out _ ?ht4) ?_); (case ht4 => exact TT.out.below HBa.out); rintro e wm ⟨rfl, hbm⟩; replace HKa := hid (HKa.out.below hbm); replace HLa := hid (HLa.out.below hbm); replace HBa := hid (below_trans HBa.out hbm); have hk4 := blk8 HKa.out; have hl4 := blk8 HLa.out))
      all_goals
        go_wp2_with fail
        go_ret
        exact ⟨by first | rfl | simp, HBa.out⟩
    · have hST : (S.toList == T.toList) = false := by
        rw [← HS.out, ← HT.out, strOf_list, strOf_list]
        exact beq_false_of_ne (fun e => hpq (print6_inj rfl rfl HX.out HY.out e))
      have hqp : ([q0, q1, q2, q3, q4, q5, q6, q7] == [p0, p1, p2, p3, p4, p5, p6, p7]) = false := beq_false_of_ne (fun e => hpq e.symm)
      have hpq' : ([p0, p1, p2, p3, p4, p5, p6, p7] == [q0, q1, q2, q3, q4, q5, q6, q7]) = false := beq_false_of_ne hpq
      rw [hqp] at hask
      rw [hpq'] at heq
      simp only [Bool.false_eq_true, if_false] at hask
      clear hpq hqp hpq'
      go_upto_region 5 with fail
      -- MANUAL
      refine wp_region_held_drew (S := fun w' => w'.cell? ⟨G, 0, none⟩ = some (.int .u16 (p0 : Int)) ∧ w'.cell? ⟨G, 1, none⟩ = some (.int .u16 (p1 : Int)) ∧ w'.cell? ⟨G, 2, none⟩ = some (.int .u16 (p2 : Int)) ∧ w'.cell? ⟨G, 3, none⟩ = some (.int .u16 (p3 : Int)) ∧ w'.cell? ⟨G, 4, none⟩ = some (.int .u16 (p4 : Int)) ∧ w'.cell? ⟨G, 5, none⟩ = some (.int .u16 (p5 : Int)) ∧ w'.cell? ⟨G, 6, none⟩ = some (.int .u16 (p6 : Int)) ∧ w'.cell? ⟨G, 7, none⟩ = some (.int .u16 (p7 : Int)) ∧ w'.cell? ⟨D, 0, none⟩ = some (.int .u16 (q0 : Int)) ∧ w'.cell? ⟨D, 1, none⟩ = some (.int .u16 (q1 : Int)) ∧ w'.cell? ⟨D, 2, none⟩ = some (.int .u16 (q2 : Int)) ∧ w'.cell? ⟨D, 3, none⟩ = some (.int .u16 (q3 : Int)) ∧ w'.cell? ⟨D, 4, none⟩ = some (.int .u16 (q4 : Int)) ∧ w'.cell? ⟨D, 5, none⟩ = some (.int .u16 (q5 : Int)) ∧ w'.cell? ⟨D, 6, none⟩ = some (.int .u16 (q6 : Int)) ∧ w'.cell? ⟨D, 7, none⟩ = some (.int .u16 (q7 : Int))) (by kernel_rfl) ?_ (fun hHeld => ?_)
      · exact ⟨hk2.1, hk2.2.1, hk2.2.2.1, hk2.2.2.2.1, hk2.2.2.2.2.1, hk2.2.2.2.2.2.1, hk2.2.2.2.2.2.2.1, hk2.2.2.2.2.2.2.2, hl2⟩
      refine wpAnyH_ready (rs := [0]) (by kernel_rfl) (by simp) ?_
      refine' AllReadyH.cons (by simp only [List.getElem?_toArray, List.getElem?_cons_succ, List.getElem?_cons_zero]; rfl) (fun K hK => ?_) AllReadyH.nil
      go_simp
      refine (ipfirst_calls _ (TT.out.below HBx.out.drew)).mono ?_; rintro e wn ⟨rfl, hbn⟩; have HKa := hid (Blk.below (w := wc.drew) HKx.out hbn); have HLa := hid (Blk.below (w := wc.drew) HLx.out hbn); have HBa := hid ((HBx.out.drew).trans (hbn.mono HBx.out.size)); have hka := blk8 HKa.out; have hla := blk8 HLa.out
      go_wp2_with fail
      refine hK.out _ _ ?_ (fun hHeld => ?_)
      · exact ⟨hka.1, hka.2.1, hka.2.2.1, hka.2.2.2.1, hka.2.2.2.2.1, hka.2.2.2.2.2.1, hka.2.2.2.2.2.2.1, hka.2.2.2.2.2.2.2, hla⟩
      clear hK K
      refine' wpAnyH_take (i := 1) (v := ?_) (by simp only [List.getElem?_toArray, List.getElem?_cons_succ, List.getElem?_cons_zero]; rfl) (by kernel_rfl) (by kernel_rfl) (by kernel_rfl) (by intro _ _ _ h; exact h) (Or.inl ⟨by rfl, ?hy1⟩) hHeld ?rest1
      case hy1 => (intro w hSw; (try dsimp only at hSw); go_simp; try with_reducible rfl)
      simp only [Act.put, List.setIfInBounds_toArray, List.set_cons_zero, List.set_cons_succ]
      refine' wpAnyH_take (i := 2) (v := ?_) (by simp only [List.getElem?_toArray, List.getElem?_cons_succ, List.getElem?_cons_zero]; rfl) (by kernel_rfl) (by kernel_rfl) (by kernel_rfl) (by intro _ _ _ h; exact h) (Or.inl ⟨by rfl, ?hy2⟩) hHeld ?rest2
      case hy2 => (intro w hSw; (try dsimp only at hSw); go_simp; try with_reducible rfl)
      simp only [Act.put, List.setIfInBounds_toArray, List.set_cons_zero, List.set_cons_succ]
      refine' wpAnyH_take (i := 4) (v := ?_) (by simp only [List.getElem?_toArray, List.getElem?_cons_succ, List.getElem?_cons_zero]; rfl) (by kernel_rfl) (by kernel_rfl) (by kernel_rfl) (by intro _ _ _ h; exact h) (Or.inl ⟨by rfl, ?hy4⟩) hHeld ?rest4
      case hy4 => (intro w hSw; (try dsimp only at hSw); go_simp; try with_reducible rfl)
      simp only [Act.put, List.setIfInBounds_toArray, List.set_cons_zero, List.set_cons_succ]
      refine' wpAnyH_take (i := 7) (v := ?_) (by simp only [List.getElem?_toArray, List.getElem?_cons_succ, List.getElem?_cons_zero]; rfl) (by kernel_rfl) (by kernel_rfl) (by kernel_rfl) (by intro _ _ _ h; exact h) (Or.inl ⟨by rfl, ?hy7⟩) hHeld ?rest7
      case hy7 => (intro w hSw; (try dsimp only at hSw); go_simp; try with_reducible rfl)
      simp only [Act.put, List.setIfInBounds_toArray, List.set_cons_zero, List.set_cons_succ]
      refine' wpAnyH_take (i := 8) (v := ?_) (by simp only [List.getElem?_toArray, List.getElem?_cons_succ, List.getElem?_cons_zero]; rfl) (by kernel_rfl) (by kernel_rfl) (by kernel_rfl) (by intro _ _ _ h; exact h) (Or.inl ⟨by rfl, ?hy8⟩) hHeld ?rest8
      case hy8 => (intro w hSw; (try dsimp only at hSw); go_simp; try with_reducible rfl)
      simp only [Act.put, List.setIfInBounds_toArray, List.set_cons_zero, List.set_cons_succ]
      refine' wpAnyH_take (i := 9) (v := ?_) (by simp only [List.getElem?_toArray, List.getElem?_cons_succ, List.getElem?_cons_zero]; rfl) (by kernel_rfl) (by kernel_rfl) (by kernel_rfl) (by intro _ _ _ h; exact h) (Or.inl ⟨by rfl, ?hy9⟩) hHeld ?rest9
      case hy9 => (intro w hSw; (try dsimp only at hSw); go_simp; try with_reducible rfl)
      simp only [Act.put, List.setIfInBounds_toArray, List.set_cons_zero, List.set_cons_succ]
      refine wpAnyH_ready (rs := [3]) (by kernel_rfl) (by simp) ?_
      refine' AllReadyH.cons (by simp only [List.getElem?_toArray, List.getElem?_cons_succ, List.getElem?_cons_zero]; rfl) (fun K hK => ?_) AllReadyH.nil
      go_simp
      refine (A3.out _ (TT.out.below HBa.out)).mono ?_; rintro e wm ⟨rfl, hbm⟩; have HKb := hid (HKa.out.below hbm); have HLb := hid (HLa.out.below hbm); have HBb := hid (below_trans HBa.out hbm); have hkb := blk8 HKb.out; have hlb := blk8 HLb.out
      go_wp2_with fail
      refine hK.out _ _ ?_ (fun hHeld => ?_)
      · exact ⟨hkb.1, hkb.2.1, hkb.2.2.1, hkb.2.2.2.1, hkb.2.2.2.2.1, hkb.2.2.2.2.2.1, hkb.2.2.2.2.2.2.1, hkb.2.2.2.2.2.2.2, hlb⟩
      clear hK K
      refine wpAnyH_ready (rs := [5]) (by kernel_rfl) (by simp) ?_
      refine' AllReadyH.cons (by simp only [List.getElem?_toArray, List.getElem?_cons_succ, List.getElem?_cons_zero]; rfl) (fun K hK => ?_) AllReadyH.nil
      go_simp
      refine (A4.out _ (TT.out.below HBb.out)).mono ?_; rintro e wk ⟨rfl, hbm⟩; have HKc := hid (HKb.out.below hbm); have HLc := hid (HLb.out.below hbm); have HBc := hid (below_trans HBb.out hbm); have hkc := blk8 HKc.out; have hlc := blk8 HLc.out
      go_wp2_with fail
      refine hK.out _ _ ?_ (fun hHeld => ?_)
      · exact ⟨hkc.1, hkc.2.1, hkc.2.2.1, hkc.2.2.2.1, hkc.2.2.2.2.1, hkc.2.2.2.2.2.1, hkc.2.2.2.2.2.2.1, hkc.2.2.2.2.2.2.2, hlc⟩
      clear hK K
      refine' wpAnyH_take (i := 6) (v := ?_) (by simp only [List.getElem?_toArray, List.getElem?_cons_succ, List.getElem?_cons_zero]; rfl) (by kernel_rfl) (by kernel_rfl) (by kernel_rfl) (by intro _ _ _ h; exact h) (Or.inl ⟨by rfl, ?hy6⟩) hHeld ?rest6
      case hy6 => (intro w hSw; (try dsimp only at hSw); go_simp; try with_reducible rfl)
      simp only [Act.put, List.setIfInBounds_toArray, List.set_cons_zero, List.set_cons_succ]
      refine' wpAnyH_take (i := 10) (v := ?_) (by simp only [List.getElem?_toArray, List.getElem?_cons_succ, List.getElem?_cons_zero]; rfl) (by kernel_rfl) (by kernel_rfl) (by kernel_rfl) (by intro _ _ _ h; exact h) (Or.inl ⟨by rfl, ?hy10⟩) hHeld ?rest10
      case hy10 => (intro w hSw; (try dsimp only at hSw); go_simp; try with_reducible rfl)
      simp only [Act.put, List.setIfInBounds_toArray, List.set_cons_zero, List.set_cons_succ]
      refine' wpAnyH_take (i := 11) (v := ?_) (by simp only [List.getElem?_toArray, List.getElem?_cons_succ, List.getElem?_cons_zero]; rfl) (by kernel_rfl) (by kernel_rfl) (by kernel_rfl) (by intro _ _ _ h; exact h) (Or.inl ⟨by rfl, ?hy11⟩) hHeld ?rest11
      case hy11 => (intro w hSw; (try dsimp only at hSw); go_simp; try with_reducible rfl)
      simp only [Act.put, List.setIfInBounds_toArray, List.set_cons_zero, List.set_cons_succ]
      refine' wpAnyH_take (i := 12) (v := ?_) (by simp only [List.getElem?_toArray, List.getElem?_cons_succ, List.getElem?_cons_zero]; rfl) (by kernel_rfl) (by kernel_rfl) (by kernel_rfl) (by intro _ _ _ h; exact h) (Or.inl ⟨by rfl, ?hy12⟩) hHeld ?rest12
      case hy12 => (intro w hSw; (try dsimp only at hSw); go_simp; try with_reducible rfl)
      simp only [Act.put, List.setIfInBounds_toArray, List.set_cons_zero, List.set_cons_succ]
      refine' wpAnyH_take (i := 13) (v := ?_) (by simp only [List.getElem?_toArray, List.getElem?_cons_succ, List.getElem?_cons_zero]; rfl) (by kernel_rfl) (by kernel_rfl) (by kernel_rfl) (by intro _ _ _ h; exact h) (Or.inl ⟨by rfl, ?hy13⟩) hHeld ?rest13
      case hy13 => (intro w hSw; (try dsimp only at hSw); go_simp; try with_reducible rfl)
      simp only [Act.put, List.setIfInBounds_toArray, List.set_cons_zero, List.set_cons_succ]
      refine' wpAnyH_take (i := 14) (v := ?_) (by simp only [List.getElem?_toArray, List.getElem?_cons_succ, List.getElem?_cons_zero]; rfl) (by kernel_rfl) (by kernel_rfl) (by kernel_rfl) (by intro _ _ _ h; exact h) (Or.inl ⟨by rfl, ?hy14⟩) hHeld ?rest14
      case hy14 => (intro w hSw; (try dsimp only at hSw); go_simp; try with_reducible rfl)
      simp only [Act.put, List.setIfInBounds_toArray, List.set_cons_zero, List.set_cons_succ]
      refine' wpAnyH_take (i := 15) (v := ?_) (by simp only [List.getElem?_toArray, List.getElem?_cons_succ, List.getElem?_cons_zero]; rfl) (by kernel_rfl) (by kernel_rfl) (by kernel_rfl) (by intro _ _ _ h; exact h) (Or.inl ⟨by rfl, ?hy15⟩) hHeld ?rest15
      case hy15 => (intro w hSw; (try dsimp only at hSw); go_simp; try with_reducible rfl)
      simp only [Act.put, List.setIfInBounds_toArray, List.set_cons_zero, List.set_cons_succ]
      refine' wpAnyH_take (i := 16) (v := ?_) (by simp only [List.getElem?_toArray, List.getElem?_cons_succ, List.getElem?_cons_zero]; rfl) (by kernel_rfl) (by kernel_rfl) (by kernel_rfl) (by intro _ _ _ h; exact h) (Or.inl ⟨by rfl, ?hy16⟩) hHeld ?rest16
      case hy16 => (intro w hSw; (try dsimp only at hSw); go_simp; try with_reducible rfl)
      simp only [Act.put, List.setIfInBounds_toArray, List.set_cons_zero, List.set_cons_succ]
      refine' wpAnyH_take (i := 17) (v := ?_) (by simp only [List.getElem?_toArray, List.getElem?_cons_succ, List.getElem?_cons_zero]; rfl) (by kernel_rfl) (by kernel_rfl) (by kernel_rfl) (by intro _ _ _ h; exact h) (Or.inl ⟨by rfl, ?hy17⟩) hHeld ?rest17
      case hy17 => (intro w hSw; (try dsimp only at hSw); go_simp; try with_reducible rfl)
      simp only [Act.put, List.setIfInBounds_toArray, List.set_cons_zero, List.set_cons_succ]
      refine' wpAnyH_take (i := 18) (v := ?_) (by simp only [List.getElem?_toArray, List.getElem?_cons_succ, List.getElem?_cons_zero]; rfl) (by kernel_rfl) (by kernel_rfl) (by kernel_rfl) (by intro _ _ _ h; exact h) (Or.inl ⟨by rfl, ?hy18⟩) hHeld ?rest18
      case hy18 => (intro w hSw; (try dsimp only at hSw); go_simp; try with_reducible rfl)
      simp only [Act.put, List.setIfInBounds_toArray, List.set_cons_zero, List.set_cons_succ]
      refine' wpAnyH_take (i := 19) (v := ?_) (by simp only [List.getElem?_toArray, List.getElem?_cons_succ, List.getElem?_cons_zero]; rfl) (by kernel_rfl) (by kernel_rfl) (by kernel_rfl) (by intro _ _ _ h; exact h) (Or.inl ⟨by rfl, ?hy19⟩) hHeld ?rest19
      case hy19 => (intro w hSw; (try dsimp only at hSw); go_simp; try with_reducible rfl)
      simp only [Act.put, List.setIfInBounds_toArray, List.set_cons_zero, List.set_cons_succ]
      refine' wpAnyH_take (i := 20) (v := ?_) (by simp only [List.getElem?_toArray, List.getElem?_cons_succ, List.getElem?_cons_zero]; rfl) (by kernel_rfl) (by kernel_rfl) (by kernel_rfl) (by intro _ _ _ h; exact h) (Or.inl ⟨by rfl, ?hy20⟩) hHeld ?rest20
      case hy20 => (intro w hSw; (try dsimp only at hSw); go_simp; try with_reducible rfl)
      simp only [Act.put, List.setIfInBounds_toArray, List.set_cons_zero, List.set_cons_succ]
      refine' wpAnyH_take (i := 21) (v := ?_) (by simp only [List.getElem?_toArray, List.getElem?_cons_succ, List.getElem?_cons_zero]; rfl) (by kernel_rfl) (by kernel_rfl) (by kernel_rfl) (by intro _ _ _ h; exact h) (Or.inl ⟨by rfl, ?hy21⟩) hHeld ?rest21
      case hy21 => (intro w hSw; (try dsimp only at hSw); go_simp; try with_reducible rfl)
      simp only [Act.put, List.setIfInBounds_toArray, List.set_cons_zero, List.set_cons_succ]
      refine' wpAnyH_take (i := 22) (v := ?_) (by simp only [List.getElem?_toArray, List.getElem?_cons_succ, List.getElem?_cons_zero]; rfl) (by kernel_rfl) (by kernel_rfl) (by kernel_rfl) (by intro _ _ _ h; exact h) (Or.inl ⟨by rfl, ?hy22⟩) hHeld ?rest22
      case hy22 => (intro w hSw; (try dsimp only at hSw); go_simp; try with_reducible rfl)
      simp only [Act.put, List.setIfInBounds_toArray, List.set_cons_zero, List.set_cons_succ]
      refine' wpAnyH_take (i := 23) (v := undef) (by simp only [List.getElem?_toArray, List.getElem?_cons_succ, List.getElem?_cons_zero]; rfl) (by kernel_rfl) (by kernel_rfl) (by kernel_rfl) (by intro _ _ _ h; exact h) (Or.inr ⟨by rfl, rfl⟩) hHeld ?_
      simp only [Act.put, List.setIfInBounds_toArray, List.set_cons_zero, List.set_cons_succ]
      refine' wpAnyH_take (i := 24) (v := undef) (by simp only [List.getElem?_toArray, List.getElem?_cons_succ, List.getElem?_cons_zero]; rfl) (by kernel_rfl) (by kernel_rfl) (by kernel_rfl) (by intro _ _ _ h; exact h) (Or.inr ⟨by rfl, rfl⟩) hHeld ?_
      simp only [Act.put, List.setIfInBounds_toArray, List.set_cons_zero, List.set_cons_succ]
      refine wpAnyH_ready (rs := [25]) (by kernel_rfl) (by simp) ?_
      refine' AllReadyH.cons (by simp only [List.getElem?_toArray, List.getElem?_cons_succ, List.getElem?_cons_zero]; rfl) (fun K hK => ?_) AllReadyH.nil
      go_simp
      refine hK.out _ _ ?_ (fun hHeld => ?_)
      · exact ⟨hkc.1, hkc.2.1, hkc.2.2.1, hkc.2.2.2.1, hkc.2.2.2.2.1, hkc.2.2.2.2.2.1, hkc.2.2.2.2.2.2.1, hkc.2.2.2.2.2.2.2, hlc⟩
      clear hK K
      refine' wpAnyH_take (i := 26) (v := undef) (by simp only [List.getElem?_toArray, List.getElem?_cons_succ, List.getElem?_cons_zero]; rfl) (by kernel_rfl) (by kernel_rfl) (by kernel_rfl) (by intro _ _ _ h; exact h) (Or.inr ⟨by rfl, rfl⟩) hHeld ?_
      simp only [Act.put, List.setIfInBounds_toArray, List.set_cons_zero, List.set_cons_succ]
      refine' wpAnyH_take (i := 27) (v := ?_) (by simp only [List.getElem?_toArray, List.getElem?_cons_succ, List.getElem?_cons_zero]; rfl) (by kernel_rfl) (by kernel_rfl) (by kernel_rfl) (by intro _ _ _ h; exact h) (Or.inl ⟨by rfl, ?hy27⟩) hHeld ?rest27
      case hy27 => (intro w hSw; (try dsimp only at hSw); go_simp; try with_reducible rfl)
      simp only [Act.put, List.setIfInBounds_toArray, List.set_cons_zero, List.set_cons_succ]
      refine' wpAnyH_take (i := 28) (v := ?_) (by simp only [List.getElem?_toArray, List.getElem?_cons_succ, List.getElem?_cons_zero]; rfl) (by kernel_rfl) (by kernel_rfl) (by kernel_rfl) (by intro _ _ _ h; exact h) (Or.inl ⟨by rfl, ?hy28⟩) hHeld ?rest28
      case hy28 => (intro w hSw; (try dsimp only at hSw); go_simp; try with_reducible rfl)
      simp only [Act.put, List.setIfInBounds_toArray, List.set_cons_zero, List.set_cons_succ]
      refine' wpAnyH_take (i := 29) (v := ?_) (by simp only [List.getElem?_toArray, List.getElem?_cons_succ, List.getElem?_cons_zero]; rfl) (by kernel_rfl) (by kernel_rfl) (by kernel_rfl) (by intro _ _ _ h; exact h) (Or.inl ⟨by rfl, ?hy29⟩) hHeld ?rest29
      case hy29 => (intro w hSw; (try dsimp only at hSw); go_simp; try with_reducible rfl)
      simp only [Act.put, List.setIfInBounds_toArray, List.set_cons_zero, List.set_cons_succ]
      refine wpAnyH_done (by kernel_rfl) ?_ _
      go_wp2_with fail
      go_ret
      exact ⟨by first | rfl | simp, HBc.out⟩

end Go.Proofs.YtghhdccnocpobaaDoor
