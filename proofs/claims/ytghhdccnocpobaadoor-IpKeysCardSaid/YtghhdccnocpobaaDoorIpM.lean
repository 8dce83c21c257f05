/- The document's Print6. -/
import Derived.Test.YtghhdccnocpobaaDoorIpL
namespace Go.Proofs.YtghhdccnocpobaaDoor
open Go.RowKit
set_option linter.unusedVariables false
set_option maxRecDepth 20000
/- What is written when the pieces ahead of k have been. -/
def preR (p : List Nat) (k : Nat) : List UInt8 :=
  if k ≤ (bestR p).1 then joinC 58 (pcs (p.take k))
  else joinC 58 (pcs (p.take (bestR p).1)) ++ 58 :: 58 :: joinC 58 (pcs ((p.drop ((bestR p).1 + (bestR p).2)).take (k - ((bestR p).1 + (bestR p).2))))
theorem pcs_snoc (a : List Nat) (x : Nat) : pcs (a ++ [x]) = pcs a ++ [digsOf 16 x] := by simp [pcs]
theorem join_more {a : List Nat} (h : a ≠ []) (x : Nat) : joinC 58 (pcs (a ++ [x])) = joinC 58 (pcs a) ++ [58] ++ digsOf 16 x := by
  rw [pcs_snoc, joinC_snoc 58 _ _ (by intro e; exact h (by simpa [pcs] using e))]
  simp
theorem pre_start (p : List Nat) : preR p 0 = [] := by unfold preR; rw [if_pos (Nat.zero_le _)]; rfl
theorem best_two {p : List Nat} (hl : p.length = 8) (h : (bestR p).1 < 8) : 2 ≤ (bestR p).2 ∧ (bestR p).1 + (bestR p).2 ≤ 8 := by
  rcases best_at hl with e | e
  · rw [e] at h; exact absurd h (by decide)
  · exact ⟨e.2.2.1, e.1⟩
theorem best_le {p : List Nat} (hl : p.length = 8) : (bestR p).1 ≤ 8 ∧ 1 ≤ (bestR p).2 ∧ (bestR p).2 ≤ 8 := by
  rcases best_at hl with e | e
  · rw [e]; decide
  · omega
theorem pre_cut {p : List Nat} (hl : p.length = 8) (h : (bestR p).1 < 8) : preR p ((bestR p).1 + (bestR p).2) = preR p (bestR p).1 ++ [58, 58] := by
  have hb := best_two hl h
  unfold preR
  rw [if_neg (by omega), if_pos (Nat.le_refl _), Nat.sub_self, List.take_zero]
  rfl
theorem take_more {l : List Nat} {k : Nat} (h : k < l.length) : l.take (k + 1) = l.take k ++ [l[k]] := List.take_succ_eq_append_getElem h
theorem pre_first {p : List Nat} (hl : p.length = 8) (h : 0 < (bestR p).1) : preR p 1 = preR p 0 ++ digsOf 16 (p[0]'(by omega)) := by
  rw [pre_start]
  unfold preR
  rw [if_pos (by omega), take_more (by omega), List.take_zero]
  rfl
theorem pre_mid {p : List Nat} (hl : p.length = 8) {k : Nat} (h0 : 0 < k) (hk : k < (bestR p).1) (h8 : k < 8) : preR p (k + 1) = preR p k ++ [58] ++ digsOf 16 (p[k]'(by omega)) := by
  unfold preR
  rw [if_pos (by omega), if_pos (by omega), take_more (by omega), join_more]
  intro e
  have := congrArg List.length e
  rw [List.length_take, List.length_nil] at this
  omega
theorem pre_back {p : List Nat} (hl : p.length = 8) (ha : (bestR p).1 < 8) {k : Nat} (hk : (bestR p).1 + (bestR p).2 ≤ k) (h8 : k < 8) :
    preR p (k + 1) = preR p k ++ (if k = (bestR p).1 + (bestR p).2 then [] else [58]) ++ digsOf 16 (p[k]'(by omega)) := by
  have hb := best_two hl ha
  unfold preR
  rw [if_neg (by omega), if_neg (by omega), show k + 1 - ((bestR p).1 + (bestR p).2) = (k - ((bestR p).1 + (bestR p).2)) + 1 by omega, take_more (by rw [List.length_drop]; omega), List.getElem_drop]
  have e : p[(bestR p).1 + (bestR p).2 + (k - ((bestR p).1 + (bestR p).2))]'(by omega) = p[k]'(by omega) := by congr 1; omega
  rw [e]
  by_cases h0 : k = (bestR p).1 + (bestR p).2
  · rw [if_pos h0, show k - ((bestR p).1 + (bestR p).2) = 0 by omega, List.take_zero]
    simp [pcs, joinC]
  · rw [if_neg h0, join_more]
    · simp
    · intro e
      have := congrArg List.length e
      rw [List.length_take, List.length_drop, List.length_nil] at this
      omega
theorem pre_end {p : List Nat} (hl : p.length = 8) : preR p 8 = print6R p := by
  unfold preR print6R
  by_cases h : (bestR p).1 = 8
  · rw [if_pos (by omega), if_pos h, List.take_of_length_le (by omega)]
  · have := best_le hl
    rw [if_neg (by omega), if_neg h, List.take_of_length_le (l := p.drop ((bestR p).1 + (bestR p).2)) (by rw [List.length_drop]; omega)]
theorem pre_len {p : List Nat} (hl : p.length = 8) (h : ∀ x ∈ p, x < 65536) (k : Nat) : (preR p k).length ≤ 82 := by
  unfold preR
  split
  · have := pcs_len (p.take k) (fun x hx => h x (List.mem_of_mem_take hx))
    rw [List.length_take] at this
    omega
  · have h1 := pcs_len (p.take (bestR p).1) (fun x hx => h x (List.mem_of_mem_take hx))
    have h2 := pcs_len ((p.drop ((bestR p).1 + (bestR p).2)).take (k - ((bestR p).1 + (bestR p).2))) (fun x hx => h x (List.mem_of_mem_drop (List.mem_of_mem_take hx)))
    rw [List.length_append, List.length_cons, List.length_cons]
    rw [List.length_take] at h1
    rw [List.length_take, List.length_drop] at h2
    omega
/- A run under way. -/
theorem run_more {p : List Nat} {k j : Nat} (hj : j ≤ runAt p k) (hz : p[k + j]? = some 0) : j + 1 ≤ runAt p k := by
  unfold runAt at hj ⊢
  rcases Nat.lt_or_ge j ((p.drop k).takeWhile (· == 0)).length with h | h
  · exact h
  · exfalso
    have he : ((p.drop k).takeWhile (· == 0)).length = j := by omega
    have hd : (p.drop k)[j]? = some 0 := by rw [List.getElem?_drop]; exact hz
    have hsp : p.drop k = (p.drop k).takeWhile (· == 0) ++ (p.drop k).dropWhile (· == 0) := List.takeWhile_append_dropWhile.symm
    rw [hsp, List.getElem?_append_right (by omega), he, Nat.sub_self] at hd
    cases hdw : (p.drop k).dropWhile (· == 0) with
    | nil => rw [hdw] at hd; cases hd
    | cons x r =>
      rw [hdw] at hd
      have hx : x = 0 := by simpa using hd
      have := List.head?_dropWhile_not (· == 0) (p.drop k)
      rw [hdw] at this
      simp [hx] at this
theorem run_stop {p : List Nat} {k j x : Nat} (hj : j ≤ runAt p k) (hz : p[k + j]? = some x) (hx : x ≠ 0) : runAt p k = j := by
  rcases Nat.lt_or_ge j (runAt p k) with h | h
  · have := run_zero p k j h
    rw [hz] at this
    exact absurd (Option.some.inj this) hx
  · omega
theorem run_full {p : List Nat} (hl : p.length = 8) {k j : Nat} (hj : j ≤ runAt p k) (hk : k + j = 8) : runAt p k = j := by
  have := run_le p k
  omega
def agg8 (p0 p1 p2 p3 p4 p5 p6 p7 : Nat) : Value := .agg #[.int .u16 (p0 : Int), .int .u16 (p1 : Int), .int .u16 (p2 : Int), .int .u16 (p3 : Int), .int .u16 (p4 : Int), .int .u16 (p5 : Int), .int .u16 (p6 : Int), .int .u16 (p7 : Int)]
def cells8 (p0 p1 p2 p3 p4 p5 p6 p7 : Nat) : Array Value := #[.int .u16 (p0 : Int), .int .u16 (p1 : Int), .int .u16 (p2 : Int), .int .u16 (p3 : Int), .int .u16 (p4 : Int), .int .u16 (p5 : Int), .int .u16 (p6 : Int), .int .u16 (p7 : Int)]
theorem cells8_at (p0 p1 p2 p3 p4 p5 p6 p7 : Nat) (w : World) (t : TypeId) (k : Nat) (h : k < [p0, p1, p2, p3, p4, p5, p6, p7].length) : (w.alloc (.cells (cells8 p0 p1 p2 p3 p4 p5 p6 p7) t)).cell? ⟨w.heap.size, k, none⟩ = some (.int .u16 (([p0, p1, p2, p3, p4, p5, p6, p7][k] : Nat) : Int)) := by
  rw [World.cell?_alloc_at _ _ _ _ rfl]
  match k, h with
  | 0, _ => rfl
  | 1, _ => rfl
  | 2, _ => rfl
  | 3, _ => rfl
  | 4, _ => rfl
  | 5, _ => rfl
  | 6, _ => rfl
  | 7, _ => rfl
theorem best_step {p : List Nat} {k j : Nat} (h : runAt p k = j) : bestG p (k + 1) = if (bestG p k).2 < j then (k, j) else bestG p k := by rw [← h]; rfl
theorem best_small {p : List Nat} (hl : p.length = 8) {k : Nat} (hk : k ≤ 8) : (bestG p k).1 ≤ 8 ∧ (bestG p k).2 ≤ 8 := by
  rcases best_facts p k hk with h | ⟨h1, h2, h3⟩
  · rw [h]; decide
  · have := run_le p (bestG p k).1
    omega
theorem at_p {p : List Nat} {k : Nat} (h : k < p.length) : p[k]? = some p[k] := List.getElem?_eq_getElem h
set_option maxRecDepth 20000 in
set_option maxHeartbeats 8000000 in
theorem print6_calls (p0 p1 p2 p3 p4 p5 p6 p7 : Nat) (w : World) (hx : ∀ x ∈ [p0, p1, p2, p3, p4, p5, p6, p7], x < 65536) :
    Calls Tryd.prog 19 #[agg8 p0 p1 p2 p3 p4 p5 p6 p7] w fun e w' => e = .returned (.string (strOf (print6R [p0, p1, p2, p3, p4, p5, p6, p7]))) ∧ Below w.heap.size w w' := by
  have hcell0 := cells8_at p0 p1 p2 p3 p4 p5 p6 p7 w 28
  have hb0 : Below w.heap.size w (w.alloc (.cells (cells8 p0 p1 p2 p3 p4 p5 p6 p7) 28)) := (Below.refl _ _).alloc (Nat.le_refl _) _
  obtain ⟨R, hR⟩ : ∃ R, strOf (print6R [p0, p1, p2, p3, p4, p5, p6, p7]) = R := ⟨_, rfl⟩
  rw [hR]
  have hl : [p0, p1, p2, p3, p4, p5, p6, p7].length = 8 := rfl
  have hlt0 : w.heap.size < (w.alloc (.cells (cells8 p0 p1 p2 p3 p4 p5 p6 p7) 28)).heap.size := by simp
  have HCell := hid hcell0
  have HB0 := hid hb0
  have HLT := hid hlt0
  unfold agg8
  unfold cells8 at HCell HB0 HLT
  generalize hp : [p0, p1, p2, p3, p4, p5, p6, p7] = p at *
  have HL := hid hl
  have HR := hid hR
  have HX := hid hx
  clear hcell0 hb0 hR hl hx hlt0 hp
  go_enter Tryd.func19, Tryd.ntmps19
  go_wp2_with fail
  generalize w.alloc (.cells #[.int .u16 (p0 : Int), .int .u16 (p1 : Int), .int .u16 (p2 : Int), .int .u16 (p3 : Int), .int .u16 (p4 : Int), .int .u16 (p5 : Int), .int .u16 (p6 : Int), .int .u16 (p7 : Int)] 28) = w1 at *
  obtain ⟨BL, hBL⟩ : ∃ BL, w.heap.size = BL := ⟨_, rfl⟩
  rw [hBL] at HCell HLT ⊢
  have HBL := hid hBL
  clear hBL
  go_loop [3, 4, 5] (fun va vb vi => ∃ k : Nat, k ≤ 8 ∧ vi = .int .i64 (k : Int) ∧ va = .int .i64 ((bestG p k).1 : Int) ∧ vb = .int .i64 ((bestG p k).2 : Int)) (fun _ _ vi => 8 - (intOf vi).toNat)
  case atStart => exact ⟨0, Nat.zero_le _, rfl, rfl, rfl⟩
  case round =>
    obtain ⟨k, hk, rfl, rfl, rfl⟩ := hrel
    have hbs := best_small HL.out hk
    have k0 : (0 : Int) ≤ (k : Int) := by omega
    by_cases hlt : k < 8
    · have k1 : (k : Int) < 8 := by omega
      have HStep := hid (fun j (h : runAt p k = j) => best_step (p := p) (k := k) h)
      obtain ⟨A, hA⟩ : ∃ A, (bestG p k).1 = A := ⟨_, rfl⟩
      obtain ⟨B, hB⟩ : ∃ B, (bestG p k).2 = B := ⟨_, rfl⟩
      have hAB : bestG p k = (A, B) := by rw [← hA, ← hB]
      rw [hAB] at HStep
      rw [hA, hB]
      rw [hA, hB] at hbs
      have A1 : (A : Int) ≤ 8 := by omega
      have B1 : (B : Int) ≤ 8 := by omega
      have B0 : (0 : Int) ≤ (B : Int) := by omega
      have HK := hid hlt
      have HRun0 : Hid (0 ≤ runAt p k) := Nat.zero_le _
      clear hA hB hAB hbs hk hlt
      go_wp2_with fail
      go_loop [6] (fun vn => ∃ j : Nat, j ≤ runAt p k ∧ k + j ≤ 8 ∧ vn = .int .i64 (j : Int)) (fun vn => 8 - (intOf vn).toNat)
      case atStart => exact ⟨0, Nat.zero_le _, by have := HK.out; omega, rfl⟩
      case round =>
        obtain ⟨j, hj, hkj, rfl⟩ := hrel
        have HJ := hid hj
        have j0 : (0 : Int) ≤ (j : Int) := by omega
        obtain ⟨m, hm⟩ : ∃ m, k + j = m := ⟨_, rfl⟩
        have em : (k : Int) + (j : Int) = (m : Int) := by omega
        have m0 : (0 : Int) ≤ (m : Int) := by omega
        have j1 : (j : Int) ≤ 8 := by omega
        clear hj
        by_cases hm8 : m < 8
        · have m1 : (m : Int) < 8 := by omega
          have hml : m < p.length := by rw [HL.out]; exact hm8
          have hc := HCell.out m hml
          have HAt := hid (at_p hml)
          obtain ⟨x, hxx⟩ : ∃ x, p[m]'hml = x := ⟨_, rfl⟩
          rw [hxx] at hc HAt
          have hx9 := HX.out x (by rw [← hxx]; exact List.getElem_mem hml)
          have x9 : (x : Int) < 65536 := by omega
          have x0 : (0 : Int) ≤ (x : Int) := by omega
          have HM8 := hid hm8
          have HMM := hid hm
          clear hxx hx9 hml hm8 hkj
          by_cases hx0 : x = 0
          · have HJ2 := hid (run_more HJ.out (by rw [HMM.out, HAt.out, hx0]))
            have e0 : ((x : Int) == 0) = true := by rw [hx0]; rfl
            clear hx0 hm
            go_wp2_with fail
            go_round
            case rel => exact ⟨j + 1, HJ2.out, by have := HM8.out; have := HMM.out; omega, by go_num⟩
            case measure => have := HM8.out; have := HMM.out; simp [intOf]; omega
          · have HS2 := hid (HStep.out j (run_stop HJ.out (by rw [HMM.out]; exact HAt.out) hx0))
            have e0 : ((x : Int) == 0) = false := by rw [beq_eq_false_iff_ne]; omega
            clear hx0 hm
            by_cases hbj : B < j
            · have g : (B : Int) < (j : Int) := by omega
              rw [if_pos hbj] at HS2
              clear hbj
              go_wp2_with fail
              go_round
              case rel => exact ⟨k + 1, HK.out, by go_num, by rw [HS2.out], by rw [HS2.out]⟩
              case measure => have := HK.out; simp [intOf]; omega
            · have g : ¬ (B : Int) < (j : Int) := by omega
              rw [if_neg hbj] at HS2
              clear hbj
              go_wp2_with fail
              go_round
              case rel => exact ⟨k + 1, HK.out, by go_num, by rw [HS2.out], by rw [HS2.out]⟩
              case measure => have := HK.out; simp [intOf]; omega
        · have m1 : ¬ (m : Int) < 8 := by omega
          have HS2 := hid (HStep.out j (run_full HL.out HJ.out (by omega)))
          clear hm8 hm hkj
          by_cases hbj : B < j
          · have g : (B : Int) < (j : Int) := by omega
            rw [if_pos hbj] at HS2
            clear hbj
            go_wp2_with fail
            go_round
            case rel => exact ⟨k + 1, HK.out, by go_num, by rw [HS2.out], by rw [HS2.out]⟩
            case measure => have := HK.out; simp [intOf]; omega
          · have g : ¬ (B : Int) < (j : Int) := by omega
            rw [if_neg hbj] at HS2
            clear hbj
            go_wp2_with fail
            go_round
            case rel => exact ⟨k + 1, HK.out, by go_num, by rw [HS2.out], by rw [HS2.out]⟩
            case measure => have := HK.out; simp [intOf]; omega
    · have hk8 : k = 8 := by omega
      subst hk8
      have k1 : ¬ (8 : Int) < 8 := by decide
      have hb1 := best_le HL.out
      have HCut := hid (fun h => pre_cut HL.out h)
      have HTwo := hid (fun h => best_two HL.out h)
      have HFirst := hid (fun h => pre_first HL.out h)
      have HMid := hid (fun k h0 hk h8 => pre_mid HL.out (k := k) h0 hk h8)
      have HBack := hid (fun ha k hk h8 => pre_back HL.out ha (k := k) hk h8)
      have HPLen := hid (pre_len HL.out HX.out)
      have HEnd := hid (pre_end HL.out)
      rw [show bestG p 8 = bestR p from rfl]
      obtain ⟨A, hA⟩ : ∃ A, (bestR p).1 = A := ⟨_, rfl⟩
      obtain ⟨B, hB⟩ : ∃ B, (bestR p).2 = B := ⟨_, rfl⟩
      rw [hA, hB] at HCut HTwo HBack hb1 ⊢
      rw [hA] at HFirst HMid
      have A1 : (A : Int) ≤ 8 := by omega
      have B1 : (B : Int) ≤ 8 := by omega
      have B0 : (1 : Int) ≤ (B : Int) := by omega
      have A0 : (0 : Int) ≤ (A : Int) := by omega
      clear hA hB hb1 hlt hk hbs k0
      go_wp2_with fail
      go_loopw [7, 8] (fun vs vi wr => ∃ k : Nat, k ≤ 8 ∧ (k ≤ A ∨ (A < 8 ∧ A + B ≤ k)) ∧ vi = .int .i64 (k : Int) ∧ vs = .string (strOf (preR p k)) ∧ Below w1.heap.size w1 wr) (fun _ vi _ => 8 - (intOf vi).toNat)
      case atStart => exact ⟨0, Nat.zero_le _, .inl (Nat.zero_le _), rfl, by rw [pre_start]; rfl, Below.refl _ _⟩
      case round =>
        obtain ⟨k, hk, hph, rfl, rfl, hb⟩ := hrel
        have HB := hid hb
        have k0 : (0 : Int) ≤ (k : Int) := by omega
        have hpl := HPLen.out k
        have z1 : ((strOf (preR p k)).size : Int) ≤ 82 := by rw [str_size]; omega
        clear hb hpl
        by_cases hlt : k < 8
        · have k1 : (k : Int) < 8 := by omega
          have HK := hid hlt
          by_cases hkA : k = A
          · have h8 : A < 8 := by omega
            have h2 := HTwo.out h8
            have HC2 := hid (HCut.out h8)
            have HS2 : Hid (strOf (preR p k) ++ ⟨#[58, 58]⟩ = strOf (preR p (A + B))) := by
              show strOf (preR p k) ++ strOf [58, 58] = _
              rw [HC2.out, cat_str, hkA]
            have HN : Hid (A < 8 ∧ A + B ≤ 8 ∧ k + B = A + B ∧ 2 ≤ B) := by show _ ∧ _; omega
            have e1 : ((k : Int) == (A : Int)) = true := by rw [hkA]; exact beq_self_eq_true _
            have s2 : (⟨#[58, 58]⟩ : ByteArray).size = 2 := rfl
            clear hkA h8 h2 hph hlt hk HC2
            generalize strOf (preR p k) = T at *
            go_wp2_with fail
            go_roundw
            case rel => exact ⟨A + B, HN.out.2.1, .inr ⟨HN.out.1, Nat.le_refl _⟩, by have := HN.out; go_num, by rw [HS2.out], HB.out⟩
            case measure => have := HN.out; have := HK.out; simp [intOf]; omega
          · have e1 : ((k : Int) == (A : Int)) = false := by rw [beq_eq_false_iff_ne]; omega
            have hml : k < p.length := by rw [HL.out]; exact hlt
            have hc := (HB.out.cell (p := ⟨BL, k, none⟩) HLT.out).trans (HCell.out k hml)
            have HFst := hid (fun (h0 : k = 0) (hA : 0 < A) => HFirst.out hA)
            have HMd := hid (fun h0 hk h8 => HMid.out k h0 hk h8)
            have HBk := hid (fun ha hk h8 => HBack.out ha k hk h8)
            have HFx : Hid (k = 0 → 0 < A → preR p (k + 1) = preR p k ++ digsOf 16 (p[k]'hml)) := by
              intro h0 hA
              subst h0
              exact HFirst.out hA
            have HMx : Hid (0 < k → k < A → preR p (k + 1) = preR p k ++ [58] ++ digsOf 16 (p[k]'hml)) := fun h0 hk => HMid.out k h0 hk hlt
            have HBx : Hid (A < 8 → A + B ≤ k → preR p (k + 1) = preR p k ++ (if k = A + B then [] else [58]) ++ digsOf 16 (p[k]'hml)) := fun ha hk => HBack.out ha k hk hlt
            have hxm := HX.out _ (List.getElem_mem hml)
            clear HFst HMd HBk
            generalize p[k]'hml = x at *
            have HP := hid (fun w => piece_calls x w hxm)
            have hxl := pc_len hxm
            have z2 : ((strOf (digsOf 16 x)).size : Int) ≤ 4 := by rw [str_size]; omega
            have hcase : (∃ _ : preR p (k + 1) = preR p k ++ digsOf 16 x, (k = 0 ∧ 0 < A) ∨ (0 < k ∧ k = A + B ∧ A < 8)) ∨ (∃ _ : preR p (k + 1) = preR p k ++ [58] ++ digsOf 16 x, 0 < k ∧ k ≠ A + B ∧ (k < A ∨ (A < 8 ∧ A + B ≤ k))) := by
              rcases hph with h | ⟨h1, h2⟩
              · by_cases h0 : k = 0
                · exact .inl ⟨HFx.out h0 (by omega), .inl ⟨h0, by omega⟩⟩
                · exact .inr ⟨HMx.out (by omega) (by omega), by omega, by omega, .inl (by omega)⟩
              · by_cases h0 : k = A + B
                · refine .inl ⟨?_, .inr ⟨by omega, h0, h1⟩⟩
                  have := HBx.out h1 h2
                  rw [if_pos h0, List.append_nil] at this
                  exact this
                · refine .inr ⟨?_, by omega, h0, .inr ⟨h1, h2⟩⟩
                  have := HBx.out h1 h2
                  rw [if_neg h0] at this
                  exact this
            have HPh : Hid (k + 1 ≤ A ∨ (A < 8 ∧ A + B ≤ k + 1)) := by show _ ∨ _; omega
            clear hph HFx HMx HBx hxm hxl hml hlt hk hkA
            rcases hcase with ⟨he, hsub⟩ | ⟨he, h0, hne, _⟩
            · have HS2 : Hid (strOf (preR p k) ++ strOf (digsOf 16 x) = strOf (preR p (k + 1))) := by show _ = _; rw [he, cat_str]
              have hsub2 : ¬ (0 : Int) < (k : Int) ∨ ((0 : Int) < (k : Int) ∧ ((k : Int) != (A : Int) + (B : Int)) = false) := by
                rcases hsub with ⟨h, _⟩ | ⟨h, h', _⟩
                · exact .inl (by omega)
                · exact .inr ⟨by omega, by rw [bne_eq_false_iff_eq]; omega⟩
              clear he hsub
              generalize strOf (preR p k) = T at *
              generalize strOf (digsOf 16 x) = U at *
              rcases hsub2 with q1 | ⟨q1, q2⟩
              all_goals
                go_wp2_with fail
                refine (HP.out _).mono ?_
                rintro e w2 ⟨rfl, hb2⟩
                have HB2 := hid (below_trans HB.out hb2)
                clear hb2
                go_wp2_with fail
                go_roundw
                case rel => exact ⟨k + 1, HK.out, HPh.out, by go_num, by rw [HS2.out], HB2.out⟩
                case measure => have := HK.out; simp [intOf]; omega
            · have HS2 : Hid (strOf (preR p k) ++ ⟨#[58]⟩ ++ strOf (digsOf 16 x) = strOf (preR p (k + 1))) := by
                show strOf (preR p k) ++ strOf [58] ++ strOf (digsOf 16 x) = _
                rw [he, cat_str, cat_str]
              have q1 : (0 : Int) < (k : Int) := by omega
              have q2 : ((k : Int) != (A : Int) + (B : Int)) = true := by rw [bne_iff_ne]; omega
              have s2 : (⟨#[58]⟩ : ByteArray).size = 1 := rfl
              clear he h0 hne
              generalize strOf (preR p k) = T at *
              generalize strOf (digsOf 16 x) = U at *
              go_wp2_with fail
              refine (HP.out _).mono ?_
              rintro e w2 ⟨rfl, hb2⟩
              have HB2 := hid (below_trans HB.out hb2)
              clear hb2
              go_wp2_with fail
              go_roundw
              case rel => exact ⟨k + 1, HK.out, HPh.out, by go_num, by rw [HS2.out], HB2.out⟩
              case measure => have := HK.out; simp [intOf]; omega
        · have k1 : ¬ (k : Int) < 8 := by omega
          have hk8 : k = 8 := by omega
          have HF : Hid (strOf (preR p k) = R) := by show _ = _; rw [hk8, HEnd.out]; exact HR.out
          clear hk8 hlt hk hph
          generalize strOf (preR p k) = T at *
          go_wp2_with fail
          go_ret
          exact ⟨by rw [← HF.out]; rfl, by have h1 := HB0.out; have h2 := HBL.out; exact h1.trans (HB.out.mono h1.size)⟩
end Go.Proofs.YtghhdccnocpobaaDoor
