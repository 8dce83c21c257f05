/- The walk of the statement 'a run of zeros'. -/
import Derived.Test.YtghhdccnocpobaaDoorIpR
import Derived.Test.YtghhdccnocpobaaDoorIpEq
namespace Go.Proofs.YtghhdccnocpobaaDoor
open Go.RowKit
set_option linter.unusedVariables false
set_option maxRecDepth 20000
def zeroR (p : List Nat) (A i : Nat) : List Nat := p.take A ++ List.replicate i 0 ++ p.drop (A + i)
theorem zero_start (p : List Nat) (A : Nat) : zeroR p A 0 = p := by unfold zeroR; simp
theorem zero_len {p : List Nat} {A i : Nat} (h : A + i ≤ p.length) : (zeroR p A i).length = p.length := by
  unfold zeroR
  rw [List.length_append, List.length_append, List.length_take, List.length_replicate, List.length_drop]
  omega
theorem zero_step {p : List Nat} {A i : Nat} (h : A + i < p.length) : (zeroR p A i).set (A + i) 0 = zeroR p A (i + 1) := by
  have hl : (p.take A ++ List.replicate i 0).length = A + i := by rw [List.length_append, List.length_take, List.length_replicate]; omega
  unfold zeroR
  rw [List.set_append_right _ _ (by omega), hl, Nat.sub_self, List.drop_eq_getElem_cons h, List.set_cons_zero, List.replicate_succ']
  simp
  rfl
theorem zero_mem {p : List Nat} {A i : Nat} (hp : ∀ x ∈ p, x < 65536) : ∀ x ∈ zeroR p A i, x < 65536 := by
  intro x hx
  unfold zeroR at hx
  rcases List.mem_append.1 hx with hx | hx
  · rcases List.mem_append.1 hx with hx | hx
    · exact hp x (List.mem_of_mem_take hx)
    · rw [(List.mem_replicate.1 hx).2]; decide
  · exact hp x (List.mem_of_mem_drop hx)
theorem zero_take {p : List Nat} {A N : Nat} (h : A + N ≤ p.length) : (zeroR p A N).take A = p.take A := by
  unfold zeroR
  rw [List.append_assoc, List.take_append_of_le_length (by rw [List.length_take]; omega), List.take_take, Nat.min_self]
theorem zero_drop {p : List Nat} {A N : Nat} (h : A + N ≤ p.length) : (zeroR p A N).drop (A + N) = p.drop (A + N) := by
  have hl : (p.take A ++ List.replicate N 0).length = A + N := by rw [List.length_append, List.length_take, List.length_replicate]; omega
  unfold zeroR
  rw [List.drop_append_of_le_length (by omega), List.drop_of_length_le (by omega), List.nil_append]
/-- The three texts under way. -/
def fullR (q : List Nat) (i : Nat) : List UInt8 := joinC 58 (pcs (q.take i))
def backR (q : List Nat) (m i : Nat) : List UInt8 := joinC 58 (pcs ((q.drop m).take (i - m)))
theorem full_zero (q : List Nat) : fullR q 0 = [] := rfl
theorem full_first {q : List Nat} (h : 0 < q.length) : fullR q 1 = fullR q 0 ++ digsOf 16 q[0] := by
  unfold fullR
  rw [take_more h, List.take_zero]
  rfl
theorem full_more {q : List Nat} {i : Nat} (h0 : 0 < i) (h : i < q.length) : fullR q (i + 1) = fullR q i ++ [58] ++ digsOf 16 q[i] := by
  unfold fullR
  rw [take_more h, join_more]
  intro e
  have := congrArg List.length e
  rw [List.length_take, List.length_nil] at this
  omega
theorem back_none {q : List Nat} {m i : Nat} (h : i ≤ m) : backR q m i = [] := by
  unfold backR
  rw [Nat.sub_eq_zero_of_le h, List.take_zero]
  rfl
theorem back_first {q : List Nat} {m : Nat} (h : m < q.length) : backR q m (m + 1) = backR q m m ++ digsOf 16 q[m] := by
  rw [back_none (Nat.le_refl m)]
  unfold backR
  rw [show m + 1 - m = 0 + 1 by omega, take_more (by rw [List.length_drop]; omega), List.take_zero, List.getElem_drop]
  rfl
theorem back_more {q : List Nat} {m i : Nat} (h0 : m < i) (h : i < q.length) : backR q m (i + 1) = backR q m i ++ [58] ++ digsOf 16 q[i] := by
  unfold backR
  rw [show i + 1 - m = (i - m) + 1 by omega, take_more (by rw [List.length_drop]; omega), List.getElem_drop, join_more]
  · simp only [show m + (i - m) = i by omega]
  · intro e
    have := congrArg List.length e
    rw [List.length_take, List.length_drop, List.length_nil] at this
    omega
theorem back_ne {q : List Nat} {m i : Nat} (hq : ∀ x ∈ q, x < 65536) (h0 : m < i) (h : i ≤ q.length) : backR q m i ≠ [] := by
  unfold backR
  refine join_ne (pcs_fine (fun x hx => hq x (List.mem_of_mem_drop (List.mem_of_mem_take hx)))) ?_
  intro e
  have := congrArg List.length e
  simp [pcs] at this
  omega
theorem full_len {q : List Nat} (hq : ∀ x ∈ q, x < 65536) (hl : q.length = 8) (i : Nat) : (fullR q i).length ≤ 40 := by
  have := pcs_len (q.take i) (fun x hx => hq x (List.mem_of_mem_take hx))
  rw [List.length_take] at this
  unfold fullR
  omega
theorem back_len {q : List Nat} (hq : ∀ x ∈ q, x < 65536) (hl : q.length = 8) (m i : Nat) : (backR q m i).length ≤ 40 := by
  have := pcs_len ((q.drop m).take (i - m)) (fun x hx => hq x (List.mem_of_mem_drop (List.mem_of_mem_take hx)))
  rw [List.length_take, List.length_drop] at this
  unfold backR
  omega
theorem ipRuns_out (p0 p1 p2 p3 p4 p5 p6 p7 : Nat) (at' n : Int) (w : World) (T0 : Tab w) (hout : at' < 0 ∨ (¬ at' < 0 ∧ n < 1) ∨ (¬ at' < 0 ∧ ¬ n < 1 ∧ 8 < n) ∨ (¬ at' < 0 ∧ ¬ n < 1 ∧ ¬ 8 < n ∧ 8 - n < at')) :
    Calls Tryd.prog 8 #[agg8 p0 p1 p2 p3 p4 p5 p6 p7, .int .i64 at', .int .i64 n] w fun e w' => e = .returned (.bool true) ∧ Below w.heap.size w w' := by
  have T := hid T0
  clear T0
  have HB0 := hid (balloc w (.cells ([p0, p1, p2, p3, p4, p5, p6, p7].map f16).toArray 28))
  simp only [f16, List.map_cons, List.map_nil] at HB0
  unfold agg8
  rcases hout with g1 | ⟨g1, g2⟩ | ⟨g1, g2, g3⟩ | ⟨g1, g2, g3, g4⟩
  all_goals
    go_enter Tryd.func8, Tryd.ntmps8
    go_wp2_with fail
    refine (ipfirst_calls _ (T.out.below (by first | exact btw (by assumption) | exact btw_al (by assumption) _ | exact btw_dr (by assumption) | exact btw_ad (by assumption) _ | exact Below.refl _ _ | exact (Below.refl _ _).alloc (Nat.le_refl _) _))).mono ?_
    rintro e w1 ⟨rfl, hb⟩
    have HB1 := hid (HB0.out.trans (hb.mono (by simp)))
    clear hb
    go_wp2_with fail
    refine (ipfirst_calls _ (T.out.below (by first | exact btw (by assumption) | exact btw_al (by assumption) _ | exact btw_dr (by assumption) | exact btw_ad (by assumption) _ | exact Below.refl _ _ | exact (Below.refl _ _).alloc (Nat.le_refl _) _))).mono ?_
    rintro e w2 ⟨rfl, hb⟩
    have HB2 := hid (below_trans HB1.out hb)
    clear hb
    go_wp2_with fail
    go_ret
    exact ⟨rfl, HB2.out⟩
set_option maxRecDepth 20000 in
set_option maxHeartbeats 16000000 in
theorem ipRuns_in (p0 p1 p2 p3 p4 p5 p6 p7 A N : Nat) (w : World) (T0 : Tab w) (hx : ∀ x ∈ [p0, p1, p2, p3, p4, p5, p6, p7], x < 65536) (hN1 : 1 ≤ N) (hN8 : N ≤ 8) (hAN : A + N ≤ 8) :
    Calls Tryd.prog 8 #[agg8 p0 p1 p2 p3 p4 p5 p6 p7, .int .i64 (A : Int), .int .i64 (N : Int)] w fun e w' => e = .returned (.bool true) ∧ Below w.heap.size w w' := by
  have T := hid T0
  clear T0
  have HK0 := hid (blk_new w [p0, p1, p2, p3, p4, p5, p6, p7])
  have HB0 := hid (balloc w (.cells ([p0, p1, p2, p3, p4, p5, p6, p7].map f16).toArray 28))
  simp only [f16, List.map_cons, List.map_nil] at HB0
  have HX := hid hx
  unfold agg8
  have a0 : ¬ (A : Int) < 0 := by omega
  have a1 : (0 : Int) ≤ (A : Int) := by omega
  have b1 : ¬ (N : Int) < 1 := by omega
  have b2 : ¬ (8 : Int) < (N : Int) := by omega
  have b3 : ¬ (8 : Int) - (N : Int) < (A : Int) := by omega
  have b4 : (A : Int) + (N : Int) ≤ 8 := by omega
  have HAN : Hid (A + N ≤ 8 ∧ 1 ≤ N) := ⟨hAN, hN1⟩
  clear hx hN1 hN8 hAN
  go_enter Tryd.func8, Tryd.ntmps8
  go_wp2_with fail
  refine (ipfirst_calls _ (T.out.below (by first | exact btw (by assumption) | exact btw_al (by assumption) _ | exact btw_dr (by assumption) | exact btw_ad (by assumption) _ | exact Below.refl _ _ | exact (Below.refl _ _).alloc (Nat.le_refl _) _))).mono ?_
  rintro e w1 ⟨rfl, hb⟩
  have HB1 := hid (HB0.out.trans (hb.mono (by simp)))
  have HK1 := hid (HK0.out.below hb)
  clear hb HB0 HK0
  obtain ⟨G, hG⟩ : ∃ G, w.heap.size = G := ⟨_, rfl⟩
  rw [hG] at HK1 ⊢
  have HG := hid hG
  clear hG
  obtain ⟨p, hp⟩ : ∃ p, [p0, p1, p2, p3, p4, p5, p6, p7] = p := ⟨_, rfl⟩
  have HPL : Hid (p.length = 8) := by show p.length = 8; rw [← hp]; rfl
  rw [hp] at HK1 HX
  clear hp
  go_wp2_with fail
  go_loopw [7] (fun vi wr => ∃ i : Nat, i ≤ N ∧ vi = .int .i64 (i : Int) ∧ Blk wr G (zeroR p A i) ∧ Below w.heap.size w wr) (fun vi _ => N - (intOf vi).toNat)
  case atStart => exact ⟨0, Nat.zero_le _, rfl, by rw [zero_start]; exact HK1.out, HB1.out⟩
  case round =>
    obtain ⟨i, hi, rfl, hbk, hbw⟩ := hrel
    have HBk := hid hbk
    have HBw := hid hbw
    have i0 : (0 : Int) ≤ (i : Int) := by omega
    have hAN := HAN.out
    clear hbw
    by_cases hlt : i < N
    · have hl8 : A + i < p.length := by rw [HPL.out]; omega
      obtain ⟨m, hm⟩ : ∃ m, A + i = m := ⟨_, rfl⟩
      have hml : m < (zeroR p A i).length := by rw [zero_len (by omega)]; omega
      obtain ⟨oc, of⟩ := hbk.cell m hml
      have HSet := hid (hbk.set m 0)
      rw [← hm, zero_step hl8, hm] at HSet
      have HBs := hid (below_set HBw.out (Nat.le_of_eq HG.out) HBw.out.size m (.int .u16 ((0 : Nat) : Int)))
      obtain ⟨o1, ho1⟩ : ∃ o1, (zeroR p A i)[m]'hml = o1 := ⟨_, rfl⟩
      rw [ho1] at oc
      have em : (A : Int) + (i : Int) = (m : Int) := by omega
      have m0 : (0 : Int) ≤ (m : Int) := by omega
      have m8 : (m : Int) < 8 := by have := HPL.out; omega
      have i1 : (i : Int) < (N : Int) := by omega
      have HJ := hid hlt
      clear hbk hlt hi hl8 ho1 hml hm hAN HK1 HB1
      go_wp2_with fail
      go_roundw
      case rel => exact ⟨i + 1, HJ.out, by go_num, HSet.out, HBs.out⟩
      case measure => have := HJ.out; simp [intOf]; omega
    · have hiN : i = N := by omega
      subst hiN
      have i1 : ¬ (i : Int) < (i : Int) := by omega
      have hzl := zero_len (p := p) (A := A) (i := i) (by rw [HPL.out]; omega)
      rw [HPL.out] at hzl
      have HQX := hid (zero_mem (A := A) (i := i) HX.out)
      have HTk := hid (zero_take (p := p) (A := A) (N := i) (by rw [HPL.out]; omega))
      have HDr := hid (zero_drop (p := p) (A := A) (N := i) (by rw [HPL.out]; omega))
      have HQE : Hid (zeroR p A i = (zeroR p A i).take A ++ List.replicate i 0 ++ (zeroR p A i).drop (A + i)) := by show _ = _; rw [HTk.out, HDr.out]; rfl
      have HQL := hid hzl
      clear hzl hbk hlt hi HK1 HB1 HTk HDr
      generalize zeroR p A i = q at *
      obtain ⟨M, hM⟩ : ∃ M, A + i = M := ⟨_, rfl⟩
      rw [hM] at HQE hAN
      have eM : (A : Int) + (i : Int) = (M : Int) := by omega
      have HAM : Hid (A < M ∧ M ≤ 8) := by show A < M ∧ M ≤ 8; omega
      have m9 : (M : Int) ≤ 8 := by omega
      have am : (A : Int) < (M : Int) := by omega
      have HIM : Hid (i = M - A) := by show i = M - A; omega
      clear hM hAN
      go_wp2_with fail
      go_loop [8, 9, 10, 11] (fun vf vr vb vi => ∃ k : Nat, k ≤ 8 ∧ vi = .int .i64 (k : Int) ∧ vf = .string (strOf (fullR q k)) ∧ vr = .string (strOf (fullR q (min k A))) ∧ vb = .string (strOf (backR q M k))) (fun _ _ _ vi => 8 - (intOf vi).toNat)
      case atStart => exact ⟨0, Nat.zero_le _, rfl, rfl, by rw [Nat.zero_min]; rfl, by rw [back_none (Nat.zero_le _)]; rfl⟩
      case round =>
        obtain ⟨k, hk, rfl, rfl, rfl, rfl⟩ := hrel
        have k0 : (0 : Int) ≤ (k : Int) := by omega
        have z1 : ((strOf (fullR q k)).size : Int) ≤ 40 := by rw [str_size]; have := full_len HQX.out HQL.out k; omega
        have z2 : ((strOf (fullR q (min k A))).size : Int) ≤ 40 := by rw [str_size]; have := full_len HQX.out HQL.out (min k A); omega
        have z3 : ((strOf (backR q M k)).size : Int) ≤ 40 := by rw [str_size]; have := back_len HQX.out HQL.out M k; omega
        have y1 : (⟨#[58]⟩ : ByteArray).size = 1 := rfl
        by_cases hlt : k < 8
        · have hql : k < q.length := by rw [HQL.out]; exact hlt
          have hc := (HBk.out.cell k hql).1
          have hx16 := HQX.out _ (List.getElem_mem hql)
          have HF0 : Hid (k = 0 → fullR q (k + 1) = fullR q k ++ digsOf 16 (q[k]'hql)) := by
            intro h0
            subst h0
            exact full_first hql
          have HF1 : Hid (0 < k → fullR q (k + 1) = fullR q k ++ [58] ++ digsOf 16 (q[k]'hql)) := fun h0 => full_more h0 hql
          have HB0' : Hid (k = M → backR q M (k + 1) = backR q M k ++ digsOf 16 (q[k]'hql)) := by
            intro h0
            subst h0
            exact back_first hql
          have HB1' : Hid (M < k → backR q M (k + 1) = backR q M k ++ [58] ++ digsOf 16 (q[k]'hql)) := fun h0 => back_more h0 hql
          have HBn : Hid (k < M → backR q M (k + 1) = backR q M k) := fun h => by rw [back_none (by omega), back_none (by omega)]
          have HBe : Hid (M < k → backR q M k ≠ []) := fun h => back_ne HQX.out h (by omega)
          have HBz : Hid (k ≤ M → backR q M k = []) := fun h => back_none h
          generalize q[k]'hql = x at *
          have HP := hid (fun w => lawhex_calls x w hx16)
          have hxl := pc_len hx16
          have z4 : ((strOf (digsOf 16 x)).size : Int) ≤ 4 := by rw [str_size]; omega
          have k1 : (k : Int) < 8 := by omega
          have HK := hid hlt
          obtain ⟨t1, t2⟩ := str_empty (backR q M k)
          have hAM := HAM.out
          clear hql hx16 hxl hlt hk
          have hcase : (k = 0 ∧ k < A) ∨ (0 < k ∧ k < A) ∨ (k = 0 ∧ ¬ k < A ∧ k < M) ∨ (0 < k ∧ ¬ k < A ∧ k < M) ∨ (0 < k ∧ k = M) ∨ (0 < k ∧ M < k) := by omega
          rcases hcase with hcase | hcase | hcase | hcase | hcase | hcase
          · have g1 : ¬ (0 : Int) < (k : Int) := by omega
            have HFu : Hid (strOf (fullR q k) ++ strOf (digsOf 16 x) = strOf (fullR q (k + 1))) := by show _ = _; rw [HF0.out (by omega), cat_str]
            have g2 : (k : Int) < (A : Int) := by omega
            have g3 : ¬ (M : Int) ≤ (k : Int) := by omega
            have em1 : min k A = k := by omega
            have HE2 : Hid (min (k + 1) A = k + 1) := by show _ = _; omega
            rw [em1] at z2 ⊢
            clear em1
            have HBk2 := hid (HBn.out (by omega))
            clear HF0 HF1 HB0' HB1' HBn HBe HBz hAM hcase
            clear t1 t2
            generalize hTF : strOf (fullR q k) = TF at *
            have HTF := hid hTF
            clear hTF
            generalize hTB : strOf (backR q M k) = TB at *
            have HTB := hid hTB
            clear hTB
            generalize strOf (digsOf 16 x) = U at *
            go_wp2_with fail
            refine (HP.out _).mono ?_
            rintro e wz ⟨rfl, rfl⟩
            go_wp2_with fail
            go_round
            case rel => exact ⟨k + 1, HK.out, by go_num, by rw [HFu.out], by rw [HE2.out, HFu.out], by rw [HBk2.out, HTB.out]⟩
            case measure => have := HK.out; simp [intOf]; omega
          · have g1 : (0 : Int) < (k : Int) := by omega
            have HFu : Hid ((strOf (fullR q k) ++ ⟨#[58]⟩) ++ strOf (digsOf 16 x) = strOf (fullR q (k + 1))) := by show (strOf (fullR q k) ++ strOf [58]) ++ _ = _; rw [HF1.out (by omega), cat_str, cat_str]
            have g2 : (k : Int) < (A : Int) := by omega
            have g3 : ¬ (M : Int) ≤ (k : Int) := by omega
            have em1 : min k A = k := by omega
            have HE2 : Hid (min (k + 1) A = k + 1) := by show _ = _; omega
            rw [em1] at z2 ⊢
            clear em1
            have HBk2 := hid (HBn.out (by omega))
            clear HF0 HF1 HB0' HB1' HBn HBe HBz hAM hcase
            clear t1 t2
            generalize hTF : strOf (fullR q k) = TF at *
            have HTF := hid hTF
            clear hTF
            generalize hTB : strOf (backR q M k) = TB at *
            have HTB := hid hTB
            clear hTB
            generalize strOf (digsOf 16 x) = U at *
            go_wp2_with fail
            refine (HP.out _).mono ?_
            rintro e wz ⟨rfl, rfl⟩
            go_wp2_with fail
            go_round
            case rel => exact ⟨k + 1, HK.out, by go_num, by rw [HFu.out], by rw [HE2.out, HFu.out], by rw [HBk2.out, HTB.out]⟩
            case measure => have := HK.out; simp [intOf]; omega
          · have g1 : ¬ (0 : Int) < (k : Int) := by omega
            have HFu : Hid (strOf (fullR q k) ++ strOf (digsOf 16 x) = strOf (fullR q (k + 1))) := by show _ = _; rw [HF0.out (by omega), cat_str]
            have g2 : ¬ (k : Int) < (A : Int) := by omega
            have em1 : min k A = A := by omega
            have HE2 : Hid (min (k + 1) A = A) := by show _ = _; omega
            rw [em1] at z2 ⊢
            clear em1
            have g3 : ¬ (M : Int) ≤ (k : Int) := by omega
            have HBk2 := hid (HBn.out (by omega))
            clear HF0 HF1 HB0' HB1' HBn HBe HBz hAM hcase
            clear t1 t2
            generalize hTF : strOf (fullR q k) = TF at *
            have HTF := hid hTF
            clear hTF
            generalize hTR : strOf (fullR q A) = TR at *
            have HTR := hid hTR
            clear hTR
            generalize hTB : strOf (backR q M k) = TB at *
            have HTB := hid hTB
            clear hTB
            generalize strOf (digsOf 16 x) = U at *
            go_wp2_with fail
            refine (HP.out _).mono ?_
            rintro e wz ⟨rfl, rfl⟩
            go_wp2_with fail
            go_round
            case rel => exact ⟨k + 1, HK.out, by go_num, by rw [HFu.out], by rw [HE2.out, HTR.out], by rw [HBk2.out, HTB.out]⟩
            case measure => have := HK.out; simp [intOf]; omega
          · have g1 : (0 : Int) < (k : Int) := by omega
            have HFu : Hid ((strOf (fullR q k) ++ ⟨#[58]⟩) ++ strOf (digsOf 16 x) = strOf (fullR q (k + 1))) := by show (strOf (fullR q k) ++ strOf [58]) ++ _ = _; rw [HF1.out (by omega), cat_str, cat_str]
            have g2 : ¬ (k : Int) < (A : Int) := by omega
            have em1 : min k A = A := by omega
            have HE2 : Hid (min (k + 1) A = A) := by show _ = _; omega
            rw [em1] at z2 ⊢
            clear em1
            have g3 : ¬ (M : Int) ≤ (k : Int) := by omega
            have HBk2 := hid (HBn.out (by omega))
            clear HF0 HF1 HB0' HB1' HBn HBe HBz hAM hcase
            clear t1 t2
            generalize hTF : strOf (fullR q k) = TF at *
            have HTF := hid hTF
            clear hTF
            generalize hTR : strOf (fullR q A) = TR at *
            have HTR := hid hTR
            clear hTR
            generalize hTB : strOf (backR q M k) = TB at *
            have HTB := hid hTB
            clear hTB
            generalize strOf (digsOf 16 x) = U at *
            go_wp2_with fail
            refine (HP.out _).mono ?_
            rintro e wz ⟨rfl, rfl⟩
            go_wp2_with fail
            go_round
            case rel => exact ⟨k + 1, HK.out, by go_num, by rw [HFu.out], by rw [HE2.out, HTR.out], by rw [HBk2.out, HTB.out]⟩
            case measure => have := HK.out; simp [intOf]; omega
          · have g1 : (0 : Int) < (k : Int) := by omega
            have HFu : Hid ((strOf (fullR q k) ++ ⟨#[58]⟩) ++ strOf (digsOf 16 x) = strOf (fullR q (k + 1))) := by show (strOf (fullR q k) ++ strOf [58]) ++ _ = _; rw [HF1.out (by omega), cat_str, cat_str]
            have g2 : ¬ (k : Int) < (A : Int) := by omega
            have em1 : min k A = A := by omega
            have HE2 : Hid (min (k + 1) A = A) := by show _ = _; omega
            rw [em1] at z2 ⊢
            clear em1
            have g3 : (M : Int) ≤ (k : Int) := by omega
            have hbz := HBz.out (by omega)
            have hdz : decide (backR q M k = []) = true := by simpa using hbz
            rw [hdz] at t1 t2
            have HBk2 : Hid (strOf (backR q M k) ++ strOf (digsOf 16 x) = strOf (backR q M (k + 1))) := by show _ = _; rw [HB0'.out (by omega), cat_str]
            clear hbz hdz
            clear HF0 HF1 HB0' HB1' HBn HBe HBz hAM hcase
            generalize hTF : strOf (fullR q k) = TF at *
            have HTF := hid hTF
            clear hTF
            generalize hTR : strOf (fullR q A) = TR at *
            have HTR := hid hTR
            clear hTR
            generalize hTB : strOf (backR q M k) = TB at *
            have HTB := hid hTB
            clear hTB
            generalize strOf (digsOf 16 x) = U at *
            go_wp2_with fail
            refine (HP.out _).mono ?_
            rintro e wz ⟨rfl, rfl⟩
            go_wp2_with fail
            go_round
            case rel => exact ⟨k + 1, HK.out, by go_num, by rw [HFu.out], by rw [HE2.out, HTR.out], by rw [HBk2.out]⟩
            case measure => have := HK.out; simp [intOf]; omega
          · have g1 : (0 : Int) < (k : Int) := by omega
            have HFu : Hid ((strOf (fullR q k) ++ ⟨#[58]⟩) ++ strOf (digsOf 16 x) = strOf (fullR q (k + 1))) := by show (strOf (fullR q k) ++ strOf [58]) ++ _ = _; rw [HF1.out (by omega), cat_str, cat_str]
            have g2 : ¬ (k : Int) < (A : Int) := by omega
            have em1 : min k A = A := by omega
            have HE2 : Hid (min (k + 1) A = A) := by show _ = _; omega
            rw [em1] at z2 ⊢
            clear em1
            have g3 : (M : Int) ≤ (k : Int) := by omega
            have hbz := HBe.out (by omega)
            have hdz : decide (backR q M k = []) = false := by simpa using hbz
            rw [hdz] at t1 t2
            have HBk2 : Hid ((strOf (backR q M k) ++ ⟨#[58]⟩) ++ strOf (digsOf 16 x) = strOf (backR q M (k + 1))) := by show (strOf (backR q M k) ++ strOf [58]) ++ _ = _; rw [HB1'.out (by omega), cat_str, cat_str]
            clear hbz hdz
            clear HF0 HF1 HB0' HB1' HBn HBe HBz hAM hcase
            generalize hTF : strOf (fullR q k) = TF at *
            have HTF := hid hTF
            clear hTF
            generalize hTR : strOf (fullR q A) = TR at *
            have HTR := hid hTR
            clear hTR
            generalize hTB : strOf (backR q M k) = TB at *
            have HTB := hid hTB
            clear hTB
            generalize strOf (digsOf 16 x) = U at *
            go_wp2_with fail
            refine (HP.out _).mono ?_
            rintro e wz ⟨rfl, rfl⟩
            go_wp2_with fail
            go_round
            case rel => exact ⟨k + 1, HK.out, by go_num, by rw [HFu.out], by rw [HE2.out, HTR.out], by rw [HBk2.out]⟩
            case measure => have := HK.out; simp [intOf]; omega
        · have k1 : ¬ (k : Int) < 8 := by omega
          have hk8 : k = 8 := by omega
          subst hk8
          have hAM := HAM.out
          rw [show min 8 A = A by omega] at *
          have HFu : Hid (fullR q 8 = joinC 58 (pcs q)) := by show _ = _; unfold fullR; rw [List.take_of_length_le (by rw [HQL.out]; exact Nat.le_refl _)]
          have HFr : Hid (fullR q A = joinC 58 (pcs (q.take A))) := rfl
          have HBa : Hid (backR q M 8 = joinC 58 (pcs (q.drop M))) := by show _ = _; unfold backR; rw [List.take_of_length_le (by rw [List.length_drop, HQL.out]; exact Nat.le_refl _)]
          have hq8 := HQL.out
          have hqx := HQX.out
          have hta : ∀ x ∈ q.take A, x < 65536 := fun x hx => hqx x (List.mem_of_mem_take hx)
          have htd : ∀ x ∈ q.drop M, x < 65536 := fun x hx => hqx x (List.mem_of_mem_drop hx)
          have P1 := parse6_full hq8 hqx
          have P2 := parse6_cut (a := q.take A) (b := q.drop M) (by rw [List.length_take, List.length_drop]; omega) hta htd
          rw [List.length_take, List.length_drop, hq8, Nat.min_eq_left (by omega), show 8 - (A + (8 - M)) = M - A by omega, ← HIM.out, ← HQE.out] at P2
          have P3 := parse6_twice (a := q.take A) (by rw [List.length_take]; omega) hta
          have P4 := parse6_other (p := q ++ [0]) (by rw [List.length_append, hq8]; decide) (by rw [List.length_append, hq8]; decide) (fun x hx => by
            rcases List.mem_append.1 hx with hx | hx
            · exact hqx x hx
            · rw [List.mem_singleton.1 hx]; decide)
          rw [join_more (by intro e; rw [e] at hq8; cases hq8)] at P4
          have C1 : Hid (∀ w, Tab w → Calls Tryd.prog 12 #[.string (strOf (fullR q 8))] w fun e w' => e = .returned (.tuple #[aggL q, .int .i64 0]) ∧ Below w.heap.size w w') := fun w ht => by
            have := ip6_calls (strOf (fullR q 8)) w (by rw [str_size]; have := full_len hqx hq8 8; omega) ht
            unfold P6Post at this
            rw [str_data, HFu.out, P1] at this
            rw [HFu.out]
            exact this
          have C2 : Hid (∀ w, Tab w → Calls Tryd.prog 12 #[.string ((strOf (fullR q A) ++ ⟨#[58, 58]⟩) ++ strOf (backR q M 8))] w fun e w' => e = .returned (.tuple #[aggL q, .int .i64 0]) ∧ Below w.heap.size w w') := fun w ht => by
            have e : (strOf (fullR q A) ++ ⟨#[58, 58]⟩) ++ strOf (backR q M 8) = strOf (joinC 58 (pcs (q.take A)) ++ 58 :: 58 :: joinC 58 (pcs (q.drop M))) := by
              rw [HFr.out, HBa.out, show (⟨#[58, 58]⟩ : ByteArray) = strOf [58, 58] from rfl, cat_str, cat_str]
              simp
            rw [e]
            have := ip6_calls (strOf (joinC 58 (pcs (q.take A)) ++ 58 :: 58 :: joinC 58 (pcs (q.drop M)))) w (by
              rw [str_size, ← HFr.out, ← HBa.out]
              have h1 := full_len hqx hq8 A
              have h2 := back_len hqx hq8 M 8
              rw [List.length_append, List.length_cons, List.length_cons]
              omega) ht
            unfold P6Post at this
            rw [str_data, P2] at this
            exact this
          have C3 : Hid (∀ w, Tab w → Calls Tryd.prog 12 #[.string ((⟨#[58, 58]⟩ ++ strOf (fullR q A)) ++ ⟨#[58, 58]⟩)] w fun e w' => e = .returned (.tuple #[aggL z8, .int .i64 4]) ∧ Below w.heap.size w w') := fun w ht => by
            have e : (⟨#[58, 58]⟩ ++ strOf (fullR q A)) ++ ⟨#[58, 58]⟩ = strOf (58 :: 58 :: (joinC 58 (pcs (q.take A)) ++ [58, 58])) := by
              rw [HFr.out, show (⟨#[58, 58]⟩ : ByteArray) = strOf [58, 58] from rfl, cat_str, cat_str]
              simp
            rw [e]
            have := ip6_calls (strOf (58 :: 58 :: (joinC 58 (pcs (q.take A)) ++ [58, 58]))) w (by
              rw [str_size, ← HFr.out]
              have h1 := full_len hqx hq8 A
              rw [List.length_cons, List.length_cons, List.length_append]
              simp
              omega) ht
            unfold P6Post at this
            rw [str_data, P3] at this
            exact this
          have C4 : Hid (∀ w, Tab w → Calls Tryd.prog 12 #[.string (strOf (fullR q 8) ++ ⟨#[58, 48]⟩)] w fun e w' => e = .returned (.tuple #[aggL z8, .int .i64 4]) ∧ Below w.heap.size w w') := fun w ht => by
            have e : strOf (fullR q 8) ++ ⟨#[58, 48]⟩ = strOf (joinC 58 (pcs q) ++ [58] ++ digsOf 16 0) := by
              rw [HFu.out, show (⟨#[58, 48]⟩ : ByteArray) = strOf [58, 48] from rfl, cat_str, List.append_assoc]
              rfl
            rw [e]
            have := ip6_calls (strOf (joinC 58 (pcs q) ++ [58] ++ digsOf 16 0)) w (by
              rw [str_size, ← HFu.out]
              have h1 := full_len hqx hq8 8
              rw [List.length_append, List.length_append]
              have : (digsOf 16 0).length = 1 := rfl
              rw [this]
              simp
              omega) ht
            unfold P6Post at this
            rw [str_data, P4] at this
            exact this
          have y2 : (⟨#[58, 58]⟩ : ByteArray).size = 2 := rfl
          have y3 : (⟨#[58, 48]⟩ : ByteArray).size = 2 := rfl
          clear P1 P2 P3 P4 hqx hta htd HFu HFr HBa hAM hk
          generalize strOf (fullR q 8) = SF at *
          generalize strOf (fullR q A) = SR at *
          generalize strOf (backR q M 8) = SB at *
          obtain ⟨x0, x1, x2, x3, x4, x5, x6, x7, rfl⟩ := eight hq8
          simp only [aggL, f16, z8, List.map_cons, List.map_nil] at C1 C2 C3 C4
          have heq := eq_arr (x0 : Int) x1 x2 x3 x4 x5 x6 x7 x0 x1 x2 x3 x4 x5 x6 x7
          simp only [same8_refl] at heq
          clear hq8 HQE HQL HQX
          go_wp2_with fail
          refine (C1.out _ (T.out.below (by first | exact btw (by assumption) | exact btw_al (by assumption) _ | exact btw_dr (by assumption) | exact btw_ad (by assumption) _ | exact Below.refl _ _ | exact (Below.refl _ _).alloc (Nat.le_refl _) _))).mono ?_
          rintro e v1 ⟨rfl, hb⟩
          have B1 := hid (HBw.out.trans (hb.mono HBw.out.size))
          have K1 := hid (HBk.out.below hb)
          have X1 := hid (blk_new v1 [x0, x1, x2, x3, x4, x5, x6, x7])
          clear hb
          go_wp2_with fail
          refine (C2.out _ (T.out.below (by first | exact btw (by assumption) | exact btw_al (by assumption) _ | exact btw_dr (by assumption) | exact btw_ad (by assumption) _ | exact Below.refl _ _ | exact (Below.refl _ _).alloc (Nat.le_refl _) _))).mono ?_
          rintro e v2 ⟨rfl, hb⟩
          have B2 := hid (below_more B1.out _ hb)
          have K2 := hid ((K1.out.below (balloc v1 _)).below hb)
          have X2 := hid (X1.out.below hb)
          have Y2 := hid (blk_new v2 [x0, x1, x2, x3, x4, x5, x6, x7])
          clear hb B1 K1 X1
          go_wp2_with fail
          refine (C3.out _ (T.out.below (by first | exact btw (by assumption) | exact btw_al (by assumption) _ | exact btw_dr (by assumption) | exact btw_ad (by assumption) _ | exact Below.refl _ _ | exact (Below.refl _ _).alloc (Nat.le_refl _) _))).mono ?_
          rintro e v3 ⟨rfl, hb⟩
          have B3 := hid (below_more B2.out _ hb)
          have K3 := hid ((K2.out.below (balloc v2 _)).below hb)
          have X3 := hid ((X2.out.below (balloc v2 _)).below hb)
          have Y3 := hid (Y2.out.below hb)
          clear hb B2 K2 X2 Y2
          go_wp2_with fail
          refine (C4.out _ (T.out.below (by first | exact btw (by assumption) | exact btw_al (by assumption) _ | exact btw_dr (by assumption) | exact btw_ad (by assumption) _ | exact Below.refl _ _ | exact (Below.refl _ _).alloc (Nat.le_refl _) _))).mono ?_
          rintro e v4 ⟨rfl, hb⟩
          have B4 := hid (below_more B3.out _ hb)
          have K4 := hid ((K3.out.below (balloc v3 _)).below hb)
          have X4 := hid ((X3.out.below (balloc v3 _)).below hb)
          have Y4 := hid ((Y3.out.below (balloc v3 _)).below hb)
          clear hb B3 K3 X3 Y3
          go_wp2_with fail
          refine (ipfirst_calls _ (T.out.below (by first | exact btw (by assumption) | exact btw_al (by assumption) _ | exact btw_dr (by assumption) | exact btw_ad (by assumption) _ | exact Below.refl _ _ | exact (Below.refl _ _).alloc (Nat.le_refl _) _))).mono ?_
          rintro e v5 ⟨rfl, hb⟩
          have B5 := hid (below_more B4.out _ hb)
          have K5 := hid ((K4.out.below (balloc v4 _)).below hb)
          have X5 := hid ((X4.out.below (balloc v4 _)).below hb)
          have Y5 := hid ((Y4.out.below (balloc v4 _)).below hb)
          clear hb B4 K4 X4 Y4
          obtain ⟨c0, c1, c2, c3, c4, c5, c6, c7⟩ := blk8 K5.out
          obtain ⟨d0, d1, d2, d3, d4, d5, d6, d7⟩ := blk8 X5.out
          obtain ⟨e0, e1, e2, e3, e4, e5, e6, e7⟩ := blk8 Y5.out
          go_wp2_with fail
          go_ret
          exact ⟨rfl, B5.out⟩
theorem ipRuns_walk (p0 p1 p2 p3 p4 p5 p6 p7 : Nat) (at' n : Int) (w : World) (T0 : Tab w) (hx : ∀ x ∈ [p0, p1, p2, p3, p4, p5, p6, p7], x < 65536) (ha : -9223372036854775808 ≤ at' ∧ at' ≤ 9223372036854775807) (hn : -9223372036854775808 ≤ n ∧ n ≤ 9223372036854775807) :
    Calls Tryd.prog 8 #[agg8 p0 p1 p2 p3 p4 p5 p6 p7, .int .i64 at', .int .i64 n] w fun e w' => e = .returned (.bool true) ∧ Below w.heap.size w w' := by
  have T := hid T0
  clear T0
  by_cases h : at' < 0 ∨ (¬ at' < 0 ∧ n < 1) ∨ (¬ at' < 0 ∧ ¬ n < 1 ∧ 8 < n) ∨ (¬ at' < 0 ∧ ¬ n < 1 ∧ ¬ 8 < n ∧ 8 - n < at')
  · exact ipRuns_out p0 p1 p2 p3 p4 p5 p6 p7 at' n w T.out h
  · obtain ⟨A, rfl⟩ := Int.eq_ofNat_of_zero_le (a := at') (by omega)
    obtain ⟨N, rfl⟩ := Int.eq_ofNat_of_zero_le (a := n) (by omega)
    exact ipRuns_in p0 p1 p2 p3 p4 p5 p6 p7 A N w T.out hx (by omega) (by omega) (by omega)
end Go.Proofs.YtghhdccnocpobaaDoor
