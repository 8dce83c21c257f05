/- The program's Print. -/
import Derived.Test.YtilamfbpbgcnpaaDoorQyS
namespace Go.Proofs.YtilamfbpbgcnpaaDoor
open Go.RowKit Go.Shelf
set_option linter.unusedVariables false
set_option maxRecDepth 20000
set_option linter.unusedSimpArgs false
theorem one_len (p : Pr) : (oneR p).length ≤ 3 * p.1.length + 3 * p.2.length + 1 := by
  have h1 := (pctR_len 8 p.1).2
  have h2 := (pctR_len 8 p.2).2
  unfold oneR
  rw [List.length_append, List.length_cons]
  omega
theorem print_len (M : Nat) : ∀ (l : List Pr), (∀ p ∈ l, p.1.length ≤ M ∧ p.2.length ≤ M) → (printR l).length ≤ l.length * (6 * M + 2)
  | [], _ => Nat.zero_le _
  | [p], h => by
    have h1 := one_len p
    have h2 := h p (by simp)
    show (oneR p).length ≤ 1 * (6 * M + 2)
    omega
  | p :: q :: r, h => by
    have ih := print_len M (q :: r) (fun x hx => h x (List.mem_cons_of_mem _ hx))
    have h1 := one_len p
    have h2 := h p (by simp)
    show (oneR p ++ 38 :: printR (q :: r)).length ≤ _
    rw [List.length_append, List.length_cons, List.length_cons, Nat.succ_mul]
    omega
theorem print_at (l : List Pr) (k : Nat) (h : k < l.length) : printR (l.take (k + 1)) = if k = 0 then oneR l[k] else printR (l.take k) ++ 38 :: oneR l[k] := by
  rw [List.take_succ_eq_append_getElem h, print_snoc]
  by_cases hk : k = 0
  · subst hk; rw [if_pos rfl]; exact if_pos rfl
  · rw [if_neg hk, if_neg]
    intro e
    have := congrArg List.length e
    rw [List.length_take, List.length_nil] at this
    omega
theorem bwriteL_calls (B : Nat) (l s : List UInt8) (w : World) (h : Bd B l w) (hlen : l.length + s.length ≤ 140737488355328) (hBw : B ≤ w.heap.size) :
    Calls Tryd.prog 22 #[.pointer (some ⟨B, 0, none⟩), .string (strOf s)] w fun e w' => e = .returned (.tuple #[.int .i64 s.length, .nilIface]) ∧ Bd B (l ++ s) w' ∧ Below B w w' ∧ Lib.OthersKept 5 (some B) w w' :=
  bwrite_calls B l (strOf s) w h hlen hBw
theorem kept_block {B g : Nat} {x y : List UInt8} {W W' : World} (h : W.heap[g]? = some (.cells #[fq x, fq y] 36)) (ho : Lib.OthersKept 5 (some B) W W') (hne : g ≠ B) : W'.heap[g]? = some (.cells #[fq x, fq y] 36) :=
  ho g _ h (by intro e; injection e with e; exact hne e) (by intro c fz e; injection e with _ e2 _; exact absurd e2 (by decide))
theorem block_cells {g : Nat} {x y : List UInt8} {W : World} (h : W.heap[g]? = some (.cells #[fq x, fq y] 36)) : W.cell? ⟨g, 0, none⟩ = some (fq x) ∧ W.cell? ⟨g, 1, none⟩ = some (fq y) := by
  constructor <;> simp [World.cell?, h]
set_option maxHeartbeats 4000000 in
theorem print_calls (v : Value) (l : List Pr) (w : World) (T : TabPc w) (hv : PRow w v l) (hl : l.length ≤ 1000) (hsz : ∀ p ∈ l, p.1.length ≤ 1100000 ∧ p.2.length ≤ 1100000) :
    Calls Tryd.prog 12 #[v] w fun e w' => e = .returned (.string (strOf (printR l))) ∧ Below w.heap.size w w' := by
  have HT := hid T
  have HS := hid hsz
  obtain ⟨a, cap, rfl, h1, h2, h3⟩ := hv
  have H3 := hid h3
  have HF := hid (Bd.fresh w)
  have HFB := hid ((Below.refl w.heap.size w).alloc (Nat.le_refl _) (.cells #[.pointer none, .slice none 0 0] 47))
  clear h3 T hsz
  unfold maxLen at h2
  go_enter Tryd.func12, Tryd.ntmps12
  go_wp2_with fail
  go_loopw [8] (fun i wr => ∃ k : Nat, k ≤ l.length ∧ i = .int .i64 k ∧ Bd w.heap.size (printR (l.take k)) wr ∧ Below w.heap.size w wr) (fun i _ => l.length - (intOf i).toNat)
  case atStart => exact ⟨0, Nat.zero_le _, rfl, HF.out, HFB.out⟩
  case round =>
    obtain ⟨k, hk, rfl, hbd, hb⟩ := hrel
    have HB := hid hb
    have HBd := hid hbd
    by_cases hlt : k < l.length
    · obtain ⟨b, off, rfl, hbl, hc⟩ := H3.out (by intro h; simp [h] at hlt)
      have ck0 := (hb.cell (p := ⟨b, off + 2 * k, none⟩) hbl).trans (hc _ _ (flatP_at l k hlt).1)
      have ck1 := (hb.cell (p := ⟨b, off + (2 * k + 1), none⟩) hbl).trans (hc _ _ (flatP_at l k hlt).2)
      rw [Nat.mul_comm 2 k] at ck0 ck1
      rw [← Nat.add_assoc] at ck1
      have HM := hid (HS.out l[k] (List.getElem_mem hlt))
      have HA := hid (print_at l k hlt)
      have HLen := hid (print_len 1100000 (l.take k) (fun p hp => HS.out p (List.mem_of_mem_take hp)))
      have k0 : (0 : Int) ≤ (k : Int) := by omega
      have k1 : (k : Int) < (l.length : Int) := by omega
      have HTr := hid (HT.out.below hb)
      clear hc hb hbd
      generalize l[k] = c at *
      obtain ⟨c1, c2⟩ := c
      by_cases hz : k = 0
      · subst hz
        simp only [Nat.zero_mul, Nat.add_zero] at ck0 ck1
        have HL1 : Hid ((pctR 8 c1).length ≤ 3300000 ∧ (pctR 8 c2).length ≤ 3300000) := hid (by
          have h1 := (pctR_len 8 c1).2
          have h2 := (pctR_len 8 c2).2
          have h3 := HM.out
          simp only at h3
          omega)
        clear HLen
        go_wp2_with fail
        have hal := (Below.refl wr.heap.size wr).alloc (Nat.le_refl _) (.cells #[fq c1, fq c2] 36)
        have HG1 : Hid ((wr.alloc (.cells #[fq c1, fq c2] 36)).heap[wr.heap.size]? = some (.cells #[fq c1, fq c2] 36)) := hid (by show (wr.heap.push _)[wr.heap.size]? = _; simp)
        have HD1 := hid (HBd.out.keep hal)
        have HB1 := hid (HB.out.trans (hal.mono HB.out.size))
        have HNe : Hid (wr.heap.size ≠ w.heap.size) := hid (by
          rcases HBd.out with h | h
          · have := h.lt; omega
          · have := h.lt; omega)
        clear hal ck0 ck1
        generalize wr.alloc (.cells #[fq c1, fq c2] 36) = w1 at *
        have ck0 := (block_cells HG1.out).1
        have ck1 := (block_cells HG1.out).2
        refine (written_calls (strOf c1) w1 (HT.out.below HB1.out) (by show c1.length ≤ _; have := HM.out; (try simp only at this); omega)).mono ?_
        rintro e w2 ⟨rfl, hb⟩
        have HD2 := hid (HD1.out.keep hb)
        have HB2 := hid (HB1.out.trans (hb.mono HB1.out.size))
        have HG2 := hid ((hb.block _ (Array.getElem?_eq_some_iff.1 HG1.out).1).trans HG1.out)
        clear ck0 ck1
        have ck0 := (block_cells HG2.out).1
        have ck1 := (block_cells HG2.out).2
        clear hb
        go_wp2_with fail
        refine (bwriteL_calls w.heap.size [] (pctR 8 c1) w2 HD2.out (by have h1 := HL1.out; simp only [List.length_append, List.length_cons, List.length_nil]; omega) HB2.out.size).mono ?_
        rintro e w3 ⟨rfl, hd, hb, ho⟩
        have HD3 := hid hd
        have HB3 := hid (HB2.out.trans hb)
        have HG3 := hid (kept_block HG2.out ho HNe.out)
        have ck0 := (block_cells HG3.out).1
        have ck1 := (block_cells HG3.out).2
        clear hd hb ho
        go_wp2_with fail
        refine (bwriteL_calls w.heap.size (pctR 8 c1) [61] w3 HD3.out (by have h1 := HL1.out; simp only [List.length_append, List.length_cons, List.length_nil]; omega) HB3.out.size).mono ?_
        rintro e w4 ⟨rfl, hd, hb, ho⟩
        have HD4 := hid hd
        have HB4 := hid (HB3.out.trans hb)
        have HG4 := hid (kept_block HG3.out ho HNe.out)
        have ck0 := (block_cells HG4.out).1
        have ck1 := (block_cells HG4.out).2
        clear hd hb ho
        go_wp2_with fail
        refine (written_calls (strOf c2) w4 (HT.out.below HB4.out) (by show c2.length ≤ _; have := HM.out; (try simp only at this); omega)).mono ?_
        rintro e w5 ⟨rfl, hb⟩
        have HD5 := hid (HD4.out.keep hb)
        have HB5 := hid (HB4.out.trans (hb.mono HB4.out.size))
        have HG5 := hid ((hb.block _ (Array.getElem?_eq_some_iff.1 HG4.out).1).trans HG4.out)
        clear ck0 ck1
        have ck0 := (block_cells HG5.out).1
        have ck1 := (block_cells HG5.out).2
        clear hb
        go_wp2_with fail
        refine (bwriteL_calls w.heap.size (pctR 8 c1 ++ [61]) (pctR 8 c2) w5 HD5.out (by have h1 := HL1.out; simp only [List.length_append, List.length_cons, List.length_nil]; omega) HB5.out.size).mono ?_
        rintro e w6 ⟨rfl, hd, hb, ho⟩
        have HD6 := hid hd
        have HB6 := hid (HB5.out.trans hb)
        have HG6 := hid (kept_block HG5.out ho HNe.out)
        have ck0 := (block_cells HG6.out).1
        have ck1 := (block_cells HG6.out).2
        clear hd hb ho
        go_wp2_with fail
        go_round
        case rel => exact ⟨1, by omega, by go_num, by rw [HA.out, if_pos True.intro]; have := HD6.out; simpa [oneR, List.append_assoc] using this, HB6.out⟩
        case measure => simp [intOf]; omega
      · have kp : (0 : Int) < (k : Int) := by omega
        have HL1 : Hid ((pctR 8 c1).length ≤ 3300000 ∧ (pctR 8 c2).length ≤ 3300000 ∧ (printR (l.take k)).length ≤ 7000000000) := hid (by
          have h1 := (pctR_len 8 c1).2
          have h2 := (pctR_len 8 c2).2
          have h3 := HM.out
          have h4 := HLen.out
          simp only [List.length_take] at h3 h4
          have h5 := Nat.mul_le_mul_right (6 * 1100000 + 2) (show min k l.length ≤ 1000 by omega)
          omega)
        go_wp2_with fail
        have hal := (Below.refl wr.heap.size wr).alloc (Nat.le_refl _) (.cells #[fq c1, fq c2] 36)
        have HG1 : Hid ((wr.alloc (.cells #[fq c1, fq c2] 36)).heap[wr.heap.size]? = some (.cells #[fq c1, fq c2] 36)) := hid (by show (wr.heap.push _)[wr.heap.size]? = _; simp)
        have HD1 := hid (HBd.out.keep hal)
        have HB1 := hid (HB.out.trans (hal.mono HB.out.size))
        have HNe : Hid (wr.heap.size ≠ w.heap.size) := hid (by
          rcases HBd.out with h | h
          · have := h.lt; omega
          · have := h.lt; omega)
        clear hal ck0 ck1
        generalize wr.alloc (.cells #[fq c1, fq c2] 36) = w1 at *
        have ck0 := (block_cells HG1.out).1
        have ck1 := (block_cells HG1.out).2
        refine (bwriteL_calls w.heap.size (printR (l.take k)) [38] w1 HD1.out (by have h1 := HL1.out; simp only [List.length_append, List.length_cons, List.length_nil]; omega) HB1.out.size).mono ?_
        rintro e w2 ⟨rfl, hd, hb, ho⟩
        have HD2 := hid hd
        have HB2 := hid (HB1.out.trans hb)
        have HG2 := hid (kept_block HG1.out ho HNe.out)
        have ck0 := (block_cells HG2.out).1
        have ck1 := (block_cells HG2.out).2
        clear hd hb ho
        go_wp2_with fail
        refine (written_calls (strOf c1) w2 (HT.out.below HB2.out) (by show c1.length ≤ _; have := HM.out; (try simp only at this); omega)).mono ?_
        rintro e w3 ⟨rfl, hb⟩
        have HD3 := hid (HD2.out.keep hb)
        have HB3 := hid (HB2.out.trans (hb.mono HB2.out.size))
        have HG3 := hid ((hb.block _ (Array.getElem?_eq_some_iff.1 HG2.out).1).trans HG2.out)
        clear ck0 ck1
        have ck0 := (block_cells HG3.out).1
        have ck1 := (block_cells HG3.out).2
        clear hb
        go_wp2_with fail
        refine (bwriteL_calls w.heap.size ((printR (l.take k)) ++ [38]) (pctR 8 c1) w3 HD3.out (by have h1 := HL1.out; simp only [List.length_append, List.length_cons, List.length_nil]; omega) HB3.out.size).mono ?_
        rintro e w4 ⟨rfl, hd, hb, ho⟩
        have HD4 := hid hd
        have HB4 := hid (HB3.out.trans hb)
        have HG4 := hid (kept_block HG3.out ho HNe.out)
        have ck0 := (block_cells HG4.out).1
        have ck1 := (block_cells HG4.out).2
        clear hd hb ho
        go_wp2_with fail
        refine (bwriteL_calls w.heap.size ((printR (l.take k)) ++ [38] ++ pctR 8 c1) [61] w4 HD4.out (by have h1 := HL1.out; simp only [List.length_append, List.length_cons, List.length_nil]; omega) HB4.out.size).mono ?_
        rintro e w5 ⟨rfl, hd, hb, ho⟩
        have HD5 := hid hd
        have HB5 := hid (HB4.out.trans hb)
        have HG5 := hid (kept_block HG4.out ho HNe.out)
        have ck0 := (block_cells HG5.out).1
        have ck1 := (block_cells HG5.out).2
        clear hd hb ho
        go_wp2_with fail
        refine (written_calls (strOf c2) w5 (HT.out.below HB5.out) (by show c2.length ≤ _; have := HM.out; (try simp only at this); omega)).mono ?_
        rintro e w6 ⟨rfl, hb⟩
        have HD6 := hid (HD5.out.keep hb)
        have HB6 := hid (HB5.out.trans (hb.mono HB5.out.size))
        have HG6 := hid ((hb.block _ (Array.getElem?_eq_some_iff.1 HG5.out).1).trans HG5.out)
        clear ck0 ck1
        have ck0 := (block_cells HG6.out).1
        have ck1 := (block_cells HG6.out).2
        clear hb
        go_wp2_with fail
        refine (bwriteL_calls w.heap.size ((printR (l.take k)) ++ [38] ++ pctR 8 c1 ++ [61]) (pctR 8 c2) w6 HD6.out (by have h1 := HL1.out; simp only [List.length_append, List.length_cons, List.length_nil]; omega) HB6.out.size).mono ?_
        rintro e w7 ⟨rfl, hd, hb, ho⟩
        have HD7 := hid hd
        have HB7 := hid (HB6.out.trans hb)
        have HG7 := hid (kept_block HG6.out ho HNe.out)
        have ck0 := (block_cells HG7.out).1
        have ck1 := (block_cells HG7.out).2
        clear hd hb ho
        go_wp2_with fail
        go_round
        case rel => exact ⟨k + 1, by omega, by go_num, by rw [HA.out, if_neg hz]; have := HD7.out; simpa [oneR, List.append_assoc] using this, HB7.out⟩
        case measure => simp [intOf]; omega
    · have hkl : k = l.length := by omega
      subst hkl
      have HE : Hid (Bd w.heap.size (printR l) wr) := hid (by have := HBd.out; rwa [List.take_length] at this)
      clear hb hbd
      go_wp2_with fail
      refine (bstring_calls w.heap.size (printR l) wr HE.out HB.out.size).mono ?_
      rintro e w2 ⟨rfl, hb⟩
      have HB2 := hid (HB.out.trans hb)
      clear hb
      go_wp2_with fail
      go_ret
      exact ⟨rfl, HB2.out⟩
end Go.Proofs.YtilamfbpbgcnpaaDoor
