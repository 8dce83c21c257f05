/- The program's Encode. -/
import Derived.Test.YtilamfbpbgcnpaaDoorRowWb
import Derived.Test.YtilamfbpbgcnpaaDoorPctD
import Derived.Deep.RegionHeld3
import Derived.Deep.DrawnRows
import Derived.Deep.DeepMust
namespace Go.Proofs.YtilamfbpbgcnpaaDoor.Bg
open Go.RowKit
set_option linter.unusedVariables false
set_option maxRecDepth 20000
attribute [local go_sem ↓] Go.wp_at_zero Go.wp_at_succ
def dgU (h : Nat) : UInt8 := UInt8.ofNat (hexU h)
theorem hex_at (h : Nat) (hh : h < 16) (w : World) : (Instr.index 9 (.string ⟨#[48, 49, 50, 51, 52, 53, 54, 55, 56, 57, 65, 66, 67, 68, 69, 70]⟩) (.int .u8 (h : Int))).run Tryd.prog w = .ok (.int .u8 ((dgU h).toNat : Int)) w := by
  obtain rfl | rfl | rfl | rfl | rfl | rfl | rfl | rfl | rfl | rfl | rfl | rfl | rfl | rfl | rfl | rfl : h = 0 ∨ h = 1 ∨ h = 2 ∨ h = 3 ∨ h = 4 ∨ h = 5 ∨ h = 6 ∨ h = 7 ∨ h = 8 ∨ h = 9 ∨ h = 10 ∨ h = 11 ∨ h = 12 ∨ h = 13 ∨ h = 14 ∨ h = 15 := by omega
  all_goals kernel_rfl
theorem u8low (c : UInt8) : bits .and .u8 (c.toNat : Int) 15 = ((c.toNat % 16 : Nat) : Int) := by
  rw [show (15 : Int) = ((15 : Nat) : Int) from rfl, u8_and_nat c.toNat 15 (byte_lt c) (by decide), Nat.and_two_pow_sub_one_eq_mod c.toNat 4]
theorem pct_snoc (set : Int) (l : List UInt8) (k : Nat) (h : k < l.length) : pctR set (l.take (k + 1)) = pctR set (l.take k) ++ encP set l[k] := by
  unfold pctR; rw [List.take_succ_eq_append_getElem h, List.flatMap_append]; simp
theorem encP_blank {set : Int} {c : UInt8} (h : set = 8) (hc : c = 32) : encP set c = [43] := by unfold encP; rw [if_pos ⟨h, hc⟩]
theorem encP_plain {set : Int} {c : UInt8} (h : inR set c.toNat = false) : encP set c = [c] := by
  unfold encP
  rw [if_neg, if_neg]
  · rw [h]; decide
  · rintro ⟨rfl, rfl⟩
    revert h
    decide
theorem encP_hex {set : Int} {c : UInt8} (h : inR set c.toNat = true) (hn : ¬ (set = 8 ∧ c = 32)) : encP set c = [37, dgU (c.toNat / 16), dgU (c.toNat % 16)] := by
  unfold encP
  rw [if_neg hn, if_pos h]
  rfl
theorem one_rowPc (w : World) (c : UInt8) : BRow (w.alloc (.cells #[.int .u8 (c.toNat : Int)] 5)) (.slice (some ⟨w.heap.size, 0, none⟩) 1 1) [c] := Row.lit fb w [c] 5 (0, 0) (by simp)
theorem plus_row (w : World) : BRow (w.alloc (.cells #[.int .u8 43] 5)) (.slice (some ⟨w.heap.size, 0, none⟩) 1 1) [43] := one_rowPc w 43
theorem three_row (w : World) (c d : UInt8) : BRow (w.alloc (.cells #[.int .u8 37, .int .u8 (c.toNat : Int), .int .u8 (d.toNat : Int)] 5)) (.slice (some ⟨w.heap.size, 0, none⟩) 3 3) [37, c, d] := Row.lit fb w [37, c, d] 5 (0, 0) (by simp)
theorem step_append {w : World} {base : Nat} {v : Value} {xs : List UInt8} {x : Value} {l : List UInt8} (hown : BOwn w base v xs) (hrow : BRow w x l) (hlen : xs.length + l.length ≤ 16000000) (hbase : base ≤ w.heap.size)
    {ops : Array Oper} {o : Oper} {a : Act} {K : Act → World → Prop} {Q : Exit → Act → World → Prop} {E : Prop} (hgd : o.guard = none) (s y : Operand)
    (ho : o.op = .call { callee := .builtin .append, args := #[s, y], argTypes := #[45, 45] }) (hty : o.type = 45) (hs : a.eval s = v) (hx : a.eval y = x)
    (h : ∀ v' w', BOwn w' base v' (xs ++ l) → w.grownBy w' v.ownBlock → K (a.put o.dst v') w') :
    if Region.wanted o (yielded ops a.tmps) = true then Oper.wp Tryd.prog o a w K Q else E := by
  have hw : Region.wanted o (yielded ops a.tmps) = true := by simp [Region.wanted, hgd]
  rw [if_pos hw]
  obtain ⟨v', w', hr, ho', hg⟩ := append_run hown hrow hlen hbase
  unfold Oper.wp execOp
  simp only [ho, resolve, invoke, builtin, Sem.run_bind, Sem.run_pure, Result.andThen_ok, List.map_toArray, List.map_cons, List.map_nil, hs, hx, hty, hr]
  exact h v' w' ho' hg
theorem Own.made' (w : World) (n : Nat) (hn : n ≤ 16000000) : BOwn (w.alloc (.cells (madeCells #[.int .u8 0] n) 5)) w.heap.size (.slice (some ⟨w.heap.size, 0, none⟩) 0 n) [] := Own.made fb 5 w _ n (by rw [size_madeCells]) hn
theorem byte_eq {c d : UInt8} : ((c.toNat : Int) == (d.toNat : Int)) = (c == d) := by
  by_cases h : c = d
  · subst h; simp
  · rw [beq_eq_false_iff_ne.2 h, beq_eq_false_iff_ne]
    intro e
    exact h (UInt8.toNat_inj.1 (by omega))
set_option maxHeartbeats 2000000 in
theorem encode_callsPc (set : Int) (v : Value) (l : List UInt8) (w : World) (ht : TabPc w) (hv : BRow w v l) (hl : l.length ≤ 2500000) :
    Calls Tryd.prog 39 #[.int .i64 set, v] w fun e w' => e = .returned (.string (strOf (pctR set l))) ∧ Below w.heap.size w w' := by
  obtain ⟨a, cap, rfl, h1, h2, h3⟩ := hv
  have hmk := makeB l.length (by omega)
  have HT := hid ht
  have H3 := hid h3
  clear h3 ht
  unfold maxLen at h2
  go_enter Tryd.func39, Tryd.ntmps39
  go_wp2
  go_loopw [5, 13] (fun v i wr => ∃ k : Nat, k ≤ l.length ∧ i = .int .i64 k ∧ BOwn wr w.heap.size v (pctR set (l.take k)) ∧ Below w.heap.size w wr) (fun _ i _ => l.length - (intOf i).toNat)
  case atStart => exact ⟨0, Nat.zero_le _, rfl, Own.made' w _ (by omega), (Below.refl _ _).alloc (Nat.le_refl _) _⟩
  case round =>
    obtain ⟨k, hk, rfl, ho, hb⟩ := hrel
    clear hmk
    by_cases hlt : k < l.length
    · obtain ⟨b, off, rfl, hbl, hc⟩ := H3.out (by intro h; simp [h] at hlt)
      have hck := (hb.cell (p := ⟨b, off + k, none⟩) hbl).trans (hc k hlt)
      clear hc
      have HN := hid (pct_snoc set l k hlt)
      have hlen := (pctR_len set (l.take k)).2
      have hsz := hb.size
      rw [List.length_take] at hlen
      have hln : (pctR set (l.take k)).length ≤ 7500000 := by omega
      clear hlen
      generalize pctR set (l.take k) = xs at *
      generalize l[k] = c at *
      have hcl := byte_lt c
      have HTr := hid (HT.out.below hb)
      have HO := hid ho
      have HB := hid hb
      clear ho hb
      obtain ⟨t, hin⟩ : ∃ t, inR set c.toNat = t := ⟨_, rfl⟩
      have HIN := hid (in_calls set c.toNat hcl _ HTr.out)
      rw [hin] at HIN
      cases t with
      | false =>
        have HP := hid (encP_plain hin)
        clear hin
        obtain ⟨v', w1, hr, ho1, hg1⟩ := append_run (HO.out.alloc (.cells #[.int .u8 (c.toNat : Int)] 5)) (one_rowPc wr c) (by simp; omega) (by simp; omega)
        have HO1 := hid ho1
        have HB1 := hid ((HB.out.alloc hsz _).grown hg1 (by simp; omega) (fun k hk => (World.ownsRow.lt HO.out k hk).1))
        clear ho1 hg1
        go_wp2_with fail
        refine HIN.out.mono ?_
        rintro e wz ⟨rfl, rfl⟩
        go_wp2_with (at_builtin; go_must (refine wpList_append_run hr rfl _ _ rfl rfl rfl rfl ?_))
        go_roundw
        case rel => exact ⟨k + 1, by omega, by go_num, by rw [HN.out, HP.out]; exact HO1.out, HB1.out⟩
        case measure => simp [intOf]; omega
      | true =>
        by_cases hbk : set = 8 ∧ c = 32
        · have HP := hid (encP_blank hbk.1 hbk.2)
          obtain ⟨rfl, rfl⟩ := hbk
          clear hin
          obtain ⟨v', w1, hr, ho1, hg1⟩ := append_run (HO.out.alloc (.cells #[.int .u8 43] 5)) (plus_row wr) (by simp; omega) (by simp; omega)
          have HO1 := hid ho1
          have HB1 := hid ((HB.out.alloc hsz _).grown hg1 (by simp; omega) (fun k hk => (World.ownsRow.lt HO.out k hk).1))
          clear ho1 hg1
          go_wp2_with fail
          refine HIN.out.mono ?_
          rintro e wz ⟨rfl, rfl⟩
          go_wp2_with (at_builtin; go_must (refine wpList_append_run hr rfl _ _ rfl rfl rfl rfl ?_))
          go_roundw
          case rel => exact ⟨k + 1, by omega, by go_num, by rw [HN.out, HP.out]; exact HO1.out, HB1.out⟩
          case measure => simp [intOf]; omega
        · have HP0 := hid (encP_hex hin hbk)
          obtain ⟨hi, qh⟩ : ∃ hi : Nat, hi = c.toNat / 16 := ⟨_, rfl⟩
          obtain ⟨lo, ql⟩ : ∃ lo : Nat, lo = c.toNat % 16 := ⟨_, rfl⟩
          have eh : (c.toNat : Int) / 16 = (hi : Int) := by omega
          have el : bits .and .u8 (c.toNat : Int) 15 = (lo : Int) := by rw [u8low, ql]
          have ah := hex_at hi (by omega)
          have al := hex_at lo (by omega)
          have HP : Hid (encP set c = [37, dgU hi, dgU lo]) := by show encP set c = _; rw [HP0.out, qh, ql]
          have HW : Hid ((set == 8 && (c.toNat : Int) == 32) = false) := by
            show _ = _
            rw [show ((c.toNat : Int) == 32) = (c == 32) from byte_eq (d := 32)]
            rw [Bool.and_eq_false_iff]
            by_cases h8 : set = 8
            · exact .inr (beq_eq_false_iff_ne.2 (fun e => hbk ⟨h8, e⟩))
            · exact .inl (beq_eq_false_iff_ne.2 h8)
          clear qh ql hin hbk HP0
          generalize dgU hi = ch at *
          generalize dgU lo = cl at *
          have hw8 : (set == 8) = true ∧ ((c.toNat : Int) == 32) = false ∨ (set == 8) = false := by
            cases h8 : set == 8 with
            | true => have h := HW.out; rw [h8, Bool.true_and] at h; exact .inl ⟨rfl, h⟩
            | false => exact .inr rfl
          clear HW
          rcases hw8 with ⟨w8, w32⟩ | w8
          all_goals
            go_wp2_with fail
            refine HIN.out.mono ?_
            rintro e wz ⟨rfl, rfl⟩
            go_wp2_with fail
            go_region_held3 (fun w' => True) (trivial) ((refine step_append (HO.out.alloc _).drew (three_row wz _ _).drew (by simp; omega) (by simp; omega) rfl _ _ rfl rfl rfl rfl ?_; intro v' w1 ho1 hg1))
            all_goals
              have HO1 := hid ho1
              have HB1 := hid ((HB.out.alloc hsz _).drew.grown hg1 (by simp; omega) (fun k hk => (World.ownsRow.lt HO.out k hk).1))
              clear ho1 hg1 HO HB
              go_wp2
              go_roundw
              case rel => exact ⟨k + 1, by omega, by go_num, by rw [HN.out, HP.out]; exact HO1.out, HB1.out⟩
              case measure => simp [intOf]; omega
    · have hr := run_string (by have := ho.row; rwa [List.take_of_length_le (by omega)] at this)
      have HB := hid hb
      clear ho hb
      go_wp2
      go_ret
      exact ⟨rfl, HB.out⟩
end Go.Proofs.YtilamfbpbgcnpaaDoor.Bg
