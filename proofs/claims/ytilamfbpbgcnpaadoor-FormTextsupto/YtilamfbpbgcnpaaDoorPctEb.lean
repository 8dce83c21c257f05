/- The document's Percent. -/
import Derived.Test.YtilamfbpbgcnpaaDoorPctA
import Derived.Test.YtilamfbpbgcnpaaDoorPctDb
namespace Go.Proofs.YtilamfbpbgcnpaaDoor.Bg
open Go.RowKit
set_option linter.unusedVariables false
set_option maxRecDepth 20000
attribute [local go_sem ↓] Go.wp_at_zero Go.wp_at_succ
set_option maxHeartbeats 2000000 in
theorem percent_calls (set : Int) (v : Value) (l : List UInt8) (w : World) (hv : BRow w v l) (hl : l.length ≤ 2500000) :
    Calls Tryd.prog 25 #[.int .i64 set, v] w fun e w' => e = .returned (.string (strOf (pctR set l))) ∧ Below w.heap.size w w' := by
  obtain ⟨a, cap, rfl, h1, h2, h3⟩ := hv
  have H3 := hid h3
  clear h3
  unfold maxLen at h2
  go_enter Tryd.func25, Tryd.ntmps25
  go_wp2
  go_loopw [6, 7] (fun v i wr => ∃ k : Nat, k ≤ l.length ∧ i = .int .i64 k ∧ BOwn wr w.heap.size v (pctR set (l.take k)) ∧ Below w.heap.size w wr) (fun _ i _ => l.length - (intOf i).toNat)
  case atStart => exact ⟨0, Nat.zero_le _, rfl, Own.nil _ _ _ _, Below.refl _ _⟩
  case round =>
    obtain ⟨k, hk, rfl, ho, hb⟩ := hrel
    by_cases hlt : k < l.length
    · obtain ⟨b, off, rfl, hbl, hc⟩ := H3.out (by intro h; simp [h] at hlt)
      have hck := (hb.cell (p := ⟨b, off + k, none⟩) hbl).trans (hc k hlt)
      clear hc
      have HN := hid (pct_snoc set l k hlt)
      have hlen := (pctR_len set (l.take k)).2
      have hsz := hb.size
      rw [List.length_take] at hlen
      have hln : (pctR set (l.take k)).length ≤ 7500000 := by omega
      clear hlen
      generalize pctR set (l.take k) = xs at *
      generalize l[k] = c at *
      have hcl := byte_lt c
      have HO := hid ho
      have HB := hid hb
      clear ho hb
      have k0 : (0 : Int) ≤ (k : Int) := by omega
      have k1 : (k : Int) < (l.length : Int) := by omega
      obtain ⟨t, hin⟩ : ∃ t, inR set c.toNat = t := ⟨_, rfl⟩
      have HIN := hid (rin_calls set c.toNat hcl)
      rw [hin] at HIN
      by_cases hbk : set = 8 ∧ c = 32
      · have HP := hid (encP_blank hbk.1 hbk.2)
        obtain ⟨rfl, rfl⟩ := hbk
        clear hin HIN
        obtain ⟨v', w1, hr, ho1, hg1⟩ := append_run (HO.out.alloc (.cells #[.int .u8 43] 5)) (plus_row wr) (by simp; omega) (by simp; omega)
        have HO1 := hid ho1
        have HB1 := hid ((HB.out.alloc hsz _).grown hg1 (by simp; omega) (fun k hk => (World.ownsRow.lt HO.out k hk).1))
        clear ho1 hg1
        go_wp2_with (at_builtin; go_must (refine wpList_append_run hr rfl _ _ rfl rfl rfl rfl ?_))
        go_roundw
        case rel => exact ⟨k + 1, by omega, by go_num, by rw [HN.out, HP.out]; exact HO1.out, HB1.out⟩
        case measure => simp [intOf]; omega
      · have HW : Hid ((set == 8 && (c.toNat : Int) == 32) = false) := by
          show _ = _
          rw [show ((c.toNat : Int) == 32) = (c == 32) from byte_eq (d := 32)]
          rw [Bool.and_eq_false_iff]
          by_cases h8 : set = 8
          · exact .inr (beq_eq_false_iff_ne.2 (fun e => hbk ⟨h8, e⟩))
          · exact .inl (beq_eq_false_iff_ne.2 h8)
        have hw8 : (set == 8) = true ∧ ((c.toNat : Int) == 32) = false ∨ (set == 8) = false := by
          cases h8 : set == 8 with
          | true => have h := HW.out; rw [h8, Bool.true_and] at h; exact .inl ⟨rfl, h⟩
          | false => exact .inr rfl
        clear HW
        cases t with
        | false =>
          have HP := hid (encP_plain hin)
          clear hin hbk
          obtain ⟨v', w1, hr, ho1, hg1⟩ := append_run (HO.out.alloc (.cells #[.int .u8 (c.toNat : Int)] 5)) (one_rowPc wr c) (by simp; omega) (by simp; omega)
          have HO1 := hid ho1
          have HB1 := hid ((HB.out.alloc hsz _).grown hg1 (by simp; omega) (fun k hk => (World.ownsRow.lt HO.out k hk).1))
          clear ho1 hg1
          rcases hw8 with ⟨w8, w32⟩ | w8
          all_goals
            go_wp2_with fail
            refine (HIN.out _).mono ?_
            rintro e wz ⟨rfl, rfl⟩
            go_wp2_with (at_builtin; go_must (refine wpList_append_run hr rfl _ _ rfl rfl rfl rfl ?_))
            go_roundw
            case rel => exact ⟨k + 1, by omega, by go_num, by rw [HN.out, HP.out]; exact HO1.out, HB1.out⟩
            case measure => simp [intOf]; omega
        | true =>
          have HP0 := hid (encP_hex hin hbk)
          obtain ⟨hi, qh⟩ : ∃ hi : Nat, hi = c.toNat / 16 := ⟨_, rfl⟩
          obtain ⟨lo, ql⟩ : ∃ lo : Nat, lo = c.toNat % 16 := ⟨_, rfl⟩
          have eh : (c.toNat : Int) / 16 = (hi : Int) := by omega
          have el : bits .and .u8 (c.toNat : Int) 15 = (lo : Int) := by rw [u8low, ql]
          have ah := hex_at hi (by omega)
          have al := hex_at lo (by omega)
          have HP : Hid (encP set c = [37, dgU hi, dgU lo]) := by show encP set c = _; rw [HP0.out, qh, ql]
          clear qh ql hin hbk HP0
          generalize dgU hi = ch at *
          generalize dgU lo = cl at *
          rcases hw8 with ⟨w8, w32⟩ | w8
          all_goals
            go_wp2_with fail
            refine (HIN.out _).mono ?_
            rintro e wz ⟨rfl, rfl⟩
            go_wp2_with fail
            go_region_held3 (fun w' => w'.cell? ⟨b, off + k, none⟩ = some (.int .u8 (c.toNat : Int))) (go_keep) ((refine step_append (HO.out.alloc _).drew (three_row wz _ _).drew (by simp; omega) (by simp; omega) rfl _ _ rfl rfl rfl rfl ?_; intro v' w1 ho1 hg1; have HO1 := hid ho1; have HB1 := hid ((HB.out.alloc hsz _).drew.grown hg1 (by simp; omega) (fun k hk => (World.ownsRow.lt HO.out k hk).1)); have hck1 : w1.cell? ⟨b, off + k, none⟩ = some (.int .u8 (c.toNat : Int)) := (HB1.out.cell (p := ⟨b, off + k, none⟩) hbl).trans ((HB.out.cell (p := ⟨b, off + k, none⟩) hbl).symm.trans hck); clear ho1 hg1))
            all_goals
              clear HO HB
              go_wp2
              go_roundw
              case rel => exact ⟨k + 1, by omega, by go_num, by rw [HN.out, HP.out]; assumption, by assumption⟩
              case measure => simp [intOf]; omega
    · have hr := run_string (by have := ho.row; rwa [List.take_of_length_le (by omega)] at this)
      have HB := hid hb
      clear ho hb
      go_wp2
      go_ret
      exact ⟨rfl, HB.out⟩
end Go.Proofs.YtilamfbpbgcnpaaDoor.Bg
