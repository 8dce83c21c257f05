/- The document's Unpercent. -/
import Derived.Test.YtilamfbpbgcnpaaDoorPctF
namespace Go.Proofs.YtilamfbpbgcnpaaDoor
open Go.RowKit
set_option linter.unusedVariables false
set_option maxRecDepth 20000
attribute [local go_sem ↓] Go.wp_at_zero Go.wp_at_succ
theorem rd_somePc {n d : Nat} (h : hexV n = some d) : rdPc n = (d : Int) := by unfold rdPc; rw [h]
theorem rd_nonePc {n : Nat} (h : hexV n = none) : rdPc n = -1 := by unfold rdPc; rw [h]
theorem index_at (s : ByteArray) (i : Int) (k : Nat) (hi : i = (k : Int)) (h : k < s.size) (w : World) : (Instr.index 9 (.string s) (.int .i64 i)).run Tryd.prog w = .ok (.int .u8 (s[k].toNat : Int)) w := by
  subst hi
  rw [run_index_string w 9 s .i64 (k : Int) Tryd.underlying9]
  simp [h]
theorem drop_atPc (s : ByteArray) (k : Nat) (h : k < s.size) : s.data.toList.drop k = s[k] :: s.data.toList.drop (k + 1) := by
  rw [List.drop_eq_getElem_cons (by rw [bytes_num]; exact h)]
  rfl
/-- Where one byte stands for itself. -/
theorem next_self (s : ByteArray) (k : Nat) (h : k < s.size) (hn : s[k].toNat ≠ 37 ∨ ¬ k + 2 < s.size) : nextR (s.data.toList.drop k) = (s[k], 1) := by
  rw [drop_atPc s k h]
  by_cases hc : s[k] = 37
  · have h2 : ¬ k + 2 < s.size := by
      rcases hn with hn | hn
      · exact absurd (by rw [hc]; rfl) hn
      · exact hn
    rw [hc]
    have hl : (s.data.toList.drop (k + 1)).length ≤ 1 := by rw [List.length_drop, bytes_num]; omega
    revert hl
    generalize s.data.toList.drop (k + 1) = r
    intro hl
    match r, hl with
    | [], _ => rfl
    | [a], _ => rfl
    | a :: b :: r', h => exfalso; simp at h
  · exact nextR_plain hc
theorem next_pair (s : ByteArray) (k : Nat) (h : k + 2 < s.size) (hc : s[k].toNat = 37) : s.data.toList.drop k = 37 :: s[k + 1] :: s[k + 2] :: s.data.toList.drop (k + 3) := by
  rw [drop_atPc s k (by omega), drop_atPc s (k + 1) (by omega), drop_atPc s (k + 2) (by omega), show s[k] = 37 from u8_eq (by rw [hc]; rfl)]
set_option maxHeartbeats 4000000 in
theorem unpercent_calls (s : ByteArray) (w : World) (hs : s.size ≤ 100000) :
    Calls Tryd.prog 36 #[.string s] w fun e w' => (∃ v, e = .returned v ∧ BRow w' v (unR s.data.toList)) ∧ Below w.heap.size w w' := by
  have HL := hid (bytes_num s)
  have s1 : (s.size : Int) ≤ 100000 := by omega
  go_enter Tryd.func36, Tryd.ntmps36
  go_wp2
  go_loopw [3, 4] (fun v i wr => ∃ (k : Nat) (o : List UInt8), k ≤ s.size ∧ i = .int .i64 k ∧ o.length ≤ k ∧ BOwn wr w.heap.size v o ∧ Below w.heap.size w wr ∧ o ++ unR (s.data.toList.drop k) = unR s.data.toList) (fun _ i _ => s.size - (intOf i).toNat)
  case atStart => exact ⟨0, [], Nat.zero_le _, rfl, Nat.le_refl _, Own.nil _ _ _ _, Below.refl _ _, rfl⟩
  case round =>
    obtain ⟨k, o, hk, rfl, hol, ho, hb, hu⟩ := hrel
    have HO := hid ho
    have HB := hid hb
    have HU := hid hu
    have HOL := hid hol
    have hsz := hb.size
    clear ho hb hu hol
    have k0 : (0 : Int) ≤ (k : Int) := by omega
    by_cases hlt : k < s.size
    · have hkl : k < s.data.toList.length := by rw [HL.out]; exact hlt
      have HST : Hid (∀ c m, nextR (s.data.toList.drop k) = (c, m) → (o ++ [c]) ++ unR (s.data.toList.drop (k + m)) = unR s.data.toList) := fun c m h => next_step hkl HU.out h
      have HNS := hid (next_self s k hlt)
      have HNP := hid (next_pair s k)
      have i0 := index_at s (k : Int) k rfl hlt
      obtain ⟨z, hz⟩ : ∃ z, (s[k]'hlt).toNat = z := ⟨_, rfl⟩
      have z9 : (z : Int) < 256 := by have := byte_lt (s[k]'hlt); omega
      have z0 : (0 : Int) ≤ (z : Int) := by omega
      have k1 : (k : Int) < (s.size : Int) := by omega
      have hrow : BRow (wr.alloc (.cells #[.int .u8 (z : Int)] 5)) (.slice (some ⟨wr.heap.size, 0, none⟩) 1 1) [s[k]'hlt] := by rw [← hz]; exact one_rowPc wr _
      obtain ⟨v', w1, hr, ho1, hg1⟩ := append_run (HO.out.alloc (.cells #[.int .u8 (z : Int)] 5)) hrow (by have := HOL.out; simp; omega) (by simp; omega)
      have HO1 := hid ho1
      have HB1 := hid ((HB.out.alloc hsz _).grown hg1 (by simp; omega) (fun k hk => (World.ownsRow.lt HO.out k hk).1))
      rw [hz] at i0
      have HZ := hid hz
      have HLT := hid hlt
      have HSZ := hid hsz
      clear ho1 hg1 hrow hkl hz
      by_cases h37 : z = 37
      · subst h37
        by_cases h2 : k + 2 < s.size
        · have i1 := index_at s ((k : Int) + 1) (k + 1) (by omega) (by omega)
          have i2 := index_at s ((k : Int) + 2) (k + 2) (by omega) h2
          have HD := hid (HNP.out h2 HZ.out)
          obtain ⟨x, hx⟩ : ∃ x, (s[k + 1]'(by omega)).toNat = x := ⟨_, rfl⟩
          obtain ⟨y, hy⟩ : ∃ y, (s[k + 2]'h2).toNat = y := ⟨_, rfl⟩
          have x9 : x < 256 := by rw [← hx]; exact byte_lt _
          have y9 : y < 256 := by rw [← hy]; exact byte_lt _
          have T1 : Hid (hexV x = none → nextR (s.data.toList.drop k) = (s[k]'hlt, 1)) := fun h => by rw [HD.out, show (s[k]'hlt) = 37 from u8_eq (by rw [HZ.out]; rfl)]; exact nextR_none (two_noneL (by rw [hx]; exact h))
          have T2 : Hid (hexV y = none → nextR (s.data.toList.drop k) = (s[k]'hlt, 1)) := fun h => by rw [HD.out, show (s[k]'hlt) = 37 from u8_eq (by rw [HZ.out]; rfl)]; exact nextR_none (two_noneR (by rw [hy]; exact h))
          have T3 : Hid (∀ d1 d2, hexV x = some d1 → hexV y = some d2 → nextR (s.data.toList.drop k) = (UInt8.ofNat (d1 * 16 + d2), 3)) := fun d1 d2 h g => by rw [HD.out]; exact nextR_some (two_some (by rw [hx]; exact h) (by rw [hy]; exact g))
          rw [hx] at i1
          rw [hy] at i2
          have D1 := hid (rdigit_calls x x9)
          have D2 := hid (rdigit_calls y y9)
          have H2 := hid h2
          have k2 : (k : Int) + 2 < (s.size : Int) := by omega
          clear hx hy HD HNS HNP hk
          cases hvx : hexV x with
          | none =>
            have HX := hid (HST.out _ _ (T1.out hvx))
            rw [rd_nonePc hvx] at D1
            clear T1 T2 T3 hvx D2
            go_wp2_with fail
            refine (D1.out _).mono ?_
            rintro e wz ⟨rfl, rfl⟩
            go_wp2_with (at_builtin; go_must (refine wpList_append_run hr rfl _ _ rfl rfl rfl rfl ?_))
            go_roundw
            case rel => exact ⟨k + 1, _, HLT.out, by go_num, by have := HOL.out; simp; omega, HO1.out, HB1.out, HX.out⟩
            case measure => have := HLT.out; simp [intOf]; omega
          | some d1 =>
            rw [rd_somePc hvx] at D1
            have hd1 := hexV_lt hvx
            cases hvy : hexV y with
            | none =>
              have HX := hid (HST.out _ _ (T2.out hvy))
              rw [rd_nonePc hvy] at D2
              clear T1 T2 T3 hvx hvy
              go_wp2_with fail
              refine (D1.out _).mono ?_
              rintro e wz ⟨rfl, rfl⟩
              go_wp2_with fail
              refine (D2.out _).mono ?_
              rintro e wz ⟨rfl, rfl⟩
              go_wp2_with (at_builtin; go_must (refine wpList_append_run hr rfl _ _ rfl rfl rfl rfl ?_))
              go_roundw
              case rel => exact ⟨k + 1, _, HLT.out, by go_num, by have := HOL.out; simp; omega, HO1.out, HB1.out, HX.out⟩
              case measure => have := HLT.out; simp [intOf]; omega
            | some d2 =>
              have HX := hid (HST.out _ _ (T3.out d1 d2 hvx hvy))
              have rx := rd_somePc hvx
              have ry := rd_somePc hvy
              rw [rd_somePc hvy] at D2
              have hd2 := hexV_lt hvy
              have pk := i64pack d1 d2 hd1 hd2
              clear T1 T2 T3 hvx hvy HO1 HB1 hr
              generalize UInt8.ofNat (d1 * 16 + d2) = c at *
              have hcl := byte_lt c
              have a1 : (0 : Int) ≤ (k : Int) + 1 := by omega
              have a2 : (k : Int) + 1 < (s.size : Int) := by omega
              have a3 : (0 : Int) ≤ (k : Int) + 2 := by omega
              have wr1 : IntKind.wrap .i64 ((k : Int) + 1) = (k : Int) + 1 := by rw [IntKind.wrap_i64]; omega
              have wr3 : IntKind.wrap .u8 (c.toNat : Int) = (c.toNat : Int) := by rw [IntKind.wrap_u8]; omega
              have wr4 : IntKind.wrap .i64 ((d1 : Int) * 16) = (d1 : Int) * 16 := by rw [IntKind.wrap_i64]; omega
              have wr2 : IntKind.wrap .i64 ((k : Int) + 2) = (k : Int) + 2 := by rw [IntKind.wrap_i64]; omega
              go_wp2_with fail
              refine (D1.out _).mono ?_
              rintro e wz ⟨rfl, rfl⟩
              go_wp2_with fail
              refine (D2.out _).mono ?_
              rintro e wz ⟨rfl, rfl⟩
              go_wp2_with fail
              go_region_held3 (fun w' => True) (trivial) (first | (go_at_call 55; refine (rdigit_calls _ (by assumption) _).mono ?_; rintro e wy ⟨rfl, rfl⟩) | (refine step_append (HO.out.alloc _).drew (one_rowPc wz c).drew (by have := HOL.out; simp; omega) (by have := HSZ.out; simp; omega) rfl _ _ rfl rfl rfl rfl ?_; intro v' w1 ho1 hg1))
              all_goals
                have HO2 := hid ho1
                have HB2 := hid (((HB.out.alloc HSZ.out _).drew).grown hg1 (by have := HSZ.out; simp; omega) (fun k hk => (World.ownsRow.lt HO.out k hk).1))
                clear ho1 hg1
                go_wp2
                go_roundw
                case rel => exact ⟨k + 3, _, by have := H2.out; omega, by go_num, by have := HOL.out; simp; omega, HO2.out, HB2.out, HX.out⟩
                case measure => have := H2.out; simp [intOf]; omega
        · have HX := hid (HST.out _ _ (HNS.out (.inr h2)))
          have k2 : ¬ (k : Int) + 2 < (s.size : Int) := by omega
          clear HNS HNP h2 hk
          go_wp2_with (at_builtin; go_must (refine wpList_append_run hr rfl _ _ rfl rfl rfl rfl ?_))
          go_roundw
          case rel => exact ⟨k + 1, _, HLT.out, by go_num, by have := HOL.out; simp; omega, HO1.out, HB1.out, HX.out⟩
          case measure => have := HLT.out; simp [intOf]; omega
      · have HX := hid (HST.out _ _ (HNS.out (.inl (by rw [HZ.out]; exact h37))))
        have q1 : ((z : Int) == 37) = false := by rw [beq_eq_false_iff_ne]; omega
        clear HNS HNP h37 hk
        go_wp2_with (at_builtin; go_must (refine wpList_append_run hr rfl _ _ rfl rfl rfl rfl ?_))
        go_roundw
        case rel => exact ⟨k + 1, _, HLT.out, by go_num, by have := HOL.out; simp; omega, HO1.out, HB1.out, HX.out⟩
        case measure => have := HLT.out; simp [intOf]; omega
    · have HX := hid (next_done (by rw [HL.out]; exact hlt) HU.out)
      have k1 : ¬ (k : Int) < (s.size : Int) := by omega
      go_wp2
      go_ret
      exact ⟨⟨_, rfl, by rw [← HX.out]; exact HO.out.row⟩, HB.out⟩
end Go.Proofs.YtilamfbpbgcnpaaDoor
