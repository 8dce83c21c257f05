/- The walk of the statement 'one number in many forms'. -/
import Derived.Test.YtghhdccnocpobaaDoorIpN
namespace Go.Proofs.YtghhdccnocpobaaDoor
open Go.RowKit
set_option linter.unusedVariables false
set_option maxRecDepth 20000
/-- Digits under way: t is written, k is left. -/
def DAt (b n k : Nat) (t : List UInt8) : Prop := (t = [] ∧ k = n) ∨ (t ≠ [] ∧ ((0 < k ∧ digsOf b n = digsOf b k ++ t) ∨ (k = 0 ∧ digsOf b n = t)))
theorem DAt.start (b n : Nat) : DAt b n n [] := .inl ⟨rfl, rfl⟩
theorem DAt.step {b n k : Nat} {t : List UInt8} (hb : 2 ≤ b) (hn : n < 4294967296) (hk : k ≤ n) (h : DAt b n k t) (hc : 0 < k ∨ t = []) : DAt b n (k / b) (hx (k % b) :: t) := by
  have hkb : k < b → digsOf b k = [hx (k % b)] ∧ k / b = 0 := fun h => ⟨by rw [digsOf_small h, Nat.mod_eq_of_lt h], Nat.div_eq_of_lt h⟩
  have hkg : ¬ k < b → digsOf b k = digsOf b (k / b) ++ [hx (k % b)] ∧ 0 < k / b := fun h => ⟨digsOf_big hb (by omega) h, Nat.div_pos (by omega) (by omega)⟩
  refine .inr ⟨by simp, ?_⟩
  have main : digsOf b n = digsOf b k ++ t := by
    rcases h with ⟨h1, h2⟩ | ⟨h1, h2 | h2⟩
    · rw [h1, h2, List.append_nil]
    · exact h2.2
    · rcases hc with hc | hc
      · omega
      · exact absurd hc h1
  by_cases hlt : k < b
  · obtain ⟨e1, e2⟩ := hkb hlt
    right
    refine ⟨e2, ?_⟩
    rw [main, e1]
    rfl
  · obtain ⟨e1, e2⟩ := hkg hlt
    left
    refine ⟨e2, ?_⟩
    rw [main, e1, List.append_assoc]
    rfl
theorem DAt.done {b n k : Nat} {t : List UInt8} (h : DAt b n k t) (hc : ¬ (0 < k ∨ t = [])) : digsOf b n = t := by
  rcases h with ⟨h1, h2⟩ | ⟨h1, h2 | h2⟩
  · exact absurd (.inr h1) hc
  · exact absurd (.inl h2.1) hc
  · exact h2.2
theorem DAt.len {b n k : Nat} {t : List UInt8} (hb : 2 ≤ b) (hb16 : b ≤ 16) (hn : n < 4294967296) (h : DAt b n k t) : t.length ≤ 64 := by
  have hl := (digsOf_facts hb hb16 (n := n) (by omega)).2.2.2.1
  rcases h with ⟨h1, h2⟩ | ⟨h1, h2 | h2⟩
  · rw [h1]; exact Nat.zero_le _
  · rw [h2.2, List.length_append] at hl; omega
  · rw [h2.2] at hl; exact hl
theorem hexlow_at64 (h : Nat) (hh : h < 16) (w : World) : (Instr.index 9 (.string ⟨#[48, 49, 50, 51, 52, 53, 54, 55, 56, 57, 97, 98, 99, 100, 101, 102]⟩) (.int .i64 (h : Int))).run Tryd.prog w = .ok (.int .u8 ((hx h).toNat : Int)) w := by
  obtain rfl | rfl | rfl | rfl | rfl | rfl | rfl | rfl | rfl | rfl | rfl | rfl | rfl | rfl | rfl | rfl : h = 0 ∨ h = 1 ∨ h = 2 ∨ h = 3 ∨ h = 4 ∨ h = 5 ∨ h = 6 ∨ h = 7 ∨ h = 8 ∨ h = 9 ∨ h = 10 ∨ h = 11 ∨ h = 12 ∨ h = 13 ∨ h = 14 ∨ h = 15 := by omega
  all_goals kernel_rfl
def left (vs vk : Value) : Nat := 2 * (intOf vk).toNat + (1 - strLen vs)
theorem left_less {k k' : Nat} {t : List UInt8} {c : UInt8} (hc : 0 < k ∨ t = []) (hk : k' = k / 10 ∨ k' = k / 16 ∨ k' = k / 8) : left (.string (strOf (c :: t))) (.int .i64 (k' : Int)) < left (.string (strOf t)) (.int .i64 (k : Int)) := by
  show 2 * ((k' : Int)).toNat + (1 - (t.length + 1)) < 2 * ((k : Int)).toNat + (1 - t.length)
  rw [Int.toNat_natCast, Int.toNat_natCast]
  rcases hc with hc | hc
  · omega
  · subst hc
    simp
    omega
theorem str_empty (t : List UInt8) : ((strOf t).toList == []) = decide (t = []) ∧ (strOf t).toList.isEmpty = decide (t = []) := by
  rw [strOf_list]
  cases t with
  | nil => exact ⟨rfl, rfl⟩
  | cons a r => exact ⟨rfl, rfl⟩
set_option maxRecDepth 20000 in
set_option maxHeartbeats 16000000 in
theorem ipForms_walk (x : Int) (w : World) (T0 : Tab w) (hx' : 0 ≤ x ∧ x ≤ 4294967295) : Calls Tryd.prog 6 #[.int .u32 x] w fun e w' => e = .returned (.bool true) ∧ Below w.heap.size w w' := by
  have T := hid T0
  clear T0
  obtain ⟨n, rfl⟩ := Int.eq_ofNat_of_zero_le hx'.1
  have HN : Hid (n < 4294967296) := by show n < _; omega
  have n0 : (0 : Int) ≤ (n : Int) := by omega
  have wn : IntKind.wrap .i64 (n : Int) = (n : Int) := by have := HN.out; rw [IntKind.wrap_i64]; omega
  clear hx'
  go_enter Tryd.func6, Tryd.ntmps6
  go_wp2_with fail
  refine (ipfirst_calls _ (T.out.below (by first | exact btw (by assumption) | exact btw_al (by assumption) _ | exact btw_dr (by assumption) | exact btw_ad (by assumption) _ | exact Below.refl _ _ | exact (Below.refl _ _).alloc (Nat.le_refl _) _))).mono ?_
  rintro e w1 ⟨rfl, hb⟩
  have HB := hid hb
  clear hb
  go_wp2_with fail
  go_loopw [3, 6] (fun vs vk wr => ∃ (k : Nat) (t : List UInt8), k ≤ n ∧ vs = .string (strOf t) ∧ vk = .int .i64 (k : Int) ∧ DAt 10 n k t ∧ Below w.heap.size w wr) (fun vs vk _ => left vs vk)
  case atStart => exact ⟨n, [], Nat.le_refl _, rfl, rfl, DAt.start 10 n, HB.out⟩
  case round =>
    obtain ⟨k, t, hk, rfl, rfl, hda, hb⟩ := hrel
    have HDA := hid hda
    replace HB := hid hb
    have htl := hda.len (by decide) (by decide) HN.out
    have k0 : (0 : Int) ≤ (k : Int) := by omega
    have z1 : ((strOf t).size : Int) ≤ 64 := by rw [str_size]; omega
    obtain ⟨u1, u2⟩ := str_empty t
    clear hda hb htl
    by_cases hcond : 0 < k ∨ t = []
    · have HStep := hid (HDA.out.step (by decide) HN.out hk hcond)
      obtain ⟨d, hd⟩ : ∃ d, k % 10 = d := ⟨_, rfl⟩
      obtain ⟨q, hq⟩ : ∃ q, k / 10 = q := ⟨_, rfl⟩
      obtain ⟨c, hc⟩ : ∃ c, hx d = c := ⟨_, rfl⟩
      have HM := hid (left_less (c := c) (t := t) (k' := q) hcond (by omega))
      rw [hd, hq, hc] at HStep
      have e1 : (k : Int) / 10 = (q : Int) := by omega
      have e2 : (k : Int) % 10 = (d : Int) := by omega
      have d9 : (d : Int) < 10 := by omega
      have HWQ : Hid (wrap64 (q : Int) = (q : Int)) := by have := HN.out; show wrap64 (q : Int) = (q : Int); unfold wrap64; omega
      have d0 : (0 : Int) ≤ (d : Int) := by omega
      have c9 := byte_lt c
      have hcn := hx_ten (d := d) (by omega)
      rw [hc] at hcn
      have e3 : (48 : Int) + (d : Int) = (c.toNat : Int) := by omega
      clear hcn
      have HQN : Hid (q ≤ n) := by show q ≤ n; have := Nat.div_le_self k 10; omega
      have hcv : ∀ w : World, (convert 36 9 (.slice (some ⟨w.heap.size, 0, none⟩) 1 1)).run Tryd.prog (w.alloc (.cells #[.int .u8 (c.toNat : Int)] 5)) = .ok (.string (strOf [c])) (w.alloc (.cells #[.int .u8 (c.toNat : Int)] 5)) := fun w => run_string (byteS_row w c)
      have HCat : Hid (strOf [c] ++ strOf t = strOf (c :: t)) := cat_str [c] t
      have z2 : (strOf [c]).size = 1 := rfl
      have HBS := hid HB.out.size
      have hroad : ((0 : Int) < (k : Int)) ∨ (¬ (0 : Int) < (k : Int) ∧ decide (t = []) = true) := by
        rcases hcond with h | h
        · exact .inl (by omega)
        · by_cases h0 : 0 < k
          · exact .inl (by omega)
          · exact .inr ⟨by omega, by simpa using h⟩
      rcases hroad with g1 | ⟨g1, g2⟩
      · clear u1 u2 hk hcond hd hq hc
        generalize strOf t = T at *
        go_wp2_with fail
        go_roundw
        case rel => exact ⟨q, c :: t, HQN.out, by rw [HCat.out], by first | rfl | rw [HWQ.out], HStep.out, HB.out.alloc HBS.out _⟩
        case measure => have := HM.out; rw [← HCat.out] at this; first | exact this | (rw [HWQ.out]; exact this)
      · rw [g2] at u1 u2
        obtain rfl : k = 0 := by omega
        obtain rfl : q = 0 := by rw [← hq]
        obtain rfl : d = 0 := by rw [← hd]
        obtain rfl : c = 48 := by rw [← hc]; rfl
        have hcv0 : ∀ w : World, (convert 36 9 (.slice (some ⟨w.heap.size, 0, none⟩) 1 1)).run Tryd.prog (w.alloc (.cells #[.int .u8 48] 5)) = .ok (.string (strOf [48])) (w.alloc (.cells #[.int .u8 48] 5)) := fun w => run_string (byteS_row w 48)
        clear hk hcond hd hq hc e1 e2 d9 d0 c9 e3 hcv k0 g1 HWQ
        generalize strOf t = T at *
        go_wp2_with fail
        go_roundw
        case rel => exact ⟨0, 48 :: t, HQN.out, by rw [HCat.out], rfl, HStep.out, HB.out.alloc HBS.out _⟩
        case measure => have := HM.out; rw [← HCat.out] at this; exact this
    · have HD1 := hid (HDA.out.done hcond)
      have g1 : ¬ (0 : Int) < (k : Int) := by omega
      have g2 : decide (t = []) = false := by rw [decide_eq_false_iff_not]; exact fun e => hcond (.inr e)
      rw [g2] at u1 u2
      clear hcond hk HDA g2 k0
      rw [← HD1.out] at u1 u2 z1 ⊢
      clear HD1
      obtain ⟨S1, hS1⟩ : ∃ S, strOf (digsOf 10 n) = S := ⟨_, rfl⟩
      rw [hS1] at u1 u2 z1 ⊢
      have HS1 := hid hS1
      have zz1 := z1
      have ua1 := u1
      have ub1 := u2
      clear hS1 u1 u2 z1
      go_wp2_with fail
      go_loopw [4, 7] (fun vs vk wr => ∃ (k : Nat) (t : List UInt8), k ≤ n ∧ vs = .string (strOf t) ∧ vk = .int .i64 (k : Int) ∧ DAt 16 n k t ∧ Below w.heap.size w wr) (fun vs vk _ => left vs vk)
      case atStart => exact ⟨n, [], Nat.le_refl _, rfl, rfl, DAt.start 16 n, HB.out⟩
      case round =>
        obtain ⟨k, t, hk, rfl, rfl, hda, hb⟩ := hrel
        have HDA := hid hda
        replace HB := hid hb
        have htl := hda.len (by decide) (by decide) HN.out
        have k0 : (0 : Int) ≤ (k : Int) := by omega
        have z1 : ((strOf t).size : Int) ≤ 64 := by rw [str_size]; omega
        obtain ⟨u1, u2⟩ := str_empty t
        clear hda hb htl
        by_cases hcond : 0 < k ∨ t = []
        · have HStep := hid (HDA.out.step (by decide) HN.out hk hcond)
          obtain ⟨d, hd⟩ : ∃ d, k % 16 = d := ⟨_, rfl⟩
          obtain ⟨q, hq⟩ : ∃ q, k / 16 = q := ⟨_, rfl⟩
          obtain ⟨c, hc⟩ : ∃ c, hx d = c := ⟨_, rfl⟩
          have HM := hid (left_less (c := c) (t := t) (k' := q) hcond (by omega))
          rw [hd, hq, hc] at HStep
          have e1 : (k : Int) / 16 = (q : Int) := by omega
          have e2 : (k : Int) % 16 = (d : Int) := by omega
          have d9 : (d : Int) < 16 := by omega
          have HWQ : Hid (wrap64 (q : Int) = (q : Int)) := by have := HN.out; show wrap64 (q : Int) = (q : Int); unfold wrap64; omega
          have d0 : (0 : Int) ≤ (d : Int) := by omega
          have c9 := byte_lt c
          have hcn := hexlow_at64 d (by omega)
          rw [hc] at hcn
          have HQN : Hid (q ≤ n) := by show q ≤ n; have := Nat.div_le_self k 16; omega
          have hcv : ∀ w : World, (convert 36 9 (.slice (some ⟨w.heap.size, 0, none⟩) 1 1)).run Tryd.prog (w.alloc (.cells #[.int .u8 (c.toNat : Int)] 5)) = .ok (.string (strOf [c])) (w.alloc (.cells #[.int .u8 (c.toNat : Int)] 5)) := fun w => run_string (byteS_row w c)
          have HCat : Hid (strOf [c] ++ strOf t = strOf (c :: t)) := cat_str [c] t
          have z2 : (strOf [c]).size = 1 := rfl
          have HBS := hid HB.out.size
          have hroad : ((0 : Int) < (k : Int)) ∨ (¬ (0 : Int) < (k : Int) ∧ decide (t = []) = true) := by
            rcases hcond with h | h
            · exact .inl (by omega)
            · by_cases h0 : 0 < k
              · exact .inl (by omega)
              · exact .inr ⟨by omega, by simpa using h⟩
          rcases hroad with g1 | ⟨g1, g2⟩
          · clear u1 u2 hk hcond hd hq hc
            generalize strOf t = T at *
            go_wp2_with fail
            go_roundw
            case rel => exact ⟨q, c :: t, HQN.out, by rw [HCat.out], by first | rfl | rw [HWQ.out], HStep.out, HB.out.alloc HBS.out _⟩
            case measure => have := HM.out; rw [← HCat.out] at this; first | exact this | (rw [HWQ.out]; exact this)
          · rw [g2] at u1 u2
            obtain rfl : k = 0 := by omega
            obtain rfl : q = 0 := by rw [← hq]
            obtain rfl : d = 0 := by rw [← hd]
            obtain rfl : c = 48 := by rw [← hc]; rfl
            have hcv0 : ∀ w : World, (convert 36 9 (.slice (some ⟨w.heap.size, 0, none⟩) 1 1)).run Tryd.prog (w.alloc (.cells #[.int .u8 48] 5)) = .ok (.string (strOf [48])) (w.alloc (.cells #[.int .u8 48] 5)) := fun w => run_string (byteS_row w 48)
            have hi0 : ∀ w : World, (Instr.index 9 (.string ⟨#[48, 49, 50, 51, 52, 53, 54, 55, 56, 57, 97, 98, 99, 100, 101, 102]⟩) (.int .i64 0)).run Tryd.prog w = .ok (.int .u8 48) w := fun w => by kernel_rfl
            clear hk hcond hd hq hc e1 e2 d9 d0 c9 hcn hcv k0 g1 HWQ
            generalize strOf t = T at *
            go_wp2_with fail
            go_roundw
            case rel => exact ⟨0, 48 :: t, HQN.out, by rw [HCat.out], rfl, HStep.out, HB.out.alloc HBS.out _⟩
            case measure => have := HM.out; rw [← HCat.out] at this; exact this
        · have HD2 := hid (HDA.out.done hcond)
          have g1 : ¬ (0 : Int) < (k : Int) := by omega
          have g2 : decide (t = []) = false := by rw [decide_eq_false_iff_not]; exact fun e => hcond (.inr e)
          rw [g2] at u1 u2
          clear hcond hk HDA g2 k0
          rw [← HD2.out] at u1 u2 z1 ⊢
          clear HD2
          obtain ⟨S2, hS2⟩ : ∃ S, strOf (digsOf 16 n) = S := ⟨_, rfl⟩
          rw [hS2] at u1 u2 z1 ⊢
          have HS2 := hid hS2
          have zz2 := z1
          have ua2 := u1
          have ub2 := u2
          clear hS2 u1 u2 z1
          go_wp2_with fail
          go_loopw [5, 8] (fun vs vk wr => ∃ (k : Nat) (t : List UInt8), k ≤ n ∧ vs = .string (strOf t) ∧ vk = .int .i64 (k : Int) ∧ DAt 8 n k t ∧ Below w.heap.size w wr) (fun vs vk _ => left vs vk)
          case atStart => exact ⟨n, [], Nat.le_refl _, rfl, rfl, DAt.start 8 n, HB.out⟩
          case round =>
            obtain ⟨k, t, hk, rfl, rfl, hda, hb⟩ := hrel
            have HDA := hid hda
            replace HB := hid hb
            have htl := hda.len (by decide) (by decide) HN.out
            have k0 : (0 : Int) ≤ (k : Int) := by omega
            have z1 : ((strOf t).size : Int) ≤ 64 := by rw [str_size]; omega
            obtain ⟨u1, u2⟩ := str_empty t
            clear hda hb htl
            by_cases hcond : 0 < k ∨ t = []
            · have HStep := hid (HDA.out.step (by decide) HN.out hk hcond)
              obtain ⟨d, hd⟩ : ∃ d, k % 8 = d := ⟨_, rfl⟩
              obtain ⟨q, hq⟩ : ∃ q, k / 8 = q := ⟨_, rfl⟩
              obtain ⟨c, hc⟩ : ∃ c, hx d = c := ⟨_, rfl⟩
              have HM := hid (left_less (c := c) (t := t) (k' := q) hcond (by omega))
              rw [hd, hq, hc] at HStep
              have e1 : (k : Int) / 8 = (q : Int) := by omega
              have e2 : (k : Int) % 8 = (d : Int) := by omega
              have d9 : (d : Int) < 8 := by omega
              have HWQ : Hid (wrap64 (q : Int) = (q : Int)) := by have := HN.out; show wrap64 (q : Int) = (q : Int); unfold wrap64; omega
              have d0 : (0 : Int) ≤ (d : Int) := by omega
              have c9 := byte_lt c
              have hcn := hx_ten (d := d) (by omega)
              rw [hc] at hcn
              have e3 : (48 : Int) + (d : Int) = (c.toNat : Int) := by omega
              clear hcn
              have HQN : Hid (q ≤ n) := by show q ≤ n; have := Nat.div_le_self k 8; omega
              have hcv : ∀ w : World, (convert 36 9 (.slice (some ⟨w.heap.size, 0, none⟩) 1 1)).run Tryd.prog (w.alloc (.cells #[.int .u8 (c.toNat : Int)] 5)) = .ok (.string (strOf [c])) (w.alloc (.cells #[.int .u8 (c.toNat : Int)] 5)) := fun w => run_string (byteS_row w c)
              have HCat : Hid (strOf [c] ++ strOf t = strOf (c :: t)) := cat_str [c] t
              have z2 : (strOf [c]).size = 1 := rfl
              have HBS := hid HB.out.size
              have hroad : ((0 : Int) < (k : Int)) ∨ (¬ (0 : Int) < (k : Int) ∧ decide (t = []) = true) := by
                rcases hcond with h | h
                · exact .inl (by omega)
                · by_cases h0 : 0 < k
                  · exact .inl (by omega)
                  · exact .inr ⟨by omega, by simpa using h⟩
              rcases hroad with g1 | ⟨g1, g2⟩
              · clear u1 u2 hk hcond hd hq hc
                generalize strOf t = T at *
                go_wp2_with fail
                go_roundw
                case rel => exact ⟨q, c :: t, HQN.out, by rw [HCat.out], by first | rfl | rw [HWQ.out], HStep.out, HB.out.alloc HBS.out _⟩
                case measure => have := HM.out; rw [← HCat.out] at this; first | exact this | (rw [HWQ.out]; exact this)
              · rw [g2] at u1 u2
                obtain rfl : k = 0 := by omega
                obtain rfl : q = 0 := by rw [← hq]
                obtain rfl : d = 0 := by rw [← hd]
                obtain rfl : c = 48 := by rw [← hc]; rfl
                have hcv0 : ∀ w : World, (convert 36 9 (.slice (some ⟨w.heap.size, 0, none⟩) 1 1)).run Tryd.prog (w.alloc (.cells #[.int .u8 48] 5)) = .ok (.string (strOf [48])) (w.alloc (.cells #[.int .u8 48] 5)) := fun w => run_string (byteS_row w 48)
                clear hk hcond hd hq hc e1 e2 d9 d0 c9 e3 hcv k0 g1 HWQ
                generalize strOf t = T at *
                go_wp2_with fail
                go_roundw
                case rel => exact ⟨0, 48 :: t, HQN.out, by rw [HCat.out], rfl, HStep.out, HB.out.alloc HBS.out _⟩
                case measure => have := HM.out; rw [← HCat.out] at this; exact this
            · have HD3 := hid (HDA.out.done hcond)
              have g1 : ¬ (0 : Int) < (k : Int) := by omega
              have g2 : decide (t = []) = false := by rw [decide_eq_false_iff_not]; exact fun e => hcond (.inr e)
              rw [g2] at u1 u2
              clear hcond hk HDA g2 k0
              rw [← HD3.out] at u1 u2 z1 ⊢
              clear HD3
              obtain ⟨S3, hS3⟩ : ∃ S, strOf (digsOf 8 n) = S := ⟨_, rfl⟩
              rw [hS3] at u1 u2 z1 ⊢
              have HS3 := hid hS3
              have zz3 := z1
              have ua3 := u1
              have ub3 := u2
              clear hS3 u1 u2 z1
              have HF1 : Hid (∀ w, S1.size ≤ 100000 → Calls Tryd.prog 10 #[.string S1] w fun e w' => e = .returned (.tuple #[.int .u32 (n : Int), .int .i64 0]) ∧ Below w.heap.size w w') := fun w h => by
                have := ip4_calls S1 w h
                unfold P4Post at this
                rw [← HS1.out] at this ⊢
                rw [str_data, form_ten HN.out] at this
                exact this
              have HF2 : Hid (∀ w, (⟨#[48, 120]⟩ ++ S2 : ByteArray).size ≤ 100000 → Calls Tryd.prog 10 #[.string (⟨#[48, 120]⟩ ++ S2)] w fun e w' => e = .returned (.tuple #[.int .u32 (n : Int), .int .i64 0]) ∧ Below w.heap.size w w') := fun w h => by
                have := ip4_calls (⟨#[48, 120]⟩ ++ S2) w h
                unfold P4Post at this
                have e : (⟨#[48, 120]⟩ ++ S2 : ByteArray) = strOf (48 :: 120 :: digsOf 16 n) := by rw [← HS2.out]; exact cat_str [48, 120] _
                rw [e, str_data, form_hex HN.out] at this
                rw [e]
                exact this
              have HF3 : Hid (∀ w, (⟨#[48]⟩ ++ S3 : ByteArray).size ≤ 100000 → Calls Tryd.prog 10 #[.string (⟨#[48]⟩ ++ S3)] w fun e w' => e = .returned (.tuple #[.int .u32 (n : Int), .int .i64 0]) ∧ Below w.heap.size w w') := fun w h => by
                have := ip4_calls (⟨#[48]⟩ ++ S3) w h
                unfold P4Post at this
                have e : (⟨#[48]⟩ ++ S3 : ByteArray) = strOf (48 :: digsOf 8 n) := by rw [← HS3.out]; exact cat_str [48] _
                rw [e, str_data, form_oct HN.out] at this
                rw [e]
                exact this
              have HP4 := hid (fun w => ipr4_calls n w HN.out)
              obtain ⟨S4, hS4⟩ : ∃ S, strOf (print4R n) = S := ⟨_, rfl⟩
              have hl4 := print4_len HN.out
              have zz4 : (S4.size : Int) ≤ 15 := by rw [← hS4, str_size]; omega
              rw [hS4] at HP4
              have HF4 : Hid (∀ w, (S4 ++ ⟨#[46]⟩ : ByteArray).size ≤ 100000 → Calls Tryd.prog 10 #[.string (S4 ++ ⟨#[46]⟩)] w fun e w' => e = .returned (.tuple #[.int .u32 (n : Int), .int .i64 0]) ∧ Below w.heap.size w w') := fun w h => by
                have := ip4_calls (S4 ++ ⟨#[46]⟩) w h
                unfold P4Post at this
                have e : (S4 ++ ⟨#[46]⟩ : ByteArray) = strOf (print4R n ++ [46]) := by rw [← hS4]; exact cat_str _ [46]
                rw [e, str_data, form_end HN.out] at this
                rw [e]
                exact this
              have HF5 : Hid (∀ w, (⟨#[50, 53, 54, 46]⟩ ++ S1 : ByteArray).size ≤ 100000 → Calls Tryd.prog 10 #[.string (⟨#[50, 53, 54, 46]⟩ ++ S1)] w fun e w' => e = .returned (.tuple #[.int .u32 0, .int .i64 1]) ∧ Below w.heap.size w w') := fun w h => by
                have := ip4_calls (⟨#[50, 53, 54, 46]⟩ ++ S1) w h
                unfold P4Post at this
                have e : (⟨#[50, 53, 54, 46]⟩ ++ S1 : ByteArray) = strOf ([50, 53, 54, 46] ++ digsOf 10 n) := by rw [← HS1.out]; exact cat_str [50, 53, 54, 46] _
                rw [e, str_data, form_great HN.out] at this
                rw [e]
                exact this
              have HF6 : Hid (∀ w, Calls Tryd.prog 10 #[.string ⟨#[52, 50, 57, 52, 57, 54, 55, 50, 57, 54]⟩] w fun e w' => e = .returned (.tuple #[.int .u32 0, .int .i64 1]) ∧ Below w.heap.size w w') := fun w => by
                have := ip4_calls ⟨#[52, 50, 57, 52, 57, 54, 55, 50, 57, 54]⟩ w (by decide)
                unfold P4Post at this
                rw [show (⟨#[52, 50, 57, 52, 57, 54, 55, 50, 57, 54]⟩ : ByteArray).data.toList = [52, 50, 57, 52, 57, 54, 55, 50, 57, 54] from rfl, form_limit] at this
                exact this
              have HF7 : Hid (∀ w, Calls Tryd.prog 10 #[.string ⟨#[49, 46, 50, 46, 51, 46, 52, 46, 53]⟩] w fun e w' => e = .returned (.tuple #[.int .u32 0, .int .i64 4]) ∧ Below w.heap.size w w') := fun w => by
                have := ip4_calls ⟨#[49, 46, 50, 46, 51, 46, 52, 46, 53]⟩ w (by decide)
                unfold P4Post at this
                rw [show (⟨#[49, 46, 50, 46, 51, 46, 52, 46, 53]⟩ : ByteArray).data.toList = [49, 46, 50, 46, 51, 46, 52, 46, 53] from rfl, form_five] at this
                exact this
              have y1 : (⟨#[48, 120]⟩ : ByteArray).size = 2 := rfl
              have y2 : (⟨#[48]⟩ : ByteArray).size = 1 := rfl
              have y3 : (⟨#[46]⟩ : ByteArray).size = 1 := rfl
              have y4 : (⟨#[50, 53, 54, 46]⟩ : ByteArray).size = 4 := rfl
              have V1 : Hid (S1.size ≤ 100000) := by show _ ≤ _; omega
              have V2 : Hid ((⟨#[48, 120]⟩ ++ S2 : ByteArray).size ≤ 100000) := by show _ ≤ _; rw [ByteArray.size_append, y1]; omega
              have V3 : Hid ((⟨#[48]⟩ ++ S3 : ByteArray).size ≤ 100000) := by show _ ≤ _; rw [ByteArray.size_append, y2]; omega
              have V4 : Hid ((S4 ++ ⟨#[46]⟩ : ByteArray).size ≤ 100000) := by show _ ≤ _; rw [ByteArray.size_append, y3]; omega
              have V5 : Hid ((⟨#[50, 53, 54, 46]⟩ ++ S1 : ByteArray).size ≤ 100000) := by show _ ≤ _; rw [ByteArray.size_append, y4]; omega
              clear hS4 hl4
              go_wp2_with fail
              refine (HF1.out _ V1.out).mono ?_
              rintro e wz ⟨rfl, hb⟩
              replace HB := hid (below_trans HB.out hb)
              clear hb
              go_wp2_with fail
              refine (HF2.out _ V2.out).mono ?_
              rintro e wz ⟨rfl, hb⟩
              replace HB := hid (below_trans HB.out hb)
              clear hb
              go_wp2_with fail
              refine (HF3.out _ V3.out).mono ?_
              rintro e wz ⟨rfl, hb⟩
              replace HB := hid (below_trans HB.out hb)
              clear hb
              go_wp2_with fail
              refine (HP4.out _ (T.out.below (by first | exact btw (by assumption) | exact btw_al (by assumption) _ | exact btw_dr (by assumption) | exact btw_ad (by assumption) _ | exact Below.refl _ _ | exact (Below.refl _ _).alloc (Nat.le_refl _) _))).mono ?_
              rintro e wz ⟨rfl, hb⟩
              replace HB := hid (below_trans HB.out hb)
              clear hb
              go_wp2_with fail
              refine (HF4.out _ V4.out).mono ?_
              rintro e wz ⟨rfl, hb⟩
              replace HB := hid (below_trans HB.out hb)
              clear hb
              go_wp2_with fail
              refine (HF5.out _ V5.out).mono ?_
              rintro e wz ⟨rfl, hb⟩
              replace HB := hid (below_trans HB.out hb)
              clear hb
              go_wp2_with fail
              refine (HF6.out _).mono ?_
              rintro e wz ⟨rfl, hb⟩
              replace HB := hid (below_trans HB.out hb)
              clear hb
              go_wp2_with fail
              refine (HF7.out _).mono ?_
              rintro e wz ⟨rfl, hb⟩
              replace HB := hid (below_trans HB.out hb)
              clear hb
              go_wp2_with fail
              refine (ipfirst_calls _ (T.out.below (by first | exact btw (by assumption) | exact btw_al (by assumption) _ | exact btw_dr (by assumption) | exact btw_ad (by assumption) _ | exact Below.refl _ _ | exact (Below.refl _ _).alloc (Nat.le_refl _) _))).mono ?_
              rintro e wz ⟨rfl, hb⟩
              replace HB := hid (below_trans HB.out hb)
              clear hb
              go_wp2_with fail
              go_ret
              exact ⟨rfl, HB.out⟩
end Go.Proofs.YtghhdccnocpobaaDoor
