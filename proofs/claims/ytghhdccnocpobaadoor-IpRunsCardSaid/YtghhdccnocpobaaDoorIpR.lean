/- The statement's own hex. -/
import Derived.Test.YtghhdccnocpobaaDoorIpFormsL
namespace Go.Proofs.YtghhdccnocpobaaDoor
open Go.RowKit
set_option linter.unusedVariables false
set_option maxRecDepth 20000
theorem cutlow (h : Nat) (hh : h < 16) (w : World) : (Instr.slice 9 (.string ⟨#[48, 49, 50, 51, 52, 53, 54, 55, 56, 57, 97, 98, 99, 100, 101, 102]⟩) (some (.int .i64 (h : Int))) (some (.int .i64 ((h : Int) + 1))) none).run Tryd.prog w = .ok (.string (strOf [hx h])) w := by
  obtain rfl | rfl | rfl | rfl | rfl | rfl | rfl | rfl | rfl | rfl | rfl | rfl | rfl | rfl | rfl | rfl : h = 0 ∨ h = 1 ∨ h = 2 ∨ h = 3 ∨ h = 4 ∨ h = 5 ∨ h = 6 ∨ h = 7 ∨ h = 8 ∨ h = 9 ∨ h = 10 ∨ h = 11 ∨ h = 12 ∨ h = 13 ∨ h = 14 ∨ h = 15 := by omega
  all_goals kernel_rfl
theorem extlow (h : Nat) (hh : h < 16) : (⟨#[48, 49, 50, 51, 52, 53, 54, 55, 56, 57, 97, 98, 99, 100, 101, 102]⟩ : ByteArray).extract h (h + 1) = strOf [hx h] := by
  obtain rfl | rfl | rfl | rfl | rfl | rfl | rfl | rfl | rfl | rfl | rfl | rfl | rfl | rfl | rfl | rfl : h = 0 ∨ h = 1 ∨ h = 2 ∨ h = 3 ∨ h = 4 ∨ h = 5 ∨ h = 6 ∨ h = 7 ∨ h = 8 ∨ h = 9 ∨ h = 10 ∨ h = 11 ∨ h = 12 ∨ h = 13 ∨ h = 14 ∨ h = 15 := by omega
  all_goals rfl
set_option maxRecDepth 20000 in
set_option maxHeartbeats 4000000 in
theorem lawhex_calls (n : Nat) (w : World) (hn : n < 65536) : Calls Tryd.prog 20 #[.int .u16 (n : Int)] w fun e w' => e = .returned (.string (strOf (digsOf 16 n))) ∧ w' = w := by
  have HN : Hid (n < 65536) := hn
  have n0 : (0 : Int) ≤ (n : Int) := by omega
  have wn : IntKind.wrap .i64 (n : Int) = (n : Int) := by rw [IntKind.wrap_i64]; omega
  clear hn
  go_enter Tryd.func20, Tryd.ntmps20
  go_wp2_with fail
  go_loop [4, 5] (fun vs vk => ∃ (k : Nat) (t : List UInt8), k ≤ n ∧ vs = .string (strOf t) ∧ vk = .int .i64 (k : Int) ∧ DAt 16 n k t) (fun vs vk => left vs vk)
  case atStart => exact ⟨n, [], Nat.le_refl _, rfl, rfl, DAt.start 16 n⟩
  case round =>
    obtain ⟨k, t, hk, rfl, rfl, hda⟩ := hrel
    have HDA := hid hda
    have htl := hda.len (by decide) (by decide) (by have := HN.out; omega)
    have k0 : (0 : Int) ≤ (k : Int) := by omega
    have z1 : ((strOf t).size : Int) ≤ 64 := by rw [str_size]; omega
    obtain ⟨u1, u2⟩ := str_empty t
    clear hda htl
    by_cases hcond : 0 < k ∨ t = []
    · have HStep := hid (HDA.out.step (by decide) (by have := HN.out; omega) hk hcond)
      obtain ⟨d, hd⟩ : ∃ d, k % 16 = d := ⟨_, rfl⟩
      obtain ⟨q, hq⟩ : ∃ q, k / 16 = q := ⟨_, rfl⟩
      have hcut := cutlow d (by omega)
      have hext := extlow d (by omega)
      obtain ⟨c, hc⟩ : ∃ c, hx d = c := ⟨_, rfl⟩
      have HM := hid (left_less (c := c) (t := t) (k' := q) hcond (by omega))
      rw [hd, hq, hc] at HStep
      rw [hc] at hcut hext
      have e1 : (k : Int) / 16 = (q : Int) := by omega
      have e2 : (k : Int) % 16 = (d : Int) := by omega
      have HWQ : Hid (wrap64 (q : Int) = (q : Int)) := by have := HN.out; show wrap64 (q : Int) = (q : Int); unfold wrap64; omega
      have d9 : (d : Int) < 16 := by omega
      have d0 : (0 : Int) ≤ (d : Int) := by omega
      have HQN : Hid (q ≤ n) := by show q ≤ n; have := Nat.div_le_self k 16; omega
      have HCat : Hid (strOf [c] ++ strOf t = strOf (c :: t)) := cat_str [c] t
      have z2 : (strOf [c]).size = 1 := rfl
      have hroad : ((0 : Int) < (k : Int)) ∨ (¬ (0 : Int) < (k : Int) ∧ decide (t = []) = true) := by
        rcases hcond with h | h
        · exact .inl (by omega)
        · by_cases h0 : 0 < k
          · exact .inl (by omega)
          · exact .inr ⟨by omega, by simpa using h⟩
      rcases hroad with g1 | ⟨g1, g2⟩
      · clear u1 u2 hk hcond hd hq hc
        generalize strOf t = T at *
        go_wp2_with fail
        go_round
        case rel => exact ⟨q, c :: t, HQN.out, by rw [HCat.out], by first | rfl | rw [HWQ.out], HStep.out⟩
        case measure => have := HM.out; rw [← HCat.out] at this; first | exact this | (rw [HWQ.out]; exact this)
      · rw [g2] at u1 u2
        obtain rfl : k = 0 := by omega
        obtain rfl : q = 0 := by rw [← hq]
        obtain rfl : d = 0 := by rw [← hd]
        obtain rfl : c = 48 := by rw [← hc]; rfl
        have hcut0 : ∀ w : World, (Instr.slice 9 (.string ⟨#[48, 49, 50, 51, 52, 53, 54, 55, 56, 57, 97, 98, 99, 100, 101, 102]⟩) (some (.int .i64 0)) (some (.int .i64 1)) none).run Tryd.prog w = .ok (.string (strOf [48])) w := fun w => by kernel_rfl
        have hext0 : (⟨#[48, 49, 50, 51, 52, 53, 54, 55, 56, 57, 97, 98, 99, 100, 101, 102]⟩ : ByteArray).extract 0 1 = strOf [48] := rfl
        clear hk hcond hd hq hc e1 e2 d9 d0 hcut hext k0 g1 HWQ
        generalize strOf t = T at *
        go_wp2_with fail
        go_round
        case rel => exact ⟨0, 48 :: t, HQN.out, by rw [HCat.out], rfl, HStep.out⟩
        case measure => have := HM.out; rw [← HCat.out] at this; exact this
    · have HD := hid (HDA.out.done hcond)
      have g1 : ¬ (0 : Int) < (k : Int) := by omega
      have g2 : decide (t = []) = false := by rw [decide_eq_false_iff_not]; exact fun e => hcond (.inr e)
      rw [g2] at u1 u2
      have HR : Hid (strOf (digsOf 16 n) = strOf t) := by show _ = _; rw [HD.out]
      clear hcond hk HDA g2 k0 HD
      generalize strOf t = T at *
      go_wp2_with fail
      go_ret
      exact ⟨by rw [HR.out]; rfl, rfl⟩
end Go.Proofs.YtghhdccnocpobaaDoor
