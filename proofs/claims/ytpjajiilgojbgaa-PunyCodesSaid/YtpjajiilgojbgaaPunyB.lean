/- The walks of adapt. -/
import Derived.Test.YtpjajiilgojbgaaPunyA
namespace Go.Proofs.Ytpjajiilgojbgaa
open Go.RowKit
set_option linter.unusedVariables false
set_option maxHeartbeats 1000000 in
theorem adapt_calls (d c : Nat) (fl : Bool) (w : World) (hd : d ≤ 3000000000) (hc : 1 ≤ c) (hc2 : c ≤ 1000000) : Calls Try.prog 26 #[.int .i64 (d : Int), .int .i64 (c : Int), .bool fl] w fun e w' => e = .returned (.int .i64 ((adapt d c fl : Nat) : Int)) ∧ w' = w := by
  have c0 : (0 : Int) < (c : Int) := by omega
  have c1 : (c : Int) ≤ 1000000 := by omega
  obtain ⟨R, hR⟩ : ∃ R, R = adapt d c fl := ⟨_, rfl⟩
  rw [← hR]
  unfold adapt at hR
  cases fl
  · obtain ⟨x, hx⟩ : ∃ x, x = d / 2 := ⟨_, rfl⟩
    obtain ⟨y, hy⟩ : ∃ y, y = x / c := ⟨_, rfl⟩
    have e1 : (d : Int) / 2 = (x : Int) := by omega
    have e2 : (x : Int) / (c : Int) = (y : Int) := by rw [hy]; exact (Int.natCast_ediv x c).symm
    have hyx : y ≤ x := by rw [hy]; exact Nat.div_le_self _ _
    have HR : Hid (R = adF 64 (x + y) 0) := by show _ = _; rw [hR, hx.symm.symm]; simp [hy, hx]
    have HB : Hid (x + y ≤ 6000000000) := by show _ ≤ _; omega
    have d0 : (0 : Int) ≤ (d : Int) := by omega
    have d1 : (d : Int) ≤ 3000000000 := by omega
    have x0 : (0 : Int) ≤ (x : Int) := by omega
    have x1 : (x : Int) ≤ 3000000000 := by omega
    have y0 : (0 : Int) ≤ (y : Int) := by omega
    have y1 : (y : Int) ≤ 3000000000 := by omega
    clear hx hy hR hd hc hc2 hyx
    go_enter Try.func26, Try.ntmps26
    go_wp2_with fail
    go_loop [0, 7] (fun vd vb => ∃ D B f : Nat, vd = .int .i64 (D : Int) ∧ vb = .int .i64 (B : Int) ∧ R = adF f D B ∧ D < 2 ^ f ∧ D ≤ 6000000000 ∧ B + 36 * f ≤ 2304) (fun vd _ => (intOf vd).toNat)
    case atStart => exact ⟨x + y, 0, 64, by go_num, rfl, HR.out, Nat.lt_of_le_of_lt HB.out (by decide), HB.out, by decide⟩
    case round =>
      obtain ⟨D, B, f, rfl, rfl, hq, hf, hD, hBf⟩ := hrel
      clear HR HB e1 e2 x0 x1 y0 y1 d0 d1 c0 c1
      have D0 : (0 : Int) ≤ (D : Int) := by omega
      have D1 : (D : Int) ≤ 6000000000 := by omega
      have B0 : (0 : Int) ≤ (B : Int) := by omega
      have B1 : (B : Int) ≤ 2304 := by omega
      by_cases hlt : 455 < D
      · obtain ⟨g, rfl⟩ : ∃ g, f = g + 1 := by
          cases f with
          | zero => simp at hf; omega
          | succ g => exact ⟨g, rfl⟩
        obtain ⟨q, hqd⟩ : ∃ q, q = D / 35 := ⟨_, rfl⟩
        have e3 : (D : Int) / 35 = (q : Int) := by omega
        have HQ : Hid (R = adF g q (B + 36)) := by show _ = _; rw [hq, hqd]; show (if 455 < D then _ else _) = _; rw [if_pos hlt]
        have HF : Hid (q < 2 ^ g ∧ q ≤ 6000000000 ∧ B + 36 + 36 * g ≤ 2304 ∧ q < D) := by
          refine ⟨?_, by omega, by omega, by omega⟩
          rw [Nat.pow_succ] at hf; omega
        have h4 : (455 : Int) < (D : Int) := by omega
        clear hq hf hD hBf hlt hqd
        go_wp2
        go_round
        case rel => exact ⟨q, B + 36, g, rfl, by go_num, HQ.out, HF.out.1, HF.out.2.1, HF.out.2.2.1⟩
        case measure => have := HF.out.2.2.2; simp [intOf]; omega
      · have HQ : Hid (R = B + 36 * D / (D + 38)) := by
          show _ = _
          rw [hq]
          cases f with
          | zero => rfl
          | succ g => show (if 455 < D then _ else _) = _; rw [if_neg hlt]
        obtain ⟨z, hz⟩ : ∃ z, z = 36 * D / (D + 38) := ⟨_, rfl⟩
        have e4 : (36 : Int) * (D : Int) / ((D : Int) + 38) = (z : Int) := by rw [hz, Int.natCast_ediv]; simp
        have z1 : (z : Int) ≤ 36 := by have := frac_le D; omega
        have z0 : (0 : Int) ≤ (z : Int) := by omega
        have HZ := hid hz
        have h4 : (D : Int) ≤ 455 := by omega
        clear hq hf hD hBf hlt hz
        go_wp2
        go_ret
        exact ⟨ret_int (by rw [HQ.out, ← HZ.out]; omega), rfl⟩
  · obtain ⟨x, hx⟩ : ∃ x, x = d / 700 := ⟨_, rfl⟩
    obtain ⟨y, hy⟩ : ∃ y, y = x / c := ⟨_, rfl⟩
    have e1 : (d : Int) / 700 = (x : Int) := by omega
    have e2 : (x : Int) / (c : Int) = (y : Int) := by rw [hy]; exact (Int.natCast_ediv x c).symm
    have hyx : y ≤ x := by rw [hy]; exact Nat.div_le_self _ _
    have HR : Hid (R = adF 64 (x + y) 0) := by show _ = _; rw [hR, hx.symm.symm]; simp [hy, hx]
    have HB : Hid (x + y ≤ 6000000000) := by show _ ≤ _; omega
    have d0 : (0 : Int) ≤ (d : Int) := by omega
    have d1 : (d : Int) ≤ 3000000000 := by omega
    have x0 : (0 : Int) ≤ (x : Int) := by omega
    have x1 : (x : Int) ≤ 3000000000 := by omega
    have y0 : (0 : Int) ≤ (y : Int) := by omega
    have y1 : (y : Int) ≤ 3000000000 := by omega
    clear hx hy hR hd hc hc2 hyx
    go_enter Try.func26, Try.ntmps26
    go_wp2_with fail
    go_loop [0, 7] (fun vd vb => ∃ D B f : Nat, vd = .int .i64 (D : Int) ∧ vb = .int .i64 (B : Int) ∧ R = adF f D B ∧ D < 2 ^ f ∧ D ≤ 6000000000 ∧ B + 36 * f ≤ 2304) (fun vd _ => (intOf vd).toNat)
    case atStart => exact ⟨x + y, 0, 64, by go_num, rfl, HR.out, Nat.lt_of_le_of_lt HB.out (by decide), HB.out, by decide⟩
    case round =>
      obtain ⟨D, B, f, rfl, rfl, hq, hf, hD, hBf⟩ := hrel
      clear HR HB e1 e2 x0 x1 y0 y1 d0 d1 c0 c1
      have D0 : (0 : Int) ≤ (D : Int) := by omega
      have D1 : (D : Int) ≤ 6000000000 := by omega
      have B0 : (0 : Int) ≤ (B : Int) := by omega
      have B1 : (B : Int) ≤ 2304 := by omega
      by_cases hlt : 455 < D
      · obtain ⟨g, rfl⟩ : ∃ g, f = g + 1 := by
          cases f with
          | zero => simp at hf; omega
          | succ g => exact ⟨g, rfl⟩
        obtain ⟨q, hqd⟩ : ∃ q, q = D / 35 := ⟨_, rfl⟩
        have e3 : (D : Int) / 35 = (q : Int) := by omega
        have HQ : Hid (R = adF g q (B + 36)) := by show _ = _; rw [hq, hqd]; show (if 455 < D then _ else _) = _; rw [if_pos hlt]
        have HF : Hid (q < 2 ^ g ∧ q ≤ 6000000000 ∧ B + 36 + 36 * g ≤ 2304 ∧ q < D) := by
          refine ⟨?_, by omega, by omega, by omega⟩
          rw [Nat.pow_succ] at hf; omega
        have h4 : (455 : Int) < (D : Int) := by omega
        clear hq hf hD hBf hlt hqd
        go_wp2
        go_round
        case rel => exact ⟨q, B + 36, g, rfl, by go_num, HQ.out, HF.out.1, HF.out.2.1, HF.out.2.2.1⟩
        case measure => have := HF.out.2.2.2; simp [intOf]; omega
      · have HQ : Hid (R = B + 36 * D / (D + 38)) := by
          show _ = _
          rw [hq]
          cases f with
          | zero => rfl
          | succ g => show (if 455 < D then _ else _) = _; rw [if_neg hlt]
        obtain ⟨z, hz⟩ : ∃ z, z = 36 * D / (D + 38) := ⟨_, rfl⟩
        have e4 : (36 : Int) * (D : Int) / ((D : Int) + 38) = (z : Int) := by rw [hz, Int.natCast_ediv]; simp
        have z1 : (z : Int) ≤ 36 := by have := frac_le D; omega
        have z0 : (0 : Int) ≤ (z : Int) := by omega
        have HZ := hid hz
        have h4 : (D : Int) ≤ 455 := by omega
        clear hq hf hD hBf hlt hz
        go_wp2
        go_ret
        exact ⟨ret_int (by rw [HQ.out, ← HZ.out]; omega), rfl⟩
set_option maxHeartbeats 1000000 in
theorem radapt_calls (d c : Nat) (fl : Bool) (w : World) (hd : d ≤ 3000000000) (hc : 1 ≤ c) (hc2 : c ≤ 1000000) : Calls Try.prog 19 #[.int .i64 (d : Int), .int .i64 (c : Int), .bool fl] w fun e w' => e = .returned (.int .i64 ((adapt d c fl : Nat) : Int)) ∧ w' = w := by
  have c0 : (0 : Int) < (c : Int) := by omega
  have c1 : (c : Int) ≤ 1000000 := by omega
  obtain ⟨R, hR⟩ : ∃ R, R = adapt d c fl := ⟨_, rfl⟩
  rw [← hR]
  unfold adapt at hR
  cases fl
  · obtain ⟨x, hx⟩ : ∃ x, x = d / 2 := ⟨_, rfl⟩
    obtain ⟨y, hy⟩ : ∃ y, y = x / c := ⟨_, rfl⟩
    have e1 : (d : Int) / 2 = (x : Int) := by omega
    have e2 : (x : Int) / (c : Int) = (y : Int) := by rw [hy]; exact (Int.natCast_ediv x c).symm
    have hyx : y ≤ x := by rw [hy]; exact Nat.div_le_self _ _
    have HR : Hid (R = adF 64 (x + y) 0) := by show _ = _; rw [hR, hx.symm.symm]; simp [hy, hx]
    have HB : Hid (x + y ≤ 6000000000) := by show _ ≤ _; omega
    have d0 : (0 : Int) ≤ (d : Int) := by omega
    have d1 : (d : Int) ≤ 3000000000 := by omega
    have x0 : (0 : Int) ≤ (x : Int) := by omega
    have x1 : (x : Int) ≤ 3000000000 := by omega
    have y0 : (0 : Int) ≤ (y : Int) := by omega
    have y1 : (y : Int) ≤ 3000000000 := by omega
    clear hx hy hR hd hc hc2 hyx
    go_enter Try.func19, Try.ntmps19
    go_wp2_with fail
    go_loop [0, 7] (fun vd vb => ∃ D B f : Nat, vd = .int .i64 (D : Int) ∧ vb = .int .i64 (B : Int) ∧ R = adF f D B ∧ D < 2 ^ f ∧ D ≤ 6000000000 ∧ B + 36 * f ≤ 2304) (fun vd _ => (intOf vd).toNat)
    case atStart => exact ⟨x + y, 0, 64, by go_num, rfl, HR.out, Nat.lt_of_le_of_lt HB.out (by decide), HB.out, by decide⟩
    case round =>
      obtain ⟨D, B, f, rfl, rfl, hq, hf, hD, hBf⟩ := hrel
      clear HR HB e1 e2 x0 x1 y0 y1 d0 d1 c0 c1
      have D0 : (0 : Int) ≤ (D : Int) := by omega
      have D1 : (D : Int) ≤ 6000000000 := by omega
      have B0 : (0 : Int) ≤ (B : Int) := by omega
      have B1 : (B : Int) ≤ 2304 := by omega
      by_cases hlt : 455 < D
      · obtain ⟨g, rfl⟩ : ∃ g, f = g + 1 := by
          cases f with
          | zero => simp at hf; omega
          | succ g => exact ⟨g, rfl⟩
        obtain ⟨q, hqd⟩ : ∃ q, q = D / 35 := ⟨_, rfl⟩
        have e3 : (D : Int) / 35 = (q : Int) := by omega
        have HQ : Hid (R = adF g q (B + 36)) := by show _ = _; rw [hq, hqd]; show (if 455 < D then _ else _) = _; rw [if_pos hlt]
        have HF : Hid (q < 2 ^ g ∧ q ≤ 6000000000 ∧ B + 36 + 36 * g ≤ 2304 ∧ q < D) := by
          refine ⟨?_, by omega, by omega, by omega⟩
          rw [Nat.pow_succ] at hf; omega
        have h4 : (455 : Int) < (D : Int) := by omega
        clear hq hf hD hBf hlt hqd
        go_wp2
        go_round
        case rel => exact ⟨q, B + 36, g, rfl, by go_num, HQ.out, HF.out.1, HF.out.2.1, HF.out.2.2.1⟩
        case measure => have := HF.out.2.2.2; simp [intOf]; omega
      · have HQ : Hid (R = B + 36 * D / (D + 38)) := by
          show _ = _
          rw [hq]
          cases f with
          | zero => rfl
          | succ g => show (if 455 < D then _ else _) = _; rw [if_neg hlt]
        obtain ⟨z, hz⟩ : ∃ z, z = 36 * D / (D + 38) := ⟨_, rfl⟩
        have e4 : (36 : Int) * (D : Int) / ((D : Int) + 38) = (z : Int) := by rw [hz, Int.natCast_ediv]; simp
        have z1 : (z : Int) ≤ 36 := by have := frac_le D; omega
        have z0 : (0 : Int) ≤ (z : Int) := by omega
        have HZ := hid hz
        have h4 : (D : Int) ≤ 455 := by omega
        clear hq hf hD hBf hlt hz
        go_wp2
        go_ret
        exact ⟨ret_int (by rw [HQ.out, ← HZ.out]; omega), rfl⟩
  · obtain ⟨x, hx⟩ : ∃ x, x = d / 700 := ⟨_, rfl⟩
    obtain ⟨y, hy⟩ : ∃ y, y = x / c := ⟨_, rfl⟩
    have e1 : (d : Int) / 700 = (x : Int) := by omega
    have e2 : (x : Int) / (c : Int) = (y : Int) := by rw [hy]; exact (Int.natCast_ediv x c).symm
    have hyx : y ≤ x := by rw [hy]; exact Nat.div_le_self _ _
    have HR : Hid (R = adF 64 (x + y) 0) := by show _ = _; rw [hR, hx.symm.symm]; simp [hy, hx]
    have HB : Hid (x + y ≤ 6000000000) := by show _ ≤ _; omega
    have d0 : (0 : Int) ≤ (d : Int) := by omega
    have d1 : (d : Int) ≤ 3000000000 := by omega
    have x0 : (0 : Int) ≤ (x : Int) := by omega
    have x1 : (x : Int) ≤ 3000000000 := by omega
    have y0 : (0 : Int) ≤ (y : Int) := by omega
    have y1 : (y : Int) ≤ 3000000000 := by omega
    clear hx hy hR hd hc hc2 hyx
    go_enter Try.func19, Try.ntmps19
    go_wp2_with fail
    go_loop [0, 7] (fun vd vb => ∃ D B f : Nat, vd = .int .i64 (D : Int) ∧ vb = .int .i64 (B : Int) ∧ R = adF f D B ∧ D < 2 ^ f ∧ D ≤ 6000000000 ∧ B + 36 * f ≤ 2304) (fun vd _ => (intOf vd).toNat)
    case atStart => exact ⟨x + y, 0, 64, by go_num, rfl, HR.out, Nat.lt_of_le_of_lt HB.out (by decide), HB.out, by decide⟩
    case round =>
      obtain ⟨D, B, f, rfl, rfl, hq, hf, hD, hBf⟩ := hrel
      clear HR HB e1 e2 x0 x1 y0 y1 d0 d1 c0 c1
      have D0 : (0 : Int) ≤ (D : Int) := by omega
      have D1 : (D : Int) ≤ 6000000000 := by omega
      have B0 : (0 : Int) ≤ (B : Int) := by omega
      have B1 : (B : Int) ≤ 2304 := by omega
      by_cases hlt : 455 < D
      · obtain ⟨g, rfl⟩ : ∃ g, f = g + 1 := by
          cases f with
          | zero => simp at hf; omega
          | succ g => exact ⟨g, rfl⟩
        obtain ⟨q, hqd⟩ : ∃ q, q = D / 35 := ⟨_, rfl⟩
        have e3 : (D : Int) / 35 = (q : Int) := by omega
        have HQ : Hid (R = adF g q (B + 36)) := by show _ = _; rw [hq, hqd]; show (if 455 < D then _ else _) = _; rw [if_pos hlt]
        have HF : Hid (q < 2 ^ g ∧ q ≤ 6000000000 ∧ B + 36 + 36 * g ≤ 2304 ∧ q < D) := by
          refine ⟨?_, by omega, by omega, by omega⟩
          rw [Nat.pow_succ] at hf; omega
        have h4 : (455 : Int) < (D : Int) := by omega
        clear hq hf hD hBf hlt hqd
        go_wp2
        go_round
        case rel => exact ⟨q, B + 36, g, rfl, by go_num, HQ.out, HF.out.1, HF.out.2.1, HF.out.2.2.1⟩
        case measure => have := HF.out.2.2.2; simp [intOf]; omega
      · have HQ : Hid (R = B + 36 * D / (D + 38)) := by
          show _ = _
          rw [hq]
          cases f with
          | zero => rfl
          | succ g => show (if 455 < D then _ else _) = _; rw [if_neg hlt]
        obtain ⟨z, hz⟩ : ∃ z, z = 36 * D / (D + 38) := ⟨_, rfl⟩
        have e4 : (36 : Int) * (D : Int) / ((D : Int) + 38) = (z : Int) := by rw [hz, Int.natCast_ediv]; simp
        have z1 : (z : Int) ≤ 36 := by have := frac_le D; omega
        have z0 : (0 : Int) ≤ (z : Int) := by omega
        have HZ := hid hz
        have h4 : (D : Int) ≤ 455 := by omega
        clear hq hf hD hBf hlt hz
        go_wp2
        go_ret
        exact ⟨ret_int (by rw [HQ.out, ← HZ.out]; omega), rfl⟩
end Go.Proofs.Ytpjajiilgojbgaa
