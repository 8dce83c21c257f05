/- The walks of the document's own Crc and Fnv. -/
import Derived.Test.YtbaomapkggomfaaDoorSumsW
import Derived.Test.YtbaomapkggomfaaDoorPlainC
namespace Go.Proofs.YtbaomapkggomfaaDoor
open Go.RowKit
set_option linter.unusedVariables false
theorem u32one (a : Nat) (ha : a < 4294967296) : bits .and .u32 (a : Int) 1 = ((a % 2 : Nat) : Int) := by
  rw [show (1 : Int) = ((1 : Nat) : Int) from rfl, u32_and_nat a 1 ha (by decide), show 1 = 2 ^ 1 - 1 from rfl, Nat.and_two_pow_sub_one_eq_mod a 1]
theorem u32half (a : Nat) (ha : a < 4294967296) : ∃ x : Nat, x = (a / 2) ^^^ 3988292384 ∧ x < 4294967296 ∧ bits .xor .u32 ((a : Int) / 2) 3988292384 = (x : Int) :=
  ⟨_, rfl, xor_lt32 (by omega) (by decide), by have := u32_xor_nat (a / 2) 3988292384 (by omega) (by decide); rw [← this]; rfl⟩
set_option maxHeartbeats 1000000 in
theorem rcrc_calls (v : Value) (l : List UInt8) (w : World) (hv : BRow w v l) :
    Calls Tryd.prog 17 #[v] w fun e w' => e = .returned (.int .u32 (crcN l : Nat)) ∧ w' = w := by
  obtain ⟨a, cap, rfl, h1, h2, h3⟩ := hv
  have H3 := hid h3
  clear h3
  unfold maxLen at h2
  go_enter Tryd.func17, Tryd.ntmps17
  go_wp2
  go_loop [3, 4] (fun s i => ∃ k : Nat, k ≤ l.length ∧ i = .int .i64 k ∧ s = .int .u32 (foldN (l.take k) : Nat)) (fun _ i => l.length - (intOf i).toNat)
  case atStart => exact ⟨0, Nat.zero_le _, rfl, rfl⟩
  case round =>
    obtain ⟨k, hk, rfl, rfl⟩ := hrel
    by_cases hlt : k < l.length
    · obtain ⟨b, off, rfl, hb, hc⟩ := H3.out (by intro h; simp [h] at hlt)
      have hck := hc k hlt
      clear hc
      have hs := fold_lt (l.take k)
      have HN := hid ((fold_snoc l k hlt).trans (step_bits _ _))
      generalize foldN (l.take k) = s at *
      generalize l[k] = c at *
      have hcl := byte_lt c
      obtain ⟨x1, q1, l1, e1⟩ := u32x s c.toNat hs (by omega)
      have HE : Hid (foldN (l.take (k + 1)) = bitsN 8 x1) := by
        show foldN (l.take (k + 1)) = _
        rw [HN.out, q1]
      clear HN q1
      go_wp2
      go_loop [3, 5] (fun s i => ∃ j : Nat, j ≤ 8 ∧ i = .int .i64 j ∧ s = .int .u32 (bitsN j x1 : Nat)) (fun _ i => 8 - (intOf i).toNat)
      case atStart => exact ⟨0, Nat.zero_le _, rfl, rfl⟩
      case round =>
        obtain ⟨j, hj, rfl, rfl⟩ := hrel
        by_cases hj8 : j < 8
        · have hq := bits_lt l1 j
          have HB : Hid (bitsN (j + 1) x1 = bitN (bitsN j x1)) := rfl
          generalize bitsN j x1 = y at *
          have ho := u32one y hq
          rcases Nat.mod_two_eq_zero_or_one y with hy | hy
          · rw [hy] at ho
            have HC : Hid (bitN y = y / 2) := by show bitN y = _; unfold bitN; rw [if_neg (by omega)]
            clear hy
            go_wp2
            go_round
            case rel => exact ⟨j + 1, by omega, by go_num, by rw [HB.out, HC.out]; rfl⟩
            case measure => simp [intOf]; omega
          · rw [hy] at ho
            obtain ⟨z, q2, l2, e2⟩ := u32half y hq
            have HC : Hid (bitN y = z) := by show bitN y = _; unfold bitN; rw [if_pos hy, q2]
            clear hy q2
            go_wp2
            go_round
            case rel => exact ⟨j + 1, by omega, by go_num, by rw [HB.out, HC.out]⟩
            case measure => simp [intOf]; omega
        · have hj' : j = 8 := by omega
          subst hj'
          go_wp2
          go_round
          case rel => exact ⟨k + 1, by omega, by go_num, by rw [HE.out]⟩
          case measure => simp [intOf]; omega
    · have HE : Hid (l.take k = l) := List.take_of_length_le (by omega)
      have hs := fold_lt l
      rw [HE.out]
      clear HE
      obtain ⟨x1, q1, l1, e1⟩ := u32x 4294967295 (foldN l) (by decide) hs
      have HQ : Hid (crcN l = x1) := q1.symm
      clear q1
      generalize foldN l = s at *
      go_wp2
      all_goals
        go_ret
        exact ⟨by rw [HQ.out]; exact ret_int (by rw [show IntKind.u32.max = ((4294967295 : Nat) : Int) from by decide]; exact e1), rfl⟩
set_option maxHeartbeats 400000 in
theorem rfnv_calls (v : Value) (l : List UInt8) (w : World) (hv : BRow w v l) :
    Calls Tryd.prog 19 #[v] w fun e w' => e = .returned (.int .u64 (fnvN l : Nat)) ∧ w' = w := by
  obtain ⟨a, cap, rfl, h1, h2, h3⟩ := hv
  have H3 := hid h3
  clear h3
  unfold maxLen at h2
  go_enter Tryd.func19, Tryd.ntmps19
  go_wp2
  go_loop [3, 4] (fun s i => ∃ k : Nat, k ≤ l.length ∧ i = .int .i64 k ∧ s = .int .u64 (fnvN (l.take k) : Nat)) (fun _ i => l.length - (intOf i).toNat)
  case atStart => exact ⟨0, Nat.zero_le _, rfl, by rw [List.take_zero, fnvBegin.out]; rfl⟩
  case round =>
    obtain ⟨k, hk, rfl, rfl⟩ := hrel
    by_cases hlt : k < l.length
    · obtain ⟨b, off, rfl, hb, hc⟩ := H3.out (by intro h; simp [h] at hlt)
      have hck := hc k hlt
      clear hc
      have hs := fnv_lt (l.take k)
      have HN := hid (fnv_snoc l k hlt)
      generalize fnvN (l.take k) = s at *
      generalize l[k] = c at *
      have hcl := byte_lt c
      obtain ⟨x1, q1, l1, e1⟩ := u64x s c hs
      have HE : Hid (fnvN (l.take (k + 1)) = x1 * 1099511628211 % 18446744073709551616) := by
        show fnvN (l.take (k + 1)) = _
        rw [HN.out, q1]; rfl
      clear HN q1
      go_wp2
      go_round
      case rel => exact ⟨k + 1, by omega, by go_num, by rw [HE.out]; simp [IntKind.wrap, IntKind.bits, IntKind.signed]⟩
      case measure => simp [intOf]; omega
    · have HE : Hid (l.take k = l) := List.take_of_length_le (by omega)
      rw [HE.out]
      clear HE
      go_wp2
      go_ret
      exact ⟨rfl, rfl⟩
end Go.Proofs.YtbaomapkggomfaaDoor
