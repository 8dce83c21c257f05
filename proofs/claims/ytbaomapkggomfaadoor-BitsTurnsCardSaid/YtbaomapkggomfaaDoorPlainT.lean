/- Plain facts of turns of 32 bits. Nothing of the program. -/
import Derived.Test.YtbaomapkggomfaaDoorPlainN
namespace Go.Proofs.YtbaomapkggomfaaDoor
theorem turn_bv (x : BitVec 32) (k : Nat) (hk : k < 32) : turnI (x.toNat : Int) (k : Int) = ((x.rotateLeft k).toNat : Int) := by
  unfold turnI
  have hx := x.isLt
  have e1 : (x.toNat : Int) * 2 ^ ((k : Int)).toNat % 4294967296 = ((x.toNat <<< k % 2 ^ 32 : Nat) : Int) := by
    rw [Nat.shiftLeft_eq]; simp
  have e2 : (x.toNat : Int) / 2 ^ (32 - (k : Int)).toNat = ((x.toNat >>> (32 - k) : Nat) : Int) := by
    rw [Nat.shiftRight_eq_div_pow, show (32 - (k : Int)).toNat = 32 - k by omega]; simp
  rw [e1, e2, u32_or_nat _ _ (by have := Nat.mod_lt (x.toNat <<< k) (show 0 < 2 ^ 32 by decide); omega) (by have := Nat.shiftRight_le x.toNat (32 - k); omega)]
  rw [BitVec.toNat_rotateLeft, Nat.mod_eq_of_lt hk]
theorem rot_bit (x : BitVec 32) (r i : Nat) (hr : r < 32) (hi : i < 32) : (x.rotateLeft r).getLsbD i = x.getLsbD ((i + 32 - r) % 32) := by
  rw [BitVec.getLsbD_rotateLeft, Nat.mod_eq_of_lt hr]
  by_cases h : i < r
  · have e : (i + 32 - r) % 32 = 32 - r + i := by omega
    rw [e]; simp [h]
  · have e : (i + 32 - r) % 32 = i - r := by omega
    rw [e]; simp [h, hi]
theorem rot_rot (x : BitVec 32) (a b : Nat) (ha : a < 32) (hb : b < 32) : (x.rotateLeft a).rotateLeft b = x.rotateLeft ((a + b) % 32) := by
  apply BitVec.eq_of_getLsbD_eq
  intro i hi
  rw [rot_bit _ _ _ hb hi, rot_bit _ _ _ ha (by omega), rot_bit _ _ _ (by omega) hi]
  congr 1
  omega
theorem rot_zero (x : BitVec 32) : x.rotateLeft 0 = x := by
  apply BitVec.eq_of_getLsbD_eq
  intro i hi
  rw [rot_bit _ _ _ (by decide) hi]
  congr 1
  omega
theorem turn_some (x : Int) (h0 : 0 ≤ x) (h1 : x ≤ 4294967295) : ∃ b : BitVec 32, x = (b.toNat : Int) := ⟨BitVec.ofNat 32 x.toNat, by simp; omega⟩
theorem mod_some (n : Int) : ∃ k : Nat, k < 32 ∧ n % 32 = (k : Int) := ⟨(n % 32).toNat, by omega, by omega⟩
theorem turn_zero (x : Int) (h0 : 0 ≤ x) (h1 : x ≤ 4294967295) : turnI x 0 = x := by
  obtain ⟨b, rfl⟩ := turn_some x h0 h1
  have := turn_bv b 0 (by decide)
  rw [rot_zero] at this
  exact this
theorem turn_add (x n m : Int) (h0 : 0 ≤ x) (h1 : x ≤ 4294967295) : turnI (turnI x (n % 32)) (m % 32) = turnI x ((n + m) % 32) := by
  obtain ⟨b, rfl⟩ := turn_some x h0 h1
  obtain ⟨i, hi, ei⟩ := mod_some n
  obtain ⟨j, hj, ej⟩ := mod_some m
  obtain ⟨k, hk, ek⟩ := mod_some (n + m)
  rw [ei, ej, ek, turn_bv b i hi, turn_bv _ j hj, turn_bv b k hk, rot_rot b i j hi hj, show (i + j) % 32 = k by omega]
theorem turn_back (x n : Int) (h0 : 0 ≤ x) (h1 : x ≤ 4294967295) : turnI (turnI x (n % 32)) (-n % 32) = x := by
  rw [turn_add x n (-n) h0 h1, show (n + -n) % 32 = 0 by omega]
  exact turn_zero x h0 h1
end Go.Proofs.YtbaomapkggomfaaDoor
