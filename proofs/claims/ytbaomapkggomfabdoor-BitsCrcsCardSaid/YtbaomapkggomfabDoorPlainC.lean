/- Plain facts of the sum by a polynomial: bit by bit, four bits at once, taken together. Nothing of the program. -/
import Derived.Test.YtbaomapkggomfabDoorPlainN
namespace Go.Proofs.YtbaomapkggomfabDoor
/-- A step of one bit; j of them. -/
def bitN (s : Nat) : Nat := if s % 2 = 1 then (s / 2) ^^^ 3988292384 else s / 2
def bitsN : Nat → Nat → Nat
  | 0, s => s
  | j + 1, s => bitN (bitsN j s)
theorem bit_lt {s : Nat} (h : s < 4294967296) : bitN s < 4294967296 := by
  unfold bitN; split
  · exact xor_lt32 (by omega) (by decide)
  · omega
theorem bits_lt {s : Nat} (h : s < 4294967296) : ∀ j, bitsN j s < 4294967296
  | 0 => h
  | j + 1 => bit_lt (bits_lt h j)
theorem bit_xor (a b : Nat) : bitN (a ^^^ b) = bitN a ^^^ bitN b := by
  have hm : (a ^^^ b) % 2 = (a + b) % 2 := by
    have h := @Nat.xor_mod_two_eq_one a b
    rcases Nat.mod_two_eq_zero_or_one a with ha | ha <;> rcases Nat.mod_two_eq_zero_or_one b with hb | hb <;> rcases Nat.mod_two_eq_zero_or_one (a ^^^ b) with hc | hc <;> simp [ha, hb, hc] at h <;> omega
  have hd : (a ^^^ b) / 2 = a / 2 ^^^ b / 2 := Nat.xor_div_two
  unfold bitN
  rw [hm, hd]
  rcases Nat.mod_two_eq_zero_or_one a with ha | ha <;> rcases Nat.mod_two_eq_zero_or_one b with hb | hb
  · rw [if_neg (by omega), if_neg (by omega), if_neg (by omega)]
  · rw [if_pos (by omega), if_neg (by omega), if_pos hb, Nat.xor_assoc]
  · rw [if_pos (by omega), if_pos ha, if_neg (by omega), Nat.xor_assoc, Nat.xor_comm (b / 2), ← Nat.xor_assoc]
  · rw [if_neg (by omega), if_pos ha, if_pos hb, Nat.xor_comm (b / 2) 3988292384, Nat.xor_assoc, ← Nat.xor_assoc 3988292384, Nat.xor_self, Nat.zero_xor]
theorem bits_xor (a b : Nat) : ∀ j, bitsN j (a ^^^ b) = bitsN j a ^^^ bitsN j b
  | 0 => rfl
  | j + 1 => by show bitN (bitsN j (a ^^^ b)) = _; rw [bits_xor a b j, bit_xor]; rfl
theorem bit_even (m : Nat) : bitN (2 * m) = m := by unfold bitN; rw [if_neg (by omega)]; omega
theorem bits_four (q : Nat) : bitsN 4 (16 * q) = q := by
  show bitN (bitN (bitN (bitN (16 * q)))) = q
  rw [show 16 * q = 2 * (2 * (2 * (2 * q))) by omega, bit_even, bit_even, bit_even, bit_even]
theorem bits_tab (r : Nat) (h : r < 16) : bitsN 4 r = tabN.getD r 0 := by
  have : ∀ j : Fin 16, bitsN 4 j.val = tabN.getD j.val 0 := by decide +kernel
  exact this ⟨r, h⟩
theorem split16 (s : Nat) : s = (16 * (s / 16)) ^^^ (s % 16) := by
  have hr : s % 16 < 2 ^ 4 := by omega
  apply Nat.eq_of_testBit_eq
  intro i
  conv => lhs; rw [show s = 2 ^ 4 * (s / 16) + s % 16 by omega]
  rw [Nat.testBit_two_pow_mul_add _ hr, Nat.testBit_xor, show 16 * (s / 16) = 2 ^ 4 * (s / 16) from rfl, Nat.testBit_two_pow_mul]
  by_cases h : i < 4
  · rw [if_pos h]; simp [show ¬ 4 ≤ i by omega]
  · rw [if_neg h, Nat.testBit_lt_two_pow (Nat.lt_of_lt_of_le hr (Nat.pow_le_pow_right (by decide) (by omega)))]; simp [show 4 ≤ i by omega]
theorem nib_bits (s : Nat) : nibN s = bitsN 4 s := by
  conv => rhs; rw [split16 s]
  rw [bits_xor, bits_four, bits_tab _ (by omega)]; rfl
theorem bits_add (s : Nat) (i : Nat) : ∀ j, bitsN j (bitsN i s) = bitsN (i + j) s
  | 0 => rfl
  | j + 1 => by show bitN (bitsN j (bitsN i s)) = _; rw [bits_add s i j]; rfl
theorem step_bits (s : Nat) (c : UInt8) : stepN s c = bitsN 8 (s ^^^ c.toNat) := by
  unfold stepN
  rw [nib_bits, nib_bits, bits_add]
end Go.Proofs.YtbaomapkggomfabDoor
