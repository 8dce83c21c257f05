/- Plain facts of the sum: three texts taken together; a byte turned. Nothing of the program. -/
import Derived.Test.YtbaomapkggomfabDoorPlainC
namespace Go.Proofs.YtbaomapkggomfabDoor
set_option linter.unusedVariables false
theorem xor_cancel_r {a b c : Nat} (h : a ^^^ c = b ^^^ c) : a = b := by
  have := congrArg (· ^^^ c) h
  simpa [Nat.xor_assoc] using this
theorem xor_cancel_l {a b c : Nat} (h : c ^^^ a = c ^^^ b) : a = b := xor_cancel_r (c := c) (by rw [Nat.xor_comm a, Nat.xor_comm b]; exact h)
theorem step_xor3 (s t u : Nat) (a b c : UInt8) : stepN (s ^^^ t ^^^ u) (a ^^^ b ^^^ c) = stepN s a ^^^ stepN t b ^^^ stepN u c := by
  rw [step_bits, step_bits, step_bits, step_bits, ← bits_xor, ← bits_xor]
  congr 1
  rw [UInt8.toNat_xor, UInt8.toNat_xor]
  apply Nat.eq_of_testBit_eq
  intro i
  simp only [Nat.testBit_xor]
  cases s.testBit i <;> cases t.testBit i <;> cases u.testBit i <;> cases a.toNat.testBit i <;> cases b.toNat.testBit i <;> cases c.toNat.testBit i <;> rfl
/-- Three texts taken together by exclusive or. -/
def xor3 : List UInt8 → List UInt8 → List UInt8 → List UInt8
  | a :: l, b :: m, c :: n => (a ^^^ b ^^^ c) :: xor3 l m n
  | _, _, _ => []
theorem xor3_len : ∀ (a b c : List UInt8), b.length = a.length → c.length = a.length → (xor3 a b c).length = a.length
  | [], _, _, _, _ => by simp [xor3]
  | x :: a, [], _, h, _ => by simp at h
  | x :: a, y :: b, [], _, h => by simp at h
  | x :: a, y :: b, z :: c, h1, h2 => by simp only [xor3, List.length_cons]; rw [xor3_len a b c (by simpa using h1) (by simpa using h2)]
theorem xor3_at : ∀ (a b c : List UInt8) (i : Nat) (h1 : i < a.length) (h2 : i < b.length) (h3 : i < c.length), (xor3 a b c)[i]? = some (a[i] ^^^ b[i] ^^^ c[i])
  | x :: a, y :: b, z :: c, 0, _, _, _ => by simp [xor3]
  | x :: a, y :: b, z :: c, i + 1, h1, h2, h3 => by
    simp only [xor3, List.getElem?_cons_succ, List.getElem_cons_succ]
    exact xor3_at a b c i (by simpa using h1) (by simpa using h2) (by simpa using h3)
theorem foldl_xor3 : ∀ (a b c : List UInt8) (s t u : Nat), b.length = a.length → c.length = a.length → (xor3 a b c).foldl stepN (s ^^^ t ^^^ u) = a.foldl stepN s ^^^ b.foldl stepN t ^^^ c.foldl stepN u
  | [], [], [], s, t, u, _, _ => rfl
  | [], y :: b, _, _, _, _, h, _ => by simp at h
  | [], [], z :: c, _, _, _, _, h => by simp at h
  | x :: a, [], _, _, _, _, h, _ => by simp at h
  | x :: a, y :: b, [], _, _, _, _, h => by simp at h
  | x :: a, y :: b, z :: c, s, t, u, h1, h2 => by
    simp only [xor3, List.foldl_cons]
    rw [step_xor3]
    exact foldl_xor3 a b c _ _ _ (by simpa using h1) (by simpa using h2)
theorem xor3_self (F : Nat) : F ^^^ F ^^^ F = F := by rw [Nat.xor_self, Nat.zero_xor]
theorem crc_xor3 (a b c : List UInt8) (h1 : b.length = a.length) (h2 : c.length = a.length) : crcN (xor3 a b c) = crcN a ^^^ crcN b ^^^ crcN c := by
  unfold crcN
  have h := foldl_xor3 a b c 4294967295 4294967295 4294967295 h1 h2
  rw [xor3_self] at h
  unfold foldN
  rw [h]
  generalize a.foldl stepN 4294967295 = p
  generalize b.foldl stepN 4294967295 = q
  generalize c.foldl stepN 4294967295 = r
  generalize 4294967295 = F
  apply Nat.eq_of_testBit_eq
  intro i
  simp only [Nat.testBit_xor]
  cases F.testBit i <;> cases p.testBit i <;> cases q.testBit i <;> cases r.testBit i <;> rfl
theorem half_top (x : Nat) (h : x < 2147483648) : 2147483648 ≤ x ^^^ 3988292384 := by
  have e : 3988292384 = 2147483648 ^^^ 1840808736 := by decide
  have h2 : x ^^^ 1840808736 < 2147483648 := Nat.xor_lt_two_pow (n := 31) h (by decide)
  rw [e, ← Nat.xor_assoc, Nat.xor_comm x, Nat.xor_assoc]
  have h3 : 2147483648 ^^^ (x ^^^ 1840808736) = 2147483648 + (x ^^^ 1840808736) := by
    generalize x ^^^ 1840808736 = y at *
    have hy : y < 2 ^ 31 := h2
    apply Nat.eq_of_testBit_eq
    intro i
    have h4 := Nat.testBit_two_pow_mul_add 1 hy i
    rw [Nat.mul_one] at h4
    rw [show 2147483648 + y = 2 ^ 31 + y from rfl, h4, Nat.testBit_xor, show (2147483648 : Nat) = 2 ^ 31 * 1 from rfl, Nat.testBit_two_pow_mul]
    by_cases hi : i < 31
    · rw [if_pos hi]; simp [show ¬ 31 ≤ i by omega]
    · rw [if_neg hi, Nat.testBit_lt_two_pow (Nat.lt_of_lt_of_le hy (Nat.pow_le_pow_right (by decide) (by omega)))]; simp [show 31 ≤ i by omega]
  omega
theorem bit_inj {s t : Nat} (hs : s < 4294967296) (ht : t < 4294967296) (h : bitN s = bitN t) : s = t := by
  unfold bitN at h
  rcases Nat.mod_two_eq_zero_or_one s with es | es <;> rcases Nat.mod_two_eq_zero_or_one t with et | et
  · rw [if_neg (by omega), if_neg (by omega)] at h; omega
  · rw [if_neg (by omega), if_pos et] at h; have := half_top (t / 2) (by omega); omega
  · rw [if_pos es, if_neg (by omega)] at h; have := half_top (s / 2) (by omega); omega
  · rw [if_pos es, if_pos et] at h
    have := xor_cancel_r h
    omega
theorem bits_inj {s t : Nat} (hs : s < 4294967296) (ht : t < 4294967296) : ∀ j, bitsN j s = bitsN j t → s = t
  | 0, h => h
  | j + 1, h => bits_inj hs ht j (bit_inj (bits_lt hs j) (bits_lt ht j) h)
theorem xor_byte_lt {s : Nat} (c : UInt8) (h : s < 4294967296) : s ^^^ c.toNat < 4294967296 := xor_lt32 h (by have := byte_lt c; omega)
theorem step_inj {s t : Nat} (c : UInt8) (hs : s < 4294967296) (ht : t < 4294967296) (h : stepN s c = stepN t c) : s = t := by
  rw [step_bits, step_bits] at h
  exact xor_cancel_r (bits_inj (xor_byte_lt c hs) (xor_byte_lt c ht) 8 h)
theorem step_inj' {s : Nat} (c d : UInt8) (hs : s < 4294967296) (h : stepN s c = stepN s d) : c = d := by
  rw [step_bits, step_bits] at h
  exact UInt8.toNat_inj.1 (xor_cancel_l (bits_inj (xor_byte_lt c hs) (xor_byte_lt d hs) 8 h))
theorem foldl_inj : ∀ (l : List UInt8) (s t : Nat), s < 4294967296 → t < 4294967296 → l.foldl stepN s = l.foldl stepN t → s = t
  | [], _, _, _, _, h => h
  | c :: l, s, t, hs, ht, h => step_inj c hs ht (foldl_inj l _ _ (step_lt c hs) (step_lt c ht) h)
theorem fold_set : ∀ (l : List UInt8) (s : Nat) (i : Nat) (c : UInt8) (hi : i < l.length), s < 4294967296 → (l.set i c).foldl stepN s = l.foldl stepN s → c = l[i]
  | d :: l, s, 0, c, _, hs, h => by
    simp only [List.set_cons_zero, List.foldl_cons] at h
    exact step_inj' c d hs (foldl_inj l _ _ (step_lt c hs) (step_lt d hs) h)
  | d :: l, s, i + 1, c, hi, hs, h => by
    simp only [List.set_cons_succ, List.foldl_cons, List.getElem_cons_succ] at h ⊢
    exact fold_set l _ i c (by simpa using hi) (step_lt d hs) h
theorem crc_set (l : List UInt8) (i : Nat) (c : UInt8) (hi : i < l.length) (h : c ≠ l[i]) : crcN (l.set i c) ≠ crcN l := by
  intro e
  unfold crcN at e
  exact h (fold_set l 4294967295 i c hi (by decide) (xor_cancel_l e))
theorem xor_ne (a x : UInt8) (h : x ≠ 0) : a ^^^ x ≠ a := by
  intro e
  apply h
  have := congrArg UInt8.toNat e
  rw [UInt8.toNat_xor] at this
  have h2 : a.toNat ^^^ x.toNat = a.toNat ^^^ 0 := by rw [Nat.xor_zero]; exact this
  exact UInt8.toNat_inj.1 (xor_cancel_l h2)
end Go.Proofs.YtbaomapkggomfabDoor
