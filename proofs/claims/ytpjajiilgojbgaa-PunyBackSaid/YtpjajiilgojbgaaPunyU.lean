/- Great letters: what Encode writes, raised, is read alike. -/
import Derived.Test.YtpjajiilgojbgaaPunyOrderL
import Derived.Lib.ConvBytes
namespace Go.Proofs.Ytpjajiilgojbgaa
open Go.RowKit
set_option linter.unusedVariables false
def up (c : UInt8) : UInt8 := if 97 ≤ c.toNat ∧ c.toNat ≤ 122 then b8 (c.toNat - 32) else c
theorem up_nat (c : UInt8) : (up c).toNat = if 97 ≤ c.toNat ∧ c.toNat ≤ 122 then c.toNat - 32 else c.toNat := by
  unfold up
  split
  · rw [b8_nat _ (by omega)]
  · rfl
theorem up_val (d : Nat) (h : d < 36) : val (up (letter d)) = some d := by
  have h1 := letter_nat d h
  unfold val
  rw [up_nat, h1]
  repeat' split
  all_goals first | omega | (congr 1; omega)
theorem up_ne (d : Nat) (h : d < 36) : (up (letter d)).toNat ≠ 45 := by
  rw [up_nat, letter_nat d h]
  repeat' split
  all_goals omega
theorem encD_lens (l : List Nat) (plain : Nat) : ∀ (f delta bias n done : Nat), (encD l plain f delta bias n done).length ≤ f * (65 * l.length)
  | 0, delta, bias, n, done => by simp [encD]
  | f + 1, delta, bias, n, done => by
    unfold encD
    split
    · simp only [List.length_append]
      have h1 := scanD_lens (least l n) plain l (delta + (least l n - n) * (done + 1)) bias done
      have h2 : l.countP (· == least l n) ≤ l.length := List.countP_le_length
      have h3 := encD_lens l plain f ((scanD (least l n) plain l (delta + (least l n - n) * (done + 1)) bias done).2.1 + 1) (scanD (least l n) plain l (delta + (least l n - n) * (done + 1)) bias done).2.2.1 (least l n + 1) (scanD (least l n) plain l (delta + (least l n - n) * (done + 1)) bias done).2.2.2
      rw [Nat.add_mul, Nat.one_mul]
      omega
    · simp
theorem penc_len (m : List Nat) (h : m.length ≤ 256) : (enc m).length ≤ 10000000 := by
  unfold enc
  have h1 := encD_lens m (m.countP (· < 128)) m.length 0 72 128 (m.countP (· < 128))
  have h2 : m.length * (65 * m.length) ≤ 256 * (65 * 256) := Nat.mul_le_mul h (Nat.mul_le_mul_left _ h)
  have h3 := low_le m
  simp only [List.length_append, List.length_map]
  split <;> simp <;> omega
/-- The text with great letters behind its own signs. -/
def raised (m : List Nat) : List UInt8 := (enc m).take (m.countP (· < 128)) ++ ((enc m).drop (m.countP (· < 128))).map up
theorem enc_drop (m : List Nat) : (enc m).drop (m.countP (· < 128)) = (if m.countP (· < 128) = 0 then [] else [45]) ++ (encD m (m.countP (· < 128)) m.length 0 72 128 (m.countP (· < 128))).map letter := by
  unfold enc
  rw [List.append_assoc, ← low_len]
  exact List.drop_left
theorem enc_take (m : List Nat) : (enc m).take (m.countP (· < 128)) = low m := by
  unfold enc
  rw [List.append_assoc, ← low_len]
  exact List.take_left
theorem raised_dec (m : List Nat) (hl : m.length ≤ 256) (hS : ∀ c ∈ m, isS (c : Int) = true) : dec (strOf (raised m)) = some m := by
  unfold raised
  rw [enc_drop, enc_take, List.map_append]
  have h45 : (if m.countP (· < 128) = 0 then [] else [(45 : UInt8)]).map up = if m.countP (· < 128) = 0 then [] else [45] := by
    split
    · rfl
    · decide
  rw [h45, ← List.append_assoc]
  refine dec_of m hl hS _ ?_ ?_
  · rw [List.map_map, List.map_map]
    refine List.map_congr_left fun d hd => ?_
    exact up_val d (encD_digits _ _ _ _ _ _ _ d hd)
  · intro c hc
    rw [List.map_map] at hc
    obtain ⟨d, hd, rfl⟩ := List.mem_map.1 hc
    exact up_ne d (encD_digits _ _ _ _ _ _ _ d hd)
theorem raised_len (m : List Nat) : (raised m).length = (enc m).length := by
  unfold raised
  rw [List.length_append, List.length_map, ← List.length_append, List.take_append_drop]
theorem raised_at (m : List Nat) (j : Nat) (c : UInt8) (h : (enc m)[j]? = some c) : (raised m)[j]? = some (if m.countP (· < 128) ≤ j then up c else c) := by
  unfold raised
  have hj : j < (enc m).length := by
    rcases Nat.lt_or_ge j (enc m).length with h' | h'
    · exact h'
    · rw [List.getElem?_eq_none h'] at h; cases h
  by_cases hp : m.countP (· < 128) ≤ j
  · rw [if_pos hp, List.getElem?_append_right (by rw [List.length_take]; omega), List.getElem?_map, List.getElem?_drop, List.length_take]
    rw [show m.countP (· < 128) + (j - min (m.countP (· < 128)) (enc m).length) = j by omega, h]
    rfl
  · rw [if_neg hp, List.getElem?_append_left (by rw [List.length_take]; omega), List.getElem?_take_of_lt (by omega), h]
/-- What stands behind its own signs. -/
theorem enc_kinds (m : List Nat) (j : Nat) (c : UInt8) (h : (enc m)[j]? = some c) (hj : m.countP (· < 128) ≤ j) : (97 ≤ c.toNat ∧ c.toNat ≤ 122) ∨ (48 ≤ c.toNat ∧ c.toNat ≤ 57) ∨ c.toNat = 45 := by
  have h1 : ((enc m).drop (m.countP (· < 128)))[j - m.countP (· < 128)]? = some c := by
    rw [List.getElem?_drop, show m.countP (· < 128) + (j - m.countP (· < 128)) = j by omega, h]
  have h2 := List.mem_of_getElem? h1
  rw [enc_drop] at h2
  rcases List.mem_append.1 h2 with g | g
  · split at g
    · cases g
    · rw [List.mem_singleton.1 g]; right; right; rfl
  · obtain ⟨d, hd, rfl⟩ := List.mem_map.1 g
    rcases (letter_ne d (encD_digits _ _ _ _ _ _ _ d hd)).2 with k | k
    · exact .inl k
    · exact .inr (.inl k)
theorem own_snoc (l : List Int) (k : Nat) (h : k < l.length) : (nats (l.take (k + 1))).countP (· < 128) = (nats (l.take k)).countP (· < 128) + (if l[k].toNat < 128 then 1 else 0) := by
  unfold nats
  rw [List.take_succ_eq_append_getElem h, List.map_append, List.countP_append]
  simp [List.countP_cons]
end Go.Proofs.Ytpjajiilgojbgaa
