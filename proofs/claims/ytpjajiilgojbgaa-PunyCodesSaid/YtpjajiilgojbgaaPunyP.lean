/- Punycode, as a plain function of numbers; what Encode writes Decode reads. Nothing of the program. -/
import Derived.Test.YtpjajiilgojbgaaUtfP
namespace Go.Proofs.Ytpjajiilgojbgaa
set_option linter.unusedVariables false
def thr (k bias : Nat) : Nat := min (max (k - bias) 1) 26
theorem thr_ge (k b : Nat) : 1 ≤ thr k b := by unfold thr; omega
theorem thr_le (k b : Nat) : thr k b ≤ 26 := by unfold thr; omega
def adF : Nat → Nat → Nat → Nat
  | 0, d, b => b + 36 * d / (d + 38)
  | f + 1, d, b => if 455 < d then adF f (d / 35) (b + 36) else b + 36 * d / (d + 38)
def adapt (d c : Nat) (first : Bool) : Nat := adF 64 ((if first then d / 700 else d / 2) + (if first then d / 700 else d / 2) / c) 0
theorem frac_le (d : Nat) : 36 * d / (d + 38) ≤ 36 := by
  have : 36 * d / (d + 38) ≤ 36 * (d + 38) / (d + 38) := Nat.div_le_div_right (by omega)
  rwa [Nat.mul_div_cancel _ (by omega)] at this
theorem adF_le : ∀ f d b, adF f d b ≤ b + 36 * f + 36
  | 0, d, b => by unfold adF; have := frac_le d; omega
  | f + 1, d, b => by
    unfold adF
    split
    · have := adF_le f (d / 35) (b + 36); omega
    · have := frac_le d; omega
theorem adapt_le (d c : Nat) (f : Bool) : adapt d c f ≤ 2340 := by unfold adapt; exact Nat.le_trans (adF_le _ _ _) (by decide)
/-- A number's digits. -/
def numF : Nat → Nat → Nat → Nat → List Nat
  | 0, k, b, n => [n % 36]
  | f + 1, k, b, n => if n < thr k b then [n] else (thr k b + (n - thr k b) % (36 - thr k b)) :: numF f (k + 36) b ((n - thr k b) / (36 - thr k b))
theorem num_less {n t f : Nat} (h : n < 2 ^ (f + 1)) (h1 : 1 ≤ t) (h2 : t ≤ 26) : (n - t) / (36 - t) < 2 ^ f := by
  have h3 : (n - t) / (36 - t) ≤ (n - t) / 2 := Nat.div_le_div_left (by omega) (by omega)
  rw [Nat.pow_succ] at h
  omega
theorem numF_lt : ∀ f k b n, ∀ d ∈ numF f k b n, d < 36
  | 0, k, b, n => by intro d hd; simp [numF] at hd; omega
  | f + 1, k, b, n => by
    have h1 := thr_ge k b
    have h2 := thr_le k b
    unfold numF
    split
    · intro d hd; rw [List.mem_singleton] at hd; omega
    · intro d hd
      rcases List.mem_cons.1 hd with rfl | hd
      · have := Nat.mod_lt (n - thr k b) (y := 36 - thr k b) (by omega); omega
      · exact numF_lt f _ _ _ d hd
theorem numF_len : ∀ f k b n, 1 ≤ (numF f k b n).length ∧ (numF f k b n).length ≤ f + 1
  | 0, k, b, n => by simp [numF]
  | f + 1, k, b, n => by
    unfold numF
    split
    · simp
    · have := numF_len f (k + 36) b ((n - thr k b) / (36 - thr k b)); simp; omega
def num (b n : Nat) : List Nat := numF 64 36 b n
def most : Nat := 2147483647
/-- Reads a number; tells it and what is behind. -/
def rd : List (Option Nat) → Nat → Nat → Nat → Nat → Option (Nat × List (Option Nat))
  | [], n, w, k, b => none
  | none :: r, n, w, k, b => none
  | some d :: r, n, w, k, b => if most < w ∨ (most - n) / w < d then none else if d < thr k b then some (n + d * w, r) else rd r (n + d * w) (w * (36 - thr k b)) (k + 36) b
theorem rd_len : ∀ l n w k b m r, rd l n w k b = some (m, r) → r.length < l.length
  | [], n, w, k, b, m, r, h => by simp [rd] at h
  | none :: l, n, w, k, b, m, r, h => by simp [rd] at h
  | some d :: l, n, w, k, b, m, r, h => by
    unfold rd at h
    split at h
    · cases h
    · split at h
      · injection h with h; injection h with h1 h2; subst h2; simp
      · have := rd_len l _ _ _ _ _ _ h; simp; omega
/-- What is read lies within the bound. -/
theorem rd_le : ∀ l n w k b m r, rd l n w k b = some (m, r) → 1 ≤ w → n ≤ most → n ≤ m ∧ m ≤ most
  | [], n, w, k, b, m, r, h, _, _ => by simp [rd] at h
  | none :: l, n, w, k, b, m, r, h, _, _ => by simp [rd] at h
  | some d :: l, n, w, k, b, m, r, h, hw, hn => by
    unfold rd at h
    split at h
    · cases h
    · rename_i hx
      have hd : d * w ≤ most - n := by
        have : d ≤ (most - n) / w := by omega
        exact (Nat.le_div_iff_mul_le (by omega)).1 this
      split at h
      · injection h with h; injection h with h1 h2; omega
      · have h1 := thr_le k b
        have := rd_le l _ _ _ _ _ _ h (Nat.mul_pos (by omega) (by omega)) (by omega)
        omega
theorem rd_num_step {n t w acc : Nat} (hn : t ≤ n) (h1 : 1 ≤ t) (h2 : t ≤ 26) : acc + (t + (n - t) % (36 - t)) * w + (n - t) / (36 - t) * (w * (36 - t)) = acc + n * w := by
  have h := Nat.div_add_mod (n - t) (36 - t)
  have e : n = t + (n - t) % (36 - t) + (36 - t) * ((n - t) / (36 - t)) := by omega
  generalize (n - t) % (36 - t) = a at *
  generalize (n - t) / (36 - t) = q at *
  rw [e, Nat.add_assoc acc, Nat.add_mul (t + a)]
  congr 2
  rw [Nat.mul_comm (36 - t) q, Nat.mul_assoc, Nat.mul_comm w]
theorem pow35 {j : Nat} (h : 35 ^ j ≤ 700000000) : 35 ^ j ≤ 52521875 := by
  rcases Nat.lt_or_ge j 6 with g | g
  · exact Nat.le_trans (Nat.pow_le_pow_right (by decide) (by omega : j ≤ 5)) (by decide)
  · have := Nat.pow_le_pow_right (n := 35) (by decide) g
    have e : 35 ^ 6 = 1838265625 := by decide
    omega
theorem rd_num (b : Nat) : ∀ f n k w acc rest, n < 2 ^ f → w ≤ most → 1 ≤ w → (b + 26 ≤ k ∨ ∃ j, w = 35 ^ j) → acc + n * w ≤ 700000000 →
    rd ((numF f k b n).map some ++ rest) acc w k b = some (acc + n * w, rest)
  | 0, n, k, w, acc, rest, h, hw, hw1, hk, hB => by
    have hn : n = 0 := by simpa using h
    subst hn
    have := thr_ge k b
    simp [numF, rd]
    exact ⟨hw, by omega⟩
  | f + 1, n, k, w, acc, rest, h, hw, hw1, hk, hB => by
    have t1 := thr_ge k b
    have t2 := thr_le k b
    unfold numF
    by_cases hlt : n < thr k b
    · rw [if_pos hlt]
      have hd : ¬ ((most - acc) / w < n) := by
        have : n ≤ (most - acc) / w := (Nat.le_div_iff_mul_le (by omega)).2 (by unfold most; omega)
        omega
      simp only [List.map_cons, List.map_nil, List.cons_append, List.nil_append, rd]
      rw [if_neg (by omega), if_pos hlt]
    · rw [if_neg hlt]
      have hst := rd_num_step (acc := acc) (w := w) (by omega : thr k b ≤ n) t1 t2
      have hdn : thr k b + (n - thr k b) % (36 - thr k b) ≤ n := by have := Nat.mod_le (n - thr k b) (36 - thr k b); omega
      have hdw : (thr k b + (n - thr k b) % (36 - thr k b)) * w ≤ n * w := Nat.mul_le_mul_right _ hdn
      have hd : ¬ ((most - acc) / w < thr k b + (n - thr k b) % (36 - thr k b)) := by
        have : thr k b + (n - thr k b) % (36 - thr k b) ≤ (most - acc) / w := (Nat.le_div_iff_mul_le (by omega)).2 (by unfold most; omega)
        omega
      have htw : thr k b * w ≤ n * w := Nat.mul_le_mul_right _ (by omega)
      simp only [List.map_cons, List.cons_append, rd]
      rw [if_neg (by omega), if_neg (by omega)]
      have hk' : w * (36 - thr k b) ≤ most ∧ (b + 26 ≤ k + 36 ∨ ∃ j, w * (36 - thr k b) = 35 ^ j) := by
        rcases Nat.lt_or_ge k (b + 26) with g | g
        · rcases hk with hk | ⟨j, rfl⟩
          · omega
          · have hw2 : 35 ^ j ≤ 700000000 := by
              have : 1 * 35 ^ j ≤ thr k b * 35 ^ j := Nat.mul_le_mul_right _ t1
              omega
            have hw3 := pow35 hw2
            have hw4 : 35 ^ j * (36 - thr k b) ≤ 52521875 * 35 := Nat.mul_le_mul hw3 (by omega)
            refine ⟨by unfold most; omega, ?_⟩
            rcases Nat.lt_or_ge (b + 1) k with g2 | g2
            · left; omega
            · right
              refine ⟨j + 1, ?_⟩
              have : thr k b = 1 := by unfold thr; omega
              rw [this, Nat.pow_succ]
        · have : thr k b = 26 := by unfold thr; omega
          rw [this] at htw ⊢
          exact ⟨by unfold most; omega, .inl (by omega)⟩
      rw [rd_num b f _ _ _ _ rest (num_less h t1 t2) hk'.1 (Nat.mul_pos (by omega) (by omega)) hk'.2 (by rw [hst]; exact hB), hst]
theorem rd_back (b n acc : Nat) (rest : List (Option Nat)) (h : acc + n ≤ 700000000) : rd ((num b n).map some ++ rest) acc 1 36 b = some (acc + n, rest) := by
  have := rd_num b 64 n 36 1 acc rest (Nat.lt_of_le_of_lt (by omega : n ≤ 700000000) (by decide)) (by decide) (by decide) (.inr ⟨0, rfl⟩) (by omega)
  rwa [Nat.mul_one] at this
end Go.Proofs.Ytpjajiilgojbgaa
