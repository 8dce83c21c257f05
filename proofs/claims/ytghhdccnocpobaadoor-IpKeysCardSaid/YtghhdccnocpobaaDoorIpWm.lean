/- Plain: one of four decimal numbers as the program reads it. -/
import Derived.Test.YtghhdccnocpobaaDoorIpWl
namespace Go.Proofs.YtghhdccnocpobaaDoor
open Go.RowKit
set_option linter.unusedVariables false
set_option maxRecDepth 20000
def valF (b : Nat) (l : List UInt8) (n : Nat) : Nat := l.foldl (fun n c => n * b + dgv c) n
theorem valF_ge (b : Nat) : ∀ (l : List UInt8) (n : Nat), n * b ^ l.length ≤ valF b l n
  | [], n => by simp [valF]
  | c :: r, n => by
    have h := valF_ge b r (n * b + dgv c)
    have h2 : n * b * b ^ r.length ≤ (n * b + dgv c) * b ^ r.length := Nat.mul_le_mul_right _ (Nat.le_add_right _ _)
    rw [List.length_cons, Nat.pow_succ, Nat.mul_comm (b ^ r.length) b, ← Nat.mul_assoc]
    exact Nat.le_trans h2 h
theorem valX_ge {l : List UInt8} (hd : digsR 10 l = true) (hn : l ≠ []) (h0 : l.head? ≠ some 48) (h3 : 3 < l.length) : 1000 ≤ valX 10 l := by
  match l, hn with
  | c :: r, _ =>
    have hc : digB 10 c = true := by
      unfold digsR at hd
      rw [List.all_cons, Bool.and_eq_true] at hd
      exact hd.1
    have hc0 : c ≠ 48 := fun e => h0 (by rw [e]; rfl)
    have hg : 1 ≤ dgv c := by
      unfold digB at hc
      unfold dgv
      cases hx : hexV c.toNat with
      | none => rw [hx] at hc; cases hc
      | some d =>
        show 1 ≤ d
        rcases Nat.eq_zero_or_pos d with h | h
        · exfalso
          rw [h] at hx
          apply hc0
          have hz : ∀ n, n < 256 → hexV n = some 0 → n = 48 := by decide +kernel
          have := hz c.toNat (byte_lt c) hx
          exact UInt8.toNat.inj this
        · exact h
    have h := valF_ge 10 r (dgv c)
    have e : valX 10 (c :: r) = valF 10 r (dgv c) := by unfold valX valF; rw [List.foldl_cons, Nat.zero_mul, Nat.zero_add]
    rw [e]
    have hl : 3 ≤ r.length := by simp only [List.length_cons] at h3; omega
    have h4 : 10 ^ 3 ≤ 10 ^ r.length := Nat.pow_le_pow_right (by decide) hl
    have h5 : 1 * 10 ^ r.length ≤ dgv c * 10 ^ r.length := Nat.mul_le_mul_right _ hg
    have h6 : (10 : Nat) ^ 3 = 1000 := by decide
    omega
theorem base_dec {q : List UInt8} (hp : ¬ (1 < q.length ∧ q.head? = some 48)) (hd : digsR 10 q = true) : baseR q = (q, 10) := by
  have hh : hexR q = false := by
    match q with
    | [] => rfl
    | [c] => rfl
    | a :: x :: r =>
      show (a == 48 && (x == 120 || x == 88)) = false
      rw [beq_eq_false_iff_ne.2 (fun e => hp ⟨by simp, by rw [e]; rfl⟩)]
      rfl
  unfold baseR
  rw [hh, if_neg (by decide), if_neg hp]
/-- One of four, as the program reads it. -/
theorem oct_prog (q : List UInt8) : octR q = if q = [] ∨ (1 < q.length ∧ q.head? = some 48) ∨ digsR 10 q = false ∨ 255 < satR 10 q then none else some (satR 10 q) := by
  by_cases h1 : q = []
  · rw [oct_bad (.inl h1), if_pos (.inl h1)]
  by_cases h2 : 1 < q.length ∧ q.head? = some 48
  · rw [oct_bad (.inr (.inr (.inr h2))), if_pos (.inr (.inl h2))]
  by_cases h3 : digsR 10 q = false
  · rw [oct_bad (.inr (.inr (.inl h3))), if_pos (.inr (.inr (.inl h3)))]
  have hd : digsR 10 q = true := by cases h : digsR 10 q with | true => rfl | false => exact absurd h h3
  have hs := satR_eq 10 (by decide) q.length q rfl
  by_cases h4 : 3 < q.length
  · have hg : 1000 ≤ valX 10 q := valX_ge hd h1 (fun e => h2 ⟨by omega, e⟩) h4
    rw [oct_bad (.inr (.inl h4)), if_pos (.inr (.inr (.inr (by rw [hs]; omega))))]
  · have hlt := valX_lt q.length q rfl hd
    have hle : 10 ^ q.length ≤ 10 ^ 3 := Nat.pow_le_pow_right (by decide) (by omega)
    have h6 : (10 : Nat) ^ 3 = 1000 := by decide
    have hn : numR q = some (satR 10 q) := by
      unfold numR
      rw [if_neg h1, base_dec h2 hd]
      show (if digsR 10 q = true then some (valR 10 q) else none) = _
      rw [if_pos hd, hs, valR_eq 10 (by decide) _ q rfl, Nat.min_eq_left (by omega), Nat.min_eq_left (by omega)]
    have hb : ¬ (q = [] ∨ 3 < q.length ∨ digsR 10 q = false ∨ (1 < q.length ∧ q.head? = some 48)) := by
      rintro (h | h | h | h)
      · exact h1 h
      · exact h4 h
      · exact h3 h
      · exact h2 h
    have hg : (numR q).getD 0 = satR 10 q := by rw [hn]; rfl
    by_cases h5 : 255 < satR 10 q
    · rw [oct_great hg h5, if_pos (.inr (.inr (.inr h5)))]
    · rw [oct_good hb hg h5, if_neg]
      rintro (h | h | h | h)
      · exact h1 h
      · exact h2 h
      · exact h3 h
      · exact h5 h
end Go.Proofs.YtghhdccnocpobaaDoor
