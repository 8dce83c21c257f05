/- The walk of the document's Puny. -/
import Derived.Test.YtpjajiilgojbgaaPunyE
namespace Go.Proofs.Ytpjajiilgojbgaa
open Go.RowKit
set_option linter.unusedVariables false
theorem least_ref {m : List Nat} {n : Nat} (hm : ∀ c ∈ m, c ≤ 1114111) (hd : m.countP (· < n) < m.length) : lstF 1114112 n m = least m n := by
  obtain ⟨h1, h2, _, _⟩ := least_spec hm hd
  exact lstF_start m _ _ n (fun c hc => by have := hm c hc; omega) (fun c hc => by have := hm c hc; omega) ⟨_, h1, h2⟩
/-- Within a number. -/
def NumAt (F : List UInt8) (bias : Nat) (ys : List UInt8) (q k f : Nat) : Prop := F = ys ++ (numF f k bias q).map letter ∧ q < 2 ^ f ∧ q ≤ 3000000000 ∧ k + 36 * f ≤ 2340 ∧ ys.length + f ≤ 500064
theorem NumAt.start (xs : List UInt8) (bias n : Nat) (hn : n ≤ 3000000000) (hl : xs.length ≤ 500000) : NumAt (xs ++ (num bias n).map letter) bias xs n 36 64 :=
  ⟨rfl, Nat.lt_of_le_of_lt hn (by decide), hn, by decide, by omega⟩
theorem NumAt.last {F : List UInt8} {bias : Nat} {ys : List UInt8} {q k f : Nat} (h : NumAt F bias ys q k f) (hlt : q < thr k bias) : F = ys ++ [letter q] := by
  have t2 := thr_le k bias
  rw [h.1]
  cases f with
  | zero => show _ ++ List.map letter [q % 36] = _; rw [Nat.mod_eq_of_lt (by omega)]; rfl
  | succ g => show _ ++ List.map letter (if q < thr k bias then _ else _) = _; rw [if_pos hlt]; rfl
theorem NumAt.next {F : List UInt8} {bias : Nat} {ys : List UInt8} {q k f : Nat} (h : NumAt F bias ys q k f) (hlt : ¬ q < thr k bias) : ∃ g, NumAt F bias (ys ++ [letter (thr k bias + (q - thr k bias) % (36 - thr k bias))]) ((q - thr k bias) / (36 - thr k bias)) (k + 36) g ∧ (q - thr k bias) / (36 - thr k bias) < q := by
  have t1 := thr_ge k bias
  have t2 := thr_le k bias
  obtain ⟨hq, hf, hqm, hkf, hyl⟩ := h
  obtain ⟨g, rfl⟩ : ∃ g, f = g + 1 := by
    cases f with
    | zero => simp at hf; omega
    | succ g => exact ⟨g, rfl⟩
  have hdv := Nat.div_le_self (q - thr k bias) (36 - thr k bias)
  refine ⟨g, ⟨?_, num_less hf t1 t2, by omega, by omega, by simp; omega⟩, by omega⟩
  rw [hq]
  show _ ++ List.map letter (if q < thr k bias then _ else _) = _
  rw [if_neg hlt]; simp
end Go.Proofs.Ytpjajiilgojbgaa
