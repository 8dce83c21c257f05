/- An argument that is a list of lists of ints. -/
import Derived.Test.YtkpkfcoljccimaaBundH
import Derived.Test.YtkpkfcoljccimaaFrameNX
import Derived.Deep.Matrix
namespace Go.Proofs.Ytkpkfcoljccimaa
open Go.ChangeShapes Go.WideShapes Go.ChangeAt Go.RowKit
set_option linter.unusedVariables false
theorem each_mk {W : World} (f : Nat → Option Addr × Nat × Nat) (g : Nat → List Int) : ∀ n, (∀ r, r < n → IRow W (fx (f r)) (g r)) → Each W ((List.range n).map f) ((List.range n).map g)
  | 0, _ => trivial
  | n + 1, h => by
    rw [List.range_succ, List.map_append, List.map_append]
    exact Each.snoc (h n (by omega)) (each_mk f g n (fun r hr => h r (by omega)))
theorem prow_mk {W : World} {a : Addr} {len cap : Nat} {A : Nat → Option Addr} {L C : Nat → Nat} {Z : Nat → List Int} (hl : len ≤ cap) (hm : cap ≤ maxLen)
    (h : ∀ r, r < cap → W.cell? (a.add r) = some (.slice (A r) (L r) (C r)) ∧ L r ≤ C r ∧ C r ≤ maxLen ∧ (Z r).length = C r ∧ (∀ n ∈ Z r, (Lit.int .i64 n).wf = true) ∧ (A r = none → C r = 0) ∧
        ∀ a', A r = some a' → 0 ≤ a'.block ∧ ∀ c, c < C r → W.cell? (a'.add c) = some (.int .i64 ((Z r).getD c 0))) : ∃ ps, PRow W (.slice (some a) len cap) ps := by
  refine ⟨(List.range len).map (fun r => (Z r).take (L r)), (List.range len).map (fun r => (A r, L r, C r)), ?_, ?_⟩
  · refine ⟨some a, cap, by simp, by simpa using hl, hm, fun hne => ?_⟩
    obtain ⟨b, off, spot⟩ := a
    have hpos : 0 < len := by
      rcases Nat.eq_zero_or_pos len with h' | h'
      · subst h'; simp at hne
      · exact h'
    have h0 := (h 0 (by omega)).1
    have hspot : spot = none := by simpa [Addr.add] using World.cell?_spot h0
    subst hspot
    refine ⟨b, off, rfl, World.block_lt_of_cell? W _ (by simpa [Addr.add] using h0), fun i hi => ?_⟩
    have hi' : i < len := by simpa using hi
    have hc := (h i (by omega)).1
    rw [addr_add] at hc
    rw [hc]
    simp [fx]
  · refine each_mk _ _ len fun r hr => ?_
    obtain ⟨_, h1, h2, h3, h4, h5, h6⟩ := h r (by omega)
    show IRow W (.slice (A r) (L r) (C r)) ((Z r).take (L r))
    cases hA : A r with
    | none =>
      have hC := h5 hA
      have hL : L r = 0 := by omega
      rw [hC, hL, List.take_zero]
      exact Row.nil _ _
    | some a' =>
      have hx := row_mk (f := fi) (g := fun n => n) h1 h2 h3 (fun i hi => (h6 a' hA).2 i (by omega)) (fun n hn => rfl)
      simpa using hx
end Go.Proofs.Ytkpkfcoljccimaa
