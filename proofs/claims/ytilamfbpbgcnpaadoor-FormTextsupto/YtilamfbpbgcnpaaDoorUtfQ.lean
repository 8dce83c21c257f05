/- Plain facts of the readers' loops: what has been read so far. -/
import Derived.Test.YtilamfbpbgcnpaaDoorUtfP
namespace Go.Proofs.YtilamfbpbgcnpaaDoor
set_option linter.unusedVariables false
set_option maxRecDepth 20000
/-- Up to k o has been read, strictly; with repairs. -/
def DecAt (l : List UInt8) (o : List Int) (k : Nat) : Prop := decL l = (decL (l.drop k)).map (fun x => o ++ x) ∧ badN l = k + badN (l.drop k) ∧ o.length ≤ k
def LosAt (l : List UInt8) (o : List Int) (k : Nat) : Prop := lossyL l = o ++ lossyL (l.drop k) ∧ o.length ≤ k
theorem DecAt.start (l : List UInt8) : DecAt l [] 0 := by
  refine ⟨?_, by simp, Nat.le_refl _⟩
  rw [List.drop_zero]
  cases decL l <;> simp
theorem LosAt.start (l : List UInt8) : LosAt l [] 0 := ⟨by simp, Nat.le_refl _⟩
theorem drop_ne {l : List UInt8} {k : Nat} (h : k < l.length) : l.drop k ≠ [] := by
  intro e
  have := congrArg List.length e
  rw [List.length_drop, List.length_nil] at this
  omega
theorem DecAt.step {l : List UInt8} {o : List Int} {k c n : Nat} (h : DecAt l o k) (hk : k < l.length) (hq : nextN (l.drop k) = (c, n, true)) : DecAt l (o ++ [(c : Int)]) (k + n) := by
  have hne := drop_ne hk
  have hs := (next_size (l.drop k)).1
  rw [hq] at hs
  obtain ⟨h1, h2, h3⟩ := h
  refine ⟨?_, ?_, by rw [List.length_append]; simp only [List.length_cons, List.length_nil]; simp only at hs; omega⟩
  · rw [h1, dec_cons hne (by rw [hq]), hq, List.drop_drop]
    cases decL (l.drop (k + n)) <;> simp
  · rw [h2, bad_cons hne (by rw [hq]), hq, List.drop_drop]
    simp only; omega
theorem DecAt.fail {l : List UInt8} {o : List Int} {k c n : Nat} (h : DecAt l o k) (hk : k < l.length) (hq : nextN (l.drop k) = (c, n, false)) : decL l = none ∧ badN l = k := by
  have hne := drop_ne hk
  obtain ⟨h1, h2, h3⟩ := h
  refine ⟨?_, ?_⟩
  · rw [h1, dec_fail hne (by rw [hq])]; rfl
  · rw [h2, bad_fail hne (by rw [hq])]; rfl
theorem DecAt.done {l : List UInt8} {o : List Int} {k : Nat} (h : DecAt l o k) (hk : ¬ k < l.length) : decL l = some o := by
  rw [h.1, List.drop_eq_nil_of_le (by omega), dec_nil]; simp
theorem LosAt.step {l : List UInt8} {o : List Int} {k : Nat} (h : LosAt l o k) (hk : k < l.length) {c n : Nat} {b : Bool} (hq : nextN (l.drop k) = (c, n, b)) : LosAt l (o ++ [(c : Int)]) (k + n) := by
  have hne := drop_ne hk
  have hs := (next_size (l.drop k)).1
  rw [hq] at hs
  obtain ⟨h1, h3⟩ := h
  refine ⟨?_, by rw [List.length_append]; simp only [List.length_cons, List.length_nil]; simp only at hs; omega⟩
  rw [h1, lossy_cons hne, hq, List.drop_drop]
  simp
theorem LosAt.done {l : List UInt8} {o : List Int} {k : Nat} (h : LosAt l o k) (hk : ¬ k < l.length) : lossyL l = o := by
  rw [h.1, List.drop_eq_nil_of_le (by omega), lossy_nil, List.append_nil]
theorem next_fits {l : List UInt8} {k c n : Nat} {b : Bool} (hk : k < l.length) (hq : nextN (l.drop k) = (c, n, b)) : 1 ≤ n ∧ k + n ≤ l.length ∧ c ≤ 1114111 := by
  have hs := next_size (l.drop k)
  have h2 := hs.2 (drop_ne hk)
  have hi := isS_iff.1 (next_isS (l.drop k))
  rw [hq] at hs h2 hi
  rw [List.length_drop] at h2
  simp only at hs h2 hi
  omega
theorem next_repair {l : List UInt8} {k c n : Nat} (hq : nextN (l.drop k) = (c, n, false)) : c = 65533 := by
  have := next_bad (l.drop k) (by rw [hq])
  rw [hq] at this
  exact this
end Go.Proofs.YtilamfbpbgcnpaaDoor
