/- How many pairs a query tells; what Parse answers, in its ways. -/
import Derived.Test.YtilamfbpbgcnpaaDoorQyE
namespace Go.Proofs.YtilamfbpbgcnpaaDoor
open Go.RowKit Go.Shelf
set_option linter.unusedVariables false
set_option maxRecDepth 20000
theorem splitG_app' (c : UInt8) : ∀ (a acc b : List UInt8), splitG c acc (a ++ c :: b) = splitG c acc a ++ splitG c [] b
  | [], acc, b => by rw [List.nil_append, splitG_sep, splitG_nil]; rfl
  | x :: r, acc, b => by
    by_cases h : x = c
    · subst h; rw [List.cons_append, splitG_sep, splitG_sep, splitG_app' x r [] b]; rfl
    · rw [List.cons_append, splitG_other h, splitG_other h, splitG_app' c r _ b]
/-- How many pieces are something; their pairs. -/
def cntR (s : List UInt8) : Nat := (some1 (splitR 38 s)).length
def prsR (s : List UInt8) : List Pr := curP (splitR 38 s)
theorem prsR_len (s : List UInt8) : (prsR s).length = cntR s := curP_len _
theorem parse_long {s : List UInt8} (h : 4000 < s.length) : parseR s = ([], 3) := by unfold parseR; rw [if_pos h]
theorem parse_many {s : List UInt8} (h : s.length ≤ 4000) (h2 : 256 < cntR s) : parseR s = ([], 11) := by unfold parseR; rw [if_neg (by omega)]; exact if_pos h2
theorem parse_ok {s : List UInt8} (h : s.length ≤ 4000) (h2 : cntR s ≤ 256) : parseR s = (prsR s, 0) := by unfold parseR; rw [if_neg (by omega)]; exact if_neg (by unfold cntR at h2; omega)
theorem some1_app (a b : List (List UInt8)) : some1 (a ++ b) = some1 a ++ some1 b := List.filter_append a b
theorem cnt_app (s t : List UInt8) : cntR (s ++ 38 :: t) = cntR s + cntR t := by
  unfold cntR splitR; rw [splitG_app', some1_app, List.length_append]
theorem prs_app (s t : List UInt8) : prsR (s ++ 38 :: t) = prsR s ++ prsR t := by
  unfold prsR curP splitR; rw [splitG_app', some1_app, List.map_append]
/-- What Parse answers, in three ways. -/
theorem pparse_many {s : List UInt8} {w w' : World} {e : Ending} (h : ParsePost s w e w') (h1 : s.length ≤ 4000) (h2 : 256 < cntR s) : ∃ a c, e = .returned (.tuple #[.slice a 0 c, .int .i64 11]) ∧ Below w.heap.size w w' := by
  obtain ⟨v, rfl, hv, hb⟩ := h
  rw [parse_many h1 h2] at hv ⊢
  obtain ⟨a, c, rfl, _⟩ := hv
  exact ⟨a, c, rfl, hb⟩
theorem pparse_ok {s : List UInt8} {w w' : World} {e : Ending} (h : ParsePost s w e w') (h1 : s.length ≤ 4000) (h2 : cntR s ≤ 256) : ∃ a c, e = .returned (.tuple #[.slice a (cntR s) c, .int .i64 0]) ∧ PRow w' (.slice a (cntR s) c) (prsR s) ∧ Below w.heap.size w w' := by
  obtain ⟨v, rfl, hv, hb⟩ := h
  rw [parse_ok h1 h2] at hv ⊢
  have hv' := hv
  obtain ⟨a, c, rfl, _⟩ := hv
  rw [← prsR_len]
  exact ⟨a, c, rfl, hv', hb⟩
theorem pparse_any {s : List UInt8} {w w' : World} {e : Ending} (h : ParsePost s w e w') : ∃ a n c k, e = .returned (.tuple #[.slice a n c, .int .i64 k]) ∧ Below w.heap.size w w' := by
  obtain ⟨v, rfl, hv, hb⟩ := h
  obtain ⟨a, c, rfl, _⟩ := hv
  exact ⟨a, _, c, _, rfl, hb⟩
end Go.Proofs.YtilamfbpbgcnpaaDoor
