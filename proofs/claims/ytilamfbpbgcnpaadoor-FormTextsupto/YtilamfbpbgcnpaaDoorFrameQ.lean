/- An argument that is a list of pairs; what the bound of a law's second form gives of it. -/
import Derived.Test.YtilamfbpbgcnpaaDoorQyB
import Derived.Test.YtilamfbpbgcnpaaDoorFrameN
import Derived.Test.YtilamfbpbgcnpaaDoorRows
import Derived.Deep.SlicePairs
namespace Go.Proofs.YtilamfbpbgcnpaaDoor
open Go.ChangeShapes Go.WideShapes Go.ChangeAt Go.RowKit
set_option linter.unusedVariables false
set_option maxRecDepth 20000
theorem bulk_part {H : Type} {d : DataW H} : ∀ {l : List (DataW H)}, d ∈ l → Rows.uptoBulk d ≤ Rows.uptoBulkAll l
  | x :: r, h => by
    simp only [Rows.uptoBulkAll]
    rcases List.mem_cons.1 h with rfl | h
    · omega
    · have := bulk_part h; omega
theorem flatP_two (l : List Pr) (j : Nat) (u : Value) (h : (flatP l)[j]? = some u) : ∃ i, ∃ hi : i < l.length, (j = 2 * i ∧ u = fq l[i].1) ∨ (j = 2 * i + 1 ∧ u = fq l[i].2) := by
  have hj : j < (flatP l).length := by
    rcases Nat.lt_or_ge j (flatP l).length with h' | h'
    · exact h'
    · rw [List.getElem?_eq_none h'] at h; cases h
  rw [flatP_len] at hj
  have hi : j / 2 < l.length := by omega
  have hf := flatP_at l (j / 2) hi
  refine ⟨j / 2, hi, ?_⟩
  rcases Nat.mod_two_eq_zero_or_one j with e | e
  · left
    have e2 : 2 * (j / 2) = j := by omega
    rw [e2, h] at hf
    exact ⟨e2.symm, Option.some.inj hf.1⟩
  · right
    have e2 : 2 * (j / 2) + 1 = j := by omega
    rw [e2, h] at hf
    exact ⟨e2.symm, Option.some.inj hf.2⟩
theorem qrow_open {H : Type} {enc : TypeId × Value → H} {W : World} {base : Nat} {sp : Nat → Bool} {held : Bool} {a : Option Addr} {len cap : Nat} {d : DataW H} {p : List MemPlace}
    (h : DataW.Trod enc Tryd.prog W base sp held 22 (.slice a len cap) d p) : ∃ l, PRow W (.slice a len cap) l ∧ ∀ q ∈ l, q.1.length + q.2.length ≤ Rows.uptoBulk d := by
  obtain ⟨fuel, hf⟩ := h
  rcases Go.Deep.open_slice_pairs Tryd.underlying22 Tryd.underlying36 (by kernel_rfl) rfl rfl (by kernel_rfl) (by kernel_rfl) hf with ⟨hcs, _⟩ | ⟨x, n, c, m, k, V0, V1, D0, D1, P0, P1, hcs, _, hl, hm, hmm, hx, hcell⟩
  · simp [Value.cells] at hcs
    obtain ⟨rfl, rfl, rfl⟩ := hcs
    exact ⟨[], PRow.nil _, by simp⟩
  · simp [Value.cells] at hcs
    obtain ⟨rfl, rfl, rfl⟩ := hcs
    have hnm : len ≤ m := by rw [hmm]; split <;> omega
    have each : ∀ i, i < len → ∃ q : ByteArray × ByteArray, W.cell? (x.add (i * 2)) = some (.string q.1) ∧ W.cell? (x.add (i * 2 + 1)) = some (.string q.2) ∧ D0 i = .lit (.string q.1.data.toList) ∧ D1 i = .lit (.string q.2.data.toList) := by
      intro i hi
      obtain ⟨g0, g1, t0, t1⟩ := hcell i (by omega)
      obtain ⟨s0, e0, x0, _⟩ := DataW.trod_string Tryd.underlying9 t0
      obtain ⟨s1, e1, x1, _⟩ := DataW.trod_string Tryd.underlying9 t1
      simp only [Prod.mk.injEq] at x0 x1
      simp at e0 e1
      exact ⟨(s0, s1), by rw [g0, e0], by rw [g1, e1], x0.1, x1.1⟩
    obtain ⟨q, hq⟩ := Go.Deep.choose_lt each
    refine ⟨(List.range len).map fun i => ((q i).1.data.toList, (q i).2.data.toList), ?_, ?_⟩
    · refine ⟨some x, cap, by simp, by simpa using hl, hm, fun hne => ?_⟩
      have hpos : 0 < len := by
        rcases Nat.eq_zero_or_pos len with h' | h'
        · subst h'; simp at hne
        · exact h'
      obtain ⟨b, off, spot⟩ := x
      have h0 := (hq 0 hpos).1
      have hspot : spot = none := by simpa [Addr.add] using World.cell?_spot h0
      subst hspot
      refine ⟨b, off, rfl, World.block_lt_of_cell? W _ (by simpa [Addr.add] using h0), fun j u hj => ?_⟩
      obtain ⟨i, hi, hc⟩ := flatP_two _ j u hj
      have hi' : i < len := by simpa using hi
      have h1 := (hq i hi').1
      have h2 := (hq i hi').2.1
      rw [addr_add] at h1 h2
      rcases hc with ⟨rfl, rfl⟩ | ⟨rfl, rfl⟩
      · rw [Nat.mul_comm 2 i, h1]
        simp only [List.getElem_map, List.getElem_range]
        rfl
      · rw [Nat.mul_comm 2 i, h2]
        simp only [List.getElem_map, List.getElem_range]
        rfl
    · intro y hy
      obtain ⟨i, hi, rfl⟩ := List.mem_map.1 hy
      have hi' : i < len := List.mem_range.1 hi
      obtain ⟨_, _, e0, e1⟩ := hq i hi'
      have hd : d = .slice ((List.range len).map fun i => .agg [D0 i, D1 i]) ((List.range (m - len)).map fun j => .agg [D0 (len + j), D1 (len + j)]) := by
        have := congrArg Prod.fst hx
        simpa using this
      have hb : Rows.uptoBulk (.agg [D0 i, D1 i] : DataW H) ≤ Rows.uptoBulkAll ((List.range len).map fun i => (.agg [D0 i, D1 i] : DataW H)) := bulk_part (List.mem_map.2 ⟨i, hi, rfl⟩)
      rw [hd]
      simp only [Rows.uptoBulk, Rows.uptoBulkAll, e0, e1] at hb ⊢
      omega
end Go.Proofs.YtilamfbpbgcnpaaDoor
