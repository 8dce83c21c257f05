/- Names, plainly: strictly rising lists with the same members are one. -/
import Derived.Test.YtilamfbpbgcnpaaDoorQzO
import Derived.Sort.Walk0
namespace Go.Proofs.YtilamfbpbgcnpaaDoor
open Go.RowKit Go.Shelf
set_option linter.unusedVariables false
set_option maxRecDepth 20000
abbrev Tx := List UInt8
theorem tx_irr (x : Tx) : ¬ x < x := List.lt_irrefl x
theorem tx_trans {x y z : Tx} (h : x < y) (k : y < z) : x < z := List.lt_trans h k
theorem tx_asym {x y : Tx} (h : x < y) : ¬ y < x := fun k => tx_irr x (tx_trans h k)
theorem tx_le {x y : Tx} (h : ¬ y < x) : x ≤ y := List.not_lt.1 h
theorem tx_lt {x y : Tx} (h : ¬ y < x) (hn : y ≠ x) : x < y := by
  rcases Decidable.em (x < y) with h2 | h2
  · exact h2
  · exact absurd (List.le_antisymm (tx_le h2) (tx_le h)) hn
theorem tx_le_lt {x y z : Tx} (h : x ≤ y) (k : y < z) : x < z := by
  rcases Decidable.em (x = y) with rfl | h2
  · exact k
  · exact tx_trans (tx_lt (List.not_lt.2 h) (fun e => h2 e.symm)) k
theorem strict_eq : ∀ (a b : List Tx), a.Pairwise (· < ·) → b.Pairwise (· < ·) → (∀ y, y ∈ a ↔ y ∈ b) → a = b
  | [], [], _, _, _ => rfl
  | [], y :: b, _, _, h => absurd ((h y).2 (by simp)) (by simp)
  | x :: a, [], _, _, h => absurd ((h x).1 (by simp)) (by simp)
  | x :: a, y :: b, ha, hb, h => by
    obtain ⟨ha1, ha2⟩ := List.pairwise_cons.1 ha
    obtain ⟨hb1, hb2⟩ := List.pairwise_cons.1 hb
    have hxy : x = y := by
      rcases List.mem_cons.1 ((h x).1 (by simp)) with e | e
      · exact e
      · rcases List.mem_cons.1 ((h y).2 (by simp)) with e2 | e2
        · exact e2.symm
        · exact absurd (hb1 x e) (tx_asym (ha1 y e2))
    subst hxy
    rw [strict_eq a b ha2 hb2 fun z => ?_]
    constructor
    · intro hz
      rcases List.mem_cons.1 ((h z).1 (List.mem_cons_of_mem _ hz)) with e | e
      · subst e; exact absurd (ha1 _ hz) (tx_irr _)
      · exact e
    · intro hz
      rcases List.mem_cons.1 ((h z).2 (List.mem_cons_of_mem _ hz)) with e | e
      · subst e; exact absurd (hb1 _ hz) (tx_irr _)
      · exact e
/-- The members, each once and rising. -/
def Uq (m o : List Tx) : Prop := o.Pairwise (· < ·) ∧ ∀ y, y ∈ o ↔ y ∈ m
theorem Uq.eq {m a b : List Tx} (ha : Uq m a) (hb : Uq m b) : a = b := strict_eq a b ha.1 hb.1 fun y => (ha.2 y).trans (hb.2 y).symm
theorem Uq.nil : Uq [] [] := ⟨List.Pairwise.nil, fun y => Iff.rfl⟩
theorem Uq.same {m o : List Tx} {x : Tx} (h : Uq m o) (hx : x ∈ o) : Uq (m ++ [x]) o := ⟨h.1, fun y => by
  rw [List.mem_append, List.mem_singleton, ← h.2 y]
  exact ⟨.inl, fun h' => h'.elim id fun e => e ▸ hx⟩⟩
theorem Uq.put {m o : List Tx} {x : Tx} (h : Uq m o) (k : Nat) (h1 : ∀ y ∈ o.take k, y < x) (h2 : ∀ y ∈ o.drop k, x < y) : Uq (m ++ [x]) (o.take k ++ ([x] ++ o.drop k)) := by
  have hs : (o.take k ++ o.drop k).Pairwise (· < ·) := by rw [List.take_append_drop]; exact h.1
  obtain ⟨a1, a2, a3⟩ := List.pairwise_append.1 hs
  refine ⟨List.pairwise_append.2 ⟨a1, List.pairwise_cons.2 ⟨h2, a2⟩, fun y hy z hz => ?_⟩, fun y => ?_⟩
  · rcases List.mem_cons.1 hz with rfl | hz
    · exact h1 y hy
    · exact a3 y hy z hz
  · have e : y ∈ o ↔ y ∈ o.take k ∨ y ∈ o.drop k := by
      rw [← List.mem_append, List.take_append_drop]
    have e2 : y ∈ m ++ [x] ↔ y ∈ o ∨ y = x := by rw [List.mem_append, List.mem_singleton, ← h.2 y]
    rw [e2, e]
    simp only [List.mem_append, List.singleton_append, List.mem_cons]
    constructor
    · rintro (h | h | h)
      · exact .inl (.inl h)
      · exact .inr h
      · exact .inl (.inr h)
    · rintro ((h | h) | h)
      · exact .inl h
      · exact .inr (.inr h)
      · exact .inr (.inl h)
/-- Where the scan stops at one that is smaller. -/
theorem Uq.below {m o : List Tx} {x : Tx} (h : Uq m o) (k : Nat) (hk : k < o.length) (hx : o[k] < x) : ∀ y ∈ o.take (k + 1), y < x := by
  intro y hy
  rw [List.take_succ_eq_append_getElem hk] at hy
  have hs : (o.take (k + 1)).Pairwise (· < ·) := h.1.sublist (List.take_sublist _ _)
  rw [List.take_succ_eq_append_getElem hk] at hs
  rcases List.mem_append.1 hy with hy | hy
  · exact tx_trans ((List.pairwise_append.1 hs).2.2 y hy _ (by simp)) hx
  · rw [List.mem_singleton] at hy; subst hy; exact hx
theorem Uq.above {m o : List Tx} {x : Tx} (h : Uq m o) (k : Nat) (hk : k < o.length) (hd : ∀ y ∈ o.drop k, ¬ y < x) (hx : o[k] ≠ x) : ∀ y ∈ o.drop k, x < y := by
  have hs : (o.drop k).Pairwise (· < ·) := h.1.sublist (List.drop_sublist _ _)
  have h0 : x < o[k] := tx_lt (hd _ (by rw [List.drop_eq_getElem_cons hk]; exact List.mem_cons_self)) hx
  intro y hy
  rw [List.drop_eq_getElem_cons hk] at hs hy
  rcases List.mem_cons.1 hy with rfl | hy
  · exact h0
  · exact tx_trans h0 ((List.pairwise_cons.1 hs).1 y hy)
theorem scan_step {o : List Tx} {x : Tx} (k : Nat) (hk : k < o.length) (hd : ∀ y ∈ o.drop (k + 1), ¬ y < x) (hx : ¬ o[k] < x) : ∀ y ∈ o.drop k, ¬ y < x := by
  intro y hy
  rw [List.drop_eq_getElem_cons hk] at hy
  rcases List.mem_cons.1 hy with rfl | hy
  · exact hx
  · exact hd y hy
theorem less_yes {x y : Tx} (h : x < y) : Op.bytesLess (strOf x).toList (strOf y).toList = true := by rw [strOf_list, strOf_list, bytesLess_eq]; simp [h]
theorem less_no {x y : Tx} (h : ¬ x < y) : Op.bytesLess (strOf x).toList (strOf y).toList = false := by rw [strOf_list, strOf_list, bytesLess_eq]; simp [h]
/-- What Sort and Compact make. -/
theorem compact_go (d : Array Tx) : ∀ m, m ≤ d.size → (∀ i j, i ≤ j → j < d.size → d[i]! ≤ d[j]!) →
    (Lib.compactUpTo d m).Pairwise (· < ·) ∧ (∀ y, y ∈ Lib.compactUpTo d m ↔ ∃ j, j < m ∧ d[j]! = y)
  | 0, _, _ => ⟨by simp [Lib.compactUpTo], fun y => by simp [Lib.compactUpTo]⟩
  | m + 1, hm, hs => by
    obtain ⟨h1, h2⟩ := compact_go d m (by omega) hs
    rw [Lib.compactUpTo_succ]
    by_cases hk : Lib.keeps d m = true
    · rw [if_pos hk]
      refine ⟨List.pairwise_append.2 ⟨h1, List.pairwise_singleton _ _, fun y hy z hz => ?_⟩, fun y => ?_⟩
      · rw [List.mem_singleton] at hz
        subst hz
        obtain ⟨j, hj, rfl⟩ := (h2 y).1 hy
        have hne : d[m]! ≠ d[m - 1]! := by
          intro e
          unfold Lib.keeps at hk
          simp at hk
          rcases hk with hk | hk
          · omega
          · exact hk e
        have hlt : d[m - 1]! < d[m]! := tx_lt (List.not_lt.2 (hs (m - 1) m (by omega) (by omega))) hne
        exact tx_le_lt (hs j (m - 1) (by omega) (by omega)) hlt
      · rw [List.mem_append, h2 y, List.mem_singleton]
        constructor
        · rintro (⟨j, hj, e⟩ | rfl)
          · exact ⟨j, by omega, e⟩
          · exact ⟨m, by omega, rfl⟩
        · rintro ⟨j, hj, e⟩
          rcases Nat.lt_or_ge j m with h | h
          · exact .inl ⟨j, h, e⟩
          · obtain rfl : j = m := by omega
            exact .inr e.symm
    · rw [if_neg hk, List.append_nil]
      refine ⟨h1, fun y => ?_⟩
      rw [h2 y]
      have hm0 : m ≠ 0 ∧ d[m]! = d[m - 1]! := by
        unfold Lib.keeps at hk
        simp at hk
        exact hk
      constructor
      · rintro ⟨j, hj, e⟩; exact ⟨j, by omega, e⟩
      · rintro ⟨j, hj, e⟩
        rcases Nat.lt_or_ge j m with h | h
        · exact ⟨j, h, e⟩
        · obtain rfl : j = m := by omega
          exact ⟨j - 1, by omega, by rw [← e, hm0.2]⟩
theorem sortR_rises (l : List Tx) : (sortR l).Pairwise (fun x y => x ≤ y) := by
  have h := List.pairwise_mergeSort (le := fun x y : Tx => decide (x ≤ y)) (fun a b c h1 h2 => by
    simp only [decide_eq_true_eq] at h1 h2 ⊢
    exact List.le_trans h1 h2) (fun a b => by
    simp only [Bool.or_eq_true, decide_eq_true_eq]
    exact List.le_total a b) l
  exact h.imp fun {a b} h => by simpa using h
theorem names_Uq (l : List Tx) : Uq l (Lib.compact (sortR l)) := by
  have hp := sortR_rises l
  have hs : ∀ i j, i ≤ j → j < (sortR l).toArray.size → (sortR l).toArray[i]! ≤ (sortR l).toArray[j]! := by
    intro i j hij hj
    have hj' : j < (sortR l).length := by simpa using hj
    have hi' : i < (sortR l).length := by omega
    have e1 : (sortR l).toArray[i]! = (sortR l)[i] := by simp [hi']
    have e2 : (sortR l).toArray[j]! = (sortR l)[j] := by simp [hj']
    rw [e1, e2]
    rcases Nat.lt_or_ge i j with h | h
    · exact List.pairwise_iff_getElem.1 hp i j hi' hj' h
    · obtain rfl : i = j := by omega
      exact List.le_refl _
  obtain ⟨h1, h2⟩ := compact_go (sortR l).toArray (sortR l).length (by simp) hs
  refine ⟨h1, fun y => ?_⟩
  show y ∈ Lib.compactUpTo _ _ ↔ _
  rw [h2 y]
  constructor
  · rintro ⟨j, hj, rfl⟩
    have e1 : (sortR l).toArray[j]! = (sortR l)[j] := by simp [hj]
    rw [e1]
    exact List.mem_mergeSort.1 (List.getElem_mem hj)
  · intro hy
    have hy2 : y ∈ sortR l := List.mem_mergeSort.2 hy
    obtain ⟨j, hj, rfl⟩ := List.getElem_of_mem hy2
    exact ⟨j, hj, by simp [hj]⟩
theorem namesR_of {l : List Pr} {o : List Tx} (h : Uq (l.map (·.1)) o) : o = namesR l := h.eq (names_Uq _)
end Go.Proofs.YtilamfbpbgcnpaaDoor
