/- Which rule fits a sign: fits, ruleOf. -/
import Derived.Test.YtkbfjhdpepbphaaUtfS
import Derived.Test.YtkbfjhdpepbphaaFoldT
import Derived.Laws.CopyOwn
import Derived.Handy
namespace Go.Proofs.Ytkbfjhdpepbphaa
open Go.RowKit
set_option linter.unusedVariables false
abbrev valR (r : Rule) : Value := .agg #[.int .i64 r.1, .int .i64 r.2.1, .bool r.2.2.1, .int .i64 r.2.2.2.1, .int .i64 r.2.2.2.2.1, .int .i64 r.2.2.2.2.2]
theorem fits_calls (f l kd to th c : Int) (p : Bool) (w : World) (hf : 0 ≤ f) (hl : l ≤ 1114111) :
    Calls Try.prog 23 #[valR (f, l, p, kd, to, th), .int .i64 c] w fun e w' => e = .returned (.bool (fitsR (f, l, p, kd, to, th) c)) ∧ Below w.heap.size w w' := by
  have HB : Hid (Below w.heap.size w (w.alloc (.cells #[.int .i64 f, .int .i64 l, .bool p, .int .i64 kd, .int .i64 to, .int .i64 th] 34))) := (Below.refl _ _).alloc (Nat.le_refl _) _
  by_cases h1 : f ≤ c
  · by_cases h2 : c ≤ l
    · cases p with
      | false =>
        have HQ : Hid (fitsR (f, l, false, kd, to, th) c = true) := by show fitsR _ _ = _; simp [fitsR, h1, h2]
        go_enter Try.func23, Try.ntmps23
        go_wp2
        go_ret
        exact ⟨ret_bool HQ.out.symm, HB.out⟩
      | true =>
        have HQ : Hid (fitsR (f, l, true, kd, to, th) c = decide ((c - f) % 2 = 0)) := by show fitsR _ _ = _; simp [fitsR, h1, h2]
        have ht : (c - f).tmod 2 = (c - f) % 2 := Int.tmod_eq_emod_of_nonneg (by omega)
        go_enter Try.func23, Try.ntmps23
        go_wp2
        go_ret
        refine ⟨ret_bool ?_, HB.out⟩
        rw [HQ.out]
        rfl
    · have HQ : Hid (fitsR (f, l, p, kd, to, th) c = false) := by show fitsR _ _ = _; simp [fitsR, h1, h2]
      go_enter Try.func23, Try.ntmps23
      go_wp2
      go_ret
      exact ⟨ret_bool HQ.out.symm, HB.out⟩
  · have HQ : Hid (fitsR (f, l, p, kd, to, th) c = false) := by show fitsR _ _ = _; simp [fitsR, h1]
    go_enter Try.func23, Try.ntmps23
    go_wp2
    go_ret
    exact ⟨ret_bool HQ.out.symm, HB.out⟩
/- The lowest bits. -/
theorem and_even (c : Nat) : c &&& 65534 = 2 * (c / 2 % 32768) := by
  apply Nat.eq_of_testBit_eq
  intro i
  cases i with
  | zero => simp
  | succ i =>
    rw [Nat.testBit_and, Nat.testBit_succ, Nat.testBit_succ, Nat.testBit_succ, show 65534 / 2 = 32767 from rfl, ← Nat.testBit_and, Nat.and_two_pow_sub_one_eq_mod (c / 2) 15]
    congr 1
    omega
theorem low_even {c : Int} (h0 : 0 ≤ c) (h1 : c ≤ 1114111) : ∃ m : Int, bits .and .i64 c 65534 = m ∧ (m == 65534) = decide (65534 ≤ c % 65536) := by
  obtain ⟨n, rfl⟩ := Int.eq_ofNat_of_zero_le h0
  refine ⟨_, i64_and n 65534 (by omega) (by decide), ?_⟩
  rw [and_even]
  by_cases h : (65534 : Int) ≤ (n : Int) % 65536
  · rw [decide_eq_true h, beq_iff_eq]; omega
  · rw [decide_eq_false h, beq_eq_false_iff_ne]; omega
theorem low_all {c : Int} (h0 : 0 ≤ c) (h1 : c ≤ 1114111) : bits .and .i64 c 65535 = c % 65536 := by
  obtain ⟨n, rfl⟩ := Int.eq_ofNat_of_zero_le h0
  have := i64_and n 65535 (by omega) (by decide)
  rw [Nat.and_two_pow_sub_one_eq_mod n 16] at this
  rw [show (65535 : Int) = ((65535 : Nat) : Int) from rfl, this]
  omega
/-- The table lies in a block. -/
def TabAt (w : World) (b : Nat) : Prop := w.heap[b]? = some (.cells tabCells 36)
theorem TabAt.lt {w : World} {b : Nat} (h : TabAt w b) : b < w.heap.size := by
  rcases Nat.lt_or_ge b w.heap.size with h' | h'
  · exact h'
  · unfold TabAt at h; rw [Array.getElem?_eq_none h'] at h; cases h
theorem TabAt.below {w w' : World} {b : Nat} (h : TabAt w b) (hb : Below w.heap.size w w') : TabAt w' b := by
  unfold TabAt; rw [hb.block b h.lt]; exact h
theorem flat6 {α β : Type} (f : α → List β) (h : ∀ x, (f x).length = 6) (d : α) : ∀ (l : List α) (k j : Nat), k < l.length → j < 6 → (l.flatMap f)[k * 6 + j]? = (f (l.getD k d))[j]?
  | [], _, _, hk, _ => by simp at hk
  | x :: l, 0, j, _, hj => by
    rw [List.flatMap_cons, List.getElem?_append_left (by rw [h]; omega)]
    simp
  | x :: l, k + 1, j, hk, hj => by
    rw [List.flatMap_cons, List.getElem?_append_right (by rw [h]; omega), h, show (k + 1) * 6 + j - 6 = k * 6 + j by omega, flat6 f h d l k j (by simpa using hk) hj]
    simp
theorem tab_cell (k : Nat) (hk : k < 34) (j : Nat) (hj : j < 6) : tabCells[k * 6 + j]? = (cellsR (rules.getD k (0, 0, false, 1, 0, 0)))[j]? := by
  unfold tabCells
  rw [List.getElem?_toArray]
  exact flat6 cellsR (fun _ => rfl) _ rules k j (by rw [rules_len]; exact hk) hj
theorem TabAt.cell {w : World} {b k : Nat} (h : TabAt w b) (hk : k < 34) (j : Nat) (hj : j < 6) : w.cell? ⟨b, k * 6 + j, none⟩ = (cellsR (rules.getD k (0, 0, false, 1, 0, 0)))[j]? := by
  rw [← tab_cell k hk j hj]
  unfold TabAt at h
  simp [World.cell?, h]
theorem rules_bound : ∀ k, k < 34 → 0 ≤ (rules.getD k (0, 0, false, 1, 0, 0)).1 ∧ (rules.getD k (0, 0, false, 1, 0, 0)).2.1 ≤ 1114111 := by decide +kernel
theorem rule_next (k : Nat) (c : Int) (h : ∀ r ∈ rules.take k, fitsR r c = false) (hk : k < 34) (hf : fitsR (rules.getD k (0, 0, false, 1, 0, 0)) c = false) : ∀ r ∈ rules.take (k + 1), fitsR r c = false := by
  have hk' : k < rules.length := by rw [rules_len]; exact hk
  rw [List.take_succ_eq_append_getElem hk']
  intro r hr
  rcases List.mem_append.1 hr with h' | h'
  · exact h r h'
  · rw [List.mem_singleton.1 h', ← hf, List.getD_eq_getElem?_getD, List.getElem?_eq_getElem hk']; rfl
theorem rule_found (k : Nat) (c : Int) (hb : barred c = false) (h : ∀ r ∈ rules.take k, fitsR r c = false) (hk : k < 34) (hf : fitsR (rules.getD k (0, 0, false, 1, 0, 0)) c = true) : ruleOf c = rules.getD k (0, 0, false, 1, 0, 0) := by
  have hk' : k < rules.length := by rw [rules_len]; exact hk
  have e : rules.getD k (0, 0, false, 1, 0, 0) = rules[k] := by rw [List.getD_eq_getElem?_getD, List.getElem?_eq_getElem hk']; rfl
  unfold ruleOf
  rw [hb, if_neg (by decide)]
  have : rules.find? (fitsR · c) = some rules[k] := by
    rw [e] at hf
    have hs : rules = rules.take k ++ (rules[k] :: rules.drop (k + 1)) := by rw [← List.drop_eq_getElem_cons hk', List.take_append_drop]
    generalize rules[k] = x at *
    rw [hs, List.find?_append, List.find?_eq_none.2 (fun r hr => by rw [h r hr]; decide)]
    simp [hf]
  rw [this, e]; rfl
theorem rule_none (c : Int) (hb : barred c = false) (h : ∀ r ∈ rules.take 34, fitsR r c = false) : ruleOf c = (0, 0, false, 1, 0, 0) := by
  unfold ruleOf
  rw [hb, if_neg (by decide)]
  have e : rules.take 34 = rules := by rw [← rules_len, List.take_length]
  rw [e] at h
  rw [List.find?_eq_none.2 (fun r hr => by rw [h r hr]; decide)]; rfl
end Go.Proofs.Ytkbfjhdpepbphaa
