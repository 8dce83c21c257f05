/- Plain facts: what signs become is Valid; what Map makes stays. -/
import Derived.Test.YtkbfjhdpepbphaaFoldM
namespace Go.Proofs.Ytkbfjhdpepbphaa
set_option linter.unusedVariables false
def checkTo : Bool := rules.all fun r => r.2.2.2.1 != 2 || (List.range ((r.2.1 - r.1).toNat + 1)).all fun n => kindOf (r.1 + (n : Int)) != 2 || (toOf (r.1 + (n : Int))).all fun z => kindOf z == 1
set_option maxRecDepth 100000 in
theorem check_to : checkTo = true := by decide +kernel
/-- A rule behind what is said of a sign. -/
theorem rule_of_kind {c : Int} (h1 : kindOf c ≠ 1) (h4 : barred c = false) : ∃ r ∈ rules, fitsR r c = true ∧ r = ruleOf c := by
  have hr : ruleOf c = (rules.find? (fitsR · c)).getD (0, 0, false, 1, 0, 0) := by unfold ruleOf; rw [h4]; rfl
  unfold kindOf at h1
  cases h : rules.find? (fitsR · c) with
  | none => rw [hr, h] at h1; exact absurd rfl h1
  | some r => exact ⟨r, List.mem_of_find?_eq_some h, List.find?_some (p := fun x => fitsR x c) h, by rw [hr, h]; rfl⟩
theorem kind_barred {c : Int} (h : barred c = true) : kindOf c = 4 := by unfold kindOf ruleOf; rw [h]; rfl
theorem to_valid (c : Int) : ∀ z ∈ toOf c, kindOf z = 1 := by
  intro z hz
  by_cases h2 : kindOf c = 2
  · have hb : barred c = false := by
      cases hb : barred c with
      | false => rfl
      | true => rw [kind_barred hb] at h2; cases h2
    obtain ⟨r, hr, hf, he⟩ := rule_of_kind (by rw [h2]; decide) hb
    have hk : r.2.2.2.1 = 2 := by rw [he]; exact h2
    have hc := check_to
    unfold checkTo at hc
    have h := List.all_eq_true.1 hc r hr
    rw [hk] at h
    simp only [bne_self_eq_false, Bool.false_or] at h
    simp only [fitsR, Bool.and_eq_true, decide_eq_true_eq] at hf
    have hn := List.all_eq_true.1 h (c - r.1).toNat (List.mem_range.2 (by omega))
    have e : r.1 + ((c - r.1).toNat : Int) = c := by omega
    rw [e, h2] at hn
    simp only [bne_self_eq_false, Bool.false_or] at hn
    have := List.all_eq_true.1 hn z hz
    exact eq_of_beq this
  · unfold toOf at hz
    rw [if_neg h2] at hz
    cases hz
theorem signs_to {c : Int} (h : kindOf c = 2) : signs (ruleOf c) c = toOf c := by unfold toOf; rw [if_pos h]
theorem signs_one {c : Int} (h : kindOf c = 1) : signs (ruleOf c) c = [c] := by unfold signs; rw [if_pos (by exact h)]
theorem signs_none {c : Int} (h1 : kindOf c ≠ 1) (h2 : kindOf c ≠ 2) : signs (ruleOf c) c = [] := by unfold signs; rw [if_neg (by exact h1), if_neg (by exact h2)]
theorem map_valid (l : List Int) : ∀ z ∈ mapOf l, kindOf z = 1 := by
  intro z hz
  unfold mapOf at hz
  obtain ⟨c, _, hc⟩ := List.mem_flatMap.1 hz
  by_cases h1 : kindOf c = 1
  · rw [signs_one h1, List.mem_singleton] at hc; rw [hc]; exact h1
  · by_cases h2 : kindOf c = 2
    · rw [signs_to h2] at hc; exact to_valid c z hc
    · rw [signs_none h1 h2] at hc; cases hc
theorem fine_of_valid {l : List Int} (h : ∀ z ∈ l, kindOf z = 1) : Fine l := fun c hc => by rw [h c hc]; decide
theorem map_again : ∀ {l : List Int}, (∀ z ∈ l, kindOf z = 1) → mapOf l = l
  | [], _ => rfl
  | c :: l, h => by
    unfold mapOf
    rw [List.flatMap_cons, signs_one (h c (List.mem_cons_self ..))]
    have := map_again (l := l) fun z hz => h z (List.mem_cons_of_mem _ hz)
    unfold mapOf at this
    rw [this]; rfl
end Go.Proofs.Ytkbfjhdpepbphaa
