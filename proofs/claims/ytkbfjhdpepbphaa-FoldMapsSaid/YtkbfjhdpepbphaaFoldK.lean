/- The walks of Kind, To and Map. -/
import Derived.Test.YtkbfjhdpepbphaaFoldA
namespace Go.Proofs.Ytkbfjhdpepbphaa
open Go.RowKit
set_option linter.unusedVariables false
theorem info_tsize : (Try.prog.info? 36).map (·.size) = some tabCells.size := by rw [tab_size]; exact (zero_of_info info_tab).2
theorem zero_tab (w : World) : (zeroValue 36).run Try.prog w = .ok (.agg zeroT) w := (zero_of_info info_tab).1 w
/-- The table into a variable. -/
theorem wpList_store_tab {w : World} {ops : Array Oper} {rest : List Oper} {o : Oper} {a : Act} {Q : Exit → Act → World → Prop} (hgd : o.guard = none) (x y : Operand) (ho : o.op = .store 36 x y)
    (hx : a.eval x = .pointer (some ⟨w.heap.size, 0, none⟩)) (hy : a.eval y = .agg tabCells) (h : wpList Try.prog ops Q rest (a.put o.dst undef) (w.alloc (.cells tabCells 36))) : wpList Try.prog ops Q (o :: rest) a (w.alloc (.cells zeroT 36)) := by
  refine wpList_store_row hgd 36 x y ho w.heap.size tabCells hx hy 36 zeroT (heap_alloc_last w _) info_tsize (by rw [tab_size]; decide +kernel) tab_all ?_
  rw [World.setRow_alloc_new]
  exact h
theorem tab_there (w : World) : TabAt (w.alloc (.cells tabCells 36)) w.heap.size := heap_alloc_last w _
theorem rule_bounds (c : Int) : 0 ≤ (ruleOf c).2.2.2.2.1 ∧ (ruleOf c).2.2.2.2.1 ≤ 5000 ∧ 0 ≤ (ruleOf c).1 ∧ (ruleOf c).1 ≤ 1114111 := by
  unfold ruleOf
  split
  · decide
  · cases h : rules.find? (fitsR · c) with
    | none => decide
    | some r =>
      have := List.mem_of_find?_eq_some h
      have hall : ∀ r ∈ rules, 0 ≤ r.2.2.2.2.1 ∧ r.2.2.2.2.1 ≤ 5000 ∧ 0 ≤ r.1 ∧ r.1 ≤ 1114111 := by decide
      exact hall r this
theorem kind_sign {c : Int} (h : kindOf c ≠ 4) : 0 ≤ c ∧ c ≤ 1114111 := by
  cases hs : isS c with
  | true => have := isS_iff.1 hs; exact ⟨this.1, this.2.1⟩
  | false =>
    exfalso; apply h
    unfold kindOf ruleOf
    rw [if_pos (by unfold barred; rw [hs]; rfl)]
def toOf (c : Int) : List Int := if kindOf c = 2 then signs (ruleOf c) c else []
theorem signs_len (r : Rule) (c : Int) : (signs r c).length ≤ 2 := by
  unfold signs; repeat' split
  all_goals simp
theorem field_kind (r : Rule) (w : World) : (Instr.field 34 (valR r) 3).run Try.prog w = .ok (.int .i64 r.2.2.2.1) w := by
  unfold Instr.field
  rw [Sem.run_bind, run_underlying Try.underlying34 w]
  simp [go_sem, asAgg]
set_option maxHeartbeats 1000000 in
theorem kind_calls (c : Int) (w : World) : Calls Try.prog 8 #[.int .i64 c] w fun e w' => e = .returned (.int .i64 (kindOf c)) ∧ Below w.heap.size w w' := by
  have hz := zero_tab
  have HK : Hid (kindOf c = (ruleOf c).2.2.2.1) := rfl
  have HR := hid (fun b w ht => ruleOf_calls b c w ht)
  rcases hq : ruleOf c with ⟨f, l, p, kd, to, th⟩
  rw [hq] at HR HK
  clear hq
  have hfl := field_kind (f, l, p, kd, to, th)
  go_enter Try.func8, Try.ntmps8
  go_wp2_with fail
  refine (makeTable_calls _).mono ?_
  rintro e w1 ⟨rfl, hb1⟩
  have HB1 := hid hb1
  clear hb1
  go_wp2_with (refine wpList_store_tab rfl _ _ rfl rfl rfl ?_)
  refine (HR.out _ _ (tab_there w1)).mono ?_
  rintro e w2 ⟨rfl, hb2⟩
  have HB2 := hid ((HB1.out.alloc HB1.out.size (.cells tabCells 36)).trans (hb2.mono (by have := HB1.out.size; simp; omega)))
  clear hb2 HB1 hz
  go_wp2_with fail
  go_ret
  exact ⟨by rw [HK.out]; rfl, HB2.out⟩
set_option maxHeartbeats 1000000 in
theorem to_calls (c : Int) (w : World) : Calls Try.prog 11 #[.int .i64 c] w fun e w' => (∃ v', e = .returned v' ∧ IOwn w' w.heap.size v' (toOf c)) ∧ Below w.heap.size w w' := by
  have hz := zero_tab
  have HR := hid (fun b w ht => ruleOf_calls b c w ht)
  have hbd := rule_bounds c
  by_cases h2 : kindOf c = 2
  · obtain ⟨c0, c1⟩ := kind_sign (c := c) (by rw [h2]; decide)
    have HT : Hid (toOf c = signs (ruleOf c) c) := by show _ = _; unfold toOf; rw [if_pos h2]
    have HA := hid (fun w => appendSigns_calls (ruleOf c) (.slice none 0 0) [] c w w.heap.size (Own.nil fi 3 w _) (Nat.le_refl _) (by simp) c0 c1 hbd.1 hbd.2.1 hbd.2.2.1 hbd.2.2.2)
    have hk : (ruleOf c).2.2.2.1 = 2 := h2
    clear h2 hbd
    rcases hq : ruleOf c with ⟨f, l, p, kd, to, th⟩
    rw [hq] at HR HA HT hk
    simp only at hk
    subst hk
    clear hq c0 c1
    go_enter Try.func11, Try.ntmps11
    go_wp2_with fail
    refine (makeTable_calls _).mono ?_
    rintro e w1 ⟨rfl, hb1⟩
    have HB1 := hid hb1
    clear hb1
    go_wp2_with (refine wpList_store_tab rfl _ _ rfl rfl rfl ?_)
    refine (HR.out _ _ (tab_there w1)).mono ?_
    rintro e w2 ⟨rfl, hb2⟩
    have HB2 := hid ((HB1.out.alloc HB1.out.size (.cells tabCells 36)).trans (hb2.mono (by have := HB1.out.size; simp; omega)))
    clear hb2 HB1 hz
    go_wp2_with fail
    refine (HA.out _).mono ?_
    rintro e w3 ⟨⟨v', rfl, ho⟩, hb3⟩
    have HB3 := hid ((HB2.out.alloc HB2.out.size (.cells (arrR (f, l, p, 2, to, th)) 34)).trans (hb3.mono (by have := HB2.out.size; simp; omega)))
    have HO := hid (ho.mono (base' := w.heap.size) (by have := HB2.out.size; simp; omega))
    clear hb3 ho HB2 HR HA
    go_wp2_with fail
    go_ret
    exact ⟨⟨_, rfl, by rw [HT.out]; exact HO.out⟩, HB3.out⟩
  · have HT : Hid (toOf c = []) := by show _ = _; unfold toOf; rw [if_neg h2]
    have hk : ((ruleOf c).2.2.2.1 == 2) = false := by rw [beq_eq_false_iff_ne]; exact h2
    clear h2 hbd
    rcases hq : ruleOf c with ⟨f, l, p, kd, to, th⟩
    rw [hq] at HR hk
    simp only at hk
    clear hq
    go_enter Try.func11, Try.ntmps11
    go_wp2_with fail
    refine (makeTable_calls _).mono ?_
    rintro e w1 ⟨rfl, hb1⟩
    have HB1 := hid hb1
    clear hb1
    go_wp2_with (refine wpList_store_tab rfl _ _ rfl rfl rfl ?_)
    refine (HR.out _ _ (tab_there w1)).mono ?_
    rintro e w2 ⟨rfl, hb2⟩
    have HB2 := hid ((HB1.out.alloc HB1.out.size (.cells tabCells 36)).trans (hb2.mono (by have := HB1.out.size; simp; omega)))
    clear hb2 HB1 hz
    go_wp2_with fail
    go_ret
    exact ⟨⟨_, rfl, by rw [HT.out]; exact Own.nil _ _ _ _⟩, HB2.out.alloc HB2.out.size _⟩
end Go.Proofs.Ytkbfjhdpepbphaa
