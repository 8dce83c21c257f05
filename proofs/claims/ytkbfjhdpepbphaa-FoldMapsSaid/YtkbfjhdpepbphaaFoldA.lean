/- The walk of appendSigns. -/
import Derived.Test.YtkbfjhdpepbphaaFoldS
namespace Go.Proofs.Ytkbfjhdpepbphaa
open Go.RowKit
set_option linter.unusedVariables false
theorem own_lt {w : World} {base : Nat} {v : Value} {l : List Int} (h : IOwn w base v l) : ∀ k, v.ownBlock = some k → k < w.heap.size := fun k hk => (World.ownsRow.lt h k hk).2
theorem sum_fits {to c f : Int} (h0 : 0 ≤ c) (h1 : c ≤ 1114111) (t0 : 0 ≤ to) (t1 : to ≤ 5000) (f0 : 0 ≤ f) (f1 : f ≤ 1114111) : IntKind.wrap .i64 (to + c) = to + c ∧ IntKind.wrap .i64 (to + c - f) = to + c - f := by
  constructor <;> rw [IntKind.wrap_i64] <;> omega
set_option maxHeartbeats 1000000 in
theorem appendSigns_calls (r : Rule) (v : Value) (xs : List Int) (c : Int) (w : World) (base : Nat) (ho : IOwn w base v xs) (hb : base ≤ w.heap.size) (hl : xs.length ≤ 500000) (h0 : 0 ≤ c) (h1 : c ≤ 1114111) (t0 : 0 ≤ r.2.2.2.2.1) (t1 : r.2.2.2.2.1 ≤ 5000) (f0 : 0 ≤ r.1) (f1 : r.1 ≤ 1114111) :
    Calls Try.prog 20 #[valR r, v, .int .i64 c] w fun e w' => (∃ v', e = .returned v' ∧ IOwn w' base v' (xs ++ signs r c)) ∧ Below base w w' := by
  obtain ⟨f, l, p, kd, to, th⟩ := r
  have hw1 : Below base w (w.alloc (.cells (arrR (f, l, p, kd, to, th)) 34)) := (Below.refl _ _).alloc hb _
  have ho1 : IOwn (w.alloc (.cells (arrR (f, l, p, kd, to, th)) 34)) base v xs := ho.alloc _
  have hsz : (w.alloc (.cells (arrR (f, l, p, kd, to, th)) 34)).heap.size = w.heap.size + 1 := by simp
  by_cases k1 : kd = 1
  · subst k1
    have hs : signs (f, l, p, 1, to, th) c = [c] := by simp [signs]
    rw [hs]
    obtain ⟨v', w', hr, ho', hg⟩ := appendI_run (ho1.alloc (.cells #[.int .i64 c] 3)) (Row.lit fi _ [c] 3 (0, 0) (by simp)) (by simp; omega) (by simp; omega)
    rw [hsz] at hr
    have HO := hid ho'
    have HB := hid ((hw1.alloc (by simp; omega) (.cells #[.int .i64 c] 3)).grown hg (by simp; omega) (Own.lt ho))
    clear hsz ho' hg ho ho1 hw1 hs hb hl h0 h1 t0 t1 f0 f1
    go_enter Try.func20, Try.ntmps20
    go_wp2_with (at_builtin; go_must (refine wpList_append_run hr rfl _ _ rfl rfl rfl rfl ?_))
    go_ret
    exact ⟨⟨_, rfl, HO.out⟩, HB.out⟩
  · by_cases k2 : kd = 2
    · subst k2
      obtain ⟨e1, e2⟩ := sum_fits h0 h1 t0 t1 f0 f1
      obtain ⟨s, hsum⟩ : ∃ s, to + c = s := ⟨_, rfl⟩
      obtain ⟨z, hz⟩ : ∃ z, s - f = z := ⟨_, rfl⟩
      simp only at e1 e2
      rw [hsum] at e1 e2
      rw [hz] at e2
      obtain ⟨v', w', hr, ho', hg⟩ := appendI_run (ho1.alloc (.cells #[.int .i64 z] 3)) (Row.lit fi _ [z] 3 (0, 0) (by simp)) (by simp; omega) (by simp; omega)
      rw [hsz] at hr
      have hB := (hw1.alloc (by simp; omega) (.cells #[.int .i64 z] 3)).grown hg (by simp; omega) (Own.lt ho)
      have hcell : w'.heap[w.heap.size]? = some (.cells (arrR (f, l, p, 2, to, th)) 34) := by
        rw [hg.block w.heap.size (by simp; omega) (by intro e; have := own_lt ho _ e.symm; omega)]
        rw [Below.heap_alloc _ _ _ (by simp), heap_alloc_last]
      have hc5 : w'.cell? ⟨w.heap.size, 5, none⟩ = some (.int .i64 th) := by simp [World.cell?, hcell]
      by_cases k3 : th = 0
      · have HS : Hid (signs (f, l, p, 2, to, th) c = [z]) := by show _ = _; simp [signs, k3, ← hz, ← hsum]
        subst k3
        have HO := hid ho'
        have HB := hid hB
        clear hsz ho' hg ho ho1 hw1 hb hl h0 h1 t0 t1 f0 f1 hB hcell k1
        go_enter Try.func20, Try.ntmps20
        go_wp2_with (at_builtin; go_must (refine wpList_append_run hr rfl _ _ rfl rfl rfl rfl ?_))
        go_ret
        exact ⟨⟨_, rfl, by rw [HS.out]; exact HO.out⟩, HB.out⟩
      · have HS : Hid (signs (f, l, p, 2, to, th) c = [z] ++ [th]) := by show _ = _; simp [signs, k3, ← hz, ← hsum]
        obtain ⟨v2, w2, hr2, ho2, hg2⟩ := appendI_run (ho'.alloc (.cells #[.int .i64 th] 3)) (Row.lit fi _ [th] 3 (0, 0) (by simp)) (by simp; omega) (by have := hB.size; simp; omega)
        have HB := hid ((hB.alloc (by have := hB.size; omega) (.cells #[.int .i64 th] 3)).grown hg2 (by have := hB.size; simp; omega) (Own.lt ho'))
        have HO := hid ho2
        have hth : (th == 0) = false := by rw [beq_eq_false_iff_ne]; exact k3
        clear hsz ho' hg ho ho1 hw1 hb hl h0 h1 t0 t1 f0 f1 hB hcell k1 ho2 hg2 k3
        go_enter Try.func20, Try.ntmps20
        go_wp2_with (at_builtin; go_must (first | refine wpList_append_run hr rfl _ _ rfl rfl rfl rfl ?_ | refine wpList_append_run hr2 rfl _ _ rfl rfl rfl rfl ?_))
        go_ret
        exact ⟨⟨_, rfl, by rw [HS.out, ← List.append_assoc]; exact HO.out⟩, HB.out⟩
    · have HS : Hid (signs (f, l, p, kd, to, th) c = []) := by show _ = _; simp [signs, k1, k2]
      have q1 : (kd == 1) = false := by rw [beq_eq_false_iff_ne]; exact k1
      have q2 : (kd == 2) = false := by rw [beq_eq_false_iff_ne]; exact k2
      have HO := hid ho1
      have HB := hid hw1
      clear hsz ho ho1 hw1 hb hl h0 h1 t0 t1 f0 f1 k1 k2
      go_enter Try.func20, Try.ntmps20
      go_wp2
      go_ret
      exact ⟨⟨_, rfl, by rw [HS.out, List.append_nil]; exact HO.out⟩, HB.out⟩
end Go.Proofs.Ytkbfjhdpepbphaa
