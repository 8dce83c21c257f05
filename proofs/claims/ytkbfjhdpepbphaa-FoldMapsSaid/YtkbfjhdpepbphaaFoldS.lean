/- The walk of ruleOf. -/
import Derived.Test.YtkbfjhdpepbphaaFoldR
namespace Go.Proofs.Ytkbfjhdpepbphaa
open Go.RowKit
set_option linter.unusedVariables false
theorem info_rule : (Try.prog.info? 34).map (·.size) = some 6 := by kernel_rfl
theorem wpList_load_rule {w : World} {b k : Nat} (ht : TabAt w b) (hk : k < 34) {r : Rule} (hr : rules.getD k (0, 0, false, 1, 0, 0) = r) {ops : Array Oper} {rest : List Oper} {o : Oper} {a : Act} {Q : Exit → Act → World → Prop} (hgd : o.guard = none) (x : Operand) (ho : o.op = .load 34 x)
    (hx : a.eval x = .pointer (some ⟨b, k * 6, none⟩)) (h : wpList Try.prog ops Q rest (a.put o.dst (valR r)) w) : wpList Try.prog ops Q (o :: rest) a w := by
  refine wpList_plain hgd fun K hK => ?_
  unfold Oper.wp execOp
  have hl : (loadCells ⟨b, k * 6, none⟩ (cellsR r).length).run Try.prog w = .ok (cellsR r).toArray w :=
    run_loadCells_list (P := Try.prog) w ⟨b, k * 6, none⟩ (cellsR r) (fun j v hv => by
      have hj : j < 6 := by
        rcases Nat.lt_or_ge j 6 with h | h
        · exact h
        · rw [List.getElem?_eq_none (by simpa [cellsR] using h)] at hv; cases hv
      rw [addr_add, ht.cell hk j hj, hr]
      exact hv)
  have hld : (loadVar 34 ⟨b, k * 6, none⟩).run Try.prog w = .ok (valR r) w := by
    cases hq : Try.prog.info? 34 with
    | none => have := info_rule; rw [hq] at this; cases this
    | some i =>
      have hs : i.size = 6 := by have := info_rule; rw [hq] at this; simpa using this
      have hagg : (isAgg 34).run Try.prog w = .ok true w := by
        unfold isAgg
        rw [Sem.run_bind, run_underlying Try.underlying34 w]
        rfl
      have hl' : (loadCells ⟨b, k * 6, none⟩ 6).run Try.prog w = .ok (cellsR r).toArray w := hl
      simp [loadVar, Sem.run_bind, hagg, sizeOf, typeInfo, hq, hs, hl']
      rfl
  simp only [ho, hx, Instr.loadAt, Instr.sureAddr, Sem.run_bind, Sem.run_pure, Result.andThen_ok, hld]
  exact hK _ _ h
abbrev arrR (r : Rule) : Array Value := #[.int .i64 r.1, .int .i64 r.2.1, .bool r.2.2.1, .int .i64 r.2.2.2.1, .int .i64 r.2.2.2.2.1, .int .i64 r.2.2.2.2.2]
theorem all_rule (r : Rule) : (arrR r).all (·.oneCell') = true := by simp [Value.oneCell']
/-- A rule into a variable of its own. -/
theorem wpList_store_rule {w : World} {g : Nat} {old : Array Value} (hg : w.heap[g]? = some (.cells old 34 (0, 0))) (h6 : old.size = 6) (r : Rule) {ops : Array Oper} {rest : List Oper} {o : Oper} {a : Act} {Q : Exit → Act → World → Prop} (hgd : o.guard = none) (x y : Operand) (ho : o.op = .store 34 x y)
    (hx : a.eval x = .pointer (some ⟨g, 0, none⟩)) (hy : a.eval y = valR r) (h : wpList Try.prog ops Q rest (a.put o.dst undef) (w.setRow g (arrR r))) : wpList Try.prog ops Q (o :: rest) a w :=
  wpList_store_row hgd 34 x y ho g (arrR r) hx hy 34 old hg info_rule h6 (all_rule r) h
theorem post_rule {w : World} {g : Nat} {old : Array Value} (hg : w.heap[g]? = some (.cells old 34 (0, 0))) (r : Rule) {fn : Func} {p : Tmp} (hfn : fn.results = #[.cell p 34]) {a : Act} (hp : a.tmps.getD p undef = .pointer (some ⟨g, 0, none⟩)) (hd : a.defers = []) {R : Ending → World → Prop} (hR : R (.returned (valR r)) (w.setRow g (arrR r))) : bodyPost Try.prog fn R .ret a (w.setRow g (arrR r)) :=
  bodyPost_ret (v := valR r) (results_cell_row hfn _ _ g 34 (arrR r) (0, 0) _ hp (setRow_heap _ _ _ _ _ _ hg) Try.underlying34 rfl info_rule) hd hR
set_option maxHeartbeats 1000000 in
theorem ruleOf_calls (b : Nat) (c : Int) (w : World) (ht : TabAt w b) :
    Calls Try.prog 17 #[.pointer (some ⟨b, 0, none⟩), .int .i64 c] w fun e w' => e = .returned (valR (ruleOf c)) ∧ Below w.heap.size w w' := by
  by_cases hS : isS c = true
  · have hSc := isS_iff.1 hS
    obtain ⟨m, hm, hm2⟩ := low_even (c := c) hSc.1 hSc.2.1
    by_cases hB : 65534 ≤ c % 65536
    · rw [decide_eq_true hB] at hm2
      have HBAR : Hid (ruleOf c = (0, 0, false, 4, 0, 0)) := by
        show _ = _
        unfold ruleOf
        rw [if_pos (by unfold barred; rw [hS, decide_eq_true hB]; rfl)]
      have HS := hid (fun w => scalar_calls c w)
      rw [hS] at HS
      clear hSc hS hB ht
      go_enter Try.func17, Try.ntmps17
      go_wp2_with fail
      refine (HS.out _).mono ?_
      rintro e w1 ⟨rfl, rfl⟩
      go_wp2_with (refine wpList_store_rule (heap_alloc_last w _) rfl (0, 0, false, 4, 0, 0) rfl _ _ rfl rfl rfl ?_)
      show bodyPost _ _ _ .ret _ _
      exact post_rule (p := 4) (heap_alloc_last w _) (0, 0, false, 4, 0, 0) rfl rfl rfl ⟨by rw [HBAR.out], below_setRow ((Below.refl _ _).alloc (Nat.le_refl _) _) (Nat.le_refl _) _⟩
    · have hbar : barred c = false := by unfold barred; rw [hS]; simp; omega
      have HBAR := hid hbar
      have HS := hid (fun w => scalar_calls c w)
      rw [decide_eq_false hB] at hm2
      rw [hS] at HS
      have HT := hid ht
      clear hbar hB hSc hS ht
      go_enter Try.func17, Try.ntmps17
      go_wp2_with fail
      refine (HS.out _).mono ?_
      rintro e w1 ⟨rfl, rfl⟩
      go_wp2_with fail
      have HZ : Hid ((w.alloc (.cells #[.int .i64 0, .int .i64 0, .bool false, .int .i64 0, .int .i64 0, .int .i64 0] 34)).heap[w.heap.size]? = some (.cells #[.int .i64 0, .int .i64 0, .bool false, .int .i64 0, .int .i64 0, .int .i64 0] 34)) := heap_alloc_last w _
      have HB1 : Hid (Below w.heap.size w (w.alloc (.cells #[.int .i64 0, .int .i64 0, .bool false, .int .i64 0, .int .i64 0, .int .i64 0] 34))) := (Below.refl _ _).alloc (Nat.le_refl _) _
      have HT1 := hid (HT.out.below HB1.out)
      have HW : Hid (w.heap.size < (w.alloc (.cells #[.int .i64 0, .int .i64 0, .bool false, .int .i64 0, .int .i64 0, .int .i64 0] 34)).heap.size) := by show _ < _; simp
      generalize w.alloc (.cells #[.int .i64 0, .int .i64 0, .bool false, .int .i64 0, .int .i64 0, .int .i64 0] 34) = w1 at *
      clear HT HS
      go_loopw [18] (fun i wr => ∃ k : Nat, k ≤ 34 ∧ i = .int .i64 (k : Int) ∧ (∀ r ∈ rules.take k, fitsR r c = false) ∧ Below w1.heap.size w1 wr) (fun i _ => 34 - (intOf i).toNat)
      case atStart => exact ⟨0, Nat.zero_le _, rfl, by simp, Below.refl _ _⟩
      case round =>
        obtain ⟨k, hk, rfl, he, hb⟩ := hrel
        have HE := hid he
        have HB := hid hb
        have HT2 := hid (HT1.out.below hb)
        clear he hb
        by_cases hlt : k < 34
        · have HK := hid hlt
          obtain ⟨r, hr⟩ : ∃ r, rules.getD k (0, 0, false, 1, 0, 0) = r := ⟨_, rfl⟩
          obtain ⟨hf, hl⟩ := rules_bound k hlt
          have HNx := hid (rule_next k c HE.out hlt)
          have HFd := hid (rule_found k c HBAR.out HE.out hlt)
          rw [hr] at hf hl HNx HFd
          obtain ⟨f, l, p, kd, to, th⟩ := r
          have HR := hid hr
          have HF := hid (fun w => fits_calls f l kd to th c p w hf hl)
          clear hr hf hl hk
          have k0 : (0 : Int) ≤ (k : Int) := by omega
          have k1 : (k : Int) < 34 := by omega
          clear hlt
          go_wp2_with (refine wpList_load_rule HT2.out HK.out HR.out rfl _ rfl rfl ?_)
          refine (HF.out _).mono ?_
          rintro e wf ⟨rfl, hbf⟩
          have hB0 : w.heap.size < wr.heap.size := Nat.lt_of_lt_of_le HW.out HB.out.size
          have HGB : Hid (wf.heap[w.heap.size]? = some (.cells #[.int .i64 0, .int .i64 0, .bool false, .int .i64 0, .int .i64 0, .int .i64 0] 34)) := by
            show _ = _
            rw [hbf.block _ (by simp; omega), Below.heap_alloc _ _ _ hB0, HB.out.block _ HW.out, HZ.out]
          have HGR : Hid (wf.heap[wr.heap.size]? = some (.cells #[.int .i64 f, .int .i64 l, .bool p, .int .i64 kd, .int .i64 to, .int .i64 th] 34)) := by
            show _ = _
            rw [hbf.block _ (by simp), heap_alloc_last]
          have HBF : Hid (Below w1.heap.size w1 wf) := (HB.out.alloc HB.out.size _).trans (hbf.mono (by have := HB.out.size; simp; omega))
          have HBW : Hid (Below w.heap.size w wf) := HB1.out.trans (HBF.out.mono (Nat.le_of_lt HW.out))
          clear hbf hB0 HF HT2
          generalize wr.heap.size = G at *
          cases hfit : fitsR (f, l, p, kd, to, th) c with
          | true =>
            have HQ := hid (HFd.out hfit)
            clear hfit HNx HFd
            go_wp2_with (first | refine wpList_load_row rfl 34 _ rfl G rfl 34 _ (0, 0) _ HGR.out Try.underlying34 rfl info_rule ?_ | refine wpList_store_rule HGB.out rfl (f, l, p, kd, to, th) rfl _ _ rfl rfl rfl ?_)
            show bodyPost _ _ _ .ret _ _
            exact post_rule (p := 4) HGB.out (f, l, p, kd, to, th) rfl rfl rfl ⟨by rw [HQ.out], below_setRow HBW.out (Nat.le_refl _) _⟩
          | false =>
            have HQ := hid (HNx.out hfit)
            clear hfit HNx HFd
            go_wp2_with fail
            go_roundw
            case rel => exact ⟨k + 1, by omega, by go_num, HQ.out, HBF.out⟩
            case measure => simp [intOf]; omega
        · have hk34 : k = 34 := by omega
          subst hk34
          have HQ := hid (rule_none c HBAR.out HE.out)
          have HGB : Hid (wr.heap[w.heap.size]? = some (.cells #[.int .i64 0, .int .i64 0, .bool false, .int .i64 0, .int .i64 0, .int .i64 0] 34)) := by
            show _ = _
            rw [HB.out.block _ HW.out, HZ.out]
          have HBW : Hid (Below w.heap.size w wr) := HB1.out.trans (HB.out.mono (Nat.le_of_lt HW.out))
          go_wp2_with (refine wpList_store_rule HGB.out rfl (0, 0, false, 1, 0, 0) rfl _ _ rfl rfl rfl ?_)
          show bodyPost _ _ _ .ret _ _
          exact post_rule (p := 4) HGB.out (0, 0, false, 1, 0, 0) rfl rfl rfl ⟨by rw [HQ.out], below_setRow HBW.out (Nat.le_refl _) _⟩
  · have hS : isS c = false := by simpa using hS
    have HBAR : Hid (ruleOf c = (0, 0, false, 4, 0, 0)) := by
      show _ = _
      unfold ruleOf
      rw [if_pos (by unfold barred; rw [hS]; rfl)]
    have HS := hid (fun w => scalar_calls c w)
    rw [hS] at HS
    clear hS ht
    go_enter Try.func17, Try.ntmps17
    go_wp2_with fail
    refine (HS.out _).mono ?_
    rintro e w1 ⟨rfl, rfl⟩
    go_wp2_with (refine wpList_store_rule (heap_alloc_last w _) rfl (0, 0, false, 4, 0, 0) rfl _ _ rfl rfl rfl ?_)
    show bodyPost _ _ _ .ret _ _
    exact post_rule (p := 4) (heap_alloc_last w _) (0, 0, false, 4, 0, 0) rfl rfl rfl ⟨by rw [HBAR.out], below_setRow ((Below.refl _ _).alloc (Nat.le_refl _) _) (Nat.le_refl _) _⟩
end Go.Proofs.Ytkbfjhdpepbphaa
