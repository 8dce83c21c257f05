/- Slices of bytes: appended to, copied, held against each other. -/
import Derived.Test.YtbaomapkggomfabDoorFirstW
import Derived.Laws.OwnMore
namespace Go.Proofs.YtbaomapkggomfabDoor
open Go.RowKit
set_option linter.unusedVariables false
def bv (l : List UInt8) : List Value := l.map fun c => Value.int .u8 (c.toNat : Int)
theorem bv_len (l : List UInt8) : (bv l).length = l.length := by simp [bv]
theorem bv_append (a b : List UInt8) : bv (a ++ b) = bv a ++ bv b := by simp [bv]
theorem bv_one (l : List UInt8) : ∀ u ∈ bv l, u.oneCell' = true := by
  intro u hu
  simp only [bv, List.mem_map] at hu
  obtain ⟨c, _, rfl⟩ := hu
  rfl
/-- v is a slice of bytes of the call's own (its blocks from base on) that reads as l. -/
def Own (w : World) (base : Nat) (v : Value) (l : List UInt8) : Prop := w.ownsRow base 5 1 v l.length (bv l)
theorem Own.row {w : World} {base : Nat} {v : Value} {l : List UInt8} (h : Own w base v l) : BRow w v l := by
  rcases h.2 with ⟨rfl, hn⟩ | ⟨g, cap, cur, rfl, hb, hg, hnc, hcm, hcs, htake⟩
  · have : l = [] := List.eq_nil_of_length_eq_zero hn
    subst this
    exact nil_row w
  · refine ⟨_, cap, rfl, hnc, hcm, fun _ => ⟨g, 0, rfl, ?_, fun i hi => ?_⟩⟩
    · rcases Nat.lt_or_ge g w.heap.size with h' | h'
      · exact h'
      · rw [Array.getElem?_eq_none h'] at hg; cases hg
    · have hc := World.ownsRow.cells h (g := g) rfl i (.int .u8 (l[i].toNat : Int)) (by simp [bv, hi])
      have ha : (⟨g, 0, none⟩ : Addr).add i = ⟨g, 0 + i, none⟩ := by
        unfold Addr.add; split
        · rename_i h; subst h; rfl
        · simp
      rw [ha] at hc
      exact hc
theorem Own.nil (w : World) (base : Nat) : Own w base (.slice none 0 0) [] := World.ownsRow_nil w base _ _
theorem brow_cells {w : World} {a : Addr} {n cap : Nat} {l : List UInt8} (h : BRow w (.slice (some a) n cap) l) : n = l.length ∧ ∀ j u, (bv l)[j]? = some u → w.cell? (a.add j) = some u := by
  obtain ⟨a', cap', he, h1, h2, h3⟩ := h
  injection he with e1 e2 e3
  subst e1 e2 e3
  refine ⟨rfl, fun j u hu => ?_⟩
  have hj : j < l.length := by
    rcases Nat.lt_or_ge j l.length with h | h
    · exact h
    · rw [List.getElem?_eq_none (by rw [bv_len]; exact h)] at hu; cases hu
  obtain ⟨b, off, he, hlt, hc⟩ := h3 (by intro h; simp [h] at hj)
  injection he with he
  subst he
  have ha : (⟨b, off, none⟩ : Addr).add j = ⟨b, off + j, none⟩ := by
    unfold Addr.add; split
    · rename_i h; subst h; rfl
    · rfl
  rw [ha, hc j hj]
  simpa [bv, hj] using hu
theorem append_none {w : World} {base : Nat} {v : Value} {xs : List UInt8} (hown : Own w base v xs) (cap : Nat) : (Builtin.append_ #[26, 26] 26 #[v, .slice none 0 cap]).run Tryd.prog w = .ok v w := by
  obtain ⟨i0, hi, hz0, hz1, hz2⟩ := info_parts info_u8
  rcases hown.2 with ⟨rfl, hl⟩ | ⟨g, cap', cur, rfl, _, _, hnc, _⟩
  · simp [Builtin.append_, run_underlying Tryd.underlying26, sizeOf, typeInfo, hi, Builtin.lenOf, Builtin.firstCells]
  · simp [Builtin.append_, run_underlying Tryd.underlying26, sizeOf, typeInfo, hi, Builtin.lenOf, Builtin.firstCells, hnc, storeCells]
theorem append_run {w : World} {base : Nat} {v : Value} {xs : List UInt8} (hown : Own w base v xs) {x : Value} {l : List UInt8} (hx : BRow w x l) (hlen : xs.length + l.length ≤ 1000000) (hbase : base ≤ w.heap.size) :
    ∃ v' w', (Builtin.append_ #[26, 26] 26 #[v, x]).run Tryd.prog w = .ok v' w' ∧ Own w' base v' (xs ++ l) ∧ w.grownBy w' v.ownBlock := by
  obtain ⟨i0, hi, hz0, hz1, hz2⟩ := info_parts info_u8
  have hx0 := hx
  obtain ⟨a, cap, rfl, h1, h2, h3⟩ := hx
  cases a with
  | none =>
    have hl : l = [] := by
      rcases List.eq_nil_or_concat l with h | ⟨l', c, h⟩
      · exact h
      · obtain ⟨b, off, he, _⟩ := h3 (by rw [h]; simp)
        cases he
    subst hl
    exact ⟨v, w, append_none hown cap, by rw [List.append_nil]; exact hown, ⟨rfl, rfl, rfl, Nat.le_refl _, fun _ _ _ => rfl⟩⟩
  | some a =>
    obtain ⟨_, hc⟩ := brow_cells hx0
    obtain ⟨v', w', hr, ho, hg, _⟩ := run_append_own (P := Tryd.prog) w base 26 26 5 i0 (.int .u8 0) 1 1 Tryd.underlying26 hi hz0 hz1 hz2 rfl (by decide) v xs.length (bv xs) hown a l.length cap (bv l) (by simp [bv]) hc (bv_one l) (by unfold maxLen; omega) (by omega) hbase
    refine ⟨v', w', hr, ?_, hg⟩
    unfold Own
    rw [List.length_append, bv_append]
    exact ho
theorem wpList_append_run {w w' : World} {v x v' : Value} (hr : (Builtin.append_ #[26, 26] 26 #[v, x]).run Tryd.prog w = .ok v' w') {ops : Array Oper} {rest : List Oper} {o : Oper} {a : Act} {Q : Exit → Act → World → Prop} (hgd : o.guard = none) (s y : Operand)
    (ho : o.op = .call { callee := .builtin .append, args := #[s, y], argTypes := #[26, 26] }) (hty : o.type = 26) (hs : a.eval s = v) (hx : a.eval y = x)
    (h : wpList Tryd.prog ops Q rest (a.put o.dst v') w') : wpList Tryd.prog ops Q (o :: rest) a w := by
  refine wpList_plain hgd fun K hK => ?_
  unfold Oper.wp execOp
  simp only [ho, resolve, invoke, builtin, Sem.run_bind, Sem.run_pure, Result.andThen_ok, List.map_toArray, List.map_cons, List.map_nil, hs, hx, hty, hr]
  exact hK _ _ h
theorem Own.made (w : World) : Own (w.alloc (.cells #[] 5)) w.heap.size (.slice (some ⟨w.heap.size, 0, none⟩) 0 0) [] := World.ownsRow_made w #[] 0 (Nat.le_refl _) (Nat.zero_le _) rfl
set_option maxHeartbeats 400000 in
theorem copy_calls (v : Value) (l : List UInt8) (w : World) (hv : BRow w v l) (hl : l.length ≤ 100000) :
    Calls Tryd.prog 9 #[v] w fun e w' => (∃ v', e = .returned v' ∧ Own w' w.heap.size v' l) ∧ Below w.heap.size w w' := by
  have hb0 : Below w.heap.size w (w.alloc (.cells #[] 5)) := (Below.refl _ _).alloc (Nat.le_refl _) _
  obtain ⟨v', w', hr, ho, hg⟩ := append_run (Own.made w) (hv.below hb0) (by simpa using (by omega : l.length ≤ 1000000)) (by simp)
  have HO := hid ho
  have HG := hid (hb0.grown hg (by simp) (by intro k hk; simp [Value.ownBlock] at hk; omega))
  clear ho hg hb0 hv
  rw [List.nil_append] at HO
  go_enter Tryd.func9, Tryd.ntmps9
  go_wp2_with (at_builtin; refine wpList_append_run hr rfl _ _ rfl rfl rfl rfl ?_)
  go_ret
  exact ⟨⟨_, rfl, HO.out⟩, HG.out⟩
theorem strOf_list (l : List UInt8) : (strOf l).toList = l := by rw [ByteArray.toList_eq]; rfl
end Go.Proofs.YtbaomapkggomfabDoor
