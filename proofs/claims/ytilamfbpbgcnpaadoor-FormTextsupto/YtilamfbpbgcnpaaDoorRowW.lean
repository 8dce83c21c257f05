/- Slices of bytes and of ints: read, made, appended to, copied, held against each other. For every seat: nothing of the program's own chapters. -/
import Derived.Test.YtilamfbpbgcnpaaDoorRows
import Derived.WalkKit
import Derived.WalkSpells
import Derived.WalkLawsBesides
import Derived.Below
import Derived.OwnWalk
import Derived.OpenShut
import Derived.Laws.MakeOwn
import Derived.Laws.BytesArg
import Derived.Laws.OwnMore
import Derived.Laws.BitsAllLaws
import Derived.BigQuiet
namespace Go.Proofs.YtilamfbpbgcnpaaDoor
open Go.RowKit
set_option linter.unusedVariables false
set_option maxRecDepth 20000
theorem hid {p : Prop} (h : p) : Hid p := h
theorem ret_int {k : IntKind} {a b : Int} (h : a = b) : Ending.returned (.int k a) = .returned (.int k b) := by rw [h]
theorem byte_lt (c : UInt8) : c.toNat < 256 := c.toNat_lt
theorem below_trans {a b c : World} (h : Below a.heap.size a b) (k : Below b.heap.size b c) : Below a.heap.size a c := h.trans (k.mono h.size)
theorem addr_add (b off i : Nat) : (⟨b, off, none⟩ : Addr).add i = ⟨b, off + i, none⟩ := by
  unfold Addr.add; split
  · rename_i h; subst h; rfl
  · rfl

/-- v is a slice of values of one cell that reads as l, each as f tells it. -/
def Row {α : Type} (f : α → Value) (w : World) (v : Value) (l : List α) : Prop :=
  ∃ a cap, v = .slice a l.length cap ∧ l.length ≤ cap ∧ cap ≤ maxLen ∧ (l ≠ [] → ∃ b off, a = some ⟨b, off, none⟩ ∧ b < w.heap.size ∧ ∀ i (h : i < l.length), w.cell? ⟨b, off + i, none⟩ = some (f l[i]))
abbrev fb (c : UInt8) : Value := .int .u8 (c.toNat : Int)
abbrev fi (x : Int) : Value := .int .i64 x
abbrev BRow (w : World) (v : Value) (l : List UInt8) : Prop := Row fb w v l
abbrev IRow (w : World) (v : Value) (l : List Int) : Prop := Row fi w v l
section
variable {α : Type} {f : α → Value} {w w' : World} {v : Value} {l : List α}
theorem Row.below (h : Row f w v l) (hb : Below w.heap.size w w') : Row f w' v l := by
  obtain ⟨a, cap, rfl, h1, h2, h3⟩ := h
  refine ⟨a, cap, rfl, h1, h2, fun hl => ?_⟩
  obtain ⟨b, off, rfl, hlt, hc⟩ := h3 hl
  exact ⟨b, off, rfl, by have := hb.size; omega, fun i hi => (hb.cell (p := ⟨b, off + i, none⟩) hlt).trans (hc i hi)⟩
theorem Row.drew (h : Row f w v l) : Row f w.drew v l := h
theorem Row.nil (f : α → Value) (w : World) : Row f w (.slice none 0 0) [] := ⟨none, 0, rfl, Nat.le_refl _, Nat.zero_le _, fun h => absurd rfl h⟩
theorem Row.lit (f : α → Value) (w : World) (l : List α) (t : TypeId) (fr : Nat × Nat) (h : l.length ≤ 1000) : Row f (w.alloc (.cells (l.map f).toArray t fr)) (.slice (some ⟨w.heap.size, 0, none⟩) l.length l.length) l := by
  refine ⟨_, _, rfl, Nat.le_refl _, by unfold maxLen; omega, fun _ => ⟨_, _, rfl, by simp, fun i hi => ?_⟩⟩
  rw [World.cell?_alloc_mark]
  simp [hi]
/-- What stands from a place on. -/
theorem Row.from {a : Option Addr} {n cap : Nat} (h : Row f w (.slice a n cap) l) (k : Nat) (hk : k < l.length) : ∃ b off, a = some ⟨b, off, none⟩ ∧ n = l.length ∧ n ≤ cap ∧ cap ≤ maxLen ∧ Row f w (.slice (some ⟨b, off + k, none⟩) (l.length - k) (cap - k)) (l.drop k) := by
  obtain ⟨a', cap', he, h1, h2, h3⟩ := h
  injection he with e1 e2 e3
  subst e1 e2 e3
  obtain ⟨b, off, rfl, hlt, hc⟩ := h3 (by intro h; simp [h] at hk)
  refine ⟨b, off, rfl, rfl, h1, h2, some ⟨b, off + k, none⟩, cap - k, by rw [List.length_drop], by rw [List.length_drop]; omega, by omega, fun _ => ⟨b, off + k, rfl, hlt, fun i hi => ?_⟩⟩
  rw [List.length_drop] at hi
  have := hc (k + i) (by omega)
  rw [Nat.add_assoc, this, List.getElem_drop]
theorem Row.cells {a : Addr} {n cap : Nat} (h : Row f w (.slice (some a) n cap) l) : n = l.length ∧ ∀ j u, (l.map f)[j]? = some u → w.cell? (a.add j) = some u := by
  obtain ⟨a', cap', he, h1, h2, h3⟩ := h
  injection he with e1 e2 e3
  subst e1 e2 e3
  refine ⟨rfl, fun j u hu => ?_⟩
  have hj : j < l.length := by
    rcases Nat.lt_or_ge j l.length with h | h
    · exact h
    · rw [List.getElem?_eq_none (by simpa using h)] at hu; cases hu
  obtain ⟨b, off, he, hlt, hc⟩ := h3 (by intro h; simp [h] at hj)
  injection he with he
  subst he
  rw [addr_add, hc j hj]
  simpa [hj] using hu

/-- v is a slice of the call's own (its blocks from base on) that reads as l. -/
def Own (f : α → Value) (t : TypeId) (w : World) (base : Nat) (v : Value) (l : List α) : Prop := w.ownsRow base t 1 v l.length (l.map f)
variable {t : TypeId} {base : Nat}
theorem Own.row (h : Own f t w base v l) : Row f w v l := by
  rcases h.2 with ⟨rfl, hn⟩ | ⟨g, cap, cur, rfl, hb, hg, hnc, hcm, hcs, htake⟩
  · have : l = [] := List.eq_nil_of_length_eq_zero hn
    subst this
    exact Row.nil f w
  · refine ⟨_, cap, rfl, hnc, hcm, fun _ => ⟨g, 0, rfl, ?_, fun i hi => ?_⟩⟩
    · rcases Nat.lt_or_ge g w.heap.size with h' | h'
      · exact h'
      · rw [Array.getElem?_eq_none h'] at hg; cases hg
    · have hc := World.ownsRow.cells h (g := g) rfl i (f l[i]) (by simp [hi])
      rw [addr_add] at hc
      exact hc
theorem Own.nil (f : α → Value) (t : TypeId) (w : World) (base : Nat) : Own f t w base (.slice none 0 0) [] := World.ownsRow_nil w base _ _
theorem Own.drew (h : Own f t w base v l) : Own f t w.drew base v l := h
theorem Own.alloc (h : Own f t w base v l) (o : Obj) : Own f t (w.alloc o) base v l := World.ownsRow.alloc h o
theorem Own.below (h : Own f t w base v l) (hb : Below w.heap.size w w') : Own f t w' base v l := by
  refine ⟨h.1, ?_⟩
  rcases h.2 with h' | ⟨g, cap, cur, rfl, hbg, hg, hr⟩
  · exact .inl h'
  · have hlt : g < w.heap.size := by
      rcases Nat.lt_or_ge g w.heap.size with h' | h'
      · exact h'
      · rw [Array.getElem?_eq_none h'] at hg; cases hg
    exact .inr ⟨g, cap, cur, rfl, hbg, by rw [hb.block g hlt]; exact hg, hr⟩
theorem Own.mono (h : Own f t w base v l) {base' : Nat} (hb : base' ≤ base) : Own f t w base' v l := by
  refine ⟨h.1, ?_⟩
  rcases h.2 with h' | ⟨g, cap, cur, e, hbg, hr⟩
  · exact .inl h'
  · exact .inr ⟨g, cap, cur, e, Nat.le_trans hb hbg, hr⟩
theorem Own.made (f : α → Value) (t : TypeId) (w : World) (arr : Array Value) (n : Nat) (ha : arr.size = n) (hn : n ≤ 1000000) : Own f t (w.alloc (.cells arr t)) w.heap.size (.slice (some ⟨w.heap.size, 0, none⟩) 0 n) [] := World.ownsRow_made w _ n (Nat.le_refl _) (by unfold maxLen; omega) (by omega)
theorem Own.lit (f : α → Value) (t : TypeId) (w : World) (l : List α) (hl : l.length ≤ 1000) : Own f t (w.alloc (.cells (l.map f).toArray t)) w.heap.size (.slice (some ⟨w.heap.size, 0, none⟩) l.length l.length) l := by
  have := World.ownsRow_lit (e := t) (size := 1) w (l.map f).toArray l.length (Nat.le_refl _) (by unfold maxLen; omega) (by simp)
  simpa [Own] using this
theorem Own.lt (h : Own f t w base v l) : ∀ k, v.ownBlock = some k → base ≤ k := fun k hk => (World.ownsRow.lt h k hk).1
end

theorem info_u8 : (Tryd.prog.info? 5).map (fun i => (i.zero, i.size, i.bytes)) = some (some (.int .u8 0), 1, 1) := by kernel_rfl
theorem info_i64 : (Tryd.prog.info? 3).map (fun i => (i.zero, i.size, i.bytes)) = some (some (.int .i64 0), 1, 8) := by kernel_rfl
abbrev BOwn (w : World) (base : Nat) (v : Value) (l : List UInt8) : Prop := Own fb 5 w base v l
abbrev IOwn (w : World) (base : Nat) (v : Value) (l : List Int) : Prop := Own fi 3 w base v l

/-- append of one slice to another of the call's own, whatever the element's type. -/
theorem append_gen {α : Type} {f : α → Value} {t ts : TypeId} {z : Value} {bytes : Nat} (hf : ∀ x, (f x).oneCell' = true) (hu : Tryd.prog.underlying ts = some (.slice t)) (hin : (Tryd.prog.info? t).map (fun i => (i.zero, i.size, i.bytes)) = some (some z, 1, bytes)) (hz : z.cells.size = 1) (hby : bytes ≤ 16)
    {w : World} {base : Nat} {v : Value} {xs : List α} (hown : Own f t w base v xs) {x : Value} {l : List α} (hx : Row f w x l) (hlen : xs.length + l.length ≤ 1000000) (hbase : base ≤ w.heap.size) :
    ∃ v' w', (Builtin.append_ #[ts, ts] ts #[v, x]).run Tryd.prog w = .ok v' w' ∧ Own f t w' base v' (xs ++ l) ∧ w.grownBy w' v.ownBlock := by
  obtain ⟨i0, hi, hz0, hz1, hz2⟩ := info_parts hin
  have hx0 := hx
  obtain ⟨a, cap, rfl, h1, h2, h3⟩ := hx
  cases a with
  | none =>
    have hl : l = [] := by
      rcases List.eq_nil_or_concat l with h | ⟨l', c, h⟩
      · exact h
      · obtain ⟨b, off, he, _⟩ := h3 (by rw [h]; simp)
        cases he
    subst hl
    refine ⟨v, w, ?_, by rw [List.append_nil]; exact hown, ⟨rfl, rfl, rfl, Nat.le_refl _, fun _ _ _ => rfl⟩⟩
    rcases hown.2 with ⟨rfl, hl⟩ | ⟨g, cap', cur, rfl, _, _, hnc, _⟩
    · simp [Builtin.append_, run_underlying hu, sizeOf, typeInfo, hi, Builtin.lenOf, Builtin.firstCells]
    · simp [Builtin.append_, run_underlying hu, sizeOf, typeInfo, hi, Builtin.lenOf, Builtin.firstCells, hnc, storeCells]
  | some a =>
    obtain ⟨_, hc⟩ := Row.cells hx0
    obtain ⟨v', w', hr, ho, hg, _⟩ := run_append_own (P := Tryd.prog) w base ts ts t i0 z 1 bytes hu hi hz0 hz1 hz2 hz (by decide) v xs.length (xs.map f) hown a l.length cap (l.map f) (by simp) hc
      (by intro u hu; obtain ⟨y, _, rfl⟩ := List.mem_map.1 hu; exact hf y) (by unfold maxLen; omega) (Nat.le_trans (Nat.mul_le_mul hlen hby) (by decide)) hbase
    refine ⟨v', w', hr, ?_, hg⟩
    unfold Own
    rw [List.length_append, List.map_append]
    exact ho
theorem append_run {w : World} {base : Nat} {v : Value} {xs : List UInt8} (hown : BOwn w base v xs) {x : Value} {l : List UInt8} (hx : BRow w x l) (hlen : xs.length + l.length ≤ 1000000) (hbase : base ≤ w.heap.size) :
    ∃ v' w', (Builtin.append_ #[45, 45] 45 #[v, x]).run Tryd.prog w = .ok v' w' ∧ BOwn w' base v' (xs ++ l) ∧ w.grownBy w' v.ownBlock :=
  append_gen (fun _ => rfl) Tryd.underlying45 info_u8 rfl (by decide) hown hx hlen hbase
theorem appendI_run {w : World} {base : Nat} {v : Value} {xs : List Int} (hown : IOwn w base v xs) {x : Value} {l : List Int} (hx : IRow w x l) (hlen : xs.length + l.length ≤ 1000000) (hbase : base ≤ w.heap.size) :
    ∃ v' w', (Builtin.append_ #[56, 56] 56 #[v, x]).run Tryd.prog w = .ok v' w' ∧ IOwn w' base v' (xs ++ l) ∧ w.grownBy w' v.ownBlock :=
  append_gen (fun _ => rfl) Tryd.underlying56 info_i64 rfl (by decide) hown hx hlen hbase
theorem wpList_append_run {ts : TypeId} {w w' : World} {v x v' : Value} (hr : (Builtin.append_ #[ts, ts] ts #[v, x]).run Tryd.prog w = .ok v' w') {ops : Array Oper} {rest : List Oper} {o : Oper} {a : Act} {Q : Exit → Act → World → Prop} (hgd : o.guard = none) (s y : Operand)
    (ho : o.op = .call { callee := .builtin .append, args := #[s, y], argTypes := #[ts, ts] }) (hty : o.type = ts) (hs : a.eval s = v) (hx : a.eval y = x)
    (h : wpList Tryd.prog ops Q rest (a.put o.dst v') w') : wpList Tryd.prog ops Q (o :: rest) a w := by
  refine wpList_plain hgd fun K hK => ?_
  unfold Oper.wp execOp
  simp only [ho, resolve, invoke, builtin, Sem.run_bind, Sem.run_pure, Result.andThen_ok, List.map_toArray, List.map_cons, List.map_nil, hs, hx, hty, hr]
  exact hK _ _ h
/-- append under a guard that holds. -/
theorem wpList_append_on {ts : TypeId} {w w' : World} {v x v' : Value} (hr : (Builtin.append_ #[ts, ts] ts #[v, x]).run Tryd.prog w = .ok v' w') {ops : Array Oper} {rest : List Oper} {o : Oper} {a : Act} {Q : Exit → Act → World → Prop} (hw : Region.wanted o (yielded ops a.tmps) = true) (s y : Operand)
    (ho : o.op = .call { callee := .builtin .append, args := #[s, y], argTypes := #[ts, ts] }) (hty : o.type = ts) (hs : a.eval s = v) (hx : a.eval y = x)
    (h : wpList Tryd.prog ops Q rest (a.put o.dst v') w') : wpList Tryd.prog ops Q (o :: rest) a w := by
  refine wpList_step fun K hK => ?_
  rw [if_pos hw]
  unfold Oper.wp execOp
  simp only [ho, resolve, invoke, builtin, Sem.run_bind, Sem.run_pure, Result.andThen_ok, List.map_toArray, List.map_cons, List.map_nil, hs, hx, hty, hr]
  exact hK _ _ h
/-- make([]byte, 0, n), make([]int, 0, n). -/
theorem make_cap {t ts : TypeId} {z : Value} {bytes : Nat} (hu : Tryd.prog.underlying ts = some (.slice t)) (hin : (Tryd.prog.info? t).map (fun i => (i.zero, i.size, i.bytes)) = some (some z, 1, bytes)) (hby : bytes ≤ 16) (n : Nat) (hn : n ≤ 1000000) (w : World) :
    (Instr.makeSlice ts (.int .i64 0) (.int .i64 (n : Int))).run Tryd.prog w = .ok (.slice (some ⟨w.heap.size, 0, none⟩) 0 n) (w.alloc (.cells (madeCells z.cells n) t)) := by
  obtain ⟨i0, hi, hz0, hz1, hz2⟩ := info_parts hin
  have hbn : (i0.bytes : Int) * (n : Int) ≤ 1000000 * 16 := by
    rw [hz2]
    have := Nat.mul_le_mul hby hn
    have e : ((bytes * n : Nat) : Int) = (bytes : Int) * (n : Int) := by simp
    omega
  have h := run_make (P := Tryd.prog) w ts t i0 z hu hi hz0 .i64 .i64 0 (n : Int) (by omega) (by omega) (by omega) (by omega)
  rw [hz1] at h
  simpa using h
theorem makeB (n : Nat) (hn : n ≤ 1000000) (w : World) : (Instr.makeSlice 45 (.int .i64 0) (.int .i64 (n : Int))).run Tryd.prog w = .ok (.slice (some ⟨w.heap.size, 0, none⟩) 0 n) (w.alloc (.cells (madeCells #[.int .u8 0] n) 5)) := make_cap Tryd.underlying45 info_u8 (by decide) n hn w
theorem makeI (n : Nat) (hn : n ≤ 1000000) (w : World) : (Instr.makeSlice 56 (.int .i64 0) (.int .i64 (n : Int))).run Tryd.prog w = .ok (.slice (some ⟨w.heap.size, 0, none⟩) 0 n) (w.alloc (.cells (madeCells #[.int .i64 0] n) 3)) := make_cap Tryd.underlying56 info_i64 (by decide) n hn w

/- Texts. -/
def strOf (l : List UInt8) : ByteArray := ⟨l.toArray⟩
theorem strOf_list (l : List UInt8) : (strOf l).toList = l := by rw [ByteArray.toList_eq]; rfl
theorem run_loadCells_zero (w : World) (a : Addr) : (loadCells a 0).run Tryd.prog w = .ok #[] w := by
  simp [loadCells, loadCellsFrom]
theorem run_string {w : World} {v : Value} {l : List UInt8} (h : BRow w v l) : (convert 45 9 v).run Tryd.prog w = .ok (.string (strOf l)) w := by
  obtain ⟨a, cap, rfl, h1, h2, h3⟩ := h
  by_cases hl : l = []
  · subst hl
    cases a with
    | none => rw [run_convert_bytes_nil w 45 5 Tryd.underlying45 Tryd.underlying5 _ _ 9 Tryd.underlying9]; rfl
    | some a =>
      rw [run_convert_bytes_string w 45 9 5 _ _ _ Tryd.underlying45 Tryd.underlying5 Tryd.underlying9]
      exact run_bytesToString w a 0 cap [] (run_loadCells_zero w a)
  · obtain ⟨b, off, rfl, hlt, hc⟩ := h3 hl
    have hx := run_convert_bytes_arg (P := Tryd.prog) w 45 5 Tryd.underlying45 Tryd.underlying5 b off l.length cap (l.map fun c => (c.toNat : Int)) (by simp)
      (fun i hi => by rw [hc i hi]; simp [List.getD_eq_getElem?_getD, hi]) 9 Tryd.underlying9
    have e : strOfNums (l.map fun c => (c.toNat : Int)) = strOf l := by simp [strOf, strOfNums, Function.comp_def]
    rw [hx, e]

end Go.Proofs.YtilamfbpbgcnpaaDoor
