/- Texts of one proof, laid behind one another. -/
import Derived.Test.YtkpkfcoljccimaaDoorRows
import Derived.WalkKit
import Derived.WalkSpells
import Derived.WalkLawsBesides
import Derived.Below
import Derived.OwnWalk
import Derived.OpenShut
import Derived.Laws.MakeOwn
import Derived.Laws.BytesArg
import Derived.Laws.OwnMore
import Derived.Laws.BitsAllLaws
import Derived.BigQuiet
/- Slices of bytes and of ints: read, made, appended to, copied, held against each other. For every seat: nothing of the program's own chapters. -/
namespace Go.Proofs.YtkpkfcoljccimaaDoor
open Go.RowKit
set_option linter.unusedVariables false
set_option maxRecDepth 20000
theorem hid {p : Prop} (h : p) : Hid p := h
theorem ret_int {k : IntKind} {a b : Int} (h : a = b) : Ending.returned (.int k a) = .returned (.int k b) := by rw [h]
theorem byte_lt (c : UInt8) : c.toNat < 256 := c.toNat_lt
theorem below_trans {a b c : World} (h : Below a.heap.size a b) (k : Below b.heap.size b c) : Below a.heap.size a c := h.trans (k.mono h.size)
theorem addr_add (b off i : Nat) : (⟨b, off, none⟩ : Addr).add i = ⟨b, off + i, none⟩ := by
  unfold Addr.add; split
  · rename_i h; subst h; rfl
  · rfl

/-- v is a slice of values of one cell that reads as l, each as f tells it. -/
def Row {α : Type} (f : α → Value) (w : World) (v : Value) (l : List α) : Prop :=
  ∃ a cap, v = .slice a l.length cap ∧ l.length ≤ cap ∧ cap ≤ maxLen ∧ (l ≠ [] → ∃ b off, a = some ⟨b, off, none⟩ ∧ b < w.heap.size ∧ ∀ i (h : i < l.length), w.cell? ⟨b, off + i, none⟩ = some (f l[i]))
abbrev fb (c : UInt8) : Value := .int .u8 (c.toNat : Int)
abbrev fi (x : Int) : Value := .int .i64 x
abbrev BRow (w : World) (v : Value) (l : List UInt8) : Prop := Row fb w v l
abbrev IRow (w : World) (v : Value) (l : List Int) : Prop := Row fi w v l
section
variable {α : Type} {f : α → Value} {w w' : World} {v : Value} {l : List α}
theorem Row.below (h : Row f w v l) (hb : Below w.heap.size w w') : Row f w' v l := by
  obtain ⟨a, cap, rfl, h1, h2, h3⟩ := h
  refine ⟨a, cap, rfl, h1, h2, fun hl => ?_⟩
  obtain ⟨b, off, rfl, hlt, hc⟩ := h3 hl
  exact ⟨b, off, rfl, by have := hb.size; omega, fun i hi => (hb.cell (p := ⟨b, off + i, none⟩) hlt).trans (hc i hi)⟩
theorem Row.drew (h : Row f w v l) : Row f w.drew v l := h
theorem Row.nil (f : α → Value) (w : World) : Row f w (.slice none 0 0) [] := ⟨none, 0, rfl, Nat.le_refl _, Nat.zero_le _, fun h => absurd rfl h⟩
theorem Row.lit (f : α → Value) (w : World) (l : List α) (t : TypeId) (fr : Nat × Nat) (h : l.length ≤ 1000) : Row f (w.alloc (.cells (l.map f).toArray t fr)) (.slice (some ⟨w.heap.size, 0, none⟩) l.length l.length) l := by
  refine ⟨_, _, rfl, Nat.le_refl _, by unfold maxLen; omega, fun _ => ⟨_, _, rfl, by simp, fun i hi => ?_⟩⟩
  rw [World.cell?_alloc_mark]
  simp [hi]
/-- What stands from a place on. -/
theorem Row.from {a : Option Addr} {n cap : Nat} (h : Row f w (.slice a n cap) l) (k : Nat) (hk : k < l.length) : ∃ b off, a = some ⟨b, off, none⟩ ∧ n = l.length ∧ n ≤ cap ∧ cap ≤ maxLen ∧ Row f w (.slice (some ⟨b, off + k, none⟩) (l.length - k) (cap - k)) (l.drop k) := by
  obtain ⟨a', cap', he, h1, h2, h3⟩ := h
  injection he with e1 e2 e3
  subst e1 e2 e3
  obtain ⟨b, off, rfl, hlt, hc⟩ := h3 (by intro h; simp [h] at hk)
  refine ⟨b, off, rfl, rfl, h1, h2, some ⟨b, off + k, none⟩, cap - k, by rw [List.length_drop], by rw [List.length_drop]; omega, by omega, fun _ => ⟨b, off + k, rfl, hlt, fun i hi => ?_⟩⟩
  rw [List.length_drop] at hi
  have := hc (k + i) (by omega)
  rw [Nat.add_assoc, this, List.getElem_drop]
theorem Row.cells {a : Addr} {n cap : Nat} (h : Row f w (.slice (some a) n cap) l) : n = l.length ∧ ∀ j u, (l.map f)[j]? = some u → w.cell? (a.add j) = some u := by
  obtain ⟨a', cap', he, h1, h2, h3⟩ := h
  injection he with e1 e2 e3
  subst e1 e2 e3
  refine ⟨rfl, fun j u hu => ?_⟩
  have hj : j < l.length := by
    rcases Nat.lt_or_ge j l.length with h | h
    · exact h
    · rw [List.getElem?_eq_none (by simpa using h)] at hu; cases hu
  obtain ⟨b, off, he, hlt, hc⟩ := h3 (by intro h; simp [h] at hj)
  injection he with he
  subst he
  rw [addr_add, hc j hj]
  simpa [hj] using hu

/-- v is a slice of the call's own (its blocks from base on) that reads as l. -/
def Own (f : α → Value) (t : TypeId) (w : World) (base : Nat) (v : Value) (l : List α) : Prop := w.ownsRow base t 1 v l.length (l.map f)
variable {t : TypeId} {base : Nat}
theorem Own.row (h : Own f t w base v l) : Row f w v l := by
  rcases h.2 with ⟨rfl, hn⟩ | ⟨g, cap, cur, rfl, hb, hg, hnc, hcm, hcs, htake⟩
  · have : l = [] := List.eq_nil_of_length_eq_zero hn
    subst this
    exact Row.nil f w
  · refine ⟨_, cap, rfl, hnc, hcm, fun _ => ⟨g, 0, rfl, ?_, fun i hi => ?_⟩⟩
    · rcases Nat.lt_or_ge g w.heap.size with h' | h'
      · exact h'
      · rw [Array.getElem?_eq_none h'] at hg; cases hg
    · have hc := World.ownsRow.cells h (g := g) rfl i (f l[i]) (by simp [hi])
      rw [addr_add] at hc
      exact hc
theorem Own.nil (f : α → Value) (t : TypeId) (w : World) (base : Nat) : Own f t w base (.slice none 0 0) [] := World.ownsRow_nil w base _ _
theorem Own.drew (h : Own f t w base v l) : Own f t w.drew base v l := h
theorem Own.alloc (h : Own f t w base v l) (o : Obj) : Own f t (w.alloc o) base v l := World.ownsRow.alloc h o
theorem Own.below (h : Own f t w base v l) (hb : Below w.heap.size w w') : Own f t w' base v l := by
  refine ⟨h.1, ?_⟩
  rcases h.2 with h' | ⟨g, cap, cur, rfl, hbg, hg, hr⟩
  · exact .inl h'
  · have hlt : g < w.heap.size := by
      rcases Nat.lt_or_ge g w.heap.size with h' | h'
      · exact h'
      · rw [Array.getElem?_eq_none h'] at hg; cases hg
    exact .inr ⟨g, cap, cur, rfl, hbg, by rw [hb.block g hlt]; exact hg, hr⟩
theorem Own.mono (h : Own f t w base v l) {base' : Nat} (hb : base' ≤ base) : Own f t w base' v l := by
  refine ⟨h.1, ?_⟩
  rcases h.2 with h' | ⟨g, cap, cur, e, hbg, hr⟩
  · exact .inl h'
  · exact .inr ⟨g, cap, cur, e, Nat.le_trans hb hbg, hr⟩
theorem Own.made (f : α → Value) (t : TypeId) (w : World) (arr : Array Value) (n : Nat) (ha : arr.size = n) (hn : n ≤ 1000000) : Own f t (w.alloc (.cells arr t)) w.heap.size (.slice (some ⟨w.heap.size, 0, none⟩) 0 n) [] := World.ownsRow_made w _ n (Nat.le_refl _) (by unfold maxLen; omega) (by omega)
theorem Own.lit (f : α → Value) (t : TypeId) (w : World) (l : List α) (hl : l.length ≤ 1000) : Own f t (w.alloc (.cells (l.map f).toArray t)) w.heap.size (.slice (some ⟨w.heap.size, 0, none⟩) l.length l.length) l := by
  have := World.ownsRow_lit (e := t) (size := 1) w (l.map f).toArray l.length (Nat.le_refl _) (by unfold maxLen; omega) (by simp)
  simpa [Own] using this
theorem Own.lt (h : Own f t w base v l) : ∀ k, v.ownBlock = some k → base ≤ k := fun k hk => (World.ownsRow.lt h k hk).1
end

theorem info_u8 : (Tryd.prog.info? 5).map (fun i => (i.zero, i.size, i.bytes)) = some (some (.int .u8 0), 1, 1) := by kernel_rfl
theorem info_i64 : (Tryd.prog.info? 3).map (fun i => (i.zero, i.size, i.bytes)) = some (some (.int .i64 0), 1, 8) := by kernel_rfl
abbrev BOwn (w : World) (base : Nat) (v : Value) (l : List UInt8) : Prop := Own fb 5 w base v l
abbrev IOwn (w : World) (base : Nat) (v : Value) (l : List Int) : Prop := Own fi 3 w base v l

/-- append of one slice to another of the call's own, whatever the element's type. -/
theorem append_gen {α : Type} {f : α → Value} {t ts : TypeId} {z : Value} {bytes : Nat} (hf : ∀ x, (f x).oneCell' = true) (hu : Tryd.prog.underlying ts = some (.slice t)) (hin : (Tryd.prog.info? t).map (fun i => (i.zero, i.size, i.bytes)) = some (some z, 1, bytes)) (hz : z.cells.size = 1) (hby : bytes ≤ 16)
    {w : World} {base : Nat} {v : Value} {xs : List α} (hown : Own f t w base v xs) {x : Value} {l : List α} (hx : Row f w x l) (hlen : xs.length + l.length ≤ 1000000) (hbase : base ≤ w.heap.size) :
    ∃ v' w', (Builtin.append_ #[ts, ts] ts #[v, x]).run Tryd.prog w = .ok v' w' ∧ Own f t w' base v' (xs ++ l) ∧ w.grownBy w' v.ownBlock := by
  obtain ⟨i0, hi, hz0, hz1, hz2⟩ := info_parts hin
  have hx0 := hx
  obtain ⟨a, cap, rfl, h1, h2, h3⟩ := hx
  cases a with
  | none =>
    have hl : l = [] := by
      rcases List.eq_nil_or_concat l with h | ⟨l', c, h⟩
      · exact h
      · obtain ⟨b, off, he, _⟩ := h3 (by rw [h]; simp)
        cases he
    subst hl
    refine ⟨v, w, ?_, by rw [List.append_nil]; exact hown, ⟨rfl, rfl, rfl, Nat.le_refl _, fun _ _ _ => rfl⟩⟩
    rcases hown.2 with ⟨rfl, hl⟩ | ⟨g, cap', cur, rfl, _, _, hnc, _⟩
    · simp [Builtin.append_, run_underlying hu, sizeOf, typeInfo, hi, Builtin.lenOf, Builtin.firstCells]
    · simp [Builtin.append_, run_underlying hu, sizeOf, typeInfo, hi, Builtin.lenOf, Builtin.firstCells, hnc, storeCells]
  | some a =>
    obtain ⟨_, hc⟩ := Row.cells hx0
    obtain ⟨v', w', hr, ho, hg, _⟩ := run_append_own (P := Tryd.prog) w base ts ts t i0 z 1 bytes hu hi hz0 hz1 hz2 hz (by decide) v xs.length (xs.map f) hown a l.length cap (l.map f) (by simp) hc
      (by intro u hu; obtain ⟨y, _, rfl⟩ := List.mem_map.1 hu; exact hf y) (by unfold maxLen; omega) (Nat.le_trans (Nat.mul_le_mul hlen hby) (by decide)) hbase
    refine ⟨v', w', hr, ?_, hg⟩
    unfold Own
    rw [List.length_append, List.map_append]
    exact ho
theorem append_run {w : World} {base : Nat} {v : Value} {xs : List UInt8} (hown : BOwn w base v xs) {x : Value} {l : List UInt8} (hx : BRow w x l) (hlen : xs.length + l.length ≤ 1000000) (hbase : base ≤ w.heap.size) :
    ∃ v' w', (Builtin.append_ #[57, 57] 57 #[v, x]).run Tryd.prog w = .ok v' w' ∧ BOwn w' base v' (xs ++ l) ∧ w.grownBy w' v.ownBlock :=
  append_gen (fun _ => rfl) Tryd.underlying57 info_u8 rfl (by decide) hown hx hlen hbase
theorem appendI_run {w : World} {base : Nat} {v : Value} {xs : List Int} (hown : IOwn w base v xs) {x : Value} {l : List Int} (hx : IRow w x l) (hlen : xs.length + l.length ≤ 1000000) (hbase : base ≤ w.heap.size) :
    ∃ v' w', (Builtin.append_ #[22, 22] 22 #[v, x]).run Tryd.prog w = .ok v' w' ∧ IOwn w' base v' (xs ++ l) ∧ w.grownBy w' v.ownBlock :=
  append_gen (fun _ => rfl) Tryd.underlying22 info_i64 rfl (by decide) hown hx hlen hbase
theorem wpList_append_run {ts : TypeId} {w w' : World} {v x v' : Value} (hr : (Builtin.append_ #[ts, ts] ts #[v, x]).run Tryd.prog w = .ok v' w') {ops : Array Oper} {rest : List Oper} {o : Oper} {a : Act} {Q : Exit → Act → World → Prop} (hgd : o.guard = none) (s y : Operand)
    (ho : o.op = .call { callee := .builtin .append, args := #[s, y], argTypes := #[ts, ts] }) (hty : o.type = ts) (hs : a.eval s = v) (hx : a.eval y = x)
    (h : wpList Tryd.prog ops Q rest (a.put o.dst v') w') : wpList Tryd.prog ops Q (o :: rest) a w := by
  refine wpList_plain hgd fun K hK => ?_
  unfold Oper.wp execOp
  simp only [ho, resolve, invoke, builtin, Sem.run_bind, Sem.run_pure, Result.andThen_ok, List.map_toArray, List.map_cons, List.map_nil, hs, hx, hty, hr]
  exact hK _ _ h
/-- append under a guard that holds. -/
theorem wpList_append_on {ts : TypeId} {w w' : World} {v x v' : Value} (hr : (Builtin.append_ #[ts, ts] ts #[v, x]).run Tryd.prog w = .ok v' w') {ops : Array Oper} {rest : List Oper} {o : Oper} {a : Act} {Q : Exit → Act → World → Prop} (hw : Region.wanted o (yielded ops a.tmps) = true) (s y : Operand)
    (ho : o.op = .call { callee := .builtin .append, args := #[s, y], argTypes := #[ts, ts] }) (hty : o.type = ts) (hs : a.eval s = v) (hx : a.eval y = x)
    (h : wpList Tryd.prog ops Q rest (a.put o.dst v') w') : wpList Tryd.prog ops Q (o :: rest) a w := by
  refine wpList_step fun K hK => ?_
  rw [if_pos hw]
  unfold Oper.wp execOp
  simp only [ho, resolve, invoke, builtin, Sem.run_bind, Sem.run_pure, Result.andThen_ok, List.map_toArray, List.map_cons, List.map_nil, hs, hx, hty, hr]
  exact hK _ _ h
/-- make([]byte, 0, n), make([]int, 0, n). -/
theorem make_cap {t ts : TypeId} {z : Value} {bytes : Nat} (hu : Tryd.prog.underlying ts = some (.slice t)) (hin : (Tryd.prog.info? t).map (fun i => (i.zero, i.size, i.bytes)) = some (some z, 1, bytes)) (hby : bytes ≤ 16) (n : Nat) (hn : n ≤ 1000000) (w : World) :
    (Instr.makeSlice ts (.int .i64 0) (.int .i64 (n : Int))).run Tryd.prog w = .ok (.slice (some ⟨w.heap.size, 0, none⟩) 0 n) (w.alloc (.cells (madeCells z.cells n) t)) := by
  obtain ⟨i0, hi, hz0, hz1, hz2⟩ := info_parts hin
  have hbn : (i0.bytes : Int) * (n : Int) ≤ 1000000 * 16 := by
    rw [hz2]
    have := Nat.mul_le_mul hby hn
    have e : ((bytes * n : Nat) : Int) = (bytes : Int) * (n : Int) := by simp
    omega
  have h := run_make (P := Tryd.prog) w ts t i0 z hu hi hz0 .i64 .i64 0 (n : Int) (by omega) (by omega) (by omega) (by omega)
  rw [hz1] at h
  simpa using h
theorem makeB (n : Nat) (hn : n ≤ 1000000) (w : World) : (Instr.makeSlice 57 (.int .i64 0) (.int .i64 (n : Int))).run Tryd.prog w = .ok (.slice (some ⟨w.heap.size, 0, none⟩) 0 n) (w.alloc (.cells (madeCells #[.int .u8 0] n) 5)) := make_cap Tryd.underlying57 info_u8 (by decide) n hn w
theorem makeI (n : Nat) (hn : n ≤ 1000000) (w : World) : (Instr.makeSlice 22 (.int .i64 0) (.int .i64 (n : Int))).run Tryd.prog w = .ok (.slice (some ⟨w.heap.size, 0, none⟩) 0 n) (w.alloc (.cells (madeCells #[.int .i64 0] n) 3)) := make_cap Tryd.underlying22 info_i64 (by decide) n hn w

/- Texts. -/
def strOf (l : List UInt8) : ByteArray := ⟨l.toArray⟩
theorem strOf_list (l : List UInt8) : (strOf l).toList = l := by rw [ByteArray.toList_eq]; rfl
theorem run_loadCells_zero (w : World) (a : Addr) : (loadCells a 0).run Tryd.prog w = .ok #[] w := by
  simp [loadCells, loadCellsFrom]
theorem run_string {w : World} {v : Value} {l : List UInt8} (h : BRow w v l) : (convert 57 9 v).run Tryd.prog w = .ok (.string (strOf l)) w := by
  obtain ⟨a, cap, rfl, h1, h2, h3⟩ := h
  by_cases hl : l = []
  · subst hl
    cases a with
    | none => rw [run_convert_bytes_nil w 57 5 Tryd.underlying57 Tryd.underlying5 _ _ 9 Tryd.underlying9]; rfl
    | some a =>
      rw [run_convert_bytes_string w 57 9 5 _ _ _ Tryd.underlying57 Tryd.underlying5 Tryd.underlying9]
      exact run_bytesToString w a 0 cap [] (run_loadCells_zero w a)
  · obtain ⟨b, off, rfl, hlt, hc⟩ := h3 hl
    have hx := run_convert_bytes_arg (P := Tryd.prog) w 57 5 Tryd.underlying57 Tryd.underlying5 b off l.length cap (l.map fun c => (c.toNat : Int)) (by simp)
      (fun i hi => by rw [hc i hi]; simp [List.getD_eq_getElem?_getD, hi]) 9 Tryd.underlying9
    have e : strOfNums (l.map fun c => (c.toNat : Int)) = strOf l := by simp [strOf, strOfNums, Function.comp_def]
    rw [hx, e]

set_option maxHeartbeats 400000 in
theorem copyI_calls (v : Value) (l : List Int) (w : World) (hv : IRow w v l) (hl : l.length ≤ 100000) :
    Calls Tryd.prog 6 #[v] w fun e w' => (∃ v', e = .returned v' ∧ IOwn w' w.heap.size v' l) ∧ Below w.heap.size w w' := by
  have hb0 : Below w.heap.size w (w.alloc (.cells #[] 3)) := (Below.refl _ _).alloc (Nat.le_refl _) _
  obtain ⟨v', w', hr, ho, hg⟩ := appendI_run (Own.made fi 3 w #[] 0 rfl (by decide)) (hv.below hb0) (by simpa using (by omega : l.length ≤ 1000000)) (by simp)
  have HO := hid ho
  have HG := hid (hb0.grown hg (by simp) (by intro k hk; simp [Value.ownBlock] at hk; omega))
  clear ho hg hb0 hv
  rw [List.nil_append] at HO
  go_enter Tryd.func6, Tryd.ntmps6
  go_wp2_with (at_builtin; refine wpList_append_run hr rfl _ _ rfl rfl rfl rfl ?_)
  go_ret
  exact ⟨⟨_, rfl, HO.out⟩, HG.out⟩
end Go.Proofs.YtkpkfcoljccimaaDoor
/- Plain facts of UTF-8: signs as bytes, bytes as signs. Nothing of the program. -/
namespace Go.Proofs.YtkpkfcoljccimaaDoor
set_option linter.unusedVariables false
set_option maxRecDepth 20000

/-- Is it the number of a sign? -/
def isS (c : Int) : Bool := decide (0 ≤ c ∧ c ≤ 1114111 ∧ (c < 55296 ∨ 57343 < c))
theorem isS_iff {c : Int} : isS c = true ↔ (0 ≤ c ∧ c ≤ 1114111 ∧ (c < 55296 ∨ 57343 < c)) := by simp [isS]
def b8 (n : Nat) : UInt8 := UInt8.ofNat n
theorem b8_nat (n : Nat) (h : n < 256) : (b8 n).toNat = n := by simp [b8]; omega
theorem b8_eq {n : Nat} {x : UInt8} (h : n = x.toNat) : b8 n = x := by subst h; simp [b8]
/-- A sign as bytes. -/
def encN (c : Nat) : List UInt8 :=
  if c < 128 then [b8 c]
  else if c < 2048 then [b8 (192 + c / 64), b8 (128 + c % 64)]
  else if c < 65536 then [b8 (224 + c / 4096), b8 (128 + c / 64 % 64), b8 (128 + c % 64)]
  else [b8 (240 + c / 262144), b8 (128 + c / 4096 % 64), b8 (128 + c / 64 % 64), b8 (128 + c % 64)]
theorem enc_len (c : Nat) : 1 ≤ (encN c).length ∧ (encN c).length ≤ 4 := by
  unfold encN; repeat' split
  all_goals simp
/-- What a first byte says: its bits, how many follow, what bounds the next. -/
def st (x : Nat) : Option (Nat × Nat × Nat × Nat) :=
  if x < 128 then some (x, 0, 128, 191)
  else if x < 194 then none
  else if x < 224 then some (x - 192, 1, 128, 191)
  else if x < 240 then some (x - 224, 2, if x = 224 then 160 else 128, if x = 237 then 159 else 191)
  else if x < 245 then some (x - 240, 3, if x = 240 then 144 else 128, if x = 244 then 143 else 191)
  else none
def goN (c lo hi i : Nat) : List UInt8 → Nat → Nat × Nat × Bool
  | _, 0 => (c, i, true)
  | [], _ + 1 => (65533, i, false)
  | b :: r, n + 1 => if b.toNat < lo ∨ hi < b.toNat then (65533, i, false) else goN (c * 64 + b.toNat % 64) 128 191 (i + 1) r n
/-- What bytes begin with: a sign, how many bytes, whether it is whole. -/
def nextN : List UInt8 → Nat × Nat × Bool
  | [] => (65533, 1, false)
  | x :: r => match st x.toNat with
    | none => (65533, 1, false)
    | some (c, n, lo, hi) => goN c lo hi 1 r n
theorem next_cons (x : UInt8) (r : List UInt8) {c n lo hi : Nat} (h : st x.toNat = some (c, n, lo, hi)) : nextN (x :: r) = goN c lo hi 1 r n := by
  simp only [nextN, h]
theorem go_size : ∀ (l : List UInt8) (n c lo hi i : Nat), i ≤ (goN c lo hi i l n).2.1 ∧ (goN c lo hi i l n).2.1 ≤ i + l.length
  | _, 0, c, lo, hi, i => by simp [goN]
  | [], n + 1, c, lo, hi, i => by simp [goN]
  | b :: r, n + 1, c, lo, hi, i => by
    unfold goN
    split
    · simp
    · have := go_size r n (c * 64 + b.toNat % 64) 128 191 (i + 1)
      simp only [List.length_cons]; omega
theorem next_size (l : List UInt8) : 1 ≤ (nextN l).2.1 ∧ (l ≠ [] → (nextN l).2.1 ≤ l.length) := by
  cases l with
  | nil => simp [nextN]
  | cons x r =>
    cases e : st x.toNat with
    | none => simp [nextN, e]
    | some q =>
      obtain ⟨c, n, lo, hi⟩ := q
      have := go_size r n c lo hi 1
      rw [next_cons x r e]
      simp only [List.length_cons]; omega
theorem go_bad : ∀ (l : List UInt8) (n c lo hi i : Nat), (goN c lo hi i l n).2.2 = false → (goN c lo hi i l n).1 = 65533
  | _, 0, c, lo, hi, i => by simp [goN]
  | [], n + 1, c, lo, hi, i => by simp [goN]
  | b :: r, n + 1, c, lo, hi, i => by
    unfold goN
    split
    · simp
    · exact go_bad r n (c * 64 + b.toNat % 64) 128 191 (i + 1)
theorem next_bad (l : List UInt8) (h : (nextN l).2.2 = false) : (nextN l).1 = 65533 := by
  cases l with
  | nil => rfl
  | cons x r =>
    cases e : st x.toNat with
    | none => simp [nextN, e]
    | some q =>
      obtain ⟨c, n, lo, hi⟩ := q
      rw [next_cons x r e] at h ⊢
      exact go_bad _ _ _ _ _ _ h
theorem go_step {b : UInt8} {r : List UInt8} {n c lo hi i : Nat} (h : ¬ (b.toNat < lo ∨ hi < b.toNat)) : goN c lo hi i (b :: r) (n + 1) = goN (c * 64 + b.toNat % 64) 128 191 (i + 1) r n := by
  rw [goN, if_neg h]
theorem go_whole1 {l : List UInt8} {n c lo hi i : Nat} (h : (goN c lo hi i l (n + 1)).2.2 = true) : ∃ b r, l = b :: r ∧ lo ≤ b.toNat ∧ b.toNat ≤ hi ∧ goN c lo hi i l (n + 1) = goN (c * 64 + b.toNat % 64) 128 191 (i + 1) r n := by
  cases l with
  | nil => simp [goN] at h
  | cons b r =>
    by_cases g : b.toNat < lo ∨ hi < b.toNat
    · rw [goN, if_pos g] at h; simp at h
    · exact ⟨b, r, rfl, by omega, by omega, go_step g⟩
/-- A whole sign is a sign, and its bytes are its own. -/
theorem next_whole (l : List UInt8) (h : (nextN l).2.2 = true) : isS ((nextN l).1 : Int) = true ∧ l = encN (nextN l).1 ++ l.drop (nextN l).2.1 := by
  cases l with
  | nil => simp [nextN] at h
  | cons x r =>
    have hx := x.toNat_lt
    by_cases h1 : x.toNat < 128
    · have e : st x.toNat = some (x.toNat, 0, 128, 191) := by unfold st; rw [if_pos h1]
      rw [next_cons x r e] at h ⊢
      rw [goN]
      refine ⟨isS_iff.2 (by omega), ?_⟩
      have q : encN x.toNat = [x] := by unfold encN; rw [if_pos h1, b8_eq rfl]
      simp only [q, List.drop_succ_cons, List.drop_zero, List.cons_append, List.nil_append]
    · by_cases h2 : x.toNat < 194
      · exfalso
        have e : st x.toNat = none := by unfold st; rw [if_neg h1, if_pos h2]
        simp only [nextN, e] at h
        cases h
      · by_cases h3 : x.toNat < 224
        · have e : st x.toNat = some (x.toNat - 192, 1, 128, 191) := by unfold st; rw [if_neg h1, if_neg h2, if_pos h3]
          rw [next_cons x r e] at h ⊢
          obtain ⟨b, r, rfl, l1, u1, e1⟩ := go_whole1 h
          rw [e1, goN]
          have q : encN ((x.toNat - 192) * 64 + b.toNat % 64) = [x, b] := by
            unfold encN
            rw [if_neg (by omega), if_pos (by omega), b8_eq (x := x) (by omega), b8_eq (x := b) (by omega)]
          refine ⟨isS_iff.2 (by omega), ?_⟩
          simp only [q, List.drop_succ_cons, List.drop_zero, List.cons_append, List.nil_append]
        · by_cases h4 : x.toNat < 240
          · have e : st x.toNat = some (x.toNat - 224, 2, if x.toNat = 224 then 160 else 128, if x.toNat = 237 then 159 else 191) := by unfold st; rw [if_neg h1, if_neg h2, if_neg h3, if_pos h4]
            rw [next_cons x r e] at h ⊢
            obtain ⟨b, r, rfl, l1, u1, e1⟩ := go_whole1 h
            rw [e1] at h ⊢
            obtain ⟨b2, r, rfl, l2, u2, e2⟩ := go_whole1 h
            rw [e2, goN]
            have q1 : x.toNat = 224 → 160 ≤ b.toNat := fun h => by rw [if_pos h] at l1; exact l1
            have q2 : x.toNat = 237 → b.toNat ≤ 159 := fun h => by rw [if_pos h] at u1; exact u1
            have l1' : 128 ≤ b.toNat := by split at l1 <;> omega
            have u1' : b.toNat ≤ 191 := by split at u1 <;> omega
            clear l1 u1 e1 e2 e h
            have q : encN (((x.toNat - 224) * 64 + b.toNat % 64) * 64 + b2.toNat % 64) = [x, b, b2] := by
              unfold encN
              rw [if_neg (by omega), if_neg (by omega), if_pos (by omega), b8_eq (x := x) (by omega), b8_eq (x := b) (by omega), b8_eq (x := b2) (by omega)]
            refine ⟨isS_iff.2 (by omega), ?_⟩
            simp only [q, List.drop_succ_cons, List.drop_zero, List.cons_append, List.nil_append]
          · by_cases h5 : x.toNat < 245
            · have e : st x.toNat = some (x.toNat - 240, 3, if x.toNat = 240 then 144 else 128, if x.toNat = 244 then 143 else 191) := by unfold st; rw [if_neg h1, if_neg h2, if_neg h3, if_neg h4, if_pos h5]
              rw [next_cons x r e] at h ⊢
              obtain ⟨b, r, rfl, l1, u1, e1⟩ := go_whole1 h
              rw [e1] at h ⊢
              obtain ⟨b2, r, rfl, l2, u2, e2⟩ := go_whole1 h
              rw [e2] at h ⊢
              obtain ⟨b3, r, rfl, l3, u3, e3⟩ := go_whole1 h
              rw [e3, goN]
              have q1 : x.toNat = 240 → 144 ≤ b.toNat := fun h => by rw [if_pos h] at l1; exact l1
              have q2 : x.toNat = 244 → b.toNat ≤ 143 := fun h => by rw [if_pos h] at u1; exact u1
              have l1' : 128 ≤ b.toNat := by split at l1 <;> omega
              have u1' : b.toNat ≤ 191 := by split at u1 <;> omega
              clear l1 u1 e1 e2 e3 e h
              have q : encN ((((x.toNat - 240) * 64 + b.toNat % 64) * 64 + b2.toNat % 64) * 64 + b3.toNat % 64) = [x, b, b2, b3] := by
                unfold encN
                rw [if_neg (by omega), if_neg (by omega), if_neg (by omega), b8_eq (x := x) (by omega), b8_eq (x := b) (by omega), b8_eq (x := b2) (by omega), b8_eq (x := b3) (by omega)]
              refine ⟨isS_iff.2 (by omega), ?_⟩
              simp only [q, List.drop_succ_cons, List.drop_zero, List.cons_append, List.nil_append]
            · exfalso
              have e : st x.toNat = none := by unfold st; rw [if_neg h1, if_neg h2, if_neg h3, if_neg h4, if_neg h5]
              simp only [nextN, e] at h
              cases h
theorem next_isS (l : List UInt8) : isS ((nextN l).1 : Int) = true := by
  cases h : (nextN l).2.2 with
  | true => exact (next_whole l h).1
  | false => rw [next_bad l h]; decide
/-- A sign's own bytes are read as it. -/
theorem next_enc (c : Nat) (r : List UInt8) (h : isS (c : Int) = true) : nextN (encN c ++ r) = (c, (encN c).length, true) := by
  have hs := isS_iff.1 h
  by_cases h1 : c < 128
  · have q : encN c = [b8 c] := by unfold encN; rw [if_pos h1]
    rw [q]
    have e : st (b8 c).toNat = some (c, 0, 128, 191) := by rw [b8_nat _ (by omega)]; unfold st; rw [if_pos h1]
    show nextN (b8 c :: r) = _
    rw [next_cons _ _ e, goN]; rfl
  · by_cases h2 : c < 2048
    · have q : encN c = [b8 (192 + c / 64), b8 (128 + c % 64)] := by unfold encN; rw [if_neg h1, if_pos h2]
      rw [q]
      have e : st (b8 (192 + c / 64)).toNat = some (c / 64, 1, 128, 191) := by
        rw [b8_nat _ (by omega)]; unfold st; rw [if_neg (by omega), if_neg (by omega), if_pos (by omega), show 192 + c / 64 - 192 = c / 64 by omega]
      show nextN (b8 (192 + c / 64) :: b8 (128 + c % 64) :: r) = _
      rw [next_cons _ _ e, go_step (by rw [b8_nat _ (by omega)]; omega), goN, b8_nat _ (by omega), show c / 64 * 64 + (128 + c % 64) % 64 = c by omega]; rfl
    · by_cases h3 : c < 65536
      · have q : encN c = [b8 (224 + c / 4096), b8 (128 + c / 64 % 64), b8 (128 + c % 64)] := by unfold encN; rw [if_neg h1, if_neg h2, if_pos h3]
        rw [q]
        have e : st (b8 (224 + c / 4096)).toNat = some (c / 4096, 2, if 224 + c / 4096 = 224 then 160 else 128, if 224 + c / 4096 = 237 then 159 else 191) := by
          rw [b8_nat _ (by omega)]; unfold st; rw [if_neg (by omega), if_neg (by omega), if_neg (by omega), if_pos (by omega), show 224 + c / 4096 - 224 = c / 4096 by omega]
        show nextN (b8 (224 + c / 4096) :: b8 (128 + c / 64 % 64) :: b8 (128 + c % 64) :: r) = _
        have g1 : (b8 (128 + c / 64 % 64)).toNat = 128 + c / 64 % 64 := b8_nat _ (by omega)
        have g2 : (b8 (128 + c % 64)).toNat = 128 + c % 64 := b8_nat _ (by omega)
        rw [next_cons _ _ e, go_step (by rw [g1]; split <;> split <;> omega), go_step (by rw [g2]; omega), goN, g1, g2,
          show (c / 4096 * 64 + (128 + c / 64 % 64) % 64) * 64 + (128 + c % 64) % 64 = c by omega]
        rfl
      · have q : encN c = [b8 (240 + c / 262144), b8 (128 + c / 4096 % 64), b8 (128 + c / 64 % 64), b8 (128 + c % 64)] := by unfold encN; rw [if_neg h1, if_neg h2, if_neg h3]
        rw [q]
        have e : st (b8 (240 + c / 262144)).toNat = some (c / 262144, 3, if 240 + c / 262144 = 240 then 144 else 128, if 240 + c / 262144 = 244 then 143 else 191) := by
          rw [b8_nat _ (by omega)]; unfold st; rw [if_neg (by omega), if_neg (by omega), if_neg (by omega), if_neg (by omega), if_pos (by omega), show 240 + c / 262144 - 240 = c / 262144 by omega]
        show nextN (b8 (240 + c / 262144) :: b8 (128 + c / 4096 % 64) :: b8 (128 + c / 64 % 64) :: b8 (128 + c % 64) :: r) = _
        have g0 : (b8 (128 + c / 4096 % 64)).toNat = 128 + c / 4096 % 64 := b8_nat _ (by omega)
        have g1 : (b8 (128 + c / 64 % 64)).toNat = 128 + c / 64 % 64 := b8_nat _ (by omega)
        have g2 : (b8 (128 + c % 64)).toNat = 128 + c % 64 := b8_nat _ (by omega)
        rw [next_cons _ _ e, go_step (by rw [g0]; split <;> split <;> omega), go_step (by rw [g1]; omega), go_step (by rw [g2]; omega), goN, g0, g1, g2,
          show ((c / 262144 * 64 + (128 + c / 4096 % 64) % 64) * 64 + (128 + c / 64 % 64) % 64) * 64 + (128 + c % 64) % 64 = c by omega]
        rfl

/-- Signs as bytes; as a text, with repairs. -/
def encL (l : List Int) : List UInt8 := l.flatMap fun c => encN c.toNat
def fix (c : Int) : Int := if isS c = true then c else 65533
def textL (l : List Int) : List UInt8 := encL (l.map fix)
theorem enc_snoc (l : List Int) (k : Nat) (h : k < l.length) : encL (l.take (k + 1)) = encL (l.take k) ++ encN l[k].toNat := by
  unfold encL; rw [List.take_succ_eq_append_getElem h, List.flatMap_append]; simp
theorem encL_len (l : List Int) : (encL l).length ≤ 4 * l.length := by
  induction l with
  | nil => simp [encL]
  | cons c l ih =>
    have := (enc_len c.toNat).2
    simp only [encL, List.flatMap_cons, List.length_append, List.length_cons] at ih ⊢; omega
theorem all_snoc (l : List Int) (k : Nat) (h : k < l.length) : (l.take (k + 1)).all isS = ((l.take k).all isS && isS l[k]) := by
  rw [List.take_succ_eq_append_getElem h, List.all_append]; simp
theorem all_not (l : List Int) (k : Nat) (h : k < l.length) (hn : isS l[k] = false) : l.all isS = false := by
  rw [List.all_eq_false]; exact ⟨l[k], List.getElem_mem h, by rw [hn]; simp⟩
theorem text_snoc (l : List Int) (k : Nat) (h : k < l.length) : encL ((l.take (k + 1)).map fix) = encL ((l.take k).map fix) ++ encN (fix l[k]).toNat := by
  unfold encL; rw [List.take_succ_eq_append_getElem h, List.map_append, List.flatMap_append]; simp

/-- Bytes as signs, with repairs; strictly, or where it fails. By so many steps at most: as many as there are bytes are enough. -/
def lossyF : Nat → List UInt8 → List Int
  | 0, _ => []
  | _ + 1, [] => []
  | f + 1, x :: r => ((nextN (x :: r)).1 : Int) :: lossyF f ((x :: r).drop (nextN (x :: r)).2.1)
def decF : Nat → List UInt8 → Option (List Int)
  | 0, _ => some []
  | _ + 1, [] => some []
  | f + 1, x :: r => if (nextN (x :: r)).2.2 = true then (decF f ((x :: r).drop (nextN (x :: r)).2.1)).map (fun o => ((nextN (x :: r)).1 : Int) :: o) else none
def badF : Nat → List UInt8 → Nat
  | 0, _ => 0
  | _ + 1, [] => 0
  | f + 1, x :: r => if (nextN (x :: r)).2.2 = true then (nextN (x :: r)).2.1 + badF f ((x :: r).drop (nextN (x :: r)).2.1) else 0
def lossyL (l : List UInt8) : List Int := lossyF l.length l
def decL (l : List UInt8) : Option (List Int) := decF l.length l
def badN (l : List UInt8) : Nat := badF l.length l
theorem drop_less (x : UInt8) (r : List UInt8) (f : Nat) (h : (x :: r).length ≤ f + 1) : ((x :: r).drop (nextN (x :: r)).2.1).length ≤ f := by
  have := (next_size (x :: r)).1
  rw [List.length_drop]; omega
theorem lossyF_eq : ∀ (f g : Nat) (l : List UInt8), l.length ≤ f → l.length ≤ g → lossyF f l = lossyF g l
  | 0, 0, _, _, _ => rfl
  | 0, _ + 1, [], _, _ => rfl
  | _ + 1, 0, [], _, _ => rfl
  | _ + 1, _ + 1, [], _, _ => rfl
  | 0, _ + 1, _ :: _, h, _ => absurd h (by simp)
  | _ + 1, 0, _ :: _, _, h => absurd h (by simp)
  | f + 1, g + 1, x :: r, h, k => by rw [lossyF, lossyF, lossyF_eq f g _ (drop_less x r f h) (drop_less x r g k)]
theorem decF_eq : ∀ (f g : Nat) (l : List UInt8), l.length ≤ f → l.length ≤ g → decF f l = decF g l
  | 0, 0, _, _, _ => rfl
  | 0, _ + 1, [], _, _ => rfl
  | _ + 1, 0, [], _, _ => rfl
  | _ + 1, _ + 1, [], _, _ => rfl
  | 0, _ + 1, _ :: _, h, _ => absurd h (by simp)
  | _ + 1, 0, _ :: _, _, h => absurd h (by simp)
  | f + 1, g + 1, x :: r, h, k => by rw [decF, decF, decF_eq f g _ (drop_less x r f h) (drop_less x r g k)]
theorem badF_eq : ∀ (f g : Nat) (l : List UInt8), l.length ≤ f → l.length ≤ g → badF f l = badF g l
  | 0, 0, _, _, _ => rfl
  | 0, _ + 1, [], _, _ => rfl
  | _ + 1, 0, [], _, _ => rfl
  | _ + 1, _ + 1, [], _, _ => rfl
  | 0, _ + 1, _ :: _, h, _ => absurd h (by simp)
  | _ + 1, 0, _ :: _, _, h => absurd h (by simp)
  | f + 1, g + 1, x :: r, h, k => by rw [badF, badF, badF_eq f g _ (drop_less x r f h) (drop_less x r g k)]
theorem lossy_nil : lossyL [] = [] := rfl
theorem lossy_cons {l : List UInt8} (h : l ≠ []) : lossyL l = ((nextN l).1 : Int) :: lossyL (l.drop (nextN l).2.1) := by
  cases l with
  | nil => exact absurd rfl h
  | cons x r =>
    show lossyF (r.length + 1) (x :: r) = _
    rw [lossyF, lossyL, lossyF_eq _ _ _ (drop_less x r r.length (by simp)) (Nat.le_refl _)]
theorem dec_nil : decL [] = some [] := rfl
theorem dec_cons {l : List UInt8} (h : l ≠ []) (hw : (nextN l).2.2 = true) : decL l = (decL (l.drop (nextN l).2.1)).map (fun o => ((nextN l).1 : Int) :: o) := by
  cases l with
  | nil => exact absurd rfl h
  | cons x r =>
    show decF (r.length + 1) (x :: r) = _
    rw [decF, if_pos hw, decL, decF_eq _ _ _ (drop_less x r r.length (by simp)) (Nat.le_refl _)]
theorem dec_fail {l : List UInt8} (h : l ≠ []) (hw : (nextN l).2.2 = false) : decL l = none := by
  cases l with
  | nil => exact absurd rfl h
  | cons x r =>
    show decF (r.length + 1) (x :: r) = _
    rw [decF, if_neg (by rw [hw]; decide)]
theorem bad_nil : badN [] = 0 := rfl
theorem bad_cons {l : List UInt8} (h : l ≠ []) (hw : (nextN l).2.2 = true) : badN l = (nextN l).2.1 + badN (l.drop (nextN l).2.1) := by
  cases l with
  | nil => exact absurd rfl h
  | cons x r =>
    show badF (r.length + 1) (x :: r) = _
    rw [badF, if_pos hw, badN, badF_eq _ _ _ (drop_less x r r.length (by simp)) (Nat.le_refl _)]
theorem bad_fail {l : List UInt8} (h : l ≠ []) (hw : (nextN l).2.2 = false) : badN l = 0 := by
  cases l with
  | nil => exact absurd rfl h
  | cons x r =>
    show badF (r.length + 1) (x :: r) = _
    rw [badF, if_neg (by rw [hw]; decide)]

theorem enc_ne (c : Nat) (r : List UInt8) : encN c ++ r ≠ [] := by
  intro h
  have h1 := congrArg List.length h
  have h2 := (enc_len c).1
  rw [List.length_append, List.length_nil] at h1
  omega
theorem lossy_enc : ∀ (l : List Int) (r : List UInt8), l.all isS = true → lossyL (encL l ++ r) = l ++ lossyL r
  | [], r, _ => by simp [encL]
  | c :: l, r, h => by
    simp only [List.all_cons, Bool.and_eq_true] at h
    have hc := isS_iff.1 h.1
    obtain ⟨n, rfl⟩ := Int.eq_ofNat_of_zero_le hc.1
    have e : encL ((n : Int) :: l) ++ r = encN n ++ (encL l ++ r) := by simp [encL]
    rw [e, lossy_cons (enc_ne _ _), next_enc n _ h.1]
    simp only [List.drop_left, lossy_enc l r h.2, List.cons_append]
theorem dec_enc : ∀ (l : List Int), l.all isS = true → decL (encL l) = some l
  | [], _ => by rw [show encL [] = [] from rfl, dec_nil]
  | c :: l, h => by
    simp only [List.all_cons, Bool.and_eq_true] at h
    have hc := isS_iff.1 h.1
    obtain ⟨n, rfl⟩ := Int.eq_ofNat_of_zero_le hc.1
    have e : encL ((n : Int) :: l) = encN n ++ encL l := by simp [encL]
    have q := next_enc n (encL l) h.1
    rw [e, dec_cons (enc_ne _ _) (by rw [q]), q]
    simp only [List.drop_left, dec_enc l h.2, Option.map_some]
theorem dec_some : ∀ (k : Nat) (b : List UInt8) (v : List Int), b.length ≤ k → decL b = some v → v.all isS = true ∧ encL v = b
  | k, [], v, _, h => by
    rw [dec_nil] at h
    injection h with h; subst h
    exact ⟨rfl, rfl⟩
  | 0, x :: r, v, hk, _ => by simp at hk
  | k + 1, x :: r, v, hk, h => by
    have hne : x :: r ≠ [] := by simp
    cases hw : (nextN (x :: r)).2.2 with
    | false => rw [dec_fail hne hw] at h; cases h
    | true =>
      rw [dec_cons hne hw] at h
      obtain ⟨u, hu, rfl⟩ := Option.map_eq_some_iff.1 h
      have hs := (next_size (x :: r)).1
      have ih := dec_some k _ u (by simp only [List.length_drop, List.length_cons] at hk ⊢; omega) hu
      have q := next_whole _ hw
      refine ⟨by simp only [List.all_cons, q.1, ih.1, Bool.and_self], ?_⟩
      have e : encL (((nextN (x :: r)).1 : Int) :: u) = encN (nextN (x :: r)).1 ++ encL u := by simp [encL]
      rw [e, ih.2]
      exact q.2.symm
theorem lossy_all : ∀ (k : Nat) (b : List UInt8), b.length ≤ k → (lossyL b).all isS = true ∧ (lossyL b).length ≤ b.length
  | k, [], _ => by rw [lossy_nil]; exact ⟨rfl, Nat.le_refl _⟩
  | 0, x :: r, hk => by simp at hk
  | k + 1, x :: r, hk => by
    have hne : x :: r ≠ [] := by simp
    have hs := next_size (x :: r)
    have h2 := hs.2 hne
    have ih := lossy_all k ((x :: r).drop (nextN (x :: r)).2.1) (by simp only [List.length_drop, List.length_cons] at hk ⊢; omega)
    rw [lossy_cons hne]
    refine ⟨by simp only [List.all_cons, next_isS, ih.1, Bool.and_self], ?_⟩
    have h3 := ih.2
    simp only [List.length_drop] at h3
    simp only [List.length_cons] at h2 h3 ⊢; omega
theorem bad_lt : ∀ (k : Nat) (b : List UInt8), b.length ≤ k → decL b = none → badN b < b.length
  | k, [], _, h => by rw [dec_nil] at h; cases h
  | 0, x :: r, hk, _ => by simp at hk
  | k + 1, x :: r, hk, h => by
    have hne : x :: r ≠ [] := by simp
    cases hw : (nextN (x :: r)).2.2 with
    | false => rw [bad_fail hne hw]; simp
    | true =>
      rw [dec_cons hne hw, Option.map_eq_none_iff] at h
      have hs := (next_size (x :: r)).1
      have ih := bad_lt k _ (by simp only [List.length_drop, List.length_cons] at hk ⊢; omega) h
      rw [bad_cons hne hw]
      simp only [List.length_drop] at ih
      omega
/-- What Encode and Decode answer. -/
def errE (l : List Int) : Int := if l.all isS = true then 0 else 1
def bytesE (l : List Int) : List UInt8 := if l.all isS = true then encL l else []
def signsD (b : List UInt8) : List Int := (decL b).getD []
def placeD (b : List UInt8) : Nat := if (decL b).isSome = true then 0 else badN b
def errD (b : List UInt8) : Int := if (decL b).isSome = true then 0 else 4
theorem bytesE_len (l : List Int) : (bytesE l).length ≤ 4 * l.length := by
  unfold bytesE; split
  · exact encL_len l
  · simp
end Go.Proofs.YtkpkfcoljccimaaDoor
/- The walks of single signs: is it one, its bytes (the program's and the document's); ints held against each other. -/
namespace Go.Proofs.YtkpkfcoljccimaaDoor
open Go.RowKit
set_option linter.unusedVariables false
set_option maxRecDepth 20000
theorem ret_bool {a b : Bool} (h : a = b) : Ending.returned (.bool a) = .returned (.bool b) := by rw [h]
theorem isS_no {c : Int} (h : ¬ (0 ≤ c ∧ c ≤ 1114111 ∧ (c < 55296 ∨ 57343 < c))) : isS c = false := by simp only [isS, decide_eq_false_iff_not]; exact h
theorem scalar_calls (c : Int) (w : World) : Calls Tryd.prog 43 #[.int .i64 c] w fun e w' => e = .returned (.bool (isS c)) ∧ w' = w := by
  have hc : c < 0 ∨ (0 ≤ c ∧ c < 55296) ∨ (55296 ≤ c ∧ c ≤ 57343) ∨ (57343 < c ∧ c ≤ 1114111) ∨ 1114111 < c := by omega
  rcases hc with g | ⟨g1, g2⟩ | ⟨g1, g2⟩ | ⟨g1, g2⟩ | g
  all_goals
    go_enter Tryd.func43, Tryd.ntmps43
    go_wp2
    go_ret
    refine ⟨ret_bool ?_, rfl⟩
    by_cases hs : 0 ≤ c ∧ c ≤ 1114111 ∧ (c < 55296 ∨ 57343 < c)
    · have q := isS_iff.2 hs
      first | exact q.symm | (exfalso; omega) | (rw [q]; simp; done) | (rw [q]; simp; omega)
    · have q := isS_no hs
      first | exact q.symm | (exfalso; omega) | (rw [q]; simp; done) | (rw [q]; simp; omega)
theorem rscalar_calls (c : Int) (w : World) : Calls Tryd.prog 48 #[.int .i64 c] w fun e w' => e = .returned (.bool (isS c)) ∧ w' = w := by
  have hc : c < 0 ∨ (0 ≤ c ∧ c < 55296) ∨ (55296 ≤ c ∧ c ≤ 57343) ∨ (57343 < c ∧ c ≤ 1114111) ∨ 1114111 < c := by omega
  rcases hc with g | ⟨g1, g2⟩ | ⟨g1, g2⟩ | ⟨g1, g2⟩ | g
  all_goals
    go_enter Tryd.func48, Tryd.ntmps48
    go_wp2
    go_ret
    refine ⟨ret_bool ?_, rfl⟩
    by_cases hs : 0 ≤ c ∧ c ≤ 1114111 ∧ (c < 55296 ∨ 57343 < c)
    · have q := isS_iff.2 hs
      first | exact q.symm | (exfalso; omega) | (rw [q]; simp; done) | (rw [q]; simp; omega)
    · have q := isS_no hs
      first | exact q.symm | (exfalso; omega) | (rw [q]; simp; done) | (rw [q]; simp; omega)
theorem i64_or (a b : Nat) (ha : a < 2 ^ 63) (hb : b < 2 ^ 63) : bits .or .i64 (a : Int) (b : Int) = ((a ||| b : Nat) : Int) :=
  (bits_nat .i64 63 (by decide) (fun n h0 h1 => by rw [IntKind.wrap_i64]; omega) a b ha hb).2
theorem i64_and (a b : Nat) (ha : a < 2 ^ 63) (hb : b < 2 ^ 63) : bits .and .i64 (a : Int) (b : Int) = ((a &&& b : Nat) : Int) :=
  (bits_nat .i64 63 (by decide) (fun n h0 h1 => by rw [IntKind.wrap_i64]; omega) a b ha hb).1
theorem low6 (c : Nat) (h : c < 2 ^ 63) : bits .and .i64 (c : Int) 63 = ((c % 64 : Nat) : Int) := by
  rw [show (63 : Int) = ((63 : Nat) : Int) from rfl, i64_and c 63 h (by decide), Nat.and_two_pow_sub_one_eq_mod c 6]
/-- A mark above bits that are lower. -/
theorem or_mark (m p k : Nat) (q : Nat) (hm : m = 2 ^ k * q) (hp : p < 2 ^ k) : m ||| p = m + p := by subst hm; exact (Nat.two_pow_add_eq_or_of_lt hp q).symm
theorem u8mark (m p k q : Nat) (hm : m = 2 ^ k * q) (hp : p < 2 ^ k) (h : m + p < 256) : bits .or .u8 (m : Int) (p : Int) = ((b8 (m + p)).toNat : Int) := by
  rw [u8_or_nat m p (by omega) (by omega), or_mark m p k q hm hp, b8_nat _ h]
theorem i64mark (m p k q : Nat) (hm : m = 2 ^ k * q) (hp : p < 2 ^ k) (h : m + p < 256) : bits .or .i64 (m : Int) (p : Int) = ((b8 (m + p)).toNat : Int) := by
  rw [i64_or m p (by omega) (by omega), or_mark m p k q hm hp, b8_nat _ h]
theorem later_calls (c : Nat) (w : World) (h : c < 2 ^ 63) : Calls Tryd.prog 62 #[.int .i64 (c : Int)] w fun e w' => e = .returned (.int .u8 ((b8 (128 + c % 64)).toNat : Int)) ∧ w' = w := by
  have e1 := low6 c h
  have hl : c % 64 < 64 := Nat.mod_lt _ (by decide)
  have e2 := u8mark 128 (c % 64) 6 2 rfl hl (by omega)
  generalize c % 64 = m at *
  generalize b8 (128 + m) = x at *
  rw [show ((128 : Nat) : Int) = 128 from rfl] at e2
  go_enter Tryd.func62, Tryd.ntmps62
  go_wp2
  go_ret
  exact ⟨rfl, rfl⟩

theorem enc1 {c : Nat} (h : c < 128) : encN c = [b8 c] := by unfold encN; rw [if_pos h]
theorem enc2 {c : Nat} (h1 : ¬ c < 128) (h : c < 2048) : encN c = [b8 (192 + c / 64), b8 (128 + c % 64)] := by unfold encN; rw [if_neg h1, if_pos h]
theorem enc3 {c : Nat} (h1 : ¬ c < 2048) (h : c < 65536) : encN c = [b8 (224 + c / 4096), b8 (128 + c / 64 % 64), b8 (128 + c % 64)] := by unfold encN; rw [if_neg (by omega), if_neg h1, if_pos h]
theorem enc4 {c : Nat} (h : ¬ c < 65536) : encN c = [b8 (240 + c / 262144), b8 (128 + c / 4096 % 64), b8 (128 + c / 64 % 64), b8 (128 + c % 64)] := by unfold encN; rw [if_neg (by omega), if_neg (by omega), if_neg h]
set_option maxHeartbeats 1000000 in
theorem appendSign_calls (v : Value) (xs : List UInt8) (c : Nat) (w : World) (base : Nat) (ho : BOwn w base v xs) (hb : base ≤ w.heap.size) (hl : xs.length ≤ 500000) (hc : c ≤ 1114111) :
    Calls Tryd.prog 44 #[v, .int .i64 (c : Int)] w fun e w' => (∃ v', e = .returned v' ∧ BOwn w' base v' (xs ++ encN c)) ∧ Below base w w' := by
  by_cases h1 : c < 128
  · rw [enc1 h1]
    have e0 := b8_nat c (by omega)
    generalize b8 c = x at *
    obtain ⟨v', w', hr, ho', hg⟩ := append_run (ho.alloc (.cells #[.int .u8 (x.toNat : Int)] 5)) (Row.lit fb w [x] 5 (0, 0) (by simp)) (by simp; omega) (by simp; omega)
    have HO := hid ho'
    have HB := hid (((Below.refl base w).alloc hb _).grown hg (by simp; omega) (Own.lt ho))
    clear ho' hg ho
    rw [e0] at hr
    have g1 : (c : Int) < 128 := by omega
    clear e0 hc h1 hb hl
    go_enter Tryd.func44, Tryd.ntmps44
    go_wp2_with (at_builtin; go_must (refine wpList_append_run hr rfl _ _ rfl rfl rfl rfl ?_))
    go_ret
    exact ⟨⟨_, rfl, HO.out⟩, HB.out⟩
  · by_cases h2 : c < 2048
    · rw [enc2 h1 h2]
      obtain ⟨p1, q1⟩ : ∃ p : Nat, p = c / 64 := ⟨_, rfl⟩
      have d1 : (c : Int) / 64 = (p1 : Int) := by omega
      have b1 : p1 < 32 := by omega
      have m1 := u8mark 192 p1 6 3 rfl (by omega) (by omega)
      rw [show ((192 : Nat) : Int) = 192 from rfl] at m1
      rw [← q1]
      clear q1
      have HL := hid (later_calls c · (by omega))
      generalize b8 (192 + p1) = x0 at *
      generalize b8 (128 + c % 64) = x1 at *
      obtain ⟨v', w', hr, ho', hg⟩ := append_run (ho.alloc (.cells #[.int .u8 (x0.toNat : Int), .int .u8 (x1.toNat : Int)] 5)) (Row.lit fb w [x0, x1] 5 (0, 0) (by simp)) (by simp; omega) (by simp; omega)
      have HO := hid ho'
      have HB := hid (((Below.refl base w).alloc hb _).grown hg (by simp; omega) (Own.lt ho))
      have g1 : ¬ (c : Int) < 128 := by omega
      have g2 : (c : Int) < 2048 := by omega
      clear ho' hg ho hc h1 h2 hb hl
      go_enter Tryd.func44, Tryd.ntmps44
      go_wp2_with fail
      refine (HL.out _).mono ?_
      rintro e w1 ⟨rfl, rfl⟩
      go_wp2_with (at_builtin; go_must (refine wpList_append_run hr rfl _ _ rfl rfl rfl rfl ?_))
      go_ret
      exact ⟨⟨_, rfl, HO.out⟩, HB.out⟩
    · by_cases h3 : c < 65536
      · rw [enc3 h2 h3]
        obtain ⟨p1, q1⟩ : ∃ p : Nat, p = c / 64 := ⟨_, rfl⟩
        obtain ⟨p2, q2⟩ : ∃ p : Nat, p = c / 4096 := ⟨_, rfl⟩
        have d1 : (c : Int) / 64 = (p1 : Int) := by omega
        have d2 : (c : Int) / 4096 = (p2 : Int) := by omega
        have b1 : p1 < 1024 := by omega
        have b2 : p2 < 16 := by omega
        have m1 := u8mark 224 p2 5 7 rfl (by omega) (by omega)
        rw [show ((224 : Nat) : Int) = 224 from rfl] at m1
        rw [← q1, ← q2]
        clear q1 q2
        have HL := hid (later_calls c · (by omega))
        have HL1 := hid (later_calls p1 · (by omega))
        generalize b8 (224 + p2) = x0 at *
        generalize b8 (128 + p1 % 64) = x1 at *
        generalize b8 (128 + c % 64) = x2 at *
        obtain ⟨v', w', hr, ho', hg⟩ := append_run (ho.alloc (.cells #[.int .u8 (x0.toNat : Int), .int .u8 (x1.toNat : Int), .int .u8 (x2.toNat : Int)] 5)) (Row.lit fb w [x0, x1, x2] 5 (0, 0) (by simp)) (by simp; omega) (by simp; omega)
        have HO := hid ho'
        have HB := hid (((Below.refl base w).alloc hb _).grown hg (by simp; omega) (Own.lt ho))
        have g1 : ¬ (c : Int) < 128 := by omega
        have g2 : ¬ (c : Int) < 2048 := by omega
        have g3 : (c : Int) < 65536 := by omega
        clear ho' hg ho hc h1 h2 h3 hb hl
        go_enter Tryd.func44, Tryd.ntmps44
        go_wp2_with fail
        refine (HL1.out _).mono ?_
        rintro e w1 ⟨rfl, rfl⟩
        go_wp2_with fail
        refine (HL.out _).mono ?_
        rintro e w1 ⟨rfl, rfl⟩
        go_wp2_with (at_builtin; go_must (refine wpList_append_run hr rfl _ _ rfl rfl rfl rfl ?_))
        go_ret
        exact ⟨⟨_, rfl, HO.out⟩, HB.out⟩
      · rw [enc4 h3]
        obtain ⟨p1, q1⟩ : ∃ p : Nat, p = c / 64 := ⟨_, rfl⟩
        obtain ⟨p2, q2⟩ : ∃ p : Nat, p = c / 4096 := ⟨_, rfl⟩
        obtain ⟨p3, q3⟩ : ∃ p : Nat, p = c / 262144 := ⟨_, rfl⟩
        have d1 : (c : Int) / 64 = (p1 : Int) := by omega
        have d2 : (c : Int) / 4096 = (p2 : Int) := by omega
        have d3 : (c : Int) / 262144 = (p3 : Int) := by omega
        have b1 : p1 < 65536 := by omega
        have b2 : p2 < 65536 := by omega
        have b3 : p3 < 5 := by omega
        have m1 := u8mark 240 p3 4 15 rfl (by omega) (by omega)
        rw [show ((240 : Nat) : Int) = 240 from rfl] at m1
        rw [← q1, ← q2, ← q3]
        clear q1 q2 q3
        have HL := hid (later_calls c · (by omega))
        have HL1 := hid (later_calls p1 · (by omega))
        have HL2 := hid (later_calls p2 · (by omega))
        generalize b8 (240 + p3) = x0 at *
        generalize b8 (128 + p2 % 64) = x1 at *
        generalize b8 (128 + p1 % 64) = x2 at *
        generalize b8 (128 + c % 64) = x3 at *
        obtain ⟨v', w', hr, ho', hg⟩ := append_run (ho.alloc (.cells #[.int .u8 (x0.toNat : Int), .int .u8 (x1.toNat : Int), .int .u8 (x2.toNat : Int), .int .u8 (x3.toNat : Int)] 5)) (Row.lit fb w [x0, x1, x2, x3] 5 (0, 0) (by simp)) (by simp; omega) (by simp; omega)
        have HO := hid ho'
        have HB := hid (((Below.refl base w).alloc hb _).grown hg (by simp; omega) (Own.lt ho))
        have g1 : ¬ (c : Int) < 128 := by omega
        have g2 : ¬ (c : Int) < 2048 := by omega
        have g3 : ¬ (c : Int) < 65536 := by omega
        clear ho' hg ho hc h1 h2 h3 hb hl
        go_enter Tryd.func44, Tryd.ntmps44
        go_wp2_with fail
        refine (HL2.out _).mono ?_
        rintro e w1 ⟨rfl, rfl⟩
        go_wp2_with fail
        refine (HL1.out _).mono ?_
        rintro e w1 ⟨rfl, rfl⟩
        go_wp2_with fail
        refine (HL.out _).mono ?_
        rintro e w1 ⟨rfl, rfl⟩
        go_wp2_with (at_builtin; go_must (refine wpList_append_run hr rfl _ _ rfl rfl rfl rfl ?_))
        go_ret
        exact ⟨⟨_, rfl, HO.out⟩, HB.out⟩
end Go.Proofs.YtkpkfcoljccimaaDoor
/- Punycode, as a plain function of numbers; what Encode writes Decode reads. Nothing of the program. -/
namespace Go.Proofs.YtkpkfcoljccimaaDoor
set_option linter.unusedVariables false
set_option maxRecDepth 20000
def thr (k bias : Nat) : Nat := min (max (k - bias) 1) 26
theorem thr_ge (k b : Nat) : 1 ≤ thr k b := by unfold thr; omega
theorem thr_le (k b : Nat) : thr k b ≤ 26 := by unfold thr; omega
def adF : Nat → Nat → Nat → Nat
  | 0, d, b => b + 36 * d / (d + 38)
  | f + 1, d, b => if 455 < d then adF f (d / 35) (b + 36) else b + 36 * d / (d + 38)
def adapt (d c : Nat) (first : Bool) : Nat := adF 64 ((if first then d / 700 else d / 2) + (if first then d / 700 else d / 2) / c) 0
theorem frac_le (d : Nat) : 36 * d / (d + 38) ≤ 36 := by
  have : 36 * d / (d + 38) ≤ 36 * (d + 38) / (d + 38) := Nat.div_le_div_right (by omega)
  rwa [Nat.mul_div_cancel _ (by omega)] at this
theorem adF_le : ∀ f d b, adF f d b ≤ b + 36 * f + 36
  | 0, d, b => by unfold adF; have := frac_le d; omega
  | f + 1, d, b => by
    unfold adF
    split
    · have := adF_le f (d / 35) (b + 36); omega
    · have := frac_le d; omega
theorem adapt_le (d c : Nat) (f : Bool) : adapt d c f ≤ 2340 := by unfold adapt; exact Nat.le_trans (adF_le _ _ _) (by decide)
/-- A number's digits. -/
def numF : Nat → Nat → Nat → Nat → List Nat
  | 0, k, b, n => [n % 36]
  | f + 1, k, b, n => if n < thr k b then [n] else (thr k b + (n - thr k b) % (36 - thr k b)) :: numF f (k + 36) b ((n - thr k b) / (36 - thr k b))
theorem num_less {n t f : Nat} (h : n < 2 ^ (f + 1)) (h1 : 1 ≤ t) (h2 : t ≤ 26) : (n - t) / (36 - t) < 2 ^ f := by
  have h3 : (n - t) / (36 - t) ≤ (n - t) / 2 := Nat.div_le_div_left (by omega) (by omega)
  rw [Nat.pow_succ] at h
  omega
theorem numF_lt : ∀ f k b n, ∀ d ∈ numF f k b n, d < 36
  | 0, k, b, n => by intro d hd; simp [numF] at hd; omega
  | f + 1, k, b, n => by
    have h1 := thr_ge k b
    have h2 := thr_le k b
    unfold numF
    split
    · intro d hd; rw [List.mem_singleton] at hd; omega
    · intro d hd
      rcases List.mem_cons.1 hd with rfl | hd
      · have := Nat.mod_lt (n - thr k b) (y := 36 - thr k b) (by omega); omega
      · exact numF_lt f _ _ _ d hd
theorem numF_len : ∀ f k b n, 1 ≤ (numF f k b n).length ∧ (numF f k b n).length ≤ f + 1
  | 0, k, b, n => by simp [numF]
  | f + 1, k, b, n => by
    unfold numF
    split
    · simp
    · have := numF_len f (k + 36) b ((n - thr k b) / (36 - thr k b)); simp; omega
def num (b n : Nat) : List Nat := numF 64 36 b n
def most : Nat := 2147483647
/-- Reads a number; tells it and what is behind. -/
def rd : List (Option Nat) → Nat → Nat → Nat → Nat → Option (Nat × List (Option Nat))
  | [], n, w, k, b => none
  | none :: r, n, w, k, b => none
  | some d :: r, n, w, k, b => if most < w ∨ (most - n) / w < d then none else if d < thr k b then some (n + d * w, r) else rd r (n + d * w) (w * (36 - thr k b)) (k + 36) b
theorem rd_len : ∀ l n w k b m r, rd l n w k b = some (m, r) → r.length < l.length
  | [], n, w, k, b, m, r, h => by simp [rd] at h
  | none :: l, n, w, k, b, m, r, h => by simp [rd] at h
  | some d :: l, n, w, k, b, m, r, h => by
    unfold rd at h
    split at h
    · cases h
    · split at h
      · injection h with h; injection h with h1 h2; subst h2; simp
      · have := rd_len l _ _ _ _ _ _ h; simp; omega
/-- What is read lies within the bound. -/
theorem rd_le : ∀ l n w k b m r, rd l n w k b = some (m, r) → 1 ≤ w → n ≤ most → n ≤ m ∧ m ≤ most
  | [], n, w, k, b, m, r, h, _, _ => by simp [rd] at h
  | none :: l, n, w, k, b, m, r, h, _, _ => by simp [rd] at h
  | some d :: l, n, w, k, b, m, r, h, hw, hn => by
    unfold rd at h
    split at h
    · cases h
    · rename_i hx
      have hd : d * w ≤ most - n := by
        have : d ≤ (most - n) / w := by omega
        exact (Nat.le_div_iff_mul_le (by omega)).1 this
      split at h
      · injection h with h; injection h with h1 h2; omega
      · have h1 := thr_le k b
        have := rd_le l _ _ _ _ _ _ h (Nat.mul_pos (by omega) (by omega)) (by omega)
        omega
theorem rd_num_step {n t w acc : Nat} (hn : t ≤ n) (h1 : 1 ≤ t) (h2 : t ≤ 26) : acc + (t + (n - t) % (36 - t)) * w + (n - t) / (36 - t) * (w * (36 - t)) = acc + n * w := by
  have h := Nat.div_add_mod (n - t) (36 - t)
  have e : n = t + (n - t) % (36 - t) + (36 - t) * ((n - t) / (36 - t)) := by omega
  generalize (n - t) % (36 - t) = a at *
  generalize (n - t) / (36 - t) = q at *
  rw [e, Nat.add_assoc acc, Nat.add_mul (t + a)]
  congr 2
  rw [Nat.mul_comm (36 - t) q, Nat.mul_assoc, Nat.mul_comm w]
theorem pow35 {j : Nat} (h : 35 ^ j ≤ 700000000) : 35 ^ j ≤ 52521875 := by
  rcases Nat.lt_or_ge j 6 with g | g
  · exact Nat.le_trans (Nat.pow_le_pow_right (by decide) (by omega : j ≤ 5)) (by decide)
  · have := Nat.pow_le_pow_right (n := 35) (by decide) g
    have e : 35 ^ 6 = 1838265625 := by decide
    omega
theorem rd_num (b : Nat) : ∀ f n k w acc rest, n < 2 ^ f → w ≤ most → 1 ≤ w → (b + 26 ≤ k ∨ ∃ j, w = 35 ^ j) → acc + n * w ≤ 700000000 →
    rd ((numF f k b n).map some ++ rest) acc w k b = some (acc + n * w, rest)
  | 0, n, k, w, acc, rest, h, hw, hw1, hk, hB => by
    have hn : n = 0 := by simpa using h
    subst hn
    have := thr_ge k b
    simp [numF, rd]
    exact ⟨hw, by omega⟩
  | f + 1, n, k, w, acc, rest, h, hw, hw1, hk, hB => by
    have t1 := thr_ge k b
    have t2 := thr_le k b
    unfold numF
    by_cases hlt : n < thr k b
    · rw [if_pos hlt]
      have hd : ¬ ((most - acc) / w < n) := by
        have : n ≤ (most - acc) / w := (Nat.le_div_iff_mul_le (by omega)).2 (by unfold most; omega)
        omega
      simp only [List.map_cons, List.map_nil, List.cons_append, List.nil_append, rd]
      rw [if_neg (by omega), if_pos hlt]
    · rw [if_neg hlt]
      have hst := rd_num_step (acc := acc) (w := w) (by omega : thr k b ≤ n) t1 t2
      have hdn : thr k b + (n - thr k b) % (36 - thr k b) ≤ n := by have := Nat.mod_le (n - thr k b) (36 - thr k b); omega
      have hdw : (thr k b + (n - thr k b) % (36 - thr k b)) * w ≤ n * w := Nat.mul_le_mul_right _ hdn
      have hd : ¬ ((most - acc) / w < thr k b + (n - thr k b) % (36 - thr k b)) := by
        have : thr k b + (n - thr k b) % (36 - thr k b) ≤ (most - acc) / w := (Nat.le_div_iff_mul_le (by omega)).2 (by unfold most; omega)
        omega
      have htw : thr k b * w ≤ n * w := Nat.mul_le_mul_right _ (by omega)
      simp only [List.map_cons, List.cons_append, rd]
      rw [if_neg (by omega), if_neg (by omega)]
      have hk' : w * (36 - thr k b) ≤ most ∧ (b + 26 ≤ k + 36 ∨ ∃ j, w * (36 - thr k b) = 35 ^ j) := by
        rcases Nat.lt_or_ge k (b + 26) with g | g
        · rcases hk with hk | ⟨j, rfl⟩
          · omega
          · have hw2 : 35 ^ j ≤ 700000000 := by
              have : 1 * 35 ^ j ≤ thr k b * 35 ^ j := Nat.mul_le_mul_right _ t1
              omega
            have hw3 := pow35 hw2
            have hw4 : 35 ^ j * (36 - thr k b) ≤ 52521875 * 35 := Nat.mul_le_mul hw3 (by omega)
            refine ⟨by unfold most; omega, ?_⟩
            rcases Nat.lt_or_ge (b + 1) k with g2 | g2
            · left; omega
            · right
              refine ⟨j + 1, ?_⟩
              have : thr k b = 1 := by unfold thr; omega
              rw [this, Nat.pow_succ]
        · have : thr k b = 26 := by unfold thr; omega
          rw [this] at htw ⊢
          exact ⟨by unfold most; omega, .inl (by omega)⟩
      rw [rd_num b f _ _ _ _ rest (num_less h t1 t2) hk'.1 (Nat.mul_pos (by omega) (by omega)) hk'.2 (by rw [hst]; exact hB), hst]
theorem rd_back (b n acc : Nat) (rest : List (Option Nat)) (h : acc + n ≤ 700000000) : rd ((num b n).map some ++ rest) acc 1 36 b = some (acc + n, rest) := by
  have := rd_num b 64 n 36 1 acc rest (Nat.lt_of_le_of_lt (by omega : n ≤ 700000000) (by decide)) (by decide) (by decide) (.inr ⟨0, rfl⟩) (by omega)
  rwa [Nat.mul_one] at this
end Go.Proofs.YtkpkfcoljccimaaDoor
/- Punycode's two ways, as plain functions of lists; there and back. -/
namespace Go.Proofs.YtkpkfcoljccimaaDoor
set_option linter.unusedVariables false
set_option maxRecDepth 20000
/-- The least from a bound on. -/
def lstF (a from_ : Nat) (l : List Nat) : Nat := l.foldl (fun a c => if from_ ≤ c then min a c else a) a
theorem lstF_le : ∀ (l : List Nat) (a n : Nat), lstF a n l ≤ a
  | [], a, n => Nat.le_refl _
  | c :: l, a, n => by
    show lstF (if n ≤ c then min a c else a) n l ≤ a
    refine Nat.le_trans (lstF_le l _ n) ?_
    split
    · exact Nat.min_le_left _ _
    · exact Nat.le_refl _
theorem lstF_all : ∀ (l : List Nat) (a n c : Nat), c ∈ l → n ≤ c → lstF a n l ≤ c
  | [], a, n, c, h, _ => by cases h
  | d :: l, a, n, c, h, hn => by
    show lstF (if n ≤ d then min a d else a) n l ≤ c
    rcases List.mem_cons.1 h with rfl | h
    · rw [if_pos hn]
      exact Nat.le_trans (lstF_le l _ n) (Nat.min_le_right _ _)
    · exact lstF_all l _ n c h hn
theorem lstF_mem : ∀ (l : List Nat) (a n : Nat), lstF a n l = a ∨ (lstF a n l ∈ l ∧ n ≤ lstF a n l)
  | [], a, n => .inl rfl
  | d :: l, a, n => by
    show lstF (if n ≤ d then min a d else a) n l = a ∨ (lstF (if n ≤ d then min a d else a) n l ∈ d :: l ∧ n ≤ lstF (if n ≤ d then min a d else a) n l)
    rcases lstF_mem l (if n ≤ d then min a d else a) n with h | ⟨h1, h2⟩
    · rw [h]
      split
      · rename_i hd
        rcases Nat.le_total a d with g | g
        · left; exact Nat.min_eq_left g
        · right; rw [Nat.min_eq_right g]; exact ⟨List.mem_cons_self, hd⟩
      · exact .inl rfl
    · exact .inr ⟨List.mem_cons_of_mem _ h1, h2⟩
/-- Above all of l the start does not count. -/
theorem lstF_start (l : List Nat) (a b n : Nat) (ha : ∀ c ∈ l, c < a) (hb : ∀ c ∈ l, c < b) (h : ∃ c ∈ l, n ≤ c) : lstF a n l = lstF b n l := by
  obtain ⟨c, hc, hn⟩ := h
  have a1 := lstF_all l a n c hc hn
  have b1 := lstF_all l b n c hc hn
  have ac := ha c hc
  have bc := hb c hc
  rcases lstF_mem l a n with g | ⟨g1, g2⟩
  · omega
  · rcases lstF_mem l b n with k | ⟨k1, k2⟩
    · omega
    · have := lstF_all l a n _ k1 k2
      have := lstF_all l b n _ g1 g2
      omega
def least (l : List Nat) (n : Nat) : Nat := lstF 2147483647 n l
/-- One round over the list: the digits that it writes, and the steps, the bias, how many are done. -/
def scanD (s plain : Nat) : List Nat → Nat → Nat → Nat → List Nat × Nat × Nat × Nat
  | [], delta, bias, done => ([], delta, bias, done)
  | c :: r, delta, bias, done =>
    if c < s then scanD s plain r (delta + 1) bias done
    else if c = s then
      let x := scanD s plain r 0 (adapt delta (done + 1) (decide (done = plain))) (done + 1)
      (num bias delta ++ x.1, x.2)
    else scanD s plain r delta bias done
theorem scanD_lt {s plain : Nat} {c : Nat} {r : List Nat} {delta bias done : Nat} (h : c < s) : scanD s plain (c :: r) delta bias done = scanD s plain r (delta + 1) bias done := by
  simp only [scanD]; rw [if_pos h]
theorem scanD_eq {s plain : Nat} {r : List Nat} {delta bias done : Nat} : scanD s plain (s :: r) delta bias done = (num bias delta ++ (scanD s plain r 0 (adapt delta (done + 1) (decide (done = plain))) (done + 1)).1, (scanD s plain r 0 (adapt delta (done + 1) (decide (done = plain))) (done + 1)).2) := by
  simp only [scanD]; rw [if_neg (by omega), if_true]
theorem scanD_gt {s plain : Nat} {c : Nat} {r : List Nat} {delta bias done : Nat} (h : s < c) : scanD s plain (c :: r) delta bias done = scanD s plain r delta bias done := by
  simp only [scanD]; rw [if_neg (by omega), if_neg (by omega)]
def encD (l : List Nat) (plain : Nat) : Nat → Nat → Nat → Nat → Nat → List Nat
  | 0, delta, bias, from_, done => []
  | f + 1, delta, bias, from_, done =>
    if done < l.length then
      let s := least l from_
      let x := scanD s plain l (delta + (s - from_) * (done + 1)) bias done
      x.1 ++ encD l plain f (x.2.1 + 1) x.2.2.1 (s + 1) x.2.2.2
    else []
theorem encD_stop (l : List Nat) (plain f delta bias n done : Nat) (h : l.length ≤ done) : encD l plain f delta bias n done = [] := by
  cases f with
  | zero => rfl
  | succ f => unfold encD; rw [if_neg (by omega)]
/-- What scanD leaves. -/
theorem scanD_done (s plain : Nat) : ∀ (r : List Nat) (delta bias done : Nat), (scanD s plain r delta bias done).2.2.2 = done + r.countP (· == s)
  | [], delta, bias, done => rfl
  | c :: r, delta, bias, done => by
    rcases Nat.lt_trichotomy c s with h | h | h
    · rw [scanD_lt h, scanD_done s plain r]
      rw [List.countP_cons_of_neg (by simp; omega)]
    · subst h
      rw [scanD_eq]
      show (scanD c plain r 0 _ (done + 1)).2.2.2 = _
      rw [scanD_done c plain r, List.countP_cons_of_pos (by simp)]
      omega
    · rw [scanD_gt h, scanD_done s plain r]
      rw [List.countP_cons_of_neg (by simp; omega)]
theorem scanD_delta (s plain : Nat) : ∀ (r : List Nat) (delta bias done : Nat), (scanD s plain r delta bias done).2.1 ≤ delta + r.length
  | [], delta, bias, done => Nat.le_refl _
  | c :: r, delta, bias, done => by
    rcases Nat.lt_trichotomy c s with h | h | h
    · rw [scanD_lt h]; have := scanD_delta s plain r (delta + 1) bias done; simp; omega
    · subst h
      rw [scanD_eq]
      show (scanD c plain r 0 _ (done + 1)).2.1 ≤ _
      have := scanD_delta c plain r 0 (adapt delta (done + 1) (decide (done = plain))) (done + 1); simp; omega
    · rw [scanD_gt h]; have := scanD_delta s plain r delta bias done; simp; omega
theorem scanD_bias (s plain : Nat) : ∀ (r : List Nat) (delta bias done : Nat), bias ≤ 2340 → (scanD s plain r delta bias done).2.2.1 ≤ 2340
  | [], delta, bias, done, h => h
  | c :: r, delta, bias, done, hb => by
    rcases Nat.lt_trichotomy c s with h | h | h
    · rw [scanD_lt h]; exact scanD_bias s plain r _ _ _ hb
    · subst h
      rw [scanD_eq]
      exact scanD_bias c plain r _ _ _ (adapt_le _ _ _)
    · rw [scanD_gt h]; exact scanD_bias s plain r _ _ _ hb
theorem scanD_lens (s plain : Nat) : ∀ (r : List Nat) (delta bias done : Nat), (scanD s plain r delta bias done).1.length ≤ 65 * r.countP (· == s)
  | [], delta, bias, done => by simp [scanD]
  | c :: r, delta, bias, done => by
    rcases Nat.lt_trichotomy c s with h | h | h
    · rw [scanD_lt h, List.countP_cons_of_neg (by simp; omega)]; exact scanD_lens s plain r _ _ _
    · subst h
      rw [scanD_eq, List.countP_cons_of_pos (by simp)]
      have := scanD_lens c plain r 0 (adapt delta (done + 1) (decide (done = plain))) (done + 1)
      have h2 := (numF_len 64 36 bias delta).2
      simp only [List.length_append, num]
      omega
    · rw [scanD_gt h, List.countP_cons_of_neg (by simp; omega)]; exact scanD_lens s plain r _ _ _
theorem scanD_digits (s plain : Nat) : ∀ (r : List Nat) (delta bias done : Nat), ∀ d ∈ (scanD s plain r delta bias done).1, d < 36
  | [], delta, bias, done => by intro d hd; simp [scanD] at hd
  | c :: r, delta, bias, done => by
    rcases Nat.lt_trichotomy c s with h | h | h
    · rw [scanD_lt h]; exact scanD_digits s plain r _ _ _
    · subst h
      rw [scanD_eq]
      intro d hd
      rcases List.mem_append.1 hd with g | g
      · exact numF_lt _ _ _ _ d g
      · exact scanD_digits c plain r _ _ _ d g
    · rw [scanD_gt h]; exact scanD_digits s plain r _ _ _
theorem encD_digits (l : List Nat) (plain : Nat) : ∀ (f delta bias n done : Nat), ∀ d ∈ encD l plain f delta bias n done, d < 36
  | 0, delta, bias, n, done => by intro d hd; simp [encD] at hd
  | f + 1, delta, bias, n, done => by
    unfold encD
    split
    · intro d hd
      rcases List.mem_append.1 hd with g | g
      · exact scanD_digits _ _ _ _ _ _ d g
      · exact encD_digits l plain f _ _ _ _ d g
    · intro d hd; cases hd
theorem countP_le_least {l : List Nat} {n s : Nat} (hs : ∀ c ∈ l, n ≤ c → s ≤ c) (hns : n ≤ s) : l.countP (· < s) = l.countP (· < n) := by
  refine List.countP_congr fun c hc => ?_
  simp only [decide_eq_true_eq]
  have := hs c hc
  omega
theorem countP_next (l : List Nat) (s : Nat) : l.countP (· < s + 1) = l.countP (· < s) + l.countP (· == s) := by
  induction l with
  | nil => rfl
  | cons c l ih =>
    simp only [List.countP_cons, ih]
    simp only [decide_eq_true_eq, beq_iff_eq]
    split <;> split <;> split <;> omega
/-- There is one more to do: then the least from n on is one of them. -/
theorem least_spec {l : List Nat} {n : Nat} (hl : ∀ c ∈ l, c ≤ 1114111) (hd : l.countP (· < n) < l.length) : least l n ∈ l ∧ n ≤ least l n ∧ least l n ≤ 1114111 ∧ ∀ c ∈ l, n ≤ c → least l n ≤ c := by
  obtain ⟨c, hc, hn⟩ : ∃ c ∈ l, n ≤ c := by
    rcases Classical.em (∃ c ∈ l, n ≤ c) with h | h
    · exact h
    · exfalso
      have : l.countP (· < n) = l.length := by
        rw [List.countP_eq_length]
        intro c hc
        simp only [decide_eq_true_eq]
        rcases Nat.lt_or_ge c n with g | g
        · exact g
        · exact absurd ⟨c, hc, g⟩ h
      omega
  have h1 := lstF_all l 2147483647 n c hc hn
  have h2 := hl c hc
  rcases lstF_mem l 2147483647 n with g | ⟨g1, g2⟩
  · omega
  · exact ⟨g1, g2, hl _ g1, fun c hc hn => lstF_all l _ n c hc hn⟩

/-- Puts in the signs that digits tell. -/
def insF : Nat → List Nat → List (Option Nat) → Nat → Nat → Nat → Bool → Option (List Nat)
  | 0, out, ds, sign, at_, bias, first => if ds = [] then some out else none
  | f + 1, out, ds, sign, at_, bias, first =>
    if ds = [] then some out
    else if 256 ≤ out.length then none
    else match rd ds at_ 1 36 bias with
      | none => none
      | some (to, rest) =>
        if isS ((sign + to / (out.length + 1) : Nat) : Int) = true then
          insF f (out.take (to % (out.length + 1)) ++ (sign + to / (out.length + 1)) :: out.drop (to % (out.length + 1))) rest (sign + to / (out.length + 1)) (to % (out.length + 1) + 1) (adapt (to - at_) (out.length + 1) first) false
        else none
theorem insF_succ (f : Nat) (out : List Nat) (ds : List (Option Nat)) (sign at_ bias : Nat) (first : Bool) : insF (f + 1) out ds sign at_ bias first =
    if ds = [] then some out
    else if 256 ≤ out.length then none
    else match rd ds at_ 1 36 bias with
      | none => none
      | some (to, rest) =>
        if isS ((sign + to / (out.length + 1) : Nat) : Int) = true then
          insF f (out.take (to % (out.length + 1)) ++ (sign + to / (out.length + 1)) :: out.drop (to % (out.length + 1))) rest (sign + to / (out.length + 1)) (to % (out.length + 1) + 1) (adapt (to - at_) (out.length + 1) first) false
        else none := rfl
theorem insF_nil (f : Nat) (out : List Nat) (s a b : Nat) (fl : Bool) : insF f out [] s a b fl = some out := by cases f <;> simp [insF]
/-- One sign is told and put in. -/
theorem insF_step {f : Nat} {out A B : List Nat} {s p nd id delta bias : Nat} {fl : Bool} {T : List (Option Nat)} (ho : out = A ++ B) (hA : A.length = p) (hlen : out.length < 256) (hs : isS (s : Int) = true)
    (heq : nd * (out.length + 1) + id + delta = s * (out.length + 1) + p) (hnd : nd ≤ s) (hid : id ≤ out.length) :
    insF (f + 1) out ((num bias delta).map some ++ T) nd id bias fl = insF f (A ++ s :: B) T s (p + 1) (adapt delta (out.length + 1) fl) false := by
  have hs1 : s ≤ 1114111 := by have := isS_iff.1 hs; omega
  have hp : p ≤ out.length := by rw [ho]; simp; omega
  obtain ⟨m, rfl⟩ : ∃ m, s = nd + m := ⟨s - nd, by omega⟩
  have hto : id + delta = m * (out.length + 1) + p := by rw [Nat.add_mul] at heq; omega
  have hm : m * (out.length + 1) ≤ 1114111 * 256 := Nat.mul_le_mul (by omega) (by omega)
  have hne : ¬ ((num bias delta).map some ++ T = []) := by
    have := (numF_len 64 36 bias delta).1
    intro h
    have h2 := congrArg List.length h
    rw [List.length_append, List.length_map] at h2
    simp only [List.length_nil, num] at h2
    omega
  rw [insF_succ, if_neg hne, if_neg (by omega), rd_back bias delta id T (by omega)]
  have e1 : (id + delta) / (out.length + 1) = m := by rw [hto, Nat.add_comm, Nat.add_mul_div_right _ _ (by omega), Nat.div_eq_of_lt (by omega)]; omega
  have e2 : (id + delta) % (out.length + 1) = p := by rw [hto, Nat.add_comm, Nat.add_mul_mod_self_right, Nat.mod_eq_of_lt (by omega)]
  have e3 : id + delta - id = delta := by omega
  simp only [e1, e2, e3]
  rw [if_pos hs]
  have t1 : out.take p = A := by rw [ho, ← hA]; exact List.take_left
  have t2 : out.drop p = B := by rw [ho, ← hA]; exact List.drop_left
  rw [t1, t2]
theorem filter_le_len (l : List Nat) (p : Nat → Bool) : (l.filter p).length ≤ l.length := List.length_filter_le _ _
/-- A round over the list, read back. -/
theorem scan_back (s plain : Nat) (hs : isS (s : Int) = true) (T : List (Option Nat)) : ∀ (r p : List Nat) (delta bias nd id f : Nat), (p ++ r).length ≤ 256 → nd ≤ s → id ≤ (p.filter (· ≤ s) ++ r.filter (· < s)).length →
    plain ≤ (p.filter (· ≤ s) ++ r.filter (· < s)).length →
    nd * ((p.filter (· ≤ s) ++ r.filter (· < s)).length + 1) + id + delta = s * ((p.filter (· ≤ s) ++ r.filter (· < s)).length + 1) + (p.filter (· ≤ s)).length →
    ((scanD s plain r delta bias (p.filter (· ≤ s) ++ r.filter (· < s)).length).1.map some ++ T).length ≤ f →
    ∃ nd' id' f', insF f (p.filter (· ≤ s) ++ r.filter (· < s)) ((scanD s plain r delta bias (p.filter (· ≤ s) ++ r.filter (· < s)).length).1.map some ++ T) nd id bias (decide ((p.filter (· ≤ s) ++ r.filter (· < s)).length = plain))
        = insF f' ((p ++ r).filter (· ≤ s)) T nd' id' (scanD s plain r delta bias (p.filter (· ≤ s) ++ r.filter (· < s)).length).2.2.1 (decide (((p ++ r).filter (· ≤ s)).length = plain)) ∧
      nd' ≤ s ∧ id' ≤ ((p ++ r).filter (· ≤ s)).length ∧ T.length ≤ f' ∧
      nd' * (((p ++ r).filter (· ≤ s)).length + 1) + id' + (scanD s plain r delta bias (p.filter (· ≤ s) ++ r.filter (· < s)).length).2.1 = s * (((p ++ r).filter (· ≤ s)).length + 1) + ((p ++ r).filter (· ≤ s)).length ∧
      (scanD s plain r delta bias (p.filter (· ≤ s) ++ r.filter (· < s)).length).2.2.2 = ((p ++ r).filter (· ≤ s)).length
  | [], p, delta, bias, nd, id, f, hl, hnd, hid, hpl, heq, hf => by
    simp only [List.append_nil, List.filter_nil, scanD, List.map_nil, List.nil_append] at *
    exact ⟨nd, id, f, rfl, hnd, hid, hf, heq, trivial⟩
  | c :: r, p, delta, bias, nd, id, f, hl, hnd, hid, hpl, heq, hf => by
    have happ : p ++ c :: r = (p ++ [c]) ++ r := by simp
    rw [happ] at hl ⊢
    rcases Nat.lt_trichotomy c s with h | h | h
    · have e1 : (p ++ [c]).filter (· ≤ s) = p.filter (· ≤ s) ++ [c] := by rw [List.filter_append]; simp; omega
      have e2 : (c :: r).filter (· < s) = c :: r.filter (· < s) := by rw [List.filter_cons_of_pos (by simpa using h)]
      have e3 : p.filter (· ≤ s) ++ (c :: r).filter (· < s) = (p ++ [c]).filter (· ≤ s) ++ r.filter (· < s) := by rw [e1, e2]; simp
      rw [scanD_lt h] at hf ⊢
      rw [e3] at hid hpl heq hf ⊢
      exact scan_back s plain hs T r (p ++ [c]) (delta + 1) bias nd id f hl hnd hid hpl (by rw [show ((p ++ [c]).filter (· ≤ s)).length = (p.filter (· ≤ s)).length + 1 by rw [e1]; simp]; omega) hf
    · subst h
      have e1 : (p ++ [c]).filter (· ≤ c) = p.filter (· ≤ c) ++ [c] := by rw [List.filter_append]; simp
      have e2 : (c :: r).filter (· < c) = r.filter (· < c) := by rw [List.filter_cons_of_neg (by simp)]
      have e3 : (p ++ [c]).filter (· ≤ c) ++ r.filter (· < c) = p.filter (· ≤ c) ++ c :: r.filter (· < c) := by rw [e1]; simp
      have e4 : ((p ++ [c]).filter (· ≤ c) ++ r.filter (· < c)).length = (p.filter (· ≤ c) ++ r.filter (· < c)).length + 1 := by rw [e3]; simp; omega
      have hlt : (p.filter (· ≤ c) ++ r.filter (· < c)).length < 256 := by
        have h1 := filter_le_len p (· ≤ c)
        have h2 := filter_le_len r (· < c)
        simp at hl h1 h2 ⊢; omega
      rw [e2] at hid hpl heq hf ⊢
      rw [scanD_eq] at hf ⊢
      have ha : ∀ X : List Nat, (num bias delta ++ X).map some ++ T = (num bias delta).map some ++ (X.map some ++ T) := fun X => by simp
      simp only [ha] at hf ⊢
      obtain ⟨g, rfl⟩ : ∃ g, f = g + 1 := by
        have := (numF_len 64 36 bias delta).1
        simp only [List.length_append, List.length_map, num] at hf
        exact ⟨f - 1, by omega⟩
      rw [insF_step (s := c) rfl rfl hlt hs heq hnd hid]
      rw [← e3]
      have hx := scan_back c plain hs T r (p ++ [c]) 0 (adapt delta ((p.filter (· ≤ c) ++ r.filter (· < c)).length + 1) (decide ((p.filter (· ≤ c) ++ r.filter (· < c)).length = plain))) c ((p.filter (· ≤ c)).length + 1) g hl (Nat.le_refl _)
        (by rw [e4]; simp) (by rw [e4]; omega) (by rw [show ((p ++ [c]).filter (· ≤ c)).length = (p.filter (· ≤ c)).length + 1 by rw [e1]; simp]; omega)
        (by rw [e4]
            have := (numF_len 64 36 bias delta).1
            simp only [List.length_append, List.length_map, num] at hf ⊢
            omega)
      rw [e4] at hx
      rw [show decide ((p.filter (· ≤ c) ++ r.filter (· < c)).length + 1 = plain) = false from decide_eq_false (by omega)] at hx
      exact hx
    · have e1 : (p ++ [c]).filter (· ≤ s) = p.filter (· ≤ s) := by rw [List.filter_append]; simp; omega
      have e2 : (c :: r).filter (· < s) = r.filter (· < s) := by rw [List.filter_cons_of_neg (by simp; omega)]
      have e3 : p.filter (· ≤ s) ++ (c :: r).filter (· < s) = (p ++ [c]).filter (· ≤ s) ++ r.filter (· < s) := by rw [e1, e2]
      rw [scanD_gt h] at hf ⊢
      rw [e3] at hid hpl heq hf ⊢
      exact scan_back s plain hs T r (p ++ [c]) delta bias nd id f hl hnd hid hpl (by rw [e1] at heq ⊢; exact heq) hf
theorem filter_all {l : List Nat} {n : Nat} (h : l.length ≤ (l.filter (· < n)).length) : l.filter (· < n) = l := by
  refine List.filter_eq_self.2 ?_
  have := List.length_filter_eq_length_iff (p := fun c => decide (c < n)) (l := l)
  exact this.1 (Nat.le_antisymm (List.length_filter_le _ _) h)
/-- All rounds, read back. -/
theorem enc_back (l : List Nat) (plain : Nat) (hl : l.length ≤ 256) (hS : ∀ c ∈ l, isS (c : Int) = true) : ∀ (g n delta bias nd id f : Nat), l.length ≤ (l.filter (· < n)).length + g → nd ≤ n → id ≤ (l.filter (· < n)).length → plain ≤ (l.filter (· < n)).length →
    nd * ((l.filter (· < n)).length + 1) + id + delta = n * ((l.filter (· < n)).length + 1) →
    ((encD l plain g delta bias n (l.filter (· < n)).length).map some).length ≤ f →
    insF f (l.filter (· < n)) ((encD l plain g delta bias n (l.filter (· < n)).length).map some) nd id bias (decide ((l.filter (· < n)).length = plain)) = some l
  | 0, n, delta, bias, nd, id, f, hg, hnd, hid, hpl, heq, hf => by
    rw [filter_all (by omega)]
    exact insF_nil _ _ _ _ _ _
  | g + 1, n, delta, bias, nd, id, f, hg, hnd, hid, hpl, heq, hf => by
    by_cases hlt : (l.filter (· < n)).length < l.length
    · have hU : ∀ c ∈ l, c ≤ 1114111 := fun c hc => by have := isS_iff.1 (hS c hc); omega
      have hsp := least_spec (n := n) hU (by rw [List.countP_eq_length_filter]; exact hlt)
      unfold encD at hf ⊢
      rw [if_pos hlt] at hf ⊢
      simp only at hf ⊢
      generalize least l n = s at *
      obtain ⟨s1, s2, s3, s4⟩ := hsp
      have e0 : l.filter (· < s) = l.filter (· < n) := by
        refine List.filter_congr fun c hc => ?_
        have := s4 c hc
        by_cases hcn : c < n
        · simp; omega
        · simp [hcn]; omega
      have e5 : l.filter (· ≤ s) = l.filter (· < s + 1) := by
        refine List.filter_congr fun c hc => ?_
        simp; omega
      rw [List.map_append] at hf ⊢
      obtain ⟨m, rfl⟩ : ∃ m, s = n + m := ⟨s - n, by omega⟩
      have e6 : n + m - n = m := by omega
      rw [e6] at hf ⊢
      have hx := scan_back (n + m) plain (hS _ s1)
        ((encD l plain g ((scanD (n + m) plain l (delta + m * ((l.filter (· < n)).length + 1)) bias (l.filter (· < n)).length).2.1 + 1) (scanD (n + m) plain l (delta + m * ((l.filter (· < n)).length + 1)) bias (l.filter (· < n)).length).2.2.1 (n + m + 1) (scanD (n + m) plain l (delta + m * ((l.filter (· < n)).length + 1)) bias (l.filter (· < n)).length).2.2.2).map some)
        l [] (delta + m * ((l.filter (· < n)).length + 1)) bias nd id f (by simpa using hl) (by omega)
      simp only [List.filter_nil, List.nil_append, e0, List.length_nil, Nat.add_zero] at hx
      obtain ⟨nd', id', f', h1, h2, h3, h4, h5, h6⟩ := hx hid hpl (by rw [Nat.add_mul]; omega) hf
      rw [h1]
      simp only [e5] at h3 h5 h6 ⊢
      rw [h6] at h4 ⊢
      have hgrow : (l.filter (· < n)).length < (l.filter (· < n + m + 1)).length := by
        have k1 := countP_next l (n + m)
        have k2 : 0 < l.countP (· == n + m) := List.countP_pos_iff.2 ⟨_, s1, by simp⟩
        rw [List.countP_eq_length_filter, List.countP_eq_length_filter (p := fun x => decide (x < n + m)), e0] at k1
        omega
      exact enc_back l plain hl hS g (n + m + 1) _ _ nd' id' f' (by omega) (by omega) h3 (by omega) (by rw [Nat.add_mul (n + m) 1]; omega) h4
    · have hz := filter_all (n := n) (l := l) (by omega)
      rw [encD_stop _ _ _ _ _ _ _ (by omega), hz]
      exact insF_nil _ _ _ _ _ _
end Go.Proofs.YtkpkfcoljccimaaDoor
/- The walks of the small functions: threshold, adapt, a digit's letter, a letter's digit: the program's and the document's. -/
namespace Go.Proofs.YtkpkfcoljccimaaDoor
open Go.RowKit
set_option linter.unusedVariables false
set_option maxRecDepth 20000
theorem thr_calls (k b : Nat) (w : World) (hk : k ≤ 1000000) (hb : b ≤ 1000000) : Calls Tryd.prog 82 #[.int .i64 (k : Int), .int .i64 (b : Int)] w fun e w' => e = .returned (.int .i64 ((thr k b : Nat) : Int)) ∧ w' = w := by
  have hk1 : (k : Int) ≤ 1000000 := by omega
  have hb1 : (b : Int) ≤ 1000000 := by omega
  have k0 : (0 : Int) ≤ (k : Int) := by omega
  have b0 : (0 : Int) ≤ (b : Int) := by omega
  go_enter Tryd.func82, Tryd.ntmps82
  go_wp2
  all_goals
    go_ret
    exact ⟨ret_int (by unfold thr; first | omega | (rename_i h1 h2; split at h1 <;> omega)), rfl⟩
theorem rthr_calls (k b : Nat) (w : World) (hk : k ≤ 1000000) (hb : b ≤ 1000000) : Calls Tryd.prog 50 #[.int .i64 (k : Int), .int .i64 (b : Int)] w fun e w' => e = .returned (.int .i64 ((thr k b : Nat) : Int)) ∧ w' = w := by
  have hk1 : (k : Int) ≤ 1000000 := by omega
  have hb1 : (b : Int) ≤ 1000000 := by omega
  have k0 : (0 : Int) ≤ (k : Int) := by omega
  have b0 : (0 : Int) ≤ (b : Int) := by omega
  go_enter Tryd.func50, Tryd.ntmps50
  go_wp2
  all_goals
    go_ret
    exact ⟨ret_int (by unfold thr; first | omega | (rename_i h1 h2; split at h1 <;> omega)), rfl⟩
/- Letters and digits. -/
def letter (d : Nat) : UInt8 := if d < 26 then b8 (97 + d) else b8 (22 + d)
def val (c : UInt8) : Option Nat := if 97 ≤ c.toNat ∧ c.toNat ≤ 122 then some (c.toNat - 97) else if 65 ≤ c.toNat ∧ c.toNat ≤ 90 then some (c.toNat - 65) else if 48 ≤ c.toNat ∧ c.toNat ≤ 57 then some (c.toNat - 22) else none
theorem letter_nat (d : Nat) (h : d < 36) : (letter d).toNat = if d < 26 then 97 + d else 22 + d := by
  unfold letter; split <;> rw [b8_nat _ (by omega)]
theorem val_letter (d : Nat) (h : d < 36) : val (letter d) = some d := by
  unfold val
  rw [letter_nat d h]
  split <;> (repeat (split <;> try omega)) <;> (congr 1; omega)
theorem letter_calls (d : Nat) (w : World) (h : d < 36) : Calls Tryd.prog 83 #[.int .i64 (d : Int)] w fun e w' => e = .returned (.int .u8 ((letter d).toNat : Int)) ∧ w' = w := by
  rw [letter_nat d h]
  have d0 : (0 : Int) ≤ (d : Int) := by omega
  have d1 : (d : Int) < 36 := by omega
  clear h
  go_enter Tryd.func83, Tryd.ntmps83
  go_wp2
  all_goals
    go_ret
    refine ⟨ret_int ?_, rfl⟩
    first | omega | (rw [if_pos (by omega)]; omega) | (rw [if_neg (by omega)]; omega)
theorem rletter_calls (d : Nat) (w : World) (h : d < 36) : Calls Tryd.prog 51 #[.int .i64 (d : Int)] w fun e w' => e = .returned (.int .u8 ((letter d).toNat : Int)) ∧ w' = w := by
  rw [letter_nat d h]
  have d0 : (0 : Int) ≤ (d : Int) := by omega
  have d1 : (d : Int) < 36 := by omega
  clear h
  go_enter Tryd.func51, Tryd.ntmps51
  go_wp2
  all_goals
    go_ret
    refine ⟨ret_int ?_, rfl⟩
    first | omega | (rw [if_pos (by omega)]; omega) | (rw [if_neg (by omega)]; omega)
def valPair : Option Nat → Value × Value
  | some d => (.int .i64 (d : Int), .bool true)
  | none => (.int .i64 0, .bool false)
set_option maxRecDepth 20000 in
theorem digit_calls (c : UInt8) (w : World) : Calls Tryd.prog 85 #[.int .u8 (c.toNat : Int)] w fun e w' => e = .returned (.tuple #[(valPair (val c)).1, (valPair (val c)).2]) ∧ w' = w := by
  obtain ⟨x, hx⟩ : ∃ x, x = val c := ⟨_, rfl⟩
  rw [← hx]
  unfold val at hx
  have hc := byte_lt c
  generalize c.toNat = n at *
  have HX := hid hx
  clear hx
  have d0 : (0 : Int) ≤ (n : Int) := by omega
  have d1 : (n : Int) < 256 := by omega
  have hcc : (n : Int) < 48 ∨ (48 ≤ (n : Int) ∧ (n : Int) ≤ 57) ∨ (57 < (n : Int) ∧ (n : Int) < 65) ∨ (65 ≤ (n : Int) ∧ (n : Int) ≤ 90) ∨ (90 < (n : Int) ∧ (n : Int) < 97) ∨ (97 ≤ (n : Int) ∧ (n : Int) ≤ 122) ∨ 122 < (n : Int) := by omega
  clear hc
  rcases hcc with g | ⟨g1, g2⟩ | ⟨g1, g2⟩ | ⟨g1, g2⟩ | ⟨g1, g2⟩ | ⟨g1, g2⟩ | g
  all_goals
    go_enter Tryd.func85, Tryd.ntmps85
    go_wp2
    go_ret2
    refine ⟨?_, rfl⟩
    rw [HX.out]
    repeat (first | rw [if_pos (by omega)] | rw [if_neg (by omega)])
    simp [valPair]
    try omega
def valInt : Option Nat → Int
  | some d => (d : Int)
  | none => -1
set_option maxRecDepth 20000 in
theorem rvalue_calls (c : UInt8) (w : World) : Calls Tryd.prog 53 #[.int .u8 (c.toNat : Int)] w fun e w' => e = .returned (.int .i64 (valInt (val c))) ∧ w' = w := by
  obtain ⟨x, hx⟩ : ∃ x, x = val c := ⟨_, rfl⟩
  rw [← hx]
  unfold val at hx
  have hc := byte_lt c
  generalize c.toNat = n at *
  have HX := hid hx
  clear hx
  have d0 : (0 : Int) ≤ (n : Int) := by omega
  have d1 : (n : Int) < 256 := by omega
  have hcc : (n : Int) < 48 ∨ (48 ≤ (n : Int) ∧ (n : Int) ≤ 57) ∨ (57 < (n : Int) ∧ (n : Int) < 65) ∨ (65 ≤ (n : Int) ∧ (n : Int) ≤ 90) ∨ (90 < (n : Int) ∧ (n : Int) < 97) ∨ (97 ≤ (n : Int) ∧ (n : Int) ≤ 122) ∨ 122 < (n : Int) := by omega
  clear hc
  rcases hcc with g | ⟨g1, g2⟩ | ⟨g1, g2⟩ | ⟨g1, g2⟩ | ⟨g1, g2⟩ | ⟨g1, g2⟩ | g
  all_goals
    go_enter Tryd.func53, Tryd.ntmps53
    go_wp2
    go_ret
    refine ⟨?_, rfl⟩
    rw [HX.out]
    repeat (first | rw [if_pos (by omega)] | rw [if_neg (by omega)])
    simp [valInt]
    try omega
end Go.Proofs.YtkpkfcoljccimaaDoor
/- The walks of adapt. -/
namespace Go.Proofs.YtkpkfcoljccimaaDoor
open Go.RowKit
set_option linter.unusedVariables false
set_option maxRecDepth 20000
set_option maxHeartbeats 1000000 in
theorem adapt_calls (d c : Nat) (fl : Bool) (w : World) (hd : d ≤ 3000000000) (hc : 1 ≤ c) (hc2 : c ≤ 1000000) : Calls Tryd.prog 74 #[.int .i64 (d : Int), .int .i64 (c : Int), .bool fl] w fun e w' => e = .returned (.int .i64 ((adapt d c fl : Nat) : Int)) ∧ w' = w := by
  have c0 : (0 : Int) < (c : Int) := by omega
  have c1 : (c : Int) ≤ 1000000 := by omega
  obtain ⟨R, hR⟩ : ∃ R, R = adapt d c fl := ⟨_, rfl⟩
  rw [← hR]
  unfold adapt at hR
  cases fl
  · obtain ⟨x, hx⟩ : ∃ x, x = d / 2 := ⟨_, rfl⟩
    obtain ⟨y, hy⟩ : ∃ y, y = x / c := ⟨_, rfl⟩
    have e1 : (d : Int) / 2 = (x : Int) := by omega
    have e2 : (x : Int) / (c : Int) = (y : Int) := by rw [hy]; exact (Int.natCast_ediv x c).symm
    have hyx : y ≤ x := by rw [hy]; exact Nat.div_le_self _ _
    have HR : Hid (R = adF 64 (x + y) 0) := by show _ = _; rw [hR, hx.symm.symm]; simp [hy, hx]
    have HB : Hid (x + y ≤ 6000000000) := by show _ ≤ _; omega
    have d0 : (0 : Int) ≤ (d : Int) := by omega
    have d1 : (d : Int) ≤ 3000000000 := by omega
    have x0 : (0 : Int) ≤ (x : Int) := by omega
    have x1 : (x : Int) ≤ 3000000000 := by omega
    have y0 : (0 : Int) ≤ (y : Int) := by omega
    have y1 : (y : Int) ≤ 3000000000 := by omega
    clear hx hy hR hd hc hc2 hyx
    go_enter Tryd.func74, Tryd.ntmps74
    go_wp2_with fail
    go_loop [0, 7] (fun vd vb => ∃ D B f : Nat, vd = .int .i64 (D : Int) ∧ vb = .int .i64 (B : Int) ∧ R = adF f D B ∧ D < 2 ^ f ∧ D ≤ 6000000000 ∧ B + 36 * f ≤ 2304) (fun vd _ => (intOf vd).toNat)
    case atStart => exact ⟨x + y, 0, 64, by go_num, rfl, HR.out, Nat.lt_of_le_of_lt HB.out (by decide), HB.out, by decide⟩
    case round =>
      obtain ⟨D, B, f, rfl, rfl, hq, hf, hD, hBf⟩ := hrel
      clear HR HB e1 e2 x0 x1 y0 y1 d0 d1 c0 c1
      have D0 : (0 : Int) ≤ (D : Int) := by omega
      have D1 : (D : Int) ≤ 6000000000 := by omega
      have B0 : (0 : Int) ≤ (B : Int) := by omega
      have B1 : (B : Int) ≤ 2304 := by omega
      by_cases hlt : 455 < D
      · obtain ⟨g, rfl⟩ : ∃ g, f = g + 1 := by
          cases f with
          | zero => simp at hf; omega
          | succ g => exact ⟨g, rfl⟩
        obtain ⟨q, hqd⟩ : ∃ q, q = D / 35 := ⟨_, rfl⟩
        have e3 : (D : Int) / 35 = (q : Int) := by omega
        have HQ : Hid (R = adF g q (B + 36)) := by show _ = _; rw [hq, hqd]; show (if 455 < D then _ else _) = _; rw [if_pos hlt]
        have HF : Hid (q < 2 ^ g ∧ q ≤ 6000000000 ∧ B + 36 + 36 * g ≤ 2304 ∧ q < D) := by
          refine ⟨?_, by omega, by omega, by omega⟩
          rw [Nat.pow_succ] at hf; omega
        have h4 : (455 : Int) < (D : Int) := by omega
        clear hq hf hD hBf hlt hqd
        go_wp2
        go_round
        case rel => exact ⟨q, B + 36, g, rfl, by go_num, HQ.out, HF.out.1, HF.out.2.1, HF.out.2.2.1⟩
        case measure => have := HF.out.2.2.2; simp [intOf]; omega
      · have HQ : Hid (R = B + 36 * D / (D + 38)) := by
          show _ = _
          rw [hq]
          cases f with
          | zero => rfl
          | succ g => show (if 455 < D then _ else _) = _; rw [if_neg hlt]
        obtain ⟨z, hz⟩ : ∃ z, z = 36 * D / (D + 38) := ⟨_, rfl⟩
        have e4 : (36 : Int) * (D : Int) / ((D : Int) + 38) = (z : Int) := by rw [hz, Int.natCast_ediv]; simp
        have z1 : (z : Int) ≤ 36 := by have := frac_le D; omega
        have z0 : (0 : Int) ≤ (z : Int) := by omega
        have HZ := hid hz
        have h4 : (D : Int) ≤ 455 := by omega
        clear hq hf hD hBf hlt hz
        go_wp2
        go_ret
        exact ⟨ret_int (by rw [HQ.out, ← HZ.out]; omega), rfl⟩
  · obtain ⟨x, hx⟩ : ∃ x, x = d / 700 := ⟨_, rfl⟩
    obtain ⟨y, hy⟩ : ∃ y, y = x / c := ⟨_, rfl⟩
    have e1 : (d : Int) / 700 = (x : Int) := by omega
    have e2 : (x : Int) / (c : Int) = (y : Int) := by rw [hy]; exact (Int.natCast_ediv x c).symm
    have hyx : y ≤ x := by rw [hy]; exact Nat.div_le_self _ _
    have HR : Hid (R = adF 64 (x + y) 0) := by show _ = _; rw [hR, hx.symm.symm]; simp [hy, hx]
    have HB : Hid (x + y ≤ 6000000000) := by show _ ≤ _; omega
    have d0 : (0 : Int) ≤ (d : Int) := by omega
    have d1 : (d : Int) ≤ 3000000000 := by omega
    have x0 : (0 : Int) ≤ (x : Int) := by omega
    have x1 : (x : Int) ≤ 3000000000 := by omega
    have y0 : (0 : Int) ≤ (y : Int) := by omega
    have y1 : (y : Int) ≤ 3000000000 := by omega
    clear hx hy hR hd hc hc2 hyx
    go_enter Tryd.func74, Tryd.ntmps74
    go_wp2_with fail
    go_loop [0, 7] (fun vd vb => ∃ D B f : Nat, vd = .int .i64 (D : Int) ∧ vb = .int .i64 (B : Int) ∧ R = adF f D B ∧ D < 2 ^ f ∧ D ≤ 6000000000 ∧ B + 36 * f ≤ 2304) (fun vd _ => (intOf vd).toNat)
    case atStart => exact ⟨x + y, 0, 64, by go_num, rfl, HR.out, Nat.lt_of_le_of_lt HB.out (by decide), HB.out, by decide⟩
    case round =>
      obtain ⟨D, B, f, rfl, rfl, hq, hf, hD, hBf⟩ := hrel
      clear HR HB e1 e2 x0 x1 y0 y1 d0 d1 c0 c1
      have D0 : (0 : Int) ≤ (D : Int) := by omega
      have D1 : (D : Int) ≤ 6000000000 := by omega
      have B0 : (0 : Int) ≤ (B : Int) := by omega
      have B1 : (B : Int) ≤ 2304 := by omega
      by_cases hlt : 455 < D
      · obtain ⟨g, rfl⟩ : ∃ g, f = g + 1 := by
          cases f with
          | zero => simp at hf; omega
          | succ g => exact ⟨g, rfl⟩
        obtain ⟨q, hqd⟩ : ∃ q, q = D / 35 := ⟨_, rfl⟩
        have e3 : (D : Int) / 35 = (q : Int) := by omega
        have HQ : Hid (R = adF g q (B + 36)) := by show _ = _; rw [hq, hqd]; show (if 455 < D then _ else _) = _; rw [if_pos hlt]
        have HF : Hid (q < 2 ^ g ∧ q ≤ 6000000000 ∧ B + 36 + 36 * g ≤ 2304 ∧ q < D) := by
          refine ⟨?_, by omega, by omega, by omega⟩
          rw [Nat.pow_succ] at hf; omega
        have h4 : (455 : Int) < (D : Int) := by omega
        clear hq hf hD hBf hlt hqd
        go_wp2
        go_round
        case rel => exact ⟨q, B + 36, g, rfl, by go_num, HQ.out, HF.out.1, HF.out.2.1, HF.out.2.2.1⟩
        case measure => have := HF.out.2.2.2; simp [intOf]; omega
      · have HQ : Hid (R = B + 36 * D / (D + 38)) := by
          show _ = _
          rw [hq]
          cases f with
          | zero => rfl
          | succ g => show (if 455 < D then _ else _) = _; rw [if_neg hlt]
        obtain ⟨z, hz⟩ : ∃ z, z = 36 * D / (D + 38) := ⟨_, rfl⟩
        have e4 : (36 : Int) * (D : Int) / ((D : Int) + 38) = (z : Int) := by rw [hz, Int.natCast_ediv]; simp
        have z1 : (z : Int) ≤ 36 := by have := frac_le D; omega
        have z0 : (0 : Int) ≤ (z : Int) := by omega
        have HZ := hid hz
        have h4 : (D : Int) ≤ 455 := by omega
        clear hq hf hD hBf hlt hz
        go_wp2
        go_ret
        exact ⟨ret_int (by rw [HQ.out, ← HZ.out]; omega), rfl⟩
set_option maxHeartbeats 1000000 in
theorem radapt_calls (d c : Nat) (fl : Bool) (w : World) (hd : d ≤ 3000000000) (hc : 1 ≤ c) (hc2 : c ≤ 1000000) : Calls Tryd.prog 52 #[.int .i64 (d : Int), .int .i64 (c : Int), .bool fl] w fun e w' => e = .returned (.int .i64 ((adapt d c fl : Nat) : Int)) ∧ w' = w := by
  have c0 : (0 : Int) < (c : Int) := by omega
  have c1 : (c : Int) ≤ 1000000 := by omega
  obtain ⟨R, hR⟩ : ∃ R, R = adapt d c fl := ⟨_, rfl⟩
  rw [← hR]
  unfold adapt at hR
  cases fl
  · obtain ⟨x, hx⟩ : ∃ x, x = d / 2 := ⟨_, rfl⟩
    obtain ⟨y, hy⟩ : ∃ y, y = x / c := ⟨_, rfl⟩
    have e1 : (d : Int) / 2 = (x : Int) := by omega
    have e2 : (x : Int) / (c : Int) = (y : Int) := by rw [hy]; exact (Int.natCast_ediv x c).symm
    have hyx : y ≤ x := by rw [hy]; exact Nat.div_le_self _ _
    have HR : Hid (R = adF 64 (x + y) 0) := by show _ = _; rw [hR, hx.symm.symm]; simp [hy, hx]
    have HB : Hid (x + y ≤ 6000000000) := by show _ ≤ _; omega
    have d0 : (0 : Int) ≤ (d : Int) := by omega
    have d1 : (d : Int) ≤ 3000000000 := by omega
    have x0 : (0 : Int) ≤ (x : Int) := by omega
    have x1 : (x : Int) ≤ 3000000000 := by omega
    have y0 : (0 : Int) ≤ (y : Int) := by omega
    have y1 : (y : Int) ≤ 3000000000 := by omega
    clear hx hy hR hd hc hc2 hyx
    go_enter Tryd.func52, Tryd.ntmps52
    go_wp2_with fail
    go_loop [0, 7] (fun vd vb => ∃ D B f : Nat, vd = .int .i64 (D : Int) ∧ vb = .int .i64 (B : Int) ∧ R = adF f D B ∧ D < 2 ^ f ∧ D ≤ 6000000000 ∧ B + 36 * f ≤ 2304) (fun vd _ => (intOf vd).toNat)
    case atStart => exact ⟨x + y, 0, 64, by go_num, rfl, HR.out, Nat.lt_of_le_of_lt HB.out (by decide), HB.out, by decide⟩
    case round =>
      obtain ⟨D, B, f, rfl, rfl, hq, hf, hD, hBf⟩ := hrel
      clear HR HB e1 e2 x0 x1 y0 y1 d0 d1 c0 c1
      have D0 : (0 : Int) ≤ (D : Int) := by omega
      have D1 : (D : Int) ≤ 6000000000 := by omega
      have B0 : (0 : Int) ≤ (B : Int) := by omega
      have B1 : (B : Int) ≤ 2304 := by omega
      by_cases hlt : 455 < D
      · obtain ⟨g, rfl⟩ : ∃ g, f = g + 1 := by
          cases f with
          | zero => simp at hf; omega
          | succ g => exact ⟨g, rfl⟩
        obtain ⟨q, hqd⟩ : ∃ q, q = D / 35 := ⟨_, rfl⟩
        have e3 : (D : Int) / 35 = (q : Int) := by omega
        have HQ : Hid (R = adF g q (B + 36)) := by show _ = _; rw [hq, hqd]; show (if 455 < D then _ else _) = _; rw [if_pos hlt]
        have HF : Hid (q < 2 ^ g ∧ q ≤ 6000000000 ∧ B + 36 + 36 * g ≤ 2304 ∧ q < D) := by
          refine ⟨?_, by omega, by omega, by omega⟩
          rw [Nat.pow_succ] at hf; omega
        have h4 : (455 : Int) < (D : Int) := by omega
        clear hq hf hD hBf hlt hqd
        go_wp2
        go_round
        case rel => exact ⟨q, B + 36, g, rfl, by go_num, HQ.out, HF.out.1, HF.out.2.1, HF.out.2.2.1⟩
        case measure => have := HF.out.2.2.2; simp [intOf]; omega
      · have HQ : Hid (R = B + 36 * D / (D + 38)) := by
          show _ = _
          rw [hq]
          cases f with
          | zero => rfl
          | succ g => show (if 455 < D then _ else _) = _; rw [if_neg hlt]
        obtain ⟨z, hz⟩ : ∃ z, z = 36 * D / (D + 38) := ⟨_, rfl⟩
        have e4 : (36 : Int) * (D : Int) / ((D : Int) + 38) = (z : Int) := by rw [hz, Int.natCast_ediv]; simp
        have z1 : (z : Int) ≤ 36 := by have := frac_le D; omega
        have z0 : (0 : Int) ≤ (z : Int) := by omega
        have HZ := hid hz
        have h4 : (D : Int) ≤ 455 := by omega
        clear hq hf hD hBf hlt hz
        go_wp2
        go_ret
        exact ⟨ret_int (by rw [HQ.out, ← HZ.out]; omega), rfl⟩
  · obtain ⟨x, hx⟩ : ∃ x, x = d / 700 := ⟨_, rfl⟩
    obtain ⟨y, hy⟩ : ∃ y, y = x / c := ⟨_, rfl⟩
    have e1 : (d : Int) / 700 = (x : Int) := by omega
    have e2 : (x : Int) / (c : Int) = (y : Int) := by rw [hy]; exact (Int.natCast_ediv x c).symm
    have hyx : y ≤ x := by rw [hy]; exact Nat.div_le_self _ _
    have HR : Hid (R = adF 64 (x + y) 0) := by show _ = _; rw [hR, hx.symm.symm]; simp [hy, hx]
    have HB : Hid (x + y ≤ 6000000000) := by show _ ≤ _; omega
    have d0 : (0 : Int) ≤ (d : Int) := by omega
    have d1 : (d : Int) ≤ 3000000000 := by omega
    have x0 : (0 : Int) ≤ (x : Int) := by omega
    have x1 : (x : Int) ≤ 3000000000 := by omega
    have y0 : (0 : Int) ≤ (y : Int) := by omega
    have y1 : (y : Int) ≤ 3000000000 := by omega
    clear hx hy hR hd hc hc2 hyx
    go_enter Tryd.func52, Tryd.ntmps52
    go_wp2_with fail
    go_loop [0, 7] (fun vd vb => ∃ D B f : Nat, vd = .int .i64 (D : Int) ∧ vb = .int .i64 (B : Int) ∧ R = adF f D B ∧ D < 2 ^ f ∧ D ≤ 6000000000 ∧ B + 36 * f ≤ 2304) (fun vd _ => (intOf vd).toNat)
    case atStart => exact ⟨x + y, 0, 64, by go_num, rfl, HR.out, Nat.lt_of_le_of_lt HB.out (by decide), HB.out, by decide⟩
    case round =>
      obtain ⟨D, B, f, rfl, rfl, hq, hf, hD, hBf⟩ := hrel
      clear HR HB e1 e2 x0 x1 y0 y1 d0 d1 c0 c1
      have D0 : (0 : Int) ≤ (D : Int) := by omega
      have D1 : (D : Int) ≤ 6000000000 := by omega
      have B0 : (0 : Int) ≤ (B : Int) := by omega
      have B1 : (B : Int) ≤ 2304 := by omega
      by_cases hlt : 455 < D
      · obtain ⟨g, rfl⟩ : ∃ g, f = g + 1 := by
          cases f with
          | zero => simp at hf; omega
          | succ g => exact ⟨g, rfl⟩
        obtain ⟨q, hqd⟩ : ∃ q, q = D / 35 := ⟨_, rfl⟩
        have e3 : (D : Int) / 35 = (q : Int) := by omega
        have HQ : Hid (R = adF g q (B + 36)) := by show _ = _; rw [hq, hqd]; show (if 455 < D then _ else _) = _; rw [if_pos hlt]
        have HF : Hid (q < 2 ^ g ∧ q ≤ 6000000000 ∧ B + 36 + 36 * g ≤ 2304 ∧ q < D) := by
          refine ⟨?_, by omega, by omega, by omega⟩
          rw [Nat.pow_succ] at hf; omega
        have h4 : (455 : Int) < (D : Int) := by omega
        clear hq hf hD hBf hlt hqd
        go_wp2
        go_round
        case rel => exact ⟨q, B + 36, g, rfl, by go_num, HQ.out, HF.out.1, HF.out.2.1, HF.out.2.2.1⟩
        case measure => have := HF.out.2.2.2; simp [intOf]; omega
      · have HQ : Hid (R = B + 36 * D / (D + 38)) := by
          show _ = _
          rw [hq]
          cases f with
          | zero => rfl
          | succ g => show (if 455 < D then _ else _) = _; rw [if_neg hlt]
        obtain ⟨z, hz⟩ : ∃ z, z = 36 * D / (D + 38) := ⟨_, rfl⟩
        have e4 : (36 : Int) * (D : Int) / ((D : Int) + 38) = (z : Int) := by rw [hz, Int.natCast_ediv]; simp
        have z1 : (z : Int) ≤ 36 := by have := frac_le D; omega
        have z0 : (0 : Int) ≤ (z : Int) := by omega
        have HZ := hid hz
        have h4 : (D : Int) ≤ 455 := by omega
        clear hq hf hD hBf hlt hz
        go_wp2
        go_ret
        exact ⟨ret_int (by rw [HQ.out, ← HZ.out]; omega), rfl⟩
end Go.Proofs.YtkpkfcoljccimaaDoor
/- The walks of leastFrom and appendNumber. -/
namespace Go.Proofs.YtkpkfcoljccimaaDoor
open Go.RowKit
set_option linter.unusedVariables false
set_option maxRecDepth 20000
abbrev fn (c : Nat) : Value := .int .i64 (c : Int)
abbrev NRow (w : World) (v : Value) (l : List Nat) : Prop := Row fn w v l
abbrev NOwn (w : World) (base : Nat) (v : Value) (l : List Nat) : Prop := Own fn 3 w base v l
theorem drop_at {α : Type} {l : List α} {k : Nat} (h : k < l.length) : l.drop k = l[k] :: l.drop (k + 1) := by rw [List.drop_eq_getElem_cons h]
theorem Row.open {α : Type} {f : α → Value} {w w' : World} {a : Option Addr} {n cap : Nat} {l : List α} (h : Row f w (.slice a n cap) l) (hb : Below w.heap.size w w') (k : Nat) (hk : k < l.length) : ∃ b off, a = some ⟨b, off, none⟩ ∧ w'.cell? ⟨b, off + k, none⟩ = some (f l[k]) := by
  obtain ⟨a', cap', he, _, _, h3⟩ := h
  injection he with e1 e2 e3
  subst e1
  obtain ⟨b, off, rfl, hbl, hc⟩ := h3 (by intro h; simp [h] at hk)
  exact ⟨b, off, rfl, (hb.cell (p := ⟨b, off + k, none⟩) hbl).trans (hc k hk)⟩
theorem lstF_cons (a n c : Nat) (l : List Nat) : lstF a n (c :: l) = lstF (if n ≤ c then min a c else a) n l := rfl
set_option maxHeartbeats 1000000 in
theorem least_calls (v : Value) (m : List Nat) (n : Nat) (w : World) (hv : NRow w v m) (hm : ∀ c ∈ m, c ≤ 1114111) (hn : n ≤ 2000000) :
    Calls Tryd.prog 72 #[v, .int .i64 (n : Int)] w fun e w' => e = .returned (.int .i64 ((least m n : Nat) : Int)) ∧ w' = w := by
  have HV := hid hv
  have HM := hid hm
  obtain ⟨a, cap, rfl, h1, h2, h3⟩ := hv
  unfold maxLen at h2
  have n0 : (0 : Int) ≤ (n : Int) := by omega
  have n1 : (n : Int) ≤ 2000000 := by omega
  obtain ⟨R, hR⟩ : ∃ R, R = least m n := ⟨_, rfl⟩
  rw [← hR]
  unfold least at hR
  have HR := hid hR
  clear h3 hm hR hn
  go_enter Tryd.func72, Tryd.ntmps72
  go_wp2_with fail
  go_loop [5, 10] (fun vx vi => ∃ k x : Nat, k ≤ m.length ∧ vx = .int .i64 (x : Int) ∧ vi = .int .i64 (k : Int) ∧ x ≤ 2147483647 ∧ R = lstF x n (m.drop k)) (fun _ vi => m.length - (intOf vi).toNat)
  case atStart => exact ⟨0, 2147483647, Nat.zero_le _, rfl, rfl, Nat.le_refl _, by rw [List.drop_zero]; exact HR.out⟩
  case round =>
    obtain ⟨k, x, hk, rfl, rfl, hx, hr⟩ := hrel
    clear HR
    have x0 : (0 : Int) ≤ (x : Int) := by omega
    have x1 : (x : Int) ≤ 2147483647 := by omega
    by_cases hlt : k < m.length
    · obtain ⟨b, off, rfl, hck⟩ := HV.out.open (Below.refl _ _) k hlt
      have hc := HM.out m[k] (List.getElem_mem hlt)
      rw [drop_at hlt, lstF_cons] at hr
      have HK := hid hlt
      have k0 : (0 : Int) ≤ (k : Int) := by omega
      have k1 : (k : Int) < (m.length : Int) := by omega
      generalize m[k] = c at *
      have c0 : (0 : Int) ≤ (c : Int) := by omega
      have c1 : (c : Int) ≤ 1114111 := by omega
      have HRr := hid hr
      have HX := hid hx
      clear hr hx hc hk hlt
      by_cases hnc : n ≤ c
      · have g : (n : Int) ≤ (c : Int) := by omega
        have HN := hid hnc
        by_cases hxc : x ≤ c
        · have g2 : (x : Int) ≤ (c : Int) := by omega
          have g3 : ¬ (c : Int) < (x : Int) := by omega
          have HQ : Hid (R = lstF x n (m.drop (k + 1))) := by show _ = _; rw [HRr.out, if_pos hnc, Nat.min_eq_left hxc]
          clear hnc hxc HRr
          go_wp2_with fail
          go_round
          case rel => exact ⟨k + 1, x, HK.out, rfl, by go_num, HX.out, HQ.out⟩
          case measure => have := HK.out; simp [intOf]; omega
        · have g2 : ¬ (x : Int) ≤ (c : Int) := by omega
          have g3 : (c : Int) < (x : Int) := by omega
          have HQ : Hid (R = lstF c n (m.drop (k + 1))) := by show _ = _; rw [HRr.out, if_pos hnc, Nat.min_eq_right (by omega)]
          clear hnc hxc HRr
          go_wp2_with fail
          go_round
          case rel => exact ⟨k + 1, c, HK.out, rfl, by go_num, by omega, HQ.out⟩
          case measure => have := HK.out; simp [intOf]; omega
      · have g : ¬ (n : Int) ≤ (c : Int) := by omega
        have HQ : Hid (R = lstF x n (m.drop (k + 1))) := by show _ = _; rw [HRr.out, if_neg hnc]
        clear hnc HRr
        go_wp2_with fail
        go_round
        case rel => exact ⟨k + 1, x, HK.out, rfl, by go_num, HX.out, HQ.out⟩
        case measure => have := HK.out; simp [intOf]; omega
    · have HQ : Hid (R = x) := by
        show _ = _
        rw [hr, List.drop_eq_nil_of_le (by omega)]; rfl
      clear hr
      go_wp2_with fail
      go_ret
      exact ⟨ret_int (by rw [HQ.out]), rfl⟩
set_option maxHeartbeats 1000000 in
theorem number_calls (v : Value) (xs : List UInt8) (n bias : Nat) (w : World) (base : Nat) (ho : BOwn w base v xs) (hb : base ≤ w.heap.size) (hl : xs.length ≤ 500000) (hn : n ≤ 3000000000) (hbi : bias ≤ 2340) :
    Calls Tryd.prog 73 #[v, .int .i64 (n : Int), .int .i64 (bias : Int)] w fun e w' => (∃ v', e = .returned v' ∧ BOwn w' base v' (xs ++ (num bias n).map letter)) ∧ Below base w w' := by
  have b0 : (0 : Int) ≤ (bias : Int) := by omega
  have b1 : (bias : Int) ≤ 2340 := by omega
  have HO := hid ho
  have HL := hid hl
  have HN := hid hn
  have HBI := hid hbi
  have HBA := hid hb
  obtain ⟨F, hF⟩ : ∃ F, F = xs ++ (num bias n).map letter := ⟨_, rfl⟩
  rw [← hF]
  unfold num at hF
  have HF := hid hF
  clear ho hl hn hbi hF hb
  go_enter Tryd.func73, Tryd.ntmps73
  go_wp2_with fail
  go_loopw [0, 1, 7] (fun vo vn vk wr => ∃ (ys : List UInt8) (q k f : Nat), vn = .int .i64 (q : Int) ∧ vk = .int .i64 (k : Int) ∧ BOwn wr base vo ys ∧ Below base w wr ∧ F = ys ++ (numF f k bias q).map letter ∧ q < 2 ^ f ∧ q ≤ 3000000000 ∧ k + 36 * f ≤ 2340 ∧ ys.length + f ≤ 500064) (fun _ vn _ _ => (intOf vn).toNat)
  case atStart => exact ⟨xs, n, 36, 64, rfl, rfl, HO.out, Below.refl _ _, HF.out, Nat.lt_of_le_of_lt HN.out (by decide), HN.out, by decide, by have := HL.out; omega⟩
  case round =>
    obtain ⟨ys, q, k, f, rfl, rfl, ho, hbw, hq, hf, hqm, hkf, hyl⟩ := hrel
    clear HF HO HL HN
    have HT := hid (fun w' => thr_calls k bias w' (by omega) (by have := HBI.out; omega))
    have t1 := thr_ge k bias
    have t2 := thr_le k bias
    have HSz : Hid (base ≤ wr.heap.size) := Nat.le_trans HBA.out hbw.size
    have q0 : (0 : Int) ≤ (q : Int) := by omega
    have q1 : (q : Int) ≤ 3000000000 := by omega
    have k0 : (0 : Int) ≤ (k : Int) := by omega
    have k1 : (k : Int) ≤ 2340 := by omega
    by_cases hlt : q < thr k bias
    · have HE : Hid (F = ys ++ [letter q]) := by
        show _ = _
        rw [hq]
        cases f with
        | zero => show _ ++ List.map letter [q % 36] = _; rw [Nat.mod_eq_of_lt (by omega)]; rfl
        | succ g => show _ ++ List.map letter (if q < thr k bias then _ else _) = _; rw [if_pos hlt]; rfl
      have HL := hid (fun w' => letter_calls q w' (by omega))
      generalize letter q = x at *
      obtain ⟨v', w', hr, ho', hg⟩ := append_run (ho.alloc (.cells #[.int .u8 (x.toNat : Int)] 5)) (Row.lit fb wr [x] 5 (0, 0) (by simp)) (by simp; omega) (by have := HSz.out; simp; omega)
      have HO2 := hid ho'
      have HB2 := hid ((hbw.alloc HSz.out (.cells #[.int .u8 (x.toNat : Int)] 5)).grown hg (by have := HSz.out; simp; omega) (Own.lt ho))
      have g : (q : Int) < ((thr k bias : Nat) : Int) := by omega
      generalize thr k bias = t at *
      clear ho' hg ho hbw hq hf hqm hkf hyl hlt t1 t2
      go_wp2_with fail
      refine (HT.out _).mono ?_
      rintro e w1 ⟨rfl, rfl⟩
      go_wp2_with fail
      refine (HL.out _).mono ?_
      rintro e w1 ⟨rfl, rfl⟩
      go_wp2_with (at_builtin; go_must (refine wpList_append_run hr rfl _ _ rfl rfl rfl rfl ?_))
      go_ret
      exact ⟨⟨_, rfl, by rw [HE.out]; exact HO2.out⟩, HB2.out⟩
    · obtain ⟨g, rfl⟩ : ∃ g, f = g + 1 := by
        cases f with
        | zero => simp at hf; omega
        | succ g => exact ⟨g, rfl⟩
      have hnl := num_less hf t1 t2
      have hmod := Nat.mod_lt (q - thr k bias) (y := 36 - thr k bias) (by omega)
      have hdv := Nat.div_le_self (q - thr k bias) (36 - thr k bias)
      have hq2 : F = ys ++ [letter (thr k bias + (q - thr k bias) % (36 - thr k bias))] ++ (numF g (k + 36) bias ((q - thr k bias) / (36 - thr k bias))).map letter := by
        rw [hq]
        show _ ++ List.map letter (if q < thr k bias then _ else _) = _
        rw [if_neg hlt]; simp
      generalize thr k bias = t at *
      obtain ⟨r, hrm⟩ : ∃ r, r = (q - t) % (36 - t) := ⟨_, rfl⟩
      obtain ⟨z, hz⟩ : ∃ z, z = (q - t) / (36 - t) := ⟨_, rfl⟩
      have e1 : ((q : Int) - (t : Int)) % (36 - (t : Int)) = (r : Int) := by rw [hrm, Int.natCast_emod]; congr 1 <;> omega
      have e2 : ((q : Int) - (t : Int)) / (36 - (t : Int)) = (z : Int) := by rw [hz, Int.natCast_ediv]; congr 1 <;> omega
      rw [← hrm, ← hz] at hq2
      rw [← hrm] at hmod
      rw [← hz] at hnl hdv
      have HL : Hid (∀ w', Calls Tryd.prog 83 #[.int .i64 ((t : Int) + (r : Int))] w' fun e w2 => e = .returned (.int .u8 ((letter (t + r)).toNat : Int)) ∧ w2 = w') := fun w' => by
        have := letter_calls (t + r) w' (by omega)
        rwa [Int.natCast_add] at this
      generalize letter (t + r) = x at *
      obtain ⟨v', w', hr, ho', hg⟩ := append_run (ho.alloc (.cells #[.int .u8 (x.toNat : Int)] 5)) (Row.lit fb wr [x] 5 (0, 0) (by simp)) (by simp; omega) (by have := HSz.out; simp; omega)
      have HO2 := hid ho'
      have HB2 := hid ((hbw.alloc HSz.out (.cells #[.int .u8 (x.toNat : Int)] 5)).grown hg (by have := HSz.out; simp; omega) (Own.lt ho))
      have g1 : (t : Int) ≤ (q : Int) := by omega
      have g2 : ¬ (q : Int) < (t : Int) := by omega
      have t3 : (1 : Int) ≤ (t : Int) := by omega
      have t4 : (t : Int) ≤ 26 := by omega
      have r0 : (0 : Int) ≤ (r : Int) := by omega
      have r1 : (r : Int) < 36 := by omega
      have HR : Hid (F = (ys ++ [x]) ++ (numF g (k + 36) bias z).map letter ∧ z < 2 ^ g ∧ z ≤ 3000000000 ∧ k + 36 + 36 * g ≤ 2340 ∧ (ys ++ [x]).length + g ≤ 500064 ∧ z < q) := ⟨hq2, hnl, by omega, by omega, by simp; omega, by omega⟩
      clear ho' hg ho hbw hq hf hqm hkf hyl hlt t1 t2 hq2 hnl hdv hmod hrm hz
      go_wp2_with fail
      refine (HT.out _).mono ?_
      rintro e w1 ⟨rfl, rfl⟩
      go_wp2_with fail
      refine (HL.out _).mono ?_
      rintro e w1 ⟨rfl, rfl⟩
      go_wp2_with (at_builtin; go_must (refine wpList_append_run hr rfl _ _ rfl rfl rfl rfl ?_))
      go_roundw
      case rel => exact ⟨ys ++ [x], z, k + 36, g, by rw [e2], by go_num, HO2.out, HB2.out, HR.out.1, HR.out.2.1, HR.out.2.2.1, HR.out.2.2.2.1, HR.out.2.2.2.2.1⟩
      case measure => have := HR.out.2.2.2.2.2; simp [intOf, e2]; omega
end Go.Proofs.YtkpkfcoljccimaaDoor
/- The walk of appendDeltas. -/
namespace Go.Proofs.YtkpkfcoljccimaaDoor
open Go.RowKit
set_option linter.unusedVariables false
set_option maxRecDepth 20000
theorem take_countP {m : List Nat} {k s : Nat} (h : k < m.length) : (m.take (k + 1)).countP (· == s) = (m.take k).countP (· == s) + (if m[k] = s then 1 else 0) := by
  rw [List.take_succ_eq_append_getElem h, List.countP_append]
  simp [List.countP_cons]
theorem take_countP_le (m : List Nat) (k s : Nat) : (m.take k).countP (· == s) ≤ m.countP (· == s) := List.Sublist.countP_le (List.take_sublist _ _)
/-- What holds ahead of each round over the list. -/
def EncAt (m : List Nat) (plain : Nat) (F ys : List UInt8) (delta bias n done f : Nat) : Prop :=
  F = ys ++ (encD m plain f delta bias n done).map letter ∧ done = m.countP (· < n) ∧ m.length ≤ done + f ∧ delta ≤ n * 300 ∧ n ≤ 1114112 ∧ bias ≤ 2340 ∧ ys.length ≤ 1000 + 65 * done
theorem EncAt.out {m : List Nat} {plain : Nat} {F ys : List UInt8} {delta bias n done f : Nat} (h : EncAt m plain F ys delta bias n done f) : F = ys ++ (encD m plain f delta bias n done).map letter := h.1
theorem EncAt.done {m : List Nat} {plain : Nat} {F ys : List UInt8} {delta bias n done f : Nat} (h : EncAt m plain F ys delta bias n done f) : done = m.countP (· < n) := h.2.1
theorem EncAt.fuel {m : List Nat} {plain : Nat} {F ys : List UInt8} {delta bias n done f : Nat} (h : EncAt m plain F ys delta bias n done f) : m.length ≤ done + f := h.2.2.1
theorem EncAt.steps {m : List Nat} {plain : Nat} {F ys : List UInt8} {delta bias n done f : Nat} (h : EncAt m plain F ys delta bias n done f) : delta ≤ n * 300 := h.2.2.2.1
theorem EncAt.top {m : List Nat} {plain : Nat} {F ys : List UInt8} {delta bias n done f : Nat} (h : EncAt m plain F ys delta bias n done f) : n ≤ 1114112 := h.2.2.2.2.1
theorem EncAt.bias {m : List Nat} {plain : Nat} {F ys : List UInt8} {delta bias n done f : Nat} (h : EncAt m plain F ys delta bias n done f) : bias ≤ 2340 := h.2.2.2.2.2.1
theorem EncAt.len {m : List Nat} {plain : Nat} {F ys : List UInt8} {delta bias n done f : Nat} (h : EncAt m plain F ys delta bias n done f) : ys.length ≤ 1000 + 65 * done := h.2.2.2.2.2.2
/-- And within one. -/
def ScanAt (m : List Nat) (plain s : Nat) (G : List UInt8) (X : Nat × Nat × Nat) (delta0 done0 : Nat) (ys : List UInt8) (k delta bias done : Nat) : Prop :=
  k ≤ m.length ∧ G = ys ++ (scanD s plain (m.drop k) delta bias done).1.map letter ∧ (scanD s plain (m.drop k) delta bias done).2 = X ∧ done = done0 + (m.take k).countP (· == s) ∧ delta ≤ delta0 + k ∧ bias ≤ 2340 ∧ ys.length ≤ 1000 + 65 * done
theorem ScanAt.k {m : List Nat} {plain s : Nat} {G : List UInt8} {X : Nat × Nat × Nat} {delta0 done0 : Nat} {ys : List UInt8} {k delta bias done : Nat} (h : ScanAt m plain s G X delta0 done0 ys k delta bias done) : k ≤ m.length := h.1
theorem ScanAt.out {m : List Nat} {plain s : Nat} {G : List UInt8} {X : Nat × Nat × Nat} {delta0 done0 : Nat} {ys : List UInt8} {k delta bias done : Nat} (h : ScanAt m plain s G X delta0 done0 ys k delta bias done) : G = ys ++ (scanD s plain (m.drop k) delta bias done).1.map letter := h.2.1
theorem ScanAt.left {m : List Nat} {plain s : Nat} {G : List UInt8} {X : Nat × Nat × Nat} {delta0 done0 : Nat} {ys : List UInt8} {k delta bias done : Nat} (h : ScanAt m plain s G X delta0 done0 ys k delta bias done) : (scanD s plain (m.drop k) delta bias done).2 = X := h.2.2.1
theorem ScanAt.done {m : List Nat} {plain s : Nat} {G : List UInt8} {X : Nat × Nat × Nat} {delta0 done0 : Nat} {ys : List UInt8} {k delta bias done : Nat} (h : ScanAt m plain s G X delta0 done0 ys k delta bias done) : done = done0 + (m.take k).countP (· == s) := h.2.2.2.1
theorem ScanAt.steps {m : List Nat} {plain s : Nat} {G : List UInt8} {X : Nat × Nat × Nat} {delta0 done0 : Nat} {ys : List UInt8} {k delta bias done : Nat} (h : ScanAt m plain s G X delta0 done0 ys k delta bias done) : delta ≤ delta0 + k := h.2.2.2.2.1
theorem ScanAt.bias {m : List Nat} {plain s : Nat} {G : List UInt8} {X : Nat × Nat × Nat} {delta0 done0 : Nat} {ys : List UInt8} {k delta bias done : Nat} (h : ScanAt m plain s G X delta0 done0 ys k delta bias done) : bias ≤ 2340 := h.2.2.2.2.2.1
theorem ScanAt.len {m : List Nat} {plain s : Nat} {G : List UInt8} {X : Nat × Nat × Nat} {delta0 done0 : Nat} {ys : List UInt8} {k delta bias done : Nat} (h : ScanAt m plain s G X delta0 done0 ys k delta bias done) : ys.length ≤ 1000 + 65 * done := h.2.2.2.2.2.2
section
variable {m : List Nat} {plain s : Nat} {G ys : List UInt8} {X : Nat × Nat × Nat} {delta0 done0 k delta bias done : Nat}
theorem ScanAt.lt (h : ScanAt m plain s G X delta0 done0 ys k delta bias done) (hk : k < m.length) (hc : m[k] < s) : ScanAt m plain s G X delta0 done0 ys (k + 1) (delta + 1) bias done := by
  have h1 := h.out
  have h2 := h.left
  rw [drop_at hk, scanD_lt hc] at h1 h2
  exact ⟨hk, h1, h2, by rw [take_countP hk, if_neg (by omega)]; exact h.done, by have := h.steps; omega, h.bias, h.len⟩
theorem ScanAt.gt (h : ScanAt m plain s G X delta0 done0 ys k delta bias done) (hk : k < m.length) (hc : s < m[k]) : ScanAt m plain s G X delta0 done0 ys (k + 1) delta bias done := by
  have h1 := h.out
  have h2 := h.left
  rw [drop_at hk, scanD_gt hc] at h1 h2
  exact ⟨hk, h1, h2, by rw [take_countP hk, if_neg (by omega)]; exact h.done, by have := h.steps; omega, h.bias, h.len⟩
theorem ScanAt.eq (h : ScanAt m plain s G X delta0 done0 ys k delta bias done) (hk : k < m.length) (hc : m[k] = s) : ScanAt m plain s G X delta0 done0 (ys ++ (num bias delta).map letter) (k + 1) 0 (adapt delta (done + 1) (decide (done = plain))) (done + 1) := by
  have h1 := h.out
  have h2 := h.left
  have hd := h.done
  rw [drop_at hk, hc, scanD_eq] at h1 h2
  refine ⟨hk, ?_, h2, by rw [take_countP hk, if_pos hc]; omega, by omega, adapt_le _ _ _, ?_⟩
  · rw [h1]; simp
  · have := h.len
    have h3 := (numF_len 64 36 bias delta).2
    rw [List.length_append, List.length_map]
    unfold num
    omega
end
/-- A round begins. -/
theorem EncAt.scan {m : List Nat} {plain : Nat} {F ys : List UInt8} {delta bias n done f : Nat} (h : EncAt m plain F ys delta bias n done f) (hm : ∀ c ∈ m, c ≤ 1114111) (hlt : done < m.length) (hl : m.length ≤ 256) :
    ∃ (G : List UInt8) (X : Nat × Nat × Nat), least m n ∈ m ∧ n ≤ least m n ∧ least m n ≤ 1114111 ∧ done + m.countP (· == least m n) ≤ m.length ∧ delta + (least m n - n) * (done + 1) ≤ least m n * 300 ∧
      ScanAt m plain (least m n) G X (delta + (least m n - n) * (done + 1)) done ys 0 (delta + (least m n - n) * (done + 1)) bias done ∧
      ∀ (zs : List UInt8) (delta' bias' done' : Nat), ScanAt m plain (least m n) G X (delta + (least m n - n) * (done + 1)) done zs m.length delta' bias' done' → G = zs ∧ done < done' ∧ ∃ f', EncAt m plain F zs (delta' + 1) bias' (least m n + 1) done' f' := by
  obtain ⟨s1, s2, s3, s4⟩ := least_spec hm (by rw [← h.done]; exact hlt)
  have hout := h.out
  have hfu := h.fuel
  have hdn := h.done
  have hst := h.steps
  obtain ⟨f', rfl⟩ : ∃ g, f = g + 1 := ⟨f - 1, by omega⟩
  unfold encD at hout
  rw [if_pos hlt] at hout
  simp only at hout
  have hcnt : done + m.countP (· == least m n) = m.countP (· < least m n + 1) := by
    rw [countP_next, countP_le_least s4 s2, ← hdn]
  generalize least m n = s at *
  obtain ⟨a, rfl⟩ : ∃ a, s = n + a := ⟨s - n, by omega⟩
  rw [show n + a - n = a by omega] at *
  have hle : m.countP (· < n + a + 1) ≤ m.length := List.countP_le_length
  have hp : a * (done + 1) ≤ a * 300 := Nat.mul_le_mul_left _ (by omega)
  refine ⟨ys ++ (scanD (n + a) plain m (delta + a * (done + 1)) bias done).1.map letter, (scanD (n + a) plain m (delta + a * (done + 1)) bias done).2, s1, by omega, s3, by omega, by rw [Nat.add_mul]; omega, ⟨Nat.zero_le _, rfl, rfl, by simp, by omega, h.bias, h.len⟩, ?_⟩
  intro zs delta' bias' done' hz
  have z1 := hz.out
  have z2 := hz.left
  have z3 := hz.done
  have z4 := hz.steps
  rw [List.take_length] at z3
  rw [List.drop_length] at z1 z2
  simp only [scanD, List.map_nil, List.append_nil] at z1 z2
  have hpos : 0 < m.countP (· == n + a) := List.countP_pos_iff.2 ⟨_, s1, by simp⟩
  refine ⟨z1, by omega, f', ?_, by omega, by omega, ?_, by omega, hz.bias, hz.len⟩
  · rw [← z2] at hout
    rw [hout, ← z1]
    simp
  · rw [Nat.add_mul]; rw [Nat.add_mul] at *; omega
set_option maxRecDepth 20000 in
set_option maxHeartbeats 4000000 in
theorem deltas_calls (w0 : World) (v : Value) (m : List Nat) (hv : NRow w0 v m) (hl : m.length ≤ 256) (hm : ∀ c ∈ m, c ≤ 1114111) (vo : Value) (xs : List UInt8) (w : World) (ho : BOwn w w0.heap.size vo xs) (hbw : Below w0.heap.size w0 w) (hxl : xs.length ≤ 1000)
    (plain : Nat) (hp : plain = m.countP (· < 128)) :
    Calls Tryd.prog 61 #[vo, v, .int .i64 (plain : Int)] w fun e w' => (∃ v', e = .returned v' ∧ BOwn w' w0.heap.size v' (xs ++ (encD m plain m.length 0 72 128 plain).map letter)) ∧ Below w0.heap.size w0 w' := by
  have HV := hid hv
  have HM := hid hm
  have HL := hid hl
  have HO := hid ho
  have HBW := hid hbw
  obtain ⟨F, hF⟩ : ∃ F, F = xs ++ (encD m plain m.length 0 72 128 plain).map letter := ⟨_, rfl⟩
  have HS : Hid (EncAt m plain F xs 0 72 128 plain m.length) := ⟨hF, hp, by omega, by omega, by omega, by omega, by omega⟩
  have HPL : Hid (plain ≤ 256) := by show _ ≤ _; have : m.countP (· < 128) ≤ m.length := List.countP_le_length; omega
  rw [← hF]
  obtain ⟨a, cap, rfl, h1, h2, h3⟩ := hv
  unfold maxLen at h2
  have l1 : (m.length : Int) ≤ 256 := by omega
  have p0 : (0 : Int) ≤ (plain : Int) := by omega
  have p1 : (plain : Int) ≤ 256 := by have := HPL.out; omega
  clear h3 hm hl ho hbw hF hp hxl
  go_enter Tryd.func61, Tryd.ntmps61
  go_wp2_with fail
  go_loopw [0, 7, 8, 9, 10] (fun vo vd vb vn vc wr => ∃ (ys : List UInt8) (delta bias n done f : Nat), vd = .int .i64 (delta : Int) ∧ vb = .int .i64 (bias : Int) ∧ vn = .int .i64 (n : Int) ∧ vc = .int .i64 (done : Int) ∧ BOwn wr w0.heap.size vo ys ∧ Below w0.heap.size w0 wr ∧ EncAt m plain F ys delta bias n done f) (fun _ _ _ _ vc _ => m.length - (intOf vc).toNat)
  case atStart => exact ⟨xs, 0, 72, 128, plain, m.length, rfl, rfl, rfl, rfl, HO.out, HBW.out, HS.out⟩
  case round =>
    obtain ⟨ys, delta, bias, n, done, f, rfl, rfl, rfl, rfl, ho, hb, hE⟩ := hrel
    clear HS HO HBW
    have hdle : done ≤ m.length := by rw [hE.done]; exact List.countP_le_length
    have hst := hE.steps
    have htop := hE.top
    have hbi := hE.bias
    have d0 : (0 : Int) ≤ (delta : Int) := by omega
    have d1 : (delta : Int) ≤ 400000000 := by omega
    have n0 : (0 : Int) ≤ (n : Int) := by omega
    have n1 : (n : Int) ≤ 1114112 := by omega
    have c0 : (0 : Int) ≤ (done : Int) := by omega
    have c1 : (done : Int) ≤ 256 := by have := HL.out; omega
    have i0 : (0 : Int) ≤ (bias : Int) := by omega
    have i1 : (bias : Int) ≤ 2340 := by omega
    have HOy := hid ho
    have HBy := hid hb
    have HEy := hid hE
    clear ho hb hE hst htop hbi
    by_cases hlt : done < m.length
    · obtain ⟨G, X, q1, q2, q3, q4, q5, q6, q7⟩ := HEy.out.scan HM.out hlt HL.out
      have HLe := hid (fun w' (hr : NRow w' (.slice a m.length cap) m) => least_calls _ m n w' hr HM.out (by omega))
      generalize least m n = s at *
      obtain ⟨p, hpd⟩ : ∃ p, p = (s - n) * (done + 1) := ⟨_, rfl⟩
      rw [← hpd] at q5 q6 q7
      have e1 : ((s : Int) - (n : Int)) * ((done : Int) + 1) = (p : Int) := by
        rw [hpd, Int.natCast_mul, Int.natCast_add, Int.natCast_sub q2]; rfl
      have s0 : (0 : Int) ≤ (s : Int) := by omega
      have s1 : (s : Int) ≤ 1114111 := by omega
      have sn : (n : Int) ≤ (s : Int) := by omega
      have pp0 : (0 : Int) ≤ (p : Int) := by omega
      have pp1 : (delta : Int) + (p : Int) ≤ 400000000 := by omega
      have g : (done : Int) < (m.length : Int) := by omega
      have HQ4 := hid q4
      have HQ5 := hid q5
      have HQ6 := hid q6
      have HQ7 := hid q7
      have HD := hid hlt
      have HS1 := hid q3
      clear q1 q2 q3 q4 q5 q6 q7 hlt hpd hdle
      go_wp2_with fail
      refine (HLe.out _ (HV.out.below HBy.out)).mono ?_
      rintro e w1 ⟨rfl, rfl⟩
      go_wp2_with fail
      go_loopw [0, 7, 8, 10, 32] (fun vo vd vb vc vi wr => ∃ (zs : List UInt8) (k delta' bias' done' : Nat), vd = .int .i64 (delta' : Int) ∧ vb = .int .i64 (bias' : Int) ∧ vc = .int .i64 (done' : Int) ∧ vi = .int .i64 (k : Int) ∧ BOwn wr w0.heap.size vo zs ∧ Below w0.heap.size w0 wr ∧ ScanAt m plain s G X (delta + p) done zs k delta' bias' done') (fun _ _ _ _ vi _ => m.length - (intOf vi).toNat)
      case atStart => exact ⟨ys, 0, delta + p, bias, done, by go_num, rfl, rfl, rfl, HOy.out, HBy.out, HQ6.out⟩
      case round =>
        obtain ⟨zs, k, delta', bias', done', rfl, rfl, rfl, rfl, ho, hb, hA⟩ := hrel
        have HOz := hid ho
        have HBz := hid hb
        have HA := hid hA
        have hk := hA.k
        have hst := hA.steps
        have hbi := hA.bias
        have hdn : done' ≤ 256 := by
          have := hA.done
          have h1 := take_countP_le m k s
          have := HQ4.out
          have := HL.out
          omega
        have hln := hA.len
        have HZL : Hid (zs.length ≤ 500000) := by show _ ≤ _; omega
        have HSz : Hid (w0.heap.size ≤ wr.heap.size) := hb.size
        clear ho hb hA HQ6 HOy HBy HEy HLe d0 d1 c0 c1 i0 i1 pp0 hln
        have d0 : (0 : Int) ≤ (delta' : Int) := by omega
        have d1 : (delta' : Int) ≤ 400000256 := by have := HL.out; omega
        have c0 : (0 : Int) ≤ (done' : Int) := by omega
        have c1 : (done' : Int) ≤ 256 := by omega
        have i0 : (0 : Int) ≤ (bias' : Int) := by omega
        have i1 : (bias' : Int) ≤ 2340 := by omega
        have k0 : (0 : Int) ≤ (k : Int) := by omega
        by_cases hlt : k < m.length
        · obtain ⟨b, off, rfl, hck⟩ := HV.out.open HBz.out k hlt
          have k1 : (k : Int) < (m.length : Int) := by omega
          have HK := hid hlt
          have HLT := hid (HA.out.lt hlt)
          have HGT := hid (HA.out.gt hlt)
          have HEQ := hid (HA.out.eq hlt)
          have hcm := HM.out m[k] (List.getElem_mem hlt)
          generalize m[k] = c at *
          have c2 : (0 : Int) ≤ (c : Int) := by omega
          have c3 : (c : Int) ≤ 1114111 := by omega
          rcases Nat.lt_trichotomy c s with h | h | h
          · have HX := hid (HLT.out h)
            have g1 : (c : Int) < (s : Int) := by omega
            have g2 : ((c : Int) == (s : Int)) = false := by rw [beq_eq_false_iff_ne]; omega
            clear h hcm hlt hk hst hbi hdn HLT HGT HEQ
            go_wp2_with fail
            go_roundw
            case rel => exact ⟨zs, k + 1, delta' + 1, bias', done', by go_num, rfl, rfl, by go_num, HOz.out, HBz.out, HX.out⟩
            case measure => have := HK.out; simp [intOf]; omega
          · have HX := hid (HEQ.out h)
            have HN := hid (fun w' ho hb => number_calls u0 zs delta' bias' w' w0.heap.size ho hb HZL.out (by omega) (by omega))
            subst h
            by_cases hpd : done' = plain
            · subst hpd
              rw [decide_eq_true rfl] at HX
              have HAd := hid (fun w' => adapt_calls delta' (done' + 1) true w' (by omega) (by omega) (by omega))
              rw [Int.natCast_add] at HAd
              clear hcm hlt hk hst hbi hdn HLT HGT HEQ
              go_wp2_with fail
              refine (HN.out _ HOz.out HSz.out).mono ?_
              rintro e w1 ⟨⟨v', rfl, ho1⟩, hb1⟩
              have HO1 := hid ho1
              have HB1 := hid (HBz.out.trans hb1)
              clear ho1 hb1 HN hck
              go_wp2_with fail
              refine (HAd.out _).mono ?_
              rintro e w2 ⟨rfl, rfl⟩
              go_wp2_with fail
              go_roundw
              case rel => exact ⟨zs ++ (num bias' delta').map letter, k + 1, 0, _, done' + 1, rfl, rfl, by go_num, by go_num, HO1.out, HB1.out, HX.out⟩
              case measure => have := HK.out; simp [intOf]; omega
            · have q : ((done' : Int) == (plain : Int)) = false := by rw [beq_eq_false_iff_ne]; omega
              have q' : ((done' : Int) + 1 == (plain : Int) + 1) = false := by rw [beq_eq_false_iff_ne]; omega
              rw [decide_eq_false hpd] at HX
              have HAd := hid (fun w' => adapt_calls delta' (done' + 1) false w' (by omega) (by omega) (by omega))
              rw [Int.natCast_add] at HAd
              clear hcm hlt hk hst hbi hdn HLT HGT HEQ hpd
              go_wp2_with fail
              refine (HN.out _ HOz.out HSz.out).mono ?_
              rintro e w1 ⟨⟨v', rfl, ho1⟩, hb1⟩
              have HO1 := hid ho1
              have HB1 := hid (HBz.out.trans hb1)
              clear ho1 hb1 HN hck
              go_wp2_with fail
              refine (HAd.out _).mono ?_
              rintro e w2 ⟨rfl, rfl⟩
              go_wp2_with fail
              go_roundw
              case rel => exact ⟨zs ++ (num bias' delta').map letter, k + 1, 0, _, done' + 1, rfl, rfl, by go_num, by go_num, HO1.out, HB1.out, HX.out⟩
              case measure => have := HK.out; simp [intOf]; omega
          · have HX := hid (HGT.out h)
            have g1 : ¬ (c : Int) < (s : Int) := by omega
            have g2 : ((c : Int) == (s : Int)) = false := by rw [beq_eq_false_iff_ne]; omega
            clear h hcm hlt hk hst hbi hdn HLT HGT HEQ
            go_wp2_with fail
            go_roundw
            case rel => exact ⟨zs, k + 1, delta', bias', done', rfl, rfl, rfl, by go_num, HOz.out, HBz.out, HX.out⟩
            case measure => have := HK.out; simp [intOf]; omega
        · have hkl : k = m.length := by omega
          subst hkl
          obtain ⟨_, hdd, f', hE'⟩ := HQ7.out zs delta' bias' done' HA.out
          have HE' := hid hE'
          have HDD := hid hdd
          have hd2 : done' ≤ m.length := by rw [hE'.done]; exact List.countP_le_length
          have HD2 := hid hd2
          have k2 : ¬ (m.length : Int) < (m.length : Int) := by omega
          clear hE' hdd hd2 hlt hk hst hbi hdn
          go_wp2_with fail
          go_roundw
          case rel => exact ⟨zs, delta' + 1, bias', s + 1, done', f', by go_num, rfl, by go_num, rfl, HOz.out, HBz.out, HE'.out⟩
          case measure => have := HDD.out; have := HD2.out; simp [intOf]; omega
    · have HFy : Hid (F = ys) := by
        show _ = _
        have := HEy.out.out
        rwa [encD_stop _ _ _ _ _ _ _ (by omega), List.map_nil, List.append_nil] at this
      have g : ¬ (done : Int) < (m.length : Int) := by omega
      clear hlt hdle
      go_wp2_with fail
      go_ret
      exact ⟨⟨_, rfl, by rw [HFy.out]; exact HOy.out⟩, HBy.out⟩
end Go.Proofs.YtkpkfcoljccimaaDoor
/- The walk of Encode. -/
namespace Go.Proofs.YtkpkfcoljccimaaDoor
open Go.RowKit
set_option linter.unusedVariables false
set_option maxRecDepth 20000
/-- The signs below 80, as bytes. -/
def low (m : List Nat) : List UInt8 := (m.filter (· < 128)).map b8
def enc (m : List Nat) : List UInt8 := low m ++ (if m.countP (· < 128) = 0 then [] else [45]) ++ (encD m (m.countP (· < 128)) m.length 0 72 128 (m.countP (· < 128))).map letter
def nats (l : List Int) : List Nat := l.map Int.toNat
def encR (l : List Int) : ByteArray × Int := if 256 < l.length then (strOf [], 11) else if l.all isS then (strOf (enc (nats l)), 0) else (strOf [], 1)
theorem encR_long {l : List Int} (h : 256 < l.length) : encR l = (strOf [], 11) := by unfold encR; rw [if_pos h]
theorem encR_bad {l : List Int} (h : ¬ 256 < l.length) (hb : l.all isS = false) : encR l = (strOf [], 1) := by unfold encR; rw [if_neg h, hb]; rfl
theorem encR_ok {l : List Int} (h : ¬ 256 < l.length) (hb : l.all isS = true) : encR l = (strOf (enc (nats l)), 0) := by unfold encR; rw [if_neg h, hb]; rfl
theorem isS_nat {c : Int} (h : isS c = true) : ((c.toNat : Nat) : Int) = c := by have := isS_iff.1 h; omega
theorem nats_map {l : List Int} (h : l.all isS = true) : (nats l).map (fun n : Nat => (n : Int)) = l := by
  unfold nats
  rw [List.map_map]
  refine (List.map_congr_left fun c hc => ?_).trans (List.map_id _)
  exact isS_nat (List.all_eq_true.1 h c hc)
theorem nats_row {l : List Int} {w : World} {v : Value} (h : l.all isS = true) (hv : IRow w v l) : NRow w v (nats l) := by
  obtain ⟨a, cap, rfl, h1, h2, h3⟩ := hv
  have hln : (nats l).length = l.length := by simp [nats]
  refine ⟨a, cap, by rw [hln], by omega, h2, fun hne => ?_⟩
  obtain ⟨b, off, rfl, hb, hc⟩ := h3 (by intro e; subst e; exact hne rfl)
  refine ⟨b, off, rfl, hb, fun i hi => ?_⟩
  rw [hc i (by omega)]
  have : (nats l)[i] = (l[i]'(by omega)).toNat := by simp [nats]
  rw [this]
  show some (Value.int .i64 _) = some (Value.int .i64 _)
  rw [isS_nat (List.all_eq_true.1 h _ (List.getElem_mem _))]
theorem nats_le {l : List Int} (h : l.all isS = true) : ∀ c ∈ nats l, isS (c : Int) = true ∧ c ≤ 1114111 := by
  intro c hc
  obtain ⟨d, hd, rfl⟩ := List.mem_map.1 hc
  have h1 := List.all_eq_true.1 h d hd
  rw [isS_nat h1]
  have := isS_iff.1 h1
  exact ⟨h1, by omega⟩
theorem low_snoc (l : List Int) (k : Nat) (h : k < l.length) : low (nats (l.take (k + 1))) = low (nats (l.take k)) ++ (if l[k].toNat < 128 then [b8 l[k].toNat] else []) := by
  unfold low nats
  rw [List.take_succ_eq_append_getElem h, List.map_append, List.filter_append, List.map_append]
  congr 1
  by_cases hc : l[k].toNat < 128
  · simp [hc]
  · simp [hc]
theorem low_len (m : List Nat) : (low m).length = m.countP (· < 128) := by unfold low; rw [List.length_map, List.countP_eq_length_filter]
theorem low_le (m : List Nat) : (low m).length ≤ m.length := by rw [low_len]; exact List.countP_le_length
theorem nats_take_len (l : List Int) (k : Nat) : (nats (l.take k)).length ≤ l.length := by unfold nats; rw [List.length_map, List.length_take]; omega
set_option maxRecDepth 20000 in
set_option maxHeartbeats 4000000 in
theorem pencode_calls (v : Value) (l : List Int) (w : World) (hv : IRow w v l) :
    Calls Tryd.prog 42 #[v] w fun e w' => e = .returned (.tuple #[.string (encR l).1, .int .i64 (encR l).2]) ∧ Below w.heap.size w w' := by
  have HV := hid hv
  obtain ⟨a, cap, rfl, h1, h2, h3⟩ := hv
  unfold maxLen at h2
  have l0 : (l.length : Int) ≤ (cap : Int) := by omega
  have cp : (cap : Int) ≤ 9223372036854775807 := by omega
  clear h3
  by_cases hlong : 256 < l.length
  · rw [encR_long hlong]
    have g : (256 : Int) < (l.length : Int) := by omega
    clear hlong h1 h2
    go_enter Tryd.func42, Tryd.ntmps42
    go_wp2_with fail
    go_ret2
    exact ⟨rfl, Below.refl _ _⟩
  · have HLG := hid hlong
    obtain ⟨R, hR⟩ : ∃ R, R = encR l := ⟨_, rfl⟩
    rw [← hR]
    have HR := hid hR
    have g : ¬ (256 : Int) < (l.length : Int) := by omega
    have l1 : (l.length : Int) ≤ 256 := by omega
    clear hlong h1 h2 hR
    go_enter Tryd.func42, Tryd.ntmps42
    go_wp2_with fail
    go_loopw [4, 13] (fun vo vi wr => ∃ k : Nat, k ≤ l.length ∧ vi = .int .i64 (k : Int) ∧ BOwn wr w.heap.size vo (low (nats (l.take k))) ∧ Below w.heap.size w wr ∧ (l.take k).all isS = true) (fun _ vi _ => l.length - (intOf vi).toNat)
    case atStart => exact ⟨0, Nat.zero_le _, rfl, Own.nil _ _ _ _, Below.refl _ _, rfl⟩
    case round =>
      obtain ⟨k, hk, rfl, ho, hb, hall⟩ := hrel
      have HO := hid ho
      have HB := hid hb
      have HA := hid hall
      have HSz : Hid (w.heap.size ≤ wr.heap.size) := hb.size
      have k0 : (0 : Int) ≤ (k : Int) := by omega
      have HLL : Hid ((low (nats (l.take k))).length ≤ 256) := by
        show _ ≤ _
        have h1 := low_le (nats (l.take k))
        have h2 := nats_take_len l k
        have := HLG.out
        omega
      clear ho hb hall
      by_cases hlt : k < l.length
      · obtain ⟨b, off, rfl, hck⟩ := HV.out.open HB.out k hlt
        have k1 : (k : Int) < (l.length : Int) := by omega
        have HK := hid hlt
        have HSn := hid (low_snoc l k hlt)
        have HAs := hid (all_snoc l k hlt)
        have HAn := hid (all_not l k hlt)
        generalize l[k] = c at *
        have HSc := hid (fun w' => scalar_calls c w')
        by_cases hs : isS c = true
        · have hc1 := isS_iff.1 hs
          obtain ⟨n, rfl⟩ : ∃ n : Nat, c = (n : Int) := ⟨c.toNat, by omega⟩
          rw [Int.toNat_natCast] at HSn
          have HN : Hid ((l.take (k + 1)).all isS = true) := by show _ = _; rw [HAs.out, HA.out, hs]; rfl
          have n0 : (0 : Int) ≤ (n : Int) := by omega
          have n1 : (n : Int) ≤ 1114111 := by omega
          rw [hs] at HSc
          by_cases hn : n < 128
          · rw [if_pos hn] at HSn
            have e0 := b8_nat n (by omega)
            generalize b8 n = x at *
            obtain ⟨v', w', hr, ho', hg⟩ := append_run (HO.out.alloc (.cells #[.int .u8 (x.toNat : Int)] 5)) (Row.lit fb wr [x] 5 (0, 0) (by simp)) (by have := HLL.out; simp; omega) (by have := HSz.out; simp; omega)
            have HO2 := hid ho'
            have HB2 := hid ((HB.out.alloc HSz.out (.cells #[.int .u8 (x.toNat : Int)] 5)).grown hg (by have := HSz.out; simp; omega) (Own.lt HO.out))
            rw [e0] at hr
            have g1 : (n : Int) < 128 := by omega
            clear ho' hg e0 hn hs hc1 HAs HAn hlt hk
            go_wp2_with fail
            refine (HSc.out _).mono ?_
            rintro e w1 ⟨rfl, rfl⟩
            go_wp2_with (at_builtin; go_must (refine wpList_append_run hr rfl _ _ rfl rfl rfl rfl ?_))
            go_roundw
            case rel => exact ⟨k + 1, HK.out, by go_num, by rw [HSn.out]; exact HO2.out, HB2.out, HN.out⟩
            case measure => have := HK.out; simp [intOf]; omega
          · rw [if_neg hn, List.append_nil] at HSn
            have g1 : ¬ (n : Int) < 128 := by omega
            clear hn hs hc1 HAs HAn hlt hk
            go_wp2_with fail
            refine (HSc.out _).mono ?_
            rintro e w1 ⟨rfl, rfl⟩
            go_wp2_with fail
            go_roundw
            case rel => exact ⟨k + 1, HK.out, by go_num, by rw [HSn.out]; exact HO.out, HB.out, HN.out⟩
            case measure => have := HK.out; simp [intOf]; omega
        · have hs' : isS c = false := by simpa using hs
          have HX : Hid (R = (strOf [], 1)) := by show _ = _; rw [HR.out, encR_bad HLG.out (HAn.out hs')]
          rw [hs'] at HSc
          clear hs hs' HAs HAn hlt hk HSn
          go_wp2_with fail
          refine (HSc.out _).mono ?_
          rintro e w1 ⟨rfl, rfl⟩
          go_wp2_with fail
          go_ret2
          exact ⟨by rw [HX.out]; rfl, HB.out⟩
      · have hkl : k = l.length := by omega
        subst hkl
        rw [List.take_length] at HO HA HLL
        have HX : Hid (R = (strOf (enc (nats l)), 0)) := by show _ = _; rw [HR.out, encR_ok HLG.out HA.out]
        have HNR := hid (nats_row HA.out HV.out)
        have HNL := hid (nats_le HA.out)
        have hnl : (nats l).length = l.length := by simp [nats]
        have HD := hid (fun vo xs w' ho hb hx => deltas_calls w _ (nats l) HNR.out (by have := HLG.out; omega) (fun c hc => (HNL.out c hc).2) vo xs w' ho hb hx ((low (nats l)).length) (low_len _))
        have hOW := HO.out
        rcases hOW.row with ⟨a', cap', hE0, hE1, hE2, hE3⟩
        subst hE0
        unfold maxLen at hE2
        have r0 : ((low (nats l)).length : Int) ≤ (cap' : Int) := by omega
        have r1 : (cap' : Int) ≤ 9223372036854775807 := by omega
        have r2 : ((low (nats l)).length : Int) ≤ 256 := by have := HLL.out; omega
        have HENC : Hid (enc (nats l) = low (nats l) ++ (if (low (nats l)).length = 0 then [] else [45]) ++ (encD (nats l) (low (nats l)).length (nats l).length 0 72 128 (low (nats l)).length).map letter) := by show _ = _; unfold enc; rw [low_len]
        have k2 : ¬ (l.length : Int) < (l.length : Int) := by omega
        clear hOW hE1 hE2 hE3 hk hlt
        generalize low (nats l) = L at *
        by_cases hz : L.length = 0
        · have HE : Hid (enc (nats l) = L ++ (encD (nats l) L.length (nats l).length 0 72 128 L.length).map letter) := by show _ = _; rw [HENC.out, if_pos hz, List.append_nil]
          have g3 : ¬ (0 : Int) < (L.length : Int) := by omega
          clear hz HENC hnl
          go_wp2_with fail
          refine (HD.out _ _ _ HO.out HB.out (by have := HLL.out; omega)).mono ?_
          rintro e w1 ⟨⟨v', rfl, ho1⟩, hb1⟩
          have hs := run_string ho1.row
          have HB1 := hid hb1
          rw [← HE.out] at hs
          clear ho1 hb1
          go_wp2_with fail
          go_ret2
          exact ⟨by rw [HX.out]; rfl, HB1.out⟩
        · have HE : Hid (enc (nats l) = L ++ [45] ++ (encD (nats l) L.length (nats l).length 0 72 128 L.length).map letter) := by show _ = _; rw [HENC.out, if_neg hz]
          obtain ⟨v', w', hr, ho', hg⟩ := append_run (HO.out.alloc (.cells #[.int .u8 45] 5)) (Row.lit fb wr [45] 5 (0, 0) (by simp)) (by have := HLL.out; simp; omega) (by have := HSz.out; simp; omega)
          have HO2 := hid ho'
          have HB2 := hid ((HB.out.alloc HSz.out (.cells #[.int .u8 45] 5)).grown hg (by have := HSz.out; simp; omega) (Own.lt HO.out))
          have g3 : (0 : Int) < (L.length : Int) := by omega
          clear hz HENC hnl ho' hg
          go_wp2_with (at_builtin; go_must (refine wpList_append_run hr rfl _ _ rfl rfl rfl rfl ?_))
          refine (HD.out _ _ _ HO2.out HB2.out (by have := HLL.out; simp; omega)).mono ?_
          rintro e w1 ⟨⟨v', rfl, ho1⟩, hb1⟩
          have hs := run_string ho1.row
          have HB1 := hid hb1
          rw [← HE.out] at hs
          clear ho1 hb1
          go_wp2_with fail
          go_ret2
          exact ⟨by rw [HX.out]; rfl, HB1.out⟩
end Go.Proofs.YtkpkfcoljccimaaDoor
/- The walks of signs as bytes and as a text: Encode, Text (the program's and the document's); ints held against each other. -/
namespace Go.Proofs.YtkpkfcoljccimaaDoor
open Go.RowKit
set_option linter.unusedVariables false
set_option maxRecDepth 20000
set_option maxHeartbeats 1000000 in
theorem sign_calls (c : Nat) (w : World) (hc : c ≤ 1114111) :
    Calls Tryd.prog 49 #[.int .i64 (c : Int)] w fun e w' => (∃ v, e = .returned v ∧ BRow w' v (encN c)) ∧ Below w.heap.size w w' := by
  by_cases h1 : c < 128
  · rw [enc1 h1]
    have e0 := b8_nat c (by omega)
    generalize b8 c = x at *
    have HR : Hid (BRow (w.alloc (.cells #[.int .u8 (c : Int)] 5)) (.slice (some ⟨w.heap.size, 0, none⟩) 1 1) [x]) := by rw [← e0]; exact Row.lit fb w [x] 5 (0, 0) (by simp)
    have g1 : (c : Int) < 128 := by omega
    clear e0 hc h1
    go_enter Tryd.func49, Tryd.ntmps49
    go_wp2
    go_ret
    exact ⟨⟨_, rfl, HR.out⟩, (Below.refl _ _).alloc (Nat.le_refl _) _⟩
  · have l0 := low6 c (by omega)
    have k0 : c % 64 < 64 := Nat.mod_lt _ (by decide)
    have n0 := i64mark 128 (c % 64) 6 2 rfl k0 (by omega)
    by_cases h2 : c < 2048
    · rw [enc2 h1 h2]
      obtain ⟨p1, q1⟩ : ∃ p : Nat, p = c / 64 := ⟨_, rfl⟩
      have d1 : (c : Int) / 64 = (p1 : Int) := by omega
      have m1 := i64mark 192 p1 6 3 rfl (by omega) (by omega)
      rw [show ((192 : Nat) : Int) = 192 from rfl] at m1
      rw [show ((128 : Nat) : Int) = 128 from rfl] at n0
      rw [← q1]
      clear q1
      generalize c % 64 = r0 at *
      generalize b8 (192 + p1) = x0 at *
      generalize b8 (128 + r0) = x1 at *
      have HR := hid (Row.lit fb w [x0, x1] 5 (0, 0) (by simp))
      have y0 := byte_lt x0
      have y1 := byte_lt x1
      have g1 : ¬ (c : Int) < 128 := by omega
      have g2 : (c : Int) < 2048 := by omega
      clear hc h1 h2 k0
      go_enter Tryd.func49, Tryd.ntmps49
      go_wp2
      go_ret
      exact ⟨⟨_, rfl, HR.out⟩, (Below.refl _ _).alloc (Nat.le_refl _) _⟩
    · obtain ⟨p1, q1⟩ : ∃ p : Nat, p = c / 64 := ⟨_, rfl⟩
      obtain ⟨p2, q2⟩ : ∃ p : Nat, p = c / 4096 := ⟨_, rfl⟩
      have d1 : (c : Int) / 64 = (p1 : Int) := by omega
      have d2 : (c : Int) / 4096 = (p2 : Int) := by omega
      have l1 := low6 p1 (by omega)
      have k1 : p1 % 64 < 64 := Nat.mod_lt _ (by decide)
      have n1 := i64mark 128 (p1 % 64) 6 2 rfl k1 (by omega)
      by_cases h3 : c < 65536
      · rw [enc3 h2 h3]
        have m1 := i64mark 224 p2 5 7 rfl (by omega) (by omega)
        rw [show ((224 : Nat) : Int) = 224 from rfl] at m1
        rw [show ((128 : Nat) : Int) = 128 from rfl] at n0 n1
        rw [← q1, ← q2]
        clear q1 q2
        generalize c % 64 = r0 at *
        generalize p1 % 64 = r1 at *
        generalize b8 (224 + p2) = x0 at *
        generalize b8 (128 + r1) = x1 at *
        generalize b8 (128 + r0) = x2 at *
        have HR := hid (Row.lit fb w [x0, x1, x2] 5 (0, 0) (by simp))
        have y0 := byte_lt x0
        have y1 := byte_lt x1
        have y2 := byte_lt x2
        have g1 : ¬ (c : Int) < 128 := by omega
        have g2 : ¬ (c : Int) < 2048 := by omega
        have g3 : (c : Int) < 65536 := by omega
        clear hc h1 h2 h3 k0 k1
        go_enter Tryd.func49, Tryd.ntmps49
        go_wp2
        go_ret
        exact ⟨⟨_, rfl, HR.out⟩, (Below.refl _ _).alloc (Nat.le_refl _) _⟩
      · rw [enc4 h3]
        obtain ⟨p3, q3⟩ : ∃ p : Nat, p = c / 262144 := ⟨_, rfl⟩
        have d3 : (c : Int) / 262144 = (p3 : Int) := by omega
        have l2 := low6 p2 (by omega)
        have k2 : p2 % 64 < 64 := Nat.mod_lt _ (by decide)
        have n2 := i64mark 128 (p2 % 64) 6 2 rfl k2 (by omega)
        have m1 := i64mark 240 p3 4 15 rfl (by omega) (by omega)
        rw [show ((240 : Nat) : Int) = 240 from rfl] at m1
        rw [show ((128 : Nat) : Int) = 128 from rfl] at n0 n1 n2
        rw [← q1, ← q2, ← q3]
        clear q1 q2 q3
        generalize c % 64 = r0 at *
        generalize p1 % 64 = r1 at *
        generalize p2 % 64 = r2 at *
        generalize b8 (240 + p3) = x0 at *
        generalize b8 (128 + r2) = x1 at *
        generalize b8 (128 + r1) = x2 at *
        generalize b8 (128 + r0) = x3 at *
        have HR := hid (Row.lit fb w [x0, x1, x2, x3] 5 (0, 0) (by simp))
        have y0 := byte_lt x0
        have y1 := byte_lt x1
        have y2 := byte_lt x2
        have y3 := byte_lt x3
        have g1 : ¬ (c : Int) < 128 := by omega
        have g2 : ¬ (c : Int) < 2048 := by omega
        have g3 : ¬ (c : Int) < 65536 := by omega
        clear hc h1 h2 h3 k0 k1 k2
        go_enter Tryd.func49, Tryd.ntmps49
        go_wp2
        go_ret
        exact ⟨⟨_, rfl, HR.out⟩, (Below.refl _ _).alloc (Nat.le_refl _) _⟩

/-- What Encode answers. -/
def EncPost (l : List Int) (w : World) (e : Ending) (w' : World) : Prop := (∃ v, e = .returned (.tuple #[v, .int .i64 (errE l)]) ∧ BRow w' v (bytesE l)) ∧ Below w.heap.size w w'
theorem EncPost.yes {l : List Int} {w w' : World} {v : Value} (h : l.all isS = true) (hv : BRow w' v (encL l)) (hb : Below w.heap.size w w') : EncPost l w (.returned (.tuple #[v, .int .i64 0])) w' := by
  refine ⟨⟨v, ?_, ?_⟩, hb⟩
  · unfold errE; rw [if_pos h]
  · unfold bytesE; rw [if_pos h]; exact hv
theorem EncPost.no {l : List Int} {w w' : World} (h : l.all isS = false) (hb : Below w.heap.size w w') : EncPost l w (.returned (.tuple #[.slice none 0 0, .int .i64 1])) w' := by
  refine ⟨⟨.slice none 0 0, ?_, ?_⟩, hb⟩
  · unfold errE; rw [if_neg (by rw [h]; decide)]
  · unfold bytesE; rw [if_neg (by rw [h]; decide)]; exact Row.nil _ _
theorem enc_sofar (l : List Int) (k : Nat) (hl : l.length ≤ 100000) : (encL (l.take k)).length ≤ 400000 := by
  have := encL_len (l.take k)
  rw [List.length_take] at this
  omega
theorem text_sofar (l : List Int) (k : Nat) (hl : l.length ≤ 100000) : (encL ((l.take k).map fix)).length ≤ 400000 := by
  have := encL_len ((l.take k).map fix)
  rw [List.length_map, List.length_take] at this
  omega
theorem fix_yes {c : Int} (h : isS c = true) : fix c = c := by unfold fix; rw [if_pos h]
theorem fix_no {c : Int} (h : isS c = false) : fix c = 65533 := by unfold fix; rw [if_neg (by rw [h]; decide)]
set_option maxHeartbeats 1000000 in
theorem text_calls (v : Value) (l : List Int) (w : World) (hv : IRow w v l) (hl : l.length ≤ 100000) :
    Calls Tryd.prog 21 #[v] w fun e w' => e = .returned (.string (strOf (textL l))) ∧ Below w.heap.size w w' := by
  obtain ⟨a, cap, rfl, h1, h2, h3⟩ := hv
  have hmk := makeB l.length (by omega)
  have H3 := hid h3
  have HL := hid hl
  clear h3 hl
  unfold maxLen at h2
  go_enter Tryd.func21, Tryd.ntmps21
  go_wp2
  go_loopw [3, 11] (fun v i wr => ∃ k : Nat, k ≤ l.length ∧ i = .int .i64 k ∧ BOwn wr w.heap.size v (encL ((l.take k).map fix)) ∧ Below w.heap.size w wr) (fun _ i _ => l.length - (intOf i).toNat)
  case atStart => exact ⟨0, Nat.zero_le _, rfl, Own.made fb 5 w _ _ (size_madeCells _ _) (by have := HL.out; omega), (Below.refl _ _).alloc (Nat.le_refl _) _⟩
  case round =>
    obtain ⟨k, hk, rfl, ho, hb⟩ := hrel
    clear hmk
    by_cases hlt : k < l.length
    · obtain ⟨b, off, rfl, hbl, hc⟩ := H3.out (by intro h; simp [h] at hlt)
      have hck : wr.cell? ⟨b, off + k, none⟩ = some (.int .i64 l[k]) := (hb.cell (p := ⟨b, off + k, none⟩) hbl).trans (hc k hlt)
      clear hc
      have HN := hid (text_snoc l k hlt)
      have HS := hid hb.size
      have HE := hid (text_sofar l k HL.out)
      have HO := hid ho
      have HB := hid hb
      clear ho hb
      generalize l[k] = c at *
      have k1 : (k : Int) < (l.length : Int) := by omega
      go_wp2_with fail
      refine (scalar_calls _ _).mono ?_
      rintro e w1 ⟨rfl, rfl⟩
      cases hs : isS c with
      | false =>
        rw [fix_no hs] at HN
        have HC := hid (appendSign_calls _ _ 65533 w1 _ HO.out HS.out (by have := HE.out; omega) (by decide))
        clear hs
        go_wp2_with fail
        refine HC.out.mono ?_
        rintro e w2 ⟨⟨v2, rfl, ho2⟩, hb2⟩
        have HO2 := hid ho2
        have HB2 := hid (HB.out.trans hb2)
        clear ho2 hb2 HO HB hck
        go_wp2_with fail
        go_roundw
        case rel => exact ⟨k + 1, by omega, by go_num, by rw [HN.out]; exact HO2.out, HB2.out⟩
        case measure => simp [intOf]; omega
      | true =>
        rw [fix_yes hs] at HN
        have hc := isS_iff.1 hs
        obtain ⟨n, rfl⟩ := Int.eq_ofNat_of_zero_le hc.1
        have HC := hid (appendSign_calls _ _ n w1 _ HO.out HS.out (by have := HE.out; omega) (by omega))
        clear hs hc
        go_wp2_with fail
        refine HC.out.mono ?_
        rintro e w2 ⟨⟨v2, rfl, ho2⟩, hb2⟩
        have HO2 := hid ho2
        have HB2 := hid (HB.out.trans hb2)
        clear ho2 hb2 HO HB hck
        go_wp2_with fail
        go_roundw
        case rel => exact ⟨k + 1, by omega, by go_num, by rw [HN.out]; exact HO2.out, HB2.out⟩
        case measure => simp [intOf]; omega
    · have hr := run_string (by have := ho.row; rwa [List.take_of_length_le (by omega)] at this : BRow wr _ (textL l))
      have HB := hid hb
      clear ho hb
      go_wp2
      go_ret
      exact ⟨rfl, HB.out⟩
set_option maxHeartbeats 1000000 in
theorem rtext_calls (v : Value) (l : List Int) (w : World) (hv : IRow w v l) (hl : l.length ≤ 100000) :
    Calls Tryd.prog 24 #[v] w fun e w' => e = .returned (.string (strOf (textL l))) ∧ Below w.heap.size w w' := by
  obtain ⟨a, cap, rfl, h1, h2, h3⟩ := hv
  have H3 := hid h3
  have HL := hid hl
  clear h3 hl
  unfold maxLen at h2
  go_enter Tryd.func24, Tryd.ntmps24
  go_wp2
  go_loopw [3, 4] (fun v i wr => ∃ k : Nat, k ≤ l.length ∧ i = .int .i64 k ∧ BOwn wr w.heap.size v (encL ((l.take k).map fix)) ∧ Below w.heap.size w wr) (fun _ i _ => l.length - (intOf i).toNat)
  case atStart => exact ⟨0, Nat.zero_le _, rfl, Own.nil _ _ _ _, Below.refl _ _⟩
  case round =>
    obtain ⟨k, hk, rfl, ho, hb⟩ := hrel
    by_cases hlt : k < l.length
    · obtain ⟨b, off, rfl, hbl, hc⟩ := H3.out (by intro h; simp [h] at hlt)
      have hck : wr.cell? ⟨b, off + k, none⟩ = some (.int .i64 l[k]) := (hb.cell (p := ⟨b, off + k, none⟩) hbl).trans (hc k hlt)
      clear hc
      have HN := hid (text_snoc l k hlt)
      have HS := hid hb.size
      have HE := hid (text_sofar l k HL.out)
      have HO := hid ho
      have HB := hid hb
      clear ho hb
      generalize l[k] = c at *
      have k1 : (k : Int) < (l.length : Int) := by omega
      go_wp2_with fail
      refine (rscalar_calls _ _).mono ?_
      rintro e w1 ⟨rfl, rfl⟩
      cases hs : isS c with
      | false =>
        rw [fix_no hs] at HN
        have HC := hid (sign_calls 65533 w1 (by decide))
        clear hs
        go_wp2_with fail
        refine HC.out.mono ?_
        rintro e w2 ⟨⟨v2, rfl, ho2⟩, hb2⟩
        obtain ⟨v3, w3, hr, ho3, hg⟩ := append_run (HO.out.below hb2) ho2 (by have := HE.out; have := (enc_len 65533).2; omega) (Nat.le_trans HS.out hb2.size)
        have HO3 := hid ho3
        have HB3 := hid ((HB.out.trans (hb2.mono HS.out)).grown hg (Nat.le_trans HS.out hb2.size) (Own.lt HO.out))
        clear ho2 hb2 HO HB hck ho3 hg HC
        go_wp2_with (at_builtin; go_must (refine wpList_append_run hr rfl _ _ rfl rfl rfl rfl ?_))
        go_roundw
        case rel => exact ⟨k + 1, by omega, by go_num, by rw [HN.out]; exact HO3.out, HB3.out⟩
        case measure => simp [intOf]; omega
      | true =>
        rw [fix_yes hs] at HN
        have hc := isS_iff.1 hs
        obtain ⟨n, rfl⟩ := Int.eq_ofNat_of_zero_le hc.1
        have HC := hid (sign_calls n w1 (by omega))
        clear hs hc
        go_wp2_with fail
        refine HC.out.mono ?_
        rintro e w2 ⟨⟨v2, rfl, ho2⟩, hb2⟩
        obtain ⟨v3, w3, hr, ho3, hg⟩ := append_run (HO.out.below hb2) ho2 (by have := HE.out; have := (enc_len n).2; omega) (Nat.le_trans HS.out hb2.size)
        have HO3 := hid ho3
        have HB3 := hid ((HB.out.trans (hb2.mono HS.out)).grown hg (Nat.le_trans HS.out hb2.size) (Own.lt HO.out))
        clear ho2 hb2 HO HB hck ho3 hg HC
        go_wp2_with (at_builtin; go_must (refine wpList_append_run hr rfl _ _ rfl rfl rfl rfl ?_))
        go_roundw
        case rel => exact ⟨k + 1, by omega, by go_num, by rw [HN.out]; exact HO3.out, HB3.out⟩
        case measure => simp [intOf]; omega
    · have hr := run_string (by have := ho.row; rwa [List.take_of_length_le (by omega)] at this : BRow wr _ (textL l))
      have HB := hid hb
      clear ho hb
      go_wp2
      go_ret
      exact ⟨rfl, HB.out⟩
end Go.Proofs.YtkpkfcoljccimaaDoor
/- The walk of the document's Puny. -/
namespace Go.Proofs.YtkpkfcoljccimaaDoor
open Go.RowKit
set_option linter.unusedVariables false
set_option maxRecDepth 20000
theorem least_ref {m : List Nat} {n : Nat} (hm : ∀ c ∈ m, c ≤ 1114111) (hd : m.countP (· < n) < m.length) : lstF 1114112 n m = least m n := by
  obtain ⟨h1, h2, _, _⟩ := least_spec hm hd
  exact lstF_start m _ _ n (fun c hc => by have := hm c hc; omega) (fun c hc => by have := hm c hc; omega) ⟨_, h1, h2⟩
/-- Within a number. -/
def NumAt (F : List UInt8) (bias : Nat) (ys : List UInt8) (q k f : Nat) : Prop := F = ys ++ (numF f k bias q).map letter ∧ q < 2 ^ f ∧ q ≤ 3000000000 ∧ k + 36 * f ≤ 2340 ∧ ys.length + f ≤ 500064
theorem NumAt.start (xs : List UInt8) (bias n : Nat) (hn : n ≤ 3000000000) (hl : xs.length ≤ 500000) : NumAt (xs ++ (num bias n).map letter) bias xs n 36 64 :=
  ⟨rfl, Nat.lt_of_le_of_lt hn (by decide), hn, by decide, by omega⟩
theorem NumAt.last {F : List UInt8} {bias : Nat} {ys : List UInt8} {q k f : Nat} (h : NumAt F bias ys q k f) (hlt : q < thr k bias) : F = ys ++ [letter q] := by
  have t2 := thr_le k bias
  rw [h.1]
  cases f with
  | zero => show _ ++ List.map letter [q % 36] = _; rw [Nat.mod_eq_of_lt (by omega)]; rfl
  | succ g => show _ ++ List.map letter (if q < thr k bias then _ else _) = _; rw [if_pos hlt]; rfl
theorem NumAt.next {F : List UInt8} {bias : Nat} {ys : List UInt8} {q k f : Nat} (h : NumAt F bias ys q k f) (hlt : ¬ q < thr k bias) : ∃ g, NumAt F bias (ys ++ [letter (thr k bias + (q - thr k bias) % (36 - thr k bias))]) ((q - thr k bias) / (36 - thr k bias)) (k + 36) g ∧ (q - thr k bias) / (36 - thr k bias) < q := by
  have t1 := thr_ge k bias
  have t2 := thr_le k bias
  obtain ⟨hq, hf, hqm, hkf, hyl⟩ := h
  obtain ⟨g, rfl⟩ : ∃ g, f = g + 1 := by
    cases f with
    | zero => simp at hf; omega
    | succ g => exact ⟨g, rfl⟩
  have hdv := Nat.div_le_self (q - thr k bias) (36 - thr k bias)
  refine ⟨g, ⟨?_, num_less hf t1 t2, by omega, by omega, by simp; omega⟩, by omega⟩
  rw [hq]
  show _ ++ List.map letter (if q < thr k bias then _ else _) = _
  rw [if_neg hlt]; simp
end Go.Proofs.YtkpkfcoljccimaaDoor
/- The walk of the document's Puny, without own signs. -/
namespace Go.Proofs.YtkpkfcoljccimaaDoor
open Go.RowKit
set_option linter.unusedVariables false
set_option maxRecDepth 20000
set_option maxRecDepth 50000 in
set_option maxHeartbeats 40000000 in
theorem puny_a (v : Value) (l : List Int) (w : World) (hv : IRow w v l) (hzz : (low (nats l)).length = 0) :
    Calls Tryd.prog 27 #[v] w fun e w' => e = .returned (.tuple #[.string (encR l).1, .int .i64 (encR l).2]) ∧ Below w.heap.size w w' := by
  have HV := hid hv
  have HZZ := hid hzz
  clear hzz
  obtain ⟨a, cap, rfl, h1, h2, h3⟩ := hv
  unfold maxLen at h2
  have l0 : (l.length : Int) ≤ (cap : Int) := by omega
  have cp : (cap : Int) ≤ 9223372036854775807 := by omega
  clear h3
  by_cases hlong : 256 < l.length
  · rw [encR_long hlong]
    have g : (256 : Int) < (l.length : Int) := by omega
    clear hlong h1 h2
    go_enter Tryd.func27, Tryd.ntmps27
    go_wp2_with fail
    go_ret2
    exact ⟨rfl, Below.refl _ _⟩
  · have HLG := hid hlong
    obtain ⟨R, hR⟩ : ∃ R, R = encR l := ⟨_, rfl⟩
    rw [← hR]
    have HR := hid hR
    have g : decide ((256 : Int) < (l.length : Int)) = false := decide_eq_false (by omega)
    have l1 : (l.length : Int) ≤ 256 := by omega
    clear hlong h1 h2 hR
    go_enter Tryd.func27, Tryd.ntmps27
    go_wp2_with fail
    go_loopw [4, 5] (fun vo vi wr => ∃ k : Nat, k ≤ l.length ∧ vi = .int .i64 (k : Int) ∧ BOwn wr w.heap.size vo (low (nats (l.take k))) ∧ Below w.heap.size w wr ∧ (l.take k).all isS = true) (fun _ vi _ => l.length - (intOf vi).toNat)
    case atStart => exact ⟨0, Nat.zero_le _, rfl, Own.nil _ _ _ _, Below.refl _ _, rfl⟩
    case round =>
      obtain ⟨k, hk, rfl, ho, hb, hall⟩ := hrel
      have HO := hid ho
      have HB := hid hb
      have HA := hid hall
      have HSz : Hid (w.heap.size ≤ wr.heap.size) := hb.size
      have k0 : (0 : Int) ≤ (k : Int) := by omega
      have HLL : Hid ((low (nats (l.take k))).length ≤ 256) := by
        show _ ≤ _
        have h1 := low_le (nats (l.take k))
        have h2 := nats_take_len l k
        have := HLG.out
        omega
      clear ho hb hall
      by_cases hlt : k < l.length
      · obtain ⟨b, off, rfl, hck⟩ := HV.out.open HB.out k hlt
        have k1 : (k : Int) < (l.length : Int) := by omega
        have HK := hid hlt
        have HSn := hid (low_snoc l k hlt)
        have HAs := hid (all_snoc l k hlt)
        have HAn := hid (all_not l k hlt)
        generalize l[k] = c at *
        have HSc := hid (fun w' => rscalar_calls c w')
        by_cases hs : isS c = true
        · have hc1 := isS_iff.1 hs
          obtain ⟨n, rfl⟩ : ∃ n : Nat, c = (n : Int) := ⟨c.toNat, by omega⟩
          rw [Int.toNat_natCast] at HSn
          have HN : Hid ((l.take (k + 1)).all isS = true) := by show _ = _; rw [HAs.out, HA.out, hs]; rfl
          have n0 : (0 : Int) ≤ (n : Int) := by omega
          have n1 : (n : Int) ≤ 1114111 := by omega
          rw [hs] at HSc
          by_cases hn : n < 128
          · rw [if_pos hn] at HSn
            have e0 := b8_nat n (by omega)
            generalize b8 n = x at *
            obtain ⟨v', w', hr, ho', hg⟩ := append_run (HO.out.alloc (.cells #[.int .u8 (x.toNat : Int)] 5)) (Row.lit fb wr [x] 5 (0, 0) (by simp)) (by have := HLL.out; simp; omega) (by have := HSz.out; simp; omega)
            have HO2 := hid ho'
            have HB2 := hid ((HB.out.alloc HSz.out (.cells #[.int .u8 (x.toNat : Int)] 5)).grown hg (by have := HSz.out; simp; omega) (Own.lt HO.out))
            rw [e0] at hr
            have g1 : (n : Int) < 128 := by omega
            clear ho' hg e0 hn hs hc1 HAs HAn hlt hk
            go_wp2_with fail
            refine (HSc.out _).mono ?_
            rintro e w1 ⟨rfl, rfl⟩
            go_wp2_with (at_builtin; go_must (refine wpList_append_run hr rfl _ _ rfl rfl rfl rfl ?_))
            go_roundw
            case rel => exact ⟨k + 1, HK.out, by go_num, by rw [HSn.out]; exact HO2.out, HB2.out, HN.out⟩
            case measure => have := HK.out; simp [intOf]; omega
          · rw [if_neg hn, List.append_nil] at HSn
            have g1 : ¬ (n : Int) < 128 := by omega
            clear hn hs hc1 HAs HAn hlt hk
            go_wp2_with fail
            refine (HSc.out _).mono ?_
            rintro e w1 ⟨rfl, rfl⟩
            go_wp2_with fail
            go_roundw
            case rel => exact ⟨k + 1, HK.out, by go_num, by rw [HSn.out]; exact HO.out, HB.out, HN.out⟩
            case measure => have := HK.out; simp [intOf]; omega
        · have hs' : isS c = false := by simpa using hs
          have HX : Hid (R = (strOf [], 1)) := by show _ = _; rw [HR.out, encR_bad HLG.out (HAn.out hs')]
          rw [hs'] at HSc
          clear hs hs' HAs HAn hlt hk HSn
          go_wp2_with fail
          refine (HSc.out _).mono ?_
          rintro e w1 ⟨rfl, rfl⟩
          go_wp2_with fail
          go_ret2
          exact ⟨by rw [HX.out]; rfl, HB.out⟩
      · have hkl : k = l.length := by omega
        subst hkl
        rw [List.take_length] at HO HA HLL
        have HX : Hid (R = (strOf (enc (nats l)), 0)) := by show _ = _; rw [HR.out, encR_ok HLG.out HA.out]
        have HNR := hid (nats_row HA.out HV.out)
        have HNL : Hid (∀ c ∈ nats l, c ≤ 1114111) := fun c hc => (nats_le HA.out c hc).2
        have hnl : (nats l).length = l.length := by simp [nats]
        have HPc := hid (low_len (nats l))
        rcases HO.out.row with ⟨a', cap', hE0, hE1, hE2, hE3⟩
        subst hE0
        unfold maxLen at hE2
        have r0 : ((low (nats l)).length : Int) ≤ (cap' : Int) := by omega
        have r1 : (cap' : Int) ≤ 9223372036854775807 := by omega
        have r2 : ((low (nats l)).length : Int) ≤ 256 := by have := HLL.out; omega
        have HENC : Hid (enc (nats l) = low (nats l) ++ (if (low (nats l)).length = 0 then [] else [45]) ++ (encD (nats l) (low (nats l)).length (nats l).length 0 72 128 (low (nats l)).length).map letter) := by show _ = _; unfold enc; rw [low_len]
        have k2 : ¬ (l.length : Int) < (l.length : Int) := by omega
        generalize low (nats l) = L at *
        generalize hm : nats l = m at *
        have ml : (l.length : Int) = (m.length : Int) := by omega
        clear hE1 hE2 hE3 hk hlt HA
        obtain ⟨F, hF⟩ : ∃ F, F = enc m := ⟨_, rfl⟩
        rw [← hF] at HENC HX
        clear hF
        generalize hP : L.length = P at *
        have hz := HZZ.out
        clear HZZ
        have HS0 : Hid (EncAt m P F L 0 72 128 P m.length) := ⟨by rw [HENC.out, if_pos hz, List.append_nil], HPc.out, by omega, by omega, by omega, by omega, by omega⟩
        have g3 : ¬ (0 : Int) < (P : Int) := by omega
        have HO2 := HO
        have HB2 := HB
        clear hz HENC HO HB
        go_wp2_with fail
        go_loopw [4, 6, 8, 9, 10] (fun vo vc vn vd vb wr => ∃ (ys : List UInt8) (delta bias n done f : Nat), vd = .int .i64 (delta : Int) ∧ vb = .int .i64 (bias : Int) ∧ vn = .int .i64 (n : Int) ∧ vc = .int .i64 (done : Int) ∧ BOwn wr w.heap.size vo ys ∧ Below w.heap.size w wr ∧ EncAt m P F ys delta bias n done f) (fun _ vc _ _ _ _ => l.length - (intOf vc).toNat)
        case atStart => exact ⟨_, 0, 72, 128, P, m.length, rfl, rfl, rfl, rfl, HO2.out, HB2.out, HS0.out⟩
        case round =>
          obtain ⟨ys, delta, bias, n, done, f, rfl, rfl, rfl, rfl, ho, hb, hE⟩ := hrel
          clear HS0 HO2 HB2
          have hdle : done ≤ m.length := by rw [hE.done]; exact List.countP_le_length
          have hst := hE.steps
          have htop := hE.top
          have hbi := hE.bias
          have d0 : (0 : Int) ≤ (delta : Int) := by omega
          have d1 : (delta : Int) ≤ 400000000 := by omega
          have n0 : (0 : Int) ≤ (n : Int) := by omega
          have n1 : (n : Int) ≤ 1114112 := by omega
          have c0 : (0 : Int) ≤ (done : Int) := by omega
          have c1 : (done : Int) ≤ 256 := by have := HLG.out; omega
          have i0 : (0 : Int) ≤ (bias : Int) := by omega
          have i1 : (bias : Int) ≤ 2340 := by omega
          have HOy := hid ho
          have HBy := hid hb
          have HEy := hid hE
          have HML : Hid (m.length ≤ 256) := by show _ ≤ _; have := HLG.out; omega
          clear ho hb hE hst htop hbi
          by_cases hlt : done < m.length
          · have hcd := HEy.out.done
            have HLR : Hid (least m n = lstF 1114112 n m) := (least_ref HNL.out (by rw [← hcd]; exact hlt)).symm
            obtain ⟨G, X, q1, q2, q3, q4, q5, q6, q7⟩ := HEy.out.scan HNL.out hlt HML.out
            generalize least m n = s at *
            obtain ⟨p, hpd⟩ : ∃ p, p = (s - n) * (done + 1) := ⟨_, rfl⟩
            rw [← hpd] at q5 q6 q7
            have e1 : ((s : Int) - (n : Int)) * ((done : Int) + 1) = (p : Int) := by
              rw [hpd, Int.natCast_mul, Int.natCast_add, Int.natCast_sub q2]; rfl
            have s0 : (0 : Int) ≤ (s : Int) := by omega
            have s1 : (s : Int) ≤ 1114111 := by omega
            have sn : (n : Int) ≤ (s : Int) := by omega
            have pp0 : (0 : Int) ≤ (p : Int) := by omega
            have pp1 : (delta : Int) + (p : Int) ≤ 400000000 := by omega
            have gd : (done : Int) < (l.length : Int) := by omega
            have HQ4 := hid q4
            have HQ5 := hid q5
            have HQ6 := hid q6
            have HQ7 := hid q7
            have HD := hid hlt
            have HS1 := hid q3
            clear q1 q2 q3 q4 q5 q6 q7 hlt hpd hdle hcd
            go_wp2_with fail
            go_loop [11, 12] (fun vx vi => ∃ k x : Nat, k ≤ m.length ∧ vx = .int .i64 (x : Int) ∧ vi = .int .i64 (k : Int) ∧ x ≤ 1114112 ∧ s = lstF x n (m.drop k)) (fun _ vi => l.length - (intOf vi).toNat)
            case atStart => exact ⟨0, 1114112, Nat.zero_le _, rfl, rfl, Nat.le_refl _, by rw [List.drop_zero]; exact HLR.out⟩
            case round =>
              obtain ⟨k, x, hk, rfl, rfl, hx, hr⟩ := hrel
              clear HLR
              have x0 : (0 : Int) ≤ (x : Int) := by omega
              have x1 : (x : Int) ≤ 1114112 := by omega
              by_cases hlt : k < m.length
              · obtain ⟨b, off, rfl, hck⟩ := HNR.out.open HBy.out k hlt
                have hc := HNL.out m[k] (List.getElem_mem hlt)
                rw [drop_at hlt, lstF_cons] at hr
                have HK : Hid (k < l.length) := by show _ < _; omega
                have HK2 := hid hlt
                have k0 : (0 : Int) ≤ (k : Int) := by omega
                have k1 : (k : Int) < (l.length : Int) := by omega
                generalize m[k] = c at *
                have cc0 : (0 : Int) ≤ (c : Int) := by omega
                have cc1 : (c : Int) ≤ 1114111 := by omega
                have HRr := hid hr
                have HXx := hid hx
                clear hr hx hk hlt
                by_cases hnc : n ≤ c
                · have g1 : (n : Int) ≤ (c : Int) := by omega
                  by_cases hxc : x ≤ c
                  · have g2 : ¬ (c : Int) < (x : Int) := by omega
                    have HQ : Hid (s = lstF x n (m.drop (k + 1))) := by show _ = _; rw [HRr.out, if_pos hnc, Nat.min_eq_left hxc]
                    clear hnc hxc HRr hc
                    go_wp2_with fail
                    go_round
                    case rel => exact ⟨k + 1, x, HK2.out, rfl, by go_num, HXx.out, HQ.out⟩
                    case measure => have := HK.out; simp [intOf]; omega
                  · have g2 : (c : Int) < (x : Int) := by omega
                    have HQ : Hid (s = lstF c n (m.drop (k + 1))) := by show _ = _; rw [HRr.out, if_pos hnc, Nat.min_eq_right (by omega)]
                    have HC : Hid (c ≤ 1114112) := by show _ ≤ _; omega
                    clear hnc hxc HRr hc
                    go_wp2_with fail
                    go_round
                    case rel => exact ⟨k + 1, c, HK2.out, rfl, by go_num, HC.out, HQ.out⟩
                    case measure => have := HK.out; simp [intOf]; omega
                · have g1 : ¬ (n : Int) ≤ (c : Int) := by omega
                  have HQ : Hid (s = lstF x n (m.drop (k + 1))) := by show _ = _; rw [HRr.out, if_neg hnc]
                  clear hnc HRr hc
                  go_wp2_with fail
                  go_round
                  case rel => exact ⟨k + 1, x, HK2.out, rfl, by go_num, HXx.out, HQ.out⟩
                  case measure => have := HK.out; simp [intOf]; omega
              · have hsx : s = x := by
                  rw [hr, List.drop_eq_nil_of_le (by omega)]; rfl
                subst hsx
                have g1 : ¬ (k : Int) < (l.length : Int) := by omega
                clear hr hx hk hlt x0 x1
                go_wp2_with fail
                go_loopw [4, 6, 9, 10, 13] (fun vo vc vd vb vi wr => ∃ (zs : List UInt8) (k delta' bias' done' : Nat), vd = .int .i64 (delta' : Int) ∧ vb = .int .i64 (bias' : Int) ∧ vc = .int .i64 (done' : Int) ∧ vi = .int .i64 (k : Int) ∧ BOwn wr w.heap.size vo zs ∧ Below w.heap.size w wr ∧ ScanAt m P s G X (delta + p) done zs k delta' bias' done') (fun _ _ _ _ vi _ => l.length - (intOf vi).toNat)
                case atStart => exact ⟨ys, 0, delta + p, bias, done, by go_num, rfl, rfl, rfl, HOy.out, HBy.out, HQ6.out⟩
                case round =>
                  obtain ⟨zs, k, delta', bias', done', rfl, rfl, rfl, rfl, ho, hb, hA⟩ := hrel
                  have HOz := hid ho
                  have HBz := hid hb
                  have HA := hid hA
                  have hk := hA.k
                  have hst := hA.steps
                  have hbi := hA.bias
                  have hdn : done' ≤ 256 := by
                    have := hA.done
                    have h1 := take_countP_le m k s
                    have := HQ4.out
                    have := HML.out
                    omega
                  have hln := hA.len
                  have HZL : Hid (zs.length ≤ 500000) := by show _ ≤ _; omega
                  have HSz : Hid (w.heap.size ≤ wr.heap.size) := hb.size
                  clear ho hb hA HQ6 HOy HBy HEy d0 d1 c0 c1 i0 i1 pp0 hln
                  have d0 : (0 : Int) ≤ (delta' : Int) := by omega
                  have d1 : (delta' : Int) ≤ 400000256 := by have := HML.out; omega
                  have c0 : (0 : Int) ≤ (done' : Int) := by omega
                  have c1 : (done' : Int) ≤ 256 := by omega
                  have i0 : (0 : Int) ≤ (bias' : Int) := by omega
                  have i1 : (bias' : Int) ≤ 2340 := by omega
                  have k0 : (0 : Int) ≤ (k : Int) := by omega
                  by_cases hlt : k < m.length
                  · obtain ⟨b, off, rfl, hck⟩ := HNR.out.open HBz.out k hlt
                    have k1 : (k : Int) < (l.length : Int) := by omega
                    have HK : Hid (k < l.length) := by show _ < _; omega
                    have HLT := hid (HA.out.lt hlt)
                    have HGT := hid (HA.out.gt hlt)
                    have HEQ := hid (HA.out.eq hlt)
                    have hcm := HNL.out m[k] (List.getElem_mem hlt)
                    generalize m[k] = c at *
                    have c2 : (0 : Int) ≤ (c : Int) := by omega
                    have c3 : (c : Int) ≤ 1114111 := by omega
                    rcases Nat.lt_trichotomy c s with h | h | h
                    · have HX1 := hid (HLT.out h)
                      have g1 : (c : Int) < (s : Int) := by omega
                      have g2 : ((c : Int) == (s : Int)) = false := by rw [beq_eq_false_iff_ne]; omega
                      have g3 : ((c : Int) != (s : Int)) = true := by rw [bne_iff_ne]; omega
                      clear h hcm hlt hk hst hbi hdn HLT HGT HEQ
                      go_wp2_with fail
                      go_roundw
                      case rel => exact ⟨zs, k + 1, delta' + 1, bias', done', by go_num, rfl, rfl, by go_num, HOz.out, HBz.out, HX1.out⟩
                      case measure => have := HK.out; simp [intOf]; omega
                    · have HX1 := hid (HEQ.out h)
                      have HN0 := hid (NumAt.start zs bias' delta' (by omega) HZL.out)
                      have gk : decide (k < l.length) = true := decide_eq_true HK.out
                      generalize zs ++ (num bias' delta').map letter = F5 at *
                      subst h
                      have HBi := hid hbi
                      have HAd := hid (fun fl w' => radapt_calls delta' (done' + 1) fl w' (by omega) (by omega) (by omega))
                      rw [Int.natCast_add] at HAd
                      clear hcm hlt hk hst hbi hdn HLT HGT HEQ
                      go_wp2_with fail
                      go_loopw [4, 14, 15] (fun vo vq vk w5 => ∃ (us : List UInt8) (q kk f5 : Nat), vq = .int .i64 (q : Int) ∧ vk = .int .i64 (kk : Int) ∧ BOwn w5 w.heap.size vo us ∧ Below w.heap.size w w5 ∧ NumAt F5 bias' us q kk f5) (fun _ vq _ _ => (intOf vq).toNat)
                      case atStart => exact ⟨zs, delta', 36, 64, rfl, rfl, HOz.out, HBz.out, HN0.out⟩
                      case round =>
                        obtain ⟨us, q, kk, f5, rfl, rfl, ho5, hb5, hN5⟩ := hrel
                        have HO5 := hid ho5
                        have HB5 := hid hb5
                        have HSz5 : Hid (w.heap.size ≤ wr.heap.size) := hb5.size
                        have hq5 := hN5.2.2.1
                        have hk5 := hN5.2.2.2.1
                        have hl5 := hN5.2.2.2.2
                        have HT := hid (fun w' => rthr_calls kk bias' w' (by omega) (by have := HBi.out; omega))
                        have t1 := thr_ge kk bias'
                        have t2 := thr_le kk bias'
                        have q0 : (0 : Int) ≤ (q : Int) := by omega
                        have q1 : (q : Int) ≤ 3000000000 := by omega
                        have kk0 : (0 : Int) ≤ (kk : Int) := by omega
                        have kk1 : (kk : Int) ≤ 2340 := by omega
                        clear ho5 hb5 HN0 hck
                        by_cases hlt : q < thr kk bias'
                        · have HE := hid (hN5.last hlt)
                          have HL := hid (fun w' => rletter_calls q w' (by omega))
                          generalize letter q = y at *
                          obtain ⟨v', w', hr, ho', hg⟩ := append_run (HO5.out.alloc (.cells #[.int .u8 (y.toNat : Int)] 5)) (Row.lit fb wr [y] 5 (0, 0) (by simp)) (by simp; omega) (by have := HSz5.out; simp; omega)
                          have HO6 := hid ho'
                          have HB6 := hid ((HB5.out.alloc HSz5.out (.cells #[.int .u8 (y.toNat : Int)] 5)).grown hg (by have := HSz5.out; simp; omega) (Own.lt HO5.out))
                          have gq : (q : Int) < ((thr kk bias' : Nat) : Int) := by omega
                          have gq2 : ¬ ((thr kk bias' : Nat) : Int) ≤ (q : Int) := by omega
                          generalize thr kk bias' = t at *
                          clear ho' hg hlt hN5 hq5 hk5 hl5 t1 t2 HOz HBz HO5 HB5
                          by_cases hpd : done' = P
                          · subst hpd
                            rw [decide_eq_true rfl] at HX1
                            go_wp2_with fail
                            refine (HT.out _).mono ?_
                            rintro e w1 ⟨rfl, rfl⟩
                            go_wp2_with fail
                            refine (HL.out _).mono ?_
                            rintro e w1 ⟨rfl, rfl⟩
                            go_wp2_with (at_builtin; go_must (refine wpList_append_run hr rfl _ _ rfl rfl rfl rfl ?_))
                            refine (HAd.out true _).mono ?_
                            rintro e w1 ⟨rfl, rfl⟩
                            go_wp2_with fail
                            go_roundw
                            case rel => exact ⟨F5, k + 1, 0, _, done' + 1, rfl, rfl, by go_num, by go_num, by rw [HE.out]; exact HO6.out, HB6.out, HX1.out⟩
                            case measure => have := HK.out; simp [intOf]; omega
                          · have qd : ((done' : Int) == (P : Int)) = false := by rw [beq_eq_false_iff_ne]; omega
                            rw [decide_eq_false hpd] at HX1
                            clear hpd
                            go_wp2_with fail
                            refine (HT.out _).mono ?_
                            rintro e w1 ⟨rfl, rfl⟩
                            go_wp2_with fail
                            refine (HL.out _).mono ?_
                            rintro e w1 ⟨rfl, rfl⟩
                            go_wp2_with (at_builtin; go_must (refine wpList_append_run hr rfl _ _ rfl rfl rfl rfl ?_))
                            refine (HAd.out false _).mono ?_
                            rintro e w1 ⟨rfl, rfl⟩
                            go_wp2_with fail
                            go_roundw
                            case rel => exact ⟨F5, k + 1, 0, _, done' + 1, rfl, rfl, by go_num, by go_num, by rw [HE.out]; exact HO6.out, HB6.out, HX1.out⟩
                            case measure => have := HK.out; simp [intOf]; omega
                        · obtain ⟨g5, hN6, hlt6⟩ := hN5.next hlt
                          have hmod := Nat.mod_lt (q - thr kk bias') (y := 36 - thr kk bias') (by omega)
                          have gq2 : ((thr kk bias' : Nat) : Int) ≤ (q : Int) := by omega
                          generalize thr kk bias' = t at *
                          obtain ⟨r, hrm⟩ : ∃ r, r = (q - t) % (36 - t) := ⟨_, rfl⟩
                          obtain ⟨z, hz⟩ : ∃ z, z = (q - t) / (36 - t) := ⟨_, rfl⟩
                          have e5 : ((q : Int) - (t : Int)) % (36 - (t : Int)) = (r : Int) := by rw [hrm, Int.natCast_emod]; congr 1 <;> omega
                          have e6 : ((q : Int) - (t : Int)) / (36 - (t : Int)) = (z : Int) := by rw [hz, Int.natCast_ediv]; congr 1 <;> omega
                          rw [← hrm] at hmod hN6
                          rw [← hz] at hN6 hlt6
                          have HL : Hid (∀ w', Calls Tryd.prog 51 #[.int .i64 ((t : Int) + (r : Int))] w' fun e w2 => e = .returned (.int .u8 ((letter (t + r)).toNat : Int)) ∧ w2 = w') := fun w' => by
                            have := rletter_calls (t + r) w' (by omega)
                            rwa [Int.natCast_add] at this
                          generalize letter (t + r) = y at *
                          obtain ⟨v', w', hr, ho', hg⟩ := append_run (HO5.out.alloc (.cells #[.int .u8 (y.toNat : Int)] 5)) (Row.lit fb wr [y] 5 (0, 0) (by simp)) (by simp; omega) (by have := HSz5.out; simp; omega)
                          have HO6 := hid ho'
                          have HB6 := hid ((HB5.out.alloc HSz5.out (.cells #[.int .u8 (y.toNat : Int)] 5)).grown hg (by have := HSz5.out; simp; omega) (Own.lt HO5.out))
                          have HN6 := hid hN6
                          have HZ6 := hid hlt6
                          have t3 : (1 : Int) ≤ (t : Int) := by omega
                          have t4 : (t : Int) ≤ 26 := by omega
                          have r0' : (0 : Int) ≤ (r : Int) := by omega
                          have r1' : (r : Int) < 36 := by omega
                          clear ho' hg hlt hN5 hN6 hlt6 hq5 hk5 hl5 t1 t2 hrm hz hmod HOz HBz HO5 HB5
                          go_wp2_with fail
                          refine (HT.out _).mono ?_
                          rintro e w1 ⟨rfl, rfl⟩
                          go_wp2_with fail
                          refine (HT.out _).mono ?_
                          rintro e w1 ⟨rfl, rfl⟩
                          go_wp2_with fail
                          refine (HL.out _).mono ?_
                          rintro e w1 ⟨rfl, rfl⟩
                          go_wp2_with (at_builtin; go_must (refine wpList_append_run hr rfl _ _ rfl rfl rfl rfl ?_))
                          go_roundw
                          case rel => exact ⟨us ++ [y], z, kk + 36, g5, by rw [e6], by go_num, HO6.out, HB6.out, HN6.out⟩
                          case measure => have := HZ6.out; simp [intOf, e6]; omega
                    · have HX1 := hid (HGT.out h)
                      have g1 : ¬ (c : Int) < (s : Int) := by omega
                      have g2 : ((c : Int) == (s : Int)) = false := by rw [beq_eq_false_iff_ne]; omega
                      have g3 : ((c : Int) != (s : Int)) = true := by rw [bne_iff_ne]; omega
                      clear h hcm hlt hk hst hbi hdn HLT HGT HEQ
                      go_wp2_with fail
                      go_roundw
                      case rel => exact ⟨zs, k + 1, delta', bias', done', rfl, rfl, rfl, by go_num, HOz.out, HBz.out, HX1.out⟩
                      case measure => have := HK.out; simp [intOf]; omega
                  · have hkl : k = m.length := by omega
                    subst hkl
                    obtain ⟨_, hdd, f', hE'⟩ := HQ7.out zs delta' bias' done' HA.out
                    have HE' := hid hE'
                    have HDD := hid hdd
                    have hd2 : done' ≤ m.length := by rw [hE'.done]; exact List.countP_le_length
                    have HD2 := hid hd2
                    have k2 : ¬ (m.length : Int) < (l.length : Int) := by omega
                    clear hE' hdd hd2 hlt hk hst hbi hdn
                    go_wp2_with fail
                    go_roundw
                    case rel => exact ⟨zs, delta' + 1, bias', s + 1, done', f', by go_num, rfl, by go_num, rfl, HOz.out, HBz.out, HE'.out⟩
                    case measure => have := HDD.out; have := HD2.out; simp [intOf]; omega
          · have HFy : Hid (F = ys) := by
              show _ = _
              have := HEy.out.out
              rwa [encD_stop _ _ _ _ _ _ _ (by omega), List.map_nil, List.append_nil] at this
            have g2 : ¬ (done : Int) < (l.length : Int) := by omega
            have hs := run_string HOy.out.row
            rw [← HFy.out] at hs
            clear hlt hdle
            go_wp2_with fail
            go_ret2
            exact ⟨by rw [HX.out]; rfl, HBy.out⟩
end Go.Proofs.YtkpkfcoljccimaaDoor
/- The walk of the document's Puny, with own signs. -/
namespace Go.Proofs.YtkpkfcoljccimaaDoor
open Go.RowKit
set_option linter.unusedVariables false
set_option maxRecDepth 20000
set_option maxRecDepth 50000 in
set_option maxHeartbeats 40000000 in
theorem puny_b (v : Value) (l : List Int) (w : World) (hv : IRow w v l) (hzz : ¬ (low (nats l)).length = 0) :
    Calls Tryd.prog 27 #[v] w fun e w' => e = .returned (.tuple #[.string (encR l).1, .int .i64 (encR l).2]) ∧ Below w.heap.size w w' := by
  have HV := hid hv
  have HZZ := hid hzz
  clear hzz
  obtain ⟨a, cap, rfl, h1, h2, h3⟩ := hv
  unfold maxLen at h2
  have l0 : (l.length : Int) ≤ (cap : Int) := by omega
  have cp : (cap : Int) ≤ 9223372036854775807 := by omega
  clear h3
  by_cases hlong : 256 < l.length
  · rw [encR_long hlong]
    have g : (256 : Int) < (l.length : Int) := by omega
    clear hlong h1 h2
    go_enter Tryd.func27, Tryd.ntmps27
    go_wp2_with fail
    go_ret2
    exact ⟨rfl, Below.refl _ _⟩
  · have HLG := hid hlong
    obtain ⟨R, hR⟩ : ∃ R, R = encR l := ⟨_, rfl⟩
    rw [← hR]
    have HR := hid hR
    have g : decide ((256 : Int) < (l.length : Int)) = false := decide_eq_false (by omega)
    have l1 : (l.length : Int) ≤ 256 := by omega
    clear hlong h1 h2 hR
    go_enter Tryd.func27, Tryd.ntmps27
    go_wp2_with fail
    go_loopw [4, 5] (fun vo vi wr => ∃ k : Nat, k ≤ l.length ∧ vi = .int .i64 (k : Int) ∧ BOwn wr w.heap.size vo (low (nats (l.take k))) ∧ Below w.heap.size w wr ∧ (l.take k).all isS = true) (fun _ vi _ => l.length - (intOf vi).toNat)
    case atStart => exact ⟨0, Nat.zero_le _, rfl, Own.nil _ _ _ _, Below.refl _ _, rfl⟩
    case round =>
      obtain ⟨k, hk, rfl, ho, hb, hall⟩ := hrel
      have HO := hid ho
      have HB := hid hb
      have HA := hid hall
      have HSz : Hid (w.heap.size ≤ wr.heap.size) := hb.size
      have k0 : (0 : Int) ≤ (k : Int) := by omega
      have HLL : Hid ((low (nats (l.take k))).length ≤ 256) := by
        show _ ≤ _
        have h1 := low_le (nats (l.take k))
        have h2 := nats_take_len l k
        have := HLG.out
        omega
      clear ho hb hall
      by_cases hlt : k < l.length
      · obtain ⟨b, off, rfl, hck⟩ := HV.out.open HB.out k hlt
        have k1 : (k : Int) < (l.length : Int) := by omega
        have HK := hid hlt
        have HSn := hid (low_snoc l k hlt)
        have HAs := hid (all_snoc l k hlt)
        have HAn := hid (all_not l k hlt)
        generalize l[k] = c at *
        have HSc := hid (fun w' => rscalar_calls c w')
        by_cases hs : isS c = true
        · have hc1 := isS_iff.1 hs
          obtain ⟨n, rfl⟩ : ∃ n : Nat, c = (n : Int) := ⟨c.toNat, by omega⟩
          rw [Int.toNat_natCast] at HSn
          have HN : Hid ((l.take (k + 1)).all isS = true) := by show _ = _; rw [HAs.out, HA.out, hs]; rfl
          have n0 : (0 : Int) ≤ (n : Int) := by omega
          have n1 : (n : Int) ≤ 1114111 := by omega
          rw [hs] at HSc
          by_cases hn : n < 128
          · rw [if_pos hn] at HSn
            have e0 := b8_nat n (by omega)
            generalize b8 n = x at *
            obtain ⟨v', w', hr, ho', hg⟩ := append_run (HO.out.alloc (.cells #[.int .u8 (x.toNat : Int)] 5)) (Row.lit fb wr [x] 5 (0, 0) (by simp)) (by have := HLL.out; simp; omega) (by have := HSz.out; simp; omega)
            have HO2 := hid ho'
            have HB2 := hid ((HB.out.alloc HSz.out (.cells #[.int .u8 (x.toNat : Int)] 5)).grown hg (by have := HSz.out; simp; omega) (Own.lt HO.out))
            rw [e0] at hr
            have g1 : (n : Int) < 128 := by omega
            clear ho' hg e0 hn hs hc1 HAs HAn hlt hk
            go_wp2_with fail
            refine (HSc.out _).mono ?_
            rintro e w1 ⟨rfl, rfl⟩
            go_wp2_with (at_builtin; go_must (refine wpList_append_run hr rfl _ _ rfl rfl rfl rfl ?_))
            go_roundw
            case rel => exact ⟨k + 1, HK.out, by go_num, by rw [HSn.out]; exact HO2.out, HB2.out, HN.out⟩
            case measure => have := HK.out; simp [intOf]; omega
          · rw [if_neg hn, List.append_nil] at HSn
            have g1 : ¬ (n : Int) < 128 := by omega
            clear hn hs hc1 HAs HAn hlt hk
            go_wp2_with fail
            refine (HSc.out _).mono ?_
            rintro e w1 ⟨rfl, rfl⟩
            go_wp2_with fail
            go_roundw
            case rel => exact ⟨k + 1, HK.out, by go_num, by rw [HSn.out]; exact HO.out, HB.out, HN.out⟩
            case measure => have := HK.out; simp [intOf]; omega
        · have hs' : isS c = false := by simpa using hs
          have HX : Hid (R = (strOf [], 1)) := by show _ = _; rw [HR.out, encR_bad HLG.out (HAn.out hs')]
          rw [hs'] at HSc
          clear hs hs' HAs HAn hlt hk HSn
          go_wp2_with fail
          refine (HSc.out _).mono ?_
          rintro e w1 ⟨rfl, rfl⟩
          go_wp2_with fail
          go_ret2
          exact ⟨by rw [HX.out]; rfl, HB.out⟩
      · have hkl : k = l.length := by omega
        subst hkl
        rw [List.take_length] at HO HA HLL
        have HX : Hid (R = (strOf (enc (nats l)), 0)) := by show _ = _; rw [HR.out, encR_ok HLG.out HA.out]
        have HNR := hid (nats_row HA.out HV.out)
        have HNL : Hid (∀ c ∈ nats l, c ≤ 1114111) := fun c hc => (nats_le HA.out c hc).2
        have hnl : (nats l).length = l.length := by simp [nats]
        have HPc := hid (low_len (nats l))
        rcases HO.out.row with ⟨a', cap', hE0, hE1, hE2, hE3⟩
        subst hE0
        unfold maxLen at hE2
        have r0 : ((low (nats l)).length : Int) ≤ (cap' : Int) := by omega
        have r1 : (cap' : Int) ≤ 9223372036854775807 := by omega
        have r2 : ((low (nats l)).length : Int) ≤ 256 := by have := HLL.out; omega
        have HENC : Hid (enc (nats l) = low (nats l) ++ (if (low (nats l)).length = 0 then [] else [45]) ++ (encD (nats l) (low (nats l)).length (nats l).length 0 72 128 (low (nats l)).length).map letter) := by show _ = _; unfold enc; rw [low_len]
        have k2 : ¬ (l.length : Int) < (l.length : Int) := by omega
        generalize low (nats l) = L at *
        generalize hm : nats l = m at *
        have ml : (l.length : Int) = (m.length : Int) := by omega
        clear hE1 hE2 hE3 hk hlt HA
        obtain ⟨F, hF⟩ : ∃ F, F = enc m := ⟨_, rfl⟩
        rw [← hF] at HENC HX
        clear hF
        generalize hP : L.length = P at *
        have hz := HZZ.out
        clear HZZ
        have HS0 : Hid (EncAt m P F (L ++ [45]) 0 72 128 P m.length) := ⟨by rw [HENC.out, if_neg hz], HPc.out, by omega, by omega, by omega, by omega, by simp; omega⟩
        obtain ⟨v', w', hr, ho', hg⟩ := append_run (HO.out.alloc (.cells #[.int .u8 45] 5)) (Row.lit fb wr [45] 5 (0, 0) (by simp)) (by have := HLL.out; simp; omega) (by have := HSz.out; simp; omega)
        have HO2 := hid ho'
        have HB2 := hid ((HB.out.alloc HSz.out (.cells #[.int .u8 45] 5)).grown hg (by have := HSz.out; simp; omega) (Own.lt HO.out))
        have g3 : (0 : Int) < (P : Int) := by omega
        clear hz HENC ho' hg HO HB
        go_wp2_with (at_builtin; go_must (refine wpList_append_run hr rfl _ _ rfl rfl rfl rfl ?_))
        clear hr
        go_loopw [4, 6, 8, 9, 10] (fun vo vc vn vd vb wr => ∃ (ys : List UInt8) (delta bias n done f : Nat), vd = .int .i64 (delta : Int) ∧ vb = .int .i64 (bias : Int) ∧ vn = .int .i64 (n : Int) ∧ vc = .int .i64 (done : Int) ∧ BOwn wr w.heap.size vo ys ∧ Below w.heap.size w wr ∧ EncAt m P F ys delta bias n done f) (fun _ vc _ _ _ _ => l.length - (intOf vc).toNat)
        case atStart => exact ⟨_, 0, 72, 128, P, m.length, rfl, rfl, rfl, rfl, HO2.out, HB2.out, HS0.out⟩
        case round =>
          obtain ⟨ys, delta, bias, n, done, f, rfl, rfl, rfl, rfl, ho, hb, hE⟩ := hrel
          clear HS0 HO2 HB2
          have hdle : done ≤ m.length := by rw [hE.done]; exact List.countP_le_length
          have hst := hE.steps
          have htop := hE.top
          have hbi := hE.bias
          have d0 : (0 : Int) ≤ (delta : Int) := by omega
          have d1 : (delta : Int) ≤ 400000000 := by omega
          have n0 : (0 : Int) ≤ (n : Int) := by omega
          have n1 : (n : Int) ≤ 1114112 := by omega
          have c0 : (0 : Int) ≤ (done : Int) := by omega
          have c1 : (done : Int) ≤ 256 := by have := HLG.out; omega
          have i0 : (0 : Int) ≤ (bias : Int) := by omega
          have i1 : (bias : Int) ≤ 2340 := by omega
          have HOy := hid ho
          have HBy := hid hb
          have HEy := hid hE
          have HML : Hid (m.length ≤ 256) := by show _ ≤ _; have := HLG.out; omega
          clear ho hb hE hst htop hbi
          by_cases hlt : done < m.length
          · have hcd := HEy.out.done
            have HLR : Hid (least m n = lstF 1114112 n m) := (least_ref HNL.out (by rw [← hcd]; exact hlt)).symm
            obtain ⟨G, X, q1, q2, q3, q4, q5, q6, q7⟩ := HEy.out.scan HNL.out hlt HML.out
            generalize least m n = s at *
            obtain ⟨p, hpd⟩ : ∃ p, p = (s - n) * (done + 1) := ⟨_, rfl⟩
            rw [← hpd] at q5 q6 q7
            have e1 : ((s : Int) - (n : Int)) * ((done : Int) + 1) = (p : Int) := by
              rw [hpd, Int.natCast_mul, Int.natCast_add, Int.natCast_sub q2]; rfl
            have s0 : (0 : Int) ≤ (s : Int) := by omega
            have s1 : (s : Int) ≤ 1114111 := by omega
            have sn : (n : Int) ≤ (s : Int) := by omega
            have pp0 : (0 : Int) ≤ (p : Int) := by omega
            have pp1 : (delta : Int) + (p : Int) ≤ 400000000 := by omega
            have gd : (done : Int) < (l.length : Int) := by omega
            have HQ4 := hid q4
            have HQ5 := hid q5
            have HQ6 := hid q6
            have HQ7 := hid q7
            have HD := hid hlt
            have HS1 := hid q3
            clear q1 q2 q3 q4 q5 q6 q7 hlt hpd hdle hcd
            go_wp2_with fail
            go_loop [11, 12] (fun vx vi => ∃ k x : Nat, k ≤ m.length ∧ vx = .int .i64 (x : Int) ∧ vi = .int .i64 (k : Int) ∧ x ≤ 1114112 ∧ s = lstF x n (m.drop k)) (fun _ vi => l.length - (intOf vi).toNat)
            case atStart => exact ⟨0, 1114112, Nat.zero_le _, rfl, rfl, Nat.le_refl _, by rw [List.drop_zero]; exact HLR.out⟩
            case round =>
              obtain ⟨k, x, hk, rfl, rfl, hx, hr⟩ := hrel
              clear HLR
              have x0 : (0 : Int) ≤ (x : Int) := by omega
              have x1 : (x : Int) ≤ 1114112 := by omega
              by_cases hlt : k < m.length
              · obtain ⟨b, off, rfl, hck⟩ := HNR.out.open HBy.out k hlt
                have hc := HNL.out m[k] (List.getElem_mem hlt)
                rw [drop_at hlt, lstF_cons] at hr
                have HK : Hid (k < l.length) := by show _ < _; omega
                have HK2 := hid hlt
                have k0 : (0 : Int) ≤ (k : Int) := by omega
                have k1 : (k : Int) < (l.length : Int) := by omega
                generalize m[k] = c at *
                have cc0 : (0 : Int) ≤ (c : Int) := by omega
                have cc1 : (c : Int) ≤ 1114111 := by omega
                have HRr := hid hr
                have HXx := hid hx
                clear hr hx hk hlt
                by_cases hnc : n ≤ c
                · have g1 : (n : Int) ≤ (c : Int) := by omega
                  by_cases hxc : x ≤ c
                  · have g2 : ¬ (c : Int) < (x : Int) := by omega
                    have HQ : Hid (s = lstF x n (m.drop (k + 1))) := by show _ = _; rw [HRr.out, if_pos hnc, Nat.min_eq_left hxc]
                    clear hnc hxc HRr hc
                    go_wp2_with fail
                    go_round
                    case rel => exact ⟨k + 1, x, HK2.out, rfl, by go_num, HXx.out, HQ.out⟩
                    case measure => have := HK.out; simp [intOf]; omega
                  · have g2 : (c : Int) < (x : Int) := by omega
                    have HQ : Hid (s = lstF c n (m.drop (k + 1))) := by show _ = _; rw [HRr.out, if_pos hnc, Nat.min_eq_right (by omega)]
                    have HC : Hid (c ≤ 1114112) := by show _ ≤ _; omega
                    clear hnc hxc HRr hc
                    go_wp2_with fail
                    go_round
                    case rel => exact ⟨k + 1, c, HK2.out, rfl, by go_num, HC.out, HQ.out⟩
                    case measure => have := HK.out; simp [intOf]; omega
                · have g1 : ¬ (n : Int) ≤ (c : Int) := by omega
                  have HQ : Hid (s = lstF x n (m.drop (k + 1))) := by show _ = _; rw [HRr.out, if_neg hnc]
                  clear hnc HRr hc
                  go_wp2_with fail
                  go_round
                  case rel => exact ⟨k + 1, x, HK2.out, rfl, by go_num, HXx.out, HQ.out⟩
                  case measure => have := HK.out; simp [intOf]; omega
              · have hsx : s = x := by
                  rw [hr, List.drop_eq_nil_of_le (by omega)]; rfl
                subst hsx
                have g1 : ¬ (k : Int) < (l.length : Int) := by omega
                clear hr hx hk hlt x0 x1
                go_wp2_with fail
                go_loopw [4, 6, 9, 10, 13] (fun vo vc vd vb vi wr => ∃ (zs : List UInt8) (k delta' bias' done' : Nat), vd = .int .i64 (delta' : Int) ∧ vb = .int .i64 (bias' : Int) ∧ vc = .int .i64 (done' : Int) ∧ vi = .int .i64 (k : Int) ∧ BOwn wr w.heap.size vo zs ∧ Below w.heap.size w wr ∧ ScanAt m P s G X (delta + p) done zs k delta' bias' done') (fun _ _ _ _ vi _ => l.length - (intOf vi).toNat)
                case atStart => exact ⟨ys, 0, delta + p, bias, done, by go_num, rfl, rfl, rfl, HOy.out, HBy.out, HQ6.out⟩
                case round =>
                  obtain ⟨zs, k, delta', bias', done', rfl, rfl, rfl, rfl, ho, hb, hA⟩ := hrel
                  have HOz := hid ho
                  have HBz := hid hb
                  have HA := hid hA
                  have hk := hA.k
                  have hst := hA.steps
                  have hbi := hA.bias
                  have hdn : done' ≤ 256 := by
                    have := hA.done
                    have h1 := take_countP_le m k s
                    have := HQ4.out
                    have := HML.out
                    omega
                  have hln := hA.len
                  have HZL : Hid (zs.length ≤ 500000) := by show _ ≤ _; omega
                  have HSz : Hid (w.heap.size ≤ wr.heap.size) := hb.size
                  clear ho hb hA HQ6 HOy HBy HEy d0 d1 c0 c1 i0 i1 pp0 hln
                  have d0 : (0 : Int) ≤ (delta' : Int) := by omega
                  have d1 : (delta' : Int) ≤ 400000256 := by have := HML.out; omega
                  have c0 : (0 : Int) ≤ (done' : Int) := by omega
                  have c1 : (done' : Int) ≤ 256 := by omega
                  have i0 : (0 : Int) ≤ (bias' : Int) := by omega
                  have i1 : (bias' : Int) ≤ 2340 := by omega
                  have k0 : (0 : Int) ≤ (k : Int) := by omega
                  by_cases hlt : k < m.length
                  · obtain ⟨b, off, rfl, hck⟩ := HNR.out.open HBz.out k hlt
                    have k1 : (k : Int) < (l.length : Int) := by omega
                    have HK : Hid (k < l.length) := by show _ < _; omega
                    have HLT := hid (HA.out.lt hlt)
                    have HGT := hid (HA.out.gt hlt)
                    have HEQ := hid (HA.out.eq hlt)
                    have hcm := HNL.out m[k] (List.getElem_mem hlt)
                    generalize m[k] = c at *
                    have c2 : (0 : Int) ≤ (c : Int) := by omega
                    have c3 : (c : Int) ≤ 1114111 := by omega
                    rcases Nat.lt_trichotomy c s with h | h | h
                    · have HX1 := hid (HLT.out h)
                      have g1 : (c : Int) < (s : Int) := by omega
                      have g2 : ((c : Int) == (s : Int)) = false := by rw [beq_eq_false_iff_ne]; omega
                      have g3 : ((c : Int) != (s : Int)) = true := by rw [bne_iff_ne]; omega
                      clear h hcm hlt hk hst hbi hdn HLT HGT HEQ
                      go_wp2_with fail
                      go_roundw
                      case rel => exact ⟨zs, k + 1, delta' + 1, bias', done', by go_num, rfl, rfl, by go_num, HOz.out, HBz.out, HX1.out⟩
                      case measure => have := HK.out; simp [intOf]; omega
                    · have HX1 := hid (HEQ.out h)
                      have HN0 := hid (NumAt.start zs bias' delta' (by omega) HZL.out)
                      have gk : decide (k < l.length) = true := decide_eq_true HK.out
                      generalize zs ++ (num bias' delta').map letter = F5 at *
                      subst h
                      have HBi := hid hbi
                      have HAd := hid (fun fl w' => radapt_calls delta' (done' + 1) fl w' (by omega) (by omega) (by omega))
                      rw [Int.natCast_add] at HAd
                      clear hcm hlt hk hst hbi hdn HLT HGT HEQ
                      go_wp2_with fail
                      go_loopw [4, 14, 15] (fun vo vq vk w5 => ∃ (us : List UInt8) (q kk f5 : Nat), vq = .int .i64 (q : Int) ∧ vk = .int .i64 (kk : Int) ∧ BOwn w5 w.heap.size vo us ∧ Below w.heap.size w w5 ∧ NumAt F5 bias' us q kk f5) (fun _ vq _ _ => (intOf vq).toNat)
                      case atStart => exact ⟨zs, delta', 36, 64, rfl, rfl, HOz.out, HBz.out, HN0.out⟩
                      case round =>
                        obtain ⟨us, q, kk, f5, rfl, rfl, ho5, hb5, hN5⟩ := hrel
                        have HO5 := hid ho5
                        have HB5 := hid hb5
                        have HSz5 : Hid (w.heap.size ≤ wr.heap.size) := hb5.size
                        have hq5 := hN5.2.2.1
                        have hk5 := hN5.2.2.2.1
                        have hl5 := hN5.2.2.2.2
                        have HT := hid (fun w' => rthr_calls kk bias' w' (by omega) (by have := HBi.out; omega))
                        have t1 := thr_ge kk bias'
                        have t2 := thr_le kk bias'
                        have q0 : (0 : Int) ≤ (q : Int) := by omega
                        have q1 : (q : Int) ≤ 3000000000 := by omega
                        have kk0 : (0 : Int) ≤ (kk : Int) := by omega
                        have kk1 : (kk : Int) ≤ 2340 := by omega
                        clear ho5 hb5 HN0 hck
                        by_cases hlt : q < thr kk bias'
                        · have HE := hid (hN5.last hlt)
                          have HL := hid (fun w' => rletter_calls q w' (by omega))
                          generalize letter q = y at *
                          obtain ⟨v', w', hr, ho', hg⟩ := append_run (HO5.out.alloc (.cells #[.int .u8 (y.toNat : Int)] 5)) (Row.lit fb wr [y] 5 (0, 0) (by simp)) (by simp; omega) (by have := HSz5.out; simp; omega)
                          have HO6 := hid ho'
                          have HB6 := hid ((HB5.out.alloc HSz5.out (.cells #[.int .u8 (y.toNat : Int)] 5)).grown hg (by have := HSz5.out; simp; omega) (Own.lt HO5.out))
                          have gq : (q : Int) < ((thr kk bias' : Nat) : Int) := by omega
                          have gq2 : ¬ ((thr kk bias' : Nat) : Int) ≤ (q : Int) := by omega
                          generalize thr kk bias' = t at *
                          clear ho' hg hlt hN5 hq5 hk5 hl5 t1 t2 HOz HBz HO5 HB5
                          by_cases hpd : done' = P
                          · subst hpd
                            rw [decide_eq_true rfl] at HX1
                            go_wp2_with fail
                            refine (HT.out _).mono ?_
                            rintro e w1 ⟨rfl, rfl⟩
                            go_wp2_with fail
                            refine (HL.out _).mono ?_
                            rintro e w1 ⟨rfl, rfl⟩
                            go_wp2_with (at_builtin; go_must (refine wpList_append_run hr rfl _ _ rfl rfl rfl rfl ?_))
                            refine (HAd.out true _).mono ?_
                            rintro e w1 ⟨rfl, rfl⟩
                            go_wp2_with fail
                            go_roundw
                            case rel => exact ⟨F5, k + 1, 0, _, done' + 1, rfl, rfl, by go_num, by go_num, by rw [HE.out]; exact HO6.out, HB6.out, HX1.out⟩
                            case measure => have := HK.out; simp [intOf]; omega
                          · have qd : ((done' : Int) == (P : Int)) = false := by rw [beq_eq_false_iff_ne]; omega
                            rw [decide_eq_false hpd] at HX1
                            clear hpd
                            go_wp2_with fail
                            refine (HT.out _).mono ?_
                            rintro e w1 ⟨rfl, rfl⟩
                            go_wp2_with fail
                            refine (HL.out _).mono ?_
                            rintro e w1 ⟨rfl, rfl⟩
                            go_wp2_with (at_builtin; go_must (refine wpList_append_run hr rfl _ _ rfl rfl rfl rfl ?_))
                            refine (HAd.out false _).mono ?_
                            rintro e w1 ⟨rfl, rfl⟩
                            go_wp2_with fail
                            go_roundw
                            case rel => exact ⟨F5, k + 1, 0, _, done' + 1, rfl, rfl, by go_num, by go_num, by rw [HE.out]; exact HO6.out, HB6.out, HX1.out⟩
                            case measure => have := HK.out; simp [intOf]; omega
                        · obtain ⟨g5, hN6, hlt6⟩ := hN5.next hlt
                          have hmod := Nat.mod_lt (q - thr kk bias') (y := 36 - thr kk bias') (by omega)
                          have gq2 : ((thr kk bias' : Nat) : Int) ≤ (q : Int) := by omega
                          generalize thr kk bias' = t at *
                          obtain ⟨r, hrm⟩ : ∃ r, r = (q - t) % (36 - t) := ⟨_, rfl⟩
                          obtain ⟨z, hz⟩ : ∃ z, z = (q - t) / (36 - t) := ⟨_, rfl⟩
                          have e5 : ((q : Int) - (t : Int)) % (36 - (t : Int)) = (r : Int) := by rw [hrm, Int.natCast_emod]; congr 1 <;> omega
                          have e6 : ((q : Int) - (t : Int)) / (36 - (t : Int)) = (z : Int) := by rw [hz, Int.natCast_ediv]; congr 1 <;> omega
                          rw [← hrm] at hmod hN6
                          rw [← hz] at hN6 hlt6
                          have HL : Hid (∀ w', Calls Tryd.prog 51 #[.int .i64 ((t : Int) + (r : Int))] w' fun e w2 => e = .returned (.int .u8 ((letter (t + r)).toNat : Int)) ∧ w2 = w') := fun w' => by
                            have := rletter_calls (t + r) w' (by omega)
                            rwa [Int.natCast_add] at this
                          generalize letter (t + r) = y at *
                          obtain ⟨v', w', hr, ho', hg⟩ := append_run (HO5.out.alloc (.cells #[.int .u8 (y.toNat : Int)] 5)) (Row.lit fb wr [y] 5 (0, 0) (by simp)) (by simp; omega) (by have := HSz5.out; simp; omega)
                          have HO6 := hid ho'
                          have HB6 := hid ((HB5.out.alloc HSz5.out (.cells #[.int .u8 (y.toNat : Int)] 5)).grown hg (by have := HSz5.out; simp; omega) (Own.lt HO5.out))
                          have HN6 := hid hN6
                          have HZ6 := hid hlt6
                          have t3 : (1 : Int) ≤ (t : Int) := by omega
                          have t4 : (t : Int) ≤ 26 := by omega
                          have r0' : (0 : Int) ≤ (r : Int) := by omega
                          have r1' : (r : Int) < 36 := by omega
                          clear ho' hg hlt hN5 hN6 hlt6 hq5 hk5 hl5 t1 t2 hrm hz hmod HOz HBz HO5 HB5
                          go_wp2_with fail
                          refine (HT.out _).mono ?_
                          rintro e w1 ⟨rfl, rfl⟩
                          go_wp2_with fail
                          refine (HT.out _).mono ?_
                          rintro e w1 ⟨rfl, rfl⟩
                          go_wp2_with fail
                          refine (HL.out _).mono ?_
                          rintro e w1 ⟨rfl, rfl⟩
                          go_wp2_with (at_builtin; go_must (refine wpList_append_run hr rfl _ _ rfl rfl rfl rfl ?_))
                          go_roundw
                          case rel => exact ⟨us ++ [y], z, kk + 36, g5, by rw [e6], by go_num, HO6.out, HB6.out, HN6.out⟩
                          case measure => have := HZ6.out; simp [intOf, e6]; omega
                    · have HX1 := hid (HGT.out h)
                      have g1 : ¬ (c : Int) < (s : Int) := by omega
                      have g2 : ((c : Int) == (s : Int)) = false := by rw [beq_eq_false_iff_ne]; omega
                      have g3 : ((c : Int) != (s : Int)) = true := by rw [bne_iff_ne]; omega
                      clear h hcm hlt hk hst hbi hdn HLT HGT HEQ
                      go_wp2_with fail
                      go_roundw
                      case rel => exact ⟨zs, k + 1, delta', bias', done', rfl, rfl, rfl, by go_num, HOz.out, HBz.out, HX1.out⟩
                      case measure => have := HK.out; simp [intOf]; omega
                  · have hkl : k = m.length := by omega
                    subst hkl
                    obtain ⟨_, hdd, f', hE'⟩ := HQ7.out zs delta' bias' done' HA.out
                    have HE' := hid hE'
                    have HDD := hid hdd
                    have hd2 : done' ≤ m.length := by rw [hE'.done]; exact List.countP_le_length
                    have HD2 := hid hd2
                    have k2 : ¬ (m.length : Int) < (l.length : Int) := by omega
                    clear hE' hdd hd2 hlt hk hst hbi hdn
                    go_wp2_with fail
                    go_roundw
                    case rel => exact ⟨zs, delta' + 1, bias', s + 1, done', f', by go_num, rfl, by go_num, rfl, HOz.out, HBz.out, HE'.out⟩
                    case measure => have := HDD.out; have := HD2.out; simp [intOf]; omega
          · have HFy : Hid (F = ys) := by
              show _ = _
              have := HEy.out.out
              rwa [encD_stop _ _ _ _ _ _ _ (by omega), List.map_nil, List.append_nil] at this
            have g2 : ¬ (done : Int) < (l.length : Int) := by omega
            have hs := run_string HOy.out.row
            rw [← HFy.out] at hs
            clear hlt hdle
            go_wp2_with fail
            go_ret2
            exact ⟨by rw [HX.out]; rfl, HBy.out⟩
end Go.Proofs.YtkpkfcoljccimaaDoor
/- The walk of the document's Puny. -/
namespace Go.Proofs.YtkpkfcoljccimaaDoor
open Go.RowKit
theorem puny_calls (v : Value) (l : List Int) (w : World) (hv : IRow w v l) :
    Calls Tryd.prog 27 #[v] w fun e w' => e = .returned (.tuple #[.string (encR l).1, .int .i64 (encR l).2]) ∧ Below w.heap.size w w' := by
  by_cases h : (low (nats l)).length = 0
  · exact puny_a v l w hv h
  · exact puny_b v l w hv h
end Go.Proofs.YtkpkfcoljccimaaDoor
/- The walk of Ints: two lists of ints held against each other. -/
namespace Go.Proofs.YtkpkfcoljccimaaDoor
open Go.RowKit
set_option linter.unusedVariables false
set_option maxRecDepth 20000
theorem ne_at {l m : List Int} (k : Nat) (h1 : k < l.length) (h2 : k < m.length) (h : l[k] ≠ m[k]) : (l == m) = false := by
  rw [beq_eq_false_iff_ne]
  intro e; subst e; exact h rfl
theorem eq_all {l m : List Int} (hl : l.length = m.length) (h : l.take l.length = m.take l.length) : (l == m) = true := by
  rw [List.take_length, hl, List.take_length] at h
  rw [h, beq_self_eq_true]
set_option maxHeartbeats 1000000 in
theorem ints_calls (x y : Value) (l m : List Int) (w : World) (hx : IRow w x l) (hy : IRow w y m) :
    Calls Tryd.prog 11 #[x, y] w fun e w' => e = .returned (.bool (l == m)) ∧ Below w.heap.size w w' := by
  obtain ⟨a, cap, rfl, h1, h2, h3⟩ := hx
  obtain ⟨a', cap', rfl, i1, i2, i3⟩ := hy
  have H3 := hid h3
  have I3 := hid i3
  clear h3 i3
  unfold maxLen at h2 i2
  by_cases hl : l.length = m.length
  · have HL := hid hl
    rw [← hl] at i1 ⊢
    clear hl
    go_enter Tryd.func11, Tryd.ntmps11
    go_wp2
    go_loopw [5] (fun i wr => ∃ k : Nat, k ≤ l.length ∧ i = .int .i64 k ∧ l.take k = m.take k ∧ Below w.heap.size w wr) (fun i _ => l.length - (intOf i).toNat)
    case atStart => exact ⟨0, Nat.zero_le _, rfl, rfl, Below.refl _ _⟩
    case round =>
      obtain ⟨k, hk, rfl, he, hb⟩ := hrel
      have HE := hid he
      have HB := hid hb
      clear he
      by_cases hlt : k < l.length
      · have hlt' : k < m.length := by have := HL.out; omega
        obtain ⟨b, off, rfl, hbl, hc⟩ := H3.out (by intro h; simp [h] at hlt)
        obtain ⟨b', off', rfl, hbl', hc'⟩ := I3.out (by intro h; simp [h] at hlt')
        have hck : wr.cell? ⟨b, off + k, none⟩ = some (.int .i64 l[k]) := (hb.cell (p := ⟨b, off + k, none⟩) hbl).trans (hc k hlt)
        have hck' : wr.cell? ⟨b', off' + k, none⟩ = some (.int .i64 m[k]) := (hb.cell (p := ⟨b', off' + k, none⟩) hbl').trans (hc' k hlt')
        have HN := hid (ne_at k hlt hlt')
        have HT : Hid (l[k] = m[k] → l.take (k + 1) = m.take (k + 1)) := by
          intro h
          rw [List.take_succ_eq_append_getElem hlt, List.take_succ_eq_append_getElem hlt', HE.out, h]
        have k0 : (0 : Int) ≤ (k : Int) := by omega
        have k1 : (k : Int) < (l.length : Int) := by omega
        clear hc hc' hb
        generalize l[k] = c at *
        generalize m[k] = d at *
        by_cases hcd : c = d
        · subst hcd
          have HT2 := hid (HT.out rfl)
          go_wp2_with fail
          go_quiet (fail)
          have HB2 := hid (below_drewN HB.out nq)
          generalize wr.drewN nq = wx at *
          clear hck hck'
          go_wp2_with fail
          go_roundw
          case rel => exact ⟨k + 1, by omega, by go_num, HT2.out, HB2.out⟩
          case measure => simp [intOf]; omega
        · have hcd' : (c == d) = false := by rw [beq_eq_false_iff_ne]; exact hcd
          have HF := hid (HN.out hcd)
          clear hcd
          go_wp2_with fail
          go_quiet (fail)
          have HB2 := hid (below_drewN HB.out nq)
          generalize wr.drewN nq = wx at *
          clear hck hck'
          go_wp2_with fail
          go_ret
          exact ⟨by rw [HF.out]; rfl, HB2.out⟩
      · have HF := hid (eq_all HL.out (by have : k = l.length := by omega
                                          rw [← this]; exact HE.out))
        clear hb
        go_wp2_with fail
        go_ret
        exact ⟨by rw [HF.out]; rfl, HB.out⟩
  · have hq : ((l.length : Int) == (m.length : Int)) = false := by rw [beq_eq_false_iff_ne]; omega
    have HF : Hid ((l == m) = false) := by
      show (l == m) = false
      rw [beq_eq_false_iff_ne]; intro e; exact hl (by rw [e])
    clear hl
    go_enter Tryd.func11, Tryd.ntmps11
    go_wp2
    go_ret
    exact ⟨by rw [HF.out]; rfl, Below.refl _ _⟩
end Go.Proofs.YtkpkfcoljccimaaDoor
