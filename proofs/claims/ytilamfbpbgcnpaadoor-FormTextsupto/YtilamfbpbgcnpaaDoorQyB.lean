/- The program's Parse: a range over SplitSeq, with an append in each round. -/
import Derived.Test.YtilamfbpbgcnpaaDoorSplitW
import Derived.Test.YtilamfbpbgcnpaaDoorQyA
import Derived.RangeFuncCalls
import Derived.Maps.AppendAt
namespace Go.Proofs.YtilamfbpbgcnpaaDoor
open Go.RowKit Go.Shelf
attribute [local go_sem] Oper.semAt_some
set_option linter.unusedVariables false
set_option maxRecDepth 20000
set_option linter.unusedSimpArgs false
abbrev fq (l : List UInt8) : Value := .string (strOf l)
/-- Pairs, cell by cell. -/
def flatP (l : List Pr) : List Value := l.flatMap fun p => [fq p.1, fq p.2]
theorem flatP_len (l : List Pr) : (flatP l).length = l.length * 2 := by
  unfold flatP
  induction l with
  | nil => rfl
  | cons a r ih => rw [List.flatMap_cons, List.length_append, ih, List.length_cons]; simp only [List.length_cons, List.length_nil]; omega
theorem flatP_at : ∀ (l : List Pr) (i : Nat) (h : i < l.length), (flatP l)[2 * i]? = some (fq l[i].1) ∧ (flatP l)[2 * i + 1]? = some (fq l[i].2)
  | a :: r, 0, _ => ⟨rfl, rfl⟩
  | a :: r, i + 1, h => by
    have ih := flatP_at r i (by simpa using h)
    rw [show 2 * (i + 1) = 2 * i + 1 + 1 by omega]
    exact ih
theorem flatP_app (l m : List Pr) : flatP (l ++ m) = flatP l ++ flatP m := List.flatMap_append
/-- v is a slice of pairs that reads as l. -/
def PRow (w : World) (v : Value) (l : List Pr) : Prop :=
  ∃ a cap, v = .slice a l.length cap ∧ l.length ≤ cap ∧ cap ≤ maxLen ∧ (l ≠ [] → ∃ b off, a = some ⟨b, off, none⟩ ∧ b < w.heap.size ∧ ∀ j u, (flatP l)[j]? = some u → w.cell? ⟨b, off + j, none⟩ = some u)
theorem PRow.below {w w' : World} {v : Value} {l : List Pr} (h : PRow w v l) (hb : Below w.heap.size w w') : PRow w' v l := by
  obtain ⟨a, cap, rfl, h1, h2, h3⟩ := h
  refine ⟨a, cap, rfl, h1, h2, fun hl => ?_⟩
  obtain ⟨b, off, rfl, hlt, hc⟩ := h3 hl
  exact ⟨b, off, rfl, Nat.lt_of_lt_of_le hlt hb.size, fun j u hu => (hb.cell (p := ⟨b, off + j, none⟩) hlt).trans (hc j u hu)⟩
theorem PRow.nil (w : World) : PRow w (.slice none 0 0) [] := ⟨none, 0, rfl, Nat.le_refl _, Nat.zero_le _, fun h => absurd rfl h⟩
/-- v is a slice of pairs of the call's own. -/
def POwn (w : World) (base : Nat) (v : Value) (l : List Pr) : Prop := w.ownsRow base 36 2 v l.length (flatP l)
theorem POwn.row {w : World} {base : Nat} {v : Value} {l : List Pr} (h : POwn w base v l) : PRow w v l := by
  rcases h.2 with ⟨rfl, hn⟩ | ⟨g, cap, cur, rfl, hb, hg, hnc, hcm, hcs, htake⟩
  · have : l = [] := List.eq_nil_of_length_eq_zero hn
    subst this
    exact PRow.nil w
  · refine ⟨_, cap, rfl, hnc, hcm, fun _ => ⟨g, 0, rfl, ?_, fun j u hu => ?_⟩⟩
    · rcases Nat.lt_or_ge g w.heap.size with h' | h'
      · exact h'
      · rw [Array.getElem?_eq_none h'] at hg; cases hg
    · have hc := World.ownsRow.cells h (g := g) rfl j u hu
      rw [addr_add] at hc
      exact hc
theorem POwn.nil (w : World) (base : Nat) : POwn w base (.slice none 0 0) [] := World.ownsRow_nil w base _ _
theorem info_pair : (Tryd.prog.info? 36).map (fun i => (i.zero, i.size, i.bytes)) = some (some (.agg #[.string ⟨#[]⟩, .string ⟨#[]⟩]), 2, 32) := by kernel_rfl
/-- The pieces that are something. -/
def some1 (l : List (List UInt8)) : List (List UInt8) := l.filter fun p => !p.isEmpty
def curP (l : List (List UInt8)) : List Pr := (some1 l).map pairR
theorem curP_len (l : List (List UInt8)) : (curP l).length = (some1 l).length := List.length_map _
theorem some1_snoc (l : List (List UInt8)) (x : List UInt8) : some1 (l ++ [x]) = if x = [] then some1 l else some1 l ++ [x] := by
  unfold some1
  cases x <;> simp
/-- What Parse answers. -/
def parseR (s : List UInt8) : List Pr × Nat :=
  if 4000 < s.length then ([], 3) else if 256 < (some1 (splitR 38 s)).length then ([], 11) else (curP (splitR 38 s), 0)
def ParsePost (s : List UInt8) (w : World) (e : Ending) (w' : World) : Prop :=
  ∃ v, e = .returned (.tuple #[v, .int .i64 ((parseR s).2 : Int)]) ∧ PRow w' v (parseR s).1 ∧ Below w.heap.size w w'
theorem KeepsOthers.of_below {W W' : World} (h : Below W.heap.size W W') : KeepsOthers W W' :=
  ⟨h.size, fun k o hk _ => (h.block k (Array.getElem?_eq_some_iff.1 hk).1).trans hk⟩
set_option maxHeartbeats 1000000 in
theorem splitSeq_calls (s : ByteArray) (w : World) : Calls Tryd.prog 18 #[.string s, .string ⟨#[38]⟩] w fun e w' =>
    e = .returned (.func (.func 45) #[] #[.pointer (some ⟨w.heap.size + 1, 0, none⟩), .pointer (some ⟨w.heap.size, 0, none⟩), .pointer (some ⟨w.heap.size + 2, 0, none⟩)]) ∧
    w' = ((w.alloc (.cells #[.string s] 9)).alloc (.cells #[.string ⟨#[38]⟩] 9)).alloc (.cells #[.int .i64 0] 3) := by
  have H : Calls Tryd.prog 31 #[.string s, .string ⟨#[38]⟩, .int .i64 0] w fun e w' =>
      e = .returned (.func (.func 45) #[] #[.pointer (some ⟨w.heap.size + 1, 0, none⟩), .pointer (some ⟨w.heap.size, 0, none⟩), .pointer (some ⟨w.heap.size + 2, 0, none⟩)]) ∧
      w' = ((w.alloc (.cells #[.string s] 9)).alloc (.cells #[.string ⟨#[38]⟩] 9)).alloc (.cells #[.int .i64 0] 3) := by
    go_enter Tryd.func31, Tryd.ntmps31
    go_wp2_with fail
    go_ret
    exact ⟨rfl, rfl⟩
  have HH := hid H
  clear H
  go_enter Tryd.func18, Tryd.ntmps18
  go_wp2_with fail
  refine HH.out.mono ?_
  rintro e w1 ⟨rfl, rfl⟩
  go_wp2_with fail
  go_ret
  exact ⟨rfl, rfl⟩
theorem cells_two_new (U : World) (x y : Value) (t : TypeId) : ∀ j u, [x, y][j]? = some u → (U.alloc (.cells #[x, y] t)).cell? ((⟨U.heap.size, 0, none⟩ : Addr).add j) = some u := by
  intro j u hj
  rw [addr_add, World.cell?_alloc_mark]
  match j, hj with
  | 0, hj => simpa using hj
  | 1, hj => simpa using hj
/-- append of one slice of pairs to another of the call's own. -/
theorem pappend_gen {w : World} {base : Nat} {v : Value} {xs : List Pr} (hown : POwn w base v xs) {ad : Addr} {c : Nat} {l : List Pr} (hc : ∀ j u, (flatP l)[j]? = some u → w.cell? (ad.add j) = some u) (hlen : xs.length + l.length ≤ 1000000) (hbase : base ≤ w.heap.size) :
    ∃ v' w', (Builtin.append_ #[22, 22] 22 #[v, .slice (some ad) l.length c]).run Tryd.prog w = .ok v' w' ∧ POwn w' base v' (xs ++ l) ∧ w.grownBy w' v.ownBlock := by
  obtain ⟨i0, hi, hz0, hz1, hz2⟩ := info_parts info_pair
  obtain ⟨v', w', hr, ho, hg, _⟩ := run_append_own (P := Tryd.prog) w base 22 22 36 i0 _ 2 32 Tryd.underlying22 hi hz0 hz1 hz2 rfl (by decide) v xs.length (flatP xs) hown ad l.length c (flatP l) (flatP_len l) hc
    (by intro u hu; obtain ⟨y, _, hy⟩ := List.mem_flatMap.1 hu; simp at hy; rcases hy with rfl | rfl <;> rfl) (by unfold maxLen; omega) (by omega) hbase
  refine ⟨v', w', hr, ?_, hg⟩
  unfold POwn
  rw [List.length_append, flatP_app]
  exact ho
theorem pappend_row {w : World} {base : Nat} {v : Value} {xs : List Pr} (hown : POwn w base v xs) {x : Value} {l : List Pr} (hx : PRow w x l) (hlen : xs.length + l.length ≤ 1000000) (hbase : base ≤ w.heap.size) :
    ∃ v' w', (Builtin.append_ #[22, 22] 22 #[v, x]).run Tryd.prog w = .ok v' w' ∧ POwn w' base v' (xs ++ l) ∧ w.grownBy w' v.ownBlock := by
  obtain ⟨i0, hi, hz0, hz1, hz2⟩ := info_parts info_pair
  have hu := Tryd.underlying22
  obtain ⟨a, cap, rfl, h1, h2, h3⟩ := hx
  cases a with
  | none =>
    have hl : l = [] := by
      rcases List.eq_nil_or_concat l with h | ⟨l', c, h⟩
      · exact h
      · obtain ⟨b, off, he, _⟩ := h3 (by rw [h]; simp)
        cases he
    subst hl
    refine ⟨v, w, ?_, by rw [List.append_nil]; exact hown, ⟨rfl, rfl, rfl, Nat.le_refl _, fun _ _ _ => rfl⟩⟩
    rcases hown.2 with ⟨rfl, hl⟩ | ⟨g, cap', cur, rfl, _, _, hnc, _⟩
    · simp [Builtin.append_, run_underlying hu, sizeOf, typeInfo, hi, Builtin.lenOf, Builtin.firstCells]
    · simp [Builtin.append_, run_underlying hu, sizeOf, typeInfo, hi, Builtin.lenOf, Builtin.firstCells, hnc, storeCells]
  | some ad =>
    refine pappend_gen hown (fun j u hu => ?_) hlen hbase
    have hne : l ≠ [] := by
      intro e; subst e; simp [flatP] at hu
    obtain ⟨b, off, he, hlt, hc⟩ := h3 hne
    injection he with he
    subst he
    rw [addr_add]
    exact hc j u hu
theorem pappend_run {U : World} {base : Nat} {v : Value} {xs : List Pr} (hown : POwn U base v xs) (p : Pr) (hlen : xs.length ≤ 100000) (hbase : base ≤ U.heap.size) :
    ∃ v' w', (Builtin.append_ #[22, 22] 22 #[v, .slice (some ⟨U.heap.size, 0, none⟩) 1 1]).run Tryd.prog (U.alloc (.cells #[fq p.1, fq p.2] 36)) = .ok v' w' ∧ POwn w' base v' (xs ++ [p]) ∧ (U.alloc (.cells #[fq p.1, fq p.2] 36)).grownBy w' v.ownBlock :=
  pappend_gen (w := U.alloc (.cells #[fq p.1, fq p.2] 36)) (World.ownsRow.alloc hown _) (l := [p]) (c := 1) (cells_two_new U _ _ _) (by simp; omega) (by simp; omega)
theorem stepIn_append {F : Fence} {n : Nat} {ts : TypeId} {w w' : World} {v x v' : Value} (hr : (Builtin.append_ #[ts, ts] ts #[v, x]).run Tryd.prog w = .ok v' w') {ops : Array Oper} {o : Oper} {a : Act} {K : Act → World → Prop} {Q : Exit → Act → World → Prop} {E : Prop} (hgd : o.guard = none) (s y : Operand)
    (ho : o.op = .call { callee := .builtin .append, args := #[s, y], argTypes := #[ts, ts] }) (hty : o.type = ts) (hs : a.eval s = v) (hx : a.eval y = x)
    (h : K (a.put o.dst v') w') : if Region.wanted o (yielded ops a.tmps) = true then Oper.wpIn F n Tryd.prog o a w K Q else E := by
  have hw : Region.wanted o (yielded ops a.tmps) = true := by simp [Region.wanted, hgd]
  rw [if_pos hw]
  unfold Oper.wpIn
  refine ⟨?_, ?_⟩
  · simp [Oper.about, ho, resolve, Target.leads, Sem.run_pure]
  · rw [Oper.semAt_plain F _ _ (by rw [ho]; intro c hc'; cases hc')]
    simp [execOp, ho, resolve, invoke, builtin, hs, hx, hty, hr, Result.andThen]
    exact h
end Go.Proofs.YtilamfbpbgcnpaaDoor
