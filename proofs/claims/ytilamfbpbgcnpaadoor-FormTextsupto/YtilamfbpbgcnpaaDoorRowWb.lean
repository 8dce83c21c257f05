/- The rooms of append and make, larger (for the second form of a law). -/
import Derived.Test.YtilamfbpbgcnpaaDoorRowW
namespace Go.Proofs.YtilamfbpbgcnpaaDoor.Bg
open Go.RowKit
set_option linter.unusedVariables false
set_option maxRecDepth 20000
theorem Own.made {α : Type} (f : α → Value) (t : TypeId) (w : World) (arr : Array Value) (n : Nat) (ha : arr.size = n) (hn : n ≤ 16000000) : Own f t (w.alloc (.cells arr t)) w.heap.size (.slice (some ⟨w.heap.size, 0, none⟩) 0 n) [] := World.ownsRow_made w _ n (Nat.le_refl _) (by unfold maxLen; omega) (by omega)
theorem append_gen {α : Type} {f : α → Value} {t ts : TypeId} {z : Value} {bytes : Nat} (hf : ∀ x, (f x).oneCell' = true) (hu : Tryd.prog.underlying ts = some (.slice t)) (hin : (Tryd.prog.info? t).map (fun i => (i.zero, i.size, i.bytes)) = some (some z, 1, bytes)) (hz : z.cells.size = 1) (hby : bytes ≤ 16)
    {w : World} {base : Nat} {v : Value} {xs : List α} (hown : Own f t w base v xs) {x : Value} {l : List α} (hx : Row f w x l) (hlen : xs.length + l.length ≤ 16000000) (hbase : base ≤ w.heap.size) :
    ∃ v' w', (Builtin.append_ #[ts, ts] ts #[v, x]).run Tryd.prog w = .ok v' w' ∧ Own f t w' base v' (xs ++ l) ∧ w.grownBy w' v.ownBlock := by
  obtain ⟨i0, hi, hz0, hz1, hz2⟩ := info_parts hin
  have hx0 := hx
  obtain ⟨a, cap, rfl, h1, h2, h3⟩ := hx
  cases a with
  | none =>
    have hl : l = [] := by
      rcases List.eq_nil_or_concat l with h | ⟨l', c, h⟩
      · exact h
      · obtain ⟨b, off, he, _⟩ := h3 (by rw [h]; simp)
        cases he
    subst hl
    refine ⟨v, w, ?_, by rw [List.append_nil]; exact hown, ⟨rfl, rfl, rfl, Nat.le_refl _, fun _ _ _ => rfl⟩⟩
    rcases hown.2 with ⟨rfl, hl⟩ | ⟨g, cap', cur, rfl, _, _, hnc, _⟩
    · simp [Builtin.append_, run_underlying hu, sizeOf, typeInfo, hi, Builtin.lenOf, Builtin.firstCells]
    · simp [Builtin.append_, run_underlying hu, sizeOf, typeInfo, hi, Builtin.lenOf, Builtin.firstCells, hnc, storeCells]
  | some a =>
    obtain ⟨_, hc⟩ := Row.cells hx0
    obtain ⟨v', w', hr, ho, hg, _⟩ := run_append_own (P := Tryd.prog) w base ts ts t i0 z 1 bytes hu hi hz0 hz1 hz2 hz (by decide) v xs.length (xs.map f) hown a l.length cap (l.map f) (by simp) hc
      (by intro u hu; obtain ⟨y, _, rfl⟩ := List.mem_map.1 hu; exact hf y) (by unfold maxLen; omega) (Nat.le_trans (Nat.mul_le_mul hlen hby) (by decide)) hbase
    refine ⟨v', w', hr, ?_, hg⟩
    unfold Own
    rw [List.length_append, List.map_append]
    exact ho
theorem append_run {w : World} {base : Nat} {v : Value} {xs : List UInt8} (hown : BOwn w base v xs) {x : Value} {l : List UInt8} (hx : BRow w x l) (hlen : xs.length + l.length ≤ 16000000) (hbase : base ≤ w.heap.size) :
    ∃ v' w', (Builtin.append_ #[45, 45] 45 #[v, x]).run Tryd.prog w = .ok v' w' ∧ BOwn w' base v' (xs ++ l) ∧ w.grownBy w' v.ownBlock :=
  append_gen (fun _ => rfl) Tryd.underlying45 info_u8 rfl (by decide) hown hx hlen hbase
theorem appendI_run {w : World} {base : Nat} {v : Value} {xs : List Int} (hown : IOwn w base v xs) {x : Value} {l : List Int} (hx : IRow w x l) (hlen : xs.length + l.length ≤ 16000000) (hbase : base ≤ w.heap.size) :
    ∃ v' w', (Builtin.append_ #[56, 56] 56 #[v, x]).run Tryd.prog w = .ok v' w' ∧ IOwn w' base v' (xs ++ l) ∧ w.grownBy w' v.ownBlock :=
  append_gen (fun _ => rfl) Tryd.underlying56 info_i64 rfl (by decide) hown hx hlen hbase
theorem make_cap {t ts : TypeId} {z : Value} {bytes : Nat} (hu : Tryd.prog.underlying ts = some (.slice t)) (hin : (Tryd.prog.info? t).map (fun i => (i.zero, i.size, i.bytes)) = some (some z, 1, bytes)) (hby : bytes ≤ 16) (n : Nat) (hn : n ≤ 16000000) (w : World) :
    (Instr.makeSlice ts (.int .i64 0) (.int .i64 (n : Int))).run Tryd.prog w = .ok (.slice (some ⟨w.heap.size, 0, none⟩) 0 n) (w.alloc (.cells (madeCells z.cells n) t)) := by
  obtain ⟨i0, hi, hz0, hz1, hz2⟩ := info_parts hin
  have hbn : (i0.bytes : Int) * (n : Int) ≤ 16000000 * 16 := by
    rw [hz2]
    have := Nat.mul_le_mul hby hn
    have e : ((bytes * n : Nat) : Int) = (bytes : Int) * (n : Int) := by simp
    omega
  have h := run_make (P := Tryd.prog) w ts t i0 z hu hi hz0 .i64 .i64 0 (n : Int) (by omega) (by omega) (by omega) (by omega)
  rw [hz1] at h
  simpa using h
theorem makeB (n : Nat) (hn : n ≤ 16000000) (w : World) : (Instr.makeSlice 45 (.int .i64 0) (.int .i64 (n : Int))).run Tryd.prog w = .ok (.slice (some ⟨w.heap.size, 0, none⟩) 0 n) (w.alloc (.cells (madeCells #[.int .u8 0] n) 5)) := make_cap Tryd.underlying45 info_u8 (by decide) n hn w
theorem makeI (n : Nat) (hn : n ≤ 16000000) (w : World) : (Instr.makeSlice 56 (.int .i64 0) (.int .i64 (n : Int))).run Tryd.prog w = .ok (.slice (some ⟨w.heap.size, 0, none⟩) 0 n) (w.alloc (.cells (madeCells #[.int .i64 0] n) 3)) := make_cap Tryd.underlying56 info_i64 (by decide) n hn w
end Go.Proofs.YtilamfbpbgcnpaaDoor.Bg
