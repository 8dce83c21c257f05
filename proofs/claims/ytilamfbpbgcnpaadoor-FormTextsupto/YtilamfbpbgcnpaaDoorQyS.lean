/- written; a Builder in a block of one's own, kept by what makes new memory alone. -/
import Derived.Test.YtilamfbpbgcnpaaDoorQyP
import Derived.Test.YtilamfbpbgcnpaaDoorPctDb
import Derived.Shelf.Strings.BuilderK
import Derived.Lib.ConvBytes
namespace Go.Proofs.YtilamfbpbgcnpaaDoor
open Go.RowKit Go.Shelf
set_option linter.unusedVariables false
set_option maxRecDepth 20000
set_option linter.unusedSimpArgs false
theorem bytesW_below (w : World) (s : ByteArray) : Below w.heap.size w (Lib.bytesWorld w 5 s) :=
  ⟨rfl, rfl, rfl, by rw [Lib.bytesWorld_size]; omega, fun k hk => Lib.bytesWorld_at_old w _ _ k hk⟩
theorem bytesW_row (w : World) (s : ByteArray) (hs : s.size ≤ 3000000) : BRow (Lib.bytesWorld w 5 s) (.slice (some ⟨w.heap.size, 0, none⟩) s.size (grownCap w s.size 0 5)) s.data.toList := by
  refine ⟨_, _, by rw [bytes_num], by rw [bytes_num]; exact grownCap_ge _ _ _ _, grownCap_le_maxLen _ _ _ _ (by unfold maxLen; omega), fun _ => ⟨_, _, rfl, by rw [Lib.bytesWorld_size]; omega, fun i hi => ?_⟩⟩
  have hi' : i < s.size := by rw [← bytes_num]; exact hi
  rw [Nat.zero_add, Lib.bytesWorld_cell w 5 s i hi', List.getD_eq_getElem?_getD, List.getElem?_eq_getElem hi]
  rfl
set_option maxHeartbeats 1000000 in
theorem written_calls (s : ByteArray) (w : World) (T : TabPc w) (hs : s.size ≤ 1100000) :
    Calls Tryd.prog 23 #[.string s] w fun e w' => e = .returned (.string (strOf (pctR 8 s.data.toList))) ∧ Below w.heap.size w w' := by
  have hcv := Lib.run_convert_string_bytes (P := Tryd.prog) w 9 45 5 s Tryd.underlying9 Tryd.underlying45 Tryd.underlying5
  have HB := hid (bytesW_below w s)
  have HR := hid (bytesW_row w s (by omega))
  have HT := hid (T.below HB.out)
  have HL : Hid (s.data.toList.length ≤ 2500000) := by show s.data.toList.length ≤ _; rw [bytes_num]; omega
  clear T hs
  go_enter Tryd.func23, Tryd.ntmps23
  go_wp2_with fail
  clear hcv
  refine (Bg.encode_callsPc 8 _ _ _ HT.out HR.out HL.out).mono ?_
  rintro e w1 ⟨rfl, hb1⟩
  have HB1 := hid (below_trans HB.out hb1)
  clear hb1
  go_wp2_with fail
  go_ret
  exact ⟨rfl, HB1.out⟩
/-- A Builder in block B, what it holds. -/
def Bd (B : Nat) (l : List UInt8) (W : World) : Prop := Lib.IsBuilderF 47 5 B B (Lib.byteCells l) W
theorem bdAt_keep {T e : TypeId} {B b : Nat} {p : Value} {bs : List Value} {W W' : World} (h : Lib.BuilderAtF T e B b p bs W) (hb : Below W.heap.size W W') : Lib.BuilderAtF T e B b p bs W' := by
  have hlt := h.lt
  obtain ⟨hB, v, hbk, ho, hne⟩ := h
  refine ⟨hB, v, (hb.block b hlt).trans hbk, ⟨ho.1, ?_⟩, hne⟩
  rcases ho.2 with h' | ⟨g, cap, cur, fz, rfl, hbg, hg, hr⟩
  · exact .inl h'
  · have hlt2 : g < W.heap.size := (Array.getElem?_eq_some_iff.1 hg).1
    exact .inr ⟨g, cap, cur, fz, rfl, hbg, (hb.block g hlt2).trans hg, hr⟩
theorem Bd.keep {B : Nat} {l : List UInt8} {W W' : World} (h : Bd B l W) (hb : Below W.heap.size W W') : Bd B l W' :=
  h.elim (fun x => .inl (bdAt_keep x hb)) (fun x => .inr (bdAt_keep x hb))
theorem Bd.fresh (w : World) : Bd w.heap.size [] (w.alloc (.cells #[.pointer none, .slice none 0 0] 47)) :=
  .inl ⟨Nat.le_refl _, .slice none 0 0, by show (w.heap.push _)[w.heap.size]? = _; simp, ⟨rfl, .inl ⟨rfl, rfl⟩⟩, by simp [Value.ownBlock]⟩
theorem bwrite_calls (B : Nat) (l : List UInt8) (s : ByteArray) (w : World) (h : Bd B l w) (hlen : l.length + s.size ≤ 140737488355328) (hBw : B ≤ w.heap.size) :
    Calls Tryd.prog 22 #[.pointer (some ⟨B, 0, none⟩), .string s] w fun e w' => e = .returned (.tuple #[.int .i64 s.size, .nilIface]) ∧ Bd B (l ++ s.data.toList) w' ∧ Below B w w' ∧ Lib.OthersKept 5 (some B) w w' := by
  refine (Any.Builder_WriteString_k { replAllLays with } replAllExtra B B (Lib.byteCells l) s w h (by rw [Lib.byteCells_length]; exact hlen) hBw).mono ?_
  rintro e w' ⟨rfl, h1, h2, h3⟩
  refine ⟨rfl, .inr ?_, h2, h3⟩
  rw [Lib.byteCells_append, ← Lib.strCells_eq]
  exact h1
theorem bstring_calls (B : Nat) (l : List UInt8) (w : World) (h : Bd B l w) (hBw : B ≤ w.heap.size) :
    Calls Tryd.prog 24 #[.pointer (some ⟨B, 0, none⟩)] w fun e w' => e = .returned (.string (strOf l)) ∧ Below B w w' := by
  refine (Any.Builder_String_any_k { replAllLays with } replAllExtra B B l w h hBw).mono ?_
  rintro e w' ⟨rfl, h1, h2, h3⟩
  exact ⟨rfl, h2⟩
end Go.Proofs.YtilamfbpbgcnpaaDoor
