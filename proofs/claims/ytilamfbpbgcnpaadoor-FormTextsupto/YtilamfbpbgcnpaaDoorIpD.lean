/- Rows of texts; the document's digits and hex. -/
import Derived.Test.YtilamfbpbgcnpaaDoorRowW
import Derived.Test.YtilamfbpbgcnpaaDoorPctC
import Derived.Test.YtilamfbpbgcnpaaDoorIpA
namespace Go.Proofs.YtilamfbpbgcnpaaDoor
open Go.RowKit
set_option linter.unusedVariables false
set_option maxRecDepth 20000
abbrev fsIp (l : List UInt8) : Value := .string (strOf l)
abbrev SRowIp (w : World) (v : Value) (ps : List (List UInt8)) : Prop := Row fsIp w v ps
abbrev SOwnIp (w : World) (base : Nat) (v : Value) (ps : List (List UInt8)) : Prop := Own fsIp 9 w base v ps
theorem str_data (L : List UInt8) : (strOf L).data.toList = L := rfl
theorem str_size (L : List UInt8) : (strOf L).size = L.length := rfl
theorem of_data (s : ByteArray) : s = strOf s.data.toList := rfl
theorem info_strIp : (Tryd.prog.info? 9).map (fun i => (i.zero, i.size, i.bytes)) = some (some (.string ⟨#[]⟩), 1, 16) := by kernel_rfl
theorem appendS_runIp {w : World} {base : Nat} {v : Value} {xs : List (List UInt8)} (hown : SOwnIp w base v xs) {x : Value} {l : List (List UInt8)} (hx : SRowIp w x l) (hlen : xs.length + l.length ≤ 1000000) (hbase : base ≤ w.heap.size) :
    ∃ v' w', (Builtin.append_ #[31, 31] 31 #[v, x]).run Tryd.prog w = .ok v' w' ∧ SOwnIp w' base v' (xs ++ l) ∧ w.grownBy w' v.ownBlock :=
  append_gen (fun _ => rfl) Tryd.underlying31 info_strIp rfl (by decide) hown hx hlen hbase
theorem oneS_row (w : World) (l : List UInt8) : SRowIp (w.alloc (.cells #[.string (strOf l)] 9)) (.slice (some ⟨w.heap.size, 0, none⟩) 1 1) [l] := Row.lit fsIp w [l] 9 (0, 0) (by simp)
theorem cut_mid (s : ByteArray) (a b : Nat) (h : b ≤ s.size) : s.extract a b = strOf ((s.data.toList.drop a).take (b - a)) := by
  apply ByteArray.ext
  rw [ByteArray.data_extract]
  apply Array.toList_inj.1
  rw [Array.toList_extract, List.extract_eq_take_drop]
  rfl
theorem rd_someIp {n d : Nat} (h : hexV n = some d) : rdPc n = (d : Int) := by unfold rdPc; rw [h]
theorem rd_noneIp {n : Nat} (h : hexV n = none) : rdPc n = -1 := by unfold rdPc; rw [h]
theorem digB_some {b d : Nat} {c : UInt8} (h : hexV c.toNat = some d) : digB b c = decide (d < b) := by unfold digB; rw [h]
theorem digB_none {b : Nat} {c : UInt8} (h : hexV c.toNat = none) : digB b c = false := by unfold digB; rw [h]
theorem digs_hit {s : ByteArray} {b k : Nat} (h : k < s.size) (ha : digsR b (s.data.toList.take k) = true) (hb : digB b s[k] = true) : digsR b (s.data.toList.take (k + 1)) = true := by
  have hl : k < s.data.toList.length := by rw [bytes_num]; exact h
  unfold digsR at ha ⊢
  rw [List.take_succ_eq_append_getElem hl, List.all_append, ha]
  simp only [List.all_cons, List.all_nil, Bool.and_true, Bool.true_and]
  exact hb
theorem digs_miss {s : ByteArray} {b k : Nat} (h : k < s.size) (hb : digB b s[k] = false) : digsR b s.data.toList = false := by
  unfold digsR
  rw [List.all_eq_false]
  refine ⟨s[k], ?_, by rw [hb]; decide⟩
  have hl : k < s.data.toList.length := by rw [bytes_num]; exact h
  exact List.getElem_mem (l := s.data.toList) (n := k) hl
theorem digs_end {s : ByteArray} {b k : Nat} (h : ¬ k < s.size) (ha : digsR b (s.data.toList.take k) = true) : digsR b s.data.toList = true := by
  rw [List.take_of_length_le (by rw [bytes_num]; omega)] at ha
  exact ha
theorem hexR_short {s : ByteArray} (h : ¬ 2 ≤ s.size) : hexR s.data.toList = false := by
  have hl := bytes_num s
  revert hl
  generalize s.data.toList = l
  intro hl
  match l, hl with
  | [], _ => rfl
  | [a], _ => rfl
  | a :: b :: r, hl => exfalso; simp at hl; omega
theorem hexR_long {s : ByteArray} (h : 2 ≤ s.size) : hexR s.data.toList = ((s[0]'(by omega)).toNat == 48 && ((s[1]'(by omega)).toNat == 120 || (s[1]'(by omega)).toNat == 88)) := by
  have h0 := bytes_at s 0 (by omega)
  have h1 := bytes_at s 1 (by omega)
  have hb : ∀ (x : UInt8) (n : UInt8), (x == n) = (x.toNat == n.toNat) := by
    intro x n
    by_cases e : x = n
    · subst e; simp
    · rw [beq_eq_false_iff_ne.2 e, beq_eq_false_iff_ne.2 (fun e' => e (UInt8.toNat_inj.1 e'))]
  revert h0 h1
  generalize s.data.toList = l
  generalize (s[0]'(by omega)) = a
  generalize (s[1]'(by omega)) = b
  intro h0 h1
  match l, h0, h1 with
  | x :: y :: r, h0, h1 =>
    simp at h0 h1
    subst h0 h1
    show (x == 48 && (y == 120 || y == 88)) = _
    rw [hb x 48, hb y 120, hb y 88]
    rfl
  | [x], h0, h1 => simp at h1
  | [], h0, h1 => simp at h0
end Go.Proofs.YtilamfbpbgcnpaaDoor
