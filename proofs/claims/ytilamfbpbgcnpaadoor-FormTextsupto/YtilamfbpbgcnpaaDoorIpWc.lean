/- The library's Split and Contains at a point, TrimSuffix, LastIndex, Cut: its own contracts, at this program, told by lists. -/
import Derived.Test.YtilamfbpbgcnpaaDoorIpWb
import Derived.Shelf.Strings.Split
import Derived.Shelf.Strings.Cut
import Derived.Shelf.Strings.LastIndex
import Derived.Shelf.Strings.Prefix
namespace Go.Proofs.YtilamfbpbgcnpaaDoor
open Go.RowKit Go.Shelf
set_option linter.unusedVariables false
set_option maxRecDepth 20000
def pcutRen : Ren := ⟨fun | 145 => 32 | 217 => 84 | 219 => 72 | 220 => 48 | 224 => 86 | 225 => 85 | 266 => 94 | 267 => 87 | 314 => 95 | n => n, fun | 3 => 3 | 4 => 4 | 5 => 5 | 9 => 9 | 46 => 67 | 51 => 93 | 59 => 60 | 146 => 126 | n => n, fun | 1 => 3 | n => n⟩
theorem pcutLays : Lays.n145 Tryd.prog pcutRen :=
  { mixed := by kernel_rfl
    f145 := Tryd.func32.trans (congrArg some (by kernel_rfl))
    f217 := Tryd.func84.trans (congrArg some (by kernel_rfl))
    f219 := Tryd.func72.trans (congrArg some (by kernel_rfl))
    f220 := Tryd.func48.trans (congrArg some (by kernel_rfl))
    f224 := Tryd.func86.trans (congrArg some (by kernel_rfl))
    f225 := Tryd.func85.trans (congrArg some (by kernel_rfl))
    f266 := Tryd.func94.trans (congrArg some (by kernel_rfl))
    f267 := Tryd.func87.trans (congrArg some (by kernel_rfl))
    f314 := Tryd.func95.trans (congrArg some (by kernel_rfl))
    t3 := Tryd.underlying3
    a3 := Tryd.isAgg3
    z3 := Tryd.sizeOf3
    v3 := Tryd.zeroValue3
    t4 := Tryd.underlying4
    a4 := Tryd.isAgg4
    z4 := Tryd.sizeOf4
    v4 := Tryd.zeroValue4
    t5 := Tryd.underlying5
    a5 := Tryd.isAgg5
    z5 := Tryd.sizeOf5
    v5 := Tryd.zeroValue5
    t9 := Tryd.underlying9
    a9 := Tryd.isAgg9
    z9 := Tryd.sizeOf9
    v9 := Tryd.zeroValue9
    t46 := Tryd.underlying67
    a46 := Tryd.isAgg67
    z46 := Tryd.sizeOf67
    v46 := Tryd.zeroValue67
    t51 := Tryd.underlying93
    a51 := Tryd.isAgg93
    z51 := Tryd.sizeOf93
    v51 := Tryd.zeroValue93
    t59 := Tryd.underlying60
    a59 := Tryd.isAgg60
    z59 := Tryd.sizeOf60
    v59 := Tryd.zeroValue60
    t146 := Tryd.underlying126
    a146 := Tryd.isAgg126
    z146 := Tryd.sizeOf126
    v146 := Tryd.zeroValue126
    g1 := by kernel_rfl }
/- Splitting, told by places. -/
theorem splitG_none (c : UInt8) (l cur : List UInt8) (h : ∀ k : Nat, l[k]? ≠ some c) : splitG c cur l = [cur ++ l] := splitG_free l cur (fun x hx e => by
  obtain ⟨k, hk⟩ := List.mem_iff_getElem?.1 hx
  exact h k (by rw [hk, e]))
theorem take_free {c : UInt8} {l : List UInt8} {k : Nat} (hn : ∀ j, j < k → l[j]? ≠ some c) : ∀ x ∈ l.take k, x ≠ c := by
  intro x hx e
  obtain ⟨j, hj⟩ := List.mem_iff_getElem?.1 hx
  rw [List.getElem?_take] at hj
  by_cases h : j < k
  · rw [if_pos h] at hj; exact hn j h (by rw [hj, e])
  · rw [if_neg h] at hj; cases hj
theorem at_parts {c : UInt8} {l : List UInt8} {k : Nat} (hc : l[k]? = some c) : l = l.take k ++ c :: l.drop (k + 1) := by
  obtain ⟨hk, e⟩ := List.getElem?_eq_some_iff.1 hc
  rw [← e, ← List.drop_eq_getElem_cons hk, List.take_append_drop]
theorem splitG_found {c : UInt8} {l : List UInt8} {k : Nat} (hc : l[k]? = some c) (hn : ∀ j, j < k → l[j]? ≠ some c) : splitG c [] l = l.take k :: splitG c [] (l.drop (k + 1)) := by
  conv => lhs; rw [at_parts hc]
  rw [splitG_at _ [] _ (take_free hn)]
  rfl
theorem pcount_none {c : UInt8} {l : List UInt8} (h : ∀ k : Nat, l[k]? ≠ some c) : l.count c = 0 := by
  rw [List.count_eq_zero]
  intro hm
  obtain ⟨k, hk⟩ := List.mem_iff_getElem?.1 hm
  exact h k hk
theorem pcount_at {c : UInt8} {l : List UInt8} {k : Nat} (hc : l[k]? = some c) (hn : ∀ j, j < k → l[j]? ≠ some c) : l.count c = (l.drop (k + 1)).count c + 1 := by
  conv => lhs; rw [at_parts hc]
  rw [List.count_append, List.count_cons_self, List.count_eq_zero.2 (fun hm => take_free hn c hm rfl)]
  omega
theorem splitK_mine (c : UInt8) : ∀ (n : Nat) (l : List UInt8), l.count c = n → Lib.splitK [c] 0 n l = splitG c [] l
  | 0, l, h => by
    rw [splitG_none c l [] (fun k hk => List.count_eq_zero.1 h (List.mem_of_getElem? hk))]
    rfl
  | n + 1, l, h => by
    rcases Int.lt_or_le (Lib.indexByte l c) 0 with hi | hi
    · have he : Lib.indexByte l c = -1 := by have := Lib.indexByte_ge l c; omega
      rw [pcount_none (Lib.indexByte_none he)] at h
      omega
    · obtain ⟨k, hk⟩ : ∃ k : Nat, Lib.indexByte l c = k := ⟨(Lib.indexByte l c).toNat, by omega⟩
      obtain ⟨h1, h2⟩ := Lib.indexByte_some hk
      have hcnt := pcount_at h1 h2
      rw [splitG_found h1 h2]
      show (if Lib.index l [c] == -1 then [l] else _) = _
      rw [Lib.index_one, hk, if_neg (by intro e; have := beq_iff_eq.1 e; omega)]
      rw [Int.toNat_natCast]
      show (l.take (k + 0)) :: Lib.splitK [c] 0 n (l.drop (k + 1)) = _
      rw [splitK_mine c n (l.drop (k + 1)) (by omega)]
      simp
theorem splitB_fs (s : ByteArray) : (Lib.splitB ⟨#[46]⟩ 0 (Lib.countB s ⟨#[46]⟩) s).map Value.string = (splitR 46 s.data.toList).map fsIp := by
  have h := Lib.splitB_data ⟨#[46]⟩ 0 (Lib.countB s ⟨#[46]⟩) s
  have hc : Lib.countB s ⟨#[46]⟩ = s.data.toList.count 46 := Lib.count_one 46 s.data.toList
  have h2 : Lib.splitK (⟨#[46]⟩ : ByteArray).data.toList 0 (Lib.countB s ⟨#[46]⟩) s.data.toList = splitG 46 [] s.data.toList := splitK_mine 46 _ _ hc.symm
  rw [h2] at h
  unfold splitR
  rw [← h, List.map_map]
  exact List.map_congr_left (fun x _ => congrArg Value.string (of_data x))
/- A point within: more parts than one. -/
theorem index_mem (c : UInt8) (l : List UInt8) : decide (0 ≤ Lib.indexByte l c) = decide (1 < (splitR c l).length) := by
  rcases Int.lt_or_le (Lib.indexByte l c) 0 with hi | hi
  · have he : Lib.indexByte l c = -1 := by have := Lib.indexByte_ge l c; omega
    rw [decide_eq_false (by omega)]
    unfold splitR
    rw [splitG_none c l [] (Lib.indexByte_none he)]
    rfl
  · obtain ⟨k, hk⟩ : ∃ k : Nat, Lib.indexByte l c = k := ⟨(Lib.indexByte l c).toNat, by omega⟩
    obtain ⟨h1, h2⟩ := Lib.indexByte_some hk
    rw [decide_eq_true hi]
    unfold splitR
    rw [splitG_found h1 h2, List.length_cons]
    have : (splitG c [] (l.drop (k + 1))).length ≠ 0 := fun e => splitG_ne c _ _ (List.eq_nil_of_length_eq_zero e)
    rw [decide_eq_true (by omega)]
/-- The world's own maximum for a search, whatever it is. -/
def MaxL (w : World) : Prop := ∃ m : Int, w.cell? ⟨3, 0, none⟩ = some (.int .i64 m)
theorem pcutc_calls (s sep : ByteArray) (w : World) (hs : s.size ≤ 1000000) (hm : MaxL w) : Calls Tryd.prog 32 #[.string s, .string sep] w fun e w' =>
    e = .returned (.tuple #[.string (strOf (Lib.cut s.data.toList sep.data.toList).1), .string (strOf (Lib.cut s.data.toList sep.data.toList).2.1), .bool (Lib.cut s.data.toList sep.data.toList).2.2]) ∧ ∃ n, w' = w.drewN n := by
  obtain ⟨m, hm⟩ := hm
  exact Any.strings_Cut pcutLays s sep m w (by omega) hm
end Go.Proofs.YtilamfbpbgcnpaaDoor
