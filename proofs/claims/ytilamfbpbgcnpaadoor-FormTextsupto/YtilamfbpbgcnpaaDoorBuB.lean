/- Texts of one proof, laid behind one another. -/
import Derived.Test.YtilamfbpbgcnpaaDoorBuA
import Derived.Shelf.Strings.Split
import Derived.Shelf.Strings.Cut
import Derived.Shelf.Strings.LastIndex
import Derived.Shelf.Strings.Prefix
/- The program's digit, number, allBelow: digits of a base, a number that stays at 4294967296. -/
namespace Go.Proofs.YtilamfbpbgcnpaaDoor
open Go.RowKit
set_option linter.unusedVariables false
set_option maxRecDepth 20000
def dP (z : Nat) : Nat := match hexV z with
  | some d => d
  | none => 4294967296
theorem dP_some {z d : Nat} (h : hexV z = some d) : dP z = d := by unfold dP; rw [h]
theorem dP_none {z : Nat} (h : hexV z = none) : dP z = 4294967296 := by unfold dP; rw [h]
/-- What digits tell, 4294967296 at most. -/
def satR (b : Nat) (l : List UInt8) : Nat := l.foldl (fun n c => min (n * b + dgv c) 4294967296) 0
theorem satR_snoc (b : Nat) (l : List UInt8) (c : UInt8) : satR b (l ++ [c]) = min (satR b l * b + dgv c) 4294967296 := by unfold satR; rw [List.foldl_append]; rfl
theorem satR_le (b : Nat) (l : List UInt8) : satR b l ≤ 4294967296 := by
  rcases List.eq_nil_or_concat l with h | ⟨l', c, h⟩
  · subst h; exact Nat.zero_le _
  · rw [h, List.concat_eq_append, satR_snoc]; exact Nat.min_le_right _ _
theorem satR_step (b x d : Nat) (hb : 1 ≤ b) : min (min x 4294967296 * b + d) 4294967296 = min (x * b + d) 4294967296 := by
  rcases Nat.le_total x 4294967296 with h | h
  · rw [Nat.min_eq_left h]
  · rw [Nat.min_eq_right h]
    have h1 : 4294967296 ≤ 4294967296 * b := Nat.le_mul_of_pos_right _ hb
    have h2 : 4294967296 * b ≤ x * b := Nat.mul_le_mul_right b h
    rw [Nat.min_eq_right (by omega), Nat.min_eq_right (by omega)]
theorem satR_eq (b : Nat) (hb : 1 ≤ b) : ∀ (n : Nat) (l : List UInt8), l.length = n → satR b l = min (valX b l) 4294967296
  | 0, l, h => by rw [List.eq_nil_of_length_eq_zero h]; rfl
  | n + 1, l, h => by
    rcases List.eq_nil_or_concat l with h' | ⟨l', c, h'⟩
    · rw [h'] at h; simp at h
    · rw [List.concat_eq_append] at h'
      subst h'
      rw [List.length_append] at h
      rw [satR_snoc, valX_snoc, satR_eq b hb n l' (by simpa using h), satR_step b _ _ hb]
theorem satR_val {b : Nat} (hb : 1 ≤ b) (l : List UInt8) : satR b l = min (valRIp b l) 4294967296 := by
  rw [satR_eq b hb _ l rfl, valR_eq b hb _ l rfl]
  omega
theorem satR_take {s : ByteArray} {b k : Nat} (h : k < s.size) : satR b (s.data.toList.take (k + 1)) = min (satR b (s.data.toList.take k) * b + dgv s[k]) 4294967296 := by
  have hl : k < s.data.toList.length := by rw [bytes_num]; exact h
  rw [List.take_succ_eq_append_getElem hl, satR_snoc]
  rfl
theorem dgv_of {c : UInt8} {d : Nat} (h : hexV c.toNat = some d) : dgv c = d := by unfold dgv; rw [h]; rfl
/-- What number answers: what the digits tell, and whether they are such. -/
def numP (b : Nat) (l : List UInt8) : Nat × Bool := if digsR b l = true then (satR b l, true) else (0, false)
theorem numP_yes {b : Nat} {l : List UInt8} (h : digsR b l = true) : numP b l = (satR b l, true) := if_pos h
theorem numP_no {b : Nat} {l : List UInt8} (h : digsR b l = false) : numP b l = (0, false) := by unfold numP; rw [h]; rfl
def NPost (b : Nat) (l : List UInt8) (w : World) (e : Ending) (w' : World) : Prop := e = .returned (.tuple #[.int .u64 ((numP b l).1 : Int), .bool (numP b l).2]) ∧ w' = w
theorem NPost.yes {b : Nat} {l : List UInt8} {w : World} (h : digsR b l = true) {n : Nat} (hn : satR b l = n) : NPost b l w (.returned (.tuple #[.int .u64 (n : Int), .bool true])) w := by unfold NPost; rw [numP_yes h, hn]; exact ⟨rfl, rfl⟩
theorem NPost.no {b : Nat} {l : List UInt8} {w : World} (h : digsR b l = false) : NPost b l w (.returned (.tuple #[.int .u64 0, .bool false])) w := by unfold NPost; rw [numP_no h]; exact ⟨rfl, rfl⟩
end Go.Proofs.YtilamfbpbgcnpaaDoor
/- The library's CutPrefix at 0x and at 0X; the program's cutMark and partNumber. -/
namespace Go.Proofs.YtilamfbpbgcnpaaDoor
open Go.RowKit
set_option linter.unusedVariables false
set_option maxRecDepth 20000
def preB (x : UInt8) (l : List UInt8) : Bool := l.take 2 == [48, x]
theorem ext_two (s : ByteArray) (h : 2 ≤ s.size) : (s.extract 0 2).toList = s.data.toList.take 2 := by
  rw [ByteArray.toList_eq, cut_mid s 0 2 h]
  rfl
theorem ext_drop (s : ByteArray) (k : Nat) (h : k ≤ s.size) : s.extract k s.size = strOf (s.data.toList.drop k) := by
  rw [cut_mid s k s.size (Nat.le_refl _), List.take_of_length_le (by rw [List.length_drop, bytes_num]; omega)]
theorem pre_size {x : UInt8} {s : ByteArray} (h : preB x s.data.toList = true) : 2 ≤ s.size := by
  have h2 := congrArg List.length (beq_iff_eq.1 h)
  rw [List.length_take, bytes_num] at h2
  simp at h2
  omega
theorem hexR_pre (l : List UInt8) : hexR l = (preB 120 l || preB 88 l) := by
  match l with
  | [] => rfl
  | [a] => simp [hexR, preB]
  | a :: b :: r =>
    show (a == 48 && (b == 120 || b == 88)) = (([a, b] == [48, 120]) || ([a, b] == [48, 88]))
    have e : ∀ y : UInt8, ([a, b] == [48, y]) = (a == 48 && b == y) := fun y => by simp
    rw [e, e]
    cases a == 48 <;> simp
/-- What is behind the mark, and whether it is there. -/
def cutP (x : UInt8) (l : List UInt8) : List UInt8 × Bool := if preB x l = true then (l.drop 2, true) else (l, false)
def markP (l : List UInt8) : List UInt8 × Bool := if hexR l = true then (l.drop 2, true) else (l, false)
theorem markP_yes {l : List UInt8} (h : hexR l = true) : markP l = (l.drop 2, true) := if_pos h
theorem markP_no {l : List UInt8} (h : hexR l = false) : markP l = (l, false) := by unfold markP; rw [h]; rfl
/-- What a part's number is to the program: 4294967296 at most. -/
def partP (l : List UInt8) : Nat × Bool := match numR l with
  | none => (0, false)
  | some n => (min n 4294967296, true)
theorem partP_none {l : List UInt8} (h : numR l = none) : partP l = (0, false) := by unfold partP; rw [h]
theorem partP_some {l : List UInt8} {n : Nat} (h : numR l = some n) : partP l = (min n 4294967296, true) := by unfold partP; rw [h]
theorem partP_of {l m : List UInt8} {b : Nat} (hne : l ≠ []) (hb : baseR l = (m, b)) (h1 : 1 ≤ b) : numP b m = partP l := by
  have h := numR_of hne hb
  cases hd : digsR b m with
  | true =>
    rw [hd, if_pos rfl] at h
    rw [partP_some h, numP_yes hd, satR_val h1]
  | false =>
    rw [hd, if_neg (by decide)] at h
    rw [partP_none h, numP_no hd]
def PartPost (l : List UInt8) (w : World) (e : Ending) (w' : World) : Prop := e = .returned (.tuple #[.int .u64 ((partP l).1 : Int), .bool (partP l).2]) ∧ w' = w
end Go.Proofs.YtilamfbpbgcnpaaDoor
/- The library's Split and Contains at a point, TrimSuffix, LastIndex, Cut: its own contracts, at this program, told by lists. -/
namespace Go.Proofs.YtilamfbpbgcnpaaDoor
open Go.RowKit Go.Shelf
set_option linter.unusedVariables false
set_option maxRecDepth 20000
def pcutRen : Ren := ⟨fun | 145 => 32 | 217 => 84 | 219 => 72 | 220 => 48 | 224 => 86 | 225 => 85 | 266 => 94 | 267 => 87 | 314 => 95 | n => n, fun | 3 => 3 | 4 => 4 | 5 => 5 | 9 => 9 | 46 => 67 | 51 => 93 | 59 => 60 | 146 => 126 | n => n, fun | 1 => 3 | n => n⟩
theorem pcutLays : Lays.n145 Tryd.prog pcutRen :=
  { mixed := by kernel_rfl
    f145 := Tryd.func32.trans (congrArg some (by kernel_rfl))
    f217 := Tryd.func84.trans (congrArg some (by kernel_rfl))
    f219 := Tryd.func72.trans (congrArg some (by kernel_rfl))
    f220 := Tryd.func48.trans (congrArg some (by kernel_rfl))
    f224 := Tryd.func86.trans (congrArg some (by kernel_rfl))
    f225 := Tryd.func85.trans (congrArg some (by kernel_rfl))
    f266 := Tryd.func94.trans (congrArg some (by kernel_rfl))
    f267 := Tryd.func87.trans (congrArg some (by kernel_rfl))
    f314 := Tryd.func95.trans (congrArg some (by kernel_rfl))
    t3 := Tryd.underlying3
    a3 := Tryd.isAgg3
    z3 := Tryd.sizeOf3
    v3 := Tryd.zeroValue3
    t4 := Tryd.underlying4
    a4 := Tryd.isAgg4
    z4 := Tryd.sizeOf4
    v4 := Tryd.zeroValue4
    t5 := Tryd.underlying5
    a5 := Tryd.isAgg5
    z5 := Tryd.sizeOf5
    v5 := Tryd.zeroValue5
    t9 := Tryd.underlying9
    a9 := Tryd.isAgg9
    z9 := Tryd.sizeOf9
    v9 := Tryd.zeroValue9
    t46 := Tryd.underlying67
    a46 := Tryd.isAgg67
    z46 := Tryd.sizeOf67
    v46 := Tryd.zeroValue67
    t51 := Tryd.underlying93
    a51 := Tryd.isAgg93
    z51 := Tryd.sizeOf93
    v51 := Tryd.zeroValue93
    t59 := Tryd.underlying60
    a59 := Tryd.isAgg60
    z59 := Tryd.sizeOf60
    v59 := Tryd.zeroValue60
    t146 := Tryd.underlying126
    a146 := Tryd.isAgg126
    z146 := Tryd.sizeOf126
    v146 := Tryd.zeroValue126
    g1 := by kernel_rfl }
/- Splitting, told by places. -/
theorem splitG_none (c : UInt8) (l cur : List UInt8) (h : ∀ k : Nat, l[k]? ≠ some c) : splitG c cur l = [cur ++ l] := splitG_free l cur (fun x hx e => by
  obtain ⟨k, hk⟩ := List.mem_iff_getElem?.1 hx
  exact h k (by rw [hk, e]))
theorem take_free {c : UInt8} {l : List UInt8} {k : Nat} (hn : ∀ j, j < k → l[j]? ≠ some c) : ∀ x ∈ l.take k, x ≠ c := by
  intro x hx e
  obtain ⟨j, hj⟩ := List.mem_iff_getElem?.1 hx
  rw [List.getElem?_take] at hj
  by_cases h : j < k
  · rw [if_pos h] at hj; exact hn j h (by rw [hj, e])
  · rw [if_neg h] at hj; cases hj
theorem at_parts {c : UInt8} {l : List UInt8} {k : Nat} (hc : l[k]? = some c) : l = l.take k ++ c :: l.drop (k + 1) := by
  obtain ⟨hk, e⟩ := List.getElem?_eq_some_iff.1 hc
  rw [← e, ← List.drop_eq_getElem_cons hk, List.take_append_drop]
theorem splitG_found {c : UInt8} {l : List UInt8} {k : Nat} (hc : l[k]? = some c) (hn : ∀ j, j < k → l[j]? ≠ some c) : splitG c [] l = l.take k :: splitG c [] (l.drop (k + 1)) := by
  conv => lhs; rw [at_parts hc]
  rw [splitG_at _ [] _ (take_free hn)]
  rfl
theorem pcount_none {c : UInt8} {l : List UInt8} (h : ∀ k : Nat, l[k]? ≠ some c) : l.count c = 0 := by
  rw [List.count_eq_zero]
  intro hm
  obtain ⟨k, hk⟩ := List.mem_iff_getElem?.1 hm
  exact h k hk
theorem pcount_at {c : UInt8} {l : List UInt8} {k : Nat} (hc : l[k]? = some c) (hn : ∀ j, j < k → l[j]? ≠ some c) : l.count c = (l.drop (k + 1)).count c + 1 := by
  conv => lhs; rw [at_parts hc]
  rw [List.count_append, List.count_cons_self, List.count_eq_zero.2 (fun hm => take_free hn c hm rfl)]
  omega
theorem splitK_mine (c : UInt8) : ∀ (n : Nat) (l : List UInt8), l.count c = n → Lib.splitK [c] 0 n l = splitG c [] l
  | 0, l, h => by
    rw [splitG_none c l [] (fun k hk => List.count_eq_zero.1 h (List.mem_of_getElem? hk))]
    rfl
  | n + 1, l, h => by
    rcases Int.lt_or_le (Lib.indexByte l c) 0 with hi | hi
    · have he : Lib.indexByte l c = -1 := by have := Lib.indexByte_ge l c; omega
      rw [pcount_none (Lib.indexByte_none he)] at h
      omega
    · obtain ⟨k, hk⟩ : ∃ k : Nat, Lib.indexByte l c = k := ⟨(Lib.indexByte l c).toNat, by omega⟩
      obtain ⟨h1, h2⟩ := Lib.indexByte_some hk
      have hcnt := pcount_at h1 h2
      rw [splitG_found h1 h2]
      show (if Lib.index l [c] == -1 then [l] else _) = _
      rw [Lib.index_one, hk, if_neg (by intro e; have := beq_iff_eq.1 e; omega)]
      rw [Int.toNat_natCast]
      show (l.take (k + 0)) :: Lib.splitK [c] 0 n (l.drop (k + 1)) = _
      rw [splitK_mine c n (l.drop (k + 1)) (by omega)]
      simp
theorem splitB_fs (s : ByteArray) : (Lib.splitB ⟨#[46]⟩ 0 (Lib.countB s ⟨#[46]⟩) s).map Value.string = (splitR 46 s.data.toList).map fsIp := by
  have h := Lib.splitB_data ⟨#[46]⟩ 0 (Lib.countB s ⟨#[46]⟩) s
  have hc : Lib.countB s ⟨#[46]⟩ = s.data.toList.count 46 := Lib.count_one 46 s.data.toList
  have h2 : Lib.splitK (⟨#[46]⟩ : ByteArray).data.toList 0 (Lib.countB s ⟨#[46]⟩) s.data.toList = splitG 46 [] s.data.toList := splitK_mine 46 _ _ hc.symm
  rw [h2] at h
  unfold splitR
  rw [← h, List.map_map]
  exact List.map_congr_left (fun x _ => congrArg Value.string (of_data x))
/- A point within: more parts than one. -/
theorem index_mem (c : UInt8) (l : List UInt8) : decide (0 ≤ Lib.indexByte l c) = decide (1 < (splitR c l).length) := by
  rcases Int.lt_or_le (Lib.indexByte l c) 0 with hi | hi
  · have he : Lib.indexByte l c = -1 := by have := Lib.indexByte_ge l c; omega
    rw [decide_eq_false (by omega)]
    unfold splitR
    rw [splitG_none c l [] (Lib.indexByte_none he)]
    rfl
  · obtain ⟨k, hk⟩ : ∃ k : Nat, Lib.indexByte l c = k := ⟨(Lib.indexByte l c).toNat, by omega⟩
    obtain ⟨h1, h2⟩ := Lib.indexByte_some hk
    rw [decide_eq_true hi]
    unfold splitR
    rw [splitG_found h1 h2, List.length_cons]
    have : (splitG c [] (l.drop (k + 1))).length ≠ 0 := fun e => splitG_ne c _ _ (List.eq_nil_of_length_eq_zero e)
    rw [decide_eq_true (by omega)]
/-- The world's own maximum for a search, whatever it is. -/
def MaxL (w : World) : Prop := ∃ m : Int, w.cell? ⟨3, 0, none⟩ = some (.int .i64 m)
theorem pcutc_calls (s sep : ByteArray) (w : World) (hs : s.size ≤ 1000000) (hm : MaxL w) : Calls Tryd.prog 32 #[.string s, .string sep] w fun e w' =>
    e = .returned (.tuple #[.string (strOf (Lib.cut s.data.toList sep.data.toList).1), .string (strOf (Lib.cut s.data.toList sep.data.toList).2.1), .bool (Lib.cut s.data.toList sep.data.toList).2.2]) ∧ ∃ n, w' = w.drewN n := by
  obtain ⟨m, hm⟩ := hm
  exact Any.strings_Cut pcutLays s sep m w (by omega) hm
end Go.Proofs.YtilamfbpbgcnpaaDoor
