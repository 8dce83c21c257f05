/- The library's Split and Contains at a point, TrimSuffix, LastIndex, Cut: its own contracts, at this program, told by lists. -/
import Derived.Test.YtghhdccnocpobaaDoorIpWb
import Derived.Shelf.Strings.Split
import Derived.Shelf.Strings.Cut
import Derived.Shelf.Strings.LastIndex
import Derived.Shelf.Strings.Prefix
namespace Go.Proofs.YtghhdccnocpobaaDoor
open Go.RowKit Go.Shelf
set_option linter.unusedVariables false
set_option maxRecDepth 20000
def psplitRen : Ren := ⟨fun | 138 => 63 | 143 => 64 | 195 => 74 | 197 => 75 | 217 => 77 | 218 => 76 | 219 => 65 | 221 => 51 | 224 => 79 | 225 => 78 | 260 => 83 | 266 => 84 | 267 => 80 | 268 => 62 | 314 => 85 | n => n, fun | 0 => 0 | 3 => 3 | 4 => 4 | 5 => 5 | 9 => 9 | 21 => 21 | 31 => 43 | 46 => 54 | 51 => 23 | 105 => 103 | 119 => 108 | 138 => 110 | 139 => 111 | 146 => 87 | n => n, fun | 1 => 0 | 3 => 4 | 4 => 5 | n => n⟩
theorem psplitLays : Lays.n221 Tryd.prog psplitRen :=
  { mixed := by kernel_rfl
    f138 := Tryd.func63.trans (congrArg some (by kernel_rfl))
    f143 := Tryd.func64.trans (congrArg some (by kernel_rfl))
    f195 := Tryd.func74.trans (congrArg some (by kernel_rfl))
    f197 := Tryd.func75.trans (congrArg some (by kernel_rfl))
    f217 := Tryd.func77.trans (congrArg some (by kernel_rfl))
    f218 := Tryd.func76.trans (congrArg some (by kernel_rfl))
    f219 := Tryd.func65.trans (congrArg some (by kernel_rfl))
    f221 := Tryd.func51.trans (congrArg some (by kernel_rfl))
    f224 := Tryd.func79.trans (congrArg some (by kernel_rfl))
    f225 := Tryd.func78.trans (congrArg some (by kernel_rfl))
    f260 := Tryd.func83.trans (congrArg some (by kernel_rfl))
    f266 := Tryd.func84.trans (congrArg some (by kernel_rfl))
    f267 := Tryd.func80.trans (congrArg some (by kernel_rfl))
    f268 := Tryd.func62.trans (congrArg some (by kernel_rfl))
    f314 := Tryd.func85.trans (congrArg some (by kernel_rfl))
    t0 := Tryd.underlying0
    a0 := Tryd.isAgg0
    z0 := Tryd.sizeOf0
    v0 := Tryd.zeroValue0
    t3 := Tryd.underlying3
    a3 := Tryd.isAgg3
    z3 := Tryd.sizeOf3
    v3 := Tryd.zeroValue3
    t4 := Tryd.underlying4
    a4 := Tryd.isAgg4
    z4 := Tryd.sizeOf4
    v4 := Tryd.zeroValue4
    t5 := Tryd.underlying5
    a5 := Tryd.isAgg5
    z5 := Tryd.sizeOf5
    v5 := Tryd.zeroValue5
    t9 := Tryd.underlying9
    a9 := Tryd.isAgg9
    z9 := Tryd.sizeOf9
    v9 := Tryd.zeroValue9
    t21 := Tryd.underlying21
    a21 := Tryd.isAgg21
    z21 := Tryd.sizeOf21
    v21 := Tryd.zeroValue21
    t31 := Tryd.underlying43
    a31 := Tryd.isAgg43
    z31 := Tryd.sizeOf43
    v31 := Tryd.zeroValue43
    t46 := Tryd.underlying54
    a46 := Tryd.isAgg54
    z46 := Tryd.sizeOf54
    v46 := Tryd.zeroValue54
    t51 := Tryd.underlying23
    a51 := Tryd.isAgg23
    z51 := Tryd.sizeOf23
    v51 := Tryd.zeroValue23
    t105 := Tryd.underlying103
    a105 := Tryd.isAgg103
    z105 := Tryd.sizeOf103
    v105 := Tryd.zeroValue103
    t119 := Tryd.underlying108
    a119 := Tryd.isAgg108
    z119 := Tryd.sizeOf108
    t138 := Tryd.underlying110
    a138 := Tryd.isAgg110
    z138 := Tryd.sizeOf110
    v138 := Tryd.zeroValue110
    t139 := Tryd.underlying111
    a139 := Tryd.isAgg111
    z139 := Tryd.sizeOf111
    v139 := Tryd.zeroValue111
    t146 := Tryd.underlying87
    a146 := Tryd.isAgg87
    z146 := Tryd.sizeOf87
    v146 := Tryd.zeroValue87
    g1 := by kernel_rfl
    g3 := by kernel_rfl
    g4 := by kernel_rfl }
def pcutRen : Ren := ⟨fun | 145 => 43 | 217 => 77 | 219 => 65 | 220 => 53 | 224 => 79 | 225 => 78 | 266 => 84 | 267 => 80 | 314 => 85 | n => n, fun | 3 => 3 | 4 => 4 | 5 => 5 | 9 => 9 | 46 => 54 | 51 => 23 | 59 => 75 | 146 => 87 | n => n, fun | 1 => 0 | n => n⟩
theorem pcutLays : Lays.n145 Tryd.prog pcutRen :=
  { mixed := by kernel_rfl
    f145 := Tryd.func43.trans (congrArg some (by kernel_rfl))
    f217 := Tryd.func77.trans (congrArg some (by kernel_rfl))
    f219 := Tryd.func65.trans (congrArg some (by kernel_rfl))
    f220 := Tryd.func53.trans (congrArg some (by kernel_rfl))
    f224 := Tryd.func79.trans (congrArg some (by kernel_rfl))
    f225 := Tryd.func78.trans (congrArg some (by kernel_rfl))
    f266 := Tryd.func84.trans (congrArg some (by kernel_rfl))
    f267 := Tryd.func80.trans (congrArg some (by kernel_rfl))
    f314 := Tryd.func85.trans (congrArg some (by kernel_rfl))
    t3 := Tryd.underlying3
    a3 := Tryd.isAgg3
    z3 := Tryd.sizeOf3
    v3 := Tryd.zeroValue3
    t4 := Tryd.underlying4
    a4 := Tryd.isAgg4
    z4 := Tryd.sizeOf4
    v4 := Tryd.zeroValue4
    t5 := Tryd.underlying5
    a5 := Tryd.isAgg5
    z5 := Tryd.sizeOf5
    v5 := Tryd.zeroValue5
    t9 := Tryd.underlying9
    a9 := Tryd.isAgg9
    z9 := Tryd.sizeOf9
    v9 := Tryd.zeroValue9
    t46 := Tryd.underlying54
    a46 := Tryd.isAgg54
    z46 := Tryd.sizeOf54
    v46 := Tryd.zeroValue54
    t51 := Tryd.underlying23
    a51 := Tryd.isAgg23
    z51 := Tryd.sizeOf23
    v51 := Tryd.zeroValue23
    t59 := Tryd.underlying75
    a59 := Tryd.isAgg75
    z59 := Tryd.sizeOf75
    v59 := Tryd.zeroValue75
    t146 := Tryd.underlying87
    a146 := Tryd.isAgg87
    z146 := Tryd.sizeOf87
    v146 := Tryd.zeroValue87
    g1 := by kernel_rfl }
def plastRen : Ren := ⟨fun | 148 => 29 | 222 => 46 | 223 => 47 | 269 => 56 | n => n, fun | 3 => 3 | 4 => 4 | 5 => 5 | 9 => 9 | 46 => 54 | 51 => 23 | 146 => 87 | n => n, fun n => n⟩
theorem plastLays : Lays.n148 Tryd.prog plastRen :=
  { mixed := by kernel_rfl
    f148 := Tryd.func29.trans (congrArg some (by kernel_rfl))
    f222 := Tryd.func46.trans (congrArg some (by kernel_rfl))
    f223 := Tryd.func47.trans (congrArg some (by kernel_rfl))
    f269 := Tryd.func56.trans (congrArg some (by kernel_rfl))
    t3 := Tryd.underlying3
    a3 := Tryd.isAgg3
    z3 := Tryd.sizeOf3
    v3 := Tryd.zeroValue3
    t4 := Tryd.underlying4
    a4 := Tryd.isAgg4
    z4 := Tryd.sizeOf4
    v4 := Tryd.zeroValue4
    t5 := Tryd.underlying5
    a5 := Tryd.isAgg5
    z5 := Tryd.sizeOf5
    v5 := Tryd.zeroValue5
    t9 := Tryd.underlying9
    a9 := Tryd.isAgg9
    z9 := Tryd.sizeOf9
    v9 := Tryd.zeroValue9
    t46 := Tryd.underlying54
    a46 := Tryd.isAgg54
    z46 := Tryd.sizeOf54
    v46 := Tryd.zeroValue54
    t51 := Tryd.underlying23
    a51 := Tryd.isAgg23
    z51 := Tryd.sizeOf23
    v51 := Tryd.zeroValue23
    t146 := Tryd.underlying87
    a146 := Tryd.isAgg87
    z146 := Tryd.sizeOf87
    v146 := Tryd.zeroValue87 }
def ptrimRen : Ren := ⟨fun | 102 => 28 | 207 => 55 | 209 => 45 | n => n, fun | 3 => 3 | 4 => 4 | 9 => 9 | n => n, fun n => n⟩
theorem ptrimLays : Lays.n102 Tryd.prog ptrimRen :=
  { mixed := by kernel_rfl
    f102 := Tryd.func28.trans (congrArg some (by kernel_rfl))
    f207 := Tryd.func55.trans (congrArg some (by kernel_rfl))
    f209 := Tryd.func45.trans (congrArg some (by kernel_rfl))
    t3 := Tryd.underlying3
    a3 := Tryd.isAgg3
    z3 := Tryd.sizeOf3
    v3 := Tryd.zeroValue3
    t4 := Tryd.underlying4
    a4 := Tryd.isAgg4
    z4 := Tryd.sizeOf4
    v4 := Tryd.zeroValue4
    t9 := Tryd.underlying9
    a9 := Tryd.isAgg9
    z9 := Tryd.sizeOf9
    v9 := Tryd.zeroValue9 }
def pcontRen : Ren := ⟨fun | 143 => 64 | 144 => 66 | 217 => 77 | 219 => 65 | 224 => 79 | 225 => 78 | 266 => 84 | 267 => 80 | 314 => 85 | n => n, fun | 3 => 3 | 4 => 4 | 5 => 5 | 9 => 9 | 46 => 54 | 51 => 23 | 146 => 87 | n => n, fun | 1 => 0 | n => n⟩
theorem pcontLays : Lays.n144 Tryd.prog pcontRen :=
  { mixed := by kernel_rfl
    f143 := Tryd.func64.trans (congrArg some (by kernel_rfl))
    f144 := Tryd.func66.trans (congrArg some (by kernel_rfl))
    f217 := Tryd.func77.trans (congrArg some (by kernel_rfl))
    f219 := Tryd.func65.trans (congrArg some (by kernel_rfl))
    f224 := Tryd.func79.trans (congrArg some (by kernel_rfl))
    f225 := Tryd.func78.trans (congrArg some (by kernel_rfl))
    f266 := Tryd.func84.trans (congrArg some (by kernel_rfl))
    f267 := Tryd.func80.trans (congrArg some (by kernel_rfl))
    f314 := Tryd.func85.trans (congrArg some (by kernel_rfl))
    t3 := Tryd.underlying3
    a3 := Tryd.isAgg3
    z3 := Tryd.sizeOf3
    v3 := Tryd.zeroValue3
    t4 := Tryd.underlying4
    a4 := Tryd.isAgg4
    z4 := Tryd.sizeOf4
    v4 := Tryd.zeroValue4
    t5 := Tryd.underlying5
    a5 := Tryd.isAgg5
    z5 := Tryd.sizeOf5
    v5 := Tryd.zeroValue5
    t9 := Tryd.underlying9
    a9 := Tryd.isAgg9
    z9 := Tryd.sizeOf9
    v9 := Tryd.zeroValue9
    t46 := Tryd.underlying54
    a46 := Tryd.isAgg54
    z46 := Tryd.sizeOf54
    v46 := Tryd.zeroValue54
    t51 := Tryd.underlying23
    a51 := Tryd.isAgg23
    z51 := Tryd.sizeOf23
    v51 := Tryd.zeroValue23
    t146 := Tryd.underlying87
    a146 := Tryd.isAgg87
    z146 := Tryd.sizeOf87
    v146 := Tryd.zeroValue87
    g1 := by kernel_rfl }
/- Splitting, told by places. -/
theorem splitG_none (c : UInt8) (l cur : List UInt8) (h : ∀ k : Nat, l[k]? ≠ some c) : splitG c cur l = [cur ++ l] := splitG_free l cur (fun x hx e => by
  obtain ⟨k, hk⟩ := List.mem_iff_getElem?.1 hx
  exact h k (by rw [hk, e]))
theorem take_free {c : UInt8} {l : List UInt8} {k : Nat} (hn : ∀ j, j < k → l[j]? ≠ some c) : ∀ x ∈ l.take k, x ≠ c := by
  intro x hx e
  obtain ⟨j, hj⟩ := List.mem_iff_getElem?.1 hx
  rw [List.getElem?_take] at hj
  by_cases h : j < k
  · rw [if_pos h] at hj; exact hn j h (by rw [hj, e])
  · rw [if_neg h] at hj; cases hj
theorem at_parts {c : UInt8} {l : List UInt8} {k : Nat} (hc : l[k]? = some c) : l = l.take k ++ c :: l.drop (k + 1) := by
  obtain ⟨hk, e⟩ := List.getElem?_eq_some_iff.1 hc
  rw [← e, ← List.drop_eq_getElem_cons hk, List.take_append_drop]
theorem splitG_found {c : UInt8} {l : List UInt8} {k : Nat} (hc : l[k]? = some c) (hn : ∀ j, j < k → l[j]? ≠ some c) : splitG c [] l = l.take k :: splitG c [] (l.drop (k + 1)) := by
  conv => lhs; rw [at_parts hc]
  rw [splitG_at _ [] _ (take_free hn)]
  rfl
theorem pcount_none {c : UInt8} {l : List UInt8} (h : ∀ k : Nat, l[k]? ≠ some c) : l.count c = 0 := by
  rw [List.count_eq_zero]
  intro hm
  obtain ⟨k, hk⟩ := List.mem_iff_getElem?.1 hm
  exact h k hk
theorem pcount_at {c : UInt8} {l : List UInt8} {k : Nat} (hc : l[k]? = some c) (hn : ∀ j, j < k → l[j]? ≠ some c) : l.count c = (l.drop (k + 1)).count c + 1 := by
  conv => lhs; rw [at_parts hc]
  rw [List.count_append, List.count_cons_self, List.count_eq_zero.2 (fun hm => take_free hn c hm rfl)]
  omega
theorem splitK_mine (c : UInt8) : ∀ (n : Nat) (l : List UInt8), l.count c = n → Lib.splitK [c] 0 n l = splitG c [] l
  | 0, l, h => by
    rw [splitG_none c l [] (fun k hk => List.count_eq_zero.1 h (List.mem_of_getElem? hk))]
    rfl
  | n + 1, l, h => by
    rcases Int.lt_or_le (Lib.indexByte l c) 0 with hi | hi
    · have he : Lib.indexByte l c = -1 := by have := Lib.indexByte_ge l c; omega
      rw [pcount_none (Lib.indexByte_none he)] at h
      omega
    · obtain ⟨k, hk⟩ : ∃ k : Nat, Lib.indexByte l c = k := ⟨(Lib.indexByte l c).toNat, by omega⟩
      obtain ⟨h1, h2⟩ := Lib.indexByte_some hk
      have hcnt := pcount_at h1 h2
      rw [splitG_found h1 h2]
      show (if Lib.index l [c] == -1 then [l] else _) = _
      rw [Lib.index_one, hk, if_neg (by intro e; have := beq_iff_eq.1 e; omega)]
      rw [Int.toNat_natCast]
      show (l.take (k + 0)) :: Lib.splitK [c] 0 n (l.drop (k + 1)) = _
      rw [splitK_mine c n (l.drop (k + 1)) (by omega)]
      simp
theorem splitB_fs (s : ByteArray) : (Lib.splitB ⟨#[46]⟩ 0 (Lib.countB s ⟨#[46]⟩) s).map Value.string = (splitR 46 s.data.toList).map fs := by
  have h := Lib.splitB_data ⟨#[46]⟩ 0 (Lib.countB s ⟨#[46]⟩) s
  have hc : Lib.countB s ⟨#[46]⟩ = s.data.toList.count 46 := Lib.count_one 46 s.data.toList
  have h2 : Lib.splitK (⟨#[46]⟩ : ByteArray).data.toList 0 (Lib.countB s ⟨#[46]⟩) s.data.toList = splitG 46 [] s.data.toList := splitK_mine 46 _ _ hc.symm
  rw [h2] at h
  unfold splitR
  rw [← h, List.map_map]
  exact List.map_congr_left (fun x _ => congrArg Value.string (of_data x))
set_option maxHeartbeats 1000000 in
theorem psplit_calls (s : ByteArray) (w : World) (hs : s.size ≤ 1000000) :
    Calls Tryd.prog 39 #[.string s, .string ⟨#[46]⟩] w fun e w' => (∃ v', e = .returned v' ∧ SRow w' v' (splitR 46 s.data.toList)) ∧ Below w.heap.size w w' := by
  have hle := Lib.countB_le ⟨#[46]⟩ (by decide) s.size s (Nat.le_refl _)
  have hlen := Lib.splitB_all ⟨#[46]⟩ (by decide) 0 _ s rfl
  have c := Any.strings_genSplit_core psplitLays (by kernel_rfl) s ⟨#[46]⟩ 0 (-1) (Lib.countB s ⟨#[46]⟩ + 1) w (by omega) (by decide) (by decide)
    (fun x c hx => by
      have h := Any.strings_Index_one { psplitLays with } x 46 (w.alloc (.cells c (psplitRen.t 9)))
      refine h.mono fun e w' ⟨he, hw⟩ => ⟨?_, hw⟩
      rw [he]
      show _ = Ending.returned (Value.int .i64 (Lib.index x.data.toList [46]))
      rw [Lib.index_one])
    (by
      have h := Any.strings_Count_one { psplitLays with } s 46 w
      refine h.mono fun e w' ⟨he, hw⟩ => ⟨?_, hw⟩
      rw [he]
      show _ = Ending.returned (Value.int .i64 ((Lib.count s.data.toList [46] : Nat) : Int))
      rw [Lib.count_one]
      rfl)
    (by decide) (by decide) (by rw [if_pos (by decide)]; omega)
  rw [Nat.add_sub_cancel, hlen] at c
  have e2 : Lib.cellsOf (Lib.splitB ⟨#[46]⟩ 0 (Lib.countB s ⟨#[46]⟩) s) (Lib.countB s ⟨#[46]⟩ + 1) = ((Lib.splitB ⟨#[46]⟩ 0 (Lib.countB s ⟨#[46]⟩) s).map Value.string).toArray := by rw [← hlen]; exact Lib.cellsOf_full _
  rw [e2, splitB_fs] at c
  have hl2 : (splitR 46 s.data.toList).length = Lib.countB s ⟨#[46]⟩ + 1 := by have := congrArg List.length (splitB_fs s); simp at this; omega
  have HC := hid c
  have HRow : Hid (SRow (w.alloc (.cells ((splitR 46 s.data.toList).map fs).toArray 9)) (.slice (some ⟨w.heap.size, 0, none⟩) (Lib.countB s ⟨#[46]⟩ + 1) (Lib.countB s ⟨#[46]⟩ + 1)) (splitR 46 s.data.toList)) := by
    refine ⟨_, _, by rw [hl2], by omega, by unfold maxLen; omega, fun _ => ⟨_, _, rfl, by simp, fun i hi => ?_⟩⟩
    rw [World.cell?_alloc_mark]
    simp [hi]
  clear c e2 hlen hle hl2
  generalize Lib.countB s ⟨#[46]⟩ = n at *
  generalize splitR 46 s.data.toList = zs at *
  go_enter Tryd.func39, Tryd.ntmps39
  go_wp2_with fail
  refine HC.out.mono ?_
  rintro e w1 ⟨rfl, rfl⟩
  go_wp2_with fail
  go_ret
  exact ⟨⟨_, rfl, HRow.out⟩, (Below.refl _ _).alloc (Nat.le_refl _) _⟩
/- A point within: more parts than one. -/
theorem index_mem (c : UInt8) (l : List UInt8) : decide (0 ≤ Lib.indexByte l c) = decide (1 < (splitR c l).length) := by
  rcases Int.lt_or_le (Lib.indexByte l c) 0 with hi | hi
  · have he : Lib.indexByte l c = -1 := by have := Lib.indexByte_ge l c; omega
    rw [decide_eq_false (by omega)]
    unfold splitR
    rw [splitG_none c l [] (Lib.indexByte_none he)]
    rfl
  · obtain ⟨k, hk⟩ : ∃ k : Nat, Lib.indexByte l c = k := ⟨(Lib.indexByte l c).toNat, by omega⟩
    obtain ⟨h1, h2⟩ := Lib.indexByte_some hk
    rw [decide_eq_true hi]
    unfold splitR
    rw [splitG_found h1 h2, List.length_cons]
    have : (splitG c [] (l.drop (k + 1))).length ≠ 0 := fun e => splitG_ne c _ _ (List.eq_nil_of_length_eq_zero e)
    rw [decide_eq_true (by omega)]
theorem pcont_calls (s : ByteArray) (w : World) : Calls Tryd.prog 66 #[.string s, .string ⟨#[46]⟩] w fun e w' => e = .returned (.bool (decide (1 < (splitR 46 s.data.toList).length))) ∧ w' = w := by
  have h := Any.strings_Contains_one pcontLays s 46 w
  rw [index_mem] at h
  exact h
theorem ptrim_calls (s : ByteArray) (w : World) (hs : s.size ≤ 1000000) : Calls Tryd.prog 28 #[.string s, .string ⟨#[46]⟩] w fun e w' => e = .returned (.string (strOf (Lib.trimSuffix s.data.toList [46]))) ∧ w' = w :=
  Any.strings_TrimSuffix ptrimLays s ⟨#[46]⟩ w (by omega)
theorem plast_calls (s : ByteArray) (w : World) (hs : s.size ≤ 1000000) : Calls Tryd.prog 29 #[.string s, .string ⟨#[46]⟩] w fun e w' => e = .returned (.int .i64 (Lib.lastIndexByte s 46)) ∧ w' = w :=
  Any.strings_LastIndex_one plastLays s ⟨#[46]⟩ rfl (by omega) w
/-- The world's own maximum for a search, whatever it is. -/
def MaxL (w : World) : Prop := ∃ m : Int, w.cell? ⟨0, 0, none⟩ = some (.int .i64 m)
theorem pcutc_calls (s sep : ByteArray) (w : World) (hs : s.size ≤ 1000000) (hm : MaxL w) : Calls Tryd.prog 43 #[.string s, .string sep] w fun e w' =>
    e = .returned (.tuple #[.string (strOf (Lib.cut s.data.toList sep.data.toList).1), .string (strOf (Lib.cut s.data.toList sep.data.toList).2.1), .bool (Lib.cut s.data.toList sep.data.toList).2.2]) ∧ ∃ n, w' = w.drewN n := by
  obtain ⟨m, hm⟩ := hm
  exact Any.strings_Cut pcutLays s sep m w (by omega) hm
end Go.Proofs.YtghhdccnocpobaaDoor
