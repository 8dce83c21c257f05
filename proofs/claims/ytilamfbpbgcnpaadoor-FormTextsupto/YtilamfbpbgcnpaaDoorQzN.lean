/- The program's Names: slices.Sort, slices.Compact, strings.Clone by the shelf's contracts. -/
import Derived.Test.YtilamfbpbgcnpaaDoorQyB
import Derived.Shelf.Slices.In.SortAlone
import Derived.Shelf.Slices.In.CompactS
import Derived.Sort.EveryDepth
import Derived.Sort.OwnSorted
import Derived.Sort.Grow
import Derived.Lib.OwnBridge
import Derived.Shelf.Strconv.Clone
namespace Go.Proofs.YtilamfbpbgcnpaaDoor
open Go.RowKit Go.Shelf Go.Sort
set_option linter.unusedVariables false
set_option maxRecDepth 20000
set_option linter.unusedSimpArgs false
def qsortRen : Ren := ⟨fun | 125 => 42 | 128 => 69 | 129 => 70 | 190 => 26 | 258 => 41 | 302 => 60 | 303 => 61 | 304 => 62 | 305 => 63 | 306 => 64 | 307 => 65 | 308 => 66 | 309 => 67 | 310 => 68 | 329 => 79 | 330 => 80 | 333 => 78 | 334 => 81 | 335 => 82 | 336 => 83 | 344 => 93 | n => n, fun | 0 => 0 | 3 => 3 | 4 => 4 | 5 => 5 | 9 => 9 | 31 => 31 | 46 => 67 | 51 => 93 | 53 => 95 | 131 => 90 | 182 => 85 | 183 => 86 | 218 => 103 | 222 => 107 | 228 => 123 | 229 => 124 | n => n, fun n => n⟩
theorem qsortLays : Lays.n190 Tryd.prog qsortRen :=
  { mixed := by kernel_rfl
    f125 := Tryd.func42.trans (congrArg some (by kernel_rfl))
    f128 := Tryd.func69.trans (congrArg some (by kernel_rfl))
    f129 := Tryd.func70.trans (congrArg some (by kernel_rfl))
    f190 := Tryd.func26.trans (congrArg some (by kernel_rfl))
    f258 := Tryd.func41.trans (congrArg some (by kernel_rfl))
    f302 := Tryd.func60.trans (congrArg some (by kernel_rfl))
    f303 := Tryd.func61.trans (congrArg some (by kernel_rfl))
    f304 := Tryd.func62.trans (congrArg some (by kernel_rfl))
    f305 := Tryd.func63.trans (congrArg some (by kernel_rfl))
    f306 := Tryd.func64.trans (congrArg some (by kernel_rfl))
    f307 := Tryd.func65.trans (congrArg some (by kernel_rfl))
    f308 := Tryd.func66.trans (congrArg some (by kernel_rfl))
    f309 := Tryd.func67.trans (congrArg some (by kernel_rfl))
    f310 := Tryd.func68.trans (congrArg some (by kernel_rfl))
    f329 := Tryd.func79.trans (congrArg some (by kernel_rfl))
    f330 := Tryd.func80.trans (congrArg some (by kernel_rfl))
    f333 := Tryd.func78.trans (congrArg some (by kernel_rfl))
    f334 := Tryd.func81.trans (congrArg some (by kernel_rfl))
    f335 := Tryd.func82.trans (congrArg some (by kernel_rfl))
    f336 := Tryd.func83.trans (congrArg some (by kernel_rfl))
    f344 := Tryd.func93.trans (congrArg some (by kernel_rfl))
    t0 := Tryd.underlying0
    a0 := Tryd.isAgg0
    z0 := Tryd.sizeOf0
    v0 := Tryd.zeroValue0
    t3 := Tryd.underlying3
    a3 := Tryd.isAgg3
    z3 := Tryd.sizeOf3
    v3 := Tryd.zeroValue3
    t4 := Tryd.underlying4
    a4 := Tryd.isAgg4
    z4 := Tryd.sizeOf4
    v4 := Tryd.zeroValue4
    t5 := Tryd.underlying5
    a5 := Tryd.isAgg5
    z5 := Tryd.sizeOf5
    v5 := Tryd.zeroValue5
    t9 := Tryd.underlying9
    a9 := Tryd.isAgg9
    z9 := Tryd.sizeOf9
    v9 := Tryd.zeroValue9
    t31 := Tryd.underlying31
    a31 := Tryd.isAgg31
    z31 := Tryd.sizeOf31
    v31 := Tryd.zeroValue31
    t46 := Tryd.underlying67
    a46 := Tryd.isAgg67
    z46 := Tryd.sizeOf67
    v46 := Tryd.zeroValue67
    t51 := Tryd.underlying93
    a51 := Tryd.isAgg93
    z51 := Tryd.sizeOf93
    v51 := Tryd.zeroValue93
    t53 := Tryd.underlying95
    a53 := Tryd.isAgg95
    z53 := Tryd.sizeOf95
    v53 := Tryd.zeroValue95
    t131 := Tryd.underlying90
    a131 := Tryd.isAgg90
    z131 := Tryd.sizeOf90
    v131 := Tryd.zeroValue90
    t182 := Tryd.underlying85
    a182 := Tryd.isAgg85
    z182 := Tryd.sizeOf85
    v182 := Tryd.zeroValue85
    t183 := Tryd.underlying86
    a183 := Tryd.isAgg86
    z183 := Tryd.sizeOf86
    v183 := Tryd.zeroValue86
    t218 := Tryd.underlying103
    a218 := Tryd.isAgg103
    z218 := Tryd.sizeOf103
    v218 := Tryd.zeroValue103
    t222 := Tryd.underlying107
    a222 := Tryd.isAgg107
    z222 := Tryd.sizeOf107
    v222 := Tryd.zeroValue107
    t228 := Tryd.underlying123
    a228 := Tryd.isAgg123
    z228 := Tryd.sizeOf123
    v228 := Tryd.zeroValue123
    t229 := Tryd.underlying124
    a229 := Tryd.isAgg124
    z229 := Tryd.sizeOf124
    v229 := Tryd.zeroValue124 }
def qcompactRen : Ren := ⟨fun | 194 => 27 | n => n, fun | 0 => 0 | 3 => 3 | 4 => 4 | 9 => 9 | 31 => 31 | n => n, fun n => n⟩
theorem qcompactLays : Lays.n194 Tryd.prog qcompactRen :=
  { mixed := by kernel_rfl
    f194 := Tryd.func27.trans (congrArg some (by kernel_rfl))
    t0 := Tryd.underlying0
    a0 := Tryd.isAgg0
    z0 := Tryd.sizeOf0
    v0 := Tryd.zeroValue0
    t3 := Tryd.underlying3
    a3 := Tryd.isAgg3
    z3 := Tryd.sizeOf3
    v3 := Tryd.zeroValue3
    t4 := Tryd.underlying4
    a4 := Tryd.isAgg4
    z4 := Tryd.sizeOf4
    v4 := Tryd.zeroValue4
    t9 := Tryd.underlying9
    a9 := Tryd.isAgg9
    z9 := Tryd.sizeOf9
    v9 := Tryd.zeroValue9
    t31 := Tryd.underlying31
    a31 := Tryd.isAgg31
    z31 := Tryd.sizeOf31
    v31 := Tryd.zeroValue31 }
def qcloneRen : Ren := ⟨fun | 316 => 43 | n => n, fun | 0 => 0 | 3 => 3 | 4 => 4 | 5 => 5 | 9 => 9 | 37 => 45 | 127 => 65 | n => n, fun n => n⟩
theorem qcloneLays : Lays.n316 Tryd.prog qcloneRen :=
  { mixed := by kernel_rfl
    f316 := Tryd.func43.trans (congrArg some (by kernel_rfl))
    t0 := Tryd.underlying0
    a0 := Tryd.isAgg0
    z0 := Tryd.sizeOf0
    v0 := Tryd.zeroValue0
    t3 := Tryd.underlying3
    a3 := Tryd.isAgg3
    z3 := Tryd.sizeOf3
    v3 := Tryd.zeroValue3
    t4 := Tryd.underlying4
    a4 := Tryd.isAgg4
    z4 := Tryd.sizeOf4
    v4 := Tryd.zeroValue4
    t9 := Tryd.underlying9
    a9 := Tryd.isAgg9
    z9 := Tryd.sizeOf9
    v9 := Tryd.zeroValue9
    t37 := Tryd.underlying45
    a37 := Tryd.isAgg45
    z37 := Tryd.sizeOf45
    v37 := Tryd.zeroValue45
    t127 := Tryd.underlying65
    a127 := Tryd.isAgg65
    z127 := Tryd.sizeOf65
    v127 := Tryd.zeroValue65 }
theorem qcloneLaysM : LaysM.n316 Tryd.prog qcloneRen :=
  { qcloneLays with
    t5 := Tryd.underlying5
    a5 := Tryd.isAgg5
    z5 := Tryd.sizeOf5
    v5 := Tryd.zeroValue5
    i0 := by kernel_rfl
    i3 := by kernel_rfl
    i4 := by kernel_rfl
    i5 := by kernel_rfl
    i9 := by kernel_rfl
    i37 := by kernel_rfl
    i127 := by kernel_rfl }
/-- The texts sorted; each once. -/
def leB (x y : List UInt8) : Bool := decide (x ≤ y)
def sortR (l : List (List UInt8)) : List (List UInt8) := l.mergeSort fun x y => decide (x ≤ y)
theorem own_cells {w : World} {base : Nat} {g n cap : Nat} {l : List (List UInt8)} (h : SOwnIp w base (.slice (some ⟨g, 0, none⟩) n cap) l) : ∃ cur, base ≤ g ∧ w.heap[g]? = some (.cells cur 9 (0, 0)) ∧ l.length ≤ cap ∧ cap ≤ maxLen ∧ cur.size = cap * 1 ∧ n = l.length := by
  rcases h.2 with ⟨e, _⟩ | ⟨g', cap', cur, e, hb, hg, h1, h2, h3, h4⟩
  · cases e
  · injection e with e1 e2 e3
    injection e1 with e1
    injection e1 with e1
    subst e1 e2 e3
    exact ⟨cur, hb, hg, h1, h2, h3, rfl⟩
theorem sortN_calls (w : World) (base g cap : Nat) (l : List (List UInt8)) (h : SOwnIp w base (.slice (some ⟨g, 0, none⟩) l.length cap) l) (hl : l.length ≤ 1000000) :
    Calls Tryd.prog 26 #[.slice (some ⟨g, 0, none⟩) l.length cap] w fun e w' => e = .returned (.tuple #[]) ∧ SOwnIp w' base (.slice (some ⟨g, 0, none⟩) (sortR l).length cap) (sortR l) ∧ Below base w w' := by
  obtain ⟨cur, hb, hg, h1, h2, h3, _⟩ := own_cells h
  have hlt : g < w.heap.size := (Array.getElem?_eq_some_iff.1 hg).1
  obtain ⟨g', cap', e, _, _, _, _, _, hH⟩ := Lib.holds_of_ownsRow (enc := encStr) (zs := l) h (by simp)
  injection e with e1 e2 e3
  injection e1 with e1
  injection e1 with e1
  subst e1 e3
  refine (calls_of_every_depth fun D => AnyS.slices_Sort_string_alone qsortLays D g 0 cap l w hH hlt (by omega)).mono ?_
  rintro e w' ⟨rfl, n, os, rfl⟩
  have hs : (sortR l).length = l.length := List.length_mergeSort l
  refine ⟨rfl, ?_, (Below.refl base w).grown (grownBy_sorted _) (by omega) (fun k hk => by cases hk; exact hb)⟩
  rw [hs]
  have := ownsRow_sorted (n := n) (os := os) (ts := sortR l) hs hb hg h1 h2 h3
  show World.ownsRow _ _ _ _ _ (sortR l).length _
  rw [hs]
  exact this
theorem compactN_calls (w : World) (base g cap : Nat) (l : List (List UInt8)) (h : SOwnIp w base (.slice (some ⟨g, 0, none⟩) l.length cap) l) (hl : l.length ≤ 1000000) :
    Calls Tryd.prog 27 #[.slice (some ⟨g, 0, none⟩) l.length cap] w fun e w' => e = .returned (.slice (some ⟨g, 0, none⟩) (Lib.compact l).length cap) ∧ SOwnIp w' base (.slice (some ⟨g, 0, none⟩) (Lib.compact l).length cap) (Lib.compact l) ∧ Below base w w' := by
  obtain ⟨cur, hb, hg, h1, h2, h3, _⟩ := own_cells h
  obtain ⟨g', cap', e, _, _, _, _, _, hH⟩ := Lib.holds_of_ownsRow (enc := encStr) (zs := l) h (by simp)
  injection e with e1 e2 e3
  injection e1 with e1
  injection e1 with e1
  subst e1 e3
  have hc := Lib.compact_length_le l
  refine (calls_of_every_depth fun D => AnyS.slices_Compact_string_in qcompactLays D g 0 cap l w hH (by omega) h1).mono ?_
  rintro e w' ⟨rfl, q, rfl⟩
  refine ⟨rfl, ?_, Lib.below_putRow (Below.refl base w) hb⟩
  have := Lib.ownsRow_putRow (q := q) (k := (Lib.compact l).length) (ys := Lib.compact l ++ List.replicate (l.length - (Lib.compact l).length) []) h (by simp; omega) hc
  rw [List.take_left] at this
  exact this
theorem cloneN_calls (s : ByteArray) (w : World) (hs : s.size ≤ 2000000) : Calls Tryd.prog 28 #[.string s] w fun e w' => e = .returned (.string s) ∧ Below w.heap.size w w' := by
  have HC := hid (fun w => Any.stringslite_Clone (P := Tryd.prog) qcloneLaysM s w (by omega))
  clear hs
  go_enter Tryd.func28, Tryd.ntmps28
  go_wp2_with fail
  refine (HC.out _).mono ?_
  rintro e w1 ⟨rfl, hb⟩
  have HB := hid hb
  clear hb
  go_wp2_with fail
  go_ret
  exact ⟨rfl, HB.out⟩
end Go.Proofs.YtilamfbpbgcnpaaDoor
