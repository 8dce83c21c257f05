/- strings.Split at a point: the library's own contracts, at this program. -/
import Derived.Test.YtkpkfcoljccimaaDoorBundH
import Derived.Shelf.Strings.Split
namespace Go.Proofs.YtkpkfcoljccimaaDoor
open Go.RowKit Go.Shelf
set_option linter.unusedVariables false
set_option maxRecDepth 20000
def splitRen : Ren := ⟨fun | 138 => 68 | 143 => 69 | 195 => 78 | 197 => 79 | 217 => 89 | 218 => 80 | 219 => 81 | 221 => 55 | 224 => 91 | 225 => 90 | 260 => 88 | 266 => 94 | 267 => 92 | 268 => 67 | 314 => 95 | n => n, fun | 0 => 0 | 3 => 3 | 4 => 4 | 5 => 5 | 9 => 9 | 21 => 21 | 31 => 34 | 46 => 80 | 51 => 105 | 105 => 96 | 119 => 101 | 138 => 103 | 139 => 104 | 146 => 106 | n => n, fun | 1 => 0 | 3 => 1 | 4 => 2 | n => n⟩
theorem splitLays : Lays.n221 Tryd.prog splitRen :=
  { mixed := by kernel_rfl
    f138 := Tryd.func68.trans (congrArg some (by kernel_rfl))
    f143 := Tryd.func69.trans (congrArg some (by kernel_rfl))
    f195 := Tryd.func78.trans (congrArg some (by kernel_rfl))
    f197 := Tryd.func79.trans (congrArg some (by kernel_rfl))
    f217 := Tryd.func89.trans (congrArg some (by kernel_rfl))
    f218 := Tryd.func80.trans (congrArg some (by kernel_rfl))
    f219 := Tryd.func81.trans (congrArg some (by kernel_rfl))
    f221 := Tryd.func55.trans (congrArg some (by kernel_rfl))
    f224 := Tryd.func91.trans (congrArg some (by kernel_rfl))
    f225 := Tryd.func90.trans (congrArg some (by kernel_rfl))
    f260 := Tryd.func88.trans (congrArg some (by kernel_rfl))
    f266 := Tryd.func94.trans (congrArg some (by kernel_rfl))
    f267 := Tryd.func92.trans (congrArg some (by kernel_rfl))
    f268 := Tryd.func67.trans (congrArg some (by kernel_rfl))
    f314 := Tryd.func95.trans (congrArg some (by kernel_rfl))
    t0 := Tryd.underlying0
    a0 := Tryd.isAgg0
    z0 := Tryd.sizeOf0
    v0 := Tryd.zeroValue0
    t3 := Tryd.underlying3
    a3 := Tryd.isAgg3
    z3 := Tryd.sizeOf3
    v3 := Tryd.zeroValue3
    t4 := Tryd.underlying4
    a4 := Tryd.isAgg4
    z4 := Tryd.sizeOf4
    v4 := Tryd.zeroValue4
    t5 := Tryd.underlying5
    a5 := Tryd.isAgg5
    z5 := Tryd.sizeOf5
    v5 := Tryd.zeroValue5
    t9 := Tryd.underlying9
    a9 := Tryd.isAgg9
    z9 := Tryd.sizeOf9
    v9 := Tryd.zeroValue9
    t21 := Tryd.underlying21
    a21 := Tryd.isAgg21
    z21 := Tryd.sizeOf21
    v21 := Tryd.zeroValue21
    t31 := Tryd.underlying34
    a31 := Tryd.isAgg34
    z31 := Tryd.sizeOf34
    v31 := Tryd.zeroValue34
    t46 := Tryd.underlying80
    a46 := Tryd.isAgg80
    z46 := Tryd.sizeOf80
    v46 := Tryd.zeroValue80
    t51 := Tryd.underlying105
    a51 := Tryd.isAgg105
    z51 := Tryd.sizeOf105
    v51 := Tryd.zeroValue105
    t105 := Tryd.underlying96
    a105 := Tryd.isAgg96
    z105 := Tryd.sizeOf96
    v105 := Tryd.zeroValue96
    t119 := Tryd.underlying101
    a119 := Tryd.isAgg101
    z119 := Tryd.sizeOf101
    t138 := Tryd.underlying103
    a138 := Tryd.isAgg103
    z138 := Tryd.sizeOf103
    v138 := Tryd.zeroValue103
    t139 := Tryd.underlying104
    a139 := Tryd.isAgg104
    z139 := Tryd.sizeOf104
    v139 := Tryd.zeroValue104
    t146 := Tryd.underlying106
    a146 := Tryd.isAgg106
    z146 := Tryd.sizeOf106
    v146 := Tryd.zeroValue106
    g1 := by kernel_rfl
    g3 := by kernel_rfl
    g4 := by kernel_rfl }
theorem goS_none (c : UInt8) : ∀ (l cur : List UInt8), (∀ k : Nat, l[k]? ≠ some c) → goS c cur l = [cur ++ l]
  | [], cur, _ => by simp [goS]
  | x :: l, cur, h => by
    unfold goS
    rw [if_neg (fun e => h 0 (by simp [e])), goS_none c l (cur ++ [x]) (fun k => by simpa using h (k + 1))]
    simp
theorem goS_at (c : UInt8) : ∀ (l cur : List UInt8) (k : Nat), l[k]? = some c → (∀ j, j < k → l[j]? ≠ some c) → goS c cur l = (cur ++ l.take k) :: goS c [] (l.drop (k + 1))
  | [], cur, k, hc, _ => by simp at hc
  | x :: l, cur, 0, hc, _ => by
    have hx : x = c := by simpa using hc
    show (if x = c then cur :: goS c [] l else _) = _
    rw [if_pos hx]
    simp
  | x :: l, cur, k + 1, hc, hn => by
    show (if x = c then _ else goS c (cur ++ [x]) l) = _
    rw [if_neg (fun e => hn 0 (by omega) (by simp [e])), goS_at c l (cur ++ [x]) k (by simpa using hc) (fun j hj => by simpa using hn (j + 1) (by omega))]
    simp
theorem count_none {c : UInt8} {l : List UInt8} (h : ∀ k : Nat, l[k]? ≠ some c) : l.count c = 0 := by
  rw [List.count_eq_zero]
  intro hm
  obtain ⟨k, hk⟩ := List.mem_iff_getElem?.1 hm
  exact h k hk
theorem count_at {c : UInt8} : ∀ {l : List UInt8} {k : Nat}, l[k]? = some c → (∀ j, j < k → l[j]? ≠ some c) → l.count c = (l.drop (k + 1)).count c + 1
  | [], k, hc, _ => by simp at hc
  | x :: l, 0, hc, _ => by
    have hx : x = c := by simpa using hc
    rw [hx, List.count_cons_self]
    rfl
  | x :: l, k + 1, hc, hn => by
    have hx : x ≠ c := fun e => hn 0 (by omega) (by simp [e])
    rw [List.count_cons_of_ne hx, count_at (by simpa using hc) (fun j hj => by simpa using hn (j + 1) (by omega))]
    rfl
theorem splitK_goS (c : UInt8) : ∀ (n : Nat) (l : List UInt8), l.count c = n → Lib.splitK [c] 0 n l = goS c [] l
  | 0, l, h => by
    have hn : ∀ k : Nat, l[k]? ≠ some c := by
      intro k hk
      exact List.count_eq_zero.1 h (List.mem_of_getElem? hk)
    rw [goS_none c l [] hn]
    rfl
  | n + 1, l, h => by
    rcases Int.lt_or_le (Lib.indexByte l c) 0 with hi | hi
    · have he : Lib.indexByte l c = -1 := by have := Lib.indexByte_ge l c; omega
      rw [count_none (Lib.indexByte_none he)] at h
      omega
    · obtain ⟨k, hk⟩ : ∃ k : Nat, Lib.indexByte l c = k := ⟨(Lib.indexByte l c).toNat, by omega⟩
      obtain ⟨h1, h2⟩ := Lib.indexByte_some hk
      have hcnt := count_at h1 h2
      rw [goS_at c l [] k h1 h2]
      show (if Lib.index l [c] == -1 then [l] else _) = _
      rw [Lib.index_one, hk, if_neg (by intro e; have := beq_iff_eq.1 e; omega)]
      rw [Int.toNat_natCast]
      show (l.take (k + 0)) :: Lib.splitK [c] 0 n (l.drop (k + 1)) = _
      rw [splitK_goS c n (l.drop (k + 1)) (by omega)]
      simp
theorem splitB_mine (s : ByteArray) : Lib.splitB ⟨#[46]⟩ 0 (Lib.countB s ⟨#[46]⟩) s = splitB 46 (bytesOf s) := by
  have h := Lib.splitB_data ⟨#[46]⟩ 0 (Lib.countB s ⟨#[46]⟩) s
  have hc : Lib.countB s ⟨#[46]⟩ = s.data.toList.count 46 := Lib.count_one 46 s.data.toList
  have h2 : Lib.splitK (⟨#[46]⟩ : ByteArray).data.toList 0 (Lib.countB s ⟨#[46]⟩) s.data.toList = goS 46 [] s.data.toList := splitK_goS 46 _ _ hc.symm
  rw [h2] at h
  unfold splitB
  show _ = (goS 46 [] s.data.toList).map strOf
  rw [← h, List.map_map]
  have : ∀ x : ByteArray, (strOf ∘ fun y : ByteArray => y.data.toList) x = x := by
    intro x
    show strOf x.data.toList = x
    unfold strOf
    apply ByteArray.ext
    simp
  rw [List.map_congr_left (fun x _ => this x), List.map_id']
set_option maxHeartbeats 1000000 in
theorem ssplit_calls (s : ByteArray) (w : World) (hs : s.size ≤ 1000000) :
    Calls Tryd.prog 30 #[.string s, .string ⟨#[46]⟩] w fun e w' => (∃ v', e = .returned v' ∧ SRow w' v' (splitB 46 (bytesOf s))) ∧ Below w.heap.size w w' := by
  have hle := Lib.countB_le ⟨#[46]⟩ (by decide) s.size s (Nat.le_refl _)
  have hlen := Lib.splitB_all ⟨#[46]⟩ (by decide) 0 _ s rfl
  have c := Any.strings_genSplit_core splitLays (by kernel_rfl) s ⟨#[46]⟩ 0 (-1) (Lib.countB s ⟨#[46]⟩ + 1) w (by omega) (by decide) (by decide)
    (fun x c hx => by
      have h := Any.strings_Index_one { splitLays with } x 46 (w.alloc (.cells c (splitRen.t 9)))
      refine h.mono fun e w' ⟨he, hw⟩ => ⟨?_, hw⟩
      rw [he]
      show _ = Ending.returned (Value.int .i64 (Lib.index x.data.toList [46]))
      rw [Lib.index_one])
    (by
      have h := Any.strings_Count_one { splitLays with } s 46 w
      refine h.mono fun e w' ⟨he, hw⟩ => ⟨?_, hw⟩
      rw [he]
      show _ = Ending.returned (Value.int .i64 ((Lib.count s.data.toList [46] : Nat) : Int))
      rw [Lib.count_one]
      rfl)
    (by decide) (by decide) (by rw [if_pos (by decide)]; omega)
  rw [Nat.add_sub_cancel, hlen] at c
  have e2 : Lib.cellsOf (Lib.splitB ⟨#[46]⟩ 0 (Lib.countB s ⟨#[46]⟩) s) (Lib.countB s ⟨#[46]⟩ + 1) = ((Lib.splitB ⟨#[46]⟩ 0 (Lib.countB s ⟨#[46]⟩) s).map Value.string).toArray := by rw [← hlen]; exact Lib.cellsOf_full _
  rw [e2, splitB_mine] at c
  have hl2 : (splitB 46 (bytesOf s)).length = Lib.countB s ⟨#[46]⟩ + 1 := by rw [← splitB_mine, hlen]
  have HC := hid c
  have HRow : Hid (SRow (w.alloc (.cells ((splitB 46 (bytesOf s)).map Value.string).toArray 9)) (.slice (some ⟨w.heap.size, 0, none⟩) (Lib.countB s ⟨#[46]⟩ + 1) (Lib.countB s ⟨#[46]⟩ + 1)) (splitB 46 (bytesOf s))) := by
    refine ⟨_, _, by rw [hl2], by omega, by unfold maxLen; omega, fun _ => ⟨_, _, rfl, by simp, fun i hi => ?_⟩⟩
    rw [World.cell?_alloc_mark]
    simp [hi]
  clear c e2 hlen hle hl2
  generalize Lib.countB s ⟨#[46]⟩ = n at *
  generalize splitB 46 (bytesOf s) = zs at *
  go_enter Tryd.func30, Tryd.ntmps30
  go_wp2_with fail
  refine HC.out.mono ?_
  rintro e w1 ⟨rfl, rfl⟩
  go_wp2_with fail
  go_ret
  exact ⟨⟨_, rfl, HRow.out⟩, (Below.refl _ _).alloc (Nat.le_refl _) _⟩
end Go.Proofs.YtkpkfcoljccimaaDoor
