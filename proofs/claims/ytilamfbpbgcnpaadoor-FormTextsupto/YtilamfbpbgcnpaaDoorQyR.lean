/- strings.ReplaceAll (as in UrlZc, for a seat without addresses). -/
import Derived.Test.YtilamfbpbgcnpaaDoorBuB
import Derived.Shelf.Strings.Replace
namespace Go.Proofs.YtilamfbpbgcnpaaDoor
open Go.RowKit Go.Shelf
set_option linter.unusedVariables false
set_option maxRecDepth 20000
set_option linter.unusedSimpArgs false
def replAllRen : Ren := ⟨fun | 138 => 89 | 143 => 47 | 154 => 74 | 155 => 50 | 165 => 90 | 166 => 22 | 169 => 24 | 195 => 96 | 197 => 46 | 217 => 84 | 218 => 97 | 219 => 72 | 224 => 86 | 225 => 85 | 240 => 38 | 241 => 98 | 260 => 71 | 266 => 94 | 267 => 87 | 276 => 56 | 277 => 99 | 314 => 95 | n => n, fun | 0 => 0 | 3 => 3 | 4 => 4 | 5 => 5 | 9 => 9 | 20 => 20 | 21 => 21 | 37 => 45 | 46 => 67 | 51 => 93 | 70 => 44 | 72 => 47 | 75 => 49 | 76 => 50 | 80 => 52 | 105 => 73 | 119 => 109 | 127 => 65 | 138 => 111 | 139 => 112 | 146 => 126 | 164 => 80 | n => n, fun | 1 => 3 | 3 => 1 | 4 => 2 | n => n⟩
theorem replAllLays : Lays.n155 Tryd.prog replAllRen :=
  { mixed := by kernel_rfl
    f138 := Tryd.func89.trans (congrArg some (by kernel_rfl))
    f143 := Tryd.func47.trans (congrArg some (by kernel_rfl))
    f154 := Tryd.func74.trans (congrArg some (by kernel_rfl))
    f155 := Tryd.func50.trans (congrArg some (by kernel_rfl))
    f165 := Tryd.func90.trans (congrArg some (by kernel_rfl))
    f166 := Tryd.func22.trans (congrArg some (by kernel_rfl))
    f169 := Tryd.func24.trans (congrArg some (by kernel_rfl))
    f195 := Tryd.func96.trans (congrArg some (by kernel_rfl))
    f197 := Tryd.func46.trans (congrArg some (by kernel_rfl))
    f217 := Tryd.func84.trans (congrArg some (by kernel_rfl))
    f218 := Tryd.func97.trans (congrArg some (by kernel_rfl))
    f219 := Tryd.func72.trans (congrArg some (by kernel_rfl))
    f224 := Tryd.func86.trans (congrArg some (by kernel_rfl))
    f225 := Tryd.func85.trans (congrArg some (by kernel_rfl))
    f240 := Tryd.func38.trans (congrArg some (by kernel_rfl))
    f241 := Tryd.func98.trans (congrArg some (by kernel_rfl))
    f260 := Tryd.func71.trans (congrArg some (by kernel_rfl))
    f266 := Tryd.func94.trans (congrArg some (by kernel_rfl))
    f267 := Tryd.func87.trans (congrArg some (by kernel_rfl))
    f276 := Tryd.func56.trans (congrArg some (by kernel_rfl))
    f277 := Tryd.func99.trans (congrArg some (by kernel_rfl))
    f314 := Tryd.func95.trans (congrArg some (by kernel_rfl))
    t0 := Tryd.underlying0
    a0 := Tryd.isAgg0
    z0 := Tryd.sizeOf0
    v0 := Tryd.zeroValue0
    t3 := Tryd.underlying3
    a3 := Tryd.isAgg3
    z3 := Tryd.sizeOf3
    v3 := Tryd.zeroValue3
    t4 := Tryd.underlying4
    a4 := Tryd.isAgg4
    z4 := Tryd.sizeOf4
    v4 := Tryd.zeroValue4
    t5 := Tryd.underlying5
    a5 := Tryd.isAgg5
    z5 := Tryd.sizeOf5
    v5 := Tryd.zeroValue5
    t9 := Tryd.underlying9
    a9 := Tryd.isAgg9
    z9 := Tryd.sizeOf9
    v9 := Tryd.zeroValue9
    t20 := Tryd.underlying20
    a20 := Tryd.isAgg20
    z20 := Tryd.sizeOf20
    v20 := Tryd.zeroValue20
    t21 := Tryd.underlying21
    a21 := Tryd.isAgg21
    z21 := Tryd.sizeOf21
    v21 := Tryd.zeroValue21
    t37 := Tryd.underlying45
    a37 := Tryd.isAgg45
    z37 := Tryd.sizeOf45
    v37 := Tryd.zeroValue45
    t46 := Tryd.underlying67
    a46 := Tryd.isAgg67
    z46 := Tryd.sizeOf67
    v46 := Tryd.zeroValue67
    t51 := Tryd.underlying93
    a51 := Tryd.isAgg93
    z51 := Tryd.sizeOf93
    v51 := Tryd.zeroValue93
    t70 := Tryd.underlying44
    a70 := Tryd.isAgg44
    z70 := Tryd.sizeOf44
    v70 := Tryd.zeroValue44
    t72 := Tryd.underlying47
    a72 := Tryd.isAgg47
    z72 := Tryd.sizeOf47
    v72 := Tryd.zeroValue47
    t75 := Tryd.underlying49
    a75 := Tryd.isAgg49
    z75 := Tryd.sizeOf49
    v75 := Tryd.zeroValue49
    t76 := Tryd.underlying50
    a76 := Tryd.isAgg50
    z76 := Tryd.sizeOf50
    v76 := Tryd.zeroValue50
    t105 := Tryd.underlying73
    a105 := Tryd.isAgg73
    z105 := Tryd.sizeOf73
    v105 := Tryd.zeroValue73
    t119 := Tryd.underlying109
    a119 := Tryd.isAgg109
    z119 := Tryd.sizeOf109
    t127 := Tryd.underlying65
    a127 := Tryd.isAgg65
    z127 := Tryd.sizeOf65
    v127 := Tryd.zeroValue65
    t138 := Tryd.underlying111
    a138 := Tryd.isAgg111
    z138 := Tryd.sizeOf111
    v138 := Tryd.zeroValue111
    t139 := Tryd.underlying112
    a139 := Tryd.isAgg112
    z139 := Tryd.sizeOf112
    v139 := Tryd.zeroValue112
    t146 := Tryd.underlying126
    a146 := Tryd.isAgg126
    z146 := Tryd.sizeOf126
    v146 := Tryd.zeroValue126
    t164 := Tryd.underlying80
    a164 := Tryd.isAgg80
    z164 := Tryd.sizeOf80
    v164 := Tryd.zeroValue80
    g1 := by kernel_rfl
    g3 := by kernel_rfl
    g4 := by kernel_rfl }
theorem replAllExtra : Builder.Extra Tryd.prog replAllRen :=
  { sizeBuilder := by kernel_rfl
    liesBuilder := by kernel_rfl
    t5 := Tryd.underlying5
    a5 := Tryd.isAgg5
    z5 := Tryd.sizeOf5
    v5 := Tryd.zeroValue5
    infoByte := by kernel_rfl
    cellsByte := by kernel_rfl
    sizeByte := by kernel_rfl
    neB5 := by decide }
theorem replK_len (old new : List UInt8) : ∀ (k : Nat) (s : List UInt8), (Lib.replaceK old new k s).length ≤ s.length + k * new.length
  | 0, s => by simp [Lib.replaceK]
  | k + 1, s => by
    unfold Lib.replaceK
    split
    · omega
    · have := replK_len old new k (s.drop ((Lib.index s old).toNat + old.length))
      simp only [List.length_append, List.length_take, List.length_drop] at this ⊢
      rw [Nat.succ_mul]
      omega
theorem replAll_calls (s old new : ByteArray) (w : World) (hs : s.size ≤ 1000000) (T : MaxL w) (ho : 1 ≤ old.size) (hn : new.size ≤ 1) :
    Calls Tryd.prog 50 #[.string s, .string old, .string new] w fun e w' => e = .returned (.string (strOf (Lib.replaceAll s.data.toList old.data.toList new.data.toList))) ∧ Below w.heap.size w w' := by
  obtain ⟨m, hm⟩ := T
  have hc := Lib.countB_mul_le old ho s.size s (Nat.le_refl _)
  have hc2 : Lib.countB s old ≤ s.size := Nat.le_trans (Nat.le_mul_of_pos_right _ (by omega)) hc
  have hc3 : Lib.countB s old * new.size ≤ s.size * 1 := Nat.mul_le_mul hc2 hn
  exact Any.strings_ReplaceAll replAllLays replAllExtra s old new m w (by omega) hm ho (by omega)
theorem replAll_len (s old new : List UInt8) (hn : new.length ≤ 1) (ho : 1 ≤ old.length) : (Lib.replaceAll s old new).length ≤ 2 * s.length := by
  unfold Lib.replaceAll Lib.replace
  split
  · omega
  · have h1 := replK_len old new (Lib.replaceNum s old (-1)) s
    have h2 : Lib.replaceNum s old (-1) ≤ s.length := by
      unfold Lib.replaceNum
      rw [if_pos (Or.inl (by omega))]
      have hc := Lib.countB_mul_le (strOf old) ho s.length (strOf s) (Nat.le_refl _)
      exact Nat.le_trans (Nat.le_mul_of_pos_right _ (by show 0 < old.length; omega)) hc
    have h3 := Nat.mul_le_mul h2 hn
    omega
end Go.Proofs.YtilamfbpbgcnpaaDoor
