/- Texts of one proof, laid behind one another. -/
import Derived.Test.YtkpkfcoljccimaaDoorBundH
import Derived.Shelf.Strings.OnBuilder
/- strings.Join: the library's own contract, at this program. -/
namespace Go.Proofs.YtkpkfcoljccimaaDoor
open Go.RowKit Go.Shelf
set_option linter.unusedVariables false
set_option maxRecDepth 20000
def joinRen : Ren := ⟨fun | 156 => 17 | 165 => 37 | 166 => 38 | 169 => 39 | 240 => 57 | 241 => 58 | 276 => 70 | 277 => 71 | n => n, fun | 0 => 0 | 3 => 3 | 4 => 4 | 5 => 5 | 9 => 9 | 20 => 20 | 31 => 34 | 37 => 57 | 70 => 56 | 72 => 59 | 75 => 62 | 76 => 63 | 80 => 65 | 127 => 78 | 164 => 88 | n => n, fun n => n⟩
theorem joinLays : Lays.n156 Tryd.prog joinRen :=
  { mixed := by kernel_rfl
    f156 := Tryd.func17.trans (congrArg some (by kernel_rfl))
    f165 := Tryd.func37.trans (congrArg some (by kernel_rfl))
    f166 := Tryd.func38.trans (congrArg some (by kernel_rfl))
    f169 := Tryd.func39.trans (congrArg some (by kernel_rfl))
    f240 := Tryd.func57.trans (congrArg some (by kernel_rfl))
    f241 := Tryd.func58.trans (congrArg some (by kernel_rfl))
    f276 := Tryd.func70.trans (congrArg some (by kernel_rfl))
    f277 := Tryd.func71.trans (congrArg some (by kernel_rfl))
    t0 := Tryd.underlying0
    a0 := Tryd.isAgg0
    z0 := Tryd.sizeOf0
    v0 := Tryd.zeroValue0
    t3 := Tryd.underlying3
    a3 := Tryd.isAgg3
    z3 := Tryd.sizeOf3
    v3 := Tryd.zeroValue3
    t4 := Tryd.underlying4
    a4 := Tryd.isAgg4
    z4 := Tryd.sizeOf4
    v4 := Tryd.zeroValue4
    t9 := Tryd.underlying9
    a9 := Tryd.isAgg9
    z9 := Tryd.sizeOf9
    v9 := Tryd.zeroValue9
    t20 := Tryd.underlying20
    a20 := Tryd.isAgg20
    z20 := Tryd.sizeOf20
    v20 := Tryd.zeroValue20
    t31 := Tryd.underlying34
    a31 := Tryd.isAgg34
    z31 := Tryd.sizeOf34
    v31 := Tryd.zeroValue34
    t37 := Tryd.underlying57
    a37 := Tryd.isAgg57
    z37 := Tryd.sizeOf57
    v37 := Tryd.zeroValue57
    t70 := Tryd.underlying56
    a70 := Tryd.isAgg56
    z70 := Tryd.sizeOf56
    v70 := Tryd.zeroValue56
    t72 := Tryd.underlying59
    a72 := Tryd.isAgg59
    z72 := Tryd.sizeOf59
    v72 := Tryd.zeroValue59
    t75 := Tryd.underlying62
    a75 := Tryd.isAgg62
    z75 := Tryd.sizeOf62
    v75 := Tryd.zeroValue62
    t76 := Tryd.underlying63
    a76 := Tryd.isAgg63
    z76 := Tryd.sizeOf63
    v76 := Tryd.zeroValue63
    t127 := Tryd.underlying78
    a127 := Tryd.isAgg78
    z127 := Tryd.sizeOf78
    v127 := Tryd.zeroValue78
    t164 := Tryd.underlying88
    a164 := Tryd.isAgg88
    z164 := Tryd.sizeOf88
    v164 := Tryd.zeroValue88 }
theorem joinExtra : Builder.Extra Tryd.prog joinRen :=
  { sizeBuilder := by kernel_rfl
    liesBuilder := by kernel_rfl
    t5 := Tryd.underlying5
    a5 := Tryd.isAgg5
    z5 := Tryd.sizeOf5
    v5 := Tryd.zeroValue5
    infoByte := by kernel_rfl
    cellsByte := by kernel_rfl
    sizeByte := by kernel_rfl
    neB5 := by decide }
theorem lib_tail : ∀ (bs : List (List UInt8)), Lib.joinTail [46] bs = joinL false bs
  | [] => rfl
  | c :: bs => by
    rw [joinL_cons, ← lib_tail bs]
    simp [Lib.joinTail, dotB]
theorem lib_join (bs : List (List UInt8)) (b : List UInt8) : Lib.join (b :: bs) [46] = b ++ joinL false bs := by rw [Lib.join_cons, lib_tail]
theorem join_calls (v : Value) (xs : List ByteArray) (w : World) (hv : SRow w v xs) (hn : xs ≠ []) (hl : xs.length ≤ 100000) (hsz : (joinL true (xs.map bytesOf)).length ≤ 140737488355328) :
    Calls Tryd.prog 17 #[v, .string ⟨#[46]⟩] w fun e w' => e = .returned (.string (strOf (joinL true (xs.map bytesOf)))) ∧ Below w.heap.size w w' := by
  obtain ⟨a, cap, rfl, h1, h2, h3⟩ := hv
  obtain ⟨b, off, rfl, hlt, hc⟩ := h3 hn
  have hj : Lib.join (xs.map (·.data.toList)) [46] = joinL true (xs.map bytesOf) := by
    cases xs with
    | nil => exact absurd rfl hn
    | cons x xs =>
      rw [List.map_cons, lib_join]
      show _ = dotB true ++ bytesOf x ++ joinL false (xs.map bytesOf)
      simp [dotB, bytesOf]
      rfl
  have h := Any.strings_Join joinLays joinExtra b off cap xs ⟨#[46]⟩ w (fun j x hx => by
      have hj : j < xs.length := by
        rcases Nat.lt_or_ge j xs.length with h | h
        · exact h
        · rw [List.getElem?_eq_none h] at hx; cases hx
      rw [List.getElem?_eq_getElem hj] at hx
      injection hx with hx
      rw [hc j hj, hx]) hlt (by omega) h1 (by
        show (Lib.join (xs.map (·.data.toList)) [46]).length ≤ _
        rw [hj]; exact hsz)
  refine h.mono ?_
  rintro e w' ⟨rfl, hb⟩
  refine ⟨?_, hb⟩
  show Ending.returned (.string ⟨(Lib.join (xs.map (·.data.toList)) [46]).toArray⟩) = _
  rw [hj]
  rfl
end Go.Proofs.YtkpkfcoljccimaaDoor
