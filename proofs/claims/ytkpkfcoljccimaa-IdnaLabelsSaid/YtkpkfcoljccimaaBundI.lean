/- Texts of one proof, laid behind one another. -/
import Derived.Test.YtkpkfcoljccimaaBundH
import Derived.Shelf.Strings.OnBuilder
/- strings.Join: the library's own contract, at this program. -/
namespace Go.Proofs.Ytkpkfcoljccimaa
open Go.RowKit Go.Shelf
set_option linter.unusedVariables false
def joinRen : Ren := ⟨fun | 156 => 20 | 165 => 31 | 166 => 32 | 169 => 33 | 240 => 42 | 241 => 43 | 276 => 49 | 277 => 50 | n => n, fun | 0 => 0 | 3 => 3 | 4 => 4 | 5 => 5 | 9 => 9 | 20 => 20 | 31 => 44 | 37 => 47 | 70 => 57 | 72 => 59 | 75 => 62 | 76 => 63 | 80 => 65 | 127 => 75 | 164 => 81 | n => n, fun n => n⟩
theorem joinLays : Lays.n156 Try.prog joinRen :=
  { mixed := by kernel_rfl
    f156 := Try.func20.trans (congrArg some (by kernel_rfl))
    f165 := Try.func31.trans (congrArg some (by kernel_rfl))
    f166 := Try.func32.trans (congrArg some (by kernel_rfl))
    f169 := Try.func33.trans (congrArg some (by kernel_rfl))
    f240 := Try.func42.trans (congrArg some (by kernel_rfl))
    f241 := Try.func43.trans (congrArg some (by kernel_rfl))
    f276 := Try.func49.trans (congrArg some (by kernel_rfl))
    f277 := Try.func50.trans (congrArg some (by kernel_rfl))
    t0 := Try.underlying0
    a0 := Try.isAgg0
    z0 := Try.sizeOf0
    v0 := Try.zeroValue0
    t3 := Try.underlying3
    a3 := Try.isAgg3
    z3 := Try.sizeOf3
    v3 := Try.zeroValue3
    t4 := Try.underlying4
    a4 := Try.isAgg4
    z4 := Try.sizeOf4
    v4 := Try.zeroValue4
    t9 := Try.underlying9
    a9 := Try.isAgg9
    z9 := Try.sizeOf9
    v9 := Try.zeroValue9
    t20 := Try.underlying20
    a20 := Try.isAgg20
    z20 := Try.sizeOf20
    v20 := Try.zeroValue20
    t31 := Try.underlying44
    a31 := Try.isAgg44
    z31 := Try.sizeOf44
    v31 := Try.zeroValue44
    t37 := Try.underlying47
    a37 := Try.isAgg47
    z37 := Try.sizeOf47
    v37 := Try.zeroValue47
    t70 := Try.underlying57
    a70 := Try.isAgg57
    z70 := Try.sizeOf57
    v70 := Try.zeroValue57
    t72 := Try.underlying59
    a72 := Try.isAgg59
    z72 := Try.sizeOf59
    v72 := Try.zeroValue59
    t75 := Try.underlying62
    a75 := Try.isAgg62
    z75 := Try.sizeOf62
    v75 := Try.zeroValue62
    t76 := Try.underlying63
    a76 := Try.isAgg63
    z76 := Try.sizeOf63
    v76 := Try.zeroValue63
    t127 := Try.underlying75
    a127 := Try.isAgg75
    z127 := Try.sizeOf75
    v127 := Try.zeroValue75
    t164 := Try.underlying81
    a164 := Try.isAgg81
    z164 := Try.sizeOf81
    v164 := Try.zeroValue81 }
theorem joinExtra : Builder.Extra Try.prog joinRen :=
  { sizeBuilder := by kernel_rfl
    liesBuilder := by kernel_rfl
    t5 := Try.underlying5
    a5 := Try.isAgg5
    z5 := Try.sizeOf5
    v5 := Try.zeroValue5
    infoByte := by kernel_rfl
    cellsByte := by kernel_rfl
    sizeByte := by kernel_rfl
    neB5 := by decide }
theorem lib_tail : ∀ (bs : List (List UInt8)), Lib.joinTail [46] bs = joinL false bs
  | [] => rfl
  | c :: bs => by
    rw [joinL_cons, ← lib_tail bs]
    simp [Lib.joinTail, dotB]
theorem lib_join (bs : List (List UInt8)) (b : List UInt8) : Lib.join (b :: bs) [46] = b ++ joinL false bs := by rw [Lib.join_cons, lib_tail]
theorem join_calls (v : Value) (xs : List ByteArray) (w : World) (hv : SRow w v xs) (hn : xs ≠ []) (hl : xs.length ≤ 100000) (hsz : (joinL true (xs.map bytesOf)).length ≤ 140737488355328) :
    Calls Try.prog 20 #[v, .string ⟨#[46]⟩] w fun e w' => e = .returned (.string (strOf (joinL true (xs.map bytesOf)))) ∧ Below w.heap.size w w' := by
  obtain ⟨a, cap, rfl, h1, h2, h3⟩ := hv
  obtain ⟨b, off, rfl, hlt, hc⟩ := h3 hn
  have hj : Lib.join (xs.map (·.data.toList)) [46] = joinL true (xs.map bytesOf) := by
    cases xs with
    | nil => exact absurd rfl hn
    | cons x xs =>
      rw [List.map_cons, lib_join]
      show _ = dotB true ++ bytesOf x ++ joinL false (xs.map bytesOf)
      simp [dotB, bytesOf]
      rfl
  have h := Any.strings_Join joinLays joinExtra b off cap xs ⟨#[46]⟩ w (fun j x hx => by
      have hj : j < xs.length := by
        rcases Nat.lt_or_ge j xs.length with h | h
        · exact h
        · rw [List.getElem?_eq_none h] at hx; cases hx
      rw [List.getElem?_eq_getElem hj] at hx
      injection hx with hx
      rw [hc j hj, hx]) hlt (by omega) h1 (by
        show (Lib.join (xs.map (·.data.toList)) [46]).length ≤ _
        rw [hj]; exact hsz)
  refine h.mono ?_
  rintro e w' ⟨rfl, hb⟩
  refine ⟨?_, hb⟩
  show Ending.returned (.string ⟨(Lib.join (xs.map (·.data.toList)) [46]).toArray⟩) = _
  rw [hj]
  rfl
end Go.Proofs.Ytkpkfcoljccimaa
