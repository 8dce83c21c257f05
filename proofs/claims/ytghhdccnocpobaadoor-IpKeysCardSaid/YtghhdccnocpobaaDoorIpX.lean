/- What the frames of the statements on numbers of machines share: the library's tables as they are laid; a world for the witness. -/
import Derived.Test.YtghhdccnocpobaaDoorFrameN
import Derived.Test.YtghhdccnocpobaaDoorIpWg
import Derived.Test.YtghhdccnocpobaaDoorCards
import Derived.Test.YtghhdccnocpobaaDoorTie
import Derived.Deep.DeepHandedRow
import Derived.Lib.LaidTab
import Derived.Shelf.Vars
namespace Go.Proofs.YtghhdccnocpobaaDoor
open Go.ChangeShapes Go.WideShapes Go.ChangeAt Go.RowKit
set_option linter.unusedVariables false
set_option maxRecDepth 20000
def nums32 : List Int := [0, 1, 28, 2, 29, 14, 24, 3, 30, 22, 20, 15, 25, 17, 4, 8, 31, 27, 13, 23, 21, 19, 16, 7, 26, 12, 18, 6, 11, 5, 10, 9]
def nums64 : List Int := [0, 1, 56, 2, 57, 49, 28, 3, 61, 58, 42, 50, 38, 29, 17, 4, 62, 47, 59, 36, 45, 43, 51, 22, 53, 39, 33, 30, 24, 18, 12, 5, 63, 55, 48, 27, 60, 41, 37, 16, 46, 35, 44, 21, 52, 32, 23, 11, 54, 26, 40, 15, 34, 20, 31, 10, 25, 14, 19, 9, 13, 8, 7, 6]
def laidRow : List (String × DataW Unit) := [("math/bits.deBruijn32tab", Rows.laid_math_bits_deBruijn32tab), ("math/bits.deBruijn64tab", Rows.laid_math_bits_deBruijn64tab), ("internal/strconv.uint64pow10", Rows.laid_internal_strconv_uint64pow10), ("unicode/utf8.acceptRanges", Rows.laid_unicode_utf8_acceptRanges), ("unicode/utf8.first", Rows.laid_unicode_utf8_first)]
theorem laid64 : (Rows.laid_math_bits_deBruijn64tab : DataW Unit) = Lib.tabData .u8 nums64 := rfl
theorem laidPow : (Rows.laid_internal_strconv_uint64pow10 : DataW Unit) = Lib.tabData .u64 Lib.pow10Tab := rfl
theorem g64 : Tryd.prog.globalNamed "math/bits.deBruijn64tab" = some 3 := by kernel_rfl
theorem g64Type : (Tryd.prog.globals[3]?).map (·.type) = some 107 := by kernel_rfl
theorem gPowType : (Tryd.prog.globals[1]?).map (·.type) = some 98 := by kernel_rfl
theorem cells64 : Tryd.prog.cellsOf 107 = 64 := by kernel_rfl
theorem cellsPow : Tryd.prog.cellsOf 98 = 20 := by kernel_rfl
theorem cellsU64 : Tryd.prog.cellsOf 45 = 1 := by kernel_rfl
theorem cellsU8 : Tryd.prog.cellsOf 5 = 1 := by kernel_rfl
theorem maxThere {W : World} (h : W.ShapedOpen Tryd.prog) : MaxL W :=
  cell_of_shapedOpen_int (t := 3) (zero := #[.int .i64 0]) h (of_decide_eq_true (by kernel_rfl)) (by kernel_rfl) rfl (by kernel_rfl) (by kernel_rfl) Tryd.underlying3
theorem tabThere {W : World} (h : laidMetH Tryd.prog laidRow W) (hs : W.ShapedOpen Tryd.prog) : Tab W := by
  have h' : laidMet Tryd.prog laidRow W := h
  obtain ⟨ps, hv, _⟩ := h'
  obtain ⟨_, _, _, _, _, _, _, _, _, _, r1, _⟩ := hv
  obtain ⟨g2, t2, cs2, fu2, p2, q2, a1, a2, a3, a4, r2, _⟩ := r1
  obtain ⟨g3, t3, cs3, fu3, p3, q3, b1, b2, b3, b4, _, _⟩ := r2
  obtain rfl := Option.some.inj (g64.symm.trans a1)
  obtain rfl := Option.some.inj (g64Type.symm.trans a2)
  obtain rfl := Option.some.inj (gPow.symm.trans b1)
  obtain rfl := Option.some.inj (gPowType.symm.trans b2)
  rw [laid64] at a4
  rw [laidPow] at b4
  refine ⟨maxThere hs, ?_, ?_⟩
  · unfold Lib.TabIs
    rw [b3, ← Lib.cells_of_tab Tryd.underlying98 Tryd.underlying45 cellsU64 cellsPow b4]
  · have hc := Lib.cells_of_tab Tryd.underlying107 Tryd.underlying5 cellsU8 cells64 a4
    have hv := World.var?_cell g64 a3 15
    rw [hv, ← Array.getElem?_toList, hc]
    rfl
def firstCells8 : Array Value := (Go.Pinned.utf8FirstZ.map fun n : Nat => Value.int .u8 (n : Int)).toArray
def rangeCells8 : Array Value := #[.int .u8 128, .int .u8 191, .int .u8 160, .int .u8 191, .int .u8 128, .int .u8 159, .int .u8 144, .int .u8 191, .int .u8 128, .int .u8 143] ++ (List.replicate 22 (Value.int .u8 0)).toArray
def putCells (w : World) (g : Nat) (cs : Array Value) : World :=
  { w with heap := w.heap.modify g fun
      | .cells _ t frozen => .cells cs t frozen
      | o => o }
/-- A world for the witness: w, the tables holding what they are laid as. -/
def laidOn (w : World) : World :=
  putCells (putCells (putCells (putCells (putCells w 4 firstCells8) 5 rangeCells8) 1 (Lib.pow10Tab.map fun z => Value.int .u64 z).toArray) 3 (nums64.map fun z => Value.int .u8 z).toArray) 2 (nums32.map fun z => Value.int .u8 z).toArray
end Go.Proofs.YtghhdccnocpobaaDoor
