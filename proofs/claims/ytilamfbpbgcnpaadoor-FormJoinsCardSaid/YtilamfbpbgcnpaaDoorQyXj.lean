/- The tables that are named and not read as they are laid; a world for the witness. -/
import Derived.Test.YtilamfbpbgcnpaaDoorFrameN
import Derived.Test.YtilamfbpbgcnpaaDoorIpWc
import Derived.Test.YtilamfbpbgcnpaaDoorCards
import Derived.Test.YtilamfbpbgcnpaaDoorTie
import Derived.Deep.DeepHandedRow
import Derived.Lib.LaidTab
import Derived.Shelf.Vars
namespace Go.Proofs.YtilamfbpbgcnpaaDoor
open Go.ChangeShapes Go.WideShapes Go.ChangeAt Go.RowKit
set_option linter.unusedVariables false
set_option maxRecDepth 20000
theorem maxThere {W : World} (h : W.ShapedOpen Tryd.prog) : MaxL W :=
  cell_of_shapedOpen_int (t := 3) (zero := #[.int .i64 0]) h (of_decide_eq_true (by kernel_rfl)) (by kernel_rfl) rfl (by kernel_rfl) (by kernel_rfl) Tryd.underlying3
def firstCells8 : Array Value := (Go.Pinned.utf8FirstZ.map fun n : Nat => Value.int .u8 (n : Int)).toArray
def rangeCells8 : Array Value := #[.int .u8 128, .int .u8 191, .int .u8 160, .int .u8 191, .int .u8 128, .int .u8 159, .int .u8 144, .int .u8 191, .int .u8 128, .int .u8 143] ++ (List.replicate 22 (Value.int .u8 0)).toArray
def putCells (w : World) (g : Nat) (cs : Array Value) : World :=
  { w with heap := w.heap.modify g fun
      | .cells _ t frozen => .cells cs t frozen
      | o => o }
def laidRow : List (String × DataW Unit) := [("unicode/utf8.acceptRanges", Rows.laid_unicode_utf8_acceptRanges), ("unicode/utf8.first", Rows.laid_unicode_utf8_first)]
theorem tabThere {W : World} (h : laidMetH Tryd.prog laidRow W) (hs : W.ShapedOpen Tryd.prog) : MaxL W := maxThere hs
def laidOn (w : World) : World := putCells (putCells w 1 firstCells8) 2 rangeCells8
end Go.Proofs.YtilamfbpbgcnpaaDoor
