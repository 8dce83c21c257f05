/- What the frames of statements share whose rows list Go's own tables of UTF-8: a world for the witness in which they lie as they are laid. -/
import Derived.Test.YtkpkfcoljccimaaDoorFrameNX
import Derived.Test.YtkpkfcoljccimaaDoorCards
import Derived.Test.YtkpkfcoljccimaaDoorTie
import Derived.Deep.DeepHandedRow
import Derived.Lib.LaidTab
namespace Go.Proofs.YtkpkfcoljccimaaDoor
open Go.ChangeShapes Go.WideShapes Go.ChangeAt Go.RowKit
set_option linter.unusedVariables false
set_option maxRecDepth 20000
def firstCells8 : Array Value := (Go.Pinned.utf8FirstZ.map fun n : Nat => Value.int .u8 (n : Int)).toArray
def rangeCells8 : Array Value := #[.int .u8 128, .int .u8 191, .int .u8 160, .int .u8 191, .int .u8 128, .int .u8 159, .int .u8 144, .int .u8 191, .int .u8 128, .int .u8 143] ++ (List.replicate 22 (Value.int .u8 0)).toArray
/-- A world for the witness: w, the two tables holding what they are laid as. -/
def laidOn (w : World) : World :=
  { w with heap := (w.heap.modify 1 fun
      | .cells _ t frozen => .cells firstCells8 t frozen
      | o => o).modify 2 fun
      | .cells _ t frozen => .cells rangeCells8 t frozen
      | o => o }
end Go.Proofs.YtkpkfcoljccimaaDoor
