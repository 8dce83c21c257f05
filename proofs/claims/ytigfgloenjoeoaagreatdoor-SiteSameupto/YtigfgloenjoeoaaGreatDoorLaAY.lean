import Derived.Test.YtigfgloenjoeoaaGreatDoorLaAR
import Derived.Test.YtigfgloenjoeoaaGreatDoorLaAC
import Derived.Test.YtigfgloenjoeoaaGreatDoorLaAA
import Derived.Deep.RegionWith
import Derived.Deep.DrawnRows
import Derived.Shelf.Strconv.AppendUint10
import Derived.Lib.SmallJoins
import Derived.Deep.DeepMust
set_option linter.unusedVariables false
set_option linter.unusedSimpArgs false
set_option maxRecDepth 20000
set_option maxHeartbeats 16000000
namespace Go.Proofs.YtigfgloenjoeoaaGreatDoor
open Go.RowKit Go.Shelf
def Tab (w:World):Prop:=MaxL w∧Lib.TabIs Tryz.prog w "internal/strconv.uint64pow10" .u64 Lib.pow10Tab∧w.cell? ⟨4,15,none⟩=some (.int .u8 4)
theorem MaxL.below {w w':World} (h:MaxL w) (hb:Below w.heap.size w w'):MaxL w':=by
 obtain ⟨m,hm⟩:=h
 exact ⟨m,(hb.cell (World.block_lt_of_cell? w _ hm)).trans hm⟩
end Go.Proofs.YtigfgloenjoeoaaGreatDoor
