import Derived.Test.YtigfgloenjoeoaaGreatDoorProg
import Derived.Handy
import Derived.Deep.MidRow
set_option linter.unusedVariables false
set_option linter.unusedSimpArgs false
set_option maxRecDepth 20000
set_option maxHeartbeats 16000000
namespace Go.Proofs.YtigfgloenjoeoaaGreatDoor
open Go.RowKit
theorem results_ct {P:Program} {fn:Func} {tmps:Array Value} {w:World} {a b:Nat} {t:TypeId} {x:Addr} {v u:Value}
 (hr:fn.results=#[.cell a t,.tmp b]) (ha:tmps.getD a undef=.pointer (some x)) (hl:(loadVar t x).run P w=.ok v w) (hb:tmps.getD b undef=u) :
 (results fn tmps).run P w=.ok (.tuple #[v,u]) w:=by
 unfold results
 rw [hr]
 simp only [Array.getD_eq_getD_getElem?] at *
 simp [ha,hb,hl,asAddr]
end Go.Proofs.YtigfgloenjoeoaaGreatDoor
