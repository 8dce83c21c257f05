import Derived.Test.YtigfgloenjoeoaaGreatDoorLbBH
import Derived.Test.YtigfgloenjoeoaaGreatDoorLbAX
import Derived.Test.YtigfgloenjoeoaaGreatDoorLbAU
import Derived.Test.YtigfgloenjoeoaaGreatDoorLbAD
import Derived.Test.YtigfgloenjoeoaaGreatDoorLbAC
import Derived.Test.YtigfgloenjoeoaaGreatDoorLbAA
import Derived.Test.YtigfgloenjoeoaaGreatDoorLbAJ
import Derived.Test.YtigfgloenjoeoaaGreatDoorLbAE
import Derived.Deep.Cut
set_option linter.unusedVariables false
set_option linter.unusedSimpArgs false
set_option maxRecDepth 20000
set_option maxHeartbeats 16000000
namespace Go.Proofs.YtigfgloenjoeoaaGreatDoor
open Go.RowKit
theorem hostR_long {l:List UInt8} {b:Bool} (h:4000 < l.length):hostR l b=(host0,3):=if_pos h
theorem hostR_brack {l:List UInt8} {b:Bool} (h:¬4000 < l.length) (h1:l.head? = some 91):hostR l b=bracketR l:=by unfold hostR;rw [if_neg h,if_pos h1]
theorem hostR_dark {l:List UInt8} (h:¬4000 < l.length) (h1:l.head? ≠ some 91):hostR l false=darkR l:=by unfold hostR;rw [if_neg h,if_neg h1,if_neg (by decide)]
theorem hostR_special {l:List UInt8} (h:¬4000 < l.length) (h1:l.head? ≠ some 91):hostR l true=specialR l:=by unfold hostR;rw [if_neg h,if_neg h1,if_pos rfl]
theorem eight8' {w:World} {g:Nat} {y0 y1 y2 y3 y4 y5 y6 y7:Nat} (h:Blk w g [y0,y1,y2,y3,y4,y5,y6,y7]) :
 (w.cell? ⟨g,0,none⟩=some (.int .u16 (y0:Int))∧w.cell? ⟨g,1,none⟩=some (.int .u16 (y1:Int))∧w.cell? ⟨g,2,none⟩=some (.int .u16 (y2:Int))∧w.cell? ⟨g,3,none⟩=some (.int .u16 (y3:Int))∧w.cell? ⟨g,4,none⟩=some (.int .u16 (y4:Int))∧w.cell? ⟨g,5,none⟩=some (.int .u16 (y5:Int))∧w.cell? ⟨g,6,none⟩=some (.int .u16 (y6:Int))∧w.cell? ⟨g,7,none⟩=some (.int .u16 (y7:Int)))∧True:=by
 have c:=fun i hi=>h.cell i hi
 exact ⟨⟨(c 0 (by simp)).1,(c 1 (by simp)).1,(c 2 (by simp)).1,(c 3 (by simp)).1,(c 4 (by simp)).1,(c 5 (by simp)).1,(c 6 (by simp)).1,(c 7 (by simp)).1⟩,trivial⟩
end Go.Proofs.YtigfgloenjoeoaaGreatDoor
