import Derived.Test.YtigfgloenjoeoaaGreatDoorLcAC
import Derived.Test.YtigfgloenjoeoaaGreatDoorLcAL
import Derived.Test.YtigfgloenjoeoaaGreatDoorRows
import Derived.SliceStrings
set_option linter.unusedVariables false
set_option linter.unusedSimpArgs false
set_option maxRecDepth 20000
set_option maxHeartbeats 16000000
namespace Go.Proofs.YtigfgloenjoeoaaGreatDoor
open Go.RowKit
theorem srow_mk {W:World} {x:Addr} {len cap:Nat} {ss:List ByteArray} (hl:len≤cap) (hm:cap≤maxLen) (hz:len≤ss.length)
 (hcell:∀i,i < ss.length→W.cell? (x.add i)=some (.string (ss.getD i ByteArray.empty))):SRowIp W (.slice (some x) len cap) ((ss.take len).map fun s=>s.data.toList):=by
 have hlen:((ss.take len).map fun s=>s.data.toList).length=len:=by rw [List.length_map,List.length_take];omega
 refine ⟨some x,cap,by rw [hlen],by rw [hlen];exact hl,hm,fun hne=>?_⟩
 obtain ⟨b,off,spot⟩:=x
 have hpos:0 < len:=by
  rcases Nat.eq_zero_or_pos len with h | h
  ·subst h;simp at hne
  ·exact h
 have h0:=hcell 0 (by omega)
 have hspot:spot=none:=by simpa [Addr.add] using World.cell?_spot h0
 subst hspot
 refine ⟨b,off,rfl,World.block_lt_of_cell? W _ (by simpa [Addr.add] using h0),fun i hi=>?_⟩
 rw [hlen] at hi
 have hi':i < ss.length:=by omega
 have hc:=hcell i hi'
 rw [addr_add] at hc
 rw [hc]
 simp only [List.getElem_map,List.getElem_take]
 rw [List.getD_eq_getElem?_getD,List.getElem?_eq_getElem hi']
 rfl
end Go.Proofs.YtigfgloenjoeoaaGreatDoor
