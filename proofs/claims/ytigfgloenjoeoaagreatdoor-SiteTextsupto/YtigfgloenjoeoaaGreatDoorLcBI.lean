import Derived.Test.YtigfgloenjoeoaaGreatDoorLcAY
import Derived.Test.YtigfgloenjoeoaaGreatDoorLcAU
set_option linter.unusedVariables false
set_option linter.unusedSimpArgs false
set_option maxRecDepth 20000
set_option maxHeartbeats 16000000
namespace Go.Proofs.YtigfgloenjoeoaaGreatDoor
theorem enc_len1 (c:UInt8):(encP 1 c).length≤3:=by
 unfold encP
 split
 ·simp
 ·split<;>simp
theorem pct_len1:∀l:List UInt8,(pctR 1 l).length≤3 * l.length
 | []=>by simp [pctR_nil]
 | c::r=>by
   have h1:=enc_len1 c
   have h2:=pct_len1 r
   rw [pctR_cons,List.length_append,List.length_cons]
   omega
def FineH (h:HostN):Prop:=h.2.2.2.length=8∧(∀x∈h.2.2.2,x < 65536)∧h.2.2.1 < 4294967296∧h.2.1.length≤12000
theorem fine_none:FineH host0:=⟨rfl,by decide,by decide,by decide⟩
theorem host_fine (l:List UInt8) (b:Bool):FineH (hostR l b).1:=by
 unfold hostR
 split
 ·exact fine_none
 ·rename_i h4
  split
  ·unfold bracketR
   split
   ·exact fine_none
   ·unfold sixH
    have hf:=parse6_fine l.tail.dropLast
    split
    ·exact ⟨hf.1,hf.2.1,by show 0 < 4294967296;omega,by show 0≤12000;omega⟩
    ·exact fine_none
  ·split
   ·unfold specialR
    split
    ·rename_i hz
     have ha:ascR (lossyL (unR l))=((askedR l).1,0):=by
      apply Prod.ext
      ·rfl
      ·exact hz
     obtain ⟨ps,_,_,_,hsz⟩:=asc_inv ha
     unfold nameR
     split
     ·exact fine_none
     ·split
      ·exact fine_none
      ·split
       ·unfold fourH
        split
        ·exact ⟨rfl,z8_fine.2,(parse4_lt _).1,by show 0≤12000;omega⟩
        ·exact fine_none
       ·refine ⟨rfl,z8_fine.2,by show 0 < 4294967296;omega,?_⟩
        show (bytesOf (askedR l).1).length≤12000
        rw [bytesOf_len]
        omega
    ·exact fine_none
   ·unfold darkR
    split
    ·exact fine_none
    ·split
     ·exact fine_none
     ·refine ⟨rfl,z8_fine.2,by show 0 < 4294967296;omega,?_⟩
      show (pctR 1 l).length≤12000
      have:=pct_len1 l
      omega
end Go.Proofs.YtigfgloenjoeoaaGreatDoor
