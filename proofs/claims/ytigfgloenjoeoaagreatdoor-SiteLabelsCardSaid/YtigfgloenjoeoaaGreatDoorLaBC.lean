import Derived.Test.YtigfgloenjoeoaaGreatDoorLaAU
import Derived.Test.YtigfgloenjoeoaaGreatDoorLaAR
set_option linter.unusedVariables false
set_option linter.unusedSimpArgs false
set_option maxRecDepth 20000
set_option maxHeartbeats 16000000
namespace Go.Proofs.YtigfgloenjoeoaaGreatDoor
theorem enc_len1 (c:UInt8):(encP 1 c).length≤3:=by
 unfold encP
 split
 ·simp
 ·split<;>simp
theorem pct_len1:∀l:List UInt8,(pctR 1 l).length≤3 * l.length
 | []=>by simp [pctR_nil]
 | c::r=>by
   have h1:=enc_len1 c
   have h2:=pct_len1 r
   rw [pctR_cons,List.length_append,List.length_cons]
   omega
def FineH (h:HostN):Prop:=h.2.2.2.length=8∧(∀x∈h.2.2.2,x < 65536)∧h.2.2.1 < 4294967296∧h.2.1.length≤12000
theorem fine_none:FineH host0:=⟨rfl,by decide,by decide,by decide⟩
theorem host_fine (l:List UInt8) (b:Bool):FineH (hostR l b).1:=by
 unfold hostR
 split
 ·exact fine_none
 ·rename_i h4
  split
  ·unfold bracketR
   split
   ·exact fine_none
   ·unfold sixH
    have hf:=parse6_fine l.tail.dropLast
    split
    ·exact ⟨hf.1,hf.2.1,by show 0 < 4294967296;omega,by show 0≤12000;omega⟩
    ·exact fine_none
  ·split
   ·unfold specialR
    split
    ·rename_i hz
     have ha:ascR (lossyL (unR l))=((askedR l).1,0):=by
      apply Prod.ext
      ·rfl
      ·exact hz
     obtain ⟨ps,_,_,_,hsz⟩:=asc_inv ha
     unfold nameR
     split
     ·exact fine_none
     ·split
      ·exact fine_none
      ·split
       ·unfold fourH
        split
        ·exact ⟨rfl,z8_fine.2,(parse4_lt _).1,by show 0≤12000;omega⟩
        ·exact fine_none
       ·refine ⟨rfl,z8_fine.2,by show 0 < 4294967296;omega,?_⟩
        show (bytesOf (askedR l).1).length≤12000
        rw [bytesOf_len]
        omega
    ·exact fine_none
   ·unfold darkR
    split
    ·exact fine_none
    ·split
     ·exact fine_none
     ·refine ⟨rfl,z8_fine.2,by show 0 < 4294967296;omega,?_⟩
      show (pctR 1 l).length≤12000
      have:=pct_len1 l
      omega
theorem host_parts (l:List UInt8) (b:Bool):∃(k:Int) (t:List UInt8) (n a0 a1 a2 a3 a4 a5 a6 a7 m:Nat),hostR l b=((k,t,n,[a0,a1,a2,a3,a4,a5,a6,a7]),m)∧(∀x∈[a0,a1,a2,a3,a4,a5,a6,a7],x < 65536)∧n < 4294967296∧t.length≤12000:=by
 obtain ⟨h8,hx,hn,ht⟩:=host_fine l b
 obtain ⟨a0,a1,a2,a3,a4,a5,a6,a7,he⟩:=eight h8
 refine ⟨(hostR l b).1.1,(hostR l b).1.2.1,(hostR l b).1.2.2.1,a0,a1,a2,a3,a4,a5,a6,a7,(hostR l b).2,?_,?_,hn,ht⟩
 ·rw [← he]
 ·rw [← he];exact hx
end Go.Proofs.YtigfgloenjoeoaaGreatDoor
