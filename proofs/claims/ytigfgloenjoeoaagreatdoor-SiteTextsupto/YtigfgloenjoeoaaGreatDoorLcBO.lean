import Derived.Test.YtigfgloenjoeoaaGreatDoorLcBJ
import Derived.Test.YtigfgloenjoeoaaGreatDoorLcAY
import Derived.Test.YtigfgloenjoeoaaGreatDoorLcAU
import Derived.Test.YtigfgloenjoeoaaGreatDoorLcAD
import Derived.Test.YtigfgloenjoeoaaGreatDoorLcAC
import Derived.Test.YtigfgloenjoeoaaGreatDoorLcAA
import Derived.Test.YtigfgloenjoeoaaGreatDoorLcAJ
import Derived.Test.YtigfgloenjoeoaaGreatDoorLcAE
import Derived.Deep.Cut
import Derived.Lib.ConvBytes
set_option linter.unusedVariables false
set_option linter.unusedSimpArgs false
set_option maxRecDepth 20000
set_option maxHeartbeats 16000000
namespace Go.Proofs.YtigfgloenjoeoaaGreatDoor
open Go.RowKit
theorem hostR_long {l:List UInt8} {b:Bool} (h:4000 < l.length):hostR l b=(host0,3):=if_pos h
theorem hostR_brack {l:List UInt8} {b:Bool} (h:¬4000 < l.length) (h1:l.head? = some 91):hostR l b=bracketR l:=by unfold hostR;rw [if_neg h,if_pos h1]
theorem hostR_dark {l:List UInt8} (h:¬4000 < l.length) (h1:l.head? ≠ some 91):hostR l false=darkR l:=by unfold hostR;rw [if_neg h,if_neg h1,if_neg (by decide)]
theorem hostR_special {l:List UInt8} (h:¬4000 < l.length) (h1:l.head? ≠ some 91):hostR l true=specialR l:=by unfold hostR;rw [if_neg h,if_neg h1,if_pos rfl]
theorem eight8' {w:World} {g:Nat} {y0 y1 y2 y3 y4 y5 y6 y7:Nat} (h:Blk w g [y0,y1,y2,y3,y4,y5,y6,y7]) :
 (w.cell? ⟨g,0,none⟩=some (.int .u16 (y0:Int))∧w.cell? ⟨g,1,none⟩=some (.int .u16 (y1:Int))∧w.cell? ⟨g,2,none⟩=some (.int .u16 (y2:Int))∧w.cell? ⟨g,3,none⟩=some (.int .u16 (y3:Int))∧w.cell? ⟨g,4,none⟩=some (.int .u16 (y4:Int))∧w.cell? ⟨g,5,none⟩=some (.int .u16 (y5:Int))∧w.cell? ⟨g,6,none⟩=some (.int .u16 (y6:Int))∧w.cell? ⟨g,7,none⟩=some (.int .u16 (y7:Int)))∧True:=by
 have c:=fun i hi=>h.cell i hi
 exact ⟨⟨(c 0 (by simp)).1,(c 1 (by simp)).1,(c 2 (by simp)).1,(c 3 (by simp)).1,(c 4 (by simp)).1,(c 5 (by simp)).1,(c 6 (by simp)).1,(c 7 (by simp)).1⟩,trivial⟩
theorem str_row (w:World) (s:ByteArray) (hs:s.size≤100000):BRow (Lib.bytesWorld w 5 s) (.slice (some ⟨w.heap.size,0,none⟩) s.size (grownCap w s.size 0 5)) s.data.toList:=by
 have hn:=bytes_num s
 refine ⟨_,_,by rw [hn],by rw [hn];exact grownCap_ge w s.size 0 5,grownCap_le_maxLen w s.size 0 5 (by unfold maxLen;omega),fun _=>⟨w.heap.size,0,rfl,by rw [Lib.bytesWorld_size];omega,fun j hj=>?_⟩⟩
 rw [hn] at hj
 rw [Nat.zero_add,Lib.bytesWorld_cell w 5 s j (by omega)]
 congr 2
 show ((s.data.toList.getD j 0).toNat:Int)=_
 rw [List.getD_eq_getElem?_getD,List.getElem?_eq_getElem (by rw [hn];exact hj)]
 rfl
theorem str_world (w:World) (s:ByteArray):Below w.heap.size w (Lib.bytesWorld w 5 s) :=
 ⟨rfl,rfl,rfl,by rw [Lib.bytesWorld_size];omega,fun k hk=>Lib.bytesWorld_at_old w _ _ k hk⟩
theorem dark_bad {l:List UInt8} (h:l.any badB=true):darkR l=(host0,4):=if_pos h
theorem dark_some {l:List UInt8} (h:l.any badB=false) (h0:l≠[]):darkR l=((4,pctR 1 l,0,z8),0):=by unfold darkR;rw [h,if_neg (by decide),if_neg h0]
theorem asked_pair (l:List UInt8):∃(T:ByteArray) (k:Nat),askedR l=(T,(k:Int))∧(k=0→T.size≤253):=by
 have hp:=ascR_pos (lossyL (unR l))
 refine ⟨(askedR l).1,(askedR l).2.toNat,?_,fun h=>?_⟩
 ·apply Prod.ext
  ·rfl
  ·show (askedR l).2=_
   unfold askedR at *
   omega
 ·have e:ascR (lossyL (unR l))=((askedR l).1,0):=by
   apply Prod.ext
   ·rfl
   ·show (ascR (lossyL (unR l))).2=0
    unfold askedR at h
    omega
  obtain ⟨ps,_,_,_,hsz⟩:=asc_inv e
  exact hsz
theorem special_pair {l:List UInt8} {T:ByteArray} {k:Nat} (h:askedR l=(T,(k:Int))):specialR l=if k=0 then nameR T.data.toList else (host0,k):=by
 unfold specialR
 rw [h]
 by_cases hk:k=0
 ·subst hk;rfl
 ·rw [if_neg (by show¬(k:Int)=0;omega),if_neg hk]
  rfl
theorem name_none:nameR []=(host0,6):=if_pos rfl
end Go.Proofs.YtigfgloenjoeoaaGreatDoor
