import Derived.Test.YtigfgloenjoeoaaGreatDoorLbBM
import Derived.Lib.ConvBytes
import Derived.Test.YtigfgloenjoeoaaGreatDoorLbAX
set_option linter.unusedVariables false
set_option linter.unusedSimpArgs false
set_option maxRecDepth 20000
set_option maxHeartbeats 16000000
namespace Go.Proofs.YtigfgloenjoeoaaGreatDoor
open Go.RowKit
theorem str_row (w:World) (s:ByteArray) (hs:s.size≤100000):BRow (Lib.bytesWorld w 5 s) (.slice (some ⟨w.heap.size,0,none⟩) s.size (grownCap w s.size 0 5)) s.data.toList:=by
 have hn:=bytes_num s
 refine ⟨_,_,by rw [hn],by rw [hn];exact grownCap_ge w s.size 0 5,grownCap_le_maxLen w s.size 0 5 (by unfold maxLen;omega),fun _=>⟨w.heap.size,0,rfl,by rw [Lib.bytesWorld_size];omega,fun j hj=>?_⟩⟩
 rw [hn] at hj
 rw [Nat.zero_add,Lib.bytesWorld_cell w 5 s j (by omega)]
 congr 2
 show ((s.data.toList.getD j 0).toNat:Int)=_
 rw [List.getD_eq_getElem?_getD,List.getElem?_eq_getElem (by rw [hn];exact hj)]
 rfl
theorem str_world (w:World) (s:ByteArray):Below w.heap.size w (Lib.bytesWorld w 5 s) :=
 ⟨rfl,rfl,rfl,by rw [Lib.bytesWorld_size];omega,fun k hk=>Lib.bytesWorld_at_old w _ _ k hk⟩
theorem dark_bad {l:List UInt8} (h:l.any badB=true):darkR l=(host0,4):=if_pos h
theorem dark_some {l:List UInt8} (h:l.any badB=false) (h0:l≠[]):darkR l=((4,pctR 1 l,0,z8),0):=by unfold darkR;rw [h,if_neg (by decide),if_neg h0]
theorem asked_pair (l:List UInt8):∃(T:ByteArray) (k:Nat),askedR l=(T,(k:Int))∧(k=0→T.size≤253):=by
 have hp:=ascR_pos (lossyL (unR l))
 refine ⟨(askedR l).1,(askedR l).2.toNat,?_,fun h=>?_⟩
 ·apply Prod.ext
  ·rfl
  ·show (askedR l).2=_
   unfold askedR at *
   omega
 ·have e:ascR (lossyL (unR l))=((askedR l).1,0):=by
   apply Prod.ext
   ·rfl
   ·show (ascR (lossyL (unR l))).2=0
    unfold askedR at h
    omega
  obtain ⟨ps,_,_,_,hsz⟩:=asc_inv e
  exact hsz
theorem special_pair {l:List UInt8} {T:ByteArray} {k:Nat} (h:askedR l=(T,(k:Int))):specialR l=if k=0 then nameR T.data.toList else (host0,k):=by
 unfold specialR
 rw [h]
 by_cases hk:k=0
 ·subst hk;rfl
 ·rw [if_neg (by show¬(k:Int)=0;omega),if_neg hk]
  rfl
theorem name_none:nameR []=(host0,6):=if_pos rfl
end Go.Proofs.YtigfgloenjoeoaaGreatDoor
