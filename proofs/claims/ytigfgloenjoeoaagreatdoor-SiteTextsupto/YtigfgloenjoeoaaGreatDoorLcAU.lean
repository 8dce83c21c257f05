import Derived.Test.YtigfgloenjoeoaaGreatDoorLcAN
import Derived.Test.YtigfgloenjoeoaaGreatDoorLcAH
import Derived.Test.YtigfgloenjoeoaaGreatDoorLcAA
import Derived.Test.YtigfgloenjoeoaaGreatDoorLcAD
import Derived.Deep.RegionHeld3
import Derived.Deep.DrawnRows
import Derived.Deep.DeepMust
import Derived.Handy
set_option linter.unusedVariables false
set_option linter.unusedSimpArgs false
set_option maxRecDepth 20000
set_option maxHeartbeats 16000000
namespace Go.Proofs.YtigfgloenjoeoaaGreatDoor
open Go.RowKit
def f16 (n:Nat):Value:=.int .u16 (n:Int)
def aggL (ns:List Nat):Value:=.agg (ns.map f16).toArray
def Blk (w:World) (g:Nat) (xs:List Nat):Prop:=w.heap[g]? = some (.cells (xs.map f16).toArray 24)
theorem Blk.lt {w:World} {g:Nat} {xs:List Nat} (h:Blk w g xs):g < w.heap.size:=by
 rcases Nat.lt_or_ge g w.heap.size with h' | h'
 ·exact h'
 ·unfold Blk at h
  rw [Array.getElem?_eq_none h'] at h
  cases h
theorem Blk.cell {w:World} {g:Nat} {xs:List Nat} (h:Blk w g xs) (i:Nat) (hi:i < xs.length):w.cell? ⟨g,i,none⟩=some (.int .u16 ((xs[i]:Nat):Int))∧w.frozen? ⟨g,i,none⟩=false:=by
 unfold Blk at h
 constructor
 ·simp [World.cell?,h,hi,f16]
 ·simp [World.frozen?,h]
theorem Blk.below {w w':World} {g:Nat} {xs:List Nat} (h:Blk w g xs) (hb:Below w.heap.size w w'):Blk w' g xs:=by
 have:=hb.block g h.lt
 unfold Blk at h ⊢
 rw [this,h]
theorem Blk.set {w:World} {g:Nat} {xs:List Nat} (h:Blk w g xs) (i x:Nat):Blk (w.setCell ⟨g,i,none⟩ (.int .u16 (x:Int))) g (xs.set i x):=by
 unfold Blk at h ⊢
 rw [heap_setCell_same w g i _ _ _ h]
 simp [f16,List.map_set]
theorem grown_set (w:World) (g i:Nat) (v:Value):w.grownBy (w.setCell ⟨g,i,none⟩ v) (some g) :=
 ⟨rfl,rfl,rfl,by simp [World.setCell],fun k hk hne=>heap_setCell_other w _ k _ (by intro e;exact hne (by rw [e]))⟩
theorem below_set {B:Nat} {w w':World} (h:Below B w w') {g:Nat} (hg:B≤g) (hs:B≤w'.heap.size) (i:Nat) (v:Value):Below B w (w'.setCell ⟨g,i,none⟩ v) :=
 h.grown (grown_set w' g i v) hs (fun k hk=>by cases hk;exact hg)
theorem eight {xs:List Nat} (h:xs.length=8):∃x0 x1 x2 x3 x4 x5 x6 x7,xs=[x0,x1,x2,x3,x4,x5,x6,x7]:=by
 match xs,h with
 | [x0,x1,x2,x3,x4,x5,x6,x7],_=>exact ⟨x0,x1,x2,x3,x4,x5,x6,x7,rfl⟩
theorem fill8 {B G:Nat} {w w3:World} {y0 y1 y2 y3 y4 y5 y6 y7:Nat} (hb:Blk w3 G [y0,y1,y2,y3,y4,y5,y6,y7]) (hB:Below B w w3) (hG:B≤G) (hs:B≤w3.heap.size) (x0 x1 x2 x3 x4 x5 x6 x7:Nat) :
 Blk ((((((((w3.setCell ⟨G,0,none⟩ (.int .u16 (x0:Int))).setCell ⟨G,1,none⟩ (.int .u16 (x1:Int))).setCell ⟨G,2,none⟩ (.int .u16 (x2:Int))).setCell ⟨G,3,none⟩ (.int .u16 (x3:Int))).setCell ⟨G,4,none⟩ (.int .u16 (x4:Int))).setCell ⟨G,5,none⟩ (.int .u16 (x5:Int))).setCell ⟨G,6,none⟩ (.int .u16 (x6:Int))).setCell ⟨G,7,none⟩ (.int .u16 (x7:Int))) G [x0,x1,x2,x3,x4,x5,x6,x7] ∧
 Below B w ((((((((w3.setCell ⟨G,0,none⟩ (.int .u16 (x0:Int))).setCell ⟨G,1,none⟩ (.int .u16 (x1:Int))).setCell ⟨G,2,none⟩ (.int .u16 (x2:Int))).setCell ⟨G,3,none⟩ (.int .u16 (x3:Int))).setCell ⟨G,4,none⟩ (.int .u16 (x4:Int))).setCell ⟨G,5,none⟩ (.int .u16 (x5:Int))).setCell ⟨G,6,none⟩ (.int .u16 (x6:Int))).setCell ⟨G,7,none⟩ (.int .u16 (x7:Int))):=by
 refine ⟨(((((((hb.set 0 x0).set 1 x1).set 2 x2).set 3 x3).set 4 x4).set 5 x5).set 6 x6).set 7 x7,?_⟩
 refine below_set (below_set (below_set (below_set (below_set (below_set (below_set (below_set hB hG hs 0 _) hG ?_ 1 _) hG ?_ 2 _) hG ?_ 3 _) hG ?_ 4 _) hG ?_ 5 _) hG ?_ 6 _) hG ?_ 7 _
 all_goals simpa [World.setCell] using hs
theorem wrap16 (x:Nat) (h:x < 65536):IntKind.wrap .u16 (x:Int)=(x:Int):=by rw [IntKind.wrap_u16];omega
def CutAtIp (l:List UInt8) (k:Nat):Prop:=k≤l.length∧cutG [] l=cutG (l.take k) (l.drop k)
theorem CutAtIp.start (l:List UInt8):CutAtIp l 0:=⟨Nat.zero_le _,by simp⟩
theorem two_drop {l:List UInt8} {k:Nat} (h:k+1 < l.length):l.drop k=l[k]::l[k+1]::l.drop (k+2):=by
 rw [List.drop_eq_getElem_cons (show k < l.length by omega),List.drop_eq_getElem_cons h]
theorem CutAtIp.found {l:List UInt8} {k:Nat} (h:CutAtIp l k) (hk:k+1 < l.length) (h1:l[k]=58) (h2:l[k+1]=58):cutG [] l=some (l.take k,l.drop (k+2)):=by
 rw [h.2,two_drop hk,h1,h2,cut_two]
theorem CutAtIp.more {l:List UInt8} {k:Nat} (h:CutAtIp l k) (hk:k+1 < l.length) (hn:¬(l[k]=58∧l[k+1]=58)):CutAtIp l (k+1):=by
 refine ⟨by omega,?_⟩
 rw [h.2,two_drop hk,List.take_succ_eq_append_getElem (show k < l.length by omega),List.drop_eq_getElem_cons hk]
 show (if l[k]=58∧l[k+1]=58 then some (l.take k,l.drop (k+2)) else cutG (l.take k++[l[k]]) (l[k+1]::l.drop (k+2)))=_
 rw [if_neg hn]
theorem CutAtIp.none {l:List UInt8} {k:Nat} (h:CutAtIp l k) (hk:¬k+1 < l.length):cutG [] l=none:=by
 rw [h.2]
 have hl:(l.drop k).length≤1:=by rw [List.length_drop];omega
 match l.drop k,hl with
 | [],_=>rfl
 | [a],_=>rfl
 | a::b::r,hl=>exfalso;simp at hl
def P6Post (l:List UInt8) (w:World) (e:Ending) (w':World):Prop:=e=.returned (.tuple #[aggL (parse6R l).1,.int .i64 ((parse6R l).2:Int)])∧Below w.heap.size w w'
theorem P6Post.mk {l:List UInt8} {w w':World} {ns:List Nat} {m:Nat} (h:parse6R l=(ns,m)) (hb:Below w.heap.size w w'):P6Post l w (.returned (.tuple #[aggL ns,.int .i64 (m:Int)])) w':=by unfold P6Post;rw [h];exact ⟨rfl,hb⟩
theorem parse6_one {l:List UInt8} (h:¬4000 < l.length) (hc:cutG [] l=none):parse6R l=oneR (piecesR true l):=by unfold parse6R;rw [if_neg h,hc]
theorem parse6_two {l a b:List UInt8} (h:¬4000 < l.length) (hc:cutG [] l=some (a,b)):parse6R l=twoR (piecesR false a) (piecesR true b):=by unfold parse6R;rw [if_neg h,hc]
end Go.Proofs.YtigfgloenjoeoaaGreatDoor
