import Derived.Test.YtigfgloenjoeoaaGreatDoorLcAC
import Derived.Test.YtigfgloenjoeoaaGreatDoorLcAA
import Derived.Deep.WholeRow
import Derived.Laws.Tables
import Derived.Deep.Cut
import Derived.Great.BuildSlice
set_option linter.unusedVariables false
set_option linter.unusedSimpArgs false
set_option maxRecDepth 20000
set_option maxHeartbeats 16000000
namespace Go.Proofs.YtigfgloenjoeoaaGreatDoor
open Go.RowKit
theorem tab_size:tabCells.size=204:=by decide +kernel
theorem tab_all:tabCells.all (·.oneCell')=true:=by decide +kernel
def zeroT:Array Value:=((List.replicate 34 ((0,0,false,0,0,0):Rule)).flatMap cellsR).toArray
theorem info_tab:(Tryz.prog.info? 159).map (fun i=>(i.zero,i.size))=some (some (.agg zeroT),204):=by kernel_rfl
theorem makeTable_calls (w:World):Calls Tryz.prog 148 #[] w fun e w'=>e=.returned (.agg tabCells)∧Below w.heap.size w w':=by
 obtain ⟨hz,hs⟩:=zero_of_info info_tab
 have hzs:zeroT.size=204:=by decide +kernel
 have HB:Hid (Below w.heap.size w (w.alloc (.cells tabCells 159))):=(Below.refl _ _).alloc (Nat.le_refl _) _
 go_enter Tryz.func148,Tryz.ntmps148
 go_upto_region 1 with fail
 apply wp_region_lit
 refine wpList_buildTo rfl 157 _ rfl (some 1) rfl (cellsR (173,173,false,3,0,0)).toArray (by as_aux_lemma=>kernel_rfl) ?_
 refine wpList_buildTo rfl 157 _ rfl (some 2) rfl (cellsR (8203,8203,false,3,0,0)).toArray (by as_aux_lemma=>kernel_rfl) ?_
 refine wpList_buildTo rfl 157 _ rfl (some 3) rfl (cellsR (8288,8288,false,3,0,0)).toArray (by as_aux_lemma=>kernel_rfl) ?_
 refine wpList_buildTo rfl 157 _ rfl (some 4) rfl (cellsR (65024,65039,false,3,0,0)).toArray (by as_aux_lemma=>kernel_rfl) ?_
 refine wpList_buildTo rfl 157 _ rfl (some 5) rfl (cellsR (65279,65279,false,3,0,0)).toArray (by as_aux_lemma=>kernel_rfl) ?_
 refine wpList_buildTo rfl 157 _ rfl (some 6) rfl (cellsR (128,160,false,4,0,0)).toArray (by as_aux_lemma=>kernel_rfl) ?_
 refine wpList_buildTo rfl 157 _ rfl (some 7) rfl (cellsR (57344,63743,false,4,0,0)).toArray (by as_aux_lemma=>kernel_rfl) ?_
 refine wpList_buildTo rfl 157 _ rfl (some 8) rfl (cellsR (64976,65007,false,4,0,0)).toArray (by as_aux_lemma=>kernel_rfl) ?_
 refine wpList_buildTo rfl 157 _ rfl (some 9) rfl (cellsR (983040,1114111,false,4,0,0)).toArray (by as_aux_lemma=>kernel_rfl) ?_
 refine wpList_buildTo rfl 157 _ rfl (some 10) rfl (cellsR (65,90,false,2,97,0)).toArray (by as_aux_lemma=>kernel_rfl) ?_
 refine wpList_buildTo rfl 157 _ rfl (some 11) rfl (cellsR (192,214,false,2,224,0)).toArray (by as_aux_lemma=>kernel_rfl) ?_
 refine wpList_buildTo rfl 157 _ rfl (some 12) rfl (cellsR (216,222,false,2,248,0)).toArray (by as_aux_lemma=>kernel_rfl) ?_
 refine wpList_buildTo rfl 157 _ rfl (some 13) rfl (cellsR (913,929,false,2,945,0)).toArray (by as_aux_lemma=>kernel_rfl) ?_
 refine wpList_buildTo rfl 157 _ rfl (some 14) rfl (cellsR (931,937,false,2,963,0)).toArray (by as_aux_lemma=>kernel_rfl) ?_
 refine wpList_buildTo rfl 157 _ rfl (some 15) rfl (cellsR (1024,1039,false,2,1104,0)).toArray (by as_aux_lemma=>kernel_rfl) ?_
 refine wpList_buildTo rfl 157 _ rfl (some 16) rfl (cellsR (1040,1071,false,2,1072,0)).toArray (by as_aux_lemma=>kernel_rfl) ?_
 refine wpList_buildTo rfl 157 _ rfl (some 17) rfl (cellsR (304,304,false,2,105,775)).toArray (by as_aux_lemma=>kernel_rfl) ?_
 refine wpList_buildTo rfl 157 _ rfl (some 18) rfl (cellsR (256,311,true,2,257,0)).toArray (by as_aux_lemma=>kernel_rfl) ?_
 refine wpList_buildTo rfl 157 _ rfl (some 19) rfl (cellsR (313,328,true,2,314,0)).toArray (by as_aux_lemma=>kernel_rfl) ?_
 refine wpList_buildTo rfl 157 _ rfl (some 20) rfl (cellsR (329,329,false,2,700,110)).toArray (by as_aux_lemma=>kernel_rfl) ?_
 refine wpList_buildTo rfl 157 _ rfl (some 21) rfl (cellsR (330,375,true,2,331,0)).toArray (by as_aux_lemma=>kernel_rfl) ?_
 refine wpList_buildTo rfl 157 _ rfl (some 22) rfl (cellsR (376,376,false,2,255,0)).toArray (by as_aux_lemma=>kernel_rfl) ?_
 refine wpList_buildTo rfl 157 _ rfl (some 23) rfl (cellsR (377,382,true,2,378,0)).toArray (by as_aux_lemma=>kernel_rfl) ?_
 refine wpList_buildTo rfl 157 _ rfl (some 24) rfl (cellsR (383,383,false,2,115,0)).toArray (by as_aux_lemma=>kernel_rfl) ?_
 refine wpList_buildTo rfl 157 _ rfl (some 25) rfl (cellsR (12290,12290,false,2,46,0)).toArray (by as_aux_lemma=>kernel_rfl) ?_
 refine wpList_buildTo rfl 157 _ rfl (some 26) rfl (cellsR (65377,65377,false,2,46,0)).toArray (by as_aux_lemma=>kernel_rfl) ?_
 refine wpList_buildTo rfl 157 _ rfl (some 27) rfl (cellsR (65313,65338,false,2,97,0)).toArray (by as_aux_lemma=>kernel_rfl) ?_
 refine wpList_buildTo rfl 157 _ rfl (some 28) rfl (cellsR (65281,65374,false,2,33,0)).toArray (by as_aux_lemma=>kernel_rfl) ?_
 refine wpList_buildTo rfl 157 _ rfl (some 29) rfl (cellsR (170,170,false,2,97,0)).toArray (by as_aux_lemma=>kernel_rfl) ?_
 refine wpList_buildTo rfl 157 _ rfl (some 30) rfl (cellsR (178,179,false,2,50,0)).toArray (by as_aux_lemma=>kernel_rfl) ?_
 refine wpList_buildTo rfl 157 _ rfl (some 31) rfl (cellsR (185,185,false,2,49,0)).toArray (by as_aux_lemma=>kernel_rfl) ?_
 refine wpList_buildTo rfl 157 _ rfl (some 32) rfl (cellsR (186,186,false,2,111,0)).toArray (by as_aux_lemma=>kernel_rfl) ?_
 refine wpList_buildTo rfl 157 _ rfl (some 33) rfl (cellsR (9312,9320,false,2,49,0)).toArray (by as_aux_lemma=>kernel_rfl) ?_
 refine wpList_buildTo rfl 157 _ rfl (some 34) rfl (cellsR (8462,8462,false,2,104,0)).toArray (by as_aux_lemma=>kernel_rfl) ?_
 refine wpList_buildTo rfl 159 _ rfl (some 35) rfl tabCells (by as_aux_lemma=>kernel_rfl) ?_
 refine wpList_store_row rfl 159 _ _ rfl w.heap.size tabCells (by as_aux_lemma=>kernel_rfl) (by as_aux_lemma=>kernel_rfl) 159 zeroT ?_ (by rw [hs,tab_size]) (by rw [hzs,tab_size]) tab_all ?_
 ·exact heap_alloc_last w _
 rw [World.setRow_alloc_new]
 apply wpList_nil
 rename_i Q1 K1 hK1
 show K1 _ _
 refine hK1 _ _ ?_
 apply wp_ret
 show bodyPost _ _ _ _ _ _
 refine bodyPost_ret (v:=.agg tabCells) ?_ (by as_aux_lemma=>kernel_rfl) ⟨rfl,HB.out⟩
 exact results_cell_row (p:=0) (ty:=159) (by as_aux_lemma=>kernel_rfl) _ _ w.heap.size 159 tabCells (0,0) _ (by as_aux_lemma=>kernel_rfl) (heap_alloc_last w _) Tryz.underlying159 rfl (by rw [hs,tab_size])
end Go.Proofs.YtigfgloenjoeoaaGreatDoor
