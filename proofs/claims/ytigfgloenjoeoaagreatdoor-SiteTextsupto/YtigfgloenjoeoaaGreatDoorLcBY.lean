import Derived.Test.YtigfgloenjoeoaaGreatDoorLcAL
import Derived.Test.YtigfgloenjoeoaaGreatDoorLcAC
import Derived.Test.YtigfgloenjoeoaaGreatDoorLcBA
import Derived.Test.YtigfgloenjoeoaaGreatDoorLcBQ
import Derived.Test.YtigfgloenjoeoaaGreatDoorCards
import Derived.Test.YtigfgloenjoeoaaGreatDoorTie
import Derived.Deep.DeepHandedRow
import Derived.Lib.LaidTab
import Derived.Shelf.Vars
set_option linter.unusedVariables false
set_option linter.unusedSimpArgs false
set_option maxRecDepth 20000
set_option maxHeartbeats 16000000
namespace Go.Proofs.YtigfgloenjoeoaaGreatDoor
open Go.ChangeShapes Go.WideShapes Go.ChangeAt Go.RowKit
theorem cells_of_rows {H:Type} {enc:TypeId×Value→H} {P:Program} {w:World} {base:Nat} {sp:Nat→Bool} {held:Bool} {fuel:Nat} {T t e:TypeId} {m n:Nat} {k:IntKind} {cs:List Value} {rows:List (List Int)} {p:List MemPlace}
 (hT:P.underlying T=some (.array m t)) (ht:P.underlying t=some (.array n e)) (he:P.underlying e=some (.int k)) (hce:P.cellsOf e=1) (hct:P.cellsOf t=n) (hcT:P.cellsOf T=m * n)
 (h:DataW.trod enc P w base sp held fuel T cs=some (.agg (rows.map fun r=>Lib.tabData k r),p)) (i j:Nat) (r:List Int) (hr:rows[i]? = some r) (hj:j < r.length):r.length=n∧cs[i * n+j]? = some (.int k (r.getD j 0)):=by
 cases fuel with
 | zero=>simp [DataW.trod] at h
 | succ fuel =>
   simp only [DataW.trod,hT,hct,hcT] at h
   split at h
   ·rename_i hl
    obtain ⟨xs,hm,hx⟩:=Option.map_eq_some_iff.1 h
    have hxs:xs.map (·.1)=rows.map fun r=>(Lib.tabData k r:DataW H):=by
     have:=congrArg Prod.fst hx
     simpa using this
    have hxl:xs.length=m:=by simpa using Lib.mapM_length hm
    have hrl:rows.length=m:=by
     have:=congrArg List.length hxs
     simp at this
     omega
    have hi:i < m:=by
     rcases Nat.lt_or_ge i m with h' | h'
     ·exact h'
     ·rw [List.getElem?_eq_none (by omega)] at hr;cases hr
    obtain ⟨b,hb,hf⟩:=Lib.mapM_at hm i i (by simp [hi])
    have h2:(xs.map (·.1))[i]? = some b.1:=by simp [hb]
    rw [hxs] at h2
    have h3:b.1=Lib.tabData k r:=by
     rw [List.getElem?_map,hr] at h2
     exact (Option.some.inj h2).symm
    obtain ⟨b1,b2⟩:=b
    subst h3
    have hc:=Lib.cells_of_tab ht he hce hct hf
    have hlen:=congrArg List.length hc
    have hge:i * n+n≤m * n:=by
     have:=Nat.mul_le_mul_right n (show i+1≤m by omega)
     rw [Nat.add_mul,Nat.one_mul] at this
     exact this
    have hr2:r.length=n:=by
     simp at hlen
     omega
    refine ⟨hr2,?_⟩
    have h4:=congrArg (·[j]?) hc
    simp only [List.getElem?_take,List.getElem?_drop,List.getElem?_map] at h4
    rw [if_pos (by omega)] at h4
    rw [h4,List.getElem?_eq_getElem hj]
    simp [List.getD_eq_getElem?_getD,hj]
   ·cases h
theorem gTab:Tryz.prog.globalNamed "springhouse/pct.words" = some 2:=by kernel_rfl
theorem gTabType:(Tryz.prog.globals[2]?).map (·.type)=some 190:=by kernel_rfl
theorem cellsTab:Tryz.prog.cellsOf 190=9 * 4:=by kernel_rfl
theorem cellsTabRow:Tryz.prog.cellsOf 186=4:=by kernel_rfl
theorem cellsU64:Tryz.prog.cellsOf 81=1:=by kernel_rfl
theorem laidTab:(Rows.laid_springhouse_pct_words:DataW Unit)=.agg ((wordsN.map fun r=>r.map fun n:Nat=>(n:Int)).map fun r=>Lib.tabData .u64 r):=rfl
def nums32:List Int:=[0,1,28,2,29,14,24,3,30,22,20,15,25,17,4,8,31,27,13,23,21,19,16,7,26,12,18,6,11,5,10,9]
def nums64:List Int:=[0,1,56,2,57,49,28,3,61,58,42,50,38,29,17,4,62,47,59,36,45,43,51,22,53,39,33,30,24,18,12,5,63,55,48,27,60,41,37,16,46,35,44,21,52,32,23,11,54,26,40,15,34,20,31,10,25,14,19,9,13,8,7,6]
theorem laid64:(Rows.laid_math_bits_deBruijn64tab:DataW Unit)=Lib.tabData .u8 nums64:=rfl
theorem laidPow:(Rows.laid_internal_strconv_uint64pow10:DataW Unit)=Lib.tabData .u64 Lib.pow10Tab:=rfl
theorem g64:Tryz.prog.globalNamed "math/bits.deBruijn64tab" = some 4:=by kernel_rfl
theorem g64Type:(Tryz.prog.globals[4]?).map (·.type)=some 201:=by kernel_rfl
theorem gPowType:(Tryz.prog.globals[1]?).map (·.type)=some 133:=by kernel_rfl
theorem cells64:Tryz.prog.cellsOf 201=64:=by kernel_rfl
theorem cellsPow:Tryz.prog.cellsOf 133=20:=by kernel_rfl
theorem cellsU8:Tryz.prog.cellsOf 5=1:=by kernel_rfl
theorem maxThere {W:World} (h:W.ShapedOpen Tryz.prog):MaxL W :=
 cell_of_shapedOpen_int (t:=3) (zero:=#[.int .i64 0]) h (of_decide_eq_true (by kernel_rfl)) (by kernel_rfl) rfl (by kernel_rfl) (by kernel_rfl) Tryz.underlying3
theorem pc_of {W:World} {cs:Array Value} {fuel:Nat} {p:List MemPlace} {base:Nat} {sp:Nat→Bool} {held:Bool} {enc:TypeId×Value→Unit}
 (hvar:W.var? Tryz.prog "springhouse/pct.words" = some cs) (hd:DataW.trod enc Tryz.prog W base sp held fuel 190 cs.toList=some ((Rows.laid_springhouse_pct_words:DataW Unit),p)):TabPc W:=by
 rw [laidTab] at hd
 intro s q hs hq
 obtain ⟨row,hrow⟩:∃row,wordsN[s]? = some row:=⟨wordsN[s]'hs,List.getElem?_eq_getElem hs⟩
 have hlen:row.length=4:=by
  have:(wordsN.all fun r=>r.length==4)=true:=by decide
  have:=List.all_eq_true.1 this row (List.mem_of_getElem? hrow)
  simpa using this
 have hc:=(cells_of_rows Tryz.underlying190 Tryz.underlying186 Tryz.underlying81 cellsU64 cellsTabRow cellsTab hd s q (row.map fun n:Nat=>(n:Int)) (by rw [List.getElem?_map,hrow];rfl) (by simp;omega)).2
 have hv:=World.var?_cell gTab hvar (s * 4+q)
 rw [hv]
 rw [Array.getElem?_toList] at hc
 rw [hc]
 have hq':q < row.length:=by omega
 simp [wordN,List.getD_eq_getElem?_getD,hrow,hq']
def tabCellsPc:Array Value:=(wordsN.flatMap fun r=>r.map fun n:Nat=>Value.int .u64 (n:Int)).toArray
def firstCells8:Array Value:=(Go.Pinned.utf8FirstZ.map fun n:Nat=>Value.int .u8 (n:Int)).toArray
def rangeCells8:Array Value:=#[.int .u8 128,.int .u8 191,.int .u8 160,.int .u8 191,.int .u8 128,.int .u8 159,.int .u8 144,.int .u8 191,.int .u8 128,.int .u8 143]++(List.replicate 22 (Value.int .u8 0)).toArray
def putCells (w:World) (g:Nat) (cs:Array Value):World :=
 {w with heap:=w.heap.modify g fun
   | .cells _ t frozen=>.cells cs t frozen
   | o=>o }
def laidRow:List (String×DataW Unit):=[("math/bits.deBruijn32tab",Rows.laid_math_bits_deBruijn32tab),("math/bits.deBruijn64tab",Rows.laid_math_bits_deBruijn64tab),("internal/strconv.uint64pow10",Rows.laid_internal_strconv_uint64pow10),("springhouse/pct.words",Rows.laid_springhouse_pct_words),("unicode/utf8.acceptRanges",Rows.laid_unicode_utf8_acceptRanges),("unicode/utf8.first",Rows.laid_unicode_utf8_first)]
theorem tabThere {W:World} (h:laidMetH Tryz.prog laidRow W) (hs:W.ShapedOpen Tryz.prog):TabH W:=by
 have h':laidMet Tryz.prog laidRow W:=h
 obtain ⟨ps,hv,_⟩:=h'
 obtain ⟨_,_,_,_,_,_,_,_,_,_,r1,_⟩:=hv
 obtain ⟨g2,t2,cs2,fu2,p2,q2,a1,a2,a3,a4,r2,_⟩:=r1
 obtain ⟨g3,t3,cs3,fu3,p3,q3,b1,b2,b3,b4,r3,_⟩:=r2
 obtain ⟨g',t',cs,fuel,p,q,hg',ht',hvar,hd,_,_⟩:=r3
 obtain rfl:=Option.some.inj (g64.symm.trans a1)
 obtain rfl:=Option.some.inj (g64Type.symm.trans a2)
 obtain rfl:=Option.some.inj (gPow.symm.trans b1)
 obtain rfl:=Option.some.inj (gPowType.symm.trans b2)
 obtain rfl:=Option.some.inj (gTab.symm.trans hg')
 obtain rfl:=Option.some.inj (gTabType.symm.trans ht')
 rw [laid64] at a4
 rw [laidPow] at b4
 refine ⟨⟨maxThere hs,?_,?_⟩,pc_of hvar hd⟩
 ·unfold Lib.TabIs
  rw [b3,← Lib.cells_of_tab Tryz.underlying133 Tryz.underlying81 cellsU64 cellsPow b4]
 ·have hc:=Lib.cells_of_tab Tryz.underlying201 Tryz.underlying5 cellsU8 cells64 a4
  have hv:=World.var?_cell g64 a3 15
  rw [hv,← Array.getElem?_toList,hc]
  rfl
def laidOn (w:World):World :=
 putCells (putCells (putCells (putCells (putCells (putCells w 5 firstCells8) 6 rangeCells8) 2 tabCellsPc) 1 (Lib.pow10Tab.map fun z=>Value.int .u64 z).toArray) 4 (nums64.map fun z=>Value.int .u8 z).toArray) 3 (nums32.map fun z=>Value.int .u8 z).toArray
end Go.Proofs.YtigfgloenjoeoaaGreatDoor
