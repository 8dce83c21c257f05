import Derived.Test.YtigfgloenjoeoaaGreatDoorLcAL
import Derived.WideKeyArr2
import Derived.Lib.LaidTab
set_option linter.unusedVariables false
set_option linter.unusedSimpArgs false
set_option maxRecDepth 20000
set_option maxHeartbeats 16000000
namespace Go.Proofs.YtigfgloenjoeoaaGreatDoor
open Go.ChangeShapes Go.WideShapes Go.ChangeAt Go.RowKit
theorem arr8:WideMaps.ArrKey Tryz.prog 24 23 8:=⟨Tryz.underlying24,by kernel_rfl,by kernel_rfl,by kernel_rfl⟩
theorem open_eight {H:Type} {enc:TypeId×Value→H} {W:World} {base:Nat} {sp:Nat→Bool} {held:Bool} {xs:Array Value} (hn:xs.size=8) {d:DataW H} {ps:List MemPlace} (hd:DataW.Trod enc Tryz.prog W base sp held 24 (.agg xs) d ps) :
 ∃p0 p1 p2 p3 p4 p5 p6 p7:Nat,xs=#[.int .u16 (p0:Int),.int .u16 (p1:Int),.int .u16 (p2:Int),.int .u16 (p3:Int),.int .u16 (p4:Int),.int .u16 (p5:Int),.int .u16 (p6:Int),.int .u16 (p7:Int)]∧∀x∈[p0,p1,p2,p3,p4,p5,p6,p7],x < 65536:=by
 obtain ⟨fuel,hf⟩:=hd
 have each:∀i,i < 8→∃n:Nat,xs[i]? = some (.int .u16 (n:Int))∧n < 65536:=by
  intro i hi
  cases fuel with
  | zero=>simp [DataW.trod] at hf
  | succ fuel =>
    simp only [DataW.trod,Tryz.underlying24,arr8.one,arr8.size,Value.cells] at hf
    split at hf
    ·obtain ⟨ys,hm,hx⟩:=Option.map_eq_some_iff.1 hf
     obtain ⟨b,hb,hg⟩:=Lib.mapM_at hm i i (by simp [hi])
     obtain ⟨z,hc,rfl,hw⟩:=DataW.trod_int Tryz.underlying23 hg
     have h1:xs.toList[i]? = some (.int .u16 z):=by
      have:=congrArg (·[0]?) hc
      simpa [List.getElem?_take,List.getElem?_drop] using this
     have hbd:=bounds_u16 hw
     refine ⟨z.toNat,?_,by omega⟩
     rw [← Array.getElem?_toList,h1]
     congr 2
     omega
    ·cases hf
 obtain ⟨p0,e0,l0⟩:=each 0 (by decide)
 obtain ⟨p1,e1,l1⟩:=each 1 (by decide)
 obtain ⟨p2,e2,l2⟩:=each 2 (by decide)
 obtain ⟨p3,e3,l3⟩:=each 3 (by decide)
 obtain ⟨p4,e4,l4⟩:=each 4 (by decide)
 obtain ⟨p5,e5,l5⟩:=each 5 (by decide)
 obtain ⟨p6,e6,l6⟩:=each 6 (by decide)
 obtain ⟨p7,e7,l7⟩:=each 7 (by decide)
 refine ⟨p0,p1,p2,p3,p4,p5,p6,p7,?_,?_⟩
 ·apply Array.ext_getElem?
  intro i
  match i with
  | 0=>exact e0
  | 1=>exact e1
  | 2=>exact e2
  | 3=>exact e3
  | 4=>exact e4
  | 5=>exact e5
  | 6=>exact e6
  | 7=>exact e7
  | i+8=>rw [Array.getElem?_eq_none (by omega),Array.getElem?_eq_none (by simp)]
 ·intro x hx
  simp only [List.mem_cons,List.not_mem_nil,or_false] at hx
  rcases hx with rfl | rfl | rfl | rfl | rfl | rfl | rfl | rfl<;>assumption
end Go.Proofs.YtigfgloenjoeoaaGreatDoor
