import Derived.Test.YtigfgloenjoeoaaGreatDoorLcAR
import Derived.Lib.SmallJoins
set_option linter.unusedVariables false
set_option linter.unusedSimpArgs false
set_option maxRecDepth 20000
set_option maxHeartbeats 16000000
namespace Go.Proofs.YtigfgloenjoeoaaGreatDoor
open Go.ChangeShapes Go.WideShapes Go.ChangeAt Go.RowKit
theorem cellsH1:Tryz.prog.cellsOf 3=1:=by kernel_rfl
theorem cellsH2:Tryz.prog.cellsOf 9=1:=by kernel_rfl
theorem cellsH3:Tryz.prog.cellsOf 22=1:=by kernel_rfl
theorem cellsH4:Tryz.prog.cellsOf 24=8:=by kernel_rfl
theorem cellsH0:Tryz.prog.cellsOf 26=11:=by kernel_rfl
theorem open_host {H:Type} {enc:TypeId×Value→H} {W:World} {base:Nat} {sp:Nat→Bool} {held:Bool} {xs:Array Value} {d:DataW H} {ps:List MemPlace} (hd:DataW.Trod enc Tryz.prog W base sp held 26 (.agg xs) d ps) :
 ∃(k:Int) (s:ByteArray) (n p0 p1 p2 p3 p4 p5 p6 p7:Nat),xs=#[.int .i64 k,.string s,.int .u32 (n:Int),.int .u16 (p0:Int),.int .u16 (p1:Int),.int .u16 (p2:Int),.int .u16 (p3:Int),.int .u16 (p4:Int),.int .u16 (p5:Int),.int .u16 (p6:Int),.int .u16 (p7:Int)]∧s.size≤maxLen∧n < 4294967296∧∀x∈[p0,p1,p2,p3,p4,p5,p6,p7],x < 65536:=by
 obtain ⟨fuel,hf⟩:=hd
 obtain ⟨y0,y1,y2,y3,m,hx,hl,h0,h1,h2,h3⟩:=Go.Joins.trod_struct4 Tryz.underlying26 hf
 simp only [Value.cells,cellsH0] at hl
 simp only [Value.cells,cellsH1,cellsH2,cellsH3,cellsH4] at h0 h1 h2 h3
 obtain ⟨l⟩:=xs
 match l,hl with
 | [v0,v1,v2,v3,v4,v5,v6,v7,v8,v9,v10],_ =>
   obtain ⟨k,e0,_,w0⟩:=DataW.trod_int Tryz.underlying3 h0
   obtain ⟨s,e1,_,w1⟩:=DataW.trod_string Tryz.underlying9 h1
   obtain ⟨z,e2,_,w2⟩:=DataW.trod_int Tryz.underlying22 h2
   obtain ⟨p0,p1,p2,p3,p4,p5,p6,p7,e3,hp⟩:=open_eight (xs:=#[v3,v4,v5,v6,v7,v8,v9,v10]) rfl ⟨m,h3⟩
   simp at e0 e1 e2 e3
   have hb:=bounds_u32 w2
   obtain ⟨rfl,rfl,rfl,rfl,rfl,rfl,rfl,rfl⟩:=e3
   subst e0 e1 e2
   refine ⟨k,s,z.toNat,p0,p1,p2,p3,p4,p5,p6,p7,?_,w1,by omega,hp⟩
   rw [show ((z.toNat:Nat):Int)=z by omega]
end Go.Proofs.YtigfgloenjoeoaaGreatDoor
