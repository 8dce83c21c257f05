import Derived.Test.YtigfgloenjoeoaaGreatDoorLcAP
import Derived.Test.YtigfgloenjoeoaaGreatDoorLcAV
import Derived.Test.YtigfgloenjoeoaaGreatDoorLcBR
import Derived.Test.YtigfgloenjoeoaaGreatDoorLcBX
set_option linter.unusedVariables false
set_option linter.unusedSimpArgs false
set_option maxRecDepth 20000
set_option maxHeartbeats 16000000
namespace Go.Proofs.YtigfgloenjoeoaaGreatDoor
open Go.ChangeShapes Go.WideShapes Go.ChangeAt Go.RowKit
theorem bulk_of {H:Type} {d:DataW H}:∀{l:List (DataW H)},d∈l→Rows.uptoBulk d≤Rows.uptoBulkAll l
 | x::r,h=>by
   simp only [Rows.uptoBulkAll]
   rcases List.mem_cons.1 h with rfl | h
   ·omega
   ·have:=bulk_of h;omega
theorem cellsU0:Tryz.prog.cellsOf 29=23:=by kernel_rfl
theorem cellsU1:Tryz.prog.cellsOf 9=1:=by kernel_rfl
theorem cellsU2:Tryz.prog.cellsOf 4=1:=by kernel_rfl
theorem cellsU3:Tryz.prog.cellsOf 3=1:=by kernel_rfl
theorem cellsU4:Tryz.prog.cellsOf 27=1:=by kernel_rfl
theorem ofB (s:ByteArray):strOf s.data.toList=s:=(of_data s).symm
theorem open_hostB {H:Type} {enc:TypeId×Value→H} {W:World} {base:Nat} {sp:Nat→Bool} {held:Bool} {v:List Value} {y:DataW H×List MemPlace} {n:Nat} (hf:DataW.trod enc Tryz.prog W base sp held n 26 v=some y) :
 ∃h:HostN,v=[.int .i64 h.1,.string (strOf h.2.1),.int .u32 (h.2.2.1:Int),u16v h.2.2.2 0,u16v h.2.2.2 1,u16v h.2.2.2 2,u16v h.2.2.2 3,u16v h.2.2.2 4,u16v h.2.2.2 5,u16v h.2.2.2 6,u16v h.2.2.2 7]∧h.2.2.2.length=8∧h.2.1.length≤Rows.uptoBulk y.1:=by
 obtain ⟨y0,y1,y2,y3,m,hx,hl,h0,h1,h2,h3⟩:=Go.Joins.trod_struct4 Tryz.underlying26 hf
 simp only [cellsH0] at hl
 simp only [cellsH1,cellsH2,cellsH3,cellsH4] at h0 h1 h2 h3
 match v,hl with
 | [v0,v1,v2,v3,v4,v5,v6,v7,v8,v9,v10],_ =>
   obtain ⟨k,e0,_,w0⟩:=DataW.trod_int Tryz.underlying3 h0
   obtain ⟨s,e1,f1,w1⟩:=DataW.trod_string Tryz.underlying9 h1
   obtain ⟨z,e2,_,w2⟩:=DataW.trod_int Tryz.underlying22 h2
   obtain ⟨p0,p1,p2,p3,p4,p5,p6,p7,e3,hp⟩:=open_eight (xs:=#[v3,v4,v5,v6,v7,v8,v9,v10]) rfl ⟨m,h3⟩
   simp at e0 e1 e2 e3
   have hb:=bounds_u32 w2
   obtain ⟨rfl,rfl,rfl,rfl,rfl,rfl,rfl,rfl⟩:=e3
   subst e0 e1 e2
   refine ⟨(k,s.data.toList,z.toNat,[p0,p1,p2,p3,p4,p5,p6,p7]),?_,rfl,?_⟩
   ·show _=[Value.int .i64 k,.string (strOf s.data.toList),.int .u32 ((z.toNat:Nat):Int),.int .u16 (p0:Int),.int .u16 (p1:Int),.int .u16 (p2:Int),.int .u16 (p3:Int),.int .u16 (p4:Int),.int .u16 (p5:Int),.int .u16 (p6:Int),.int .u16 (p7:Int)]
    rw [ofB,show ((z.toNat:Nat):Int)=z by omega]
   ·have e:y1.1=.lit (.string s.data.toList):=congrArg Prod.fst f1
    rw [hx]
    simp only [Rows.uptoBulk,Rows.uptoBulkAll,e]
    show s.data.toList.length≤_
    omega
theorem open_textsB {H:Type} {enc:TypeId×Value→H} {W:World} {base:Nat} {sp:Nat→Bool} {held:Bool} {v:List Value} {y:DataW H×List MemPlace} {n:Nat} (hf:DataW.trod enc Tryz.prog W base sp held n 27 v=some y) :
 ∃(x:Value) (l:List (List UInt8)),v=[x]∧SRowIp W x l∧∀q∈l,q.length≤Rows.uptoBulk y.1:=by
 rcases Go.ChangeShapes.open_strings Tryz.underlying27 Tryz.underlying9 (by kernel_rfl) hf with ⟨hcs,_⟩ | ⟨x,m,c,ss,hcs,_,hl,hm,hlen,hx,hcell,_⟩
 ·exact ⟨_,[],hcs,Row.nil _ _,by simp⟩
 ·refine ⟨_,_,hcs,srow_mk hl hm (by rw [hlen];split<;>omega) hcell,fun q hq=>?_⟩
  obtain ⟨s,hs,rfl⟩:=List.mem_map.1 hq
  have h1:(.lit (.string s.data.toList):DataW H)∈strs (ss.take m):=List.mem_map.2 ⟨s,hs,rfl⟩
  have h2:=bulk_of h1
  rw [hx]
  simp only [Rows.uptoBulk] at h2 ⊢
  omega
theorem open_url {H:Type} {enc:TypeId×Value→H} {W:World} {base:Nat} {sp:Nat→Bool} {held:Bool} {xs:Array Value} {d:DataW H} {ps:List MemPlace} (hd:DataW.Trod enc Tryz.prog W base sp held 29 (.agg xs) d ps) :
 ∃(u:UrlN) (pv:Value),xs=(urlC u pv).toArray∧SRowIp W pv u.path∧u.host.2.2.2.length=8∧(Rows.uptoBulk d≤1048576→UrlZ u):=by
 obtain ⟨fuel,hf⟩:=hd
 obtain ⟨ys,n,_,hx,hl,hlen,hfs⟩:=DataW.trod_struct Tryz.underlying29 hf
 simp only [Value.cells,cellsU0] at hl
 obtain ⟨l⟩:=xs
 match ys,hlen with
 | [y0,y1,y2,y3,y4,y5,y6,y7,y8,y9,y10,y11,y12],_ =>
   match l,hl with
   | [v0,v1,v2,v3,v4,v5,v6,v7,v8,v9,v10,v11,v12,v13,v14,v15,v16,v17,v18,v19,v20,v21,v22],_ =>
     have h0:=hfs 0 _ rfl
     have h1:=hfs 1 _ rfl
     have h2:=hfs 2 _ rfl
     have h3:=hfs 3 _ rfl
     have h4:=hfs 4 _ rfl
     have h5:=hfs 5 _ rfl
     have h6:=hfs 6 _ rfl
     have h7:=hfs 7 _ rfl
     have h8:=hfs 8 _ rfl
     have h9:=hfs 9 _ rfl
     have h10:=hfs 10 _ rfl
     have h11:=hfs 11 _ rfl
     have h12:=hfs 12 _ rfl
     simp only [Value.cells,cellsU1,cellsU2,cellsU3,cellsU4,cellsH0] at h0 h1 h2 h3 h4 h5 h6 h7 h8 h9 h10 h11 h12
     obtain ⟨s0,e0,f0,_⟩:=DataW.trod_string Tryz.underlying9 h0
     obtain ⟨s1,e1,f1,_⟩:=DataW.trod_string Tryz.underlying9 h1
     obtain ⟨s2,e2,f2,_⟩:=DataW.trod_string Tryz.underlying9 h2
     obtain ⟨b3,e3,_⟩:=DataW.trod_bool Tryz.underlying4 h3
     obtain ⟨hh,e4,k8,z4⟩:=open_hostB h4
     obtain ⟨p5,e5,_,_⟩:=DataW.trod_int Tryz.underlying3 h5
     obtain ⟨b6,e6,_⟩:=DataW.trod_bool Tryz.underlying4 h6
     obtain ⟨s7,e7,f7,_⟩:=DataW.trod_string Tryz.underlying9 h7
     obtain ⟨pv,pl,e8,r8,z8⟩:=open_textsB h8
     obtain ⟨b9,e9,_⟩:=DataW.trod_bool Tryz.underlying4 h9
     obtain ⟨s10,e10,f10,_⟩:=DataW.trod_string Tryz.underlying9 h10
     obtain ⟨b11,e11,_⟩:=DataW.trod_bool Tryz.underlying4 h11
     obtain ⟨s12,e12,f12,_⟩:=DataW.trod_string Tryz.underlying9 h12
     simp [cellsU1,cellsU2,cellsU3,cellsU4,cellsH0] at e0 e1 e2 e3 e4 e5 e6 e7 e8 e9 e10 e11 e12
     obtain ⟨g0,g1,g2,g3,g4,g5,g6,g7,g8,g9,g10⟩:=e4
     subst e0 e1 e2 e3 e5 e6 e7 e8 e9 e10 e11 e12 g0 g1 g2 g3 g4 g5 g6 g7 g8 g9 g10
     refine ⟨⟨s0.data.toList,s1.data.toList,s2.data.toList,b3,hh,p5,b6,s7.data.toList,pl,b9,s10.data.toList,b11,s12.data.toList⟩,v18,?_,r8,k8,fun hb=>?_⟩
     ·unfold urlC
      simp only [ofB]
     ·have i0:y0.1=.lit (.string s0.data.toList):=congrArg Prod.fst f0
      have i1:y1.1=.lit (.string s1.data.toList):=congrArg Prod.fst f1
      have i2:y2.1=.lit (.string s2.data.toList):=congrArg Prod.fst f2
      have i7:y7.1=.lit (.string s7.data.toList):=congrArg Prod.fst f7
      have i10:y10.1=.lit (.string s10.data.toList):=congrArg Prod.fst f10
      have i12:y12.1=.lit (.string s12.data.toList):=congrArg Prod.fst f12
      have hx1:d=_:=congrArg Prod.fst hx
      rw [hx1] at hb
      simp only [List.map_cons,List.map_nil,Rows.uptoBulk,Rows.uptoBulkAll,i0,i1,i2,i7,i10,i12] at hb
      refine ⟨?_,?_,?_,?_,?_,?_,?_,fun q hq=>?_⟩
      ·show s0.data.toList.length≤_;omega
      ·show s1.data.toList.length≤_;omega
      ·show s2.data.toList.length≤_;omega
      ·show hh.2.1.length≤_;omega
      ·show s7.data.toList.length≤_;omega
      ·show s10.data.toList.length≤_;omega
      ·show s12.data.toList.length≤_;omega
      ·have:=z8 q hq;omega
theorem url_bounds {H:Type} {enc:TypeId×Value→H} {W:World} {base:Nat} {sp:Nat→Bool} {held:Bool} {u:UrlN} {pv:Value} {d:DataW H} {ps:List MemPlace} (h8:u.host.2.2.2.length=8) (hd:DataW.Trod enc Tryz.prog W base sp held 29 (.agg (urlC u pv).toArray) d ps) :
 u.host.2.2.1 < 4294967296∧(∀x∈u.host.2.2.2,x < 65536)∧-9223372036854775808≤u.port∧u.port≤9223372036854775807:=by
 obtain ⟨fuel,hf⟩:=hd
 obtain ⟨ys,n,_,hx,hl,hlen,hfs⟩:=DataW.trod_struct Tryz.underlying29 hf
 match ys,hlen with
 | [y0,y1,y2,y3,y4,y5,y6,y7,y8,y9,y10,y11,y12],_ =>
   have h4:=hfs 4 _ rfl
   have h5:=hfs 5 _ rfl
   simp only [Value.cells,cellsU1,cellsU2,cellsU3,cellsU4,cellsH0] at h4 h5
   obtain ⟨k,s,z,p0,p1,p2,p3,p4,p5,p6,p7,e4,_,hz,hp⟩:=open_host (xs:=(hstC u.host).toArray) ⟨_,h4⟩
   obtain ⟨q,e5,_,w5⟩:=DataW.trod_int Tryz.underlying3 h5
   have hb:=bounds_i64 w5
   have e6:u.port=q:=by
    have:=congrArg (fun l:List Value=>l[0]?) e5
    simpa [urlC,cellsU1,cellsU2,cellsU3,cellsU4,cellsH0] using this
   obtain ⟨h,hh⟩:∃h,u.host=h:=⟨_,rfl⟩
   rw [hh] at e4 h8 ⊢
   obtain ⟨k',nm,fr,sx⟩:=h
   change sx.length=8 at h8
   match sx,h8 with
   | [a0,a1,a2,a3,a4,a5,a6,a7],_ =>
     have e7:=congrArg Array.toList e4
     simp [hstC,u16v] at e7
     obtain ⟨-,-,g2,g3,g4,g5,g6,g7,g8,g9,g10⟩:=e7
     refine ⟨by show fr < _;omega,?_,by rw [e6];exact hb.1,by rw [e6];exact hb.2⟩
     show ∀x∈[a0,a1,a2,a3,a4,a5,a6,a7],x < 65536
     have i0:a0=p0:=by omega
     have i1:a1=p1:=by omega
     have i2:a2=p2:=by omega
     have i3:a3=p3:=by omega
     have i4:a4=p4:=by omega
     have i5:a5=p5:=by omega
     have i6:a6=p6:=by omega
     have i7:a7=p7:=by omega
     rw [i0,i1,i2,i3,i4,i5,i6,i7]
     exact hp
end Go.Proofs.YtigfgloenjoeoaaGreatDoor
