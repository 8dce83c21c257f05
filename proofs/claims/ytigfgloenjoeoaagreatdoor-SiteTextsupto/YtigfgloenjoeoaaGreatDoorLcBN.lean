import Derived.Test.YtigfgloenjoeoaaGreatDoorLcBM
set_option linter.unusedVariables false
set_option linter.unusedSimpArgs false
set_option maxRecDepth 20000
set_option maxHeartbeats 16000000
namespace Go.Proofs.YtigfgloenjoeoaaGreatDoor
open Go.RowKit
theorem pcut2_of (s:ByteArray) {a b:List UInt8} {m:Bool} (h:Lib.cut s.data.toList [58,58]=(a,b,m)) (w:World) (hs:s.size≤100000) (hm:MaxL w):Calls Tryz.prog 146 #[.string s,.string ⟨#[58,58]⟩] w fun e w'=>e=.returned (.tuple #[.string (strOf a),.string (strOf b),.bool m])∧Below w.heap.size w w'∧MaxL w':=by
 refine (pcutc_calls s ⟨#[58,58]⟩ w (by omega) hm).mono ?_
 rintro e w' ⟨rfl,n,rfl⟩
 have e:Lib.cut s.data.toList (⟨#[58,58]⟩:ByteArray).data.toList=(a,b,m):=h
 rw [e]
 have hb:Below w.heap.size w (w.drewN n):=below_drewN (Below.refl _ _) n
 exact ⟨rfl,hb,hm.below hb⟩
def sixR (l:List UInt8):List Nat×Nat:=match cutG [] l with
 | none=>oneR (rowR true l)
 | some (a,b)=>twoR (rowR false a) (rowR true b)
theorem sixR_none {l:List UInt8} (h:cutG [] l=none):sixR l=oneR (rowR true l):=by unfold sixR;rw [h]
theorem sixR_some {l a b:List UInt8} (h:cutG [] l=some (a,b)):sixR l=twoR (rowR false a) (rowR true b):=by unfold sixR;rw [h]
theorem parse6_six {l:List UInt8} (h:¬4000 < l.length):parse6R l=sixR l:=by
 cases hc:cutG [] l with
 | none=>rw [parse6_one h hc,sixR_none hc,one_row]
 | some x =>
   obtain ⟨a,b⟩:=x
   rw [parse6_two h hc,sixR_some hc,two_row]
def SixPost (l:List UInt8) (w:World) (e:Ending) (w':World):Prop:=∃(ns:List Nat) (b:Bool),ns.length=8∧e=.returned (.tuple #[aggL ns,.bool b])∧Below w.heap.size w w'∧sixR l=if b=true then (ns,0) else (z8,4)
theorem SixPost.no {l:List UInt8} {w w':World} (x0 x1 x2 x3 x4 x5 x6 x7:Nat) (h:sixR l=(z8,4)) (hb:Below w.heap.size w w'):SixPost l w (.returned (.tuple #[.agg #[.int .u16 (x0:Int),.int .u16 (x1:Int),.int .u16 (x2:Int),.int .u16 (x3:Int),.int .u16 (x4:Int),.int .u16 (x5:Int),.int .u16 (x6:Int),.int .u16 (x7:Int)],.bool false])) w' :=
 ⟨[x0,x1,x2,x3,x4,x5,x6,x7],false,rfl,rfl,hb,h⟩
theorem SixPost.yes {l:List UInt8} {w w':World} (x0 x1 x2 x3 x4 x5 x6 x7:Nat) (h:sixR l=([x0,x1,x2,x3,x4,x5,x6,x7],0)) (hb:Below w.heap.size w w'):SixPost l w (.returned (.tuple #[.agg #[.int .u16 (x0:Int),.int .u16 (x1:Int),.int .u16 (x2:Int),.int .u16 (x3:Int),.int .u16 (x4:Int),.int .u16 (x5:Int),.int .u16 (x6:Int),.int .u16 (x7:Int)],.bool true])) w' :=
 ⟨[x0,x1,x2,x3,x4,x5,x6,x7],true,rfl,rfl,hb,h⟩
theorem cut_lens {l a b:List UInt8} (h:cutG [] l=some (a,b)):a.length≤l.length∧b.length≤l.length:=by
 have e:=cut_some2 h
 unfold Lib.cut at e
 split at e
 ·have e1:l.take (Lib.index l [58,58]).toNat=a:=congrArg (·.1) e
  have e2:l.drop ((Lib.index l [58,58]).toNat+[58,58].length)=b:=congrArg (·.2.1) e
  rw [← e1,← e2,List.length_take,List.length_drop]
  omega
 ·cases congrArg (·.2.2) e
theorem zero8_world (w:World):Blk (w.alloc (.cells #[.int .u16 0,.int .u16 0,.int .u16 0,.int .u16 0,.int .u16 0,.int .u16 0,.int .u16 0,.int .u16 0] 24)) w.heap.size [0,0,0,0,0,0,0,0]:=heap_alloc_new w _
theorem eight8 {w:World} {g:Nat} {y0 y1 y2 y3 y4 y5 y6 y7:Nat} (h:Blk w g [y0,y1,y2,y3,y4,y5,y6,y7]) :
 (w.cell? ⟨g,0,none⟩=some (.int .u16 (y0:Int))∧w.cell? ⟨g,1,none⟩=some (.int .u16 (y1:Int))∧w.cell? ⟨g,2,none⟩=some (.int .u16 (y2:Int))∧w.cell? ⟨g,3,none⟩=some (.int .u16 (y3:Int))∧w.cell? ⟨g,4,none⟩=some (.int .u16 (y4:Int))∧w.cell? ⟨g,5,none⟩=some (.int .u16 (y5:Int))∧w.cell? ⟨g,6,none⟩=some (.int .u16 (y6:Int))∧w.cell? ⟨g,7,none⟩=some (.int .u16 (y7:Int))) ∧
 (w.frozen? ⟨g,0,none⟩=false∧w.frozen? ⟨g,1,none⟩=false∧w.frozen? ⟨g,2,none⟩=false∧w.frozen? ⟨g,3,none⟩=false∧w.frozen? ⟨g,4,none⟩=false∧w.frozen? ⟨g,5,none⟩=false∧w.frozen? ⟨g,6,none⟩=false∧w.frozen? ⟨g,7,none⟩=false):=by
 have c:=fun i hi=>h.cell i hi
 exact ⟨⟨(c 0 (by simp)).1,(c 1 (by simp)).1,(c 2 (by simp)).1,(c 3 (by simp)).1,(c 4 (by simp)).1,(c 5 (by simp)).1,(c 6 (by simp)).1,(c 7 (by simp)).1⟩,
  ⟨(c 0 (by simp)).2,(c 1 (by simp)).2,(c 2 (by simp)).2,(c 3 (by simp)).2,(c 4 (by simp)).2,(c 5 (by simp)).2,(c 6 (by simp)).2,(c 7 (by simp)).2⟩⟩
theorem one_short {a:List Nat} (h:a.length≠8):oneR (some a)=(z8,4):=if_neg h
theorem one_full {a:List Nat} (h:a.length=8):oneR (some a)=(a,0):=if_pos h
theorem psix_one (s:ByteArray) (w:World) (hs:s.size≤100000) (hm:MaxL w) (hc:cutG [] s.data.toList=none):Calls Tryz.prog 105 #[.string s] w fun e w'=>SixPost s.data.toList w e w':=by
 have HS:=hid hs
 have HG0:=hid (zero8_world w)
 have HB0:=hid ((Below.refl w.heap.size w).alloc (Nat.le_refl _) (.cells #[.int .u16 0,.int .u16 0,.int .u16 0,.int .u16 0,.int .u16 0,.int .u16 0,.int .u16 0,.int .u16 0] 24))
 have HM0:=hid (hm.below HB0.out)
 have HSix:=hid (sixR_none hc)
 have HCut:=hid (cut_none2 hc)
 clear hs hm hc
 go_enter Tryz.func105,Tryz.ntmps105
 go_wp2_with fail
 refine (pcut2_of s HCut.out _ HS.out HM0.out).mono ?_
 rintro e w1 ⟨rfl,hb1,hm1⟩
 have HM1:=hid hm1
 have HB1:=hid hb1
 clear hm1 hb1
 go_wp2_with fail
 refine (prow_calls true s _ HS.out HM1.out).mono ?_
 rintro e w3 ⟨v,⟨x0,x1,x2,x3,x4,x5,x6,x7,c,rfl,hc8,hns⟩,rfl,hb3⟩
 have HNS:=hid hns
 have HC8:=hid hc8
 have hall:=below_trans HB1.out hb3
 have HAll:=hid (hall.alloc hall.size (.cells #[.int .u16 (x0:Int),.int .u16 (x1:Int),.int .u16 (x2:Int),.int .u16 (x3:Int),.int .u16 (x4:Int),.int .u16 (x5:Int),.int .u16 (x6:Int),.int .u16 (x7:Int),.int .i64 (c:Int)] 153))
 have HNew:Hid (Bk9 (w3.alloc (.cells #[.int .u16 (x0:Int),.int .u16 (x1:Int),.int .u16 (x2:Int),.int .u16 (x3:Int),.int .u16 (x4:Int),.int .u16 (x5:Int),.int .u16 (x6:Int),.int .u16 (x7:Int),.int .i64 (c:Int)] 153)) w3.heap.size [.int .u16 (x0:Int),.int .u16 (x1:Int),.int .u16 (x2:Int),.int .u16 (x3:Int),.int .u16 (x4:Int),.int .u16 (x5:Int),.int .u16 (x6:Int),.int .u16 (x7:Int),.int .i64 (c:Int)]):=heap_alloc_new w3 _
 have HGR:Hid (w.heap.size≠w3.heap.size):=by have h1:=hall.size;simp at h1;show¬_;omega
 clear hns hc8 hall hb3 HB1 HM1
 have c0':(0:Int)≤(c:Int):=by omega
 have c8':(c:Int)≤8:=by have:=HC8.out;omega
 generalize hrr:rowR true s.data.toList=rr at *
 have HRR:=hid hrr
 clear hrr
 cases rr with
 | none =>
   have HX:Hid (sixR s.data.toList=(z8,4)):=HSix.out
   simp only [Option.isSome_none]
   go_upto_region 4 with fail
   have HB4:=hid (below_trans HB0.out HAll.out)
   have HG4:=hid (HG0.out.below HAll.out)
   generalize w3.alloc (.cells #[.int .u16 (x0:Int),.int .u16 (x1:Int),.int .u16 (x2:Int),.int .u16 (x3:Int),.int .u16 (x4:Int),.int .u16 (x5:Int),.int .u16 (x6:Int),.int .u16 (x7:Int),.int .i64 (c:Int)] 153)=w4 at *
   generalize w3.heap.size=F at *
   obtain ⟨G,hG⟩:∃G,w.heap.size=G:=⟨_,rfl⟩
   have HGl:Hid (w.heap.size≤G):=Nat.le_of_eq hG
   have hGp:(Value.pointer (some ⟨w.heap.size,0,none⟩))=Value.pointer (some ⟨G,0,none⟩):=by rw [hG]
   rw [hGp]
   rw [hG] at HG4
   clear hG hGp
   obtain ⟨⟨c0,c1,c2,c3,c4,c5,c6,c7⟩,⟨f0,f1,f2,f3,f4,f5,f6,f7⟩⟩:=eight8 HG4.out
   have HFill:=hid (fill8 HG4.out HB4.out HGl.out HB4.out.size x0 x1 x2 x3 x4 x5 x6 x7)
   obtain ⟨⟨d0,d1,d2,d3,d4,d5,d6,d7,d8⟩,-⟩:=cells9 HNew.out
   go_region
   go_wp2_with fail
   generalize ((((((((w4.setCell ⟨G,0,none⟩ (.int .u16 (x0:Int))).setCell ⟨G,1,none⟩ (.int .u16 (x1:Int))).setCell ⟨G,2,none⟩ (.int .u16 (x2:Int))).setCell ⟨G,3,none⟩ (.int .u16 (x3:Int))).setCell ⟨G,4,none⟩ (.int .u16 (x4:Int))).setCell ⟨G,5,none⟩ (.int .u16 (x5:Int))).setCell ⟨G,6,none⟩ (.int .u16 (x6:Int))).setCell ⟨G,7,none⟩ (.int .u16 (x7:Int)))=W9 at *
   obtain ⟨⟨g0,g1,g2,g3,g4,g5,g6,g7⟩,-⟩:=eight8 HFill.out.1
   have HBL:=hid HFill.out.2
   clear HFill c0 c1 c2 c3 c4 c5 c6 c7 f0 f1 f2 f3 f4 f5 f6 f7
   refine bodyPost_ret (by simp [results,Tryz.results105,go_sem,g0,g1,g2,g3,g4,g5,g6,g7];try rfl) rfl ?_
   exact SixPost.no x0 x1 x2 x3 x4 x5 x6 x7 HX.out HBL.out.drew
 | some a =>
   obtain ⟨hca,hx⟩:=HNS.out a rfl
   simp only [Option.isSome_some]
   by_cases h8:c=8
   ·have ha8:a.length=8:=by omega
    have HX:Hid (sixR s.data.toList=([x0,x1,x2,x3,x4,x5,x6,x7],0)):=by
     show _=_
     rw [HSix.out,one_full ha8,hx,ha8]
     simp
    have H8:=hid h8
    clear h8 ha8 hca hx
    go_upto_region 4 with fail
    have HB4:=hid (below_trans HB0.out HAll.out)
    have HG4:=hid (HG0.out.below HAll.out)
    generalize w3.alloc (.cells #[.int .u16 (x0:Int),.int .u16 (x1:Int),.int .u16 (x2:Int),.int .u16 (x3:Int),.int .u16 (x4:Int),.int .u16 (x5:Int),.int .u16 (x6:Int),.int .u16 (x7:Int),.int .i64 (c:Int)] 153)=w4 at *
    generalize w3.heap.size=F at *
    obtain ⟨G,hG⟩:∃G,w.heap.size=G:=⟨_,rfl⟩
    have HGl:Hid (w.heap.size≤G):=Nat.le_of_eq hG
    have hGp:(Value.pointer (some ⟨w.heap.size,0,none⟩))=Value.pointer (some ⟨G,0,none⟩):=by rw [hG]
    rw [hGp]
    rw [hG] at HG4
    clear hG hGp
    have g8:((c:Int)==8)=true:=by rw [H8.out];rfl
    obtain ⟨⟨c0,c1,c2,c3,c4,c5,c6,c7⟩,⟨f0,f1,f2,f3,f4,f5,f6,f7⟩⟩:=eight8 HG4.out
    have HFill:=hid (fill8 HG4.out HB4.out HGl.out HB4.out.size x0 x1 x2 x3 x4 x5 x6 x7)
    obtain ⟨⟨d0,d1,d2,d3,d4,d5,d6,d7,d8⟩,-⟩:=cells9 HNew.out
    go_region
    all_goals
     go_wp2_with fail
     generalize ((((((((w4.setCell ⟨G,0,none⟩ (.int .u16 (x0:Int))).setCell ⟨G,1,none⟩ (.int .u16 (x1:Int))).setCell ⟨G,2,none⟩ (.int .u16 (x2:Int))).setCell ⟨G,3,none⟩ (.int .u16 (x3:Int))).setCell ⟨G,4,none⟩ (.int .u16 (x4:Int))).setCell ⟨G,5,none⟩ (.int .u16 (x5:Int))).setCell ⟨G,6,none⟩ (.int .u16 (x6:Int))).setCell ⟨G,7,none⟩ (.int .u16 (x7:Int)))=W9 at *
     obtain ⟨⟨g0,g1,g2,g3,g4,g5,g6,g7⟩,-⟩:=eight8 HFill.out.1
     have HBL:=hid HFill.out.2
     clear HFill c0 c1 c2 c3 c4 c5 c6 c7 f0 f1 f2 f3 f4 f5 f6 f7
     refine bodyPost_ret (by simp [results,Tryz.results105,go_sem,g0,g1,g2,g3,g4,g5,g6,g7];try rfl) rfl ?_
     exact SixPost.yes x0 x1 x2 x3 x4 x5 x6 x7 HX.out HBL.out.drew
   ·have HX:Hid (sixR s.data.toList=(z8,4)):=by
     show _=_
     rw [HSix.out,one_short (by omega)]
    have g8:((c:Int)==8)=false:=by rw [beq_eq_false_iff_ne];omega
    clear h8 hca hx
    go_upto_region 4 with fail
    have HB4:=hid (below_trans HB0.out HAll.out)
    have HG4:=hid (HG0.out.below HAll.out)
    generalize w3.alloc (.cells #[.int .u16 (x0:Int),.int .u16 (x1:Int),.int .u16 (x2:Int),.int .u16 (x3:Int),.int .u16 (x4:Int),.int .u16 (x5:Int),.int .u16 (x6:Int),.int .u16 (x7:Int),.int .i64 (c:Int)] 153)=w4 at *
    generalize w3.heap.size=F at *
    obtain ⟨G,hG⟩:∃G,w.heap.size=G:=⟨_,rfl⟩
    have HGl:Hid (w.heap.size≤G):=Nat.le_of_eq hG
    have hGp:(Value.pointer (some ⟨w.heap.size,0,none⟩))=Value.pointer (some ⟨G,0,none⟩):=by rw [hG]
    rw [hGp]
    rw [hG] at HG4
    clear hG hGp
    obtain ⟨⟨c0,c1,c2,c3,c4,c5,c6,c7⟩,⟨f0,f1,f2,f3,f4,f5,f6,f7⟩⟩:=eight8 HG4.out
    have HFill:=hid (fill8 HG4.out HB4.out HGl.out HB4.out.size x0 x1 x2 x3 x4 x5 x6 x7)
    obtain ⟨⟨d0,d1,d2,d3,d4,d5,d6,d7,d8⟩,-⟩:=cells9 HNew.out
    go_region
    all_goals
     go_wp2_with fail
     generalize ((((((((w4.setCell ⟨G,0,none⟩ (.int .u16 (x0:Int))).setCell ⟨G,1,none⟩ (.int .u16 (x1:Int))).setCell ⟨G,2,none⟩ (.int .u16 (x2:Int))).setCell ⟨G,3,none⟩ (.int .u16 (x3:Int))).setCell ⟨G,4,none⟩ (.int .u16 (x4:Int))).setCell ⟨G,5,none⟩ (.int .u16 (x5:Int))).setCell ⟨G,6,none⟩ (.int .u16 (x6:Int))).setCell ⟨G,7,none⟩ (.int .u16 (x7:Int)))=W9 at *
     obtain ⟨⟨g0,g1,g2,g3,g4,g5,g6,g7⟩,-⟩:=eight8 HFill.out.1
     have HBL:=hid HFill.out.2
     clear HFill c0 c1 c2 c3 c4 c5 c6 c7 f0 f1 f2 f3 f4 f5 f6 f7
     refine bodyPost_ret (by simp [results,Tryz.results105,go_sem,g0,g1,g2,g3,g4,g5,g6,g7];try rfl) rfl ?_
     exact SixPost.no x0 x1 x2 x3 x4 x5 x6 x7 HX.out HBL.out.drew
theorem two_eight {a b xs:List Nat} (hx:xs=a++List.replicate (8-a.length) 0) (h:a.length+b.length≤7):∃p0 p1 p2 p3 p4 p5 p6 p7,twoR (some a) (some b)=([p0,p1,p2,p3,p4,p5,p6,p7],0)∧splice (xs.map f16) (8-b.length) (b.map f16)=[p0,p1,p2,p3,p4,p5,p6,p7].map f16:=by
 obtain ⟨p0,p1,p2,p3,p4,p5,p6,p7,hp⟩:=eight (xs:=a++List.replicate (8-(a.length+b.length)) 0++b) (by simp;omega)
 refine ⟨p0,p1,p2,p3,p4,p5,p6,p7,?_,?_⟩
 ·rw [← hp]
  exact if_pos h
 ·rw [← hp,hx]
  unfold splice
  have e1:((a++List.replicate (8-a.length) 0).map f16).take (8-b.length)=(a++List.replicate (8-(a.length+b.length)) 0).map f16:=by
   rw [← List.map_take,List.take_append,List.take_of_length_le (by omega),List.take_replicate,show min (8-b.length-a.length) (8-a.length)=8-(a.length+b.length) by omega]
  have e2:((a++List.replicate (8-a.length) 0).map f16).drop (8-b.length+(b.map f16).length)=[]:=List.drop_of_length_le (by simp;omega)
  rw [e1,e2,List.append_nil,← List.map_append]
theorem two_left (y:Option (List Nat)):twoR none y=(z8,4):=by cases y<;>rfl
theorem psix_two (s:ByteArray) (w:World) (hs:s.size≤100000) (hm:MaxL w) {pa pb:List UInt8} (hc:cutG [] s.data.toList=some (pa,pb)):Calls Tryz.prog 105 #[.string s] w fun e w'=>SixPost s.data.toList w e w':=by
 have HS:=hid hs
 have HG0:=hid (zero8_world w)
 have HB0:=hid ((Below.refl w.heap.size w).alloc (Nat.le_refl _) (.cells #[.int .u16 0,.int .u16 0,.int .u16 0,.int .u16 0,.int .u16 0,.int .u16 0,.int .u16 0,.int .u16 0] 24))
 have HM0:=hid (hm.below HB0.out)
 have HSix:=hid (sixR_some hc)
 have HCut:=hid (cut_some2 hc)
 have HPa:Hid (pa.length≤100000):=by have h:=cut_lens hc;rw [bytes_num] at h;show _≤_;omega
 have HPb:Hid (pb.length≤100000):=by have h:=cut_lens hc;rw [bytes_num] at h;show _≤_;omega
 clear hs hm hc
 go_enter Tryz.func105,Tryz.ntmps105
 go_wp2_with fail
 refine (pcut2_of s HCut.out _ HS.out HM0.out).mono ?_
 rintro e w1 ⟨rfl,hb1,hm1⟩
 have HM1:=hid hm1
 have HB1:=hid hb1
 clear hm1 hb1
 go_wp2_with fail
 refine (prow_calls false (strOf pa) _ HPa.out HM1.out).mono ?_
 rintro e w3 ⟨v,⟨x0,x1,x2,x3,x4,x5,x6,x7,c,rfl,hc8,hns⟩,rfl,hb3⟩
 rw [str_data] at hns
 rw [str_data]
 have HNS:=hid hns
 have HC8:=hid hc8
 have hall:=below_trans HB1.out hb3
 have HAll:=hid (hall.alloc hall.size (.cells #[.int .u16 (x0:Int),.int .u16 (x1:Int),.int .u16 (x2:Int),.int .u16 (x3:Int),.int .u16 (x4:Int),.int .u16 (x5:Int),.int .u16 (x6:Int),.int .u16 (x7:Int),.int .i64 (c:Int)] 153))
 have HM4:Hid (MaxL (w3.alloc (.cells #[.int .u16 (x0:Int),.int .u16 (x1:Int),.int .u16 (x2:Int),.int .u16 (x3:Int),.int .u16 (x4:Int),.int .u16 (x5:Int),.int .u16 (x6:Int),.int .u16 (x7:Int),.int .i64 (c:Int)] 153))):=HM0.out.below HAll.out
 have HNew:Hid (Bk9 (w3.alloc (.cells #[.int .u16 (x0:Int),.int .u16 (x1:Int),.int .u16 (x2:Int),.int .u16 (x3:Int),.int .u16 (x4:Int),.int .u16 (x5:Int),.int .u16 (x6:Int),.int .u16 (x7:Int),.int .i64 (c:Int)] 153)) w3.heap.size [.int .u16 (x0:Int),.int .u16 (x1:Int),.int .u16 (x2:Int),.int .u16 (x3:Int),.int .u16 (x4:Int),.int .u16 (x5:Int),.int .u16 (x6:Int),.int .u16 (x7:Int),.int .i64 (c:Int)]):=heap_alloc_new w3 _
 clear hns hc8 hall hb3 HB1 HM1
 generalize hrr:rowR false pa=rr at *
 have HRR:=hid hrr
 clear hrr
 generalize hok:rr.isSome=okF at *
 have HOK:=hid hok
 clear hok
 go_wp2_with fail
 refine (prow_calls true (strOf pb) _ HPb.out HM4.out).mono ?_
 rintro e w5 ⟨v,⟨y0,y1,y2,y3,y4,y5,y6,y7,d,rfl,hd8,hms⟩,rfl,hb5⟩
 rw [str_data] at hms
 rw [str_data]
 have HMS:=hid hms
 have HD8:=hid hd8
 have HAll2:=hid (hb5.alloc hb5.size (.cells #[.int .u16 (y0:Int),.int .u16 (y1:Int),.int .u16 (y2:Int),.int .u16 (y3:Int),.int .u16 (y4:Int),.int .u16 (y5:Int),.int .u16 (y6:Int),.int .u16 (y7:Int),.int .i64 (d:Int)] 153))
 have HNew2:Hid (Bk9 (w5.alloc (.cells #[.int .u16 (y0:Int),.int .u16 (y1:Int),.int .u16 (y2:Int),.int .u16 (y3:Int),.int .u16 (y4:Int),.int .u16 (y5:Int),.int .u16 (y6:Int),.int .u16 (y7:Int),.int .i64 (d:Int)] 153)) w5.heap.size [.int .u16 (y0:Int),.int .u16 (y1:Int),.int .u16 (y2:Int),.int .u16 (y3:Int),.int .u16 (y4:Int),.int .u16 (y5:Int),.int .u16 (y6:Int),.int .u16 (y7:Int),.int .i64 (d:Int)]):=heap_alloc_new w5 _
 clear hms hd8 hb5 HM4
 generalize hqq:rowR true pb=qq at *
 have HQQ:=hid hqq
 clear hqq
 have c0':(0:Int)≤(c:Int):=by omega
 have c8':(c:Int)≤8:=by have:=HC8.out;omega
 have d0':(0:Int)≤(d:Int):=by omega
 have d8':(d:Int)≤8:=by have:=HD8.out;omega
 have HB4:=hid (below_trans HB0.out HAll.out)
 have HB6:=hid (below_trans HB4.out HAll2.out)
 have HG6:=hid ((HG0.out.below HAll.out).below HAll2.out)
 have HF6:=hid (HNew.out.below HAll2.out)
 cases rr with
 | none =>
   have HX:Hid (sixR s.data.toList=(z8,4)):=by show _=_;rw [HSix.out,two_left]
   obtain rfl:okF=false:=HOK.out.symm
   generalize qq.isSome=okL at *
   go_upto_region 7 with fail
   generalize w5.alloc (.cells #[.int .u16 (y0:Int),.int .u16 (y1:Int),.int .u16 (y2:Int),.int .u16 (y3:Int),.int .u16 (y4:Int),.int .u16 (y5:Int),.int .u16 (y6:Int),.int .u16 (y7:Int),.int .i64 (d:Int)] 153)=w6 at *
   generalize w5.heap.size=E at *
   generalize w3.heap.size=F at *
   obtain ⟨G,hG⟩:∃G,w.heap.size=G:=⟨_,rfl⟩
   have HGl:Hid (w.heap.size≤G):=Nat.le_of_eq hG
   have hGp:(Value.pointer (some ⟨w.heap.size,0,none⟩))=Value.pointer (some ⟨G,0,none⟩):=by rw [hG]
   rw [hGp]
   rw [hG] at HG6
   clear hG hGp
   obtain ⟨⟨c0,c1,c2,c3,c4,c5,c6,c7⟩,⟨f0,f1,f2,f3,f4,f5,f6,f7⟩⟩:=eight8 HG6.out
   have HFill:=hid (fill8 HG6.out HB6.out HGl.out HB6.out.size 0 0 0 0 0 0 0 0)
   go_wp2_with fail
   generalize ((((((((w6.setCell ⟨G,0,none⟩ (.int .u16 0)).setCell ⟨G,1,none⟩ (.int .u16 0)).setCell ⟨G,2,none⟩ (.int .u16 0)).setCell ⟨G,3,none⟩ (.int .u16 0)).setCell ⟨G,4,none⟩ (.int .u16 0)).setCell ⟨G,5,none⟩ (.int .u16 0)).setCell ⟨G,6,none⟩ (.int .u16 0)).setCell ⟨G,7,none⟩ (.int .u16 0))=W9 at *
   obtain ⟨⟨g0,g1,g2,g3,g4,g5,g6,g7⟩,-⟩:=eight8 HFill.out.1
   have HBL:=hid HFill.out.2
   clear HFill c0 c1 c2 c3 c4 c5 c6 c7 f0 f1 f2 f3 f4 f5 f6 f7
   refine bodyPost_ret (by simp [results,Tryz.results105,go_sem,g0,g1,g2,g3,g4,g5,g6,g7];try rfl) rfl ?_
   exact SixPost.no 0 0 0 0 0 0 0 0 HX.out HBL.out
 | some a =>
   obtain rfl:okF=true:=HOK.out.symm
   cases qq with
   | none =>
     have HX:Hid (sixR s.data.toList=(z8,4)):=by show _=_;rw [HSix.out,two_none]
     simp only [Option.isSome_none]
     go_upto_region 7 with fail
     generalize w5.alloc (.cells #[.int .u16 (y0:Int),.int .u16 (y1:Int),.int .u16 (y2:Int),.int .u16 (y3:Int),.int .u16 (y4:Int),.int .u16 (y5:Int),.int .u16 (y6:Int),.int .u16 (y7:Int),.int .i64 (d:Int)] 153)=w6 at *
     generalize w5.heap.size=E at *
     generalize w3.heap.size=F at *
     obtain ⟨G,hG⟩:∃G,w.heap.size=G:=⟨_,rfl⟩
     have HGl:Hid (w.heap.size≤G):=Nat.le_of_eq hG
     have hGp:(Value.pointer (some ⟨w.heap.size,0,none⟩))=Value.pointer (some ⟨G,0,none⟩):=by rw [hG]
     rw [hGp]
     rw [hG] at HG6
     clear hG hGp
     obtain ⟨⟨c0,c1,c2,c3,c4,c5,c6,c7⟩,⟨f0,f1,f2,f3,f4,f5,f6,f7⟩⟩:=eight8 HG6.out
     have HFill:=hid (fill8 HG6.out HB6.out HGl.out HB6.out.size 0 0 0 0 0 0 0 0)
     go_wp2_with fail
     generalize ((((((((w6.setCell ⟨G,0,none⟩ (.int .u16 0)).setCell ⟨G,1,none⟩ (.int .u16 0)).setCell ⟨G,2,none⟩ (.int .u16 0)).setCell ⟨G,3,none⟩ (.int .u16 0)).setCell ⟨G,4,none⟩ (.int .u16 0)).setCell ⟨G,5,none⟩ (.int .u16 0)).setCell ⟨G,6,none⟩ (.int .u16 0)).setCell ⟨G,7,none⟩ (.int .u16 0))=W9 at *
     obtain ⟨⟨g0,g1,g2,g3,g4,g5,g6,g7⟩,-⟩:=eight8 HFill.out.1
     have HBL:=hid HFill.out.2
     clear HFill c0 c1 c2 c3 c4 c5 c6 c7 f0 f1 f2 f3 f4 f5 f6 f7
     refine bodyPost_ret (by simp [results,Tryz.results105,go_sem,g0,g1,g2,g3,g4,g5,g6,g7];try rfl) rfl ?_
     exact SixPost.no 0 0 0 0 0 0 0 0 HX.out HBL.out
   | some b =>
     obtain ⟨hca,hx⟩:=HNS.out a rfl
     obtain ⟨hdb,hy⟩:=HMS.out b rfl
     simp only [Option.isSome_some]
     by_cases h8:8≤c+d
     ·have HX:Hid (sixR s.data.toList=(z8,4)):=by show _=_;rw [HSix.out,two_bad (by omega)]
      have g1:(8:Int)≤(c:Int)+(d:Int):=by omega
      clear hca hx hdb hy h8
      go_upto_region 7 with fail
      generalize w5.alloc (.cells #[.int .u16 (y0:Int),.int .u16 (y1:Int),.int .u16 (y2:Int),.int .u16 (y3:Int),.int .u16 (y4:Int),.int .u16 (y5:Int),.int .u16 (y6:Int),.int .u16 (y7:Int),.int .i64 (d:Int)] 153)=w6 at *
      generalize w5.heap.size=E at *
      generalize w3.heap.size=F at *
      obtain ⟨G,hG⟩:∃G,w.heap.size=G:=⟨_,rfl⟩
      have HGl:Hid (w.heap.size≤G):=Nat.le_of_eq hG
      have hGp:(Value.pointer (some ⟨w.heap.size,0,none⟩))=Value.pointer (some ⟨G,0,none⟩):=by rw [hG]
      rw [hGp]
      rw [hG] at HG6
      clear hG hGp
      obtain ⟨⟨c0,c1,c2,c3,c4,c5,c6,c7⟩,⟨f0,f1,f2,f3,f4,f5,f6,f7⟩⟩:=eight8 HG6.out
      have HFill:=hid (fill8 HG6.out HB6.out HGl.out HB6.out.size 0 0 0 0 0 0 0 0)
      have k8:w6.cell? ⟨F,8,none⟩=some (.int .i64 (c:Int)):=(HF6.out.cell 8 (by show 8 < 9;decide)).1
      have j8:w6.cell? ⟨E,8,none⟩=some (.int .i64 (d:Int)):=(HNew2.out.cell 8 (by show 8 < 9;decide)).1
      go_wp2_with fail
      generalize ((((((((w6.setCell ⟨G,0,none⟩ (.int .u16 0)).setCell ⟨G,1,none⟩ (.int .u16 0)).setCell ⟨G,2,none⟩ (.int .u16 0)).setCell ⟨G,3,none⟩ (.int .u16 0)).setCell ⟨G,4,none⟩ (.int .u16 0)).setCell ⟨G,5,none⟩ (.int .u16 0)).setCell ⟨G,6,none⟩ (.int .u16 0)).setCell ⟨G,7,none⟩ (.int .u16 0))=W9 at *
      obtain ⟨⟨g0,g1,g2,g3,g4,g5,g6,g7⟩,-⟩:=eight8 HFill.out.1
      have HBL:=hid HFill.out.2
      clear HFill c0 c1 c2 c3 c4 c5 c6 c7 f0 f1 f2 f3 f4 f5 f6 f7
      refine bodyPost_ret (by simp [results,Tryz.results105,go_sem,g0,g1,g2,g3,g4,g5,g6,g7];try rfl) rfl ?_
      exact SixPost.no 0 0 0 0 0 0 0 0 HX.out HBL.out
     ·have g1:¬(8:Int)≤(c:Int)+(d:Int):=by omega
      have g2:(c:Int)+(d:Int) < 8:=by omega
      have HXs:=hid hx
      obtain ⟨p0,p1,p2,p3,p4,p5,p6,p7,ht,hsp⟩:=two_eight (b:=b) hx (by omega)
      have HX:Hid (sixR s.data.toList=([p0,p1,p2,p3,p4,p5,p6,p7],0)):=by show _=_;rw [HSix.out,ht]
      obtain ⟨z,hz⟩:∃z,8-d=z:=⟨_,rfl⟩
      have HDB:=hid hdb
      have HY:=hid hy
      have HZ:=hid hz
      rw [← hdb,hz] at hsp
      have HSp:=hid hsp
      have HD8':=hid h8
      clear hca hx hdb hy h8 ht hsp
      have HNew8:Hid (∀W:World,Blk (W.alloc (.cells #[.int .u16 (x0:Int),.int .u16 (x1:Int),.int .u16 (x2:Int),.int .u16 (x3:Int),.int .u16 (x4:Int),.int .u16 (x5:Int),.int .u16 (x6:Int),.int .u16 (x7:Int)] 24)) W.heap.size [x0,x1,x2,x3,x4,x5,x6,x7]):=fun W=>heap_alloc_new W _
      go_upto_region 7 with fail
      generalize w5.alloc (.cells #[.int .u16 (y0:Int),.int .u16 (y1:Int),.int .u16 (y2:Int),.int .u16 (y3:Int),.int .u16 (y4:Int),.int .u16 (y5:Int),.int .u16 (y6:Int),.int .u16 (y7:Int),.int .i64 (d:Int)] 153)=w6 at *
      generalize w5.heap.size=E at *
      generalize w3.heap.size=F at *
      obtain ⟨G,hG⟩:∃G,w.heap.size=G:=⟨_,rfl⟩
      have HGl:Hid (w.heap.size≤G):=Nat.le_of_eq hG
      have hGp:(Value.pointer (some ⟨w.heap.size,0,none⟩))=Value.pointer (some ⟨G,0,none⟩):=by rw [hG]
      rw [hGp]
      rw [hG] at HG6
      clear hG hGp
      have k8:w6.cell? ⟨F,8,none⟩=some (.int .i64 (c:Int)):=(HF6.out.cell 8 (by show 8 < 9;decide)).1
      have j8:w6.cell? ⟨E,8,none⟩=some (.int .i64 (d:Int)):=(HNew2.out.cell 8 (by show 8 < 9;decide)).1
      obtain ⟨⟨m0,m1,m2,m3,m4,m5,m6,m7,-⟩,-⟩:=cells9 HF6.out
      go_upto_region 10 with fail
      have HB7:=hid (HB6.out.alloc HB6.out.size (.cells #[.int .u16 (x0:Int),.int .u16 (x1:Int),.int .u16 (x2:Int),.int .u16 (x3:Int),.int .u16 (x4:Int),.int .u16 (x5:Int),.int .u16 (x6:Int),.int .u16 (x7:Int)] 24))
      have HAl:=hid ((Below.refl w6.heap.size w6).alloc (Nat.le_refl _) (.cells #[.int .u16 (x0:Int),.int .u16 (x1:Int),.int .u16 (x2:Int),.int .u16 (x3:Int),.int .u16 (x4:Int),.int .u16 (x5:Int),.int .u16 (x6:Int),.int .u16 (x7:Int)] 24))
      have HG7:=hid (HG6.out.below HAl.out)
      have HE7:=hid (HNew2.out.below HAl.out)
      have HP7:=hid (HNew8.out w6)
      have HEP:=hid HNew2.out.lt
      have HGP:=hid HG6.out.lt
      have HWP:=hid HB6.out.size
      clear HNew8 m0 m1 m2 m3 m4 m5 m6 m7 k8 j8
      generalize w6.alloc (.cells #[.int .u16 (x0:Int),.int .u16 (x1:Int),.int .u16 (x2:Int),.int .u16 (x3:Int),.int .u16 (x4:Int),.int .u16 (x5:Int),.int .u16 (x6:Int),.int .u16 (x7:Int)] 24)=w7 at *
      generalize w6.heap.size=P at *
      have j8:w7.cell? ⟨E,8,none⟩=some (.int .i64 (d:Int)):=(HE7.out.cell 8 (by show 8 < 9;decide)).1
      have z0:(0:Int)≤(z:Int):=by omega
      have hzi:(8:Int)-(d:Int)=(z:Int):=by have:=HZ.out;omega
      have hzw:IntKind.wrap .i64 (z:Int)=(z:Int):=by rw [IntKind.wrap_i64];have:=HZ.out;omega
      have zle:(z:Int)≤8:=by omega
      have HGr:Hid (w7.drew.heap[P]? = some (.cells ([x0,x1,x2,x3,x4,x5,x6,x7].map f16).toArray 24)):=HP7.out
      have HSrc:Hid (∀j u,(b.map f16)[j]? = some u→w7.drew.cell? ((⟨E,0,none⟩:Addr).add j)=some u):=row_src HE7.out HY.out (by rw [← HDB.out];exact HD8.out)
      have HBP:Hid (Below P w7 w7.drew):=(Below.refl P w7).drew
      have HCl:Hid (8-d+(b.map f16).length≤([x0,x1,x2,x3,x4,x5,x6,x7].map f16).length):=by show _≤8;rw [List.length_map,← HDB.out];have:=HD8.out;omega
      rw [HZ.out] at HCl
      by_cases hd0:d=0
      ·have hz8:z=8:=by have:=HZ.out;omega
       have HBn:Hid (b=[]):=List.eq_nil_of_length_eq_zero (by rw [← HDB.out];exact hd0)
       subst hd0
       replace j8:w7.cell? ⟨E,8,none⟩=some (.int .i64 0):=j8
       have a88:IntKind.wrap .i64 (8-0)=8:=by decide
       have a89:IntKind.wrap .i64 8=8:=by decide
       have HN1:Hid ((b.map f16).length=Nat.min 0 0):=by show _=_;rw [HBn.out];simp
       have HPos:Hid (0 < (b.map f16).length→(some (⟨P,0,none⟩:Addr))=some ⟨P,z,none⟩∧∃ad,(some (⟨E,0,none⟩:Addr))=some ad∧∀j v,(b.map f16)[j]? = some v→w7.drew.cell? (ad.add j)=some v):=fun h=>by rw [HBn.out] at h;simp at h
       clear hz8 hzi hzw z0 zle hz g1 g2 d0' d8'
       go_region_held3 (fun w'=>w'.cell? ⟨E,8,none⟩=some (.int .i64 0)) (first | exact j9 | go_keep) ((refine step_copy_splice rfl (.tmp 65) (.tmp 69) 85 85 rfl 23 (by kernel_rfl) (by kernel_rfl) (some ⟨P,0,none⟩) (some ⟨E,0,none⟩) 0 0 0 8 (by simp [Act.eval,Act.put]) (by simp [Act.eval,Act.put]) P z _ 24 HGr.out (b.map f16) HN1.out HPos.out HCl.out one_f16 P w7 HBP.out (Nat.le_refl _) ?_;intro w8 hg8 hb8;have j9:=(hb8.cell (p:=⟨E,8,none⟩) HEP.out).trans j8))
       all_goals
        have HP8:Hid (Blk w8 P [p0,p1,p2,p3,p4,p5,p6,p7]):=by
         have h:=hg8.out
         rw [HSp.out] at h
         exact h
        have HB8:=hid (HB7.out.trans (hb8.mono HWP.out))
        have HG8:Hid (Blk w8 G [0,0,0,0,0,0,0,0]):=by
         have h:=hb8.block G HGP.out
         show _=_
         rw [h]
         exact HG7.out
        obtain ⟨⟨q0,q1,q2,q3,q4,q5,q6,q7⟩,-⟩:=eight8 HP8.out
        obtain ⟨⟨c0,c1,c2,c3,c4,c5,c6,c7⟩,⟨f0,f1,f2,f3,f4,f5,f6,f7⟩⟩:=eight8 HG8.out
        have HFill:=hid (fill8 HG8.out HB8.out HGl.out HB8.out.size p0 p1 p2 p3 p4 p5 p6 p7)
        clear hg8 hb8
        go_wp2_with fail
        generalize ((((((((w8.setCell ⟨G,0,none⟩ (.int .u16 (p0:Int))).setCell ⟨G,1,none⟩ (.int .u16 (p1:Int))).setCell ⟨G,2,none⟩ (.int .u16 (p2:Int))).setCell ⟨G,3,none⟩ (.int .u16 (p3:Int))).setCell ⟨G,4,none⟩ (.int .u16 (p4:Int))).setCell ⟨G,5,none⟩ (.int .u16 (p5:Int))).setCell ⟨G,6,none⟩ (.int .u16 (p6:Int))).setCell ⟨G,7,none⟩ (.int .u16 (p7:Int)))=W9 at *
        obtain ⟨⟨g0,g1,g2,g3,g4,g5,g6,g7⟩,-⟩:=eight8 HFill.out.1
        have HBL:=hid HFill.out.2
        clear HFill c0 c1 c2 c3 c4 c5 c6 c7 f0 f1 f2 f3 f4 f5 f6 f7
        refine bodyPost_ret (by simp [results,Tryz.results105,go_sem,g0,g1,g2,g3,g4,g5,g6,g7];try rfl) rfl ?_
        exact SixPost.yes p0 p1 p2 p3 p4 p5 p6 p7 HX.out HBL.out
      ·have zlt:(z:Int) < 8:=by omega
       have nne:(z=8)=False:=by simp;omega
       have HN1:Hid ((b.map f16).length=Nat.min d (8-z)):=by show _=_;rw [List.length_map,← HDB.out];have h1:=HZ.out;have h2:=HD8.out;exact (Nat.min_eq_left (by omega)).symm
       have HPos:Hid (0 < (b.map f16).length→(some (⟨P,z,none⟩:Addr))=some ⟨P,z,none⟩∧∃ad,(some (⟨E,0,none⟩:Addr))=some ad∧∀j v,(b.map f16)[j]? = some v→w7.drew.cell? (ad.add j)=some v):=fun _=>⟨rfl,_,rfl,HSrc.out⟩
       clear hd0 hz
       go_region_held3 (fun w'=>w'.cell? ⟨E,8,none⟩=some (.int .i64 (d:Int))) (first | exact j9 | go_keep) ((refine step_copy_splice rfl (.tmp 65) (.tmp 69) 85 85 rfl 23 (by kernel_rfl) (by kernel_rfl) (some ⟨P,z,none⟩) (some ⟨E,0,none⟩) (8-z) (8-z) d 8 (by simp [Act.eval,Act.put,nne]<;>(intro h;omega)) (by simp [Act.eval,Act.put]) P z _ 24 HGr.out (b.map f16) HN1.out HPos.out HCl.out one_f16 P w7 HBP.out (Nat.le_refl _) ?_;intro w8 hg8 hb8;have j9:=(hb8.cell (p:=⟨E,8,none⟩) HEP.out).trans j8))
       all_goals
        have HP8:Hid (Blk w8 P [p0,p1,p2,p3,p4,p5,p6,p7]):=by
         have h:=hg8.out
         rw [HSp.out] at h
         exact h
        have HB8:=hid (HB7.out.trans (hb8.mono HWP.out))
        have HG8:Hid (Blk w8 G [0,0,0,0,0,0,0,0]):=by
         have h:=hb8.block G HGP.out
         show _=_
         rw [h]
         exact HG7.out
        obtain ⟨⟨q0,q1,q2,q3,q4,q5,q6,q7⟩,-⟩:=eight8 HP8.out
        obtain ⟨⟨c0,c1,c2,c3,c4,c5,c6,c7⟩,⟨f0,f1,f2,f3,f4,f5,f6,f7⟩⟩:=eight8 HG8.out
        have HFill:=hid (fill8 HG8.out HB8.out HGl.out HB8.out.size p0 p1 p2 p3 p4 p5 p6 p7)
        clear hg8 hb8
        go_wp2_with fail
        generalize ((((((((w8.setCell ⟨G,0,none⟩ (.int .u16 (p0:Int))).setCell ⟨G,1,none⟩ (.int .u16 (p1:Int))).setCell ⟨G,2,none⟩ (.int .u16 (p2:Int))).setCell ⟨G,3,none⟩ (.int .u16 (p3:Int))).setCell ⟨G,4,none⟩ (.int .u16 (p4:Int))).setCell ⟨G,5,none⟩ (.int .u16 (p5:Int))).setCell ⟨G,6,none⟩ (.int .u16 (p6:Int))).setCell ⟨G,7,none⟩ (.int .u16 (p7:Int)))=W9 at *
        obtain ⟨⟨g0,g1,g2,g3,g4,g5,g6,g7⟩,-⟩:=eight8 HFill.out.1
        have HBL:=hid HFill.out.2
        clear HFill c0 c1 c2 c3 c4 c5 c6 c7 f0 f1 f2 f3 f4 f5 f6 f7
        refine bodyPost_ret (by simp [results,Tryz.results105,go_sem,g0,g1,g2,g3,g4,g5,g6,g7];try rfl) rfl ?_
        exact SixPost.yes p0 p1 p2 p3 p4 p5 p6 p7 HX.out HBL.out
theorem psix_calls (s:ByteArray) (w:World) (hs:s.size≤100000) (hm:MaxL w):Calls Tryz.prog 105 #[.string s] w fun e w'=>SixPost s.data.toList w e w':=by
 cases hc:cutG [] s.data.toList with
 | none=>exact psix_one s w hs hm hc
 | some x =>
   obtain ⟨a,b⟩:=x
   exact psix_two s w hs hm hc
theorem p6in_calls (s:ByteArray) (w:World) (hs:s.size≤100000) (hm:MaxL w):Calls Tryz.prog 71 #[.string s] w fun e w'=>P6Post s.data.toList w e w':=by
 have HLN:=hid (bytes_num s)
 have HS:=hid hs
 have HG0:=hid (zero8_world w)
 have HB0:=hid ((Below.refl w.heap.size w).alloc (Nat.le_refl _) (.cells #[.int .u16 0,.int .u16 0,.int .u16 0,.int .u16 0,.int .u16 0,.int .u16 0,.int .u16 0,.int .u16 0] 24))
 have HM0:=hid (hm.below HB0.out)
 by_cases h4000:4000 < s.size
 ·have HX:Hid (parse6R s.data.toList=(z8,11)):=by show _=_;unfold parse6R;exact if_pos (by rw [HLN.out];exact h4000)
  have s1:(4000:Int) < (s.size:Int):=by omega
  clear h4000 hs hm
  go_enter Tryz.func71,Tryz.ntmps71
  go_wp2_with fail
  go_returns
  exact P6Post.mk HX.out HB0.out
 ·have s1:¬(4000:Int) < (s.size:Int):=by omega
  have HPS:=hid (parse6_six (l:=s.data.toList) (by rw [HLN.out];exact h4000))
  clear h4000 hs hm
  go_enter Tryz.func71,Tryz.ntmps71
  go_wp2_with fail
  refine (psix_calls s _ HS.out HM0.out).mono ?_
  rintro e w3 ⟨ns,b,hl,rfl,hb3,hsix⟩
  obtain ⟨x0,x1,x2,x3,x4,x5,x6,x7,rfl⟩:=eight hl
  have e8:aggL [x0,x1,x2,x3,x4,x5,x6,x7]=.agg #[.int .u16 (x0:Int),.int .u16 (x1:Int),.int .u16 (x2:Int),.int .u16 (x3:Int),.int .u16 (x4:Int),.int .u16 (x5:Int),.int .u16 (x6:Int),.int .u16 (x7:Int)]:=rfl
  rw [e8]
  have HB4:=hid (below_trans HB0.out (hb3.alloc hb3.size (.cells #[.int .u16 (x0:Int),.int .u16 (x1:Int),.int .u16 (x2:Int),.int .u16 (x3:Int),.int .u16 (x4:Int),.int .u16 (x5:Int),.int .u16 (x6:Int),.int .u16 (x7:Int)] 24)))
  have HG4:=hid (HG0.out.below (hb3.alloc hb3.size (.cells #[.int .u16 (x0:Int),.int .u16 (x1:Int),.int .u16 (x2:Int),.int .u16 (x3:Int),.int .u16 (x4:Int),.int .u16 (x5:Int),.int .u16 (x6:Int),.int .u16 (x7:Int)] 24)))
  have HNew:Hid (Blk (w3.alloc (.cells #[.int .u16 (x0:Int),.int .u16 (x1:Int),.int .u16 (x2:Int),.int .u16 (x3:Int),.int .u16 (x4:Int),.int .u16 (x5:Int),.int .u16 (x6:Int),.int .u16 (x7:Int)] 24)) w3.heap.size [x0,x1,x2,x3,x4,x5,x6,x7]):=heap_alloc_new w3 _
  clear e8 hl hb3 HG0 HB0 HM0
  cases b with
  | false =>
    have HX:Hid (parse6R s.data.toList=(z8,4)):=HPS.out.trans hsix
    clear hsix
    go_upto_region 4 with fail
    generalize w3.alloc (.cells #[.int .u16 (x0:Int),.int .u16 (x1:Int),.int .u16 (x2:Int),.int .u16 (x3:Int),.int .u16 (x4:Int),.int .u16 (x5:Int),.int .u16 (x6:Int),.int .u16 (x7:Int)] 24)=w4 at *
    generalize w3.heap.size=P at *
    obtain ⟨G,hG⟩:∃G,w.heap.size=G:=⟨_,rfl⟩
    have HGl:Hid (w.heap.size≤G):=Nat.le_of_eq hG
    have hGp:(Value.pointer (some ⟨w.heap.size,0,none⟩))=Value.pointer (some ⟨G,0,none⟩):=by rw [hG]
    rw [hGp]
    rw [hG] at HG4
    clear hG hGp
    obtain ⟨⟨c0,c1,c2,c3,c4,c5,c6,c7⟩,⟨f0,f1,f2,f3,f4,f5,f6,f7⟩⟩:=eight8 HG4.out
    have HFill:=hid (fill8 HG4.out HB4.out HGl.out HB4.out.size 0 0 0 0 0 0 0 0)
    obtain ⟨⟨m0,m1,m2,m3,m4,m5,m6,m7⟩,-⟩:=eight8 HNew.out
    go_wp2_with fail
    generalize ((((((((w4.setCell ⟨G,0,none⟩ (.int .u16 0)).setCell ⟨G,1,none⟩ (.int .u16 0)).setCell ⟨G,2,none⟩ (.int .u16 0)).setCell ⟨G,3,none⟩ (.int .u16 0)).setCell ⟨G,4,none⟩ (.int .u16 0)).setCell ⟨G,5,none⟩ (.int .u16 0)).setCell ⟨G,6,none⟩ (.int .u16 0)).setCell ⟨G,7,none⟩ (.int .u16 0))=W9 at *
    obtain ⟨⟨g0,g1,g2,g3,g4,g5,g6,g7⟩,-⟩:=eight8 HFill.out.1
    have HBL:=hid HFill.out.2
    clear HFill c0 c1 c2 c3 c4 c5 c6 c7 f0 f1 f2 f3 f4 f5 f6 f7
    refine bodyPost_ret (by simp [results,Tryz.results71,go_sem,g0,g1,g2,g3,g4,g5,g6,g7];try rfl) rfl ?_
    exact P6Post.mk HX.out HBL.out
  | true =>
    have HX:Hid (parse6R s.data.toList=([x0,x1,x2,x3,x4,x5,x6,x7],0)):=HPS.out.trans hsix
    clear hsix
    go_upto_region 4 with fail
    generalize w3.alloc (.cells #[.int .u16 (x0:Int),.int .u16 (x1:Int),.int .u16 (x2:Int),.int .u16 (x3:Int),.int .u16 (x4:Int),.int .u16 (x5:Int),.int .u16 (x6:Int),.int .u16 (x7:Int)] 24)=w4 at *
    generalize w3.heap.size=P at *
    obtain ⟨G,hG⟩:∃G,w.heap.size=G:=⟨_,rfl⟩
    have HGl:Hid (w.heap.size≤G):=Nat.le_of_eq hG
    have hGp:(Value.pointer (some ⟨w.heap.size,0,none⟩))=Value.pointer (some ⟨G,0,none⟩):=by rw [hG]
    rw [hGp]
    rw [hG] at HG4
    clear hG hGp
    obtain ⟨⟨c0,c1,c2,c3,c4,c5,c6,c7⟩,⟨f0,f1,f2,f3,f4,f5,f6,f7⟩⟩:=eight8 HG4.out
    have HFill:=hid (fill8 HG4.out HB4.out HGl.out HB4.out.size x0 x1 x2 x3 x4 x5 x6 x7)
    obtain ⟨⟨m0,m1,m2,m3,m4,m5,m6,m7⟩,-⟩:=eight8 HNew.out
    go_wp2_with fail
    generalize ((((((((w4.setCell ⟨G,0,none⟩ (.int .u16 (x0:Int))).setCell ⟨G,1,none⟩ (.int .u16 (x1:Int))).setCell ⟨G,2,none⟩ (.int .u16 (x2:Int))).setCell ⟨G,3,none⟩ (.int .u16 (x3:Int))).setCell ⟨G,4,none⟩ (.int .u16 (x4:Int))).setCell ⟨G,5,none⟩ (.int .u16 (x5:Int))).setCell ⟨G,6,none⟩ (.int .u16 (x6:Int))).setCell ⟨G,7,none⟩ (.int .u16 (x7:Int)))=W9 at *
    obtain ⟨⟨g0,g1,g2,g3,g4,g5,g6,g7⟩,-⟩:=eight8 HFill.out.1
    have HBL:=hid HFill.out.2
    clear HFill c0 c1 c2 c3 c4 c5 c6 c7 f0 f1 f2 f3 f4 f5 f6 f7
    refine bodyPost_ret (by simp [results,Tryz.results71,go_sem,g0,g1,g2,g3,g4,g5,g6,g7];try rfl) rfl ?_
    exact P6Post.mk HX.out HBL.out
end Go.Proofs.YtigfgloenjoeoaaGreatDoor
