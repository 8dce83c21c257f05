import Derived.Test.YtpohekldddbneaaGreatDoorDaBJ
import Derived.Test.YtpohekldddbneaaGreatDoorDaBA
import Derived.Test.YtpohekldddbneaaGreatDoorDaAW
import Derived.Test.YtpohekldddbneaaGreatDoorDaAE
import Derived.Test.YtpohekldddbneaaGreatDoorDaAK
import Derived.Test.YtpohekldddbneaaGreatDoorDaAF
import Derived.Deep.Cut
set_option linter.unusedVariables false
set_option linter.unusedSimpArgs false
set_option maxRecDepth 20000
set_option maxHeartbeats 16000000
namespace Go.Proofs.YtpohekldddbneaaGreatDoor
open Go.RowKit
theorem hostR_long {l:List UInt8} {b:Bool} (h:4000 < l.length):hostR l b=(host0,3):=if_pos h
theorem hostR_brack {l:List UInt8} {b:Bool} (h:¬4000 < l.length) (h1:l.head? = some 91):hostR l b=bracketR l:=by unfold hostR;rw [if_neg h,if_pos h1]
theorem hostR_dark {l:List UInt8} (h:¬4000 < l.length) (h1:l.head? ≠ some 91):hostR l false=darkR l:=by unfold hostR;rw [if_neg h,if_neg h1,if_neg (by decide)]
theorem hostR_special {l:List UInt8} (h:¬4000 < l.length) (h1:l.head? ≠ some 91):hostR l true=specialR l:=by unfold hostR;rw [if_neg h,if_neg h1,if_pos rfl]
theorem eight8' {w:World} {g:Nat} {y0 y1 y2 y3 y4 y5 y6 y7:Nat} (h:Blk w g [y0,y1,y2,y3,y4,y5,y6,y7]) :
 (w.cell? ⟨g,0,none⟩=some (.int .u16 (y0:Int))∧w.cell? ⟨g,1,none⟩=some (.int .u16 (y1:Int))∧w.cell? ⟨g,2,none⟩=some (.int .u16 (y2:Int))∧w.cell? ⟨g,3,none⟩=some (.int .u16 (y3:Int))∧w.cell? ⟨g,4,none⟩=some (.int .u16 (y4:Int))∧w.cell? ⟨g,5,none⟩=some (.int .u16 (y5:Int))∧w.cell? ⟨g,6,none⟩=some (.int .u16 (y6:Int))∧w.cell? ⟨g,7,none⟩=some (.int .u16 (y7:Int)))∧True:=by
 have c:=fun i hi=>h.cell i hi
 exact ⟨⟨(c 0 (by simp)).1,(c 1 (by simp)).1,(c 2 (by simp)).1,(c 3 (by simp)).1,(c 4 (by simp)).1,(c 5 (by simp)).1,(c 6 (by simp)).1,(c 7 (by simp)).1⟩,trivial⟩
theorem last_at {s:ByteArray} (hp:0 < s.size):s.data.toList.getLast? = some (s[s.size-1]'(by omega)):=by
 rw [List.getLast?_eq_getElem?,bytes_num,List.getElem?_eq_getElem (by rw [bytes_num];omega)]
 rfl
theorem mid_cut (s:ByteArray) (h:2≤s.size):s.extract 1 (s.size-1)=strOf s.data.toList.tail.dropLast:=by
 apply ByteArray.ext
 rw [ByteArray.data_extract]
 apply Array.toList_inj.1
 rw [Array.toList_extract]
 show _=s.data.toList.tail.dropLast
 rw [List.dropLast_eq_take,List.extract_eq_take_drop,List.drop_one,List.length_tail,bytes_num]
theorem phost_long (s:ByteArray) (b:Bool) (w:World) (hs:s.size≤100000) (h4:4000 < s.size):Calls Tryz.prog 10 #[.string s,.bool b] w fun e w'=>HPost (hostR s.data.toList b) w e w':=by
 have HS:=hid hs
 have HLN:=hid (bytes_num s)
 have HG0:=hid (zeroH_world w)
 have HB0:=hid ((Below.refl w.heap.size w).alloc (Nat.le_refl _) (.cells #[.int .i64 0,.string ⟨#[]⟩,.int .u32 0,.int .u16 0,.int .u16 0,.int .u16 0,.int .u16 0,.int .u16 0,.int .u16 0,.int .u16 0,.int .u16 0] 27))
 have HX:=hid (hostR_long (b:=b) (by rw [HLN.out];exact h4))
 have s1:(4000:Int) < (s.size:Int):=by omega
 clear h4 hs
 go_enter Tryz.func10,Tryz.ntmps10
 go_wp2_with fail
 go_returns
 exact HPost.err HX.out HB0.out
theorem phost_unclosed (s:ByteArray) (b:Bool) (w:World) (hs:s.size≤100000) (h4:¬4000 < s.size) (hp:0 < s.size) (h91:(s[0]'hp).toNat=91) (hbad:(s[s.size-1]'(by omega)).toNat≠93∨s.size=1):Calls Tryz.prog 10 #[.string s,.bool b] w fun e w'=>HPost (hostR s.data.toList b) w e w':=by
 have HS:=hid hs
 have HLN:=hid (bytes_num s)
 have HG0:=hid (zeroH_world w)
 have HB0:=hid ((Below.refl w.heap.size w).alloc (Nat.le_refl _) (.cells #[.int .i64 0,.string ⟨#[]⟩,.int .u32 0,.int .u16 0,.int .u16 0,.int .u16 0,.int .u16 0,.int .u16 0,.int .u16 0,.int .u16 0,.int .u16 0] 27))
 have s1:¬(4000:Int) < (s.size:Int):=by omega
 have p0:(0:Int) < (s.size:Int):=by omega
 have q1:(((s[0]'hp).toNat:Int)==91)=true:=by rw [h91];rfl
 have HBr:=hid (hostR_brack (b:=b) (l:=s.data.toList) (by rw [HLN.out];exact h4) (by rw [head_at hp];exact congrArg some (UInt8.toNat_inj.1 (by rw [h91];rfl))))
 have hq:s.size-1 < s.size:=by omega
 obtain ⟨z,hz⟩:∃z,(s[s.size-1]'hq).toNat=z:=⟨_,rfl⟩
 have z0:(0:Int)≤(z:Int):=by omega
 have q2:(s.size:Int)-1=((s.size-1:Nat):Int):=by omega
 have q3:IntKind.wrap .i64 ((s.size-1:Nat):Int)=((s.size-1:Nat):Int):=by rw [IntKind.wrap_i64];omega
 have HX:Hid (hostR s.data.toList b=(host0,4)):=by
  show _=_
  rw [HBr.out]
  unfold bracketR
  rw [if_pos]
  rcases hbad with h | h
  ·left
   rw [last_at hp]
   intro e
   exact h (by rw [Option.some.inj e];rfl)
  ·right
   rw [HLN.out]
   exact h
 rw [hz] at hbad
 clear h91 HBr
 by_cases h93:z=93
 ·have hs1:s.size=1:=by rcases hbad with h | h;exact absurd h93 h;exact h
  have q4:((z:Int) != 93)=false:=by rw [h93];rfl
  have q5:((s.size:Int)==1)=true:=by rw [hs1];rfl
  clear hbad h93 hs1 h4 hs
  go_enter Tryz.func10,Tryz.ntmps10
  go_wp2_with fail
  go_returns
  exact HPost.err HX.out HB0.out
 ·have q4:((z:Int) != 93)=true:=by rw [bne_iff_ne];omega
  clear hbad h93 h4 hs
  go_enter Tryz.func10,Tryz.ntmps10
  go_wp2_with fail
  go_returns
  exact HPost.err HX.out HB0.out
theorem phost_closed (s:ByteArray) (b:Bool) (w:World) (hs:s.size≤100000) (h4:¬4000 < s.size) (hp:0 < s.size) (h91:(s[0]'hp).toNat=91) (h93:(s[s.size-1]'(by omega)).toNat=93) (h2:s.size≠1):Calls Tryz.prog 10 #[.string s,.bool b] w fun e w'=>HPost (hostR s.data.toList b) w e w':=by
 have HS:=hid hs
 have HLN:=hid (bytes_num s)
 have HG0:=hid (zeroH_world w)
 have HB0:=hid ((Below.refl w.heap.size w).alloc (Nat.le_refl _) (.cells #[.int .i64 0,.string ⟨#[]⟩,.int .u32 0,.int .u16 0,.int .u16 0,.int .u16 0,.int .u16 0,.int .u16 0,.int .u16 0,.int .u16 0,.int .u16 0] 27))
 have s1:¬(4000:Int) < (s.size:Int):=by omega
 have p0:(0:Int) < (s.size:Int):=by omega
 have q1:(((s[0]'hp).toNat:Int)==91)=true:=by rw [h91];rfl
 have HBr:=hid (hostR_brack (b:=b) (l:=s.data.toList) (by rw [HLN.out];exact h4) (by rw [head_at hp];exact congrArg some (UInt8.toNat_inj.1 (by rw [h91];rfl))))
 have hq:s.size-1 < s.size:=by omega
 obtain ⟨z,hz⟩:∃z,(s[s.size-1]'hq).toNat=z:=⟨_,rfl⟩
 have z0:(0:Int)≤(z:Int):=by omega
 have q2:(s.size:Int)-1=((s.size-1:Nat):Int):=by omega
 have q3:IntKind.wrap .i64 ((s.size-1:Nat):Int)=((s.size-1:Nat):Int):=by rw [IntKind.wrap_i64];omega
 have HMid:=mid_cut s (by omega)
 have HX:Hid (hostR s.data.toList b=sixH (parse6R s.data.toList.tail.dropLast)):=by
  show _=_
  rw [HBr.out]
  unfold bracketR
  rw [if_neg]
  rintro (h | h)
  ·apply h
   rw [last_at hp]
   exact congrArg some (UInt8.toNat_inj.1 (by rw [h93];rfl))
  ·rw [HLN.out] at h
   exact h2 h
 obtain ⟨M,hM⟩:∃M,s.data.toList.tail.dropLast=M:=⟨_,rfl⟩
 have HMS:Hid ((strOf M).size≤100000):=by
  show M.length≤100000
  rw [← hM,List.length_dropLast,List.length_tail,HLN.out]
  omega
 rw [hM] at HX HMid
 have HF:=hid (parse6_fine M)
 have HP:=hid (parse6_calls (strOf M))
 unfold P6Post at HP
 rw [str_data] at HP
 rw [hz] at h93
 have q4:((z:Int) != 93)=false:=by rw [h93];rfl
 have q5:((s.size:Int)==1)=false:=bN (by omega)
 have q6:(1:Int)≤((s.size-1:Nat):Int):=by omega
 have q7:((s.size-1:Nat):Int)≤(s.size:Int):=by omega
 generalize parse6R M=pr at *
 obtain ⟨xs,m⟩:=pr
 obtain ⟨x0,x1,x2,x3,x4,x5,x6,x7,rfl⟩:=eight HF.out.1
 simp only [aggL,f16,List.map_cons,List.map_nil] at HP
 clear h91 h93 h2 HBr hM HF
 go_enter Tryz.func10,Tryz.ntmps10
 go_wp2_with fail
 refine (HP.out _ HMS.out).mono ?_
 rintro e w1 ⟨rfl,hb1⟩
 have HG1:=hid (HG0.out.below (hb1.alloc hb1.size (.cells #[.int .u16 (x0:Int),.int .u16 (x1:Int),.int .u16 (x2:Int),.int .u16 (x3:Int),.int .u16 (x4:Int),.int .u16 (x5:Int),.int .u16 (x6:Int),.int .u16 (x7:Int)] 25)))
 have HB1:=hid (below_trans HB0.out (hb1.alloc hb1.size (.cells #[.int .u16 (x0:Int),.int .u16 (x1:Int),.int .u16 (x2:Int),.int .u16 (x3:Int),.int .u16 (x4:Int),.int .u16 (x5:Int),.int .u16 (x6:Int),.int .u16 (x7:Int)] 25)))
 have HNew:Hid (Blk (w1.alloc (.cells #[.int .u16 (x0:Int),.int .u16 (x1:Int),.int .u16 (x2:Int),.int .u16 (x3:Int),.int .u16 (x4:Int),.int .u16 (x5:Int),.int .u16 (x6:Int),.int .u16 (x7:Int)] 25)) w1.heap.size [x0,x1,x2,x3,x4,x5,x6,x7]):=heap_alloc_new w1 _
 clear hb1 HG0 HB0 HP HMid
 by_cases hm:m=0
 ·have HX2:Hid (hostR s.data.toList b=((3,[],0,[x0,x1,x2,x3,x4,x5,x6,x7]),0)):=by show _=_;rw [HX.out];unfold sixH;rw [if_pos hm]
  have m1:((m:Int) != 0)=false:=by rw [hm];rfl
  have HM:=hid hm
  clear hm
  go_upto_region 7 with fail
  generalize w1.alloc (.cells #[.int .u16 (x0:Int),.int .u16 (x1:Int),.int .u16 (x2:Int),.int .u16 (x3:Int),.int .u16 (x4:Int),.int .u16 (x5:Int),.int .u16 (x6:Int),.int .u16 (x7:Int)] 25)=w2 at *
  generalize w1.heap.size=P at *
  obtain ⟨G,hG⟩:∃G,w.heap.size=G:=⟨_,rfl⟩
  have HGl:Hid (w.heap.size≤G):=Nat.le_of_eq hG
  have hGp:(Value.pointer (some ⟨w.heap.size,0,none⟩))=Value.pointer (some ⟨G,0,none⟩):=by rw [hG]
  rw [hGp]
  rw [hG] at HG1
  clear hG hGp
  obtain ⟨⟨c0,c1,c2,c3,c4,c5,c6,c7,c8,c9,c10⟩,⟨f0,f1,f2,f3,f4,f5,f6,f7,f8,f9,f10⟩⟩:=cellsZ HG1.out
  have HFill:=hid (fillZ HG1.out HB1.out HGl.out HB1.out.size (.int .i64 3) (.string ⟨#[]⟩) (.int .u32 0) (.int .u16 (x0:Int)) (.int .u16 (x1:Int)) (.int .u16 (x2:Int)) (.int .u16 (x3:Int)) (.int .u16 (x4:Int)) (.int .u16 (x5:Int)) (.int .u16 (x6:Int)) (.int .u16 (x7:Int)))
  obtain ⟨⟨d0,d1,d2,d3,d4,d5,d6,d7⟩,-⟩:=eight8' HNew.out
  go_wp2_with fail
  generalize (((((((((((w2.setCell ⟨G,0,none⟩ (.int .i64 3)).setCell ⟨G,1,none⟩ (.string ⟨#[]⟩)).setCell ⟨G,2,none⟩ (.int .u32 0)).setCell ⟨G,3,none⟩ (.int .u16 (x0:Int))).setCell ⟨G,4,none⟩ (.int .u16 (x1:Int))).setCell ⟨G,5,none⟩ (.int .u16 (x2:Int))).setCell ⟨G,6,none⟩ (.int .u16 (x3:Int))).setCell ⟨G,7,none⟩ (.int .u16 (x4:Int))).setCell ⟨G,8,none⟩ (.int .u16 (x5:Int))).setCell ⟨G,9,none⟩ (.int .u16 (x6:Int))).setCell ⟨G,10,none⟩ (.int .u16 (x7:Int)))=W9 at *
  obtain ⟨⟨g0,g1,g2,g3,g4,g5,g6,g7,g8,g9,g10⟩,-⟩:=cellsH HFill.out.1
  have HBL:=hid HFill.out.2
  clear HFill c0 c1 c2 c3 c4 c5 c6 c7 c8 c9 c10 f0 f1 f2 f3 f4 f5 f6 f7 f8 f9 f10
  refine bodyPost_ret (by simp [results,Tryz.results10,go_sem,g0,g1,g2,g3,g4,g5,g6,g7,g8,g9,g10];try rfl) rfl ?_
  rw [HM.out]
  exact HPost.mk HX2.out HBL.out
 ·have HX2:Hid (hostR s.data.toList b=(host0,m)):=by show _=_;rw [HX.out];unfold sixH;rw [if_neg hm]
  have m1:((m:Int) != 0)=true:=by rw [bne_iff_ne];omega
  clear hm
  go_upto_region 7 with fail
  generalize w1.alloc (.cells #[.int .u16 (x0:Int),.int .u16 (x1:Int),.int .u16 (x2:Int),.int .u16 (x3:Int),.int .u16 (x4:Int),.int .u16 (x5:Int),.int .u16 (x6:Int),.int .u16 (x7:Int)] 25)=w2 at *
  generalize w1.heap.size=P at *
  obtain ⟨G,hG⟩:∃G,w.heap.size=G:=⟨_,rfl⟩
  have HGl:Hid (w.heap.size≤G):=Nat.le_of_eq hG
  have hGp:(Value.pointer (some ⟨w.heap.size,0,none⟩))=Value.pointer (some ⟨G,0,none⟩):=by rw [hG]
  rw [hGp]
  rw [hG] at HG1
  clear hG hGp
  obtain ⟨⟨c0,c1,c2,c3,c4,c5,c6,c7,c8,c9,c10⟩,⟨f0,f1,f2,f3,f4,f5,f6,f7,f8,f9,f10⟩⟩:=cellsZ HG1.out
  have HFill:=hid (fillZ HG1.out HB1.out HGl.out HB1.out.size (.int .i64 0) (.string ⟨#[]⟩) (.int .u32 0) (.int .u16 0) (.int .u16 0) (.int .u16 0) (.int .u16 0) (.int .u16 0) (.int .u16 0) (.int .u16 0) (.int .u16 0))
  go_wp2_with fail
  generalize (((((((((((w2.setCell ⟨G,0,none⟩ (.int .i64 0)).setCell ⟨G,1,none⟩ (.string ⟨#[]⟩)).setCell ⟨G,2,none⟩ (.int .u32 0)).setCell ⟨G,3,none⟩ (.int .u16 0)).setCell ⟨G,4,none⟩ (.int .u16 0)).setCell ⟨G,5,none⟩ (.int .u16 0)).setCell ⟨G,6,none⟩ (.int .u16 0)).setCell ⟨G,7,none⟩ (.int .u16 0)).setCell ⟨G,8,none⟩ (.int .u16 0)).setCell ⟨G,9,none⟩ (.int .u16 0)).setCell ⟨G,10,none⟩ (.int .u16 0))=W9 at *
  obtain ⟨⟨g0,g1,g2,g3,g4,g5,g6,g7,g8,g9,g10⟩,-⟩:=cellsH HFill.out.1
  have HBL:=hid HFill.out.2
  clear HFill c0 c1 c2 c3 c4 c5 c6 c7 c8 c9 c10 f0 f1 f2 f3 f4 f5 f6 f7 f8 f9 f10
  refine bodyPost_ret (by simp [results,Tryz.results10,go_sem,g0,g1,g2,g3,g4,g5,g6,g7,g8,g9,g10];try rfl) rfl ?_
  exact HPost.err HX2.out HBL.out
end Go.Proofs.YtpohekldddbneaaGreatDoor
