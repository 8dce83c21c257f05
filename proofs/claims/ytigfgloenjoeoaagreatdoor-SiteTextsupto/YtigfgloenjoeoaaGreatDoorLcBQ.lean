import Derived.Test.YtigfgloenjoeoaaGreatDoorLcBO
import Derived.Test.YtigfgloenjoeoaaGreatDoorLcBB
import Derived.Test.YtigfgloenjoeoaaGreatDoorLcAD
import Derived.Test.YtigfgloenjoeoaaGreatDoorLcBN
import Derived.Test.YtigfgloenjoeoaaGreatDoorLcBF
import Derived.Test.YtigfgloenjoeoaaGreatDoorLcBA
import Derived.Test.YtigfgloenjoeoaaGreatDoorLcAQ
import Derived.Test.YtigfgloenjoeoaaGreatDoorLcAJ
import Derived.Test.YtigfgloenjoeoaaGreatDoorLcBD
import Derived.Test.YtigfgloenjoeoaaGreatDoorLcAE
import Derived.Test.YtigfgloenjoeoaaGreatDoorLcAO
set_option linter.unusedVariables false
set_option linter.unusedSimpArgs false
set_option maxRecDepth 20000
set_option maxHeartbeats 16000000
namespace Go.Proofs.YtigfgloenjoeoaaGreatDoor
open Go.RowKit
def TabH (w:World):Prop:=Tab w∧TabPc w
theorem TabH.below {w w':World} (h:TabH w) (hb:Below w.heap.size w w'):TabH w':=⟨h.1.below hb,h.2.below hb⟩
theorem badS_low:LowS badS:=by
 intro j h
 have h17:j < 17:=h
 have:(List.range 17).all (fun j=>decide ((badS.data.toList.getD j 0).toNat < 128))=true:=by decide +kernel
 rw [get_list]
 exact of_decide_eq_true (List.all_eq_true.1 this j (List.mem_range.2 h17))
def TabR (w:World):Prop:=MaxL w∧TabPc w
theorem TabR.below {w w':World} (h:TabR w) (hb:Below w.heap.size w w'):TabR w':=⟨h.1.below hb,h.2.below hb⟩
theorem TabH.r {w:World} (h:TabH w):TabR w:=⟨h.1.1,h.2⟩
def badT:ByteArray:=⟨#[0,9,10,13,32,35,47,58,60,62,63,64,91,92,93,94,124,37,127]⟩
theorem badT_low:LowS badT:=by
 intro j h
 have h19:j < 19:=h
 have:(List.range 19).all (fun j=>decide ((badT.data.toList.getD j 0).toNat < 128))=true:=by decide +kernel
 rw [get_list]
 exact of_decide_eq_true (List.all_eq_true.1 this j (List.mem_range.2 h19))
theorem bad_signs:(List.range 256).all (fun n=>(badS.data.toList.contains (UInt8.ofNat n)==badB (UInt8.ofNat n))&&((badT.data.toList.contains (UInt8.ofNat n)||decide ((UInt8.ofNat n).toNat < 32))==(lowB (UInt8.ofNat n)||badB (UInt8.ofNat n))))=true:=by decide +kernel
theorem bad_sign_at (c:UInt8):badS.data.toList.contains c=badB c∧(badT.data.toList.contains c||decide (c.toNat < 32))=(lowB c||badB c):=by
 have h:=List.all_eq_true.1 bad_signs c.toNat (List.mem_range.2 c.toNat_lt)
 rw [UInt8.ofNat_toNat,Bool.and_eq_true,beq_iff_eq,beq_iff_eq] at h
 exact h
theorem any_badS (l:List UInt8):l.any (fun c=>badS.data.toList.contains c)=l.any badB:=by
 congr 1
 funext c
 exact (bad_sign_at c).1
theorem any_or {p q:UInt8→Bool}:∀l:List UInt8,(l.any p||l.any q)=l.any (fun c=>p c||q c)
 | []=>rfl
 | c::l=>by
   have ih:=any_or (p:=p) (q:=q) l
   rw [List.any_cons,List.any_cons,List.any_cons,← ih]
   cases p c<;>cases q c<;>cases l.any p<;>cases l.any q<;>rfl
theorem any_badT (l:List UInt8):(l.any (fun c=>badT.data.toList.contains c)||l.any (fun c=>decide (c.toNat < 32)))=(l.any lowB||l.any badB):=by
 rw [any_or,any_or]
 congr 1
 funext c
 exact (bad_sign_at c).2
def brackI (l:List UInt8):HostN×Nat:=if (cutL l).2=true then sixH (parse6R (cutL l).1) else (host0,4)
theorem brack_in (r:List UInt8):bracketR (91::r)=brackI r:=by
 unfold bracketR brackI cutL
 match r with
 | []=>rfl
 | c::r =>
   by_cases h:(c::r).getLast? = some 93
   ·rw [if_neg,if_pos h]
    ·rfl
    ·rintro (e | e)
     ·apply e
      rw [List.getLast?_cons_cons]
      exact h
     ·simp at e
   ·rw [if_pos,if_neg h]
    ·rfl
    ·left
     rw [List.getLast?_cons_cons]
     exact h
theorem name_refuse {t:List UInt8} (h0:t≠[]) (h:(t.any lowB||t.any badB)=true):nameR t=(host0,4):=by
 unfold nameR
 rw [if_neg h0,if_pos h]
theorem name_end2 {t:List UInt8} (h0:t≠[]) (h1:(t.any lowB||t.any badB)=false) (h3:endsR t=true):nameR t=fourH (parse4R t):=by
 unfold nameR
 rw [if_neg h0,h1,if_neg (by decide),if_pos h3]
theorem name_own2 {t:List UInt8} (h0:t≠[]) (h1:(t.any lowB||t.any badB)=false) (h3:endsR t=false):nameR t=((1,t,0,z8),0):=by
 unfold nameR
 rw [if_neg h0,h1,if_neg (by decide),if_neg (by rw [h3];decide)]
theorem hfour_calls (s:ByteArray) (w:World) (hs:s.size≤100000):Calls Tryz.prog 78 #[.string s] w fun e w'=>HPost (fourH (parse4R s.data.toList)) w e w':=by
 have HS:=hid hs
 have HLN:=hid (bytes_num s)
 have HG0:=hid (zeroH_world w)
 have HB0:=hid ((Below.refl w.heap.size w).alloc (Nat.le_refl _) (.cells #[.int .i64 0,.string ⟨#[]⟩,.int .u32 0,.int .u16 0,.int .u16 0,.int .u16 0,.int .u16 0,.int .u16 0,.int .u16 0,.int .u16 0,.int .u16 0] 26))
 have HP4:=hid (fun w=>ip4_calls s w HS.out)
 unfold P4Post at HP4
 generalize parse4R s.data.toList=pr at *
 obtain ⟨n,m⟩:=pr
 obtain ⟨B,hB⟩:∃B,fourH (n,m)=B:=⟨_,rfl⟩
 rw [hB]
 have HBB:=hid hB
 clear hs hB
 go_enter Tryz.func78,Tryz.ntmps78
 go_wp2_with fail
 refine (HP4.out _).mono ?_
 rintro e w1 ⟨rfl,hb1⟩
 have HG1:=hid (HG0.out.below hb1)
 have HB1:=hid (below_trans HB0.out hb1)
 clear hb1 HG0 HB0 HP4
 obtain ⟨G,hG⟩:∃G,w.heap.size=G:=⟨_,rfl⟩
 have HGl:Hid (w.heap.size≤G):=Nat.le_of_eq hG
 have hGp:(Value.pointer (some ⟨w.heap.size,0,none⟩))=Value.pointer (some ⟨G,0,none⟩):=by rw [hG]
 rw [hGp]
 rw [hG] at HG1
 clear hG hGp
 obtain ⟨⟨c0,c1,c2,c3,c4,c5,c6,c7,c8,c9,c10⟩,⟨f0,f1,f2,f3,f4,f5,f6,f7,f8,f9,f10⟩⟩:=cellsZ HG1.out
 by_cases hm:m=0
 ·have HX:Hid (B=((2,[],n,z8),0)):=by show _=_;rw [← HBB.out];unfold fourH;rw [if_pos hm]
  have m1:((m:Int) != 0)=false:=by rw [hm];rfl
  clear hm
  have HFill:=hid (fillZ HG1.out HB1.out HGl.out HB1.out.size (.int .i64 2) (.string ⟨#[]⟩) (.int .u32 (n:Int)) (.int .u16 0) (.int .u16 0) (.int .u16 0) (.int .u16 0) (.int .u16 0) (.int .u16 0) (.int .u16 0) (.int .u16 0))
  go_wp2_with fail
  generalize (((((((((((w1.setCell ⟨G,0,none⟩ (.int .i64 2)).setCell ⟨G,1,none⟩ (.string ⟨#[]⟩)).setCell ⟨G,2,none⟩ (.int .u32 (n:Int))).setCell ⟨G,3,none⟩ (.int .u16 0)).setCell ⟨G,4,none⟩ (.int .u16 0)).setCell ⟨G,5,none⟩ (.int .u16 0)).setCell ⟨G,6,none⟩ (.int .u16 0)).setCell ⟨G,7,none⟩ (.int .u16 0)).setCell ⟨G,8,none⟩ (.int .u16 0)).setCell ⟨G,9,none⟩ (.int .u16 0)).setCell ⟨G,10,none⟩ (.int .u16 0))=W9 at *
  obtain ⟨⟨g0,g1,g2,g3,g4,g5,g6,g7,g8,g9,g10⟩,-⟩:=cellsH HFill.out.1
  have HBL:=hid HFill.out.2
  clear HFill c0 c1 c2 c3 c4 c5 c6 c7 c8 c9 c10 f0 f1 f2 f3 f4 f5 f6 f7 f8 f9 f10
  refine bodyPost_ret (by simp [results,Tryz.results78,go_sem,g0,g1,g2,g3,g4,g5,g6,g7,g8,g9,g10];try rfl) rfl ?_
  exact HPost.mk HX.out HBL.out
 ·have HX:Hid (B=(host0,m)):=by show _=_;rw [← HBB.out];unfold fourH;rw [if_neg hm]
  have m1:((m:Int) != 0)=true:=by rw [bne_iff_ne];omega
  clear hm
  have HFill:=hid (fillZ HG1.out HB1.out HGl.out HB1.out.size (.int .i64 0) (.string ⟨#[]⟩) (.int .u32 0) (.int .u16 0) (.int .u16 0) (.int .u16 0) (.int .u16 0) (.int .u16 0) (.int .u16 0) (.int .u16 0) (.int .u16 0))
  go_wp2_with fail
  generalize (((((((((((w1.setCell ⟨G,0,none⟩ (.int .i64 0)).setCell ⟨G,1,none⟩ (.string ⟨#[]⟩)).setCell ⟨G,2,none⟩ (.int .u32 0)).setCell ⟨G,3,none⟩ (.int .u16 0)).setCell ⟨G,4,none⟩ (.int .u16 0)).setCell ⟨G,5,none⟩ (.int .u16 0)).setCell ⟨G,6,none⟩ (.int .u16 0)).setCell ⟨G,7,none⟩ (.int .u16 0)).setCell ⟨G,8,none⟩ (.int .u16 0)).setCell ⟨G,9,none⟩ (.int .u16 0)).setCell ⟨G,10,none⟩ (.int .u16 0))=W9 at *
  obtain ⟨⟨g0,g1,g2,g3,g4,g5,g6,g7,g8,g9,g10⟩,-⟩:=cellsH HFill.out.1
  have HBL:=hid HFill.out.2
  clear HFill c0 c1 c2 c3 c4 c5 c6 c7 c8 c9 c10 f0 f1 f2 f3 f4 f5 f6 f7 f8 f9 f10
  refine bodyPost_ret (by simp [results,Tryz.results78,go_sem,g0,g1,g2,g3,g4,g5,g6,g7,g8,g9,g10];try rfl) rfl ?_
  exact HPost.err HX.out HBL.out
theorem hdark_none (s:ByteArray) (w:World) (hs:s.size≤100000) (h0:s.size=0):Calls Tryz.prog 55 #[.string s] w fun e w'=>HPost (darkR s.data.toList) w e w':=by
 have HS:=hid hs
 have HLN:=hid (bytes_num s)
 have HG0:=hid (zeroH_world w)
 have HB0:=hid ((Below.refl w.heap.size w).alloc (Nat.le_refl _) (.cells #[.int .i64 0,.string ⟨#[]⟩,.int .u32 0,.int .u16 0,.int .u16 0,.int .u16 0,.int .u16 0,.int .u16 0,.int .u16 0,.int .u16 0,.int .u16 0] 26))
 have e0:=empty_yes h0
 have HX:Hid (darkR s.data.toList=(host0,0)):=by show _=_;rw [data_nil h0];rfl
 clear hs h0
 go_enter Tryz.func55,Tryz.ntmps55
 go_wp2_with fail
 go_returns
 exact HPost.err HX.out HB0.out
theorem hdark_some (s:ByteArray) (w:World) (hs:s.size≤100000) (h0:s.size≠0) (T0:TabPc w):Calls Tryz.prog 55 #[.string s] w fun e w'=>HPost (darkR s.data.toList) w e w':=by
 have HS:=hid hs
 have HLN:=hid (bytes_num s)
 have HG0:=hid (zeroH_world w)
 have HB0:=hid ((Below.refl w.heap.size w).alloc (Nat.le_refl _) (.cells #[.int .i64 0,.string ⟨#[]⟩,.int .u32 0,.int .u16 0,.int .u16 0,.int .u16 0,.int .u16 0,.int .u16 0,.int .u16 0,.int .u16 0,.int .u16 0] 26))
 obtain ⟨e0,e1⟩:=empty_no h0
 have hne:=data_ne h0
 have TT:=hid T0
 have HD1:=hid (fun h=>dark_bad (l:=s.data.toList) h)
 have HD2:=hid (fun h=>dark_some (l:=s.data.toList) h hne)
 have HLL:Hid (s.data.toList.length≤100000):=by show _≤_;rw [HLN.out];exact hs
 have HSR:=hid (fun w=>str_row w s HS.out)
 have HAm:=hid (fun w=>hcont_calls s badS w HS.out badS_low (by decide) (by decide))
 rw [any_badS] at HAm
 clear h0 hne hs T0
 go_enter Tryz.func55,Tryz.ntmps55
 go_wp2_with fail
 refine (HAm.out _).mono ?_
 rintro e w1 ⟨rfl,hb1⟩
 have HG1:=hid (HG0.out.below hb1)
 have HB1:=hid (below_trans HB0.out hb1)
 clear hb1 HG0 HB0 HAm
 obtain ⟨G,hG⟩:∃G,w.heap.size=G:=⟨_,rfl⟩
 have HGl:Hid (w.heap.size≤G):=Nat.le_of_eq hG
 have hGp:(Value.pointer (some ⟨w.heap.size,0,none⟩))=Value.pointer (some ⟨G,0,none⟩):=by rw [hG]
 rw [hGp]
 rw [hG] at HG1
 clear hG hGp
 cases hany:s.data.toList.any badB with
 | true =>
   have HX:=hid (HD1.out hany)
   clear hany HD1 HD2
   obtain ⟨⟨c0,c1,c2,c3,c4,c5,c6,c7,c8,c9,c10⟩,⟨f0,f1,f2,f3,f4,f5,f6,f7,f8,f9,f10⟩⟩:=cellsZ HG1.out
   have HFill:=hid (fillZ HG1.out HB1.out HGl.out HB1.out.size (.int .i64 0) (.string ⟨#[]⟩) (.int .u32 0) (.int .u16 0) (.int .u16 0) (.int .u16 0) (.int .u16 0) (.int .u16 0) (.int .u16 0) (.int .u16 0) (.int .u16 0))
   go_wp2_with fail
   generalize (((((((((((w1.setCell ⟨G,0,none⟩ (.int .i64 0)).setCell ⟨G,1,none⟩ (.string ⟨#[]⟩)).setCell ⟨G,2,none⟩ (.int .u32 0)).setCell ⟨G,3,none⟩ (.int .u16 0)).setCell ⟨G,4,none⟩ (.int .u16 0)).setCell ⟨G,5,none⟩ (.int .u16 0)).setCell ⟨G,6,none⟩ (.int .u16 0)).setCell ⟨G,7,none⟩ (.int .u16 0)).setCell ⟨G,8,none⟩ (.int .u16 0)).setCell ⟨G,9,none⟩ (.int .u16 0)).setCell ⟨G,10,none⟩ (.int .u16 0))=W9 at *
   obtain ⟨⟨g0,g1,g2,g3,g4,g5,g6,g7,g8,g9,g10⟩,-⟩:=cellsH HFill.out.1
   have HBL:=hid HFill.out.2
   clear HFill c0 c1 c2 c3 c4 c5 c6 c7 c8 c9 c10 f0 f1 f2 f3 f4 f5 f6 f7 f8 f9 f10
   refine bodyPost_ret (by simp [results,Tryz.results55,go_sem,g0,g1,g2,g3,g4,g5,g6,g7,g8,g9,g10];try rfl) rfl ?_
   exact HPost.err HX.out HBL.out
 | false =>
   have HX:=hid (HD2.out hany)
   clear hany HD1 HD2
   have hcv:=Lib.run_convert_string_bytes (P:=Tryz.prog) w1 9 73 5 s Tryz.underlying9 Tryz.underlying73 Tryz.underlying5
   have HRow:=hid (HSR.out w1)
   have HSW:=hid (str_world w1 s)
   have HG2:=hid (HG1.out.below HSW.out)
   have HB2:=hid (below_trans HB1.out HSW.out)
   generalize Lib.bytesWorld w1 5 s=wb at *
   generalize grownCap w1 s.size 0 5=cap at *
   generalize w1.heap.size=N1 at *
   have HPc:=hid (fun W v t h=>encode_callsPc 1 v s.data.toList W t h HLL.out)
   generalize pctR 1 s.data.toList=PL at *
   go_wp2_with fail
   refine (HPc.out _ _ (TT.out.below HB2.out) HRow.out).mono ?_
   rintro e w2 ⟨rfl,hb2⟩
   have HG3:=hid (HG2.out.below hb2)
   have HB3:=hid (below_trans HB2.out hb2)
   clear hb2 HG2 HB2 hcv
   obtain ⟨⟨c0,c1,c2,c3,c4,c5,c6,c7,c8,c9,c10⟩,⟨f0,f1,f2,f3,f4,f5,f6,f7,f8,f9,f10⟩⟩:=cellsZ HG3.out
   have HFill:=hid (fillZ HG3.out HB3.out HGl.out HB3.out.size (.int .i64 4) (.string (strOf PL)) (.int .u32 0) (.int .u16 0) (.int .u16 0) (.int .u16 0) (.int .u16 0) (.int .u16 0) (.int .u16 0) (.int .u16 0) (.int .u16 0))
   go_wp2_with fail
   generalize (((((((((((w2.setCell ⟨G,0,none⟩ (.int .i64 4)).setCell ⟨G,1,none⟩ (.string (strOf PL))).setCell ⟨G,2,none⟩ (.int .u32 0)).setCell ⟨G,3,none⟩ (.int .u16 0)).setCell ⟨G,4,none⟩ (.int .u16 0)).setCell ⟨G,5,none⟩ (.int .u16 0)).setCell ⟨G,6,none⟩ (.int .u16 0)).setCell ⟨G,7,none⟩ (.int .u16 0)).setCell ⟨G,8,none⟩ (.int .u16 0)).setCell ⟨G,9,none⟩ (.int .u16 0)).setCell ⟨G,10,none⟩ (.int .u16 0))=W9 at *
   obtain ⟨⟨g0,g1,g2,g3,g4,g5,g6,g7,g8,g9,g10⟩,-⟩:=cellsH HFill.out.1
   have HBL:=hid HFill.out.2
   clear HFill c0 c1 c2 c3 c4 c5 c6 c7 c8 c9 c10 f0 f1 f2 f3 f4 f5 f6 f7 f8 f9 f10
   refine bodyPost_ret (by simp [results,Tryz.results55,go_sem,g0,g1,g2,g3,g4,g5,g6,g7,g8,g9,g10];try rfl) rfl ?_
   exact HPost.mk HX.out HBL.out
theorem hbrack_calls (s:ByteArray) (w:World) (hs:s.size≤100000) (T0:MaxL w):Calls Tryz.prog 53 #[.string s] w fun e w'=>HPost (brackI s.data.toList) w e w':=by
 have HS:=hid hs
 have HLN:=hid (bytes_num s)
 have HG0:=hid (zeroH_world w)
 have HB0:=hid ((Below.refl w.heap.size w).alloc (Nat.le_refl _) (.cells #[.int .i64 0,.string ⟨#[]⟩,.int .u32 0,.int .u16 0,.int .u16 0,.int .u16 0,.int .u16 0,.int .u16 0,.int .u16 0,.int .u16 0,.int .u16 0] 26))
 have TT:=hid T0
 have HC:=hid (fun w=>hcut_calls s w HS.out)
 have HI:Hid (∀M,brackI s.data.toList=M→(if (cutL s.data.toList).2=true then sixH (parse6R (cutL s.data.toList).1) else (host0,4))=M):=fun M h=>h
 obtain ⟨B,hB⟩:∃B,brackI s.data.toList=B:=⟨_,rfl⟩
 have hB2:=HI.out B hB
 have HSZ:Hid ((strOf (cutL s.data.toList).1).size≤100000):=by
  show (cutL s.data.toList).1.length≤100000
  have:=HLN.out
  have:=HS.out
  unfold cutL
  split
  ·rw [List.length_dropLast];omega
  ·simp only;omega
 rw [hB]
 clear hB HI hs T0
 generalize cutL s.data.toList=cl at *
 obtain ⟨M,c⟩:=cl
 cases c with
 | false =>
   have HX:Hid (B=(host0,4)):=by show _=_;rw [← hB2];rfl
   clear hB2
   go_enter Tryz.func53,Tryz.ntmps53
   go_wp2_with fail
   refine (HC.out _).mono ?_
   rintro e w1 ⟨rfl,rfl⟩
   go_wp2_with fail
   go_returns
   exact HPost.err HX.out HB0.out
 | true =>
   have HX0:Hid (B=sixH (parse6R M)):=by show _=_;rw [← hB2];rfl
   have HF:=hid (parse6_fine M)
   have HP:=hid (fun w t=>p6in_calls (strOf M) w HSZ.out t)
   unfold P6Post at HP
   rw [str_data] at HP
   clear hB2
   generalize parse6R M=pr at *
   obtain ⟨xs,m⟩:=pr
   obtain ⟨x0,x1,x2,x3,x4,x5,x6,x7,rfl⟩:=eight HF.out.1
   simp only [aggL,f16,List.map_cons,List.map_nil] at HP
   clear HF
   go_enter Tryz.func53,Tryz.ntmps53
   go_wp2_with fail
   refine (HC.out _).mono ?_
   rintro e w0 ⟨rfl,rfl⟩
   go_wp2_with fail
   refine (HP.out _ (TT.out.below HB0.out)).mono ?_
   rintro e w1 ⟨rfl,hb1⟩
   have HG1:=hid (HG0.out.below (hb1.alloc hb1.size (.cells #[.int .u16 (x0:Int),.int .u16 (x1:Int),.int .u16 (x2:Int),.int .u16 (x3:Int),.int .u16 (x4:Int),.int .u16 (x5:Int),.int .u16 (x6:Int),.int .u16 (x7:Int)] 24)))
   have HB1:=hid (below_trans HB0.out (hb1.alloc hb1.size (.cells #[.int .u16 (x0:Int),.int .u16 (x1:Int),.int .u16 (x2:Int),.int .u16 (x3:Int),.int .u16 (x4:Int),.int .u16 (x5:Int),.int .u16 (x6:Int),.int .u16 (x7:Int)] 24)))
   have HNew:Hid (Blk (w1.alloc (.cells #[.int .u16 (x0:Int),.int .u16 (x1:Int),.int .u16 (x2:Int),.int .u16 (x3:Int),.int .u16 (x4:Int),.int .u16 (x5:Int),.int .u16 (x6:Int),.int .u16 (x7:Int)] 24)) w1.heap.size [x0,x1,x2,x3,x4,x5,x6,x7]):=heap_alloc_new w1 _
   clear hb1 HG0 HB0 HP HC
   by_cases hm:m=0
   ·have HX:Hid (B=((3,[],0,[x0,x1,x2,x3,x4,x5,x6,x7]),0)):=by show _=_;rw [HX0.out];unfold sixH;rw [if_pos hm]
    have m1:((m:Int) != 0)=false:=by rw [hm];rfl
    clear hm
    go_upto_region 7 with fail
    generalize w1.alloc (.cells #[.int .u16 (x0:Int),.int .u16 (x1:Int),.int .u16 (x2:Int),.int .u16 (x3:Int),.int .u16 (x4:Int),.int .u16 (x5:Int),.int .u16 (x6:Int),.int .u16 (x7:Int)] 24)=w2 at *
    generalize w1.heap.size=P at *
    obtain ⟨G,hG⟩:∃G,w.heap.size=G:=⟨_,rfl⟩
    have HGl:Hid (w.heap.size≤G):=Nat.le_of_eq hG
    have hGp:(Value.pointer (some ⟨w.heap.size,0,none⟩))=Value.pointer (some ⟨G,0,none⟩):=by rw [hG]
    rw [hGp]
    rw [hG] at HG1
    clear hG hGp
    obtain ⟨⟨c0,c1,c2,c3,c4,c5,c6,c7,c8,c9,c10⟩,⟨f0,f1,f2,f3,f4,f5,f6,f7,f8,f9,f10⟩⟩:=cellsZ HG1.out
    have HFill:=hid (fillZ HG1.out HB1.out HGl.out HB1.out.size (.int .i64 3) (.string ⟨#[]⟩) (.int .u32 0) (.int .u16 (x0:Int)) (.int .u16 (x1:Int)) (.int .u16 (x2:Int)) (.int .u16 (x3:Int)) (.int .u16 (x4:Int)) (.int .u16 (x5:Int)) (.int .u16 (x6:Int)) (.int .u16 (x7:Int)))
    obtain ⟨⟨d0,d1,d2,d3,d4,d5,d6,d7⟩,-⟩:=eight8' HNew.out
    go_wp2_with fail
    generalize (((((((((((w2.setCell ⟨G,0,none⟩ (.int .i64 3)).setCell ⟨G,1,none⟩ (.string ⟨#[]⟩)).setCell ⟨G,2,none⟩ (.int .u32 0)).setCell ⟨G,3,none⟩ (.int .u16 (x0:Int))).setCell ⟨G,4,none⟩ (.int .u16 (x1:Int))).setCell ⟨G,5,none⟩ (.int .u16 (x2:Int))).setCell ⟨G,6,none⟩ (.int .u16 (x3:Int))).setCell ⟨G,7,none⟩ (.int .u16 (x4:Int))).setCell ⟨G,8,none⟩ (.int .u16 (x5:Int))).setCell ⟨G,9,none⟩ (.int .u16 (x6:Int))).setCell ⟨G,10,none⟩ (.int .u16 (x7:Int)))=W9 at *
    obtain ⟨⟨g0,g1,g2,g3,g4,g5,g6,g7,g8,g9,g10⟩,-⟩:=cellsH HFill.out.1
    have HBL:=hid HFill.out.2
    clear HFill c0 c1 c2 c3 c4 c5 c6 c7 c8 c9 c10 f0 f1 f2 f3 f4 f5 f6 f7 f8 f9 f10
    refine bodyPost_ret (by simp [results,Tryz.results53,go_sem,g0,g1,g2,g3,g4,g5,g6,g7,g8,g9,g10];try rfl) rfl ?_
    exact HPost.mk HX.out HBL.out
   ·have HX:Hid (B=(host0,m)):=by show _=_;rw [HX0.out];unfold sixH;rw [if_neg hm]
    have m1:((m:Int) != 0)=true:=by rw [bne_iff_ne];omega
    clear hm
    go_upto_region 6 with fail
    generalize w1.alloc (.cells #[.int .u16 (x0:Int),.int .u16 (x1:Int),.int .u16 (x2:Int),.int .u16 (x3:Int),.int .u16 (x4:Int),.int .u16 (x5:Int),.int .u16 (x6:Int),.int .u16 (x7:Int)] 24)=w2 at *
    generalize w1.heap.size=P at *
    obtain ⟨G,hG⟩:∃G,w.heap.size=G:=⟨_,rfl⟩
    have HGl:Hid (w.heap.size≤G):=Nat.le_of_eq hG
    have hGp:(Value.pointer (some ⟨w.heap.size,0,none⟩))=Value.pointer (some ⟨G,0,none⟩):=by rw [hG]
    rw [hGp]
    rw [hG] at HG1
    clear hG hGp
    obtain ⟨⟨c0,c1,c2,c3,c4,c5,c6,c7,c8,c9,c10⟩,⟨f0,f1,f2,f3,f4,f5,f6,f7,f8,f9,f10⟩⟩:=cellsZ HG1.out
    have HFill:=hid (fillZ HG1.out HB1.out HGl.out HB1.out.size (.int .i64 0) (.string ⟨#[]⟩) (.int .u32 0) (.int .u16 0) (.int .u16 0) (.int .u16 0) (.int .u16 0) (.int .u16 0) (.int .u16 0) (.int .u16 0) (.int .u16 0))
    go_wp2_with fail
    generalize (((((((((((w2.setCell ⟨G,0,none⟩ (.int .i64 0)).setCell ⟨G,1,none⟩ (.string ⟨#[]⟩)).setCell ⟨G,2,none⟩ (.int .u32 0)).setCell ⟨G,3,none⟩ (.int .u16 0)).setCell ⟨G,4,none⟩ (.int .u16 0)).setCell ⟨G,5,none⟩ (.int .u16 0)).setCell ⟨G,6,none⟩ (.int .u16 0)).setCell ⟨G,7,none⟩ (.int .u16 0)).setCell ⟨G,8,none⟩ (.int .u16 0)).setCell ⟨G,9,none⟩ (.int .u16 0)).setCell ⟨G,10,none⟩ (.int .u16 0))=W9 at *
    obtain ⟨⟨g0,g1,g2,g3,g4,g5,g6,g7,g8,g9,g10⟩,-⟩:=cellsH HFill.out.1
    have HBL:=hid HFill.out.2
    clear HFill c0 c1 c2 c3 c4 c5 c6 c7 c8 c9 c10 f0 f1 f2 f3 f4 f5 f6 f7 f8 f9 f10
    refine bodyPost_ret (by simp [results,Tryz.results53,go_sem,g0,g1,g2,g3,g4,g5,g6,g7,g8,g9,g10];try rfl) rfl ?_
    exact HPost.err HX.out HBL.out
theorem hspec_calls (s:ByteArray) (w:World) (hs:s.size≤100000) (T0:TabR w):Calls Tryz.prog 54 #[.string s] w fun e w'=>HPost (specialR s.data.toList) w e w':=by
 have HS:=hid hs
 have HLN:=hid (bytes_num s)
 have HG0:=hid (zeroH_world w)
 have HB0:=hid ((Below.refl w.heap.size w).alloc (Nat.le_refl _) (.cells #[.int .i64 0,.string ⟨#[]⟩,.int .u32 0,.int .u16 0,.int .u16 0,.int .u16 0,.int .u16 0,.int .u16 0,.int .u16 0,.int .u16 0,.int .u16 0] 26))
 obtain ⟨T,k,hT,hT253⟩:=asked_pair s.data.toList
 have HR:=hid (special_pair hT)
 have TT:=hid T0
 have HU:=hid (fun w=>decode_callsPc s w HS.out)
 have HLL:Hid ((unR s.data.toList).length≤100000):=by show _≤_;have:=unR_len _ s.data.toList (Nat.le_refl _);have:=HLN.out;have:=HS.out;omega
 have HLo:=hid (fun v w h=>lossy_calls v (unR s.data.toList) w h HLL.out)
 have HAs:=hid (fun v w h=>iascii_calls v (lossyL (unR s.data.toList)) w h)
 have hT1:(ascR (lossyL (unR s.data.toList))).1=T:=congrArg Prod.fst hT
 have hT2:(ascR (lossyL (unR s.data.toList))).2=(k:Int):=congrArg Prod.snd hT
 rw [hT1,hT2] at HAs
 generalize specialR s.data.toList=B at *
 clear hT hT1 hT2 hs T0
 go_enter Tryz.func54,Tryz.ntmps54
 go_wp2_with fail
 refine (HU.out _).mono ?_
 rintro e wa ⟨⟨v1,rfl,hv1⟩,hb1⟩
 go_wp2_with fail
 refine (HLo.out _ _ hv1).mono ?_
 rintro e wb ⟨⟨v2,rfl,hv2⟩,hb2⟩
 go_wp2_with fail
 refine (HAs.out _ _ hv2.row).mono ?_
 rintro e w1 ⟨rfl,hb3⟩
 have HG1:=hid (((HG0.out.below hb1).below hb2).below hb3)
 have HB1:=hid (below_trans (below_trans (below_trans HB0.out hb1) hb2) hb3)
 clear hb1 hb2 hb3 hv1 hv2 HU HLo HAs HG0 HB0
 obtain ⟨G,hG⟩:∃G,w.heap.size=G:=⟨_,rfl⟩
 have HGl:Hid (w.heap.size≤G):=Nat.le_of_eq hG
 have hGp:(Value.pointer (some ⟨w.heap.size,0,none⟩))=Value.pointer (some ⟨G,0,none⟩):=by rw [hG]
 rw [hGp]
 rw [hG] at HG1
 clear hG hGp
 by_cases hk:k=0
 ·have k1:((k:Int) != 0)=false:=by rw [hk];rfl
  have T3:T.size≤253:=hT253 hk
  have HR2:Hid (B=nameR T.data.toList):=by show _=_;rw [HR.out,if_pos hk]
  have HTL:=hid (bytes_num T)
  clear hT253 hk
  by_cases hT0:T.size=0
  ·have e0:=empty_yes hT0
   have HX:Hid (B=(host0,6)):=by show _=_;rw [HR2.out,data_nil hT0];exact name_none
   clear hT0 T3
   obtain ⟨⟨c0,c1,c2,c3,c4,c5,c6,c7,c8,c9,c10⟩,⟨f0,f1,f2,f3,f4,f5,f6,f7,f8,f9,f10⟩⟩:=cellsZ HG1.out
   have HFill:=hid (fillZ HG1.out HB1.out HGl.out HB1.out.size (.int .i64 0) (.string ⟨#[]⟩) (.int .u32 0) (.int .u16 0) (.int .u16 0) (.int .u16 0) (.int .u16 0) (.int .u16 0) (.int .u16 0) (.int .u16 0) (.int .u16 0))
   go_wp2_with fail
   generalize (((((((((((w1.setCell ⟨G,0,none⟩ (.int .i64 0)).setCell ⟨G,1,none⟩ (.string ⟨#[]⟩)).setCell ⟨G,2,none⟩ (.int .u32 0)).setCell ⟨G,3,none⟩ (.int .u16 0)).setCell ⟨G,4,none⟩ (.int .u16 0)).setCell ⟨G,5,none⟩ (.int .u16 0)).setCell ⟨G,6,none⟩ (.int .u16 0)).setCell ⟨G,7,none⟩ (.int .u16 0)).setCell ⟨G,8,none⟩ (.int .u16 0)).setCell ⟨G,9,none⟩ (.int .u16 0)).setCell ⟨G,10,none⟩ (.int .u16 0))=W9 at *
   obtain ⟨⟨g0,g1,g2,g3,g4,g5,g6,g7,g8,g9,g10⟩,-⟩:=cellsH HFill.out.1
   have HBL:=hid HFill.out.2
   clear HFill c0 c1 c2 c3 c4 c5 c6 c7 c8 c9 c10 f0 f1 f2 f3 f4 f5 f6 f7 f8 f9 f10
   refine bodyPost_ret (by simp [results,Tryz.results54,go_sem,g0,g1,g2,g3,g4,g5,g6,g7,g8,g9,g10];try rfl) rfl ?_
   exact HPost.err HX.out HBL.out
  ·obtain ⟨e0,e1⟩:=empty_no hT0
   have HNE:=hid (data_ne hT0)
   have HAm:=hid (fun w=>hcont_calls T badT w (by omega) badT_low (by decide) (by decide))
   have HFu:=hid (fun w=>hcfun_calls T w (by omega))
   have HEn:=hid (fun w=>ien_calls T w (by omega))
   have HP4:=hid (fun w=>hfour_calls T w (by omega))
   have HOr:=hid (any_badT T.data.toList)
   have T4:(T.size:Int)≤253:=by omega
   clear hT0 T3
   generalize T.data.toList.any (fun c=>badT.data.toList.contains c)=b1 at *
   generalize T.data.toList.any (fun c=>decide (c.toNat < 32))=b2 at *
   go_wp2_with fail
   refine (HAm.out _).mono ?_
   rintro e w2 ⟨rfl,hb2⟩
   have HG2:=hid (HG1.out.below hb2)
   have HB2:=hid (below_trans HB1.out hb2)
   clear hb2 HG1 HB1
   cases b1 with
   | true =>
     have HX:Hid (B=(host0,4)):=by show _=_;rw [HR2.out];exact name_refuse HNE.out (by rw [← HOr.out];rfl)
     obtain ⟨⟨c0,c1,c2,c3,c4,c5,c6,c7,c8,c9,c10⟩,⟨f0,f1,f2,f3,f4,f5,f6,f7,f8,f9,f10⟩⟩:=cellsZ HG2.out
     have HFill:=hid (fillZ HG2.out HB2.out HGl.out HB2.out.size (.int .i64 0) (.string ⟨#[]⟩) (.int .u32 0) (.int .u16 0) (.int .u16 0) (.int .u16 0) (.int .u16 0) (.int .u16 0) (.int .u16 0) (.int .u16 0) (.int .u16 0))
     go_wp2_with fail
     generalize (((((((((((w2.setCell ⟨G,0,none⟩ (.int .i64 0)).setCell ⟨G,1,none⟩ (.string ⟨#[]⟩)).setCell ⟨G,2,none⟩ (.int .u32 0)).setCell ⟨G,3,none⟩ (.int .u16 0)).setCell ⟨G,4,none⟩ (.int .u16 0)).setCell ⟨G,5,none⟩ (.int .u16 0)).setCell ⟨G,6,none⟩ (.int .u16 0)).setCell ⟨G,7,none⟩ (.int .u16 0)).setCell ⟨G,8,none⟩ (.int .u16 0)).setCell ⟨G,9,none⟩ (.int .u16 0)).setCell ⟨G,10,none⟩ (.int .u16 0))=W9 at *
     obtain ⟨⟨g0,g1,g2,g3,g4,g5,g6,g7,g8,g9,g10⟩,-⟩:=cellsH HFill.out.1
     have HBL:=hid HFill.out.2
     clear HFill c0 c1 c2 c3 c4 c5 c6 c7 c8 c9 c10 f0 f1 f2 f3 f4 f5 f6 f7 f8 f9 f10
     refine bodyPost_ret (by simp [results,Tryz.results54,go_sem,g0,g1,g2,g3,g4,g5,g6,g7,g8,g9,g10];try rfl) rfl ?_
     exact HPost.err HX.out HBL.out
   | false =>
     go_wp2_with fail
     refine (HFu.out _).mono ?_
     rintro e w3 ⟨rfl,hb3⟩
     have HG3:=hid (HG2.out.below hb3)
     have HB3:=hid (below_trans HB2.out hb3)
     clear hb3 HG2 HB2
     cases b2 with
     | true =>
       have HX:Hid (B=(host0,4)):=by show _=_;rw [HR2.out];exact name_refuse HNE.out (by rw [← HOr.out];rfl)
       obtain ⟨⟨c0,c1,c2,c3,c4,c5,c6,c7,c8,c9,c10⟩,⟨f0,f1,f2,f3,f4,f5,f6,f7,f8,f9,f10⟩⟩:=cellsZ HG3.out
       have HFill:=hid (fillZ HG3.out HB3.out HGl.out HB3.out.size (.int .i64 0) (.string ⟨#[]⟩) (.int .u32 0) (.int .u16 0) (.int .u16 0) (.int .u16 0) (.int .u16 0) (.int .u16 0) (.int .u16 0) (.int .u16 0) (.int .u16 0))
       go_wp2_with fail
       generalize (((((((((((w3.setCell ⟨G,0,none⟩ (.int .i64 0)).setCell ⟨G,1,none⟩ (.string ⟨#[]⟩)).setCell ⟨G,2,none⟩ (.int .u32 0)).setCell ⟨G,3,none⟩ (.int .u16 0)).setCell ⟨G,4,none⟩ (.int .u16 0)).setCell ⟨G,5,none⟩ (.int .u16 0)).setCell ⟨G,6,none⟩ (.int .u16 0)).setCell ⟨G,7,none⟩ (.int .u16 0)).setCell ⟨G,8,none⟩ (.int .u16 0)).setCell ⟨G,9,none⟩ (.int .u16 0)).setCell ⟨G,10,none⟩ (.int .u16 0))=W9 at *
       obtain ⟨⟨g0,g1,g2,g3,g4,g5,g6,g7,g8,g9,g10⟩,-⟩:=cellsH HFill.out.1
       have HBL:=hid HFill.out.2
       clear HFill c0 c1 c2 c3 c4 c5 c6 c7 c8 c9 c10 f0 f1 f2 f3 f4 f5 f6 f7 f8 f9 f10
       refine bodyPost_ret (by simp [results,Tryz.results54,go_sem,g0,g1,g2,g3,g4,g5,g6,g7,g8,g9,g10];try rfl) rfl ?_
       exact HPost.err HX.out HBL.out
     | false =>
       have HNo:Hid ((T.data.toList.any lowB||T.data.toList.any badB)=false):=by show _=_;rw [← HOr.out];rfl
       go_wp2_with fail
       refine (HEn.out _).mono ?_
       rintro e w4 ⟨rfl,hb4⟩
       have HG4:=hid (HG3.out.below hb4)
       have HB4:=hid (below_trans HB3.out hb4)
       clear hb4 HG3 HB3 HEn HAm HFu
       cases hend:endsR T.data.toList with
       | true =>
         have HX0:Hid (B=fourH (parse4R T.data.toList)):=by show _=_;rw [HR2.out];exact name_end2 HNE.out HNo.out hend
         rw [← HX0.out] at HP4
         clear hend HX0 HR2 HR
         go_wp2_with fail
         refine (HP4.out _).mono ?_
         rintro e w5 ⟨p0,p1,p2,p3,p4,p5,p6,p7,hp,rfl,hb5⟩
         unfold hostV
         have HG5:=hid (HG4.out.below hb5)
         have HB5:=hid (below_trans HB4.out hb5)
         obtain ⟨⟨r1,r2,r3,r4⟩,r5⟩:=B
         have HX:Hid ((((r1,r2,r3,r4),r5):HostN×Nat)=((r1,r2,r3,[p0,p1,p2,p3,p4,p5,p6,p7]),r5)):=by show _=_;have h:r4=[p0,p1,p2,p3,p4,p5,p6,p7]:=hp;rw [h]
         clear hb5 HG4 HB4 HP4 hp
         obtain ⟨⟨c0,c1,c2,c3,c4,c5,c6,c7,c8,c9,c10⟩,⟨f0,f1,f2,f3,f4,f5,f6,f7,f8,f9,f10⟩⟩:=cellsZ HG5.out
         have HFill:=hid (fillZ HG5.out HB5.out HGl.out HB5.out.size (.int .i64 r1) (.string (strOf r2)) (.int .u32 (r3:Int)) (.int .u16 (p0:Int)) (.int .u16 (p1:Int)) (.int .u16 (p2:Int)) (.int .u16 (p3:Int)) (.int .u16 (p4:Int)) (.int .u16 (p5:Int)) (.int .u16 (p6:Int)) (.int .u16 (p7:Int)))
         go_wp2_with fail
         generalize (((((((((((w5.setCell ⟨G,0,none⟩ (.int .i64 r1)).setCell ⟨G,1,none⟩ (.string (strOf r2))).setCell ⟨G,2,none⟩ (.int .u32 (r3:Int))).setCell ⟨G,3,none⟩ (.int .u16 (p0:Int))).setCell ⟨G,4,none⟩ (.int .u16 (p1:Int))).setCell ⟨G,5,none⟩ (.int .u16 (p2:Int))).setCell ⟨G,6,none⟩ (.int .u16 (p3:Int))).setCell ⟨G,7,none⟩ (.int .u16 (p4:Int))).setCell ⟨G,8,none⟩ (.int .u16 (p5:Int))).setCell ⟨G,9,none⟩ (.int .u16 (p6:Int))).setCell ⟨G,10,none⟩ (.int .u16 (p7:Int)))=W9 at *
         obtain ⟨⟨g0,g1,g2,g3,g4,g5,g6,g7,g8,g9,g10⟩,-⟩:=cellsH HFill.out.1
         have HBL:=hid HFill.out.2
         clear HFill c0 c1 c2 c3 c4 c5 c6 c7 c8 c9 c10 f0 f1 f2 f3 f4 f5 f6 f7 f8 f9 f10
         refine bodyPost_ret (by simp [results,Tryz.results54,go_sem,g0,g1,g2,g3,g4,g5,g6,g7,g8,g9,g10];try rfl) rfl ?_
         exact HPost.mk HX.out HBL.out
       | false =>
         have HX:Hid (B=((1,T.data.toList,0,z8),0)):=by show _=_;rw [HR2.out];exact name_own2 HNE.out HNo.out hend
         clear hend
         obtain ⟨⟨c0,c1,c2,c3,c4,c5,c6,c7,c8,c9,c10⟩,⟨f0,f1,f2,f3,f4,f5,f6,f7,f8,f9,f10⟩⟩:=cellsZ HG4.out
         have HFill:=hid (fillZ HG4.out HB4.out HGl.out HB4.out.size (.int .i64 1) (.string T) (.int .u32 0) (.int .u16 0) (.int .u16 0) (.int .u16 0) (.int .u16 0) (.int .u16 0) (.int .u16 0) (.int .u16 0) (.int .u16 0))
         go_wp2_with fail
         generalize (((((((((((w4.setCell ⟨G,0,none⟩ (.int .i64 1)).setCell ⟨G,1,none⟩ (.string T)).setCell ⟨G,2,none⟩ (.int .u32 0)).setCell ⟨G,3,none⟩ (.int .u16 0)).setCell ⟨G,4,none⟩ (.int .u16 0)).setCell ⟨G,5,none⟩ (.int .u16 0)).setCell ⟨G,6,none⟩ (.int .u16 0)).setCell ⟨G,7,none⟩ (.int .u16 0)).setCell ⟨G,8,none⟩ (.int .u16 0)).setCell ⟨G,9,none⟩ (.int .u16 0)).setCell ⟨G,10,none⟩ (.int .u16 0))=W9 at *
         obtain ⟨⟨g0,g1,g2,g3,g4,g5,g6,g7,g8,g9,g10⟩,-⟩:=cellsH HFill.out.1
         have HBL:=hid HFill.out.2
         clear HFill c0 c1 c2 c3 c4 c5 c6 c7 c8 c9 c10 f0 f1 f2 f3 f4 f5 f6 f7 f8 f9 f10
         refine bodyPost_ret (by simp [results,Tryz.results54,go_sem,g0,g1,g2,g3,g4,g5,g6,g7,g8,g9,g10];try rfl) rfl ?_
         exact HPost.mk (l:=T.data.toList) HX.out HBL.out
 ·have k1:((k:Int) != 0)=true:=by rw [bne_iff_ne];omega
  have HX:Hid (B=(host0,k)):=by show _=_;rw [HR.out,if_neg hk]
  clear hT253 hk
  obtain ⟨⟨c0,c1,c2,c3,c4,c5,c6,c7,c8,c9,c10⟩,⟨f0,f1,f2,f3,f4,f5,f6,f7,f8,f9,f10⟩⟩:=cellsZ HG1.out
  have HFill:=hid (fillZ HG1.out HB1.out HGl.out HB1.out.size (.int .i64 0) (.string ⟨#[]⟩) (.int .u32 0) (.int .u16 0) (.int .u16 0) (.int .u16 0) (.int .u16 0) (.int .u16 0) (.int .u16 0) (.int .u16 0) (.int .u16 0))
  go_wp2_with fail
  generalize (((((((((((w1.setCell ⟨G,0,none⟩ (.int .i64 0)).setCell ⟨G,1,none⟩ (.string ⟨#[]⟩)).setCell ⟨G,2,none⟩ (.int .u32 0)).setCell ⟨G,3,none⟩ (.int .u16 0)).setCell ⟨G,4,none⟩ (.int .u16 0)).setCell ⟨G,5,none⟩ (.int .u16 0)).setCell ⟨G,6,none⟩ (.int .u16 0)).setCell ⟨G,7,none⟩ (.int .u16 0)).setCell ⟨G,8,none⟩ (.int .u16 0)).setCell ⟨G,9,none⟩ (.int .u16 0)).setCell ⟨G,10,none⟩ (.int .u16 0))=W9 at *
  obtain ⟨⟨g0,g1,g2,g3,g4,g5,g6,g7,g8,g9,g10⟩,-⟩:=cellsH HFill.out.1
  have HBL:=hid HFill.out.2
  clear HFill c0 c1 c2 c3 c4 c5 c6 c7 c8 c9 c10 f0 f1 f2 f3 f4 f5 f6 f7 f8 f9 f10
  refine bodyPost_ret (by simp [results,Tryz.results54,go_sem,g0,g1,g2,g3,g4,g5,g6,g7,g8,g9,g10];try rfl) rfl ?_
  exact HPost.err HX.out HBL.out
theorem hdark_calls (s:ByteArray) (w:World) (hs:s.size≤100000) (T0:TabPc w):Calls Tryz.prog 55 #[.string s] w fun e w'=>HPost (darkR s.data.toList) w e w':=by
 by_cases h:s.size=0
 ·exact hdark_none s w hs h
 ·exact hdark_some s w hs h T0
theorem brack_tail {l:List UInt8} (h:l.head? = some 91):bracketR l=brackI (l.drop 1):=by
 match l,h with
 | c::r,h =>
   rw [List.head?_cons,Option.some.injEq] at h
   subst h
   exact brack_in r
theorem drop_size (s:ByteArray):(strOf (s.data.toList.drop 1)).size=s.size-1:=by
 show (s.data.toList.drop 1).length=_
 rw [List.length_drop,bytes_num]
theorem hparse_long (s:ByteArray) (w:World) (hs:s.size≤100000) (b:Bool) (h4:4000 < s.size):Calls Tryz.prog 38 #[.string s,.bool b] w fun e w'=>HPost (hostR s.data.toList b) w e w':=by
 have HS:=hid hs
 have HLN:=hid (bytes_num s)
 have HG0:=hid (zeroH_world w)
 have HB0:=hid ((Below.refl w.heap.size w).alloc (Nat.le_refl _) (.cells #[.int .i64 0,.string ⟨#[]⟩,.int .u32 0,.int .u16 0,.int .u16 0,.int .u16 0,.int .u16 0,.int .u16 0,.int .u16 0,.int .u16 0,.int .u16 0] 26))
 have HX:=hid (hostR_long (b:=b) (by rw [HLN.out];exact h4))
 have s1:(4000:Int) < (s.size:Int):=by omega
 clear h4 hs
 go_enter Tryz.func38,Tryz.ntmps38
 go_wp2_with fail
 go_returns
 exact HPost.err HX.out HB0.out
theorem hparse_in (s:ByteArray) (w:World) (hs:s.size≤100000) (b:Bool) (h4:¬4000 < s.size) (T0:TabR w):Calls Tryz.prog 38 #[.string s,.bool b] w fun e w'=>HPost (hostR s.data.toList b) w e w':=by
 have HS:=hid hs
 have HLN:=hid (bytes_num s)
 have HG0:=hid (zeroH_world w)
 have HB0:=hid ((Below.refl w.heap.size w).alloc (Nat.le_refl _) (.cells #[.int .i64 0,.string ⟨#[]⟩,.int .u32 0,.int .u16 0,.int .u16 0,.int .u16 0,.int .u16 0,.int .u16 0,.int .u16 0,.int .u16 0,.int .u16 0] 26))
 have TT:=hid T0
 have s1:¬(4000:Int) < (s.size:Int):=by omega
 have H4:=hid h4
 have HPre:=hid (fun w=>hpre_calls s w HS.out)
 obtain ⟨B,hB⟩:∃B,hostR s.data.toList b=B:=⟨_,rfl⟩
 rw [hB]
 have T1:Hid (TabR (w.alloc (.cells #[.int .i64 0,.string ⟨#[]⟩,.int .u32 0,.int .u16 0,.int .u16 0,.int .u16 0,.int .u16 0,.int .u16 0,.int .u16 0,.int .u16 0,.int .u16 0] 26))):=TT.out.below ((Below.refl _ _).alloc (Nat.le_refl _) _)
 cases hh:decide (s.data.toList.head? = some 91) with
 | true =>
   rw [hh] at HPre
   have hh':=of_decide_eq_true hh
   have hcut:=ext_drop s 1 (by rcases Nat.eq_zero_or_pos s.size with h | h;(have:=data_nil h;rw [this] at hh';cases hh');exact h)
   have s2:(1:Int)≤(s.size:Int):=by rcases Nat.eq_zero_or_pos s.size with h | h;(have:=data_nil h;rw [this] at hh';cases hh');omega
   have HCa:=hid (fun w t=>hbrack_calls (strOf (s.data.toList.drop 1)) w (by have:=drop_size s;have:=HS.out;omega) t)
   rw [str_data,← brack_tail hh',← hostR_brack (b:=b) (by rw [HLN.out];exact H4.out) hh',hB] at HCa
   have HCb:=hid (fun w t=>HCa.out w t)
   generalize strOf (s.data.toList.drop 1)=S1 at *
   clear hh hh' hB h4 hs T0
   go_enter Tryz.func38,Tryz.ntmps38
   go_wp2_with fail
   refine (HPre.out _).mono ?_
   rintro e w0 ⟨rfl,rfl⟩
   go_wp2_with fail
   have HCc:=hid (HCa.out _ T1.out.1)
   refine HCc.out.mono ?_
   rintro e w5 ⟨p0,p1,p2,p3,p4,p5,p6,p7,hp,rfl,hb5⟩
   unfold hostV
   have HG5:=hid (HG0.out.below hb5)
   have HB5:=hid (below_trans HB0.out hb5)
   obtain ⟨⟨r1,r2,r3,r4⟩,r5⟩:=B
   have HX:Hid ((((r1,r2,r3,r4),r5):HostN×Nat)=((r1,r2,r3,[p0,p1,p2,p3,p4,p5,p6,p7]),r5)):=by show _=_;have h:r4=[p0,p1,p2,p3,p4,p5,p6,p7]:=hp;rw [h]
   clear hb5 HCc hp HG0 HB0
   obtain ⟨G,hG⟩:∃G,w.heap.size=G:=⟨_,rfl⟩
   have HGl:Hid (w.heap.size≤G):=Nat.le_of_eq hG
   have hGp:(Value.pointer (some ⟨w.heap.size,0,none⟩))=Value.pointer (some ⟨G,0,none⟩):=by rw [hG]
   rw [hGp]
   rw [hG] at HG5
   clear hG hGp
   obtain ⟨⟨c0,c1,c2,c3,c4,c5,c6,c7,c8,c9,c10⟩,⟨f0,f1,f2,f3,f4,f5,f6,f7,f8,f9,f10⟩⟩:=cellsZ HG5.out
   have HFill:=hid (fillZ HG5.out HB5.out HGl.out HB5.out.size (.int .i64 r1) (.string (strOf r2)) (.int .u32 (r3:Int)) (.int .u16 (p0:Int)) (.int .u16 (p1:Int)) (.int .u16 (p2:Int)) (.int .u16 (p3:Int)) (.int .u16 (p4:Int)) (.int .u16 (p5:Int)) (.int .u16 (p6:Int)) (.int .u16 (p7:Int)))
   go_wp2_with fail
   generalize (((((((((((w5.setCell ⟨G,0,none⟩ (.int .i64 r1)).setCell ⟨G,1,none⟩ (.string (strOf r2))).setCell ⟨G,2,none⟩ (.int .u32 (r3:Int))).setCell ⟨G,3,none⟩ (.int .u16 (p0:Int))).setCell ⟨G,4,none⟩ (.int .u16 (p1:Int))).setCell ⟨G,5,none⟩ (.int .u16 (p2:Int))).setCell ⟨G,6,none⟩ (.int .u16 (p3:Int))).setCell ⟨G,7,none⟩ (.int .u16 (p4:Int))).setCell ⟨G,8,none⟩ (.int .u16 (p5:Int))).setCell ⟨G,9,none⟩ (.int .u16 (p6:Int))).setCell ⟨G,10,none⟩ (.int .u16 (p7:Int)))=W9 at *
   obtain ⟨⟨g0,g1,g2,g3,g4,g5,g6,g7,g8,g9,g10⟩,-⟩:=cellsH HFill.out.1
   have HBL:=hid HFill.out.2
   clear HFill c0 c1 c2 c3 c4 c5 c6 c7 c8 c9 c10 f0 f1 f2 f3 f4 f5 f6 f7 f8 f9 f10
   refine bodyPost_ret (by simp [results,Tryz.results38,go_sem,g0,g1,g2,g3,g4,g5,g6,g7,g8,g9,g10];try rfl) rfl ?_
   exact HPost.mk HX.out HBL.out
 | false =>
   rw [hh] at HPre
   have hh':=of_decide_eq_false hh
   cases b with
   | true =>
     have HCa:=hid (fun w t=>hspec_calls s w HS.out t)
     rw [← hostR_special (by rw [HLN.out];exact H4.out) hh',hB] at HCa
     have HCc:=hid (HCa.out _ T1.out)
     clear hh hh' hB h4 hs T0 HCa
     go_enter Tryz.func38,Tryz.ntmps38
     go_wp2_with fail
     refine (HPre.out _).mono ?_
     rintro e w0 ⟨rfl,rfl⟩
     go_wp2_with fail
     refine HCc.out.mono ?_
     rintro e w5 ⟨p0,p1,p2,p3,p4,p5,p6,p7,hp,rfl,hb5⟩
     unfold hostV
     have HG5:=hid (HG0.out.below hb5)
     have HB5:=hid (below_trans HB0.out hb5)
     obtain ⟨⟨r1,r2,r3,r4⟩,r5⟩:=B
     have HX:Hid ((((r1,r2,r3,r4),r5):HostN×Nat)=((r1,r2,r3,[p0,p1,p2,p3,p4,p5,p6,p7]),r5)):=by show _=_;have h:r4=[p0,p1,p2,p3,p4,p5,p6,p7]:=hp;rw [h]
     clear hb5 HCc hp HG0 HB0
     obtain ⟨G,hG⟩:∃G,w.heap.size=G:=⟨_,rfl⟩
     have HGl:Hid (w.heap.size≤G):=Nat.le_of_eq hG
     have hGp:(Value.pointer (some ⟨w.heap.size,0,none⟩))=Value.pointer (some ⟨G,0,none⟩):=by rw [hG]
     rw [hGp]
     rw [hG] at HG5
     clear hG hGp
     obtain ⟨⟨c0,c1,c2,c3,c4,c5,c6,c7,c8,c9,c10⟩,⟨f0,f1,f2,f3,f4,f5,f6,f7,f8,f9,f10⟩⟩:=cellsZ HG5.out
     have HFill:=hid (fillZ HG5.out HB5.out HGl.out HB5.out.size (.int .i64 r1) (.string (strOf r2)) (.int .u32 (r3:Int)) (.int .u16 (p0:Int)) (.int .u16 (p1:Int)) (.int .u16 (p2:Int)) (.int .u16 (p3:Int)) (.int .u16 (p4:Int)) (.int .u16 (p5:Int)) (.int .u16 (p6:Int)) (.int .u16 (p7:Int)))
     go_wp2_with fail
     generalize (((((((((((w5.setCell ⟨G,0,none⟩ (.int .i64 r1)).setCell ⟨G,1,none⟩ (.string (strOf r2))).setCell ⟨G,2,none⟩ (.int .u32 (r3:Int))).setCell ⟨G,3,none⟩ (.int .u16 (p0:Int))).setCell ⟨G,4,none⟩ (.int .u16 (p1:Int))).setCell ⟨G,5,none⟩ (.int .u16 (p2:Int))).setCell ⟨G,6,none⟩ (.int .u16 (p3:Int))).setCell ⟨G,7,none⟩ (.int .u16 (p4:Int))).setCell ⟨G,8,none⟩ (.int .u16 (p5:Int))).setCell ⟨G,9,none⟩ (.int .u16 (p6:Int))).setCell ⟨G,10,none⟩ (.int .u16 (p7:Int)))=W9 at *
     obtain ⟨⟨g0,g1,g2,g3,g4,g5,g6,g7,g8,g9,g10⟩,-⟩:=cellsH HFill.out.1
     have HBL:=hid HFill.out.2
     clear HFill c0 c1 c2 c3 c4 c5 c6 c7 c8 c9 c10 f0 f1 f2 f3 f4 f5 f6 f7 f8 f9 f10
     refine bodyPost_ret (by simp [results,Tryz.results38,go_sem,g0,g1,g2,g3,g4,g5,g6,g7,g8,g9,g10];try rfl) rfl ?_
     exact HPost.mk HX.out HBL.out
   | false =>
     have HCa:=hid (fun w t=>hdark_calls s w HS.out t)
     rw [← hostR_dark (by rw [HLN.out];exact H4.out) hh',hB] at HCa
     have HCc:=hid (HCa.out _ T1.out.2)
     clear hh hh' hB h4 hs T0 HCa
     go_enter Tryz.func38,Tryz.ntmps38
     go_wp2_with fail
     refine (HPre.out _).mono ?_
     rintro e w0 ⟨rfl,rfl⟩
     go_wp2_with fail
     refine HCc.out.mono ?_
     rintro e w5 ⟨p0,p1,p2,p3,p4,p5,p6,p7,hp,rfl,hb5⟩
     unfold hostV
     have HG5:=hid (HG0.out.below hb5)
     have HB5:=hid (below_trans HB0.out hb5)
     obtain ⟨⟨r1,r2,r3,r4⟩,r5⟩:=B
     have HX:Hid ((((r1,r2,r3,r4),r5):HostN×Nat)=((r1,r2,r3,[p0,p1,p2,p3,p4,p5,p6,p7]),r5)):=by show _=_;have h:r4=[p0,p1,p2,p3,p4,p5,p6,p7]:=hp;rw [h]
     clear hb5 HCc hp HG0 HB0
     obtain ⟨G,hG⟩:∃G,w.heap.size=G:=⟨_,rfl⟩
     have HGl:Hid (w.heap.size≤G):=Nat.le_of_eq hG
     have hGp:(Value.pointer (some ⟨w.heap.size,0,none⟩))=Value.pointer (some ⟨G,0,none⟩):=by rw [hG]
     rw [hGp]
     rw [hG] at HG5
     clear hG hGp
     obtain ⟨⟨c0,c1,c2,c3,c4,c5,c6,c7,c8,c9,c10⟩,⟨f0,f1,f2,f3,f4,f5,f6,f7,f8,f9,f10⟩⟩:=cellsZ HG5.out
     have HFill:=hid (fillZ HG5.out HB5.out HGl.out HB5.out.size (.int .i64 r1) (.string (strOf r2)) (.int .u32 (r3:Int)) (.int .u16 (p0:Int)) (.int .u16 (p1:Int)) (.int .u16 (p2:Int)) (.int .u16 (p3:Int)) (.int .u16 (p4:Int)) (.int .u16 (p5:Int)) (.int .u16 (p6:Int)) (.int .u16 (p7:Int)))
     go_wp2_with fail
     generalize (((((((((((w5.setCell ⟨G,0,none⟩ (.int .i64 r1)).setCell ⟨G,1,none⟩ (.string (strOf r2))).setCell ⟨G,2,none⟩ (.int .u32 (r3:Int))).setCell ⟨G,3,none⟩ (.int .u16 (p0:Int))).setCell ⟨G,4,none⟩ (.int .u16 (p1:Int))).setCell ⟨G,5,none⟩ (.int .u16 (p2:Int))).setCell ⟨G,6,none⟩ (.int .u16 (p3:Int))).setCell ⟨G,7,none⟩ (.int .u16 (p4:Int))).setCell ⟨G,8,none⟩ (.int .u16 (p5:Int))).setCell ⟨G,9,none⟩ (.int .u16 (p6:Int))).setCell ⟨G,10,none⟩ (.int .u16 (p7:Int)))=W9 at *
     obtain ⟨⟨g0,g1,g2,g3,g4,g5,g6,g7,g8,g9,g10⟩,-⟩:=cellsH HFill.out.1
     have HBL:=hid HFill.out.2
     clear HFill c0 c1 c2 c3 c4 c5 c6 c7 c8 c9 c10 f0 f1 f2 f3 f4 f5 f6 f7 f8 f9 f10
     refine bodyPost_ret (by simp [results,Tryz.results38,go_sem,g0,g1,g2,g3,g4,g5,g6,g7,g8,g9,g10];try rfl) rfl ?_
     exact HPost.mk HX.out HBL.out
theorem hparse_calls (s:ByteArray) (b:Bool) (w:World) (hs:s.size≤100000) (T0:TabR w):Calls Tryz.prog 38 #[.string s,.bool b] w fun e w'=>HPost (hostR s.data.toList b) w e w':=by
 by_cases h4:4000 < s.size
 ·exact hparse_long s w hs b h4
 ·exact hparse_in s w hs b h4 T0
theorem wrap_brack (X:List UInt8):(⟨#[91]⟩++strOf X)++⟨#[93]⟩=strOf (91::(X++[93])):=by
 apply ByteArray.ext
 rw [ByteArray.data_append,ByteArray.data_append]
 apply Array.toList_inj.1
 rw [Array.toList_append,Array.toList_append]
 rfl
theorem ballH (w:World) (o:Obj):Below w.heap.size w (w.alloc o):=(Below.refl _ _).alloc (Nat.le_refl _) _
theorem print_name {k:Int} {l:List UInt8} {n:Nat} {p:List Nat} (h:k=1∨k=4):printR (k,l,n,p)=l:=if_pos h
theorem print_four {l:List UInt8} {n:Nat} {p:List Nat}:printR (2,l,n,p)=print4R n:=by unfold printR;rw [if_neg (by simp),if_pos rfl]
theorem print_six {l:List UInt8} {n:Nat} {p:List Nat}:printR (3,l,n,p)=91::(print6R p++[93]):=by unfold printR;rw [if_neg (by simp),if_neg (by simp),if_pos rfl]
theorem print_none {k:Int} {l:List UInt8} {n:Nat} {p:List Nat} (h1:k≠1) (h2:k≠2) (h3:k≠3) (h4:k≠4):printR (k,l,n,p)=[]:=by unfold printR;rw [if_neg (by simp [h1,h4]),if_neg h2,if_neg h3]
theorem hprint_calls (k:Int) (s:ByteArray) (n p0 p1 p2 p3 p4 p5 p6 p7:Nat) (w:World) (hn:n < 4294967296) (hx:∀x∈[p0,p1,p2,p3,p4,p5,p6,p7],x < 65536) (hs:s.size≤100000) (T0:TabH w) :
 Calls Tryz.prog 33 #[hostV k s n p0 p1 p2 p3 p4 p5 p6 p7] w fun e w'=>e=.returned (.string (strOf (printR (k,s.data.toList,n,[p0,p1,p2,p3,p4,p5,p6,p7]))))∧Below w.heap.size w w':=by
 have H4:=hid (fun w t=>ipr4_calls n w hn t)
 have H6:=hid (fun w t=>ipr6_calls p0 p1 p2 p3 p4 p5 p6 p7 w hx t)
 have HC:=hid (fun w=>hclone_calls s w hs)
 have TT:=hid T0
 have hw:=wrap_brack (print6R [p0,p1,p2,p3,p4,p5,p6,p7])
 have hl:((strOf (print6R [p0,p1,p2,p3,p4,p5,p6,p7])).size:Int)≤82:=by have:=print6_len rfl hx;show ((print6R [p0,p1,p2,p3,p4,p5,p6,p7]).length:Int)≤82;omega
 unfold hostV
 unfold agg8 at H6
 generalize strOf (print6R [p0,p1,p2,p3,p4,p5,p6,p7])=S6 at *
 clear T0
 by_cases h1:k=1∨k=4
 ·have HX:Hid (printR (k,s.data.toList,n,[p0,p1,p2,p3,p4,p5,p6,p7])=s.data.toList):=print_name h1
  rcases h1 with rfl | rfl
  ·go_enter Tryz.func33,Tryz.ntmps33
   go_wp2_with fail
   refine (HC.out _).mono ?_
   rintro e w1 ⟨rfl,hb1⟩
   go_wp2_with fail
   go_ret
   exact ⟨by rw [HX.out];rfl,below_trans (ballH _ _) hb1⟩
  ·go_enter Tryz.func33,Tryz.ntmps33
   go_wp2_with fail
   refine (HC.out _).mono ?_
   rintro e w1 ⟨rfl,hb1⟩
   go_wp2_with fail
   go_ret
   exact ⟨by rw [HX.out];rfl,below_trans (ballH _ _) hb1⟩
 ·by_cases h2:k=2
  ·subst h2
   go_enter Tryz.func33,Tryz.ntmps33
   go_wp2_with fail
   refine (H4.out _ (TT.out.below (ballH _ _)).1).mono ?_
   rintro e w1 ⟨rfl,hb1⟩
   go_wp2_with fail
   go_ret
   exact ⟨by rw [print_four];rfl,below_trans (ballH _ _) hb1⟩
  ·by_cases h3:k=3
   ·subst h3
    go_enter Tryz.func33,Tryz.ntmps33
    go_wp2_with fail
    refine (H6.out _ (TT.out.below (ballH _ _)).1).mono ?_
    rintro e w1 ⟨rfl,hb1⟩
    go_wp2_with fail
    go_ret
    exact ⟨by rw [print_six,← hw];rfl,below_trans (ballH _ _) hb1⟩
   ·rw [not_or] at h1
    have HX:Hid (printR (k,s.data.toList,n,[p0,p1,p2,p3,p4,p5,p6,p7])=[]):=print_none h1.1 h2 h3 h1.2
    have e1:((k:Int)==1)=false:=beq_eq_false_iff_ne.2 h1.1
    have e2:((k:Int)==2)=false:=beq_eq_false_iff_ne.2 h2
    have e3:((k:Int)==3)=false:=beq_eq_false_iff_ne.2 h3
    have e4:((k:Int)==4)=false:=beq_eq_false_iff_ne.2 h1.2
    clear h1 h2 h3
    go_enter Tryz.func33,Tryz.ntmps33
    go_wp2_with fail
    go_ret
    exact ⟨by rw [HX.out];rfl,ballH _ _⟩
end Go.Proofs.YtigfgloenjoeoaaGreatDoor
