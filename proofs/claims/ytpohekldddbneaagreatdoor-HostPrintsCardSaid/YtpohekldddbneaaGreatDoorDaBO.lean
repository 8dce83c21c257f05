import Derived.Test.YtpohekldddbneaaGreatDoorDaBN
import Derived.Lib.ConvBytes
import Derived.Test.YtpohekldddbneaaGreatDoorDaBA
set_option linter.unusedVariables false
set_option linter.unusedSimpArgs false
set_option maxRecDepth 20000
set_option maxHeartbeats 16000000
namespace Go.Proofs.YtpohekldddbneaaGreatDoor
open Go.RowKit
theorem str_row (w:World) (s:ByteArray) (hs:s.size≤100000):BRow (Lib.bytesWorld w 5 s) (.slice (some ⟨w.heap.size,0,none⟩) s.size (grownCap w s.size 0 5)) s.data.toList:=by
 have hn:=bytes_num s
 refine ⟨_,_,by rw [hn],by rw [hn];exact grownCap_ge w s.size 0 5,grownCap_le_maxLen w s.size 0 5 (by unfold maxLen;omega),fun _=>⟨w.heap.size,0,rfl,by rw [Lib.bytesWorld_size];omega,fun j hj=>?_⟩⟩
 rw [hn] at hj
 rw [Nat.zero_add,Lib.bytesWorld_cell w 5 s j (by omega)]
 congr 2
 show ((s.data.toList.getD j 0).toNat:Int)=_
 rw [List.getD_eq_getElem?_getD,List.getElem?_eq_getElem (by rw [hn];exact hj)]
 rfl
theorem str_world (w:World) (s:ByteArray):Below w.heap.size w (Lib.bytesWorld w 5 s) :=
 ⟨rfl,rfl,rfl,by rw [Lib.bytesWorld_size];omega,fun k hk=>Lib.bytesWorld_at_old w _ _ k hk⟩
theorem dark_bad {l:List UInt8} (h:l.any badB=true):darkR l=(host0,4):=if_pos h
theorem dark_some {l:List UInt8} (h:l.any badB=false) (h0:l≠[]):darkR l=((4,pctR 1 l,0,z8),0):=by unfold darkR;rw [h,if_neg (by decide),if_neg h0]
theorem phost_empty (s:ByteArray) (w:World) (hs:s.size≤100000) (h4:¬4000 < s.size) (h0:s.size=0):Calls Tryz.prog 10 #[.string s,.bool false] w fun e w'=>HPost (hostR s.data.toList false) w e w':=by
 have HS:=hid hs
 have HLN:=hid (bytes_num s)
 have HG0:=hid (zeroH_world w)
 have HB0:=hid ((Below.refl w.heap.size w).alloc (Nat.le_refl _) (.cells #[.int .i64 0,.string ⟨#[]⟩,.int .u32 0,.int .u16 0,.int .u16 0,.int .u16 0,.int .u16 0,.int .u16 0,.int .u16 0,.int .u16 0,.int .u16 0] 27))
 have s0:(s.size:Int)=0:=by omega
 have e0:=empty_yes h0
 have hl:s.data.toList=[]:=data_nil h0
 have HR:=hid (hostR_dark (l:=s.data.toList) (by rw [HLN.out];omega) (by rw [hl];decide))
 have HDN:Hid (darkR s.data.toList=(host0,0)):=by show _=_;rw [hl];rfl
 have HAny:Hid (s.data.toList.any badB=false):=by show _=_;rw [hl];rfl
 clear hl
 have HBad:=hid (fun w=>bad_calls w)
 have HAm:=hid (fun w=>among_calls s badS w HS.out (by decide))
 rw [among_bad,HAny.out] at HAm
 clear hs h4 h0
 go_enter Tryz.func10,Tryz.ntmps10
 go_wp2_with fail
 refine (HBad.out _).mono ?_
 rintro e wz ⟨rfl,rfl⟩
 go_wp2_with fail
 refine (HAm.out _).mono ?_
 rintro e w1 ⟨rfl,hb1⟩
 have HG1:=hid (HG0.out.below hb1)
 have HB1:=hid (below_trans HB0.out hb1)
 clear hb1
 obtain ⟨G,hG⟩:∃G,w.heap.size=G:=⟨_,rfl⟩
 have HGl:Hid (w.heap.size≤G):=Nat.le_of_eq hG
 have hGp:(Value.pointer (some ⟨w.heap.size,0,none⟩))=Value.pointer (some ⟨G,0,none⟩):=by rw [hG]
 rw [hGp]
 rw [hG] at HG1
 clear hG hGp
 obtain ⟨⟨c0,c1,c2,c3,c4,c5,c6,c7,c8,c9,c10⟩,⟨f0,f1,f2,f3,f4,f5,f6,f7,f8,f9,f10⟩⟩:=cellsZ HG1.out
 have HFill:=hid (fillZ HG1.out HB1.out HGl.out HB1.out.size (.int .i64 0) (.string ⟨#[]⟩) (.int .u32 0) (.int .u16 0) (.int .u16 0) (.int .u16 0) (.int .u16 0) (.int .u16 0) (.int .u16 0) (.int .u16 0) (.int .u16 0))
 go_wp2_with fail
 generalize (((((((((((w1.setCell ⟨G,0,none⟩ (.int .i64 0)).setCell ⟨G,1,none⟩ (.string ⟨#[]⟩)).setCell ⟨G,2,none⟩ (.int .u32 0)).setCell ⟨G,3,none⟩ (.int .u16 0)).setCell ⟨G,4,none⟩ (.int .u16 0)).setCell ⟨G,5,none⟩ (.int .u16 0)).setCell ⟨G,6,none⟩ (.int .u16 0)).setCell ⟨G,7,none⟩ (.int .u16 0)).setCell ⟨G,8,none⟩ (.int .u16 0)).setCell ⟨G,9,none⟩ (.int .u16 0)).setCell ⟨G,10,none⟩ (.int .u16 0))=W9 at *
 obtain ⟨⟨g0,g1,g2,g3,g4,g5,g6,g7,g8,g9,g10⟩,-⟩:=cellsH HFill.out.1
 have HBL:=hid HFill.out.2
 clear HFill c0 c1 c2 c3 c4 c5 c6 c7 c8 c9 c10 f0 f1 f2 f3 f4 f5 f6 f7 f8 f9 f10
 refine bodyPost_ret (by simp [results,Tryz.results10,go_sem,g0,g1,g2,g3,g4,g5,g6,g7,g8,g9,g10];try rfl) rfl ?_
 exact HPost.err (HR.out.trans HDN.out) HBL.out
theorem phost_dark (s:ByteArray) (w:World) (hs:s.size≤100000) (h4:¬4000 < s.size) (hp:0 < s.size) (h91:(s[0]'hp).toNat≠91):Calls Tryz.prog 10 #[.string s,.bool false] w fun e w'=>HPost (hostR s.data.toList false) w e w':=by
 have HS:=hid hs
 have HLN:=hid (bytes_num s)
 have HG0:=hid (zeroH_world w)
 have HB0:=hid ((Below.refl w.heap.size w).alloc (Nat.le_refl _) (.cells #[.int .i64 0,.string ⟨#[]⟩,.int .u32 0,.int .u16 0,.int .u16 0,.int .u16 0,.int .u16 0,.int .u16 0,.int .u16 0,.int .u16 0,.int .u16 0] 27))
 have s1:¬(4000:Int) < (s.size:Int):=by omega
 have p0:(0:Int) < (s.size:Int):=by omega
 have h0:s.size≠0:=by omega
 obtain ⟨e0,e1⟩:=empty_no h0
 have hne:=data_ne h0
 obtain ⟨z,hz⟩:∃z,(s[0]'hp).toNat=z:=⟨_,rfl⟩
 rw [hz] at h91
 have z0:(0:Int)≤(z:Int):=by omega
 have q1:((z:Int)==91)=false:=bN (by omega)
 have HR:=hid (hostR_dark (l:=s.data.toList) (by rw [HLN.out];exact h4) (by rw [head_at hp];intro e;exact h91 (by rw [← hz,Option.some.inj e];rfl)))
 have HD1:=hid (fun h=>dark_bad (l:=s.data.toList) h)
 have HD2:=hid (fun h=>dark_some (l:=s.data.toList) h hne)
 have HLL:Hid (s.data.toList.length≤100000):=by show _≤_;rw [HLN.out];exact hs
 have HSR:=hid (fun w=>str_row w s HS.out)
 clear h0 hne h91
 have HBad:=hid (fun w=>bad_calls w)
 have HAm:=hid (fun w=>among_calls s badS w HS.out (by decide))
 rw [among_bad] at HAm
 clear hs h4
 go_enter Tryz.func10,Tryz.ntmps10
 go_wp2_with fail
 refine (HBad.out _).mono ?_
 rintro e wz ⟨rfl,rfl⟩
 go_wp2_with fail
 refine (HAm.out _).mono ?_
 rintro e w1 ⟨rfl,hb1⟩
 have HG1:=hid (HG0.out.below hb1)
 have HB1:=hid (below_trans HB0.out hb1)
 clear hb1
 obtain ⟨G,hG⟩:∃G,w.heap.size=G:=⟨_,rfl⟩
 have HGl:Hid (w.heap.size≤G):=Nat.le_of_eq hG
 have hGp:(Value.pointer (some ⟨w.heap.size,0,none⟩))=Value.pointer (some ⟨G,0,none⟩):=by rw [hG]
 rw [hGp]
 rw [hG] at HG1
 clear hG hGp
 cases hany:s.data.toList.any badB with
 | true =>
   have HX:=hid (HR.out.trans (HD1.out hany))
   clear hany HD1 HD2
   obtain ⟨⟨c0,c1,c2,c3,c4,c5,c6,c7,c8,c9,c10⟩,⟨f0,f1,f2,f3,f4,f5,f6,f7,f8,f9,f10⟩⟩:=cellsZ HG1.out
   have HFill:=hid (fillZ HG1.out HB1.out HGl.out HB1.out.size (.int .i64 0) (.string ⟨#[]⟩) (.int .u32 0) (.int .u16 0) (.int .u16 0) (.int .u16 0) (.int .u16 0) (.int .u16 0) (.int .u16 0) (.int .u16 0) (.int .u16 0))
   go_wp2_with fail
   generalize (((((((((((w1.setCell ⟨G,0,none⟩ (.int .i64 0)).setCell ⟨G,1,none⟩ (.string ⟨#[]⟩)).setCell ⟨G,2,none⟩ (.int .u32 0)).setCell ⟨G,3,none⟩ (.int .u16 0)).setCell ⟨G,4,none⟩ (.int .u16 0)).setCell ⟨G,5,none⟩ (.int .u16 0)).setCell ⟨G,6,none⟩ (.int .u16 0)).setCell ⟨G,7,none⟩ (.int .u16 0)).setCell ⟨G,8,none⟩ (.int .u16 0)).setCell ⟨G,9,none⟩ (.int .u16 0)).setCell ⟨G,10,none⟩ (.int .u16 0))=W9 at *
   obtain ⟨⟨g0,g1,g2,g3,g4,g5,g6,g7,g8,g9,g10⟩,-⟩:=cellsH HFill.out.1
   have HBL:=hid HFill.out.2
   clear HFill c0 c1 c2 c3 c4 c5 c6 c7 c8 c9 c10 f0 f1 f2 f3 f4 f5 f6 f7 f8 f9 f10
   refine bodyPost_ret (by simp [results,Tryz.results10,go_sem,g0,g1,g2,g3,g4,g5,g6,g7,g8,g9,g10];try rfl) rfl ?_
   exact HPost.err HX.out HBL.out
 | false =>
   have HX:=hid (HR.out.trans (HD2.out hany))
   clear hany HD1 HD2
   have hcv:=Lib.run_convert_string_bytes (P:=Tryz.prog) w1 9 45 5 s Tryz.underlying9 Tryz.underlying45 Tryz.underlying5
   have HRow:=hid (HSR.out w1)
   have HSW:=hid (str_world w1 s)
   have HG2:=hid (HG1.out.below HSW.out)
   have HB2:=hid (below_trans HB1.out HSW.out)
   generalize Lib.bytesWorld w1 5 s=wb at *
   generalize grownCap w1 s.size 0 5=cap at *
   generalize w1.heap.size=N1 at *
   have HPc:=hid (fun W v h=>percent_calls 1 v s.data.toList W h HLL.out)
   generalize pctR 1 s.data.toList=PL at *
   go_wp2_with fail
   refine (HPc.out _ _ HRow.out).mono ?_
   rintro e w2 ⟨rfl,hb2⟩
   have HG3:=hid (HG2.out.below hb2)
   have HB3:=hid (below_trans HB2.out hb2)
   clear hb2 HG2 HB2 hcv
   obtain ⟨⟨c0,c1,c2,c3,c4,c5,c6,c7,c8,c9,c10⟩,⟨f0,f1,f2,f3,f4,f5,f6,f7,f8,f9,f10⟩⟩:=cellsZ HG3.out
   have HFill:=hid (fillZ HG3.out HB3.out HGl.out HB3.out.size (.int .i64 4) (.string (strOf PL)) (.int .u32 0) (.int .u16 0) (.int .u16 0) (.int .u16 0) (.int .u16 0) (.int .u16 0) (.int .u16 0) (.int .u16 0) (.int .u16 0))
   go_wp2_with fail
   generalize (((((((((((w2.setCell ⟨G,0,none⟩ (.int .i64 4)).setCell ⟨G,1,none⟩ (.string (strOf PL))).setCell ⟨G,2,none⟩ (.int .u32 0)).setCell ⟨G,3,none⟩ (.int .u16 0)).setCell ⟨G,4,none⟩ (.int .u16 0)).setCell ⟨G,5,none⟩ (.int .u16 0)).setCell ⟨G,6,none⟩ (.int .u16 0)).setCell ⟨G,7,none⟩ (.int .u16 0)).setCell ⟨G,8,none⟩ (.int .u16 0)).setCell ⟨G,9,none⟩ (.int .u16 0)).setCell ⟨G,10,none⟩ (.int .u16 0))=W9 at *
   obtain ⟨⟨g0,g1,g2,g3,g4,g5,g6,g7,g8,g9,g10⟩,-⟩:=cellsH HFill.out.1
   have HBL:=hid HFill.out.2
   clear HFill c0 c1 c2 c3 c4 c5 c6 c7 c8 c9 c10 f0 f1 f2 f3 f4 f5 f6 f7 f8 f9 f10
   refine bodyPost_ret (by simp [results,Tryz.results10,go_sem,g0,g1,g2,g3,g4,g5,g6,g7,g8,g9,g10];try rfl) rfl ?_
   exact HPost.mk HX.out HBL.out
theorem asked_pair (l:List UInt8):∃(T:ByteArray) (k:Nat),askedR l=(T,(k:Int))∧(k=0→T.size≤253):=by
 have hp:=ascR_pos (lossyL (unR l))
 refine ⟨(askedR l).1,(askedR l).2.toNat,?_,fun h=>?_⟩
 ·apply Prod.ext
  ·rfl
  ·show (askedR l).2=_
   unfold askedR at *
   omega
 ·have e:ascR (lossyL (unR l))=((askedR l).1,0):=by
   apply Prod.ext
   ·rfl
   ·show (ascR (lossyL (unR l))).2=0
    unfold askedR at h
    omega
  obtain ⟨ps,_,_,_,hsz⟩:=asc_inv e
  exact hsz
theorem special_pair {l:List UInt8} {T:ByteArray} {k:Nat} (h:askedR l=(T,(k:Int))):specialR l=if k=0 then nameR T.data.toList else (host0,k):=by
 unfold specialR
 rw [h]
 by_cases hk:k=0
 ·subst hk;rfl
 ·rw [if_neg (by show¬(k:Int)=0;omega),if_neg hk]
  rfl
theorem name_none:nameR []=(host0,6):=if_pos rfl
theorem name_low {t:List UInt8} (h0:t≠[]) (h:t.any lowB=true):nameR t=(host0,4):=by
 unfold nameR
 rw [if_neg h0,h,Bool.true_or,if_pos rfl]
theorem name_bad {t:List UInt8} (h0:t≠[]) (h:t.any badB=true):nameR t=(host0,4):=by
 unfold nameR
 rw [if_neg h0,h,Bool.or_true,if_pos rfl]
theorem name_end {t:List UInt8} (h0:t≠[]) (h1:t.any lowB=false) (h2:t.any badB=false) (h3:endsR t=true):nameR t=fourH (parse4R t):=by
 unfold nameR
 rw [if_neg h0,h1,h2,if_neg (by decide),if_pos h3]
theorem name_own {t:List UInt8} (h0:t≠[]) (h1:t.any lowB=false) (h2:t.any badB=false) (h3:endsR t=false):nameR t=((1,t,0,z8),0):=by
 unfold nameR
 rw [if_neg h0,h1,h2,if_neg (by decide),if_neg (by rw [h3];decide)]
theorem low_take {t:List UInt8} {i:Nat} (hi:i < t.length) (h:(t.take i).any lowB=false) (hn:lowB t[i]=false):(t.take (i+1)).any lowB=false:=by
 rw [List.take_succ_eq_append_getElem hi,List.any_append,h,Bool.false_or,List.any_cons,List.any_nil,Bool.or_false,hn]
theorem low_hit {t:List UInt8} {i:Nat} (hi:i < t.length) (hn:lowB t[i]=true):t.any lowB=true:=by
 rw [List.any_eq_true]
 exact ⟨t[i],List.getElem_mem hi,hn⟩
theorem lowB_val (c:UInt8) (z:Nat) (h:c.toNat=z):lowB c=(decide (z < 32)||z==37||z==127):=by unfold lowB;rw [h]
theorem phost_sempty (s:ByteArray) (w:World) (hs:s.size≤100000) (h4:¬4000 < s.size) (h0:s.size=0):Calls Tryz.prog 10 #[.string s,.bool true] w fun e w'=>HPost (hostR s.data.toList true) w e w':=by
 have HS:=hid hs
 have HLN:=hid (bytes_num s)
 have HG0:=hid (zeroH_world w)
 have HB0:=hid ((Below.refl w.heap.size w).alloc (Nat.le_refl _) (.cells #[.int .i64 0,.string ⟨#[]⟩,.int .u32 0,.int .u16 0,.int .u16 0,.int .u16 0,.int .u16 0,.int .u16 0,.int .u16 0,.int .u16 0,.int .u16 0] 27))
 have s0:(s.size:Int)=0:=by omega
 have e0:=empty_yes h0
 have hl:s.data.toList=[]:=data_nil h0
 have HR:=hid (hostR_special (l:=s.data.toList) (by rw [HLN.out];omega) (by rw [hl];decide))
 clear hl
 obtain ⟨T,k,hT,hT253⟩:=asked_pair s.data.toList
 rw [special_pair hT] at HR
 have HU:=hid (fun w=>unpercent_calls s w HS.out)
 have HLL:Hid ((unR s.data.toList).length≤100000):=by show _≤_;have:=unR_len _ s.data.toList (Nat.le_refl _);have:=HLN.out;have:=HS.out;omega
 have HLo:=hid (fun v w h=>rlossy_calls v (unR s.data.toList) w h HLL.out)
 have HAs:=hid (fun v w h=>rascii_name_calls v (lossyL (unR s.data.toList)) w h)
 have hT1:(ascR (lossyL (unR s.data.toList))).1=T:=congrArg Prod.fst hT
 have hT2:(ascR (lossyL (unR s.data.toList))).2=(k:Int):=congrArg Prod.snd hT
 rw [hT1,hT2] at HAs
 clear hT hT1 hT2 hs h4 h0
 go_enter Tryz.func10,Tryz.ntmps10
 go_wp2_with fail
 refine (HU.out _).mono ?_
 rintro e wa ⟨⟨v1,rfl,hv1⟩,hb1⟩
 go_wp2_with fail
 refine (HLo.out _ _ hv1).mono ?_
 rintro e wb ⟨⟨v2,rfl,hv2⟩,hb2⟩
 go_wp2_with fail
 refine (HAs.out _ _ hv2.row).mono ?_
 rintro e w1 ⟨rfl,hb3⟩
 have HG1:=hid (((HG0.out.below hb1).below hb2).below hb3)
 have HB1:=hid (below_trans (below_trans (below_trans HB0.out hb1) hb2) hb3)
 clear hb1 hb2 hb3 hv1 hv2 HU HLo HAs HG0 HB0
 obtain ⟨G,hG⟩:∃G,w.heap.size=G:=⟨_,rfl⟩
 have HGl:Hid (w.heap.size≤G):=Nat.le_of_eq hG
 have hGp:(Value.pointer (some ⟨w.heap.size,0,none⟩))=Value.pointer (some ⟨G,0,none⟩):=by rw [hG]
 rw [hGp]
 rw [hG] at HG1
 clear hG hGp
 by_cases hk:k=0
 ·have k1:((k:Int) != 0)=false:=by rw [hk];rfl
  have T3:T.size≤253:=hT253 hk
  have HR2:Hid (hostR s.data.toList true=nameR T.data.toList):=by show _=_;rw [HR.out,if_pos hk]
  have HTL:=hid (bytes_num T)
  clear hT253 hk
  by_cases hT0:T.size=0
  ·have e0:=empty_yes hT0
   have HX:Hid (hostR s.data.toList true=(host0,6)):=by show _=_;rw [HR2.out,data_nil hT0];exact name_none
   clear hT0 T3
   obtain ⟨⟨c0,c1,c2,c3,c4,c5,c6,c7,c8,c9,c10⟩,⟨f0,f1,f2,f3,f4,f5,f6,f7,f8,f9,f10⟩⟩:=cellsZ HG1.out
   have HFill:=hid (fillZ HG1.out HB1.out HGl.out HB1.out.size (.int .i64 0) (.string ⟨#[]⟩) (.int .u32 0) (.int .u16 0) (.int .u16 0) (.int .u16 0) (.int .u16 0) (.int .u16 0) (.int .u16 0) (.int .u16 0) (.int .u16 0))
   go_wp2_with fail
   generalize (((((((((((w1.setCell ⟨G,0,none⟩ (.int .i64 0)).setCell ⟨G,1,none⟩ (.string ⟨#[]⟩)).setCell ⟨G,2,none⟩ (.int .u32 0)).setCell ⟨G,3,none⟩ (.int .u16 0)).setCell ⟨G,4,none⟩ (.int .u16 0)).setCell ⟨G,5,none⟩ (.int .u16 0)).setCell ⟨G,6,none⟩ (.int .u16 0)).setCell ⟨G,7,none⟩ (.int .u16 0)).setCell ⟨G,8,none⟩ (.int .u16 0)).setCell ⟨G,9,none⟩ (.int .u16 0)).setCell ⟨G,10,none⟩ (.int .u16 0))=W9 at *
   obtain ⟨⟨g0,g1,g2,g3,g4,g5,g6,g7,g8,g9,g10⟩,-⟩:=cellsH HFill.out.1
   have HBL:=hid HFill.out.2
   clear HFill c0 c1 c2 c3 c4 c5 c6 c7 c8 c9 c10 f0 f1 f2 f3 f4 f5 f6 f7 f8 f9 f10
   refine bodyPost_ret (by simp [results,Tryz.results10,go_sem,g0,g1,g2,g3,g4,g5,g6,g7,g8,g9,g10];try rfl) rfl ?_
   exact HPost.err HX.out HBL.out
  ·obtain ⟨e0,e1⟩:=empty_no hT0
   have HNE:=hid (data_ne hT0)
   have HBad:=hid (fun w=>bad_calls w)
   have HAm:=hid (fun w=>among_calls T badS w (by omega) (by decide))
   rw [among_bad] at HAm
   have HEn:=hid (fun w=>ends_calls T w (by omega))
   have HP4:=hid (fun w=>parse4_calls T w (by omega))
   unfold P4Post at HP4
   have T4:(T.size:Int)≤253:=by omega
   clear hT0 T3
   go_wp2_with fail
   go_loopw [10] (fun vi wr=>∃i:Nat,i≤T.size∧vi=.int .i64 (i:Int)∧BkH wr G zeroH∧Below w.heap.size w wr∧(T.data.toList.take i).any lowB=false) (fun vi _=>T.size-(intOf vi).toNat)
   case atStart=>exact ⟨0,Nat.zero_le _,rfl,HG1.out,HB1.out,by rw [List.take_zero];rfl⟩
   case round =>
    obtain ⟨i,hi,rfl,hg,hb,hno⟩:=hrel
    have HG:=hid hg
    have HB:=hid hb
    have HNo:=hid hno
    have i0:(0:Int)≤(i:Int):=by omega
    clear hg hb hno HG1 HB1
    by_cases hlt:i < T.size
    ·have i1:(i:Int) < (T.size:Int):=by omega
     have HI:=hid hlt
     have hlt2:i < T.data.toList.length:=by rw [HTL.out];exact hlt
     obtain ⟨z,hz⟩:∃z,(T[i]'hlt).toNat=z:=⟨_,rfl⟩
     have hlv:=lowB_val T.data.toList[i] z hz
     have z0:(0:Int)≤(z:Int):=by omega
     have HStep:=hid (fun h=>low_take hlt2 HNo.out h)
     have HHit:=hid (fun h=>low_hit hlt2 h)
     cases hlow:(decide (z < 32)||z==37||z==127) with
     | true =>
       have HX:Hid (hostR s.data.toList true=(host0,4)):=by show _=_;rw [HR2.out];exact name_low HNE.out (HHit.out (hlv.trans hlow))
       clear hlv HStep HHit HNo hlt2 hi
       obtain ⟨⟨c0,c1,c2,c3,c4,c5,c6,c7,c8,c9,c10⟩,⟨f0,f1,f2,f3,f4,f5,f6,f7,f8,f9,f10⟩⟩:=cellsZ HG.out
       have HFill:=hid (fillZ HG.out HB.out HGl.out HB.out.size (.int .i64 0) (.string ⟨#[]⟩) (.int .u32 0) (.int .u16 0) (.int .u16 0) (.int .u16 0) (.int .u16 0) (.int .u16 0) (.int .u16 0) (.int .u16 0) (.int .u16 0))
       by_cases g1:z < 32
       ·have n1:(z:Int) < 32:=by omega
        clear g1 hlow
        go_wp2_with fail
        generalize (((((((((((wr.setCell ⟨G,0,none⟩ (.int .i64 0)).setCell ⟨G,1,none⟩ (.string ⟨#[]⟩)).setCell ⟨G,2,none⟩ (.int .u32 0)).setCell ⟨G,3,none⟩ (.int .u16 0)).setCell ⟨G,4,none⟩ (.int .u16 0)).setCell ⟨G,5,none⟩ (.int .u16 0)).setCell ⟨G,6,none⟩ (.int .u16 0)).setCell ⟨G,7,none⟩ (.int .u16 0)).setCell ⟨G,8,none⟩ (.int .u16 0)).setCell ⟨G,9,none⟩ (.int .u16 0)).setCell ⟨G,10,none⟩ (.int .u16 0))=W9 at *
        obtain ⟨⟨g0,g1,g2,g3,g4,g5,g6,g7,g8,g9,g10⟩,-⟩:=cellsH HFill.out.1
        have HBL:=hid HFill.out.2
        clear HFill c0 c1 c2 c3 c4 c5 c6 c7 c8 c9 c10 f0 f1 f2 f3 f4 f5 f6 f7 f8 f9 f10
        refine bodyPost_ret (by simp [results,Tryz.results10,go_sem,g0,g1,g2,g3,g4,g5,g6,g7,g8,g9,g10];try rfl) rfl ?_
        exact HPost.err HX.out HBL.out
       ·have n1:¬(z:Int) < 32:=by omega
        by_cases g2:z=37
        ·have n2:((z:Int)==37)=true:=by rw [g2];rfl
         clear g1 g2 hlow
         go_wp2_with fail
         generalize (((((((((((wr.setCell ⟨G,0,none⟩ (.int .i64 0)).setCell ⟨G,1,none⟩ (.string ⟨#[]⟩)).setCell ⟨G,2,none⟩ (.int .u32 0)).setCell ⟨G,3,none⟩ (.int .u16 0)).setCell ⟨G,4,none⟩ (.int .u16 0)).setCell ⟨G,5,none⟩ (.int .u16 0)).setCell ⟨G,6,none⟩ (.int .u16 0)).setCell ⟨G,7,none⟩ (.int .u16 0)).setCell ⟨G,8,none⟩ (.int .u16 0)).setCell ⟨G,9,none⟩ (.int .u16 0)).setCell ⟨G,10,none⟩ (.int .u16 0))=W9 at *
         obtain ⟨⟨g0,g1,g2,g3,g4,g5,g6,g7,g8,g9,g10⟩,-⟩:=cellsH HFill.out.1
         have HBL:=hid HFill.out.2
         clear HFill c0 c1 c2 c3 c4 c5 c6 c7 c8 c9 c10 f0 f1 f2 f3 f4 f5 f6 f7 f8 f9 f10
         refine bodyPost_ret (by simp [results,Tryz.results10,go_sem,g0,g1,g2,g3,g4,g5,g6,g7,g8,g9,g10];try rfl) rfl ?_
         exact HPost.err HX.out HBL.out
        ·have n2:((z:Int)==37)=false:=bN (by omega)
         have g3:z=127:=by
          rw [decide_eq_false g1,beq_eq_false_iff_ne.2 g2,Bool.false_or,Bool.false_or] at hlow
          exact beq_iff_eq.1 hlow
         have n3:((z:Int)==127)=true:=by rw [g3];rfl
         clear g1 g2 g3 hlow
         go_wp2_with fail
         generalize (((((((((((wr.setCell ⟨G,0,none⟩ (.int .i64 0)).setCell ⟨G,1,none⟩ (.string ⟨#[]⟩)).setCell ⟨G,2,none⟩ (.int .u32 0)).setCell ⟨G,3,none⟩ (.int .u16 0)).setCell ⟨G,4,none⟩ (.int .u16 0)).setCell ⟨G,5,none⟩ (.int .u16 0)).setCell ⟨G,6,none⟩ (.int .u16 0)).setCell ⟨G,7,none⟩ (.int .u16 0)).setCell ⟨G,8,none⟩ (.int .u16 0)).setCell ⟨G,9,none⟩ (.int .u16 0)).setCell ⟨G,10,none⟩ (.int .u16 0))=W9 at *
         obtain ⟨⟨g0,g1,g2,g3,g4,g5,g6,g7,g8,g9,g10⟩,-⟩:=cellsH HFill.out.1
         have HBL:=hid HFill.out.2
         clear HFill c0 c1 c2 c3 c4 c5 c6 c7 c8 c9 c10 f0 f1 f2 f3 f4 f5 f6 f7 f8 f9 f10
         refine bodyPost_ret (by simp [results,Tryz.results10,go_sem,g0,g1,g2,g3,g4,g5,g6,g7,g8,g9,g10];try rfl) rfl ?_
         exact HPost.err HX.out HBL.out
     | false =>
       have HN2:=hid (HStep.out (hlv.trans hlow))
       rw [Bool.or_eq_false_iff,Bool.or_eq_false_iff,decide_eq_false_iff_not,beq_eq_false_iff_ne,beq_eq_false_iff_ne] at hlow
       have n1:¬(z:Int) < 32:=by omega
       have n2:((z:Int)==37)=false:=bN (by omega)
       have n3:((z:Int)==127)=false:=bN (by omega)
       clear hlow hlv HStep HHit HNo hlt2 hi
       go_wp2_with fail
       go_roundw
       case rel=>exact ⟨i+1,HI.out,by go_num,HG.out,HB.out,HN2.out⟩
       case measure=>have:=HI.out;simp [intOf];omega
    ·have i1:¬(i:Int) < (T.size:Int):=by omega
     have HNL:Hid (T.data.toList.any lowB=false):=by
      show _=_
      have h:=HNo.out
      rw [List.take_of_length_le (by rw [HTL.out];omega)] at h
      exact h
     clear hlt hi HNo
     go_wp2_with fail
     refine (HBad.out _).mono ?_
     rintro e wz ⟨rfl,rfl⟩
     go_wp2_with fail
     refine (HAm.out _).mono ?_
     rintro e w2 ⟨rfl,hb2⟩
     have HG2:=hid (HG.out.below hb2)
     have HB2:=hid (below_trans HB.out hb2)
     clear hb2 HG HB HBad HAm
     cases hany:T.data.toList.any badB with
     | true =>
       have HX:Hid (hostR s.data.toList true=(host0,4)):=by show _=_;rw [HR2.out];exact name_bad HNE.out hany
       clear hany
       obtain ⟨⟨c0,c1,c2,c3,c4,c5,c6,c7,c8,c9,c10⟩,⟨f0,f1,f2,f3,f4,f5,f6,f7,f8,f9,f10⟩⟩:=cellsZ HG2.out
       have HFill:=hid (fillZ HG2.out HB2.out HGl.out HB2.out.size (.int .i64 0) (.string ⟨#[]⟩) (.int .u32 0) (.int .u16 0) (.int .u16 0) (.int .u16 0) (.int .u16 0) (.int .u16 0) (.int .u16 0) (.int .u16 0) (.int .u16 0))
       go_wp2_with fail
       generalize (((((((((((w2.setCell ⟨G,0,none⟩ (.int .i64 0)).setCell ⟨G,1,none⟩ (.string ⟨#[]⟩)).setCell ⟨G,2,none⟩ (.int .u32 0)).setCell ⟨G,3,none⟩ (.int .u16 0)).setCell ⟨G,4,none⟩ (.int .u16 0)).setCell ⟨G,5,none⟩ (.int .u16 0)).setCell ⟨G,6,none⟩ (.int .u16 0)).setCell ⟨G,7,none⟩ (.int .u16 0)).setCell ⟨G,8,none⟩ (.int .u16 0)).setCell ⟨G,9,none⟩ (.int .u16 0)).setCell ⟨G,10,none⟩ (.int .u16 0))=W9 at *
       obtain ⟨⟨g0,g1,g2,g3,g4,g5,g6,g7,g8,g9,g10⟩,-⟩:=cellsH HFill.out.1
       have HBL:=hid HFill.out.2
       clear HFill c0 c1 c2 c3 c4 c5 c6 c7 c8 c9 c10 f0 f1 f2 f3 f4 f5 f6 f7 f8 f9 f10
       refine bodyPost_ret (by simp [results,Tryz.results10,go_sem,g0,g1,g2,g3,g4,g5,g6,g7,g8,g9,g10];try rfl) rfl ?_
       exact HPost.err HX.out HBL.out
     | false =>
       have HAny:=hid hany
       clear hany
       go_wp2_with fail
       refine (HEn.out _).mono ?_
       rintro e w3 ⟨rfl,hb3⟩
       have HG3:=hid (HG2.out.below hb3)
       have HB3:=hid (below_trans HB2.out hb3)
       clear hb3 HG2 HB2 HEn
       cases hend:endsR T.data.toList with
       | true =>
         have HX0:Hid (hostR s.data.toList true=fourH (parse4R T.data.toList)):=by show _=_;rw [HR2.out];exact name_end HNE.out HNL.out HAny.out hend
         clear hend
         go_wp2_with fail
         refine (HP4.out _).mono ?_
         generalize parse4R T.data.toList=pr at *
         obtain ⟨n,m⟩:=pr
         rintro e w4 ⟨rfl,hb4⟩
         have HG4:=hid (HG3.out.below hb4)
         have HB4:=hid (below_trans HB3.out hb4)
         clear hb4 HG3 HB3 HP4
         obtain ⟨⟨c0,c1,c2,c3,c4,c5,c6,c7,c8,c9,c10⟩,⟨f0,f1,f2,f3,f4,f5,f6,f7,f8,f9,f10⟩⟩:=cellsZ HG4.out
         by_cases hm:m=0
         ·have HX:Hid (hostR s.data.toList true=((2,[],n,z8),0)):=by show _=_;rw [HX0.out];unfold fourH;rw [if_pos hm]
          have m1:((m:Int) != 0)=false:=by rw [hm];rfl
          have HM:=hid hm
          clear hm
          have HFill:=hid (fillZ HG4.out HB4.out HGl.out HB4.out.size (.int .i64 2) (.string ⟨#[]⟩) (.int .u32 (n:Int)) (.int .u16 0) (.int .u16 0) (.int .u16 0) (.int .u16 0) (.int .u16 0) (.int .u16 0) (.int .u16 0) (.int .u16 0))
          go_wp2_with fail
          generalize (((((((((((w4.setCell ⟨G,0,none⟩ (.int .i64 2)).setCell ⟨G,1,none⟩ (.string ⟨#[]⟩)).setCell ⟨G,2,none⟩ (.int .u32 (n:Int))).setCell ⟨G,3,none⟩ (.int .u16 0)).setCell ⟨G,4,none⟩ (.int .u16 0)).setCell ⟨G,5,none⟩ (.int .u16 0)).setCell ⟨G,6,none⟩ (.int .u16 0)).setCell ⟨G,7,none⟩ (.int .u16 0)).setCell ⟨G,8,none⟩ (.int .u16 0)).setCell ⟨G,9,none⟩ (.int .u16 0)).setCell ⟨G,10,none⟩ (.int .u16 0))=W9 at *
          obtain ⟨⟨g0,g1,g2,g3,g4,g5,g6,g7,g8,g9,g10⟩,-⟩:=cellsH HFill.out.1
          have HBL:=hid HFill.out.2
          clear HFill c0 c1 c2 c3 c4 c5 c6 c7 c8 c9 c10 f0 f1 f2 f3 f4 f5 f6 f7 f8 f9 f10
          refine bodyPost_ret (by simp [results,Tryz.results10,go_sem,g0,g1,g2,g3,g4,g5,g6,g7,g8,g9,g10];try rfl) rfl ?_
          rw [HM.out]
          exact HPost.mk HX.out HBL.out
         ·have HX:Hid (hostR s.data.toList true=(host0,m)):=by show _=_;rw [HX0.out];unfold fourH;rw [if_neg hm]
          have m1:((m:Int) != 0)=true:=by rw [bne_iff_ne];omega
          clear hm
          have HFill:=hid (fillZ HG4.out HB4.out HGl.out HB4.out.size (.int .i64 0) (.string ⟨#[]⟩) (.int .u32 0) (.int .u16 0) (.int .u16 0) (.int .u16 0) (.int .u16 0) (.int .u16 0) (.int .u16 0) (.int .u16 0) (.int .u16 0))
          go_wp2_with fail
          generalize (((((((((((w4.setCell ⟨G,0,none⟩ (.int .i64 0)).setCell ⟨G,1,none⟩ (.string ⟨#[]⟩)).setCell ⟨G,2,none⟩ (.int .u32 0)).setCell ⟨G,3,none⟩ (.int .u16 0)).setCell ⟨G,4,none⟩ (.int .u16 0)).setCell ⟨G,5,none⟩ (.int .u16 0)).setCell ⟨G,6,none⟩ (.int .u16 0)).setCell ⟨G,7,none⟩ (.int .u16 0)).setCell ⟨G,8,none⟩ (.int .u16 0)).setCell ⟨G,9,none⟩ (.int .u16 0)).setCell ⟨G,10,none⟩ (.int .u16 0))=W9 at *
          obtain ⟨⟨g0,g1,g2,g3,g4,g5,g6,g7,g8,g9,g10⟩,-⟩:=cellsH HFill.out.1
          have HBL:=hid HFill.out.2
          clear HFill c0 c1 c2 c3 c4 c5 c6 c7 c8 c9 c10 f0 f1 f2 f3 f4 f5 f6 f7 f8 f9 f10
          refine bodyPost_ret (by simp [results,Tryz.results10,go_sem,g0,g1,g2,g3,g4,g5,g6,g7,g8,g9,g10];try rfl) rfl ?_
          exact HPost.err HX.out HBL.out
       | false =>
         have HX:Hid (hostR s.data.toList true=((1,T.data.toList,0,z8),0)):=by show _=_;rw [HR2.out];exact name_own HNE.out HNL.out HAny.out hend
         clear hend
         obtain ⟨⟨c0,c1,c2,c3,c4,c5,c6,c7,c8,c9,c10⟩,⟨f0,f1,f2,f3,f4,f5,f6,f7,f8,f9,f10⟩⟩:=cellsZ HG3.out
         have HFill:=hid (fillZ HG3.out HB3.out HGl.out HB3.out.size (.int .i64 1) (.string T) (.int .u32 0) (.int .u16 0) (.int .u16 0) (.int .u16 0) (.int .u16 0) (.int .u16 0) (.int .u16 0) (.int .u16 0) (.int .u16 0))
         go_wp2_with fail
         generalize (((((((((((w3.setCell ⟨G,0,none⟩ (.int .i64 1)).setCell ⟨G,1,none⟩ (.string T)).setCell ⟨G,2,none⟩ (.int .u32 0)).setCell ⟨G,3,none⟩ (.int .u16 0)).setCell ⟨G,4,none⟩ (.int .u16 0)).setCell ⟨G,5,none⟩ (.int .u16 0)).setCell ⟨G,6,none⟩ (.int .u16 0)).setCell ⟨G,7,none⟩ (.int .u16 0)).setCell ⟨G,8,none⟩ (.int .u16 0)).setCell ⟨G,9,none⟩ (.int .u16 0)).setCell ⟨G,10,none⟩ (.int .u16 0))=W9 at *
         obtain ⟨⟨g0,g1,g2,g3,g4,g5,g6,g7,g8,g9,g10⟩,-⟩:=cellsH HFill.out.1
         have HBL:=hid HFill.out.2
         clear HFill c0 c1 c2 c3 c4 c5 c6 c7 c8 c9 c10 f0 f1 f2 f3 f4 f5 f6 f7 f8 f9 f10
         refine bodyPost_ret (by simp [results,Tryz.results10,go_sem,g0,g1,g2,g3,g4,g5,g6,g7,g8,g9,g10];try rfl) rfl ?_
         exact HPost.mk (l:=T.data.toList) HX.out HBL.out
 ·have k1:((k:Int) != 0)=true:=by rw [bne_iff_ne];omega
  have HX:Hid (hostR s.data.toList true=(host0,k)):=by show _=_;rw [HR.out,if_neg hk]
  clear hT253 hk
  obtain ⟨⟨c0,c1,c2,c3,c4,c5,c6,c7,c8,c9,c10⟩,⟨f0,f1,f2,f3,f4,f5,f6,f7,f8,f9,f10⟩⟩:=cellsZ HG1.out
  have HFill:=hid (fillZ HG1.out HB1.out HGl.out HB1.out.size (.int .i64 0) (.string ⟨#[]⟩) (.int .u32 0) (.int .u16 0) (.int .u16 0) (.int .u16 0) (.int .u16 0) (.int .u16 0) (.int .u16 0) (.int .u16 0) (.int .u16 0))
  go_wp2_with fail
  generalize (((((((((((w1.setCell ⟨G,0,none⟩ (.int .i64 0)).setCell ⟨G,1,none⟩ (.string ⟨#[]⟩)).setCell ⟨G,2,none⟩ (.int .u32 0)).setCell ⟨G,3,none⟩ (.int .u16 0)).setCell ⟨G,4,none⟩ (.int .u16 0)).setCell ⟨G,5,none⟩ (.int .u16 0)).setCell ⟨G,6,none⟩ (.int .u16 0)).setCell ⟨G,7,none⟩ (.int .u16 0)).setCell ⟨G,8,none⟩ (.int .u16 0)).setCell ⟨G,9,none⟩ (.int .u16 0)).setCell ⟨G,10,none⟩ (.int .u16 0))=W9 at *
  obtain ⟨⟨g0,g1,g2,g3,g4,g5,g6,g7,g8,g9,g10⟩,-⟩:=cellsH HFill.out.1
  have HBL:=hid HFill.out.2
  clear HFill c0 c1 c2 c3 c4 c5 c6 c7 c8 c9 c10 f0 f1 f2 f3 f4 f5 f6 f7 f8 f9 f10
  refine bodyPost_ret (by simp [results,Tryz.results10,go_sem,g0,g1,g2,g3,g4,g5,g6,g7,g8,g9,g10];try rfl) rfl ?_
  exact HPost.err HX.out HBL.out
theorem phost_special (s:ByteArray) (w:World) (hs:s.size≤100000) (h4:¬4000 < s.size) (hp:0 < s.size) (h91:(s[0]'hp).toNat≠91):Calls Tryz.prog 10 #[.string s,.bool true] w fun e w'=>HPost (hostR s.data.toList true) w e w':=by
 have HS:=hid hs
 have HLN:=hid (bytes_num s)
 have HG0:=hid (zeroH_world w)
 have HB0:=hid ((Below.refl w.heap.size w).alloc (Nat.le_refl _) (.cells #[.int .i64 0,.string ⟨#[]⟩,.int .u32 0,.int .u16 0,.int .u16 0,.int .u16 0,.int .u16 0,.int .u16 0,.int .u16 0,.int .u16 0,.int .u16 0] 27))
 have s1:¬(4000:Int) < (s.size:Int):=by omega
 have p0:(0:Int) < (s.size:Int):=by omega
 obtain ⟨z,hz⟩:∃z,(s[0]'hp).toNat=z:=⟨_,rfl⟩
 rw [hz] at h91
 have z0:(0:Int)≤(z:Int):=by omega
 have q1:((z:Int)==91)=false:=bN (by omega)
 have HR:=hid (hostR_special (l:=s.data.toList) (by rw [HLN.out];exact h4) (by rw [head_at hp];intro e;exact h91 (by rw [← hz,Option.some.inj e];rfl)))
 clear h91
 obtain ⟨T,k,hT,hT253⟩:=asked_pair s.data.toList
 rw [special_pair hT] at HR
 have HU:=hid (fun w=>unpercent_calls s w HS.out)
 have HLL:Hid ((unR s.data.toList).length≤100000):=by show _≤_;have:=unR_len _ s.data.toList (Nat.le_refl _);have:=HLN.out;have:=HS.out;omega
 have HLo:=hid (fun v w h=>rlossy_calls v (unR s.data.toList) w h HLL.out)
 have HAs:=hid (fun v w h=>rascii_name_calls v (lossyL (unR s.data.toList)) w h)
 have hT1:(ascR (lossyL (unR s.data.toList))).1=T:=congrArg Prod.fst hT
 have hT2:(ascR (lossyL (unR s.data.toList))).2=(k:Int):=congrArg Prod.snd hT
 rw [hT1,hT2] at HAs
 clear hT hT1 hT2 hs h4
 go_enter Tryz.func10,Tryz.ntmps10
 go_wp2_with fail
 refine (HU.out _).mono ?_
 rintro e wa ⟨⟨v1,rfl,hv1⟩,hb1⟩
 go_wp2_with fail
 refine (HLo.out _ _ hv1).mono ?_
 rintro e wb ⟨⟨v2,rfl,hv2⟩,hb2⟩
 go_wp2_with fail
 refine (HAs.out _ _ hv2.row).mono ?_
 rintro e w1 ⟨rfl,hb3⟩
 have HG1:=hid (((HG0.out.below hb1).below hb2).below hb3)
 have HB1:=hid (below_trans (below_trans (below_trans HB0.out hb1) hb2) hb3)
 clear hb1 hb2 hb3 hv1 hv2 HU HLo HAs HG0 HB0
 obtain ⟨G,hG⟩:∃G,w.heap.size=G:=⟨_,rfl⟩
 have HGl:Hid (w.heap.size≤G):=Nat.le_of_eq hG
 have hGp:(Value.pointer (some ⟨w.heap.size,0,none⟩))=Value.pointer (some ⟨G,0,none⟩):=by rw [hG]
 rw [hGp]
 rw [hG] at HG1
 clear hG hGp
 by_cases hk:k=0
 ·have k1:((k:Int) != 0)=false:=by rw [hk];rfl
  have T3:T.size≤253:=hT253 hk
  have HR2:Hid (hostR s.data.toList true=nameR T.data.toList):=by show _=_;rw [HR.out,if_pos hk]
  have HTL:=hid (bytes_num T)
  clear hT253 hk
  by_cases hT0:T.size=0
  ·have e0:=empty_yes hT0
   have HX:Hid (hostR s.data.toList true=(host0,6)):=by show _=_;rw [HR2.out,data_nil hT0];exact name_none
   clear hT0 T3
   obtain ⟨⟨c0,c1,c2,c3,c4,c5,c6,c7,c8,c9,c10⟩,⟨f0,f1,f2,f3,f4,f5,f6,f7,f8,f9,f10⟩⟩:=cellsZ HG1.out
   have HFill:=hid (fillZ HG1.out HB1.out HGl.out HB1.out.size (.int .i64 0) (.string ⟨#[]⟩) (.int .u32 0) (.int .u16 0) (.int .u16 0) (.int .u16 0) (.int .u16 0) (.int .u16 0) (.int .u16 0) (.int .u16 0) (.int .u16 0))
   go_wp2_with fail
   generalize (((((((((((w1.setCell ⟨G,0,none⟩ (.int .i64 0)).setCell ⟨G,1,none⟩ (.string ⟨#[]⟩)).setCell ⟨G,2,none⟩ (.int .u32 0)).setCell ⟨G,3,none⟩ (.int .u16 0)).setCell ⟨G,4,none⟩ (.int .u16 0)).setCell ⟨G,5,none⟩ (.int .u16 0)).setCell ⟨G,6,none⟩ (.int .u16 0)).setCell ⟨G,7,none⟩ (.int .u16 0)).setCell ⟨G,8,none⟩ (.int .u16 0)).setCell ⟨G,9,none⟩ (.int .u16 0)).setCell ⟨G,10,none⟩ (.int .u16 0))=W9 at *
   obtain ⟨⟨g0,g1,g2,g3,g4,g5,g6,g7,g8,g9,g10⟩,-⟩:=cellsH HFill.out.1
   have HBL:=hid HFill.out.2
   clear HFill c0 c1 c2 c3 c4 c5 c6 c7 c8 c9 c10 f0 f1 f2 f3 f4 f5 f6 f7 f8 f9 f10
   refine bodyPost_ret (by simp [results,Tryz.results10,go_sem,g0,g1,g2,g3,g4,g5,g6,g7,g8,g9,g10];try rfl) rfl ?_
   exact HPost.err HX.out HBL.out
  ·obtain ⟨e0,e1⟩:=empty_no hT0
   have HNE:=hid (data_ne hT0)
   have HBad:=hid (fun w=>bad_calls w)
   have HAm:=hid (fun w=>among_calls T badS w (by omega) (by decide))
   rw [among_bad] at HAm
   have HEn:=hid (fun w=>ends_calls T w (by omega))
   have HP4:=hid (fun w=>parse4_calls T w (by omega))
   unfold P4Post at HP4
   have T4:(T.size:Int)≤253:=by omega
   clear hT0 T3
   go_wp2_with fail
   go_loopw [10] (fun vi wr=>∃i:Nat,i≤T.size∧vi=.int .i64 (i:Int)∧BkH wr G zeroH∧Below w.heap.size w wr∧(T.data.toList.take i).any lowB=false) (fun vi _=>T.size-(intOf vi).toNat)
   case atStart=>exact ⟨0,Nat.zero_le _,rfl,HG1.out,HB1.out,by rw [List.take_zero];rfl⟩
   case round =>
    obtain ⟨i,hi,rfl,hg,hb,hno⟩:=hrel
    have HG:=hid hg
    have HB:=hid hb
    have HNo:=hid hno
    have i0:(0:Int)≤(i:Int):=by omega
    clear hg hb hno HG1 HB1
    by_cases hlt:i < T.size
    ·have i1:(i:Int) < (T.size:Int):=by omega
     have HI:=hid hlt
     have hlt2:i < T.data.toList.length:=by rw [HTL.out];exact hlt
     obtain ⟨z,hz⟩:∃z,(T[i]'hlt).toNat=z:=⟨_,rfl⟩
     have hlv:=lowB_val T.data.toList[i] z hz
     have z0:(0:Int)≤(z:Int):=by omega
     have HStep:=hid (fun h=>low_take hlt2 HNo.out h)
     have HHit:=hid (fun h=>low_hit hlt2 h)
     cases hlow:(decide (z < 32)||z==37||z==127) with
     | true =>
       have HX:Hid (hostR s.data.toList true=(host0,4)):=by show _=_;rw [HR2.out];exact name_low HNE.out (HHit.out (hlv.trans hlow))
       clear hlv HStep HHit HNo hlt2 hi
       obtain ⟨⟨c0,c1,c2,c3,c4,c5,c6,c7,c8,c9,c10⟩,⟨f0,f1,f2,f3,f4,f5,f6,f7,f8,f9,f10⟩⟩:=cellsZ HG.out
       have HFill:=hid (fillZ HG.out HB.out HGl.out HB.out.size (.int .i64 0) (.string ⟨#[]⟩) (.int .u32 0) (.int .u16 0) (.int .u16 0) (.int .u16 0) (.int .u16 0) (.int .u16 0) (.int .u16 0) (.int .u16 0) (.int .u16 0))
       by_cases g1:z < 32
       ·have n1:(z:Int) < 32:=by omega
        clear g1 hlow
        go_wp2_with fail
        generalize (((((((((((wr.setCell ⟨G,0,none⟩ (.int .i64 0)).setCell ⟨G,1,none⟩ (.string ⟨#[]⟩)).setCell ⟨G,2,none⟩ (.int .u32 0)).setCell ⟨G,3,none⟩ (.int .u16 0)).setCell ⟨G,4,none⟩ (.int .u16 0)).setCell ⟨G,5,none⟩ (.int .u16 0)).setCell ⟨G,6,none⟩ (.int .u16 0)).setCell ⟨G,7,none⟩ (.int .u16 0)).setCell ⟨G,8,none⟩ (.int .u16 0)).setCell ⟨G,9,none⟩ (.int .u16 0)).setCell ⟨G,10,none⟩ (.int .u16 0))=W9 at *
        obtain ⟨⟨g0,g1,g2,g3,g4,g5,g6,g7,g8,g9,g10⟩,-⟩:=cellsH HFill.out.1
        have HBL:=hid HFill.out.2
        clear HFill c0 c1 c2 c3 c4 c5 c6 c7 c8 c9 c10 f0 f1 f2 f3 f4 f5 f6 f7 f8 f9 f10
        refine bodyPost_ret (by simp [results,Tryz.results10,go_sem,g0,g1,g2,g3,g4,g5,g6,g7,g8,g9,g10];try rfl) rfl ?_
        exact HPost.err HX.out HBL.out
       ·have n1:¬(z:Int) < 32:=by omega
        by_cases g2:z=37
        ·have n2:((z:Int)==37)=true:=by rw [g2];rfl
         clear g1 g2 hlow
         go_wp2_with fail
         generalize (((((((((((wr.setCell ⟨G,0,none⟩ (.int .i64 0)).setCell ⟨G,1,none⟩ (.string ⟨#[]⟩)).setCell ⟨G,2,none⟩ (.int .u32 0)).setCell ⟨G,3,none⟩ (.int .u16 0)).setCell ⟨G,4,none⟩ (.int .u16 0)).setCell ⟨G,5,none⟩ (.int .u16 0)).setCell ⟨G,6,none⟩ (.int .u16 0)).setCell ⟨G,7,none⟩ (.int .u16 0)).setCell ⟨G,8,none⟩ (.int .u16 0)).setCell ⟨G,9,none⟩ (.int .u16 0)).setCell ⟨G,10,none⟩ (.int .u16 0))=W9 at *
         obtain ⟨⟨g0,g1,g2,g3,g4,g5,g6,g7,g8,g9,g10⟩,-⟩:=cellsH HFill.out.1
         have HBL:=hid HFill.out.2
         clear HFill c0 c1 c2 c3 c4 c5 c6 c7 c8 c9 c10 f0 f1 f2 f3 f4 f5 f6 f7 f8 f9 f10
         refine bodyPost_ret (by simp [results,Tryz.results10,go_sem,g0,g1,g2,g3,g4,g5,g6,g7,g8,g9,g10];try rfl) rfl ?_
         exact HPost.err HX.out HBL.out
        ·have n2:((z:Int)==37)=false:=bN (by omega)
         have g3:z=127:=by
          rw [decide_eq_false g1,beq_eq_false_iff_ne.2 g2,Bool.false_or,Bool.false_or] at hlow
          exact beq_iff_eq.1 hlow
         have n3:((z:Int)==127)=true:=by rw [g3];rfl
         clear g1 g2 g3 hlow
         go_wp2_with fail
         generalize (((((((((((wr.setCell ⟨G,0,none⟩ (.int .i64 0)).setCell ⟨G,1,none⟩ (.string ⟨#[]⟩)).setCell ⟨G,2,none⟩ (.int .u32 0)).setCell ⟨G,3,none⟩ (.int .u16 0)).setCell ⟨G,4,none⟩ (.int .u16 0)).setCell ⟨G,5,none⟩ (.int .u16 0)).setCell ⟨G,6,none⟩ (.int .u16 0)).setCell ⟨G,7,none⟩ (.int .u16 0)).setCell ⟨G,8,none⟩ (.int .u16 0)).setCell ⟨G,9,none⟩ (.int .u16 0)).setCell ⟨G,10,none⟩ (.int .u16 0))=W9 at *
         obtain ⟨⟨g0,g1,g2,g3,g4,g5,g6,g7,g8,g9,g10⟩,-⟩:=cellsH HFill.out.1
         have HBL:=hid HFill.out.2
         clear HFill c0 c1 c2 c3 c4 c5 c6 c7 c8 c9 c10 f0 f1 f2 f3 f4 f5 f6 f7 f8 f9 f10
         refine bodyPost_ret (by simp [results,Tryz.results10,go_sem,g0,g1,g2,g3,g4,g5,g6,g7,g8,g9,g10];try rfl) rfl ?_
         exact HPost.err HX.out HBL.out
     | false =>
       have HN2:=hid (HStep.out (hlv.trans hlow))
       rw [Bool.or_eq_false_iff,Bool.or_eq_false_iff,decide_eq_false_iff_not,beq_eq_false_iff_ne,beq_eq_false_iff_ne] at hlow
       have n1:¬(z:Int) < 32:=by omega
       have n2:((z:Int)==37)=false:=bN (by omega)
       have n3:((z:Int)==127)=false:=bN (by omega)
       clear hlow hlv HStep HHit HNo hlt2 hi
       go_wp2_with fail
       go_roundw
       case rel=>exact ⟨i+1,HI.out,by go_num,HG.out,HB.out,HN2.out⟩
       case measure=>have:=HI.out;simp [intOf];omega
    ·have i1:¬(i:Int) < (T.size:Int):=by omega
     have HNL:Hid (T.data.toList.any lowB=false):=by
      show _=_
      have h:=HNo.out
      rw [List.take_of_length_le (by rw [HTL.out];omega)] at h
      exact h
     clear hlt hi HNo
     go_wp2_with fail
     refine (HBad.out _).mono ?_
     rintro e wz ⟨rfl,rfl⟩
     go_wp2_with fail
     refine (HAm.out _).mono ?_
     rintro e w2 ⟨rfl,hb2⟩
     have HG2:=hid (HG.out.below hb2)
     have HB2:=hid (below_trans HB.out hb2)
     clear hb2 HG HB HBad HAm
     cases hany:T.data.toList.any badB with
     | true =>
       have HX:Hid (hostR s.data.toList true=(host0,4)):=by show _=_;rw [HR2.out];exact name_bad HNE.out hany
       clear hany
       obtain ⟨⟨c0,c1,c2,c3,c4,c5,c6,c7,c8,c9,c10⟩,⟨f0,f1,f2,f3,f4,f5,f6,f7,f8,f9,f10⟩⟩:=cellsZ HG2.out
       have HFill:=hid (fillZ HG2.out HB2.out HGl.out HB2.out.size (.int .i64 0) (.string ⟨#[]⟩) (.int .u32 0) (.int .u16 0) (.int .u16 0) (.int .u16 0) (.int .u16 0) (.int .u16 0) (.int .u16 0) (.int .u16 0) (.int .u16 0))
       go_wp2_with fail
       generalize (((((((((((w2.setCell ⟨G,0,none⟩ (.int .i64 0)).setCell ⟨G,1,none⟩ (.string ⟨#[]⟩)).setCell ⟨G,2,none⟩ (.int .u32 0)).setCell ⟨G,3,none⟩ (.int .u16 0)).setCell ⟨G,4,none⟩ (.int .u16 0)).setCell ⟨G,5,none⟩ (.int .u16 0)).setCell ⟨G,6,none⟩ (.int .u16 0)).setCell ⟨G,7,none⟩ (.int .u16 0)).setCell ⟨G,8,none⟩ (.int .u16 0)).setCell ⟨G,9,none⟩ (.int .u16 0)).setCell ⟨G,10,none⟩ (.int .u16 0))=W9 at *
       obtain ⟨⟨g0,g1,g2,g3,g4,g5,g6,g7,g8,g9,g10⟩,-⟩:=cellsH HFill.out.1
       have HBL:=hid HFill.out.2
       clear HFill c0 c1 c2 c3 c4 c5 c6 c7 c8 c9 c10 f0 f1 f2 f3 f4 f5 f6 f7 f8 f9 f10
       refine bodyPost_ret (by simp [results,Tryz.results10,go_sem,g0,g1,g2,g3,g4,g5,g6,g7,g8,g9,g10];try rfl) rfl ?_
       exact HPost.err HX.out HBL.out
     | false =>
       have HAny:=hid hany
       clear hany
       go_wp2_with fail
       refine (HEn.out _).mono ?_
       rintro e w3 ⟨rfl,hb3⟩
       have HG3:=hid (HG2.out.below hb3)
       have HB3:=hid (below_trans HB2.out hb3)
       clear hb3 HG2 HB2 HEn
       cases hend:endsR T.data.toList with
       | true =>
         have HX0:Hid (hostR s.data.toList true=fourH (parse4R T.data.toList)):=by show _=_;rw [HR2.out];exact name_end HNE.out HNL.out HAny.out hend
         clear hend
         go_wp2_with fail
         refine (HP4.out _).mono ?_
         generalize parse4R T.data.toList=pr at *
         obtain ⟨n,m⟩:=pr
         rintro e w4 ⟨rfl,hb4⟩
         have HG4:=hid (HG3.out.below hb4)
         have HB4:=hid (below_trans HB3.out hb4)
         clear hb4 HG3 HB3 HP4
         obtain ⟨⟨c0,c1,c2,c3,c4,c5,c6,c7,c8,c9,c10⟩,⟨f0,f1,f2,f3,f4,f5,f6,f7,f8,f9,f10⟩⟩:=cellsZ HG4.out
         by_cases hm:m=0
         ·have HX:Hid (hostR s.data.toList true=((2,[],n,z8),0)):=by show _=_;rw [HX0.out];unfold fourH;rw [if_pos hm]
          have m1:((m:Int) != 0)=false:=by rw [hm];rfl
          have HM:=hid hm
          clear hm
          have HFill:=hid (fillZ HG4.out HB4.out HGl.out HB4.out.size (.int .i64 2) (.string ⟨#[]⟩) (.int .u32 (n:Int)) (.int .u16 0) (.int .u16 0) (.int .u16 0) (.int .u16 0) (.int .u16 0) (.int .u16 0) (.int .u16 0) (.int .u16 0))
          go_wp2_with fail
          generalize (((((((((((w4.setCell ⟨G,0,none⟩ (.int .i64 2)).setCell ⟨G,1,none⟩ (.string ⟨#[]⟩)).setCell ⟨G,2,none⟩ (.int .u32 (n:Int))).setCell ⟨G,3,none⟩ (.int .u16 0)).setCell ⟨G,4,none⟩ (.int .u16 0)).setCell ⟨G,5,none⟩ (.int .u16 0)).setCell ⟨G,6,none⟩ (.int .u16 0)).setCell ⟨G,7,none⟩ (.int .u16 0)).setCell ⟨G,8,none⟩ (.int .u16 0)).setCell ⟨G,9,none⟩ (.int .u16 0)).setCell ⟨G,10,none⟩ (.int .u16 0))=W9 at *
          obtain ⟨⟨g0,g1,g2,g3,g4,g5,g6,g7,g8,g9,g10⟩,-⟩:=cellsH HFill.out.1
          have HBL:=hid HFill.out.2
          clear HFill c0 c1 c2 c3 c4 c5 c6 c7 c8 c9 c10 f0 f1 f2 f3 f4 f5 f6 f7 f8 f9 f10
          refine bodyPost_ret (by simp [results,Tryz.results10,go_sem,g0,g1,g2,g3,g4,g5,g6,g7,g8,g9,g10];try rfl) rfl ?_
          rw [HM.out]
          exact HPost.mk HX.out HBL.out
         ·have HX:Hid (hostR s.data.toList true=(host0,m)):=by show _=_;rw [HX0.out];unfold fourH;rw [if_neg hm]
          have m1:((m:Int) != 0)=true:=by rw [bne_iff_ne];omega
          clear hm
          have HFill:=hid (fillZ HG4.out HB4.out HGl.out HB4.out.size (.int .i64 0) (.string ⟨#[]⟩) (.int .u32 0) (.int .u16 0) (.int .u16 0) (.int .u16 0) (.int .u16 0) (.int .u16 0) (.int .u16 0) (.int .u16 0) (.int .u16 0))
          go_wp2_with fail
          generalize (((((((((((w4.setCell ⟨G,0,none⟩ (.int .i64 0)).setCell ⟨G,1,none⟩ (.string ⟨#[]⟩)).setCell ⟨G,2,none⟩ (.int .u32 0)).setCell ⟨G,3,none⟩ (.int .u16 0)).setCell ⟨G,4,none⟩ (.int .u16 0)).setCell ⟨G,5,none⟩ (.int .u16 0)).setCell ⟨G,6,none⟩ (.int .u16 0)).setCell ⟨G,7,none⟩ (.int .u16 0)).setCell ⟨G,8,none⟩ (.int .u16 0)).setCell ⟨G,9,none⟩ (.int .u16 0)).setCell ⟨G,10,none⟩ (.int .u16 0))=W9 at *
          obtain ⟨⟨g0,g1,g2,g3,g4,g5,g6,g7,g8,g9,g10⟩,-⟩:=cellsH HFill.out.1
          have HBL:=hid HFill.out.2
          clear HFill c0 c1 c2 c3 c4 c5 c6 c7 c8 c9 c10 f0 f1 f2 f3 f4 f5 f6 f7 f8 f9 f10
          refine bodyPost_ret (by simp [results,Tryz.results10,go_sem,g0,g1,g2,g3,g4,g5,g6,g7,g8,g9,g10];try rfl) rfl ?_
          exact HPost.err HX.out HBL.out
       | false =>
         have HX:Hid (hostR s.data.toList true=((1,T.data.toList,0,z8),0)):=by show _=_;rw [HR2.out];exact name_own HNE.out HNL.out HAny.out hend
         clear hend
         obtain ⟨⟨c0,c1,c2,c3,c4,c5,c6,c7,c8,c9,c10⟩,⟨f0,f1,f2,f3,f4,f5,f6,f7,f8,f9,f10⟩⟩:=cellsZ HG3.out
         have HFill:=hid (fillZ HG3.out HB3.out HGl.out HB3.out.size (.int .i64 1) (.string T) (.int .u32 0) (.int .u16 0) (.int .u16 0) (.int .u16 0) (.int .u16 0) (.int .u16 0) (.int .u16 0) (.int .u16 0) (.int .u16 0))
         go_wp2_with fail
         generalize (((((((((((w3.setCell ⟨G,0,none⟩ (.int .i64 1)).setCell ⟨G,1,none⟩ (.string T)).setCell ⟨G,2,none⟩ (.int .u32 0)).setCell ⟨G,3,none⟩ (.int .u16 0)).setCell ⟨G,4,none⟩ (.int .u16 0)).setCell ⟨G,5,none⟩ (.int .u16 0)).setCell ⟨G,6,none⟩ (.int .u16 0)).setCell ⟨G,7,none⟩ (.int .u16 0)).setCell ⟨G,8,none⟩ (.int .u16 0)).setCell ⟨G,9,none⟩ (.int .u16 0)).setCell ⟨G,10,none⟩ (.int .u16 0))=W9 at *
         obtain ⟨⟨g0,g1,g2,g3,g4,g5,g6,g7,g8,g9,g10⟩,-⟩:=cellsH HFill.out.1
         have HBL:=hid HFill.out.2
         clear HFill c0 c1 c2 c3 c4 c5 c6 c7 c8 c9 c10 f0 f1 f2 f3 f4 f5 f6 f7 f8 f9 f10
         refine bodyPost_ret (by simp [results,Tryz.results10,go_sem,g0,g1,g2,g3,g4,g5,g6,g7,g8,g9,g10];try rfl) rfl ?_
         exact HPost.mk (l:=T.data.toList) HX.out HBL.out
 ·have k1:((k:Int) != 0)=true:=by rw [bne_iff_ne];omega
  have HX:Hid (hostR s.data.toList true=(host0,k)):=by show _=_;rw [HR.out,if_neg hk]
  clear hT253 hk
  obtain ⟨⟨c0,c1,c2,c3,c4,c5,c6,c7,c8,c9,c10⟩,⟨f0,f1,f2,f3,f4,f5,f6,f7,f8,f9,f10⟩⟩:=cellsZ HG1.out
  have HFill:=hid (fillZ HG1.out HB1.out HGl.out HB1.out.size (.int .i64 0) (.string ⟨#[]⟩) (.int .u32 0) (.int .u16 0) (.int .u16 0) (.int .u16 0) (.int .u16 0) (.int .u16 0) (.int .u16 0) (.int .u16 0) (.int .u16 0))
  go_wp2_with fail
  generalize (((((((((((w1.setCell ⟨G,0,none⟩ (.int .i64 0)).setCell ⟨G,1,none⟩ (.string ⟨#[]⟩)).setCell ⟨G,2,none⟩ (.int .u32 0)).setCell ⟨G,3,none⟩ (.int .u16 0)).setCell ⟨G,4,none⟩ (.int .u16 0)).setCell ⟨G,5,none⟩ (.int .u16 0)).setCell ⟨G,6,none⟩ (.int .u16 0)).setCell ⟨G,7,none⟩ (.int .u16 0)).setCell ⟨G,8,none⟩ (.int .u16 0)).setCell ⟨G,9,none⟩ (.int .u16 0)).setCell ⟨G,10,none⟩ (.int .u16 0))=W9 at *
  obtain ⟨⟨g0,g1,g2,g3,g4,g5,g6,g7,g8,g9,g10⟩,-⟩:=cellsH HFill.out.1
  have HBL:=hid HFill.out.2
  clear HFill c0 c1 c2 c3 c4 c5 c6 c7 c8 c9 c10 f0 f1 f2 f3 f4 f5 f6 f7 f8 f9 f10
  refine bodyPost_ret (by simp [results,Tryz.results10,go_sem,g0,g1,g2,g3,g4,g5,g6,g7,g8,g9,g10];try rfl) rfl ?_
  exact HPost.err HX.out HBL.out
end Go.Proofs.YtpohekldddbneaaGreatDoor
