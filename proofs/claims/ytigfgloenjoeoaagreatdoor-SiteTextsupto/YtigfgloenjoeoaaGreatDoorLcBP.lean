import Derived.Test.YtigfgloenjoeoaaGreatDoorLcBK
import Derived.Test.YtigfgloenjoeoaaGreatDoorLcAW
import Derived.Test.YtigfgloenjoeoaaGreatDoorLcAC
import Derived.Deep.RegionHeld
set_option linter.unusedVariables false
set_option linter.unusedSimpArgs false
set_option maxRecDepth 20000
set_option maxHeartbeats 16000000
namespace Go.Proofs.YtigfgloenjoeoaaGreatDoor
open Go.RowKit Go.Shelf
def sfxRen:Ren:=⟨fun | 100=>44 | 207=>59 | n=>n,fun | 3=>3 | 4=>4 | 9=>9 | n=>n,fun n=>n⟩
theorem sfxLays:Lays.n100 Tryz.prog sfxRen :=
 {mixed:=by kernel_rfl
  f100:=Tryz.func44.trans (congrArg some (by kernel_rfl))
  f207:=Tryz.func59.trans (congrArg some (by kernel_rfl))
  t3:=Tryz.underlying3
  a3:=Tryz.isAgg3
  z3:=Tryz.sizeOf3
  v3:=Tryz.zeroValue3
  t4:=Tryz.underlying4
  a4:=Tryz.isAgg4
  z4:=Tryz.sizeOf4
  v4:=Tryz.zeroValue4
  t9:=Tryz.underlying9
  a9:=Tryz.isAgg9
  z9:=Tryz.sizeOf9
  v9:=Tryz.zeroValue9 }
theorem shas_calls (s p:ByteArray) (w:World) (hs:s.size≤1000000):Calls Tryz.prog 44 #[.string s,.string p] w fun e w'=>e=.returned (.bool (Lib.hasSuffix s.data.toList p.data.toList))∧w'=w :=
 Any.strings_HasSuffix sfxLays s p w (by omega)
theorem shasl_calls (s p:ByteArray) (w:World) (hs:s.size≤1000000):Calls Tryz.prog 59 #[.string s,.string p] w fun e w'=>e=.returned (.bool (Lib.hasSuffix s.data.toList p.data.toList))∧w'=w :=
 Any.stringslite_HasSuffix { sfxLays with } s p w (by omega)
theorem strim_calls (s p:ByteArray) (w:World) (hs:s.size≤1000000):Calls Tryz.prog 40 #[.string s,.string p] w fun e w'=>e=.returned (.string (strOf (Lib.trimSuffix s.data.toList p.data.toList)))∧w'=w :=
 Any.strings_TrimSuffix ptrimLays s p w (by omega)
def cutS (s p:List UInt8):List UInt8×Bool:=if Lib.hasSuffix s p=true then (s.take (s.length-p.length),true) else (s,false)
theorem scutl_calls (s p:ByteArray) (w:World) (hs:s.size≤1000000) (hp:p.size≤1000000) :
 Calls Tryz.prog 58 #[.string s,.string p] w fun e w'=>e=.returned (.tuple #[.string (strOf (cutS s.data.toList p.data.toList).1),.bool (cutS s.data.toList p.data.toList).2])∧w'=w:=by
 have HH:=hid (fun w=>shasl_calls s p w hs)
 have HS:=hid (of_data s)
 unfold cutS
 have HB:=hid (bytes_num s)
 have HP:=hid (bytes_num p)
 by_cases h:Lib.hasSuffix s.data.toList p.data.toList=true
 ·rw [if_pos h]
  rw [h] at HH
  have hle:p.data.toList.length≤s.data.toList.length:=by
   have:=h
   simp only [Lib.hasSuffix] at this
   first | exact (List.isSuffixOf_iff_suffix.1 this).length_le | (simp at this;omega)
  rw [HB.out,HP.out] at hle
  have e1:s.extract 0 (s.size-p.size)=strOf (s.data.toList.take (s.data.toList.length-p.data.toList.length)):=by
   rw [cut_mid s 0 (s.size-p.size) (by omega),List.drop_zero,Nat.sub_zero,HB.out,HP.out]
  generalize strOf (s.data.toList.take (s.data.toList.length-p.data.toList.length))=R at *
  have g1:(s.size:Int)-(p.size:Int)=((s.size-p.size:Nat):Int):=by omega
  have g2:IntKind.wrap .i64 ((s.size-p.size:Nat):Int)=((s.size-p.size:Nat):Int):=by rw [IntKind.wrap_i64];omega
  have g3:((s.size-p.size:Nat):Int)≤(s.size:Int):=by omega
  have g4:(s.size:Int)≤1000000:=by omega
  clear h hs hp hle HS HB HP
  generalize s.size-p.size=k at *
  go_enter Tryz.func58,Tryz.ntmps58
  go_wp2_with fail
  refine (HH.out _).mono ?_
  rintro e w1 ⟨rfl,hw⟩
  subst hw
  go_wp2_with fail
  go_ret2
  exact ⟨rfl,rfl⟩
 ·rw [if_neg h]
  rw [Bool.not_eq_true] at h
  rw [h] at HH
  clear hs hp HB HP h
  go_enter Tryz.func58,Tryz.ntmps58
  go_wp2_with fail
  refine (HH.out _).mono ?_
  rintro e w1 ⟨rfl,hw⟩
  subst hw
  go_wp2_with fail
  go_ret2
  exact ⟨by rw [← HS.out];rfl,rfl⟩
theorem scut_calls (s p:ByteArray) (w:World) (hs:s.size≤1000000) (hp:p.size≤1000000) :
 Calls Tryz.prog 43 #[.string s,.string p] w fun e w'=>e=.returned (.tuple #[.string (strOf (cutS s.data.toList p.data.toList).1),.bool (cutS s.data.toList p.data.toList).2])∧w'=w:=by
 have HC:=hid (scutl_calls s p w hs hp)
 clear hs hp
 generalize cutS s.data.toList p.data.toList=R at *
 obtain ⟨r1,r2⟩:=R
 go_enter Tryz.func43,Tryz.ntmps43
 go_wp2_with fail
 refine HC.out.mono ?_
 rintro e w1 ⟨rfl,hw⟩
 subst hw
 go_wp2_with fail
 go_ret2
 exact ⟨rfl,rfl⟩
theorem suf_iff (n p:List UInt8):Lib.hasSuffix n p=true↔∃a,n=a++p:=by
 unfold Lib.hasSuffix
 rw [List.isSuffixOf_iff_suffix]
 exact ⟨fun ⟨a,h⟩=>⟨a,h.symm⟩,fun ⟨a,h⟩=>⟨a,h.symm⟩⟩
theorem cutS_app (a p:List UInt8):cutS (a++p) p=(a,true):=by
 unfold cutS
 rw [if_pos ((suf_iff _ _).2 ⟨a,rfl⟩),List.length_append,Nat.add_sub_cancel,List.take_left]
theorem cutS_none {n p:List UInt8} (h:¬ ∃a,n=a++p):cutS n p=(n,false):=by
 unfold cutS
 rw [if_neg (fun e=>h ((suf_iff _ _).1 e))]
theorem fits_cut (n s:List UInt8):fitsB n s=((cutS n s).2&&((cutS n s).1==[]||Lib.hasSuffix (cutS n s).1 [46])):=by
 rw [Bool.eq_iff_iff,fits_iff]
 by_cases h:∃a,n=a++s
 ·obtain ⟨a,rfl⟩:=h
  rw [cutS_app]
  simp only [Bool.true_and,Bool.or_eq_true,beq_iff_eq,suf_iff]
  constructor
  ·rintro (h | ⟨b,h⟩)
   ·exact Or.inl (List.append_left_eq_self.1 h)
   ·refine Or.inr ⟨b,List.append_cancel_right (h.trans (by simp))⟩
  ·rintro (rfl | ⟨b,rfl⟩)
   ·exact Or.inl rfl
   ·exact Or.inr ⟨b,by simp⟩
 ·rw [cutS_none h]
  simp only [Bool.false_and,Bool.false_eq_true,iff_false]
  rintro (rfl | ⟨a,rfl⟩)
  ·exact h ⟨[],rfl⟩
  ·exact h ⟨a++[46],by simp⟩
theorem cutS_len (n p:List UInt8):(cutS n p).1.length≤n.length:=by
 unfold cutS
 split
 ·rw [List.length_take];omega
 ·exact Nat.le_refl _
theorem sfits_calls (s p:ByteArray) (w:World) (hs:s.size≤100000) (hp:p.size≤100000) :
 Calls Tryz.prog 32 #[.string s,.string p] w fun e w'=>e=.returned (.bool (fitsB s.data.toList p.data.toList))∧w'=w:=by
 have HC:=hid (scut_calls s p w (by omega) (by omega))
 have HF:=hid (fits_cut s.data.toList p.data.toList)
 have hl:=cutS_len s.data.toList p.data.toList
 rw [bytes_num] at hl
 have HL:=hid hl
 clear hl
 generalize fitsB s.data.toList p.data.toList=Z at *
 generalize cutS s.data.toList p.data.toList=R at *
 obtain ⟨r1,r2⟩:=R
 cases r2
 ·have HX:Hid (Z=false):=HF.out
  clear hs hp HF
  go_enter Tryz.func32,Tryz.ntmps32
  go_wp2_with fail
  refine HC.out.mono ?_
  rintro e w1 ⟨rfl,hw⟩
  subst hw
  go_wp2_with fail
  go_ret
  exact ⟨by rw [HX.out];rfl,rfl⟩
 ·by_cases h0:r1=[]
  ·subst h0
   have HX:Hid (Z=true):=HF.out
   have n0:(strOf ([]:List UInt8)).toList=[]:=ByteArray.toList_eq _
   have n1:(strOf ([]:List UInt8)).toList.isEmpty=true:=by rw [n0];rfl
   clear hs hp HF
   go_enter Tryz.func32,Tryz.ntmps32
   go_wp2_with fail
   refine HC.out.mono ?_
   rintro e w1 ⟨rfl,hw⟩
   subst hw
   go_wp2_with fail
   go_ret
   exact ⟨by rw [HX.out];rfl,rfl⟩
  ·have HX:Hid (Z=Lib.hasSuffix r1 [46]):=by
    show _=_
    rw [HF.out]
    simp [h0]
   have HH:=hid (fun w=>shas_calls (strOf r1) ⟨#[46]⟩ w (by show r1.length≤1000000;have:=HL.out;simp at this;omega))
   have n0:(strOf r1).toList=r1:=ByteArray.toList_eq _
   have n1:¬(strOf r1).toList=[]:=by rw [n0];exact h0
   have n2:(strOf r1).toList.isEmpty=false:=by rw [n0];cases r1;exact absurd rfl h0;rfl
   clear n0
   clear hs hp HF h0
   go_enter Tryz.func32,Tryz.ntmps32
   go_wp2_with fail
   refine HC.out.mono ?_
   rintro e w1 ⟨rfl,hw⟩
   subst hw
   go_wp2_with fail
   refine (HH.out _).mono ?_
   rintro e w1 ⟨rfl,hw⟩
   subst hw
   go_wp2_with fail
   go_ret
   exact ⟨by rw [HX.out];rfl,rfl⟩
def labelS (n s:List UInt8):List UInt8:=n.drop (Lib.lastIndexByte (strOf (Lib.trimSuffix (Lib.trimSuffix n s) [46])) 46+1).toNat
theorem trim_app (a p:List UInt8):Lib.trimSuffix (a++p) p=a:=by
 unfold Lib.trimSuffix
 rw [if_pos ((suf_iff _ _).2 ⟨a,rfl⟩),List.length_append,Nat.add_sub_cancel,List.take_left]
theorem label_site {n s:List UInt8} (h:fitsB n s=true):labelS n s=siteW n s:=by
 unfold labelS
 rcases (fits_iff n s).1 h with rfl | ⟨a,rfl⟩
 ·have e:Lib.trimSuffix n n=[]:=trim_app [] n
  rw [siteW_eq,e]
  rfl
 ·rw [siteW_app,show a++46::s=(a++[46])++s by simp,trim_app,trim_app]
  obtain ⟨k,hk,hks,hd⟩:=last_tail (strOf a)
  rw [hk]
  have hks':k≤a.length:=hks
  have hd':a.drop k=tailOf 46 a:=hd
  rw [Int.toNat_natCast,show (a++[46])++s=a++(46::s) by simp,List.drop_append_of_le_length hks',hd']
theorem trim_len (n p:List UInt8):(Lib.trimSuffix n p).length≤n.length:=by
 unfold Lib.trimSuffix
 split
 ·rw [List.length_take];omega
 ·exact Nat.le_refl _
theorem slabel_calls (s p:ByteArray) (w:World) (hs:s.size≤100000) (h:fitsB s.data.toList p.data.toList=true) :
 Calls Tryz.prog 28 #[.string s,.string p] w fun e w'=>e=.returned (.string (strOf (siteW s.data.toList p.data.toList)))∧w'=w:=by
 have HX:=hid (label_site h)
 have l1:=trim_len s.data.toList p.data.toList
 have l2:=trim_len (Lib.trimSuffix s.data.toList p.data.toList) [46]
 rw [bytes_num] at l1
 have HT1:=hid (strim_calls s p w (by omega))
 have HT2:=hid (fun w=>strim_calls (strOf (Lib.trimSuffix s.data.toList p.data.toList)) ⟨#[46]⟩ w (by show (Lib.trimSuffix s.data.toList p.data.toList).length≤1000000;omega))
 have HL:=hid (fun w=>plast_calls (strOf (Lib.trimSuffix (Lib.trimSuffix s.data.toList p.data.toList) [46])) w (by show (Lib.trimSuffix (Lib.trimSuffix s.data.toList p.data.toList) [46]).length≤1000000;omega))
 obtain ⟨k,hk,hks,-⟩:=last_tail (strOf (Lib.trimSuffix (Lib.trimSuffix s.data.toList p.data.toList) [46]))
 have hks':k≤(Lib.trimSuffix (Lib.trimSuffix s.data.toList p.data.toList) [46]).length:=hks
 have hd:labelS s.data.toList p.data.toList=s.data.toList.drop k:=by unfold labelS;rw [hk];rfl
 have hk3:Lib.lastIndexByte (strOf (Lib.trimSuffix (Lib.trimSuffix s.data.toList p.data.toList) [46])) 46=(k:Int)-1:=by omega
 have he:s.extract k s.size=strOf (siteW s.data.toList p.data.toList):=by
  rw [← HX.out,hd,cut_mid s k s.size (Nat.le_refl _),List.take_of_length_le (by rw [List.length_drop,bytes_num];omega)]
 rw [hk3] at HL
 have g1:(k:Int)≤(s.size:Int):=by omega
 have g2:(s.size:Int)≤100000:=by omega
 have g3:(k:Int)-1+1=(k:Int):=by omega
 have g4:IntKind.wrap .i64 (k:Int)=(k:Int):=by rw [IntKind.wrap_i64];omega
 have e2:(⟨#[46]⟩:ByteArray).data.toList=[46]:=rfl
 have e3:(strOf (Lib.trimSuffix s.data.toList p.data.toList)).data.toList=Lib.trimSuffix s.data.toList p.data.toList:=rfl
 rw [e2,e3] at HT2
 generalize Lib.trimSuffix (Lib.trimSuffix s.data.toList p.data.toList) [46]=T2 at *
 generalize Lib.trimSuffix s.data.toList p.data.toList=T1 at *
 generalize strOf (siteW s.data.toList p.data.toList)=Z at *
 clear h hs HX l1 l2 hk hks hks' hd hk3 e2 e3
 go_enter Tryz.func28,Tryz.ntmps28
 go_wp2_with fail
 refine HT1.out.mono ?_
 rintro e w1 ⟨rfl,hw⟩
 subst hw
 go_wp2_with fail
 refine (HT2.out _).mono ?_
 rintro e w1 ⟨rfl,hw⟩
 subst hw
 go_wp2_with fail
 refine (HL.out _).mono ?_
 rintro e w1 ⟨rfl,hw⟩
 subst hw
 go_wp2_with fail
 go_ret
 exact ⟨rfl,rfl⟩
theorem suffix_snoc (n:List UInt8) (l:List (List UInt8)) (k:Nat) (h:k < l.length):suffixN n (l.take (k+1))=sufF n (suffixN n (l.take k)) l[k]:=by
 unfold suffixN
 rw [List.take_succ_eq_append_getElem h,List.foldl_append]
 rfl
theorem ssuffix_calls (s:ByteArray) (v:Value) (l:List (List UInt8)) (w:World) (hs:s.size≤100000) (hv:SRowIp w v l) (hl:l.length≤1000) (hq:∀q∈l,q.length≤100000) :
 Calls Tryz.prog 16 #[.string s,v] w fun e w'=>e=.returned (.string (strOf (suffixN s.data.toList l)))∧Below w.heap.size w w':=by
 obtain ⟨a,cap,rfl,h1,h2,h3⟩:=hv
 have H3:=hid h3
 have HQ:=hid hq
 have HLen:∀k,(suffixN s.data.toList (l.take k)).length≤100000:=fun k=>by have:=suffix_len s.data.toList (l.take k);rw [bytes_num] at this;omega
 have HLen:=hid HLen
 have HLa:=hid (fun w=>plast_calls s w (by omega))
 have HFit:=hid (fun p w hp=>sfits_calls s p w hs hp)
 obtain ⟨k,hk,hks,hd⟩:=last_tail s
 have hk3:Lib.lastIndexByte s 46=(k:Int)-1:=by omega
 rw [hk3] at HLa
 have he:s.extract k s.size=strOf (suffixN s.data.toList (l.take 0)):=by
  rw [cut_mid s k s.size (Nat.le_refl _),List.take_of_length_le (by rw [List.length_drop,bytes_num];omega),hd]
  rfl
 have g1:(k:Int)≤(s.size:Int):=by omega
 have g2:(s.size:Int)≤100000:=by omega
 have g3:(k:Int)-1+1=(k:Int):=by omega
 have g4:IntKind.wrap .i64 (k:Int)=(k:Int):=by rw [IntKind.wrap_i64];omega
 have HSn:=hid (suffix_snoc s.data.toList l)
 have HFin:Hid (suffixN s.data.toList (l.take l.length)=suffixN s.data.toList l):=by show _=_;rw [List.take_length]
 have hl1:(l.length:Int)≤1000:=by omega
 unfold maxLen at h2
 clear h3 hq hk hks hd hk3 hs
 go_enter Tryz.func16,Tryz.ntmps16
 go_wp2_with fail
 refine (HLa.out _).mono ?_
 rintro e w1 ⟨rfl,hw⟩
 subst hw
 go_wp2_with fail
 clear g1 g3 g4 he HLa
 go_loopw [5,15] (fun b i wr=>∃k:Nat,k≤l.length∧b=.string (strOf (suffixN s.data.toList (l.take k)))∧i=.int .i64 k∧wr=w1) (fun _ i _=>l.length-(intOf i).toNat)
 case atStart=>exact ⟨0,Nat.zero_le _,rfl,rfl,rfl⟩
 case round =>
  obtain ⟨k,hk,rfl,rfl,hw⟩:=hrel
  subst hw
  by_cases hlt:k < l.length
  ·obtain ⟨b,off,rfl,hbl,hc⟩:=H3.out (by intro h;simp [h] at hlt)
   have ck:=hc k hlt
   have HS:=hid (HSn.out k hlt)
   have HB:=HLen.out k
   have HQk:=HQ.out l[k] (List.getElem_mem hlt)
   have k0:(k:Int) < (l.length:Int):=by omega
   have k1:(0:Int)≤(k:Int):=by omega
   have HF:=hid (fun w=>HFit.out (strOf l[k]) w HQk)
   unfold sufF at HS
   replace HF:Hid (∀w,Calls Tryz.prog 32 #[.string s,.string (strOf l[k])] w fun e w'=>e=.returned (.bool (fitsB s.data.toList l[k]))∧w'=w):=HF
   clear hc H3 HFit HQ hbl
   generalize l[k]=q at *
   generalize suffixN s.data.toList (l.take k)=bst at *
   have sz1:(strOf bst).size=bst.length:=rfl
   have sz2:(strOf q).size=q.length:=rfl
   rcases Nat.lt_or_ge bst.length q.length with hlt2 | hge
   ·have t1:decide (((strOf bst).size:Int) < ((strOf q).size:Int))=true:=decide_eq_true (by rw [sz1,sz2];omega)
    have t2:((strOf bst).size:Int) < ((strOf q).size:Int):=by rw [sz1,sz2];omega
    rw [decide_eq_true hlt2,Bool.true_and] at HS
    cases hf:fitsB s.data.toList q
    ·rw [hf] at HS HF
     have HS2:Hid (suffixN s.data.toList (l.take (k+1))=bst):=HS.out
     clear HS sz1 sz2 hlt2 hf
     go_wp2_with fail
     refine (HF.out _).mono ?_
     rintro e w1 ⟨rfl,hw⟩
     subst hw
     go_wp2_with fail
     go_roundw
     case rel=>exact ⟨k+1,hlt,by rw [HS2.out],by go_num,by trivial⟩
     case measure=>simp [intOf];omega
    ·rw [hf] at HS HF
     have HS2:Hid (suffixN s.data.toList (l.take (k+1))=q):=HS.out
     clear HS sz1 sz2 hlt2 hf
     go_wp2_with fail
     refine (HF.out _).mono ?_
     rintro e w1 ⟨rfl,hw⟩
     subst hw
     go_wp2_with fail
     go_roundw
     case rel=>exact ⟨k+1,hlt,by rw [HS2.out],by go_num,by trivial⟩
     case measure=>simp [intOf];omega
   ·have t1:decide (((strOf bst).size:Int) < ((strOf q).size:Int))=false:=decide_eq_false (by rw [sz1,sz2];omega)
    have t2:¬((strOf bst).size:Int) < ((strOf q).size:Int):=by rw [sz1,sz2];omega
    rw [decide_eq_false (by omega),Bool.false_and] at HS
    have HS2:Hid (suffixN s.data.toList (l.take (k+1))=bst):=HS.out
    clear HS sz1 sz2 hge
    go_wp2_with fail
    go_roundw
    case rel=>exact ⟨k+1,hlt,by rw [HS2.out],by go_num,by trivial⟩
    case measure=>simp [intOf];omega
  ·obtain rfl:k=l.length:=by omega
   have HCl:=hid (fun w=>hclone_calls (strOf (suffixN s.data.toList (l.take l.length))) w (HLen.out _))
   clear HSn HFit HLen
   rw [HFin.out] at HCl ⊢
   go_wp2_with fail
   refine (HCl.out _).mono ?_
   rintro e w2 ⟨rfl,hb⟩
   go_wp2_with fail
   go_ret
   exact ⟨rfl,hb⟩
section
variable {P:Program} {ops:Array Oper} {Q:Exit→Act→World→Prop} {md:Region.Mode} {S:World→Prop}
def Gives (P:Program) (ops:Array Oper) (Q:Exit→Act→World→Prop) (S:World→Prop) (o:Oper) (v:Value) (a:Act):Prop :=
 ∀w,S w→∀K:Act→World→Prop,Shut (∀w',S w'→K (a.put o.dst v) w')→if Region.wanted o (yielded ops a.tmps)=true then Oper.wp P o a w K Q else K (a.put o.dst undef) w
theorem wpAnyH_one {i fuel:Nat} {listed:Array Bool} {a:Act} {w:World} {o:Oper} {v:Value} (hr:Region.ready md ops listed=[i]) (ho:ops[i]? = some o) (hg:Gives P ops Q S o v a) (hS:S w)
 (h:∀w',S w'→wpAnyH P md ops Q S fuel (listed.setIfInBounds i true) (a.put o.dst v) w'):wpAnyH P md ops Q S (fuel+1) listed a w :=
 wpAnyH_ready hr (by simp) (AllReadyH.cons ho (fun K hK=>hg w hS K (fun w' hS'=>hK.out _ _ hS' (fun _=>h w' hS'))) AllReadyH.nil)
end
end Go.Proofs.YtigfgloenjoeoaaGreatDoor
