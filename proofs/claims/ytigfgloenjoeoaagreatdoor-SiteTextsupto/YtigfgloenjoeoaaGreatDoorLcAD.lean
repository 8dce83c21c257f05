import Derived.Test.YtigfgloenjoeoaaGreatDoorLcAC
import Derived.Deep.DeepMust
import Derived.Test.YtigfgloenjoeoaaGreatDoorLcAA
set_option linter.unusedVariables false
set_option linter.unusedSimpArgs false
set_option maxRecDepth 20000
set_option maxHeartbeats 16000000
namespace Go.Proofs.YtigfgloenjoeoaaGreatDoor
open Go.RowKit
theorem empty_yes {s:ByteArray} (h:s.size=0):s.toList=[]:=by
 rw [ByteArray.toList_eq]
 exact List.eq_nil_of_length_eq_zero (by rw [bytes_num];exact h)
theorem empty_no {s:ByteArray} (h:s.size≠0):(s.toList==[])=false∧s.toList.isEmpty=false:=by
 have hl:s.toList.length=s.size:=by rw [ByteArray.toList_eq];exact bytes_num s
 revert hl
 generalize s.toList=l
 intro hl
 match l,hl with
 | [],hl=>exact absurd hl.symm h
 | a::r,_=>exact ⟨rfl,rfl⟩
theorem data_nil {s:ByteArray} (h:s.size=0):s.data.toList=[]:=List.eq_nil_of_length_eq_zero (by rw [bytes_num];exact h)
theorem data_ne {s:ByteArray} (h:s.size≠0):s.data.toList≠[]:=fun e=>h (by rw [← bytes_num,e];rfl)
theorem numR_of {l m:List UInt8} {b:Nat} (hne:l≠[]) (hb:baseR l=(m,b)):numR l=if digsR b m=true then some (valRIp b m) else none:=by
 unfold numR
 rw [if_neg hne,hb]
theorem base_hex {l:List UInt8} (h:hexR l=true):baseR l=(l.drop 2,16):=by unfold baseR;rw [if_pos h]
theorem base_oct {l:List UInt8} (h:hexR l=false) (h1:1 < l.length) (h2:l.head? = some 48):baseR l=(l.drop 1,8):=by unfold baseR;rw [if_neg (by rw [h];decide),if_pos ⟨h1,h2⟩]
theorem base_ten {l:List UInt8} (h:hexR l=false) (h1:¬(1 < l.length∧l.head? = some 48)):baseR l=(l,10):=by unfold baseR;rw [if_neg (by rw [h];decide),if_neg h1]
theorem hexR_two {s:ByteArray} (h:hexR s.data.toList=true):2≤s.size:=by
 by_cases h2:2≤s.size
 ·exact h2
 ·rw [hexR_short h2] at h;cases h
theorem head_at {s:ByteArray} (h:0 < s.size):s.data.toList.head? = some s[0]:=by
 have:=bytes_at s 0 h
 rw [← this,List.head?_eq_getElem?]
def dP (z:Nat):Nat:=match hexV z with
 | some d=>d
 | none=>4294967296
theorem dP_some {z d:Nat} (h:hexV z=some d):dP z=d:=by unfold dP;rw [h]
theorem dP_none {z:Nat} (h:hexV z=none):dP z=4294967296:=by unfold dP;rw [h]
theorem pdigit_calls (n:Nat) (hn:n < 256) (w:World):Calls Tryz.prog 188 #[.int .u8 (n:Int)] w fun e w'=>e=.returned (.int .u64 (dP n:Int))∧w'=w:=by
 have HR:Hid ((dP n:Int)=if 48≤n∧n≤57 then (n:Int)-48 else if 97≤n∧n≤102 then (n:Int)-87 else if 65≤n∧n≤70 then (n:Int)-55 else 4294967296):=by
  show (dP n:Int)=_
  unfold dP hexV
  by_cases h1:48≤n∧n≤57
  ·rw [if_pos h1,if_pos h1];simp only [];omega
  ·rw [if_neg h1,if_neg h1]
   by_cases h2:97≤n∧n≤102
   ·rw [if_pos h2,if_pos h2];simp only [];omega
   ·rw [if_neg h2,if_neg h2]
    by_cases h3:65≤n∧n≤70
    ·rw [if_pos h3,if_pos h3];simp only [];omega
    ·rw [if_neg h3,if_neg h3];rfl
 have hc:n < 48∨(48≤n∧n≤57)∨(57 < n∧n < 65)∨(57 < n∧65≤n∧n≤70)∨(70 < n∧n < 97)∨(57 < n∧97≤n∧n≤102)∨102 < n:=by omega
 rcases hc with g | ⟨g1,g2⟩ | ⟨g1,g2⟩ | ⟨g1,g2,g3⟩ | ⟨g1,g2⟩ | ⟨g1,g2,g3⟩ | g
 all_goals
  go_enter Tryz.func188,Tryz.ntmps188
  go_wp2
  go_ret
  refine ⟨?_,rfl⟩
  rw [HR.out]
  repeat (first | rw [if_pos (by omega)] | rw [if_neg (by omega)])
  first | rfl | exact congrArg (fun x=>Ending.returned (.int .u64 x)) (by omega)
def satR (b:Nat) (l:List UInt8):Nat:=l.foldl (fun n c=>min (n * b+dgv c) 4294967296) 0
theorem satR_snoc (b:Nat) (l:List UInt8) (c:UInt8):satR b (l++[c])=min (satR b l * b+dgv c) 4294967296:=by unfold satR;rw [List.foldl_append];rfl
theorem satR_le (b:Nat) (l:List UInt8):satR b l≤4294967296:=by
 rcases List.eq_nil_or_concat l with h | ⟨l',c,h⟩
 ·subst h;exact Nat.zero_le _
 ·rw [h,List.concat_eq_append,satR_snoc];exact Nat.min_le_right _ _
theorem satR_step (b x d:Nat) (hb:1≤b):min (min x 4294967296 * b+d) 4294967296=min (x * b+d) 4294967296:=by
 rcases Nat.le_total x 4294967296 with h | h
 ·rw [Nat.min_eq_left h]
 ·rw [Nat.min_eq_right h]
  have h1:4294967296≤4294967296 * b:=Nat.le_mul_of_pos_right _ hb
  have h2:4294967296 * b≤x * b:=Nat.mul_le_mul_right b h
  rw [Nat.min_eq_right (by omega),Nat.min_eq_right (by omega)]
theorem satR_eq (b:Nat) (hb:1≤b):∀(n:Nat) (l:List UInt8),l.length=n→satR b l=min (valX b l) 4294967296
 | 0,l,h=>by rw [List.eq_nil_of_length_eq_zero h];rfl
 | n+1,l,h=>by
   rcases List.eq_nil_or_concat l with h' | ⟨l',c,h'⟩
   ·rw [h'] at h;simp at h
   ·rw [List.concat_eq_append] at h'
    subst h'
    rw [List.length_append] at h
    rw [satR_snoc,valX_snoc,satR_eq b hb n l' (by simpa using h),satR_step b _ _ hb]
theorem satR_val {b:Nat} (hb:1≤b) (l:List UInt8):satR b l=min (valRIp b l) 4294967296:=by
 rw [satR_eq b hb _ l rfl,valR_eq b hb _ l rfl]
 omega
theorem satR_take {s:ByteArray} {b k:Nat} (h:k < s.size):satR b (s.data.toList.take (k+1))=min (satR b (s.data.toList.take k) * b+dgv s[k]) 4294967296:=by
 have hl:k < s.data.toList.length:=by rw [bytes_num];exact h
 rw [List.take_succ_eq_append_getElem hl,satR_snoc]
 rfl
theorem dgv_of {c:UInt8} {d:Nat} (h:hexV c.toNat=some d):dgv c=d:=by unfold dgv;rw [h];rfl
def numP (b:Nat) (l:List UInt8):Nat×Bool:=if digsR b l=true then (satR b l,true) else (0,false)
theorem numP_yes {b:Nat} {l:List UInt8} (h:digsR b l=true):numP b l=(satR b l,true):=if_pos h
theorem numP_no {b:Nat} {l:List UInt8} (h:digsR b l=false):numP b l=(0,false):=by unfold numP;rw [h];rfl
def NPost (b:Nat) (l:List UInt8) (w:World) (e:Ending) (w':World):Prop:=e=.returned (.tuple #[.int .u64 ((numP b l).1:Int),.bool (numP b l).2])∧w'=w
theorem NPost.yes {b:Nat} {l:List UInt8} {w:World} (h:digsR b l=true) {n:Nat} (hn:satR b l=n):NPost b l w (.returned (.tuple #[.int .u64 (n:Int),.bool true])) w:=by unfold NPost;rw [numP_yes h,hn];exact ⟨rfl,rfl⟩
theorem NPost.no {b:Nat} {l:List UInt8} {w:World} (h:digsR b l=false):NPost b l w (.returned (.tuple #[.int .u64 0,.bool false])) w:=by unfold NPost;rw [numP_no h];exact ⟨rfl,rfl⟩
theorem pnumber_calls (s:ByteArray) (b:Nat) (w:World) (hs:s.size≤100000) (hb1:1≤b) (hb16:b≤16) :
 Calls Tryz.prog 165 #[.string s,.int .u64 (b:Int)] w fun e w'=>NPost b s.data.toList w e w':=by
 have s1:(s.size:Int)≤100000:=by omega
 have b1:(1:Int)≤(b:Int):=by omega
 have b2:(b:Int)≤16:=by omega
 have b3:(0:Int)≤(b:Int):=by omega
 clear hs
 go_enter Tryz.func165,Tryz.ntmps165
 go_wp2_with fail
 go_loop [6,11] (fun vn vi=>∃k:Nat,k≤s.size∧vi=.int .i64 (k:Int)∧vn=.int .u64 (satR b (s.data.toList.take k):Nat)∧digsR b (s.data.toList.take k)=true) (fun _ vi=>s.size-(intOf vi).toNat)
 case atStart=>exact ⟨0,Nat.zero_le _,rfl,rfl,rfl⟩
 case round =>
  obtain ⟨k,hk,rfl,rfl,hall⟩:=hrel
  have HA:=hid hall
  have k0:(0:Int)≤(k:Int):=by omega
  have hq:=satR_le b (s.data.toList.take k)
  clear hall
  by_cases hlt:k < s.size
  ·have k1:(k:Int) < (s.size:Int):=by omega
   have HH:=hid (fun h=>digs_hit (b:=b) hlt HA.out h)
   have HM:=hid (fun h=>digs_miss (b:=b) hlt h)
   have HV:=hid (satR_take (b:=b) hlt)
   obtain ⟨z,hz⟩:∃z,(s[k]'hlt).toNat=z:=⟨_,rfl⟩
   have z9:z < 256:=by rw [← hz];exact byte_lt _
   have HD0:Hid (hexV z=none→digB b (s[k]'hlt)=false):=fun h=>digB_none (by rw [hz];exact h)
   have HD:Hid (∀d,hexV z=some d→digB b (s[k]'hlt)=decide (d < b)):=fun d h=>digB_some (by rw [hz];exact h)
   have HDV:Hid (∀d,hexV z=some d→dgv (s[k]'hlt)=d):=fun d h=>dgv_of (by rw [hz];exact h)
   have HC:=hid (pdigit_calls z z9)
   have HK:=hid hlt
   generalize satR b (s.data.toList.take k)=n at *
   have n0:(0:Int)≤(n:Int):=by omega
   have n1:(n:Int)≤4294967296:=by omega
   clear z9 hk hq
   cases hv:hexV z with
   | none =>
     rw [dP_none hv] at HC
     have HF:=hid (HM.out (HD0.out hv))
     have g:(b:Int)≤4294967296:=by omega
     clear HH HM HD HD0 HDV HV hv
     go_wp2_with fail
     refine (HC.out _).mono ?_
     rintro e wz ⟨rfl,rfl⟩
     go_wp2_with fail
     go_ret2
     exact NPost.no HF.out
   | some d =>
     rw [dP_some hv] at HC
     have HE:=hid (HDV.out d hv)
     have d0:(0:Int)≤(d:Int):=by omega
     by_cases hdb:d < b
     ·have HX:=hid (HH.out (by rw [HD.out d hv];simpa using hdb))
      have d1:¬(b:Int)≤(d:Int):=by omega
      have m1:n * b≤4294967296 * 16:=Nat.mul_le_mul (by omega) (by omega)
      obtain ⟨x,hx⟩:∃x,n * b=x:=⟨_,rfl⟩
      have hxi:(n:Int) * (b:Int)=(x:Int):=by rw [← hx];simp
      have x0:(0:Int)≤(x:Int):=by omega
      have x1:(x:Int)≤68719476736:=by omega
      have x2:(d:Int) < 16:=by omega
      have HN:Hid (satR b (s.data.toList.take (k+1))=min (x+d) 4294967296):=by show _=_;rw [HV.out,HE.out,hx]
      clear HH HM HD HD0 HDV HV hv hdb m1 hx HE
      by_cases hsm:x+d≤4294967296
      ·have g1:(x:Int)+(d:Int)≤4294967296:=by omega
       have HN':Hid (satR b (s.data.toList.take (k+1))=x+d):=by show _=_;rw [HN.out];omega
       clear HN hsm
       go_wp2_with fail
       refine (HC.out _).mono ?_
       rintro e wz ⟨rfl,rfl⟩
       go_wp2_with fail
       go_round
       case rel=>exact ⟨k+1,HK.out,by go_num,by rw [HN'.out];first | rfl | (simp;try omega),HX.out⟩
       case measure=>have:=HK.out;simp [intOf];omega
      ·have g1:¬(x:Int)+(d:Int)≤4294967296:=by omega
       have g2:(4294967296:Int) < (x:Int)+(d:Int):=by omega
       have HN':Hid (satR b (s.data.toList.take (k+1))=4294967296):=by show _=_;rw [HN.out];omega
       clear HN hsm
       go_wp2_with fail
       refine (HC.out _).mono ?_
       rintro e wz ⟨rfl,rfl⟩
       go_wp2_with fail
       go_round
       case rel=>exact ⟨k+1,HK.out,by go_num,by rw [HN'.out];first | rfl | (simp;try omega),HX.out⟩
       case measure=>have:=HK.out;simp [intOf];omega
     ·have HF:=hid (HM.out (by rw [HD.out d hv];simpa using hdb))
      have d1:(b:Int)≤(d:Int):=by omega
      clear HH HM HD HD0 HDV HV hv hdb HE
      go_wp2_with fail
      refine (HC.out _).mono ?_
      rintro e wz ⟨rfl,rfl⟩
      go_wp2_with fail
      go_ret2
      exact NPost.no HF.out
  ·have HF:=hid (digs_end hlt HA.out)
   have HT:Hid (satR b s.data.toList=satR b (s.data.toList.take k)):=by show _=_;rw [List.take_of_length_le (by rw [bytes_num];omega)]
   have g:¬(k:Int) < (s.size:Int):=by omega
   clear hlt hk
   generalize satR b (s.data.toList.take k)=n at *
   go_wp2_with fail
   go_ret2
   exact NPost.yes HF.out HT.out
theorem pall_calls (s:ByteArray) (b:Nat) (w:World) (hs:s.size≤100000) (hb1:1≤b) (hb16:b≤16) :
 Calls Tryz.prog 114 #[.string s,.int .u64 (b:Int)] w fun e w'=>e=.returned (.bool (digsR b s.data.toList))∧w'=w:=by
 have HC:=hid (pnumber_calls s b · hs hb1 hb16)
 unfold NPost at HC
 have HE:Hid ((numP b s.data.toList).2=digsR b s.data.toList):=by
  show _=_
  cases h:digsR b s.data.toList with
  | true=>rw [numP_yes h]
  | false=>rw [numP_no h]
 rw [HE.out] at HC
 clear hs hb1 hb16
 go_enter Tryz.func114,Tryz.ntmps114
 go_wp2_with fail
 refine (HC.out _).mono ?_
 rintro e wz ⟨rfl,rfl⟩
 go_wp2_with fail
 go_ret
 exact ⟨rfl,rfl⟩
def preB (x:UInt8) (l:List UInt8):Bool:=l.take 2==[48,x]
theorem ext_two (s:ByteArray) (h:2≤s.size):(s.extract 0 2).toList=s.data.toList.take 2:=by
 rw [ByteArray.toList_eq,cut_mid s 0 2 h]
 rfl
theorem ext_drop (s:ByteArray) (k:Nat) (h:k≤s.size):s.extract k s.size=strOf (s.data.toList.drop k):=by
 rw [cut_mid s k s.size (Nat.le_refl _),List.take_of_length_le (by rw [List.length_drop,bytes_num];omega)]
theorem pre_size {x:UInt8} {s:ByteArray} (h:preB x s.data.toList=true):2≤s.size:=by
 have h2:=congrArg List.length (beq_iff_eq.1 h)
 rw [List.length_take,bytes_num] at h2
 simp at h2
 omega
theorem hexR_pre (l:List UInt8):hexR l=(preB 120 l||preB 88 l):=by
 match l with
 | []=>rfl
 | [a]=>simp [hexR,preB]
 | a::b::r =>
   show (a==48&&(b==120||b==88))=(([a,b]==[48,120])||([a,b]==[48,88]))
   have e:∀y:UInt8,([a,b]==[48,y])=(a==48&&b==y):=fun y=>by simp
   rw [e,e]
   cases a==48<;>simp
def cutP (x:UInt8) (l:List UInt8):List UInt8×Bool:=if preB x l=true then (l.drop 2,true) else (l,false)
theorem pcut120_calls (s:ByteArray) (w:World) (hs:s.size≤100000) :
 Calls Tryz.prog 154 #[.string s,.string ⟨#[48,120]⟩] w fun e w'=>e=.returned (.tuple #[.string (strOf (cutP 120 s.data.toList).1),.bool (cutP 120 s.data.toList).2])∧w'=w:=by
 have s1:(s.size:Int)≤100000:=by omega
 have s3:(s.size:Int)≤9223372036854775807:=by omega
 have s2:Hid (s=strOf s.data.toList):=of_data s
 obtain ⟨R,hR⟩:∃R,R=cutP 120 s.data.toList:=⟨_,rfl⟩
 rw [← hR]
 by_cases h2:2≤s.size
 ·have e1:=ext_two s h2
  have hcut:=ext_drop s 2 h2
  have g:(2:Int)≤(s.size:Int):=by omega
  cases hm:preB 120 s.data.toList with
  | true =>
    have e2:(s.data.toList.take 2==[48,120])=true:=hm
    have HX:Hid (R=(s.data.toList.drop 2,true)):=by show _=_;rw [hR];unfold cutP;rw [if_pos hm]
    have HX1:Hid (strOf R.1=strOf (s.data.toList.drop 2)):=by show _=_;rw [HX.out]
    have HX2:Hid (R.2=true):=by show _=_;rw [HX.out]
    generalize strOf (s.data.toList.drop 2)=t at *
    generalize s.data.toList.take 2=T at *
    clear hR h2 hs hm HX
    go_enter Tryz.func154,Tryz.ntmps154
    go_wp2
    go_ret2
    exact ⟨by rw [HX1.out,HX2.out];rfl,rfl⟩
  | false =>
    have e2:(s.data.toList.take 2==[48,120])=false:=hm
    have HX:Hid (R=(s.data.toList,false)):=by show _=_;rw [hR];unfold cutP;rw [if_neg (by rw [hm];decide)]
    have HX1:Hid (strOf R.1=s):=by show _=_;rw [HX.out];exact s2.out.symm
    have HX2:Hid (R.2=false):=by show _=_;rw [HX.out]
    generalize s.data.toList.take 2=T at *
    clear hR h2 hs hm hcut HX s2
    go_enter Tryz.func154,Tryz.ntmps154
    go_wp2
    go_ret2
    exact ⟨by rw [HX1.out,HX2.out];rfl,rfl⟩
 ·have g:¬(2:Int)≤(s.size:Int):=by omega
  have HX:Hid (R=(s.data.toList,false)):=by
   show _=_
   rw [hR]
   unfold cutP
   rw [if_neg (fun h=>h2 (pre_size h))]
  have HX1:Hid (strOf R.1=s):=by show _=_;rw [HX.out];exact s2.out.symm
  have HX2:Hid (R.2=false):=by show _=_;rw [HX.out]
  clear hR h2 hs HX s2
  go_enter Tryz.func154,Tryz.ntmps154
  go_wp2
  go_ret2
  exact ⟨by rw [HX1.out,HX2.out];rfl,rfl⟩
theorem pcut88_calls (s:ByteArray) (w:World) (hs:s.size≤100000) :
 Calls Tryz.prog 154 #[.string s,.string ⟨#[48,88]⟩] w fun e w'=>e=.returned (.tuple #[.string (strOf (cutP 88 s.data.toList).1),.bool (cutP 88 s.data.toList).2])∧w'=w:=by
 have s1:(s.size:Int)≤100000:=by omega
 have s3:(s.size:Int)≤9223372036854775807:=by omega
 have s2:Hid (s=strOf s.data.toList):=of_data s
 obtain ⟨R,hR⟩:∃R,R=cutP 88 s.data.toList:=⟨_,rfl⟩
 rw [← hR]
 by_cases h2:2≤s.size
 ·have e1:=ext_two s h2
  have hcut:=ext_drop s 2 h2
  have g:(2:Int)≤(s.size:Int):=by omega
  cases hm:preB 88 s.data.toList with
  | true =>
    have e2:(s.data.toList.take 2==[48,88])=true:=hm
    have HX:Hid (R=(s.data.toList.drop 2,true)):=by show _=_;rw [hR];unfold cutP;rw [if_pos hm]
    have HX1:Hid (strOf R.1=strOf (s.data.toList.drop 2)):=by show _=_;rw [HX.out]
    have HX2:Hid (R.2=true):=by show _=_;rw [HX.out]
    generalize strOf (s.data.toList.drop 2)=t at *
    generalize s.data.toList.take 2=T at *
    clear hR h2 hs hm HX
    go_enter Tryz.func154,Tryz.ntmps154
    go_wp2
    go_ret2
    exact ⟨by rw [HX1.out,HX2.out];rfl,rfl⟩
  | false =>
    have e2:(s.data.toList.take 2==[48,88])=false:=hm
    have HX:Hid (R=(s.data.toList,false)):=by show _=_;rw [hR];unfold cutP;rw [if_neg (by rw [hm];decide)]
    have HX1:Hid (strOf R.1=s):=by show _=_;rw [HX.out];exact s2.out.symm
    have HX2:Hid (R.2=false):=by show _=_;rw [HX.out]
    generalize s.data.toList.take 2=T at *
    clear hR h2 hs hm hcut HX s2
    go_enter Tryz.func154,Tryz.ntmps154
    go_wp2
    go_ret2
    exact ⟨by rw [HX1.out,HX2.out];rfl,rfl⟩
 ·have g:¬(2:Int)≤(s.size:Int):=by omega
  have HX:Hid (R=(s.data.toList,false)):=by
   show _=_
   rw [hR]
   unfold cutP
   rw [if_neg (fun h=>h2 (pre_size h))]
  have HX1:Hid (strOf R.1=s):=by show _=_;rw [HX.out];exact s2.out.symm
  have HX2:Hid (R.2=false):=by show _=_;rw [HX.out]
  clear hR h2 hs HX s2
  go_enter Tryz.func154,Tryz.ntmps154
  go_wp2
  go_ret2
  exact ⟨by rw [HX1.out,HX2.out];rfl,rfl⟩
def markP (l:List UInt8):List UInt8×Bool:=if hexR l=true then (l.drop 2,true) else (l,false)
theorem markP_yes {l:List UInt8} (h:hexR l=true):markP l=(l.drop 2,true):=if_pos h
theorem markP_no {l:List UInt8} (h:hexR l=false):markP l=(l,false):=by unfold markP;rw [h];rfl
theorem pmark_calls (s:ByteArray) (w:World) (hs:s.size≤100000) :
 Calls Tryz.prog 113 #[.string s] w fun e w'=>e=.returned (.tuple #[.string (strOf (markP s.data.toList).1),.bool (markP s.data.toList).2])∧w'=w:=by
 have C1:=hid (pcut120_calls s · hs)
 have C2:=hid (pcut88_calls s · hs)
 have HP:=hexR_pre s.data.toList
 cases h1:preB 120 s.data.toList with
 | true =>
   rw [h1,Bool.true_or] at HP
   rw [show cutP 120 s.data.toList=(s.data.toList.drop 2,true) from if_pos h1] at C1
   rw [markP_yes HP]
   generalize strOf (s.data.toList.drop 2,true).1=t at *
   clear HP h1 C2 hs
   go_enter Tryz.func113,Tryz.ntmps113
   go_wp2_with fail
   refine (C1.out _).mono ?_
   rintro e wz ⟨rfl,rfl⟩
   go_wp2_with fail
   go_ret2
   exact ⟨rfl,rfl⟩
 | false =>
   rw [h1,Bool.false_or] at HP
   rw [show cutP 120 s.data.toList=(s.data.toList,false) from if_neg (by rw [h1];decide)] at C1
   have HQ:cutP 88 s.data.toList=markP s.data.toList:=by unfold cutP markP;rw [HP]
   rw [HQ] at C2
   generalize strOf (s.data.toList,false).1=t at *
   generalize strOf (markP s.data.toList).1=u at *
   generalize (markP s.data.toList).2=b at *
   clear HP h1 hs HQ
   go_enter Tryz.func113,Tryz.ntmps113
   go_wp2_with fail
   refine (C1.out _).mono ?_
   rintro e wz ⟨rfl,rfl⟩
   go_wp2_with fail
   refine (C2.out _).mono ?_
   rintro e wz ⟨rfl,rfl⟩
   go_wp2_with fail
   go_ret2
   exact ⟨rfl,rfl⟩
def partP (l:List UInt8):Nat×Bool:=match numR l with
 | none=>(0,false)
 | some n=>(min n 4294967296,true)
theorem partP_none {l:List UInt8} (h:numR l=none):partP l=(0,false):=by unfold partP;rw [h]
theorem partP_some {l:List UInt8} {n:Nat} (h:numR l=some n):partP l=(min n 4294967296,true):=by unfold partP;rw [h]
theorem partP_of {l m:List UInt8} {b:Nat} (hne:l≠[]) (hb:baseR l=(m,b)) (h1:1≤b):numP b m=partP l:=by
 have h:=numR_of hne hb
 cases hd:digsR b m with
 | true =>
   rw [hd,if_pos rfl] at h
   rw [partP_some h,numP_yes hd,satR_val h1]
 | false =>
   rw [hd,if_neg (by decide)] at h
   rw [partP_none h,numP_no hd]
def PartPost (l:List UInt8) (w:World) (e:Ending) (w':World):Prop:=e=.returned (.tuple #[.int .u64 ((partP l).1:Int),.bool (partP l).2])∧w'=w
theorem ppart_calls (s:ByteArray) (w:World) (hs:s.size≤100000):Calls Tryz.prog 167 #[.string s] w fun e w'=>PartPost s.data.toList w e w':=by
 have s1:(s.size:Int)≤100000:=by omega
 by_cases h0:s.size=0
 ·have e0:=empty_yes h0
  have HX:Hid (partP s.data.toList=(0,false)):=by show _=_;rw [data_nil h0];exact partP_none rfl
  unfold PartPost
  rw [HX.out]
  clear h0
  go_enter Tryz.func167,Tryz.ntmps167
  go_wp2_with fail
  go_ret2
  exact ⟨rfl,rfl⟩
 ·obtain ⟨e0,e1⟩:=empty_no h0
  have hne:=data_ne h0
  have HC:=hid (pmark_calls s · hs)
  cases hh:hexR s.data.toList with
  | true =>
    rw [markP_yes hh] at HC
    have h2:=hexR_two hh
    have HN:=hid (pnumber_calls (strOf (s.data.toList.drop 2)) 16 · (by rw [str_size,List.length_drop,bytes_num];omega) (by decide) (by decide))
    unfold NPost at HN
    rw [str_data,partP_of hne (base_hex hh) (by decide)] at HN
    unfold PartPost
    generalize strOf (s.data.toList.drop 2,true).1=t at *
    generalize partP s.data.toList=r at *
    clear hh h2 h0 hs hne
    go_enter Tryz.func167,Tryz.ntmps167
    go_wp2_with fail
    refine (HC.out _).mono ?_
    rintro e wz ⟨rfl,rfl⟩
    go_wp2_with fail
    refine (HN.out _).mono ?_
    rintro e wz ⟨rfl,rfl⟩
    go_wp2_with fail
    go_ret2
    exact ⟨rfl,rfl⟩
  | false =>
    rw [markP_no hh] at HC
    have hp:0 < s.size:=by omega
    have HHead:=head_at hp
    by_cases ho:1 < s.size∧(s[0]'hp).toNat=48
    ·obtain ⟨ho1,ho2⟩:=ho
     have hb:=base_oct hh (by rw [bytes_num];exact ho1) (by rw [HHead];exact congrArg some (UInt8.toNat_inj.1 (by rw [ho2];rfl)))
     have HN:=hid (pnumber_calls (strOf (s.data.toList.drop 1)) 8 · (by rw [str_size,List.length_drop,bytes_num];omega) (by decide) (by decide))
     unfold NPost at HN
     rw [str_data,partP_of hne hb (by decide)] at HN
     have hcut:=ext_drop s 1 (by omega)
     have p1:(1:Int) < (s.size:Int):=by omega
     have p2:(1:Int)≤(s.size:Int):=by omega
     have p0:(0:Int) < (s.size:Int):=by omega
     have q2:(((s[0]'hp).toNat:Int)==48)=true:=by rw [ho2];rfl
     unfold PartPost
     generalize strOf (s.data.toList,false).1=u at *
     generalize strOf (s.data.toList.drop 1)=t at *
     generalize partP s.data.toList=r at *
     clear hh h0 hs hne hb HHead ho1
     go_enter Tryz.func167,Tryz.ntmps167
     go_wp2_with fail
     refine (HC.out _).mono ?_
     rintro e wz ⟨rfl,rfl⟩
     go_wp2_with fail
     refine (HN.out _).mono ?_
     rintro e wz ⟨rfl,rfl⟩
     go_wp2_with fail
     go_ret2
     exact ⟨rfl,rfl⟩
    ·have hb:=base_ten hh (fun h=>ho ⟨by rw [← bytes_num];exact h.1,by rw [HHead] at h;rw [Option.some.inj h.2];rfl⟩)
     have HN:=hid (pnumber_calls s 10 · hs (by decide) (by decide))
     unfold NPost at HN
     rw [partP_of hne hb (by decide)] at HN
     have p0:(0:Int) < (s.size:Int):=by omega
     unfold PartPost
     generalize strOf (s.data.toList,false).1=u at *
     generalize partP s.data.toList=r at *
     by_cases h1:1 < s.size
     ·have p1:(1:Int) < (s.size:Int):=by omega
      have q2:(((s[0]'hp).toNat:Int)==48)=false:=by
       rw [beq_eq_false_iff_ne]
       intro e
       exact ho ⟨h1,by omega⟩
      clear hh h0 hs hne hb HHead ho h1
      go_enter Tryz.func167,Tryz.ntmps167
      go_wp2_with fail
      refine (HC.out _).mono ?_
      rintro e wz ⟨rfl,rfl⟩
      go_wp2_with fail
      refine (HN.out _).mono ?_
      rintro e wz ⟨rfl,rfl⟩
      go_wp2_with fail
      go_ret2
      exact ⟨rfl,rfl⟩
     ·have p1:¬(1:Int) < (s.size:Int):=by omega
      clear hh h0 hs hne hb HHead ho h1
      go_enter Tryz.func167,Tryz.ntmps167
      go_wp2_with fail
      refine (HC.out _).mono ?_
      rintro e wz ⟨rfl,rfl⟩
      go_wp2_with fail
      refine (HN.out _).mono ?_
      rintro e wz ⟨rfl,rfl⟩
      go_wp2_with fail
      go_ret2
      exact ⟨rfl,rfl⟩
theorem Row.upto {α:Type} {f:α→Value} {w:World} {a:Option Addr} {n cap:Nat} {l:List α} (h:Row f w (.slice a n cap) l) (k:Nat) (hk:k≤l.length):Row f w (.slice a k cap) (l.take k):=by
 obtain ⟨a',cap',he,h1,h2,h3⟩:=h
 injection he with e1 e2 e3
 subst e1 e2 e3
 have hl:(l.take k).length=k:=by rw [List.length_take];omega
 refine ⟨a,cap,by rw [hl],by omega,h2,fun hne=>?_⟩
 obtain ⟨b,off,e,hlt,hc⟩:=h3 (by intro e;rw [e] at hne;simp at hne)
 refine ⟨b,off,e,hlt,fun i hi=>?_⟩
 rw [hl] at hi
 rw [hc i (by omega)]
 congr 1
 rw [List.getElem_take]
theorem Row.lastAt {α:Type} {f:α→Value} {w:World} {v:Value} {l:List α} (h:Row f w v l) (hne:l≠[]):∃m b off cap q,l.length=m+1∧l.getLast? = some q∧v=.slice (some ⟨b,off,none⟩) (m+1) cap∧m+1≤cap∧cap≤maxLen∧w.cell? ⟨b,off+m,none⟩=some (f q):=by
 obtain ⟨a,cap,rfl,h1,h2,h3⟩:=h
 obtain ⟨b,off,rfl,hlt,hc⟩:=h3 hne
 have hp:0 < l.length:=List.length_pos_iff.2 hne
 obtain ⟨m,hm⟩:∃m,l.length=m+1:=⟨l.length-1,by omega⟩
 refine ⟨m,b,off,cap,l[m]'(by omega),hm,?_,by rw [hm],by omega,h2,hc m (by omega)⟩
 have e:l.length-1=m:=by omega
 rw [List.getLast?_eq_getElem?,e]
 exact List.getElem?_eq_getElem (by omega)
theorem splitR_len (s:ByteArray):(splitR 46 s.data.toList).length≤s.size+1:=by
 have:=splitG_len 46 s.data.toList []
 rw [bytes_num] at this
 exact this
theorem mem_split {sep:UInt8}:∀(l acc:List UInt8) (p:List UInt8),p∈splitG sep acc l→p.length≤acc.length+l.length
 | [],acc,p,h=>by rw [splitG_nil,List.mem_singleton] at h;rw [h];simp
 | c::r,acc,p,h=>by
   by_cases hc:c=sep
   ·subst hc
    rw [splitG_sep] at h
    rcases List.mem_cons.1 h with rfl | h
    ·omega
    ·have:=mem_split r [] p h;simp at this ⊢;omega
   ·rw [splitG_other hc] at h
    have:=mem_split r _ p h
    rw [List.length_append] at this
    simp at this ⊢
    omega
theorem mem_parts {l p:List UInt8} (h:p∈partsR l):p.length≤l.length:=by
 have hs:p∈splitR 46 l:=by
  unfold partsR at h
  split at h
  ·exact List.dropLast_subset _ h
  ·exact h
 have:=mem_split l [] p hs
 simpa using this
def P4Post (l:List UInt8) (w:World) (e:Ending) (w':World):Prop:=e=.returned (.tuple #[.int .u32 ((parse4R l).1:Int),.int .i64 ((parse4R l).2:Int)])∧Below w.heap.size w w'
theorem P4Post.mk {l:List UInt8} {w w':World} {n m:Nat} (h:parse4R l=(n,m)) (hb:Below w.heap.size w w'):P4Post l w (.returned (.tuple #[.int .u32 (n:Int),.int .i64 (m:Int)])) w':=by unfold P4Post;rw [h];exact ⟨rfl,hb⟩
theorem parse4_long {l:List UInt8} (h:4000 < l.length):parse4R l=(0,11):=by unfold parse4R;rw [if_pos h]
theorem parse4_many {l:List UInt8} (h:¬4000 < l.length) (h4:4 < (partsR l).length):parse4R l=(0,4):=by unfold parse4R;rw [if_neg h,if_pos h4]
theorem parse4_form {l:List UInt8} (h:¬4000 < l.length) (h4:¬4 < (partsR l).length) (hn:numsR (partsR l)=none):parse4R l=(0,4):=by unfold parse4R;rw [if_neg h,if_neg h4,hn]
def NumsAt (ps:List (List UInt8)) (k:Nat) (ns:List Nat):Prop:=ns.length=k∧numsR ps=(numsR (ps.drop k)).map (ns++·)
theorem NumsAt.start (ps:List (List UInt8)):NumsAt ps 0 []:=⟨rfl,by simp⟩
theorem nums_at {ps:List (List UInt8)} {k:Nat} (h:k < ps.length):numsR (ps.drop k)=match numR ps[k] with
 | none=>none
 | some n=>(numsR (ps.drop (k+1))).map (n::·):=by
 rw [List.drop_eq_getElem_cons h]
 rfl
theorem NumsAt.none {ps:List (List UInt8)} {k:Nat} {ns:List Nat} (h:NumsAt ps k ns) (hk:k < ps.length) (hn:numR ps[k]=none):numsR ps=none:=by
 rw [h.2,nums_at hk,hn]
 rfl
theorem NumsAt.step {ps:List (List UInt8)} {k n:Nat} {ns:List Nat} (h:NumsAt ps k ns) (hk:k < ps.length) (hn:numR ps[k]=some n):NumsAt ps (k+1) (ns++[n]):=by
 refine ⟨by rw [List.length_append,h.1];rfl,?_⟩
 rw [h.2,nums_at hk,hn]
 simp only [Option.map_map]
 congr 1
 funext x
 simp
theorem NumsAt.done {ps:List (List UInt8)} {k:Nat} {ns:List Nat} (h:NumsAt ps k ns) (hk:¬k < ps.length):numsR ps=some ns:=by
 rw [h.2,List.drop_of_length_le (by omega)]
 simp [numsR]
theorem row_at {α:Type} {f:α→Value} {w:World} {a:Option Addr} {n cap k:Nat} {l:List α} (h:Row f w (.slice a n cap) l) (hk:k < l.length):∃b off,a=some ⟨b,off,none⟩∧b < w.heap.size∧w.cell? ⟨b,off+k,none⟩=some (f l[k]):=by
 obtain ⟨a',cap',he,_,_,h3⟩:=h
 injection he with e1 e2 e3
 obtain ⟨b,off,e,hlt,hc⟩:=h3 (by intro h;simp [h] at hk)
 exact ⟨b,off,e1.trans e,hlt,hc k hk⟩
theorem ext_one (s:ByteArray) (h:1≤s.size):(s.extract 0 1).toList=s.data.toList.take 1:=by
 rw [ByteArray.toList_eq,cut_mid s 0 1 h]
 rfl
theorem head_one (l:List UInt8):(l.take 1==[91])=decide (l.head? = some 91):=by
 match l with
 | []=>rfl
 | a::r =>
   show ([a]==[91])=decide (some a=some 91)
   by_cases h:a=91
   ·rw [h];rfl
   ·rw [decide_eq_false (by simpa using h),beq_eq_false_iff_ne]
    simpa using h
theorem hpre_calls (s:ByteArray) (w:World) (hs:s.size≤100000) :
 Calls Tryz.prog 52 #[.string s,.string ⟨#[91]⟩] w fun e w'=>e=.returned (.bool (decide (s.data.toList.head? = some 91)))∧w'=w:=by
 have s1:(s.size:Int)≤100000:=by omega
 obtain ⟨R,hR⟩:∃R,decide (s.data.toList.head? = some 91)=R:=⟨_,rfl⟩
 rw [hR]
 by_cases h1:1≤s.size
 ·have e1:=ext_one s h1
  have e2:(s.data.toList.take 1==[91])=R:=(head_one _).trans hR
  have g:(1:Int)≤(s.size:Int):=by omega
  generalize s.data.toList.take 1=T at *
  clear hR h1 hs
  cases R
  ·go_enter Tryz.func52,Tryz.ntmps52
   go_wp2
   go_ret
   exact ⟨rfl,rfl⟩
  ·go_enter Tryz.func52,Tryz.ntmps52
   go_wp2
   go_ret
   exact ⟨rfl,rfl⟩
 ·have g:¬(1:Int)≤(s.size:Int):=by omega
  have HX:Hid (R=false):=by
   show _=_
   rw [← hR,decide_eq_false]
   intro e
   have:=List.mem_of_mem_head? e
   have h0:s.data.toList=[]:=List.eq_nil_of_length_eq_zero (by rw [bytes_num];omega)
   rw [h0] at this
   cases this
  clear hR h1 hs
  go_enter Tryz.func52,Tryz.ntmps52
  go_wp2
  go_ret
  exact ⟨by rw [HX.out];rfl,rfl⟩
def cutL (l:List UInt8):List UInt8×Bool:=if l.getLast? = some 93 then (l.dropLast,true) else (l,false)
theorem ext_last (s:ByteArray) (h:1≤s.size):(s.extract (s.size-1) s.size).toList=s.data.toList.drop (s.size-1):=by
 rw [ByteArray.toList_eq,cut_mid s (s.size-1) s.size (Nat.le_refl _),List.take_of_length_le (by rw [List.length_drop,bytes_num];omega)]
 rfl
theorem ext_init (s:ByteArray):s.extract 0 (s.size-1)=strOf s.data.toList.dropLast:=by
 rw [cut_mid s 0 (s.size-1) (by omega),List.dropLast_eq_take,bytes_num,List.drop_zero,Nat.sub_zero]
theorem last_one (l:List UInt8) (h:l≠[]):(l.drop (l.length-1)==[93])=decide (l.getLast? = some 93):=by
 obtain ⟨a,b,rfl⟩:∃a b,l=a++[b]:=⟨l.dropLast,l.getLast h,(List.dropLast_concat_getLast h).symm⟩
 rw [List.length_append,List.length_singleton,Nat.add_sub_cancel,List.drop_left,List.getLast?_concat]
 by_cases e:b=93
 ·rw [e];rfl
 ·rw [decide_eq_false (by simpa using e),beq_eq_false_iff_ne]
  simpa using e
theorem hcut_calls (s:ByteArray) (w:World) (hs:s.size≤100000) :
 Calls Tryz.prog 43 #[.string s,.string ⟨#[93]⟩] w fun e w'=>e=.returned (.tuple #[.string (strOf (cutL s.data.toList).1),.bool (cutL s.data.toList).2])∧w'=w:=by
 have s1:(s.size:Int)≤100000:=by omega
 have s2:Hid (s=strOf s.data.toList):=of_data s
 obtain ⟨R,hR⟩:∃R,R=cutL s.data.toList:=⟨_,rfl⟩
 rw [← hR]
 by_cases h1:1≤s.size
 ·have hne:s.data.toList≠[]:=by
   intro e
   have:=bytes_num s
   rw [e] at this
   simp at this
   omega
  have e1:=ext_last s h1
  have e0:=last_one _ hne
  rw [bytes_num] at e0
  have hcut:=ext_init s
  have g:(1:Int)≤(s.size:Int):=by omega
  have g2:(s.size:Int)-1=((s.size-1:Nat):Int):=by omega
  have g3:IntKind.wrap .i64 ((s.size-1:Nat):Int)=((s.size-1:Nat):Int):=by rw [IntKind.wrap_i64];omega
  have g4:((s.size-1:Nat):Int)≤(s.size:Int):=by omega
  cases hm:decide (s.data.toList.getLast? = some 93) with
  | true =>
    rw [hm] at e0
    have hm':=of_decide_eq_true hm
    have HX:Hid (R=(s.data.toList.dropLast,true)):=by show _=_;rw [hR];unfold cutL;rw [if_pos hm']
    have HX1:Hid (strOf R.1=strOf s.data.toList.dropLast):=by show _=_;rw [HX.out]
    have HX2:Hid (R.2=true):=by show _=_;rw [HX.out]
    generalize strOf s.data.toList.dropLast=t at *
    generalize s.data.toList.drop (s.size-1)=T at *
    clear hR h1 hs hm hm' HX hne
    generalize s.size-1=k at *
    go_enter Tryz.func43,Tryz.ntmps43
    go_wp2
    go_ret2
    exact ⟨by rw [HX1.out,HX2.out];rfl,rfl⟩
  | false =>
    rw [hm] at e0
    have hm':=of_decide_eq_false hm
    have HX:Hid (R=(s.data.toList,false)):=by show _=_;rw [hR];unfold cutL;rw [if_neg hm']
    have HX1:Hid (strOf R.1=s):=by show _=_;rw [HX.out];exact s2.out.symm
    have HX2:Hid (R.2=false):=by show _=_;rw [HX.out]
    generalize s.data.toList.drop (s.size-1)=T at *
    clear hR h1 hs hm hm' HX hne hcut s2
    generalize s.size-1=k at *
    go_enter Tryz.func43,Tryz.ntmps43
    go_wp2
    go_ret2
    exact ⟨by rw [HX1.out,HX2.out];rfl,rfl⟩
 ·have g:¬(1:Int)≤(s.size:Int):=by omega
  have HX:Hid (R=(s.data.toList,false)):=by
   show _=_
   rw [hR]
   unfold cutL
   rw [if_neg]
   intro e
   have:=List.mem_of_getLast? e
   have h0:s.data.toList=[]:=List.eq_nil_of_length_eq_zero (by rw [bytes_num];omega)
   rw [h0] at this
   cases this
  have HX1:Hid (strOf R.1=s):=by show _=_;rw [HX.out];exact s2.out.symm
  have HX2:Hid (R.2=false):=by show _=_;rw [HX.out]
  clear hR h1 hs HX s2
  go_enter Tryz.func43,Tryz.ntmps43
  go_wp2
  go_ret2
  exact ⟨by rw [HX1.out,HX2.out];rfl,rfl⟩
end Go.Proofs.YtigfgloenjoeoaaGreatDoor
