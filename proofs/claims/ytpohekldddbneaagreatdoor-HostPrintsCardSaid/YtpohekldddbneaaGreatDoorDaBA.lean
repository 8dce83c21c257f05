import Derived.Test.YtpohekldddbneaaGreatDoorDaAZ
import Derived.Test.YtpohekldddbneaaGreatDoorDaAU
import Derived.Test.YtpohekldddbneaaGreatDoorDaAC
import Derived.Test.YtpohekldddbneaaGreatDoorDaAO
import Derived.Test.YtpohekldddbneaaGreatDoorDaAA
import Derived.Test.YtpohekldddbneaaGreatDoorDaAT
set_option linter.unusedVariables false
set_option linter.unusedSimpArgs false
set_option maxRecDepth 20000
set_option maxHeartbeats 16000000
namespace Go.Proofs.YtpohekldddbneaaGreatDoor
open Go.RowKit
theorem insF_most:∀(f:Nat) (out:List Nat) (ds:List (Option Nat)) (s a b:Nat) (fl:Bool) (m:List Nat),out.length≤256→insF f out ds s a b fl=some m→m.length≤256
 | 0,out,ds,s,a,b,fl,m,hl,h=>by
   unfold insF at h
   split at h
   ·injection h with h;subst h;exact hl
   ·cases h
 | f+1,out,ds,s,a,b,fl,m,hl,h=>by
   rw [insF_succ] at h
   split at h
   ·injection h with h;subst h;exact hl
   ·split at h
    ·cases h
    ·rename_i h256
     cases hr:rd ds a 1 36 b with
     | none=>rw [hr] at h;cases h
     | some x =>
       rw [hr] at h
       obtain ⟨to,rest⟩:=x
       simp only at h
       split at h
       ·have hp:to%(out.length+1)≤out.length:=by have:=Nat.mod_lt to (y:=out.length+1) (by omega);omega
        exact insF_most f _ _ _ _ _ _ m (by have:=ins_len out (to%(out.length+1)) (s+to/(out.length+1)) hp;unfold ins at this;omega) h
       ·cases h
theorem dec_most (s:ByteArray) (m:List Nat) (h:dec s=some m):m.length≤256:=by
 unfold dec at h
 split at h
 ·exact insF_most _ _ _ _ _ _ _ m (by simp) h
 ·split at h
  ·cases h
  ·split at h
   ·exact insF_most _ _ _ _ _ _ _ m (by simp;omega) h
   ·cases h
theorem decR_most (s:ByteArray):(ints (decR s).1).length≤256:=by
 unfold decR
 split
 ·simp [ints]
 ·split
  ·simp [ints]
  ·rename_i m h
   have:=dec_most s m h
   simpa [ints] using this
theorem str_join (p:ByteArray):(⟨#[120,110,45,45]⟩:ByteArray)++p=strOf ([120,110,45,45]++bytesOf p):=by
 unfold strOf bytesOf
 apply ByteArray.ext
 simp
theorem str_drop (l:List UInt8) (k:Nat) (h:k≤l.length):(strOf l).extract k (strOf l).size=strOf (l.drop k):=by
 apply ByteArray.ext
 have h1:((strOf l).extract k (strOf l).size).data.toList=l.drop k:=by
  rw [strOf_size]
  simp [ByteArray.data_extract,strOf]
  try (rw [List.take_of_length_le];simp)
 have:((strOf l).extract k (strOf l).size).data=(l.drop k).toArray:=by rw [← h1]
 rw [this];rfl
theorem labR_mark {l:List Int} (h:asciiB l=false) (hm:markB (textL l)=true):labR l=(strOf [],4):=by unfold labR;rw [if_pos h,if_pos hm]
theorem labR_bad {l:List Int} (h:asciiB l=false) (hm:markB (textL l)=false) (he:(encR l).2≠0):labR l=(strOf [],(encR l).2):=by unfold labR;rw [if_pos h,if_neg (by rw [hm];decide),if_neg he]
theorem labR_high {l:List Int} (h:asciiB l=false) (hm:markB (textL l)=false) (he:(encR l).2=0):labR l=(strOf ([120,110,45,45]++bytesOf (encR l).1),0):=by unfold labR;rw [if_pos h,if_neg (by rw [hm];decide),if_pos he]
theorem labR_plain {l:List Int} (h:asciiB l=true) (hm:markB (textL l)=false):labR l=(textB l,0):=by unfold labR;rw [if_neg (by rw [h];decide),if_pos hm]
theorem labR_back {l:List Int} (h:asciiB l=true) (hm:markB (textL l)=true):labR l=if backOk (strOf ((textL l).drop 4))=true then (textB l,0) else (strOf [],4):=by unfold labR;rw [if_neg (by rw [h];decide),if_neg (by rw [hm];decide)]
theorem kind_take (l:List Int) (k:Nat) (h:k < l.length) (h1:∀c∈l.take k,kindR c=1) (h2:kindR l[k]=1):∀c∈l.take (k+1),kindR c=1:=by
 intro c hc
 rw [List.take_succ_eq_append_getElem h] at hc
 rcases List.mem_append.1 hc with g | g
 ·exact h1 c g
 ·rw [List.mem_singleton.1 g];exact h2
theorem backOk_err {t:ByteArray} (h:(decR t).2≠0):backOk t=false:=by unfold backOk;simp [h]
theorem backOk_ascii {t:ByteArray} (h:asciiB (ints (decR t).1)=true):backOk t=false:=by unfold backOk;simp [h]
theorem backOk_mark {t:ByteArray} (h:markB (textL (ints (decR t).1))=true):backOk t=false:=by unfold backOk;simp [h]
theorem backOk_kind {t:ByteArray} {c:Int} (hc:c∈ints (decR t).1) (h:kindR c≠1):backOk t=false:=by
 unfold backOk
 have:(ints (decR t).1).all (fun c=>kindR c==1)=false:=by
  rw [List.all_eq_false]
  exact ⟨c,hc,by simpa using h⟩
 rw [this];simp
theorem backOk_enc {t:ByteArray} (h:(encR (ints (decR t).1)).2≠0):backOk t=false:=by unfold backOk;simp [h]
theorem backOk_ne {t:ByteArray} (h:(bytesOf (encR (ints (decR t).1)).1==bytesOf t)=false):backOk t=false:=by unfold backOk;rw [h];simp
theorem backOk_yes {t:ByteArray} (h1:(decR t).2=0) (h2:asciiB (ints (decR t).1)=false) (h3:markB (textL (ints (decR t).1))=false) (h4:∀c∈ints (decR t).1,kindR c=1) (h5:(encR (ints (decR t).1)).2=0) (h6:(bytesOf (encR (ints (decR t).1)).1==bytesOf t)=true):backOk t=true:=by
 unfold backOk
 rw [h1,h2,h3,h5,h6,List.all_eq_true.2 (fun c hc=>by simpa using h4 c hc)]
 rfl
theorem toList_bytes (s:ByteArray):s.toList=bytesOf s:=by rw [ByteArray.toList_eq];rfl
theorem rlabel_calls (v:Value) (l:List Int) (w:World) (hv:IRow w v l) (hl:l.length≤100000) :
 Calls Tryz.prog 53 #[v] w fun e w'=>e=.returned (.tuple #[.string (labR l).1,.int .i64 (labR l).2])∧Below w.heap.size w w':=by
 have HV:=hid hv
 have HL:=hid hl
 have htl:=text_len l
 have hts:(textB l).size=(textL l).length:=strOf_size _
 have HTM:Hid ((textB l).size≤maxLen):=by show _≤_;rw [hts];unfold maxLen;omega
 have HTS:=hid hts
 have ts1:((textB l).size:Int)≤400000:=by rw [hts];omega
 have HTx:=hid (rtext_calls v l w hv hl)
 have HTB:Hid (bytesOf (textB l)=textL l):=rfl
 obtain ⟨R,hR⟩:∃R,R=labR l:=⟨_,rfl⟩
 rw [← hR]
 have HR:=hid hR
 have HM:=hid (fun w'=>rmarked_calls (textB l) w' HTM.out)
 rw [HTB.out] at HM
 have HTxB:Hid (strOf (textL l)=textB l):=rfl
 rw [HTxB.out] at HTx
 clear hv hl htl hR hts
 cases hasc:asciiB l with
 | false =>
   cases hmk:markB (textL l) with
   | true =>
     have HX:Hid (R=(strOf [],4)):=by show _=_;rw [HR.out,labR_mark hasc hmk]
     rw [hmk] at HM
     have HA:=hid hasc
     clear hasc hmk
     generalize textB l=s at *
     go_enter Tryz.func53,Tryz.ntmps53
     go_wp2_with fail
     refine HTx.out.mono ?_
     rintro e w1 ⟨rfl,hb1⟩
     have HB1:=hid hb1
     have HV1:=hid (HV.out.below hb1)
     clear hb1
     go_wp2_with fail
     refine (rascii_calls _ l _ HV1.out).mono ?_
     rintro e w2 ⟨rfl,rfl⟩
     rw [HA.out]
     go_wp2_with fail
     refine (HM.out _).mono ?_
     rintro e w3 ⟨rfl,rfl⟩
     go_wp2_with fail
     go_ret2
     exact ⟨by rw [HX.out];rfl,HB1.out⟩
   | false =>
     have HXB:Hid ((encR l).2≠0→R=(strOf [],(encR l).2)):=fun h=>by rw [HR.out,labR_bad hasc hmk h]
     have HXG:Hid ((encR l).2=0→R=(strOf ([120,110,45,45]++bytesOf (encR l).1),0)):=fun h=>by rw [HR.out,labR_high hasc hmk h]
     rw [hmk] at HM
     have HA:=hid hasc
     have HPu:=hid (fun w' hv=>puny_calls v l w' hv)
     have hps:=encR_size l
     clear hasc hmk
     generalize textB l=s at *
     generalize encR l=X at *
     obtain ⟨p,n⟩:=X
     simp only at HXB HXG HPu hps
     have p1:(p.size:Int)≤10000000:=by omega
     have hj:=str_join p
     clear hps
     by_cases hn:n=0
     ·subst hn
      have HX:=hid (HXG.out rfl)
      rw [← hj] at HX
      clear HXB HXG hj
      go_enter Tryz.func53,Tryz.ntmps53
      go_wp2_with fail
      refine HTx.out.mono ?_
      rintro e w1 ⟨rfl,hb1⟩
      have HB1:=hid hb1
      have HV1:=hid (HV.out.below hb1)
      clear hb1
      go_wp2_with fail
      refine (rascii_calls _ l _ HV1.out).mono ?_
      rintro e w2 ⟨rfl,rfl⟩
      rw [HA.out]
      go_wp2_with fail
      refine (HM.out _).mono ?_
      rintro e w3 ⟨rfl,rfl⟩
      go_wp2_with fail
      refine (HPu.out _ HV1.out).mono ?_
      rintro e w4 ⟨rfl,hb4⟩
      have HB4:=hid (below_trans HB1.out hb4)
      clear hb4
      go_wp2_with fail
      go_ret2
      exact ⟨by rw [HX.out];rfl,HB4.out⟩
     ·have HX:=hid (HXB.out hn)
      have n1:(n==0)=false:=by rw [beq_eq_false_iff_ne];exact hn
      have n2:(n != 0)=true:=by rw [bne_iff_ne];exact hn
      clear HXB HXG hn hj
      go_enter Tryz.func53,Tryz.ntmps53
      go_wp2_with fail
      refine HTx.out.mono ?_
      rintro e w1 ⟨rfl,hb1⟩
      have HB1:=hid hb1
      have HV1:=hid (HV.out.below hb1)
      clear hb1
      go_wp2_with fail
      refine (rascii_calls _ l _ HV1.out).mono ?_
      rintro e w2 ⟨rfl,rfl⟩
      rw [HA.out]
      go_wp2_with fail
      refine (HM.out _).mono ?_
      rintro e w3 ⟨rfl,rfl⟩
      go_wp2_with fail
      refine (HPu.out _ HV1.out).mono ?_
      rintro e w4 ⟨rfl,hb4⟩
      have HB4:=hid (below_trans HB1.out hb4)
      clear hb4
      go_wp2_with fail
      go_ret2
      exact ⟨by rw [HX.out];rfl,HB4.out⟩
 | true =>
   cases hmk:markB (textL l) with
   | false =>
     have HX:Hid (R=(textB l,0)):=by show _=_;rw [HR.out,labR_plain hasc hmk]
     rw [hmk] at HM
     have HA:=hid hasc
     clear hasc hmk
     generalize textB l=s at *
     go_enter Tryz.func53,Tryz.ntmps53
     go_wp2_with fail
     refine HTx.out.mono ?_
     rintro e w1 ⟨rfl,hb1⟩
     have HB1:=hid hb1
     have HV1:=hid (HV.out.below hb1)
     clear hb1
     go_wp2_with fail
     refine (rascii_calls _ l _ HV1.out).mono ?_
     rintro e w2 ⟨rfl,rfl⟩
     rw [HA.out]
     go_wp2_with fail
     refine (HM.out _).mono ?_
     rintro e w3 ⟨rfl,rfl⟩
     go_wp2_with fail
     go_ret2
     exact ⟨by rw [HX.out];rfl,HB1.out⟩
   | true =>
     have h4:4≤(textL l).length:=by
      have h:=hmk
      unfold markB at h
      have h2:=congrArg List.length (beq_iff_eq.1 h)
      rw [List.length_take] at h2
      simp at h2
      omega
     have HRR:Hid (R=if backOk (strOf ((textL l).drop 4))=true then (textB l,0) else (strOf [],4)):=by show _=_;rw [HR.out,labR_back hasc hmk]
     have hcut:(textB l).extract 4 (textB l).size=strOf ((textL l).drop 4):=str_drop _ 4 h4
     have g4:(4:Int)≤((textB l).size:Int):=by have:=HTS.out;omega
     obtain ⟨t,ht⟩:∃t,t=strOf ((textL l).drop 4):=⟨_,rfl⟩
     rw [← ht] at HRR hcut
     have htz:t.size≤maxLen:=by rw [ht,strOf_size,List.length_drop];have:=HTM.out;have:=HTS.out;omega
     have HTZ:=hid htz
     have etb:=toList_bytes t
     rw [hmk] at HM
     have HA:=hid hasc
     have HUp:=hid (fun w'=>unpuny_calls t w' HTZ.out)
     have HB0:=hid (backOk_err (t:=t))
     have HB1':=hid (backOk_ascii (t:=t))
     have HB2':=hid (backOk_mark (t:=t))
     have HB3':=hid (fun c=>backOk_kind (t:=t) (c:=c))
     have HB4':=hid (backOk_enc (t:=t))
     have HB5':=hid (backOk_ne (t:=t))
     have HB6':=hid (backOk_yes (t:=t))
     have HU256:=hid (decR_most t)
     have HNo:Hid (backOk t=false→R=(strOf [],4)):=fun h=>by rw [HRR.out,h];rfl
     have HYes:Hid (backOk t=true→R=(textB l,0)):=fun h=>by rw [HRR.out,h];rfl
     clear hasc hmk ht htz h4 HRR HR
     generalize textB l=s at *
     generalize backOk t=ok at *
     generalize decR t=D at *
     obtain ⟨du,dn⟩:=D
     simp only at HB0 HB1' HB2' HB3' HB4' HB5' HB6' HU256
     unfold DecPost at HUp
     simp only at HUp
     generalize ints du=u at *
     have HTxu:=hid (fun vu w' hvu=>rtext_calls vu u w' hvu (by have:=HU256.out;omega))
     have hul:=text_len u
     have HMu:=hid (fun w'=>rmarked_calls (strOf (textL u)) w' (by rw [strOf_size];have:=HU256.out;unfold maxLen;omega))
     have HTBu:Hid (bytesOf (strOf (textL u))=textL u):=rfl
     rw [HTBu.out] at HMu
     clear hul
     go_enter Tryz.func53,Tryz.ntmps53
     go_wp2_with fail
     refine HTx.out.mono ?_
     rintro e w1 ⟨rfl,hb1⟩
     have HB1:=hid hb1
     have HV1:=hid (HV.out.below hb1)
     clear hb1
     go_wp2_with fail
     refine (rascii_calls _ l _ HV1.out).mono ?_
     rintro e w2 ⟨rfl,rfl⟩
     rw [HA.out]
     go_wp2_with fail
     refine (HM.out _).mono ?_
     rintro e w3 ⟨rfl,rfl⟩
     go_wp2_with fail
     refine (HUp.out _).mono ?_
     rintro e w4 ⟨⟨vu,rfl,hvu⟩,hb4⟩
     have HB4:=hid (below_trans HB1.out hb4)
     have HU4:=hid hvu
     obtain ⟨ua,uc,rfl,hu1,hu2,hu3⟩:=hvu
     unfold maxLen at hu2
     have uu1:(u.length:Int)≤(uc:Int):=by omega
     have uu2:(uc:Int)≤9223372036854775807:=by omega
     clear hb4 hu1 hu2 hu3 HV1 HB1
     by_cases hdn:dn=0
     ·subst hdn
      go_wp2_with fail
      refine (rascii_calls _ u _ HU4.out).mono ?_
      rintro e w5 ⟨rfl,rfl⟩
      cases hua:asciiB u with
      | true =>
        have HX:=hid (HNo.out (HB1'.out hua))
        clear hua
        go_wp2_with fail
        go_ret2
        exact ⟨by rw [HX.out];rfl,HB4.out⟩
      | false =>
        have HUA:=hid hua
        clear hua
        go_wp2_with fail
        refine (HTxu.out _ _ HU4.out).mono ?_
        rintro e w6 ⟨rfl,hb6⟩
        have HB6:=hid (below_trans HB4.out hb6)
        have HU6:=hid (HU4.out.below hb6)
        clear hb6 HB4 HU4
        go_wp2_with fail
        refine (HMu.out _).mono ?_
        rintro e w7 ⟨rfl,rfl⟩
        cases hum:markB (textL u) with
        | true =>
          have HX:=hid (HNo.out (HB2'.out hum))
          clear hum
          go_wp2_with fail
          go_ret2
          exact ⟨by rw [HX.out];rfl,HB6.out⟩
        | false =>
          have HUM:=hid hum
          clear hum
          go_wp2_with fail
          go_loopw [9] (fun vi wr=>∃k:Nat,k≤u.length∧vi=.int .i64 (k:Int)∧Below w7.heap.size w7 wr∧∀c∈u.take k,kindR c=1) (fun vi _=>u.length-(intOf vi).toNat)
          case atStart=>exact ⟨0,Nat.zero_le _,rfl,Below.refl _ _,by simp⟩
          case round =>
           obtain ⟨k,hk,rfl,hb,hall⟩:=hrel
           have HBr:=hid hb
           have HAL:=hid hall
           have k0:(0:Int)≤(k:Int):=by omega
           clear hb hall
           by_cases hlt:k < u.length
           ·obtain ⟨b,off,rfl,hck⟩:=HU6.out.open HBr.out k hlt
            have k1:(k:Int) < (u.length:Int):=by omega
            have HK:=hid hlt
            have HNx:=hid (kind_take u k hlt HAL.out)
            have HBd:=hid (HB3'.out u[k] (List.getElem_mem hlt))
            generalize u[k]=c at *
            clear hlt hk
            go_wp2_with fail
            refine (rkind_calls c _).mono ?_
            rintro e w8 ⟨rfl,hb8⟩
            have HB8:=hid (below_trans HBr.out hb8)
            have HB8':=hid (below_trans HB6.out HB8.out)
            clear hb8
            generalize kindR c=kc at *
            by_cases h1:kc=1
            ·subst h1
             have HX:=hid (HNx.out rfl)
             go_wp2_with fail
             go_roundw
             case rel=>exact ⟨k+1,HK.out,by go_num,HB8.out,HX.out⟩
             case measure=>have:=HK.out;simp [intOf];omega
            ·have HX:=hid (HNo.out (HBd.out h1))
             have q1:(kc==1)=false:=by rw [beq_eq_false_iff_ne];exact h1
             have q2:(kc != 1)=true:=by rw [bne_iff_ne];exact h1
             clear h1
             go_wp2_with fail
             go_ret2
             exact ⟨by rw [HX.out];rfl,HB8'.out⟩
           ·have hkl:k=u.length:=by omega
            have HKA:Hid (∀c∈u,kindR c=1):=by
             have:=HAL.out
             rw [hkl,List.take_length] at this
             exact this
            have HU8:=hid (HU6.out.below HBr.out)
            have HB8:=hid (below_trans HB6.out HBr.out)
            have g1:¬(k:Int) < (u.length:Int):=by omega
            clear hkl hlt hk
            go_wp2_with fail
            refine (puny_calls _ u _ HU8.out).mono ?_
            rintro e w9 ⟨rfl,hb9⟩
            have HB9:=hid (below_trans HB8.out hb9)
            clear hb9
            generalize encR u=X at *
            obtain ⟨p,n⟩:=X
            simp only at HB4' HB5' HB6' ⊢
            have ep:=toList_bytes p
            by_cases hn:n=0
            ·subst hn
             cases hpq:(bytesOf p==bytesOf t) with
             | true =>
               have HX:=hid (HYes.out (HB6'.out (by first | rfl | trivial) HUA.out HUM.out HKA.out (by first | rfl | trivial) hpq))
               have hpq2:(bytesOf p != bytesOf t)=false:=by rw [bne,hpq];rfl
               go_wp2_with fail
               go_ret2
               exact ⟨by rw [HX.out];rfl,HB9.out⟩
             | false =>
               have HX:=hid (HNo.out (HB5'.out hpq))
               have hpq2:(bytesOf p != bytesOf t)=true:=by rw [bne,hpq];rfl
               go_wp2_with fail
               go_ret2
               exact ⟨by rw [HX.out];rfl,HB9.out⟩
            ·have HX:=hid (HNo.out (HB4'.out hn))
             have q1:(n==0)=false:=by rw [beq_eq_false_iff_ne];exact hn
             have q2:(n != 0)=true:=by rw [bne_iff_ne];exact hn
             clear hn
             go_wp2_with fail
             go_ret2
             exact ⟨by rw [HX.out];rfl,HB9.out⟩
     ·have HX:=hid (HNo.out (HB0.out hdn))
      have q1:(dn==0)=false:=by rw [beq_eq_false_iff_ne];exact hdn
      have q2:(dn != 0)=true:=by rw [bne_iff_ne];exact hdn
      clear hdn
      go_wp2_with fail
      go_ret2
      exact ⟨by rw [HX.out];rfl,HB4.out⟩
def dotB (first:Bool):List UInt8:=if first then [] else [46]
def finA (x:List UInt8):ByteArray×Int:=if 253 < x.length then (strOf [],3) else (strOf x,0)
def goA:List UInt8→Bool→List Int→List Int→ByteArray×Int
 | acc,first,cur,[]=>if (labR cur).2=0 then finA (acc++dotB first++bytesOf (labR cur).1) else (strOf [],(labR cur).2)
 | acc,first,cur,c::r=>if c=46 then (if (labR cur).2=0 then goA (acc++dotB first++bytesOf (labR cur).1) false [] r else (strOf [],(labR cur).2)) else goA acc first (cur++[c]) r
def ascR (l:List Int):ByteArray×Int:=if 256 < l.length then (strOf [],11) else if (l.all fun c=>kindOf c != 4)=true then goA [] true [] (mapOf l) else (strOf [],4)
theorem labR_size (l:List Int) (hl:l.length≤100000):(labR l).1.size≤11000000:=by
 have h1:=text_len l
 have h2:=encR_size l
 have h3:(textB l).size=(textL l).length:=strOf_size _
 unfold labR
 split
 ·split
  ·rw [strOf_size];simp
  ·split
   ·rw [strOf_size];simp [bytesOf_len];omega
   ·rw [strOf_size];simp
 ·split
  ·show (textB l).size≤_;omega
  ·split
   ·show (textB l).size≤_;omega
   ·rw [strOf_size];simp
theorem fine_all {l:List Int} (h:Fine l):(l.all fun c=>kindOf c != 4)=true:=by
 rw [List.all_eq_true]
 intro c hc
 rw [bne_iff_ne]
 exact h c hc
theorem bad_all {l:List Int} {i:Nat} (h:BadAt l i):(l.all fun c=>kindOf c != 4)=false:=by
 rw [List.all_eq_false]
 exact ⟨l[i]'h.1,List.getElem_mem h.1,by simp [h.2.1]⟩
theorem rowI_nil (w:World) (A:Option Addr) (C:Nat) (hC:C≤maxLen):IRow w (.slice A 0 C) []:=⟨A,C,rfl,Nat.zero_le _,hC,fun h=>absurd rfl h⟩
theorem rowI_mid {w:World} {b off n cap:Nat} {l:List Int} (h:IRow w (.slice (some ⟨b,off,none⟩) n cap) l) (f i:Nat) (hf:f < i) (hi:i≤l.length):IRow w (.slice (some ⟨b,off+f,none⟩) (i-f) (cap-f)) ((l.drop f).take (i-f)):=by
 obtain ⟨a',cap',he,h1,h2,h3⟩:=h
 injection he with e1 e2 e3
 subst e1 e2 e3
 have hln:((l.drop f).take (i-f)).length=i-f:=by rw [List.length_take,List.length_drop];omega
 refine ⟨_,_,by rw [hln],by omega,by omega,fun _=>?_⟩
 obtain ⟨b',off',he,hb,hc⟩:=h3 (by intro e;simp [e] at hi;omega)
 injection he with he
 injection he with e1 e2
 subst e1 e2
 refine ⟨b,off+f,rfl,hb,fun j hj=>?_⟩
 have:=hc (f+j) (by omega)
 rw [Nat.add_assoc,this]
 simp
theorem piece_snoc {m:List Int} {f i:Nat} (hf:f≤i) (hi:i < m.length):(m.drop f).take (i-f)++[m[i]]=(m.drop f).take (i+1-f):=by
 rw [show i+1-f=(i-f)+1 by omega]
 rw [List.take_succ_eq_append_getElem (by rw [List.length_drop];omega),List.getElem_drop]
 congr 2
 simp only [show f+(i-f)=i by omega]
theorem str_add (p q:ByteArray):p++q=strOf (bytesOf p++bytesOf q):=by
 unfold strOf bytesOf
 apply ByteArray.ext
 simp
def AscAt (m:List Int) (R:ByteArray×Int) (o:ByteArray) (f i:Nat):Prop :=
 o.size≤i * 11000001∧((f≤i∧i≤m.length∧R=goA (bytesOf o) (decide (f=0)) ((m.drop f).take (i-f)) (m.drop i))∨(i=m.length+1∧R=finA (bytesOf o)))
theorem AscAt.start (m:List Int):AscAt m (goA [] true [] m) (strOf []) 0 0:=by
 unfold AscAt
 refine ⟨?_,.inl ⟨Nat.le_refl _,Nat.zero_le _,?_⟩⟩
 ·rw [strOf_size];exact Nat.zero_le _
 ·simp [bytesOf,strOf]
theorem AscAt.skip {m:List Int} {R:ByteArray×Int} {o:ByteArray} {f i:Nat} (h:AscAt m R o f i) (hi:i < m.length) (hc:m[i]≠46):AscAt m R o f (i+1):=by
 obtain ⟨hs,⟨hf,_,hr⟩ | ⟨h,_⟩⟩:=h
 ·unfold AscAt
  refine ⟨?_,.inl ⟨by omega,hi,?_⟩⟩
  ·refine Nat.le_trans hs (Nat.mul_le_mul_right _ (by omega))
  ·rw [hr,drop_atPu hi]
   show (if m[i]=46 then _ else _)=_
   rw [if_neg hc,piece_snoc hf hi]
 ·omega
theorem AscAt.err {m:List Int} {R:ByteArray×Int} {o:ByteArray} {f i:Nat} (h:AscAt m R o f i) (hi:i=m.length∨∃h:i < m.length,m[i]=46) (he:(labR ((m.drop f).take (i-f))).2≠0):R=(strOf [],(labR ((m.drop f).take (i-f))).2):=by
 obtain ⟨hs,⟨hf,_,hr⟩ | ⟨h,_⟩⟩:=h
 ·rw [hr]
  rcases hi with hi | ⟨hi,hc⟩
  ·have e:m.drop i=[]:=List.drop_eq_nil_of_le (by omega)
   rw [e]
   show (if _ then _ else _)=_
   rw [if_neg he]
  ·rw [drop_atPu hi,hc]
   show (if (46:Int)=46 then _ else _)=_
   rw [if_pos rfl,if_neg he]
 ·rcases hi with hi | ⟨hi,_⟩<;>omega
theorem AscAt.ok {m:List Int} {R:ByteArray×Int} {o:ByteArray} {f i:Nat} (h:AscAt m R o f i) (hml:m.length≤100000) (hi:i=m.length∨∃h:i < m.length,m[i]=46) (he:(labR ((m.drop f).take (i-f))).2=0) (o':ByteArray) (ho:bytesOf o'=bytesOf o++dotB (decide (f=0))++bytesOf (labR ((m.drop f).take (i-f))).1):AscAt m R o' (i+1) (i+1):=by
 have hsz:=labR_size ((m.drop f).take (i-f)) (by rw [List.length_take,List.length_drop];omega)
 obtain ⟨hs,⟨hf,_,hr⟩ | ⟨h,_⟩⟩:=h
 ·unfold AscAt
  refine ⟨?_,?_⟩
  ·rw [Nat.add_mul,Nat.one_mul]
   have:=congrArg List.length ho
   rw [List.length_append,List.length_append,bytesOf_len,bytesOf_len,bytesOf_len] at this
   have hd:(dotB (decide (f=0))).length≤1:=by unfold dotB;split<;>simp
   omega
  ·rcases hi with hi | ⟨hi,hc⟩
   ·right
    refine ⟨by omega,?_⟩
    have e:m.drop i=[]:=List.drop_eq_nil_of_le (by omega)
    rw [hr,e]
    show (if _ then _ else _)=_
    rw [if_pos he,ho]
   ·left
    refine ⟨Nat.le_refl _,hi,?_⟩
    rw [hr,drop_atPu hi,hc]
    show (if (46:Int)=46 then _ else _)=_
    rw [if_pos rfl,if_pos he,ho]
    simp
 ·rcases hi with hi | ⟨hi,_⟩<;>omega
theorem AscAt.fin {m:List Int} {R:ByteArray×Int} {o:ByteArray} {f i:Nat} (h:AscAt m R o f i) (hi:m.length < i):i=m.length+1∧R=finA (bytesOf o):=by
 obtain ⟨hs,⟨hf,h2,hr⟩ | h⟩:=h
 ·omega
 ·exact h
theorem AscAt.le {m:List Int} {R:ByteArray×Int} {o:ByteArray} {f i:Nat} (h:AscAt m R o f i) (hi:i≤m.length):f≤i:=by
 obtain ⟨hs,⟨hf,h2,hr⟩ | ⟨h,_⟩⟩:=h
 ·exact hf
 ·omega
theorem AscAt.size {m:List Int} {R:ByteArray×Int} {o:ByteArray} {f i:Nat} (h:AscAt m R o f i):o.size≤i * 11000001∧i≤m.length+1:=by
 obtain ⟨hs,⟨hf,h2,hr⟩ | ⟨h,_⟩⟩:=h
 ·exact ⟨hs,by omega⟩
 ·exact ⟨hs,by omega⟩
end Go.Proofs.YtpohekldddbneaaGreatDoor
namespace Go.Proofs.YtpohekldddbneaaGreatDoor
def badH (c:Nat):Bool:=one1 [0,9,10,13,32,35,47,58,60,62,63,64,91,92,93,94,124] c
def badB (c:UInt8):Bool:=badH c.toNat
def lowB (c:UInt8):Bool:=decide (c.toNat < 32)||c.toNat==37||c.toNat==127
abbrev HostN:=Int×List UInt8×Nat×List Nat
def host0:HostN:=(0,[],0,z8)
def sixH (p:List Nat×Nat):HostN×Nat:=if p.2=0 then ((3,[],0,p.1),0) else (host0,p.2)
def fourH (p:Nat×Nat):HostN×Nat:=if p.2=0 then ((2,[],p.1,z8),0) else (host0,p.2)
def darkR (l:List UInt8):HostN×Nat:=if l.any badB=true then (host0,4) else if l=[] then (host0,0) else ((4,pctR 1 l,0,z8),0)
def nameR (t:List UInt8):HostN×Nat :=
 if t=[] then (host0,6) else if (t.any lowB||t.any badB)=true then (host0,4)
 else if endsR t=true then fourH (parse4R t) else ((1,t,0,z8),0)
def askedR (l:List UInt8):ByteArray×Int:=ascR (lossyL (unR l))
def specialR (l:List UInt8):HostN×Nat:=if (askedR l).2=0 then nameR (bytesOf (askedR l).1) else (host0,(askedR l).2.toNat)
def bracketR (l:List UInt8):HostN×Nat:=if l.getLast? ≠ some 93∨l.length=1 then (host0,4) else sixH (parse6R l.tail.dropLast)
def hostR (l:List UInt8) (special:Bool):HostN×Nat :=
 if 4000 < l.length then (host0,3)
 else if l.head? = some 91 then bracketR l
 else if special=true then specialR l else darkR l
def printR (h:HostN):List UInt8 :=
 if h.1=1∨h.1=4 then h.2.1 else if h.1=2 then print4R h.2.2.1 else if h.1=3 then 91::(print6R h.2.2.2++[93]) else []
def mayR (h:HostN):Bool:=let r:=hostR (printR h) (h.1==1||h.1==2);r.2==0&&r.1==h
def Good (p:List Int):Prop:=∀c∈p,kindOf c=1∧c≠46
theorem kind_isS {c:Int} (h:kindOf c=1):isS c=true:=by
 rcases Bool.eq_false_or_eq_true (isS c) with g | g
 ·exact g
 ·have:kindOf c=4:=kind_barred (by unfold barred;rw [g];rfl)
  rw [this] at h;cases h
theorem Good.all {p:List Int} (h:Good p):p.all isS=true:=List.all_eq_true.2 fun c hc=>kind_isS (h c hc).1
def goI:List Int→List Int→List (List Int)
 | cur,[]=>[cur]
 | cur,c::r=>if c=46 then cur::goI [] r else goI (cur++[c]) r
def joinA:List UInt8→Bool→List (List Int)→ByteArray×Int
 | acc,first,[]=>finA acc
 | acc,first,p::ps=>if (labR p).2=0 then joinA (acc++dotB first++bytesOf (labR p).1) false ps else (strOf [],(labR p).2)
theorem goA_pieces:∀(r:List Int) (acc:List UInt8) (first:Bool) (cur:List Int),goA acc first cur r=joinA acc first (goI cur r)
 | [],acc,first,cur=>rfl
 | c::r,acc,first,cur=>by
   unfold goA goI
   split
   ·show _=if (labR cur).2=0 then joinA _ false (goI [] r) else _
    rw [goA_pieces r]
   ·exact goA_pieces r acc first (cur++[c])
def joinL:Bool→List (List UInt8)→List UInt8
 | first,[]=>[]
 | first,b::bs=>dotB first++b++joinL false bs
theorem joinL_cons (first:Bool) (b:List UInt8) (bs:List (List UInt8)):joinL first (b::bs)=dotB first++b++joinL false bs:=rfl
theorem joinA_ok:∀(ps:List (List Int)) (acc:List UInt8) (first:Bool),(∀p∈ps,(labR p).2=0)→joinA acc first ps=finA (acc++joinL first (ps.map fun p=>bytesOf (labR p).1))
 | [],acc,first,_=>by simp [joinA,joinL]
 | p::ps,acc,first,h=>by
   unfold joinA
   rw [if_pos (h p List.mem_cons_self),joinA_ok ps _ false (fun q hq=>h q (List.mem_cons_of_mem _ hq))]
   simp [joinL]
theorem joinA_inv:∀(ps:List (List Int)) (acc:List UInt8) (first:Bool) (s:ByteArray),joinA acc first ps=(s,0)→∀p∈ps,(labR p).2=0
 | [],acc,first,s,_=>by intro p hp;cases hp
 | q::ps,acc,first,s,h=>by
   unfold joinA at h
   split at h
   ·intro p hp
    rcases List.mem_cons.1 hp with rfl | hp
    ·assumption
    ·exact joinA_inv ps _ false s h p hp
   ·rename_i hn
    exact absurd (congrArg Prod.snd h) hn
theorem goI_mem:∀(r cur p:List Int),p∈goI cur r→∀c∈p,c∈cur∨(c∈r∧c≠46)
 | [],cur,p,h=>by
   intro c hc
   simp [goI] at h
   subst h
   exact .inl hc
 | x::r,cur,p,h=>by
   unfold goI at h
   intro c hc
   split at h
   ·rcases List.mem_cons.1 h with rfl | h
    ·exact .inl hc
    ·rcases goI_mem r [] p h c hc with g | g
     ·cases g
     ·exact .inr ⟨List.mem_cons_of_mem _ g.1,g.2⟩
   ·rename_i hx
    rcases goI_mem r (cur++[x]) p h c hc with g | g
    ·rcases List.mem_append.1 g with g | g
     ·exact .inl g
     ·rw [List.mem_singleton.1 g];exact .inr ⟨List.mem_cons_self,hx⟩
    ·exact .inr ⟨List.mem_cons_of_mem _ g.1,g.2⟩
theorem goI_good {m:List Int} (h:∀c∈m,kindOf c=1):∀p∈goI [] m,Good p:=by
 intro p hp c hc
 rcases goI_mem m [] p hp c hc with g | g
 ·cases g
 ·exact ⟨h c g.1,g.2⟩
theorem goI_some:∀(r cur:List Int),goI cur r≠[]
 | [],cur=>by simp [goI]
 | x::r,cur=>by
   unfold goI
   split
   ·simp
   ·exact goI_some r _
theorem joinL_len:∀(bs:List (List UInt8)) (first:Bool) (b:List UInt8),b∈bs→b.length≤(joinL first bs).length
 | x::bs,first,b,h=>by
   unfold joinL
   rw [List.length_append,List.length_append]
   rcases List.mem_cons.1 h with rfl | h
   ·omega
   ·have:=joinL_len bs false b h;omega
theorem asc_inv {l:List Int} {s:ByteArray} (h:ascR l=(s,0)):∃ps:List (List Int),ps≠[]∧(∀p∈ps,Good p∧(labR p).2=0∧(labR p).1.size≤253)∧bytesOf s=joinL true (ps.map fun p=>bytesOf (labR p).1)∧s.size≤253:=by
 unfold ascR at h
 split at h
 ·exact absurd (show (11:Int)=0 from congrArg Prod.snd h) (by decide)
 ·split at h
  ·rw [goA_pieces] at h
   have hl:=joinA_inv _ _ _ _ h
   rw [joinA_ok _ _ _ hl,List.nil_append] at h
   unfold finA at h
   split at h
   ·exact absurd (show (3:Int)=0 from congrArg Prod.snd h) (by decide)
   ·rename_i hle
    have hs:strOf (joinL true ((goI [] (mapOf l)).map fun p=>bytesOf (labR p).1))=s:=congrArg Prod.fst h
    have hb:bytesOf s=joinL true ((goI [] (mapOf l)).map fun p=>bytesOf (labR p).1):=by rw [← hs];rfl
    refine ⟨goI [] (mapOf l),goI_some _ _,fun p hp=>⟨goI_good (map_valid l) p hp,hl p hp,?_⟩,hb,by rw [← bytesOf_len,hb];omega⟩
    have:=joinL_len ((goI [] (mapOf l)).map fun p=>bytesOf (labR p).1) true (bytesOf (labR p).1) (List.mem_map.2 ⟨p,hp,rfl⟩)
    rw [bytesOf_len] at this
    omega
  ·exact absurd (show (4:Int)=0 from congrArg Prod.snd h) (by decide)
end Go.Proofs.YtpohekldddbneaaGreatDoor
namespace Go.Proofs.YtpohekldddbneaaGreatDoor
open Go.RowKit
theorem rascii_name_calls (v:Value) (l:List Int) (w:World) (hv:IRow w v l) :
 Calls Tryz.prog 27 #[v] w fun e w'=>e=.returned (.tuple #[.string (ascR l).1,.int .i64 (ascR l).2])∧Below w.heap.size w w':=by
 have HV:=hid hv
 obtain ⟨a,cap,rfl,h1,h2,h3⟩:=hv
 unfold maxLen at h2
 have l2:(l.length:Int)≤(cap:Int):=by omega
 have l3:(cap:Int)≤9223372036854775807:=by omega
 clear h1 h2 h3
 by_cases hlong:256 < l.length
 ·have hX:ascR l=(strOf [],11):=by unfold ascR;rw [if_pos hlong]
  rw [hX]
  have g:(256:Int) < (l.length:Int):=by omega
  clear hlong hX
  go_enter Tryz.func27,Tryz.ntmps27
  go_wp2_with fail
  go_ret2
  exact ⟨rfl,Below.refl _ _⟩
 ·have g:decide ((256:Int) < (l.length:Int))=false:=decide_eq_false (by omega)
  obtain ⟨R,hR⟩:∃R,R=ascR l:=⟨_,rfl⟩
  rw [← hR]
  have hR2:=hR
  unfold ascR at hR2
  rw [if_neg hlong] at hR2
  have HLL:Hid (l.length≤256):=by show _≤_;omega
  rcases fine_or l with hf | ⟨i0,hf⟩
  ·rw [if_pos (fine_all hf)] at hR2
   have HF:=hid hf
   have HS0:Hid (AscAt (mapOf l) R (strOf []) 0 0):=by rw [hR2];exact AscAt.start _
   have HML:Hid ((mapOf l).length≤512):=by show _≤_;have:=map_len l;omega
   have es:(strOf []:ByteArray)=⟨#[]⟩:=rfl
   rw [es] at HS0
   clear hf hR hR2 hlong es
   go_enter Tryz.func27,Tryz.ntmps27
   go_wp2_with fail
   refine (rmap_fine _ l _ HV.out (by have:=HLL.out;omega) HF.out).mono ?_
   rintro e w1 ⟨⟨vm,rfl,hvm⟩,hb1⟩
   have HB1:=hid hb1
   have HVM:=hid hvm.row
   generalize mapOf l=m at *
   rcases hvm.row with ⟨ma,mc,hE0,hE1,hE2,hE3⟩
   subst hE0
   unfold maxLen at hE2
   have mm1:(m.length:Int)≤(mc:Int):=by omega
   have mm2:(mc:Int)≤9223372036854775807:=by omega
   have mm3:(m.length:Int)≤512:=by have:=HML.out;omega
   have HMC:Hid (m.length≤mc∧mc≤maxLen):=⟨hE1,by unfold maxLen;omega⟩
   clear hb1 hvm hE1 hE2 hE3
   go_wp2_with fail
   go_loopw [7,8,9] (fun vo vf vi wr=>∃(o:ByteArray) (f i:Nat),vo=.string o∧vf=.int .i64 (f:Int)∧vi=.int .i64 (i:Int)∧Below w1.heap.size w1 wr∧AscAt m R o f i) (fun _ _ vi _=>m.length+1-(intOf vi).toNat)
   case atStart=>exact ⟨_,0,0,rfl,rfl,rfl,Below.refl _ _,HS0.out⟩
   case round =>
    obtain ⟨o,f,i,rfl,rfl,rfl,hb,hA⟩:=hrel
    have HA:=hid hA
    have HB:=hid hb
    have HBW:=hid (below_trans HB1.out hb)
    obtain ⟨hos,hi1⟩:=hA.size
    have o1:(o.size:Int)≤6000000000:=by have:=HML.out;omega
    have i0:(0:Int)≤(i:Int):=by omega
    have f0:(0:Int)≤(f:Int):=by omega
    clear hb hA HS0
    by_cases hin:i≤m.length
    ·have hfi:=HA.out.le hin
     have g1:(i:Int)≤(m.length:Int):=by omega
     have g2:(f:Int)≤(i:Int):=by omega
     by_cases hlt:i < m.length
     ·obtain ⟨b,off,rfl,hck⟩:=HVM.out.open HB.out i hlt
      have g3:(i:Int) < (m.length:Int):=by omega
      have gd:decide (i < m.length)=true:=decide_eq_true hlt
      by_cases hc:m[i]=46
      ·have HSt:Hid (i=m.length∨∃h:i < m.length,m[i]=46):=.inr ⟨hlt,hc⟩
       rw [hc] at hck
       have HK:Hid (i < m.length+1):=by show _ < _;omega
       have hlt2:=hlt
       have HEr:=hid (HA.out.err HSt.out)
       have HOk:=hid (HA.out.ok (by have:=HML.out;omega) HSt.out)
       have hlz:=labR_size ((m.drop f).take (i-f)) (by rw [List.length_take,List.length_drop];have:=HML.out;omega)
       by_cases hfi2:f=i
       ·have HP:Hid ((m.drop f).take (i-f)=[]):=by show _=_;rw [hfi2];simp
        rw [HP.out] at HEr HOk hlz
        have HLb:=hid (fun w' A C (hC:C≤maxLen)=>rlabel_calls (.slice A 0 C) [] w' (rowI_nil w' A C hC) (by simp))
        subst hfi2
        generalize labR ([]:List Int)=X at *
        obtain ⟨p,n⟩:=X
        simp only at HEr HOk hlz HLb
        have p1:(p.size:Int)≤11000000:=by omega
        by_cases hn:n=0
        ·subst hn
         by_cases hf0:f=0
         ·have gf:¬(0:Int) < (f:Int):=by omega
          have HN:Hid (AscAt m R (o++p) (f+1) (f+1)):=HOk.out (by first | rfl | trivial) _ (by
           rw [str_add,decide_eq_true hf0];simp [dotB,bytesOf,strOf])
          clear HEr HOk hlz hos hi1 hin hfi hf0
          go_wp2_with fail
          all_goals
           refine (HLb.out _ _ _ (by have:=HMC.out;omega)).mono ?_
           rintro e w2 ⟨rfl,hb2⟩
           have HB2:=hid (below_trans HB.out hb2)
           clear hb2
           go_wp2_with fail
           go_roundw
           case rel=>exact ⟨_,_,_,rfl,by go_num,by go_num,HB2.out,HN.out⟩
           case measure=>have:=HK.out;simp [intOf];omega
         ·have gf:(0:Int) < (f:Int):=by omega
          have HN:Hid (AscAt m R ((o++⟨#[46]⟩)++p) (f+1) (f+1)):=HOk.out (by first | rfl | trivial) _ (by
           rw [str_add,str_add,decide_eq_false hf0];simp [dotB,bytesOf,strOf])
          clear HEr HOk hlz hos hi1 hin hfi hf0
          go_wp2_with fail
          all_goals
           refine (HLb.out _ _ _ (by have:=HMC.out;omega)).mono ?_
           rintro e w2 ⟨rfl,hb2⟩
           have HB2:=hid (below_trans HB.out hb2)
           clear hb2
           go_wp2_with fail
           go_roundw
           case rel=>exact ⟨_,_,_,rfl,by go_num,by go_num,HB2.out,HN.out⟩
           case measure=>have:=HK.out;simp [intOf];omega
        ·have HX:=hid (HEr.out hn)
         have n1:(n==0)=false:=by rw [beq_eq_false_iff_ne];exact hn
         have n2:(n != 0)=true:=by rw [bne_iff_ne];exact hn
         clear HEr HOk hlz hos hi1 hin hfi hn
         go_wp2_with fail
         all_goals
          refine (HLb.out _ _ _ (by have:=HMC.out;omega)).mono ?_
          rintro e w2 ⟨rfl,hb2⟩
          have HB2:=hid (below_trans HBW.out hb2)
          clear hb2
          go_wp2_with fail
          go_ret2
          exact ⟨by rw [HX.out];rfl,HB2.out⟩
       ·have hflt:f < i:=by omega
        have hmc2:(mc=f)=False:=eq_false (by have:=HMC.out;omega)
        have hmc3:(f=mc)=False:=eq_false (by have:=HMC.out;omega)
        have HLb:=hid (fun w' hb=>rlabel_calls _ _ w' (rowI_mid (HVM.out.below hb) f i hflt (by omega)) (by rw [List.length_take,List.length_drop];have:=HML.out;omega))
        have HLen:Hid (i-f≤i):=Nat.sub_le _ _
        generalize (m.drop f).take (i-f)=pc at *
        generalize labR pc=X at *
        obtain ⟨p,n⟩:=X
        simp only at HEr HOk hlz HLb
        have p1:(p.size:Int)≤11000000:=by omega
        by_cases hn:n=0
        ·subst hn
         by_cases hf0:f=0
         ·have gf:¬(0:Int) < (f:Int):=by omega
          have HN:Hid (AscAt m R (o++p) (i+1) (i+1)):=HOk.out (by first | rfl | trivial) _ (by
           rw [str_add,decide_eq_true hf0];simp [dotB,bytesOf,strOf])
          clear HEr HOk hlz hos hi1 hin hfi hf0
          go_wp2_with fail
          all_goals
           refine (HLb.out _ HB.out).mono ?_
           rintro e w2 ⟨rfl,hb2⟩
           have HB2:=hid (below_trans HB.out hb2)
           clear hb2
           go_wp2_with fail
           go_roundw
           case rel=>exact ⟨_,_,_,rfl,by go_num,by go_num,HB2.out,HN.out⟩
           case measure=>have:=HK.out;simp [intOf];omega
         ·have gf:(0:Int) < (f:Int):=by omega
          have HN:Hid (AscAt m R ((o++⟨#[46]⟩)++p) (i+1) (i+1)):=HOk.out (by first | rfl | trivial) _ (by
           rw [str_add,str_add,decide_eq_false hf0];simp [dotB,bytesOf,strOf])
          clear HEr HOk hlz hos hi1 hin hfi hf0
          go_wp2_with fail
          all_goals
           refine (HLb.out _ HB.out).mono ?_
           rintro e w2 ⟨rfl,hb2⟩
           have HB2:=hid (below_trans HB.out hb2)
           clear hb2
           go_wp2_with fail
           go_roundw
           case rel=>exact ⟨_,_,_,rfl,by go_num,by go_num,HB2.out,HN.out⟩
           case measure=>have:=HK.out;simp [intOf];omega
        ·have HX:=hid (HEr.out hn)
         have n1:(n==0)=false:=by rw [beq_eq_false_iff_ne];exact hn
         have n2:(n != 0)=true:=by rw [bne_iff_ne];exact hn
         clear HEr HOk hlz hos hi1 hin hfi hn
         go_wp2_with fail
         all_goals
          refine (HLb.out _ HB.out).mono ?_
          rintro e w2 ⟨rfl,hb2⟩
          have HB2:=hid (below_trans HBW.out hb2)
          clear hb2
          go_wp2_with fail
          go_ret2
          exact ⟨by rw [HX.out];rfl,HB2.out⟩
      ·have HN:=hid (HA.out.skip hlt hc)
       have HK:Hid (i < m.length+1):=by show _ < _;omega
       generalize m[i]=c at *
       have q1:(c==46)=false:=by rw [beq_eq_false_iff_ne];exact hc
       have q2:(c != 46)=true:=by rw [bne_iff_ne];exact hc
       clear hc hlt gd hin hfi hos hi1
       go_wp2_with fail
       go_roundw
       case rel=>exact ⟨o,f,i+1,rfl,rfl,by go_num,HB.out,HN.out⟩
       case measure=>have:=HK.out;simp [intOf];omega
     ·have hie:i=m.length:=by omega
      have HSt:Hid (i=m.length∨∃h:i < m.length,m[i]=46):=.inl hie
      have g3:¬(i:Int) < (m.length:Int):=by omega
      have HK:Hid (i < m.length+1):=by show _ < _;omega
      have gd:decide (i < m.length)=false:=decide_eq_false hlt
      have HIE:=hid hie
      clear hie hlt
      have HEr:=hid (HA.out.err HSt.out)
      have HOk:=hid (HA.out.ok (by have:=HML.out;omega) HSt.out)
      have hlz:=labR_size ((m.drop f).take (i-f)) (by rw [List.length_take,List.length_drop];have:=HML.out;omega)
      by_cases hfi2:f=i
      ·have HP:Hid ((m.drop f).take (i-f)=[]):=by show _=_;rw [hfi2];simp
       rw [HP.out] at HEr HOk hlz
       have HLb:=hid (fun w' A C (hC:C≤maxLen)=>rlabel_calls (.slice A 0 C) [] w' (rowI_nil w' A C hC) (by simp))
       subst hfi2
       by_cases hmcf:f=mc
       ·subst hmcf
        generalize labR ([]:List Int)=X at *
        obtain ⟨p,n⟩:=X
        simp only at HEr HOk hlz HLb
        have p1:(p.size:Int)≤11000000:=by omega
        by_cases hn:n=0
        ·subst hn
         by_cases hf0:f=0
         ·have gf:¬(0:Int) < (f:Int):=by omega
          have HN:Hid (AscAt m R (o++p) (f+1) (f+1)):=HOk.out (by first | rfl | trivial) _ (by
           rw [str_add,decide_eq_true hf0];simp [dotB,bytesOf,strOf])
          clear HEr HOk hlz hos hi1 hin hfi hf0
          go_wp2_with fail
          all_goals
           refine (HLb.out _ _ _ (by have:=HMC.out;omega)).mono ?_
           rintro e w2 ⟨rfl,hb2⟩
           have HB2:=hid (below_trans HB.out hb2)
           clear hb2
           go_wp2_with fail
           go_roundw
           case rel=>exact ⟨_,_,_,rfl,by go_num,by go_num,HB2.out,HN.out⟩
           case measure=>have:=HK.out;simp [intOf];omega
         ·have gf:(0:Int) < (f:Int):=by omega
          have HN:Hid (AscAt m R ((o++⟨#[46]⟩)++p) (f+1) (f+1)):=HOk.out (by first | rfl | trivial) _ (by
           rw [str_add,str_add,decide_eq_false hf0];simp [dotB,bytesOf,strOf])
          clear HEr HOk hlz hos hi1 hin hfi hf0
          go_wp2_with fail
          all_goals
           refine (HLb.out _ _ _ (by have:=HMC.out;omega)).mono ?_
           rintro e w2 ⟨rfl,hb2⟩
           have HB2:=hid (below_trans HB.out hb2)
           clear hb2
           go_wp2_with fail
           go_roundw
           case rel=>exact ⟨_,_,_,rfl,by go_num,by go_num,HB2.out,HN.out⟩
           case measure=>have:=HK.out;simp [intOf];omega
        ·have HX:=hid (HEr.out hn)
         have n1:(n==0)=false:=by rw [beq_eq_false_iff_ne];exact hn
         have n2:(n != 0)=true:=by rw [bne_iff_ne];exact hn
         clear HEr HOk hlz hos hi1 hin hfi hn
         go_wp2_with fail
         all_goals
          refine (HLb.out _ _ _ (by have:=HMC.out;omega)).mono ?_
          rintro e w2 ⟨rfl,hb2⟩
          have HB2:=hid (below_trans HBW.out hb2)
          clear hb2
          go_wp2_with fail
          go_ret2
          exact ⟨by rw [HX.out];rfl,HB2.out⟩
       ·have hm1:(mc=f)=False:=eq_false (fun e=>hmcf e.symm)
        have hm2:(f=mc)=False:=eq_false hmcf
        clear hmcf
        generalize labR ([]:List Int)=X at *
        obtain ⟨p,n⟩:=X
        simp only at HEr HOk hlz HLb
        have p1:(p.size:Int)≤11000000:=by omega
        by_cases hn:n=0
        ·subst hn
         by_cases hf0:f=0
         ·have gf:¬(0:Int) < (f:Int):=by omega
          have HN:Hid (AscAt m R (o++p) (f+1) (f+1)):=HOk.out (by first | rfl | trivial) _ (by
           rw [str_add,decide_eq_true hf0];simp [dotB,bytesOf,strOf])
          clear HEr HOk hlz hos hi1 hin hfi hf0
          go_wp2_with fail
          all_goals
           refine (HLb.out _ _ _ (by have:=HMC.out;omega)).mono ?_
           rintro e w2 ⟨rfl,hb2⟩
           have HB2:=hid (below_trans HB.out hb2)
           clear hb2
           go_wp2_with fail
           go_roundw
           case rel=>exact ⟨_,_,_,rfl,by go_num,by go_num,HB2.out,HN.out⟩
           case measure=>have:=HK.out;simp [intOf];omega
         ·have gf:(0:Int) < (f:Int):=by omega
          have HN:Hid (AscAt m R ((o++⟨#[46]⟩)++p) (f+1) (f+1)):=HOk.out (by first | rfl | trivial) _ (by
           rw [str_add,str_add,decide_eq_false hf0];simp [dotB,bytesOf,strOf])
          clear HEr HOk hlz hos hi1 hin hfi hf0
          go_wp2_with fail
          all_goals
           refine (HLb.out _ _ _ (by have:=HMC.out;omega)).mono ?_
           rintro e w2 ⟨rfl,hb2⟩
           have HB2:=hid (below_trans HB.out hb2)
           clear hb2
           go_wp2_with fail
           go_roundw
           case rel=>exact ⟨_,_,_,rfl,by go_num,by go_num,HB2.out,HN.out⟩
           case measure=>have:=HK.out;simp [intOf];omega
        ·have HX:=hid (HEr.out hn)
         have n1:(n==0)=false:=by rw [beq_eq_false_iff_ne];exact hn
         have n2:(n != 0)=true:=by rw [bne_iff_ne];exact hn
         clear HEr HOk hlz hos hi1 hin hfi hn
         go_wp2_with fail
         all_goals
          refine (HLb.out _ _ _ (by have:=HMC.out;omega)).mono ?_
          rintro e w2 ⟨rfl,hb2⟩
          have HB2:=hid (below_trans HBW.out hb2)
          clear hb2
          go_wp2_with fail
          go_ret2
          exact ⟨by rw [HX.out];rfl,HB2.out⟩
      ·have hflt:f < i:=by omega
       obtain ⟨b,off,rfl,-⟩:=HVM.out.open HB.out f (by omega)
       have hmc2:(mc=f)=False:=eq_false (by have:=HMC.out;omega)
       have hmc3:(f=mc)=False:=eq_false (by have:=HMC.out;omega)
       have HLb:=hid (fun w' hb=>rlabel_calls _ _ w' (rowI_mid (HVM.out.below hb) f i hflt (by omega)) (by rw [List.length_take,List.length_drop];have:=HML.out;omega))
       have HLen:Hid (i-f≤i):=Nat.sub_le _ _
       generalize (m.drop f).take (i-f)=pc at *
       generalize labR pc=X at *
       obtain ⟨p,n⟩:=X
       simp only at HEr HOk hlz HLb
       have p1:(p.size:Int)≤11000000:=by omega
       by_cases hn:n=0
       ·subst hn
        by_cases hf0:f=0
        ·have gf:¬(0:Int) < (f:Int):=by omega
         have HN:Hid (AscAt m R (o++p) (i+1) (i+1)):=HOk.out (by first | rfl | trivial) _ (by
          rw [str_add,decide_eq_true hf0];simp [dotB,bytesOf,strOf])
         clear HEr HOk hlz hos hi1 hin hfi hf0
         go_wp2_with fail
         all_goals
          refine (HLb.out _ HB.out).mono ?_
          rintro e w2 ⟨rfl,hb2⟩
          have HB2:=hid (below_trans HB.out hb2)
          clear hb2
          go_wp2_with fail
          go_roundw
          case rel=>exact ⟨_,_,_,rfl,by go_num,by go_num,HB2.out,HN.out⟩
          case measure=>have:=HK.out;simp [intOf];omega
        ·have gf:(0:Int) < (f:Int):=by omega
         have HN:Hid (AscAt m R ((o++⟨#[46]⟩)++p) (i+1) (i+1)):=HOk.out (by first | rfl | trivial) _ (by
          rw [str_add,str_add,decide_eq_false hf0];simp [dotB,bytesOf,strOf])
         clear HEr HOk hlz hos hi1 hin hfi hf0
         go_wp2_with fail
         all_goals
          refine (HLb.out _ HB.out).mono ?_
          rintro e w2 ⟨rfl,hb2⟩
          have HB2:=hid (below_trans HB.out hb2)
          clear hb2
          go_wp2_with fail
          go_roundw
          case rel=>exact ⟨_,_,_,rfl,by go_num,by go_num,HB2.out,HN.out⟩
          case measure=>have:=HK.out;simp [intOf];omega
       ·have HX:=hid (HEr.out hn)
        have n1:(n==0)=false:=by rw [beq_eq_false_iff_ne];exact hn
        have n2:(n != 0)=true:=by rw [bne_iff_ne];exact hn
        clear HEr HOk hlz hos hi1 hin hfi hn
        go_wp2_with fail
        all_goals
         refine (HLb.out _ HB.out).mono ?_
         rintro e w2 ⟨rfl,hb2⟩
         have HB2:=hid (below_trans HBW.out hb2)
         clear hb2
         go_wp2_with fail
         go_ret2
         exact ⟨by rw [HX.out];rfl,HB2.out⟩
    ·obtain ⟨hie,hfin⟩:=HA.out.fin (by omega)
     have g1:¬(i:Int)≤(m.length:Int):=by omega
     unfold finA at hfin
     rw [bytesOf_len] at hfin
     by_cases hbig:253 < o.size
     ·rw [if_pos hbig] at hfin
      have HX:=hid hfin
      have g2:(253:Int) < (o.size:Int):=by omega
      clear hie hfin hbig hin hos hi1
      go_wp2_with fail
      go_ret2
      exact ⟨by rw [HX.out];rfl,HBW.out⟩
     ·rw [if_neg hbig] at hfin
      have HX:Hid (R=(o,0)):=by show _=_;rw [hfin];rfl
      have g2:¬(253:Int) < (o.size:Int):=by omega
      clear hie hfin hbig hin hos hi1
      go_wp2_with fail
      go_ret2
      exact ⟨by rw [HX.out];rfl,HBW.out⟩
  ·rw [bad_all hf] at hR2
   have HX:Hid (R=(strOf [],4)):=hR2
   have HF:=hid hf
   clear hf hR hR2 hlong
   go_enter Tryz.func27,Tryz.ntmps27
   go_wp2_with fail
   refine (rmap_bad _ l _ HV.out (by have:=HLL.out;omega) i0 HF.out).mono ?_
   rintro e w1 ⟨rfl,hb1⟩
   have HB1:=hid hb1
   clear hb1
   go_wp2_with fail
   go_ret2
   exact ⟨by rw [HX.out];rfl,HB1.out⟩
end Go.Proofs.YtpohekldddbneaaGreatDoor
namespace Go.Proofs.YtpohekldddbneaaGreatDoor
theorem encR_pos (l:List Int):0≤(encR l).2:=by
 unfold encR
 split
 ·decide
 ·split<;>simp
theorem labR_pos (l:List Int):0≤(labR l).2:=by
 unfold labR
 split
 ·split
  ·simp
  ·split
   ·simp
   ·exact encR_pos l
 ·split
  ·simp
  ·split<;>simp
theorem joinA_pos:∀(ps:List (List Int)) (acc:List UInt8) (first:Bool),0≤(joinA acc first ps).2
 | [],acc,first=>by unfold joinA finA;split<;>simp
 | p::ps,acc,first=>by
   unfold joinA
   split
   ·exact joinA_pos ps _ false
   ·exact labR_pos p
theorem ascR_pos (l:List Int):0≤(ascR l).2:=by
 unfold ascR
 split
 ·simp
 ·split
  ·rw [goA_pieces]
   exact joinA_pos _ _ _
  ·simp
theorem host_first1:hostR [69,88,65,77,80,76,69,46,99,111,109] true=((1,[101,120,97,109,112,108,101,46,99,111,109],0,z8),0):=by decide +kernel
theorem host_first2:hostR [49,46,50,46,51] true=((2,[],16908291,z8),0):=by decide +kernel
theorem host_first3:hostR [97,32,98] true=(host0,4):=by decide +kernel
end Go.Proofs.YtpohekldddbneaaGreatDoor
namespace Go.Proofs.YtpohekldddbneaaGreatDoor
open Go.RowKit
theorem iplain_calls (v:Value) (l:List Int) (w:World) (hv:IRow w v l) :
 Calls Tryz.prog 102 #[v] w fun e w'=>e=.returned (.bool (asciiB l))∧w'=w:=by
 have HV:=hid hv
 obtain ⟨a,cap,rfl,h1,h2,h3⟩:=hv
 unfold maxLen at h2
 have l2:(l.length:Int)≤(cap:Int):=by omega
 have l3:(cap:Int)≤9223372036854775807:=by omega
 obtain ⟨R,hR⟩:∃R,R=asciiB l:=⟨_,rfl⟩
 rw [← hR]
 have HR:=hid hR
 clear h1 h2 h3 hR
 go_enter Tryz.func102,Tryz.ntmps102
 go_wp2_with fail
 go_loop [7] (fun vi=>∃k:Nat,k≤l.length∧vi=.int .i64 (k:Int)∧asciiB (l.take k)=true) (fun vi=>l.length-(intOf vi).toNat)
 case atStart=>exact ⟨0,Nat.zero_le _,rfl,rfl⟩
 case round =>
  obtain ⟨k,hk,rfl,hall⟩:=hrel
  have HA:=hid hall
  have k0:(0:Int)≤(k:Int):=by omega
  clear hall
  by_cases hlt:k < l.length
  ·obtain ⟨b,off,rfl,hck⟩:=HV.out.open (Below.refl _ _) k hlt
   have k1:(k:Int) < (l.length:Int):=by omega
   have HS:=hid (ascii_snoc l k hlt)
   have HN:=hid (ascii_not l k hlt)
   have HK:=hid hlt
   generalize l[k]=c at *
   clear hlt hk
   by_cases h0:c < 0
   ·have HF:Hid (R=false):=by show _=_;rw [HR.out];exact HN.out (by omega)
    clear HS HN
    go_wp2_with fail
    go_ret
    exact ⟨by rw [HF.out];rfl,rfl⟩
   ·by_cases h1:128≤c
    ·have HF:Hid (R=false):=by show _=_;rw [HR.out];exact HN.out (by omega)
     clear HS HN
     go_wp2_with fail
     go_ret
     exact ⟨by rw [HF.out];rfl,rfl⟩
    ·have HX:Hid (asciiB (l.take (k+1))=true):=by show _=_;rw [HS.out,HA.out,decide_eq_true (by omega)];rfl
     clear HS HN
     go_wp2_with fail
     go_round
     case rel=>exact ⟨k+1,HK.out,by go_num,HX.out⟩
     case measure=>have:=HK.out;simp [intOf];omega
  ·have hkl:k=l.length:=by omega
   have HF:Hid (R=true):=by show _=_;rw [HR.out,← HA.out,hkl,List.take_length]
   have g:¬(k:Int) < (l.length:Int):=by omega
   clear hlt hk hkl
   go_wp2_with fail
   go_ret
   exact ⟨by rw [HF.out];rfl,rfl⟩
def validB (l:List Int):Bool:=l.all fun c=>kindOf c==1
theorem valid_take (l:List Int) (k:Nat) (h:k < l.length) (h1:∀c∈l.take k,kindOf c=1) (h2:kindOf l[k]=1):∀c∈l.take (k+1),kindOf c=1:=by
 intro c hc
 rw [List.take_succ_eq_append_getElem h] at hc
 rcases List.mem_append.1 hc with g | g
 ·exact h1 c g
 ·rw [List.mem_singleton.1 g];exact h2
theorem valid_not (l:List Int) (k:Nat) (h:k < l.length) (hn:kindOf l[k]≠1):validB l=false:=by
 unfold validB
 rw [List.all_eq_false]
 exact ⟨l[k],List.getElem_mem h,by simpa using hn⟩
theorem ivalid_calls (v:Value) (l:List Int) (w:World) (hv:IRow w v l) :
 Calls Tryz.prog 145 #[v] w fun e w'=>e=.returned (.bool (validB l))∧Below w.heap.size w w':=by
 have HV:=hid hv
 obtain ⟨a,cap,rfl,h1,h2,h3⟩:=hv
 unfold maxLen at h2
 have l2:(l.length:Int)≤(cap:Int):=by omega
 have l3:(cap:Int)≤9223372036854775807:=by omega
 obtain ⟨R,hR⟩:∃R,R=validB l:=⟨_,rfl⟩
 rw [← hR]
 have HR:=hid hR
 clear h1 h2 h3 hR
 go_enter Tryz.func145,Tryz.ntmps145
 go_wp2_with fail
 go_loopw [7] (fun vi wr=>∃k:Nat,k≤l.length∧vi=.int .i64 (k:Int)∧Below w.heap.size w wr∧∀c∈l.take k,kindOf c=1) (fun vi _=>l.length-(intOf vi).toNat)
 case atStart=>exact ⟨0,Nat.zero_le _,rfl,Below.refl _ _,by simp⟩
 case round =>
  obtain ⟨k,hk,rfl,hb,hall⟩:=hrel
  have HA:=hid hall
  have HB:=hid hb
  have k0:(0:Int)≤(k:Int):=by omega
  clear hall hb
  by_cases hlt:k < l.length
  ·obtain ⟨b,off,rfl,hck⟩:=HV.out.open HB.out k hlt
   have k1:(k:Int) < (l.length:Int):=by omega
   have HS:=hid (valid_take l k hlt HA.out)
   have HN:=hid (valid_not l k hlt)
   have HK:=hid hlt
   generalize l[k]=c at *
   clear hlt hk
   go_wp2_with fail
   refine (kind_calls c _).mono ?_
   rintro e w8 ⟨rfl,hb8⟩
   have HB8:=hid (below_trans HB.out hb8)
   clear hb8
   generalize kindOf c=kc at *
   by_cases h1:kc=1
   ·subst h1
    have HX:=hid (HS.out rfl)
    go_wp2_with fail
    go_roundw
    case rel=>exact ⟨k+1,HK.out,by go_num,HB8.out,HX.out⟩
    case measure=>have:=HK.out;simp [intOf];omega
   ·have HX:Hid (R=false):=by show _=_;rw [HR.out];exact HN.out h1
    have q1:(kc==1)=false:=by rw [beq_eq_false_iff_ne];exact h1
    have q2:(kc != 1)=true:=by rw [bne_iff_ne];exact h1
    clear h1
    go_wp2_with fail
    go_ret
    exact ⟨by rw [HX.out];rfl,HB8.out⟩
  ·have hkl:k=l.length:=by omega
   have HF:Hid (R=true):=by
    show _=_
    rw [HR.out]
    unfold validB
    rw [List.all_eq_true]
    intro c hc
    have h:=HA.out
    rw [hkl,List.take_length] at h
    simpa using h c hc
   have g:¬(k:Int) < (l.length:Int):=by omega
   clear hlt hk hkl
   go_wp2_with fail
   go_ret
   exact ⟨by rw [HF.out];rfl,HB.out⟩
theorem hasp_calls (s:ByteArray) (w:World) (hs:s.size≤maxLen) :
 Calls Tryz.prog 19 #[.string s,.string ⟨#[120,110,45,45]⟩] w fun e w'=>e=.returned (.bool (markB (bytesOf s)))∧w'=w:=by
 unfold maxLen at hs
 have s1:(s.size:Int)≤9223372036854775807:=by omega
 have hbl:=bytesOf_len s
 obtain ⟨R,hR⟩:∃R,R=markB (bytesOf s):=⟨_,rfl⟩
 rw [← hR]
 by_cases h4:4≤s.size
 ·have e1:(s.extract 0 4).toList=(bytesOf s).take 4:=by rw [ByteArray.toList_eq];exact extract_bytes s 4 h4
  have e2:((bytesOf s).take 4==[120,110,45,45])=R:=hR.symm
  have g:(4:Int)≤(s.size:Int):=by omega
  generalize (bytesOf s).take 4=T at *
  clear hR hbl h4 hs
  go_enter Tryz.func19,Tryz.ntmps19
  go_wp2
  go_ret
  exact ⟨rfl,rfl⟩
 ·have g:¬(4:Int)≤(s.size:Int):=by omega
  have HF:Hid (R=false):=by
   show _=_
   rw [hR]
   unfold markB
   rw [beq_eq_false_iff_ne]
   intro h
   have:=congrArg List.length h
   rw [List.length_take] at this
   simp at this
   omega
  clear hR hbl h4 hs
  go_enter Tryz.func19,Tryz.ntmps19
  go_wp2
  go_ret
  exact ⟨by rw [HF.out];rfl,rfl⟩
theorem mark_size {s:ByteArray} (h:markB (bytesOf s)=true):4≤s.size:=by
 unfold markB at h
 have h2:=congrArg List.length (beq_iff_eq.1 h)
 rw [List.length_take,bytesOf_len] at h2
 simp at h2
 omega
def cutR (s:ByteArray):ByteArray×Bool:=if markB (bytesOf s)=true then (strOf ((bytesOf s).drop 4),true) else (s,false)
theorem cutp_calls (s:ByteArray) (w:World) (hs:s.size≤maxLen) :
 Calls Tryz.prog 105 #[.string s,.string ⟨#[120,110,45,45]⟩] w fun e w'=>e=.returned (.tuple #[.string (cutR s).1,.bool (cutR s).2])∧w'=w:=by
 have HS:=hid hs
 unfold maxLen at hs
 have s1:(s.size:Int)≤9223372036854775807:=by omega
 have hbl:=bytesOf_len s
 obtain ⟨R,hR⟩:∃R,R=cutR s:=⟨_,rfl⟩
 rw [← hR]
 by_cases h4:4≤s.size
 ·have e1:(s.extract 0 4).toList=(bytesOf s).take 4:=by rw [ByteArray.toList_eq];exact extract_bytes s 4 h4
  have hcut:s.extract 4 s.size=strOf ((bytesOf s).drop 4):=str_drop (bytesOf s) 4 (by omega)
  have g:(4:Int)≤(s.size:Int):=by omega
  cases hm:markB (bytesOf s) with
  | true =>
    have e2:((bytesOf s).take 4==[120,110,45,45])=true:=hm
    have HX:Hid (R=(strOf ((bytesOf s).drop 4),true)):=by show _=_;rw [hR];unfold cutR;rw [if_pos hm]
    generalize strOf ((bytesOf s).drop 4)=t at *
    generalize (bytesOf s).take 4=T at *
    clear hR hbl h4 hs hm
    go_enter Tryz.func105,Tryz.ntmps105
    go_wp2
    go_ret2
    exact ⟨by rw [HX.out];rfl,rfl⟩
  | false =>
    have e2:((bytesOf s).take 4==[120,110,45,45])=false:=hm
    have HX:Hid (R=(s,false)):=by show _=_;rw [hR];unfold cutR;rw [if_neg (by rw [hm];decide)]
    generalize strOf ((bytesOf s).drop 4)=t at *
    generalize (bytesOf s).take 4=T at *
    clear hR hbl h4 hs hm hcut
    go_enter Tryz.func105,Tryz.ntmps105
    go_wp2
    go_ret2
    exact ⟨by rw [HX.out];rfl,rfl⟩
 ·have g:¬(4:Int)≤(s.size:Int):=by omega
  have HX:Hid (R=(s,false)):=by
   show _=_
   rw [hR]
   unfold cutR
   rw [if_neg (fun h=>h4 (mark_size h))]
  clear hR hbl h4 hs
  go_enter Tryz.func105,Tryz.ntmps105
  go_wp2
  go_ret2
  exact ⟨by rw [HX.out];rfl,rfl⟩
def byR (l:List Int):ByteArray×Int:=if markB (textL l)=true then (strOf [],4) else if (encR l).2=0 then (strOf ([120,110,45,45]++bytesOf (encR l).1),0) else (strOf [],(encR l).2)
theorem labR_by {l:List Int} (h:asciiB l=false):labR l=byR l:=by unfold labR byR;rw [if_pos h]
theorem text_size {l:List Int} (hl:l.length≤100000):(strOf (textL l)).size≤maxLen:=by
 have:=text_len l
 rw [strOf_size];unfold maxLen;omega
theorem bypuny_calls (v:Value) (l:List Int) (w:World) (hv:IRow w v l) (hl:l.length≤100000) :
 Calls Tryz.prog 103 #[v] w fun e w'=>e=.returned (.tuple #[.string (byR l).1,.int .i64 (byR l).2])∧Below w.heap.size w w':=by
 have HV:=hid hv
 have HTx:=hid (text_calls v l w hv hl)
 have HM:=hid (fun w'=>hasp_calls (strOf (textL l)) w' (text_size hl))
 have HTB:Hid (bytesOf (strOf (textL l))=textL l):=rfl
 rw [HTB.out] at HM
 obtain ⟨R,hR⟩:∃R,R=byR l:=⟨_,rfl⟩
 rw [← hR]
 have HR:=hid hR
 clear hv hl hR
 cases hmk:markB (textL l) with
 | true =>
   have HX:Hid (R=(strOf [],4)):=by show _=_;rw [HR.out];unfold byR;rw [if_pos hmk]
   rw [hmk] at HM
   clear hmk
   generalize strOf (textL l)=s at *
   go_enter Tryz.func103,Tryz.ntmps103
   go_wp2_with fail
   refine HTx.out.mono ?_
   rintro e w1 ⟨rfl,hb1⟩
   have HB1:=hid hb1
   clear hb1
   go_wp2_with fail
   refine (HM.out _).mono ?_
   rintro e w3 ⟨rfl,rfl⟩
   go_wp2_with fail
   go_ret2
   exact ⟨by rw [HX.out];rfl,HB1.out⟩
 | false =>
   have HXB:Hid ((encR l).2≠0→R=(strOf [],(encR l).2)):=fun h=>by rw [HR.out];unfold byR;rw [if_neg (by rw [hmk];decide),if_neg h]
   have HXG:Hid ((encR l).2=0→R=(strOf ([120,110,45,45]++bytesOf (encR l).1),0)):=fun h=>by rw [HR.out];unfold byR;rw [if_neg (by rw [hmk];decide),if_pos h]
   rw [hmk] at HM
   have HPu:=hid (fun w' hv=>pencode_calls v l w' hv)
   have hps:=encR_size l
   clear hmk
   generalize strOf (textL l)=s at *
   generalize encR l=X at *
   obtain ⟨p,n⟩:=X
   simp only at HXB HXG HPu hps
   have p1:(p.size:Int)≤10000000:=by omega
   have hj:=str_join p
   clear hps
   by_cases hn:n=0
   ·subst hn
    have HX:=hid (HXG.out rfl)
    rw [← hj] at HX
    clear HXB HXG hj
    go_enter Tryz.func103,Tryz.ntmps103
    go_wp2_with fail
    refine HTx.out.mono ?_
    rintro e w1 ⟨rfl,hb1⟩
    have HB1:=hid hb1
    have HV1:=hid (HV.out.below hb1)
    clear hb1
    go_wp2_with fail
    refine (HM.out _).mono ?_
    rintro e w3 ⟨rfl,rfl⟩
    go_wp2_with fail
    refine (HPu.out _ HV1.out).mono ?_
    rintro e w4 ⟨rfl,hb4⟩
    have HB4:=hid (below_trans HB1.out hb4)
    clear hb4
    go_wp2_with fail
    go_ret2
    exact ⟨by rw [HX.out];rfl,HB4.out⟩
   ·have HX:=hid (HXB.out hn)
    have n1:(n==0)=false:=by rw [beq_eq_false_iff_ne];exact hn
    have n2:(n != 0)=true:=by rw [bne_iff_ne];exact hn
    clear HXB HXG hn hj
    go_enter Tryz.func103,Tryz.ntmps103
    go_wp2_with fail
    refine HTx.out.mono ?_
    rintro e w1 ⟨rfl,hb1⟩
    have HB1:=hid hb1
    have HV1:=hid (HV.out.below hb1)
    clear hb1
    go_wp2_with fail
    refine (HM.out _).mono ?_
    rintro e w3 ⟨rfl,rfl⟩
    go_wp2_with fail
    refine (HPu.out _ HV1.out).mono ?_
    rintro e w4 ⟨rfl,hb4⟩
    have HB4:=hid (below_trans HB1.out hb4)
    clear hb4
    go_wp2_with fail
    go_ret2
    exact ⟨by rw [HX.out];rfl,HB4.out⟩
theorem byR_back {u:List Int} {t:ByteArray}:((byR u).2=0∧(bytesOf (byR u).1==[120,110,45,45]++bytesOf t)=true)↔(markB (textL u)=false∧(encR u).2=0∧(bytesOf (encR u).1==bytesOf t)=true):=by
 unfold byR
 cases hm:markB (textL u) with
 | true=>simp
 | false =>
   rw [if_neg (by decide)]
   by_cases he:(encR u).2=0
   ·rw [if_pos he]
    simp [he,bytesOf,strOf]
   ·rw [if_neg he]
    simp [he]
theorem backOk_by {t:ByteArray} (h1:(decR t).2=0) (h2:asciiB (ints (decR t).1)=false) (h3:validB (ints (decR t).1)=true):backOk t=(decide ((byR (ints (decR t).1)).2=0)&&(bytesOf (byR (ints (decR t).1)).1==[120,110,45,45]++bytesOf t)):=by
 have hk:((ints (decR t).1).all fun c=>kindR c==1)=true:=by
  unfold validB at h3
  rw [List.all_eq_true] at h3 ⊢
  intro c hc
  rw [kind_alike]
  exact h3 c hc
 have hb:=byR_back (u:=ints (decR t).1) (t:=t)
 unfold backOk
 rw [h1,h2,hk]
 cases hr:(decide ((byR (ints (decR t).1)).2=0)&&(bytesOf (byR (ints (decR t).1)).1==[120,110,45,45]++bytesOf t)) with
 | true =>
   rw [Bool.and_eq_true,decide_eq_true_eq] at hr
   obtain ⟨g1,g2,g3⟩:=hb.1 hr
   rw [g1,g2,g3];rfl
 | false =>
   have hn:¬(markB (textL (ints (decR t).1))=false∧(encR (ints (decR t).1)).2=0∧(bytesOf (encR (ints (decR t).1)).1==bytesOf t)=true):=by
    intro h
    have g:=hb.2 h
    rw [← decide_eq_true_eq (p:=(byR (ints (decR t).1)).2=0),← Bool.and_eq_true,hr] at g
    cases g
   cases h4:markB (textL (ints (decR t).1)) with
   | true=>rfl
   | false =>
     cases h5:(encR (ints (decR t).1)).2==0 with
     | false=>rfl
     | true =>
       cases h6:(bytesOf (encR (ints (decR t).1)).1==bytesOf t) with
       | false=>rfl
       | true=>exact absurd ⟨h4,beq_iff_eq.1 h5,h6⟩ hn
theorem backOk_valid {t:ByteArray} (h:validB (ints (decR t).1)=false):backOk t=false:=by
 unfold validB at h
 rw [List.all_eq_false] at h
 obtain ⟨c,hc,hk⟩:=h
 exact backOk_kind hc (by rw [kind_alike];simpa using hk)
theorem written_calls (t:ByteArray) (w:World) (ht:t.size≤maxLen) (ht2:t.size≤1000000000) :
 Calls Tryz.prog 106 #[.string t] w fun e w'=>e=.returned (.bool (backOk t))∧Below w.heap.size w w':=by
 have t1:(t.size:Int)≤1000000000:=by omega
 have HD:=hid (fun w'=>pdecode_calls t w' ht)
 have HU256:=hid (decR_most t)
 have HB0:=hid (backOk_err (t:=t))
 have HB1:=hid (backOk_ascii (t:=t))
 have HB2:=hid (backOk_valid (t:=t))
 have HB3:=hid (backOk_by (t:=t))
 have hj:=str_join t
 have etj:=toList_bytes (strOf ([120,110,45,45]++bytesOf t))
 have etb:bytesOf (strOf ([120,110,45,45]++bytesOf t))=[120,110,45,45]++bytesOf t:=rfl
 obtain ⟨R,hR⟩:∃R,R=backOk t:=⟨_,rfl⟩
 rw [← hR] at HB0 HB1 HB2 HB3
 rw [← hR]
 obtain ⟨mt,hmt⟩:∃mt,mt=strOf ([120,110,45,45]++bytesOf t):=⟨_,rfl⟩
 rw [← hmt] at hj etj etb
 rw [← etb] at HB3
 clear ht ht2 hR hmt etb
 generalize decR t=D at *
 obtain ⟨du,dn⟩:=D
 simp only at HB0 HB1 HB2 HB3 HU256
 unfold DecPost at HD
 simp only at HD
 generalize ints du=u at *
 have HBy:=hid (fun vu w' hvu=>bypuny_calls vu u w' hvu (by have:=HU256.out;omega))
 by_cases hdn:dn=0
 ·subst hdn
  cases hua:asciiB u with
  | true =>
    have HX:Hid (R=false):=hid (HB1.out hua)
    have HUA:=hid hua
    clear hua HB0 HB1 HB2 HB3
    go_enter Tryz.func106,Tryz.ntmps106
    go_wp2_with fail
    refine (HD.out _).mono ?_
    rintro e w1 ⟨⟨vu,rfl,hvu⟩,hb1⟩
    have HB1:=hid hb1
    have HU1:=hid hvu
    clear hb1 hvu
    go_wp2_with fail
    refine (iplain_calls _ u _ HU1.out).mono ?_
    rintro e w2 ⟨rfl,rfl⟩
    rw [HUA.out]
    go_wp2_with fail
    go_ret
    exact ⟨by rw [HX.out];rfl,HB1.out⟩
  | false =>
    have HUA:=hid hua
    cases hva:validB u with
    | false =>
      have HX:Hid (R=false):=hid (HB2.out hva)
      have HVA:=hid hva
      clear hua hva HB0 HB1 HB2 HB3
      go_enter Tryz.func106,Tryz.ntmps106
      go_wp2_with fail
      refine (HD.out _).mono ?_
      rintro e w1 ⟨⟨vu,rfl,hvu⟩,hb1⟩
      have HB1:=hid hb1
      have HU1:=hid hvu
      clear hb1 hvu
      go_wp2_with fail
      refine (iplain_calls _ u _ HU1.out).mono ?_
      rintro e w2 ⟨rfl,rfl⟩
      rw [HUA.out]
      go_wp2_with fail
      refine (ivalid_calls _ u _ HU1.out).mono ?_
      rintro e w3 ⟨rfl,hb3⟩
      have HB3:=hid (below_trans HB1.out hb3)
      rw [HVA.out]
      clear hb3
      go_wp2_with fail
      go_ret
      exact ⟨by rw [HX.out];rfl,HB3.out⟩
    | true =>
      have HX:=hid (HB3.out (by first | rfl | trivial) hua hva)
      have HVA:=hid hva
      clear hua hva HB0 HB1 HB2 HB3
      generalize byR u=Y at *
      obtain ⟨p,n⟩:=Y
      simp only at HX HBy
      have ep:=toList_bytes p
      by_cases hn:n=0
      ·subst hn
       obtain ⟨q,hq⟩:∃q,q=(bytesOf p==bytesOf mt):=⟨_,rfl⟩
       have HQ:Hid (R=q):=by show _=_;rw [HX.out,hq];simp
       have hq2:=hq.symm
       clear HX hq
       go_enter Tryz.func106,Tryz.ntmps106
       go_wp2_with fail
       refine (HD.out _).mono ?_
       rintro e w1 ⟨⟨vu,rfl,hvu⟩,hb1⟩
       have HB1:=hid hb1
       have HU1:=hid hvu
       clear hb1 hvu
       go_wp2_with fail
       refine (iplain_calls _ u _ HU1.out).mono ?_
       rintro e w2 ⟨rfl,rfl⟩
       rw [HUA.out]
       go_wp2_with fail
       refine (ivalid_calls _ u _ HU1.out).mono ?_
       rintro e w3 ⟨rfl,hb3⟩
       have HB3:=hid (below_trans HB1.out hb3)
       have HU3:=hid (HU1.out.below hb3)
       rw [HVA.out]
       clear hb3
       go_wp2_with fail
       refine (HBy.out _ _ HU3.out).mono ?_
       rintro e w4 ⟨rfl,hb4⟩
       have HB4:=hid (below_trans HB3.out hb4)
       clear hb4
       go_wp2_with fail
       go_ret
       exact ⟨by rw [HQ.out];rfl,HB4.out⟩
      ·have HQ:Hid (R=false):=by show _=_;rw [HX.out,decide_eq_false hn];rfl
       have n1:(n==0)=false:=by rw [beq_eq_false_iff_ne];exact hn
       have n2:(n != 0)=true:=by rw [bne_iff_ne];exact hn
       clear HX hn
       go_enter Tryz.func106,Tryz.ntmps106
       go_wp2_with fail
       refine (HD.out _).mono ?_
       rintro e w1 ⟨⟨vu,rfl,hvu⟩,hb1⟩
       have HB1:=hid hb1
       have HU1:=hid hvu
       clear hb1 hvu
       go_wp2_with fail
       refine (iplain_calls _ u _ HU1.out).mono ?_
       rintro e w2 ⟨rfl,rfl⟩
       rw [HUA.out]
       go_wp2_with fail
       refine (ivalid_calls _ u _ HU1.out).mono ?_
       rintro e w3 ⟨rfl,hb3⟩
       have HB3:=hid (below_trans HB1.out hb3)
       have HU3:=hid (HU1.out.below hb3)
       rw [HVA.out]
       clear hb3
       go_wp2_with fail
       refine (HBy.out _ _ HU3.out).mono ?_
       rintro e w4 ⟨rfl,hb4⟩
       have HB4:=hid (below_trans HB3.out hb4)
       clear hb4
       go_wp2_with fail
       go_ret
       exact ⟨by rw [HQ.out];rfl,HB4.out⟩
 ·have HX:Hid (R=false):=hid (HB0.out hdn)
  have q1:(dn==0)=false:=by rw [beq_eq_false_iff_ne];exact hdn
  have q2:(dn != 0)=true:=by rw [bne_iff_ne];exact hdn
  clear hdn HB0 HB1 HB2 HB3
  go_enter Tryz.func106,Tryz.ntmps106
  go_wp2_with fail
  refine (HD.out _).mono ?_
  rintro e w1 ⟨⟨vu,rfl,hvu⟩,hb1⟩
  have HB1:=hid hb1
  clear hb1 hvu
  go_wp2_with fail
  go_ret
  exact ⟨by rw [HX.out];rfl,HB1.out⟩
theorem label_calls (v:Value) (l:List Int) (w:World) (hv:IRow w v l) (hl:l.length≤100000) :
 Calls Tryz.prog 68 #[v] w fun e w'=>e=.returned (.tuple #[.string (labR l).1,.int .i64 (labR l).2])∧Below w.heap.size w w':=by
 have HV:=hid hv
 have HBy:=hid (bypuny_calls v l w hv hl)
 have HTx:=hid (text_calls v l w hv hl)
 have HCu:=hid (fun w'=>cutp_calls (strOf (textL l)) w' (text_size hl))
 have htl:=text_len l
 obtain ⟨R,hR⟩:∃R,R=labR l:=⟨_,rfl⟩
 rw [← hR]
 have HR:=hid hR
 clear hR
 cases hasc:asciiB l with
 | false =>
   have HX:Hid (R=byR l):=by show _=_;rw [HR.out,labR_by hasc]
   have HA:=hid hasc
   generalize byR l=Y at *
   obtain ⟨p,n⟩:=Y
   simp only at HBy
   clear hasc hv hl htl HTx HCu
   go_enter Tryz.func68,Tryz.ntmps68
   go_wp2_with fail
   refine (iplain_calls _ l _ HV.out).mono ?_
   rintro e w2 ⟨rfl,rfl⟩
   rw [HA.out]
   go_wp2_with fail
   refine HBy.out.mono ?_
   rintro e w3 ⟨rfl,hb3⟩
   have HB3:=hid hb3
   clear hb3
   go_wp2_with fail
   go_ret2
   exact ⟨by rw [HX.out];rfl,HB3.out⟩
 | true =>
   have HA:=hid hasc
   cases hmk:markB (textL l) with
   | false =>
     have HX:Hid (R=(textB l,0)):=by show _=_;rw [HR.out,labR_plain hasc hmk]
     have hcut:cutR (strOf (textL l))=(strOf (textL l),false):=by unfold cutR;rw [if_neg];show¬markB (textL l)=true;rw [hmk];decide
     rw [hcut] at HCu
     have hTB:strOf (textL l)=textB l:=rfl
     rw [hTB] at HCu HTx
     clear hasc hv hl htl hmk hcut HBy hTB
     generalize textB l=s at *
     go_enter Tryz.func68,Tryz.ntmps68
     go_wp2_with fail
     refine (iplain_calls _ l _ HV.out).mono ?_
     rintro e w2 ⟨rfl,rfl⟩
     rw [HA.out]
     go_wp2_with fail
     refine HTx.out.mono ?_
     rintro e w3 ⟨rfl,hb3⟩
     have HB3:=hid hb3
     clear hb3
     go_wp2_with fail
     refine (HCu.out _).mono ?_
     rintro e w4 ⟨rfl,rfl⟩
     go_wp2_with fail
     go_ret2
     exact ⟨by rw [HX.out];rfl,HB3.out⟩
   | true =>
     have HRR:Hid (R=if backOk (strOf ((textL l).drop 4))=true then (textB l,0) else (strOf [],4)):=by show _=_;rw [HR.out,labR_back hasc hmk]
     have hcut:cutR (strOf (textL l))=(strOf ((textL l).drop 4),true):=by
      show (if markB (textL l)=true then (strOf ((textL l).drop 4),true) else _)=_
      rw [if_pos hmk]
     rw [hcut] at HCu
     have hts:(strOf ((textL l).drop 4)).size≤400000:=by rw [strOf_size,List.length_drop];omega
     have HWr:=hid (fun w'=>written_calls (strOf ((textL l).drop 4)) w' (by unfold maxLen;omega) (by omega))
     have hTB:strOf (textL l)=textB l:=rfl
     rw [hTB] at HCu HTx
     clear hasc hv hl htl hmk hcut HBy hTB hts
     generalize strOf ((textL l).drop 4)=t at *
     generalize textB l=s at *
     cases hok:backOk t with
     | true =>
       have HX:Hid (R=(s,0)):=by show _=_;rw [HRR.out,if_pos hok]
       rw [hok] at HWr
       clear hok HRR
       go_enter Tryz.func68,Tryz.ntmps68
       go_wp2_with fail
       refine (iplain_calls _ l _ HV.out).mono ?_
       rintro e w2 ⟨rfl,rfl⟩
       rw [HA.out]
       go_wp2_with fail
       refine HTx.out.mono ?_
       rintro e w3 ⟨rfl,hb3⟩
       have HB3:=hid hb3
       clear hb3
       go_wp2_with fail
       refine (HCu.out _).mono ?_
       rintro e w4 ⟨rfl,rfl⟩
       go_wp2_with fail
       refine (HWr.out _).mono ?_
       rintro e w5 ⟨rfl,hb5⟩
       have HB5:=hid (below_trans HB3.out hb5)
       clear hb5
       go_wp2_with fail
       go_ret2
       exact ⟨by rw [HX.out];rfl,HB5.out⟩
     | false =>
       have HX:Hid (R=(strOf [],4)):=by show _=_;rw [HRR.out,if_neg (by rw [hok];decide)]
       rw [hok] at HWr
       clear hok HRR
       go_enter Tryz.func68,Tryz.ntmps68
       go_wp2_with fail
       refine (iplain_calls _ l _ HV.out).mono ?_
       rintro e w2 ⟨rfl,rfl⟩
       rw [HA.out]
       go_wp2_with fail
       refine HTx.out.mono ?_
       rintro e w3 ⟨rfl,hb3⟩
       have HB3:=hid hb3
       clear hb3
       go_wp2_with fail
       refine (HCu.out _).mono ?_
       rintro e w4 ⟨rfl,rfl⟩
       go_wp2_with fail
       refine (HWr.out _).mono ?_
       rintro e w5 ⟨rfl,hb5⟩
       have HB5:=hid (below_trans HB3.out hb5)
       clear hb5
       go_wp2_with fail
       go_ret2
       exact ⟨by rw [HX.out];rfl,HB5.out⟩
theorem info_ints:(Tryz.prog.info? 48).map (fun i=>(i.zero,i.size,i.bytes))=some (some (.slice none 0 0),1,24):=by kernel_rfl
theorem append_wide {α:Type} {f:α→Value} {t ts:TypeId} {z:Value} {bytes:Nat} (hf:∀x,(f x).oneCell'=true) (hu:Tryz.prog.underlying ts=some (.slice t)) (hin:(Tryz.prog.info? t).map (fun i=>(i.zero,i.size,i.bytes))=some (some z,1,bytes)) (hz:z.cells.size=1) (hby:bytes≤32)
 {w:World} {base:Nat} {v:Value} {xs:List α} (hown:Own f t w base v xs) {x:Value} {l:List α} (hx:Row f w x l) (hlen:xs.length+l.length≤1000000) (hbase:base≤w.heap.size) :
 ∃v' w',(Builtin.append_ #[ts,ts] ts #[v,x]).run Tryz.prog w=.ok v' w'∧Own f t w' base v' (xs++l)∧w.grownBy w' v.ownBlock:=by
 obtain ⟨i0,hi,hz0,hz1,hz2⟩:=info_parts hin
 have hx0:=hx
 obtain ⟨a,cap,rfl,h1,h2,h3⟩:=hx
 cases a with
 | none =>
   have hl:l=[]:=by
    rcases List.eq_nil_or_concat l with h | ⟨l',c,h⟩
    ·exact h
    ·obtain ⟨b,off,he,_⟩:=h3 (by rw [h];simp)
     cases he
   subst hl
   refine ⟨v,w,?_,by rw [List.append_nil];exact hown,⟨rfl,rfl,rfl,Nat.le_refl _,fun _ _ _=>rfl⟩⟩
   rcases hown.2 with ⟨rfl,hl⟩ | ⟨g,cap',cur,rfl,_,_,hnc,_⟩
   ·simp [Builtin.append_,run_underlying hu,sizeOf,typeInfo,hi,Builtin.lenOf,Builtin.firstCells]
   ·simp [Builtin.append_,run_underlying hu,sizeOf,typeInfo,hi,Builtin.lenOf,Builtin.firstCells,hnc,storeCells]
 | some a =>
   obtain ⟨_,hc⟩:=Row.cells hx0
   obtain ⟨v',w',hr,ho,hg,_⟩:=run_append_own (P:=Tryz.prog) w base ts ts t i0 z 1 bytes hu hi hz0 hz1 hz2 hz (by decide) v xs.length (xs.map f) hown a l.length cap (l.map f) (by simp) hc
    (by intro u hu;obtain ⟨y,_,rfl⟩:=List.mem_map.1 hu;exact hf y) (by unfold maxLen;omega) (Nat.le_trans (Nat.mul_le_mul hlen hby) (by decide)) hbase
   refine ⟨v',w',hr,?_,hg⟩
   unfold Own
   rw [List.length_append,List.map_append]
   exact ho
def fx (x:Option Addr×Nat×Nat):Value:=.slice x.1 x.2.1 x.2.2
abbrev XOwn (w:World) (base:Nat) (v:Value) (l:List (Option Addr×Nat×Nat)):Prop:=Own fx 48 w base v l
theorem appendP_run {w:World} {base:Nat} {v:Value} {xs:List (Option Addr×Nat×Nat)} (hown:XOwn w base v xs) {x:Value} {l:List (Option Addr×Nat×Nat)} (hx:Row fx w x l) (hlen:xs.length+l.length≤1000000) (hbase:base≤w.heap.size) :
 ∃v' w',(Builtin.append_ #[83,83] 83 #[v,x]).run Tryz.prog w=.ok v' w'∧XOwn w' base v' (xs++l)∧w.grownBy w' v.ownBlock :=
 append_wide (fun _=>rfl) Tryz.underlying83 info_ints rfl (by decide) hown hx hlen hbase
def Each (w:World):List (Option Addr×Nat×Nat)→List (List Int)→Prop
 | [],[]=>True
 | x::xs,p::ps=>IRow w (fx x) p∧Each w xs ps
 | _,_=>False
theorem Each.len {w:World}:∀{xs:List (Option Addr×Nat×Nat)} {ps:List (List Int)},Each w xs ps→xs.length=ps.length
 | [],[],_=>rfl
 | x::xs,p::ps,h=>by rw [List.length_cons,List.length_cons,Each.len h.2]
 | [],p::ps,h=>h.elim
 | x::xs,[],h=>h.elim
theorem Each.snoc {w:World} {x:Option Addr×Nat×Nat} {p:List Int} (hx:IRow w (fx x) p):∀{xs:List (Option Addr×Nat×Nat)} {ps:List (List Int)},Each w xs ps→Each w (xs++[x]) (ps++[p])
 | [],[],_=>⟨hx,trivial⟩
 | y::xs,q::ps,h=>⟨h.1,Each.snoc hx h.2⟩
 | [],p::ps,h=>h.elim
 | x::xs,[],h=>h.elim
theorem Each.get {w:World}:∀{xs:List (Option Addr×Nat×Nat)} {ps:List (List Int)},Each w xs ps→∀(i:Nat) (h:i < xs.length) (h':i < ps.length),IRow w (fx xs[i]) ps[i]
 | x::xs,p::ps,h,0,_,_=>h.1
 | x::xs,p::ps,h,i+1,h1,h2=>Each.get h.2 i (by simpa using h1) (by simpa using h2)
 | [],[],_,i,h1,_=>absurd h1 (by simp)
 | [],p::ps,h,_,_,_=>h.elim
 | x::xs,[],h,_,_,_=>h.elim
theorem Each.below {w w':World} (hb:Below w.heap.size w w'):∀{xs:List (Option Addr×Nat×Nat)} {ps:List (List Int)},Each w xs ps→Each w' xs ps
 | [],[],_=>trivial
 | x::xs,p::ps,h=>⟨h.1.below hb,Each.below hb h.2⟩
 | [],p::ps,h=>h.elim
 | x::xs,[],h=>h.elim
def PRow (w:World) (v:Value) (ps:List (List Int)):Prop:=∃xs,Row fx w v xs∧Each w xs ps
theorem goI_none:∀(l cur:List Int),(∀x∈l,x≠46)→goI cur l=[cur++l]
 | [],cur,_=>by simp [goI]
 | x::l,cur,h=>by
   unfold goI
   rw [if_neg (h x List.mem_cons_self),goI_none l (cur++[x]) (fun y hy=>h y (List.mem_cons_of_mem _ hy))]
   simp
theorem goI_at:∀(l cur:List Int) (k:Nat) (hk:k < l.length),l[k]=46→(∀x∈l.take k,x≠46)→goI cur l=(cur++l.take k)::goI [] (l.drop (k+1))
 | x::l,cur,0,hk,hc,_=>by
   have hx:x=46:=by simpa using hc
   show (if x=46 then cur::goI [] l else _)=_
   rw [if_pos hx]
   simp
 | x::l,cur,k+1,hk,hc,hn=>by
   show (if x=46 then _ else goI (cur++[x]) l)=_
   rw [if_neg (hn x (by simp)),goI_at l (cur++[x]) k (by simpa using hk) (by simpa using hc) (fun y hy=>hn y (by simp;exact .inr hy))]
   simp
def IdxPost (l:List Int) (c:Int) (e:Ending):Prop:=(e=.returned (.int .i64 (-1))∧∀x∈l,x≠c)∨∃k:Nat,∃h:k < l.length,e=.returned (.int .i64 (k:Int))∧l[k]=c∧∀x∈l.take k,x≠c
theorem index_calls (v:Value) (l:List Int) (c:Int) (w:World) (hv:IRow w v l) :
 Calls Tryz.prog 101 #[v,.int .i64 c] w fun e w'=>IdxPost l c e∧w'=w:=by
 have HV:=hid hv
 obtain ⟨a,cap,rfl,h1,h2,h3⟩:=hv
 unfold maxLen at h2
 have l2:(l.length:Int)≤(cap:Int):=by omega
 have l3:(cap:Int)≤9223372036854775807:=by omega
 clear h1 h2 h3
 go_enter Tryz.func101,Tryz.ntmps101
 go_wp2_with fail
 go_loop [8] (fun vi=>∃k:Nat,k≤l.length∧vi=.int .i64 (k:Int)∧∀x∈l.take k,x≠c) (fun vi=>l.length-(intOf vi).toNat)
 case atStart=>exact ⟨0,Nat.zero_le _,rfl,by simp⟩
 case round =>
  obtain ⟨k,hk,rfl,hall⟩:=hrel
  have HA:=hid hall
  have k0:(0:Int)≤(k:Int):=by omega
  clear hall
  by_cases hlt:k < l.length
  ·obtain ⟨b,off,rfl,hck⟩:=HV.out.open (Below.refl _ _) k hlt
   have k1:(k:Int) < (l.length:Int):=by omega
   have HK:=hid hlt
   have HN:Hid (l[k]≠c→∀x∈l.take (k+1),x≠c):=by
    intro h x hx
    rw [List.take_succ_eq_append_getElem hlt] at hx
    rcases List.mem_append.1 hx with g | g
    ·exact HA.out x g
    ·rw [List.mem_singleton.1 g];exact h
   have HY:Hid (l[k]=c→IdxPost l c (.returned (.int .i64 (k:Int)))):=fun h=>.inr ⟨k,hlt,rfl,h,HA.out⟩
   generalize l[k]=d at *
   clear hlt hk
   by_cases hcd:d=c
   ·subst hcd
    go_wp2_with fail
    go_ret
    exact ⟨HY.out (by first | rfl | trivial),rfl⟩
   ·have HX:=hid (HN.out hcd)
    have q1:(c==d)=false:=by rw [beq_eq_false_iff_ne];exact fun h=>hcd h.symm
    clear hcd
    go_wp2_with fail
    go_round
    case rel=>exact ⟨k+1,HK.out,by go_num,HX.out⟩
    case measure=>have:=HK.out;simp [intOf];omega
  ·have hkl:k=l.length:=by omega
   have HF:Hid (IdxPost l c (.returned (.int .i64 (-1)))):=.inl ⟨rfl,by
    have h:=HA.out
    rw [hkl,List.take_length] at h
    exact h⟩
   have g:¬(k:Int) < (l.length:Int):=by omega
   clear hlt hk hkl
   go_wp2_with fail
   go_ret
   exact ⟨HF.out,rfl⟩
def lenS:Value→Nat
 | .slice _ n _=>n
 | _=>0
theorem rowI_take {w:World} {a:Option Addr} {n C:Nat} {l:List Int} (h:IRow w (.slice a n C) l) (k:Nat) (hk:k≤l.length):IRow w (.slice a k C) (l.take k):=by
 obtain ⟨a',cap',he,h1,h2,h3⟩:=h
 injection he with e1 e2 e3
 subst e1 e2 e3
 have hln:(l.take k).length=k:=by rw [List.length_take];omega
 refine ⟨_,_,by rw [hln],by omega,by omega,fun hne=>?_⟩
 obtain ⟨b,off,he,hb,hc⟩:=h3 (by intro e;subst e;simp at hne)
 exact ⟨b,off,he,hb,fun j hj=>by rw [hc j (by omega)];simp⟩
theorem rowI_drop {w:World} {b off n C:Nat} {l:List Int} (h:IRow w (.slice (some ⟨b,off,none⟩) n C) l) (k:Nat) (hk:k < l.length):IRow w (.slice (some ⟨b,off+k,none⟩) (l.length-k) (C-k)) (l.drop k):=by
 obtain ⟨b',off',he,_,_,_,hr⟩:=Row.from h k hk
 injection he with he
 injection he with e1 e2
 subst e1 e2
 exact hr
def CutAt (w:World) (m:List Int) (vl:Value) (r:List Int) (xs:List (Option Addr×Nat×Nat)):Prop :=
 ∃ps,IRow w vl r∧Each w xs ps∧goI [] m=ps++goI [] r∧xs.length+r.length≤m.length
theorem CutAt.start {w:World} {m:List Int} {v:Value} (h:IRow w v m):CutAt w m v m []:=⟨[],h,trivial,rfl,by simp⟩
theorem CutAt.row {w:World} {m r:List Int} {v:Value} {xs:List (Option Addr×Nat×Nat)} (h:CutAt w m v r xs):IRow w v r:=by obtain ⟨ps,h1,_⟩:=h;exact h1
theorem CutAt.len {w:World} {m r:List Int} {v:Value} {xs:List (Option Addr×Nat×Nat)} (h:CutAt w m v r xs):xs.length+r.length≤m.length:=by obtain ⟨ps,_,_,_,h4⟩:=h;exact h4
theorem CutAt.last {w:World} {m r:List Int} {a:Option Addr} {n C:Nat} {xs:List (Option Addr×Nat×Nat)} (h:CutAt w m (.slice a n C) r xs) (hn:∀x∈r,x≠46):Each w (xs++[(a,n,C)]) (goI [] m):=by
 obtain ⟨ps,h1,h2,h3,_⟩:=h
 rw [h3,goI_none r [] hn]
 exact Each.snoc h1 h2
theorem CutAt.next {w:World} {m r:List Int} {a:Option Addr} {n C:Nat} {xs:List (Option Addr×Nat×Nat)} (h:CutAt w m (.slice a n C) r xs) (k:Nat) (hk:k < r.length) (hc:r[k]=46) (hn:∀x∈r.take k,x≠46) {v':Value} (hv:IRow w v' (r.drop (k+1))):CutAt w m v' (r.drop (k+1)) (xs++[(a,k,C)]):=by
 obtain ⟨ps,h1,h2,h3,h4⟩:=h
 refine ⟨ps++[r.take k],hv,Each.snoc (rowI_take h1 k (by omega)) h2,?_,?_⟩
 ·rw [h3,goI_at r [] k hk hc hn];simp
 ·rw [List.length_append,List.length_drop];simp;omega
theorem pieces_calls (v:Value) (m:List Int) (w:World) (hv:IRow w v m) (hm:m.length≤100000) :
 Calls Tryz.prog 67 #[v,.int .i64 46] w fun e w'=>(∃v',e=.returned v'∧PRow w' v' (goI [] m))∧Below w.heap.size w w':=by
 have HS:=hid (CutAt.start hv)
 have HM:=hid hm
 clear hv hm
 go_enter Tryz.func67,Tryz.ntmps67
 go_wp2_with fail
 go_loopw [0,5] (fun vl vo wr=>∃r xs,CutAt w m vl r xs∧XOwn wr w.heap.size vo xs∧Below w.heap.size w wr) (fun vl _ _=>lenS vl)
 case atStart=>exact ⟨m,[],HS.out,Own.nil _ _ _ _,Below.refl _ _⟩
 case round =>
  obtain ⟨r,xs,hc,ho,hb⟩:=hrel
  have HC:=hid hc
  have HO:=hid ho
  have HB:=hid hb
  have HSz:Hid (w.heap.size≤wr.heap.size):=hb.size
  have hlen:=hc.len
  have HV:=hid (hc.row.below hb)
  obtain ⟨a,C,he,h1,h2,h3⟩:=hc.row
  subst he
  unfold maxLen at h2
  have l2:(r.length:Int)≤(C:Int):=by omega
  have l3:(C:Int)≤9223372036854775807:=by omega
  have HL:Hid (xs.length+r.length≤100000):=by show _≤_;have:=HM.out;omega
  have H2:=hid h2
  have H1:=hid h1
  clear hc ho hb hlen h1 h2
  go_wp2_with fail
  refine (index_calls _ r 46 _ HV.out).mono ?_
  rintro e w1 ⟨⟨rfl,hno⟩ | ⟨k,hk,rfl,hat,hno⟩,rfl⟩
  ·have HE:=hid (HC.out.last hno)
   obtain ⟨v4,w4,hr4,ho4,hg4⟩:=appendP_run (HO.out.alloc (.cells #[.slice a r.length C] 48)) (Row.lit fx w1 [(a,r.length,C)] 48 (0,0) (by simp)) (by have:=HL.out;simp;omega) (by have:=HSz.out;simp;omega)
   have HB4:=hid ((HB.out.alloc HSz.out (.cells #[.slice a r.length C] 48)).grown hg4 (by have:=HSz.out;simp;omega) (Own.lt HO.out))
   have HO4:=hid ho4
   clear hno ho4 hg4 h3
   go_wp2_with (at_builtin;go_must (refine wpList_append_run hr4 rfl _ _ rfl rfl rfl rfl ?_))
   go_ret
   exact ⟨⟨_,rfl,_,HO4.out.row,HE.out.below HB4.out⟩,HB4.out⟩
  ·obtain ⟨b,off,rfl,hlt,_⟩:=h3 (by intro e;subst e;simp at hk)
   have HNx:=hid (fun v'=>HC.out.next k hk hat hno (v':=v'))
   have k0:(0:Int)≤(k:Int):=by omega
   have k1:(k:Int) < (r.length:Int):=by omega
   have HK:=hid hk
   obtain ⟨v4,w4,hr4,ho4,hg4⟩:=appendP_run (HO.out.alloc (.cells #[.slice (some ⟨b,off,none⟩) k C] 48)) (Row.lit fx w1 [(some ⟨b,off,none⟩,k,C)] 48 (0,0) (by simp)) (by have:=HL.out;simp;omega) (by have:=HSz.out;simp;omega)
   have HB4:=hid ((HB.out.alloc HSz.out (.cells #[.slice (some ⟨b,off,none⟩) k C] 48)).grown hg4 (by have:=HSz.out;simp;omega) (Own.lt HO.out))
   have HO4:=hid ho4
   have HR:=hid HC.out.row
   clear hno ho4 hg4 hat hlt HV
   by_cases hlast:k+1 < r.length
   ·have HD:=hid (HNx.out _ (rowI_drop HR.out (k+1) hlast))
    have hq1:(C=k+1)=False:=eq_false (by have:=H1.out;omega)
    have hq2:(k+1=C)=False:=eq_false (by have:=H1.out;omega)
    clear hk
    go_wp2_with (at_builtin;go_must (refine wpList_append_run hr4 rfl _ _ rfl rfl rfl rfl ?_))
    go_roundw
    case rel=>exact ⟨_,_,HD.out,HO4.out,HB4.out⟩
    case measure=>simp [lenS];omega
   ·have hke:k+1=r.length:=by omega
    have HD:=hid (fun A (C':Nat) (hC:C'≤maxLen)=>HNx.out (.slice A 0 C') (by rw [List.drop_eq_nil_of_le (by omega)];exact rowI_nil w A C' hC))
    clear hk
    by_cases hcap:C=k+1
    ·have hq1:(C=k+1)=True:=eq_true hcap
     have hq2:(k+1=C)=True:=eq_true hcap.symm
     have HCp:=hid hcap
     clear hcap
     go_wp2_with (at_builtin;go_must (refine wpList_append_run hr4 rfl _ _ rfl rfl rfl rfl ?_))
     go_roundw
     case rel=>exact ⟨_,_,HD.out _ _ (by have:=H2.out;unfold maxLen;omega),HO4.out,HB4.out⟩
     case measure=>simp [lenS];omega
    ·have hq1:(C=k+1)=False:=eq_false hcap
     have hq2:(k+1=C)=False:=eq_false (fun e=>hcap e.symm)
     go_wp2_with (at_builtin;go_must (refine wpList_append_run hr4 rfl _ _ rfl rfl rfl rfl ?_))
     go_roundw
     case rel=>exact ⟨_,_,HD.out _ _ (by have:=H2.out;unfold maxLen;omega),HO4.out,HB4.out⟩
     case measure=>simp [lenS];omega
end Go.Proofs.YtpohekldddbneaaGreatDoor
