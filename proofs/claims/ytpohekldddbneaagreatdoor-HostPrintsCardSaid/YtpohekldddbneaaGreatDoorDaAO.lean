import Derived.Test.YtpohekldddbneaaGreatDoorDaAJ
import Derived.Deep.RegionHeld3
set_option linter.unusedVariables false
set_option linter.unusedSimpArgs false
set_option maxRecDepth 20000
set_option maxHeartbeats 16000000
namespace Go.Proofs.YtpohekldddbneaaGreatDoor
open Go.RowKit
set_option maxRecDepth 50000 in
theorem unpuny_a (s:ByteArray) (w:World) (hm:s.size≤maxLen) (hzz:cutOf s=0):Calls Tryz.prog 89 #[.string s] w fun e w'=>DecPost (decR s) w e w':=by
 by_cases hlong:4000 < s.size
 ·rw [decR_long hlong]
  have g:(4000:Int) < (s.size:Int):=by omega
  have g2:(s.size:Int)≤9223372036854775807:=by unfold maxLen at hm;omega
  clear hlong hm
  go_enter Tryz.func89,Tryz.ntmps89
  go_wp2_with fail
  go_ret2
  exact DecPost.bad rfl rfl (Below.refl _ _)
 ·obtain ⟨Z,hZ⟩:∃Z,Z=decR s:=⟨_,rfl⟩
  rw [← hZ]
  have HZN:Hid (dec s=none→Z=([],4)):=fun h=>by rw [hZ,decR_none hlong h]
  have HZS:Hid (∀m,dec s=some m→Z=(m,0)):=fun m h=>by rw [hZ,decR_some hlong h]
  have HZZ:=hid hzz
  clear hzz
  have HSS:Hid (s.size≤4000):=by show _≤_;omega
  have gg:decide ((4000:Int) < (s.size:Int))=false:=decide_eq_false (by omega)
  have g2:(s.size:Int)≤4000:=by omega
  have hbl:=bytesOf_len s
  have HBL:=hid hbl
  have HVL:=hid (vals_len s)
  clear hlong hm hZ hbl
  go_enter Tryz.func89,Tryz.ntmps89
  go_wp2_with fail
  go_loop [4,5] (fun vc vi=>∃k c:Nat,k≤s.size∧vi=.int .i64 (k:Int)∧vc=.int .i64 (c:Int)∧c=(Lib.lastIdx s 45 k).toNat∧∀x∈(bytesOf s).take k,x.toNat < 128) (fun _ vi=>s.size-(intOf vi).toNat)
  case atStart=>exact ⟨0,0,Nat.zero_le _,rfl,rfl,rfl,by simp⟩
  case round =>
   obtain ⟨k,c,hk,rfl,rfl,hc,hall⟩:=hrel
   have hck:=lastIdx_lt s k
   have c0:(0:Int)≤(c:Int):=by omega
   have c1:(c:Int)≤4000:=by have:=HSS.out;omega
   have k0:(0:Int)≤(k:Int):=by omega
   have HAL:=hid hall
   have HCC:=hid hc
   clear hall hck
   by_cases hlt:k < s.size
   ·have k1:(k:Int) < (s.size:Int):=by omega
    have HSn:=hid (lastIdx_snoc s k hlt)
    have hsk:(bytesOf s)[k]? = some s[k]:=by
     rw [List.getElem?_eq_getElem (by rw [HBL.out];exact hlt)];rfl
    have HS:=hid hsk
    have HST:Hid ((bytesOf s).take (k+1)=(bytesOf s).take k++[s[k]]):=by
     show _=_
     rw [List.take_succ_eq_append_getElem (by rw [HBL.out];exact hlt)];rfl
    have HBad:Hid (¬s[k].toNat < 128→dec s=none):=dec_bad s k _ hsk
    have hx256:=byte_lt s[k]
    have HMem:Hid (∀x∈[s[k]],x=s[k]):=by intro x hx;exact List.mem_singleton.1 hx
    obtain ⟨z,hz⟩:∃z,s[k].toNat=z:=⟨_,rfl⟩
    have HZ:=hid hz
    rw [hz] at hx256 HSn HBad
    have HK:=hid hlt
    have z0:(0:Int)≤(z:Int):=by omega
    have z1:(z:Int) < 256:=by omega
    clear hsk hk hc
    by_cases h128:z < 128
    ·have HA2:Hid (∀x∈(bytesOf s).take (k+1),x.toNat < 128):=by
      show ∀x∈(bytesOf s).take (k+1),x.toNat < 128
      intro x hx
      rw [HST.out] at hx
      rcases List.mem_append.1 hx with h | h
      ·exact HAL.out x h
      ·rw [HMem.out x h,HZ.out];exact h128
     have g4:¬(127:Int) < (z:Int):=by omega
     by_cases h45:z=45
     ·subst h45
      have HC2:Hid (k=(Lib.lastIdx s 45 (k+1)).toNat):=by show _=_;rw [HSn.out,if_pos (by decide)];simp
      clear h128 hx256 z0 z1 g4
      go_wp2_with fail
      go_round
      case rel=>exact ⟨k+1,k,HK.out,by go_num,rfl,HC2.out,HA2.out⟩
      case measure=>have:=HK.out;simp [intOf];omega
     ·have HC2:Hid (c=(Lib.lastIdx s 45 (k+1)).toNat):=by show _=_;rw [HSn.out,if_neg (by omega)];exact HCC.out
      have g5:((z:Int)==45)=false:=bN (by omega)
      clear h128 hx256 h45
      go_wp2_with fail
      go_round
      case rel=>exact ⟨k+1,c,HK.out,by go_num,rfl,HC2.out,HA2.out⟩
      case measure=>have:=HK.out;simp [intOf];omega
    ·have g4:(127:Int) < (z:Int):=by omega
     have HX:=hid (HZN.out (HBad.out h128))
     clear h128 hx256
     go_wp2_with fail
     go_ret2
     exact DecPost.bad HX.out rfl (Below.refl _ _)
   ·have hkl:k=s.size:=by omega
    have hce:c=cutOf s:=by rw [hc,hkl];rfl
    have HALL:Hid (∀x∈bytesOf s,x.toNat < 128):=by
     have:=HAL.out
     rw [hkl,← HBL.out,List.take_length] at this
     exact this
    have HD:=hid (dec_insG s HALL.out)
    have hst:startOf s=if c=0 then 0 else c+1:=by unfold startOf;rw [← hce]
    have hcl:c≠0→c < s.size:=fun h=>by rw [hce] at h ⊢;exact (cut_mark s h).1
    rw [← hce] at HD HZZ
    have HCL:=hid hcl
    have HCE:=hid hst
    have g4:¬(k:Int) < (s.size:Int):=by omega
    have HCS:Hid (c≤s.size):=by show _≤_;rw [hc,hkl];exact lastIdx_lt s s.size
    clear hkl hce hst hcl hk hlt hc HCC HAL
    go_wp2_with fail
    go_loopw [6,7] (fun vo vi wr=>∃k:Nat,k≤c∧vi=.int .i64 (k:Int)∧NOwn wr w.heap.size vo (((bytesOf s).take k).map UInt8.toNat)∧Below w.heap.size w wr) (fun _ vi _=>c-(intOf vi).toNat)
    case atStart=>exact ⟨0,Nat.zero_le _,rfl,Own.nil _ _ _ _,Below.refl _ _⟩
    case round =>
     obtain ⟨j,hj,rfl,ho,hb⟩:=hrel
     have HO:=hid ho
     have HB:=hid hb
     have HSz:Hid (w.heap.size≤wr.heap.size):=hb.size
     have j0:(0:Int)≤(j:Int):=by omega
     clear ho hb
     by_cases hlt:j < c
     ·have hjs:j < s.size:=by have:=HCS.out;omega
      have j1:(j:Int) < (c:Int):=by omega
      have j2:(j:Int) < (s.size:Int):=by omega
      have HSn:Hid (((bytesOf s).take (j+1)).map UInt8.toNat=((bytesOf s).take j).map UInt8.toNat++[s[j].toNat]):=by
       show _=_
       rw [List.take_succ_eq_append_getElem (by rw [HBL.out];exact hjs),List.map_append];rfl
      have hx256:=byte_lt s[j]
      obtain ⟨z,hz⟩:∃z,s[j].toNat=z:=⟨_,rfl⟩
      rw [hz] at hx256 HSn
      have z0:(0:Int)≤(z:Int):=by omega
      have z1:(z:Int) < 256:=by omega
      have HLen:Hid ((((bytesOf s).take j).map UInt8.toNat).length≤4000):=by
       show _≤_
       rw [List.length_map,List.length_take,HBL.out]
       have:=HSS.out
       omega
      obtain ⟨v',w',hr,ho',hg⟩:=appendN_run (HO.out.alloc (.cells #[.int .i64 (z:Int)] 3)) (Row.lit fn wr [z] 3 (0,0) (by simp)) (by have:=HLen.out;simp at this ⊢;omega) (by have:=HSz.out;simp;omega)
      have HO2:=hid ho'
      have HB2:=hid ((HB.out.alloc HSz.out (.cells #[.int .i64 (z:Int)] 3)).grown hg (by have:=HSz.out;simp;omega) (Own.lt HO.out))
      have HJ:=hid hlt
      clear ho' hg hx256 hlt hj
      go_wp2_with (at_builtin;go_must (refine wpList_append_run hr rfl _ _ rfl rfl rfl rfl ?_))
      go_roundw
      case rel=>exact ⟨j+1,HJ.out,by go_num,by rw [HSn.out];exact HO2.out,HB2.out⟩
      case measure=>have:=HJ.out;simp [intOf];omega
     ·have hjc:j=c:=by omega
      subst hjc
      have HST:Hid (startOf s≤s.size):=by
       show _≤_
       rw [HCE.out]
       split
       ·omega
       ·have:=HCL.out (by assumption);omega
      have HLen:Hid ((((bytesOf s).take j).map UInt8.toNat).length≤4000):=by
       show _≤_
       rw [List.length_map,List.length_take,HBL.out]
       have:=HSS.out
       omega
      have g5:¬(j:Int) < (j:Int):=by omega
      obtain ⟨st,hst⟩:∃st,st=startOf s:=⟨_,rfl⟩
      rw [← hst] at HD HCE HST
      generalize ((bytesOf s).take j).map UInt8.toNat=L at *
      clear hlt hj hst
      have hz:=HZZ.out
      clear HZZ
      have HSTE:Hid (st=0):=by show _=_;rw [HCE.out,if_pos hz]
      have g6:¬(0:Int) < (j:Int):=by omega
      clear hz
      go_wp2_with fail
      go_loopw [6,8,9,10,11] (fun vo va vn vi vb wr=>∃(ys:List Nat) (at_ sign i bias f:Nat),va=.int .i64 (at_:Int)∧vn=.int .i64 (sign:Int)∧vi=.int .i64 (i:Int)∧vb=.int .i64 (bias:Int)∧NOwn wr w.heap.size vo ys∧Below w.heap.size w wr∧dec s=insG f ys ((vals s).drop at_) sign i bias (decide (i=0))∧s.size≤at_+f∧at_≤s.size∧ys.length≤4000∧i≤4000∧sign≤1114111∧bias≤2340) (fun _ va _ _ _ _=>s.size-(intOf va).toNat)
      case atStart=>exact ⟨L,st,128,0,72,s.size-st,by rw [HSTE.out];rfl,rfl,rfl,rfl,HO.out,HB.out,HD.out,by omega,HST.out,HLen.out,by decide,by decide,by decide⟩
      case round =>
       obtain ⟨ys,at_,sign,i,bias,f,rfl,rfl,rfl,rfl,ho,hb,hE,hf,hat,hyl,hil,hsg,hbi⟩:=hrel
       have HOy:=hid ho
       have HBy:=hid hb
       have HSz:Hid (w.heap.size≤wr.heap.size):=hb.size
       rcases ho.row with ⟨a',cap',hE0,hE1,hE2,hE3⟩
       subst hE0
       unfold maxLen at hE2
       have y0:(ys.length:Int)≤(cap':Int):=by omega
       have y1:(cap':Int)≤9223372036854775807:=by omega
       have y2:(ys.length:Int)≤4000:=by omega
       have at0:(0:Int)≤(at_:Int):=by omega
       have at1:(at_:Int)≤(s.size:Int):=by omega
       have i0:(0:Int)≤(i:Int):=by omega
       have i1:(i:Int)≤4000:=by omega
       have sg0:(0:Int)≤(sign:Int):=by omega
       have sg1:(sign:Int)≤1114111:=by omega
       have b0:(0:Int)≤(bias:Int):=by omega
       have b1:(bias:Int)≤2340:=by omega
       clear ho hb hE1 hE2 hE3 HO HB HD
       by_cases hlt:at_ < s.size
       ·have hne:(vals s).drop at_≠[]:=by
         intro h
         have:=congrArg List.length h
         rw [List.length_drop,HVL.out] at this
         simp at this
         omega
        obtain ⟨g,rfl⟩:∃g,f=g+1:=⟨f-1,by omega⟩
        obtain ⟨Q,hQ⟩:∃Q,Q=rd ((vals s).drop at_) i 1 36 bias:=⟨_,rfl⟩
        have HNone:Hid (Q=none→Z=([],4)):=fun h=>HZN.out (by rw [hE];exact insG_none hne (by rw [← hQ];exact h))
        have HSome:Hid (∀to rest,Q=some (to,rest)→dec s=if isS ((sign+to/(ys.length+1):Nat):Int)=true∧ys.length < 256 then insG g (ins ys (to%(ys.length+1)) (sign+to/(ys.length+1))) rest (sign+to/(ys.length+1)) (to%(ys.length+1)+1) (adapt (to-i) (ys.length+1) (decide (i=0))) false else none):=fun to rest h=>by rw [hE];exact insG_some hne (by rw [← hQ];exact h)
        have HQ:=hid hQ
        have HF:=hid hf
        have HLT:=hid hlt
        have HYL:=hid hyl
        have HIL:=hid hil
        have HBI:=hid hbi
        have HSG:=hid hsg
        have ga:(at_:Int) < (s.size:Int):=by omega
        have gda:decide (at_ < s.size)=true:=decide_eq_true hlt
        clear hE hQ hne hf hat hyl hil hsg hbi hlt
        go_wp2_with fail
        go_loop [8,10,13,14] (fun va vi vw vk=>∃at' i' wt kk:Nat,va=.int .i64 (at':Int)∧vi=.int .i64 (i':Int)∧vw=.int .i64 (wt:Int)∧vk=.int .i64 (kk:Int)∧at_≤at'∧at'≤s.size∧i≤i'∧i'≤2147483647∧1≤wt∧wt≤2147483647∧kk≤36 * (at'+1)∧Q=rd ((vals s).drop at') i' wt kk bias) (fun va _ _ _=>s.size-(intOf va).toNat)
        case atStart=>exact ⟨at_,i,1,36,rfl,rfl,rfl,rfl,Nat.le_refl _,Nat.le_of_lt HLT.out,Nat.le_refl _,by have:=HIL.out;omega,by decide,by decide,by omega,HQ.out⟩
        case round =>
         obtain ⟨at',i',wt,kk,rfl,rfl,rfl,rfl,ha1,ha2,hi1,hi2,hw1,hw2,hkk,hr⟩:=hrel
         have a0:(0:Int)≤(at':Int):=by omega
         have m0:(i:Int)≤(i':Int):=by omega
         have m1:(i':Int)≤2147483647:=by omega
         have w0:(1:Int)≤(wt:Int):=by omega
         have w1:(wt:Int)≤2147483647:=by omega
         have k0:(0:Int)≤(kk:Int):=by omega
         have k1:(kk:Int)≤150000:=by have:=HSS.out;omega
         by_cases hend:at'=s.size
         ·have HX:Hid (Z=([],4)):=HNone.out (by rw [hr,hend,List.drop_eq_nil_of_le (by rw [HVL.out];omega)];rfl)
          have ge:((at':Int)==(s.size:Int))=true:=by rw [beq_iff_eq];omega
          have ge2:(at':Int)=(s.size:Int):=by omega
          clear hr ha1 ha2 hi1 hi2 hw1 hw2 hkk hend
          go_wp2_with fail
          go_ret2
          exact DecPost.bad HX.out rfl HBy.out
         ·have hlt':at' < s.size:=by omega
          have ge:((at':Int)==(s.size:Int))=false:=bN (by omega)
          have ga':(at':Int) < (s.size:Int):=by omega
          rw [vals_drop hlt'] at hr
          obtain ⟨x,hx⟩:∃x,s[at']=x:=⟨_,rfl⟩
          have HD:=hid (fun w'=>rvalue_calls x w')
          have hx256:=byte_lt x
          rw [hx] at hr
          obtain ⟨z,hz⟩:∃z,x.toNat=z:=⟨_,rfl⟩
          have hz':s[at'].toNat=z:=by rw [hx,hz]
          rw [hz] at HD hx256
          have z0:(0:Int)≤(z:Int):=by omega
          have z1:(z:Int) < 256:=by omega
          have HK:=hid hlt'
          clear hx hz hx256 hend ha2
          cases hv:val x with
          | none =>
            rw [hv] at hr HD
            have HX:Hid (Z=([],4)):=HNone.out (by rw [hr];rfl)
            clear hr ha1 hi1 hi2 hw1 hw2 hkk hv
            simp only [valInt] at HD
            go_wp2_with fail
            refine (HD.out _).mono ?_
            rintro e w1 ⟨rfl,rfl⟩
            go_wp2_with fail
            go_ret2
            exact DecPost.bad HX.out rfl HBy.out
          | some d =>
            have hd36:=val_lt hv
            rw [hv] at hr HD
            clear hv
            simp only [valInt] at HD
            simp only [rd] at hr
            have d0:(0:Int)≤(d:Int):=by omega
            have d1:(d:Int) < 36:=by omega
            have dn:¬(d:Int) < 0:=by omega
            obtain ⟨q,hq⟩:∃q,q=(most-i')/wt:=⟨_,rfl⟩
            have e1:((2147483647:Int)-(i':Int))/(wt:Int)=(q:Int):=by rw [hq,Int.natCast_ediv];congr 1;unfold most;omega
            by_cases hdq:q < d
            ·have HX:Hid (Z=([],4)):=HNone.out (by rw [hr,if_pos (.inr (by rw [← hq];exact hdq))])
             have gq:(q:Int) < (d:Int):=by omega
             clear hr ha1 hi1 hi2 hw1 hw2 hkk hq hdq
             go_wp2_with fail
             refine (HD.out _).mono ?_
             rintro e w1 ⟨rfl,rfl⟩
             go_wp2_with fail
             go_ret2
             exact DecPost.bad HX.out rfl HBy.out
            ·have gq:¬(q:Int) < (d:Int):=by omega
             have hdw:d * wt≤most-i':=(Nat.le_div_iff_mul_le (by omega)).1 (by omega)
             rw [if_neg (by rw [← hq];unfold most;omega)] at hr
             obtain ⟨p,hp⟩:∃p,p=d * wt:=⟨_,rfl⟩
             have e2:(d:Int) * (wt:Int)=(p:Int):=by rw [hp,Int.natCast_mul]
             rw [← hp] at hr hdw
             unfold most at hdw
             have p0:(0:Int)≤(p:Int):=by omega
             have p1:(i':Int)+(p:Int)≤2147483647:=by omega
             have t1:=thr_ge kk bias
             have t2:=thr_le kk bias
             have HT:=hid (fun w'=>rthr_calls kk bias w' (by have:=HSS.out;omega) (by have:=HBI.out;omega))
             generalize thr kk bias=t at *
             have t3:(1:Int)≤(t:Int):=by omega
             have t4:(t:Int)≤26:=by omega
             by_cases hdt:d < t
             ·rw [if_pos hdt] at hr
              have gt:(d:Int) < (t:Int):=by omega
              obtain ⟨to,hto⟩:∃to,to=i'+p:=⟨_,rfl⟩
              rw [← hto] at hr
              have hX:=HSome.out to _ hr
              have eto:(i':Int)+(p:Int)=(to:Int):=by omega
              obtain ⟨qq,hqd⟩:∃qq,qq=to/(ys.length+1):=⟨_,rfl⟩
              obtain ⟨pp,hpd⟩:∃pp,pp=to%(ys.length+1):=⟨_,rfl⟩
              obtain ⟨S,hS⟩:∃S,S=sign+qq:=⟨_,rfl⟩
              have hpl:pp≤ys.length:=by rw [hpd];have:=Nat.mod_lt to (y:=ys.length+1) (by omega);omega
              have hql:qq≤to:=by rw [hqd];exact Nat.div_le_self _ _
              rw [← hqd,← hpd,← hS] at hX
              have e3:(to:Int)/((ys.length:Int)+1)=(qq:Int):=by rw [hqd,Int.natCast_ediv];rfl
              have e4:(to:Int)%((ys.length:Int)+1)=(pp:Int):=by rw [hpd,Int.natCast_emod];rfl
              have e5:(sign:Int)+(qq:Int)=(S:Int):=by omega
              have to0:(i:Int)≤(to:Int):=by omega
              have to1:(to:Int)≤2147483647:=by omega
              have qq0:(0:Int)≤(qq:Int):=by omega
              have qq1:(qq:Int)≤2147483647:=by omega
              have pp0:(0:Int)≤(pp:Int):=by omega
              have pp1:(pp:Int)≤(ys.length:Int):=by omega
              obtain ⟨fl,hfl⟩:∃fl,decide (i=0)=fl:=⟨_,rfl⟩
              have efl:((i:Int)==0)=fl:=by
               rw [← hfl]
               by_cases h:i=0
               ·subst h;rfl
               ·rw [decide_eq_false h,beq_eq_false_iff_ne];omega
              have HAd:Hid (∀w',Calls Tryz.prog 130 #[.int .i64 ((to:Int)-(i:Int)),.int .i64 ((ys.length:Int)+1),.bool fl] w' fun e w2=>e=.returned (.int .i64 ((adapt (to-i) (ys.length+1) fl:Nat):Int))∧w2=w'):=fun w'=>by
               have:=radapt_calls (to-i) (ys.length+1) fl w' (by omega) (by omega) (by have:=HYL.out;omega)
               rw [Int.natCast_sub (by omega),Int.natCast_add] at this
               exact this
              rw [hfl] at hX
              have HBi2:=hid (adapt_le (to-i) (ys.length+1) fl)
              generalize adapt (to-i) (ys.length+1) fl=A at *
              have HFi:Hid (at'+1≤s.size∧s.size≤at'+1+g∧at_ < at'+1):=⟨hlt',by have:=HF.out;omega,by omega⟩
              have HPl:=hid hpl
              have HSc:=hid (fun w'=>rscalar_calls (S:Int) w')
              by_cases hbig:2147483647 < S
              ·have HX:Hid (Z=([],4)):=HZN.out (by
                rw [hX,if_neg]
                intro h
                have:=isS_iff.1 h.1
                omega)
               have gS:(2147483647:Int) < (S:Int):=by omega
               have gS2:(S:Int)≤3000000000:=by omega
               clear hr ha1 hi1 hi2 hw1 hw2 hkk hq hdq hdt hp hdw t1 t2 hd36 hX hqd hpd hS hpl hql hbig hto
               go_wp2_with fail
               refine (HD.out _).mono ?_
               rintro e w1 ⟨rfl,rfl⟩
               go_wp2_with fail
               refine (HT.out _).mono ?_
               rintro e w1 ⟨rfl,rfl⟩
               go_wp2_with fail
               refine (HAd.out _).mono ?_
               rintro e w1 ⟨rfl,rfl⟩
               go_wp2_with fail
               go_ret2
               exact DecPost.bad HX.out rfl HBy.out
              ·have gS:¬(2147483647:Int) < (S:Int):=by omega
               by_cases hsc:isS (S:Int)=true
               ·rw [hsc] at HSc
                by_cases hfull:ys.length < 256
                ·rw [if_pos ⟨hsc,hfull⟩] at hX
                 have hS1:S≤1114111:=by have:=isS_iff.1 hsc;omega
                 have gfull:¬(256:Int)≤(ys.length:Int):=by omega
                 have HX:Hid (dec s=insG g (ins ys pp S) ((vals s).drop (at'+1)) S (pp+1) A (decide (pp+1=0))):=by
                  show _=_
                  rw [hX,decide_eq_false (by omega)]
                 have HS2:=hid hS1
                 have HIL2:=hid (ins_len ys pp S hpl)
                 have HFu:=hid hfull
                 have S2:(S:Int)≤1114111:=by omega
                 clear hr ha1 hi1 hi2 hw1 hw2 hkk hq hdq hdt hp hdw t1 t2 hd36 hX hqd hpd hS hpl hql hbig hto hsc hfull hS1
                 go_wp2_with fail
                 refine (HD.out _).mono ?_
                 rintro e w1 ⟨rfl,rfl⟩
                 go_wp2_with fail
                 refine (HT.out _).mono ?_
                 rintro e w1 ⟨rfl,rfl⟩
                 go_wp2_with fail
                 refine (HAd.out _).mono ?_
                 rintro e w1 ⟨rfl,rfl⟩
                 go_wp2_with fail
                 refine (HSc.out _).mono ?_
                 rintro e w1 ⟨rfl,rfl⟩
                 go_wp2_with fail
                 have HOL:Hid (NOwn (w1.alloc (.cells #[.int .i64 (S:Int)] 3)).drew w.heap.size (.slice (some ⟨w1.heap.size,0,none⟩) 1 1) [S]):=(Own.lit fn 3 w1 [S] (by simp)).mono HSz.out
                 have HL1:Hid ([S].length+(ys.drop pp).length≤1000000):=by show _≤_;have:=HYL.out;simp;omega
                 have HL2:Hid ((ys.take pp).length+([S]++ys.drop pp).length≤1000000):=by show _≤_;have:=HYL.out;simp;omega
                 have HBs:Hid (w.heap.size≤(w1.alloc (.cells #[.int .i64 (S:Int)] 3)).drew.heap.size):=by show _≤(w1.alloc (.cells #[.int .i64 (S:Int)] 3)).heap.size;have:=HSz.out;simp;omega
                 rcases HOy.out.2 with ⟨hE0,hn0⟩ | ⟨gb,cap2,cur,hE0,hbg,hgc,hnc,hcm,hcs,htk⟩
                 ·injection hE0 with e7 e8 e9
                  subst e7 e9
                  have hp0:pp=0:=by have:=HPl.out;omega
                  have HNP:Hid (ys.length≤pp):=by show _≤_;omega
                  have HON:Hid (∀wx,NOwn wx w.heap.size (.slice none 0 0) (ys.take pp)):=by
                   intro wx
                   rw [List.eq_nil_of_length_eq_zero e8,List.take_nil]
                   exact Own.nil fn _ wx w.heap.size
                  clear hn0
                  go_region_held3 (fun w'=>True) (trivial) (first
                   | ((refine step_appendN (base:=w.heap.size) (xs:=[S]) (l:=ys.drop pp) HOL.out (by exact row_none pp _ _ _ HNP.out (by first | rfl | exact e8 | omega) (by first | exact Nat.zero_le _ | simp)) HL1.out HBs.out rfl _ _ rfl rfl rfl rfl ?_;intro v1 x1 ho1 hg1))
                   | ((refine step_appendN (base:=w.heap.size) (xs:=ys.take pp) (l:=[S]++ys.drop pp) (HON.out _) (ho1.row) HL2.out (Nat.le_trans HBs.out hg1.size) rfl _ _ rfl rfl rfl rfl ?_;intro v2 x2 ho2 hg2)))
                  have HO4:Hid (NOwn x2 w.heap.size v2 (ins ys pp S)):=ho2
                  have HB4:Hid (Below w.heap.size w x2):=((HBy.out.alloc HSz.out (.cells #[.int .i64 (S:Int)] 3)).drew.grown hg1 HBs.out (by intro k hk;have h9:=HSz.out;injection hk with hk;subst hk;exact h9)).grown hg2 (Nat.le_trans HBs.out hg1.size) (by intro k hk;cases hk)
                  clear ho1 hg1 ho2 hg2
                  go_wp2_with fail
                  go_roundw
                  case rel=>exact ⟨ins ys pp S,at'+1,S,pp+1,A,g,by go_num,rfl,by go_num,rfl,HO4.out,HB4.out,HX.out,HFi.out.2.1,HFi.out.1,by have:=HIL2.out;have:=HFu.out;omega,by have:=HPl.out;have:=HFu.out;omega,HS2.out,HBi2.out⟩
                  case measure=>have:=HFi.out;simp [intOf];omega
                 ·injection hE0 with e7 e8 e9
                  subst e7 e9
                  have HGB:Hid (gb < w1.heap.size):=(Array.getElem?_eq_some_iff.1 hgc).1
                  have HBG:=hid hbg
                  have HOT:=hid (own_take HOy.out pp HPl.out)
                  have hcl:ys.length≤cap':=hnc
                  have HCM:=hid hcm
                  clear hnc hcm hcs htk hgc e8 hbg
                  have ppc:(pp:Int)≤(cap':Int):=by omega
                  by_cases hcp:cap'=pp
                  ·have HNP:Hid (ys.length≤pp):=by show _≤_;omega
                   have hnp:ys.length-pp=0:=by omega
                   rw [hcp] at HOT
                   clear hcl
                   go_region_held3 (fun w'=>True) (trivial) (first
                    | ((refine step_appendN (base:=w.heap.size) (xs:=[S]) (l:=ys.drop pp) HOL.out (by exact row_none pp _ _ _ HNP.out (by first | rfl | exact hnp | omega) (by first | exact Nat.zero_le _ | (have:=HCM.out;unfold maxLen at *;omega))) HL1.out HBs.out rfl _ _ rfl rfl rfl rfl ?_;intro v1 x1 ho1 hg1))
                    | ((refine step_appendN (base:=w.heap.size) (xs:=ys.take pp) (l:=[S]++ys.drop pp) ((World.ownsRow.kept (HOT.out.alloc _).drew hg1 (Or.inr (by intro h9;have h8:=HGB.out;have h10:gb=w1.heap.size:=Option.some.inj h9;omega)))) (ho1.row) HL2.out (Nat.le_trans HBs.out hg1.size) rfl _ _ rfl rfl rfl rfl ?_;intro v2 x2 ho2 hg2)))
                   have HO4:Hid (NOwn x2 w.heap.size v2 (ins ys pp S)):=ho2
                   have HB4:Hid (Below w.heap.size w x2):=((HBy.out.alloc HSz.out (.cells #[.int .i64 (S:Int)] 3)).drew.grown hg1 HBs.out (by intro k hk;have h9:=HSz.out;injection hk with hk;subst hk;exact h9)).grown hg2 (Nat.le_trans HBs.out hg1.size) (by intro k hk;have h9:=HBG.out;injection hk with hk;subst hk;exact h9)
                   clear ho1 hg1 ho2 hg2
                   go_wp2_with fail
                   go_roundw
                   case rel=>exact ⟨ins ys pp S,at'+1,S,pp+1,A,g,by go_num,rfl,by go_num,rfl,HO4.out,HB4.out,HX.out,HFi.out.2.1,HFi.out.1,by have:=HIL2.out;have:=HFu.out;omega,by have:=HPl.out;have:=HFu.out;omega,HS2.out,HBi2.out⟩
                   case measure=>have:=HFi.out;simp [intOf];omega
                  ·have hcp2:(cap'=pp)=False:=eq_false hcp
                   have HRD:=hid (row_drop HOy.out.row pp HPl.out)
                   clear hcl
                   go_region_held3 (fun w'=>True) (trivial) (first
                    | ((refine step_appendN (base:=w.heap.size) (xs:=[S]) (l:=ys.drop pp) HOL.out (by exact (HRD.out.below ((Below.refl _ _).alloc (Nat.le_refl _) _)).drew) HL1.out HBs.out rfl _ _ rfl rfl rfl rfl ?_;intro v1 x1 ho1 hg1))
                    | ((refine step_appendN (base:=w.heap.size) (xs:=ys.take pp) (l:=[S]++ys.drop pp) ((World.ownsRow.kept (HOT.out.alloc _).drew hg1 (Or.inr (by intro h9;have h8:=HGB.out;have h10:gb=w1.heap.size:=Option.some.inj h9;omega)))) (ho1.row) HL2.out (Nat.le_trans HBs.out hg1.size) rfl _ _ rfl rfl rfl rfl ?_;intro v2 x2 ho2 hg2)))
                   have HO4:Hid (NOwn x2 w.heap.size v2 (ins ys pp S)):=ho2
                   have HB4:Hid (Below w.heap.size w x2):=((HBy.out.alloc HSz.out (.cells #[.int .i64 (S:Int)] 3)).drew.grown hg1 HBs.out (by intro k hk;have h9:=HSz.out;injection hk with hk;subst hk;exact h9)).grown hg2 (Nat.le_trans HBs.out hg1.size) (by intro k hk;have h9:=HBG.out;injection hk with hk;subst hk;exact h9)
                   clear ho1 hg1 ho2 hg2
                   go_wp2_with fail
                   go_roundw
                   case rel=>exact ⟨ins ys pp S,at'+1,S,pp+1,A,g,by go_num,rfl,by go_num,rfl,HO4.out,HB4.out,HX.out,HFi.out.2.1,HFi.out.1,by have:=HIL2.out;have:=HFu.out;omega,by have:=HPl.out;have:=HFu.out;omega,HS2.out,HBi2.out⟩
                   case measure=>have:=HFi.out;simp [intOf];omega
                ·have HX:Hid (Z=([],4)):=HZN.out (by rw [hX,if_neg (fun h=>hfull h.2)])
                 have gfull:(256:Int)≤(ys.length:Int):=by omega
                 clear hr ha1 hi1 hi2 hw1 hw2 hkk hq hdq hdt hp hdw t1 t2 hd36 hX hqd hpd hS hpl hql hbig hto hsc hfull
                 go_wp2_with fail
                 refine (HD.out _).mono ?_
                 rintro e w1 ⟨rfl,rfl⟩
                 go_wp2_with fail
                 refine (HT.out _).mono ?_
                 rintro e w1 ⟨rfl,rfl⟩
                 go_wp2_with fail
                 refine (HAd.out _).mono ?_
                 rintro e w1 ⟨rfl,rfl⟩
                 go_wp2_with fail
                 refine (HSc.out _).mono ?_
                 rintro e w1 ⟨rfl,rfl⟩
                 go_wp2_with fail
                 go_ret2
                 exact DecPost.bad HX.out rfl HBy.out
               ·have hsc':isS (S:Int)=false:=by simpa using hsc
                have HX:Hid (Z=([],4)):=HZN.out (by rw [hX,if_neg (fun h=>hsc h.1)])
                rw [hsc'] at HSc
                clear hr ha1 hi1 hi2 hw1 hw2 hkk hq hdq hdt hp hdw t1 t2 hd36 hX hqd hpd hS hpl hql hbig hto hsc hsc'
                go_wp2_with fail
                refine (HD.out _).mono ?_
                rintro e w1 ⟨rfl,rfl⟩
                go_wp2_with fail
                refine (HT.out _).mono ?_
                rintro e w1 ⟨rfl,rfl⟩
                go_wp2_with fail
                refine (HAd.out _).mono ?_
                rintro e w1 ⟨rfl,rfl⟩
                go_wp2_with fail
                refine (HSc.out _).mono ?_
                rintro e w1 ⟨rfl,rfl⟩
                go_wp2_with fail
                go_ret2
                exact DecPost.bad HX.out rfl HBy.out
             ·rw [if_neg hdt] at hr
              have gt:¬(d:Int) < (t:Int):=by omega
              obtain ⟨q2,hq2⟩:∃q2,q2=2147483647/(36-t):=⟨_,rfl⟩
              have e3:(2147483647:Int)/(36-(t:Int))=(q2:Int):=by rw [hq2,Int.natCast_ediv];congr 1;omega
              by_cases hbig:q2 < wt
              ·have HX:Hid (Z=([],4)):=HNone.out (by
                rw [hr]
                refine rd_big _ _ _ _ _ ?_
                unfold most
                rcases Nat.lt_or_ge 2147483647 (wt * (36-t)) with h | h
                ·exact h
                ·have:=(Nat.le_div_iff_mul_le (by omega:0 < 36-t)).2 h
                 omega)
               have gb:(q2:Int) < (wt:Int):=by omega
               clear hr ha1 hi1 hi2 hw1 hw2 hkk hq hdq hdt hp hdw t1 t2 hd36 hq2 hbig
               go_wp2_with fail
               refine (HD.out _).mono ?_
               rintro e w1 ⟨rfl,rfl⟩
               go_wp2_with fail
               refine (HT.out _).mono ?_
               rintro e w1 ⟨rfl,rfl⟩
               go_wp2_with fail
               go_ret2
               exact DecPost.bad HX.out rfl HBy.out
              ·have gb:¬(q2:Int) < (wt:Int):=by omega
               have hwm:wt * (36-t)≤2147483647:=(Nat.le_div_iff_mul_le (by omega)).1 (by omega)
               obtain ⟨y,hy⟩:∃y,y=wt * (36-t):=⟨_,rfl⟩
               have e4:(wt:Int) * (36-(t:Int))=(y:Int):=by rw [hy,Int.natCast_mul];congr 1;omega
               rw [← hy] at hr hwm
               have hy1:1≤y:=by rw [hy];exact Nat.mul_pos hw1 (by omega)
               have yy0:(0:Int)≤(y:Int):=by omega
               have yy1:(y:Int)≤2147483647:=by omega
               have HX:Hid (at_≤at'+1∧at'+1≤s.size∧i≤i'+p∧i'+p≤2147483647∧1≤y∧y≤2147483647∧kk+36≤36 * (at'+1+1)∧Q=rd ((vals s).drop (at'+1)) (i'+p) y (kk+36) bias):=⟨by omega,hlt',by omega,by omega,hy1,by omega,by omega,hr⟩
               clear hr ha1 hi1 hi2 hw1 hw2 hkk hq hdq hdt hp hdw t1 t2 hd36 hq2 hbig hwm hy hy1
               go_wp2_with fail
               refine (HD.out _).mono ?_
               rintro e w1 ⟨rfl,rfl⟩
               go_wp2_with fail
               refine (HT.out _).mono ?_
               rintro e w1 ⟨rfl,rfl⟩
               go_wp2_with fail
               go_round
               case rel=>exact ⟨at'+1,i'+p,y,kk+36,by go_num,by go_num,rfl,by go_num,HX.out⟩
               case measure=>have:=HK.out;simp [intOf];omega
       ·have hae:(vals s).drop at_=[]:=List.drop_eq_nil_of_le (by rw [HVL.out];omega)
        rw [hae,insG_nil] at hE
        have ga:¬(at_:Int) < (s.size:Int):=by omega
        by_cases hfull:256 < ys.length
        ·rw [if_pos hfull] at hE
         have HX:=hid (HZN.out hE)
         have gf:(256:Int) < (ys.length:Int):=by omega
         clear hE hf hat hyl hil hsg hbi hlt hae hfull
         go_wp2_with fail
         go_ret2
         exact DecPost.bad HX.out rfl HBy.out
        ·rw [if_neg hfull] at hE
         have HX:=hid (HZS.out _ hE)
         have gf:¬(256:Int) < (ys.length:Int):=by omega
         clear hE hf hat hyl hil hsg hbi hlt hae hfull
         go_wp2_with fail
         go_ret2
         exact DecPost.good HX.out rfl HOy.out HBy.out
set_option maxRecDepth 50000 in
theorem unpuny_b (s:ByteArray) (w:World) (hm:s.size≤maxLen) (hzz:¬cutOf s=0):Calls Tryz.prog 89 #[.string s] w fun e w'=>DecPost (decR s) w e w':=by
 by_cases hlong:4000 < s.size
 ·rw [decR_long hlong]
  have g:(4000:Int) < (s.size:Int):=by omega
  have g2:(s.size:Int)≤9223372036854775807:=by unfold maxLen at hm;omega
  clear hlong hm
  go_enter Tryz.func89,Tryz.ntmps89
  go_wp2_with fail
  go_ret2
  exact DecPost.bad rfl rfl (Below.refl _ _)
 ·obtain ⟨Z,hZ⟩:∃Z,Z=decR s:=⟨_,rfl⟩
  rw [← hZ]
  have HZN:Hid (dec s=none→Z=([],4)):=fun h=>by rw [hZ,decR_none hlong h]
  have HZS:Hid (∀m,dec s=some m→Z=(m,0)):=fun m h=>by rw [hZ,decR_some hlong h]
  have HZZ:=hid hzz
  clear hzz
  have HSS:Hid (s.size≤4000):=by show _≤_;omega
  have gg:decide ((4000:Int) < (s.size:Int))=false:=decide_eq_false (by omega)
  have g2:(s.size:Int)≤4000:=by omega
  have hbl:=bytesOf_len s
  have HBL:=hid hbl
  have HVL:=hid (vals_len s)
  clear hlong hm hZ hbl
  go_enter Tryz.func89,Tryz.ntmps89
  go_wp2_with fail
  go_loop [4,5] (fun vc vi=>∃k c:Nat,k≤s.size∧vi=.int .i64 (k:Int)∧vc=.int .i64 (c:Int)∧c=(Lib.lastIdx s 45 k).toNat∧∀x∈(bytesOf s).take k,x.toNat < 128) (fun _ vi=>s.size-(intOf vi).toNat)
  case atStart=>exact ⟨0,0,Nat.zero_le _,rfl,rfl,rfl,by simp⟩
  case round =>
   obtain ⟨k,c,hk,rfl,rfl,hc,hall⟩:=hrel
   have hck:=lastIdx_lt s k
   have c0:(0:Int)≤(c:Int):=by omega
   have c1:(c:Int)≤4000:=by have:=HSS.out;omega
   have k0:(0:Int)≤(k:Int):=by omega
   have HAL:=hid hall
   have HCC:=hid hc
   clear hall hck
   by_cases hlt:k < s.size
   ·have k1:(k:Int) < (s.size:Int):=by omega
    have HSn:=hid (lastIdx_snoc s k hlt)
    have hsk:(bytesOf s)[k]? = some s[k]:=by
     rw [List.getElem?_eq_getElem (by rw [HBL.out];exact hlt)];rfl
    have HS:=hid hsk
    have HST:Hid ((bytesOf s).take (k+1)=(bytesOf s).take k++[s[k]]):=by
     show _=_
     rw [List.take_succ_eq_append_getElem (by rw [HBL.out];exact hlt)];rfl
    have HBad:Hid (¬s[k].toNat < 128→dec s=none):=dec_bad s k _ hsk
    have hx256:=byte_lt s[k]
    have HMem:Hid (∀x∈[s[k]],x=s[k]):=by intro x hx;exact List.mem_singleton.1 hx
    obtain ⟨z,hz⟩:∃z,s[k].toNat=z:=⟨_,rfl⟩
    have HZ:=hid hz
    rw [hz] at hx256 HSn HBad
    have HK:=hid hlt
    have z0:(0:Int)≤(z:Int):=by omega
    have z1:(z:Int) < 256:=by omega
    clear hsk hk hc
    by_cases h128:z < 128
    ·have HA2:Hid (∀x∈(bytesOf s).take (k+1),x.toNat < 128):=by
      show ∀x∈(bytesOf s).take (k+1),x.toNat < 128
      intro x hx
      rw [HST.out] at hx
      rcases List.mem_append.1 hx with h | h
      ·exact HAL.out x h
      ·rw [HMem.out x h,HZ.out];exact h128
     have g4:¬(127:Int) < (z:Int):=by omega
     by_cases h45:z=45
     ·subst h45
      have HC2:Hid (k=(Lib.lastIdx s 45 (k+1)).toNat):=by show _=_;rw [HSn.out,if_pos (by decide)];simp
      clear h128 hx256 z0 z1 g4
      go_wp2_with fail
      go_round
      case rel=>exact ⟨k+1,k,HK.out,by go_num,rfl,HC2.out,HA2.out⟩
      case measure=>have:=HK.out;simp [intOf];omega
     ·have HC2:Hid (c=(Lib.lastIdx s 45 (k+1)).toNat):=by show _=_;rw [HSn.out,if_neg (by omega)];exact HCC.out
      have g5:((z:Int)==45)=false:=bN (by omega)
      clear h128 hx256 h45
      go_wp2_with fail
      go_round
      case rel=>exact ⟨k+1,c,HK.out,by go_num,rfl,HC2.out,HA2.out⟩
      case measure=>have:=HK.out;simp [intOf];omega
    ·have g4:(127:Int) < (z:Int):=by omega
     have HX:=hid (HZN.out (HBad.out h128))
     clear h128 hx256
     go_wp2_with fail
     go_ret2
     exact DecPost.bad HX.out rfl (Below.refl _ _)
   ·have hkl:k=s.size:=by omega
    have hce:c=cutOf s:=by rw [hc,hkl];rfl
    have HALL:Hid (∀x∈bytesOf s,x.toNat < 128):=by
     have:=HAL.out
     rw [hkl,← HBL.out,List.take_length] at this
     exact this
    have HD:=hid (dec_insG s HALL.out)
    have hst:startOf s=if c=0 then 0 else c+1:=by unfold startOf;rw [← hce]
    have hcl:c≠0→c < s.size:=fun h=>by rw [hce] at h ⊢;exact (cut_mark s h).1
    rw [← hce] at HD HZZ
    have HCL:=hid hcl
    have HCE:=hid hst
    have g4:¬(k:Int) < (s.size:Int):=by omega
    have HCS:Hid (c≤s.size):=by show _≤_;rw [hc,hkl];exact lastIdx_lt s s.size
    clear hkl hce hst hcl hk hlt hc HCC HAL
    go_wp2_with fail
    go_loopw [6,7] (fun vo vi wr=>∃k:Nat,k≤c∧vi=.int .i64 (k:Int)∧NOwn wr w.heap.size vo (((bytesOf s).take k).map UInt8.toNat)∧Below w.heap.size w wr) (fun _ vi _=>c-(intOf vi).toNat)
    case atStart=>exact ⟨0,Nat.zero_le _,rfl,Own.nil _ _ _ _,Below.refl _ _⟩
    case round =>
     obtain ⟨j,hj,rfl,ho,hb⟩:=hrel
     have HO:=hid ho
     have HB:=hid hb
     have HSz:Hid (w.heap.size≤wr.heap.size):=hb.size
     have j0:(0:Int)≤(j:Int):=by omega
     clear ho hb
     by_cases hlt:j < c
     ·have hjs:j < s.size:=by have:=HCS.out;omega
      have j1:(j:Int) < (c:Int):=by omega
      have j2:(j:Int) < (s.size:Int):=by omega
      have HSn:Hid (((bytesOf s).take (j+1)).map UInt8.toNat=((bytesOf s).take j).map UInt8.toNat++[s[j].toNat]):=by
       show _=_
       rw [List.take_succ_eq_append_getElem (by rw [HBL.out];exact hjs),List.map_append];rfl
      have hx256:=byte_lt s[j]
      obtain ⟨z,hz⟩:∃z,s[j].toNat=z:=⟨_,rfl⟩
      rw [hz] at hx256 HSn
      have z0:(0:Int)≤(z:Int):=by omega
      have z1:(z:Int) < 256:=by omega
      have HLen:Hid ((((bytesOf s).take j).map UInt8.toNat).length≤4000):=by
       show _≤_
       rw [List.length_map,List.length_take,HBL.out]
       have:=HSS.out
       omega
      obtain ⟨v',w',hr,ho',hg⟩:=appendN_run (HO.out.alloc (.cells #[.int .i64 (z:Int)] 3)) (Row.lit fn wr [z] 3 (0,0) (by simp)) (by have:=HLen.out;simp at this ⊢;omega) (by have:=HSz.out;simp;omega)
      have HO2:=hid ho'
      have HB2:=hid ((HB.out.alloc HSz.out (.cells #[.int .i64 (z:Int)] 3)).grown hg (by have:=HSz.out;simp;omega) (Own.lt HO.out))
      have HJ:=hid hlt
      clear ho' hg hx256 hlt hj
      go_wp2_with (at_builtin;go_must (refine wpList_append_run hr rfl _ _ rfl rfl rfl rfl ?_))
      go_roundw
      case rel=>exact ⟨j+1,HJ.out,by go_num,by rw [HSn.out];exact HO2.out,HB2.out⟩
      case measure=>have:=HJ.out;simp [intOf];omega
     ·have hjc:j=c:=by omega
      subst hjc
      have HST:Hid (startOf s≤s.size):=by
       show _≤_
       rw [HCE.out]
       split
       ·omega
       ·have:=HCL.out (by assumption);omega
      have HLen:Hid ((((bytesOf s).take j).map UInt8.toNat).length≤4000):=by
       show _≤_
       rw [List.length_map,List.length_take,HBL.out]
       have:=HSS.out
       omega
      have g5:¬(j:Int) < (j:Int):=by omega
      obtain ⟨st,hst⟩:∃st,st=startOf s:=⟨_,rfl⟩
      rw [← hst] at HD HCE HST
      generalize ((bytesOf s).take j).map UInt8.toNat=L at *
      clear hlt hj hst
      have hz:=HZZ.out
      clear HZZ
      have HSTE:Hid (st=j+1):=by show _=_;rw [HCE.out,if_neg hz]
      have g6:(0:Int) < (j:Int):=by omega
      clear hz
      go_wp2_with fail
      go_loopw [6,8,9,10,11] (fun vo va vn vi vb wr=>∃(ys:List Nat) (at_ sign i bias f:Nat),va=.int .i64 (at_:Int)∧vn=.int .i64 (sign:Int)∧vi=.int .i64 (i:Int)∧vb=.int .i64 (bias:Int)∧NOwn wr w.heap.size vo ys∧Below w.heap.size w wr∧dec s=insG f ys ((vals s).drop at_) sign i bias (decide (i=0))∧s.size≤at_+f∧at_≤s.size∧ys.length≤4000∧i≤4000∧sign≤1114111∧bias≤2340) (fun _ va _ _ _ _=>s.size-(intOf va).toNat)
      case atStart=>exact ⟨L,st,128,0,72,s.size-st,by rw [HSTE.out];go_num,rfl,rfl,rfl,HO.out,HB.out,HD.out,by omega,HST.out,HLen.out,by decide,by decide,by decide⟩
      case round =>
       obtain ⟨ys,at_,sign,i,bias,f,rfl,rfl,rfl,rfl,ho,hb,hE,hf,hat,hyl,hil,hsg,hbi⟩:=hrel
       have HOy:=hid ho
       have HBy:=hid hb
       have HSz:Hid (w.heap.size≤wr.heap.size):=hb.size
       rcases ho.row with ⟨a',cap',hE0,hE1,hE2,hE3⟩
       subst hE0
       unfold maxLen at hE2
       have y0:(ys.length:Int)≤(cap':Int):=by omega
       have y1:(cap':Int)≤9223372036854775807:=by omega
       have y2:(ys.length:Int)≤4000:=by omega
       have at0:(0:Int)≤(at_:Int):=by omega
       have at1:(at_:Int)≤(s.size:Int):=by omega
       have i0:(0:Int)≤(i:Int):=by omega
       have i1:(i:Int)≤4000:=by omega
       have sg0:(0:Int)≤(sign:Int):=by omega
       have sg1:(sign:Int)≤1114111:=by omega
       have b0:(0:Int)≤(bias:Int):=by omega
       have b1:(bias:Int)≤2340:=by omega
       clear ho hb hE1 hE2 hE3 HO HB HD
       by_cases hlt:at_ < s.size
       ·have hne:(vals s).drop at_≠[]:=by
         intro h
         have:=congrArg List.length h
         rw [List.length_drop,HVL.out] at this
         simp at this
         omega
        obtain ⟨g,rfl⟩:∃g,f=g+1:=⟨f-1,by omega⟩
        obtain ⟨Q,hQ⟩:∃Q,Q=rd ((vals s).drop at_) i 1 36 bias:=⟨_,rfl⟩
        have HNone:Hid (Q=none→Z=([],4)):=fun h=>HZN.out (by rw [hE];exact insG_none hne (by rw [← hQ];exact h))
        have HSome:Hid (∀to rest,Q=some (to,rest)→dec s=if isS ((sign+to/(ys.length+1):Nat):Int)=true∧ys.length < 256 then insG g (ins ys (to%(ys.length+1)) (sign+to/(ys.length+1))) rest (sign+to/(ys.length+1)) (to%(ys.length+1)+1) (adapt (to-i) (ys.length+1) (decide (i=0))) false else none):=fun to rest h=>by rw [hE];exact insG_some hne (by rw [← hQ];exact h)
        have HQ:=hid hQ
        have HF:=hid hf
        have HLT:=hid hlt
        have HYL:=hid hyl
        have HIL:=hid hil
        have HBI:=hid hbi
        have HSG:=hid hsg
        have ga:(at_:Int) < (s.size:Int):=by omega
        have gda:decide (at_ < s.size)=true:=decide_eq_true hlt
        clear hE hQ hne hf hat hyl hil hsg hbi hlt
        go_wp2_with fail
        go_loop [8,10,13,14] (fun va vi vw vk=>∃at' i' wt kk:Nat,va=.int .i64 (at':Int)∧vi=.int .i64 (i':Int)∧vw=.int .i64 (wt:Int)∧vk=.int .i64 (kk:Int)∧at_≤at'∧at'≤s.size∧i≤i'∧i'≤2147483647∧1≤wt∧wt≤2147483647∧kk≤36 * (at'+1)∧Q=rd ((vals s).drop at') i' wt kk bias) (fun va _ _ _=>s.size-(intOf va).toNat)
        case atStart=>exact ⟨at_,i,1,36,rfl,rfl,rfl,rfl,Nat.le_refl _,Nat.le_of_lt HLT.out,Nat.le_refl _,by have:=HIL.out;omega,by decide,by decide,by omega,HQ.out⟩
        case round =>
         obtain ⟨at',i',wt,kk,rfl,rfl,rfl,rfl,ha1,ha2,hi1,hi2,hw1,hw2,hkk,hr⟩:=hrel
         have a0:(0:Int)≤(at':Int):=by omega
         have m0:(i:Int)≤(i':Int):=by omega
         have m1:(i':Int)≤2147483647:=by omega
         have w0:(1:Int)≤(wt:Int):=by omega
         have w1:(wt:Int)≤2147483647:=by omega
         have k0:(0:Int)≤(kk:Int):=by omega
         have k1:(kk:Int)≤150000:=by have:=HSS.out;omega
         by_cases hend:at'=s.size
         ·have HX:Hid (Z=([],4)):=HNone.out (by rw [hr,hend,List.drop_eq_nil_of_le (by rw [HVL.out];omega)];rfl)
          have ge:((at':Int)==(s.size:Int))=true:=by rw [beq_iff_eq];omega
          have ge2:(at':Int)=(s.size:Int):=by omega
          clear hr ha1 ha2 hi1 hi2 hw1 hw2 hkk hend
          go_wp2_with fail
          go_ret2
          exact DecPost.bad HX.out rfl HBy.out
         ·have hlt':at' < s.size:=by omega
          have ge:((at':Int)==(s.size:Int))=false:=bN (by omega)
          have ga':(at':Int) < (s.size:Int):=by omega
          rw [vals_drop hlt'] at hr
          obtain ⟨x,hx⟩:∃x,s[at']=x:=⟨_,rfl⟩
          have HD:=hid (fun w'=>rvalue_calls x w')
          have hx256:=byte_lt x
          rw [hx] at hr
          obtain ⟨z,hz⟩:∃z,x.toNat=z:=⟨_,rfl⟩
          have hz':s[at'].toNat=z:=by rw [hx,hz]
          rw [hz] at HD hx256
          have z0:(0:Int)≤(z:Int):=by omega
          have z1:(z:Int) < 256:=by omega
          have HK:=hid hlt'
          clear hx hz hx256 hend ha2
          cases hv:val x with
          | none =>
            rw [hv] at hr HD
            have HX:Hid (Z=([],4)):=HNone.out (by rw [hr];rfl)
            clear hr ha1 hi1 hi2 hw1 hw2 hkk hv
            simp only [valInt] at HD
            go_wp2_with fail
            refine (HD.out _).mono ?_
            rintro e w1 ⟨rfl,rfl⟩
            go_wp2_with fail
            go_ret2
            exact DecPost.bad HX.out rfl HBy.out
          | some d =>
            have hd36:=val_lt hv
            rw [hv] at hr HD
            clear hv
            simp only [valInt] at HD
            simp only [rd] at hr
            have d0:(0:Int)≤(d:Int):=by omega
            have d1:(d:Int) < 36:=by omega
            have dn:¬(d:Int) < 0:=by omega
            obtain ⟨q,hq⟩:∃q,q=(most-i')/wt:=⟨_,rfl⟩
            have e1:((2147483647:Int)-(i':Int))/(wt:Int)=(q:Int):=by rw [hq,Int.natCast_ediv];congr 1;unfold most;omega
            by_cases hdq:q < d
            ·have HX:Hid (Z=([],4)):=HNone.out (by rw [hr,if_pos (.inr (by rw [← hq];exact hdq))])
             have gq:(q:Int) < (d:Int):=by omega
             clear hr ha1 hi1 hi2 hw1 hw2 hkk hq hdq
             go_wp2_with fail
             refine (HD.out _).mono ?_
             rintro e w1 ⟨rfl,rfl⟩
             go_wp2_with fail
             go_ret2
             exact DecPost.bad HX.out rfl HBy.out
            ·have gq:¬(q:Int) < (d:Int):=by omega
             have hdw:d * wt≤most-i':=(Nat.le_div_iff_mul_le (by omega)).1 (by omega)
             rw [if_neg (by rw [← hq];unfold most;omega)] at hr
             obtain ⟨p,hp⟩:∃p,p=d * wt:=⟨_,rfl⟩
             have e2:(d:Int) * (wt:Int)=(p:Int):=by rw [hp,Int.natCast_mul]
             rw [← hp] at hr hdw
             unfold most at hdw
             have p0:(0:Int)≤(p:Int):=by omega
             have p1:(i':Int)+(p:Int)≤2147483647:=by omega
             have t1:=thr_ge kk bias
             have t2:=thr_le kk bias
             have HT:=hid (fun w'=>rthr_calls kk bias w' (by have:=HSS.out;omega) (by have:=HBI.out;omega))
             generalize thr kk bias=t at *
             have t3:(1:Int)≤(t:Int):=by omega
             have t4:(t:Int)≤26:=by omega
             by_cases hdt:d < t
             ·rw [if_pos hdt] at hr
              have gt:(d:Int) < (t:Int):=by omega
              obtain ⟨to,hto⟩:∃to,to=i'+p:=⟨_,rfl⟩
              rw [← hto] at hr
              have hX:=HSome.out to _ hr
              have eto:(i':Int)+(p:Int)=(to:Int):=by omega
              obtain ⟨qq,hqd⟩:∃qq,qq=to/(ys.length+1):=⟨_,rfl⟩
              obtain ⟨pp,hpd⟩:∃pp,pp=to%(ys.length+1):=⟨_,rfl⟩
              obtain ⟨S,hS⟩:∃S,S=sign+qq:=⟨_,rfl⟩
              have hpl:pp≤ys.length:=by rw [hpd];have:=Nat.mod_lt to (y:=ys.length+1) (by omega);omega
              have hql:qq≤to:=by rw [hqd];exact Nat.div_le_self _ _
              rw [← hqd,← hpd,← hS] at hX
              have e3:(to:Int)/((ys.length:Int)+1)=(qq:Int):=by rw [hqd,Int.natCast_ediv];rfl
              have e4:(to:Int)%((ys.length:Int)+1)=(pp:Int):=by rw [hpd,Int.natCast_emod];rfl
              have e5:(sign:Int)+(qq:Int)=(S:Int):=by omega
              have to0:(i:Int)≤(to:Int):=by omega
              have to1:(to:Int)≤2147483647:=by omega
              have qq0:(0:Int)≤(qq:Int):=by omega
              have qq1:(qq:Int)≤2147483647:=by omega
              have pp0:(0:Int)≤(pp:Int):=by omega
              have pp1:(pp:Int)≤(ys.length:Int):=by omega
              obtain ⟨fl,hfl⟩:∃fl,decide (i=0)=fl:=⟨_,rfl⟩
              have efl:((i:Int)==0)=fl:=by
               rw [← hfl]
               by_cases h:i=0
               ·subst h;rfl
               ·rw [decide_eq_false h,beq_eq_false_iff_ne];omega
              have HAd:Hid (∀w',Calls Tryz.prog 130 #[.int .i64 ((to:Int)-(i:Int)),.int .i64 ((ys.length:Int)+1),.bool fl] w' fun e w2=>e=.returned (.int .i64 ((adapt (to-i) (ys.length+1) fl:Nat):Int))∧w2=w'):=fun w'=>by
               have:=radapt_calls (to-i) (ys.length+1) fl w' (by omega) (by omega) (by have:=HYL.out;omega)
               rw [Int.natCast_sub (by omega),Int.natCast_add] at this
               exact this
              rw [hfl] at hX
              have HBi2:=hid (adapt_le (to-i) (ys.length+1) fl)
              generalize adapt (to-i) (ys.length+1) fl=A at *
              have HFi:Hid (at'+1≤s.size∧s.size≤at'+1+g∧at_ < at'+1):=⟨hlt',by have:=HF.out;omega,by omega⟩
              have HPl:=hid hpl
              have HSc:=hid (fun w'=>rscalar_calls (S:Int) w')
              by_cases hbig:2147483647 < S
              ·have HX:Hid (Z=([],4)):=HZN.out (by
                rw [hX,if_neg]
                intro h
                have:=isS_iff.1 h.1
                omega)
               have gS:(2147483647:Int) < (S:Int):=by omega
               have gS2:(S:Int)≤3000000000:=by omega
               clear hr ha1 hi1 hi2 hw1 hw2 hkk hq hdq hdt hp hdw t1 t2 hd36 hX hqd hpd hS hpl hql hbig hto
               go_wp2_with fail
               refine (HD.out _).mono ?_
               rintro e w1 ⟨rfl,rfl⟩
               go_wp2_with fail
               refine (HT.out _).mono ?_
               rintro e w1 ⟨rfl,rfl⟩
               go_wp2_with fail
               refine (HAd.out _).mono ?_
               rintro e w1 ⟨rfl,rfl⟩
               go_wp2_with fail
               go_ret2
               exact DecPost.bad HX.out rfl HBy.out
              ·have gS:¬(2147483647:Int) < (S:Int):=by omega
               by_cases hsc:isS (S:Int)=true
               ·rw [hsc] at HSc
                by_cases hfull:ys.length < 256
                ·rw [if_pos ⟨hsc,hfull⟩] at hX
                 have hS1:S≤1114111:=by have:=isS_iff.1 hsc;omega
                 have gfull:¬(256:Int)≤(ys.length:Int):=by omega
                 have HX:Hid (dec s=insG g (ins ys pp S) ((vals s).drop (at'+1)) S (pp+1) A (decide (pp+1=0))):=by
                  show _=_
                  rw [hX,decide_eq_false (by omega)]
                 have HS2:=hid hS1
                 have HIL2:=hid (ins_len ys pp S hpl)
                 have HFu:=hid hfull
                 have S2:(S:Int)≤1114111:=by omega
                 clear hr ha1 hi1 hi2 hw1 hw2 hkk hq hdq hdt hp hdw t1 t2 hd36 hX hqd hpd hS hpl hql hbig hto hsc hfull hS1
                 go_wp2_with fail
                 refine (HD.out _).mono ?_
                 rintro e w1 ⟨rfl,rfl⟩
                 go_wp2_with fail
                 refine (HT.out _).mono ?_
                 rintro e w1 ⟨rfl,rfl⟩
                 go_wp2_with fail
                 refine (HAd.out _).mono ?_
                 rintro e w1 ⟨rfl,rfl⟩
                 go_wp2_with fail
                 refine (HSc.out _).mono ?_
                 rintro e w1 ⟨rfl,rfl⟩
                 go_wp2_with fail
                 have HOL:Hid (NOwn (w1.alloc (.cells #[.int .i64 (S:Int)] 3)).drew w.heap.size (.slice (some ⟨w1.heap.size,0,none⟩) 1 1) [S]):=(Own.lit fn 3 w1 [S] (by simp)).mono HSz.out
                 have HL1:Hid ([S].length+(ys.drop pp).length≤1000000):=by show _≤_;have:=HYL.out;simp;omega
                 have HL2:Hid ((ys.take pp).length+([S]++ys.drop pp).length≤1000000):=by show _≤_;have:=HYL.out;simp;omega
                 have HBs:Hid (w.heap.size≤(w1.alloc (.cells #[.int .i64 (S:Int)] 3)).drew.heap.size):=by show _≤(w1.alloc (.cells #[.int .i64 (S:Int)] 3)).heap.size;have:=HSz.out;simp;omega
                 rcases HOy.out.2 with ⟨hE0,hn0⟩ | ⟨gb,cap2,cur,hE0,hbg,hgc,hnc,hcm,hcs,htk⟩
                 ·injection hE0 with e7 e8 e9
                  subst e7 e9
                  have hp0:pp=0:=by have:=HPl.out;omega
                  have HNP:Hid (ys.length≤pp):=by show _≤_;omega
                  have HON:Hid (∀wx,NOwn wx w.heap.size (.slice none 0 0) (ys.take pp)):=by
                   intro wx
                   rw [List.eq_nil_of_length_eq_zero e8,List.take_nil]
                   exact Own.nil fn _ wx w.heap.size
                  clear hn0
                  go_region_held3 (fun w'=>True) (trivial) (first
                   | ((refine step_appendN (base:=w.heap.size) (xs:=[S]) (l:=ys.drop pp) HOL.out (by exact row_none pp _ _ _ HNP.out (by first | rfl | exact e8 | omega) (by first | exact Nat.zero_le _ | simp)) HL1.out HBs.out rfl _ _ rfl rfl rfl rfl ?_;intro v1 x1 ho1 hg1))
                   | ((refine step_appendN (base:=w.heap.size) (xs:=ys.take pp) (l:=[S]++ys.drop pp) (HON.out _) (ho1.row) HL2.out (Nat.le_trans HBs.out hg1.size) rfl _ _ rfl rfl rfl rfl ?_;intro v2 x2 ho2 hg2)))
                  have HO4:Hid (NOwn x2 w.heap.size v2 (ins ys pp S)):=ho2
                  have HB4:Hid (Below w.heap.size w x2):=((HBy.out.alloc HSz.out (.cells #[.int .i64 (S:Int)] 3)).drew.grown hg1 HBs.out (by intro k hk;have h9:=HSz.out;injection hk with hk;subst hk;exact h9)).grown hg2 (Nat.le_trans HBs.out hg1.size) (by intro k hk;cases hk)
                  clear ho1 hg1 ho2 hg2
                  go_wp2_with fail
                  go_roundw
                  case rel=>exact ⟨ins ys pp S,at'+1,S,pp+1,A,g,by go_num,rfl,by go_num,rfl,HO4.out,HB4.out,HX.out,HFi.out.2.1,HFi.out.1,by have:=HIL2.out;have:=HFu.out;omega,by have:=HPl.out;have:=HFu.out;omega,HS2.out,HBi2.out⟩
                  case measure=>have:=HFi.out;simp [intOf];omega
                 ·injection hE0 with e7 e8 e9
                  subst e7 e9
                  have HGB:Hid (gb < w1.heap.size):=(Array.getElem?_eq_some_iff.1 hgc).1
                  have HBG:=hid hbg
                  have HOT:=hid (own_take HOy.out pp HPl.out)
                  have hcl:ys.length≤cap':=hnc
                  have HCM:=hid hcm
                  clear hnc hcm hcs htk hgc e8 hbg
                  have ppc:(pp:Int)≤(cap':Int):=by omega
                  by_cases hcp:cap'=pp
                  ·have HNP:Hid (ys.length≤pp):=by show _≤_;omega
                   have hnp:ys.length-pp=0:=by omega
                   rw [hcp] at HOT
                   clear hcl
                   go_region_held3 (fun w'=>True) (trivial) (first
                    | ((refine step_appendN (base:=w.heap.size) (xs:=[S]) (l:=ys.drop pp) HOL.out (by exact row_none pp _ _ _ HNP.out (by first | rfl | exact hnp | omega) (by first | exact Nat.zero_le _ | (have:=HCM.out;unfold maxLen at *;omega))) HL1.out HBs.out rfl _ _ rfl rfl rfl rfl ?_;intro v1 x1 ho1 hg1))
                    | ((refine step_appendN (base:=w.heap.size) (xs:=ys.take pp) (l:=[S]++ys.drop pp) ((World.ownsRow.kept (HOT.out.alloc _).drew hg1 (Or.inr (by intro h9;have h8:=HGB.out;have h10:gb=w1.heap.size:=Option.some.inj h9;omega)))) (ho1.row) HL2.out (Nat.le_trans HBs.out hg1.size) rfl _ _ rfl rfl rfl rfl ?_;intro v2 x2 ho2 hg2)))
                   have HO4:Hid (NOwn x2 w.heap.size v2 (ins ys pp S)):=ho2
                   have HB4:Hid (Below w.heap.size w x2):=((HBy.out.alloc HSz.out (.cells #[.int .i64 (S:Int)] 3)).drew.grown hg1 HBs.out (by intro k hk;have h9:=HSz.out;injection hk with hk;subst hk;exact h9)).grown hg2 (Nat.le_trans HBs.out hg1.size) (by intro k hk;have h9:=HBG.out;injection hk with hk;subst hk;exact h9)
                   clear ho1 hg1 ho2 hg2
                   go_wp2_with fail
                   go_roundw
                   case rel=>exact ⟨ins ys pp S,at'+1,S,pp+1,A,g,by go_num,rfl,by go_num,rfl,HO4.out,HB4.out,HX.out,HFi.out.2.1,HFi.out.1,by have:=HIL2.out;have:=HFu.out;omega,by have:=HPl.out;have:=HFu.out;omega,HS2.out,HBi2.out⟩
                   case measure=>have:=HFi.out;simp [intOf];omega
                  ·have hcp2:(cap'=pp)=False:=eq_false hcp
                   have HRD:=hid (row_drop HOy.out.row pp HPl.out)
                   clear hcl
                   go_region_held3 (fun w'=>True) (trivial) (first
                    | ((refine step_appendN (base:=w.heap.size) (xs:=[S]) (l:=ys.drop pp) HOL.out (by exact (HRD.out.below ((Below.refl _ _).alloc (Nat.le_refl _) _)).drew) HL1.out HBs.out rfl _ _ rfl rfl rfl rfl ?_;intro v1 x1 ho1 hg1))
                    | ((refine step_appendN (base:=w.heap.size) (xs:=ys.take pp) (l:=[S]++ys.drop pp) ((World.ownsRow.kept (HOT.out.alloc _).drew hg1 (Or.inr (by intro h9;have h8:=HGB.out;have h10:gb=w1.heap.size:=Option.some.inj h9;omega)))) (ho1.row) HL2.out (Nat.le_trans HBs.out hg1.size) rfl _ _ rfl rfl rfl rfl ?_;intro v2 x2 ho2 hg2)))
                   have HO4:Hid (NOwn x2 w.heap.size v2 (ins ys pp S)):=ho2
                   have HB4:Hid (Below w.heap.size w x2):=((HBy.out.alloc HSz.out (.cells #[.int .i64 (S:Int)] 3)).drew.grown hg1 HBs.out (by intro k hk;have h9:=HSz.out;injection hk with hk;subst hk;exact h9)).grown hg2 (Nat.le_trans HBs.out hg1.size) (by intro k hk;have h9:=HBG.out;injection hk with hk;subst hk;exact h9)
                   clear ho1 hg1 ho2 hg2
                   go_wp2_with fail
                   go_roundw
                   case rel=>exact ⟨ins ys pp S,at'+1,S,pp+1,A,g,by go_num,rfl,by go_num,rfl,HO4.out,HB4.out,HX.out,HFi.out.2.1,HFi.out.1,by have:=HIL2.out;have:=HFu.out;omega,by have:=HPl.out;have:=HFu.out;omega,HS2.out,HBi2.out⟩
                   case measure=>have:=HFi.out;simp [intOf];omega
                ·have HX:Hid (Z=([],4)):=HZN.out (by rw [hX,if_neg (fun h=>hfull h.2)])
                 have gfull:(256:Int)≤(ys.length:Int):=by omega
                 clear hr ha1 hi1 hi2 hw1 hw2 hkk hq hdq hdt hp hdw t1 t2 hd36 hX hqd hpd hS hpl hql hbig hto hsc hfull
                 go_wp2_with fail
                 refine (HD.out _).mono ?_
                 rintro e w1 ⟨rfl,rfl⟩
                 go_wp2_with fail
                 refine (HT.out _).mono ?_
                 rintro e w1 ⟨rfl,rfl⟩
                 go_wp2_with fail
                 refine (HAd.out _).mono ?_
                 rintro e w1 ⟨rfl,rfl⟩
                 go_wp2_with fail
                 refine (HSc.out _).mono ?_
                 rintro e w1 ⟨rfl,rfl⟩
                 go_wp2_with fail
                 go_ret2
                 exact DecPost.bad HX.out rfl HBy.out
               ·have hsc':isS (S:Int)=false:=by simpa using hsc
                have HX:Hid (Z=([],4)):=HZN.out (by rw [hX,if_neg (fun h=>hsc h.1)])
                rw [hsc'] at HSc
                clear hr ha1 hi1 hi2 hw1 hw2 hkk hq hdq hdt hp hdw t1 t2 hd36 hX hqd hpd hS hpl hql hbig hto hsc hsc'
                go_wp2_with fail
                refine (HD.out _).mono ?_
                rintro e w1 ⟨rfl,rfl⟩
                go_wp2_with fail
                refine (HT.out _).mono ?_
                rintro e w1 ⟨rfl,rfl⟩
                go_wp2_with fail
                refine (HAd.out _).mono ?_
                rintro e w1 ⟨rfl,rfl⟩
                go_wp2_with fail
                refine (HSc.out _).mono ?_
                rintro e w1 ⟨rfl,rfl⟩
                go_wp2_with fail
                go_ret2
                exact DecPost.bad HX.out rfl HBy.out
             ·rw [if_neg hdt] at hr
              have gt:¬(d:Int) < (t:Int):=by omega
              obtain ⟨q2,hq2⟩:∃q2,q2=2147483647/(36-t):=⟨_,rfl⟩
              have e3:(2147483647:Int)/(36-(t:Int))=(q2:Int):=by rw [hq2,Int.natCast_ediv];congr 1;omega
              by_cases hbig:q2 < wt
              ·have HX:Hid (Z=([],4)):=HNone.out (by
                rw [hr]
                refine rd_big _ _ _ _ _ ?_
                unfold most
                rcases Nat.lt_or_ge 2147483647 (wt * (36-t)) with h | h
                ·exact h
                ·have:=(Nat.le_div_iff_mul_le (by omega:0 < 36-t)).2 h
                 omega)
               have gb:(q2:Int) < (wt:Int):=by omega
               clear hr ha1 hi1 hi2 hw1 hw2 hkk hq hdq hdt hp hdw t1 t2 hd36 hq2 hbig
               go_wp2_with fail
               refine (HD.out _).mono ?_
               rintro e w1 ⟨rfl,rfl⟩
               go_wp2_with fail
               refine (HT.out _).mono ?_
               rintro e w1 ⟨rfl,rfl⟩
               go_wp2_with fail
               go_ret2
               exact DecPost.bad HX.out rfl HBy.out
              ·have gb:¬(q2:Int) < (wt:Int):=by omega
               have hwm:wt * (36-t)≤2147483647:=(Nat.le_div_iff_mul_le (by omega)).1 (by omega)
               obtain ⟨y,hy⟩:∃y,y=wt * (36-t):=⟨_,rfl⟩
               have e4:(wt:Int) * (36-(t:Int))=(y:Int):=by rw [hy,Int.natCast_mul];congr 1;omega
               rw [← hy] at hr hwm
               have hy1:1≤y:=by rw [hy];exact Nat.mul_pos hw1 (by omega)
               have yy0:(0:Int)≤(y:Int):=by omega
               have yy1:(y:Int)≤2147483647:=by omega
               have HX:Hid (at_≤at'+1∧at'+1≤s.size∧i≤i'+p∧i'+p≤2147483647∧1≤y∧y≤2147483647∧kk+36≤36 * (at'+1+1)∧Q=rd ((vals s).drop (at'+1)) (i'+p) y (kk+36) bias):=⟨by omega,hlt',by omega,by omega,hy1,by omega,by omega,hr⟩
               clear hr ha1 hi1 hi2 hw1 hw2 hkk hq hdq hdt hp hdw t1 t2 hd36 hq2 hbig hwm hy hy1
               go_wp2_with fail
               refine (HD.out _).mono ?_
               rintro e w1 ⟨rfl,rfl⟩
               go_wp2_with fail
               refine (HT.out _).mono ?_
               rintro e w1 ⟨rfl,rfl⟩
               go_wp2_with fail
               go_round
               case rel=>exact ⟨at'+1,i'+p,y,kk+36,by go_num,by go_num,rfl,by go_num,HX.out⟩
               case measure=>have:=HK.out;simp [intOf];omega
       ·have hae:(vals s).drop at_=[]:=List.drop_eq_nil_of_le (by rw [HVL.out];omega)
        rw [hae,insG_nil] at hE
        have ga:¬(at_:Int) < (s.size:Int):=by omega
        by_cases hfull:256 < ys.length
        ·rw [if_pos hfull] at hE
         have HX:=hid (HZN.out hE)
         have gf:(256:Int) < (ys.length:Int):=by omega
         clear hE hf hat hyl hil hsg hbi hlt hae hfull
         go_wp2_with fail
         go_ret2
         exact DecPost.bad HX.out rfl HBy.out
        ·rw [if_neg hfull] at hE
         have HX:=hid (HZS.out _ hE)
         have gf:¬(256:Int) < (ys.length:Int):=by omega
         clear hE hf hat hyl hil hsg hbi hlt hae hfull
         go_wp2_with fail
         go_ret2
         exact DecPost.good HX.out rfl HOy.out HBy.out
theorem unpuny_calls (s:ByteArray) (w:World) (hm:s.size≤maxLen):Calls Tryz.prog 89 #[.string s] w fun e w'=>DecPost (decR s) w e w':=by
 by_cases h:cutOf s=0
 ·exact unpuny_a s w hm h
 ·exact unpuny_b s w hm h
end Go.Proofs.YtpohekldddbneaaGreatDoor
