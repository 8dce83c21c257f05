import Derived.Test.YtpohekldddbneaaGreatDoorDaAB
import Derived.Test.YtpohekldddbneaaGreatDoorDaAA
set_option linter.unusedVariables false
set_option linter.unusedSimpArgs false
set_option maxRecDepth 20000
set_option maxHeartbeats 16000000
namespace Go.Proofs.YtpohekldddbneaaGreatDoor
open Go.RowKit
set_option maxRecDepth 50000 in
theorem puny_a (v:Value) (l:List Int) (w:World) (hv:IRow w v l) (hzz:(low (nats l)).length=0) :
 Calls Tryz.prog 88 #[v] w fun e w'=>e=.returned (.tuple #[.string (encR l).1,.int .i64 (encR l).2])∧Below w.heap.size w w':=by
 have HV:=hid hv
 have HZZ:=hid hzz
 clear hzz
 obtain ⟨a,cap,rfl,h1,h2,h3⟩:=hv
 unfold maxLen at h2
 have l0:(l.length:Int)≤(cap:Int):=by omega
 have cp:(cap:Int)≤9223372036854775807:=by omega
 clear h3
 by_cases hlong:256 < l.length
 ·rw [encR_long hlong]
  have g:(256:Int) < (l.length:Int):=by omega
  clear hlong h1 h2
  go_enter Tryz.func88,Tryz.ntmps88
  go_wp2_with fail
  go_ret2
  exact ⟨rfl,Below.refl _ _⟩
 ·have HLG:=hid hlong
  obtain ⟨R,hR⟩:∃R,R=encR l:=⟨_,rfl⟩
  rw [← hR]
  have HR:=hid hR
  have g:decide ((256:Int) < (l.length:Int))=false:=decide_eq_false (by omega)
  have l1:(l.length:Int)≤256:=by omega
  clear hlong h1 h2 hR
  go_enter Tryz.func88,Tryz.ntmps88
  go_wp2_with fail
  go_loopw [4,5] (fun vo vi wr=>∃k:Nat,k≤l.length∧vi=.int .i64 (k:Int)∧BOwn wr w.heap.size vo (low (nats (l.take k)))∧Below w.heap.size w wr∧(l.take k).all isS=true) (fun _ vi _=>l.length-(intOf vi).toNat)
  case atStart=>exact ⟨0,Nat.zero_le _,rfl,Own.nil _ _ _ _,Below.refl _ _,rfl⟩
  case round =>
   obtain ⟨k,hk,rfl,ho,hb,hall⟩:=hrel
   have HO:=hid ho
   have HB:=hid hb
   have HA:=hid hall
   have HSz:Hid (w.heap.size≤wr.heap.size):=hb.size
   have k0:(0:Int)≤(k:Int):=by omega
   have HLL:Hid ((low (nats (l.take k))).length≤256):=by
    show _≤_
    have h1:=low_le (nats (l.take k))
    have h2:=nats_take_len l k
    have:=HLG.out
    omega
   clear ho hb hall
   by_cases hlt:k < l.length
   ·obtain ⟨b,off,rfl,hck⟩:=HV.out.open HB.out k hlt
    have k1:(k:Int) < (l.length:Int):=by omega
    have HK:=hid hlt
    have HSn:=hid (low_snoc l k hlt)
    have HAs:=hid (all_snoc l k hlt)
    have HAn:=hid (all_not l k hlt)
    generalize l[k]=c at *
    have HSc:=hid (fun w'=>rscalar_calls c w')
    by_cases hs:isS c=true
    ·have hc1:=isS_iff.1 hs
     obtain ⟨n,rfl⟩:∃n:Nat,c=(n:Int):=⟨c.toNat,by omega⟩
     rw [Int.toNat_natCast] at HSn
     have HN:Hid ((l.take (k+1)).all isS=true):=by show _=_;rw [HAs.out,HA.out,hs];rfl
     have n0:(0:Int)≤(n:Int):=by omega
     have n1:(n:Int)≤1114111:=by omega
     rw [hs] at HSc
     by_cases hn:n < 128
     ·rw [if_pos hn] at HSn
      have e0:=b8_nat n (by omega)
      generalize b8 n=x at *
      obtain ⟨v',w',hr,ho',hg⟩:=append_run (HO.out.alloc (.cells #[.int .u8 (x.toNat:Int)] 5)) (Row.lit fb wr [x] 5 (0,0) (by simp)) (by have:=HLL.out;simp;omega) (by have:=HSz.out;simp;omega)
      have HO2:=hid ho'
      have HB2:=hid ((HB.out.alloc HSz.out (.cells #[.int .u8 (x.toNat:Int)] 5)).grown hg (by have:=HSz.out;simp;omega) (Own.lt HO.out))
      rw [e0] at hr
      have g1:(n:Int) < 128:=by omega
      clear ho' hg e0 hn hs hc1 HAs HAn hlt hk
      go_wp2_with fail
      refine (HSc.out _).mono ?_
      rintro e w1 ⟨rfl,rfl⟩
      go_wp2_with (at_builtin;go_must (refine wpList_append_run hr rfl _ _ rfl rfl rfl rfl ?_))
      go_roundw
      case rel=>exact ⟨k+1,HK.out,by go_num,by rw [HSn.out];exact HO2.out,HB2.out,HN.out⟩
      case measure=>have:=HK.out;simp [intOf];omega
     ·rw [if_neg hn,List.append_nil] at HSn
      have g1:¬(n:Int) < 128:=by omega
      clear hn hs hc1 HAs HAn hlt hk
      go_wp2_with fail
      refine (HSc.out _).mono ?_
      rintro e w1 ⟨rfl,rfl⟩
      go_wp2_with fail
      go_roundw
      case rel=>exact ⟨k+1,HK.out,by go_num,by rw [HSn.out];exact HO.out,HB.out,HN.out⟩
      case measure=>have:=HK.out;simp [intOf];omega
    ·have hs':isS c=false:=by simpa using hs
     have HX:Hid (R=(strOf [],1)):=by show _=_;rw [HR.out,encR_bad HLG.out (HAn.out hs')]
     rw [hs'] at HSc
     clear hs hs' HAs HAn hlt hk HSn
     go_wp2_with fail
     refine (HSc.out _).mono ?_
     rintro e w1 ⟨rfl,rfl⟩
     go_wp2_with fail
     go_ret2
     exact ⟨by rw [HX.out];rfl,HB.out⟩
   ·have hkl:k=l.length:=by omega
    subst hkl
    rw [List.take_length] at HO HA HLL
    have HX:Hid (R=(strOf (enc (nats l)),0)):=by show _=_;rw [HR.out,encR_ok HLG.out HA.out]
    have HNR:=hid (nats_row HA.out HV.out)
    have HNL:Hid (∀c∈nats l,c≤1114111):=fun c hc=>(nats_le HA.out c hc).2
    have hnl:(nats l).length=l.length:=by simp [nats]
    have HPc:=hid (low_len (nats l))
    rcases HO.out.row with ⟨a',cap',hE0,hE1,hE2,hE3⟩
    subst hE0
    unfold maxLen at hE2
    have r0:((low (nats l)).length:Int)≤(cap':Int):=by omega
    have r1:(cap':Int)≤9223372036854775807:=by omega
    have r2:((low (nats l)).length:Int)≤256:=by have:=HLL.out;omega
    have HENC:Hid (enc (nats l)=low (nats l)++(if (low (nats l)).length=0 then [] else [45])++(encD (nats l) (low (nats l)).length (nats l).length 0 72 128 (low (nats l)).length).map letter):=by show _=_;unfold enc;rw [low_len]
    have k2:¬(l.length:Int) < (l.length:Int):=by omega
    generalize low (nats l)=L at *
    generalize hm:nats l=m at *
    have ml:(l.length:Int)=(m.length:Int):=by omega
    clear hE1 hE2 hE3 hk hlt HA
    obtain ⟨F,hF⟩:∃F,F=enc m:=⟨_,rfl⟩
    rw [← hF] at HENC HX
    clear hF
    generalize hP:L.length=P at *
    have hz:=HZZ.out
    clear HZZ
    have HS0:Hid (EncAt m P F L 0 72 128 P m.length):=⟨by rw [HENC.out,if_pos hz,List.append_nil],HPc.out,by omega,by omega,by omega,by omega,by omega⟩
    have g3:¬(0:Int) < (P:Int):=by omega
    have HO2:=HO
    have HB2:=HB
    clear hz HENC HO HB
    go_wp2_with fail
    go_loopw [4,6,8,9,10] (fun vo vc vn vd vb wr=>∃(ys:List UInt8) (delta bias n done f:Nat),vd=.int .i64 (delta:Int)∧vb=.int .i64 (bias:Int)∧vn=.int .i64 (n:Int)∧vc=.int .i64 (done:Int)∧BOwn wr w.heap.size vo ys∧Below w.heap.size w wr∧EncAt m P F ys delta bias n done f) (fun _ vc _ _ _ _=>l.length-(intOf vc).toNat)
    case atStart=>exact ⟨_,0,72,128,P,m.length,rfl,rfl,rfl,rfl,HO2.out,HB2.out,HS0.out⟩
    case round =>
     obtain ⟨ys,delta,bias,n,done,f,rfl,rfl,rfl,rfl,ho,hb,hE⟩:=hrel
     clear HS0 HO2 HB2
     have hdle:done≤m.length:=by rw [hE.done];exact List.countP_le_length
     have hst:=hE.steps
     have htop:=hE.top
     have hbi:=hE.bias
     have d0:(0:Int)≤(delta:Int):=by omega
     have d1:(delta:Int)≤400000000:=by omega
     have n0:(0:Int)≤(n:Int):=by omega
     have n1:(n:Int)≤1114112:=by omega
     have c0:(0:Int)≤(done:Int):=by omega
     have c1:(done:Int)≤256:=by have:=HLG.out;omega
     have i0:(0:Int)≤(bias:Int):=by omega
     have i1:(bias:Int)≤2340:=by omega
     have HOy:=hid ho
     have HBy:=hid hb
     have HEy:=hid hE
     have HML:Hid (m.length≤256):=by show _≤_;have:=HLG.out;omega
     clear ho hb hE hst htop hbi
     by_cases hlt:done < m.length
     ·have hcd:=HEy.out.done
      have HLR:Hid (least m n=lstF 1114112 n m):=(least_ref HNL.out (by rw [← hcd];exact hlt)).symm
      obtain ⟨G,X,q1,q2,q3,q4,q5,q6,q7⟩:=HEy.out.scan HNL.out hlt HML.out
      generalize least m n=s at *
      obtain ⟨p,hpd⟩:∃p,p=(s-n) * (done+1):=⟨_,rfl⟩
      rw [← hpd] at q5 q6 q7
      have e1:((s:Int)-(n:Int)) * ((done:Int)+1)=(p:Int):=by
       rw [hpd,Int.natCast_mul,Int.natCast_add,Int.natCast_sub q2];rfl
      have s0:(0:Int)≤(s:Int):=by omega
      have s1:(s:Int)≤1114111:=by omega
      have sn:(n:Int)≤(s:Int):=by omega
      have pp0:(0:Int)≤(p:Int):=by omega
      have pp1:(delta:Int)+(p:Int)≤400000000:=by omega
      have gd:(done:Int) < (l.length:Int):=by omega
      have HQ4:=hid q4
      have HQ5:=hid q5
      have HQ6:=hid q6
      have HQ7:=hid q7
      have HD:=hid hlt
      have HS1:=hid q3
      clear q1 q2 q3 q4 q5 q6 q7 hlt hpd hdle hcd
      go_wp2_with fail
      go_loop [11,12] (fun vx vi=>∃k x:Nat,k≤m.length∧vx=.int .i64 (x:Int)∧vi=.int .i64 (k:Int)∧x≤1114112∧s=lstF x n (m.drop k)) (fun _ vi=>l.length-(intOf vi).toNat)
      case atStart=>exact ⟨0,1114112,Nat.zero_le _,rfl,rfl,Nat.le_refl _,by rw [List.drop_zero];exact HLR.out⟩
      case round =>
       obtain ⟨k,x,hk,rfl,rfl,hx,hr⟩:=hrel
       clear HLR
       have x0:(0:Int)≤(x:Int):=by omega
       have x1:(x:Int)≤1114112:=by omega
       by_cases hlt:k < m.length
       ·obtain ⟨b,off,rfl,hck⟩:=HNR.out.open HBy.out k hlt
        have hc:=HNL.out m[k] (List.getElem_mem hlt)
        rw [drop_atPu hlt,lstF_cons] at hr
        have HK:Hid (k < l.length):=by show _ < _;omega
        have HK2:=hid hlt
        have k0:(0:Int)≤(k:Int):=by omega
        have k1:(k:Int) < (l.length:Int):=by omega
        generalize m[k]=c at *
        have cc0:(0:Int)≤(c:Int):=by omega
        have cc1:(c:Int)≤1114111:=by omega
        have HRr:=hid hr
        have HXx:=hid hx
        clear hr hx hk hlt
        by_cases hnc:n≤c
        ·have g1:(n:Int)≤(c:Int):=by omega
         by_cases hxc:x≤c
         ·have g2:¬(c:Int) < (x:Int):=by omega
          have HQ:Hid (s=lstF x n (m.drop (k+1))):=by show _=_;rw [HRr.out,if_pos hnc,Nat.min_eq_left hxc]
          clear hnc hxc HRr hc
          go_wp2_with fail
          go_round
          case rel=>exact ⟨k+1,x,HK2.out,rfl,by go_num,HXx.out,HQ.out⟩
          case measure=>have:=HK.out;simp [intOf];omega
         ·have g2:(c:Int) < (x:Int):=by omega
          have HQ:Hid (s=lstF c n (m.drop (k+1))):=by show _=_;rw [HRr.out,if_pos hnc,Nat.min_eq_right (by omega)]
          have HC:Hid (c≤1114112):=by show _≤_;omega
          clear hnc hxc HRr hc
          go_wp2_with fail
          go_round
          case rel=>exact ⟨k+1,c,HK2.out,rfl,by go_num,HC.out,HQ.out⟩
          case measure=>have:=HK.out;simp [intOf];omega
        ·have g1:¬(n:Int)≤(c:Int):=by omega
         have HQ:Hid (s=lstF x n (m.drop (k+1))):=by show _=_;rw [HRr.out,if_neg hnc]
         clear hnc HRr hc
         go_wp2_with fail
         go_round
         case rel=>exact ⟨k+1,x,HK2.out,rfl,by go_num,HXx.out,HQ.out⟩
         case measure=>have:=HK.out;simp [intOf];omega
       ·have hsx:s=x:=by
         rw [hr,List.drop_eq_nil_of_le (by omega)];rfl
        subst hsx
        have g1:¬(k:Int) < (l.length:Int):=by omega
        clear hr hx hk hlt x0 x1
        go_wp2_with fail
        go_loopw [4,6,9,10,13] (fun vo vc vd vb vi wr=>∃(zs:List UInt8) (k delta' bias' done':Nat),vd=.int .i64 (delta':Int)∧vb=.int .i64 (bias':Int)∧vc=.int .i64 (done':Int)∧vi=.int .i64 (k:Int)∧BOwn wr w.heap.size vo zs∧Below w.heap.size w wr∧ScanAt m P s G X (delta+p) done zs k delta' bias' done') (fun _ _ _ _ vi _=>l.length-(intOf vi).toNat)
        case atStart=>exact ⟨ys,0,delta+p,bias,done,by go_num,rfl,rfl,rfl,HOy.out,HBy.out,HQ6.out⟩
        case round =>
         obtain ⟨zs,k,delta',bias',done',rfl,rfl,rfl,rfl,ho,hb,hA⟩:=hrel
         have HOz:=hid ho
         have HBz:=hid hb
         have HA:=hid hA
         have hk:=hA.k
         have hst:=hA.steps
         have hbi:=hA.bias
         have hdn:done'≤256:=by
          have:=hA.done
          have h1:=take_countP_le m k s
          have:=HQ4.out
          have:=HML.out
          omega
         have hln:=hA.len
         have HZL:Hid (zs.length≤500000):=by show _≤_;omega
         have HSz:Hid (w.heap.size≤wr.heap.size):=hb.size
         clear ho hb hA HQ6 HOy HBy HEy d0 d1 c0 c1 i0 i1 pp0 hln
         have d0:(0:Int)≤(delta':Int):=by omega
         have d1:(delta':Int)≤400000256:=by have:=HML.out;omega
         have c0:(0:Int)≤(done':Int):=by omega
         have c1:(done':Int)≤256:=by omega
         have i0:(0:Int)≤(bias':Int):=by omega
         have i1:(bias':Int)≤2340:=by omega
         have k0:(0:Int)≤(k:Int):=by omega
         by_cases hlt:k < m.length
         ·obtain ⟨b,off,rfl,hck⟩:=HNR.out.open HBz.out k hlt
          have k1:(k:Int) < (l.length:Int):=by omega
          have HK:Hid (k < l.length):=by show _ < _;omega
          have HLT:=hid (HA.out.lt hlt)
          have HGT:=hid (HA.out.gt hlt)
          have HEQ:=hid (HA.out.eq hlt)
          have hcm:=HNL.out m[k] (List.getElem_mem hlt)
          generalize m[k]=c at *
          have c2:(0:Int)≤(c:Int):=by omega
          have c3:(c:Int)≤1114111:=by omega
          rcases Nat.lt_trichotomy c s with h | h | h
          ·have HX1:=hid (HLT.out h)
           have g1:(c:Int) < (s:Int):=by omega
           have g2:((c:Int)==(s:Int))=false:=bN (by omega)
           have g3:((c:Int) != (s:Int))=true:=by rw [bne_iff_ne];omega
           clear h hcm hlt hk hst hbi hdn HLT HGT HEQ
           go_wp2_with fail
           go_roundw
           case rel=>exact ⟨zs,k+1,delta'+1,bias',done',by go_num,rfl,rfl,by go_num,HOz.out,HBz.out,HX1.out⟩
           case measure=>have:=HK.out;simp [intOf];omega
          ·have HX1:=hid (HEQ.out h)
           have HN0:=hid (NumAt.start zs bias' delta' (by omega) HZL.out)
           have gk:decide (k < l.length)=true:=decide_eq_true HK.out
           generalize zs++(num bias' delta').map letter=F5 at *
           subst h
           have HBi:=hid hbi
           have HAd:=hid (fun fl w'=>radapt_calls delta' (done'+1) fl w' (by omega) (by omega) (by omega))
           rw [Int.natCast_add] at HAd
           clear hcm hlt hk hst hbi hdn HLT HGT HEQ
           go_wp2_with fail
           go_loopw [4,14,15] (fun vo vq vk w5=>∃(us:List UInt8) (q kk f5:Nat),vq=.int .i64 (q:Int)∧vk=.int .i64 (kk:Int)∧BOwn w5 w.heap.size vo us∧Below w.heap.size w w5∧NumAt F5 bias' us q kk f5) (fun _ vq _ _=>(intOf vq).toNat)
           case atStart=>exact ⟨zs,delta',36,64,rfl,rfl,HOz.out,HBz.out,HN0.out⟩
           case round =>
            obtain ⟨us,q,kk,f5,rfl,rfl,ho5,hb5,hN5⟩:=hrel
            have HO5:=hid ho5
            have HB5:=hid hb5
            have HSz5:Hid (w.heap.size≤wr.heap.size):=hb5.size
            have hq5:=hN5.2.2.1
            have hk5:=hN5.2.2.2.1
            have hl5:=hN5.2.2.2.2
            have HT:=hid (fun w'=>rthr_calls kk bias' w' (by omega) (by have:=HBi.out;omega))
            have t1:=thr_ge kk bias'
            have t2:=thr_le kk bias'
            have q0:(0:Int)≤(q:Int):=by omega
            have q1:(q:Int)≤3000000000:=by omega
            have kk0:(0:Int)≤(kk:Int):=by omega
            have kk1:(kk:Int)≤2340:=by omega
            clear ho5 hb5 HN0 hck
            by_cases hlt:q < thr kk bias'
            ·have HE:=hid (hN5.last hlt)
             have HL:=hid (fun w'=>rletter_calls q w' (by omega))
             generalize letter q=y at *
             obtain ⟨v',w',hr,ho',hg⟩:=append_run (HO5.out.alloc (.cells #[.int .u8 (y.toNat:Int)] 5)) (Row.lit fb wr [y] 5 (0,0) (by simp)) (by simp;omega) (by have:=HSz5.out;simp;omega)
             have HO6:=hid ho'
             have HB6:=hid ((HB5.out.alloc HSz5.out (.cells #[.int .u8 (y.toNat:Int)] 5)).grown hg (by have:=HSz5.out;simp;omega) (Own.lt HO5.out))
             have gq:(q:Int) < ((thr kk bias':Nat):Int):=by omega
             have gq2:¬((thr kk bias':Nat):Int)≤(q:Int):=by omega
             generalize thr kk bias'=t at *
             clear ho' hg hlt hN5 hq5 hk5 hl5 t1 t2 HOz HBz HO5 HB5
             by_cases hpd:done'=P
             ·subst hpd
              rw [decide_eq_true rfl] at HX1
              go_wp2_with fail
              refine (HT.out _).mono ?_
              rintro e w1 ⟨rfl,rfl⟩
              go_wp2_with fail
              refine (HL.out _).mono ?_
              rintro e w1 ⟨rfl,rfl⟩
              go_wp2_with (at_builtin;go_must (refine wpList_append_run hr rfl _ _ rfl rfl rfl rfl ?_))
              refine (HAd.out true _).mono ?_
              rintro e w1 ⟨rfl,rfl⟩
              go_wp2_with fail
              go_roundw
              case rel=>exact ⟨F5,k+1,0,_,done'+1,rfl,rfl,by go_num,by go_num,by rw [HE.out];exact HO6.out,HB6.out,HX1.out⟩
              case measure=>have:=HK.out;simp [intOf];omega
             ·have qd:((done':Int)==(P:Int))=false:=bN (by omega)
              rw [decide_eq_false hpd] at HX1
              clear hpd
              go_wp2_with fail
              refine (HT.out _).mono ?_
              rintro e w1 ⟨rfl,rfl⟩
              go_wp2_with fail
              refine (HL.out _).mono ?_
              rintro e w1 ⟨rfl,rfl⟩
              go_wp2_with (at_builtin;go_must (refine wpList_append_run hr rfl _ _ rfl rfl rfl rfl ?_))
              refine (HAd.out false _).mono ?_
              rintro e w1 ⟨rfl,rfl⟩
              go_wp2_with fail
              go_roundw
              case rel=>exact ⟨F5,k+1,0,_,done'+1,rfl,rfl,by go_num,by go_num,by rw [HE.out];exact HO6.out,HB6.out,HX1.out⟩
              case measure=>have:=HK.out;simp [intOf];omega
            ·obtain ⟨g5,hN6,hlt6⟩:=hN5.next hlt
             have hmod:=Nat.mod_lt (q-thr kk bias') (y:=36-thr kk bias') (by omega)
             have gq2:((thr kk bias':Nat):Int)≤(q:Int):=by omega
             generalize thr kk bias'=t at *
             obtain ⟨r,hrm⟩:∃r,r=(q-t)%(36-t):=⟨_,rfl⟩
             obtain ⟨z,hz⟩:∃z,z=(q-t)/(36-t):=⟨_,rfl⟩
             have e5:((q:Int)-(t:Int))%(36-(t:Int))=(r:Int):=by rw [hrm,Int.natCast_emod];congr 1<;>omega
             have e6:((q:Int)-(t:Int))/(36-(t:Int))=(z:Int):=by rw [hz,Int.natCast_ediv];congr 1<;>omega
             rw [← hrm] at hmod hN6
             rw [← hz] at hN6 hlt6
             have HL:Hid (∀w',Calls Tryz.prog 129 #[.int .i64 ((t:Int)+(r:Int))] w' fun e w2=>e=.returned (.int .u8 ((letter (t+r)).toNat:Int))∧w2=w'):=fun w'=>by
              have:=rletter_calls (t+r) w' (by omega)
              rwa [Int.natCast_add] at this
             generalize letter (t+r)=y at *
             obtain ⟨v',w',hr,ho',hg⟩:=append_run (HO5.out.alloc (.cells #[.int .u8 (y.toNat:Int)] 5)) (Row.lit fb wr [y] 5 (0,0) (by simp)) (by simp;omega) (by have:=HSz5.out;simp;omega)
             have HO6:=hid ho'
             have HB6:=hid ((HB5.out.alloc HSz5.out (.cells #[.int .u8 (y.toNat:Int)] 5)).grown hg (by have:=HSz5.out;simp;omega) (Own.lt HO5.out))
             have HN6:=hid hN6
             have HZ6:=hid hlt6
             have t3:(1:Int)≤(t:Int):=by omega
             have t4:(t:Int)≤26:=by omega
             have r0':(0:Int)≤(r:Int):=by omega
             have r1':(r:Int) < 36:=by omega
             clear ho' hg hlt hN5 hN6 hlt6 hq5 hk5 hl5 t1 t2 hrm hz hmod HOz HBz HO5 HB5
             go_wp2_with fail
             refine (HT.out _).mono ?_
             rintro e w1 ⟨rfl,rfl⟩
             go_wp2_with fail
             refine (HT.out _).mono ?_
             rintro e w1 ⟨rfl,rfl⟩
             go_wp2_with fail
             refine (HL.out _).mono ?_
             rintro e w1 ⟨rfl,rfl⟩
             go_wp2_with (at_builtin;go_must (refine wpList_append_run hr rfl _ _ rfl rfl rfl rfl ?_))
             go_roundw
             case rel=>exact ⟨us++[y],z,kk+36,g5,by rw [e6],by go_num,HO6.out,HB6.out,HN6.out⟩
             case measure=>have:=HZ6.out;simp [intOf,e6];omega
          ·have HX1:=hid (HGT.out h)
           have g1:¬(c:Int) < (s:Int):=by omega
           have g2:((c:Int)==(s:Int))=false:=bN (by omega)
           have g3:((c:Int) != (s:Int))=true:=by rw [bne_iff_ne];omega
           clear h hcm hlt hk hst hbi hdn HLT HGT HEQ
           go_wp2_with fail
           go_roundw
           case rel=>exact ⟨zs,k+1,delta',bias',done',rfl,rfl,rfl,by go_num,HOz.out,HBz.out,HX1.out⟩
           case measure=>have:=HK.out;simp [intOf];omega
         ·have hkl:k=m.length:=by omega
          subst hkl
          obtain ⟨_,hdd,f',hE'⟩:=HQ7.out zs delta' bias' done' HA.out
          have HE':=hid hE'
          have HDD:=hid hdd
          have hd2:done'≤m.length:=by rw [hE'.done];exact List.countP_le_length
          have HD2:=hid hd2
          have k2:¬(m.length:Int) < (l.length:Int):=by omega
          clear hE' hdd hd2 hlt hk hst hbi hdn
          go_wp2_with fail
          go_roundw
          case rel=>exact ⟨zs,delta'+1,bias',s+1,done',f',by go_num,rfl,by go_num,rfl,HOz.out,HBz.out,HE'.out⟩
          case measure=>have:=HDD.out;have:=HD2.out;simp [intOf];omega
     ·have HFy:Hid (F=ys):=by
       show _=_
       have:=HEy.out.out
       rwa [encD_stop _ _ _ _ _ _ _ (by omega),List.map_nil,List.append_nil] at this
      have g2:¬(done:Int) < (l.length:Int):=by omega
      have hs:=run_string HOy.out.row
      rw [← HFy.out] at hs
      clear hlt hdle
      go_wp2_with fail
      go_ret2
      exact ⟨by rw [HX.out];rfl,HBy.out⟩
set_option maxRecDepth 50000 in
theorem puny_b (v:Value) (l:List Int) (w:World) (hv:IRow w v l) (hzz:¬(low (nats l)).length=0) :
 Calls Tryz.prog 88 #[v] w fun e w'=>e=.returned (.tuple #[.string (encR l).1,.int .i64 (encR l).2])∧Below w.heap.size w w':=by
 have HV:=hid hv
 have HZZ:=hid hzz
 clear hzz
 obtain ⟨a,cap,rfl,h1,h2,h3⟩:=hv
 unfold maxLen at h2
 have l0:(l.length:Int)≤(cap:Int):=by omega
 have cp:(cap:Int)≤9223372036854775807:=by omega
 clear h3
 by_cases hlong:256 < l.length
 ·rw [encR_long hlong]
  have g:(256:Int) < (l.length:Int):=by omega
  clear hlong h1 h2
  go_enter Tryz.func88,Tryz.ntmps88
  go_wp2_with fail
  go_ret2
  exact ⟨rfl,Below.refl _ _⟩
 ·have HLG:=hid hlong
  obtain ⟨R,hR⟩:∃R,R=encR l:=⟨_,rfl⟩
  rw [← hR]
  have HR:=hid hR
  have g:decide ((256:Int) < (l.length:Int))=false:=decide_eq_false (by omega)
  have l1:(l.length:Int)≤256:=by omega
  clear hlong h1 h2 hR
  go_enter Tryz.func88,Tryz.ntmps88
  go_wp2_with fail
  go_loopw [4,5] (fun vo vi wr=>∃k:Nat,k≤l.length∧vi=.int .i64 (k:Int)∧BOwn wr w.heap.size vo (low (nats (l.take k)))∧Below w.heap.size w wr∧(l.take k).all isS=true) (fun _ vi _=>l.length-(intOf vi).toNat)
  case atStart=>exact ⟨0,Nat.zero_le _,rfl,Own.nil _ _ _ _,Below.refl _ _,rfl⟩
  case round =>
   obtain ⟨k,hk,rfl,ho,hb,hall⟩:=hrel
   have HO:=hid ho
   have HB:=hid hb
   have HA:=hid hall
   have HSz:Hid (w.heap.size≤wr.heap.size):=hb.size
   have k0:(0:Int)≤(k:Int):=by omega
   have HLL:Hid ((low (nats (l.take k))).length≤256):=by
    show _≤_
    have h1:=low_le (nats (l.take k))
    have h2:=nats_take_len l k
    have:=HLG.out
    omega
   clear ho hb hall
   by_cases hlt:k < l.length
   ·obtain ⟨b,off,rfl,hck⟩:=HV.out.open HB.out k hlt
    have k1:(k:Int) < (l.length:Int):=by omega
    have HK:=hid hlt
    have HSn:=hid (low_snoc l k hlt)
    have HAs:=hid (all_snoc l k hlt)
    have HAn:=hid (all_not l k hlt)
    generalize l[k]=c at *
    have HSc:=hid (fun w'=>rscalar_calls c w')
    by_cases hs:isS c=true
    ·have hc1:=isS_iff.1 hs
     obtain ⟨n,rfl⟩:∃n:Nat,c=(n:Int):=⟨c.toNat,by omega⟩
     rw [Int.toNat_natCast] at HSn
     have HN:Hid ((l.take (k+1)).all isS=true):=by show _=_;rw [HAs.out,HA.out,hs];rfl
     have n0:(0:Int)≤(n:Int):=by omega
     have n1:(n:Int)≤1114111:=by omega
     rw [hs] at HSc
     by_cases hn:n < 128
     ·rw [if_pos hn] at HSn
      have e0:=b8_nat n (by omega)
      generalize b8 n=x at *
      obtain ⟨v',w',hr,ho',hg⟩:=append_run (HO.out.alloc (.cells #[.int .u8 (x.toNat:Int)] 5)) (Row.lit fb wr [x] 5 (0,0) (by simp)) (by have:=HLL.out;simp;omega) (by have:=HSz.out;simp;omega)
      have HO2:=hid ho'
      have HB2:=hid ((HB.out.alloc HSz.out (.cells #[.int .u8 (x.toNat:Int)] 5)).grown hg (by have:=HSz.out;simp;omega) (Own.lt HO.out))
      rw [e0] at hr
      have g1:(n:Int) < 128:=by omega
      clear ho' hg e0 hn hs hc1 HAs HAn hlt hk
      go_wp2_with fail
      refine (HSc.out _).mono ?_
      rintro e w1 ⟨rfl,rfl⟩
      go_wp2_with (at_builtin;go_must (refine wpList_append_run hr rfl _ _ rfl rfl rfl rfl ?_))
      go_roundw
      case rel=>exact ⟨k+1,HK.out,by go_num,by rw [HSn.out];exact HO2.out,HB2.out,HN.out⟩
      case measure=>have:=HK.out;simp [intOf];omega
     ·rw [if_neg hn,List.append_nil] at HSn
      have g1:¬(n:Int) < 128:=by omega
      clear hn hs hc1 HAs HAn hlt hk
      go_wp2_with fail
      refine (HSc.out _).mono ?_
      rintro e w1 ⟨rfl,rfl⟩
      go_wp2_with fail
      go_roundw
      case rel=>exact ⟨k+1,HK.out,by go_num,by rw [HSn.out];exact HO.out,HB.out,HN.out⟩
      case measure=>have:=HK.out;simp [intOf];omega
    ·have hs':isS c=false:=by simpa using hs
     have HX:Hid (R=(strOf [],1)):=by show _=_;rw [HR.out,encR_bad HLG.out (HAn.out hs')]
     rw [hs'] at HSc
     clear hs hs' HAs HAn hlt hk HSn
     go_wp2_with fail
     refine (HSc.out _).mono ?_
     rintro e w1 ⟨rfl,rfl⟩
     go_wp2_with fail
     go_ret2
     exact ⟨by rw [HX.out];rfl,HB.out⟩
   ·have hkl:k=l.length:=by omega
    subst hkl
    rw [List.take_length] at HO HA HLL
    have HX:Hid (R=(strOf (enc (nats l)),0)):=by show _=_;rw [HR.out,encR_ok HLG.out HA.out]
    have HNR:=hid (nats_row HA.out HV.out)
    have HNL:Hid (∀c∈nats l,c≤1114111):=fun c hc=>(nats_le HA.out c hc).2
    have hnl:(nats l).length=l.length:=by simp [nats]
    have HPc:=hid (low_len (nats l))
    rcases HO.out.row with ⟨a',cap',hE0,hE1,hE2,hE3⟩
    subst hE0
    unfold maxLen at hE2
    have r0:((low (nats l)).length:Int)≤(cap':Int):=by omega
    have r1:(cap':Int)≤9223372036854775807:=by omega
    have r2:((low (nats l)).length:Int)≤256:=by have:=HLL.out;omega
    have HENC:Hid (enc (nats l)=low (nats l)++(if (low (nats l)).length=0 then [] else [45])++(encD (nats l) (low (nats l)).length (nats l).length 0 72 128 (low (nats l)).length).map letter):=by show _=_;unfold enc;rw [low_len]
    have k2:¬(l.length:Int) < (l.length:Int):=by omega
    generalize low (nats l)=L at *
    generalize hm:nats l=m at *
    have ml:(l.length:Int)=(m.length:Int):=by omega
    clear hE1 hE2 hE3 hk hlt HA
    obtain ⟨F,hF⟩:∃F,F=enc m:=⟨_,rfl⟩
    rw [← hF] at HENC HX
    clear hF
    generalize hP:L.length=P at *
    have hz:=HZZ.out
    clear HZZ
    have HS0:Hid (EncAt m P F (L++[45]) 0 72 128 P m.length):=⟨by rw [HENC.out,if_neg hz],HPc.out,by omega,by omega,by omega,by omega,by simp;omega⟩
    obtain ⟨v',w',hr,ho',hg⟩:=append_run (HO.out.alloc (.cells #[.int .u8 45] 5)) (Row.lit fb wr [45] 5 (0,0) (by simp)) (by have:=HLL.out;simp;omega) (by have:=HSz.out;simp;omega)
    have HO2:=hid ho'
    have HB2:=hid ((HB.out.alloc HSz.out (.cells #[.int .u8 45] 5)).grown hg (by have:=HSz.out;simp;omega) (Own.lt HO.out))
    have g3:(0:Int) < (P:Int):=by omega
    clear hz HENC ho' hg HO HB
    go_wp2_with (at_builtin;go_must (refine wpList_append_run hr rfl _ _ rfl rfl rfl rfl ?_))
    clear hr
    go_loopw [4,6,8,9,10] (fun vo vc vn vd vb wr=>∃(ys:List UInt8) (delta bias n done f:Nat),vd=.int .i64 (delta:Int)∧vb=.int .i64 (bias:Int)∧vn=.int .i64 (n:Int)∧vc=.int .i64 (done:Int)∧BOwn wr w.heap.size vo ys∧Below w.heap.size w wr∧EncAt m P F ys delta bias n done f) (fun _ vc _ _ _ _=>l.length-(intOf vc).toNat)
    case atStart=>exact ⟨_,0,72,128,P,m.length,rfl,rfl,rfl,rfl,HO2.out,HB2.out,HS0.out⟩
    case round =>
     obtain ⟨ys,delta,bias,n,done,f,rfl,rfl,rfl,rfl,ho,hb,hE⟩:=hrel
     clear HS0 HO2 HB2
     have hdle:done≤m.length:=by rw [hE.done];exact List.countP_le_length
     have hst:=hE.steps
     have htop:=hE.top
     have hbi:=hE.bias
     have d0:(0:Int)≤(delta:Int):=by omega
     have d1:(delta:Int)≤400000000:=by omega
     have n0:(0:Int)≤(n:Int):=by omega
     have n1:(n:Int)≤1114112:=by omega
     have c0:(0:Int)≤(done:Int):=by omega
     have c1:(done:Int)≤256:=by have:=HLG.out;omega
     have i0:(0:Int)≤(bias:Int):=by omega
     have i1:(bias:Int)≤2340:=by omega
     have HOy:=hid ho
     have HBy:=hid hb
     have HEy:=hid hE
     have HML:Hid (m.length≤256):=by show _≤_;have:=HLG.out;omega
     clear ho hb hE hst htop hbi
     by_cases hlt:done < m.length
     ·have hcd:=HEy.out.done
      have HLR:Hid (least m n=lstF 1114112 n m):=(least_ref HNL.out (by rw [← hcd];exact hlt)).symm
      obtain ⟨G,X,q1,q2,q3,q4,q5,q6,q7⟩:=HEy.out.scan HNL.out hlt HML.out
      generalize least m n=s at *
      obtain ⟨p,hpd⟩:∃p,p=(s-n) * (done+1):=⟨_,rfl⟩
      rw [← hpd] at q5 q6 q7
      have e1:((s:Int)-(n:Int)) * ((done:Int)+1)=(p:Int):=by
       rw [hpd,Int.natCast_mul,Int.natCast_add,Int.natCast_sub q2];rfl
      have s0:(0:Int)≤(s:Int):=by omega
      have s1:(s:Int)≤1114111:=by omega
      have sn:(n:Int)≤(s:Int):=by omega
      have pp0:(0:Int)≤(p:Int):=by omega
      have pp1:(delta:Int)+(p:Int)≤400000000:=by omega
      have gd:(done:Int) < (l.length:Int):=by omega
      have HQ4:=hid q4
      have HQ5:=hid q5
      have HQ6:=hid q6
      have HQ7:=hid q7
      have HD:=hid hlt
      have HS1:=hid q3
      clear q1 q2 q3 q4 q5 q6 q7 hlt hpd hdle hcd
      go_wp2_with fail
      go_loop [11,12] (fun vx vi=>∃k x:Nat,k≤m.length∧vx=.int .i64 (x:Int)∧vi=.int .i64 (k:Int)∧x≤1114112∧s=lstF x n (m.drop k)) (fun _ vi=>l.length-(intOf vi).toNat)
      case atStart=>exact ⟨0,1114112,Nat.zero_le _,rfl,rfl,Nat.le_refl _,by rw [List.drop_zero];exact HLR.out⟩
      case round =>
       obtain ⟨k,x,hk,rfl,rfl,hx,hr⟩:=hrel
       clear HLR
       have x0:(0:Int)≤(x:Int):=by omega
       have x1:(x:Int)≤1114112:=by omega
       by_cases hlt:k < m.length
       ·obtain ⟨b,off,rfl,hck⟩:=HNR.out.open HBy.out k hlt
        have hc:=HNL.out m[k] (List.getElem_mem hlt)
        rw [drop_atPu hlt,lstF_cons] at hr
        have HK:Hid (k < l.length):=by show _ < _;omega
        have HK2:=hid hlt
        have k0:(0:Int)≤(k:Int):=by omega
        have k1:(k:Int) < (l.length:Int):=by omega
        generalize m[k]=c at *
        have cc0:(0:Int)≤(c:Int):=by omega
        have cc1:(c:Int)≤1114111:=by omega
        have HRr:=hid hr
        have HXx:=hid hx
        clear hr hx hk hlt
        by_cases hnc:n≤c
        ·have g1:(n:Int)≤(c:Int):=by omega
         by_cases hxc:x≤c
         ·have g2:¬(c:Int) < (x:Int):=by omega
          have HQ:Hid (s=lstF x n (m.drop (k+1))):=by show _=_;rw [HRr.out,if_pos hnc,Nat.min_eq_left hxc]
          clear hnc hxc HRr hc
          go_wp2_with fail
          go_round
          case rel=>exact ⟨k+1,x,HK2.out,rfl,by go_num,HXx.out,HQ.out⟩
          case measure=>have:=HK.out;simp [intOf];omega
         ·have g2:(c:Int) < (x:Int):=by omega
          have HQ:Hid (s=lstF c n (m.drop (k+1))):=by show _=_;rw [HRr.out,if_pos hnc,Nat.min_eq_right (by omega)]
          have HC:Hid (c≤1114112):=by show _≤_;omega
          clear hnc hxc HRr hc
          go_wp2_with fail
          go_round
          case rel=>exact ⟨k+1,c,HK2.out,rfl,by go_num,HC.out,HQ.out⟩
          case measure=>have:=HK.out;simp [intOf];omega
        ·have g1:¬(n:Int)≤(c:Int):=by omega
         have HQ:Hid (s=lstF x n (m.drop (k+1))):=by show _=_;rw [HRr.out,if_neg hnc]
         clear hnc HRr hc
         go_wp2_with fail
         go_round
         case rel=>exact ⟨k+1,x,HK2.out,rfl,by go_num,HXx.out,HQ.out⟩
         case measure=>have:=HK.out;simp [intOf];omega
       ·have hsx:s=x:=by
         rw [hr,List.drop_eq_nil_of_le (by omega)];rfl
        subst hsx
        have g1:¬(k:Int) < (l.length:Int):=by omega
        clear hr hx hk hlt x0 x1
        go_wp2_with fail
        go_loopw [4,6,9,10,13] (fun vo vc vd vb vi wr=>∃(zs:List UInt8) (k delta' bias' done':Nat),vd=.int .i64 (delta':Int)∧vb=.int .i64 (bias':Int)∧vc=.int .i64 (done':Int)∧vi=.int .i64 (k:Int)∧BOwn wr w.heap.size vo zs∧Below w.heap.size w wr∧ScanAt m P s G X (delta+p) done zs k delta' bias' done') (fun _ _ _ _ vi _=>l.length-(intOf vi).toNat)
        case atStart=>exact ⟨ys,0,delta+p,bias,done,by go_num,rfl,rfl,rfl,HOy.out,HBy.out,HQ6.out⟩
        case round =>
         obtain ⟨zs,k,delta',bias',done',rfl,rfl,rfl,rfl,ho,hb,hA⟩:=hrel
         have HOz:=hid ho
         have HBz:=hid hb
         have HA:=hid hA
         have hk:=hA.k
         have hst:=hA.steps
         have hbi:=hA.bias
         have hdn:done'≤256:=by
          have:=hA.done
          have h1:=take_countP_le m k s
          have:=HQ4.out
          have:=HML.out
          omega
         have hln:=hA.len
         have HZL:Hid (zs.length≤500000):=by show _≤_;omega
         have HSz:Hid (w.heap.size≤wr.heap.size):=hb.size
         clear ho hb hA HQ6 HOy HBy HEy d0 d1 c0 c1 i0 i1 pp0 hln
         have d0:(0:Int)≤(delta':Int):=by omega
         have d1:(delta':Int)≤400000256:=by have:=HML.out;omega
         have c0:(0:Int)≤(done':Int):=by omega
         have c1:(done':Int)≤256:=by omega
         have i0:(0:Int)≤(bias':Int):=by omega
         have i1:(bias':Int)≤2340:=by omega
         have k0:(0:Int)≤(k:Int):=by omega
         by_cases hlt:k < m.length
         ·obtain ⟨b,off,rfl,hck⟩:=HNR.out.open HBz.out k hlt
          have k1:(k:Int) < (l.length:Int):=by omega
          have HK:Hid (k < l.length):=by show _ < _;omega
          have HLT:=hid (HA.out.lt hlt)
          have HGT:=hid (HA.out.gt hlt)
          have HEQ:=hid (HA.out.eq hlt)
          have hcm:=HNL.out m[k] (List.getElem_mem hlt)
          generalize m[k]=c at *
          have c2:(0:Int)≤(c:Int):=by omega
          have c3:(c:Int)≤1114111:=by omega
          rcases Nat.lt_trichotomy c s with h | h | h
          ·have HX1:=hid (HLT.out h)
           have g1:(c:Int) < (s:Int):=by omega
           have g2:((c:Int)==(s:Int))=false:=bN (by omega)
           have g3:((c:Int) != (s:Int))=true:=by rw [bne_iff_ne];omega
           clear h hcm hlt hk hst hbi hdn HLT HGT HEQ
           go_wp2_with fail
           go_roundw
           case rel=>exact ⟨zs,k+1,delta'+1,bias',done',by go_num,rfl,rfl,by go_num,HOz.out,HBz.out,HX1.out⟩
           case measure=>have:=HK.out;simp [intOf];omega
          ·have HX1:=hid (HEQ.out h)
           have HN0:=hid (NumAt.start zs bias' delta' (by omega) HZL.out)
           have gk:decide (k < l.length)=true:=decide_eq_true HK.out
           generalize zs++(num bias' delta').map letter=F5 at *
           subst h
           have HBi:=hid hbi
           have HAd:=hid (fun fl w'=>radapt_calls delta' (done'+1) fl w' (by omega) (by omega) (by omega))
           rw [Int.natCast_add] at HAd
           clear hcm hlt hk hst hbi hdn HLT HGT HEQ
           go_wp2_with fail
           go_loopw [4,14,15] (fun vo vq vk w5=>∃(us:List UInt8) (q kk f5:Nat),vq=.int .i64 (q:Int)∧vk=.int .i64 (kk:Int)∧BOwn w5 w.heap.size vo us∧Below w.heap.size w w5∧NumAt F5 bias' us q kk f5) (fun _ vq _ _=>(intOf vq).toNat)
           case atStart=>exact ⟨zs,delta',36,64,rfl,rfl,HOz.out,HBz.out,HN0.out⟩
           case round =>
            obtain ⟨us,q,kk,f5,rfl,rfl,ho5,hb5,hN5⟩:=hrel
            have HO5:=hid ho5
            have HB5:=hid hb5
            have HSz5:Hid (w.heap.size≤wr.heap.size):=hb5.size
            have hq5:=hN5.2.2.1
            have hk5:=hN5.2.2.2.1
            have hl5:=hN5.2.2.2.2
            have HT:=hid (fun w'=>rthr_calls kk bias' w' (by omega) (by have:=HBi.out;omega))
            have t1:=thr_ge kk bias'
            have t2:=thr_le kk bias'
            have q0:(0:Int)≤(q:Int):=by omega
            have q1:(q:Int)≤3000000000:=by omega
            have kk0:(0:Int)≤(kk:Int):=by omega
            have kk1:(kk:Int)≤2340:=by omega
            clear ho5 hb5 HN0 hck
            by_cases hlt:q < thr kk bias'
            ·have HE:=hid (hN5.last hlt)
             have HL:=hid (fun w'=>rletter_calls q w' (by omega))
             generalize letter q=y at *
             obtain ⟨v',w',hr,ho',hg⟩:=append_run (HO5.out.alloc (.cells #[.int .u8 (y.toNat:Int)] 5)) (Row.lit fb wr [y] 5 (0,0) (by simp)) (by simp;omega) (by have:=HSz5.out;simp;omega)
             have HO6:=hid ho'
             have HB6:=hid ((HB5.out.alloc HSz5.out (.cells #[.int .u8 (y.toNat:Int)] 5)).grown hg (by have:=HSz5.out;simp;omega) (Own.lt HO5.out))
             have gq:(q:Int) < ((thr kk bias':Nat):Int):=by omega
             have gq2:¬((thr kk bias':Nat):Int)≤(q:Int):=by omega
             generalize thr kk bias'=t at *
             clear ho' hg hlt hN5 hq5 hk5 hl5 t1 t2 HOz HBz HO5 HB5
             by_cases hpd:done'=P
             ·subst hpd
              rw [decide_eq_true rfl] at HX1
              go_wp2_with fail
              refine (HT.out _).mono ?_
              rintro e w1 ⟨rfl,rfl⟩
              go_wp2_with fail
              refine (HL.out _).mono ?_
              rintro e w1 ⟨rfl,rfl⟩
              go_wp2_with (at_builtin;go_must (refine wpList_append_run hr rfl _ _ rfl rfl rfl rfl ?_))
              refine (HAd.out true _).mono ?_
              rintro e w1 ⟨rfl,rfl⟩
              go_wp2_with fail
              go_roundw
              case rel=>exact ⟨F5,k+1,0,_,done'+1,rfl,rfl,by go_num,by go_num,by rw [HE.out];exact HO6.out,HB6.out,HX1.out⟩
              case measure=>have:=HK.out;simp [intOf];omega
             ·have qd:((done':Int)==(P:Int))=false:=bN (by omega)
              rw [decide_eq_false hpd] at HX1
              clear hpd
              go_wp2_with fail
              refine (HT.out _).mono ?_
              rintro e w1 ⟨rfl,rfl⟩
              go_wp2_with fail
              refine (HL.out _).mono ?_
              rintro e w1 ⟨rfl,rfl⟩
              go_wp2_with (at_builtin;go_must (refine wpList_append_run hr rfl _ _ rfl rfl rfl rfl ?_))
              refine (HAd.out false _).mono ?_
              rintro e w1 ⟨rfl,rfl⟩
              go_wp2_with fail
              go_roundw
              case rel=>exact ⟨F5,k+1,0,_,done'+1,rfl,rfl,by go_num,by go_num,by rw [HE.out];exact HO6.out,HB6.out,HX1.out⟩
              case measure=>have:=HK.out;simp [intOf];omega
            ·obtain ⟨g5,hN6,hlt6⟩:=hN5.next hlt
             have hmod:=Nat.mod_lt (q-thr kk bias') (y:=36-thr kk bias') (by omega)
             have gq2:((thr kk bias':Nat):Int)≤(q:Int):=by omega
             generalize thr kk bias'=t at *
             obtain ⟨r,hrm⟩:∃r,r=(q-t)%(36-t):=⟨_,rfl⟩
             obtain ⟨z,hz⟩:∃z,z=(q-t)/(36-t):=⟨_,rfl⟩
             have e5:((q:Int)-(t:Int))%(36-(t:Int))=(r:Int):=by rw [hrm,Int.natCast_emod];congr 1<;>omega
             have e6:((q:Int)-(t:Int))/(36-(t:Int))=(z:Int):=by rw [hz,Int.natCast_ediv];congr 1<;>omega
             rw [← hrm] at hmod hN6
             rw [← hz] at hN6 hlt6
             have HL:Hid (∀w',Calls Tryz.prog 129 #[.int .i64 ((t:Int)+(r:Int))] w' fun e w2=>e=.returned (.int .u8 ((letter (t+r)).toNat:Int))∧w2=w'):=fun w'=>by
              have:=rletter_calls (t+r) w' (by omega)
              rwa [Int.natCast_add] at this
             generalize letter (t+r)=y at *
             obtain ⟨v',w',hr,ho',hg⟩:=append_run (HO5.out.alloc (.cells #[.int .u8 (y.toNat:Int)] 5)) (Row.lit fb wr [y] 5 (0,0) (by simp)) (by simp;omega) (by have:=HSz5.out;simp;omega)
             have HO6:=hid ho'
             have HB6:=hid ((HB5.out.alloc HSz5.out (.cells #[.int .u8 (y.toNat:Int)] 5)).grown hg (by have:=HSz5.out;simp;omega) (Own.lt HO5.out))
             have HN6:=hid hN6
             have HZ6:=hid hlt6
             have t3:(1:Int)≤(t:Int):=by omega
             have t4:(t:Int)≤26:=by omega
             have r0':(0:Int)≤(r:Int):=by omega
             have r1':(r:Int) < 36:=by omega
             clear ho' hg hlt hN5 hN6 hlt6 hq5 hk5 hl5 t1 t2 hrm hz hmod HOz HBz HO5 HB5
             go_wp2_with fail
             refine (HT.out _).mono ?_
             rintro e w1 ⟨rfl,rfl⟩
             go_wp2_with fail
             refine (HT.out _).mono ?_
             rintro e w1 ⟨rfl,rfl⟩
             go_wp2_with fail
             refine (HL.out _).mono ?_
             rintro e w1 ⟨rfl,rfl⟩
             go_wp2_with (at_builtin;go_must (refine wpList_append_run hr rfl _ _ rfl rfl rfl rfl ?_))
             go_roundw
             case rel=>exact ⟨us++[y],z,kk+36,g5,by rw [e6],by go_num,HO6.out,HB6.out,HN6.out⟩
             case measure=>have:=HZ6.out;simp [intOf,e6];omega
          ·have HX1:=hid (HGT.out h)
           have g1:¬(c:Int) < (s:Int):=by omega
           have g2:((c:Int)==(s:Int))=false:=bN (by omega)
           have g3:((c:Int) != (s:Int))=true:=by rw [bne_iff_ne];omega
           clear h hcm hlt hk hst hbi hdn HLT HGT HEQ
           go_wp2_with fail
           go_roundw
           case rel=>exact ⟨zs,k+1,delta',bias',done',rfl,rfl,rfl,by go_num,HOz.out,HBz.out,HX1.out⟩
           case measure=>have:=HK.out;simp [intOf];omega
         ·have hkl:k=m.length:=by omega
          subst hkl
          obtain ⟨_,hdd,f',hE'⟩:=HQ7.out zs delta' bias' done' HA.out
          have HE':=hid hE'
          have HDD:=hid hdd
          have hd2:done'≤m.length:=by rw [hE'.done];exact List.countP_le_length
          have HD2:=hid hd2
          have k2:¬(m.length:Int) < (l.length:Int):=by omega
          clear hE' hdd hd2 hlt hk hst hbi hdn
          go_wp2_with fail
          go_roundw
          case rel=>exact ⟨zs,delta'+1,bias',s+1,done',f',by go_num,rfl,by go_num,rfl,HOz.out,HBz.out,HE'.out⟩
          case measure=>have:=HDD.out;have:=HD2.out;simp [intOf];omega
     ·have HFy:Hid (F=ys):=by
       show _=_
       have:=HEy.out.out
       rwa [encD_stop _ _ _ _ _ _ _ (by omega),List.map_nil,List.append_nil] at this
      have g2:¬(done:Int) < (l.length:Int):=by omega
      have hs:=run_string HOy.out.row
      rw [← HFy.out] at hs
      clear hlt hdle
      go_wp2_with fail
      go_ret2
      exact ⟨by rw [HX.out];rfl,HBy.out⟩
theorem puny_calls (v:Value) (l:List Int) (w:World) (hv:IRow w v l) :
 Calls Tryz.prog 88 #[v] w fun e w'=>e=.returned (.tuple #[.string (encR l).1,.int .i64 (encR l).2])∧Below w.heap.size w w':=by
 by_cases h:(low (nats l)).length=0
 ·exact puny_a v l w hv h
 ·exact puny_b v l w hv h
theorem hexV_lt {n d:Nat} (h:hexV n=some d):d < 16:=by
 unfold hexV at h
 split at h
 ·simp at h;omega
 ·split at h
  ·simp at h;omega
  ·split at h
   ·simp at h;omega
   ·cases h
theorem digit_yes (n d:Nat) (w:World) (hn:n < 256) (h:hexV n=some d):Calls Tryz.prog 111 #[.int .u8 (n:Int)] w fun e w'=>e=.returned (.tuple #[.int .u8 (d:Int),.bool true])∧w'=w:=by
 unfold hexV at h
 by_cases h1:48≤n∧n≤57
 ·rw [if_pos h1] at h
  obtain ⟨g1,g2⟩:=h1
  have hd:(n:Int)-48=(d:Int):=by simp at h;omega
  clear h
  go_enter Tryz.func111,Tryz.ntmps111
  go_wp2
  go_ret2
  exact ⟨rfl,rfl⟩
 ·rw [if_neg h1] at h
  by_cases h2:97≤n∧n≤102
  ·rw [if_pos h2] at h
   obtain ⟨g1,g2⟩:=h2
   have hd:(n:Int)-97+10=(d:Int):=by simp at h;omega
   have g3:¬(n:Int)≤57:=by omega
   have g4:¬(n:Int)≤70:=by omega
   clear h h1
   go_enter Tryz.func111,Tryz.ntmps111
   go_wp2
   go_ret2
   exact ⟨rfl,rfl⟩
  ·rw [if_neg h2] at h
   by_cases h3:65≤n∧n≤70
   ·rw [if_pos h3] at h
    obtain ⟨g1,g2⟩:=h3
    have hd:(n:Int)-65+10=(d:Int):=by simp at h;omega
    have g3:¬(n:Int)≤57:=by omega
    clear h h1 h2
    go_enter Tryz.func111,Tryz.ntmps111
    go_wp2
    go_ret2
    exact ⟨rfl,rfl⟩
   ·rw [if_neg h3] at h
    cases h
theorem digit_no (n:Nat) (w:World) (hn:n < 256) (h:hexV n=none):Calls Tryz.prog 111 #[.int .u8 (n:Int)] w fun e w'=>e=.returned (.tuple #[.int .u8 0,.bool false])∧w'=w:=by
 unfold hexV at h
 by_cases h1:48≤n∧n≤57
 ·rw [if_pos h1] at h;cases h
 ·rw [if_neg h1] at h
  by_cases h2:97≤n∧n≤102
  ·rw [if_pos h2] at h;cases h
  ·rw [if_neg h2] at h
   by_cases h3:65≤n∧n≤70
   ·rw [if_pos h3] at h;cases h
   ·clear h
    have hc:n < 48∨(57 < n∧n < 65)∨(70 < n∧n < 97)∨102 < n:=by omega
    clear h1 h2 h3
    rcases hc with g | ⟨g1,g2⟩ | ⟨g1,g2⟩ | g
    all_goals
     go_enter Tryz.func111,Tryz.ntmps111
     go_wp2
     go_ret2
     exact ⟨rfl,rfl⟩
def rdPc (n:Nat):Int:=match hexV n with
 | some d=>(d:Int)
 | none=>-1
theorem rdigit_calls (n:Nat) (hn:n < 256) (w:World):Calls Tryz.prog 55 #[.int .u8 (n:Int)] w fun e w'=>e=.returned (.int .i64 (rdPc n))∧w'=w:=by
 have HR:Hid (rdPc n=if 48≤n∧n≤57 then (n:Int)-48 else if 97≤n∧n≤102 then (n:Int)-87 else if 65≤n∧n≤70 then (n:Int)-55 else -1):=by
  show rdPc n=_
  unfold rdPc hexV
  by_cases h1:48≤n∧n≤57
  ·rw [if_pos h1,if_pos h1];simp only [];omega
  ·rw [if_neg h1,if_neg h1]
   by_cases h2:97≤n∧n≤102
   ·rw [if_pos h2,if_pos h2];simp only [];omega
   ·rw [if_neg h2,if_neg h2]
    by_cases h3:65≤n∧n≤70
    ·rw [if_pos h3,if_pos h3];simp only [];omega
    ·rw [if_neg h3,if_neg h3]
 have hc:n < 48∨(48≤n∧n≤57)∨(57 < n∧n < 65)∨(57 < n∧65≤n∧n≤70)∨(70 < n∧n < 97)∨(57 < n∧97≤n∧n≤102)∨102 < n:=by omega
 rcases hc with g | ⟨g1,g2⟩ | ⟨g1,g2⟩ | ⟨g1,g2,g3⟩ | ⟨g1,g2⟩ | ⟨g1,g2,g3⟩ | g
 all_goals
  go_enter Tryz.func55,Tryz.ntmps55
  go_wp2
  go_ret
  refine ⟨?_,rfl⟩
  rw [HR.out]
  repeat (first | rw [if_pos (by omega)] | rw [if_neg (by omega)])
  first | rfl | exact ret_int (by omega)
theorem u8pack (h l:Nat) (hh:h < 16) (hl:l < 16):bits .or .u8 ((h:Int) * 16) (l:Int)=((UInt8.ofNat (h * 16+l)).toNat:Int):=by
 have e:(UInt8.ofNat (h * 16+l)).toNat=h * 16+l:=by simp;omega
 have:=Nat.two_pow_add_eq_or_of_lt (i:=4) (show l < 2^4 by omega) h
 rw [e,show h * 16+l=h * 16 ||| l by rw [Nat.mul_comm h 16];exact this]
 exact u8_or_nat (h * 16) l (by omega) (by omega)
theorem i64pack (h l:Nat) (hh:h < 16) (hl:l < 16):bits .or .i64 ((h:Int) * 16) (l:Int)=((UInt8.ofNat (h * 16+l)).toNat:Int):=by
 have e:(UInt8.ofNat (h * 16+l)).toNat=h * 16+l:=by simp;omega
 have:=Nat.two_pow_add_eq_or_of_lt (i:=4) (show l < 2^4 by omega) h
 rw [e,show h * 16+l=h * 16 ||| l by rw [Nat.mul_comm h 16];exact this]
 exact (bits_nat .i64 63 (by decide) (fun n h0 h1=>by rw [IntKind.wrap_i64];omega) (h * 16) l (by omega) (by omega)).2
def nextR:List UInt8→UInt8×Nat
 | []=>(0,0)
 | c::r=>if c=37 then (match r with
    | a::b::_=>(match two a b with
      | some x=>(x,3)
      | none=>(c,1))
    | _=>(c,1)) else (c,1)
theorem nextR_plain {c:UInt8} {r:List UInt8} (h:c≠37):nextR (c::r)=(c,1):=if_neg h
theorem nextR_some {a b:UInt8} {r:List UInt8} {x:UInt8} (h:two a b=some x):nextR (37::a::b::r)=(x,3):=by
 show (if (37:UInt8)=37 then (match two a b with
  | some x=>(x,3)
  | none=>((37:UInt8),1)) else (37,1))=_
 rw [if_pos rfl,h]
theorem nextR_none {a b:UInt8} {r:List UInt8} (h:two a b=none):nextR (37::a::b::r)=(37,1):=by
 show (if (37:UInt8)=37 then (match two a b with
  | some x=>(x,3)
  | none=>((37:UInt8),1)) else (37,1))=_
 rw [if_pos rfl,h]
theorem two_some {a b:UInt8} {x y:Nat} (h:hexV a.toNat=some x) (k:hexV b.toNat=some y):two a b=some (UInt8.ofNat (x * 16+y)):=by unfold two;rw [h,k]
theorem two_noneL {a b:UInt8} (h:hexV a.toNat=none):two a b=none:=by unfold two;rw [h]
theorem two_noneR {a b:UInt8} (h:hexV b.toNat=none):two a b=none:=by
 unfold two
 rw [h]
 cases hexV a.toNat<;>rfl
theorem unR_next {l:List UInt8} (h:l≠[]):unR l=(nextR l).1::unR (l.drop (nextR l).2):=by
 match l,h with
 | c::r,_ =>
   by_cases hc:c=37
   ·subst hc
    match r with
    | []=>rfl
    | [a]=>rfl
    | a::b::r' =>
      cases ht:two a b with
      | some x=>rw [unR_two ht,nextR_some ht];rfl
      | none=>rw [unR_not ht,nextR_none ht];rfl
   ·rw [unR_plain hc,nextR_plain hc]
    rfl
theorem nextR_size {l:List UInt8} (h:l≠[]):1≤(nextR l).2∧(nextR l).2≤l.length:=by
 match l,h with
 | c::r,_ =>
   by_cases hc:c=37
   ·subst hc
    match r with
    | []=>exact ⟨Nat.le_refl _,Nat.le_refl _⟩
    | [a]=>exact ⟨Nat.le_refl _,by show 1≤2;decide⟩
    | a::b::r' =>
      cases ht:two a b with
      | some x=>rw [nextR_some ht];simp
      | none=>rw [nextR_none ht];simp
   ·rw [nextR_plain hc]
    simp
theorem bytes_num (s:ByteArray):s.data.toList.length=s.size:=by
 show s.data.toList.length=s.data.size
 rw [Array.length_toList]
theorem bytes_at (s:ByteArray) (k:Nat) (h:k < s.size):s.data.toList[k]? = some s[k]:=by
 rw [List.getElem?_eq_getElem (by rw [bytes_num];exact h)];rfl
theorem bytes_three (s:ByteArray) (h:3≤s.size):∃r,s.data.toList=s[0]::s[1]::s[2]::r:=by
 have h0:=bytes_at s 0 (by omega)
 have h1:=bytes_at s 1 (by omega)
 have h2:=bytes_at s 2 (by omega)
 revert h0 h1 h2
 generalize s[0]=a
 generalize s[1]=b
 generalize s[2]=c
 generalize s.data.toList=l
 intro h0 h1 h2
 match l,h0,h1,h2 with
 | x::y::z::r,h0,h1,h2 =>
   simp at h0 h1 h2
   subst h0 h1 h2
   exact ⟨r,rfl⟩
 | [x,y],_,_,h2=>simp at h2
 | [x],_,h1,_=>simp at h1
 | [],h0,_,_=>simp at h0
theorem bytes_one (s:ByteArray) (h:0 < s.size):∃r,s.data.toList=s[0]::r∧r.length+1=s.size:=by
 have h0:=bytes_at s 0 h
 have hl:=bytes_num s
 revert h0 hl
 generalize s[0]=a
 generalize s.data.toList=l
 intro h0 hl
 match l,h0,hl with
 | x::r,h0,hl =>
   simp at h0
   subst h0
   exact ⟨r,rfl,by rw [← hl];rfl⟩
 | [],h0,_=>simp at h0
theorem u8_eq {a b:UInt8} (h:a.toNat=b.toNat):a=b:=UInt8.toNat_inj.1 h
theorem next_callsPc (s:ByteArray) (w:World) (hs:0 < s.size) (hm:s.size≤100000) :
 Calls Tryz.prog 71 #[.string s] w fun e w'=>e=.returned (.tuple #[.int .u8 ((nextR s.data.toList).1.toNat:Int),.int .i64 ((nextR s.data.toList).2:Int)])∧w'=w:=by
 obtain ⟨r,hr,hrl⟩:=bytes_one s hs
 obtain ⟨z,hz⟩:∃z,s[0].toNat=z:=⟨_,rfl⟩
 have z9:(z:Int) < 256:=by have:=byte_lt s[0];omega
 have z0:(0:Int)≤(z:Int):=by omega
 have p0:(0:Int) < (s.size:Int):=by omega
 by_cases h37:z=37
 ·have HC:Hid (s[0]=37):=u8_eq (by rw [hz,h37];rfl)
  by_cases h3:3≤s.size
  ·obtain ⟨r',hr'⟩:=bytes_three s h3
   have pk1:1 < s.size:=by omega
   have pk2:2 < s.size:=by omega
   obtain ⟨x,hx⟩:∃x,(s[1]'pk1).toNat=x:=⟨_,rfl⟩
   obtain ⟨y,hy⟩:∃y,(s[2]'pk2).toNat=y:=⟨_,rfl⟩
   rw [HC.out] at hr'
   have HN:Hid (s.data.toList=(37:UInt8)::s[1]'pk1::s[2]'pk2::r'):=hr'
   clear hr hrl hr' h3
   have x9:x < 256:=by have:=byte_lt s[1];omega
   have y9:y < 256:=by have:=byte_lt s[2];omega
   have T1:Hid (hexV x=none→two s[1] s[2]=none):=fun h=>two_noneL (by rw [hx];exact h)
   have T2:Hid (hexV y=none→two s[1] s[2]=none):=fun h=>two_noneR (by rw [hy];exact h)
   have T3:Hid (∀d1 d2,hexV x=some d1→hexV y=some d2→two s[1] s[2]=some (UInt8.ofNat (d1 * 16+d2))):=fun d1 d2 h k=>two_some (by rw [hx];exact h) (by rw [hy];exact k)
   have p3:¬(s.size:Int) < 3:=by omega
   have p1:(1:Int) < (s.size:Int):=by omega
   have p2:(2:Int) < (s.size:Int):=by omega
   subst h37
   clear z9 z0 HC
   have DY1:=hid (fun d (h:hexV x=some d) (w:World)=>digit_yes x d w x9 h)
   have DN1:=hid (fun (h:hexV x=none) (w:World)=>digit_no x w x9 h)
   have DY2:=hid (fun d (h:hexV y=some d) (w:World)=>digit_yes y d w y9 h)
   have DN2:=hid (fun (h:hexV y=none) (w:World)=>digit_no y w y9 h)
   clear x9 y9
   cases hvx:hexV x with
   | none =>
     have HX:Hid (nextR s.data.toList=(37,1)):=by
      show _=_
      rw [HN.out];exact nextR_none (T1.out hvx)
     have E1:=hid (DN1.out hvx)
     clear HN T1 T2 T3 DY1 DN1 hvx
     cases hvy:hexV y with
     | none =>
       have E2:=hid (DN2.out hvy)
       clear DY2 DN2 hvy
       go_enter Tryz.func71,Tryz.ntmps71
       go_wp2_with fail
       refine (E1.out _).mono ?_
       rintro e wz ⟨rfl,rfl⟩
       go_wp2_with fail
       refine (E2.out _).mono ?_
       rintro e wz ⟨rfl,rfl⟩
       go_wp2_with fail
       go_ret2
       exact ⟨by rw [HX.out];rfl,rfl⟩
     | some d2 =>
       have E2:=hid (DY2.out d2 hvy)
       clear DY2 DN2 hvy
       go_enter Tryz.func71,Tryz.ntmps71
       go_wp2_with fail
       refine (E1.out _).mono ?_
       rintro e wz ⟨rfl,rfl⟩
       go_wp2_with fail
       refine (E2.out _).mono ?_
       rintro e wz ⟨rfl,rfl⟩
       go_wp2_with fail
       go_ret2
       exact ⟨by rw [HX.out];rfl,rfl⟩
   | some d1 =>
     have E1:=hid (DY1.out d1 hvx)
     have hd1:=hexV_lt hvx
     clear DY1 DN1
     cases hvy:hexV y with
     | none =>
       have HX:Hid (nextR s.data.toList=(37,1)):=by
        show _=_
        rw [HN.out];exact nextR_none (T2.out hvy)
       have E2:=hid (DN2.out hvy)
       clear HN T1 T2 T3 DY2 DN2 hvy hvx
       go_enter Tryz.func71,Tryz.ntmps71
       go_wp2_with fail
       refine (E1.out _).mono ?_
       rintro e wz ⟨rfl,rfl⟩
       go_wp2_with fail
       refine (E2.out _).mono ?_
       rintro e wz ⟨rfl,rfl⟩
       go_wp2_with fail
       go_ret2
       exact ⟨by rw [HX.out];rfl,rfl⟩
     | some d2 =>
       have HX:Hid (nextR s.data.toList=(UInt8.ofNat (d1 * 16+d2),3)):=by
        show _=_
        rw [HN.out];exact nextR_some (T3.out d1 d2 hvx hvy)
       have E2:=hid (DY2.out d2 hvy)
       have hd2:=hexV_lt hvy
       have pk:=u8pack d1 d2 hd1 hd2
       clear HN T1 T2 T3 DY2 DN2 hvy hvx
       generalize UInt8.ofNat (d1 * 16+d2)=c at *
       go_enter Tryz.func71,Tryz.ntmps71
       go_wp2_with fail
       refine (E1.out _).mono ?_
       rintro e wz ⟨rfl,rfl⟩
       go_wp2_with fail
       refine (E2.out _).mono ?_
       rintro e wz ⟨rfl,rfl⟩
       go_wp2_with fail
       go_ret2
       exact ⟨by rw [HX.out];rfl,rfl⟩
  ·have HX:Hid (nextR s.data.toList=(37,1)):=by
    show _=_
    rw [hr,HC.out]
    match r,hrl with
    | [],_=>rfl
    | [a],_=>rfl
    | a::b::r',h=>exfalso;simp at h;omega
   have p3:(s.size:Int) < 3:=by omega
   subst h37
   clear hr hrl h3 z9 z0 HC
   go_enter Tryz.func71,Tryz.ntmps71
   go_wp2_with fail
   go_ret2
   exact ⟨by rw [HX.out];rfl,rfl⟩
 ·have HX:Hid (nextR s.data.toList=(s[0],1)):=by
   show _=_
   rw [hr,nextR_plain]
   intro e
   exact h37 (by rw [← hz,e];rfl)
  have q1:((z:Int) != 37)=true:=by rw [bne_iff_ne];omega
  have HZ:=hid hz
  clear hr hrl h37
  go_enter Tryz.func71,Tryz.ntmps71
  go_wp2_with fail
  go_ret2
  exact ⟨by rw [HX.out,HZ.out];rfl,rfl⟩
abbrev fsIp (l:List UInt8):Value:=.string (strOf l)
abbrev SRowIp (w:World) (v:Value) (ps:List (List UInt8)):Prop:=Row fsIp w v ps
abbrev SOwnIp (w:World) (base:Nat) (v:Value) (ps:List (List UInt8)):Prop:=Own fsIp 9 w base v ps
theorem str_data (L:List UInt8):(strOf L).data.toList=L:=rfl
theorem str_size (L:List UInt8):(strOf L).size=L.length:=rfl
theorem of_data (s:ByteArray):s=strOf s.data.toList:=rfl
theorem info_strIp:(Tryz.prog.info? 9).map (fun i=>(i.zero,i.size,i.bytes))=some (some (.string ⟨#[]⟩),1,16):=by kernel_rfl
theorem appendS_runIp {w:World} {base:Nat} {v:Value} {xs:List (List UInt8)} (hown:SOwnIp w base v xs) {x:Value} {l:List (List UInt8)} (hx:SRowIp w x l) (hlen:xs.length+l.length≤1000000) (hbase:base≤w.heap.size) :
 ∃v' w',(Builtin.append_ #[74,74] 74 #[v,x]).run Tryz.prog w=.ok v' w'∧SOwnIp w' base v' (xs++l)∧w.grownBy w' v.ownBlock :=
 append_gen (fun _=>rfl) Tryz.underlying74 info_strIp rfl (by decide) hown hx hlen hbase
theorem oneS_row (w:World) (l:List UInt8):SRowIp (w.alloc (.cells #[.string (strOf l)] 9)) (.slice (some ⟨w.heap.size,0,none⟩) 1 1) [l]:=Row.lit fsIp w [l] 9 (0,0) (by simp)
theorem cut_mid (s:ByteArray) (a b:Nat) (h:b≤s.size):s.extract a b=strOf ((s.data.toList.drop a).take (b-a)):=by
 apply ByteArray.ext
 rw [ByteArray.data_extract]
 apply Array.toList_inj.1
 rw [Array.toList_extract,List.extract_eq_take_drop]
 rfl
theorem rd_someIp {n d:Nat} (h:hexV n=some d):rdPc n=(d:Int):=by unfold rdPc;rw [h]
theorem rd_noneIp {n:Nat} (h:hexV n=none):rdPc n=-1:=by unfold rdPc;rw [h]
theorem digB_some {b d:Nat} {c:UInt8} (h:hexV c.toNat=some d):digB b c=decide (d < b):=by unfold digB;rw [h]
theorem digB_none {b:Nat} {c:UInt8} (h:hexV c.toNat=none):digB b c=false:=by unfold digB;rw [h]
theorem digs_hit {s:ByteArray} {b k:Nat} (h:k < s.size) (ha:digsR b (s.data.toList.take k)=true) (hb:digB b s[k]=true):digsR b (s.data.toList.take (k+1))=true:=by
 have hl:k < s.data.toList.length:=by rw [bytes_num];exact h
 unfold digsR at ha ⊢
 rw [List.take_succ_eq_append_getElem hl,List.all_append,ha]
 simp only [List.all_cons,List.all_nil,Bool.and_true,Bool.true_and]
 exact hb
theorem digs_miss {s:ByteArray} {b k:Nat} (h:k < s.size) (hb:digB b s[k]=false):digsR b s.data.toList=false:=by
 unfold digsR
 rw [List.all_eq_false]
 refine ⟨s[k],?_,by rw [hb];decide⟩
 have hl:k < s.data.toList.length:=by rw [bytes_num];exact h
 exact List.getElem_mem (l:=s.data.toList) (n:=k) hl
theorem digs_end {s:ByteArray} {b k:Nat} (h:¬k < s.size) (ha:digsR b (s.data.toList.take k)=true):digsR b s.data.toList=true:=by
 rw [List.take_of_length_le (by rw [bytes_num];omega)] at ha
 exact ha
theorem digits_calls (s:ByteArray) (b:Nat) (w:World) (hs:s.size≤100000) (hb16:b≤16) :
 Calls Tryz.prog 57 #[.string s,.int .i64 (b:Int)] w fun e w'=>e=.returned (.bool (digsR b s.data.toList))∧w'=w:=by
 have s1:(s.size:Int)≤100000:=by omega
 obtain ⟨R,hR⟩:∃R,R=digsR b s.data.toList:=⟨_,rfl⟩
 rw [← hR]
 have HR:=hid hR
 clear hR hs
 go_enter Tryz.func57,Tryz.ntmps57
 go_wp2_with fail
 go_loop [5] (fun vi=>∃k:Nat,k≤s.size∧vi=.int .i64 (k:Int)∧digsR b (s.data.toList.take k)=true) (fun vi=>s.size-(intOf vi).toNat)
 case atStart=>exact ⟨0,Nat.zero_le _,rfl,by rw [List.take_zero];rfl⟩
 case round =>
  obtain ⟨k,hk,rfl,hall⟩:=hrel
  have HA:=hid hall
  have k0:(0:Int)≤(k:Int):=by omega
  clear hall
  by_cases hlt:k < s.size
  ·have k1:(k:Int) < (s.size:Int):=by omega
   have HH:=hid (fun h=>digs_hit (b:=b) hlt HA.out h)
   have HM:=hid (fun h=>digs_miss (b:=b) hlt h)
   obtain ⟨z,hz⟩:∃z,(s[k]'hlt).toNat=z:=⟨_,rfl⟩
   have z9:z < 256:=by rw [← hz];exact byte_lt _
   have HD0:Hid (hexV z=none→digB b (s[k]'hlt)=false):=fun h=>digB_none (by rw [hz];exact h)
   have HD:Hid (∀d,hexV z=some d→digB b (s[k]'hlt)=decide (d < b)):=fun d h=>digB_some (by rw [hz];exact h)
   have HC:=hid (rdigit_calls z z9)
   have HK:=hid hlt
   clear z9 hk
   cases hv:hexV z with
   | none =>
     rw [rd_noneIp hv] at HC
     have HF:Hid (R=false):=by show R=false;rw [HR.out];exact HM.out (HD0.out hv)
     clear HH HM HD HD0 hv
     go_wp2_with fail
     refine (HC.out _).mono ?_
     rintro e wz ⟨rfl,rfl⟩
     go_wp2_with fail
     go_ret
     exact ⟨by rw [HF.out];rfl,rfl⟩
   | some d =>
     rw [rd_someIp hv] at HC
     by_cases hdb:d < b
     ·have HX:=hid (HH.out (by rw [HD.out d hv];simpa using hdb))
      have d0:(0:Int)≤(d:Int):=by omega
      have d1:¬(b:Int)≤(d:Int):=by omega
      clear HH HM HD HD0 hv hdb
      go_wp2_with fail
      refine (HC.out _).mono ?_
      rintro e wz ⟨rfl,rfl⟩
      go_wp2_with fail
      go_round
      case rel=>exact ⟨k+1,HK.out,by go_num,HX.out⟩
      case measure=>have:=HK.out;simp [intOf];omega
     ·have HF:Hid (R=false):=by show R=false;rw [HR.out];exact HM.out (by rw [HD.out d hv];simpa using hdb)
      have d0:(0:Int)≤(d:Int):=by omega
      have d1:(b:Int)≤(d:Int):=by omega
      clear HH HM HD HD0 hv hdb
      go_wp2_with fail
      refine (HC.out _).mono ?_
      rintro e wz ⟨rfl,rfl⟩
      go_wp2_with fail
      go_ret
      exact ⟨by rw [HF.out];rfl,rfl⟩
  ·have HF:Hid (R=true):=by show R=true;rw [HR.out];exact digs_end hlt HA.out
   have g:¬(k:Int) < (s.size:Int):=by omega
   clear hlt hk
   go_wp2_with fail
   go_ret
   exact ⟨by rw [HF.out];rfl,rfl⟩
theorem hexR_short {s:ByteArray} (h:¬2≤s.size):hexR s.data.toList=false:=by
 have hl:=bytes_num s
 revert hl
 generalize s.data.toList=l
 intro hl
 match l,hl with
 | [],_=>rfl
 | [a],_=>rfl
 | a::b::r,hl=>exfalso;simp at hl;omega
theorem hexR_long {s:ByteArray} (h:2≤s.size):hexR s.data.toList=((s[0]'(by omega)).toNat==48&&((s[1]'(by omega)).toNat==120||(s[1]'(by omega)).toNat==88)):=by
 have h0:=bytes_at s 0 (by omega)
 have h1:=bytes_at s 1 (by omega)
 have hb:∀(x:UInt8) (n:UInt8),(x==n)=(x.toNat==n.toNat):=by
  intro x n
  by_cases e:x=n
  ·subst e;simp
  ·rw [beq_eq_false_iff_ne.2 e,beq_eq_false_iff_ne.2 (fun e'=>e (UInt8.toNat_inj.1 e'))]
 revert h0 h1
 generalize s.data.toList=l
 generalize (s[0]'(by omega))=a
 generalize (s[1]'(by omega))=b
 intro h0 h1
 match l,h0,h1 with
 | x::y::r,h0,h1 =>
   simp at h0 h1
   subst h0 h1
   show (x==48&&(y==120||y==88))=_
   rw [hb x 48,hb y 120,hb y 88]
   rfl
 | [x],h0,h1=>simp at h1
 | [],h0,h1=>simp at h0
theorem hex_calls (s:ByteArray) (w:World) (hs:s.size≤100000) :
 Calls Tryz.prog 58 #[.string s] w fun e w'=>e=.returned (.bool (hexR s.data.toList))∧w'=w:=by
 have s1:(s.size:Int)≤100000:=by omega
 obtain ⟨R,hR⟩:∃R,R=hexR s.data.toList:=⟨_,rfl⟩
 rw [← hR]
 have HR:=hid hR
 clear hR hs
 by_cases h2:2≤s.size
 ·have HL:=hid (hexR_long h2)
  obtain ⟨x,hx⟩:∃x,(s[0]'(by omega)).toNat=x:=⟨_,rfl⟩
  obtain ⟨y,hy⟩:∃y,(s[1]'(by omega)).toNat=y:=⟨_,rfl⟩
  rw [hx,hy] at HL
  have p2:(2:Int)≤(s.size:Int):=by omega
  have p0:(0:Int) < (s.size:Int):=by omega
  have p1:(1:Int) < (s.size:Int):=by omega
  have q1:1 < s.size:=by omega
  have q0:0 < s.size:=by omega
  by_cases hx48:x=48
  ·subst hx48
   by_cases hy1:y=120
   ·subst hy1
    have HF:Hid (R=true):=by show R=true;rw [HR.out,HL.out];rfl
    clear HL HR
    go_enter Tryz.func58,Tryz.ntmps58
    go_wp2_with fail
    go_ret
    exact ⟨by rw [HF.out];rfl,rfl⟩
   ·have e1:((y:Int)==120)=false:=bN (by omega)
    by_cases hy2:y=88
    ·subst hy2
     have HF:Hid (R=true):=by show R=true;rw [HR.out,HL.out];rfl
     clear HL HR hy1
     go_enter Tryz.func58,Tryz.ntmps58
     go_wp2_with fail
     go_ret
     exact ⟨by rw [HF.out];rfl,rfl⟩
    ·have e2:((y:Int)==88)=false:=bN (by omega)
     have HF:Hid (R=false):=by show R=false;rw [HR.out,HL.out,beq_eq_false_iff_ne.2 hy1,beq_eq_false_iff_ne.2 hy2];rfl
     clear HL HR hy1 hy2
     go_enter Tryz.func58,Tryz.ntmps58
     go_wp2_with fail
     go_ret
     exact ⟨by rw [HF.out];rfl,rfl⟩
  ·have e1:((x:Int)==48)=false:=bN (by omega)
   have HF:Hid (R=false):=by show R=false;rw [HR.out,HL.out,beq_eq_false_iff_ne.2 hx48];rfl
   clear HL HR hx48
   go_enter Tryz.func58,Tryz.ntmps58
   go_wp2_with fail
   go_ret
   exact ⟨by rw [HF.out];rfl,rfl⟩
 ·have HF:Hid (R=false):=by show R=false;rw [HR.out];exact hexR_short h2
  have p2:¬(2:Int)≤(s.size:Int):=by omega
  clear h2
  go_enter Tryz.func58,Tryz.ntmps58
  go_wp2_with fail
  go_ret
  exact ⟨by rw [HF.out];rfl,rfl⟩
end Go.Proofs.YtpohekldddbneaaGreatDoor
