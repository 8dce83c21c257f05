import Derived.Test.YtpohekldddbneaaGreatDoorPbAY
set_option linter.unusedVariables false
set_option linter.unusedSimpArgs false
set_option maxRecDepth 20000
set_option maxHeartbeats 16000000
namespace Go.Proofs.YtpohekldddbneaaGreatDoor
open Go.RowKit
def byR (l:List Int):ByteArray×Int:=if markB (textL l)=true then (strOf [],4) else if (encR l).2=0 then (strOf ([120,110,45,45]++bytesOf (encR l).1),0) else (strOf [],(encR l).2)
theorem labR_by {l:List Int} (h:asciiB l=false):labR l=byR l:=by unfold labR byR;rw [if_pos h]
theorem text_size {l:List Int} (hl:l.length≤100000):(strOf (textL l)).size≤maxLen:=by
 have:=text_len l
 rw [strOf_size];unfold maxLen;omega
theorem bypuny_calls (v:Value) (l:List Int) (w:World) (hv:IRow w v l) (hl:l.length≤100000) :
 Calls Tryz.prog 103 #[v] w fun e w'=>e=.returned (.tuple #[.string (byR l).1,.int .i64 (byR l).2])∧Below w.heap.size w w':=by
 have HV:=hid hv
 have HTx:=hid (text_calls v l w hv hl)
 have HM:=hid (fun w'=>hasp_calls (strOf (textL l)) w' (text_size hl))
 have HTB:Hid (bytesOf (strOf (textL l))=textL l):=rfl
 rw [HTB.out] at HM
 obtain ⟨R,hR⟩:∃R,R=byR l:=⟨_,rfl⟩
 rw [← hR]
 have HR:=hid hR
 clear hv hl hR
 cases hmk:markB (textL l) with
 | true =>
   have HX:Hid (R=(strOf [],4)):=by show _=_;rw [HR.out];unfold byR;rw [if_pos hmk]
   rw [hmk] at HM
   clear hmk
   generalize strOf (textL l)=s at *
   go_enter Tryz.func103,Tryz.ntmps103
   go_wp2_with fail
   refine HTx.out.mono ?_
   rintro e w1 ⟨rfl,hb1⟩
   have HB1:=hid hb1
   clear hb1
   go_wp2_with fail
   refine (HM.out _).mono ?_
   rintro e w3 ⟨rfl,rfl⟩
   go_wp2_with fail
   go_ret2
   exact ⟨by rw [HX.out];rfl,HB1.out⟩
 | false =>
   have HXB:Hid ((encR l).2≠0→R=(strOf [],(encR l).2)):=fun h=>by rw [HR.out];unfold byR;rw [if_neg (by rw [hmk];decide),if_neg h]
   have HXG:Hid ((encR l).2=0→R=(strOf ([120,110,45,45]++bytesOf (encR l).1),0)):=fun h=>by rw [HR.out];unfold byR;rw [if_neg (by rw [hmk];decide),if_pos h]
   rw [hmk] at HM
   have HPu:=hid (fun w' hv=>pencode_calls v l w' hv)
   have hps:=encR_size l
   clear hmk
   generalize strOf (textL l)=s at *
   generalize encR l=X at *
   obtain ⟨p,n⟩:=X
   simp only at HXB HXG HPu hps
   have p1:(p.size:Int)≤10000000:=by omega
   have hj:=str_join p
   clear hps
   by_cases hn:n=0
   ·subst hn
    have HX:=hid (HXG.out rfl)
    rw [← hj] at HX
    clear HXB HXG hj
    go_enter Tryz.func103,Tryz.ntmps103
    go_wp2_with fail
    refine HTx.out.mono ?_
    rintro e w1 ⟨rfl,hb1⟩
    have HB1:=hid hb1
    have HV1:=hid (HV.out.below hb1)
    clear hb1
    go_wp2_with fail
    refine (HM.out _).mono ?_
    rintro e w3 ⟨rfl,rfl⟩
    go_wp2_with fail
    refine (HPu.out _ HV1.out).mono ?_
    rintro e w4 ⟨rfl,hb4⟩
    have HB4:=hid (below_trans HB1.out hb4)
    clear hb4
    go_wp2_with fail
    go_ret2
    exact ⟨by rw [HX.out];rfl,HB4.out⟩
   ·have HX:=hid (HXB.out hn)
    have n1:(n==0)=false:=by rw [beq_eq_false_iff_ne];exact hn
    have n2:(n != 0)=true:=by rw [bne_iff_ne];exact hn
    clear HXB HXG hn hj
    go_enter Tryz.func103,Tryz.ntmps103
    go_wp2_with fail
    refine HTx.out.mono ?_
    rintro e w1 ⟨rfl,hb1⟩
    have HB1:=hid hb1
    have HV1:=hid (HV.out.below hb1)
    clear hb1
    go_wp2_with fail
    refine (HM.out _).mono ?_
    rintro e w3 ⟨rfl,rfl⟩
    go_wp2_with fail
    refine (HPu.out _ HV1.out).mono ?_
    rintro e w4 ⟨rfl,hb4⟩
    have HB4:=hid (below_trans HB1.out hb4)
    clear hb4
    go_wp2_with fail
    go_ret2
    exact ⟨by rw [HX.out];rfl,HB4.out⟩
theorem byR_back {u:List Int} {t:ByteArray}:((byR u).2=0∧(bytesOf (byR u).1==[120,110,45,45]++bytesOf t)=true)↔(markB (textL u)=false∧(encR u).2=0∧(bytesOf (encR u).1==bytesOf t)=true):=by
 unfold byR
 cases hm:markB (textL u) with
 | true=>simp
 | false =>
   rw [if_neg (by decide)]
   by_cases he:(encR u).2=0
   ·rw [if_pos he]
    simp [he,bytesOf,strOf]
   ·rw [if_neg he]
    simp [he]
theorem backOk_by {t:ByteArray} (h1:(decR t).2=0) (h2:asciiB (ints (decR t).1)=false) (h3:validB (ints (decR t).1)=true):backOk t=(decide ((byR (ints (decR t).1)).2=0)&&(bytesOf (byR (ints (decR t).1)).1==[120,110,45,45]++bytesOf t)):=by
 have hk:((ints (decR t).1).all fun c=>kindR c==1)=true:=by
  unfold validB at h3
  rw [List.all_eq_true] at h3 ⊢
  intro c hc
  rw [kind_alike]
  exact h3 c hc
 have hb:=byR_back (u:=ints (decR t).1) (t:=t)
 unfold backOk
 rw [h1,h2,hk]
 cases hr:(decide ((byR (ints (decR t).1)).2=0)&&(bytesOf (byR (ints (decR t).1)).1==[120,110,45,45]++bytesOf t)) with
 | true =>
   rw [Bool.and_eq_true,decide_eq_true_eq] at hr
   obtain ⟨g1,g2,g3⟩:=hb.1 hr
   rw [g1,g2,g3];rfl
 | false =>
   have hn:¬(markB (textL (ints (decR t).1))=false∧(encR (ints (decR t).1)).2=0∧(bytesOf (encR (ints (decR t).1)).1==bytesOf t)=true):=by
    intro h
    have g:=hb.2 h
    rw [← decide_eq_true_eq (p:=(byR (ints (decR t).1)).2=0),← Bool.and_eq_true,hr] at g
    cases g
   cases h4:markB (textL (ints (decR t).1)) with
   | true=>rfl
   | false =>
     cases h5:(encR (ints (decR t).1)).2==0 with
     | false=>rfl
     | true =>
       cases h6:(bytesOf (encR (ints (decR t).1)).1==bytesOf t) with
       | false=>rfl
       | true=>exact absurd ⟨h4,beq_iff_eq.1 h5,h6⟩ hn
theorem backOk_valid {t:ByteArray} (h:validB (ints (decR t).1)=false):backOk t=false:=by
 unfold validB at h
 rw [List.all_eq_false] at h
 obtain ⟨c,hc,hk⟩:=h
 exact backOk_kind hc (by rw [kind_alike];simpa using hk)
theorem written_calls (t:ByteArray) (w:World) (ht:t.size≤maxLen) (ht2:t.size≤1000000000) :
 Calls Tryz.prog 106 #[.string t] w fun e w'=>e=.returned (.bool (backOk t))∧Below w.heap.size w w':=by
 have t1:(t.size:Int)≤1000000000:=by omega
 have HD:=hid (fun w'=>pdecode_calls t w' ht)
 have HU256:=hid (decR_most t)
 have HB0:=hid (backOk_err (t:=t))
 have HB1:=hid (backOk_ascii (t:=t))
 have HB2:=hid (backOk_valid (t:=t))
 have HB3:=hid (backOk_by (t:=t))
 have hj:=str_join t
 have etj:=toList_bytes (strOf ([120,110,45,45]++bytesOf t))
 have etb:bytesOf (strOf ([120,110,45,45]++bytesOf t))=[120,110,45,45]++bytesOf t:=rfl
 obtain ⟨R,hR⟩:∃R,R=backOk t:=⟨_,rfl⟩
 rw [← hR] at HB0 HB1 HB2 HB3
 rw [← hR]
 obtain ⟨mt,hmt⟩:∃mt,mt=strOf ([120,110,45,45]++bytesOf t):=⟨_,rfl⟩
 rw [← hmt] at hj etj etb
 rw [← etb] at HB3
 clear ht ht2 hR hmt etb
 generalize decR t=D at *
 obtain ⟨du,dn⟩:=D
 simp only at HB0 HB1 HB2 HB3 HU256
 unfold DecPost at HD
 simp only at HD
 generalize ints du=u at *
 have HBy:=hid (fun vu w' hvu=>bypuny_calls vu u w' hvu (by have:=HU256.out;omega))
 by_cases hdn:dn=0
 ·subst hdn
  cases hua:asciiB u with
  | true =>
    have HX:Hid (R=false):=hid (HB1.out hua)
    have HUA:=hid hua
    clear hua HB0 HB1 HB2 HB3
    go_enter Tryz.func106,Tryz.ntmps106
    go_wp2_with fail
    refine (HD.out _).mono ?_
    rintro e w1 ⟨⟨vu,rfl,hvu⟩,hb1⟩
    have HB1:=hid hb1
    have HU1:=hid hvu
    clear hb1 hvu
    go_wp2_with fail
    refine (iplain_calls _ u _ HU1.out).mono ?_
    rintro e w2 ⟨rfl,rfl⟩
    rw [HUA.out]
    go_wp2_with fail
    go_ret
    exact ⟨by rw [HX.out];rfl,HB1.out⟩
  | false =>
    have HUA:=hid hua
    cases hva:validB u with
    | false =>
      have HX:Hid (R=false):=hid (HB2.out hva)
      have HVA:=hid hva
      clear hua hva HB0 HB1 HB2 HB3
      go_enter Tryz.func106,Tryz.ntmps106
      go_wp2_with fail
      refine (HD.out _).mono ?_
      rintro e w1 ⟨⟨vu,rfl,hvu⟩,hb1⟩
      have HB1:=hid hb1
      have HU1:=hid hvu
      clear hb1 hvu
      go_wp2_with fail
      refine (iplain_calls _ u _ HU1.out).mono ?_
      rintro e w2 ⟨rfl,rfl⟩
      rw [HUA.out]
      go_wp2_with fail
      refine (ivalid_calls _ u _ HU1.out).mono ?_
      rintro e w3 ⟨rfl,hb3⟩
      have HB3:=hid (below_trans HB1.out hb3)
      rw [HVA.out]
      clear hb3
      go_wp2_with fail
      go_ret
      exact ⟨by rw [HX.out];rfl,HB3.out⟩
    | true =>
      have HX:=hid (HB3.out (by first | rfl | trivial) hua hva)
      have HVA:=hid hva
      clear hua hva HB0 HB1 HB2 HB3
      generalize byR u=Y at *
      obtain ⟨p,n⟩:=Y
      simp only at HX HBy
      have ep:=toList_bytes p
      by_cases hn:n=0
      ·subst hn
       obtain ⟨q,hq⟩:∃q,q=(bytesOf p==bytesOf mt):=⟨_,rfl⟩
       have HQ:Hid (R=q):=by show _=_;rw [HX.out,hq];simp
       have hq2:=hq.symm
       clear HX hq
       go_enter Tryz.func106,Tryz.ntmps106
       go_wp2_with fail
       refine (HD.out _).mono ?_
       rintro e w1 ⟨⟨vu,rfl,hvu⟩,hb1⟩
       have HB1:=hid hb1
       have HU1:=hid hvu
       clear hb1 hvu
       go_wp2_with fail
       refine (iplain_calls _ u _ HU1.out).mono ?_
       rintro e w2 ⟨rfl,rfl⟩
       rw [HUA.out]
       go_wp2_with fail
       refine (ivalid_calls _ u _ HU1.out).mono ?_
       rintro e w3 ⟨rfl,hb3⟩
       have HB3:=hid (below_trans HB1.out hb3)
       have HU3:=hid (HU1.out.below hb3)
       rw [HVA.out]
       clear hb3
       go_wp2_with fail
       refine (HBy.out _ _ HU3.out).mono ?_
       rintro e w4 ⟨rfl,hb4⟩
       have HB4:=hid (below_trans HB3.out hb4)
       clear hb4
       go_wp2_with fail
       go_ret
       exact ⟨by rw [HQ.out];rfl,HB4.out⟩
      ·have HQ:Hid (R=false):=by show _=_;rw [HX.out,decide_eq_false hn];rfl
       have n1:(n==0)=false:=by rw [beq_eq_false_iff_ne];exact hn
       have n2:(n != 0)=true:=by rw [bne_iff_ne];exact hn
       clear HX hn
       go_enter Tryz.func106,Tryz.ntmps106
       go_wp2_with fail
       refine (HD.out _).mono ?_
       rintro e w1 ⟨⟨vu,rfl,hvu⟩,hb1⟩
       have HB1:=hid hb1
       have HU1:=hid hvu
       clear hb1 hvu
       go_wp2_with fail
       refine (iplain_calls _ u _ HU1.out).mono ?_
       rintro e w2 ⟨rfl,rfl⟩
       rw [HUA.out]
       go_wp2_with fail
       refine (ivalid_calls _ u _ HU1.out).mono ?_
       rintro e w3 ⟨rfl,hb3⟩
       have HB3:=hid (below_trans HB1.out hb3)
       have HU3:=hid (HU1.out.below hb3)
       rw [HVA.out]
       clear hb3
       go_wp2_with fail
       refine (HBy.out _ _ HU3.out).mono ?_
       rintro e w4 ⟨rfl,hb4⟩
       have HB4:=hid (below_trans HB3.out hb4)
       clear hb4
       go_wp2_with fail
       go_ret
       exact ⟨by rw [HQ.out];rfl,HB4.out⟩
 ·have HX:Hid (R=false):=hid (HB0.out hdn)
  have q1:(dn==0)=false:=by rw [beq_eq_false_iff_ne];exact hdn
  have q2:(dn != 0)=true:=by rw [bne_iff_ne];exact hdn
  clear hdn HB0 HB1 HB2 HB3
  go_enter Tryz.func106,Tryz.ntmps106
  go_wp2_with fail
  refine (HD.out _).mono ?_
  rintro e w1 ⟨⟨vu,rfl,hvu⟩,hb1⟩
  have HB1:=hid hb1
  clear hb1 hvu
  go_wp2_with fail
  go_ret
  exact ⟨by rw [HX.out];rfl,HB1.out⟩
theorem label_calls (v:Value) (l:List Int) (w:World) (hv:IRow w v l) (hl:l.length≤100000) :
 Calls Tryz.prog 68 #[v] w fun e w'=>e=.returned (.tuple #[.string (labR l).1,.int .i64 (labR l).2])∧Below w.heap.size w w':=by
 have HV:=hid hv
 have HBy:=hid (bypuny_calls v l w hv hl)
 have HTx:=hid (text_calls v l w hv hl)
 have HCu:=hid (fun w'=>cutp_calls (strOf (textL l)) w' (text_size hl))
 have htl:=text_len l
 obtain ⟨R,hR⟩:∃R,R=labR l:=⟨_,rfl⟩
 rw [← hR]
 have HR:=hid hR
 clear hR
 cases hasc:asciiB l with
 | false =>
   have HX:Hid (R=byR l):=by show _=_;rw [HR.out,labR_by hasc]
   have HA:=hid hasc
   generalize byR l=Y at *
   obtain ⟨p,n⟩:=Y
   simp only at HBy
   clear hasc hv hl htl HTx HCu
   go_enter Tryz.func68,Tryz.ntmps68
   go_wp2_with fail
   refine (iplain_calls _ l _ HV.out).mono ?_
   rintro e w2 ⟨rfl,rfl⟩
   rw [HA.out]
   go_wp2_with fail
   refine HBy.out.mono ?_
   rintro e w3 ⟨rfl,hb3⟩
   have HB3:=hid hb3
   clear hb3
   go_wp2_with fail
   go_ret2
   exact ⟨by rw [HX.out];rfl,HB3.out⟩
 | true =>
   have HA:=hid hasc
   cases hmk:markB (textL l) with
   | false =>
     have HX:Hid (R=(textB l,0)):=by show _=_;rw [HR.out,labR_plain hasc hmk]
     have hcut:cutR (strOf (textL l))=(strOf (textL l),false):=by unfold cutR;rw [if_neg];show¬markB (textL l)=true;rw [hmk];decide
     rw [hcut] at HCu
     have hTB:strOf (textL l)=textB l:=rfl
     rw [hTB] at HCu HTx
     clear hasc hv hl htl hmk hcut HBy hTB
     generalize textB l=s at *
     go_enter Tryz.func68,Tryz.ntmps68
     go_wp2_with fail
     refine (iplain_calls _ l _ HV.out).mono ?_
     rintro e w2 ⟨rfl,rfl⟩
     rw [HA.out]
     go_wp2_with fail
     refine HTx.out.mono ?_
     rintro e w3 ⟨rfl,hb3⟩
     have HB3:=hid hb3
     clear hb3
     go_wp2_with fail
     refine (HCu.out _).mono ?_
     rintro e w4 ⟨rfl,rfl⟩
     go_wp2_with fail
     go_ret2
     exact ⟨by rw [HX.out];rfl,HB3.out⟩
   | true =>
     have HRR:Hid (R=if backOk (strOf ((textL l).drop 4))=true then (textB l,0) else (strOf [],4)):=by show _=_;rw [HR.out,labR_back hasc hmk]
     have hcut:cutR (strOf (textL l))=(strOf ((textL l).drop 4),true):=by
      show (if markB (textL l)=true then (strOf ((textL l).drop 4),true) else _)=_
      rw [if_pos hmk]
     rw [hcut] at HCu
     have hts:(strOf ((textL l).drop 4)).size≤400000:=by rw [strOf_size,List.length_drop];omega
     have HWr:=hid (fun w'=>written_calls (strOf ((textL l).drop 4)) w' (by unfold maxLen;omega) (by omega))
     have hTB:strOf (textL l)=textB l:=rfl
     rw [hTB] at HCu HTx
     clear hasc hv hl htl hmk hcut HBy hTB hts
     generalize strOf ((textL l).drop 4)=t at *
     generalize textB l=s at *
     cases hok:backOk t with
     | true =>
       have HX:Hid (R=(s,0)):=by show _=_;rw [HRR.out,if_pos hok]
       rw [hok] at HWr
       clear hok HRR
       go_enter Tryz.func68,Tryz.ntmps68
       go_wp2_with fail
       refine (iplain_calls _ l _ HV.out).mono ?_
       rintro e w2 ⟨rfl,rfl⟩
       rw [HA.out]
       go_wp2_with fail
       refine HTx.out.mono ?_
       rintro e w3 ⟨rfl,hb3⟩
       have HB3:=hid hb3
       clear hb3
       go_wp2_with fail
       refine (HCu.out _).mono ?_
       rintro e w4 ⟨rfl,rfl⟩
       go_wp2_with fail
       refine (HWr.out _).mono ?_
       rintro e w5 ⟨rfl,hb5⟩
       have HB5:=hid (below_trans HB3.out hb5)
       clear hb5
       go_wp2_with fail
       go_ret2
       exact ⟨by rw [HX.out];rfl,HB5.out⟩
     | false =>
       have HX:Hid (R=(strOf [],4)):=by show _=_;rw [HRR.out,if_neg (by rw [hok];decide)]
       rw [hok] at HWr
       clear hok HRR
       go_enter Tryz.func68,Tryz.ntmps68
       go_wp2_with fail
       refine (iplain_calls _ l _ HV.out).mono ?_
       rintro e w2 ⟨rfl,rfl⟩
       rw [HA.out]
       go_wp2_with fail
       refine HTx.out.mono ?_
       rintro e w3 ⟨rfl,hb3⟩
       have HB3:=hid hb3
       clear hb3
       go_wp2_with fail
       refine (HCu.out _).mono ?_
       rintro e w4 ⟨rfl,rfl⟩
       go_wp2_with fail
       refine (HWr.out _).mono ?_
       rintro e w5 ⟨rfl,hb5⟩
       have HB5:=hid (below_trans HB3.out hb5)
       clear hb5
       go_wp2_with fail
       go_ret2
       exact ⟨by rw [HX.out];rfl,HB5.out⟩
theorem info_ints:(Tryz.prog.info? 48).map (fun i=>(i.zero,i.size,i.bytes))=some (some (.slice none 0 0),1,24):=by kernel_rfl
theorem append_wide {α:Type} {f:α→Value} {t ts:TypeId} {z:Value} {bytes:Nat} (hf:∀x,(f x).oneCell'=true) (hu:Tryz.prog.underlying ts=some (.slice t)) (hin:(Tryz.prog.info? t).map (fun i=>(i.zero,i.size,i.bytes))=some (some z,1,bytes)) (hz:z.cells.size=1) (hby:bytes≤32)
 {w:World} {base:Nat} {v:Value} {xs:List α} (hown:Own f t w base v xs) {x:Value} {l:List α} (hx:Row f w x l) (hlen:xs.length+l.length≤1000000) (hbase:base≤w.heap.size) :
 ∃v' w',(Builtin.append_ #[ts,ts] ts #[v,x]).run Tryz.prog w=.ok v' w'∧Own f t w' base v' (xs++l)∧w.grownBy w' v.ownBlock:=by
 obtain ⟨i0,hi,hz0,hz1,hz2⟩:=info_parts hin
 have hx0:=hx
 obtain ⟨a,cap,rfl,h1,h2,h3⟩:=hx
 cases a with
 | none =>
   have hl:l=[]:=by
    rcases List.eq_nil_or_concat l with h | ⟨l',c,h⟩
    ·exact h
    ·obtain ⟨b,off,he,_⟩:=h3 (by rw [h];simp)
     cases he
   subst hl
   refine ⟨v,w,?_,by rw [List.append_nil];exact hown,⟨rfl,rfl,rfl,Nat.le_refl _,fun _ _ _=>rfl⟩⟩
   rcases hown.2 with ⟨rfl,hl⟩ | ⟨g,cap',cur,rfl,_,_,hnc,_⟩
   ·simp [Builtin.append_,run_underlying hu,sizeOf,typeInfo,hi,Builtin.lenOf,Builtin.firstCells]
   ·simp [Builtin.append_,run_underlying hu,sizeOf,typeInfo,hi,Builtin.lenOf,Builtin.firstCells,hnc,storeCells]
 | some a =>
   obtain ⟨_,hc⟩:=Row.cells hx0
   obtain ⟨v',w',hr,ho,hg,_⟩:=run_append_own (P:=Tryz.prog) w base ts ts t i0 z 1 bytes hu hi hz0 hz1 hz2 hz (by decide) v xs.length (xs.map f) hown a l.length cap (l.map f) (by simp) hc
    (by intro u hu;obtain ⟨y,_,rfl⟩:=List.mem_map.1 hu;exact hf y) (by unfold maxLen;omega) (Nat.le_trans (Nat.mul_le_mul hlen hby) (by decide)) hbase
   refine ⟨v',w',hr,?_,hg⟩
   unfold Own
   rw [List.length_append,List.map_append]
   exact ho
def fx (x:Option Addr×Nat×Nat):Value:=.slice x.1 x.2.1 x.2.2
abbrev XOwn (w:World) (base:Nat) (v:Value) (l:List (Option Addr×Nat×Nat)):Prop:=Own fx 48 w base v l
theorem appendP_run {w:World} {base:Nat} {v:Value} {xs:List (Option Addr×Nat×Nat)} (hown:XOwn w base v xs) {x:Value} {l:List (Option Addr×Nat×Nat)} (hx:Row fx w x l) (hlen:xs.length+l.length≤1000000) (hbase:base≤w.heap.size) :
 ∃v' w',(Builtin.append_ #[83,83] 83 #[v,x]).run Tryz.prog w=.ok v' w'∧XOwn w' base v' (xs++l)∧w.grownBy w' v.ownBlock :=
 append_wide (fun _=>rfl) Tryz.underlying83 info_ints rfl (by decide) hown hx hlen hbase
def Each (w:World):List (Option Addr×Nat×Nat)→List (List Int)→Prop
 | [],[]=>True
 | x::xs,p::ps=>IRow w (fx x) p∧Each w xs ps
 | _,_=>False
theorem Each.len {w:World}:∀{xs:List (Option Addr×Nat×Nat)} {ps:List (List Int)},Each w xs ps→xs.length=ps.length
 | [],[],_=>rfl
 | x::xs,p::ps,h=>by rw [List.length_cons,List.length_cons,Each.len h.2]
 | [],p::ps,h=>h.elim
 | x::xs,[],h=>h.elim
theorem Each.snoc {w:World} {x:Option Addr×Nat×Nat} {p:List Int} (hx:IRow w (fx x) p):∀{xs:List (Option Addr×Nat×Nat)} {ps:List (List Int)},Each w xs ps→Each w (xs++[x]) (ps++[p])
 | [],[],_=>⟨hx,trivial⟩
 | y::xs,q::ps,h=>⟨h.1,Each.snoc hx h.2⟩
 | [],p::ps,h=>h.elim
 | x::xs,[],h=>h.elim
theorem Each.get {w:World}:∀{xs:List (Option Addr×Nat×Nat)} {ps:List (List Int)},Each w xs ps→∀(i:Nat) (h:i < xs.length) (h':i < ps.length),IRow w (fx xs[i]) ps[i]
 | x::xs,p::ps,h,0,_,_=>h.1
 | x::xs,p::ps,h,i+1,h1,h2=>Each.get h.2 i (by simpa using h1) (by simpa using h2)
 | [],[],_,i,h1,_=>absurd h1 (by simp)
 | [],p::ps,h,_,_,_=>h.elim
 | x::xs,[],h,_,_,_=>h.elim
theorem Each.below {w w':World} (hb:Below w.heap.size w w'):∀{xs:List (Option Addr×Nat×Nat)} {ps:List (List Int)},Each w xs ps→Each w' xs ps
 | [],[],_=>trivial
 | x::xs,p::ps,h=>⟨h.1.below hb,Each.below hb h.2⟩
 | [],p::ps,h=>h.elim
 | x::xs,[],h=>h.elim
def PRow (w:World) (v:Value) (ps:List (List Int)):Prop:=∃xs,Row fx w v xs∧Each w xs ps
theorem PRow.below {w w':World} {v:Value} {ps:List (List Int)} (h:PRow w v ps) (hb:Below w.heap.size w w'):PRow w' v ps:=by
 obtain ⟨xs,h1,h2⟩:=h
 exact ⟨xs,h1.below hb,h2.below hb⟩
theorem goI_none:∀(l cur:List Int),(∀x∈l,x≠46)→goI cur l=[cur++l]
 | [],cur,_=>by simp [goI]
 | x::l,cur,h=>by
   unfold goI
   rw [if_neg (h x List.mem_cons_self),goI_none l (cur++[x]) (fun y hy=>h y (List.mem_cons_of_mem _ hy))]
   simp
theorem goI_at:∀(l cur:List Int) (k:Nat) (hk:k < l.length),l[k]=46→(∀x∈l.take k,x≠46)→goI cur l=(cur++l.take k)::goI [] (l.drop (k+1))
 | x::l,cur,0,hk,hc,_=>by
   have hx:x=46:=by simpa using hc
   show (if x=46 then cur::goI [] l else _)=_
   rw [if_pos hx]
   simp
 | x::l,cur,k+1,hk,hc,hn=>by
   show (if x=46 then _ else goI (cur++[x]) l)=_
   rw [if_neg (hn x (by simp)),goI_at l (cur++[x]) k (by simpa using hk) (by simpa using hc) (fun y hy=>hn y (by simp;exact .inr hy))]
   simp
def IdxPost (l:List Int) (c:Int) (e:Ending):Prop:=(e=.returned (.int .i64 (-1))∧∀x∈l,x≠c)∨∃k:Nat,∃h:k < l.length,e=.returned (.int .i64 (k:Int))∧l[k]=c∧∀x∈l.take k,x≠c
theorem index_calls (v:Value) (l:List Int) (c:Int) (w:World) (hv:IRow w v l) :
 Calls Tryz.prog 101 #[v,.int .i64 c] w fun e w'=>IdxPost l c e∧w'=w:=by
 have HV:=hid hv
 obtain ⟨a,cap,rfl,h1,h2,h3⟩:=hv
 unfold maxLen at h2
 have l2:(l.length:Int)≤(cap:Int):=by omega
 have l3:(cap:Int)≤9223372036854775807:=by omega
 clear h1 h2 h3
 go_enter Tryz.func101,Tryz.ntmps101
 go_wp2_with fail
 go_loop [8] (fun vi=>∃k:Nat,k≤l.length∧vi=.int .i64 (k:Int)∧∀x∈l.take k,x≠c) (fun vi=>l.length-(intOf vi).toNat)
 case atStart=>exact ⟨0,Nat.zero_le _,rfl,by simp⟩
 case round =>
  obtain ⟨k,hk,rfl,hall⟩:=hrel
  have HA:=hid hall
  have k0:(0:Int)≤(k:Int):=by omega
  clear hall
  by_cases hlt:k < l.length
  ·obtain ⟨b,off,rfl,hck⟩:=HV.out.open (Below.refl _ _) k hlt
   have k1:(k:Int) < (l.length:Int):=by omega
   have HK:=hid hlt
   have HN:Hid (l[k]≠c→∀x∈l.take (k+1),x≠c):=by
    intro h x hx
    rw [List.take_succ_eq_append_getElem hlt] at hx
    rcases List.mem_append.1 hx with g | g
    ·exact HA.out x g
    ·rw [List.mem_singleton.1 g];exact h
   have HY:Hid (l[k]=c→IdxPost l c (.returned (.int .i64 (k:Int)))):=fun h=>.inr ⟨k,hlt,rfl,h,HA.out⟩
   generalize l[k]=d at *
   clear hlt hk
   by_cases hcd:d=c
   ·subst hcd
    go_wp2_with fail
    go_ret
    exact ⟨HY.out (by first | rfl | trivial),rfl⟩
   ·have HX:=hid (HN.out hcd)
    have q1:(c==d)=false:=by rw [beq_eq_false_iff_ne];exact fun h=>hcd h.symm
    clear hcd
    go_wp2_with fail
    go_round
    case rel=>exact ⟨k+1,HK.out,by go_num,HX.out⟩
    case measure=>have:=HK.out;simp [intOf];omega
  ·have hkl:k=l.length:=by omega
   have HF:Hid (IdxPost l c (.returned (.int .i64 (-1)))):=.inl ⟨rfl,by
    have h:=HA.out
    rw [hkl,List.take_length] at h
    exact h⟩
   have g:¬(k:Int) < (l.length:Int):=by omega
   clear hlt hk hkl
   go_wp2_with fail
   go_ret
   exact ⟨HF.out,rfl⟩
def lenS:Value→Nat
 | .slice _ n _=>n
 | _=>0
theorem rowI_take {w:World} {a:Option Addr} {n C:Nat} {l:List Int} (h:IRow w (.slice a n C) l) (k:Nat) (hk:k≤l.length):IRow w (.slice a k C) (l.take k):=by
 obtain ⟨a',cap',he,h1,h2,h3⟩:=h
 injection he with e1 e2 e3
 subst e1 e2 e3
 have hln:(l.take k).length=k:=by rw [List.length_take];omega
 refine ⟨_,_,by rw [hln],by omega,by omega,fun hne=>?_⟩
 obtain ⟨b,off,he,hb,hc⟩:=h3 (by intro e;subst e;simp at hne)
 exact ⟨b,off,he,hb,fun j hj=>by rw [hc j (by omega)];simp⟩
theorem rowI_drop {w:World} {b off n C:Nat} {l:List Int} (h:IRow w (.slice (some ⟨b,off,none⟩) n C) l) (k:Nat) (hk:k < l.length):IRow w (.slice (some ⟨b,off+k,none⟩) (l.length-k) (C-k)) (l.drop k):=by
 obtain ⟨b',off',he,_,_,_,hr⟩:=Row.from h k hk
 injection he with he
 injection he with e1 e2
 subst e1 e2
 exact hr
def CutAt (w:World) (m:List Int) (vl:Value) (r:List Int) (xs:List (Option Addr×Nat×Nat)):Prop :=
 ∃ps,IRow w vl r∧Each w xs ps∧goI [] m=ps++goI [] r∧xs.length+r.length≤m.length
theorem CutAt.start {w:World} {m:List Int} {v:Value} (h:IRow w v m):CutAt w m v m []:=⟨[],h,trivial,rfl,by simp⟩
theorem CutAt.row {w:World} {m r:List Int} {v:Value} {xs:List (Option Addr×Nat×Nat)} (h:CutAt w m v r xs):IRow w v r:=by obtain ⟨ps,h1,_⟩:=h;exact h1
theorem CutAt.len {w:World} {m r:List Int} {v:Value} {xs:List (Option Addr×Nat×Nat)} (h:CutAt w m v r xs):xs.length+r.length≤m.length:=by obtain ⟨ps,_,_,_,h4⟩:=h;exact h4
theorem CutAt.last {w:World} {m r:List Int} {a:Option Addr} {n C:Nat} {xs:List (Option Addr×Nat×Nat)} (h:CutAt w m (.slice a n C) r xs) (hn:∀x∈r,x≠46):Each w (xs++[(a,n,C)]) (goI [] m):=by
 obtain ⟨ps,h1,h2,h3,_⟩:=h
 rw [h3,goI_none r [] hn]
 exact Each.snoc h1 h2
theorem CutAt.next {w:World} {m r:List Int} {a:Option Addr} {n C:Nat} {xs:List (Option Addr×Nat×Nat)} (h:CutAt w m (.slice a n C) r xs) (k:Nat) (hk:k < r.length) (hc:r[k]=46) (hn:∀x∈r.take k,x≠46) {v':Value} (hv:IRow w v' (r.drop (k+1))):CutAt w m v' (r.drop (k+1)) (xs++[(a,k,C)]):=by
 obtain ⟨ps,h1,h2,h3,h4⟩:=h
 refine ⟨ps++[r.take k],hv,Each.snoc (rowI_take h1 k (by omega)) h2,?_,?_⟩
 ·rw [h3,goI_at r [] k hk hc hn];simp
 ·rw [List.length_append,List.length_drop];simp;omega
theorem pieces_calls (v:Value) (m:List Int) (w:World) (hv:IRow w v m) (hm:m.length≤100000) :
 Calls Tryz.prog 67 #[v,.int .i64 46] w fun e w'=>(∃v',e=.returned v'∧PRow w' v' (goI [] m))∧Below w.heap.size w w':=by
 have HS:=hid (CutAt.start hv)
 have HM:=hid hm
 clear hv hm
 go_enter Tryz.func67,Tryz.ntmps67
 go_wp2_with fail
 go_loopw [0,5] (fun vl vo wr=>∃r xs,CutAt w m vl r xs∧XOwn wr w.heap.size vo xs∧Below w.heap.size w wr) (fun vl _ _=>lenS vl)
 case atStart=>exact ⟨m,[],HS.out,Own.nil _ _ _ _,Below.refl _ _⟩
 case round =>
  obtain ⟨r,xs,hc,ho,hb⟩:=hrel
  have HC:=hid hc
  have HO:=hid ho
  have HB:=hid hb
  have HSz:Hid (w.heap.size≤wr.heap.size):=hb.size
  have hlen:=hc.len
  have HV:=hid (hc.row.below hb)
  obtain ⟨a,C,he,h1,h2,h3⟩:=hc.row
  subst he
  unfold maxLen at h2
  have l2:(r.length:Int)≤(C:Int):=by omega
  have l3:(C:Int)≤9223372036854775807:=by omega
  have HL:Hid (xs.length+r.length≤100000):=by show _≤_;have:=HM.out;omega
  have H2:=hid h2
  have H1:=hid h1
  clear hc ho hb hlen h1 h2
  go_wp2_with fail
  refine (index_calls _ r 46 _ HV.out).mono ?_
  rintro e w1 ⟨⟨rfl,hno⟩ | ⟨k,hk,rfl,hat,hno⟩,rfl⟩
  ·have HE:=hid (HC.out.last hno)
   obtain ⟨v4,w4,hr4,ho4,hg4⟩:=appendP_run (HO.out.alloc (.cells #[.slice a r.length C] 48)) (Row.lit fx w1 [(a,r.length,C)] 48 (0,0) (by simp)) (by have:=HL.out;simp;omega) (by have:=HSz.out;simp;omega)
   have HB4:=hid ((HB.out.alloc HSz.out (.cells #[.slice a r.length C] 48)).grown hg4 (by have:=HSz.out;simp;omega) (Own.lt HO.out))
   have HO4:=hid ho4
   clear hno ho4 hg4 h3
   go_wp2_with (at_builtin;go_must (refine wpList_append_run hr4 rfl _ _ rfl rfl rfl rfl ?_))
   go_ret
   exact ⟨⟨_,rfl,_,HO4.out.row,HE.out.below HB4.out⟩,HB4.out⟩
  ·obtain ⟨b,off,rfl,hlt,_⟩:=h3 (by intro e;subst e;simp at hk)
   have HNx:=hid (fun v'=>HC.out.next k hk hat hno (v':=v'))
   have k0:(0:Int)≤(k:Int):=by omega
   have k1:(k:Int) < (r.length:Int):=by omega
   have HK:=hid hk
   obtain ⟨v4,w4,hr4,ho4,hg4⟩:=appendP_run (HO.out.alloc (.cells #[.slice (some ⟨b,off,none⟩) k C] 48)) (Row.lit fx w1 [(some ⟨b,off,none⟩,k,C)] 48 (0,0) (by simp)) (by have:=HL.out;simp;omega) (by have:=HSz.out;simp;omega)
   have HB4:=hid ((HB.out.alloc HSz.out (.cells #[.slice (some ⟨b,off,none⟩) k C] 48)).grown hg4 (by have:=HSz.out;simp;omega) (Own.lt HO.out))
   have HO4:=hid ho4
   have HR:=hid HC.out.row
   clear hno ho4 hg4 hat hlt HV
   by_cases hlast:k+1 < r.length
   ·have HD:=hid (HNx.out _ (rowI_drop HR.out (k+1) hlast))
    have hq1:(C=k+1)=False:=eq_false (by have:=H1.out;omega)
    have hq2:(k+1=C)=False:=eq_false (by have:=H1.out;omega)
    clear hk
    go_wp2_with (at_builtin;go_must (refine wpList_append_run hr4 rfl _ _ rfl rfl rfl rfl ?_))
    go_roundw
    case rel=>exact ⟨_,_,HD.out,HO4.out,HB4.out⟩
    case measure=>simp [lenS];omega
   ·have hke:k+1=r.length:=by omega
    have HD:=hid (fun A (C':Nat) (hC:C'≤maxLen)=>HNx.out (.slice A 0 C') (by rw [List.drop_eq_nil_of_le (by omega)];exact rowI_nil w A C' hC))
    clear hk
    by_cases hcap:C=k+1
    ·have hq1:(C=k+1)=True:=eq_true hcap
     have hq2:(k+1=C)=True:=eq_true hcap.symm
     have HCp:=hid hcap
     clear hcap
     go_wp2_with (at_builtin;go_must (refine wpList_append_run hr4 rfl _ _ rfl rfl rfl rfl ?_))
     go_roundw
     case rel=>exact ⟨_,_,HD.out _ _ (by have:=H2.out;unfold maxLen;omega),HO4.out,HB4.out⟩
     case measure=>simp [lenS];omega
    ·have hq1:(C=k+1)=False:=eq_false hcap
     have hq2:(k+1=C)=False:=eq_false (fun e=>hcap e.symm)
     go_wp2_with (at_builtin;go_must (refine wpList_append_run hr4 rfl _ _ rfl rfl rfl rfl ?_))
     go_roundw
     case rel=>exact ⟨_,_,HD.out _ _ (by have:=H2.out;unfold maxLen;omega),HO4.out,HB4.out⟩
     case measure=>simp [lenS];omega
end Go.Proofs.YtpohekldddbneaaGreatDoor
