import Derived.Test.YtpohekldddbneaaGreatDoorPbAC
import Derived.Test.YtpohekldddbneaaGreatDoorPbAA
set_option linter.unusedVariables false
set_option linter.unusedSimpArgs false
set_option maxRecDepth 20000
set_option maxHeartbeats 16000000
namespace Go.Proofs.YtpohekldddbneaaGreatDoor
open Go.RowKit
def low (m:List Nat):List UInt8:=(m.filter (· < 128)).map b8
def enc (m:List Nat):List UInt8:=low m++(if m.countP (· < 128)=0 then [] else [45])++(encD m (m.countP (· < 128)) m.length 0 72 128 (m.countP (· < 128))).map letter
def nats (l:List Int):List Nat:=l.map Int.toNat
def encR (l:List Int):ByteArray×Int:=if 256 < l.length then (strOf [],11) else if l.all isS then (strOf (enc (nats l)),0) else (strOf [],1)
theorem encR_long {l:List Int} (h:256 < l.length):encR l=(strOf [],11):=by unfold encR;rw [if_pos h]
theorem encR_bad {l:List Int} (h:¬256 < l.length) (hb:l.all isS=false):encR l=(strOf [],1):=by unfold encR;rw [if_neg h,hb];rfl
theorem encR_ok {l:List Int} (h:¬256 < l.length) (hb:l.all isS=true):encR l=(strOf (enc (nats l)),0):=by unfold encR;rw [if_neg h,hb];rfl
theorem isS_nat {c:Int} (h:isS c=true):((c.toNat:Nat):Int)=c:=by have:=isS_iff.1 h;omega
theorem nats_map {l:List Int} (h:l.all isS=true):(nats l).map (fun n:Nat=>(n:Int))=l:=by
 unfold nats
 rw [List.map_map]
 refine (List.map_congr_left fun c hc=>?_).trans (List.map_id _)
 exact isS_nat (List.all_eq_true.1 h c hc)
theorem nats_row {l:List Int} {w:World} {v:Value} (h:l.all isS=true) (hv:IRow w v l):NRow w v (nats l):=by
 obtain ⟨a,cap,rfl,h1,h2,h3⟩:=hv
 have hln:(nats l).length=l.length:=by simp [nats]
 refine ⟨a,cap,by rw [hln],by omega,h2,fun hne=>?_⟩
 obtain ⟨b,off,rfl,hb,hc⟩:=h3 (by intro e;subst e;exact hne rfl)
 refine ⟨b,off,rfl,hb,fun i hi=>?_⟩
 rw [hc i (by omega)]
 have:(nats l)[i]=(l[i]'(by omega)).toNat:=by simp [nats]
 rw [this]
 show some (Value.int .i64 _)=some (Value.int .i64 _)
 rw [isS_nat (List.all_eq_true.1 h _ (List.getElem_mem _))]
theorem nats_le {l:List Int} (h:l.all isS=true):∀c∈nats l,isS (c:Int)=true∧c≤1114111:=by
 intro c hc
 obtain ⟨d,hd,rfl⟩:=List.mem_map.1 hc
 have h1:=List.all_eq_true.1 h d hd
 rw [isS_nat h1]
 have:=isS_iff.1 h1
 exact ⟨h1,by omega⟩
theorem low_snoc (l:List Int) (k:Nat) (h:k < l.length):low (nats (l.take (k+1)))=low (nats (l.take k))++(if l[k].toNat < 128 then [b8 l[k].toNat] else []):=by
 unfold low nats
 rw [List.take_succ_eq_append_getElem h,List.map_append,List.filter_append,List.map_append]
 congr 1
 by_cases hc:l[k].toNat < 128
 ·simp [hc]
 ·simp [hc]
theorem low_len (m:List Nat):(low m).length=m.countP (· < 128):=by unfold low;rw [List.length_map,List.countP_eq_length_filter]
theorem low_le (m:List Nat):(low m).length≤m.length:=by rw [low_len];exact List.countP_le_length
theorem nats_take_len (l:List Int) (k:Nat):(nats (l.take k)).length≤l.length:=by unfold nats;rw [List.length_map,List.length_take];omega
theorem pencode_calls (v:Value) (l:List Int) (w:World) (hv:IRow w v l) :
 Calls Tryz.prog 141 #[v] w fun e w'=>e=.returned (.tuple #[.string (encR l).1,.int .i64 (encR l).2])∧Below w.heap.size w w':=by
 have HV:=hid hv
 obtain ⟨a,cap,rfl,h1,h2,h3⟩:=hv
 unfold maxLen at h2
 have l0:(l.length:Int)≤(cap:Int):=by omega
 have cp:(cap:Int)≤9223372036854775807:=by omega
 clear h3
 by_cases hlong:256 < l.length
 ·rw [encR_long hlong]
  have g:(256:Int) < (l.length:Int):=by omega
  clear hlong h1 h2
  go_enter Tryz.func141,Tryz.ntmps141
  go_wp2_with fail
  go_ret2
  exact ⟨rfl,Below.refl _ _⟩
 ·have HLG:=hid hlong
  obtain ⟨R,hR⟩:∃R,R=encR l:=⟨_,rfl⟩
  rw [← hR]
  have HR:=hid hR
  have g:¬(256:Int) < (l.length:Int):=by omega
  have l1:(l.length:Int)≤256:=by omega
  clear hlong h1 h2 hR
  go_enter Tryz.func141,Tryz.ntmps141
  go_wp2_with fail
  go_loopw [4,13] (fun vo vi wr=>∃k:Nat,k≤l.length∧vi=.int .i64 (k:Int)∧BOwn wr w.heap.size vo (low (nats (l.take k)))∧Below w.heap.size w wr∧(l.take k).all isS=true) (fun _ vi _=>l.length-(intOf vi).toNat)
  case atStart=>exact ⟨0,Nat.zero_le _,rfl,Own.nil _ _ _ _,Below.refl _ _,rfl⟩
  case round =>
   obtain ⟨k,hk,rfl,ho,hb,hall⟩:=hrel
   have HO:=hid ho
   have HB:=hid hb
   have HA:=hid hall
   have HSz:Hid (w.heap.size≤wr.heap.size):=hb.size
   have k0:(0:Int)≤(k:Int):=by omega
   have HLL:Hid ((low (nats (l.take k))).length≤256):=by
    show _≤_
    have h1:=low_le (nats (l.take k))
    have h2:=nats_take_len l k
    have:=HLG.out
    omega
   clear ho hb hall
   by_cases hlt:k < l.length
   ·obtain ⟨b,off,rfl,hck⟩:=HV.out.open HB.out k hlt
    have k1:(k:Int) < (l.length:Int):=by omega
    have HK:=hid hlt
    have HSn:=hid (low_snoc l k hlt)
    have HAs:=hid (all_snoc l k hlt)
    have HAn:=hid (all_not l k hlt)
    generalize l[k]=c at *
    have HSc:=hid (fun w'=>scalar_calls c w')
    by_cases hs:isS c=true
    ·have hc1:=isS_iff.1 hs
     obtain ⟨n,rfl⟩:∃n:Nat,c=(n:Int):=⟨c.toNat,by omega⟩
     rw [Int.toNat_natCast] at HSn
     have HN:Hid ((l.take (k+1)).all isS=true):=by show _=_;rw [HAs.out,HA.out,hs];rfl
     have n0:(0:Int)≤(n:Int):=by omega
     have n1:(n:Int)≤1114111:=by omega
     rw [hs] at HSc
     by_cases hn:n < 128
     ·rw [if_pos hn] at HSn
      have e0:=b8_nat n (by omega)
      generalize b8 n=x at *
      obtain ⟨v',w',hr,ho',hg⟩:=append_run (HO.out.alloc (.cells #[.int .u8 (x.toNat:Int)] 5)) (Row.lit fb wr [x] 5 (0,0) (by simp)) (by have:=HLL.out;simp;omega) (by have:=HSz.out;simp;omega)
      have HO2:=hid ho'
      have HB2:=hid ((HB.out.alloc HSz.out (.cells #[.int .u8 (x.toNat:Int)] 5)).grown hg (by have:=HSz.out;simp;omega) (Own.lt HO.out))
      rw [e0] at hr
      have g1:(n:Int) < 128:=by omega
      clear ho' hg e0 hn hs hc1 HAs HAn hlt hk
      go_wp2_with fail
      refine (HSc.out _).mono ?_
      rintro e w1 ⟨rfl,rfl⟩
      go_wp2_with (at_builtin;go_must (refine wpList_append_run hr rfl _ _ rfl rfl rfl rfl ?_))
      go_roundw
      case rel=>exact ⟨k+1,HK.out,by go_num,by rw [HSn.out];exact HO2.out,HB2.out,HN.out⟩
      case measure=>have:=HK.out;simp [intOf];omega
     ·rw [if_neg hn,List.append_nil] at HSn
      have g1:¬(n:Int) < 128:=by omega
      clear hn hs hc1 HAs HAn hlt hk
      go_wp2_with fail
      refine (HSc.out _).mono ?_
      rintro e w1 ⟨rfl,rfl⟩
      go_wp2_with fail
      go_roundw
      case rel=>exact ⟨k+1,HK.out,by go_num,by rw [HSn.out];exact HO.out,HB.out,HN.out⟩
      case measure=>have:=HK.out;simp [intOf];omega
    ·have hs':isS c=false:=by simpa using hs
     have HX:Hid (R=(strOf [],1)):=by show _=_;rw [HR.out,encR_bad HLG.out (HAn.out hs')]
     rw [hs'] at HSc
     clear hs hs' HAs HAn hlt hk HSn
     go_wp2_with fail
     refine (HSc.out _).mono ?_
     rintro e w1 ⟨rfl,rfl⟩
     go_wp2_with fail
     go_ret2
     exact ⟨by rw [HX.out];rfl,HB.out⟩
   ·have hkl:k=l.length:=by omega
    subst hkl
    rw [List.take_length] at HO HA HLL
    have HX:Hid (R=(strOf (enc (nats l)),0)):=by show _=_;rw [HR.out,encR_ok HLG.out HA.out]
    have HNR:=hid (nats_row HA.out HV.out)
    have HNL:=hid (nats_le HA.out)
    have hnl:(nats l).length=l.length:=by simp [nats]
    have HD:=hid (fun vo xs w' ho hb hx=>deltas_calls w _ (nats l) HNR.out (by have:=HLG.out;omega) (fun c hc=>(HNL.out c hc).2) vo xs w' ho hb hx ((low (nats l)).length) (low_len _))
    have hOW:=HO.out
    rcases hOW.row with ⟨a',cap',hE0,hE1,hE2,hE3⟩
    subst hE0
    unfold maxLen at hE2
    have r0:((low (nats l)).length:Int)≤(cap':Int):=by omega
    have r1:(cap':Int)≤9223372036854775807:=by omega
    have r2:((low (nats l)).length:Int)≤256:=by have:=HLL.out;omega
    have HENC:Hid (enc (nats l)=low (nats l)++(if (low (nats l)).length=0 then [] else [45])++(encD (nats l) (low (nats l)).length (nats l).length 0 72 128 (low (nats l)).length).map letter):=by show _=_;unfold enc;rw [low_len]
    have k2:¬(l.length:Int) < (l.length:Int):=by omega
    clear hOW hE1 hE2 hE3 hk hlt
    generalize low (nats l)=L at *
    by_cases hz:L.length=0
    ·have HE:Hid (enc (nats l)=L++(encD (nats l) L.length (nats l).length 0 72 128 L.length).map letter):=by show _=_;rw [HENC.out,if_pos hz,List.append_nil]
     have g3:¬(0:Int) < (L.length:Int):=by omega
     clear hz HENC hnl
     go_wp2_with fail
     refine (HD.out _ _ _ HO.out HB.out (by have:=HLL.out;omega)).mono ?_
     rintro e w1 ⟨⟨v',rfl,ho1⟩,hb1⟩
     have hs:=run_string ho1.row
     have HB1:=hid hb1
     rw [← HE.out] at hs
     clear ho1 hb1
     go_wp2_with fail
     go_ret2
     exact ⟨by rw [HX.out];rfl,HB1.out⟩
    ·have HE:Hid (enc (nats l)=L++[45]++(encD (nats l) L.length (nats l).length 0 72 128 L.length).map letter):=by show _=_;rw [HENC.out,if_neg hz]
     obtain ⟨v',w',hr,ho',hg⟩:=append_run (HO.out.alloc (.cells #[.int .u8 45] 5)) (Row.lit fb wr [45] 5 (0,0) (by simp)) (by have:=HLL.out;simp;omega) (by have:=HSz.out;simp;omega)
     have HO2:=hid ho'
     have HB2:=hid ((HB.out.alloc HSz.out (.cells #[.int .u8 45] 5)).grown hg (by have:=HSz.out;simp;omega) (Own.lt HO.out))
     have g3:(0:Int) < (L.length:Int):=by omega
     clear hz HENC hnl ho' hg
     go_wp2_with (at_builtin;go_must (refine wpList_append_run hr rfl _ _ rfl rfl rfl rfl ?_))
     refine (HD.out _ _ _ HO2.out HB2.out (by have:=HLL.out;simp;omega)).mono ?_
     rintro e w1 ⟨⟨v',rfl,ho1⟩,hb1⟩
     have hs:=run_string ho1.row
     have HB1:=hid hb1
     rw [← HE.out] at hs
     clear ho1 hb1
     go_wp2_with fail
     go_ret2
     exact ⟨by rw [HX.out];rfl,HB1.out⟩
def EncPost (l:List Int) (w:World) (e:Ending) (w':World):Prop:=(∃v,e=.returned (.tuple #[v,.int .i64 (errE l)])∧BRow w' v (bytesE l))∧Below w.heap.size w w'
theorem EncPost.yes {l:List Int} {w w':World} {v:Value} (h:l.all isS=true) (hv:BRow w' v (encL l)) (hb:Below w.heap.size w w'):EncPost l w (.returned (.tuple #[v,.int .i64 0])) w':=by
 refine ⟨⟨v,?_,?_⟩,hb⟩
 ·unfold errE;rw [if_pos h]
 ·unfold bytesE;rw [if_pos h];exact hv
theorem EncPost.no {l:List Int} {w w':World} (h:l.all isS=false) (hb:Below w.heap.size w w'):EncPost l w (.returned (.tuple #[.slice none 0 0,.int .i64 1])) w':=by
 refine ⟨⟨.slice none 0 0,?_,?_⟩,hb⟩
 ·unfold errE;rw [if_neg (by rw [h];decide)]
 ·unfold bytesE;rw [if_neg (by rw [h];decide)];exact Row.nil _ _
theorem text_sofar (l:List Int) (k:Nat) (hl:l.length≤100000):(encL ((l.take k).map fix)).length≤400000:=by
 have:=encL_len ((l.take k).map fix)
 rw [List.length_map,List.length_take] at this
 omega
theorem fix_yes {c:Int} (h:isS c=true):fix c=c:=by unfold fix;rw [if_pos h]
theorem fix_no {c:Int} (h:isS c=false):fix c=65533:=by unfold fix;rw [if_neg (by rw [h];decide)]
theorem text_calls (v:Value) (l:List Int) (w:World) (hv:IRow w v l) (hl:l.length≤100000) :
 Calls Tryz.prog 104 #[v] w fun e w'=>e=.returned (.string (strOf (textL l)))∧Below w.heap.size w w':=by
 obtain ⟨a,cap,rfl,h1,h2,h3⟩:=hv
 have hmk:=makeB l.length (by omega)
 have H3:=hid h3
 have HL:=hid hl
 clear h3 hl
 unfold maxLen at h2
 go_enter Tryz.func104,Tryz.ntmps104
 go_wp2
 go_loopw [3,11] (fun v i wr=>∃k:Nat,k≤l.length∧i=.int .i64 k∧BOwn wr w.heap.size v (encL ((l.take k).map fix))∧Below w.heap.size w wr) (fun _ i _=>l.length-(intOf i).toNat)
 case atStart=>exact ⟨0,Nat.zero_le _,rfl,Own.made fb 5 w _ _ (size_madeCells _ _) (by have:=HL.out;omega),(Below.refl _ _).alloc (Nat.le_refl _) _⟩
 case round =>
  obtain ⟨k,hk,rfl,ho,hb⟩:=hrel
  clear hmk
  by_cases hlt:k < l.length
  ·obtain ⟨b,off,rfl,hbl,hc⟩:=H3.out (by intro h;simp [h] at hlt)
   have hck:wr.cell? ⟨b,off+k,none⟩=some (.int .i64 l[k]):=(hb.cell (p:=⟨b,off+k,none⟩) hbl).trans (hc k hlt)
   clear hc
   have HN:=hid (text_snoc l k hlt)
   have HS:=hid hb.size
   have HE:=hid (text_sofar l k HL.out)
   have HO:=hid ho
   have HB:=hid hb
   clear ho hb
   generalize l[k]=c at *
   have k1:(k:Int) < (l.length:Int):=by omega
   go_wp2_with fail
   refine (scalar_calls _ _).mono ?_
   rintro e w1 ⟨rfl,rfl⟩
   cases hs:isS c with
   | false =>
     rw [fix_no hs] at HN
     have HC:=hid (appendSign_calls _ _ 65533 w1 _ HO.out HS.out (by have:=HE.out;omega) (by decide))
     clear hs
     go_wp2_with fail
     refine HC.out.mono ?_
     rintro e w2 ⟨⟨v2,rfl,ho2⟩,hb2⟩
     have HO2:=hid ho2
     have HB2:=hid (HB.out.trans hb2)
     clear ho2 hb2 HO HB hck
     go_wp2_with fail
     go_roundw
     case rel=>exact ⟨k+1,by omega,by go_num,by rw [HN.out];exact HO2.out,HB2.out⟩
     case measure=>simp [intOf];omega
   | true =>
     rw [fix_yes hs] at HN
     have hc:=isS_iff.1 hs
     obtain ⟨n,rfl⟩:=Int.eq_ofNat_of_zero_le hc.1
     have HC:=hid (appendSign_calls _ _ n w1 _ HO.out HS.out (by have:=HE.out;omega) (by omega))
     clear hs hc
     go_wp2_with fail
     refine HC.out.mono ?_
     rintro e w2 ⟨⟨v2,rfl,ho2⟩,hb2⟩
     have HO2:=hid ho2
     have HB2:=hid (HB.out.trans hb2)
     clear ho2 hb2 HO HB hck
     go_wp2_with fail
     go_roundw
     case rel=>exact ⟨k+1,by omega,by go_num,by rw [HN.out];exact HO2.out,HB2.out⟩
     case measure=>simp [intOf];omega
  ·have hr:=run_string (by have:=ho.row;rwa [List.take_of_length_le (by omega)] at this:BRow wr _ (textL l))
   have HB:=hid hb
   clear ho hb
   go_wp2
   go_ret
   exact ⟨rfl,HB.out⟩
def NumAt (F:List UInt8) (bias:Nat) (ys:List UInt8) (q k f:Nat):Prop:=F=ys++(numF f k bias q).map letter∧q < 2^f∧q≤3000000000∧k+36 * f≤2340∧ys.length+f≤500064
theorem NumAt.start (xs:List UInt8) (bias n:Nat) (hn:n≤3000000000) (hl:xs.length≤500000):NumAt (xs++(num bias n).map letter) bias xs n 36 64 :=
 ⟨rfl,Nat.lt_of_le_of_lt hn (by decide),hn,by decide,by omega⟩
theorem NumAt.last {F:List UInt8} {bias:Nat} {ys:List UInt8} {q k f:Nat} (h:NumAt F bias ys q k f) (hlt:q < thr k bias):F=ys++[letter q]:=by
 have t2:=thr_le k bias
 rw [h.1]
 cases f with
 | zero=>show _++List.map letter [q%36]=_;rw [Nat.mod_eq_of_lt (by omega)];rfl
 | succ g=>show _++List.map letter (if q < thr k bias then _ else _)=_;rw [if_pos hlt];rfl
theorem NumAt.next {F:List UInt8} {bias:Nat} {ys:List UInt8} {q k f:Nat} (h:NumAt F bias ys q k f) (hlt:¬q < thr k bias):∃g,NumAt F bias (ys++[letter (thr k bias+(q-thr k bias)%(36-thr k bias))]) ((q-thr k bias)/(36-thr k bias)) (k+36) g∧(q-thr k bias)/(36-thr k bias) < q:=by
 have t1:=thr_ge k bias
 have t2:=thr_le k bias
 obtain ⟨hq,hf,hqm,hkf,hyl⟩:=h
 obtain ⟨g,rfl⟩:∃g,f=g+1:=by
  cases f with
  | zero=>simp at hf;omega
  | succ g=>exact ⟨g,rfl⟩
 have hdv:=Nat.div_le_self (q-thr k bias) (36-thr k bias)
 refine ⟨g,⟨?_,num_less hf t1 t2,by omega,by omega,by simp;omega⟩,by omega⟩
 rw [hq]
 show _++List.map letter (if q < thr k bias then _ else _)=_
 rw [if_neg hlt];simp
theorem hexV_lt {n d:Nat} (h:hexV n=some d):d < 16:=by
 unfold hexV at h
 split at h
 ·simp at h;omega
 ·split at h
  ·simp at h;omega
  ·split at h
   ·simp at h;omega
   ·cases h
theorem digit_yes (n d:Nat) (w:World) (hn:n < 256) (h:hexV n=some d):Calls Tryz.prog 111 #[.int .u8 (n:Int)] w fun e w'=>e=.returned (.tuple #[.int .u8 (d:Int),.bool true])∧w'=w:=by
 unfold hexV at h
 by_cases h1:48≤n∧n≤57
 ·rw [if_pos h1] at h
  obtain ⟨g1,g2⟩:=h1
  have hd:(n:Int)-48=(d:Int):=by simp at h;omega
  clear h
  go_enter Tryz.func111,Tryz.ntmps111
  go_wp2
  go_ret2
  exact ⟨rfl,rfl⟩
 ·rw [if_neg h1] at h
  by_cases h2:97≤n∧n≤102
  ·rw [if_pos h2] at h
   obtain ⟨g1,g2⟩:=h2
   have hd:(n:Int)-97+10=(d:Int):=by simp at h;omega
   have g3:¬(n:Int)≤57:=by omega
   have g4:¬(n:Int)≤70:=by omega
   clear h h1
   go_enter Tryz.func111,Tryz.ntmps111
   go_wp2
   go_ret2
   exact ⟨rfl,rfl⟩
  ·rw [if_neg h2] at h
   by_cases h3:65≤n∧n≤70
   ·rw [if_pos h3] at h
    obtain ⟨g1,g2⟩:=h3
    have hd:(n:Int)-65+10=(d:Int):=by simp at h;omega
    have g3:¬(n:Int)≤57:=by omega
    clear h h1 h2
    go_enter Tryz.func111,Tryz.ntmps111
    go_wp2
    go_ret2
    exact ⟨rfl,rfl⟩
   ·rw [if_neg h3] at h
    cases h
theorem digit_no (n:Nat) (w:World) (hn:n < 256) (h:hexV n=none):Calls Tryz.prog 111 #[.int .u8 (n:Int)] w fun e w'=>e=.returned (.tuple #[.int .u8 0,.bool false])∧w'=w:=by
 unfold hexV at h
 by_cases h1:48≤n∧n≤57
 ·rw [if_pos h1] at h;cases h
 ·rw [if_neg h1] at h
  by_cases h2:97≤n∧n≤102
  ·rw [if_pos h2] at h;cases h
  ·rw [if_neg h2] at h
   by_cases h3:65≤n∧n≤70
   ·rw [if_pos h3] at h;cases h
   ·clear h
    have hc:n < 48∨(57 < n∧n < 65)∨(70 < n∧n < 97)∨102 < n:=by omega
    clear h1 h2 h3
    rcases hc with g | ⟨g1,g2⟩ | ⟨g1,g2⟩ | g
    all_goals
     go_enter Tryz.func111,Tryz.ntmps111
     go_wp2
     go_ret2
     exact ⟨rfl,rfl⟩
theorem u8pack (h l:Nat) (hh:h < 16) (hl:l < 16):bits .or .u8 ((h:Int) * 16) (l:Int)=((UInt8.ofNat (h * 16+l)).toNat:Int):=by
 have e:(UInt8.ofNat (h * 16+l)).toNat=h * 16+l:=by simp;omega
 have:=Nat.two_pow_add_eq_or_of_lt (i:=4) (show l < 2^4 by omega) h
 rw [e,show h * 16+l=h * 16 ||| l by rw [Nat.mul_comm h 16];exact this]
 exact u8_or_nat (h * 16) l (by omega) (by omega)
def nextR:List UInt8→UInt8×Nat
 | []=>(0,0)
 | c::r=>if c=37 then (match r with
    | a::b::_=>(match two a b with
      | some x=>(x,3)
      | none=>(c,1))
    | _=>(c,1)) else (c,1)
theorem nextR_plain {c:UInt8} {r:List UInt8} (h:c≠37):nextR (c::r)=(c,1):=if_neg h
theorem nextR_some {a b:UInt8} {r:List UInt8} {x:UInt8} (h:two a b=some x):nextR (37::a::b::r)=(x,3):=by
 show (if (37:UInt8)=37 then (match two a b with
  | some x=>(x,3)
  | none=>((37:UInt8),1)) else (37,1))=_
 rw [if_pos rfl,h]
theorem nextR_none {a b:UInt8} {r:List UInt8} (h:two a b=none):nextR (37::a::b::r)=(37,1):=by
 show (if (37:UInt8)=37 then (match two a b with
  | some x=>(x,3)
  | none=>((37:UInt8),1)) else (37,1))=_
 rw [if_pos rfl,h]
theorem two_some {a b:UInt8} {x y:Nat} (h:hexV a.toNat=some x) (k:hexV b.toNat=some y):two a b=some (UInt8.ofNat (x * 16+y)):=by unfold two;rw [h,k]
theorem two_noneL {a b:UInt8} (h:hexV a.toNat=none):two a b=none:=by unfold two;rw [h]
theorem two_noneR {a b:UInt8} (h:hexV b.toNat=none):two a b=none:=by
 unfold two
 rw [h]
 cases hexV a.toNat<;>rfl
theorem unR_next {l:List UInt8} (h:l≠[]):unR l=(nextR l).1::unR (l.drop (nextR l).2):=by
 match l,h with
 | c::r,_ =>
   by_cases hc:c=37
   ·subst hc
    match r with
    | []=>rfl
    | [a]=>rfl
    | a::b::r' =>
      cases ht:two a b with
      | some x=>rw [unR_two ht,nextR_some ht];rfl
      | none=>rw [unR_not ht,nextR_none ht];rfl
   ·rw [unR_plain hc,nextR_plain hc]
    rfl
theorem nextR_size {l:List UInt8} (h:l≠[]):1≤(nextR l).2∧(nextR l).2≤l.length:=by
 match l,h with
 | c::r,_ =>
   by_cases hc:c=37
   ·subst hc
    match r with
    | []=>exact ⟨Nat.le_refl _,Nat.le_refl _⟩
    | [a]=>exact ⟨Nat.le_refl _,by show 1≤2;decide⟩
    | a::b::r' =>
      cases ht:two a b with
      | some x=>rw [nextR_some ht];simp
      | none=>rw [nextR_none ht];simp
   ·rw [nextR_plain hc]
    simp
theorem bytes_num (s:ByteArray):s.data.toList.length=s.size:=by
 show s.data.toList.length=s.data.size
 rw [Array.length_toList]
theorem bytes_at (s:ByteArray) (k:Nat) (h:k < s.size):s.data.toList[k]? = some s[k]:=by
 rw [List.getElem?_eq_getElem (by rw [bytes_num];exact h)];rfl
theorem bytes_three (s:ByteArray) (h:3≤s.size):∃r,s.data.toList=s[0]::s[1]::s[2]::r:=by
 have h0:=bytes_at s 0 (by omega)
 have h1:=bytes_at s 1 (by omega)
 have h2:=bytes_at s 2 (by omega)
 revert h0 h1 h2
 generalize s[0]=a
 generalize s[1]=b
 generalize s[2]=c
 generalize s.data.toList=l
 intro h0 h1 h2
 match l,h0,h1,h2 with
 | x::y::z::r,h0,h1,h2 =>
   simp at h0 h1 h2
   subst h0 h1 h2
   exact ⟨r,rfl⟩
 | [x,y],_,_,h2=>simp at h2
 | [x],_,h1,_=>simp at h1
 | [],h0,_,_=>simp at h0
theorem bytes_one (s:ByteArray) (h:0 < s.size):∃r,s.data.toList=s[0]::r∧r.length+1=s.size:=by
 have h0:=bytes_at s 0 h
 have hl:=bytes_num s
 revert h0 hl
 generalize s[0]=a
 generalize s.data.toList=l
 intro h0 hl
 match l,h0,hl with
 | x::r,h0,hl =>
   simp at h0
   subst h0
   exact ⟨r,rfl,by rw [← hl];rfl⟩
 | [],h0,_=>simp at h0
theorem u8_eq {a b:UInt8} (h:a.toNat=b.toNat):a=b:=UInt8.toNat_inj.1 h
theorem next_callsPc (s:ByteArray) (w:World) (hs:0 < s.size) (hm:s.size≤100000) :
 Calls Tryz.prog 71 #[.string s] w fun e w'=>e=.returned (.tuple #[.int .u8 ((nextR s.data.toList).1.toNat:Int),.int .i64 ((nextR s.data.toList).2:Int)])∧w'=w:=by
 obtain ⟨r,hr,hrl⟩:=bytes_one s hs
 obtain ⟨z,hz⟩:∃z,s[0].toNat=z:=⟨_,rfl⟩
 have z9:(z:Int) < 256:=by have:=byte_lt s[0];omega
 have z0:(0:Int)≤(z:Int):=by omega
 have p0:(0:Int) < (s.size:Int):=by omega
 by_cases h37:z=37
 ·have HC:Hid (s[0]=37):=u8_eq (by rw [hz,h37];rfl)
  by_cases h3:3≤s.size
  ·obtain ⟨r',hr'⟩:=bytes_three s h3
   have pk1:1 < s.size:=by omega
   have pk2:2 < s.size:=by omega
   obtain ⟨x,hx⟩:∃x,(s[1]'pk1).toNat=x:=⟨_,rfl⟩
   obtain ⟨y,hy⟩:∃y,(s[2]'pk2).toNat=y:=⟨_,rfl⟩
   rw [HC.out] at hr'
   have HN:Hid (s.data.toList=(37:UInt8)::s[1]'pk1::s[2]'pk2::r'):=hr'
   clear hr hrl hr' h3
   have x9:x < 256:=by have:=byte_lt s[1];omega
   have y9:y < 256:=by have:=byte_lt s[2];omega
   have T1:Hid (hexV x=none→two s[1] s[2]=none):=fun h=>two_noneL (by rw [hx];exact h)
   have T2:Hid (hexV y=none→two s[1] s[2]=none):=fun h=>two_noneR (by rw [hy];exact h)
   have T3:Hid (∀d1 d2,hexV x=some d1→hexV y=some d2→two s[1] s[2]=some (UInt8.ofNat (d1 * 16+d2))):=fun d1 d2 h k=>two_some (by rw [hx];exact h) (by rw [hy];exact k)
   have p3:¬(s.size:Int) < 3:=by omega
   have p1:(1:Int) < (s.size:Int):=by omega
   have p2:(2:Int) < (s.size:Int):=by omega
   subst h37
   clear z9 z0 HC
   have DY1:=hid (fun d (h:hexV x=some d) (w:World)=>digit_yes x d w x9 h)
   have DN1:=hid (fun (h:hexV x=none) (w:World)=>digit_no x w x9 h)
   have DY2:=hid (fun d (h:hexV y=some d) (w:World)=>digit_yes y d w y9 h)
   have DN2:=hid (fun (h:hexV y=none) (w:World)=>digit_no y w y9 h)
   clear x9 y9
   cases hvx:hexV x with
   | none =>
     have HX:Hid (nextR s.data.toList=(37,1)):=by
      show _=_
      rw [HN.out];exact nextR_none (T1.out hvx)
     have E1:=hid (DN1.out hvx)
     clear HN T1 T2 T3 DY1 DN1 hvx
     cases hvy:hexV y with
     | none =>
       have E2:=hid (DN2.out hvy)
       clear DY2 DN2 hvy
       go_enter Tryz.func71,Tryz.ntmps71
       go_wp2_with fail
       refine (E1.out _).mono ?_
       rintro e wz ⟨rfl,rfl⟩
       go_wp2_with fail
       refine (E2.out _).mono ?_
       rintro e wz ⟨rfl,rfl⟩
       go_wp2_with fail
       go_ret2
       exact ⟨by rw [HX.out];rfl,rfl⟩
     | some d2 =>
       have E2:=hid (DY2.out d2 hvy)
       clear DY2 DN2 hvy
       go_enter Tryz.func71,Tryz.ntmps71
       go_wp2_with fail
       refine (E1.out _).mono ?_
       rintro e wz ⟨rfl,rfl⟩
       go_wp2_with fail
       refine (E2.out _).mono ?_
       rintro e wz ⟨rfl,rfl⟩
       go_wp2_with fail
       go_ret2
       exact ⟨by rw [HX.out];rfl,rfl⟩
   | some d1 =>
     have E1:=hid (DY1.out d1 hvx)
     have hd1:=hexV_lt hvx
     clear DY1 DN1
     cases hvy:hexV y with
     | none =>
       have HX:Hid (nextR s.data.toList=(37,1)):=by
        show _=_
        rw [HN.out];exact nextR_none (T2.out hvy)
       have E2:=hid (DN2.out hvy)
       clear HN T1 T2 T3 DY2 DN2 hvy hvx
       go_enter Tryz.func71,Tryz.ntmps71
       go_wp2_with fail
       refine (E1.out _).mono ?_
       rintro e wz ⟨rfl,rfl⟩
       go_wp2_with fail
       refine (E2.out _).mono ?_
       rintro e wz ⟨rfl,rfl⟩
       go_wp2_with fail
       go_ret2
       exact ⟨by rw [HX.out];rfl,rfl⟩
     | some d2 =>
       have HX:Hid (nextR s.data.toList=(UInt8.ofNat (d1 * 16+d2),3)):=by
        show _=_
        rw [HN.out];exact nextR_some (T3.out d1 d2 hvx hvy)
       have E2:=hid (DY2.out d2 hvy)
       have hd2:=hexV_lt hvy
       have pk:=u8pack d1 d2 hd1 hd2
       clear HN T1 T2 T3 DY2 DN2 hvy hvx
       generalize UInt8.ofNat (d1 * 16+d2)=c at *
       go_enter Tryz.func71,Tryz.ntmps71
       go_wp2_with fail
       refine (E1.out _).mono ?_
       rintro e wz ⟨rfl,rfl⟩
       go_wp2_with fail
       refine (E2.out _).mono ?_
       rintro e wz ⟨rfl,rfl⟩
       go_wp2_with fail
       go_ret2
       exact ⟨by rw [HX.out];rfl,rfl⟩
  ·have HX:Hid (nextR s.data.toList=(37,1)):=by
    show _=_
    rw [hr,HC.out]
    match r,hrl with
    | [],_=>rfl
    | [a],_=>rfl
    | a::b::r',h=>exfalso;simp at h;omega
   have p3:(s.size:Int) < 3:=by omega
   subst h37
   clear hr hrl h3 z9 z0 HC
   go_enter Tryz.func71,Tryz.ntmps71
   go_wp2_with fail
   go_ret2
   exact ⟨by rw [HX.out];rfl,rfl⟩
 ·have HX:Hid (nextR s.data.toList=(s[0],1)):=by
   show _=_
   rw [hr,nextR_plain]
   intro e
   exact h37 (by rw [← hz,e];rfl)
  have q1:((z:Int) != 37)=true:=by rw [bne_iff_ne];omega
  have HZ:=hid hz
  clear hr hrl h37
  go_enter Tryz.func71,Tryz.ntmps71
  go_wp2_with fail
  go_ret2
  exact ⟨by rw [HX.out,HZ.out];rfl,rfl⟩
abbrev fsIp (l:List UInt8):Value:=.string (strOf l)
abbrev SRowIp (w:World) (v:Value) (ps:List (List UInt8)):Prop:=Row fsIp w v ps
theorem str_data (L:List UInt8):(strOf L).data.toList=L:=rfl
theorem str_size (L:List UInt8):(strOf L).size=L.length:=rfl
theorem of_data (s:ByteArray):s=strOf s.data.toList:=rfl
theorem cut_mid (s:ByteArray) (a b:Nat) (h:b≤s.size):s.extract a b=strOf ((s.data.toList.drop a).take (b-a)):=by
 apply ByteArray.ext
 rw [ByteArray.data_extract]
 apply Array.toList_inj.1
 rw [Array.toList_extract,List.extract_eq_take_drop]
 rfl
theorem digB_some {b d:Nat} {c:UInt8} (h:hexV c.toNat=some d):digB b c=decide (d < b):=by unfold digB;rw [h]
theorem digB_none {b:Nat} {c:UInt8} (h:hexV c.toNat=none):digB b c=false:=by unfold digB;rw [h]
theorem digs_hit {s:ByteArray} {b k:Nat} (h:k < s.size) (ha:digsR b (s.data.toList.take k)=true) (hb:digB b s[k]=true):digsR b (s.data.toList.take (k+1))=true:=by
 have hl:k < s.data.toList.length:=by rw [bytes_num];exact h
 unfold digsR at ha ⊢
 rw [List.take_succ_eq_append_getElem hl,List.all_append,ha]
 simp only [List.all_cons,List.all_nil,Bool.and_true,Bool.true_and]
 exact hb
theorem digs_miss {s:ByteArray} {b k:Nat} (h:k < s.size) (hb:digB b s[k]=false):digsR b s.data.toList=false:=by
 unfold digsR
 rw [List.all_eq_false]
 refine ⟨s[k],?_,by rw [hb];decide⟩
 have hl:k < s.data.toList.length:=by rw [bytes_num];exact h
 exact List.getElem_mem (l:=s.data.toList) (n:=k) hl
theorem digs_end {s:ByteArray} {b k:Nat} (h:¬k < s.size) (ha:digsR b (s.data.toList.take k)=true):digsR b s.data.toList=true:=by
 rw [List.take_of_length_le (by rw [bytes_num];omega)] at ha
 exact ha
theorem hexR_short {s:ByteArray} (h:¬2≤s.size):hexR s.data.toList=false:=by
 have hl:=bytes_num s
 revert hl
 generalize s.data.toList=l
 intro hl
 match l,hl with
 | [],_=>rfl
 | [a],_=>rfl
 | a::b::r,hl=>exfalso;simp at hl;omega
def wordsN:List (List Nat):=[[0,0,0,0],[4294967295,9223372036854775808,18446744073709551615,18446744073709551615],[5764607548804038655,9223372041149743104,18446744073709551615,18446744073709551615],[5764607583163777023,9223372036854775808,18446744073709551615,18446744073709551615],[5764608132919590911,9223372036854775808,18446744073709551615,18446744073709551615],[14987979620018552831,12105675803740602368,18446744073709551615,18446744073709551615],[18158654495175737343,13258597309286973441,18446744073709551615,18446744073709551615],[18158681364491141119,13258597309286973441,18446744073709551615,18446744073709551615],[18158685221371772927,17870283327714361345,18446744073709551615,18446744073709551615]]
def wordN (s q:Nat):Nat:=(wordsN.getD s []).getD q 0
theorem word_lt_all:(List.range 9).all (fun s=>(List.range 4).all fun q=>decide (wordN s q < 18446744073709551616))=true:=by decide +kernel
theorem word_lt {s q:Nat} (hs:s < 9) (hq:q < 4):wordN s q < 18446744073709551616:=by
 have h1:=List.all_eq_true.1 word_lt_all s (List.mem_range.2 hs)
 have h2:=List.all_eq_true.1 h1 q (List.mem_range.2 hq)
 simpa using h2
theorem word_bit_all:(List.range 9).all (fun s=>s==0||(List.range 256).all fun n=>(wordN s (n/64)/2^(n%64)%2==1)==inR (s:Int) n)=true:=by decide +kernel
theorem word_bit {s n:Nat} (hs:s < 9) (h1:1≤s) (hn:n < 256):(wordN s (n/64)/2^(n%64)%2==1)=inR (s:Int) n:=by
 have h:=List.all_eq_true.1 word_bit_all s (List.mem_range.2 hs)
 have hz:(s==0)=false:=by rw [beq_eq_false_iff_ne];omega
 rw [hz,Bool.false_or] at h
 have h2:=List.all_eq_true.1 h n (List.mem_range.2 hn)
 exact eq_of_beq h2
def TabPc (w:World):Prop:=∀s q,s < 9→q < 4→w.cell? ⟨0,s * 4+q,none⟩=some (.int .u64 (wordN s q:Nat))
theorem TabPc.pos {w:World} (h:TabPc w):0 < w.heap.size:=World.block_lt_of_cell? w _ (h 0 0 (by decide) (by decide))
theorem TabPc.below {w w':World} (h:TabPc w) (hb:Below w.heap.size w w'):TabPc w':=fun s q hs hq=>(hb.cell (p:=⟨0,s * 4+q,none⟩) h.pos).trans (h s q hs hq)
theorem TabPc.drew {w:World} (h:TabPc w):TabPc w.drew:=h
theorem TabPc.alloc {w:World} (h:TabPc w) (o:Obj):TabPc (w.alloc o):=h.below ((Below.refl _ _).alloc (Nat.le_refl _) _)
theorem u8m64 (n:Nat) (hn:n < 256):bits .and .u8 (n:Int) 63=((n%64:Nat):Int):=by
 rw [show (63:Int)=((63:Nat):Int) from rfl,u8_and_nat n 63 hn (by decide),Nat.and_two_pow_sub_one_eq_mod n 6]
theorem u64m1 (x:Nat) (hx:x < 18446744073709551616):bits .and .u64 (x:Int) 1=((x%2:Nat):Int):=by
 rw [show (1:Int)=((1:Nat):Int) from rfl,u64_and_nat x 1 hx (by decide),Nat.and_one_is_mod]
theorem nat_eq_one (y:Nat):((y:Int)==1)=(y==1):=by
 by_cases h:y=1
 ·subst h;rfl
 ·rw [beq_eq_false_iff_ne.2 h,beq_eq_false_iff_ne.2 (by omega)]
theorem in_other (set:Int) (n:Nat) (hn:n < 256) (w:World) (h:set < 1∨8 < set) :
 Calls Tryz.prog 79 #[.int .i64 set,.int .u8 (n:Int)] w fun e w'=>e=.returned (.bool (inR set n))∧w'=w:=by
 rw [inR_other h]
 rcases h with h | h
 ·go_enter Tryz.func79,Tryz.ntmps79
  go_wp2
  go_ret
  exact ⟨rfl,rfl⟩
 ·have h1:¬set < 1:=by omega
  go_enter Tryz.func79,Tryz.ntmps79
  go_wp2
  go_ret
  exact ⟨rfl,rfl⟩
theorem in_some (s n:Nat) (hs1:1≤s) (hs:s < 9) (hn:n < 256) (w:World) (ht:TabPc w) :
 Calls Tryz.prog 79 #[.int .i64 (s:Int),.int .u8 (n:Int)] w fun e w'=>e=.returned (.bool (inR (s:Int) n))∧w'=w:=by
 have HR:=hid (word_bit hs hs1 hn)
 obtain ⟨q,hq⟩:∃q,q=n/64:=⟨_,rfl⟩
 obtain ⟨m,hm⟩:∃m,m=n%64:=⟨_,rfl⟩
 rw [← hq,← hm] at HR
 have e1:(n:Int)/64=(q:Int):=by omega
 have e2:bits .and .u8 (n:Int) 63=(m:Int):=by rw [u8m64 n hn,hm]
 have q4:q < 4:=by omega
 have m64:m < 64:=by omega
 have ht':=ht s q hs q4
 have hw:=word_lt hs q4
 generalize wordN s q=t at *
 obtain ⟨x,hx⟩:∃x,x=t/2^m:=⟨_,rfl⟩
 have hxl:x < 18446744073709551616:=by rw [hx];exact Nat.lt_of_le_of_lt (Nat.div_le_self _ _) hw
 rw [← hx] at HR
 have e3:(t:Int)/2^m=(x:Int):=by rw [hx];simp
 have e4:=u64m1 x hxl
 obtain ⟨y,hy⟩:∃y,y=x%2:=⟨_,rfl⟩
 rw [← hy] at HR e4
 have g1:¬(s:Int) < 1:=by omega
 have g2:¬(8:Int) < (s:Int):=by omega
 have g3:(0:Int)≤(s:Int):=by omega
 have g4:(s:Int) < 9:=by omega
 have g5:(0:Int)≤(q:Int):=by omega
 have g6:(q:Int) < 4:=by omega
 have g7:(m:Int) < 64:=by omega
 have g8:(0:Int)≤(m:Int):=by omega
 clear hs1 hs hn q4 m64 ht hw hx hxl hy hq hm
 go_enter Tryz.func79,Tryz.ntmps79
 go_wp2
 go_ret
 exact ⟨by rw [← HR.out,← nat_eq_one y];rfl,rfl⟩
theorem in_calls (set:Int) (n:Nat) (hn:n < 256) (w:World) (ht:TabPc w) :
 Calls Tryz.prog 79 #[.int .i64 set,.int .u8 (n:Int)] w fun e w'=>e=.returned (.bool (inR set n))∧w'=w:=by
 by_cases h:set < 1∨8 < set
 ·exact in_other set n hn w h
 ·obtain ⟨s,rfl⟩:=Int.eq_ofNat_of_zero_le (a:=set) (by omega)
  exact in_some s n (by omega) (by omega) hn w ht
end Go.Proofs.YtpohekldddbneaaGreatDoor
