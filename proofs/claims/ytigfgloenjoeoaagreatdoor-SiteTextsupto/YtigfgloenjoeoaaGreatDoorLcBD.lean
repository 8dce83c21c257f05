import Derived.Test.YtigfgloenjoeoaaGreatDoorLcAZ
import Derived.Shelf.Strings.OnBuilder
set_option linter.unusedVariables false
set_option linter.unusedSimpArgs false
set_option maxRecDepth 20000
set_option maxHeartbeats 16000000
namespace Go.Proofs.YtigfgloenjoeoaaGreatDoor
open Go.RowKit Go.Shelf
def joinRen:Ren:=⟨fun | 156=>109 | 165=>156 | 166=>157 | 169=>158 | 240=>182 | 241=>183 | 276=>200 | 277=>201 | n=>n,fun | 0=>0 | 3=>3 | 4=>4 | 5=>5 | 9=>9 | 20=>20 | 31=>27 | 37=>73 | 70=>165 | 72=>167 | 75=>170 | 76=>171 | 80=>173 | 127=>77 | 164=>211 | n=>n,fun n=>n⟩
theorem joinLays:Lays.n156 Tryz.prog joinRen :=
 {mixed:=by kernel_rfl
  f156:=Tryz.func109.trans (congrArg some (by kernel_rfl))
  f165:=Tryz.func156.trans (congrArg some (by kernel_rfl))
  f166:=Tryz.func157.trans (congrArg some (by kernel_rfl))
  f169:=Tryz.func158.trans (congrArg some (by kernel_rfl))
  f240:=Tryz.func182.trans (congrArg some (by kernel_rfl))
  f241:=Tryz.func183.trans (congrArg some (by kernel_rfl))
  f276:=Tryz.func200.trans (congrArg some (by kernel_rfl))
  f277:=Tryz.func201.trans (congrArg some (by kernel_rfl))
  t0:=Tryz.underlying0
  a0:=Tryz.isAgg0
  z0:=Tryz.sizeOf0
  v0:=Tryz.zeroValue0
  t3:=Tryz.underlying3
  a3:=Tryz.isAgg3
  z3:=Tryz.sizeOf3
  v3:=Tryz.zeroValue3
  t4:=Tryz.underlying4
  a4:=Tryz.isAgg4
  z4:=Tryz.sizeOf4
  v4:=Tryz.zeroValue4
  t9:=Tryz.underlying9
  a9:=Tryz.isAgg9
  z9:=Tryz.sizeOf9
  v9:=Tryz.zeroValue9
  t20:=Tryz.underlying20
  a20:=Tryz.isAgg20
  z20:=Tryz.sizeOf20
  v20:=Tryz.zeroValue20
  t31:=Tryz.underlying27
  a31:=Tryz.isAgg27
  z31:=Tryz.sizeOf27
  v31:=Tryz.zeroValue27
  t37:=Tryz.underlying73
  a37:=Tryz.isAgg73
  z37:=Tryz.sizeOf73
  v37:=Tryz.zeroValue73
  t70:=Tryz.underlying165
  a70:=Tryz.isAgg165
  z70:=Tryz.sizeOf165
  v70:=Tryz.zeroValue165
  t72:=Tryz.underlying167
  a72:=Tryz.isAgg167
  z72:=Tryz.sizeOf167
  v72:=Tryz.zeroValue167
  t75:=Tryz.underlying170
  a75:=Tryz.isAgg170
  z75:=Tryz.sizeOf170
  v75:=Tryz.zeroValue170
  t76:=Tryz.underlying171
  a76:=Tryz.isAgg171
  z76:=Tryz.sizeOf171
  v76:=Tryz.zeroValue171
  t127:=Tryz.underlying77
  a127:=Tryz.isAgg77
  z127:=Tryz.sizeOf77
  v127:=Tryz.zeroValue77
  t164:=Tryz.underlying211
  a164:=Tryz.isAgg211
  z164:=Tryz.sizeOf211
  v164:=Tryz.zeroValue211 }
theorem joinExtra:Builder.Extra Tryz.prog joinRen :=
 {sizeBuilder:=by kernel_rfl
  liesBuilder:=by kernel_rfl
  t5:=Tryz.underlying5
  a5:=Tryz.isAgg5
  z5:=Tryz.sizeOf5
  v5:=Tryz.zeroValue5
  infoByte:=by kernel_rfl
  cellsByte:=by kernel_rfl
  sizeByte:=by kernel_rfl
  neB5:=by decide }
theorem lib_tail:∀(bs:List (List UInt8)),Lib.joinTail [46] bs=joinL false bs
 | []=>rfl
 | c::bs=>by
   rw [joinL_cons,← lib_tail bs]
   simp [Lib.joinTail,dotB]
theorem lib_join (bs:List (List UInt8)) (b:List UInt8):Lib.join (b::bs) [46]=b++joinL false bs:=by rw [Lib.join_cons,lib_tail]
theorem join_calls (v:Value) (xs:List ByteArray) (w:World) (hv:SRow w v xs) (hn:xs≠[]) (hl:xs.length≤100000) (hsz:(joinL true (xs.map bytesOf)).length≤140737488355328) :
 Calls Tryz.prog 109 #[v,.string ⟨#[46]⟩] w fun e w'=>e=.returned (.string (strOf (joinL true (xs.map bytesOf))))∧Below w.heap.size w w':=by
 obtain ⟨a,cap,rfl,h1,h2,h3⟩:=hv
 obtain ⟨b,off,rfl,hlt,hc⟩:=h3 hn
 have hj:Lib.join (xs.map (·.data.toList)) [46]=joinL true (xs.map bytesOf):=by
  cases xs with
  | nil=>exact absurd rfl hn
  | cons x xs =>
    rw [List.map_cons,lib_join]
    show _=dotB true++bytesOf x++joinL false (xs.map bytesOf)
    simp [dotB,bytesOf]
    rfl
 have h:=Any.strings_Join joinLays joinExtra b off cap xs ⟨#[46]⟩ w (fun j x hx=>by
  have hj:j < xs.length:=by
   rcases Nat.lt_or_ge j xs.length with h | h
   ·exact h
   ·rw [List.getElem?_eq_none h] at hx;cases hx
  rw [List.getElem?_eq_getElem hj] at hx
  injection hx with hx
  rw [hc j hj,hx]) hlt (by omega) h1 (by
   show (Lib.join (xs.map (·.data.toList)) [46]).length≤_
   rw [hj];exact hsz)
 refine h.mono ?_
 rintro e w' ⟨rfl,hb⟩
 refine ⟨?_,hb⟩
 show Ending.returned (.string ⟨(Lib.join (xs.map (·.data.toList)) [46]).toArray⟩)=_
 rw [hj]
 rfl
end Go.Proofs.YtigfgloenjoeoaaGreatDoor
namespace Go.Proofs.YtigfgloenjoeoaaGreatDoor
open Go.RowKit
theorem goI_count:∀(r cur:List Int),(goI cur r).length≤r.length+1
 | [],cur=>by simp [goI]
 | c::r,cur=>by
   unfold goI
   split
   ·rw [List.length_cons,List.length_cons];have:=goI_count r [];omega
   ·rw [List.length_cons];have:=goI_count r (cur++[c]);omega
theorem goI_ne:∀(r cur:List Int),goI cur r≠[]
 | [],cur=>by simp [goI]
 | c::r,cur=>by
   unfold goI
   split
   ·simp
   ·exact goI_ne r _
theorem goI_short:∀(r cur p:List Int),p∈goI cur r→p.length≤cur.length+r.length
 | [],cur,p,h=>by
   simp [goI] at h
   subst h
   simp
 | c::r,cur,p,h=>by
   unfold goI at h
   split at h
   ·rcases List.mem_cons.1 h with rfl | h
    ·simp
    ·have:=goI_short r [] p h
     simp at this ⊢
     omega
   ·have:=goI_short r (cur++[c]) p h
    simp at this ⊢
    omega
theorem joinA_err:∀(ps:List (List Int)) (acc:List UInt8) (first:Bool) (k:Nat) (hk:k < ps.length),(∀p∈ps.take k,(labR p).2=0)→(labR ps[k]).2≠0→joinA acc first ps=(strOf [],(labR ps[k]).2)
 | p::ps,acc,first,0,hk,_,he=>by
   have he':¬(labR p).2=0:=he
   show (if (labR p).2=0 then _ else _)=(strOf [],(labR p).2)
   rw [if_neg he']
 | p::ps,acc,first,k+1,hk,hall,he=>by
   show (if (labR p).2=0 then joinA _ false ps else _)=_
   rw [if_pos (hall p (by simp))]
   exact joinA_err ps _ false k (by simpa using hk) (fun q hq=>hall q (by simp;exact .inr hq)) (by simpa using he)
theorem joinL_most:∀(bs:List (List UInt8)) (first:Bool) (n:Nat),(∀b∈bs,b.length≤n)→(joinL first bs).length≤bs.length * (n+1)
 | [],first,n,_=>by simp [joinL]
 | b::bs,first,n,h=>by
   rw [joinL_cons,List.length_append,List.length_append,List.length_cons,Nat.add_mul,Nat.one_mul]
   have h1:=joinL_most bs false n (fun c hc=>h c (List.mem_cons_of_mem _ hc))
   have h2:=h b List.mem_cons_self
   have h3:(dotB first).length≤1:=by unfold dotB;split<;>simp
   omega
def LabAt (ps:List (List Int)) (k:Nat) (xs:List ByteArray):Prop:=k≤ps.length∧xs=(ps.take k).map (fun p=>(labR p).1)∧∀p∈ps.take k,(labR p).2=0
theorem LabAt.start (ps:List (List Int)):LabAt ps 0 []:=⟨Nat.zero_le _,rfl,by simp⟩
theorem LabAt.next {ps:List (List Int)} {k:Nat} {xs:List ByteArray} (h:LabAt ps k xs) (hk:k < ps.length) (he:(labR ps[k]).2=0):LabAt ps (k+1) (xs++[(labR ps[k]).1]):=by
 obtain ⟨_,h1,h2⟩:=h
 refine ⟨hk,?_,?_⟩
 ·rw [List.take_succ_eq_append_getElem hk,List.map_append,h1];rfl
 ·intro p hp
  rw [List.take_succ_eq_append_getElem hk] at hp
  rcases List.mem_append.1 hp with g | g
  ·exact h2 p g
  ·rw [List.mem_singleton.1 g];exact he
theorem LabAt.err {ps:List (List Int)} {k:Nat} {xs:List ByteArray} (h:LabAt ps k xs) (hk:k < ps.length) (he:(labR ps[k]).2≠0):joinA [] true ps=(strOf [],(labR ps[k]).2):=joinA_err ps [] true k hk h.2.2 he
theorem LabAt.fin {ps:List (List Int)} {k:Nat} {xs:List ByteArray} (h:LabAt ps k xs) (hk:¬k < ps.length):joinA [] true ps=finA (joinL true (xs.map bytesOf))∧xs.length=ps.length:=by
 obtain ⟨h0,h1,h2⟩:=h
 rw [List.take_of_length_le (by omega)] at h1 h2
 subst h1
 refine ⟨?_,by simp⟩
 rw [joinA_ok ps [] true h2]
 simp [Function.comp_def]
theorem LabAt.len {ps:List (List Int)} {k:Nat} {xs:List ByteArray} (h:LabAt ps k xs):xs.length=k:=by
 obtain ⟨h0,h1,h2⟩:=h
 subst h1
 simp;omega
theorem LabAt.sizes {ps:List (List Int)} {k:Nat} {xs:List ByteArray} (h:LabAt ps k xs) (hp:∀p∈ps,p.length≤100000):∀b∈xs.map bytesOf,b.length≤11000000:=by
 obtain ⟨h0,h1,h2⟩:=h
 subst h1
 intro b hb
 simp only [List.mem_map] at hb
 obtain ⟨x,⟨p,hp1,rfl⟩,rfl⟩:=hb
 rw [bytesOf_len]
 exact labR_size p (hp p (List.mem_of_mem_take hp1))
theorem ascR_map {l:List Int} (h:l.length≤256) (hf:Fine l):ascR l=joinA [] true (goI [] (mapOf l)):=by
 unfold ascR
 rw [if_neg (by omega),if_pos (fine_all hf),goA_pieces]
theorem ascR_bad {l:List Int} {i:Nat} (h:l.length≤256) (hf:BadAt l i):ascR l=(strOf [],4):=by
 unfold ascR
 rw [if_neg (by omega),if_neg (by rw [bad_all hf];decide)]
theorem ascR_long {l:List Int} (h:256 < l.length):ascR l=(strOf [],11):=by
 unfold ascR
 rw [if_pos h]
theorem iascii_calls (v:Value) (l:List Int) (w:World) (hv:IRow w v l) :
 Calls Tryz.prog 72 #[v] w fun e w'=>e=.returned (.tuple #[.string (ascR l).1,.int .i64 (ascR l).2])∧Below w.heap.size w w':=by
 have HV:=hid hv
 obtain ⟨a,cap,rfl,h1,h2,h3⟩:=hv
 unfold maxLen at h2
 have l2:(l.length:Int)≤(cap:Int):=by omega
 have l3:(cap:Int)≤9223372036854775807:=by omega
 obtain ⟨R,hR⟩:∃R,R=ascR l:=⟨_,rfl⟩
 rw [← hR]
 clear h1 h2 h3
 by_cases hlong:256 < l.length
 ·have HX:Hid (R=(strOf [],11)):=by show _=_;rw [hR,ascR_long hlong]
  have g:(256:Int) < (l.length:Int):=by omega
  clear hlong hR
  go_enter Tryz.func72,Tryz.ntmps72
  go_wp2_with fail
  go_ret2
  exact ⟨by rw [HX.out];rfl,Below.refl _ _⟩
 ·have g:decide ((256:Int) < (l.length:Int))=false:=decide_eq_false (by omega)
  have hle:l.length≤256:=by omega
  rcases fine_or l with hf | ⟨i0,hf⟩
  ·have HR:Hid (R=joinA [] true (goI [] (mapOf l))):=by show _=_;rw [hR,ascR_map hle hf]
   have HMp:=hid (map_fine _ l w HV.out (by omega) hf)
   have HML:Hid ((mapOf l).length≤512):=by show _≤_;have:=map_len l;omega
   clear hlong hR hf hle
   generalize mapOf l=m at *
   go_enter Tryz.func72,Tryz.ntmps72
   go_wp2_with fail
   refine HMp.out.mono ?_
   rintro e w1 ⟨⟨vm,rfl,hvm⟩,hb1⟩
   have HB1:=hid hb1
   have HVM:=hid hvm.row
   clear hb1 hvm
   go_wp2_with fail
   refine (pieces_calls _ m _ HVM.out (by have:=HML.out;omega)).mono ?_
   rintro e w2 ⟨⟨vp,rfl,xs,hvp,hvx⟩,hb2⟩
   have HB2:=hid (below_trans HB1.out hb2)
   have HEa:=hid hvx
   have HVP:=hid hvp
   have hel:=hvx.len
   have hpc:=goI_count m []
   have HNe:=hid (goI_ne m [])
   have HPc:Hid (∀p∈goI [] m,p.length≤100000):=fun p hp=>by have h9:=goI_short m [] p hp;rw [List.length_nil] at h9;have:=HML.out;omega
   generalize goI [] m=ps at *
   have HPL:Hid (ps.length≤513):=by show _≤_;have:=HML.out;omega
   rcases hvp with ⟨pa,pc,hE0,hE1,hE2,hE3⟩
   subst hE0
   unfold maxLen at hE2
   have mm1:(xs.length:Int)≤(pc:Int):=by omega
   have mm2:(pc:Int)≤9223372036854775807:=by omega
   have mm3:(xs.length:Int)≤513:=by have:=HPL.out;omega
   have HEL:=hid hel
   clear hb2 hvx hE1 hE2 hE3 hpc hel HB1 HVM
   go_wp2_with fail
   go_loopw [7,27] (fun vo vi wr=>∃(k:Nat) (ys:List ByteArray),vi=.int .i64 (k:Int)∧LabAt ps k ys∧SOwn wr w2.heap.size vo ys∧Below w2.heap.size w2 wr) (fun _ vi _=>ps.length-(intOf vi).toNat)
   case atStart=>exact ⟨0,[],rfl,LabAt.start _,Own.nil _ _ _ _,Below.refl _ _⟩
   case round =>
    obtain ⟨k,ys,rfl,hA,ho,hb⟩:=hrel
    have HA:=hid hA
    have HO:=hid ho
    have HB:=hid hb
    have HBW:=hid (below_trans HB2.out hb)
    have HSz:Hid (w2.heap.size≤wr.heap.size):=hb.size
    have k0:(0:Int)≤(k:Int):=by omega
    clear hA ho hb
    by_cases hlt:k < ps.length
    ·have hkx:k < xs.length:=by have:=HEL.out;omega
     obtain ⟨b,off,rfl,hck⟩:=HVP.out.open HB.out k hkx
     have k1:(k:Int) < (xs.length:Int):=by omega
     have HK:=hid hlt
     have HLb:=hid (fun w' hb=>label_calls _ _ w' ((HEa.out.get k hkx hlt).below hb) (HPc.out _ (List.getElem_mem hlt)))
     have HNx:=hid (HA.out.next hlt)
     have HEr:=hid (HA.out.err hlt)
     have hlz:=labR_size ps[k] (HPc.out _ (List.getElem_mem hlt))
     have HYL:=hid HA.out.len
     generalize xs[k]=x at *
     obtain ⟨qa,qn,qc⟩:=x
     unfold fx at hck HLb
     simp only at hck HLb
     generalize labR ps[k]=X at *
     obtain ⟨p,n⟩:=X
     simp only at HNx HEr hlz HLb
     clear hlt hkx hlz
     by_cases hn:n=0
     ·subst hn
      have HN:=hid (HNx.out (by first | rfl | trivial))
      clear HEr HNx
      go_wp2_with fail
      refine (HLb.out _ HB.out).mono ?_
      rintro e w4 ⟨rfl,hb4⟩
      have HS4:Hid (w2.heap.size≤w4.heap.size):=Nat.le_trans HSz.out hb4.size
      have HO4:=hid (HO.out.below hb4)
      have HB4:=hid (HB.out.trans (hb4.mono HSz.out))
      obtain ⟨v5,w5,hr5,ho5,hg5⟩:=appendS_run (HO4.out.alloc (.cells #[.string p] 9)) (Row.lit fs w4 [p] 9 (0,0) (by simp)) (by have:=HYL.out;have:=HPL.out;have:=HK.out;simp;omega) (by have:=HS4.out;simp;omega)
      have HO5:=hid ho5
      have HB5:=hid ((HB4.out.alloc HS4.out (.cells #[.string p] 9)).grown hg5 (by have:=HS4.out;simp;omega) (Own.lt HO4.out))
      clear hb4 ho5 hg5
      go_wp2_with (at_builtin;go_must (refine wpList_append_run hr5 rfl _ _ rfl rfl rfl rfl ?_))
      go_roundw
      case rel=>exact ⟨k+1,_,by go_num,HN.out,HO5.out,HB5.out⟩
      case measure=>have:=HK.out;simp [intOf];omega
     ·have HX:Hid (R=(strOf [],n)):=by show _=_;rw [HR.out];exact HEr.out hn
      have n1:(n==0)=false:=by rw [beq_eq_false_iff_ne];exact hn
      have n2:(n != 0)=true:=by rw [bne_iff_ne];exact hn
      clear HEr HNx hn
      go_wp2_with fail
      refine (HLb.out _ HB.out).mono ?_
      rintro e w4 ⟨rfl,hb4⟩
      have HB4:=hid (below_trans HBW.out hb4)
      clear hb4
      go_wp2_with fail
      go_ret2
      exact ⟨by rw [HX.out];rfl,HB4.out⟩
    ·have g1:¬(k:Int) < (xs.length:Int):=by have:=HEL.out;omega
     have hfin:=HA.out.fin hlt
     have hys:ys≠[]:=by
      intro h
      have h2:=hfin.2
      rw [h] at h2
      exact HNe.out (List.eq_nil_of_length_eq_zero h2.symm)
     have hsz:(joinL true (ys.map bytesOf)).length≤140737488355328:=by
      have h1:=joinL_most (ys.map bytesOf) true 11000000 (HA.out.sizes HPc.out)
      rw [List.length_map,hfin.2] at h1
      have h2:=Nat.mul_le_mul_right (11000000+1) HPL.out
      omega
     have HJ:=hid (join_calls _ ys wr HO.out.row hys (by rw [hfin.2];have:=HPL.out;omega) hsz)
     have HX:Hid (R=finA (joinL true (ys.map bytesOf))):=by show _=_;rw [HR.out];exact hfin.1
     generalize joinL true (ys.map bytesOf)=z at *
     have hzs:(strOf z).size=z.length:=strOf_size z
     have z1:((strOf z).size:Int)≤140737488355328:=by omega
     by_cases h253:253 < z.length
     ·have HY:Hid (R=(strOf [],3)):=by show _=_;rw [HX.out];unfold finA;rw [if_pos h253]
      have g2:(253:Int) < ((strOf z).size:Int):=by omega
      clear HX hfin hys hsz hzs h253 hlt
      generalize strOf z=s at *
      go_wp2_with fail
      refine HJ.out.mono ?_
      rintro e w4 ⟨rfl,hb4⟩
      have HB4:=hid (below_trans HBW.out hb4)
      clear hb4
      go_wp2_with fail
      go_ret2
      exact ⟨by rw [HY.out];rfl,HB4.out⟩
     ·have HY:Hid (R=(strOf z,0)):=by show _=_;rw [HX.out];unfold finA;rw [if_neg h253]
      have g2:¬(253:Int) < ((strOf z).size:Int):=by omega
      clear HX hfin hys hsz hzs h253 hlt
      generalize strOf z=s at *
      go_wp2_with fail
      refine HJ.out.mono ?_
      rintro e w4 ⟨rfl,hb4⟩
      have HB4:=hid (below_trans HBW.out hb4)
      clear hb4
      go_wp2_with fail
      go_ret2
      exact ⟨by rw [HY.out];rfl,HB4.out⟩
  ·have HX:Hid (R=(strOf [],4)):=by show _=_;rw [hR,ascR_bad hle hf]
   have HMp:=hid (map_bad _ l w HV.out (by omega) i0 hf)
   clear hlong hR hf hle
   go_enter Tryz.func72,Tryz.ntmps72
   go_wp2_with fail
   refine HMp.out.mono ?_
   rintro e w1 ⟨rfl,hb1⟩
   have HB1:=hid hb1
   clear hb1
   go_wp2_with fail
   go_ret2
   exact ⟨by rw [HX.out];rfl,HB1.out⟩
end Go.Proofs.YtigfgloenjoeoaaGreatDoor
