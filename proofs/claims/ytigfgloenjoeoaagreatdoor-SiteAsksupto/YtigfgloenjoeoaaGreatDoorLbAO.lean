import Derived.Test.YtigfgloenjoeoaaGreatDoorLbAH
import Derived.Test.YtigfgloenjoeoaaGreatDoorLbAA
import Derived.Test.YtigfgloenjoeoaaGreatDoorLbAD
import Derived.Deep.RegionHeld3
import Derived.Deep.DrawnRows
import Derived.Deep.DeepMust
set_option linter.unusedVariables false
set_option linter.unusedSimpArgs false
set_option maxRecDepth 20000
set_option maxHeartbeats 16000000
namespace Go.Proofs.YtigfgloenjoeoaaGreatDoor
open Go.RowKit
attribute [local go_sem ↓] Go.wp_at_zero Go.wp_at_succ
def hexPair (c:UInt8):List UInt8:=[hx (c.toNat/16),hx (c.toNat%16)]
def hexLow (l:List UInt8):List UInt8:=l.flatMap hexPair
theorem hexLow_snoc (l:List UInt8) (k:Nat) (h:k < l.length):hexLow (l.take (k+1))=hexLow (l.take k)++hexPair l[k]:=by
 unfold hexLow;rw [List.take_succ_eq_append_getElem h,List.flatMap_append];simp
theorem hexLow_len (l:List UInt8):(hexLow l).length=2 * l.length:=by
 induction l with
 | nil=>rfl
 | cons c l ih=>simp only [hexLow,List.flatMap_cons,List.length_append,List.length_cons] at ih ⊢;rw [ih];simp [hexPair];omega
theorem hexlow_at (h:Nat) (hh:h < 16) (w:World):(Instr.index 9 (.string ⟨#[48,49,50,51,52,53,54,55,56,57,97,98,99,100,101,102]⟩) (.int .u8 (h:Int))).run Tryz.prog w=.ok (.int .u8 ((hx h).toNat:Int)) w:=by
 obtain rfl | rfl | rfl | rfl | rfl | rfl | rfl | rfl | rfl | rfl | rfl | rfl | rfl | rfl | rfl | rfl:h=0∨h=1∨h=2∨h=3∨h=4∨h=5∨h=6∨h=7∨h=8∨h=9∨h=10∨h=11∨h=12∨h=13∨h=14∨h=15:=by omega
 all_goals kernel_rfl
theorem u8lowS (c:UInt8):bits .and .u8 (c.toNat:Int) 15=((c.toNat%16:Nat):Int):=by
 rw [show (15:Int)=((15:Nat):Int) from rfl,u8_and_nat c.toNat 15 (byte_lt c) (by decide),Nat.and_two_pow_sub_one_eq_mod c.toNat 4]
theorem pair_row (w:World) (c d:UInt8):BRow (w.alloc (.cells #[.int .u8 (c.toNat:Int),.int .u8 (d.toNat:Int)] 5)) (.slice (some ⟨w.heap.size,0,none⟩) 2 2) [c,d]:=Row.lit fb w [c,d] 5 (0,0) (by simp)
theorem stepB_append {w:World} {base:Nat} {v:Value} {xs:List UInt8} {x:Value} {l:List UInt8} (hown:BOwn w base v xs) (hrow:BRow w x l) (hlen:xs.length+l.length≤1000000) (hbase:base≤w.heap.size)
 {ops:Array Oper} {o:Oper} {a:Act} {K:Act→World→Prop} {Q:Exit→Act→World→Prop} {E:Prop} (hgd:o.guard=none) (s y:Operand)
 (ho:o.op=.call { callee:=.builtin .append,args:=#[s,y],argTypes:=#[73,73] }) (hty:o.type=73) (hs:a.eval s=v) (hx:a.eval y=x)
 (h:∀v' w',BOwn w' base v' (xs++l)→w.grownBy w' v.ownBlock→K (a.put o.dst v') w') :
 if Region.wanted o (yielded ops a.tmps)=true then Oper.wp Tryz.prog o a w K Q else E:=by
 have hw:Region.wanted o (yielded ops a.tmps)=true:=by simp [Region.wanted,hgd]
 rw [if_pos hw]
 obtain ⟨v',w',hr,ho',hg⟩:=append_run hown hrow hlen hbase
 unfold Oper.wp execOp
 simp only [ho,resolve,invoke,builtin,Sem.run_bind,Sem.run_pure,Result.andThen_ok,List.map_toArray,List.map_cons,List.map_nil,hs,hx,hty,hr]
 exact h v' w' ho' hg
theorem rhexS_calls (v:Value) (l:List UInt8) (w:World) (hv:BRow w v l) (hl:l.length≤100000) :
 Calls Tryz.prog 85 #[v] w fun e w'=>e=.returned (.string (strOf (hexLow l)))∧Below w.heap.size w w':=by
 obtain ⟨a,cap,rfl,h1,h2,h3⟩:=hv
 have H3:=hid h3
 clear h3
 unfold maxLen at h2
 go_enter Tryz.func85,Tryz.ntmps85
 go_wp2
 go_loopw [4,5] (fun v i wr=>∃k:Nat,k≤l.length∧i=.int .i64 k∧BOwn wr w.heap.size v (hexLow (l.take k))∧Below w.heap.size w wr) (fun _ i _=>l.length-(intOf i).toNat)
 case atStart=>exact ⟨0,Nat.zero_le _,rfl,Own.nil _ _ _ _,Below.refl _ _⟩
 case round =>
  obtain ⟨k,hk,rfl,ho,hb⟩:=hrel
  by_cases hlt:k < l.length
  ·obtain ⟨b,off,rfl,hbl,hc⟩:=H3.out (by intro h;simp [h] at hlt)
   have hck:=(hb.cell (p:=⟨b,off+k,none⟩) hbl).trans (hc k hlt)
   clear hc
   have HN:=hid (hexLow_snoc l k hlt)
   have hlen:=hexLow_len (l.take k)
   have hsz:=hb.size
   rw [List.length_take] at hlen
   have hln:(hexLow (l.take k)).length≤200000:=by omega
   clear hlen
   generalize hexLow (l.take k)=xs at *
   generalize l[k]=c at *
   have hcl:=byte_lt c
   obtain ⟨hi,qh⟩:∃hi:Nat,hi=c.toNat/16:=⟨_,rfl⟩
   obtain ⟨lo,ql⟩:∃lo:Nat,lo=c.toNat%16:=⟨_,rfl⟩
   have eh:(c.toNat:Int)/16=(hi:Int):=by omega
   have el:bits .and .u8 (c.toNat:Int) 15=(lo:Int):=by rw [u8lowS,ql]
   have ah:=hexlow_at hi (by omega)
   have al:=hexlow_at lo (by omega)
   have HP:Hid (hexPair c=[hx hi,hx lo]):=by show hexPair c=_;unfold hexPair;rw [qh,ql]
   clear qh ql
   have HO:=hid ho
   have HB:=hid hb
   clear ho hb
   have k0:(0:Int)≤(k:Int):=by omega
   have k1:(k:Int) < (l.length:Int):=by omega
   generalize hx hi=ch at *
   generalize hx lo=cl at *
   go_wp2
   go_region_held3 (fun w'=>w'.cell? ⟨b,off+k,none⟩=some (.int .u8 (c.toNat:Int))) (go_keep) ((refine stepB_append (HO.out.alloc _).drew (pair_row wr _ _).drew (by simp;omega) (by simp;omega) rfl _ _ rfl rfl rfl rfl ?_;intro v' w1 ho1 hg1;have HO1:=hid ho1;have HB1:=hid ((HB.out.alloc hsz _).drew.grown hg1 (by simp;omega) (fun k hk=>(World.ownsRow.lt HO.out k hk).1));have hck1:w1.cell? ⟨b,off+k,none⟩=some (.int .u8 (c.toNat:Int)):=(HB1.out.cell (p:=⟨b,off+k,none⟩) hbl).trans ((HB.out.cell (p:=⟨b,off+k,none⟩) hbl).symm.trans hck);clear ho1 hg1))
   all_goals
    clear HO HB
    go_wp2
    go_roundw
    case rel=>exact ⟨k+1,by omega,by go_num,by rw [HN.out,HP.out];assumption,by assumption⟩
    case measure=>simp [intOf];omega
  ·have hr:=run_string (by have:=ho.row;rwa [List.take_of_length_le (by omega)] at this)
   have HB:=hid hb
   clear ho hb
   go_wp2
   go_ret
   exact ⟨rfl,HB.out⟩
def stripR:List UInt8→List UInt8
 | a::b::r=>if a=48 then stripR (b::r) else a::b::r
 | l=>l
theorem strip_zero (b:UInt8) (r:List UInt8):stripR (48::b::r)=stripR (b::r):=by
 show (if (48:UInt8)=48 then stripR (b::r) else _)=_
 rw [if_pos rfl]
theorem strip_other {a:UInt8} (h:a≠48) (r:List UInt8):stripR (a::r)=a::r:=by
 match r with
 | []=>rfl
 | b::r =>
   show (if a=48 then stripR (b::r) else a::b::r)=_
   rw [if_neg h]
theorem strip_four {n:Nat} (h:n < 65536):stripR (hexLow [UInt8.ofNat (n/256),UInt8.ofNat (n%256)])=digsOf 16 n:=by
 have e1:(UInt8.ofNat (n/256)).toNat=n/256:=u8_nat (by omega)
 have e2:(UInt8.ofNat (n%256)).toNat=n%256:=u8_nat (by omega)
 have e:hexLow [UInt8.ofNat (n/256),UInt8.ofNat (n%256)]=[hx (n/256/16),hx (n/256%16),hx (n%256/16),hx (n%256%16)]:=by
  simp only [hexLow,List.flatMap_cons,List.flatMap_nil,hexPair,e1,e2]
  rfl
 rw [e]
 have z:hx 0=48:=by decide
 by_cases h1:n < 16
 ·rw [show n/256/16=0 by omega,show n/256%16=0 by omega,show n%256/16=0 by omega,z,strip_zero,strip_zero,strip_zero,digsOf_small h1,show n%256%16=n by omega]
  rfl
 ·rw [digsOf_big (by decide) (by omega) h1]
  by_cases h2:n/16 < 16
  ·rw [show n/256/16=0 by omega,show n/256%16=0 by omega,z,strip_zero,strip_zero,strip_other (fun e=>by have:=(hx_one (n:=n%256/16) (by omega)).2.1.1 e;omega),digsOf_small h2,show n%256/16=n/16 by omega,show n%256%16=n%16 by omega]
   rfl
  ·rw [digsOf_big (by decide) (by omega) h2]
   by_cases h3:n/16/16 < 16
   ·rw [show n/256/16=0 by omega,z,strip_zero,strip_other (fun e=>by have:=(hx_one (n:=n/256%16) (by omega)).2.1.1 e;omega),digsOf_small h3,show n/256%16=n/16/16 by omega,show n%256/16=n/16%16 by omega,show n%256%16=n%16 by omega]
    rfl
   ·rw [digsOf_big (by decide) (by omega) h3,strip_other (fun e=>by have:=(hx_one (n:=n/256/16) (by omega)).2.1.1 e;omega),digsOf_small (show n/16/16/16 < 16 by omega),show n/256/16=n/16/16/16 by omega,show n/256%16=n/16/16%16 by omega,show n%256/16=n/16%16 by omega,show n%256%16=n%16 by omega]
    rfl
def strLenIp:Value→Nat
 | .string s=>s.size
 | _=>0
theorem piece_calls (n:Nat) (w:World) (hn:n < 65536):Calls Tryz.prog 64 #[.int .u16 (n:Int)] w fun e w'=>e=.returned (.string (strOf (digsOf 16 n)))∧Below w.heap.size w w':=by
 have HS:=hid (strip_four hn)
 have e1:(UInt8.ofNat (n/256)).toNat=n/256:=u8_nat (by omega)
 have e2:(UInt8.ofNat (n%256)).toNat=n%256:=u8_nat (by omega)
 obtain ⟨c,hc⟩:∃c,UInt8.ofNat (n/256)=c:=⟨_,rfl⟩
 obtain ⟨d,hd⟩:∃d,UInt8.ofNat (n%256)=d:=⟨_,rfl⟩
 rw [hc] at e1 HS
 rw [hd] at e2 HS
 have f1:(n:Int)/256=(c.toNat:Int):=by omega
 have f2:(n:Int)%256=(d.toNat:Int):=by omega
 have c9:=byte_lt c
 have d9:=byte_lt d
 have HL:Hid ((hexLow [c,d]).length=4):=by show (hexLow [c,d]).length=4;rw [hexLow_len];rfl
 clear hc hd e1 e2
 go_enter Tryz.func64,Tryz.ntmps64
 go_wp2_with fail
 refine (rhexS_calls _ [c,d] _ (pair_row w c d) (by simp)).mono ?_
 rintro e w1 ⟨rfl,hb⟩
 have HB:=hid (((Below.refl w.heap.size w).alloc (Nat.le_refl _) (.cells #[.int .u8 (c.toNat:Int),.int .u8 (d.toNat:Int)] 5)).trans (hb.mono (by simp)))
 clear hb
 generalize hexLow [c,d]=L at *
 go_wp2_with fail
 go_loop [3] (fun v=>∃cur:List UInt8,v=.string (strOf cur)∧stripR cur=digsOf 16 n∧cur.length≤4∧cur≠[]) (fun v=>strLenIp v)
 case atStart=>exact ⟨L,rfl,HS.out,by rw [HL.out];decide,by intro e;have:=HL.out;rw [e] at this;cases this⟩
 case round =>
  obtain ⟨cur,rfl,hst,hlen,hne⟩:=hrel
  have HSt:=hid hst
  have HLen:=hid hlen
  clear hst hlen HS HL
  match cur,hne,HSt,HLen with
  | [a],_,HSt,HLen =>
    have s1:(strOf [a]).size=1:=rfl
    have HX:Hid (digsOf 16 n=[a]):=HSt.out.symm
    go_wp2_with fail
    go_ret
    exact ⟨by rw [HX.out];rfl,HB.out⟩
  | a::b::r,_,HSt,HLen =>
    have hl:r.length≤2:=by have:=HLen.out;simp at this;omega
    have s1:(strOf (a::b::r)).size=r.length+2:=rfl
    have p0:0 < (strOf (a::b::r)).size:=by rw [s1];omega
    obtain ⟨z,hz⟩:∃z,((strOf (a::b::r))[0]'p0).toNat=z:=⟨_,rfl⟩
    have hza:a.toNat=z:=hz
    have z9:(z:Int) < 256:=by have:=byte_lt a;omega
    have g1:(1:Int) < ((strOf (a::b::r)).size:Int):=by rw [s1];omega
    have g2:((strOf (a::b::r)).size:Int)≤4:=by rw [s1];omega
    have he:(strOf (a::b::r)).extract 1 (strOf (a::b::r)).size=strOf (b::r):=by
     rw [cut_mid _ 1 _ (Nat.le_refl _),s1]
     rw [str_data]
     congr 1
     rw [List.drop_succ_cons,List.drop_zero,List.take_of_length_le (by simp)]
    by_cases h48:a=48
    ·have HS2:Hid (stripR (b::r)=digsOf 16 n):=by show _=_;rw [← HSt.out,h48,strip_zero]
     have hz48:z=48:=by rw [← hza,h48];rfl
     subst hz48
     have HM:Hid ((strOf (b::r)).size < (strOf (a::b::r)).size):=by show (b::r).length < (a::b::r).length;simp
     have HLn:Hid ((b::r).length≤4):=by show (b::r).length≤4;simp;omega
     clear hza h48 HSt HLen s1
     generalize strOf (a::b::r)=S at *
     go_wp2_with fail
     go_round
     case rel=>exact ⟨b::r,rfl,HS2.out,HLn.out,by simp⟩
     case measure=>have:=HM.out;simpa [strLenIp] using this
    ·have HX:Hid (digsOf 16 n=a::b::r):=by show _=_;rw [← HSt.out,strip_other h48]
     have hz48:((z:Int)==48)=false:=by rw [beq_eq_false_iff_ne];intro e;exact h48 (UInt8.toNat_inj.1 (by rw [hza];show z=48;omega))
     clear hza h48 HSt HLen s1 he
     have HX2:Hid (strOf (digsOf 16 n)=strOf (a::b::r)):=by show _=_;rw [HX.out]
     clear HX
     generalize strOf (a::b::r)=S at *
     go_wp2_with fail
     go_ret
     exact ⟨by rw [HX2.out];rfl,HB.out⟩
end Go.Proofs.YtigfgloenjoeoaaGreatDoor
namespace Go.Proofs.YtigfgloenjoeoaaGreatDoor
open Go.RowKit
def preR (p:List Nat) (k:Nat):List UInt8 :=
 if k≤(bestR p).1 then joinC 58 (pcs (p.take k))
 else joinC 58 (pcs (p.take (bestR p).1))++58::58::joinC 58 (pcs ((p.drop ((bestR p).1+(bestR p).2)).take (k-((bestR p).1+(bestR p).2))))
theorem pcs_snoc (a:List Nat) (x:Nat):pcs (a++[x])=pcs a++[digsOf 16 x]:=by simp [pcs]
theorem join_more {a:List Nat} (h:a≠[]) (x:Nat):joinC 58 (pcs (a++[x]))=joinC 58 (pcs a)++[58]++digsOf 16 x:=by
 rw [pcs_snoc,joinC_snoc 58 _ _ (by intro e;exact h (by simpa [pcs] using e))]
 simp
theorem pre_start (p:List Nat):preR p 0=[]:=by unfold preR;rw [if_pos (Nat.zero_le _)];rfl
theorem best_two {p:List Nat} (hl:p.length=8) (h:(bestR p).1 < 8):2≤(bestR p).2∧(bestR p).1+(bestR p).2≤8:=by
 rcases best_at hl with e | e
 ·rw [e] at h;exact absurd h (by decide)
 ·exact ⟨e.2.2.1,e.1⟩
theorem best_le {p:List Nat} (hl:p.length=8):(bestR p).1≤8∧1≤(bestR p).2∧(bestR p).2≤8:=by
 rcases best_at hl with e | e
 ·rw [e];decide
 ·omega
theorem pre_cut {p:List Nat} (hl:p.length=8) (h:(bestR p).1 < 8):preR p ((bestR p).1+(bestR p).2)=preR p (bestR p).1++[58,58]:=by
 have hb:=best_two hl h
 unfold preR
 rw [if_neg (by omega),if_pos (Nat.le_refl _),Nat.sub_self,List.take_zero]
 rfl
theorem take_more {l:List Nat} {k:Nat} (h:k < l.length):l.take (k+1)=l.take k++[l[k]]:=List.take_succ_eq_append_getElem h
theorem pre_first {p:List Nat} (hl:p.length=8) (h:0 < (bestR p).1):preR p 1=preR p 0++digsOf 16 (p[0]'(by omega)):=by
 rw [pre_start]
 unfold preR
 rw [if_pos (by omega),take_more (by omega),List.take_zero]
 rfl
theorem pre_mid {p:List Nat} (hl:p.length=8) {k:Nat} (h0:0 < k) (hk:k < (bestR p).1) (h8:k < 8):preR p (k+1)=preR p k++[58]++digsOf 16 (p[k]'(by omega)):=by
 unfold preR
 rw [if_pos (by omega),if_pos (by omega),take_more (by omega),join_more]
 intro e
 have:=congrArg List.length e
 rw [List.length_take,List.length_nil] at this
 omega
theorem pre_back {p:List Nat} (hl:p.length=8) (ha:(bestR p).1 < 8) {k:Nat} (hk:(bestR p).1+(bestR p).2≤k) (h8:k < 8) :
 preR p (k+1)=preR p k++(if k=(bestR p).1+(bestR p).2 then [] else [58])++digsOf 16 (p[k]'(by omega)):=by
 have hb:=best_two hl ha
 unfold preR
 rw [if_neg (by omega),if_neg (by omega),show k+1-((bestR p).1+(bestR p).2)=(k-((bestR p).1+(bestR p).2))+1 by omega,take_more (by rw [List.length_drop];omega),List.getElem_drop]
 have e:p[(bestR p).1+(bestR p).2+(k-((bestR p).1+(bestR p).2))]'(by omega)=p[k]'(by omega):=by congr 1;omega
 rw [e]
 by_cases h0:k=(bestR p).1+(bestR p).2
 ·rw [if_pos h0,show k-((bestR p).1+(bestR p).2)=0 by omega,List.take_zero]
  simp [pcs,joinC]
 ·rw [if_neg h0,join_more]
  ·simp
  ·intro e
   have:=congrArg List.length e
   rw [List.length_take,List.length_drop,List.length_nil] at this
   omega
theorem pre_end {p:List Nat} (hl:p.length=8):preR p 8=print6R p:=by
 unfold preR print6R
 by_cases h:(bestR p).1=8
 ·rw [if_pos (by omega),if_pos h,List.take_of_length_le (by omega)]
 ·have:=best_le hl
  rw [if_neg (by omega),if_neg h,List.take_of_length_le (l:=p.drop ((bestR p).1+(bestR p).2)) (by rw [List.length_drop];omega)]
theorem pre_len {p:List Nat} (hl:p.length=8) (h:∀x∈p,x < 65536) (k:Nat):(preR p k).length≤82:=by
 unfold preR
 split
 ·have:=pcs_len (p.take k) (fun x hx=>h x (List.mem_of_mem_take hx))
  rw [List.length_take] at this
  omega
 ·have h1:=pcs_len (p.take (bestR p).1) (fun x hx=>h x (List.mem_of_mem_take hx))
  have h2:=pcs_len ((p.drop ((bestR p).1+(bestR p).2)).take (k-((bestR p).1+(bestR p).2))) (fun x hx=>h x (List.mem_of_mem_drop (List.mem_of_mem_take hx)))
  rw [List.length_append,List.length_cons,List.length_cons]
  rw [List.length_take] at h1
  rw [List.length_take,List.length_drop] at h2
  omega
theorem run_more {p:List Nat} {k j:Nat} (hj:j≤runAt p k) (hz:p[k+j]? = some 0):j+1≤runAt p k:=by
 unfold runAt at hj ⊢
 rcases Nat.lt_or_ge j ((p.drop k).takeWhile (·==0)).length with h | h
 ·exact h
 ·exfalso
  have he:((p.drop k).takeWhile (·==0)).length=j:=by omega
  have hd:(p.drop k)[j]? = some 0:=by rw [List.getElem?_drop];exact hz
  have hsp:p.drop k=(p.drop k).takeWhile (·==0)++(p.drop k).dropWhile (·==0):=List.takeWhile_append_dropWhile.symm
  rw [hsp,List.getElem?_append_right (by omega),he,Nat.sub_self] at hd
  cases hdw:(p.drop k).dropWhile (·==0) with
  | nil=>rw [hdw] at hd;cases hd
  | cons x r =>
    rw [hdw] at hd
    have hx:x=0:=by simpa using hd
    have:=List.head?_dropWhile_not (·==0) (p.drop k)
    rw [hdw] at this
    simp [hx] at this
theorem run_stop {p:List Nat} {k j x:Nat} (hj:j≤runAt p k) (hz:p[k+j]? = some x) (hx:x≠0):runAt p k=j:=by
 rcases Nat.lt_or_ge j (runAt p k) with h | h
 ·have:=run_zero p k j h
  rw [hz] at this
  exact absurd (Option.some.inj this) hx
 ·omega
theorem run_full {p:List Nat} (hl:p.length=8) {k j:Nat} (hj:j≤runAt p k) (hk:k+j=8):runAt p k=j:=by
 have:=run_le p k
 omega
def agg8 (p0 p1 p2 p3 p4 p5 p6 p7:Nat):Value:=.agg #[.int .u16 (p0:Int),.int .u16 (p1:Int),.int .u16 (p2:Int),.int .u16 (p3:Int),.int .u16 (p4:Int),.int .u16 (p5:Int),.int .u16 (p6:Int),.int .u16 (p7:Int)]
def cells8 (p0 p1 p2 p3 p4 p5 p6 p7:Nat):Array Value:=#[.int .u16 (p0:Int),.int .u16 (p1:Int),.int .u16 (p2:Int),.int .u16 (p3:Int),.int .u16 (p4:Int),.int .u16 (p5:Int),.int .u16 (p6:Int),.int .u16 (p7:Int)]
theorem cells8_at (p0 p1 p2 p3 p4 p5 p6 p7:Nat) (w:World) (t:TypeId) (k:Nat) (h:k < [p0,p1,p2,p3,p4,p5,p6,p7].length):(w.alloc (.cells (cells8 p0 p1 p2 p3 p4 p5 p6 p7) t)).cell? ⟨w.heap.size,k,none⟩=some (.int .u16 (([p0,p1,p2,p3,p4,p5,p6,p7][k]:Nat):Int)):=by
 rw [World.cell?_alloc_at _ _ _ _ rfl]
 match k,h with
 | 0,_=>rfl
 | 1,_=>rfl
 | 2,_=>rfl
 | 3,_=>rfl
 | 4,_=>rfl
 | 5,_=>rfl
 | 6,_=>rfl
 | 7,_=>rfl
theorem best_step {p:List Nat} {k j:Nat} (h:runAt p k=j):bestG p (k+1)=if (bestG p k).2 < j then (k,j) else bestG p k:=by rw [← h];rfl
theorem best_small {p:List Nat} (hl:p.length=8) {k:Nat} (hk:k≤8):(bestG p k).1≤8∧(bestG p k).2≤8:=by
 rcases best_facts p k hk with h | ⟨h1,h2,h3⟩
 ·rw [h];decide
 ·have:=run_le p (bestG p k).1
  omega
theorem at_p {p:List Nat} {k:Nat} (h:k < p.length):p[k]? = some p[k]:=List.getElem?_eq_getElem h
theorem print6_calls (p0 p1 p2 p3 p4 p5 p6 p7:Nat) (w:World) (hx:∀x∈[p0,p1,p2,p3,p4,p5,p6,p7],x < 65536) :
 Calls Tryz.prog 49 #[agg8 p0 p1 p2 p3 p4 p5 p6 p7] w fun e w'=>e=.returned (.string (strOf (print6R [p0,p1,p2,p3,p4,p5,p6,p7])))∧Below w.heap.size w w':=by
 have hcell0:=cells8_at p0 p1 p2 p3 p4 p5 p6 p7 w 24
 have hb0:Below w.heap.size w (w.alloc (.cells (cells8 p0 p1 p2 p3 p4 p5 p6 p7) 24)):=(Below.refl _ _).alloc (Nat.le_refl _) _
 obtain ⟨R,hR⟩:∃R,strOf (print6R [p0,p1,p2,p3,p4,p5,p6,p7])=R:=⟨_,rfl⟩
 rw [hR]
 have hl:[p0,p1,p2,p3,p4,p5,p6,p7].length=8:=rfl
 have hlt0:w.heap.size < (w.alloc (.cells (cells8 p0 p1 p2 p3 p4 p5 p6 p7) 24)).heap.size:=by simp
 have HCell:=hid hcell0
 have HB0:=hid hb0
 have HLT:=hid hlt0
 unfold agg8
 unfold cells8 at HCell HB0 HLT
 generalize hp:[p0,p1,p2,p3,p4,p5,p6,p7]=p at *
 have HL:=hid hl
 have HR:=hid hR
 have HX:=hid hx
 clear hcell0 hb0 hR hl hx hlt0 hp
 go_enter Tryz.func49,Tryz.ntmps49
 go_wp2_with fail
 generalize w.alloc (.cells #[.int .u16 (p0:Int),.int .u16 (p1:Int),.int .u16 (p2:Int),.int .u16 (p3:Int),.int .u16 (p4:Int),.int .u16 (p5:Int),.int .u16 (p6:Int),.int .u16 (p7:Int)] 24)=w1 at *
 obtain ⟨BL,hBL⟩:∃BL,w.heap.size=BL:=⟨_,rfl⟩
 rw [hBL] at HCell HLT ⊢
 have HBL:=hid hBL
 clear hBL
 go_loop [3,4,5] (fun va vb vi=>∃k:Nat,k≤8∧vi=.int .i64 (k:Int)∧va=.int .i64 ((bestG p k).1:Int)∧vb=.int .i64 ((bestG p k).2:Int)) (fun _ _ vi=>8-(intOf vi).toNat)
 case atStart=>exact ⟨0,Nat.zero_le _,rfl,rfl,rfl⟩
 case round =>
  obtain ⟨k,hk,rfl,rfl,rfl⟩:=hrel
  have hbs:=best_small HL.out hk
  have k0:(0:Int)≤(k:Int):=by omega
  by_cases hlt:k < 8
  ·have k1:(k:Int) < 8:=by omega
   have HStep:=hid (fun j (h:runAt p k=j)=>best_step (p:=p) (k:=k) h)
   obtain ⟨A,hA⟩:∃A,(bestG p k).1=A:=⟨_,rfl⟩
   obtain ⟨B,hB⟩:∃B,(bestG p k).2=B:=⟨_,rfl⟩
   have hAB:bestG p k=(A,B):=by rw [← hA,← hB]
   rw [hAB] at HStep
   rw [hA,hB]
   rw [hA,hB] at hbs
   have A1:(A:Int)≤8:=by omega
   have B1:(B:Int)≤8:=by omega
   have B0:(0:Int)≤(B:Int):=by omega
   have HK:=hid hlt
   have HRun0:Hid (0≤runAt p k):=Nat.zero_le _
   clear hA hB hAB hbs hk hlt
   go_wp2_with fail
   go_loop [6] (fun vn=>∃j:Nat,j≤runAt p k∧k+j≤8∧vn=.int .i64 (j:Int)) (fun vn=>8-(intOf vn).toNat)
   case atStart=>exact ⟨0,Nat.zero_le _,by have:=HK.out;omega,rfl⟩
   case round =>
    obtain ⟨j,hj,hkj,rfl⟩:=hrel
    have HJ:=hid hj
    have j0:(0:Int)≤(j:Int):=by omega
    obtain ⟨m,hm⟩:∃m,k+j=m:=⟨_,rfl⟩
    have em:(k:Int)+(j:Int)=(m:Int):=by omega
    have m0:(0:Int)≤(m:Int):=by omega
    have j1:(j:Int)≤8:=by omega
    clear hj
    by_cases hm8:m < 8
    ·have m1:(m:Int) < 8:=by omega
     have hml:m < p.length:=by rw [HL.out];exact hm8
     have hc:=HCell.out m hml
     have HAt:=hid (at_p hml)
     obtain ⟨x,hxx⟩:∃x,p[m]'hml=x:=⟨_,rfl⟩
     rw [hxx] at hc HAt
     have hx9:=HX.out x (by rw [← hxx];exact List.getElem_mem hml)
     have x9:(x:Int) < 65536:=by omega
     have x0:(0:Int)≤(x:Int):=by omega
     have HM8:=hid hm8
     have HMM:=hid hm
     clear hxx hx9 hml hm8 hkj
     by_cases hx0:x=0
     ·have HJ2:=hid (run_more HJ.out (by rw [HMM.out,HAt.out,hx0]))
      have e0:((x:Int)==0)=true:=by rw [hx0];rfl
      clear hx0 hm
      go_wp2_with fail
      go_round
      case rel=>exact ⟨j+1,HJ2.out,by have:=HM8.out;have:=HMM.out;omega,by go_num⟩
      case measure=>have:=HM8.out;have:=HMM.out;simp [intOf];omega
     ·have HS2:=hid (HStep.out j (run_stop HJ.out (by rw [HMM.out];exact HAt.out) hx0))
      have e0:((x:Int)==0)=false:=by rw [beq_eq_false_iff_ne];omega
      clear hx0 hm
      by_cases hbj:B < j
      ·have g:(B:Int) < (j:Int):=by omega
       rw [if_pos hbj] at HS2
       clear hbj
       go_wp2_with fail
       go_round
       case rel=>exact ⟨k+1,HK.out,by go_num,by rw [HS2.out],by rw [HS2.out]⟩
       case measure=>have:=HK.out;simp [intOf];omega
      ·have g:¬(B:Int) < (j:Int):=by omega
       rw [if_neg hbj] at HS2
       clear hbj
       go_wp2_with fail
       go_round
       case rel=>exact ⟨k+1,HK.out,by go_num,by rw [HS2.out],by rw [HS2.out]⟩
       case measure=>have:=HK.out;simp [intOf];omega
    ·have m1:¬(m:Int) < 8:=by omega
     have HS2:=hid (HStep.out j (run_full HL.out HJ.out (by omega)))
     clear hm8 hm hkj
     by_cases hbj:B < j
     ·have g:(B:Int) < (j:Int):=by omega
      rw [if_pos hbj] at HS2
      clear hbj
      go_wp2_with fail
      go_round
      case rel=>exact ⟨k+1,HK.out,by go_num,by rw [HS2.out],by rw [HS2.out]⟩
      case measure=>have:=HK.out;simp [intOf];omega
     ·have g:¬(B:Int) < (j:Int):=by omega
      rw [if_neg hbj] at HS2
      clear hbj
      go_wp2_with fail
      go_round
      case rel=>exact ⟨k+1,HK.out,by go_num,by rw [HS2.out],by rw [HS2.out]⟩
      case measure=>have:=HK.out;simp [intOf];omega
  ·have hk8:k=8:=by omega
   subst hk8
   have k1:¬(8:Int) < 8:=by decide
   have hb1:=best_le HL.out
   have HCut:=hid (fun h=>pre_cut HL.out h)
   have HTwo:=hid (fun h=>best_two HL.out h)
   have HFirst:=hid (fun h=>pre_first HL.out h)
   have HMid:=hid (fun k h0 hk h8=>pre_mid HL.out (k:=k) h0 hk h8)
   have HBack:=hid (fun ha k hk h8=>pre_back HL.out ha (k:=k) hk h8)
   have HPLen:=hid (pre_len HL.out HX.out)
   have HEnd:=hid (pre_end HL.out)
   rw [show bestG p 8=bestR p from rfl]
   obtain ⟨A,hA⟩:∃A,(bestR p).1=A:=⟨_,rfl⟩
   obtain ⟨B,hB⟩:∃B,(bestR p).2=B:=⟨_,rfl⟩
   rw [hA,hB] at HCut HTwo HBack hb1 ⊢
   rw [hA] at HFirst HMid
   have A1:(A:Int)≤8:=by omega
   have B1:(B:Int)≤8:=by omega
   have B0:(1:Int)≤(B:Int):=by omega
   have A0:(0:Int)≤(A:Int):=by omega
   clear hA hB hb1 hlt hk hbs k0
   go_wp2_with fail
   go_loopw [7,8] (fun vs vi wr=>∃k:Nat,k≤8∧(k≤A∨(A < 8∧A+B≤k))∧vi=.int .i64 (k:Int)∧vs=.string (strOf (preR p k))∧Below w1.heap.size w1 wr) (fun _ vi _=>8-(intOf vi).toNat)
   case atStart=>exact ⟨0,Nat.zero_le _,.inl (Nat.zero_le _),rfl,by rw [pre_start];rfl,Below.refl _ _⟩
   case round =>
    obtain ⟨k,hk,hph,rfl,rfl,hb⟩:=hrel
    have HB:=hid hb
    have k0:(0:Int)≤(k:Int):=by omega
    have hpl:=HPLen.out k
    have z1:((strOf (preR p k)).size:Int)≤82:=by rw [str_size];omega
    clear hb hpl
    by_cases hlt:k < 8
    ·have k1:(k:Int) < 8:=by omega
     have HK:=hid hlt
     by_cases hkA:k=A
     ·have h8:A < 8:=by omega
      have h2:=HTwo.out h8
      have HC2:=hid (HCut.out h8)
      have HS2:Hid (strOf (preR p k)++⟨#[58,58]⟩=strOf (preR p (A+B))):=by
       show strOf (preR p k)++strOf [58,58]=_
       rw [HC2.out,cat_str,hkA]
      have HN:Hid (A < 8∧A+B≤8∧k+B=A+B∧2≤B):=by show _∧_;omega
      have e1:((k:Int)==(A:Int))=true:=by rw [hkA];exact beq_self_eq_true _
      have s2:(⟨#[58,58]⟩:ByteArray).size=2:=rfl
      clear hkA h8 h2 hph hlt hk HC2
      generalize strOf (preR p k)=T at *
      go_wp2_with fail
      go_roundw
      case rel=>exact ⟨A+B,HN.out.2.1,.inr ⟨HN.out.1,Nat.le_refl _⟩,by have:=HN.out;go_num,by rw [HS2.out],HB.out⟩
      case measure=>have:=HN.out;have:=HK.out;simp [intOf];omega
     ·have e1:((k:Int)==(A:Int))=false:=by rw [beq_eq_false_iff_ne];omega
      have hml:k < p.length:=by rw [HL.out];exact hlt
      have hc:=(HB.out.cell (p:=⟨BL,k,none⟩) HLT.out).trans (HCell.out k hml)
      have HFst:=hid (fun (h0:k=0) (hA:0 < A)=>HFirst.out hA)
      have HMd:=hid (fun h0 hk h8=>HMid.out k h0 hk h8)
      have HBk:=hid (fun ha hk h8=>HBack.out ha k hk h8)
      have HFx:Hid (k=0→0 < A→preR p (k+1)=preR p k++digsOf 16 (p[k]'hml)):=by
       intro h0 hA
       subst h0
       exact HFirst.out hA
      have HMx:Hid (0 < k→k < A→preR p (k+1)=preR p k++[58]++digsOf 16 (p[k]'hml)):=fun h0 hk=>HMid.out k h0 hk hlt
      have HBx:Hid (A < 8→A+B≤k→preR p (k+1)=preR p k++(if k=A+B then [] else [58])++digsOf 16 (p[k]'hml)):=fun ha hk=>HBack.out ha k hk hlt
      have hxm:=HX.out _ (List.getElem_mem hml)
      clear HFst HMd HBk
      generalize p[k]'hml=x at *
      have HP:=hid (fun w=>piece_calls x w hxm)
      have hxl:=pc_len hxm
      have z2:((strOf (digsOf 16 x)).size:Int)≤4:=by rw [str_size];omega
      have hcase:(∃_:preR p (k+1)=preR p k++digsOf 16 x,(k=0∧0 < A)∨(0 < k∧k=A+B∧A < 8))∨(∃_:preR p (k+1)=preR p k++[58]++digsOf 16 x,0 < k∧k≠A+B∧(k < A∨(A < 8∧A+B≤k))):=by
       rcases hph with h | ⟨h1,h2⟩
       ·by_cases h0:k=0
        ·exact .inl ⟨HFx.out h0 (by omega),.inl ⟨h0,by omega⟩⟩
        ·exact .inr ⟨HMx.out (by omega) (by omega),by omega,by omega,.inl (by omega)⟩
       ·by_cases h0:k=A+B
        ·refine .inl ⟨?_,.inr ⟨by omega,h0,h1⟩⟩
         have:=HBx.out h1 h2
         rw [if_pos h0,List.append_nil] at this
         exact this
        ·refine .inr ⟨?_,by omega,h0,.inr ⟨h1,h2⟩⟩
         have:=HBx.out h1 h2
         rw [if_neg h0] at this
         exact this
      have HPh:Hid (k+1≤A∨(A < 8∧A+B≤k+1)):=by show _∨_;omega
      clear hph HFx HMx HBx hxm hxl hml hlt hk hkA
      rcases hcase with ⟨he,hsub⟩ | ⟨he,h0,hne,_⟩
      ·have HS2:Hid (strOf (preR p k)++strOf (digsOf 16 x)=strOf (preR p (k+1))):=by show _=_;rw [he,cat_str]
       have hsub2:¬(0:Int) < (k:Int)∨((0:Int) < (k:Int)∧((k:Int) != (A:Int)+(B:Int))=false):=by
        rcases hsub with ⟨h,_⟩ | ⟨h,h',_⟩
        ·exact .inl (by omega)
        ·exact .inr ⟨by omega,by rw [bne_eq_false_iff_eq];omega⟩
       clear he hsub
       generalize strOf (preR p k)=T at *
       generalize strOf (digsOf 16 x)=U at *
       rcases hsub2 with q1 | ⟨q1,q2⟩
       all_goals
        go_wp2_with fail
        refine (HP.out _).mono ?_
        rintro e w2 ⟨rfl,hb2⟩
        have HB2:=hid (below_trans HB.out hb2)
        clear hb2
        go_wp2_with fail
        go_roundw
        case rel=>exact ⟨k+1,HK.out,HPh.out,by go_num,by rw [HS2.out],HB2.out⟩
        case measure=>have:=HK.out;simp [intOf];omega
      ·have HS2:Hid (strOf (preR p k)++⟨#[58]⟩++strOf (digsOf 16 x)=strOf (preR p (k+1))):=by
        show strOf (preR p k)++strOf [58]++strOf (digsOf 16 x)=_
        rw [he,cat_str,cat_str]
       have q1:(0:Int) < (k:Int):=by omega
       have q2:((k:Int) != (A:Int)+(B:Int))=true:=by rw [bne_iff_ne];omega
       have s2:(⟨#[58]⟩:ByteArray).size=1:=rfl
       clear he h0 hne
       generalize strOf (preR p k)=T at *
       generalize strOf (digsOf 16 x)=U at *
       go_wp2_with fail
       refine (HP.out _).mono ?_
       rintro e w2 ⟨rfl,hb2⟩
       have HB2:=hid (below_trans HB.out hb2)
       clear hb2
       go_wp2_with fail
       go_roundw
       case rel=>exact ⟨k+1,HK.out,HPh.out,by go_num,by rw [HS2.out],HB2.out⟩
       case measure=>have:=HK.out;simp [intOf];omega
    ·have k1:¬(k:Int) < 8:=by omega
     have hk8:k=8:=by omega
     have HF:Hid (strOf (preR p k)=R):=by show _=_;rw [hk8,HEnd.out];exact HR.out
     clear hk8 hlt hk hph
     generalize strOf (preR p k)=T at *
     go_wp2_with fail
     go_ret
     exact ⟨by rw [← HF.out];rfl,by have h1:=HB0.out;have h2:=HBL.out;exact h1.trans (HB.out.mono h1.size)⟩
end Go.Proofs.YtigfgloenjoeoaaGreatDoor
