import Derived.Test.YtigfgloenjoeoaaGreatDoorLcAC
import Derived.Deep.RegionHeld3
import Derived.Deep.DrawnRows
import Derived.Deep.DeepMust
set_option linter.unusedVariables false
set_option linter.unusedSimpArgs false
set_option maxRecDepth 20000
set_option maxHeartbeats 16000000
namespace Go.Proofs.YtigfgloenjoeoaaGreatDoor
open Go.RowKit
attribute [local go_sem ↓] Go.wp_at_zero Go.wp_at_succ
def dgU (h:Nat):UInt8:=UInt8.ofNat (hexU h)
theorem hex_at (h:Nat) (hh:h < 16) (w:World):(Instr.index 9 (.string ⟨#[48,49,50,51,52,53,54,55,56,57,65,66,67,68,69,70]⟩) (.int .u8 (h:Int))).run Tryz.prog w=.ok (.int .u8 ((dgU h).toNat:Int)) w:=by
 obtain rfl | rfl | rfl | rfl | rfl | rfl | rfl | rfl | rfl | rfl | rfl | rfl | rfl | rfl | rfl | rfl:h=0∨h=1∨h=2∨h=3∨h=4∨h=5∨h=6∨h=7∨h=8∨h=9∨h=10∨h=11∨h=12∨h=13∨h=14∨h=15:=by omega
 all_goals kernel_rfl
theorem u8low (c:UInt8):bits .and .u8 (c.toNat:Int) 15=((c.toNat%16:Nat):Int):=by
 rw [show (15:Int)=((15:Nat):Int) from rfl,u8_and_nat c.toNat 15 (byte_lt c) (by decide),Nat.and_two_pow_sub_one_eq_mod c.toNat 4]
theorem pct_snoc (set:Int) (l:List UInt8) (k:Nat) (h:k < l.length):pctR set (l.take (k+1))=pctR set (l.take k)++encP set l[k]:=by
 unfold pctR;rw [List.take_succ_eq_append_getElem h,List.flatMap_append];simp
theorem encP_blank {set:Int} {c:UInt8} (h:set=8) (hc:c=32):encP set c=[43]:=by unfold encP;rw [if_pos ⟨h,hc⟩]
theorem encP_plain {set:Int} {c:UInt8} (h:inR set c.toNat=false):encP set c=[c]:=by
 unfold encP
 rw [if_neg,if_neg]
 ·rw [h];decide
 ·rintro ⟨rfl,rfl⟩
  revert h
  decide
theorem encP_hex {set:Int} {c:UInt8} (h:inR set c.toNat=true) (hn:¬(set=8∧c=32)):encP set c=[37,dgU (c.toNat/16),dgU (c.toNat%16)]:=by
 unfold encP
 rw [if_neg hn,if_pos h]
 rfl
theorem one_rowPc (w:World) (c:UInt8):BRow (w.alloc (.cells #[.int .u8 (c.toNat:Int)] 5)) (.slice (some ⟨w.heap.size,0,none⟩) 1 1) [c]:=Row.lit fb w [c] 5 (0,0) (by simp)
theorem plus_row (w:World):BRow (w.alloc (.cells #[.int .u8 43] 5)) (.slice (some ⟨w.heap.size,0,none⟩) 1 1) [43]:=one_rowPc w 43
theorem three_row (w:World) (c d:UInt8):BRow (w.alloc (.cells #[.int .u8 37,.int .u8 (c.toNat:Int),.int .u8 (d.toNat:Int)] 5)) (.slice (some ⟨w.heap.size,0,none⟩) 3 3) [37,c,d]:=Row.lit fb w [37,c,d] 5 (0,0) (by simp)
theorem step_append {w:World} {base:Nat} {v:Value} {xs:List UInt8} {x:Value} {l:List UInt8} (hown:BOwn w base v xs) (hrow:BRow w x l) (hlen:xs.length+l.length≤1000000) (hbase:base≤w.heap.size)
 {ops:Array Oper} {o:Oper} {a:Act} {K:Act→World→Prop} {Q:Exit→Act→World→Prop} {E:Prop} (hgd:o.guard=none) (s y:Operand)
 (ho:o.op=.call { callee:=.builtin .append,args:=#[s,y],argTypes:=#[73,73] }) (hty:o.type=73) (hs:a.eval s=v) (hx:a.eval y=x)
 (h:∀v' w',BOwn w' base v' (xs++l)→w.grownBy w' v.ownBlock→K (a.put o.dst v') w') :
 if Region.wanted o (yielded ops a.tmps)=true then Oper.wp Tryz.prog o a w K Q else E:=by
 have hw:Region.wanted o (yielded ops a.tmps)=true:=by simp [Region.wanted,hgd]
 rw [if_pos hw]
 obtain ⟨v',w',hr,ho',hg⟩:=append_run hown hrow hlen hbase
 unfold Oper.wp execOp
 simp only [ho,resolve,invoke,builtin,Sem.run_bind,Sem.run_pure,Result.andThen_ok,List.map_toArray,List.map_cons,List.map_nil,hs,hx,hty,hr]
 exact h v' w' ho' hg
theorem Own.made' (w:World) (n:Nat) (hn:n≤1000000):BOwn (w.alloc (.cells (madeCells #[.int .u8 0] n) 5)) w.heap.size (.slice (some ⟨w.heap.size,0,none⟩) 0 n) []:=Own.made fb 5 w _ n (by rw [size_madeCells]) hn
theorem byte_eq {c d:UInt8}:((c.toNat:Int)==(d.toNat:Int))=(c==d):=by
 by_cases h:c=d
 ·subst h;simp
 ·rw [beq_eq_false_iff_ne.2 h,beq_eq_false_iff_ne]
  intro e
  exact h (UInt8.toNat_inj.1 (by omega))
theorem encode_callsPc (set:Int) (v:Value) (l:List UInt8) (w:World) (ht:TabPc w) (hv:BRow w v l) (hl:l.length≤100000) :
 Calls Tryz.prog 79 #[.int .i64 set,v] w fun e w'=>e=.returned (.string (strOf (pctR set l)))∧Below w.heap.size w w':=by
 obtain ⟨a,cap,rfl,h1,h2,h3⟩:=hv
 have hmk:=makeB l.length (by omega)
 have HT:=hid ht
 have H3:=hid h3
 clear h3 ht
 unfold maxLen at h2
 go_enter Tryz.func79,Tryz.ntmps79
 go_wp2
 go_loopw [5,13] (fun v i wr=>∃k:Nat,k≤l.length∧i=.int .i64 k∧BOwn wr w.heap.size v (pctR set (l.take k))∧Below w.heap.size w wr) (fun _ i _=>l.length-(intOf i).toNat)
 case atStart=>exact ⟨0,Nat.zero_le _,rfl,Own.made' w _ (by omega),(Below.refl _ _).alloc (Nat.le_refl _) _⟩
 case round =>
  obtain ⟨k,hk,rfl,ho,hb⟩:=hrel
  clear hmk
  by_cases hlt:k < l.length
  ·obtain ⟨b,off,rfl,hbl,hc⟩:=H3.out (by intro h;simp [h] at hlt)
   have hck:=(hb.cell (p:=⟨b,off+k,none⟩) hbl).trans (hc k hlt)
   clear hc
   have HN:=hid (pct_snoc set l k hlt)
   have hlen:=(pctR_len set (l.take k)).2
   have hsz:=hb.size
   rw [List.length_take] at hlen
   have hln:(pctR set (l.take k)).length≤300000:=by omega
   clear hlen
   generalize pctR set (l.take k)=xs at *
   generalize l[k]=c at *
   have hcl:=byte_lt c
   have HTr:=hid (HT.out.below hb)
   have HO:=hid ho
   have HB:=hid hb
   clear ho hb
   obtain ⟨t,hin⟩:∃t,inR set c.toNat=t:=⟨_,rfl⟩
   have HIN:=hid (in_calls set c.toNat hcl _ HTr.out)
   rw [hin] at HIN
   cases t with
   | false =>
     have HP:=hid (encP_plain hin)
     clear hin
     obtain ⟨v',w1,hr,ho1,hg1⟩:=append_run (HO.out.alloc (.cells #[.int .u8 (c.toNat:Int)] 5)) (one_rowPc wr c) (by simp;omega) (by simp;omega)
     have HO1:=hid ho1
     have HB1:=hid ((HB.out.alloc hsz _).grown hg1 (by simp;omega) (fun k hk=>(World.ownsRow.lt HO.out k hk).1))
     clear ho1 hg1
     go_wp2_with fail
     refine HIN.out.mono ?_
     rintro e wz ⟨rfl,rfl⟩
     go_wp2_with (at_builtin;go_must (refine wpList_append_run hr rfl _ _ rfl rfl rfl rfl ?_))
     go_roundw
     case rel=>exact ⟨k+1,by omega,by go_num,by rw [HN.out,HP.out];exact HO1.out,HB1.out⟩
     case measure=>simp [intOf];omega
   | true =>
     by_cases hbk:set=8∧c=32
     ·have HP:=hid (encP_blank hbk.1 hbk.2)
      obtain ⟨rfl,rfl⟩:=hbk
      clear hin
      obtain ⟨v',w1,hr,ho1,hg1⟩:=append_run (HO.out.alloc (.cells #[.int .u8 43] 5)) (plus_row wr) (by simp;omega) (by simp;omega)
      have HO1:=hid ho1
      have HB1:=hid ((HB.out.alloc hsz _).grown hg1 (by simp;omega) (fun k hk=>(World.ownsRow.lt HO.out k hk).1))
      clear ho1 hg1
      go_wp2_with fail
      refine HIN.out.mono ?_
      rintro e wz ⟨rfl,rfl⟩
      go_wp2_with (at_builtin;go_must (refine wpList_append_run hr rfl _ _ rfl rfl rfl rfl ?_))
      go_roundw
      case rel=>exact ⟨k+1,by omega,by go_num,by rw [HN.out,HP.out];exact HO1.out,HB1.out⟩
      case measure=>simp [intOf];omega
     ·have HP0:=hid (encP_hex hin hbk)
      obtain ⟨hi,qh⟩:∃hi:Nat,hi=c.toNat/16:=⟨_,rfl⟩
      obtain ⟨lo,ql⟩:∃lo:Nat,lo=c.toNat%16:=⟨_,rfl⟩
      have eh:(c.toNat:Int)/16=(hi:Int):=by omega
      have el:bits .and .u8 (c.toNat:Int) 15=(lo:Int):=by rw [u8low,ql]
      have ah:=hex_at hi (by omega)
      have al:=hex_at lo (by omega)
      have HP:Hid (encP set c=[37,dgU hi,dgU lo]):=by show encP set c=_;rw [HP0.out,qh,ql]
      have HW:Hid ((set==8&&(c.toNat:Int)==32)=false):=by
       show _=_
       rw [show ((c.toNat:Int)==32)=(c==32) from byte_eq (d:=32)]
       rw [Bool.and_eq_false_iff]
       by_cases h8:set=8
       ·exact .inr (beq_eq_false_iff_ne.2 (fun e=>hbk ⟨h8,e⟩))
       ·exact .inl (beq_eq_false_iff_ne.2 h8)
      clear qh ql hin hbk HP0
      generalize dgU hi=ch at *
      generalize dgU lo=cl at *
      have hw8:(set==8)=true∧((c.toNat:Int)==32)=false∨(set==8)=false:=by
       cases h8:set==8 with
       | true=>have h:=HW.out;rw [h8,Bool.true_and] at h;exact .inl ⟨rfl,h⟩
       | false=>exact .inr rfl
      clear HW
      rcases hw8 with ⟨w8,w32⟩ | w8
      all_goals
       go_wp2_with fail
       refine HIN.out.mono ?_
       rintro e wz ⟨rfl,rfl⟩
       go_wp2_with fail
       go_region_held3 (fun w'=>True) (trivial) ((refine step_append (HO.out.alloc _).drew (three_row wz _ _).drew (by simp;omega) (by simp;omega) rfl _ _ rfl rfl rfl rfl ?_;intro v' w1 ho1 hg1))
       all_goals
        have HO1:=hid ho1
        have HB1:=hid ((HB.out.alloc hsz _).drew.grown hg1 (by simp;omega) (fun k hk=>(World.ownsRow.lt HO.out k hk).1))
        clear ho1 hg1 HO HB
        go_wp2
        go_roundw
        case rel=>exact ⟨k+1,by omega,by go_num,by rw [HN.out,HP.out];exact HO1.out,HB1.out⟩
        case measure=>simp [intOf];omega
  ·have hr:=run_string (by have:=ho.row;rwa [List.take_of_length_le (by omega)] at this)
   have HB:=hid hb
   clear ho hb
   go_wp2
   go_ret
   exact ⟨rfl,HB.out⟩
end Go.Proofs.YtigfgloenjoeoaaGreatDoor
namespace Go.Proofs.YtigfgloenjoeoaaGreatDoor
open Go.RowKit
attribute [local go_sem ↓] Go.wp_at_zero Go.wp_at_succ
theorem rest_of (s:ByteArray) (k:Nat) (hk:k≤s.size):(s.extract k s.size).data.toList=s.data.toList.drop k∧(s.extract k s.size).size=s.size-k:=by
 constructor
 ·rw [ByteArray.data_extract,Array.toList_extract,List.extract_eq_take_drop]
  rw [List.take_of_length_le (by rw [List.length_drop,bytes_num];omega)]
 ·rw [ByteArray.size_extract];omega
theorem next_step {l o:List UInt8} {k m:Nat} {c:UInt8} (hk:k < l.length) (h:o++unR (l.drop k)=unR l) (hn:nextR (l.drop k)=(c,m)):(o++[c])++unR (l.drop (k+m))=unR l:=by
 have hne:l.drop k≠[]:=by intro e;have:=congrArg List.length e;simp at this;omega
 rw [← h,unR_next hne,hn,List.drop_drop]
 simp
theorem next_more {l:List UInt8} {k m:Nat} {c:UInt8} (hk:k < l.length) (hn:nextR (l.drop k)=(c,m)):1≤m∧k+m≤l.length:=by
 have hne:l.drop k≠[]:=by intro e;have:=congrArg List.length e;simp at this;omega
 have:=nextR_size hne
 rw [hn,List.length_drop] at this
 simp only [] at this
 omega
theorem next_done {l o:List UInt8} {k:Nat} (hk:¬k < l.length) (h:o++unR (l.drop k)=unR l):o=unR l:=by
 rw [List.drop_of_length_le (by omega),unR_nil,List.append_nil] at h
 exact h
theorem decode_callsPc (s:ByteArray) (w:World) (hs:s.size≤100000) :
 Calls Tryz.prog 73 #[.string s] w fun e w'=>(∃v,e=.returned v∧BRow w' v (unR s.data.toList))∧Below w.heap.size w w':=by
 have hmk:=makeB s.size (by omega)
 have HL:=hid (bytes_num s)
 have s1:(s.size:Int)≤100000:=by omega
 go_enter Tryz.func73,Tryz.ntmps73
 go_wp2
 go_loopw [3,4] (fun v i wr=>∃(k:Nat) (o:List UInt8),k≤s.size∧i=.int .i64 k∧o.length≤k∧BOwn wr w.heap.size v o∧Below w.heap.size w wr∧o++unR (s.data.toList.drop k)=unR s.data.toList) (fun _ i _=>s.size-(intOf i).toNat)
 case atStart=>exact ⟨0,[],Nat.zero_le _,rfl,Nat.le_refl _,Own.made' w _ (by omega),(Below.refl _ _).alloc (Nat.le_refl _) _,rfl⟩
 case round =>
  obtain ⟨k,o,hk,rfl,hol,ho,hb,hu⟩:=hrel
  clear hmk
  have HO:=hid ho
  have HB:=hid hb
  have HU:=hid hu
  have HOL:=hid hol
  have hsz:=hb.size
  clear ho hb hu hol
  have k0:(0:Int)≤(k:Int):=by omega
  by_cases hlt:k < s.size
  ·obtain ⟨r1,r2⟩:=rest_of s k hk
   have HC:=hid (next_callsPc (s.extract k s.size))
   rw [r1,r2] at HC
   obtain ⟨c,m,hcm⟩:∃c m,nextR (s.data.toList.drop k)=(c,m):=⟨_,_,rfl⟩
   rw [hcm] at HC
   have hkl:k < s.data.toList.length:=by rw [HL.out];exact hlt
   have HS:=hid (next_step hkl HU.out hcm)
   have HM:=hid (next_more hkl hcm)
   have hm:=HM.out
   rw [HL.out] at hm
   obtain ⟨m1,m2⟩:=hm
   have HC2:=hid (fun w=>HC.out w (by omega) (by omega))
   have m3:(1:Int)≤(m:Int):=by omega
   have m4:(k:Int)+(m:Int)≤(s.size:Int):=by omega
   have k1:(k:Int) < (s.size:Int):=by omega
   clear r1 r2 hcm hkl HC HM
   obtain ⟨v',w1,hr,ho1,hg1⟩:=append_run (HO.out.alloc (.cells #[.int .u8 (c.toNat:Int)] 5)) (one_rowPc wr c) (by have:=HOL.out;simp;omega) (by simp;omega)
   have HO1:=hid ho1
   have HB1:=hid ((HB.out.alloc hsz _).grown hg1 (by simp;omega) (fun k hk=>(World.ownsRow.lt HO.out k hk).1))
   have hcl:=byte_lt c
   clear ho1 hg1
   go_wp2_with fail
   refine (HC2.out _).mono ?_
   rintro e wz ⟨rfl,rfl⟩
   go_wp2_with (at_builtin;go_must (refine wpList_append_run hr rfl _ _ rfl rfl rfl rfl ?_))
   go_roundw
   case rel=>exact ⟨k+m,o++[c],by omega,by go_num,by have:=HOL.out;simp;omega,HO1.out,HB1.out,HS.out⟩
   case measure=>simp [intOf];omega
  ·have HX:=hid (next_done (by rw [HL.out];exact hlt) HU.out)
   have k1:¬(k:Int) < (s.size:Int):=by omega
   go_wp2
   go_ret
   exact ⟨⟨_,rfl,by rw [← HX.out];exact HO.out.row⟩,HB.out⟩
end Go.Proofs.YtigfgloenjoeoaaGreatDoor
