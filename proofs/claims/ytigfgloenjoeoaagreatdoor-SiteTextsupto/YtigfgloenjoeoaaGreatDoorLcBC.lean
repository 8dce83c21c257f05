import Derived.Test.YtigfgloenjoeoaaGreatDoorLcBA
import Derived.Deep.WholeRow
set_option linter.unusedVariables false
set_option linter.unusedSimpArgs false
set_option maxRecDepth 20000
set_option maxHeartbeats 16000000
namespace Go.Proofs.YtigfgloenjoeoaaGreatDoor
open Go.RowKit
def z65:Array Value:=((List.replicate 65 (0:UInt8)).map fb).toArray
theorem info_65:(Tryz.prog.info? 134).map (fun i=>(i.zero,i.size))=some (some (.agg z65),65):=by kernel_rfl
theorem zero_65 (w:World):(zeroValue 134).run Tryz.prog w=.ok (.agg z65) w:=(zero_of_info info_65).1 w
theorem cells_65:(Value.agg z65).cells=z65:=by kernel_rfl
theorem digs36_at (h:Nat) (hh:h < 16) (w:World):(Instr.index 9 (.string ⟨#[48,49,50,51,52,53,54,55,56,57,97,98,99,100,101,102,103,104,105,106,107,108,109,110,111,112,113,114,115,116,117,118,119,120,121,122]⟩) (.int .u64 (h:Int))).run Tryz.prog w=.ok (.int .u8 ((hx h).toNat:Int)) w:=by
 obtain rfl | rfl | rfl | rfl | rfl | rfl | rfl | rfl | rfl | rfl | rfl | rfl | rfl | rfl | rfl | rfl:h=0∨h=1∨h=2∨h=3∨h=4∨h=5∨h=6∨h=7∨h=8∨h=9∨h=10∨h=11∨h=12∨h=13∨h=14∨h=15:=by omega
 all_goals kernel_rfl
theorem u64_15 (x:Nat) (hx:x < 18446744073709551616):bits .and .u64 (x:Int) 15=((x%16:Nat):Int):=by
 rw [show (15:Int)=((15:Nat):Int) from rfl,u64_and_nat x 15 hx (by decide),Nat.and_two_pow_sub_one_eq_mod x 4]
theorem ppow_calls (w:World):Calls Tryz.prog 120 #[.int .i64 16] w fun e w'=>e=.returned (.bool true)∧w'=w:=by
 have h1:bits .and .i64 16 15=0:=by kernel_rfl
 go_enter Tryz.func120,Tryz.ntmps120
 go_wp2_with fail
 go_ret
 exact ⟨rfl,rfl⟩
theorem ptz64_calls (w:World) (ht:Tab w):Calls Tryz.prog 170 #[.int .u64 16] w fun e w'=>e=.returned (.int .i64 4)∧w'=w:=by
 have h0:IntKind.wrap .u64 (-16)=18446744073709551600:=by kernel_rfl
 have h1:bits .and .u64 16 18446744073709551600=16:=by kernel_rfl
 have hc:=ht.2.2
 have h2:IntKind.wrap .u64 4573923408821661840=4573923408821661840:=by kernel_rfl
 go_enter Tryz.func170,Tryz.ntmps170
 go_wp2_with fail
 go_ret
 exact ⟨rfl,rfl⟩
theorem ptz_calls (w:World) (ht:Tab w):Calls Tryz.prog 121 #[.int .u64 16] w fun e w'=>e=.returned (.int .i64 4)∧w'=w:=by
 have HC:=hid (ptz64_calls w ht)
 clear ht
 go_enter Tryz.func121,Tryz.ntmps121
 go_wp2_with fail
 refine HC.out.mono ?_
 rintro e w1 ⟨rfl,rfl⟩
 go_wp2_with fail
 go_ret
 exact ⟨rfl,rfl⟩
def FAt (u:Nat) (q k:Nat) (ds:List UInt8):Prop:=k+ds.length=65∧digsOf 16 u=digsOf 16 q++ds∧q < 65536∧((ds.length=0)∨(ds.length=1∧q < 4096)∨(ds.length=2∧q < 256)∨(ds.length=3∧q < 16))
theorem FAt.start {u:Nat} (h:u < 65536):FAt u u 65 []:=⟨rfl,by simp,h,.inl rfl⟩
theorem FAt.step {u q k:Nat} {ds:List UInt8} (h:FAt u q (k+1) ds) (hq:¬q < 16):FAt u (q/16) k (hx (q%16)::ds):=by
 obtain ⟨h1,h2,h3,h4⟩:=h
 refine ⟨by simp only [List.length_cons];omega,?_,by omega,?_⟩
 ·rw [h2,digsOf_big (by decide) (by omega) hq];simp
 ·simp only [List.length_cons];omega
theorem FAt.last {u q k:Nat} {ds:List UInt8} (h:FAt u q k ds) (hq:q < 16):digsOf 16 u=hx q::ds:=by
 rw [h.2.1,digsOf_small hq];rfl
theorem FAt.place {u q k:Nat} {ds:List UInt8} (h:FAt u q k ds):62≤k:=by
 obtain ⟨h1,h2,h3,h4⟩:=h;omega
theorem rep_set {k:Nat} {ds:List UInt8} (c:UInt8):(List.replicate (k+1) (0:UInt8)++ds).set k c=List.replicate k 0++c::ds:=by
 rw [List.replicate_succ',List.append_assoc,List.set_append_right _ _ (by simp),List.length_replicate,Nat.sub_self]
 rfl
theorem rep_row {w:World} {g k:Nat} {t:TypeId} {ds:List UInt8} (h:Bk fb t w g (List.replicate k 0++ds)) (hk:k+ds.length=65):BRow w (.slice (some ⟨g,k,none⟩) ds.length ds.length) ds:=by
 refine ⟨some ⟨g,k,none⟩,ds.length,rfl,Nat.le_refl _,by unfold maxLen;omega,fun _=>⟨g,k,rfl,h.lt,fun i hi=>?_⟩⟩
 have:=(h.cell (k+i) (by simp;omega)).1
 rw [this,List.getElem_append_right (by simp)]
 simp
theorem pfb_calls (B:Nat) (v:Value) (l:List UInt8) (u:Nat) (hu:u < 65536) (w:World) (ho:BOwn w B v l) (hB:B≤w.heap.size) (hl:l.length≤100000) (ht:Tab w) :
 Calls Tryz.prog 84 #[v,.int .u64 (u:Int),.int .i64 16,.bool false,.bool true] w fun e w'=>∃v',e=.returned (.tuple #[v',.string ⟨#[]⟩])∧BOwn w' B v' (l++digsOf 16 u)∧Below B w w':=by
 have hz:=zero_65
 have hzc:=cells_65
 have HBk:Hid (Bk fb 134 (w.alloc (.cells z65 134)) w.heap.size (List.replicate 65 0++[])):=heap_alloc_new w _
 have HB0:=hid ((Below.refl w.heap.size w).alloc (Nat.le_refl _) (.cells z65 134))
 have HT:=hid (ht.alloc (.cells z65 134))
 have HO:=hid ho
 have HL:=hid hl
 have HB:=hid hB
 have HS:=hid (FAt.start hu)
 have u1:(u:Int) < 65536:=by omega
 clear ht ho hl hB hu
 go_enter Tryz.func84,Tryz.ntmps84
 go_wp2_with fail
 refine (ppow_calls _).mono ?_
 rintro e w1 ⟨rfl,rfl⟩
 go_wp2_with fail
 refine (ptz_calls _ HT.out).mono ?_
 rintro e w1 ⟨rfl,rfl⟩
 go_wp2_with fail
 go_loopw [1,13] (fun vu vi wr=>∃(q k:Nat) (ds:List UInt8),vu=.int .u64 (q:Int)∧vi=.int .i64 (k:Int)∧FAt u q k ds∧Bk fb 134 wr w.heap.size (List.replicate k 0++ds)∧Below w.heap.size w wr) (fun vu _ _=>(intOf vu).toNat)
 case atStart=>exact ⟨u,65,[],rfl,rfl,HS.out,HBk.out,HB0.out⟩
 case round =>
  obtain ⟨q,k,ds,rfl,rfl,hf,hbk,hbw⟩:=hrel
  have hp:=hf.place
  have hk65:=hf.1
  have hq65:=hf.2.2.1
  have HF:=hid hf
  have HK:=hid hbk
  have HW:=hid hbw
  obtain ⟨m,rfl⟩:∃m,k=m+1:=⟨k-1,by omega⟩
  have m0:(0:Int)≤(m:Int):=by omega
  have m1:(m:Int) < 65:=by omega
  have q0:(0:Int)≤(q:Int):=by omega
  have q1:(q:Int) < 65536:=by omega
  obtain ⟨oc,of⟩:=hbk.cell m (by simp;omega)
  obtain ⟨ov,hov⟩:∃ov,fb ((List.replicate (m+1) (0:UInt8)++ds)[m]'(by simp;omega))=ov:=⟨_,rfl⟩
  rw [hov] at oc
  clear hf hbk hbw HT HBk HB0 HS hov
  by_cases h16:q < 16
  ·have hd:=digs36_at q h16
   have HSet:=hid (HK.out.set m (hx q))
   rw [rep_set] at HSet
   have HLast:=hid (HF.out.last h16)
   have HWs:=hid (belowSet HW.out (Nat.le_refl _) HW.out.size m (fb (hx q)))
   have q2:¬(16:Int)≤(q:Int):=by omega
   have hrow:=rep_row HSet.out (by simp only [List.length_cons];omega)
   have hone:(hx q::ds).length=65-m:=by simp only [List.length_cons];omega
   have HO2:=hid (HO.out.below HWs.out)
   have hdl:(hx q::ds).length≤100:=by omega
   rw [hone] at hrow
   obtain ⟨v',w3,hr,ho3,hg3⟩:=append_run HO2.out hrow (by have:=HL.out;omega) (Nat.le_trans HB.out HWs.out.size)
   have HO3:=hid ho3
   have HB3:=hid ((HWs.out.mono HB.out).grown hg3 (Nat.le_trans HB.out HWs.out.size) (fun k hk=>(World.ownsRow.lt HO2.out k hk).1))
   clear ho3 hg3 hrow hone hdl h16 hp hk65 hq65 HSet HK HF HO2
   unfold fb at hr
   have hsl:∀W,(Instr.sliceAt 134 (.pointer (some ⟨w.heap.size,0,none⟩)) (some (.int .i64 (m:Int))) none none).run Tryz.prog W=.ok (.slice (some ⟨w.heap.size,m,none⟩) (65-m) (65-m)) W:=fun W=>by
    have hal:Tryz.prog.arrayLen 134=65:=by kernel_rfl
    rw [run_sliceAt_array_l W 134 ⟨w.heap.size,0,none⟩ (by kernel_rfl) .i64 (m:Int) (by omega) (by rw [hal];omega),hal]
    have he:Tryz.prog.elem 134=5:=by kernel_rfl
    rw [he,Tryz.sizeOf5]
    have hne:¬(65:Nat)=(m:Int).toNat:=by omega
    simp only [slicedAt,Result.andThen,if_neg hne,Int.toNat_natCast,Nat.mul_one,addr_add,Nat.zero_add]
    rw [if_neg (by omega)]
   go_wp2_with (at_builtin;go_must (refine wpList_append_run hr rfl _ _ rfl rfl rfl rfl ?_))
   go_ret2
   exact ⟨_,rfl,by rw [HLast.out];exact HO3.out,HB3.out⟩
  ·have HStep:=hid (HF.out.step h16)
   obtain ⟨d,hd⟩:∃d,q%16=d:=⟨_,rfl⟩
   obtain ⟨p,hpq⟩:∃p,q/16=p:=⟨_,rfl⟩
   have hlt:p < q:=by omega
   have HLt:=hid hlt
   have hand:=u64_15 q (by omega)
   rw [hd] at hand HStep
   rw [hpq] at HStep
   have hdig:=digs36_at d (by omega)
   have hdv:(q:Int)/16=(p:Int):=by omega
   have HSet:=hid (HK.out.set m (hx d))
   rw [rep_set] at HSet
   have HWs:=hid (belowSet HW.out (Nat.le_refl _) HW.out.size m (fb (hx d)))
   have q2:(16:Int)≤(q:Int):=by omega
   have p0:(0:Int)≤(p:Int):=by omega
   have p1:(p:Int) < 65536:=by omega
   have d0:(0:Int)≤(d:Int):=by omega
   have d1:(d:Int) < 16:=by omega
   clear h16 hp hk65 hq65 hlt hd hpq HK HF HW
   go_wp2_with fail
   go_roundw
   case rel=>exact ⟨p,m,_,by first | rfl | rw [hdv] | (simp only [hdv]),rfl,HStep.out,HSet.out,HWs.out⟩
   case measure=>have:=HLt.out;simp [intOf];omega
theorem pau16in_calls (B:Nat) (v:Value) (l:List UInt8) (u:Nat) (hu:u < 65536) (w:World) (ho:BOwn w B v l) (hB:B≤w.heap.size) (hl:l.length≤100000) (ht:Tab w) :
 Calls Tryz.prog 80 #[v,.int .u64 (u:Int),.int .i64 16] w fun e w'=>∃v',e=.returned v'∧BOwn w' B v' (l++digsOf 16 u)∧Below B w w':=by
 have HC:=hid (pfb_calls B v l u hu w ho hB hl ht)
 have u1:(u:Int) < 65536:=by omega
 clear ho hB hl ht hu
 go_enter Tryz.func80,Tryz.ntmps80
 go_wp2_with fail
 refine HC.out.mono ?_
 rintro e w1 ⟨v',rfl,h1,h2⟩
 have H1:=hid h1
 have H2:=hid h2
 clear h1 h2
 go_wp2_with fail
 go_ret
 exact ⟨_,rfl,H1.out,H2.out⟩
theorem pau16_calls (B:Nat) (v:Value) (l:List UInt8) (u:Nat) (hu:u < 65536) (w:World) (ho:BOwn w B v l) (hB:B≤w.heap.size) (hl:l.length≤100000) (ht:Tab w) :
 Calls Tryz.prog 60 #[v,.int .u64 (u:Int),.int .i64 16] w fun e w'=>∃v',e=.returned v'∧BOwn w' B v' (l++digsOf 16 u)∧Below B w w':=by
 have HC:=hid (pau16in_calls B v l u hu w ho hB hl ht)
 have u1:(u:Int) < 65536:=by omega
 clear ho hB hl ht hu
 go_enter Tryz.func60,Tryz.ntmps60
 go_wp2_with fail
 refine HC.out.mono ?_
 rintro e w1 ⟨v',rfl,h1,h2⟩
 have H1:=hid h1
 have H2:=hid h2
 clear h1 h2
 go_wp2_with fail
 go_ret
 exact ⟨_,rfl,H1.out,H2.out⟩
end Go.Proofs.YtigfgloenjoeoaaGreatDoor
