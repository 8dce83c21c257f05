import Derived.Test.YtigfgloenjoeoaaGreatDoorLbAZ
import Derived.Shelf.Strconv.Itoa3
import Derived.Deep.RegionWith
set_option linter.unusedVariables false
set_option linter.unusedSimpArgs false
set_option maxRecDepth 20000
set_option maxHeartbeats 16000000
namespace Go.Proofs.YtigfgloenjoeoaaGreatDoor
open Go.RowKit Go.Shelf
attribute [local go_sem ↓] Go.wp_at_zero Go.wp_at_succ
def itoaRen:Ren:=⟨fun | 129=>118 | 171=>34 | 243=>47 | 246=>63 | 283=>81 | 284=>82 | 285=>83 | 286=>84 | 317=>117 | 318=>119 | 319=>120 | 320=>121 | 337=>169 | 338=>170 | n=>n,fun | 0=>0 | 2=>2 | 3=>3 | 4=>4 | 5=>5 | 9=>9 | 20=>20 | 37=>73 | 46=>87 | 51=>22 | 53=>81 | 171=>107 | 173=>110 | 212=>133 | 213=>134 | 232=>200 | 233=>201 | n=>n,fun | 17=>1 | 18=>3 | 19=>4 | n=>n⟩
theorem itoaLays:Lays.n171 Tryz.prog itoaRen :=
 {mixed:=by kernel_rfl
  f129:=Tryz.func118.trans (congrArg some (by kernel_rfl))
  f171:=Tryz.func34.trans (congrArg some (by kernel_rfl))
  f243:=Tryz.func47.trans (congrArg some (by kernel_rfl))
  f246:=Tryz.func63.trans (congrArg some (by kernel_rfl))
  f283:=Tryz.func81.trans (congrArg some (by kernel_rfl))
  f284:=Tryz.func82.trans (congrArg some (by kernel_rfl))
  f285:=Tryz.func83.trans (congrArg some (by kernel_rfl))
  f286:=Tryz.func84.trans (congrArg some (by kernel_rfl))
  f317:=Tryz.func117.trans (congrArg some (by kernel_rfl))
  f318:=Tryz.func119.trans (congrArg some (by kernel_rfl))
  f319:=Tryz.func120.trans (congrArg some (by kernel_rfl))
  f320:=Tryz.func121.trans (congrArg some (by kernel_rfl))
  f337:=Tryz.func169.trans (congrArg some (by kernel_rfl))
  f338:=Tryz.func170.trans (congrArg some (by kernel_rfl))
  t0:=Tryz.underlying0
  a0:=Tryz.isAgg0
  z0:=Tryz.sizeOf0
  v0:=Tryz.zeroValue0
  t2:=Tryz.underlying2
  a2:=Tryz.isAgg2
  z2:=Tryz.sizeOf2
  v2:=Tryz.zeroValue2
  t3:=Tryz.underlying3
  a3:=Tryz.isAgg3
  z3:=Tryz.sizeOf3
  v3:=Tryz.zeroValue3
  t4:=Tryz.underlying4
  a4:=Tryz.isAgg4
  z4:=Tryz.sizeOf4
  v4:=Tryz.zeroValue4
  t5:=Tryz.underlying5
  a5:=Tryz.isAgg5
  z5:=Tryz.sizeOf5
  v5:=Tryz.zeroValue5
  t9:=Tryz.underlying9
  a9:=Tryz.isAgg9
  z9:=Tryz.sizeOf9
  v9:=Tryz.zeroValue9
  t20:=Tryz.underlying20
  a20:=Tryz.isAgg20
  z20:=Tryz.sizeOf20
  v20:=Tryz.zeroValue20
  t37:=Tryz.underlying73
  a37:=Tryz.isAgg73
  z37:=Tryz.sizeOf73
  v37:=Tryz.zeroValue73
  t46:=Tryz.underlying87
  a46:=Tryz.isAgg87
  z46:=Tryz.sizeOf87
  v46:=Tryz.zeroValue87
  t51:=Tryz.underlying22
  a51:=Tryz.isAgg22
  z51:=Tryz.sizeOf22
  v51:=Tryz.zeroValue22
  t53:=Tryz.underlying81
  a53:=Tryz.isAgg81
  z53:=Tryz.sizeOf81
  v53:=Tryz.zeroValue81
  t171:=Tryz.underlying107
  a171:=Tryz.isAgg107
  z171:=Tryz.sizeOf107
  v171:=Tryz.zeroValue107
  t173:=Tryz.underlying110
  a173:=Tryz.isAgg110
  z173:=Tryz.sizeOf110
  v173:=Tryz.zeroValue110
  t212:=Tryz.underlying133
  a212:=Tryz.isAgg133
  z212:=Tryz.sizeOf133
  v212:=Tryz.zeroValue133
  t213:=Tryz.underlying134
  a213:=Tryz.isAgg134
  z213:=Tryz.sizeOf134
  t232:=Tryz.underlying200
  a232:=Tryz.isAgg200
  z232:=Tryz.sizeOf200
  v232:=Tryz.zeroValue200
  t233:=Tryz.underlying201
  a233:=Tryz.isAgg201
  z233:=Tryz.sizeOf201
  v233:=Tryz.zeroValue201
  g17:=by kernel_rfl
  g18:=by kernel_rfl
  g19:=by kernel_rfl }
theorem itoaLaysM:LaysM.n171 Tryz.prog itoaRen :=
 {itoaLays with
  i0:=by kernel_rfl
  i2:=by kernel_rfl
  i3:=by kernel_rfl
  i4:=by kernel_rfl
  i5:=by kernel_rfl
  i9:=by kernel_rfl
  i20:=by kernel_rfl
  i37:=by kernel_rfl
  i46:=by kernel_rfl
  i51:=by kernel_rfl
  i53:=by kernel_rfl
  i171:=by kernel_rfl
  i173:=by kernel_rfl
  i212:=by kernel_rfl
  i232:=by kernel_rfl
  i233:=by kernel_rfl
  m17:=by kernel_rfl
  m18:=by kernel_rfl
  m19:=by kernel_rfl }
def decI (n:Int):List UInt8:=if n < 0 then 45::digsOf 10 n.natAbs else digsOf 10 n.toNat
theorem dec_digsT:∀(f u:Nat),u < f→u < 18446744073709551616→Lib.decDigits u=digsOf 10 u
 | 0,u,h,_=>absurd h (Nat.not_lt_zero u)
 | f+1,u,h,h64=>by
   rw [Lib.decDigits]
   by_cases h10:u < 10
   ·rw [dif_pos h10,digsOf_small h10]
    unfold hx;rw [if_pos h10]
   ·rw [dif_neg h10,digsOf_big (by decide) h64 h10,dec_digsT f (u/10) (by omega) (by omega)]
    unfold hx
    rw [if_pos (Nat.mod_lt u (by decide))]
theorem itoa_mineT (n:Int) (h0:-9223372036854775808≤n) (h1:n≤9223372036854775807):(⟨(Lib.itoa n).toArray⟩:ByteArray)=strOf (decI n):=by
 have h:Lib.itoa n=decI n:=by
  unfold Lib.itoa decI
  rw [dec_digsT (n.natAbs+1) _ (Nat.lt_succ_self _) (by omega),dec_digsT (n.toNat+1) _ (Nat.lt_succ_self _) (by omega)]
 rw [h];rfl
theorem below_growT (w:World) (k:Nat) (os:Array Obj):Below w.heap.size w (Sort.grow (w.drewN k) os) :=
 ⟨rfl,rfl,rfl,by show w.heap.size≤(w.heap++os).size;simp,fun i hi=>by show (w.heap++os)[i]? = _;rw [Array.getElem?_append_left hi]⟩
theorem itoa_calls (n:Int) (h0:-9223372036854775808≤n) (h1:n≤9223372036854775807) (w:World) (T:Tab w) :
 Calls Tryz.prog 34 #[.int .i64 n] w fun e w'=>e=.returned (.string (strOf (decI n)))∧Below w.heap.size w w':=by
 refine (Any.strconv_Itoa itoaLaysM n h0 h1 w T.2.1).mono ?_
 rintro e w' ⟨rfl,k,os,rfl⟩
 refine ⟨by rw [itoa_mineT n h0 h1],?_⟩
 exact below_growT w k os
theorem decI_len {n:Int} (h0:-9223372036854775808≤n) (h1:n≤9223372036854775807):(decI n).length≤65:=by
 unfold decI
 split
 ·have:=(digsOf_facts (b:=10) (by decide) (by decide) (n:=n.natAbs) (by omega)).2.2.2.1
  simp;omega
 ·have:=(digsOf_facts (b:=10) (by decide) (by decide) (n:=n.toNat) (by omega)).2.2.2.1
  omega
theorem decI_calls (n:Int) (h0:-9223372036854775808≤n) (h1:n≤9223372036854775807) (w:World):Calls Tryz.prog 36 #[.int .i64 n] w fun e w'=>e=.returned (.string (strOf (decI n)))∧Below w.heap.size w w':=by
 by_cases hn:n < 0
 ·obtain ⟨m,hm⟩:∃m:Nat,n=-(m:Int):=⟨n.natAbs,by omega⟩
  have hX:decI n=45::digsOf 10 m:=by
   unfold decI;rw [if_pos hn];congr 2;omega
  rw [hX]
  subst hm
  have m0:1≤m:=by omega
  have m1:m≤9223372036854775808:=by omega
  have hd:m%10 < 10:=Nat.mod_lt _ (by decide)
  have hcn:=hx_ten hd
  obtain ⟨c,hc⟩:∃c,hx (m%10)=c:=⟨_,rfl⟩
  obtain ⟨q,hq⟩:∃q,m/10=q:=⟨_,rfl⟩
  obtain ⟨d,hd'⟩:∃d,m%10=d:=⟨_,rfl⟩
  have e4:=byte_lt c
  have k1:(-(m:Int)).tdiv 10=-(q:Int):=by rw [Int.neg_tdiv,Int.tdiv_eq_ediv_of_nonneg (by omega)];omega
  have k2:(-(m:Int)).tmod 10=-(d:Int):=by rw [Int.neg_tmod,Int.tmod_eq_emod_of_nonneg (by omega)];omega
  rw [hc,hd'] at hcn
  have k3:(48:Int)-(-(d:Int))=(c.toNat:Int):=by omega
  have k4:IntKind.wrap .i64 (c.toNat:Int)=(c.toNat:Int):=by rw [IntKind.wrap_i64];omega
  have k5:IntKind.wrap .u8 (c.toNat:Int)=(c.toNat:Int):=by rw [IntKind.wrap_u8];omega
  have k6:IntKind.wrap .i64 (-(q:Int))=-(q:Int):=by rw [IntKind.wrap_i64];omega
  have k7:IntKind.wrap .i64 (q:Int)=(q:Int):=by rw [IntKind.wrap_i64];omega
  have k8:IntKind.wrap .i64 (-(d:Int))=-(d:Int):=by rw [IntKind.wrap_i64];omega
  have k9:(-(-(q:Int)))=(q:Int):=Int.neg_neg _
  have ka:(-(m:Int)) < 0:=hn
  have hcv:∀w:World,(convert 73 9 (.slice (some ⟨w.heap.size,0,none⟩) 1 1)).run Tryz.prog (w.alloc (.cells #[.int .u8 (c.toNat:Int)] 5))=.ok (.string (strOf [c])) (w.alloc (.cells #[.int .u8 (c.toNat:Int)] 5)):=fun w=>run_string (byteS_row w c)
  have hcvd:∀w:World,(convert 73 9 (.slice (some ⟨w.heap.size,0,none⟩) 1 1)).run Tryz.prog (w.alloc (.cells #[.int .u8 (c.toNat:Int)] 5)).drew=.ok (.string (strOf [c])) (w.alloc (.cells #[.int .u8 (c.toNat:Int)] 5)).drew:=fun w=>run_string (byteS_row w c).drew
  have hs2:(strOf [c]).size=1:=rfl
  have HCM:Hid ((⟨#[45]⟩:ByteArray)=strOf [45]):=hid rfl
  by_cases h10:m < 10
  ·have HD:Hid (digsOf 10 m=[c]):=by show _=_;rw [digsOf_small h10,← hc,Nat.mod_eq_of_lt h10]
   rw [HD.out]
   have q0:q=0:=by omega
   subst q0
   have HCat:=hid (cat_str [45] [c])
   clear hcn hc hq hd' hd m0 m1 h0 h1 hn hX k9 h10
   go_enter Tryz.func36,Tryz.ntmps36
   go_wp2_with fail
   go_ret
   exact ⟨by first | rfl | (rw [HCM.out,HCat.out];rfl),(Below.refl _ _).alloc (Nat.le_refl _) _⟩
  ·have HD:Hid (digsOf 10 m=digsOf 10 q++[c]):=by show _=_;rw [digsOf_big (by decide) (by omega) h10,hc,hq]
   rw [HD.out]
   have IH:=hid (fun w=>dec_calls 20 q w (by omega) (by omega))
   have hlen:=(digsOf_facts (b:=10) (by decide) (by decide) (n:=q) (by omega)).2.2.2.1
   have HCat:Hid ((strOf [45]++strOf (digsOf 10 q))++strOf [c]=strOf (45::(digsOf 10 q++[c]))):=by show _=_;rw [cat_str,cat_str];rfl
   have hs1:((strOf (digsOf 10 q)).size:Int)≤64:=by rw [str_size];omega
   have kq:((-(q:Int))==0)=false:=beq_eq_false_iff_ne.2 (by omega)
   have kr:¬(-(q:Int))=0:=by omega
   clear hcn hc hq hd' hd m0 m1 h0 h1 hn hX h10 hlen HD
   generalize strOf (digsOf 10 q)=Q at *
   go_enter Tryz.func36,Tryz.ntmps36
   go_wp2_with fail
   go_region_with ((go_at_call 36;refine (IH.out _).mono ?_;rintro e w2 ⟨rfl,hb2⟩;first | have hcv2:=run_string ((byteS_row w c).drew.below hb2) | skip))
   all_goals
    go_wp2_with fail
    go_ret
    refine ⟨by first | (rw [← HCat.out];rfl) | rfl,?_⟩
    first
     | exact ((Below.refl w.heap.size w).drew.trans hb2).alloc hb2.size _
     | exact (((Below.refl w.heap.size w).alloc (Nat.le_refl _) _).drew).trans (hb2.mono (by simp))
 ·obtain ⟨m,rfl⟩:∃m:Nat,n=(m:Int):=⟨n.toNat,by omega⟩
  have hX:decI (m:Int)=digsOf 10 m:=by
   unfold decI;rw [if_neg hn];congr 1
  rw [hX]
  exact dec_calls 20 m w (by omega) (by omega)
end Go.Proofs.YtigfgloenjoeoaaGreatDoor
