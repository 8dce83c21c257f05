import Derived.Test.YtigfgloenjoeoaaGreatDoorLcBA
import Derived.Shelf.Strconv.Itoa3
import Derived.Deep.RegionWith
set_option linter.unusedVariables false
set_option linter.unusedSimpArgs false
set_option maxRecDepth 20000
set_option maxHeartbeats 16000000
namespace Go.Proofs.YtigfgloenjoeoaaGreatDoor
open Go.RowKit Go.Shelf
attribute [local go_sem ↓] Go.wp_at_zero Go.wp_at_succ
def itoaRen:Ren:=⟨fun | 129=>118 | 171=>34 | 243=>47 | 246=>63 | 283=>81 | 284=>82 | 285=>83 | 286=>84 | 317=>117 | 318=>119 | 319=>120 | 320=>121 | 337=>169 | 338=>170 | n=>n,fun | 0=>0 | 2=>2 | 3=>3 | 4=>4 | 5=>5 | 9=>9 | 20=>20 | 37=>73 | 46=>87 | 51=>22 | 53=>81 | 171=>107 | 173=>110 | 212=>133 | 213=>134 | 232=>200 | 233=>201 | n=>n,fun | 17=>1 | 18=>3 | 19=>4 | n=>n⟩
theorem itoaLays:Lays.n171 Tryz.prog itoaRen :=
 {mixed:=by kernel_rfl
  f129:=Tryz.func118.trans (congrArg some (by kernel_rfl))
  f171:=Tryz.func34.trans (congrArg some (by kernel_rfl))
  f243:=Tryz.func47.trans (congrArg some (by kernel_rfl))
  f246:=Tryz.func63.trans (congrArg some (by kernel_rfl))
  f283:=Tryz.func81.trans (congrArg some (by kernel_rfl))
  f284:=Tryz.func82.trans (congrArg some (by kernel_rfl))
  f285:=Tryz.func83.trans (congrArg some (by kernel_rfl))
  f286:=Tryz.func84.trans (congrArg some (by kernel_rfl))
  f317:=Tryz.func117.trans (congrArg some (by kernel_rfl))
  f318:=Tryz.func119.trans (congrArg some (by kernel_rfl))
  f319:=Tryz.func120.trans (congrArg some (by kernel_rfl))
  f320:=Tryz.func121.trans (congrArg some (by kernel_rfl))
  f337:=Tryz.func169.trans (congrArg some (by kernel_rfl))
  f338:=Tryz.func170.trans (congrArg some (by kernel_rfl))
  t0:=Tryz.underlying0
  a0:=Tryz.isAgg0
  z0:=Tryz.sizeOf0
  v0:=Tryz.zeroValue0
  t2:=Tryz.underlying2
  a2:=Tryz.isAgg2
  z2:=Tryz.sizeOf2
  v2:=Tryz.zeroValue2
  t3:=Tryz.underlying3
  a3:=Tryz.isAgg3
  z3:=Tryz.sizeOf3
  v3:=Tryz.zeroValue3
  t4:=Tryz.underlying4
  a4:=Tryz.isAgg4
  z4:=Tryz.sizeOf4
  v4:=Tryz.zeroValue4
  t5:=Tryz.underlying5
  a5:=Tryz.isAgg5
  z5:=Tryz.sizeOf5
  v5:=Tryz.zeroValue5
  t9:=Tryz.underlying9
  a9:=Tryz.isAgg9
  z9:=Tryz.sizeOf9
  v9:=Tryz.zeroValue9
  t20:=Tryz.underlying20
  a20:=Tryz.isAgg20
  z20:=Tryz.sizeOf20
  v20:=Tryz.zeroValue20
  t37:=Tryz.underlying73
  a37:=Tryz.isAgg73
  z37:=Tryz.sizeOf73
  v37:=Tryz.zeroValue73
  t46:=Tryz.underlying87
  a46:=Tryz.isAgg87
  z46:=Tryz.sizeOf87
  v46:=Tryz.zeroValue87
  t51:=Tryz.underlying22
  a51:=Tryz.isAgg22
  z51:=Tryz.sizeOf22
  v51:=Tryz.zeroValue22
  t53:=Tryz.underlying81
  a53:=Tryz.isAgg81
  z53:=Tryz.sizeOf81
  v53:=Tryz.zeroValue81
  t171:=Tryz.underlying107
  a171:=Tryz.isAgg107
  z171:=Tryz.sizeOf107
  v171:=Tryz.zeroValue107
  t173:=Tryz.underlying110
  a173:=Tryz.isAgg110
  z173:=Tryz.sizeOf110
  v173:=Tryz.zeroValue110
  t212:=Tryz.underlying133
  a212:=Tryz.isAgg133
  z212:=Tryz.sizeOf133
  v212:=Tryz.zeroValue133
  t213:=Tryz.underlying134
  a213:=Tryz.isAgg134
  z213:=Tryz.sizeOf134
  t232:=Tryz.underlying200
  a232:=Tryz.isAgg200
  z232:=Tryz.sizeOf200
  v232:=Tryz.zeroValue200
  t233:=Tryz.underlying201
  a233:=Tryz.isAgg201
  z233:=Tryz.sizeOf201
  v233:=Tryz.zeroValue201
  g17:=by kernel_rfl
  g18:=by kernel_rfl
  g19:=by kernel_rfl }
theorem itoaLaysM:LaysM.n171 Tryz.prog itoaRen :=
 {itoaLays with
  i0:=by kernel_rfl
  i2:=by kernel_rfl
  i3:=by kernel_rfl
  i4:=by kernel_rfl
  i5:=by kernel_rfl
  i9:=by kernel_rfl
  i20:=by kernel_rfl
  i37:=by kernel_rfl
  i46:=by kernel_rfl
  i51:=by kernel_rfl
  i53:=by kernel_rfl
  i171:=by kernel_rfl
  i173:=by kernel_rfl
  i212:=by kernel_rfl
  i232:=by kernel_rfl
  i233:=by kernel_rfl
  m17:=by kernel_rfl
  m18:=by kernel_rfl
  m19:=by kernel_rfl }
def decI (n:Int):List UInt8:=if n < 0 then 45::digsOf 10 n.natAbs else digsOf 10 n.toNat
theorem dec_digsT:∀(f u:Nat),u < f→u < 18446744073709551616→Lib.decDigits u=digsOf 10 u
 | 0,u,h,_=>absurd h (Nat.not_lt_zero u)
 | f+1,u,h,h64=>by
   rw [Lib.decDigits]
   by_cases h10:u < 10
   ·rw [dif_pos h10,digsOf_small h10]
    unfold hx;rw [if_pos h10]
   ·rw [dif_neg h10,digsOf_big (by decide) h64 h10,dec_digsT f (u/10) (by omega) (by omega)]
    unfold hx
    rw [if_pos (Nat.mod_lt u (by decide))]
theorem itoa_mineT (n:Int) (h0:-9223372036854775808≤n) (h1:n≤9223372036854775807):(⟨(Lib.itoa n).toArray⟩:ByteArray)=strOf (decI n):=by
 have h:Lib.itoa n=decI n:=by
  unfold Lib.itoa decI
  rw [dec_digsT (n.natAbs+1) _ (Nat.lt_succ_self _) (by omega),dec_digsT (n.toNat+1) _ (Nat.lt_succ_self _) (by omega)]
 rw [h];rfl
theorem below_growT (w:World) (k:Nat) (os:Array Obj):Below w.heap.size w (Sort.grow (w.drewN k) os) :=
 ⟨rfl,rfl,rfl,by show w.heap.size≤(w.heap++os).size;simp,fun i hi=>by show (w.heap++os)[i]? = _;rw [Array.getElem?_append_left hi]⟩
theorem itoa_calls (n:Int) (h0:-9223372036854775808≤n) (h1:n≤9223372036854775807) (w:World) (T:Tab w) :
 Calls Tryz.prog 34 #[.int .i64 n] w fun e w'=>e=.returned (.string (strOf (decI n)))∧Below w.heap.size w w':=by
 refine (Any.strconv_Itoa itoaLaysM n h0 h1 w T.2.1).mono ?_
 rintro e w' ⟨rfl,k,os,rfl⟩
 refine ⟨by rw [itoa_mineT n h0 h1],?_⟩
 exact below_growT w k os
theorem decI_len {n:Int} (h0:-9223372036854775808≤n) (h1:n≤9223372036854775807):(decI n).length≤65:=by
 unfold decI
 split
 ·have:=(digsOf_facts (b:=10) (by decide) (by decide) (n:=n.natAbs) (by omega)).2.2.2.1
  simp;omega
 ·have:=(digsOf_facts (b:=10) (by decide) (by decide) (n:=n.toNat) (by omega)).2.2.2.1
  omega
end Go.Proofs.YtigfgloenjoeoaaGreatDoor
