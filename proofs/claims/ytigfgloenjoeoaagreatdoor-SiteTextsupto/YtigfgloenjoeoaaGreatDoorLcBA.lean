import Derived.Test.YtigfgloenjoeoaaGreatDoorLcAT
import Derived.Test.YtigfgloenjoeoaaGreatDoorLcAH
import Derived.Shelf.Strconv.AppendUint10
import Derived.Lib.SmallJoins
import Derived.Deep.DeepMust
set_option linter.unusedVariables false
set_option linter.unusedSimpArgs false
set_option maxRecDepth 20000
set_option maxHeartbeats 16000000
namespace Go.Proofs.YtigfgloenjoeoaaGreatDoor
open Go.RowKit Go.Shelf
def pauRen:Ren:=⟨fun | 129=>118 | 283=>81 | 284=>82 | 285=>83 | 286=>84 | 288=>80 | 317=>117 | 318=>119 | 319=>120 | 320=>121 | 337=>169 | 338=>170 | n=>n,fun | 0=>0 | 3=>3 | 4=>4 | 5=>5 | 9=>9 | 20=>20 | 37=>73 | 46=>87 | 51=>22 | 53=>81 | 171=>107 | 173=>110 | 212=>133 | 213=>134 | 232=>200 | 233=>201 | n=>n,fun | 17=>1 | 18=>3 | 19=>4 | n=>n⟩
theorem pauLays:Lays.n288 Tryz.prog pauRen :=
 {mixed:=by kernel_rfl
  f129:=Tryz.func118.trans (congrArg some (by kernel_rfl))
  f283:=Tryz.func81.trans (congrArg some (by kernel_rfl))
  f284:=Tryz.func82.trans (congrArg some (by kernel_rfl))
  f285:=Tryz.func83.trans (congrArg some (by kernel_rfl))
  f286:=Tryz.func84.trans (congrArg some (by kernel_rfl))
  f288:=Tryz.func80.trans (congrArg some (by kernel_rfl))
  f317:=Tryz.func117.trans (congrArg some (by kernel_rfl))
  f318:=Tryz.func119.trans (congrArg some (by kernel_rfl))
  f319:=Tryz.func120.trans (congrArg some (by kernel_rfl))
  f320:=Tryz.func121.trans (congrArg some (by kernel_rfl))
  f337:=Tryz.func169.trans (congrArg some (by kernel_rfl))
  f338:=Tryz.func170.trans (congrArg some (by kernel_rfl))
  t0:=Tryz.underlying0
  a0:=Tryz.isAgg0
  z0:=Tryz.sizeOf0
  v0:=Tryz.zeroValue0
  t3:=Tryz.underlying3
  a3:=Tryz.isAgg3
  z3:=Tryz.sizeOf3
  v3:=Tryz.zeroValue3
  t4:=Tryz.underlying4
  a4:=Tryz.isAgg4
  z4:=Tryz.sizeOf4
  v4:=Tryz.zeroValue4
  t5:=Tryz.underlying5
  a5:=Tryz.isAgg5
  z5:=Tryz.sizeOf5
  v5:=Tryz.zeroValue5
  t9:=Tryz.underlying9
  a9:=Tryz.isAgg9
  z9:=Tryz.sizeOf9
  v9:=Tryz.zeroValue9
  t20:=Tryz.underlying20
  a20:=Tryz.isAgg20
  z20:=Tryz.sizeOf20
  v20:=Tryz.zeroValue20
  t37:=Tryz.underlying73
  a37:=Tryz.isAgg73
  z37:=Tryz.sizeOf73
  v37:=Tryz.zeroValue73
  t46:=Tryz.underlying87
  a46:=Tryz.isAgg87
  z46:=Tryz.sizeOf87
  v46:=Tryz.zeroValue87
  t51:=Tryz.underlying22
  a51:=Tryz.isAgg22
  z51:=Tryz.sizeOf22
  v51:=Tryz.zeroValue22
  t53:=Tryz.underlying81
  a53:=Tryz.isAgg81
  z53:=Tryz.sizeOf81
  v53:=Tryz.zeroValue81
  t171:=Tryz.underlying107
  a171:=Tryz.isAgg107
  z171:=Tryz.sizeOf107
  v171:=Tryz.zeroValue107
  t173:=Tryz.underlying110
  a173:=Tryz.isAgg110
  z173:=Tryz.sizeOf110
  v173:=Tryz.zeroValue110
  t212:=Tryz.underlying133
  a212:=Tryz.isAgg133
  z212:=Tryz.sizeOf133
  v212:=Tryz.zeroValue133
  t213:=Tryz.underlying134
  a213:=Tryz.isAgg134
  z213:=Tryz.sizeOf134
  t232:=Tryz.underlying200
  a232:=Tryz.isAgg200
  z232:=Tryz.sizeOf200
  v232:=Tryz.zeroValue200
  t233:=Tryz.underlying201
  a233:=Tryz.isAgg201
  z233:=Tryz.sizeOf201
  v233:=Tryz.zeroValue201
  g17:=by kernel_rfl
  g18:=by kernel_rfl
  g19:=by kernel_rfl }
theorem pauLaysM:LaysM.n288 Tryz.prog pauRen :=
 {pauLays with
  i0:=by kernel_rfl
  i3:=by kernel_rfl
  i4:=by kernel_rfl
  i5:=by kernel_rfl
  i9:=by kernel_rfl
  i20:=by kernel_rfl
  i37:=by kernel_rfl
  i46:=by kernel_rfl
  i51:=by kernel_rfl
  i53:=by kernel_rfl
  i171:=by kernel_rfl
  i173:=by kernel_rfl
  i212:=by kernel_rfl
  i232:=by kernel_rfl
  i233:=by kernel_rfl
  m17:=by kernel_rfl
  m18:=by kernel_rfl
  m19:=by kernel_rfl }
def Tab (w:World):Prop:=MaxL w∧Lib.TabIs Tryz.prog w "internal/strconv.uint64pow10" .u64 Lib.pow10Tab∧w.cell? ⟨4,15,none⟩=some (.int .u8 4)
theorem gPow:Tryz.prog.globalNamed "internal/strconv.uint64pow10" = some 1:=by kernel_rfl
theorem MaxL.below {w w':World} (h:MaxL w) (hb:Below w.heap.size w w'):MaxL w':=by
 obtain ⟨m,hm⟩:=h
 exact ⟨m,(hb.cell (World.block_lt_of_cell? w _ hm)).trans hm⟩
theorem Tab.below {w w':World} (h:Tab w) (hb:Below w.heap.size w w'):Tab w' :=
 ⟨h.1.below hb,Go.Joins.tab_stays gPow h.2.1 hb (Nat.le_refl _),(hb.cell (World.block_lt_of_cell? w _ h.2.2)).trans h.2.2⟩
theorem Tab.alloc {w:World} (h:Tab w) (o:Obj):Tab (w.alloc o):=h.below ((Below.refl _ _).alloc (Nat.le_refl _) _)
theorem dec_mine:∀u,u < 256→Lib.decDigits u=digsOf 10 u:=by decide +kernel
theorem digs_len3:∀u,u < 256→(digsOf 10 u).length≤3:=by decide +kernel
theorem pau10in_calls (B:Nat) (v:Value) (l:List UInt8) (u:Nat) (hu:u < 256) (w:World) (ho:BOwn w B v l) (hB:B≤w.heap.size) (hl:l.length≤100000) (ht:Tab w) :
 Calls Tryz.prog 80 #[v,.int .u64 (u:Int),.int .i64 10] w fun e w'=>∃v',e=.returned v'∧BOwn w' B v' (l++digsOf 10 u)∧Below B w w':=by
 have hd:=dec_mine u hu
 have key:∀{v':Value} {w':World},w'.ownsRow B 5 1 v' (l.length+(Lib.decDigits u).length) (l.map fb++Lib.byteCells (Lib.decDigits u))→BOwn w' B v' (l++digsOf 10 u):=by
  intro v' w' h
  unfold BOwn Own
  rw [List.length_append,List.map_append,← hd]
  exact h
 rcases Nat.lt_or_ge u 100 with h | h
 ·refine (Any.internal_strconv_AppendUint_10_small pauLaysM B l.length u h v (l.map fb) w ho hB (by omega)).mono ?_
  rintro e w' ⟨v',rfl,h1,h2,-⟩
  exact ⟨v',rfl,key h1,h2⟩
 ·refine (Any.internal_strconv_AppendUint_10_big pauLaysM B l.length u h (by omega) v (l.map fb) w ho hB (by omega) ht.2.1).mono ?_
  rintro e w' ⟨v',rfl,h1,h2,-⟩
  exact ⟨v',rfl,key h1,h2⟩
theorem pau10_calls (B:Nat) (v:Value) (l:List UInt8) (u:Nat) (hu:u < 256) (w:World) (ho:BOwn w B v l) (hB:B≤w.heap.size) (hl:l.length≤100000) (ht:Tab w) :
 Calls Tryz.prog 60 #[v,.int .u64 (u:Int),.int .i64 10] w fun e w'=>∃v',e=.returned v'∧BOwn w' B v' (l++digsOf 10 u)∧Below B w w':=by
 have HC:=hid (pau10in_calls B v l u hu w ho hB hl ht)
 have u1:(u:Int) < 256:=by omega
 clear ho hB hl ht hu
 go_enter Tryz.func60,Tryz.ntmps60
 go_wp2_with fail
 refine HC.out.mono ?_
 rintro e w1 ⟨v',rfl,h1,h2⟩
 have H1:=hid h1
 have H2:=hid h2
 clear h1 h2
 go_wp2_with fail
 go_ret
 exact ⟨_,rfl,H1.out,H2.out⟩
theorem appendStr_run {w:World} {base:Nat} {v:Value} {xs:List UInt8} (hown:BOwn w base v xs) (s:ByteArray) (hlen:xs.length+s.size≤1000000) (hbase:base≤w.heap.size) :
 ∃v' w',(Builtin.append_ #[73,9] 73 #[v,.string s]).run Tryz.prog w=.ok v' w'∧BOwn w' base v' (xs++s.data.toList)∧w.grownBy w' v.ownBlock:=by
 obtain ⟨i0,hi,hz0,hz1,hz2⟩:=info_parts info_u8
 obtain ⟨v',w',hr,ho,hg,_⟩:=Lib.run_append_own_string (P:=Tryz.prog) w base 73 9 73 5 i0 Tryz.underlying73 Tryz.underlying9 hi hz0 hz1 hz2 v xs.length (xs.map fb) hown s (by unfold maxLen;omega) (by omega) hbase
 refine ⟨v',w',hr,?_,hg⟩
 unfold BOwn Own
 rw [List.length_append,List.map_append,bytes_num]
 exact ho
theorem wpList_append_two {ts tu:TypeId} {w w':World} {v x v':Value} (hr:(Builtin.append_ #[ts,tu] ts #[v,x]).run Tryz.prog w=.ok v' w') {ops:Array Oper} {rest:List Oper} {o:Oper} {a:Act} {Q:Exit→Act→World→Prop} (hgd:o.guard=none) (s y:Operand)
 (ho:o.op=.call { callee:=.builtin .append,args:=#[s,y],argTypes:=#[ts,tu] }) (hty:o.type=ts) (hs:a.eval s=v) (hx:a.eval y=x)
 (h:wpList Tryz.prog ops Q rest (a.put o.dst v') w'):wpList Tryz.prog ops Q (o::rest) a w:=by
 refine wpList_plain hgd fun K hK=>?_
 unfold Oper.wp execOp
 simp only [ho,resolve,invoke,builtin,Sem.run_bind,Sem.run_pure,Result.andThen_ok,List.map_toArray,List.map_cons,List.map_nil,hs,hx,hty,hr]
 exact hK _ _ h
end Go.Proofs.YtigfgloenjoeoaaGreatDoor
namespace Go.Proofs.YtigfgloenjoeoaaGreatDoor
open Go.RowKit
def out4 (a b c d:Nat):Nat→List UInt8
 | 0=>[]
 | 1=>digsOf 10 a++[46]
 | 2=>(digsOf 10 a++[46])++digsOf 10 b++[46]
 | 3=>((digsOf 10 a++[46])++digsOf 10 b++[46])++digsOf 10 c++[46]
 | _=>(((digsOf 10 a++[46])++digsOf 10 b++[46])++digsOf 10 c++[46])++digsOf 10 d
theorem out4_len {a b c d:Nat} (h1:(digsOf 10 a).length≤3) (h2:(digsOf 10 b).length≤3) (h3:(digsOf 10 c).length≤3) (h4:(digsOf 10 d).length≤3):∀k,(out4 a b c d k).length≤30
 | 0=>by simp [out4]
 | 1=>by simp [out4];omega
 | 2=>by simp [out4];omega
 | 3=>by simp [out4];omega
 | _+4=>by simp [out4];omega
theorem ipr4_calls (n:Nat) (w:World) (hn:n < 4294967296) (ht:Tab w):Calls Tryz.prog 45 #[.int .u32 (n:Int)] w fun e w'=>e=.returned (.string (strOf (print4R n)))∧Below w.heap.size w w':=by
 obtain ⟨x0,hx0⟩:∃x,n/16777216=x:=⟨_,rfl⟩
 obtain ⟨y0,hy0⟩:∃y,x0%256=y:=⟨_,rfl⟩
 have e0:(n:Int)/16777216=(x0:Int):=by omega
 have f0:IntKind.wrap .u8 (x0:Int)=(y0:Int):=by rw [IntKind.wrap_u8];omega
 have E0:(x0:Int)%256=(y0:Int):=by omega
 have g0:(0:Int)≤(y0:Int):=by omega
 have k0:(y0:Int) < 256:=by omega
 have K0:Hid (y0 < 256):=by show _ < _;omega
 have m0:(0:Int)≤(x0:Int):=by omega
 have m9:(x0:Int)=(y0:Int):=by omega
 have Z0:=hid (digs_len3 y0 K0.out)
 obtain ⟨x1,hx1⟩:∃x,n/65536=x:=⟨_,rfl⟩
 obtain ⟨y1,hy1⟩:∃y,x1%256=y:=⟨_,rfl⟩
 have e1:(n:Int)/65536=(x1:Int):=by omega
 have f1:IntKind.wrap .u8 (x1:Int)=(y1:Int):=by rw [IntKind.wrap_u8];omega
 have E1:(x1:Int)%256=(y1:Int):=by omega
 have g1:(0:Int)≤(y1:Int):=by omega
 have k1:(y1:Int) < 256:=by omega
 have K1:Hid (y1 < 256):=by show _ < _;omega
 have m1:(0:Int)≤(x1:Int):=by omega
 have Z1:=hid (digs_len3 y1 K1.out)
 obtain ⟨x2,hx2⟩:∃x,n/256=x:=⟨_,rfl⟩
 obtain ⟨y2,hy2⟩:∃y,x2%256=y:=⟨_,rfl⟩
 have e2:(n:Int)/256=(x2:Int):=by omega
 have f2:IntKind.wrap .u8 (x2:Int)=(y2:Int):=by rw [IntKind.wrap_u8];omega
 have E2:(x2:Int)%256=(y2:Int):=by omega
 have g2:(0:Int)≤(y2:Int):=by omega
 have k2:(y2:Int) < 256:=by omega
 have K2:Hid (y2 < 256):=by show _ < _;omega
 have m2:(0:Int)≤(x2:Int):=by omega
 have Z2:=hid (digs_len3 y2 K2.out)
 obtain ⟨y3,hy3⟩:∃y,n%256=y:=⟨_,rfl⟩
 have f3:IntKind.wrap .u8 (n:Int)=(y3:Int):=by rw [IntKind.wrap_u8];omega
 have E3:(n:Int)%256=(y3:Int):=by omega
 have g3:(0:Int)≤(y3:Int):=by omega
 have k3:(y3:Int) < 256:=by omega
 have K3:Hid (y3 < 256):=by show _ < _;omega
 have Z3:=hid (digs_len3 y3 K3.out)
 have n0:(0:Int)≤(n:Int):=by omega
 have n1:(n:Int) < 4294967296:=by omega
 have HX:Hid (out4 y0 y1 y2 y3 4=print4R n):=by
  show _=_
  unfold print4R joinC joinC joinC joinC out4
  rw [show n/16777216=y0 by omega,show n/65536%256=y1 by omega,show n/256%256=y2 by omega,show n%256=y3 by omega]
  simp
 have HLen:=hid (out4_len Z0.out Z1.out Z2.out Z3.out)
 have HT:=hid ht
 clear ht hn hx0 hy0 hx1 hy1 hx2 hy2 hy3
 go_enter Tryz.func45,Tryz.ntmps45
 go_wp2_with fail
 go_loopw [3,4] (fun vo vl wr=>Below w.heap.size w wr∧((vl=.int .i64 (3)∧BOwn wr w.heap.size vo (out4 y0 y1 y2 y3 0))∨(vl=.int .i64 (2)∧BOwn wr w.heap.size vo (out4 y0 y1 y2 y3 1))∨(vl=.int .i64 (1)∧BOwn wr w.heap.size vo (out4 y0 y1 y2 y3 2))∨(vl=.int .i64 (0)∧BOwn wr w.heap.size vo (out4 y0 y1 y2 y3 3))∨(vl=.int .i64 (-1)∧BOwn wr w.heap.size vo (out4 y0 y1 y2 y3 4)))) (fun _ vl _=>(intOf vl+1).toNat)
 case atStart=>exact ⟨Below.refl _ _,.inl ⟨rfl,Own.nil _ _ _ _⟩⟩
 case round =>
  obtain ⟨hb,hrel⟩:=hrel
  have HB:=hid hb
  have HTr:=hid (HT.out.below hb)
  clear hb
  rcases hrel with ⟨rfl,ho⟩ | ⟨rfl,ho⟩ | ⟨rfl,ho⟩ | ⟨rfl,ho⟩ | ⟨rfl,ho⟩
  ·have HO:=hid ho
   clear ho
   have HL:Hid ((out4 y0 y1 y2 y3 0).length≤100000):=by have:=HLen.out 0;show _≤_;omega
   have HL2:Hid ((out4 y0 y1 y2 y3 0++digsOf 10 y0).length≤999990):=by have:=HLen.out 0;have:=Z0.out;show _≤_;rw [List.length_append];omega
   have HC:=hid (pau10_calls w.heap.size _ _ y0 K0.out wr HO.out HB.out.size HL.out HTr.out)
   go_wp2_with fail
   refine HC.out.mono ?_
   rintro e w2 ⟨v2,rfl,ho2,hb2⟩
   have HO2:=hid ho2
   have HB2:=hid (HB.out.trans hb2)
   clear ho2 hb2
   obtain ⟨v3,w3,hr,ho3,hg3⟩:=appendStr_run HO2.out ⟨#[46]⟩ (by have:=HL2.out;show _+1≤_;omega) HB2.out.size
   change BOwn _ _ _ (out4 y0 y1 y2 y3 1) at ho3
   have HO3:=hid ho3
   have HB3:=hid (HB2.out.grown hg3 HB2.out.size (fun k hk=>(World.ownsRow.lt HO2.out k hk).1))
   clear ho3 hg3
   go_wp2_with (at_builtin;go_must (refine wpList_append_two hr rfl _ _ rfl rfl rfl rfl ?_))
   go_roundw
   case rel=>exact ⟨HB3.out,.inr (.inl ⟨rfl,HO3.out⟩)⟩
   case measure=>simp [intOf]
  ·have HO:=hid ho
   clear ho
   have HL:Hid ((out4 y0 y1 y2 y3 1).length≤100000):=by have:=HLen.out 1;show _≤_;omega
   have HL2:Hid ((out4 y0 y1 y2 y3 1++digsOf 10 y1).length≤999990):=by have:=HLen.out 1;have:=Z1.out;show _≤_;rw [List.length_append];omega
   have HC:=hid (pau10_calls w.heap.size _ _ y1 K1.out wr HO.out HB.out.size HL.out HTr.out)
   go_wp2_with fail
   refine HC.out.mono ?_
   rintro e w2 ⟨v2,rfl,ho2,hb2⟩
   have HO2:=hid ho2
   have HB2:=hid (HB.out.trans hb2)
   clear ho2 hb2
   obtain ⟨v3,w3,hr,ho3,hg3⟩:=appendStr_run HO2.out ⟨#[46]⟩ (by have:=HL2.out;show _+1≤_;omega) HB2.out.size
   change BOwn _ _ _ (out4 y0 y1 y2 y3 2) at ho3
   have HO3:=hid ho3
   have HB3:=hid (HB2.out.grown hg3 HB2.out.size (fun k hk=>(World.ownsRow.lt HO2.out k hk).1))
   clear ho3 hg3
   go_wp2_with (at_builtin;go_must (refine wpList_append_two hr rfl _ _ rfl rfl rfl rfl ?_))
   go_roundw
   case rel=>exact ⟨HB3.out,.inr (.inr (.inl ⟨rfl,HO3.out⟩))⟩
   case measure=>simp [intOf]
  ·have HO:=hid ho
   clear ho
   have HL:Hid ((out4 y0 y1 y2 y3 2).length≤100000):=by have:=HLen.out 2;show _≤_;omega
   have HL2:Hid ((out4 y0 y1 y2 y3 2++digsOf 10 y2).length≤999990):=by have:=HLen.out 2;have:=Z2.out;show _≤_;rw [List.length_append];omega
   have HC:=hid (pau10_calls w.heap.size _ _ y2 K2.out wr HO.out HB.out.size HL.out HTr.out)
   go_wp2_with fail
   refine HC.out.mono ?_
   rintro e w2 ⟨v2,rfl,ho2,hb2⟩
   have HO2:=hid ho2
   have HB2:=hid (HB.out.trans hb2)
   clear ho2 hb2
   obtain ⟨v3,w3,hr,ho3,hg3⟩:=appendStr_run HO2.out ⟨#[46]⟩ (by have:=HL2.out;show _+1≤_;omega) HB2.out.size
   change BOwn _ _ _ (out4 y0 y1 y2 y3 3) at ho3
   have HO3:=hid ho3
   have HB3:=hid (HB2.out.grown hg3 HB2.out.size (fun k hk=>(World.ownsRow.lt HO2.out k hk).1))
   clear ho3 hg3
   go_wp2_with (at_builtin;go_must (refine wpList_append_two hr rfl _ _ rfl rfl rfl rfl ?_))
   go_roundw
   case rel=>exact ⟨HB3.out,.inr (.inr (.inr (.inl ⟨rfl,HO3.out⟩)))⟩
   case measure=>simp [intOf]
  ·have HO:=hid ho
   clear ho
   have HL:Hid ((out4 y0 y1 y2 y3 3).length≤100000):=by have:=HLen.out 3;show _≤_;omega
   have HL2:Hid ((out4 y0 y1 y2 y3 3++digsOf 10 y3).length≤999990):=by have:=HLen.out 3;have:=Z3.out;show _≤_;rw [List.length_append];omega
   have HC:=hid (pau10_calls w.heap.size _ _ y3 K3.out wr HO.out HB.out.size HL.out HTr.out)
   go_wp2_with fail
   refine HC.out.mono ?_
   rintro e w2 ⟨v2,rfl,ho2,hb2⟩
   change BOwn _ _ _ (out4 y0 y1 y2 y3 4) at ho2
   have HO2:=hid ho2
   have HB2:=hid (HB.out.trans hb2)
   clear ho2 hb2
   go_wp2_with fail
   go_roundw
   case rel=>exact ⟨HB2.out,.inr (.inr (.inr (.inr ⟨rfl,HO2.out⟩)))⟩
   case measure=>simp [intOf]
  ·have HO:=hid ho
   clear ho
   have hcv:=run_string HO.out.row
   go_wp2_with fail
   go_ret
   exact ⟨by rw [← HX.out];rfl,HB.out⟩
end Go.Proofs.YtigfgloenjoeoaaGreatDoor
