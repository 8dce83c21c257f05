import Derived.Test.YtigfgloenjoeoaaGreatDoorLcAD
import Derived.Shelf.Strings.Split
import Derived.Shelf.Strings.Cut
import Derived.Shelf.Strings.LastIndex
import Derived.Shelf.Strings.Prefix
set_option linter.unusedVariables false
set_option linter.unusedSimpArgs false
set_option maxRecDepth 20000
set_option maxHeartbeats 16000000
namespace Go.Proofs.YtigfgloenjoeoaaGreatDoor
open Go.RowKit Go.Shelf
def psplitRen:Ren:=⟨fun | 138=>215 | 143=>206 | 195=>223 | 197=>216 | 217=>202 | 218=>224 | 219=>192 | 221=>203 | 224=>186 | 225=>187 | 260=>225 | 266=>213 | 267=>205 | 268=>214 | 314=>217 | n=>n,fun | 0=>0 | 3=>3 | 4=>4 | 5=>5 | 9=>9 | 21=>21 | 31=>27 | 46=>87 | 51=>22 | 105=>222 | 119=>229 | 138=>231 | 139=>232 | 146=>78 | n=>n,fun | 1=>0 | 3=>5 | 4=>6 | n=>n⟩
theorem psplitLays:Lays.n221 Tryz.prog psplitRen :=
 {mixed:=by kernel_rfl
  f138:=Tryz.func215.trans (congrArg some (by kernel_rfl))
  f143:=Tryz.func206.trans (congrArg some (by kernel_rfl))
  f195:=Tryz.func223.trans (congrArg some (by kernel_rfl))
  f197:=Tryz.func216.trans (congrArg some (by kernel_rfl))
  f217:=Tryz.func202.trans (congrArg some (by kernel_rfl))
  f218:=Tryz.func224.trans (congrArg some (by kernel_rfl))
  f219:=Tryz.func192.trans (congrArg some (by kernel_rfl))
  f221:=Tryz.func203.trans (congrArg some (by kernel_rfl))
  f224:=Tryz.func186.trans (congrArg some (by kernel_rfl))
  f225:=Tryz.func187.trans (congrArg some (by kernel_rfl))
  f260:=Tryz.func225.trans (congrArg some (by kernel_rfl))
  f266:=Tryz.func213.trans (congrArg some (by kernel_rfl))
  f267:=Tryz.func205.trans (congrArg some (by kernel_rfl))
  f268:=Tryz.func214.trans (congrArg some (by kernel_rfl))
  f314:=Tryz.func217.trans (congrArg some (by kernel_rfl))
  t0:=Tryz.underlying0
  a0:=Tryz.isAgg0
  z0:=Tryz.sizeOf0
  v0:=Tryz.zeroValue0
  t3:=Tryz.underlying3
  a3:=Tryz.isAgg3
  z3:=Tryz.sizeOf3
  v3:=Tryz.zeroValue3
  t4:=Tryz.underlying4
  a4:=Tryz.isAgg4
  z4:=Tryz.sizeOf4
  v4:=Tryz.zeroValue4
  t5:=Tryz.underlying5
  a5:=Tryz.isAgg5
  z5:=Tryz.sizeOf5
  v5:=Tryz.zeroValue5
  t9:=Tryz.underlying9
  a9:=Tryz.isAgg9
  z9:=Tryz.sizeOf9
  v9:=Tryz.zeroValue9
  t21:=Tryz.underlying21
  a21:=Tryz.isAgg21
  z21:=Tryz.sizeOf21
  v21:=Tryz.zeroValue21
  t31:=Tryz.underlying27
  a31:=Tryz.isAgg27
  z31:=Tryz.sizeOf27
  v31:=Tryz.zeroValue27
  t46:=Tryz.underlying87
  a46:=Tryz.isAgg87
  z46:=Tryz.sizeOf87
  v46:=Tryz.zeroValue87
  t51:=Tryz.underlying22
  a51:=Tryz.isAgg22
  z51:=Tryz.sizeOf22
  v51:=Tryz.zeroValue22
  t105:=Tryz.underlying222
  a105:=Tryz.isAgg222
  z105:=Tryz.sizeOf222
  v105:=Tryz.zeroValue222
  t119:=Tryz.underlying229
  a119:=Tryz.isAgg229
  z119:=Tryz.sizeOf229
  t138:=Tryz.underlying231
  a138:=Tryz.isAgg231
  z138:=Tryz.sizeOf231
  v138:=Tryz.zeroValue231
  t139:=Tryz.underlying232
  a139:=Tryz.isAgg232
  z139:=Tryz.sizeOf232
  v139:=Tryz.zeroValue232
  t146:=Tryz.underlying78
  a146:=Tryz.isAgg78
  z146:=Tryz.sizeOf78
  v146:=Tryz.zeroValue78
  g1:=by kernel_rfl
  g3:=by kernel_rfl
  g4:=by kernel_rfl }
def pcutRen:Ren:=⟨fun | 145=>146 | 217=>202 | 219=>192 | 220=>175 | 224=>186 | 225=>187 | 266=>213 | 267=>205 | 314=>217 | n=>n,fun | 3=>3 | 4=>4 | 5=>5 | 9=>9 | 46=>87 | 51=>22 | 59=>150 | 146=>78 | n=>n,fun | 1=>0 | n=>n⟩
theorem pcutLays:Lays.n145 Tryz.prog pcutRen :=
 {mixed:=by kernel_rfl
  f145:=Tryz.func146.trans (congrArg some (by kernel_rfl))
  f217:=Tryz.func202.trans (congrArg some (by kernel_rfl))
  f219:=Tryz.func192.trans (congrArg some (by kernel_rfl))
  f220:=Tryz.func175.trans (congrArg some (by kernel_rfl))
  f224:=Tryz.func186.trans (congrArg some (by kernel_rfl))
  f225:=Tryz.func187.trans (congrArg some (by kernel_rfl))
  f266:=Tryz.func213.trans (congrArg some (by kernel_rfl))
  f267:=Tryz.func205.trans (congrArg some (by kernel_rfl))
  f314:=Tryz.func217.trans (congrArg some (by kernel_rfl))
  t3:=Tryz.underlying3
  a3:=Tryz.isAgg3
  z3:=Tryz.sizeOf3
  v3:=Tryz.zeroValue3
  t4:=Tryz.underlying4
  a4:=Tryz.isAgg4
  z4:=Tryz.sizeOf4
  v4:=Tryz.zeroValue4
  t5:=Tryz.underlying5
  a5:=Tryz.isAgg5
  z5:=Tryz.sizeOf5
  v5:=Tryz.zeroValue5
  t9:=Tryz.underlying9
  a9:=Tryz.isAgg9
  z9:=Tryz.sizeOf9
  v9:=Tryz.zeroValue9
  t46:=Tryz.underlying87
  a46:=Tryz.isAgg87
  z46:=Tryz.sizeOf87
  v46:=Tryz.zeroValue87
  t51:=Tryz.underlying22
  a51:=Tryz.isAgg22
  z51:=Tryz.sizeOf22
  v51:=Tryz.zeroValue22
  t59:=Tryz.underlying150
  a59:=Tryz.isAgg150
  z59:=Tryz.sizeOf150
  v59:=Tryz.zeroValue150
  t146:=Tryz.underlying78
  a146:=Tryz.isAgg78
  z146:=Tryz.sizeOf78
  v146:=Tryz.zeroValue78
  g1:=by kernel_rfl }
def plastRen:Ren:=⟨fun | 148=>31 | 222=>41 | 223=>42 | 269=>57 | n=>n,fun | 3=>3 | 4=>4 | 5=>5 | 9=>9 | 46=>87 | 51=>22 | 146=>78 | n=>n,fun n=>n⟩
theorem plastLays:Lays.n148 Tryz.prog plastRen :=
 {mixed:=by kernel_rfl
  f148:=Tryz.func31.trans (congrArg some (by kernel_rfl))
  f222:=Tryz.func41.trans (congrArg some (by kernel_rfl))
  f223:=Tryz.func42.trans (congrArg some (by kernel_rfl))
  f269:=Tryz.func57.trans (congrArg some (by kernel_rfl))
  t3:=Tryz.underlying3
  a3:=Tryz.isAgg3
  z3:=Tryz.sizeOf3
  v3:=Tryz.zeroValue3
  t4:=Tryz.underlying4
  a4:=Tryz.isAgg4
  z4:=Tryz.sizeOf4
  v4:=Tryz.zeroValue4
  t5:=Tryz.underlying5
  a5:=Tryz.isAgg5
  z5:=Tryz.sizeOf5
  v5:=Tryz.zeroValue5
  t9:=Tryz.underlying9
  a9:=Tryz.isAgg9
  z9:=Tryz.sizeOf9
  v9:=Tryz.zeroValue9
  t46:=Tryz.underlying87
  a46:=Tryz.isAgg87
  z46:=Tryz.sizeOf87
  v46:=Tryz.zeroValue87
  t51:=Tryz.underlying22
  a51:=Tryz.isAgg22
  z51:=Tryz.sizeOf22
  v51:=Tryz.zeroValue22
  t146:=Tryz.underlying78
  a146:=Tryz.isAgg78
  z146:=Tryz.sizeOf78
  v146:=Tryz.zeroValue78 }
def ptrimRen:Ren:=⟨fun | 102=>40 | 207=>59 | 209=>56 | n=>n,fun | 3=>3 | 4=>4 | 9=>9 | n=>n,fun n=>n⟩
theorem ptrimLays:Lays.n102 Tryz.prog ptrimRen :=
 {mixed:=by kernel_rfl
  f102:=Tryz.func40.trans (congrArg some (by kernel_rfl))
  f207:=Tryz.func59.trans (congrArg some (by kernel_rfl))
  f209:=Tryz.func56.trans (congrArg some (by kernel_rfl))
  t3:=Tryz.underlying3
  a3:=Tryz.isAgg3
  z3:=Tryz.sizeOf3
  v3:=Tryz.zeroValue3
  t4:=Tryz.underlying4
  a4:=Tryz.isAgg4
  z4:=Tryz.sizeOf4
  v4:=Tryz.zeroValue4
  t9:=Tryz.underlying9
  a9:=Tryz.isAgg9
  z9:=Tryz.sizeOf9
  v9:=Tryz.zeroValue9 }
def pcontRen:Ren:=⟨fun | 143=>206 | 144=>193 | 217=>202 | 219=>192 | 224=>186 | 225=>187 | 266=>213 | 267=>205 | 314=>217 | n=>n,fun | 3=>3 | 4=>4 | 5=>5 | 9=>9 | 46=>87 | 51=>22 | 146=>78 | n=>n,fun | 1=>0 | n=>n⟩
theorem pcontLays:Lays.n144 Tryz.prog pcontRen :=
 {mixed:=by kernel_rfl
  f143:=Tryz.func206.trans (congrArg some (by kernel_rfl))
  f144:=Tryz.func193.trans (congrArg some (by kernel_rfl))
  f217:=Tryz.func202.trans (congrArg some (by kernel_rfl))
  f219:=Tryz.func192.trans (congrArg some (by kernel_rfl))
  f224:=Tryz.func186.trans (congrArg some (by kernel_rfl))
  f225:=Tryz.func187.trans (congrArg some (by kernel_rfl))
  f266:=Tryz.func213.trans (congrArg some (by kernel_rfl))
  f267:=Tryz.func205.trans (congrArg some (by kernel_rfl))
  f314:=Tryz.func217.trans (congrArg some (by kernel_rfl))
  t3:=Tryz.underlying3
  a3:=Tryz.isAgg3
  z3:=Tryz.sizeOf3
  v3:=Tryz.zeroValue3
  t4:=Tryz.underlying4
  a4:=Tryz.isAgg4
  z4:=Tryz.sizeOf4
  v4:=Tryz.zeroValue4
  t5:=Tryz.underlying5
  a5:=Tryz.isAgg5
  z5:=Tryz.sizeOf5
  v5:=Tryz.zeroValue5
  t9:=Tryz.underlying9
  a9:=Tryz.isAgg9
  z9:=Tryz.sizeOf9
  v9:=Tryz.zeroValue9
  t46:=Tryz.underlying87
  a46:=Tryz.isAgg87
  z46:=Tryz.sizeOf87
  v46:=Tryz.zeroValue87
  t51:=Tryz.underlying22
  a51:=Tryz.isAgg22
  z51:=Tryz.sizeOf22
  v51:=Tryz.zeroValue22
  t146:=Tryz.underlying78
  a146:=Tryz.isAgg78
  z146:=Tryz.sizeOf78
  v146:=Tryz.zeroValue78
  g1:=by kernel_rfl }
theorem splitG_none (c:UInt8) (l cur:List UInt8) (h:∀k:Nat,l[k]? ≠ some c):splitG c cur l=[cur++l]:=splitG_free l cur (fun x hx e=>by
 obtain ⟨k,hk⟩:=List.mem_iff_getElem?.1 hx
 exact h k (by rw [hk,e]))
theorem take_free {c:UInt8} {l:List UInt8} {k:Nat} (hn:∀j,j < k→l[j]? ≠ some c):∀x∈l.take k,x≠c:=by
 intro x hx e
 obtain ⟨j,hj⟩:=List.mem_iff_getElem?.1 hx
 rw [List.getElem?_take] at hj
 by_cases h:j < k
 ·rw [if_pos h] at hj;exact hn j h (by rw [hj,e])
 ·rw [if_neg h] at hj;cases hj
theorem at_parts {c:UInt8} {l:List UInt8} {k:Nat} (hc:l[k]? = some c):l=l.take k++c::l.drop (k+1):=by
 obtain ⟨hk,e⟩:=List.getElem?_eq_some_iff.1 hc
 rw [← e,← List.drop_eq_getElem_cons hk,List.take_append_drop]
theorem splitG_found {c:UInt8} {l:List UInt8} {k:Nat} (hc:l[k]? = some c) (hn:∀j,j < k→l[j]? ≠ some c):splitG c [] l=l.take k::splitG c [] (l.drop (k+1)):=by
 conv=>lhs;rw [at_parts hc]
 rw [splitG_at _ [] _ (take_free hn)]
 rfl
theorem pcount_none {c:UInt8} {l:List UInt8} (h:∀k:Nat,l[k]? ≠ some c):l.count c=0:=by
 rw [List.count_eq_zero]
 intro hm
 obtain ⟨k,hk⟩:=List.mem_iff_getElem?.1 hm
 exact h k hk
theorem pcount_at {c:UInt8} {l:List UInt8} {k:Nat} (hc:l[k]? = some c) (hn:∀j,j < k→l[j]? ≠ some c):l.count c=(l.drop (k+1)).count c+1:=by
 conv=>lhs;rw [at_parts hc]
 rw [List.count_append,List.count_cons_self,List.count_eq_zero.2 (fun hm=>take_free hn c hm rfl)]
 omega
theorem splitK_mine (c:UInt8):∀(n:Nat) (l:List UInt8),l.count c=n→Lib.splitK [c] 0 n l=splitG c [] l
 | 0,l,h=>by
   rw [splitG_none c l [] (fun k hk=>List.count_eq_zero.1 h (List.mem_of_getElem? hk))]
   rfl
 | n+1,l,h=>by
   rcases Int.lt_or_le (Lib.indexByte l c) 0 with hi | hi
   ·have he:Lib.indexByte l c=-1:=by have:=Lib.indexByte_ge l c;omega
    rw [pcount_none (Lib.indexByte_none he)] at h
    omega
   ·obtain ⟨k,hk⟩:∃k:Nat,Lib.indexByte l c=k:=⟨(Lib.indexByte l c).toNat,by omega⟩
    obtain ⟨h1,h2⟩:=Lib.indexByte_some hk
    have hcnt:=pcount_at h1 h2
    rw [splitG_found h1 h2]
    show (if Lib.index l [c]==-1 then [l] else _)=_
    rw [Lib.index_one,hk,if_neg (by intro e;have:=beq_iff_eq.1 e;omega)]
    rw [Int.toNat_natCast]
    show (l.take (k+0))::Lib.splitK [c] 0 n (l.drop (k+1))=_
    rw [splitK_mine c n (l.drop (k+1)) (by omega)]
    simp
theorem splitB_fs (s:ByteArray):(Lib.splitB ⟨#[46]⟩ 0 (Lib.countB s ⟨#[46]⟩) s).map Value.string=(splitR 46 s.data.toList).map fsIp:=by
 have h:=Lib.splitB_data ⟨#[46]⟩ 0 (Lib.countB s ⟨#[46]⟩) s
 have hc:Lib.countB s ⟨#[46]⟩=s.data.toList.count 46:=Lib.count_one 46 s.data.toList
 have h2:Lib.splitK (⟨#[46]⟩:ByteArray).data.toList 0 (Lib.countB s ⟨#[46]⟩) s.data.toList=splitG 46 [] s.data.toList:=splitK_mine 46 _ _ hc.symm
 rw [h2] at h
 unfold splitR
 rw [← h,List.map_map]
 exact List.map_congr_left (fun x _=>congrArg Value.string (of_data x))
theorem psplit_calls (s:ByteArray) (w:World) (hs:s.size≤1000000) :
 Calls Tryz.prog 189 #[.string s,.string ⟨#[46]⟩] w fun e w'=>(∃v',e=.returned v'∧SRowIp w' v' (splitR 46 s.data.toList))∧Below w.heap.size w w':=by
 have hle:=Lib.countB_le ⟨#[46]⟩ (by decide) s.size s (Nat.le_refl _)
 have hlen:=Lib.splitB_all ⟨#[46]⟩ (by decide) 0 _ s rfl
 have c:=Any.strings_genSplit_core psplitLays (by kernel_rfl) s ⟨#[46]⟩ 0 (-1) (Lib.countB s ⟨#[46]⟩+1) w (by omega) (by decide) (by decide)
  (fun x c hx=>by
   have h:=Any.strings_Index_one { psplitLays with } x 46 (w.alloc (.cells c (psplitRen.t 9)))
   refine h.mono fun e w' ⟨he,hw⟩=>⟨?_,hw⟩
   rw [he]
   show _=Ending.returned (Value.int .i64 (Lib.index x.data.toList [46]))
   rw [Lib.index_one])
  (by
   have h:=Any.strings_Count_one { psplitLays with } s 46 w
   refine h.mono fun e w' ⟨he,hw⟩=>⟨?_,hw⟩
   rw [he]
   show _=Ending.returned (Value.int .i64 ((Lib.count s.data.toList [46]:Nat):Int))
   rw [Lib.count_one]
   rfl)
  (by decide) (by decide) (by rw [if_pos (by decide)];omega)
 rw [Nat.add_sub_cancel,hlen] at c
 have e2:Lib.cellsOf (Lib.splitB ⟨#[46]⟩ 0 (Lib.countB s ⟨#[46]⟩) s) (Lib.countB s ⟨#[46]⟩+1)=((Lib.splitB ⟨#[46]⟩ 0 (Lib.countB s ⟨#[46]⟩) s).map Value.string).toArray:=by rw [← hlen];exact Lib.cellsOf_full _
 rw [e2,splitB_fs] at c
 have hl2:(splitR 46 s.data.toList).length=Lib.countB s ⟨#[46]⟩+1:=by have:=congrArg List.length (splitB_fs s);simp at this;omega
 have HC:=hid c
 have HRow:Hid (SRowIp (w.alloc (.cells ((splitR 46 s.data.toList).map fsIp).toArray 9)) (.slice (some ⟨w.heap.size,0,none⟩) (Lib.countB s ⟨#[46]⟩+1) (Lib.countB s ⟨#[46]⟩+1)) (splitR 46 s.data.toList)):=by
  refine ⟨_,_,by rw [hl2],by omega,by unfold maxLen;omega,fun _=>⟨_,_,rfl,by simp,fun i hi=>?_⟩⟩
  rw [World.cell?_alloc_mark]
  simp [hi]
 clear c e2 hlen hle hl2
 generalize Lib.countB s ⟨#[46]⟩=n at *
 generalize splitR 46 s.data.toList=zs at *
 go_enter Tryz.func189,Tryz.ntmps189
 go_wp2_with fail
 refine HC.out.mono ?_
 rintro e w1 ⟨rfl,rfl⟩
 go_wp2_with fail
 go_ret
 exact ⟨⟨_,rfl,HRow.out⟩,(Below.refl _ _).alloc (Nat.le_refl _) _⟩
theorem index_mem (c:UInt8) (l:List UInt8):decide (0≤Lib.indexByte l c)=decide (1 < (splitR c l).length):=by
 rcases Int.lt_or_le (Lib.indexByte l c) 0 with hi | hi
 ·have he:Lib.indexByte l c=-1:=by have:=Lib.indexByte_ge l c;omega
  rw [decide_eq_false (by omega)]
  unfold splitR
  rw [splitG_none c l [] (Lib.indexByte_none he)]
  rfl
 ·obtain ⟨k,hk⟩:∃k:Nat,Lib.indexByte l c=k:=⟨(Lib.indexByte l c).toNat,by omega⟩
  obtain ⟨h1,h2⟩:=Lib.indexByte_some hk
  rw [decide_eq_true hi]
  unfold splitR
  rw [splitG_found h1 h2,List.length_cons]
  have:(splitG c [] (l.drop (k+1))).length≠0:=fun e=>splitG_ne c _ _ (List.eq_nil_of_length_eq_zero e)
  rw [decide_eq_true (by omega)]
theorem pcont_calls (s:ByteArray) (w:World):Calls Tryz.prog 193 #[.string s,.string ⟨#[46]⟩] w fun e w'=>e=.returned (.bool (decide (1 < (splitR 46 s.data.toList).length)))∧w'=w:=by
 have h:=Any.strings_Contains_one pcontLays s 46 w
 rw [index_mem] at h
 exact h
theorem ptrim_calls (s:ByteArray) (w:World) (hs:s.size≤1000000):Calls Tryz.prog 40 #[.string s,.string ⟨#[46]⟩] w fun e w'=>e=.returned (.string (strOf (Lib.trimSuffix s.data.toList [46])))∧w'=w :=
 Any.strings_TrimSuffix ptrimLays s ⟨#[46]⟩ w (by omega)
theorem plast_calls (s:ByteArray) (w:World) (hs:s.size≤1000000):Calls Tryz.prog 31 #[.string s,.string ⟨#[46]⟩] w fun e w'=>e=.returned (.int .i64 (Lib.lastIndexByte s 46))∧w'=w :=
 Any.strings_LastIndex_one plastLays s ⟨#[46]⟩ rfl (by omega) w
def MaxL (w:World):Prop:=∃m:Int,w.cell? ⟨0,0,none⟩=some (.int .i64 m)
theorem pcutc_calls (s sep:ByteArray) (w:World) (hs:s.size≤1000000) (hm:MaxL w):Calls Tryz.prog 146 #[.string s,.string sep] w fun e w' =>
 e=.returned (.tuple #[.string (strOf (Lib.cut s.data.toList sep.data.toList).1),.string (strOf (Lib.cut s.data.toList sep.data.toList).2.1),.bool (Lib.cut s.data.toList sep.data.toList).2.2])∧∃n,w'=w.drewN n:=by
 obtain ⟨m,hm⟩:=hm
 exact Any.strings_Cut pcutLays s sep m w (by omega) hm
end Go.Proofs.YtigfgloenjoeoaaGreatDoor
namespace Go.Proofs.YtigfgloenjoeoaaGreatDoor
open Go.RowKit
theorem pparts_calls (s:ByteArray) (w:World) (hs:s.size≤100000) :
 Calls Tryz.prog 166 #[.string s] w fun e w'=>(∃v,e=.returned v∧SRowIp w' v (partsR s.data.toList))∧Below w.heap.size w w':=by
 have HS:=hid hs
 have HL:=hid (splitR_len s)
 have HP:Hid (partsR s.data.toList=if 1 < (splitR 46 s.data.toList).length∧(splitR 46 s.data.toList).getLast? = some [] then (splitR 46 s.data.toList).dropLast else splitR 46 s.data.toList):=rfl
 have HNE:=hid (splitR_ne 46 s.data.toList)
 clear hs
 go_enter Tryz.func166,Tryz.ntmps166
 go_wp2_with fail
 refine (psplit_calls s _ (by have:=HS.out;omega)).mono ?_
 rintro e w1 ⟨⟨v,rfl,hv⟩,hb⟩
 have HB:=hid hb
 have HV:=hid hv
 generalize splitR 46 s.data.toList=ps at *
 obtain ⟨m,b,off,cap,q,hm,hq,rfl,hc1,hc2,hcell⟩:=hv.lastAt HNE.out
 have hml:m≤100000:=by have:=HL.out;have:=HS.out;omega
 have k4:=strOf_list q
 have HM:=hid hm
 have HQ:=hid hq
 unfold maxLen at hc2
 have hcap0:(cap=0)=False:=by rw [eq_iff_iff];constructor;intro e;omega;exact False.elim
 clear hv hb hm hq
 by_cases h1:0 < m
 ·by_cases hqe:q=[]
  ·have HX:Hid (partsR s.data.toList=ps.take m):=by
    show _=_
    rw [HP.out,if_pos ⟨by rw [HM.out];omega,by rw [HQ.out,hqe]⟩,List.dropLast_eq_take,HM.out]
    rfl
   have HR:=hid (HV.out.upto m (by rw [HM.out];omega))
   have m1:(0:Int) < (m:Int):=by omega
   have q1:(q==[])=true:=by rw [hqe];rfl
   have q2:q.isEmpty=true:=by rw [hqe];rfl
   subst hqe
   clear HP HNE HL h1
   go_wp2_with fail
   go_ret
   exact ⟨⟨_,rfl,by rw [HX.out];exact HR.out⟩,HB.out⟩
  ·have HX:Hid (partsR s.data.toList=ps):=by
    show _=_
    rw [HP.out,if_neg (fun h=>hqe (by rw [HQ.out] at h;exact Option.some.inj h.2))]
   have m1:(0:Int) < (m:Int):=by omega
   have q1:(q==[])=false:=beq_eq_false_iff_ne.2 hqe
   have q2:q.isEmpty=false:=by cases q with | nil=>exact absurd rfl hqe | cons x r=>rfl
   clear HP HNE HL h1 hqe
   go_wp2_with fail
   go_ret
   exact ⟨⟨_,rfl,by rw [HX.out];exact HV.out⟩,HB.out⟩
 ·have HX:Hid (partsR s.data.toList=ps):=by
   show _=_
   rw [HP.out,if_neg (fun h=>h1 (by rw [HM.out] at h;omega))]
  have m1:¬(0:Int) < (m:Int):=by omega
  clear HP HNE HL h1
  go_wp2_with fail
  go_ret
  exact ⟨⟨_,rfl,by rw [HX.out];exact HV.out⟩,HB.out⟩
theorem splitG_app (c:UInt8):∀(a acc b:List UInt8),splitG c acc (a++c::b)=splitG c acc a++splitG c [] b
 | [],acc,b=>by rw [List.nil_append,splitG_sep,splitG_nil];rfl
 | x::r,acc,b=>by
   by_cases h:x=c
   ·subst h;rw [List.cons_append,splitG_sep,splitG_sep,splitG_app x r [] b];rfl
   ·rw [List.cons_append,splitG_other h,splitG_other h,splitG_app c r _ b]
theorem splitR_app (c:UInt8) (a b:List UInt8):splitR c (a++c::b)=splitR c a++splitR c b:=splitG_app c a [] b
theorem splitR_free {c:UInt8} {l:List UInt8} (h:∀x∈l,x≠c):splitR c l=[l]:=splitG_free l [] h
def tailOf (c:UInt8) (l:List UInt8):List UInt8:=(splitR c l).getLast?.getD []
theorem tail_app {c:UInt8} (a:List UInt8) {b:List UInt8} (h:∀x∈b,x≠c):tailOf c (a++c::b)=b:=by
 unfold tailOf
 rw [splitR_app,splitR_free h]
 simp
theorem tail_free {c:UInt8} {l:List UInt8} (h:∀x∈l,x≠c):tailOf c l=l:=by
 unfold tailOf
 rw [splitR_free h]
 rfl
theorem byte_int (s:ByteArray) (j:Nat) (hj:j < s.size):((s.data[j]!).toNat:Int)=(s[j].toNat:Int):=by
 have:s.data[j]! = s[j]:=by
  show s.data[j]! = s.data[j]
  exact getElem!_pos s.data j hj
 rw [this]
theorem last_tail (s:ByteArray):∃k:Nat,Lib.lastIndexByte s 46+1=(k:Int)∧k≤s.size∧s.data.toList.drop k=tailOf 46 s.data.toList:=by
 have hne:∀{x:UInt8},(x.toNat:Int)≠46→x≠46:=fun h e=>h (by rw [e];rfl)
 rcases Lib.lastIdx_spec s 46 s.size with ⟨h1,h2⟩ | ⟨i,hi,h1,h2,h3⟩
 ·refine ⟨0,by unfold Lib.lastIndexByte;rw [h1];rfl,Nat.zero_le _,?_⟩
  rw [List.drop_zero,tail_free]
  intro x hx
  obtain ⟨j,hj,e⟩:=List.mem_iff_getElem.1 hx
  have hj':j < s.size:=by rw [← bytes_num];exact hj
  have:=h2 j hj'
  rw [byte_int s j hj'] at this
  rw [← e]
  exact hne this
 ·refine ⟨i+1,by unfold Lib.lastIndexByte;rw [h1];rfl,by omega,?_⟩
  have hil:i < s.data.toList.length:=by rw [bytes_num];exact hi
  have hc:s.data.toList[i]? = some 46:=by
   rw [List.getElem?_eq_getElem hil]
   rw [byte_int s i hi] at h2
   exact congrArg some (UInt8.toNat_inj.1 (show s[i].toNat=46 by omega))
  conv=>rhs;rw [at_parts hc]
  rw [tail_app]
  intro x hx
  obtain ⟨j,hj,e⟩:=List.mem_iff_getElem.1 hx
  rw [List.length_drop,bytes_num] at hj
  have:=h3 (i+1+j) (by omega) (by omega)
  rw [byte_int s (i+1+j) (by omega)] at this
  rw [← e,List.getElem_drop]
  exact hne this
theorem trim_hit (a:List UInt8):Lib.trimSuffix (a++[46]) [46]=a:=by
 have h:Lib.hasSuffix (a++[46]) [46]=true:=by unfold Lib.hasSuffix;rw [List.isSuffixOf_iff_suffix];exact ⟨a,rfl⟩
 unfold Lib.trimSuffix
 rw [if_pos h]
 simp
theorem trim_miss {l:List UInt8} (h:l.getLast? ≠ some 46):Lib.trimSuffix l [46]=l:=by
 unfold Lib.trimSuffix
 rw [if_neg]
 intro hs
 unfold Lib.hasSuffix at hs
 rw [List.isSuffixOf_iff_suffix] at hs
 obtain ⟨t,e⟩:=hs
 exact h (by rw [← e];simp)
theorem lastR_trim (l:List UInt8):lastR l=tailOf 46 (Lib.trimSuffix l [46]):=by
 rcases List.eq_nil_or_concat l with h | ⟨a,c,h⟩
 ·subst h;rfl
 ·rw [List.concat_eq_append] at h
  by_cases hc:c=46
  ·subst hc
   rw [h,trim_hit]
   unfold lastR partsR
   rw [show splitR 46 (a++[46])=splitR 46 a++[[]] from splitR_app 46 a []]
   have hne:(splitR 46 a).length≠0:=fun e=>splitR_ne 46 a (List.eq_nil_of_length_eq_zero e)
   rw [if_pos ⟨by rw [List.length_append];simp;omega,by simp⟩,List.dropLast_concat]
   rfl
  ·rw [trim_miss (by rw [h];simpa using hc)]
   have hp:partsR l=splitR 46 l:=by
    unfold partsR
    rw [if_neg]
    intro ⟨h1,h2⟩
    rcases Classical.em (∀x∈l,x≠46) with hf | hf
    ·rw [splitR_free hf] at h1;simp at h1
    ·have hex:∃x,x∈l∧x=46:=Classical.byContradiction fun hn=>hf (fun x hx e=>hn ⟨x,hx,e⟩)
     obtain ⟨k,hk,hkc,hck⟩:=last_tail (strOf l)
     rw [str_data] at hck
     have ht:tailOf 46 l=[]:=by unfold tailOf;rw [h2];rfl
     rw [ht] at hck
     have hkl:k=l.length:=by
      have:=congrArg List.length hck
      rw [List.length_drop] at this
      rw [str_size] at hkc
      simp at this
      omega
     have hi:Lib.lastIdx (strOf l) 46 (strOf l).size=((l.length:Nat):Int)-1:=by
      unfold Lib.lastIndexByte at hk
      omega
     rcases Lib.lastIdx_spec (strOf l) 46 (strOf l).size with ⟨g1,_⟩ | ⟨i,gi,g1,g2,_⟩
     ·rw [g1] at hi
      have hl0:l.length=a.length+1:=by rw [h];simp
      omega
     ·have hi2:i=a.length:=by
       have hl0:l.length=a.length+1:=by rw [h];simp
       omega
      rw [byte_int _ i gi] at g2
      have hl:l[i]? = some (strOf l)[i]:=bytes_at (strOf l) i gi
      generalize (strOf l)[i]=y at hl g2
      rw [h,hi2] at hl
      simp at hl
      exact hc (by rw [hl];exact UInt8.toNat_inj.1 (show y.toNat=46 by omega))
   unfold lastR tailOf
   rw [hp]
theorem hexR_dec {l:List UInt8} (h:hexR l=true):digsR 10 l=false:=by
 match l,h with
 | a::b::r,h =>
   have h':(a==48&&(b==120||b==88))=true:=h
   simp only [Bool.and_eq_true,Bool.or_eq_true,beq_iff_eq] at h'
   obtain ⟨rfl,hb⟩:=h'
   unfold digsR
   rw [List.all_cons,List.all_cons]
   rcases hb with rfl | rfl
   ·rfl
   ·rfl
theorem endsR_of (l:List UInt8):endsR l=if hexR (lastR l)=true then digsR 16 ((lastR l).drop 2) else (!(lastR l).isEmpty&&digsR 10 (lastR l)):=by
 unfold endsR
 generalize lastR l=q
 by_cases h0:q=[]
 ·subst h0
  rw [if_neg (show¬hexR ([]:List UInt8)=true by decide)]
  by_cases h1:(partsR l).length=1∧([]:List UInt8)=[]
  ·rw [if_pos h1];rfl
  ·rw [if_neg h1];rfl
 ·rw [if_neg (fun h=>h0 h.2)]
  cases hh:hexR q with
  | true=>rw [hexR_dec hh];simp
  | false=>simp
theorem ien_calls (s:ByteArray) (w:World) (hs:s.size≤100000):Calls Tryz.prog 77 #[.string s] w fun e w'=>e=.returned (.bool (endsR s.data.toList))∧Below w.heap.size w w':=by
 have HR:=hid (endsR_of s.data.toList)
 rw [lastR_trim] at HR
 have ht:(Lib.trimSuffix s.data.toList [46]).length≤s.size:=by
  unfold Lib.trimSuffix
  split
  ·rw [List.length_take,bytes_num];omega
  ·rw [bytes_num];exact Nat.le_refl _
 have HT:=hid (fun w=>ptrim_calls s w (by omega))
 generalize Lib.trimSuffix s.data.toList [46]=T at *
 generalize endsR s.data.toList=R at *
 have HL:=hid (fun w=>plast_calls (strOf T) w (by rw [str_size];omega))
 obtain ⟨k,hk,hkl,hdrop⟩:=last_tail (strOf T)
 rw [str_data] at hdrop
 rw [str_size] at hkl
 have hq:(strOf T).extract k (strOf T).size=strOf (tailOf 46 T):=by
  rw [ext_drop _ k (by rw [str_size];exact hkl),str_data,hdrop]
 have hql:(tailOf 46 T).length≤100000:=by rw [← hdrop,List.length_drop];omega
 generalize tailOf 46 T=q at *
 have HM:=hid (fun w=>pmark_calls (strOf q) w (by rw [str_size];exact hql))
 rw [str_data] at HM
 have k0:(0:Int)≤(k:Int):=by omega
 have k1:(k:Int)≤((strOf T).size:Int):=by rw [str_size];omega
 have k2:((strOf T).size:Int)≤100000:=by rw [str_size];omega
 have k3:Lib.lastIndexByte (strOf T) 46=(k:Int)-1:=by omega
 rw [k3] at HL
 have A16:=hid (fun w=>pall_calls (strOf (q.drop 2)) 16 w (by rw [str_size,List.length_drop];omega) (by decide) (by decide))
 have A10:=hid (fun w=>pall_calls (strOf q) 10 w (by rw [str_size];exact hql) (by decide) (by decide))
 rw [str_data] at A16 A10
 have q4:=strOf_list q
 clear hk hkl hdrop ht hs k3
 generalize strOf T=t at *
 cases hh:hexR q with
 | true =>
   rw [hh,if_pos rfl] at HR
   rw [markP_yes hh] at HM
   clear hh A10 q4 hql
   rw [← HR.out] at A16
   simp only at HM
   generalize strOf (q.drop 2)=u at *
   generalize strOf q=v at *
   go_enter Tryz.func77,Tryz.ntmps77
   go_wp2_with fail
   refine (HT.out _).mono ?_
   rintro e wz ⟨rfl,rfl⟩
   go_wp2_with fail
   refine (HL.out _).mono ?_
   rintro e wz ⟨rfl,rfl⟩
   go_wp2_with fail
   refine (HM.out _).mono ?_
   rintro e wz ⟨rfl,rfl⟩
   go_wp2_with fail
   refine (A16.out _).mono ?_
   rintro e wz ⟨rfl,rfl⟩
   go_wp2_with fail
   go_ret
   exact ⟨rfl,Below.refl _ _⟩
 | false =>
   rw [hh,if_neg (by decide)] at HR
   rw [markP_no hh] at HM
   clear hh A16
   simp only at HM
   generalize digsR 10 q=d at *
   by_cases h0:q=[]
   ·have HF:Hid (R=false):=by show R=false;rw [HR.out,h0];rfl
    have e1:q.isEmpty=true:=by rw [h0];rfl
    clear HR h0 A10 hql
    generalize strOf q=v at *
    go_enter Tryz.func77,Tryz.ntmps77
    go_wp2_with fail
    refine (HT.out _).mono ?_
    rintro e wz ⟨rfl,rfl⟩
    go_wp2_with fail
    refine (HL.out _).mono ?_
    rintro e wz ⟨rfl,rfl⟩
    go_wp2_with fail
    refine (HM.out _).mono ?_
    rintro e wz ⟨rfl,rfl⟩
    go_wp2_with fail
    go_ret
    exact ⟨by rw [HF.out];rfl,Below.refl _ _⟩
   ·have e1:q.isEmpty=false:=by cases q with | nil=>exact absurd rfl h0 | cons x r=>rfl
    have HF:Hid (R=d):=by show R=d;rw [HR.out,e1];rfl
    have e2:(q==[])=false:=beq_eq_false_iff_ne.2 h0
    clear HR h0 hql
    rw [HF.out]
    generalize strOf q=v at *
    go_enter Tryz.func77,Tryz.ntmps77
    go_wp2_with fail
    refine (HT.out _).mono ?_
    rintro e wz ⟨rfl,rfl⟩
    go_wp2_with fail
    refine (HL.out _).mono ?_
    rintro e wz ⟨rfl,rfl⟩
    go_wp2_with fail
    refine (HM.out _).mono ?_
    rintro e wz ⟨rfl,rfl⟩
    go_wp2_with fail
    refine (A10.out _).mono ?_
    rintro e wz ⟨rfl,rfl⟩
    go_wp2_with fail
    go_ret
    exact ⟨rfl,Below.refl _ _⟩
def JPost (ns:List Nat) (w:World) (e:Ending) (w':World):Prop:=e=.returned (.tuple #[.int .u32 (((sum4 0 ns 0).getD 0:Nat):Int),.bool (sum4 0 ns 0).isSome])∧Below w.heap.size w w'
theorem JPost.no {ns:List Nat} {w w':World} (h:sum4 0 ns 0=none) (hb:Below w.heap.size w w'):JPost ns w (.returned (.tuple #[.int .u32 0,.bool false])) w':=by unfold JPost;rw [h];exact ⟨rfl,hb⟩
theorem JPost.yes {ns:List Nat} {w w':World} {x:Nat} {v:Int} (h:sum4 0 ns 0=some x) (hv:v=(x:Int)) (hb:Below w.heap.size w w'):JPost ns w (.returned (.tuple #[.int .u32 v,.bool true])) w':=by unfold JPost;rw [h,hv];exact ⟨rfl,hb⟩
theorem or_mid (H x L a:Nat) (hL:L < 2^a) (hx:x < 256):(H * 2^(a+8)+L) ||| (x * 2^a)=H * 2^(a+8)+L+x * 2^a:=by
 have h2:2^(a+8)=256 * 2^a:=by rw [Nat.pow_add];omega
 have hp:0 < 2^a:=Nat.two_pow_pos a
 have hxa:x * 2^a+L < 2^(a+8):=by
  rw [h2]
  have:x * 2^a≤255 * 2^a:=Nat.mul_le_mul_right _ (by omega)
  omega
 have hLa:L < 2^(a+8):=by omega
 have e1:=Nat.two_pow_add_eq_or_of_lt hLa H
 have e2:=Nat.two_pow_add_eq_or_of_lt hL x
 have e3:=Nat.two_pow_add_eq_or_of_lt hxa H
 rw [Nat.mul_comm H,e1,Nat.or_assoc,Nat.or_comm L,Nat.mul_comm x,← e2,Nat.mul_comm (2^a) x,← e3]
 omega
theorem or64Ip (a b:Nat) (ha:a < 18446744073709551616) (hb:b < 18446744073709551616):bits .or .u64 (a:Int) (b:Int)=((a ||| b:Nat):Int) :=
 (bits_nat .u64 64 (by decide) (fun n h0 h1=>by rw [IntKind.wrap_u64];omega) a b (by omega) (by omega)).2
theorem or_put {n s p:Nat} {x:Nat} (H L a:Nat) (hn:n=H * 2^(a+8)+L) (hL:L < 2^a) (hx:x < 256) (hp:p=x * 2^a) (hs:s=n+p) (hs2:s < 18446744073709551616):bits .or .u64 (n:Int) (p:Int)=(s:Int):=by
 rw [or64Ip n p (by omega) (by omega),hn,hp,or_mid H x L a hL hx,hs,hn,hp]
theorem pjoin1_calls (a b c d:Nat) (w:World) (ha:a≤4294967296) (hb:b≤4294967296) (hc:c≤4294967296) (hd:d≤4294967296) :
 Calls Tryz.prog 168 #[.agg #[.int .u64 (a:Int),.int .u64 (b:Int),.int .u64 (c:Int),.int .u64 (d:Int)],.int .i64 1] w fun e w'=>JPost [a] w e w':=by
 have HBw:=hid ((Below.refl w.heap.size w).alloc (Nat.le_refl _) (.cells #[.int .u64 (a:Int),.int .u64 (b:Int),.int .u64 (c:Int),.int .u64 (d:Int)] 186))
 have hsum:sum4 0 [a] 0=if a/4294967296=0 then some (0+a) else none:=rfl
 have HSum:=hid hsum
 clear hsum
 have a0:(0:Int)≤(a:Int):=by omega
 have a1:(a:Int)≤4294967296:=by omega
 have b0:(0:Int)≤(b:Int):=by omega
 have b1:(b:Int)≤4294967296:=by omega
 have c0:(0:Int)≤(c:Int):=by omega
 have c1:(c:Int)≤4294967296:=by omega
 have d0:(0:Int)≤(d:Int):=by omega
 have d1:(d:Int)≤4294967296:=by omega
 by_cases hx:a/4294967296=0
 ·have hxm:a < 4294967296:=by omega
  have x2:(a:Int) < 4294967296:=by omega
  have x3:(a:Int)/4294967296=0:=by omega
  have HX:=hid hx
  have HXM:=hid hxm
  clear hx hxm ha hb hc hd
  go_enter Tryz.func168,Tryz.ntmps168
  go_wp2_with fail
  go_loop [7,24] (fun vn vi=>(vi=.int .i64 0∧vn=.int .u64 ((a:Nat):Int))) (fun _ vi=>0-(intOf vi).toNat)
  case atStart=>exact ⟨rfl,rfl⟩
  case round =>
   obtain ⟨rfl,rfl⟩:=hrel
   have HV:Hid (sum4 0 [a] 0=some (a)):=by
    show _=_
    rw [HSum.out,if_pos HX.out]
    congr 1
    omega
   have HXM2:=HXM.out
   have hs:a < 4294967296:=by omega
   clear HXM2
   have s0:(0:Int)≤(a:Int):=by omega
   have s1:(a:Int) < 4294967296:=by omega
   have s2:IntKind.wrap .u32 (a:Int)=(a:Int):=by rw [IntKind.wrap_u32];omega
   clear hs
   go_wp2_with fail
   go_ret2
   exact JPost.yes HV.out rfl HBw.out
 ·have x2:¬(a:Int) < 4294967296:=by omega
  obtain ⟨qq,hqq⟩:∃qq,a/4294967296=qq:=⟨_,rfl⟩
  have x3:(a:Int)/4294967296=(qq:Int):=by omega
  have x4:((qq:Int)==0)=false:=by rw [beq_eq_false_iff_ne];omega
  have x5:((qq:Int) != 0)=true:=by rw [bne_iff_ne];omega
  have HV:Hid (sum4 0 [a] 0=none):=by
   show _=_
   rw [HSum.out,if_neg hx]
  clear hx hqq ha hb hc hd
  go_enter Tryz.func168,Tryz.ntmps168
  go_wp2_with fail
  go_ret2
  exact JPost.no HV.out HBw.out
theorem pjoin2_calls (a b c d:Nat) (w:World) (ha:a≤4294967296) (hb:b≤4294967296) (hc:c≤4294967296) (hd:d≤4294967296) :
 Calls Tryz.prog 168 #[.agg #[.int .u64 (a:Int),.int .u64 (b:Int),.int .u64 (c:Int),.int .u64 (d:Int)],.int .i64 2] w fun e w'=>JPost [a,b] w e w':=by
 have HBw:=hid ((Below.refl w.heap.size w).alloc (Nat.le_refl _) (.cells #[.int .u64 (a:Int),.int .u64 (b:Int),.int .u64 (c:Int),.int .u64 (d:Int)] 186))
 have hsum:sum4 0 [a,b] 0=if 255 < a then none else if b/16777216=0 then some (0+a * 16777216+b) else none:=rfl
 have HSum:=hid hsum
 clear hsum
 have a0:(0:Int)≤(a:Int):=by omega
 have a1:(a:Int)≤4294967296:=by omega
 have b0:(0:Int)≤(b:Int):=by omega
 have b1:(b:Int)≤4294967296:=by omega
 have c0:(0:Int)≤(c:Int):=by omega
 have c1:(c:Int)≤4294967296:=by omega
 have d0:(0:Int)≤(d:Int):=by omega
 have d1:(d:Int)≤4294967296:=by omega
 by_cases hx:b/16777216=0
 ·have hxm:b < 16777216:=by omega
  have x2:(b:Int) < 16777216:=by omega
  have x3:(b:Int)/16777216=0:=by omega
  have HX:=hid hx
  have HXM:=hid hxm
  clear hx hxm ha hb hc hd
  go_enter Tryz.func168,Tryz.ntmps168
  go_wp2_with fail
  go_loop [7,24] (fun vn vi=>(vi=.int .i64 0∧vn=.int .u64 ((b:Nat):Int))∨(vi=.int .i64 1∧vn=.int .u64 ((b+a * 16777216:Nat):Int)∧a≤255)) (fun _ vi=>1-(intOf vi).toNat)
  case atStart=>exact .inl ⟨rfl,rfl⟩
  case round =>
   rcases hrel with ⟨rfl,rfl⟩ | ⟨rfl,rfl,q0⟩
   ·by_cases h255:255 < a
    ·have HV:Hid (sum4 0 [a,b] 0=none):=by
      show _=_
      rw [HSum.out,if_pos h255]
     have g1:(255:Int) < (a:Int):=by omega
     clear h255
     skip
     go_wp2_with fail
     go_ret2
     exact JPost.no HV.out HBw.out
    ·have g1:¬(255:Int) < (a:Int):=by omega
     have HXM2:=HXM.out
     obtain ⟨pp,hpp⟩:∃pp,a * 16777216=pp:=⟨_,rfl⟩
     obtain ⟨ss,hss⟩:∃ss,b+a * 16777216=ss:=⟨_,rfl⟩
     have hor:bits .or .u64 (b:Int) (pp:Int)=(ss:Int):=or_put (0) b 24 (by omega) (by omega) (x:=a) (by omega) (by omega) (by omega) (by omega)
     have hpi:(a:Int) * 16777216=(pp:Int):=by omega
     have p0:(0:Int)≤(pp:Int):=by omega
     have p1:(pp:Int) < 4294967296:=by omega
     have hsh:IntKind.wrap .u64 (pp:Int)=(pp:Int):=by rw [IntKind.wrap_u64];omega
     have HR:Hid (a≤255):=by show _≤_;omega
     have HNN:Hid (b+a * 16777216=ss):=by show _=_;omega
     clear h255 HXM2 hss hpp
     go_wp2_with fail
     go_round
     case rel=>exact .inr (⟨rfl,by rw [HNN.out];try rfl,HR.out⟩)
     case measure=>simp [intOf]
   ·have HV:Hid (sum4 0 [a,b] 0=some (b+a * 16777216)):=by
     show _=_
     rw [HSum.out,if_neg (by omega),if_pos HX.out]
     congr 1
     omega
    have HXM2:=HXM.out
    have hs:b+a * 16777216 < 4294967296:=by omega
    clear HXM2
    obtain ⟨s,hse⟩:∃s,b+a * 16777216=s:=⟨_,rfl⟩
    rw [hse] at HV hs ⊢
    have s0:(0:Int)≤(s:Int):=by omega
    have s1:(s:Int) < 4294967296:=by omega
    have s2:IntKind.wrap .u32 (s:Int)=(s:Int):=by rw [IntKind.wrap_u32];omega
    clear hs hse
    go_wp2_with fail
    go_ret2
    exact JPost.yes HV.out rfl HBw.out
 ·have x2:¬(b:Int) < 16777216:=by omega
  obtain ⟨qq,hqq⟩:∃qq,b/16777216=qq:=⟨_,rfl⟩
  have x3:(b:Int)/16777216=(qq:Int):=by omega
  have x4:((qq:Int)==0)=false:=by rw [beq_eq_false_iff_ne];omega
  have x5:((qq:Int) != 0)=true:=by rw [bne_iff_ne];omega
  have HV:Hid (sum4 0 [a,b] 0=none):=by
   show _=_
   rw [HSum.out,if_neg hx]
   repeat (first | rfl | (split;rfl))
  clear hx hqq ha hb hc hd
  go_enter Tryz.func168,Tryz.ntmps168
  go_wp2_with fail
  go_ret2
  exact JPost.no HV.out HBw.out
theorem pjoin3_calls (a b c d:Nat) (w:World) (ha:a≤4294967296) (hb:b≤4294967296) (hc:c≤4294967296) (hd:d≤4294967296) :
 Calls Tryz.prog 168 #[.agg #[.int .u64 (a:Int),.int .u64 (b:Int),.int .u64 (c:Int),.int .u64 (d:Int)],.int .i64 3] w fun e w'=>JPost [a,b,c] w e w':=by
 have HBw:=hid ((Below.refl w.heap.size w).alloc (Nat.le_refl _) (.cells #[.int .u64 (a:Int),.int .u64 (b:Int),.int .u64 (c:Int),.int .u64 (d:Int)] 186))
 have hsum:sum4 0 [a,b,c] 0=if 255 < a then none else if 255 < b then none else if c/65536=0 then some (0+a * 16777216+b * 65536+c) else none:=rfl
 have HSum:=hid hsum
 clear hsum
 have a0:(0:Int)≤(a:Int):=by omega
 have a1:(a:Int)≤4294967296:=by omega
 have b0:(0:Int)≤(b:Int):=by omega
 have b1:(b:Int)≤4294967296:=by omega
 have c0:(0:Int)≤(c:Int):=by omega
 have c1:(c:Int)≤4294967296:=by omega
 have d0:(0:Int)≤(d:Int):=by omega
 have d1:(d:Int)≤4294967296:=by omega
 by_cases hx:c/65536=0
 ·have hxm:c < 65536:=by omega
  have x2:(c:Int) < 65536:=by omega
  have x3:(c:Int)/65536=0:=by omega
  have HX:=hid hx
  have HXM:=hid hxm
  clear hx hxm ha hb hc hd
  go_enter Tryz.func168,Tryz.ntmps168
  go_wp2_with fail
  go_loop [7,24] (fun vn vi=>(vi=.int .i64 0∧vn=.int .u64 ((c:Nat):Int))∨(vi=.int .i64 1∧vn=.int .u64 ((c+a * 16777216:Nat):Int)∧a≤255)∨(vi=.int .i64 2∧vn=.int .u64 ((c+a * 16777216+b * 65536:Nat):Int)∧a≤255∧b≤255)) (fun _ vi=>2-(intOf vi).toNat)
  case atStart=>exact .inl ⟨rfl,rfl⟩
  case round =>
   rcases hrel with ⟨rfl,rfl⟩ | ⟨rfl,rfl,q0⟩ | ⟨rfl,rfl,q0,q1⟩
   ·by_cases h255:255 < a
    ·have HV:Hid (sum4 0 [a,b,c] 0=none):=by
      show _=_
      rw [HSum.out,if_pos h255]
     have g1:(255:Int) < (a:Int):=by omega
     clear h255
     skip
     go_wp2_with fail
     go_ret2
     exact JPost.no HV.out HBw.out
    ·have g1:¬(255:Int) < (a:Int):=by omega
     have HXM2:=HXM.out
     obtain ⟨pp,hpp⟩:∃pp,a * 16777216=pp:=⟨_,rfl⟩
     obtain ⟨ss,hss⟩:∃ss,c+a * 16777216=ss:=⟨_,rfl⟩
     have hor:bits .or .u64 (c:Int) (pp:Int)=(ss:Int):=or_put (0) c 24 (by omega) (by omega) (x:=a) (by omega) (by omega) (by omega) (by omega)
     have hpi:(a:Int) * 16777216=(pp:Int):=by omega
     have p0:(0:Int)≤(pp:Int):=by omega
     have p1:(pp:Int) < 4294967296:=by omega
     have hsh:IntKind.wrap .u64 (pp:Int)=(pp:Int):=by rw [IntKind.wrap_u64];omega
     have HR:Hid (a≤255):=by show _≤_;omega
     have HNN:Hid (c+a * 16777216=ss):=by show _=_;omega
     clear h255 HXM2 hss hpp
     go_wp2_with fail
     go_round
     case rel=>exact .inr (.inl ⟨rfl,by rw [HNN.out];try rfl,HR.out⟩)
     case measure=>simp [intOf]
   ·by_cases h255:255 < b
    ·have HV:Hid (sum4 0 [a,b,c] 0=none):=by
      show _=_
      rw [HSum.out,if_neg (by omega),if_pos h255]
     have g1:(255:Int) < (b:Int):=by omega
     clear h255
     generalize (c+a * 16777216:Nat)=nn
     go_wp2_with fail
     go_ret2
     exact JPost.no HV.out HBw.out
    ·have g1:¬(255:Int) < (b:Int):=by omega
     have HXM2:=HXM.out
     obtain ⟨nn,hnn⟩:∃nn,c+a * 16777216=nn:=⟨_,rfl⟩
     obtain ⟨pp,hpp⟩:∃pp,b * 65536=pp:=⟨_,rfl⟩
     obtain ⟨ss,hss⟩:∃ss,c+a * 16777216+b * 65536=ss:=⟨_,rfl⟩
     have hor:bits .or .u64 (nn:Int) (pp:Int)=(ss:Int):=or_put (a * 1) c 16 (by omega) (by omega) (x:=b) (by omega) (by omega) (by omega) (by omega)
     have hpi:(b:Int) * 65536=(pp:Int):=by omega
     have p0:(0:Int)≤(pp:Int):=by omega
     have p1:(pp:Int) < 4294967296:=by omega
     have hsh:IntKind.wrap .u64 (pp:Int)=(pp:Int):=by rw [IntKind.wrap_u64];omega
     have HR:Hid (b≤255):=by show _≤_;omega
     have HNN:Hid (nn+b * 65536=ss):=by show _=_;omega
     rw [hnn]
     clear h255 HXM2 hss hpp hnn
     go_wp2_with fail
     go_round
     case rel=>exact .inr (.inr (⟨rfl,by rw [HNN.out];try rfl,q0,HR.out⟩))
     case measure=>simp [intOf]
   ·have HV:Hid (sum4 0 [a,b,c] 0=some (c+a * 16777216+b * 65536)):=by
     show _=_
     rw [HSum.out,if_neg (by omega),if_neg (by omega),if_pos HX.out]
     congr 1
     omega
    have HXM2:=HXM.out
    have hs:c+a * 16777216+b * 65536 < 4294967296:=by omega
    clear HXM2
    obtain ⟨s,hse⟩:∃s,c+a * 16777216+b * 65536=s:=⟨_,rfl⟩
    rw [hse] at HV hs ⊢
    have s0:(0:Int)≤(s:Int):=by omega
    have s1:(s:Int) < 4294967296:=by omega
    have s2:IntKind.wrap .u32 (s:Int)=(s:Int):=by rw [IntKind.wrap_u32];omega
    clear hs hse
    go_wp2_with fail
    go_ret2
    exact JPost.yes HV.out rfl HBw.out
 ·have x2:¬(c:Int) < 65536:=by omega
  obtain ⟨qq,hqq⟩:∃qq,c/65536=qq:=⟨_,rfl⟩
  have x3:(c:Int)/65536=(qq:Int):=by omega
  have x4:((qq:Int)==0)=false:=by rw [beq_eq_false_iff_ne];omega
  have x5:((qq:Int) != 0)=true:=by rw [bne_iff_ne];omega
  have HV:Hid (sum4 0 [a,b,c] 0=none):=by
   show _=_
   rw [HSum.out,if_neg hx]
   repeat (first | rfl | (split;rfl))
  clear hx hqq ha hb hc hd
  go_enter Tryz.func168,Tryz.ntmps168
  go_wp2_with fail
  go_ret2
  exact JPost.no HV.out HBw.out
theorem pjoin4_calls (a b c d:Nat) (w:World) (ha:a≤4294967296) (hb:b≤4294967296) (hc:c≤4294967296) (hd:d≤4294967296) :
 Calls Tryz.prog 168 #[.agg #[.int .u64 (a:Int),.int .u64 (b:Int),.int .u64 (c:Int),.int .u64 (d:Int)],.int .i64 4] w fun e w'=>JPost [a,b,c,d] w e w':=by
 have HBw:=hid ((Below.refl w.heap.size w).alloc (Nat.le_refl _) (.cells #[.int .u64 (a:Int),.int .u64 (b:Int),.int .u64 (c:Int),.int .u64 (d:Int)] 186))
 have hsum:sum4 0 [a,b,c,d] 0=if 255 < a then none else if 255 < b then none else if 255 < c then none else if d/256=0 then some (0+a * 16777216+b * 65536+c * 256+d) else none:=rfl
 have HSum:=hid hsum
 clear hsum
 have a0:(0:Int)≤(a:Int):=by omega
 have a1:(a:Int)≤4294967296:=by omega
 have b0:(0:Int)≤(b:Int):=by omega
 have b1:(b:Int)≤4294967296:=by omega
 have c0:(0:Int)≤(c:Int):=by omega
 have c1:(c:Int)≤4294967296:=by omega
 have d0:(0:Int)≤(d:Int):=by omega
 have d1:(d:Int)≤4294967296:=by omega
 by_cases hx:d/256=0
 ·have hxm:d < 256:=by omega
  have x2:(d:Int) < 256:=by omega
  have x3:(d:Int)/256=0:=by omega
  have HX:=hid hx
  have HXM:=hid hxm
  clear hx hxm ha hb hc hd
  go_enter Tryz.func168,Tryz.ntmps168
  go_wp2_with fail
  go_loop [7,24] (fun vn vi=>(vi=.int .i64 0∧vn=.int .u64 ((d:Nat):Int))∨(vi=.int .i64 1∧vn=.int .u64 ((d+a * 16777216:Nat):Int)∧a≤255)∨(vi=.int .i64 2∧vn=.int .u64 ((d+a * 16777216+b * 65536:Nat):Int)∧a≤255∧b≤255)∨(vi=.int .i64 3∧vn=.int .u64 ((d+a * 16777216+b * 65536+c * 256:Nat):Int)∧a≤255∧b≤255∧c≤255)) (fun _ vi=>3-(intOf vi).toNat)
  case atStart=>exact .inl ⟨rfl,rfl⟩
  case round =>
   rcases hrel with ⟨rfl,rfl⟩ | ⟨rfl,rfl,q0⟩ | ⟨rfl,rfl,q0,q1⟩ | ⟨rfl,rfl,q0,q1,q2⟩
   ·by_cases h255:255 < a
    ·have HV:Hid (sum4 0 [a,b,c,d] 0=none):=by
      show _=_
      rw [HSum.out,if_pos h255]
     have g1:(255:Int) < (a:Int):=by omega
     clear h255
     skip
     go_wp2_with fail
     go_ret2
     exact JPost.no HV.out HBw.out
    ·have g1:¬(255:Int) < (a:Int):=by omega
     have HXM2:=HXM.out
     obtain ⟨pp,hpp⟩:∃pp,a * 16777216=pp:=⟨_,rfl⟩
     obtain ⟨ss,hss⟩:∃ss,d+a * 16777216=ss:=⟨_,rfl⟩
     have hor:bits .or .u64 (d:Int) (pp:Int)=(ss:Int):=or_put (0) d 24 (by omega) (by omega) (x:=a) (by omega) (by omega) (by omega) (by omega)
     have hpi:(a:Int) * 16777216=(pp:Int):=by omega
     have p0:(0:Int)≤(pp:Int):=by omega
     have p1:(pp:Int) < 4294967296:=by omega
     have hsh:IntKind.wrap .u64 (pp:Int)=(pp:Int):=by rw [IntKind.wrap_u64];omega
     have HR:Hid (a≤255):=by show _≤_;omega
     have HNN:Hid (d+a * 16777216=ss):=by show _=_;omega
     clear h255 HXM2 hss hpp
     go_wp2_with fail
     go_round
     case rel=>exact .inr (.inl ⟨rfl,by rw [HNN.out];try rfl,HR.out⟩)
     case measure=>simp [intOf]
   ·by_cases h255:255 < b
    ·have HV:Hid (sum4 0 [a,b,c,d] 0=none):=by
      show _=_
      rw [HSum.out,if_neg (by omega),if_pos h255]
     have g1:(255:Int) < (b:Int):=by omega
     clear h255
     generalize (d+a * 16777216:Nat)=nn
     go_wp2_with fail
     go_ret2
     exact JPost.no HV.out HBw.out
    ·have g1:¬(255:Int) < (b:Int):=by omega
     have HXM2:=HXM.out
     obtain ⟨nn,hnn⟩:∃nn,d+a * 16777216=nn:=⟨_,rfl⟩
     obtain ⟨pp,hpp⟩:∃pp,b * 65536=pp:=⟨_,rfl⟩
     obtain ⟨ss,hss⟩:∃ss,d+a * 16777216+b * 65536=ss:=⟨_,rfl⟩
     have hor:bits .or .u64 (nn:Int) (pp:Int)=(ss:Int):=or_put (a * 1) d 16 (by omega) (by omega) (x:=b) (by omega) (by omega) (by omega) (by omega)
     have hpi:(b:Int) * 65536=(pp:Int):=by omega
     have p0:(0:Int)≤(pp:Int):=by omega
     have p1:(pp:Int) < 4294967296:=by omega
     have hsh:IntKind.wrap .u64 (pp:Int)=(pp:Int):=by rw [IntKind.wrap_u64];omega
     have HR:Hid (b≤255):=by show _≤_;omega
     have HNN:Hid (nn+b * 65536=ss):=by show _=_;omega
     rw [hnn]
     clear h255 HXM2 hss hpp hnn
     go_wp2_with fail
     go_round
     case rel=>exact .inr (.inr (.inl ⟨rfl,by rw [HNN.out];try rfl,q0,HR.out⟩))
     case measure=>simp [intOf]
   ·by_cases h255:255 < c
    ·have HV:Hid (sum4 0 [a,b,c,d] 0=none):=by
      show _=_
      rw [HSum.out,if_neg (by omega),if_neg (by omega),if_pos h255]
     have g1:(255:Int) < (c:Int):=by omega
     clear h255
     generalize (d+a * 16777216+b * 65536:Nat)=nn
     go_wp2_with fail
     go_ret2
     exact JPost.no HV.out HBw.out
    ·have g1:¬(255:Int) < (c:Int):=by omega
     have HXM2:=HXM.out
     obtain ⟨nn,hnn⟩:∃nn,d+a * 16777216+b * 65536=nn:=⟨_,rfl⟩
     obtain ⟨pp,hpp⟩:∃pp,c * 256=pp:=⟨_,rfl⟩
     obtain ⟨ss,hss⟩:∃ss,d+a * 16777216+b * 65536+c * 256=ss:=⟨_,rfl⟩
     have hor:bits .or .u64 (nn:Int) (pp:Int)=(ss:Int):=or_put (a * 256+b * 1) d 8 (by omega) (by omega) (x:=c) (by omega) (by omega) (by omega) (by omega)
     have hpi:(c:Int) * 256=(pp:Int):=by omega
     have p0:(0:Int)≤(pp:Int):=by omega
     have p1:(pp:Int) < 4294967296:=by omega
     have hsh:IntKind.wrap .u64 (pp:Int)=(pp:Int):=by rw [IntKind.wrap_u64];omega
     have HR:Hid (c≤255):=by show _≤_;omega
     have HNN:Hid (nn+c * 256=ss):=by show _=_;omega
     rw [hnn]
     clear h255 HXM2 hss hpp hnn
     go_wp2_with fail
     go_round
     case rel=>exact .inr (.inr (.inr (⟨rfl,by rw [HNN.out];try rfl,q0,q1,HR.out⟩)))
     case measure=>simp [intOf]
   ·have HV:Hid (sum4 0 [a,b,c,d] 0=some (d+a * 16777216+b * 65536+c * 256)):=by
     show _=_
     rw [HSum.out,if_neg (by omega),if_neg (by omega),if_neg (by omega),if_pos HX.out]
     congr 1
     omega
    have HXM2:=HXM.out
    have hs:d+a * 16777216+b * 65536+c * 256 < 4294967296:=by omega
    clear HXM2
    obtain ⟨s,hse⟩:∃s,d+a * 16777216+b * 65536+c * 256=s:=⟨_,rfl⟩
    rw [hse] at HV hs ⊢
    have s0:(0:Int)≤(s:Int):=by omega
    have s1:(s:Int) < 4294967296:=by omega
    have s2:IntKind.wrap .u32 (s:Int)=(s:Int):=by rw [IntKind.wrap_u32];omega
    clear hs hse
    go_wp2_with fail
    go_ret2
    exact JPost.yes HV.out rfl HBw.out
 ·have x2:¬(d:Int) < 256:=by omega
  obtain ⟨qq,hqq⟩:∃qq,d/256=qq:=⟨_,rfl⟩
  have x3:(d:Int)/256=(qq:Int):=by omega
  have x4:((qq:Int)==0)=false:=by rw [beq_eq_false_iff_ne];omega
  have x5:((qq:Int) != 0)=true:=by rw [bne_iff_ne];omega
  have HV:Hid (sum4 0 [a,b,c,d] 0=none):=by
   show _=_
   rw [HSum.out,if_neg hx]
   repeat (first | rfl | (split;rfl))
  clear hx hqq ha hb hc hd
  go_enter Tryz.func168,Tryz.ntmps168
  go_wp2_with fail
  go_ret2
  exact JPost.no HV.out HBw.out
end Go.Proofs.YtigfgloenjoeoaaGreatDoor
