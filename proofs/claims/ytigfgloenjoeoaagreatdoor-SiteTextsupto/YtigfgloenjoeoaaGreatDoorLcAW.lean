import Derived.Test.YtigfgloenjoeoaaGreatDoorLcAK
import Derived.Shelf.Strings.IndexAnyAll
import Derived.Shelf.Strings.FuncGrows
import Derived.Shelf.Strconv.Clone
import Derived.Laws.Runes
import Derived.Deep.DrawnRows
set_option linter.unusedVariables false
set_option linter.unusedSimpArgs false
set_option maxRecDepth 20000
set_option maxHeartbeats 16000000
namespace Go.Proofs.YtigfgloenjoeoaaGreatDoor
open Go.RowKit Go.Shelf
def hruneRen:Ren:=⟨fun | 119=>185 | 137=>184 | 152=>160 | 217=>202 | 224=>186 | 225=>187 | 266=>213 | n=>n,fun | 0=>0 | 3=>3 | 4=>4 | 5=>5 | 9=>9 | 21=>21 | 46=>87 | n=>n,fun n=>n⟩
theorem hruneLays:Lays.n152 Tryz.prog hruneRen :=
 {mixed:=by kernel_rfl
  f119:=Tryz.func185.trans (congrArg some (by kernel_rfl))
  f137:=Tryz.func184.trans (congrArg some (by kernel_rfl))
  f152:=Tryz.func160.trans (congrArg some (by kernel_rfl))
  f217:=Tryz.func202.trans (congrArg some (by kernel_rfl))
  f224:=Tryz.func186.trans (congrArg some (by kernel_rfl))
  f225:=Tryz.func187.trans (congrArg some (by kernel_rfl))
  f266:=Tryz.func213.trans (congrArg some (by kernel_rfl))
  t0:=Tryz.underlying0
  a0:=Tryz.isAgg0
  z0:=Tryz.sizeOf0
  v0:=Tryz.zeroValue0
  t3:=Tryz.underlying3
  a3:=Tryz.isAgg3
  z3:=Tryz.sizeOf3
  v3:=Tryz.zeroValue3
  t4:=Tryz.underlying4
  a4:=Tryz.isAgg4
  z4:=Tryz.sizeOf4
  v4:=Tryz.zeroValue4
  t5:=Tryz.underlying5
  a5:=Tryz.isAgg5
  z5:=Tryz.sizeOf5
  v5:=Tryz.zeroValue5
  t9:=Tryz.underlying9
  a9:=Tryz.isAgg9
  z9:=Tryz.sizeOf9
  v9:=Tryz.zeroValue9
  t21:=Tryz.underlying21
  a21:=Tryz.isAgg21
  z21:=Tryz.sizeOf21
  v21:=Tryz.zeroValue21
  t46:=Tryz.underlying87
  a46:=Tryz.isAgg87
  z46:=Tryz.sizeOf87
  v46:=Tryz.zeroValue87 }
def hidxRen:Ren:=⟨fun | 119=>185 | 137=>184 | 152=>160 | 153=>111 | 217=>202 | 224=>186 | 225=>187 | 226=>161 | 227=>162 | 228=>163 | 266=>213 | n=>n,fun | 0=>0 | 3=>3 | 4=>4 | 5=>5 | 9=>9 | 21=>21 | 46=>87 | 116=>178 | 117=>179 | 124=>196 | n=>n,fun n=>n⟩
theorem hidxLays:Lays.n153 Tryz.prog hidxRen :=
 {mixed:=by kernel_rfl
  f119:=Tryz.func185.trans (congrArg some (by kernel_rfl))
  f137:=Tryz.func184.trans (congrArg some (by kernel_rfl))
  f152:=Tryz.func160.trans (congrArg some (by kernel_rfl))
  f153:=Tryz.func111.trans (congrArg some (by kernel_rfl))
  f217:=Tryz.func202.trans (congrArg some (by kernel_rfl))
  f224:=Tryz.func186.trans (congrArg some (by kernel_rfl))
  f225:=Tryz.func187.trans (congrArg some (by kernel_rfl))
  f226:=Tryz.func161.trans (congrArg some (by kernel_rfl))
  f227:=Tryz.func162.trans (congrArg some (by kernel_rfl))
  f228:=Tryz.func163.trans (congrArg some (by kernel_rfl))
  f266:=Tryz.func213.trans (congrArg some (by kernel_rfl))
  t0:=Tryz.underlying0
  a0:=Tryz.isAgg0
  z0:=Tryz.sizeOf0
  v0:=Tryz.zeroValue0
  t3:=Tryz.underlying3
  a3:=Tryz.isAgg3
  z3:=Tryz.sizeOf3
  v3:=Tryz.zeroValue3
  t4:=Tryz.underlying4
  a4:=Tryz.isAgg4
  z4:=Tryz.sizeOf4
  v4:=Tryz.zeroValue4
  t5:=Tryz.underlying5
  a5:=Tryz.isAgg5
  z5:=Tryz.sizeOf5
  v5:=Tryz.zeroValue5
  t9:=Tryz.underlying9
  a9:=Tryz.isAgg9
  z9:=Tryz.sizeOf9
  v9:=Tryz.zeroValue9
  t21:=Tryz.underlying21
  a21:=Tryz.isAgg21
  z21:=Tryz.sizeOf21
  v21:=Tryz.zeroValue21
  t46:=Tryz.underlying87
  a46:=Tryz.isAgg87
  z46:=Tryz.sizeOf87
  v46:=Tryz.zeroValue87
  t116:=Tryz.underlying178
  a116:=Tryz.isAgg178
  z116:=Tryz.sizeOf178
  t117:=Tryz.underlying179
  a117:=Tryz.isAgg179
  z117:=Tryz.sizeOf179
  v117:=Tryz.zeroValue179
  t124:=Tryz.underlying196
  a124:=Tryz.isAgg196
  z124:=Tryz.sizeOf196
  v124:=Tryz.zeroValue196 }
def hbyteRen:Ren:=⟨fun | 137=>184 | 217=>202 | 266=>213 | n=>n,fun | 3=>3 | 5=>5 | 9=>9 | n=>n,fun n=>n⟩
theorem hbyteLays:Lays.n137 Tryz.prog hbyteRen :=
 {mixed:=by kernel_rfl
  f137:=Tryz.func184.trans (congrArg some (by kernel_rfl))
  f217:=Tryz.func202.trans (congrArg some (by kernel_rfl))
  f266:=Tryz.func213.trans (congrArg some (by kernel_rfl))
  t3:=Tryz.underlying3
  a3:=Tryz.isAgg3
  z3:=Tryz.sizeOf3
  v3:=Tryz.zeroValue3
  t5:=Tryz.underlying5
  a5:=Tryz.isAgg5
  z5:=Tryz.sizeOf5
  v5:=Tryz.zeroValue5
  t9:=Tryz.underlying9
  a9:=Tryz.isAgg9
  z9:=Tryz.sizeOf9
  v9:=Tryz.zeroValue9 }
def huseRen:Ren:=⟨fun | 226=>161 | n=>n,fun | 3=>3 | 4=>4 | n=>n,fun n=>n⟩
theorem huseLays:Lays.n226 Tryz.prog huseRen :=
 {mixed:=by kernel_rfl
  f226:=Tryz.func161.trans (congrArg some (by kernel_rfl))
  t3:=Tryz.underlying3
  a3:=Tryz.isAgg3
  z3:=Tryz.sizeOf3
  v3:=Tryz.zeroValue3
  t4:=Tryz.underlying4
  a4:=Tryz.isAgg4
  z4:=Tryz.sizeOf4
  v4:=Tryz.zeroValue4 }
def hfunRen:Ren:=⟨fun | 315=>164 | n=>n,fun | 0=>0 | 3=>3 | 4=>4 | 9=>9 | 21=>21 | 40=>104 | n=>n,fun n=>n⟩
theorem hfunLays:Lays.n315 Tryz.prog hfunRen :=
 {mixed:=by kernel_rfl
  f315:=Tryz.func164.trans (congrArg some (by kernel_rfl))
  t0:=Tryz.underlying0
  a0:=Tryz.isAgg0
  z0:=Tryz.sizeOf0
  v0:=Tryz.zeroValue0
  t3:=Tryz.underlying3
  a3:=Tryz.isAgg3
  z3:=Tryz.sizeOf3
  v3:=Tryz.zeroValue3
  t4:=Tryz.underlying4
  a4:=Tryz.isAgg4
  z4:=Tryz.sizeOf4
  v4:=Tryz.zeroValue4
  t9:=Tryz.underlying9
  a9:=Tryz.isAgg9
  z9:=Tryz.sizeOf9
  v9:=Tryz.zeroValue9
  t21:=Tryz.underlying21
  a21:=Tryz.isAgg21
  z21:=Tryz.sizeOf21
  v21:=Tryz.zeroValue21
  t40:=Tryz.underlying104
  a40:=Tryz.isAgg104
  z40:=Tryz.sizeOf104
  v40:=Tryz.zeroValue104 }
def hcloneRen:Ren:=⟨fun | 316=>39 | n=>n,fun | 0=>0 | 3=>3 | 4=>4 | 5=>5 | 9=>9 | 37=>73 | 127=>77 | n=>n,fun n=>n⟩
theorem hcloneLays:Lays.n316 Tryz.prog hcloneRen :=
 {mixed:=by kernel_rfl
  f316:=Tryz.func39.trans (congrArg some (by kernel_rfl))
  t0:=Tryz.underlying0
  a0:=Tryz.isAgg0
  z0:=Tryz.sizeOf0
  v0:=Tryz.zeroValue0
  t3:=Tryz.underlying3
  a3:=Tryz.isAgg3
  z3:=Tryz.sizeOf3
  v3:=Tryz.zeroValue3
  t4:=Tryz.underlying4
  a4:=Tryz.isAgg4
  z4:=Tryz.sizeOf4
  v4:=Tryz.zeroValue4
  t9:=Tryz.underlying9
  a9:=Tryz.isAgg9
  z9:=Tryz.sizeOf9
  v9:=Tryz.zeroValue9
  t37:=Tryz.underlying73
  a37:=Tryz.isAgg73
  z37:=Tryz.sizeOf73
  v37:=Tryz.zeroValue73
  t127:=Tryz.underlying77
  a127:=Tryz.isAgg77
  z127:=Tryz.sizeOf77
  v127:=Tryz.zeroValue77 }
theorem hcloneLaysM:LaysM.n316 Tryz.prog hcloneRen :=
 {hcloneLays with
  t5:=Tryz.underlying5
  a5:=Tryz.isAgg5
  z5:=Tryz.sizeOf5
  v5:=Tryz.zeroValue5
  i0:=by kernel_rfl
  i3:=by kernel_rfl
  i4:=by kernel_rfl
  i5:=by kernel_rfl
  i9:=by kernel_rfl
  i37:=by kernel_rfl
  i127:=by kernel_rfl }
theorem h116:(Tryz.prog.info? (hidxRen.t 116)).map (fun i=>(i.zero,i.size))=some (some (.agg (Array.replicate 256 (.bool false))),256):=by kernel_rfl
theorem h116v:∀w,(zeroValue (hidxRen.t 116)).run Tryz.prog w=.ok (.agg (Array.replicate 256 (.bool false))) w:=(zero_of_info h116).1
theorem h116i:(Tryz.prog.info? (hidxRen.t 116)).map (·.size)=some 256:=(zero_of_info h116).2
theorem hclone_calls (s:ByteArray) (w:World) (hs:s.size≤100000):Calls Tryz.prog 26 #[.string s] w fun e w'=>e=.returned (.string s)∧Below w.heap.size w w':=by
 have HC:=hid (fun w=>Any.stringslite_Clone (P:=Tryz.prog) hcloneLaysM s w (by omega))
 clear hs
 go_enter Tryz.func26,Tryz.ntmps26
 go_wp2_with fail
 refine (HC.out _).mono ?_
 rintro e w1 ⟨rfl,hb⟩
 go_wp2_with fail
 go_ret
 exact ⟨rfl,hb⟩
def LowS (t:ByteArray):Prop:=∀j (h:j < t.size),(t[j]'h).toNat < 128
theorem LowS.list {t:ByteArray} (h:LowS t):∀b∈t.data.toList,b.toNat < 128:=by
 intro b hb
 obtain ⟨j,hj,rfl⟩:=List.getElem_of_mem hb
 exact h j (by rw [Array.length_toList] at hj;exact hj)
theorem byte_none:∀(l:List UInt8) (c:UInt8),(∀b∈l,b≠c)→Lib.indexByte l c=-1
 | [],c,h=>rfl
 | b::l,c,h=>by
   have ih:=byte_none l c (fun x hx=>h x (List.mem_cons_of_mem _ hx))
   rw [Lib.indexByte,ih]
   have:(b==c)=false:=beq_eq_false_iff_ne.2 (h b List.mem_cons_self)
   rw [this]
   rfl
theorem byte_cut {t:ByteArray} (h:LowS t) (a b:Nat) (y:Nat) (hy:128≤y) (hy2:y < 256):Lib.indexByte (t.extract a b).data.toList ((y:Int)).toNat.toUInt8=-1:=by
 refine byte_none _ _ fun x hx e=>?_
 have h1:=h.list x (mem_extract hx)
 rw [e] at h1
 have:(((y:Int)).toNat.toUInt8).toNat=y:=by simp;omega
 omega
theorem hrune_err (t:ByteArray) (w:World) (ht:LowS t) (ht2:t.size≤1000) :
 Calls Tryz.prog 160 #[.string t,.int .i32 65533] w fun e w'=>e=.returned (.int .i64 (-1))∧Below w.heap.size w w':=by
 have HT:=hid ht
 have t1:(t.size:Int)≤1000:=by omega
 clear ht ht2
 go_enter Tryz.func160,Tryz.ntmps160
 go_wp2
 go_loopg [] t.size (fun g wx=>∃i:Nat,i+g=t.size∧wx.heap[w.heap.size]? = some (.stringIter t i)∧Below w.heap.size w wx)
 case atStart=>exact ⟨0,by omega,World.iter_heap w t 0,(Below.refl _ w).alloc (Nat.le_refl _) _⟩
 case round =>
  obtain ⟨i,hig,hit,hbw⟩:=hrel
  cases gk with
  | zero =>
    have hnx:∀ty,(Instr.next (.pointer (some ⟨w.heap.size,0,none⟩)) true ty).run Tryz.prog wr=_:=fun ty=>Lib.run_next_end_at wr w.heap.size t i ty hit (by omega)
    go_wp2
    go_ret
    exact ⟨rfl,hbw⟩
  | succ g =>
    have hi:i < t.size:=by omega
    have hx128:=HT.out i hi
    have hnx:∀ty,(Instr.next (.pointer (some ⟨w.heap.size,0,none⟩)) true ty).run Tryz.prog wr=_:=fun ty=>Lib.run_next_ascii_at wr w.heap.size t i ty hit hi hx128
    obtain ⟨x,hx⟩:∃x,(t[i]'hi).toNat=x:=⟨_,rfl⟩
    rw [hx] at hnx hx128
    have hit2:=hid (Lib.iterAt_heap wr w.heap.size t i (i+1) hit)
    have hbw2:=hid (Lib.below_iterAt hbw (k:=w.heap.size) (Nat.le_refl _) t (i+1))
    have e1:((x:Int)==65533)=false:=by rw [beq_eq_false_iff_ne];omega
    have hig2:=hid hig
    clear hx hx128 hit hbw hi hig
    generalize wr.iterAt w.heap.size t (i+1)=W at *
    go_wp2
    go_roundg g
    case measure=>omega
    case rel=>exact ⟨i+1,by have:=hig2.out;omega,hit2.out,hbw2.out⟩
theorem hvalid_calls (r:Nat) (w:World) (hr2:r≤1114111) (hv:r < 55296∨57344≤r):Calls Tryz.prog 185 #[.int .i32 (r:Int)] w fun e w'=>e=.returned (.bool true)∧w'=w:=by
 have c1:(r:Int)≤1114111:=by omega
 have c0:(0:Int)≤(r:Int):=by omega
 rcases hv with h | h
 ·have c2:(r:Int) < 55296:=by omega
  clear h hr2
  go_enter Tryz.func185,Tryz.ntmps185
  go_wp2_with fail
  go_ret
  exact ⟨rfl,rfl⟩
 ·have c2:¬(r:Int) < 55296:=by omega
  have c3:(57343:Int) < (r:Int):=by omega
  clear h hr2
  go_enter Tryz.func185,Tryz.ntmps185
  go_wp2_with fail
  go_ret
  exact ⟨rfl,rfl⟩
end Go.Proofs.YtigfgloenjoeoaaGreatDoor
