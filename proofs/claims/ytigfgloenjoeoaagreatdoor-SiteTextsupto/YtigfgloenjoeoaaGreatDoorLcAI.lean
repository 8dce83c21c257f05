import Derived.Test.YtigfgloenjoeoaaGreatDoorLcAC
import Derived.Test.YtigfgloenjoeoaaGreatDoorLcAG
import Derived.Lib.LazyBuf
set_option linter.unusedVariables false
set_option linter.unusedSimpArgs false
set_option maxRecDepth 20000
set_option maxHeartbeats 16000000
namespace Go.Proofs.YtigfgloenjoeoaaGreatDoor
open Go.RowKit Go.Shelf
def ins (l:List Nat) (i x:Nat):List Nat:=l.take i++x::l.drop i
theorem ins_len (l:List Nat) (i x:Nat) (h:i≤l.length):(ins l i x).length=l.length+1:=by simp [ins];omega
theorem ins_at (l:List Nat) (i x j:Nat) (h:i≤l.length):(ins l i x)[j]? = if j < i then l[j]? else if j=i then some x else l[j-1]? := by
 unfold ins
 rw [List.getElem?_append]
 rw [List.length_take,Nat.min_eq_left h]
 split
 ·rw [List.getElem?_take_of_lt (by assumption)]
 ·split
  ·rename_i h2;subst h2;simp
  ·rw [List.getElem?_cons,if_neg (by omega),List.getElem?_drop];congr 1;omega
theorem own_of_rowIs {w:World} {g cap base:Nat} {f:Nat→Value} {l:List Nat} (h:w.rowIs g 3 cap f) (hl:l.length≤cap) (hm:cap≤maxLen) (hb:base≤g) (hf:∀j c,l[j]? = some c→f j=fn c):NOwn w base (.slice (some ⟨g,0,none⟩) l.length cap) l:=by
 obtain ⟨c,hc,hs,hg⟩:=h
 refine ⟨by simp,.inr ⟨g,cap,c,rfl,hb,hc,hl,hm,by omega,?_⟩⟩
 apply List.ext_getElem?
 intro j
 rw [List.getElem?_take,List.getElem?_map]
 by_cases hj:j < l.length * 1
 ·rw [if_pos hj,Array.getElem?_toList,hg j (by omega),List.getElem?_eq_getElem (by omega)]
  simp only [Option.map_some]
  rw [hf j l[j] (List.getElem?_eq_getElem (by omega))]
 ·rw [if_neg hj,List.getElem?_eq_none (by omega)];rfl
theorem rowIs_of_own {w:World} {g n cap base:Nat} {l:List Nat} (h:NOwn w base (.slice (some ⟨g,0,none⟩) n cap) l):∃f,w.rowIs g 3 cap f∧n=l.length∧l.length≤cap∧cap≤maxLen∧base≤g∧∀j c,l[j]? = some c→f j=fn c:=by
 rcases h.2 with ⟨he,_⟩ | ⟨g',cap',cur,he,hb,hg,hnc,hcm,hs,ht⟩
 ·cases he
 ·injection he with e1 e2 e3
  injection e1 with e1
  injection e1 with e1
  subst e1 e2 e3
  refine ⟨fun j=>cur[j]?.getD default,⟨cur,hg,by omega,fun i hi=>by simp [Array.getElem?_eq_getElem (show i < cur.size by omega)]⟩,rfl,hnc,hcm,hb,fun j c hj=>?_⟩
  have hjl:j < l.length:=by
   rcases Nat.lt_or_ge j l.length with h' | h'
   ·exact h'
   ·rw [List.getElem?_eq_none h'] at hj;cases hj
  have h2:=congrArg (fun z=>z[j]?) ht
  simp only [List.getElem?_take,List.getElem?_map,hj] at h2
  rw [if_pos (by omega),Array.getElem?_toList] at h2
  show cur[j]?.getD default=fn c
  rw [h2];rfl
theorem one_cell {vs:List Nat}:∀v∈vs.map fn,v.oneCell'=true:=by
 intro v hv
 obtain ⟨c,_,rfl⟩:=List.mem_map.1 hv
 rfl
theorem at_map {l:List Nat} {j:Nat} {v:Value} (h:(l.map fn)[j]? = some v):∃c,l[j]? = some c∧v=fn c:=by
 rw [List.getElem?_map] at h
 cases hc:l[j]? with
 | none=>rw [hc] at h;cases h
 | some c=>rw [hc] at h;injection h with h;exact ⟨c,rfl,h.symm⟩
theorem ins_fun {l:List Nat} {i x:Nat} (hi:i≤l.length) {f:Nat→Value} (h1:∀j c,j < i→l[j]? = some c→f j=fn c) (h2:f i=fn x) (h3:∀j c,i < j→l[j-1]? = some c→f j=fn c):∀j c,(ins l i x)[j]? = some c→f j=fn c:=by
 intro j c hj
 rw [ins_at l i x j hi] at hj
 split at hj
 ·exact h1 j c (by assumption) hj
 ·split at hj
  ·rename_i h;subst h;injection hj with hj;rw [h2,hj]
  ·exact h3 j c (by omega) hj
theorem insert_calls (v:Value) (l:List Nat) (i x:Nat) (w:World) (base:Nat) (ho:NOwn w base v l) (hb:base≤w.heap.size) (hl:l.length≤1000) (hi:i≤l.length) :
 Calls Tryz.prog 212 #[v,.int .i64 (i:Int),.slice (some ⟨w.heap.size,0,none⟩) 1 1] (w.alloc (.cells #[.int .i64 (x:Int)] 3)) fun e w'=>(∃v',e=.returned v'∧NOwn w' base v' (ins l i x))∧Below base w w':=by
 have hx:(w.alloc (.cells #[.int .i64 (x:Int)] 3)).rowIs w.heap.size 3 1 (fun _=>fn x):=World.rowIs_alloc w #[.int .i64 (x:Int)] 3 (fun _=>fn x) (by intro j hj;simp at hj;subst hj;rfl)
 have hbw:Below base w (w.alloc (.cells #[.int .i64 (x:Int)] 3)):=(Below.refl _ _).alloc hb _
 have hsz:(w.alloc (.cells #[.int .i64 (x:Int)] 3)).heap.size=w.heap.size+1:=by simp
 have ho1:NOwn (w.alloc (.cells #[.int .i64 (x:Int)] 3)) base v l:=ho.alloc _
 have hlt:∀g,v.ownBlock=some g→g < w.heap.size:=fun g hg=>(World.ownsRow.lt ho g hg).2
 generalize w.alloc (.cells #[.int .i64 (x:Int)] 3)=w1 at *
 have hvs:∀j v,([x].map fn)[j]? = some v→w1.cell? ⟨w.heap.size,0+j,none⟩=some v:=by
  intro j v hj
  obtain ⟨c,hc,rfl⟩:=at_map hj
  have:j=0:=by
   cases j with
   | zero=>rfl
   | succ j=>simp at hc
  subst this
  simp at hc
  subst hc
  exact hx.cell (by decide)
 have hil:=ins_len l i x hi
 have hgrow:∀(a:Option Addr) (n cap:Nat),v=.slice a n cap→n=l.length→l.length≤cap→cap≤maxLen→(a=none→l.length=0)→(∀b,a=some b→b.spot=none∧b.off=0∧∀j c,l[j]? = some c→w1.cell? ⟨b.block,j,none⟩=some (fn c))→cap < l.length+1 →
  Calls Tryz.prog 212 #[v,.int .i64 (i:Int),.slice (some ⟨w.heap.size,0,none⟩) 1 1] w1 fun e w'=>(∃v',e=.returned v'∧NOwn w' base v' (ins l i x))∧Below base w w':=by
  intro a n cap hv hn hlc hcm hnil hcs hroom
  subst hv hn
  have hg1:=grownCap_ge w1 (l.length+1) cap 3
  have hg2:=grownCap_le_maxLen w1 (l.length+1) cap 3 (by unfold maxLen;omega)
  rcases Nat.lt_or_ge i l.length with h | h
  ·cases a with
   | none=>exact absurd (hnil rfl) (by omega)
   | some b =>
     obtain ⟨bb,bo,bs⟩:=b
     obtain ⟨e1,e2,hc⟩:=hcs _ rfl
     simp only at e1 e2 hc
     subst e1 e2
     have hC:=Any2.slices_Insert_int_grow insLays bb 0 l.length cap i w.heap.size 0 1 1 (l.map fn) ([x].map fn) w1 h (by decide) hlc hroom (by omega) (by simp) (by simp)
      (fun j v hj=>by obtain ⟨c,h1,rfl⟩:=at_map hj;rw [Nat.zero_add];exact hc j c h1) hvs one_cell one_cell
     refine hC.mono ?_
     rintro e w' ⟨rfl,rfl⟩
     have hA:=World.rowIs_alloc w1 (((l.map fn).take i).toArray++Builtin.zeroCells (Value.int .i64 0).cells (l.length+1-i)++Builtin.zeroCells (Value.int .i64 0).cells (grownCap w1 (l.length+1) cap 3-(l.length+1))) 3
      (fun j=>(((l.map fn).take i).toArray++Builtin.zeroCells (Value.int .i64 0).cells (l.length+1-i)++Builtin.zeroCells (Value.int .i64 0).cells (grownCap w1 (l.length+1) cap 3-(l.length+1)))[j]?.getD default) (fun j hj=>by rw [Array.getElem?_eq_getElem hj];rfl)
     have hsA:(((l.map fn).take i).toArray++Builtin.zeroCells (Value.int .i64 0).cells (l.length+1-i)++Builtin.zeroCells (Value.int .i64 0).cells (grownCap w1 (l.length+1) cap 3-(l.length+1))).size=grownCap w1 (l.length+1) cap 3:=by
      rw [Array.size_append,Array.size_append,size_zeroCells,size_zeroCells]
      simp [Value.cells]
      omega
     rw [hsA] at hA
     have hS:=rowIs_setCells ((l.map fn).drop i) (i+1) _ _ (rowIs_setCells ([x].map fn) i _ _ hA.drew).drew
     refine ⟨⟨_,rfl,?_⟩,?_⟩
     ·have hO:=own_of_rowIs (base:=base) (l:=ins l i x) hS (by omega) hg2 (by omega) (ins_fun hi ?_ ?_ ?_)
      ·rw [hil] at hO;exact hO
      ·intro j c hj hc
       have hjl:j < l.length:=by omega
       rw [if_neg (by omega),if_neg (by simp;omega)]
       rw [Array.getElem?_append_left (by simp;omega),Array.getElem?_append_left (by simp;omega)]
       simp [List.getElem?_take,hj,hc]
      ·rw [if_neg (by omega),if_pos (by simp)]
       simp
      ·intro j c hj hc
       have hjl:j-1 < l.length:=by
        rcases Nat.lt_or_ge (j-1) l.length with h' | h'
        ·exact h'
        ·rw [List.getElem?_eq_none h'] at hc;cases hc
       rw [if_pos (by simp;omega),List.getElem?_drop,show i+(j-(i+1))=j-1 by omega,List.getElem?_map,hc]
       rfl
     ·exact below_setCells (by omega) _ _ _ (below_setCells (by omega) _ _ _ ((hbw.alloc (by omega) _).drew)).drew
  ·have hie:i=l.length:=by omega
   subst hie
   have hC:=Any2.slices_Insert_int_end_grow insLays a l.length cap w.heap.size 0 1 1 (l.map fn) ([x].map fn) w1 (by decide) hlc hroom (by omega) (by simp) (by simp) hnil
    (fun b hb j v hj=>by
     obtain ⟨c,h1,rfl⟩:=at_map hj
     obtain ⟨bb,bo,bs⟩:=b
     obtain ⟨e1,e2,hc⟩:=hcs _ hb
     simp only at e1 e2 hc
     subst e1 e2
     rw [addr_add,Nat.zero_add];exact hc j c h1) hvs one_cell
   refine hC.mono ?_
   rintro e w' ⟨rfl,rfl⟩
   have hA:=World.rowIs_alloc w1 ((l.map fn++[x].map fn).toArray++Builtin.zeroCells (Value.int .i64 0).cells (grownCap w1 (l.length+1) cap 3-(l.length+1))) 3
    (fun j=>((l.map fn++[x].map fn).toArray++Builtin.zeroCells (Value.int .i64 0).cells (grownCap w1 (l.length+1) cap 3-(l.length+1)))[j]?.getD default) (fun j hj=>by rw [Array.getElem?_eq_getElem hj];rfl)
   have hsA:((l.map fn++[x].map fn).toArray++Builtin.zeroCells (Value.int .i64 0).cells (grownCap w1 (l.length+1) cap 3-(l.length+1))).size=grownCap w1 (l.length+1) cap 3:=by
    rw [Array.size_append,size_zeroCells]
    simp [Value.cells]
    omega
   rw [hsA] at hA
   refine ⟨⟨_,rfl,?_⟩,hbw.drew.alloc (by show base≤w1.heap.size;omega) _⟩
   have hO:=own_of_rowIs (base:=base) (l:=ins l l.length x) hA (by omega) hg2 (by omega) (ins_fun hi ?_ ?_ ?_)
   ·rw [hil] at hO;exact hO
   ·intro j c hj hc
    rw [Array.getElem?_append_left (by simp;omega)]
    rw [List.getElem?_eq_getElem hj] at hc
    injection hc with hc
    simp [List.getElem?_append,hj,hc]
   ·rw [Array.getElem?_append_left (by simp)]
    simp
   ·intro j c hj hc
    exfalso
    rw [List.getElem?_eq_none (by omega)] at hc;cases hc
 rcases ho.2 with ⟨rfl,hn⟩ | ⟨g,cap,cur,rfl,hbg,hg,hnc,hcm,hcs,htk⟩
 ·exact hgrow none 0 0 rfl (by omega) (by omega) (by unfold maxLen;omega) (fun _=>by omega) (fun b hb=>by cases hb) (by omega)
 ·obtain ⟨f,hf,_,hlc,hcm',hbg',hfl⟩:=rowIs_of_own ho1
  have hgw:g < w.heap.size:=hlt g rfl
  have hcell:∀j c,l[j]? = some c→w1.cell? ⟨g,j,none⟩=some (fn c):=by
   intro j c hj
   have hjl:j < l.length:=by
    rcases Nat.lt_or_ge j l.length with h' | h'
    ·exact h'
    ·rw [List.getElem?_eq_none h'] at hj;cases hj
   rw [hf.cell (by omega),hfl j c hj]
  by_cases hroom:cap < l.length+1
  ·exact hgrow (some ⟨g,0,none⟩) l.length cap rfl rfl hlc hcm' (fun h=>by cases h) (fun b hb=>by injection hb with hb;subst hb;exact ⟨rfl,rfl,hcell⟩) hroom
  ·rcases Nat.lt_or_ge i l.length with h | h
   ·have hC:=Any2.slices_Insert_int_shift insLays g 0 l.length cap i w.heap.size 0 1 1 (l.map fn) ([x].map fn) w1 h (by decide) (by omega) (by unfold maxLen at hcm;omega) (by omega) (by simp) (by simp)
     (fun j v hj=>by obtain ⟨c,h1,rfl⟩:=at_map hj;rw [Nat.zero_add];exact hcell j c h1)
     (fun j hj=>by rw [Nat.zero_add,hf.cell (by omega)];rfl) (fun j hj=>hf.frozen _) hvs one_cell one_cell 3 3 1 cap
     (by obtain ⟨c,hc,hs,_⟩:=hx;simp [World.shape?,hc,hs]) (by obtain ⟨c,hc,hs,_⟩:=hf;simp [World.shape?,hc,hs]) (by omega) (hx.frozen _) (hx.frozen _)
    refine hC.mono ?_
    rintro e w' ⟨rfl,rfl⟩
    have hS:=rowIs_setCells ([x].map fn) (0+i) _ _ (rowIs_setCells ((l.map fn).drop i) (0+(i+1)) _ _ hf.drew)
    refine ⟨⟨_,rfl,?_⟩,below_setCells (by omega) _ _ _ (below_setCells (by omega) _ _ _ hbw.drew)⟩
    have hO:=own_of_rowIs (base:=base) (l:=ins l i x) hS (by omega) hcm' hbg (ins_fun hi ?_ ?_ ?_)
    ·rw [hil] at hO;exact hO
    ·intro j c hj hc
     rw [if_neg (by simp;omega),if_neg (by omega)]
     exact hfl j c hc
    ·rw [if_pos (by simp)]
     simp
    ·intro j c hj hc
     have hjl:j-1 < l.length:=by
      rcases Nat.lt_or_ge (j-1) l.length with h' | h'
      ·exact h'
      ·rw [List.getElem?_eq_none h'] at hc;cases hc
     rw [if_neg (by simp;omega),if_pos (by simp;omega),List.getElem?_drop,show i+(j-(0+(i+1)))=j-1 by omega,List.getElem?_map,hc]
     rfl
   ·have hie:i=l.length:=by omega
    subst hie
    have hC:=Any2.slices_Insert_int_end_room insLays g 0 l.length cap w.heap.size 0 1 1 ([x].map fn) w1 (by decide) (by omega) (by unfold maxLen at hcm;omega) (by simp)
     (fun j hj=>by rw [hf.cell (by omega)];rfl) (fun j hj=>hf.frozen _) hvs one_cell
    refine hC.mono ?_
    rintro e w' ⟨rfl,rfl⟩
    have hS:=rowIs_setCells ([x].map fn) (0+l.length) _ _ hf
    refine ⟨⟨_,rfl,?_⟩,below_setCells (by omega) _ _ _ hbw⟩
    have hO:=own_of_rowIs (base:=base) (l:=ins l l.length x) hS (by omega) hcm' hbg (ins_fun hi ?_ ?_ ?_)
    ·rw [hil] at hO;exact hO
    ·intro j c hj hc
     rw [if_neg (by simp;omega)]
     exact hfl j c hc
    ·rw [if_pos (by simp)]
     simp
    ·intro j c hj hc
     exfalso
     rw [List.getElem?_eq_none (by omega)] at hc;cases hc
theorem last_calls (s:ByteArray) (w:World) (hs:s.size≤5000):Calls Tryz.prog 210 #[.string s,.int .u8 45] w fun e w'=>e=.returned (.int .i64 (Lib.lastIndexByte s 45))∧w'=w :=
 Any.strings_LastIndexByte lixLays s 45 (by omega) w
theorem cut_some (s:ByteArray) (w:World) (hs:s.size≤5000) (c:Nat) (hc:Lib.lastIndexByte s 45=(c:Int)) (h0:0 < c) (h1:c < s.size):Calls Tryz.prog 196 #[.string s] w fun e w'=>e=.returned (.tuple #[.string (s.extract 0 c),.string (s.extract (c+1) s.size)])∧Below w.heap.size w w':=by
 have HL:=hid (last_calls s w hs)
 rw [hc] at HL
 have g0:(0:Int) < (c:Int):=by omega
 have g1:(c:Int) < (s.size:Int):=by omega
 have g2:(s.size:Int)≤5000:=by omega
 clear hc h0 h1 hs
 go_enter Tryz.func196,Tryz.ntmps196
 go_wp2_with fail
 refine HL.out.mono ?_
 rintro e w1 ⟨rfl,rfl⟩
 go_wp2_with fail
 go_quiet (fail)
 have HB:=hid (below_drewN (Below.refl w1.heap.size w1) nq)
 generalize w1.drewN nq=wx at *
 go_wp2_with fail
 go_ret2
 exact ⟨rfl,HB.out⟩
theorem cut_none (s:ByteArray) (w:World) (hs:s.size≤5000) (h0:Lib.lastIndexByte s 45≤0):Calls Tryz.prog 196 #[.string s] w fun e w'=>e=.returned (.tuple #[.string (strOf []),.string s])∧Below w.heap.size w w':=by
 have HL:=hid (last_calls s w hs)
 generalize Lib.lastIndexByte s 45=c at *
 clear hs
 go_enter Tryz.func196,Tryz.ntmps196
 go_wp2_with fail
 refine HL.out.mono ?_
 rintro e w1 ⟨rfl,rfl⟩
 go_wp2_with fail
 go_ret2
 exact ⟨rfl,Below.refl _ _⟩
theorem make_full {t ts:TypeId} {z:Value} {bytes:Nat} (hu:Tryz.prog.underlying ts=some (.slice t)) (hin:(Tryz.prog.info? t).map (fun i=>(i.zero,i.size,i.bytes))=some (some z,1,bytes)) (hby:bytes≤16) (n:Nat) (hn:n≤1000000) (w:World) :
 (Instr.makeSlice ts (.int .i64 (n:Int)) (.int .i64 (n:Int))).run Tryz.prog w=.ok (.slice (some ⟨w.heap.size,0,none⟩) n n) (w.alloc (.cells (madeCells z.cells n) t)):=by
 obtain ⟨i0,hi,hz0,hz1,hz2⟩:=info_parts hin
 have e:((bytes * n:Nat):Int)=(bytes:Int) * (n:Int):=by simp
 have hm:=Nat.mul_le_mul hby hn
 have h:=run_make (P:=Tryz.prog) w ts t i0 z hu hi hz0 .i64 .i64 (n:Int) (n:Int) (by omega) (by omega) (by rw [hz2];omega) (by omega)
 rw [hz1] at h
 simpa using h
theorem makeFI (n:Nat) (hn:n≤1000000) (w:World):(Instr.makeSlice 63 (.int .i64 (n:Int)) (.int .i64 (n:Int))).run Tryz.prog w=.ok (.slice (some ⟨w.heap.size,0,none⟩) n n) (w.alloc (.cells (madeCells #[.int .i64 0] n) 3)):=make_full Tryz.underlying63 info_i64 (by decide) n hn w
theorem plain_long (s:ByteArray) (w:World) (hs:256 < s.size) (hs2:s.size≤5000):Calls Tryz.prog 197 #[.string s] w fun e w'=>e=.returned (.tuple #[.slice none 0 0,.bool false])∧Below w.heap.size w w':=by
 have g1:(256:Int) < (s.size:Int):=by omega
 have g2:(s.size:Int)≤5000:=by omega
 clear hs hs2
 go_enter Tryz.func197,Tryz.ntmps197
 go_wp2_with fail
 go_ret2
 exact ⟨rfl,Below.refl _ _⟩
def bytesOf (s:ByteArray):List UInt8:=s.data.toList
theorem bytesOf_len (s:ByteArray):(bytesOf s).length=s.size:=by simp [bytesOf]
def PlainPost (s:ByteArray) (w:World) (e:Ending) (w':World):Prop :=
 ((∀c∈bytesOf s,c.toNat < 128)∧(∃v,e=.returned (.tuple #[v,.bool true])∧NOwn w' w.heap.size v ((bytesOf s).map UInt8.toNat))∨(¬ ∀c∈bytesOf s,c.toNat < 128)∧e=.returned (.tuple #[.slice none 0 0,.bool false]))∧Below w.heap.size w w'
theorem plain_calls (s:ByteArray) (w:World) (hs:s.size≤256):Calls Tryz.prog 197 #[.string s] w fun e w'=>PlainPost s w e w':=by
 have g2:(s.size:Int)≤256:=by omega
 have g3:¬(256:Int) < (s.size:Int):=by omega
 have hmk:=makeFI s.size (by omega)
 have HM:=hid (World.rowIs_made w (.int .i64 0) s.size 3)
 have HB0:Hid (Below w.heap.size w (w.alloc (.cells (madeCells #[.int .i64 0] s.size) 3))):=(Below.refl _ _).alloc (Nat.le_refl _) _
 clear hs
 go_enter Tryz.func197,Tryz.ntmps197
 go_wp2_with fail
 clear hmk
 generalize w.alloc (.cells (madeCells #[.int .i64 0] s.size) 3)=ws at *
 go_loopw [15] (fun vi wr=>∃k:Nat,k≤s.size∧vi=.int .i64 (k:Int)∧wr.rowIs w.heap.size 3 s.size (fun j=>if j < k then fn (((bytesOf s)[j]?.getD 0).toNat) else .int .i64 0)∧Below w.heap.size w wr∧∀c∈(bytesOf s).take k,c.toNat < 128) (fun vi _=>s.size-(intOf vi).toNat)
 case atStart=>exact ⟨0,Nat.zero_le _,rfl,HM.out.congr (fun j hj=>by rw [if_neg (by omega)]),HB0.out,by simp⟩
 case round =>
  obtain ⟨k,hk,rfl,hr,hb,hall⟩:=hrel
  clear HM HB0
  by_cases hlt:k < s.size
  ·have k0:(0:Int)≤(k:Int):=by omega
   have k1:(k:Int) < (s.size:Int):=by omega
   have hcell:=hr.cell hlt
   have hfz:=hr.frozen k
   rw [if_neg (by omega)] at hcell
   have hbl:=bytesOf_len s
   have hsk:(bytesOf s)[k]? = some s[k]:=by
    rw [List.getElem?_eq_getElem (by omega)];rfl
   have HS:=hid hsk
   have hx256:=byte_lt s[k]
   have HST:Hid ((bytesOf s).take (k+1)=(bytesOf s).take k++[s[k]]):=by
    show _=_
    rw [List.take_succ_eq_append_getElem (by omega)];rfl
   have HMem:Hid (s[k]∈bytesOf s):=List.mem_of_getElem? hsk
   obtain ⟨x,hx⟩:∃x,x=s[k]:=⟨_,rfl⟩
   rw [← hx] at HS hx256 HST HMem
   obtain ⟨z,hz⟩:∃z,x.toNat=z:=⟨_,rfl⟩
   have hz':s[k].toNat=z:=by rw [← hx,hz]
   have HZ:=hid hz
   have HR:=hid hr
   have HB:=hid hb
   have HAL:=hid hall
   have HK:=hid hlt
   rw [hz] at hx256
   have z0:(0:Int)≤(z:Int):=by omega
   have z1:(z:Int) < 256:=by omega
   clear hr hb hall hbl hsk hx hk hz
   by_cases h128:z < 128
   ·have g4:¬(128:Int)≤(z:Int):=by omega
    have HR2:Hid ((wr.setCell ⟨w.heap.size,k,none⟩ (.int .i64 (z:Int))).rowIs w.heap.size 3 s.size (fun j=>if j < k+1 then fn (((bytesOf s)[j]?.getD 0).toNat) else .int .i64 0)):=by
     refine (HR.out.set k (.int .i64 (z:Int))).congr (fun j hj=>?_)
     by_cases hjk:j=k
     ·subst hjk
      rw [if_pos rfl,if_pos (by omega),HS.out]
      show _=fn x.toNat
      rw [HZ.out]
     ·rw [if_neg hjk]
      by_cases hj2:j < k
      ·rw [if_pos hj2,if_pos (by omega)]
      ·rw [if_neg hj2,if_neg (by omega)]
    have HB2:Hid (Below w.heap.size w (wr.setCell ⟨w.heap.size,k,none⟩ (.int .i64 (z:Int)))):=HB.out.setCell (Nat.le_refl _) _
    have HA2:Hid (∀c∈(bytesOf s).take (k+1),c.toNat < 128):=by
     show ∀c∈(bytesOf s).take (k+1),c.toNat < 128
     intro c hc
     rw [HST.out] at hc
     rcases List.mem_append.1 hc with h | h
     ·exact HAL.out c h
     ·rw [List.mem_singleton.1 h,HZ.out];exact h128
    clear h128 hx256
    go_wp2_with fail
    go_roundw
    case rel=>exact ⟨k+1,HK.out,by go_num,HR2.out,HB2.out,HA2.out⟩
    case measure=>have:=HK.out;simp [intOf];omega
   ·have g4:(128:Int)≤(z:Int):=by omega
    have HN:Hid (¬ ∀c∈bytesOf s,c.toNat < 128):=by
     intro h
     have:=h x HMem.out
     have:=HZ.out
     omega
    clear h128 hx256
    go_wp2_with fail
    go_ret2
    exact ⟨.inr ⟨HN.out,rfl⟩,HB.out⟩
  ·have hbl:=bytesOf_len s
   have hkl:k=s.size:=by omega
   have HA2:Hid (∀c∈bytesOf s,c.toNat < 128):=by
    show ∀c∈bytesOf s,c.toNat < 128
    rw [hkl,← hbl,List.take_length] at hall;exact hall
   have HO:Hid (NOwn wr w.heap.size (.slice (some ⟨w.heap.size,0,none⟩) s.size s.size) ((bytesOf s).map UInt8.toNat)):=by
    have:=own_of_rowIs (base:=w.heap.size) (l:=(bytesOf s).map UInt8.toNat) hr (by simp;omega) (by unfold maxLen;omega) (Nat.le_refl _) (fun j c hj=>by
     rw [List.getElem?_map] at hj
     have hjl:j < s.size:=by
      rcases Nat.lt_or_ge j s.size with h' | h'
      ·exact h'
      ·rw [List.getElem?_eq_none (by omega)] at hj;cases hj
     rw [if_pos (by omega)]
     cases hq:(bytesOf s)[j]? with
     | none=>rw [hq] at hj;cases hj
     | some y=>rw [hq] at hj;injection hj with hj;simp [← hj])
    rw [List.length_map,hbl] at this
    exact this
   have HB:=hid hb
   have g4:¬(k:Int) < (s.size:Int):=by omega
   clear hr hb hall hbl hkl hk hlt
   go_wp2_with fail
   go_ret2
   exact ⟨.inl ⟨HA2.out,_,rfl,HO.out⟩,HB.out⟩
def vals (s:ByteArray):List (Option Nat):=(bytesOf s).map val
theorem vals_len (s:ByteArray):(vals s).length=s.size:=by simp [vals,bytesOf_len]
theorem vals_drop {s:ByteArray} {i:Nat} (h:i < s.size):(vals s).drop i=val s[i]::(vals s).drop (i+1):=by
 have h2:i < (vals s).length:=by rw [vals_len];exact h
 rw [List.drop_eq_getElem_cons h2]
 congr 1
 simp [vals,bytesOf]
 rfl
theorem val_lt {c:UInt8} {d:Nat} (h:val c=some d):d < 36:=by
 unfold val at h
 have:=byte_lt c
 split at h
 ·injection h with h;omega
 ·split at h
  ·injection h with h;omega
  ·split at h
   ·injection h with h;omega
   ·cases h
def ReadPost (R:Option (Nat×List (Option Nat))) (s:ByteArray) (e:Ending):Prop :=
 (R=none∧e=.returned (.tuple #[.int .i64 0,.string (strOf []),.bool false]))∨(∃m r j,R=some (m,r)∧j≤s.size∧(vals s).drop j=r∧e=.returned (.tuple #[.int .i64 ((m:Nat):Int),.string (s.extract j s.size),.bool true]))
theorem ReadPost.no {R:Option (Nat×List (Option Nat))} {s:ByteArray} {e:Ending} (h:R=none) (he:e=.returned (.tuple #[.int .i64 0,.string (strOf []),.bool false])):ReadPost R s e:=.inl ⟨h,he⟩
theorem ReadPost.yes {R:Option (Nat×List (Option Nat))} {s:ByteArray} {e:Ending} {m:Nat} {r:List (Option Nat)} {j:Nat} (h:R=some (m,r)) (hj:j≤s.size) (hr:(vals s).drop j=r) (he:e=.returned (.tuple #[.int .i64 ((m:Nat):Int),.string (s.extract j s.size),.bool true])):ReadPost R s e:=.inr ⟨m,r,j,h,hj,hr,he⟩
theorem read_calls (s:ByteArray) (n b:Nat) (w:World) (hs:s.size≤5000) (hn:n≤5000) (hb:b≤2340) :
 Calls Tryz.prog 211 #[.string s,.int .i64 (n:Int),.int .i64 (b:Int)] w fun e w'=>ReadPost (rd (vals s) n 1 36 b) s e∧Below w.heap.size w w':=by
 have HVL:=hid (vals_len s)
 have HS:=hid hs
 have HBB:=hid hb
 have s1:(s.size:Int)≤5000:=by omega
 have b0:(0:Int)≤(b:Int):=by omega
 have b1:(b:Int)≤2340:=by omega
 obtain ⟨R,hR⟩:∃R,R=rd (vals s) n 1 36 b:=⟨_,rfl⟩
 rw [← hR]
 have HR:=hid hR
 have HN:=hid hn
 clear hR hs hn hb
 go_enter Tryz.func211,Tryz.ntmps211
 go_wp2_with fail
 go_loop [1,9,16] (fun vn vw vi=>∃i m wt:Nat,vi=.int .i64 (i:Int)∧vn=.int .i64 (m:Int)∧vw=.int .i64 (wt:Int)∧i≤s.size∧m≤2147483647∧1≤wt∧wt≤80000000000∧R=rd ((vals s).drop i) m wt (36 * (i+1)) b) (fun _ _ vi=>s.size-(intOf vi).toNat)
 case atStart=>exact ⟨0,n,1,rfl,rfl,rfl,Nat.zero_le _,by have:=HN.out;omega,Nat.le_refl _,by decide,HR.out⟩
 case round =>
  obtain ⟨i,m,wt,rfl,rfl,rfl,hi,hm,hw1,hw2,hr⟩:=hrel
  clear HR HN
  have i0:(0:Int)≤(i:Int):=by omega
  have m0:(0:Int)≤(m:Int):=by omega
  have m1:(m:Int)≤2147483647:=by omega
  have w0:(1:Int)≤(wt:Int):=by omega
  have w1:(wt:Int)≤80000000000:=by omega
  by_cases hlt:i < s.size
  ·have i1:(i:Int) < (s.size:Int):=by omega
   rw [vals_drop hlt] at hr
   obtain ⟨x,hx⟩:∃x,s[i]=x:=⟨_,rfl⟩
   have HD:=hid (fun w'=>digit_calls x w')
   have hx256:=byte_lt x
   rw [hx] at hr
   obtain ⟨z,hz⟩:∃z,x.toNat=z:=⟨_,rfl⟩
   have hz':s[i].toNat=z:=by rw [hx,hz]
   rw [hz] at HD hx256
   have z0:(0:Int)≤(z:Int):=by omega
   have z1:(z:Int) < 256:=by omega
   have HK:=hid hlt
   clear hx hi hz hx256
   cases hv:val x with
   | none =>
     rw [hv] at hr HD
     have HX:Hid (R=none):=by show _=_;rw [hr];rfl
     clear hr hm hw1 hw2 hv
     simp only [valPair] at HD
     go_wp2_with fail
     refine (HD.out _).mono ?_
     rintro e w1 ⟨rfl,rfl⟩
     go_wp2_with fail
     go_ret3
     exact ⟨ReadPost.no HX.out rfl,Below.refl _ _⟩
   | some d =>
     have hd36:=val_lt hv
     rw [hv] at hr HD
     clear hv
     simp only [valPair] at HD
     simp only [rd] at hr
     have d0:(0:Int)≤(d:Int):=by omega
     have d1:(d:Int) < 36:=by omega
     by_cases hbig:most < wt
     ·have HX:Hid (R=none):=by show _=_;rw [hr,if_pos (.inl hbig)]
      have g:(2147483647:Int) < (wt:Int):=by unfold most at hbig;omega
      clear hr hm hw1 hw2 hbig
      go_wp2_with fail
      refine (HD.out _).mono ?_
      rintro e w1 ⟨rfl,rfl⟩
      go_wp2_with fail
      go_ret3
      exact ⟨ReadPost.no HX.out rfl,Below.refl _ _⟩
     ·obtain ⟨q,hq⟩:∃q,q=(most-m)/wt:=⟨_,rfl⟩
      have e1:((2147483647:Int)-(m:Int))/(wt:Int)=(q:Int):=by rw [hq,Int.natCast_ediv];congr 1;unfold most;omega
      have g:¬(2147483647:Int) < (wt:Int):=by unfold most at hbig;omega
      have g':(wt:Int)≤2147483647:=by omega
      by_cases hdq:q < d
      ·have HX:Hid (R=none):=by show _=_;rw [hr,if_pos (.inr (by rw [← hq];exact hdq))]
       have gq:(q:Int) < (d:Int):=by omega
       clear hr hm hw1 hw2 hbig hq hdq
       go_wp2_with fail
       refine (HD.out _).mono ?_
       rintro e w1 ⟨rfl,rfl⟩
       go_wp2_with fail
       go_ret3
       exact ⟨ReadPost.no HX.out rfl,Below.refl _ _⟩
      ·have gq:¬(q:Int) < (d:Int):=by omega
       have hdw:d * wt≤most-m:=(Nat.le_div_iff_mul_le (by omega)).1 (by omega)
       rw [if_neg (by rw [← hq];omega)] at hr
       obtain ⟨p,hp⟩:∃p,p=d * wt:=⟨_,rfl⟩
       have e2:(d:Int) * (wt:Int)=(p:Int):=by rw [hp,Int.natCast_mul]
       rw [← hp] at hr hdw
       have p0:(0:Int)≤(p:Int):=by omega
       have p1:(m:Int)+(p:Int)≤2147483647:=by unfold most at hdw;omega
       have t1:=thr_ge (36 * (i+1)) b
       have t2:=thr_le (36 * (i+1)) b
       have HT:Hid (∀w',Calls Tryz.prog 218 #[.int .i64 (((i:Int)+1) * 36),.int .i64 (b:Int)] w' fun e w2=>e=.returned (.int .i64 ((thr (36 * (i+1)) b:Nat):Int))∧w2=w'):=fun w'=>by
        have:=thr_calls (36 * (i+1)) b w' (by have:=HS.out;omega) (by have:=HBB.out;omega)
        rw [show ((36 * (i+1):Nat):Int)=((i:Int)+1) * 36 by omega] at this
        exact this
       generalize thr (36 * (i+1)) b=t at *
       have t3:(1:Int)≤(t:Int):=by omega
       have t4:(t:Int)≤26:=by omega
       by_cases hdt:d < t
       ·rw [if_pos hdt] at hr
        have HX:=hid hr
        have gt:(d:Int) < (t:Int):=by omega
        clear hr hm hw1 hw2 hbig hq hdq hdt hp hdw t1 t2 hd36
        go_wp2_with fail
        refine (HD.out _).mono ?_
        rintro e w1 ⟨rfl,rfl⟩
        go_wp2_with fail
        refine (HT.out _).mono ?_
        rintro e w2 ⟨rfl,rfl⟩
        go_wp2_with fail
        go_quiet (fail)
        have HB:=hid (below_drewN (Below.refl w2.heap.size w2) nq)
        generalize w2.drewN nq=wx at *
        go_wp2_with fail
        go_ret3
        exact ⟨ReadPost.yes (j:=i+1) HX.out HK.out rfl rfl,HB.out⟩
       ·rw [if_neg hdt] at hr
        obtain ⟨y,hy⟩:∃y,y=wt * (36-t):=⟨_,rfl⟩
        have e3:(wt:Int) * (36-(t:Int))=(y:Int):=by rw [hy,Int.natCast_mul];congr 1;omega
        rw [← hy] at hr
        have hy1:1≤y:=by rw [hy];exact Nat.mul_pos hw1 (by omega)
        have hy2:y≤2147483647 * 35:=by rw [hy];exact Nat.mul_le_mul (by unfold most at hbig;omega) (by omega)
        have y0:(0:Int)≤(y:Int):=by omega
        have y1:(y:Int)≤80000000000:=by omega
        have HX:Hid (m+p≤2147483647∧1≤y∧y≤80000000000∧R=rd ((vals s).drop (i+1)) (m+p) y (36 * (i+1+1)) b):=⟨by unfold most at hdw;omega,hy1,by omega,hr⟩
        have gt:¬(d:Int) < (t:Int):=by omega
        clear hr hm hw1 hw2 hbig hq hdq hdt hp hdw t1 t2 hd36 hy hy1 hy2
        go_wp2_with fail
        refine (HD.out _).mono ?_
        rintro e w1 ⟨rfl,rfl⟩
        go_wp2_with fail
        refine (HT.out _).mono ?_
        rintro e w2 ⟨rfl,rfl⟩
        go_wp2_with fail
        go_round
        case rel=>exact ⟨i+1,m+p,y,by go_num,by go_num,rfl,HK.out,HX.out.1,HX.out.2.1,HX.out.2.2.1,HX.out.2.2.2⟩
        case measure=>have:=HK.out;simp [intOf];omega
  ·have HX:Hid (R=none):=by
    show _=_
    rw [hr,List.drop_eq_nil_of_le (by rw [vals_len];omega)];rfl
   have g:¬(i:Int) < (s.size:Int):=by omega
   clear hr hm hw1 hw2 hlt hi
   go_wp2_with fail
   go_ret3
   exact ⟨ReadPost.no HX.out rfl,Below.refl _ _⟩
def strLen:Value→Nat
 | .string s=>s.size
 | _=>0
theorem strLen_string (s:ByteArray):strLen (.string s)=s.size:=rfl
def InsPost (R:Option (List Nat)) (base:Nat) (w:World) (e:Ending) (w':World):Prop :=
 ((R=none∧e=.returned (.tuple #[.slice none 0 0,.bool false]))∨(∃m v',R=some m∧e=.returned (.tuple #[v',.bool true])∧NOwn w' base v' m))∧Below base w w'
theorem InsPost.no {R:Option (List Nat)} {base:Nat} {w w':World} {e:Ending} (h:R=none) (he:e=.returned (.tuple #[.slice none 0 0,.bool false])) (hb:Below base w w'):InsPost R base w e w':=⟨.inl ⟨h,he⟩,hb⟩
theorem InsPost.yes {R:Option (List Nat)} {base:Nat} {w w':World} {e:Ending} {m:List Nat} {v':Value} (h:R=some m) (he:e=.returned (.tuple #[v',.bool true])) (ho:NOwn w' base v' m) (hb:Below base w w'):InsPost R base w e w':=⟨.inr ⟨m,v',h,he,ho⟩,hb⟩
theorem vals_nil {s:ByteArray} (h:s.size=0):vals s=[]:=List.eq_nil_of_length_eq_zero (by rw [vals_len,h])
theorem extract_vals (s:ByteArray) (j:Nat) (h:j≤s.size):vals (s.extract j s.size)=(vals s).drop j:=by
 unfold vals bytesOf
 rw [← List.map_drop]
 congr 1
 simp [ByteArray.data_extract]
 try (rw [List.take_of_length_le];simp)
theorem insert_signs_calls (v:Value) (l:List Nat) (s:ByteArray) (w:World) (base:Nat) (ho:NOwn w base v l) (hb:base≤w.heap.size) (hl:l.length≤256) (hs:s.size≤5000) :
 Calls Tryz.prog 198 #[v,.string s] w fun e w'=>InsPost (insF s.size l (vals s) 128 0 72 true) base w e w':=by
 obtain ⟨R,hR⟩:∃R,R=insF s.size l (vals s) 128 0 72 true:=⟨_,rfl⟩
 rw [← hR]
 have HR:=hid hR
 have HO:=hid ho
 have HBA:=hid hb
 have HL:=hid hl
 have HS:=hid hs
 clear hR ho hb hl hs
 go_enter Tryz.func198,Tryz.ntmps198
 go_wp2_with fail
 go_loopw [0,1,6,7,8,9] (fun vo vt vs va vb vf wr=>∃(ys:List Nat) (t:ByteArray) (sign at_ bias f:Nat) (fl:Bool),vt=.string t∧vs=.int .i64 (sign:Int)∧va=.int .i64 (at_:Int)∧vb=.int .i64 (bias:Int)∧vf=.bool fl∧NOwn wr base vo ys∧Below base w wr∧R=insF f ys (vals t) sign at_ bias fl∧t.size≤f∧t.size≤5000∧ys.length≤256∧at_≤256∧sign≤1114111∧bias≤2340) (fun _ vt _ _ _ _ _=>strLen vt)
 case atStart=>exact ⟨l,s,128,0,72,s.size,true,rfl,rfl,rfl,rfl,rfl,HO.out,Below.refl _ _,HR.out,Nat.le_refl _,HS.out,HL.out,by decide,by decide,by decide⟩
 case round =>
  obtain ⟨ys,t,sign,at_,bias,f,fl,rfl,rfl,rfl,rfl,rfl,ho,hb,hr,hf,ht,hyl,hat,hsg,hbi⟩:=hrel
  clear HR HO HL HS
  by_cases h0:t.size=0
  ·have HX:Hid (R=some ys):=by show _=_;rw [hr,vals_nil h0,insF_nil]
   have HOy:=hid ho
   have HBy:=hid hb
   have g0:t.toList.isEmpty=true:=by
    rw [ByteArray.toList_eq,List.isEmpty_iff]
    exact List.eq_nil_of_length_eq_zero (by rw [← h0];exact bytesOf_len t)
   clear ho hb hr hf ht hyl hat hsg hbi h0
   go_wp2_with fail
   go_ret2
   exact InsPost.yes HX.out rfl HOy.out HBy.out
  ·have g0:t.toList.isEmpty=false:=by
    rw [ByteArray.toList_eq]
    cases hq:t.data.toList with
    | nil=>exact absurd (by rw [← bytesOf_len t];unfold bytesOf;rw [hq];rfl) h0
    | cons x y=>rfl
   have hne:¬vals t=[]:=fun h=>h0 (by rw [← vals_len t,h];rfl)
   obtain ⟨g,rfl⟩:∃g,f=g+1:=⟨f-1,by omega⟩
   rw [insF_succ,if_neg hne] at hr
   have HOy:=hid ho
   have HBy:=hid hb
   have HSz:Hid (base≤wr.heap.size):=Nat.le_trans HBA.out hb.size
   rcases ho.row with ⟨a',cap',hE0,hE1,hE2,hE3⟩
   subst hE0
   unfold maxLen at hE2
   have y0:(ys.length:Int)≤(cap':Int):=by omega
   have y1:(cap':Int)≤9223372036854775807:=by omega
   have y2:(ys.length:Int)≤256:=by omega
   clear ho hb hE1 hE2 hE3
   by_cases hfull:ys.length=256
   ·have HX:Hid (R=none):=by show _=_;rw [hr,if_pos (by omega)]
    have g1:((ys.length:Int)==256)=true:=by rw [beq_iff_eq];omega
    have g2:(ys.length:Int)=256:=by omega
    clear hr hf ht hyl hat hsg hbi h0 hfull hne
    go_wp2_with fail
    go_ret2
    exact InsPost.no HX.out rfl HBy.out
   ·rw [if_neg (by omega)] at hr
    have g1:((ys.length:Int)==256)=false:=by rw [beq_eq_false_iff_ne];omega
    have HRd:=hid (fun w'=>read_calls t at_ bias w' ht (by omega) hbi)
    have HLen:=hid (rd_len (vals t) at_ 1 36 bias)
    have HLe:=hid (fun m r h=>rd_le (vals t) at_ 1 36 bias m r h (by decide) (by unfold most;omega))
    generalize rd (vals t) at_ 1 36 bias=Q at *
    have HT:=hid ht
    have HF:=hid hf
    have HH:=hid h0
    have HY:Hid (ys.length < 256):=by show _ < _;omega
    have HRr:=hid hr
    have sg0:(0:Int)≤(sign:Int):=by omega
    have sg1:(sign:Int)≤1114111:=by omega
    have at0:(0:Int)≤(at_:Int):=by omega
    have at1:(at_:Int)≤256:=by omega
    clear hr hf ht hyl hat hsg hbi h0 hfull hne
    go_wp2_with fail
    refine (HRd.out _).mono ?_
    rintro e w1 ⟨hp,hb1⟩
    have HB1:=hid (HBy.out.trans (hb1.mono HSz.out))
    have HO1:=hid (HOy.out.below hb1)
    have HS1:Hid (base≤w1.heap.size):=Nat.le_trans HSz.out hb1.size
    clear hb1
    rcases hp with ⟨hq,rfl⟩ | ⟨m,r,j,hq,hj,hjr,rfl⟩
    ·have HX:Hid (R=none):=by show _=_;rw [HRr.out,hq]
     clear hq HRr HLen HLe
     go_wp2_with fail
     go_ret2
     exact InsPost.no HX.out rfl HB1.out
    ·have hX:=HRr.out
     rw [hq] at hX
     simp only at hX
     obtain ⟨hm1,hm2⟩:=HLe.out m r hq
     have hrl:=HLen.out m r hq
     have hrv:vals (t.extract j t.size)=r:=by rw [extract_vals t j hj,hjr]
     have hts:(t.extract j t.size).size=t.size-j:=by
      rw [← vals_len,extract_vals t j hj,List.length_drop,vals_len]
     have hj1:1≤j:=by
      rw [← hjr,List.length_drop,vals_len] at hrl
      omega
     unfold most at hm2
     obtain ⟨q,hqd⟩:∃q,q=m/(ys.length+1):=⟨_,rfl⟩
     obtain ⟨p,hpd⟩:∃p,p=m%(ys.length+1):=⟨_,rfl⟩
     obtain ⟨S,hS⟩:∃S,S=sign+q:=⟨_,rfl⟩
     have hpl:p≤ys.length:=by rw [hpd];have:=Nat.mod_lt m (y:=ys.length+1) (by omega);omega
     have hql:q≤m:=by rw [hqd];exact Nat.div_le_self _ _
     rw [← hqd,← hpd,← hS] at hX
     have e1:(m:Int)/((ys.length:Int)+1)=(q:Int):=by rw [hqd,Int.natCast_ediv];rfl
     have e2:(m:Int)%((ys.length:Int)+1)=(p:Int):=by rw [hpd,Int.natCast_emod];rfl
     have e3:(sign:Int)+(q:Int)=(S:Int):=by omega
     have m0:(at_:Int)≤(m:Int):=by omega
     have m1:(m:Int)≤2147483647:=by omega
     have q0:(0:Int)≤(q:Int):=by omega
     have q1:(q:Int)≤2147483647:=by omega
     have p0:(0:Int)≤(p:Int):=by omega
     have p1:(p:Int)≤(ys.length:Int):=by omega
     have HAd:Hid (∀w',Calls Tryz.prog 209 #[.int .i64 ((m:Int)-(at_:Int)),.int .i64 ((ys.length:Int)+1),.bool fl] w' fun e w2=>e=.returned (.int .i64 ((adapt (m-at_) (ys.length+1) fl:Nat):Int))∧w2=w'):=fun w'=>by
      have:=adapt_calls (m-at_) (ys.length+1) fl w' (by omega) (by omega) (by have:=HY.out;omega)
      rw [Int.natCast_sub hm1,Int.natCast_add] at this
      exact this
     have HBi:=hid (adapt_le (m-at_) (ys.length+1) fl)
     generalize adapt (m-at_) (ys.length+1) fl=A at *
     have HSc:=hid (fun w'=>scalar_calls (S:Int) w')
     have HFi:Hid (1≤j∧t.size-j≤g∧t.size-j≤5000∧(t.extract j t.size).size=t.size-j∧0 < t.size):=⟨hj1,by have:=HF.out;omega,by have:=HT.out;omega,hts,by have:=HH.out;omega⟩
     have HPl:=hid hpl
     by_cases hsc:isS (S:Int)=true
     ·rw [if_pos hsc] at hX
      have hS1:S≤1114111:=by have:=isS_iff.1 hsc;omega
      rw [hsc] at HSc
      have HX:Hid (R=insF g (ins ys p S) (vals (t.extract j t.size)) S (p+1) A false):=by show _=_;rw [hX,hrv];rfl
      have HIL:=hid (ins_len ys p S hpl)
      have HS2:=hid hS1
      have HI:=hid (fun w' ho hb=>insert_calls (.slice a' ys.length cap') ys p S w' base ho hb (by have:=HY.out;omega) hpl)
      have s2:(S:Int)≤1114111:=by omega
      clear hX hsc hq hm1 hm2 hrl hrv hts hj1 hqd hpd hS hpl hql hS1 hj hjr HRr HLen HLe
      go_wp2_with fail
      refine (HAd.out _).mono ?_
      rintro e w2 ⟨rfl,rfl⟩
      go_wp2_with fail
      refine (HSc.out _).mono ?_
      rintro e w3 ⟨rfl,rfl⟩
      go_wp2_with fail
      refine (HI.out _ HO1.out HS1.out).mono ?_
      rintro e w4 ⟨⟨v',rfl,ho4⟩,hb4⟩
      have HO4:=hid ho4
      have HB4:=hid (HB1.out.trans hb4)
      clear ho4 hb4 HI
      go_wp2_with fail
      go_roundw
      case rel=>exact ⟨ins ys p S,t.extract j t.size,S,p+1,A,g,false,rfl,rfl,by go_num,rfl,rfl,HO4.out,HB4.out,HX.out,by rw [HFi.out.2.2.2.1];exact HFi.out.2.1,by rw [HFi.out.2.2.2.1];exact HFi.out.2.2.1,by rw [HIL.out];exact HY.out,by have:=HPl.out;have:=HY.out;omega,HS2.out,HBi.out⟩
      case measure=>have:=HFi.out;simp only [strLen_string];omega
     ·rw [if_neg hsc] at hX
      have HX:=hid hX
      have hsc':isS (S:Int)=false:=by simpa using hsc
      rw [hsc'] at HSc
      have s2:(S:Int)≤3000000000:=by omega
      clear hX hsc hsc' hq hm1 hm2 hrl hrv hts hj1 hqd hpd hS hpl hql hj hjr HRr HLen HLe
      go_wp2_with fail
      refine (HAd.out _).mono ?_
      rintro e w2 ⟨rfl,rfl⟩
      go_wp2_with fail
      refine (HSc.out _).mono ?_
      rintro e w3 ⟨rfl,rfl⟩
      go_wp2_with fail
      go_ret2
      exact InsPost.no HX.out rfl HB1.out
def cutOf (s:ByteArray):Nat:=(Lib.lastIndexByte s 45).toNat
def dec (s:ByteArray):Option (List Nat) :=
 if cutOf s=0 then insF s.size [] (vals s) 128 0 72 true
 else if 256 < cutOf s then none
 else if ((bytesOf s).take (cutOf s)).all (fun c=>decide (c.toNat < 128))=true then insF (s.size-(cutOf s+1)) (((bytesOf s).take (cutOf s)).map UInt8.toNat) ((vals s).drop (cutOf s+1)) 128 0 72 true
 else none
def decR (s:ByteArray):List Nat×Int:=if 4000 < s.size then ([],11) else match dec s with
 | none=>([],4)
 | some m=>(m,0)
def ints (m:List Nat):List Int:=m.map (fun n:Nat=>(n:Int))
theorem ints_row {w:World} {v:Value} {m:List Nat} (h:NRow w v m):IRow w v (ints m):=by
 obtain ⟨a,cap,rfl,h1,h2,h3⟩:=h
 have hl:(ints m).length=m.length:=by simp [ints]
 refine ⟨a,cap,by rw [hl],by omega,h2,fun hne=>?_⟩
 obtain ⟨b,off,rfl,hb,hc⟩:=h3 (by intro e;subst e;exact hne rfl)
 refine ⟨b,off,rfl,hb,fun i hi=>?_⟩
 rw [hc i (by omega)]
 simp [ints]
def DecPost (D:List Nat×Int) (w:World) (e:Ending) (w':World):Prop:=(∃v',e=.returned (.tuple #[v',.int .i64 D.2])∧IRow w' v' (ints D.1))∧Below w.heap.size w w'
theorem DecPost.bad {D:List Nat×Int} {w:World} {e:Ending} {w':World} {n:Int} (h:D=([],n)) (he:e=.returned (.tuple #[.slice none 0 0,.int .i64 n])) (hb:Below w.heap.size w w'):DecPost D w e w':=by
 subst h
 exact ⟨⟨_,he,Row.nil _ _⟩,hb⟩
theorem DecPost.good {D:List Nat×Int} {w:World} {e:Ending} {w':World} {m:List Nat} {v':Value} {base:Nat} (h:D=(m,0)) (he:e=.returned (.tuple #[v',.int .i64 0])) (ho:NOwn w' base v' m) (hb:Below w.heap.size w w'):DecPost D w e w':=by
 subst h
 exact ⟨⟨_,he,ints_row ho.row⟩,hb⟩
theorem decR_long {s:ByteArray} (h:4000 < s.size):decR s=([],11):=by unfold decR;rw [if_pos h]
theorem decR_none {s:ByteArray} (h:¬4000 < s.size) (hd:dec s=none):decR s=([],4):=by unfold decR;rw [if_neg h,hd]
theorem decR_some {s:ByteArray} {m:List Nat} (h:¬4000 < s.size) (hd:dec s=some m):decR s=(m,0):=by unfold decR;rw [if_neg h,hd]
theorem last_spec (s:ByteArray):Lib.lastIndexByte s 45=-1∨∃i:Nat,i < s.size∧Lib.lastIndexByte s 45=i:=by
 rcases Lib.lastIdx_spec s 45 s.size with ⟨h,_⟩ | ⟨i,h1,h2,_⟩
 ·exact .inl h
 ·exact .inr ⟨i,h1,h2⟩
theorem extract_bytes (s:ByteArray) (c:Nat) (h:c≤s.size):bytesOf (s.extract 0 c)=(bytesOf s).take c:=by
 unfold bytesOf
 simp [ByteArray.data_extract]
theorem extract_size (s:ByteArray) (c:Nat) (h:c≤s.size):(s.extract 0 c).size=c:=by rw [← bytesOf_len,extract_bytes s c h,List.length_take,bytesOf_len];omega
theorem extract_size2 (s:ByteArray) (c:Nat) (h:c≤s.size):(s.extract c s.size).size=s.size-c:=by rw [← vals_len,extract_vals s c h,List.length_drop,vals_len]
theorem decode_rest (s p t:ByteArray) (w w1:World) (hb:Below w.heap.size w w1) (hcut:Calls Tryz.prog 196 #[.string s] w fun e w'=>e=.returned (.tuple #[.string p,.string t])∧Below w.heap.size w w') (hs:¬4000 < s.size) (hp:p.size≤256) (ht:t.size≤5000)
 (D:Option (List Nat)) (hD:D=if (bytesOf p).all (fun c=>decide (c.toNat < 128))=true then insF t.size ((bytesOf p).map UInt8.toNat) (vals t) 128 0 72 true else none) (hR:dec s=D) :
 Calls Tryz.prog 180 #[.string s] w fun e w'=>DecPost (decR s) w e w':=by
 have g:¬(4000:Int) < (s.size:Int):=by omega
 have HS:=hid hs
 have HPS:=hid hp
 have HC:=hid hcut
 have HPl:=hid (fun w'=>plain_calls p w' hp)
 have HIn:=hid (fun v l w' base ho hb hl=>insert_signs_calls v l t w' base ho hb hl ht)
 have HD:=hid hD
 have HR:=hid hR
 clear hcut hp ht hD hR hs hb
 obtain ⟨Z,hZ⟩:∃Z,Z=decR s:=⟨_,rfl⟩
 rw [← hZ]
 have HZ:=hid hZ
 clear hZ
 go_enter Tryz.func180,Tryz.ntmps180
 go_wp2_with fail
 refine HC.out.mono ?_
 rintro e w2 ⟨rfl,hb2⟩
 have HB2:=hid hb2
 clear hb2
 go_wp2_with fail
 refine (HPl.out _).mono ?_
 rintro e w3 ⟨hp3,hb3⟩
 have HB3:=hid (below_trans HB2.out hb3)
 have HSz:Hid (w2.heap.size≤w3.heap.size):=hb3.size
 rcases hp3 with ⟨hall,v,rfl,ho⟩ | ⟨hall,rfl⟩
 ·have hD1:D=insF t.size ((bytesOf p).map UInt8.toNat) (vals t) 128 0 72 true:=by
   rw [HD.out,if_pos (List.all_eq_true.2 (fun c hc=>by simpa using hall c hc))]
  have HD1:=hid hD1
  have HO:=hid ho
  clear hall ho hb3 hD1
  go_wp2_with fail
  refine (HIn.out _ _ _ _ HO.out HSz.out (by rw [List.length_map,bytesOf_len];exact HPS.out)).mono ?_
  rintro e w4 ⟨hp4,hb4⟩
  have HB4:=hid (HB3.out.trans (hb4.mono HB2.out.size))
  clear hb4
  rcases hp4 with ⟨hn,rfl⟩ | ⟨m,v',hm,rfl,ho4⟩
  ·have HX:Hid (Z=([],4)):=by show _=_;rw [HZ.out,decR_none HS.out (by rw [HR.out,HD1.out,hn])]
   clear hn
   go_wp2_with fail
   go_ret2
   exact DecPost.bad HX.out rfl HB4.out
  ·have HX:Hid (Z=(m,0)):=by show _=_;rw [HZ.out,decR_some HS.out (by rw [HR.out,HD1.out,hm])]
   have HO4:=hid ho4
   clear hm ho4
   go_wp2_with fail
   go_ret2
   exact DecPost.good HX.out rfl HO4.out HB4.out
 ·have HX:Hid (Z=([],4)):=by
   show _=_
   rw [HZ.out,decR_none HS.out]
   rw [HR.out,HD.out,if_neg]
   intro h
   exact hall (fun c hc=>by simpa using List.all_eq_true.1 h c hc)
  clear hall hb3
  go_wp2_with fail
  go_ret2
  exact DecPost.bad HX.out rfl HB3.out
theorem pdecode_calls (s:ByteArray) (w:World) (hm:s.size≤maxLen):Calls Tryz.prog 180 #[.string s] w fun e w'=>DecPost (decR s) w e w':=by
 by_cases hlong:4000 < s.size
 ·rw [decR_long hlong]
  have g:(4000:Int) < (s.size:Int):=by omega
  have g2:(s.size:Int)≤9223372036854775807:=by unfold maxLen at hm;omega
  clear hlong hm
  go_enter Tryz.func180,Tryz.ntmps180
  go_wp2_with fail
  go_ret2
  exact DecPost.bad rfl rfl (Below.refl _ _)
 ·by_cases h0:Lib.lastIndexByte s 45≤0
  ·have hc:cutOf s=0:=by unfold cutOf;omega
   refine decode_rest s (strOf []) s w w (Below.refl _ _) (cut_none s w (by omega) h0) hlong (by decide) (by omega) _ rfl ?_
   unfold dec
   rw [if_pos hc,if_pos (by rfl)]
   rfl
  ·obtain ⟨c,hcl,hce⟩:∃i:Nat,i < s.size∧Lib.lastIndexByte s 45=i:=by
    rcases last_spec s with h | h
    ·omega
    ·exact h
   have hc:cutOf s=c:=by unfold cutOf;omega
   by_cases hbig:256 < c
   ·have HX:Hid (decR s=([],4)):=decR_none hlong (by unfold dec;rw [if_neg (by omega),if_pos (by omega)])
    have HC:=hid (cut_some s w (by omega) c hce (by omega) hcl)
    have HPl:=hid (fun w'=>plain_long (s.extract 0 c) w' (by rw [extract_size s c (by omega)];exact hbig) (by rw [extract_size s c (by omega)];omega))
    have g:¬(4000:Int) < (s.size:Int):=by omega
    obtain ⟨Z,hZ⟩:∃Z,Z=decR s:=⟨_,rfl⟩
    rw [← hZ] at HX ⊢
    clear hlong hm h0 hcl hce hc hbig hZ
    go_enter Tryz.func180,Tryz.ntmps180
    go_wp2_with fail
    refine HC.out.mono ?_
    rintro e w2 ⟨rfl,hb2⟩
    have HB2:=hid hb2
    clear hb2
    go_wp2_with fail
    refine (HPl.out _).mono ?_
    rintro e w3 ⟨rfl,hb3⟩
    have HB3:=hid (below_trans HB2.out hb3)
    clear hb3
    go_wp2_with fail
    go_ret2
    exact DecPost.bad HX.out rfl HB3.out
   ·refine decode_rest s (s.extract 0 c) (s.extract (c+1) s.size) w w (Below.refl _ _) (cut_some s w (by omega) c hce (by omega) hcl) hlong (by rw [extract_size s c (by omega)];omega) (by rw [extract_size2 s (c+1) (by omega)];omega) _ rfl ?_
    unfold dec
    rw [if_neg (by omega),if_neg (by omega),extract_bytes s c (by omega),extract_size2 s (c+1) (by omega),extract_vals s (c+1) (by omega),hc]
theorem strOf_size (l:List UInt8):(strOf l).size=l.length:=by rw [← bytesOf_len];rfl
theorem strOf_at (l:List UInt8) (i:Nat) (h:i < l.length):(strOf l).data[i]! = l[i]:=by
 show l.toArray[i]! = l[i]
 rw [getElem!_pos l.toArray i (by simpa using h)];simp
theorem low_nat (m:List Nat):(low m).map UInt8.toNat=m.filter (· < 128):=by
 unfold low
 rw [List.map_map]
 refine (List.map_congr_left fun c hc=>?_).trans (List.map_id _)
 have:=(List.mem_filter.1 hc).2
 simp at this
 exact b8_nat c (by omega)
theorem low_lt (m:List Nat):∀c∈low m,c.toNat < 128:=by
 intro c hc
 have:c.toNat∈(low m).map UInt8.toNat:=List.mem_map_of_mem hc
 rw [low_nat] at this
 simpa using (List.mem_filter.1 this).2
theorem last_none (l:List UInt8) (h:∀c∈l,c.toNat≠45):Lib.lastIndexByte (strOf l) 45=-1:=by
 rcases Lib.lastIdx_spec (strOf l) 45 (strOf l).size with ⟨h1,_⟩ | ⟨i,h1,h2,h3,_⟩
 ·exact h1
 ·rw [strOf_size] at h1
  rw [strOf_at l i h1] at h3
  exact absurd (by omega) (h _ (List.getElem_mem h1))
theorem last_some (a b:List UInt8) (h:∀c∈b,c.toNat≠45):Lib.lastIndexByte (strOf (a++45::b)) 45=(a.length:Int):=by
 have hlen:(a++45::b).length=a.length+1+b.length:=by simp;omega
 have hat:(strOf (a++45::b)).data[a.length]! = 45:=by rw [strOf_at _ _ (by omega)];simp
 rcases Lib.lastIdx_spec (strOf (a++45::b)) 45 (strOf (a++45::b)).size with ⟨h1,h2⟩ | ⟨i,h1,h2,h3,h4⟩
 ·rw [strOf_size] at h2
  have:=h2 a.length (by omega)
  rw [hat] at this
  exact absurd rfl this
 ·rw [strOf_size] at h1 h4
  have hi:i=a.length:=by
   rcases Nat.lt_trichotomy i a.length with g | g | g
   ·have:=h4 a.length g (by omega)
    rw [hat] at this
    exact absurd rfl this
   ·exact g
   ·rw [strOf_at _ i h1] at h3
    exfalso
    have hm:(a++45::b)[i]∈b:=by
     obtain ⟨j,rfl⟩:∃j,i=a.length+1+j:=⟨i-(a.length+1),by omega⟩
     rw [List.getElem_append_right (by omega)]
     simp only [show a.length+1+j-a.length=j+1 by omega,List.getElem_cons_succ]
     exact List.getElem_mem _
    exact h _ hm (by omega)
  rw [← hi];exact h2
theorem dec_of (m:List Nat) (hl:m.length≤256) (hS:∀c∈m,isS (c:Int)=true) (D:List UInt8) (hD:D.map val=(encD m (m.countP (· < 128)) m.length 0 72 128 (m.countP (· < 128))).map some) (h45:∀c∈D,c.toNat≠45) :
 dec (strOf (low m++(if m.countP (· < 128)=0 then [] else [45])++D))=some m:=by
 have hP:m.countP (· < 128)=(m.filter (· < 128)).length:=List.countP_eq_length_filter
 have hback:=enc_back m (m.countP (· < 128)) hl hS m.length 128 0 72 128 0 D.length (by omega) (Nat.le_refl _) (Nat.zero_le _) (by omega) (by omega)
  (by rw [← hP,← hD];simp)
 rw [← hP,decide_eq_true rfl,← hD] at hback
 have hPl:m.countP (· < 128)≤m.length:=List.countP_le_length
 by_cases hz:m.countP (· < 128)=0
 ·have hlow:low m=[]:=List.eq_nil_of_length_eq_zero (by rw [low_len,hz])
  have hf:m.filter (· < 128)=[]:=List.eq_nil_of_length_eq_zero (by omega)
  rw [if_pos hz,hlow]
  simp only [List.nil_append]
  unfold dec
  rw [if_pos (by unfold cutOf;rw [last_none D h45];rfl),strOf_size]
  rw [hf] at hback
  exact hback
 ·rw [if_neg hz]
  have hsp:low m++[45]++D=low m++45::D:=by simp
  rw [hsp]
  have hcut:cutOf (strOf (low m++45::D))=m.countP (· < 128):=by unfold cutOf;rw [last_some _ _ h45,low_len];rfl
  have htk:(bytesOf (strOf (low m++45::D))).take (m.countP (· < 128))=low m:=by
   show (low m++45::D).take _=_
   rw [← low_len];exact List.take_left
  have hdr:(vals (strOf (low m++45::D))).drop (m.countP (· < 128)+1)=D.map val:=by
   show ((low m++45::D).map val).drop _=_
   rw [← List.map_drop,← low_len]
   congr 1
   rw [← List.drop_drop,List.drop_left];rfl
  have hsz:(strOf (low m++45::D)).size-(m.countP (· < 128)+1)=D.length:=by
   rw [strOf_size];simp [low_len];omega
  unfold dec
  rw [hcut,if_neg hz,if_neg (by omega),htk,if_pos (List.all_eq_true.2 fun c hc=>by simpa using low_lt m c hc),hdr,hsz,low_nat]
  exact hback
theorem letter_ne (d:Nat) (h:d < 36):(letter d).toNat≠45∧((97≤(letter d).toNat∧(letter d).toNat≤122)∨(48≤(letter d).toNat∧(letter d).toNat≤57)):=by
 rw [letter_nat d h]
 split<;>omega
theorem dec_enc_puny (m:List Nat) (hl:m.length≤256) (hS:∀c∈m,isS (c:Int)=true):dec (strOf (enc m))=some m:=by
 unfold enc
 refine dec_of m hl hS _ ?_ ?_
 ·rw [List.map_map]
  refine List.map_congr_left fun d hd=>?_
  exact val_letter d (encD_digits _ _ _ _ _ _ _ d hd)
 ·intro c hc
  obtain ⟨d,hd,rfl⟩:=List.mem_map.1 hc
  exact (letter_ne d (encD_digits _ _ _ _ _ _ _ d hd)).1
theorem encD_lens (l:List Nat) (plain:Nat):∀(f delta bias n done:Nat),(encD l plain f delta bias n done).length≤f * (65 * l.length)
 | 0,delta,bias,n,done=>by simp [encD]
 | f+1,delta,bias,n,done=>by
   unfold encD
   split
   ·simp only [List.length_append]
    have h1:=scanD_lens (least l n) plain l (delta+(least l n-n) * (done+1)) bias done
    have h2:l.countP (·==least l n)≤l.length:=List.countP_le_length
    have h3:=encD_lens l plain f ((scanD (least l n) plain l (delta+(least l n-n) * (done+1)) bias done).2.1+1) (scanD (least l n) plain l (delta+(least l n-n) * (done+1)) bias done).2.2.1 (least l n+1) (scanD (least l n) plain l (delta+(least l n-n) * (done+1)) bias done).2.2.2
    rw [Nat.add_mul,Nat.one_mul]
    omega
   ·simp
theorem penc_len (m:List Nat) (h:m.length≤256):(enc m).length≤10000000:=by
 unfold enc
 have h1:=encD_lens m (m.countP (· < 128)) m.length 0 72 128 (m.countP (· < 128))
 have h2:m.length * (65 * m.length)≤256 * (65 * 256):=Nat.mul_le_mul h (Nat.mul_le_mul_left _ h)
 have h3:=low_le m
 simp only [List.length_append,List.length_map]
 split<;>simp<;>omega
theorem encR_size (l:List Int):(encR l).1.size≤10000000:=by
 unfold encR
 split
 ·rw [strOf_size];simp
 ·split
  ·rw [strOf_size];exact penc_len _ (by simp [nats];omega)
  ·rw [strOf_size];simp
end Go.Proofs.YtigfgloenjoeoaaGreatDoor
