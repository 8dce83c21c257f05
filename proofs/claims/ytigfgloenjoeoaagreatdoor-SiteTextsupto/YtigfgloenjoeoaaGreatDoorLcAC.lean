import Derived.Test.YtigfgloenjoeoaaGreatDoorRows
import Derived.WalkKit
import Derived.WalkSpells
import Derived.WalkLawsBesides
import Derived.Below
import Derived.OwnWalk
import Derived.OpenShut
import Derived.Laws.MakeOwn
import Derived.Laws.BytesArg
import Derived.Laws.OwnMore
import Derived.Laws.BitsAllLaws
import Derived.BigQuiet
import Derived.Test.YtigfgloenjoeoaaGreatDoorLcAA
set_option linter.unusedVariables false
set_option linter.unusedSimpArgs false
set_option maxRecDepth 20000
set_option maxHeartbeats 16000000
namespace Go.Proofs.YtigfgloenjoeoaaGreatDoor
open Go.RowKit
theorem hid {p:Prop} (h:p):Hid p:=h
theorem ret_int {k:IntKind} {a b:Int} (h:a=b):Ending.returned (.int k a)=.returned (.int k b):=by rw [h]
theorem byte_lt (c:UInt8):c.toNat < 256:=c.toNat_lt
theorem below_trans {a b c:World} (h:Below a.heap.size a b) (k:Below b.heap.size b c):Below a.heap.size a c:=h.trans (k.mono h.size)
theorem addr_add (b off i:Nat):(⟨b,off,none⟩:Addr).add i=⟨b,off+i,none⟩:=by
 unfold Addr.add;split
 ·rename_i h;subst h;rfl
 ·rfl
def Row {α:Type} (f:α→Value) (w:World) (v:Value) (l:List α):Prop :=
 ∃a cap,v=.slice a l.length cap∧l.length≤cap∧cap≤maxLen∧(l≠[]→∃b off,a=some ⟨b,off,none⟩∧b < w.heap.size∧∀i (h:i < l.length),w.cell? ⟨b,off+i,none⟩=some (f l[i]))
abbrev fb (c:UInt8):Value:=.int .u8 (c.toNat:Int)
abbrev fi (x:Int):Value:=.int .i64 x
abbrev BRow (w:World) (v:Value) (l:List UInt8):Prop:=Row fb w v l
abbrev IRow (w:World) (v:Value) (l:List Int):Prop:=Row fi w v l
section
variable {α:Type} {f:α→Value} {w w':World} {v:Value} {l:List α}
theorem Row.below (h:Row f w v l) (hb:Below w.heap.size w w'):Row f w' v l:=by
 obtain ⟨a,cap,rfl,h1,h2,h3⟩:=h
 refine ⟨a,cap,rfl,h1,h2,fun hl=>?_⟩
 obtain ⟨b,off,rfl,hlt,hc⟩:=h3 hl
 exact ⟨b,off,rfl,by have:=hb.size;omega,fun i hi=>(hb.cell (p:=⟨b,off+i,none⟩) hlt).trans (hc i hi)⟩
theorem Row.drew (h:Row f w v l):Row f w.drew v l:=h
theorem Row.nil (f:α→Value) (w:World):Row f w (.slice none 0 0) []:=⟨none,0,rfl,Nat.le_refl _,Nat.zero_le _,fun h=>absurd rfl h⟩
theorem Row.lit (f:α→Value) (w:World) (l:List α) (t:TypeId) (fr:Nat×Nat) (h:l.length≤1000):Row f (w.alloc (.cells (l.map f).toArray t fr)) (.slice (some ⟨w.heap.size,0,none⟩) l.length l.length) l:=by
 refine ⟨_,_,rfl,Nat.le_refl _,by unfold maxLen;omega,fun _=>⟨_,_,rfl,by simp,fun i hi=>?_⟩⟩
 rw [World.cell?_alloc_mark]
 simp [hi]
theorem Row.from {a:Option Addr} {n cap:Nat} (h:Row f w (.slice a n cap) l) (k:Nat) (hk:k < l.length):∃b off,a=some ⟨b,off,none⟩∧n=l.length∧n≤cap∧cap≤maxLen∧Row f w (.slice (some ⟨b,off+k,none⟩) (l.length-k) (cap-k)) (l.drop k):=by
 obtain ⟨a',cap',he,h1,h2,h3⟩:=h
 injection he with e1 e2 e3
 subst e1 e2 e3
 obtain ⟨b,off,rfl,hlt,hc⟩:=h3 (by intro h;simp [h] at hk)
 refine ⟨b,off,rfl,rfl,h1,h2,some ⟨b,off+k,none⟩,cap-k,by rw [List.length_drop],by rw [List.length_drop];omega,by omega,fun _=>⟨b,off+k,rfl,hlt,fun i hi=>?_⟩⟩
 rw [List.length_drop] at hi
 have:=hc (k+i) (by omega)
 rw [Nat.add_assoc,this,List.getElem_drop]
theorem Row.cells {a:Addr} {n cap:Nat} (h:Row f w (.slice (some a) n cap) l):n=l.length∧∀j u,(l.map f)[j]? = some u→w.cell? (a.add j)=some u:=by
 obtain ⟨a',cap',he,h1,h2,h3⟩:=h
 injection he with e1 e2 e3
 subst e1 e2 e3
 refine ⟨rfl,fun j u hu=>?_⟩
 have hj:j < l.length:=by
  rcases Nat.lt_or_ge j l.length with h | h
  ·exact h
  ·rw [List.getElem?_eq_none (by simpa using h)] at hu;cases hu
 obtain ⟨b,off,he,hlt,hc⟩:=h3 (by intro h;simp [h] at hj)
 injection he with he
 subst he
 rw [addr_add,hc j hj]
 simpa [hj] using hu
def Own (f:α→Value) (t:TypeId) (w:World) (base:Nat) (v:Value) (l:List α):Prop:=w.ownsRow base t 1 v l.length (l.map f)
variable {t:TypeId} {base:Nat}
theorem Own.row (h:Own f t w base v l):Row f w v l:=by
 rcases h.2 with ⟨rfl,hn⟩ | ⟨g,cap,cur,rfl,hb,hg,hnc,hcm,hcs,htake⟩
 ·have:l=[]:=List.eq_nil_of_length_eq_zero hn
  subst this
  exact Row.nil f w
 ·refine ⟨_,cap,rfl,hnc,hcm,fun _=>⟨g,0,rfl,?_,fun i hi=>?_⟩⟩
  ·rcases Nat.lt_or_ge g w.heap.size with h' | h'
   ·exact h'
   ·rw [Array.getElem?_eq_none h'] at hg;cases hg
  ·have hc:=World.ownsRow.cells h (g:=g) rfl i (f l[i]) (by simp [hi])
   rw [addr_add] at hc
   exact hc
theorem Own.nil (f:α→Value) (t:TypeId) (w:World) (base:Nat):Own f t w base (.slice none 0 0) []:=World.ownsRow_nil w base _ _
theorem Own.drew (h:Own f t w base v l):Own f t w.drew base v l:=h
theorem Own.alloc (h:Own f t w base v l) (o:Obj):Own f t (w.alloc o) base v l:=World.ownsRow.alloc h o
theorem Own.below (h:Own f t w base v l) (hb:Below w.heap.size w w'):Own f t w' base v l:=by
 refine ⟨h.1,?_⟩
 rcases h.2 with h' | ⟨g,cap,cur,rfl,hbg,hg,hr⟩
 ·exact .inl h'
 ·have hlt:g < w.heap.size:=by
   rcases Nat.lt_or_ge g w.heap.size with h' | h'
   ·exact h'
   ·rw [Array.getElem?_eq_none h'] at hg;cases hg
  exact .inr ⟨g,cap,cur,rfl,hbg,by rw [hb.block g hlt];exact hg,hr⟩
theorem Own.mono (h:Own f t w base v l) {base':Nat} (hb:base'≤base):Own f t w base' v l:=by
 refine ⟨h.1,?_⟩
 rcases h.2 with h' | ⟨g,cap,cur,e,hbg,hr⟩
 ·exact .inl h'
 ·exact .inr ⟨g,cap,cur,e,Nat.le_trans hb hbg,hr⟩
theorem Own.made (f:α→Value) (t:TypeId) (w:World) (arr:Array Value) (n:Nat) (ha:arr.size=n) (hn:n≤1000000):Own f t (w.alloc (.cells arr t)) w.heap.size (.slice (some ⟨w.heap.size,0,none⟩) 0 n) []:=World.ownsRow_made w _ n (Nat.le_refl _) (by unfold maxLen;omega) (by omega)
theorem Own.lt (h:Own f t w base v l):∀k,v.ownBlock=some k→base≤k:=fun k hk=>(World.ownsRow.lt h k hk).1
end
theorem info_u8:(Tryz.prog.info? 5).map (fun i=>(i.zero,i.size,i.bytes))=some (some (.int .u8 0),1,1):=by kernel_rfl
theorem info_i64:(Tryz.prog.info? 3).map (fun i=>(i.zero,i.size,i.bytes))=some (some (.int .i64 0),1,8):=by kernel_rfl
abbrev BOwn (w:World) (base:Nat) (v:Value) (l:List UInt8):Prop:=Own fb 5 w base v l
abbrev IOwn (w:World) (base:Nat) (v:Value) (l:List Int):Prop:=Own fi 3 w base v l
theorem append_gen {α:Type} {f:α→Value} {t ts:TypeId} {z:Value} {bytes:Nat} (hf:∀x,(f x).oneCell'=true) (hu:Tryz.prog.underlying ts=some (.slice t)) (hin:(Tryz.prog.info? t).map (fun i=>(i.zero,i.size,i.bytes))=some (some z,1,bytes)) (hz:z.cells.size=1) (hby:bytes≤16)
 {w:World} {base:Nat} {v:Value} {xs:List α} (hown:Own f t w base v xs) {x:Value} {l:List α} (hx:Row f w x l) (hlen:xs.length+l.length≤1000000) (hbase:base≤w.heap.size) :
 ∃v' w',(Builtin.append_ #[ts,ts] ts #[v,x]).run Tryz.prog w=.ok v' w'∧Own f t w' base v' (xs++l)∧w.grownBy w' v.ownBlock:=by
 obtain ⟨i0,hi,hz0,hz1,hz2⟩:=info_parts hin
 have hx0:=hx
 obtain ⟨a,cap,rfl,h1,h2,h3⟩:=hx
 cases a with
 | none =>
   have hl:l=[]:=by
    rcases List.eq_nil_or_concat l with h | ⟨l',c,h⟩
    ·exact h
    ·obtain ⟨b,off,he,_⟩:=h3 (by rw [h];simp)
     cases he
   subst hl
   refine ⟨v,w,?_,by rw [List.append_nil];exact hown,⟨rfl,rfl,rfl,Nat.le_refl _,fun _ _ _=>rfl⟩⟩
   rcases hown.2 with ⟨rfl,hl⟩ | ⟨g,cap',cur,rfl,_,_,hnc,_⟩
   ·simp [Builtin.append_,run_underlying hu,sizeOf,typeInfo,hi,Builtin.lenOf,Builtin.firstCells]
   ·simp [Builtin.append_,run_underlying hu,sizeOf,typeInfo,hi,Builtin.lenOf,Builtin.firstCells,hnc,storeCells]
 | some a =>
   obtain ⟨_,hc⟩:=Row.cells hx0
   obtain ⟨v',w',hr,ho,hg,_⟩:=run_append_own (P:=Tryz.prog) w base ts ts t i0 z 1 bytes hu hi hz0 hz1 hz2 hz (by decide) v xs.length (xs.map f) hown a l.length cap (l.map f) (by simp) hc
    (by intro u hu;obtain ⟨y,_,rfl⟩:=List.mem_map.1 hu;exact hf y) (by unfold maxLen;omega) (Nat.le_trans (Nat.mul_le_mul hlen hby) (by decide)) hbase
   refine ⟨v',w',hr,?_,hg⟩
   unfold Own
   rw [List.length_append,List.map_append]
   exact ho
theorem append_run {w:World} {base:Nat} {v:Value} {xs:List UInt8} (hown:BOwn w base v xs) {x:Value} {l:List UInt8} (hx:BRow w x l) (hlen:xs.length+l.length≤1000000) (hbase:base≤w.heap.size) :
 ∃v' w',(Builtin.append_ #[73,73] 73 #[v,x]).run Tryz.prog w=.ok v' w'∧BOwn w' base v' (xs++l)∧w.grownBy w' v.ownBlock :=
 append_gen (fun _=>rfl) Tryz.underlying73 info_u8 rfl (by decide) hown hx hlen hbase
theorem appendI_run {w:World} {base:Nat} {v:Value} {xs:List Int} (hown:IOwn w base v xs) {x:Value} {l:List Int} (hx:IRow w x l) (hlen:xs.length+l.length≤1000000) (hbase:base≤w.heap.size) :
 ∃v' w',(Builtin.append_ #[63,63] 63 #[v,x]).run Tryz.prog w=.ok v' w'∧IOwn w' base v' (xs++l)∧w.grownBy w' v.ownBlock :=
 append_gen (fun _=>rfl) Tryz.underlying63 info_i64 rfl (by decide) hown hx hlen hbase
theorem wpList_append_run {ts:TypeId} {w w':World} {v x v':Value} (hr:(Builtin.append_ #[ts,ts] ts #[v,x]).run Tryz.prog w=.ok v' w') {ops:Array Oper} {rest:List Oper} {o:Oper} {a:Act} {Q:Exit→Act→World→Prop} (hgd:o.guard=none) (s y:Operand)
 (ho:o.op=.call { callee:=.builtin .append,args:=#[s,y],argTypes:=#[ts,ts] }) (hty:o.type=ts) (hs:a.eval s=v) (hx:a.eval y=x)
 (h:wpList Tryz.prog ops Q rest (a.put o.dst v') w'):wpList Tryz.prog ops Q (o::rest) a w:=by
 refine wpList_plain hgd fun K hK=>?_
 unfold Oper.wp execOp
 simp only [ho,resolve,invoke,builtin,Sem.run_bind,Sem.run_pure,Result.andThen_ok,List.map_toArray,List.map_cons,List.map_nil,hs,hx,hty,hr]
 exact hK _ _ h
theorem make_cap {t ts:TypeId} {z:Value} {bytes:Nat} (hu:Tryz.prog.underlying ts=some (.slice t)) (hin:(Tryz.prog.info? t).map (fun i=>(i.zero,i.size,i.bytes))=some (some z,1,bytes)) (hby:bytes≤16) (n:Nat) (hn:n≤1000000) (w:World) :
 (Instr.makeSlice ts (.int .i64 0) (.int .i64 (n:Int))).run Tryz.prog w=.ok (.slice (some ⟨w.heap.size,0,none⟩) 0 n) (w.alloc (.cells (madeCells z.cells n) t)):=by
 obtain ⟨i0,hi,hz0,hz1,hz2⟩:=info_parts hin
 have hbn:(i0.bytes:Int) * (n:Int)≤1000000 * 16:=by
  rw [hz2]
  have:=Nat.mul_le_mul hby hn
  have e:((bytes * n:Nat):Int)=(bytes:Int) * (n:Int):=by simp
  omega
 have h:=run_make (P:=Tryz.prog) w ts t i0 z hu hi hz0 .i64 .i64 0 (n:Int) (by omega) (by omega) (by omega) (by omega)
 rw [hz1] at h
 simpa using h
theorem makeB (n:Nat) (hn:n≤1000000) (w:World):(Instr.makeSlice 73 (.int .i64 0) (.int .i64 (n:Int))).run Tryz.prog w=.ok (.slice (some ⟨w.heap.size,0,none⟩) 0 n) (w.alloc (.cells (madeCells #[.int .u8 0] n) 5)):=make_cap Tryz.underlying73 info_u8 (by decide) n hn w
theorem makeI (n:Nat) (hn:n≤1000000) (w:World):(Instr.makeSlice 63 (.int .i64 0) (.int .i64 (n:Int))).run Tryz.prog w=.ok (.slice (some ⟨w.heap.size,0,none⟩) 0 n) (w.alloc (.cells (madeCells #[.int .i64 0] n) 3)):=make_cap Tryz.underlying63 info_i64 (by decide) n hn w
def strOf (l:List UInt8):ByteArray:=⟨l.toArray⟩
theorem strOf_list (l:List UInt8):(strOf l).toList=l:=by rw [ByteArray.toList_eq];rfl
theorem run_loadCells_zero (w:World) (a:Addr):(loadCells a 0).run Tryz.prog w=.ok #[] w:=by
 simp [loadCells,loadCellsFrom]
theorem run_string {w:World} {v:Value} {l:List UInt8} (h:BRow w v l):(convert 73 9 v).run Tryz.prog w=.ok (.string (strOf l)) w:=by
 obtain ⟨a,cap,rfl,h1,h2,h3⟩:=h
 by_cases hl:l=[]
 ·subst hl
  cases a with
  | none=>rw [run_convert_bytes_nil w 73 5 Tryz.underlying73 Tryz.underlying5 _ _ 9 Tryz.underlying9];rfl
  | some a =>
    rw [run_convert_bytes_string w 73 9 5 _ _ _ Tryz.underlying73 Tryz.underlying5 Tryz.underlying9]
    exact run_bytesToString w a 0 cap [] (run_loadCells_zero w a)
 ·obtain ⟨b,off,rfl,hlt,hc⟩:=h3 hl
  have hx:=run_convert_bytes_arg (P:=Tryz.prog) w 73 5 Tryz.underlying73 Tryz.underlying5 b off l.length cap (l.map fun c=>(c.toNat:Int)) (by simp)
   (fun i hi=>by rw [hc i hi];simp [List.getD_eq_getElem?_getD,hi]) 9 Tryz.underlying9
  have e:strOfNums (l.map fun c=>(c.toNat:Int))=strOf l:=by simp [strOf,strOfNums,Function.comp_def]
  rw [hx,e]
end Go.Proofs.YtigfgloenjoeoaaGreatDoor
namespace Go.Proofs.YtigfgloenjoeoaaGreatDoor
open Go.RowKit
theorem ret_bool {a b:Bool} (h:a=b):Ending.returned (.bool a)=.returned (.bool b):=by rw [h]
theorem isS_no {c:Int} (h:¬(0≤c∧c≤1114111∧(c < 55296∨57343 < c))):isS c=false:=by simp only [isS,decide_eq_false_iff_not];exact h
theorem scalar_calls (c:Int) (w:World):Calls Tryz.prog 171 #[.int .i64 c] w fun e w'=>e=.returned (.bool (isS c))∧w'=w:=by
 have hc:c < 0∨(0≤c∧c < 55296)∨(55296≤c∧c≤57343)∨(57343 < c∧c≤1114111)∨1114111 < c:=by omega
 rcases hc with g | ⟨g1,g2⟩ | ⟨g1,g2⟩ | ⟨g1,g2⟩ | g
 all_goals
  go_enter Tryz.func171,Tryz.ntmps171
  go_wp2
  go_ret
  refine ⟨ret_bool ?_,rfl⟩
  by_cases hs:0≤c∧c≤1114111∧(c < 55296∨57343 < c)
  ·have q:=isS_iff.2 hs
   first | exact q.symm | (exfalso;omega) | (rw [q];simp;done) | (rw [q];simp;omega)
  ·have q:=isS_no hs
   first | exact q.symm | (exfalso;omega) | (rw [q];simp;done) | (rw [q];simp;omega)
theorem i64_or (a b:Nat) (ha:a < 2^63) (hb:b < 2^63):bits .or .i64 (a:Int) (b:Int)=((a ||| b:Nat):Int) :=
 (bits_nat .i64 63 (by decide) (fun n h0 h1=>by rw [IntKind.wrap_i64];omega) a b ha hb).2
theorem i64_and (a b:Nat) (ha:a < 2^63) (hb:b < 2^63):bits .and .i64 (a:Int) (b:Int)=((a &&& b:Nat):Int) :=
 (bits_nat .i64 63 (by decide) (fun n h0 h1=>by rw [IntKind.wrap_i64];omega) a b ha hb).1
theorem low6 (c:Nat) (h:c < 2^63):bits .and .i64 (c:Int) 63=((c%64:Nat):Int):=by
 rw [show (63:Int)=((63:Nat):Int) from rfl,i64_and c 63 h (by decide),Nat.and_two_pow_sub_one_eq_mod c 6]
theorem or_mark (m p k:Nat) (q:Nat) (hm:m=2^k * q) (hp:p < 2^k):m ||| p=m+p:=by subst hm;exact (Nat.two_pow_add_eq_or_of_lt hp q).symm
theorem u8mark (m p k q:Nat) (hm:m=2^k * q) (hp:p < 2^k) (h:m+p < 256):bits .or .u8 (m:Int) (p:Int)=((b8 (m+p)).toNat:Int):=by
 rw [u8_or_nat m p (by omega) (by omega),or_mark m p k q hm hp,b8_nat _ h]
theorem later_calls (c:Nat) (w:World) (h:c < 2^63):Calls Tryz.prog 190 #[.int .i64 (c:Int)] w fun e w'=>e=.returned (.int .u8 ((b8 (128+c%64)).toNat:Int))∧w'=w:=by
 have e1:=low6 c h
 have hl:c%64 < 64:=Nat.mod_lt _ (by decide)
 have e2:=u8mark 128 (c%64) 6 2 rfl hl (by omega)
 generalize c%64=m at *
 generalize b8 (128+m)=x at *
 rw [show ((128:Nat):Int)=128 from rfl] at e2
 go_enter Tryz.func190,Tryz.ntmps190
 go_wp2
 go_ret
 exact ⟨rfl,rfl⟩
theorem enc1 {c:Nat} (h:c < 128):encN c=[b8 c]:=by unfold encN;rw [if_pos h]
theorem enc2 {c:Nat} (h1:¬c < 128) (h:c < 2048):encN c=[b8 (192+c/64),b8 (128+c%64)]:=by unfold encN;rw [if_neg h1,if_pos h]
theorem enc3 {c:Nat} (h1:¬c < 2048) (h:c < 65536):encN c=[b8 (224+c/4096),b8 (128+c/64%64),b8 (128+c%64)]:=by unfold encN;rw [if_neg (by omega),if_neg h1,if_pos h]
theorem enc4 {c:Nat} (h:¬c < 65536):encN c=[b8 (240+c/262144),b8 (128+c/4096%64),b8 (128+c/64%64),b8 (128+c%64)]:=by unfold encN;rw [if_neg (by omega),if_neg (by omega),if_neg h]
theorem appendSign_calls (v:Value) (xs:List UInt8) (c:Nat) (w:World) (base:Nat) (ho:BOwn w base v xs) (hb:base≤w.heap.size) (hl:xs.length≤500000) (hc:c≤1114111) :
 Calls Tryz.prog 172 #[v,.int .i64 (c:Int)] w fun e w'=>(∃v',e=.returned v'∧BOwn w' base v' (xs++encN c))∧Below base w w':=by
 by_cases h1:c < 128
 ·rw [enc1 h1]
  have e0:=b8_nat c (by omega)
  generalize b8 c=x at *
  obtain ⟨v',w',hr,ho',hg⟩:=append_run (ho.alloc (.cells #[.int .u8 (x.toNat:Int)] 5)) (Row.lit fb w [x] 5 (0,0) (by simp)) (by simp;omega) (by simp;omega)
  have HO:=hid ho'
  have HB:=hid (((Below.refl base w).alloc hb _).grown hg (by simp;omega) (Own.lt ho))
  clear ho' hg ho
  rw [e0] at hr
  have g1:(c:Int) < 128:=by omega
  clear e0 hc h1 hb hl
  go_enter Tryz.func172,Tryz.ntmps172
  go_wp2_with (at_builtin;go_must (refine wpList_append_run hr rfl _ _ rfl rfl rfl rfl ?_))
  go_ret
  exact ⟨⟨_,rfl,HO.out⟩,HB.out⟩
 ·by_cases h2:c < 2048
  ·rw [enc2 h1 h2]
   obtain ⟨p1,q1⟩:∃p:Nat,p=c/64:=⟨_,rfl⟩
   have d1:(c:Int)/64=(p1:Int):=by omega
   have b1:p1 < 32:=by omega
   have m1:=u8mark 192 p1 6 3 rfl (by omega) (by omega)
   rw [show ((192:Nat):Int)=192 from rfl] at m1
   rw [← q1]
   clear q1
   have HL:=hid (later_calls c · (by omega))
   generalize b8 (192+p1)=x0 at *
   generalize b8 (128+c%64)=x1 at *
   obtain ⟨v',w',hr,ho',hg⟩:=append_run (ho.alloc (.cells #[.int .u8 (x0.toNat:Int),.int .u8 (x1.toNat:Int)] 5)) (Row.lit fb w [x0,x1] 5 (0,0) (by simp)) (by simp;omega) (by simp;omega)
   have HO:=hid ho'
   have HB:=hid (((Below.refl base w).alloc hb _).grown hg (by simp;omega) (Own.lt ho))
   have g1:¬(c:Int) < 128:=by omega
   have g2:(c:Int) < 2048:=by omega
   clear ho' hg ho hc h1 h2 hb hl
   go_enter Tryz.func172,Tryz.ntmps172
   go_wp2_with fail
   refine (HL.out _).mono ?_
   rintro e w1 ⟨rfl,rfl⟩
   go_wp2_with (at_builtin;go_must (refine wpList_append_run hr rfl _ _ rfl rfl rfl rfl ?_))
   go_ret
   exact ⟨⟨_,rfl,HO.out⟩,HB.out⟩
  ·by_cases h3:c < 65536
   ·rw [enc3 h2 h3]
    obtain ⟨p1,q1⟩:∃p:Nat,p=c/64:=⟨_,rfl⟩
    obtain ⟨p2,q2⟩:∃p:Nat,p=c/4096:=⟨_,rfl⟩
    have d1:(c:Int)/64=(p1:Int):=by omega
    have d2:(c:Int)/4096=(p2:Int):=by omega
    have b1:p1 < 1024:=by omega
    have b2:p2 < 16:=by omega
    have m1:=u8mark 224 p2 5 7 rfl (by omega) (by omega)
    rw [show ((224:Nat):Int)=224 from rfl] at m1
    rw [← q1,← q2]
    clear q1 q2
    have HL:=hid (later_calls c · (by omega))
    have HL1:=hid (later_calls p1 · (by omega))
    generalize b8 (224+p2)=x0 at *
    generalize b8 (128+p1%64)=x1 at *
    generalize b8 (128+c%64)=x2 at *
    obtain ⟨v',w',hr,ho',hg⟩:=append_run (ho.alloc (.cells #[.int .u8 (x0.toNat:Int),.int .u8 (x1.toNat:Int),.int .u8 (x2.toNat:Int)] 5)) (Row.lit fb w [x0,x1,x2] 5 (0,0) (by simp)) (by simp;omega) (by simp;omega)
    have HO:=hid ho'
    have HB:=hid (((Below.refl base w).alloc hb _).grown hg (by simp;omega) (Own.lt ho))
    have g1:¬(c:Int) < 128:=by omega
    have g2:¬(c:Int) < 2048:=by omega
    have g3:(c:Int) < 65536:=by omega
    clear ho' hg ho hc h1 h2 h3 hb hl
    go_enter Tryz.func172,Tryz.ntmps172
    go_wp2_with fail
    refine (HL1.out _).mono ?_
    rintro e w1 ⟨rfl,rfl⟩
    go_wp2_with fail
    refine (HL.out _).mono ?_
    rintro e w1 ⟨rfl,rfl⟩
    go_wp2_with (at_builtin;go_must (refine wpList_append_run hr rfl _ _ rfl rfl rfl rfl ?_))
    go_ret
    exact ⟨⟨_,rfl,HO.out⟩,HB.out⟩
   ·rw [enc4 h3]
    obtain ⟨p1,q1⟩:∃p:Nat,p=c/64:=⟨_,rfl⟩
    obtain ⟨p2,q2⟩:∃p:Nat,p=c/4096:=⟨_,rfl⟩
    obtain ⟨p3,q3⟩:∃p:Nat,p=c/262144:=⟨_,rfl⟩
    have d1:(c:Int)/64=(p1:Int):=by omega
    have d2:(c:Int)/4096=(p2:Int):=by omega
    have d3:(c:Int)/262144=(p3:Int):=by omega
    have b1:p1 < 65536:=by omega
    have b2:p2 < 65536:=by omega
    have b3:p3 < 5:=by omega
    have m1:=u8mark 240 p3 4 15 rfl (by omega) (by omega)
    rw [show ((240:Nat):Int)=240 from rfl] at m1
    rw [← q1,← q2,← q3]
    clear q1 q2 q3
    have HL:=hid (later_calls c · (by omega))
    have HL1:=hid (later_calls p1 · (by omega))
    have HL2:=hid (later_calls p2 · (by omega))
    generalize b8 (240+p3)=x0 at *
    generalize b8 (128+p2%64)=x1 at *
    generalize b8 (128+p1%64)=x2 at *
    generalize b8 (128+c%64)=x3 at *
    obtain ⟨v',w',hr,ho',hg⟩:=append_run (ho.alloc (.cells #[.int .u8 (x0.toNat:Int),.int .u8 (x1.toNat:Int),.int .u8 (x2.toNat:Int),.int .u8 (x3.toNat:Int)] 5)) (Row.lit fb w [x0,x1,x2,x3] 5 (0,0) (by simp)) (by simp;omega) (by simp;omega)
    have HO:=hid ho'
    have HB:=hid (((Below.refl base w).alloc hb _).grown hg (by simp;omega) (Own.lt ho))
    have g1:¬(c:Int) < 128:=by omega
    have g2:¬(c:Int) < 2048:=by omega
    have g3:¬(c:Int) < 65536:=by omega
    clear ho' hg ho hc h1 h2 h3 hb hl
    go_enter Tryz.func172,Tryz.ntmps172
    go_wp2_with fail
    refine (HL2.out _).mono ?_
    rintro e w1 ⟨rfl,rfl⟩
    go_wp2_with fail
    refine (HL1.out _).mono ?_
    rintro e w1 ⟨rfl,rfl⟩
    go_wp2_with fail
    refine (HL.out _).mono ?_
    rintro e w1 ⟨rfl,rfl⟩
    go_wp2_with (at_builtin;go_must (refine wpList_append_run hr rfl _ _ rfl rfl rfl rfl ?_))
    go_ret
    exact ⟨⟨_,rfl,HO.out⟩,HB.out⟩
theorem thr_calls (k b:Nat) (w:World) (hk:k≤1000000) (hb:b≤1000000):Calls Tryz.prog 218 #[.int .i64 (k:Int),.int .i64 (b:Int)] w fun e w'=>e=.returned (.int .i64 ((thr k b:Nat):Int))∧w'=w:=by
 have hk1:(k:Int)≤1000000:=by omega
 have hb1:(b:Int)≤1000000:=by omega
 have k0:(0:Int)≤(k:Int):=by omega
 have b0:(0:Int)≤(b:Int):=by omega
 go_enter Tryz.func218,Tryz.ntmps218
 go_wp2
 all_goals
  go_ret
  exact ⟨ret_int (by unfold thr;first | omega | (rename_i h1 h2;split at h1<;>omega)),rfl⟩
def letter (d:Nat):UInt8:=if d < 26 then b8 (97+d) else b8 (22+d)
def val (c:UInt8):Option Nat:=if 97≤c.toNat∧c.toNat≤122 then some (c.toNat-97) else if 65≤c.toNat∧c.toNat≤90 then some (c.toNat-65) else if 48≤c.toNat∧c.toNat≤57 then some (c.toNat-22) else none
theorem letter_nat (d:Nat) (h:d < 36):(letter d).toNat=if d < 26 then 97+d else 22+d:=by
 unfold letter;split<;>rw [b8_nat _ (by omega)]
theorem val_letter (d:Nat) (h:d < 36):val (letter d)=some d:=by
 unfold val
 rw [letter_nat d h]
 split<;>(repeat (split<;>try omega))<;>(congr 1;omega)
theorem letter_calls (d:Nat) (w:World) (h:d < 36):Calls Tryz.prog 219 #[.int .i64 (d:Int)] w fun e w'=>e=.returned (.int .u8 ((letter d).toNat:Int))∧w'=w:=by
 rw [letter_nat d h]
 have d0:(0:Int)≤(d:Int):=by omega
 have d1:(d:Int) < 36:=by omega
 clear h
 go_enter Tryz.func219,Tryz.ntmps219
 go_wp2
 all_goals
  go_ret
  refine ⟨ret_int ?_,rfl⟩
  first | omega | (rw [if_pos (by omega)];omega) | (rw [if_neg (by omega)];omega)
def valPair:Option Nat→Value×Value
 | some d=>(.int .i64 (d:Int),.bool true)
 | none=>(.int .i64 0,.bool false)
theorem digit_calls (c:UInt8) (w:World):Calls Tryz.prog 220 #[.int .u8 (c.toNat:Int)] w fun e w'=>e=.returned (.tuple #[(valPair (val c)).1,(valPair (val c)).2])∧w'=w:=by
 obtain ⟨x,hx⟩:∃x,x=val c:=⟨_,rfl⟩
 rw [← hx]
 unfold val at hx
 have hc:=byte_lt c
 generalize c.toNat=n at *
 have HX:=hid hx
 clear hx
 have d0:(0:Int)≤(n:Int):=by omega
 have d1:(n:Int) < 256:=by omega
 have hcc:(n:Int) < 48∨(48≤(n:Int)∧(n:Int)≤57)∨(57 < (n:Int)∧(n:Int) < 65)∨(65≤(n:Int)∧(n:Int)≤90)∨(90 < (n:Int)∧(n:Int) < 97)∨(97≤(n:Int)∧(n:Int)≤122)∨122 < (n:Int):=by omega
 clear hc
 rcases hcc with g | ⟨g1,g2⟩ | ⟨g1,g2⟩ | ⟨g1,g2⟩ | ⟨g1,g2⟩ | ⟨g1,g2⟩ | g
 all_goals
  go_enter Tryz.func220,Tryz.ntmps220
  go_wp2
  go_ret2
  refine ⟨?_,rfl⟩
  rw [HX.out]
  repeat (first | rw [if_pos (by omega)] | rw [if_neg (by omega)])
  simp [valPair]
  try omega
theorem adapt_calls (d c:Nat) (fl:Bool) (w:World) (hd:d≤3000000000) (hc:1≤c) (hc2:c≤1000000):Calls Tryz.prog 209 #[.int .i64 (d:Int),.int .i64 (c:Int),.bool fl] w fun e w'=>e=.returned (.int .i64 ((adapt d c fl:Nat):Int))∧w'=w:=by
 have c0:(0:Int) < (c:Int):=by omega
 have c1:(c:Int)≤1000000:=by omega
 obtain ⟨R,hR⟩:∃R,R=adapt d c fl:=⟨_,rfl⟩
 rw [← hR]
 unfold adapt at hR
 cases fl
 ·obtain ⟨x,hx⟩:∃x,x=d/2:=⟨_,rfl⟩
  obtain ⟨y,hy⟩:∃y,y=x/c:=⟨_,rfl⟩
  have e1:(d:Int)/2=(x:Int):=by omega
  have e2:(x:Int)/(c:Int)=(y:Int):=by rw [hy];exact (Int.natCast_ediv x c).symm
  have hyx:y≤x:=by rw [hy];exact Nat.div_le_self _ _
  have HR:Hid (R=adF 64 (x+y) 0):=by show _=_;rw [hR,hx.symm.symm];simp [hy,hx]
  have HB:Hid (x+y≤6000000000):=by show _≤_;omega
  have d0:(0:Int)≤(d:Int):=by omega
  have d1:(d:Int)≤3000000000:=by omega
  have x0:(0:Int)≤(x:Int):=by omega
  have x1:(x:Int)≤3000000000:=by omega
  have y0:(0:Int)≤(y:Int):=by omega
  have y1:(y:Int)≤3000000000:=by omega
  clear hx hy hR hd hc hc2 hyx
  go_enter Tryz.func209,Tryz.ntmps209
  go_wp2_with fail
  go_loop [0,7] (fun vd vb=>∃D B f:Nat,vd=.int .i64 (D:Int)∧vb=.int .i64 (B:Int)∧R=adF f D B∧D < 2^f∧D≤6000000000∧B+36 * f≤2304) (fun vd _=>(intOf vd).toNat)
  case atStart=>exact ⟨x+y,0,64,by go_num,rfl,HR.out,Nat.lt_of_le_of_lt HB.out (by decide),HB.out,by decide⟩
  case round =>
   obtain ⟨D,B,f,rfl,rfl,hq,hf,hD,hBf⟩:=hrel
   clear HR HB e1 e2 x0 x1 y0 y1 d0 d1 c0 c1
   have D0:(0:Int)≤(D:Int):=by omega
   have D1:(D:Int)≤6000000000:=by omega
   have B0:(0:Int)≤(B:Int):=by omega
   have B1:(B:Int)≤2304:=by omega
   by_cases hlt:455 < D
   ·obtain ⟨g,rfl⟩:∃g,f=g+1:=by
     cases f with
     | zero=>simp at hf;omega
     | succ g=>exact ⟨g,rfl⟩
    obtain ⟨q,hqd⟩:∃q,q=D/35:=⟨_,rfl⟩
    have e3:(D:Int)/35=(q:Int):=by omega
    have HQ:Hid (R=adF g q (B+36)):=by show _=_;rw [hq,hqd];show (if 455 < D then _ else _)=_;rw [if_pos hlt]
    have HF:Hid (q < 2^g∧q≤6000000000∧B+36+36 * g≤2304∧q < D):=by
     refine ⟨?_,by omega,by omega,by omega⟩
     rw [Nat.pow_succ] at hf;omega
    have h4:(455:Int) < (D:Int):=by omega
    clear hq hf hD hBf hlt hqd
    go_wp2
    go_round
    case rel=>exact ⟨q,B+36,g,rfl,by go_num,HQ.out,HF.out.1,HF.out.2.1,HF.out.2.2.1⟩
    case measure=>have:=HF.out.2.2.2;simp [intOf];omega
   ·have HQ:Hid (R=B+36 * D/(D+38)):=by
     show _=_
     rw [hq]
     cases f with
     | zero=>rfl
     | succ g=>show (if 455 < D then _ else _)=_;rw [if_neg hlt]
    obtain ⟨z,hz⟩:∃z,z=36 * D/(D+38):=⟨_,rfl⟩
    have e4:(36:Int) * (D:Int)/((D:Int)+38)=(z:Int):=by rw [hz,Int.natCast_ediv];simp
    have z1:(z:Int)≤36:=by have:=frac_le D;omega
    have z0:(0:Int)≤(z:Int):=by omega
    have HZ:=hid hz
    have h4:(D:Int)≤455:=by omega
    clear hq hf hD hBf hlt hz
    go_wp2
    go_ret
    exact ⟨ret_int (by rw [HQ.out,← HZ.out];omega),rfl⟩
 ·obtain ⟨x,hx⟩:∃x,x=d/700:=⟨_,rfl⟩
  obtain ⟨y,hy⟩:∃y,y=x/c:=⟨_,rfl⟩
  have e1:(d:Int)/700=(x:Int):=by omega
  have e2:(x:Int)/(c:Int)=(y:Int):=by rw [hy];exact (Int.natCast_ediv x c).symm
  have hyx:y≤x:=by rw [hy];exact Nat.div_le_self _ _
  have HR:Hid (R=adF 64 (x+y) 0):=by show _=_;rw [hR,hx.symm.symm];simp [hy,hx]
  have HB:Hid (x+y≤6000000000):=by show _≤_;omega
  have d0:(0:Int)≤(d:Int):=by omega
  have d1:(d:Int)≤3000000000:=by omega
  have x0:(0:Int)≤(x:Int):=by omega
  have x1:(x:Int)≤3000000000:=by omega
  have y0:(0:Int)≤(y:Int):=by omega
  have y1:(y:Int)≤3000000000:=by omega
  clear hx hy hR hd hc hc2 hyx
  go_enter Tryz.func209,Tryz.ntmps209
  go_wp2_with fail
  go_loop [0,7] (fun vd vb=>∃D B f:Nat,vd=.int .i64 (D:Int)∧vb=.int .i64 (B:Int)∧R=adF f D B∧D < 2^f∧D≤6000000000∧B+36 * f≤2304) (fun vd _=>(intOf vd).toNat)
  case atStart=>exact ⟨x+y,0,64,by go_num,rfl,HR.out,Nat.lt_of_le_of_lt HB.out (by decide),HB.out,by decide⟩
  case round =>
   obtain ⟨D,B,f,rfl,rfl,hq,hf,hD,hBf⟩:=hrel
   clear HR HB e1 e2 x0 x1 y0 y1 d0 d1 c0 c1
   have D0:(0:Int)≤(D:Int):=by omega
   have D1:(D:Int)≤6000000000:=by omega
   have B0:(0:Int)≤(B:Int):=by omega
   have B1:(B:Int)≤2304:=by omega
   by_cases hlt:455 < D
   ·obtain ⟨g,rfl⟩:∃g,f=g+1:=by
     cases f with
     | zero=>simp at hf;omega
     | succ g=>exact ⟨g,rfl⟩
    obtain ⟨q,hqd⟩:∃q,q=D/35:=⟨_,rfl⟩
    have e3:(D:Int)/35=(q:Int):=by omega
    have HQ:Hid (R=adF g q (B+36)):=by show _=_;rw [hq,hqd];show (if 455 < D then _ else _)=_;rw [if_pos hlt]
    have HF:Hid (q < 2^g∧q≤6000000000∧B+36+36 * g≤2304∧q < D):=by
     refine ⟨?_,by omega,by omega,by omega⟩
     rw [Nat.pow_succ] at hf;omega
    have h4:(455:Int) < (D:Int):=by omega
    clear hq hf hD hBf hlt hqd
    go_wp2
    go_round
    case rel=>exact ⟨q,B+36,g,rfl,by go_num,HQ.out,HF.out.1,HF.out.2.1,HF.out.2.2.1⟩
    case measure=>have:=HF.out.2.2.2;simp [intOf];omega
   ·have HQ:Hid (R=B+36 * D/(D+38)):=by
     show _=_
     rw [hq]
     cases f with
     | zero=>rfl
     | succ g=>show (if 455 < D then _ else _)=_;rw [if_neg hlt]
    obtain ⟨z,hz⟩:∃z,z=36 * D/(D+38):=⟨_,rfl⟩
    have e4:(36:Int) * (D:Int)/((D:Int)+38)=(z:Int):=by rw [hz,Int.natCast_ediv];simp
    have z1:(z:Int)≤36:=by have:=frac_le D;omega
    have z0:(0:Int)≤(z:Int):=by omega
    have HZ:=hid hz
    have h4:(D:Int)≤455:=by omega
    clear hq hf hD hBf hlt hz
    go_wp2
    go_ret
    exact ⟨ret_int (by rw [HQ.out,← HZ.out];omega),rfl⟩
abbrev fn (c:Nat):Value:=.int .i64 (c:Int)
abbrev NRow (w:World) (v:Value) (l:List Nat):Prop:=Row fn w v l
abbrev NOwn (w:World) (base:Nat) (v:Value) (l:List Nat):Prop:=Own fn 3 w base v l
theorem drop_atPu {α:Type} {l:List α} {k:Nat} (h:k < l.length):l.drop k=l[k]::l.drop (k+1):=by rw [List.drop_eq_getElem_cons h]
theorem Row.open {α:Type} {f:α→Value} {w w':World} {a:Option Addr} {n cap:Nat} {l:List α} (h:Row f w (.slice a n cap) l) (hb:Below w.heap.size w w') (k:Nat) (hk:k < l.length):∃b off,a=some ⟨b,off,none⟩∧w'.cell? ⟨b,off+k,none⟩=some (f l[k]):=by
 obtain ⟨a',cap',he,_,_,h3⟩:=h
 injection he with e1 e2 e3
 subst e1
 obtain ⟨b,off,rfl,hbl,hc⟩:=h3 (by intro h;simp [h] at hk)
 exact ⟨b,off,rfl,(hb.cell (p:=⟨b,off+k,none⟩) hbl).trans (hc k hk)⟩
theorem lstF_cons (a n c:Nat) (l:List Nat):lstF a n (c::l)=lstF (if n≤c then min a c else a) n l:=rfl
theorem least_calls (v:Value) (m:List Nat) (n:Nat) (w:World) (hv:NRow w v m) (hm:∀c∈m,c≤1114111) (hn:n≤2000000) :
 Calls Tryz.prog 207 #[v,.int .i64 (n:Int)] w fun e w'=>e=.returned (.int .i64 ((least m n:Nat):Int))∧w'=w:=by
 have HV:=hid hv
 have HM:=hid hm
 obtain ⟨a,cap,rfl,h1,h2,h3⟩:=hv
 unfold maxLen at h2
 have n0:(0:Int)≤(n:Int):=by omega
 have n1:(n:Int)≤2000000:=by omega
 obtain ⟨R,hR⟩:∃R,R=least m n:=⟨_,rfl⟩
 rw [← hR]
 unfold least at hR
 have HR:=hid hR
 clear h3 hm hR hn
 go_enter Tryz.func207,Tryz.ntmps207
 go_wp2_with fail
 go_loop [5,10] (fun vx vi=>∃k x:Nat,k≤m.length∧vx=.int .i64 (x:Int)∧vi=.int .i64 (k:Int)∧x≤2147483647∧R=lstF x n (m.drop k)) (fun _ vi=>m.length-(intOf vi).toNat)
 case atStart=>exact ⟨0,2147483647,Nat.zero_le _,rfl,rfl,Nat.le_refl _,by rw [List.drop_zero];exact HR.out⟩
 case round =>
  obtain ⟨k,x,hk,rfl,rfl,hx,hr⟩:=hrel
  clear HR
  have x0:(0:Int)≤(x:Int):=by omega
  have x1:(x:Int)≤2147483647:=by omega
  by_cases hlt:k < m.length
  ·obtain ⟨b,off,rfl,hck⟩:=HV.out.open (Below.refl _ _) k hlt
   have hc:=HM.out m[k] (List.getElem_mem hlt)
   rw [drop_atPu hlt,lstF_cons] at hr
   have HK:=hid hlt
   have k0:(0:Int)≤(k:Int):=by omega
   have k1:(k:Int) < (m.length:Int):=by omega
   generalize m[k]=c at *
   have c0:(0:Int)≤(c:Int):=by omega
   have c1:(c:Int)≤1114111:=by omega
   have HRr:=hid hr
   have HX:=hid hx
   clear hr hx hc hk hlt
   by_cases hnc:n≤c
   ·have g:(n:Int)≤(c:Int):=by omega
    have HN:=hid hnc
    by_cases hxc:x≤c
    ·have g2:(x:Int)≤(c:Int):=by omega
     have g3:¬(c:Int) < (x:Int):=by omega
     have HQ:Hid (R=lstF x n (m.drop (k+1))):=by show _=_;rw [HRr.out,if_pos hnc,Nat.min_eq_left hxc]
     clear hnc hxc HRr
     go_wp2_with fail
     go_round
     case rel=>exact ⟨k+1,x,HK.out,rfl,by go_num,HX.out,HQ.out⟩
     case measure=>have:=HK.out;simp [intOf];omega
    ·have g2:¬(x:Int)≤(c:Int):=by omega
     have g3:(c:Int) < (x:Int):=by omega
     have HQ:Hid (R=lstF c n (m.drop (k+1))):=by show _=_;rw [HRr.out,if_pos hnc,Nat.min_eq_right (by omega)]
     clear hnc hxc HRr
     go_wp2_with fail
     go_round
     case rel=>exact ⟨k+1,c,HK.out,rfl,by go_num,by omega,HQ.out⟩
     case measure=>have:=HK.out;simp [intOf];omega
   ·have g:¬(n:Int)≤(c:Int):=by omega
    have HQ:Hid (R=lstF x n (m.drop (k+1))):=by show _=_;rw [HRr.out,if_neg hnc]
    clear hnc HRr
    go_wp2_with fail
    go_round
    case rel=>exact ⟨k+1,x,HK.out,rfl,by go_num,HX.out,HQ.out⟩
    case measure=>have:=HK.out;simp [intOf];omega
  ·have HQ:Hid (R=x):=by
    show _=_
    rw [hr,List.drop_eq_nil_of_le (by omega)];rfl
   clear hr
   go_wp2_with fail
   go_ret
   exact ⟨ret_int (by rw [HQ.out]),rfl⟩
theorem number_callsPu (v:Value) (xs:List UInt8) (n bias:Nat) (w:World) (base:Nat) (ho:BOwn w base v xs) (hb:base≤w.heap.size) (hl:xs.length≤500000) (hn:n≤3000000000) (hbi:bias≤2340) :
 Calls Tryz.prog 208 #[v,.int .i64 (n:Int),.int .i64 (bias:Int)] w fun e w'=>(∃v',e=.returned v'∧BOwn w' base v' (xs++(num bias n).map letter))∧Below base w w':=by
 have b0:(0:Int)≤(bias:Int):=by omega
 have b1:(bias:Int)≤2340:=by omega
 have HO:=hid ho
 have HL:=hid hl
 have HN:=hid hn
 have HBI:=hid hbi
 have HBA:=hid hb
 obtain ⟨F,hF⟩:∃F,F=xs++(num bias n).map letter:=⟨_,rfl⟩
 rw [← hF]
 unfold num at hF
 have HF:=hid hF
 clear ho hl hn hbi hF hb
 go_enter Tryz.func208,Tryz.ntmps208
 go_wp2_with fail
 go_loopw [0,1,7] (fun vo vn vk wr=>∃(ys:List UInt8) (q k f:Nat),vn=.int .i64 (q:Int)∧vk=.int .i64 (k:Int)∧BOwn wr base vo ys∧Below base w wr∧F=ys++(numF f k bias q).map letter∧q < 2^f∧q≤3000000000∧k+36 * f≤2340∧ys.length+f≤500064) (fun _ vn _ _=>(intOf vn).toNat)
 case atStart=>exact ⟨xs,n,36,64,rfl,rfl,HO.out,Below.refl _ _,HF.out,Nat.lt_of_le_of_lt HN.out (by decide),HN.out,by decide,by have:=HL.out;omega⟩
 case round =>
  obtain ⟨ys,q,k,f,rfl,rfl,ho,hbw,hq,hf,hqm,hkf,hyl⟩:=hrel
  clear HF HO HL HN
  have HT:=hid (fun w'=>thr_calls k bias w' (by omega) (by have:=HBI.out;omega))
  have t1:=thr_ge k bias
  have t2:=thr_le k bias
  have HSz:Hid (base≤wr.heap.size):=Nat.le_trans HBA.out hbw.size
  have q0:(0:Int)≤(q:Int):=by omega
  have q1:(q:Int)≤3000000000:=by omega
  have k0:(0:Int)≤(k:Int):=by omega
  have k1:(k:Int)≤2340:=by omega
  by_cases hlt:q < thr k bias
  ·have HE:Hid (F=ys++[letter q]):=by
    show _=_
    rw [hq]
    cases f with
    | zero=>show _++List.map letter [q%36]=_;rw [Nat.mod_eq_of_lt (by omega)];rfl
    | succ g=>show _++List.map letter (if q < thr k bias then _ else _)=_;rw [if_pos hlt];rfl
   have HL:=hid (fun w'=>letter_calls q w' (by omega))
   generalize letter q=x at *
   obtain ⟨v',w',hr,ho',hg⟩:=append_run (ho.alloc (.cells #[.int .u8 (x.toNat:Int)] 5)) (Row.lit fb wr [x] 5 (0,0) (by simp)) (by simp;omega) (by have:=HSz.out;simp;omega)
   have HO2:=hid ho'
   have HB2:=hid ((hbw.alloc HSz.out (.cells #[.int .u8 (x.toNat:Int)] 5)).grown hg (by have:=HSz.out;simp;omega) (Own.lt ho))
   have g:(q:Int) < ((thr k bias:Nat):Int):=by omega
   generalize thr k bias=t at *
   clear ho' hg ho hbw hq hf hqm hkf hyl hlt t1 t2
   go_wp2_with fail
   refine (HT.out _).mono ?_
   rintro e w1 ⟨rfl,rfl⟩
   go_wp2_with fail
   refine (HL.out _).mono ?_
   rintro e w1 ⟨rfl,rfl⟩
   go_wp2_with (at_builtin;go_must (refine wpList_append_run hr rfl _ _ rfl rfl rfl rfl ?_))
   go_ret
   exact ⟨⟨_,rfl,by rw [HE.out];exact HO2.out⟩,HB2.out⟩
  ·obtain ⟨g,rfl⟩:∃g,f=g+1:=by
    cases f with
    | zero=>simp at hf;omega
    | succ g=>exact ⟨g,rfl⟩
   have hnl:=num_less hf t1 t2
   have hmod:=Nat.mod_lt (q-thr k bias) (y:=36-thr k bias) (by omega)
   have hdv:=Nat.div_le_self (q-thr k bias) (36-thr k bias)
   have hq2:F=ys++[letter (thr k bias+(q-thr k bias)%(36-thr k bias))]++(numF g (k+36) bias ((q-thr k bias)/(36-thr k bias))).map letter:=by
    rw [hq]
    show _++List.map letter (if q < thr k bias then _ else _)=_
    rw [if_neg hlt];simp
   generalize thr k bias=t at *
   obtain ⟨r,hrm⟩:∃r,r=(q-t)%(36-t):=⟨_,rfl⟩
   obtain ⟨z,hz⟩:∃z,z=(q-t)/(36-t):=⟨_,rfl⟩
   have e1:((q:Int)-(t:Int))%(36-(t:Int))=(r:Int):=by rw [hrm,Int.natCast_emod];congr 1<;>omega
   have e2:((q:Int)-(t:Int))/(36-(t:Int))=(z:Int):=by rw [hz,Int.natCast_ediv];congr 1<;>omega
   rw [← hrm,← hz] at hq2
   rw [← hrm] at hmod
   rw [← hz] at hnl hdv
   have HL:Hid (∀w',Calls Tryz.prog 219 #[.int .i64 ((t:Int)+(r:Int))] w' fun e w2=>e=.returned (.int .u8 ((letter (t+r)).toNat:Int))∧w2=w'):=fun w'=>by
    have:=letter_calls (t+r) w' (by omega)
    rwa [Int.natCast_add] at this
   generalize letter (t+r)=x at *
   obtain ⟨v',w',hr,ho',hg⟩:=append_run (ho.alloc (.cells #[.int .u8 (x.toNat:Int)] 5)) (Row.lit fb wr [x] 5 (0,0) (by simp)) (by simp;omega) (by have:=HSz.out;simp;omega)
   have HO2:=hid ho'
   have HB2:=hid ((hbw.alloc HSz.out (.cells #[.int .u8 (x.toNat:Int)] 5)).grown hg (by have:=HSz.out;simp;omega) (Own.lt ho))
   have g1:(t:Int)≤(q:Int):=by omega
   have g2:¬(q:Int) < (t:Int):=by omega
   have t3:(1:Int)≤(t:Int):=by omega
   have t4:(t:Int)≤26:=by omega
   have r0:(0:Int)≤(r:Int):=by omega
   have r1:(r:Int) < 36:=by omega
   have HR:Hid (F=(ys++[x])++(numF g (k+36) bias z).map letter∧z < 2^g∧z≤3000000000∧k+36+36 * g≤2340∧(ys++[x]).length+g≤500064∧z < q):=⟨hq2,hnl,by omega,by omega,by simp;omega,by omega⟩
   clear ho' hg ho hbw hq hf hqm hkf hyl hlt t1 t2 hq2 hnl hdv hmod hrm hz
   go_wp2_with fail
   refine (HT.out _).mono ?_
   rintro e w1 ⟨rfl,rfl⟩
   go_wp2_with fail
   refine (HL.out _).mono ?_
   rintro e w1 ⟨rfl,rfl⟩
   go_wp2_with (at_builtin;go_must (refine wpList_append_run hr rfl _ _ rfl rfl rfl rfl ?_))
   go_roundw
   case rel=>exact ⟨ys++[x],z,k+36,g,by rw [e2],by go_num,HO2.out,HB2.out,HR.out.1,HR.out.2.1,HR.out.2.2.1,HR.out.2.2.2.1,HR.out.2.2.2.2.1⟩
   case measure=>have:=HR.out.2.2.2.2.2;simp [intOf,e2];omega
theorem take_countP {m:List Nat} {k s:Nat} (h:k < m.length):(m.take (k+1)).countP (·==s)=(m.take k).countP (·==s)+(if m[k]=s then 1 else 0):=by
 rw [List.take_succ_eq_append_getElem h,List.countP_append]
 simp [List.countP_cons]
theorem take_countP_le (m:List Nat) (k s:Nat):(m.take k).countP (·==s)≤m.countP (·==s):=List.Sublist.countP_le (List.take_sublist _ _)
def EncAt (m:List Nat) (plain:Nat) (F ys:List UInt8) (delta bias n done f:Nat):Prop :=
 F=ys++(encD m plain f delta bias n done).map letter∧done=m.countP (· < n)∧m.length≤done+f∧delta≤n * 300∧n≤1114112∧bias≤2340∧ys.length≤1000+65 * done
theorem EncAt.out {m:List Nat} {plain:Nat} {F ys:List UInt8} {delta bias n done f:Nat} (h:EncAt m plain F ys delta bias n done f):F=ys++(encD m plain f delta bias n done).map letter:=h.1
theorem EncAt.done {m:List Nat} {plain:Nat} {F ys:List UInt8} {delta bias n done f:Nat} (h:EncAt m plain F ys delta bias n done f):done=m.countP (· < n):=h.2.1
theorem EncAt.fuel {m:List Nat} {plain:Nat} {F ys:List UInt8} {delta bias n done f:Nat} (h:EncAt m plain F ys delta bias n done f):m.length≤done+f:=h.2.2.1
theorem EncAt.steps {m:List Nat} {plain:Nat} {F ys:List UInt8} {delta bias n done f:Nat} (h:EncAt m plain F ys delta bias n done f):delta≤n * 300:=h.2.2.2.1
theorem EncAt.top {m:List Nat} {plain:Nat} {F ys:List UInt8} {delta bias n done f:Nat} (h:EncAt m plain F ys delta bias n done f):n≤1114112:=h.2.2.2.2.1
theorem EncAt.bias {m:List Nat} {plain:Nat} {F ys:List UInt8} {delta bias n done f:Nat} (h:EncAt m plain F ys delta bias n done f):bias≤2340:=h.2.2.2.2.2.1
theorem EncAt.len {m:List Nat} {plain:Nat} {F ys:List UInt8} {delta bias n done f:Nat} (h:EncAt m plain F ys delta bias n done f):ys.length≤1000+65 * done:=h.2.2.2.2.2.2
def ScanAt (m:List Nat) (plain s:Nat) (G:List UInt8) (X:Nat×Nat×Nat) (delta0 done0:Nat) (ys:List UInt8) (k delta bias done:Nat):Prop :=
 k≤m.length∧G=ys++(scanD s plain (m.drop k) delta bias done).1.map letter∧(scanD s plain (m.drop k) delta bias done).2=X∧done=done0+(m.take k).countP (·==s)∧delta≤delta0+k∧bias≤2340∧ys.length≤1000+65 * done
theorem ScanAt.k {m:List Nat} {plain s:Nat} {G:List UInt8} {X:Nat×Nat×Nat} {delta0 done0:Nat} {ys:List UInt8} {k delta bias done:Nat} (h:ScanAt m plain s G X delta0 done0 ys k delta bias done):k≤m.length:=h.1
theorem ScanAt.out {m:List Nat} {plain s:Nat} {G:List UInt8} {X:Nat×Nat×Nat} {delta0 done0:Nat} {ys:List UInt8} {k delta bias done:Nat} (h:ScanAt m plain s G X delta0 done0 ys k delta bias done):G=ys++(scanD s plain (m.drop k) delta bias done).1.map letter:=h.2.1
theorem ScanAt.left {m:List Nat} {plain s:Nat} {G:List UInt8} {X:Nat×Nat×Nat} {delta0 done0:Nat} {ys:List UInt8} {k delta bias done:Nat} (h:ScanAt m plain s G X delta0 done0 ys k delta bias done):(scanD s plain (m.drop k) delta bias done).2=X:=h.2.2.1
theorem ScanAt.done {m:List Nat} {plain s:Nat} {G:List UInt8} {X:Nat×Nat×Nat} {delta0 done0:Nat} {ys:List UInt8} {k delta bias done:Nat} (h:ScanAt m plain s G X delta0 done0 ys k delta bias done):done=done0+(m.take k).countP (·==s):=h.2.2.2.1
theorem ScanAt.steps {m:List Nat} {plain s:Nat} {G:List UInt8} {X:Nat×Nat×Nat} {delta0 done0:Nat} {ys:List UInt8} {k delta bias done:Nat} (h:ScanAt m plain s G X delta0 done0 ys k delta bias done):delta≤delta0+k:=h.2.2.2.2.1
theorem ScanAt.bias {m:List Nat} {plain s:Nat} {G:List UInt8} {X:Nat×Nat×Nat} {delta0 done0:Nat} {ys:List UInt8} {k delta bias done:Nat} (h:ScanAt m plain s G X delta0 done0 ys k delta bias done):bias≤2340:=h.2.2.2.2.2.1
theorem ScanAt.len {m:List Nat} {plain s:Nat} {G:List UInt8} {X:Nat×Nat×Nat} {delta0 done0:Nat} {ys:List UInt8} {k delta bias done:Nat} (h:ScanAt m plain s G X delta0 done0 ys k delta bias done):ys.length≤1000+65 * done:=h.2.2.2.2.2.2
section
variable {m:List Nat} {plain s:Nat} {G ys:List UInt8} {X:Nat×Nat×Nat} {delta0 done0 k delta bias done:Nat}
theorem ScanAt.lt (h:ScanAt m plain s G X delta0 done0 ys k delta bias done) (hk:k < m.length) (hc:m[k] < s):ScanAt m plain s G X delta0 done0 ys (k+1) (delta+1) bias done:=by
 have h1:=h.out
 have h2:=h.left
 rw [drop_atPu hk,scanD_lt hc] at h1 h2
 exact ⟨hk,h1,h2,by rw [take_countP hk,if_neg (by omega)];exact h.done,by have:=h.steps;omega,h.bias,h.len⟩
theorem ScanAt.gt (h:ScanAt m plain s G X delta0 done0 ys k delta bias done) (hk:k < m.length) (hc:s < m[k]):ScanAt m plain s G X delta0 done0 ys (k+1) delta bias done:=by
 have h1:=h.out
 have h2:=h.left
 rw [drop_atPu hk,scanD_gt hc] at h1 h2
 exact ⟨hk,h1,h2,by rw [take_countP hk,if_neg (by omega)];exact h.done,by have:=h.steps;omega,h.bias,h.len⟩
theorem ScanAt.eq (h:ScanAt m plain s G X delta0 done0 ys k delta bias done) (hk:k < m.length) (hc:m[k]=s):ScanAt m plain s G X delta0 done0 (ys++(num bias delta).map letter) (k+1) 0 (adapt delta (done+1) (decide (done=plain))) (done+1):=by
 have h1:=h.out
 have h2:=h.left
 have hd:=h.done
 rw [drop_atPu hk,hc,scanD_eq] at h1 h2
 refine ⟨hk,?_,h2,by rw [take_countP hk,if_pos hc];omega,by omega,adapt_le _ _ _,?_⟩
 ·rw [h1];simp
 ·have:=h.len
  have h3:=(numF_len 64 36 bias delta).2
  rw [List.length_append,List.length_map]
  unfold num
  omega
end
theorem EncAt.scan {m:List Nat} {plain:Nat} {F ys:List UInt8} {delta bias n done f:Nat} (h:EncAt m plain F ys delta bias n done f) (hm:∀c∈m,c≤1114111) (hlt:done < m.length) (hl:m.length≤256) :
 ∃(G:List UInt8) (X:Nat×Nat×Nat),least m n∈m∧n≤least m n∧least m n≤1114111∧done+m.countP (·==least m n)≤m.length∧delta+(least m n-n) * (done+1)≤least m n * 300 ∧
  ScanAt m plain (least m n) G X (delta+(least m n-n) * (done+1)) done ys 0 (delta+(least m n-n) * (done+1)) bias done ∧
  ∀(zs:List UInt8) (delta' bias' done':Nat),ScanAt m plain (least m n) G X (delta+(least m n-n) * (done+1)) done zs m.length delta' bias' done'→G=zs∧done < done'∧∃f',EncAt m plain F zs (delta'+1) bias' (least m n+1) done' f':=by
 obtain ⟨s1,s2,s3,s4⟩:=least_spec hm (by rw [← h.done];exact hlt)
 have hout:=h.out
 have hfu:=h.fuel
 have hdn:=h.done
 have hst:=h.steps
 obtain ⟨f',rfl⟩:∃g,f=g+1:=⟨f-1,by omega⟩
 unfold encD at hout
 rw [if_pos hlt] at hout
 simp only at hout
 have hcnt:done+m.countP (·==least m n)=m.countP (· < least m n+1):=by
  rw [countP_next,countP_le_least s4 s2,← hdn]
 generalize least m n=s at *
 obtain ⟨a,rfl⟩:∃a,s=n+a:=⟨s-n,by omega⟩
 rw [show n+a-n=a by omega] at *
 have hle:m.countP (· < n+a+1)≤m.length:=List.countP_le_length
 have hp:a * (done+1)≤a * 300:=Nat.mul_le_mul_left _ (by omega)
 refine ⟨ys++(scanD (n+a) plain m (delta+a * (done+1)) bias done).1.map letter,(scanD (n+a) plain m (delta+a * (done+1)) bias done).2,s1,by omega,s3,by omega,by rw [Nat.add_mul];omega,⟨Nat.zero_le _,rfl,rfl,by simp,by omega,h.bias,h.len⟩,?_⟩
 intro zs delta' bias' done' hz
 have z1:=hz.out
 have z2:=hz.left
 have z3:=hz.done
 have z4:=hz.steps
 rw [List.take_length] at z3
 rw [List.drop_length] at z1 z2
 simp only [scanD,List.map_nil,List.append_nil] at z1 z2
 have hpos:0 < m.countP (·==n+a):=List.countP_pos_iff.2 ⟨_,s1,by simp⟩
 refine ⟨z1,by omega,f',?_,by omega,by omega,?_,by omega,hz.bias,hz.len⟩
 ·rw [← z2] at hout
  rw [hout,← z1]
  simp
 ·rw [Nat.add_mul];rw [Nat.add_mul] at *;omega
theorem deltas_calls (w0:World) (v:Value) (m:List Nat) (hv:NRow w0 v m) (hl:m.length≤256) (hm:∀c∈m,c≤1114111) (vo:Value) (xs:List UInt8) (w:World) (ho:BOwn w w0.heap.size vo xs) (hbw:Below w0.heap.size w0 w) (hxl:xs.length≤1000)
 (plain:Nat) (hp:plain=m.countP (· < 128)) :
 Calls Tryz.prog 195 #[vo,v,.int .i64 (plain:Int)] w fun e w'=>(∃v',e=.returned v'∧BOwn w' w0.heap.size v' (xs++(encD m plain m.length 0 72 128 plain).map letter))∧Below w0.heap.size w0 w':=by
 have HV:=hid hv
 have HM:=hid hm
 have HL:=hid hl
 have HO:=hid ho
 have HBW:=hid hbw
 obtain ⟨F,hF⟩:∃F,F=xs++(encD m plain m.length 0 72 128 plain).map letter:=⟨_,rfl⟩
 have HS:Hid (EncAt m plain F xs 0 72 128 plain m.length):=⟨hF,hp,by omega,by omega,by omega,by omega,by omega⟩
 have HPL:Hid (plain≤256):=by show _≤_;have:m.countP (· < 128)≤m.length:=List.countP_le_length;omega
 rw [← hF]
 obtain ⟨a,cap,rfl,h1,h2,h3⟩:=hv
 unfold maxLen at h2
 have l1:(m.length:Int)≤256:=by omega
 have p0:(0:Int)≤(plain:Int):=by omega
 have p1:(plain:Int)≤256:=by have:=HPL.out;omega
 clear h3 hm hl ho hbw hF hp hxl
 go_enter Tryz.func195,Tryz.ntmps195
 go_wp2_with fail
 go_loopw [0,7,8,9,10] (fun vo vd vb vn vc wr=>∃(ys:List UInt8) (delta bias n done f:Nat),vd=.int .i64 (delta:Int)∧vb=.int .i64 (bias:Int)∧vn=.int .i64 (n:Int)∧vc=.int .i64 (done:Int)∧BOwn wr w0.heap.size vo ys∧Below w0.heap.size w0 wr∧EncAt m plain F ys delta bias n done f) (fun _ _ _ _ vc _=>m.length-(intOf vc).toNat)
 case atStart=>exact ⟨xs,0,72,128,plain,m.length,rfl,rfl,rfl,rfl,HO.out,HBW.out,HS.out⟩
 case round =>
  obtain ⟨ys,delta,bias,n,done,f,rfl,rfl,rfl,rfl,ho,hb,hE⟩:=hrel
  clear HS HO HBW
  have hdle:done≤m.length:=by rw [hE.done];exact List.countP_le_length
  have hst:=hE.steps
  have htop:=hE.top
  have hbi:=hE.bias
  have d0:(0:Int)≤(delta:Int):=by omega
  have d1:(delta:Int)≤400000000:=by omega
  have n0:(0:Int)≤(n:Int):=by omega
  have n1:(n:Int)≤1114112:=by omega
  have c0:(0:Int)≤(done:Int):=by omega
  have c1:(done:Int)≤256:=by have:=HL.out;omega
  have i0:(0:Int)≤(bias:Int):=by omega
  have i1:(bias:Int)≤2340:=by omega
  have HOy:=hid ho
  have HBy:=hid hb
  have HEy:=hid hE
  clear ho hb hE hst htop hbi
  by_cases hlt:done < m.length
  ·obtain ⟨G,X,q1,q2,q3,q4,q5,q6,q7⟩:=HEy.out.scan HM.out hlt HL.out
   have HLe:=hid (fun w' (hr:NRow w' (.slice a m.length cap) m)=>least_calls _ m n w' hr HM.out (by omega))
   generalize least m n=s at *
   obtain ⟨p,hpd⟩:∃p,p=(s-n) * (done+1):=⟨_,rfl⟩
   rw [← hpd] at q5 q6 q7
   have e1:((s:Int)-(n:Int)) * ((done:Int)+1)=(p:Int):=by
    rw [hpd,Int.natCast_mul,Int.natCast_add,Int.natCast_sub q2];rfl
   have s0:(0:Int)≤(s:Int):=by omega
   have s1:(s:Int)≤1114111:=by omega
   have sn:(n:Int)≤(s:Int):=by omega
   have pp0:(0:Int)≤(p:Int):=by omega
   have pp1:(delta:Int)+(p:Int)≤400000000:=by omega
   have g:(done:Int) < (m.length:Int):=by omega
   have HQ4:=hid q4
   have HQ5:=hid q5
   have HQ6:=hid q6
   have HQ7:=hid q7
   have HD:=hid hlt
   have HS1:=hid q3
   clear q1 q2 q3 q4 q5 q6 q7 hlt hpd hdle
   go_wp2_with fail
   refine (HLe.out _ (HV.out.below HBy.out)).mono ?_
   rintro e w1 ⟨rfl,rfl⟩
   go_wp2_with fail
   go_loopw [0,7,8,10,32] (fun vo vd vb vc vi wr=>∃(zs:List UInt8) (k delta' bias' done':Nat),vd=.int .i64 (delta':Int)∧vb=.int .i64 (bias':Int)∧vc=.int .i64 (done':Int)∧vi=.int .i64 (k:Int)∧BOwn wr w0.heap.size vo zs∧Below w0.heap.size w0 wr∧ScanAt m plain s G X (delta+p) done zs k delta' bias' done') (fun _ _ _ _ vi _=>m.length-(intOf vi).toNat)
   case atStart=>exact ⟨ys,0,delta+p,bias,done,by go_num,rfl,rfl,rfl,HOy.out,HBy.out,HQ6.out⟩
   case round =>
    obtain ⟨zs,k,delta',bias',done',rfl,rfl,rfl,rfl,ho,hb,hA⟩:=hrel
    have HOz:=hid ho
    have HBz:=hid hb
    have HA:=hid hA
    have hk:=hA.k
    have hst:=hA.steps
    have hbi:=hA.bias
    have hdn:done'≤256:=by
     have:=hA.done
     have h1:=take_countP_le m k s
     have:=HQ4.out
     have:=HL.out
     omega
    have hln:=hA.len
    have HZL:Hid (zs.length≤500000):=by show _≤_;omega
    have HSz:Hid (w0.heap.size≤wr.heap.size):=hb.size
    clear ho hb hA HQ6 HOy HBy HEy HLe d0 d1 c0 c1 i0 i1 pp0 hln
    have d0:(0:Int)≤(delta':Int):=by omega
    have d1:(delta':Int)≤400000256:=by have:=HL.out;omega
    have c0:(0:Int)≤(done':Int):=by omega
    have c1:(done':Int)≤256:=by omega
    have i0:(0:Int)≤(bias':Int):=by omega
    have i1:(bias':Int)≤2340:=by omega
    have k0:(0:Int)≤(k:Int):=by omega
    by_cases hlt:k < m.length
    ·obtain ⟨b,off,rfl,hck⟩:=HV.out.open HBz.out k hlt
     have k1:(k:Int) < (m.length:Int):=by omega
     have HK:=hid hlt
     have HLT:=hid (HA.out.lt hlt)
     have HGT:=hid (HA.out.gt hlt)
     have HEQ:=hid (HA.out.eq hlt)
     have hcm:=HM.out m[k] (List.getElem_mem hlt)
     generalize m[k]=c at *
     have c2:(0:Int)≤(c:Int):=by omega
     have c3:(c:Int)≤1114111:=by omega
     rcases Nat.lt_trichotomy c s with h | h | h
     ·have HX:=hid (HLT.out h)
      have g1:(c:Int) < (s:Int):=by omega
      have g2:((c:Int)==(s:Int))=false:=by rw [beq_eq_false_iff_ne];omega
      clear h hcm hlt hk hst hbi hdn HLT HGT HEQ
      go_wp2_with fail
      go_roundw
      case rel=>exact ⟨zs,k+1,delta'+1,bias',done',by go_num,rfl,rfl,by go_num,HOz.out,HBz.out,HX.out⟩
      case measure=>have:=HK.out;simp [intOf];omega
     ·have HX:=hid (HEQ.out h)
      have HN:=hid (fun w' ho hb=>number_callsPu u0 zs delta' bias' w' w0.heap.size ho hb HZL.out (by omega) (by omega))
      subst h
      by_cases hpd:done'=plain
      ·subst hpd
       rw [decide_eq_true rfl] at HX
       have HAd:=hid (fun w'=>adapt_calls delta' (done'+1) true w' (by omega) (by omega) (by omega))
       rw [Int.natCast_add] at HAd
       clear hcm hlt hk hst hbi hdn HLT HGT HEQ
       go_wp2_with fail
       refine (HN.out _ HOz.out HSz.out).mono ?_
       rintro e w1 ⟨⟨v',rfl,ho1⟩,hb1⟩
       have HO1:=hid ho1
       have HB1:=hid (HBz.out.trans hb1)
       clear ho1 hb1 HN hck
       go_wp2_with fail
       refine (HAd.out _).mono ?_
       rintro e w2 ⟨rfl,rfl⟩
       go_wp2_with fail
       go_roundw
       case rel=>exact ⟨zs++(num bias' delta').map letter,k+1,0,_,done'+1,rfl,rfl,by go_num,by go_num,HO1.out,HB1.out,HX.out⟩
       case measure=>have:=HK.out;simp [intOf];omega
      ·have q:((done':Int)==(plain:Int))=false:=by rw [beq_eq_false_iff_ne];omega
       have q':((done':Int)+1==(plain:Int)+1)=false:=by rw [beq_eq_false_iff_ne];omega
       rw [decide_eq_false hpd] at HX
       have HAd:=hid (fun w'=>adapt_calls delta' (done'+1) false w' (by omega) (by omega) (by omega))
       rw [Int.natCast_add] at HAd
       clear hcm hlt hk hst hbi hdn HLT HGT HEQ hpd
       go_wp2_with fail
       refine (HN.out _ HOz.out HSz.out).mono ?_
       rintro e w1 ⟨⟨v',rfl,ho1⟩,hb1⟩
       have HO1:=hid ho1
       have HB1:=hid (HBz.out.trans hb1)
       clear ho1 hb1 HN hck
       go_wp2_with fail
       refine (HAd.out _).mono ?_
       rintro e w2 ⟨rfl,rfl⟩
       go_wp2_with fail
       go_roundw
       case rel=>exact ⟨zs++(num bias' delta').map letter,k+1,0,_,done'+1,rfl,rfl,by go_num,by go_num,HO1.out,HB1.out,HX.out⟩
       case measure=>have:=HK.out;simp [intOf];omega
     ·have HX:=hid (HGT.out h)
      have g1:¬(c:Int) < (s:Int):=by omega
      have g2:((c:Int)==(s:Int))=false:=by rw [beq_eq_false_iff_ne];omega
      clear h hcm hlt hk hst hbi hdn HLT HGT HEQ
      go_wp2_with fail
      go_roundw
      case rel=>exact ⟨zs,k+1,delta',bias',done',rfl,rfl,rfl,by go_num,HOz.out,HBz.out,HX.out⟩
      case measure=>have:=HK.out;simp [intOf];omega
    ·have hkl:k=m.length:=by omega
     subst hkl
     obtain ⟨_,hdd,f',hE'⟩:=HQ7.out zs delta' bias' done' HA.out
     have HE':=hid hE'
     have HDD:=hid hdd
     have hd2:done'≤m.length:=by rw [hE'.done];exact List.countP_le_length
     have HD2:=hid hd2
     have k2:¬(m.length:Int) < (m.length:Int):=by omega
     clear hE' hdd hd2 hlt hk hst hbi hdn
     go_wp2_with fail
     go_roundw
     case rel=>exact ⟨zs,delta'+1,bias',s+1,done',f',by go_num,rfl,by go_num,rfl,HOz.out,HBz.out,HE'.out⟩
     case measure=>have:=HDD.out;have:=HD2.out;simp [intOf];omega
  ·have HFy:Hid (F=ys):=by
    show _=_
    have:=HEy.out.out
    rwa [encD_stop _ _ _ _ _ _ _ (by omega),List.map_nil,List.append_nil] at this
   have g:¬(done:Int) < (m.length:Int):=by omega
   clear hlt hdle
   go_wp2_with fail
   go_ret
   exact ⟨⟨_,rfl,by rw [HFy.out];exact HOy.out⟩,HBy.out⟩
end Go.Proofs.YtigfgloenjoeoaaGreatDoor
namespace Go.Proofs.YtigfgloenjoeoaaGreatDoor
open Go.RowKit
def low (m:List Nat):List UInt8:=(m.filter (· < 128)).map b8
def enc (m:List Nat):List UInt8:=low m++(if m.countP (· < 128)=0 then [] else [45])++(encD m (m.countP (· < 128)) m.length 0 72 128 (m.countP (· < 128))).map letter
def nats (l:List Int):List Nat:=l.map Int.toNat
def encR (l:List Int):ByteArray×Int:=if 256 < l.length then (strOf [],11) else if l.all isS then (strOf (enc (nats l)),0) else (strOf [],1)
theorem encR_long {l:List Int} (h:256 < l.length):encR l=(strOf [],11):=by unfold encR;rw [if_pos h]
theorem encR_bad {l:List Int} (h:¬256 < l.length) (hb:l.all isS=false):encR l=(strOf [],1):=by unfold encR;rw [if_neg h,hb];rfl
theorem encR_ok {l:List Int} (h:¬256 < l.length) (hb:l.all isS=true):encR l=(strOf (enc (nats l)),0):=by unfold encR;rw [if_neg h,hb];rfl
theorem isS_nat {c:Int} (h:isS c=true):((c.toNat:Nat):Int)=c:=by have:=isS_iff.1 h;omega
theorem nats_map {l:List Int} (h:l.all isS=true):(nats l).map (fun n:Nat=>(n:Int))=l:=by
 unfold nats
 rw [List.map_map]
 refine (List.map_congr_left fun c hc=>?_).trans (List.map_id _)
 exact isS_nat (List.all_eq_true.1 h c hc)
theorem nats_row {l:List Int} {w:World} {v:Value} (h:l.all isS=true) (hv:IRow w v l):NRow w v (nats l):=by
 obtain ⟨a,cap,rfl,h1,h2,h3⟩:=hv
 have hln:(nats l).length=l.length:=by simp [nats]
 refine ⟨a,cap,by rw [hln],by omega,h2,fun hne=>?_⟩
 obtain ⟨b,off,rfl,hb,hc⟩:=h3 (by intro e;subst e;exact hne rfl)
 refine ⟨b,off,rfl,hb,fun i hi=>?_⟩
 rw [hc i (by omega)]
 have:(nats l)[i]=(l[i]'(by omega)).toNat:=by simp [nats]
 rw [this]
 show some (Value.int .i64 _)=some (Value.int .i64 _)
 rw [isS_nat (List.all_eq_true.1 h _ (List.getElem_mem _))]
theorem nats_le {l:List Int} (h:l.all isS=true):∀c∈nats l,isS (c:Int)=true∧c≤1114111:=by
 intro c hc
 obtain ⟨d,hd,rfl⟩:=List.mem_map.1 hc
 have h1:=List.all_eq_true.1 h d hd
 rw [isS_nat h1]
 have:=isS_iff.1 h1
 exact ⟨h1,by omega⟩
theorem low_snoc (l:List Int) (k:Nat) (h:k < l.length):low (nats (l.take (k+1)))=low (nats (l.take k))++(if l[k].toNat < 128 then [b8 l[k].toNat] else []):=by
 unfold low nats
 rw [List.take_succ_eq_append_getElem h,List.map_append,List.filter_append,List.map_append]
 congr 1
 by_cases hc:l[k].toNat < 128
 ·simp [hc]
 ·simp [hc]
theorem low_len (m:List Nat):(low m).length=m.countP (· < 128):=by unfold low;rw [List.length_map,List.countP_eq_length_filter]
theorem low_le (m:List Nat):(low m).length≤m.length:=by rw [low_len];exact List.countP_le_length
theorem nats_take_len (l:List Int) (k:Nat):(nats (l.take k)).length≤l.length:=by unfold nats;rw [List.length_map,List.length_take];omega
theorem pencode_calls (v:Value) (l:List Int) (w:World) (hv:IRow w v l) :
 Calls Tryz.prog 178 #[v] w fun e w'=>e=.returned (.tuple #[.string (encR l).1,.int .i64 (encR l).2])∧Below w.heap.size w w':=by
 have HV:=hid hv
 obtain ⟨a,cap,rfl,h1,h2,h3⟩:=hv
 unfold maxLen at h2
 have l0:(l.length:Int)≤(cap:Int):=by omega
 have cp:(cap:Int)≤9223372036854775807:=by omega
 clear h3
 by_cases hlong:256 < l.length
 ·rw [encR_long hlong]
  have g:(256:Int) < (l.length:Int):=by omega
  clear hlong h1 h2
  go_enter Tryz.func178,Tryz.ntmps178
  go_wp2_with fail
  go_ret2
  exact ⟨rfl,Below.refl _ _⟩
 ·have HLG:=hid hlong
  obtain ⟨R,hR⟩:∃R,R=encR l:=⟨_,rfl⟩
  rw [← hR]
  have HR:=hid hR
  have g:¬(256:Int) < (l.length:Int):=by omega
  have l1:(l.length:Int)≤256:=by omega
  clear hlong h1 h2 hR
  go_enter Tryz.func178,Tryz.ntmps178
  go_wp2_with fail
  go_loopw [4,13] (fun vo vi wr=>∃k:Nat,k≤l.length∧vi=.int .i64 (k:Int)∧BOwn wr w.heap.size vo (low (nats (l.take k)))∧Below w.heap.size w wr∧(l.take k).all isS=true) (fun _ vi _=>l.length-(intOf vi).toNat)
  case atStart=>exact ⟨0,Nat.zero_le _,rfl,Own.nil _ _ _ _,Below.refl _ _,rfl⟩
  case round =>
   obtain ⟨k,hk,rfl,ho,hb,hall⟩:=hrel
   have HO:=hid ho
   have HB:=hid hb
   have HA:=hid hall
   have HSz:Hid (w.heap.size≤wr.heap.size):=hb.size
   have k0:(0:Int)≤(k:Int):=by omega
   have HLL:Hid ((low (nats (l.take k))).length≤256):=by
    show _≤_
    have h1:=low_le (nats (l.take k))
    have h2:=nats_take_len l k
    have:=HLG.out
    omega
   clear ho hb hall
   by_cases hlt:k < l.length
   ·obtain ⟨b,off,rfl,hck⟩:=HV.out.open HB.out k hlt
    have k1:(k:Int) < (l.length:Int):=by omega
    have HK:=hid hlt
    have HSn:=hid (low_snoc l k hlt)
    have HAs:=hid (all_snoc l k hlt)
    have HAn:=hid (all_not l k hlt)
    generalize l[k]=c at *
    have HSc:=hid (fun w'=>scalar_calls c w')
    by_cases hs:isS c=true
    ·have hc1:=isS_iff.1 hs
     obtain ⟨n,rfl⟩:∃n:Nat,c=(n:Int):=⟨c.toNat,by omega⟩
     rw [Int.toNat_natCast] at HSn
     have HN:Hid ((l.take (k+1)).all isS=true):=by show _=_;rw [HAs.out,HA.out,hs];rfl
     have n0:(0:Int)≤(n:Int):=by omega
     have n1:(n:Int)≤1114111:=by omega
     rw [hs] at HSc
     by_cases hn:n < 128
     ·rw [if_pos hn] at HSn
      have e0:=b8_nat n (by omega)
      generalize b8 n=x at *
      obtain ⟨v',w',hr,ho',hg⟩:=append_run (HO.out.alloc (.cells #[.int .u8 (x.toNat:Int)] 5)) (Row.lit fb wr [x] 5 (0,0) (by simp)) (by have:=HLL.out;simp;omega) (by have:=HSz.out;simp;omega)
      have HO2:=hid ho'
      have HB2:=hid ((HB.out.alloc HSz.out (.cells #[.int .u8 (x.toNat:Int)] 5)).grown hg (by have:=HSz.out;simp;omega) (Own.lt HO.out))
      rw [e0] at hr
      have g1:(n:Int) < 128:=by omega
      clear ho' hg e0 hn hs hc1 HAs HAn hlt hk
      go_wp2_with fail
      refine (HSc.out _).mono ?_
      rintro e w1 ⟨rfl,rfl⟩
      go_wp2_with (at_builtin;go_must (refine wpList_append_run hr rfl _ _ rfl rfl rfl rfl ?_))
      go_roundw
      case rel=>exact ⟨k+1,HK.out,by go_num,by rw [HSn.out];exact HO2.out,HB2.out,HN.out⟩
      case measure=>have:=HK.out;simp [intOf];omega
     ·rw [if_neg hn,List.append_nil] at HSn
      have g1:¬(n:Int) < 128:=by omega
      clear hn hs hc1 HAs HAn hlt hk
      go_wp2_with fail
      refine (HSc.out _).mono ?_
      rintro e w1 ⟨rfl,rfl⟩
      go_wp2_with fail
      go_roundw
      case rel=>exact ⟨k+1,HK.out,by go_num,by rw [HSn.out];exact HO.out,HB.out,HN.out⟩
      case measure=>have:=HK.out;simp [intOf];omega
    ·have hs':isS c=false:=by simpa using hs
     have HX:Hid (R=(strOf [],1)):=by show _=_;rw [HR.out,encR_bad HLG.out (HAn.out hs')]
     rw [hs'] at HSc
     clear hs hs' HAs HAn hlt hk HSn
     go_wp2_with fail
     refine (HSc.out _).mono ?_
     rintro e w1 ⟨rfl,rfl⟩
     go_wp2_with fail
     go_ret2
     exact ⟨by rw [HX.out];rfl,HB.out⟩
   ·have hkl:k=l.length:=by omega
    subst hkl
    rw [List.take_length] at HO HA HLL
    have HX:Hid (R=(strOf (enc (nats l)),0)):=by show _=_;rw [HR.out,encR_ok HLG.out HA.out]
    have HNR:=hid (nats_row HA.out HV.out)
    have HNL:=hid (nats_le HA.out)
    have hnl:(nats l).length=l.length:=by simp [nats]
    have HD:=hid (fun vo xs w' ho hb hx=>deltas_calls w _ (nats l) HNR.out (by have:=HLG.out;omega) (fun c hc=>(HNL.out c hc).2) vo xs w' ho hb hx ((low (nats l)).length) (low_len _))
    have hOW:=HO.out
    rcases hOW.row with ⟨a',cap',hE0,hE1,hE2,hE3⟩
    subst hE0
    unfold maxLen at hE2
    have r0:((low (nats l)).length:Int)≤(cap':Int):=by omega
    have r1:(cap':Int)≤9223372036854775807:=by omega
    have r2:((low (nats l)).length:Int)≤256:=by have:=HLL.out;omega
    have HENC:Hid (enc (nats l)=low (nats l)++(if (low (nats l)).length=0 then [] else [45])++(encD (nats l) (low (nats l)).length (nats l).length 0 72 128 (low (nats l)).length).map letter):=by show _=_;unfold enc;rw [low_len]
    have k2:¬(l.length:Int) < (l.length:Int):=by omega
    clear hOW hE1 hE2 hE3 hk hlt
    generalize low (nats l)=L at *
    by_cases hz:L.length=0
    ·have HE:Hid (enc (nats l)=L++(encD (nats l) L.length (nats l).length 0 72 128 L.length).map letter):=by show _=_;rw [HENC.out,if_pos hz,List.append_nil]
     have g3:¬(0:Int) < (L.length:Int):=by omega
     clear hz HENC hnl
     go_wp2_with fail
     refine (HD.out _ _ _ HO.out HB.out (by have:=HLL.out;omega)).mono ?_
     rintro e w1 ⟨⟨v',rfl,ho1⟩,hb1⟩
     have hs:=run_string ho1.row
     have HB1:=hid hb1
     rw [← HE.out] at hs
     clear ho1 hb1
     go_wp2_with fail
     go_ret2
     exact ⟨by rw [HX.out];rfl,HB1.out⟩
    ·have HE:Hid (enc (nats l)=L++[45]++(encD (nats l) L.length (nats l).length 0 72 128 L.length).map letter):=by show _=_;rw [HENC.out,if_neg hz]
     obtain ⟨v',w',hr,ho',hg⟩:=append_run (HO.out.alloc (.cells #[.int .u8 45] 5)) (Row.lit fb wr [45] 5 (0,0) (by simp)) (by have:=HLL.out;simp;omega) (by have:=HSz.out;simp;omega)
     have HO2:=hid ho'
     have HB2:=hid ((HB.out.alloc HSz.out (.cells #[.int .u8 45] 5)).grown hg (by have:=HSz.out;simp;omega) (Own.lt HO.out))
     have g3:(0:Int) < (L.length:Int):=by omega
     clear hz HENC hnl ho' hg
     go_wp2_with (at_builtin;go_must (refine wpList_append_run hr rfl _ _ rfl rfl rfl rfl ?_))
     refine (HD.out _ _ _ HO2.out HB2.out (by have:=HLL.out;simp;omega)).mono ?_
     rintro e w1 ⟨⟨v',rfl,ho1⟩,hb1⟩
     have hs:=run_string ho1.row
     have HB1:=hid hb1
     rw [← HE.out] at hs
     clear ho1 hb1
     go_wp2_with fail
     go_ret2
     exact ⟨by rw [HX.out];rfl,HB1.out⟩
theorem text_sofar (l:List Int) (k:Nat) (hl:l.length≤100000):(encL ((l.take k).map fix)).length≤400000:=by
 have:=encL_len ((l.take k).map fix)
 rw [List.length_map,List.length_take] at this
 omega
theorem fix_yes {c:Int} (h:isS c=true):fix c=c:=by unfold fix;rw [if_pos h]
theorem fix_no {c:Int} (h:isS c=false):fix c=65533:=by unfold fix;rw [if_neg (by rw [h];decide)]
theorem text_calls (v:Value) (l:List Int) (w:World) (hv:IRow w v l) (hl:l.length≤100000) :
 Calls Tryz.prog 128 #[v] w fun e w'=>e=.returned (.string (strOf (textL l)))∧Below w.heap.size w w':=by
 obtain ⟨a,cap,rfl,h1,h2,h3⟩:=hv
 have hmk:=makeB l.length (by omega)
 have H3:=hid h3
 have HL:=hid hl
 clear h3 hl
 unfold maxLen at h2
 go_enter Tryz.func128,Tryz.ntmps128
 go_wp2
 go_loopw [3,11] (fun v i wr=>∃k:Nat,k≤l.length∧i=.int .i64 k∧BOwn wr w.heap.size v (encL ((l.take k).map fix))∧Below w.heap.size w wr) (fun _ i _=>l.length-(intOf i).toNat)
 case atStart=>exact ⟨0,Nat.zero_le _,rfl,Own.made fb 5 w _ _ (size_madeCells _ _) (by have:=HL.out;omega),(Below.refl _ _).alloc (Nat.le_refl _) _⟩
 case round =>
  obtain ⟨k,hk,rfl,ho,hb⟩:=hrel
  clear hmk
  by_cases hlt:k < l.length
  ·obtain ⟨b,off,rfl,hbl,hc⟩:=H3.out (by intro h;simp [h] at hlt)
   have hck:wr.cell? ⟨b,off+k,none⟩=some (.int .i64 l[k]):=(hb.cell (p:=⟨b,off+k,none⟩) hbl).trans (hc k hlt)
   clear hc
   have HN:=hid (text_snoc l k hlt)
   have HS:=hid hb.size
   have HE:=hid (text_sofar l k HL.out)
   have HO:=hid ho
   have HB:=hid hb
   clear ho hb
   generalize l[k]=c at *
   have k1:(k:Int) < (l.length:Int):=by omega
   go_wp2_with fail
   refine (scalar_calls _ _).mono ?_
   rintro e w1 ⟨rfl,rfl⟩
   cases hs:isS c with
   | false =>
     rw [fix_no hs] at HN
     have HC:=hid (appendSign_calls _ _ 65533 w1 _ HO.out HS.out (by have:=HE.out;omega) (by decide))
     clear hs
     go_wp2_with fail
     refine HC.out.mono ?_
     rintro e w2 ⟨⟨v2,rfl,ho2⟩,hb2⟩
     have HO2:=hid ho2
     have HB2:=hid (HB.out.trans hb2)
     clear ho2 hb2 HO HB hck
     go_wp2_with fail
     go_roundw
     case rel=>exact ⟨k+1,by omega,by go_num,by rw [HN.out];exact HO2.out,HB2.out⟩
     case measure=>simp [intOf];omega
   | true =>
     rw [fix_yes hs] at HN
     have hc:=isS_iff.1 hs
     obtain ⟨n,rfl⟩:=Int.eq_ofNat_of_zero_le hc.1
     have HC:=hid (appendSign_calls _ _ n w1 _ HO.out HS.out (by have:=HE.out;omega) (by omega))
     clear hs hc
     go_wp2_with fail
     refine HC.out.mono ?_
     rintro e w2 ⟨⟨v2,rfl,ho2⟩,hb2⟩
     have HO2:=hid ho2
     have HB2:=hid (HB.out.trans hb2)
     clear ho2 hb2 HO HB hck
     go_wp2_with fail
     go_roundw
     case rel=>exact ⟨k+1,by omega,by go_num,by rw [HN.out];exact HO2.out,HB2.out⟩
     case measure=>simp [intOf];omega
  ·have hr:=run_string (by have:=ho.row;rwa [List.take_of_length_le (by omega)] at this:BRow wr _ (textL l))
   have HB:=hid hb
   clear ho hb
   go_wp2
   go_ret
   exact ⟨rfl,HB.out⟩
theorem hexV_lt {n d:Nat} (h:hexV n=some d):d < 16:=by
 unfold hexV at h
 split at h
 ·simp at h;omega
 ·split at h
  ·simp at h;omega
  ·split at h
   ·simp at h;omega
   ·cases h
theorem digit_yes (n d:Nat) (w:World) (hn:n < 256) (h:hexV n=some d):Calls Tryz.prog 159 #[.int .u8 (n:Int)] w fun e w'=>e=.returned (.tuple #[.int .u8 (d:Int),.bool true])∧w'=w:=by
 unfold hexV at h
 by_cases h1:48≤n∧n≤57
 ·rw [if_pos h1] at h
  obtain ⟨g1,g2⟩:=h1
  have hd:(n:Int)-48=(d:Int):=by simp at h;omega
  clear h
  go_enter Tryz.func159,Tryz.ntmps159
  go_wp2
  go_ret2
  exact ⟨rfl,rfl⟩
 ·rw [if_neg h1] at h
  by_cases h2:97≤n∧n≤102
  ·rw [if_pos h2] at h
   obtain ⟨g1,g2⟩:=h2
   have hd:(n:Int)-97+10=(d:Int):=by simp at h;omega
   have g3:¬(n:Int)≤57:=by omega
   have g4:¬(n:Int)≤70:=by omega
   clear h h1
   go_enter Tryz.func159,Tryz.ntmps159
   go_wp2
   go_ret2
   exact ⟨rfl,rfl⟩
  ·rw [if_neg h2] at h
   by_cases h3:65≤n∧n≤70
   ·rw [if_pos h3] at h
    obtain ⟨g1,g2⟩:=h3
    have hd:(n:Int)-65+10=(d:Int):=by simp at h;omega
    have g3:¬(n:Int)≤57:=by omega
    clear h h1 h2
    go_enter Tryz.func159,Tryz.ntmps159
    go_wp2
    go_ret2
    exact ⟨rfl,rfl⟩
   ·rw [if_neg h3] at h
    cases h
theorem digit_no (n:Nat) (w:World) (hn:n < 256) (h:hexV n=none):Calls Tryz.prog 159 #[.int .u8 (n:Int)] w fun e w'=>e=.returned (.tuple #[.int .u8 0,.bool false])∧w'=w:=by
 unfold hexV at h
 by_cases h1:48≤n∧n≤57
 ·rw [if_pos h1] at h;cases h
 ·rw [if_neg h1] at h
  by_cases h2:97≤n∧n≤102
  ·rw [if_pos h2] at h;cases h
  ·rw [if_neg h2] at h
   by_cases h3:65≤n∧n≤70
   ·rw [if_pos h3] at h;cases h
   ·clear h
    have hc:n < 48∨(57 < n∧n < 65)∨(70 < n∧n < 97)∨102 < n:=by omega
    clear h1 h2 h3
    rcases hc with g | ⟨g1,g2⟩ | ⟨g1,g2⟩ | g
    all_goals
     go_enter Tryz.func159,Tryz.ntmps159
     go_wp2
     go_ret2
     exact ⟨rfl,rfl⟩
theorem u8pack (h l:Nat) (hh:h < 16) (hl:l < 16):bits .or .u8 ((h:Int) * 16) (l:Int)=((UInt8.ofNat (h * 16+l)).toNat:Int):=by
 have e:(UInt8.ofNat (h * 16+l)).toNat=h * 16+l:=by simp;omega
 have:=Nat.two_pow_add_eq_or_of_lt (i:=4) (show l < 2^4 by omega) h
 rw [e,show h * 16+l=h * 16 ||| l by rw [Nat.mul_comm h 16];exact this]
 exact u8_or_nat (h * 16) l (by omega) (by omega)
def nextR:List UInt8→UInt8×Nat
 | []=>(0,0)
 | c::r=>if c=37 then (match r with
    | a::b::_=>(match two a b with
      | some x=>(x,3)
      | none=>(c,1))
    | _=>(c,1)) else (c,1)
theorem nextR_plain {c:UInt8} {r:List UInt8} (h:c≠37):nextR (c::r)=(c,1):=if_neg h
theorem nextR_some {a b:UInt8} {r:List UInt8} {x:UInt8} (h:two a b=some x):nextR (37::a::b::r)=(x,3):=by
 show (if (37:UInt8)=37 then (match two a b with
  | some x=>(x,3)
  | none=>((37:UInt8),1)) else (37,1))=_
 rw [if_pos rfl,h]
theorem nextR_none {a b:UInt8} {r:List UInt8} (h:two a b=none):nextR (37::a::b::r)=(37,1):=by
 show (if (37:UInt8)=37 then (match two a b with
  | some x=>(x,3)
  | none=>((37:UInt8),1)) else (37,1))=_
 rw [if_pos rfl,h]
theorem two_some {a b:UInt8} {x y:Nat} (h:hexV a.toNat=some x) (k:hexV b.toNat=some y):two a b=some (UInt8.ofNat (x * 16+y)):=by unfold two;rw [h,k]
theorem two_noneL {a b:UInt8} (h:hexV a.toNat=none):two a b=none:=by unfold two;rw [h]
theorem two_noneR {a b:UInt8} (h:hexV b.toNat=none):two a b=none:=by
 unfold two
 rw [h]
 cases hexV a.toNat<;>rfl
theorem unR_next {l:List UInt8} (h:l≠[]):unR l=(nextR l).1::unR (l.drop (nextR l).2):=by
 match l,h with
 | c::r,_ =>
   by_cases hc:c=37
   ·subst hc
    match r with
    | []=>rfl
    | [a]=>rfl
    | a::b::r' =>
      cases ht:two a b with
      | some x=>rw [unR_two ht,nextR_some ht];rfl
      | none=>rw [unR_not ht,nextR_none ht];rfl
   ·rw [unR_plain hc,nextR_plain hc]
    rfl
theorem nextR_size {l:List UInt8} (h:l≠[]):1≤(nextR l).2∧(nextR l).2≤l.length:=by
 match l,h with
 | c::r,_ =>
   by_cases hc:c=37
   ·subst hc
    match r with
    | []=>exact ⟨Nat.le_refl _,Nat.le_refl _⟩
    | [a]=>exact ⟨Nat.le_refl _,by show 1≤2;decide⟩
    | a::b::r' =>
      cases ht:two a b with
      | some x=>rw [nextR_some ht];simp
      | none=>rw [nextR_none ht];simp
   ·rw [nextR_plain hc]
    simp
theorem bytes_num (s:ByteArray):s.data.toList.length=s.size:=by
 show s.data.toList.length=s.data.size
 rw [Array.length_toList]
theorem bytes_at (s:ByteArray) (k:Nat) (h:k < s.size):s.data.toList[k]? = some s[k]:=by
 rw [List.getElem?_eq_getElem (by rw [bytes_num];exact h)];rfl
theorem bytes_three (s:ByteArray) (h:3≤s.size):∃r,s.data.toList=s[0]::s[1]::s[2]::r:=by
 have h0:=bytes_at s 0 (by omega)
 have h1:=bytes_at s 1 (by omega)
 have h2:=bytes_at s 2 (by omega)
 revert h0 h1 h2
 generalize s[0]=a
 generalize s[1]=b
 generalize s[2]=c
 generalize s.data.toList=l
 intro h0 h1 h2
 match l,h0,h1,h2 with
 | x::y::z::r,h0,h1,h2 =>
   simp at h0 h1 h2
   subst h0 h1 h2
   exact ⟨r,rfl⟩
 | [x,y],_,_,h2=>simp at h2
 | [x],_,h1,_=>simp at h1
 | [],h0,_,_=>simp at h0
theorem bytes_one (s:ByteArray) (h:0 < s.size):∃r,s.data.toList=s[0]::r∧r.length+1=s.size:=by
 have h0:=bytes_at s 0 h
 have hl:=bytes_num s
 revert h0 hl
 generalize s[0]=a
 generalize s.data.toList=l
 intro h0 hl
 match l,h0,hl with
 | x::r,h0,hl =>
   simp at h0
   subst h0
   exact ⟨r,rfl,by rw [← hl];rfl⟩
 | [],h0,_=>simp at h0
theorem u8_eq {a b:UInt8} (h:a.toNat=b.toNat):a=b:=UInt8.toNat_inj.1 h
theorem next_callsPc (s:ByteArray) (w:World) (hs:0 < s.size) (hm:s.size≤100000) :
 Calls Tryz.prog 110 #[.string s] w fun e w'=>e=.returned (.tuple #[.int .u8 ((nextR s.data.toList).1.toNat:Int),.int .i64 ((nextR s.data.toList).2:Int)])∧w'=w:=by
 obtain ⟨r,hr,hrl⟩:=bytes_one s hs
 obtain ⟨z,hz⟩:∃z,s[0].toNat=z:=⟨_,rfl⟩
 have z9:(z:Int) < 256:=by have:=byte_lt s[0];omega
 have z0:(0:Int)≤(z:Int):=by omega
 have p0:(0:Int) < (s.size:Int):=by omega
 by_cases h37:z=37
 ·have HC:Hid (s[0]=37):=u8_eq (by rw [hz,h37];rfl)
  by_cases h3:3≤s.size
  ·obtain ⟨r',hr'⟩:=bytes_three s h3
   have pk1:1 < s.size:=by omega
   have pk2:2 < s.size:=by omega
   obtain ⟨x,hx⟩:∃x,(s[1]'pk1).toNat=x:=⟨_,rfl⟩
   obtain ⟨y,hy⟩:∃y,(s[2]'pk2).toNat=y:=⟨_,rfl⟩
   rw [HC.out] at hr'
   have HN:Hid (s.data.toList=(37:UInt8)::s[1]'pk1::s[2]'pk2::r'):=hr'
   clear hr hrl hr' h3
   have x9:x < 256:=by have:=byte_lt s[1];omega
   have y9:y < 256:=by have:=byte_lt s[2];omega
   have T1:Hid (hexV x=none→two s[1] s[2]=none):=fun h=>two_noneL (by rw [hx];exact h)
   have T2:Hid (hexV y=none→two s[1] s[2]=none):=fun h=>two_noneR (by rw [hy];exact h)
   have T3:Hid (∀d1 d2,hexV x=some d1→hexV y=some d2→two s[1] s[2]=some (UInt8.ofNat (d1 * 16+d2))):=fun d1 d2 h k=>two_some (by rw [hx];exact h) (by rw [hy];exact k)
   have p3:¬(s.size:Int) < 3:=by omega
   have p1:(1:Int) < (s.size:Int):=by omega
   have p2:(2:Int) < (s.size:Int):=by omega
   subst h37
   clear z9 z0 HC
   have DY1:=hid (fun d (h:hexV x=some d) (w:World)=>digit_yes x d w x9 h)
   have DN1:=hid (fun (h:hexV x=none) (w:World)=>digit_no x w x9 h)
   have DY2:=hid (fun d (h:hexV y=some d) (w:World)=>digit_yes y d w y9 h)
   have DN2:=hid (fun (h:hexV y=none) (w:World)=>digit_no y w y9 h)
   clear x9 y9
   cases hvx:hexV x with
   | none =>
     have HX:Hid (nextR s.data.toList=(37,1)):=by
      show _=_
      rw [HN.out];exact nextR_none (T1.out hvx)
     have E1:=hid (DN1.out hvx)
     clear HN T1 T2 T3 DY1 DN1 hvx
     cases hvy:hexV y with
     | none =>
       have E2:=hid (DN2.out hvy)
       clear DY2 DN2 hvy
       go_enter Tryz.func110,Tryz.ntmps110
       go_wp2_with fail
       refine (E1.out _).mono ?_
       rintro e wz ⟨rfl,rfl⟩
       go_wp2_with fail
       refine (E2.out _).mono ?_
       rintro e wz ⟨rfl,rfl⟩
       go_wp2_with fail
       go_ret2
       exact ⟨by rw [HX.out];rfl,rfl⟩
     | some d2 =>
       have E2:=hid (DY2.out d2 hvy)
       clear DY2 DN2 hvy
       go_enter Tryz.func110,Tryz.ntmps110
       go_wp2_with fail
       refine (E1.out _).mono ?_
       rintro e wz ⟨rfl,rfl⟩
       go_wp2_with fail
       refine (E2.out _).mono ?_
       rintro e wz ⟨rfl,rfl⟩
       go_wp2_with fail
       go_ret2
       exact ⟨by rw [HX.out];rfl,rfl⟩
   | some d1 =>
     have E1:=hid (DY1.out d1 hvx)
     have hd1:=hexV_lt hvx
     clear DY1 DN1
     cases hvy:hexV y with
     | none =>
       have HX:Hid (nextR s.data.toList=(37,1)):=by
        show _=_
        rw [HN.out];exact nextR_none (T2.out hvy)
       have E2:=hid (DN2.out hvy)
       clear HN T1 T2 T3 DY2 DN2 hvy hvx
       go_enter Tryz.func110,Tryz.ntmps110
       go_wp2_with fail
       refine (E1.out _).mono ?_
       rintro e wz ⟨rfl,rfl⟩
       go_wp2_with fail
       refine (E2.out _).mono ?_
       rintro e wz ⟨rfl,rfl⟩
       go_wp2_with fail
       go_ret2
       exact ⟨by rw [HX.out];rfl,rfl⟩
     | some d2 =>
       have HX:Hid (nextR s.data.toList=(UInt8.ofNat (d1 * 16+d2),3)):=by
        show _=_
        rw [HN.out];exact nextR_some (T3.out d1 d2 hvx hvy)
       have E2:=hid (DY2.out d2 hvy)
       have hd2:=hexV_lt hvy
       have pk:=u8pack d1 d2 hd1 hd2
       clear HN T1 T2 T3 DY2 DN2 hvy hvx
       generalize UInt8.ofNat (d1 * 16+d2)=c at *
       go_enter Tryz.func110,Tryz.ntmps110
       go_wp2_with fail
       refine (E1.out _).mono ?_
       rintro e wz ⟨rfl,rfl⟩
       go_wp2_with fail
       refine (E2.out _).mono ?_
       rintro e wz ⟨rfl,rfl⟩
       go_wp2_with fail
       go_ret2
       exact ⟨by rw [HX.out];rfl,rfl⟩
  ·have HX:Hid (nextR s.data.toList=(37,1)):=by
    show _=_
    rw [hr,HC.out]
    match r,hrl with
    | [],_=>rfl
    | [a],_=>rfl
    | a::b::r',h=>exfalso;simp at h;omega
   have p3:(s.size:Int) < 3:=by omega
   subst h37
   clear hr hrl h3 z9 z0 HC
   go_enter Tryz.func110,Tryz.ntmps110
   go_wp2_with fail
   go_ret2
   exact ⟨by rw [HX.out];rfl,rfl⟩
 ·have HX:Hid (nextR s.data.toList=(s[0],1)):=by
   show _=_
   rw [hr,nextR_plain]
   intro e
   exact h37 (by rw [← hz,e];rfl)
  have q1:((z:Int) != 37)=true:=by rw [bne_iff_ne];omega
  have HZ:=hid hz
  clear hr hrl h37
  go_enter Tryz.func110,Tryz.ntmps110
  go_wp2_with fail
  go_ret2
  exact ⟨by rw [HX.out,HZ.out];rfl,rfl⟩
abbrev fsIp (l:List UInt8):Value:=.string (strOf l)
abbrev SRowIp (w:World) (v:Value) (ps:List (List UInt8)):Prop:=Row fsIp w v ps
abbrev SOwnIp (w:World) (base:Nat) (v:Value) (ps:List (List UInt8)):Prop:=Own fsIp 9 w base v ps
theorem str_data (L:List UInt8):(strOf L).data.toList=L:=rfl
theorem str_size (L:List UInt8):(strOf L).size=L.length:=rfl
theorem of_data (s:ByteArray):s=strOf s.data.toList:=rfl
theorem info_strIp:(Tryz.prog.info? 9).map (fun i=>(i.zero,i.size,i.bytes))=some (some (.string ⟨#[]⟩),1,16):=by kernel_rfl
theorem oneS_row (w:World) (l:List UInt8):SRowIp (w.alloc (.cells #[.string (strOf l)] 9)) (.slice (some ⟨w.heap.size,0,none⟩) 1 1) [l]:=Row.lit fsIp w [l] 9 (0,0) (by simp)
theorem cut_mid (s:ByteArray) (a b:Nat) (h:b≤s.size):s.extract a b=strOf ((s.data.toList.drop a).take (b-a)):=by
 apply ByteArray.ext
 rw [ByteArray.data_extract]
 apply Array.toList_inj.1
 rw [Array.toList_extract,List.extract_eq_take_drop]
 rfl
theorem digB_some {b d:Nat} {c:UInt8} (h:hexV c.toNat=some d):digB b c=decide (d < b):=by unfold digB;rw [h]
theorem digB_none {b:Nat} {c:UInt8} (h:hexV c.toNat=none):digB b c=false:=by unfold digB;rw [h]
theorem digs_hit {s:ByteArray} {b k:Nat} (h:k < s.size) (ha:digsR b (s.data.toList.take k)=true) (hb:digB b s[k]=true):digsR b (s.data.toList.take (k+1))=true:=by
 have hl:k < s.data.toList.length:=by rw [bytes_num];exact h
 unfold digsR at ha ⊢
 rw [List.take_succ_eq_append_getElem hl,List.all_append,ha]
 simp only [List.all_cons,List.all_nil,Bool.and_true,Bool.true_and]
 exact hb
theorem digs_miss {s:ByteArray} {b k:Nat} (h:k < s.size) (hb:digB b s[k]=false):digsR b s.data.toList=false:=by
 unfold digsR
 rw [List.all_eq_false]
 refine ⟨s[k],?_,by rw [hb];decide⟩
 have hl:k < s.data.toList.length:=by rw [bytes_num];exact h
 exact List.getElem_mem (l:=s.data.toList) (n:=k) hl
theorem digs_end {s:ByteArray} {b k:Nat} (h:¬k < s.size) (ha:digsR b (s.data.toList.take k)=true):digsR b s.data.toList=true:=by
 rw [List.take_of_length_le (by rw [bytes_num];omega)] at ha
 exact ha
theorem hexR_short {s:ByteArray} (h:¬2≤s.size):hexR s.data.toList=false:=by
 have hl:=bytes_num s
 revert hl
 generalize s.data.toList=l
 intro hl
 match l,hl with
 | [],_=>rfl
 | [a],_=>rfl
 | a::b::r,hl=>exfalso;simp at hl;omega
def wordsN:List (List Nat):=[[0,0,0,0],[4294967295,9223372036854775808,18446744073709551615,18446744073709551615],[5764607548804038655,9223372041149743104,18446744073709551615,18446744073709551615],[5764607583163777023,9223372036854775808,18446744073709551615,18446744073709551615],[5764608132919590911,9223372036854775808,18446744073709551615,18446744073709551615],[14987979620018552831,12105675803740602368,18446744073709551615,18446744073709551615],[18158654495175737343,13258597309286973441,18446744073709551615,18446744073709551615],[18158681364491141119,13258597309286973441,18446744073709551615,18446744073709551615],[18158685221371772927,17870283327714361345,18446744073709551615,18446744073709551615]]
def wordN (s q:Nat):Nat:=(wordsN.getD s []).getD q 0
theorem word_lt_all:(List.range 9).all (fun s=>(List.range 4).all fun q=>decide (wordN s q < 18446744073709551616))=true:=by decide +kernel
theorem word_lt {s q:Nat} (hs:s < 9) (hq:q < 4):wordN s q < 18446744073709551616:=by
 have h1:=List.all_eq_true.1 word_lt_all s (List.mem_range.2 hs)
 have h2:=List.all_eq_true.1 h1 q (List.mem_range.2 hq)
 simpa using h2
theorem word_bit_all:(List.range 9).all (fun s=>s==0||(List.range 256).all fun n=>(wordN s (n/64)/2^(n%64)%2==1)==inR (s:Int) n)=true:=by decide +kernel
theorem word_bit {s n:Nat} (hs:s < 9) (h1:1≤s) (hn:n < 256):(wordN s (n/64)/2^(n%64)%2==1)=inR (s:Int) n:=by
 have h:=List.all_eq_true.1 word_bit_all s (List.mem_range.2 hs)
 have hz:(s==0)=false:=by rw [beq_eq_false_iff_ne];omega
 rw [hz,Bool.false_or] at h
 have h2:=List.all_eq_true.1 h n (List.mem_range.2 hn)
 exact eq_of_beq h2
def TabPc (w:World):Prop:=∀s q,s < 9→q < 4→w.cell? ⟨2,s * 4+q,none⟩=some (.int .u64 (wordN s q:Nat))
theorem TabPc.pos {w:World} (h:TabPc w):2 < w.heap.size:=World.block_lt_of_cell? w _ (h 0 0 (by decide) (by decide))
theorem TabPc.below {w w':World} (h:TabPc w) (hb:Below w.heap.size w w'):TabPc w':=fun s q hs hq=>(hb.cell (p:=⟨2,s * 4+q,none⟩) h.pos).trans (h s q hs hq)
theorem u8m64 (n:Nat) (hn:n < 256):bits .and .u8 (n:Int) 63=((n%64:Nat):Int):=by
 rw [show (63:Int)=((63:Nat):Int) from rfl,u8_and_nat n 63 hn (by decide),Nat.and_two_pow_sub_one_eq_mod n 6]
theorem u64m1 (x:Nat) (hx:x < 18446744073709551616):bits .and .u64 (x:Int) 1=((x%2:Nat):Int):=by
 rw [show (1:Int)=((1:Nat):Int) from rfl,u64_and_nat x 1 hx (by decide),Nat.and_one_is_mod]
theorem nat_eq_one (y:Nat):((y:Int)==1)=(y==1):=by
 by_cases h:y=1
 ·subst h;rfl
 ·rw [beq_eq_false_iff_ne.2 h,beq_eq_false_iff_ne.2 (by omega)]
theorem in_other (set:Int) (n:Nat) (hn:n < 256) (w:World) (h:set < 1∨8 < set) :
 Calls Tryz.prog 116 #[.int .i64 set,.int .u8 (n:Int)] w fun e w'=>e=.returned (.bool (inR set n))∧w'=w:=by
 rw [inR_other h]
 rcases h with h | h
 ·go_enter Tryz.func116,Tryz.ntmps116
  go_wp2
  go_ret
  exact ⟨rfl,rfl⟩
 ·have h1:¬set < 1:=by omega
  go_enter Tryz.func116,Tryz.ntmps116
  go_wp2
  go_ret
  exact ⟨rfl,rfl⟩
theorem in_some (s n:Nat) (hs1:1≤s) (hs:s < 9) (hn:n < 256) (w:World) (ht:TabPc w) :
 Calls Tryz.prog 116 #[.int .i64 (s:Int),.int .u8 (n:Int)] w fun e w'=>e=.returned (.bool (inR (s:Int) n))∧w'=w:=by
 have HR:=hid (word_bit hs hs1 hn)
 obtain ⟨q,hq⟩:∃q,q=n/64:=⟨_,rfl⟩
 obtain ⟨m,hm⟩:∃m,m=n%64:=⟨_,rfl⟩
 rw [← hq,← hm] at HR
 have e1:(n:Int)/64=(q:Int):=by omega
 have e2:bits .and .u8 (n:Int) 63=(m:Int):=by rw [u8m64 n hn,hm]
 have q4:q < 4:=by omega
 have m64:m < 64:=by omega
 have ht':=ht s q hs q4
 have hw:=word_lt hs q4
 generalize wordN s q=t at *
 obtain ⟨x,hx⟩:∃x,x=t/2^m:=⟨_,rfl⟩
 have hxl:x < 18446744073709551616:=by rw [hx];exact Nat.lt_of_le_of_lt (Nat.div_le_self _ _) hw
 rw [← hx] at HR
 have e3:(t:Int)/2^m=(x:Int):=by rw [hx];simp
 have e4:=u64m1 x hxl
 obtain ⟨y,hy⟩:∃y,y=x%2:=⟨_,rfl⟩
 rw [← hy] at HR e4
 have g1:¬(s:Int) < 1:=by omega
 have g2:¬(8:Int) < (s:Int):=by omega
 have g3:(0:Int)≤(s:Int):=by omega
 have g4:(s:Int) < 9:=by omega
 have g5:(0:Int)≤(q:Int):=by omega
 have g6:(q:Int) < 4:=by omega
 have g7:(m:Int) < 64:=by omega
 have g8:(0:Int)≤(m:Int):=by omega
 clear hs1 hs hn q4 m64 ht hw hx hxl hy hq hm
 go_enter Tryz.func116,Tryz.ntmps116
 go_wp2
 go_ret
 exact ⟨by rw [← HR.out,← nat_eq_one y];rfl,rfl⟩
theorem in_calls (set:Int) (n:Nat) (hn:n < 256) (w:World) (ht:TabPc w) :
 Calls Tryz.prog 116 #[.int .i64 set,.int .u8 (n:Int)] w fun e w'=>e=.returned (.bool (inR set n))∧w'=w:=by
 by_cases h:set < 1∨8 < set
 ·exact in_other set n hn w h
 ·obtain ⟨s,rfl⟩:=Int.eq_ofNat_of_zero_le (a:=set) (by omega)
  exact in_some s n (by omega) (by omega) hn w ht
end Go.Proofs.YtigfgloenjoeoaaGreatDoor
