import Derived.Test.YtigfgloenjoeoaaGreatDoorLcBX
import Derived.Test.YtigfgloenjoeoaaGreatDoorLcBL
import Derived.MapKept
import Derived.Test.YtigfgloenjoeoaaGreatDoorLcBK
import Derived.Test.YtigfgloenjoeoaaGreatDoorLcAZ
import Derived.Test.YtigfgloenjoeoaaGreatDoorLcBI
import Derived.Test.YtigfgloenjoeoaaGreatDoorLcBP
import Derived.Test.YtigfgloenjoeoaaGreatDoorLcAC
import Derived.Deep.DeepMust
import Derived.Test.YtigfgloenjoeoaaGreatDoorLcBE
import Derived.Test.YtigfgloenjoeoaaGreatDoorLcBQ
import Derived.Test.YtigfgloenjoeoaaGreatDoorLcAY
import Derived.Great.BuildSlice
import Derived.Test.YtigfgloenjoeoaaGreatDoorLcBV
set_option linter.unusedVariables false
set_option linter.unusedSimpArgs false
set_option maxRecDepth 20000
set_option maxHeartbeats 16000000
namespace Go.Proofs.YtigfgloenjoeoaaGreatDoor
open Go.RowKit
theorem eq_hostD (d:Nat) (k:Int) (s:ByteArray) (n p0 p1 p2 p3 p4 p5 p6 p7:Nat) (k':Int) (s':ByteArray) (n' q0 q1 q2 q3 q4 q5 q6 q7:Nat) (w:World):(Op.equalIn (d+1+1+1) 26 (.agg #[.int .i64 k,.string s,.int .u32 (n:Int),.int .u16 (p0:Int),.int .u16 (p1:Int),.int .u16 (p2:Int),.int .u16 (p3:Int),.int .u16 (p4:Int),.int .u16 (p5:Int),.int .u16 (p6:Int),.int .u16 (p7:Int)]) (.agg #[.int .i64 k',.string s',.int .u32 (n':Int),.int .u16 (q0:Int),.int .u16 (q1:Int),.int .u16 (q2:Int),.int .u16 (q3:Int),.int .u16 (q4:Int),.int .u16 (q5:Int),.int .u16 (q6:Int),.int .u16 (q7:Int)])).run Tryz.prog w=.ok (sameV k s n p0 p1 p2 p3 p4 p5 p6 p7 k' s' n' q0 q1 q2 q3 q4 q5 q6 q7) w:=by
 have e8:=fun d w=>eq_arrD d (p0:Int) (p1:Int) (p2:Int) (p3:Int) (p4:Int) (p5:Int) (p6:Int) (p7:Int) (q0:Int) (q1:Int) (q2:Int) (q3:Int) (q4:Int) (q5:Int) (q6:Int) (q7:Int) w
 have u1:=Tryz.underlying3
 have u2:=Tryz.underlying9
 have u3:=Tryz.underlying22
 have a1:=Tryz.isAgg3
 have a2:=Tryz.isAgg9
 have a3:=Tryz.isAgg22
 have a4:=Tryz.isAgg24
 have z4:=Tryz.sizeOf24
 rw [run_equalIn_struct (P:=Tryz.prog) w (d+1+1) 26 _ _ (by kernel_rfl) (by kernel_rfl)]
 simp only [Program.fieldsOf,Tryz.underlying26]
 go_simp
 unfold sameV
 by_cases h1:k=k'
 ·by_cases h2:s.toList=s'.toList
  ·by_cases h3:(n:Int)=(n':Int)
   ·cases same8 (p0:Int) (p1:Int) (p2:Int) (p3:Int) (p4:Int) (p5:Int) (p6:Int) (p7:Int) (q0:Int) (q1:Int) (q2:Int) (q3:Int) (q4:Int) (q5:Int) (q6:Int) (q7:Int)<;>simp [h1,h2,h3]
   ·simp [h1,h2,h3]
  ·simp [h1,h2]
 ·simp [h1]
def sameQ (t:ByteArray) (k:Int) (s:ByteArray) (n p0 p1 p2 p3 p4 p5 p6 p7:Nat) (r:Int) (t':ByteArray) (k':Int) (s':ByteArray) (n' q0 q1 q2 q3 q4 q5 q6 q7:Nat) (r':Int):Bool:=t.toList==t'.toList&&(sameV k s n p0 p1 p2 p3 p4 p5 p6 p7 k' s' n' q0 q1 q2 q3 q4 q5 q6 q7&&r==r')
theorem eq_orgL (t:ByteArray) (k:Int) (s:ByteArray) (n p0 p1 p2 p3 p4 p5 p6 p7:Nat) (r:Int) (t':ByteArray) (k':Int) (s':ByteArray) (n' q0 q1 q2 q3 q4 q5 q6 q7:Nat) (r':Int) (w:World):(Op.equalIn 10000 OT (.agg #[.string t,.int .i64 k,.string s,.int .u32 (n:Int),.int .u16 (p0:Int),.int .u16 (p1:Int),.int .u16 (p2:Int),.int .u16 (p3:Int),.int .u16 (p4:Int),.int .u16 (p5:Int),.int .u16 (p6:Int),.int .u16 (p7:Int),.int .i64 r]) (.agg #[.string t',.int .i64 k',.string s',.int .u32 (n':Int),.int .u16 (q0:Int),.int .u16 (q1:Int),.int .u16 (q2:Int),.int .u16 (q3:Int),.int .u16 (q4:Int),.int .u16 (q5:Int),.int .u16 (q6:Int),.int .u16 (q7:Int),.int .i64 r'])).run Tryz.prog w=.ok (sameQ t k s n p0 p1 p2 p3 p4 p5 p6 p7 r t' k' s' n' q0 q1 q2 q3 q4 q5 q6 q7 r') w:=by
 have eh:=fun w=>eq_hostD 9996 k s n p0 p1 p2 p3 p4 p5 p6 p7 k' s' n' q0 q1 q2 q3 q4 q5 q6 q7 w
 have u1:=Tryz.underlying3
 have u2:=Tryz.underlying9
 have a1:=Tryz.isAgg3
 have a2:=Tryz.isAgg9
 have a4:=Tryz.isAgg26
 have z4:=Tryz.sizeOf26
 rw [show (10000:Nat)=9996+1+1+1+1 from rfl,run_equalIn_struct (P:=Tryz.prog) w (9996+1+1+1) 35 _ _ (by kernel_rfl) (by kernel_rfl)]
 simp only [Program.fieldsOf,Tryz.underlying35]
 go_simp
 unfold sameQ
 by_cases h1:t.toList=t'.toList
 ·cases sameV k s n p0 p1 p2 p3 p4 p5 p6 p7 k' s' n' q0 q1 q2 q3 q4 q5 q6 q7<;>by_cases h3:r=r'<;>simp [h1,h3]
 ·simp [h1]
def sameO (o p:OrgN):Bool:=sameQ (strOf o.1) o.2.1.1 (strOf o.2.1.2.1) o.2.1.2.2.1 (o.2.1.2.2.2.getD 0 0) (o.2.1.2.2.2.getD 1 0) (o.2.1.2.2.2.getD 2 0) (o.2.1.2.2.2.getD 3 0) (o.2.1.2.2.2.getD 4 0) (o.2.1.2.2.2.getD 5 0) (o.2.1.2.2.2.getD 6 0) (o.2.1.2.2.2.getD 7 0) o.2.2 (strOf p.1) p.2.1.1 (strOf p.2.1.2.1) p.2.1.2.2.1 (p.2.1.2.2.2.getD 0 0) (p.2.1.2.2.2.getD 1 0) (p.2.1.2.2.2.getD 2 0) (p.2.1.2.2.2.getD 3 0) (p.2.1.2.2.2.getD 4 0) (p.2.1.2.2.2.getD 5 0) (p.2.1.2.2.2.getD 6 0) (p.2.1.2.2.2.getD 7 0) p.2.2
theorem eq_orgV (o p:OrgN) (w:World):(Op.equalIn 10000 OT (orgV o) (orgV p)).run Tryz.prog w=.ok (sameO o p) w:=eq_orgL _ _ _ _ _ _ _ _ _ _ _ _ _ _ _ _ _ _ _ _ _ _ _ _ _ _ w
theorem list8 {l m:List Nat} (hl:l.length=8) (hm:m.length=8) (h:∀i,i < 8→l.getD i 0=m.getD i 0):l=m:=by
 refine List.ext_getElem (hl.trans hm.symm) (fun i h1 h2=>?_)
 have:=h i (by omega)
 rw [List.getD_eq_getElem?_getD,List.getD_eq_getElem?_getD,List.getElem?_eq_getElem h1,List.getElem?_eq_getElem h2] at this
 exact this
theorem sameO_iff {o p:OrgN} (ho:o.2.1.2.2.2.length=8) (hp:p.2.1.2.2.2.length=8):sameO o p=true↔o=p:=by
 unfold sameO sameQ
 rw [sameV_iff]
 simp only [Bool.and_eq_true,beq_iff_eq,ByteArray.toList_eq]
 constructor
 ·rintro ⟨h1,h2,h3⟩
  simp only [Prod.mk.injEq] at h2
  obtain ⟨k1,k2,k3,k4⟩:=h2
  simp only [List.cons.injEq,and_true] at k4
  obtain ⟨a0,a1,a2,a3,a4,a5,a6,a7⟩:=k4
  have h8:o.2.1.2.2.2=p.2.1.2.2.2:=list8 ho hp (fun i hi=>by
   match i,hi with
   | 0,_=>exact a0
   | 1,_=>exact a1
   | 2,_=>exact a2
   | 3,_=>exact a3
   | 4,_=>exact a4
   | 5,_=>exact a5
   | 6,_=>exact a6
   | 7,_=>exact a7
   | n+8,h=>exact absurd h (by omega))
  exact Prod.ext h1 (Prod.ext (Prod.ext k1 (Prod.ext k2 (Prod.ext k3 h8))) h3)
 ·rintro rfl
  exact ⟨rfl,rfl,rfl⟩
theorem sameO_self (o:OrgN):sameO o o=true:=by
 unfold sameO sameQ
 rw [sameV_iff]
 simp
end Go.Proofs.YtigfgloenjoeoaaGreatDoor
namespace Go.Proofs.YtigfgloenjoeoaaGreatDoor
open Go.RowKit Go.Shelf
theorem load_onX {ops:Array Oper} {rest:List Oper} {op:Oper} {a:Act} {w:World} {Q:Exit→Act→World→Prop} (hw:Region.wanted op (yielded ops a.tmps)=true) (ty:TypeId) (x:Operand) (ho:op.op=.load ty x)
 (b o:Nat) (hx:a.eval x=.pointer (some ⟨b,o,none⟩)) (cs:List Value) (d:TypeDesc) (hc:w.rangeAt b o cs)
 (hu:Tryz.prog.underlying ty=some d) (hd:d.isRow=true) (hi:(Tryz.prog.info? ty).map (·.size)=some cs.length)
 (h:wpList Tryz.prog ops Q rest (a.put op.dst (.agg cs.toArray)) w):wpList Tryz.prog ops Q (op::rest) a w:=by
 refine wpList_step fun K hK=>?_
 rw [if_pos hw]
 exact wp_load_mid ty x ho b o hx cs d hc hu hd hi (hK _ _ h)
def textN (o:OrgN):List UInt8:=((o.1++[58,47,47])++printR o.2.1)++(if o.2.2=0 then [] else 58::decI o.2.2)
theorem print4_lenY {n:Nat} (h:n < 4294967296):(print4R n).length≤100:=by
 unfold print4R joinC joinC joinC joinC
 have l1:=dec_len (x:=n/16777216) (by omega)
 have l2:=dec_len (x:=n/65536%256) (by omega)
 have l3:=dec_len (x:=n/256%256) (by omega)
 have l4:=dec_len (x:=n%256) (by omega)
 simp only [List.length_append,List.length_cons,List.length_nil]
 omega
theorem print_lenY {k:Int} {l:List UInt8} {n:Nat} {p:List Nat} (h8:p.length=8) (hx:∀x∈p,x < 65536) (hn:n < 4294967296) (hl:l.length≤100000):(printR (k,l,n,p)).length≤100100:=by
 by_cases h1:k=1∨k=4
 ·rw [print_name h1];omega
 ·by_cases h2:k=2
  ·subst h2;rw [print_four];have:=print4_lenY hn;omega
  ·by_cases h3:k=3
   ·subst h3;rw [print_six];have:=print6_len h8 hx;simp only [List.length_append,List.length_cons,List.length_nil];omega
   ·rw [not_or] at h1;rw [print_none h1.1 h2 h3 h1.2];exact Nat.zero_le _
theorem eightY {l:List Nat} (h:l.length=8):∃y0 y1 y2 y3 y4 y5 y6 y7,l=[y0,y1,y2,y3,y4,y5,y6,y7]:=by
 match l,h with
 | [y0,y1,y2,y3,y4,y5,y6,y7],_=>exact ⟨y0,y1,y2,y3,y4,y5,y6,y7,rfl⟩
theorem stext_calls (o:OrgN) (w:World) (k8:o.2.1.2.2.2.length=8) (kn:o.2.1.2.2.1 < 4294967296) (kx:∀x∈o.2.1.2.2.2,x < 65536) (h1:o.1.length≤100000) (h2:o.2.1.2.1.length≤100000) (hp0:-9223372036854775808≤o.2.2) (hp1:o.2.2≤9223372036854775807) (T:TabH w) :
 Calls Tryz.prog 20 #[.agg (orgC o).toArray] w fun e w'=>e=.returned (.string (strOf (textN o)))∧Below w.heap.size w w':=by
 obtain ⟨sch,⟨k,nm,fr,sx⟩,p⟩:=o
 obtain ⟨y0,y1,y2,y3,y4,y5,y6,y7,hsx⟩:=eightY k8
 change sx=_ at hsx
 subst hsx
 have hP:=print_lenY (k:=k) (l:=nm) k8 kx kn h2
 have HPr:Hid (∀w,TabH w→Calls Tryz.prog 33 #[.agg #[.int .i64 k,.string (strOf nm),.int .u32 (fr:Int),.int .u16 (y0:Int),.int .u16 (y1:Int),.int .u16 (y2:Int),.int .u16 (y3:Int),.int .u16 (y4:Int),.int .u16 (y5:Int),.int .u16 (y6:Int),.int .u16 (y7:Int)]] w fun e w'=>e=.returned (.string (strOf (printR (k,nm,fr,[y0,y1,y2,y3,y4,y5,y6,y7]))))∧Below w.heap.size w w'):=hid (fun w t=>hprint_calls k (strOf nm) fr y0 y1 y2 y3 y4 y5 y6 y7 w kn kx h2 t)
 have HIt:Hid (∀w,TabH w→Calls Tryz.prog 34 #[.int .i64 p] w fun e w'=>e=.returned (.string (strOf (decI p)))∧Below w.heap.size w w'):=hid (fun w t=>itoa_calls p hp0 hp1 w t.1)
 have hD:=decI_len hp0 hp1
 change (decI p).length≤65 at hD
 have HX:Hid (textN (sch,(k,nm,fr,[y0,y1,y2,y3,y4,y5,y6,y7]),p)=((sch++[58,47,47])++printR (k,nm,fr,[y0,y1,y2,y3,y4,y5,y6,y7]))++(if p=0 then [] else 58::decI p)):=hid rfl
 generalize textN (sch,(k,nm,fr,[y0,y1,y2,y3,y4,y5,y6,y7]),p)=X at *
 obtain ⟨P,hPe⟩:∃P,printR (k,nm,fr,[y0,y1,y2,y3,y4,y5,y6,y7])=P:=⟨_,rfl⟩
 obtain ⟨D,hDe⟩:∃D,decI p=D:=⟨_,rfl⟩
 rw [hPe] at HX HPr hP
 rw [hDe] at HX HIt hD
 have TT:=hid T
 have s1:((strOf sch).size:Int)≤100000:=by show ((sch.length:Nat):Int)≤_;have:sch.length≤100000:=h1;omega
 have s2:((strOf P).size:Int)≤100100:=by show ((P.length:Nat):Int)≤_;omega
 have s3:((strOf D).size:Int)≤65:=by show ((D.length:Nat):Int)≤_;omega
 have HC1:Hid ((strOf sch++⟨#[58,47,47]⟩)++strOf P=strOf ((sch++[58,47,47])++P)):=by
  show _=_
  rw [show (⟨#[58,47,47]⟩:ByteArray)=strOf [58,47,47] from rfl,cat_str,cat_str]
 have HC2:Hid (((strOf sch++⟨#[58,47,47]⟩)++strOf P)++((⟨#[58]⟩:ByteArray)++strOf D)=strOf (((sch++[58,47,47])++P)++(58::D))):=by
  show _=_
  rw [HC1.out,show (⟨#[58]⟩:ByteArray)=strOf [58] from rfl,cat_str,cat_str];rfl
 clear hPe hDe hP hD kn kx h1 h2 hp0 hp1 T k8
 obtain ⟨A,hA⟩:∃A,(orgC (sch,(k,nm,fr,[y0,y1,y2,y3,y4,y5,y6,y7]),p)).toArray=A:=⟨_,rfl⟩
 rw [hA]
 have HA:=hid hA
 clear hA
 go_enter Tryz.func20,Tryz.ntmps20
 go_upto_region 1 with fail
 have HU:Hid (Bc OT (w.alloc (.cells A OT)) w.heap.size (orgC (sch,(k,nm,fr,[y0,y1,y2,y3,y4,y5,y6,y7]),p))):=by show _=_;rw [HA.out];exact heap_alloc_new w _
 have HB:Hid (Below w.heap.size w (w.alloc (.cells A OT))):=hid (ballC w _)
 clear HA
 generalize w.alloc (.cells A OT)=w1 at *
 obtain ⟨U,hU⟩:∃U,w.heap.size=U:=⟨_,rfl⟩
 have HUU:Hid (w.heap.size=U):=hid hU
 have HUl:Hid (w.heap.size≤w1.heap.size):=hid HB.out.size
 rw [hU] at HU ⊢
 have HTT:Hid (∀w',Below w.heap.size w w'→TabH w'):=hid (fun w' hb=>TT.out.below hb)
 clear hU TT
 have HF:Hid (∀w',Below w1.heap.size w1 w'→(w'.cell? ⟨U,0,none⟩=some (.string (strOf sch))∧w'.cell? ⟨U,1,none⟩=some (.int .i64 k)∧w'.cell? ⟨U,2,none⟩=some (.string (strOf nm))∧w'.cell? ⟨U,3,none⟩=some (.int .u32 (fr:Int))∧w'.cell? ⟨U,4,none⟩=some (.int .u16 (y0:Int))∧w'.cell? ⟨U,5,none⟩=some (.int .u16 (y1:Int))∧w'.cell? ⟨U,6,none⟩=some (.int .u16 (y2:Int))∧w'.cell? ⟨U,7,none⟩=some (.int .u16 (y3:Int))∧w'.cell? ⟨U,8,none⟩=some (.int .u16 (y4:Int))∧w'.cell? ⟨U,9,none⟩=some (.int .u16 (y5:Int))∧w'.cell? ⟨U,10,none⟩=some (.int .u16 (y6:Int))∧w'.cell? ⟨U,11,none⟩=some (.int .u16 (y7:Int)))):=hid (fun w' hb=>by
  have h:=HU.out.below hb
  exact ⟨(h.cell 0 rfl).1,(h.cell 1 rfl).1,(h.cell 2 rfl).1,(h.cell 3 rfl).1,(h.cell 4 rfl).1,(h.cell 5 rfl).1,(h.cell 6 rfl).1,(h.cell 7 rfl).1,(h.cell 8 rfl).1,(h.cell 9 rfl).1,(h.cell 10 rfl).1,(h.cell 11 rfl).1⟩)
 obtain ⟨c0,c1,c2,c3,c4,c5,c6,c7,c8,c9,c10,c11⟩:=HF.out w1 (Below.refl _ _)
 go_region_with ((go_at_call 33;refine (HPr.out _ (HTT.out _ (HB.out.trans ((Below.refl _ _).drew)))).mono ?_;rintro e wy ⟨rfl,hby⟩;obtain ⟨d0,-⟩:=HF.out wy (((Below.refl _ _).drew).trans hby)))
 all_goals
  have hby2:=((Below.refl w1.heap.size w1).drew).trans hby
  have HBy:=hid (HB.out.trans (hby2.mono HUl.out))
  have c12:wy.cell? ⟨U,12,none⟩=some (.int .i64 p):=((HU.out.below hby2).cell 12 rfl).1
  have HUy:Hid (w.heap.size≤wy.heap.size):=hid (Nat.le_trans HUl.out hby2.size)
  clear hby hby2 HF c0 c1 c2 c3 c4 c5 c6 c7 c8 c9 c10 c11
  try clear d0
  by_cases hp:p=0
  ·subst hp
   rw [if_pos rfl,List.append_nil] at HX
   go_wp2_with fail
   go_ret
   exact ⟨by rw [HX.out,← HC1.out];rfl,HBy.out⟩
  ·rw [if_neg hp] at HX
   have e1:(p != 0)=true:=bne_iff_ne.2 hp
   have e2:(p==0)=false:=beq_eq_false_iff_ne.2 hp
   go_wp2_with fail
   refine (HIt.out _ (HTT.out _ HBy.out)).mono ?_
   rintro e wz ⟨rfl,hbz⟩
   go_wp2_with fail
   go_ret
   exact ⟨by rw [HX.out,← HC2.out];rfl,HBy.out.trans (hbz.mono HUy.out)⟩
end Go.Proofs.YtigfgloenjoeoaaGreatDoor
namespace Go.Proofs.YtigfgloenjoeoaaGreatDoor
def HostOk (h:HostN):Prop:=h.2.2.2.length=8∧h.2.2.1 < 4294967296∧(∀x∈h.2.2.2,x < 65536)∧h.2.1.length≤100000
def OrgOk (o:OrgN):Prop:=o.1.length≤100000∧HostOk o.2.1∧-9223372036854775808≤o.2.2∧o.2.2≤9223372036854775807
theorem org0_ok:OrgOk org0:=by
 refine ⟨by decide,⟨by decide,by decide,by decide,by decide⟩,by decide,by decide⟩
theorem special_le (s:List UInt8):specialN s≤1000:=by
 unfold specialN
 repeat' split
 all_goals decide
theorem origin_ok {u:UrlN} (h1:u.sch.length≤100000) (hh:HostOk u.host) (hp0:-9223372036854775808≤u.port) (hp1:u.port≤9223372036854775807):OrgOk (originN u).1:=by
 unfold originN
 split
 ·exact org0_ok
 ·refine ⟨h1,hh,?_,?_⟩
  ·show _≤(if u.port=-1 then (specialN u.sch:Int) else u.port)
   split<;>omega
  ·show (if u.port=-1 then (specialN u.sch:Int) else u.port)≤_
   have:=special_le u.sch
   split<;>omega
theorem stext_ok (o:OrgN) (w:World) (h:OrgOk o) (T:TabH w):Calls Tryz.prog 20 #[.agg (orgC o).toArray] w fun e w'=>e=.returned (.string (strOf (textN o)))∧RowKit.Below w.heap.size w w' :=
 stext_calls o w h.2.1.1 h.2.1.2.1 h.2.1.2.2.1 h.1 h.2.1.2.2.2 h.2.2.1 h.2.2.2 T
def hcB (n:Nat):Bool:=decide (33≤n)&&decide (n < 127)&&n != 35&&n != 47&&n != 58&&n != 63&&n != 64&&n != 91&&n != 92&&n != 93
theorem hc_cells:(List.range 128).all (fun n=>(lowB (UInt8.ofNat n)||badB (UInt8.ofNat n)||hcB n)&&(!(digB 16 (UInt8.ofNat n))||hcB n))=true:=by decide +kernel
theorem hc_at {c:UInt8} (h:c.toNat < 128):(lowB c||badB c||hcB c.toNat)=true∧(!(digB 16 c)||hcB c.toNat)=true:=by
 have:=List.all_eq_true.1 hc_cells c.toNat (List.mem_range.2 h)
 rw [UInt8.ofNat_toNat,Bool.and_eq_true] at this
 exact this
theorem dig_low:(List.range 256).all (fun n=>!(digB 16 (UInt8.ofNat n))||decide (n < 128))=true:=by decide +kernel
theorem hc_dig {c:UInt8} (h:digB 16 c=true):hcB c.toNat=true:=by
 have h1:=List.all_eq_true.1 dig_low c.toNat (List.mem_range.2 c.toNat_lt)
 rw [UInt8.ofNat_toNat,h] at h1
 have h2:=(hc_at (c:=c) (by simpa using h1)).2
 rw [h] at h2
 simpa using h2
theorem hc_num {c:UInt8} (h:numB c):hcB c.toNat=true:=by
 rcases h with h | h | h
 ·rw [h];rfl
 ·have h1:=(hc_at (c:=c) (by omega)).2
  have:digB 16 c=true:=by
   have hd:(List.range 58).all (fun n=>decide (n < 48)||digB 16 (UInt8.ofNat n))=true:=by decide +kernel
   have:=List.all_eq_true.1 hd c.toNat (List.mem_range.2 (by omega))
   rw [UInt8.ofNat_toNat] at this
   simp only [Bool.or_eq_true,decide_eq_true_eq] at this
   rcases this with h2 | h2
   ·omega
   ·exact h2
  rw [this] at h1
  simpa using h1
 ·rw [h];rfl
theorem hc_facts {n:Nat} (h:hcB n=true):33≤n∧n < 127∧n≠35∧n≠47∧n≠58∧n≠63∧n≠64∧n≠91∧n≠92∧n≠93:=by
 unfold hcB at h
 simp only [Bool.and_eq_true,decide_eq_true_eq,bne_iff_ne,ne_eq] at h
 omega
theorem pcs_hex {p:List Nat} (h:∀x∈p,x < 65536):∀c∈joinC 58 (pcs p),hcB c.toNat=true∨c=58:=by
 intro c hc
 rcases joinC_mem _ c hc with hc | ⟨x,hx,hc⟩
 ·exact .inr hc
 ·obtain ⟨n,hn,rfl⟩:=List.mem_map.1 hx
  exact .inl (hc_dig (digs_memHq (digsOf_facts (b:=16) (by decide) (by decide) (by have:=h n hn;omega)).2.1 c hc))
theorem print6_hex {p:List Nat} (h:∀x∈p,x < 65536):∀c∈print6R p,hcB c.toNat=true∨c=58:=by
 intro c hc
 unfold print6R at hc
 split at hc
 ·exact pcs_hex h c hc
 ·rcases List.mem_append.1 hc with hc | hc
  ·exact pcs_hex (fun x hx=>h x (List.mem_of_mem_take hx)) c hc
  ·rcases List.mem_cons.1 hc with hc | hc
   ·exact .inr hc
   ·rcases List.mem_cons.1 hc with hc | hc
    ·exact .inr hc
    ·exact pcs_hex (fun x hx=>h x (List.mem_of_mem_drop hx)) c hc
def HTxt (h:HostN):Prop:=(h.1≠3∧∀c∈printR h,hcB c.toNat=true)∨(h.1=3∧∃q,printR h=91::(q++[93])∧∀c∈q,hcB c.toNat=true∨c=58)
theorem four_kindX (p:Nat×Nat):(fourH p).1.1≠1:=by unfold fourH;split<;>(intro h;cases h)
theorem six_kindX (p:List Nat×Nat):(sixH p).1.1≠1:=by unfold sixH;split<;>(intro h;cases h)
theorem name_text {t:List UInt8} {h:HostN} (he:hostR t true=(h,0)) (hk:h.1=1):t≠[]→∀c∈h.2.1,hcB c.toNat=true:=by
 intro hne
 unfold hostR at he
 split at he
 ·cases congrArg Prod.snd he
 split at he
 ·unfold bracketR at he
  split at he
  ·cases congrArg Prod.snd he
  ·have e2:(sixH (parse6R t.tail.dropLast)).1=h:=congrArg Prod.fst he
   rw [← e2] at hk
   exact absurd hk (six_kindX _)
 rw [if_pos rfl] at he
 unfold specialR at he
 split at he
 ·rename_i hz
  have ha:askedR t=((askedR t).1,0):=by rw [← hz]
  generalize (askedR t).1=s at ha he
  obtain ⟨h1,h2⟩:=asc_again ha
  unfold nameR at he
  split at he
  ·cases congrArg Prod.snd he
  split at he
  ·cases congrArg Prod.snd he
  rename_i h0 hany
  have hany':((bytesOf s).any lowB||(bytesOf s).any badB)=false:=by simpa using hany
  rw [Bool.or_eq_false_iff] at hany'
  split at he
  ·have e2:(fourH (parse4R (bytesOf s))).1=h:=congrArg Prod.fst he
   rw [← e2] at hk
   exact absurd hk (four_kindX _)
  ·obtain rfl:((1,bytesOf s,0,z8):HostN)=h:=congrArg Prod.fst he
   intro c hc
   have h3:=(hc_at (h1 c hc).1).1
   rw [any_none' hany'.1 c hc,any_none' hany'.2 c hc] at h3
   simpa using h3
 ·rename_i hne2
  have hp:=ascR_pos (lossyL (unR t))
  have:((askedR t).2.toNat)=0:=congrArg Prod.snd he
  unfold askedR at this hne2
  omega
theorem may_text {h:HostN} (hm:mayR h=true) (h1:1≤h.1) (h3:h.1≤3):hostR (printR h) true=(h,0)∧printR h≠[]∧HTxt h:=by
 have hm':hostR (printR h) (h.1==1||h.1==2)=(h,0):=by
  unfold mayR at hm
  simp only [Bool.and_eq_true,beq_iff_eq] at hm
  exact Prod.ext hm.2 hm.1
 have hf:=host_fine (printR h) (h.1==1||h.1==2)
 rw [hm'] at hf
 obtain ⟨f1,f2,f3,f4⟩:=hf
 have hcase:h.1=1∨h.1=2∨h.1=3:=by omega
 rcases hcase with hk | hk | hk
 ·have hp:printR h=h.2.1:=by unfold printR;rw [if_pos (.inl hk)]
  rw [hk] at hm'
  have hm2:hostR (printR h) true=(h,0):=hm'
  have hne:printR h≠[]:=by
   intro e
   rw [e] at hm2
   have e2:(hostR [] true).2=6:=by decide +kernel
   rw [hm2] at e2
   cases e2
  exact ⟨hm2,hne,.inl ⟨by rw [hk];decide,by rw [hp];exact name_text hm2 hk hne⟩⟩
 ·have hp:printR h=print4R h.2.2.1:=by unfold printR;rw [if_neg (by rw [hk];decide),if_pos hk]
  rw [hk] at hm'
  refine ⟨hm',by rw [hp];exact print4_ne f3,.inl ⟨by rw [hk];decide,?_⟩⟩
  rw [hp]
  exact fun c hc=>hc_num (print4_mem f3 c hc)
 ·have hp:printR h=91::(print6R h.2.2.2++[93]):=by unfold printR;rw [if_neg (by rw [hk];decide),if_neg (by rw [hk];decide),if_pos hk]
  have e1:=six_text f1 f2 (h.1==1||h.1==2)
  rw [hp] at hm' ⊢
  rw [hm'] at e1
  refine ⟨(six_text f1 f2 true).trans (by rw [← e1]),by simp,.inr ⟨hk,_,hp,print6_hex f2⟩⟩
theorem drop_same {p:Int→Bool}:∀{l:List Int},(∀x∈l,p x=false)→l.dropWhile p=l
 | [],_=>rfl
 | x::r,h=>by rw [List.dropWhile_cons,h x List.mem_cons_self];rfl
theorem strip_fine {l:List UInt8} (h:∀c∈l,33≤c.toNat∧c.toNat < 127):stripRU l=byteInts l:=by
 have hm:∀x∈byteInts l,33≤x:=by
  intro x hx
  obtain ⟨c,hc,rfl⟩:=List.mem_map.1 hx
  have:=h c hc
  omega
 unfold stripRU
 have e1:=drop_same (p:=fun c=>decide (c≤32)) (l:=byteInts l) (fun x hx=>by have:=hm x hx;simp;omega)
 have e2:=drop_same (p:=fun c=>decide (c≤32)) (l:=(byteInts l).reverse) (fun x hx=>by have:=hm x (List.mem_reverse.1 hx);simp;omega)
 rw [lossy_low l (fun c hc=>by have:=h c hc;omega),e1,e2,List.reverse_reverse]
 refine List.filter_eq_self.2 (fun x hx=>?_)
 have:=hm x hx
 simp
 omega
theorem hx_tenX {d:Nat} (h:d < 10):(hx d).toNat=48+d:=by
 have:(List.range 10).all (fun n=>(hx n).toNat==48+n)=true:=by decide +kernel
 have:=List.all_eq_true.1 this d (List.mem_range.2 h)
 simpa using this
theorem port_digs:∀(f n:Nat),n < 10^f→n≤65535→portN (byteInts (digsOf 10 n))=n
 | 0,n,h,_=>by
   have:n=0:=by simpa using h
   subst this
   decide +kernel
 | f+1,n,h,hn=>by
   by_cases h10:n < 10
   ·rw [digsOf_small h10]
    show min (10 * 0+((hx n).toNat:Int)-48) 1048576=_
    rw [hx_tenX h10]
    omega
   ·have ih:=port_digs f (n/10) (by rw [Nat.pow_succ] at h;omega) (by omega)
    rw [digsOf_big (by decide) (by omega) h10]
    unfold portN byteInts at ih ⊢
    rw [List.map_append,List.foldl_append,ih]
    show min (10 * ((n/10:Nat):Int)+((hx (n%10)).toNat:Int)-48) 1048576=_
    rw [hx_tenX (Nat.mod_lt _ (by decide))]
    omega
theorem decI_pos {n:Int} (h:0≤n):decI n=digsOf 10 n.toNat:=by unfold decI;rw [if_neg (by omega)]
theorem dec_inj {n m:Int} (h0:0≤n) (h1:n≤65535) (k0:0≤m) (k1:m≤65535) (h:decI n=decI m):n=m:=by
 rw [decI_pos h0,decI_pos k0] at h
 have e1:=(digsOf_facts (b:=10) (n:=n.toNat) (by decide) (by decide) (by omega)).2.2.1
 have e2:=(digsOf_facts (b:=10) (n:=m.toNat) (by decide) (by decide) (by omega)).2.2.1
 rw [h,e2] at e1
 omega
theorem sch_five {s:List UInt8} (h:specialN s≠0):s=[104,116,116,112]∨s=[119,115]∨s=[104,116,116,112,115]∨s=[119,115,115]∨s=[102,116,112]:=by
 unfold specialN at h
 split at h
 ·rename_i e;rcases e with e | e
  ·exact .inl e
  ·exact .inr (.inl e)
 split at h
 ·rename_i e;rcases e with e | e
  ·exact .inr (.inr (.inl e))
  ·exact .inr (.inr (.inr (.inl e)))
 split at h
 ·rename_i e;exact .inr (.inr (.inr (.inr e)))
 ·exact absurd rfl h
theorem sch_low {s:List UInt8} (h:specialN s≠0):∀c∈s,97≤c.toNat∧c.toNat≤122:=by
 rcases sch_five h with rfl | rfl | rfl | rfl | rfl<;>decide
theorem sch_ne {s:List UInt8} (h:specialN s≠0):s≠[]:=by
 rcases sch_five h with rfl | rfl | rfl | rfl | rfl<;>decide
abbrev mk9 (I:List Int) (p:Nat) (u:UrlN) (b:List Int) (k:Bool):MaR:=⟨I,p,u,url0,false,b,false,false,k⟩
theorem atAll (I:List Int) (u:UrlN) (b:List Int) (k:Bool):At (mk9 I 0 u b k) I:=⟨rfl,Nat.zero_le _⟩
theorem let_lowX {c:Int} (h:97≤c∧c≤122):letC c=true∧lowC c=c:=by
 refine ⟨?_,?_⟩
 ·unfold letC
  rw [decide_eq_true h.1,decide_eq_true h.2]
  rfl
 ·unfold lowC;rw [if_neg (by omega)]
theorem ends_no {m:MaR} {c:Int} (h:0≤c∧c≠63∧c≠35∧c≠47∧c≠92):endsM m c=false:=by
 obtain ⟨h0,h1,h2,h3,h4⟩:=h
 unfold endsM slashM
 rw [decide_eq_false (by omega:¬c < 0),beq_eq_false_iff_ne.2 h1,beq_eq_false_iff_ne.2 h2,beq_eq_false_iff_ne.2 h3,beq_eq_false_iff_ne.2 h4]
 simp
theorem ends_end (m:MaR):endsM m (-1)=true:=rfl
theorem step9 (m:MaR) (c:Int):stepR m 9 c=whoAuthR m c:=rfl
theorem step10 (m:MaR) (c:Int):stepR m 10 c=whoHostR m c:=rfl
theorem step11 (m:MaR) (c:Int):stepR m 11 c=whoPortR m c:=rfl
theorem step12 (m:MaR) (c:Int):stepR m 12 c=startR m c:=rfl
theorem step13 (m:MaR) (c:Int):stepR m 13 c=pathR m c:=rfl
theorem sch_run {s:List UInt8} (hs:specialN s≠0) (Y:List Int):ans (mk9 (byteInts s++58::47::47::Y) 0 urlM [] false) 0=ans (mk9 (byteInts s++58::47::47::Y) (s.length+3) { urlM with sch:=s } [] false) 8:=by
 have hlow:=sch_low hs
 have hl:∀c∈byteInts s,97≤c∧c≤122:=by
  intro x hx
  obtain ⟨c,hc,rfl⟩:=List.mem_map.1 hx
  have:=hlow c hc
  omega
 have ht:textL (byteInts s)=s:=text_bytes (fun c hc=>by have:=hlow c hc;omega)
 have hf:s≠[102,105,108,101]:=by
  intro e;rw [e] at hs;exact hs (by decide)
 have hlen:(byteInts s).length=s.length:=List.length_map _
 have hne:byteInts s≠[]:=by
  intro e;exact sch_ne hs (List.map_eq_nil_iff.1 e)
 generalize byteInts s=S at *
 obtain ⟨I,hI⟩:∃I,S++58::47::47::Y=I:=⟨_,rfl⟩
 match S,hne with
 | c::q,_ =>
   have a0:At (mk9 I 0 urlM [] false) (c::(q++58::47::47::Y)):=by rw [← hI];exact atAll _ _ _ _
   rw [hI]
   obtain ⟨l1,l2⟩:=let_lowX (hl c List.mem_cons_self)
   have s0:stepR (mk9 I 0 urlM [] false) 0 c=(mk9 I 0 urlM [c] false,1,false,0):=by
    show (if letC c=true then (gatherM (mk9 I 0 urlM [] false) (lowC c),1,false,0) else (mk9 I 0 urlM [] false,2,true,0):StR)=_
    rw [if_pos l1,l2];rfl
   rw [ans_at a0 (by decide) s0]
   have e1:behM (mk9 I 0 urlM [c] false,1,false,0)=mk9 I 1 urlM [c] false:=rfl
   rw [e1]
   have a1:At (mk9 I 1 urlM [c] false) (q++58::47::47::Y):=a0.tail rfl rfl
   rw [gather_run 1 (by decide) q _ _ a1 (fun d hd m' _ _=>?_)]
   ·have a2:At (mk9 I (1+q.length) urlM (c::q) false) (58::47::47::Y):=a1.more rfl rfl
    have s1:stepR (mk9 I (1+q.length) urlM (c::q) false) 1 58=(mk9 I (1+q.length) { urlM with sch:=s } [] false,7,false,0):=by
     show colonR (mk9 I (1+q.length) { urlM with sch:=textL (c::q) } [] false)=_
     rw [ht]
     unfold colonR
     rw [if_neg hf,if_neg (by simp),if_pos (by unfold spM;exact decide_eq_true (Nat.pos_of_ne_zero hs))]
    show ans (mk9 I (1+q.length) urlM (c::q) false) 1=_
    rw [ans_at a2 (by decide) s1]
    have a3:At (mk9 I (1+q.length+1) { urlM with sch:=s } [] false) (47::47::Y):=a2.tail rfl rfl
    have s2:stepR (mk9 I (1+q.length+1) { urlM with sch:=s } [] false) 7 47=(mk9 I (1+q.length+1+1) { urlM with sch:=s } [] false,8,false,0):=by
     show slashesR _ 7 47=_
     unfold slashesR
     rw [if_pos ⟨rfl,a3.next⟩]
    show ans (mk9 I (1+q.length+1) { urlM with sch:=s } [] false) 7=_
    rw [ans_at a3 (by decide) s2]
    show ans (mk9 I (1+q.length+1+1+1) { urlM with sch:=s } [] false) 8=_
    have:1+q.length+1+1+1=s.length+3:=by rw [← hlen,List.length_cons];omega
    rw [this]
   ·obtain ⟨k1,k2⟩:=let_lowX (hl d (List.mem_cons_of_mem _ hd))
    show schemeR m' d=_
    unfold schemeR
    rw [k1,k2,if_pos (by simp)]
theorem host_run {I:List Int} {p:Nat} {u:UrlN} {P:List UInt8} {D:List Int} (hA:At (mk9 I p u [] false) (byteInts P++58::D)) (hT:(∀c∈P,hcB c.toNat=true)∨∃q,P=91::(q++[93])∧∀c∈q,hcB c.toNat=true∨c=58) :
 ans (mk9 I p u [] false) 10=ans (mk9 I (p+P.length) u (byteInts P) false) 10:=by
 have one:∀(c:UInt8) (m':MaR),hcB c.toNat=true→stepR m' 10 (c.toNat:Int)=(gatherM m' (c.toNat:Int),10,false,0):=by
  intro c m' hc
  obtain ⟨_,_,h1,h2,h3,h4,h5,h6,h7,h8⟩:=hc_facts hc
  show whoHostR m' _=_
  unfold whoHostR
  rw [if_neg (by omega),if_neg (by rw [ends_no (by omega)];decide),if_neg (by omega),if_neg (by omega)]
 rcases hT with h | ⟨q,rfl,h⟩
 ·rw [gather_run 10 (by decide) (byteInts P) _ _ hA (fun x hx m' _ _=>?_)]
  ·show ans (mk9 I (p+(byteInts P).length) u (byteInts P) false) 10=_
   rw [show (byteInts P).length=P.length from List.length_map _]
  ·obtain ⟨c,hc,rfl⟩:=List.mem_map.1 hx
   exact one c m' (h c hc)
 ·have e:byteInts (91::(q++[93]))=91::(byteInts q++[93]):=by unfold byteInts;simp
  rw [e] at hA ⊢
  have a0:At (mk9 I p u [] false) (91::(byteInts q++93::58::D)):=by simpa using hA
  have s0:stepR (mk9 I p u [] false) 10 91=(mk9 I p u [91] true,10,false,0):=by
   rw [step10]
   unfold whoHostR
   rw [if_neg (by simp),if_neg (by rw [ends_no (by decide)];decide),if_pos rfl]
   rfl
  rw [ans_at a0 (by decide) s0]
  have a1:At (mk9 I (p+1) u [91] true) (byteInts q++93::58::D):=a0.tail rfl rfl
  show ans (mk9 I (p+1) u [91] true) 10=_
  rw [gather_run 10 (by decide) (byteInts q) _ _ a1 (fun x hx m' _ hb=>?_)]
  ·have a2:At (mk9 I (p+1+(byteInts q).length) u ([91]++byteInts q) true) (93::58::D):=a1.more rfl rfl
   have s2:stepR (mk9 I (p+1+(byteInts q).length) u ([91]++byteInts q) true) 10 93=(mk9 I (p+1+(byteInts q).length) u (([91]++byteInts q)++[93]) false,10,false,0):=by
    rw [step10]
    unfold whoHostR
    rw [if_neg (by simp),if_neg (by rw [ends_no (by decide)];decide),if_neg (by decide),if_pos rfl]
    rfl
   show ans (mk9 I (p+1+(byteInts q).length) u ([91]++byteInts q) true) 10=_
   rw [ans_at a2 (by decide) s2]
   show ans (mk9 I (p+1+(byteInts q).length+1) u (([91]++byteInts q)++[93]) false) 10=_
   have e2:p+1+(byteInts q).length+1=p+(91::(q++[93])).length:=by
    rw [show (byteInts q).length=q.length from List.length_map _]
    simp
    omega
   rw [e2,List.cons_append,List.nil_append,List.cons_append]
  ·obtain ⟨c,hc,rfl⟩:=List.mem_map.1 hx
   rcases h c hc with h1 | rfl
   ·exact one c m' h1
   ·show whoHostR m' 58=_
    unfold whoHostR
    rw [if_neg (by rw [hb];simp),if_neg (by rw [ends_no (by decide)];decide),if_neg (by decide),if_neg (by decide)]
    rfl
def portO (s:List UInt8) (n:Nat):Int:=if (n:Int)=(specialN s:Int) then -1 else n
theorem text_run {s P:List UInt8} {h:HostN} {n:Nat} (hs:specialN s≠0) (hP:hostR P true=(h,0)) (hne:P≠[]) (hT:(∀c∈P,hcB c.toNat=true)∨∃q,P=91::(q++[93])∧∀c∈q,hcB c.toNat=true∨c=58) (hn:n≤65535) :
 ans (mk9 (byteInts s++58::47::47::(byteInts P++58::byteInts (digsOf 10 n))) 0 urlM [] false) 0=(⟨s,[],[],true,h,portO s n,false,[],[[]],false,[],false,[]⟩,0):=by
 rw [sch_run hs]
 have hcP:∀c∈P,33≤c.toNat∧c.toNat < 127∧c.toNat≠35∧c.toNat≠47∧c.toNat≠63∧c.toNat≠64∧c.toNat≠92:=by
  intro c hc
  rcases hT with h1 | ⟨q,rfl,h1⟩
  ·have:=hc_facts (h1 c hc);omega
  ·rcases List.mem_cons.1 hc with rfl | hc
   ·decide
   ·rcases List.mem_append.1 hc with hc | hc
    ·rcases h1 c hc with h2 | rfl
     ·have:=hc_facts h2;omega
     ·decide
    ·have:c=93:=by simpa using hc
     subst this;decide
 have hD:∀c∈digsOf 10 n,48≤c.toNat∧c.toNat≤57:=dec_digs (by omega)
 have hDne:digsOf 10 n≠[]:=dec_ne (by omega)
 have hpd:=port_digs 5 n (by omega) hn
 have hDl:∀x∈byteInts (digsOf 10 n),48≤x∧x≤57:=by
  intro x hx
  obtain ⟨c,hc,rfl⟩:=List.mem_map.1 hx
  have:=hD c hc;omega
 have hDne2:byteInts (digsOf 10 n)≠[]:=by intro e;exact hDne (List.map_eq_nil_iff.1 e)
 have hPt:textL (byteInts P)=P:=text_bytes (fun c hc=>by have:=hcP c hc;omega)
 have hPl:∀x∈byteInts P,33≤x∧x < 127∧x≠35∧x≠47∧x≠63∧x≠64∧x≠92:=by
  intro x hx
  obtain ⟨c,hc,rfl⟩:=List.mem_map.1 hx
  have:=hcP c hc;omega
 have hPne:byteInts P≠[]:=by intro e;exact hne (List.map_eq_nil_iff.1 e)
 obtain ⟨D,hDD⟩:∃D,byteInts (digsOf 10 n)=D:=⟨_,rfl⟩
 rw [hDD] at hpd hDl hDne2 ⊢
 obtain ⟨Y,hYY⟩:∃Y,byteInts P++58::D=Y:=⟨_,rfl⟩
 have hY:∀x∈Y,33≤x∧x≠35∧x≠47∧x≠63∧x≠64∧x≠92:=by
  intro x hx
  rw [← hYY] at hx
  rcases List.mem_append.1 hx with hx | hx
  ·have:=hPl x hx;omega
  ·rcases List.mem_cons.1 hx with rfl | hx
   ·decide
   ·have:=hDl x hx;omega
 rw [hYY]
 obtain ⟨U,hU⟩:∃U:UrlN,{ urlM with sch:=s }=U:=⟨_,rfl⟩
 have hUs:U.sch=s:=by rw [← hU]
 rw [hU]
 have hA0:At (mk9 (byteInts s++58::47::47::Y) (s.length+3) U [] false) Y:=by
  have h0:At (mk9 (byteInts s++58::47::47::Y) 0 U [] false) ((byteInts s++[58,47,47])++Y):=by
   have:=atAll (byteInts s++58::47::47::Y) U [] false
   simpa using this
  refine h0.more rfl ?_
  show s.length+3=0+(byteInts s++[58,47,47]).length
  rw [List.length_append,show (byteInts s).length=s.length from List.length_map _]
  simp
 generalize byteInts s++58::47::47::Y=I at *
 generalize s.length+3=p at *
 have hyne:∃y r,Y=y::r:=by
  rw [← hYY]
  match byteInts P,hPne with
  | y::r,_=>exact ⟨y,_,rfl⟩
 obtain ⟨y,r,hyr⟩:=hyne
 have hy:=hY y (by rw [hyr];exact List.mem_cons_self)
 have s8:stepR (mk9 I p U [] false) 8 y=(mk9 I p U [] false,9,true,0):=by
  show (if y=47∨y=92 then (mk9 I p U [] false,8,false,0) else (mk9 I p U [] false,9,true,0):StR)=_
  rw [if_neg (by omega)]
 rw [ans_at (r:=r) (by rw [← hyr];exact hA0) (by decide) s8]
 show ans (mk9 I p U [] false) 9=_
 have hA1:At (mk9 I p U [] false) (Y++[]):=by rw [List.append_nil];exact hA0
 rw [gather_run 9 (by decide) Y [] _ hA1 (fun d hd m' _ _=>by
  have:=hY d hd
  show whoAuthR m' d=_
  unfold whoAuthR
  rw [if_neg (by omega),if_neg (by rw [ends_no (by omega)];decide)])]
 have hA2:At (mk9 I (p+Y.length) U Y false) []:=hA1.more rfl rfl
 have s9:stepR (mk9 I (p+Y.length) U Y false) 9 (-1)=(mk9 I p U [] false,10,true,0):=by
  rw [step9]
  unfold whoAuthR
  rw [if_neg (by decide),if_pos (ends_end _),if_neg (by simp)]
  show ((mk9 I (p+Y.length-Y.length) U [] false),10,true,0)=_
  rw [Nat.add_sub_cancel]
 show ans (mk9 I (p+Y.length) U Y false) 9=_
 rw [ans_stop hA2 (by decide) s9]
 show ans (mk9 I p U [] false) 10=_
 rw [← hYY] at hA0
 rw [host_run hA0 hT]
 have hA3:At (mk9 I (p+P.length) U (byteInts P) false) (58::D):=hA0.more rfl (by rw [show (byteInts P).length=P.length from List.length_map _])
 have s10:stepR (mk9 I (p+P.length) U (byteInts P) false) 10 58=(mk9 I (p+P.length) { U with host:=h,hasHost:=true } [] false,11,false,0):=by
  rw [step10]
  unfold whoHostR
  rw [if_pos ⟨rfl,rfl⟩,if_neg hPne]
  unfold hostM
  have hsp:spM (mk9 I (p+P.length) U (byteInts P) false)=true:=by unfold spM;rw [show (mk9 I (p+P.length) U (byteInts P) false).u=U from rfl,hUs];exact decide_eq_true (Nat.pos_of_ne_zero hs)
  rw [hsp,show (mk9 I (p+P.length) U (byteInts P) false).buf=byteInts P from rfl,hPt,hP]
 rw [ans_at hA3 (by decide) s10]
 have hA4:At (mk9 I (p+P.length+1) { U with host:=h,hasHost:=true } [] false) (D++[]):=by rw [List.append_nil];exact hA3.tail rfl rfl
 show ans (mk9 I (p+P.length+1) { U with host:=h,hasHost:=true } [] false) 11=_
 rw [gather_run 11 (by decide) D [] _ hA4 (fun d hd m' _ _=>by
  have:=hDl d hd
  show whoPortR m' d=_
  unfold whoPortR
  rw [if_pos (by unfold digC;rw [decide_eq_true this.1,decide_eq_true this.2];rfl)])]
 obtain ⟨p2,hp2⟩:∃p2,p+P.length+1+D.length=p2:=⟨_,rfl⟩
 have hA5:At (mk9 I p2 { U with host:=h,hasHost:=true } D false) []:=by rw [← hp2];exact hA4.more rfl rfl
 have hpo:(if portN D=(specialN U.sch:Int)∧spM (mk9 I p2 { U with host:=h,hasHost:=true } D false)=true then -1 else portN D)=portO s n:=by
  have hsp:spM (mk9 I p2 { U with host:=h,hasHost:=true } D false)=true:=by unfold spM;rw [show (mk9 I p2 { U with host:=h,hasHost:=true } D false).u.sch=U.sch from rfl,hUs];exact decide_eq_true (Nat.pos_of_ne_zero hs)
  rw [hsp,hpd,hUs]
  unfold portO
  simp
 have s11:stepR (mk9 I p2 { U with host:=h,hasHost:=true } D false) 11 (-1)=(mk9 I p2 { U with host:=h,hasHost:=true,port:=portO s n } [] false,12,true,0):=by
  rw [step11]
  unfold whoPortR
  rw [if_neg (by decide),if_neg (by rw [ends_end];decide),if_neg hDne2,if_neg (by show¬65535 < portN D;rw [hpd];omega)]
  show ((mk9 I p2 { U with host:=h,hasHost:=true,port:=(if portN D=(specialN U.sch:Int)∧spM (mk9 I p2 { U with host:=h,hasHost:=true } D false)=true then -1 else portN D) } [] false),12,true,0)=_
  rw [hpo]
 show ans (mk9 I (p+P.length+1+D.length) { U with host:=h,hasHost:=true } ([]++D) false) 11=_
 rw [hp2,List.nil_append,ans_stop hA5 (by decide) s11]
 have hA6:At (mk9 I p2 { U with host:=h,hasHost:=true,port:=portO s n } [] false) []:=hA5.same rfl rfl
 have s12:stepR (mk9 I p2 { U with host:=h,hasHost:=true,port:=portO s n } [] false) 12 (-1)=(mk9 I p2 { U with host:=h,hasHost:=true,port:=portO s n } [] false,13,true,0):=by
  rw [step12]
  unfold startR
  have hsp:spM (mk9 I p2 { U with host:=h,hasHost:=true,port:=portO s n } [] false)=true:=by unfold spM;rw [show (mk9 I p2 { U with host:=h,hasHost:=true,port:=portO s n } [] false).u.sch=U.sch from rfl,hUs];exact decide_eq_true (Nat.pos_of_ne_zero hs)
  rw [hsp,if_pos rfl]
  unfold slashM
  rw [hsp]
  rfl
 show ans (mk9 I p2 { U with host:=h,hasHost:=true,port:=portO s n } [] false) 12=_
 rw [ans_stop hA6 (by decide) s12]
 have s13:stepR (mk9 I p2 { U with host:=h,hasHost:=true,port:=portO s n } [] false) 13 (-1)=(mk9 I p2 { U with host:=h,hasHost:=true,port:=portO s n,path:=U.path++[[]] } [] false,17,false,0):=by
  rw [step13]
  unfold pathR
  rw [if_neg (by simp),if_neg (by decide),if_neg (by decide),if_pos rfl]
  rfl
 show ans (mk9 I p2 { U with host:=h,hasHost:=true,port:=portO s n } [] false) 13=_
 rw [ans_stop hA6 (by decide) s13]
 show ans (mk9 I (p2+1) { U with host:=h,hasHost:=true,port:=portO s n,path:=U.path++[[]] } [] false) 17=_
 rw [ans_end,← hU]
 rfl
def TxtO (o:OrgN):Prop:=specialN o.1≠0∧mayR o.2.1=true∧1≤o.2.1.1∧o.2.1.1≤3∧1≤o.2.2∧o.2.2≤65535
theorem textN_eq {o:OrgN} (h:TxtO o):textN o=o.1++58::47::47::(printR o.2.1++58::digsOf 10 o.2.2.toNat):=by
 unfold textN
 rw [if_neg (by have:=h.2.2.2.2.1;omega),decI_pos (by have:=h.2.2.2.2.1;omega)]
 simp
theorem htxt {h:HostN} (hT:HTxt h):(∀c∈printR h,hcB c.toNat=true)∨∃q,printR h=91::(q++[93])∧∀c∈q,hcB c.toNat=true∨c=58:=by
 rcases hT with h1 | h1
 ·exact .inl h1.2
 ·exact .inr h1.2
theorem text_fine {o:OrgN} (h:TxtO o):∀c∈textN o,33≤c.toNat∧c.toNat < 127:=by
 intro c hc
 obtain ⟨h1,h2,h3,h4,h5,h6⟩:=h
 obtain ⟨m1,m2,m3⟩:=may_text h2 h3 h4
 rw [textN_eq ⟨h1,h2,h3,h4,h5,h6⟩] at hc
 rcases List.mem_append.1 hc with hc | hc
 ·have:=sch_low h1 c hc;omega
 simp only [List.mem_cons,List.mem_append] at hc
 rcases hc with rfl | rfl | rfl | hc | rfl | hc
 ·decide
 ·decide
 ·decide
 ·rcases htxt m3 with k | ⟨q,e,k⟩
  ·have:=hc_facts (k c hc);omega
  ·rw [e] at hc
   simp only [List.mem_cons,List.mem_append,List.not_mem_nil,or_false] at hc
   rcases hc with rfl | hc | rfl
   ·decide
   ·rcases k c hc with k | rfl
    ·have:=hc_facts k;omega
    ·decide
   ·decide
 ·decide
 ·have:=dec_digs (n:=o.2.2.toNat) (by omega) c hc;omega
theorem text_back {o:OrgN} (h:TxtO o) (hl:(textN o).length≤4000):∃u,urlR (textN o) url0 false=(u,0)∧originN u=(o,true):=by
 have hf:=text_fine h
 have he:=textN_eq h
 obtain ⟨h1,h2,h3,h4,h5,h6⟩:=h
 obtain ⟨m1,m2,m3⟩:=may_text h2 h3 h4
 have hm:maR (textN o) url0 false=mk9 (byteInts o.1++58::47::47::(byteInts (printR o.2.1)++58::byteInts (digsOf 10 o.2.2.toNat))) 0 urlM [] false:=by
  unfold maR
  rw [strip_fine hf,he]
  unfold byteInts
  simp
 rw [urlR_ans (by omega),hm,text_run h1 m1 m2 (htxt m3) (by omega)]
 refine ⟨_,rfl,?_⟩
 unfold originN
 rw [if_neg (by rintro (e | e);exact h1 e;cases e)]
 have e:(if portO o.1 o.2.2.toNat=-1 then (specialN o.1:Int) else portO o.1 o.2.2.toNat)=o.2.2:=by
  unfold portO
  split<;>split<;>omega
 show ((o.1,o.2.1,(if portO o.1 o.2.2.toNat=-1 then (specialN o.1:Int) else portO o.1 o.2.2.toNat)),true)=(o,true)
 rw [e]
theorem split_one {x:UInt8}:∀{a b c d:List UInt8},(∀y∈a,y≠x)→(∀y∈b,y≠x)→a++x::c=b++x::d→a=b∧c=d
 | [],[],c,d,_,_,e=>⟨rfl,by simpa using e⟩
 | [],y::b,c,d,_,hb,e=>absurd (List.cons.inj e).1.symm (hb y List.mem_cons_self)
 | y::a,[],c,d,ha,_,e=>absurd (List.cons.inj e).1 (ha y List.mem_cons_self)
 | y::a,z::b,c,d,ha,hb,e=>by
   obtain ⟨e1,e2⟩:=List.cons.inj e
   obtain ⟨e3,e4⟩:=split_one (fun w hw=>ha w (List.mem_cons_of_mem _ hw)) (fun w hw=>hb w (List.mem_cons_of_mem _ hw)) e2
   exact ⟨by rw [e1,e3],e4⟩
theorem text_inj {a b:OrgN} (ha:TxtO a) (hb:TxtO b) (he:textN a=textN b):a=b:=by
 rw [textN_eq ha,textN_eq hb] at he
 obtain ⟨a1,a2,a3,a4,a5,a6⟩:=ha
 obtain ⟨b1,b2,b3,b4,b5,b6⟩:=hb
 obtain ⟨p1,p2,p3⟩:=may_text a2 a3 a4
 obtain ⟨q1,q2,q3⟩:=may_text b2 b3 b4
 obtain ⟨e1,e2⟩:=split_one (fun y hy e=>by have:=sch_low a1 y hy;rw [e] at this;exact absurd this (by decide)) (fun y hy e=>by have:=sch_low b1 y hy;rw [e] at this;exact absurd this (by decide)) he
 have e3:printR a.2.1++58::digsOf 10 a.2.2.toNat=printR b.2.1++58::digsOf 10 b.2.2.toNat:=by simpa using e2
 have no58:∀{l:List UInt8},(∀c∈l,hcB c.toNat=true)→∀y∈l,y≠58:=fun h y hy e=>by have:=hc_facts (h y hy);rw [e] at this;exact absurd this (by decide)
 have no93:∀{l:List UInt8},(∀c∈l,hcB c.toNat=true∨c=58)→∀y∈l,y≠93:=fun h y hy e=>by
  rcases h y hy with k | k
  ·have:=hc_facts k;rw [e] at this;exact absurd this (by decide)
  ·rw [e] at k;exact absurd k (by decide)
 have mix:∀{P q R S:List UInt8},(∀c∈P,hcB c.toNat=true)→P≠[]→P++R=(91::q)++S→False:=by
  intro P q R S h hne e
  match P,hne with
  | y::P,_ =>
    have e4:=(List.cons.inj e).1
    have:=hc_facts (h y List.mem_cons_self)
    rw [e4] at this
    exact absurd this (by decide)
 have key:printR a.2.1=printR b.2.1∧digsOf 10 a.2.2.toNat=digsOf 10 b.2.2.toNat:=by
  rcases htxt p3 with k | ⟨q,k1,k2⟩
  ·rcases htxt q3 with l | ⟨r,l1,l2⟩
   ·exact split_one (no58 k) (no58 l) e3
   ·rw [l1] at e3
    exact absurd e3 (fun e=>mix k p2 e)
  ·rcases htxt q3 with l | ⟨r,l1,l2⟩
   ·rw [k1] at e3
    exact absurd e3.symm (fun e=>mix l q2 e)
   ·rw [k1,l1] at e3
    have e4:q++93::(58::digsOf 10 a.2.2.toNat)=r++93::(58::digsOf 10 b.2.2.toNat):=by simpa using e3
    obtain ⟨e5,e6⟩:=split_one (no93 k2) (no93 l2) e4
    rw [k1,l1,e5]
    exact ⟨rfl,(List.cons.inj e6).2⟩
 have h1:a.2.1=b.2.1:=by
  rw [key.1,q1] at p1
  exact (congrArg Prod.fst p1).symm
 have h2:a.2.2=b.2.2:=by
  refine dec_inj (by omega) (by omega) (by omega) (by omega) ?_
  rw [decI_pos (by omega),decI_pos (by omega)]
  exact key.2
 exact Prod.ext e1 (Prod.ext h1 h2)
end Go.Proofs.YtigfgloenjoeoaaGreatDoor
namespace Go.Proofs.YtigfgloenjoeoaaGreatDoor
open Go.RowKit Go.Shelf
theorem hmayN_calls (h:HostN) (w:World) (k:HostOk h) (T:TabH w):Calls Tryz.prog 24 #[.agg (hstC h).toArray] w fun e w'=>e=.returned (.bool (mayR h))∧Below w.heap.size w w':=by
 obtain ⟨kd,nm,n,p⟩:=h
 obtain ⟨k1,k2,k3,k4⟩:=k
 obtain ⟨y0,y1,y2,y3,y4,y5,y6,y7,rfl⟩:=eightY k1
 exact hmay_calls kd (strOf nm) n y0 y1 y2 y3 y4 y5 y6 y7 w k2 k3 k4 T
theorem host_rangeX {w:World} {R:Nat} {u:UrlN} {pv:Value} (h:Bc UT w R (urlC u pv)):w.rangeAt R 4 (hstC u.host):=by
 intro j v hv
 refine (h.cell (4+j) ?_).1
 match j,hv with
 | 0,hv=>exact hv
 | 1,hv=>exact hv
 | 2,hv=>exact hv
 | 3,hv=>exact hv
 | 4,hv=>exact hv
 | 5,hv=>exact hv
 | 6,hv=>exact hv
 | 7,hv=>exact hv
 | 8,hv=>exact hv
 | 9,hv=>exact hv
 | 10,hv=>exact hv
 | j+11,hv=>cases hv
theorem text_any {o:OrgN} (h:TxtO o):∃U E,urlR (textN o) url0 false=(U,E)∧(U.sch=o.1∧U.host=o.2.1∨U=url0)∧(4000 < (textN o).length∨(E=0∧originN U=(o,true))):=by
 by_cases hl:4000 < (textN o).length
 ·exact ⟨url0,3,by unfold urlR;rw [if_pos hl],.inr rfl,.inl hl⟩
 ·obtain ⟨U,h1,h2⟩:=text_back h (by omega)
  refine ⟨U,0,h1,.inl ?_,.inr ⟨rfl,h2⟩⟩
  unfold originN at h2
  split at h2
  ·cases congrArg Prod.snd h2
  ·injection h2 with e _
   subst e
   exact ⟨rfl,rfl⟩
theorem org_txt {u:UrlN} (h:(originN u).2=true) (hm:mayR u.host=true):specialN (originN u).1.1≠0∧mayR (originN u).1.2.1=true:=by
 unfold originN at h ⊢
 split
 ·rename_i e;rw [if_pos e] at h;cases h
 ·rename_i e
  exact ⟨fun e2=>e (.inl e2),hm⟩
def SxAt (w0 w:World) (O1 O2:Nat) (o c:OrgN):Prop:=Below w0.heap.size w0 w∧Bc OT w O1 (orgC o)∧Bc OT w O2 (orgC c)
theorem SxAt.below {w0 w w':World} {O1 O2:Nat} {o c:OrgN} (h:SxAt w0 w O1 O2 o c) (hb:Below w.heap.size w w'):SxAt w0 w' O1 O2 o c :=
 ⟨h.1.trans (hb.mono h.1.size),h.2.1.below hb,h.2.2.below hb⟩
theorem eqx_org (o p:OrgN) (w:World):(Op.equal OT (.agg (orgC o).toArray) (.agg (orgC p).toArray)).run Tryz.prog w=.ok (sameO o p) w:=eq_orgV o p w
theorem eqi_org (o p:OrgN) (w:World):(Op.equalIn 10000 OT (.agg (orgC o).toArray) (.agg (orgC p).toArray)).run Tryz.prog w=.ok (sameO o p) w:=eq_orgV o p w
theorem siteTexts_walk (u v:UrlN) (pu pv:Value) (w:World) (T:TabH w) (zu:UrlZ u) (zv:UrlZ v) (hpu:SRowIp w pu u.path) (hpv:SRowIp w pv v.path) (ku:u.host.2.2.2.length=8∧u.host.2.2.1 < 4294967296∧∀x∈u.host.2.2.2,x < 65536) (kp:-9223372036854775808≤u.port∧u.port≤9223372036854775807) (kv:v.host.2.2.2.length=8∧v.host.2.2.1 < 4294967296∧∀x∈v.host.2.2.2,x < 65536) (kq:-9223372036854775808≤v.port∧v.port≤9223372036854775807) :
 Calls Tryz.prog 6 #[.agg (urlC u pu).toArray,.agg (urlC v pv).toArray] w fun e w'=>e=.returned (.bool true)∧Below w.heap.size w w':=by
 have HT:Hid (∀w',Below w.heap.size w w'→TabH w'):=fun w' hb=>T.below hb
 have HFst:=hid (fun w' (hb:Below w.heap.size w w')=>sfirst_calls w' (HT.out w' hb).r)
 have HF1:=hid (fun w' (hb:Below w.heap.size w w')=>Few_calls u pu w' (hpu.below hb) zu)
 have HF2:=hid (fun w' (hb:Below w.heap.size w w')=>Few_calls v pv w' (hpv.below hb) zv)
 have KU:=hid ku
 have KP:=hid kp
 have KV:=hid kv
 have KQ:=hid kq
 clear hpu hpv zu zv T ku kv kp kq
 obtain ⟨A1,hA1⟩:∃A,(urlC u pu).toArray=A:=⟨_,rfl⟩
 obtain ⟨A2,hA2⟩:∃A,(urlC v pv).toArray=A:=⟨_,rfl⟩
 rw [hA1,hA2]
 have HA1:=hid hA1
 have HA2:=hid hA2
 clear hA1 hA2
 go_enter Tryz.func6,Tryz.ntmps6
 go_upto_region 1 with fail
 have H2:=hid (two_new w A1 A2 UT UT)
 have HB1:Hid (Below w.heap.size w ((w.alloc (.cells A1 UT)).alloc (.cells A2 UT))):=hid H2.out.2.2
 have HU1:Hid (Bc UT ((w.alloc (.cells A1 UT)).alloc (.cells A2 UT)) w.heap.size (urlC u pu)):=by show _=_;rw [H2.out.1,HA1.out]
 have HU2:Hid (Bc UT ((w.alloc (.cells A1 UT)).alloc (.cells A2 UT)) (w.heap.size+1) (urlC v pv)):=by show _=_;rw [H2.out.2.1,HA2.out]
 clear H2 HA1 HA2
 generalize (w.alloc (.cells A1 UT)).alloc (.cells A2 UT)=w1 at *
 obtain ⟨U2,hU2⟩:∃R,w.heap.size+1=R:=⟨_,rfl⟩
 rw [hU2] at HU2 ⊢
 obtain ⟨U1,hU1⟩:∃U,w.heap.size=U:=⟨_,rfl⟩
 rw [hU1] at HU1 ⊢
 clear hU2 hU1
 go_wp2_with fail
 refine (HFst.out _ HB1.out).mono ?_
 rintro e w2 ⟨rfl,hb2⟩
 have HU11:=hid (HU1.out.below (hb2))
 have HV12:=hid (HU2.out.below (hb2))
 have HB13:=hid (HB1.out.trans ((hb2).mono HB1.out.size))
 clear HU1 HU2 HB1
 clear hb2
 cases q1:fewU u
 ·rw [q1] at HF1
  go_wp2_with (refine wpList_load_mid rfl 29 _ rfl U1 0 rfl (urlC u pu) _ (url_range HU11.out) Tryz.underlying29 rfl info_url ?_)
  refine (HF1.out _ HB13.out).mono ?_
  rintro e w3 ⟨rfl,hb3⟩
  have HU14:=hid (HU11.out.below (hb3))
  have HV15:=hid (HV12.out.below (hb3))
  have HB16:=hid (HB13.out.trans ((hb3).mono HB13.out.size))
  clear HU11 HV12 HB13
  clear hb3
  go_wp2_with fail
  refine (HFst.out _ HB16.out).mono ?_
  rintro e w4 ⟨rfl,hb4⟩
  have HU17:=hid (HU14.out.below (hb4))
  have HV18:=hid (HV15.out.below (hb4))
  have HB19:=hid (HB16.out.trans ((hb4).mono HB16.out.size))
  clear HU14 HV15 HB16
  clear hb4
  go_wp2_with fail
  go_ret
  exact ⟨rfl,HB19.out⟩
 ·rw [q1] at HF1
  go_wp2_with (refine wpList_load_mid rfl 29 _ rfl U1 0 rfl (urlC u pu) _ (url_range HU11.out) Tryz.underlying29 rfl info_url ?_)
  refine (HF1.out _ HB13.out).mono ?_
  rintro e w3 ⟨rfl,hb3⟩
  have HU14:=hid (HU11.out.below (hb3))
  have HV15:=hid (HV12.out.below (hb3))
  have HB16:=hid (HB13.out.trans ((hb3).mono HB13.out.size))
  clear HU11 HV12 HB13
  clear hb3
  cases q2:fewU v
  ·rw [q2] at HF2
   go_wp2_with (refine load_onX (by rfl) 29 _ rfl U2 0 rfl (urlC v pv) _ (url_range HV15.out) Tryz.underlying29 rfl info_url ?_)
   refine (HF2.out _ HB16.out).mono ?_
   rintro e w4 ⟨rfl,hb4⟩
   have HU17:=hid (HU14.out.below (hb4))
   have HV18:=hid (HV15.out.below (hb4))
   have HB19:=hid (HB16.out.trans ((hb4).mono HB16.out.size))
   clear HU14 HV15 HB16
   clear hb4
   go_wp2_with fail
   refine (HFst.out _ HB19.out).mono ?_
   rintro e w5 ⟨rfl,hb5⟩
   have HU20:=hid (HU17.out.below (hb5))
   have HV21:=hid (HV18.out.below (hb5))
   have HB22:=hid (HB19.out.trans ((hb5).mono HB19.out.size))
   clear HU17 HV18 HB19
   clear hb5
   go_wp2_with fail
   go_ret
   exact ⟨rfl,HB22.out⟩
  ·rw [q2] at HF2
   go_wp2_with (refine load_onX (by rfl) 29 _ rfl U2 0 rfl (urlC v pv) _ (url_range HV15.out) Tryz.underlying29 rfl info_url ?_)
   refine (HF2.out _ HB16.out).mono ?_
   rintro e w4 ⟨rfl,hb4⟩
   have HU17:=hid (HU14.out.below (hb4))
   have HV18:=hid (HV15.out.below (hb4))
   have HB19:=hid (HB16.out.trans ((hb4).mono HB16.out.size))
   clear HU14 HV15 HB16
   clear hb4
   have g1:=fewU_true q1
   have g2:=fewU_true q2
   unfold sumU at g1 g2
   have n1:u.sch.length≤100000:=by omega
   have n2:u.host.2.1.length≤100000:=by omega
   have n3:v.sch.length≤100000:=by omega
   have n4:v.host.2.1.length≤100000:=by omega
   have HM1:=hid (fun w t=>hmayN_calls u.host w ⟨KU.out.1,KU.out.2.1,KU.out.2.2,n2⟩ t)
   have HM2:=hid (fun w t=>hmayN_calls v.host w ⟨KV.out.1,KV.out.2.1,KV.out.2.2,n4⟩ t)
   have HO1:=hid (fun w=>sorigin_calls u pu w n1 n2)
   have HO2:=hid (fun w=>sorigin_calls v pv w n3 n4)
   have HK1:Hid (OrgOk (originN u).1):=hid (origin_ok n1 ⟨KU.out.1,KU.out.2.1,KU.out.2.2,n2⟩ KP.out.1 KP.out.2)
   have HK2:Hid (OrgOk (originN v).1):=hid (origin_ok n3 ⟨KV.out.1,KV.out.2.1,KV.out.2.2,n4⟩ KQ.out.1 KQ.out.2)
   clear g1 g2 n1 n2 n3 n4 q1 q2 KU KP KV KQ HF1 HF2
   cases q3:mayR u.host
   ·rw [q3] at HM1
    go_wp2_with (refine load_onX (by rfl) 26 _ rfl U1 4 rfl (hstC u.host) _ (host_rangeX HU17.out) Tryz.underlying26 rfl info_hst ?_)
    refine (HM1.out _ (HT.out _ HB19.out)).mono ?_
    rintro e w5 ⟨rfl,hb5⟩
    have HU20:=hid (HU17.out.below (hb5))
    have HV21:=hid (HV18.out.below (hb5))
    have HB22:=hid (HB19.out.trans ((hb5).mono HB19.out.size))
    clear HU17 HV18 HB19
    clear hb5
    go_wp2_with fail
    refine (HFst.out _ HB22.out).mono ?_
    rintro e w6 ⟨rfl,hb6⟩
    have HU23:=hid (HU20.out.below (hb6))
    have HV24:=hid (HV21.out.below (hb6))
    have HB25:=hid (HB22.out.trans ((hb6).mono HB22.out.size))
    clear HU20 HV21 HB22
    clear hb6
    go_wp2_with fail
    go_ret
    exact ⟨rfl,HB25.out⟩
   ·rw [q3] at HM1
    go_wp2_with (refine load_onX (by rfl) 26 _ rfl U1 4 rfl (hstC u.host) _ (host_rangeX HU17.out) Tryz.underlying26 rfl info_hst ?_)
    refine (HM1.out _ (HT.out _ HB19.out)).mono ?_
    rintro e w5 ⟨rfl,hb5⟩
    have HU20:=hid (HU17.out.below (hb5))
    have HV21:=hid (HV18.out.below (hb5))
    have HB22:=hid (HB19.out.trans ((hb5).mono HB19.out.size))
    clear HU17 HV18 HB19
    clear hb5
    cases q4:mayR v.host
    ·rw [q4] at HM2
     go_wp2_with (refine load_onX (by rfl) 26 _ rfl U2 4 rfl (hstC v.host) _ (host_rangeX HV21.out) Tryz.underlying26 rfl info_hst ?_)
     refine (HM2.out _ (HT.out _ HB22.out)).mono ?_
     rintro e w6 ⟨rfl,hb6⟩
     have HU23:=hid (HU20.out.below (hb6))
     have HV24:=hid (HV21.out.below (hb6))
     have HB25:=hid (HB22.out.trans ((hb6).mono HB22.out.size))
     clear HU20 HV21 HB22
     clear hb6
     go_wp2_with fail
     refine (HFst.out _ HB25.out).mono ?_
     rintro e w7 ⟨rfl,hb7⟩
     have HU26:=hid (HU23.out.below (hb7))
     have HV27:=hid (HV24.out.below (hb7))
     have HB28:=hid (HB25.out.trans ((hb7).mono HB25.out.size))
     clear HU23 HV24 HB25
     clear hb7
     go_wp2_with fail
     go_ret
     exact ⟨rfl,HB28.out⟩
    ·rw [q4] at HM2
     go_wp2_with (refine load_onX (by rfl) 26 _ rfl U2 4 rfl (hstC v.host) _ (host_rangeX HV21.out) Tryz.underlying26 rfl info_hst ?_)
     refine (HM2.out _ (HT.out _ HB22.out)).mono ?_
     rintro e w6 ⟨rfl,hb6⟩
     have HU23:=hid (HU20.out.below (hb6))
     have HV24:=hid (HV21.out.below (hb6))
     have HB25:=hid (HB22.out.trans ((hb6).mono HB22.out.size))
     clear HU20 HV21 HB22
     clear hb6
     have HX1:=hid (fun h=>org_txt (u:=u) h q3)
     have HX2:=hid (fun h=>org_txt (u:=v) h q4)
     clear q3 q4 HM1 HM2
     generalize originN u=Ou at *
     generalize originN v=Ov at *
     obtain ⟨o,e0⟩:=Ou
     obtain ⟨c,g0⟩:=Ov
     go_wp2_with (refine wpList_load_mid rfl 29 _ rfl U1 0 rfl (urlC u pu) _ (url_range HU23.out) Tryz.underlying29 rfl info_url ?_)
     refine (HO1.out _).mono ?_
     rintro e w7 ⟨rfl,hb7⟩
     have HU26:=hid (HU23.out.below (hb7))
     have HV27:=hid (HV24.out.below (hb7))
     have HB28:=hid (HB25.out.trans ((hb7).mono HB25.out.size))
     clear HU23 HV24 HB25
     clear hb7
     have HNn:=hid (new_org w7 o)
     have HU29:=hid (HU26.out.below (HNn.out.2))
     have HV30:=hid (HV27.out.below (HNn.out.2))
     have HB31:=hid (HB28.out.trans ((HNn.out.2).mono HB28.out.size))
     clear HU26 HV27 HB28
     have HA32:=hid HNn.out.1
     clear HNn
     go_upto_region 6 with (refine wpList_store_mid rfl 35 _ _ rfl w7.heap.size 0 (orgC o).toArray rfl rfl (new_there _) info_org (org_one _) ?_;try simp only [List.toList_toArray];generalize (w7.alloc (.cells #[.string ⟨#[]⟩,.int .i64 0,.string ⟨#[]⟩,.int .u32 0,.int .u16 0,.int .u16 0,.int .u16 0,.int .u16 0,.int .u16 0,.int .u16 0,.int .u16 0,.int .u16 0,.int .i64 0] OT)).setCells w7.heap.size 0 (orgC o)=w8 at *;generalize w7.heap.size=O1 at *)
     go_wp2_with (refine wpList_load_mid rfl 29 _ rfl U2 0 rfl (urlC v pv) _ (url_range HV30.out) Tryz.underlying29 rfl info_url ?_)
     refine (HO2.out _).mono ?_
     rintro e w9 ⟨rfl,hb9⟩
     have HU33:=hid (HU29.out.below (hb9))
     have HV34:=hid (HV30.out.below (hb9))
     have HA35:=hid (HA32.out.below (hb9))
     have HB36:=hid (HB31.out.trans ((hb9).mono HB31.out.size))
     clear HU29 HV30 HA32 HB31
     clear hb9
     have HNn:=hid (new_org w9 c)
     have HU37:=hid (HU33.out.below (HNn.out.2))
     have HV38:=hid (HV34.out.below (HNn.out.2))
     have HA39:=hid (HA35.out.below (HNn.out.2))
     have HB40:=hid (HB36.out.trans ((HNn.out.2).mono HB36.out.size))
     clear HU33 HV34 HA35 HB36
     have HB41:=hid HNn.out.1
     clear HNn
     go_upto_region 7 with (refine wpList_store_mid rfl 35 _ _ rfl w9.heap.size 0 (orgC c).toArray rfl rfl (new_there _) info_org (org_one _) ?_;try simp only [List.toList_toArray];generalize (w9.alloc (.cells #[.string ⟨#[]⟩,.int .i64 0,.string ⟨#[]⟩,.int .u32 0,.int .u16 0,.int .u16 0,.int .u16 0,.int .u16 0,.int .u16 0,.int .u16 0,.int .u16 0,.int .u16 0,.int .i64 0] OT)).setCells w9.heap.size 0 (orgC c)=w10 at *;generalize w9.heap.size=O2 at *)
     clear HO1 HO2 HU37 HV38
     have ca1:=(HA39.out.cell 1 rfl).1
     have ca12:=(HA39.out.cell 12 rfl).1
     have cb1:=(HB41.out.cell 1 rfl).1
     have cb12:=(HB41.out.cell 12 rfl).1
     obtain ⟨pa,hpa⟩:∃x,o.2.2=x:=⟨_,rfl⟩
     obtain ⟨ka,hka⟩:∃x,o.2.1.1=x:=⟨_,rfl⟩
     obtain ⟨pb,hpb⟩:∃x,c.2.2=x:=⟨_,rfl⟩
     obtain ⟨kb,hkb⟩:∃x,c.2.1.1=x:=⟨_,rfl⟩
     rw [hka] at ca1
     rw [hpa] at ca12
     rw [hkb] at cb1
     rw [hpb] at cb12
     have HPa:=hid hpa
     have HKa:=hid hka
     have HPb:=hid hpb
     have HKb:=hid hkb
     clear hpa hka hpb hkb
     cases e0
     ·go_wp2_with fail
      refine (HFst.out _ HB40.out).mono ?_
      rintro e w11 ⟨rfl,hb11⟩
      have HA42:=hid (HA39.out.below (hb11))
      have HB43:=hid (HB41.out.below (hb11))
      have HB44:=hid (HB40.out.trans ((hb11).mono HB40.out.size))
      clear HA39 HB41 HB40
      clear hb11
      go_wp2_with fail
      go_ret
      exact ⟨rfl,HB44.out⟩
     ·cases g0
      ·go_wp2_with fail
       refine (HFst.out _ HB40.out).mono ?_
       rintro e w11 ⟨rfl,hb11⟩
       have HA42:=hid (HA39.out.below (hb11))
       have HB43:=hid (HB41.out.below (hb11))
       have HB44:=hid (HB40.out.trans ((hb11).mono HB40.out.size))
       clear HA39 HB41 HB40
       clear hb11
       go_wp2_with fail
       go_ret
       exact ⟨rfl,HB44.out⟩
      ·by_cases t1:pa < (1:Int)
       ·go_wp2_with fail
        refine (HFst.out _ HB40.out).mono ?_
        rintro e w11 ⟨rfl,hb11⟩
        have HA42:=hid (HA39.out.below (hb11))
        have HB43:=hid (HB41.out.below (hb11))
        have HB44:=hid (HB40.out.trans ((hb11).mono HB40.out.size))
        clear HA39 HB41 HB40
        clear hb11
        go_wp2_with fail
        go_ret
        exact ⟨rfl,HB44.out⟩
       ·by_cases t2:(65535:Int) < pa
        ·go_wp2_with fail
         refine (HFst.out _ HB40.out).mono ?_
         rintro e w11 ⟨rfl,hb11⟩
         have HA42:=hid (HA39.out.below (hb11))
         have HB43:=hid (HB41.out.below (hb11))
         have HB44:=hid (HB40.out.trans ((hb11).mono HB40.out.size))
         clear HA39 HB41 HB40
         clear hb11
         go_wp2_with fail
         go_ret
         exact ⟨rfl,HB44.out⟩
        ·by_cases t3:pb < (1:Int)
         ·go_wp2_with fail
          refine (HFst.out _ HB40.out).mono ?_
          rintro e w11 ⟨rfl,hb11⟩
          have HA42:=hid (HA39.out.below (hb11))
          have HB43:=hid (HB41.out.below (hb11))
          have HB44:=hid (HB40.out.trans ((hb11).mono HB40.out.size))
          clear HA39 HB41 HB40
          clear hb11
          go_wp2_with fail
          go_ret
          exact ⟨rfl,HB44.out⟩
         ·by_cases t4:(65535:Int) < pb
          ·go_wp2_with fail
           refine (HFst.out _ HB40.out).mono ?_
           rintro e w11 ⟨rfl,hb11⟩
           have HA42:=hid (HA39.out.below (hb11))
           have HB43:=hid (HB41.out.below (hb11))
           have HB44:=hid (HB40.out.trans ((hb11).mono HB40.out.size))
           clear HA39 HB41 HB40
           clear hb11
           go_wp2_with fail
           go_ret
           exact ⟨rfl,HB44.out⟩
          ·by_cases t5:ka < (1:Int)
           ·go_wp2_with fail
            refine (HFst.out _ HB40.out).mono ?_
            rintro e w11 ⟨rfl,hb11⟩
            have HA42:=hid (HA39.out.below (hb11))
            have HB43:=hid (HB41.out.below (hb11))
            have HB44:=hid (HB40.out.trans ((hb11).mono HB40.out.size))
            clear HA39 HB41 HB40
            clear hb11
            go_wp2_with fail
            go_ret
            exact ⟨rfl,HB44.out⟩
           ·by_cases t6:(3:Int) < ka
            ·go_wp2_with fail
             refine (HFst.out _ HB40.out).mono ?_
             rintro e w11 ⟨rfl,hb11⟩
             have HA42:=hid (HA39.out.below (hb11))
             have HB43:=hid (HB41.out.below (hb11))
             have HB44:=hid (HB40.out.trans ((hb11).mono HB40.out.size))
             clear HA39 HB41 HB40
             clear hb11
             go_wp2_with fail
             go_ret
             exact ⟨rfl,HB44.out⟩
            ·by_cases t7:kb < (1:Int)
             ·go_wp2_with fail
              refine (HFst.out _ HB40.out).mono ?_
              rintro e w11 ⟨rfl,hb11⟩
              have HA42:=hid (HA39.out.below (hb11))
              have HB43:=hid (HB41.out.below (hb11))
              have HB44:=hid (HB40.out.trans ((hb11).mono HB40.out.size))
              clear HA39 HB41 HB40
              clear hb11
              go_wp2_with fail
              go_ret
              exact ⟨rfl,HB44.out⟩
             ·by_cases t8:(3:Int) < kb
              ·go_wp2_with fail
               refine (HFst.out _ HB40.out).mono ?_
               rintro e w11 ⟨rfl,hb11⟩
               have HA42:=hid (HA39.out.below (hb11))
               have HB43:=hid (HB41.out.below (hb11))
               have HB44:=hid (HB40.out.trans ((hb11).mono HB40.out.size))
               clear HA39 HB41 HB40
               clear hb11
               go_wp2_with fail
               go_ret
               exact ⟨rfl,HB44.out⟩
              ·have HA:Hid (TxtO o):=hid ⟨(HX1.out rfl).1,(HX1.out rfl).2,by rw [HKa.out];omega,by rw [HKa.out];omega,by rw [HPa.out];omega,by rw [HPa.out];omega⟩
               have HC:Hid (TxtO c):=hid ⟨(HX2.out rfl).1,(HX2.out rfl).2,by rw [HKb.out];omega,by rw [HKb.out];omega,by rw [HPb.out];omega,by rw [HPb.out];omega⟩
               have HI:Hid (textN o=textN c↔o=c):=hid ⟨text_inj HA.out HC.out,fun e=>by rw [e]⟩
               have HE:Hid (sameO o c=true↔o=c):=hid (sameO_iff HK1.out.2.1.1 HK2.out.2.1.1)
               obtain ⟨U,E,hU,hUs,hUl⟩:=text_any HA.out
               have HP1:=hid (fun w t=>stext_ok o w HK1.out t)
               have HP2:=hid (fun w t=>stext_ok c w HK2.out t)
               have HPr:=hid (fun w T=>uparse_calls (strOf (textN o)) w T)
               have y1:(strOf (textN o)).data.toList=textN o:=rfl
               rw [y1,hU] at HPr
               clear y1
               have hs1:U.sch.length≤100000:=by rcases hUs with h | rfl;(rw [h.1];exact HK1.out.1);exact (by decide)
               have hs2:U.host.2.1.length≤100000:=by rcases hUs with h | rfl;(rw [h.2];exact HK1.out.2.1.2.2.2);exact (by decide)
               have HOr:=hid (fun pw w=>sorigin_calls U pw w hs1 hs2)
               have hsz:(strOf (textN o)).size=(textN o).length:=rfl
               rw [← hsz] at hUl
               have HL:=hid hUl
               obtain ⟨tt,htt⟩:∃tt,sameO o c=tt:=⟨_,rfl⟩
               have HTT:Hid (((strOf (textN o)).toList==(strOf (textN c)).toList)=tt):=by
                show _=_
                rw [strOf_list,strOf_list,← htt,Bool.eq_iff_iff,HE.out,← HI.out,beq_iff_eq]
               have HSO:Hid (sameO o c=tt):=hid htt
               clear hU hUs hUl hs1 hs2 hsz htt HI HE HA HC HX1 HX2 HK1 HK2 HPa HKa HPb HKb
               generalize strOf (textN o)=T1 at *
               generalize strOf (textN c)=T2 at *
               go_upto_region 9 with fail
               clear ca1 ca12 cb1 cb12 t1 t2 t3 t4 t5 t6 t7 t8
               have HSd:Hid (SxAt w w10.drew O1 O2 o c):=hid ⟨HB40.out.drew,HA39.out.below ((Below.refl w10.heap.size w10).drew),HB41.out.below ((Below.refl w10.heap.size w10).drew)⟩
               clear HA39 HB41 HB40
               refine wp_region_held_drew (S:=fun w'=>SxAt w w' O1 O2 o c) (by kernel_rfl) ?_ (fun hHeld=>?_)
               ·exact HSd.out
               clear HSd
               generalize w10.drew=wd at *
               refine' wpAnyH_take (i:=0) (v:=_) (by simp only [List.getElem?_toArray,List.getElem?_cons_succ,List.getElem?_cons_zero];rfl) (by kernel_rfl) (by kernel_rfl) (by kernel_rfl) (by intro _ _ _ h;exact h) (yieldsIf_load_mid (by rfl) 35 _ rfl O1 0 rfl (orgC o) _ (fun w h=>org_range h.2.1) Tryz.underlying35 rfl info_org) hHeld ?r0
               try simp only [Act.put,List.setIfInBounds_toArray,List.set_cons_zero,List.set_cons_succ]
               refine' wpAnyH_take (i:=2) (v:=_) (by simp only [List.getElem?_toArray,List.getElem?_cons_succ,List.getElem?_cons_zero];rfl) (by kernel_rfl) (by kernel_rfl) (by kernel_rfl) (by intro _ _ _ h;exact h) (yieldsIf_load_mid (by rfl) 35 _ rfl O2 0 rfl (orgC c) _ (fun w h=>org_range h.2.2) Tryz.underlying35 rfl info_org) hHeld ?r2
               try simp only [Act.put,List.setIfInBounds_toArray,List.set_cons_zero,List.set_cons_succ]
               refine' wpAnyH_one (i:=1) (v:=.string T1) (by kernel_rfl) (by simp only [List.getElem?_toArray,List.getElem?_cons_succ,List.getElem?_cons_zero];rfl) ?g1 hHeld ?r1
               case g1=>(intro wq hq K hK;try simp only [Act.put,List.setIfInBounds_toArray,List.set_cons_zero,List.set_cons_succ];go_simp;refine (HP1.out _ (HT.out _ hq.1)).mono ?_;rintro e w2 ⟨rfl,hb⟩;have hq2:=SxAt.below hq hb;clear hb;go_wp2_with fail;exact hK.out _ hq2)
               clear hHeld
               intro wn hHeld
               clear wd
               try simp only [Act.put,List.setIfInBounds_toArray,List.set_cons_zero,List.set_cons_succ]
               refine' wpAnyH_one (i:=3) (v:=.string T2) (by kernel_rfl) (by simp only [List.getElem?_toArray,List.getElem?_cons_succ,List.getElem?_cons_zero];rfl) ?g3 hHeld ?r3
               case g3=>(intro wq hq K hK;try simp only [Act.put,List.setIfInBounds_toArray,List.set_cons_zero,List.set_cons_succ];go_simp;refine (HP2.out _ (HT.out _ hq.1)).mono ?_;rintro e w2 ⟨rfl,hb⟩;have hq2:=SxAt.below hq hb;clear hb;go_wp2_with fail;exact hK.out _ hq2)
               clear hHeld
               intro wn hHeld
               try clear wd
               rename_i wd
               try simp only [Act.put,List.setIfInBounds_toArray,List.set_cons_zero,List.set_cons_succ]
               refine' wpAnyH_take (i:=4) (v:=?_) (by simp only [List.getElem?_toArray,List.getElem?_cons_succ,List.getElem?_cons_zero];rfl) (by kernel_rfl) (by kernel_rfl) (by kernel_rfl) (by intro _ _ _ h;exact h) (Or.inl ⟨by rfl,?hy4⟩) hHeld ?r4
               case hy4=>(intro w hSw;clear hSw;go_simp;try with_reducible rfl)
               try simp only [Act.put,List.setIfInBounds_toArray,List.set_cons_zero,List.set_cons_succ]
               refine' wpAnyH_take (i:=5) (v:=?_) (by simp only [List.getElem?_toArray,List.getElem?_cons_succ,List.getElem?_cons_zero];rfl) (by kernel_rfl) (by kernel_rfl) (by kernel_rfl) (by intro _ _ _ h;exact h) (Or.inl ⟨by rfl,?hy5⟩) hHeld ?r5
               case hy5=>(intro w hSw;clear hSw;go_simp;try with_reducible rfl)
               try simp only [Act.put,List.setIfInBounds_toArray,List.set_cons_zero,List.set_cons_succ]
               refine wpAnyH_done (by kernel_rfl) ?_ _
               have HBq:=hid hHeld.1
               have HAq:=hid hHeld.2.1
               have HCq:=hid hHeld.2.2
               clear hHeld HP1 HP2
               go_wp2_with fail
               refine (HPr.out _ (HT.out _ HBq.out).r).mono ?_
               rintro e w11 ⟨⟨pw,rfl,hp⟩,hb11⟩
               have HA42:=hid (HAq.out.below (hb11))
               have HB43:=hid (HCq.out.below (hb11))
               have HB44:=hid (HBq.out.trans ((hb11).mono HBq.out.size))
               clear HAq HCq HBq
               clear hb11
               have hpw:pw.oneCell'=true:=by obtain ⟨a,cap,hpv,-⟩:=hp.row;rw [hpv];rfl
               have HOW:=hid (url_one U pw hpw)
               clear hp hpw HPr
               have HNn:=hid (new_url w11 U pw)
               have HA45:=hid (HA42.out.below (HNn.out.2))
               have HB46:=hid (HB43.out.below (HNn.out.2))
               have HB47:=hid (HB44.out.trans ((HNn.out.2).mono HB44.out.size))
               clear HA42 HB43 HB44
               have HW48:=hid HNn.out.1
               clear HNn
               go_upto_region 11 with (refine wpList_store_mid rfl 29 _ _ rfl w11.heap.size 0 (urlC U pw).toArray rfl rfl (new_urlT _) info_url HOW.out ?_;try simp only [List.toList_toArray];generalize (w11.alloc (.cells #[.string ⟨#[]⟩,.string ⟨#[]⟩,.string ⟨#[]⟩,.bool false,.int .i64 0,.string ⟨#[]⟩,.int .u32 0,.int .u16 0,.int .u16 0,.int .u16 0,.int .u16 0,.int .u16 0,.int .u16 0,.int .u16 0,.int .u16 0,.int .i64 0,.bool false,.string ⟨#[]⟩,.slice none 0 0,.bool false,.string ⟨#[]⟩,.bool false,.string ⟨#[]⟩] UT)).setCells w11.heap.size 0 (urlC U pw)=w12 at *;generalize w11.heap.size=WB at *)
               go_wp2_with (refine wpList_load_mid rfl 29 _ rfl WB 0 rfl (urlC U pw) _ (url_range HW48.out) Tryz.underlying29 rfl info_url ?_)
               refine (HOr.out pw _).mono ?_
               rintro e w13 ⟨rfl,hb13⟩
               have HA49:=hid (HA45.out.below (hb13))
               have HB50:=hid (HB46.out.below (hb13))
               have HW51:=hid (HW48.out.below (hb13))
               have HB52:=hid (HB47.out.trans ((hb13).mono HB47.out.size))
               clear HA45 HB46 HW48 HB47
               clear hb13
               clear HOr HOW HW51
               generalize originN U=Oz at *
               obtain ⟨z,z0⟩:=Oz
               have HNn:=hid (new_org w13 z)
               have HA53:=hid (HA49.out.below (HNn.out.2))
               have HB54:=hid (HB50.out.below (HNn.out.2))
               have HB55:=hid (HB52.out.trans ((HNn.out.2).mono HB52.out.size))
               clear HA49 HB50 HB52
               have HZ56:=hid HNn.out.1
               clear HNn
               go_upto_region 12 with (refine wpList_store_mid rfl 35 _ _ rfl w13.heap.size 0 (orgC z).toArray rfl rfl (new_there _) info_org (org_one _) ?_;try simp only [List.toList_toArray];generalize (w13.alloc (.cells #[.string ⟨#[]⟩,.int .i64 0,.string ⟨#[]⟩,.int .u32 0,.int .u16 0,.int .u16 0,.int .u16 0,.int .u16 0,.int .u16 0,.int .u16 0,.int .u16 0,.int .u16 0,.int .i64 0] OT)).setCells w13.heap.size 0 (orgC z)=w14 at *;generalize w13.heap.size=O3 at *)
               by_cases hlong:4000 < T1.size
               ·have hl:(4000:Int) < (T1.size:Int):=by omega
                clear hlong HL
                have hq1:=fun w=>eqi_org o c w
                have hq2:=fun w=>eqx_org o c w
                rw [HSO.out] at hq1 hq2
                have htt:=HTT.out
                clear HSO HTT
                go_wp2_with fail
                refine (HFst.out _ HB55.out).mono ?_
                rintro e w15 ⟨rfl,hb15⟩
                have HA57:=hid (HA53.out.below (hb15))
                have HB58:=hid (HB54.out.below (hb15))
                have HZ59:=hid (HZ56.out.below (hb15))
                have HB60:=hid (HB55.out.trans ((hb15).mono HB55.out.size))
                clear HA53 HB54 HZ56 HB55
                clear hb15
                go_wp2_with (first | refine load_onX (by rfl) 35 _ rfl O1 0 rfl (orgC o) _ (org_range HA57.out) Tryz.underlying35 rfl info_org ?_ | refine load_onX (by rfl) 35 _ rfl O2 0 rfl (orgC c) _ (org_range HB58.out) Tryz.underlying35 rfl info_org ?_)
                go_ret
                exact ⟨by first | rfl | (simp;done) | simp_all,HB60.out⟩
               ·have hl:¬(4000:Int) < (T1.size:Int):=by omega
                obtain ⟨rfl,hz⟩:=HL.out.resolve_left hlong
                have hz1:z=o:=(Prod.mk.inj hz).1
                have hz2:z0=true:=(Prod.mk.inj hz).2
                clear hz
                subst hz1
                subst hz2
                have hq3:=fun w=>eqi_org z z w
                have hq4:=fun w=>eqx_org z z w
                rw [sameO_self] at hq3 hq4
                clear hlong HL
                have hq1:=fun w=>eqi_org z c w
                have hq2:=fun w=>eqx_org z c w
                rw [HSO.out] at hq1 hq2
                have htt:=HTT.out
                clear HSO HTT
                go_wp2_with fail
                refine (HFst.out _ HB55.out).mono ?_
                rintro e w15 ⟨rfl,hb15⟩
                have HA57:=hid (HA53.out.below (hb15))
                have HB58:=hid (HB54.out.below (hb15))
                have HZ59:=hid (HZ56.out.below (hb15))
                have HB60:=hid (HB55.out.trans ((hb15).mono HB55.out.size))
                clear HA53 HB54 HZ56 HB55
                clear hb15
                go_wp2_with (first | refine load_onX (by rfl) 35 _ rfl O1 0 rfl (orgC z) _ (org_range HA57.out) Tryz.underlying35 rfl info_org ?_ | refine load_onX (by rfl) 35 _ rfl O2 0 rfl (orgC c) _ (org_range HB58.out) Tryz.underlying35 rfl info_org ?_ | refine load_onX (by rfl) 35 _ rfl O3 0 rfl (orgC z) _ (org_range HZ59.out) Tryz.underlying35 rfl info_org ?_)
                go_ret
                exact ⟨by first | rfl | (simp;done) | simp_all,HB60.out⟩
end Go.Proofs.YtigfgloenjoeoaaGreatDoor
