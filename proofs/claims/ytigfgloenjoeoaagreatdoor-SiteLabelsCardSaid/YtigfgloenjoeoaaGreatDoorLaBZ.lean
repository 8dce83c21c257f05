import Derived.Test.YtigfgloenjoeoaaGreatDoorLaBW
import Derived.Test.YtigfgloenjoeoaaGreatDoorLaBF
import Derived.MapKept
import Derived.Test.YtigfgloenjoeoaaGreatDoorLaBX
import Derived.Test.YtigfgloenjoeoaaGreatDoorLaBJ
import Derived.Test.YtigfgloenjoeoaaGreatDoorLaBL
set_option linter.unusedVariables false
set_option linter.unusedSimpArgs false
set_option maxRecDepth 20000
set_option maxHeartbeats 16000000
namespace Go.Proofs.YtigfgloenjoeoaaGreatDoor
open Go.RowKit
theorem eq_hostD (d:Nat) (k:Int) (s:ByteArray) (n p0 p1 p2 p3 p4 p5 p6 p7:Nat) (k':Int) (s':ByteArray) (n' q0 q1 q2 q3 q4 q5 q6 q7:Nat) (w:World):(Op.equalIn (d+1+1+1) 26 (.agg #[.int .i64 k,.string s,.int .u32 (n:Int),.int .u16 (p0:Int),.int .u16 (p1:Int),.int .u16 (p2:Int),.int .u16 (p3:Int),.int .u16 (p4:Int),.int .u16 (p5:Int),.int .u16 (p6:Int),.int .u16 (p7:Int)]) (.agg #[.int .i64 k',.string s',.int .u32 (n':Int),.int .u16 (q0:Int),.int .u16 (q1:Int),.int .u16 (q2:Int),.int .u16 (q3:Int),.int .u16 (q4:Int),.int .u16 (q5:Int),.int .u16 (q6:Int),.int .u16 (q7:Int)])).run Tryz.prog w=.ok (sameV k s n p0 p1 p2 p3 p4 p5 p6 p7 k' s' n' q0 q1 q2 q3 q4 q5 q6 q7) w:=by
 have e8:=fun d w=>eq_arrD d (p0:Int) (p1:Int) (p2:Int) (p3:Int) (p4:Int) (p5:Int) (p6:Int) (p7:Int) (q0:Int) (q1:Int) (q2:Int) (q3:Int) (q4:Int) (q5:Int) (q6:Int) (q7:Int) w
 have u1:=Tryz.underlying3
 have u2:=Tryz.underlying9
 have u3:=Tryz.underlying22
 have a1:=Tryz.isAgg3
 have a2:=Tryz.isAgg9
 have a3:=Tryz.isAgg22
 have a4:=Tryz.isAgg24
 have z4:=Tryz.sizeOf24
 rw [run_equalIn_struct (P:=Tryz.prog) w (d+1+1) 26 _ _ (by kernel_rfl) (by kernel_rfl)]
 simp only [Program.fieldsOf,Tryz.underlying26]
 go_simp
 unfold sameV
 by_cases h1:k=k'
 ·by_cases h2:s.toList=s'.toList
  ·by_cases h3:(n:Int)=(n':Int)
   ·cases same8 (p0:Int) (p1:Int) (p2:Int) (p3:Int) (p4:Int) (p5:Int) (p6:Int) (p7:Int) (q0:Int) (q1:Int) (q2:Int) (q3:Int) (q4:Int) (q5:Int) (q6:Int) (q7:Int)<;>simp [h1,h2,h3]
   ·simp [h1,h2,h3]
  ·simp [h1,h2]
 ·simp [h1]
def sameQ (t:ByteArray) (k:Int) (s:ByteArray) (n p0 p1 p2 p3 p4 p5 p6 p7:Nat) (r:Int) (t':ByteArray) (k':Int) (s':ByteArray) (n' q0 q1 q2 q3 q4 q5 q6 q7:Nat) (r':Int):Bool:=t.toList==t'.toList&&(sameV k s n p0 p1 p2 p3 p4 p5 p6 p7 k' s' n' q0 q1 q2 q3 q4 q5 q6 q7&&r==r')
theorem eq_orgL (t:ByteArray) (k:Int) (s:ByteArray) (n p0 p1 p2 p3 p4 p5 p6 p7:Nat) (r:Int) (t':ByteArray) (k':Int) (s':ByteArray) (n' q0 q1 q2 q3 q4 q5 q6 q7:Nat) (r':Int) (w:World):(Op.equalIn 10000 OT (.agg #[.string t,.int .i64 k,.string s,.int .u32 (n:Int),.int .u16 (p0:Int),.int .u16 (p1:Int),.int .u16 (p2:Int),.int .u16 (p3:Int),.int .u16 (p4:Int),.int .u16 (p5:Int),.int .u16 (p6:Int),.int .u16 (p7:Int),.int .i64 r]) (.agg #[.string t',.int .i64 k',.string s',.int .u32 (n':Int),.int .u16 (q0:Int),.int .u16 (q1:Int),.int .u16 (q2:Int),.int .u16 (q3:Int),.int .u16 (q4:Int),.int .u16 (q5:Int),.int .u16 (q6:Int),.int .u16 (q7:Int),.int .i64 r'])).run Tryz.prog w=.ok (sameQ t k s n p0 p1 p2 p3 p4 p5 p6 p7 r t' k' s' n' q0 q1 q2 q3 q4 q5 q6 q7 r') w:=by
 have eh:=fun w=>eq_hostD 9996 k s n p0 p1 p2 p3 p4 p5 p6 p7 k' s' n' q0 q1 q2 q3 q4 q5 q6 q7 w
 have u1:=Tryz.underlying3
 have u2:=Tryz.underlying9
 have a1:=Tryz.isAgg3
 have a2:=Tryz.isAgg9
 have a4:=Tryz.isAgg26
 have z4:=Tryz.sizeOf26
 rw [show (10000:Nat)=9996+1+1+1+1 from rfl,run_equalIn_struct (P:=Tryz.prog) w (9996+1+1+1) 35 _ _ (by kernel_rfl) (by kernel_rfl)]
 simp only [Program.fieldsOf,Tryz.underlying35]
 go_simp
 unfold sameQ
 by_cases h1:t.toList=t'.toList
 ·cases sameV k s n p0 p1 p2 p3 p4 p5 p6 p7 k' s' n' q0 q1 q2 q3 q4 q5 q6 q7<;>by_cases h3:r=r'<;>simp [h1,h3]
 ·simp [h1]
end Go.Proofs.YtigfgloenjoeoaaGreatDoor
namespace Go.Proofs.YtigfgloenjoeoaaGreatDoor
open Go.RowKit Go.Shelf
theorem wpList_load_on {ops:Array Oper} {rest:List Oper} {op:Oper} {a:Act} {w:World} {Q:Exit→Act→World→Prop} (hw:Region.wanted op (yielded ops a.tmps)=true) (ty:TypeId) (x:Operand) (ho:op.op=.load ty x)
 (b o:Nat) (hx:a.eval x=.pointer (some ⟨b,o,none⟩)) (cs:List Value) (d:TypeDesc) (hc:w.rangeAt b o cs)
 (hu:Tryz.prog.underlying ty=some d) (hd:d.isRow=true) (hi:(Tryz.prog.info? ty).map (·.size)=some cs.length)
 (h:wpList Tryz.prog ops Q rest (a.put op.dst (.agg cs.toArray)) w):wpList Tryz.prog ops Q (op::rest) a w:=by
 refine wpList_step fun K hK=>?_
 rw [if_pos hw]
 exact wp_load_mid ty x ho b o hx cs d hc hu hd hi (hK _ _ h)
theorem join_of (a b:List UInt8):strOf a++strOf b=strOf (a++b):=by
 show ByteArray.append _ _=_
 apply ByteArray.ext
 simp [strOf]
theorem eq_same (o:OrgN) (w:World):(Op.equalIn 10000 OT (.agg (orgC o).toArray) (.agg (orgC o).toArray)).run Tryz.prog w=.ok true w:=by
 have h:=eq_orgL (strOf o.1) o.2.1.1 (strOf o.2.1.2.1) o.2.1.2.2.1 (o.2.1.2.2.2.getD 0 0) (o.2.1.2.2.2.getD 1 0) (o.2.1.2.2.2.getD 2 0) (o.2.1.2.2.2.getD 3 0) (o.2.1.2.2.2.getD 4 0) (o.2.1.2.2.2.getD 5 0) (o.2.1.2.2.2.getD 6 0) (o.2.1.2.2.2.getD 7 0) o.2.2 (strOf o.1) o.2.1.1 (strOf o.2.1.2.1) o.2.1.2.2.1 (o.2.1.2.2.2.getD 0 0) (o.2.1.2.2.2.getD 1 0) (o.2.1.2.2.2.getD 2 0) (o.2.1.2.2.2.getD 3 0) (o.2.1.2.2.2.getD 4 0) (o.2.1.2.2.2.getD 5 0) (o.2.1.2.2.2.getD 6 0) (o.2.1.2.2.2.getD 7 0) o.2.2 w
 have e:∀(t:ByteArray) (k:Int) (s:ByteArray) (n p0 p1 p2 p3 p4 p5 p6 p7:Nat) (r:Int),sameQ t k s n p0 p1 p2 p3 p4 p5 p6 p7 r t k s n p0 p1 p2 p3 p4 p5 p6 p7 r=true:=by
  intros
  unfold sameQ
  rw [sameV_iff]
  simp
 rw [e] at h
 exact h
theorem siteLabels_walk (s1 s2:ByteArray) (v:Value) (l:List (List UInt8)) (w:World) (T:TabR w) (hv:SRowIp w v l) :
 Calls Tryz.prog 5 #[.string s1,.string s2,v] w fun e w'=>e=.returned (.bool true)∧Below w.heap.size w w':=by
 have HT:Hid (∀w',Below w.heap.size w w'→TabR w'):=fun w' hb=>T.below hb
 have HV:Hid (∀w',Below w.heap.size w w'→SRowIp w' v l):=fun w' hb=>hv.below hb
 have HFw:=hid (fun w' hb=>few_calls v l w' (HV.out w' hb))
 have HFst:=hid (fun w' (hb:Below w.heap.size w w')=>sfirst_calls w' (HT.out w' hb))
 obtain ⟨va,vcap,hve,-⟩:=hv
 subst hve
 clear T
 go_enter Tryz.func5,Tryz.ntmps5
 go_wp2_with fail
 refine (HFst.out _ (Below.refl _ _)).mono ?_
 rintro e w1 ⟨rfl,hb1⟩
 have HB1:=hid (hb1)
 clear hb1
 by_cases c1:40 < s1.size
 ·have c1i:(40:Int) < (s1.size:Int):=by omega
  go_wp2_with fail
  refine (HFst.out _ HB1.out).mono ?_
  rintro e w2 ⟨rfl,hb2⟩
  have HB2:=hid (HB1.out.trans ((hb2).mono HB1.out.size))
  clear HB1
  clear hb2
  go_wp2_with fail
  go_ret
  exact ⟨rfl,HB2.out⟩
 ·have c1i:¬(40:Int) < (s1.size:Int):=by omega
  by_cases c2:200 < s2.size
  ·have c2i:(200:Int) < (s2.size:Int):=by omega
   go_wp2_with fail
   refine (HFst.out _ HB1.out).mono ?_
   rintro e w2 ⟨rfl,hb2⟩
   have HB2:=hid (HB1.out.trans ((hb2).mono HB1.out.size))
   clear HB1
   clear hb2
   go_wp2_with fail
   go_ret
   exact ⟨rfl,HB2.out⟩
  ·have c2i:¬(200:Int) < (s2.size:Int):=by omega
   cases hf:fewS l
   ·rw [hf] at HFw
    go_wp2_with fail
    refine (HFw.out _ HB1.out).mono ?_
    rintro e wq ⟨rfl,hw⟩
    subst hw
    go_wp2_with fail
    refine (HFst.out _ HB1.out).mono ?_
    rintro e w2 ⟨rfl,hb2⟩
    have HB2:=hid (HB1.out.trans ((hb2).mono HB1.out.size))
    clear HB1
    clear hb2
    go_wp2_with fail
    go_ret
    exact ⟨rfl,HB2.out⟩
   ·rw [hf] at HFw
    obtain ⟨f1,f2⟩:=fewS_true hf
    have HSuf:Hid (∀(n:List UInt8) (w:World),n.length≤100000→SRowIp w (.slice va l.length vcap) l→Calls Tryz.prog 16 #[.string (strOf n),.slice va l.length vcap] w fun e w2=>e=.returned (.string (strOf (suffixN n l)))∧Below w.heap.size w w2):=hid (fun n w hn hv=>ssuffix_calls (strOf n) (.slice va l.length vcap) l w hn hv (by omega) (fun q hq=>Nat.le_trans (f2 q hq) (by omega)))
    have HSit:=hid (fun u pv w h1 h2 hv=>ssite_calls u pv (.slice va l.length vcap) l w h1 h2 hv (by omega) (fun q hq=>Nat.le_trans (f2 q hq) (by omega)))
    have b1:(s1.size:Int)≤40:=by omega
    have b2:(s2.size:Int)≤200:=by omega
    have d1:=of_data s1
    have d2:=of_data s2
    have z1:=bytes_num s1
    have z2:=bytes_num s2
    have j1:(⟨#[104,116,116,112,115,58,47,47]⟩:ByteArray)++s2=strOf (preS++s2.data.toList):=by have h:=join_of preS s2.data.toList;rw [← d2] at h;exact h
    have j2:strOf (preS++s2.data.toList)++(⟨#[47]⟩:ByteArray)=strOf (preS++(s2.data.toList++[47])):=(join_of _ [47]).trans (by rw [List.append_assoc])
    have j3:(⟨#[104,116,116,112,115,58,47,47]⟩:ByteArray)++s1=strOf (preS++s1.data.toList):=by have h:=join_of preS s1.data.toList;rw [← d1] at h;exact h
    have j4:strOf (preS++s1.data.toList)++(⟨#[46]⟩:ByteArray)=strOf (preS++s1.data.toList++[46]):=join_of _ [46]
    have j5:strOf (preS++s1.data.toList++[46])++s2=strOf (preS++s1.data.toList++[46]++s2.data.toList):=by have h:=join_of (preS++s1.data.toList++[46]) s2.data.toList;rw [← d2] at h;exact h
    have j6:strOf (preS++s1.data.toList++[46]++s2.data.toList)++(⟨#[47]⟩:ByteArray)=strOf (preS++(s1.data.toList++[46]++s2.data.toList++[47])):=(join_of _ [47]).trans (by simp only [List.append_assoc])
    have q1:((strOf (preS++s2.data.toList)).size:Int)≤1000:=by show (((preS++s2.data.toList).length:Nat):Int)≤1000;rw [List.length_append,z2];show (((8:Nat)+s2.size:Nat):Int)≤1000;omega
    have q3:((strOf (preS++s1.data.toList)).size:Int)≤1000:=by show (((preS++s1.data.toList).length:Nat):Int)≤1000;rw [List.length_append,z1];show (((8:Nat)+s1.size:Nat):Int)≤1000;omega
    have q4:((strOf (preS++s1.data.toList++[46])).size:Int)≤1000:=by show (((preS++s1.data.toList++[46]).length:Nat):Int)≤1000;rw [List.length_append,List.length_append,z1];show (((8:Nat)+s1.size+1:Nat):Int)≤1000;omega
    have q5:((strOf (preS++s1.data.toList++[46]++s2.data.toList)).size:Int)≤1000:=by show (((preS++s1.data.toList++[46]++s2.data.toList).length:Nat):Int)≤1000;rw [List.length_append,List.length_append,List.length_append,z1,z2];show (((8:Nat)+s1.size+1+s2.size:Nat):Int)≤1000;omega
    have HA1:=hid (ht_url (s2.data.toList++[47]))
    have HA2:=hid (ht_url (s1.data.toList++[46]++s2.data.toList++[47]))
    have HP1:=hid (fun w T=>uparse_calls (strOf (preS++(s2.data.toList++[47]))) w T)
    have HP2:=hid (fun w T=>uparse_calls (strOf (preS++(s1.data.toList++[46]++s2.data.toList++[47]))) w T)
    have y1:(strOf (preS++(s2.data.toList++[47]))).data.toList=preS++(s2.data.toList++[47]):=rfl
    have y2:(strOf (preS++(s1.data.toList++[46]++s2.data.toList++[47]))).data.toList=preS++(s1.data.toList++[46]++s2.data.toList++[47]):=rfl
    rw [y1] at HP1
    rw [y2] at HP2
    generalize urlR (preS++(s2.data.toList++[47])) url0 false=A1 at *
    generalize urlR (preS++(s1.data.toList++[46]++s2.data.toList++[47])) url0 false=A2 at *
    generalize strOf (preS++(s2.data.toList++[47]))=T1 at *
    generalize strOf (preS++(s1.data.toList++[46]++s2.data.toList++[47]))=T2 at *
    generalize strOf (preS++s1.data.toList++[46]++s2.data.toList)=T5 at *
    generalize strOf (preS++s1.data.toList++[46])=T4 at *
    generalize strOf (preS++s1.data.toList)=T3 at *
    generalize strOf (preS++s2.data.toList)=T0 at *
    clear d1 d2 z1 z2 y1 y2 hf f1 f2
    obtain ⟨u,e1⟩:=A1
    obtain ⟨u2,e2⟩:=A2
    go_wp2_with fail
    refine (HFw.out _ HB1.out).mono ?_
    rintro e wq ⟨rfl,hw⟩
    subst hw
    go_wp2_with fail
    refine (HP1.out _ (HT.out _ HB1.out)).mono ?_
    rintro e w2 ⟨⟨pv1,rfl,hp1⟩,hbp⟩
    have hpv1:=path_one hp1
    have HB2:=hid (HB1.out.trans ((hbp).mono HB1.out.size))
    clear HB1
    clear hbp hp1 HP1 j1 j2 q1
    have HNn:=hid (new_url w2 u pv1)
    have HB3:=hid (HB2.out.trans ((HNn.out.2).mono HB2.out.size))
    clear HB2
    have HU4:=hid HNn.out.1
    clear HNn
    go_upto_region 6 with (refine wpList_store_mid rfl 29 _ _ rfl w2.heap.size 0 (urlC u pv1).toArray rfl rfl (new_urlT _) info_url (url_one _ _ hpv1) ?_;try simp only [List.toList_toArray];generalize (w2.alloc (.cells #[.string ⟨#[]⟩,.string ⟨#[]⟩,.string ⟨#[]⟩,.bool false,.int .i64 0,.string ⟨#[]⟩,.int .u32 0,.int .u16 0,.int .u16 0,.int .u16 0,.int .u16 0,.int .u16 0,.int .u16 0,.int .u16 0,.int .u16 0,.int .i64 0,.bool false,.string ⟨#[]⟩,.slice none 0 0,.bool false,.string ⟨#[]⟩,.bool false,.string ⟨#[]⟩] UT)).setCells w2.heap.size 0 (urlC u pv1)=w3 at *;generalize w2.heap.size=U1 at *)
    go_wp2_with fail
    refine (HP2.out _ (HT.out _ HB3.out)).mono ?_
    rintro e w4 ⟨⟨pv2,rfl,hp2⟩,hbp⟩
    have hpv2:=path_one hp2
    have HU5:=hid (HU4.out.below (hbp))
    have HB6:=hid (HB3.out.trans ((hbp).mono HB3.out.size))
    clear HU4 HB3
    clear hbp hp2 HP2 j3 j4 j5 j6 q3 q4 q5 hpv1
    have HNn:=hid (new_url w4 u2 pv2)
    have HU7:=hid (HU5.out.below (HNn.out.2))
    have HB8:=hid (HB6.out.trans ((HNn.out.2).mono HB6.out.size))
    clear HU5 HB6
    have HV9:=hid HNn.out.1
    clear HNn
    go_upto_region 7 with (refine wpList_store_mid rfl 29 _ _ rfl w4.heap.size 0 (urlC u2 pv2).toArray rfl rfl (new_urlT _) info_url (url_one _ _ hpv2) ?_;try simp only [List.toList_toArray];generalize (w4.alloc (.cells #[.string ⟨#[]⟩,.string ⟨#[]⟩,.string ⟨#[]⟩,.bool false,.int .i64 0,.string ⟨#[]⟩,.int .u32 0,.int .u16 0,.int .u16 0,.int .u16 0,.int .u16 0,.int .u16 0,.int .u16 0,.int .u16 0,.int .u16 0,.int .i64 0,.bool false,.string ⟨#[]⟩,.slice none 0 0,.bool false,.string ⟨#[]⟩,.bool false,.string ⟨#[]⟩] UT)).setCells w4.heap.size 0 (urlC u2 pv2)=w5 at *;generalize w4.heap.size=U2 at *)
    clear hpv2 c1 c2 c1i c2i b1 b2
    have k1:=(HU7.out.cell 4 rfl).1
    have k2:=(HV9.out.cell 4 rfl).1
    by_cases r1:¬e1=0
    ·have r1b:((e1:Int) != 0)=true:=by rw [bne_iff_ne];omega
     go_wp2_with fail
     refine (HFst.out _ HB8.out).mono ?_
     rintro e w6 ⟨rfl,hb6⟩
     have HU10:=hid (HU7.out.below (hb6))
     have HV11:=hid (HV9.out.below (hb6))
     have HB12:=hid (HB8.out.trans ((hb6).mono HB8.out.size))
     clear HU7 HV9 HB8
     clear hb6
     go_wp2_with fail
     go_ret
     exact ⟨rfl,HB12.out⟩
    replace r1:=Decidable.of_not_not r1
    subst r1
    by_cases r2:¬e2=0
    ·have r2b:((e2:Int) != 0)=true:=by rw [bne_iff_ne];omega
     go_wp2_with fail
     refine (HFst.out _ HB8.out).mono ?_
     rintro e w6 ⟨rfl,hb6⟩
     have HU10:=hid (HU7.out.below (hb6))
     have HV11:=hid (HV9.out.below (hb6))
     have HB12:=hid (HB8.out.trans ((hb6).mono HB8.out.size))
     clear HU7 HV9 HB8
     clear hb6
     go_wp2_with fail
     go_ret
     exact ⟨rfl,HB12.out⟩
    replace r2:=Decidable.of_not_not r2
    subst r2
    have P1:=hid (HA1.out rfl)
    have P2:=hid (HA2.out rfl)
    clear HA1 HA2
    by_cases r3:¬u.host.1=1
    ·have r3b:(u.host.1 != 1)=true:=bne_iff_ne.2 r3
     go_wp2_with fail
     refine (HFst.out _ HB8.out).mono ?_
     rintro e w6 ⟨rfl,hb6⟩
     have HU10:=hid (HU7.out.below (hb6))
     have HV11:=hid (HV9.out.below (hb6))
     have HB12:=hid (HB8.out.trans ((hb6).mono HB8.out.size))
     clear HU7 HV9 HB8
     clear hb6
     go_wp2_with fail
     go_ret
     exact ⟨rfl,HB12.out⟩
    replace r3:=Decidable.of_not_not r3
    by_cases r4:¬u2.host.1=1
    ·have r4b:(u2.host.1 != 1)=true:=bne_iff_ne.2 r4
     rw [r3] at k1
     go_wp2_with fail
     refine (HFst.out _ HB8.out).mono ?_
     rintro e w6 ⟨rfl,hb6⟩
     have HU10:=hid (HU7.out.below (hb6))
     have HV11:=hid (HV9.out.below (hb6))
     have HB12:=hid (HB8.out.trans ((hb6).mono HB8.out.size))
     clear HU7 HV9 HB8
     clear hb6
     go_wp2_with fail
     go_ret
     exact ⟨rfl,HB12.out⟩
    replace r4:=Decidable.of_not_not r4
    rw [r3] at k1
    rw [r4] at k2
    have S1:=hid (ht_site P1.out r3 l)
    have S2:=hid (ht_site P2.out r4 l)
    have M1:=hid P1.out.2.2.2
    have M2:=hid P2.out.2.2.2
    have sc1:Hid (u.sch.length≤100000):=by show _≤_;rw [P1.out.1];decide
    have sc2:Hid (u2.sch.length≤100000):=by show _≤_;rw [P2.out.1];decide
    have n1:=(HU7.out.cell 5 rfl).1
    have n2:=(HV9.out.cell 5 rfl).1
    clear P1 P2
    have HS1:Hid (∀w,SRowIp w (.slice va l.length vcap) l→Calls Tryz.prog 13 #[.agg (urlC u pv1).toArray,.slice va l.length vcap] w fun e w2=>OrgPost ((hts,(1,siteW u.host.2.1 (suffixN u.host.2.1 l),0,z8),0),true) w e w2):=by intro w hv;rw [← S1.out];exact HSit.out u pv1 w sc1.out (Nat.le_trans M1.out (by decide)) hv
    have HS2:Hid (∀w,SRowIp w (.slice va l.length vcap) l→Calls Tryz.prog 13 #[.agg (urlC u2 pv2).toArray,.slice va l.length vcap] w fun e w2=>OrgPost ((hts,(1,siteW u2.host.2.1 (suffixN u2.host.2.1 l),0,z8),0),true) w e w2):=by intro w hv;rw [← S2.out];exact HSit.out u2 pv2 w sc2.out (Nat.le_trans M2.out (by decide)) hv
    clear HSit S1 S2 sc1 sc2
    obtain ⟨nu,hnu⟩:∃x,u.host.2.1=x:=⟨_,rfl⟩
    obtain ⟨nv,hnv⟩:∃x,u2.host.2.1=x:=⟨_,rfl⟩
    rw [hnu] at n1 HS1 M1
    rw [hnv] at n2 HS2 M2
    have HNU:=hid hnu
    have HNv:=hid hnv
    clear hnu hnv
    have a1:((strOf nu).size:Int)≤12000:=Int.ofNat_le.2 M1.out
    have a2:((strOf nv).size:Int)≤12000:=Int.ofNat_le.2 M2.out
    have sz1:(strOf nu).size=nu.length:=rfl
    have sz2:(strOf nv).size=nv.length:=rfl
    go_upto_region 9 with fail
    by_cases hk:¬nu.length+1≤nv.length
    ·obtain ⟨y,hy⟩:∃y:Int,((strOf nv).size:Int)-((strOf nu).size:Int)=y:=⟨_,rfl⟩
     obtain ⟨z,hz⟩:∃z:Int,y-1=z:=⟨_,rfl⟩
     have hy2:IntKind.wrap .i64 y=y:=by rw [IntKind.wrap_i64];omega
     have hz2:IntKind.wrap .i64 z=z:=by rw [IntKind.wrap_i64];omega
     have hz3:z < 0:=by rw [sz1,sz2] at hy;omega
     have hz4:decide (z < 0)=true:=decide_eq_true hz3
     clear sz1 sz2 a1 a2
     go_upto_region 10 with fail
     go_region
     have HU10:=hid (HU7.out.below ((Below.refl w5.heap.size w5).drew))
     have HV11:=hid (HV9.out.below ((Below.refl w5.heap.size w5).drew))
     have HB12:=hid (HB8.out.trans (((Below.refl w5.heap.size w5).drew).mono HB8.out.size))
     clear HU7 HV9 HB8
     generalize w5.drew=w6 at *
     clear hy hz n1 n2 k1 k2
     go_wp2_with fail
     refine (HFst.out _ HB12.out).mono ?_
     rintro e w7 ⟨rfl,hb7⟩
     have HU13:=hid (HU10.out.below (hb7))
     have HV14:=hid (HV11.out.below (hb7))
     have HB15:=hid (HB12.out.trans ((hb7).mono HB12.out.size))
     clear HU10 HV11 HB12
     clear hb7
     go_wp2_with fail
     go_ret
     exact ⟨rfl,HB15.out⟩
    replace hk:=Decidable.of_not_not hk
    obtain ⟨kN,hkN⟩:∃kN,nv.length-nu.length-1=kN:=⟨_,rfl⟩
    have y1:((strOf nv).size:Int)-((strOf nu).size:Int)=((kN+1:Nat):Int):=by rw [sz1,sz2];omega
    obtain ⟨k9,hk9⟩:∃k9,kN+1=k9:=⟨_,rfl⟩
    rw [hk9] at y1
    have y2:IntKind.wrap .i64 (k9:Int)=(k9:Int):=by rw [IntKind.wrap_i64];have:=M2.out;omega
    have y3:(k9:Int)-1=(kN:Int):=by omega
    have y4:IntKind.wrap .i64 (kN:Int)=(kN:Int):=by rw [IntKind.wrap_i64];have:=M2.out;omega
    have y5:¬(kN:Int) < 0:=by omega
    have y5d:decide ((kN:Int) < 0)=false:=decide_eq_false y5
    have y6:(kN:Int)≤((strOf nv).size:Int):=by rw [sz2];omega
    have y6n:kN≤(strOf nv).size:=by rw [sz2];omega
    have y7:(strOf nv).extract kN (strOf nv).size=strOf (nv.drop kN):=by rw [cut_mid (strOf nv) kN (strOf nv).size (Nat.le_refl _),List.take_of_length_le (by show (nv.drop kN).length≤_;rw [List.length_drop];exact Nat.le_refl _)];rfl
    have j7:(⟨#[46]⟩:ByteArray)++strOf nu=strOf (46::nu):=join_of [46] nu
    have t1:(strOf (nv.drop kN)).toList=nv.drop kN:=ByteArray.toList_eq _
    have t2:(strOf (46::nu)).toList=46::nu:=ByteArray.toList_eq _
    by_cases heq:¬nv.drop kN=46::nu
    ·have t3:((strOf (nv.drop kN)).toList==(strOf (46::nu)).toList)=false:=by rw [t1,t2];exact beq_eq_false_iff_ne.2 heq
     have t4:¬(strOf (nv.drop kN)).toList=(strOf (46::nu)).toList:=by rw [t1,t2];exact heq
     clear t1 t2 sz1 sz2 hk hkN hk9 heq
     generalize strOf (nv.drop kN)=X at *
     generalize strOf (46::nu)=Y at *
     go_upto_region 10 with fail
     go_region
     have HU10:=hid (HU7.out.below ((Below.refl w5.heap.size w5).drew))
     have HV11:=hid (HV9.out.below ((Below.refl w5.heap.size w5).drew))
     have HB12:=hid (HB8.out.trans (((Below.refl w5.heap.size w5).drew).mono HB8.out.size))
     clear HU7 HV9 HB8
     generalize w5.drew=w6 at *
     clear n1 n2 k1 k2
     go_wp2_with fail
     refine (HFst.out _ HB12.out).mono ?_
     rintro e w7 ⟨rfl,hb7⟩
     have HU13:=hid (HU10.out.below (hb7))
     have HV14:=hid (HV11.out.below (hb7))
     have HB15:=hid (HB12.out.trans ((hb7).mono HB12.out.size))
     clear HU10 HV11 HB12
     clear hb7
     go_wp2_with fail
     go_ret
     exact ⟨rfl,HB15.out⟩
    replace heq:=Decidable.of_not_not heq
    have t3:((strOf (nv.drop kN)).toList==(strOf (46::nu)).toList)=true:=by rw [t1,t2,heq];simp
    have t4:(strOf (nv.drop kN)).toList=(strOf (46::nu)).toList:=by rw [t1,t2,heq]
    have HNV:Hid (∃x,nv=x++46::nu):=⟨nv.take kN,by rw [← heq,List.take_append_drop]⟩
    clear t1 t2 sz1 sz2 hk hkN hk9 heq
    generalize strOf (nv.drop kN)=X at *
    generalize strOf (46::nu)=Y at *
    go_upto_region 10 with fail
    go_region
    have HU10:=hid (HU7.out.below ((Below.refl w5.heap.size w5).drew))
    have HV11:=hid (HV9.out.below ((Below.refl w5.heap.size w5).drew))
    have HB12:=hid (HB8.out.trans (((Below.refl w5.heap.size w5).drew).mono HB8.out.size))
    clear HU7 HV9 HB8
    generalize w5.drew=w6 at *
    clear y1 y2 y3 y4 y5 y5d y6 y6n y7 j7 t3 t4 k1 k2
    clear n1 n2
    have n1:=(HU10.out.cell 5 rfl).1
    rw [HNU.out] at n1
    have FT1:=hid (suffix_fits nu l)
    have FT2:=hid (suffix_fits nv l)
    have FL1:=hid (suffix_len nu l)
    have FL2:=hid (suffix_len nv l)
    have HSu1:=hid (fun w hv=>HSuf.out nu w (Nat.le_trans M1.out (by decide)) hv)
    have HSu2:=hid (fun w hv=>HSuf.out nv w (Nat.le_trans M2.out (by decide)) hv)
    clear HSuf
    generalize suffixN nu l=sf at *
    generalize suffixN nv l=sf2 at *
    go_wp2_with fail
    refine (HSu1.out _ (HV.out _ HB12.out)).mono ?_
    rintro e w7 ⟨rfl,hb7⟩
    have HU13:=hid (HU10.out.below (hb7))
    have HV14:=hid (HV11.out.below (hb7))
    have HB15:=hid (HB12.out.trans ((hb7).mono HB12.out.size))
    clear HU10 HV11 HB12
    clear hb7
    clear n1
    go_wp2_with (refine wpList_load_mid rfl 29 _ rfl U1 0 rfl (urlC u pv1) _ (url_range HU13.out) Tryz.underlying29 rfl info_url ?_)
    refine (HS1.out _ (HV.out _ HB15.out)).mono ?_
    rintro e w8 ⟨rfl,hb8⟩
    have HU16:=hid (HU13.out.below (hb8))
    have HV17:=hid (HV14.out.below (hb8))
    have HB18:=hid (HB15.out.trans ((hb8).mono HB15.out.size))
    clear HU13 HV14 HB15
    clear hb8
    have HNn:=hid (new_org w8 (hts,(1,siteW nu sf,0,z8),0))
    have HU19:=hid (HU16.out.below (HNn.out.2))
    have HV20:=hid (HV17.out.below (HNn.out.2))
    have HB21:=hid (HB18.out.trans ((HNn.out.2).mono HB18.out.size))
    clear HU16 HV17 HB18
    have HA22:=hid HNn.out.1
    clear HNn
    go_upto_region 14 with (refine wpList_store_mid rfl 35 _ _ rfl w8.heap.size 0 (orgC (hts,(1,siteW nu sf,0,z8),0)).toArray rfl rfl (new_there _) info_org (org_one _) ?_;try simp only [List.toList_toArray];generalize (w8.alloc (.cells #[.string ⟨#[]⟩,.int .i64 0,.string ⟨#[]⟩,.int .u32 0,.int .u16 0,.int .u16 0,.int .u16 0,.int .u16 0,.int .u16 0,.int .u16 0,.int .u16 0,.int .u16 0,.int .i64 0] OT)).setCells w8.heap.size 0 (orgC (hts,(1,siteW nu sf,0,z8),0))=w9 at *;generalize w8.heap.size=O1 at *)
    go_wp2_with (refine wpList_load_mid rfl 29 _ rfl U2 0 rfl (urlC u2 pv2) _ (url_range HV20.out) Tryz.underlying29 rfl info_url ?_)
    refine (HS2.out _ (HV.out _ HB21.out)).mono ?_
    rintro e w10 ⟨rfl,hb10⟩
    have HU23:=hid (HU19.out.below (hb10))
    have HV24:=hid (HV20.out.below (hb10))
    have HA25:=hid (HA22.out.below (hb10))
    have HB26:=hid (HB21.out.trans ((hb10).mono HB21.out.size))
    clear HU19 HV20 HA22 HB21
    clear hb10
    have HNn:=hid (new_org w10 (hts,(1,siteW nv sf2,0,z8),0))
    have HU27:=hid (HU23.out.below (HNn.out.2))
    have HV28:=hid (HV24.out.below (HNn.out.2))
    have HA29:=hid (HA25.out.below (HNn.out.2))
    have HB30:=hid (HB26.out.trans ((HNn.out.2).mono HB26.out.size))
    clear HU23 HV24 HA25 HB26
    have HB31:=hid HNn.out.1
    clear HNn
    go_upto_region 15 with (refine wpList_store_mid rfl 35 _ _ rfl w10.heap.size 0 (orgC (hts,(1,siteW nv sf2,0,z8),0)).toArray rfl rfl (new_there _) info_org (org_one _) ?_;try simp only [List.toList_toArray];generalize (w10.alloc (.cells #[.string ⟨#[]⟩,.int .i64 0,.string ⟨#[]⟩,.int .u32 0,.int .u16 0,.int .u16 0,.int .u16 0,.int .u16 0,.int .u16 0,.int .u16 0,.int .u16 0,.int .u16 0,.int .i64 0] OT)).setCells w10.heap.size 0 (orgC (hts,(1,siteW nv sf2,0,z8),0))=w11 at *;generalize w10.heap.size=O2 at *)
    have n2:=(HV28.out.cell 5 rfl).1
    rw [HNv.out] at n2
    go_wp2_with fail
    refine (HSu2.out _ (HV.out _ HB30.out)).mono ?_
    rintro e w12 ⟨rfl,hb12⟩
    have HU32:=hid (HU27.out.below (hb12))
    have HV33:=hid (HV28.out.below (hb12))
    have HA34:=hid (HA29.out.below (hb12))
    have HB35:=hid (HB31.out.below (hb12))
    have HB36:=hid (HB30.out.trans ((hb12).mono HB30.out.size))
    clear HU27 HV28 HA29 HB31 HB30
    clear hb12
    clear n2 HSu1 HSu2 HS1 HS2
    obtain ⟨q,hq⟩:=site_ends nu sf FT1.out
    have hql:(siteW nu sf).length=q.length+sf.length:=by rw [hq,List.length_append]
    have wl:=siteW_len FT1.out
    have m1:=M1.out
    have fl1:=FL1.out
    have a1:((strOf (siteW nu sf)).size:Int)≤12000:=Int.ofNat_le.2 (by show (siteW nu sf).length≤12000;omega)
    have a2:((strOf sf).size:Int)≤12000:=Int.ofNat_le.2 (by show sf.length≤12000;omega)
    have sz1:(strOf (siteW nu sf)).size=(siteW nu sf).length:=rfl
    have sz2:(strOf sf).size=sf.length:=rfl
    have y1:((strOf (siteW nu sf)).size:Int)-((strOf sf).size:Int)=(q.length:Int):=by rw [sz1,sz2];omega
    have y2:IntKind.wrap .i64 (q.length:Int)=(q.length:Int):=by rw [IntKind.wrap_i64];omega
    have y3:¬(q.length:Int) < 0:=by omega
    have y3d:decide ((q.length:Int) < 0)=false:=decide_eq_false y3
    have y4:(q.length:Int)≤((strOf (siteW nu sf)).size:Int):=by rw [sz1];omega
    have y4n:q.length≤(strOf (siteW nu sf)).size:=by rw [sz1];omega
    have y5:(strOf (siteW nu sf)).extract q.length (strOf (siteW nu sf)).size=strOf sf:=by rw [cut_mid _ q.length _ (Nat.le_refl _)];show strOf (((siteW nu sf).drop q.length).take ((siteW nu sf).length-q.length))=_;rw [hq,List.drop_left,List.length_append,Nat.add_sub_cancel_left,List.take_length]
    have x2:=(HA34.out.cell 2 rfl).1
    have t1:(strOf sf).toList=sf:=ByteArray.toList_eq _
    have t2:(strOf sf2).toList=sf2:=ByteArray.toList_eq _
    have t3:(strOf (siteW nu sf)).toList=siteW nu sf:=ByteArray.toList_eq _
    have HSM:Hid (siteW nu sf≠sf→∃q,siteW nu sf=q++46::sf∧(∀x∈q,x≠46)∧∀x:List UInt8,siteW (x++46::nu) sf=siteW nu sf):=hid (fun h=>site_more FT1.out h)
    have HQL:=hid hql
    clear hq hql wl m1 fl1 sz1 sz2
    by_cases r5:¬sf2=sf
    ·have r5a:((strOf sf2).toList==(strOf sf).toList)=false:=by rw [t1,t2];exact beq_eq_false_iff_ne.2 r5
     have r5b:¬(strOf sf2).toList=(strOf sf).toList:=by rw [t1,t2];exact r5
     clear t1 t2 t3 r5
     go_wp2_with fail
     refine (HFst.out _ HB36.out).mono ?_
     rintro e w13 ⟨rfl,hb13⟩
     have HU37:=hid (HU32.out.below (hb13))
     have HV38:=hid (HV33.out.below (hb13))
     have HA39:=hid (HA34.out.below (hb13))
     have HB40:=hid (HB35.out.below (hb13))
     have HB41:=hid (HB36.out.trans ((hb13).mono HB36.out.size))
     clear HU32 HV33 HA34 HB35 HB36
     clear hb13
     go_wp2_with fail
     go_ret
     exact ⟨rfl,HB41.out⟩
    replace r5:=Decidable.of_not_not r5
    subst r5
    by_cases r6:siteW nu sf2=sf2
    ·have r6a:((strOf (siteW nu sf2)).toList==(strOf sf2).toList)=true:=by rw [t1,t3,r6];simp
     have r6b:(strOf (siteW nu sf2)).toList=(strOf sf2).toList:=by rw [t1,t3,r6]
     clear t1 t2 t3 r6
     go_wp2_with fail
     refine (HFst.out _ HB36.out).mono ?_
     rintro e w13 ⟨rfl,hb13⟩
     have HU37:=hid (HU32.out.below (hb13))
     have HV38:=hid (HV33.out.below (hb13))
     have HA39:=hid (HA34.out.below (hb13))
     have HB40:=hid (HB35.out.below (hb13))
     have HB41:=hid (HB36.out.trans ((hb13).mono HB36.out.size))
     clear HU32 HV33 HA34 HB35 HB36
     clear hb13
     go_wp2_with fail
     go_ret
     exact ⟨rfl,HB41.out⟩
    have r6a:((strOf (siteW nu sf2)).toList==(strOf sf2).toList)=false:=by rw [t1,t3];exact beq_eq_false_iff_ne.2 r6
    have r6b:¬(strOf (siteW nu sf2)).toList=(strOf sf2).toList:=by rw [t1,t3];exact r6
    obtain ⟨q2,hq2,hq3,hq4⟩:=HSM.out r6
    have HQ2:=hid hq2
    have HQ3:=hid hq3
    have HQ4:=hid hq4
    have hl2:q.length=q2.length+1:=by have h:=HQL.out;rw [hq2,List.length_append,List.length_cons] at h;omega
    have HL9:=hid hl2
    clear hl2
    clear t1 t2 t3 r6 hq2 hq3 hq4
    go_upto_region 21 with fail
    have eB:siteW nv sf2=siteW nu sf2:=by obtain ⟨x,hx⟩:=HNV.out;rw [hx];exact HQ4.out x
    rw [eB] at HB35
    have HO1:=hid (org_range HA34.out)
    have HO2:=hid (org_range HB35.out)
    have heq1:=fun w=>eq_same (hts,(1,siteW nu sf2,0,z8),0) w
    have heq2:∀w,(Op.equal OT (.agg (orgC (hts,(1,siteW nu sf2,0,z8),0)).toArray) (.agg (orgC (hts,(1,siteW nu sf2,0,z8),0)).toArray)).run Tryz.prog w=.ok true w:=fun w=>eq_same (hts,(1,siteW nu sf2,0,z8),0) w
    have HE1:=hid heq1
    have HE2:=hid heq2
    clear heq1 heq2 eB
    obtain ⟨an,han⟩:∃an,strOf (siteW nu sf2)=an:=⟨_,rfl⟩
    have HAN:Hid (an.data.toList=q2++46::sf2):=by show _=_;rw [← han,← HQ2.out];rfl
    have x2n:=(HA34.out.cell 2 rfl).1
    replace x2n:w12.cell? ⟨O1,2,none⟩=some (.string (strOf (siteW nu sf2))):=x2n
    rw [han] at x2n
    have e1:(q.length:Int)-1=(q2.length:Int):=by have:=HL9.out;omega
    have e3:(q2.length:Int)≤12000:=by have h:=HL9.out;rw [h] at y1;omega
    have e2:IntKind.wrap .i64 (q2.length:Int)=(q2.length:Int):=by rw [IntKind.wrap_i64];omega
    try clear x2
    try clear r6a
    try clear r6b
    clear y1 y2 y3 y3d y4 y4n y5 a1 a2 han HQL
    go_wp2_with fail
    go_loopw [19] (fun i wr=>∃k:Nat,k≤q2.length∧i=.int .i64 k∧wr=w12) (fun i _=>q2.length-(intOf i).toNat)
    case atStart=>exact ⟨0,Nat.zero_le _,rfl,rfl⟩
    case round =>
     obtain ⟨k,hk,rfl,hw⟩:=hrel
     subst hw
     by_cases hlt:k < q2.length
     ·have HAN2:=HAN.out
      have hal:an.data.toList.length=an.size:=bytes_num an
      have his:k < an.size:=by rw [← hal,HAN2,List.length_append];omega
      have hne:an[k]≠46:=by
       have hil:k < an.data.toList.length:=by rw [hal];exact his
       have e:an[k]=an.data.toList[k]:=rfl
       rw [e]
       have e2:an.data.toList[k]=q2[k]:=by simp only [HAN2];exact List.getElem_append_left hlt
       rw [e2]
       exact HQ3.out _ (List.getElem_mem hlt)
      obtain ⟨z,hz⟩:∃z,an[k].toNat=z:=⟨_,rfl⟩
      have v1:((z:Int)==46)=false:=by rw [beq_eq_false_iff_ne,← hz];intro e;exact hne (UInt8.toNat_inj.1 (by show an[k].toNat=46;omega))
      have v2:(z:Int)≠46:=by rw [← beq_eq_false_iff_ne];exact v1
      have v3:(z:Int) < 256:=by have:=an[k].toNat_lt;omega
      have k0:(k:Int) < (q2.length:Int):=by omega
      have k1:(0:Int)≤(k:Int):=by omega
      have k2:(k:Int) < (an.size:Int):=by omega
      clear hne HAN2 hal
      go_wp2_with fail
      go_roundw
      case rel=>exact ⟨k+1,hlt,by go_num,by trivial⟩
      case measure=>simp [intOf];omega
     ·obtain rfl:k=q2.length:=by omega
      have k0:¬(q2.length:Int) < (q2.length:Int):=by omega
      have he1:=HE1.out
      have he2:=HE2.out
      go_wp2_with fail
      refine (HFst.out _ HB36.out).mono ?_
      rintro e w13 ⟨rfl,hb13⟩
      have HU37:=hid (HU32.out.below (hb13))
      have HV38:=hid (HV33.out.below (hb13))
      have HA39:=hid (HA34.out.below (hb13))
      have HB40:=hid (HB35.out.below (hb13))
      have HB41:=hid (HB36.out.trans ((hb13).mono HB36.out.size))
      clear HU32 HV33 HA34 HB35 HB36
      clear hb13
      have HOA:=hid (org_range HA39.out)
      have HOB:=hid (org_range HB40.out)
      go_wp2_with (first | refine wpList_load_on (by rfl) 35 _ rfl O1 0 rfl (orgC (hts,(1,siteW nu sf2,0,z8),0)) _ HOA.out Tryz.underlying35 rfl info_org ?_ | refine wpList_load_on (by rfl) 35 _ rfl O2 0 rfl (orgC (hts,(1,siteW nu sf2,0,z8),0)) _ HOB.out Tryz.underlying35 rfl info_org ?_)
      go_ret
      exact ⟨rfl,HB41.out⟩
end Go.Proofs.YtigfgloenjoeoaaGreatDoor
