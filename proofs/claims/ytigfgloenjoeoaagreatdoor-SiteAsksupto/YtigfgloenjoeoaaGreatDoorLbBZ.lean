import Derived.Test.YtigfgloenjoeoaaGreatDoorLbBY
import Derived.Test.YtigfgloenjoeoaaGreatDoorLbBD
import Derived.Test.YtigfgloenjoeoaaGreatDoorLbBQ
import Derived.Test.YtigfgloenjoeoaaGreatDoorLbBW
import Derived.Test.YtigfgloenjoeoaaGreatDoorLbBP
set_option linter.unusedVariables false
set_option linter.unusedSimpArgs false
set_option maxRecDepth 20000
set_option maxHeartbeats 16000000
namespace Go.Proofs.YtigfgloenjoeoaaGreatDoor
open Go.RowKit Go.Shelf
def textN (o:OrgN):List UInt8:=((o.1++[58,47,47])++printR o.2.1)++(if o.2.2=0 then [] else 58::decI o.2.2)
theorem print4_lenY {n:Nat} (h:n < 4294967296):(print4R n).length≤100:=by
 unfold print4R joinC joinC joinC joinC
 have l1:=dec_len (x:=n/16777216) (by omega)
 have l2:=dec_len (x:=n/65536%256) (by omega)
 have l3:=dec_len (x:=n/256%256) (by omega)
 have l4:=dec_len (x:=n%256) (by omega)
 simp only [List.length_append,List.length_cons,List.length_nil]
 omega
theorem print_lenY {k:Int} {l:List UInt8} {n:Nat} {p:List Nat} (h8:p.length=8) (hx:∀x∈p,x < 65536) (hn:n < 4294967296) (hl:l.length≤100000):(printR (k,l,n,p)).length≤100100:=by
 by_cases h1:k=1∨k=4
 ·rw [print_name h1];omega
 ·by_cases h2:k=2
  ·subst h2;rw [print_four];have:=print4_lenY hn;omega
  ·by_cases h3:k=3
   ·subst h3;rw [print_six];have:=print6_len h8 hx;simp only [List.length_append,List.length_cons,List.length_nil];omega
   ·rw [not_or] at h1;rw [print_none h1.1 h2 h3 h1.2];exact Nat.zero_le _
theorem eightY {l:List Nat} (h:l.length=8):∃y0 y1 y2 y3 y4 y5 y6 y7,l=[y0,y1,y2,y3,y4,y5,y6,y7]:=by
 match l,h with
 | [y0,y1,y2,y3,y4,y5,y6,y7],_=>exact ⟨y0,y1,y2,y3,y4,y5,y6,y7,rfl⟩
theorem stext_calls (o:OrgN) (w:World) (k8:o.2.1.2.2.2.length=8) (kn:o.2.1.2.2.1 < 4294967296) (kx:∀x∈o.2.1.2.2.2,x < 65536) (h1:o.1.length≤100000) (h2:o.2.1.2.1.length≤100000) (hp0:-9223372036854775808≤o.2.2) (hp1:o.2.2≤9223372036854775807) (T:TabH w) :
 Calls Tryz.prog 20 #[.agg (orgC o).toArray] w fun e w'=>e=.returned (.string (strOf (textN o)))∧Below w.heap.size w w':=by
 obtain ⟨sch,⟨k,nm,fr,sx⟩,p⟩:=o
 obtain ⟨y0,y1,y2,y3,y4,y5,y6,y7,hsx⟩:=eightY k8
 change sx=_ at hsx
 subst hsx
 have hP:=print_lenY (k:=k) (l:=nm) k8 kx kn h2
 have HPr:Hid (∀w,TabH w→Calls Tryz.prog 33 #[.agg #[.int .i64 k,.string (strOf nm),.int .u32 (fr:Int),.int .u16 (y0:Int),.int .u16 (y1:Int),.int .u16 (y2:Int),.int .u16 (y3:Int),.int .u16 (y4:Int),.int .u16 (y5:Int),.int .u16 (y6:Int),.int .u16 (y7:Int)]] w fun e w'=>e=.returned (.string (strOf (printR (k,nm,fr,[y0,y1,y2,y3,y4,y5,y6,y7]))))∧Below w.heap.size w w'):=hid (fun w t=>hprint_calls k (strOf nm) fr y0 y1 y2 y3 y4 y5 y6 y7 w kn kx h2 t)
 have HIt:Hid (∀w,TabH w→Calls Tryz.prog 34 #[.int .i64 p] w fun e w'=>e=.returned (.string (strOf (decI p)))∧Below w.heap.size w w'):=hid (fun w t=>itoa_calls p hp0 hp1 w t.1)
 have hD:=decI_len hp0 hp1
 change (decI p).length≤65 at hD
 have HX:Hid (textN (sch,(k,nm,fr,[y0,y1,y2,y3,y4,y5,y6,y7]),p)=((sch++[58,47,47])++printR (k,nm,fr,[y0,y1,y2,y3,y4,y5,y6,y7]))++(if p=0 then [] else 58::decI p)):=hid rfl
 generalize textN (sch,(k,nm,fr,[y0,y1,y2,y3,y4,y5,y6,y7]),p)=X at *
 obtain ⟨P,hPe⟩:∃P,printR (k,nm,fr,[y0,y1,y2,y3,y4,y5,y6,y7])=P:=⟨_,rfl⟩
 obtain ⟨D,hDe⟩:∃D,decI p=D:=⟨_,rfl⟩
 rw [hPe] at HX HPr hP
 rw [hDe] at HX HIt hD
 have TT:=hid T
 have s1:((strOf sch).size:Int)≤100000:=by show ((sch.length:Nat):Int)≤_;have:sch.length≤100000:=h1;omega
 have s2:((strOf P).size:Int)≤100100:=by show ((P.length:Nat):Int)≤_;omega
 have s3:((strOf D).size:Int)≤65:=by show ((D.length:Nat):Int)≤_;omega
 have HC1:Hid ((strOf sch++⟨#[58,47,47]⟩)++strOf P=strOf ((sch++[58,47,47])++P)):=by
  show _=_
  rw [show (⟨#[58,47,47]⟩:ByteArray)=strOf [58,47,47] from rfl,cat_str,cat_str]
 have HC2:Hid (((strOf sch++⟨#[58,47,47]⟩)++strOf P)++((⟨#[58]⟩:ByteArray)++strOf D)=strOf (((sch++[58,47,47])++P)++(58::D))):=by
  show _=_
  rw [HC1.out,show (⟨#[58]⟩:ByteArray)=strOf [58] from rfl,cat_str,cat_str];rfl
 clear hPe hDe hP hD kn kx h1 h2 hp0 hp1 T k8
 obtain ⟨A,hA⟩:∃A,(orgC (sch,(k,nm,fr,[y0,y1,y2,y3,y4,y5,y6,y7]),p)).toArray=A:=⟨_,rfl⟩
 rw [hA]
 have HA:=hid hA
 clear hA
 go_enter Tryz.func20,Tryz.ntmps20
 go_upto_region 1 with fail
 have HU:Hid (Bc OT (w.alloc (.cells A OT)) w.heap.size (orgC (sch,(k,nm,fr,[y0,y1,y2,y3,y4,y5,y6,y7]),p))):=by show _=_;rw [HA.out];exact heap_alloc_new w _
 have HB:Hid (Below w.heap.size w (w.alloc (.cells A OT))):=hid (ballC w _)
 clear HA
 generalize w.alloc (.cells A OT)=w1 at *
 obtain ⟨U,hU⟩:∃U,w.heap.size=U:=⟨_,rfl⟩
 have HUU:Hid (w.heap.size=U):=hid hU
 have HUl:Hid (w.heap.size≤w1.heap.size):=hid HB.out.size
 rw [hU] at HU ⊢
 have HTT:Hid (∀w',Below w.heap.size w w'→TabH w'):=hid (fun w' hb=>TT.out.below hb)
 clear hU TT
 have HF:Hid (∀w',Below w1.heap.size w1 w'→(w'.cell? ⟨U,0,none⟩=some (.string (strOf sch))∧w'.cell? ⟨U,1,none⟩=some (.int .i64 k)∧w'.cell? ⟨U,2,none⟩=some (.string (strOf nm))∧w'.cell? ⟨U,3,none⟩=some (.int .u32 (fr:Int))∧w'.cell? ⟨U,4,none⟩=some (.int .u16 (y0:Int))∧w'.cell? ⟨U,5,none⟩=some (.int .u16 (y1:Int))∧w'.cell? ⟨U,6,none⟩=some (.int .u16 (y2:Int))∧w'.cell? ⟨U,7,none⟩=some (.int .u16 (y3:Int))∧w'.cell? ⟨U,8,none⟩=some (.int .u16 (y4:Int))∧w'.cell? ⟨U,9,none⟩=some (.int .u16 (y5:Int))∧w'.cell? ⟨U,10,none⟩=some (.int .u16 (y6:Int))∧w'.cell? ⟨U,11,none⟩=some (.int .u16 (y7:Int)))):=hid (fun w' hb=>by
  have h:=HU.out.below hb
  exact ⟨(h.cell 0 rfl).1,(h.cell 1 rfl).1,(h.cell 2 rfl).1,(h.cell 3 rfl).1,(h.cell 4 rfl).1,(h.cell 5 rfl).1,(h.cell 6 rfl).1,(h.cell 7 rfl).1,(h.cell 8 rfl).1,(h.cell 9 rfl).1,(h.cell 10 rfl).1,(h.cell 11 rfl).1⟩)
 obtain ⟨c0,c1,c2,c3,c4,c5,c6,c7,c8,c9,c10,c11⟩:=HF.out w1 (Below.refl _ _)
 go_region_with ((go_at_call 33;refine (HPr.out _ (HTT.out _ (HB.out.trans ((Below.refl _ _).drew)))).mono ?_;rintro e wy ⟨rfl,hby⟩;obtain ⟨d0,-⟩:=HF.out wy (((Below.refl _ _).drew).trans hby)))
 all_goals
  have hby2:=((Below.refl w1.heap.size w1).drew).trans hby
  have HBy:=hid (HB.out.trans (hby2.mono HUl.out))
  have c12:wy.cell? ⟨U,12,none⟩=some (.int .i64 p):=((HU.out.below hby2).cell 12 rfl).1
  have HUy:Hid (w.heap.size≤wy.heap.size):=hid (Nat.le_trans HUl.out hby2.size)
  clear hby hby2 HF c0 c1 c2 c3 c4 c5 c6 c7 c8 c9 c10 c11
  try clear d0
  by_cases hp:p=0
  ·subst hp
   rw [if_pos rfl,List.append_nil] at HX
   go_wp2_with fail
   go_ret
   exact ⟨by rw [HX.out,← HC1.out];rfl,HBy.out⟩
  ·rw [if_neg hp] at HX
   have e1:(p != 0)=true:=bne_iff_ne.2 hp
   have e2:(p==0)=false:=beq_eq_false_iff_ne.2 hp
   go_wp2_with fail
   refine (HIt.out _ (HTT.out _ HBy.out)).mono ?_
   rintro e wz ⟨rfl,hbz⟩
   go_wp2_with fail
   go_ret
   exact ⟨by rw [HX.out,← HC2.out];rfl,HBy.out.trans (hbz.mono HUy.out)⟩
theorem rorgtext_calls (o:OrgN) (w:World) (k8:o.2.1.2.2.2.length=8) (kn:o.2.1.2.2.1 < 4294967296) (kx:∀x∈o.2.1.2.2.2,x < 65536) (h1:o.1.length≤100000) (h2:o.2.1.2.1.length≤100000) (hp0:-9223372036854775808≤o.2.2) (hp1:o.2.2≤9223372036854775807) (T:TabH w) :
 Calls Tryz.prog 21 #[.agg (orgC o).toArray] w fun e w'=>e=.returned (.string (strOf (textN o)))∧Below w.heap.size w w':=by
 obtain ⟨sch,⟨k,nm,fr,sx⟩,p⟩:=o
 obtain ⟨y0,y1,y2,y3,y4,y5,y6,y7,hsx⟩:=eightY k8
 change sx=_ at hsx
 subst hsx
 have hP:=print_lenY (k:=k) (l:=nm) k8 kx kn h2
 have HPr:Hid (∀w,TabH w→Calls Tryz.prog 35 #[.agg #[.int .i64 k,.string (strOf nm),.int .u32 (fr:Int),.int .u16 (y0:Int),.int .u16 (y1:Int),.int .u16 (y2:Int),.int .u16 (y3:Int),.int .u16 (y4:Int),.int .u16 (y5:Int),.int .u16 (y6:Int),.int .u16 (y7:Int)]] w fun e w'=>e=.returned (.string (strOf (printR (k,nm,fr,[y0,y1,y2,y3,y4,y5,y6,y7]))))∧Below w.heap.size w w'):=hid (fun w t=>rprint_calls k (strOf nm) fr y0 y1 y2 y3 y4 y5 y6 y7 w kn kx h2)
 have HIt:Hid (∀w,TabH w→Calls Tryz.prog 36 #[.int .i64 p] w fun e w'=>e=.returned (.string (strOf (decI p)))∧Below w.heap.size w w'):=hid (fun w t=>decI_calls p hp0 hp1 w)
 have hD:=decI_len hp0 hp1
 change (decI p).length≤65 at hD
 have HX:Hid (textN (sch,(k,nm,fr,[y0,y1,y2,y3,y4,y5,y6,y7]),p)=((sch++[58,47,47])++printR (k,nm,fr,[y0,y1,y2,y3,y4,y5,y6,y7]))++(if p=0 then [] else 58::decI p)):=hid rfl
 generalize textN (sch,(k,nm,fr,[y0,y1,y2,y3,y4,y5,y6,y7]),p)=X at *
 obtain ⟨P,hPe⟩:∃P,printR (k,nm,fr,[y0,y1,y2,y3,y4,y5,y6,y7])=P:=⟨_,rfl⟩
 obtain ⟨D,hDe⟩:∃D,decI p=D:=⟨_,rfl⟩
 rw [hPe] at HX HPr hP
 rw [hDe] at HX HIt hD
 have TT:=hid T
 have s1:((strOf sch).size:Int)≤100000:=by show ((sch.length:Nat):Int)≤_;have:sch.length≤100000:=h1;omega
 have s2:((strOf P).size:Int)≤100100:=by show ((P.length:Nat):Int)≤_;omega
 have s3:((strOf D).size:Int)≤65:=by show ((D.length:Nat):Int)≤_;omega
 have HC1:Hid ((strOf sch++⟨#[58,47,47]⟩)++strOf P=strOf ((sch++[58,47,47])++P)):=by
  show _=_
  rw [show (⟨#[58,47,47]⟩:ByteArray)=strOf [58,47,47] from rfl,cat_str,cat_str]
 have HC2:Hid (((strOf sch++⟨#[58,47,47]⟩)++strOf P)++((⟨#[58]⟩:ByteArray)++strOf D)=strOf (((sch++[58,47,47])++P)++(58::D))):=by
  show _=_
  rw [HC1.out,show (⟨#[58]⟩:ByteArray)=strOf [58] from rfl,cat_str,cat_str];rfl
 clear hPe hDe hP hD kn kx h1 h2 hp0 hp1 T k8
 obtain ⟨A,hA⟩:∃A,(orgC (sch,(k,nm,fr,[y0,y1,y2,y3,y4,y5,y6,y7]),p)).toArray=A:=⟨_,rfl⟩
 rw [hA]
 have HA:=hid hA
 clear hA
 go_enter Tryz.func21,Tryz.ntmps21
 go_upto_region 1 with fail
 have HU:Hid (Bc OT (w.alloc (.cells A OT)) w.heap.size (orgC (sch,(k,nm,fr,[y0,y1,y2,y3,y4,y5,y6,y7]),p))):=by show _=_;rw [HA.out];exact heap_alloc_new w _
 have HB:Hid (Below w.heap.size w (w.alloc (.cells A OT))):=hid (ballC w _)
 clear HA
 generalize w.alloc (.cells A OT)=w1 at *
 obtain ⟨U,hU⟩:∃U,w.heap.size=U:=⟨_,rfl⟩
 have HUU:Hid (w.heap.size=U):=hid hU
 have HUl:Hid (w.heap.size≤w1.heap.size):=hid HB.out.size
 rw [hU] at HU ⊢
 have HTT:Hid (∀w',Below w.heap.size w w'→TabH w'):=hid (fun w' hb=>TT.out.below hb)
 clear hU TT
 have HF:Hid (∀w',Below w1.heap.size w1 w'→(w'.cell? ⟨U,0,none⟩=some (.string (strOf sch))∧w'.cell? ⟨U,1,none⟩=some (.int .i64 k)∧w'.cell? ⟨U,2,none⟩=some (.string (strOf nm))∧w'.cell? ⟨U,3,none⟩=some (.int .u32 (fr:Int))∧w'.cell? ⟨U,4,none⟩=some (.int .u16 (y0:Int))∧w'.cell? ⟨U,5,none⟩=some (.int .u16 (y1:Int))∧w'.cell? ⟨U,6,none⟩=some (.int .u16 (y2:Int))∧w'.cell? ⟨U,7,none⟩=some (.int .u16 (y3:Int))∧w'.cell? ⟨U,8,none⟩=some (.int .u16 (y4:Int))∧w'.cell? ⟨U,9,none⟩=some (.int .u16 (y5:Int))∧w'.cell? ⟨U,10,none⟩=some (.int .u16 (y6:Int))∧w'.cell? ⟨U,11,none⟩=some (.int .u16 (y7:Int)))):=hid (fun w' hb=>by
  have h:=HU.out.below hb
  exact ⟨(h.cell 0 rfl).1,(h.cell 1 rfl).1,(h.cell 2 rfl).1,(h.cell 3 rfl).1,(h.cell 4 rfl).1,(h.cell 5 rfl).1,(h.cell 6 rfl).1,(h.cell 7 rfl).1,(h.cell 8 rfl).1,(h.cell 9 rfl).1,(h.cell 10 rfl).1,(h.cell 11 rfl).1⟩)
 obtain ⟨c0,c1,c2,c3,c4,c5,c6,c7,c8,c9,c10,c11⟩:=HF.out w1 (Below.refl _ _)
 go_region_with ((go_at_call 35;refine (HPr.out _ (HTT.out _ (HB.out.trans ((Below.refl _ _).drew)))).mono ?_;rintro e wy ⟨rfl,hby⟩;obtain ⟨d0,-⟩:=HF.out wy (((Below.refl _ _).drew).trans hby)))
 all_goals
  have hby2:=((Below.refl w1.heap.size w1).drew).trans hby
  have HBy:=hid (HB.out.trans (hby2.mono HUl.out))
  have c12:wy.cell? ⟨U,12,none⟩=some (.int .i64 p):=((HU.out.below hby2).cell 12 rfl).1
  have HUy:Hid (w.heap.size≤wy.heap.size):=hid (Nat.le_trans HUl.out hby2.size)
  clear hby hby2 HF c0 c1 c2 c3 c4 c5 c6 c7 c8 c9 c10 c11
  try clear d0
  by_cases hp:p=0
  ·subst hp
   rw [if_pos rfl,List.append_nil] at HX
   go_wp2_with fail
   go_ret
   exact ⟨by rw [HX.out,← HC1.out];rfl,HBy.out⟩
  ·rw [if_neg hp] at HX
   have e1:(p != 0)=true:=bne_iff_ne.2 hp
   have e2:(p==0)=false:=beq_eq_false_iff_ne.2 hp
   go_wp2_with fail
   refine (HIt.out _ (HTT.out _ HBy.out)).mono ?_
   rintro e wz ⟨rfl,hbz⟩
   go_wp2_with fail
   go_ret
   exact ⟨by rw [HX.out,← HC2.out];rfl,HBy.out.trans (hbz.mono HUy.out)⟩
end Go.Proofs.YtigfgloenjoeoaaGreatDoor
namespace Go.Proofs.YtigfgloenjoeoaaGreatDoor
def HostOk (h:HostN):Prop:=h.2.2.2.length=8∧h.2.2.1 < 4294967296∧(∀x∈h.2.2.2,x < 65536)∧h.2.1.length≤100000
def OrgOk (o:OrgN):Prop:=o.1.length≤100000∧HostOk o.2.1∧-9223372036854775808≤o.2.2∧o.2.2≤9223372036854775807
theorem org0_ok:OrgOk org0:=by
 refine ⟨by decide,⟨by decide,by decide,by decide,by decide⟩,by decide,by decide⟩
theorem special_le (s:List UInt8):specialN s≤1000:=by
 unfold specialN
 repeat' split
 all_goals decide
theorem origin_ok {u:UrlN} (h1:u.sch.length≤100000) (hh:HostOk u.host) (hp0:-9223372036854775808≤u.port) (hp1:u.port≤9223372036854775807):OrgOk (originN u).1:=by
 unfold originN
 split
 ·exact org0_ok
 ·refine ⟨h1,hh,?_,?_⟩
  ·show _≤(if u.port=-1 then (specialN u.sch:Int) else u.port)
   split<;>omega
  ·show (if u.port=-1 then (specialN u.sch:Int) else u.port)≤_
   have:=special_le u.sch
   split<;>omega
theorem siteW_lenK (n s:List UInt8):(siteW n s).length≤n.length:=by
 unfold siteW
 split
 ·exact Nat.le_refl _
 ·have h:=tail_len (n.take (n.length-s.length-1))
  rw [List.length_take] at h
  rw [List.length_append,List.length_cons]
  omega
theorem site_ok {u:UrlN} {l:List (List UInt8)} (h:OrgOk (originN u).1):OrgOk (siteN u l).1:=by
 unfold siteN
 split
 ·obtain ⟨h1,⟨h2,h3,h4,h5⟩,h6,h7⟩:=h
  refine ⟨h1,?_,(by decide:(-9223372036854775808:Int)≤0),(by decide:(0:Int)≤9223372036854775807)⟩
  show HostOk (nameN (originN u).1.2.1 l)
  unfold nameN
  split
  ·exact ⟨h2,h3,h4,Nat.le_trans (siteW_lenK _ _) h5⟩
  ·exact ⟨h2,h3,h4,h5⟩
 ·exact org0_ok
theorem stext_ok (o:OrgN) (w:World) (h:OrgOk o) (T:TabH w):Calls Tryz.prog 20 #[.agg (orgC o).toArray] w fun e w'=>e=.returned (.string (strOf (textN o)))∧RowKit.Below w.heap.size w w' :=
 stext_calls o w h.2.1.1 h.2.1.2.1 h.2.1.2.2.1 h.1 h.2.1.2.2.2 h.2.2.1 h.2.2.2 T
theorem rtext_ok (o:OrgN) (w:World) (h:OrgOk o) (T:TabH w):Calls Tryz.prog 21 #[.agg (orgC o).toArray] w fun e w'=>e=.returned (.string (strOf (textN o)))∧RowKit.Below w.heap.size w w' :=
 rorgtext_calls o w h.2.1.1 h.2.1.2.1 h.2.1.2.2.1 h.1 h.2.1.2.2.2 h.2.2.1 h.2.2.2 T
theorem sameO_comm {o p:OrgN} (ho:o.2.1.2.2.2.length=8) (hp:p.2.1.2.2.2.length=8):sameO p o=sameO o p:=by
 rw [Bool.eq_iff_iff,sameO_iff ho hp,sameO_iff hp ho]
 exact eq_comm
end Go.Proofs.YtigfgloenjoeoaaGreatDoor
namespace Go.Proofs.YtigfgloenjoeoaaGreatDoor
open Go.RowKit Go.Shelf
def SkAt (w0 w:World) (U1 U2 O1 O2 O3 O4:Nat) (u v:UrlN) (pu pv:Value) (o c:OrgN) (y:Value) (l:List (List UInt8)):Prop :=
 Below w0.heap.size w0 w∧Bc UT w U1 (urlC u pu)∧Bc UT w U2 (urlC v pv)∧Bc OT w O1 (orgC o)∧Bc OT w O2 (orgC o)∧Bc OT w O3 (orgC c)∧Bc OT w O4 (orgC c)∧SRowIp w y l
theorem SkAt.below {w0 w w':World} {U1 U2 O1 O2 O3 O4:Nat} {u v:UrlN} {pu pv:Value} {o c:OrgN} {y:Value} {l:List (List UInt8)} (h:SkAt w0 w U1 U2 O1 O2 O3 O4 u v pu pv o c y l) (hb:Below w.heap.size w w'):SkAt w0 w' U1 U2 O1 O2 O3 O4 u v pu pv o c y l :=
 ⟨h.1.trans (hb.mono h.1.size),h.2.1.below hb,h.2.2.1.below hb,h.2.2.2.1.below hb,h.2.2.2.2.1.below hb,h.2.2.2.2.2.1.below hb,h.2.2.2.2.2.2.1.below hb,h.2.2.2.2.2.2.2.below hb⟩
theorem siteAsks_walk (u v:UrlN) (pu pv x:Value) (l:List (List UInt8)) (s:ByteArray) (w:World) (T:TabH w) (zu:UrlZ u) (zv:UrlZ v) (hpu:SRowIp w pu u.path) (hpv:SRowIp w pv v.path) (ku:u.host.2.2.2.length=8∧u.host.2.2.1 < 4294967296∧∀x∈u.host.2.2.2,x < 65536) (kp:-9223372036854775808≤u.port∧u.port≤9223372036854775807) (kv:v.host.2.2.2.length=8) (hx:SRowIp w x l) :
 Calls Tryz.prog 3 #[.agg (urlC u pu).toArray,.agg (urlC v pv).toArray,x,.string s] w fun e w'=>e=.returned (.bool true)∧Below w.heap.size w w':=by
 have HT:Hid (∀w',Below w.heap.size w w'→TabH w'):=fun w' hb=>T.below hb
 have HV:Hid (∀w',Below w.heap.size w w'→SRowIp w' x l):=fun w' hb=>hx.below hb
 have HFst:=hid (fun w' (hb:Below w.heap.size w w')=>sfirst_calls w' (HT.out w' hb).r)
 have HFw:=hid (fun w' hb=>few_calls x l w' (HV.out w' hb))
 have HF1:=hid (fun w' (hb:Below w.heap.size w w')=>Few_calls u pu w' (hpu.below hb) zu)
 have HF2:=hid (fun w' (hb:Below w.heap.size w w')=>Few_calls v pv w' (hpv.below hb) zv)
 have hou:pu.oneCell'=true:=by obtain ⟨a,cap,h,-⟩:=hpu;rw [h];rfl
 have hov:pv.oneCell'=true:=by obtain ⟨a,cap,h,-⟩:=hpv;rw [h];rfl
 have HOU:=hid hou
 have HOV:=hid hov
 have KU:=hid ku
 have KP:=hid kp
 have KV:=hid kv
 clear hou hov hpu hpv zu zv T ku kv kp hx
 obtain ⟨A1,hA1⟩:∃A,(urlC u pu).toArray=A:=⟨_,rfl⟩
 obtain ⟨A2,hA2⟩:∃A,(urlC v pv).toArray=A:=⟨_,rfl⟩
 rw [hA1,hA2]
 have HA1:=hid hA1
 have HA2:=hid hA2
 clear hA1 hA2
 go_enter Tryz.func3,Tryz.ntmps3
 go_upto_region 1 with fail
 have H2:=hid (two_new w A1 A2 UT UT)
 have HB1:Hid (Below w.heap.size w ((w.alloc (.cells A1 UT)).alloc (.cells A2 UT))):=hid H2.out.2.2
 have HU1:Hid (Bc UT ((w.alloc (.cells A1 UT)).alloc (.cells A2 UT)) w.heap.size (urlC u pu)):=by show _=_;rw [H2.out.1,HA1.out]
 have HU2:Hid (Bc UT ((w.alloc (.cells A1 UT)).alloc (.cells A2 UT)) (w.heap.size+1) (urlC v pv)):=by show _=_;rw [H2.out.2.1,HA2.out]
 clear H2 HA1 HA2
 generalize (w.alloc (.cells A1 UT)).alloc (.cells A2 UT)=w1 at *
 obtain ⟨U2,hU2⟩:∃R,w.heap.size+1=R:=⟨_,rfl⟩
 rw [hU2] at HU2 ⊢
 obtain ⟨U1,hU1⟩:∃U,w.heap.size=U:=⟨_,rfl⟩
 rw [hU1] at HU1 ⊢
 clear hU2 hU1
 go_wp2_with fail
 refine (HFst.out _ HB1.out).mono ?_
 rintro e w2 ⟨rfl,hb2⟩
 have HU11:=hid (HU1.out.below (hb2))
 have HV12:=hid (HU2.out.below (hb2))
 have HB13:=hid (HB1.out.trans ((hb2).mono HB1.out.size))
 clear HU1 HU2 HB1
 clear hb2
 cases q1:fewU u
 ·rw [q1] at HF1
  go_wp2_with (refine wpList_load_mid rfl 29 _ rfl U1 0 rfl (urlC u pu) _ (url_range HU11.out) Tryz.underlying29 rfl info_url ?_)
  refine (HF1.out _ HB13.out).mono ?_
  rintro e w3 ⟨rfl,hb3⟩
  have HU14:=hid (HU11.out.below (hb3))
  have HV15:=hid (HV12.out.below (hb3))
  have HB16:=hid (HB13.out.trans ((hb3).mono HB13.out.size))
  clear HU11 HV12 HB13
  clear hb3
  go_wp2_with fail
  refine (HFst.out _ HB16.out).mono ?_
  rintro e w4 ⟨rfl,hb4⟩
  have HU17:=hid (HU14.out.below (hb4))
  have HV18:=hid (HV15.out.below (hb4))
  have HB19:=hid (HB16.out.trans ((hb4).mono HB16.out.size))
  clear HU14 HV15 HB16
  clear hb4
  go_wp2_with fail
  go_ret
  exact ⟨rfl,HB19.out⟩
 ·rw [q1] at HF1
  go_wp2_with (refine wpList_load_mid rfl 29 _ rfl U1 0 rfl (urlC u pu) _ (url_range HU11.out) Tryz.underlying29 rfl info_url ?_)
  refine (HF1.out _ HB13.out).mono ?_
  rintro e w3 ⟨rfl,hb3⟩
  have HU14:=hid (HU11.out.below (hb3))
  have HV15:=hid (HV12.out.below (hb3))
  have HB16:=hid (HB13.out.trans ((hb3).mono HB13.out.size))
  clear HU11 HV12 HB13
  clear hb3
  cases q2:fewU v
  ·rw [q2] at HF2
   go_wp2_with (refine load_onX (by rfl) 29 _ rfl U2 0 rfl (urlC v pv) _ (url_range HV15.out) Tryz.underlying29 rfl info_url ?_)
   refine (HF2.out _ HB16.out).mono ?_
   rintro e w4 ⟨rfl,hb4⟩
   have HU17:=hid (HU14.out.below (hb4))
   have HV18:=hid (HV15.out.below (hb4))
   have HB19:=hid (HB16.out.trans ((hb4).mono HB16.out.size))
   clear HU14 HV15 HB16
   clear hb4
   go_wp2_with fail
   refine (HFst.out _ HB19.out).mono ?_
   rintro e w5 ⟨rfl,hb5⟩
   have HU20:=hid (HU17.out.below (hb5))
   have HV21:=hid (HV18.out.below (hb5))
   have HB22:=hid (HB19.out.trans ((hb5).mono HB19.out.size))
   clear HU17 HV18 HB19
   clear hb5
   go_wp2_with fail
   go_ret
   exact ⟨rfl,HB22.out⟩
  ·rw [q2] at HF2
   go_wp2_with (refine load_onX (by rfl) 29 _ rfl U2 0 rfl (urlC v pv) _ (url_range HV15.out) Tryz.underlying29 rfl info_url ?_)
   refine (HF2.out _ HB16.out).mono ?_
   rintro e w4 ⟨rfl,hb4⟩
   have HU17:=hid (HU14.out.below (hb4))
   have HV18:=hid (HV15.out.below (hb4))
   have HB19:=hid (HB16.out.trans ((hb4).mono HB16.out.size))
   clear HU14 HV15 HB16
   clear hb4
   cases q3:fewS l
   ·rw [q3] at HFw
    go_wp2_with fail
    refine (HFw.out _ HB19.out).mono ?_
    rintro e wq ⟨rfl,hw⟩
    subst hw
    go_wp2_with fail
    refine (HFst.out _ HB19.out).mono ?_
    rintro e w5 ⟨rfl,hb5⟩
    have HU20:=hid (HU17.out.below (hb5))
    have HV21:=hid (HV18.out.below (hb5))
    have HB22:=hid (HB19.out.trans ((hb5).mono HB19.out.size))
    clear HU17 HV18 HB19
    clear hb5
    go_wp2_with fail
    go_ret
    exact ⟨rfl,HB22.out⟩
   ·rw [q3] at HFw
    go_wp2_with fail
    refine (HFw.out _ HB19.out).mono ?_
    rintro e wq ⟨rfl,hw⟩
    subst hw
    by_cases hn:2000 < s.size
    ·have hn2:(2000:Int) < (s.size:Int):=by omega
     go_wp2_with fail
     refine (HFst.out _ HB19.out).mono ?_
     rintro e w5 ⟨rfl,hb5⟩
     have HU20:=hid (HU17.out.below (hb5))
     have HV21:=hid (HV18.out.below (hb5))
     have HB22:=hid (HB19.out.trans ((hb5).mono HB19.out.size))
     clear HU17 HV18 HB19
     clear hb5
     go_wp2_with fail
     go_ret
     exact ⟨rfl,HB22.out⟩
    ·have hn2:¬(2000:Int) < (s.size:Int):=by omega
     have hs1:s.size≤100000:=by omega
     obtain ⟨f1,f2⟩:=fewS_true q3
     have g1:=fewU_true q1
     have g2:=fewU_true q2
     unfold sumU at g1 g2
     have n1:u.sch.length≤100000:=by omega
     have n2:u.host.2.1.length≤100000:=by omega
     have n3:v.sch.length≤100000:=by omega
     have n4:v.host.2.1.length≤100000:=by omega
     have l1:l.length≤1000:=by omega
     have l2:∀q∈l,q.length≤100000:=fun q hq=>Nat.le_trans (f2 q hq) (by omega)
     have l3:l.length≤1000000:=by omega
     have HCp:=hid (fun w hv=>copyT_calls x l w hv l3)
     have HO1:=hid (fun w=>sorigin_calls u pu w n1 n2)
     have HO2:=hid (fun w=>rorigin_calls u pu w)
     have HS1:=hid (fun y w hv=>ssite_calls u pu y l w n1 n2 hv l1 l2)
     have HS2:=hid (fun w hv=>rsite_calls u pu x l w n1 n2 hv l1 l2)
     have HK1:Hid (OrgOk (originN u).1):=hid (origin_ok n1 ⟨KU.out.1,KU.out.2.1,KU.out.2.2,n2⟩ KP.out.1 KP.out.2)
     have HK2:Hid (OrgOk (siteN u l).1):=hid (site_ok HK1.out)
     have K8:Hid ((originN u).1.2.1.2.2.2.length=8):=hid (origin8 KU.out.1)
     have K9:Hid ((originN v).1.2.1.2.2.2.length=8):=hid (origin8 KV.out)
     have HM1:=hid (fun w=>ssame_calls u v pu pv w n1 n2 n3 n4 HOU.out HOV.out KU.out.1 KV.out)
     have HM2:=hid (fun w=>rsame_calls u v pu pv w)
     have HCo:=hid (sameO_comm K8.out K9.out)
     rw [HCo.out] at HM1
     have HX1:=hid (fun y w hv=>ssuffix_calls s y l w hs1 hv l1 l2)
     have HX2:=hid (fun w hv=>rsuffix_calls s x l w hs1 hv l1 l2)
     have HTx:=hid (fun y w h1 h2=>textsK_same y x l w h1 h2 l3)
     obtain ⟨tt,htt⟩:∃tt,((originN u).2&&((originN v).2&&sameO (originN u).1 (originN v).1))=tt:=⟨_,rfl⟩
     rw [htt] at HM1 HM2
     obtain ⟨SF,hSF⟩:∃SF,strOf (suffixN s.data.toList l)=SF:=⟨_,rfl⟩
     rw [hSF] at HX1 HX2
     clear htt hSF HCo K8 K9 HF1 HF2 HFw l1 l2 l3 n1 n2 n3 n4 g1 g2 f1 f2 q1 q2 q3 hs1 KU KP KV HOV
     generalize siteN u l=Su at *
     generalize originN u=Ou at *
     obtain ⟨o,e0⟩:=Ou
     obtain ⟨c,g0⟩:=Su
     have HE1:Hid (∀w,Calls Tryz.prog 15 #[.agg (orgC o).toArray,.agg (orgC o).toArray] w fun e w'=>e=.returned (.bool true)∧Below w.heap.size w w'):=hid (fun w=>by have h:=sorgeq_calls o o w;rw [sameO_self] at h;exact h)
     have HE2:Hid (∀w,Calls Tryz.prog 15 #[.agg (orgC c).toArray,.agg (orgC c).toArray] w fun e w'=>e=.returned (.bool true)∧Below w.heap.size w w'):=hid (fun w=>by have h:=sorgeq_calls c c w;rw [sameO_self] at h;exact h)
     have HP1:=hid (fun w t=>stext_ok o w HK1.out t)
     have HQ1:=hid (fun w t=>rtext_ok o w HK1.out t)
     obtain ⟨T1,hT1⟩:∃X,strOf (textN o)=X:=⟨_,rfl⟩
     rw [hT1] at HP1 HQ1
     clear hT1 HK1
     have HP2:=hid (fun w t=>stext_ok c w HK2.out t)
     have HQ2:=hid (fun w t=>rtext_ok c w HK2.out t)
     obtain ⟨T2,hT2⟩:∃X,strOf (textN c)=X:=⟨_,rfl⟩
     rw [hT2] at HP2 HQ2
     clear hT2 HK2
     go_wp2_with fail
     refine (HCp.out _ (HV.out _ HB19.out)).mono ?_
     rintro e w5 ⟨⟨y,rfl,ho⟩,hb5⟩
     have HU20:=hid (HU17.out.below (hb5))
     have HV21:=hid (HV18.out.below (hb5))
     have HB22:=hid (HB19.out.trans ((hb5).mono HB19.out.size))
     clear HU17 HV18 HB19
     clear hb5
     have HI:=hid ho.row
     clear ho HCp hn hn2
     go_wp2_with (refine wpList_load_mid rfl 29 _ rfl U1 0 rfl (urlC u pu) _ (url_range HU20.out) Tryz.underlying29 rfl info_url ?_)
     refine (HO1.out _).mono ?_
     rintro e w6 ⟨rfl,hb6⟩
     have HU23:=hid (HU20.out.below (hb6))
     have HV24:=hid (HV21.out.below (hb6))
     have HI25:=hid (HI.out.below (hb6))
     have HB26:=hid (HB22.out.trans ((hb6).mono HB22.out.size))
     clear HU20 HV21 HI HB22
     clear hb6
     have HNn:=hid (new_org w6 o)
     have HU27:=hid (HU23.out.below (HNn.out.2))
     have HV28:=hid (HV24.out.below (HNn.out.2))
     have HI29:=hid (HI25.out.below (HNn.out.2))
     have HB30:=hid (HB26.out.trans ((HNn.out.2).mono HB26.out.size))
     clear HU23 HV24 HI25 HB26
     have HA31:=hid HNn.out.1
     clear HNn
     go_upto_region 7 with (refine wpList_store_mid rfl 35 _ _ rfl w6.heap.size 0 (orgC o).toArray rfl rfl (new_there _) info_org (org_one _) ?_;try simp only [List.toList_toArray];generalize (w6.alloc (.cells #[.string ⟨#[]⟩,.int .i64 0,.string ⟨#[]⟩,.int .u32 0,.int .u16 0,.int .u16 0,.int .u16 0,.int .u16 0,.int .u16 0,.int .u16 0,.int .u16 0,.int .u16 0,.int .i64 0] OT)).setCells w6.heap.size 0 (orgC o)=w7 at *;generalize w6.heap.size=O1 at *)
     go_wp2_with (refine wpList_load_mid rfl 29 _ rfl U1 0 rfl (urlC u pu) _ (url_range HU27.out) Tryz.underlying29 rfl info_url ?_)
     refine (HO2.out _).mono ?_
     rintro e w8 ⟨rfl,hb8⟩
     have HU32:=hid (HU27.out.below (hb8))
     have HV33:=hid (HV28.out.below (hb8))
     have HI34:=hid (HI29.out.below (hb8))
     have HA35:=hid (HA31.out.below (hb8))
     have HB36:=hid (HB30.out.trans ((hb8).mono HB30.out.size))
     clear HU27 HV28 HI29 HA31 HB30
     clear hb8
     have HNn:=hid (new_org w8 o)
     have HU37:=hid (HU32.out.below (HNn.out.2))
     have HV38:=hid (HV33.out.below (HNn.out.2))
     have HI39:=hid (HI34.out.below (HNn.out.2))
     have HA40:=hid (HA35.out.below (HNn.out.2))
     have HB41:=hid (HB36.out.trans ((HNn.out.2).mono HB36.out.size))
     clear HU32 HV33 HI34 HA35 HB36
     have HB42:=hid HNn.out.1
     clear HNn
     go_upto_region 8 with (refine wpList_store_mid rfl 35 _ _ rfl w8.heap.size 0 (orgC o).toArray rfl rfl (new_there _) info_org (org_one _) ?_;try simp only [List.toList_toArray];generalize (w8.alloc (.cells #[.string ⟨#[]⟩,.int .i64 0,.string ⟨#[]⟩,.int .u32 0,.int .u16 0,.int .u16 0,.int .u16 0,.int .u16 0,.int .u16 0,.int .u16 0,.int .u16 0,.int .u16 0,.int .i64 0] OT)).setCells w8.heap.size 0 (orgC o)=w9 at *;generalize w8.heap.size=O2 at *)
     go_wp2_with (refine wpList_load_mid rfl 29 _ rfl U1 0 rfl (urlC u pu) _ (url_range HU37.out) Tryz.underlying29 rfl info_url ?_)
     refine (HS1.out _ _ HI39.out).mono ?_
     rintro e w10 ⟨rfl,hb10⟩
     have HU43:=hid (HU37.out.below (hb10))
     have HV44:=hid (HV38.out.below (hb10))
     have HI45:=hid (HI39.out.below (hb10))
     have HA46:=hid (HA40.out.below (hb10))
     have HB47:=hid (HB42.out.below (hb10))
     have HB48:=hid (HB41.out.trans ((hb10).mono HB41.out.size))
     clear HU37 HV38 HI39 HA40 HB42 HB41
     clear hb10
     have HNn:=hid (new_org w10 c)
     have HU49:=hid (HU43.out.below (HNn.out.2))
     have HV50:=hid (HV44.out.below (HNn.out.2))
     have HI51:=hid (HI45.out.below (HNn.out.2))
     have HA52:=hid (HA46.out.below (HNn.out.2))
     have HB53:=hid (HB47.out.below (HNn.out.2))
     have HB54:=hid (HB48.out.trans ((HNn.out.2).mono HB48.out.size))
     clear HU43 HV44 HI45 HA46 HB47 HB48
     have HC55:=hid HNn.out.1
     clear HNn
     go_upto_region 9 with (refine wpList_store_mid rfl 35 _ _ rfl w10.heap.size 0 (orgC c).toArray rfl rfl (new_there _) info_org (org_one _) ?_;try simp only [List.toList_toArray];generalize (w10.alloc (.cells #[.string ⟨#[]⟩,.int .i64 0,.string ⟨#[]⟩,.int .u32 0,.int .u16 0,.int .u16 0,.int .u16 0,.int .u16 0,.int .u16 0,.int .u16 0,.int .u16 0,.int .u16 0,.int .i64 0] OT)).setCells w10.heap.size 0 (orgC c)=w11 at *;generalize w10.heap.size=O3 at *)
     go_wp2_with (refine wpList_load_mid rfl 29 _ rfl U1 0 rfl (urlC u pu) _ (url_range HU49.out) Tryz.underlying29 rfl info_url ?_)
     refine (HS2.out _ (HV.out _ HB54.out)).mono ?_
     rintro e w12 ⟨rfl,hb12⟩
     have HU56:=hid (HU49.out.below (hb12))
     have HV57:=hid (HV50.out.below (hb12))
     have HI58:=hid (HI51.out.below (hb12))
     have HA59:=hid (HA52.out.below (hb12))
     have HB60:=hid (HB53.out.below (hb12))
     have HC61:=hid (HC55.out.below (hb12))
     have HB62:=hid (HB54.out.trans ((hb12).mono HB54.out.size))
     clear HU49 HV50 HI51 HA52 HB53 HC55 HB54
     clear hb12
     have HNn:=hid (new_org w12 c)
     have HU63:=hid (HU56.out.below (HNn.out.2))
     have HV64:=hid (HV57.out.below (HNn.out.2))
     have HI65:=hid (HI58.out.below (HNn.out.2))
     have HA66:=hid (HA59.out.below (HNn.out.2))
     have HB67:=hid (HB60.out.below (HNn.out.2))
     have HC68:=hid (HC61.out.below (HNn.out.2))
     have HB69:=hid (HB62.out.trans ((HNn.out.2).mono HB62.out.size))
     clear HU56 HV57 HI58 HA59 HB60 HC61 HB62
     have HD70:=hid HNn.out.1
     clear HNn
     go_upto_region 10 with (refine wpList_store_mid rfl 35 _ _ rfl w12.heap.size 0 (orgC c).toArray rfl rfl (new_there _) info_org (org_one _) ?_;try simp only [List.toList_toArray];generalize (w12.alloc (.cells #[.string ⟨#[]⟩,.int .i64 0,.string ⟨#[]⟩,.int .u32 0,.int .u16 0,.int .u16 0,.int .u16 0,.int .u16 0,.int .u16 0,.int .u16 0,.int .u16 0,.int .u16 0,.int .i64 0] OT)).setCells w12.heap.size 0 (orgC c)=w13 at *;generalize w12.heap.size=O4 at *)
     clear HO1 HO2 HS1 HS2
     have HS0:Hid (SkAt w w13 U1 U2 O1 O2 O3 O4 u v pu pv o c y l):=hid ⟨HB69.out,HU63.out,HV64.out,HA66.out,HB67.out,HC68.out,HD70.out,HI65.out⟩
     have HSd:=hid (HS0.out.below ((Below.refl w13.heap.size w13).drew))
     clear HS0 HU63 HV64 HI65 HA66 HB67 HC68 HD70 HB69
     refine wp_region_held_drew (S:=fun w'=>SkAt w w' U1 U2 O1 O2 O3 O4 u v pu pv o c y l) (by kernel_rfl) ?_ (fun hHeld=>?_)
     ·exact HSd.out
     clear HSd
     generalize w13.drew=wd at *
     refine' wpAnyH_one (i:=0) (v:=.bool true) (by kernel_rfl) (by simp only [List.getElem?_toArray,List.getElem?_cons_succ,List.getElem?_cons_zero];rfl) ?g0 hHeld ?r0
     case g0=>(intro wq hq K hK;try simp only [Act.put,List.setIfInBounds_toArray,List.set_cons_zero,List.set_cons_succ];go_simp;refine (HFst.out _ hq.1).mono ?_;rintro e w2 ⟨rfl,hb⟩;have hq2:=SkAt.below hq hb;clear hb;go_wp2_with fail;exact hK.out _ hq2)
     clear hHeld
     intro wn hHeld
     try simp only [Act.put,List.setIfInBounds_toArray,List.set_cons_zero,List.set_cons_succ]
     refine' wpAnyH_take (i:=1) (v:=?_) (by simp only [List.getElem?_toArray,List.getElem?_cons_succ,List.getElem?_cons_zero];rfl) (by kernel_rfl) (by kernel_rfl) (by kernel_rfl) (by intro _ _ _ h;exact h) (Or.inl ⟨by rfl,?hy1⟩) hHeld ?r1
     case hy1=>(intro w hSw;clear hSw;go_simp;try with_reducible rfl)
     try simp only [Act.put,List.setIfInBounds_toArray,List.set_cons_zero,List.set_cons_succ]
     refine' wpAnyH_take (i:=2) (v:=_) (by simp only [List.getElem?_toArray,List.getElem?_cons_succ,List.getElem?_cons_zero];rfl) (by kernel_rfl) (by kernel_rfl) (by kernel_rfl) (by intro _ _ _ h;exact h) (yieldsIf_load_mid (by rfl) 35 _ rfl O1 0 rfl (orgC o) _ (fun w h=>org_range h.2.2.2.1) Tryz.underlying35 rfl info_org) hHeld ?r2
     try simp only [Act.put,List.setIfInBounds_toArray,List.set_cons_zero,List.set_cons_succ]
     refine' wpAnyH_take (i:=3) (v:=_) (by simp only [List.getElem?_toArray,List.getElem?_cons_succ,List.getElem?_cons_zero];rfl) (by kernel_rfl) (by kernel_rfl) (by kernel_rfl) (by intro _ _ _ h;exact h) (yieldsIf_load_mid (by rfl) 35 _ rfl O2 0 rfl (orgC o) _ (fun w h=>org_range h.2.2.2.2.1) Tryz.underlying35 rfl info_org) hHeld ?r3
     try simp only [Act.put,List.setIfInBounds_toArray,List.set_cons_zero,List.set_cons_succ]
     refine' wpAnyH_one (i:=4) (v:=.bool true) (by kernel_rfl) (by simp only [List.getElem?_toArray,List.getElem?_cons_succ,List.getElem?_cons_zero];rfl) ?g4 hHeld ?r4
     case g4=>(intro wq hq K hK;try simp only [Act.put,List.setIfInBounds_toArray,List.set_cons_zero,List.set_cons_succ];go_simp;refine (HE1.out _).mono ?_;rintro e w2 ⟨rfl,hb⟩;have hq2:=SkAt.below hq hb;clear hb;go_wp2_with fail;exact hK.out _ hq2)
     clear hHeld
     intro wn hHeld
     try simp only [Act.put,List.setIfInBounds_toArray,List.set_cons_zero,List.set_cons_succ]
     refine' wpAnyH_take (i:=5) (v:=?_) (by simp only [List.getElem?_toArray,List.getElem?_cons_succ,List.getElem?_cons_zero];rfl) (by kernel_rfl) (by kernel_rfl) (by kernel_rfl) (by intro _ _ _ h;exact h) (Or.inl ⟨by rfl,?hy5⟩) hHeld ?r5
     case hy5=>(intro w hSw;clear hSw;go_simp;try with_reducible rfl)
     try simp only [Act.put,List.setIfInBounds_toArray,List.set_cons_zero,List.set_cons_succ]
     refine' wpAnyH_take (i:=6) (v:=?_) (by simp only [List.getElem?_toArray,List.getElem?_cons_succ,List.getElem?_cons_zero];rfl) (by kernel_rfl) (by kernel_rfl) (by kernel_rfl) (by intro _ _ _ h;exact h) (Or.inl ⟨by rfl,?hy6⟩) hHeld ?r6
     case hy6=>(intro w hSw;clear hSw;go_simp;try with_reducible rfl)
     try simp only [Act.put,List.setIfInBounds_toArray,List.set_cons_zero,List.set_cons_succ]
     refine' wpAnyH_take (i:=7) (v:=?_) (by simp only [List.getElem?_toArray,List.getElem?_cons_succ,List.getElem?_cons_zero];rfl) (by kernel_rfl) (by kernel_rfl) (by kernel_rfl) (by intro _ _ _ h;exact h) (Or.inl ⟨by rfl,?hy7⟩) hHeld ?r7
     case hy7=>(intro w hSw;clear hSw;go_simp;try with_reducible rfl)
     try simp only [Act.put,List.setIfInBounds_toArray,List.set_cons_zero,List.set_cons_succ]
     refine' wpAnyH_take (i:=8) (v:=?_) (by simp only [List.getElem?_toArray,List.getElem?_cons_succ,List.getElem?_cons_zero];rfl) (by kernel_rfl) (by kernel_rfl) (by kernel_rfl) (by intro _ _ _ h;exact h) (Or.inl ⟨by rfl,?hy8⟩) hHeld ?r8
     case hy8=>(intro w hSw;clear hSw;go_simp;try with_reducible rfl)
     try simp only [Act.put,List.setIfInBounds_toArray,List.set_cons_zero,List.set_cons_succ]
     refine' wpAnyH_take (i:=9) (v:=.bool true) (by simp only [List.getElem?_toArray,List.getElem?_cons_succ,List.getElem?_cons_zero];rfl) (by kernel_rfl) (by kernel_rfl) (by kernel_rfl) (by intro _ _ _ h;exact h) (Or.inl ⟨by rfl,?hy9⟩) hHeld ?r9
     case hy9=>(intro w hSw;clear hSw;go_simp;try (first | rfl | simp))
     try simp only [Act.put,List.setIfInBounds_toArray,List.set_cons_zero,List.set_cons_succ]
     refine' wpAnyH_take (i:=10) (v:=?_) (by simp only [List.getElem?_toArray,List.getElem?_cons_succ,List.getElem?_cons_zero];rfl) (by kernel_rfl) (by kernel_rfl) (by kernel_rfl) (by intro _ _ _ h;exact h) (Or.inl ⟨by rfl,?hy10⟩) hHeld ?r10
     case hy10=>(intro w hSw;clear hSw;go_simp;try with_reducible rfl)
     try simp only [Act.put,List.setIfInBounds_toArray,List.set_cons_zero,List.set_cons_succ]
     refine' wpAnyH_take (i:=11) (v:=?_) (by simp only [List.getElem?_toArray,List.getElem?_cons_succ,List.getElem?_cons_zero];rfl) (by kernel_rfl) (by kernel_rfl) (by kernel_rfl) (by intro _ _ _ h;exact h) (Or.inl ⟨by rfl,?hy11⟩) hHeld ?r11
     case hy11=>(intro w hSw;clear hSw;go_simp;try with_reducible rfl)
     try simp only [Act.put,List.setIfInBounds_toArray,List.set_cons_zero,List.set_cons_succ]
     refine' wpAnyH_take (i:=12) (v:=_) (by simp only [List.getElem?_toArray,List.getElem?_cons_succ,List.getElem?_cons_zero];rfl) (by kernel_rfl) (by kernel_rfl) (by kernel_rfl) (by intro _ _ _ h;exact h) (yieldsIf_load_mid (by rfl) 35 _ rfl O3 0 rfl (orgC c) _ (fun w h=>org_range h.2.2.2.2.2.1) Tryz.underlying35 rfl info_org) hHeld ?r12
     try simp only [Act.put,List.setIfInBounds_toArray,List.set_cons_zero,List.set_cons_succ]
     refine' wpAnyH_take (i:=13) (v:=_) (by simp only [List.getElem?_toArray,List.getElem?_cons_succ,List.getElem?_cons_zero];rfl) (by kernel_rfl) (by kernel_rfl) (by kernel_rfl) (by intro _ _ _ h;exact h) (yieldsIf_load_mid (by rfl) 35 _ rfl O4 0 rfl (orgC c) _ (fun w h=>org_range h.2.2.2.2.2.2.1) Tryz.underlying35 rfl info_org) hHeld ?r13
     try simp only [Act.put,List.setIfInBounds_toArray,List.set_cons_zero,List.set_cons_succ]
     refine' wpAnyH_one (i:=14) (v:=.bool true) (by kernel_rfl) (by simp only [List.getElem?_toArray,List.getElem?_cons_succ,List.getElem?_cons_zero];rfl) ?g14 hHeld ?r14
     case g14=>(intro wq hq K hK;try simp only [Act.put,List.setIfInBounds_toArray,List.set_cons_zero,List.set_cons_succ];go_simp;refine (HE2.out _).mono ?_;rintro e w2 ⟨rfl,hb⟩;have hq2:=SkAt.below hq hb;clear hb;go_wp2_with fail;exact hK.out _ hq2)
     clear hHeld
     intro wn hHeld
     try simp only [Act.put,List.setIfInBounds_toArray,List.set_cons_zero,List.set_cons_succ]
     refine' wpAnyH_take (i:=15) (v:=?_) (by simp only [List.getElem?_toArray,List.getElem?_cons_succ,List.getElem?_cons_zero];rfl) (by kernel_rfl) (by kernel_rfl) (by kernel_rfl) (by intro _ _ _ h;exact h) (Or.inl ⟨by rfl,?hy15⟩) hHeld ?r15
     case hy15=>(intro w hSw;clear hSw;go_simp;try with_reducible rfl)
     try simp only [Act.put,List.setIfInBounds_toArray,List.set_cons_zero,List.set_cons_succ]
     refine' wpAnyH_take (i:=16) (v:=?_) (by simp only [List.getElem?_toArray,List.getElem?_cons_succ,List.getElem?_cons_zero];rfl) (by kernel_rfl) (by kernel_rfl) (by kernel_rfl) (by intro _ _ _ h;exact h) (Or.inl ⟨by rfl,?hy16⟩) hHeld ?r16
     case hy16=>(intro w hSw;clear hSw;go_simp;try with_reducible rfl)
     try simp only [Act.put,List.setIfInBounds_toArray,List.set_cons_zero,List.set_cons_succ]
     refine' wpAnyH_take (i:=17) (v:=?_) (by simp only [List.getElem?_toArray,List.getElem?_cons_succ,List.getElem?_cons_zero];rfl) (by kernel_rfl) (by kernel_rfl) (by kernel_rfl) (by intro _ _ _ h;exact h) (Or.inl ⟨by rfl,?hy17⟩) hHeld ?r17
     case hy17=>(intro w hSw;clear hSw;go_simp;try with_reducible rfl)
     try simp only [Act.put,List.setIfInBounds_toArray,List.set_cons_zero,List.set_cons_succ]
     refine' wpAnyH_take (i:=18) (v:=?_) (by simp only [List.getElem?_toArray,List.getElem?_cons_succ,List.getElem?_cons_zero];rfl) (by kernel_rfl) (by kernel_rfl) (by kernel_rfl) (by intro _ _ _ h;exact h) (Or.inl ⟨by rfl,?hy18⟩) hHeld ?r18
     case hy18=>(intro w hSw;clear hSw;go_simp;try with_reducible rfl)
     try simp only [Act.put,List.setIfInBounds_toArray,List.set_cons_zero,List.set_cons_succ]
     refine' wpAnyH_take (i:=19) (v:=.bool true) (by simp only [List.getElem?_toArray,List.getElem?_cons_succ,List.getElem?_cons_zero];rfl) (by kernel_rfl) (by kernel_rfl) (by kernel_rfl) (by intro _ _ _ h;exact h) (Or.inl ⟨by rfl,?hy19⟩) hHeld ?r19
     case hy19=>(intro w hSw;clear hSw;go_simp;try (first | rfl | simp))
     try simp only [Act.put,List.setIfInBounds_toArray,List.set_cons_zero,List.set_cons_succ]
     refine' wpAnyH_take (i:=20) (v:=?_) (by simp only [List.getElem?_toArray,List.getElem?_cons_succ,List.getElem?_cons_zero];rfl) (by kernel_rfl) (by kernel_rfl) (by kernel_rfl) (by intro _ _ _ h;exact h) (Or.inl ⟨by rfl,?hy20⟩) hHeld ?r20
     case hy20=>(intro w hSw;clear hSw;go_simp;try with_reducible rfl)
     try simp only [Act.put,List.setIfInBounds_toArray,List.set_cons_zero,List.set_cons_succ]
     refine' wpAnyH_take (i:=21) (v:=?_) (by simp only [List.getElem?_toArray,List.getElem?_cons_succ,List.getElem?_cons_zero];rfl) (by kernel_rfl) (by kernel_rfl) (by kernel_rfl) (by intro _ _ _ h;exact h) (Or.inl ⟨by rfl,?hy21⟩) hHeld ?r21
     case hy21=>(intro w hSw;clear hSw;go_simp;try with_reducible rfl)
     try simp only [Act.put,List.setIfInBounds_toArray,List.set_cons_zero,List.set_cons_succ]
     refine' wpAnyH_take (i:=22) (v:=?_) (by simp only [List.getElem?_toArray,List.getElem?_cons_succ,List.getElem?_cons_zero];rfl) (by kernel_rfl) (by kernel_rfl) (by kernel_rfl) (by intro _ _ _ h;exact h) (Or.inl ⟨by rfl,?hy22⟩) hHeld ?r22
     case hy22=>(intro w hSw;clear hSw;go_simp;try with_reducible rfl)
     try simp only [Act.put,List.setIfInBounds_toArray,List.set_cons_zero,List.set_cons_succ]
     refine' wpAnyH_take (i:=23) (v:=?_) (by simp only [List.getElem?_toArray,List.getElem?_cons_succ,List.getElem?_cons_zero];rfl) (by kernel_rfl) (by kernel_rfl) (by kernel_rfl) (by intro _ _ _ h;exact h) (Or.inl ⟨by rfl,?hy23⟩) hHeld ?r23
     case hy23=>(intro w hSw;clear hSw;go_simp;try with_reducible rfl)
     try simp only [Act.put,List.setIfInBounds_toArray,List.set_cons_zero,List.set_cons_succ]
     refine' wpAnyH_take (i:=25) (v:=?_) (by simp only [List.getElem?_toArray,List.getElem?_cons_succ,List.getElem?_cons_zero];rfl) (by kernel_rfl) (by kernel_rfl) (by kernel_rfl) (by intro _ _ _ h;exact h) (Or.inl ⟨by rfl,?hy25⟩) hHeld ?r25
     case hy25=>(intro w hSw;clear hSw;go_simp;try with_reducible rfl)
     try simp only [Act.put,List.setIfInBounds_toArray,List.set_cons_zero,List.set_cons_succ]
     refine' wpAnyH_take (i:=26) (v:=?_) (by simp only [List.getElem?_toArray,List.getElem?_cons_succ,List.getElem?_cons_zero];rfl) (by kernel_rfl) (by kernel_rfl) (by kernel_rfl) (by intro _ _ _ h;exact h) (Or.inl ⟨by rfl,?hy26⟩) hHeld ?r26
     case hy26=>(intro w hSw;clear hSw;go_simp;try with_reducible rfl)
     try simp only [Act.put,List.setIfInBounds_toArray,List.set_cons_zero,List.set_cons_succ]
     refine' wpAnyH_one (i:=24) (v:=.string SF) (by kernel_rfl) (by simp only [List.getElem?_toArray,List.getElem?_cons_succ,List.getElem?_cons_zero];rfl) ?g24 hHeld ?r24
     case g24=>(intro wq hq K hK;try simp only [Act.put,List.setIfInBounds_toArray,List.set_cons_zero,List.set_cons_succ];go_simp;refine (HX1.out _ _ hq.2.2.2.2.2.2.2).mono ?_;rintro e w2 ⟨rfl,hb⟩;have hq2:=SkAt.below hq hb;clear hb;go_wp2_with fail;exact hK.out _ hq2)
     clear hHeld
     intro wn hHeld
     try simp only [Act.put,List.setIfInBounds_toArray,List.set_cons_zero,List.set_cons_succ]
     refine' wpAnyH_one (i:=27) (v:=.string SF) (by kernel_rfl) (by simp only [List.getElem?_toArray,List.getElem?_cons_succ,List.getElem?_cons_zero];rfl) ?g27 hHeld ?r27
     case g27=>(intro wq hq K hK;try simp only [Act.put,List.setIfInBounds_toArray,List.set_cons_zero,List.set_cons_succ];go_simp;refine (HX2.out _ (HV.out _ hq.1)).mono ?_;rintro e w2 ⟨rfl,hb⟩;have hq2:=SkAt.below hq hb;clear hb;go_wp2_with fail;exact hK.out _ hq2)
     clear hHeld
     intro wn hHeld
     try simp only [Act.put,List.setIfInBounds_toArray,List.set_cons_zero,List.set_cons_succ]
     refine' wpAnyH_take (i:=28) (v:=.bool true) (by simp only [List.getElem?_toArray,List.getElem?_cons_succ,List.getElem?_cons_zero];rfl) (by kernel_rfl) (by kernel_rfl) (by kernel_rfl) (by intro _ _ _ h;exact h) (Or.inl ⟨by rfl,?hy28⟩) hHeld ?r28
     case hy28=>(intro w hSw;clear hSw;go_simp;try (first | rfl | simp))
     try simp only [Act.put,List.setIfInBounds_toArray,List.set_cons_zero,List.set_cons_succ]
     refine' wpAnyH_take (i:=29) (v:=?_) (by simp only [List.getElem?_toArray,List.getElem?_cons_succ,List.getElem?_cons_zero];rfl) (by kernel_rfl) (by kernel_rfl) (by kernel_rfl) (by intro _ _ _ h;exact h) (Or.inl ⟨by rfl,?hy29⟩) hHeld ?r29
     case hy29=>(intro w hSw;clear hSw;go_simp;try with_reducible rfl)
     try simp only [Act.put,List.setIfInBounds_toArray,List.set_cons_zero,List.set_cons_succ]
     refine' wpAnyH_take (i:=30) (v:=?_) (by simp only [List.getElem?_toArray,List.getElem?_cons_succ,List.getElem?_cons_zero];rfl) (by kernel_rfl) (by kernel_rfl) (by kernel_rfl) (by intro _ _ _ h;exact h) (Or.inl ⟨by rfl,?hy30⟩) hHeld ?r30
     case hy30=>(intro w hSw;clear hSw;go_simp;try with_reducible rfl)
     try simp only [Act.put,List.setIfInBounds_toArray,List.set_cons_zero,List.set_cons_succ]
     refine' wpAnyH_take (i:=31) (v:=_) (by simp only [List.getElem?_toArray,List.getElem?_cons_succ,List.getElem?_cons_zero];rfl) (by kernel_rfl) (by kernel_rfl) (by kernel_rfl) (by intro _ _ _ h;exact h) (yieldsIf_load_mid (by rfl) 29 _ rfl U1 0 rfl (urlC u pu) _ (fun w h=>url_range h.2.1) Tryz.underlying29 rfl info_url) hHeld ?r31
     try simp only [Act.put,List.setIfInBounds_toArray,List.set_cons_zero,List.set_cons_succ]
     refine' wpAnyH_take (i:=32) (v:=_) (by simp only [List.getElem?_toArray,List.getElem?_cons_succ,List.getElem?_cons_zero];rfl) (by kernel_rfl) (by kernel_rfl) (by kernel_rfl) (by intro _ _ _ h;exact h) (yieldsIf_load_mid (by rfl) 29 _ rfl U2 0 rfl (urlC v pv) _ (fun w h=>url_range h.2.2.1) Tryz.underlying29 rfl info_url) hHeld ?r32
     try simp only [Act.put,List.setIfInBounds_toArray,List.set_cons_zero,List.set_cons_succ]
     refine' wpAnyH_take (i:=34) (v:=_) (by simp only [List.getElem?_toArray,List.getElem?_cons_succ,List.getElem?_cons_zero];rfl) (by kernel_rfl) (by kernel_rfl) (by kernel_rfl) (by intro _ _ _ h;exact h) (yieldsIf_load_mid (by rfl) 29 _ rfl U1 0 rfl (urlC u pu) _ (fun w h=>url_range h.2.1) Tryz.underlying29 rfl info_url) hHeld ?r34
     try simp only [Act.put,List.setIfInBounds_toArray,List.set_cons_zero,List.set_cons_succ]
     refine' wpAnyH_take (i:=35) (v:=_) (by simp only [List.getElem?_toArray,List.getElem?_cons_succ,List.getElem?_cons_zero];rfl) (by kernel_rfl) (by kernel_rfl) (by kernel_rfl) (by intro _ _ _ h;exact h) (yieldsIf_load_mid (by rfl) 29 _ rfl U2 0 rfl (urlC v pv) _ (fun w h=>url_range h.2.2.1) Tryz.underlying29 rfl info_url) hHeld ?r35
     try simp only [Act.put,List.setIfInBounds_toArray,List.set_cons_zero,List.set_cons_succ]
     refine' wpAnyH_one (i:=33) (v:=.bool tt) (by kernel_rfl) (by simp only [List.getElem?_toArray,List.getElem?_cons_succ,List.getElem?_cons_zero];rfl) ?g33 hHeld ?r33
     case g33=>(intro wq hq K hK;try simp only [Act.put,List.setIfInBounds_toArray,List.set_cons_zero,List.set_cons_succ];go_simp;refine (HM1.out _).mono ?_;rintro e w2 ⟨rfl,hb⟩;have hq2:=SkAt.below hq hb;clear hb;go_wp2_with fail;exact hK.out _ hq2)
     clear hHeld
     intro wn hHeld
     try simp only [Act.put,List.setIfInBounds_toArray,List.set_cons_zero,List.set_cons_succ]
     refine' wpAnyH_one (i:=36) (v:=.bool tt) (by kernel_rfl) (by simp only [List.getElem?_toArray,List.getElem?_cons_succ,List.getElem?_cons_zero];rfl) ?g36 hHeld ?r36
     case g36=>(intro wq hq K hK;try simp only [Act.put,List.setIfInBounds_toArray,List.set_cons_zero,List.set_cons_succ];go_simp;refine (HM2.out _).mono ?_;rintro e w2 ⟨rfl,hb⟩;have hq2:=SkAt.below hq hb;clear hb;go_wp2_with fail;exact hK.out _ hq2)
     clear hHeld
     intro wn hHeld
     try simp only [Act.put,List.setIfInBounds_toArray,List.set_cons_zero,List.set_cons_succ]
     refine' wpAnyH_take (i:=37) (v:=.bool true) (by simp only [List.getElem?_toArray,List.getElem?_cons_succ,List.getElem?_cons_zero];rfl) (by kernel_rfl) (by kernel_rfl) (by kernel_rfl) (by intro _ _ _ h;exact h) (Or.inl ⟨by rfl,?hy37⟩) hHeld ?r37
     case hy37=>(intro w hSw;clear hSw;go_simp;try (first | rfl | simp))
     try simp only [Act.put,List.setIfInBounds_toArray,List.set_cons_zero,List.set_cons_succ]
     refine' wpAnyH_take (i:=38) (v:=?_) (by simp only [List.getElem?_toArray,List.getElem?_cons_succ,List.getElem?_cons_zero];rfl) (by kernel_rfl) (by kernel_rfl) (by kernel_rfl) (by intro _ _ _ h;exact h) (Or.inl ⟨by rfl,?hy38⟩) hHeld ?r38
     case hy38=>(intro w hSw;clear hSw;go_simp;try with_reducible rfl)
     try simp only [Act.put,List.setIfInBounds_toArray,List.set_cons_zero,List.set_cons_succ]
     refine' wpAnyH_take (i:=39) (v:=?_) (by simp only [List.getElem?_toArray,List.getElem?_cons_succ,List.getElem?_cons_zero];rfl) (by kernel_rfl) (by kernel_rfl) (by kernel_rfl) (by intro _ _ _ h;exact h) (Or.inl ⟨by rfl,?hy39⟩) hHeld ?r39
     case hy39=>(intro w hSw;clear hSw;go_simp;try with_reducible rfl)
     try simp only [Act.put,List.setIfInBounds_toArray,List.set_cons_zero,List.set_cons_succ]
     refine' wpAnyH_take (i:=40) (v:=_) (by simp only [List.getElem?_toArray,List.getElem?_cons_succ,List.getElem?_cons_zero];rfl) (by kernel_rfl) (by kernel_rfl) (by kernel_rfl) (by intro _ _ _ h;exact h) (yieldsIf_load_mid (by rfl) 35 _ rfl O1 0 rfl (orgC o) _ (fun w h=>org_range h.2.2.2.1) Tryz.underlying35 rfl info_org) hHeld ?r40
     try simp only [Act.put,List.setIfInBounds_toArray,List.set_cons_zero,List.set_cons_succ]
     refine' wpAnyH_take (i:=42) (v:=_) (by simp only [List.getElem?_toArray,List.getElem?_cons_succ,List.getElem?_cons_zero];rfl) (by kernel_rfl) (by kernel_rfl) (by kernel_rfl) (by intro _ _ _ h;exact h) (yieldsIf_load_mid (by rfl) 35 _ rfl O2 0 rfl (orgC o) _ (fun w h=>org_range h.2.2.2.2.1) Tryz.underlying35 rfl info_org) hHeld ?r42
     try simp only [Act.put,List.setIfInBounds_toArray,List.set_cons_zero,List.set_cons_succ]
     refine' wpAnyH_one (i:=41) (v:=.string T1) (by kernel_rfl) (by simp only [List.getElem?_toArray,List.getElem?_cons_succ,List.getElem?_cons_zero];rfl) ?g41 hHeld ?r41
     case g41=>(intro wq hq K hK;try simp only [Act.put,List.setIfInBounds_toArray,List.set_cons_zero,List.set_cons_succ];go_simp;refine (HP1.out _ (HT.out _ hq.1)).mono ?_;rintro e w2 ⟨rfl,hb⟩;have hq2:=SkAt.below hq hb;clear hb;go_wp2_with fail;exact hK.out _ hq2)
     clear hHeld
     intro wn hHeld
     try simp only [Act.put,List.setIfInBounds_toArray,List.set_cons_zero,List.set_cons_succ]
     refine' wpAnyH_one (i:=43) (v:=.string T1) (by kernel_rfl) (by simp only [List.getElem?_toArray,List.getElem?_cons_succ,List.getElem?_cons_zero];rfl) ?g43 hHeld ?r43
     case g43=>(intro wq hq K hK;try simp only [Act.put,List.setIfInBounds_toArray,List.set_cons_zero,List.set_cons_succ];go_simp;refine (HQ1.out _ (HT.out _ hq.1)).mono ?_;rintro e w2 ⟨rfl,hb⟩;have hq2:=SkAt.below hq hb;clear hb;go_wp2_with fail;exact hK.out _ hq2)
     clear hHeld
     intro wn hHeld
     try simp only [Act.put,List.setIfInBounds_toArray,List.set_cons_zero,List.set_cons_succ]
     refine' wpAnyH_take (i:=44) (v:=.bool true) (by simp only [List.getElem?_toArray,List.getElem?_cons_succ,List.getElem?_cons_zero];rfl) (by kernel_rfl) (by kernel_rfl) (by kernel_rfl) (by intro _ _ _ h;exact h) (Or.inl ⟨by rfl,?hy44⟩) hHeld ?r44
     case hy44=>(intro w hSw;clear hSw;go_simp;try (first | rfl | simp))
     try simp only [Act.put,List.setIfInBounds_toArray,List.set_cons_zero,List.set_cons_succ]
     refine' wpAnyH_take (i:=45) (v:=?_) (by simp only [List.getElem?_toArray,List.getElem?_cons_succ,List.getElem?_cons_zero];rfl) (by kernel_rfl) (by kernel_rfl) (by kernel_rfl) (by intro _ _ _ h;exact h) (Or.inl ⟨by rfl,?hy45⟩) hHeld ?r45
     case hy45=>(intro w hSw;clear hSw;go_simp;try with_reducible rfl)
     try simp only [Act.put,List.setIfInBounds_toArray,List.set_cons_zero,List.set_cons_succ]
     refine' wpAnyH_take (i:=46) (v:=?_) (by simp only [List.getElem?_toArray,List.getElem?_cons_succ,List.getElem?_cons_zero];rfl) (by kernel_rfl) (by kernel_rfl) (by kernel_rfl) (by intro _ _ _ h;exact h) (Or.inl ⟨by rfl,?hy46⟩) hHeld ?r46
     case hy46=>(intro w hSw;clear hSw;go_simp;try with_reducible rfl)
     try simp only [Act.put,List.setIfInBounds_toArray,List.set_cons_zero,List.set_cons_succ]
     refine' wpAnyH_take (i:=47) (v:=_) (by simp only [List.getElem?_toArray,List.getElem?_cons_succ,List.getElem?_cons_zero];rfl) (by kernel_rfl) (by kernel_rfl) (by kernel_rfl) (by intro _ _ _ h;exact h) (yieldsIf_load_mid (by rfl) 35 _ rfl O3 0 rfl (orgC c) _ (fun w h=>org_range h.2.2.2.2.2.1) Tryz.underlying35 rfl info_org) hHeld ?r47
     try simp only [Act.put,List.setIfInBounds_toArray,List.set_cons_zero,List.set_cons_succ]
     refine' wpAnyH_take (i:=49) (v:=_) (by simp only [List.getElem?_toArray,List.getElem?_cons_succ,List.getElem?_cons_zero];rfl) (by kernel_rfl) (by kernel_rfl) (by kernel_rfl) (by intro _ _ _ h;exact h) (yieldsIf_load_mid (by rfl) 35 _ rfl O4 0 rfl (orgC c) _ (fun w h=>org_range h.2.2.2.2.2.2.1) Tryz.underlying35 rfl info_org) hHeld ?r49
     try simp only [Act.put,List.setIfInBounds_toArray,List.set_cons_zero,List.set_cons_succ]
     refine' wpAnyH_one (i:=48) (v:=.string T2) (by kernel_rfl) (by simp only [List.getElem?_toArray,List.getElem?_cons_succ,List.getElem?_cons_zero];rfl) ?g48 hHeld ?r48
     case g48=>(intro wq hq K hK;try simp only [Act.put,List.setIfInBounds_toArray,List.set_cons_zero,List.set_cons_succ];go_simp;refine (HP2.out _ (HT.out _ hq.1)).mono ?_;rintro e w2 ⟨rfl,hb⟩;have hq2:=SkAt.below hq hb;clear hb;go_wp2_with fail;exact hK.out _ hq2)
     clear hHeld
     intro wn hHeld
     try simp only [Act.put,List.setIfInBounds_toArray,List.set_cons_zero,List.set_cons_succ]
     refine' wpAnyH_one (i:=50) (v:=.string T2) (by kernel_rfl) (by simp only [List.getElem?_toArray,List.getElem?_cons_succ,List.getElem?_cons_zero];rfl) ?g50 hHeld ?r50
     case g50=>(intro wq hq K hK;try simp only [Act.put,List.setIfInBounds_toArray,List.set_cons_zero,List.set_cons_succ];go_simp;refine (HQ2.out _ (HT.out _ hq.1)).mono ?_;rintro e w2 ⟨rfl,hb⟩;have hq2:=SkAt.below hq hb;clear hb;go_wp2_with fail;exact hK.out _ hq2)
     clear hHeld
     intro wn hHeld
     try simp only [Act.put,List.setIfInBounds_toArray,List.set_cons_zero,List.set_cons_succ]
     refine' wpAnyH_take (i:=51) (v:=.bool true) (by simp only [List.getElem?_toArray,List.getElem?_cons_succ,List.getElem?_cons_zero];rfl) (by kernel_rfl) (by kernel_rfl) (by kernel_rfl) (by intro _ _ _ h;exact h) (Or.inl ⟨by rfl,?hy51⟩) hHeld ?r51
     case hy51=>(intro w hSw;clear hSw;go_simp;try (first | rfl | simp))
     try simp only [Act.put,List.setIfInBounds_toArray,List.set_cons_zero,List.set_cons_succ]
     refine' wpAnyH_take (i:=52) (v:=?_) (by simp only [List.getElem?_toArray,List.getElem?_cons_succ,List.getElem?_cons_zero];rfl) (by kernel_rfl) (by kernel_rfl) (by kernel_rfl) (by intro _ _ _ h;exact h) (Or.inl ⟨by rfl,?hy52⟩) hHeld ?r52
     case hy52=>(intro w hSw;clear hSw;go_simp;try with_reducible rfl)
     try simp only [Act.put,List.setIfInBounds_toArray,List.set_cons_zero,List.set_cons_succ]
     refine' wpAnyH_take (i:=53) (v:=?_) (by simp only [List.getElem?_toArray,List.getElem?_cons_succ,List.getElem?_cons_zero];rfl) (by kernel_rfl) (by kernel_rfl) (by kernel_rfl) (by intro _ _ _ h;exact h) (Or.inl ⟨by rfl,?hy53⟩) hHeld ?r53
     case hy53=>(intro w hSw;clear hSw;go_simp;try with_reducible rfl)
     try simp only [Act.put,List.setIfInBounds_toArray,List.set_cons_zero,List.set_cons_succ]
     refine' wpAnyH_take (i:=54) (v:=?_) (by simp only [List.getElem?_toArray,List.getElem?_cons_succ,List.getElem?_cons_zero];rfl) (by kernel_rfl) (by kernel_rfl) (by kernel_rfl) (by intro _ _ _ h;exact h) (Or.inl ⟨by rfl,?hy54⟩) hHeld ?r54
     case hy54=>(intro w hSw;clear hSw;go_simp;try with_reducible rfl)
     try simp only [Act.put,List.setIfInBounds_toArray,List.set_cons_zero,List.set_cons_succ]
     refine' wpAnyH_take (i:=55) (v:=?_) (by simp only [List.getElem?_toArray,List.getElem?_cons_succ,List.getElem?_cons_zero];rfl) (by kernel_rfl) (by kernel_rfl) (by kernel_rfl) (by intro _ _ _ h;exact h) (Or.inl ⟨by rfl,?hy55⟩) hHeld ?r55
     case hy55=>(intro w hSw;clear hSw;go_simp;try with_reducible rfl)
     try simp only [Act.put,List.setIfInBounds_toArray,List.set_cons_zero,List.set_cons_succ]
     refine' wpAnyH_one (i:=56) (v:=.bool true) (by kernel_rfl) (by simp only [List.getElem?_toArray,List.getElem?_cons_succ,List.getElem?_cons_zero];rfl) ?g56 hHeld ?r56
     case g56=>(intro wq hq K hK;try simp only [Act.put,List.setIfInBounds_toArray,List.set_cons_zero,List.set_cons_succ];go_simp;refine (HTx.out _ _ hq.2.2.2.2.2.2.2 (HV.out _ hq.1)).mono ?_;rintro e w2 ⟨rfl,hb⟩;have hq2:=SkAt.below hq hb;clear hb;go_wp2_with fail;exact hK.out _ hq2)
     clear hHeld
     intro wn hHeld
     try simp only [Act.put,List.setIfInBounds_toArray,List.set_cons_zero,List.set_cons_succ]
     refine' wpAnyH_take (i:=57) (v:=?_) (by simp only [List.getElem?_toArray,List.getElem?_cons_succ,List.getElem?_cons_zero];rfl) (by kernel_rfl) (by kernel_rfl) (by kernel_rfl) (by intro _ _ _ h;exact h) (Or.inl ⟨by rfl,?hy57⟩) hHeld ?r57
     case hy57=>(intro w hSw;clear hSw;go_simp;try with_reducible rfl)
     try simp only [Act.put,List.setIfInBounds_toArray,List.set_cons_zero,List.set_cons_succ]
     refine' wpAnyH_take (i:=58) (v:=?_) (by simp only [List.getElem?_toArray,List.getElem?_cons_succ,List.getElem?_cons_zero];rfl) (by kernel_rfl) (by kernel_rfl) (by kernel_rfl) (by intro _ _ _ h;exact h) (Or.inl ⟨by rfl,?hy58⟩) hHeld ?r58
     case hy58=>(intro w hSw;clear hSw;go_simp;try with_reducible rfl)
     try simp only [Act.put,List.setIfInBounds_toArray,List.set_cons_zero,List.set_cons_succ]
     refine wpAnyH_done (by kernel_rfl) ?_ _
     go_wp2_with fail
     go_ret
     exact ⟨by first | rfl | simp,hHeld.1⟩
end Go.Proofs.YtigfgloenjoeoaaGreatDoor
