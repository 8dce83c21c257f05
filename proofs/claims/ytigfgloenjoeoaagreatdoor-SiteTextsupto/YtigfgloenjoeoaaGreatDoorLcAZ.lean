import Derived.Test.YtigfgloenjoeoaaGreatDoorLcAY
import Derived.Test.YtigfgloenjoeoaaGreatDoorLcAC
import Derived.Handy
set_option linter.unusedVariables false
set_option linter.unusedSimpArgs false
set_option maxRecDepth 20000
set_option maxHeartbeats 16000000
namespace Go.Proofs.YtigfgloenjoeoaaGreatDoor
open Go.RowKit
theorem info_ints:(Tryz.prog.info? 63).map (fun i=>(i.zero,i.size,i.bytes))=some (some (.slice none 0 0),1,24):=by kernel_rfl
theorem append_wide {α:Type} {f:α→Value} {t ts:TypeId} {z:Value} {bytes:Nat} (hf:∀x,(f x).oneCell'=true) (hu:Tryz.prog.underlying ts=some (.slice t)) (hin:(Tryz.prog.info? t).map (fun i=>(i.zero,i.size,i.bytes))=some (some z,1,bytes)) (hz:z.cells.size=1) (hby:bytes≤32)
 {w:World} {base:Nat} {v:Value} {xs:List α} (hown:Own f t w base v xs) {x:Value} {l:List α} (hx:Row f w x l) (hlen:xs.length+l.length≤1000000) (hbase:base≤w.heap.size) :
 ∃v' w',(Builtin.append_ #[ts,ts] ts #[v,x]).run Tryz.prog w=.ok v' w'∧Own f t w' base v' (xs++l)∧w.grownBy w' v.ownBlock:=by
 obtain ⟨i0,hi,hz0,hz1,hz2⟩:=info_parts hin
 have hx0:=hx
 obtain ⟨a,cap,rfl,h1,h2,h3⟩:=hx
 cases a with
 | none =>
   have hl:l=[]:=by
    rcases List.eq_nil_or_concat l with h | ⟨l',c,h⟩
    ·exact h
    ·obtain ⟨b,off,he,_⟩:=h3 (by rw [h];simp)
     cases he
   subst hl
   refine ⟨v,w,?_,by rw [List.append_nil];exact hown,⟨rfl,rfl,rfl,Nat.le_refl _,fun _ _ _=>rfl⟩⟩
   rcases hown.2 with ⟨rfl,hl⟩ | ⟨g,cap',cur,rfl,_,_,hnc,_⟩
   ·simp [Builtin.append_,run_underlying hu,sizeOf,typeInfo,hi,Builtin.lenOf,Builtin.firstCells]
   ·simp [Builtin.append_,run_underlying hu,sizeOf,typeInfo,hi,Builtin.lenOf,Builtin.firstCells,hnc,storeCells]
 | some a =>
   obtain ⟨_,hc⟩:=Row.cells hx0
   obtain ⟨v',w',hr,ho,hg,_⟩:=run_append_own (P:=Tryz.prog) w base ts ts t i0 z 1 bytes hu hi hz0 hz1 hz2 hz (by decide) v xs.length (xs.map f) hown a l.length cap (l.map f) (by simp) hc
    (by intro u hu;obtain ⟨y,_,rfl⟩:=List.mem_map.1 hu;exact hf y) (by unfold maxLen;omega) (Nat.le_trans (Nat.mul_le_mul hlen hby) (by decide)) hbase
   refine ⟨v',w',hr,?_,hg⟩
   unfold Own
   rw [List.length_append,List.map_append]
   exact ho
def fx (x:Option Addr×Nat×Nat):Value:=.slice x.1 x.2.1 x.2.2
abbrev XOwn (w:World) (base:Nat) (v:Value) (l:List (Option Addr×Nat×Nat)):Prop:=Own fx 63 w base v l
theorem appendP_run {w:World} {base:Nat} {v:Value} {xs:List (Option Addr×Nat×Nat)} (hown:XOwn w base v xs) {x:Value} {l:List (Option Addr×Nat×Nat)} (hx:Row fx w x l) (hlen:xs.length+l.length≤1000000) (hbase:base≤w.heap.size) :
 ∃v' w',(Builtin.append_ #[121,121] 121 #[v,x]).run Tryz.prog w=.ok v' w'∧XOwn w' base v' (xs++l)∧w.grownBy w' v.ownBlock :=
 append_wide (fun _=>rfl) Tryz.underlying121 info_ints rfl (by decide) hown hx hlen hbase
def Each (w:World):List (Option Addr×Nat×Nat)→List (List Int)→Prop
 | [],[]=>True
 | x::xs,p::ps=>IRow w (fx x) p∧Each w xs ps
 | _,_=>False
theorem Each.len {w:World}:∀{xs:List (Option Addr×Nat×Nat)} {ps:List (List Int)},Each w xs ps→xs.length=ps.length
 | [],[],_=>rfl
 | x::xs,p::ps,h=>by rw [List.length_cons,List.length_cons,Each.len h.2]
 | [],p::ps,h=>h.elim
 | x::xs,[],h=>h.elim
theorem Each.snoc {w:World} {x:Option Addr×Nat×Nat} {p:List Int} (hx:IRow w (fx x) p):∀{xs:List (Option Addr×Nat×Nat)} {ps:List (List Int)},Each w xs ps→Each w (xs++[x]) (ps++[p])
 | [],[],_=>⟨hx,trivial⟩
 | y::xs,q::ps,h=>⟨h.1,Each.snoc hx h.2⟩
 | [],p::ps,h=>h.elim
 | x::xs,[],h=>h.elim
theorem Each.get {w:World}:∀{xs:List (Option Addr×Nat×Nat)} {ps:List (List Int)},Each w xs ps→∀(i:Nat) (h:i < xs.length) (h':i < ps.length),IRow w (fx xs[i]) ps[i]
 | x::xs,p::ps,h,0,_,_=>h.1
 | x::xs,p::ps,h,i+1,h1,h2=>Each.get h.2 i (by simpa using h1) (by simpa using h2)
 | [],[],_,i,h1,_=>absurd h1 (by simp)
 | [],p::ps,h,_,_,_=>h.elim
 | x::xs,[],h,_,_,_=>h.elim
theorem Each.below {w w':World} (hb:Below w.heap.size w w'):∀{xs:List (Option Addr×Nat×Nat)} {ps:List (List Int)},Each w xs ps→Each w' xs ps
 | [],[],_=>trivial
 | x::xs,p::ps,h=>⟨h.1.below hb,Each.below hb h.2⟩
 | [],p::ps,h=>h.elim
 | x::xs,[],h=>h.elim
def PRow (w:World) (v:Value) (ps:List (List Int)):Prop:=∃xs,Row fx w v xs∧Each w xs ps
theorem goI_none:∀(l cur:List Int),(∀x∈l,x≠46)→goI cur l=[cur++l]
 | [],cur,_=>by simp [goI]
 | x::l,cur,h=>by
   unfold goI
   rw [if_neg (h x List.mem_cons_self),goI_none l (cur++[x]) (fun y hy=>h y (List.mem_cons_of_mem _ hy))]
   simp
theorem goI_at:∀(l cur:List Int) (k:Nat) (hk:k < l.length),l[k]=46→(∀x∈l.take k,x≠46)→goI cur l=(cur++l.take k)::goI [] (l.drop (k+1))
 | x::l,cur,0,hk,hc,_=>by
   have hx:x=46:=by simpa using hc
   show (if x=46 then cur::goI [] l else _)=_
   rw [if_pos hx]
   simp
 | x::l,cur,k+1,hk,hc,hn=>by
   show (if x=46 then _ else goI (cur++[x]) l)=_
   rw [if_neg (hn x (by simp)),goI_at l (cur++[x]) k (by simpa using hk) (by simpa using hc) (fun y hy=>hn y (by simp;exact .inr hy))]
   simp
def IdxPost (l:List Int) (c:Int) (e:Ending):Prop:=(e=.returned (.int .i64 (-1))∧∀x∈l,x≠c)∨∃k:Nat,∃h:k < l.length,e=.returned (.int .i64 (k:Int))∧l[k]=c∧∀x∈l.take k,x≠c
theorem index_calls (v:Value) (l:List Int) (c:Int) (w:World) (hv:IRow w v l) :
 Calls Tryz.prog 151 #[v,.int .i64 c] w fun e w'=>IdxPost l c e∧w'=w:=by
 have HV:=hid hv
 obtain ⟨a,cap,rfl,h1,h2,h3⟩:=hv
 unfold maxLen at h2
 have l2:(l.length:Int)≤(cap:Int):=by omega
 have l3:(cap:Int)≤9223372036854775807:=by omega
 clear h1 h2 h3
 go_enter Tryz.func151,Tryz.ntmps151
 go_wp2_with fail
 go_loop [8] (fun vi=>∃k:Nat,k≤l.length∧vi=.int .i64 (k:Int)∧∀x∈l.take k,x≠c) (fun vi=>l.length-(intOf vi).toNat)
 case atStart=>exact ⟨0,Nat.zero_le _,rfl,by simp⟩
 case round =>
  obtain ⟨k,hk,rfl,hall⟩:=hrel
  have HA:=hid hall
  have k0:(0:Int)≤(k:Int):=by omega
  clear hall
  by_cases hlt:k < l.length
  ·obtain ⟨b,off,rfl,hck⟩:=HV.out.open (Below.refl _ _) k hlt
   have k1:(k:Int) < (l.length:Int):=by omega
   have HK:=hid hlt
   have HN:Hid (l[k]≠c→∀x∈l.take (k+1),x≠c):=by
    intro h x hx
    rw [List.take_succ_eq_append_getElem hlt] at hx
    rcases List.mem_append.1 hx with g | g
    ·exact HA.out x g
    ·rw [List.mem_singleton.1 g];exact h
   have HY:Hid (l[k]=c→IdxPost l c (.returned (.int .i64 (k:Int)))):=fun h=>.inr ⟨k,hlt,rfl,h,HA.out⟩
   generalize l[k]=d at *
   clear hlt hk
   by_cases hcd:d=c
   ·subst hcd
    go_wp2_with fail
    go_ret
    exact ⟨HY.out (by first | rfl | trivial),rfl⟩
   ·have HX:=hid (HN.out hcd)
    have q1:(c==d)=false:=by rw [beq_eq_false_iff_ne];exact fun h=>hcd h.symm
    clear hcd
    go_wp2_with fail
    go_round
    case rel=>exact ⟨k+1,HK.out,by go_num,HX.out⟩
    case measure=>have:=HK.out;simp [intOf];omega
  ·have hkl:k=l.length:=by omega
   have HF:Hid (IdxPost l c (.returned (.int .i64 (-1)))):=.inl ⟨rfl,by
    have h:=HA.out
    rw [hkl,List.take_length] at h
    exact h⟩
   have g:¬(k:Int) < (l.length:Int):=by omega
   clear hlt hk hkl
   go_wp2_with fail
   go_ret
   exact ⟨HF.out,rfl⟩
def lenS:Value→Nat
 | .slice _ n _=>n
 | _=>0
theorem rowI_take {w:World} {a:Option Addr} {n C:Nat} {l:List Int} (h:IRow w (.slice a n C) l) (k:Nat) (hk:k≤l.length):IRow w (.slice a k C) (l.take k):=by
 obtain ⟨a',cap',he,h1,h2,h3⟩:=h
 injection he with e1 e2 e3
 subst e1 e2 e3
 have hln:(l.take k).length=k:=by rw [List.length_take];omega
 refine ⟨_,_,by rw [hln],by omega,by omega,fun hne=>?_⟩
 obtain ⟨b,off,he,hb,hc⟩:=h3 (by intro e;subst e;simp at hne)
 exact ⟨b,off,he,hb,fun j hj=>by rw [hc j (by omega)];simp⟩
theorem rowI_drop {w:World} {b off n C:Nat} {l:List Int} (h:IRow w (.slice (some ⟨b,off,none⟩) n C) l) (k:Nat) (hk:k < l.length):IRow w (.slice (some ⟨b,off+k,none⟩) (l.length-k) (C-k)) (l.drop k):=by
 obtain ⟨b',off',he,_,_,_,hr⟩:=Row.from h k hk
 injection he with he
 injection he with e1 e2
 subst e1 e2
 exact hr
def CutAt (w:World) (m:List Int) (vl:Value) (r:List Int) (xs:List (Option Addr×Nat×Nat)):Prop :=
 ∃ps,IRow w vl r∧Each w xs ps∧goI [] m=ps++goI [] r∧xs.length+r.length≤m.length
theorem CutAt.start {w:World} {m:List Int} {v:Value} (h:IRow w v m):CutAt w m v m []:=⟨[],h,trivial,rfl,by simp⟩
theorem CutAt.row {w:World} {m r:List Int} {v:Value} {xs:List (Option Addr×Nat×Nat)} (h:CutAt w m v r xs):IRow w v r:=by obtain ⟨ps,h1,_⟩:=h;exact h1
theorem CutAt.len {w:World} {m r:List Int} {v:Value} {xs:List (Option Addr×Nat×Nat)} (h:CutAt w m v r xs):xs.length+r.length≤m.length:=by obtain ⟨ps,_,_,_,h4⟩:=h;exact h4
theorem CutAt.last {w:World} {m r:List Int} {a:Option Addr} {n C:Nat} {xs:List (Option Addr×Nat×Nat)} (h:CutAt w m (.slice a n C) r xs) (hn:∀x∈r,x≠46):Each w (xs++[(a,n,C)]) (goI [] m):=by
 obtain ⟨ps,h1,h2,h3,_⟩:=h
 rw [h3,goI_none r [] hn]
 exact Each.snoc h1 h2
theorem CutAt.next {w:World} {m r:List Int} {a:Option Addr} {n C:Nat} {xs:List (Option Addr×Nat×Nat)} (h:CutAt w m (.slice a n C) r xs) (k:Nat) (hk:k < r.length) (hc:r[k]=46) (hn:∀x∈r.take k,x≠46) {v':Value} (hv:IRow w v' (r.drop (k+1))):CutAt w m v' (r.drop (k+1)) (xs++[(a,k,C)]):=by
 obtain ⟨ps,h1,h2,h3,h4⟩:=h
 refine ⟨ps++[r.take k],hv,Each.snoc (rowI_take h1 k (by omega)) h2,?_,?_⟩
 ·rw [h3,goI_at r [] k hk hc hn];simp
 ·rw [List.length_append,List.length_drop];simp;omega
theorem pieces_calls (v:Value) (m:List Int) (w:World) (hv:IRow w v m) (hm:m.length≤100000) :
 Calls Tryz.prog 107 #[v,.int .i64 46] w fun e w'=>(∃v',e=.returned v'∧PRow w' v' (goI [] m))∧Below w.heap.size w w':=by
 have HS:=hid (CutAt.start hv)
 have HM:=hid hm
 clear hv hm
 go_enter Tryz.func107,Tryz.ntmps107
 go_wp2_with fail
 go_loopw [0,5] (fun vl vo wr=>∃r xs,CutAt w m vl r xs∧XOwn wr w.heap.size vo xs∧Below w.heap.size w wr) (fun vl _ _=>lenS vl)
 case atStart=>exact ⟨m,[],HS.out,Own.nil _ _ _ _,Below.refl _ _⟩
 case round =>
  obtain ⟨r,xs,hc,ho,hb⟩:=hrel
  have HC:=hid hc
  have HO:=hid ho
  have HB:=hid hb
  have HSz:Hid (w.heap.size≤wr.heap.size):=hb.size
  have hlen:=hc.len
  have HV:=hid (hc.row.below hb)
  obtain ⟨a,C,he,h1,h2,h3⟩:=hc.row
  subst he
  unfold maxLen at h2
  have l2:(r.length:Int)≤(C:Int):=by omega
  have l3:(C:Int)≤9223372036854775807:=by omega
  have HL:Hid (xs.length+r.length≤100000):=by show _≤_;have:=HM.out;omega
  have H2:=hid h2
  have H1:=hid h1
  clear hc ho hb hlen h1 h2
  go_wp2_with fail
  refine (index_calls _ r 46 _ HV.out).mono ?_
  rintro e w1 ⟨⟨rfl,hno⟩ | ⟨k,hk,rfl,hat,hno⟩,rfl⟩
  ·have HE:=hid (HC.out.last hno)
   obtain ⟨v4,w4,hr4,ho4,hg4⟩:=appendP_run (HO.out.alloc (.cells #[.slice a r.length C] 63)) (Row.lit fx w1 [(a,r.length,C)] 63 (0,0) (by simp)) (by have:=HL.out;simp;omega) (by have:=HSz.out;simp;omega)
   have HB4:=hid ((HB.out.alloc HSz.out (.cells #[.slice a r.length C] 63)).grown hg4 (by have:=HSz.out;simp;omega) (Own.lt HO.out))
   have HO4:=hid ho4
   clear hno ho4 hg4 h3
   go_wp2_with (at_builtin;go_must (refine wpList_append_run hr4 rfl _ _ rfl rfl rfl rfl ?_))
   go_ret
   exact ⟨⟨_,rfl,_,HO4.out.row,HE.out.below HB4.out⟩,HB4.out⟩
  ·obtain ⟨b,off,rfl,hlt,_⟩:=h3 (by intro e;subst e;simp at hk)
   have HNx:=hid (fun v'=>HC.out.next k hk hat hno (v':=v'))
   have k0:(0:Int)≤(k:Int):=by omega
   have k1:(k:Int) < (r.length:Int):=by omega
   have HK:=hid hk
   obtain ⟨v4,w4,hr4,ho4,hg4⟩:=appendP_run (HO.out.alloc (.cells #[.slice (some ⟨b,off,none⟩) k C] 63)) (Row.lit fx w1 [(some ⟨b,off,none⟩,k,C)] 63 (0,0) (by simp)) (by have:=HL.out;simp;omega) (by have:=HSz.out;simp;omega)
   have HB4:=hid ((HB.out.alloc HSz.out (.cells #[.slice (some ⟨b,off,none⟩) k C] 63)).grown hg4 (by have:=HSz.out;simp;omega) (Own.lt HO.out))
   have HO4:=hid ho4
   have HR:=hid HC.out.row
   clear hno ho4 hg4 hat hlt HV
   by_cases hlast:k+1 < r.length
   ·have HD:=hid (HNx.out _ (rowI_drop HR.out (k+1) hlast))
    have hq1:(C=k+1)=False:=eq_false (by have:=H1.out;omega)
    have hq2:(k+1=C)=False:=eq_false (by have:=H1.out;omega)
    clear hk
    go_wp2_with (at_builtin;go_must (refine wpList_append_run hr4 rfl _ _ rfl rfl rfl rfl ?_))
    go_roundw
    case rel=>exact ⟨_,_,HD.out,HO4.out,HB4.out⟩
    case measure=>simp [lenS];omega
   ·have hke:k+1=r.length:=by omega
    have HD:=hid (fun A (C':Nat) (hC:C'≤maxLen)=>HNx.out (.slice A 0 C') (by rw [List.drop_eq_nil_of_le (by omega)];exact rowI_nil w A C' hC))
    clear hk
    by_cases hcap:C=k+1
    ·have hq1:(C=k+1)=True:=eq_true hcap
     have hq2:(k+1=C)=True:=eq_true hcap.symm
     have HCp:=hid hcap
     clear hcap
     go_wp2_with (at_builtin;go_must (refine wpList_append_run hr4 rfl _ _ rfl rfl rfl rfl ?_))
     go_roundw
     case rel=>exact ⟨_,_,HD.out _ _ (by have:=H2.out;unfold maxLen;omega),HO4.out,HB4.out⟩
     case measure=>simp [lenS];omega
    ·have hq1:(C=k+1)=False:=eq_false hcap
     have hq2:(k+1=C)=False:=eq_false (fun e=>hcap e.symm)
     go_wp2_with (at_builtin;go_must (refine wpList_append_run hr4 rfl _ _ rfl rfl rfl rfl ?_))
     go_roundw
     case rel=>exact ⟨_,_,HD.out _ _ (by have:=H2.out;unfold maxLen;omega),HO4.out,HB4.out⟩
     case measure=>simp [lenS];omega
theorem usmall_calls (c:Int) (w:World):Calls Tryz.prog 125 #[.int .i64 c] w fun e w'=>e=.returned (.int .i64 (lowC c))∧w'=w:=by
 unfold lowC
 by_cases h1:65≤c
 ·by_cases h2:c≤90
  ·rw [if_pos ⟨h1,h2⟩]
   go_enter Tryz.func125,Tryz.ntmps125
   go_wp2
   go_ret
   exact ⟨ret_int (by omega),rfl⟩
  ·rw [if_neg (fun h=>h2 h.2)]
   go_enter Tryz.func125,Tryz.ntmps125
   go_wp2
   go_ret
   exact ⟨rfl,rfl⟩
 ·rw [if_neg (fun h=>h1 h.1)]
  go_enter Tryz.func125,Tryz.ntmps125
  go_wp2
  go_ret
  exact ⟨rfl,rfl⟩
theorem let_low (c:Int):letC c=(decide (97≤lowC c)&&decide (lowC c≤122)):=by
 unfold letC lowC
 by_cases h1:65≤c∧c≤90
 ·rw [if_pos h1,decide_eq_true h1.1,decide_eq_true h1.2,decide_eq_true (show 97≤c+32 by omega),decide_eq_true (show c+32≤122 by omega)];simp
 ·rw [if_neg h1]
  have:(decide (65≤c)&&decide (c≤90))=false:=by rw [← Bool.not_eq_true];simpa using h1
  rw [this,Bool.or_false]
theorem uletter_calls (c:Int) (w:World):Calls Tryz.prog 123 #[.int .i64 c] w fun e w'=>e=.returned (.bool (letC c))∧w'=w:=by
 have HC:=hid (fun w=>usmall_calls c w)
 rw [let_low]
 generalize lowC c=d at *
 by_cases h1:97≤d
 ·by_cases h2:d≤122
  ·rw [decide_eq_true h1,decide_eq_true h2]
   go_enter Tryz.func123,Tryz.ntmps123
   go_wp2_with (go_at_call 125;refine (HC.out _).mono ?_;rintro e w1 ⟨rfl,rfl⟩)
   go_ret
   exact ⟨by simp [h2],rfl⟩
  ·rw [decide_eq_true h1,decide_eq_false h2]
   go_enter Tryz.func123,Tryz.ntmps123
   go_wp2_with (go_at_call 125;refine (HC.out _).mono ?_;rintro e w1 ⟨rfl,rfl⟩)
   go_ret
   exact ⟨by simp [h2],rfl⟩
 ·rw [decide_eq_false h1]
  go_enter Tryz.func123,Tryz.ntmps123
  go_wp2_with (go_at_call 125;refine (HC.out _).mono ?_;rintro e w1 ⟨rfl,rfl⟩)
  go_ret
  exact ⟨rfl,rfl⟩
theorem udigit_calls (c:Int) (w:World):Calls Tryz.prog 127 #[.int .i64 c] w fun e w'=>e=.returned (.bool (digC c))∧w'=w:=by
 unfold digC
 by_cases h1:48≤c
 ·by_cases h2:c≤57
  ·rw [decide_eq_true h1,decide_eq_true h2]
   go_enter Tryz.func127,Tryz.ntmps127
   go_wp2
   go_ret
   exact ⟨rfl,rfl⟩
  ·rw [decide_eq_true h1,decide_eq_false h2]
   go_enter Tryz.func127,Tryz.ntmps127
   go_wp2
   go_ret
   exact ⟨rfl,rfl⟩
 ·rw [decide_eq_false h1]
  go_enter Tryz.func127,Tryz.ntmps127
  go_wp2
  go_ret
  exact ⟨rfl,rfl⟩
theorem uends_calls (c:Int) (w:World):Calls Tryz.prog 137 #[.int .i64 c] w fun e w'=>e=.returned (.bool (endsB c))∧w'=w:=by
 unfold endsB
 cases h1:c==-1<;>cases h2:c==63<;>cases h3:c==35
 all_goals
  go_enter Tryz.func137,Tryz.ntmps137
  go_wp2
  go_ret
  exact ⟨rfl,rfl⟩
abbrev mvV (to by_ e:Nat):Value:=.agg #[.int .i64 (to:Int),.int .i64 (by_:Int),.int .i64 (e:Int)]
theorem uon_calls (t:Nat) (w:World):Calls Tryz.prog 126 #[.int .i64 (t:Int)] w fun e w'=>e=.returned (mvV t 1 0)∧Below w.heap.size w w':=by
 go_enter Tryz.func126,Tryz.ntmps126
 go_wp2
 go_returns
 exact ⟨rfl,(Below.refl _ _).alloc (Nat.le_refl _) _⟩
theorem uover_calls (t:Nat) (w:World):Calls Tryz.prog 134 #[.int .i64 (t:Int)] w fun e w'=>e=.returned (mvV t 2 0)∧Below w.heap.size w w':=by
 go_enter Tryz.func134,Tryz.ntmps134
 go_wp2
 go_returns
 exact ⟨rfl,(Below.refl _ _).alloc (Nat.le_refl _) _⟩
theorem uagain_calls (t:Nat) (w:World):Calls Tryz.prog 124 #[.int .i64 (t:Int)] w fun e w'=>e=.returned (mvV t 0 0)∧Below w.heap.size w w':=by
 go_enter Tryz.func124,Tryz.ntmps124
 go_wp2
 go_returns
 exact ⟨rfl,(Below.refl _ _).alloc (Nat.le_refl _) _⟩
theorem ufail_calls (t:Nat) (w:World):Calls Tryz.prog 131 #[.int .i64 (t:Int)] w fun e w'=>e=.returned (mvV 0 0 t)∧Below w.heap.size w w':=by
 go_enter Tryz.func131,Tryz.ntmps131
 go_wp2
 go_returns
 exact ⟨rfl,(Below.refl _ _).alloc (Nat.le_refl _) _⟩
end Go.Proofs.YtigfgloenjoeoaaGreatDoor
namespace Go.Proofs.YtigfgloenjoeoaaGreatDoor
def Fresh (m:MaR):Prop:=∃l,m.u={ urlM with sch:=l }
def Sim (x:RdP) (m:MaR) (s:Nat):Prop :=
 if s≤8 then x.m=m∧x.us=[]∧x.ps=[]∧Fresh m∧(s≠1→m.buf=[])
 else if s=9 then m={ x.m with u:={ x.m.u with usr:=partsN 6 x.us,pas:=partsN 6 x.ps } }∧x.m.u.port=-1
 else if s=10∨s=11 then x.m=m∧m.u.port=-1
 else if s=12 then x.m=m∧m.buf=[]
 else if s=14 then m={ x.m with buf:=[],u:={ x.m.u with txt:=partsN 1 x.m.buf } }
 else if s=15 then x.m=m∧m.u.qry=[]
 else if s=16 then m={ x.m with buf:=[],u:={ x.m.u with frg:=partsN 2 x.m.buf } }
 else x.m=m
def Alike (r:MvP) (q:StR):Prop:=r.2.2.2=q.2.2.2∧(q.2.2.2=0→r.2.1=q.2.1∧Sim (behP r) (behM q) q.2.1)
theorem enc_parts (set:Int) (l:List Int):encU set l=partsN set l:=(parts_eq set l).symm
theorem ends_eq {c:Int} (h:-1≤c) (m:MaR):endsM m c=endsA m c:=by
 unfold endsM endsA endsB
 congr 1;congr 1;congr 1
 by_cases h0:c=-1
 ·subst h0;rfl
 ·rw [decide_eq_false (by omega),beq_eq_false_iff_ne.2 h0]
theorem parts_snoc (set:Int) (l:List Int) (c:Int):partsN set (l++[c])=partsN set l++partN set c:=by simp [partsN]
theorem cred_eq:∀(l:List Int) (b:Bool) (us ps:List Int),credL l b (partsN 6 us) (partsN 6 ps)=((credS l b us ps).1,partsN 6 (credS l b us ps).2.1,partsN 6 (credS l b us ps).2.2)
 | [],b,us,ps=>rfl
 | c::r,b,us,ps=>by
   unfold credL credS
   by_cases h:c=58∧b=false
   ·rw [if_pos h,if_pos h];exact cred_eq r true us ps
   ·rw [if_neg h,if_neg h]
    cases b with
    | true =>
      have:=cred_eq r true us (ps++[c])
      rw [parts_snoc] at this
      simpa [addC] using this
    | false =>
      have:=cred_eq r false (us++[c]) ps
      rw [parts_snoc] at this
      simpa [addC] using this
theorem part64:partN 6 64=[37,52,48]:=by decide +kernel
theorem cred_at (l:List Int) (b:Bool) (us ps:List Int):credL ([37,52,48]++l) b (partsN 6 us) (partsN 6 ps)=credL l b (partsN 6 (addC b us ps 64).1) (partsN 6 (addC b us ps 64).2):=by
 have h1:partN 6 37=[37]:=by decide +kernel
 have h2:partN 6 52=[52]:=by decide +kernel
 have h3:partN 6 48=[48]:=by decide +kernel
 cases b<;>simp [credL,addC,parts_snoc,part64,h1,h2,h3]
theorem cred_sim (x:RdP) (m:MaR) (h:Sim x m 9):Sim (behP (credP x,9,1,0)) (behM (credM m,9,false,0)) 9:=by
 simp only [Sim,show¬(9:Nat)≤8 by decide,if_false,if_true] at h ⊢
 obtain ⟨rfl,hp⟩:=h
 have key:credL (if x.m.seen=true then [37,52,48]++x.m.buf else x.m.buf) x.m.colon (partsN 6 x.us) (partsN 6 x.ps)=((credS x.m.buf x.m.colon (credB x).1 (credB x).2).1,partsN 6 (credS x.m.buf x.m.colon (credB x).1 (credB x).2).2.1,partsN 6 (credS x.m.buf x.m.colon (credB x).1 (credB x).2).2.2):=by
  unfold credB
  cases x.m.seen with
  | true=>simp only [if_true];rw [cred_at,cred_eq]
  | false=>simp only [Bool.false_eq_true,if_false];rw [cred_eq]
 refine ⟨?_,hp⟩
 simp only [behM,behP,credM,credP,RdP.on,Bool.false_eq_true,if_false,key]
theorem portN_pos:∀(l:List Int) (a b:Int),a=min b 65536→(∀c∈l,48≤c)→l.foldl (fun n c=>min (n * 10+c-48) 65536) a=min (l.foldl (fun n c=>min (10 * n+c-48) 1048576) b) 65536
 | [],a,b,h,_=>h
 | c::r,a,b,h,hl=>by
   have hc:=hl c (by simp)
   exact portN_pos r _ _ (show min (a * 10+c-48) 65536=min (min (10 * b+c-48) 1048576) 65536 by omega) (fun d hd=>hl d (List.mem_cons_of_mem _ hd))
theorem portN_eq {l:List Int} (hl:∀c∈l,48≤c):portNumP l=min (portN l) 65536:=portN_pos l 0 0 (by omega) hl
theorem fresh_spM {m:MaR} {l:List UInt8} (h:m.u={ urlM with sch:=l }):m.u.port=-1∧m.u.usr=[]∧m.u.pas=[]∧m.u.txt=[]∧m.u.frg=[]∧m.u.qry=[]:=by rw [h];exact ⟨rfl,rfl,rfl,rfl,rfl,rfl⟩
theorem sim_low {x:RdP} {m:MaR} {s:Nat} (hs:s≤8) (h:Sim x m s):x.m=m∧x.us=[]∧x.ps=[]∧Fresh m∧(s≠1→m.buf=[]):=by
 unfold Sim at h;rwa [if_pos hs] at h
theorem sim_lo {x:RdP} {m:MaR} {s:Nat} (hs:s≤8) (h1:x.m=m) (h2:x.us=[]) (h3:x.ps=[]) (h4:Fresh m) (h5:s≠1→m.buf=[]):Sim x m s:=by
 unfold Sim;rw [if_pos hs];exact ⟨h1,h2,h3,h4,h5⟩
theorem leave_sim (x:RdP) (c:Int) (m:MaR) (h:x.m=m) (hb:m.buf=[]) (hc:c=-1∨c=63∨c=35) :
 Alike (leaveP x c) (if c=63 then (askM m,15,false,0) else if c=35 then (markM m,16,false,0) else (m,17,false,0)):=by
 subst h
 unfold leaveP
 rcases hc with rfl | rfl | rfl
 ·exact ⟨rfl,fun _=>⟨rfl,by simp [Sim,behP,behM,RdP.on]⟩⟩
 ·exact ⟨rfl,fun _=>⟨rfl,by simp [Sim,behP,behM,RdP.on,askM]⟩⟩
 ·refine ⟨rfl,fun _=>⟨rfl,?_⟩⟩
  simp [Sim,behP,behM,RdP.on,markM,hb,partsN]
theorem no_err {n:Nat} {p:Prop} (h:n+1=0):p:=absurd h (Nat.succ_ne_zero n)
theorem sim_begin (x:RdP) (m:MaR) (c:Int) (h:Sim x m 0):Alike (beginP x c) (frontR m 0 c):=by
 obtain ⟨rfl,h2,h3,h4,h5⟩:=sim_low (by decide) h
 unfold beginP frontR
 rw [if_pos rfl]
 split
 ·exact ⟨rfl,fun _=>⟨rfl,sim_lo (by show 1≤8;decide) rfl h2 h3 h4 (fun h=>absurd rfl h)⟩⟩
 ·exact ⟨rfl,fun _=>⟨rfl,sim_lo (by show 2≤8;decide) rfl h2 h3 h4 (fun _=>h5 (by decide))⟩⟩
theorem sim_behind (x:RdP) (h2:x.us=[]) (h3:x.ps=[]) (h4:Fresh x.m) (h5:x.m.buf=[]):Alike (behindP x) (colonR x.m):=by
 obtain ⟨l,hl⟩:=h4
 unfold behindP colonR
 split
 ·exact ⟨rfl,fun h=>no_err h⟩
 split
 ·exact ⟨rfl,fun _=>⟨rfl,sim_lo (by show 3≤8;decide) rfl h2 h3 ⟨l,hl⟩ (fun _=>h5)⟩⟩
 split
 ·exact ⟨rfl,fun _=>⟨rfl,sim_lo (by show 7≤8;decide) rfl h2 h3 ⟨l,hl⟩ (fun _=>h5)⟩⟩
 split
 ·exact ⟨rfl,fun _=>⟨rfl,sim_lo (by show 4≤8;decide) rfl h2 h3 ⟨l,hl⟩ (fun _=>h5)⟩⟩
 ·refine ⟨rfl,fun _=>⟨rfl,?_⟩⟩
  simp [Sim,behP,behM,RdP.on,darkU,h5,partsN,hl,urlM,url0]
theorem sim_scheme (x:RdP) (m:MaR) (c:Int) (h:Sim x m 1):Alike (schemeP x c) (schemeR m c):=by
 obtain ⟨rfl,h2,h3,⟨l,hl⟩,h5⟩:=sim_low (by decide) h
 unfold schemeP schemeR
 split
 ·exact ⟨rfl,fun _=>⟨rfl,sim_lo (by show 1≤8;decide) rfl h2 h3 ⟨l,hl⟩ (fun h=>absurd rfl h)⟩⟩
 by_cases h58:c=58
 ·rw [if_pos h58,if_neg (fun h=>h h58)]
  refine sim_behind (x.on schemeM) h2 h3 ⟨textL x.m.buf,?_⟩ rfl
  show ({ x.m.u with sch:=textL x.m.buf }:UrlN)=_
  rw [hl]
 ·rw [if_neg h58,if_pos h58]
  exact ⟨rfl,fun _=>⟨rfl,sim_lo (by show 2≤8;decide) rfl h2 h3 ⟨l,hl⟩ (fun _=>rfl)⟩⟩
theorem sim_noScheme (x:RdP) (m:MaR) (c:Int) (h:Sim x m 2):Alike (noSchemeP x c) (noSchemeR m c):=by
 obtain ⟨rfl,h2,h3,h4,h5⟩:=sim_low (by decide) h
 unfold noSchemeP noSchemeR
 split
 ·exact ⟨rfl,fun h=>no_err h⟩
 rename_i hn
 by_cases hd:x.m.base.dark=true
 ·have hc:c=35:=by
   simp only [Bool.or_eq_true,Bool.and_eq_true,Bool.not_eq_true',bne_iff_ne,hd,true_and,not_or,Decidable.not_not] at hn
   exact hn.2
  subst hc
  rw [if_pos hd,if_pos hd]
  exact leave_sim (x.on (fun m=>{ m with u:=m.base })) 35 { x.m with u:=x.m.base } rfl (h5 (by decide)) (Or.inr (Or.inr rfl))
 ·rw [if_neg hd,if_neg hd]
  exact ⟨rfl,fun _=>⟨rfl,sim_lo (by show 5≤8;decide) rfl h2 h3 h4 (fun _=>h5 (by decide))⟩⟩
theorem sim_slashOr (x:RdP) (m:MaR) (c:Int) (h:Sim x m 3):Alike (slashOrP x c) (slashesR m 3 c):=by
 obtain ⟨rfl,h2,h3,h4,h5⟩:=sim_low (by decide) h
 unfold slashOrP slashesR
 split
 ·exact ⟨rfl,fun _=>⟨rfl,sim_lo (by show 8≤8;decide) rfl h2 h3 h4 (fun _=>h5 (by decide))⟩⟩
 ·exact ⟨rfl,fun _=>⟨rfl,sim_lo (by show 5≤8;decide) rfl h2 h3 h4 (fun _=>h5 (by decide))⟩⟩
theorem sim_slashes (x:RdP) (m:MaR) (c:Int) (h:Sim x m 7):Alike (slashesP x c) (slashesR m 7 c):=by
 obtain ⟨rfl,h2,h3,h4,h5⟩:=sim_low (by decide) h
 unfold slashesP slashesR
 split
 ·exact ⟨rfl,fun _=>⟨rfl,sim_lo (by show 8≤8;decide) rfl h2 h3 h4 (fun _=>h5 (by decide))⟩⟩
 ·exact ⟨rfl,fun _=>⟨rfl,sim_lo (by show 8≤8;decide) rfl h2 h3 h4 (fun _=>h5 (by decide))⟩⟩
theorem sim_auth {x:RdP} {m:MaR} (h1:x.m=m) (h2:x.us=[]) (h3:x.ps=[]) (h4:Fresh m):Sim x m 9:=by
 obtain ⟨l,hl⟩:=h4
 subst h1
 obtain ⟨e1,e2,e3,-⟩:=fresh_spM hl
 simp only [Sim,show¬(9:Nat)≤8 by decide,if_false,if_true]
 refine ⟨?_,e1⟩
 rw [h2,h3]
 obtain ⟨⟨inp,p,⟨⟩⟩,us,ps⟩:=x
 simp only [partsN,List.flatMap_nil] at *
 simp [e2,e3]
theorem sim_path {x:RdP} {m:MaR} (h1:x.m=m):Sim x m 13:=by simp [Sim,h1]
theorem sim_slash (x:RdP) (m:MaR) (c:Int) (h:Sim x m 4):Alike (slashP x c) (if c=47 then (m,9,false,0) else (m,13,true,0)):=by
 obtain ⟨rfl,h2,h3,h4,h5⟩:=sim_low (by decide) h
 unfold slashP
 split
 ·exact ⟨rfl,fun _=>⟨rfl,sim_auth rfl h2 h3 h4⟩⟩
 ·exact ⟨rfl,fun _=>⟨rfl,sim_path rfl⟩⟩
theorem sim_skip (x:RdP) (m:MaR) (c:Int) (h:Sim x m 8):Alike (skipP x c) (if c=47∨c=92 then (m,8,false,0) else (m,9,true,0)):=by
 obtain ⟨rfl,h2,h3,h4,h5⟩:=sim_low (by decide) h
 unfold skipP
 split
 ·exact ⟨rfl,fun _=>⟨rfl,sim_lo (by show 8≤8;decide) rfl h2 h3 h4 (fun _=>h5 (by decide))⟩⟩
 ·exact ⟨rfl,fun _=>⟨rfl,sim_auth rfl h2 h3 h4⟩⟩
theorem endsB_iff {c:Int}:endsB c=true↔c=-1∨c=63∨c=35:=by
 simp only [endsB,Bool.or_eq_true,beq_iff_eq,or_assoc]
theorem endsB_no {c:Int}:endsB c=false↔c≠-1∧c≠63∧c≠35:=by
 simp only [endsB,Bool.or_eq_false_iff,beq_eq_false_iff_ne,and_assoc]
theorem sim_relative (x:RdP) (m:MaR) (c:Int) (h:Sim x m 5) (hc:-1≤c):Alike (relativeP x c) (relativeR m c):=by
 obtain ⟨rfl,h2,h3,⟨l,hl⟩,h5⟩:=sim_low (by decide) h
 unfold relativeP relativeR
 show Alike _ (if slashM (relSchM x.m) c=true then _ else _)
 split
 ·refine ⟨rfl,fun _=>⟨rfl,sim_lo (by show 6≤8;decide) rfl h2 h3 ⟨x.m.base.sch,?_⟩ (fun _=>h5 (by decide))⟩⟩
  show ({ x.m.u with sch:=x.m.base.sch }:UrlN)=_
  rw [hl]
 split
 ·rename_i he
  have he:=endsB_iff.1 he
  have:=leave_sim (x.on (fun m=>baseM (relSchM m))) c (baseM (relSchM x.m)) rfl (h5 (by decide)) he
  rcases he with rfl | rfl | rfl<;>exact this
 ·rename_i he
  have he:=endsB_no.1 (by simpa using he)
  rw [if_neg he.2.1,if_neg he.2.2,if_neg (by omega)]
  exact ⟨rfl,fun _=>⟨rfl,sim_path rfl⟩⟩
theorem sim_relSlash (x:RdP) (m:MaR) (c:Int) (h:Sim x m 6):Alike (relSlashP x c) (middleR m 6 c):=by
 obtain ⟨rfl,h2,h3,h4,h5⟩:=sim_low (by decide) h
 unfold relSlashP middleR
 rw [if_pos rfl]
 split
 ·exact ⟨rfl,fun _=>⟨rfl,sim_lo (by show 8≤8;decide) rfl h2 h3 h4 (fun _=>h5 (by decide))⟩⟩
 split
 ·exact ⟨rfl,fun _=>⟨rfl,sim_auth rfl h2 h3 h4⟩⟩
 ·exact ⟨rfl,fun _=>⟨rfl,sim_path rfl⟩⟩
theorem ends_sp (m:MaR) (u:UrlN) (h:u.sch=m.u.sch) (c:Int):endsA { m with u:=u } c=endsA m c:=by
 simp only [endsA,slashM,spM,h]
theorem sim_who (x:RdP) (m:MaR) (c:Int) (h:Sim x m 9) (hc:-1≤c):Alike (authP x c) (whoAuthR m c):=by
 unfold authP whoAuthR
 split
 ·exact ⟨rfl,fun _=>⟨rfl,cred_sim x m h⟩⟩
 simp only [Sim,show¬(9:Nat)≤8 by decide,if_false,if_true] at h
 obtain ⟨rfl,hp⟩:=h
 rw [ends_eq hc]
 have e:endsA { x.m with u:={ x.m.u with usr:=partsN 6 x.us,pas:=partsN 6 x.ps } } c=endsA x.m c:=ends_sp x.m { x.m.u with usr:=partsN 6 x.us,pas:=partsN 6 x.ps } rfl c
 rw [e]
 cases endsA x.m c with
 | false =>
   rw [if_pos rfl,if_neg (by decide)]
   refine ⟨rfl,fun _=>⟨rfl,?_⟩⟩
   simp only [Sim,show¬(9:Nat)≤8 by decide,if_false,if_true]
   exact ⟨rfl,hp⟩
 | true =>
   rw [if_neg (by decide),if_pos rfl]
   split
   ·exact ⟨rfl,fun h=>no_err h⟩
   ·refine ⟨rfl,fun _=>⟨rfl,?_⟩⟩
    simp only [Sim,show¬(10:Nat)≤8 by decide,if_false,if_true,show¬(10:Nat)=9 by decide,true_or]
    refine ⟨?_,hp⟩
    simp only [behP,behM,RdP.on,authM,enc_parts,if_true,Nat.add_zero]
theorem sim_mid {x:RdP} {m:MaR} {s:Nat} (h:Sim x m s) (hs:s=10∨s=11):x.m=m∧m.u.port=-1:=by
 rcases hs with rfl | rfl<;>simpa [Sim] using h
theorem sim_host (x:RdP) (m:MaR) (c:Int) (h:Sim x m 10) (hc:-1≤c):Alike (hostP x c) (whoHostR m c):=by
 obtain ⟨rfl,hp⟩:=sim_mid h (Or.inl rfl)
 unfold hostP whoHostR
 split
 ·unfold leaveHostP
  by_cases hb:x.m.buf=[]
  ·rw [if_pos ⟨hb,rfl⟩,if_pos hb];exact ⟨rfl,fun h=>no_err h⟩
  ·rw [if_neg (fun h=>hb h.1),if_neg hb]
   split
   ·rename_i he;exact ⟨rfl,fun h=>absurd h he⟩
   ·rename_i he
    rw [Decidable.not_not] at he
    exact ⟨he.symm,fun _=>⟨rfl,by simpa [Sim,behP,behM,RdP.on,hostM] using hp⟩⟩
 rw [ends_eq hc]
 split
 ·unfold leaveHostP
  by_cases hb:spM x.m=true∧x.m.buf=[]
  ·rw [if_pos ⟨hb.2,by rw [hb.1];rfl⟩,if_pos hb];exact ⟨rfl,fun h=>no_err h⟩
  ·rw [if_neg (fun h=>hb ⟨by simpa using h.2,h.1⟩),if_neg hb]
   split
   ·rename_i he;exact ⟨rfl,fun h=>absurd h he⟩
   ·rename_i he
    rw [Decidable.not_not] at he
    exact ⟨he.symm,fun _=>⟨rfl,by simp [Sim,behP,behM,RdP.on,hostM]⟩⟩
 ·exact ⟨rfl,fun _=>⟨rfl,by simpa [Sim,behP,behM,RdP.on,gatherM] using hp⟩⟩
theorem sim_port (x:RdP) (m:MaR) (c:Int) (h:Sim x m 11) (hc:-1≤c) (hd:∀d∈m.buf,48≤d):Alike (portP x c) (whoPortR m c):=by
 obtain ⟨rfl,hp⟩:=sim_mid h (Or.inr rfl)
 unfold portP whoPortR
 split
 ·exact ⟨rfl,fun _=>⟨rfl,by simpa [Sim,behP,behM,RdP.on,gatherM] using hp⟩⟩
 rw [ends_eq hc]
 split
 ·exact ⟨rfl,fun h=>no_err h⟩
 split
 ·rename_i hb;exact ⟨rfl,fun _=>⟨rfl,by simpa [Sim,behP,behM,RdP.on] using hb⟩⟩
 have e:=portN_eq hd
 by_cases hn:65535 < portN x.m.buf
 ·rw [if_pos (by omega),if_pos hn];exact ⟨rfl,fun h=>no_err h⟩
 ·rw [if_neg (by omega),if_neg hn]
  have e:portNumP x.m.buf=portN x.m.buf:=by omega
  refine ⟨rfl,fun _=>⟨rfl,?_⟩⟩
  have key:(if spM x.m=false∨portNumP x.m.buf≠(specialN x.m.u.sch:Int) then portNumP x.m.buf else x.m.u.port)=(if portN x.m.buf=(specialN x.m.u.sch:Int)∧spM x.m=true then -1 else portN x.m.buf):=by
   rw [e,hp]
   by_cases h1:portN x.m.buf=(specialN x.m.u.sch:Int)<;>cases spM x.m<;>simp [h1]
  simp [Sim,behP,behM,RdP.on,portM,key]
theorem sim_start (x:RdP) (m:MaR) (c:Int) (h:Sim x m 12) (hc:-1≤c):Alike (startP x c) (startR m c):=by
 have h:x.m=m∧m.buf=[]:=by simpa [Sim] using h
 obtain ⟨rfl,hb⟩:=h
 unfold startP startR
 have hs:slashM x.m c=(c==47||(spM x.m&&c==92)):=rfl
 cases hsp:spM x.m with
 | true =>
   cases hsl:slashM x.m c with
   | true=>simp only [if_true];exact ⟨rfl,fun _=>⟨rfl,sim_path rfl⟩⟩
   | false =>
     simp only [Bool.not_true,Bool.false_and,Bool.false_eq_true,if_false,if_true,Bool.not_false]
     exact ⟨rfl,fun _=>⟨rfl,sim_path rfl⟩⟩
 | false =>
   rw [hsp,Bool.false_and,Bool.or_false] at hs
   rw [hs]
   simp only [Bool.not_false,Bool.true_and,Bool.false_eq_true,if_false]
   by_cases h47:c=47
   ·subst h47
    exact ⟨rfl,fun _=>⟨rfl,sim_path rfl⟩⟩
   ·rw [if_neg (by simpa using h47)]
    by_cases he:endsB c=true
    ·rw [if_pos he]
     have he:=endsB_iff.1 he
     have:=leave_sim x c x.m rfl hb he
     rcases he with rfl | rfl | rfl<;>exact this
    ·rw [if_neg he]
     have he:=endsB_no.1 (by simpa using he)
     rw [if_neg he.2.1,if_neg he.2.2,if_neg (by omega)]
     refine ⟨rfl,fun _=>⟨rfl,?_⟩⟩
     have:(c != 47)=true:=by simpa using h47
     simp only [behM,this,if_true]
     exact sim_path rfl
theorem sim_pathS (x:RdP) (m:MaR) (c:Int) (h:Sim x m 13) (hc:-1≤c):Alike (pathP x c) (pathR m c):=by
 have h:x.m=m:=by simpa [Sim] using h
 subst h
 unfold pathP pathR
 have e:(decide (0≤c)&&c != 63&&c != 35&&!slashM x.m c)=(!slashM x.m c&&!endsB c):=by
  unfold endsB
  cases slashM x.m c with
  | true=>simp
  | false =>
    by_cases h1:c=-1
    ·subst h1;rfl
    ·rw [decide_eq_true (show 0≤c by omega),beq_eq_false_iff_ne.2 h1];simp [bne]
 rw [e]
 split
 ·exact ⟨rfl,fun _=>⟨rfl,sim_path rfl⟩⟩
 by_cases he:endsB c=true
 ·rw [if_pos he]
  have he:=endsB_iff.1 he
  have:=leave_sim (x.on (pieceM · c)) c (pieceM x.m c) rfl (piece_buf _ _) he
  rcases he with rfl | rfl | rfl<;>exact this
 ·rw [if_neg he]
  have he:=endsB_no.1 (by simpa using he)
  rw [if_neg he.2.1,if_neg he.2.2,if_neg he.1]
  exact ⟨rfl,fun _=>⟨rfl,sim_path rfl⟩⟩
theorem sim_dark (x:RdP) (m:MaR) (c:Int) (h:Sim x m 14) (hc:-1≤c):Alike (darkP x c) (darkM m c):=by
 have h:m={ x.m with buf:=[],u:={ x.m.u with txt:=partsN 1 x.m.buf } }:=by simpa [Sim] using h
 unfold darkP darkM
 by_cases he:endsB c=true
 ·rw [if_neg (by rw [he];decide)]
  have he:=endsB_iff.1 he
  have:=leave_sim (x.on (fun m=>{ m with buf:=[],u:={ m.u with txt:=encU 1 m.buf } })) c m (by rw [h,← enc_parts];rfl) (by rw [h]) he
  rcases he with rfl | rfl | rfl<;>exact this
 ·rw [if_pos (by simpa using he)]
  have he:=endsB_no.1 (by simpa using he)
  rw [if_neg he.2.1,if_neg he.2.2,if_neg (by omega)]
  refine ⟨rfl,fun _=>⟨rfl,?_⟩⟩
  subst h
  simp [Sim,behP,behM,RdP.on,gatherM,parts_snoc]
theorem sim_query (x:RdP) (m:MaR) (c:Int) (h:Sim x m 15) (hc:-1≤c):Alike (queryP x c) (queryR m c):=by
 have h:x.m=m∧m.u.qry=[]:=by simpa [Sim] using h
 obtain ⟨rfl,hq⟩:=h
 unfold queryP queryR
 by_cases h1:c=-1
 ·subst h1
  rw [if_neg (by decide),if_neg (by decide),if_neg (by decide)]
  have:=leave_sim (x.on queryU) (-1) (queryM x.m) (by simp [RdP.on,queryU,queryM,encU,hq]) rfl (Or.inl rfl)
  exact this
 by_cases h2:c=35
 ·subst h2
  rw [if_neg (by decide),if_neg (by decide),if_pos rfl]
  have:=leave_sim (x.on queryU) 35 (queryM x.m) (by simp [RdP.on,queryU,queryM,encU,hq]) rfl (Or.inr (Or.inr rfl))
  exact this
 ·rw [if_pos ⟨h2,h1⟩,if_pos ⟨by omega,h2⟩]
  exact ⟨rfl,fun _=>⟨rfl,by simpa [Sim,behP,behM,RdP.on,gatherM] using hq⟩⟩
theorem sim_frag (x:RdP) (m:MaR) (c:Int) (h:Sim x m 16) (hc:-1≤c):Alike (fragP x c) (fragR m c):=by
 have h:m={ x.m with buf:=[],u:={ x.m.u with frg:=partsN 2 x.m.buf } }:=by simpa [Sim] using h
 unfold fragP fragR
 by_cases h1:c=-1
 ·subst h1
  rw [if_neg (by decide),if_pos (by decide)]
  refine ⟨rfl,fun _=>⟨rfl,?_⟩⟩
  subst h
  simp [Sim,behP,behM,RdP.on,fragU,enc_parts]
 ·rw [if_pos h1,if_neg (by omega)]
  refine ⟨rfl,fun _=>⟨rfl,?_⟩⟩
  subst h
  simp [Sim,behP,behM,RdP.on,gatherM,parts_snoc]
theorem sim_step (x:RdP) (m:MaR) (s:Nat) (c:Int) (hs:s < 17) (h:Sim x m s) (hc:-1≤c) (hd:s=11→∀d∈m.buf,48≤d):Alike (stepP x s c) (stepR m s c):=by
 match s,hs,h,hd with
 | 0,_,h,_=>exact sim_begin x m c h
 | 1,_,h,_=>exact sim_scheme x m c h
 | 2,_,h,_=>exact sim_noScheme x m c h
 | 3,_,h,_=>exact sim_slashOr x m c h
 | 4,_,h,_=>exact sim_slash x m c h
 | 5,_,h,_=>exact sim_relative x m c h hc
 | 6,_,h,_=>exact sim_relSlash x m c h
 | 7,_,h,_=>exact sim_slashes x m c h
 | 8,_,h,_=>exact sim_skip x m c h
 | 9,_,h,_=>exact sim_who x m c h hc
 | 10,_,h,_=>exact sim_host x m c h hc
 | 11,_,h,hd=>exact sim_port x m c h hc (hd rfl)
 | 12,_,h,_=>exact sim_start x m c h hc
 | 13,_,h,_=>exact sim_pathS x m c h hc
 | 14,_,h,_=>exact sim_dark x m c h hc
 | 15,_,h,_=>exact sim_query x m c h hc
 | 16,_,h,_=>exact sim_frag x m c h hc
 | n+17,hs,_,_=>exact absurd hs (by omega)
def Lens (x:RdP) (s:Nat):Prop:=x.m.buf.length≤x.m.p∧(s≤9→x.us.length+x.ps.length+x.m.buf.length≤x.m.p)∧(s=11→∀d∈x.m.buf,48≤d∧d≤57)
theorem add_len (b:Bool) (us ps:List Int) (c:Int):(addC b us ps c).1.length+(addC b us ps c).2.length=us.length+ps.length+1:=by
 unfold addC;split<;>simp<;>omega
theorem credS_len:∀(l:List Int) (b:Bool) (us ps:List Int),(credS l b us ps).2.1.length+(credS l b us ps).2.2.length≤us.length+ps.length+l.length
 | [],b,us,ps=>by simp [credS]
 | c::r,b,us,ps=>by
   unfold credS
   split
   ·have:=credS_len r true us ps;simp only [List.length_cons];omega
   ·have h:=add_len b us ps c
    have:=credS_len r b (addC b us ps c).1 (addC b us ps c).2;simp only [List.length_cons];omega
theorem lens_nil {x:RdP} {s:Nat} (hb:x.m.buf=[]) (hs:s≤9→x.us.length+x.ps.length≤x.m.p):Lens x s :=
 ⟨by simp [hb],fun h=>by have:=hs h;simp [hb];exact this,fun _ d hd=>by simp [hb] at hd⟩
theorem lens_gather {x:RdP} {s t:Nat} {c:Int} {f:MaR→MaR} (h:Lens x s) (hb:(f x.m).buf=x.m.buf++[c]) (hp:(f x.m).p=x.m.p) (h9:t≤9→s≤9) (h11:t=11→s=11∧48≤c∧c≤57):Lens (behP (x.on f,t,1,0)) t:=by
 refine ⟨?_,fun ht=>?_,fun ht d hd=>?_⟩
 ·have:=h.1;simp only [behP,RdP.on,hb,hp,List.length_append,List.length_cons,List.length_nil];omega
 ·have:=h.2.1 (h9 ht);simp only [behP,RdP.on,hb,hp,List.length_append,List.length_cons,List.length_nil];omega
 ·simp only [behP,RdP.on,hb,List.mem_append,List.mem_singleton] at hd
  rcases hd with hd | rfl
  ·exact h.2.2 (h11 ht).1 d hd
  ·exact (h11 ht).2
theorem lens_leave (x:RdP) (c:Int) (h:x.m.buf.length≤x.m.p):Lens (behP (leaveP x c)) (leaveP x c).2.1:=by
 unfold leaveP
 repeat' split
 all_goals refine ⟨by simp only [behP,RdP.on,askM,markM];omega,fun h=>?_,fun h=>?_⟩
 all_goals simp at h
theorem lens_same {x:RdP} {s t b e:Nat} (h:Lens x s) (h9:t≤9→s≤9) (h11:t≠11):Lens (behP (x,t,b,e)) t :=
 ⟨by have:=h.1;simp only [behP,RdP.on];omega,fun ht=>by have:=h.2.1 (h9 ht);simp only [behP,RdP.on];omega,fun ht=>absurd ht h11⟩
theorem lens_on {x:RdP} {s t b e:Nat} {f:MaR→MaR} (h:Lens x s) (hb:(f x.m).buf=x.m.buf) (hp:(f x.m).p=x.m.p) (h9:t≤9→s≤9) (h11:t≠11):Lens (behP (x.on f,t,b,e)) t :=
 ⟨by have:=h.1;simp only [behP,RdP.on,hb,hp];omega,fun ht=>by have:=h.2.1 (h9 ht);simp only [behP,RdP.on,hb,hp];omega,fun ht=>absurd ht h11⟩
theorem dig_48 {c:Int} (h:digC c=true):48≤c∧c≤57:=by simp only [digC,Bool.and_eq_true,decide_eq_true_eq] at h;omega
theorem lens_step (x:RdP) (s:Nat) (c:Int) (hs:s < 17) (h:Lens x s) (he:(stepP x s c).2.2.2=0) (hz:s≤8→x.us=[]∧x.ps=[]):Lens (behP (stepP x s c)) (stepP x s c).2.1:=by
 have h1:=h.1
 match s,hs,h,he,hz with
 | 0,_,h,_,_ =>
   show Lens (behP (beginP x c)) (beginP x c).2.1
   unfold beginP;split
   ·exact lens_gather (c:=lowC c) h rfl rfl (fun _=>by decide) (fun h=>absurd h (by decide))
   ·exact lens_same h (fun _=>by decide) (by decide)
 | 1,_,h,he,hz =>
   obtain ⟨z1,z2⟩:=hz (by decide)
   show Lens (behP (schemeP x c)) (schemeP x c).2.1
   have he:(schemeP x c).2.2.2=0:=he
   unfold schemeP at he ⊢
   split
   ·exact lens_gather (c:=lowC c) h rfl rfl (fun _=>by decide) (fun h=>absurd h (by decide))
   ·rename_i hn;rw [if_neg hn] at he
    split
    ·rename_i hn;rw [if_pos hn] at he
     have hx:∀(y:RdP) (t:Nat),y.m.buf=[]→y.us=[]→y.ps=[]→Lens y t:=fun y t e1 e2 e3=>lens_nil e1 (fun _=>by rw [e2,e3];simp)
     unfold behindP
     repeat' split
     all_goals exact hx _ _ rfl z1 z2
    ·exact lens_nil rfl (fun _=>by simp [behP,RdP.on,z1,z2])
 | 2,_,h,he,hz =>
   show Lens (behP (noSchemeP x c)) (noSchemeP x c).2.1
   unfold noSchemeP
   split
   ·exact lens_same h (fun _=>by decide) (by show (0:Nat)≠11;decide)
   split
   ·exact lens_leave _ c h1
   ·exact lens_same h (fun _=>by decide) (by decide)
 | 3,_,h,_,_ =>
   show Lens (behP (slashOrP x c)) (slashOrP x c).2.1
   unfold slashOrP;split<;>exact lens_same h (fun _=>by decide) (by decide)
 | 4,_,h,_,_ =>
   show Lens (behP (slashP x c)) (slashP x c).2.1
   unfold slashP;split<;>exact lens_same h (fun _=>by decide) (by decide)
 | 5,_,h,_,_ =>
   show Lens (behP (relativeP x c)) (relativeP x c).2.1
   unfold relativeP
   split
   ·exact lens_on (f:=relSchM) h rfl rfl (fun _=>by decide) (by decide)
   split
   ·exact lens_leave _ c h1
   ·exact lens_on (f:=fun m=>shortM (noQueryM (baseM (relSchM m)))) h rfl rfl (fun _=>by decide) (by decide)
 | 6,_,h,_,_ =>
   show Lens (behP (relSlashP x c)) (relSlashP x c).2.1
   unfold relSlashP
   split
   ·exact lens_same h (fun _=>by decide) (by decide)
   split
   ·exact lens_same h (fun _=>by decide) (by decide)
   ·exact lens_on (f:=ownM) h rfl rfl (fun _=>by decide) (by decide)
 | 7,_,h,_,_ =>
   show Lens (behP (slashesP x c)) (slashesP x c).2.1
   unfold slashesP;split<;>exact lens_same h (fun _=>by decide) (by decide)
 | 8,_,h,_,_ =>
   show Lens (behP (skipP x c)) (skipP x c).2.1
   unfold skipP;split<;>exact lens_same h (fun _=>by decide) (by decide)
 | 9,_,h,_,_ =>
   show Lens (behP (authP x c)) (authP x c).2.1
   have h9:=h.2.1 (by decide)
   unfold authP
   split
   ·refine lens_nil rfl (fun _=>?_)
    have k1:=credS_len x.m.buf x.m.colon (credB x).1 (credB x).2
    have k2:(credB x).1.length+(credB x).2.length≤x.us.length+x.ps.length+1:=by
     unfold credB;split
     ·rw [add_len];omega
     ·simp
    simp only [behP,RdP.on,credP];omega
   split
   ·exact lens_gather (c:=c) h rfl rfl (fun _=>by decide) (fun h=>absurd h (by decide))
   split
   ·exact lens_same h (fun _=>by decide) (by show (0:Nat)≠11;decide)
   ·exact lens_nil rfl (fun h=>absurd h (by show¬(10≤9);decide))
 | 10,_,h,he,_ =>
   show Lens (behP (hostP x c)) (hostP x c).2.1
   have hl:∀to b m,to > 9→(leaveHostP x to b m).2.2.2=0→Lens (behP (leaveHostP x to b m)) (leaveHostP x to b m).2.1:=by
    intro to b m ht hz
    unfold leaveHostP at hz ⊢
    split
    ·rename_i hc;rw [if_pos hc] at hz;exact absurd hz (by show¬(6:Nat)=0;decide)
    ·rename_i hc;rw [if_neg hc] at hz
     split
     ·rename_i hc;rw [if_pos hc] at hz;exact absurd hz hc
     ·exact lens_nil rfl (fun h=>by have h:to≤9:=h;omega)
   have he:(hostP x c).2.2.2=0:=he
   unfold hostP at he ⊢
   split
   ·rename_i hc;rw [if_pos hc] at he;exact hl _ _ _ (by decide) he
   rename_i hc;rw [if_neg hc] at he
   split
   ·rename_i hc;rw [if_pos hc] at he;exact hl _ _ _ (by decide) he
   ·exact lens_gather (c:=c) (f:=fun m=>gatherM { m with brack:=if c=91 then true else if c=93 then false else m.brack } c) h rfl rfl (fun h=>absurd h (by decide)) (fun h=>absurd h (by decide))
 | 11,_,h,he,_ =>
   show Lens (behP (portP x c)) (portP x c).2.1
   have he:(portP x c).2.2.2=0:=he
   unfold portP at he ⊢
   split
   ·rename_i hd;exact lens_gather (c:=c) h rfl rfl (fun h=>absurd h (by decide)) (fun _=>⟨rfl,dig_48 hd⟩)
   rename_i hc;rw [if_neg hc] at he
   split
   ·rename_i hc;rw [if_pos hc] at he;exact absurd he (by show¬(4:Nat)=0;decide)
   rename_i hc;rw [if_neg hc] at he
   split
   ·exact lens_same h (fun h=>absurd h (by decide)) (by decide)
   rename_i hc;rw [if_neg hc] at he
   split
   ·rename_i hc;rw [if_pos hc] at he;exact absurd he (by show¬(1:Nat)=0;decide)
   ·exact lens_nil rfl (fun h=>absurd h (by show¬(12≤9);decide))
 | 12,_,h,_,_ =>
   show Lens (behP (startP x c)) (startP x c).2.1
   unfold startP
   split
   ·exact lens_same h (fun h=>absurd h (by decide)) (by decide)
   split
   ·exact lens_leave _ c h1
   ·exact lens_same h (fun h=>absurd h (by decide)) (by decide)
 | 13,_,h,_,_ =>
   show Lens (behP (pathP x c)) (pathP x c).2.1
   unfold pathP
   split
   ·exact lens_gather (c:=c) h rfl rfl (fun h=>absurd h (by decide)) (fun h=>absurd h (by decide))
   split
   ·exact lens_leave _ c (by show (pieceM x.m c).buf.length≤_;rw [piece_buf];simp)
   ·exact lens_nil (piece_buf _ _) (fun h=>absurd h (by show¬(13≤9);decide))
 | 14,_,h,_,_ =>
   show Lens (behP (darkP x c)) (darkP x c).2.1
   unfold darkP
   split
   ·exact lens_gather (c:=c) h rfl rfl (fun h=>absurd h (by decide)) (fun h=>absurd h (by decide))
   ·exact lens_leave _ c (by simp [RdP.on])
 | 15,_,h,_,_ =>
   show Lens (behP (queryP x c)) (queryP x c).2.1
   unfold queryP
   split
   ·exact lens_gather (c:=c) h rfl rfl (fun h=>absurd h (by decide)) (fun h=>absurd h (by decide))
   ·exact lens_leave _ c (by simp [RdP.on,queryU])
 | 16,_,h,_,_ =>
   show Lens (behP (fragP x c)) (fragP x c).2.1
   unfold fragP
   split
   ·exact lens_gather (c:=c) h rfl rfl (fun h=>absurd h (by decide)) (fun h=>absurd h (by decide))
   ·exact lens_nil rfl (fun h=>absurd h (by show¬(17≤9);decide))
 | n+17,hs,_,_,_=>exact absurd hs (by omega)
def ans (m:MaR) (s:Nat):UrlN×Nat:=runF (leftM m s+1) m s
theorem ans_end (m:MaR):ans m 17=if 256 < m.u.path.length then (url0,11) else (m.u,0):=by
 unfold ans;rw [runF_step,if_pos rfl]
theorem ans_look (m:MaR) (s:Nat) (hs:s < 17) (hp:m.p≤m.inp.length) :
 ans m s=if (stepR m s (signAt m.inp m.p)).2.2.2≠0 then (url0,(stepR m s (signAt m.inp m.p)).2.2.2) else ans (behM (stepR m s (signAt m.inp m.p))) (stepR m s (signAt m.inp m.p)).2.1:=by
 unfold ans
 rw [runF_step,if_neg (by omega)]
 have hpos:=left_pos m hs
 split
 ·rfl
 refine runF_eq _ _ _ _ (step_le m s hs hp) (fun h2=>?_) (fun h2=>?_) (fun h2=>?_) (by omega) (by omega)
 ·exact (left_down m s hs hp (by omega)).1
 ·exact (left_down m s hs hp (by omega)).2
 ·omega
theorem urlR_ans {l:List UInt8} {base:UrlN} {has:Bool} (h:¬4000 < l.length):urlR l base has=ans (maR l base has) 0:=by
 unfold urlR ans
 rw [if_neg h]
 exact runF_eq _ _ _ _ (by decide) (fun _=>by simp [maR]) (fun _=>looks_enough _ (by simp [maR])) (fun _=>by omega) (by unfold looks;omega) (by omega)
def At (m:MaR) (r:List Int):Prop:=m.inp.drop m.p=r∧m.p≤m.inp.length
theorem At.sign {m:MaR} {c:Int} {r:List Int} (h:At m (c::r)):signAt m.inp m.p=c:=by
 have h1:=h.1
 unfold signAt
 have:m.inp[m.p]? = some c:=by
  have:=congrArg (fun l=>l[0]?) h1
  simpa [List.getElem?_drop] using this
 rw [this];rfl
theorem At.none {m:MaR} (h:At m []):signAt m.inp m.p=-1:=by
 have h1:=h.1
 unfold signAt
 have:m.inp.length≤m.p:=List.drop_eq_nil_iff.1 h1
 rw [List.getElem?_eq_none this];rfl
theorem At.next {m:MaR} {c d:Int} {r:List Int} (h:At m (c::d::r)):signAt m.inp (m.p+1)=d:=by
 have h1:=h.1
 unfold signAt
 have:m.inp[m.p+1]? = some d:=by
  have:=congrArg (fun l=>l[1]?) h1
  simpa [List.getElem?_drop] using this
 rw [this];rfl
theorem At.tail {m m':MaR} {c:Int} {r:List Int} (h:At m (c::r)) (hi:m'.inp=m.inp) (hp:m'.p=m.p+1):At m' r:=by
 have h1:=h.1
 refine ⟨?_,?_⟩
 ·rw [hi,hp,← List.drop_drop,h1];rfl
 ·have:=congrArg List.length h1
  simp at this;rw [hi,hp];omega
theorem At.more {m m':MaR} {q r:List Int} (h:At m (q++r)) (hi:m'.inp=m.inp) (hp:m'.p=m.p+q.length):At m' r:=by
 have h1:=h.1
 refine ⟨?_,?_⟩
 ·rw [hi,hp,← List.drop_drop,h1];simp
 ·have:=congrArg List.length h1
  have h2:=h.2
  simp at this;rw [hi,hp];omega
theorem At.same {m m':MaR} {r:List Int} (h:At m r) (hi:m'.inp=m.inp) (hp:m'.p=m.p):At m' r:=⟨by rw [hi,hp];exact h.1,by rw [hi,hp];exact h.2⟩
theorem ans_at {m m':MaR} {s t:Nat} {c:Int} {r:List Int} {a:Bool} (hA:At m (c::r)) (hs:s < 17) (h:stepR m s c=(m',t,a,0)):ans m s=ans (behM (m',t,a,0)) t:=by
 rw [ans_look m s hs hA.2,hA.sign,h];rfl
theorem ans_stop {m m':MaR} {s t:Nat} {a:Bool} (hA:At m []) (hs:s < 17) (h:stepR m s (-1)=(m',t,a,0)):ans m s=ans (behM (m',t,a,0)) t:=by
 rw [ans_look m s hs hA.2,hA.none,h];rfl
theorem gather_run (s:Nat) (hs:s < 17):∀(q r:List Int) (m:MaR),At m (q++r)→(∀c∈q,∀m':MaR,m'.u=m.u→m'.brack=m.brack→stepR m' s c=(gatherM m' c,s,false,0))→ans m s=ans { m with p:=m.p+q.length,buf:=m.buf++q } s
 | [],r,m,_,_=>by simp
 | c::q,r,m,hA,h=>by
   rw [ans_at hA hs (h c (by simp) m rfl rfl)]
   have:=gather_run s hs q r (behM (gatherM m c,s,false,0)) (hA.tail rfl rfl) (fun d hd m' e1 e2=>h d (List.mem_cons_of_mem _ hd) m' e1 e2)
   rw [this]
   congr 1
   simp only [behM,gatherM,Bool.false_eq_true,if_false,List.length_cons,List.append_assoc,List.cons_append,List.nil_append]
   congr 1
   omega
theorem sim_same {x:RdP} {m:MaR} {s:Nat} (h:Sim x m s):x.m.inp=m.inp∧x.m.p=m.p∧x.m.base=m.base∧x.m.has=m.has:=by
 unfold Sim at h
 split at h
 ·rw [h.1];exact ⟨rfl,rfl,rfl,rfl⟩
 split at h
 ·rw [h.1];exact ⟨rfl,rfl,rfl,rfl⟩
 split at h
 ·rw [h.1];exact ⟨rfl,rfl,rfl,rfl⟩
 split at h
 ·rw [h.1];exact ⟨rfl,rfl,rfl,rfl⟩
 split at h
 ·rw [h];exact ⟨rfl,rfl,rfl,rfl⟩
 split at h
 ·rw [h.1];exact ⟨rfl,rfl,rfl,rfl⟩
 split at h
 ·rw [h];exact ⟨rfl,rfl,rfl,rfl⟩
 ·rw [h];exact ⟨rfl,rfl,rfl,rfl⟩
def Pcs (x:RdP) (s:Nat):Prop:=x.m.u.path.length≤x.m.base.path.length+x.m.p∧(s≤12→x.m.u.path=[])
theorem pcs_leave (x:RdP) (c:Int) (h:x.m.u.path.length≤x.m.base.path.length+x.m.p):Pcs (behP (leaveP x c)) (leaveP x c).2.1:=by
 unfold leaveP
 repeat' split
 all_goals refine ⟨by simp only [behP,RdP.on,askM,markM];omega,fun h=>?_⟩
 all_goals simp at h
theorem pcs_nil {x:RdP} {s:Nat} (h:x.m.u.path=[]):Pcs x s:=⟨by rw [h];simp,fun _=>h⟩
theorem pcs_on {x:RdP} {t b e:Nat} {f:MaR→MaR} (h:x.m.u.path.length≤x.m.base.path.length+x.m.p) (hp:(f x.m).u.path=x.m.u.path) (hb:(f x.m).base=x.m.base) (hq:x.m.p≤(f x.m).p) (ht:12 < t):Pcs (behP (x.on f,t,b,e)) t :=
 ⟨by simp only [behP,RdP.on,hp,hb];omega,fun h=>by omega⟩
theorem short_len (m:MaR):(shortM m).u.path.length≤m.u.path.length:=by simp only [shortM,List.length_dropLast];omega
theorem piece_len (m:MaR) (c:Int):(pieceM m c).u.path.length≤m.u.path.length+1∧(pieceM m c).base=m.base∧(pieceM m c).p=m.p:=by
 have h1:=short_len { m with buf:=[] }
 unfold pieceM;dsimp only
 repeat' split
 all_goals refine ⟨?_,rfl,rfl⟩
 all_goals simp only [pushM,List.length_append,List.length_cons,List.length_nil,shortM,List.length_dropLast] at h1 ⊢
 all_goals omega
theorem pcs_step (x:RdP) (s:Nat) (c:Int) (hs:s < 17) (h:Pcs x s) (he:(stepP x s c).2.2.2=0):Pcs (behP (stepP x s c)) (stepP x s c).2.1:=by
 have h1:=h.1
 match s,hs,h,he with
 | 0,_,h,_ =>
   have h0:=h.2 (by decide)
   show Pcs (behP (beginP x c)) (beginP x c).2.1
   unfold beginP;split<;>exact pcs_nil h0
 | 1,_,h,he =>
   have h0:=h.2 (by decide)
   show Pcs (behP (schemeP x c)) (schemeP x c).2.1
   unfold schemeP
   split
   ·exact pcs_nil h0
   split
   ·unfold behindP
    repeat' split
    all_goals exact pcs_nil h0
   ·exact pcs_nil h0
 | 2,_,h,he =>
   have h0:=h.2 (by decide)
   show Pcs (behP (noSchemeP x c)) (noSchemeP x c).2.1
   unfold noSchemeP
   split
   ·exact pcs_nil h0
   split
   ·exact pcs_leave _ c (by show x.m.base.path.length≤x.m.base.path.length+x.m.p;omega)
   ·exact pcs_nil h0
 | 3,_,h,_ =>
   have h0:=h.2 (by decide)
   show Pcs (behP (slashOrP x c)) (slashOrP x c).2.1
   unfold slashOrP;split<;>exact pcs_nil h0
 | 4,_,h,_ =>
   have h0:=h.2 (by decide)
   show Pcs (behP (slashP x c)) (slashP x c).2.1
   unfold slashP;split<;>exact pcs_nil h0
 | 5,_,h,_ =>
   have h0:=h.2 (by decide)
   show Pcs (behP (relativeP x c)) (relativeP x c).2.1
   unfold relativeP
   split
   ·exact pcs_nil h0
   split
   ·exact pcs_leave _ c (by show x.m.base.path.length≤x.m.base.path.length+x.m.p;omega)
   ·refine ⟨?_,fun h=>absurd h (by show¬(13≤12);decide)⟩
    have:=short_len (noQueryM (baseM (relSchM x.m)))
    have e:(noQueryM (baseM (relSchM x.m))).u.path=x.m.base.path:=rfl
    rw [e] at this
    show (shortM (noQueryM (baseM (relSchM x.m)))).u.path.length≤x.m.base.path.length+(x.m.p+0)
    omega
 | 6,_,h,_ =>
   have h0:=h.2 (by decide)
   show Pcs (behP (relSlashP x c)) (relSlashP x c).2.1
   unfold relSlashP
   repeat' split
   all_goals exact pcs_nil h0
 | 7,_,h,_ =>
   have h0:=h.2 (by decide)
   show Pcs (behP (slashesP x c)) (slashesP x c).2.1
   unfold slashesP;split<;>exact pcs_nil h0
 | 8,_,h,_ =>
   have h0:=h.2 (by decide)
   show Pcs (behP (skipP x c)) (skipP x c).2.1
   unfold skipP;split<;>exact pcs_nil h0
 | 9,_,h,_ =>
   have h0:=h.2 (by decide)
   show Pcs (behP (authP x c)) (authP x c).2.1
   unfold authP
   repeat' split
   all_goals exact pcs_nil h0
 | 10,_,h,_ =>
   have h0:=h.2 (by decide)
   show Pcs (behP (hostP x c)) (hostP x c).2.1
   unfold hostP leaveHostP
   repeat' split
   all_goals exact pcs_nil h0
 | 11,_,h,_ =>
   have h0:=h.2 (by decide)
   show Pcs (behP (portP x c)) (portP x c).2.1
   unfold portP
   repeat' split
   all_goals exact pcs_nil h0
 | 12,_,h,_ =>
   have h0:=h.2 (by decide)
   show Pcs (behP (startP x c)) (startP x c).2.1
   unfold startP
   split
   ·exact pcs_nil h0
   split
   ·exact pcs_leave _ c h1
   ·exact pcs_nil h0
 | 13,_,h,_ =>
   show Pcs (behP (pathP x c)) (pathP x c).2.1
   obtain ⟨q1,q2,q3⟩:=piece_len x.m c
   unfold pathP
   split
   ·exact pcs_on (f:=(gatherM · c)) h1 rfl rfl (Nat.le_refl _) (by decide)
   split
   ·unfold leaveP
    repeat' split
    all_goals refine ⟨?_,fun h=>?_⟩
    all_goals first
     | (simp at h;done)
     | (simp only [behP,RdP.on,askM,markM];rw [q2,q3];omega)
   ·refine ⟨?_,fun h=>?_⟩
    ·simp only [behP,RdP.on];rw [q2,q3];omega
    ·simp at h
 | 14,_,h,_ =>
   show Pcs (behP (darkP x c)) (darkP x c).2.1
   unfold darkP
   split
   ·exact pcs_on (f:=(gatherM · c)) h1 rfl rfl (Nat.le_refl _) (by decide)
   ·exact pcs_leave _ c h1
 | 15,_,h,_ =>
   show Pcs (behP (queryP x c)) (queryP x c).2.1
   unfold queryP
   split
   ·exact pcs_on (f:=(gatherM · c)) h1 rfl rfl (Nat.le_refl _) (by decide)
   ·exact pcs_leave _ c h1
 | 16,_,h,_ =>
   show Pcs (behP (fragP x c)) (fragP x c).2.1
   unfold fragP
   split
   ·exact pcs_on (f:=(gatherM · c)) h1 rfl rfl (Nat.le_refl _) (by decide)
   ·exact pcs_on (f:=fragU) h1 rfl rfl (Nat.le_refl _) (by decide)
 | n+17,hs,_,_=>exact absurd hs (by omega)
structure RunI (x:RdP) (m:MaR) (s:Nat) (inp:List Int) (b:UrlN) (A:UrlN×Nat):Prop where
 s17:s≤17
 sim:Sim x m s
 len:Lens x s
 pcs:Pcs x s
 at_:s < 17→x.m.p≤x.m.inp.length
 ans_:ans m s=A
 inp_:x.m.inp=inp
 base:x.m.base=b
theorem sign_ge {l:List Int} (h:∀c∈l,0≤c) (p:Nat):-1≤signAt l p:=by
 unfold signAt
 cases e:l[p]? with
 | none=>exact Int.le_refl _
 | some c =>
   have:=h c (List.mem_of_getElem? e)
   show -1≤c
   omega
theorem behM_base (r:StR):(behM r).base=r.1.base:=by unfold behM;split<;>rfl
theorem run_look {x:RdP} {m:MaR} {s:Nat} {inp:List Int} {b:UrlN} {A:UrlN×Nat} (h:RunI x m s inp b A) (hs:s < 17) (hp:∀c∈inp,0≤c) :
 ((stepP x s (signAt inp x.m.p)).2.2.2≠0→A=(url0,(stepP x s (signAt inp x.m.p)).2.2.2)) ∧
 ((stepP x s (signAt inp x.m.p)).2.2.2=0→∃m',RunI (behP (stepP x s (signAt inp x.m.p))) m' (stepP x s (signAt inp x.m.p)).2.1 inp b A∧((stepP x s (signAt inp x.m.p)).2.1≠17→leftM (behP (stepP x s (signAt inp x.m.p))).m (stepP x s (signAt inp x.m.p)).2.1 < leftM x.m s)):=by
 obtain ⟨e1,e2,e3,e4⟩:=sim_same h.sim
 have hmi:m.inp=inp:=by rw [← e1];exact h.inp_
 have hmp:m.p≤m.inp.length:=by rw [← e1,← e2];exact h.at_ hs
 have hA:=ans_look m s hs hmp
 rw [h.ans_] at hA
 obtain ⟨c,hc⟩:∃c,signAt inp x.m.p=c:=⟨_,rfl⟩
 have hc2:signAt m.inp m.p=c:=by rw [hmi,← e2];exact hc
 have hge:-1≤c:=by rw [← hc];exact sign_ge hp _
 rw [hc]
 rw [hc2] at hA
 have hal:=sim_step x m s c hs h.sim hge (fun h11 d hd=>by
  subst h11
  have hx:x.m=m:=(sim_mid h.sim (Or.inr rfl)).1
  exact (h.len.2.2 rfl d (by rw [hx];exact hd)).1)
 have hdown:=step_down m s hs hmp
 have hleft:=left_down m s hs hmp
 have hle:=step_le m s hs hmp
 rw [hc2] at hdown hleft hle
 refine ⟨fun he=>?_,fun he=>?_⟩
 ·rw [hal.1] at he ⊢
  rw [hA,if_pos he]
 ·rw [hal.1] at he
  obtain ⟨k1,k2⟩:=hal.2 he
  rw [if_neg (fun h=>h he)] at hA
  have hz:s≤8→x.us=[]∧x.ps=[]:=fun h8=>by have:=sim_low h8 h.sim;exact ⟨this.2.1,this.2.2.1⟩
  have hl:=lens_step x s c hs h.len (by rw [hal.1];exact he) hz
  have hq:=pcs_step x s c hs h.pcs (by rw [hal.1];exact he)
  rw [k1] at hl hq ⊢
  obtain ⟨f1,f2,f3,f4⟩:=sim_same k2
  have hinp:(behP (stepP x s c)).m.inp=inp:=by rw [f1,behM_inp,hdown.1,hmi]
  refine ⟨behM (stepR m s c),⟨hle,k2,hl,hq,fun hlt=>?_,hA.symm,hinp,?_⟩,fun hne=>?_⟩
  ·rw [f1,f2];exact (hleft (by omega)).1
  ·rw [f3,behM_base,hdown.2.1,← e3];exact h.base
  ·have:=(hleft hne).2
   unfold leftM at this ⊢
   rw [f1,f2,e1,e2];exact this
end Go.Proofs.YtigfgloenjoeoaaGreatDoor
