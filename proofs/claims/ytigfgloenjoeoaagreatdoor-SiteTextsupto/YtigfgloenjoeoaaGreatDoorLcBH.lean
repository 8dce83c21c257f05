import Derived.Test.YtigfgloenjoeoaaGreatDoorLcBF
import Derived.Lib.IndexMore
import Derived.Handy
set_option linter.unusedVariables false
set_option linter.unusedSimpArgs false
set_option maxRecDepth 20000
set_option maxHeartbeats 16000000
namespace Go.Proofs.YtigfgloenjoeoaaGreatDoor
open Go.RowKit
theorem occ_two (l:List UInt8) (k:Nat):Lib.occAt l [58,58] k=true↔∃h:k+1 < l.length,l[k]=58∧l[k+1]=58:=by
 constructor
 ·intro h
  rcases Lib.occAt_room h with hr | hr
  ·have hk:k+1 < l.length:=by simp at hr;omega
   refine ⟨hk,?_⟩
   unfold Lib.occAt at h
   rw [two_drop hk] at h
   simp [List.isPrefixOf] at h
   exact ⟨h.1.symm,h.2.symm⟩
  ·cases hr
 ·rintro ⟨hk,h1,h2⟩
  unfold Lib.occAt
  rw [two_drop hk,h1,h2]
  simp [List.isPrefixOf]
theorem cutF:∀(n:Nat) (l:List UInt8) (k:Nat),l.length-k=n→CutAtIp l k→(∀j,j < k→Lib.occAt l [58,58] j=false) →
  match cutG [] l with
  | none=>Lib.cut l [58,58]=(l,[],false)
  | some (a,b)=>Lib.cut l [58,58]=(a,b,true)
 | n,l,k,hn,hc,hno=>by
   by_cases hk:k+1 < l.length
   ·by_cases h2:l[k]=58∧l[k+1]=58
    ·rw [hc.found hk h2.1 h2.2]
     have hi:=Lib.index_first (s:=l) (sub:=[58,58]) (i:=k) (by omega) ((occ_two l k).2 ⟨hk,h2⟩) hno
     show Lib.cut l [58,58]=_
     unfold Lib.cut
     rw [hi,if_pos (by omega)]
     rfl
    ·have hc2:=hc.more hk h2
     match n,hn with
     | 0,hn=>omega
     | n+1,hn =>
       refine cutF n l (k+1) (by omega) hc2 (fun j hj=>?_)
       rcases Nat.lt_or_ge j k with h | h
       ·exact hno j h
       ·have:j=k:=by omega
        subst this
        cases h3:Lib.occAt l [58,58] j with
        | false=>rfl
        | true=>obtain ⟨_,h4⟩:=(occ_two l j).1 h3;exact absurd h4 h2
   ·rw [hc.none hk]
    have hi:=Lib.index_none (s:=l) (sub:=[58,58]) (fun j hj=>by
     rcases Nat.lt_or_ge j k with h | h
     ·exact hno j h
     ·cases h3:Lib.occAt l [58,58] j with
      | false=>rfl
      | true=>obtain ⟨h4,_⟩:=(occ_two l j).1 h3;omega)
    show Lib.cut l [58,58]=_
    unfold Lib.cut
    rw [hi,if_neg (by decide)]
theorem cut_none2 {l:List UInt8} (h:cutG [] l=none):Lib.cut l [58,58]=(l,[],false):=by
 have:=cutF _ l 0 rfl (CutAtIp.start l) (fun j hj=>by omega)
 rw [h] at this;exact this
theorem cut_some2 {l a b:List UInt8} (h:cutG [] l=some (a,b)):Lib.cut l [58,58]=(a,b,true):=by
 have:=cutF _ l 0 rfl (CutAtIp.start l) (fun j hj=>by omega)
 rw [h] at this;exact this
theorem cut_colon (l:List UInt8):(Lib.cut l [58]=(l,[],false)∧splitR 58 l=[l])∨(∃a b,Lib.cut l [58]=(a,b,true)∧splitR 58 l=a::splitR 58 b∧a.length+b.length < l.length):=by
 unfold Lib.cut
 rw [Lib.index_one]
 rcases Int.lt_or_le (Lib.indexByte l 58) 0 with hi | hi
 ·have he:Lib.indexByte l 58=-1:=by have:=Lib.indexByte_ge l 58;omega
  left
  rw [if_neg (by omega)]
  refine ⟨rfl,?_⟩
  unfold splitR
  rw [splitG_none 58 l [] (Lib.indexByte_none he)]
  rfl
 ·obtain ⟨k,hk⟩:∃k:Nat,Lib.indexByte l 58=k:=⟨(Lib.indexByte l 58).toNat,by omega⟩
  obtain ⟨h1,h2⟩:=Lib.indexByte_some hk
  right
  rw [if_pos hi,hk]
  refine ⟨l.take k,l.drop (k+1),rfl,?_,?_⟩
  ·unfold splitR
   exact splitG_found h1 h2
  ·have hlt:k < l.length:=by
    rcases Nat.lt_or_ge k l.length with h | h
    ·exact h
    ·rw [List.getElem?_eq_none h] at h1;cases h1
   rw [List.length_take,List.length_drop];omega
def pcR (dec:Bool) (p:List UInt8):Option (List Nat):=if dec=true∧1 < (splitR 46 p).length then fourR p else if p=[]∨4 < p.length∨digsR 16 p=false then none else some [valX 16 p]
def rowR (last:Bool) (l:List UInt8):Option (List Nat):=match piecesR last l with
 | none=>none
 | some ns=>if ns.length≤8 then some ns else none
theorem rowR_none {last:Bool} {l:List UInt8} (h:piecesR last l=none):rowR last l=none:=by unfold rowR;rw [h]
theorem rowR_some {last:Bool} {l:List UInt8} {ns:List Nat} (h:piecesR last l=some ns) (hn:ns.length≤8):rowR last l=some ns:=by unfold rowR;rw [h];exact if_pos hn
theorem rowR_many {last:Bool} {l:List UInt8} {ns:List Nat} (h:piecesR last l=some ns) (hn:¬ns.length≤8):rowR last l=none:=by unfold rowR;rw [h];exact if_neg hn
def RowAt (last:Bool) (l:List UInt8) (more:Bool) (rest:List UInt8) (ns:List Nat):Prop :=
 ns.length≤8∧piecesR last l=if more=true then (goP last (splitR 58 rest)).map (ns++·) else some ns
theorem RowAt.start0 (last:Bool) (rest:List UInt8):RowAt last [] false rest []:=⟨by simp,by simp [piecesR]⟩
theorem RowAt.start1 {last:Bool} {l:List UInt8} (h:l≠[]):RowAt last l true l []:=⟨by simp,by simp [piecesR,h]⟩
theorem RowAt.done {last:Bool} {l rest:List UInt8} {ns:List Nat} (h:RowAt last l false rest ns):rowR last l=some ns:=rowR_some (by have:=h.2;simpa using this) h.1
theorem go_last (last:Bool) (p:List UInt8):goP last [p]=pcR last p:=by
 show (if last=true∧([]:List (List UInt8))=[]∧1 < (splitR 46 p).length then fourR p else if p=[]∨4 < p.length∨digsR 16 p=false then none else (some []).map (valX 16 p::·))=_
 unfold pcR
 by_cases h:last=true∧1 < (splitR 46 p).length
 ·rw [if_pos ⟨h.1,rfl,h.2⟩,if_pos h]
 ·rw [if_neg (fun e=>h ⟨e.1,e.2.2⟩),if_neg h];rfl
theorem go_more (last:Bool) (p:List UInt8) {r:List (List UInt8)} (hr:r≠[]):goP last (p::r)=match pcR false p with
  | none=>none
  | some a=>(goP last r).map (a++·):=by
 show (if last=true∧r=[]∧1 < (splitR 46 p).length then fourR p else if p=[]∨4 < p.length∨digsR 16 p=false then none else (goP last r).map (valX 16 p::·))=_
 rw [if_neg (fun e=>hr e.2.1)]
 have e0:pcR false p=if p=[]∨4 < p.length∨digsR 16 p=false then none else some [valX 16 p]:=if_neg (fun e=>by cases e.1)
 rw [e0]
 by_cases h:p=[]∨4 < p.length∨digsR 16 p=false
 ·rw [if_pos h,if_pos h]
 ·rw [if_neg h,if_neg h];rfl
theorem RowAt.one_none {last:Bool} {l rest:List UInt8} {ns:List Nat} (h:RowAt last l true rest ns) (hs:splitR 58 rest=[rest]) (hp:pcR last rest=none):rowR last l=none:=by
 refine rowR_none ?_
 rw [h.2,if_pos rfl,hs,go_last,hp];rfl
theorem RowAt.one_many {last:Bool} {l rest:List UInt8} {ns a:List Nat} (h:RowAt last l true rest ns) (hs:splitR 58 rest=[rest]) (hp:pcR last rest=some a) (hm:8 < ns.length+a.length):rowR last l=none:=by
 refine rowR_many (ns:=ns++a) ?_ (by simp;omega)
 rw [h.2,if_pos rfl,hs,go_last,hp];rfl
theorem RowAt.one {last:Bool} {l rest:List UInt8} {ns a:List Nat} (h:RowAt last l true rest ns) (hs:splitR 58 rest=[rest]) (hp:pcR last rest=some a) (hm:¬8 < ns.length+a.length) (r:List UInt8):RowAt last l false r (ns++a):=by
 refine ⟨by simp;omega,?_⟩
 rw [h.2,if_pos rfl,hs,go_last,hp];rfl
theorem RowAt.cut_none {last:Bool} {l rest a b:List UInt8} {ns:List Nat} (h:RowAt last l true rest ns) (hs:splitR 58 rest=a::splitR 58 b) (hp:pcR false a=none):rowR last l=none:=by
 refine rowR_none ?_
 rw [h.2,if_pos rfl,hs,go_more last a (hr:=splitR_ne 58 b),hp];rfl
theorem RowAt.cut_many {last:Bool} {l rest a b:List UInt8} {ns x:List Nat} (h:RowAt last l true rest ns) (hs:splitR 58 rest=a::splitR 58 b) (hp:pcR false a=some x) (hm:8 < ns.length+x.length):rowR last l=none:=by
 have e:=h.2
 rw [if_pos rfl,hs,go_more last a (hr:=splitR_ne 58 b),hp] at e
 cases hg:goP last (splitR 58 b) with
 | none=>refine rowR_none ?_;rw [e];show ((goP last (splitR 58 b)).map (x++·)).map (ns++·)=none;rw [hg];rfl
 | some y =>
   refine rowR_many (ns:=ns++(x++y)) ?_ (by simp;omega)
   rw [e];show ((goP last (splitR 58 b)).map (x++·)).map (ns++·)=_;rw [hg];rfl
theorem RowAt.cut {last:Bool} {l rest a b:List UInt8} {ns x:List Nat} (h:RowAt last l true rest ns) (hs:splitR 58 rest=a::splitR 58 b) (hp:pcR false a=some x) (hm:¬8 < ns.length+x.length):RowAt last l true b (ns++x):=by
 refine ⟨by simp;omega,?_⟩
 have e:=h.2
 rw [if_pos rfl,hs,go_more last a (hr:=splitR_ne 58 b),hp] at e
 rw [e,if_pos rfl]
 show ((goP last (splitR 58 b)).map (x++·)).map (ns++·)=_
 cases hg:goP last (splitR 58 b) with
 | none=>rfl
 | some y=>show some (ns++(x++y))=some (ns++x++y);rw [List.append_assoc]
theorem one_row {l:List UInt8}:oneR (piecesR true l)=oneR (rowR true l):=by
 unfold rowR
 cases h:piecesR true l with
 | none=>rfl
 | some ns =>
   show oneR (some ns)=oneR (if ns.length≤8 then some ns else none)
   by_cases h8:ns.length≤8
   ·rw [if_pos h8]
   ·rw [if_neg h8];unfold oneR;exact if_neg (by omega)
theorem two_bad {a b:List Nat} (h:8≤a.length+b.length):twoR (some a) (some b)=(z8,4):=if_neg (by omega)
theorem two_none (x:Option (List Nat)):twoR x none=(z8,4):=by cases x<;>rfl
theorem two_row {x y:List UInt8}:twoR (piecesR false x) (piecesR true y)=twoR (rowR false x) (rowR true y):=by
 unfold rowR
 cases hx:piecesR false x with
 | none=>rfl
 | some a =>
   cases hy:piecesR true y with
   | none=>rw [two_none,two_none]
   | some b =>
     show twoR (some a) (some b)=twoR (if a.length≤8 then some a else none) (if b.length≤8 then some b else none)
     by_cases ha:a.length≤8
     ·rw [if_pos ha]
      by_cases hb:b.length≤8
      ·rw [if_pos hb]
      ·rw [if_neg hb,two_none,two_bad (by omega)]
     ·rw [if_neg ha,two_bad (by omega)];rfl
theorem or16 (x d:Nat) (hx:x < 256) (hd:d < 256):bits .or .u16 ((x:Int) * 256) (d:Int)=((x * 256+d:Nat):Int):=by
 have h:=(bits_nat .u16 16 (by decide) (fun n h0 h1=>by rw [IntKind.wrap_u16];omega) (x * 256) d (by omega) (by omega)).2
 rw [show ((x:Int) * 256)=((x * 256:Nat):Int) by omega,h]
 have e:=Nat.two_pow_add_eq_or_of_lt (show d < 2^8 by omega) x
 rw [show 2^8 * x=x * 256 by omega] at e
 rw [← e]
theorem or16z (d:Nat) (hd:d < 256):bits .or .u16 0 (d:Int)=(d:Int):=by
 have:=or16 0 d (by omega) hd
 simpa using this
theorem bad_oct {q:List UInt8} (h:q=[]∨(1 < q.length∧q.head? = some 48)∨digsR 10 q=false∨255 < satR 10 q):octR q=none:=by rw [oct_prog,if_pos h]
theorem good_oct {q:List UInt8} (h1:q≠[]) (h2:¬(1 < q.length∧q.head? = some 48)) (h3:digsR 10 q=true) (h4:¬255 < satR 10 q):octR q=some (satR 10 q):=by
 rw [oct_prog,if_neg]
 rintro (h | h | h | h)
 ·exact h1 h
 ·exact h2 h
 ·rw [h3] at h;cases h
 ·exact h4 h
def pD:List Nat→Nat×Nat
 | [a]=>(a,0)
 | [a,b]=>(a * 256+b,0)
 | [a,b,c]=>(a * 256+b,c)
 | [a,b,c,d]=>(a * 256+b,c * 256+d)
 | _=>(0,0)
def cellsD (vs:List Nat):List Value:=[.int .u16 ((pD vs).1:Int),.int .u16 ((pD vs).2:Int),.int .u16 0,.int .u16 0,.int .u16 0,.int .u16 0,.int .u16 0,.int .u16 0,.int .i64 2]
theorem start9 (w:World):Bk9 (w.alloc (.cells #[.int .u16 0,.int .u16 0,.int .u16 0,.int .u16 0,.int .u16 0,.int .u16 0,.int .u16 0,.int .u16 0,.int .i64 2] 153)) w.heap.size (cellsD []):=heap_alloc_new w _
theorem len_0 {vs:List Nat} (h:vs.length=0):vs=[]:=List.eq_nil_of_length_eq_zero h
theorem len_1 {vs:List Nat} (h:vs.length=1):∃a,vs=[a]:=by match vs,h with | [a],_=>exact ⟨a,rfl⟩
theorem len_2 {vs:List Nat} (h:vs.length=2):∃a b,vs=[a,b]:=by match vs,h with | [a,b],_=>exact ⟨a,b,rfl⟩
theorem len_3 {vs:List Nat} (h:vs.length=3):∃a b c,vs=[a,b,c]:=by match vs,h with | [a,b,c],_=>exact ⟨a,b,c,rfl⟩
theorem pdec_calls (s:ByteArray) (w:World) (hs:s.size≤100000):Calls Tryz.prog 194 #[.string s] w fun e w'=>RPost (fourR s.data.toList) w e w':=by
 have HS:=hid hs
 have HZ:=hid (zero9_world w)
 have HB0:=hid ((Below.refl w.heap.size w).alloc (Nat.le_refl _) (.cells #[.int .u16 0,.int .u16 0,.int .u16 0,.int .u16 0,.int .u16 0,.int .u16 0,.int .u16 0,.int .u16 0,.int .i64 0] 153))
 have HLen:Hid (∀q∈splitR 46 s.data.toList,q.length≤100000):=fun q h=>by have h':=mem_split s.data.toList [] q h;rw [bytes_num,List.length_nil,Nat.zero_add] at h';omega
 clear hs
 go_enter Tryz.func194,Tryz.ntmps194
 go_wp2_with fail
 refine (psplit_calls s _ (by have:=HS.out;omega)).mono ?_
 rintro e w1 ⟨⟨v,rfl,hv⟩,hb⟩
 have HZ1:=hid (HZ.out.below hb)
 have HB1:=hid (below_trans HB0.out hb)
 have HV:=hid hv
 have HFB:=hid (four_bad (p:=s.data.toList))
 have HFN:=hid (four_none (p:=s.data.toList))
 have HFS:=hid (fun a b c d:Nat=>four_some (p:=s.data.toList) (a:=a) (b:=b) (c:=c) (d:=d))
 clear HZ HB0 hb
 obtain ⟨G,hG⟩:∃G,w.heap.size=G:=⟨_,rfl⟩
 have HGl:Hid (w.heap.size≤G):=Nat.le_of_eq hG
 rw [hG] at HZ1 ⊢
 have HGs:Hid (G < w1.heap.size):=HZ1.out.lt
 clear hG
 generalize splitR 46 s.data.toList=qs at *
 obtain ⟨a,cap,rfl,h1,h2,h3⟩:=hv
 unfold maxLen at h2
 clear h3
 by_cases h4:qs.length=4
 ·have n1:((qs.length:Int)==4)=true:=by rw [beq_iff_eq];omega
  have n2:((qs.length:Int) != 4)=false:=by rw [bne_eq_false_iff_eq];omega
  have H4:=hid h4
  have HBk0:=hid (start9 w1)
  have HBa:=hid ((Below.refl w1.heap.size w1).alloc (Nat.le_refl _) (.cells #[.int .u16 0,.int .u16 0,.int .u16 0,.int .u16 0,.int .u16 0,.int .u16 0,.int .u16 0,.int .u16 0,.int .i64 2] 153))
  clear h1 h2 h4
  go_wp2_with fail
  clear n1 n2
  go_loopw [20] (fun i wr=>∃(k:Nat) (vs:List Nat),k≤4∧i=.int .i64 (k:Int)∧OctAt qs k vs∧Bk9 wr w1.heap.size (cellsD vs)∧Below w1.heap.size w1 wr) (fun i _=>4-(intOf i).toNat)
  case atStart=>exact ⟨0,[],by omega,rfl,OctAt.start qs,HBk0.out,HBa.out⟩
  case round =>
   obtain ⟨k,vs,hk,rfl,hoc,hbk,hb⟩:=hrel
   have HOC:=hid hoc
   have HBk:=hid hbk
   have HB:=hid hb
   have hsz:=hid hb.size
   have k0:(0:Int)≤(k:Int):=by omega
   have HZr:=hid (HZ1.out.below hb)
   have HBw:=hid (below_trans HB1.out hb)
   clear hoc hbk hb HBk0 HBa
   by_cases hlt:k < 4
   ·have hlq:k < qs.length:=by have:=H4.out;omega
    obtain ⟨b,off,rfl,hbl,hc⟩:=row_at HV.out hlq
    have hck:=(HB.out.cell (p:=⟨b,off+k,none⟩) hbl).trans hc
    have HNo:=hid (fun h=>HFN.out (HOC.out.none hlq h))
    have HSt:=hid (fun n h=>HOC.out.step (n:=n) hlq h)
    have hpl:(qs[k]'hlq).length≤100000:=HLen.out _ (List.getElem_mem hlq)
    have HK:=hid hlt
    have k1:(k:Int) < (qs.length:Int):=by omega
    clear hc hbl
    generalize (qs[k]'hlq)=p at *
    obtain ⟨t,ht⟩:∃t,strOf p=t:=⟨_,rfl⟩
    have hck2:wr.cell? ⟨b,off+k,none⟩=some (.string t):=by rw [hck,← ht]
    have htp:t.data.toList=p:=by rw [← ht];rfl
    have HTS:Hid (t.size≤100000):=by show _≤_;rw [← ht];exact hpl
    have HC:=hid (fun w=>pnumber_calls t 10 w HTS.out (by decide) (by decide))
    unfold NPost at HC
    rw [htp] at HC
    have HTN:Hid (t.size=p.length):=by show _=_;rw [← ht];rfl
    have HHead:Hid (∀hp:0 < t.size,p.head? = some (t[0]'hp)):=fun hp=>by rw [← htp];exact head_at hp
    have ck:=hid hck2
    clear hck ht htp hpl hlq hlt hk
    by_cases h0:t.size=0
    ·have hp0:p=[]:=List.eq_nil_of_length_eq_zero (by rw [← HTN.out];exact h0)
     subst hp0
     have HX:=hid (HNo.out (bad_oct (.inl rfl)))
     have e0:=empty_yes h0
     have HC1:Hid (numP 10 []=(0,true)):=(by decide:numP 10 []=(0,true))
     rw [HC1.out] at HC
     have s0:(t.size:Int)=0:=by omega
     have HBR:=hid h0
     clear h0 HC1
     obtain ⟨⟨c0,c1,c2,c3,c4,c5,c6,c7,c8⟩,⟨f0,f1,f2,f3,f4,f5,f6,f7,f8⟩⟩:=cells9 (y0:=.int .u16 0) (y1:=.int .u16 0) (y2:=.int .u16 0) (y3:=.int .u16 0) (y4:=.int .u16 0) (y5:=.int .u16 0) (y6:=.int .u16 0) (y7:=.int .u16 0) (y8:=.int .i64 0) HZr.out
     have HFill:=hid (fill9 (y0:=.int .u16 0) (y1:=.int .u16 0) (y2:=.int .u16 0) (y3:=.int .u16 0) (y4:=.int .u16 0) (y5:=.int .u16 0) (y6:=.int .u16 0) (y7:=.int .u16 0) (y8:=.int .i64 0) HZr.out HBw.out HGl.out HBw.out.size (.int .u16 0) (.int .u16 0) (.int .u16 0) (.int .u16 0) (.int .u16 0) (.int .u16 0) (.int .u16 0) (.int .u16 0) (.int .i64 0))
     clear HSt HNo HBR
     go_wp2_with fail
     refine (HC.out _).mono ?_
     rintro e wz ⟨rfl,rfl⟩
     go_wp2_with fail
     generalize (((((((((wz.setCell ⟨G,0,none⟩ (.int .u16 0)).setCell ⟨G,1,none⟩ (.int .u16 0)).setCell ⟨G,2,none⟩ (.int .u16 0)).setCell ⟨G,3,none⟩ (.int .u16 0)).setCell ⟨G,4,none⟩ (.int .u16 0)).setCell ⟨G,5,none⟩ (.int .u16 0)).setCell ⟨G,6,none⟩ (.int .u16 0)).setCell ⟨G,7,none⟩ (.int .u16 0)).setCell ⟨G,8,none⟩ (.int .i64 0))=W9 at *
     obtain ⟨⟨g0,g1,g2,g3,g4,g5,g6,g7,g8⟩,-⟩:=cells9 HFill.out.1
     have HBL:=hid HFill.out.2
     clear HFill c0 c1 c2 c3 c4 c5 c6 c7 c8 f0 f1 f2 f3 f4 f5 f6 f7 f8
     refine bodyPost_ret (by simp [results,Tryz.results194,go_sem,g0,g1,g2,g3,g4,g5,g6,g7,g8];try rfl) rfl ?_
     exact RPost.no 0 0 0 0 0 0 0 0 0 (by decide) HX.out HBL.out
    ·obtain ⟨e0,e1⟩:=empty_no h0
     have hp:0 < t.size:=by omega
     have hpne:p≠[]:=fun e=>h0 (by rw [HTN.out,e];rfl)
     have p0:(0:Int) < (t.size:Int):=by omega
     replace HHead:=hid (HHead.out hp)
     by_cases ho:1 < t.size∧(t[0]'hp).toNat=48
     ·obtain ⟨ho1,ho2⟩:=ho
      have p1:(1:Int) < (t.size:Int):=by omega
      have q2:(((t[0]'hp).toNat:Int)==48)=true:=by rw [ho2];rfl
      have HX:=hid (HNo.out (bad_oct (.inr (.inl ⟨by rw [← HTN.out];exact ho1,by rw [HHead.out];exact congrArg some (UInt8.toNat_inj.1 (by rw [ho2];rfl))⟩))))
      generalize numP 10 p=r at *
      have HBR:=hid ho1
      clear h0 ho1 hpne HHead
      obtain ⟨⟨c0,c1,c2,c3,c4,c5,c6,c7,c8⟩,⟨f0,f1,f2,f3,f4,f5,f6,f7,f8⟩⟩:=cells9 (y0:=.int .u16 0) (y1:=.int .u16 0) (y2:=.int .u16 0) (y3:=.int .u16 0) (y4:=.int .u16 0) (y5:=.int .u16 0) (y6:=.int .u16 0) (y7:=.int .u16 0) (y8:=.int .i64 0) HZr.out
      have HFill:=hid (fill9 (y0:=.int .u16 0) (y1:=.int .u16 0) (y2:=.int .u16 0) (y3:=.int .u16 0) (y4:=.int .u16 0) (y5:=.int .u16 0) (y6:=.int .u16 0) (y7:=.int .u16 0) (y8:=.int .i64 0) HZr.out HBw.out HGl.out HBw.out.size (.int .u16 0) (.int .u16 0) (.int .u16 0) (.int .u16 0) (.int .u16 0) (.int .u16 0) (.int .u16 0) (.int .u16 0) (.int .i64 0))
      clear HSt HNo HBR
      go_wp2_with fail
      refine (HC.out _).mono ?_
      rintro e wz ⟨rfl,rfl⟩
      go_wp2_with fail
      generalize (((((((((wz.setCell ⟨G,0,none⟩ (.int .u16 0)).setCell ⟨G,1,none⟩ (.int .u16 0)).setCell ⟨G,2,none⟩ (.int .u16 0)).setCell ⟨G,3,none⟩ (.int .u16 0)).setCell ⟨G,4,none⟩ (.int .u16 0)).setCell ⟨G,5,none⟩ (.int .u16 0)).setCell ⟨G,6,none⟩ (.int .u16 0)).setCell ⟨G,7,none⟩ (.int .u16 0)).setCell ⟨G,8,none⟩ (.int .i64 0))=W9 at *
      obtain ⟨⟨g0,g1,g2,g3,g4,g5,g6,g7,g8⟩,-⟩:=cells9 HFill.out.1
      have HBL:=hid HFill.out.2
      clear HFill c0 c1 c2 c3 c4 c5 c6 c7 c8 f0 f1 f2 f3 f4 f5 f6 f7 f8
      refine bodyPost_ret (by simp [results,Tryz.results194,go_sem,g0,g1,g2,g3,g4,g5,g6,g7,g8];try rfl) rfl ?_
      exact RPost.no 0 0 0 0 0 0 0 0 0 (by decide) HX.out HBL.out
     ·have HPad:Hid (¬(1 < p.length∧p.head? = some 48)):=fun h=>ho ⟨by rw [HTN.out];exact h.1,by rw [HHead.out] at h;rw [Option.some.inj h.2];rfl⟩
      have HNe:=hid hpne
      have HNP:=hid (@numP_yes 10 p)
      have HNN:=hid (@numP_no 10 p)
      obtain ⟨z,hz⟩:∃z,(t[0]'hp).toNat=z:=⟨_,rfl⟩
      by_cases h1:1 < t.size
      ·have p1:(1:Int) < (t.size:Int):=by omega
       have hz48:z≠48:=fun e=>ho ⟨h1,hz.trans e⟩
       have q2:((z:Int)==48)=false:=by rw [beq_eq_false_iff_ne];omega
       have z0:(0:Int)≤(z:Int):=by omega
       clear ho h0 h1 hz48 hpne HHead
       cases hd:digsR 10 p with
       | false =>
         have HX:=hid (HNo.out (bad_oct (.inr (.inr (.inl hd)))))
         rw [HNN.out hd] at HC
         have HBR:=hid hd
         clear hd
         obtain ⟨⟨c0,c1,c2,c3,c4,c5,c6,c7,c8⟩,⟨f0,f1,f2,f3,f4,f5,f6,f7,f8⟩⟩:=cells9 (y0:=.int .u16 0) (y1:=.int .u16 0) (y2:=.int .u16 0) (y3:=.int .u16 0) (y4:=.int .u16 0) (y5:=.int .u16 0) (y6:=.int .u16 0) (y7:=.int .u16 0) (y8:=.int .i64 0) HZr.out
         have HFill:=hid (fill9 (y0:=.int .u16 0) (y1:=.int .u16 0) (y2:=.int .u16 0) (y3:=.int .u16 0) (y4:=.int .u16 0) (y5:=.int .u16 0) (y6:=.int .u16 0) (y7:=.int .u16 0) (y8:=.int .i64 0) HZr.out HBw.out HGl.out HBw.out.size (.int .u16 0) (.int .u16 0) (.int .u16 0) (.int .u16 0) (.int .u16 0) (.int .u16 0) (.int .u16 0) (.int .u16 0) (.int .i64 0))
         clear HSt HNo HBR
         go_wp2_with fail
         refine (HC.out _).mono ?_
         rintro e wz ⟨rfl,rfl⟩
         go_wp2_with fail
         generalize (((((((((wz.setCell ⟨G,0,none⟩ (.int .u16 0)).setCell ⟨G,1,none⟩ (.int .u16 0)).setCell ⟨G,2,none⟩ (.int .u16 0)).setCell ⟨G,3,none⟩ (.int .u16 0)).setCell ⟨G,4,none⟩ (.int .u16 0)).setCell ⟨G,5,none⟩ (.int .u16 0)).setCell ⟨G,6,none⟩ (.int .u16 0)).setCell ⟨G,7,none⟩ (.int .u16 0)).setCell ⟨G,8,none⟩ (.int .i64 0))=W9 at *
         obtain ⟨⟨g0,g1,g2,g3,g4,g5,g6,g7,g8⟩,-⟩:=cells9 HFill.out.1
         have HBL:=hid HFill.out.2
         clear HFill c0 c1 c2 c3 c4 c5 c6 c7 c8 f0 f1 f2 f3 f4 f5 f6 f7 f8
         refine bodyPost_ret (by simp [results,Tryz.results194,go_sem,g0,g1,g2,g3,g4,g5,g6,g7,g8];try rfl) rfl ?_
         exact RPost.no 0 0 0 0 0 0 0 0 0 (by decide) HX.out HBL.out
       | true =>
         rw [HNP.out hd] at HC
         obtain ⟨n,hn⟩:∃n,satR 10 p=n:=⟨_,rfl⟩
         have HGo:=hid (fun h=>good_oct (q:=p) HNe.out HPad.out hd h)
         have HGr:=hid (fun h=>bad_oct (q:=p) (.inr (.inr (.inr h))))
         rw [hn] at HC HGo HGr
         simp only at HC
         by_cases hg:255 < n
         ·have HX:=hid (HNo.out (HGr.out hg))
          have g1:(255:Int) < (n:Int):=by omega
          have HBR:=hid hd
          clear hd hn hg
          obtain ⟨⟨c0,c1,c2,c3,c4,c5,c6,c7,c8⟩,⟨f0,f1,f2,f3,f4,f5,f6,f7,f8⟩⟩:=cells9 (y0:=.int .u16 0) (y1:=.int .u16 0) (y2:=.int .u16 0) (y3:=.int .u16 0) (y4:=.int .u16 0) (y5:=.int .u16 0) (y6:=.int .u16 0) (y7:=.int .u16 0) (y8:=.int .i64 0) HZr.out
          have HFill:=hid (fill9 (y0:=.int .u16 0) (y1:=.int .u16 0) (y2:=.int .u16 0) (y3:=.int .u16 0) (y4:=.int .u16 0) (y5:=.int .u16 0) (y6:=.int .u16 0) (y7:=.int .u16 0) (y8:=.int .i64 0) HZr.out HBw.out HGl.out HBw.out.size (.int .u16 0) (.int .u16 0) (.int .u16 0) (.int .u16 0) (.int .u16 0) (.int .u16 0) (.int .u16 0) (.int .u16 0) (.int .i64 0))
          clear HSt HNo HBR
          go_wp2_with fail
          refine (HC.out _).mono ?_
          rintro e wz ⟨rfl,rfl⟩
          go_wp2_with fail
          generalize (((((((((wz.setCell ⟨G,0,none⟩ (.int .u16 0)).setCell ⟨G,1,none⟩ (.int .u16 0)).setCell ⟨G,2,none⟩ (.int .u16 0)).setCell ⟨G,3,none⟩ (.int .u16 0)).setCell ⟨G,4,none⟩ (.int .u16 0)).setCell ⟨G,5,none⟩ (.int .u16 0)).setCell ⟨G,6,none⟩ (.int .u16 0)).setCell ⟨G,7,none⟩ (.int .u16 0)).setCell ⟨G,8,none⟩ (.int .i64 0))=W9 at *
          obtain ⟨⟨g0,g1,g2,g3,g4,g5,g6,g7,g8⟩,-⟩:=cells9 HFill.out.1
          have HBL:=hid HFill.out.2
          clear HFill c0 c1 c2 c3 c4 c5 c6 c7 c8 f0 f1 f2 f3 f4 f5 f6 f7 f8
          refine bodyPost_ret (by simp [results,Tryz.results194,go_sem,g0,g1,g2,g3,g4,g5,g6,g7,g8];try rfl) rfl ?_
          exact RPost.no 0 0 0 0 0 0 0 0 0 (by decide) HX.out HBL.out
         ·have HSt2:=hid (HSt.out n (HGo.out hg))
          have g1:¬(255:Int) < (n:Int):=by omega
          have g0:(0:Int)≤(n:Int):=by omega
          have g2:IntKind.wrap .u16 (n:Int)=(n:Int):=wrap16 n (by omega)
          have hlen:=HOC.out.1
          have hall:=HOC.out.2.1
          have hn256:n < 256:=by omega
          clear hd hn hg HSt HNo
          rcases (by have:=HK.out;omega:k=0∨k=1∨k=2∨k=3) with hk0 | rfl | rfl | rfl
          ·obtain rfl:=len_0 (hlen.trans hk0)
           have kq:(k:Int)/2=0:=by rw [hk0];rfl
           have HK0:=hid hk0
           have o1:=or16z n hn256
           obtain ⟨⟨c0,c1,-,-,-,-,-,-,-⟩,⟨f0,f1,-,-,-,-,-,-,-⟩⟩:=cells9 HBk.out
           have HSet:Hid (Bk9 (wr.setCell ⟨w1.heap.size,0,none⟩ (.int .u16 ((n:Nat):Int))) w1.heap.size (cellsD ([]++[n]))):=HBk.out.set 0 (.int .u16 ((n:Nat):Int))
           have HBs:=hid (belowSet HB.out (Nat.le_refl _) hsz.out 0 (.int .u16 ((n:Nat):Int)))
           change wr.cell? ⟨w1.heap.size,0,none⟩=some (.int .u16 0) at c0
           clear c1 f1 HBk hk0
           clear hall hlen hn256
           go_wp2_with fail
           refine (HC.out _).mono ?_
           rintro e wz ⟨rfl,rfl⟩
           go_wp2_with fail
           go_roundw
           case rel=>exact ⟨k+1,[]++[n],by have:=HK0.out;omega,by go_num,HSt2.out,HSet.out,HBs.out⟩
           case measure=>have:=HK0.out;simp [intOf];omega
          ·obtain ⟨a,rfl⟩:=len_1 hlen
           have ha:a≤255:=hall a (by simp)
           have o1:=or16 a n (by omega) hn256
           have v0:(0:Int)≤(a:Int):=by omega
           have v1:IntKind.wrap .u16 ((a:Int) * 256)=(a:Int) * 256:=by rw [IntKind.wrap_u16];omega
           obtain ⟨⟨c0,c1,-,-,-,-,-,-,-⟩,⟨f0,f1,-,-,-,-,-,-,-⟩⟩:=cells9 HBk.out
           have HSet:Hid (Bk9 (wr.setCell ⟨w1.heap.size,0,none⟩ (.int .u16 ((a * 256+n:Nat):Int))) w1.heap.size (cellsD ([a]++[n]))):=HBk.out.set 0 (.int .u16 ((a * 256+n:Nat):Int))
           have HBs:=hid (belowSet HB.out (Nat.le_refl _) hsz.out 0 (.int .u16 ((a * 256+n:Nat):Int)))
           generalize a * 256+n=m at *
           unfold pD at c0 c1
           clear hall hlen hn256 ha
           go_wp2_with fail
           refine (HC.out _).mono ?_
           rintro e wz ⟨rfl,rfl⟩
           go_wp2_with fail
           go_roundw
           case rel=>exact ⟨2,[a]++[n],by omega,by go_num,HSt2.out,HSet.out,HBs.out⟩
           case measure=>simp [intOf]
          ·obtain ⟨a,b,rfl⟩:=len_2 hlen
           have ha:a≤255:=hall a (by simp)
           have hb:b≤255:=hall b (by simp)
           have o1:=or16z n hn256
           obtain ⟨⟨c0,c1,-,-,-,-,-,-,-⟩,⟨f0,f1,-,-,-,-,-,-,-⟩⟩:=cells9 HBk.out
           have HSet:Hid (Bk9 (wr.setCell ⟨w1.heap.size,1,none⟩ (.int .u16 ((n:Nat):Int))) w1.heap.size (cellsD ([a,b]++[n]))):=HBk.out.set 1 (.int .u16 ((n:Nat):Int))
           have HBs:=hid (belowSet HB.out (Nat.le_refl _) hsz.out 1 (.int .u16 ((n:Nat):Int)))
           unfold pD at c0 c1
           clear hall hlen hn256 ha hb
           go_wp2_with fail
           refine (HC.out _).mono ?_
           rintro e wz ⟨rfl,rfl⟩
           go_wp2_with fail
           go_roundw
           case rel=>exact ⟨3,[a,b]++[n],by omega,by go_num,HSt2.out,HSet.out,HBs.out⟩
           case measure=>simp [intOf]
          ·obtain ⟨a,b,c,rfl⟩:=len_3 hlen
           have ha:a≤255:=hall a (by simp)
           have hb:b≤255:=hall b (by simp)
           have hc:c≤255:=hall c (by simp)
           have o1:=or16 c n (by omega) hn256
           have v0:(0:Int)≤(c:Int):=by omega
           have v1:IntKind.wrap .u16 ((c:Int) * 256)=(c:Int) * 256:=by rw [IntKind.wrap_u16];omega
           obtain ⟨⟨c0,c1,-,-,-,-,-,-,-⟩,⟨f0,f1,-,-,-,-,-,-,-⟩⟩:=cells9 HBk.out
           have HSet:Hid (Bk9 (wr.setCell ⟨w1.heap.size,1,none⟩ (.int .u16 ((c * 256+n:Nat):Int))) w1.heap.size (cellsD ([a,b,c]++[n]))):=HBk.out.set 1 (.int .u16 ((c * 256+n:Nat):Int))
           have HBs:=hid (belowSet HB.out (Nat.le_refl _) hsz.out 1 (.int .u16 ((c * 256+n:Nat):Int)))
           generalize c * 256+n=m at *
           unfold pD at c0 c1
           clear hall hlen hn256 ha hb hc
           go_wp2_with fail
           refine (HC.out _).mono ?_
           rintro e wz ⟨rfl,rfl⟩
           go_wp2_with fail
           go_roundw
           case rel=>exact ⟨4,[a,b,c]++[n],by omega,by go_num,HSt2.out,HSet.out,HBs.out⟩
           case measure=>simp [intOf]
      ·have p1:¬(1:Int) < (t.size:Int):=by omega
       clear ho h0 h1 hpne HHead
       cases hd:digsR 10 p with
       | false =>
         have HX:=hid (HNo.out (bad_oct (.inr (.inr (.inl hd)))))
         rw [HNN.out hd] at HC
         have HBR:=hid hd
         clear hd
         obtain ⟨⟨c0,c1,c2,c3,c4,c5,c6,c7,c8⟩,⟨f0,f1,f2,f3,f4,f5,f6,f7,f8⟩⟩:=cells9 (y0:=.int .u16 0) (y1:=.int .u16 0) (y2:=.int .u16 0) (y3:=.int .u16 0) (y4:=.int .u16 0) (y5:=.int .u16 0) (y6:=.int .u16 0) (y7:=.int .u16 0) (y8:=.int .i64 0) HZr.out
         have HFill:=hid (fill9 (y0:=.int .u16 0) (y1:=.int .u16 0) (y2:=.int .u16 0) (y3:=.int .u16 0) (y4:=.int .u16 0) (y5:=.int .u16 0) (y6:=.int .u16 0) (y7:=.int .u16 0) (y8:=.int .i64 0) HZr.out HBw.out HGl.out HBw.out.size (.int .u16 0) (.int .u16 0) (.int .u16 0) (.int .u16 0) (.int .u16 0) (.int .u16 0) (.int .u16 0) (.int .u16 0) (.int .i64 0))
         clear HSt HNo HBR
         go_wp2_with fail
         refine (HC.out _).mono ?_
         rintro e wz ⟨rfl,rfl⟩
         go_wp2_with fail
         generalize (((((((((wz.setCell ⟨G,0,none⟩ (.int .u16 0)).setCell ⟨G,1,none⟩ (.int .u16 0)).setCell ⟨G,2,none⟩ (.int .u16 0)).setCell ⟨G,3,none⟩ (.int .u16 0)).setCell ⟨G,4,none⟩ (.int .u16 0)).setCell ⟨G,5,none⟩ (.int .u16 0)).setCell ⟨G,6,none⟩ (.int .u16 0)).setCell ⟨G,7,none⟩ (.int .u16 0)).setCell ⟨G,8,none⟩ (.int .i64 0))=W9 at *
         obtain ⟨⟨g0,g1,g2,g3,g4,g5,g6,g7,g8⟩,-⟩:=cells9 HFill.out.1
         have HBL:=hid HFill.out.2
         clear HFill c0 c1 c2 c3 c4 c5 c6 c7 c8 f0 f1 f2 f3 f4 f5 f6 f7 f8
         refine bodyPost_ret (by simp [results,Tryz.results194,go_sem,g0,g1,g2,g3,g4,g5,g6,g7,g8];try rfl) rfl ?_
         exact RPost.no 0 0 0 0 0 0 0 0 0 (by decide) HX.out HBL.out
       | true =>
         rw [HNP.out hd] at HC
         obtain ⟨n,hn⟩:∃n,satR 10 p=n:=⟨_,rfl⟩
         have HGo:=hid (fun h=>good_oct (q:=p) HNe.out HPad.out hd h)
         have HGr:=hid (fun h=>bad_oct (q:=p) (.inr (.inr (.inr h))))
         rw [hn] at HC HGo HGr
         simp only at HC
         by_cases hg:255 < n
         ·have HX:=hid (HNo.out (HGr.out hg))
          have g1:(255:Int) < (n:Int):=by omega
          have HBR:=hid hd
          clear hd hn hg
          obtain ⟨⟨c0,c1,c2,c3,c4,c5,c6,c7,c8⟩,⟨f0,f1,f2,f3,f4,f5,f6,f7,f8⟩⟩:=cells9 (y0:=.int .u16 0) (y1:=.int .u16 0) (y2:=.int .u16 0) (y3:=.int .u16 0) (y4:=.int .u16 0) (y5:=.int .u16 0) (y6:=.int .u16 0) (y7:=.int .u16 0) (y8:=.int .i64 0) HZr.out
          have HFill:=hid (fill9 (y0:=.int .u16 0) (y1:=.int .u16 0) (y2:=.int .u16 0) (y3:=.int .u16 0) (y4:=.int .u16 0) (y5:=.int .u16 0) (y6:=.int .u16 0) (y7:=.int .u16 0) (y8:=.int .i64 0) HZr.out HBw.out HGl.out HBw.out.size (.int .u16 0) (.int .u16 0) (.int .u16 0) (.int .u16 0) (.int .u16 0) (.int .u16 0) (.int .u16 0) (.int .u16 0) (.int .i64 0))
          clear HSt HNo HBR
          go_wp2_with fail
          refine (HC.out _).mono ?_
          rintro e wz ⟨rfl,rfl⟩
          go_wp2_with fail
          generalize (((((((((wz.setCell ⟨G,0,none⟩ (.int .u16 0)).setCell ⟨G,1,none⟩ (.int .u16 0)).setCell ⟨G,2,none⟩ (.int .u16 0)).setCell ⟨G,3,none⟩ (.int .u16 0)).setCell ⟨G,4,none⟩ (.int .u16 0)).setCell ⟨G,5,none⟩ (.int .u16 0)).setCell ⟨G,6,none⟩ (.int .u16 0)).setCell ⟨G,7,none⟩ (.int .u16 0)).setCell ⟨G,8,none⟩ (.int .i64 0))=W9 at *
          obtain ⟨⟨g0,g1,g2,g3,g4,g5,g6,g7,g8⟩,-⟩:=cells9 HFill.out.1
          have HBL:=hid HFill.out.2
          clear HFill c0 c1 c2 c3 c4 c5 c6 c7 c8 f0 f1 f2 f3 f4 f5 f6 f7 f8
          refine bodyPost_ret (by simp [results,Tryz.results194,go_sem,g0,g1,g2,g3,g4,g5,g6,g7,g8];try rfl) rfl ?_
          exact RPost.no 0 0 0 0 0 0 0 0 0 (by decide) HX.out HBL.out
         ·have HSt2:=hid (HSt.out n (HGo.out hg))
          have g1:¬(255:Int) < (n:Int):=by omega
          have g0:(0:Int)≤(n:Int):=by omega
          have g2:IntKind.wrap .u16 (n:Int)=(n:Int):=wrap16 n (by omega)
          have hlen:=HOC.out.1
          have hall:=HOC.out.2.1
          have hn256:n < 256:=by omega
          clear hd hn hg HSt HNo
          rcases (by have:=HK.out;omega:k=0∨k=1∨k=2∨k=3) with hk0 | rfl | rfl | rfl
          ·obtain rfl:=len_0 (hlen.trans hk0)
           have kq:(k:Int)/2=0:=by rw [hk0];rfl
           have HK0:=hid hk0
           have o1:=or16z n hn256
           obtain ⟨⟨c0,c1,-,-,-,-,-,-,-⟩,⟨f0,f1,-,-,-,-,-,-,-⟩⟩:=cells9 HBk.out
           have HSet:Hid (Bk9 (wr.setCell ⟨w1.heap.size,0,none⟩ (.int .u16 ((n:Nat):Int))) w1.heap.size (cellsD ([]++[n]))):=HBk.out.set 0 (.int .u16 ((n:Nat):Int))
           have HBs:=hid (belowSet HB.out (Nat.le_refl _) hsz.out 0 (.int .u16 ((n:Nat):Int)))
           change wr.cell? ⟨w1.heap.size,0,none⟩=some (.int .u16 0) at c0
           clear c1 f1 HBk hk0
           clear hall hlen hn256
           go_wp2_with fail
           refine (HC.out _).mono ?_
           rintro e wz ⟨rfl,rfl⟩
           go_wp2_with fail
           go_roundw
           case rel=>exact ⟨k+1,[]++[n],by have:=HK0.out;omega,by go_num,HSt2.out,HSet.out,HBs.out⟩
           case measure=>have:=HK0.out;simp [intOf];omega
          ·obtain ⟨a,rfl⟩:=len_1 hlen
           have ha:a≤255:=hall a (by simp)
           have o1:=or16 a n (by omega) hn256
           have v0:(0:Int)≤(a:Int):=by omega
           have v1:IntKind.wrap .u16 ((a:Int) * 256)=(a:Int) * 256:=by rw [IntKind.wrap_u16];omega
           obtain ⟨⟨c0,c1,-,-,-,-,-,-,-⟩,⟨f0,f1,-,-,-,-,-,-,-⟩⟩:=cells9 HBk.out
           have HSet:Hid (Bk9 (wr.setCell ⟨w1.heap.size,0,none⟩ (.int .u16 ((a * 256+n:Nat):Int))) w1.heap.size (cellsD ([a]++[n]))):=HBk.out.set 0 (.int .u16 ((a * 256+n:Nat):Int))
           have HBs:=hid (belowSet HB.out (Nat.le_refl _) hsz.out 0 (.int .u16 ((a * 256+n:Nat):Int)))
           generalize a * 256+n=m at *
           unfold pD at c0 c1
           clear hall hlen hn256 ha
           go_wp2_with fail
           refine (HC.out _).mono ?_
           rintro e wz ⟨rfl,rfl⟩
           go_wp2_with fail
           go_roundw
           case rel=>exact ⟨2,[a]++[n],by omega,by go_num,HSt2.out,HSet.out,HBs.out⟩
           case measure=>simp [intOf]
          ·obtain ⟨a,b,rfl⟩:=len_2 hlen
           have ha:a≤255:=hall a (by simp)
           have hb:b≤255:=hall b (by simp)
           have o1:=or16z n hn256
           obtain ⟨⟨c0,c1,-,-,-,-,-,-,-⟩,⟨f0,f1,-,-,-,-,-,-,-⟩⟩:=cells9 HBk.out
           have HSet:Hid (Bk9 (wr.setCell ⟨w1.heap.size,1,none⟩ (.int .u16 ((n:Nat):Int))) w1.heap.size (cellsD ([a,b]++[n]))):=HBk.out.set 1 (.int .u16 ((n:Nat):Int))
           have HBs:=hid (belowSet HB.out (Nat.le_refl _) hsz.out 1 (.int .u16 ((n:Nat):Int)))
           unfold pD at c0 c1
           clear hall hlen hn256 ha hb
           go_wp2_with fail
           refine (HC.out _).mono ?_
           rintro e wz ⟨rfl,rfl⟩
           go_wp2_with fail
           go_roundw
           case rel=>exact ⟨3,[a,b]++[n],by omega,by go_num,HSt2.out,HSet.out,HBs.out⟩
           case measure=>simp [intOf]
          ·obtain ⟨a,b,c,rfl⟩:=len_3 hlen
           have ha:a≤255:=hall a (by simp)
           have hb:b≤255:=hall b (by simp)
           have hc:c≤255:=hall c (by simp)
           have o1:=or16 c n (by omega) hn256
           have v0:(0:Int)≤(c:Int):=by omega
           have v1:IntKind.wrap .u16 ((c:Int) * 256)=(c:Int) * 256:=by rw [IntKind.wrap_u16];omega
           obtain ⟨⟨c0,c1,-,-,-,-,-,-,-⟩,⟨f0,f1,-,-,-,-,-,-,-⟩⟩:=cells9 HBk.out
           have HSet:Hid (Bk9 (wr.setCell ⟨w1.heap.size,1,none⟩ (.int .u16 ((c * 256+n:Nat):Int))) w1.heap.size (cellsD ([a,b,c]++[n]))):=HBk.out.set 1 (.int .u16 ((c * 256+n:Nat):Int))
           have HBs:=hid (belowSet HB.out (Nat.le_refl _) hsz.out 1 (.int .u16 ((c * 256+n:Nat):Int)))
           generalize c * 256+n=m at *
           unfold pD at c0 c1
           clear hall hlen hn256 ha hb hc
           go_wp2_with fail
           refine (HC.out _).mono ?_
           rintro e wz ⟨rfl,rfl⟩
           go_wp2_with fail
           go_roundw
           case rel=>exact ⟨4,[a,b,c]++[n],by omega,by go_num,HSt2.out,HSet.out,HBs.out⟩
           case measure=>simp [intOf]
   ·have k1:¬(k:Int) < (qs.length:Int):=by have:=H4.out;omega
    obtain rfl:k=4:=by omega
    have HOS:=hid (HOC.out.done (by have:=H4.out;omega))
    obtain ⟨a',b',c',d',rfl⟩:=four4 HOC.out.1
    have HX:=hid (HFS.out a' b' c' d' H4.out HOS.out)
    obtain ⟨⟨d0,d1,d2,d3,d4,d5,d6,d7,d8⟩,-⟩:=cells9 HBk.out
    obtain ⟨⟨c0,c1,c2,c3,c4,c5,c6,c7,c8⟩,⟨f0,f1,f2,f3,f4,f5,f6,f7,f8⟩⟩:=cells9 (y0:=.int .u16 0) (y1:=.int .u16 0) (y2:=.int .u16 0) (y3:=.int .u16 0) (y4:=.int .u16 0) (y5:=.int .u16 0) (y6:=.int .u16 0) (y7:=.int .u16 0) (y8:=.int .i64 0) HZr.out
    have HFill:=hid (fill9 (y0:=.int .u16 0) (y1:=.int .u16 0) (y2:=.int .u16 0) (y3:=.int .u16 0) (y4:=.int .u16 0) (y5:=.int .u16 0) (y6:=.int .u16 0) (y7:=.int .u16 0) (y8:=.int .i64 0) HZr.out HBw.out HGl.out HBw.out.size (.int .u16 ((a' * 256+b':Nat):Int)) (.int .u16 ((c' * 256+d':Nat):Int)) (.int .u16 0) (.int .u16 0) (.int .u16 0) (.int .u16 0) (.int .u16 0) (.int .u16 0) (.int .i64 2))
    have HFin:=hid (fun w' (hb:Below w.heap.size w w')=>RPost.yes (w:=w) (w':=w') (a' * 256+b') (c' * 256+d') 0 0 0 0 0 0 2 HX.out rfl (by decide) rfl hb)
    change wr.cell? ⟨w1.heap.size,0,none⟩=some (.int .u16 ((a' * 256+b':Nat):Int)) at d0
    change wr.cell? ⟨w1.heap.size,1,none⟩=some (.int .u16 ((c' * 256+d':Nat):Int)) at d1
    clear hlt hk HOS HX HOC
    generalize a' * 256+b'=x0 at *
    generalize c' * 256+d'=x1 at *
    go_wp2_with fail
    generalize (((((((((wr.setCell ⟨G,0,none⟩ (.int .u16 ((x0:Nat):Int))).setCell ⟨G,1,none⟩ (.int .u16 ((x1:Nat):Int))).setCell ⟨G,2,none⟩ (.int .u16 0)).setCell ⟨G,3,none⟩ (.int .u16 0)).setCell ⟨G,4,none⟩ (.int .u16 0)).setCell ⟨G,5,none⟩ (.int .u16 0)).setCell ⟨G,6,none⟩ (.int .u16 0)).setCell ⟨G,7,none⟩ (.int .u16 0)).setCell ⟨G,8,none⟩ (.int .i64 2))=W9 at *
    obtain ⟨⟨g0,g1,g2,g3,g4,g5,g6,g7,g8⟩,-⟩:=cells9 HFill.out.1
    have HBL:=hid HFill.out.2
    clear HFill c0 c1 c2 c3 c4 c5 c6 c7 c8 f0 f1 f2 f3 f4 f5 f6 f7 f8
    refine bodyPost_ret (by simp [results,Tryz.results194,go_sem,g0,g1,g2,g3,g4,g5,g6,g7,g8];try rfl) rfl ?_
    exact HFin.out _ HBL.out
 ·have HX:=hid (HFB.out h4)
  have n1:((qs.length:Int)==4)=false:=by rw [beq_eq_false_iff_ne];omega
  have n2:((qs.length:Int) != 4)=true:=by rw [bne_iff_ne];omega
  have HBw:=hid HB1.out
  obtain ⟨⟨c0,c1,c2,c3,c4,c5,c6,c7,c8⟩,⟨f0,f1,f2,f3,f4,f5,f6,f7,f8⟩⟩:=cells9 (y0:=.int .u16 0) (y1:=.int .u16 0) (y2:=.int .u16 0) (y3:=.int .u16 0) (y4:=.int .u16 0) (y5:=.int .u16 0) (y6:=.int .u16 0) (y7:=.int .u16 0) (y8:=.int .i64 0) HZ1.out
  have HFill:=hid (fill9 (y0:=.int .u16 0) (y1:=.int .u16 0) (y2:=.int .u16 0) (y3:=.int .u16 0) (y4:=.int .u16 0) (y5:=.int .u16 0) (y6:=.int .u16 0) (y7:=.int .u16 0) (y8:=.int .i64 0) HZ1.out HBw.out HGl.out HBw.out.size (.int .u16 0) (.int .u16 0) (.int .u16 0) (.int .u16 0) (.int .u16 0) (.int .u16 0) (.int .u16 0) (.int .u16 0) (.int .i64 0))
  clear h4
  go_wp2_with fail
  generalize (((((((((w1.setCell ⟨G,0,none⟩ (.int .u16 0)).setCell ⟨G,1,none⟩ (.int .u16 0)).setCell ⟨G,2,none⟩ (.int .u16 0)).setCell ⟨G,3,none⟩ (.int .u16 0)).setCell ⟨G,4,none⟩ (.int .u16 0)).setCell ⟨G,5,none⟩ (.int .u16 0)).setCell ⟨G,6,none⟩ (.int .u16 0)).setCell ⟨G,7,none⟩ (.int .u16 0)).setCell ⟨G,8,none⟩ (.int .i64 0))=W9 at *
  obtain ⟨⟨g0,g1,g2,g3,g4,g5,g6,g7,g8⟩,-⟩:=cells9 HFill.out.1
  have HBL:=hid HFill.out.2
  clear HFill c0 c1 c2 c3 c4 c5 c6 c7 c8 f0 f1 f2 f3 f4 f5 f6 f7 f8
  refine bodyPost_ret (by simp [results,Tryz.results194,go_sem,g0,g1,g2,g3,g4,g5,g6,g7,g8];try rfl) rfl ?_
  exact RPost.no 0 0 0 0 0 0 0 0 0 (by decide) HX.out HBL.out
theorem pcR_four {p:List UInt8} (h:1 < (splitR 46 p).length):pcR true p=fourR p:=if_pos ⟨rfl,h⟩
theorem pcR_bad {dec:Bool} {p:List UInt8} (h:¬(dec=true∧1 < (splitR 46 p).length)) (hb:p=[]∨4 < p.length∨digsR 16 p=false):pcR dec p=none:=by unfold pcR;rw [if_neg h,if_pos hb]
theorem pcR_good {dec:Bool} {p:List UInt8} (h:¬(dec=true∧1 < (splitR 46 p).length)) (hb:¬(p=[]∨4 < p.length∨digsR 16 p=false)):pcR dec p=some [valX 16 p]:=by unfold pcR;rw [if_neg h,if_neg hb]
theorem sat_hex {p:List UInt8} (hd:digsR 16 p=true) (hl:¬4 < p.length):satR 16 p=valX 16 p∧valX 16 p < 65536:=by
 have hlt:=valX_lt (b:=16) p.length p rfl hd
 have hle:16^p.length≤16^4:=Nat.pow_le_pow_right (by decide) (by omega)
 have h6:(16:Nat)^4=65536:=by decide
 rw [satR_eq 16 (by decide) _ p rfl]
 omega
theorem RPost.any {r:Option (List Nat)} {w w':World} {b:Bool} (x0 x1 x2 x3 x4 x5 x6 x7 c:Nat) (hc:c≤8) (hn:∀ns,r=some ns→c=ns.length∧[x0,x1,x2,x3,x4,x5,x6,x7]=ns++List.replicate (8-ns.length) 0) (hr:r.isSome=b) (hb:Below w.heap.size w w'):RPost r w (.returned (.tuple #[.agg #[.int .u16 (x0:Int),.int .u16 (x1:Int),.int .u16 (x2:Int),.int .u16 (x3:Int),.int .u16 (x4:Int),.int .u16 (x5:Int),.int .u16 (x6:Int),.int .u16 (x7:Int),.int .i64 (c:Int)],.bool b])) w' :=
 ⟨_,⟨x0,x1,x2,x3,x4,x5,x6,x7,c,rfl,hc,hn⟩,by rw [hr],hb⟩
theorem pread_four (s:ByteArray) (w:World) (hs:s.size≤100000) (hm:1 < (splitR 46 s.data.toList).length):Calls Tryz.prog 176 #[.string s,.bool true] w fun e w'=>RPost (pcR true s.data.toList) w e w':=by
 rw [pcR_four hm]
 have HS:=hid hs
 have HZ:=hid (zero9_world w)
 have HB0:=hid ((Below.refl w.heap.size w).alloc (Nat.le_refl _) (.cells #[.int .u16 0,.int .u16 0,.int .u16 0,.int .u16 0,.int .u16 0,.int .u16 0,.int .u16 0,.int .u16 0,.int .i64 0] 153))
 have HCo:=hid (fun w=>pcont_calls s w)
 rw [decide_eq_true hm] at HCo
 clear hm
 clear hs
 go_enter Tryz.func176,Tryz.ntmps176
 go_wp2_with fail
 refine (HCo.out _).mono ?_
 rintro e wz ⟨rfl,rfl⟩
 go_wp2_with fail
 refine (pdec_calls s _ HS.out).mono ?_
 rintro e w1 ⟨v,⟨x0,x1,x2,x3,x4,x5,x6,x7,c,rfl,hc8,hns⟩,rfl,hb⟩
 have HZ1:=hid (HZ.out.below hb)
 have HB1:=hid (below_trans HB0.out hb)
 have HC8:=hid hc8
 have HNS:=hid hns
 clear HZ HB0 hb hc8 hns
 obtain ⟨G,hG⟩:∃G,w.heap.size=G:=⟨_,rfl⟩
 have HGl:Hid (w.heap.size≤G):=Nat.le_of_eq hG
 rw [hG] at HZ1 ⊢
 clear hG
 obtain ⟨⟨c0,c1,c2,c3,c4,c5,c6,c7,c8⟩,⟨f0,f1,f2,f3,f4,f5,f6,f7,f8⟩⟩:=cells9 (y0:=.int .u16 0) (y1:=.int .u16 0) (y2:=.int .u16 0) (y3:=.int .u16 0) (y4:=.int .u16 0) (y5:=.int .u16 0) (y6:=.int .u16 0) (y7:=.int .u16 0) (y8:=.int .i64 0) HZ1.out
 have HFill:=hid (fill9 (y0:=.int .u16 0) (y1:=.int .u16 0) (y2:=.int .u16 0) (y3:=.int .u16 0) (y4:=.int .u16 0) (y5:=.int .u16 0) (y6:=.int .u16 0) (y7:=.int .u16 0) (y8:=.int .i64 0) HZ1.out HB1.out HGl.out HB1.out.size (.int .u16 (x0:Int)) (.int .u16 (x1:Int)) (.int .u16 (x2:Int)) (.int .u16 (x3:Int)) (.int .u16 (x4:Int)) (.int .u16 (x5:Int)) (.int .u16 (x6:Int)) (.int .u16 (x7:Int)) (.int .i64 (c:Int)))
 have HIS:Hid ((fourR s.data.toList).isSome=(fourR s.data.toList).isSome):=rfl
 have HFin:=hid (fun w' (hb:Below w.heap.size w w')=>RPost.any (w:=w) (w':=w') x0 x1 x2 x3 x4 x5 x6 x7 c HC8.out HNS.out HIS.out hb)
 clear HC8 HNS HIS
 generalize (fourR s.data.toList).isSome=bo at *
 go_wp2_with fail
 generalize (((((((((w1.setCell ⟨G,0,none⟩ (.int .u16 (x0:Int))).setCell ⟨G,1,none⟩ (.int .u16 (x1:Int))).setCell ⟨G,2,none⟩ (.int .u16 (x2:Int))).setCell ⟨G,3,none⟩ (.int .u16 (x3:Int))).setCell ⟨G,4,none⟩ (.int .u16 (x4:Int))).setCell ⟨G,5,none⟩ (.int .u16 (x5:Int))).setCell ⟨G,6,none⟩ (.int .u16 (x6:Int))).setCell ⟨G,7,none⟩ (.int .u16 (x7:Int))).setCell ⟨G,8,none⟩ (.int .i64 (c:Int)))=W9 at *
 obtain ⟨⟨g0,g1,g2,g3,g4,g5,g6,g7,g8⟩,-⟩:=cells9 HFill.out.1
 have HBL:=hid HFill.out.2
 clear HFill c0 c1 c2 c3 c4 c5 c6 c7 c8 f0 f1 f2 f3 f4 f5 f6 f7 f8
 refine bodyPost_ret (by simp [results,Tryz.results176,go_sem,g0,g1,g2,g3,g4,g5,g6,g7,g8];try rfl) rfl ?_
 exact HFin.out _ HBL.out
theorem pread_false_a (s:ByteArray) (w:World) (hs:s.size≤100000) (hm:¬(false=true∧1 < (splitR 46 s.data.toList).length)) (h0:s.size=0):Calls Tryz.prog 176 #[.string s,.bool false] w fun e w'=>RPost (pcR false s.data.toList) w e w':=by
 have HS:=hid hs
 have HZ:=hid (zero9_world w)
 have HB0:=hid ((Below.refl w.heap.size w).alloc (Nat.le_refl _) (.cells #[.int .u16 0,.int .u16 0,.int .u16 0,.int .u16 0,.int .u16 0,.int .u16 0,.int .u16 0,.int .u16 0,.int .i64 0] 153))
 have HLN:=hid (bytes_num s)
 have HX:=hid (pcR_bad hm (.inl (data_nil h0)))
 have e0:=empty_yes h0
 clear h0 hm
 generalize pcR false s.data.toList=pr at *
 clear hs
 go_enter Tryz.func176,Tryz.ntmps176
 go_wp2_with fail
 go_returns
 exact RPost.no 0 0 0 0 0 0 0 0 0 (by decide) HX.out ((Below.refl _ _).alloc (Nat.le_refl _) _)
theorem pread_false_b (s:ByteArray) (w:World) (hs:s.size≤100000) (hm:¬(false=true∧1 < (splitR 46 s.data.toList).length)) (h4:4 < s.size):Calls Tryz.prog 176 #[.string s,.bool false] w fun e w'=>RPost (pcR false s.data.toList) w e w':=by
 have HS:=hid hs
 have HZ:=hid (zero9_world w)
 have HB0:=hid ((Below.refl w.heap.size w).alloc (Nat.le_refl _) (.cells #[.int .u16 0,.int .u16 0,.int .u16 0,.int .u16 0,.int .u16 0,.int .u16 0,.int .u16 0,.int .u16 0,.int .i64 0] 153))
 have HLN:=hid (bytes_num s)
 have HX:=hid (pcR_bad hm (.inr (.inl (by rw [bytes_num];exact h4))))
 obtain ⟨e0,e1⟩:=empty_no (s:=s) (by omega)
 have s1:(4:Int) < (s.size:Int):=by omega
 clear h4 hm
 generalize pcR false s.data.toList=pr at *
 clear hs
 go_enter Tryz.func176,Tryz.ntmps176
 go_wp2_with fail
 go_returns
 exact RPost.no 0 0 0 0 0 0 0 0 0 (by decide) HX.out ((Below.refl _ _).alloc (Nat.le_refl _) _)
theorem pread_false_c (s:ByteArray) (w:World) (hs:s.size≤100000) (hm:¬(false=true∧1 < (splitR 46 s.data.toList).length)) (h0:s.size≠0) (h4:¬4 < s.size) (hd:digsR 16 s.data.toList=false):Calls Tryz.prog 176 #[.string s,.bool false] w fun e w'=>RPost (pcR false s.data.toList) w e w':=by
 have HS:=hid hs
 have HZ:=hid (zero9_world w)
 have HB0:=hid ((Below.refl w.heap.size w).alloc (Nat.le_refl _) (.cells #[.int .u16 0,.int .u16 0,.int .u16 0,.int .u16 0,.int .u16 0,.int .u16 0,.int .u16 0,.int .u16 0,.int .i64 0] 153))
 have HLN:=hid (bytes_num s)
 obtain ⟨e0,e1⟩:=empty_no h0
 have s1:¬(4:Int) < (s.size:Int):=by omega
 have HN:=hid (fun w=>pnumber_calls s 16 w hs (by decide) (by decide))
 unfold NPost at HN
 have HX:=hid (pcR_bad hm (.inr (.inr hd)))
 rw [numP_no hd] at HN
 clear h0 h4 hd hm
 generalize pcR false s.data.toList=pr at *
 clear hs
 go_enter Tryz.func176,Tryz.ntmps176
 go_wp2_with fail
 refine (HN.out _).mono ?_
 rintro e wz ⟨rfl,rfl⟩
 go_wp2_with fail
 go_returns
 exact RPost.no 0 0 0 0 0 0 0 0 1 (by decide) HX.out ((Below.refl _ _).alloc (Nat.le_refl _) _)
theorem pread_false_d (s:ByteArray) (w:World) (hs:s.size≤100000) (hm:¬(false=true∧1 < (splitR 46 s.data.toList).length)) (h0:s.size≠0) (h4:¬4 < s.size) (hd:digsR 16 s.data.toList=true):Calls Tryz.prog 176 #[.string s,.bool false] w fun e w'=>RPost (pcR false s.data.toList) w e w':=by
 have HS:=hid hs
 have HZ:=hid (zero9_world w)
 have HB0:=hid ((Below.refl w.heap.size w).alloc (Nat.le_refl _) (.cells #[.int .u16 0,.int .u16 0,.int .u16 0,.int .u16 0,.int .u16 0,.int .u16 0,.int .u16 0,.int .u16 0,.int .i64 0] 153))
 have HLN:=hid (bytes_num s)
 obtain ⟨e0,e1⟩:=empty_no h0
 have s1:¬(4:Int) < (s.size:Int):=by omega
 have HN:=hid (fun w=>pnumber_calls s 16 w hs (by decide) (by decide))
 unfold NPost at HN
 have HX:=hid (pcR_good hm (by rintro (h | h | h);exact data_ne h0 h;rw [bytes_num] at h;exact h4 h;rw [hd] at h;cases h))
 obtain ⟨hv,hlt⟩:=sat_hex hd (by rw [bytes_num];exact h4)
 rw [numP_yes hd,hv] at HN
 generalize valX 16 s.data.toList=n at *
 have g2:IntKind.wrap .u16 (n:Int)=(n:Int):=wrap16 n hlt
 clear h0 h4 hd hm hv hlt
 generalize pcR false s.data.toList=pr at *
 clear hs
 go_enter Tryz.func176,Tryz.ntmps176
 go_wp2_with fail
 refine (HN.out _).mono ?_
 rintro e wz ⟨rfl,rfl⟩
 go_wp2_with fail
 go_returns
 exact RPost.yes n 0 0 0 0 0 0 0 1 HX.out rfl (by decide) rfl ((Below.refl _ _).alloc (Nat.le_refl _) _)
theorem pread_true_a (s:ByteArray) (w:World) (hs:s.size≤100000) (hm:¬(true=true∧1 < (splitR 46 s.data.toList).length)) (h0:s.size=0):Calls Tryz.prog 176 #[.string s,.bool true] w fun e w'=>RPost (pcR true s.data.toList) w e w':=by
 have HS:=hid hs
 have HZ:=hid (zero9_world w)
 have HB0:=hid ((Below.refl w.heap.size w).alloc (Nat.le_refl _) (.cells #[.int .u16 0,.int .u16 0,.int .u16 0,.int .u16 0,.int .u16 0,.int .u16 0,.int .u16 0,.int .u16 0,.int .i64 0] 153))
 have HLN:=hid (bytes_num s)
 have HCo:=hid (fun w=>pcont_calls s w)
 rw [decide_eq_false (fun h=>hm ⟨rfl,h⟩)] at HCo
 have HX:=hid (pcR_bad hm (.inl (data_nil h0)))
 have e0:=empty_yes h0
 clear h0 hm
 generalize pcR true s.data.toList=pr at *
 clear hs
 go_enter Tryz.func176,Tryz.ntmps176
 go_wp2_with fail
 refine (HCo.out _).mono ?_
 rintro e wz ⟨rfl,rfl⟩
 go_wp2_with fail
 go_returns
 exact RPost.no 0 0 0 0 0 0 0 0 0 (by decide) HX.out ((Below.refl _ _).alloc (Nat.le_refl _) _)
theorem pread_true_b (s:ByteArray) (w:World) (hs:s.size≤100000) (hm:¬(true=true∧1 < (splitR 46 s.data.toList).length)) (h4:4 < s.size):Calls Tryz.prog 176 #[.string s,.bool true] w fun e w'=>RPost (pcR true s.data.toList) w e w':=by
 have HS:=hid hs
 have HZ:=hid (zero9_world w)
 have HB0:=hid ((Below.refl w.heap.size w).alloc (Nat.le_refl _) (.cells #[.int .u16 0,.int .u16 0,.int .u16 0,.int .u16 0,.int .u16 0,.int .u16 0,.int .u16 0,.int .u16 0,.int .i64 0] 153))
 have HLN:=hid (bytes_num s)
 have HCo:=hid (fun w=>pcont_calls s w)
 rw [decide_eq_false (fun h=>hm ⟨rfl,h⟩)] at HCo
 have HX:=hid (pcR_bad hm (.inr (.inl (by rw [bytes_num];exact h4))))
 obtain ⟨e0,e1⟩:=empty_no (s:=s) (by omega)
 have s1:(4:Int) < (s.size:Int):=by omega
 clear h4 hm
 generalize pcR true s.data.toList=pr at *
 clear hs
 go_enter Tryz.func176,Tryz.ntmps176
 go_wp2_with fail
 refine (HCo.out _).mono ?_
 rintro e wz ⟨rfl,rfl⟩
 go_wp2_with fail
 go_returns
 exact RPost.no 0 0 0 0 0 0 0 0 0 (by decide) HX.out ((Below.refl _ _).alloc (Nat.le_refl _) _)
theorem pread_true_c (s:ByteArray) (w:World) (hs:s.size≤100000) (hm:¬(true=true∧1 < (splitR 46 s.data.toList).length)) (h0:s.size≠0) (h4:¬4 < s.size) (hd:digsR 16 s.data.toList=false):Calls Tryz.prog 176 #[.string s,.bool true] w fun e w'=>RPost (pcR true s.data.toList) w e w':=by
 have HS:=hid hs
 have HZ:=hid (zero9_world w)
 have HB0:=hid ((Below.refl w.heap.size w).alloc (Nat.le_refl _) (.cells #[.int .u16 0,.int .u16 0,.int .u16 0,.int .u16 0,.int .u16 0,.int .u16 0,.int .u16 0,.int .u16 0,.int .i64 0] 153))
 have HLN:=hid (bytes_num s)
 have HCo:=hid (fun w=>pcont_calls s w)
 rw [decide_eq_false (fun h=>hm ⟨rfl,h⟩)] at HCo
 obtain ⟨e0,e1⟩:=empty_no h0
 have s1:¬(4:Int) < (s.size:Int):=by omega
 have HN:=hid (fun w=>pnumber_calls s 16 w hs (by decide) (by decide))
 unfold NPost at HN
 have HX:=hid (pcR_bad hm (.inr (.inr hd)))
 rw [numP_no hd] at HN
 clear h0 h4 hd hm
 generalize pcR true s.data.toList=pr at *
 clear hs
 go_enter Tryz.func176,Tryz.ntmps176
 go_wp2_with fail
 refine (HCo.out _).mono ?_
 rintro e wz ⟨rfl,rfl⟩
 go_wp2_with fail
 refine (HN.out _).mono ?_
 rintro e wz ⟨rfl,rfl⟩
 go_wp2_with fail
 go_returns
 exact RPost.no 0 0 0 0 0 0 0 0 1 (by decide) HX.out ((Below.refl _ _).alloc (Nat.le_refl _) _)
theorem pread_true_d (s:ByteArray) (w:World) (hs:s.size≤100000) (hm:¬(true=true∧1 < (splitR 46 s.data.toList).length)) (h0:s.size≠0) (h4:¬4 < s.size) (hd:digsR 16 s.data.toList=true):Calls Tryz.prog 176 #[.string s,.bool true] w fun e w'=>RPost (pcR true s.data.toList) w e w':=by
 have HS:=hid hs
 have HZ:=hid (zero9_world w)
 have HB0:=hid ((Below.refl w.heap.size w).alloc (Nat.le_refl _) (.cells #[.int .u16 0,.int .u16 0,.int .u16 0,.int .u16 0,.int .u16 0,.int .u16 0,.int .u16 0,.int .u16 0,.int .i64 0] 153))
 have HLN:=hid (bytes_num s)
 have HCo:=hid (fun w=>pcont_calls s w)
 rw [decide_eq_false (fun h=>hm ⟨rfl,h⟩)] at HCo
 obtain ⟨e0,e1⟩:=empty_no h0
 have s1:¬(4:Int) < (s.size:Int):=by omega
 have HN:=hid (fun w=>pnumber_calls s 16 w hs (by decide) (by decide))
 unfold NPost at HN
 have HX:=hid (pcR_good hm (by rintro (h | h | h);exact data_ne h0 h;rw [bytes_num] at h;exact h4 h;rw [hd] at h;cases h))
 obtain ⟨hv,hlt⟩:=sat_hex hd (by rw [bytes_num];exact h4)
 rw [numP_yes hd,hv] at HN
 generalize valX 16 s.data.toList=n at *
 have g2:IntKind.wrap .u16 (n:Int)=(n:Int):=wrap16 n hlt
 clear h0 h4 hd hm hv hlt
 generalize pcR true s.data.toList=pr at *
 clear hs
 go_enter Tryz.func176,Tryz.ntmps176
 go_wp2_with fail
 refine (HCo.out _).mono ?_
 rintro e wz ⟨rfl,rfl⟩
 go_wp2_with fail
 refine (HN.out _).mono ?_
 rintro e wz ⟨rfl,rfl⟩
 go_wp2_with fail
 go_returns
 exact RPost.yes n 0 0 0 0 0 0 0 1 HX.out rfl (by decide) rfl ((Below.refl _ _).alloc (Nat.le_refl _) _)
theorem pread_calls (dec:Bool) (s:ByteArray) (w:World) (hs:s.size≤100000):Calls Tryz.prog 176 #[.string s,.bool dec] w fun e w'=>RPost (pcR dec s.data.toList) w e w':=by
 by_cases hm:dec=true∧1 < (splitR 46 s.data.toList).length
 ·obtain ⟨rfl,hm⟩:=hm
  exact pread_four s w hs hm
 ·by_cases h0:s.size=0
  ·cases dec with
   | false=>exact pread_false_a s w hs hm h0
   | true=>exact pread_true_a s w hs hm h0
  by_cases h4:4 < s.size
  ·cases dec with
   | false=>exact pread_false_b s w hs hm h4
   | true=>exact pread_true_b s w hs hm h4
  cases hd:digsR 16 s.data.toList with
  | false =>
    cases dec with
    | false=>exact pread_false_c s w hs hm h0 h4 hd
    | true=>exact pread_true_c s w hs hm h0 h4 hd
  | true =>
    cases dec with
    | false=>exact pread_false_d s w hs hm h0 h4 hd
    | true=>exact pread_true_d s w hs hm h0 h4 hd
end Go.Proofs.YtigfgloenjoeoaaGreatDoor
