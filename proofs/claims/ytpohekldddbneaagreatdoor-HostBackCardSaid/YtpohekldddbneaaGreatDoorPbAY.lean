import Derived.Test.YtpohekldddbneaaGreatDoorPbAX
import Derived.Test.YtpohekldddbneaaGreatDoorPbAS
import Derived.Test.YtpohekldddbneaaGreatDoorPbAD
import Derived.Test.YtpohekldddbneaaGreatDoorPbAJ
import Derived.Deep.RegionHeld3
import Derived.Test.YtpohekldddbneaaGreatDoorPbAA
set_option linter.unusedVariables false
set_option linter.unusedSimpArgs false
set_option maxRecDepth 20000
set_option maxHeartbeats 16000000
namespace Go.Proofs.YtpohekldddbneaaGreatDoor
open Go.RowKit
theorem insF_most:∀(f:Nat) (out:List Nat) (ds:List (Option Nat)) (s a b:Nat) (fl:Bool) (m:List Nat),out.length≤256→insF f out ds s a b fl=some m→m.length≤256
 | 0,out,ds,s,a,b,fl,m,hl,h=>by
   unfold insF at h
   split at h
   ·injection h with h;subst h;exact hl
   ·cases h
 | f+1,out,ds,s,a,b,fl,m,hl,h=>by
   rw [insF_succ] at h
   split at h
   ·injection h with h;subst h;exact hl
   ·split at h
    ·cases h
    ·rename_i h256
     cases hr:rd ds a 1 36 b with
     | none=>rw [hr] at h;cases h
     | some x =>
       rw [hr] at h
       obtain ⟨to,rest⟩:=x
       simp only at h
       split at h
       ·have hp:to%(out.length+1)≤out.length:=by have:=Nat.mod_lt to (y:=out.length+1) (by omega);omega
        exact insF_most f _ _ _ _ _ _ m (by have:=ins_len out (to%(out.length+1)) (s+to/(out.length+1)) hp;unfold ins at this;omega) h
       ·cases h
theorem dec_most (s:ByteArray) (m:List Nat) (h:dec s=some m):m.length≤256:=by
 unfold dec at h
 split at h
 ·exact insF_most _ _ _ _ _ _ _ m (by simp) h
 ·split at h
  ·cases h
  ·split at h
   ·exact insF_most _ _ _ _ _ _ _ m (by simp;omega) h
   ·cases h
theorem decR_most (s:ByteArray):(ints (decR s).1).length≤256:=by
 unfold decR
 split
 ·simp [ints]
 ·split
  ·simp [ints]
  ·rename_i m h
   have:=dec_most s m h
   simpa [ints] using this
theorem str_join (p:ByteArray):(⟨#[120,110,45,45]⟩:ByteArray)++p=strOf ([120,110,45,45]++bytesOf p):=by
 unfold strOf bytesOf
 apply ByteArray.ext
 simp
theorem str_drop (l:List UInt8) (k:Nat) (h:k≤l.length):(strOf l).extract k (strOf l).size=strOf (l.drop k):=by
 apply ByteArray.ext
 have h1:((strOf l).extract k (strOf l).size).data.toList=l.drop k:=by
  rw [strOf_size]
  simp [ByteArray.data_extract,strOf]
  try (rw [List.take_of_length_le];simp)
 have:((strOf l).extract k (strOf l).size).data=(l.drop k).toArray:=by rw [← h1]
 rw [this];rfl
theorem labR_mark {l:List Int} (h:asciiB l=false) (hm:markB (textL l)=true):labR l=(strOf [],4):=by unfold labR;rw [if_pos h,if_pos hm]
theorem labR_bad {l:List Int} (h:asciiB l=false) (hm:markB (textL l)=false) (he:(encR l).2≠0):labR l=(strOf [],(encR l).2):=by unfold labR;rw [if_pos h,if_neg (by rw [hm];decide),if_neg he]
theorem labR_high {l:List Int} (h:asciiB l=false) (hm:markB (textL l)=false) (he:(encR l).2=0):labR l=(strOf ([120,110,45,45]++bytesOf (encR l).1),0):=by unfold labR;rw [if_pos h,if_neg (by rw [hm];decide),if_pos he]
theorem labR_plain {l:List Int} (h:asciiB l=true) (hm:markB (textL l)=false):labR l=(textB l,0):=by unfold labR;rw [if_neg (by rw [h];decide),if_pos hm]
theorem labR_back {l:List Int} (h:asciiB l=true) (hm:markB (textL l)=true):labR l=if backOk (strOf ((textL l).drop 4))=true then (textB l,0) else (strOf [],4):=by unfold labR;rw [if_neg (by rw [h];decide),if_neg (by rw [hm];decide)]
theorem backOk_err {t:ByteArray} (h:(decR t).2≠0):backOk t=false:=by unfold backOk;simp [h]
theorem backOk_ascii {t:ByteArray} (h:asciiB (ints (decR t).1)=true):backOk t=false:=by unfold backOk;simp [h]
theorem backOk_kind {t:ByteArray} {c:Int} (hc:c∈ints (decR t).1) (h:kindR c≠1):backOk t=false:=by
 unfold backOk
 have:(ints (decR t).1).all (fun c=>kindR c==1)=false:=by
  rw [List.all_eq_false]
  exact ⟨c,hc,by simpa using h⟩
 rw [this];simp
theorem backOk_yes {t:ByteArray} (h1:(decR t).2=0) (h2:asciiB (ints (decR t).1)=false) (h3:markB (textL (ints (decR t).1))=false) (h4:∀c∈ints (decR t).1,kindR c=1) (h5:(encR (ints (decR t).1)).2=0) (h6:(bytesOf (encR (ints (decR t).1)).1==bytesOf t)=true):backOk t=true:=by
 unfold backOk
 rw [h1,h2,h3,h5,h6,List.all_eq_true.2 (fun c hc=>by simpa using h4 c hc)]
 rfl
theorem toList_bytes (s:ByteArray):s.toList=bytesOf s:=by rw [ByteArray.toList_eq];rfl
def dotB (first:Bool):List UInt8:=if first then [] else [46]
def finA (x:List UInt8):ByteArray×Int:=if 253 < x.length then (strOf [],3) else (strOf x,0)
def goA:List UInt8→Bool→List Int→List Int→ByteArray×Int
 | acc,first,cur,[]=>if (labR cur).2=0 then finA (acc++dotB first++bytesOf (labR cur).1) else (strOf [],(labR cur).2)
 | acc,first,cur,c::r=>if c=46 then (if (labR cur).2=0 then goA (acc++dotB first++bytesOf (labR cur).1) false [] r else (strOf [],(labR cur).2)) else goA acc first (cur++[c]) r
def ascR (l:List Int):ByteArray×Int:=if 256 < l.length then (strOf [],11) else if (l.all fun c=>kindOf c != 4)=true then goA [] true [] (mapOf l) else (strOf [],4)
theorem labR_size (l:List Int) (hl:l.length≤100000):(labR l).1.size≤11000000:=by
 have h1:=text_len l
 have h2:=encR_size l
 have h3:(textB l).size=(textL l).length:=strOf_size _
 unfold labR
 split
 ·split
  ·rw [strOf_size];simp
  ·split
   ·rw [strOf_size];simp [bytesOf_len];omega
   ·rw [strOf_size];simp
 ·split
  ·show (textB l).size≤_;omega
  ·split
   ·show (textB l).size≤_;omega
   ·rw [strOf_size];simp
theorem fine_all {l:List Int} (h:Fine l):(l.all fun c=>kindOf c != 4)=true:=by
 rw [List.all_eq_true]
 intro c hc
 rw [bne_iff_ne]
 exact h c hc
theorem bad_all {l:List Int} {i:Nat} (h:BadAt l i):(l.all fun c=>kindOf c != 4)=false:=by
 rw [List.all_eq_false]
 exact ⟨l[i]'h.1,List.getElem_mem h.1,by simp [h.2.1]⟩
theorem rowI_nil (w:World) (A:Option Addr) (C:Nat) (hC:C≤maxLen):IRow w (.slice A 0 C) []:=⟨A,C,rfl,Nat.zero_le _,hC,fun h=>absurd rfl h⟩
theorem piece_snoc {m:List Int} {f i:Nat} (hf:f≤i) (hi:i < m.length):(m.drop f).take (i-f)++[m[i]]=(m.drop f).take (i+1-f):=by
 rw [show i+1-f=(i-f)+1 by omega]
 rw [List.take_succ_eq_append_getElem (by rw [List.length_drop];omega),List.getElem_drop]
 congr 2
 simp only [show f+(i-f)=i by omega]
def AscAt (m:List Int) (R:ByteArray×Int) (o:ByteArray) (f i:Nat):Prop :=
 o.size≤i * 11000001∧((f≤i∧i≤m.length∧R=goA (bytesOf o) (decide (f=0)) ((m.drop f).take (i-f)) (m.drop i))∨(i=m.length+1∧R=finA (bytesOf o)))
theorem AscAt.start (m:List Int):AscAt m (goA [] true [] m) (strOf []) 0 0:=by
 unfold AscAt
 refine ⟨?_,.inl ⟨Nat.le_refl _,Nat.zero_le _,?_⟩⟩
 ·rw [strOf_size];exact Nat.zero_le _
 ·simp [bytesOf,strOf]
theorem AscAt.skip {m:List Int} {R:ByteArray×Int} {o:ByteArray} {f i:Nat} (h:AscAt m R o f i) (hi:i < m.length) (hc:m[i]≠46):AscAt m R o f (i+1):=by
 obtain ⟨hs,⟨hf,_,hr⟩ | ⟨h,_⟩⟩:=h
 ·unfold AscAt
  refine ⟨?_,.inl ⟨by omega,hi,?_⟩⟩
  ·refine Nat.le_trans hs (Nat.mul_le_mul_right _ (by omega))
  ·rw [hr,drop_atPu hi]
   show (if m[i]=46 then _ else _)=_
   rw [if_neg hc,piece_snoc hf hi]
 ·omega
theorem AscAt.err {m:List Int} {R:ByteArray×Int} {o:ByteArray} {f i:Nat} (h:AscAt m R o f i) (hi:i=m.length∨∃h:i < m.length,m[i]=46) (he:(labR ((m.drop f).take (i-f))).2≠0):R=(strOf [],(labR ((m.drop f).take (i-f))).2):=by
 obtain ⟨hs,⟨hf,_,hr⟩ | ⟨h,_⟩⟩:=h
 ·rw [hr]
  rcases hi with hi | ⟨hi,hc⟩
  ·have e:m.drop i=[]:=List.drop_eq_nil_of_le (by omega)
   rw [e]
   show (if _ then _ else _)=_
   rw [if_neg he]
  ·rw [drop_atPu hi,hc]
   show (if (46:Int)=46 then _ else _)=_
   rw [if_pos rfl,if_neg he]
 ·rcases hi with hi | ⟨hi,_⟩<;>omega
theorem AscAt.ok {m:List Int} {R:ByteArray×Int} {o:ByteArray} {f i:Nat} (h:AscAt m R o f i) (hml:m.length≤100000) (hi:i=m.length∨∃h:i < m.length,m[i]=46) (he:(labR ((m.drop f).take (i-f))).2=0) (o':ByteArray) (ho:bytesOf o'=bytesOf o++dotB (decide (f=0))++bytesOf (labR ((m.drop f).take (i-f))).1):AscAt m R o' (i+1) (i+1):=by
 have hsz:=labR_size ((m.drop f).take (i-f)) (by rw [List.length_take,List.length_drop];omega)
 obtain ⟨hs,⟨hf,_,hr⟩ | ⟨h,_⟩⟩:=h
 ·unfold AscAt
  refine ⟨?_,?_⟩
  ·rw [Nat.add_mul,Nat.one_mul]
   have:=congrArg List.length ho
   rw [List.length_append,List.length_append,bytesOf_len,bytesOf_len,bytesOf_len] at this
   have hd:(dotB (decide (f=0))).length≤1:=by unfold dotB;split<;>simp
   omega
  ·rcases hi with hi | ⟨hi,hc⟩
   ·right
    refine ⟨by omega,?_⟩
    have e:m.drop i=[]:=List.drop_eq_nil_of_le (by omega)
    rw [hr,e]
    show (if _ then _ else _)=_
    rw [if_pos he,ho]
   ·left
    refine ⟨Nat.le_refl _,hi,?_⟩
    rw [hr,drop_atPu hi,hc]
    show (if (46:Int)=46 then _ else _)=_
    rw [if_pos rfl,if_pos he,ho]
    simp
 ·rcases hi with hi | ⟨hi,_⟩<;>omega
theorem AscAt.fin {m:List Int} {R:ByteArray×Int} {o:ByteArray} {f i:Nat} (h:AscAt m R o f i) (hi:m.length < i):i=m.length+1∧R=finA (bytesOf o):=by
 obtain ⟨hs,⟨hf,h2,hr⟩ | h⟩:=h
 ·omega
 ·exact h
theorem AscAt.size {m:List Int} {R:ByteArray×Int} {o:ByteArray} {f i:Nat} (h:AscAt m R o f i):o.size≤i * 11000001∧i≤m.length+1:=by
 obtain ⟨hs,⟨hf,h2,hr⟩ | ⟨h,_⟩⟩:=h
 ·exact ⟨hs,by omega⟩
 ·exact ⟨hs,by omega⟩
end Go.Proofs.YtpohekldddbneaaGreatDoor
namespace Go.Proofs.YtpohekldddbneaaGreatDoor
def badH (c:Nat):Bool:=one1 [0,9,10,13,32,35,47,58,60,62,63,64,91,92,93,94,124] c
def badB (c:UInt8):Bool:=badH c.toNat
def lowB (c:UInt8):Bool:=decide (c.toNat < 32)||c.toNat==37||c.toNat==127
abbrev HostN:=Int×List UInt8×Nat×List Nat
def host0:HostN:=(0,[],0,z8)
def sixH (p:List Nat×Nat):HostN×Nat:=if p.2=0 then ((3,[],0,p.1),0) else (host0,p.2)
def fourH (p:Nat×Nat):HostN×Nat:=if p.2=0 then ((2,[],p.1,z8),0) else (host0,p.2)
def darkR (l:List UInt8):HostN×Nat:=if l.any badB=true then (host0,4) else if l=[] then (host0,0) else ((4,pctR 1 l,0,z8),0)
def nameR (t:List UInt8):HostN×Nat :=
 if t=[] then (host0,6) else if (t.any lowB||t.any badB)=true then (host0,4)
 else if endsR t=true then fourH (parse4R t) else ((1,t,0,z8),0)
def askedR (l:List UInt8):ByteArray×Int:=ascR (lossyL (unR l))
def specialR (l:List UInt8):HostN×Nat:=if (askedR l).2=0 then nameR (bytesOf (askedR l).1) else (host0,(askedR l).2.toNat)
def bracketR (l:List UInt8):HostN×Nat:=if l.getLast? ≠ some 93∨l.length=1 then (host0,4) else sixH (parse6R l.tail.dropLast)
def hostR (l:List UInt8) (special:Bool):HostN×Nat :=
 if 4000 < l.length then (host0,3)
 else if l.head? = some 91 then bracketR l
 else if special=true then specialR l else darkR l
def printR (h:HostN):List UInt8 :=
 if h.1=1∨h.1=4 then h.2.1 else if h.1=2 then print4R h.2.2.1 else if h.1=3 then 91::(print6R h.2.2.2++[93]) else []
def mayR (h:HostN):Bool:=let r:=hostR (printR h) (h.1==1||h.1==2);r.2==0&&r.1==h
end Go.Proofs.YtpohekldddbneaaGreatDoor
namespace Go.Proofs.YtpohekldddbneaaGreatDoor
open Go.RowKit
def byteInts (b:List UInt8):List Int:=b.map fun c=>(c.toNat:Int)
def uniP (p:ByteArray):List Int:=if markB (bytesOf p)=true∧(decR (strOf ((bytesOf p).drop 4))).2=0 then ints (decR (strOf ((bytesOf p).drop 4))).1 else byteInts (bytesOf p)
def joinU:Bool→List ByteArray→List Int
 | first,[]=>[]
 | first,p::r=>(if first then [] else [46])++uniP p++joinU false r
def UniAt (zs:List ByteArray) (R:List Int) (xs:List Int) (i:Nat):Prop:=i≤zs.length∧xs.length≤i * 6000∧R=xs++joinU (decide (i=0)) (zs.drop i)
theorem UniAt.next {zs:List ByteArray} {R xs:List Int} {i:Nat} (h:UniAt zs R xs i) (hi:i < zs.length) (hz:(uniP zs[i]).length≤5999):UniAt zs R (xs++(if i=0 then [] else [46])++uniP zs[i]) (i+1):=by
 obtain ⟨h1,h2,h3⟩:=h
 refine ⟨hi,?_,?_⟩
 ·rw [Nat.add_mul,List.length_append,List.length_append]
  have:(if i=0 then [] else [(46:Int)]).length≤1:=by split<;>simp
  omega
 ·rw [h3,drop_atPu hi,decide_eq_false (by omega:¬i+1=0)]
  show xs++((if decide (i=0)=true then [] else [46])++uniP zs[i]++joinU false (zs.drop (i+1)))=_
  by_cases h0:i=0
  ·simp [h0]
  ·simp [h0]
theorem UniAt.fin {zs:List ByteArray} {R xs:List Int} {i:Nat} (h:UniAt zs R xs i) (hi:¬i < zs.length):R=xs:=by
 obtain ⟨h1,h2,h3⟩:=h
 rw [h3,List.drop_eq_nil_of_le (by omega)]
 simp [joinU]
end Go.Proofs.YtpohekldddbneaaGreatDoor
namespace Go.Proofs.YtpohekldddbneaaGreatDoor
def Good (p:List Int):Prop:=∀c∈p,kindOf c=1∧c≠46
theorem kind_isS {c:Int} (h:kindOf c=1):isS c=true:=by
 rcases Bool.eq_false_or_eq_true (isS c) with g | g
 ·exact g
 ·have:kindOf c=4:=kind_barred (by unfold barred;rw [g];rfl)
  rw [this] at h;cases h
theorem Good.all {p:List Int} (h:Good p):p.all isS=true:=List.all_eq_true.2 fun c hc=>kind_isS (h c hc).1
theorem kind_tell:(List.range 128).all (fun n=>!(n==45||(decide (48≤n)&&decide (n≤57))||(decide (97≤n)&&decide (n≤122)))||(kindOf (n:Int)==1))=true:=by decide +kernel
theorem kind_digit {n:Nat} (h:n=45∨(48≤n∧n≤57)∨(97≤n∧n≤122)):kindOf (n:Int)=1:=by
 have h1:=List.all_eq_true.1 kind_tell n (List.mem_range.2 (by omega))
 have h2:(n==45||(decide (48≤n)&&decide (n≤57))||(decide (97≤n)&&decide (n≤122)))=true:=by
  rcases h with h | h | h
  ·simp [h]
  ·simp [h.1,h.2]
  ·simp [h.1,h.2]
 rw [h2] at h1
 simpa using h1
theorem enc_low {c:Int} (h0:0≤c) (h1:c≤127):encN c.toNat=[b8 c.toNat]:=by unfold encN;rw [if_pos (by omega)]
theorem fix_low {c:Int} (h0:0≤c) (h1:c≤127):fix c=c:=by unfold fix;rw [if_pos (by rw [isS_iff];omega)]
theorem text_ascii:∀{p:List Int},asciiB p=true→byteInts (textL p)=p
 | [],_=>rfl
 | c::p,h=>by
   unfold asciiB at h
   rw [List.all_cons,Bool.and_eq_true] at h
   have hc:=of_decide_eq_true h.1
   have ih:=text_ascii (p:=p) h.2
   show byteInts (encL ((c::p).map fix))=_
   have e:encL ((c::p).map fix)=b8 c.toNat::textL p:=by
    rw [List.map_cons,fix_low hc.1 hc.2]
    show (encN c.toNat)++_=_
    rw [enc_low hc.1 hc.2];rfl
   rw [e]
   show ((b8 c.toNat).toNat:Int)::byteInts (textL p)=_
   rw [ih,b8_nat _ (by omega)]
   congr 1
   omega
theorem bytes_ascii {b:List UInt8} (h:∀c∈b,c.toNat < 128):asciiB (byteInts b)=true:=by
 unfold asciiB byteInts
 rw [List.all_map,List.all_eq_true]
 intro c hc
 have:=h c hc
 simp
 omega
theorem text_bytes:∀{b:List UInt8},(∀c∈b,c.toNat < 128)→textL (byteInts b)=b
 | [],_=>rfl
 | c::b,h=>by
   have hc:=h c List.mem_cons_self
   have ih:=text_bytes (b:=b) (fun x hx=>h x (List.mem_cons_of_mem _ hx))
   show encL ((((c.toNat:Int))::byteInts b).map fix)=_
   rw [List.map_cons,fix_low (by omega) (by omega)]
   show encN ((c.toNat:Int)).toNat++textL (byteInts b)=_
   rw [enc_low (by omega) (by omega),ih,Int.toNat_natCast]
   show b8 c.toNat::b=_
   rw [b8_eq rfl]
def Told (b:List UInt8):Prop:=(∀c∈b,c.toNat < 128)∧Good (byteInts b)
theorem told_ascii {p:List Int} (hp:Good p) (ha:asciiB p=true):Told (textL p):=by
 have he:=text_ascii ha
 refine ⟨fun c hc=>?_,by rw [he];exact hp⟩
 have:(c.toNat:Int)∈byteInts (textL p):=List.mem_map.2 ⟨c,hc,rfl⟩
 rw [he] at this
 have h:=of_decide_eq_true (List.all_eq_true.1 ha _ this)
 omega
theorem told_puny {p:List Int} (hp:Good p):Told ([120,110,45,45]++enc (nats p)):=by
 have key:∀c∈[120,110,45,45]++enc (nats p),c.toNat < 128∧kindOf (c.toNat:Int)=1∧(c.toNat:Int)≠46:=by
  intro c hc
  rcases List.mem_append.1 hc with h | h
  ·have hq:c.toNat=45∨(48≤c.toNat∧c.toNat≤57)∨(97≤c.toNat∧c.toNat≤122):=by
    simp at h
    rcases h with rfl | rfl | rfl<;>decide
   exact ⟨by omega,kind_digit hq,by omega⟩
  ·unfold enc at h
   rcases List.mem_append.1 h with h | h
   ·rcases List.mem_append.1 h with h | h
    ·have hl:c.toNat∈(low (nats p)).map UInt8.toNat:=List.mem_map_of_mem h
     rw [low_nat] at hl
     obtain ⟨h1,h2⟩:=List.mem_filter.1 hl
     have h2:c.toNat < 128:=by simpa using h2
     obtain ⟨x,hx,hxe⟩:=List.mem_map.1 h1
     have hk:=hp x hx
     have:((c.toNat:Nat):Int)=x:=by rw [← hxe];exact isS_nat (kind_isS hk.1)
     rw [this]
     exact ⟨h2,hk.1,hk.2⟩
    ·split at h
     ·cases h
     ·rw [List.mem_singleton.1 h]
      exact ⟨by decide,kind_digit (.inl rfl),by decide⟩
   ·obtain ⟨d,hd,rfl⟩:=List.mem_map.1 h
    have hq:=(letter_ne d (encD_digits _ _ _ _ _ _ _ d hd)).2
    exact ⟨by omega,kind_digit (.inr (by omega)),by omega⟩
 refine ⟨fun c hc=>(key c hc).1,fun x hx=>?_⟩
 obtain ⟨c,hc,rfl⟩:=List.mem_map.1 hx
 exact (key c hc).2
theorem lab_again {p:List Int} {s:ByteArray} (hp:Good p) (h:labR p=(s,0)) (hs:s.size≤4000):Told (bytesOf s)∧labR (byteInts (bytesOf s))=(s,0):=by
 cases ha:asciiB p with
 | true =>
   have hs2:s=textB p:=by
    cases hm:markB (textL p) with
    | false=>rw [labR_plain ha hm] at h;injection h with h1 h2;exact h1.symm
    | true =>
      rw [labR_back ha hm] at h
      split at h
      ·injection h with h1 h2;exact h1.symm
      ·exact absurd (show (4:Int)=0 from congrArg Prod.snd h) (by decide)
   have hb:bytesOf s=textL p:=by rw [hs2];rfl
   rw [hb,text_ascii ha]
   exact ⟨told_ascii hp ha,h⟩
 | false =>
   have hall:=hp.all
   cases hm:markB (textL p) with
   | true=>rw [labR_mark ha hm] at h;exact absurd (show (4:Int)=0 from congrArg Prod.snd h) (by decide)
   | false =>
     have he:(encR p).2=0:=by
      rcases Classical.em ((encR p).2=0) with g | g
      ·exact g
      ·rw [labR_bad ha hm g] at h;exact absurd (congrArg Prod.snd h) g
     rw [labR_high ha hm he] at h
     injection h with h1 h2
     have hl:¬256 < p.length:=fun g=>by rw [encR_long g] at he;exact absurd he (by decide)
     have hen:encR p=(strOf (enc (nats p)),0):=encR_ok hl hall
     have hben:bytesOf (encR p).1=enc (nats p):=by rw [hen];rfl
     rw [hben] at h1
     have hb:bytesOf s=[120,110,45,45]++enc (nats p):=by rw [← h1];rfl
     have ht:=told_puny hp
     have hsz:(enc (nats p)).length+4≤4000:=by rw [← bytesOf_len,hb] at hs;simp at hs;omega
     rw [hb]
     refine ⟨ht,?_⟩
     have hti:=text_bytes ht.1
     have hmk:markB (textL (byteInts ([120,110,45,45]++enc (nats p))))=true:=by rw [hti];rfl
     rw [labR_back (bytes_ascii ht.1) hmk]
     have hdr:(textL (byteInts ([120,110,45,45]++enc (nats p)))).drop 4=enc (nats p):=by rw [hti];rfl
     rw [hdr]
     have hdec:decR (strOf (enc (nats p)))=(nats p,0):=decR_some (by rw [strOf_size];omega) (dec_enc_puny _ (by simp [nats];omega) (fun c hc=>(nats_le hall c hc).1))
     have hnm:ints (nats p)=p:=nats_map hall
     have hok:backOk (strOf (enc (nats p)))=true:=by
      refine backOk_yes ?_ ?_ ?_ ?_ ?_ ?_
      ·rw [hdec]
      ·rw [hdec,hnm];exact ha
      ·rw [hdec,hnm];exact hm
      ·rw [hdec,hnm];intro c hc;rw [kind_alike];exact (hp c hc).1
      ·rw [hdec,hnm];exact he
      ·rw [hdec,hnm,hben];exact beq_self_eq_true _
     rw [if_pos hok,← h1]
     unfold textB
     rw [hti]
def goI:List Int→List Int→List (List Int)
 | cur,[]=>[cur]
 | cur,c::r=>if c=46 then cur::goI [] r else goI (cur++[c]) r
def joinA:List UInt8→Bool→List (List Int)→ByteArray×Int
 | acc,first,[]=>finA acc
 | acc,first,p::ps=>if (labR p).2=0 then joinA (acc++dotB first++bytesOf (labR p).1) false ps else (strOf [],(labR p).2)
theorem goA_pieces:∀(r:List Int) (acc:List UInt8) (first:Bool) (cur:List Int),goA acc first cur r=joinA acc first (goI cur r)
 | [],acc,first,cur=>rfl
 | c::r,acc,first,cur=>by
   unfold goA goI
   split
   ·show _=if (labR cur).2=0 then joinA _ false (goI [] r) else _
    rw [goA_pieces r]
   ·exact goA_pieces r acc first (cur++[c])
def joinL:Bool→List (List UInt8)→List UInt8
 | first,[]=>[]
 | first,b::bs=>dotB first++b++joinL false bs
theorem joinL_cons (first:Bool) (b:List UInt8) (bs:List (List UInt8)):joinL first (b::bs)=dotB first++b++joinL false bs:=rfl
theorem joinA_ok:∀(ps:List (List Int)) (acc:List UInt8) (first:Bool),(∀p∈ps,(labR p).2=0)→joinA acc first ps=finA (acc++joinL first (ps.map fun p=>bytesOf (labR p).1))
 | [],acc,first,_=>by simp [joinA,joinL]
 | p::ps,acc,first,h=>by
   unfold joinA
   rw [if_pos (h p List.mem_cons_self),joinA_ok ps _ false (fun q hq=>h q (List.mem_cons_of_mem _ hq))]
   simp [joinL]
theorem joinA_inv:∀(ps:List (List Int)) (acc:List UInt8) (first:Bool) (s:ByteArray),joinA acc first ps=(s,0)→∀p∈ps,(labR p).2=0
 | [],acc,first,s,_=>by intro p hp;cases hp
 | q::ps,acc,first,s,h=>by
   unfold joinA at h
   split at h
   ·intro p hp
    rcases List.mem_cons.1 hp with rfl | hp
    ·assumption
    ·exact joinA_inv ps _ false s h p hp
   ·rename_i hn
    exact absurd (congrArg Prod.snd h) hn
theorem goI_mem:∀(r cur p:List Int),p∈goI cur r→∀c∈p,c∈cur∨(c∈r∧c≠46)
 | [],cur,p,h=>by
   intro c hc
   simp [goI] at h
   subst h
   exact .inl hc
 | x::r,cur,p,h=>by
   unfold goI at h
   intro c hc
   split at h
   ·rcases List.mem_cons.1 h with rfl | h
    ·exact .inl hc
    ·rcases goI_mem r [] p h c hc with g | g
     ·cases g
     ·exact .inr ⟨List.mem_cons_of_mem _ g.1,g.2⟩
   ·rename_i hx
    rcases goI_mem r (cur++[x]) p h c hc with g | g
    ·rcases List.mem_append.1 g with g | g
     ·exact .inl g
     ·rw [List.mem_singleton.1 g];exact .inr ⟨List.mem_cons_self,hx⟩
    ·exact .inr ⟨List.mem_cons_of_mem _ g.1,g.2⟩
theorem goI_good {m:List Int} (h:∀c∈m,kindOf c=1):∀p∈goI [] m,Good p:=by
 intro p hp c hc
 rcases goI_mem m [] p hp c hc with g | g
 ·cases g
 ·exact ⟨h c g.1,g.2⟩
theorem goI_some:∀(r cur:List Int),goI cur r≠[]
 | [],cur=>by simp [goI]
 | x::r,cur=>by
   unfold goI
   split
   ·simp
   ·exact goI_some r _
theorem goI_piece:∀(b cur r:List Int),(∀c∈b,c≠46)→goI cur (b++r)=goI (cur++b) r
 | [],cur,r,_=>by simp
 | x::b,cur,r,h=>by
   show (if x=46 then _ else goI (cur++[x]) (b++r))=_
   rw [if_neg (h x List.mem_cons_self),goI_piece b _ r (fun c hc=>h c (List.mem_cons_of_mem _ hc))]
   simp
theorem goI_join:∀(bs:List (List UInt8)) (b:List UInt8),(∀x∈b::bs,∀c∈byteInts x,c≠46)→goI [] (byteInts (b++joinL false bs))=(b::bs).map byteInts
 | [],b,h=>by
   show goI [] (byteInts (b++[]))=[byteInts b]
   rw [List.append_nil]
   have:=goI_piece (byteInts b) [] [] (h b List.mem_cons_self)
   rw [List.append_nil] at this
   rw [this];rfl
 | d::bs,b,h=>by
   have e:byteInts (b++joinL false (d::bs))=byteInts b++46::byteInts (d++joinL false bs):=by
    rw [joinL_cons]
    unfold byteInts dotB
    simp
   rw [e,goI_piece (byteInts b) [] _ (h b List.mem_cons_self),List.nil_append]
   show (if (46:Int)=46 then byteInts b::goI [] _ else _)=_
   rw [if_pos rfl,goI_join bs d (fun x hx=>h x (List.mem_cons_of_mem _ hx))]
   rfl
theorem join_told:∀(bs:List (List UInt8)) (first:Bool),(∀b∈bs,Told b)→∀c∈joinL first bs,c.toNat < 128∧kindOf (c.toNat:Int)=1
 | [],first,_=>by intro c hc;cases hc
 | b::bs,first,h=>by
   intro c hc
   unfold joinL at hc
   rcases List.mem_append.1 hc with hc | hc
   ·rcases List.mem_append.1 hc with hc | hc
    ·unfold dotB at hc
     split at hc
     ·cases hc
     ·rw [List.mem_singleton.1 hc]
      exact ⟨by decide,by decide +kernel⟩
    ·have ht:=h b List.mem_cons_self
     exact ⟨ht.1 c hc,(ht.2 _ (List.mem_map.2 ⟨c,hc,rfl⟩)).1⟩
   ·exact join_told bs false (fun x hx=>h x (List.mem_cons_of_mem _ hx)) c hc
theorem joinL_len:∀(bs:List (List UInt8)) (first:Bool) (b:List UInt8),b∈bs→b.length≤(joinL first bs).length
 | x::bs,first,b,h=>by
   unfold joinL
   rw [List.length_append,List.length_append]
   rcases List.mem_cons.1 h with rfl | h
   ·omega
   ·have:=joinL_len bs false b h;omega
theorem asc_inv {l:List Int} {s:ByteArray} (h:ascR l=(s,0)):∃ps:List (List Int),ps≠[]∧(∀p∈ps,Good p∧(labR p).2=0∧(labR p).1.size≤253)∧bytesOf s=joinL true (ps.map fun p=>bytesOf (labR p).1)∧s.size≤253:=by
 unfold ascR at h
 split at h
 ·exact absurd (show (11:Int)=0 from congrArg Prod.snd h) (by decide)
 ·split at h
  ·rw [goA_pieces] at h
   have hl:=joinA_inv _ _ _ _ h
   rw [joinA_ok _ _ _ hl,List.nil_append] at h
   unfold finA at h
   split at h
   ·exact absurd (show (3:Int)=0 from congrArg Prod.snd h) (by decide)
   ·rename_i hle
    have hs:strOf (joinL true ((goI [] (mapOf l)).map fun p=>bytesOf (labR p).1))=s:=congrArg Prod.fst h
    have hb:bytesOf s=joinL true ((goI [] (mapOf l)).map fun p=>bytesOf (labR p).1):=by rw [← hs];rfl
    refine ⟨goI [] (mapOf l),goI_some _ _,fun p hp=>⟨goI_good (map_valid l) p hp,hl p hp,?_⟩,hb,by rw [← bytesOf_len,hb];omega⟩
    have:=joinL_len ((goI [] (mapOf l)).map fun p=>bytesOf (labR p).1) true (bytesOf (labR p).1) (List.mem_map.2 ⟨p,hp,rfl⟩)
    rw [bytesOf_len] at this
    omega
  ·exact absurd (show (4:Int)=0 from congrArg Prod.snd h) (by decide)
theorem lab_pair {p:List Int} (h:(labR p).2=0):labR p=((labR p).1,0):=by rw [← h]
theorem asc_again {l:List Int} {s:ByteArray} (h:ascR l=(s,0)):(∀c∈bytesOf s,c.toNat < 128∧kindOf (c.toNat:Int)=1)∧ascR (byteInts (bytesOf s))=(s,0):=by
 obtain ⟨ps,hne,hp,hb,hsz⟩:=asc_inv h
 have hag:∀p∈ps,Told (bytesOf (labR p).1)∧labR (byteInts (bytesOf (labR p).1))=((labR p).1,0):=fun p hq=>lab_again (hp p hq).1 (lab_pair (hp p hq).2.1) (by have:=(hp p hq).2.2;omega)
 have hkind:∀c∈bytesOf s,c.toNat < 128∧kindOf (c.toNat:Int)=1:=by
  rw [hb]
  refine join_told _ _ ?_
  intro b hbm
  obtain ⟨p,hq,rfl⟩:=List.mem_map.1 hbm
  exact (hag p hq).1
 refine ⟨hkind,?_⟩
 have hv:∀c∈byteInts (bytesOf s),kindOf c=1:=by
  intro c hc
  obtain ⟨x,hx,rfl⟩:=List.mem_map.1 hc
  exact (hkind x hx).2
 unfold ascR
 rw [if_neg (by unfold byteInts;rw [List.length_map,bytesOf_len];omega),if_pos (fine_all (fine_of_valid hv)),map_again hv,goA_pieces]
 cases ps with
 | nil=>exact absurd rfl hne
 | cons p ps =>
   have hpieces:goI [] (byteInts (bytesOf s))=(p::ps).map fun p=>byteInts (bytesOf (labR p).1):=by
    rw [hb]
    show goI [] (byteInts (dotB true++bytesOf (labR p).1++joinL false (ps.map fun p=>bytesOf (labR p).1)))=_
    have e:dotB true++bytesOf (labR p).1=bytesOf (labR p).1:=rfl
    rw [e,goI_join (ps.map fun p=>bytesOf (labR p).1) (bytesOf (labR p).1) ?_]
    ·simp
    ·intro x hx c hc
     have:∃q∈p::ps,bytesOf (labR q).1=x:=by
      rcases List.mem_cons.1 hx with rfl | hx
      ·exact ⟨p,List.mem_cons_self,rfl⟩
      ·obtain ⟨q,hq,rfl⟩:=List.mem_map.1 hx
       exact ⟨q,List.mem_cons_of_mem _ hq,rfl⟩
     obtain ⟨q,hq,rfl⟩:=this
     exact ((hag q hq).1.2 c hc).2
   rw [hpieces,joinA_ok _ _ _ ?_,List.nil_append]
   ·have e:((p::ps).map fun p=>byteInts (bytesOf (labR p).1)).map (fun p=>bytesOf (labR p).1)=(p::ps).map fun p=>bytesOf (labR p).1:=by
     rw [List.map_map]
     refine List.map_congr_left fun q hq=>?_
     simp only [Function.comp]
     rw [(hag q hq).2]
    rw [e,← hb]
    unfold finA
    rw [if_neg (by rw [bytesOf_len];omega)]
    rfl
   ·intro q hq
    obtain ⟨r,hr,rfl⟩:=List.mem_map.1 hq
    rw [(hag r hr).2]
def digA (c:UInt8):Prop:=(48≤c.toNat∧c.toNat≤57)∨c.toNat=97
theorem digA_kind {c:UInt8} (h:digA c):kindOf (c.toNat:Int)=1:=kind_digit (by rcases h with h | h<;>omega)
theorem digA_low {c:UInt8} (h:digA c):c.toNat < 128:=by rcases h with h | h<;>omega
theorem mark_dig {x:List UInt8} (h:∀c∈x,digA c):markB x=false:=by
 match x,h with
 | [],_=>rfl
 | c::r,h =>
   have hc:=h c List.mem_cons_self
   have:c≠120:=fun e=>by rw [e] at hc;rcases hc with h | h<;>revert h<;>decide
   unfold markB
   rw [beq_eq_false_iff_ne]
   intro e
   have e1:=congrArg List.head? e
   simp at e1
   exact this e1
theorem lab_dig {x:List UInt8} (h:∀c∈x,digA c):labR (byteInts x)=(strOf x,0):=by
 have ha:=bytes_ascii (b:=x) (fun c hc=>digA_low (h c hc))
 have ht:=text_bytes (b:=x) (fun c hc=>digA_low (h c hc))
 rw [labR_plain ha (by rw [ht];exact mark_dig h)]
 unfold textB
 rw [ht]
theorem joinL_kind:∀(bs:List (List UInt8)),(∀x∈bs,∀c∈x,digA c)→∀c∈joinL false bs,kindOf (c.toNat:Int)=1
 | [],_=>by intro c hc;cases hc
 | b::bs,h=>by
   intro c hc
   unfold joinL at hc
   rcases List.mem_append.1 hc with hc | hc
   ·rcases List.mem_append.1 hc with hc | hc
    ·have:c=46:=by simpa [dotB] using hc
     rw [this]
     decide +kernel
    ·exact digA_kind (h b List.mem_cons_self c hc)
   ·exact joinL_kind bs (fun x hx=>h x (List.mem_cons_of_mem _ hx)) c hc
theorem asc_labels (b:List UInt8) (bs:List (List UInt8)) (h:∀x∈b::bs,∀c∈x,digA c) (hl:(b++joinL false bs).length≤253):ascR (byteInts (b++joinL false bs))=(strOf (b++joinL false bs),0):=by
 have hv:∀c∈byteInts (b++joinL false bs),kindOf c=1:=by
  intro c hc
  obtain ⟨x,hx,rfl⟩:=List.mem_map.1 hc
  rcases List.mem_append.1 hx with hx | hx
  ·exact digA_kind (h b List.mem_cons_self x hx)
  ·exact joinL_kind bs (fun x hx=>h x (List.mem_cons_of_mem _ hx)) x hx
 unfold ascR
 rw [if_neg (by unfold byteInts;rw [List.length_map];omega),if_pos (fine_all (fine_of_valid hv)),map_again hv,goA_pieces,goI_join bs b ?_,joinA_ok _ _ _ ?_,List.nil_append]
 ·have e:((b::bs).map byteInts).map (fun p=>bytesOf (labR p).1)=b::bs:=by
   rw [List.map_map]
   conv=>rhs;rw [← List.map_id (b::bs)]
   refine List.map_congr_left fun q hq=>?_
   simp only [Function.comp]
   rw [lab_dig (h q hq)]
   rfl
  rw [e]
  have e2:joinL true (b::bs)=b++joinL false bs:=rfl
  rw [e2]
  unfold finA
  rw [if_neg (by omega)]
 ·intro p hp
  obtain ⟨q,hq,rfl⟩:=List.mem_map.1 hp
  rw [lab_dig (h q hq)]
 ·intro x hx c hc
  obtain ⟨y,hy,rfl⟩:=List.mem_map.1 hc
  have:=h x hx y hy
  rcases this with h | h<;>omega
theorem byte_lt' (c:UInt8):c.toNat < 256:=c.toNat_lt
theorem any_none {p:UInt8→Bool} {l:List UInt8} (h:∀c∈l,p c=false):l.any p=false:=by
 rw [List.any_eq_false]
 intro c hc
 rw [h c hc]
 decide
theorem any_none' {p:UInt8→Bool} {l:List UInt8} (h:l.any p=false):∀c∈l,p c=false:=by
 intro c hc
 rw [List.any_eq_false] at h
 simpa using h c hc
theorem un_none:∀(f:Nat) (l:List UInt8),(∀c∈l,c≠37)→unF f l=l
 | 0,l,_=>rfl
 | f+1,[],_=>rfl
 | f+1,c::r,h=>by
   have ih:=un_none f r (fun x hx=>h x (List.mem_cons_of_mem _ hx))
   conv=>lhs;unfold unF
   rw [if_neg (h c List.mem_cons_self),ih]
theorem next_low {x:UInt8} (h:x.toNat < 128) (r:List UInt8):nextN (x::r)=(x.toNat,1,true):=by
 have q:encN x.toNat=[x]:=by
  have e:=enc_low (c:=(x.toNat:Int)) (by omega) (by omega)
  rw [Int.toNat_natCast] at e
  rw [e]
  unfold b8
  rw [UInt8.ofNat_toNat]
 have e:=next_enc x.toNat r (by rw [isS_iff];omega)
 rw [q] at e
 exact e
theorem lossy_low:∀(l:List UInt8),(∀c∈l,c.toNat < 128)→lossyL l=byteInts l
 | [],_=>rfl
 | x::r,h=>by
   rw [lossy_cons (by simp),next_low (h x List.mem_cons_self) r]
   show (x.toNat:Int)::lossyL ((x::r).drop 1)=_
   rw [List.drop_one,List.tail_cons,lossy_low r (fun c hc=>h c (List.mem_cons_of_mem _ hc))]
   rfl
theorem asked_low {l:List UInt8} (h37:∀c∈l,c≠37) (hl:∀c∈l,c.toNat < 128):askedR l=ascR (byteInts l):=by
 unfold askedR unR
 rw [un_none _ _ h37,lossy_low _ hl]
theorem encR_pos (l:List Int):0≤(encR l).2:=by
 unfold encR
 split
 ·decide
 ·split<;>simp
theorem labR_pos (l:List Int):0≤(labR l).2:=by
 unfold labR
 split
 ·split
  ·simp
  ·split
   ·simp
   ·exact encR_pos l
 ·split
  ·simp
  ·split<;>simp
theorem joinA_pos:∀(ps:List (List Int)) (acc:List UInt8) (first:Bool),0≤(joinA acc first ps).2
 | [],acc,first=>by unfold joinA finA;split<;>simp
 | p::ps,acc,first=>by
   unfold joinA
   split
   ·exact joinA_pos ps _ false
   ·exact labR_pos p
theorem ascR_pos (l:List Int):0≤(ascR l).2:=by
 unfold ascR
 split
 ·simp
 ·split
  ·rw [goA_pieces]
   exact joinA_pos _ _ _
  ·simp
theorem bad_sign:(List.range 256).all (fun n=>(!(lowB (UInt8.ofNat n))||!(n==46||(decide (48≤n)&&decide (n≤57))||n==97))&&(!(badB (UInt8.ofNat n))||!(n==46||(decide (48≤n)&&decide (n≤57))||n==97))&&(!(digB 10 (UInt8.ofNat n))||(decide (48≤n)&&decide (n≤57)))&&(!(digB 16 (UInt8.ofNat n))||(n != 93&&n != 91)))=true:=by decide +kernel
theorem bad_at (c:UInt8):((!(lowB c)||!(c.toNat==46||(decide (48≤c.toNat)&&decide (c.toNat≤57))||c.toNat==97))&&(!(badB c)||!(c.toNat==46||(decide (48≤c.toNat)&&decide (c.toNat≤57))||c.toNat==97))&&(!(digB 10 c)||(decide (48≤c.toNat)&&decide (c.toNat≤57)))&&(!(digB 16 c)||(c.toNat != 93&&c.toNat != 91)))=true:=by
 have h:=List.all_eq_true.1 bad_sign c.toNat (List.mem_range.2 (byte_lt' c))
 rw [UInt8.ofNat_toNat] at h
 exact h
def numB (c:UInt8):Prop:=c.toNat=46∨(48≤c.toNat∧c.toNat≤57)∨c.toNat=97
theorem numB_fine {c:UInt8} (h:numB c):lowB c=false∧badB c=false:=by
 have e:=bad_at c
 have hb:(c.toNat==46||(decide (48≤c.toNat)&&decide (c.toNat≤57))||c.toNat==97)=true:=by
  rcases h with h | ⟨h1,h2⟩ | h
  ·simp [h]
  ·simp [h1,h2]
  ·simp [h]
 rw [hb] at e
 cases h1:lowB c<;>cases h2:badB c<;>simp_all
theorem dig10 {c:UInt8} (h:digB 10 c=true):48≤c.toNat∧c.toNat≤57:=by
 have e:=bad_at c
 rw [h] at e
 simp only [Bool.not_true,Bool.false_or,Bool.and_eq_true,decide_eq_true_eq] at e
 exact e.1.2
theorem dig16 {c:UInt8} (h:digB 16 c=true):c≠93:=by
 have e:=bad_at c
 rw [h] at e
 intro he
 subst he
 revert e
 decide
theorem digs_memHq {b:Nat} {l:List UInt8} (h:digsR b l=true):∀c∈l,digB b c=true:=fun c hc=>List.all_eq_true.1 h c hc
theorem dec_digs {n:Nat} (h:n < 18446744073709551616):∀c∈digsOf 10 n,48≤c.toNat∧c.toNat≤57:=fun c hc=>dig10 (digs_memHq (digsOf_facts (b:=10) (by decide) (by decide) h).2.1 c hc)
theorem joinC_mem {sep:UInt8}:∀(ps:List (List UInt8)) (c:UInt8),c∈joinC sep ps→c=sep∨∃p∈ps,c∈p
 | [],c,h=>by cases h
 | [p],c,h=>.inr ⟨p,List.mem_cons_self,h⟩
 | p::q::r,c,h=>by
   rw [joinC_cons sep p (by simp)] at h
   rcases List.mem_append.1 h with h | h
   ·exact .inr ⟨p,List.mem_cons_self,h⟩
   ·rcases List.mem_cons.1 h with h | h
    ·exact .inl h
    ·rcases joinC_mem (q::r) c h with h | ⟨x,hx,h⟩
     ·exact .inl h
     ·exact .inr ⟨x,List.mem_cons_of_mem _ hx,h⟩
theorem pcs_mem {p:List Nat} (h:∀x∈p,x < 65536):∀c∈joinC 58 (pcs p),c≠93:=by
 intro c hc
 rcases joinC_mem _ c hc with hc | ⟨x,hx,hc⟩
 ·rw [hc];decide
 ·obtain ⟨n,hn,rfl⟩:=List.mem_map.1 hx
  exact dig16 (digs_memHq (digsOf_facts (b:=16) (by decide) (by decide) (by have:=h n hn;omega)).2.1 c hc)
theorem print6_mem {p:List Nat} (h:∀x∈p,x < 65536):∀c∈print6R p,c≠93:=by
 intro c hc
 unfold print6R at hc
 split at hc
 ·exact pcs_mem h c hc
 ·rcases List.mem_append.1 hc with hc | hc
  ·exact pcs_mem (fun x hx=>h x (List.mem_of_mem_take hx)) c hc
  ·rcases List.mem_cons.1 hc with hc | hc
   ·rw [hc];decide
   ·rcases List.mem_cons.1 hc with hc | hc
    ·rw [hc];decide
    ·exact pcs_mem (fun x hx=>h x (List.mem_of_mem_drop hx)) c hc
theorem six_text {p:List Nat} (hl:p.length=8) (h:∀x∈p,x < 65536) (sp:Bool):hostR (91::(print6R p++[93])) sp=((3,[],0,p),0):=by
 have h82:=print6_len hl h
 unfold hostR
 rw [if_neg (by simp;omega),if_pos List.head?_cons]
 unfold bracketR
 rw [if_neg]
 ·rw [List.tail_cons,List.dropLast_concat,back6 hl h]
  rfl
 ·rintro (e | e)
  ·apply e
   rw [← List.cons_append,List.getLast?_concat]
  ·simp at e
theorem six_open {p:List Nat} (hl:p.length=8) (h:∀x∈p,x < 65536) (sp:Bool):hostR (91::print6R p) sp=(host0,4):=by
 have h82:=print6_len hl h
 unfold hostR
 rw [if_neg (by simp;omega),if_pos List.head?_cons]
 unfold bracketR
 rw [if_pos]
 left
 intro e
 have hm:(93:UInt8)∈91::print6R p:=List.mem_of_getLast? e
 rcases List.mem_cons.1 hm with hm | hm
 ·revert hm;decide
 ·exact print6_mem h 93 hm rfl
theorem special_again {t:List UInt8} (hp:∀c∈t,lowB c=false∧badB c=false) (hl:∀c∈t,c.toNat < 128) (h4:t.length≤4000) (ha:ascR (byteInts t)=(strOf t,0)):hostR t true=nameR t:=by
 have h91:t.head? ≠ some 91:=by
  intro e
  have:=(hp 91 (List.mem_of_mem_head? e)).2
  revert this
  decide
 have h37:∀c∈t,c≠37:=by
  intro c hc e
  subst e
  have:=(hp 37 hc).1
  revert this
  decide
 unfold hostR
 rw [if_neg (by omega),if_neg h91,if_pos rfl]
 unfold specialR
 rw [asked_low h37 hl,ha,if_pos rfl]
 rfl
theorem asc_nums (b:List UInt8) (bs:List (List UInt8)) (h:∀x∈b::bs,∀c∈x,digA c) (hl:(b++joinL false bs).length≤253):hostR (b++joinL false bs) true=nameR (b++joinL false bs):=by
 have hm:∀c∈b++joinL false bs,numB c:=by
  intro c hc
  have hj:∀(bs:List (List UInt8)),(∀x∈bs,∀c∈x,digA c)→∀c∈joinL false bs,numB c:=by
   intro bs
   induction bs with
   | nil=>intro _ c hc;cases hc
   | cons q r ih =>
     intro h c hc
     rw [joinL_cons] at hc
     rcases List.mem_append.1 hc with hc | hc
     ·rcases List.mem_append.1 hc with hc | hc
      ·have:c=46:=by simpa [dotB] using hc
       rw [this];exact .inl rfl
      ·exact .inr (h q List.mem_cons_self c hc)
     ·exact ih (fun x hx=>h x (List.mem_cons_of_mem _ hx)) c hc
  rcases List.mem_append.1 hc with hc | hc
  ·exact .inr (h b List.mem_cons_self c hc)
  ·exact hj bs (fun x hx=>h x (List.mem_cons_of_mem _ hx)) c hc
 exact special_again (fun c hc=>numB_fine (hm c hc)) (fun c hc=>by rcases hm c hc with h | h | h<;>omega) (by omega) (asc_labels b bs h hl)
theorem nameR_num {t:List UInt8} (h0:t≠[]) (hp:∀c∈t,lowB c=false∧badB c=false) (he:endsR t=true):nameR t=fourH (parse4R t):=by
 unfold nameR
 rw [if_neg h0,if_neg,if_pos he]
 rw [any_none (fun c hc=>(hp c hc).1),any_none (fun c hc=>(hp c hc).2)]
 decide
theorem print4_join (n:Nat):print4R n=digsOf 10 (n/16777216)++joinL false [digsOf 10 (n/65536%256),digsOf 10 (n/256%256),digsOf 10 (n%256)]:=by
 simp [print4R,joinC,joinL,dotB]
theorem print4_mem {n:Nat} (h:n < 4294967296):∀c∈print4R n,numB c:=by
 intro c hc
 rcases joinC_mem _ c hc with hc | ⟨x,hx,hc⟩
 ·rw [hc];exact .inl rfl
 ·simp only [List.mem_cons,List.not_mem_nil,or_false] at hx
  rcases hx with rfl | rfl | rfl | rfl<;>exact .inr (.inl (dec_digs (by omega) c hc))
theorem print4_ne {n:Nat} (h:n < 4294967296):print4R n≠[]:=by
 rw [print4_join]
 intro e
 exact dec_ne (n:=n/16777216) (by omega) (List.append_eq_nil_iff.1 e).1
theorem four_text {n:Nat} (h:n < 4294967296):hostR (print4R n) true=((2,[],n,z8),0):=by
 have hl:=print4_len h
 rw [print4_join] at hl ⊢
 rw [asc_nums _ _ ?_ (by omega),← print4_join,nameR_num (print4_ne h) (fun c hc=>numB_fine (print4_mem h c hc)) (print4_ends h),back4 h]
 ·rfl
 ·intro x hx c hc
  simp only [List.mem_cons,List.not_mem_nil,or_false] at hx
  rcases hx with rfl | rfl | rfl | rfl<;>exact .inl (dec_digs (by omega) c hc)
theorem split_six {n:Nat} (h:n < 4294967296):partsR (joinC 46 [[97],digsOf 10 (n/16777216),digsOf 10 (n/65536%256),digsOf 10 (n/256%256),digsOf 10 (n%256),[48]])=[[97],digsOf 10 (n/16777216),digsOf 10 (n/65536%256),digsOf 10 (n/256%256),digsOf 10 (n%256),[48]]:=by
 refine parts_of (split_join _ (by simp) ?_) (.inr (by simp))
 intro x hx
 simp only [List.mem_cons,List.not_mem_nil,or_false] at hx
 rcases hx with rfl | rfl | rfl | rfl | rfl | rfl
 ·decide
 ·exact dec_free (by omega)
 ·exact dec_free (by omega)
 ·exact dec_free (by omega)
 ·exact dec_free (by omega)
 ·decide
theorem none_text {n:Nat} (h:n < 4294967296):hostR ([97,46]++print4R n++[46,48]) true=(host0,4):=by
 have hl:=print4_len h
 have e:[97,46]++print4R n++[46,48]=[97]++joinL false [digsOf 10 (n/16777216),digsOf 10 (n/65536%256),digsOf 10 (n/256%256),digsOf 10 (n%256),[48]]:=by
  rw [print4_join]
  simp [joinL,dotB]
 have e2:[97,46]++print4R n++[46,48]=joinC 46 [[97],digsOf 10 (n/16777216),digsOf 10 (n/65536%256),digsOf 10 (n/256%256),digsOf 10 (n%256),[48]]:=by
  rw [print4_join]
  simp [joinC,joinL,dotB]
 have hs:=split_six h
 rw [← e2] at hs
 have hend:endsR ([97,46]++print4R n++[46,48])=true:=by
  have hlast:lastR ([97,46]++print4R n++[46,48])=[48]:=by
   unfold lastR
   rw [hs]
   rfl
  unfold endsR
  rw [if_neg,hlast]
  ·decide
  ·rintro ⟨h1,_⟩
   rw [hs] at h1
   cases h1
 have hp4:parse4R ([97,46]++print4R n++[46,48])=(0,4):=by
  unfold parse4R
  rw [if_neg (by simp;omega),hs,if_pos (by simp)]
 have hmem:∀c∈[97,46]++print4R n++[46,48],numB c:=by
  intro c hc
  rcases List.mem_append.1 hc with hc | hc
  ·rcases List.mem_append.1 hc with hc | hc
   ·simp only [List.mem_cons,List.not_mem_nil,or_false] at hc
    rcases hc with rfl | rfl
    ·exact .inr (.inr rfl)
    ·exact .inl rfl
   ·exact print4_mem h c hc
  ·simp only [List.mem_cons,List.not_mem_nil,or_false] at hc
   rcases hc with rfl | rfl
   ·exact .inl rfl
   ·exact .inr (.inl (by decide))
 have hh:hostR ([97,46]++print4R n++[46,48]) true=nameR ([97,46]++print4R n++[46,48]):=by
  rw [e]
  refine asc_nums _ _ ?_ (by rw [← e];simp;omega)
  intro x hx c hc
  simp only [List.mem_cons,List.not_mem_nil,or_false] at hx
  rcases hx with rfl | rfl | rfl | rfl | rfl | rfl
  ·right;simp at hc;rw [hc];rfl
  ·exact .inl (dec_digs (by omega) c hc)
  ·exact .inl (dec_digs (by omega) c hc)
  ·exact .inl (dec_digs (by omega) c hc)
  ·exact .inl (dec_digs (by omega) c hc)
  ·left;simp at hc;rw [hc];decide
 rw [hh,nameR_num (by simp) (fun c hc=>numB_fine (hmem c hc)) hend,hp4]
 rfl
theorem enc_sign:(List.range 256).all (fun n=>badB (UInt8.ofNat n)||(encP 1 (UInt8.ofNat n)).all (fun c=>!(badB c)&&(encP 1 c==[c])))=true:=by decide +kernel
theorem enc_at {c:UInt8} (h:badB c=false):∀x∈encP 1 c,badB x=false∧encP 1 x=[x]:=by
 have e:=List.all_eq_true.1 enc_sign c.toNat (List.mem_range.2 (byte_lt' c))
 rw [UInt8.ofNat_toNat,h,Bool.false_or] at e
 intro x hx
 have:=List.all_eq_true.1 e x hx
 simpa using this
theorem pct_again:∀(l:List UInt8),(∀x∈l,encP 1 x=[x])→pctR 1 l=l
 | [],_=>rfl
 | c::r,h=>by
   rw [pctR_cons,h c List.mem_cons_self,pct_again r (fun x hx=>h x (List.mem_cons_of_mem _ hx))]
   rfl
theorem pct_mem {l:List UInt8} (h:∀c∈l,badB c=false):∀x∈pctR 1 l,badB x=false∧encP 1 x=[x]:=by
 intro x hx
 unfold pctR at hx
 obtain ⟨c,hc,hx⟩:=List.mem_flatMap.1 hx
 exact enc_at (h c hc) x hx
theorem pct_ne {l:List UInt8} (h:l≠[]):pctR 1 l≠[]:=by
 match l,h with
 | c::r,_ =>
   rw [pctR_cons]
   unfold encP
   split
   ·simp
   ·split<;>simp
theorem dark_again {l:List UInt8} (hb:l.any badB=false) (h0:l≠[]) (h4:(pctR 1 l).length≤4000):hostR (pctR 1 l) false=((4,pctR 1 l,0,z8),0):=by
 have hm:=pct_mem (any_none' hb)
 have h91:(pctR 1 l).head? ≠ some 91:=by
  intro e
  have:=(hm 91 (List.mem_of_mem_head? e)).1
  revert this
  decide
 unfold hostR
 rw [if_neg (by omega),if_neg h91,if_neg (by decide)]
 unfold darkR
 rw [any_none (fun c hc=>(hm c hc).1),if_neg (by decide),if_neg (pct_ne h0),pct_again _ (fun x hx=>(hm x hx).2)]
theorem host_back {l:List UInt8} {sp:Bool} {h:HostN} (he:hostR l sp=(h,0)) (hl:(printR h).length≤4000) :
 hostR (printR h) sp=(h,0)∧hostR (printR h) (h.1==1||h.1==2)=(h,0)∧0≤h.1∧h.1≤4∧(sp=true→1≤h.1∧h.1≤3)∧(sp=false→h.1≠1∧h.1≠2):=by
 unfold hostR at he
 split at he
 ·cases congrArg Prod.snd he
 ·split at he
  ·unfold bracketR at he
   split at he
   ·cases congrArg Prod.snd he
   ·have hf:=parse6_fine l.tail.dropLast
    unfold sixH at he
    split at he
    ·obtain rfl:((3,[],0,(parse6R l.tail.dropLast).1):HostN)=h:=congrArg Prod.fst he
     have e:printR (3,[],0,(parse6R l.tail.dropLast).1)=91::(print6R (parse6R l.tail.dropLast).1++[93]):=rfl
     rw [e]
     exact ⟨six_text hf.1 hf.2.1 sp,six_text hf.1 hf.2.1 _,by simp,by simp,fun _=>by simp,fun _=>by simp⟩
    ·rename_i hne
     exact absurd (congrArg Prod.snd he) hne
  ·split at he
   ·rename_i hsp
    subst hsp
    unfold specialR at he
    split at he
    ·rename_i hz
     have ha:askedR l=((askedR l).1,0):=by rw [← hz]
     generalize (askedR l).1=s at ha he
     obtain ⟨h1,h2⟩:=asc_again ha
     unfold nameR at he
     split at he
     ·cases congrArg Prod.snd he
     ·split at he
      ·cases congrArg Prod.snd he
      ·rename_i h0 hany
       have hany':((bytesOf s).any lowB||(bytesOf s).any badB)=false:=by simpa using hany
       rw [Bool.or_eq_false_iff] at hany'
       split at he
       ·unfold fourH at he
        split at he
        ·obtain rfl:((2,[],(parse4R (bytesOf s)).1,z8):HostN)=h:=congrArg Prod.fst he
         have e:printR (2,[],(parse4R (bytesOf s)).1,z8)=print4R (parse4R (bytesOf s)).1:=rfl
         rw [e]
         exact ⟨four_text (parse4_lt _).1,four_text (parse4_lt _).1,by simp,by simp,fun _=>by simp,fun e=>absurd e (by decide)⟩
        ·rename_i hne
         exact absurd (congrArg Prod.snd he) hne
       ·obtain rfl:((1,bytesOf s,0,z8):HostN)=h:=congrArg Prod.fst he
        have e:printR (1,bytesOf s,0,z8)=bytesOf s:=rfl
        rw [e] at hl ⊢
        have hs:(strOf (bytesOf s))=s:=rfl
        have hr:=special_again (t:=bytesOf s) (fun c hc=>⟨any_none' hany'.1 c hc,any_none' hany'.2 c hc⟩) (fun c hc=>(h1 c hc).1) hl (by rw [hs];exact h2)
        have hn:nameR (bytesOf s)=((1,bytesOf s,0,z8),0):=by
         unfold nameR
         rename_i hends
         rw [if_neg h0,if_neg hany,if_neg hends]
        exact ⟨hr.trans hn,hr.trans hn,by simp,by simp,fun _=>by simp,fun e=>absurd e (by decide)⟩
    ·rename_i hne
     have hp:=ascR_pos (lossyL (unR l))
     have:((askedR l).2.toNat)=0:=congrArg Prod.snd he
     unfold askedR at this hne
     omega
   ·rename_i hsp
    have hsp':sp=false:=by simpa using hsp
    subst hsp'
    unfold darkR at he
    split at he
    ·cases congrArg Prod.snd he
    ·rename_i hany
     have hany':l.any badB=false:=by simpa using hany
     split at he
     ·obtain rfl:host0=h:=congrArg Prod.fst he
      exact ⟨rfl,rfl,by decide,by decide,fun e=>absurd e (by decide),fun _=>by decide⟩
     ·rename_i h0
      obtain rfl:((4,pctR 1 l,0,z8):HostN)=h:=congrArg Prod.fst he
      have e:printR (4,pctR 1 l,0,z8)=pctR 1 l:=rfl
      rw [e] at hl ⊢
      exact ⟨dark_again hany' h0 hl,dark_again hany' h0 hl,by simp,by simp,fun e=>absurd e (by decide),fun _=>by simp⟩
theorem host_err {l:List UInt8} {sp:Bool} (h:(hostR l sp).2≠0):(hostR l sp).1=host0:=by
 revert h
 unfold hostR
 split
 ·intro _;rfl
 ·split
  ·unfold bracketR
   split
   ·intro _;rfl
   ·unfold sixH
    split
    ·intro h;exact absurd rfl h
    ·intro _;rfl
  ·split
   ·unfold specialR
    split
    ·unfold nameR
     split
     ·intro _;rfl
     ·split
      ·intro _;rfl
      ·split
       ·unfold fourH
        split
        ·intro h;exact absurd rfl h
        ·intro _;rfl
       ·intro h;exact absurd rfl h
    ·intro _;rfl
   ·unfold darkR
    split
    ·intro _;rfl
    ·split
     ·intro h;exact absurd rfl h
     ·intro h;exact absurd rfl h
theorem may_back {l:List UInt8} {sp:Bool} {h:HostN} (he:hostR l sp=(h,0)) (hl:(printR h).length≤4000):mayR h=true:=by
 unfold mayR
 rw [(host_back he hl).2.1]
 simp
theorem may_same {g h:HostN} (hg:mayR g=true) (hh:mayR h=true) (hk:g.1=h.1) (hp:printR g=printR h):g=h:=by
 unfold mayR at hg hh
 simp only [Bool.and_eq_true,beq_iff_eq] at hg hh
 rw [← hg.2,← hh.2,hp,hk]
theorem host_first1:hostR [69,88,65,77,80,76,69,46,99,111,109] true=((1,[101,120,97,109,112,108,101,46,99,111,109],0,z8),0):=by decide +kernel
theorem host_first2:hostR [49,46,50,46,51] true=((2,[],16908291,z8),0):=by decide +kernel
theorem host_first3:hostR [97,32,98] true=(host0,4):=by decide +kernel
end Go.Proofs.YtpohekldddbneaaGreatDoor
namespace Go.Proofs.YtpohekldddbneaaGreatDoor
open Go.RowKit
theorem iplain_calls (v:Value) (l:List Int) (w:World) (hv:IRow w v l) :
 Calls Tryz.prog 102 #[v] w fun e w'=>e=.returned (.bool (asciiB l))∧w'=w:=by
 have HV:=hid hv
 obtain ⟨a,cap,rfl,h1,h2,h3⟩:=hv
 unfold maxLen at h2
 have l2:(l.length:Int)≤(cap:Int):=by omega
 have l3:(cap:Int)≤9223372036854775807:=by omega
 obtain ⟨R,hR⟩:∃R,R=asciiB l:=⟨_,rfl⟩
 rw [← hR]
 have HR:=hid hR
 clear h1 h2 h3 hR
 go_enter Tryz.func102,Tryz.ntmps102
 go_wp2_with fail
 go_loop [7] (fun vi=>∃k:Nat,k≤l.length∧vi=.int .i64 (k:Int)∧asciiB (l.take k)=true) (fun vi=>l.length-(intOf vi).toNat)
 case atStart=>exact ⟨0,Nat.zero_le _,rfl,rfl⟩
 case round =>
  obtain ⟨k,hk,rfl,hall⟩:=hrel
  have HA:=hid hall
  have k0:(0:Int)≤(k:Int):=by omega
  clear hall
  by_cases hlt:k < l.length
  ·obtain ⟨b,off,rfl,hck⟩:=HV.out.open (Below.refl _ _) k hlt
   have k1:(k:Int) < (l.length:Int):=by omega
   have HS:=hid (ascii_snoc l k hlt)
   have HN:=hid (ascii_not l k hlt)
   have HK:=hid hlt
   generalize l[k]=c at *
   clear hlt hk
   by_cases h0:c < 0
   ·have HF:Hid (R=false):=by show _=_;rw [HR.out];exact HN.out (by omega)
    clear HS HN
    go_wp2_with fail
    go_ret
    exact ⟨by rw [HF.out];rfl,rfl⟩
   ·by_cases h1:128≤c
    ·have HF:Hid (R=false):=by show _=_;rw [HR.out];exact HN.out (by omega)
     clear HS HN
     go_wp2_with fail
     go_ret
     exact ⟨by rw [HF.out];rfl,rfl⟩
    ·have HX:Hid (asciiB (l.take (k+1))=true):=by show _=_;rw [HS.out,HA.out,decide_eq_true (by omega)];rfl
     clear HS HN
     go_wp2_with fail
     go_round
     case rel=>exact ⟨k+1,HK.out,by go_num,HX.out⟩
     case measure=>have:=HK.out;simp [intOf];omega
  ·have hkl:k=l.length:=by omega
   have HF:Hid (R=true):=by show _=_;rw [HR.out,← HA.out,hkl,List.take_length]
   have g:¬(k:Int) < (l.length:Int):=by omega
   clear hlt hk hkl
   go_wp2_with fail
   go_ret
   exact ⟨by rw [HF.out];rfl,rfl⟩
def validB (l:List Int):Bool:=l.all fun c=>kindOf c==1
theorem valid_take (l:List Int) (k:Nat) (h:k < l.length) (h1:∀c∈l.take k,kindOf c=1) (h2:kindOf l[k]=1):∀c∈l.take (k+1),kindOf c=1:=by
 intro c hc
 rw [List.take_succ_eq_append_getElem h] at hc
 rcases List.mem_append.1 hc with g | g
 ·exact h1 c g
 ·rw [List.mem_singleton.1 g];exact h2
theorem valid_not (l:List Int) (k:Nat) (h:k < l.length) (hn:kindOf l[k]≠1):validB l=false:=by
 unfold validB
 rw [List.all_eq_false]
 exact ⟨l[k],List.getElem_mem h,by simpa using hn⟩
theorem ivalid_calls (v:Value) (l:List Int) (w:World) (hv:IRow w v l) :
 Calls Tryz.prog 145 #[v] w fun e w'=>e=.returned (.bool (validB l))∧Below w.heap.size w w':=by
 have HV:=hid hv
 obtain ⟨a,cap,rfl,h1,h2,h3⟩:=hv
 unfold maxLen at h2
 have l2:(l.length:Int)≤(cap:Int):=by omega
 have l3:(cap:Int)≤9223372036854775807:=by omega
 obtain ⟨R,hR⟩:∃R,R=validB l:=⟨_,rfl⟩
 rw [← hR]
 have HR:=hid hR
 clear h1 h2 h3 hR
 go_enter Tryz.func145,Tryz.ntmps145
 go_wp2_with fail
 go_loopw [7] (fun vi wr=>∃k:Nat,k≤l.length∧vi=.int .i64 (k:Int)∧Below w.heap.size w wr∧∀c∈l.take k,kindOf c=1) (fun vi _=>l.length-(intOf vi).toNat)
 case atStart=>exact ⟨0,Nat.zero_le _,rfl,Below.refl _ _,by simp⟩
 case round =>
  obtain ⟨k,hk,rfl,hb,hall⟩:=hrel
  have HA:=hid hall
  have HB:=hid hb
  have k0:(0:Int)≤(k:Int):=by omega
  clear hall hb
  by_cases hlt:k < l.length
  ·obtain ⟨b,off,rfl,hck⟩:=HV.out.open HB.out k hlt
   have k1:(k:Int) < (l.length:Int):=by omega
   have HS:=hid (valid_take l k hlt HA.out)
   have HN:=hid (valid_not l k hlt)
   have HK:=hid hlt
   generalize l[k]=c at *
   clear hlt hk
   go_wp2_with fail
   refine (kind_calls c _).mono ?_
   rintro e w8 ⟨rfl,hb8⟩
   have HB8:=hid (below_trans HB.out hb8)
   clear hb8
   generalize kindOf c=kc at *
   by_cases h1:kc=1
   ·subst h1
    have HX:=hid (HS.out rfl)
    go_wp2_with fail
    go_roundw
    case rel=>exact ⟨k+1,HK.out,by go_num,HB8.out,HX.out⟩
    case measure=>have:=HK.out;simp [intOf];omega
   ·have HX:Hid (R=false):=by show _=_;rw [HR.out];exact HN.out h1
    have q1:(kc==1)=false:=by rw [beq_eq_false_iff_ne];exact h1
    have q2:(kc != 1)=true:=by rw [bne_iff_ne];exact h1
    clear h1
    go_wp2_with fail
    go_ret
    exact ⟨by rw [HX.out];rfl,HB8.out⟩
  ·have hkl:k=l.length:=by omega
   have HF:Hid (R=true):=by
    show _=_
    rw [HR.out]
    unfold validB
    rw [List.all_eq_true]
    intro c hc
    have h:=HA.out
    rw [hkl,List.take_length] at h
    simpa using h c hc
   have g:¬(k:Int) < (l.length:Int):=by omega
   clear hlt hk hkl
   go_wp2_with fail
   go_ret
   exact ⟨by rw [HF.out];rfl,HB.out⟩
theorem hasp_calls (s:ByteArray) (w:World) (hs:s.size≤maxLen) :
 Calls Tryz.prog 19 #[.string s,.string ⟨#[120,110,45,45]⟩] w fun e w'=>e=.returned (.bool (markB (bytesOf s)))∧w'=w:=by
 unfold maxLen at hs
 have s1:(s.size:Int)≤9223372036854775807:=by omega
 have hbl:=bytesOf_len s
 obtain ⟨R,hR⟩:∃R,R=markB (bytesOf s):=⟨_,rfl⟩
 rw [← hR]
 by_cases h4:4≤s.size
 ·have e1:(s.extract 0 4).toList=(bytesOf s).take 4:=by rw [ByteArray.toList_eq];exact extract_bytes s 4 h4
  have e2:((bytesOf s).take 4==[120,110,45,45])=R:=hR.symm
  have g:(4:Int)≤(s.size:Int):=by omega
  generalize (bytesOf s).take 4=T at *
  clear hR hbl h4 hs
  go_enter Tryz.func19,Tryz.ntmps19
  go_wp2
  go_ret
  exact ⟨rfl,rfl⟩
 ·have g:¬(4:Int)≤(s.size:Int):=by omega
  have HF:Hid (R=false):=by
   show _=_
   rw [hR]
   unfold markB
   rw [beq_eq_false_iff_ne]
   intro h
   have:=congrArg List.length h
   rw [List.length_take] at this
   simp at this
   omega
  clear hR hbl h4 hs
  go_enter Tryz.func19,Tryz.ntmps19
  go_wp2
  go_ret
  exact ⟨by rw [HF.out];rfl,rfl⟩
theorem mark_size {s:ByteArray} (h:markB (bytesOf s)=true):4≤s.size:=by
 unfold markB at h
 have h2:=congrArg List.length (beq_iff_eq.1 h)
 rw [List.length_take,bytesOf_len] at h2
 simp at h2
 omega
def cutR (s:ByteArray):ByteArray×Bool:=if markB (bytesOf s)=true then (strOf ((bytesOf s).drop 4),true) else (s,false)
theorem cutp_calls (s:ByteArray) (w:World) (hs:s.size≤maxLen) :
 Calls Tryz.prog 105 #[.string s,.string ⟨#[120,110,45,45]⟩] w fun e w'=>e=.returned (.tuple #[.string (cutR s).1,.bool (cutR s).2])∧w'=w:=by
 have HS:=hid hs
 unfold maxLen at hs
 have s1:(s.size:Int)≤9223372036854775807:=by omega
 have hbl:=bytesOf_len s
 obtain ⟨R,hR⟩:∃R,R=cutR s:=⟨_,rfl⟩
 rw [← hR]
 by_cases h4:4≤s.size
 ·have e1:(s.extract 0 4).toList=(bytesOf s).take 4:=by rw [ByteArray.toList_eq];exact extract_bytes s 4 h4
  have hcut:s.extract 4 s.size=strOf ((bytesOf s).drop 4):=str_drop (bytesOf s) 4 (by omega)
  have g:(4:Int)≤(s.size:Int):=by omega
  cases hm:markB (bytesOf s) with
  | true =>
    have e2:((bytesOf s).take 4==[120,110,45,45])=true:=hm
    have HX:Hid (R=(strOf ((bytesOf s).drop 4),true)):=by show _=_;rw [hR];unfold cutR;rw [if_pos hm]
    generalize strOf ((bytesOf s).drop 4)=t at *
    generalize (bytesOf s).take 4=T at *
    clear hR hbl h4 hs hm
    go_enter Tryz.func105,Tryz.ntmps105
    go_wp2
    go_ret2
    exact ⟨by rw [HX.out];rfl,rfl⟩
  | false =>
    have e2:((bytesOf s).take 4==[120,110,45,45])=false:=hm
    have HX:Hid (R=(s,false)):=by show _=_;rw [hR];unfold cutR;rw [if_neg (by rw [hm];decide)]
    generalize strOf ((bytesOf s).drop 4)=t at *
    generalize (bytesOf s).take 4=T at *
    clear hR hbl h4 hs hm hcut
    go_enter Tryz.func105,Tryz.ntmps105
    go_wp2
    go_ret2
    exact ⟨by rw [HX.out];rfl,rfl⟩
 ·have g:¬(4:Int)≤(s.size:Int):=by omega
  have HX:Hid (R=(s,false)):=by
   show _=_
   rw [hR]
   unfold cutR
   rw [if_neg (fun h=>h4 (mark_size h))]
  clear hR hbl h4 hs
  go_enter Tryz.func105,Tryz.ntmps105
  go_wp2
  go_ret2
  exact ⟨by rw [HX.out];rfl,rfl⟩
end Go.Proofs.YtpohekldddbneaaGreatDoor
