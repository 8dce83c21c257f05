import Derived.Test.YtigfgloenjoeoaaGreatDoorLcAX
import Derived.Test.YtigfgloenjoeoaaGreatDoorLcAC
import Derived.Test.YtigfgloenjoeoaaGreatDoorLcAS
import Derived.Test.YtigfgloenjoeoaaGreatDoorLcAI
import Derived.Deep.RegionHeld3
import Derived.Test.YtigfgloenjoeoaaGreatDoorLcAA
set_option linter.unusedVariables false
set_option linter.unusedSimpArgs false
set_option maxRecDepth 20000
set_option maxHeartbeats 16000000
namespace Go.Proofs.YtigfgloenjoeoaaGreatDoor
open Go.RowKit
theorem insF_most:∀(f:Nat) (out:List Nat) (ds:List (Option Nat)) (s a b:Nat) (fl:Bool) (m:List Nat),out.length≤256→insF f out ds s a b fl=some m→m.length≤256
 | 0,out,ds,s,a,b,fl,m,hl,h=>by
   unfold insF at h
   split at h
   ·injection h with h;subst h;exact hl
   ·cases h
 | f+1,out,ds,s,a,b,fl,m,hl,h=>by
   rw [insF_succ] at h
   split at h
   ·injection h with h;subst h;exact hl
   ·split at h
    ·cases h
    ·rename_i h256
     cases hr:rd ds a 1 36 b with
     | none=>rw [hr] at h;cases h
     | some x =>
       rw [hr] at h
       obtain ⟨to,rest⟩:=x
       simp only at h
       split at h
       ·have hp:to%(out.length+1)≤out.length:=by have:=Nat.mod_lt to (y:=out.length+1) (by omega);omega
        exact insF_most f _ _ _ _ _ _ m (by have:=ins_len out (to%(out.length+1)) (s+to/(out.length+1)) hp;unfold ins at this;omega) h
       ·cases h
theorem dec_most (s:ByteArray) (m:List Nat) (h:dec s=some m):m.length≤256:=by
 unfold dec at h
 split at h
 ·exact insF_most _ _ _ _ _ _ _ m (by simp) h
 ·split at h
  ·cases h
  ·split at h
   ·exact insF_most _ _ _ _ _ _ _ m (by simp;omega) h
   ·cases h
theorem decR_most (s:ByteArray):(ints (decR s).1).length≤256:=by
 unfold decR
 split
 ·simp [ints]
 ·split
  ·simp [ints]
  ·rename_i m h
   have:=dec_most s m h
   simpa [ints] using this
theorem str_join (p:ByteArray):(⟨#[120,110,45,45]⟩:ByteArray)++p=strOf ([120,110,45,45]++bytesOf p):=by
 unfold strOf bytesOf
 apply ByteArray.ext
 simp
theorem str_drop (l:List UInt8) (k:Nat) (h:k≤l.length):(strOf l).extract k (strOf l).size=strOf (l.drop k):=by
 apply ByteArray.ext
 have h1:((strOf l).extract k (strOf l).size).data.toList=l.drop k:=by
  rw [strOf_size]
  simp [ByteArray.data_extract,strOf]
  try (rw [List.take_of_length_le];simp)
 have:((strOf l).extract k (strOf l).size).data=(l.drop k).toArray:=by rw [← h1]
 rw [this];rfl
theorem labR_mark {l:List Int} (h:asciiB l=false) (hm:markB (textL l)=true):labR l=(strOf [],4):=by unfold labR;rw [if_pos h,if_pos hm]
theorem labR_bad {l:List Int} (h:asciiB l=false) (hm:markB (textL l)=false) (he:(encR l).2≠0):labR l=(strOf [],(encR l).2):=by unfold labR;rw [if_pos h,if_neg (by rw [hm];decide),if_neg he]
theorem labR_high {l:List Int} (h:asciiB l=false) (hm:markB (textL l)=false) (he:(encR l).2=0):labR l=(strOf ([120,110,45,45]++bytesOf (encR l).1),0):=by unfold labR;rw [if_pos h,if_neg (by rw [hm];decide),if_pos he]
theorem labR_plain {l:List Int} (h:asciiB l=true) (hm:markB (textL l)=false):labR l=(textB l,0):=by unfold labR;rw [if_neg (by rw [h];decide),if_pos hm]
theorem labR_back {l:List Int} (h:asciiB l=true) (hm:markB (textL l)=true):labR l=if backOk (strOf ((textL l).drop 4))=true then (textB l,0) else (strOf [],4):=by unfold labR;rw [if_neg (by rw [h];decide),if_neg (by rw [hm];decide)]
theorem backOk_err {t:ByteArray} (h:(decR t).2≠0):backOk t=false:=by unfold backOk;simp [h]
theorem backOk_ascii {t:ByteArray} (h:asciiB (ints (decR t).1)=true):backOk t=false:=by unfold backOk;simp [h]
theorem backOk_kind {t:ByteArray} {c:Int} (hc:c∈ints (decR t).1) (h:kindR c≠1):backOk t=false:=by
 unfold backOk
 have:(ints (decR t).1).all (fun c=>kindR c==1)=false:=by
  rw [List.all_eq_false]
  exact ⟨c,hc,by simpa using h⟩
 rw [this];simp
theorem backOk_yes {t:ByteArray} (h1:(decR t).2=0) (h2:asciiB (ints (decR t).1)=false) (h3:markB (textL (ints (decR t).1))=false) (h4:∀c∈ints (decR t).1,kindR c=1) (h5:(encR (ints (decR t).1)).2=0) (h6:(bytesOf (encR (ints (decR t).1)).1==bytesOf t)=true):backOk t=true:=by
 unfold backOk
 rw [h1,h2,h3,h5,h6,List.all_eq_true.2 (fun c hc=>by simpa using h4 c hc)]
 rfl
theorem toList_bytes (s:ByteArray):s.toList=bytesOf s:=by rw [ByteArray.toList_eq];rfl
def dotB (first:Bool):List UInt8:=if first then [] else [46]
def finA (x:List UInt8):ByteArray×Int:=if 253 < x.length then (strOf [],3) else (strOf x,0)
def goA:List UInt8→Bool→List Int→List Int→ByteArray×Int
 | acc,first,cur,[]=>if (labR cur).2=0 then finA (acc++dotB first++bytesOf (labR cur).1) else (strOf [],(labR cur).2)
 | acc,first,cur,c::r=>if c=46 then (if (labR cur).2=0 then goA (acc++dotB first++bytesOf (labR cur).1) false [] r else (strOf [],(labR cur).2)) else goA acc first (cur++[c]) r
def ascR (l:List Int):ByteArray×Int:=if 256 < l.length then (strOf [],11) else if (l.all fun c=>kindOf c != 4)=true then goA [] true [] (mapOf l) else (strOf [],4)
theorem labR_size (l:List Int) (hl:l.length≤100000):(labR l).1.size≤11000000:=by
 have h1:=text_len l
 have h2:=encR_size l
 have h3:(textB l).size=(textL l).length:=strOf_size _
 unfold labR
 split
 ·split
  ·rw [strOf_size];simp
  ·split
   ·rw [strOf_size];simp [bytesOf_len];omega
   ·rw [strOf_size];simp
 ·split
  ·show (textB l).size≤_;omega
  ·split
   ·show (textB l).size≤_;omega
   ·rw [strOf_size];simp
theorem fine_all {l:List Int} (h:Fine l):(l.all fun c=>kindOf c != 4)=true:=by
 rw [List.all_eq_true]
 intro c hc
 rw [bne_iff_ne]
 exact h c hc
theorem bad_all {l:List Int} {i:Nat} (h:BadAt l i):(l.all fun c=>kindOf c != 4)=false:=by
 rw [List.all_eq_false]
 exact ⟨l[i]'h.1,List.getElem_mem h.1,by simp [h.2.1]⟩
theorem rowI_nil (w:World) (A:Option Addr) (C:Nat) (hC:C≤maxLen):IRow w (.slice A 0 C) []:=⟨A,C,rfl,Nat.zero_le _,hC,fun h=>absurd rfl h⟩
theorem piece_snoc {m:List Int} {f i:Nat} (hf:f≤i) (hi:i < m.length):(m.drop f).take (i-f)++[m[i]]=(m.drop f).take (i+1-f):=by
 rw [show i+1-f=(i-f)+1 by omega]
 rw [List.take_succ_eq_append_getElem (by rw [List.length_drop];omega),List.getElem_drop]
 congr 2
 simp only [show f+(i-f)=i by omega]
def AscAt (m:List Int) (R:ByteArray×Int) (o:ByteArray) (f i:Nat):Prop :=
 o.size≤i * 11000001∧((f≤i∧i≤m.length∧R=goA (bytesOf o) (decide (f=0)) ((m.drop f).take (i-f)) (m.drop i))∨(i=m.length+1∧R=finA (bytesOf o)))
theorem AscAt.skip {m:List Int} {R:ByteArray×Int} {o:ByteArray} {f i:Nat} (h:AscAt m R o f i) (hi:i < m.length) (hc:m[i]≠46):AscAt m R o f (i+1):=by
 obtain ⟨hs,⟨hf,_,hr⟩ | ⟨h,_⟩⟩:=h
 ·unfold AscAt
  refine ⟨?_,.inl ⟨by omega,hi,?_⟩⟩
  ·refine Nat.le_trans hs (Nat.mul_le_mul_right _ (by omega))
  ·rw [hr,drop_atPu hi]
   show (if m[i]=46 then _ else _)=_
   rw [if_neg hc,piece_snoc hf hi]
 ·omega
theorem AscAt.ok {m:List Int} {R:ByteArray×Int} {o:ByteArray} {f i:Nat} (h:AscAt m R o f i) (hml:m.length≤100000) (hi:i=m.length∨∃h:i < m.length,m[i]=46) (he:(labR ((m.drop f).take (i-f))).2=0) (o':ByteArray) (ho:bytesOf o'=bytesOf o++dotB (decide (f=0))++bytesOf (labR ((m.drop f).take (i-f))).1):AscAt m R o' (i+1) (i+1):=by
 have hsz:=labR_size ((m.drop f).take (i-f)) (by rw [List.length_take,List.length_drop];omega)
 obtain ⟨hs,⟨hf,_,hr⟩ | ⟨h,_⟩⟩:=h
 ·unfold AscAt
  refine ⟨?_,?_⟩
  ·rw [Nat.add_mul,Nat.one_mul]
   have:=congrArg List.length ho
   rw [List.length_append,List.length_append,bytesOf_len,bytesOf_len,bytesOf_len] at this
   have hd:(dotB (decide (f=0))).length≤1:=by unfold dotB;split<;>simp
   omega
  ·rcases hi with hi | ⟨hi,hc⟩
   ·right
    refine ⟨by omega,?_⟩
    have e:m.drop i=[]:=List.drop_eq_nil_of_le (by omega)
    rw [hr,e]
    show (if _ then _ else _)=_
    rw [if_pos he,ho]
   ·left
    refine ⟨Nat.le_refl _,hi,?_⟩
    rw [hr,drop_atPu hi,hc]
    show (if (46:Int)=46 then _ else _)=_
    rw [if_pos rfl,if_pos he,ho]
    simp
 ·rcases hi with hi | ⟨hi,_⟩<;>omega
theorem AscAt.size {m:List Int} {R:ByteArray×Int} {o:ByteArray} {f i:Nat} (h:AscAt m R o f i):o.size≤i * 11000001∧i≤m.length+1:=by
 obtain ⟨hs,⟨hf,h2,hr⟩ | ⟨h,_⟩⟩:=h
 ·exact ⟨hs,by omega⟩
 ·exact ⟨hs,by omega⟩
end Go.Proofs.YtigfgloenjoeoaaGreatDoor
namespace Go.Proofs.YtigfgloenjoeoaaGreatDoor
def badH (c:Nat):Bool:=one1 [0,9,10,13,32,35,47,58,60,62,63,64,91,92,93,94,124] c
def badB (c:UInt8):Bool:=badH c.toNat
def lowB (c:UInt8):Bool:=decide (c.toNat < 32)||c.toNat==37||c.toNat==127
abbrev HostN:=Int×List UInt8×Nat×List Nat
def host0:HostN:=(0,[],0,z8)
def sixH (p:List Nat×Nat):HostN×Nat:=if p.2=0 then ((3,[],0,p.1),0) else (host0,p.2)
def fourH (p:Nat×Nat):HostN×Nat:=if p.2=0 then ((2,[],p.1,z8),0) else (host0,p.2)
def darkR (l:List UInt8):HostN×Nat:=if l.any badB=true then (host0,4) else if l=[] then (host0,0) else ((4,pctR 1 l,0,z8),0)
def nameR (t:List UInt8):HostN×Nat :=
 if t=[] then (host0,6) else if (t.any lowB||t.any badB)=true then (host0,4)
 else if endsR t=true then fourH (parse4R t) else ((1,t,0,z8),0)
def askedR (l:List UInt8):ByteArray×Int:=ascR (lossyL (unR l))
def specialR (l:List UInt8):HostN×Nat:=if (askedR l).2=0 then nameR (bytesOf (askedR l).1) else (host0,(askedR l).2.toNat)
def bracketR (l:List UInt8):HostN×Nat:=if l.getLast? ≠ some 93∨l.length=1 then (host0,4) else sixH (parse6R l.tail.dropLast)
def hostR (l:List UInt8) (special:Bool):HostN×Nat :=
 if 4000 < l.length then (host0,3)
 else if l.head? = some 91 then bracketR l
 else if special=true then specialR l else darkR l
def printR (h:HostN):List UInt8 :=
 if h.1=1∨h.1=4 then h.2.1 else if h.1=2 then print4R h.2.2.1 else if h.1=3 then 91::(print6R h.2.2.2++[93]) else []
def mayR (h:HostN):Bool:=let r:=hostR (printR h) (h.1==1||h.1==2);r.2==0&&r.1==h
structure UrlN where
 sch:List UInt8
 usr:List UInt8
 pas:List UInt8
 hasHost:Bool
 host:HostN
 port:Int
 dark:Bool
 txt:List UInt8
 path:List (List UInt8)
 hasQ:Bool
 qry:List UInt8
 hasF:Bool
 frg:List UInt8
def url0:UrlN:=⟨[],[],[],false,host0,0,false,[],[],false,[],false,[]⟩
def urlM:UrlN:={ url0 with port:=-1 }
def specialN (l:List UInt8):Nat :=
 if l=[104,116,116,112]∨l=[119,115] then 80
 else if l=[104,116,116,112,115]∨l=[119,115,115] then 443
 else if l=[102,116,112] then 21 else 0
structure MaR where
 inp:List Int
 p:Nat
 u:UrlN
 base:UrlN
 has:Bool
 buf:List Int
 seen:Bool
 colon:Bool
 brack:Bool
def signAt (l:List Int) (p:Nat):Int:=(l[p]?).getD (-1)
def spM (m:MaR):Bool:=decide (0 < specialN m.u.sch)
def slashM (m:MaR) (c:Int):Bool:=c==47||(spM m&&c==92)
def endsM (m:MaR) (c:Int):Bool:=decide (c < 0)||c==63||c==35||slashM m c
def letC (c:Int):Bool:=(decide (97≤c)&&decide (c≤122))||(decide (65≤c)&&decide (c≤90))
def digC (c:Int):Bool:=decide (48≤c)&&decide (c≤57)
def lowC (c:Int):Int:=if 65≤c∧c≤90 then c+32 else c
def partN (set c:Int):List UInt8:=pctR set (textL [c])
def partsN (set:Int) (l:List Int):List UInt8:=l.flatMap (partN set)
abbrev StR:=MaR×Nat×Bool×Nat
def askM (m:MaR):MaR:={ m with u:={ m.u with hasQ:=true,qry:=[] } }
def markM (m:MaR):MaR:={ m with u:={ m.u with hasF:=true,frg:=[] } }
def ownM (m:MaR):MaR :=
 {m with u:={ m.u with usr:=m.base.usr,pas:=m.base.pas,host:=m.base.host,hasHost:=m.base.hasHost,port:=m.base.port } }
def shortM (m:MaR):MaR:={ m with u:={ m.u with path:=m.u.path.dropLast } }
def gatherM (m:MaR) (c:Int):MaR:={ m with buf:=m.buf++[c] }
def schemeM (m:MaR):MaR:={ m with u:={ m.u with sch:=textL m.buf },buf:=[] }
def colonR (m:MaR):StR :=
 if m.u.sch=[102,105,108,101] then (m,17,false,4)
 else if (spM m&&m.has&&decide (m.base.sch=m.u.sch))=true then (m,3,false,0)
 else if spM m=true then (m,7,false,0)
 else if signAt m.inp (m.p+1)=47 then ({ m with p:=m.p+1 },4,false,0)
 else ({ m with u:={ m.u with dark:=true } },14,false,0)
def schemeR (m:MaR) (c:Int):StR :=
 if (letC c||digC c||c==43||c==45||c==46)=true then (gatherM m (lowC c),1,false,0)
 else if c≠58 then ({ m with buf:=[],p:=0 },2,true,0)
 else colonR (schemeM m)
def noSchemeR (m:MaR) (c:Int):StR :=
 if (!m.has||(m.base.dark&&c != 35))=true then (m,17,false,4)
 else if m.base.dark=true then (markM { m with u:=m.base },16,false,0)
 else (m,5,true,0)
def slashesR (m:MaR) (s:Nat) (c:Int):StR :=
 if c=47∧signAt m.inp (m.p+1)=47 then ({ m with p:=m.p+1 },8,false,0)
 else if s=7 then (m,8,true,0) else (m,5,true,0)
def frontR (m:MaR) (s:Nat) (c:Int):StR :=
 if s=0 then (if letC c=true then (gatherM m (lowC c),1,false,0) else (m,2,true,0))
 else if s=1 then schemeR m c
 else if s=2 then noSchemeR m c
 else if s=3∨s=7 then slashesR m s c
 else if s=4 then (if c=47 then (m,9,false,0) else (m,13,true,0))
 else if c=47∨c=92 then (m,8,false,0) else (m,9,true,0)
def baseM (m:MaR):MaR:={ ownM m with u:={ (ownM m).u with path:=m.base.path,hasQ:=m.base.hasQ,qry:=m.base.qry } }
def relativeR (m:MaR) (c:Int):StR :=
 let m1:MaR:={ m with u:={ m.u with sch:=m.base.sch } }
 if slashM m1 c=true then (m1,6,false,0)
 else
  let m2:=baseM m1
  if c=63 then (askM m2,15,false,0)
  else if c=35 then (markM m2,16,false,0)
  else if c < 0 then (m2,17,false,0)
  else (shortM { m2 with u:={ m2.u with hasQ:=false,qry:=[] } },13,true,0)
def middleR (m:MaR) (s:Nat) (c:Int):StR :=
 if s=6 then
  (if (spM m&&slashM m c)=true then (m,8,false,0)
  else if c=47 then (m,9,false,0)
  else (ownM m,13,true,0))
 else relativeR m c
def credL (l:List Int) (colon:Bool) (usr pas:List UInt8):Bool×List UInt8×List UInt8 :=
 match l with
 | []=>(colon,usr,pas)
 | c::r=>if c=58∧colon=false then credL r true usr pas
   else if colon=true then credL r true usr (pas++partN 6 c) else credL r false (usr++partN 6 c) pas
def credM (m:MaR):MaR :=
 let r:=credL (if m.seen=true then [37,52,48]++m.buf else m.buf) m.colon m.u.usr m.u.pas
 {m with seen:=true,colon:=r.1,u:={ m.u with usr:=r.2.1,pas:=r.2.2 },buf:=[] }
def hostM (m:MaR):MaR×Nat :=
 let r:=hostR (textL m.buf) (spM m)
 ({ m with buf:=[],u:={ m.u with host:=r.1,hasHost:=true } },r.2)
def portN (l:List Int):Int:=l.foldl (fun n c=>min (10 * n+c-48) 1048576) 0
def whoHostR (m:MaR) (c:Int):StR :=
 if c=58∧m.brack=false then (if m.buf=[] then (m,17,false,6) else ((hostM m).1,11,false,(hostM m).2))
 else if endsM m c=true then (if spM m=true∧m.buf=[] then (m,17,false,6) else ((hostM m).1,12,true,(hostM m).2))
 else (gatherM { m with brack:=if c=91 then true else if c=93 then false else m.brack } c,10,false,0)
def whoAuthR (m:MaR) (c:Int):StR :=
 if c=64 then (credM m,9,false,0)
 else if endsM m c=true then
  (if m.seen=true∧m.buf=[] then (m,17,false,6) else ({ m with p:=m.p-m.buf.length,buf:=[] },10,true,0))
 else (gatherM m c,9,false,0)
def whoPortR (m:MaR) (c:Int):StR :=
 if digC c=true then (gatherM m c,11,false,0)
 else if endsM m c=false then (m,17,false,4)
 else if m.buf=[] then (m,12,true,0)
 else if 65535 < portN m.buf then (m,17,false,1)
 else ({ m with u:={ m.u with port:=if portN m.buf=(specialN m.u.sch:Int)∧spM m=true then -1 else portN m.buf },buf:=[] },12,true,0)
def whoR (m:MaR) (s:Nat) (c:Int):StR:=if s=9 then whoAuthR m c else if s=10 then whoHostR m c else whoPortR m c
def dotsF:Nat→List UInt8→Nat→Nat
 | 0,_,n=>n
 | _+1,[],n=>n
 | f+1,46::r,n=>dotsF f r (n+1)
 | f+1,37::50::e::r,n=>if e=101∨e=69 then dotsF f r (n+1) else 0
 | _+1,_::_,_=>0
def dotsR (l:List UInt8):Nat:=if 2 < dotsF l.length l 0 then 0 else dotsF l.length l 0
def pushM (m:MaR) (s:List UInt8):MaR:={ m with u:={ m.u with path:=m.u.path++[s] } }
def pieceM (m:MaR) (c:Int):MaR :=
 let s:=partsN 5 m.buf
 let m1:MaR:={ m with buf:=[] }
 if dotsR s=2 then (if slashM m c=true then shortM m1 else pushM (shortM m1) [])
 else if dotsR s=1 then (if slashM m c=true then m1 else pushM m1 [])
 else pushM m1 s
def pathR (m:MaR) (c:Int):StR :=
 if (decide (0≤c)&&c != 63&&c != 35&&!slashM m c)=true then (gatherM m c,13,false,0)
 else if c=63 then (askM (pieceM m c),15,false,0)
 else if c=35 then (markM (pieceM m c),16,false,0)
 else if c=-1 then (pieceM m c,17,false,0)
 else (pieceM m c,13,false,0)
def startR (m:MaR) (c:Int):StR :=
 if spM m=true then (m,13,!slashM m c,0)
 else if c=63 then (askM m,15,false,0)
 else if c=35 then (markM m,16,false,0)
 else if c < 0 then (m,17,false,0)
 else (m,13,c != 47,0)
def darkM (m:MaR) (c:Int):StR :=
 if c=63 then (askM m,15,false,0)
 else if c=35 then (markM m,16,false,0)
 else if c < 0 then (m,17,false,0)
 else ({ m with u:={ m.u with txt:=m.u.txt++partN 1 c } },14,false,0)
def queryM (m:MaR):MaR:={ m with buf:=[],u:={ m.u with qry:=m.u.qry++pctR (if spM m=true then 4 else 3) (textL m.buf) } }
def queryR (m:MaR) (c:Int):StR :=
 if 0≤c∧c≠35 then (gatherM m c,15,false,0)
 else if c=35 then (markM (queryM m),16,false,0)
 else (queryM m,17,false,0)
def fragR (m:MaR) (c:Int):StR :=
 if c < 0 then (m,17,false,0) else ({ m with u:={ m.u with frg:=m.u.frg++partN 2 c } },16,false,0)
def backR (m:MaR) (s:Nat) (c:Int):StR :=
 if s=12 then startR m c else if s=14 then darkM m c else if s=15 then queryR m c else fragR m c
def stepR (m:MaR) (s:Nat) (c:Int):StR :=
 if s≤4∨s=7∨s=8 then frontR m s c
 else if s=5∨s=6 then middleR m s c
 else if s=9∨s=10∨s=11 then whoR m s c
 else if s=13 then pathR m c
 else backR m s c
def stripRU (l:List UInt8):List Int :=
 ((((lossyL l).dropWhile (fun c=>decide (c≤32))).reverse.dropWhile (fun c=>decide (c≤32))).reverse).filter (fun c=>c != 9&&c != 10&&c != 13)
def runF:Nat→MaR→Nat→UrlN×Nat
 | 0,m,s=>(m.u,0)
 | f+1,m,s =>
   if s=17 then (if 256 < m.u.path.length then (url0,11) else (m.u,0))
   else
    let r:=stepR m s (signAt m.inp m.p)
    if r.2.2.2≠0 then (url0,r.2.2.2)
    else runF f (if r.2.2.1=true then r.1 else { r.1 with p:=r.1.p+1 }) r.2.1
def looks (n:Nat):Nat:=18 * (n+1)
def maR (l:List UInt8) (base:UrlN) (has:Bool):MaR:=⟨stripRU l,0,urlM,base,has,[],false,false,false⟩
def urlR (l:List UInt8) (base:UrlN) (has:Bool):UrlN×Nat :=
 if 4000 < l.length then (url0,3) else runF (looks (stripRU l).length) (maR l base has) 0
def leftM (m:MaR) (s:Nat):Nat:=(17-s) * (m.inp.length+1)+(m.inp.length-m.p)
theorem sign_lt {l:List Int} {p:Nat} (h:signAt l p≠-1):p < l.length:=by
 apply Classical.byContradiction;intro hn
 exact h (by simp [signAt,List.getElem?_eq_none (Nat.le_of_not_lt hn)])
def atPl (r:StR):Nat:=if r.2.2.1=true then r.1.p else r.1.p+1
def Down (m:MaR) (s:Nat) (r:StR):Prop :=
 r.1.inp=m.inp∧r.1.base=m.base∧r.1.has=m.has ∧
  (r.2.1=17∨(atPl r≤m.inp.length∧(s < r.2.1∨(s=r.2.1∧atPl r=m.p+1))∧r.2.1≤16))
theorem slash_ne {m:MaR} {c:Int} (h:slashM m c=true):c≠-1:=by
 simp only [slashM,Bool.or_eq_true,Bool.and_eq_true,beq_iff_eq] at h;omega
theorem ends_ne {m:MaR} {c:Int} (h:endsM m c=false):c≠-1:=by
 simp only [endsM,Bool.or_eq_false_iff,decide_eq_false_iff_not] at h;omega
theorem let_ne {c:Int} (h:letC c=true):c≠-1:=by
 simp only [letC,Bool.or_eq_true,Bool.and_eq_true,decide_eq_true_eq] at h;omega
theorem dig_ne {c:Int} (h:digC c=true):c≠-1:=by
 simp only [digC,Bool.and_eq_true,decide_eq_true_eq] at h;omega
theorem front_down (m:MaR) (s:Nat) (hs:s≤4∨s=7∨s=8) (hp:m.p≤m.inp.length):Down m s (frontR m s (signAt m.inp m.p)):=by
 have hl:=@sign_lt m.inp m.p
 have hl':=@sign_lt m.inp (m.p+1)
 generalize hc:signAt m.inp m.p=c at hl ⊢
 have h1:=@let_ne c
 have h2:=@dig_ne c
 unfold frontR
 split
 ·split
  ·have:=hl (h1 (by assumption))
   exact ⟨rfl,rfl,rfl,Or.inr ⟨by simp [atPl,gatherM]<;>omega,Or.inl (by show s < 1;omega),Nat.le_of_ble_eq_true rfl⟩⟩
  ·exact ⟨rfl,rfl,rfl,Or.inr ⟨by simp [atPl]<;>omega,Or.inl (by show s < 2;omega),Nat.le_of_ble_eq_true rfl⟩⟩
 split
 ·unfold schemeR
  split
  ·rename_i hh
   have:c≠-1:=by
    simp only [Bool.or_eq_true,beq_iff_eq] at hh
    rcases hh with (((hh | hh) | hh) | hh) | hh
    ·exact h1 hh
    ·exact h2 hh
    all_goals omega
   have:=hl this
   refine ⟨rfl,rfl,rfl,Or.inr ⟨?_,Or.inr ⟨by assumption,?_⟩,Nat.le_of_ble_eq_true rfl⟩⟩<;>simp [atPl,gatherM]<;>omega
  split
  ·exact ⟨rfl,rfl,rfl,Or.inr ⟨by simp [atPl],Or.inl (by show s < 2;omega),Nat.le_of_ble_eq_true rfl⟩⟩
  ·rename_i hcol
   have hc58:c=58:=by omega
   have:=hl (by omega)
   unfold colonR
   split
   ·exact ⟨rfl,rfl,rfl,Or.inl rfl⟩
   split
   ·exact ⟨rfl,rfl,rfl,Or.inr ⟨by simp [atPl,schemeM]<;>omega,Or.inl (by show s < 3;omega),Nat.le_of_ble_eq_true rfl⟩⟩
   split
   ·exact ⟨rfl,rfl,rfl,Or.inr ⟨by simp [atPl,schemeM]<;>omega,Or.inl (by show s < 7;omega),Nat.le_of_ble_eq_true rfl⟩⟩
   split
   ·rename_i h47
    have:=hl' (by simp only [schemeM] at h47;omega)
    exact ⟨rfl,rfl,rfl,Or.inr ⟨by simp [atPl,schemeM]<;>omega,Or.inl (by show s < 4;omega),Nat.le_of_ble_eq_true rfl⟩⟩
   ·exact ⟨rfl,rfl,rfl,Or.inr ⟨by simp [atPl,schemeM]<;>omega,Or.inl (by show s < 14;omega),Nat.le_of_ble_eq_true rfl⟩⟩
 split
 ·unfold noSchemeR
  split
  ·exact ⟨rfl,rfl,rfl,Or.inl rfl⟩
  split
  ·rename_i hf hd
   have:c=35:=by
    simp only [Bool.or_eq_true,Bool.and_eq_true,not_or,not_and,bne_iff_ne,Bool.not_eq_true] at hf
    have:=hf.2 hd;simpa using this
   have:=hl (by omega)
   exact ⟨rfl,rfl,rfl,Or.inr ⟨by simp [atPl,markM]<;>omega,Or.inl (by show s < 16;omega),Nat.le_of_ble_eq_true rfl⟩⟩
  ·exact ⟨rfl,rfl,rfl,Or.inr ⟨by simp [atPl]<;>omega,Or.inl (by show s < 5;omega),Nat.le_of_ble_eq_true rfl⟩⟩
 split
 ·unfold slashesR
  split
  ·rename_i h47
   have:=hl' (by omega)
   exact ⟨rfl,rfl,rfl,Or.inr ⟨by simp [atPl]<;>omega,Or.inl (by show s < 8;omega),Nat.le_of_ble_eq_true rfl⟩⟩
  split
  ·exact ⟨rfl,rfl,rfl,Or.inr ⟨by simp [atPl]<;>omega,Or.inl (by show s < 8;omega),Nat.le_of_ble_eq_true rfl⟩⟩
  ·exact ⟨rfl,rfl,rfl,Or.inr ⟨by simp [atPl]<;>omega,Or.inl (by show s < 5;omega),Nat.le_of_ble_eq_true rfl⟩⟩
 split
 ·split
  ·have:=hl (by omega)
   exact ⟨rfl,rfl,rfl,Or.inr ⟨by simp [atPl]<;>omega,Or.inl (by show s < 9;omega),Nat.le_of_ble_eq_true rfl⟩⟩
  ·exact ⟨rfl,rfl,rfl,Or.inr ⟨by simp [atPl]<;>omega,Or.inl (by show s < 13;omega),Nat.le_of_ble_eq_true rfl⟩⟩
 ·have:s=8:=by omega
  split
  ·have:=hl (by omega)
   refine ⟨rfl,rfl,rfl,Or.inr ⟨?_,Or.inr ⟨by assumption,?_⟩,Nat.le_of_ble_eq_true rfl⟩⟩<;>simp [atPl]<;>omega
  ·exact ⟨rfl,rfl,rfl,Or.inr ⟨by simp [atPl]<;>omega,Or.inl (by show s < 9;omega),Nat.le_of_ble_eq_true rfl⟩⟩
theorem middle_down (m:MaR) (s:Nat) (hs:s=5∨s=6) (hp:m.p≤m.inp.length):Down m s (middleR m s (signAt m.inp m.p)):=by
 have hl:=@sign_lt m.inp m.p
 generalize hc:signAt m.inp m.p=c at hl ⊢
 unfold middleR
 split
 ·split
  ·rename_i hh
   rw [Bool.and_eq_true] at hh
   have:=hl (slash_ne hh.2)
   exact ⟨rfl,rfl,rfl,Or.inr ⟨by simp [atPl]<;>omega,Or.inl (by show s < 8;omega),Nat.le_of_ble_eq_true rfl⟩⟩
  split
  ·have:=hl (by omega)
   exact ⟨rfl,rfl,rfl,Or.inr ⟨by simp [atPl]<;>omega,Or.inl (by show s < 9;omega),Nat.le_of_ble_eq_true rfl⟩⟩
  ·exact ⟨rfl,rfl,rfl,Or.inr ⟨by simp [atPl,ownM]<;>omega,Or.inl (by show s < 13;omega),Nat.le_of_ble_eq_true rfl⟩⟩
 ·unfold relativeR
  dsimp only
  split
  ·rename_i hh
   have:=hl (slash_ne hh)
   exact ⟨rfl,rfl,rfl,Or.inr ⟨by simp [atPl]<;>omega,Or.inl (by show s < 6;omega),Nat.le_of_ble_eq_true rfl⟩⟩
  split
  ·have:=hl (by omega)
   exact ⟨rfl,rfl,rfl,Or.inr ⟨by simp [atPl,askM,baseM,ownM]<;>omega,Or.inl (by show s < 15;omega),Nat.le_of_ble_eq_true rfl⟩⟩
  split
  ·have:=hl (by omega)
   exact ⟨rfl,rfl,rfl,Or.inr ⟨by simp [atPl,markM,baseM,ownM]<;>omega,Or.inl (by show s < 16;omega),Nat.le_of_ble_eq_true rfl⟩⟩
  split
  ·exact ⟨rfl,rfl,rfl,Or.inl rfl⟩
  ·exact ⟨rfl,rfl,rfl,Or.inr ⟨by simp [atPl,shortM,baseM,ownM]<;>omega,Or.inl (by show s < 13;omega),Nat.le_of_ble_eq_true rfl⟩⟩
theorem who_down (m:MaR) (s:Nat) (hs:s=9∨s=10∨s=11) (hp:m.p≤m.inp.length):Down m s (whoR m s (signAt m.inp m.p)):=by
 have hl:=@sign_lt m.inp m.p
 generalize hc:signAt m.inp m.p=c at hl ⊢
 unfold whoR
 split
 ·unfold whoAuthR
  split
  ·have:=hl (by omega)
   refine ⟨rfl,rfl,rfl,Or.inr ⟨?_,Or.inr ⟨by assumption,?_⟩,Nat.le_of_ble_eq_true rfl⟩⟩<;>simp [atPl,credM]<;>omega
  split
  ·split
   ·exact ⟨rfl,rfl,rfl,Or.inl rfl⟩
   ·exact ⟨rfl,rfl,rfl,Or.inr ⟨by simp [atPl]<;>omega,Or.inl (by show s < 10;omega),Nat.le_of_ble_eq_true rfl⟩⟩
  ·rename_i hh
   have:=hl (ends_ne (Bool.eq_false_iff.2 hh))
   refine ⟨rfl,rfl,rfl,Or.inr ⟨?_,Or.inr ⟨by assumption,?_⟩,Nat.le_of_ble_eq_true rfl⟩⟩<;>simp [atPl,gatherM]<;>omega
 split
 ·unfold whoHostR
  split
  ·split
   ·exact ⟨rfl,rfl,rfl,Or.inl rfl⟩
   ·have:=hl (by omega)
    exact ⟨rfl,rfl,rfl,Or.inr ⟨by simp [atPl,hostM]<;>omega,Or.inl (by show s < 11;omega),Nat.le_of_ble_eq_true rfl⟩⟩
  split
  ·split
   ·exact ⟨rfl,rfl,rfl,Or.inl rfl⟩
   ·exact ⟨rfl,rfl,rfl,Or.inr ⟨by simp [atPl,hostM]<;>omega,Or.inl (by show s < 12;omega),Nat.le_of_ble_eq_true rfl⟩⟩
  ·rename_i hh
   have:=hl (ends_ne (Bool.eq_false_iff.2 hh))
   refine ⟨rfl,rfl,rfl,Or.inr ⟨?_,Or.inr ⟨by assumption,?_⟩,Nat.le_of_ble_eq_true rfl⟩⟩<;>simp [atPl,gatherM]<;>omega
 ·have:s=11:=by omega
  unfold whoPortR
  split
  ·rename_i hh
   have:=hl (dig_ne hh)
   refine ⟨rfl,rfl,rfl,Or.inr ⟨?_,Or.inr ⟨by assumption,?_⟩,Nat.le_of_ble_eq_true rfl⟩⟩<;>simp [atPl,gatherM]<;>omega
  split
  ·exact ⟨rfl,rfl,rfl,Or.inl rfl⟩
  split
  ·exact ⟨rfl,rfl,rfl,Or.inr ⟨by simp [atPl]<;>omega,Or.inl (by show s < 12;omega),Nat.le_of_ble_eq_true rfl⟩⟩
  split
  ·exact ⟨rfl,rfl,rfl,Or.inl rfl⟩
  ·exact ⟨rfl,rfl,rfl,Or.inr ⟨by simp [atPl]<;>omega,Or.inl (by show s < 12;omega),Nat.le_of_ble_eq_true rfl⟩⟩
theorem piece_same (m:MaR) (c:Int):(pieceM m c).inp=m.inp∧(pieceM m c).base=m.base∧(pieceM m c).has=m.has∧(pieceM m c).p=m.p:=by
 unfold pieceM;dsimp only
 repeat' split
 all_goals exact ⟨rfl,rfl,rfl,rfl⟩
theorem path_down (m:MaR) (hp:m.p≤m.inp.length):Down m 13 (pathR m (signAt m.inp m.p)):=by
 have hl:=@sign_lt m.inp m.p
 generalize hc:signAt m.inp m.p=c at hl ⊢
 obtain ⟨p1,p2,p3,p4⟩:=piece_same m c
 unfold pathR
 split
 ·rename_i hh
  simp only [Bool.and_eq_true,decide_eq_true_eq] at hh
  have:=hl (by omega)
  refine ⟨rfl,rfl,rfl,Or.inr ⟨?_,Or.inr ⟨rfl,?_⟩,Nat.le_of_ble_eq_true rfl⟩⟩<;>simp [atPl,gatherM]<;>omega
 split
 ·have:=hl (by omega)
  exact ⟨p1,p2,p3,Or.inr ⟨by simp [atPl,askM,p4]<;>omega,Or.inl (by show 13 < 15;omega),Nat.le_of_ble_eq_true rfl⟩⟩
 split
 ·have:=hl (by omega)
  exact ⟨p1,p2,p3,Or.inr ⟨by simp [atPl,markM,p4]<;>omega,Or.inl (by show 13 < 16;omega),Nat.le_of_ble_eq_true rfl⟩⟩
 split
 ·exact ⟨p1,p2,p3,Or.inl rfl⟩
 ·have:=hl (by omega)
  refine ⟨p1,p2,p3,Or.inr ⟨?_,Or.inr ⟨rfl,?_⟩,Nat.le_of_ble_eq_true rfl⟩⟩<;>simp [atPl,p4]<;>omega
theorem back_down (m:MaR) (s:Nat) (hs:s=12∨s=14∨s=15∨s=16) (hp:m.p≤m.inp.length):Down m s (backR m s (signAt m.inp m.p)):=by
 have hl:=@sign_lt m.inp m.p
 generalize hc:signAt m.inp m.p=c at hl ⊢
 unfold backR
 split
 ·unfold startR
  split
  ·refine ⟨rfl,rfl,rfl,Or.inr ⟨?_,Or.inl (by show s < 13;omega),Nat.le_of_ble_eq_true rfl⟩⟩
   simp only [atPl]
   by_cases hh:slashM m c=true
   ·have:=hl (slash_ne hh);rw [hh];simp<;>omega
   ·rw [Bool.eq_false_iff.2 hh];simp<;>omega
  split
  ·have:=hl (by omega)
   exact ⟨rfl,rfl,rfl,Or.inr ⟨by simp [atPl,askM]<;>omega,Or.inl (by show s < 15;omega),Nat.le_of_ble_eq_true rfl⟩⟩
  split
  ·have:=hl (by omega)
   exact ⟨rfl,rfl,rfl,Or.inr ⟨by simp [atPl,markM]<;>omega,Or.inl (by show s < 16;omega),Nat.le_of_ble_eq_true rfl⟩⟩
  split
  ·exact ⟨rfl,rfl,rfl,Or.inl rfl⟩
  ·have:=hl (by omega)
   refine ⟨rfl,rfl,rfl,Or.inr ⟨?_,Or.inl (by show s < 13;omega),Nat.le_of_ble_eq_true rfl⟩⟩
   simp only [atPl];split<;>omega
 split
 ·unfold darkM
  split
  ·have:=hl (by omega)
   exact ⟨rfl,rfl,rfl,Or.inr ⟨by simp [atPl,askM]<;>omega,Or.inl (by show s < 15;omega),Nat.le_of_ble_eq_true rfl⟩⟩
  split
  ·have:=hl (by omega)
   exact ⟨rfl,rfl,rfl,Or.inr ⟨by simp [atPl,markM]<;>omega,Or.inl (by show s < 16;omega),Nat.le_of_ble_eq_true rfl⟩⟩
  split
  ·exact ⟨rfl,rfl,rfl,Or.inl rfl⟩
  ·have:=hl (by omega)
   refine ⟨rfl,rfl,rfl,Or.inr ⟨?_,Or.inr ⟨by assumption,?_⟩,Nat.le_of_ble_eq_true rfl⟩⟩<;>simp [atPl]<;>omega
 split
 ·unfold queryR
  split
  ·have:=hl (by omega)
   refine ⟨rfl,rfl,rfl,Or.inr ⟨?_,Or.inr ⟨by assumption,?_⟩,Nat.le_of_ble_eq_true rfl⟩⟩<;>simp [atPl,gatherM]<;>omega
  split
  ·have:=hl (by omega)
   exact ⟨rfl,rfl,rfl,Or.inr ⟨by simp [atPl,markM,queryM]<;>omega,Or.inl (by show s < 16;omega),Nat.le_of_ble_eq_true rfl⟩⟩
  ·exact ⟨rfl,rfl,rfl,Or.inl rfl⟩
 ·have:s=16:=by omega
  unfold fragR
  split
  ·exact ⟨rfl,rfl,rfl,Or.inl rfl⟩
  ·have:=hl (by omega)
   refine ⟨rfl,rfl,rfl,Or.inr ⟨?_,Or.inr ⟨by assumption,?_⟩,Nat.le_of_ble_eq_true rfl⟩⟩<;>simp [atPl]<;>omega
theorem step_down (m:MaR) (s:Nat) (hs:s < 17) (hp:m.p≤m.inp.length):Down m s (stepR m s (signAt m.inp m.p)):=by
 unfold stepR
 split
 ·exact front_down m s (by omega) hp
 split
 ·exact middle_down m s (by omega) hp
 split
 ·exact who_down m s (by omega) hp
 split
 ·rename_i h;subst h;exact path_down m hp
 ·exact back_down m s (by omega) hp
def behM (r:StR):MaR:=if r.2.2.1=true then r.1 else { r.1 with p:=r.1.p+1 }
theorem behM_p (r:StR):(behM r).p=atPl r:=by unfold behM atPl;split<;>rfl
theorem behM_inp (r:StR):(behM r).inp=r.1.inp:=by unfold behM;split<;>rfl
theorem left_down (m:MaR) (s:Nat) (hs:s < 17) (hp:m.p≤m.inp.length) (h:(stepR m s (signAt m.inp m.p)).2.1≠17) :
 (behM (stepR m s (signAt m.inp m.p))).p≤(behM (stepR m s (signAt m.inp m.p))).inp.length ∧
  leftM (behM (stepR m s (signAt m.inp m.p))) (stepR m s (signAt m.inp m.p)).2.1 < leftM m s:=by
 obtain ⟨d1,_,_,d2⟩:=step_down m s hs hp
 generalize stepR m s (signAt m.inp m.p)=r at *
 rcases d2 with d2 | ⟨e1,e2,e3⟩
 ·exact absurd d2 h
 unfold leftM
 rw [behM_p,behM_inp,d1]
 refine ⟨e1,?_⟩
 rcases e2 with e2 | ⟨e2,e4⟩
 ·have h1:(17-r.2.1)+1≤17-s:=by omega
  have h2:=Nat.mul_le_mul_right (m.inp.length+1) h1
  rw [Nat.add_mul] at h2
  omega
 ·rw [e2];omega
theorem step_le (m:MaR) (s:Nat) (hs:s < 17) (hp:m.p≤m.inp.length):(stepR m s (signAt m.inp m.p)).2.1≤17:=by
 obtain ⟨_,_,_,d2⟩:=step_down m s hs hp
 rcases d2 with d2 | ⟨_,_,e3⟩<;>omega
theorem left_pos (m:MaR) {s:Nat} (hs:s < 17):0 < leftM m s:=by
 unfold leftM
 have:=Nat.mul_le_mul_right (m.inp.length+1) (show 1≤17-s by omega)
 omega
theorem runF_step (f:Nat) (m:MaR) (s:Nat):runF (f+1) m s =
 if s=17 then (if 256 < m.u.path.length then (url0,11) else (m.u,0))
 else if (stepR m s (signAt m.inp m.p)).2.2.2≠0 then (url0,(stepR m s (signAt m.inp m.p)).2.2.2)
 else runF f (behM (stepR m s (signAt m.inp m.p))) (stepR m s (signAt m.inp m.p)).2.1:=rfl
theorem runF_eq:∀(f g:Nat) (m:MaR) (s:Nat),s≤17→(s < 17→m.p≤m.inp.length)→(s < 17→leftM m s < f)→(s < 17→leftM m s < g)→0 < f→0 < g →
 runF f m s=runF g m s
 | 0,_,_,_,_,_,_,_,h,_=>absurd h (by omega)
 | _+1,0,_,_,_,_,_,_,_,h=>absurd h (by omega)
 | f+1,g+1,m,s,hs,hp,hf,hg,_,_=>by
   rw [runF_step,runF_step]
   by_cases h:s=17
   ·rw [if_pos h,if_pos h]
   rw [if_neg h,if_neg h]
   have hs':s < 17:=by omega
   have hp:=hp hs'
   have hf:=hf hs'
   have hg:=hg hs'
   have hpos:=left_pos m hs'
   split
   ·rfl
   refine runF_eq f g _ _ (step_le m s hs' hp) (fun h2=>?_) (fun h2=>?_) (fun h2=>?_) (by omega) (by omega)
   ·exact (left_down m s hs' hp (by omega)).1
   ·have:=(left_down m s hs' hp (by omega)).2;omega
   ·have:=(left_down m s hs' hp (by omega)).2;omega
theorem looks_enough (m:MaR) (hp:m.p≤m.inp.length):leftM m 0 < looks m.inp.length:=by
 unfold leftM looks
 rw [show 18 * (m.inp.length+1)=17 * (m.inp.length+1)+(m.inp.length+1) by omega]
 omega
theorem piece_buf (m:MaR) (c:Int):(pieceM m c).buf=[]:=by
 unfold pieceM;dsimp only
 repeat' split
 all_goals rfl
theorem parts_eq (set:Int):∀l:List Int,partsN set l=pctR set (textL l)
 | []=>rfl
 | c::r=>by
   have h:=parts_eq set r
   simp only [partsN,List.flatMap_cons] at h ⊢
   rw [h]
   simp only [partN,textL,encL,List.map_cons,List.flatMap_cons,List.map_nil,List.flatMap_nil,List.append_nil,pctR_append]
structure RdP where
 m:MaR
 us:List Int
 ps:List Int
abbrev MvP:=RdP×Nat×Nat×Nat
def endsB (c:Int):Bool:=c==-1||c==63||c==35
def endsA (m:MaR) (c:Int):Bool:=endsB c||slashM m c
def RdP.on (x:RdP) (f:MaR→MaR):RdP:={ x with m:=f x.m }
def takeM (m:MaR):MaR:={ m with buf:=[] }
def encU (set:Int) (l:List Int):List UInt8:=pctR set (textL l)
def leaveP (x:RdP) (c:Int):MvP :=
 if c=63 then (x.on askM,15,1,0) else if c=35 then (x.on markM,16,1,0) else (x,17,1,0)
def beginP (x:RdP) (c:Int):MvP:=if letC c=true then (x.on (gatherM · (lowC c)),1,1,0) else (x,2,0,0)
def darkU (m:MaR):MaR:={ m with u:={ m.u with dark:=true } }
def behindP (x:RdP):MvP :=
 if x.m.u.sch=[102,105,108,101] then (x,0,0,4)
 else if (spM x.m&&x.m.has&&decide (x.m.base.sch=x.m.u.sch))=true then (x,3,1,0)
 else if spM x.m=true then (x,7,1,0)
 else if signAt x.m.inp (x.m.p+1)=47 then (x,4,2,0)
 else (x.on darkU,14,1,0)
def schemeP (x:RdP) (c:Int):MvP :=
 if (letC c||digC c||c==43||c==45||c==46)=true then (x.on (gatherM · (lowC c)),1,1,0)
 else if c=58 then behindP (x.on schemeM)
 else (x.on (fun m=>{ m with buf:=[],p:=0 }),2,0,0)
def noSchemeP (x:RdP) (c:Int):MvP :=
 if (!x.m.has||(x.m.base.dark&&c != 35))=true then (x,0,0,4)
 else if x.m.base.dark=true then leaveP (x.on (fun m=>{ m with u:=m.base })) c
 else (x,5,0,0)
def slashOrP (x:RdP) (c:Int):MvP:=if c=47∧signAt x.m.inp (x.m.p+1)=47 then (x,8,2,0) else (x,5,0,0)
def slashP (x:RdP) (c:Int):MvP:=if c=47 then (x,9,1,0) else (x,13,0,0)
def relSchM (m:MaR):MaR:={ m with u:={ m.u with sch:=m.base.sch } }
def noQueryM (m:MaR):MaR:={ m with u:={ m.u with hasQ:=false,qry:=[] } }
def relativeP (x:RdP) (c:Int):MvP :=
 if slashM (relSchM x.m) c=true then (x.on relSchM,6,1,0)
 else if endsB c=true then leaveP (x.on (fun m=>baseM (relSchM m))) c
 else (x.on (fun m=>shortM (noQueryM (baseM (relSchM m)))),13,0,0)
def relSlashP (x:RdP) (c:Int):MvP :=
 if (spM x.m&&slashM x.m c)=true then (x,8,1,0)
 else if c=47 then (x,9,1,0)
 else (x.on ownM,13,0,0)
def slashesP (x:RdP) (c:Int):MvP:=if c=47∧signAt x.m.inp (x.m.p+1)=47 then (x,8,2,0) else (x,8,0,0)
def skipP (x:RdP) (c:Int):MvP:=if c=47∨c=92 then (x,8,1,0) else (x,9,0,0)
def addC (colon:Bool) (us ps:List Int) (c:Int):List Int×List Int:=if colon=true then (us,ps++[c]) else (us++[c],ps)
def credS (l:List Int) (colon:Bool) (us ps:List Int):Bool×List Int×List Int :=
 match l with
 | []=>(colon,us,ps)
 | c::r=>if c=58∧colon=false then credS r true us ps else credS r colon (addC colon us ps c).1 (addC colon us ps c).2
def credB (x:RdP):List Int×List Int:=if x.m.seen=true then addC x.m.colon x.us x.ps 64 else (x.us,x.ps)
def credP (x:RdP):RdP :=
 {m:={ x.m with seen:=true,colon:=(credS x.m.buf x.m.colon (credB x).1 (credB x).2).1,buf:=[] },
  us:=(credS x.m.buf x.m.colon (credB x).1 (credB x).2).2.1,ps:=(credS x.m.buf x.m.colon (credB x).1 (credB x).2).2.2 }
def authM (x:RdP):MaR:={ x.m with u:={ x.m.u with usr:=encU 6 x.us,pas:=encU 6 x.ps },p:=x.m.p-x.m.buf.length,buf:=[] }
def authP (x:RdP) (c:Int):MvP :=
 if c=64 then (credP x,9,1,0)
 else if endsA x.m c=false then (x.on (gatherM · c),9,1,0)
 else if x.m.seen=true∧x.m.buf=[] then (x,0,0,6)
 else ({ x with m:=authM x },10,0,0)
def leaveHostP (x:RdP) (to by_:Nat) (may:Bool):MvP :=
 if x.m.buf=[]∧may=false then (x,0,0,6)
 else if (hostR (textL x.m.buf) (spM x.m)).2≠0 then (x,0,0,(hostR (textL x.m.buf) (spM x.m)).2)
 else (x.on (fun m=>(hostM m).1),to,by_,0)
def hostP (x:RdP) (c:Int):MvP :=
 if c=58∧x.m.brack=false then leaveHostP x 11 1 false
 else if endsA x.m c=true then leaveHostP x 12 0 (!spM x.m)
 else (x.on (fun m=>gatherM { m with brack:=if c=91 then true else if c=93 then false else m.brack } c),10,1,0)
def portNumP (l:List Int):Int:=l.foldl (fun n c=>min (n * 10+c-48) 65536) 0
def portM (m:MaR):MaR :=
 {m with buf:=[],u:={ m.u with port:=if spM m=false∨portNumP m.buf≠(specialN m.u.sch:Int) then portNumP m.buf else m.u.port } }
def portP (x:RdP) (c:Int):MvP :=
 if digC c=true then (x.on (gatherM · c),11,1,0)
 else if endsA x.m c=false then (x,0,0,4)
 else if x.m.buf=[] then (x,12,0,0)
 else if 65535 < portNumP x.m.buf then (x,0,0,1)
 else (x.on portM,12,0,0)
def startP (x:RdP) (c:Int):MvP :=
 if slashM x.m c=true then (x,13,1,0)
 else if (!spM x.m&&endsB c)=true then leaveP x c
 else (x,13,0,0)
def pathP (x:RdP) (c:Int):MvP :=
 if (!slashM x.m c&&!endsB c)=true then (x.on (gatherM · c),13,1,0)
 else if endsB c=true then leaveP (x.on (pieceM · c)) c
 else (x.on (pieceM · c),13,1,0)
def darkP (x:RdP) (c:Int):MvP :=
 if endsB c=false then (x.on (gatherM · c),14,1,0)
 else leaveP (x.on (fun m=>{ m with buf:=[],u:={ m.u with txt:=encU 1 m.buf } })) c
def queryU (m:MaR):MaR:={ m with buf:=[],u:={ m.u with qry:=encU (if spM m=true then 4 else 3) m.buf } }
def queryP (x:RdP) (c:Int):MvP :=
 if c≠35∧c≠-1 then (x.on (gatherM · c),15,1,0)
 else leaveP (x.on queryU) c
def fragU (m:MaR):MaR:={ m with buf:=[],u:={ m.u with frg:=encU 2 m.buf } }
def fragP (x:RdP) (c:Int):MvP :=
 if c≠-1 then (x.on (gatherM · c),16,1,0) else (x.on fragU,17,1,0)
def stepP (x:RdP) (s:Nat) (c:Int):MvP :=
 match s with
 | 0=>beginP x c
 | 1=>schemeP x c
 | 2=>noSchemeP x c
 | 3=>slashOrP x c
 | 4=>slashP x c
 | 5=>relativeP x c
 | 6=>relSlashP x c
 | 7=>slashesP x c
 | 8=>skipP x c
 | 9=>authP x c
 | 10=>hostP x c
 | 11=>portP x c
 | 12=>startP x c
 | 13=>pathP x c
 | 14=>darkP x c
 | 15=>queryP x c
 | _=>fragP x c
def behP (r:MvP):RdP:=r.1.on (fun m=>{ m with p:=m.p+r.2.2.1 })
end Go.Proofs.YtigfgloenjoeoaaGreatDoor
namespace Go.Proofs.YtigfgloenjoeoaaGreatDoor
open Go.RowKit
def byteInts (b:List UInt8):List Int:=b.map fun c=>(c.toNat:Int)
end Go.Proofs.YtigfgloenjoeoaaGreatDoor
namespace Go.Proofs.YtigfgloenjoeoaaGreatDoor
def Good (p:List Int):Prop:=∀c∈p,kindOf c=1∧c≠46
theorem kind_isS {c:Int} (h:kindOf c=1):isS c=true:=by
 rcases Bool.eq_false_or_eq_true (isS c) with g | g
 ·exact g
 ·have:kindOf c=4:=kind_barred (by unfold barred;rw [g];rfl)
  rw [this] at h;cases h
theorem Good.all {p:List Int} (h:Good p):p.all isS=true:=List.all_eq_true.2 fun c hc=>kind_isS (h c hc).1
theorem kind_tell:(List.range 128).all (fun n=>!(n==45||(decide (48≤n)&&decide (n≤57))||(decide (97≤n)&&decide (n≤122)))||(kindOf (n:Int)==1))=true:=by decide +kernel
theorem kind_digit {n:Nat} (h:n=45∨(48≤n∧n≤57)∨(97≤n∧n≤122)):kindOf (n:Int)=1:=by
 have h1:=List.all_eq_true.1 kind_tell n (List.mem_range.2 (by omega))
 have h2:(n==45||(decide (48≤n)&&decide (n≤57))||(decide (97≤n)&&decide (n≤122)))=true:=by
  rcases h with h | h | h
  ·simp [h]
  ·simp [h.1,h.2]
  ·simp [h.1,h.2]
 rw [h2] at h1
 simpa using h1
theorem enc_low {c:Int} (h0:0≤c) (h1:c≤127):encN c.toNat=[b8 c.toNat]:=by unfold encN;rw [if_pos (by omega)]
theorem fix_low {c:Int} (h0:0≤c) (h1:c≤127):fix c=c:=by unfold fix;rw [if_pos (by rw [isS_iff];omega)]
theorem text_ascii:∀{p:List Int},asciiB p=true→byteInts (textL p)=p
 | [],_=>rfl
 | c::p,h=>by
   unfold asciiB at h
   rw [List.all_cons,Bool.and_eq_true] at h
   have hc:=of_decide_eq_true h.1
   have ih:=text_ascii (p:=p) h.2
   show byteInts (encL ((c::p).map fix))=_
   have e:encL ((c::p).map fix)=b8 c.toNat::textL p:=by
    rw [List.map_cons,fix_low hc.1 hc.2]
    show (encN c.toNat)++_=_
    rw [enc_low hc.1 hc.2];rfl
   rw [e]
   show ((b8 c.toNat).toNat:Int)::byteInts (textL p)=_
   rw [ih,b8_nat _ (by omega)]
   congr 1
   omega
theorem bytes_ascii {b:List UInt8} (h:∀c∈b,c.toNat < 128):asciiB (byteInts b)=true:=by
 unfold asciiB byteInts
 rw [List.all_map,List.all_eq_true]
 intro c hc
 have:=h c hc
 simp
 omega
theorem text_bytes:∀{b:List UInt8},(∀c∈b,c.toNat < 128)→textL (byteInts b)=b
 | [],_=>rfl
 | c::b,h=>by
   have hc:=h c List.mem_cons_self
   have ih:=text_bytes (b:=b) (fun x hx=>h x (List.mem_cons_of_mem _ hx))
   show encL ((((c.toNat:Int))::byteInts b).map fix)=_
   rw [List.map_cons,fix_low (by omega) (by omega)]
   show encN ((c.toNat:Int)).toNat++textL (byteInts b)=_
   rw [enc_low (by omega) (by omega),ih,Int.toNat_natCast]
   show b8 c.toNat::b=_
   rw [b8_eq rfl]
def Told (b:List UInt8):Prop:=(∀c∈b,c.toNat < 128)∧Good (byteInts b)
theorem told_ascii {p:List Int} (hp:Good p) (ha:asciiB p=true):Told (textL p):=by
 have he:=text_ascii ha
 refine ⟨fun c hc=>?_,by rw [he];exact hp⟩
 have:(c.toNat:Int)∈byteInts (textL p):=List.mem_map.2 ⟨c,hc,rfl⟩
 rw [he] at this
 have h:=of_decide_eq_true (List.all_eq_true.1 ha _ this)
 omega
theorem told_puny {p:List Int} (hp:Good p):Told ([120,110,45,45]++enc (nats p)):=by
 have key:∀c∈[120,110,45,45]++enc (nats p),c.toNat < 128∧kindOf (c.toNat:Int)=1∧(c.toNat:Int)≠46:=by
  intro c hc
  rcases List.mem_append.1 hc with h | h
  ·have hq:c.toNat=45∨(48≤c.toNat∧c.toNat≤57)∨(97≤c.toNat∧c.toNat≤122):=by
    simp at h
    rcases h with rfl | rfl | rfl<;>decide
   exact ⟨by omega,kind_digit hq,by omega⟩
  ·unfold enc at h
   rcases List.mem_append.1 h with h | h
   ·rcases List.mem_append.1 h with h | h
    ·have hl:c.toNat∈(low (nats p)).map UInt8.toNat:=List.mem_map_of_mem h
     rw [low_nat] at hl
     obtain ⟨h1,h2⟩:=List.mem_filter.1 hl
     have h2:c.toNat < 128:=by simpa using h2
     obtain ⟨x,hx,hxe⟩:=List.mem_map.1 h1
     have hk:=hp x hx
     have:((c.toNat:Nat):Int)=x:=by rw [← hxe];exact isS_nat (kind_isS hk.1)
     rw [this]
     exact ⟨h2,hk.1,hk.2⟩
    ·split at h
     ·cases h
     ·rw [List.mem_singleton.1 h]
      exact ⟨by decide,kind_digit (.inl rfl),by decide⟩
   ·obtain ⟨d,hd,rfl⟩:=List.mem_map.1 h
    have hq:=(letter_ne d (encD_digits _ _ _ _ _ _ _ d hd)).2
    exact ⟨by omega,kind_digit (.inr (by omega)),by omega⟩
 refine ⟨fun c hc=>(key c hc).1,fun x hx=>?_⟩
 obtain ⟨c,hc,rfl⟩:=List.mem_map.1 hx
 exact (key c hc).2
theorem lab_again {p:List Int} {s:ByteArray} (hp:Good p) (h:labR p=(s,0)) (hs:s.size≤4000):Told (bytesOf s)∧labR (byteInts (bytesOf s))=(s,0):=by
 cases ha:asciiB p with
 | true =>
   have hs2:s=textB p:=by
    cases hm:markB (textL p) with
    | false=>rw [labR_plain ha hm] at h;injection h with h1 h2;exact h1.symm
    | true =>
      rw [labR_back ha hm] at h
      split at h
      ·injection h with h1 h2;exact h1.symm
      ·exact absurd (show (4:Int)=0 from congrArg Prod.snd h) (by decide)
   have hb:bytesOf s=textL p:=by rw [hs2];rfl
   rw [hb,text_ascii ha]
   exact ⟨told_ascii hp ha,h⟩
 | false =>
   have hall:=hp.all
   cases hm:markB (textL p) with
   | true=>rw [labR_mark ha hm] at h;exact absurd (show (4:Int)=0 from congrArg Prod.snd h) (by decide)
   | false =>
     have he:(encR p).2=0:=by
      rcases Classical.em ((encR p).2=0) with g | g
      ·exact g
      ·rw [labR_bad ha hm g] at h;exact absurd (congrArg Prod.snd h) g
     rw [labR_high ha hm he] at h
     injection h with h1 h2
     have hl:¬256 < p.length:=fun g=>by rw [encR_long g] at he;exact absurd he (by decide)
     have hen:encR p=(strOf (enc (nats p)),0):=encR_ok hl hall
     have hben:bytesOf (encR p).1=enc (nats p):=by rw [hen];rfl
     rw [hben] at h1
     have hb:bytesOf s=[120,110,45,45]++enc (nats p):=by rw [← h1];rfl
     have ht:=told_puny hp
     have hsz:(enc (nats p)).length+4≤4000:=by rw [← bytesOf_len,hb] at hs;simp at hs;omega
     rw [hb]
     refine ⟨ht,?_⟩
     have hti:=text_bytes ht.1
     have hmk:markB (textL (byteInts ([120,110,45,45]++enc (nats p))))=true:=by rw [hti];rfl
     rw [labR_back (bytes_ascii ht.1) hmk]
     have hdr:(textL (byteInts ([120,110,45,45]++enc (nats p)))).drop 4=enc (nats p):=by rw [hti];rfl
     rw [hdr]
     have hdec:decR (strOf (enc (nats p)))=(nats p,0):=decR_some (by rw [strOf_size];omega) (dec_enc_puny _ (by simp [nats];omega) (fun c hc=>(nats_le hall c hc).1))
     have hnm:ints (nats p)=p:=nats_map hall
     have hok:backOk (strOf (enc (nats p)))=true:=by
      refine backOk_yes ?_ ?_ ?_ ?_ ?_ ?_
      ·rw [hdec]
      ·rw [hdec,hnm];exact ha
      ·rw [hdec,hnm];exact hm
      ·rw [hdec,hnm];intro c hc;rw [kind_alike];exact (hp c hc).1
      ·rw [hdec,hnm];exact he
      ·rw [hdec,hnm,hben];exact beq_self_eq_true _
     rw [if_pos hok,← h1]
     unfold textB
     rw [hti]
def goI:List Int→List Int→List (List Int)
 | cur,[]=>[cur]
 | cur,c::r=>if c=46 then cur::goI [] r else goI (cur++[c]) r
def joinA:List UInt8→Bool→List (List Int)→ByteArray×Int
 | acc,first,[]=>finA acc
 | acc,first,p::ps=>if (labR p).2=0 then joinA (acc++dotB first++bytesOf (labR p).1) false ps else (strOf [],(labR p).2)
theorem goA_pieces:∀(r:List Int) (acc:List UInt8) (first:Bool) (cur:List Int),goA acc first cur r=joinA acc first (goI cur r)
 | [],acc,first,cur=>rfl
 | c::r,acc,first,cur=>by
   unfold goA goI
   split
   ·show _=if (labR cur).2=0 then joinA _ false (goI [] r) else _
    rw [goA_pieces r]
   ·exact goA_pieces r acc first (cur++[c])
def joinL:Bool→List (List UInt8)→List UInt8
 | first,[]=>[]
 | first,b::bs=>dotB first++b++joinL false bs
theorem joinL_cons (first:Bool) (b:List UInt8) (bs:List (List UInt8)):joinL first (b::bs)=dotB first++b++joinL false bs:=rfl
theorem joinA_ok:∀(ps:List (List Int)) (acc:List UInt8) (first:Bool),(∀p∈ps,(labR p).2=0)→joinA acc first ps=finA (acc++joinL first (ps.map fun p=>bytesOf (labR p).1))
 | [],acc,first,_=>by simp [joinA,joinL]
 | p::ps,acc,first,h=>by
   unfold joinA
   rw [if_pos (h p List.mem_cons_self),joinA_ok ps _ false (fun q hq=>h q (List.mem_cons_of_mem _ hq))]
   simp [joinL]
theorem joinA_inv:∀(ps:List (List Int)) (acc:List UInt8) (first:Bool) (s:ByteArray),joinA acc first ps=(s,0)→∀p∈ps,(labR p).2=0
 | [],acc,first,s,_=>by intro p hp;cases hp
 | q::ps,acc,first,s,h=>by
   unfold joinA at h
   split at h
   ·intro p hp
    rcases List.mem_cons.1 hp with rfl | hp
    ·assumption
    ·exact joinA_inv ps _ false s h p hp
   ·rename_i hn
    exact absurd (congrArg Prod.snd h) hn
theorem goI_mem:∀(r cur p:List Int),p∈goI cur r→∀c∈p,c∈cur∨(c∈r∧c≠46)
 | [],cur,p,h=>by
   intro c hc
   simp [goI] at h
   subst h
   exact .inl hc
 | x::r,cur,p,h=>by
   unfold goI at h
   intro c hc
   split at h
   ·rcases List.mem_cons.1 h with rfl | h
    ·exact .inl hc
    ·rcases goI_mem r [] p h c hc with g | g
     ·cases g
     ·exact .inr ⟨List.mem_cons_of_mem _ g.1,g.2⟩
   ·rename_i hx
    rcases goI_mem r (cur++[x]) p h c hc with g | g
    ·rcases List.mem_append.1 g with g | g
     ·exact .inl g
     ·rw [List.mem_singleton.1 g];exact .inr ⟨List.mem_cons_self,hx⟩
    ·exact .inr ⟨List.mem_cons_of_mem _ g.1,g.2⟩
theorem goI_good {m:List Int} (h:∀c∈m,kindOf c=1):∀p∈goI [] m,Good p:=by
 intro p hp c hc
 rcases goI_mem m [] p hp c hc with g | g
 ·cases g
 ·exact ⟨h c g.1,g.2⟩
theorem goI_some:∀(r cur:List Int),goI cur r≠[]
 | [],cur=>by simp [goI]
 | x::r,cur=>by
   unfold goI
   split
   ·simp
   ·exact goI_some r _
theorem goI_piece:∀(b cur r:List Int),(∀c∈b,c≠46)→goI cur (b++r)=goI (cur++b) r
 | [],cur,r,_=>by simp
 | x::b,cur,r,h=>by
   show (if x=46 then _ else goI (cur++[x]) (b++r))=_
   rw [if_neg (h x List.mem_cons_self),goI_piece b _ r (fun c hc=>h c (List.mem_cons_of_mem _ hc))]
   simp
theorem goI_join:∀(bs:List (List UInt8)) (b:List UInt8),(∀x∈b::bs,∀c∈byteInts x,c≠46)→goI [] (byteInts (b++joinL false bs))=(b::bs).map byteInts
 | [],b,h=>by
   show goI [] (byteInts (b++[]))=[byteInts b]
   rw [List.append_nil]
   have:=goI_piece (byteInts b) [] [] (h b List.mem_cons_self)
   rw [List.append_nil] at this
   rw [this];rfl
 | d::bs,b,h=>by
   have e:byteInts (b++joinL false (d::bs))=byteInts b++46::byteInts (d++joinL false bs):=by
    rw [joinL_cons]
    unfold byteInts dotB
    simp
   rw [e,goI_piece (byteInts b) [] _ (h b List.mem_cons_self),List.nil_append]
   show (if (46:Int)=46 then byteInts b::goI [] _ else _)=_
   rw [if_pos rfl,goI_join bs d (fun x hx=>h x (List.mem_cons_of_mem _ hx))]
   rfl
theorem join_told:∀(bs:List (List UInt8)) (first:Bool),(∀b∈bs,Told b)→∀c∈joinL first bs,c.toNat < 128∧kindOf (c.toNat:Int)=1
 | [],first,_=>by intro c hc;cases hc
 | b::bs,first,h=>by
   intro c hc
   unfold joinL at hc
   rcases List.mem_append.1 hc with hc | hc
   ·rcases List.mem_append.1 hc with hc | hc
    ·unfold dotB at hc
     split at hc
     ·cases hc
     ·rw [List.mem_singleton.1 hc]
      exact ⟨by decide,by decide +kernel⟩
    ·have ht:=h b List.mem_cons_self
     exact ⟨ht.1 c hc,(ht.2 _ (List.mem_map.2 ⟨c,hc,rfl⟩)).1⟩
   ·exact join_told bs false (fun x hx=>h x (List.mem_cons_of_mem _ hx)) c hc
theorem joinL_len:∀(bs:List (List UInt8)) (first:Bool) (b:List UInt8),b∈bs→b.length≤(joinL first bs).length
 | x::bs,first,b,h=>by
   unfold joinL
   rw [List.length_append,List.length_append]
   rcases List.mem_cons.1 h with rfl | h
   ·omega
   ·have:=joinL_len bs false b h;omega
theorem asc_inv {l:List Int} {s:ByteArray} (h:ascR l=(s,0)):∃ps:List (List Int),ps≠[]∧(∀p∈ps,Good p∧(labR p).2=0∧(labR p).1.size≤253)∧bytesOf s=joinL true (ps.map fun p=>bytesOf (labR p).1)∧s.size≤253:=by
 unfold ascR at h
 split at h
 ·exact absurd (show (11:Int)=0 from congrArg Prod.snd h) (by decide)
 ·split at h
  ·rw [goA_pieces] at h
   have hl:=joinA_inv _ _ _ _ h
   rw [joinA_ok _ _ _ hl,List.nil_append] at h
   unfold finA at h
   split at h
   ·exact absurd (show (3:Int)=0 from congrArg Prod.snd h) (by decide)
   ·rename_i hle
    have hs:strOf (joinL true ((goI [] (mapOf l)).map fun p=>bytesOf (labR p).1))=s:=congrArg Prod.fst h
    have hb:bytesOf s=joinL true ((goI [] (mapOf l)).map fun p=>bytesOf (labR p).1):=by rw [← hs];rfl
    refine ⟨goI [] (mapOf l),goI_some _ _,fun p hp=>⟨goI_good (map_valid l) p hp,hl p hp,?_⟩,hb,by rw [← bytesOf_len,hb];omega⟩
    have:=joinL_len ((goI [] (mapOf l)).map fun p=>bytesOf (labR p).1) true (bytesOf (labR p).1) (List.mem_map.2 ⟨p,hp,rfl⟩)
    rw [bytesOf_len] at this
    omega
  ·exact absurd (show (4:Int)=0 from congrArg Prod.snd h) (by decide)
theorem lab_pair {p:List Int} (h:(labR p).2=0):labR p=((labR p).1,0):=by rw [← h]
theorem asc_again {l:List Int} {s:ByteArray} (h:ascR l=(s,0)):(∀c∈bytesOf s,c.toNat < 128∧kindOf (c.toNat:Int)=1)∧ascR (byteInts (bytesOf s))=(s,0):=by
 obtain ⟨ps,hne,hp,hb,hsz⟩:=asc_inv h
 have hag:∀p∈ps,Told (bytesOf (labR p).1)∧labR (byteInts (bytesOf (labR p).1))=((labR p).1,0):=fun p hq=>lab_again (hp p hq).1 (lab_pair (hp p hq).2.1) (by have:=(hp p hq).2.2;omega)
 have hkind:∀c∈bytesOf s,c.toNat < 128∧kindOf (c.toNat:Int)=1:=by
  rw [hb]
  refine join_told _ _ ?_
  intro b hbm
  obtain ⟨p,hq,rfl⟩:=List.mem_map.1 hbm
  exact (hag p hq).1
 refine ⟨hkind,?_⟩
 have hv:∀c∈byteInts (bytesOf s),kindOf c=1:=by
  intro c hc
  obtain ⟨x,hx,rfl⟩:=List.mem_map.1 hc
  exact (hkind x hx).2
 unfold ascR
 rw [if_neg (by unfold byteInts;rw [List.length_map,bytesOf_len];omega),if_pos (fine_all (fine_of_valid hv)),map_again hv,goA_pieces]
 cases ps with
 | nil=>exact absurd rfl hne
 | cons p ps =>
   have hpieces:goI [] (byteInts (bytesOf s))=(p::ps).map fun p=>byteInts (bytesOf (labR p).1):=by
    rw [hb]
    show goI [] (byteInts (dotB true++bytesOf (labR p).1++joinL false (ps.map fun p=>bytesOf (labR p).1)))=_
    have e:dotB true++bytesOf (labR p).1=bytesOf (labR p).1:=rfl
    rw [e,goI_join (ps.map fun p=>bytesOf (labR p).1) (bytesOf (labR p).1) ?_]
    ·simp
    ·intro x hx c hc
     have:∃q∈p::ps,bytesOf (labR q).1=x:=by
      rcases List.mem_cons.1 hx with rfl | hx
      ·exact ⟨p,List.mem_cons_self,rfl⟩
      ·obtain ⟨q,hq,rfl⟩:=List.mem_map.1 hx
       exact ⟨q,List.mem_cons_of_mem _ hq,rfl⟩
     obtain ⟨q,hq,rfl⟩:=this
     exact ((hag q hq).1.2 c hc).2
   rw [hpieces,joinA_ok _ _ _ ?_,List.nil_append]
   ·have e:((p::ps).map fun p=>byteInts (bytesOf (labR p).1)).map (fun p=>bytesOf (labR p).1)=(p::ps).map fun p=>bytesOf (labR p).1:=by
     rw [List.map_map]
     refine List.map_congr_left fun q hq=>?_
     simp only [Function.comp]
     rw [(hag q hq).2]
    rw [e,← hb]
    unfold finA
    rw [if_neg (by rw [bytesOf_len];omega)]
    rfl
   ·intro q hq
    obtain ⟨r,hr,rfl⟩:=List.mem_map.1 hq
    rw [(hag r hr).2]
theorem byte_lt' (c:UInt8):c.toNat < 256:=c.toNat_lt
theorem any_none' {p:UInt8→Bool} {l:List UInt8} (h:l.any p=false):∀c∈l,p c=false:=by
 intro c hc
 rw [List.any_eq_false] at h
 simpa using h c hc
theorem next_low {x:UInt8} (h:x.toNat < 128) (r:List UInt8):nextN (x::r)=(x.toNat,1,true):=by
 have q:encN x.toNat=[x]:=by
  have e:=enc_low (c:=(x.toNat:Int)) (by omega) (by omega)
  rw [Int.toNat_natCast] at e
  rw [e]
  unfold b8
  rw [UInt8.ofNat_toNat]
 have e:=next_enc x.toNat r (by rw [isS_iff];omega)
 rw [q] at e
 exact e
theorem lossy_low:∀(l:List UInt8),(∀c∈l,c.toNat < 128)→lossyL l=byteInts l
 | [],_=>rfl
 | x::r,h=>by
   rw [lossy_cons (by simp),next_low (h x List.mem_cons_self) r]
   show (x.toNat:Int)::lossyL ((x::r).drop 1)=_
   rw [List.drop_one,List.tail_cons,lossy_low r (fun c hc=>h c (List.mem_cons_of_mem _ hc))]
   rfl
theorem encR_pos (l:List Int):0≤(encR l).2:=by
 unfold encR
 split
 ·decide
 ·split<;>simp
theorem labR_pos (l:List Int):0≤(labR l).2:=by
 unfold labR
 split
 ·split
  ·simp
  ·split
   ·simp
   ·exact encR_pos l
 ·split
  ·simp
  ·split<;>simp
theorem joinA_pos:∀(ps:List (List Int)) (acc:List UInt8) (first:Bool),0≤(joinA acc first ps).2
 | [],acc,first=>by unfold joinA finA;split<;>simp
 | p::ps,acc,first=>by
   unfold joinA
   split
   ·exact joinA_pos ps _ false
   ·exact labR_pos p
theorem ascR_pos (l:List Int):0≤(ascR l).2:=by
 unfold ascR
 split
 ·simp
 ·split
  ·rw [goA_pieces]
   exact joinA_pos _ _ _
  ·simp
theorem bad_sign:(List.range 256).all (fun n=>(!(lowB (UInt8.ofNat n))||!(n==46||(decide (48≤n)&&decide (n≤57))||n==97))&&(!(badB (UInt8.ofNat n))||!(n==46||(decide (48≤n)&&decide (n≤57))||n==97))&&(!(digB 10 (UInt8.ofNat n))||(decide (48≤n)&&decide (n≤57)))&&(!(digB 16 (UInt8.ofNat n))||(n != 93&&n != 91)))=true:=by decide +kernel
theorem bad_at (c:UInt8):((!(lowB c)||!(c.toNat==46||(decide (48≤c.toNat)&&decide (c.toNat≤57))||c.toNat==97))&&(!(badB c)||!(c.toNat==46||(decide (48≤c.toNat)&&decide (c.toNat≤57))||c.toNat==97))&&(!(digB 10 c)||(decide (48≤c.toNat)&&decide (c.toNat≤57)))&&(!(digB 16 c)||(c.toNat != 93&&c.toNat != 91)))=true:=by
 have h:=List.all_eq_true.1 bad_sign c.toNat (List.mem_range.2 (byte_lt' c))
 rw [UInt8.ofNat_toNat] at h
 exact h
def numB (c:UInt8):Prop:=c.toNat=46∨(48≤c.toNat∧c.toNat≤57)∨c.toNat=97
theorem dig10 {c:UInt8} (h:digB 10 c=true):48≤c.toNat∧c.toNat≤57:=by
 have e:=bad_at c
 rw [h] at e
 simp only [Bool.not_true,Bool.false_or,Bool.and_eq_true,decide_eq_true_eq] at e
 exact e.1.2
theorem digs_memHq {b:Nat} {l:List UInt8} (h:digsR b l=true):∀c∈l,digB b c=true:=fun c hc=>List.all_eq_true.1 h c hc
theorem dec_digs {n:Nat} (h:n < 18446744073709551616):∀c∈digsOf 10 n,48≤c.toNat∧c.toNat≤57:=fun c hc=>dig10 (digs_memHq (digsOf_facts (b:=10) (by decide) (by decide) h).2.1 c hc)
theorem joinC_mem {sep:UInt8}:∀(ps:List (List UInt8)) (c:UInt8),c∈joinC sep ps→c=sep∨∃p∈ps,c∈p
 | [],c,h=>by cases h
 | [p],c,h=>.inr ⟨p,List.mem_cons_self,h⟩
 | p::q::r,c,h=>by
   rw [joinC_cons sep p (by simp)] at h
   rcases List.mem_append.1 h with h | h
   ·exact .inr ⟨p,List.mem_cons_self,h⟩
   ·rcases List.mem_cons.1 h with h | h
    ·exact .inl h
    ·rcases joinC_mem (q::r) c h with h | ⟨x,hx,h⟩
     ·exact .inl h
     ·exact .inr ⟨x,List.mem_cons_of_mem _ hx,h⟩
theorem six_text {p:List Nat} (hl:p.length=8) (h:∀x∈p,x < 65536) (sp:Bool):hostR (91::(print6R p++[93])) sp=((3,[],0,p),0):=by
 have h82:=print6_len hl h
 unfold hostR
 rw [if_neg (by simp;omega),if_pos List.head?_cons]
 unfold bracketR
 rw [if_neg]
 ·rw [List.tail_cons,List.dropLast_concat,back6 hl h]
  rfl
 ·rintro (e | e)
  ·apply e
   rw [← List.cons_append,List.getLast?_concat]
  ·simp at e
theorem print4_join (n:Nat):print4R n=digsOf 10 (n/16777216)++joinL false [digsOf 10 (n/65536%256),digsOf 10 (n/256%256),digsOf 10 (n%256)]:=by
 simp [print4R,joinC,joinL,dotB]
theorem print4_mem {n:Nat} (h:n < 4294967296):∀c∈print4R n,numB c:=by
 intro c hc
 rcases joinC_mem _ c hc with hc | ⟨x,hx,hc⟩
 ·rw [hc];exact .inl rfl
 ·simp only [List.mem_cons,List.not_mem_nil,or_false] at hx
  rcases hx with rfl | rfl | rfl | rfl<;>exact .inr (.inl (dec_digs (by omega) c hc))
theorem print4_ne {n:Nat} (h:n < 4294967296):print4R n≠[]:=by
 rw [print4_join]
 intro e
 exact dec_ne (n:=n/16777216) (by omega) (List.append_eq_nil_iff.1 e).1
end Go.Proofs.YtigfgloenjoeoaaGreatDoor
namespace Go.Proofs.YtigfgloenjoeoaaGreatDoor
open Go.RowKit
theorem iplain_calls (v:Value) (l:List Int) (w:World) (hv:IRow w v l) :
 Calls Tryz.prog 152 #[v] w fun e w'=>e=.returned (.bool (asciiB l))∧w'=w:=by
 have HV:=hid hv
 obtain ⟨a,cap,rfl,h1,h2,h3⟩:=hv
 unfold maxLen at h2
 have l2:(l.length:Int)≤(cap:Int):=by omega
 have l3:(cap:Int)≤9223372036854775807:=by omega
 obtain ⟨R,hR⟩:∃R,R=asciiB l:=⟨_,rfl⟩
 rw [← hR]
 have HR:=hid hR
 clear h1 h2 h3 hR
 go_enter Tryz.func152,Tryz.ntmps152
 go_wp2_with fail
 go_loop [7] (fun vi=>∃k:Nat,k≤l.length∧vi=.int .i64 (k:Int)∧asciiB (l.take k)=true) (fun vi=>l.length-(intOf vi).toNat)
 case atStart=>exact ⟨0,Nat.zero_le _,rfl,rfl⟩
 case round =>
  obtain ⟨k,hk,rfl,hall⟩:=hrel
  have HA:=hid hall
  have k0:(0:Int)≤(k:Int):=by omega
  clear hall
  by_cases hlt:k < l.length
  ·obtain ⟨b,off,rfl,hck⟩:=HV.out.open (Below.refl _ _) k hlt
   have k1:(k:Int) < (l.length:Int):=by omega
   have HS:=hid (ascii_snoc l k hlt)
   have HN:=hid (ascii_not l k hlt)
   have HK:=hid hlt
   generalize l[k]=c at *
   clear hlt hk
   by_cases h0:c < 0
   ·have HF:Hid (R=false):=by show _=_;rw [HR.out];exact HN.out (by omega)
    clear HS HN
    go_wp2_with fail
    go_ret
    exact ⟨by rw [HF.out];rfl,rfl⟩
   ·by_cases h1:128≤c
    ·have HF:Hid (R=false):=by show _=_;rw [HR.out];exact HN.out (by omega)
     clear HS HN
     go_wp2_with fail
     go_ret
     exact ⟨by rw [HF.out];rfl,rfl⟩
    ·have HX:Hid (asciiB (l.take (k+1))=true):=by show _=_;rw [HS.out,HA.out,decide_eq_true (by omega)];rfl
     clear HS HN
     go_wp2_with fail
     go_round
     case rel=>exact ⟨k+1,HK.out,by go_num,HX.out⟩
     case measure=>have:=HK.out;simp [intOf];omega
  ·have hkl:k=l.length:=by omega
   have HF:Hid (R=true):=by show _=_;rw [HR.out,← HA.out,hkl,List.take_length]
   have g:¬(k:Int) < (l.length:Int):=by omega
   clear hlt hk hkl
   go_wp2_with fail
   go_ret
   exact ⟨by rw [HF.out];rfl,rfl⟩
def validB (l:List Int):Bool:=l.all fun c=>kindOf c==1
theorem valid_take (l:List Int) (k:Nat) (h:k < l.length) (h1:∀c∈l.take k,kindOf c=1) (h2:kindOf l[k]=1):∀c∈l.take (k+1),kindOf c=1:=by
 intro c hc
 rw [List.take_succ_eq_append_getElem h] at hc
 rcases List.mem_append.1 hc with g | g
 ·exact h1 c g
 ·rw [List.mem_singleton.1 g];exact h2
theorem valid_not (l:List Int) (k:Nat) (h:k < l.length) (hn:kindOf l[k]≠1):validB l=false:=by
 unfold validB
 rw [List.all_eq_false]
 exact ⟨l[k],List.getElem_mem h,by simpa using hn⟩
theorem ivalid_calls (v:Value) (l:List Int) (w:World) (hv:IRow w v l) :
 Calls Tryz.prog 181 #[v] w fun e w'=>e=.returned (.bool (validB l))∧Below w.heap.size w w':=by
 have HV:=hid hv
 obtain ⟨a,cap,rfl,h1,h2,h3⟩:=hv
 unfold maxLen at h2
 have l2:(l.length:Int)≤(cap:Int):=by omega
 have l3:(cap:Int)≤9223372036854775807:=by omega
 obtain ⟨R,hR⟩:∃R,R=validB l:=⟨_,rfl⟩
 rw [← hR]
 have HR:=hid hR
 clear h1 h2 h3 hR
 go_enter Tryz.func181,Tryz.ntmps181
 go_wp2_with fail
 go_loopw [7] (fun vi wr=>∃k:Nat,k≤l.length∧vi=.int .i64 (k:Int)∧Below w.heap.size w wr∧∀c∈l.take k,kindOf c=1) (fun vi _=>l.length-(intOf vi).toNat)
 case atStart=>exact ⟨0,Nat.zero_le _,rfl,Below.refl _ _,by simp⟩
 case round =>
  obtain ⟨k,hk,rfl,hb,hall⟩:=hrel
  have HA:=hid hall
  have HB:=hid hb
  have k0:(0:Int)≤(k:Int):=by omega
  clear hall hb
  by_cases hlt:k < l.length
  ·obtain ⟨b,off,rfl,hck⟩:=HV.out.open HB.out k hlt
   have k1:(k:Int) < (l.length:Int):=by omega
   have HS:=hid (valid_take l k hlt HA.out)
   have HN:=hid (valid_not l k hlt)
   have HK:=hid hlt
   generalize l[k]=c at *
   clear hlt hk
   go_wp2_with fail
   refine (kind_calls c _).mono ?_
   rintro e w8 ⟨rfl,hb8⟩
   have HB8:=hid (below_trans HB.out hb8)
   clear hb8
   generalize kindOf c=kc at *
   by_cases h1:kc=1
   ·subst h1
    have HX:=hid (HS.out rfl)
    go_wp2_with fail
    go_roundw
    case rel=>exact ⟨k+1,HK.out,by go_num,HB8.out,HX.out⟩
    case measure=>have:=HK.out;simp [intOf];omega
   ·have HX:Hid (R=false):=by show _=_;rw [HR.out];exact HN.out h1
    have q1:(kc==1)=false:=by rw [beq_eq_false_iff_ne];exact h1
    have q2:(kc != 1)=true:=by rw [bne_iff_ne];exact h1
    clear h1
    go_wp2_with fail
    go_ret
    exact ⟨by rw [HX.out];rfl,HB8.out⟩
  ·have hkl:k=l.length:=by omega
   have HF:Hid (R=true):=by
    show _=_
    rw [HR.out]
    unfold validB
    rw [List.all_eq_true]
    intro c hc
    have h:=HA.out
    rw [hkl,List.take_length] at h
    simpa using h c hc
   have g:¬(k:Int) < (l.length:Int):=by omega
   clear hlt hk hkl
   go_wp2_with fail
   go_ret
   exact ⟨by rw [HF.out];rfl,HB.out⟩
theorem hasp_calls (s:ByteArray) (w:World) (hs:s.size≤maxLen) :
 Calls Tryz.prog 52 #[.string s,.string ⟨#[120,110,45,45]⟩] w fun e w'=>e=.returned (.bool (markB (bytesOf s)))∧w'=w:=by
 unfold maxLen at hs
 have s1:(s.size:Int)≤9223372036854775807:=by omega
 have hbl:=bytesOf_len s
 obtain ⟨R,hR⟩:∃R,R=markB (bytesOf s):=⟨_,rfl⟩
 rw [← hR]
 by_cases h4:4≤s.size
 ·have e1:(s.extract 0 4).toList=(bytesOf s).take 4:=by rw [ByteArray.toList_eq];exact extract_bytes s 4 h4
  have e2:((bytesOf s).take 4==[120,110,45,45])=R:=hR.symm
  have g:(4:Int)≤(s.size:Int):=by omega
  generalize (bytesOf s).take 4=T at *
  clear hR hbl h4 hs
  go_enter Tryz.func52,Tryz.ntmps52
  go_wp2
  go_ret
  exact ⟨rfl,rfl⟩
 ·have g:¬(4:Int)≤(s.size:Int):=by omega
  have HF:Hid (R=false):=by
   show _=_
   rw [hR]
   unfold markB
   rw [beq_eq_false_iff_ne]
   intro h
   have:=congrArg List.length h
   rw [List.length_take] at this
   simp at this
   omega
  clear hR hbl h4 hs
  go_enter Tryz.func52,Tryz.ntmps52
  go_wp2
  go_ret
  exact ⟨by rw [HF.out];rfl,rfl⟩
theorem mark_size {s:ByteArray} (h:markB (bytesOf s)=true):4≤s.size:=by
 unfold markB at h
 have h2:=congrArg List.length (beq_iff_eq.1 h)
 rw [List.length_take,bytesOf_len] at h2
 simp at h2
 omega
def cutR (s:ByteArray):ByteArray×Bool:=if markB (bytesOf s)=true then (strOf ((bytesOf s).drop 4),true) else (s,false)
theorem cutp_calls (s:ByteArray) (w:World) (hs:s.size≤maxLen) :
 Calls Tryz.prog 154 #[.string s,.string ⟨#[120,110,45,45]⟩] w fun e w'=>e=.returned (.tuple #[.string (cutR s).1,.bool (cutR s).2])∧w'=w:=by
 have HS:=hid hs
 unfold maxLen at hs
 have s1:(s.size:Int)≤9223372036854775807:=by omega
 have hbl:=bytesOf_len s
 obtain ⟨R,hR⟩:∃R,R=cutR s:=⟨_,rfl⟩
 rw [← hR]
 by_cases h4:4≤s.size
 ·have e1:(s.extract 0 4).toList=(bytesOf s).take 4:=by rw [ByteArray.toList_eq];exact extract_bytes s 4 h4
  have hcut:s.extract 4 s.size=strOf ((bytesOf s).drop 4):=str_drop (bytesOf s) 4 (by omega)
  have g:(4:Int)≤(s.size:Int):=by omega
  cases hm:markB (bytesOf s) with
  | true =>
    have e2:((bytesOf s).take 4==[120,110,45,45])=true:=hm
    have HX:Hid (R=(strOf ((bytesOf s).drop 4),true)):=by show _=_;rw [hR];unfold cutR;rw [if_pos hm]
    generalize strOf ((bytesOf s).drop 4)=t at *
    generalize (bytesOf s).take 4=T at *
    clear hR hbl h4 hs hm
    go_enter Tryz.func154,Tryz.ntmps154
    go_wp2
    go_ret2
    exact ⟨by rw [HX.out];rfl,rfl⟩
  | false =>
    have e2:((bytesOf s).take 4==[120,110,45,45])=false:=hm
    have HX:Hid (R=(s,false)):=by show _=_;rw [hR];unfold cutR;rw [if_neg (by rw [hm];decide)]
    generalize strOf ((bytesOf s).drop 4)=t at *
    generalize (bytesOf s).take 4=T at *
    clear hR hbl h4 hs hm hcut
    go_enter Tryz.func154,Tryz.ntmps154
    go_wp2
    go_ret2
    exact ⟨by rw [HX.out];rfl,rfl⟩
 ·have g:¬(4:Int)≤(s.size:Int):=by omega
  have HX:Hid (R=(s,false)):=by
   show _=_
   rw [hR]
   unfold cutR
   rw [if_neg (fun h=>h4 (mark_size h))]
  clear hR hbl h4 hs
  go_enter Tryz.func154,Tryz.ntmps154
  go_wp2
  go_ret2
  exact ⟨by rw [HX.out];rfl,rfl⟩
def byR (l:List Int):ByteArray×Int:=if markB (textL l)=true then (strOf [],4) else if (encR l).2=0 then (strOf ([120,110,45,45]++bytesOf (encR l).1),0) else (strOf [],(encR l).2)
theorem labR_by {l:List Int} (h:asciiB l=false):labR l=byR l:=by unfold labR byR;rw [if_pos h]
theorem text_size {l:List Int} (hl:l.length≤100000):(strOf (textL l)).size≤maxLen:=by
 have:=text_len l
 rw [strOf_size];unfold maxLen;omega
theorem bypuny_calls (v:Value) (l:List Int) (w:World) (hv:IRow w v l) (hl:l.length≤100000) :
 Calls Tryz.prog 153 #[v] w fun e w'=>e=.returned (.tuple #[.string (byR l).1,.int .i64 (byR l).2])∧Below w.heap.size w w':=by
 have HV:=hid hv
 have HTx:=hid (text_calls v l w hv hl)
 have HM:=hid (fun w'=>hasp_calls (strOf (textL l)) w' (text_size hl))
 have HTB:Hid (bytesOf (strOf (textL l))=textL l):=rfl
 rw [HTB.out] at HM
 obtain ⟨R,hR⟩:∃R,R=byR l:=⟨_,rfl⟩
 rw [← hR]
 have HR:=hid hR
 clear hv hl hR
 cases hmk:markB (textL l) with
 | true =>
   have HX:Hid (R=(strOf [],4)):=by show _=_;rw [HR.out];unfold byR;rw [if_pos hmk]
   rw [hmk] at HM
   clear hmk
   generalize strOf (textL l)=s at *
   go_enter Tryz.func153,Tryz.ntmps153
   go_wp2_with fail
   refine HTx.out.mono ?_
   rintro e w1 ⟨rfl,hb1⟩
   have HB1:=hid hb1
   clear hb1
   go_wp2_with fail
   refine (HM.out _).mono ?_
   rintro e w3 ⟨rfl,rfl⟩
   go_wp2_with fail
   go_ret2
   exact ⟨by rw [HX.out];rfl,HB1.out⟩
 | false =>
   have HXB:Hid ((encR l).2≠0→R=(strOf [],(encR l).2)):=fun h=>by rw [HR.out];unfold byR;rw [if_neg (by rw [hmk];decide),if_neg h]
   have HXG:Hid ((encR l).2=0→R=(strOf ([120,110,45,45]++bytesOf (encR l).1),0)):=fun h=>by rw [HR.out];unfold byR;rw [if_neg (by rw [hmk];decide),if_pos h]
   rw [hmk] at HM
   have HPu:=hid (fun w' hv=>pencode_calls v l w' hv)
   have hps:=encR_size l
   clear hmk
   generalize strOf (textL l)=s at *
   generalize encR l=X at *
   obtain ⟨p,n⟩:=X
   simp only at HXB HXG HPu hps
   have p1:(p.size:Int)≤10000000:=by omega
   have hj:=str_join p
   clear hps
   by_cases hn:n=0
   ·subst hn
    have HX:=hid (HXG.out rfl)
    rw [← hj] at HX
    clear HXB HXG hj
    go_enter Tryz.func153,Tryz.ntmps153
    go_wp2_with fail
    refine HTx.out.mono ?_
    rintro e w1 ⟨rfl,hb1⟩
    have HB1:=hid hb1
    have HV1:=hid (HV.out.below hb1)
    clear hb1
    go_wp2_with fail
    refine (HM.out _).mono ?_
    rintro e w3 ⟨rfl,rfl⟩
    go_wp2_with fail
    refine (HPu.out _ HV1.out).mono ?_
    rintro e w4 ⟨rfl,hb4⟩
    have HB4:=hid (below_trans HB1.out hb4)
    clear hb4
    go_wp2_with fail
    go_ret2
    exact ⟨by rw [HX.out];rfl,HB4.out⟩
   ·have HX:=hid (HXB.out hn)
    have n1:(n==0)=false:=by rw [beq_eq_false_iff_ne];exact hn
    have n2:(n != 0)=true:=by rw [bne_iff_ne];exact hn
    clear HXB HXG hn hj
    go_enter Tryz.func153,Tryz.ntmps153
    go_wp2_with fail
    refine HTx.out.mono ?_
    rintro e w1 ⟨rfl,hb1⟩
    have HB1:=hid hb1
    have HV1:=hid (HV.out.below hb1)
    clear hb1
    go_wp2_with fail
    refine (HM.out _).mono ?_
    rintro e w3 ⟨rfl,rfl⟩
    go_wp2_with fail
    refine (HPu.out _ HV1.out).mono ?_
    rintro e w4 ⟨rfl,hb4⟩
    have HB4:=hid (below_trans HB1.out hb4)
    clear hb4
    go_wp2_with fail
    go_ret2
    exact ⟨by rw [HX.out];rfl,HB4.out⟩
theorem byR_back {u:List Int} {t:ByteArray}:((byR u).2=0∧(bytesOf (byR u).1==[120,110,45,45]++bytesOf t)=true)↔(markB (textL u)=false∧(encR u).2=0∧(bytesOf (encR u).1==bytesOf t)=true):=by
 unfold byR
 cases hm:markB (textL u) with
 | true=>simp
 | false =>
   rw [if_neg (by decide)]
   by_cases he:(encR u).2=0
   ·rw [if_pos he]
    simp [he,bytesOf,strOf]
   ·rw [if_neg he]
    simp [he]
theorem backOk_by {t:ByteArray} (h1:(decR t).2=0) (h2:asciiB (ints (decR t).1)=false) (h3:validB (ints (decR t).1)=true):backOk t=(decide ((byR (ints (decR t).1)).2=0)&&(bytesOf (byR (ints (decR t).1)).1==[120,110,45,45]++bytesOf t)):=by
 have hk:((ints (decR t).1).all fun c=>kindR c==1)=true:=by
  unfold validB at h3
  rw [List.all_eq_true] at h3 ⊢
  intro c hc
  rw [kind_alike]
  exact h3 c hc
 have hb:=byR_back (u:=ints (decR t).1) (t:=t)
 unfold backOk
 rw [h1,h2,hk]
 cases hr:(decide ((byR (ints (decR t).1)).2=0)&&(bytesOf (byR (ints (decR t).1)).1==[120,110,45,45]++bytesOf t)) with
 | true =>
   rw [Bool.and_eq_true,decide_eq_true_eq] at hr
   obtain ⟨g1,g2,g3⟩:=hb.1 hr
   rw [g1,g2,g3];rfl
 | false =>
   have hn:¬(markB (textL (ints (decR t).1))=false∧(encR (ints (decR t).1)).2=0∧(bytesOf (encR (ints (decR t).1)).1==bytesOf t)=true):=by
    intro h
    have g:=hb.2 h
    rw [← decide_eq_true_eq (p:=(byR (ints (decR t).1)).2=0),← Bool.and_eq_true,hr] at g
    cases g
   cases h4:markB (textL (ints (decR t).1)) with
   | true=>rfl
   | false =>
     cases h5:(encR (ints (decR t).1)).2==0 with
     | false=>rfl
     | true =>
       cases h6:(bytesOf (encR (ints (decR t).1)).1==bytesOf t) with
       | false=>rfl
       | true=>exact absurd ⟨h4,beq_iff_eq.1 h5,h6⟩ hn
theorem backOk_valid {t:ByteArray} (h:validB (ints (decR t).1)=false):backOk t=false:=by
 unfold validB at h
 rw [List.all_eq_false] at h
 obtain ⟨c,hc,hk⟩:=h
 exact backOk_kind hc (by rw [kind_alike];simpa using hk)
theorem written_calls (t:ByteArray) (w:World) (ht:t.size≤maxLen) (ht2:t.size≤1000000000) :
 Calls Tryz.prog 155 #[.string t] w fun e w'=>e=.returned (.bool (backOk t))∧Below w.heap.size w w':=by
 have t1:(t.size:Int)≤1000000000:=by omega
 have HD:=hid (fun w'=>pdecode_calls t w' ht)
 have HU256:=hid (decR_most t)
 have HB0:=hid (backOk_err (t:=t))
 have HB1:=hid (backOk_ascii (t:=t))
 have HB2:=hid (backOk_valid (t:=t))
 have HB3:=hid (backOk_by (t:=t))
 have hj:=str_join t
 have etj:=toList_bytes (strOf ([120,110,45,45]++bytesOf t))
 have etb:bytesOf (strOf ([120,110,45,45]++bytesOf t))=[120,110,45,45]++bytesOf t:=rfl
 obtain ⟨R,hR⟩:∃R,R=backOk t:=⟨_,rfl⟩
 rw [← hR] at HB0 HB1 HB2 HB3
 rw [← hR]
 obtain ⟨mt,hmt⟩:∃mt,mt=strOf ([120,110,45,45]++bytesOf t):=⟨_,rfl⟩
 rw [← hmt] at hj etj etb
 rw [← etb] at HB3
 clear ht ht2 hR hmt etb
 generalize decR t=D at *
 obtain ⟨du,dn⟩:=D
 simp only at HB0 HB1 HB2 HB3 HU256
 unfold DecPost at HD
 simp only at HD
 generalize ints du=u at *
 have HBy:=hid (fun vu w' hvu=>bypuny_calls vu u w' hvu (by have:=HU256.out;omega))
 by_cases hdn:dn=0
 ·subst hdn
  cases hua:asciiB u with
  | true =>
    have HX:Hid (R=false):=hid (HB1.out hua)
    have HUA:=hid hua
    clear hua HB0 HB1 HB2 HB3
    go_enter Tryz.func155,Tryz.ntmps155
    go_wp2_with fail
    refine (HD.out _).mono ?_
    rintro e w1 ⟨⟨vu,rfl,hvu⟩,hb1⟩
    have HB1:=hid hb1
    have HU1:=hid hvu
    clear hb1 hvu
    go_wp2_with fail
    refine (iplain_calls _ u _ HU1.out).mono ?_
    rintro e w2 ⟨rfl,rfl⟩
    rw [HUA.out]
    go_wp2_with fail
    go_ret
    exact ⟨by rw [HX.out];rfl,HB1.out⟩
  | false =>
    have HUA:=hid hua
    cases hva:validB u with
    | false =>
      have HX:Hid (R=false):=hid (HB2.out hva)
      have HVA:=hid hva
      clear hua hva HB0 HB1 HB2 HB3
      go_enter Tryz.func155,Tryz.ntmps155
      go_wp2_with fail
      refine (HD.out _).mono ?_
      rintro e w1 ⟨⟨vu,rfl,hvu⟩,hb1⟩
      have HB1:=hid hb1
      have HU1:=hid hvu
      clear hb1 hvu
      go_wp2_with fail
      refine (iplain_calls _ u _ HU1.out).mono ?_
      rintro e w2 ⟨rfl,rfl⟩
      rw [HUA.out]
      go_wp2_with fail
      refine (ivalid_calls _ u _ HU1.out).mono ?_
      rintro e w3 ⟨rfl,hb3⟩
      have HB3:=hid (below_trans HB1.out hb3)
      rw [HVA.out]
      clear hb3
      go_wp2_with fail
      go_ret
      exact ⟨by rw [HX.out];rfl,HB3.out⟩
    | true =>
      have HX:=hid (HB3.out (by first | rfl | trivial) hua hva)
      have HVA:=hid hva
      clear hua hva HB0 HB1 HB2 HB3
      generalize byR u=Y at *
      obtain ⟨p,n⟩:=Y
      simp only at HX HBy
      have ep:=toList_bytes p
      by_cases hn:n=0
      ·subst hn
       obtain ⟨q,hq⟩:∃q,q=(bytesOf p==bytesOf mt):=⟨_,rfl⟩
       have HQ:Hid (R=q):=by show _=_;rw [HX.out,hq];simp
       have hq2:=hq.symm
       clear HX hq
       go_enter Tryz.func155,Tryz.ntmps155
       go_wp2_with fail
       refine (HD.out _).mono ?_
       rintro e w1 ⟨⟨vu,rfl,hvu⟩,hb1⟩
       have HB1:=hid hb1
       have HU1:=hid hvu
       clear hb1 hvu
       go_wp2_with fail
       refine (iplain_calls _ u _ HU1.out).mono ?_
       rintro e w2 ⟨rfl,rfl⟩
       rw [HUA.out]
       go_wp2_with fail
       refine (ivalid_calls _ u _ HU1.out).mono ?_
       rintro e w3 ⟨rfl,hb3⟩
       have HB3:=hid (below_trans HB1.out hb3)
       have HU3:=hid (HU1.out.below hb3)
       rw [HVA.out]
       clear hb3
       go_wp2_with fail
       refine (HBy.out _ _ HU3.out).mono ?_
       rintro e w4 ⟨rfl,hb4⟩
       have HB4:=hid (below_trans HB3.out hb4)
       clear hb4
       go_wp2_with fail
       go_ret
       exact ⟨by rw [HQ.out];rfl,HB4.out⟩
      ·have HQ:Hid (R=false):=by show _=_;rw [HX.out,decide_eq_false hn];rfl
       have n1:(n==0)=false:=by rw [beq_eq_false_iff_ne];exact hn
       have n2:(n != 0)=true:=by rw [bne_iff_ne];exact hn
       clear HX hn
       go_enter Tryz.func155,Tryz.ntmps155
       go_wp2_with fail
       refine (HD.out _).mono ?_
       rintro e w1 ⟨⟨vu,rfl,hvu⟩,hb1⟩
       have HB1:=hid hb1
       have HU1:=hid hvu
       clear hb1 hvu
       go_wp2_with fail
       refine (iplain_calls _ u _ HU1.out).mono ?_
       rintro e w2 ⟨rfl,rfl⟩
       rw [HUA.out]
       go_wp2_with fail
       refine (ivalid_calls _ u _ HU1.out).mono ?_
       rintro e w3 ⟨rfl,hb3⟩
       have HB3:=hid (below_trans HB1.out hb3)
       have HU3:=hid (HU1.out.below hb3)
       rw [HVA.out]
       clear hb3
       go_wp2_with fail
       refine (HBy.out _ _ HU3.out).mono ?_
       rintro e w4 ⟨rfl,hb4⟩
       have HB4:=hid (below_trans HB3.out hb4)
       clear hb4
       go_wp2_with fail
       go_ret
       exact ⟨by rw [HQ.out];rfl,HB4.out⟩
 ·have HX:Hid (R=false):=hid (HB0.out hdn)
  have q1:(dn==0)=false:=by rw [beq_eq_false_iff_ne];exact hdn
  have q2:(dn != 0)=true:=by rw [bne_iff_ne];exact hdn
  clear hdn HB0 HB1 HB2 HB3
  go_enter Tryz.func155,Tryz.ntmps155
  go_wp2_with fail
  refine (HD.out _).mono ?_
  rintro e w1 ⟨⟨vu,rfl,hvu⟩,hb1⟩
  have HB1:=hid hb1
  clear hb1 hvu
  go_wp2_with fail
  go_ret
  exact ⟨by rw [HX.out];rfl,HB1.out⟩
theorem label_calls (v:Value) (l:List Int) (w:World) (hv:IRow w v l) (hl:l.length≤100000) :
 Calls Tryz.prog 108 #[v] w fun e w'=>e=.returned (.tuple #[.string (labR l).1,.int .i64 (labR l).2])∧Below w.heap.size w w':=by
 have HV:=hid hv
 have HBy:=hid (bypuny_calls v l w hv hl)
 have HTx:=hid (text_calls v l w hv hl)
 have HCu:=hid (fun w'=>cutp_calls (strOf (textL l)) w' (text_size hl))
 have htl:=text_len l
 obtain ⟨R,hR⟩:∃R,R=labR l:=⟨_,rfl⟩
 rw [← hR]
 have HR:=hid hR
 clear hR
 cases hasc:asciiB l with
 | false =>
   have HX:Hid (R=byR l):=by show _=_;rw [HR.out,labR_by hasc]
   have HA:=hid hasc
   generalize byR l=Y at *
   obtain ⟨p,n⟩:=Y
   simp only at HBy
   clear hasc hv hl htl HTx HCu
   go_enter Tryz.func108,Tryz.ntmps108
   go_wp2_with fail
   refine (iplain_calls _ l _ HV.out).mono ?_
   rintro e w2 ⟨rfl,rfl⟩
   rw [HA.out]
   go_wp2_with fail
   refine HBy.out.mono ?_
   rintro e w3 ⟨rfl,hb3⟩
   have HB3:=hid hb3
   clear hb3
   go_wp2_with fail
   go_ret2
   exact ⟨by rw [HX.out];rfl,HB3.out⟩
 | true =>
   have HA:=hid hasc
   cases hmk:markB (textL l) with
   | false =>
     have HX:Hid (R=(textB l,0)):=by show _=_;rw [HR.out,labR_plain hasc hmk]
     have hcut:cutR (strOf (textL l))=(strOf (textL l),false):=by unfold cutR;rw [if_neg];show¬markB (textL l)=true;rw [hmk];decide
     rw [hcut] at HCu
     have hTB:strOf (textL l)=textB l:=rfl
     rw [hTB] at HCu HTx
     clear hasc hv hl htl hmk hcut HBy hTB
     generalize textB l=s at *
     go_enter Tryz.func108,Tryz.ntmps108
     go_wp2_with fail
     refine (iplain_calls _ l _ HV.out).mono ?_
     rintro e w2 ⟨rfl,rfl⟩
     rw [HA.out]
     go_wp2_with fail
     refine HTx.out.mono ?_
     rintro e w3 ⟨rfl,hb3⟩
     have HB3:=hid hb3
     clear hb3
     go_wp2_with fail
     refine (HCu.out _).mono ?_
     rintro e w4 ⟨rfl,rfl⟩
     go_wp2_with fail
     go_ret2
     exact ⟨by rw [HX.out];rfl,HB3.out⟩
   | true =>
     have HRR:Hid (R=if backOk (strOf ((textL l).drop 4))=true then (textB l,0) else (strOf [],4)):=by show _=_;rw [HR.out,labR_back hasc hmk]
     have hcut:cutR (strOf (textL l))=(strOf ((textL l).drop 4),true):=by
      show (if markB (textL l)=true then (strOf ((textL l).drop 4),true) else _)=_
      rw [if_pos hmk]
     rw [hcut] at HCu
     have hts:(strOf ((textL l).drop 4)).size≤400000:=by rw [strOf_size,List.length_drop];omega
     have HWr:=hid (fun w'=>written_calls (strOf ((textL l).drop 4)) w' (by unfold maxLen;omega) (by omega))
     have hTB:strOf (textL l)=textB l:=rfl
     rw [hTB] at HCu HTx
     clear hasc hv hl htl hmk hcut HBy hTB hts
     generalize strOf ((textL l).drop 4)=t at *
     generalize textB l=s at *
     cases hok:backOk t with
     | true =>
       have HX:Hid (R=(s,0)):=by show _=_;rw [HRR.out,if_pos hok]
       rw [hok] at HWr
       clear hok HRR
       go_enter Tryz.func108,Tryz.ntmps108
       go_wp2_with fail
       refine (iplain_calls _ l _ HV.out).mono ?_
       rintro e w2 ⟨rfl,rfl⟩
       rw [HA.out]
       go_wp2_with fail
       refine HTx.out.mono ?_
       rintro e w3 ⟨rfl,hb3⟩
       have HB3:=hid hb3
       clear hb3
       go_wp2_with fail
       refine (HCu.out _).mono ?_
       rintro e w4 ⟨rfl,rfl⟩
       go_wp2_with fail
       refine (HWr.out _).mono ?_
       rintro e w5 ⟨rfl,hb5⟩
       have HB5:=hid (below_trans HB3.out hb5)
       clear hb5
       go_wp2_with fail
       go_ret2
       exact ⟨by rw [HX.out];rfl,HB5.out⟩
     | false =>
       have HX:Hid (R=(strOf [],4)):=by show _=_;rw [HRR.out,if_neg (by rw [hok];decide)]
       rw [hok] at HWr
       clear hok HRR
       go_enter Tryz.func108,Tryz.ntmps108
       go_wp2_with fail
       refine (iplain_calls _ l _ HV.out).mono ?_
       rintro e w2 ⟨rfl,rfl⟩
       rw [HA.out]
       go_wp2_with fail
       refine HTx.out.mono ?_
       rintro e w3 ⟨rfl,hb3⟩
       have HB3:=hid hb3
       clear hb3
       go_wp2_with fail
       refine (HCu.out _).mono ?_
       rintro e w4 ⟨rfl,rfl⟩
       go_wp2_with fail
       refine (HWr.out _).mono ?_
       rintro e w5 ⟨rfl,hb5⟩
       have HB5:=hid (below_trans HB3.out hb5)
       clear hb5
       go_wp2_with fail
       go_ret2
       exact ⟨by rw [HX.out];rfl,HB5.out⟩
end Go.Proofs.YtigfgloenjoeoaaGreatDoor
