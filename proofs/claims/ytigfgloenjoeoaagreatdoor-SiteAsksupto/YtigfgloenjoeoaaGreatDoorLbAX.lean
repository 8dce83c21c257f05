import Derived.Test.YtigfgloenjoeoaaGreatDoorLbAI
import Derived.Test.YtigfgloenjoeoaaGreatDoorLbAC
import Derived.Test.YtigfgloenjoeoaaGreatDoorLbAS
import Derived.Deep.RegionHeld3
import Derived.Test.YtigfgloenjoeoaaGreatDoorLbAA
import Derived.Handy
set_option linter.unusedVariables false
set_option linter.unusedSimpArgs false
set_option maxRecDepth 20000
set_option maxHeartbeats 16000000
namespace Go.Proofs.YtigfgloenjoeoaaGreatDoor
open Go.RowKit
def asciiB (l:List Int):Bool:=l.all fun c=>decide (0≤c∧c≤127)
def markB (b:List UInt8):Bool:=b.take 4==[120,110,45,45]
def textB (l:List Int):ByteArray:=strOf (textL l)
def backOk (t:ByteArray):Bool :=
 (decR t).2==0&&!asciiB (ints (decR t).1)&&!markB (textL (ints (decR t).1))&&(ints (decR t).1).all (fun c=>kindR c==1)&&(encR (ints (decR t).1)).2==0&&bytesOf (encR (ints (decR t).1)).1==bytesOf t
def labR (l:List Int):ByteArray×Int :=
 if asciiB l=false then
  if markB (textL l)=true then (strOf [],4)
  else if (encR l).2=0 then (strOf ([120,110,45,45]++bytesOf (encR l).1),0) else (strOf [],(encR l).2)
 else if markB (textL l)=false then (textB l,0)
 else if backOk (strOf ((textL l).drop 4))=true then (textB l,0) else (strOf [],4)
theorem ascii_snoc (l:List Int) (k:Nat) (h:k < l.length):asciiB (l.take (k+1))=(asciiB (l.take k)&&decide (0≤l[k]∧l[k]≤127)):=by
 unfold asciiB
 rw [List.take_succ_eq_append_getElem h,List.all_append]
 simp
theorem ascii_not (l:List Int) (k:Nat) (h:k < l.length) (hn:¬(0≤l[k]∧l[k]≤127)):asciiB l=false:=by
 unfold asciiB
 rw [List.all_eq_false]
 exact ⟨l[k],List.getElem_mem h,by simpa using hn⟩
theorem text_len (l:List Int):(textL l).length≤4 * l.length:=by
 unfold textL encL
 rw [List.length_flatMap]
 have h:∀(m:List Int),(m.map fun c=>(encN c.toNat).length).sum≤4 * m.length:=by
  intro m
  induction m with
  | nil=>simp
  | cons c m ih =>
    have:(encN c.toNat).length≤4:=by unfold encN;split;simp;split;simp;split;simp;simp
    simp only [List.map_cons,List.sum_cons,List.length_cons];omega
 have:=h (l.map fix)
 simpa using this
abbrev fs (x:ByteArray):Value:=.string x
abbrev SRow (w:World) (v:Value) (l:List ByteArray):Prop:=Row fs w v l
abbrev SOwn (w:World) (base:Nat) (v:Value) (l:List ByteArray):Prop:=Own fs 9 w base v l
theorem info_str:(Tryz.prog.info? 9).map (fun i=>(i.zero,i.size,i.bytes))=some (some (.string ⟨#[]⟩),1,16):=by kernel_rfl
theorem appendS_run {w:World} {base:Nat} {v:Value} {xs:List ByteArray} (hown:SOwn w base v xs) {x:Value} {l:List ByteArray} (hx:SRow w x l) (hlen:xs.length+l.length≤1000000) (hbase:base≤w.heap.size) :
 ∃v' w',(Builtin.append_ #[27,27] 27 #[v,x]).run Tryz.prog w=.ok v' w'∧SOwn w' base v' (xs++l)∧w.grownBy w' v.ownBlock :=
 append_gen (fun _=>rfl) Tryz.underlying27 info_str rfl (by decide) hown hx hlen hbase
def goS (c:UInt8):List UInt8→List UInt8→List (List UInt8)
 | cur,[]=>[cur]
 | cur,x::r=>if x=c then cur::goS c [] r else goS c (cur++[x]) r
theorem pieceB_snoc {m:List UInt8} {f i:Nat} (hf:f≤i) (hi:i < m.length):(m.drop f).take (i-f)++[m[i]]=(m.drop f).take (i+1-f):=by
 rw [show i+1-f=(i-f)+1 by omega]
 rw [List.take_succ_eq_append_getElem (by rw [List.length_drop];omega),List.getElem_drop]
 congr 2
 simp only [show f+(i-f)=i by omega]
def SplitAt (c:UInt8) (b:List UInt8) (R zs:List ByteArray) (f i:Nat):Prop :=
 zs.length≤i∧((f≤i∧i≤b.length∧R=zs++(goS c ((b.drop f).take (i-f)) (b.drop i)).map strOf)∨(i=b.length+1∧R=zs))
theorem SplitAt.skip {c:UInt8} {b:List UInt8} {R zs:List ByteArray} {f i:Nat} (h:SplitAt c b R zs f i) (hi:i < b.length) (hc:b[i]≠c):SplitAt c b R zs f (i+1):=by
 obtain ⟨hs,⟨hf,_,hr⟩ | ⟨h,_⟩⟩:=h
 ·refine ⟨by omega,.inl ⟨by omega,hi,?_⟩⟩
  rw [hr,drop_atPu hi]
  show zs++List.map strOf (if b[i]=c then _ else _)=_
  rw [if_neg hc,pieceB_snoc hf hi]
 ·omega
theorem insF_most:∀(f:Nat) (out:List Nat) (ds:List (Option Nat)) (s a b:Nat) (fl:Bool) (m:List Nat),out.length≤256→insF f out ds s a b fl=some m→m.length≤256
 | 0,out,ds,s,a,b,fl,m,hl,h=>by
   unfold insF at h
   split at h
   ·injection h with h;subst h;exact hl
   ·cases h
 | f+1,out,ds,s,a,b,fl,m,hl,h=>by
   rw [insF_succ] at h
   split at h
   ·injection h with h;subst h;exact hl
   ·split at h
    ·cases h
    ·rename_i h256
     cases hr:rd ds a 1 36 b with
     | none=>rw [hr] at h;cases h
     | some x =>
       rw [hr] at h
       obtain ⟨to,rest⟩:=x
       simp only at h
       split at h
       ·have hp:to%(out.length+1)≤out.length:=by have:=Nat.mod_lt to (y:=out.length+1) (by omega);omega
        exact insF_most f _ _ _ _ _ _ m (by have:=ins_len out (to%(out.length+1)) (s+to/(out.length+1)) hp;unfold ins at this;omega) h
       ·cases h
theorem dec_most (s:ByteArray) (m:List Nat) (h:dec s=some m):m.length≤256:=by
 unfold dec at h
 split at h
 ·exact insF_most _ _ _ _ _ _ _ m (by simp) h
 ·split at h
  ·cases h
  ·split at h
   ·exact insF_most _ _ _ _ _ _ _ m (by simp;omega) h
   ·cases h
theorem decR_most (s:ByteArray):(ints (decR s).1).length≤256:=by
 unfold decR
 split
 ·simp [ints]
 ·split
  ·simp [ints]
  ·rename_i m h
   have:=dec_most s m h
   simpa [ints] using this
theorem str_join (p:ByteArray):(⟨#[120,110,45,45]⟩:ByteArray)++p=strOf ([120,110,45,45]++bytesOf p):=by
 unfold strOf bytesOf
 apply ByteArray.ext
 simp
theorem str_drop (l:List UInt8) (k:Nat) (h:k≤l.length):(strOf l).extract k (strOf l).size=strOf (l.drop k):=by
 apply ByteArray.ext
 have h1:((strOf l).extract k (strOf l).size).data.toList=l.drop k:=by
  rw [strOf_size]
  simp [ByteArray.data_extract,strOf]
  try (rw [List.take_of_length_le];simp)
 have:((strOf l).extract k (strOf l).size).data=(l.drop k).toArray:=by rw [← h1]
 rw [this];rfl
theorem labR_plain {l:List Int} (h:asciiB l=true) (hm:markB (textL l)=false):labR l=(textB l,0):=by unfold labR;rw [if_neg (by rw [h];decide),if_pos hm]
theorem labR_back {l:List Int} (h:asciiB l=true) (hm:markB (textL l)=true):labR l=if backOk (strOf ((textL l).drop 4))=true then (textB l,0) else (strOf [],4):=by unfold labR;rw [if_neg (by rw [h];decide),if_neg (by rw [hm];decide)]
theorem backOk_err {t:ByteArray} (h:(decR t).2≠0):backOk t=false:=by unfold backOk;simp [h]
theorem backOk_ascii {t:ByteArray} (h:asciiB (ints (decR t).1)=true):backOk t=false:=by unfold backOk;simp [h]
theorem backOk_kind {t:ByteArray} {c:Int} (hc:c∈ints (decR t).1) (h:kindR c≠1):backOk t=false:=by
 unfold backOk
 have:(ints (decR t).1).all (fun c=>kindR c==1)=false:=by
  rw [List.all_eq_false]
  exact ⟨c,hc,by simpa using h⟩
 rw [this];simp
theorem toList_bytes (s:ByteArray):s.toList=bytesOf s:=by rw [ByteArray.toList_eq];rfl
def dotB (first:Bool):List UInt8:=if first then [] else [46]
def finA (x:List UInt8):ByteArray×Int:=if 253 < x.length then (strOf [],3) else (strOf x,0)
def goA:List UInt8→Bool→List Int→List Int→ByteArray×Int
 | acc,first,cur,[]=>if (labR cur).2=0 then finA (acc++dotB first++bytesOf (labR cur).1) else (strOf [],(labR cur).2)
 | acc,first,cur,c::r=>if c=46 then (if (labR cur).2=0 then goA (acc++dotB first++bytesOf (labR cur).1) false [] r else (strOf [],(labR cur).2)) else goA acc first (cur++[c]) r
def ascR (l:List Int):ByteArray×Int:=if 256 < l.length then (strOf [],11) else if (l.all fun c=>kindOf c != 4)=true then goA [] true [] (mapOf l) else (strOf [],4)
theorem labR_size (l:List Int) (hl:l.length≤100000):(labR l).1.size≤11000000:=by
 have h1:=text_len l
 have h2:=encR_size l
 have h3:(textB l).size=(textL l).length:=strOf_size _
 unfold labR
 split
 ·split
  ·rw [strOf_size];simp
  ·split
   ·rw [strOf_size];simp [bytesOf_len];omega
   ·rw [strOf_size];simp
 ·split
  ·show (textB l).size≤_;omega
  ·split
   ·show (textB l).size≤_;omega
   ·rw [strOf_size];simp
theorem fine_all {l:List Int} (h:Fine l):(l.all fun c=>kindOf c != 4)=true:=by
 rw [List.all_eq_true]
 intro c hc
 rw [bne_iff_ne]
 exact h c hc
theorem bad_all {l:List Int} {i:Nat} (h:BadAt l i):(l.all fun c=>kindOf c != 4)=false:=by
 rw [List.all_eq_false]
 exact ⟨l[i]'h.1,List.getElem_mem h.1,by simp [h.2.1]⟩
theorem rowI_nil (w:World) (A:Option Addr) (C:Nat) (hC:C≤maxLen):IRow w (.slice A 0 C) []:=⟨A,C,rfl,Nat.zero_le _,hC,fun h=>absurd rfl h⟩
theorem piece_snoc {m:List Int} {f i:Nat} (hf:f≤i) (hi:i < m.length):(m.drop f).take (i-f)++[m[i]]=(m.drop f).take (i+1-f):=by
 rw [show i+1-f=(i-f)+1 by omega]
 rw [List.take_succ_eq_append_getElem (by rw [List.length_drop];omega),List.getElem_drop]
 congr 2
 simp only [show f+(i-f)=i by omega]
def AscAt (m:List Int) (R:ByteArray×Int) (o:ByteArray) (f i:Nat):Prop :=
 o.size≤i * 11000001∧((f≤i∧i≤m.length∧R=goA (bytesOf o) (decide (f=0)) ((m.drop f).take (i-f)) (m.drop i))∨(i=m.length+1∧R=finA (bytesOf o)))
theorem AscAt.skip {m:List Int} {R:ByteArray×Int} {o:ByteArray} {f i:Nat} (h:AscAt m R o f i) (hi:i < m.length) (hc:m[i]≠46):AscAt m R o f (i+1):=by
 obtain ⟨hs,⟨hf,_,hr⟩ | ⟨h,_⟩⟩:=h
 ·unfold AscAt
  refine ⟨?_,.inl ⟨by omega,hi,?_⟩⟩
  ·refine Nat.le_trans hs (Nat.mul_le_mul_right _ (by omega))
  ·rw [hr,drop_atPu hi]
   show (if m[i]=46 then _ else _)=_
   rw [if_neg hc,piece_snoc hf hi]
 ·omega
theorem AscAt.ok {m:List Int} {R:ByteArray×Int} {o:ByteArray} {f i:Nat} (h:AscAt m R o f i) (hml:m.length≤100000) (hi:i=m.length∨∃h:i < m.length,m[i]=46) (he:(labR ((m.drop f).take (i-f))).2=0) (o':ByteArray) (ho:bytesOf o'=bytesOf o++dotB (decide (f=0))++bytesOf (labR ((m.drop f).take (i-f))).1):AscAt m R o' (i+1) (i+1):=by
 have hsz:=labR_size ((m.drop f).take (i-f)) (by rw [List.length_take,List.length_drop];omega)
 obtain ⟨hs,⟨hf,_,hr⟩ | ⟨h,_⟩⟩:=h
 ·unfold AscAt
  refine ⟨?_,?_⟩
  ·rw [Nat.add_mul,Nat.one_mul]
   have:=congrArg List.length ho
   rw [List.length_append,List.length_append,bytesOf_len,bytesOf_len,bytesOf_len] at this
   have hd:(dotB (decide (f=0))).length≤1:=by unfold dotB;split<;>simp
   omega
  ·rcases hi with hi | ⟨hi,hc⟩
   ·right
    refine ⟨by omega,?_⟩
    have e:m.drop i=[]:=List.drop_eq_nil_of_le (by omega)
    rw [hr,e]
    show (if _ then _ else _)=_
    rw [if_pos he,ho]
   ·left
    refine ⟨Nat.le_refl _,hi,?_⟩
    rw [hr,drop_atPu hi,hc]
    show (if (46:Int)=46 then _ else _)=_
    rw [if_pos rfl,if_pos he,ho]
    simp
 ·rcases hi with hi | ⟨hi,_⟩<;>omega
theorem AscAt.size {m:List Int} {R:ByteArray×Int} {o:ByteArray} {f i:Nat} (h:AscAt m R o f i):o.size≤i * 11000001∧i≤m.length+1:=by
 obtain ⟨hs,⟨hf,h2,hr⟩ | ⟨h,_⟩⟩:=h
 ·exact ⟨hs,by omega⟩
 ·exact ⟨hs,by omega⟩
end Go.Proofs.YtigfgloenjoeoaaGreatDoor
namespace Go.Proofs.YtigfgloenjoeoaaGreatDoor
def badH (c:Nat):Bool:=one1 [0,9,10,13,32,35,47,58,60,62,63,64,91,92,93,94,124] c
def badB (c:UInt8):Bool:=badH c.toNat
def lowB (c:UInt8):Bool:=decide (c.toNat < 32)||c.toNat==37||c.toNat==127
abbrev HostN:=Int×List UInt8×Nat×List Nat
def host0:HostN:=(0,[],0,z8)
def sixH (p:List Nat×Nat):HostN×Nat:=if p.2=0 then ((3,[],0,p.1),0) else (host0,p.2)
def fourH (p:Nat×Nat):HostN×Nat:=if p.2=0 then ((2,[],p.1,z8),0) else (host0,p.2)
def darkR (l:List UInt8):HostN×Nat:=if l.any badB=true then (host0,4) else if l=[] then (host0,0) else ((4,pctR 1 l,0,z8),0)
def nameR (t:List UInt8):HostN×Nat :=
 if t=[] then (host0,6) else if (t.any lowB||t.any badB)=true then (host0,4)
 else if endsR t=true then fourH (parse4R t) else ((1,t,0,z8),0)
def askedR (l:List UInt8):ByteArray×Int:=ascR (lossyL (unR l))
def specialR (l:List UInt8):HostN×Nat:=if (askedR l).2=0 then nameR (bytesOf (askedR l).1) else (host0,(askedR l).2.toNat)
def bracketR (l:List UInt8):HostN×Nat:=if l.getLast? ≠ some 93∨l.length=1 then (host0,4) else sixH (parse6R l.tail.dropLast)
def hostR (l:List UInt8) (special:Bool):HostN×Nat :=
 if 4000 < l.length then (host0,3)
 else if l.head? = some 91 then bracketR l
 else if special=true then specialR l else darkR l
def printR (h:HostN):List UInt8 :=
 if h.1=1∨h.1=4 then h.2.1 else if h.1=2 then print4R h.2.2.1 else if h.1=3 then 91::(print6R h.2.2.2++[93]) else []
structure UrlN where
 sch:List UInt8
 usr:List UInt8
 pas:List UInt8
 hasHost:Bool
 host:HostN
 port:Int
 dark:Bool
 txt:List UInt8
 path:List (List UInt8)
 hasQ:Bool
 qry:List UInt8
 hasF:Bool
 frg:List UInt8
def url0:UrlN:=⟨[],[],[],false,host0,0,false,[],[],false,[],false,[]⟩
def urlM:UrlN:={ url0 with port:=-1 }
def specialN (l:List UInt8):Nat :=
 if l=[104,116,116,112]∨l=[119,115] then 80
 else if l=[104,116,116,112,115]∨l=[119,115,115] then 443
 else if l=[102,116,112] then 21 else 0
structure MaR where
 inp:List Int
 p:Nat
 u:UrlN
 base:UrlN
 has:Bool
 buf:List Int
 seen:Bool
 colon:Bool
 brack:Bool
def signAt (l:List Int) (p:Nat):Int:=(l[p]?).getD (-1)
def spM (m:MaR):Bool:=decide (0 < specialN m.u.sch)
def slashM (m:MaR) (c:Int):Bool:=c==47||(spM m&&c==92)
def endsM (m:MaR) (c:Int):Bool:=decide (c < 0)||c==63||c==35||slashM m c
def letC (c:Int):Bool:=(decide (97≤c)&&decide (c≤122))||(decide (65≤c)&&decide (c≤90))
def digC (c:Int):Bool:=decide (48≤c)&&decide (c≤57)
def lowC (c:Int):Int:=if 65≤c∧c≤90 then c+32 else c
def partN (set c:Int):List UInt8:=pctR set (textL [c])
def partsN (set:Int) (l:List Int):List UInt8:=l.flatMap (partN set)
abbrev StR:=MaR×Nat×Bool×Nat
def askM (m:MaR):MaR:={ m with u:={ m.u with hasQ:=true,qry:=[] } }
def markM (m:MaR):MaR:={ m with u:={ m.u with hasF:=true,frg:=[] } }
def ownM (m:MaR):MaR :=
 {m with u:={ m.u with usr:=m.base.usr,pas:=m.base.pas,host:=m.base.host,hasHost:=m.base.hasHost,port:=m.base.port } }
def shortM (m:MaR):MaR:={ m with u:={ m.u with path:=m.u.path.dropLast } }
def gatherM (m:MaR) (c:Int):MaR:={ m with buf:=m.buf++[c] }
def schemeM (m:MaR):MaR:={ m with u:={ m.u with sch:=textL m.buf },buf:=[] }
def colonR (m:MaR):StR :=
 if m.u.sch=[102,105,108,101] then (m,17,false,4)
 else if (spM m&&m.has&&decide (m.base.sch=m.u.sch))=true then (m,3,false,0)
 else if spM m=true then (m,7,false,0)
 else if signAt m.inp (m.p+1)=47 then ({ m with p:=m.p+1 },4,false,0)
 else ({ m with u:={ m.u with dark:=true } },14,false,0)
def schemeR (m:MaR) (c:Int):StR :=
 if (letC c||digC c||c==43||c==45||c==46)=true then (gatherM m (lowC c),1,false,0)
 else if c≠58 then ({ m with buf:=[],p:=0 },2,true,0)
 else colonR (schemeM m)
def noSchemeR (m:MaR) (c:Int):StR :=
 if (!m.has||(m.base.dark&&c != 35))=true then (m,17,false,4)
 else if m.base.dark=true then (markM { m with u:=m.base },16,false,0)
 else (m,5,true,0)
def slashesR (m:MaR) (s:Nat) (c:Int):StR :=
 if c=47∧signAt m.inp (m.p+1)=47 then ({ m with p:=m.p+1 },8,false,0)
 else if s=7 then (m,8,true,0) else (m,5,true,0)
def frontR (m:MaR) (s:Nat) (c:Int):StR :=
 if s=0 then (if letC c=true then (gatherM m (lowC c),1,false,0) else (m,2,true,0))
 else if s=1 then schemeR m c
 else if s=2 then noSchemeR m c
 else if s=3∨s=7 then slashesR m s c
 else if s=4 then (if c=47 then (m,9,false,0) else (m,13,true,0))
 else if c=47∨c=92 then (m,8,false,0) else (m,9,true,0)
def baseM (m:MaR):MaR:={ ownM m with u:={ (ownM m).u with path:=m.base.path,hasQ:=m.base.hasQ,qry:=m.base.qry } }
def relativeR (m:MaR) (c:Int):StR :=
 let m1:MaR:={ m with u:={ m.u with sch:=m.base.sch } }
 if slashM m1 c=true then (m1,6,false,0)
 else
  let m2:=baseM m1
  if c=63 then (askM m2,15,false,0)
  else if c=35 then (markM m2,16,false,0)
  else if c < 0 then (m2,17,false,0)
  else (shortM { m2 with u:={ m2.u with hasQ:=false,qry:=[] } },13,true,0)
def middleR (m:MaR) (s:Nat) (c:Int):StR :=
 if s=6 then
  (if (spM m&&slashM m c)=true then (m,8,false,0)
  else if c=47 then (m,9,false,0)
  else (ownM m,13,true,0))
 else relativeR m c
def credL (l:List Int) (colon:Bool) (usr pas:List UInt8):Bool×List UInt8×List UInt8 :=
 match l with
 | []=>(colon,usr,pas)
 | c::r=>if c=58∧colon=false then credL r true usr pas
   else if colon=true then credL r true usr (pas++partN 6 c) else credL r false (usr++partN 6 c) pas
def credM (m:MaR):MaR :=
 let r:=credL (if m.seen=true then [37,52,48]++m.buf else m.buf) m.colon m.u.usr m.u.pas
 {m with seen:=true,colon:=r.1,u:={ m.u with usr:=r.2.1,pas:=r.2.2 },buf:=[] }
def hostM (m:MaR):MaR×Nat :=
 let r:=hostR (textL m.buf) (spM m)
 ({ m with buf:=[],u:={ m.u with host:=r.1,hasHost:=true } },r.2)
def portN (l:List Int):Int:=l.foldl (fun n c=>min (10 * n+c-48) 1048576) 0
def whoHostR (m:MaR) (c:Int):StR :=
 if c=58∧m.brack=false then (if m.buf=[] then (m,17,false,6) else ((hostM m).1,11,false,(hostM m).2))
 else if endsM m c=true then (if spM m=true∧m.buf=[] then (m,17,false,6) else ((hostM m).1,12,true,(hostM m).2))
 else (gatherM { m with brack:=if c=91 then true else if c=93 then false else m.brack } c,10,false,0)
def whoAuthR (m:MaR) (c:Int):StR :=
 if c=64 then (credM m,9,false,0)
 else if endsM m c=true then
  (if m.seen=true∧m.buf=[] then (m,17,false,6) else ({ m with p:=m.p-m.buf.length,buf:=[] },10,true,0))
 else (gatherM m c,9,false,0)
def whoPortR (m:MaR) (c:Int):StR :=
 if digC c=true then (gatherM m c,11,false,0)
 else if endsM m c=false then (m,17,false,4)
 else if m.buf=[] then (m,12,true,0)
 else if 65535 < portN m.buf then (m,17,false,1)
 else ({ m with u:={ m.u with port:=if portN m.buf=(specialN m.u.sch:Int)∧spM m=true then -1 else portN m.buf },buf:=[] },12,true,0)
def whoR (m:MaR) (s:Nat) (c:Int):StR:=if s=9 then whoAuthR m c else if s=10 then whoHostR m c else whoPortR m c
def dotsF:Nat→List UInt8→Nat→Nat
 | 0,_,n=>n
 | _+1,[],n=>n
 | f+1,46::r,n=>dotsF f r (n+1)
 | f+1,37::50::e::r,n=>if e=101∨e=69 then dotsF f r (n+1) else 0
 | _+1,_::_,_=>0
def dotsR (l:List UInt8):Nat:=if 2 < dotsF l.length l 0 then 0 else dotsF l.length l 0
def pushM (m:MaR) (s:List UInt8):MaR:={ m with u:={ m.u with path:=m.u.path++[s] } }
def pieceM (m:MaR) (c:Int):MaR :=
 let s:=partsN 5 m.buf
 let m1:MaR:={ m with buf:=[] }
 if dotsR s=2 then (if slashM m c=true then shortM m1 else pushM (shortM m1) [])
 else if dotsR s=1 then (if slashM m c=true then m1 else pushM m1 [])
 else pushM m1 s
def pathR (m:MaR) (c:Int):StR :=
 if (decide (0≤c)&&c != 63&&c != 35&&!slashM m c)=true then (gatherM m c,13,false,0)
 else if c=63 then (askM (pieceM m c),15,false,0)
 else if c=35 then (markM (pieceM m c),16,false,0)
 else if c=-1 then (pieceM m c,17,false,0)
 else (pieceM m c,13,false,0)
def startR (m:MaR) (c:Int):StR :=
 if spM m=true then (m,13,!slashM m c,0)
 else if c=63 then (askM m,15,false,0)
 else if c=35 then (markM m,16,false,0)
 else if c < 0 then (m,17,false,0)
 else (m,13,c != 47,0)
def darkM (m:MaR) (c:Int):StR :=
 if c=63 then (askM m,15,false,0)
 else if c=35 then (markM m,16,false,0)
 else if c < 0 then (m,17,false,0)
 else ({ m with u:={ m.u with txt:=m.u.txt++partN 1 c } },14,false,0)
def queryM (m:MaR):MaR:={ m with buf:=[],u:={ m.u with qry:=m.u.qry++pctR (if spM m=true then 4 else 3) (textL m.buf) } }
def queryR (m:MaR) (c:Int):StR :=
 if 0≤c∧c≠35 then (gatherM m c,15,false,0)
 else if c=35 then (markM (queryM m),16,false,0)
 else (queryM m,17,false,0)
def fragR (m:MaR) (c:Int):StR :=
 if c < 0 then (m,17,false,0) else ({ m with u:={ m.u with frg:=m.u.frg++partN 2 c } },16,false,0)
def backR (m:MaR) (s:Nat) (c:Int):StR :=
 if s=12 then startR m c else if s=14 then darkM m c else if s=15 then queryR m c else fragR m c
def stepR (m:MaR) (s:Nat) (c:Int):StR :=
 if s≤4∨s=7∨s=8 then frontR m s c
 else if s=5∨s=6 then middleR m s c
 else if s=9∨s=10∨s=11 then whoR m s c
 else if s=13 then pathR m c
 else backR m s c
def stripRU (l:List UInt8):List Int :=
 ((((lossyL l).dropWhile (fun c=>decide (c≤32))).reverse.dropWhile (fun c=>decide (c≤32))).reverse).filter (fun c=>c != 9&&c != 10&&c != 13)
def runF:Nat→MaR→Nat→UrlN×Nat
 | 0,m,s=>(m.u,0)
 | f+1,m,s =>
   if s=17 then (if 256 < m.u.path.length then (url0,11) else (m.u,0))
   else
    let r:=stepR m s (signAt m.inp m.p)
    if r.2.2.2≠0 then (url0,r.2.2.2)
    else runF f (if r.2.2.1=true then r.1 else { r.1 with p:=r.1.p+1 }) r.2.1
def looks (n:Nat):Nat:=18 * (n+1)
def maR (l:List UInt8) (base:UrlN) (has:Bool):MaR:=⟨stripRU l,0,urlM,base,has,[],false,false,false⟩
def urlR (l:List UInt8) (base:UrlN) (has:Bool):UrlN×Nat :=
 if 4000 < l.length then (url0,3) else runF (looks (stripRU l).length) (maR l base has) 0
def leftM (m:MaR) (s:Nat):Nat:=(17-s) * (m.inp.length+1)+(m.inp.length-m.p)
theorem sign_lt {l:List Int} {p:Nat} (h:signAt l p≠-1):p < l.length:=by
 apply Classical.byContradiction;intro hn
 exact h (by simp [signAt,List.getElem?_eq_none (Nat.le_of_not_lt hn)])
def atPl (r:StR):Nat:=if r.2.2.1=true then r.1.p else r.1.p+1
def Down (m:MaR) (s:Nat) (r:StR):Prop :=
 r.1.inp=m.inp∧r.1.base=m.base∧r.1.has=m.has ∧
  (r.2.1=17∨(atPl r≤m.inp.length∧(s < r.2.1∨(s=r.2.1∧atPl r=m.p+1))∧r.2.1≤16))
theorem slash_ne {m:MaR} {c:Int} (h:slashM m c=true):c≠-1:=by
 simp only [slashM,Bool.or_eq_true,Bool.and_eq_true,beq_iff_eq] at h;omega
theorem ends_ne {m:MaR} {c:Int} (h:endsM m c=false):c≠-1:=by
 simp only [endsM,Bool.or_eq_false_iff,decide_eq_false_iff_not] at h;omega
theorem let_ne {c:Int} (h:letC c=true):c≠-1:=by
 simp only [letC,Bool.or_eq_true,Bool.and_eq_true,decide_eq_true_eq] at h;omega
theorem dig_ne {c:Int} (h:digC c=true):c≠-1:=by
 simp only [digC,Bool.and_eq_true,decide_eq_true_eq] at h;omega
theorem front_down (m:MaR) (s:Nat) (hs:s≤4∨s=7∨s=8) (hp:m.p≤m.inp.length):Down m s (frontR m s (signAt m.inp m.p)):=by
 have hl:=@sign_lt m.inp m.p
 have hl':=@sign_lt m.inp (m.p+1)
 generalize hc:signAt m.inp m.p=c at hl ⊢
 have h1:=@let_ne c
 have h2:=@dig_ne c
 unfold frontR
 split
 ·split
  ·have:=hl (h1 (by assumption))
   exact ⟨rfl,rfl,rfl,Or.inr ⟨by simp [atPl,gatherM]<;>omega,Or.inl (by show s < 1;omega),Nat.le_of_ble_eq_true rfl⟩⟩
  ·exact ⟨rfl,rfl,rfl,Or.inr ⟨by simp [atPl]<;>omega,Or.inl (by show s < 2;omega),Nat.le_of_ble_eq_true rfl⟩⟩
 split
 ·unfold schemeR
  split
  ·rename_i hh
   have:c≠-1:=by
    simp only [Bool.or_eq_true,beq_iff_eq] at hh
    rcases hh with (((hh | hh) | hh) | hh) | hh
    ·exact h1 hh
    ·exact h2 hh
    all_goals omega
   have:=hl this
   refine ⟨rfl,rfl,rfl,Or.inr ⟨?_,Or.inr ⟨by assumption,?_⟩,Nat.le_of_ble_eq_true rfl⟩⟩<;>simp [atPl,gatherM]<;>omega
  split
  ·exact ⟨rfl,rfl,rfl,Or.inr ⟨by simp [atPl],Or.inl (by show s < 2;omega),Nat.le_of_ble_eq_true rfl⟩⟩
  ·rename_i hcol
   have hc58:c=58:=by omega
   have:=hl (by omega)
   unfold colonR
   split
   ·exact ⟨rfl,rfl,rfl,Or.inl rfl⟩
   split
   ·exact ⟨rfl,rfl,rfl,Or.inr ⟨by simp [atPl,schemeM]<;>omega,Or.inl (by show s < 3;omega),Nat.le_of_ble_eq_true rfl⟩⟩
   split
   ·exact ⟨rfl,rfl,rfl,Or.inr ⟨by simp [atPl,schemeM]<;>omega,Or.inl (by show s < 7;omega),Nat.le_of_ble_eq_true rfl⟩⟩
   split
   ·rename_i h47
    have:=hl' (by simp only [schemeM] at h47;omega)
    exact ⟨rfl,rfl,rfl,Or.inr ⟨by simp [atPl,schemeM]<;>omega,Or.inl (by show s < 4;omega),Nat.le_of_ble_eq_true rfl⟩⟩
   ·exact ⟨rfl,rfl,rfl,Or.inr ⟨by simp [atPl,schemeM]<;>omega,Or.inl (by show s < 14;omega),Nat.le_of_ble_eq_true rfl⟩⟩
 split
 ·unfold noSchemeR
  split
  ·exact ⟨rfl,rfl,rfl,Or.inl rfl⟩
  split
  ·rename_i hf hd
   have:c=35:=by
    simp only [Bool.or_eq_true,Bool.and_eq_true,not_or,not_and,bne_iff_ne,Bool.not_eq_true] at hf
    have:=hf.2 hd;simpa using this
   have:=hl (by omega)
   exact ⟨rfl,rfl,rfl,Or.inr ⟨by simp [atPl,markM]<;>omega,Or.inl (by show s < 16;omega),Nat.le_of_ble_eq_true rfl⟩⟩
  ·exact ⟨rfl,rfl,rfl,Or.inr ⟨by simp [atPl]<;>omega,Or.inl (by show s < 5;omega),Nat.le_of_ble_eq_true rfl⟩⟩
 split
 ·unfold slashesR
  split
  ·rename_i h47
   have:=hl' (by omega)
   exact ⟨rfl,rfl,rfl,Or.inr ⟨by simp [atPl]<;>omega,Or.inl (by show s < 8;omega),Nat.le_of_ble_eq_true rfl⟩⟩
  split
  ·exact ⟨rfl,rfl,rfl,Or.inr ⟨by simp [atPl]<;>omega,Or.inl (by show s < 8;omega),Nat.le_of_ble_eq_true rfl⟩⟩
  ·exact ⟨rfl,rfl,rfl,Or.inr ⟨by simp [atPl]<;>omega,Or.inl (by show s < 5;omega),Nat.le_of_ble_eq_true rfl⟩⟩
 split
 ·split
  ·have:=hl (by omega)
   exact ⟨rfl,rfl,rfl,Or.inr ⟨by simp [atPl]<;>omega,Or.inl (by show s < 9;omega),Nat.le_of_ble_eq_true rfl⟩⟩
  ·exact ⟨rfl,rfl,rfl,Or.inr ⟨by simp [atPl]<;>omega,Or.inl (by show s < 13;omega),Nat.le_of_ble_eq_true rfl⟩⟩
 ·have:s=8:=by omega
  split
  ·have:=hl (by omega)
   refine ⟨rfl,rfl,rfl,Or.inr ⟨?_,Or.inr ⟨by assumption,?_⟩,Nat.le_of_ble_eq_true rfl⟩⟩<;>simp [atPl]<;>omega
  ·exact ⟨rfl,rfl,rfl,Or.inr ⟨by simp [atPl]<;>omega,Or.inl (by show s < 9;omega),Nat.le_of_ble_eq_true rfl⟩⟩
theorem middle_down (m:MaR) (s:Nat) (hs:s=5∨s=6) (hp:m.p≤m.inp.length):Down m s (middleR m s (signAt m.inp m.p)):=by
 have hl:=@sign_lt m.inp m.p
 generalize hc:signAt m.inp m.p=c at hl ⊢
 unfold middleR
 split
 ·split
  ·rename_i hh
   rw [Bool.and_eq_true] at hh
   have:=hl (slash_ne hh.2)
   exact ⟨rfl,rfl,rfl,Or.inr ⟨by simp [atPl]<;>omega,Or.inl (by show s < 8;omega),Nat.le_of_ble_eq_true rfl⟩⟩
  split
  ·have:=hl (by omega)
   exact ⟨rfl,rfl,rfl,Or.inr ⟨by simp [atPl]<;>omega,Or.inl (by show s < 9;omega),Nat.le_of_ble_eq_true rfl⟩⟩
  ·exact ⟨rfl,rfl,rfl,Or.inr ⟨by simp [atPl,ownM]<;>omega,Or.inl (by show s < 13;omega),Nat.le_of_ble_eq_true rfl⟩⟩
 ·unfold relativeR
  dsimp only
  split
  ·rename_i hh
   have:=hl (slash_ne hh)
   exact ⟨rfl,rfl,rfl,Or.inr ⟨by simp [atPl]<;>omega,Or.inl (by show s < 6;omega),Nat.le_of_ble_eq_true rfl⟩⟩
  split
  ·have:=hl (by omega)
   exact ⟨rfl,rfl,rfl,Or.inr ⟨by simp [atPl,askM,baseM,ownM]<;>omega,Or.inl (by show s < 15;omega),Nat.le_of_ble_eq_true rfl⟩⟩
  split
  ·have:=hl (by omega)
   exact ⟨rfl,rfl,rfl,Or.inr ⟨by simp [atPl,markM,baseM,ownM]<;>omega,Or.inl (by show s < 16;omega),Nat.le_of_ble_eq_true rfl⟩⟩
  split
  ·exact ⟨rfl,rfl,rfl,Or.inl rfl⟩
  ·exact ⟨rfl,rfl,rfl,Or.inr ⟨by simp [atPl,shortM,baseM,ownM]<;>omega,Or.inl (by show s < 13;omega),Nat.le_of_ble_eq_true rfl⟩⟩
theorem who_down (m:MaR) (s:Nat) (hs:s=9∨s=10∨s=11) (hp:m.p≤m.inp.length):Down m s (whoR m s (signAt m.inp m.p)):=by
 have hl:=@sign_lt m.inp m.p
 generalize hc:signAt m.inp m.p=c at hl ⊢
 unfold whoR
 split
 ·unfold whoAuthR
  split
  ·have:=hl (by omega)
   refine ⟨rfl,rfl,rfl,Or.inr ⟨?_,Or.inr ⟨by assumption,?_⟩,Nat.le_of_ble_eq_true rfl⟩⟩<;>simp [atPl,credM]<;>omega
  split
  ·split
   ·exact ⟨rfl,rfl,rfl,Or.inl rfl⟩
   ·exact ⟨rfl,rfl,rfl,Or.inr ⟨by simp [atPl]<;>omega,Or.inl (by show s < 10;omega),Nat.le_of_ble_eq_true rfl⟩⟩
  ·rename_i hh
   have:=hl (ends_ne (Bool.eq_false_iff.2 hh))
   refine ⟨rfl,rfl,rfl,Or.inr ⟨?_,Or.inr ⟨by assumption,?_⟩,Nat.le_of_ble_eq_true rfl⟩⟩<;>simp [atPl,gatherM]<;>omega
 split
 ·unfold whoHostR
  split
  ·split
   ·exact ⟨rfl,rfl,rfl,Or.inl rfl⟩
   ·have:=hl (by omega)
    exact ⟨rfl,rfl,rfl,Or.inr ⟨by simp [atPl,hostM]<;>omega,Or.inl (by show s < 11;omega),Nat.le_of_ble_eq_true rfl⟩⟩
  split
  ·split
   ·exact ⟨rfl,rfl,rfl,Or.inl rfl⟩
   ·exact ⟨rfl,rfl,rfl,Or.inr ⟨by simp [atPl,hostM]<;>omega,Or.inl (by show s < 12;omega),Nat.le_of_ble_eq_true rfl⟩⟩
  ·rename_i hh
   have:=hl (ends_ne (Bool.eq_false_iff.2 hh))
   refine ⟨rfl,rfl,rfl,Or.inr ⟨?_,Or.inr ⟨by assumption,?_⟩,Nat.le_of_ble_eq_true rfl⟩⟩<;>simp [atPl,gatherM]<;>omega
 ·have:s=11:=by omega
  unfold whoPortR
  split
  ·rename_i hh
   have:=hl (dig_ne hh)
   refine ⟨rfl,rfl,rfl,Or.inr ⟨?_,Or.inr ⟨by assumption,?_⟩,Nat.le_of_ble_eq_true rfl⟩⟩<;>simp [atPl,gatherM]<;>omega
  split
  ·exact ⟨rfl,rfl,rfl,Or.inl rfl⟩
  split
  ·exact ⟨rfl,rfl,rfl,Or.inr ⟨by simp [atPl]<;>omega,Or.inl (by show s < 12;omega),Nat.le_of_ble_eq_true rfl⟩⟩
  split
  ·exact ⟨rfl,rfl,rfl,Or.inl rfl⟩
  ·exact ⟨rfl,rfl,rfl,Or.inr ⟨by simp [atPl]<;>omega,Or.inl (by show s < 12;omega),Nat.le_of_ble_eq_true rfl⟩⟩
theorem piece_same (m:MaR) (c:Int):(pieceM m c).inp=m.inp∧(pieceM m c).base=m.base∧(pieceM m c).has=m.has∧(pieceM m c).p=m.p:=by
 unfold pieceM;dsimp only
 repeat' split
 all_goals exact ⟨rfl,rfl,rfl,rfl⟩
theorem path_down (m:MaR) (hp:m.p≤m.inp.length):Down m 13 (pathR m (signAt m.inp m.p)):=by
 have hl:=@sign_lt m.inp m.p
 generalize hc:signAt m.inp m.p=c at hl ⊢
 obtain ⟨p1,p2,p3,p4⟩:=piece_same m c
 unfold pathR
 split
 ·rename_i hh
  simp only [Bool.and_eq_true,decide_eq_true_eq] at hh
  have:=hl (by omega)
  refine ⟨rfl,rfl,rfl,Or.inr ⟨?_,Or.inr ⟨rfl,?_⟩,Nat.le_of_ble_eq_true rfl⟩⟩<;>simp [atPl,gatherM]<;>omega
 split
 ·have:=hl (by omega)
  exact ⟨p1,p2,p3,Or.inr ⟨by simp [atPl,askM,p4]<;>omega,Or.inl (by show 13 < 15;omega),Nat.le_of_ble_eq_true rfl⟩⟩
 split
 ·have:=hl (by omega)
  exact ⟨p1,p2,p3,Or.inr ⟨by simp [atPl,markM,p4]<;>omega,Or.inl (by show 13 < 16;omega),Nat.le_of_ble_eq_true rfl⟩⟩
 split
 ·exact ⟨p1,p2,p3,Or.inl rfl⟩
 ·have:=hl (by omega)
  refine ⟨p1,p2,p3,Or.inr ⟨?_,Or.inr ⟨rfl,?_⟩,Nat.le_of_ble_eq_true rfl⟩⟩<;>simp [atPl,p4]<;>omega
theorem back_down (m:MaR) (s:Nat) (hs:s=12∨s=14∨s=15∨s=16) (hp:m.p≤m.inp.length):Down m s (backR m s (signAt m.inp m.p)):=by
 have hl:=@sign_lt m.inp m.p
 generalize hc:signAt m.inp m.p=c at hl ⊢
 unfold backR
 split
 ·unfold startR
  split
  ·refine ⟨rfl,rfl,rfl,Or.inr ⟨?_,Or.inl (by show s < 13;omega),Nat.le_of_ble_eq_true rfl⟩⟩
   simp only [atPl]
   by_cases hh:slashM m c=true
   ·have:=hl (slash_ne hh);rw [hh];simp<;>omega
   ·rw [Bool.eq_false_iff.2 hh];simp<;>omega
  split
  ·have:=hl (by omega)
   exact ⟨rfl,rfl,rfl,Or.inr ⟨by simp [atPl,askM]<;>omega,Or.inl (by show s < 15;omega),Nat.le_of_ble_eq_true rfl⟩⟩
  split
  ·have:=hl (by omega)
   exact ⟨rfl,rfl,rfl,Or.inr ⟨by simp [atPl,markM]<;>omega,Or.inl (by show s < 16;omega),Nat.le_of_ble_eq_true rfl⟩⟩
  split
  ·exact ⟨rfl,rfl,rfl,Or.inl rfl⟩
  ·have:=hl (by omega)
   refine ⟨rfl,rfl,rfl,Or.inr ⟨?_,Or.inl (by show s < 13;omega),Nat.le_of_ble_eq_true rfl⟩⟩
   simp only [atPl];split<;>omega
 split
 ·unfold darkM
  split
  ·have:=hl (by omega)
   exact ⟨rfl,rfl,rfl,Or.inr ⟨by simp [atPl,askM]<;>omega,Or.inl (by show s < 15;omega),Nat.le_of_ble_eq_true rfl⟩⟩
  split
  ·have:=hl (by omega)
   exact ⟨rfl,rfl,rfl,Or.inr ⟨by simp [atPl,markM]<;>omega,Or.inl (by show s < 16;omega),Nat.le_of_ble_eq_true rfl⟩⟩
  split
  ·exact ⟨rfl,rfl,rfl,Or.inl rfl⟩
  ·have:=hl (by omega)
   refine ⟨rfl,rfl,rfl,Or.inr ⟨?_,Or.inr ⟨by assumption,?_⟩,Nat.le_of_ble_eq_true rfl⟩⟩<;>simp [atPl]<;>omega
 split
 ·unfold queryR
  split
  ·have:=hl (by omega)
   refine ⟨rfl,rfl,rfl,Or.inr ⟨?_,Or.inr ⟨by assumption,?_⟩,Nat.le_of_ble_eq_true rfl⟩⟩<;>simp [atPl,gatherM]<;>omega
  split
  ·have:=hl (by omega)
   exact ⟨rfl,rfl,rfl,Or.inr ⟨by simp [atPl,markM,queryM]<;>omega,Or.inl (by show s < 16;omega),Nat.le_of_ble_eq_true rfl⟩⟩
  ·exact ⟨rfl,rfl,rfl,Or.inl rfl⟩
 ·have:s=16:=by omega
  unfold fragR
  split
  ·exact ⟨rfl,rfl,rfl,Or.inl rfl⟩
  ·have:=hl (by omega)
   refine ⟨rfl,rfl,rfl,Or.inr ⟨?_,Or.inr ⟨by assumption,?_⟩,Nat.le_of_ble_eq_true rfl⟩⟩<;>simp [atPl]<;>omega
theorem step_down (m:MaR) (s:Nat) (hs:s < 17) (hp:m.p≤m.inp.length):Down m s (stepR m s (signAt m.inp m.p)):=by
 unfold stepR
 split
 ·exact front_down m s (by omega) hp
 split
 ·exact middle_down m s (by omega) hp
 split
 ·exact who_down m s (by omega) hp
 split
 ·rename_i h;subst h;exact path_down m hp
 ·exact back_down m s (by omega) hp
def behM (r:StR):MaR:=if r.2.2.1=true then r.1 else { r.1 with p:=r.1.p+1 }
theorem behM_p (r:StR):(behM r).p=atPl r:=by unfold behM atPl;split<;>rfl
theorem behM_inp (r:StR):(behM r).inp=r.1.inp:=by unfold behM;split<;>rfl
theorem left_down (m:MaR) (s:Nat) (hs:s < 17) (hp:m.p≤m.inp.length) (h:(stepR m s (signAt m.inp m.p)).2.1≠17) :
 (behM (stepR m s (signAt m.inp m.p))).p≤(behM (stepR m s (signAt m.inp m.p))).inp.length ∧
  leftM (behM (stepR m s (signAt m.inp m.p))) (stepR m s (signAt m.inp m.p)).2.1 < leftM m s:=by
 obtain ⟨d1,_,_,d2⟩:=step_down m s hs hp
 generalize stepR m s (signAt m.inp m.p)=r at *
 rcases d2 with d2 | ⟨e1,e2,e3⟩
 ·exact absurd d2 h
 unfold leftM
 rw [behM_p,behM_inp,d1]
 refine ⟨e1,?_⟩
 rcases e2 with e2 | ⟨e2,e4⟩
 ·have h1:(17-r.2.1)+1≤17-s:=by omega
  have h2:=Nat.mul_le_mul_right (m.inp.length+1) h1
  rw [Nat.add_mul] at h2
  omega
 ·rw [e2];omega
theorem step_le (m:MaR) (s:Nat) (hs:s < 17) (hp:m.p≤m.inp.length):(stepR m s (signAt m.inp m.p)).2.1≤17:=by
 obtain ⟨_,_,_,d2⟩:=step_down m s hs hp
 rcases d2 with d2 | ⟨_,_,e3⟩<;>omega
theorem left_pos (m:MaR) {s:Nat} (hs:s < 17):0 < leftM m s:=by
 unfold leftM
 have:=Nat.mul_le_mul_right (m.inp.length+1) (show 1≤17-s by omega)
 omega
theorem runF_step (f:Nat) (m:MaR) (s:Nat):runF (f+1) m s =
 if s=17 then (if 256 < m.u.path.length then (url0,11) else (m.u,0))
 else if (stepR m s (signAt m.inp m.p)).2.2.2≠0 then (url0,(stepR m s (signAt m.inp m.p)).2.2.2)
 else runF f (behM (stepR m s (signAt m.inp m.p))) (stepR m s (signAt m.inp m.p)).2.1:=rfl
theorem runF_eq:∀(f g:Nat) (m:MaR) (s:Nat),s≤17→(s < 17→m.p≤m.inp.length)→(s < 17→leftM m s < f)→(s < 17→leftM m s < g)→0 < f→0 < g →
 runF f m s=runF g m s
 | 0,_,_,_,_,_,_,_,h,_=>absurd h (by omega)
 | _+1,0,_,_,_,_,_,_,_,h=>absurd h (by omega)
 | f+1,g+1,m,s,hs,hp,hf,hg,_,_=>by
   rw [runF_step,runF_step]
   by_cases h:s=17
   ·rw [if_pos h,if_pos h]
   rw [if_neg h,if_neg h]
   have hs':s < 17:=by omega
   have hp:=hp hs'
   have hf:=hf hs'
   have hg:=hg hs'
   have hpos:=left_pos m hs'
   split
   ·rfl
   refine runF_eq f g _ _ (step_le m s hs' hp) (fun h2=>?_) (fun h2=>?_) (fun h2=>?_) (by omega) (by omega)
   ·exact (left_down m s hs' hp (by omega)).1
   ·have:=(left_down m s hs' hp (by omega)).2;omega
   ·have:=(left_down m s hs' hp (by omega)).2;omega
theorem piece_buf (m:MaR) (c:Int):(pieceM m c).buf=[]:=by
 unfold pieceM;dsimp only
 repeat' split
 all_goals rfl
theorem parts_eq (set:Int):∀l:List Int,partsN set l=pctR set (textL l)
 | []=>rfl
 | c::r=>by
   have h:=parts_eq set r
   simp only [partsN,List.flatMap_cons] at h ⊢
   rw [h]
   simp only [partN,textL,encL,List.map_cons,List.flatMap_cons,List.map_nil,List.flatMap_nil,List.append_nil,pctR_append]
structure RdP where
 m:MaR
 us:List Int
 ps:List Int
abbrev MvP:=RdP×Nat×Nat×Nat
def endsB (c:Int):Bool:=c==-1||c==63||c==35
def endsA (m:MaR) (c:Int):Bool:=endsB c||slashM m c
def RdP.on (x:RdP) (f:MaR→MaR):RdP:={ x with m:=f x.m }
def takeM (m:MaR):MaR:={ m with buf:=[] }
def encU (set:Int) (l:List Int):List UInt8:=pctR set (textL l)
def leaveP (x:RdP) (c:Int):MvP :=
 if c=63 then (x.on askM,15,1,0) else if c=35 then (x.on markM,16,1,0) else (x,17,1,0)
def beginP (x:RdP) (c:Int):MvP:=if letC c=true then (x.on (gatherM · (lowC c)),1,1,0) else (x,2,0,0)
def darkU (m:MaR):MaR:={ m with u:={ m.u with dark:=true } }
def behindP (x:RdP):MvP :=
 if x.m.u.sch=[102,105,108,101] then (x,0,0,4)
 else if (spM x.m&&x.m.has&&decide (x.m.base.sch=x.m.u.sch))=true then (x,3,1,0)
 else if spM x.m=true then (x,7,1,0)
 else if signAt x.m.inp (x.m.p+1)=47 then (x,4,2,0)
 else (x.on darkU,14,1,0)
def schemeP (x:RdP) (c:Int):MvP :=
 if (letC c||digC c||c==43||c==45||c==46)=true then (x.on (gatherM · (lowC c)),1,1,0)
 else if c=58 then behindP (x.on schemeM)
 else (x.on (fun m=>{ m with buf:=[],p:=0 }),2,0,0)
def noSchemeP (x:RdP) (c:Int):MvP :=
 if (!x.m.has||(x.m.base.dark&&c != 35))=true then (x,0,0,4)
 else if x.m.base.dark=true then leaveP (x.on (fun m=>{ m with u:=m.base })) c
 else (x,5,0,0)
def slashOrP (x:RdP) (c:Int):MvP:=if c=47∧signAt x.m.inp (x.m.p+1)=47 then (x,8,2,0) else (x,5,0,0)
def slashP (x:RdP) (c:Int):MvP:=if c=47 then (x,9,1,0) else (x,13,0,0)
def relSchM (m:MaR):MaR:={ m with u:={ m.u with sch:=m.base.sch } }
def noQueryM (m:MaR):MaR:={ m with u:={ m.u with hasQ:=false,qry:=[] } }
def relativeP (x:RdP) (c:Int):MvP :=
 if slashM (relSchM x.m) c=true then (x.on relSchM,6,1,0)
 else if endsB c=true then leaveP (x.on (fun m=>baseM (relSchM m))) c
 else (x.on (fun m=>shortM (noQueryM (baseM (relSchM m)))),13,0,0)
def relSlashP (x:RdP) (c:Int):MvP :=
 if (spM x.m&&slashM x.m c)=true then (x,8,1,0)
 else if c=47 then (x,9,1,0)
 else (x.on ownM,13,0,0)
def slashesP (x:RdP) (c:Int):MvP:=if c=47∧signAt x.m.inp (x.m.p+1)=47 then (x,8,2,0) else (x,8,0,0)
def skipP (x:RdP) (c:Int):MvP:=if c=47∨c=92 then (x,8,1,0) else (x,9,0,0)
def addC (colon:Bool) (us ps:List Int) (c:Int):List Int×List Int:=if colon=true then (us,ps++[c]) else (us++[c],ps)
def credS (l:List Int) (colon:Bool) (us ps:List Int):Bool×List Int×List Int :=
 match l with
 | []=>(colon,us,ps)
 | c::r=>if c=58∧colon=false then credS r true us ps else credS r colon (addC colon us ps c).1 (addC colon us ps c).2
def credB (x:RdP):List Int×List Int:=if x.m.seen=true then addC x.m.colon x.us x.ps 64 else (x.us,x.ps)
def credP (x:RdP):RdP :=
 {m:={ x.m with seen:=true,colon:=(credS x.m.buf x.m.colon (credB x).1 (credB x).2).1,buf:=[] },
  us:=(credS x.m.buf x.m.colon (credB x).1 (credB x).2).2.1,ps:=(credS x.m.buf x.m.colon (credB x).1 (credB x).2).2.2 }
def authM (x:RdP):MaR:={ x.m with u:={ x.m.u with usr:=encU 6 x.us,pas:=encU 6 x.ps },p:=x.m.p-x.m.buf.length,buf:=[] }
def authP (x:RdP) (c:Int):MvP :=
 if c=64 then (credP x,9,1,0)
 else if endsA x.m c=false then (x.on (gatherM · c),9,1,0)
 else if x.m.seen=true∧x.m.buf=[] then (x,0,0,6)
 else ({ x with m:=authM x },10,0,0)
def leaveHostP (x:RdP) (to by_:Nat) (may:Bool):MvP :=
 if x.m.buf=[]∧may=false then (x,0,0,6)
 else if (hostR (textL x.m.buf) (spM x.m)).2≠0 then (x,0,0,(hostR (textL x.m.buf) (spM x.m)).2)
 else (x.on (fun m=>(hostM m).1),to,by_,0)
def hostP (x:RdP) (c:Int):MvP :=
 if c=58∧x.m.brack=false then leaveHostP x 11 1 false
 else if endsA x.m c=true then leaveHostP x 12 0 (!spM x.m)
 else (x.on (fun m=>gatherM { m with brack:=if c=91 then true else if c=93 then false else m.brack } c),10,1,0)
def portNumP (l:List Int):Int:=l.foldl (fun n c=>min (n * 10+c-48) 65536) 0
def portM (m:MaR):MaR :=
 {m with buf:=[],u:={ m.u with port:=if spM m=false∨portNumP m.buf≠(specialN m.u.sch:Int) then portNumP m.buf else m.u.port } }
def portP (x:RdP) (c:Int):MvP :=
 if digC c=true then (x.on (gatherM · c),11,1,0)
 else if endsA x.m c=false then (x,0,0,4)
 else if x.m.buf=[] then (x,12,0,0)
 else if 65535 < portNumP x.m.buf then (x,0,0,1)
 else (x.on portM,12,0,0)
def startP (x:RdP) (c:Int):MvP :=
 if slashM x.m c=true then (x,13,1,0)
 else if (!spM x.m&&endsB c)=true then leaveP x c
 else (x,13,0,0)
def pathP (x:RdP) (c:Int):MvP :=
 if (!slashM x.m c&&!endsB c)=true then (x.on (gatherM · c),13,1,0)
 else if endsB c=true then leaveP (x.on (pieceM · c)) c
 else (x.on (pieceM · c),13,1,0)
def darkP (x:RdP) (c:Int):MvP :=
 if endsB c=false then (x.on (gatherM · c),14,1,0)
 else leaveP (x.on (fun m=>{ m with buf:=[],u:={ m.u with txt:=encU 1 m.buf } })) c
def queryU (m:MaR):MaR:={ m with buf:=[],u:={ m.u with qry:=encU (if spM m=true then 4 else 3) m.buf } }
def queryP (x:RdP) (c:Int):MvP :=
 if c≠35∧c≠-1 then (x.on (gatherM · c),15,1,0)
 else leaveP (x.on queryU) c
def fragU (m:MaR):MaR:={ m with buf:=[],u:={ m.u with frg:=encU 2 m.buf } }
def fragP (x:RdP) (c:Int):MvP :=
 if c≠-1 then (x.on (gatherM · c),16,1,0) else (x.on fragU,17,1,0)
def stepP (x:RdP) (s:Nat) (c:Int):MvP :=
 match s with
 | 0=>beginP x c
 | 1=>schemeP x c
 | 2=>noSchemeP x c
 | 3=>slashOrP x c
 | 4=>slashP x c
 | 5=>relativeP x c
 | 6=>relSlashP x c
 | 7=>slashesP x c
 | 8=>skipP x c
 | 9=>authP x c
 | 10=>hostP x c
 | 11=>portP x c
 | 12=>startP x c
 | 13=>pathP x c
 | 14=>darkP x c
 | 15=>queryP x c
 | _=>fragP x c
def behP (r:MvP):RdP:=r.1.on (fun m=>{ m with p:=m.p+r.2.2.1 })
def Good (p:List Int):Prop:=∀c∈p,kindOf c=1∧c≠46
theorem kind_isS {c:Int} (h:kindOf c=1):isS c=true:=by
 rcases Bool.eq_false_or_eq_true (isS c) with g | g
 ·exact g
 ·have:kindOf c=4:=kind_barred (by unfold barred;rw [g];rfl)
  rw [this] at h;cases h
theorem Good.all {p:List Int} (h:Good p):p.all isS=true:=List.all_eq_true.2 fun c hc=>kind_isS (h c hc).1
def goI:List Int→List Int→List (List Int)
 | cur,[]=>[cur]
 | cur,c::r=>if c=46 then cur::goI [] r else goI (cur++[c]) r
def joinA:List UInt8→Bool→List (List Int)→ByteArray×Int
 | acc,first,[]=>finA acc
 | acc,first,p::ps=>if (labR p).2=0 then joinA (acc++dotB first++bytesOf (labR p).1) false ps else (strOf [],(labR p).2)
theorem goA_pieces:∀(r:List Int) (acc:List UInt8) (first:Bool) (cur:List Int),goA acc first cur r=joinA acc first (goI cur r)
 | [],acc,first,cur=>rfl
 | c::r,acc,first,cur=>by
   unfold goA goI
   split
   ·show _=if (labR cur).2=0 then joinA _ false (goI [] r) else _
    rw [goA_pieces r]
   ·exact goA_pieces r acc first (cur++[c])
def joinL:Bool→List (List UInt8)→List UInt8
 | first,[]=>[]
 | first,b::bs=>dotB first++b++joinL false bs
theorem joinL_cons (first:Bool) (b:List UInt8) (bs:List (List UInt8)):joinL first (b::bs)=dotB first++b++joinL false bs:=rfl
theorem joinA_ok:∀(ps:List (List Int)) (acc:List UInt8) (first:Bool),(∀p∈ps,(labR p).2=0)→joinA acc first ps=finA (acc++joinL first (ps.map fun p=>bytesOf (labR p).1))
 | [],acc,first,_=>by simp [joinA,joinL]
 | p::ps,acc,first,h=>by
   unfold joinA
   rw [if_pos (h p List.mem_cons_self),joinA_ok ps _ false (fun q hq=>h q (List.mem_cons_of_mem _ hq))]
   simp [joinL]
theorem joinA_inv:∀(ps:List (List Int)) (acc:List UInt8) (first:Bool) (s:ByteArray),joinA acc first ps=(s,0)→∀p∈ps,(labR p).2=0
 | [],acc,first,s,_=>by intro p hp;cases hp
 | q::ps,acc,first,s,h=>by
   unfold joinA at h
   split at h
   ·intro p hp
    rcases List.mem_cons.1 hp with rfl | hp
    ·assumption
    ·exact joinA_inv ps _ false s h p hp
   ·rename_i hn
    exact absurd (congrArg Prod.snd h) hn
theorem goI_mem:∀(r cur p:List Int),p∈goI cur r→∀c∈p,c∈cur∨(c∈r∧c≠46)
 | [],cur,p,h=>by
   intro c hc
   simp [goI] at h
   subst h
   exact .inl hc
 | x::r,cur,p,h=>by
   unfold goI at h
   intro c hc
   split at h
   ·rcases List.mem_cons.1 h with rfl | h
    ·exact .inl hc
    ·rcases goI_mem r [] p h c hc with g | g
     ·cases g
     ·exact .inr ⟨List.mem_cons_of_mem _ g.1,g.2⟩
   ·rename_i hx
    rcases goI_mem r (cur++[x]) p h c hc with g | g
    ·rcases List.mem_append.1 g with g | g
     ·exact .inl g
     ·rw [List.mem_singleton.1 g];exact .inr ⟨List.mem_cons_self,hx⟩
    ·exact .inr ⟨List.mem_cons_of_mem _ g.1,g.2⟩
theorem goI_good {m:List Int} (h:∀c∈m,kindOf c=1):∀p∈goI [] m,Good p:=by
 intro p hp c hc
 rcases goI_mem m [] p hp c hc with g | g
 ·cases g
 ·exact ⟨h c g.1,g.2⟩
theorem goI_some:∀(r cur:List Int),goI cur r≠[]
 | [],cur=>by simp [goI]
 | x::r,cur=>by
   unfold goI
   split
   ·simp
   ·exact goI_some r _
theorem joinL_len:∀(bs:List (List UInt8)) (first:Bool) (b:List UInt8),b∈bs→b.length≤(joinL first bs).length
 | x::bs,first,b,h=>by
   unfold joinL
   rw [List.length_append,List.length_append]
   rcases List.mem_cons.1 h with rfl | h
   ·omega
   ·have:=joinL_len bs false b h;omega
theorem asc_inv {l:List Int} {s:ByteArray} (h:ascR l=(s,0)):∃ps:List (List Int),ps≠[]∧(∀p∈ps,Good p∧(labR p).2=0∧(labR p).1.size≤253)∧bytesOf s=joinL true (ps.map fun p=>bytesOf (labR p).1)∧s.size≤253:=by
 unfold ascR at h
 split at h
 ·exact absurd (show (11:Int)=0 from congrArg Prod.snd h) (by decide)
 ·split at h
  ·rw [goA_pieces] at h
   have hl:=joinA_inv _ _ _ _ h
   rw [joinA_ok _ _ _ hl,List.nil_append] at h
   unfold finA at h
   split at h
   ·exact absurd (show (3:Int)=0 from congrArg Prod.snd h) (by decide)
   ·rename_i hle
    have hs:strOf (joinL true ((goI [] (mapOf l)).map fun p=>bytesOf (labR p).1))=s:=congrArg Prod.fst h
    have hb:bytesOf s=joinL true ((goI [] (mapOf l)).map fun p=>bytesOf (labR p).1):=by rw [← hs];rfl
    refine ⟨goI [] (mapOf l),goI_some _ _,fun p hp=>⟨goI_good (map_valid l) p hp,hl p hp,?_⟩,hb,by rw [← bytesOf_len,hb];omega⟩
    have:=joinL_len ((goI [] (mapOf l)).map fun p=>bytesOf (labR p).1) true (bytesOf (labR p).1) (List.mem_map.2 ⟨p,hp,rfl⟩)
    rw [bytesOf_len] at this
    omega
  ·exact absurd (show (4:Int)=0 from congrArg Prod.snd h) (by decide)
theorem encR_pos (l:List Int):0≤(encR l).2:=by
 unfold encR
 split
 ·decide
 ·split<;>simp
theorem labR_pos (l:List Int):0≤(labR l).2:=by
 unfold labR
 split
 ·split
  ·simp
  ·split
   ·simp
   ·exact encR_pos l
 ·split
  ·simp
  ·split<;>simp
theorem joinA_pos:∀(ps:List (List Int)) (acc:List UInt8) (first:Bool),0≤(joinA acc first ps).2
 | [],acc,first=>by unfold joinA finA;split<;>simp
 | p::ps,acc,first=>by
   unfold joinA
   split
   ·exact joinA_pos ps _ false
   ·exact labR_pos p
theorem ascR_pos (l:List Int):0≤(ascR l).2:=by
 unfold ascR
 split
 ·simp
 ·split
  ·rw [goA_pieces]
   exact joinA_pos _ _ _
  ·simp
end Go.Proofs.YtigfgloenjoeoaaGreatDoor
namespace Go.Proofs.YtigfgloenjoeoaaGreatDoor
open Go.RowKit
theorem iplain_calls (v:Value) (l:List Int) (w:World) (hv:IRow w v l) :
 Calls Tryz.prog 152 #[v] w fun e w'=>e=.returned (.bool (asciiB l))∧w'=w:=by
 have HV:=hid hv
 obtain ⟨a,cap,rfl,h1,h2,h3⟩:=hv
 unfold maxLen at h2
 have l2:(l.length:Int)≤(cap:Int):=by omega
 have l3:(cap:Int)≤9223372036854775807:=by omega
 obtain ⟨R,hR⟩:∃R,R=asciiB l:=⟨_,rfl⟩
 rw [← hR]
 have HR:=hid hR
 clear h1 h2 h3 hR
 go_enter Tryz.func152,Tryz.ntmps152
 go_wp2_with fail
 go_loop [7] (fun vi=>∃k:Nat,k≤l.length∧vi=.int .i64 (k:Int)∧asciiB (l.take k)=true) (fun vi=>l.length-(intOf vi).toNat)
 case atStart=>exact ⟨0,Nat.zero_le _,rfl,rfl⟩
 case round =>
  obtain ⟨k,hk,rfl,hall⟩:=hrel
  have HA:=hid hall
  have k0:(0:Int)≤(k:Int):=by omega
  clear hall
  by_cases hlt:k < l.length
  ·obtain ⟨b,off,rfl,hck⟩:=HV.out.open (Below.refl _ _) k hlt
   have k1:(k:Int) < (l.length:Int):=by omega
   have HS:=hid (ascii_snoc l k hlt)
   have HN:=hid (ascii_not l k hlt)
   have HK:=hid hlt
   generalize l[k]=c at *
   clear hlt hk
   by_cases h0:c < 0
   ·have HF:Hid (R=false):=by show _=_;rw [HR.out];exact HN.out (by omega)
    clear HS HN
    go_wp2_with fail
    go_ret
    exact ⟨by rw [HF.out];rfl,rfl⟩
   ·by_cases h1:128≤c
    ·have HF:Hid (R=false):=by show _=_;rw [HR.out];exact HN.out (by omega)
     clear HS HN
     go_wp2_with fail
     go_ret
     exact ⟨by rw [HF.out];rfl,rfl⟩
    ·have HX:Hid (asciiB (l.take (k+1))=true):=by show _=_;rw [HS.out,HA.out,decide_eq_true (by omega)];rfl
     clear HS HN
     go_wp2_with fail
     go_round
     case rel=>exact ⟨k+1,HK.out,by go_num,HX.out⟩
     case measure=>have:=HK.out;simp [intOf];omega
  ·have hkl:k=l.length:=by omega
   have HF:Hid (R=true):=by show _=_;rw [HR.out,← HA.out,hkl,List.take_length]
   have g:¬(k:Int) < (l.length:Int):=by omega
   clear hlt hk hkl
   go_wp2_with fail
   go_ret
   exact ⟨by rw [HF.out];rfl,rfl⟩
def validB (l:List Int):Bool:=l.all fun c=>kindOf c==1
theorem valid_take (l:List Int) (k:Nat) (h:k < l.length) (h1:∀c∈l.take k,kindOf c=1) (h2:kindOf l[k]=1):∀c∈l.take (k+1),kindOf c=1:=by
 intro c hc
 rw [List.take_succ_eq_append_getElem h] at hc
 rcases List.mem_append.1 hc with g | g
 ·exact h1 c g
 ·rw [List.mem_singleton.1 g];exact h2
theorem valid_not (l:List Int) (k:Nat) (h:k < l.length) (hn:kindOf l[k]≠1):validB l=false:=by
 unfold validB
 rw [List.all_eq_false]
 exact ⟨l[k],List.getElem_mem h,by simpa using hn⟩
theorem ivalid_calls (v:Value) (l:List Int) (w:World) (hv:IRow w v l) :
 Calls Tryz.prog 181 #[v] w fun e w'=>e=.returned (.bool (validB l))∧Below w.heap.size w w':=by
 have HV:=hid hv
 obtain ⟨a,cap,rfl,h1,h2,h3⟩:=hv
 unfold maxLen at h2
 have l2:(l.length:Int)≤(cap:Int):=by omega
 have l3:(cap:Int)≤9223372036854775807:=by omega
 obtain ⟨R,hR⟩:∃R,R=validB l:=⟨_,rfl⟩
 rw [← hR]
 have HR:=hid hR
 clear h1 h2 h3 hR
 go_enter Tryz.func181,Tryz.ntmps181
 go_wp2_with fail
 go_loopw [7] (fun vi wr=>∃k:Nat,k≤l.length∧vi=.int .i64 (k:Int)∧Below w.heap.size w wr∧∀c∈l.take k,kindOf c=1) (fun vi _=>l.length-(intOf vi).toNat)
 case atStart=>exact ⟨0,Nat.zero_le _,rfl,Below.refl _ _,by simp⟩
 case round =>
  obtain ⟨k,hk,rfl,hb,hall⟩:=hrel
  have HA:=hid hall
  have HB:=hid hb
  have k0:(0:Int)≤(k:Int):=by omega
  clear hall hb
  by_cases hlt:k < l.length
  ·obtain ⟨b,off,rfl,hck⟩:=HV.out.open HB.out k hlt
   have k1:(k:Int) < (l.length:Int):=by omega
   have HS:=hid (valid_take l k hlt HA.out)
   have HN:=hid (valid_not l k hlt)
   have HK:=hid hlt
   generalize l[k]=c at *
   clear hlt hk
   go_wp2_with fail
   refine (kind_calls c _).mono ?_
   rintro e w8 ⟨rfl,hb8⟩
   have HB8:=hid (below_trans HB.out hb8)
   clear hb8
   generalize kindOf c=kc at *
   by_cases h1:kc=1
   ·subst h1
    have HX:=hid (HS.out rfl)
    go_wp2_with fail
    go_roundw
    case rel=>exact ⟨k+1,HK.out,by go_num,HB8.out,HX.out⟩
    case measure=>have:=HK.out;simp [intOf];omega
   ·have HX:Hid (R=false):=by show _=_;rw [HR.out];exact HN.out h1
    have q1:(kc==1)=false:=by rw [beq_eq_false_iff_ne];exact h1
    have q2:(kc != 1)=true:=by rw [bne_iff_ne];exact h1
    clear h1
    go_wp2_with fail
    go_ret
    exact ⟨by rw [HX.out];rfl,HB8.out⟩
  ·have hkl:k=l.length:=by omega
   have HF:Hid (R=true):=by
    show _=_
    rw [HR.out]
    unfold validB
    rw [List.all_eq_true]
    intro c hc
    have h:=HA.out
    rw [hkl,List.take_length] at h
    simpa using h c hc
   have g:¬(k:Int) < (l.length:Int):=by omega
   clear hlt hk hkl
   go_wp2_with fail
   go_ret
   exact ⟨by rw [HF.out];rfl,HB.out⟩
theorem hasp_calls (s:ByteArray) (w:World) (hs:s.size≤maxLen) :
 Calls Tryz.prog 52 #[.string s,.string ⟨#[120,110,45,45]⟩] w fun e w'=>e=.returned (.bool (markB (bytesOf s)))∧w'=w:=by
 unfold maxLen at hs
 have s1:(s.size:Int)≤9223372036854775807:=by omega
 have hbl:=bytesOf_len s
 obtain ⟨R,hR⟩:∃R,R=markB (bytesOf s):=⟨_,rfl⟩
 rw [← hR]
 by_cases h4:4≤s.size
 ·have e1:(s.extract 0 4).toList=(bytesOf s).take 4:=by rw [ByteArray.toList_eq];exact extract_bytes s 4 h4
  have e2:((bytesOf s).take 4==[120,110,45,45])=R:=hR.symm
  have g:(4:Int)≤(s.size:Int):=by omega
  generalize (bytesOf s).take 4=T at *
  clear hR hbl h4 hs
  go_enter Tryz.func52,Tryz.ntmps52
  go_wp2
  go_ret
  exact ⟨rfl,rfl⟩
 ·have g:¬(4:Int)≤(s.size:Int):=by omega
  have HF:Hid (R=false):=by
   show _=_
   rw [hR]
   unfold markB
   rw [beq_eq_false_iff_ne]
   intro h
   have:=congrArg List.length h
   rw [List.length_take] at this
   simp at this
   omega
  clear hR hbl h4 hs
  go_enter Tryz.func52,Tryz.ntmps52
  go_wp2
  go_ret
  exact ⟨by rw [HF.out];rfl,rfl⟩
theorem mark_size {s:ByteArray} (h:markB (bytesOf s)=true):4≤s.size:=by
 unfold markB at h
 have h2:=congrArg List.length (beq_iff_eq.1 h)
 rw [List.length_take,bytesOf_len] at h2
 simp at h2
 omega
def cutR (s:ByteArray):ByteArray×Bool:=if markB (bytesOf s)=true then (strOf ((bytesOf s).drop 4),true) else (s,false)
theorem cutp_calls (s:ByteArray) (w:World) (hs:s.size≤maxLen) :
 Calls Tryz.prog 154 #[.string s,.string ⟨#[120,110,45,45]⟩] w fun e w'=>e=.returned (.tuple #[.string (cutR s).1,.bool (cutR s).2])∧w'=w:=by
 have HS:=hid hs
 unfold maxLen at hs
 have s1:(s.size:Int)≤9223372036854775807:=by omega
 have hbl:=bytesOf_len s
 obtain ⟨R,hR⟩:∃R,R=cutR s:=⟨_,rfl⟩
 rw [← hR]
 by_cases h4:4≤s.size
 ·have e1:(s.extract 0 4).toList=(bytesOf s).take 4:=by rw [ByteArray.toList_eq];exact extract_bytes s 4 h4
  have hcut:s.extract 4 s.size=strOf ((bytesOf s).drop 4):=str_drop (bytesOf s) 4 (by omega)
  have g:(4:Int)≤(s.size:Int):=by omega
  cases hm:markB (bytesOf s) with
  | true =>
    have e2:((bytesOf s).take 4==[120,110,45,45])=true:=hm
    have HX:Hid (R=(strOf ((bytesOf s).drop 4),true)):=by show _=_;rw [hR];unfold cutR;rw [if_pos hm]
    generalize strOf ((bytesOf s).drop 4)=t at *
    generalize (bytesOf s).take 4=T at *
    clear hR hbl h4 hs hm
    go_enter Tryz.func154,Tryz.ntmps154
    go_wp2
    go_ret2
    exact ⟨by rw [HX.out];rfl,rfl⟩
  | false =>
    have e2:((bytesOf s).take 4==[120,110,45,45])=false:=hm
    have HX:Hid (R=(s,false)):=by show _=_;rw [hR];unfold cutR;rw [if_neg (by rw [hm];decide)]
    generalize strOf ((bytesOf s).drop 4)=t at *
    generalize (bytesOf s).take 4=T at *
    clear hR hbl h4 hs hm hcut
    go_enter Tryz.func154,Tryz.ntmps154
    go_wp2
    go_ret2
    exact ⟨by rw [HX.out];rfl,rfl⟩
 ·have g:¬(4:Int)≤(s.size:Int):=by omega
  have HX:Hid (R=(s,false)):=by
   show _=_
   rw [hR]
   unfold cutR
   rw [if_neg (fun h=>h4 (mark_size h))]
  clear hR hbl h4 hs
  go_enter Tryz.func154,Tryz.ntmps154
  go_wp2
  go_ret2
  exact ⟨by rw [HX.out];rfl,rfl⟩
def byR (l:List Int):ByteArray×Int:=if markB (textL l)=true then (strOf [],4) else if (encR l).2=0 then (strOf ([120,110,45,45]++bytesOf (encR l).1),0) else (strOf [],(encR l).2)
theorem labR_by {l:List Int} (h:asciiB l=false):labR l=byR l:=by unfold labR byR;rw [if_pos h]
theorem text_size {l:List Int} (hl:l.length≤100000):(strOf (textL l)).size≤maxLen:=by
 have:=text_len l
 rw [strOf_size];unfold maxLen;omega
theorem bypuny_calls (v:Value) (l:List Int) (w:World) (hv:IRow w v l) (hl:l.length≤100000) :
 Calls Tryz.prog 153 #[v] w fun e w'=>e=.returned (.tuple #[.string (byR l).1,.int .i64 (byR l).2])∧Below w.heap.size w w':=by
 have HV:=hid hv
 have HTx:=hid (text_calls v l w hv hl)
 have HM:=hid (fun w'=>hasp_calls (strOf (textL l)) w' (text_size hl))
 have HTB:Hid (bytesOf (strOf (textL l))=textL l):=rfl
 rw [HTB.out] at HM
 obtain ⟨R,hR⟩:∃R,R=byR l:=⟨_,rfl⟩
 rw [← hR]
 have HR:=hid hR
 clear hv hl hR
 cases hmk:markB (textL l) with
 | true =>
   have HX:Hid (R=(strOf [],4)):=by show _=_;rw [HR.out];unfold byR;rw [if_pos hmk]
   rw [hmk] at HM
   clear hmk
   generalize strOf (textL l)=s at *
   go_enter Tryz.func153,Tryz.ntmps153
   go_wp2_with fail
   refine HTx.out.mono ?_
   rintro e w1 ⟨rfl,hb1⟩
   have HB1:=hid hb1
   clear hb1
   go_wp2_with fail
   refine (HM.out _).mono ?_
   rintro e w3 ⟨rfl,rfl⟩
   go_wp2_with fail
   go_ret2
   exact ⟨by rw [HX.out];rfl,HB1.out⟩
 | false =>
   have HXB:Hid ((encR l).2≠0→R=(strOf [],(encR l).2)):=fun h=>by rw [HR.out];unfold byR;rw [if_neg (by rw [hmk];decide),if_neg h]
   have HXG:Hid ((encR l).2=0→R=(strOf ([120,110,45,45]++bytesOf (encR l).1),0)):=fun h=>by rw [HR.out];unfold byR;rw [if_neg (by rw [hmk];decide),if_pos h]
   rw [hmk] at HM
   have HPu:=hid (fun w' hv=>pencode_calls v l w' hv)
   have hps:=encR_size l
   clear hmk
   generalize strOf (textL l)=s at *
   generalize encR l=X at *
   obtain ⟨p,n⟩:=X
   simp only at HXB HXG HPu hps
   have p1:(p.size:Int)≤10000000:=by omega
   have hj:=str_join p
   clear hps
   by_cases hn:n=0
   ·subst hn
    have HX:=hid (HXG.out rfl)
    rw [← hj] at HX
    clear HXB HXG hj
    go_enter Tryz.func153,Tryz.ntmps153
    go_wp2_with fail
    refine HTx.out.mono ?_
    rintro e w1 ⟨rfl,hb1⟩
    have HB1:=hid hb1
    have HV1:=hid (HV.out.below hb1)
    clear hb1
    go_wp2_with fail
    refine (HM.out _).mono ?_
    rintro e w3 ⟨rfl,rfl⟩
    go_wp2_with fail
    refine (HPu.out _ HV1.out).mono ?_
    rintro e w4 ⟨rfl,hb4⟩
    have HB4:=hid (below_trans HB1.out hb4)
    clear hb4
    go_wp2_with fail
    go_ret2
    exact ⟨by rw [HX.out];rfl,HB4.out⟩
   ·have HX:=hid (HXB.out hn)
    have n1:(n==0)=false:=by rw [beq_eq_false_iff_ne];exact hn
    have n2:(n != 0)=true:=by rw [bne_iff_ne];exact hn
    clear HXB HXG hn hj
    go_enter Tryz.func153,Tryz.ntmps153
    go_wp2_with fail
    refine HTx.out.mono ?_
    rintro e w1 ⟨rfl,hb1⟩
    have HB1:=hid hb1
    have HV1:=hid (HV.out.below hb1)
    clear hb1
    go_wp2_with fail
    refine (HM.out _).mono ?_
    rintro e w3 ⟨rfl,rfl⟩
    go_wp2_with fail
    refine (HPu.out _ HV1.out).mono ?_
    rintro e w4 ⟨rfl,hb4⟩
    have HB4:=hid (below_trans HB1.out hb4)
    clear hb4
    go_wp2_with fail
    go_ret2
    exact ⟨by rw [HX.out];rfl,HB4.out⟩
theorem byR_back {u:List Int} {t:ByteArray}:((byR u).2=0∧(bytesOf (byR u).1==[120,110,45,45]++bytesOf t)=true)↔(markB (textL u)=false∧(encR u).2=0∧(bytesOf (encR u).1==bytesOf t)=true):=by
 unfold byR
 cases hm:markB (textL u) with
 | true=>simp
 | false =>
   rw [if_neg (by decide)]
   by_cases he:(encR u).2=0
   ·rw [if_pos he]
    simp [he,bytesOf,strOf]
   ·rw [if_neg he]
    simp [he]
theorem backOk_by {t:ByteArray} (h1:(decR t).2=0) (h2:asciiB (ints (decR t).1)=false) (h3:validB (ints (decR t).1)=true):backOk t=(decide ((byR (ints (decR t).1)).2=0)&&(bytesOf (byR (ints (decR t).1)).1==[120,110,45,45]++bytesOf t)):=by
 have hk:((ints (decR t).1).all fun c=>kindR c==1)=true:=by
  unfold validB at h3
  rw [List.all_eq_true] at h3 ⊢
  intro c hc
  rw [kind_alike]
  exact h3 c hc
 have hb:=byR_back (u:=ints (decR t).1) (t:=t)
 unfold backOk
 rw [h1,h2,hk]
 cases hr:(decide ((byR (ints (decR t).1)).2=0)&&(bytesOf (byR (ints (decR t).1)).1==[120,110,45,45]++bytesOf t)) with
 | true =>
   rw [Bool.and_eq_true,decide_eq_true_eq] at hr
   obtain ⟨g1,g2,g3⟩:=hb.1 hr
   rw [g1,g2,g3];rfl
 | false =>
   have hn:¬(markB (textL (ints (decR t).1))=false∧(encR (ints (decR t).1)).2=0∧(bytesOf (encR (ints (decR t).1)).1==bytesOf t)=true):=by
    intro h
    have g:=hb.2 h
    rw [← decide_eq_true_eq (p:=(byR (ints (decR t).1)).2=0),← Bool.and_eq_true,hr] at g
    cases g
   cases h4:markB (textL (ints (decR t).1)) with
   | true=>rfl
   | false =>
     cases h5:(encR (ints (decR t).1)).2==0 with
     | false=>rfl
     | true =>
       cases h6:(bytesOf (encR (ints (decR t).1)).1==bytesOf t) with
       | false=>rfl
       | true=>exact absurd ⟨h4,beq_iff_eq.1 h5,h6⟩ hn
theorem backOk_valid {t:ByteArray} (h:validB (ints (decR t).1)=false):backOk t=false:=by
 unfold validB at h
 rw [List.all_eq_false] at h
 obtain ⟨c,hc,hk⟩:=h
 exact backOk_kind hc (by rw [kind_alike];simpa using hk)
theorem written_calls (t:ByteArray) (w:World) (ht:t.size≤maxLen) (ht2:t.size≤1000000000) :
 Calls Tryz.prog 155 #[.string t] w fun e w'=>e=.returned (.bool (backOk t))∧Below w.heap.size w w':=by
 have t1:(t.size:Int)≤1000000000:=by omega
 have HD:=hid (fun w'=>pdecode_calls t w' ht)
 have HU256:=hid (decR_most t)
 have HB0:=hid (backOk_err (t:=t))
 have HB1:=hid (backOk_ascii (t:=t))
 have HB2:=hid (backOk_valid (t:=t))
 have HB3:=hid (backOk_by (t:=t))
 have hj:=str_join t
 have etj:=toList_bytes (strOf ([120,110,45,45]++bytesOf t))
 have etb:bytesOf (strOf ([120,110,45,45]++bytesOf t))=[120,110,45,45]++bytesOf t:=rfl
 obtain ⟨R,hR⟩:∃R,R=backOk t:=⟨_,rfl⟩
 rw [← hR] at HB0 HB1 HB2 HB3
 rw [← hR]
 obtain ⟨mt,hmt⟩:∃mt,mt=strOf ([120,110,45,45]++bytesOf t):=⟨_,rfl⟩
 rw [← hmt] at hj etj etb
 rw [← etb] at HB3
 clear ht ht2 hR hmt etb
 generalize decR t=D at *
 obtain ⟨du,dn⟩:=D
 simp only at HB0 HB1 HB2 HB3 HU256
 unfold DecPost at HD
 simp only at HD
 generalize ints du=u at *
 have HBy:=hid (fun vu w' hvu=>bypuny_calls vu u w' hvu (by have:=HU256.out;omega))
 by_cases hdn:dn=0
 ·subst hdn
  cases hua:asciiB u with
  | true =>
    have HX:Hid (R=false):=hid (HB1.out hua)
    have HUA:=hid hua
    clear hua HB0 HB1 HB2 HB3
    go_enter Tryz.func155,Tryz.ntmps155
    go_wp2_with fail
    refine (HD.out _).mono ?_
    rintro e w1 ⟨⟨vu,rfl,hvu⟩,hb1⟩
    have HB1:=hid hb1
    have HU1:=hid hvu
    clear hb1 hvu
    go_wp2_with fail
    refine (iplain_calls _ u _ HU1.out).mono ?_
    rintro e w2 ⟨rfl,rfl⟩
    rw [HUA.out]
    go_wp2_with fail
    go_ret
    exact ⟨by rw [HX.out];rfl,HB1.out⟩
  | false =>
    have HUA:=hid hua
    cases hva:validB u with
    | false =>
      have HX:Hid (R=false):=hid (HB2.out hva)
      have HVA:=hid hva
      clear hua hva HB0 HB1 HB2 HB3
      go_enter Tryz.func155,Tryz.ntmps155
      go_wp2_with fail
      refine (HD.out _).mono ?_
      rintro e w1 ⟨⟨vu,rfl,hvu⟩,hb1⟩
      have HB1:=hid hb1
      have HU1:=hid hvu
      clear hb1 hvu
      go_wp2_with fail
      refine (iplain_calls _ u _ HU1.out).mono ?_
      rintro e w2 ⟨rfl,rfl⟩
      rw [HUA.out]
      go_wp2_with fail
      refine (ivalid_calls _ u _ HU1.out).mono ?_
      rintro e w3 ⟨rfl,hb3⟩
      have HB3:=hid (below_trans HB1.out hb3)
      rw [HVA.out]
      clear hb3
      go_wp2_with fail
      go_ret
      exact ⟨by rw [HX.out];rfl,HB3.out⟩
    | true =>
      have HX:=hid (HB3.out (by first | rfl | trivial) hua hva)
      have HVA:=hid hva
      clear hua hva HB0 HB1 HB2 HB3
      generalize byR u=Y at *
      obtain ⟨p,n⟩:=Y
      simp only at HX HBy
      have ep:=toList_bytes p
      by_cases hn:n=0
      ·subst hn
       obtain ⟨q,hq⟩:∃q,q=(bytesOf p==bytesOf mt):=⟨_,rfl⟩
       have HQ:Hid (R=q):=by show _=_;rw [HX.out,hq];simp
       have hq2:=hq.symm
       clear HX hq
       go_enter Tryz.func155,Tryz.ntmps155
       go_wp2_with fail
       refine (HD.out _).mono ?_
       rintro e w1 ⟨⟨vu,rfl,hvu⟩,hb1⟩
       have HB1:=hid hb1
       have HU1:=hid hvu
       clear hb1 hvu
       go_wp2_with fail
       refine (iplain_calls _ u _ HU1.out).mono ?_
       rintro e w2 ⟨rfl,rfl⟩
       rw [HUA.out]
       go_wp2_with fail
       refine (ivalid_calls _ u _ HU1.out).mono ?_
       rintro e w3 ⟨rfl,hb3⟩
       have HB3:=hid (below_trans HB1.out hb3)
       have HU3:=hid (HU1.out.below hb3)
       rw [HVA.out]
       clear hb3
       go_wp2_with fail
       refine (HBy.out _ _ HU3.out).mono ?_
       rintro e w4 ⟨rfl,hb4⟩
       have HB4:=hid (below_trans HB3.out hb4)
       clear hb4
       go_wp2_with fail
       go_ret
       exact ⟨by rw [HQ.out];rfl,HB4.out⟩
      ·have HQ:Hid (R=false):=by show _=_;rw [HX.out,decide_eq_false hn];rfl
       have n1:(n==0)=false:=by rw [beq_eq_false_iff_ne];exact hn
       have n2:(n != 0)=true:=by rw [bne_iff_ne];exact hn
       clear HX hn
       go_enter Tryz.func155,Tryz.ntmps155
       go_wp2_with fail
       refine (HD.out _).mono ?_
       rintro e w1 ⟨⟨vu,rfl,hvu⟩,hb1⟩
       have HB1:=hid hb1
       have HU1:=hid hvu
       clear hb1 hvu
       go_wp2_with fail
       refine (iplain_calls _ u _ HU1.out).mono ?_
       rintro e w2 ⟨rfl,rfl⟩
       rw [HUA.out]
       go_wp2_with fail
       refine (ivalid_calls _ u _ HU1.out).mono ?_
       rintro e w3 ⟨rfl,hb3⟩
       have HB3:=hid (below_trans HB1.out hb3)
       have HU3:=hid (HU1.out.below hb3)
       rw [HVA.out]
       clear hb3
       go_wp2_with fail
       refine (HBy.out _ _ HU3.out).mono ?_
       rintro e w4 ⟨rfl,hb4⟩
       have HB4:=hid (below_trans HB3.out hb4)
       clear hb4
       go_wp2_with fail
       go_ret
       exact ⟨by rw [HQ.out];rfl,HB4.out⟩
 ·have HX:Hid (R=false):=hid (HB0.out hdn)
  have q1:(dn==0)=false:=by rw [beq_eq_false_iff_ne];exact hdn
  have q2:(dn != 0)=true:=by rw [bne_iff_ne];exact hdn
  clear hdn HB0 HB1 HB2 HB3
  go_enter Tryz.func155,Tryz.ntmps155
  go_wp2_with fail
  refine (HD.out _).mono ?_
  rintro e w1 ⟨⟨vu,rfl,hvu⟩,hb1⟩
  have HB1:=hid hb1
  clear hb1 hvu
  go_wp2_with fail
  go_ret
  exact ⟨by rw [HX.out];rfl,HB1.out⟩
theorem label_calls (v:Value) (l:List Int) (w:World) (hv:IRow w v l) (hl:l.length≤100000) :
 Calls Tryz.prog 108 #[v] w fun e w'=>e=.returned (.tuple #[.string (labR l).1,.int .i64 (labR l).2])∧Below w.heap.size w w':=by
 have HV:=hid hv
 have HBy:=hid (bypuny_calls v l w hv hl)
 have HTx:=hid (text_calls v l w hv hl)
 have HCu:=hid (fun w'=>cutp_calls (strOf (textL l)) w' (text_size hl))
 have htl:=text_len l
 obtain ⟨R,hR⟩:∃R,R=labR l:=⟨_,rfl⟩
 rw [← hR]
 have HR:=hid hR
 clear hR
 cases hasc:asciiB l with
 | false =>
   have HX:Hid (R=byR l):=by show _=_;rw [HR.out,labR_by hasc]
   have HA:=hid hasc
   generalize byR l=Y at *
   obtain ⟨p,n⟩:=Y
   simp only at HBy
   clear hasc hv hl htl HTx HCu
   go_enter Tryz.func108,Tryz.ntmps108
   go_wp2_with fail
   refine (iplain_calls _ l _ HV.out).mono ?_
   rintro e w2 ⟨rfl,rfl⟩
   rw [HA.out]
   go_wp2_with fail
   refine HBy.out.mono ?_
   rintro e w3 ⟨rfl,hb3⟩
   have HB3:=hid hb3
   clear hb3
   go_wp2_with fail
   go_ret2
   exact ⟨by rw [HX.out];rfl,HB3.out⟩
 | true =>
   have HA:=hid hasc
   cases hmk:markB (textL l) with
   | false =>
     have HX:Hid (R=(textB l,0)):=by show _=_;rw [HR.out,labR_plain hasc hmk]
     have hcut:cutR (strOf (textL l))=(strOf (textL l),false):=by unfold cutR;rw [if_neg];show¬markB (textL l)=true;rw [hmk];decide
     rw [hcut] at HCu
     have hTB:strOf (textL l)=textB l:=rfl
     rw [hTB] at HCu HTx
     clear hasc hv hl htl hmk hcut HBy hTB
     generalize textB l=s at *
     go_enter Tryz.func108,Tryz.ntmps108
     go_wp2_with fail
     refine (iplain_calls _ l _ HV.out).mono ?_
     rintro e w2 ⟨rfl,rfl⟩
     rw [HA.out]
     go_wp2_with fail
     refine HTx.out.mono ?_
     rintro e w3 ⟨rfl,hb3⟩
     have HB3:=hid hb3
     clear hb3
     go_wp2_with fail
     refine (HCu.out _).mono ?_
     rintro e w4 ⟨rfl,rfl⟩
     go_wp2_with fail
     go_ret2
     exact ⟨by rw [HX.out];rfl,HB3.out⟩
   | true =>
     have HRR:Hid (R=if backOk (strOf ((textL l).drop 4))=true then (textB l,0) else (strOf [],4)):=by show _=_;rw [HR.out,labR_back hasc hmk]
     have hcut:cutR (strOf (textL l))=(strOf ((textL l).drop 4),true):=by
      show (if markB (textL l)=true then (strOf ((textL l).drop 4),true) else _)=_
      rw [if_pos hmk]
     rw [hcut] at HCu
     have hts:(strOf ((textL l).drop 4)).size≤400000:=by rw [strOf_size,List.length_drop];omega
     have HWr:=hid (fun w'=>written_calls (strOf ((textL l).drop 4)) w' (by unfold maxLen;omega) (by omega))
     have hTB:strOf (textL l)=textB l:=rfl
     rw [hTB] at HCu HTx
     clear hasc hv hl htl hmk hcut HBy hTB hts
     generalize strOf ((textL l).drop 4)=t at *
     generalize textB l=s at *
     cases hok:backOk t with
     | true =>
       have HX:Hid (R=(s,0)):=by show _=_;rw [HRR.out,if_pos hok]
       rw [hok] at HWr
       clear hok HRR
       go_enter Tryz.func108,Tryz.ntmps108
       go_wp2_with fail
       refine (iplain_calls _ l _ HV.out).mono ?_
       rintro e w2 ⟨rfl,rfl⟩
       rw [HA.out]
       go_wp2_with fail
       refine HTx.out.mono ?_
       rintro e w3 ⟨rfl,hb3⟩
       have HB3:=hid hb3
       clear hb3
       go_wp2_with fail
       refine (HCu.out _).mono ?_
       rintro e w4 ⟨rfl,rfl⟩
       go_wp2_with fail
       refine (HWr.out _).mono ?_
       rintro e w5 ⟨rfl,hb5⟩
       have HB5:=hid (below_trans HB3.out hb5)
       clear hb5
       go_wp2_with fail
       go_ret2
       exact ⟨by rw [HX.out];rfl,HB5.out⟩
     | false =>
       have HX:Hid (R=(strOf [],4)):=by show _=_;rw [HRR.out,if_neg (by rw [hok];decide)]
       rw [hok] at HWr
       clear hok HRR
       go_enter Tryz.func108,Tryz.ntmps108
       go_wp2_with fail
       refine (iplain_calls _ l _ HV.out).mono ?_
       rintro e w2 ⟨rfl,rfl⟩
       rw [HA.out]
       go_wp2_with fail
       refine HTx.out.mono ?_
       rintro e w3 ⟨rfl,hb3⟩
       have HB3:=hid hb3
       clear hb3
       go_wp2_with fail
       refine (HCu.out _).mono ?_
       rintro e w4 ⟨rfl,rfl⟩
       go_wp2_with fail
       refine (HWr.out _).mono ?_
       rintro e w5 ⟨rfl,hb5⟩
       have HB5:=hid (below_trans HB3.out hb5)
       clear hb5
       go_wp2_with fail
       go_ret2
       exact ⟨by rw [HX.out];rfl,HB5.out⟩
theorem info_ints:(Tryz.prog.info? 63).map (fun i=>(i.zero,i.size,i.bytes))=some (some (.slice none 0 0),1,24):=by kernel_rfl
theorem append_wide {α:Type} {f:α→Value} {t ts:TypeId} {z:Value} {bytes:Nat} (hf:∀x,(f x).oneCell'=true) (hu:Tryz.prog.underlying ts=some (.slice t)) (hin:(Tryz.prog.info? t).map (fun i=>(i.zero,i.size,i.bytes))=some (some z,1,bytes)) (hz:z.cells.size=1) (hby:bytes≤32)
 {w:World} {base:Nat} {v:Value} {xs:List α} (hown:Own f t w base v xs) {x:Value} {l:List α} (hx:Row f w x l) (hlen:xs.length+l.length≤1000000) (hbase:base≤w.heap.size) :
 ∃v' w',(Builtin.append_ #[ts,ts] ts #[v,x]).run Tryz.prog w=.ok v' w'∧Own f t w' base v' (xs++l)∧w.grownBy w' v.ownBlock:=by
 obtain ⟨i0,hi,hz0,hz1,hz2⟩:=info_parts hin
 have hx0:=hx
 obtain ⟨a,cap,rfl,h1,h2,h3⟩:=hx
 cases a with
 | none =>
   have hl:l=[]:=by
    rcases List.eq_nil_or_concat l with h | ⟨l',c,h⟩
    ·exact h
    ·obtain ⟨b,off,he,_⟩:=h3 (by rw [h];simp)
     cases he
   subst hl
   refine ⟨v,w,?_,by rw [List.append_nil];exact hown,⟨rfl,rfl,rfl,Nat.le_refl _,fun _ _ _=>rfl⟩⟩
   rcases hown.2 with ⟨rfl,hl⟩ | ⟨g,cap',cur,rfl,_,_,hnc,_⟩
   ·simp [Builtin.append_,run_underlying hu,sizeOf,typeInfo,hi,Builtin.lenOf,Builtin.firstCells]
   ·simp [Builtin.append_,run_underlying hu,sizeOf,typeInfo,hi,Builtin.lenOf,Builtin.firstCells,hnc,storeCells]
 | some a =>
   obtain ⟨_,hc⟩:=Row.cells hx0
   obtain ⟨v',w',hr,ho,hg,_⟩:=run_append_own (P:=Tryz.prog) w base ts ts t i0 z 1 bytes hu hi hz0 hz1 hz2 hz (by decide) v xs.length (xs.map f) hown a l.length cap (l.map f) (by simp) hc
    (by intro u hu;obtain ⟨y,_,rfl⟩:=List.mem_map.1 hu;exact hf y) (by unfold maxLen;omega) (Nat.le_trans (Nat.mul_le_mul hlen hby) (by decide)) hbase
   refine ⟨v',w',hr,?_,hg⟩
   unfold Own
   rw [List.length_append,List.map_append]
   exact ho
def fx (x:Option Addr×Nat×Nat):Value:=.slice x.1 x.2.1 x.2.2
abbrev XOwn (w:World) (base:Nat) (v:Value) (l:List (Option Addr×Nat×Nat)):Prop:=Own fx 63 w base v l
theorem appendP_run {w:World} {base:Nat} {v:Value} {xs:List (Option Addr×Nat×Nat)} (hown:XOwn w base v xs) {x:Value} {l:List (Option Addr×Nat×Nat)} (hx:Row fx w x l) (hlen:xs.length+l.length≤1000000) (hbase:base≤w.heap.size) :
 ∃v' w',(Builtin.append_ #[121,121] 121 #[v,x]).run Tryz.prog w=.ok v' w'∧XOwn w' base v' (xs++l)∧w.grownBy w' v.ownBlock :=
 append_wide (fun _=>rfl) Tryz.underlying121 info_ints rfl (by decide) hown hx hlen hbase
def Each (w:World):List (Option Addr×Nat×Nat)→List (List Int)→Prop
 | [],[]=>True
 | x::xs,p::ps=>IRow w (fx x) p∧Each w xs ps
 | _,_=>False
theorem Each.len {w:World}:∀{xs:List (Option Addr×Nat×Nat)} {ps:List (List Int)},Each w xs ps→xs.length=ps.length
 | [],[],_=>rfl
 | x::xs,p::ps,h=>by rw [List.length_cons,List.length_cons,Each.len h.2]
 | [],p::ps,h=>h.elim
 | x::xs,[],h=>h.elim
theorem Each.snoc {w:World} {x:Option Addr×Nat×Nat} {p:List Int} (hx:IRow w (fx x) p):∀{xs:List (Option Addr×Nat×Nat)} {ps:List (List Int)},Each w xs ps→Each w (xs++[x]) (ps++[p])
 | [],[],_=>⟨hx,trivial⟩
 | y::xs,q::ps,h=>⟨h.1,Each.snoc hx h.2⟩
 | [],p::ps,h=>h.elim
 | x::xs,[],h=>h.elim
theorem Each.get {w:World}:∀{xs:List (Option Addr×Nat×Nat)} {ps:List (List Int)},Each w xs ps→∀(i:Nat) (h:i < xs.length) (h':i < ps.length),IRow w (fx xs[i]) ps[i]
 | x::xs,p::ps,h,0,_,_=>h.1
 | x::xs,p::ps,h,i+1,h1,h2=>Each.get h.2 i (by simpa using h1) (by simpa using h2)
 | [],[],_,i,h1,_=>absurd h1 (by simp)
 | [],p::ps,h,_,_,_=>h.elim
 | x::xs,[],h,_,_,_=>h.elim
theorem Each.below {w w':World} (hb:Below w.heap.size w w'):∀{xs:List (Option Addr×Nat×Nat)} {ps:List (List Int)},Each w xs ps→Each w' xs ps
 | [],[],_=>trivial
 | x::xs,p::ps,h=>⟨h.1.below hb,Each.below hb h.2⟩
 | [],p::ps,h=>h.elim
 | x::xs,[],h=>h.elim
def PRow (w:World) (v:Value) (ps:List (List Int)):Prop:=∃xs,Row fx w v xs∧Each w xs ps
theorem goI_none:∀(l cur:List Int),(∀x∈l,x≠46)→goI cur l=[cur++l]
 | [],cur,_=>by simp [goI]
 | x::l,cur,h=>by
   unfold goI
   rw [if_neg (h x List.mem_cons_self),goI_none l (cur++[x]) (fun y hy=>h y (List.mem_cons_of_mem _ hy))]
   simp
theorem goI_at:∀(l cur:List Int) (k:Nat) (hk:k < l.length),l[k]=46→(∀x∈l.take k,x≠46)→goI cur l=(cur++l.take k)::goI [] (l.drop (k+1))
 | x::l,cur,0,hk,hc,_=>by
   have hx:x=46:=by simpa using hc
   show (if x=46 then cur::goI [] l else _)=_
   rw [if_pos hx]
   simp
 | x::l,cur,k+1,hk,hc,hn=>by
   show (if x=46 then _ else goI (cur++[x]) l)=_
   rw [if_neg (hn x (by simp)),goI_at l (cur++[x]) k (by simpa using hk) (by simpa using hc) (fun y hy=>hn y (by simp;exact .inr hy))]
   simp
def IdxPost (l:List Int) (c:Int) (e:Ending):Prop:=(e=.returned (.int .i64 (-1))∧∀x∈l,x≠c)∨∃k:Nat,∃h:k < l.length,e=.returned (.int .i64 (k:Int))∧l[k]=c∧∀x∈l.take k,x≠c
theorem index_calls (v:Value) (l:List Int) (c:Int) (w:World) (hv:IRow w v l) :
 Calls Tryz.prog 151 #[v,.int .i64 c] w fun e w'=>IdxPost l c e∧w'=w:=by
 have HV:=hid hv
 obtain ⟨a,cap,rfl,h1,h2,h3⟩:=hv
 unfold maxLen at h2
 have l2:(l.length:Int)≤(cap:Int):=by omega
 have l3:(cap:Int)≤9223372036854775807:=by omega
 clear h1 h2 h3
 go_enter Tryz.func151,Tryz.ntmps151
 go_wp2_with fail
 go_loop [8] (fun vi=>∃k:Nat,k≤l.length∧vi=.int .i64 (k:Int)∧∀x∈l.take k,x≠c) (fun vi=>l.length-(intOf vi).toNat)
 case atStart=>exact ⟨0,Nat.zero_le _,rfl,by simp⟩
 case round =>
  obtain ⟨k,hk,rfl,hall⟩:=hrel
  have HA:=hid hall
  have k0:(0:Int)≤(k:Int):=by omega
  clear hall
  by_cases hlt:k < l.length
  ·obtain ⟨b,off,rfl,hck⟩:=HV.out.open (Below.refl _ _) k hlt
   have k1:(k:Int) < (l.length:Int):=by omega
   have HK:=hid hlt
   have HN:Hid (l[k]≠c→∀x∈l.take (k+1),x≠c):=by
    intro h x hx
    rw [List.take_succ_eq_append_getElem hlt] at hx
    rcases List.mem_append.1 hx with g | g
    ·exact HA.out x g
    ·rw [List.mem_singleton.1 g];exact h
   have HY:Hid (l[k]=c→IdxPost l c (.returned (.int .i64 (k:Int)))):=fun h=>.inr ⟨k,hlt,rfl,h,HA.out⟩
   generalize l[k]=d at *
   clear hlt hk
   by_cases hcd:d=c
   ·subst hcd
    go_wp2_with fail
    go_ret
    exact ⟨HY.out (by first | rfl | trivial),rfl⟩
   ·have HX:=hid (HN.out hcd)
    have q1:(c==d)=false:=by rw [beq_eq_false_iff_ne];exact fun h=>hcd h.symm
    clear hcd
    go_wp2_with fail
    go_round
    case rel=>exact ⟨k+1,HK.out,by go_num,HX.out⟩
    case measure=>have:=HK.out;simp [intOf];omega
  ·have hkl:k=l.length:=by omega
   have HF:Hid (IdxPost l c (.returned (.int .i64 (-1)))):=.inl ⟨rfl,by
    have h:=HA.out
    rw [hkl,List.take_length] at h
    exact h⟩
   have g:¬(k:Int) < (l.length:Int):=by omega
   clear hlt hk hkl
   go_wp2_with fail
   go_ret
   exact ⟨HF.out,rfl⟩
def lenS:Value→Nat
 | .slice _ n _=>n
 | _=>0
theorem rowI_take {w:World} {a:Option Addr} {n C:Nat} {l:List Int} (h:IRow w (.slice a n C) l) (k:Nat) (hk:k≤l.length):IRow w (.slice a k C) (l.take k):=by
 obtain ⟨a',cap',he,h1,h2,h3⟩:=h
 injection he with e1 e2 e3
 subst e1 e2 e3
 have hln:(l.take k).length=k:=by rw [List.length_take];omega
 refine ⟨_,_,by rw [hln],by omega,by omega,fun hne=>?_⟩
 obtain ⟨b,off,he,hb,hc⟩:=h3 (by intro e;subst e;simp at hne)
 exact ⟨b,off,he,hb,fun j hj=>by rw [hc j (by omega)];simp⟩
theorem rowI_drop {w:World} {b off n C:Nat} {l:List Int} (h:IRow w (.slice (some ⟨b,off,none⟩) n C) l) (k:Nat) (hk:k < l.length):IRow w (.slice (some ⟨b,off+k,none⟩) (l.length-k) (C-k)) (l.drop k):=by
 obtain ⟨b',off',he,_,_,_,hr⟩:=Row.from h k hk
 injection he with he
 injection he with e1 e2
 subst e1 e2
 exact hr
def CutAt (w:World) (m:List Int) (vl:Value) (r:List Int) (xs:List (Option Addr×Nat×Nat)):Prop :=
 ∃ps,IRow w vl r∧Each w xs ps∧goI [] m=ps++goI [] r∧xs.length+r.length≤m.length
theorem CutAt.start {w:World} {m:List Int} {v:Value} (h:IRow w v m):CutAt w m v m []:=⟨[],h,trivial,rfl,by simp⟩
theorem CutAt.row {w:World} {m r:List Int} {v:Value} {xs:List (Option Addr×Nat×Nat)} (h:CutAt w m v r xs):IRow w v r:=by obtain ⟨ps,h1,_⟩:=h;exact h1
theorem CutAt.len {w:World} {m r:List Int} {v:Value} {xs:List (Option Addr×Nat×Nat)} (h:CutAt w m v r xs):xs.length+r.length≤m.length:=by obtain ⟨ps,_,_,_,h4⟩:=h;exact h4
theorem CutAt.last {w:World} {m r:List Int} {a:Option Addr} {n C:Nat} {xs:List (Option Addr×Nat×Nat)} (h:CutAt w m (.slice a n C) r xs) (hn:∀x∈r,x≠46):Each w (xs++[(a,n,C)]) (goI [] m):=by
 obtain ⟨ps,h1,h2,h3,_⟩:=h
 rw [h3,goI_none r [] hn]
 exact Each.snoc h1 h2
theorem CutAt.next {w:World} {m r:List Int} {a:Option Addr} {n C:Nat} {xs:List (Option Addr×Nat×Nat)} (h:CutAt w m (.slice a n C) r xs) (k:Nat) (hk:k < r.length) (hc:r[k]=46) (hn:∀x∈r.take k,x≠46) {v':Value} (hv:IRow w v' (r.drop (k+1))):CutAt w m v' (r.drop (k+1)) (xs++[(a,k,C)]):=by
 obtain ⟨ps,h1,h2,h3,h4⟩:=h
 refine ⟨ps++[r.take k],hv,Each.snoc (rowI_take h1 k (by omega)) h2,?_,?_⟩
 ·rw [h3,goI_at r [] k hk hc hn];simp
 ·rw [List.length_append,List.length_drop];simp;omega
theorem pieces_calls (v:Value) (m:List Int) (w:World) (hv:IRow w v m) (hm:m.length≤100000) :
 Calls Tryz.prog 107 #[v,.int .i64 46] w fun e w'=>(∃v',e=.returned v'∧PRow w' v' (goI [] m))∧Below w.heap.size w w':=by
 have HS:=hid (CutAt.start hv)
 have HM:=hid hm
 clear hv hm
 go_enter Tryz.func107,Tryz.ntmps107
 go_wp2_with fail
 go_loopw [0,5] (fun vl vo wr=>∃r xs,CutAt w m vl r xs∧XOwn wr w.heap.size vo xs∧Below w.heap.size w wr) (fun vl _ _=>lenS vl)
 case atStart=>exact ⟨m,[],HS.out,Own.nil _ _ _ _,Below.refl _ _⟩
 case round =>
  obtain ⟨r,xs,hc,ho,hb⟩:=hrel
  have HC:=hid hc
  have HO:=hid ho
  have HB:=hid hb
  have HSz:Hid (w.heap.size≤wr.heap.size):=hb.size
  have hlen:=hc.len
  have HV:=hid (hc.row.below hb)
  obtain ⟨a,C,he,h1,h2,h3⟩:=hc.row
  subst he
  unfold maxLen at h2
  have l2:(r.length:Int)≤(C:Int):=by omega
  have l3:(C:Int)≤9223372036854775807:=by omega
  have HL:Hid (xs.length+r.length≤100000):=by show _≤_;have:=HM.out;omega
  have H2:=hid h2
  have H1:=hid h1
  clear hc ho hb hlen h1 h2
  go_wp2_with fail
  refine (index_calls _ r 46 _ HV.out).mono ?_
  rintro e w1 ⟨⟨rfl,hno⟩ | ⟨k,hk,rfl,hat,hno⟩,rfl⟩
  ·have HE:=hid (HC.out.last hno)
   obtain ⟨v4,w4,hr4,ho4,hg4⟩:=appendP_run (HO.out.alloc (.cells #[.slice a r.length C] 63)) (Row.lit fx w1 [(a,r.length,C)] 63 (0,0) (by simp)) (by have:=HL.out;simp;omega) (by have:=HSz.out;simp;omega)
   have HB4:=hid ((HB.out.alloc HSz.out (.cells #[.slice a r.length C] 63)).grown hg4 (by have:=HSz.out;simp;omega) (Own.lt HO.out))
   have HO4:=hid ho4
   clear hno ho4 hg4 h3
   go_wp2_with (at_builtin;go_must (refine wpList_append_run hr4 rfl _ _ rfl rfl rfl rfl ?_))
   go_ret
   exact ⟨⟨_,rfl,_,HO4.out.row,HE.out.below HB4.out⟩,HB4.out⟩
  ·obtain ⟨b,off,rfl,hlt,_⟩:=h3 (by intro e;subst e;simp at hk)
   have HNx:=hid (fun v'=>HC.out.next k hk hat hno (v':=v'))
   have k0:(0:Int)≤(k:Int):=by omega
   have k1:(k:Int) < (r.length:Int):=by omega
   have HK:=hid hk
   obtain ⟨v4,w4,hr4,ho4,hg4⟩:=appendP_run (HO.out.alloc (.cells #[.slice (some ⟨b,off,none⟩) k C] 63)) (Row.lit fx w1 [(some ⟨b,off,none⟩,k,C)] 63 (0,0) (by simp)) (by have:=HL.out;simp;omega) (by have:=HSz.out;simp;omega)
   have HB4:=hid ((HB.out.alloc HSz.out (.cells #[.slice (some ⟨b,off,none⟩) k C] 63)).grown hg4 (by have:=HSz.out;simp;omega) (Own.lt HO.out))
   have HO4:=hid ho4
   have HR:=hid HC.out.row
   clear hno ho4 hg4 hat hlt HV
   by_cases hlast:k+1 < r.length
   ·have HD:=hid (HNx.out _ (rowI_drop HR.out (k+1) hlast))
    have hq1:(C=k+1)=False:=eq_false (by have:=H1.out;omega)
    have hq2:(k+1=C)=False:=eq_false (by have:=H1.out;omega)
    clear hk
    go_wp2_with (at_builtin;go_must (refine wpList_append_run hr4 rfl _ _ rfl rfl rfl rfl ?_))
    go_roundw
    case rel=>exact ⟨_,_,HD.out,HO4.out,HB4.out⟩
    case measure=>simp [lenS];omega
   ·have hke:k+1=r.length:=by omega
    have HD:=hid (fun A (C':Nat) (hC:C'≤maxLen)=>HNx.out (.slice A 0 C') (by rw [List.drop_eq_nil_of_le (by omega)];exact rowI_nil w A C' hC))
    clear hk
    by_cases hcap:C=k+1
    ·have hq1:(C=k+1)=True:=eq_true hcap
     have hq2:(k+1=C)=True:=eq_true hcap.symm
     have HCp:=hid hcap
     clear hcap
     go_wp2_with (at_builtin;go_must (refine wpList_append_run hr4 rfl _ _ rfl rfl rfl rfl ?_))
     go_roundw
     case rel=>exact ⟨_,_,HD.out _ _ (by have:=H2.out;unfold maxLen;omega),HO4.out,HB4.out⟩
     case measure=>simp [lenS];omega
    ·have hq1:(C=k+1)=False:=eq_false hcap
     have hq2:(k+1=C)=False:=eq_false (fun e=>hcap e.symm)
     go_wp2_with (at_builtin;go_must (refine wpList_append_run hr4 rfl _ _ rfl rfl rfl rfl ?_))
     go_roundw
     case rel=>exact ⟨_,_,HD.out _ _ (by have:=H2.out;unfold maxLen;omega),HO4.out,HB4.out⟩
     case measure=>simp [lenS];omega
theorem usmall_calls (c:Int) (w:World):Calls Tryz.prog 125 #[.int .i64 c] w fun e w'=>e=.returned (.int .i64 (lowC c))∧w'=w:=by
 unfold lowC
 by_cases h1:65≤c
 ·by_cases h2:c≤90
  ·rw [if_pos ⟨h1,h2⟩]
   go_enter Tryz.func125,Tryz.ntmps125
   go_wp2
   go_ret
   exact ⟨ret_int (by omega),rfl⟩
  ·rw [if_neg (fun h=>h2 h.2)]
   go_enter Tryz.func125,Tryz.ntmps125
   go_wp2
   go_ret
   exact ⟨rfl,rfl⟩
 ·rw [if_neg (fun h=>h1 h.1)]
  go_enter Tryz.func125,Tryz.ntmps125
  go_wp2
  go_ret
  exact ⟨rfl,rfl⟩
theorem let_low (c:Int):letC c=(decide (97≤lowC c)&&decide (lowC c≤122)):=by
 unfold letC lowC
 by_cases h1:65≤c∧c≤90
 ·rw [if_pos h1,decide_eq_true h1.1,decide_eq_true h1.2,decide_eq_true (show 97≤c+32 by omega),decide_eq_true (show c+32≤122 by omega)];simp
 ·rw [if_neg h1]
  have:(decide (65≤c)&&decide (c≤90))=false:=by rw [← Bool.not_eq_true];simpa using h1
  rw [this,Bool.or_false]
theorem uletter_calls (c:Int) (w:World):Calls Tryz.prog 123 #[.int .i64 c] w fun e w'=>e=.returned (.bool (letC c))∧w'=w:=by
 have HC:=hid (fun w=>usmall_calls c w)
 rw [let_low]
 generalize lowC c=d at *
 by_cases h1:97≤d
 ·by_cases h2:d≤122
  ·rw [decide_eq_true h1,decide_eq_true h2]
   go_enter Tryz.func123,Tryz.ntmps123
   go_wp2_with (go_at_call 125;refine (HC.out _).mono ?_;rintro e w1 ⟨rfl,rfl⟩)
   go_ret
   exact ⟨by simp [h2],rfl⟩
  ·rw [decide_eq_true h1,decide_eq_false h2]
   go_enter Tryz.func123,Tryz.ntmps123
   go_wp2_with (go_at_call 125;refine (HC.out _).mono ?_;rintro e w1 ⟨rfl,rfl⟩)
   go_ret
   exact ⟨by simp [h2],rfl⟩
 ·rw [decide_eq_false h1]
  go_enter Tryz.func123,Tryz.ntmps123
  go_wp2_with (go_at_call 125;refine (HC.out _).mono ?_;rintro e w1 ⟨rfl,rfl⟩)
  go_ret
  exact ⟨rfl,rfl⟩
theorem udigit_calls (c:Int) (w:World):Calls Tryz.prog 127 #[.int .i64 c] w fun e w'=>e=.returned (.bool (digC c))∧w'=w:=by
 unfold digC
 by_cases h1:48≤c
 ·by_cases h2:c≤57
  ·rw [decide_eq_true h1,decide_eq_true h2]
   go_enter Tryz.func127,Tryz.ntmps127
   go_wp2
   go_ret
   exact ⟨rfl,rfl⟩
  ·rw [decide_eq_true h1,decide_eq_false h2]
   go_enter Tryz.func127,Tryz.ntmps127
   go_wp2
   go_ret
   exact ⟨rfl,rfl⟩
 ·rw [decide_eq_false h1]
  go_enter Tryz.func127,Tryz.ntmps127
  go_wp2
  go_ret
  exact ⟨rfl,rfl⟩
theorem uends_calls (c:Int) (w:World):Calls Tryz.prog 137 #[.int .i64 c] w fun e w'=>e=.returned (.bool (endsB c))∧w'=w:=by
 unfold endsB
 cases h1:c==-1<;>cases h2:c==63<;>cases h3:c==35
 all_goals
  go_enter Tryz.func137,Tryz.ntmps137
  go_wp2
  go_ret
  exact ⟨rfl,rfl⟩
abbrev mvV (to by_ e:Nat):Value:=.agg #[.int .i64 (to:Int),.int .i64 (by_:Int),.int .i64 (e:Int)]
theorem uon_calls (t:Nat) (w:World):Calls Tryz.prog 126 #[.int .i64 (t:Int)] w fun e w'=>e=.returned (mvV t 1 0)∧Below w.heap.size w w':=by
 go_enter Tryz.func126,Tryz.ntmps126
 go_wp2
 go_returns
 exact ⟨rfl,(Below.refl _ _).alloc (Nat.le_refl _) _⟩
theorem uover_calls (t:Nat) (w:World):Calls Tryz.prog 134 #[.int .i64 (t:Int)] w fun e w'=>e=.returned (mvV t 2 0)∧Below w.heap.size w w':=by
 go_enter Tryz.func134,Tryz.ntmps134
 go_wp2
 go_returns
 exact ⟨rfl,(Below.refl _ _).alloc (Nat.le_refl _) _⟩
theorem uagain_calls (t:Nat) (w:World):Calls Tryz.prog 124 #[.int .i64 (t:Int)] w fun e w'=>e=.returned (mvV t 0 0)∧Below w.heap.size w w':=by
 go_enter Tryz.func124,Tryz.ntmps124
 go_wp2
 go_returns
 exact ⟨rfl,(Below.refl _ _).alloc (Nat.le_refl _) _⟩
theorem ufail_calls (t:Nat) (w:World):Calls Tryz.prog 131 #[.int .i64 (t:Int)] w fun e w'=>e=.returned (mvV 0 0 t)∧Below w.heap.size w w':=by
 go_enter Tryz.func131,Tryz.ntmps131
 go_wp2
 go_returns
 exact ⟨rfl,(Below.refl _ _).alloc (Nat.le_refl _) _⟩
end Go.Proofs.YtigfgloenjoeoaaGreatDoor
