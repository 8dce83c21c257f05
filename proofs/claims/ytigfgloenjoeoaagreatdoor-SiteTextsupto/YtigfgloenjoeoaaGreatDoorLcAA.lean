import Derived.Laws.BitsAllLaws
set_option linter.unusedVariables false
set_option linter.unusedSimpArgs false
set_option maxRecDepth 20000
set_option maxHeartbeats 16000000
namespace Go.Proofs.YtigfgloenjoeoaaGreatDoor
def isLow (c:Nat):Bool:=decide (c < 32)||decide (126 < c)
def one1 (l:List Nat) (c:Nat):Bool:=l.any (·==c)
def isQuery (c:Nat):Bool:=isLow c||one1 [32,34,35,60,62] c
def isPath (c:Nat):Bool:=isQuery c||one1 [63,94,96,123,125] c
def isUser (c:Nat):Bool:=isPath c||one1 [47,58,59,61,64,91,92,93,124] c
def isAlnum (c:Nat):Bool:=(decide (48≤c)&&decide (c≤57))||(decide (97≤c)&&decide (c≤122))||(decide (65≤c)&&decide (c≤90))
def inR (set:Int) (c:Nat):Bool :=
 if set=1 then isLow c
 else if set=2 then isLow c||one1 [32,34,60,62,96] c
 else if set=3 then isQuery c
 else if set=4 then isQuery c||c==39
 else if set=5 then isPath c
 else if set=6 then isUser c
 else if set=7 then isUser c||one1 [36,37,38,43,44] c
 else if set=8 then !isAlnum c&&!one1 [42,45,46,95] c
 else false
def hexU (n:Nat):Nat:=if n < 10 then 48+n else 55+n
def hexV (c:Nat):Option Nat:=if 48≤c∧c≤57 then some (c-48) else if 97≤c∧c≤102 then some (c-87) else if 65≤c∧c≤70 then some (c-55) else none
def encP (set:Int) (c:UInt8):List UInt8 :=
 if set=8∧c=32 then [43] else if inR set c.toNat=true then [37,UInt8.ofNat (hexU (c.toNat/16)),UInt8.ofNat (hexU (c.toNat%16))] else [c]
def pctR (set:Int) (b:List UInt8):List UInt8:=b.flatMap (encP set)
theorem pctR_nil (set:Int):pctR set []=[]:=rfl
theorem pctR_cons (set:Int) (c:UInt8) (b:List UInt8):pctR set (c::b)=encP set c++pctR set b:=rfl
theorem pctR_append (set:Int) (a b:List UInt8):pctR set (a++b)=pctR set a++pctR set b:=by simp [pctR]
def two (a b:UInt8):Option UInt8:=match hexV a.toNat,hexV b.toNat with
 | some x,some y=>some (UInt8.ofNat (x * 16+y))
 | _,_=>none
def unF:Nat→List UInt8→List UInt8
 | 0,l=>l
 | f+1,[]=>[]
 | f+1,c::r=>if c=37 then (match r with
    | a::b::r'=>(match two a b with
      | some x=>x::unF f r'
      | none=>c::unF f r)
    | _=>c::unF f r) else c::unF f r
def unR (l:List UInt8):List UInt8:=unF l.length l
theorem unF_more:∀(f:Nat) (l:List UInt8),l.length≤f→unF (f+1) l=unF f l
 | 0,[],_=>rfl
 | f+1,[],_=>rfl
 | f+1,c::r,h=>by
   rw [List.length_cons] at h
   have ih:=unF_more f r (by omega)
   conv=>lhs;unfold unF
   conv=>rhs;unfold unF
   split
   ·split
    ·rename_i a b r'
     rw [List.length_cons,List.length_cons] at h
     have ih2:=unF_more f r' (by omega)
     split
     ·rw [ih2]
     ·rw [ih]
    ·rw [ih]
   ·rw [ih]
theorem unF_le:∀(d f:Nat) (l:List UInt8),l.length≤f→unF (f+d) l=unF f l
 | 0,f,l,_=>rfl
 | d+1,f,l,h=>by
   rw [← Nat.add_assoc,unF_more _ l (by omega),unF_le d f l h]
theorem unR_at {f:Nat} {l:List UInt8} (h:l.length≤f):unF f l=unR l:=by
 obtain ⟨d,rfl⟩:=Nat.exists_eq_add_of_le h
 exact unF_le d l.length l (Nat.le_refl _)
theorem unR_nil:unR []=[]:=rfl
theorem unR_plain {c:UInt8} {r:List UInt8} (h:c≠37):unR (c::r)=c::unR r:=by
 show unF (r.length+1) (c::r)=_
 unfold unF
 rw [if_neg h]
 rfl
theorem unR_two {a b:UInt8} {r:List UInt8} {x:UInt8} (h:two a b=some x):unR (37::a::b::r)=x::unR r:=by
 show unF (r.length+2+1) (37::a::b::r)=_
 unfold unF
 rw [if_pos rfl]
 simp only [h]
 rw [unR_at (by omega)]
theorem unR_not {a b:UInt8} {r:List UInt8} (h:two a b=none):unR (37::a::b::r)=37::unR (a::b::r):=by
 show unF (r.length+2+1) (37::a::b::r)=_
 unfold unF
 rw [if_pos rfl]
 simp only [h]
 rw [unR_at (by simp)]
theorem unR_one (a:UInt8):unR [37,a]=37::unR [a]:=rfl
theorem unR_last:unR [37]=[37]:=rfl
theorem unR_len:∀(f:Nat) (l:List UInt8),l.length≤f→(unR l).length≤l.length
 | f,[],_=>by simp [unR_nil]
 | f+1,c::r,h=>by
   rw [List.length_cons] at h
   by_cases hc:c=37
   ·subst hc
    match r,h with
    | [],_=>simp [unR_last]
    | [a],h=>rw [unR_one];have:=unR_len f [a] (by simpa using h);simp at this ⊢;omega
    | a::b::r',h =>
      cases ht:two a b with
      | some x =>
        rw [unR_two ht]
        simp only [List.length_cons] at h ⊢
        have:=unR_len f r' (by omega);omega
      | none =>
        rw [unR_not ht]
        have:=unR_len f (a::b::r') (by simpa using h)
        simp only [List.length_cons] at this ⊢;omega
   ·rw [unR_plain hc,List.length_cons,List.length_cons]
    have:=unR_len f r (by omega);omega
 | 0,c::r,h=>by simp at h
theorem pctR_len (set:Int) (b:List UInt8):b.length≤(pctR set b).length∧(pctR set b).length≤3 * b.length:=by
 induction b with
 | nil=>simp [pctR]
 | cons c b ih =>
   rw [pctR_cons,List.length_append,List.length_cons]
   have:1≤(encP set c).length∧(encP set c).length≤3:=by unfold encP;split;simp;split<;>simp
   omega
theorem inR_other {set:Int} (h:set < 1∨8 < set) (c:Nat):inR set c=false:=by
 unfold inR
 rw [if_neg (by omega),if_neg (by omega),if_neg (by omega),if_neg (by omega),if_neg (by omega),if_neg (by omega),if_neg (by omega),if_neg (by omega)]
def splitG (sep:UInt8):List UInt8→List UInt8→List (List UInt8)
 | acc,[]=>[acc]
 | acc,c::r=>if c=sep then acc::splitG sep [] r else splitG sep (acc++[c]) r
def splitR (sep:UInt8) (l:List UInt8):List (List UInt8):=splitG sep [] l
theorem splitG_nil (sep:UInt8) (acc:List UInt8):splitG sep acc []=[acc]:=rfl
theorem splitG_sep (sep:UInt8) (acc r:List UInt8):splitG sep acc (sep::r)=acc::splitG sep [] r:=by conv=>lhs;unfold splitG;rw [if_pos rfl]
theorem splitG_other {sep c:UInt8} (h:c≠sep) (acc r:List UInt8):splitG sep acc (c::r)=splitG sep (acc++[c]) r:=by conv=>lhs;unfold splitG;rw [if_neg h]
theorem splitG_free {sep:UInt8}:∀(l acc:List UInt8),(∀c∈l,c≠sep)→splitG sep acc l=[acc++l]
 | [],acc,_=>by rw [splitG_nil,List.append_nil]
 | c::r,acc,h=>by
   rw [splitG_other (h c List.mem_cons_self),splitG_free r _ (fun x hx=>h x (List.mem_cons_of_mem _ hx)),List.append_assoc]
   rfl
theorem splitG_at {sep:UInt8}:∀(a acc b:List UInt8),(∀c∈a,c≠sep)→splitG sep acc (a++sep::b)=(acc++a)::splitG sep [] b
 | [],acc,b,_=>by rw [List.nil_append,splitG_sep,List.append_nil]
 | c::r,acc,b,h=>by
   rw [List.cons_append,splitG_other (h c List.mem_cons_self),splitG_at r _ b (fun x hx=>h x (List.mem_cons_of_mem _ hx)),List.append_assoc]
   rfl
theorem splitG_ne (sep:UInt8):∀(l acc:List UInt8),splitG sep acc l≠[]
 | [],acc=>by rw [splitG_nil];simp
 | c::r,acc=>by
   by_cases h:c=sep
   ·subst h;rw [splitG_sep];simp
   ·rw [splitG_other h];exact splitG_ne sep r _
theorem splitR_ne (sep:UInt8) (l:List UInt8):splitR sep l≠[]:=splitG_ne sep l []
theorem splitG_len (sep:UInt8):∀(l acc:List UInt8),(splitG sep acc l).length≤l.length+1
 | [],acc=>by rw [splitG_nil];simp
 | c::r,acc=>by
   by_cases h:c=sep
   ·subst h;rw [splitG_sep,List.length_cons,List.length_cons];have:=splitG_len c r [];omega
   ·rw [splitG_other h,List.length_cons];have:=splitG_len sep r (acc++[c]);omega
def joinC (sep:UInt8):List (List UInt8)→List UInt8
 | []=>[]
 | [p]=>p
 | p::q::r=>p++sep::joinC sep (q::r)
theorem joinC_one (sep:UInt8) (p:List UInt8):joinC sep [p]=p:=rfl
theorem joinC_cons (sep:UInt8) (p:List UInt8) {r:List (List UInt8)} (h:r≠[]):joinC sep (p::r)=p++sep::joinC sep r:=by
 match r,h with
 | q::r,_=>rfl
theorem split_join {sep:UInt8}:∀(ps:List (List UInt8)),ps≠[]→(∀p∈ps,∀c∈p,c≠sep)→splitR sep (joinC sep ps)=ps
 | [p],_,h=>by
   rw [joinC_one]
   unfold splitR
   rw [splitG_free p [] (h p List.mem_cons_self)]
   rfl
 | p::q::r,_,h=>by
   have ih:=split_join (q::r) (by simp) (fun x hx=>h x (List.mem_cons_of_mem _ hx))
   unfold splitR at ih ⊢
   rw [joinC_cons sep p (by simp),splitG_at p [] _ (h p List.mem_cons_self),ih]
   rfl
theorem joinC_snoc (sep:UInt8):∀(ps:List (List UInt8)) (p:List UInt8),ps≠[]→joinC sep (ps++[p])=joinC sep ps++sep::p
 | [q],p,_=>rfl
 | q::x::r,p,_=>by
   have ih:=joinC_snoc sep (x::r) p (by simp)
   rw [List.cons_append,joinC_cons sep q (by simp),ih,joinC_cons sep q (by simp),List.append_assoc]
   rfl
def dgv (c:UInt8):Nat:=(hexV c.toNat).getD 0
def digB (b:Nat) (c:UInt8):Bool:=match hexV c.toNat with
 | some d=>decide (d < b)
 | none=>false
def digsR (b:Nat) (l:List UInt8):Bool:=l.all (digB b)
def hexR:List UInt8→Bool
 | a::x::_=>a==48&&(x==120||x==88)
 | _=>false
def valRIp (b:Nat) (l:List UInt8):Nat:=l.foldl (fun n c=>min (n * b+dgv c) 1099511627776) 0
def valX (b:Nat) (l:List UInt8):Nat:=l.foldl (fun n c=>n * b+dgv c) 0
theorem valR_snoc (b:Nat) (l:List UInt8) (c:UInt8):valRIp b (l++[c])=min (valRIp b l * b+dgv c) 1099511627776:=by unfold valRIp;rw [List.foldl_append];rfl
theorem valX_snoc (b:Nat) (l:List UInt8) (c:UInt8):valX b (l++[c])=valX b l * b+dgv c:=by unfold valX;rw [List.foldl_append];rfl
theorem valR_step (b x d:Nat) (hb:1≤b):min (min x 1099511627776 * b+d) 1099511627776=min (x * b+d) 1099511627776:=by
 rcases Nat.le_total x 1099511627776 with h | h
 ·rw [Nat.min_eq_left h]
 ·rw [Nat.min_eq_right h]
  have h1:1099511627776≤1099511627776 * b:=Nat.le_mul_of_pos_right _ hb
  have h2:1099511627776 * b≤x * b:=Nat.mul_le_mul_right b h
  rw [Nat.min_eq_right (by omega),Nat.min_eq_right (by omega)]
theorem valR_eq (b:Nat) (hb:1≤b):∀(n:Nat) (l:List UInt8),l.length=n→valRIp b l=min (valX b l) 1099511627776
 | 0,l,h=>by rw [List.eq_nil_of_length_eq_zero h];rfl
 | n+1,l,h=>by
   rcases List.eq_nil_or_concat l with h' | ⟨l',c,h'⟩
   ·rw [h'] at h;simp at h
   ·rw [List.concat_eq_append] at h'
    subst h'
    rw [List.length_append] at h
    rw [valR_snoc,valX_snoc,valR_eq b hb n l' (by simpa using h),valR_step b _ _ hb]
def baseR (l:List UInt8):List UInt8×Nat:=if hexR l=true then (l.drop 2,16) else if 1 < l.length∧l.head? = some 48 then (l.drop 1,8) else (l,10)
def numR (l:List UInt8):Option Nat:=if l=[] then none else if digsR (baseR l).2 (baseR l).1=true then some (valRIp (baseR l).2 (baseR l).1) else none
def hx (n:Nat):UInt8:=UInt8.ofNat (if n < 10 then 48+n else 87+n)
theorem hx_all:(List.range 16).all (fun n=>hexV (hx n).toNat==some n&&((hx n==48)==(n==0))&&hx n != 46&&hx n != 58&&hx n != 120&&hx n != 88)=true:=by decide +kernel
theorem hx_one {n:Nat} (h:n < 16):hexV (hx n).toNat=some n∧(hx n=48↔n=0)∧hx n≠46∧hx n≠58∧hx n≠120∧hx n≠88:=by
 have:=List.all_eq_true.1 hx_all n (List.mem_range.2 h)
 simp only [Bool.and_eq_true,bne_iff_ne,beq_iff_eq] at this
 obtain ⟨⟨⟨⟨⟨h1,h2⟩,h3⟩,h4⟩,h5⟩,h6⟩:=this
 refine ⟨h1,?_,h3,h4,h5,h6⟩
 constructor
 ·intro e;rw [e] at h2;simpa using h2.symm
 ·intro e;rw [e];rfl
theorem hx_dgv {n:Nat} (h:n < 16):dgv (hx n)=n:=by unfold dgv;rw [(hx_one h).1];rfl
theorem hx_digB {b n:Nat} (h:n < 16) (hb:n < b):digB b (hx n)=true:=by unfold digB;rw [(hx_one h).1];simpa using hb
def dgs (b:Nat):Nat→Nat→List UInt8
 | 0,n=>[hx (n%b)]
 | f+1,n=>if n < b then [hx n] else dgs b f (n/b)++[hx (n%b)]
def digsOf (b n:Nat):List UInt8:=dgs b 63 n
theorem dgs_small {b n:Nat} (f:Nat) (h:n < b):dgs b f n=[hx n]:=by
 cases f with
 | zero=>unfold dgs;rw [Nat.mod_eq_of_lt h]
 | succ f=>unfold dgs;rw [if_pos h]
theorem dgs_big {b n:Nat} (f:Nat) (h:¬n < b):dgs b (f+1) n=dgs b f (n/b)++[hx (n%b)]:=by
 conv=>lhs;unfold dgs
 rw [if_neg h]
theorem div_pow {b n f:Nat} (hb:0 < b) (h:n < b^(f+1+1)):n/b < b^(f+1):=by
 rw [Nat.div_lt_iff_lt_mul hb]
 rw [Nat.pow_succ] at h
 exact h
theorem dgs_fuel {b:Nat} (hb:2≤b):∀(f n:Nat),n < b^(f+1)→dgs b (f+1) n=dgs b f n
 | 0,n,h=>by
   rw [Nat.pow_one] at h
   rw [dgs_small _ h,dgs_small _ h]
 | f+1,n,h=>by
   by_cases hn:n < b
   ·rw [dgs_small _ hn,dgs_small _ hn]
   ·rw [dgs_big _ hn,dgs_big _ hn,dgs_fuel hb f (n/b) (div_pow (by omega) h)]
theorem dgs_more {b:Nat} (hb:2≤b) (f n:Nat) (h:n < b^(f+1)):∀k,dgs b (f+k) n=dgs b f n
 | 0=>rfl
 | k+1=>by
   have h':n < b^(f+k+1):=Nat.lt_of_lt_of_le h (Nat.pow_le_pow_right (by omega) (by omega))
   rw [← Nat.add_assoc,dgs_fuel hb (f+k) n h',dgs_more hb f n h k]
theorem pow_64 {b:Nat} (hb:2≤b) {n:Nat} (h:n < 18446744073709551616):n < b^(63+1) :=
 Nat.lt_of_lt_of_le h (Nat.le_trans (show 18446744073709551616≤2^64 by decide) (Nat.pow_le_pow_left hb 64))
theorem digsOf_small {b n:Nat} (h:n < b):digsOf b n=[hx n]:=dgs_small 63 h
theorem digsOf_big {b n:Nat} (hb:2≤b) (h64:n < 18446744073709551616) (h:¬n < b):digsOf b n=digsOf b (n/b)++[hx (n%b)]:=by
 unfold digsOf
 have h1:n/b < 18446744073709551616:=Nat.lt_of_le_of_lt (Nat.div_le_self _ _) h64
 have h2:dgs b 63 n=dgs b 64 n:=(dgs_fuel hb 63 n (pow_64 hb h64)).symm
 rw [h2,dgs_big 63 h]
theorem dgs_facts {b:Nat} (hb:2≤b) (hb16:b≤16):∀(f n:Nat),n < b^(f+1)→dgs b f n≠[]∧digsR b (dgs b f n)=true∧valX b (dgs b f n)=n∧(dgs b f n).length≤f+1∧(n≠0→(dgs b f n).head? ≠ some 48)∧(∀c∈dgs b f n,c≠46∧c≠58∧c≠120∧c≠88)
 | 0,n,h=>by
   rw [Nat.pow_one] at h
   rw [dgs_small _ h]
   have hx':=hx_one (n:=n) (by omega)
   refine ⟨by simp,by unfold digsR;simp [hx_digB (b:=b) (n:=n) (by omega) h],by unfold valX;simp [hx_dgv (n:=n) (by omega)],by simp,fun h0 e=>?_,fun c hc=>?_⟩
   ·simp at e
    exact h0 (hx'.2.1.1 e)
   ·rw [List.mem_singleton.1 hc];exact hx'.2.2
 | f+1,n,h=>by
   by_cases hn:n < b
   ·rw [dgs_small _ hn]
    have hx':=hx_one (n:=n) (by omega)
    refine ⟨by simp,by unfold digsR;simp [hx_digB (b:=b) (n:=n) (by omega) hn],by unfold valX;simp [hx_dgv (n:=n) (by omega)],by simp,fun h0 e=>?_,fun c hc=>?_⟩
    ·simp at e
     exact h0 (hx'.2.1.1 e)
    ·rw [List.mem_singleton.1 hc];exact hx'.2.2
   ·have hm:n%b < b:=Nat.mod_lt _ (by omega)
    obtain ⟨i1,i2,i3,i4,i5,i6⟩:=dgs_facts hb hb16 f (n/b) (div_pow (by omega) h)
    rw [dgs_big _ hn]
    have hx':=hx_one (n:=n%b) (by omega)
    refine ⟨by simp,?_,?_,by rw [List.length_append];simp;omega,fun h0=>?_,fun c hc=>?_⟩
    ·unfold digsR at i2 ⊢
     rw [List.all_append,i2]
     simp [hx_digB (b:=b) (n:=n%b) (by omega) hm]
    ·rw [valX_snoc,i3,hx_dgv (by omega)]
     have:=Nat.div_add_mod n b
     rw [Nat.mul_comm] at this
     exact this
    ·have hd:n/b≠0:=by
      intro e
      have:=Nat.div_add_mod n b
      rw [e] at this
      omega
     cases hl:dgs b f (n/b) with
     | nil=>exact absurd hl i1
     | cons x r =>
       have:=i5 hd
       rw [hl] at this
       simpa using this
    ·rcases List.mem_append.1 hc with h' | h'
     ·exact i6 c h'
     ·rw [List.mem_singleton.1 h'];exact hx'.2.2
theorem digsOf_facts {b:Nat} (hb:2≤b) (hb16:b≤16) {n:Nat} (h:n < 18446744073709551616):digsOf b n≠[]∧digsR b (digsOf b n)=true∧valX b (digsOf b n)=n∧(digsOf b n).length≤64∧(n≠0→(digsOf b n).head? ≠ some 48)∧(∀c∈digsOf b n,c≠46∧c≠58∧c≠120∧c≠88):=dgs_facts hb hb16 63 n (pow_64 hb h)
theorem digsOf_len {b:Nat} (hb:2≤b) (hb16:b≤16) {n f:Nat} (hf:f≤63) (h:n < b^(f+1)):(digsOf b n).length≤f+1:=by
 unfold digsOf
 obtain ⟨k,hk⟩:=Nat.exists_eq_add_of_le hf
 rw [hk,dgs_more hb f n h]
 exact (dgs_facts hb hb16 f n h).2.2.2.1
def partsR (l:List UInt8):List (List UInt8):=if 1 < (splitR 46 l).length∧(splitR 46 l).getLast? = some [] then (splitR 46 l).dropLast else splitR 46 l
def lastR (l:List UInt8):List UInt8:=(partsR l).getLast?.getD []
def endsR (l:List UInt8):Bool:=if (partsR l).length=1∧lastR l=[] then false else (!(lastR l).isEmpty&&digsR 10 (lastR l))||(hexR (lastR l)&&digsR 16 ((lastR l).drop 2))
def numsR:List (List UInt8)→Option (List Nat)
 | []=>some []
 | p::r=>match numR p with
   | none=>none
   | some n=>(numsR r).map (n::·)
def sum4:Nat→List Nat→Nat→Option Nat
 | i,[],acc=>some acc
 | i,[x],acc=>if x/2^(8 * (4-i))=0 then some (acc+x) else none
 | i,x::y::r,acc=>if 255 < x then none else sum4 (i+1) (y::r) (acc+x * 2^(8 * (3-i)))
def parse4R (l:List UInt8):Nat×Nat :=
 if 4000 < l.length then (0,11)
 else if 4 < (partsR l).length then (0,4)
 else match numsR (partsR l) with
  | none=>(0,4)
  | some ns=>match sum4 0 ns 0 with
    | none=>(0,1)
    | some x=>(x,0)
def print4R (n:Nat):List UInt8:=joinC 46 [digsOf 10 (n/16777216),digsOf 10 (n/65536%256),digsOf 10 (n/256%256),digsOf 10 (n%256)]
theorem parts_ne (l:List UInt8):partsR l≠[]:=by
 unfold partsR
 split
 ·rename_i h
  intro e
  have:=congrArg List.length e
  rw [List.length_dropLast] at this
  simp at this
  omega
 ·exact splitR_ne 46 l
theorem parse4_ok {l:List UInt8} {ns:List Nat} {x:Nat} (hl:l.length≤4000) (hp:(partsR l).length≤4) (hn:numsR (partsR l)=some ns) (hs:sum4 0 ns 0=some x):parse4R l=(x,0):=by
 unfold parse4R
 rw [if_neg (by omega),if_neg (by omega),hn]
 simp only [hs]
theorem parse4_range {l:List UInt8} {ns:List Nat} (hl:l.length≤4000) (hp:(partsR l).length≤4) (hn:numsR (partsR l)=some ns) (hs:sum4 0 ns 0=none):parse4R l=(0,1):=by
 unfold parse4R
 rw [if_neg (by omega),if_neg (by omega),hn]
 simp only [hs]
theorem nums_len:∀{ps:List (List UInt8)} {ns:List Nat},numsR ps=some ns→ns.length=ps.length
 | [],ns,h=>by
   have:some []=some ns:=h
   injection this with e
   subst e
   rfl
 | p::r,ns,h=>by
   have h':(match numR p with
    | none=>none
    | some n=>(numsR r).map (n::·))=some ns:=h
   cases hn:numR p with
   | none=>rw [hn] at h';cases h'
   | some n =>
     rw [hn] at h'
     obtain ⟨m,hm,rfl⟩:=Option.map_eq_some_iff.1 h'
     rw [List.length_cons,List.length_cons,nums_len hm]
theorem pow_sub {i:Nat} (h:i≤3):2^(8 * (4-i))=256 * 2^(8 * (3-i)):=by
 rw [show 8 * (4-i)=8+8 * (3-i) by omega,Nat.pow_add]
theorem sum4_lt:∀(ns:List Nat) (i acc x:Nat),ns≠[]→i+ns.length≤4→acc+2^(8 * (4-i))≤4294967296→sum4 i ns acc=some x→x < 4294967296
 | [y],i,acc,x,_,hl,ha,h=>by
   unfold sum4 at h
   split at h
   ·rename_i h0
    injection h with h
    have hp:0 < 2^(8 * (4-i)):=Nat.two_pow_pos _
    have:y < 2^(8 * (4-i)):=by
     rcases Nat.lt_or_ge y (2^(8 * (4-i))) with h' | h'
     ·exact h'
     ·have:=Nat.div_pos h' hp
      omega
    omega
   ·cases h
 | y::z::r,i,acc,x,_,hl,ha,h=>by
   rw [List.length_cons,List.length_cons] at hl
   unfold sum4 at h
   split at h
   ·cases h
   ·rename_i h255
    refine sum4_lt (z::r) (i+1) _ x (by simp) (by rw [List.length_cons];omega) ?_ h
    rw [pow_sub (show i≤3 by omega)] at ha
    rw [show 4-(i+1)=3-i by omega]
    have:y * 2^(8 * (3-i))≤255 * 2^(8 * (3-i)):=Nat.mul_le_mul_right _ (by omega)
    omega
theorem parse4_lt (l:List UInt8):(parse4R l).1 < 4294967296∧((parse4R l).2=0∨(parse4R l).1=0):=by
 unfold parse4R
 split
 ·exact ⟨by show 0 < _;decide,.inr rfl⟩
 ·split
  ·exact ⟨by show 0 < _;decide,.inr rfl⟩
  ·rename_i h4
   cases hn:numsR (partsR l) with
   | none=>exact ⟨by show 0 < _;decide,.inr rfl⟩
   | some ns =>
     cases hs:sum4 0 ns 0 with
     | none=>simp only [hs];exact ⟨by show 0 < _;decide,.inr trivial⟩
     | some x =>
       simp only [hs]
       have hl:=nums_len hn
       refine ⟨sum4_lt ns 0 0 x (fun e=>?_) (by omega) (by decide) hs,.inl trivial⟩
       rw [e] at hl
       exact parts_ne l (List.eq_nil_of_length_eq_zero hl.symm)
theorem dec_len {x:Nat} (h:x < 256):(digsOf 10 x).length≤3:=digsOf_len (b:=10) (f:=2) (by decide) (by decide) (by decide) (by omega)
theorem print4_len {n:Nat} (h:n < 4294967296):(print4R n).length≤15:=by
 have h1:=dec_len (x:=n/16777216) (by omega)
 have h2:=dec_len (x:=n/65536%256) (by omega)
 have h3:=dec_len (x:=n/256%256) (by omega)
 have h4:=dec_len (x:=n%256) (by omega)
 unfold print4R
 simp only [joinC,List.length_append,List.length_cons]
 omega
theorem dec_ne {n:Nat} (h:n < 18446744073709551616):digsOf 10 n≠[]:=(digsOf_facts (by decide) (by decide) h).1
def cutG:List UInt8→List UInt8→Option (List UInt8×List UInt8)
 | acc,[]=>none
 | acc,[c]=>none
 | acc,c::d::r=>if c=58∧d=58 then some (acc,r) else cutG (acc++[c]) (d::r)
def octR (q:List UInt8):Option Nat :=
 if q=[]∨3 < q.length∨digsR 10 q=false∨(1 < q.length∧q.head? = some 48) then none
 else if 255 < (numR q).getD 0 then none else some ((numR q).getD 0)
def octsR:List (List UInt8)→Option (List Nat)
 | []=>some []
 | q::r=>match octR q with
   | none=>none
   | some n=>(octsR r).map (n::·)
def pairR:List Nat→List Nat
 | [a,b,c,d]=>[a * 256+b,c * 256+d]
 | _=>[]
def fourR (p:List UInt8):Option (List Nat):=if (splitR 46 p).length=4 then (octsR (splitR 46 p)).map pairR else none
def goP (last:Bool):List (List UInt8)→Option (List Nat)
 | []=>some []
 | p::r=>if last=true∧r=[]∧1 < (splitR 46 p).length then fourR p
   else if p=[]∨4 < p.length∨digsR 16 p=false then none
   else (goP last r).map (valX 16 p::·)
def piecesR (last:Bool) (l:List UInt8):Option (List Nat):=if l=[] then some [] else goP last (splitR 58 l)
def z8:List Nat:=[0,0,0,0,0,0,0,0]
def twoR (x y:Option (List Nat)):List Nat×Nat:=match x,y with
 | some a,some b=>if a.length+b.length≤7 then (a++List.replicate (8-(a.length+b.length)) 0++b,0) else (z8,4)
 | _,_=>(z8,4)
def oneR (x:Option (List Nat)):List Nat×Nat:=match x with
 | some a=>if a.length=8 then (a,0) else (z8,4)
 | none=>(z8,4)
def parse6R (l:List UInt8):List Nat×Nat :=
 if 4000 < l.length then (z8,11)
 else match cutG [] l with
  | none=>oneR (piecesR true l)
  | some (a,b)=>twoR (piecesR false a) (piecesR true b)
def runAt (p:List Nat) (i:Nat):Nat:=((p.drop i).takeWhile (·==0)).length
def bestG (p:List Nat):Nat→Nat×Nat
 | 0=>(8,1)
 | i+1=>if (bestG p i).2 < runAt p i then (i,runAt p i) else bestG p i
def bestR (p:List Nat):Nat×Nat:=bestG p 8
def pcs (p:List Nat):List (List UInt8):=p.map (digsOf 16)
def print6R (p:List Nat):List UInt8 :=
 if (bestR p).1=8 then joinC 58 (pcs p)
 else joinC 58 (pcs (p.take (bestR p).1))++58::58::joinC 58 (pcs (p.drop ((bestR p).1+(bestR p).2)))
theorem cut_other {c:UInt8} (h:c≠58) (acc t:List UInt8):cutG acc (c::t)=cutG (acc++[c]) t:=by
 match t with
 | []=>rfl
 | d::r =>
   show (if c=58∧d=58 then some (acc,r) else cutG (acc++[c]) (d::r))=_
   rw [if_neg (fun e=>h e.1)]
theorem cut_one {d:UInt8} (h:d≠58) (acc t:List UInt8):cutG acc (58::d::t)=cutG (acc++[58]) (d::t):=by
 show (if (58:UInt8)=58∧d=58 then some (acc,t) else cutG (acc++[58]) (d::t))=_
 rw [if_neg (fun e=>h e.2)]
theorem cut_two (acc r:List UInt8):cutG acc (58::58::r)=some (acc,r):=by
 show (if (58:UInt8)=58∧(58:UInt8)=58 then some (acc,r) else _)=_
 rw [if_pos ⟨rfl,rfl⟩]
theorem cut_past:∀(p acc t:List UInt8),(∀c∈p,c≠58)→cutG acc (p++t)=cutG (acc++p) t
 | [],acc,t,_=>by rw [List.nil_append,List.append_nil]
 | c::p,acc,t,h=>by
   rw [List.cons_append,cut_other (h c List.mem_cons_self),cut_past p _ t (fun x hx=>h x (List.mem_cons_of_mem _ hx)),List.append_assoc]
   rfl
def FineIp (ps:List (List UInt8)):Prop:=∀p∈ps,p≠[]∧∀c∈p,c≠58
theorem FineIp.tail {p:List UInt8} {ps:List (List UInt8)} (h:FineIp (p::ps)):FineIp ps:=fun x hx=>h x (List.mem_cons_of_mem _ hx)
theorem join_head {q:List UInt8} {r:List (List UInt8)} (h:FineIp (q::r)):∃d t,joinC 58 (q::r)=d::t∧d≠58:=by
 obtain ⟨h1,h2⟩:=h q List.mem_cons_self
 match q,h1,h2 with
 | d::q',_,h2 =>
   match r with
   | []=>exact ⟨d,q',rfl,h2 d List.mem_cons_self⟩
   | x::r'=>exact ⟨d,q'++58::joinC 58 (x::r'),rfl,h2 d List.mem_cons_self⟩
theorem cut_join:∀(ps:List (List UInt8)) (acc t:List UInt8),ps≠[]→FineIp ps→cutG acc (joinC 58 ps++t)=cutG (acc++joinC 58 ps) t
 | [p],acc,t,_,h=>cut_past p acc t (h p List.mem_cons_self).2
 | p::q::r,acc,t,_,h=>by
   obtain ⟨d,u,e,hd⟩:=join_head h.tail
   have ih:=cut_join (q::r) (acc++p++[58]) t (by simp) h.tail
   rw [joinC_cons 58 p (by simp),List.append_assoc,cut_past p acc _ (h p List.mem_cons_self).2]
   rw [List.cons_append]
   rw [e,List.cons_append] at ih ⊢
   rw [cut_one hd,ih]
   simp
theorem cut_noneIp {ps:List (List UInt8)} (h:FineIp ps):cutG [] (joinC 58 ps)=none:=by
 match ps,h with
 | [],_=>rfl
 | p::r,h =>
   have:=cut_join (p::r) [] [] (by simp) h
   rw [List.append_nil] at this
   rw [this]
   rfl
theorem cut_someIp {ps:List (List UInt8)} (h:FineIp ps) (r:List UInt8):cutG [] (joinC 58 ps++58::58::r)=some (joinC 58 ps,r):=by
 match ps,h with
 | [],_=>exact cut_two [] r
 | p::q,h=>rw [cut_join (p::q) [] _ (by simp) h,List.nil_append,cut_two]
theorem pcs_fine {p:List Nat} (h:∀x∈p,x < 65536):FineIp (pcs p):=by
 intro q hq
 obtain ⟨x,hx,rfl⟩:=List.mem_map.1 hq
 have f:=digsOf_facts (b:=16) (by decide) (by decide) (n:=x) (by have:=h x hx;omega)
 exact ⟨f.1,fun c hc=>(f.2.2.2.2.2 c hc).2.1⟩
theorem pc_len {x:Nat} (h:x < 65536):(digsOf 16 x).length≤4:=digsOf_len (b:=16) (f:=3) (by decide) (by decide) (by decide) (by omega)
theorem goP_pcs (last:Bool):∀(p:List Nat),(∀x∈p,x < 65536)→goP last (pcs p)=some p
 | [],_=>rfl
 | x::r,h=>by
   have hx:=h x List.mem_cons_self
   have f:=digsOf_facts (b:=16) (by decide) (by decide) (n:=x) (by omega)
   have hl:=pc_len hx
   have ih:=goP_pcs last r (fun y hy=>h y (List.mem_cons_of_mem _ hy))
   show (if last=true∧pcs r=[]∧1 < (splitR 46 (digsOf 16 x)).length then fourR (digsOf 16 x)
    else if digsOf 16 x=[]∨4 < (digsOf 16 x).length∨digsR 16 (digsOf 16 x)=false then none
    else (goP last (pcs r)).map (valX 16 (digsOf 16 x)::·))=_
   rw [if_neg,if_neg,ih,f.2.2.1]
   ·rfl
   ·rintro (e | e | e)
    ·exact f.1 e
    ·omega
    ·rw [f.2.1] at e;cases e
   ·rintro ⟨_,_,e⟩
    unfold splitR at e
    rw [splitG_free _ _ (fun c hc=>(f.2.2.2.2.2 c hc).1)] at e
    simp at e
theorem join_ne {ps:List (List UInt8)} (h:FineIp ps) (hne:ps≠[]):joinC 58 ps≠[]:=by
 match ps,h,hne with
 | q::r,h,_ =>
   obtain ⟨d,t,e,_⟩:=join_head h
   rw [e]
   simp
theorem pieces_pcs (last:Bool) {p:List Nat} (h:∀x∈p,x < 65536):piecesR last (joinC 58 (pcs p))=some p:=by
 unfold piecesR
 match p,h with
 | [],_=>rfl
 | x::r,h =>
   have hf:=pcs_fine h
   rw [if_neg (join_ne hf (by simp [pcs])),split_join _ (by simp [pcs]) (fun p hp=>(hf p hp).2),goP_pcs last _ h]
theorem pcs_len:∀(p:List Nat),(∀x∈p,x < 65536)→(joinC 58 (pcs p)).length≤5 * p.length
 | [],_=>Nat.le_refl _
 | [x],h=>by
   have:=pc_len (h x List.mem_cons_self)
   show (digsOf 16 x).length≤_
   simp
   omega
 | x::y::r,h=>by
   have h1:=pc_len (h x List.mem_cons_self)
   have ih:=pcs_len (y::r) (fun z hz=>h z (List.mem_cons_of_mem _ hz))
   show (digsOf 16 x++58::joinC 58 (pcs (y::r))).length≤_
   rw [List.length_append,List.length_cons,List.length_cons (a:=x)]
   omega
theorem parse6_full {p:List Nat} (hl:p.length=8) (h:∀x∈p,x < 65536):parse6R (joinC 58 (pcs p))=(p,0):=by
 have:=pcs_len p h
 unfold parse6R
 rw [if_neg (by omega),cut_noneIp (pcs_fine h)]
 simp only [pieces_pcs true h,oneR]
 rw [if_pos hl]
theorem parse6_cut {a b:List Nat} (hl:a.length+b.length≤7) (ha:∀x∈a,x < 65536) (hb:∀x∈b,x < 65536) :
 parse6R (joinC 58 (pcs a)++58::58::joinC 58 (pcs b))=(a++List.replicate (8-(a.length+b.length)) 0++b,0):=by
 have h1:=pcs_len a ha
 have h2:=pcs_len b hb
 unfold parse6R
 rw [if_neg (by rw [List.length_append,List.length_cons,List.length_cons];omega),cut_someIp (pcs_fine ha)]
 simp only [pieces_pcs _ ha,pieces_pcs _ hb,twoR]
 rw [if_pos hl]
theorem run_zero (p:List Nat) (i:Nat):∀j,j < runAt p i→p[i+j]? = some 0:=by
 intro j hj
 unfold runAt at hj
 have h1:((p.drop i).takeWhile (·==0))[j]? = some (((p.drop i).takeWhile (·==0))[j]):=List.getElem?_eq_getElem hj
 have h2:=List.all_eq_true.1 (List.all_takeWhile (p:=(·==0)) (l:=p.drop i)) _ (List.getElem_mem hj)
 have h3:((p.drop i).takeWhile (·==0))[j]=0:=by simpa using h2
 have h4:(p.drop i)[j]? = some 0:=by
  have hpre:=List.takeWhile_prefix (p:=(·==0)) (l:=p.drop i)
  obtain ⟨t,ht⟩:=hpre
  rw [← ht,List.getElem?_append_left hj,h1,h3]
 rw [List.getElem?_drop] at h4
 exact h4
theorem run_le (p:List Nat) (i:Nat):runAt p i≤p.length-i:=by
 unfold runAt
 have:=(List.takeWhile_prefix (p:=(·==0)) (l:=p.drop i)).length_le
 rw [List.length_drop] at this
 exact this
theorem best_facts (p:List Nat):∀i,i≤8→(bestG p i=(8,1))∨((bestG p i).1 < i∧2≤(bestG p i).2∧(bestG p i).2=runAt p (bestG p i).1)
 | 0,_=>.inl rfl
 | i+1,h=>by
   have ih:=best_facts p i (by omega)
   have e:bestG p (i+1)=if (bestG p i).2 < runAt p i then (i,runAt p i) else bestG p i:=rfl
   rw [e]
   split
   ·rename_i hlt
    right
    refine ⟨by show i < i+1;omega,?_,rfl⟩
    show 2≤runAt p i
    rcases ih with ih | ih
    ·rw [ih] at hlt;exact hlt
    ·omega
   ·rcases ih with ih | ⟨h1,h2,h3⟩
    ·exact .inl ih
    ·exact .inr ⟨by omega,h2,h3⟩
theorem best_at {p:List Nat} (hl:p.length=8):bestR p=(8,1)∨((bestR p).1+(bestR p).2≤8∧(bestR p).1 < 8∧2≤(bestR p).2∧∀j,(bestR p).1≤j→j < (bestR p).1+(bestR p).2→p[j]? = some 0):=by
 rcases best_facts p 8 (Nat.le_refl _) with h | ⟨h1,h2,h3⟩
 ·exact .inl h
 ·right
  have hr:=run_le p (bestG p 8).1
  refine ⟨by show (bestG p 8).1+(bestG p 8).2≤8;omega,h1,h2,fun j hj1 hj2=>?_⟩
  have hj1':(bestG p 8).1≤j:=hj1
  have hj2':j < (bestG p 8).1+(bestG p 8).2:=hj2
  have:=run_zero p (bestG p 8).1 (j-(bestG p 8).1) (by omega)
  rwa [show (bestG p 8).1+(j-(bestG p 8).1)=j by omega] at this
theorem zeros_mid {p:List Nat} (hl:p.length=8) {a n:Nat} (h:a+n≤8) (hz:∀j,a≤j→j < a+n→p[j]? = some 0):p.take a++List.replicate n 0++p.drop (a+n)=p:=by
 apply List.ext_getElem?
 intro j
 by_cases h1:j < a
 ·rw [List.append_assoc,List.getElem?_append_left (by rw [List.length_take];omega),List.getElem?_take,if_pos h1]
 ·rw [List.append_assoc,List.getElem?_append_right (by rw [List.length_take];omega),List.length_take,Nat.min_eq_left (by omega)]
  by_cases h2:j < a+n
  ·rw [List.getElem?_append_left (by rw [List.length_replicate];omega),List.getElem?_replicate,if_pos (by omega),hz j (by omega) h2]
  ·rw [List.getElem?_append_right (by rw [List.length_replicate];omega),List.length_replicate,List.getElem?_drop]
   congr 1
   omega
theorem back6 {p:List Nat} (hl:p.length=8) (h:∀x∈p,x < 65536):parse6R (print6R p)=(p,0):=by
 unfold print6R
 rcases best_at hl with hb | ⟨h1,h2,h3,h4⟩
 ·rw [hb,if_pos rfl]
  exact parse6_full hl h
 ·rw [if_neg (by omega),parse6_cut]
  ·rw [List.length_take,List.length_drop,Nat.min_eq_left (by omega),hl,show 8-((bestR p).1+(8-((bestR p).1+(bestR p).2)))=(bestR p).2 by omega,zeros_mid hl h1 h4]
  ·rw [List.length_take,List.length_drop];omega
  ·intro x hx;exact h x (List.mem_of_mem_take hx)
  ·intro x hx;exact h x (List.mem_of_mem_drop hx)
theorem print6_len {p:List Nat} (hl:p.length=8) (h:∀x∈p,x < 65536):(print6R p).length≤82:=by
 unfold print6R
 split
 ·have:=pcs_len p h;omega
 ·have h1:=pcs_len (p.take (bestR p).1) (fun x hx=>h x (List.mem_of_mem_take hx))
  have h2:=pcs_len (p.drop ((bestR p).1+(bestR p).2)) (fun x hx=>h x (List.mem_of_mem_drop hx))
  rw [List.length_append,List.length_cons,List.length_cons]
  rw [List.length_take] at h1
  rw [List.length_drop] at h2
  omega
theorem valX_lt {b:Nat}:∀(n:Nat) (l:List UInt8),l.length=n→digsR b l=true→valX b l < b^n
 | 0,l,h,_=>by rw [List.eq_nil_of_length_eq_zero h];exact Nat.one_pos
 | n+1,l,h,hd=>by
   rcases List.eq_nil_or_concat l with h' | ⟨l',c,h'⟩
   ·rw [h'] at h;simp at h
   ·rw [List.concat_eq_append] at h'
    subst h'
    rw [List.length_append] at h
    unfold digsR at hd
    rw [List.all_append,Bool.and_eq_true] at hd
    have ih:=valX_lt n l' (by simpa using h) hd.1
    have hc:dgv c < b:=by
     have:=hd.2
     simp only [List.all_cons,List.all_nil,Bool.and_true] at this
     unfold digB at this
     unfold dgv
     cases hv:hexV c.toNat with
     | none=>rw [hv] at this;cases this
     | some d=>rw [hv] at this;simpa using this
    rw [valX_snoc,Nat.pow_succ]
    have:(valX b l'+1) * b≤b^n * b:=Nat.mul_le_mul_right b ih
    rw [Nat.add_mul,Nat.one_mul] at this
    omega
theorem piece_lt {p:List UInt8} (hl:p.length≤4) (hd:digsR 16 p=true):valX 16 p < 65536 :=
 Nat.lt_of_lt_of_le (valX_lt _ p rfl hd) (Nat.le_trans (Nat.pow_le_pow_right (by decide) hl) (by decide))
theorem oct_lt {q:List UInt8} {n:Nat} (h:octR q=some n):n≤255:=by
 unfold octR at h
 split at h
 ·cases h
 ·split at h
  ·cases h
  ·injection h with h;omega
theorem octs_lt:∀{qs:List (List UInt8)} {ns:List Nat},octsR qs=some ns→ns.length=qs.length∧∀x∈ns,x≤255
 | [],ns,h=>by
   have:some []=some ns:=h
   injection this with e
   subst e
   exact ⟨rfl,fun x hx=>by cases hx⟩
 | q::r,ns,h=>by
   have h':(match octR q with
    | none=>none
    | some n=>(octsR r).map (n::·))=some ns:=h
   cases hn:octR q with
   | none=>rw [hn] at h';cases h'
   | some n =>
     rw [hn] at h'
     obtain ⟨m,hm,rfl⟩:=Option.map_eq_some_iff.1 h'
     obtain ⟨i1,i2⟩:=octs_lt hm
     refine ⟨by rw [List.length_cons,List.length_cons,i1],fun x hx=>?_⟩
     rcases List.mem_cons.1 hx with rfl | hx
     ·exact oct_lt hn
     ·exact i2 x hx
theorem four_lt {p:List UInt8} {ns:List Nat} (h:fourR p=some ns):ns.length=2∧∀x∈ns,x < 65536:=by
 unfold fourR at h
 split at h
 ·rename_i h4
  obtain ⟨m,hm,rfl⟩:=Option.map_eq_some_iff.1 h
  obtain ⟨i1,i2⟩:=octs_lt hm
  rw [h4] at i1
  match m,i1,i2 with
  | [a,b,c,d],_,i2 =>
    have ha:=i2 a (by simp)
    have hb:=i2 b (by simp)
    have hc:=i2 c (by simp)
    have hd:=i2 d (by simp)
    refine ⟨rfl,fun x hx=>?_⟩
    simp [pairR] at hx
    rcases hx with rfl | rfl<;>omega
 ·cases h
theorem goP_lt (last:Bool):∀{ps:List (List UInt8)} {ns:List Nat},goP last ps=some ns→(ns.length≤ps.length+1)∧∀x∈ns,x < 65536
 | [],ns,h=>by
   have:some []=some ns:=h
   injection this with e
   subst e
   exact ⟨Nat.zero_le _,fun x hx=>by cases hx⟩
 | p::r,ns,h=>by
   have h':(if last=true∧r=[]∧1 < (splitR 46 p).length then fourR p
    else if p=[]∨4 < p.length∨digsR 16 p=false then none
    else (goP last r).map (valX 16 p::·))=some ns:=h
   split at h'
   ·obtain ⟨i1,i2⟩:=four_lt h'
    exact ⟨by rw [i1,List.length_cons];omega,i2⟩
   ·split at h'
    ·cases h'
    ·rename_i hn
     obtain ⟨m,hm,rfl⟩:=Option.map_eq_some_iff.1 h'
     obtain ⟨i1,i2⟩:=goP_lt last hm
     refine ⟨by rw [List.length_cons,List.length_cons];omega,fun x hx=>?_⟩
     rcases List.mem_cons.1 hx with rfl | hx
     ·refine piece_lt (Nat.le_of_not_lt fun e=>hn (.inr (.inl e))) ?_
      cases hd:digsR 16 p with
      | true=>rfl
      | false=>exact absurd (.inr (.inr hd)) hn
     ·exact i2 x hx
theorem pieces_lt {last:Bool} {l:List UInt8} {ns:List Nat} (h:piecesR last l=some ns):∀x∈ns,x < 65536:=by
 unfold piecesR at h
 split at h
 ·injection h with h
  subst h
  intro x hx
  cases hx
 ·exact (goP_lt last h).2
theorem z8_fine:z8.length=8∧∀x∈z8,x < 65536:=⟨rfl,by decide⟩
theorem parse6_fine (l:List UInt8):(parse6R l).1.length=8∧(∀x∈(parse6R l).1,x < 65536)∧((parse6R l).2=0∨(parse6R l).1=z8):=by
 unfold parse6R
 split
 ·exact ⟨z8_fine.1,z8_fine.2,.inr rfl⟩
 ·cases cutG [] l with
  | none =>
    show (oneR (piecesR true l)).1.length=8∧(∀x∈(oneR (piecesR true l)).1,x < 65536)∧((oneR (piecesR true l)).2=0∨(oneR (piecesR true l)).1=z8)
    cases hp:piecesR true l with
    | none=>exact ⟨z8_fine.1,z8_fine.2,.inr rfl⟩
    | some a =>
      unfold oneR
      simp only []
      split
      ·rename_i h8
       exact ⟨h8,pieces_lt hp,.inl rfl⟩
      ·exact ⟨z8_fine.1,z8_fine.2,.inr rfl⟩
  | some ab =>
    obtain ⟨a,b⟩:=ab
    show (twoR (piecesR false a) (piecesR true b)).1.length=8∧(∀x∈(twoR (piecesR false a) (piecesR true b)).1,x < 65536)∧((twoR (piecesR false a) (piecesR true b)).2=0∨(twoR (piecesR false a) (piecesR true b)).1=z8)
    cases hx:piecesR false a with
    | none=>exact ⟨z8_fine.1,z8_fine.2,.inr rfl⟩
    | some x =>
      cases hy:piecesR true b with
      | none=>exact ⟨z8_fine.1,z8_fine.2,.inr rfl⟩
      | some y =>
        unfold twoR
        simp only []
        split
        ·rename_i h7
         refine ⟨by simp;omega,fun z hz=>?_,.inl rfl⟩
         rcases List.mem_append.1 hz with hz | hz
         ·rcases List.mem_append.1 hz with hz | hz
          ·exact pieces_lt hx z hz
          ·rw [(List.mem_replicate.1 hz).2];decide
         ·exact pieces_lt hy z hz
        ·exact ⟨z8_fine.1,z8_fine.2,.inr rfl⟩
def isS (c:Int):Bool:=decide (0≤c∧c≤1114111∧(c < 55296∨57343 < c))
theorem isS_iff {c:Int}:isS c=true↔(0≤c∧c≤1114111∧(c < 55296∨57343 < c)):=by simp [isS]
def b8 (n:Nat):UInt8:=UInt8.ofNat n
theorem b8_nat (n:Nat) (h:n < 256):(b8 n).toNat=n:=by simp [b8];omega
theorem b8_eq {n:Nat} {x:UInt8} (h:n=x.toNat):b8 n=x:=by subst h;simp [b8]
def encN (c:Nat):List UInt8 :=
 if c < 128 then [b8 c]
 else if c < 2048 then [b8 (192+c/64),b8 (128+c%64)]
 else if c < 65536 then [b8 (224+c/4096),b8 (128+c/64%64),b8 (128+c%64)]
 else [b8 (240+c/262144),b8 (128+c/4096%64),b8 (128+c/64%64),b8 (128+c%64)]
theorem enc_len (c:Nat):1≤(encN c).length∧(encN c).length≤4:=by
 unfold encN;repeat' split
 all_goals simp
def st (x:Nat):Option (Nat×Nat×Nat×Nat) :=
 if x < 128 then some (x,0,128,191)
 else if x < 194 then none
 else if x < 224 then some (x-192,1,128,191)
 else if x < 240 then some (x-224,2,if x=224 then 160 else 128,if x=237 then 159 else 191)
 else if x < 245 then some (x-240,3,if x=240 then 144 else 128,if x=244 then 143 else 191)
 else none
def goN (c lo hi i:Nat):List UInt8→Nat→Nat×Nat×Bool
 | _,0=>(c,i,true)
 | [],_+1=>(65533,i,false)
 | b::r,n+1=>if b.toNat < lo∨hi < b.toNat then (65533,i,false) else goN (c * 64+b.toNat%64) 128 191 (i+1) r n
def nextN:List UInt8→Nat×Nat×Bool
 | []=>(65533,1,false)
 | x::r=>match st x.toNat with
   | none=>(65533,1,false)
   | some (c,n,lo,hi)=>goN c lo hi 1 r n
theorem next_cons (x:UInt8) (r:List UInt8) {c n lo hi:Nat} (h:st x.toNat=some (c,n,lo,hi)):nextN (x::r)=goN c lo hi 1 r n:=by
 simp only [nextN,h]
theorem go_size:∀(l:List UInt8) (n c lo hi i:Nat),i≤(goN c lo hi i l n).2.1∧(goN c lo hi i l n).2.1≤i+l.length
 | _,0,c,lo,hi,i=>by simp [goN]
 | [],n+1,c,lo,hi,i=>by simp [goN]
 | b::r,n+1,c,lo,hi,i=>by
   unfold goN
   split
   ·simp
   ·have:=go_size r n (c * 64+b.toNat%64) 128 191 (i+1)
    simp only [List.length_cons];omega
theorem next_size (l:List UInt8):1≤(nextN l).2.1∧(l≠[]→(nextN l).2.1≤l.length):=by
 cases l with
 | nil=>simp [nextN]
 | cons x r =>
   cases e:st x.toNat with
   | none=>simp [nextN,e]
   | some q =>
     obtain ⟨c,n,lo,hi⟩:=q
     have:=go_size r n c lo hi 1
     rw [next_cons x r e]
     simp only [List.length_cons];omega
theorem go_bad:∀(l:List UInt8) (n c lo hi i:Nat),(goN c lo hi i l n).2.2=false→(goN c lo hi i l n).1=65533
 | _,0,c,lo,hi,i=>by simp [goN]
 | [],n+1,c,lo,hi,i=>by simp [goN]
 | b::r,n+1,c,lo,hi,i=>by
   unfold goN
   split
   ·simp
   ·exact go_bad r n (c * 64+b.toNat%64) 128 191 (i+1)
theorem next_bad (l:List UInt8) (h:(nextN l).2.2=false):(nextN l).1=65533:=by
 cases l with
 | nil=>rfl
 | cons x r =>
   cases e:st x.toNat with
   | none=>simp [nextN,e]
   | some q =>
     obtain ⟨c,n,lo,hi⟩:=q
     rw [next_cons x r e] at h ⊢
     exact go_bad _ _ _ _ _ _ h
theorem go_step {b:UInt8} {r:List UInt8} {n c lo hi i:Nat} (h:¬(b.toNat < lo∨hi < b.toNat)):goN c lo hi i (b::r) (n+1)=goN (c * 64+b.toNat%64) 128 191 (i+1) r n:=by
 rw [goN,if_neg h]
theorem go_whole1 {l:List UInt8} {n c lo hi i:Nat} (h:(goN c lo hi i l (n+1)).2.2=true):∃b r,l=b::r∧lo≤b.toNat∧b.toNat≤hi∧goN c lo hi i l (n+1)=goN (c * 64+b.toNat%64) 128 191 (i+1) r n:=by
 cases l with
 | nil=>simp [goN] at h
 | cons b r =>
   by_cases g:b.toNat < lo∨hi < b.toNat
   ·rw [goN,if_pos g] at h;simp at h
   ·exact ⟨b,r,rfl,by omega,by omega,go_step g⟩
theorem next_whole (l:List UInt8) (h:(nextN l).2.2=true):isS ((nextN l).1:Int)=true∧l=encN (nextN l).1++l.drop (nextN l).2.1:=by
 cases l with
 | nil=>simp [nextN] at h
 | cons x r =>
   have hx:=x.toNat_lt
   by_cases h1:x.toNat < 128
   ·have e:st x.toNat=some (x.toNat,0,128,191):=by unfold st;rw [if_pos h1]
    rw [next_cons x r e] at h ⊢
    rw [goN]
    refine ⟨isS_iff.2 (by omega),?_⟩
    have q:encN x.toNat=[x]:=by unfold encN;rw [if_pos h1,b8_eq rfl]
    simp only [q,List.drop_succ_cons,List.drop_zero,List.cons_append,List.nil_append]
   ·by_cases h2:x.toNat < 194
    ·exfalso
     have e:st x.toNat=none:=by unfold st;rw [if_neg h1,if_pos h2]
     simp only [nextN,e] at h
     cases h
    ·by_cases h3:x.toNat < 224
     ·have e:st x.toNat=some (x.toNat-192,1,128,191):=by unfold st;rw [if_neg h1,if_neg h2,if_pos h3]
      rw [next_cons x r e] at h ⊢
      obtain ⟨b,r,rfl,l1,u1,e1⟩:=go_whole1 h
      rw [e1,goN]
      have q:encN ((x.toNat-192) * 64+b.toNat%64)=[x,b]:=by
       unfold encN
       rw [if_neg (by omega),if_pos (by omega),b8_eq (x:=x) (by omega),b8_eq (x:=b) (by omega)]
      refine ⟨isS_iff.2 (by omega),?_⟩
      simp only [q,List.drop_succ_cons,List.drop_zero,List.cons_append,List.nil_append]
     ·by_cases h4:x.toNat < 240
      ·have e:st x.toNat=some (x.toNat-224,2,if x.toNat=224 then 160 else 128,if x.toNat=237 then 159 else 191):=by unfold st;rw [if_neg h1,if_neg h2,if_neg h3,if_pos h4]
       rw [next_cons x r e] at h ⊢
       obtain ⟨b,r,rfl,l1,u1,e1⟩:=go_whole1 h
       rw [e1] at h ⊢
       obtain ⟨b2,r,rfl,l2,u2,e2⟩:=go_whole1 h
       rw [e2,goN]
       have q1:x.toNat=224→160≤b.toNat:=fun h=>by rw [if_pos h] at l1;exact l1
       have q2:x.toNat=237→b.toNat≤159:=fun h=>by rw [if_pos h] at u1;exact u1
       have l1':128≤b.toNat:=by split at l1<;>omega
       have u1':b.toNat≤191:=by split at u1<;>omega
       clear l1 u1 e1 e2 e h
       have q:encN (((x.toNat-224) * 64+b.toNat%64) * 64+b2.toNat%64)=[x,b,b2]:=by
        unfold encN
        rw [if_neg (by omega),if_neg (by omega),if_pos (by omega),b8_eq (x:=x) (by omega),b8_eq (x:=b) (by omega),b8_eq (x:=b2) (by omega)]
       refine ⟨isS_iff.2 (by omega),?_⟩
       simp only [q,List.drop_succ_cons,List.drop_zero,List.cons_append,List.nil_append]
      ·by_cases h5:x.toNat < 245
       ·have e:st x.toNat=some (x.toNat-240,3,if x.toNat=240 then 144 else 128,if x.toNat=244 then 143 else 191):=by unfold st;rw [if_neg h1,if_neg h2,if_neg h3,if_neg h4,if_pos h5]
        rw [next_cons x r e] at h ⊢
        obtain ⟨b,r,rfl,l1,u1,e1⟩:=go_whole1 h
        rw [e1] at h ⊢
        obtain ⟨b2,r,rfl,l2,u2,e2⟩:=go_whole1 h
        rw [e2] at h ⊢
        obtain ⟨b3,r,rfl,l3,u3,e3⟩:=go_whole1 h
        rw [e3,goN]
        have q1:x.toNat=240→144≤b.toNat:=fun h=>by rw [if_pos h] at l1;exact l1
        have q2:x.toNat=244→b.toNat≤143:=fun h=>by rw [if_pos h] at u1;exact u1
        have l1':128≤b.toNat:=by split at l1<;>omega
        have u1':b.toNat≤191:=by split at u1<;>omega
        clear l1 u1 e1 e2 e3 e h
        have q:encN ((((x.toNat-240) * 64+b.toNat%64) * 64+b2.toNat%64) * 64+b3.toNat%64)=[x,b,b2,b3]:=by
         unfold encN
         rw [if_neg (by omega),if_neg (by omega),if_neg (by omega),b8_eq (x:=x) (by omega),b8_eq (x:=b) (by omega),b8_eq (x:=b2) (by omega),b8_eq (x:=b3) (by omega)]
        refine ⟨isS_iff.2 (by omega),?_⟩
        simp only [q,List.drop_succ_cons,List.drop_zero,List.cons_append,List.nil_append]
       ·exfalso
        have e:st x.toNat=none:=by unfold st;rw [if_neg h1,if_neg h2,if_neg h3,if_neg h4,if_neg h5]
        simp only [nextN,e] at h
        cases h
theorem next_isS (l:List UInt8):isS ((nextN l).1:Int)=true:=by
 cases h:(nextN l).2.2 with
 | true=>exact (next_whole l h).1
 | false=>rw [next_bad l h];decide
theorem next_enc (c:Nat) (r:List UInt8) (h:isS (c:Int)=true):nextN (encN c++r)=(c,(encN c).length,true):=by
 have hs:=isS_iff.1 h
 by_cases h1:c < 128
 ·have q:encN c=[b8 c]:=by unfold encN;rw [if_pos h1]
  rw [q]
  have e:st (b8 c).toNat=some (c,0,128,191):=by rw [b8_nat _ (by omega)];unfold st;rw [if_pos h1]
  show nextN (b8 c::r)=_
  rw [next_cons _ _ e,goN];rfl
 ·by_cases h2:c < 2048
  ·have q:encN c=[b8 (192+c/64),b8 (128+c%64)]:=by unfold encN;rw [if_neg h1,if_pos h2]
   rw [q]
   have e:st (b8 (192+c/64)).toNat=some (c/64,1,128,191):=by
    rw [b8_nat _ (by omega)];unfold st;rw [if_neg (by omega),if_neg (by omega),if_pos (by omega),show 192+c/64-192=c/64 by omega]
   show nextN (b8 (192+c/64)::b8 (128+c%64)::r)=_
   rw [next_cons _ _ e,go_step (by rw [b8_nat _ (by omega)];omega),goN,b8_nat _ (by omega),show c/64 * 64+(128+c%64)%64=c by omega];rfl
  ·by_cases h3:c < 65536
   ·have q:encN c=[b8 (224+c/4096),b8 (128+c/64%64),b8 (128+c%64)]:=by unfold encN;rw [if_neg h1,if_neg h2,if_pos h3]
    rw [q]
    have e:st (b8 (224+c/4096)).toNat=some (c/4096,2,if 224+c/4096=224 then 160 else 128,if 224+c/4096=237 then 159 else 191):=by
     rw [b8_nat _ (by omega)];unfold st;rw [if_neg (by omega),if_neg (by omega),if_neg (by omega),if_pos (by omega),show 224+c/4096-224=c/4096 by omega]
    show nextN (b8 (224+c/4096)::b8 (128+c/64%64)::b8 (128+c%64)::r)=_
    have g1:(b8 (128+c/64%64)).toNat=128+c/64%64:=b8_nat _ (by omega)
    have g2:(b8 (128+c%64)).toNat=128+c%64:=b8_nat _ (by omega)
    rw [next_cons _ _ e,go_step (by rw [g1];split<;>split<;>omega),go_step (by rw [g2];omega),goN,g1,g2,
     show (c/4096 * 64+(128+c/64%64)%64) * 64+(128+c%64)%64=c by omega]
    rfl
   ·have q:encN c=[b8 (240+c/262144),b8 (128+c/4096%64),b8 (128+c/64%64),b8 (128+c%64)]:=by unfold encN;rw [if_neg h1,if_neg h2,if_neg h3]
    rw [q]
    have e:st (b8 (240+c/262144)).toNat=some (c/262144,3,if 240+c/262144=240 then 144 else 128,if 240+c/262144=244 then 143 else 191):=by
     rw [b8_nat _ (by omega)];unfold st;rw [if_neg (by omega),if_neg (by omega),if_neg (by omega),if_neg (by omega),if_pos (by omega),show 240+c/262144-240=c/262144 by omega]
    show nextN (b8 (240+c/262144)::b8 (128+c/4096%64)::b8 (128+c/64%64)::b8 (128+c%64)::r)=_
    have g0:(b8 (128+c/4096%64)).toNat=128+c/4096%64:=b8_nat _ (by omega)
    have g1:(b8 (128+c/64%64)).toNat=128+c/64%64:=b8_nat _ (by omega)
    have g2:(b8 (128+c%64)).toNat=128+c%64:=b8_nat _ (by omega)
    rw [next_cons _ _ e,go_step (by rw [g0];split<;>split<;>omega),go_step (by rw [g1];omega),go_step (by rw [g2];omega),goN,g0,g1,g2,
     show ((c/262144 * 64+(128+c/4096%64)%64) * 64+(128+c/64%64)%64) * 64+(128+c%64)%64=c by omega]
    rfl
def encL (l:List Int):List UInt8:=l.flatMap fun c=>encN c.toNat
def fix (c:Int):Int:=if isS c=true then c else 65533
def textL (l:List Int):List UInt8:=encL (l.map fix)
theorem encL_len (l:List Int):(encL l).length≤4 * l.length:=by
 induction l with
 | nil=>simp [encL]
 | cons c l ih =>
   have:=(enc_len c.toNat).2
   simp only [encL,List.flatMap_cons,List.length_append,List.length_cons] at ih ⊢;omega
theorem all_snoc (l:List Int) (k:Nat) (h:k < l.length):(l.take (k+1)).all isS=((l.take k).all isS&&isS l[k]):=by
 rw [List.take_succ_eq_append_getElem h,List.all_append];simp
theorem all_not (l:List Int) (k:Nat) (h:k < l.length) (hn:isS l[k]=false):l.all isS=false:=by
 rw [List.all_eq_false];exact ⟨l[k],List.getElem_mem h,by rw [hn];simp⟩
theorem text_snoc (l:List Int) (k:Nat) (h:k < l.length):encL ((l.take (k+1)).map fix)=encL ((l.take k).map fix)++encN (fix l[k]).toNat:=by
 unfold encL;rw [List.take_succ_eq_append_getElem h,List.map_append,List.flatMap_append];simp
def lossyF:Nat→List UInt8→List Int
 | 0,_=>[]
 | _+1,[]=>[]
 | f+1,x::r=>((nextN (x::r)).1:Int)::lossyF f ((x::r).drop (nextN (x::r)).2.1)
def decF:Nat→List UInt8→Option (List Int)
 | 0,_=>some []
 | _+1,[]=>some []
 | f+1,x::r=>if (nextN (x::r)).2.2=true then (decF f ((x::r).drop (nextN (x::r)).2.1)).map (fun o=>((nextN (x::r)).1:Int)::o) else none
def badF:Nat→List UInt8→Nat
 | 0,_=>0
 | _+1,[]=>0
 | f+1,x::r=>if (nextN (x::r)).2.2=true then (nextN (x::r)).2.1+badF f ((x::r).drop (nextN (x::r)).2.1) else 0
def lossyL (l:List UInt8):List Int:=lossyF l.length l
def decL (l:List UInt8):Option (List Int):=decF l.length l
def badN (l:List UInt8):Nat:=badF l.length l
theorem drop_less (x:UInt8) (r:List UInt8) (f:Nat) (h:(x::r).length≤f+1):((x::r).drop (nextN (x::r)).2.1).length≤f:=by
 have:=(next_size (x::r)).1
 rw [List.length_drop];omega
theorem lossyF_eq:∀(f g:Nat) (l:List UInt8),l.length≤f→l.length≤g→lossyF f l=lossyF g l
 | 0,0,_,_,_=>rfl
 | 0,_+1,[],_,_=>rfl
 | _+1,0,[],_,_=>rfl
 | _+1,_+1,[],_,_=>rfl
 | 0,_+1,_::_,h,_=>absurd h (by simp)
 | _+1,0,_::_,_,h=>absurd h (by simp)
 | f+1,g+1,x::r,h,k=>by rw [lossyF,lossyF,lossyF_eq f g _ (drop_less x r f h) (drop_less x r g k)]
theorem lossy_nil:lossyL []=[]:=rfl
theorem lossy_cons {l:List UInt8} (h:l≠[]):lossyL l=((nextN l).1:Int)::lossyL (l.drop (nextN l).2.1):=by
 cases l with
 | nil=>exact absurd rfl h
 | cons x r =>
   show lossyF (r.length+1) (x::r)=_
   rw [lossyF,lossyL,lossyF_eq _ _ _ (drop_less x r r.length (by simp)) (Nat.le_refl _)]
theorem dec_nil:decL []=some []:=rfl
theorem lossy_all:∀(k:Nat) (b:List UInt8),b.length≤k→(lossyL b).all isS=true∧(lossyL b).length≤b.length
 | k,[],_=>by rw [lossy_nil];exact ⟨rfl,Nat.le_refl _⟩
 | 0,x::r,hk=>by simp at hk
 | k+1,x::r,hk=>by
   have hne:x::r≠[]:=by simp
   have hs:=next_size (x::r)
   have h2:=hs.2 hne
   have ih:=lossy_all k ((x::r).drop (nextN (x::r)).2.1) (by simp only [List.length_drop,List.length_cons] at hk ⊢;omega)
   rw [lossy_cons hne]
   refine ⟨by simp only [List.all_cons,next_isS,ih.1,Bool.and_self],?_⟩
   have h3:=ih.2
   simp only [List.length_drop] at h3
   simp only [List.length_cons] at h2 h3 ⊢;omega
def thr (k bias:Nat):Nat:=min (max (k-bias) 1) 26
theorem thr_ge (k b:Nat):1≤thr k b:=by unfold thr;omega
theorem thr_le (k b:Nat):thr k b≤26:=by unfold thr;omega
def adF:Nat→Nat→Nat→Nat
 | 0,d,b=>b+36 * d/(d+38)
 | f+1,d,b=>if 455 < d then adF f (d/35) (b+36) else b+36 * d/(d+38)
def adapt (d c:Nat) (first:Bool):Nat:=adF 64 ((if first then d/700 else d/2)+(if first then d/700 else d/2)/c) 0
theorem frac_le (d:Nat):36 * d/(d+38)≤36:=by
 have:36 * d/(d+38)≤36 * (d+38)/(d+38):=Nat.div_le_div_right (by omega)
 rwa [Nat.mul_div_cancel _ (by omega)] at this
theorem adF_le:∀f d b,adF f d b≤b+36 * f+36
 | 0,d,b=>by unfold adF;have:=frac_le d;omega
 | f+1,d,b=>by
   unfold adF
   split
   ·have:=adF_le f (d/35) (b+36);omega
   ·have:=frac_le d;omega
theorem adapt_le (d c:Nat) (f:Bool):adapt d c f≤2340:=by unfold adapt;exact Nat.le_trans (adF_le _ _ _) (by decide)
def numF:Nat→Nat→Nat→Nat→List Nat
 | 0,k,b,n=>[n%36]
 | f+1,k,b,n=>if n < thr k b then [n] else (thr k b+(n-thr k b)%(36-thr k b))::numF f (k+36) b ((n-thr k b)/(36-thr k b))
theorem num_less {n t f:Nat} (h:n < 2^(f+1)) (h1:1≤t) (h2:t≤26):(n-t)/(36-t) < 2^f:=by
 have h3:(n-t)/(36-t)≤(n-t)/2:=Nat.div_le_div_left (by omega) (by omega)
 rw [Nat.pow_succ] at h
 omega
theorem numF_lt:∀f k b n,∀d∈numF f k b n,d < 36
 | 0,k,b,n=>by intro d hd;simp [numF] at hd;omega
 | f+1,k,b,n=>by
   have h1:=thr_ge k b
   have h2:=thr_le k b
   unfold numF
   split
   ·intro d hd;rw [List.mem_singleton] at hd;omega
   ·intro d hd
    rcases List.mem_cons.1 hd with rfl | hd
    ·have:=Nat.mod_lt (n-thr k b) (y:=36-thr k b) (by omega);omega
    ·exact numF_lt f _ _ _ d hd
theorem numF_len:∀f k b n,1≤(numF f k b n).length∧(numF f k b n).length≤f+1
 | 0,k,b,n=>by simp [numF]
 | f+1,k,b,n=>by
   unfold numF
   split
   ·simp
   ·have:=numF_len f (k+36) b ((n-thr k b)/(36-thr k b));simp;omega
def num (b n:Nat):List Nat:=numF 64 36 b n
def most:Nat:=2147483647
def rd:List (Option Nat)→Nat→Nat→Nat→Nat→Option (Nat×List (Option Nat))
 | [],n,w,k,b=>none
 | none::r,n,w,k,b=>none
 | some d::r,n,w,k,b=>if most < w∨(most-n)/w < d then none else if d < thr k b then some (n+d * w,r) else rd r (n+d * w) (w * (36-thr k b)) (k+36) b
theorem rd_len:∀l n w k b m r,rd l n w k b=some (m,r)→r.length < l.length
 | [],n,w,k,b,m,r,h=>by simp [rd] at h
 | none::l,n,w,k,b,m,r,h=>by simp [rd] at h
 | some d::l,n,w,k,b,m,r,h=>by
   unfold rd at h
   split at h
   ·cases h
   ·split at h
    ·injection h with h;injection h with h1 h2;subst h2;simp
    ·have:=rd_len l _ _ _ _ _ _ h;simp;omega
theorem rd_le:∀l n w k b m r,rd l n w k b=some (m,r)→1≤w→n≤most→n≤m∧m≤most
 | [],n,w,k,b,m,r,h,_,_=>by simp [rd] at h
 | none::l,n,w,k,b,m,r,h,_,_=>by simp [rd] at h
 | some d::l,n,w,k,b,m,r,h,hw,hn=>by
   unfold rd at h
   split at h
   ·cases h
   ·rename_i hx
    have hd:d * w≤most-n:=by
     have:d≤(most-n)/w:=by omega
     exact (Nat.le_div_iff_mul_le (by omega)).1 this
    split at h
    ·injection h with h;injection h with h1 h2;omega
    ·have h1:=thr_le k b
     have:=rd_le l _ _ _ _ _ _ h (Nat.mul_pos (by omega) (by omega)) (by omega)
     omega
theorem rd_num_step {n t w acc:Nat} (hn:t≤n) (h1:1≤t) (h2:t≤26):acc+(t+(n-t)%(36-t)) * w+(n-t)/(36-t) * (w * (36-t))=acc+n * w:=by
 have h:=Nat.div_add_mod (n-t) (36-t)
 have e:n=t+(n-t)%(36-t)+(36-t) * ((n-t)/(36-t)):=by omega
 generalize (n-t)%(36-t)=a at *
 generalize (n-t)/(36-t)=q at *
 rw [e,Nat.add_assoc acc,Nat.add_mul (t+a)]
 congr 2
 rw [Nat.mul_comm (36-t) q,Nat.mul_assoc,Nat.mul_comm w]
theorem pow35 {j:Nat} (h:35^j≤700000000):35^j≤52521875:=by
 rcases Nat.lt_or_ge j 6 with g | g
 ·exact Nat.le_trans (Nat.pow_le_pow_right (by decide) (by omega:j≤5)) (by decide)
 ·have:=Nat.pow_le_pow_right (n:=35) (by decide) g
  have e:35^6=1838265625:=by decide
  omega
theorem rd_num (b:Nat):∀f n k w acc rest,n < 2^f→w≤most→1≤w→(b+26≤k∨∃j,w=35^j)→acc+n * w≤700000000 →
 rd ((numF f k b n).map some++rest) acc w k b=some (acc+n * w,rest)
 | 0,n,k,w,acc,rest,h,hw,hw1,hk,hB=>by
   have hn:n=0:=by simpa using h
   subst hn
   have:=thr_ge k b
   simp [numF,rd]
   exact ⟨hw,by omega⟩
 | f+1,n,k,w,acc,rest,h,hw,hw1,hk,hB=>by
   have t1:=thr_ge k b
   have t2:=thr_le k b
   unfold numF
   by_cases hlt:n < thr k b
   ·rw [if_pos hlt]
    have hd:¬((most-acc)/w < n):=by
     have:n≤(most-acc)/w:=(Nat.le_div_iff_mul_le (by omega)).2 (by unfold most;omega)
     omega
    simp only [List.map_cons,List.map_nil,List.cons_append,List.nil_append,rd]
    rw [if_neg (by omega),if_pos hlt]
   ·rw [if_neg hlt]
    have hst:=rd_num_step (acc:=acc) (w:=w) (by omega:thr k b≤n) t1 t2
    have hdn:thr k b+(n-thr k b)%(36-thr k b)≤n:=by have:=Nat.mod_le (n-thr k b) (36-thr k b);omega
    have hdw:(thr k b+(n-thr k b)%(36-thr k b)) * w≤n * w:=Nat.mul_le_mul_right _ hdn
    have hd:¬((most-acc)/w < thr k b+(n-thr k b)%(36-thr k b)):=by
     have:thr k b+(n-thr k b)%(36-thr k b)≤(most-acc)/w:=(Nat.le_div_iff_mul_le (by omega)).2 (by unfold most;omega)
     omega
    have htw:thr k b * w≤n * w:=Nat.mul_le_mul_right _ (by omega)
    simp only [List.map_cons,List.cons_append,rd]
    rw [if_neg (by omega),if_neg (by omega)]
    have hk':w * (36-thr k b)≤most∧(b+26≤k+36∨∃j,w * (36-thr k b)=35^j):=by
     rcases Nat.lt_or_ge k (b+26) with g | g
     ·rcases hk with hk | ⟨j,rfl⟩
      ·omega
      ·have hw2:35^j≤700000000:=by
        have:1 * 35^j≤thr k b * 35^j:=Nat.mul_le_mul_right _ t1
        omega
       have hw3:=pow35 hw2
       have hw4:35^j * (36-thr k b)≤52521875 * 35:=Nat.mul_le_mul hw3 (by omega)
       refine ⟨by unfold most;omega,?_⟩
       rcases Nat.lt_or_ge (b+1) k with g2 | g2
       ·left;omega
       ·right
        refine ⟨j+1,?_⟩
        have:thr k b=1:=by unfold thr;omega
        rw [this,Nat.pow_succ]
     ·have:thr k b=26:=by unfold thr;omega
      rw [this] at htw ⊢
      exact ⟨by unfold most;omega,.inl (by omega)⟩
    rw [rd_num b f _ _ _ _ rest (num_less h t1 t2) hk'.1 (Nat.mul_pos (by omega) (by omega)) hk'.2 (by rw [hst];exact hB),hst]
theorem rd_back (b n acc:Nat) (rest:List (Option Nat)) (h:acc+n≤700000000):rd ((num b n).map some++rest) acc 1 36 b=some (acc+n,rest):=by
 have:=rd_num b 64 n 36 1 acc rest (Nat.lt_of_le_of_lt (by omega:n≤700000000) (by decide)) (by decide) (by decide) (.inr ⟨0,rfl⟩) (by omega)
 rwa [Nat.mul_one] at this
def lstF (a from_:Nat) (l:List Nat):Nat:=l.foldl (fun a c=>if from_≤c then min a c else a) a
theorem lstF_le:∀(l:List Nat) (a n:Nat),lstF a n l≤a
 | [],a,n=>Nat.le_refl _
 | c::l,a,n=>by
   show lstF (if n≤c then min a c else a) n l≤a
   refine Nat.le_trans (lstF_le l _ n) ?_
   split
   ·exact Nat.min_le_left _ _
   ·exact Nat.le_refl _
theorem lstF_all:∀(l:List Nat) (a n c:Nat),c∈l→n≤c→lstF a n l≤c
 | [],a,n,c,h,_=>by cases h
 | d::l,a,n,c,h,hn=>by
   show lstF (if n≤d then min a d else a) n l≤c
   rcases List.mem_cons.1 h with rfl | h
   ·rw [if_pos hn]
    exact Nat.le_trans (lstF_le l _ n) (Nat.min_le_right _ _)
   ·exact lstF_all l _ n c h hn
theorem lstF_mem:∀(l:List Nat) (a n:Nat),lstF a n l=a∨(lstF a n l∈l∧n≤lstF a n l)
 | [],a,n=>.inl rfl
 | d::l,a,n=>by
   show lstF (if n≤d then min a d else a) n l=a∨(lstF (if n≤d then min a d else a) n l∈d::l∧n≤lstF (if n≤d then min a d else a) n l)
   rcases lstF_mem l (if n≤d then min a d else a) n with h | ⟨h1,h2⟩
   ·rw [h]
    split
    ·rename_i hd
     rcases Nat.le_total a d with g | g
     ·left;exact Nat.min_eq_left g
     ·right;rw [Nat.min_eq_right g];exact ⟨List.mem_cons_self,hd⟩
    ·exact .inl rfl
   ·exact .inr ⟨List.mem_cons_of_mem _ h1,h2⟩
def least (l:List Nat) (n:Nat):Nat:=lstF 2147483647 n l
def scanD (s plain:Nat):List Nat→Nat→Nat→Nat→List Nat×Nat×Nat×Nat
 | [],delta,bias,done=>([],delta,bias,done)
 | c::r,delta,bias,done =>
   if c < s then scanD s plain r (delta+1) bias done
   else if c=s then
    let x:=scanD s plain r 0 (adapt delta (done+1) (decide (done=plain))) (done+1)
    (num bias delta++x.1,x.2)
   else scanD s plain r delta bias done
theorem scanD_lt {s plain:Nat} {c:Nat} {r:List Nat} {delta bias done:Nat} (h:c < s):scanD s plain (c::r) delta bias done=scanD s plain r (delta+1) bias done:=by
 simp only [scanD];rw [if_pos h]
theorem scanD_eq {s plain:Nat} {r:List Nat} {delta bias done:Nat}:scanD s plain (s::r) delta bias done=(num bias delta++(scanD s plain r 0 (adapt delta (done+1) (decide (done=plain))) (done+1)).1,(scanD s plain r 0 (adapt delta (done+1) (decide (done=plain))) (done+1)).2):=by
 simp only [scanD];rw [if_neg (by omega),if_true]
theorem scanD_gt {s plain:Nat} {c:Nat} {r:List Nat} {delta bias done:Nat} (h:s < c):scanD s plain (c::r) delta bias done=scanD s plain r delta bias done:=by
 simp only [scanD];rw [if_neg (by omega),if_neg (by omega)]
def encD (l:List Nat) (plain:Nat):Nat→Nat→Nat→Nat→Nat→List Nat
 | 0,delta,bias,from_,done=>[]
 | f+1,delta,bias,from_,done =>
   if done < l.length then
    let s:=least l from_
    let x:=scanD s plain l (delta+(s-from_) * (done+1)) bias done
    x.1++encD l plain f (x.2.1+1) x.2.2.1 (s+1) x.2.2.2
   else []
theorem encD_stop (l:List Nat) (plain f delta bias n done:Nat) (h:l.length≤done):encD l plain f delta bias n done=[]:=by
 cases f with
 | zero=>rfl
 | succ f=>unfold encD;rw [if_neg (by omega)]
theorem scanD_lens (s plain:Nat):∀(r:List Nat) (delta bias done:Nat),(scanD s plain r delta bias done).1.length≤65 * r.countP (·==s)
 | [],delta,bias,done=>by simp [scanD]
 | c::r,delta,bias,done=>by
   rcases Nat.lt_trichotomy c s with h | h | h
   ·rw [scanD_lt h,List.countP_cons_of_neg (by simp;omega)];exact scanD_lens s plain r _ _ _
   ·subst h
    rw [scanD_eq,List.countP_cons_of_pos (by simp)]
    have:=scanD_lens c plain r 0 (adapt delta (done+1) (decide (done=plain))) (done+1)
    have h2:=(numF_len 64 36 bias delta).2
    simp only [List.length_append,num]
    omega
   ·rw [scanD_gt h,List.countP_cons_of_neg (by simp;omega)];exact scanD_lens s plain r _ _ _
theorem scanD_digits (s plain:Nat):∀(r:List Nat) (delta bias done:Nat),∀d∈(scanD s plain r delta bias done).1,d < 36
 | [],delta,bias,done=>by intro d hd;simp [scanD] at hd
 | c::r,delta,bias,done=>by
   rcases Nat.lt_trichotomy c s with h | h | h
   ·rw [scanD_lt h];exact scanD_digits s plain r _ _ _
   ·subst h
    rw [scanD_eq]
    intro d hd
    rcases List.mem_append.1 hd with g | g
    ·exact numF_lt _ _ _ _ d g
    ·exact scanD_digits c plain r _ _ _ d g
   ·rw [scanD_gt h];exact scanD_digits s plain r _ _ _
theorem encD_digits (l:List Nat) (plain:Nat):∀(f delta bias n done:Nat),∀d∈encD l plain f delta bias n done,d < 36
 | 0,delta,bias,n,done=>by intro d hd;simp [encD] at hd
 | f+1,delta,bias,n,done=>by
   unfold encD
   split
   ·intro d hd
    rcases List.mem_append.1 hd with g | g
    ·exact scanD_digits _ _ _ _ _ _ d g
    ·exact encD_digits l plain f _ _ _ _ d g
   ·intro d hd;cases hd
theorem countP_le_least {l:List Nat} {n s:Nat} (hs:∀c∈l,n≤c→s≤c) (hns:n≤s):l.countP (· < s)=l.countP (· < n):=by
 refine List.countP_congr fun c hc=>?_
 simp only [decide_eq_true_eq]
 have:=hs c hc
 omega
theorem countP_next (l:List Nat) (s:Nat):l.countP (· < s+1)=l.countP (· < s)+l.countP (·==s):=by
 induction l with
 | nil=>rfl
 | cons c l ih =>
   simp only [List.countP_cons,ih]
   simp only [decide_eq_true_eq,beq_iff_eq]
   split<;>split<;>split<;>omega
theorem least_spec {l:List Nat} {n:Nat} (hl:∀c∈l,c≤1114111) (hd:l.countP (· < n) < l.length):least l n∈l∧n≤least l n∧least l n≤1114111∧∀c∈l,n≤c→least l n≤c:=by
 obtain ⟨c,hc,hn⟩:∃c∈l,n≤c:=by
  rcases Classical.em (∃c∈l,n≤c) with h | h
  ·exact h
  ·exfalso
   have:l.countP (· < n)=l.length:=by
    rw [List.countP_eq_length]
    intro c hc
    simp only [decide_eq_true_eq]
    rcases Nat.lt_or_ge c n with g | g
    ·exact g
    ·exact absurd ⟨c,hc,g⟩ h
   omega
 have h1:=lstF_all l 2147483647 n c hc hn
 have h2:=hl c hc
 rcases lstF_mem l 2147483647 n with g | ⟨g1,g2⟩
 ·omega
 ·exact ⟨g1,g2,hl _ g1,fun c hc hn=>lstF_all l _ n c hc hn⟩
def insF:Nat→List Nat→List (Option Nat)→Nat→Nat→Nat→Bool→Option (List Nat)
 | 0,out,ds,sign,at_,bias,first=>if ds=[] then some out else none
 | f+1,out,ds,sign,at_,bias,first =>
   if ds=[] then some out
   else if 256≤out.length then none
   else match rd ds at_ 1 36 bias with
    | none=>none
    | some (to,rest) =>
      if isS ((sign+to/(out.length+1):Nat):Int)=true then
       insF f (out.take (to%(out.length+1))++(sign+to/(out.length+1))::out.drop (to%(out.length+1))) rest (sign+to/(out.length+1)) (to%(out.length+1)+1) (adapt (to-at_) (out.length+1) first) false
      else none
theorem insF_succ (f:Nat) (out:List Nat) (ds:List (Option Nat)) (sign at_ bias:Nat) (first:Bool):insF (f+1) out ds sign at_ bias first =
 if ds=[] then some out
 else if 256≤out.length then none
 else match rd ds at_ 1 36 bias with
  | none=>none
  | some (to,rest) =>
    if isS ((sign+to/(out.length+1):Nat):Int)=true then
     insF f (out.take (to%(out.length+1))++(sign+to/(out.length+1))::out.drop (to%(out.length+1))) rest (sign+to/(out.length+1)) (to%(out.length+1)+1) (adapt (to-at_) (out.length+1) first) false
    else none:=rfl
theorem insF_nil (f:Nat) (out:List Nat) (s a b:Nat) (fl:Bool):insF f out [] s a b fl=some out:=by cases f<;>simp [insF]
theorem insF_step {f:Nat} {out A B:List Nat} {s p nd id delta bias:Nat} {fl:Bool} {T:List (Option Nat)} (ho:out=A++B) (hA:A.length=p) (hlen:out.length < 256) (hs:isS (s:Int)=true)
 (heq:nd * (out.length+1)+id+delta=s * (out.length+1)+p) (hnd:nd≤s) (hid:id≤out.length) :
 insF (f+1) out ((num bias delta).map some++T) nd id bias fl=insF f (A++s::B) T s (p+1) (adapt delta (out.length+1) fl) false:=by
 have hs1:s≤1114111:=by have:=isS_iff.1 hs;omega
 have hp:p≤out.length:=by rw [ho];simp;omega
 obtain ⟨m,rfl⟩:∃m,s=nd+m:=⟨s-nd,by omega⟩
 have hto:id+delta=m * (out.length+1)+p:=by rw [Nat.add_mul] at heq;omega
 have hm:m * (out.length+1)≤1114111 * 256:=Nat.mul_le_mul (by omega) (by omega)
 have hne:¬((num bias delta).map some++T=[]):=by
  have:=(numF_len 64 36 bias delta).1
  intro h
  have h2:=congrArg List.length h
  rw [List.length_append,List.length_map] at h2
  simp only [List.length_nil,num] at h2
  omega
 rw [insF_succ,if_neg hne,if_neg (by omega),rd_back bias delta id T (by omega)]
 have e1:(id+delta)/(out.length+1)=m:=by rw [hto,Nat.add_comm,Nat.add_mul_div_right _ _ (by omega),Nat.div_eq_of_lt (by omega)];omega
 have e2:(id+delta)%(out.length+1)=p:=by rw [hto,Nat.add_comm,Nat.add_mul_mod_self_right,Nat.mod_eq_of_lt (by omega)]
 have e3:id+delta-id=delta:=by omega
 simp only [e1,e2,e3]
 rw [if_pos hs]
 have t1:out.take p=A:=by rw [ho,← hA];exact List.take_left
 have t2:out.drop p=B:=by rw [ho,← hA];exact List.drop_left
 rw [t1,t2]
theorem filter_le_len (l:List Nat) (p:Nat→Bool):(l.filter p).length≤l.length:=List.length_filter_le _ _
theorem scan_back (s plain:Nat) (hs:isS (s:Int)=true) (T:List (Option Nat)):∀(r p:List Nat) (delta bias nd id f:Nat),(p++r).length≤256→nd≤s→id≤(p.filter (·≤s)++r.filter (· < s)).length →
 plain≤(p.filter (·≤s)++r.filter (· < s)).length →
 nd * ((p.filter (·≤s)++r.filter (· < s)).length+1)+id+delta=s * ((p.filter (·≤s)++r.filter (· < s)).length+1)+(p.filter (·≤s)).length →
 ((scanD s plain r delta bias (p.filter (·≤s)++r.filter (· < s)).length).1.map some++T).length≤f →
 ∃nd' id' f',insF f (p.filter (·≤s)++r.filter (· < s)) ((scanD s plain r delta bias (p.filter (·≤s)++r.filter (· < s)).length).1.map some++T) nd id bias (decide ((p.filter (·≤s)++r.filter (· < s)).length=plain))
  = insF f' ((p++r).filter (·≤s)) T nd' id' (scanD s plain r delta bias (p.filter (·≤s)++r.filter (· < s)).length).2.2.1 (decide (((p++r).filter (·≤s)).length=plain)) ∧
  nd'≤s∧id'≤((p++r).filter (·≤s)).length∧T.length≤f' ∧
  nd' * (((p++r).filter (·≤s)).length+1)+id'+(scanD s plain r delta bias (p.filter (·≤s)++r.filter (· < s)).length).2.1=s * (((p++r).filter (·≤s)).length+1)+((p++r).filter (·≤s)).length ∧
  (scanD s plain r delta bias (p.filter (·≤s)++r.filter (· < s)).length).2.2.2=((p++r).filter (·≤s)).length
 | [],p,delta,bias,nd,id,f,hl,hnd,hid,hpl,heq,hf=>by
   simp only [List.append_nil,List.filter_nil,scanD,List.map_nil,List.nil_append] at *
   exact ⟨nd,id,f,rfl,hnd,hid,hf,heq,trivial⟩
 | c::r,p,delta,bias,nd,id,f,hl,hnd,hid,hpl,heq,hf=>by
   have happ:p++c::r=(p++[c])++r:=by simp
   rw [happ] at hl ⊢
   rcases Nat.lt_trichotomy c s with h | h | h
   ·have e1:(p++[c]).filter (·≤s)=p.filter (·≤s)++[c]:=by rw [List.filter_append];simp;omega
    have e2:(c::r).filter (· < s)=c::r.filter (· < s):=by rw [List.filter_cons_of_pos (by simpa using h)]
    have e3:p.filter (·≤s)++(c::r).filter (· < s)=(p++[c]).filter (·≤s)++r.filter (· < s):=by rw [e1,e2];simp
    rw [scanD_lt h] at hf ⊢
    rw [e3] at hid hpl heq hf ⊢
    exact scan_back s plain hs T r (p++[c]) (delta+1) bias nd id f hl hnd hid hpl (by rw [show ((p++[c]).filter (·≤s)).length=(p.filter (·≤s)).length+1 by rw [e1];simp];omega) hf
   ·subst h
    have e1:(p++[c]).filter (·≤c)=p.filter (·≤c)++[c]:=by rw [List.filter_append];simp
    have e2:(c::r).filter (· < c)=r.filter (· < c):=by rw [List.filter_cons_of_neg (by simp)]
    have e3:(p++[c]).filter (·≤c)++r.filter (· < c)=p.filter (·≤c)++c::r.filter (· < c):=by rw [e1];simp
    have e4:((p++[c]).filter (·≤c)++r.filter (· < c)).length=(p.filter (·≤c)++r.filter (· < c)).length+1:=by rw [e3];simp;omega
    have hlt:(p.filter (·≤c)++r.filter (· < c)).length < 256:=by
     have h1:=filter_le_len p (·≤c)
     have h2:=filter_le_len r (· < c)
     simp at hl h1 h2 ⊢;omega
    rw [e2] at hid hpl heq hf ⊢
    rw [scanD_eq] at hf ⊢
    have ha:∀X:List Nat,(num bias delta++X).map some++T=(num bias delta).map some++(X.map some++T):=fun X=>by simp
    simp only [ha] at hf ⊢
    obtain ⟨g,rfl⟩:∃g,f=g+1:=by
     have:=(numF_len 64 36 bias delta).1
     simp only [List.length_append,List.length_map,num] at hf
     exact ⟨f-1,by omega⟩
    rw [insF_step (s:=c) rfl rfl hlt hs heq hnd hid]
    rw [← e3]
    have hx:=scan_back c plain hs T r (p++[c]) 0 (adapt delta ((p.filter (·≤c)++r.filter (· < c)).length+1) (decide ((p.filter (·≤c)++r.filter (· < c)).length=plain))) c ((p.filter (·≤c)).length+1) g hl (Nat.le_refl _)
     (by rw [e4];simp) (by rw [e4];omega) (by rw [show ((p++[c]).filter (·≤c)).length=(p.filter (·≤c)).length+1 by rw [e1];simp];omega)
     (by rw [e4]
         have:=(numF_len 64 36 bias delta).1
         simp only [List.length_append,List.length_map,num] at hf ⊢
         omega)
    rw [e4] at hx
    rw [show decide ((p.filter (·≤c)++r.filter (· < c)).length+1=plain)=false from decide_eq_false (by omega)] at hx
    exact hx
   ·have e1:(p++[c]).filter (·≤s)=p.filter (·≤s):=by rw [List.filter_append];simp;omega
    have e2:(c::r).filter (· < s)=r.filter (· < s):=by rw [List.filter_cons_of_neg (by simp;omega)]
    have e3:p.filter (·≤s)++(c::r).filter (· < s)=(p++[c]).filter (·≤s)++r.filter (· < s):=by rw [e1,e2]
    rw [scanD_gt h] at hf ⊢
    rw [e3] at hid hpl heq hf ⊢
    exact scan_back s plain hs T r (p++[c]) delta bias nd id f hl hnd hid hpl (by rw [e1] at heq ⊢;exact heq) hf
theorem filter_all {l:List Nat} {n:Nat} (h:l.length≤(l.filter (· < n)).length):l.filter (· < n)=l:=by
 refine List.filter_eq_self.2 ?_
 have:=List.length_filter_eq_length_iff (p:=fun c=>decide (c < n)) (l:=l)
 exact this.1 (Nat.le_antisymm (List.length_filter_le _ _) h)
theorem enc_back (l:List Nat) (plain:Nat) (hl:l.length≤256) (hS:∀c∈l,isS (c:Int)=true):∀(g n delta bias nd id f:Nat),l.length≤(l.filter (· < n)).length+g→nd≤n→id≤(l.filter (· < n)).length→plain≤(l.filter (· < n)).length →
 nd * ((l.filter (· < n)).length+1)+id+delta=n * ((l.filter (· < n)).length+1) →
 ((encD l plain g delta bias n (l.filter (· < n)).length).map some).length≤f →
 insF f (l.filter (· < n)) ((encD l plain g delta bias n (l.filter (· < n)).length).map some) nd id bias (decide ((l.filter (· < n)).length=plain))=some l
 | 0,n,delta,bias,nd,id,f,hg,hnd,hid,hpl,heq,hf=>by
   rw [filter_all (by omega)]
   exact insF_nil _ _ _ _ _ _
 | g+1,n,delta,bias,nd,id,f,hg,hnd,hid,hpl,heq,hf=>by
   by_cases hlt:(l.filter (· < n)).length < l.length
   ·have hU:∀c∈l,c≤1114111:=fun c hc=>by have:=isS_iff.1 (hS c hc);omega
    have hsp:=least_spec (n:=n) hU (by rw [List.countP_eq_length_filter];exact hlt)
    unfold encD at hf ⊢
    rw [if_pos hlt] at hf ⊢
    simp only at hf ⊢
    generalize least l n=s at *
    obtain ⟨s1,s2,s3,s4⟩:=hsp
    have e0:l.filter (· < s)=l.filter (· < n):=by
     refine List.filter_congr fun c hc=>?_
     have:=s4 c hc
     by_cases hcn:c < n
     ·simp;omega
     ·simp [hcn];omega
    have e5:l.filter (·≤s)=l.filter (· < s+1):=by
     refine List.filter_congr fun c hc=>?_
     simp;omega
    rw [List.map_append] at hf ⊢
    obtain ⟨m,rfl⟩:∃m,s=n+m:=⟨s-n,by omega⟩
    have e6:n+m-n=m:=by omega
    rw [e6] at hf ⊢
    have hx:=scan_back (n+m) plain (hS _ s1)
     ((encD l plain g ((scanD (n+m) plain l (delta+m * ((l.filter (· < n)).length+1)) bias (l.filter (· < n)).length).2.1+1) (scanD (n+m) plain l (delta+m * ((l.filter (· < n)).length+1)) bias (l.filter (· < n)).length).2.2.1 (n+m+1) (scanD (n+m) plain l (delta+m * ((l.filter (· < n)).length+1)) bias (l.filter (· < n)).length).2.2.2).map some)
     l [] (delta+m * ((l.filter (· < n)).length+1)) bias nd id f (by simpa using hl) (by omega)
    simp only [List.filter_nil,List.nil_append,e0,List.length_nil,Nat.add_zero] at hx
    obtain ⟨nd',id',f',h1,h2,h3,h4,h5,h6⟩:=hx hid hpl (by rw [Nat.add_mul];omega) hf
    rw [h1]
    simp only [e5] at h3 h5 h6 ⊢
    rw [h6] at h4 ⊢
    have hgrow:(l.filter (· < n)).length < (l.filter (· < n+m+1)).length:=by
     have k1:=countP_next l (n+m)
     have k2:0 < l.countP (·==n+m):=List.countP_pos_iff.2 ⟨_,s1,by simp⟩
     rw [List.countP_eq_length_filter,List.countP_eq_length_filter (p:=fun x=>decide (x < n+m)),e0] at k1
     omega
    exact enc_back l plain hl hS g (n+m+1) _ _ nd' id' f' (by omega) (by omega) h3 (by omega) (by rw [Nat.add_mul (n+m) 1];omega) h4
   ·have hz:=filter_all (n:=n) (l:=l) (by omega)
    rw [encD_stop _ _ _ _ _ _ _ (by omega),hz]
    exact insF_nil _ _ _ _ _ _
abbrev Rule:=Int×Int×Bool×Int×Int×Int
def rules:List Rule :=
 [(173,173,false,3,0,0),
  (8203,8203,false,3,0,0),
  (8288,8288,false,3,0,0),
  (65024,65039,false,3,0,0),
  (65279,65279,false,3,0,0),
  (128,160,false,4,0,0),
  (57344,63743,false,4,0,0),
  (64976,65007,false,4,0,0),
  (983040,1114111,false,4,0,0),
  (65,90,false,2,97,0),
  (192,214,false,2,224,0),
  (216,222,false,2,248,0),
  (913,929,false,2,945,0),
  (931,937,false,2,963,0),
  (1024,1039,false,2,1104,0),
  (1040,1071,false,2,1072,0),
  (304,304,false,2,105,775),
  (256,311,true,2,257,0),
  (313,328,true,2,314,0),
  (329,329,false,2,700,110),
  (330,375,true,2,331,0),
  (376,376,false,2,255,0),
  (377,382,true,2,378,0),
  (383,383,false,2,115,0),
  (12290,12290,false,2,46,0),
  (65377,65377,false,2,46,0),
  (65313,65338,false,2,97,0),
  (65281,65374,false,2,33,0),
  (170,170,false,2,97,0),
  (178,179,false,2,50,0),
  (185,185,false,2,49,0),
  (186,186,false,2,111,0),
  (9312,9320,false,2,49,0),
  (8462,8462,false,2,104,0)]
def cellsR (r:Rule):List Value:=[.int .i64 r.1,.int .i64 r.2.1,.bool r.2.2.1,.int .i64 r.2.2.2.1,.int .i64 r.2.2.2.2.1,.int .i64 r.2.2.2.2.2]
def tabCells:Array Value:=(rules.flatMap cellsR).toArray
def fitsR (r:Rule) (c:Int):Bool:=decide (r.1≤c)&&(decide (c≤r.2.1)&&(!r.2.2.1||decide ((c-r.1)%2=0)))
def barred (c:Int):Bool:=!isS c||decide (65534≤c%65536)
def ruleOf (c:Int):Rule:=if barred c then (0,0,false,4,0,0) else (rules.find? (fitsR · c)).getD (0,0,false,1,0,0)
def kindOf (c:Int):Int:=(ruleOf c).2.2.2.1
def signs (r:Rule) (c:Int):List Int:=if r.2.2.2.1=1 then [c] else if r.2.2.2.1=2 then (if r.2.2.2.2.2=0 then [r.2.2.2.2.1+c-r.1] else [r.2.2.2.2.1+c-r.1,r.2.2.2.2.2]) else []
theorem rules_len:rules.length=34:=rfl
def DecAt (l:List UInt8) (o:List Int) (k:Nat):Prop:=decL l=(decL (l.drop k)).map (fun x=>o++x)∧badN l=k+badN (l.drop k)∧o.length≤k
def LosAt (l:List UInt8) (o:List Int) (k:Nat):Prop:=lossyL l=o++lossyL (l.drop k)∧o.length≤k
theorem LosAt.start (l:List UInt8):LosAt l [] 0:=⟨by simp,Nat.le_refl _⟩
theorem drop_ne {l:List UInt8} {k:Nat} (h:k < l.length):l.drop k≠[]:=by
 intro e
 have:=congrArg List.length e
 rw [List.length_drop,List.length_nil] at this
 omega
theorem DecAt.done {l:List UInt8} {o:List Int} {k:Nat} (h:DecAt l o k) (hk:¬k < l.length):decL l=some o:=by
 rw [h.1,List.drop_eq_nil_of_le (by omega),dec_nil];simp
theorem LosAt.step {l:List UInt8} {o:List Int} {k:Nat} (h:LosAt l o k) (hk:k < l.length) {c n:Nat} {b:Bool} (hq:nextN (l.drop k)=(c,n,b)):LosAt l (o++[(c:Int)]) (k+n):=by
 have hne:=drop_ne hk
 have hs:=(next_size (l.drop k)).1
 rw [hq] at hs
 obtain ⟨h1,h3⟩:=h
 refine ⟨?_,by rw [List.length_append];simp only [List.length_cons,List.length_nil];simp only at hs;omega⟩
 rw [h1,lossy_cons hne,hq,List.drop_drop]
 simp
theorem LosAt.done {l:List UInt8} {o:List Int} {k:Nat} (h:LosAt l o k) (hk:¬k < l.length):lossyL l=o:=by
 rw [h.1,List.drop_eq_nil_of_le (by omega),lossy_nil,List.append_nil]
theorem next_fits {l:List UInt8} {k c n:Nat} {b:Bool} (hk:k < l.length) (hq:nextN (l.drop k)=(c,n,b)):1≤n∧k+n≤l.length∧c≤1114111:=by
 have hs:=next_size (l.drop k)
 have h2:=hs.2 (drop_ne hk)
 have hi:=isS_iff.1 (next_isS (l.drop k))
 rw [hq] at hs h2 hi
 rw [List.length_drop] at h2
 simp only at hs h2 hi
 omega
end Go.Proofs.YtigfgloenjoeoaaGreatDoor
