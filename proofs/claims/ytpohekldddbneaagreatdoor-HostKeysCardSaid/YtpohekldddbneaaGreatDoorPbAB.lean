import Derived.Test.YtpohekldddbneaaGreatDoorPbAA
set_option linter.unusedVariables false
set_option linter.unusedSimpArgs false
set_option maxRecDepth 20000
set_option maxHeartbeats 16000000
namespace Go.Proofs.YtpohekldddbneaaGreatDoor
def thr (k bias:Nat):Nat:=min (max (k-bias) 1) 26
theorem thr_ge (k b:Nat):1≤thr k b:=by unfold thr;omega
theorem thr_le (k b:Nat):thr k b≤26:=by unfold thr;omega
def adF:Nat→Nat→Nat→Nat
 | 0,d,b=>b+36 * d/(d+38)
 | f+1,d,b=>if 455 < d then adF f (d/35) (b+36) else b+36 * d/(d+38)
def adapt (d c:Nat) (first:Bool):Nat:=adF 64 ((if first then d/700 else d/2)+(if first then d/700 else d/2)/c) 0
theorem frac_le (d:Nat):36 * d/(d+38)≤36:=by
 have:36 * d/(d+38)≤36 * (d+38)/(d+38):=Nat.div_le_div_right (by omega)
 rwa [Nat.mul_div_cancel _ (by omega)] at this
theorem adF_le:∀f d b,adF f d b≤b+36 * f+36
 | 0,d,b=>by unfold adF;have:=frac_le d;omega
 | f+1,d,b=>by
   unfold adF
   split
   ·have:=adF_le f (d/35) (b+36);omega
   ·have:=frac_le d;omega
theorem adapt_le (d c:Nat) (f:Bool):adapt d c f≤2340:=by unfold adapt;exact Nat.le_trans (adF_le _ _ _) (by decide)
def numF:Nat→Nat→Nat→Nat→List Nat
 | 0,k,b,n=>[n%36]
 | f+1,k,b,n=>if n < thr k b then [n] else (thr k b+(n-thr k b)%(36-thr k b))::numF f (k+36) b ((n-thr k b)/(36-thr k b))
theorem num_less {n t f:Nat} (h:n < 2^(f+1)) (h1:1≤t) (h2:t≤26):(n-t)/(36-t) < 2^f:=by
 have h3:(n-t)/(36-t)≤(n-t)/2:=Nat.div_le_div_left (by omega) (by omega)
 rw [Nat.pow_succ] at h
 omega
theorem numF_lt:∀f k b n,∀d∈numF f k b n,d < 36
 | 0,k,b,n=>by intro d hd;simp [numF] at hd;omega
 | f+1,k,b,n=>by
   have h1:=thr_ge k b
   have h2:=thr_le k b
   unfold numF
   split
   ·intro d hd;rw [List.mem_singleton] at hd;omega
   ·intro d hd
    rcases List.mem_cons.1 hd with rfl | hd
    ·have:=Nat.mod_lt (n-thr k b) (y:=36-thr k b) (by omega);omega
    ·exact numF_lt f _ _ _ d hd
theorem numF_len:∀f k b n,1≤(numF f k b n).length∧(numF f k b n).length≤f+1
 | 0,k,b,n=>by simp [numF]
 | f+1,k,b,n=>by
   unfold numF
   split
   ·simp
   ·have:=numF_len f (k+36) b ((n-thr k b)/(36-thr k b));simp;omega
def num (b n:Nat):List Nat:=numF 64 36 b n
def most:Nat:=2147483647
def rd:List (Option Nat)→Nat→Nat→Nat→Nat→Option (Nat×List (Option Nat))
 | [],n,w,k,b=>none
 | none::r,n,w,k,b=>none
 | some d::r,n,w,k,b=>if most < w∨(most-n)/w < d then none else if d < thr k b then some (n+d * w,r) else rd r (n+d * w) (w * (36-thr k b)) (k+36) b
theorem rd_len:∀l n w k b m r,rd l n w k b=some (m,r)→r.length < l.length
 | [],n,w,k,b,m,r,h=>by simp [rd] at h
 | none::l,n,w,k,b,m,r,h=>by simp [rd] at h
 | some d::l,n,w,k,b,m,r,h=>by
   unfold rd at h
   split at h
   ·cases h
   ·split at h
    ·injection h with h;injection h with h1 h2;subst h2;simp
    ·have:=rd_len l _ _ _ _ _ _ h;simp;omega
theorem rd_le:∀l n w k b m r,rd l n w k b=some (m,r)→1≤w→n≤most→n≤m∧m≤most
 | [],n,w,k,b,m,r,h,_,_=>by simp [rd] at h
 | none::l,n,w,k,b,m,r,h,_,_=>by simp [rd] at h
 | some d::l,n,w,k,b,m,r,h,hw,hn=>by
   unfold rd at h
   split at h
   ·cases h
   ·rename_i hx
    have hd:d * w≤most-n:=by
     have:d≤(most-n)/w:=by omega
     exact (Nat.le_div_iff_mul_le (by omega)).1 this
    split at h
    ·injection h with h;injection h with h1 h2;omega
    ·have h1:=thr_le k b
     have:=rd_le l _ _ _ _ _ _ h (Nat.mul_pos (by omega) (by omega)) (by omega)
     omega
theorem rd_num_step {n t w acc:Nat} (hn:t≤n) (h1:1≤t) (h2:t≤26):acc+(t+(n-t)%(36-t)) * w+(n-t)/(36-t) * (w * (36-t))=acc+n * w:=by
 have h:=Nat.div_add_mod (n-t) (36-t)
 have e:n=t+(n-t)%(36-t)+(36-t) * ((n-t)/(36-t)):=by omega
 generalize (n-t)%(36-t)=a at *
 generalize (n-t)/(36-t)=q at *
 rw [e,Nat.add_assoc acc,Nat.add_mul (t+a)]
 congr 2
 rw [Nat.mul_comm (36-t) q,Nat.mul_assoc,Nat.mul_comm w]
theorem pow35 {j:Nat} (h:35^j≤700000000):35^j≤52521875:=by
 rcases Nat.lt_or_ge j 6 with g | g
 ·exact Nat.le_trans (Nat.pow_le_pow_right (by decide) (by omega:j≤5)) (by decide)
 ·have:=Nat.pow_le_pow_right (n:=35) (by decide) g
  have e:35^6=1838265625:=by decide
  omega
theorem rd_num (b:Nat):∀f n k w acc rest,n < 2^f→w≤most→1≤w→(b+26≤k∨∃j,w=35^j)→acc+n * w≤700000000 →
 rd ((numF f k b n).map some++rest) acc w k b=some (acc+n * w,rest)
 | 0,n,k,w,acc,rest,h,hw,hw1,hk,hB=>by
   have hn:n=0:=by simpa using h
   subst hn
   have:=thr_ge k b
   simp [numF,rd]
   exact ⟨hw,by omega⟩
 | f+1,n,k,w,acc,rest,h,hw,hw1,hk,hB=>by
   have t1:=thr_ge k b
   have t2:=thr_le k b
   unfold numF
   by_cases hlt:n < thr k b
   ·rw [if_pos hlt]
    have hd:¬((most-acc)/w < n):=by
     have:n≤(most-acc)/w:=(Nat.le_div_iff_mul_le (by omega)).2 (by unfold most;omega)
     omega
    simp only [List.map_cons,List.map_nil,List.cons_append,List.nil_append,rd]
    rw [if_neg (by omega),if_pos hlt]
   ·rw [if_neg hlt]
    have hst:=rd_num_step (acc:=acc) (w:=w) (by omega:thr k b≤n) t1 t2
    have hdn:thr k b+(n-thr k b)%(36-thr k b)≤n:=by have:=Nat.mod_le (n-thr k b) (36-thr k b);omega
    have hdw:(thr k b+(n-thr k b)%(36-thr k b)) * w≤n * w:=Nat.mul_le_mul_right _ hdn
    have hd:¬((most-acc)/w < thr k b+(n-thr k b)%(36-thr k b)):=by
     have:thr k b+(n-thr k b)%(36-thr k b)≤(most-acc)/w:=(Nat.le_div_iff_mul_le (by omega)).2 (by unfold most;omega)
     omega
    have htw:thr k b * w≤n * w:=Nat.mul_le_mul_right _ (by omega)
    simp only [List.map_cons,List.cons_append,rd]
    rw [if_neg (by omega),if_neg (by omega)]
    have hk':w * (36-thr k b)≤most∧(b+26≤k+36∨∃j,w * (36-thr k b)=35^j):=by
     rcases Nat.lt_or_ge k (b+26) with g | g
     ·rcases hk with hk | ⟨j,rfl⟩
      ·omega
      ·have hw2:35^j≤700000000:=by
        have:1 * 35^j≤thr k b * 35^j:=Nat.mul_le_mul_right _ t1
        omega
       have hw3:=pow35 hw2
       have hw4:35^j * (36-thr k b)≤52521875 * 35:=Nat.mul_le_mul hw3 (by omega)
       refine ⟨by unfold most;omega,?_⟩
       rcases Nat.lt_or_ge (b+1) k with g2 | g2
       ·left;omega
       ·right
        refine ⟨j+1,?_⟩
        have:thr k b=1:=by unfold thr;omega
        rw [this,Nat.pow_succ]
     ·have:thr k b=26:=by unfold thr;omega
      rw [this] at htw ⊢
      exact ⟨by unfold most;omega,.inl (by omega)⟩
    rw [rd_num b f _ _ _ _ rest (num_less h t1 t2) hk'.1 (Nat.mul_pos (by omega) (by omega)) hk'.2 (by rw [hst];exact hB),hst]
theorem rd_back (b n acc:Nat) (rest:List (Option Nat)) (h:acc+n≤700000000):rd ((num b n).map some++rest) acc 1 36 b=some (acc+n,rest):=by
 have:=rd_num b 64 n 36 1 acc rest (Nat.lt_of_le_of_lt (by omega:n≤700000000) (by decide)) (by decide) (by decide) (.inr ⟨0,rfl⟩) (by omega)
 rwa [Nat.mul_one] at this
def lstF (a from_:Nat) (l:List Nat):Nat:=l.foldl (fun a c=>if from_≤c then min a c else a) a
theorem lstF_le:∀(l:List Nat) (a n:Nat),lstF a n l≤a
 | [],a,n=>Nat.le_refl _
 | c::l,a,n=>by
   show lstF (if n≤c then min a c else a) n l≤a
   refine Nat.le_trans (lstF_le l _ n) ?_
   split
   ·exact Nat.min_le_left _ _
   ·exact Nat.le_refl _
theorem lstF_all:∀(l:List Nat) (a n c:Nat),c∈l→n≤c→lstF a n l≤c
 | [],a,n,c,h,_=>by cases h
 | d::l,a,n,c,h,hn=>by
   show lstF (if n≤d then min a d else a) n l≤c
   rcases List.mem_cons.1 h with rfl | h
   ·rw [if_pos hn]
    exact Nat.le_trans (lstF_le l _ n) (Nat.min_le_right _ _)
   ·exact lstF_all l _ n c h hn
theorem lstF_mem:∀(l:List Nat) (a n:Nat),lstF a n l=a∨(lstF a n l∈l∧n≤lstF a n l)
 | [],a,n=>.inl rfl
 | d::l,a,n=>by
   show lstF (if n≤d then min a d else a) n l=a∨(lstF (if n≤d then min a d else a) n l∈d::l∧n≤lstF (if n≤d then min a d else a) n l)
   rcases lstF_mem l (if n≤d then min a d else a) n with h | ⟨h1,h2⟩
   ·rw [h]
    split
    ·rename_i hd
     rcases Nat.le_total a d with g | g
     ·left;exact Nat.min_eq_left g
     ·right;rw [Nat.min_eq_right g];exact ⟨List.mem_cons_self,hd⟩
    ·exact .inl rfl
   ·exact .inr ⟨List.mem_cons_of_mem _ h1,h2⟩
def least (l:List Nat) (n:Nat):Nat:=lstF 2147483647 n l
def scanD (s plain:Nat):List Nat→Nat→Nat→Nat→List Nat×Nat×Nat×Nat
 | [],delta,bias,done=>([],delta,bias,done)
 | c::r,delta,bias,done =>
   if c < s then scanD s plain r (delta+1) bias done
   else if c=s then
    let x:=scanD s plain r 0 (adapt delta (done+1) (decide (done=plain))) (done+1)
    (num bias delta++x.1,x.2)
   else scanD s plain r delta bias done
theorem scanD_lt {s plain:Nat} {c:Nat} {r:List Nat} {delta bias done:Nat} (h:c < s):scanD s plain (c::r) delta bias done=scanD s plain r (delta+1) bias done:=by
 simp only [scanD];rw [if_pos h]
theorem scanD_eq {s plain:Nat} {r:List Nat} {delta bias done:Nat}:scanD s plain (s::r) delta bias done=(num bias delta++(scanD s plain r 0 (adapt delta (done+1) (decide (done=plain))) (done+1)).1,(scanD s plain r 0 (adapt delta (done+1) (decide (done=plain))) (done+1)).2):=by
 simp only [scanD];rw [if_neg (by omega),if_true]
theorem scanD_gt {s plain:Nat} {c:Nat} {r:List Nat} {delta bias done:Nat} (h:s < c):scanD s plain (c::r) delta bias done=scanD s plain r delta bias done:=by
 simp only [scanD];rw [if_neg (by omega),if_neg (by omega)]
def encD (l:List Nat) (plain:Nat):Nat→Nat→Nat→Nat→Nat→List Nat
 | 0,delta,bias,from_,done=>[]
 | f+1,delta,bias,from_,done =>
   if done < l.length then
    let s:=least l from_
    let x:=scanD s plain l (delta+(s-from_) * (done+1)) bias done
    x.1++encD l plain f (x.2.1+1) x.2.2.1 (s+1) x.2.2.2
   else []
theorem encD_stop (l:List Nat) (plain f delta bias n done:Nat) (h:l.length≤done):encD l plain f delta bias n done=[]:=by
 cases f with
 | zero=>rfl
 | succ f=>unfold encD;rw [if_neg (by omega)]
theorem scanD_lens (s plain:Nat):∀(r:List Nat) (delta bias done:Nat),(scanD s plain r delta bias done).1.length≤65 * r.countP (·==s)
 | [],delta,bias,done=>by simp [scanD]
 | c::r,delta,bias,done=>by
   rcases Nat.lt_trichotomy c s with h | h | h
   ·rw [scanD_lt h,List.countP_cons_of_neg (by simp;omega)];exact scanD_lens s plain r _ _ _
   ·subst h
    rw [scanD_eq,List.countP_cons_of_pos (by simp)]
    have:=scanD_lens c plain r 0 (adapt delta (done+1) (decide (done=plain))) (done+1)
    have h2:=(numF_len 64 36 bias delta).2
    simp only [List.length_append,num]
    omega
   ·rw [scanD_gt h,List.countP_cons_of_neg (by simp;omega)];exact scanD_lens s plain r _ _ _
theorem scanD_digits (s plain:Nat):∀(r:List Nat) (delta bias done:Nat),∀d∈(scanD s plain r delta bias done).1,d < 36
 | [],delta,bias,done=>by intro d hd;simp [scanD] at hd
 | c::r,delta,bias,done=>by
   rcases Nat.lt_trichotomy c s with h | h | h
   ·rw [scanD_lt h];exact scanD_digits s plain r _ _ _
   ·subst h
    rw [scanD_eq]
    intro d hd
    rcases List.mem_append.1 hd with g | g
    ·exact numF_lt _ _ _ _ d g
    ·exact scanD_digits c plain r _ _ _ d g
   ·rw [scanD_gt h];exact scanD_digits s plain r _ _ _
theorem encD_digits (l:List Nat) (plain:Nat):∀(f delta bias n done:Nat),∀d∈encD l plain f delta bias n done,d < 36
 | 0,delta,bias,n,done=>by intro d hd;simp [encD] at hd
 | f+1,delta,bias,n,done=>by
   unfold encD
   split
   ·intro d hd
    rcases List.mem_append.1 hd with g | g
    ·exact scanD_digits _ _ _ _ _ _ d g
    ·exact encD_digits l plain f _ _ _ _ d g
   ·intro d hd;cases hd
theorem countP_le_least {l:List Nat} {n s:Nat} (hs:∀c∈l,n≤c→s≤c) (hns:n≤s):l.countP (· < s)=l.countP (· < n):=by
 refine List.countP_congr fun c hc=>?_
 simp only [decide_eq_true_eq]
 have:=hs c hc
 omega
theorem countP_next (l:List Nat) (s:Nat):l.countP (· < s+1)=l.countP (· < s)+l.countP (·==s):=by
 induction l with
 | nil=>rfl
 | cons c l ih =>
   simp only [List.countP_cons,ih]
   simp only [decide_eq_true_eq,beq_iff_eq]
   split<;>split<;>split<;>omega
theorem least_spec {l:List Nat} {n:Nat} (hl:∀c∈l,c≤1114111) (hd:l.countP (· < n) < l.length):least l n∈l∧n≤least l n∧least l n≤1114111∧∀c∈l,n≤c→least l n≤c:=by
 obtain ⟨c,hc,hn⟩:∃c∈l,n≤c:=by
  rcases Classical.em (∃c∈l,n≤c) with h | h
  ·exact h
  ·exfalso
   have:l.countP (· < n)=l.length:=by
    rw [List.countP_eq_length]
    intro c hc
    simp only [decide_eq_true_eq]
    rcases Nat.lt_or_ge c n with g | g
    ·exact g
    ·exact absurd ⟨c,hc,g⟩ h
   omega
 have h1:=lstF_all l 2147483647 n c hc hn
 have h2:=hl c hc
 rcases lstF_mem l 2147483647 n with g | ⟨g1,g2⟩
 ·omega
 ·exact ⟨g1,g2,hl _ g1,fun c hc hn=>lstF_all l _ n c hc hn⟩
def insF:Nat→List Nat→List (Option Nat)→Nat→Nat→Nat→Bool→Option (List Nat)
 | 0,out,ds,sign,at_,bias,first=>if ds=[] then some out else none
 | f+1,out,ds,sign,at_,bias,first =>
   if ds=[] then some out
   else if 256≤out.length then none
   else match rd ds at_ 1 36 bias with
    | none=>none
    | some (to,rest) =>
      if isS ((sign+to/(out.length+1):Nat):Int)=true then
       insF f (out.take (to%(out.length+1))++(sign+to/(out.length+1))::out.drop (to%(out.length+1))) rest (sign+to/(out.length+1)) (to%(out.length+1)+1) (adapt (to-at_) (out.length+1) first) false
      else none
theorem insF_succ (f:Nat) (out:List Nat) (ds:List (Option Nat)) (sign at_ bias:Nat) (first:Bool):insF (f+1) out ds sign at_ bias first =
 if ds=[] then some out
 else if 256≤out.length then none
 else match rd ds at_ 1 36 bias with
  | none=>none
  | some (to,rest) =>
    if isS ((sign+to/(out.length+1):Nat):Int)=true then
     insF f (out.take (to%(out.length+1))++(sign+to/(out.length+1))::out.drop (to%(out.length+1))) rest (sign+to/(out.length+1)) (to%(out.length+1)+1) (adapt (to-at_) (out.length+1) first) false
    else none:=rfl
theorem insF_nil (f:Nat) (out:List Nat) (s a b:Nat) (fl:Bool):insF f out [] s a b fl=some out:=by cases f<;>simp [insF]
theorem insF_step {f:Nat} {out A B:List Nat} {s p nd id delta bias:Nat} {fl:Bool} {T:List (Option Nat)} (ho:out=A++B) (hA:A.length=p) (hlen:out.length < 256) (hs:isS (s:Int)=true)
 (heq:nd * (out.length+1)+id+delta=s * (out.length+1)+p) (hnd:nd≤s) (hid:id≤out.length) :
 insF (f+1) out ((num bias delta).map some++T) nd id bias fl=insF f (A++s::B) T s (p+1) (adapt delta (out.length+1) fl) false:=by
 have hs1:s≤1114111:=by have:=isS_iff.1 hs;omega
 have hp:p≤out.length:=by rw [ho];simp;omega
 obtain ⟨m,rfl⟩:∃m,s=nd+m:=⟨s-nd,by omega⟩
 have hto:id+delta=m * (out.length+1)+p:=by rw [Nat.add_mul] at heq;omega
 have hm:m * (out.length+1)≤1114111 * 256:=Nat.mul_le_mul (by omega) (by omega)
 have hne:¬((num bias delta).map some++T=[]):=by
  have:=(numF_len 64 36 bias delta).1
  intro h
  have h2:=congrArg List.length h
  rw [List.length_append,List.length_map] at h2
  simp only [List.length_nil,num] at h2
  omega
 rw [insF_succ,if_neg hne,if_neg (by omega),rd_back bias delta id T (by omega)]
 have e1:(id+delta)/(out.length+1)=m:=by rw [hto,Nat.add_comm,Nat.add_mul_div_right _ _ (by omega),Nat.div_eq_of_lt (by omega)];omega
 have e2:(id+delta)%(out.length+1)=p:=by rw [hto,Nat.add_comm,Nat.add_mul_mod_self_right,Nat.mod_eq_of_lt (by omega)]
 have e3:id+delta-id=delta:=by omega
 simp only [e1,e2,e3]
 rw [if_pos hs]
 have t1:out.take p=A:=by rw [ho,← hA];exact List.take_left
 have t2:out.drop p=B:=by rw [ho,← hA];exact List.drop_left
 rw [t1,t2]
theorem filter_le_len (l:List Nat) (p:Nat→Bool):(l.filter p).length≤l.length:=List.length_filter_le _ _
theorem scan_back (s plain:Nat) (hs:isS (s:Int)=true) (T:List (Option Nat)):∀(r p:List Nat) (delta bias nd id f:Nat),(p++r).length≤256→nd≤s→id≤(p.filter (·≤s)++r.filter (· < s)).length →
 plain≤(p.filter (·≤s)++r.filter (· < s)).length →
 nd * ((p.filter (·≤s)++r.filter (· < s)).length+1)+id+delta=s * ((p.filter (·≤s)++r.filter (· < s)).length+1)+(p.filter (·≤s)).length →
 ((scanD s plain r delta bias (p.filter (·≤s)++r.filter (· < s)).length).1.map some++T).length≤f →
 ∃nd' id' f',insF f (p.filter (·≤s)++r.filter (· < s)) ((scanD s plain r delta bias (p.filter (·≤s)++r.filter (· < s)).length).1.map some++T) nd id bias (decide ((p.filter (·≤s)++r.filter (· < s)).length=plain))
  = insF f' ((p++r).filter (·≤s)) T nd' id' (scanD s plain r delta bias (p.filter (·≤s)++r.filter (· < s)).length).2.2.1 (decide (((p++r).filter (·≤s)).length=plain)) ∧
  nd'≤s∧id'≤((p++r).filter (·≤s)).length∧T.length≤f' ∧
  nd' * (((p++r).filter (·≤s)).length+1)+id'+(scanD s plain r delta bias (p.filter (·≤s)++r.filter (· < s)).length).2.1=s * (((p++r).filter (·≤s)).length+1)+((p++r).filter (·≤s)).length ∧
  (scanD s plain r delta bias (p.filter (·≤s)++r.filter (· < s)).length).2.2.2=((p++r).filter (·≤s)).length
 | [],p,delta,bias,nd,id,f,hl,hnd,hid,hpl,heq,hf=>by
   simp only [List.append_nil,List.filter_nil,scanD,List.map_nil,List.nil_append] at *
   exact ⟨nd,id,f,rfl,hnd,hid,hf,heq,trivial⟩
 | c::r,p,delta,bias,nd,id,f,hl,hnd,hid,hpl,heq,hf=>by
   have happ:p++c::r=(p++[c])++r:=by simp
   rw [happ] at hl ⊢
   rcases Nat.lt_trichotomy c s with h | h | h
   ·have e1:(p++[c]).filter (·≤s)=p.filter (·≤s)++[c]:=by rw [List.filter_append];simp;omega
    have e2:(c::r).filter (· < s)=c::r.filter (· < s):=by rw [List.filter_cons_of_pos (by simpa using h)]
    have e3:p.filter (·≤s)++(c::r).filter (· < s)=(p++[c]).filter (·≤s)++r.filter (· < s):=by rw [e1,e2];simp
    rw [scanD_lt h] at hf ⊢
    rw [e3] at hid hpl heq hf ⊢
    exact scan_back s plain hs T r (p++[c]) (delta+1) bias nd id f hl hnd hid hpl (by rw [show ((p++[c]).filter (·≤s)).length=(p.filter (·≤s)).length+1 by rw [e1];simp];omega) hf
   ·subst h
    have e1:(p++[c]).filter (·≤c)=p.filter (·≤c)++[c]:=by rw [List.filter_append];simp
    have e2:(c::r).filter (· < c)=r.filter (· < c):=by rw [List.filter_cons_of_neg (by simp)]
    have e3:(p++[c]).filter (·≤c)++r.filter (· < c)=p.filter (·≤c)++c::r.filter (· < c):=by rw [e1];simp
    have e4:((p++[c]).filter (·≤c)++r.filter (· < c)).length=(p.filter (·≤c)++r.filter (· < c)).length+1:=by rw [e3];simp;omega
    have hlt:(p.filter (·≤c)++r.filter (· < c)).length < 256:=by
     have h1:=filter_le_len p (·≤c)
     have h2:=filter_le_len r (· < c)
     simp at hl h1 h2 ⊢;omega
    rw [e2] at hid hpl heq hf ⊢
    rw [scanD_eq] at hf ⊢
    have ha:∀X:List Nat,(num bias delta++X).map some++T=(num bias delta).map some++(X.map some++T):=fun X=>by simp
    simp only [ha] at hf ⊢
    obtain ⟨g,rfl⟩:∃g,f=g+1:=by
     have:=(numF_len 64 36 bias delta).1
     simp only [List.length_append,List.length_map,num] at hf
     exact ⟨f-1,by omega⟩
    rw [insF_step (s:=c) rfl rfl hlt hs heq hnd hid]
    rw [← e3]
    have hx:=scan_back c plain hs T r (p++[c]) 0 (adapt delta ((p.filter (·≤c)++r.filter (· < c)).length+1) (decide ((p.filter (·≤c)++r.filter (· < c)).length=plain))) c ((p.filter (·≤c)).length+1) g hl (Nat.le_refl _)
     (by rw [e4];simp) (by rw [e4];omega) (by rw [show ((p++[c]).filter (·≤c)).length=(p.filter (·≤c)).length+1 by rw [e1];simp];omega)
     (by rw [e4]
         have:=(numF_len 64 36 bias delta).1
         simp only [List.length_append,List.length_map,num] at hf ⊢
         omega)
    rw [e4] at hx
    rw [show decide ((p.filter (·≤c)++r.filter (· < c)).length+1=plain)=false from decide_eq_false (by omega)] at hx
    exact hx
   ·have e1:(p++[c]).filter (·≤s)=p.filter (·≤s):=by rw [List.filter_append];simp;omega
    have e2:(c::r).filter (· < s)=r.filter (· < s):=by rw [List.filter_cons_of_neg (by simp;omega)]
    have e3:p.filter (·≤s)++(c::r).filter (· < s)=(p++[c]).filter (·≤s)++r.filter (· < s):=by rw [e1,e2]
    rw [scanD_gt h] at hf ⊢
    rw [e3] at hid hpl heq hf ⊢
    exact scan_back s plain hs T r (p++[c]) delta bias nd id f hl hnd hid hpl (by rw [e1] at heq ⊢;exact heq) hf
theorem filter_all {l:List Nat} {n:Nat} (h:l.length≤(l.filter (· < n)).length):l.filter (· < n)=l:=by
 refine List.filter_eq_self.2 ?_
 have:=List.length_filter_eq_length_iff (p:=fun c=>decide (c < n)) (l:=l)
 exact this.1 (Nat.le_antisymm (List.length_filter_le _ _) h)
theorem enc_back (l:List Nat) (plain:Nat) (hl:l.length≤256) (hS:∀c∈l,isS (c:Int)=true):∀(g n delta bias nd id f:Nat),l.length≤(l.filter (· < n)).length+g→nd≤n→id≤(l.filter (· < n)).length→plain≤(l.filter (· < n)).length →
 nd * ((l.filter (· < n)).length+1)+id+delta=n * ((l.filter (· < n)).length+1) →
 ((encD l plain g delta bias n (l.filter (· < n)).length).map some).length≤f →
 insF f (l.filter (· < n)) ((encD l plain g delta bias n (l.filter (· < n)).length).map some) nd id bias (decide ((l.filter (· < n)).length=plain))=some l
 | 0,n,delta,bias,nd,id,f,hg,hnd,hid,hpl,heq,hf=>by
   rw [filter_all (by omega)]
   exact insF_nil _ _ _ _ _ _
 | g+1,n,delta,bias,nd,id,f,hg,hnd,hid,hpl,heq,hf=>by
   by_cases hlt:(l.filter (· < n)).length < l.length
   ·have hU:∀c∈l,c≤1114111:=fun c hc=>by have:=isS_iff.1 (hS c hc);omega
    have hsp:=least_spec (n:=n) hU (by rw [List.countP_eq_length_filter];exact hlt)
    unfold encD at hf ⊢
    rw [if_pos hlt] at hf ⊢
    simp only at hf ⊢
    generalize least l n=s at *
    obtain ⟨s1,s2,s3,s4⟩:=hsp
    have e0:l.filter (· < s)=l.filter (· < n):=by
     refine List.filter_congr fun c hc=>?_
     have:=s4 c hc
     by_cases hcn:c < n
     ·simp;omega
     ·simp [hcn];omega
    have e5:l.filter (·≤s)=l.filter (· < s+1):=by
     refine List.filter_congr fun c hc=>?_
     simp;omega
    rw [List.map_append] at hf ⊢
    obtain ⟨m,rfl⟩:∃m,s=n+m:=⟨s-n,by omega⟩
    have e6:n+m-n=m:=by omega
    rw [e6] at hf ⊢
    have hx:=scan_back (n+m) plain (hS _ s1)
     ((encD l plain g ((scanD (n+m) plain l (delta+m * ((l.filter (· < n)).length+1)) bias (l.filter (· < n)).length).2.1+1) (scanD (n+m) plain l (delta+m * ((l.filter (· < n)).length+1)) bias (l.filter (· < n)).length).2.2.1 (n+m+1) (scanD (n+m) plain l (delta+m * ((l.filter (· < n)).length+1)) bias (l.filter (· < n)).length).2.2.2).map some)
     l [] (delta+m * ((l.filter (· < n)).length+1)) bias nd id f (by simpa using hl) (by omega)
    simp only [List.filter_nil,List.nil_append,e0,List.length_nil,Nat.add_zero] at hx
    obtain ⟨nd',id',f',h1,h2,h3,h4,h5,h6⟩:=hx hid hpl (by rw [Nat.add_mul];omega) hf
    rw [h1]
    simp only [e5] at h3 h5 h6 ⊢
    rw [h6] at h4 ⊢
    have hgrow:(l.filter (· < n)).length < (l.filter (· < n+m+1)).length:=by
     have k1:=countP_next l (n+m)
     have k2:0 < l.countP (·==n+m):=List.countP_pos_iff.2 ⟨_,s1,by simp⟩
     rw [List.countP_eq_length_filter,List.countP_eq_length_filter (p:=fun x=>decide (x < n+m)),e0] at k1
     omega
    exact enc_back l plain hl hS g (n+m+1) _ _ nd' id' f' (by omega) (by omega) h3 (by omega) (by rw [Nat.add_mul (n+m) 1];omega) h4
   ·have hz:=filter_all (n:=n) (l:=l) (by omega)
    rw [encD_stop _ _ _ _ _ _ _ (by omega),hz]
    exact insF_nil _ _ _ _ _ _
abbrev Rule:=Int×Int×Bool×Int×Int×Int
def rules:List Rule :=
 [(173,173,false,3,0,0),
  (8203,8203,false,3,0,0),
  (8288,8288,false,3,0,0),
  (65024,65039,false,3,0,0),
  (65279,65279,false,3,0,0),
  (128,160,false,4,0,0),
  (57344,63743,false,4,0,0),
  (64976,65007,false,4,0,0),
  (983040,1114111,false,4,0,0),
  (65,90,false,2,97,0),
  (192,214,false,2,224,0),
  (216,222,false,2,248,0),
  (913,929,false,2,945,0),
  (931,937,false,2,963,0),
  (1024,1039,false,2,1104,0),
  (1040,1071,false,2,1072,0),
  (304,304,false,2,105,775),
  (256,311,true,2,257,0),
  (313,328,true,2,314,0),
  (329,329,false,2,700,110),
  (330,375,true,2,331,0),
  (376,376,false,2,255,0),
  (377,382,true,2,378,0),
  (383,383,false,2,115,0),
  (12290,12290,false,2,46,0),
  (65377,65377,false,2,46,0),
  (65313,65338,false,2,97,0),
  (65281,65374,false,2,33,0),
  (170,170,false,2,97,0),
  (178,179,false,2,50,0),
  (185,185,false,2,49,0),
  (186,186,false,2,111,0),
  (9312,9320,false,2,49,0),
  (8462,8462,false,2,104,0)]
def cellsR (r:Rule):List Value:=[.int .i64 r.1,.int .i64 r.2.1,.bool r.2.2.1,.int .i64 r.2.2.2.1,.int .i64 r.2.2.2.2.1,.int .i64 r.2.2.2.2.2]
def tabCells:Array Value:=(rules.flatMap cellsR).toArray
def fitsR (r:Rule) (c:Int):Bool:=decide (r.1≤c)&&(decide (c≤r.2.1)&&(!r.2.2.1||decide ((c-r.1)%2=0)))
def barred (c:Int):Bool:=!isS c||decide (65534≤c%65536)
def ruleOf (c:Int):Rule:=if barred c then (0,0,false,4,0,0) else (rules.find? (fitsR · c)).getD (0,0,false,1,0,0)
def kindOf (c:Int):Int:=(ruleOf c).2.2.2.1
def signs (r:Rule) (c:Int):List Int:=if r.2.2.2.1=1 then [c] else if r.2.2.2.1=2 then (if r.2.2.2.2.2=0 then [r.2.2.2.2.1+c-r.1] else [r.2.2.2.2.1+c-r.1,r.2.2.2.2.2]) else []
theorem rules_len:rules.length=34:=rfl
def DecAt (l:List UInt8) (o:List Int) (k:Nat):Prop:=decL l=(decL (l.drop k)).map (fun x=>o++x)∧badN l=k+badN (l.drop k)∧o.length≤k
def LosAt (l:List UInt8) (o:List Int) (k:Nat):Prop:=lossyL l=o++lossyL (l.drop k)∧o.length≤k
theorem DecAt.start (l:List UInt8):DecAt l [] 0:=by
 refine ⟨?_,by simp,Nat.le_refl _⟩
 rw [List.drop_zero]
 cases decL l<;>simp
theorem LosAt.start (l:List UInt8):LosAt l [] 0:=⟨by simp,Nat.le_refl _⟩
theorem drop_ne {l:List UInt8} {k:Nat} (h:k < l.length):l.drop k≠[]:=by
 intro e
 have:=congrArg List.length e
 rw [List.length_drop,List.length_nil] at this
 omega
theorem DecAt.step {l:List UInt8} {o:List Int} {k c n:Nat} (h:DecAt l o k) (hk:k < l.length) (hq:nextN (l.drop k)=(c,n,true)):DecAt l (o++[(c:Int)]) (k+n):=by
 have hne:=drop_ne hk
 have hs:=(next_size (l.drop k)).1
 rw [hq] at hs
 obtain ⟨h1,h2,h3⟩:=h
 refine ⟨?_,?_,by rw [List.length_append];simp only [List.length_cons,List.length_nil];simp only at hs;omega⟩
 ·rw [h1,dec_cons hne (by rw [hq]),hq,List.drop_drop]
  cases decL (l.drop (k+n))<;>simp
 ·rw [h2,bad_cons hne (by rw [hq]),hq,List.drop_drop]
  simp only;omega
theorem DecAt.fail {l:List UInt8} {o:List Int} {k c n:Nat} (h:DecAt l o k) (hk:k < l.length) (hq:nextN (l.drop k)=(c,n,false)):decL l=none∧badN l=k:=by
 have hne:=drop_ne hk
 obtain ⟨h1,h2,h3⟩:=h
 refine ⟨?_,?_⟩
 ·rw [h1,dec_fail hne (by rw [hq])];rfl
 ·rw [h2,bad_fail hne (by rw [hq])];rfl
theorem DecAt.done {l:List UInt8} {o:List Int} {k:Nat} (h:DecAt l o k) (hk:¬k < l.length):decL l=some o:=by
 rw [h.1,List.drop_eq_nil_of_le (by omega),dec_nil];simp
theorem LosAt.step {l:List UInt8} {o:List Int} {k:Nat} (h:LosAt l o k) (hk:k < l.length) {c n:Nat} {b:Bool} (hq:nextN (l.drop k)=(c,n,b)):LosAt l (o++[(c:Int)]) (k+n):=by
 have hne:=drop_ne hk
 have hs:=(next_size (l.drop k)).1
 rw [hq] at hs
 obtain ⟨h1,h3⟩:=h
 refine ⟨?_,by rw [List.length_append];simp only [List.length_cons,List.length_nil];simp only at hs;omega⟩
 rw [h1,lossy_cons hne,hq,List.drop_drop]
 simp
theorem LosAt.done {l:List UInt8} {o:List Int} {k:Nat} (h:LosAt l o k) (hk:¬k < l.length):lossyL l=o:=by
 rw [h.1,List.drop_eq_nil_of_le (by omega),lossy_nil,List.append_nil]
theorem next_fits {l:List UInt8} {k c n:Nat} {b:Bool} (hk:k < l.length) (hq:nextN (l.drop k)=(c,n,b)):1≤n∧k+n≤l.length∧c≤1114111:=by
 have hs:=next_size (l.drop k)
 have h2:=hs.2 (drop_ne hk)
 have hi:=isS_iff.1 (next_isS (l.drop k))
 rw [hq] at hs h2 hi
 rw [List.length_drop] at h2
 simp only at hs h2 hi
 omega
end Go.Proofs.YtpohekldddbneaaGreatDoor
