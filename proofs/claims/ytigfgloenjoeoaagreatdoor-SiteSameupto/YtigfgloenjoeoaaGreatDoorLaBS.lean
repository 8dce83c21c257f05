import Derived.Test.YtigfgloenjoeoaaGreatDoorLaBQ
import Derived.Lib.CountLaws
set_option linter.unusedVariables false
set_option linter.unusedSimpArgs false
set_option maxRecDepth 20000
set_option maxHeartbeats 16000000
namespace Go.Proofs.YtigfgloenjoeoaaGreatDoor
theorem rall_nil (e:UInt8):Lib.replaceAll [] [37,50,e] [46]=[]:=by
 unfold Lib.replaceAll Lib.replace
 rw [if_neg (by simp)]
 have:Lib.replaceNum [] [37,50,e] (-1)=0:=by
  unfold Lib.replaceNum
  rw [if_pos (Or.inl (by omega))]
  exact Lib.count_miss rfl
 rw [this];rfl
theorem rall_eq (e:UInt8) (s:List UInt8):Lib.replaceAll s [37,50,e] [46]=Lib.replaceK [37,50,e] [46] (Lib.count s [37,50,e]) s:=by
 unfold Lib.replaceAll Lib.replace
 rw [if_neg (by simp)]
 unfold Lib.replaceNum
 rw [if_pos (Or.inl (by omega))]
theorem rall_hit (e:UInt8) (t:List UInt8):Lib.replaceAll (37::50::e::t) [37,50,e] [46]=46::Lib.replaceAll t [37,50,e] [46]:=by
 have hi:Lib.index (37::50::e::t) [37,50,e]=((0:Nat):Int):=by simp [Lib.index,List.isPrefixOf]
 rw [rall_eq,rall_eq,Lib.count_hit (by simp) hi,Nat.add_comm,Lib.replaceK_hit _ _ _ _ 0 hi]
 rfl
theorem rall_miss (e c:UInt8) (t:List UInt8) (h:([37,50,e]:List UInt8).isPrefixOf (c::t)=false):Lib.replaceAll (c::t) [37,50,e] [46]=c::Lib.replaceAll t [37,50,e] [46]:=by
 rw [rall_eq,rall_eq]
 by_cases hm:Lib.index t [37,50,e]=-1
 ·have h1:Lib.index (c::t) [37,50,e]=-1:=by rw [Lib.index,h];simp [hm]
  rw [Lib.count_miss h1,Lib.count_miss hm];rfl
 ·have hge:=Lib.index_ge t [37,50,e]
  obtain ⟨i,hi⟩:∃i:Nat,Lib.index t [37,50,e]=(i:Int):=⟨(Lib.index t [37,50,e]).toNat,by omega⟩
  have h1:Lib.index (c::t) [37,50,e]=((i+1:Nat):Int):=by
   rw [Lib.index,h]
   simp only [Bool.false_eq_true,if_false]
   rw [if_neg (by simpa using hm),hi];rfl
  have e3:([37,50,e]:List UInt8).length=3:=rfl
  rw [Lib.count_hit (by simp) h1,Lib.count_hit (by simp) hi,e3,show i+1+3=(i+3)+1 by omega,List.drop_succ_cons,Nat.add_comm 1,Lib.replaceK_hit _ _ _ _ (i+1) h1,Lib.replaceK_hit _ _ _ _ i hi,e3,show i+1+3=(i+3)+1 by omega,List.drop_succ_cons,List.take_succ_cons]
  rfl
theorem pre_head {e c:UInt8} {t:List UInt8} (h:c≠37):([37,50,e]:List UInt8).isPrefixOf (c::t)=false:=by
 simp [List.isPrefixOf];intro h2;exact absurd h2.symm h
theorem pd_nil:pdR []=[]:=by unfold pdR;rw [rall_nil,rall_nil]
theorem pd_dot (t:List UInt8):pdR (46::t)=46::pdR t:=by unfold pdR;rw [rall_miss _ _ _ (pre_head (by decide)),rall_miss _ _ _ (pre_head (by decide))]
theorem pd_small (t:List UInt8):pdR (37::50::101::t)=46::pdR t:=by unfold pdR;rw [rall_hit,rall_miss _ _ _ (pre_head (by decide))]
theorem pd_great (t:List UInt8):pdR (37::50::69::t)=46::pdR t:=by
 unfold pdR
 rw [rall_miss 101 37 _ (by simp [List.isPrefixOf]),rall_miss 101 50 _ (pre_head (by decide)),rall_miss 101 69 _ (pre_head (by decide)),rall_hit]
theorem rall_front {c d:UInt8} {t r:List UInt8} (h:Lib.replaceAll (c::t) [37,50,101] [46]=d::r) (hd:d≠46):c=d∧r=Lib.replaceAll t [37,50,101] [46]:=by
 cases hp:([37,50,101]:List UInt8).isPrefixOf (c::t) with
 | false=>rw [rall_miss _ _ _ hp] at h;injection h with h1 h2;exact ⟨h1,h2.symm⟩
 | true =>
   obtain ⟨q,hq⟩:=List.isPrefixOf_iff_prefix.1 hp
   rw [← hq] at h
   have:=rall_hit 101 q
   simp only [List.cons_append,List.nil_append] at h
   rw [this] at h
   injection h with h1 h2
   exact absurd h1.symm hd
theorem pd_other (c:UInt8) (t:List UInt8) (h1:c≠46) (h2:∀q,c::t≠37::50::101::q) (h3:∀q,c::t≠37::50::69::q):∃r,pdR (c::t)=c::r:=by
 have hp:([37,50,101]:List UInt8).isPrefixOf (c::t)=false:=by
  cases hp:([37,50,101]:List UInt8).isPrefixOf (c::t) with
  | false=>rfl
  | true=>obtain ⟨q,hq⟩:=List.isPrefixOf_iff_prefix.1 hp;exact absurd hq.symm (h2 q)
 unfold pdR
 rw [rall_miss _ _ _ hp]
 refine ⟨_,rall_miss _ _ _ ?_⟩
 cases hp2:([37,50,69]:List UInt8).isPrefixOf (c::Lib.replaceAll t [37,50,101] [46]) with
 | false=>rfl
 | true =>
   obtain ⟨q,hq⟩:=List.isPrefixOf_iff_prefix.1 hp2
   simp only [List.cons_append,List.nil_append] at hq
   injection hq with e1 e2
   subst e1
   cases t with
   | nil=>rw [rall_nil] at e2;cases e2
   | cons d t =>
     obtain ⟨rfl,e3⟩:=rall_front e2.symm (by decide)
     cases t with
     | nil=>rw [rall_nil] at e3;cases e3
     | cons d t =>
       obtain ⟨rfl,e4⟩:=rall_front e3.symm (by decide)
       exact absurd rfl (h3 t)
theorem dots_pd:∀(n:Nat) (s:List UInt8),s.length≤n→∀(f k:Nat),s.length≤f→((∃j,pdR s=List.replicate j 46∧dotsF f s k=k+j)∨((∃c∈pdR s,c≠46)∧dotsF f s k=0))
 | 0,s,hn,f,k,hf=>by
   have:s=[]:=List.eq_nil_of_length_eq_zero (by omega)
   subst this
   exact Or.inl ⟨0,pd_nil,by cases f<;>rfl⟩
 | n+1,s,hn,f,k,hf=>by
   have step:∀(t:List UInt8) (g:Nat),t.length≤n→t.length≤g→pdR s=46::pdR t→dotsF f s k=dotsF g t (k+1)→((∃j,pdR s=List.replicate j 46∧dotsF f s k=k+j)∨((∃c∈pdR s,c≠46)∧dotsF f s k=0)):=fun t g h1 h2 h3 h4=>by
    rcases dots_pd n t h1 g (k+1) h2 with ⟨j,e1,e2⟩ | ⟨⟨c,hc,hne⟩,e2⟩
    ·exact Or.inl ⟨j+1,by rw [h3,e1];rfl,by rw [h4,e2];omega⟩
    ·exact Or.inr ⟨⟨c,by rw [h3];exact List.mem_cons_of_mem _ hc,hne⟩,by rw [h4,e2]⟩
   cases s with
   | nil=>exact Or.inl ⟨0,pd_nil,by cases f<;>rfl⟩
   | cons c t =>
     obtain ⟨g,rfl⟩:∃g,f=g+1:=⟨f-1,by simp at hf;omega⟩
     simp only [List.length_cons] at hn hf
     by_cases h1:c=46
     ·subst h1
      exact step t g (by omega) (by omega) (pd_dot t) rfl
     by_cases h2:∃q,c::t=37::50::101::q
     ·obtain ⟨q,hq⟩:=h2
      injection hq with e1 e2
      subst e1 e2
      simp only [List.length_cons] at hn hf
      exact step q g (by omega) (by omega) (pd_small q) rfl
     by_cases h3:∃q,c::t=37::50::69::q
     ·obtain ⟨q,hq⟩:=h3
      injection hq with e1 e2
      subst e1 e2
      simp only [List.length_cons] at hn hf
      exact step q g (by omega) (by omega) (pd_great q) rfl
     ·obtain ⟨r,hr⟩:=pd_other c t h1 (fun q hq=>h2 ⟨q,hq⟩) (fun q hq=>h3 ⟨q,hq⟩)
      refine Or.inr ⟨⟨c,by rw [hr];simp,h1⟩,?_⟩
      unfold dotsF
      split
      ·rename_i heq;simp at heq
      ·rename_i heq;simp at heq
      ·rename_i heq;injection heq with e1 e2;exact absurd e1 h1
      ·rename_i heq
       split
       ·rename_i he
        rcases he with he | he
        ·subst he;exact absurd ⟨_,heq⟩ h2
        ·subst he;exact absurd ⟨_,heq⟩ h3
       ·rfl
      ·rfl
theorem rep_two {j:Nat} (h:List.replicate j (46:UInt8)=[46,46]):j=2:=by have:=congrArg List.length h;simpa using this
theorem rep_one {j:Nat} (h:List.replicate j (46:UInt8)=[46]):j=1:=by have:=congrArg List.length h;simpa using this
theorem dots_two (s:List UInt8):pdR s=[46,46]↔dotsR s=2:=by
 unfold dotsR
 rcases dots_pd s.length s (Nat.le_refl _) s.length 0 (Nat.le_refl _) with ⟨j,e1,e2⟩ | ⟨⟨c,hc,hne⟩,e2⟩
 ·rw [e1,e2,Nat.zero_add]
  constructor
  ·intro h;rw [rep_two h];rfl
  ·intro h
   split at h
   ·omega
   ·subst h;rfl
 ·rw [e2]
  constructor
  ·intro h;rw [h] at hc;simp at hc;exact absurd hc hne
  ·intro h;simp at h
theorem dots_one (s:List UInt8):pdR s=[46]↔dotsR s=1:=by
 unfold dotsR
 rcases dots_pd s.length s (Nat.le_refl _) s.length 0 (Nat.le_refl _) with ⟨j,e1,e2⟩ | ⟨⟨c,hc,hne⟩,e2⟩
 ·rw [e1,e2,Nat.zero_add]
  constructor
  ·intro h;rw [rep_one h];rfl
  ·intro h
   split at h
   ·omega
   ·subst h;rfl
 ·rw [e2]
  constructor
  ·intro h;rw [h] at hc;simp at hc;exact absurd hc hne
  ·intro h;simp at h
theorem piece_eq (m:MaR) (c:Int):pieceQ (takeM m) (encU 5 m.buf) (slashM m c)=pieceM m c:=by
 unfold pieceQ pieceM
 have e:encU 5 m.buf=partsN 5 m.buf:=(parts_eq 5 m.buf).symm
 rw [e]
 simp only [dots_two,dots_one]
 rfl
theorem pathQ_eq (x:RdP) (c:Int):pathQ x c=pathP x c:=by
 unfold pathQ pathP
 have e:(x.on fun m=>pieceQ (takeM m) (encU 5 x.m.buf) (slashM x.m c))=x.on (pieceM · c):=by
  show ({ x with m:=pieceQ (takeM x.m) (encU 5 x.m.buf) (slashM x.m c) }:RdP)={ x with m:=pieceM x.m c }
  rw [piece_eq]
 rw [e]
end Go.Proofs.YtigfgloenjoeoaaGreatDoor
