import Derived.Test.YtigfgloenjoeoaaGreatDoorLcAQ
import Derived.Test.YtigfgloenjoeoaaGreatDoorLcAY
import Derived.Carry
set_option linter.unusedVariables false
set_option linter.unusedSimpArgs false
set_option maxRecDepth 20000
set_option maxHeartbeats 16000000
namespace Go.Proofs.YtigfgloenjoeoaaGreatDoor
abbrev OrgN:=List UInt8×HostN×Int
def org0:OrgN:=([],host0,0)
def originN (u:UrlN):OrgN×Bool:=if specialN u.sch=0∨u.hasHost=false then (org0,false) else ((u.sch,u.host,if u.port=-1 then (specialN u.sch:Int) else u.port),true)
def fitsB (n s:List UInt8):Bool:=n==s||(decide (s.length < n.length)&&(n.drop (n.length-s.length)==s&&n[n.length-s.length-1]? == some 46))
def sufF (n best s:List UInt8):List UInt8:=if (decide (best.length < s.length)&&fitsB n s)=true then s else best
def suffixN (n:List UInt8) (l:List (List UInt8)):List UInt8:=l.foldl (sufF n) (tailOf 46 n)
theorem fits_iff (n s:List UInt8):fitsB n s=true↔n=s∨∃a,n=a++46::s:=by
 unfold fitsB
 simp only [Bool.or_eq_true,Bool.and_eq_true,beq_iff_eq,decide_eq_true_eq]
 refine or_congr Iff.rfl ⟨fun ⟨h1,h2,h3⟩=>⟨n.take (n.length-s.length-1),?_⟩,?_⟩
 ·have hl:n.length-s.length-1 < n.length:=by omega
  have e1:n.drop (n.length-s.length-1)=46::s:=by
   rw [List.drop_eq_getElem_cons hl]
   rw [List.getElem?_eq_getElem hl] at h3
   rw [Option.some.inj h3,show n.length-s.length-1+1=n.length-s.length by omega,h2]
  rw [← e1,List.take_append_drop]
 ·rintro ⟨a,rfl⟩
  have e:(a++46::s).length-s.length=a.length+1:=by simp;omega
  refine ⟨by simp;omega,?_,?_⟩
  ·rw [e,show a++46::s=(a++[46])++s by simp,show a.length+1=(a++[46]).length by simp,List.drop_left]
  ·rw [e,Nat.add_sub_cancel,List.getElem?_append_right (Nat.le_refl _),Nat.sub_self];rfl
theorem tail_suf (c:UInt8) (l:List UInt8):(∀x∈l,x≠c)∨∃a b,l=a++c::b∧∀x∈b,x≠c:=by
 induction l with
 | nil=>exact Or.inl (fun _ h=>by cases h)
 | cons x r ih =>
   rcases ih with h | ⟨a,b,rfl,h⟩
   ·by_cases e:x=c
    ·exact Or.inr ⟨[],r,by rw [e];rfl,h⟩
    ·exact Or.inl (fun y hy=>by rcases List.mem_cons.1 hy with rfl | hy;exact e;exact h y hy)
   ·exact Or.inr ⟨x::a,b,rfl,h⟩
theorem tail_fits (n:List UInt8):fitsB n (tailOf 46 n)=true:=by
 rw [fits_iff]
 rcases tail_suf 46 n with h | ⟨a,b,rfl,h⟩
 ·exact Or.inl (tail_free h).symm
 ·exact Or.inr ⟨a,by rw [tail_app a h]⟩
theorem suffix_fits (n:List UInt8) (l:List (List UInt8)):fitsB n (suffixN n l)=true:=by
 have key:∀(l:List (List UInt8)) (g:List UInt8),fitsB n g=true→fitsB n (l.foldl (sufF n) g)=true:=by
  intro l
  induction l with
  | nil=>exact fun g h=>h
  | cons s r ih =>
    intro g h
    refine ih _ ?_
    unfold sufF
    split
    ·rename_i h2
     exact (Bool.and_eq_true _ _ ▸ h2).2
    ·exact h
 exact key l _ (tail_fits n)
def siteW (n s:List UInt8):List UInt8:=if n.length≤s.length then n else tailOf 46 (n.take (n.length-s.length-1))++46::s
theorem siteW_eq (s:List UInt8):siteW s s=s:=if_pos (Nat.le_refl _)
theorem siteW_app (a s:List UInt8):siteW (a++46::s) s=tailOf 46 a++46::s:=by
 unfold siteW
 rw [if_neg (by simp;omega),show (a++46::s).length-s.length-1=a.length by simp;omega,List.take_left]
def nameN (h:HostN) (l:List (List UInt8)):HostN:=if h.1=1 then (1,siteW h.2.1 (suffixN h.2.1 l),h.2.2.1,h.2.2.2) else h
def siteN (u:UrlN) (l:List (List UInt8)):OrgN×Bool:=if (originN u).2=true then (((originN u).1.1,nameN (originN u).1.2.1 l,0),true) else (org0,false)
theorem suffix_len (n:List UInt8) (l:List (List UInt8)):(suffixN n l).length≤n.length:=by
 rcases (fits_iff n _).1 (suffix_fits n l) with h | ⟨a,h⟩
 ·rw [← h];exact Nat.le_refl _
 ·have:=congrArg List.length h
  simp at this
  omega
end Go.Proofs.YtigfgloenjoeoaaGreatDoor
