import Derived.Test.YtigfgloenjoeoaaGreatDoorLcAC
import Derived.Lib.MapLaws
import Derived.Lib.IndexAny
import Derived.Shelf.GgClosure.StringsIndexFunc
set_option linter.unusedVariables false
set_option linter.unusedSimpArgs false
set_option maxRecDepth 20000
set_option maxHeartbeats 16000000
namespace Go.Proofs.YtigfgloenjoeoaaGreatDoor
theorem get_list (s:ByteArray) (j:Nat) (h:j < s.size):(s[j]'h)=s.data.toList.getD j 0:=by
 rw [List.getD_eq_getElem?_getD,List.getElem?_eq_getElem (by rw [Array.length_toList];exact h)]
 rfl
theorem high_decode (s:ByteArray) (pos:Nat) (h:pos < s.size) (hb:128≤(s[pos]'h).toNat) :
 128≤(Utf8.decode s pos).1∧(Utf8.decode s pos).1≤1114111∧((Utf8.decode s pos).1 < 55296∨57344≤(Utf8.decode s pos).1)∧1≤(Utf8.decode s pos).2∧pos+(Utf8.decode s pos).2≤s.size ∧
  ∀j,pos≤j→j < pos+(Utf8.decode s pos).2→128≤(s.data.toList.getD j 0).toNat:=by
 rw [get_list] at hb
 rw [Lib.decode_N]
 have hl:s.data.toList.length=s.size:=Array.length_toList
 have h0:=(s.data.toList.getD pos 0).toNat_lt
 have hs:=Lib.decodeN_shape (s.data.toList.length-pos) (s.data.toList.getD pos 0).toNat (s.data.toList.getD (pos+1) 0).toNat (s.data.toList.getD (pos+2) 0).toNat (s.data.toList.getD (pos+3) 0).toNat
 generalize e0:(s.data.toList.getD pos 0).toNat=b0 at *
 generalize e1:(s.data.toList.getD (pos+1) 0).toNat=b1 at *
 generalize e2:(s.data.toList.getD (pos+2) 0).toNat=b2 at *
 generalize e3:(s.data.toList.getD (pos+3) 0).toNat=b3 at *
 rcases hs with ⟨a,_⟩ | ⟨a1,a2,a3,a4,e⟩ | ⟨a1,a2,a3,a4,a5,a6,e⟩ | ⟨a1,a2,a3,a4,a5,a6,a7,e⟩ | e
 ·omega
 ·rw [e]
  refine ⟨a4,by simp only;omega,by simp only;omega,by simp only;omega,by simp only;omega,fun j h1 h2=>?_⟩
  simp only at h2
  rcases (by omega:j=pos∨j=pos+1) with rfl | rfl<;>omega
 ·rw [e]
  refine ⟨by simp only;omega,by simp only;omega,by simp only;omega,by simp only;omega,by simp only;omega,fun j h1 h2=>?_⟩
  simp only at h2
  rcases (by omega:j=pos∨j=pos+1∨j=pos+2) with rfl | rfl | rfl<;>omega
 ·rw [e]
  refine ⟨by simp only;omega,by simp only;omega,by simp only;omega,by simp only;omega,by simp only;omega,fun j h1 h2=>?_⟩
  simp only at h2
  rcases (by omega:j=pos∨j=pos+1∨j=pos+2∨j=pos+3) with rfl | rfl | rfl | rfl<;>omega
 ·rw [e]
  refine ⟨by simp only;omega,by simp only;omega,by simp only;omega,by simp only;omega,by simp only;omega,fun j h1 h2=>?_⟩
  simp only at h2
  obtain rfl:j=pos:=by omega
  omega
theorem has_any (chars:List UInt8):∀l:List UInt8,Lib.containsAny l chars=l.any (fun c=>chars.contains c)
 | []=>rfl
 | b::l=>by
   have ih:=has_any chars l
   have hge:=Lib.indexAny_ge chars l
   unfold Lib.containsAny at ih ⊢
   rw [Lib.indexAny,List.any_cons,← ih]
   split
   ·rename_i h;(rw [h])<;>rfl
   ·rename_i h
    rw [Bool.eq_false_iff.2 h,Bool.false_or]
    split
    ·rename_i h2;(rw [beq_iff_eq.1 h2])<;>rfl
    ·rename_i h2
     have:Lib.indexAny l chars≠-1:=fun e=>h2 (by rw [e];rfl)
     exact decide_eq_decide.2 (by omega)
theorem skip_any {p:UInt8→Bool} (s:ByteArray):∀(K pos:Nat),pos+K≤s.size→(∀j,pos≤j→j < pos+K→p (s.data.toList.getD j 0)=false)→(s.data.toList.drop pos).any p=(s.data.toList.drop (pos+K)).any p
 | 0,_,_,_=>rfl
 | K+1,pos,hK,h=>by
   have hp:pos < s.data.toList.length:=by rw [Array.length_toList];show pos < s.size;omega
   have e:=h pos (Nat.le_refl _) (by omega)
   rw [List.getD_eq_getElem?_getD,List.getElem?_eq_getElem hp] at e
   rw [List.drop_eq_getElem_cons hp,List.any_cons,show p s.data.toList[pos]=false from e,Bool.false_or,skip_any s K (pos+1) (by omega) (fun j h1 h2=>h j (by omega) (by omega)),show pos+1+K=pos+(K+1) by omega]
theorem func_any (q:Nat→Bool) (hq:∀n,128≤n→q n=false) (s:ByteArray):∀(f pos:Nat),s.size≤pos+f→decide (0≤Lib.idxFuncFrom q true s f pos)=(s.data.toList.drop pos).any (fun c=>q c.toNat)
 | 0,pos,h=>by
   rw [List.drop_eq_nil_of_le (by rw [Array.length_toList];show s.size≤pos;omega)]
   rfl
 | f+1,pos,h=>by
   by_cases hp:pos < s.size
   ·have hl:pos < s.data.toList.length:=by rw [Array.length_toList];exact hp
    by_cases hb:128≤(s[pos]'hp).toNat
    ·obtain ⟨h1,h2,h3,h4,h5,h6⟩:=high_decode s pos hp hb
     have ih:=func_any q hq s f (pos+(Utf8.decode s pos).2) (by omega)
     rw [skip_any s (Utf8.decode s pos).2 pos h5 (fun j ha hb=>hq _ (h6 j ha hb)),← ih]
     simp only [Lib.idxFuncFrom,hp,if_true,hq _ h1]
     simp
    ·have hd:Utf8.decode s pos=((s[pos]'hp).toNat,1):=by
      rw [Lib.decode_N,Lib.decodeN_ascii _ _ _ _ _ (by rw [← get_list s pos hp];omega),get_list]
     have ih:=func_any q hq s f (pos+1) (by omega)
     rw [List.drop_eq_getElem_cons hl,List.any_cons,← ih]
     have hg:s.data.toList[pos]=s[pos]'hp:=rfl
     rw [hg]
     simp only [Lib.idxFuncFrom,hp,if_true,hd]
     cases q (s[pos]'hp).toNat
     ·simp
     ·simp
   ·rw [List.drop_eq_nil_of_le (by rw [Array.length_toList];show s.size≤pos;omega),Lib.idxFuncFrom_end _ _ _ _ _ hp]
    rfl
end Go.Proofs.YtigfgloenjoeoaaGreatDoor
