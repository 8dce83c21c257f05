import Derived.Test.YtpohekldddbneaaGreatDoorDaBG
import Derived.Test.YtpohekldddbneaaGreatDoorDaAC
import Derived.WalkSmall
set_option linter.unusedVariables false
set_option linter.unusedSimpArgs false
set_option maxRecDepth 20000
set_option maxHeartbeats 16000000
namespace Go.Proofs.YtpohekldddbneaaGreatDoor
open Go.RowKit
def amongR (s t:List UInt8):Bool:=s.any fun c=>t.any (·==c)
theorem among_take {s t:List UInt8} {i:Nat} (hi:i < s.length) (h:amongR (s.take i) t=false) (hn:∀k (hk:k < t.length),t[k]≠s[i]):amongR (s.take (i+1)) t=false:=by
 unfold amongR at h ⊢
 rw [List.take_succ_eq_append_getElem hi,List.any_append,h,Bool.false_or,List.any_cons,List.any_nil,Bool.or_false,List.any_eq_false]
 intro x hx e
 obtain ⟨k,hk,rfl⟩:=List.getElem_of_mem hx
 exact hn k hk (by simpa using e)
theorem among_hit {s t:List UInt8} {i k:Nat} (hi:i < s.length) (hk:k < t.length) (h:s[i]=t[k]):amongR s t=true:=by
 unfold amongR
 rw [List.any_eq_true]
 exact ⟨s[i],List.getElem_mem hi,by rw [List.any_eq_true];exact ⟨t[k],List.getElem_mem hk,by rw [h];simp⟩⟩
theorem among_calls (s t:ByteArray) (w:World) (hs:s.size≤100000) (ht:t.size≤1000) :
 Calls Tryz.prog 24 #[.string s,.string t] w fun e w'=>e=.returned (.bool (amongR s.data.toList t.data.toList))∧Below w.heap.size w w':=by
 have s1:(s.size:Int)≤100000:=by omega
 have t1:(t.size:Int)≤1000:=by omega
 obtain ⟨R,hR⟩:∃R,R=amongR s.data.toList t.data.toList:=⟨_,rfl⟩
 rw [← hR]
 have HR:=hid hR
 have HSL:=hid (bytes_num s)
 have HTL:=hid (bytes_num t)
 clear hR hs ht
 go_enter Tryz.func24,Tryz.ntmps24
 go_wp2_with fail
 go_loopw [5] (fun vi wr=>∃i:Nat,i≤s.size∧vi=.int .i64 (i:Int)∧amongR (s.data.toList.take i) t.data.toList=false∧Below w.heap.size w wr) (fun vi _=>s.size-(intOf vi).toNat)
 case atStart=>exact ⟨0,Nat.zero_le _,rfl,by rw [List.take_zero];rfl,Below.refl _ _⟩
 case round =>
  obtain ⟨i,hi,rfl,hno,hb⟩:=hrel
  have HNo:=hid hno
  have HB:=hid hb
  have i0:(0:Int)≤(i:Int):=by omega
  clear hno hb
  by_cases hlt:i < s.size
  ·have i1:(i:Int) < (s.size:Int):=by omega
   have HI:=hid hlt
   have HStep:=hid (fun h=>among_take (t:=t.data.toList) (by rw [HSL.out];exact hlt) HNo.out h)
   have HHit:=hid (fun k (hk:k < t.data.toList.length) h=>among_hit (s:=s.data.toList) (by rw [HSL.out];exact hlt) hk h)
   obtain ⟨z,hz⟩:∃z,(s[i]'hlt).toNat=z:=⟨_,rfl⟩
   have z0:(0:Int)≤(z:Int):=by omega
   clear hi
   go_wp2_with fail
   go_loopw [6] (fun vk wk=>∃k:Nat,k≤t.size∧vk=.int .i64 (k:Int)∧(∀j (hj:j < t.size),j < k→t[j]≠s[i]'HI.out)∧Below w.heap.size w wk) (fun vk _=>t.size-(intOf vk).toNat)
   case atStart=>exact ⟨0,Nat.zero_le _,rfl,fun j hj h=>absurd h (by omega),HB.out⟩
   case round =>
    obtain ⟨k,hk,rfl,hne,hb2⟩:=hrel
    have HNe:=hid hne
    have HB2:=hid hb2
    have k0:(0:Int)≤(k:Int):=by omega
    clear hne hb2
    by_cases hkt:k < t.size
    ·have k1:(k:Int) < (t.size:Int):=by omega
     have HK:=hid hkt
     obtain ⟨y,hy⟩:∃y,(t[k]'hkt).toNat=y:=⟨_,rfl⟩
     have y0:(0:Int)≤(y:Int):=by omega
     by_cases hzy:z=y
     ·have HX:Hid (R=true):=by show R=true;rw [HR.out];exact HHit.out k (by rw [HTL.out];exact HK.out) (UInt8.toNat_inj.1 (by show (s[i]'HI.out).toNat=(t[k]'HK.out).toNat;rw [hz,hy,hzy]))
      have e1:((z:Int)==(y:Int))=true:=by rw [hzy];simp
      clear hzy hk
      go_wp2_with fail
      go_quiet (fail)
      have HB3:=hid (below_drewN HB2.out nq)
      generalize wr.drewN nq=wy at *
      go_wp2_with fail
      go_ret
      exact ⟨by rw [HX.out];rfl,HB3.out⟩
     ·have e1:((z:Int)==(y:Int))=false:=bN (by omega)
      have HN2:Hid (∀j (hj:j < t.size),j < k+1→t[j]≠s[i]'HI.out):=fun j hj h=>by
       rcases Nat.lt_or_ge j k with g | g
       ·exact HNe.out j hj g
       ·have:j=k:=by omega
        subst this
        intro e
        exact hzy (by rw [← hz,← hy,e])
      clear hzy hk
      go_wp2_with fail
      go_quiet (fail)
      have HB3:=hid (below_drewN HB2.out nq)
      generalize wr.drewN nq=wy at *
      go_wp2_with fail
      go_roundw
      case rel=>exact ⟨k+1,HK.out,by go_num,HN2.out,HB3.out⟩
      case measure=>have:=HK.out;simp [intOf];omega
    ·have k1:¬(k:Int) < (t.size:Int):=by omega
     have HN2:=hid (HStep.out (fun j hj=>HNe.out j (by rw [← HTL.out];exact hj) (by rw [HTL.out] at hj;omega)))
     clear hkt hk
     go_wp2_with fail
     go_roundw
     case rel=>exact ⟨i+1,HI.out,by go_num,HN2.out,HB2.out⟩
     case measure=>have:=HI.out;simp [intOf];omega
  ·have i1:¬(i:Int) < (s.size:Int):=by omega
   have HX:Hid (R=false):=by
    show R=false
    rw [HR.out]
    have h:=HNo.out
    rw [List.take_of_length_le (by rw [HSL.out];omega)] at h
    exact h
   clear hlt hi
   go_wp2_with fail
   go_ret
   exact ⟨by rw [HX.out];rfl,HB.out⟩
def badS:ByteArray:=⟨#[0,9,10,13,32,35,47,58,60,62,63,64,91,92,93,94,124]⟩
theorem bad_among:(List.range 256).all (fun n=>badH n==(badS.data.toList.any (·==UInt8.ofNat n)))=true:=by decide +kernel
theorem bad_one (c:UInt8):badS.data.toList.any (·==c)=badB c:=by
 have h:=List.all_eq_true.1 bad_among c.toNat (List.mem_range.2 (byte_lt c))
 rw [beq_iff_eq] at h
 unfold badB
 rw [h]
 simp
theorem among_bad (l:List UInt8):amongR l badS.data.toList=l.any badB:=by
 unfold amongR
 congr 1
 funext c
 exact bad_one c
theorem bad_calls (w:World):Calls Tryz.prog 25 #[] w fun e w'=>e=.returned (.string badS)∧w'=w:=by
 go_enter Tryz.func25,Tryz.ntmps25
 go_wp2_with fail
 go_ret
 exact ⟨rfl,rfl⟩
end Go.Proofs.YtpohekldddbneaaGreatDoor
