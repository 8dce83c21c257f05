import Derived.Test.YtpohekldddbneaaGreatDoorDaAJ
import Derived.Test.YtpohekldddbneaaGreatDoorDaAB
import Derived.Test.YtpohekldddbneaaGreatDoorDaAT
set_option linter.unusedVariables false
set_option linter.unusedSimpArgs false
set_option maxRecDepth 20000
set_option maxHeartbeats 16000000
namespace Go.Proofs.YtpohekldddbneaaGreatDoor
open Go.RowKit
def asciiB (l:List Int):Bool:=l.all fun c=>decide (0≤c∧c≤127)
def markB (b:List UInt8):Bool:=b.take 4==[120,110,45,45]
def textB (l:List Int):ByteArray:=strOf (textL l)
def backOk (t:ByteArray):Bool :=
 (decR t).2==0&&!asciiB (ints (decR t).1)&&!markB (textL (ints (decR t).1))&&(ints (decR t).1).all (fun c=>kindR c==1)&&(encR (ints (decR t).1)).2==0&&bytesOf (encR (ints (decR t).1)).1==bytesOf t
def labR (l:List Int):ByteArray×Int :=
 if asciiB l=false then
  if markB (textL l)=true then (strOf [],4)
  else if (encR l).2=0 then (strOf ([120,110,45,45]++bytesOf (encR l).1),0) else (strOf [],(encR l).2)
 else if markB (textL l)=false then (textB l,0)
 else if backOk (strOf ((textL l).drop 4))=true then (textB l,0) else (strOf [],4)
theorem ascii_snoc (l:List Int) (k:Nat) (h:k < l.length):asciiB (l.take (k+1))=(asciiB (l.take k)&&decide (0≤l[k]∧l[k]≤127)):=by
 unfold asciiB
 rw [List.take_succ_eq_append_getElem h,List.all_append]
 simp
theorem ascii_not (l:List Int) (k:Nat) (h:k < l.length) (hn:¬(0≤l[k]∧l[k]≤127)):asciiB l=false:=by
 unfold asciiB
 rw [List.all_eq_false]
 exact ⟨l[k],List.getElem_mem h,by simpa using hn⟩
theorem text_len (l:List Int):(textL l).length≤4 * l.length:=by
 unfold textL encL
 rw [List.length_flatMap]
 have h:∀(m:List Int),(m.map fun c=>(encN c.toNat).length).sum≤4 * m.length:=by
  intro m
  induction m with
  | nil=>simp
  | cons c m ih =>
    have:(encN c.toNat).length≤4:=by unfold encN;split;simp;split;simp;split;simp;simp
    simp only [List.map_cons,List.sum_cons,List.length_cons];omega
 have:=h (l.map fix)
 simpa using this
theorem rascii_calls (v:Value) (l:List Int) (w:World) (hv:IRow w v l) :
 Calls Tryz.prog 86 #[v] w fun e w'=>e=.returned (.bool (asciiB l))∧w'=w:=by
 have HV:=hid hv
 obtain ⟨a,cap,rfl,h1,h2,h3⟩:=hv
 unfold maxLen at h2
 have l2:(l.length:Int)≤(cap:Int):=by omega
 have l3:(cap:Int)≤9223372036854775807:=by omega
 obtain ⟨R,hR⟩:∃R,R=asciiB l:=⟨_,rfl⟩
 rw [← hR]
 have HR:=hid hR
 clear h1 h2 h3 hR
 go_enter Tryz.func86,Tryz.ntmps86
 go_wp2_with fail
 go_loop [3] (fun vi=>∃k:Nat,k≤l.length∧vi=.int .i64 (k:Int)∧asciiB (l.take k)=true) (fun vi=>l.length-(intOf vi).toNat)
 case atStart=>exact ⟨0,Nat.zero_le _,rfl,rfl⟩
 case round =>
  obtain ⟨k,hk,rfl,hall⟩:=hrel
  have HA:=hid hall
  have k0:(0:Int)≤(k:Int):=by omega
  clear hall
  by_cases hlt:k < l.length
  ·obtain ⟨b,off,rfl,hck⟩:=HV.out.open (Below.refl _ _) k hlt
   have k1:(k:Int) < (l.length:Int):=by omega
   have HS:=hid (ascii_snoc l k hlt)
   have HN:=hid (ascii_not l k hlt)
   have HK:=hid hlt
   generalize l[k]=c at *
   clear hlt hk
   by_cases h0:c < 0
   ·have HF:Hid (R=false):=by show _=_;rw [HR.out];exact HN.out (by omega)
    clear HS HN
    go_wp2_with fail
    go_ret
    exact ⟨by rw [HF.out];rfl,rfl⟩
   ·by_cases h1:127 < c
    ·have HF:Hid (R=false):=by show _=_;rw [HR.out];exact HN.out (by omega)
     clear HS HN
     go_wp2_with fail
     go_ret
     exact ⟨by rw [HF.out];rfl,rfl⟩
    ·have HX:Hid (asciiB (l.take (k+1))=true):=by show _=_;rw [HS.out,HA.out,decide_eq_true (by omega)];rfl
     clear HS HN
     go_wp2_with fail
     go_round
     case rel=>exact ⟨k+1,HK.out,by go_num,HX.out⟩
     case measure=>have:=HK.out;simp [intOf];omega
  ·have hkl:k=l.length:=by omega
   have HF:Hid (R=true):=by show _=_;rw [HR.out,← HA.out,hkl,List.take_length]
   have g:¬(k:Int) < (l.length:Int):=by omega
   clear hlt hk hkl
   go_wp2_with fail
   go_ret
   exact ⟨by rw [HF.out];rfl,rfl⟩
theorem rmarked_calls (s:ByteArray) (w:World) (hs:s.size≤maxLen) :
 Calls Tryz.prog 87 #[.string s] w fun e w'=>e=.returned (.bool (markB (bytesOf s)))∧w'=w:=by
 unfold maxLen at hs
 have s1:(s.size:Int)≤9223372036854775807:=by omega
 have hbl:=bytesOf_len s
 obtain ⟨R,hR⟩:∃R,R=markB (bytesOf s):=⟨_,rfl⟩
 rw [← hR]
 by_cases h4:4≤s.size
 ·have e1:(s.extract 0 4).toList=(bytesOf s).take 4:=by rw [ByteArray.toList_eq];exact extract_bytes s 4 h4
  have e2:((bytesOf s).take 4==[120,110,45,45])=R:=hR.symm
  have g:(4:Int)≤(s.size:Int):=by omega
  generalize (bytesOf s).take 4=T at *
  clear hR hbl h4 hs
  go_enter Tryz.func87,Tryz.ntmps87
  go_wp2_with fail
  go_ret
  exact ⟨rfl,rfl⟩
 ·have g:¬(4:Int)≤(s.size:Int):=by omega
  have HF:Hid (R=false):=by
   show _=_
   rw [hR]
   unfold markB
   rw [beq_eq_false_iff_ne]
   intro h
   have:=congrArg List.length h
   rw [List.length_take] at this
   simp at this
   omega
  clear hR hbl h4 hs
  go_enter Tryz.func87,Tryz.ntmps87
  go_wp2_with fail
  go_ret
  exact ⟨by rw [HF.out];rfl,rfl⟩
abbrev fs (x:ByteArray):Value:=.string x
abbrev SRow (w:World) (v:Value) (l:List ByteArray):Prop:=Row fs w v l
abbrev SOwn (w:World) (base:Nat) (v:Value) (l:List ByteArray):Prop:=Own fs 9 w base v l
theorem info_str:(Tryz.prog.info? 9).map (fun i=>(i.zero,i.size,i.bytes))=some (some (.string ⟨#[]⟩),1,16):=by kernel_rfl
theorem appendS_run {w:World} {base:Nat} {v:Value} {xs:List ByteArray} (hown:SOwn w base v xs) {x:Value} {l:List ByteArray} (hx:SRow w x l) (hlen:xs.length+l.length≤1000000) (hbase:base≤w.heap.size) :
 ∃v' w',(Builtin.append_ #[74,74] 74 #[v,x]).run Tryz.prog w=.ok v' w'∧SOwn w' base v' (xs++l)∧w.grownBy w' v.ownBlock :=
 append_gen (fun _=>rfl) Tryz.underlying74 info_str rfl (by decide) hown hx hlen hbase
end Go.Proofs.YtpohekldddbneaaGreatDoor
