import Derived.Test.YtigfgloenjoeoaaGreatDoorLcAW
import Derived.Deep.Cut
import Derived.Outline
import Derived.WalkMore
set_option linter.unusedVariables false
set_option linter.unusedSimpArgs false
set_option maxRecDepth 20000
set_option maxHeartbeats 16000000
namespace Go.Proofs.YtigfgloenjoeoaaGreatDoor
open Go.RowKit Go.Shelf
theorem hrune_high (t:ByteArray) (r:Nat) (w:World) (ht:LowS t) (h4:4≤t.size) (ht2:t.size≤1000) (hr:128≤r) (hr2:r≤1114111) (hv:r < 55296∨57344≤r) :
 Calls Tryz.prog 160 #[.string t,.int .i32 (r:Int)] w fun e w'=>e=.returned (.int .i64 (-1))∧Below w.heap.size w w':=by
 by_cases hne:r=65533
 ·subst hne
  exact hrune_err t w ht ht2
 have HT:=hid ht
 have hva:Utf8.valid (r:Int)=true:=by
  rw [validRune_eq]
  unfold validRune
  rw [decide_eq_true_eq]
  omega
 have hf:=encode_facts (r:Int) hva (by omega)
 obtain ⟨E,hE⟩:∃E,Utf8.encode (r:Int)=E:=⟨_,rfl⟩
 rw [hE] at hf
 obtain ⟨f1,f2,f3⟩:=hf
 obtain ⟨n,hn⟩:∃n,E.size=n+1:=⟨E.size-1,by omega⟩
 have hl:n < E.size:=by omega
 have hlt:n < t.size:=by omega
 have hy0:128≤(E[n]'hl).toNat:=by
  have h:=f3 (by omega)
  have e:E.size-1=n:=by omega
  simp only [e] at h
  exact h
 obtain ⟨y,hy⟩:∃y,(E[n]'hl).toNat=y:=⟨_,rfl⟩
 obtain ⟨x,hx⟩:∃x,(t[n]'hlt).toNat=x:=⟨_,rfl⟩
 have hx0:x < 128:=by rw [← hx];exact ht _ _
 rw [hy] at hy0
 have hy2:y < 256:=by rw [← hy];exact (E[n]'hl).toNat_lt
 have HB:=hid (fun a b=>byte_cut ht a b y hy0 hy2)
 have HI:=hid (fun s w=>Any.strings_IndexByte (P:=Tryz.prog) hbyteLays s (y:Int) w)
 have e1:¬(r:Int) < 128:=by omega
 have e2:((r:Int)==65533)=false:=by rw [beq_eq_false_iff_ne];omega
 have e3:((x:Int) != (y:Int))=true:=by rw [bne_iff_ne];omega
 have e4:(E.size:Int)-1=(n:Int):=by omega
 have e6:(n:Int) < (t.size:Int):=by omega
 have e7:(n:Int) < (E.size:Int):=by omega
 have e10:IntKind.wrap .i64 ((n:Int)+1)=(n:Int)+1:=by rw [IntKind.wrap_i64];omega
 have e11:(0:Int)≤(n:Int)+1:=by omega
 have e12:(n:Int)+1≤(t.size:Int):=by omega
 have e13:(r:Int)≤1114111:=by omega
 have t1:(t.size:Int)≤1000:=by omega
 have hcv:=fun W=>run_convert_int_string (P:=Tryz.prog) W 21 9 .i32 (r:Int) (by rw [Tryz.underlying21];rfl) Tryz.underlying9
 rw [hE] at hcv
 have HVR:=hid (fun w=>hvalid_calls r w hr2 hv)
 clear ht ht2 hr hr2 hva f1 f2 f3 hne h4 hv hy0 hy2 hx0 hE hn
 go_enter Tryz.func160,Tryz.ntmps160
 go_wp2_with fail
 refine (HVR.out _).mono ?_
 rintro e w1 ⟨rfl,rfl⟩
 go_wp2_with fail
 go_step3
 go_wp2_with fail
 go_loopw [9] (fun vi wr=>vi=.int .i64 (n:Int)∧w1=wr) (fun _ _=>0)
 case atStart=>exact ⟨rfl,rfl⟩
 case round =>
  obtain ⟨rfl,hww⟩:=hrel
  subst hww
  go_wp2_with fail
  go_step3
  go_wp2_with fail
  go_quiet (fail)
  have HD:=hid (below_drewN w1 nq)
  generalize w1.drewN nq=wy at *
  go_wp2_with fail
  go_quiet ((go_at_call 184;exact Calls.quiet_of_same (HI.out _ _)))
  have HD2:=hid (HD.out.trans ((below_drewN wy nq).mono HD.out.size))
  generalize wy.drewN nq=wz at *
  rw [HB.out]
  go_wp2_with fail
  rw [Exit.noGoto_ret]
  go_wp2_with fail
  rw [Exit.noGoto_ret]
  go_ret
  exact ⟨rfl,HD2.out⟩
theorem hany_short (s t:ByteArray) (w:World) (ht:LowS t) (h4:4≤t.size) (ht2:t.size≤1000) (h8:s.size≤8) :
 Calls Tryz.prog 111 #[.string s,.string t] w fun e w'=>(∃z:Int,e=.returned (.int .i64 z)∧decide (0≤z)=s.data.toList.any (fun c=>t.data.toList.contains c))∧Below w.heap.size w w':=by
 have hemp:t.toList.isEmpty=false:=by
  rw [Lib.toList_data]
  cases h:t.data.toList with
  | nil=>have:=Lib.size_eq t;rw [h,List.length_nil] at this;omega
  | cons _ _=>rfl
 have hn1:((t.size:Int)==1)=false:=beq_eq_false_iff_ne.2 (by omega)
 have h8z:decide ((8:Int) < (s.size:Int))=false:=decide_eq_false (by omega)
 have HT:=hid ht
 have H4:=hid h4
 have HT2:=hid ht2
 have HLow:=hid (fun x w (h0:(0:Int)≤x) h1=>Any.strings_IndexRune_ascii (P:=Tryz.prog) hruneLays t x w h0 h1)
 have HHigh:=hid (fun r w a b c=>hrune_high t r w HT.out H4.out HT2.out a b c)
 have HU:=hid (fun n w=>Any.strings_shouldUseASCIISet (P:=Tryz.prog) huseLays n w)
 obtain ⟨V,hV⟩:∃V,s.data.toList.any (fun c=>t.data.toList.contains c)=V:=⟨_,rfl⟩
 rw [hV]
 have HV:=hid hV
 have s1:(s.size:Int)≤8:=by omega
 clear ht h4 ht2 h8 hV
 go_enter Tryz.func111,Tryz.ntmps111
 go_wp2_with fail
 refine (HU.out _ _).mono ?_
 rintro e w1 ⟨rfl,rfl⟩
 rw [h8z]
 go_wp2_with fail
 go_loopg [] s.size (fun g wx=>∃pos:Nat,s.size≤pos+g∧pos≤s.size∧wx.heap[w1.heap.size]? = some (.stringIter s pos)∧Below w1.heap.size w1 wx∧(s.data.toList.drop pos).any (fun c=>t.data.toList.contains c)=V)
 case atStart=>exact ⟨0,by omega,by omega,World.iter_heap w1 s 0,(Below.refl _ w1).alloc (Nat.le_refl _) _,by rw [List.drop_zero];exact HV.out⟩
 case round =>
  obtain ⟨pos,hg,hps,hit,hbw,hany⟩:=hrel
  have HA:=hid hany
  clear hany
  by_cases hp:pos < s.size
  ·obtain ⟨g,rfl⟩:∃g',gk=g'+1:=⟨gk-1,by omega⟩
   by_cases hb:128≤(s[pos]'hp).toNat
   ·obtain ⟨d1,d2,d3,d4,d5,d6⟩:=high_decode s pos hp hb
    have hnx:∀ty,(Instr.next (.pointer (some ⟨w1.heap.size,0,none⟩)) true ty).run Tryz.prog wr=_:=fun ty=>Lib.run_next_any_at wr w1.heap.size s pos ty hit hp
    have hsk:=skip_any (p:=fun c=>t.data.toList.contains c) s (Utf8.decode s pos).2 pos d5 (fun j ha hb=>by
     rw [Bool.eq_false_iff]
     intro e
     have:=HT.out.list _ (List.contains_iff_mem.1 e)
     have:=d6 j ha hb
     omega)
    generalize (Utf8.decode s pos).1=R at *
    generalize (Utf8.decode s pos).2=K at *
    have HN:Hid ((s.data.toList.drop (pos+K)).any (fun c=>t.data.toList.contains c)=V):=by show _=_;rw [← hsk];exact HA.out
    have hit2:=hid (Lib.iterAt_heap wr w1.heap.size s pos (pos+K) hit)
    have hbw2:=hid (Lib.below_iterAt hbw (k:=w1.heap.size) (Nat.le_refl _) s (pos+K))
    have HC:=hid (fun w=>HHigh.out R w d1 d2 d3)
    have HF:=hid (And.intro hg (And.intro d4 d5))
    have hW:∃W,wr.iterAt w1.heap.size s (pos+K)=W:=⟨_,rfl⟩
    obtain ⟨W,hW⟩:=hW
    rw [hW] at hnx hit2 hbw2
    clear hW hsk d1 d2 d3 d4 d5 d6 hit hbw hb hg hps
    have hlt:=hid ((Array.getElem?_eq_some_iff.1 hit2.out).1)
    go_wp2_with fail
    refine (HC.out _).mono ?_
    rintro e w2 ⟨rfl,hb2⟩
    have HB2:=hid (hbw2.out.trans (hb2.mono hbw2.out.size))
    have HI2:=hid ((hb2.block _ hlt.out).trans hit2.out)
    clear hb2
    go_wp2_with fail
    go_roundg g
    case measure=>have:=HF.out;omega
    case rel=>exact ⟨pos+K,by have:=HF.out;omega,by have:=HF.out;omega,HI2.out,HB2.out,HN.out⟩
   ·have hx128:(s[pos]'hp).toNat < 128:=by omega
    have hnx:∀ty,(Instr.next (.pointer (some ⟨w1.heap.size,0,none⟩)) true ty).run Tryz.prog wr=_:=fun ty=>Lib.run_next_ascii_at wr w1.heap.size s pos ty hit hp hx128
    have hl:pos < s.data.toList.length:=by rw [Array.length_toList];exact hp
    have hdr:(s.data.toList.drop pos).any (fun c=>t.data.toList.contains c)=(t.data.toList.contains (s[pos]'hp)||(s.data.toList.drop (pos+1)).any (fun c=>t.data.toList.contains c)):=by
     rw [List.drop_eq_getElem_cons hl,List.any_cons]
     rfl
    have hcon:=Lib.contains_iff_indexByte t.data.toList (s[pos]'hp)
    have hback:(((s[pos]'hp).toNat:Int)).toNat.toUInt8=s[pos]'hp:=by simp
    have HC:=hid (fun w=>HLow.out ((s[pos]'hp).toNat:Int) w (by omega) (by omega))
    rw [hback] at HC
    have hit2:=hid (Lib.iterAt_heap wr w1.heap.size s pos (pos+1) hit)
    have hbw2:=hid (Lib.below_iterAt hbw (k:=w1.heap.size) (Nat.le_refl _) s (pos+1))
    generalize wr.iterAt w1.heap.size s (pos+1)=W at *
    obtain ⟨z,hz⟩:∃z,Lib.indexByte t.data.toList (s[pos]'hp)=z:=⟨_,rfl⟩
    rw [hz] at HC hcon
    have HF:=hid (And.intro hg hps)
    cases hin:t.data.toList.contains (s[pos]'hp) with
    | true =>
      rw [hin] at hcon hdr
      have hge:(0:Int)≤z:=of_decide_eq_true hcon.symm
      have HX:Hid (V=true):=by show _=_;rw [← HA.out,hdr,Bool.true_or]
      have HC':=HC
      generalize (s[pos]'hp).toNat=x at *
      clear hdr hcon hback hin hz hit hbw hg hps hl
      go_wp2_with fail
      refine (HC.out _).mono ?_
      rintro e w2 ⟨rfl,rfl⟩
      go_wp2_with fail
      go_ret
      exact ⟨⟨(pos:Int),rfl,by rw [HX.out,decide_eq_true];omega⟩,hbw2.out⟩
    | false =>
      rw [hin,Bool.false_or] at hdr
      rw [hin] at hcon
      have hlt:¬(0:Int)≤z:=of_decide_eq_false hcon.symm
      have HN:Hid ((s.data.toList.drop (pos+1)).any (fun c=>t.data.toList.contains c)=V):=by show _=_;rw [← hdr];exact HA.out
      have hp':=hid hp
      generalize (s[pos]'hp).toNat=x at *
      clear hdr hcon hback hin hz hit hbw hg hps hl
      go_wp2_with fail
      refine (HC.out _).mono ?_
      rintro e w2 ⟨rfl,rfl⟩
      go_wp2_with fail
      go_roundg g
      case measure=>have:=HF.out;omega
      case rel=>exact ⟨pos+1,by have:=HF.out;omega,by have:=hp'.out;omega,hit2.out,hbw2.out,HN.out⟩
  ·have hnx:∀ty,(Instr.next (.pointer (some ⟨w1.heap.size,0,none⟩)) true ty).run Tryz.prog wr=_:=fun ty=>Lib.run_next_end_at wr w1.heap.size s pos ty hit hp
   have HX:Hid (V=false):=by
    show _=_
    rw [← HA.out,List.drop_eq_nil_of_le (by rw [Array.length_toList];show s.size≤pos;omega)]
    rfl
   have HB:=hid hbw
   clear hg hps hit hbw
   go_wp2_with fail
   go_ret
   exact ⟨⟨-1,rfl,by rw [HX.out];rfl⟩,HB.out⟩
theorem hany_index (s t:ByteArray) (w:World) (hs:s.size≤100000) (ht:LowS t) (h4:4≤t.size) (ht2:t.size≤1000) :
 Calls Tryz.prog 111 #[.string s,.string t] w fun e w'=>(∃z:Int,e=.returned (.int .i64 z)∧decide (0≤z)=s.data.toList.any (fun c=>t.data.toList.contains c))∧Below w.heap.size w w':=by
 by_cases h8:s.size≤8
 ·exact hany_short s t w ht h4 ht2 h8
 ·refine (Any.strings_IndexAny_long (P:=Tryz.prog) hidxLays h116v h116i s t w (by omega) (by omega) (by omega) (by omega) (fun j b hb=>ht.list b (List.mem_of_getElem? hb))).mono ?_
  rintro e w' ⟨rfl,rfl⟩
  exact ⟨⟨_,rfl,has_any _ _⟩,((Below.refl _ _).alloc (Nat.le_refl _) _).alloc (by simp) _⟩
theorem hcont_calls (s t:ByteArray) (w:World) (hs:s.size≤100000) (ht:LowS t) (h4:4≤t.size) (ht2:t.size≤1000) :
 Calls Tryz.prog 74 #[.string s,.string t] w fun e w'=>e=.returned (.bool (s.data.toList.any (fun c=>t.data.toList.contains c)))∧Below w.heap.size w w':=by
 have HC:=hid (fun w=>hany_index s t w hs ht h4 ht2)
 generalize s.data.toList.any (fun c=>t.data.toList.contains c)=V at *
 clear hs ht h4 ht2
 go_enter Tryz.func74,Tryz.ntmps74
 go_wp2_with fail
 refine (HC.out _).mono ?_
 rintro e w1 ⟨⟨z,rfl,hz⟩,hb⟩
 go_wp2_with fail
 go_ret
 exact ⟨by rw [← hz];try rfl,hb⟩
theorem hctl_calls (c:Nat) (w:World) (hc:c≤1114111):Calls Tryz.prog 76 #[.int .i32 (c:Int)] w fun e w'=>e=.returned (.bool (decide (c < 32)))∧w'=w:=by
 have e1:decide ((c:Int) < 32)=decide (c < 32):=decide_eq_decide.2 (by omega)
 have c1:(c:Int)≤1114111:=by omega
 clear hc
 go_enter Tryz.func76,Tryz.ntmps76
 go_wp2_with fail
 go_ret
 exact ⟨by rw [← e1];rfl,rfl⟩
theorem ctl_grows (w:World):PredGrows Tryz.prog 76 #[] (fun n=>decide (n < 32)) w:=by
 intro W x hx hb
 refine (hctl_calls x W hx).mono ?_
 rintro e w' ⟨rfl,rfl⟩
 exact ⟨rfl,Below.refl _ _⟩
theorem ctl_enters:∀args w,(callFunc 76 args).run Tryz.prog w=.ok (.enter 76 args) w:=enters_of Tryz.func76 (by kernel_rfl) rfl
theorem hcfun_calls (s:ByteArray) (w:World) (hs:s.size≤100000):Calls Tryz.prog 75 #[.string s,.func (.func 76) #[] #[]] w fun e w'=>e=.returned (.bool (s.data.toList.any (fun c=>decide (c.toNat < 32))))∧Below w.heap.size w w':=by
 have HC:=hid (fun w=>Any.strings_indexFunc_grows (P:=Tryz.prog) hfunLays 76 #[] ctl_enters (fun n=>decide (n < 32)) true s w (ctl_grows w))
 have HX:=hid (func_any (fun n=>decide (n < 32)) (fun n h=>decide_eq_false (by omega)) s s.size 0 (by omega))
 rw [List.drop_zero] at HX
 obtain ⟨z,hz⟩:∃z,Lib.idxFunc (fun n=>decide (n < 32)) true s=z:=⟨_,rfl⟩
 rw [hz] at HC
 have hz':Lib.idxFuncFrom (fun n=>decide (n < 32)) true s s.size 0=z:=hz
 rw [hz'] at HX
 generalize s.data.toList.any (fun c=>decide (c.toNat < 32))=V at *
 clear hs hz hz'
 have HD:Hid (∀w,Calls Tryz.prog 112 #[.string s,.func (.func 76) #[] #[]] w fun e w'=>e=.returned (.int .i64 z)∧Below w.heap.size w w'):=by
  intro w
  go_enter Tryz.func112,Tryz.ntmps112
  go_wp2_with fail
  refine (HC.out _).mono ?_
  rintro e w1 ⟨rfl,hb⟩
  go_wp2_with fail
  go_ret
  exact ⟨rfl,hb⟩
 clear HC
 go_enter Tryz.func75,Tryz.ntmps75
 go_wp2_with fail
 refine (HD.out _).mono ?_
 rintro e w1 ⟨rfl,hb⟩
 go_wp2_with fail
 go_ret
 exact ⟨by rw [← HX.out];try rfl,hb⟩
end Go.Proofs.YtigfgloenjoeoaaGreatDoor
