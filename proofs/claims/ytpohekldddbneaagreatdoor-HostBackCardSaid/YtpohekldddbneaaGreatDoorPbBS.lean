import Derived.Test.YtpohekldddbneaaGreatDoorPbBQ
import Derived.Test.YtpohekldddbneaaGreatDoorPbBH
import Derived.Test.YtpohekldddbneaaGreatDoorPbBR
set_option linter.unusedVariables false
set_option linter.unusedSimpArgs false
set_option maxRecDepth 20000
set_option maxHeartbeats 16000000
namespace Go.Proofs.YtpohekldddbneaaGreatDoor
open Go.RowKit
theorem host_kind {l:List UInt8} {sp:Bool} {h:HostN} (he:hostR l sp=(h,0)):0≤h.1∧h.1≤4∧(sp=true→1≤h.1∧h.1≤3)∧(sp=false→h.1≠1∧h.1≠2):=by
 unfold hostR at he
 split at he
 ·cases congrArg Prod.snd he
 ·split at he
  ·unfold bracketR at he
   split at he
   ·cases congrArg Prod.snd he
   ·unfold sixH at he
    split at he
    ·obtain rfl:((3,[],0,(parse6R l.tail.dropLast).1):HostN)=h:=congrArg Prod.fst he
     exact ⟨by simp,by simp,fun _=>by simp,fun _=>by simp⟩
    ·rename_i hne
     exact absurd (congrArg Prod.snd he) hne
  ·split at he
   ·rename_i hsp
    subst hsp
    unfold specialR at he
    split at he
    ·generalize (askedR l).1=s at he
     unfold nameR at he
     split at he
     ·cases congrArg Prod.snd he
     ·split at he
      ·cases congrArg Prod.snd he
      ·split at he
       ·unfold fourH at he
        split at he
        ·obtain rfl:((2,[],(parse4R (bytesOf s)).1,z8):HostN)=h:=congrArg Prod.fst he
         exact ⟨by simp,by simp,fun _=>by simp,fun e=>absurd e (by decide)⟩
        ·rename_i hne
         exact absurd (congrArg Prod.snd he) hne
       ·obtain rfl:((1,bytesOf s,0,z8):HostN)=h:=congrArg Prod.fst he
        exact ⟨by simp,by simp,fun _=>by simp,fun e=>absurd e (by decide)⟩
    ·rename_i hne
     have hp:=ascR_pos (lossyL (unR l))
     have:((askedR l).2.toNat)=0:=congrArg Prod.snd he
     unfold askedR at this hne
     omega
   ·rename_i hsp
    have hsp':sp=false:=by simpa using hsp
    subst hsp'
    unfold darkR at he
    split at he
    ·cases congrArg Prod.snd he
    ·split at he
     ·obtain rfl:host0=h:=congrArg Prod.fst he
      exact ⟨by decide,by decide,fun e=>absurd e (by decide),fun _=>by decide⟩
     ·obtain rfl:((4,pctR 1 l,0,z8):HostN)=h:=congrArg Prod.fst he
      exact ⟨by simp,by simp,fun e=>absurd e (by decide),fun _=>by simp⟩
theorem hostBack_err (s:ByteArray) (b:Bool) (w:World) (T0:TabH w) (h5:s.size≤5000) {m:Nat} (hr:hostR s.data.toList b=(host0,m)) (hm:m≠0):Calls Tryz.prog 5 #[.string s,.bool b] w fun e w'=>e=.returned (.bool true)∧Below w.heap.size w w':=by
 have T:=hid T0
 clear T0
 have s1:¬(5000:Int) < (s.size:Int):=by omega
 have A1:=hid (fun w t=>hpost_at (w:=w) (k:=0) (l:=[]) (n:=0) (p0:=0) (p1:=0) (p2:=0) (p3:=0) (p4:=0) (p5:=0) (p6:=0) (p7:=0) hr (by omega) t)
 have A3:=hid (fun w=>hsame_calls 0 (strOf []) 0 0 0 0 0 0 0 0 0 0 (strOf []) 0 0 0 0 0 0 0 0 0 w)
 rw [beq_self_eq_true] at A3
 unfold hostV at A3
 have m1:((m:Int) != 0)=true:=by rw [bne_iff_ne];omega
 clear hr hm h5
 go_enter Tryz.func5,Tryz.ntmps5
 go_wp2_with fail
 refine (hfirst_calls _ (T.out.below (by first | exact btw (by assumption) | exact btw_al (by assumption) _ | exact btw_dr (by assumption) | exact btw_ad (by assumption) _ | exact Below.refl _ _ | exact (Below.refl _ _).alloc (Nat.le_refl _) _)).r).mono ?_
 rintro e w1 ⟨rfl,hb⟩
 have HB1:=hid hb
 clear hb
 go_wp2_with fail
 refine (A1.out _ (T.out.below (by first | exact btw (by assumption) | exact btw_al (by assumption) _ | exact btw_dr (by assumption) | exact btw_ad (by assumption) _ | exact Below.refl _ _ | exact (Below.refl _ _).alloc (Nat.le_refl _) _)).r).mono ?_
 rintro e w2 ⟨rfl,hb⟩
 have HB2:=hid (below_trans HB1.out hb)
 have HK2:Hid (BkH (w2.alloc (.cells #[.int .i64 0,.string (strOf []),.int .u32 0,.int .u16 0,.int .u16 0,.int .u16 0,.int .u16 0,.int .u16 0,.int .u16 0,.int .u16 0,.int .u16 0] 27)) w2.heap.size [.int .i64 0,.string (strOf []),.int .u32 0,.int .u16 0,.int .u16 0,.int .u16 0,.int .u16 0,.int .u16 0,.int .u16 0,.int .u16 0,.int .u16 0]):=heap_alloc_new w2 _
 clear hb HB1
 go_wp2_with fail
 refine (hfirst_calls _ (T.out.below (by first | exact btw (by assumption) | exact btw_al (by assumption) _ | exact btw_dr (by assumption) | exact btw_ad (by assumption) _ | exact Below.refl _ _ | exact (Below.refl _ _).alloc (Nat.le_refl _) _)).r).mono ?_
 rintro e w3 ⟨rfl,hb⟩
 have HB3:=hid (below_moreH HB2.out _ hb)
 have HK3:=hid (Bk.below HK2.out hb)
 clear hb HB2 HK2
 obtain ⟨⟨c0,c1,c2,c3,c4,c5,c6,c7,c8,c9,c10⟩,-⟩:=cellsH HK3.out
 go_wp2_with fail
 refine (A3.out _).mono ?_
 rintro e w4 ⟨rfl,hb⟩
 have HB4:=hid (below_trans HB3.out hb)
 clear hb HB3
 go_wp2_with fail
 go_ret
 exact ⟨rfl,HB4.out⟩
theorem hostBack_tl (s:ByteArray) (w:World) (T0:TabH w) (h5:s.size≤5000) {k:Int} {t:List UInt8} {n a0 a1 a2 a3 a4 a5 a6 a7:Nat} (hr:hostR s.data.toList true=((k,t,n,[a0,a1,a2,a3,a4,a5,a6,a7]),0)) (hx:∀x∈[a0,a1,a2,a3,a4,a5,a6,a7],x < 65536) (hn:n < 4294967296) (ht:t.length≤12000) (hl:4000 < (printR (k,t,n,[a0,a1,a2,a3,a4,a5,a6,a7])).length):Calls Tryz.prog 5 #[.string s,.bool true] w fun e w'=>e=.returned (.bool true)∧Below w.heap.size w w':=by
 have T:=hid T0
 clear T0
 have s1:¬(5000:Int) < (s.size:Int):=by omega
 have hk:=host_kind hr
 have A1:=hid (fun w t=>hpost_at (w:=w) hr (by omega) t)
 have hts:(strOf t).size≤100000:=by show t.length≤100000;omega
 have A2:=hid (fun w tt=>hprint_calls k (strOf t) n a0 a1 a2 a3 a4 a5 a6 a7 w hn hx hts tt)
 rw [str_data] at A2
 have hps:(strOf (printR (k,t,n,[a0,a1,a2,a3,a4,a5,a6,a7]))).size≤100000:=print_short (s:=strOf t) hn hx hts
 have hsz:(strOf (printR (k,t,n,[a0,a1,a2,a3,a4,a5,a6,a7]))).size=(printR (k,t,n,[a0,a1,a2,a3,a4,a5,a6,a7])).length:=rfl
 have A3:=hid (fun w t=>hpost_at (s:=strOf (printR (k,_,n,[a0,a1,a2,a3,a4,a5,a6,a7]))) (w:=w) (k:=0) (l:=[]) (n:=0) (p0:=0) (p1:=0) (p2:=0) (p3:=0) (p4:=0) (p5:=0) (p6:=0) (p7:=0) (hostR_long (b:=true) (by rw [str_data];exact hl)) hps t)
 have l1:(4000:Int) < ((strOf (printR (k,t,n,[a0,a1,a2,a3,a4,a5,a6,a7]))).size:Int):=by omega
 unfold hostV at A2
 generalize strOf (printR (k,t,n,[a0,a1,a2,a3,a4,a5,a6,a7]))=PS at *
 have k1:¬k < 1:=by have:=hk.2.2.1 rfl;omega
 have k2:¬3 < k:=by have:=hk.2.2.1 rfl;omega
 have k3:¬k < 0:=by have:=hk.1;omega
 have k4:¬4 < k:=by have:=hk.2.1;omega
 clear hk hr hx hn ht hl hts hps hsz h5
 go_enter Tryz.func5,Tryz.ntmps5
 go_wp2_with fail
 refine (hfirst_calls _ (T.out.below (by first | exact btw (by assumption) | exact btw_al (by assumption) _ | exact btw_dr (by assumption) | exact btw_ad (by assumption) _ | exact Below.refl _ _ | exact (Below.refl _ _).alloc (Nat.le_refl _) _)).r).mono ?_
 rintro e w1 ⟨rfl,hb⟩
 have HB1:=hid hb
 clear hb
 go_wp2_with fail
 refine (A1.out _ (T.out.below (by first | exact btw (by assumption) | exact btw_al (by assumption) _ | exact btw_dr (by assumption) | exact btw_ad (by assumption) _ | exact Below.refl _ _ | exact (Below.refl _ _).alloc (Nat.le_refl _) _)).r).mono ?_
 rintro e w2 ⟨rfl,hb⟩
 have HB2:=hid (below_trans HB1.out hb)
 have HK2:Hid (BkH (w2.alloc (.cells #[.int .i64 k,.string (strOf t),.int .u32 (n:Int),.int .u16 (a0:Int),.int .u16 (a1:Int),.int .u16 (a2:Int),.int .u16 (a3:Int),.int .u16 (a4:Int),.int .u16 (a5:Int),.int .u16 (a6:Int),.int .u16 (a7:Int)] 27)) w2.heap.size [.int .i64 k,.string (strOf t),.int .u32 (n:Int),.int .u16 (a0:Int),.int .u16 (a1:Int),.int .u16 (a2:Int),.int .u16 (a3:Int),.int .u16 (a4:Int),.int .u16 (a5:Int),.int .u16 (a6:Int),.int .u16 (a7:Int)]):=heap_alloc_new w2 _
 clear hb HB1
 go_wp2_with fail
 refine (A2.out _ (T.out.below (by first | exact btw (by assumption) | exact btw_al (by assumption) _ | exact btw_dr (by assumption) | exact btw_ad (by assumption) _ | exact Below.refl _ _ | exact (Below.refl _ _).alloc (Nat.le_refl _) _))).mono ?_
 rintro e w3 ⟨rfl,hb⟩
 have HB3:=hid (below_moreH HB2.out _ hb)
 have HK3:=hid (Bk.below HK2.out hb)
 clear hb HB2 HK2
 obtain ⟨⟨c0,c1,c2,c3,c4,c5,c6,c7,c8,c9,c10⟩,-⟩:=cellsH HK3.out
 go_wp2_with fail
 refine (A3.out _ (T.out.below (by first | exact btw (by assumption) | exact btw_al (by assumption) _ | exact btw_dr (by assumption) | exact btw_ad (by assumption) _ | exact Below.refl _ _ | exact (Below.refl _ _).alloc (Nat.le_refl _) _)).r).mono ?_
 rintro e w4 ⟨rfl,hb⟩
 have HB4:=hid (below_trans HB3.out hb)
 have HK4:=hid (Bk.below HK3.out hb)
 clear hb HB3 HK3 c0 c1 c2 c3 c4 c5 c6 c7 c8 c9 c10
 have HK5:=hid (Bk.below HK4.out (ballC w4 (.cells #[.int .i64 0,.string (strOf []),.int .u32 0,.int .u16 0,.int .u16 0,.int .u16 0,.int .u16 0,.int .u16 0,.int .u16 0,.int .u16 0,.int .u16 0] 27)))
 have HL5:Hid (BkH (w4.alloc (.cells #[.int .i64 0,.string (strOf []),.int .u32 0,.int .u16 0,.int .u16 0,.int .u16 0,.int .u16 0,.int .u16 0,.int .u16 0,.int .u16 0,.int .u16 0] 27)) w4.heap.size [.int .i64 0,.string (strOf []),.int .u32 0,.int .u16 0,.int .u16 0,.int .u16 0,.int .u16 0,.int .u16 0,.int .u16 0,.int .u16 0,.int .u16 0]):=heap_alloc_new w4 _
 obtain ⟨⟨c0,c1,c2,c3,c4,c5,c6,c7,c8,c9,c10⟩,-⟩:=cellsH HK5.out
 go_wp2_with fail
 refine (hfirst_calls _ (T.out.below (by first | exact btw (by assumption) | exact btw_al (by assumption) _ | exact btw_dr (by assumption) | exact btw_ad (by assumption) _ | exact Below.refl _ _ | exact (Below.refl _ _).alloc (Nat.le_refl _) _)).r).mono ?_
 rintro e w5 ⟨rfl,hb⟩
 have HB5:=hid (below_moreH HB4.out _ hb)
 have HK6:=hid (Bk.below HK5.out hb)
 have HL6:=hid (Bk.below HL5.out hb)
 clear hb HB4 HK4 HK5 HL5 c0 c1 c2 c3 c4 c5 c6 c7 c8 c9 c10
 go_wp2_with fail
 go_ret
 exact ⟨rfl,HB5.out⟩
theorem hostBack_ts (s:ByteArray) (w:World) (T0:TabH w) (h5:s.size≤5000) {k:Int} {t:List UInt8} {n a0 a1 a2 a3 a4 a5 a6 a7:Nat} (hr:hostR s.data.toList true=((k,t,n,[a0,a1,a2,a3,a4,a5,a6,a7]),0)) (hx:∀x∈[a0,a1,a2,a3,a4,a5,a6,a7],x < 65536) (hn:n < 4294967296) (ht:t.length≤12000) (hl:¬4000 < (printR (k,t,n,[a0,a1,a2,a3,a4,a5,a6,a7])).length):Calls Tryz.prog 5 #[.string s,.bool true] w fun e w'=>e=.returned (.bool true)∧Below w.heap.size w w':=by
 have T:=hid T0
 clear T0
 have s1:¬(5000:Int) < (s.size:Int):=by omega
 have hk:=host_kind hr
 have A1:=hid (fun w t=>hpost_at (w:=w) hr (by omega) t)
 have hts:(strOf t).size≤100000:=by show t.length≤100000;omega
 have A2:=hid (fun w tt=>hprint_calls k (strOf t) n a0 a1 a2 a3 a4 a5 a6 a7 w hn hx hts tt)
 rw [str_data] at A2
 have hps:(strOf (printR (k,t,n,[a0,a1,a2,a3,a4,a5,a6,a7]))).size≤100000:=print_short (s:=strOf t) hn hx hts
 have hsz:(strOf (printR (k,t,n,[a0,a1,a2,a3,a4,a5,a6,a7]))).size=(printR (k,t,n,[a0,a1,a2,a3,a4,a5,a6,a7])).length:=rfl
 have hbk:=host_back hr (by omega)
 have A3:=hid (fun w tt=>hpost_at (s:=strOf (printR (k,t,n,[a0,a1,a2,a3,a4,a5,a6,a7]))) (w:=w) (by rw [str_data];exact hbk.1) hps tt)
 have l1:¬(4000:Int) < ((strOf (printR (k,t,n,[a0,a1,a2,a3,a4,a5,a6,a7]))).size:Int):=by omega
 have A4:=hid (fun w=>hsame_calls k (strOf t) n a0 a1 a2 a3 a4 a5 a6 a7 k (strOf t) n a0 a1 a2 a3 a4 a5 a6 a7 w)
 rw [beq_self_eq_true] at A4
 have A5:=hid (fun w tt=>hmay_calls k (strOf t) n a0 a1 a2 a3 a4 a5 a6 a7 w hn hx hts tt)
 rw [str_data,may_back hr (by omega)] at A5
 unfold hostV at A4 A5
 unfold hostV at A2
 generalize strOf (printR (k,t,n,[a0,a1,a2,a3,a4,a5,a6,a7]))=PS at *
 have k1:¬k < 1:=by have:=hk.2.2.1 rfl;omega
 have k2:¬3 < k:=by have:=hk.2.2.1 rfl;omega
 have k3:¬k < 0:=by have:=hk.1;omega
 have k4:¬4 < k:=by have:=hk.2.1;omega
 clear hk hr hx hn ht hl hts hps hsz h5 hbk
 go_enter Tryz.func5,Tryz.ntmps5
 go_wp2_with fail
 refine (hfirst_calls _ (T.out.below (by first | exact btw (by assumption) | exact btw_al (by assumption) _ | exact btw_dr (by assumption) | exact btw_ad (by assumption) _ | exact Below.refl _ _ | exact (Below.refl _ _).alloc (Nat.le_refl _) _)).r).mono ?_
 rintro e w1 ⟨rfl,hb⟩
 have HB1:=hid hb
 clear hb
 go_wp2_with fail
 refine (A1.out _ (T.out.below (by first | exact btw (by assumption) | exact btw_al (by assumption) _ | exact btw_dr (by assumption) | exact btw_ad (by assumption) _ | exact Below.refl _ _ | exact (Below.refl _ _).alloc (Nat.le_refl _) _)).r).mono ?_
 rintro e w2 ⟨rfl,hb⟩
 have HB2:=hid (below_trans HB1.out hb)
 have HK2:Hid (BkH (w2.alloc (.cells #[.int .i64 k,.string (strOf t),.int .u32 (n:Int),.int .u16 (a0:Int),.int .u16 (a1:Int),.int .u16 (a2:Int),.int .u16 (a3:Int),.int .u16 (a4:Int),.int .u16 (a5:Int),.int .u16 (a6:Int),.int .u16 (a7:Int)] 27)) w2.heap.size [.int .i64 k,.string (strOf t),.int .u32 (n:Int),.int .u16 (a0:Int),.int .u16 (a1:Int),.int .u16 (a2:Int),.int .u16 (a3:Int),.int .u16 (a4:Int),.int .u16 (a5:Int),.int .u16 (a6:Int),.int .u16 (a7:Int)]):=heap_alloc_new w2 _
 clear hb HB1
 go_wp2_with fail
 refine (A2.out _ (T.out.below (by first | exact btw (by assumption) | exact btw_al (by assumption) _ | exact btw_dr (by assumption) | exact btw_ad (by assumption) _ | exact Below.refl _ _ | exact (Below.refl _ _).alloc (Nat.le_refl _) _))).mono ?_
 rintro e w3 ⟨rfl,hb⟩
 have HB3:=hid (below_moreH HB2.out _ hb)
 have HK3:=hid (Bk.below HK2.out hb)
 clear hb HB2 HK2
 obtain ⟨⟨c0,c1,c2,c3,c4,c5,c6,c7,c8,c9,c10⟩,-⟩:=cellsH HK3.out
 go_wp2_with fail
 refine (A3.out _ (T.out.below (by first | exact btw (by assumption) | exact btw_al (by assumption) _ | exact btw_dr (by assumption) | exact btw_ad (by assumption) _ | exact Below.refl _ _ | exact (Below.refl _ _).alloc (Nat.le_refl _) _)).r).mono ?_
 rintro e w4 ⟨rfl,hb⟩
 have HB4:=hid (below_trans HB3.out hb)
 have HK4:=hid (Bk.below HK3.out hb)
 clear hb HB3 HK3 c0 c1 c2 c3 c4 c5 c6 c7 c8 c9 c10
 have HK5:=hid (Bk.below HK4.out (ballC w4 (.cells #[.int .i64 k,.string (strOf t),.int .u32 (n:Int),.int .u16 (a0:Int),.int .u16 (a1:Int),.int .u16 (a2:Int),.int .u16 (a3:Int),.int .u16 (a4:Int),.int .u16 (a5:Int),.int .u16 (a6:Int),.int .u16 (a7:Int)] 27)))
 have HL5:Hid (BkH (w4.alloc (.cells #[.int .i64 k,.string (strOf t),.int .u32 (n:Int),.int .u16 (a0:Int),.int .u16 (a1:Int),.int .u16 (a2:Int),.int .u16 (a3:Int),.int .u16 (a4:Int),.int .u16 (a5:Int),.int .u16 (a6:Int),.int .u16 (a7:Int)] 27)) w4.heap.size [.int .i64 k,.string (strOf t),.int .u32 (n:Int),.int .u16 (a0:Int),.int .u16 (a1:Int),.int .u16 (a2:Int),.int .u16 (a3:Int),.int .u16 (a4:Int),.int .u16 (a5:Int),.int .u16 (a6:Int),.int .u16 (a7:Int)]):=heap_alloc_new w4 _
 obtain ⟨⟨c0,c1,c2,c3,c4,c5,c6,c7,c8,c9,c10⟩,-⟩:=cellsH HK5.out
 go_wp2_with fail
 refine (hfirst_calls _ (T.out.below (by first | exact btw (by assumption) | exact btw_al (by assumption) _ | exact btw_dr (by assumption) | exact btw_ad (by assumption) _ | exact Below.refl _ _ | exact (Below.refl _ _).alloc (Nat.le_refl _) _)).r).mono ?_
 rintro e w5 ⟨rfl,hb⟩
 have HB5:=hid (below_moreH HB4.out _ hb)
 have HK6:=hid (Bk.below HK5.out hb)
 have HL6:=hid (Bk.below HL5.out hb)
 clear hb HB4 HK4 HK5 HL5 c0 c1 c2 c3 c4 c5 c6 c7 c8 c9 c10
 obtain ⟨⟨c0,c1,c2,c3,c4,c5,c6,c7,c8,c9,c10⟩,-⟩:=cellsH HK6.out
 obtain ⟨⟨d0,d1,d2,d3,d4,d5,d6,d7,d8,d9,d10⟩,-⟩:=cellsH HL6.out
 go_wp2_with fail
 refine (A4.out _).mono ?_
 rintro e w6 ⟨rfl,hb⟩
 have HB6:=hid (below_trans HB5.out hb)
 have HK7:=hid (Bk.below HK6.out hb)
 clear hb HB5 HK6 HL6 c0 c1 c2 c3 c4 c5 c6 c7 c8 c9 c10 d0 d1 d2 d3 d4 d5 d6 d7 d8 d9 d10
 obtain ⟨⟨c0,c1,c2,c3,c4,c5,c6,c7,c8,c9,c10⟩,-⟩:=cellsH HK7.out
 go_wp2_with fail
 refine (A5.out _ (T.out.below (by first | exact btw (by assumption) | exact btw_al (by assumption) _ | exact btw_dr (by assumption) | exact btw_ad (by assumption) _ | exact Below.refl _ _ | exact (Below.refl _ _).alloc (Nat.le_refl _) _))).mono ?_
 rintro e w7 ⟨rfl,hb⟩
 have HB7:=hid (below_trans HB6.out hb)
 clear hb HB6
 go_wp2_with fail
 go_ret
 exact ⟨rfl,HB7.out⟩
theorem hostBack_fl (s:ByteArray) (w:World) (T0:TabH w) (h5:s.size≤5000) {k:Int} {t:List UInt8} {n a0 a1 a2 a3 a4 a5 a6 a7:Nat} (hr:hostR s.data.toList false=((k,t,n,[a0,a1,a2,a3,a4,a5,a6,a7]),0)) (hx:∀x∈[a0,a1,a2,a3,a4,a5,a6,a7],x < 65536) (hn:n < 4294967296) (ht:t.length≤12000) (hl:4000 < (printR (k,t,n,[a0,a1,a2,a3,a4,a5,a6,a7])).length):Calls Tryz.prog 5 #[.string s,.bool false] w fun e w'=>e=.returned (.bool true)∧Below w.heap.size w w':=by
 have T:=hid T0
 clear T0
 have s1:¬(5000:Int) < (s.size:Int):=by omega
 have hk:=host_kind hr
 have A1:=hid (fun w t=>hpost_at (w:=w) hr (by omega) t)
 have hts:(strOf t).size≤100000:=by show t.length≤100000;omega
 have A2:=hid (fun w tt=>hprint_calls k (strOf t) n a0 a1 a2 a3 a4 a5 a6 a7 w hn hx hts tt)
 rw [str_data] at A2
 have hps:(strOf (printR (k,t,n,[a0,a1,a2,a3,a4,a5,a6,a7]))).size≤100000:=print_short (s:=strOf t) hn hx hts
 have hsz:(strOf (printR (k,t,n,[a0,a1,a2,a3,a4,a5,a6,a7]))).size=(printR (k,t,n,[a0,a1,a2,a3,a4,a5,a6,a7])).length:=rfl
 have A3:=hid (fun w t=>hpost_at (s:=strOf (printR (k,_,n,[a0,a1,a2,a3,a4,a5,a6,a7]))) (w:=w) (k:=0) (l:=[]) (n:=0) (p0:=0) (p1:=0) (p2:=0) (p3:=0) (p4:=0) (p5:=0) (p6:=0) (p7:=0) (hostR_long (b:=false) (by rw [str_data];exact hl)) hps t)
 have l1:(4000:Int) < ((strOf (printR (k,t,n,[a0,a1,a2,a3,a4,a5,a6,a7]))).size:Int):=by omega
 unfold hostV at A2
 generalize strOf (printR (k,t,n,[a0,a1,a2,a3,a4,a5,a6,a7]))=PS at *
 have k1:(k==1)=false:=beq_eq_false_iff_ne.2 (hk.2.2.2 rfl).1
 have k2:(k==2)=false:=beq_eq_false_iff_ne.2 (hk.2.2.2 rfl).2
 have k3:¬k < 0:=by have:=hk.1;omega
 have k4:¬4 < k:=by have:=hk.2.1;omega
 clear hk hr hx hn ht hl hts hps hsz h5
 go_enter Tryz.func5,Tryz.ntmps5
 go_wp2_with fail
 refine (hfirst_calls _ (T.out.below (by first | exact btw (by assumption) | exact btw_al (by assumption) _ | exact btw_dr (by assumption) | exact btw_ad (by assumption) _ | exact Below.refl _ _ | exact (Below.refl _ _).alloc (Nat.le_refl _) _)).r).mono ?_
 rintro e w1 ⟨rfl,hb⟩
 have HB1:=hid hb
 clear hb
 go_wp2_with fail
 refine (A1.out _ (T.out.below (by first | exact btw (by assumption) | exact btw_al (by assumption) _ | exact btw_dr (by assumption) | exact btw_ad (by assumption) _ | exact Below.refl _ _ | exact (Below.refl _ _).alloc (Nat.le_refl _) _)).r).mono ?_
 rintro e w2 ⟨rfl,hb⟩
 have HB2:=hid (below_trans HB1.out hb)
 have HK2:Hid (BkH (w2.alloc (.cells #[.int .i64 k,.string (strOf t),.int .u32 (n:Int),.int .u16 (a0:Int),.int .u16 (a1:Int),.int .u16 (a2:Int),.int .u16 (a3:Int),.int .u16 (a4:Int),.int .u16 (a5:Int),.int .u16 (a6:Int),.int .u16 (a7:Int)] 27)) w2.heap.size [.int .i64 k,.string (strOf t),.int .u32 (n:Int),.int .u16 (a0:Int),.int .u16 (a1:Int),.int .u16 (a2:Int),.int .u16 (a3:Int),.int .u16 (a4:Int),.int .u16 (a5:Int),.int .u16 (a6:Int),.int .u16 (a7:Int)]):=heap_alloc_new w2 _
 clear hb HB1
 go_wp2_with fail
 refine (A2.out _ (T.out.below (by first | exact btw (by assumption) | exact btw_al (by assumption) _ | exact btw_dr (by assumption) | exact btw_ad (by assumption) _ | exact Below.refl _ _ | exact (Below.refl _ _).alloc (Nat.le_refl _) _))).mono ?_
 rintro e w3 ⟨rfl,hb⟩
 have HB3:=hid (below_moreH HB2.out _ hb)
 have HK3:=hid (Bk.below HK2.out hb)
 clear hb HB2 HK2
 obtain ⟨⟨c0,c1,c2,c3,c4,c5,c6,c7,c8,c9,c10⟩,-⟩:=cellsH HK3.out
 go_wp2_with fail
 refine (A3.out _ (T.out.below (by first | exact btw (by assumption) | exact btw_al (by assumption) _ | exact btw_dr (by assumption) | exact btw_ad (by assumption) _ | exact Below.refl _ _ | exact (Below.refl _ _).alloc (Nat.le_refl _) _)).r).mono ?_
 rintro e w4 ⟨rfl,hb⟩
 have HB4:=hid (below_trans HB3.out hb)
 have HK4:=hid (Bk.below HK3.out hb)
 clear hb HB3 HK3 c0 c1 c2 c3 c4 c5 c6 c7 c8 c9 c10
 have HK5:=hid (Bk.below HK4.out (ballC w4 (.cells #[.int .i64 0,.string (strOf []),.int .u32 0,.int .u16 0,.int .u16 0,.int .u16 0,.int .u16 0,.int .u16 0,.int .u16 0,.int .u16 0,.int .u16 0] 27)))
 have HL5:Hid (BkH (w4.alloc (.cells #[.int .i64 0,.string (strOf []),.int .u32 0,.int .u16 0,.int .u16 0,.int .u16 0,.int .u16 0,.int .u16 0,.int .u16 0,.int .u16 0,.int .u16 0] 27)) w4.heap.size [.int .i64 0,.string (strOf []),.int .u32 0,.int .u16 0,.int .u16 0,.int .u16 0,.int .u16 0,.int .u16 0,.int .u16 0,.int .u16 0,.int .u16 0]):=heap_alloc_new w4 _
 obtain ⟨⟨c0,c1,c2,c3,c4,c5,c6,c7,c8,c9,c10⟩,-⟩:=cellsH HK5.out
 go_wp2_with fail
 refine (hfirst_calls _ (T.out.below (by first | exact btw (by assumption) | exact btw_al (by assumption) _ | exact btw_dr (by assumption) | exact btw_ad (by assumption) _ | exact Below.refl _ _ | exact (Below.refl _ _).alloc (Nat.le_refl _) _)).r).mono ?_
 rintro e w5 ⟨rfl,hb⟩
 have HB5:=hid (below_moreH HB4.out _ hb)
 have HK6:=hid (Bk.below HK5.out hb)
 have HL6:=hid (Bk.below HL5.out hb)
 clear hb HB4 HK4 HK5 HL5 c0 c1 c2 c3 c4 c5 c6 c7 c8 c9 c10
 go_wp2_with fail
 go_ret
 exact ⟨rfl,HB5.out⟩
theorem hostBack_fs (s:ByteArray) (w:World) (T0:TabH w) (h5:s.size≤5000) {k:Int} {t:List UInt8} {n a0 a1 a2 a3 a4 a5 a6 a7:Nat} (hr:hostR s.data.toList false=((k,t,n,[a0,a1,a2,a3,a4,a5,a6,a7]),0)) (hx:∀x∈[a0,a1,a2,a3,a4,a5,a6,a7],x < 65536) (hn:n < 4294967296) (ht:t.length≤12000) (hl:¬4000 < (printR (k,t,n,[a0,a1,a2,a3,a4,a5,a6,a7])).length):Calls Tryz.prog 5 #[.string s,.bool false] w fun e w'=>e=.returned (.bool true)∧Below w.heap.size w w':=by
 have T:=hid T0
 clear T0
 have s1:¬(5000:Int) < (s.size:Int):=by omega
 have hk:=host_kind hr
 have A1:=hid (fun w t=>hpost_at (w:=w) hr (by omega) t)
 have hts:(strOf t).size≤100000:=by show t.length≤100000;omega
 have A2:=hid (fun w tt=>hprint_calls k (strOf t) n a0 a1 a2 a3 a4 a5 a6 a7 w hn hx hts tt)
 rw [str_data] at A2
 have hps:(strOf (printR (k,t,n,[a0,a1,a2,a3,a4,a5,a6,a7]))).size≤100000:=print_short (s:=strOf t) hn hx hts
 have hsz:(strOf (printR (k,t,n,[a0,a1,a2,a3,a4,a5,a6,a7]))).size=(printR (k,t,n,[a0,a1,a2,a3,a4,a5,a6,a7])).length:=rfl
 have hbk:=host_back hr (by omega)
 have A3:=hid (fun w tt=>hpost_at (s:=strOf (printR (k,t,n,[a0,a1,a2,a3,a4,a5,a6,a7]))) (w:=w) (by rw [str_data];exact hbk.1) hps tt)
 have l1:¬(4000:Int) < ((strOf (printR (k,t,n,[a0,a1,a2,a3,a4,a5,a6,a7]))).size:Int):=by omega
 have A4:=hid (fun w=>hsame_calls k (strOf t) n a0 a1 a2 a3 a4 a5 a6 a7 k (strOf t) n a0 a1 a2 a3 a4 a5 a6 a7 w)
 rw [beq_self_eq_true] at A4
 have A5:=hid (fun w tt=>hmay_calls k (strOf t) n a0 a1 a2 a3 a4 a5 a6 a7 w hn hx hts tt)
 rw [str_data,may_back hr (by omega)] at A5
 unfold hostV at A4 A5
 unfold hostV at A2
 generalize strOf (printR (k,t,n,[a0,a1,a2,a3,a4,a5,a6,a7]))=PS at *
 have k1:(k==1)=false:=beq_eq_false_iff_ne.2 (hk.2.2.2 rfl).1
 have k2:(k==2)=false:=beq_eq_false_iff_ne.2 (hk.2.2.2 rfl).2
 have k3:¬k < 0:=by have:=hk.1;omega
 have k4:¬4 < k:=by have:=hk.2.1;omega
 clear hk hr hx hn ht hl hts hps hsz h5 hbk
 go_enter Tryz.func5,Tryz.ntmps5
 go_wp2_with fail
 refine (hfirst_calls _ (T.out.below (by first | exact btw (by assumption) | exact btw_al (by assumption) _ | exact btw_dr (by assumption) | exact btw_ad (by assumption) _ | exact Below.refl _ _ | exact (Below.refl _ _).alloc (Nat.le_refl _) _)).r).mono ?_
 rintro e w1 ⟨rfl,hb⟩
 have HB1:=hid hb
 clear hb
 go_wp2_with fail
 refine (A1.out _ (T.out.below (by first | exact btw (by assumption) | exact btw_al (by assumption) _ | exact btw_dr (by assumption) | exact btw_ad (by assumption) _ | exact Below.refl _ _ | exact (Below.refl _ _).alloc (Nat.le_refl _) _)).r).mono ?_
 rintro e w2 ⟨rfl,hb⟩
 have HB2:=hid (below_trans HB1.out hb)
 have HK2:Hid (BkH (w2.alloc (.cells #[.int .i64 k,.string (strOf t),.int .u32 (n:Int),.int .u16 (a0:Int),.int .u16 (a1:Int),.int .u16 (a2:Int),.int .u16 (a3:Int),.int .u16 (a4:Int),.int .u16 (a5:Int),.int .u16 (a6:Int),.int .u16 (a7:Int)] 27)) w2.heap.size [.int .i64 k,.string (strOf t),.int .u32 (n:Int),.int .u16 (a0:Int),.int .u16 (a1:Int),.int .u16 (a2:Int),.int .u16 (a3:Int),.int .u16 (a4:Int),.int .u16 (a5:Int),.int .u16 (a6:Int),.int .u16 (a7:Int)]):=heap_alloc_new w2 _
 clear hb HB1
 go_wp2_with fail
 refine (A2.out _ (T.out.below (by first | exact btw (by assumption) | exact btw_al (by assumption) _ | exact btw_dr (by assumption) | exact btw_ad (by assumption) _ | exact Below.refl _ _ | exact (Below.refl _ _).alloc (Nat.le_refl _) _))).mono ?_
 rintro e w3 ⟨rfl,hb⟩
 have HB3:=hid (below_moreH HB2.out _ hb)
 have HK3:=hid (Bk.below HK2.out hb)
 clear hb HB2 HK2
 obtain ⟨⟨c0,c1,c2,c3,c4,c5,c6,c7,c8,c9,c10⟩,-⟩:=cellsH HK3.out
 go_wp2_with fail
 refine (A3.out _ (T.out.below (by first | exact btw (by assumption) | exact btw_al (by assumption) _ | exact btw_dr (by assumption) | exact btw_ad (by assumption) _ | exact Below.refl _ _ | exact (Below.refl _ _).alloc (Nat.le_refl _) _)).r).mono ?_
 rintro e w4 ⟨rfl,hb⟩
 have HB4:=hid (below_trans HB3.out hb)
 have HK4:=hid (Bk.below HK3.out hb)
 clear hb HB3 HK3 c0 c1 c2 c3 c4 c5 c6 c7 c8 c9 c10
 have HK5:=hid (Bk.below HK4.out (ballC w4 (.cells #[.int .i64 k,.string (strOf t),.int .u32 (n:Int),.int .u16 (a0:Int),.int .u16 (a1:Int),.int .u16 (a2:Int),.int .u16 (a3:Int),.int .u16 (a4:Int),.int .u16 (a5:Int),.int .u16 (a6:Int),.int .u16 (a7:Int)] 27)))
 have HL5:Hid (BkH (w4.alloc (.cells #[.int .i64 k,.string (strOf t),.int .u32 (n:Int),.int .u16 (a0:Int),.int .u16 (a1:Int),.int .u16 (a2:Int),.int .u16 (a3:Int),.int .u16 (a4:Int),.int .u16 (a5:Int),.int .u16 (a6:Int),.int .u16 (a7:Int)] 27)) w4.heap.size [.int .i64 k,.string (strOf t),.int .u32 (n:Int),.int .u16 (a0:Int),.int .u16 (a1:Int),.int .u16 (a2:Int),.int .u16 (a3:Int),.int .u16 (a4:Int),.int .u16 (a5:Int),.int .u16 (a6:Int),.int .u16 (a7:Int)]):=heap_alloc_new w4 _
 obtain ⟨⟨c0,c1,c2,c3,c4,c5,c6,c7,c8,c9,c10⟩,-⟩:=cellsH HK5.out
 go_wp2_with fail
 refine (hfirst_calls _ (T.out.below (by first | exact btw (by assumption) | exact btw_al (by assumption) _ | exact btw_dr (by assumption) | exact btw_ad (by assumption) _ | exact Below.refl _ _ | exact (Below.refl _ _).alloc (Nat.le_refl _) _)).r).mono ?_
 rintro e w5 ⟨rfl,hb⟩
 have HB5:=hid (below_moreH HB4.out _ hb)
 have HK6:=hid (Bk.below HK5.out hb)
 have HL6:=hid (Bk.below HL5.out hb)
 clear hb HB4 HK4 HK5 HL5 c0 c1 c2 c3 c4 c5 c6 c7 c8 c9 c10
 obtain ⟨⟨c0,c1,c2,c3,c4,c5,c6,c7,c8,c9,c10⟩,-⟩:=cellsH HK6.out
 obtain ⟨⟨d0,d1,d2,d3,d4,d5,d6,d7,d8,d9,d10⟩,-⟩:=cellsH HL6.out
 go_wp2_with fail
 refine (A4.out _).mono ?_
 rintro e w6 ⟨rfl,hb⟩
 have HB6:=hid (below_trans HB5.out hb)
 have HK7:=hid (Bk.below HK6.out hb)
 clear hb HB5 HK6 HL6 c0 c1 c2 c3 c4 c5 c6 c7 c8 c9 c10 d0 d1 d2 d3 d4 d5 d6 d7 d8 d9 d10
 obtain ⟨⟨c0,c1,c2,c3,c4,c5,c6,c7,c8,c9,c10⟩,-⟩:=cellsH HK7.out
 go_wp2_with fail
 refine (A5.out _ (T.out.below (by first | exact btw (by assumption) | exact btw_al (by assumption) _ | exact btw_dr (by assumption) | exact btw_ad (by assumption) _ | exact Below.refl _ _ | exact (Below.refl _ _).alloc (Nat.le_refl _) _))).mono ?_
 rintro e w7 ⟨rfl,hb⟩
 have HB7:=hid (below_trans HB6.out hb)
 clear hb HB6
 go_wp2_with fail
 go_ret
 exact ⟨rfl,HB7.out⟩
theorem hostBack_walk (s:ByteArray) (b:Bool) (w:World) (T0:TabH w) (hs:s.size≤maxLen):Calls Tryz.prog 5 #[.string s,.bool b] w fun e w'=>e=.returned (.bool true)∧Below w.heap.size w w':=by
 unfold maxLen at hs
 by_cases h5:s.size≤5000
 ·obtain ⟨k,t,n,a0,a1,a2,a3,a4,a5,a6,a7,m,hr,hx,hn,ht⟩:=host_parts s.data.toList b
  by_cases hm:m=0
  ·subst hm
   by_cases hl:4000 < (printR (k,t,n,[a0,a1,a2,a3,a4,a5,a6,a7])).length
   ·cases b
    ·exact hostBack_fl s w T0 h5 hr hx hn ht hl
    ·exact hostBack_tl s w T0 h5 hr hx hn ht hl
   ·cases b
    ·exact hostBack_fs s w T0 h5 hr hx hn ht hl
    ·exact hostBack_ts s w T0 h5 hr hx hn ht hl
  ·have he:=host_err (l:=s.data.toList) (sp:=b) (by rw [hr];exact hm)
   refine hostBack_err s b w T0 h5 (m:=m) ?_ hm
   rw [hr] at he ⊢
   rw [show ((k,t,n,[a0,a1,a2,a3,a4,a5,a6,a7]):HostN)=host0 from he]
 ·have T:=hid T0
  clear T0
  have s1:(5000:Int) < (s.size:Int):=by omega
  clear h5 hs
  go_enter Tryz.func5,Tryz.ntmps5
  go_wp2_with fail
  refine (hfirst_calls _ (T.out.below (by first | exact btw (by assumption) | exact btw_al (by assumption) _ | exact btw_dr (by assumption) | exact btw_ad (by assumption) _ | exact Below.refl _ _ | exact (Below.refl _ _).alloc (Nat.le_refl _) _)).r).mono ?_
  rintro e w1 ⟨rfl,hb⟩
  have HB1:=hid hb
  clear hb
  go_wp2_with fail
  refine (hfirst_calls _ (T.out.below (by first | exact btw (by assumption) | exact btw_al (by assumption) _ | exact btw_dr (by assumption) | exact btw_ad (by assumption) _ | exact Below.refl _ _ | exact (Below.refl _ _).alloc (Nat.le_refl _) _)).r).mono ?_
  rintro e w2 ⟨rfl,hb⟩
  have HB2:=hid (below_trans HB1.out hb)
  clear hb HB1
  go_wp2_with fail
  go_ret
  exact ⟨rfl,HB2.out⟩
theorem num_wrap (X:List UInt8):(⟨#[97,46]⟩++strOf X)++⟨#[46,48]⟩=strOf ([97,46]++X++[46,48]):=by
 apply ByteArray.ext
 rw [ByteArray.data_append,ByteArray.data_append]
 apply Array.toList_inj.1
 rw [Array.toList_append,Array.toList_append]
 simp [strOf]
theorem num_open (X:List UInt8):⟨#[91]⟩++strOf X=strOf (91::X):=by
 apply ByteArray.ext
 rw [ByteArray.data_append]
 apply Array.toList_inj.1
 rw [Array.toList_append]
 rfl
theorem hostNumbers_walk (z:Int) (p0 p1 p2 p3 p4 p5 p6 p7:Nat) (b:Bool) (w:World) (T0:TabH w) (hz:0≤z∧z≤4294967295) (hx:∀x∈[p0,p1,p2,p3,p4,p5,p6,p7],x < 65536) :
 Calls Tryz.prog 6 #[.int .u32 z,agg8 p0 p1 p2 p3 p4 p5 p6 p7,.bool b] w fun e w'=>e=.returned (.bool true)∧Below w.heap.size w w':=by
 have T:=hid T0
 clear T0
 obtain ⟨n,rfl⟩:=Int.eq_ofNat_of_zero_le hz.1
 have hn:n < 4294967296:=by omega
 have P4:=hid (fun w t=>ipr4_calls n w hn t)
 have P6:=hid (fun w t=>ipr6_calls p0 p1 p2 p3 p4 p5 p6 p7 w hx t)
 have l4:((strOf (print4R n)).size:Int)≤15:=by have:=print4_len hn;show ((print4R n).length:Int)≤15;omega
 have l6:((strOf (print6R [p0,p1,p2,p3,p4,p5,p6,p7])).size:Int)≤82:=by have:=print6_len (p:=[p0,p1,p2,p3,p4,p5,p6,p7]) rfl hx;show ((print6R [p0,p1,p2,p3,p4,p5,p6,p7]).length:Int)≤82;omega
 have A1:=hid (fun w t=>hpost_at (s:=strOf (print4R n)) (w:=w) (b:=true) (by rw [str_data];exact four_text hn) (by omega) t)
 have A2:=hid (fun w t=>hpost_at (s:=strOf (91::(print6R [p0,p1,p2,p3,p4,p5,p6,p7]++[93]))) (w:=w) (b:=b) (by rw [str_data];exact six_text rfl hx b) (by have:=print6_len (p:=[p0,p1,p2,p3,p4,p5,p6,p7]) rfl hx;show (91::(print6R [p0,p1,p2,p3,p4,p5,p6,p7]++[93])).length≤100000;simp;omega) t)
 have A3:=hid (fun w t=>hpost_at (s:=strOf ([97,46]++print4R n++[46,48])) (w:=w) (b:=true) (k:=0) (l:=[]) (n:=0) (p0:=0) (p1:=0) (p2:=0) (p3:=0) (p4:=0) (p5:=0) (p6:=0) (p7:=0) (by rw [str_data];exact none_text hn) (by have:=print4_len hn;show ([97,46]++print4R n++[46,48]).length≤100000;simp;omega) t)
 have A4:=hid (fun w t=>hpost_at (s:=strOf (91::print6R [p0,p1,p2,p3,p4,p5,p6,p7])) (w:=w) (b:=b) (k:=0) (l:=[]) (n:=0) (p0:=0) (p1:=0) (p2:=0) (p3:=0) (p4:=0) (p5:=0) (p6:=0) (p7:=0) (by rw [str_data];exact six_open rfl hx b) (by have:=print6_len (p:=[p0,p1,p2,p3,p4,p5,p6,p7]) rfl hx;show (91::print6R [p0,p1,p2,p3,p4,p5,p6,p7]).length≤100000;simp;omega) t)
 have A5:=hid (fun w=>hsame_calls 2 (strOf []) n 0 0 0 0 0 0 0 0 2 (strOf []) n 0 0 0 0 0 0 0 0 w)
 have A6:=hid (fun w=>hsame_calls 3 (strOf []) 0 p0 p1 p2 p3 p4 p5 p6 p7 3 (strOf []) 0 p0 p1 p2 p3 p4 p5 p6 p7 w)
 rw [beq_self_eq_true] at A5 A6
 unfold hostV at A5 A6
 unfold z8 at A1
 have e2:=wrap_brack (print6R [p0,p1,p2,p3,p4,p5,p6,p7])
 have e3:=num_wrap (print4R n)
 have e4:=num_open (print6R [p0,p1,p2,p3,p4,p5,p6,p7])
 rw [e4] at e2
 have l7:((strOf (91::print6R [p0,p1,p2,p3,p4,p5,p6,p7])).size:Int)≤83:=by have:=print6_len (p:=[p0,p1,p2,p3,p4,p5,p6,p7]) rfl hx;show ((91::print6R [p0,p1,p2,p3,p4,p5,p6,p7]).length:Int)≤83;rw [List.length_cons];omega
 have HQ0:=hid (heap_alloc_new w (.cells #[.int .u16 (p0:Int),.int .u16 (p1:Int),.int .u16 (p2:Int),.int .u16 (p3:Int),.int .u16 (p4:Int),.int .u16 (p5:Int),.int .u16 (p6:Int),.int .u16 (p7:Int)] 25))
 have HB0:=hid (ballH w (.cells #[.int .u16 (p0:Int),.int .u16 (p1:Int),.int .u16 (p2:Int),.int .u16 (p3:Int),.int .u16 (p4:Int),.int .u16 (p5:Int),.int .u16 (p6:Int),.int .u16 (p7:Int)] 25))
 unfold agg8 at P6 ⊢
 generalize strOf (print4R n)=S4 at *
 generalize strOf (print6R [p0,p1,p2,p3,p4,p5,p6,p7])=S6 at *
 generalize strOf (91::(print6R [p0,p1,p2,p3,p4,p5,p6,p7]++[93]))=S2 at *
 generalize strOf ([97,46]++print4R n++[46,48])=S3 at *
 generalize strOf (91::print6R [p0,p1,p2,p3,p4,p5,p6,p7])=SO at *
 clear hz hn hx
 go_enter Tryz.func6,Tryz.ntmps6
 go_wp2_with fail
 refine (hfirst_calls _ (T.out.below (by first | exact btw (by assumption) | exact btw_al (by assumption) _ | exact btw_dr (by assumption) | exact btw_ad (by assumption) _ | exact Below.refl _ _ | exact (Below.refl _ _).alloc (Nat.le_refl _) _)).r).mono ?_
 rintro e w1 ⟨rfl,hb⟩
 have HB1:=hid (below_trans HB0.out hb)
 have HQ1:Hid (Blk w1 w.heap.size [p0,p1,p2,p3,p4,p5,p6,p7]):=hid (Bk.below HQ0.out hb)
 clear hb HB0 HQ0
 go_wp2_with fail
 refine (P4.out _ (T.out.below (by first | exact btw (by assumption) | exact btw_al (by assumption) _ | exact btw_dr (by assumption) | exact btw_ad (by assumption) _ | exact Below.refl _ _ | exact (Below.refl _ _).alloc (Nat.le_refl _) _)).1).mono ?_
 rintro e w2 ⟨rfl,hb⟩
 have HB2:=hid (below_trans HB1.out hb)
 have HQ2:=hid (Bk.below HQ1.out hb)
 clear hb HB1 HQ1
 go_wp2_with fail
 refine (A1.out _ (T.out.below (by first | exact btw (by assumption) | exact btw_al (by assumption) _ | exact btw_dr (by assumption) | exact btw_ad (by assumption) _ | exact Below.refl _ _ | exact (Below.refl _ _).alloc (Nat.le_refl _) _)).r).mono ?_
 rintro e w3 ⟨rfl,hb⟩
 have HB3:=hid (below_trans HB2.out hb)
 have HQ3:=hid (Bk.below (Bk.below HQ2.out hb) (ballH w3 (.cells #[.int .i64 2,.string (strOf []),.int .u32 (n:Int),.int .u16 0,.int .u16 0,.int .u16 0,.int .u16 0,.int .u16 0,.int .u16 0,.int .u16 0,.int .u16 0] 27)))
 have HK3:Hid (BkH (w3.alloc (.cells #[.int .i64 2,.string (strOf []),.int .u32 (n:Int),.int .u16 0,.int .u16 0,.int .u16 0,.int .u16 0,.int .u16 0,.int .u16 0,.int .u16 0,.int .u16 0] 27)) w3.heap.size [.int .i64 2,.string (strOf []),.int .u32 (n:Int),.int .u16 0,.int .u16 0,.int .u16 0,.int .u16 0,.int .u16 0,.int .u16 0,.int .u16 0,.int .u16 0]):=heap_alloc_new w3 _
 clear hb HB2 HQ2
 obtain ⟨⟨q0,q1,q2,q3,q4,q5,q6,q7⟩,-⟩:=eight8' HQ3.out
 go_wp2_with fail
 refine (P6.out _ (T.out.below (by first | exact btw (by assumption) | exact btw_al (by assumption) _ | exact btw_dr (by assumption) | exact btw_ad (by assumption) _ | exact Below.refl _ _ | exact (Below.refl _ _).alloc (Nat.le_refl _) _)).1).mono ?_
 rintro e w4 ⟨rfl,hb⟩
 have HB4:=hid (below_moreH HB3.out _ hb)
 have HQ4:=hid (Bk.below HQ3.out hb)
 have HK4:=hid (Bk.below HK3.out hb)
 clear hb
 clear q0 q1 q2 q3 q4 q5 q6 q7
 go_wp2_with fail
 refine (A2.out _ (T.out.below (by first | exact btw (by assumption) | exact btw_al (by assumption) _ | exact btw_dr (by assumption) | exact btw_ad (by assumption) _ | exact Below.refl _ _ | exact (Below.refl _ _).alloc (Nat.le_refl _) _)).r).mono ?_
 rintro e w5 ⟨rfl,hb⟩
 have HB5:=hid (below_trans HB4.out hb)
 have HQ5:=hid (Bk.below (Bk.below HQ4.out hb) (ballH w5 (.cells #[.int .i64 3,.string (strOf []),.int .u32 0,.int .u16 (p0:Int),.int .u16 (p1:Int),.int .u16 (p2:Int),.int .u16 (p3:Int),.int .u16 (p4:Int),.int .u16 (p5:Int),.int .u16 (p6:Int),.int .u16 (p7:Int)] 27)))
 have HK5:=hid (Bk.below (Bk.below HK4.out hb) (ballH w5 (.cells #[.int .i64 3,.string (strOf []),.int .u32 0,.int .u16 (p0:Int),.int .u16 (p1:Int),.int .u16 (p2:Int),.int .u16 (p3:Int),.int .u16 (p4:Int),.int .u16 (p5:Int),.int .u16 (p6:Int),.int .u16 (p7:Int)] 27)))
 clear hb
 have HL5:Hid (BkH (w5.alloc (.cells #[.int .i64 3,.string (strOf []),.int .u32 0,.int .u16 (p0:Int),.int .u16 (p1:Int),.int .u16 (p2:Int),.int .u16 (p3:Int),.int .u16 (p4:Int),.int .u16 (p5:Int),.int .u16 (p6:Int),.int .u16 (p7:Int)] 27)) w5.heap.size [.int .i64 3,.string (strOf []),.int .u32 0,.int .u16 (p0:Int),.int .u16 (p1:Int),.int .u16 (p2:Int),.int .u16 (p3:Int),.int .u16 (p4:Int),.int .u16 (p5:Int),.int .u16 (p6:Int),.int .u16 (p7:Int)]):=heap_alloc_new w5 _
 go_wp2_with fail
 refine (P4.out _ (T.out.below (by first | exact btw (by assumption) | exact btw_al (by assumption) _ | exact btw_dr (by assumption) | exact btw_ad (by assumption) _ | exact Below.refl _ _ | exact (Below.refl _ _).alloc (Nat.le_refl _) _)).1).mono ?_
 rintro e w6 ⟨rfl,hb⟩
 have HB6:=hid (below_moreH HB5.out _ hb)
 have HQ6:=hid (Bk.below HQ5.out hb)
 have HK6:=hid (Bk.below HK5.out hb)
 have HL6:=hid (Bk.below HL5.out hb)
 clear hb
 go_wp2_with fail
 refine (A3.out _ (T.out.below (by first | exact btw (by assumption) | exact btw_al (by assumption) _ | exact btw_dr (by assumption) | exact btw_ad (by assumption) _ | exact Below.refl _ _ | exact (Below.refl _ _).alloc (Nat.le_refl _) _)).r).mono ?_
 rintro e w7 ⟨rfl,hb⟩
 have HB7:=hid (below_trans HB6.out hb)
 have HQ7:=hid (Bk.below (Bk.below HQ6.out hb) (ballH w7 (.cells #[.int .i64 0,.string (strOf []),.int .u32 0,.int .u16 0,.int .u16 0,.int .u16 0,.int .u16 0,.int .u16 0,.int .u16 0,.int .u16 0,.int .u16 0] 27)))
 have HK7:=hid (Bk.below (Bk.below HK6.out hb) (ballH w7 (.cells #[.int .i64 0,.string (strOf []),.int .u32 0,.int .u16 0,.int .u16 0,.int .u16 0,.int .u16 0,.int .u16 0,.int .u16 0,.int .u16 0,.int .u16 0] 27)))
 have HL7:=hid (Bk.below (Bk.below HL6.out hb) (ballH w7 (.cells #[.int .i64 0,.string (strOf []),.int .u32 0,.int .u16 0,.int .u16 0,.int .u16 0,.int .u16 0,.int .u16 0,.int .u16 0,.int .u16 0,.int .u16 0] 27)))
 clear hb
 obtain ⟨⟨q0,q1,q2,q3,q4,q5,q6,q7⟩,-⟩:=eight8' HQ7.out
 go_wp2_with fail
 refine (P6.out _ (T.out.below (by first | exact btw (by assumption) | exact btw_al (by assumption) _ | exact btw_dr (by assumption) | exact btw_ad (by assumption) _ | exact Below.refl _ _ | exact (Below.refl _ _).alloc (Nat.le_refl _) _)).1).mono ?_
 rintro e w8 ⟨rfl,hb⟩
 have HB8:=hid (below_moreH HB7.out _ hb)
 have HQ8:=hid (Bk.below HQ7.out hb)
 have HK8:=hid (Bk.below HK7.out hb)
 have HL8:=hid (Bk.below HL7.out hb)
 clear hb
 clear q0 q1 q2 q3 q4 q5 q6 q7
 go_wp2_with fail
 refine (A4.out _ (T.out.below (by first | exact btw (by assumption) | exact btw_al (by assumption) _ | exact btw_dr (by assumption) | exact btw_ad (by assumption) _ | exact Below.refl _ _ | exact (Below.refl _ _).alloc (Nat.le_refl _) _)).r).mono ?_
 rintro e w9 ⟨rfl,hb⟩
 have HB9:=hid (below_trans HB8.out hb)
 have HQ9:=hid (Bk.below (Bk.below HQ8.out hb) (ballH w9 (.cells #[.int .i64 0,.string (strOf []),.int .u32 0,.int .u16 0,.int .u16 0,.int .u16 0,.int .u16 0,.int .u16 0,.int .u16 0,.int .u16 0,.int .u16 0] 27)))
 have HK9:=hid (Bk.below (Bk.below HK8.out hb) (ballH w9 (.cells #[.int .i64 0,.string (strOf []),.int .u32 0,.int .u16 0,.int .u16 0,.int .u16 0,.int .u16 0,.int .u16 0,.int .u16 0,.int .u16 0,.int .u16 0] 27)))
 have HL9:=hid (Bk.below (Bk.below HL8.out hb) (ballH w9 (.cells #[.int .i64 0,.string (strOf []),.int .u32 0,.int .u16 0,.int .u16 0,.int .u16 0,.int .u16 0,.int .u16 0,.int .u16 0,.int .u16 0,.int .u16 0] 27)))
 clear hb
 go_wp2_with fail
 refine (hfirst_calls _ (T.out.below (by first | exact btw (by assumption) | exact btw_al (by assumption) _ | exact btw_dr (by assumption) | exact btw_ad (by assumption) _ | exact Below.refl _ _ | exact (Below.refl _ _).alloc (Nat.le_refl _) _)).r).mono ?_
 rintro e w10 ⟨rfl,hb⟩
 have HB10:=hid (below_moreH HB9.out _ hb)
 have HQ10:=hid (Bk.below HQ9.out hb)
 have HK10:=hid (Bk.below HK9.out hb)
 have HL10:=hid (Bk.below HL9.out hb)
 clear hb
 obtain ⟨⟨c0,c1,c2,c3,c4,c5,c6,c7,c8,c9,c10⟩,-⟩:=cellsH HK10.out
 go_wp2_with fail
 refine (A5.out _).mono ?_
 rintro e w11 ⟨rfl,hb⟩
 have HB11:=hid (below_trans HB10.out hb)
 have HQ11:=hid (Bk.below HQ10.out hb)
 have HL11:=hid (Bk.below HL10.out hb)
 clear hb
 clear c0 c1 c2 c3 c4 c5 c6 c7 c8 c9 c10
 obtain ⟨⟨d0,d1,d2,d3,d4,d5,d6,d7,d8,d9,d10⟩,-⟩:=cellsH HL11.out
 obtain ⟨⟨q0,q1,q2,q3,q4,q5,q6,q7⟩,-⟩:=eight8' HQ11.out
 go_wp2_with fail
 refine (A6.out _).mono ?_
 rintro e w12 ⟨rfl,hb⟩
 have HB12:=hid (below_trans HB11.out hb)
 clear hb
 go_wp2_with fail
 go_ret
 exact ⟨rfl,HB12.out⟩
attribute [local go_sem ↓] Go.wp_at_zero Go.wp_at_succ
theorem hfew_calls (k:Int) (s:ByteArray) (n p0 p1 p2 p3 p4 p5 p6 p7:Nat) (w:World):Calls Tryz.prog 12 #[hostV k s n p0 p1 p2 p3 p4 p5 p6 p7] w fun e w'=>e=.returned (.bool (decide ((s.size:Int)≤5000)))∧Below w.heap.size w w':=by
 unfold hostV
 go_enter Tryz.func12,Tryz.ntmps12
 go_wp2_with fail
 go_ret
 exact ⟨rfl,ballH _ _⟩
end Go.Proofs.YtpohekldddbneaaGreatDoor
