import Derived.Test.YtigfgloenjoeoaaGreatDoorLbAC
import Derived.Test.YtigfgloenjoeoaaGreatDoorLbAA
import Derived.Deep.RegionWith
import Derived.Deep.DrawnRows
set_option linter.unusedVariables false
set_option linter.unusedSimpArgs false
set_option maxRecDepth 20000
set_option maxHeartbeats 16000000
namespace Go.Proofs.YtigfgloenjoeoaaGreatDoor
open Go.RowKit
attribute [local go_sem ↓] Go.wp_at_zero Go.wp_at_succ
theorem byteS_row (w:World) (c:UInt8):BRow (w.alloc (.cells #[.int .u8 (c.toNat:Int)] 5)) (.slice (some ⟨w.heap.size,0,none⟩) 1 1) [c]:=Row.lit fb w [c] 5 (0,0) (by simp)
theorem hx_ten_all:(List.range 10).all (fun d=>(hx d).toNat==48+d)=true:=by decide
theorem hx_ten {d:Nat} (h:d < 10):(hx d).toNat=48+d:=by
 have:=List.all_eq_true.1 hx_ten_all d (List.mem_range.2 h)
 simpa using this
theorem cat_str (a b:List UInt8):strOf a++strOf b=strOf (a++b):=by
 apply ByteArray.ext
 simp [strOf,ByteArray.data_append]
theorem dec_calls:∀(f n:Nat) (w:World),n < 10^f→n < 9223372036854775808→Calls Tryz.prog 36 #[.int .i64 (n:Int)] w fun e w'=>e=.returned (.string (strOf (digsOf 10 n)))∧Below w.heap.size w w'
 | 0,n,w,h,_=>by
   have h0:n=0:=by rw [Nat.pow_zero] at h;omega
   subst h0
   have hcv:(convert 73 9 (.slice (some ⟨w.heap.size,0,none⟩) 1 1)).run Tryz.prog (w.alloc (.cells #[.int .u8 48] 5))=.ok (.string (strOf [48])) (w.alloc (.cells #[.int .u8 48] 5)):=run_string (byteS_row w 48)
   have HD:Hid (strOf (digsOf 10 0)=strOf [48]):=rfl
   rw [HD.out]
   clear h
   go_enter Tryz.func36,Tryz.ntmps36
   go_wp2_with fail
   go_ret
   exact ⟨rfl,(Below.refl _ _).alloc (Nat.le_refl _) _⟩
 | f+1,n,w,h,h63=>by
   have n0:(0:Int)≤(n:Int):=by omega
   have n1:(n:Int) < 9223372036854775808:=by omega
   by_cases h10:n < 10
   ·have hcn:=hx_ten h10
    have HD:Hid (digsOf 10 n=[hx n]):=digsOf_small h10
    rw [HD.out]
    obtain ⟨c,hc⟩:∃c,hx n=c:=⟨_,rfl⟩
    rw [hc] at hcn ⊢
    have hcv:(convert 73 9 (.slice (some ⟨w.heap.size,0,none⟩) 1 1)).run Tryz.prog (w.alloc (.cells #[.int .u8 (c.toNat:Int)] 5))=.ok (.string (strOf [c])) (w.alloc (.cells #[.int .u8 (c.toNat:Int)] 5)):=run_string (byteS_row w c)
    have e1:(48:Int)+(n:Int)=(c.toNat:Int):=by omega
    have e2:=byte_lt c
    have n2:(n:Int) < 10:=by omega
    clear h h63 hcn hc n1
    go_enter Tryz.func36,Tryz.ntmps36
    go_wp2_with fail
    go_ret
    exact ⟨rfl,(Below.refl _ _).alloc (Nat.le_refl _) _⟩
   ·have hd:n%10 < 10:=Nat.mod_lt _ (by decide)
    have hq:n/10 < 10^f:=by
     rw [Nat.pow_succ] at h
     exact Nat.div_lt_iff_lt_mul (by decide) |>.2 h
    have IH:=hid (fun w=>dec_calls f (n/10) w hq (by omega))
    have HD:Hid (digsOf 10 n=digsOf 10 (n/10)++[hx (n%10)]):=digsOf_big (by decide) (by omega) h10
    rw [HD.out]
    have hcn:=hx_ten hd
    have hlen:=(digsOf_facts (b:=10) (by decide) (by decide) (n:=n/10) (by omega)).2.2.2.1
    obtain ⟨c,hc⟩:∃c,hx (n%10)=c:=⟨_,rfl⟩
    obtain ⟨q,hq'⟩:∃q,n/10=q:=⟨_,rfl⟩
    obtain ⟨d,hd'⟩:∃d,n%10=d:=⟨_,rfl⟩
    rw [hc,hd'] at hcn
    rw [hc,hq']
    rw [hq'] at IH hlen
    have e1:(n:Int)/10=(q:Int):=by omega
    have e2:(n:Int)%10=(d:Int):=by omega
    have e3:(48:Int)+(d:Int)=(c.toNat:Int):=by omega
    have e4:=byte_lt c
    have e5:IntKind.wrap .i64 (c.toNat:Int)=(c.toNat:Int):=by rw [IntKind.wrap_i64];omega
    have e6:IntKind.wrap .u8 (c.toNat:Int)=(c.toNat:Int):=by rw [IntKind.wrap_u8];omega
    have e7:(n:Int).tdiv 10=(q:Int):=by rw [Int.tdiv_eq_ediv_of_nonneg n0];exact e1
    have e8:(n:Int).tmod 10=(d:Int):=by rw [Int.tmod_eq_emod_of_nonneg n0];exact e2
    have e9:IntKind.wrap .i64 (q:Int)=(q:Int):=by rw [IntKind.wrap_i64];omega
    have n2:¬(n:Int) < 10:=by omega
    have n3:¬(n:Int) < 0:=by omega
    have HCat:=hid (cat_str (digsOf 10 q) [c])
    have hs1:((strOf (digsOf 10 q)).size:Int)≤64:=by rw [str_size];omega
    have hs2:(strOf [c]).size=1:=rfl
    have hcv:∀w:World,(convert 73 9 (.slice (some ⟨w.heap.size,0,none⟩) 1 1)).run Tryz.prog (w.alloc (.cells #[.int .u8 (c.toNat:Int)] 5))=.ok (.string (strOf [c])) (w.alloc (.cells #[.int .u8 (c.toNat:Int)] 5)):=fun w=>run_string (byteS_row w c)
    have hcvd:∀w:World,(convert 73 9 (.slice (some ⟨w.heap.size,0,none⟩) 1 1)).run Tryz.prog (w.alloc (.cells #[.int .u8 (c.toNat:Int)] 5)).drew=.ok (.string (strOf [c])) (w.alloc (.cells #[.int .u8 (c.toNat:Int)] 5)).drew:=fun w=>run_string (byteS_row w c).drew
    clear h h63 h10 hd hq hcn hlen hc hq' hd' HD n1
    generalize strOf (digsOf 10 q)=Q at *
    go_enter Tryz.func36,Tryz.ntmps36
    go_wp2_with fail
    go_region_with ((go_at_call 36;refine (IH.out _).mono ?_;rintro e w2 ⟨rfl,hb2⟩;first | have hcv2:=run_string ((byteS_row w c).drew.below hb2) | skip))
    all_goals
     go_wp2_with fail
     go_ret
     refine ⟨by rw [← HCat.out];rfl,?_⟩
     first
      | exact ((Below.refl w.heap.size w).drew.trans hb2).alloc hb2.size _
      | exact (((Below.refl w.heap.size w).alloc (Nat.le_refl _) _).drew).trans (hb2.mono (by simp))
theorem print4_cat (n:Nat):((((((strOf (digsOf 10 (n/16777216))++strOf [46])++strOf (digsOf 10 (n/65536%256)))++strOf [46])++strOf (digsOf 10 (n/256%256)))++strOf [46])++strOf (digsOf 10 (n%256)))=strOf (print4R n):=by
 rw [cat_str,cat_str,cat_str,cat_str,cat_str,cat_str]
 unfold print4R joinC joinC joinC joinC
 simp
theorem u32_255 (x:Nat) (hx:x < 4294967296):bits .and .u32 (x:Int) 255=((x%256:Nat):Int):=by
 rw [show (255:Int)=((255:Nat):Int) from rfl,u32_and_nat x 255 hx (by decide),Nat.and_two_pow_sub_one_eq_mod x 8]
theorem print4_calls (n:Nat) (w:World) (hn:n < 4294967296):Calls Tryz.prog 48 #[.int .u32 (n:Int)] w fun e w'=>e=.returned (.string (strOf (print4R n)))∧Below w.heap.size w w':=by
 have HCat:=hid (print4_cat n)
 have D1:=hid (fun w=>dec_calls 10 (n/16777216) w (by omega) (by omega))
 have D2:=hid (fun w=>dec_calls 10 (n/65536%256) w (by omega) (by omega))
 have D3:=hid (fun w=>dec_calls 10 (n/256%256) w (by omega) (by omega))
 have D4:=hid (fun w=>dec_calls 10 (n%256) w (by omega) (by omega))
 have l1:=dec_len (x:=n/16777216) (by omega)
 have l2:=dec_len (x:=n/65536%256) (by omega)
 have l3:=dec_len (x:=n/256%256) (by omega)
 have l4:=dec_len (x:=n%256) (by omega)
 have z1:((strOf (digsOf 10 (n/16777216))).size:Int)≤3:=by rw [str_size];omega
 have z2:((strOf (digsOf 10 (n/65536%256))).size:Int)≤3:=by rw [str_size];omega
 have z3:((strOf (digsOf 10 (n/256%256))).size:Int)≤3:=by rw [str_size];omega
 have z4:((strOf (digsOf 10 (n%256))).size:Int)≤3:=by rw [str_size];omega
 obtain ⟨x1,y1⟩:∃x,n/16777216=x:=⟨_,rfl⟩
 obtain ⟨x2,y2⟩:∃x,n/65536=x:=⟨_,rfl⟩
 obtain ⟨x3,y3⟩:∃x,n/256=x:=⟨_,rfl⟩
 have b2:=u32_255 x2 (by omega)
 have b3:=u32_255 x3 (by omega)
 have b4:=u32_255 n (by omega)
 rw [y1,y2,y3] at HCat
 rw [y1] at D1 z1
 rw [y2] at D2 z2
 rw [y3] at D3 z3
 have e1:(n:Int)/16777216=(x1:Int):=by omega
 have e2:(n:Int)/65536=(x2:Int):=by omega
 have e3:(n:Int)/256=(x3:Int):=by omega
 have q1:x1 < 256:=by omega
 obtain ⟨x5,y5⟩:∃x,x2%256=x:=⟨_,rfl⟩
 obtain ⟨x6,y6⟩:∃x,x3%256=x:=⟨_,rfl⟩
 obtain ⟨x7,y7⟩:∃x,n%256=x:=⟨_,rfl⟩
 rw [y5] at b2 D2 z2 HCat
 rw [y6] at b3 D3 z3 HCat
 rw [y7] at b4 D4 z4 HCat
 have q5:(x5:Int) < 256:=by omega
 have q6:(x6:Int) < 256:=by omega
 have q7:(x7:Int) < 256:=by omega
 have s4:(⟨#[46]⟩:ByteArray).size=1:=rfl
 clear l1 l2 l3 l4 y1 y2 y3 y5 y6 y7 hn
 generalize strOf (digsOf 10 x1)=A1 at *
 generalize strOf (digsOf 10 x5)=A2 at *
 generalize strOf (digsOf 10 x6)=A3 at *
 generalize strOf (digsOf 10 x7)=A4 at *
 go_enter Tryz.func48,Tryz.ntmps48
 go_wp2_with fail
 refine (D1.out _).mono ?_
 rintro e w1 ⟨rfl,hb⟩
 have HB1:=hid hb
 clear hb
 go_wp2_with fail
 refine (D2.out _).mono ?_
 rintro e w2 ⟨rfl,hb⟩
 have HB2:=hid (below_trans HB1.out hb)
 clear hb
 go_wp2_with fail
 refine (D3.out _).mono ?_
 rintro e w3 ⟨rfl,hb⟩
 have HB3:=hid (below_trans HB2.out hb)
 clear hb
 go_wp2_with fail
 refine (D4.out _).mono ?_
 rintro e w4 ⟨rfl,hb⟩
 have HB4:=hid (below_trans HB3.out hb)
 clear hb
 go_wp2_with fail
 go_ret
 exact ⟨by rw [← HCat.out];rfl,HB4.out⟩
end Go.Proofs.YtigfgloenjoeoaaGreatDoor
