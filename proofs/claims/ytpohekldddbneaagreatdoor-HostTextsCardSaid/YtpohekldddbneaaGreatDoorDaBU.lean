import Derived.Test.YtpohekldddbneaaGreatDoorDaBQ
import Derived.Test.YtpohekldddbneaaGreatDoorDaBI
set_option linter.unusedVariables false
set_option linter.unusedSimpArgs false
set_option maxRecDepth 20000
set_option maxHeartbeats 16000000
namespace Go.Proofs.YtpohekldddbneaaGreatDoor
open Go.RowKit
theorem ppost_at {s:ByteArray} {b:Bool} {w:World} {k:Int} {l:List UInt8} {n p0 p1 p2 p3 p4 p5 p6 p7 m:Nat} (h:hostR s.data.toList b=((k,l,n,[p0,p1,p2,p3,p4,p5,p6,p7]),m)) (hs:s.size≤100000) :
 Calls Tryz.prog 10 #[.string s,.bool b] w fun e w'=>e=.returned (.tuple #[.agg #[.int .i64 k,.string (strOf l),.int .u32 (n:Int),.int .u16 (p0:Int),.int .u16 (p1:Int),.int .u16 (p2:Int),.int .u16 (p3:Int),.int .u16 (p4:Int),.int .u16 (p5:Int),.int .u16 (p6:Int),.int .u16 (p7:Int)],.int .i64 (m:Int)])∧Below w.heap.size w w' :=
 (phost_calls s b w hs).mono fun e w' hp=>HPost.inv (h ▸ hp)
theorem hostTexts_walk (s:ByteArray) (b:Bool) (w:World) (T0:TabR w) (hs:s.size≤maxLen):Calls Tryz.prog 3 #[.string s,.bool b] w fun e w'=>e=.returned (.bool true)∧Below w.heap.size w w':=by
 have T:=hid T0
 clear T0
 unfold maxLen at hs
 by_cases h5:s.size≤5000
 ·have s1:¬(5000:Int) < (s.size:Int):=by omega
  obtain ⟨k,t,n,a0,a1,a2,a3,a4,a5,a6,a7,m,hr,hx,hn,ht⟩:=host_parts s.data.toList b
  have A1:=hid (fun w t=>hpost_at (w:=w) hr (by omega) t)
  have A2:=hid (fun w=>ppost_at (w:=w) hr (by omega))
  have A3:=hid (fun w=>hsame_calls k (strOf t) n a0 a1 a2 a3 a4 a5 a6 a7 k (strOf t) n a0 a1 a2 a3 a4 a5 a6 a7 w)
  rw [beq_self_eq_true] at A3
  unfold hostV at A3
  clear hr hx hn ht h5 hs
  go_enter Tryz.func3,Tryz.ntmps3
  go_wp2_with fail
  refine (hfirst_calls _ (T.out.below (by first | exact btw (by assumption) | exact btw_al (by assumption) _ | exact btw_dr (by assumption) | exact btw_ad (by assumption) _ | exact Below.refl _ _ | exact (Below.refl _ _).alloc (Nat.le_refl _) _))).mono ?_
  rintro e w1 ⟨rfl,hb⟩
  have HB1:=hid hb
  clear hb
  go_wp2_with fail
  refine (A1.out _ (T.out.below (by first | exact btw (by assumption) | exact btw_al (by assumption) _ | exact btw_dr (by assumption) | exact btw_ad (by assumption) _ | exact Below.refl _ _ | exact (Below.refl _ _).alloc (Nat.le_refl _) _))).mono ?_
  rintro e w2 ⟨rfl,hb⟩
  have HB2:=hid (below_trans HB1.out hb)
  have HK2:Hid (BkH (w2.alloc (.cells #[.int .i64 k,.string (strOf t),.int .u32 (n:Int),.int .u16 (a0:Int),.int .u16 (a1:Int),.int .u16 (a2:Int),.int .u16 (a3:Int),.int .u16 (a4:Int),.int .u16 (a5:Int),.int .u16 (a6:Int),.int .u16 (a7:Int)] 27)) w2.heap.size [.int .i64 k,.string (strOf t),.int .u32 (n:Int),.int .u16 (a0:Int),.int .u16 (a1:Int),.int .u16 (a2:Int),.int .u16 (a3:Int),.int .u16 (a4:Int),.int .u16 (a5:Int),.int .u16 (a6:Int),.int .u16 (a7:Int)]):=heap_alloc_new w2 _
  clear hb HB1
  go_wp2_with fail
  refine (A2.out _).mono ?_
  rintro e w3 ⟨rfl,hb⟩
  have HB3:=hid (below_moreH HB2.out _ hb)
  have HK3:=hid (Bk.below HK2.out hb)
  have HL3:Hid (BkH (w3.alloc (.cells #[.int .i64 k,.string (strOf t),.int .u32 (n:Int),.int .u16 (a0:Int),.int .u16 (a1:Int),.int .u16 (a2:Int),.int .u16 (a3:Int),.int .u16 (a4:Int),.int .u16 (a5:Int),.int .u16 (a6:Int),.int .u16 (a7:Int)] 27)) w3.heap.size [.int .i64 k,.string (strOf t),.int .u32 (n:Int),.int .u16 (a0:Int),.int .u16 (a1:Int),.int .u16 (a2:Int),.int .u16 (a3:Int),.int .u16 (a4:Int),.int .u16 (a5:Int),.int .u16 (a6:Int),.int .u16 (a7:Int)]):=heap_alloc_new w3 _
  clear hb HB2 HK2
  go_wp2_with fail
  refine (hfirst_calls _ (T.out.below (by first | exact btw (by assumption) | exact btw_al (by assumption) _ | exact btw_dr (by assumption) | exact btw_ad (by assumption) _ | exact Below.refl _ _ | exact (Below.refl _ _).alloc (Nat.le_refl _) _))).mono ?_
  rintro e w4 ⟨rfl,hb⟩
  have HB4:=hid (below_moreH HB3.out _ hb)
  have HK4:=hid (Bk.below (Bk.below HK3.out (ballC w3 (.cells #[.int .i64 k,.string (strOf t),.int .u32 (n:Int),.int .u16 (a0:Int),.int .u16 (a1:Int),.int .u16 (a2:Int),.int .u16 (a3:Int),.int .u16 (a4:Int),.int .u16 (a5:Int),.int .u16 (a6:Int),.int .u16 (a7:Int)] 27))) hb)
  have HL4:=hid (Bk.below HL3.out hb)
  clear hb HB3 HK3 HL3
  obtain ⟨⟨c0,c1,c2,c3,c4,c5,c6,c7,c8,c9,c10⟩,-⟩:=cellsH HK4.out
  obtain ⟨⟨d0,d1,d2,d3,d4,d5,d6,d7,d8,d9,d10⟩,-⟩:=cellsH HL4.out
  clear HK4 HL4
  go_wp2_with fail
  refine (A3.out _).mono ?_
  rintro e w5 ⟨rfl,hb⟩
  have HB5:=hid (below_trans HB4.out hb)
  clear hb HB4
  go_wp2_with fail
  go_ret
  exact ⟨rfl,HB5.out⟩
 ·have s1:(5000:Int) < (s.size:Int):=by omega
  clear h5 hs
  go_enter Tryz.func3,Tryz.ntmps3
  go_wp2_with fail
  refine (hfirst_calls _ (T.out.below (by first | exact btw (by assumption) | exact btw_al (by assumption) _ | exact btw_dr (by assumption) | exact btw_ad (by assumption) _ | exact Below.refl _ _ | exact (Below.refl _ _).alloc (Nat.le_refl _) _))).mono ?_
  rintro e w1 ⟨rfl,hb⟩
  have HB1:=hid hb
  clear hb
  go_wp2_with fail
  refine (hfirst_calls _ (T.out.below (by first | exact btw (by assumption) | exact btw_al (by assumption) _ | exact btw_dr (by assumption) | exact btw_ad (by assumption) _ | exact Below.refl _ _ | exact (Below.refl _ _).alloc (Nat.le_refl _) _))).mono ?_
  rintro e w2 ⟨rfl,hb⟩
  have HB2:=hid (below_trans HB1.out hb)
  clear hb HB1
  go_wp2_with fail
  go_ret
  exact ⟨rfl,HB2.out⟩
end Go.Proofs.YtpohekldddbneaaGreatDoor
