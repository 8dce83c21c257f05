import Derived.Test.YtpohekldddbneaaGreatDoorDaBP
import Derived.Test.YtpohekldddbneaaGreatDoorDaBK
import Derived.Deep.DrawnRows
set_option linter.unusedVariables false
set_option linter.unusedSimpArgs false
set_option maxRecDepth 20000
set_option maxHeartbeats 16000000
namespace Go.Proofs.YtpohekldddbneaaGreatDoor
open Go.RowKit
theorem HPost.inv {k:Int} {l:List UInt8} {n p0 p1 p2 p3 p4 p5 p6 p7 m:Nat} {w w':World} {e:Ending} (h:HPost ((k,l,n,[p0,p1,p2,p3,p4,p5,p6,p7]),m) w e w') :
 e=.returned (.tuple #[.agg #[.int .i64 k,.string (strOf l),.int .u32 (n:Int),.int .u16 (p0:Int),.int .u16 (p1:Int),.int .u16 (p2:Int),.int .u16 (p3:Int),.int .u16 (p4:Int),.int .u16 (p5:Int),.int .u16 (p6:Int),.int .u16 (p7:Int)],.int .i64 (m:Int)])∧Below w.heap.size w w':=by
 obtain ⟨q0,q1,q2,q3,q4,q5,q6,q7,hq,rfl,hb⟩:=h
 have hq':[p0,p1,p2,p3,p4,p5,p6,p7]=[q0,q1,q2,q3,q4,q5,q6,q7]:=hq
 simp only [List.cons.injEq,and_true] at hq'
 obtain ⟨rfl,rfl,rfl,rfl,rfl,rfl,rfl,rfl⟩:=hq'
 exact ⟨rfl,hb⟩
theorem hpost_at {s:ByteArray} {b:Bool} {w:World} {k:Int} {l:List UInt8} {n p0 p1 p2 p3 p4 p5 p6 p7 m:Nat} (h:hostR s.data.toList b=((k,l,n,[p0,p1,p2,p3,p4,p5,p6,p7]),m)) (hs:s.size≤100000) (T0:TabR w) :
 Calls Tryz.prog 9 #[.string s,.bool b] w fun e w'=>e=.returned (.tuple #[.agg #[.int .i64 k,.string (strOf l),.int .u32 (n:Int),.int .u16 (p0:Int),.int .u16 (p1:Int),.int .u16 (p2:Int),.int .u16 (p3:Int),.int .u16 (p4:Int),.int .u16 (p5:Int),.int .u16 (p6:Int),.int .u16 (p7:Int)],.int .i64 (m:Int)])∧Below w.heap.size w w' :=
 (hparse_calls s b w hs T0).mono fun e w' hp=>HPost.inv (h ▸ hp)
theorem below_moreH {a b c:World} (h:Below a.heap.size a b) (o:Obj) (k:Below (b.alloc o).heap.size (b.alloc o) c):Below a.heap.size a c:=(h.alloc h.size o).trans (k.mono (by have:=h.size;simp;omega))
theorem hfirst_calls (w:World) (T0:TabR w):Calls Tryz.prog 8 #[] w fun e w'=>e=.returned (.bool true)∧Below w.heap.size w w':=by
 have T:=hid T0
 clear T0
 have A1:=hid (fun w t=>hpost_at (s:=⟨#[69,88,65,77,80,76,69,46,99,111,109]⟩) (w:=w) host_first1 (by decide) t)
 have A2:=hid (fun w t=>hpost_at (s:=⟨#[49,46,50,46,51]⟩) (w:=w) host_first2 (by decide) t)
 have A3:=hid (fun w t=>hpost_at (s:=⟨#[97,32,98]⟩) (w:=w) host_first3 (by decide) t)
 go_enter Tryz.func8,Tryz.ntmps8
 go_wp2_with fail
 refine (A1.out _ (T.out.below (by first | exact btw (by assumption) | exact btw_al (by assumption) _ | exact btw_dr (by assumption) | exact btw_ad (by assumption) _ | exact Below.refl _ _ | exact (Below.refl _ _).alloc (Nat.le_refl _) _))).mono ?_
 rintro e w1 ⟨rfl,hb1⟩
 have HB1:=hid hb1
 have HK1:Hid (BkH (w1.alloc (.cells #[.int .i64 1,.string (strOf [101,120,97,109,112,108,101,46,99,111,109]),.int .u32 0,.int .u16 0,.int .u16 0,.int .u16 0,.int .u16 0,.int .u16 0,.int .u16 0,.int .u16 0,.int .u16 0] 27)) w1.heap.size [.int .i64 1,.string (strOf [101,120,97,109,112,108,101,46,99,111,109]),.int .u32 0,.int .u16 0,.int .u16 0,.int .u16 0,.int .u16 0,.int .u16 0,.int .u16 0,.int .u16 0,.int .u16 0]):=heap_alloc_new w1 _
 clear hb1
 go_wp2_with fail
 refine (A2.out _ (T.out.below (by first | exact btw (by assumption) | exact btw_al (by assumption) _ | exact btw_dr (by assumption) | exact btw_ad (by assumption) _ | exact Below.refl _ _ | exact (Below.refl _ _).alloc (Nat.le_refl _) _))).mono ?_
 rintro e w2 ⟨rfl,hb2⟩
 have HB2:=hid (below_moreH HB1.out _ hb2)
 have HK2:=hid (Bk.below HK1.out hb2)
 have HL2:Hid (BkH (w2.alloc (.cells #[.int .i64 2,.string (strOf []),.int .u32 16908291,.int .u16 0,.int .u16 0,.int .u16 0,.int .u16 0,.int .u16 0,.int .u16 0,.int .u16 0,.int .u16 0] 27)) w2.heap.size [.int .i64 2,.string (strOf []),.int .u32 16908291,.int .u16 0,.int .u16 0,.int .u16 0,.int .u16 0,.int .u16 0,.int .u16 0,.int .u16 0,.int .u16 0]):=heap_alloc_new w2 _
 clear hb2 HB1 HK1
 go_wp2_with fail
 refine (A3.out _ (T.out.below (by first | exact btw (by assumption) | exact btw_al (by assumption) _ | exact btw_dr (by assumption) | exact btw_ad (by assumption) _ | exact Below.refl _ _ | exact (Below.refl _ _).alloc (Nat.le_refl _) _))).mono ?_
 rintro e w3 ⟨rfl,hb3⟩
 have HB3:=hid (below_moreH HB2.out _ hb3)
 have HK3:=hid (Bk.below (Bk.below HK2.out (ballC _ (.cells #[.int .i64 2,.string (strOf []),.int .u32 16908291,.int .u16 0,.int .u16 0,.int .u16 0,.int .u16 0,.int .u16 0,.int .u16 0,.int .u16 0,.int .u16 0] 27))) hb3)
 have HL3:=hid (Bk.below HL2.out hb3)
 have HK4:=hid (Bk.below HK3.out (ballC w3 (.cells #[.int .i64 0,.string (strOf []),.int .u32 0,.int .u16 0,.int .u16 0,.int .u16 0,.int .u16 0,.int .u16 0,.int .u16 0,.int .u16 0,.int .u16 0] 27)))
 have HL4:=hid (Bk.below HL3.out (ballC w3 (.cells #[.int .i64 0,.string (strOf []),.int .u32 0,.int .u16 0,.int .u16 0,.int .u16 0,.int .u16 0,.int .u16 0,.int .u16 0,.int .u16 0,.int .u16 0] 27)))
 have HB4:=hid (HB3.out.alloc HB3.out.size (.cells #[.int .i64 0,.string (strOf []),.int .u32 0,.int .u16 0,.int .u16 0,.int .u16 0,.int .u16 0,.int .u16 0,.int .u16 0,.int .u16 0,.int .u16 0] 27))
 clear hb3 HB2 HK2 HL2 HB3
 obtain ⟨⟨c0,c1,c2,c3,c4,c5,c6,c7,c8,c9,c10⟩,-⟩:=cellsH HK4.out
 obtain ⟨⟨d0,d1,d2,d3,d4,d5,d6,d7,d8,d9,d10⟩,-⟩:=cellsH HL4.out
 have hs:(strOf [101,120,97,109,112,108,101,46,99,111,109]).toList=[101,120,97,109,112,108,101,46,99,111,109]:=strOf_list _
 clear HK3 HL3 HK4 HL4
 go_wp2_with fail
 go_ret
 exact ⟨rfl,HB4.out⟩
end Go.Proofs.YtpohekldddbneaaGreatDoor
