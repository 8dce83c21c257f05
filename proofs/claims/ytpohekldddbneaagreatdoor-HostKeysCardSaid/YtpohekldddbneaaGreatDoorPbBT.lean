import Derived.Test.YtpohekldddbneaaGreatDoorPbBS
import Derived.Test.YtpohekldddbneaaGreatDoorPbBK
set_option linter.unusedVariables false
set_option linter.unusedSimpArgs false
set_option maxRecDepth 20000
set_option maxHeartbeats 16000000
namespace Go.Proofs.YtpohekldddbneaaGreatDoor
open Go.RowKit
attribute [local go_sem ↓] Go.wp_at_zero Go.wp_at_succ
theorem hostKeys_f1 (k:Int) (s:ByteArray) (n p0 p1 p2 p3 p4 p5 p6 p7:Nat) (k':Int) (s':ByteArray) (n' q0 q1 q2 q3 q4 q5 q6 q7:Nat) (w:World) (T0:TabH w) (h5:¬s.size≤5000):Calls Tryz.prog 7 #[hostV k s n p0 p1 p2 p3 p4 p5 p6 p7,hostV k' s' n' q0 q1 q2 q3 q4 q5 q6 q7] w fun e w'=>e=.returned (.bool true)∧Below w.heap.size w w':=by
 have T:=hid T0
 clear T0
 have HG0:Hid (BkH ((w.alloc (.cells #[.int .i64 k,.string s,.int .u32 (n:Int),.int .u16 (p0:Int),.int .u16 (p1:Int),.int .u16 (p2:Int),.int .u16 (p3:Int),.int .u16 (p4:Int),.int .u16 (p5:Int),.int .u16 (p6:Int),.int .u16 (p7:Int)] 27)).alloc (.cells #[.int .i64 k',.string s',.int .u32 (n':Int),.int .u16 (q0:Int),.int .u16 (q1:Int),.int .u16 (q2:Int),.int .u16 (q3:Int),.int .u16 (q4:Int),.int .u16 (q5:Int),.int .u16 (q6:Int),.int .u16 (q7:Int)] 27)) w.heap.size [.int .i64 k,.string s,.int .u32 (n:Int),.int .u16 (p0:Int),.int .u16 (p1:Int),.int .u16 (p2:Int),.int .u16 (p3:Int),.int .u16 (p4:Int),.int .u16 (p5:Int),.int .u16 (p6:Int),.int .u16 (p7:Int)]):=hid (Bk.below (heap_alloc_new w (.cells #[.int .i64 k,.string s,.int .u32 (n:Int),.int .u16 (p0:Int),.int .u16 (p1:Int),.int .u16 (p2:Int),.int .u16 (p3:Int),.int .u16 (p4:Int),.int .u16 (p5:Int),.int .u16 (p6:Int),.int .u16 (p7:Int)] 27):BkH _ w.heap.size [.int .i64 k,.string s,.int .u32 (n:Int),.int .u16 (p0:Int),.int .u16 (p1:Int),.int .u16 (p2:Int),.int .u16 (p3:Int),.int .u16 (p4:Int),.int .u16 (p5:Int),.int .u16 (p6:Int),.int .u16 (p7:Int)]) (ballH _ (.cells #[.int .i64 k',.string s',.int .u32 (n':Int),.int .u16 (q0:Int),.int .u16 (q1:Int),.int .u16 (q2:Int),.int .u16 (q3:Int),.int .u16 (q4:Int),.int .u16 (q5:Int),.int .u16 (q6:Int),.int .u16 (q7:Int)] 27)))
 have HL0:Hid (BkH ((w.alloc (.cells #[.int .i64 k,.string s,.int .u32 (n:Int),.int .u16 (p0:Int),.int .u16 (p1:Int),.int .u16 (p2:Int),.int .u16 (p3:Int),.int .u16 (p4:Int),.int .u16 (p5:Int),.int .u16 (p6:Int),.int .u16 (p7:Int)] 27)).alloc (.cells #[.int .i64 k',.string s',.int .u32 (n':Int),.int .u16 (q0:Int),.int .u16 (q1:Int),.int .u16 (q2:Int),.int .u16 (q3:Int),.int .u16 (q4:Int),.int .u16 (q5:Int),.int .u16 (q6:Int),.int .u16 (q7:Int)] 27)) (w.heap.size+1) [.int .i64 k',.string s',.int .u32 (n':Int),.int .u16 (q0:Int),.int .u16 (q1:Int),.int .u16 (q2:Int),.int .u16 (q3:Int),.int .u16 (q4:Int),.int .u16 (q5:Int),.int .u16 (q6:Int),.int .u16 (q7:Int)]):=by
  have h:BkH ((w.alloc (.cells #[.int .i64 k,.string s,.int .u32 (n:Int),.int .u16 (p0:Int),.int .u16 (p1:Int),.int .u16 (p2:Int),.int .u16 (p3:Int),.int .u16 (p4:Int),.int .u16 (p5:Int),.int .u16 (p6:Int),.int .u16 (p7:Int)] 27)).alloc (.cells #[.int .i64 k',.string s',.int .u32 (n':Int),.int .u16 (q0:Int),.int .u16 (q1:Int),.int .u16 (q2:Int),.int .u16 (q3:Int),.int .u16 (q4:Int),.int .u16 (q5:Int),.int .u16 (q6:Int),.int .u16 (q7:Int)] 27)) (w.alloc (.cells #[.int .i64 k,.string s,.int .u32 (n:Int),.int .u16 (p0:Int),.int .u16 (p1:Int),.int .u16 (p2:Int),.int .u16 (p3:Int),.int .u16 (p4:Int),.int .u16 (p5:Int),.int .u16 (p6:Int),.int .u16 (p7:Int)] 27)).heap.size [.int .i64 k',.string s',.int .u32 (n':Int),.int .u16 (q0:Int),.int .u16 (q1:Int),.int .u16 (q2:Int),.int .u16 (q3:Int),.int .u16 (q4:Int),.int .u16 (q5:Int),.int .u16 (q6:Int),.int .u16 (q7:Int)]:=heap_alloc_new (w.alloc (.cells #[.int .i64 k,.string s,.int .u32 (n:Int),.int .u16 (p0:Int),.int .u16 (p1:Int),.int .u16 (p2:Int),.int .u16 (p3:Int),.int .u16 (p4:Int),.int .u16 (p5:Int),.int .u16 (p6:Int),.int .u16 (p7:Int)] 27)) (.cells #[.int .i64 k',.string s',.int .u32 (n':Int),.int .u16 (q0:Int),.int .u16 (q1:Int),.int .u16 (q2:Int),.int .u16 (q3:Int),.int .u16 (q4:Int),.int .u16 (q5:Int),.int .u16 (q6:Int),.int .u16 (q7:Int)] 27)
  simp only [World.size_alloc] at h
  exact h
 have HB0:Hid (Below w.heap.size w ((w.alloc (.cells #[.int .i64 k,.string s,.int .u32 (n:Int),.int .u16 (p0:Int),.int .u16 (p1:Int),.int .u16 (p2:Int),.int .u16 (p3:Int),.int .u16 (p4:Int),.int .u16 (p5:Int),.int .u16 (p6:Int),.int .u16 (p7:Int)] 27)).alloc (.cells #[.int .i64 k',.string s',.int .u32 (n':Int),.int .u16 (q0:Int),.int .u16 (q1:Int),.int .u16 (q2:Int),.int .u16 (q3:Int),.int .u16 (q4:Int),.int .u16 (q5:Int),.int .u16 (q6:Int),.int .u16 (q7:Int)] 27))):=hid (ballC2 w (.cells #[.int .i64 k,.string s,.int .u32 (n:Int),.int .u16 (p0:Int),.int .u16 (p1:Int),.int .u16 (p2:Int),.int .u16 (p3:Int),.int .u16 (p4:Int),.int .u16 (p5:Int),.int .u16 (p6:Int),.int .u16 (p7:Int)] 27) (.cells #[.int .i64 k',.string s',.int .u32 (n':Int),.int .u16 (q0:Int),.int .u16 (q1:Int),.int .u16 (q2:Int),.int .u16 (q3:Int),.int .u16 (q4:Int),.int .u16 (q5:Int),.int .u16 (q6:Int),.int .u16 (q7:Int)] 27))
 have HF1:=hid (fun w=>hfew_calls k s n p0 p1 p2 p3 p4 p5 p6 p7 w)
 have HF2:=hid (fun w=>hfew_calls k' s' n' q0 q1 q2 q3 q4 q5 q6 q7 w)
 have hd:decide ((s.size:Int)≤5000)=false:=decide_eq_false (by omega)
 rw [hd] at HF1
 clear hd h5
 unfold hostV at *
 go_enter Tryz.func7,Tryz.ntmps7
 go_wp2_with fail
 refine (hfirst_calls _ (T.out.below (by first | exact btw (by assumption) | exact btw_al (by assumption) _ | exact btw_dr (by assumption) | exact btw_ad (by assumption) _ | exact Below.refl _ _ | exact (Below.refl _ _).alloc (Nat.le_refl _) _)).r).mono ?_
 rintro e w1 ⟨rfl,hb⟩
 have HB1:=hid (HB0.out.trans (hb.mono (by simp<;>omega)))
 have HG1:=hid (Bk.below HG0.out hb)
 have HL1:=hid (Bk.below HL0.out hb)
 clear hb HG0 HL0 HB0
 obtain ⟨⟨c0,c1,c2,c3,c4,c5,c6,c7,c8,c9,c10⟩,-⟩:=cellsH HG1.out
 obtain ⟨⟨d0,d1,d2,d3,d4,d5,d6,d7,d8,d9,d10⟩,-⟩:=cellsH HL1.out
 go_wp2_with fail
 refine (HF1.out _).mono ?_
 rintro e w2 ⟨rfl,hb⟩
 have HB2:=hid (below_trans HB1.out hb)
 have HG2:=hid (Bk.below HG1.out hb)
 have HL2:=hid (Bk.below HL1.out hb)
 clear hb
 clear c0 c1 c2 c3 c4 c5 c6 c7 c8 c9 c10 d0 d1 d2 d3 d4 d5 d6 d7 d8 d9 d10
 go_wp2_with fail
 refine (hfirst_calls _ (T.out.below (by first | exact btw (by assumption) | exact btw_al (by assumption) _ | exact btw_dr (by assumption) | exact btw_ad (by assumption) _ | exact Below.refl _ _ | exact (Below.refl _ _).alloc (Nat.le_refl _) _)).r).mono ?_
 rintro e wz ⟨rfl,hb⟩
 have HBz:=hid (below_trans HB2.out hb)
 clear hb
 go_wp2_with fail
 go_ret
 exact ⟨rfl,HBz.out⟩
theorem hostKeys_f2 (k:Int) (s:ByteArray) (n p0 p1 p2 p3 p4 p5 p6 p7:Nat) (k':Int) (s':ByteArray) (n' q0 q1 q2 q3 q4 q5 q6 q7:Nat) (w:World) (T0:TabH w) (h5:s.size≤5000) (h6:¬s'.size≤5000):Calls Tryz.prog 7 #[hostV k s n p0 p1 p2 p3 p4 p5 p6 p7,hostV k' s' n' q0 q1 q2 q3 q4 q5 q6 q7] w fun e w'=>e=.returned (.bool true)∧Below w.heap.size w w':=by
 have T:=hid T0
 clear T0
 have HG0:Hid (BkH ((w.alloc (.cells #[.int .i64 k,.string s,.int .u32 (n:Int),.int .u16 (p0:Int),.int .u16 (p1:Int),.int .u16 (p2:Int),.int .u16 (p3:Int),.int .u16 (p4:Int),.int .u16 (p5:Int),.int .u16 (p6:Int),.int .u16 (p7:Int)] 27)).alloc (.cells #[.int .i64 k',.string s',.int .u32 (n':Int),.int .u16 (q0:Int),.int .u16 (q1:Int),.int .u16 (q2:Int),.int .u16 (q3:Int),.int .u16 (q4:Int),.int .u16 (q5:Int),.int .u16 (q6:Int),.int .u16 (q7:Int)] 27)) w.heap.size [.int .i64 k,.string s,.int .u32 (n:Int),.int .u16 (p0:Int),.int .u16 (p1:Int),.int .u16 (p2:Int),.int .u16 (p3:Int),.int .u16 (p4:Int),.int .u16 (p5:Int),.int .u16 (p6:Int),.int .u16 (p7:Int)]):=hid (Bk.below (heap_alloc_new w (.cells #[.int .i64 k,.string s,.int .u32 (n:Int),.int .u16 (p0:Int),.int .u16 (p1:Int),.int .u16 (p2:Int),.int .u16 (p3:Int),.int .u16 (p4:Int),.int .u16 (p5:Int),.int .u16 (p6:Int),.int .u16 (p7:Int)] 27):BkH _ w.heap.size [.int .i64 k,.string s,.int .u32 (n:Int),.int .u16 (p0:Int),.int .u16 (p1:Int),.int .u16 (p2:Int),.int .u16 (p3:Int),.int .u16 (p4:Int),.int .u16 (p5:Int),.int .u16 (p6:Int),.int .u16 (p7:Int)]) (ballH _ (.cells #[.int .i64 k',.string s',.int .u32 (n':Int),.int .u16 (q0:Int),.int .u16 (q1:Int),.int .u16 (q2:Int),.int .u16 (q3:Int),.int .u16 (q4:Int),.int .u16 (q5:Int),.int .u16 (q6:Int),.int .u16 (q7:Int)] 27)))
 have HL0:Hid (BkH ((w.alloc (.cells #[.int .i64 k,.string s,.int .u32 (n:Int),.int .u16 (p0:Int),.int .u16 (p1:Int),.int .u16 (p2:Int),.int .u16 (p3:Int),.int .u16 (p4:Int),.int .u16 (p5:Int),.int .u16 (p6:Int),.int .u16 (p7:Int)] 27)).alloc (.cells #[.int .i64 k',.string s',.int .u32 (n':Int),.int .u16 (q0:Int),.int .u16 (q1:Int),.int .u16 (q2:Int),.int .u16 (q3:Int),.int .u16 (q4:Int),.int .u16 (q5:Int),.int .u16 (q6:Int),.int .u16 (q7:Int)] 27)) (w.heap.size+1) [.int .i64 k',.string s',.int .u32 (n':Int),.int .u16 (q0:Int),.int .u16 (q1:Int),.int .u16 (q2:Int),.int .u16 (q3:Int),.int .u16 (q4:Int),.int .u16 (q5:Int),.int .u16 (q6:Int),.int .u16 (q7:Int)]):=by
  have h:BkH ((w.alloc (.cells #[.int .i64 k,.string s,.int .u32 (n:Int),.int .u16 (p0:Int),.int .u16 (p1:Int),.int .u16 (p2:Int),.int .u16 (p3:Int),.int .u16 (p4:Int),.int .u16 (p5:Int),.int .u16 (p6:Int),.int .u16 (p7:Int)] 27)).alloc (.cells #[.int .i64 k',.string s',.int .u32 (n':Int),.int .u16 (q0:Int),.int .u16 (q1:Int),.int .u16 (q2:Int),.int .u16 (q3:Int),.int .u16 (q4:Int),.int .u16 (q5:Int),.int .u16 (q6:Int),.int .u16 (q7:Int)] 27)) (w.alloc (.cells #[.int .i64 k,.string s,.int .u32 (n:Int),.int .u16 (p0:Int),.int .u16 (p1:Int),.int .u16 (p2:Int),.int .u16 (p3:Int),.int .u16 (p4:Int),.int .u16 (p5:Int),.int .u16 (p6:Int),.int .u16 (p7:Int)] 27)).heap.size [.int .i64 k',.string s',.int .u32 (n':Int),.int .u16 (q0:Int),.int .u16 (q1:Int),.int .u16 (q2:Int),.int .u16 (q3:Int),.int .u16 (q4:Int),.int .u16 (q5:Int),.int .u16 (q6:Int),.int .u16 (q7:Int)]:=heap_alloc_new (w.alloc (.cells #[.int .i64 k,.string s,.int .u32 (n:Int),.int .u16 (p0:Int),.int .u16 (p1:Int),.int .u16 (p2:Int),.int .u16 (p3:Int),.int .u16 (p4:Int),.int .u16 (p5:Int),.int .u16 (p6:Int),.int .u16 (p7:Int)] 27)) (.cells #[.int .i64 k',.string s',.int .u32 (n':Int),.int .u16 (q0:Int),.int .u16 (q1:Int),.int .u16 (q2:Int),.int .u16 (q3:Int),.int .u16 (q4:Int),.int .u16 (q5:Int),.int .u16 (q6:Int),.int .u16 (q7:Int)] 27)
  simp only [World.size_alloc] at h
  exact h
 have HB0:Hid (Below w.heap.size w ((w.alloc (.cells #[.int .i64 k,.string s,.int .u32 (n:Int),.int .u16 (p0:Int),.int .u16 (p1:Int),.int .u16 (p2:Int),.int .u16 (p3:Int),.int .u16 (p4:Int),.int .u16 (p5:Int),.int .u16 (p6:Int),.int .u16 (p7:Int)] 27)).alloc (.cells #[.int .i64 k',.string s',.int .u32 (n':Int),.int .u16 (q0:Int),.int .u16 (q1:Int),.int .u16 (q2:Int),.int .u16 (q3:Int),.int .u16 (q4:Int),.int .u16 (q5:Int),.int .u16 (q6:Int),.int .u16 (q7:Int)] 27))):=hid (ballC2 w (.cells #[.int .i64 k,.string s,.int .u32 (n:Int),.int .u16 (p0:Int),.int .u16 (p1:Int),.int .u16 (p2:Int),.int .u16 (p3:Int),.int .u16 (p4:Int),.int .u16 (p5:Int),.int .u16 (p6:Int),.int .u16 (p7:Int)] 27) (.cells #[.int .i64 k',.string s',.int .u32 (n':Int),.int .u16 (q0:Int),.int .u16 (q1:Int),.int .u16 (q2:Int),.int .u16 (q3:Int),.int .u16 (q4:Int),.int .u16 (q5:Int),.int .u16 (q6:Int),.int .u16 (q7:Int)] 27))
 have HF1:=hid (fun w=>hfew_calls k s n p0 p1 p2 p3 p4 p5 p6 p7 w)
 have HF2:=hid (fun w=>hfew_calls k' s' n' q0 q1 q2 q3 q4 q5 q6 q7 w)
 have hd:decide ((s.size:Int)≤5000)=true:=decide_eq_true (by omega)
 have he:decide ((s'.size:Int)≤5000)=false:=decide_eq_false (by omega)
 rw [hd] at HF1
 rw [he] at HF2
 clear hd he h5 h6
 unfold hostV at *
 go_enter Tryz.func7,Tryz.ntmps7
 go_wp2_with fail
 refine (hfirst_calls _ (T.out.below (by first | exact btw (by assumption) | exact btw_al (by assumption) _ | exact btw_dr (by assumption) | exact btw_ad (by assumption) _ | exact Below.refl _ _ | exact (Below.refl _ _).alloc (Nat.le_refl _) _)).r).mono ?_
 rintro e w1 ⟨rfl,hb⟩
 have HB1:=hid (HB0.out.trans (hb.mono (by simp<;>omega)))
 have HG1:=hid (Bk.below HG0.out hb)
 have HL1:=hid (Bk.below HL0.out hb)
 clear hb HG0 HL0 HB0
 obtain ⟨⟨c0,c1,c2,c3,c4,c5,c6,c7,c8,c9,c10⟩,-⟩:=cellsH HG1.out
 obtain ⟨⟨d0,d1,d2,d3,d4,d5,d6,d7,d8,d9,d10⟩,-⟩:=cellsH HL1.out
 go_wp2_with fail
 refine (HF1.out _).mono ?_
 rintro e w2 ⟨rfl,hb⟩
 have HB2:=hid (below_trans HB1.out hb)
 have HG2:=hid (Bk.below HG1.out hb)
 have HL2:=hid (Bk.below HL1.out hb)
 clear hb
 clear c0 c1 c2 c3 c4 c5 c6 c7 c8 c9 c10 d0 d1 d2 d3 d4 d5 d6 d7 d8 d9 d10
 obtain ⟨⟨c0,c1,c2,c3,c4,c5,c6,c7,c8,c9,c10⟩,-⟩:=cellsH HG2.out
 obtain ⟨⟨d0,d1,d2,d3,d4,d5,d6,d7,d8,d9,d10⟩,-⟩:=cellsH HL2.out
 go_wp2_with fail
 refine (HF2.out _).mono ?_
 rintro e w3 ⟨rfl,hb⟩
 have HB3:=hid (below_trans HB2.out hb)
 have HG3:=hid (Bk.below HG2.out hb)
 have HL3:=hid (Bk.below HL2.out hb)
 clear hb
 clear c0 c1 c2 c3 c4 c5 c6 c7 c8 c9 c10 d0 d1 d2 d3 d4 d5 d6 d7 d8 d9 d10
 go_wp2_with fail
 refine (hfirst_calls _ (T.out.below (by first | exact btw (by assumption) | exact btw_al (by assumption) _ | exact btw_dr (by assumption) | exact btw_ad (by assumption) _ | exact Below.refl _ _ | exact (Below.refl _ _).alloc (Nat.le_refl _) _)).r).mono ?_
 rintro e wz ⟨rfl,hb⟩
 have HBz:=hid (below_trans HB3.out hb)
 clear hb
 go_wp2_with fail
 go_ret
 exact ⟨rfl,HBz.out⟩
theorem hostKeys_m1 (k:Int) (s:ByteArray) (n p0 p1 p2 p3 p4 p5 p6 p7:Nat) (k':Int) (s':ByteArray) (n' q0 q1 q2 q3 q4 q5 q6 q7:Nat) (w:World) (T0:TabH w) (h5:s.size≤5000) (h6:s'.size≤5000) (hn:n < 4294967296) (hx:∀x∈[p0,p1,p2,p3,p4,p5,p6,p7],x < 65536) (hn':n' < 4294967296) (hx':∀x∈[q0,q1,q2,q3,q4,q5,q6,q7],x < 65536) (hm:mayR (k,s.data.toList,n,[p0,p1,p2,p3,p4,p5,p6,p7])=false):Calls Tryz.prog 7 #[hostV k s n p0 p1 p2 p3 p4 p5 p6 p7,hostV k' s' n' q0 q1 q2 q3 q4 q5 q6 q7] w fun e w'=>e=.returned (.bool true)∧Below w.heap.size w w':=by
 have T:=hid T0
 clear T0
 have HG0:Hid (BkH ((w.alloc (.cells #[.int .i64 k,.string s,.int .u32 (n:Int),.int .u16 (p0:Int),.int .u16 (p1:Int),.int .u16 (p2:Int),.int .u16 (p3:Int),.int .u16 (p4:Int),.int .u16 (p5:Int),.int .u16 (p6:Int),.int .u16 (p7:Int)] 27)).alloc (.cells #[.int .i64 k',.string s',.int .u32 (n':Int),.int .u16 (q0:Int),.int .u16 (q1:Int),.int .u16 (q2:Int),.int .u16 (q3:Int),.int .u16 (q4:Int),.int .u16 (q5:Int),.int .u16 (q6:Int),.int .u16 (q7:Int)] 27)) w.heap.size [.int .i64 k,.string s,.int .u32 (n:Int),.int .u16 (p0:Int),.int .u16 (p1:Int),.int .u16 (p2:Int),.int .u16 (p3:Int),.int .u16 (p4:Int),.int .u16 (p5:Int),.int .u16 (p6:Int),.int .u16 (p7:Int)]):=hid (Bk.below (heap_alloc_new w (.cells #[.int .i64 k,.string s,.int .u32 (n:Int),.int .u16 (p0:Int),.int .u16 (p1:Int),.int .u16 (p2:Int),.int .u16 (p3:Int),.int .u16 (p4:Int),.int .u16 (p5:Int),.int .u16 (p6:Int),.int .u16 (p7:Int)] 27):BkH _ w.heap.size [.int .i64 k,.string s,.int .u32 (n:Int),.int .u16 (p0:Int),.int .u16 (p1:Int),.int .u16 (p2:Int),.int .u16 (p3:Int),.int .u16 (p4:Int),.int .u16 (p5:Int),.int .u16 (p6:Int),.int .u16 (p7:Int)]) (ballH _ (.cells #[.int .i64 k',.string s',.int .u32 (n':Int),.int .u16 (q0:Int),.int .u16 (q1:Int),.int .u16 (q2:Int),.int .u16 (q3:Int),.int .u16 (q4:Int),.int .u16 (q5:Int),.int .u16 (q6:Int),.int .u16 (q7:Int)] 27)))
 have HL0:Hid (BkH ((w.alloc (.cells #[.int .i64 k,.string s,.int .u32 (n:Int),.int .u16 (p0:Int),.int .u16 (p1:Int),.int .u16 (p2:Int),.int .u16 (p3:Int),.int .u16 (p4:Int),.int .u16 (p5:Int),.int .u16 (p6:Int),.int .u16 (p7:Int)] 27)).alloc (.cells #[.int .i64 k',.string s',.int .u32 (n':Int),.int .u16 (q0:Int),.int .u16 (q1:Int),.int .u16 (q2:Int),.int .u16 (q3:Int),.int .u16 (q4:Int),.int .u16 (q5:Int),.int .u16 (q6:Int),.int .u16 (q7:Int)] 27)) (w.heap.size+1) [.int .i64 k',.string s',.int .u32 (n':Int),.int .u16 (q0:Int),.int .u16 (q1:Int),.int .u16 (q2:Int),.int .u16 (q3:Int),.int .u16 (q4:Int),.int .u16 (q5:Int),.int .u16 (q6:Int),.int .u16 (q7:Int)]):=by
  have h:BkH ((w.alloc (.cells #[.int .i64 k,.string s,.int .u32 (n:Int),.int .u16 (p0:Int),.int .u16 (p1:Int),.int .u16 (p2:Int),.int .u16 (p3:Int),.int .u16 (p4:Int),.int .u16 (p5:Int),.int .u16 (p6:Int),.int .u16 (p7:Int)] 27)).alloc (.cells #[.int .i64 k',.string s',.int .u32 (n':Int),.int .u16 (q0:Int),.int .u16 (q1:Int),.int .u16 (q2:Int),.int .u16 (q3:Int),.int .u16 (q4:Int),.int .u16 (q5:Int),.int .u16 (q6:Int),.int .u16 (q7:Int)] 27)) (w.alloc (.cells #[.int .i64 k,.string s,.int .u32 (n:Int),.int .u16 (p0:Int),.int .u16 (p1:Int),.int .u16 (p2:Int),.int .u16 (p3:Int),.int .u16 (p4:Int),.int .u16 (p5:Int),.int .u16 (p6:Int),.int .u16 (p7:Int)] 27)).heap.size [.int .i64 k',.string s',.int .u32 (n':Int),.int .u16 (q0:Int),.int .u16 (q1:Int),.int .u16 (q2:Int),.int .u16 (q3:Int),.int .u16 (q4:Int),.int .u16 (q5:Int),.int .u16 (q6:Int),.int .u16 (q7:Int)]:=heap_alloc_new (w.alloc (.cells #[.int .i64 k,.string s,.int .u32 (n:Int),.int .u16 (p0:Int),.int .u16 (p1:Int),.int .u16 (p2:Int),.int .u16 (p3:Int),.int .u16 (p4:Int),.int .u16 (p5:Int),.int .u16 (p6:Int),.int .u16 (p7:Int)] 27)) (.cells #[.int .i64 k',.string s',.int .u32 (n':Int),.int .u16 (q0:Int),.int .u16 (q1:Int),.int .u16 (q2:Int),.int .u16 (q3:Int),.int .u16 (q4:Int),.int .u16 (q5:Int),.int .u16 (q6:Int),.int .u16 (q7:Int)] 27)
  simp only [World.size_alloc] at h
  exact h
 have HB0:Hid (Below w.heap.size w ((w.alloc (.cells #[.int .i64 k,.string s,.int .u32 (n:Int),.int .u16 (p0:Int),.int .u16 (p1:Int),.int .u16 (p2:Int),.int .u16 (p3:Int),.int .u16 (p4:Int),.int .u16 (p5:Int),.int .u16 (p6:Int),.int .u16 (p7:Int)] 27)).alloc (.cells #[.int .i64 k',.string s',.int .u32 (n':Int),.int .u16 (q0:Int),.int .u16 (q1:Int),.int .u16 (q2:Int),.int .u16 (q3:Int),.int .u16 (q4:Int),.int .u16 (q5:Int),.int .u16 (q6:Int),.int .u16 (q7:Int)] 27))):=hid (ballC2 w (.cells #[.int .i64 k,.string s,.int .u32 (n:Int),.int .u16 (p0:Int),.int .u16 (p1:Int),.int .u16 (p2:Int),.int .u16 (p3:Int),.int .u16 (p4:Int),.int .u16 (p5:Int),.int .u16 (p6:Int),.int .u16 (p7:Int)] 27) (.cells #[.int .i64 k',.string s',.int .u32 (n':Int),.int .u16 (q0:Int),.int .u16 (q1:Int),.int .u16 (q2:Int),.int .u16 (q3:Int),.int .u16 (q4:Int),.int .u16 (q5:Int),.int .u16 (q6:Int),.int .u16 (q7:Int)] 27))
 have HF1:=hid (fun w=>hfew_calls k s n p0 p1 p2 p3 p4 p5 p6 p7 w)
 have HF2:=hid (fun w=>hfew_calls k' s' n' q0 q1 q2 q3 q4 q5 q6 q7 w)
 have hd:decide ((s.size:Int)≤5000)=true:=decide_eq_true (by omega)
 have he:decide ((s'.size:Int)≤5000)=true:=decide_eq_true (by omega)
 rw [hd] at HF1
 rw [he] at HF2
 have HM1:=hid (fun w t=>hmay_calls k s n p0 p1 p2 p3 p4 p5 p6 p7 w hn hx (by omega) t)
 have HM2:=hid (fun w t=>hmay_calls k' s' n' q0 q1 q2 q3 q4 q5 q6 q7 w hn' hx' (by omega) t)
 rw [hm] at HM1
 clear hd he h5 h6 hn hx hn' hx' hm
 unfold hostV at *
 go_enter Tryz.func7,Tryz.ntmps7
 go_wp2_with fail
 refine (hfirst_calls _ (T.out.below (by first | exact btw (by assumption) | exact btw_al (by assumption) _ | exact btw_dr (by assumption) | exact btw_ad (by assumption) _ | exact Below.refl _ _ | exact (Below.refl _ _).alloc (Nat.le_refl _) _)).r).mono ?_
 rintro e w1 ⟨rfl,hb⟩
 have HB1:=hid (HB0.out.trans (hb.mono (by simp<;>omega)))
 have HG1:=hid (Bk.below HG0.out hb)
 have HL1:=hid (Bk.below HL0.out hb)
 clear hb HG0 HL0 HB0
 obtain ⟨⟨c0,c1,c2,c3,c4,c5,c6,c7,c8,c9,c10⟩,-⟩:=cellsH HG1.out
 obtain ⟨⟨d0,d1,d2,d3,d4,d5,d6,d7,d8,d9,d10⟩,-⟩:=cellsH HL1.out
 go_wp2_with fail
 refine (HF1.out _).mono ?_
 rintro e w2 ⟨rfl,hb⟩
 have HB2:=hid (below_trans HB1.out hb)
 have HG2:=hid (Bk.below HG1.out hb)
 have HL2:=hid (Bk.below HL1.out hb)
 clear hb
 clear c0 c1 c2 c3 c4 c5 c6 c7 c8 c9 c10 d0 d1 d2 d3 d4 d5 d6 d7 d8 d9 d10
 obtain ⟨⟨c0,c1,c2,c3,c4,c5,c6,c7,c8,c9,c10⟩,-⟩:=cellsH HG2.out
 obtain ⟨⟨d0,d1,d2,d3,d4,d5,d6,d7,d8,d9,d10⟩,-⟩:=cellsH HL2.out
 go_wp2_with fail
 refine (HF2.out _).mono ?_
 rintro e w3 ⟨rfl,hb⟩
 have HB3:=hid (below_trans HB2.out hb)
 have HG3:=hid (Bk.below HG2.out hb)
 have HL3:=hid (Bk.below HL2.out hb)
 clear hb
 clear c0 c1 c2 c3 c4 c5 c6 c7 c8 c9 c10 d0 d1 d2 d3 d4 d5 d6 d7 d8 d9 d10
 obtain ⟨⟨c0,c1,c2,c3,c4,c5,c6,c7,c8,c9,c10⟩,-⟩:=cellsH HG3.out
 obtain ⟨⟨d0,d1,d2,d3,d4,d5,d6,d7,d8,d9,d10⟩,-⟩:=cellsH HL3.out
 go_wp2_with fail
 refine (HM1.out _ (T.out.below (by first | exact btw (by assumption) | exact btw_al (by assumption) _ | exact btw_dr (by assumption) | exact btw_ad (by assumption) _ | exact Below.refl _ _ | exact (Below.refl _ _).alloc (Nat.le_refl _) _))).mono ?_
 rintro e w4 ⟨rfl,hb⟩
 have HB4:=hid (below_trans HB3.out hb)
 have HG4:=hid (Bk.below HG3.out hb)
 have HL4:=hid (Bk.below HL3.out hb)
 clear hb
 clear c0 c1 c2 c3 c4 c5 c6 c7 c8 c9 c10 d0 d1 d2 d3 d4 d5 d6 d7 d8 d9 d10
 go_wp2_with fail
 refine (hfirst_calls _ (T.out.below (by first | exact btw (by assumption) | exact btw_al (by assumption) _ | exact btw_dr (by assumption) | exact btw_ad (by assumption) _ | exact Below.refl _ _ | exact (Below.refl _ _).alloc (Nat.le_refl _) _)).r).mono ?_
 rintro e wz ⟨rfl,hb⟩
 have HBz:=hid (below_trans HB4.out hb)
 clear hb
 go_wp2_with fail
 go_ret
 exact ⟨rfl,HBz.out⟩
theorem hostKeys_m2 (k:Int) (s:ByteArray) (n p0 p1 p2 p3 p4 p5 p6 p7:Nat) (k':Int) (s':ByteArray) (n' q0 q1 q2 q3 q4 q5 q6 q7:Nat) (w:World) (T0:TabH w) (h5:s.size≤5000) (h6:s'.size≤5000) (hn:n < 4294967296) (hx:∀x∈[p0,p1,p2,p3,p4,p5,p6,p7],x < 65536) (hn':n' < 4294967296) (hx':∀x∈[q0,q1,q2,q3,q4,q5,q6,q7],x < 65536) (hm:mayR (k,s.data.toList,n,[p0,p1,p2,p3,p4,p5,p6,p7])=true) (hm2:mayR (k',s'.data.toList,n',[q0,q1,q2,q3,q4,q5,q6,q7])=false):Calls Tryz.prog 7 #[hostV k s n p0 p1 p2 p3 p4 p5 p6 p7,hostV k' s' n' q0 q1 q2 q3 q4 q5 q6 q7] w fun e w'=>e=.returned (.bool true)∧Below w.heap.size w w':=by
 have T:=hid T0
 clear T0
 have HG0:Hid (BkH ((w.alloc (.cells #[.int .i64 k,.string s,.int .u32 (n:Int),.int .u16 (p0:Int),.int .u16 (p1:Int),.int .u16 (p2:Int),.int .u16 (p3:Int),.int .u16 (p4:Int),.int .u16 (p5:Int),.int .u16 (p6:Int),.int .u16 (p7:Int)] 27)).alloc (.cells #[.int .i64 k',.string s',.int .u32 (n':Int),.int .u16 (q0:Int),.int .u16 (q1:Int),.int .u16 (q2:Int),.int .u16 (q3:Int),.int .u16 (q4:Int),.int .u16 (q5:Int),.int .u16 (q6:Int),.int .u16 (q7:Int)] 27)) w.heap.size [.int .i64 k,.string s,.int .u32 (n:Int),.int .u16 (p0:Int),.int .u16 (p1:Int),.int .u16 (p2:Int),.int .u16 (p3:Int),.int .u16 (p4:Int),.int .u16 (p5:Int),.int .u16 (p6:Int),.int .u16 (p7:Int)]):=hid (Bk.below (heap_alloc_new w (.cells #[.int .i64 k,.string s,.int .u32 (n:Int),.int .u16 (p0:Int),.int .u16 (p1:Int),.int .u16 (p2:Int),.int .u16 (p3:Int),.int .u16 (p4:Int),.int .u16 (p5:Int),.int .u16 (p6:Int),.int .u16 (p7:Int)] 27):BkH _ w.heap.size [.int .i64 k,.string s,.int .u32 (n:Int),.int .u16 (p0:Int),.int .u16 (p1:Int),.int .u16 (p2:Int),.int .u16 (p3:Int),.int .u16 (p4:Int),.int .u16 (p5:Int),.int .u16 (p6:Int),.int .u16 (p7:Int)]) (ballH _ (.cells #[.int .i64 k',.string s',.int .u32 (n':Int),.int .u16 (q0:Int),.int .u16 (q1:Int),.int .u16 (q2:Int),.int .u16 (q3:Int),.int .u16 (q4:Int),.int .u16 (q5:Int),.int .u16 (q6:Int),.int .u16 (q7:Int)] 27)))
 have HL0:Hid (BkH ((w.alloc (.cells #[.int .i64 k,.string s,.int .u32 (n:Int),.int .u16 (p0:Int),.int .u16 (p1:Int),.int .u16 (p2:Int),.int .u16 (p3:Int),.int .u16 (p4:Int),.int .u16 (p5:Int),.int .u16 (p6:Int),.int .u16 (p7:Int)] 27)).alloc (.cells #[.int .i64 k',.string s',.int .u32 (n':Int),.int .u16 (q0:Int),.int .u16 (q1:Int),.int .u16 (q2:Int),.int .u16 (q3:Int),.int .u16 (q4:Int),.int .u16 (q5:Int),.int .u16 (q6:Int),.int .u16 (q7:Int)] 27)) (w.heap.size+1) [.int .i64 k',.string s',.int .u32 (n':Int),.int .u16 (q0:Int),.int .u16 (q1:Int),.int .u16 (q2:Int),.int .u16 (q3:Int),.int .u16 (q4:Int),.int .u16 (q5:Int),.int .u16 (q6:Int),.int .u16 (q7:Int)]):=by
  have h:BkH ((w.alloc (.cells #[.int .i64 k,.string s,.int .u32 (n:Int),.int .u16 (p0:Int),.int .u16 (p1:Int),.int .u16 (p2:Int),.int .u16 (p3:Int),.int .u16 (p4:Int),.int .u16 (p5:Int),.int .u16 (p6:Int),.int .u16 (p7:Int)] 27)).alloc (.cells #[.int .i64 k',.string s',.int .u32 (n':Int),.int .u16 (q0:Int),.int .u16 (q1:Int),.int .u16 (q2:Int),.int .u16 (q3:Int),.int .u16 (q4:Int),.int .u16 (q5:Int),.int .u16 (q6:Int),.int .u16 (q7:Int)] 27)) (w.alloc (.cells #[.int .i64 k,.string s,.int .u32 (n:Int),.int .u16 (p0:Int),.int .u16 (p1:Int),.int .u16 (p2:Int),.int .u16 (p3:Int),.int .u16 (p4:Int),.int .u16 (p5:Int),.int .u16 (p6:Int),.int .u16 (p7:Int)] 27)).heap.size [.int .i64 k',.string s',.int .u32 (n':Int),.int .u16 (q0:Int),.int .u16 (q1:Int),.int .u16 (q2:Int),.int .u16 (q3:Int),.int .u16 (q4:Int),.int .u16 (q5:Int),.int .u16 (q6:Int),.int .u16 (q7:Int)]:=heap_alloc_new (w.alloc (.cells #[.int .i64 k,.string s,.int .u32 (n:Int),.int .u16 (p0:Int),.int .u16 (p1:Int),.int .u16 (p2:Int),.int .u16 (p3:Int),.int .u16 (p4:Int),.int .u16 (p5:Int),.int .u16 (p6:Int),.int .u16 (p7:Int)] 27)) (.cells #[.int .i64 k',.string s',.int .u32 (n':Int),.int .u16 (q0:Int),.int .u16 (q1:Int),.int .u16 (q2:Int),.int .u16 (q3:Int),.int .u16 (q4:Int),.int .u16 (q5:Int),.int .u16 (q6:Int),.int .u16 (q7:Int)] 27)
  simp only [World.size_alloc] at h
  exact h
 have HB0:Hid (Below w.heap.size w ((w.alloc (.cells #[.int .i64 k,.string s,.int .u32 (n:Int),.int .u16 (p0:Int),.int .u16 (p1:Int),.int .u16 (p2:Int),.int .u16 (p3:Int),.int .u16 (p4:Int),.int .u16 (p5:Int),.int .u16 (p6:Int),.int .u16 (p7:Int)] 27)).alloc (.cells #[.int .i64 k',.string s',.int .u32 (n':Int),.int .u16 (q0:Int),.int .u16 (q1:Int),.int .u16 (q2:Int),.int .u16 (q3:Int),.int .u16 (q4:Int),.int .u16 (q5:Int),.int .u16 (q6:Int),.int .u16 (q7:Int)] 27))):=hid (ballC2 w (.cells #[.int .i64 k,.string s,.int .u32 (n:Int),.int .u16 (p0:Int),.int .u16 (p1:Int),.int .u16 (p2:Int),.int .u16 (p3:Int),.int .u16 (p4:Int),.int .u16 (p5:Int),.int .u16 (p6:Int),.int .u16 (p7:Int)] 27) (.cells #[.int .i64 k',.string s',.int .u32 (n':Int),.int .u16 (q0:Int),.int .u16 (q1:Int),.int .u16 (q2:Int),.int .u16 (q3:Int),.int .u16 (q4:Int),.int .u16 (q5:Int),.int .u16 (q6:Int),.int .u16 (q7:Int)] 27))
 have HF1:=hid (fun w=>hfew_calls k s n p0 p1 p2 p3 p4 p5 p6 p7 w)
 have HF2:=hid (fun w=>hfew_calls k' s' n' q0 q1 q2 q3 q4 q5 q6 q7 w)
 have hd:decide ((s.size:Int)≤5000)=true:=decide_eq_true (by omega)
 have he:decide ((s'.size:Int)≤5000)=true:=decide_eq_true (by omega)
 rw [hd] at HF1
 rw [he] at HF2
 have HM1:=hid (fun w t=>hmay_calls k s n p0 p1 p2 p3 p4 p5 p6 p7 w hn hx (by omega) t)
 have HM2:=hid (fun w t=>hmay_calls k' s' n' q0 q1 q2 q3 q4 q5 q6 q7 w hn' hx' (by omega) t)
 rw [hm] at HM1
 rw [hm2] at HM2
 clear hd he h5 h6 hn hx hn' hx' hm hm2
 unfold hostV at *
 go_enter Tryz.func7,Tryz.ntmps7
 go_wp2_with fail
 refine (hfirst_calls _ (T.out.below (by first | exact btw (by assumption) | exact btw_al (by assumption) _ | exact btw_dr (by assumption) | exact btw_ad (by assumption) _ | exact Below.refl _ _ | exact (Below.refl _ _).alloc (Nat.le_refl _) _)).r).mono ?_
 rintro e w1 ⟨rfl,hb⟩
 have HB1:=hid (HB0.out.trans (hb.mono (by simp<;>omega)))
 have HG1:=hid (Bk.below HG0.out hb)
 have HL1:=hid (Bk.below HL0.out hb)
 clear hb HG0 HL0 HB0
 obtain ⟨⟨c0,c1,c2,c3,c4,c5,c6,c7,c8,c9,c10⟩,-⟩:=cellsH HG1.out
 obtain ⟨⟨d0,d1,d2,d3,d4,d5,d6,d7,d8,d9,d10⟩,-⟩:=cellsH HL1.out
 go_wp2_with fail
 refine (HF1.out _).mono ?_
 rintro e w2 ⟨rfl,hb⟩
 have HB2:=hid (below_trans HB1.out hb)
 have HG2:=hid (Bk.below HG1.out hb)
 have HL2:=hid (Bk.below HL1.out hb)
 clear hb
 clear c0 c1 c2 c3 c4 c5 c6 c7 c8 c9 c10 d0 d1 d2 d3 d4 d5 d6 d7 d8 d9 d10
 obtain ⟨⟨c0,c1,c2,c3,c4,c5,c6,c7,c8,c9,c10⟩,-⟩:=cellsH HG2.out
 obtain ⟨⟨d0,d1,d2,d3,d4,d5,d6,d7,d8,d9,d10⟩,-⟩:=cellsH HL2.out
 go_wp2_with fail
 refine (HF2.out _).mono ?_
 rintro e w3 ⟨rfl,hb⟩
 have HB3:=hid (below_trans HB2.out hb)
 have HG3:=hid (Bk.below HG2.out hb)
 have HL3:=hid (Bk.below HL2.out hb)
 clear hb
 clear c0 c1 c2 c3 c4 c5 c6 c7 c8 c9 c10 d0 d1 d2 d3 d4 d5 d6 d7 d8 d9 d10
 obtain ⟨⟨c0,c1,c2,c3,c4,c5,c6,c7,c8,c9,c10⟩,-⟩:=cellsH HG3.out
 obtain ⟨⟨d0,d1,d2,d3,d4,d5,d6,d7,d8,d9,d10⟩,-⟩:=cellsH HL3.out
 go_wp2_with fail
 refine (HM1.out _ (T.out.below (by first | exact btw (by assumption) | exact btw_al (by assumption) _ | exact btw_dr (by assumption) | exact btw_ad (by assumption) _ | exact Below.refl _ _ | exact (Below.refl _ _).alloc (Nat.le_refl _) _))).mono ?_
 rintro e w4 ⟨rfl,hb⟩
 have HB4:=hid (below_trans HB3.out hb)
 have HG4:=hid (Bk.below HG3.out hb)
 have HL4:=hid (Bk.below HL3.out hb)
 clear hb
 clear c0 c1 c2 c3 c4 c5 c6 c7 c8 c9 c10 d0 d1 d2 d3 d4 d5 d6 d7 d8 d9 d10
 obtain ⟨⟨c0,c1,c2,c3,c4,c5,c6,c7,c8,c9,c10⟩,-⟩:=cellsH HG4.out
 obtain ⟨⟨d0,d1,d2,d3,d4,d5,d6,d7,d8,d9,d10⟩,-⟩:=cellsH HL4.out
 go_wp2_with fail
 refine (HM2.out _ (T.out.below (by first | exact btw (by assumption) | exact btw_al (by assumption) _ | exact btw_dr (by assumption) | exact btw_ad (by assumption) _ | exact Below.refl _ _ | exact (Below.refl _ _).alloc (Nat.le_refl _) _))).mono ?_
 rintro e w5 ⟨rfl,hb⟩
 have HB5:=hid (below_trans HB4.out hb)
 have HG5:=hid (Bk.below HG4.out hb)
 have HL5:=hid (Bk.below HL4.out hb)
 clear hb
 clear c0 c1 c2 c3 c4 c5 c6 c7 c8 c9 c10 d0 d1 d2 d3 d4 d5 d6 d7 d8 d9 d10
 go_wp2_with fail
 refine (hfirst_calls _ (T.out.below (by first | exact btw (by assumption) | exact btw_al (by assumption) _ | exact btw_dr (by assumption) | exact btw_ad (by assumption) _ | exact Below.refl _ _ | exact (Below.refl _ _).alloc (Nat.le_refl _) _)).r).mono ?_
 rintro e wz ⟨rfl,hb⟩
 have HBz:=hid (below_trans HB5.out hb)
 clear hb
 go_wp2_with fail
 go_ret
 exact ⟨rfl,HBz.out⟩
theorem put_atH {w:World} {r:Nat} {o':Obj} (h:w.heap[r]? = some o') (o:Obj):(putObjH w r o).heap[r]? = some o:=by
 have hl:r < w.heap.size:=(Array.getElem?_eq_some_iff.1 h).1
 unfold putObjH
 simp [hl]
theorem put_otherH {w:World} {r j:Nat} (h:j≠r) (o:Obj):(putObjH w r o).heap[j]? = w.heap[j]? := by
 unfold putObjH
 simp only [Array.getElem?_setIfInBounds]
 rw [if_neg (fun e=>h e.symm)]
theorem below_putH {n r:Nat} {w w2:World} (h:Below n w w2) (hr:n≤r) (o:Obj):Below n w (putObjH w2 r o) :=
 ⟨h.os,h.tape,h.output,by unfold putObjH;simpa using h.size,fun j hj=>(put_otherH (by omega) o).trans (h.block j hj)⟩
def KeysAt (w:World) (G D R:Nat) (xs ys:List Value) (m:Obj):Prop:=BkH w G xs∧BkH w D ys∧w.heap[R]? = some m
theorem keys_on {w w':World} {G D R:Nat} {xs ys:List Value} {m:Obj} (h:KeysAt w G D R xs ys m) (hb:Below w.heap.size w w'):KeysAt w' G D R xs ys m :=
 ⟨Bk.below h.1 hb,Bk.below h.2.1 hb,(hb.block R (Array.getElem?_eq_some_iff.1 h.2.2).1).trans h.2.2⟩
theorem keys_put {w:World} {G D:Nat} {xs ys:List Value} {o m:Obj} (hg:BkH w G xs) (hd:BkH w D ys):KeysAt (putObjH (w.alloc o) w.heap.size m) G D w.heap.size xs ys m :=
 ⟨(put_otherH (Nat.ne_of_lt hg.lt) m).trans (Bk.below hg (ballH w o)),(put_otherH (Nat.ne_of_lt hd.lt) m).trans (Bk.below hd (ballH w o)),put_atH (heap_alloc_new w o) m⟩
theorem hostKeys_same (k:Int) (s:ByteArray) (n p0 p1 p2 p3 p4 p5 p6 p7:Nat) (w:World) (T0:TabH w) (h5:s.size≤5000) (h6:s.size≤5000) (hn:n < 4294967296) (hx:∀x∈[p0,p1,p2,p3,p4,p5,p6,p7],x < 65536) (hn2:n < 4294967296) (hx2:∀x∈[p0,p1,p2,p3,p4,p5,p6,p7],x < 65536) (hm:mayR (k,s.data.toList,n,[p0,p1,p2,p3,p4,p5,p6,p7])=true) (hm2:mayR (k,s.data.toList,n,[p0,p1,p2,p3,p4,p5,p6,p7])=true):Calls Tryz.prog 7 #[hostV k s n p0 p1 p2 p3 p4 p5 p6 p7,hostV k s n p0 p1 p2 p3 p4 p5 p6 p7] w fun e w'=>e=.returned (.bool true)∧Below w.heap.size w w':=by
 have T:=hid T0
 clear T0
 have HG0:Hid (BkH ((w.alloc (.cells #[.int .i64 k,.string s,.int .u32 (n:Int),.int .u16 (p0:Int),.int .u16 (p1:Int),.int .u16 (p2:Int),.int .u16 (p3:Int),.int .u16 (p4:Int),.int .u16 (p5:Int),.int .u16 (p6:Int),.int .u16 (p7:Int)] 27)).alloc (.cells #[.int .i64 k,.string s,.int .u32 (n:Int),.int .u16 (p0:Int),.int .u16 (p1:Int),.int .u16 (p2:Int),.int .u16 (p3:Int),.int .u16 (p4:Int),.int .u16 (p5:Int),.int .u16 (p6:Int),.int .u16 (p7:Int)] 27)) w.heap.size [.int .i64 k,.string s,.int .u32 (n:Int),.int .u16 (p0:Int),.int .u16 (p1:Int),.int .u16 (p2:Int),.int .u16 (p3:Int),.int .u16 (p4:Int),.int .u16 (p5:Int),.int .u16 (p6:Int),.int .u16 (p7:Int)]):=hid (Bk.below (heap_alloc_new w (.cells #[.int .i64 k,.string s,.int .u32 (n:Int),.int .u16 (p0:Int),.int .u16 (p1:Int),.int .u16 (p2:Int),.int .u16 (p3:Int),.int .u16 (p4:Int),.int .u16 (p5:Int),.int .u16 (p6:Int),.int .u16 (p7:Int)] 27):BkH _ w.heap.size [.int .i64 k,.string s,.int .u32 (n:Int),.int .u16 (p0:Int),.int .u16 (p1:Int),.int .u16 (p2:Int),.int .u16 (p3:Int),.int .u16 (p4:Int),.int .u16 (p5:Int),.int .u16 (p6:Int),.int .u16 (p7:Int)]) (ballH _ (.cells #[.int .i64 k,.string s,.int .u32 (n:Int),.int .u16 (p0:Int),.int .u16 (p1:Int),.int .u16 (p2:Int),.int .u16 (p3:Int),.int .u16 (p4:Int),.int .u16 (p5:Int),.int .u16 (p6:Int),.int .u16 (p7:Int)] 27)))
 have HL0:Hid (BkH ((w.alloc (.cells #[.int .i64 k,.string s,.int .u32 (n:Int),.int .u16 (p0:Int),.int .u16 (p1:Int),.int .u16 (p2:Int),.int .u16 (p3:Int),.int .u16 (p4:Int),.int .u16 (p5:Int),.int .u16 (p6:Int),.int .u16 (p7:Int)] 27)).alloc (.cells #[.int .i64 k,.string s,.int .u32 (n:Int),.int .u16 (p0:Int),.int .u16 (p1:Int),.int .u16 (p2:Int),.int .u16 (p3:Int),.int .u16 (p4:Int),.int .u16 (p5:Int),.int .u16 (p6:Int),.int .u16 (p7:Int)] 27)) (w.heap.size+1) [.int .i64 k,.string s,.int .u32 (n:Int),.int .u16 (p0:Int),.int .u16 (p1:Int),.int .u16 (p2:Int),.int .u16 (p3:Int),.int .u16 (p4:Int),.int .u16 (p5:Int),.int .u16 (p6:Int),.int .u16 (p7:Int)]):=by
  have h:BkH ((w.alloc (.cells #[.int .i64 k,.string s,.int .u32 (n:Int),.int .u16 (p0:Int),.int .u16 (p1:Int),.int .u16 (p2:Int),.int .u16 (p3:Int),.int .u16 (p4:Int),.int .u16 (p5:Int),.int .u16 (p6:Int),.int .u16 (p7:Int)] 27)).alloc (.cells #[.int .i64 k,.string s,.int .u32 (n:Int),.int .u16 (p0:Int),.int .u16 (p1:Int),.int .u16 (p2:Int),.int .u16 (p3:Int),.int .u16 (p4:Int),.int .u16 (p5:Int),.int .u16 (p6:Int),.int .u16 (p7:Int)] 27)) (w.alloc (.cells #[.int .i64 k,.string s,.int .u32 (n:Int),.int .u16 (p0:Int),.int .u16 (p1:Int),.int .u16 (p2:Int),.int .u16 (p3:Int),.int .u16 (p4:Int),.int .u16 (p5:Int),.int .u16 (p6:Int),.int .u16 (p7:Int)] 27)).heap.size [.int .i64 k,.string s,.int .u32 (n:Int),.int .u16 (p0:Int),.int .u16 (p1:Int),.int .u16 (p2:Int),.int .u16 (p3:Int),.int .u16 (p4:Int),.int .u16 (p5:Int),.int .u16 (p6:Int),.int .u16 (p7:Int)]:=heap_alloc_new (w.alloc (.cells #[.int .i64 k,.string s,.int .u32 (n:Int),.int .u16 (p0:Int),.int .u16 (p1:Int),.int .u16 (p2:Int),.int .u16 (p3:Int),.int .u16 (p4:Int),.int .u16 (p5:Int),.int .u16 (p6:Int),.int .u16 (p7:Int)] 27)) (.cells #[.int .i64 k,.string s,.int .u32 (n:Int),.int .u16 (p0:Int),.int .u16 (p1:Int),.int .u16 (p2:Int),.int .u16 (p3:Int),.int .u16 (p4:Int),.int .u16 (p5:Int),.int .u16 (p6:Int),.int .u16 (p7:Int)] 27)
  simp only [World.size_alloc] at h
  exact h
 have HB0:Hid (Below w.heap.size w ((w.alloc (.cells #[.int .i64 k,.string s,.int .u32 (n:Int),.int .u16 (p0:Int),.int .u16 (p1:Int),.int .u16 (p2:Int),.int .u16 (p3:Int),.int .u16 (p4:Int),.int .u16 (p5:Int),.int .u16 (p6:Int),.int .u16 (p7:Int)] 27)).alloc (.cells #[.int .i64 k,.string s,.int .u32 (n:Int),.int .u16 (p0:Int),.int .u16 (p1:Int),.int .u16 (p2:Int),.int .u16 (p3:Int),.int .u16 (p4:Int),.int .u16 (p5:Int),.int .u16 (p6:Int),.int .u16 (p7:Int)] 27))):=hid (ballC2 w (.cells #[.int .i64 k,.string s,.int .u32 (n:Int),.int .u16 (p0:Int),.int .u16 (p1:Int),.int .u16 (p2:Int),.int .u16 (p3:Int),.int .u16 (p4:Int),.int .u16 (p5:Int),.int .u16 (p6:Int),.int .u16 (p7:Int)] 27) (.cells #[.int .i64 k,.string s,.int .u32 (n:Int),.int .u16 (p0:Int),.int .u16 (p1:Int),.int .u16 (p2:Int),.int .u16 (p3:Int),.int .u16 (p4:Int),.int .u16 (p5:Int),.int .u16 (p6:Int),.int .u16 (p7:Int)] 27))
 have HF1:=hid (fun w=>hfew_calls k s n p0 p1 p2 p3 p4 p5 p6 p7 w)
 have HF2:=hid (fun w=>hfew_calls k s n p0 p1 p2 p3 p4 p5 p6 p7 w)
 have hd:decide ((s.size:Int)≤5000)=true:=decide_eq_true (by omega)
 have he:decide ((s.size:Int)≤5000)=true:=decide_eq_true (by omega)
 rw [hd] at HF1
 rw [he] at HF2
 have HM1:=hid (fun w t=>hmay_calls k s n p0 p1 p2 p3 p4 p5 p6 p7 w hn hx (by omega) t)
 have HM2:=hid (fun w t=>hmay_calls k s n p0 p1 p2 p3 p4 p5 p6 p7 w hn2 hx2 (by omega) t)
 rw [hm] at HM1
 rw [hm2] at HM2
 have HP1:=hid (fun w t=>hprint_calls k s n p0 p1 p2 p3 p4 p5 p6 p7 w hn hx (by omega) t)
 have HP2:=hid (fun w t=>hprint_calls k s n p0 p1 p2 p3 p4 p5 p6 p7 w hn2 hx2 (by omega) t)
 have heq:=eq_host k s n p0 p1 p2 p3 p4 p5 p6 p7 k s n p0 p1 p2 p3 p4 p5 p6 p7
 have hsv:=sameV_iff k s n p0 p1 p2 p3 p4 p5 p6 p7 k s n p0 p1 p2 p3 p4 p5 p6 p7
 rw [beq_self_eq_true] at hsv
 simp only [hsv] at heq
 generalize strOf (printR (k,s.data.toList,n,[p0,p1,p2,p3,p4,p5,p6,p7]))=PT at *
 have hgd:Tryz.prog.eqGuardType Tryz.prog.depth 27=false:=by kernel_rfl
 clear hd he h5 h6 hn hx hn2 hx2 hm hm2
 unfold hostV at *
 go_enter Tryz.func7,Tryz.ntmps7
 go_wp2_with fail
 refine (hfirst_calls _ (T.out.below (by first | exact btw (by assumption) | exact btw_al (by assumption) _ | exact btw_dr (by assumption) | exact btw_ad (by assumption) _ | exact Below.refl _ _ | exact (Below.refl _ _).alloc (Nat.le_refl _) _)).r).mono ?_
 rintro e w1 ⟨rfl,hb⟩
 have HB1:=hid (HB0.out.trans (hb.mono (by simp<;>omega)))
 have HG1:=hid (Bk.below HG0.out hb)
 have HL1:=hid (Bk.below HL0.out hb)
 clear hb HG0 HL0 HB0
 obtain ⟨⟨c0,c1,c2,c3,c4,c5,c6,c7,c8,c9,c10⟩,-⟩:=cellsH HG1.out
 obtain ⟨⟨d0,d1,d2,d3,d4,d5,d6,d7,d8,d9,d10⟩,-⟩:=cellsH HL1.out
 go_wp2_with fail
 refine (HF1.out _).mono ?_
 rintro e w2 ⟨rfl,hb⟩
 have HB2:=hid (below_trans HB1.out hb)
 have HG2:=hid (Bk.below HG1.out hb)
 have HL2:=hid (Bk.below HL1.out hb)
 clear hb
 clear c0 c1 c2 c3 c4 c5 c6 c7 c8 c9 c10 d0 d1 d2 d3 d4 d5 d6 d7 d8 d9 d10
 obtain ⟨⟨c0,c1,c2,c3,c4,c5,c6,c7,c8,c9,c10⟩,-⟩:=cellsH HG2.out
 obtain ⟨⟨d0,d1,d2,d3,d4,d5,d6,d7,d8,d9,d10⟩,-⟩:=cellsH HL2.out
 go_wp2_with fail
 refine (HF2.out _).mono ?_
 rintro e w3 ⟨rfl,hb⟩
 have HB3:=hid (below_trans HB2.out hb)
 have HG3:=hid (Bk.below HG2.out hb)
 have HL3:=hid (Bk.below HL2.out hb)
 clear hb
 clear c0 c1 c2 c3 c4 c5 c6 c7 c8 c9 c10 d0 d1 d2 d3 d4 d5 d6 d7 d8 d9 d10
 obtain ⟨⟨c0,c1,c2,c3,c4,c5,c6,c7,c8,c9,c10⟩,-⟩:=cellsH HG3.out
 obtain ⟨⟨d0,d1,d2,d3,d4,d5,d6,d7,d8,d9,d10⟩,-⟩:=cellsH HL3.out
 go_wp2_with fail
 refine (HM1.out _ (T.out.below (by first | exact btw (by assumption) | exact btw_al (by assumption) _ | exact btw_dr (by assumption) | exact btw_ad (by assumption) _ | exact Below.refl _ _ | exact (Below.refl _ _).alloc (Nat.le_refl _) _))).mono ?_
 rintro e w4 ⟨rfl,hb⟩
 have HB4:=hid (below_trans HB3.out hb)
 have HG4:=hid (Bk.below HG3.out hb)
 have HL4:=hid (Bk.below HL3.out hb)
 clear hb
 clear c0 c1 c2 c3 c4 c5 c6 c7 c8 c9 c10 d0 d1 d2 d3 d4 d5 d6 d7 d8 d9 d10
 obtain ⟨⟨c0,c1,c2,c3,c4,c5,c6,c7,c8,c9,c10⟩,-⟩:=cellsH HG4.out
 obtain ⟨⟨d0,d1,d2,d3,d4,d5,d6,d7,d8,d9,d10⟩,-⟩:=cellsH HL4.out
 go_wp2_with fail
 refine (HM2.out _ (T.out.below (by first | exact btw (by assumption) | exact btw_al (by assumption) _ | exact btw_dr (by assumption) | exact btw_ad (by assumption) _ | exact Below.refl _ _ | exact (Below.refl _ _).alloc (Nat.le_refl _) _))).mono ?_
 rintro e w5 ⟨rfl,hb⟩
 have HB5:=hid (below_trans HB4.out hb)
 have HG5:=hid (Bk.below HG4.out hb)
 have HL5:=hid (Bk.below HL4.out hb)
 clear hb
 clear c0 c1 c2 c3 c4 c5 c6 c7 c8 c9 c10 d0 d1 d2 d3 d4 d5 d6 d7 d8 d9 d10
 obtain ⟨⟨c0,c1,c2,c3,c4,c5,c6,c7,c8,c9,c10⟩,-⟩:=cellsH HG5.out
 obtain ⟨⟨d0,d1,d2,d3,d4,d5,d6,d7,d8,d9,d10⟩,-⟩:=cellsH HL5.out
 have hmm:=@run_makeMap Tryz.prog
 have hput:=put_newH (heap_alloc_new w5 (.map #[] 0)) k s n p0 p1 p2 p3 p4 p5 p6 p7 (.int .i64 7)
 have HG6:=hid (Bk.below HG5.out (ballH w5 (.map #[] 0)))
 clear c0 c1 c2 c3 c4 c5 c6 c7 c8 c9 c10 d0 d1 d2 d3 d4 d5 d6 d7 d8 d9 d10
 obtain ⟨⟨c0,c1,c2,c3,c4,c5,c6,c7,c8,c9,c10⟩,-⟩:=cellsH HG6.out
 have HS0:=hid (keys_put (o:=.map #[] 0) (m:=.map #[⟨(.agg #[.int .i64 k,.string s,.int .u32 (n:Int),.int .u16 (p0:Int),.int .u16 (p1:Int),.int .u16 (p2:Int),.int .u16 (p3:Int),.int .u16 (p4:Int),.int .u16 (p5:Int),.int .u16 (p6:Int),.int .u16 (p7:Int)]),.int .i64 7,0⟩] 1) HG5.out HL5.out)
 have HBm:=hid (below_putH (HB5.out.alloc HB5.out.size (.map #[] 0)) HB5.out.size (.map #[⟨(.agg #[.int .i64 k,.string s,.int .u32 (n:Int),.int .u16 (p0:Int),.int .u16 (p1:Int),.int .u16 (p2:Int),.int .u16 (p3:Int),.int .u16 (p4:Int),.int .u16 (p5:Int),.int .u16 (p6:Int),.int .u16 (p7:Int)]),.int .i64 7,0⟩] 1))
 go_wp2_with fail
 clear c0 c1 c2 c3 c4 c5 c6 c7 c8 c9 c10 hput hmm HG5 HL5 HG6 HB5 HF1 HF2 HM1 HM2
 generalize putObjH (w5.alloc (.map #[] 0)) w5.heap.size (.map #[⟨(.agg #[.int .i64 k,.string s,.int .u32 (n:Int),.int .u16 (p0:Int),.int .u16 (p1:Int),.int .u16 (p2:Int),.int .u16 (p3:Int),.int .u16 (p4:Int),.int .u16 (p5:Int),.int .u16 (p6:Int),.int .u16 (p7:Int)]),.int .i64 7,0⟩] 1)=wm at *
 generalize w5.heap.size=R at *
 generalize hD:w.heap.size+1=D at *
 clear hD
 obtain ⟨G,hG⟩:∃G,w.heap.size=G:=⟨_,rfl⟩
 have hGp:(Value.pointer (some ⟨w.heap.size,0,none⟩))=Value.pointer (some ⟨G,0,none⟩):=by rw [hG]
 rw [hGp]
 rw [hG] at HS0
 clear hG hGp
 refine wp_region_held_drew (S:=fun w'=>KeysAt w' G D R [.int .i64 k,.string s,.int .u32 (n:Int),.int .u16 (p0:Int),.int .u16 (p1:Int),.int .u16 (p2:Int),.int .u16 (p3:Int),.int .u16 (p4:Int),.int .u16 (p5:Int),.int .u16 (p6:Int),.int .u16 (p7:Int)] [.int .i64 k,.string s,.int .u32 (n:Int),.int .u16 (p0:Int),.int .u16 (p1:Int),.int .u16 (p2:Int),.int .u16 (p3:Int),.int .u16 (p4:Int),.int .u16 (p5:Int),.int .u16 (p6:Int),.int .u16 (p7:Int)] (.map #[⟨(.agg #[.int .i64 k,.string s,.int .u32 (n:Int),.int .u16 (p0:Int),.int .u16 (p1:Int),.int .u16 (p2:Int),.int .u16 (p3:Int),.int .u16 (p4:Int),.int .u16 (p5:Int),.int .u16 (p6:Int),.int .u16 (p7:Int)]),.int .i64 7,0⟩] 1)) (by kernel_rfl) ?_ (fun hHeld=>?_)
 ·exact HS0.out
 have HS:Hid (KeysAt wm.drew G D R [.int .i64 k,.string s,.int .u32 (n:Int),.int .u16 (p0:Int),.int .u16 (p1:Int),.int .u16 (p2:Int),.int .u16 (p3:Int),.int .u16 (p4:Int),.int .u16 (p5:Int),.int .u16 (p6:Int),.int .u16 (p7:Int)] [.int .i64 k,.string s,.int .u32 (n:Int),.int .u16 (p0:Int),.int .u16 (p1:Int),.int .u16 (p2:Int),.int .u16 (p3:Int),.int .u16 (p4:Int),.int .u16 (p5:Int),.int .u16 (p6:Int),.int .u16 (p7:Int)] (.map #[⟨(.agg #[.int .i64 k,.string s,.int .u32 (n:Int),.int .u16 (p0:Int),.int .u16 (p1:Int),.int .u16 (p2:Int),.int .u16 (p3:Int),.int .u16 (p4:Int),.int .u16 (p5:Int),.int .u16 (p6:Int),.int .u16 (p7:Int)]),.int .i64 7,0⟩] 1)):=HS0
 have HBx:=hid (HBm.out.drew)
 refine wpAnyH_ready (rs:=[0]) (by kernel_rfl) (by simp) ?_
 refine' AllReadyH.cons (by simp only [List.getElem?_toArray,List.getElem?_cons_succ,List.getElem?_cons_zero];rfl) (fun K hK=>?_) AllReadyH.nil
 go_simp
 refine (hfirst_calls _ (T.out.below HBx.out).r).mono ?_
 rintro e wa ⟨rfl,hb⟩
 have HS:=hid (keys_on HS.out hb)
 have HBx:=hid (HBx.out.trans (hb.mono HBx.out.size))
 clear hb
 go_wp2_with fail
 refine hK.out _ _ ?_ (fun hHeld=>?_)
 ·exact HS.out
 clear hK K
 try simp only [Act.put,List.setIfInBounds_toArray,List.set_cons_zero,List.set_cons_succ]
 refine' wpAnyH_take (i:=1) (v:=?_) (by simp only [List.getElem?_toArray,List.getElem?_cons_succ,List.getElem?_cons_zero];rfl) (by kernel_rfl) (by kernel_rfl) (by kernel_rfl) (by intro _ _ _ h;exact h) (Or.inl ⟨by rfl,?hy1⟩) hHeld ?rest1
 case hy1=>(intro w hSw;clear hSw;go_simp;try with_reducible rfl)
 try simp only [Act.put,List.setIfInBounds_toArray,List.set_cons_zero,List.set_cons_succ]
 refine' wpAnyH_take (i:=2) (v:=?_) (by simp only [List.getElem?_toArray,List.getElem?_cons_succ,List.getElem?_cons_zero];rfl) (by kernel_rfl) (by kernel_rfl) (by kernel_rfl) (by intro _ _ _ h;exact h) (Or.inl ⟨by rfl,?hy2⟩) hHeld ?rest2
 case hy2=>(intro w hSw;obtain ⟨hSa,hSb,hSm⟩:=hSw;obtain ⟨⟨c0,c1,c2,c3,c4,c5,c6,c7,c8,c9,c10⟩,-⟩:=cellsH hSa;obtain ⟨⟨d0,d1,d2,d3,d4,d5,d6,d7,d8,d9,d10⟩,-⟩:=cellsH hSb;clear hSa hSb;go_simp;try with_reducible rfl)
 try simp only [Act.put,List.setIfInBounds_toArray,List.set_cons_zero,List.set_cons_succ]
 refine' wpAnyH_take (i:=3) (v:=?_) (by simp only [List.getElem?_toArray,List.getElem?_cons_succ,List.getElem?_cons_zero];rfl) (by kernel_rfl) (by kernel_rfl) (by kernel_rfl) (by intro _ _ _ h;exact h) (Or.inl ⟨by rfl,?hy3⟩) hHeld ?rest3
 case hy3=>(intro w hSw;obtain ⟨hSa,hSb,hSm⟩:=hSw;obtain ⟨⟨c0,c1,c2,c3,c4,c5,c6,c7,c8,c9,c10⟩,-⟩:=cellsH hSa;obtain ⟨⟨d0,d1,d2,d3,d4,d5,d6,d7,d8,d9,d10⟩,-⟩:=cellsH hSb;clear hSa hSb;go_simp;try with_reducible rfl)
 try simp only [Act.put,List.setIfInBounds_toArray,List.set_cons_zero,List.set_cons_succ]
 refine' wpAnyH_take (i:=4) (v:=?_) (by simp only [List.getElem?_toArray,List.getElem?_cons_succ,List.getElem?_cons_zero];rfl) (by kernel_rfl) (by kernel_rfl) (by kernel_rfl) (by intro _ _ _ h;exact h) (Or.inl ⟨by rfl,?hy4⟩) hHeld ?rest4
 case hy4=>(intro w hSw;clear hSw;go_simp;try with_reducible rfl)
 try simp only [Act.put,List.setIfInBounds_toArray,List.set_cons_zero,List.set_cons_succ]
 refine' wpAnyH_take (i:=5) (v:=?_) (by simp only [List.getElem?_toArray,List.getElem?_cons_succ,List.getElem?_cons_zero];rfl) (by kernel_rfl) (by kernel_rfl) (by kernel_rfl) (by intro _ _ _ h;exact h) (Or.inl ⟨by rfl,?hy5⟩) hHeld ?rest5
 case hy5=>(intro w hSw;clear hSw;go_simp;try with_reducible rfl)
 try simp only [Act.put,List.setIfInBounds_toArray,List.set_cons_zero,List.set_cons_succ]
 refine' wpAnyH_take (i:=6) (v:=?_) (by simp only [List.getElem?_toArray,List.getElem?_cons_succ,List.getElem?_cons_zero];rfl) (by kernel_rfl) (by kernel_rfl) (by kernel_rfl) (by intro _ _ _ h;exact h) (Or.inl ⟨by rfl,?hy6⟩) hHeld ?rest6
 case hy6=>(intro w hSw;obtain ⟨hSa,hSb,hSm⟩:=hSw;obtain ⟨⟨c0,c1,c2,c3,c4,c5,c6,c7,c8,c9,c10⟩,-⟩:=cellsH hSa;obtain ⟨⟨d0,d1,d2,d3,d4,d5,d6,d7,d8,d9,d10⟩,-⟩:=cellsH hSb;clear hSa hSb;go_simp;try with_reducible rfl)
 try simp only [Act.put,List.setIfInBounds_toArray,List.set_cons_zero,List.set_cons_succ]
 refine' wpAnyH_take (i:=7) (v:=?_) (by simp only [List.getElem?_toArray,List.getElem?_cons_succ,List.getElem?_cons_zero];rfl) (by kernel_rfl) (by kernel_rfl) (by kernel_rfl) (by intro _ _ _ h;exact h) (Or.inl ⟨by rfl,?hy7⟩) hHeld ?rest7
 case hy7=>(intro w hSw;clear hSw;go_simp;try with_reducible rfl)
 try simp only [Act.put,List.setIfInBounds_toArray,List.set_cons_zero,List.set_cons_succ]
 refine' wpAnyH_take (i:=8) (v:=?_) (by simp only [List.getElem?_toArray,List.getElem?_cons_succ,List.getElem?_cons_zero];rfl) (by kernel_rfl) (by kernel_rfl) (by kernel_rfl) (by intro _ _ _ h;exact h) (Or.inl ⟨by rfl,?hy8⟩) hHeld ?rest8
 case hy8=>(intro w hSw;obtain ⟨hSa,hSb,hSm⟩:=hSw;obtain ⟨⟨c0,c1,c2,c3,c4,c5,c6,c7,c8,c9,c10⟩,-⟩:=cellsH hSa;obtain ⟨⟨d0,d1,d2,d3,d4,d5,d6,d7,d8,d9,d10⟩,-⟩:=cellsH hSb;clear hSa hSb;go_simp;try with_reducible rfl)
 try simp only [Act.put,List.setIfInBounds_toArray,List.set_cons_zero,List.set_cons_succ]
 refine' wpAnyH_take (i:=9) (v:=?_) (by simp only [List.getElem?_toArray,List.getElem?_cons_succ,List.getElem?_cons_zero];rfl) (by kernel_rfl) (by kernel_rfl) (by kernel_rfl) (by intro _ _ _ h;exact h) (Or.inl ⟨by rfl,?hy9⟩) hHeld ?rest9
 case hy9=>(intro w hSw;clear hSw;go_simp;try with_reducible rfl)
 try simp only [Act.put,List.setIfInBounds_toArray,List.set_cons_zero,List.set_cons_succ]
 refine' wpAnyH_take (i:=10) (v:=?_) (by simp only [List.getElem?_toArray,List.getElem?_cons_succ,List.getElem?_cons_zero];rfl) (by kernel_rfl) (by kernel_rfl) (by kernel_rfl) (by intro _ _ _ h;exact h) (Or.inl ⟨by rfl,?hy10⟩) hHeld ?rest10
 case hy10=>(intro w hSw;clear hSw;go_simp;try with_reducible rfl)
 try simp only [Act.put,List.setIfInBounds_toArray,List.set_cons_zero,List.set_cons_succ]
 refine' wpAnyH_take (i:=11) (v:=?_) (by simp only [List.getElem?_toArray,List.getElem?_cons_succ,List.getElem?_cons_zero];rfl) (by kernel_rfl) (by kernel_rfl) (by kernel_rfl) (by intro _ _ _ h;exact h) (Or.inl ⟨by rfl,?hy11⟩) hHeld ?rest11
 case hy11=>(intro w hSw;obtain ⟨hSa,hSb,hSm⟩:=hSw;obtain ⟨⟨c0,c1,c2,c3,c4,c5,c6,c7,c8,c9,c10⟩,-⟩:=cellsH hSa;obtain ⟨⟨d0,d1,d2,d3,d4,d5,d6,d7,d8,d9,d10⟩,-⟩:=cellsH hSb;clear hSa hSb;go_simp;try with_reducible rfl)
 try simp only [Act.put,List.setIfInBounds_toArray,List.set_cons_zero,List.set_cons_succ]
 refine' wpAnyH_take (i:=13) (v:=?_) (by simp only [List.getElem?_toArray,List.getElem?_cons_succ,List.getElem?_cons_zero];rfl) (by kernel_rfl) (by kernel_rfl) (by kernel_rfl) (by intro _ _ _ h;exact h) (Or.inl ⟨by rfl,?hy13⟩) hHeld ?rest13
 case hy13=>(intro w hSw;obtain ⟨hSa,hSb,hSm⟩:=hSw;obtain ⟨⟨c0,c1,c2,c3,c4,c5,c6,c7,c8,c9,c10⟩,-⟩:=cellsH hSa;obtain ⟨⟨d0,d1,d2,d3,d4,d5,d6,d7,d8,d9,d10⟩,-⟩:=cellsH hSb;clear hSa hSb;go_simp;try with_reducible rfl)
 try simp only [Act.put,List.setIfInBounds_toArray,List.set_cons_zero,List.set_cons_succ]
 refine wpAnyH_ready (rs:=[12]) (by kernel_rfl) (by simp) ?_
 refine' AllReadyH.cons (by simp only [List.getElem?_toArray,List.getElem?_cons_succ,List.getElem?_cons_zero];rfl) (fun K hK=>?_) AllReadyH.nil
 go_simp
 refine (HP1.out _ (T.out.below HBx.out)).mono ?_
 rintro e wb ⟨rfl,hb⟩
 have HS:=hid (keys_on HS.out hb)
 have HBx:=hid (HBx.out.trans (hb.mono HBx.out.size))
 clear hb
 go_wp2_with fail
 refine hK.out _ _ ?_ (fun hHeld=>?_)
 ·exact HS.out
 clear hK K
 try simp only [Act.put,List.setIfInBounds_toArray,List.set_cons_zero,List.set_cons_succ]
 refine wpAnyH_ready (rs:=[14]) (by kernel_rfl) (by simp) ?_
 refine' AllReadyH.cons (by simp only [List.getElem?_toArray,List.getElem?_cons_succ,List.getElem?_cons_zero];rfl) (fun K hK=>?_) AllReadyH.nil
 go_simp
 refine (HP2.out _ (T.out.below HBx.out)).mono ?_
 rintro e wd ⟨rfl,hb⟩
 have HS:=hid (keys_on HS.out hb)
 have HBx:=hid (HBx.out.trans (hb.mono HBx.out.size))
 clear hb
 go_wp2_with fail
 refine hK.out _ _ ?_ (fun hHeld=>?_)
 ·exact HS.out
 clear hK K
 try simp only [Act.put,List.setIfInBounds_toArray,List.set_cons_zero,List.set_cons_succ]
 refine' wpAnyH_take (i:=15) (v:=?_) (by simp only [List.getElem?_toArray,List.getElem?_cons_succ,List.getElem?_cons_zero];rfl) (by kernel_rfl) (by kernel_rfl) (by kernel_rfl) (by intro _ _ _ h;exact h) (Or.inl ⟨by rfl,?hy15⟩) hHeld ?rest15
 case hy15=>(intro w hSw;clear hSw;go_simp;try with_reducible rfl)
 try simp only [Act.put,List.setIfInBounds_toArray,List.set_cons_zero,List.set_cons_succ]
 refine' wpAnyH_take (i:=16) (v:=?_) (by simp only [List.getElem?_toArray,List.getElem?_cons_succ,List.getElem?_cons_zero];rfl) (by kernel_rfl) (by kernel_rfl) (by kernel_rfl) (by intro _ _ _ h;exact h) (Or.inl ⟨by rfl,?hy16⟩) hHeld ?rest16
 case hy16=>(intro w hSw;clear hSw;go_simp;try with_reducible rfl)
 try simp only [Act.put,List.setIfInBounds_toArray,List.set_cons_zero,List.set_cons_succ]
 refine' wpAnyH_take (i:=17) (v:=?_) (by simp only [List.getElem?_toArray,List.getElem?_cons_succ,List.getElem?_cons_zero];rfl) (by kernel_rfl) (by kernel_rfl) (by kernel_rfl) (by intro _ _ _ h;exact h) (Or.inl ⟨by rfl,?hy17⟩) hHeld ?rest17
 case hy17=>(intro w hSw;clear hSw;go_simp;try with_reducible rfl)
 try simp only [Act.put,List.setIfInBounds_toArray,List.set_cons_zero,List.set_cons_succ]
 refine' wpAnyH_take (i:=18) (v:=?_) (by simp only [List.getElem?_toArray,List.getElem?_cons_succ,List.getElem?_cons_zero];rfl) (by kernel_rfl) (by kernel_rfl) (by kernel_rfl) (by intro _ _ _ h;exact h) (Or.inl ⟨by rfl,?hy18⟩) hHeld ?rest18
 case hy18=>(intro w hSw;clear hSw;go_simp;try with_reducible rfl)
 try simp only [Act.put,List.setIfInBounds_toArray,List.set_cons_zero,List.set_cons_succ]
 refine' wpAnyH_take (i:=19) (v:=?_) (by simp only [List.getElem?_toArray,List.getElem?_cons_succ,List.getElem?_cons_zero];rfl) (by kernel_rfl) (by kernel_rfl) (by kernel_rfl) (by intro _ _ _ h;exact h) (Or.inl ⟨by rfl,?hy19⟩) hHeld ?rest19
 case hy19=>(intro w hSw;clear hSw;go_simp;try with_reducible rfl)
 try simp only [Act.put,List.setIfInBounds_toArray,List.set_cons_zero,List.set_cons_succ]
 refine' wpAnyH_take (i:=20) (v:=?_) (by simp only [List.getElem?_toArray,List.getElem?_cons_succ,List.getElem?_cons_zero];rfl) (by kernel_rfl) (by kernel_rfl) (by kernel_rfl) (by intro _ _ _ h;exact h) (Or.inl ⟨by rfl,?hy20⟩) hHeld ?rest20
 case hy20=>(intro w hSw;clear hSw;go_simp;try with_reducible rfl)
 try simp only [Act.put,List.setIfInBounds_toArray,List.set_cons_zero,List.set_cons_succ]
 refine' wpAnyH_take (i:=21) (v:=?_) (by simp only [List.getElem?_toArray,List.getElem?_cons_succ,List.getElem?_cons_zero];rfl) (by kernel_rfl) (by kernel_rfl) (by kernel_rfl) (by intro _ _ _ h;exact h) (Or.inl ⟨by rfl,?hy21⟩) hHeld ?rest21
 case hy21=>(intro w hSw;obtain ⟨hSa,hSb,hSm⟩:=hSw;obtain ⟨⟨c0,c1,c2,c3,c4,c5,c6,c7,c8,c9,c10⟩,-⟩:=cellsH hSa;obtain ⟨⟨d0,d1,d2,d3,d4,d5,d6,d7,d8,d9,d10⟩,-⟩:=cellsH hSb;clear hSa hSb;go_simp;try with_reducible rfl)
 try simp only [Act.put,List.setIfInBounds_toArray,List.set_cons_zero,List.set_cons_succ]
 refine' wpAnyH_take (i:=22) (v:=?_) (by simp only [List.getElem?_toArray,List.getElem?_cons_succ,List.getElem?_cons_zero];rfl) (by kernel_rfl) (by kernel_rfl) (by kernel_rfl) (by intro _ _ _ h;exact h) (Or.inl ⟨by rfl,?hy22⟩) hHeld ?rest22
 case hy22=>(intro w hSw;obtain ⟨hSa,hSb,hSm⟩:=hSw;have hask:=ask_oneH hSm k s n p0 p1 p2 p3 p4 p5 p6 p7;rw [hsv] at hask;simp only [if_true,if_false,Bool.false_eq_true] at hask;obtain ⟨⟨c0,c1,c2,c3,c4,c5,c6,c7,c8,c9,c10⟩,-⟩:=cellsH hSa;obtain ⟨⟨d0,d1,d2,d3,d4,d5,d6,d7,d8,d9,d10⟩,-⟩:=cellsH hSb;clear hSa hSb;go_simp;try with_reducible rfl)
 try simp only [Act.put,List.setIfInBounds_toArray,List.set_cons_zero,List.set_cons_succ]
 refine' wpAnyH_take (i:=23) (v:=?_) (by simp only [List.getElem?_toArray,List.getElem?_cons_succ,List.getElem?_cons_zero];rfl) (by kernel_rfl) (by kernel_rfl) (by kernel_rfl) (by intro _ _ _ h;exact h) (Or.inl ⟨by rfl,?hy23⟩) hHeld ?rest23
 case hy23=>(intro w hSw;clear hSw;go_simp;try with_reducible rfl)
 try simp only [Act.put,List.setIfInBounds_toArray,List.set_cons_zero,List.set_cons_succ]
 refine' wpAnyH_take (i:=24) (v:=?_) (by simp only [List.getElem?_toArray,List.getElem?_cons_succ,List.getElem?_cons_zero];rfl) (by kernel_rfl) (by kernel_rfl) (by kernel_rfl) (by intro _ _ _ h;exact h) (Or.inl ⟨by rfl,?hy24⟩) hHeld ?rest24
 case hy24=>(intro w hSw;obtain ⟨hSa,hSb,hSm⟩:=hSw;obtain ⟨⟨c0,c1,c2,c3,c4,c5,c6,c7,c8,c9,c10⟩,-⟩:=cellsH hSa;obtain ⟨⟨d0,d1,d2,d3,d4,d5,d6,d7,d8,d9,d10⟩,-⟩:=cellsH hSb;clear hSa hSb;go_simp;try with_reducible rfl)
 try simp only [Act.put,List.setIfInBounds_toArray,List.set_cons_zero,List.set_cons_succ]
 refine' wpAnyH_take (i:=25) (v:=?_) (by simp only [List.getElem?_toArray,List.getElem?_cons_succ,List.getElem?_cons_zero];rfl) (by kernel_rfl) (by kernel_rfl) (by kernel_rfl) (by intro _ _ _ h;exact h) (Or.inl ⟨by rfl,?hy25⟩) hHeld ?rest25
 case hy25=>(intro w hSw;obtain ⟨hSa,hSb,hSm⟩:=hSw;obtain ⟨⟨c0,c1,c2,c3,c4,c5,c6,c7,c8,c9,c10⟩,-⟩:=cellsH hSa;obtain ⟨⟨d0,d1,d2,d3,d4,d5,d6,d7,d8,d9,d10⟩,-⟩:=cellsH hSb;clear hSa hSb;go_simp;try with_reducible rfl)
 try simp only [Act.put,List.setIfInBounds_toArray,List.set_cons_zero,List.set_cons_succ]
 refine' wpAnyH_take (i:=26) (v:=?_) (by simp only [List.getElem?_toArray,List.getElem?_cons_succ,List.getElem?_cons_zero];rfl) (by kernel_rfl) (by kernel_rfl) (by kernel_rfl) (by intro _ _ _ h;exact h) (Or.inl ⟨by rfl,?hy26⟩) hHeld ?rest26
 case hy26=>(intro w hSw;clear hSw;go_simp;try with_reducible rfl)
 try simp only [Act.put,List.setIfInBounds_toArray,List.set_cons_zero,List.set_cons_succ]
 refine' wpAnyH_take (i:=27) (v:=?_) (by simp only [List.getElem?_toArray,List.getElem?_cons_succ,List.getElem?_cons_zero];rfl) (by kernel_rfl) (by kernel_rfl) (by kernel_rfl) (by intro _ _ _ h;exact h) (Or.inl ⟨by rfl,?hy27⟩) hHeld ?rest27
 case hy27=>(intro w hSw;clear hSw;go_simp;try with_reducible rfl)
 try simp only [Act.put,List.setIfInBounds_toArray,List.set_cons_zero,List.set_cons_succ]
 refine' wpAnyH_take (i:=28) (v:=?_) (by simp only [List.getElem?_toArray,List.getElem?_cons_succ,List.getElem?_cons_zero];rfl) (by kernel_rfl) (by kernel_rfl) (by kernel_rfl) (by intro _ _ _ h;exact h) (Or.inl ⟨by rfl,?hy28⟩) hHeld ?rest28
 case hy28=>(intro w hSw;clear hSw;go_simp;try with_reducible rfl)
 try simp only [Act.put,List.setIfInBounds_toArray,List.set_cons_zero,List.set_cons_succ]
 refine' wpAnyH_take (i:=29) (v:=?_) (by simp only [List.getElem?_toArray,List.getElem?_cons_succ,List.getElem?_cons_zero];rfl) (by kernel_rfl) (by kernel_rfl) (by kernel_rfl) (by intro _ _ _ h;exact h) (Or.inl ⟨by rfl,?hy29⟩) hHeld ?rest29
 case hy29=>(intro w hSw;clear hSw;go_simp;try with_reducible rfl)
 try simp only [Act.put,List.setIfInBounds_toArray,List.set_cons_zero,List.set_cons_succ]
 refine wpAnyH_done (by kernel_rfl) ?_ _
 go_wp2_with fail
 go_ret
 exact ⟨by first | rfl | simp,HBx.out⟩
theorem hostKeys_kind (k:Int) (s:ByteArray) (n p0 p1 p2 p3 p4 p5 p6 p7:Nat) (k':Int) (s':ByteArray) (n' q0 q1 q2 q3 q4 q5 q6 q7:Nat) (w:World) (T0:TabH w) (h5:s.size≤5000) (h6:s'.size≤5000) (hn:n < 4294967296) (hx:∀x∈[p0,p1,p2,p3,p4,p5,p6,p7],x < 65536) (hn':n' < 4294967296) (hx':∀x∈[q0,q1,q2,q3,q4,q5,q6,q7],x < 65536) (hm:mayR (k,s.data.toList,n,[p0,p1,p2,p3,p4,p5,p6,p7])=true) (hm2:mayR (k',s'.data.toList,n',[q0,q1,q2,q3,q4,q5,q6,q7])=true) (hne:((k,s.data.toList,n,[p0,p1,p2,p3,p4,p5,p6,p7]):HostN)≠((k',s'.data.toList,n',[q0,q1,q2,q3,q4,q5,q6,q7]):HostN)) (hk:k≠k'):Calls Tryz.prog 7 #[hostV k s n p0 p1 p2 p3 p4 p5 p6 p7,hostV k' s' n' q0 q1 q2 q3 q4 q5 q6 q7] w fun e w'=>e=.returned (.bool true)∧Below w.heap.size w w':=by
 have T:=hid T0
 clear T0
 have HG0:Hid (BkH ((w.alloc (.cells #[.int .i64 k,.string s,.int .u32 (n:Int),.int .u16 (p0:Int),.int .u16 (p1:Int),.int .u16 (p2:Int),.int .u16 (p3:Int),.int .u16 (p4:Int),.int .u16 (p5:Int),.int .u16 (p6:Int),.int .u16 (p7:Int)] 27)).alloc (.cells #[.int .i64 k',.string s',.int .u32 (n':Int),.int .u16 (q0:Int),.int .u16 (q1:Int),.int .u16 (q2:Int),.int .u16 (q3:Int),.int .u16 (q4:Int),.int .u16 (q5:Int),.int .u16 (q6:Int),.int .u16 (q7:Int)] 27)) w.heap.size [.int .i64 k,.string s,.int .u32 (n:Int),.int .u16 (p0:Int),.int .u16 (p1:Int),.int .u16 (p2:Int),.int .u16 (p3:Int),.int .u16 (p4:Int),.int .u16 (p5:Int),.int .u16 (p6:Int),.int .u16 (p7:Int)]):=hid (Bk.below (heap_alloc_new w (.cells #[.int .i64 k,.string s,.int .u32 (n:Int),.int .u16 (p0:Int),.int .u16 (p1:Int),.int .u16 (p2:Int),.int .u16 (p3:Int),.int .u16 (p4:Int),.int .u16 (p5:Int),.int .u16 (p6:Int),.int .u16 (p7:Int)] 27):BkH _ w.heap.size [.int .i64 k,.string s,.int .u32 (n:Int),.int .u16 (p0:Int),.int .u16 (p1:Int),.int .u16 (p2:Int),.int .u16 (p3:Int),.int .u16 (p4:Int),.int .u16 (p5:Int),.int .u16 (p6:Int),.int .u16 (p7:Int)]) (ballH _ (.cells #[.int .i64 k',.string s',.int .u32 (n':Int),.int .u16 (q0:Int),.int .u16 (q1:Int),.int .u16 (q2:Int),.int .u16 (q3:Int),.int .u16 (q4:Int),.int .u16 (q5:Int),.int .u16 (q6:Int),.int .u16 (q7:Int)] 27)))
 have HL0:Hid (BkH ((w.alloc (.cells #[.int .i64 k,.string s,.int .u32 (n:Int),.int .u16 (p0:Int),.int .u16 (p1:Int),.int .u16 (p2:Int),.int .u16 (p3:Int),.int .u16 (p4:Int),.int .u16 (p5:Int),.int .u16 (p6:Int),.int .u16 (p7:Int)] 27)).alloc (.cells #[.int .i64 k',.string s',.int .u32 (n':Int),.int .u16 (q0:Int),.int .u16 (q1:Int),.int .u16 (q2:Int),.int .u16 (q3:Int),.int .u16 (q4:Int),.int .u16 (q5:Int),.int .u16 (q6:Int),.int .u16 (q7:Int)] 27)) (w.heap.size+1) [.int .i64 k',.string s',.int .u32 (n':Int),.int .u16 (q0:Int),.int .u16 (q1:Int),.int .u16 (q2:Int),.int .u16 (q3:Int),.int .u16 (q4:Int),.int .u16 (q5:Int),.int .u16 (q6:Int),.int .u16 (q7:Int)]):=by
  have h:BkH ((w.alloc (.cells #[.int .i64 k,.string s,.int .u32 (n:Int),.int .u16 (p0:Int),.int .u16 (p1:Int),.int .u16 (p2:Int),.int .u16 (p3:Int),.int .u16 (p4:Int),.int .u16 (p5:Int),.int .u16 (p6:Int),.int .u16 (p7:Int)] 27)).alloc (.cells #[.int .i64 k',.string s',.int .u32 (n':Int),.int .u16 (q0:Int),.int .u16 (q1:Int),.int .u16 (q2:Int),.int .u16 (q3:Int),.int .u16 (q4:Int),.int .u16 (q5:Int),.int .u16 (q6:Int),.int .u16 (q7:Int)] 27)) (w.alloc (.cells #[.int .i64 k,.string s,.int .u32 (n:Int),.int .u16 (p0:Int),.int .u16 (p1:Int),.int .u16 (p2:Int),.int .u16 (p3:Int),.int .u16 (p4:Int),.int .u16 (p5:Int),.int .u16 (p6:Int),.int .u16 (p7:Int)] 27)).heap.size [.int .i64 k',.string s',.int .u32 (n':Int),.int .u16 (q0:Int),.int .u16 (q1:Int),.int .u16 (q2:Int),.int .u16 (q3:Int),.int .u16 (q4:Int),.int .u16 (q5:Int),.int .u16 (q6:Int),.int .u16 (q7:Int)]:=heap_alloc_new (w.alloc (.cells #[.int .i64 k,.string s,.int .u32 (n:Int),.int .u16 (p0:Int),.int .u16 (p1:Int),.int .u16 (p2:Int),.int .u16 (p3:Int),.int .u16 (p4:Int),.int .u16 (p5:Int),.int .u16 (p6:Int),.int .u16 (p7:Int)] 27)) (.cells #[.int .i64 k',.string s',.int .u32 (n':Int),.int .u16 (q0:Int),.int .u16 (q1:Int),.int .u16 (q2:Int),.int .u16 (q3:Int),.int .u16 (q4:Int),.int .u16 (q5:Int),.int .u16 (q6:Int),.int .u16 (q7:Int)] 27)
  simp only [World.size_alloc] at h
  exact h
 have HB0:Hid (Below w.heap.size w ((w.alloc (.cells #[.int .i64 k,.string s,.int .u32 (n:Int),.int .u16 (p0:Int),.int .u16 (p1:Int),.int .u16 (p2:Int),.int .u16 (p3:Int),.int .u16 (p4:Int),.int .u16 (p5:Int),.int .u16 (p6:Int),.int .u16 (p7:Int)] 27)).alloc (.cells #[.int .i64 k',.string s',.int .u32 (n':Int),.int .u16 (q0:Int),.int .u16 (q1:Int),.int .u16 (q2:Int),.int .u16 (q3:Int),.int .u16 (q4:Int),.int .u16 (q5:Int),.int .u16 (q6:Int),.int .u16 (q7:Int)] 27))):=hid (ballC2 w (.cells #[.int .i64 k,.string s,.int .u32 (n:Int),.int .u16 (p0:Int),.int .u16 (p1:Int),.int .u16 (p2:Int),.int .u16 (p3:Int),.int .u16 (p4:Int),.int .u16 (p5:Int),.int .u16 (p6:Int),.int .u16 (p7:Int)] 27) (.cells #[.int .i64 k',.string s',.int .u32 (n':Int),.int .u16 (q0:Int),.int .u16 (q1:Int),.int .u16 (q2:Int),.int .u16 (q3:Int),.int .u16 (q4:Int),.int .u16 (q5:Int),.int .u16 (q6:Int),.int .u16 (q7:Int)] 27))
 have HF1:=hid (fun w=>hfew_calls k s n p0 p1 p2 p3 p4 p5 p6 p7 w)
 have HF2:=hid (fun w=>hfew_calls k' s' n' q0 q1 q2 q3 q4 q5 q6 q7 w)
 have hd:decide ((s.size:Int)≤5000)=true:=decide_eq_true (by omega)
 have he:decide ((s'.size:Int)≤5000)=true:=decide_eq_true (by omega)
 rw [hd] at HF1
 rw [he] at HF2
 have HM1:=hid (fun w t=>hmay_calls k s n p0 p1 p2 p3 p4 p5 p6 p7 w hn hx (by omega) t)
 have HM2:=hid (fun w t=>hmay_calls k' s' n' q0 q1 q2 q3 q4 q5 q6 q7 w hn' hx' (by omega) t)
 rw [hm] at HM1
 rw [hm2] at HM2
 have HP1:=hid (fun w t=>hprint_calls k s n p0 p1 p2 p3 p4 p5 p6 p7 w hn hx (by omega) t)
 have HP2:=hid (fun w t=>hprint_calls k' s' n' q0 q1 q2 q3 q4 q5 q6 q7 w hn' hx' (by omega) t)
 have heq:=eq_host k s n p0 p1 p2 p3 p4 p5 p6 p7 k' s' n' q0 q1 q2 q3 q4 q5 q6 q7
 have hsv0:=sameV_iff k s n p0 p1 p2 p3 p4 p5 p6 p7 k' s' n' q0 q1 q2 q3 q4 q5 q6 q7
 have hsv:=sameV_iff k' s' n' q0 q1 q2 q3 q4 q5 q6 q7 k s n p0 p1 p2 p3 p4 p5 p6 p7
 rw [beq_eq_false_iff_ne.2 hne] at hsv0
 rw [beq_eq_false_iff_ne.2 (Ne.symm hne)] at hsv
 simp only [hsv0] at heq
 clear hsv0
 have e1:(k==k')=false:=beq_eq_false_iff_ne.2 hk
 clear hk
 have hgd:Tryz.prog.eqGuardType Tryz.prog.depth 27=false:=by kernel_rfl
 clear hd he h5 h6 hn hx hn' hx' hm hm2 hne
 unfold hostV at *
 go_enter Tryz.func7,Tryz.ntmps7
 go_wp2_with fail
 refine (hfirst_calls _ (T.out.below (by first | exact btw (by assumption) | exact btw_al (by assumption) _ | exact btw_dr (by assumption) | exact btw_ad (by assumption) _ | exact Below.refl _ _ | exact (Below.refl _ _).alloc (Nat.le_refl _) _)).r).mono ?_
 rintro e w1 ⟨rfl,hb⟩
 have HB1:=hid (HB0.out.trans (hb.mono (by simp<;>omega)))
 have HG1:=hid (Bk.below HG0.out hb)
 have HL1:=hid (Bk.below HL0.out hb)
 clear hb HG0 HL0 HB0
 obtain ⟨⟨c0,c1,c2,c3,c4,c5,c6,c7,c8,c9,c10⟩,-⟩:=cellsH HG1.out
 obtain ⟨⟨d0,d1,d2,d3,d4,d5,d6,d7,d8,d9,d10⟩,-⟩:=cellsH HL1.out
 go_wp2_with fail
 refine (HF1.out _).mono ?_
 rintro e w2 ⟨rfl,hb⟩
 have HB2:=hid (below_trans HB1.out hb)
 have HG2:=hid (Bk.below HG1.out hb)
 have HL2:=hid (Bk.below HL1.out hb)
 clear hb
 clear c0 c1 c2 c3 c4 c5 c6 c7 c8 c9 c10 d0 d1 d2 d3 d4 d5 d6 d7 d8 d9 d10
 obtain ⟨⟨c0,c1,c2,c3,c4,c5,c6,c7,c8,c9,c10⟩,-⟩:=cellsH HG2.out
 obtain ⟨⟨d0,d1,d2,d3,d4,d5,d6,d7,d8,d9,d10⟩,-⟩:=cellsH HL2.out
 go_wp2_with fail
 refine (HF2.out _).mono ?_
 rintro e w3 ⟨rfl,hb⟩
 have HB3:=hid (below_trans HB2.out hb)
 have HG3:=hid (Bk.below HG2.out hb)
 have HL3:=hid (Bk.below HL2.out hb)
 clear hb
 clear c0 c1 c2 c3 c4 c5 c6 c7 c8 c9 c10 d0 d1 d2 d3 d4 d5 d6 d7 d8 d9 d10
 obtain ⟨⟨c0,c1,c2,c3,c4,c5,c6,c7,c8,c9,c10⟩,-⟩:=cellsH HG3.out
 obtain ⟨⟨d0,d1,d2,d3,d4,d5,d6,d7,d8,d9,d10⟩,-⟩:=cellsH HL3.out
 go_wp2_with fail
 refine (HM1.out _ (T.out.below (by first | exact btw (by assumption) | exact btw_al (by assumption) _ | exact btw_dr (by assumption) | exact btw_ad (by assumption) _ | exact Below.refl _ _ | exact (Below.refl _ _).alloc (Nat.le_refl _) _))).mono ?_
 rintro e w4 ⟨rfl,hb⟩
 have HB4:=hid (below_trans HB3.out hb)
 have HG4:=hid (Bk.below HG3.out hb)
 have HL4:=hid (Bk.below HL3.out hb)
 clear hb
 clear c0 c1 c2 c3 c4 c5 c6 c7 c8 c9 c10 d0 d1 d2 d3 d4 d5 d6 d7 d8 d9 d10
 obtain ⟨⟨c0,c1,c2,c3,c4,c5,c6,c7,c8,c9,c10⟩,-⟩:=cellsH HG4.out
 obtain ⟨⟨d0,d1,d2,d3,d4,d5,d6,d7,d8,d9,d10⟩,-⟩:=cellsH HL4.out
 go_wp2_with fail
 refine (HM2.out _ (T.out.below (by first | exact btw (by assumption) | exact btw_al (by assumption) _ | exact btw_dr (by assumption) | exact btw_ad (by assumption) _ | exact Below.refl _ _ | exact (Below.refl _ _).alloc (Nat.le_refl _) _))).mono ?_
 rintro e w5 ⟨rfl,hb⟩
 have HB5:=hid (below_trans HB4.out hb)
 have HG5:=hid (Bk.below HG4.out hb)
 have HL5:=hid (Bk.below HL4.out hb)
 clear hb
 clear c0 c1 c2 c3 c4 c5 c6 c7 c8 c9 c10 d0 d1 d2 d3 d4 d5 d6 d7 d8 d9 d10
 obtain ⟨⟨c0,c1,c2,c3,c4,c5,c6,c7,c8,c9,c10⟩,-⟩:=cellsH HG5.out
 obtain ⟨⟨d0,d1,d2,d3,d4,d5,d6,d7,d8,d9,d10⟩,-⟩:=cellsH HL5.out
 have hmm:=@run_makeMap Tryz.prog
 have hput:=put_newH (heap_alloc_new w5 (.map #[] 0)) k s n p0 p1 p2 p3 p4 p5 p6 p7 (.int .i64 7)
 have HG6:=hid (Bk.below HG5.out (ballH w5 (.map #[] 0)))
 clear c0 c1 c2 c3 c4 c5 c6 c7 c8 c9 c10 d0 d1 d2 d3 d4 d5 d6 d7 d8 d9 d10
 obtain ⟨⟨c0,c1,c2,c3,c4,c5,c6,c7,c8,c9,c10⟩,-⟩:=cellsH HG6.out
 have HS0:=hid (keys_put (o:=.map #[] 0) (m:=.map #[⟨(.agg #[.int .i64 k,.string s,.int .u32 (n:Int),.int .u16 (p0:Int),.int .u16 (p1:Int),.int .u16 (p2:Int),.int .u16 (p3:Int),.int .u16 (p4:Int),.int .u16 (p5:Int),.int .u16 (p6:Int),.int .u16 (p7:Int)]),.int .i64 7,0⟩] 1) HG5.out HL5.out)
 have HBm:=hid (below_putH (HB5.out.alloc HB5.out.size (.map #[] 0)) HB5.out.size (.map #[⟨(.agg #[.int .i64 k,.string s,.int .u32 (n:Int),.int .u16 (p0:Int),.int .u16 (p1:Int),.int .u16 (p2:Int),.int .u16 (p3:Int),.int .u16 (p4:Int),.int .u16 (p5:Int),.int .u16 (p6:Int),.int .u16 (p7:Int)]),.int .i64 7,0⟩] 1))
 go_wp2_with fail
 clear c0 c1 c2 c3 c4 c5 c6 c7 c8 c9 c10 hput hmm HG5 HL5 HG6 HB5 HF1 HF2 HM1 HM2
 generalize putObjH (w5.alloc (.map #[] 0)) w5.heap.size (.map #[⟨(.agg #[.int .i64 k,.string s,.int .u32 (n:Int),.int .u16 (p0:Int),.int .u16 (p1:Int),.int .u16 (p2:Int),.int .u16 (p3:Int),.int .u16 (p4:Int),.int .u16 (p5:Int),.int .u16 (p6:Int),.int .u16 (p7:Int)]),.int .i64 7,0⟩] 1)=wm at *
 generalize w5.heap.size=R at *
 generalize hD:w.heap.size+1=D at *
 clear hD
 obtain ⟨G,hG⟩:∃G,w.heap.size=G:=⟨_,rfl⟩
 have hGp:(Value.pointer (some ⟨w.heap.size,0,none⟩))=Value.pointer (some ⟨G,0,none⟩):=by rw [hG]
 rw [hGp]
 rw [hG] at HS0
 clear hG hGp
 refine wp_region_held_drew (S:=fun w'=>KeysAt w' G D R [.int .i64 k,.string s,.int .u32 (n:Int),.int .u16 (p0:Int),.int .u16 (p1:Int),.int .u16 (p2:Int),.int .u16 (p3:Int),.int .u16 (p4:Int),.int .u16 (p5:Int),.int .u16 (p6:Int),.int .u16 (p7:Int)] [.int .i64 k',.string s',.int .u32 (n':Int),.int .u16 (q0:Int),.int .u16 (q1:Int),.int .u16 (q2:Int),.int .u16 (q3:Int),.int .u16 (q4:Int),.int .u16 (q5:Int),.int .u16 (q6:Int),.int .u16 (q7:Int)] (.map #[⟨(.agg #[.int .i64 k,.string s,.int .u32 (n:Int),.int .u16 (p0:Int),.int .u16 (p1:Int),.int .u16 (p2:Int),.int .u16 (p3:Int),.int .u16 (p4:Int),.int .u16 (p5:Int),.int .u16 (p6:Int),.int .u16 (p7:Int)]),.int .i64 7,0⟩] 1)) (by kernel_rfl) ?_ (fun hHeld=>?_)
 ·exact HS0.out
 have HS:Hid (KeysAt wm.drew G D R [.int .i64 k,.string s,.int .u32 (n:Int),.int .u16 (p0:Int),.int .u16 (p1:Int),.int .u16 (p2:Int),.int .u16 (p3:Int),.int .u16 (p4:Int),.int .u16 (p5:Int),.int .u16 (p6:Int),.int .u16 (p7:Int)] [.int .i64 k',.string s',.int .u32 (n':Int),.int .u16 (q0:Int),.int .u16 (q1:Int),.int .u16 (q2:Int),.int .u16 (q3:Int),.int .u16 (q4:Int),.int .u16 (q5:Int),.int .u16 (q6:Int),.int .u16 (q7:Int)] (.map #[⟨(.agg #[.int .i64 k,.string s,.int .u32 (n:Int),.int .u16 (p0:Int),.int .u16 (p1:Int),.int .u16 (p2:Int),.int .u16 (p3:Int),.int .u16 (p4:Int),.int .u16 (p5:Int),.int .u16 (p6:Int),.int .u16 (p7:Int)]),.int .i64 7,0⟩] 1)):=HS0
 have HBx:=hid (HBm.out.drew)
 refine wpAnyH_ready (rs:=[0]) (by kernel_rfl) (by simp) ?_
 refine' AllReadyH.cons (by simp only [List.getElem?_toArray,List.getElem?_cons_succ,List.getElem?_cons_zero];rfl) (fun K hK=>?_) AllReadyH.nil
 go_simp
 refine (hfirst_calls _ (T.out.below HBx.out).r).mono ?_
 rintro e wa ⟨rfl,hb⟩
 have HS:=hid (keys_on HS.out hb)
 have HBx:=hid (HBx.out.trans (hb.mono HBx.out.size))
 clear hb
 go_wp2_with fail
 refine hK.out _ _ ?_ (fun hHeld=>?_)
 ·exact HS.out
 clear hK K
 try simp only [Act.put,List.setIfInBounds_toArray,List.set_cons_zero,List.set_cons_succ]
 refine' wpAnyH_take (i:=1) (v:=?_) (by simp only [List.getElem?_toArray,List.getElem?_cons_succ,List.getElem?_cons_zero];rfl) (by kernel_rfl) (by kernel_rfl) (by kernel_rfl) (by intro _ _ _ h;exact h) (Or.inl ⟨by rfl,?hy1⟩) hHeld ?rest1
 case hy1=>(intro w hSw;clear hSw;go_simp;try with_reducible rfl)
 try simp only [Act.put,List.setIfInBounds_toArray,List.set_cons_zero,List.set_cons_succ]
 refine' wpAnyH_take (i:=2) (v:=?_) (by simp only [List.getElem?_toArray,List.getElem?_cons_succ,List.getElem?_cons_zero];rfl) (by kernel_rfl) (by kernel_rfl) (by kernel_rfl) (by intro _ _ _ h;exact h) (Or.inl ⟨by rfl,?hy2⟩) hHeld ?rest2
 case hy2=>(intro w hSw;obtain ⟨hSa,hSb,hSm⟩:=hSw;obtain ⟨⟨c0,c1,c2,c3,c4,c5,c6,c7,c8,c9,c10⟩,-⟩:=cellsH hSa;obtain ⟨⟨d0,d1,d2,d3,d4,d5,d6,d7,d8,d9,d10⟩,-⟩:=cellsH hSb;clear hSa hSb;go_simp;try with_reducible rfl)
 try simp only [Act.put,List.setIfInBounds_toArray,List.set_cons_zero,List.set_cons_succ]
 refine' wpAnyH_take (i:=3) (v:=?_) (by simp only [List.getElem?_toArray,List.getElem?_cons_succ,List.getElem?_cons_zero];rfl) (by kernel_rfl) (by kernel_rfl) (by kernel_rfl) (by intro _ _ _ h;exact h) (Or.inl ⟨by rfl,?hy3⟩) hHeld ?rest3
 case hy3=>(intro w hSw;obtain ⟨hSa,hSb,hSm⟩:=hSw;obtain ⟨⟨c0,c1,c2,c3,c4,c5,c6,c7,c8,c9,c10⟩,-⟩:=cellsH hSa;obtain ⟨⟨d0,d1,d2,d3,d4,d5,d6,d7,d8,d9,d10⟩,-⟩:=cellsH hSb;clear hSa hSb;go_simp;try with_reducible rfl)
 try simp only [Act.put,List.setIfInBounds_toArray,List.set_cons_zero,List.set_cons_succ]
 refine' wpAnyH_take (i:=4) (v:=?_) (by simp only [List.getElem?_toArray,List.getElem?_cons_succ,List.getElem?_cons_zero];rfl) (by kernel_rfl) (by kernel_rfl) (by kernel_rfl) (by intro _ _ _ h;exact h) (Or.inl ⟨by rfl,?hy4⟩) hHeld ?rest4
 case hy4=>(intro w hSw;clear hSw;go_simp;try with_reducible rfl)
 try simp only [Act.put,List.setIfInBounds_toArray,List.set_cons_zero,List.set_cons_succ]
 refine' wpAnyH_take (i:=5) (v:=?_) (by simp only [List.getElem?_toArray,List.getElem?_cons_succ,List.getElem?_cons_zero];rfl) (by kernel_rfl) (by kernel_rfl) (by kernel_rfl) (by intro _ _ _ h;exact h) (Or.inl ⟨by rfl,?hy5⟩) hHeld ?rest5
 case hy5=>(intro w hSw;clear hSw;go_simp;try with_reducible rfl)
 try simp only [Act.put,List.setIfInBounds_toArray,List.set_cons_zero,List.set_cons_succ]
 refine' wpAnyH_take (i:=6) (v:=?_) (by simp only [List.getElem?_toArray,List.getElem?_cons_succ,List.getElem?_cons_zero];rfl) (by kernel_rfl) (by kernel_rfl) (by kernel_rfl) (by intro _ _ _ h;exact h) (Or.inl ⟨by rfl,?hy6⟩) hHeld ?rest6
 case hy6=>(intro w hSw;obtain ⟨hSa,hSb,hSm⟩:=hSw;obtain ⟨⟨c0,c1,c2,c3,c4,c5,c6,c7,c8,c9,c10⟩,-⟩:=cellsH hSa;obtain ⟨⟨d0,d1,d2,d3,d4,d5,d6,d7,d8,d9,d10⟩,-⟩:=cellsH hSb;clear hSa hSb;go_simp;try with_reducible rfl)
 try simp only [Act.put,List.setIfInBounds_toArray,List.set_cons_zero,List.set_cons_succ]
 refine' wpAnyH_take (i:=7) (v:=?_) (by simp only [List.getElem?_toArray,List.getElem?_cons_succ,List.getElem?_cons_zero];rfl) (by kernel_rfl) (by kernel_rfl) (by kernel_rfl) (by intro _ _ _ h;exact h) (Or.inl ⟨by rfl,?hy7⟩) hHeld ?rest7
 case hy7=>(intro w hSw;clear hSw;go_simp;try with_reducible rfl)
 try simp only [Act.put,List.setIfInBounds_toArray,List.set_cons_zero,List.set_cons_succ]
 refine' wpAnyH_take (i:=8) (v:=?_) (by simp only [List.getElem?_toArray,List.getElem?_cons_succ,List.getElem?_cons_zero];rfl) (by kernel_rfl) (by kernel_rfl) (by kernel_rfl) (by intro _ _ _ h;exact h) (Or.inl ⟨by rfl,?hy8⟩) hHeld ?rest8
 case hy8=>(intro w hSw;obtain ⟨hSa,hSb,hSm⟩:=hSw;obtain ⟨⟨c0,c1,c2,c3,c4,c5,c6,c7,c8,c9,c10⟩,-⟩:=cellsH hSa;obtain ⟨⟨d0,d1,d2,d3,d4,d5,d6,d7,d8,d9,d10⟩,-⟩:=cellsH hSb;clear hSa hSb;go_simp;try with_reducible rfl)
 try simp only [Act.put,List.setIfInBounds_toArray,List.set_cons_zero,List.set_cons_succ]
 refine' wpAnyH_take (i:=9) (v:=?_) (by simp only [List.getElem?_toArray,List.getElem?_cons_succ,List.getElem?_cons_zero];rfl) (by kernel_rfl) (by kernel_rfl) (by kernel_rfl) (by intro _ _ _ h;exact h) (Or.inl ⟨by rfl,?hy9⟩) hHeld ?rest9
 case hy9=>(intro w hSw;clear hSw;go_simp;try with_reducible rfl)
 try simp only [Act.put,List.setIfInBounds_toArray,List.set_cons_zero,List.set_cons_succ]
 refine' wpAnyH_take (i:=10) (v:=?_) (by simp only [List.getElem?_toArray,List.getElem?_cons_succ,List.getElem?_cons_zero];rfl) (by kernel_rfl) (by kernel_rfl) (by kernel_rfl) (by intro _ _ _ h;exact h) (Or.inl ⟨by rfl,?hy10⟩) hHeld ?rest10
 case hy10=>(intro w hSw;clear hSw;go_simp;try with_reducible rfl)
 try simp only [Act.put,List.setIfInBounds_toArray,List.set_cons_zero,List.set_cons_succ]
 refine' wpAnyH_take (i:=11) (v:=undef) (by simp only [List.getElem?_toArray,List.getElem?_cons_succ,List.getElem?_cons_zero];rfl) (by kernel_rfl) (by kernel_rfl) (by kernel_rfl) (by intro _ _ _ h;exact h) (Or.inr ⟨by rfl,rfl⟩) hHeld ?_
 try simp only [Act.put,List.setIfInBounds_toArray,List.set_cons_zero,List.set_cons_succ]
 refine' wpAnyH_take (i:=13) (v:=undef) (by simp only [List.getElem?_toArray,List.getElem?_cons_succ,List.getElem?_cons_zero];rfl) (by kernel_rfl) (by kernel_rfl) (by kernel_rfl) (by intro _ _ _ h;exact h) (Or.inr ⟨by rfl,rfl⟩) hHeld ?_
 try simp only [Act.put,List.setIfInBounds_toArray,List.set_cons_zero,List.set_cons_succ]
 refine wpAnyH_ready (rs:=[12]) (by kernel_rfl) (by simp) ?_
 refine' AllReadyH.cons (by simp only [List.getElem?_toArray,List.getElem?_cons_succ,List.getElem?_cons_zero];rfl) (fun K hK=>?_) AllReadyH.nil
 go_simp
 refine hK.out _ _ ?_ (fun hHeld=>?_)
 ·exact HS.out
 clear hK K
 try simp only [Act.put,List.setIfInBounds_toArray,List.set_cons_zero,List.set_cons_succ]
 refine wpAnyH_ready (rs:=[14]) (by kernel_rfl) (by simp) ?_
 refine' AllReadyH.cons (by simp only [List.getElem?_toArray,List.getElem?_cons_succ,List.getElem?_cons_zero];rfl) (fun K hK=>?_) AllReadyH.nil
 go_simp
 refine hK.out _ _ ?_ (fun hHeld=>?_)
 ·exact HS.out
 clear hK K
 try simp only [Act.put,List.setIfInBounds_toArray,List.set_cons_zero,List.set_cons_succ]
 refine' wpAnyH_take (i:=15) (v:=undef) (by simp only [List.getElem?_toArray,List.getElem?_cons_succ,List.getElem?_cons_zero];rfl) (by kernel_rfl) (by kernel_rfl) (by kernel_rfl) (by intro _ _ _ h;exact h) (Or.inr ⟨by rfl,rfl⟩) hHeld ?_
 try simp only [Act.put,List.setIfInBounds_toArray,List.set_cons_zero,List.set_cons_succ]
 refine' wpAnyH_take (i:=16) (v:=?_) (by simp only [List.getElem?_toArray,List.getElem?_cons_succ,List.getElem?_cons_zero];rfl) (by kernel_rfl) (by kernel_rfl) (by kernel_rfl) (by intro _ _ _ h;exact h) (Or.inl ⟨by rfl,?hy16⟩) hHeld ?rest16
 case hy16=>(intro w hSw;clear hSw;go_simp;try with_reducible rfl)
 try simp only [Act.put,List.setIfInBounds_toArray,List.set_cons_zero,List.set_cons_succ]
 refine' wpAnyH_take (i:=17) (v:=?_) (by simp only [List.getElem?_toArray,List.getElem?_cons_succ,List.getElem?_cons_zero];rfl) (by kernel_rfl) (by kernel_rfl) (by kernel_rfl) (by intro _ _ _ h;exact h) (Or.inl ⟨by rfl,?hy17⟩) hHeld ?rest17
 case hy17=>(intro w hSw;clear hSw;go_simp;try with_reducible rfl)
 try simp only [Act.put,List.setIfInBounds_toArray,List.set_cons_zero,List.set_cons_succ]
 refine' wpAnyH_take (i:=18) (v:=?_) (by simp only [List.getElem?_toArray,List.getElem?_cons_succ,List.getElem?_cons_zero];rfl) (by kernel_rfl) (by kernel_rfl) (by kernel_rfl) (by intro _ _ _ h;exact h) (Or.inl ⟨by rfl,?hy18⟩) hHeld ?rest18
 case hy18=>(intro w hSw;clear hSw;go_simp;try with_reducible rfl)
 try simp only [Act.put,List.setIfInBounds_toArray,List.set_cons_zero,List.set_cons_succ]
 refine' wpAnyH_take (i:=19) (v:=?_) (by simp only [List.getElem?_toArray,List.getElem?_cons_succ,List.getElem?_cons_zero];rfl) (by kernel_rfl) (by kernel_rfl) (by kernel_rfl) (by intro _ _ _ h;exact h) (Or.inl ⟨by rfl,?hy19⟩) hHeld ?rest19
 case hy19=>(intro w hSw;clear hSw;go_simp;try with_reducible rfl)
 try simp only [Act.put,List.setIfInBounds_toArray,List.set_cons_zero,List.set_cons_succ]
 refine' wpAnyH_take (i:=20) (v:=?_) (by simp only [List.getElem?_toArray,List.getElem?_cons_succ,List.getElem?_cons_zero];rfl) (by kernel_rfl) (by kernel_rfl) (by kernel_rfl) (by intro _ _ _ h;exact h) (Or.inl ⟨by rfl,?hy20⟩) hHeld ?rest20
 case hy20=>(intro w hSw;clear hSw;go_simp;try with_reducible rfl)
 try simp only [Act.put,List.setIfInBounds_toArray,List.set_cons_zero,List.set_cons_succ]
 refine' wpAnyH_take (i:=21) (v:=?_) (by simp only [List.getElem?_toArray,List.getElem?_cons_succ,List.getElem?_cons_zero];rfl) (by kernel_rfl) (by kernel_rfl) (by kernel_rfl) (by intro _ _ _ h;exact h) (Or.inl ⟨by rfl,?hy21⟩) hHeld ?rest21
 case hy21=>(intro w hSw;obtain ⟨hSa,hSb,hSm⟩:=hSw;obtain ⟨⟨c0,c1,c2,c3,c4,c5,c6,c7,c8,c9,c10⟩,-⟩:=cellsH hSa;obtain ⟨⟨d0,d1,d2,d3,d4,d5,d6,d7,d8,d9,d10⟩,-⟩:=cellsH hSb;clear hSa hSb;go_simp;try with_reducible rfl)
 try simp only [Act.put,List.setIfInBounds_toArray,List.set_cons_zero,List.set_cons_succ]
 refine' wpAnyH_take (i:=22) (v:=?_) (by simp only [List.getElem?_toArray,List.getElem?_cons_succ,List.getElem?_cons_zero];rfl) (by kernel_rfl) (by kernel_rfl) (by kernel_rfl) (by intro _ _ _ h;exact h) (Or.inl ⟨by rfl,?hy22⟩) hHeld ?rest22
 case hy22=>(intro w hSw;obtain ⟨hSa,hSb,hSm⟩:=hSw;have hask:=ask_oneH hSm k' s' n' q0 q1 q2 q3 q4 q5 q6 q7;rw [hsv] at hask;simp only [if_true,if_false,Bool.false_eq_true] at hask;obtain ⟨⟨c0,c1,c2,c3,c4,c5,c6,c7,c8,c9,c10⟩,-⟩:=cellsH hSa;obtain ⟨⟨d0,d1,d2,d3,d4,d5,d6,d7,d8,d9,d10⟩,-⟩:=cellsH hSb;clear hSa hSb;go_simp;try with_reducible rfl)
 try simp only [Act.put,List.setIfInBounds_toArray,List.set_cons_zero,List.set_cons_succ]
 refine' wpAnyH_take (i:=23) (v:=?_) (by simp only [List.getElem?_toArray,List.getElem?_cons_succ,List.getElem?_cons_zero];rfl) (by kernel_rfl) (by kernel_rfl) (by kernel_rfl) (by intro _ _ _ h;exact h) (Or.inl ⟨by rfl,?hy23⟩) hHeld ?rest23
 case hy23=>(intro w hSw;clear hSw;go_simp;try with_reducible rfl)
 try simp only [Act.put,List.setIfInBounds_toArray,List.set_cons_zero,List.set_cons_succ]
 refine' wpAnyH_take (i:=24) (v:=?_) (by simp only [List.getElem?_toArray,List.getElem?_cons_succ,List.getElem?_cons_zero];rfl) (by kernel_rfl) (by kernel_rfl) (by kernel_rfl) (by intro _ _ _ h;exact h) (Or.inl ⟨by rfl,?hy24⟩) hHeld ?rest24
 case hy24=>(intro w hSw;obtain ⟨hSa,hSb,hSm⟩:=hSw;obtain ⟨⟨c0,c1,c2,c3,c4,c5,c6,c7,c8,c9,c10⟩,-⟩:=cellsH hSa;obtain ⟨⟨d0,d1,d2,d3,d4,d5,d6,d7,d8,d9,d10⟩,-⟩:=cellsH hSb;clear hSa hSb;go_simp;try with_reducible rfl)
 try simp only [Act.put,List.setIfInBounds_toArray,List.set_cons_zero,List.set_cons_succ]
 refine' wpAnyH_take (i:=25) (v:=?_) (by simp only [List.getElem?_toArray,List.getElem?_cons_succ,List.getElem?_cons_zero];rfl) (by kernel_rfl) (by kernel_rfl) (by kernel_rfl) (by intro _ _ _ h;exact h) (Or.inl ⟨by rfl,?hy25⟩) hHeld ?rest25
 case hy25=>(intro w hSw;obtain ⟨hSa,hSb,hSm⟩:=hSw;obtain ⟨⟨c0,c1,c2,c3,c4,c5,c6,c7,c8,c9,c10⟩,-⟩:=cellsH hSa;obtain ⟨⟨d0,d1,d2,d3,d4,d5,d6,d7,d8,d9,d10⟩,-⟩:=cellsH hSb;clear hSa hSb;go_simp;try with_reducible rfl)
 try simp only [Act.put,List.setIfInBounds_toArray,List.set_cons_zero,List.set_cons_succ]
 refine' wpAnyH_take (i:=26) (v:=?_) (by simp only [List.getElem?_toArray,List.getElem?_cons_succ,List.getElem?_cons_zero];rfl) (by kernel_rfl) (by kernel_rfl) (by kernel_rfl) (by intro _ _ _ h;exact h) (Or.inl ⟨by rfl,?hy26⟩) hHeld ?rest26
 case hy26=>(intro w hSw;clear hSw;go_simp;try with_reducible rfl)
 try simp only [Act.put,List.setIfInBounds_toArray,List.set_cons_zero,List.set_cons_succ]
 refine' wpAnyH_take (i:=27) (v:=?_) (by simp only [List.getElem?_toArray,List.getElem?_cons_succ,List.getElem?_cons_zero];rfl) (by kernel_rfl) (by kernel_rfl) (by kernel_rfl) (by intro _ _ _ h;exact h) (Or.inl ⟨by rfl,?hy27⟩) hHeld ?rest27
 case hy27=>(intro w hSw;clear hSw;go_simp;try with_reducible rfl)
 try simp only [Act.put,List.setIfInBounds_toArray,List.set_cons_zero,List.set_cons_succ]
 refine' wpAnyH_take (i:=28) (v:=?_) (by simp only [List.getElem?_toArray,List.getElem?_cons_succ,List.getElem?_cons_zero];rfl) (by kernel_rfl) (by kernel_rfl) (by kernel_rfl) (by intro _ _ _ h;exact h) (Or.inl ⟨by rfl,?hy28⟩) hHeld ?rest28
 case hy28=>(intro w hSw;clear hSw;go_simp;try with_reducible rfl)
 try simp only [Act.put,List.setIfInBounds_toArray,List.set_cons_zero,List.set_cons_succ]
 refine' wpAnyH_take (i:=29) (v:=?_) (by simp only [List.getElem?_toArray,List.getElem?_cons_succ,List.getElem?_cons_zero];rfl) (by kernel_rfl) (by kernel_rfl) (by kernel_rfl) (by intro _ _ _ h;exact h) (Or.inl ⟨by rfl,?hy29⟩) hHeld ?rest29
 case hy29=>(intro w hSw;clear hSw;go_simp;try with_reducible rfl)
 try simp only [Act.put,List.setIfInBounds_toArray,List.set_cons_zero,List.set_cons_succ]
 refine wpAnyH_done (by kernel_rfl) ?_ _
 go_wp2_with fail
 go_ret
 exact ⟨by first | rfl | simp,HBx.out⟩
theorem hostKeys_text (k:Int) (s:ByteArray) (n p0 p1 p2 p3 p4 p5 p6 p7:Nat) (k':Int) (s':ByteArray) (n' q0 q1 q2 q3 q4 q5 q6 q7:Nat) (w:World) (T0:TabH w) (h5:s.size≤5000) (h6:s'.size≤5000) (hn:n < 4294967296) (hx:∀x∈[p0,p1,p2,p3,p4,p5,p6,p7],x < 65536) (hn':n' < 4294967296) (hx':∀x∈[q0,q1,q2,q3,q4,q5,q6,q7],x < 65536) (hm:mayR (k,s.data.toList,n,[p0,p1,p2,p3,p4,p5,p6,p7])=true) (hm2:mayR (k',s'.data.toList,n',[q0,q1,q2,q3,q4,q5,q6,q7])=true) (hne:((k,s.data.toList,n,[p0,p1,p2,p3,p4,p5,p6,p7]):HostN)≠((k',s'.data.toList,n',[q0,q1,q2,q3,q4,q5,q6,q7]):HostN)) (hk:k=k'):Calls Tryz.prog 7 #[hostV k s n p0 p1 p2 p3 p4 p5 p6 p7,hostV k' s' n' q0 q1 q2 q3 q4 q5 q6 q7] w fun e w'=>e=.returned (.bool true)∧Below w.heap.size w w':=by
 have T:=hid T0
 clear T0
 have HG0:Hid (BkH ((w.alloc (.cells #[.int .i64 k,.string s,.int .u32 (n:Int),.int .u16 (p0:Int),.int .u16 (p1:Int),.int .u16 (p2:Int),.int .u16 (p3:Int),.int .u16 (p4:Int),.int .u16 (p5:Int),.int .u16 (p6:Int),.int .u16 (p7:Int)] 27)).alloc (.cells #[.int .i64 k',.string s',.int .u32 (n':Int),.int .u16 (q0:Int),.int .u16 (q1:Int),.int .u16 (q2:Int),.int .u16 (q3:Int),.int .u16 (q4:Int),.int .u16 (q5:Int),.int .u16 (q6:Int),.int .u16 (q7:Int)] 27)) w.heap.size [.int .i64 k,.string s,.int .u32 (n:Int),.int .u16 (p0:Int),.int .u16 (p1:Int),.int .u16 (p2:Int),.int .u16 (p3:Int),.int .u16 (p4:Int),.int .u16 (p5:Int),.int .u16 (p6:Int),.int .u16 (p7:Int)]):=hid (Bk.below (heap_alloc_new w (.cells #[.int .i64 k,.string s,.int .u32 (n:Int),.int .u16 (p0:Int),.int .u16 (p1:Int),.int .u16 (p2:Int),.int .u16 (p3:Int),.int .u16 (p4:Int),.int .u16 (p5:Int),.int .u16 (p6:Int),.int .u16 (p7:Int)] 27):BkH _ w.heap.size [.int .i64 k,.string s,.int .u32 (n:Int),.int .u16 (p0:Int),.int .u16 (p1:Int),.int .u16 (p2:Int),.int .u16 (p3:Int),.int .u16 (p4:Int),.int .u16 (p5:Int),.int .u16 (p6:Int),.int .u16 (p7:Int)]) (ballH _ (.cells #[.int .i64 k',.string s',.int .u32 (n':Int),.int .u16 (q0:Int),.int .u16 (q1:Int),.int .u16 (q2:Int),.int .u16 (q3:Int),.int .u16 (q4:Int),.int .u16 (q5:Int),.int .u16 (q6:Int),.int .u16 (q7:Int)] 27)))
 have HL0:Hid (BkH ((w.alloc (.cells #[.int .i64 k,.string s,.int .u32 (n:Int),.int .u16 (p0:Int),.int .u16 (p1:Int),.int .u16 (p2:Int),.int .u16 (p3:Int),.int .u16 (p4:Int),.int .u16 (p5:Int),.int .u16 (p6:Int),.int .u16 (p7:Int)] 27)).alloc (.cells #[.int .i64 k',.string s',.int .u32 (n':Int),.int .u16 (q0:Int),.int .u16 (q1:Int),.int .u16 (q2:Int),.int .u16 (q3:Int),.int .u16 (q4:Int),.int .u16 (q5:Int),.int .u16 (q6:Int),.int .u16 (q7:Int)] 27)) (w.heap.size+1) [.int .i64 k',.string s',.int .u32 (n':Int),.int .u16 (q0:Int),.int .u16 (q1:Int),.int .u16 (q2:Int),.int .u16 (q3:Int),.int .u16 (q4:Int),.int .u16 (q5:Int),.int .u16 (q6:Int),.int .u16 (q7:Int)]):=by
  have h:BkH ((w.alloc (.cells #[.int .i64 k,.string s,.int .u32 (n:Int),.int .u16 (p0:Int),.int .u16 (p1:Int),.int .u16 (p2:Int),.int .u16 (p3:Int),.int .u16 (p4:Int),.int .u16 (p5:Int),.int .u16 (p6:Int),.int .u16 (p7:Int)] 27)).alloc (.cells #[.int .i64 k',.string s',.int .u32 (n':Int),.int .u16 (q0:Int),.int .u16 (q1:Int),.int .u16 (q2:Int),.int .u16 (q3:Int),.int .u16 (q4:Int),.int .u16 (q5:Int),.int .u16 (q6:Int),.int .u16 (q7:Int)] 27)) (w.alloc (.cells #[.int .i64 k,.string s,.int .u32 (n:Int),.int .u16 (p0:Int),.int .u16 (p1:Int),.int .u16 (p2:Int),.int .u16 (p3:Int),.int .u16 (p4:Int),.int .u16 (p5:Int),.int .u16 (p6:Int),.int .u16 (p7:Int)] 27)).heap.size [.int .i64 k',.string s',.int .u32 (n':Int),.int .u16 (q0:Int),.int .u16 (q1:Int),.int .u16 (q2:Int),.int .u16 (q3:Int),.int .u16 (q4:Int),.int .u16 (q5:Int),.int .u16 (q6:Int),.int .u16 (q7:Int)]:=heap_alloc_new (w.alloc (.cells #[.int .i64 k,.string s,.int .u32 (n:Int),.int .u16 (p0:Int),.int .u16 (p1:Int),.int .u16 (p2:Int),.int .u16 (p3:Int),.int .u16 (p4:Int),.int .u16 (p5:Int),.int .u16 (p6:Int),.int .u16 (p7:Int)] 27)) (.cells #[.int .i64 k',.string s',.int .u32 (n':Int),.int .u16 (q0:Int),.int .u16 (q1:Int),.int .u16 (q2:Int),.int .u16 (q3:Int),.int .u16 (q4:Int),.int .u16 (q5:Int),.int .u16 (q6:Int),.int .u16 (q7:Int)] 27)
  simp only [World.size_alloc] at h
  exact h
 have HB0:Hid (Below w.heap.size w ((w.alloc (.cells #[.int .i64 k,.string s,.int .u32 (n:Int),.int .u16 (p0:Int),.int .u16 (p1:Int),.int .u16 (p2:Int),.int .u16 (p3:Int),.int .u16 (p4:Int),.int .u16 (p5:Int),.int .u16 (p6:Int),.int .u16 (p7:Int)] 27)).alloc (.cells #[.int .i64 k',.string s',.int .u32 (n':Int),.int .u16 (q0:Int),.int .u16 (q1:Int),.int .u16 (q2:Int),.int .u16 (q3:Int),.int .u16 (q4:Int),.int .u16 (q5:Int),.int .u16 (q6:Int),.int .u16 (q7:Int)] 27))):=hid (ballC2 w (.cells #[.int .i64 k,.string s,.int .u32 (n:Int),.int .u16 (p0:Int),.int .u16 (p1:Int),.int .u16 (p2:Int),.int .u16 (p3:Int),.int .u16 (p4:Int),.int .u16 (p5:Int),.int .u16 (p6:Int),.int .u16 (p7:Int)] 27) (.cells #[.int .i64 k',.string s',.int .u32 (n':Int),.int .u16 (q0:Int),.int .u16 (q1:Int),.int .u16 (q2:Int),.int .u16 (q3:Int),.int .u16 (q4:Int),.int .u16 (q5:Int),.int .u16 (q6:Int),.int .u16 (q7:Int)] 27))
 have HF1:=hid (fun w=>hfew_calls k s n p0 p1 p2 p3 p4 p5 p6 p7 w)
 have HF2:=hid (fun w=>hfew_calls k' s' n' q0 q1 q2 q3 q4 q5 q6 q7 w)
 have hd:decide ((s.size:Int)≤5000)=true:=decide_eq_true (by omega)
 have he:decide ((s'.size:Int)≤5000)=true:=decide_eq_true (by omega)
 rw [hd] at HF1
 rw [he] at HF2
 have HM1:=hid (fun w t=>hmay_calls k s n p0 p1 p2 p3 p4 p5 p6 p7 w hn hx (by omega) t)
 have HM2:=hid (fun w t=>hmay_calls k' s' n' q0 q1 q2 q3 q4 q5 q6 q7 w hn' hx' (by omega) t)
 rw [hm] at HM1
 rw [hm2] at HM2
 have HP1:=hid (fun w t=>hprint_calls k s n p0 p1 p2 p3 p4 p5 p6 p7 w hn hx (by omega) t)
 have HP2:=hid (fun w t=>hprint_calls k' s' n' q0 q1 q2 q3 q4 q5 q6 q7 w hn' hx' (by omega) t)
 have heq:=eq_host k s n p0 p1 p2 p3 p4 p5 p6 p7 k' s' n' q0 q1 q2 q3 q4 q5 q6 q7
 have hsv0:=sameV_iff k s n p0 p1 p2 p3 p4 p5 p6 p7 k' s' n' q0 q1 q2 q3 q4 q5 q6 q7
 have hsv:=sameV_iff k' s' n' q0 q1 q2 q3 q4 q5 q6 q7 k s n p0 p1 p2 p3 p4 p5 p6 p7
 rw [beq_eq_false_iff_ne.2 hne] at hsv0
 rw [beq_eq_false_iff_ne.2 (Ne.symm hne)] at hsv
 simp only [hsv0] at heq
 clear hsv0
 have e1:(k==k')=true:=beq_iff_eq.2 hk
 have e2:((strOf (printR (k,s.data.toList,n,[p0,p1,p2,p3,p4,p5,p6,p7]))).toList==(strOf (printR (k',s'.data.toList,n',[q0,q1,q2,q3,q4,q5,q6,q7]))).toList)=false:=by
  rw [strOf_list,strOf_list]
  exact beq_eq_false_iff_ne.2 (fun e=>hne (may_same hm hm2 hk e))
 generalize strOf (printR (k,s.data.toList,n,[p0,p1,p2,p3,p4,p5,p6,p7]))=PT at *
 generalize strOf (printR (k',s'.data.toList,n',[q0,q1,q2,q3,q4,q5,q6,q7]))=PU at *
 clear hk
 have hgd:Tryz.prog.eqGuardType Tryz.prog.depth 27=false:=by kernel_rfl
 clear hd he h5 h6 hn hx hn' hx' hm hm2 hne
 unfold hostV at *
 go_enter Tryz.func7,Tryz.ntmps7
 go_wp2_with fail
 refine (hfirst_calls _ (T.out.below (by first | exact btw (by assumption) | exact btw_al (by assumption) _ | exact btw_dr (by assumption) | exact btw_ad (by assumption) _ | exact Below.refl _ _ | exact (Below.refl _ _).alloc (Nat.le_refl _) _)).r).mono ?_
 rintro e w1 ⟨rfl,hb⟩
 have HB1:=hid (HB0.out.trans (hb.mono (by simp<;>omega)))
 have HG1:=hid (Bk.below HG0.out hb)
 have HL1:=hid (Bk.below HL0.out hb)
 clear hb HG0 HL0 HB0
 obtain ⟨⟨c0,c1,c2,c3,c4,c5,c6,c7,c8,c9,c10⟩,-⟩:=cellsH HG1.out
 obtain ⟨⟨d0,d1,d2,d3,d4,d5,d6,d7,d8,d9,d10⟩,-⟩:=cellsH HL1.out
 go_wp2_with fail
 refine (HF1.out _).mono ?_
 rintro e w2 ⟨rfl,hb⟩
 have HB2:=hid (below_trans HB1.out hb)
 have HG2:=hid (Bk.below HG1.out hb)
 have HL2:=hid (Bk.below HL1.out hb)
 clear hb
 clear c0 c1 c2 c3 c4 c5 c6 c7 c8 c9 c10 d0 d1 d2 d3 d4 d5 d6 d7 d8 d9 d10
 obtain ⟨⟨c0,c1,c2,c3,c4,c5,c6,c7,c8,c9,c10⟩,-⟩:=cellsH HG2.out
 obtain ⟨⟨d0,d1,d2,d3,d4,d5,d6,d7,d8,d9,d10⟩,-⟩:=cellsH HL2.out
 go_wp2_with fail
 refine (HF2.out _).mono ?_
 rintro e w3 ⟨rfl,hb⟩
 have HB3:=hid (below_trans HB2.out hb)
 have HG3:=hid (Bk.below HG2.out hb)
 have HL3:=hid (Bk.below HL2.out hb)
 clear hb
 clear c0 c1 c2 c3 c4 c5 c6 c7 c8 c9 c10 d0 d1 d2 d3 d4 d5 d6 d7 d8 d9 d10
 obtain ⟨⟨c0,c1,c2,c3,c4,c5,c6,c7,c8,c9,c10⟩,-⟩:=cellsH HG3.out
 obtain ⟨⟨d0,d1,d2,d3,d4,d5,d6,d7,d8,d9,d10⟩,-⟩:=cellsH HL3.out
 go_wp2_with fail
 refine (HM1.out _ (T.out.below (by first | exact btw (by assumption) | exact btw_al (by assumption) _ | exact btw_dr (by assumption) | exact btw_ad (by assumption) _ | exact Below.refl _ _ | exact (Below.refl _ _).alloc (Nat.le_refl _) _))).mono ?_
 rintro e w4 ⟨rfl,hb⟩
 have HB4:=hid (below_trans HB3.out hb)
 have HG4:=hid (Bk.below HG3.out hb)
 have HL4:=hid (Bk.below HL3.out hb)
 clear hb
 clear c0 c1 c2 c3 c4 c5 c6 c7 c8 c9 c10 d0 d1 d2 d3 d4 d5 d6 d7 d8 d9 d10
 obtain ⟨⟨c0,c1,c2,c3,c4,c5,c6,c7,c8,c9,c10⟩,-⟩:=cellsH HG4.out
 obtain ⟨⟨d0,d1,d2,d3,d4,d5,d6,d7,d8,d9,d10⟩,-⟩:=cellsH HL4.out
 go_wp2_with fail
 refine (HM2.out _ (T.out.below (by first | exact btw (by assumption) | exact btw_al (by assumption) _ | exact btw_dr (by assumption) | exact btw_ad (by assumption) _ | exact Below.refl _ _ | exact (Below.refl _ _).alloc (Nat.le_refl _) _))).mono ?_
 rintro e w5 ⟨rfl,hb⟩
 have HB5:=hid (below_trans HB4.out hb)
 have HG5:=hid (Bk.below HG4.out hb)
 have HL5:=hid (Bk.below HL4.out hb)
 clear hb
 clear c0 c1 c2 c3 c4 c5 c6 c7 c8 c9 c10 d0 d1 d2 d3 d4 d5 d6 d7 d8 d9 d10
 obtain ⟨⟨c0,c1,c2,c3,c4,c5,c6,c7,c8,c9,c10⟩,-⟩:=cellsH HG5.out
 obtain ⟨⟨d0,d1,d2,d3,d4,d5,d6,d7,d8,d9,d10⟩,-⟩:=cellsH HL5.out
 have hmm:=@run_makeMap Tryz.prog
 have hput:=put_newH (heap_alloc_new w5 (.map #[] 0)) k s n p0 p1 p2 p3 p4 p5 p6 p7 (.int .i64 7)
 have HG6:=hid (Bk.below HG5.out (ballH w5 (.map #[] 0)))
 clear c0 c1 c2 c3 c4 c5 c6 c7 c8 c9 c10 d0 d1 d2 d3 d4 d5 d6 d7 d8 d9 d10
 obtain ⟨⟨c0,c1,c2,c3,c4,c5,c6,c7,c8,c9,c10⟩,-⟩:=cellsH HG6.out
 have HS0:=hid (keys_put (o:=.map #[] 0) (m:=.map #[⟨(.agg #[.int .i64 k,.string s,.int .u32 (n:Int),.int .u16 (p0:Int),.int .u16 (p1:Int),.int .u16 (p2:Int),.int .u16 (p3:Int),.int .u16 (p4:Int),.int .u16 (p5:Int),.int .u16 (p6:Int),.int .u16 (p7:Int)]),.int .i64 7,0⟩] 1) HG5.out HL5.out)
 have HBm:=hid (below_putH (HB5.out.alloc HB5.out.size (.map #[] 0)) HB5.out.size (.map #[⟨(.agg #[.int .i64 k,.string s,.int .u32 (n:Int),.int .u16 (p0:Int),.int .u16 (p1:Int),.int .u16 (p2:Int),.int .u16 (p3:Int),.int .u16 (p4:Int),.int .u16 (p5:Int),.int .u16 (p6:Int),.int .u16 (p7:Int)]),.int .i64 7,0⟩] 1))
 go_wp2_with fail
 clear c0 c1 c2 c3 c4 c5 c6 c7 c8 c9 c10 hput hmm HG5 HL5 HG6 HB5 HF1 HF2 HM1 HM2
 generalize putObjH (w5.alloc (.map #[] 0)) w5.heap.size (.map #[⟨(.agg #[.int .i64 k,.string s,.int .u32 (n:Int),.int .u16 (p0:Int),.int .u16 (p1:Int),.int .u16 (p2:Int),.int .u16 (p3:Int),.int .u16 (p4:Int),.int .u16 (p5:Int),.int .u16 (p6:Int),.int .u16 (p7:Int)]),.int .i64 7,0⟩] 1)=wm at *
 generalize w5.heap.size=R at *
 generalize hD:w.heap.size+1=D at *
 clear hD
 obtain ⟨G,hG⟩:∃G,w.heap.size=G:=⟨_,rfl⟩
 have hGp:(Value.pointer (some ⟨w.heap.size,0,none⟩))=Value.pointer (some ⟨G,0,none⟩):=by rw [hG]
 rw [hGp]
 rw [hG] at HS0
 clear hG hGp
 refine wp_region_held_drew (S:=fun w'=>KeysAt w' G D R [.int .i64 k,.string s,.int .u32 (n:Int),.int .u16 (p0:Int),.int .u16 (p1:Int),.int .u16 (p2:Int),.int .u16 (p3:Int),.int .u16 (p4:Int),.int .u16 (p5:Int),.int .u16 (p6:Int),.int .u16 (p7:Int)] [.int .i64 k',.string s',.int .u32 (n':Int),.int .u16 (q0:Int),.int .u16 (q1:Int),.int .u16 (q2:Int),.int .u16 (q3:Int),.int .u16 (q4:Int),.int .u16 (q5:Int),.int .u16 (q6:Int),.int .u16 (q7:Int)] (.map #[⟨(.agg #[.int .i64 k,.string s,.int .u32 (n:Int),.int .u16 (p0:Int),.int .u16 (p1:Int),.int .u16 (p2:Int),.int .u16 (p3:Int),.int .u16 (p4:Int),.int .u16 (p5:Int),.int .u16 (p6:Int),.int .u16 (p7:Int)]),.int .i64 7,0⟩] 1)) (by kernel_rfl) ?_ (fun hHeld=>?_)
 ·exact HS0.out
 have HS:Hid (KeysAt wm.drew G D R [.int .i64 k,.string s,.int .u32 (n:Int),.int .u16 (p0:Int),.int .u16 (p1:Int),.int .u16 (p2:Int),.int .u16 (p3:Int),.int .u16 (p4:Int),.int .u16 (p5:Int),.int .u16 (p6:Int),.int .u16 (p7:Int)] [.int .i64 k',.string s',.int .u32 (n':Int),.int .u16 (q0:Int),.int .u16 (q1:Int),.int .u16 (q2:Int),.int .u16 (q3:Int),.int .u16 (q4:Int),.int .u16 (q5:Int),.int .u16 (q6:Int),.int .u16 (q7:Int)] (.map #[⟨(.agg #[.int .i64 k,.string s,.int .u32 (n:Int),.int .u16 (p0:Int),.int .u16 (p1:Int),.int .u16 (p2:Int),.int .u16 (p3:Int),.int .u16 (p4:Int),.int .u16 (p5:Int),.int .u16 (p6:Int),.int .u16 (p7:Int)]),.int .i64 7,0⟩] 1)):=HS0
 have HBx:=hid (HBm.out.drew)
 refine wpAnyH_ready (rs:=[0]) (by kernel_rfl) (by simp) ?_
 refine' AllReadyH.cons (by simp only [List.getElem?_toArray,List.getElem?_cons_succ,List.getElem?_cons_zero];rfl) (fun K hK=>?_) AllReadyH.nil
 go_simp
 refine (hfirst_calls _ (T.out.below HBx.out).r).mono ?_
 rintro e wa ⟨rfl,hb⟩
 have HS:=hid (keys_on HS.out hb)
 have HBx:=hid (HBx.out.trans (hb.mono HBx.out.size))
 clear hb
 go_wp2_with fail
 refine hK.out _ _ ?_ (fun hHeld=>?_)
 ·exact HS.out
 clear hK K
 try simp only [Act.put,List.setIfInBounds_toArray,List.set_cons_zero,List.set_cons_succ]
 refine' wpAnyH_take (i:=1) (v:=?_) (by simp only [List.getElem?_toArray,List.getElem?_cons_succ,List.getElem?_cons_zero];rfl) (by kernel_rfl) (by kernel_rfl) (by kernel_rfl) (by intro _ _ _ h;exact h) (Or.inl ⟨by rfl,?hy1⟩) hHeld ?rest1
 case hy1=>(intro w hSw;clear hSw;go_simp;try with_reducible rfl)
 try simp only [Act.put,List.setIfInBounds_toArray,List.set_cons_zero,List.set_cons_succ]
 refine' wpAnyH_take (i:=2) (v:=?_) (by simp only [List.getElem?_toArray,List.getElem?_cons_succ,List.getElem?_cons_zero];rfl) (by kernel_rfl) (by kernel_rfl) (by kernel_rfl) (by intro _ _ _ h;exact h) (Or.inl ⟨by rfl,?hy2⟩) hHeld ?rest2
 case hy2=>(intro w hSw;obtain ⟨hSa,hSb,hSm⟩:=hSw;obtain ⟨⟨c0,c1,c2,c3,c4,c5,c6,c7,c8,c9,c10⟩,-⟩:=cellsH hSa;obtain ⟨⟨d0,d1,d2,d3,d4,d5,d6,d7,d8,d9,d10⟩,-⟩:=cellsH hSb;clear hSa hSb;go_simp;try with_reducible rfl)
 try simp only [Act.put,List.setIfInBounds_toArray,List.set_cons_zero,List.set_cons_succ]
 refine' wpAnyH_take (i:=3) (v:=?_) (by simp only [List.getElem?_toArray,List.getElem?_cons_succ,List.getElem?_cons_zero];rfl) (by kernel_rfl) (by kernel_rfl) (by kernel_rfl) (by intro _ _ _ h;exact h) (Or.inl ⟨by rfl,?hy3⟩) hHeld ?rest3
 case hy3=>(intro w hSw;obtain ⟨hSa,hSb,hSm⟩:=hSw;obtain ⟨⟨c0,c1,c2,c3,c4,c5,c6,c7,c8,c9,c10⟩,-⟩:=cellsH hSa;obtain ⟨⟨d0,d1,d2,d3,d4,d5,d6,d7,d8,d9,d10⟩,-⟩:=cellsH hSb;clear hSa hSb;go_simp;try with_reducible rfl)
 try simp only [Act.put,List.setIfInBounds_toArray,List.set_cons_zero,List.set_cons_succ]
 refine' wpAnyH_take (i:=4) (v:=?_) (by simp only [List.getElem?_toArray,List.getElem?_cons_succ,List.getElem?_cons_zero];rfl) (by kernel_rfl) (by kernel_rfl) (by kernel_rfl) (by intro _ _ _ h;exact h) (Or.inl ⟨by rfl,?hy4⟩) hHeld ?rest4
 case hy4=>(intro w hSw;clear hSw;go_simp;try with_reducible rfl)
 try simp only [Act.put,List.setIfInBounds_toArray,List.set_cons_zero,List.set_cons_succ]
 refine' wpAnyH_take (i:=5) (v:=?_) (by simp only [List.getElem?_toArray,List.getElem?_cons_succ,List.getElem?_cons_zero];rfl) (by kernel_rfl) (by kernel_rfl) (by kernel_rfl) (by intro _ _ _ h;exact h) (Or.inl ⟨by rfl,?hy5⟩) hHeld ?rest5
 case hy5=>(intro w hSw;clear hSw;go_simp;try with_reducible rfl)
 try simp only [Act.put,List.setIfInBounds_toArray,List.set_cons_zero,List.set_cons_succ]
 refine' wpAnyH_take (i:=6) (v:=?_) (by simp only [List.getElem?_toArray,List.getElem?_cons_succ,List.getElem?_cons_zero];rfl) (by kernel_rfl) (by kernel_rfl) (by kernel_rfl) (by intro _ _ _ h;exact h) (Or.inl ⟨by rfl,?hy6⟩) hHeld ?rest6
 case hy6=>(intro w hSw;obtain ⟨hSa,hSb,hSm⟩:=hSw;obtain ⟨⟨c0,c1,c2,c3,c4,c5,c6,c7,c8,c9,c10⟩,-⟩:=cellsH hSa;obtain ⟨⟨d0,d1,d2,d3,d4,d5,d6,d7,d8,d9,d10⟩,-⟩:=cellsH hSb;clear hSa hSb;go_simp;try with_reducible rfl)
 try simp only [Act.put,List.setIfInBounds_toArray,List.set_cons_zero,List.set_cons_succ]
 refine' wpAnyH_take (i:=7) (v:=?_) (by simp only [List.getElem?_toArray,List.getElem?_cons_succ,List.getElem?_cons_zero];rfl) (by kernel_rfl) (by kernel_rfl) (by kernel_rfl) (by intro _ _ _ h;exact h) (Or.inl ⟨by rfl,?hy7⟩) hHeld ?rest7
 case hy7=>(intro w hSw;clear hSw;go_simp;try with_reducible rfl)
 try simp only [Act.put,List.setIfInBounds_toArray,List.set_cons_zero,List.set_cons_succ]
 refine' wpAnyH_take (i:=8) (v:=?_) (by simp only [List.getElem?_toArray,List.getElem?_cons_succ,List.getElem?_cons_zero];rfl) (by kernel_rfl) (by kernel_rfl) (by kernel_rfl) (by intro _ _ _ h;exact h) (Or.inl ⟨by rfl,?hy8⟩) hHeld ?rest8
 case hy8=>(intro w hSw;obtain ⟨hSa,hSb,hSm⟩:=hSw;obtain ⟨⟨c0,c1,c2,c3,c4,c5,c6,c7,c8,c9,c10⟩,-⟩:=cellsH hSa;obtain ⟨⟨d0,d1,d2,d3,d4,d5,d6,d7,d8,d9,d10⟩,-⟩:=cellsH hSb;clear hSa hSb;go_simp;try with_reducible rfl)
 try simp only [Act.put,List.setIfInBounds_toArray,List.set_cons_zero,List.set_cons_succ]
 refine' wpAnyH_take (i:=9) (v:=?_) (by simp only [List.getElem?_toArray,List.getElem?_cons_succ,List.getElem?_cons_zero];rfl) (by kernel_rfl) (by kernel_rfl) (by kernel_rfl) (by intro _ _ _ h;exact h) (Or.inl ⟨by rfl,?hy9⟩) hHeld ?rest9
 case hy9=>(intro w hSw;clear hSw;go_simp;try with_reducible rfl)
 try simp only [Act.put,List.setIfInBounds_toArray,List.set_cons_zero,List.set_cons_succ]
 refine' wpAnyH_take (i:=10) (v:=?_) (by simp only [List.getElem?_toArray,List.getElem?_cons_succ,List.getElem?_cons_zero];rfl) (by kernel_rfl) (by kernel_rfl) (by kernel_rfl) (by intro _ _ _ h;exact h) (Or.inl ⟨by rfl,?hy10⟩) hHeld ?rest10
 case hy10=>(intro w hSw;clear hSw;go_simp;try with_reducible rfl)
 try simp only [Act.put,List.setIfInBounds_toArray,List.set_cons_zero,List.set_cons_succ]
 refine' wpAnyH_take (i:=11) (v:=?_) (by simp only [List.getElem?_toArray,List.getElem?_cons_succ,List.getElem?_cons_zero];rfl) (by kernel_rfl) (by kernel_rfl) (by kernel_rfl) (by intro _ _ _ h;exact h) (Or.inl ⟨by rfl,?hy11⟩) hHeld ?rest11
 case hy11=>(intro w hSw;obtain ⟨hSa,hSb,hSm⟩:=hSw;obtain ⟨⟨c0,c1,c2,c3,c4,c5,c6,c7,c8,c9,c10⟩,-⟩:=cellsH hSa;obtain ⟨⟨d0,d1,d2,d3,d4,d5,d6,d7,d8,d9,d10⟩,-⟩:=cellsH hSb;clear hSa hSb;go_simp;try with_reducible rfl)
 try simp only [Act.put,List.setIfInBounds_toArray,List.set_cons_zero,List.set_cons_succ]
 refine' wpAnyH_take (i:=13) (v:=?_) (by simp only [List.getElem?_toArray,List.getElem?_cons_succ,List.getElem?_cons_zero];rfl) (by kernel_rfl) (by kernel_rfl) (by kernel_rfl) (by intro _ _ _ h;exact h) (Or.inl ⟨by rfl,?hy13⟩) hHeld ?rest13
 case hy13=>(intro w hSw;obtain ⟨hSa,hSb,hSm⟩:=hSw;obtain ⟨⟨c0,c1,c2,c3,c4,c5,c6,c7,c8,c9,c10⟩,-⟩:=cellsH hSa;obtain ⟨⟨d0,d1,d2,d3,d4,d5,d6,d7,d8,d9,d10⟩,-⟩:=cellsH hSb;clear hSa hSb;go_simp;try with_reducible rfl)
 try simp only [Act.put,List.setIfInBounds_toArray,List.set_cons_zero,List.set_cons_succ]
 refine wpAnyH_ready (rs:=[12]) (by kernel_rfl) (by simp) ?_
 refine' AllReadyH.cons (by simp only [List.getElem?_toArray,List.getElem?_cons_succ,List.getElem?_cons_zero];rfl) (fun K hK=>?_) AllReadyH.nil
 go_simp
 refine (HP1.out _ (T.out.below HBx.out)).mono ?_
 rintro e wb ⟨rfl,hb⟩
 have HS:=hid (keys_on HS.out hb)
 have HBx:=hid (HBx.out.trans (hb.mono HBx.out.size))
 clear hb
 go_wp2_with fail
 refine hK.out _ _ ?_ (fun hHeld=>?_)
 ·exact HS.out
 clear hK K
 try simp only [Act.put,List.setIfInBounds_toArray,List.set_cons_zero,List.set_cons_succ]
 refine wpAnyH_ready (rs:=[14]) (by kernel_rfl) (by simp) ?_
 refine' AllReadyH.cons (by simp only [List.getElem?_toArray,List.getElem?_cons_succ,List.getElem?_cons_zero];rfl) (fun K hK=>?_) AllReadyH.nil
 go_simp
 refine (HP2.out _ (T.out.below HBx.out)).mono ?_
 rintro e wd ⟨rfl,hb⟩
 have HS:=hid (keys_on HS.out hb)
 have HBx:=hid (HBx.out.trans (hb.mono HBx.out.size))
 clear hb
 go_wp2_with fail
 refine hK.out _ _ ?_ (fun hHeld=>?_)
 ·exact HS.out
 clear hK K
 try simp only [Act.put,List.setIfInBounds_toArray,List.set_cons_zero,List.set_cons_succ]
 refine' wpAnyH_take (i:=15) (v:=?_) (by simp only [List.getElem?_toArray,List.getElem?_cons_succ,List.getElem?_cons_zero];rfl) (by kernel_rfl) (by kernel_rfl) (by kernel_rfl) (by intro _ _ _ h;exact h) (Or.inl ⟨by rfl,?hy15⟩) hHeld ?rest15
 case hy15=>(intro w hSw;clear hSw;go_simp;try with_reducible rfl)
 try simp only [Act.put,List.setIfInBounds_toArray,List.set_cons_zero,List.set_cons_succ]
 refine' wpAnyH_take (i:=16) (v:=?_) (by simp only [List.getElem?_toArray,List.getElem?_cons_succ,List.getElem?_cons_zero];rfl) (by kernel_rfl) (by kernel_rfl) (by kernel_rfl) (by intro _ _ _ h;exact h) (Or.inl ⟨by rfl,?hy16⟩) hHeld ?rest16
 case hy16=>(intro w hSw;clear hSw;go_simp;try with_reducible rfl)
 try simp only [Act.put,List.setIfInBounds_toArray,List.set_cons_zero,List.set_cons_succ]
 refine' wpAnyH_take (i:=17) (v:=?_) (by simp only [List.getElem?_toArray,List.getElem?_cons_succ,List.getElem?_cons_zero];rfl) (by kernel_rfl) (by kernel_rfl) (by kernel_rfl) (by intro _ _ _ h;exact h) (Or.inl ⟨by rfl,?hy17⟩) hHeld ?rest17
 case hy17=>(intro w hSw;clear hSw;go_simp;try with_reducible rfl)
 try simp only [Act.put,List.setIfInBounds_toArray,List.set_cons_zero,List.set_cons_succ]
 refine' wpAnyH_take (i:=18) (v:=?_) (by simp only [List.getElem?_toArray,List.getElem?_cons_succ,List.getElem?_cons_zero];rfl) (by kernel_rfl) (by kernel_rfl) (by kernel_rfl) (by intro _ _ _ h;exact h) (Or.inl ⟨by rfl,?hy18⟩) hHeld ?rest18
 case hy18=>(intro w hSw;clear hSw;go_simp;try with_reducible rfl)
 try simp only [Act.put,List.setIfInBounds_toArray,List.set_cons_zero,List.set_cons_succ]
 refine' wpAnyH_take (i:=19) (v:=?_) (by simp only [List.getElem?_toArray,List.getElem?_cons_succ,List.getElem?_cons_zero];rfl) (by kernel_rfl) (by kernel_rfl) (by kernel_rfl) (by intro _ _ _ h;exact h) (Or.inl ⟨by rfl,?hy19⟩) hHeld ?rest19
 case hy19=>(intro w hSw;clear hSw;go_simp;try with_reducible rfl)
 try simp only [Act.put,List.setIfInBounds_toArray,List.set_cons_zero,List.set_cons_succ]
 refine' wpAnyH_take (i:=20) (v:=?_) (by simp only [List.getElem?_toArray,List.getElem?_cons_succ,List.getElem?_cons_zero];rfl) (by kernel_rfl) (by kernel_rfl) (by kernel_rfl) (by intro _ _ _ h;exact h) (Or.inl ⟨by rfl,?hy20⟩) hHeld ?rest20
 case hy20=>(intro w hSw;clear hSw;go_simp;try with_reducible rfl)
 try simp only [Act.put,List.setIfInBounds_toArray,List.set_cons_zero,List.set_cons_succ]
 refine' wpAnyH_take (i:=21) (v:=?_) (by simp only [List.getElem?_toArray,List.getElem?_cons_succ,List.getElem?_cons_zero];rfl) (by kernel_rfl) (by kernel_rfl) (by kernel_rfl) (by intro _ _ _ h;exact h) (Or.inl ⟨by rfl,?hy21⟩) hHeld ?rest21
 case hy21=>(intro w hSw;obtain ⟨hSa,hSb,hSm⟩:=hSw;obtain ⟨⟨c0,c1,c2,c3,c4,c5,c6,c7,c8,c9,c10⟩,-⟩:=cellsH hSa;obtain ⟨⟨d0,d1,d2,d3,d4,d5,d6,d7,d8,d9,d10⟩,-⟩:=cellsH hSb;clear hSa hSb;go_simp;try with_reducible rfl)
 try simp only [Act.put,List.setIfInBounds_toArray,List.set_cons_zero,List.set_cons_succ]
 refine' wpAnyH_take (i:=22) (v:=?_) (by simp only [List.getElem?_toArray,List.getElem?_cons_succ,List.getElem?_cons_zero];rfl) (by kernel_rfl) (by kernel_rfl) (by kernel_rfl) (by intro _ _ _ h;exact h) (Or.inl ⟨by rfl,?hy22⟩) hHeld ?rest22
 case hy22=>(intro w hSw;obtain ⟨hSa,hSb,hSm⟩:=hSw;have hask:=ask_oneH hSm k' s' n' q0 q1 q2 q3 q4 q5 q6 q7;rw [hsv] at hask;simp only [if_true,if_false,Bool.false_eq_true] at hask;obtain ⟨⟨c0,c1,c2,c3,c4,c5,c6,c7,c8,c9,c10⟩,-⟩:=cellsH hSa;obtain ⟨⟨d0,d1,d2,d3,d4,d5,d6,d7,d8,d9,d10⟩,-⟩:=cellsH hSb;clear hSa hSb;go_simp;try with_reducible rfl)
 try simp only [Act.put,List.setIfInBounds_toArray,List.set_cons_zero,List.set_cons_succ]
 refine' wpAnyH_take (i:=23) (v:=?_) (by simp only [List.getElem?_toArray,List.getElem?_cons_succ,List.getElem?_cons_zero];rfl) (by kernel_rfl) (by kernel_rfl) (by kernel_rfl) (by intro _ _ _ h;exact h) (Or.inl ⟨by rfl,?hy23⟩) hHeld ?rest23
 case hy23=>(intro w hSw;clear hSw;go_simp;try with_reducible rfl)
 try simp only [Act.put,List.setIfInBounds_toArray,List.set_cons_zero,List.set_cons_succ]
 refine' wpAnyH_take (i:=24) (v:=?_) (by simp only [List.getElem?_toArray,List.getElem?_cons_succ,List.getElem?_cons_zero];rfl) (by kernel_rfl) (by kernel_rfl) (by kernel_rfl) (by intro _ _ _ h;exact h) (Or.inl ⟨by rfl,?hy24⟩) hHeld ?rest24
 case hy24=>(intro w hSw;obtain ⟨hSa,hSb,hSm⟩:=hSw;obtain ⟨⟨c0,c1,c2,c3,c4,c5,c6,c7,c8,c9,c10⟩,-⟩:=cellsH hSa;obtain ⟨⟨d0,d1,d2,d3,d4,d5,d6,d7,d8,d9,d10⟩,-⟩:=cellsH hSb;clear hSa hSb;go_simp;try with_reducible rfl)
 try simp only [Act.put,List.setIfInBounds_toArray,List.set_cons_zero,List.set_cons_succ]
 refine' wpAnyH_take (i:=25) (v:=?_) (by simp only [List.getElem?_toArray,List.getElem?_cons_succ,List.getElem?_cons_zero];rfl) (by kernel_rfl) (by kernel_rfl) (by kernel_rfl) (by intro _ _ _ h;exact h) (Or.inl ⟨by rfl,?hy25⟩) hHeld ?rest25
 case hy25=>(intro w hSw;obtain ⟨hSa,hSb,hSm⟩:=hSw;obtain ⟨⟨c0,c1,c2,c3,c4,c5,c6,c7,c8,c9,c10⟩,-⟩:=cellsH hSa;obtain ⟨⟨d0,d1,d2,d3,d4,d5,d6,d7,d8,d9,d10⟩,-⟩:=cellsH hSb;clear hSa hSb;go_simp;try with_reducible rfl)
 try simp only [Act.put,List.setIfInBounds_toArray,List.set_cons_zero,List.set_cons_succ]
 refine' wpAnyH_take (i:=26) (v:=?_) (by simp only [List.getElem?_toArray,List.getElem?_cons_succ,List.getElem?_cons_zero];rfl) (by kernel_rfl) (by kernel_rfl) (by kernel_rfl) (by intro _ _ _ h;exact h) (Or.inl ⟨by rfl,?hy26⟩) hHeld ?rest26
 case hy26=>(intro w hSw;clear hSw;go_simp;try with_reducible rfl)
 try simp only [Act.put,List.setIfInBounds_toArray,List.set_cons_zero,List.set_cons_succ]
 refine' wpAnyH_take (i:=27) (v:=?_) (by simp only [List.getElem?_toArray,List.getElem?_cons_succ,List.getElem?_cons_zero];rfl) (by kernel_rfl) (by kernel_rfl) (by kernel_rfl) (by intro _ _ _ h;exact h) (Or.inl ⟨by rfl,?hy27⟩) hHeld ?rest27
 case hy27=>(intro w hSw;clear hSw;go_simp;try with_reducible rfl)
 try simp only [Act.put,List.setIfInBounds_toArray,List.set_cons_zero,List.set_cons_succ]
 refine' wpAnyH_take (i:=28) (v:=?_) (by simp only [List.getElem?_toArray,List.getElem?_cons_succ,List.getElem?_cons_zero];rfl) (by kernel_rfl) (by kernel_rfl) (by kernel_rfl) (by intro _ _ _ h;exact h) (Or.inl ⟨by rfl,?hy28⟩) hHeld ?rest28
 case hy28=>(intro w hSw;clear hSw;go_simp;try with_reducible rfl)
 try simp only [Act.put,List.setIfInBounds_toArray,List.set_cons_zero,List.set_cons_succ]
 refine' wpAnyH_take (i:=29) (v:=?_) (by simp only [List.getElem?_toArray,List.getElem?_cons_succ,List.getElem?_cons_zero];rfl) (by kernel_rfl) (by kernel_rfl) (by kernel_rfl) (by intro _ _ _ h;exact h) (Or.inl ⟨by rfl,?hy29⟩) hHeld ?rest29
 case hy29=>(intro w hSw;clear hSw;go_simp;try with_reducible rfl)
 try simp only [Act.put,List.setIfInBounds_toArray,List.set_cons_zero,List.set_cons_succ]
 refine wpAnyH_done (by kernel_rfl) ?_ _
 go_wp2_with fail
 go_ret
 exact ⟨by first | rfl | simp,HBx.out⟩
theorem hostKeys_walk (k:Int) (s:ByteArray) (n p0 p1 p2 p3 p4 p5 p6 p7:Nat) (k':Int) (s':ByteArray) (n' q0 q1 q2 q3 q4 q5 q6 q7:Nat) (w:World) (T0:TabH w) (hs:s.size≤maxLen) (hn:n < 4294967296) (hx:∀x∈[p0,p1,p2,p3,p4,p5,p6,p7],x < 65536) (hs':s'.size≤maxLen) (hn':n' < 4294967296) (hx':∀x∈[q0,q1,q2,q3,q4,q5,q6,q7],x < 65536) :
 Calls Tryz.prog 7 #[hostV k s n p0 p1 p2 p3 p4 p5 p6 p7,hostV k' s' n' q0 q1 q2 q3 q4 q5 q6 q7] w fun e w'=>e=.returned (.bool true)∧Below w.heap.size w w':=by
 by_cases h5:s.size≤5000
 ·by_cases h6:s'.size≤5000
  ·cases hm:mayR (k,s.data.toList,n,[p0,p1,p2,p3,p4,p5,p6,p7])
   ·exact hostKeys_m1 k s n p0 p1 p2 p3 p4 p5 p6 p7 k' s' n' q0 q1 q2 q3 q4 q5 q6 q7 w T0 h5 h6 hn hx hn' hx' hm
   ·cases hm2:mayR (k',s'.data.toList,n',[q0,q1,q2,q3,q4,q5,q6,q7])
    ·exact hostKeys_m2 k s n p0 p1 p2 p3 p4 p5 p6 p7 k' s' n' q0 q1 q2 q3 q4 q5 q6 q7 w T0 h5 h6 hn hx hn' hx' hm hm2
    ·by_cases hne:((k,s.data.toList,n,[p0,p1,p2,p3,p4,p5,p6,p7]):HostN)=((k',s'.data.toList,n',[q0,q1,q2,q3,q4,q5,q6,q7]):HostN)
     ·simp only [Prod.mk.injEq,List.cons.injEq,and_true] at hne
      obtain ⟨rfl,hd,rfl,rfl,rfl,rfl,rfl,rfl,rfl,rfl,rfl⟩:=hne
      have hss:s'=s:=ByteArray.ext (Array.toList_inj.1 hd.symm)
      subst hss
      exact hostKeys_same _ _ _ _ _ _ _ _ _ _ _ w T0 h5 h6 hn hx hn' hx' hm hm2
     ·by_cases hk:k=k'
      ·exact hostKeys_text k s n p0 p1 p2 p3 p4 p5 p6 p7 k' s' n' q0 q1 q2 q3 q4 q5 q6 q7 w T0 h5 h6 hn hx hn' hx' hm hm2 hne hk
      ·exact hostKeys_kind k s n p0 p1 p2 p3 p4 p5 p6 p7 k' s' n' q0 q1 q2 q3 q4 q5 q6 q7 w T0 h5 h6 hn hx hn' hx' hm hm2 hne hk
  ·exact hostKeys_f2 k s n p0 p1 p2 p3 p4 p5 p6 p7 k' s' n' q0 q1 q2 q3 q4 q5 q6 q7 w T0 h5 h6
 ·exact hostKeys_f1 k s n p0 p1 p2 p3 p4 p5 p6 p7 k' s' n' q0 q1 q2 q3 q4 q5 q6 q7 w T0 h5
end Go.Proofs.YtpohekldddbneaaGreatDoor
