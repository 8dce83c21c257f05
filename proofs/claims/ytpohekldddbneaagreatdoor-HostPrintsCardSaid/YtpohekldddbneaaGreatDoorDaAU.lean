import Derived.Test.YtpohekldddbneaaGreatDoorDaAT
import Derived.Test.YtpohekldddbneaaGreatDoorDaAB
set_option linter.unusedVariables false
set_option linter.unusedSimpArgs false
set_option maxRecDepth 20000
set_option maxHeartbeats 16000000
namespace Go.Proofs.YtpohekldddbneaaGreatDoor
open Go.RowKit
theorem small_p2 (c:Int) (w:World) (h1:0≤c) (h2:c≤64) (hp:c.tmod 2=0):Calls Tryz.prog 126 #[.int .i64 c] w fun e w'=>e=.returned (.int .i64 (smallR c))∧w'=w:=by
 have HV:Hid (smallR c=0):=by
  show _=_
  have e0:=win_no (c:=c) (lo:=65) (hi:=90) (by omega)
  have e1:=win_no (c:=c) (lo:=192) (hi:=222) (by omega)
  have e2:=win_no (c:=c) (lo:=913) (hi:=937) (by omega)
  have e3:=win_no (c:=c) (lo:=1040) (hi:=1071) (by omega)
  have e4:=win_no (c:=c) (lo:=1024) (hi:=1039) (by omega)
  have e5:=win_no (c:=c) (lo:=256) (hi:=311) (by omega)
  have e6:=win_no (c:=c) (lo:=330) (hi:=375) (by omega)
  have e7:=win_no (c:=c) (lo:=313) (hi:=328) (by omega)
  have e8:=win_no (c:=c) (lo:=377) (hi:=382) (by omega)
  have b215:(c==215)=false:=bN (by omega)
  have b930:(c==930)=false:=bN (by omega)
  have b304:(c==304)=false:=bN (by omega)
  have b376:(c==376)=false:=bN (by omega)
  have b383:(c==383)=false:=bN (by omega)
  have pe:c%2=0:=by rw [← hp,Int.tmod_eq_emod_of_nonneg (by omega)]
  simp only [smallR,bne,e0,e1,e2,e3,e4,e5,e6,e7,e8,b215,b930,b304,b376,b383,pe]
  first | done | rfl | simp
 have HH:=hid (And.intro h1 h2)
 have t376:(c==376)=false:=by rw [beq_eq_false_iff_ne];have:=HH.out;omega
 have t383:(c==383)=false:=by rw [beq_eq_false_iff_ne];have:=HH.out;omega
 clear h1 h2
 go_enter Tryz.func126,Tryz.ntmps126
 go_wp2_with fail
 refine (within_f c 65 90 _ (by have:=HH.out;omega)).mono ?_
 rintro e _ ⟨rfl,rfl⟩
 go_wp2_with fail
 refine (within_f c 192 222 _ (by have:=HH.out;omega)).mono ?_
 rintro e _ ⟨rfl,rfl⟩
 go_wp2_with fail
 refine (within_f c 913 937 _ (by have:=HH.out;omega)).mono ?_
 rintro e _ ⟨rfl,rfl⟩
 go_wp2_with fail
 refine (within_f c 1040 1071 _ (by have:=HH.out;omega)).mono ?_
 rintro e _ ⟨rfl,rfl⟩
 go_wp2_with fail
 refine (within_f c 1024 1039 _ (by have:=HH.out;omega)).mono ?_
 rintro e _ ⟨rfl,rfl⟩
 go_wp2_with fail
 refine (within_f c 256 311 _ (by have:=HH.out;omega)).mono ?_
 rintro e _ ⟨rfl,rfl⟩
 go_wp2_with fail
 refine (within_f c 330 375 _ (by have:=HH.out;omega)).mono ?_
 rintro e _ ⟨rfl,rfl⟩
 go_wp2_with fail
 go_ret
 exact ⟨by rw [HV.out];rfl,rfl⟩
theorem small_p6 (c:Int) (w:World) (h1:91≤c) (h2:c≤191) (hp:c.tmod 2=1):Calls Tryz.prog 126 #[.int .i64 c] w fun e w'=>e=.returned (.int .i64 (smallR c))∧w'=w:=by
 have HV:Hid (smallR c=0):=by
  show _=_
  have e0:=win_no (c:=c) (lo:=65) (hi:=90) (by omega)
  have e1:=win_no (c:=c) (lo:=192) (hi:=222) (by omega)
  have e2:=win_no (c:=c) (lo:=913) (hi:=937) (by omega)
  have e3:=win_no (c:=c) (lo:=1040) (hi:=1071) (by omega)
  have e4:=win_no (c:=c) (lo:=1024) (hi:=1039) (by omega)
  have e5:=win_no (c:=c) (lo:=256) (hi:=311) (by omega)
  have e6:=win_no (c:=c) (lo:=330) (hi:=375) (by omega)
  have e7:=win_no (c:=c) (lo:=313) (hi:=328) (by omega)
  have e8:=win_no (c:=c) (lo:=377) (hi:=382) (by omega)
  have b215:(c==215)=false:=bN (by omega)
  have b930:(c==930)=false:=bN (by omega)
  have b304:(c==304)=false:=bN (by omega)
  have b376:(c==376)=false:=bN (by omega)
  have b383:(c==383)=false:=bN (by omega)
  have pe:c%2=1:=by rw [← hp,Int.tmod_eq_emod_of_nonneg (by omega)]
  simp only [smallR,bne,e0,e1,e2,e3,e4,e5,e6,e7,e8,b215,b930,b304,b376,b383,pe]
  first | done | rfl | simp
 have HH:=hid (And.intro h1 h2)
 have t376:(c==376)=false:=by rw [beq_eq_false_iff_ne];have:=HH.out;omega
 have t383:(c==383)=false:=by rw [beq_eq_false_iff_ne];have:=HH.out;omega
 clear h1 h2
 go_enter Tryz.func126,Tryz.ntmps126
 go_wp2_with fail
 refine (within_f c 65 90 _ (by have:=HH.out;omega)).mono ?_
 rintro e _ ⟨rfl,rfl⟩
 go_wp2_with fail
 refine (within_f c 192 222 _ (by have:=HH.out;omega)).mono ?_
 rintro e _ ⟨rfl,rfl⟩
 go_wp2_with fail
 refine (within_f c 913 937 _ (by have:=HH.out;omega)).mono ?_
 rintro e _ ⟨rfl,rfl⟩
 go_wp2_with fail
 refine (within_f c 1040 1071 _ (by have:=HH.out;omega)).mono ?_
 rintro e _ ⟨rfl,rfl⟩
 go_wp2_with fail
 refine (within_f c 1024 1039 _ (by have:=HH.out;omega)).mono ?_
 rintro e _ ⟨rfl,rfl⟩
 go_wp2_with fail
 refine (within_f c 313 328 _ (by have:=HH.out;omega)).mono ?_
 rintro e _ ⟨rfl,rfl⟩
 go_wp2_with fail
 refine (within_f c 377 382 _ (by have:=HH.out;omega)).mono ?_
 rintro e _ ⟨rfl,rfl⟩
 go_wp2_with fail
 go_ret
 exact ⟨by rw [HV.out];rfl,rfl⟩
theorem small_p10 (c:Int) (w:World) (h1:223≤c) (h2:c≤255) (hp:c.tmod 2=0):Calls Tryz.prog 126 #[.int .i64 c] w fun e w'=>e=.returned (.int .i64 (smallR c))∧w'=w:=by
 have HV:Hid (smallR c=0):=by
  show _=_
  have e0:=win_no (c:=c) (lo:=65) (hi:=90) (by omega)
  have e1:=win_no (c:=c) (lo:=192) (hi:=222) (by omega)
  have e2:=win_no (c:=c) (lo:=913) (hi:=937) (by omega)
  have e3:=win_no (c:=c) (lo:=1040) (hi:=1071) (by omega)
  have e4:=win_no (c:=c) (lo:=1024) (hi:=1039) (by omega)
  have e5:=win_no (c:=c) (lo:=256) (hi:=311) (by omega)
  have e6:=win_no (c:=c) (lo:=330) (hi:=375) (by omega)
  have e7:=win_no (c:=c) (lo:=313) (hi:=328) (by omega)
  have e8:=win_no (c:=c) (lo:=377) (hi:=382) (by omega)
  have b215:(c==215)=false:=bN (by omega)
  have b930:(c==930)=false:=bN (by omega)
  have b304:(c==304)=false:=bN (by omega)
  have b376:(c==376)=false:=bN (by omega)
  have b383:(c==383)=false:=bN (by omega)
  have pe:c%2=0:=by rw [← hp,Int.tmod_eq_emod_of_nonneg (by omega)]
  simp only [smallR,bne,e0,e1,e2,e3,e4,e5,e6,e7,e8,b215,b930,b304,b376,b383,pe]
  first | done | rfl | simp
 have HH:=hid (And.intro h1 h2)
 have t376:(c==376)=false:=by rw [beq_eq_false_iff_ne];have:=HH.out;omega
 have t383:(c==383)=false:=by rw [beq_eq_false_iff_ne];have:=HH.out;omega
 clear h1 h2
 go_enter Tryz.func126,Tryz.ntmps126
 go_wp2_with fail
 refine (within_f c 65 90 _ (by have:=HH.out;omega)).mono ?_
 rintro e _ ⟨rfl,rfl⟩
 go_wp2_with fail
 refine (within_f c 192 222 _ (by have:=HH.out;omega)).mono ?_
 rintro e _ ⟨rfl,rfl⟩
 go_wp2_with fail
 refine (within_f c 913 937 _ (by have:=HH.out;omega)).mono ?_
 rintro e _ ⟨rfl,rfl⟩
 go_wp2_with fail
 refine (within_f c 1040 1071 _ (by have:=HH.out;omega)).mono ?_
 rintro e _ ⟨rfl,rfl⟩
 go_wp2_with fail
 refine (within_f c 1024 1039 _ (by have:=HH.out;omega)).mono ?_
 rintro e _ ⟨rfl,rfl⟩
 go_wp2_with fail
 refine (within_f c 256 311 _ (by have:=HH.out;omega)).mono ?_
 rintro e _ ⟨rfl,rfl⟩
 go_wp2_with fail
 refine (within_f c 330 375 _ (by have:=HH.out;omega)).mono ?_
 rintro e _ ⟨rfl,rfl⟩
 go_wp2_with fail
 go_ret
 exact ⟨by rw [HV.out];rfl,rfl⟩
theorem small_p14 (w:World):Calls Tryz.prog 126 #[.int .i64 304] w fun e w'=>e=.returned (.int .i64 (smallR 304))∧w'=w:=by
 have HV:Hid (smallR 304=0):=by show _=_;decide +kernel
 go_enter Tryz.func126,Tryz.ntmps126
 go_wp2_with fail
 refine (within_f 304 65 90 _ (by decide)).mono ?_
 rintro e _ ⟨rfl,rfl⟩
 go_wp2_with fail
 refine (within_f 304 192 222 _ (by decide)).mono ?_
 rintro e _ ⟨rfl,rfl⟩
 go_wp2_with fail
 refine (within_f 304 913 937 _ (by decide)).mono ?_
 rintro e _ ⟨rfl,rfl⟩
 go_wp2_with fail
 refine (within_f 304 1040 1071 _ (by decide)).mono ?_
 rintro e _ ⟨rfl,rfl⟩
 go_wp2_with fail
 refine (within_f 304 1024 1039 _ (by decide)).mono ?_
 rintro e _ ⟨rfl,rfl⟩
 go_wp2_with fail
 refine (within_t 304 256 311 _ (by decide) (by decide)).mono ?_
 rintro e _ ⟨rfl,rfl⟩
 go_wp2_with fail
 refine (within_f 304 330 375 _ (by decide)).mono ?_
 rintro e _ ⟨rfl,rfl⟩
 go_wp2_with fail
 go_ret
 exact ⟨by rw [HV.out];rfl,rfl⟩
theorem small_p18 (c:Int) (w:World) (h1:313≤c) (h2:c≤328) (hp:c.tmod 2=0):Calls Tryz.prog 126 #[.int .i64 c] w fun e w'=>e=.returned (.int .i64 (smallR c))∧w'=w:=by
 have HV:Hid (smallR c=0):=by
  show _=_
  have e0:=win_no (c:=c) (lo:=65) (hi:=90) (by omega)
  have e1:=win_no (c:=c) (lo:=192) (hi:=222) (by omega)
  have e2:=win_no (c:=c) (lo:=913) (hi:=937) (by omega)
  have e3:=win_no (c:=c) (lo:=1040) (hi:=1071) (by omega)
  have e4:=win_no (c:=c) (lo:=1024) (hi:=1039) (by omega)
  have e5:=win_no (c:=c) (lo:=256) (hi:=311) (by omega)
  have e6:=win_no (c:=c) (lo:=330) (hi:=375) (by omega)
  have e7:=win_yes (c:=c) (lo:=313) (hi:=328) (by omega) (by omega)
  have e8:=win_no (c:=c) (lo:=377) (hi:=382) (by omega)
  have b215:(c==215)=false:=bN (by omega)
  have b930:(c==930)=false:=bN (by omega)
  have b304:(c==304)=false:=bN (by omega)
  have b376:(c==376)=false:=bN (by omega)
  have b383:(c==383)=false:=bN (by omega)
  have pe:c%2=0:=by rw [← hp,Int.tmod_eq_emod_of_nonneg (by omega)]
  simp only [smallR,bne,e0,e1,e2,e3,e4,e5,e6,e7,e8,b215,b930,b304,b376,b383,pe]
  first | done | rfl | simp
 have HH:=hid (And.intro h1 h2)
 have t376:(c==376)=false:=by rw [beq_eq_false_iff_ne];have:=HH.out;omega
 have t383:(c==383)=false:=by rw [beq_eq_false_iff_ne];have:=HH.out;omega
 clear h1 h2
 go_enter Tryz.func126,Tryz.ntmps126
 go_wp2_with fail
 refine (within_f c 65 90 _ (by have:=HH.out;omega)).mono ?_
 rintro e _ ⟨rfl,rfl⟩
 go_wp2_with fail
 refine (within_f c 192 222 _ (by have:=HH.out;omega)).mono ?_
 rintro e _ ⟨rfl,rfl⟩
 go_wp2_with fail
 refine (within_f c 913 937 _ (by have:=HH.out;omega)).mono ?_
 rintro e _ ⟨rfl,rfl⟩
 go_wp2_with fail
 refine (within_f c 1040 1071 _ (by have:=HH.out;omega)).mono ?_
 rintro e _ ⟨rfl,rfl⟩
 go_wp2_with fail
 refine (within_f c 1024 1039 _ (by have:=HH.out;omega)).mono ?_
 rintro e _ ⟨rfl,rfl⟩
 go_wp2_with fail
 refine (within_f c 256 311 _ (by have:=HH.out;omega)).mono ?_
 rintro e _ ⟨rfl,rfl⟩
 go_wp2_with fail
 refine (within_f c 330 375 _ (by have:=HH.out;omega)).mono ?_
 rintro e _ ⟨rfl,rfl⟩
 go_wp2_with fail
 go_ret
 exact ⟨by rw [HV.out];rfl,rfl⟩
theorem small_p22 (c:Int) (w:World) (h1:330≤c) (h2:c≤375) (hp:c.tmod 2=1):Calls Tryz.prog 126 #[.int .i64 c] w fun e w'=>e=.returned (.int .i64 (smallR c))∧w'=w:=by
 have HV:Hid (smallR c=0):=by
  show _=_
  have e0:=win_no (c:=c) (lo:=65) (hi:=90) (by omega)
  have e1:=win_no (c:=c) (lo:=192) (hi:=222) (by omega)
  have e2:=win_no (c:=c) (lo:=913) (hi:=937) (by omega)
  have e3:=win_no (c:=c) (lo:=1040) (hi:=1071) (by omega)
  have e4:=win_no (c:=c) (lo:=1024) (hi:=1039) (by omega)
  have e5:=win_no (c:=c) (lo:=256) (hi:=311) (by omega)
  have e6:=win_yes (c:=c) (lo:=330) (hi:=375) (by omega) (by omega)
  have e7:=win_no (c:=c) (lo:=313) (hi:=328) (by omega)
  have e8:=win_no (c:=c) (lo:=377) (hi:=382) (by omega)
  have b215:(c==215)=false:=bN (by omega)
  have b930:(c==930)=false:=bN (by omega)
  have b304:(c==304)=false:=bN (by omega)
  have b376:(c==376)=false:=bN (by omega)
  have b383:(c==383)=false:=bN (by omega)
  have pe:c%2=1:=by rw [← hp,Int.tmod_eq_emod_of_nonneg (by omega)]
  simp only [smallR,bne,e0,e1,e2,e3,e4,e5,e6,e7,e8,b215,b930,b304,b376,b383,pe]
  first | done | rfl | simp
 have HH:=hid (And.intro h1 h2)
 have t376:(c==376)=false:=by rw [beq_eq_false_iff_ne];have:=HH.out;omega
 have t383:(c==383)=false:=by rw [beq_eq_false_iff_ne];have:=HH.out;omega
 clear h1 h2
 go_enter Tryz.func126,Tryz.ntmps126
 go_wp2_with fail
 refine (within_f c 65 90 _ (by have:=HH.out;omega)).mono ?_
 rintro e _ ⟨rfl,rfl⟩
 go_wp2_with fail
 refine (within_f c 192 222 _ (by have:=HH.out;omega)).mono ?_
 rintro e _ ⟨rfl,rfl⟩
 go_wp2_with fail
 refine (within_f c 913 937 _ (by have:=HH.out;omega)).mono ?_
 rintro e _ ⟨rfl,rfl⟩
 go_wp2_with fail
 refine (within_f c 1040 1071 _ (by have:=HH.out;omega)).mono ?_
 rintro e _ ⟨rfl,rfl⟩
 go_wp2_with fail
 refine (within_f c 1024 1039 _ (by have:=HH.out;omega)).mono ?_
 rintro e _ ⟨rfl,rfl⟩
 go_wp2_with fail
 refine (within_f c 313 328 _ (by have:=HH.out;omega)).mono ?_
 rintro e _ ⟨rfl,rfl⟩
 go_wp2_with fail
 refine (within_f c 377 382 _ (by have:=HH.out;omega)).mono ?_
 rintro e _ ⟨rfl,rfl⟩
 go_wp2_with fail
 go_ret
 exact ⟨by rw [HV.out];rfl,rfl⟩
theorem small_p26 (w:World):Calls Tryz.prog 126 #[.int .i64 383] w fun e w'=>e=.returned (.int .i64 (smallR 383))∧w'=w:=by
 have HV:Hid (smallR 383=115):=by show _=_;decide +kernel
 go_enter Tryz.func126,Tryz.ntmps126
 go_wp2_with fail
 refine (within_f 383 65 90 _ (by decide)).mono ?_
 rintro e _ ⟨rfl,rfl⟩
 go_wp2_with fail
 refine (within_f 383 192 222 _ (by decide)).mono ?_
 rintro e _ ⟨rfl,rfl⟩
 go_wp2_with fail
 refine (within_f 383 913 937 _ (by decide)).mono ?_
 rintro e _ ⟨rfl,rfl⟩
 go_wp2_with fail
 refine (within_f 383 1040 1071 _ (by decide)).mono ?_
 rintro e _ ⟨rfl,rfl⟩
 go_wp2_with fail
 refine (within_f 383 1024 1039 _ (by decide)).mono ?_
 rintro e _ ⟨rfl,rfl⟩
 go_wp2_with fail
 refine (within_f 383 313 328 _ (by decide)).mono ?_
 rintro e _ ⟨rfl,rfl⟩
 go_wp2_with fail
 refine (within_f 383 377 382 _ (by decide)).mono ?_
 rintro e _ ⟨rfl,rfl⟩
 go_wp2_with fail
 go_ret
 exact ⟨by rw [HV.out];rfl,rfl⟩
theorem small_p30 (w:World):Calls Tryz.prog 126 #[.int .i64 930] w fun e w'=>e=.returned (.int .i64 (smallR 930))∧w'=w:=by
 have HV:Hid (smallR 930=0):=by show _=_;decide +kernel
 go_enter Tryz.func126,Tryz.ntmps126
 go_wp2_with fail
 refine (within_f 930 65 90 _ (by decide)).mono ?_
 rintro e _ ⟨rfl,rfl⟩
 go_wp2_with fail
 refine (within_f 930 192 222 _ (by decide)).mono ?_
 rintro e _ ⟨rfl,rfl⟩
 go_wp2_with fail
 refine (within_t 930 913 937 _ (by decide) (by decide)).mono ?_
 rintro e _ ⟨rfl,rfl⟩
 go_wp2_with fail
 refine (within_f 930 1040 1071 _ (by decide)).mono ?_
 rintro e _ ⟨rfl,rfl⟩
 go_wp2_with fail
 refine (within_f 930 1024 1039 _ (by decide)).mono ?_
 rintro e _ ⟨rfl,rfl⟩
 go_wp2_with fail
 refine (within_f 930 256 311 _ (by decide)).mono ?_
 rintro e _ ⟨rfl,rfl⟩
 go_wp2_with fail
 refine (within_f 930 330 375 _ (by decide)).mono ?_
 rintro e _ ⟨rfl,rfl⟩
 go_wp2_with fail
 go_ret
 exact ⟨by rw [HV.out];rfl,rfl⟩
theorem small_p34 (c:Int) (w:World) (h1:1024≤c) (h2:c≤1039):Calls Tryz.prog 126 #[.int .i64 c] w fun e w'=>e=.returned (.int .i64 (smallR c))∧w'=w:=by
 have HV:Hid (smallR c=c+80):=by
  show _=_
  have e0:=win_no (c:=c) (lo:=65) (hi:=90) (by omega)
  have e1:=win_no (c:=c) (lo:=192) (hi:=222) (by omega)
  have e2:=win_no (c:=c) (lo:=913) (hi:=937) (by omega)
  have e3:=win_no (c:=c) (lo:=1040) (hi:=1071) (by omega)
  have e4:=win_yes (c:=c) (lo:=1024) (hi:=1039) (by omega) (by omega)
  have e5:=win_no (c:=c) (lo:=256) (hi:=311) (by omega)
  have e6:=win_no (c:=c) (lo:=330) (hi:=375) (by omega)
  have e7:=win_no (c:=c) (lo:=313) (hi:=328) (by omega)
  have e8:=win_no (c:=c) (lo:=377) (hi:=382) (by omega)
  have b215:(c==215)=false:=bN (by omega)
  have b930:(c==930)=false:=bN (by omega)
  have b304:(c==304)=false:=bN (by omega)
  have b376:(c==376)=false:=bN (by omega)
  have b383:(c==383)=false:=bN (by omega)
  simp only [smallR,bne,e0,e1,e2,e3,e4,e5,e6,e7,e8,b215,b930,b304,b376,b383]
  first | done | rfl | simp
 have HH:=hid (And.intro h1 h2)
 go_enter Tryz.func126,Tryz.ntmps126
 go_wp2_with fail
 refine (within_f c 65 90 _ (by have:=HH.out;omega)).mono ?_
 rintro e _ ⟨rfl,rfl⟩
 go_wp2_with fail
 refine (within_f c 192 222 _ (by have:=HH.out;omega)).mono ?_
 rintro e _ ⟨rfl,rfl⟩
 go_wp2_with fail
 refine (within_f c 913 937 _ (by have:=HH.out;omega)).mono ?_
 rintro e _ ⟨rfl,rfl⟩
 go_wp2_with fail
 refine (within_f c 1040 1071 _ (by have:=HH.out;omega)).mono ?_
 rintro e _ ⟨rfl,rfl⟩
 go_wp2_with fail
 refine (within_t c 1024 1039 _ (by have:=HH.out;omega) (by have:=HH.out;omega)).mono ?_
 rintro e _ ⟨rfl,rfl⟩
 go_wp2_with fail
 go_ret
 exact ⟨by rw [HV.out];rfl,rfl⟩
theorem small_p3 (c:Int) (w:World) (h1:0≤c) (h2:c≤64) (hp:c.tmod 2=1):Calls Tryz.prog 126 #[.int .i64 c] w fun e w'=>e=.returned (.int .i64 (smallR c))∧w'=w:=by
 have HV:Hid (smallR c=0):=by
  show _=_
  have e0:=win_no (c:=c) (lo:=65) (hi:=90) (by omega)
  have e1:=win_no (c:=c) (lo:=192) (hi:=222) (by omega)
  have e2:=win_no (c:=c) (lo:=913) (hi:=937) (by omega)
  have e3:=win_no (c:=c) (lo:=1040) (hi:=1071) (by omega)
  have e4:=win_no (c:=c) (lo:=1024) (hi:=1039) (by omega)
  have e5:=win_no (c:=c) (lo:=256) (hi:=311) (by omega)
  have e6:=win_no (c:=c) (lo:=330) (hi:=375) (by omega)
  have e7:=win_no (c:=c) (lo:=313) (hi:=328) (by omega)
  have e8:=win_no (c:=c) (lo:=377) (hi:=382) (by omega)
  have b215:(c==215)=false:=bN (by omega)
  have b930:(c==930)=false:=bN (by omega)
  have b304:(c==304)=false:=bN (by omega)
  have b376:(c==376)=false:=bN (by omega)
  have b383:(c==383)=false:=bN (by omega)
  have pe:c%2=1:=by rw [← hp,Int.tmod_eq_emod_of_nonneg (by omega)]
  simp only [smallR,bne,e0,e1,e2,e3,e4,e5,e6,e7,e8,b215,b930,b304,b376,b383,pe]
  first | done | rfl | simp
 have HH:=hid (And.intro h1 h2)
 have t376:(c==376)=false:=by rw [beq_eq_false_iff_ne];have:=HH.out;omega
 have t383:(c==383)=false:=by rw [beq_eq_false_iff_ne];have:=HH.out;omega
 clear h1 h2
 go_enter Tryz.func126,Tryz.ntmps126
 go_wp2_with fail
 refine (within_f c 65 90 _ (by have:=HH.out;omega)).mono ?_
 rintro e _ ⟨rfl,rfl⟩
 go_wp2_with fail
 refine (within_f c 192 222 _ (by have:=HH.out;omega)).mono ?_
 rintro e _ ⟨rfl,rfl⟩
 go_wp2_with fail
 refine (within_f c 913 937 _ (by have:=HH.out;omega)).mono ?_
 rintro e _ ⟨rfl,rfl⟩
 go_wp2_with fail
 refine (within_f c 1040 1071 _ (by have:=HH.out;omega)).mono ?_
 rintro e _ ⟨rfl,rfl⟩
 go_wp2_with fail
 refine (within_f c 1024 1039 _ (by have:=HH.out;omega)).mono ?_
 rintro e _ ⟨rfl,rfl⟩
 go_wp2_with fail
 refine (within_f c 313 328 _ (by have:=HH.out;omega)).mono ?_
 rintro e _ ⟨rfl,rfl⟩
 go_wp2_with fail
 refine (within_f c 377 382 _ (by have:=HH.out;omega)).mono ?_
 rintro e _ ⟨rfl,rfl⟩
 go_wp2_with fail
 go_ret
 exact ⟨by rw [HV.out];rfl,rfl⟩
theorem small_p7 (c:Int) (w:World) (h1:192≤c) (h2:c≤214):Calls Tryz.prog 126 #[.int .i64 c] w fun e w'=>e=.returned (.int .i64 (smallR c))∧w'=w:=by
 have HV:Hid (smallR c=c+32):=by
  show _=_
  have e0:=win_no (c:=c) (lo:=65) (hi:=90) (by omega)
  have e1:=win_yes (c:=c) (lo:=192) (hi:=222) (by omega) (by omega)
  have e2:=win_no (c:=c) (lo:=913) (hi:=937) (by omega)
  have e3:=win_no (c:=c) (lo:=1040) (hi:=1071) (by omega)
  have e4:=win_no (c:=c) (lo:=1024) (hi:=1039) (by omega)
  have e5:=win_no (c:=c) (lo:=256) (hi:=311) (by omega)
  have e6:=win_no (c:=c) (lo:=330) (hi:=375) (by omega)
  have e7:=win_no (c:=c) (lo:=313) (hi:=328) (by omega)
  have e8:=win_no (c:=c) (lo:=377) (hi:=382) (by omega)
  have b215:(c==215)=false:=bN (by omega)
  have b930:(c==930)=false:=bN (by omega)
  have b304:(c==304)=false:=bN (by omega)
  have b376:(c==376)=false:=bN (by omega)
  have b383:(c==383)=false:=bN (by omega)
  simp only [smallR,bne,e0,e1,e2,e3,e4,e5,e6,e7,e8,b215,b930,b304,b376,b383]
  first | done | rfl | simp
 have HH:=hid (And.intro h1 h2)
 have t215:(c==215)=false:=by rw [beq_eq_false_iff_ne];have:=HH.out;omega
 go_enter Tryz.func126,Tryz.ntmps126
 go_wp2_with fail
 refine (within_f c 65 90 _ (by have:=HH.out;omega)).mono ?_
 rintro e _ ⟨rfl,rfl⟩
 go_wp2_with fail
 refine (within_t c 192 222 _ (by have:=HH.out;omega) (by have:=HH.out;omega)).mono ?_
 rintro e _ ⟨rfl,rfl⟩
 go_wp2_with fail
 go_ret
 exact ⟨by rw [HV.out];rfl,rfl⟩
theorem small_p11 (c:Int) (w:World) (h1:223≤c) (h2:c≤255) (hp:c.tmod 2=1):Calls Tryz.prog 126 #[.int .i64 c] w fun e w'=>e=.returned (.int .i64 (smallR c))∧w'=w:=by
 have HV:Hid (smallR c=0):=by
  show _=_
  have e0:=win_no (c:=c) (lo:=65) (hi:=90) (by omega)
  have e1:=win_no (c:=c) (lo:=192) (hi:=222) (by omega)
  have e2:=win_no (c:=c) (lo:=913) (hi:=937) (by omega)
  have e3:=win_no (c:=c) (lo:=1040) (hi:=1071) (by omega)
  have e4:=win_no (c:=c) (lo:=1024) (hi:=1039) (by omega)
  have e5:=win_no (c:=c) (lo:=256) (hi:=311) (by omega)
  have e6:=win_no (c:=c) (lo:=330) (hi:=375) (by omega)
  have e7:=win_no (c:=c) (lo:=313) (hi:=328) (by omega)
  have e8:=win_no (c:=c) (lo:=377) (hi:=382) (by omega)
  have b215:(c==215)=false:=bN (by omega)
  have b930:(c==930)=false:=bN (by omega)
  have b304:(c==304)=false:=bN (by omega)
  have b376:(c==376)=false:=bN (by omega)
  have b383:(c==383)=false:=bN (by omega)
  have pe:c%2=1:=by rw [← hp,Int.tmod_eq_emod_of_nonneg (by omega)]
  simp only [smallR,bne,e0,e1,e2,e3,e4,e5,e6,e7,e8,b215,b930,b304,b376,b383,pe]
  first | done | rfl | simp
 have HH:=hid (And.intro h1 h2)
 have t376:(c==376)=false:=by rw [beq_eq_false_iff_ne];have:=HH.out;omega
 have t383:(c==383)=false:=by rw [beq_eq_false_iff_ne];have:=HH.out;omega
 clear h1 h2
 go_enter Tryz.func126,Tryz.ntmps126
 go_wp2_with fail
 refine (within_f c 65 90 _ (by have:=HH.out;omega)).mono ?_
 rintro e _ ⟨rfl,rfl⟩
 go_wp2_with fail
 refine (within_f c 192 222 _ (by have:=HH.out;omega)).mono ?_
 rintro e _ ⟨rfl,rfl⟩
 go_wp2_with fail
 refine (within_f c 913 937 _ (by have:=HH.out;omega)).mono ?_
 rintro e _ ⟨rfl,rfl⟩
 go_wp2_with fail
 refine (within_f c 1040 1071 _ (by have:=HH.out;omega)).mono ?_
 rintro e _ ⟨rfl,rfl⟩
 go_wp2_with fail
 refine (within_f c 1024 1039 _ (by have:=HH.out;omega)).mono ?_
 rintro e _ ⟨rfl,rfl⟩
 go_wp2_with fail
 refine (within_f c 313 328 _ (by have:=HH.out;omega)).mono ?_
 rintro e _ ⟨rfl,rfl⟩
 go_wp2_with fail
 refine (within_f c 377 382 _ (by have:=HH.out;omega)).mono ?_
 rintro e _ ⟨rfl,rfl⟩
 go_wp2_with fail
 go_ret
 exact ⟨by rw [HV.out];rfl,rfl⟩
theorem small_p15 (c:Int) (w:World) (h1:305≤c) (h2:c≤311) (hp:c.tmod 2=0):Calls Tryz.prog 126 #[.int .i64 c] w fun e w'=>e=.returned (.int .i64 (smallR c))∧w'=w:=by
 have HV:Hid (smallR c=c+1):=by
  show _=_
  have e0:=win_no (c:=c) (lo:=65) (hi:=90) (by omega)
  have e1:=win_no (c:=c) (lo:=192) (hi:=222) (by omega)
  have e2:=win_no (c:=c) (lo:=913) (hi:=937) (by omega)
  have e3:=win_no (c:=c) (lo:=1040) (hi:=1071) (by omega)
  have e4:=win_no (c:=c) (lo:=1024) (hi:=1039) (by omega)
  have e5:=win_yes (c:=c) (lo:=256) (hi:=311) (by omega) (by omega)
  have e6:=win_no (c:=c) (lo:=330) (hi:=375) (by omega)
  have e7:=win_no (c:=c) (lo:=313) (hi:=328) (by omega)
  have e8:=win_no (c:=c) (lo:=377) (hi:=382) (by omega)
  have b215:(c==215)=false:=bN (by omega)
  have b930:(c==930)=false:=bN (by omega)
  have b304:(c==304)=false:=bN (by omega)
  have b376:(c==376)=false:=bN (by omega)
  have b383:(c==383)=false:=bN (by omega)
  have pe:c%2=0:=by rw [← hp,Int.tmod_eq_emod_of_nonneg (by omega)]
  simp only [smallR,bne,e0,e1,e2,e3,e4,e5,e6,e7,e8,b215,b930,b304,b376,b383,pe]
  first | done | rfl | simp
 have HH:=hid (And.intro h1 h2)
 have t304:(c==304)=false:=by rw [beq_eq_false_iff_ne];have:=HH.out;omega
 go_enter Tryz.func126,Tryz.ntmps126
 go_wp2_with fail
 refine (within_f c 65 90 _ (by have:=HH.out;omega)).mono ?_
 rintro e _ ⟨rfl,rfl⟩
 go_wp2_with fail
 refine (within_f c 192 222 _ (by have:=HH.out;omega)).mono ?_
 rintro e _ ⟨rfl,rfl⟩
 go_wp2_with fail
 refine (within_f c 913 937 _ (by have:=HH.out;omega)).mono ?_
 rintro e _ ⟨rfl,rfl⟩
 go_wp2_with fail
 refine (within_f c 1040 1071 _ (by have:=HH.out;omega)).mono ?_
 rintro e _ ⟨rfl,rfl⟩
 go_wp2_with fail
 refine (within_f c 1024 1039 _ (by have:=HH.out;omega)).mono ?_
 rintro e _ ⟨rfl,rfl⟩
 go_wp2_with fail
 refine (within_t c 256 311 _ (by have:=HH.out;omega) (by have:=HH.out;omega)).mono ?_
 rintro e _ ⟨rfl,rfl⟩
 go_wp2_with fail
 go_ret
 exact ⟨by rw [HV.out];rfl,rfl⟩
theorem small_p19 (c:Int) (w:World) (h1:313≤c) (h2:c≤328) (hp:c.tmod 2=1):Calls Tryz.prog 126 #[.int .i64 c] w fun e w'=>e=.returned (.int .i64 (smallR c))∧w'=w:=by
 have HV:Hid (smallR c=c+1):=by
  show _=_
  have e0:=win_no (c:=c) (lo:=65) (hi:=90) (by omega)
  have e1:=win_no (c:=c) (lo:=192) (hi:=222) (by omega)
  have e2:=win_no (c:=c) (lo:=913) (hi:=937) (by omega)
  have e3:=win_no (c:=c) (lo:=1040) (hi:=1071) (by omega)
  have e4:=win_no (c:=c) (lo:=1024) (hi:=1039) (by omega)
  have e5:=win_no (c:=c) (lo:=256) (hi:=311) (by omega)
  have e6:=win_no (c:=c) (lo:=330) (hi:=375) (by omega)
  have e7:=win_yes (c:=c) (lo:=313) (hi:=328) (by omega) (by omega)
  have e8:=win_no (c:=c) (lo:=377) (hi:=382) (by omega)
  have b215:(c==215)=false:=bN (by omega)
  have b930:(c==930)=false:=bN (by omega)
  have b304:(c==304)=false:=bN (by omega)
  have b376:(c==376)=false:=bN (by omega)
  have b383:(c==383)=false:=bN (by omega)
  have pe:c%2=1:=by rw [← hp,Int.tmod_eq_emod_of_nonneg (by omega)]
  simp only [smallR,bne,e0,e1,e2,e3,e4,e5,e6,e7,e8,b215,b930,b304,b376,b383,pe]
  first | done | rfl | simp
 have HH:=hid (And.intro h1 h2)
 go_enter Tryz.func126,Tryz.ntmps126
 go_wp2_with fail
 refine (within_f c 65 90 _ (by have:=HH.out;omega)).mono ?_
 rintro e _ ⟨rfl,rfl⟩
 go_wp2_with fail
 refine (within_f c 192 222 _ (by have:=HH.out;omega)).mono ?_
 rintro e _ ⟨rfl,rfl⟩
 go_wp2_with fail
 refine (within_f c 913 937 _ (by have:=HH.out;omega)).mono ?_
 rintro e _ ⟨rfl,rfl⟩
 go_wp2_with fail
 refine (within_f c 1040 1071 _ (by have:=HH.out;omega)).mono ?_
 rintro e _ ⟨rfl,rfl⟩
 go_wp2_with fail
 refine (within_f c 1024 1039 _ (by have:=HH.out;omega)).mono ?_
 rintro e _ ⟨rfl,rfl⟩
 go_wp2_with fail
 refine (within_t c 313 328 _ (by have:=HH.out;omega) (by have:=HH.out;omega)).mono ?_
 rintro e _ ⟨rfl,rfl⟩
 go_wp2_with fail
 go_ret
 exact ⟨by rw [HV.out];rfl,rfl⟩
theorem small_p23 (w:World):Calls Tryz.prog 126 #[.int .i64 376] w fun e w'=>e=.returned (.int .i64 (smallR 376))∧w'=w:=by
 have HV:Hid (smallR 376=255):=by show _=_;decide +kernel
 go_enter Tryz.func126,Tryz.ntmps126
 go_wp2_with fail
 refine (within_f 376 65 90 _ (by decide)).mono ?_
 rintro e _ ⟨rfl,rfl⟩
 go_wp2_with fail
 refine (within_f 376 192 222 _ (by decide)).mono ?_
 rintro e _ ⟨rfl,rfl⟩
 go_wp2_with fail
 refine (within_f 376 913 937 _ (by decide)).mono ?_
 rintro e _ ⟨rfl,rfl⟩
 go_wp2_with fail
 refine (within_f 376 1040 1071 _ (by decide)).mono ?_
 rintro e _ ⟨rfl,rfl⟩
 go_wp2_with fail
 refine (within_f 376 1024 1039 _ (by decide)).mono ?_
 rintro e _ ⟨rfl,rfl⟩
 go_wp2_with fail
 refine (within_f 376 256 311 _ (by decide)).mono ?_
 rintro e _ ⟨rfl,rfl⟩
 go_wp2_with fail
 refine (within_f 376 330 375 _ (by decide)).mono ?_
 rintro e _ ⟨rfl,rfl⟩
 go_wp2_with fail
 go_ret
 exact ⟨by rw [HV.out];rfl,rfl⟩
theorem small_p27 (c:Int) (w:World) (h1:384≤c) (h2:c≤912) (hp:c.tmod 2=0):Calls Tryz.prog 126 #[.int .i64 c] w fun e w'=>e=.returned (.int .i64 (smallR c))∧w'=w:=by
 have HV:Hid (smallR c=0):=by
  show _=_
  have e0:=win_no (c:=c) (lo:=65) (hi:=90) (by omega)
  have e1:=win_no (c:=c) (lo:=192) (hi:=222) (by omega)
  have e2:=win_no (c:=c) (lo:=913) (hi:=937) (by omega)
  have e3:=win_no (c:=c) (lo:=1040) (hi:=1071) (by omega)
  have e4:=win_no (c:=c) (lo:=1024) (hi:=1039) (by omega)
  have e5:=win_no (c:=c) (lo:=256) (hi:=311) (by omega)
  have e6:=win_no (c:=c) (lo:=330) (hi:=375) (by omega)
  have e7:=win_no (c:=c) (lo:=313) (hi:=328) (by omega)
  have e8:=win_no (c:=c) (lo:=377) (hi:=382) (by omega)
  have b215:(c==215)=false:=bN (by omega)
  have b930:(c==930)=false:=bN (by omega)
  have b304:(c==304)=false:=bN (by omega)
  have b376:(c==376)=false:=bN (by omega)
  have b383:(c==383)=false:=bN (by omega)
  have pe:c%2=0:=by rw [← hp,Int.tmod_eq_emod_of_nonneg (by omega)]
  simp only [smallR,bne,e0,e1,e2,e3,e4,e5,e6,e7,e8,b215,b930,b304,b376,b383,pe]
  first | done | rfl | simp
 have HH:=hid (And.intro h1 h2)
 have t376:(c==376)=false:=by rw [beq_eq_false_iff_ne];have:=HH.out;omega
 have t383:(c==383)=false:=by rw [beq_eq_false_iff_ne];have:=HH.out;omega
 clear h1 h2
 go_enter Tryz.func126,Tryz.ntmps126
 go_wp2_with fail
 refine (within_f c 65 90 _ (by have:=HH.out;omega)).mono ?_
 rintro e _ ⟨rfl,rfl⟩
 go_wp2_with fail
 refine (within_f c 192 222 _ (by have:=HH.out;omega)).mono ?_
 rintro e _ ⟨rfl,rfl⟩
 go_wp2_with fail
 refine (within_f c 913 937 _ (by have:=HH.out;omega)).mono ?_
 rintro e _ ⟨rfl,rfl⟩
 go_wp2_with fail
 refine (within_f c 1040 1071 _ (by have:=HH.out;omega)).mono ?_
 rintro e _ ⟨rfl,rfl⟩
 go_wp2_with fail
 refine (within_f c 1024 1039 _ (by have:=HH.out;omega)).mono ?_
 rintro e _ ⟨rfl,rfl⟩
 go_wp2_with fail
 refine (within_f c 256 311 _ (by have:=HH.out;omega)).mono ?_
 rintro e _ ⟨rfl,rfl⟩
 go_wp2_with fail
 refine (within_f c 330 375 _ (by have:=HH.out;omega)).mono ?_
 rintro e _ ⟨rfl,rfl⟩
 go_wp2_with fail
 go_ret
 exact ⟨by rw [HV.out];rfl,rfl⟩
theorem small_p31 (c:Int) (w:World) (h1:931≤c) (h2:c≤937):Calls Tryz.prog 126 #[.int .i64 c] w fun e w'=>e=.returned (.int .i64 (smallR c))∧w'=w:=by
 have HV:Hid (smallR c=c+32):=by
  show _=_
  have e0:=win_no (c:=c) (lo:=65) (hi:=90) (by omega)
  have e1:=win_no (c:=c) (lo:=192) (hi:=222) (by omega)
  have e2:=win_yes (c:=c) (lo:=913) (hi:=937) (by omega) (by omega)
  have e3:=win_no (c:=c) (lo:=1040) (hi:=1071) (by omega)
  have e4:=win_no (c:=c) (lo:=1024) (hi:=1039) (by omega)
  have e5:=win_no (c:=c) (lo:=256) (hi:=311) (by omega)
  have e6:=win_no (c:=c) (lo:=330) (hi:=375) (by omega)
  have e7:=win_no (c:=c) (lo:=313) (hi:=328) (by omega)
  have e8:=win_no (c:=c) (lo:=377) (hi:=382) (by omega)
  have b215:(c==215)=false:=bN (by omega)
  have b930:(c==930)=false:=bN (by omega)
  have b304:(c==304)=false:=bN (by omega)
  have b376:(c==376)=false:=bN (by omega)
  have b383:(c==383)=false:=bN (by omega)
  simp only [smallR,bne,e0,e1,e2,e3,e4,e5,e6,e7,e8,b215,b930,b304,b376,b383]
  first | done | rfl | simp
 have HH:=hid (And.intro h1 h2)
 have t930:(c==930)=false:=by rw [beq_eq_false_iff_ne];have:=HH.out;omega
 go_enter Tryz.func126,Tryz.ntmps126
 go_wp2_with fail
 refine (within_f c 65 90 _ (by have:=HH.out;omega)).mono ?_
 rintro e _ ⟨rfl,rfl⟩
 go_wp2_with fail
 refine (within_f c 192 222 _ (by have:=HH.out;omega)).mono ?_
 rintro e _ ⟨rfl,rfl⟩
 go_wp2_with fail
 refine (within_t c 913 937 _ (by have:=HH.out;omega) (by have:=HH.out;omega)).mono ?_
 rintro e _ ⟨rfl,rfl⟩
 go_wp2_with fail
 go_ret
 exact ⟨by rw [HV.out];rfl,rfl⟩
theorem small_p35 (c:Int) (w:World) (h1:1040≤c) (h2:c≤1071):Calls Tryz.prog 126 #[.int .i64 c] w fun e w'=>e=.returned (.int .i64 (smallR c))∧w'=w:=by
 have HV:Hid (smallR c=c+32):=by
  show _=_
  have e0:=win_no (c:=c) (lo:=65) (hi:=90) (by omega)
  have e1:=win_no (c:=c) (lo:=192) (hi:=222) (by omega)
  have e2:=win_no (c:=c) (lo:=913) (hi:=937) (by omega)
  have e3:=win_yes (c:=c) (lo:=1040) (hi:=1071) (by omega) (by omega)
  have e4:=win_no (c:=c) (lo:=1024) (hi:=1039) (by omega)
  have e5:=win_no (c:=c) (lo:=256) (hi:=311) (by omega)
  have e6:=win_no (c:=c) (lo:=330) (hi:=375) (by omega)
  have e7:=win_no (c:=c) (lo:=313) (hi:=328) (by omega)
  have e8:=win_no (c:=c) (lo:=377) (hi:=382) (by omega)
  have b215:(c==215)=false:=bN (by omega)
  have b930:(c==930)=false:=bN (by omega)
  have b304:(c==304)=false:=bN (by omega)
  have b376:(c==376)=false:=bN (by omega)
  have b383:(c==383)=false:=bN (by omega)
  simp only [smallR,bne,e0,e1,e2,e3,e4,e5,e6,e7,e8,b215,b930,b304,b376,b383]
  first | done | rfl | simp
 have HH:=hid (And.intro h1 h2)
 go_enter Tryz.func126,Tryz.ntmps126
 go_wp2_with fail
 refine (within_f c 65 90 _ (by have:=HH.out;omega)).mono ?_
 rintro e _ ⟨rfl,rfl⟩
 go_wp2_with fail
 refine (within_f c 192 222 _ (by have:=HH.out;omega)).mono ?_
 rintro e _ ⟨rfl,rfl⟩
 go_wp2_with fail
 refine (within_f c 913 937 _ (by have:=HH.out;omega)).mono ?_
 rintro e _ ⟨rfl,rfl⟩
 go_wp2_with fail
 refine (within_t c 1040 1071 _ (by have:=HH.out;omega) (by have:=HH.out;omega)).mono ?_
 rintro e _ ⟨rfl,rfl⟩
 go_wp2_with fail
 go_ret
 exact ⟨by rw [HV.out];rfl,rfl⟩
theorem tmod_pos {c:Int} (h:0≤c):c.tmod 2=0∨c.tmod 2=1:=by rw [Int.tmod_eq_emod_of_nonneg h];omega
theorem tmod_neg {c:Int} (h:c≤-1):c.tmod 2=0∨c.tmod 2=-1:=by
 have e:c.tmod 2=-((-c).tmod 2):=by rw [Int.neg_tmod,Int.neg_neg]
 have:=tmod_pos (c:=-c) (by omega)
 omega
theorem small_calls (c:Int) (w:World):Calls Tryz.prog 126 #[.int .i64 c] w fun e w'=>e=.returned (.int .i64 (smallR c))∧w'=w:=by
 have hc:c≤-1∨(0≤c∧c≤64)∨(65≤c∧c≤90)∨(91≤c∧c≤191)∨(192≤c∧c≤214)∨c=215∨(216≤c∧c≤222)∨(223≤c∧c≤255)∨(256≤c∧c≤303)∨c=304∨(305≤c∧c≤311)∨c=312∨(313≤c∧c≤328)∨c=329∨(330≤c∧c≤375)∨c=376∨(377≤c∧c≤382)∨c=383∨(384≤c∧c≤912)∨(913≤c∧c≤929)∨c=930∨(931≤c∧c≤937)∨(938≤c∧c≤1023)∨(1024≤c∧c≤1039)∨(1040≤c∧c≤1071)∨1072≤c:=by omega
 rcases hc with h | ⟨h1,h2⟩ | ⟨h1,h2⟩ | ⟨h1,h2⟩ | ⟨h1,h2⟩ | rfl | ⟨h1,h2⟩ | ⟨h1,h2⟩ | ⟨h1,h2⟩ | rfl | ⟨h1,h2⟩ | rfl | ⟨h1,h2⟩ | rfl | ⟨h1,h2⟩ | rfl | ⟨h1,h2⟩ | rfl | ⟨h1,h2⟩ | ⟨h1,h2⟩ | rfl | ⟨h1,h2⟩ | ⟨h1,h2⟩ | ⟨h1,h2⟩ | ⟨h1,h2⟩ | h
 ·rcases tmod_neg h with hp | hp
  ·exact small_p0 c w h hp
  ·exact small_p1 c w h hp
 ·rcases tmod_pos (c:=c) (by omega) with hp | hp
  ·exact small_p2 c w h1 h2 hp
  ·exact small_p3 c w h1 h2 hp
 ·exact small_p4 c w h1 h2
 ·rcases tmod_pos (c:=c) (by omega) with hp | hp
  ·exact small_p5 c w h1 h2 hp
  ·exact small_p6 c w h1 h2 hp
 ·exact small_p7 c w h1 h2
 ·exact small_p8 w
 ·exact small_p9 c w h1 h2
 ·rcases tmod_pos (c:=c) (by omega) with hp | hp
  ·exact small_p10 c w h1 h2 hp
  ·exact small_p11 c w h1 h2 hp
 ·rcases tmod_pos (c:=c) (by omega) with hp | hp
  ·exact small_p12 c w h1 h2 hp
  ·exact small_p13 c w h1 h2 hp
 ·exact small_p14 w
 ·rcases tmod_pos (c:=c) (by omega) with hp | hp
  ·exact small_p15 c w h1 h2 hp
  ·exact small_p16 c w h1 h2 hp
 ·exact small_p17 w
 ·rcases tmod_pos (c:=c) (by omega) with hp | hp
  ·exact small_p18 c w h1 h2 hp
  ·exact small_p19 c w h1 h2 hp
 ·exact small_p20 w
 ·rcases tmod_pos (c:=c) (by omega) with hp | hp
  ·exact small_p21 c w h1 h2 hp
  ·exact small_p22 c w h1 h2 hp
 ·exact small_p23 w
 ·rcases tmod_pos (c:=c) (by omega) with hp | hp
  ·exact small_p24 c w h1 h2 hp
  ·exact small_p25 c w h1 h2 hp
 ·exact small_p26 w
 ·rcases tmod_pos (c:=c) (by omega) with hp | hp
  ·exact small_p27 c w h1 h2 hp
  ·exact small_p28 c w h1 h2 hp
 ·exact small_p29 c w h1 h2
 ·exact small_p30 w
 ·exact small_p31 c w h1 h2
 ·rcases tmod_pos (c:=c) (by omega) with hp | hp
  ·exact small_p32 c w h1 h2 hp
  ·exact small_p33 c w h1 h2 hp
 ·exact small_p34 c w h1 h2
 ·exact small_p35 c w h1 h2
 ·rcases tmod_pos (c:=c) (by omega) with hp | hp
  ·exact small_p36 c w h hp
  ·exact small_p37 c w h hp
theorem below_alloc (w:World) (o:Obj):Below w.heap.size w (w.alloc o):=(Below.refl _ _).alloc (Nat.le_refl _) _
def ToPost (c:Int) (w:World) (e:Ending) (w':World):Prop:=(∃v',e=.returned v'∧IOwn w' w.heap.size v' (toR c))∧Below w.heap.size w w'
theorem ToPost.lit {c:Int} {w:World} {e:Ending} {l:List Int} (h:toR c=l) (hl:l.length≤1000) (he:e=.returned (.slice (some ⟨w.heap.size,0,none⟩) l.length l.length)):ToPost c w e (w.alloc (.cells (l.map fi).toArray 3)) :=
 ⟨⟨_,he,by rw [h];exact Own.lit fi 3 w l hl⟩,below_alloc w _⟩
theorem rto_small (c k:Int) (w:World) (hk:smallR c=k) (h:0 < k):Calls Tryz.prog 84 #[.int .i64 c] w fun e w'=>ToPost c w e w':=by
 have HT:Hid (toR c=[k]):=by show _=_;unfold toR;rw [hk,if_pos h]
 have HK:=hid hk
 clear hk
 go_enter Tryz.func84,Tryz.ntmps84
 go_wp2_with fail
 refine (small_calls c _).mono ?_
 rintro e _ ⟨rfl,rfl⟩
 rw [HK.out]
 go_wp2_with fail
 go_ret
 exact ToPost.lit HT.out (by simp) rfl
theorem rto_304 (w:World):Calls Tryz.prog 84 #[.int .i64 304] w fun e w'=>ToPost 304 w e w':=by
 have HT:Hid (toR 304=[105,775]):=by show _=_;decide +kernel
 have HK:Hid (smallR 304=0):=by show _=_;decide +kernel
 go_enter Tryz.func84,Tryz.ntmps84
 go_wp2_with fail
 refine (small_calls 304 _).mono ?_
 rintro e _ ⟨rfl,rfl⟩
 rw [HK.out]
 go_wp2_with fail
 go_ret
 exact ToPost.lit HT.out (by decide) rfl
theorem rto_329 (w:World):Calls Tryz.prog 84 #[.int .i64 329] w fun e w'=>ToPost 329 w e w':=by
 have HT:Hid (toR 329=[700,110]):=by show _=_;decide +kernel
 have HK:Hid (smallR 329=0):=by show _=_;decide +kernel
 go_enter Tryz.func84,Tryz.ntmps84
 go_wp2_with fail
 refine (small_calls 329 _).mono ?_
 rintro e _ ⟨rfl,rfl⟩
 rw [HK.out]
 go_wp2_with fail
 go_ret
 exact ToPost.lit HT.out (by decide) rfl
theorem rto_12290 (w:World):Calls Tryz.prog 84 #[.int .i64 12290] w fun e w'=>ToPost 12290 w e w':=by
 have HT:Hid (toR 12290=[46]):=by show _=_;decide +kernel
 have HK:Hid (smallR 12290=0):=by show _=_;decide +kernel
 go_enter Tryz.func84,Tryz.ntmps84
 go_wp2_with fail
 refine (small_calls 12290 _).mono ?_
 rintro e _ ⟨rfl,rfl⟩
 rw [HK.out]
 go_wp2_with fail
 go_ret
 exact ToPost.lit HT.out (by decide) rfl
theorem rto_65294 (w:World):Calls Tryz.prog 84 #[.int .i64 65294] w fun e w'=>ToPost 65294 w e w':=by
 have HT:Hid (toR 65294=[46]):=by show _=_;decide +kernel
 have HK:Hid (smallR 65294=0):=by show _=_;decide +kernel
 go_enter Tryz.func84,Tryz.ntmps84
 go_wp2_with fail
 refine (small_calls 65294 _).mono ?_
 rintro e _ ⟨rfl,rfl⟩
 rw [HK.out]
 go_wp2_with fail
 go_ret
 exact ToPost.lit HT.out (by decide) rfl
theorem rto_65377 (w:World):Calls Tryz.prog 84 #[.int .i64 65377] w fun e w'=>ToPost 65377 w e w':=by
 have HT:Hid (toR 65377=[46]):=by show _=_;decide +kernel
 have HK:Hid (smallR 65377=0):=by show _=_;decide +kernel
 go_enter Tryz.func84,Tryz.ntmps84
 go_wp2_with fail
 refine (small_calls 65377 _).mono ?_
 rintro e _ ⟨rfl,rfl⟩
 rw [HK.out]
 go_wp2_with fail
 go_ret
 exact ToPost.lit HT.out (by decide) rfl
theorem rto_170 (w:World):Calls Tryz.prog 84 #[.int .i64 170] w fun e w'=>ToPost 170 w e w':=by
 have HT:Hid (toR 170=[97]):=by show _=_;decide +kernel
 have HK:Hid (smallR 170=0):=by show _=_;decide +kernel
 go_enter Tryz.func84,Tryz.ntmps84
 go_wp2_with fail
 refine (small_calls 170 _).mono ?_
 rintro e _ ⟨rfl,rfl⟩
 rw [HK.out]
 go_wp2_with fail
 refine (within_f 170 65281 65374 _ (by decide)).mono ?_
 rintro e _ ⟨rfl,rfl⟩
 go_wp2_with fail
 go_ret
 exact ToPost.lit HT.out (by decide) rfl
theorem rto_186 (w:World):Calls Tryz.prog 84 #[.int .i64 186] w fun e w'=>ToPost 186 w e w':=by
 have HT:Hid (toR 186=[111]):=by show _=_;decide +kernel
 have HK:Hid (smallR 186=0):=by show _=_;decide +kernel
 go_enter Tryz.func84,Tryz.ntmps84
 go_wp2_with fail
 refine (small_calls 186 _).mono ?_
 rintro e _ ⟨rfl,rfl⟩
 rw [HK.out]
 go_wp2_with fail
 refine (within_f 186 65281 65374 _ (by decide)).mono ?_
 rintro e _ ⟨rfl,rfl⟩
 go_wp2_with fail
 go_ret
 exact ToPost.lit HT.out (by decide) rfl
theorem rto_178 (w:World):Calls Tryz.prog 84 #[.int .i64 178] w fun e w'=>ToPost 178 w e w':=by
 have HT:Hid (toR 178=[50]):=by show _=_;decide +kernel
 have HK:Hid (smallR 178=0):=by show _=_;decide +kernel
 go_enter Tryz.func84,Tryz.ntmps84
 go_wp2_with fail
 refine (small_calls 178 _).mono ?_
 rintro e _ ⟨rfl,rfl⟩
 rw [HK.out]
 go_wp2_with fail
 refine (within_f 178 65281 65374 _ (by decide)).mono ?_
 rintro e _ ⟨rfl,rfl⟩
 go_wp2_with fail
 go_ret
 exact ToPost.lit HT.out (by decide) rfl
theorem rto_179 (w:World):Calls Tryz.prog 84 #[.int .i64 179] w fun e w'=>ToPost 179 w e w':=by
 have HT:Hid (toR 179=[51]):=by show _=_;decide +kernel
 have HK:Hid (smallR 179=0):=by show _=_;decide +kernel
 go_enter Tryz.func84,Tryz.ntmps84
 go_wp2_with fail
 refine (small_calls 179 _).mono ?_
 rintro e _ ⟨rfl,rfl⟩
 rw [HK.out]
 go_wp2_with fail
 refine (within_f 179 65281 65374 _ (by decide)).mono ?_
 rintro e _ ⟨rfl,rfl⟩
 go_wp2_with fail
 go_ret
 exact ToPost.lit HT.out (by decide) rfl
theorem rto_185 (w:World):Calls Tryz.prog 84 #[.int .i64 185] w fun e w'=>ToPost 185 w e w':=by
 have HT:Hid (toR 185=[49]):=by show _=_;decide +kernel
 have HK:Hid (smallR 185=0):=by show _=_;decide +kernel
 go_enter Tryz.func84,Tryz.ntmps84
 go_wp2_with fail
 refine (small_calls 185 _).mono ?_
 rintro e _ ⟨rfl,rfl⟩
 rw [HK.out]
 go_wp2_with fail
 refine (within_f 185 65281 65374 _ (by decide)).mono ?_
 rintro e _ ⟨rfl,rfl⟩
 go_wp2_with fail
 go_ret
 exact ToPost.lit HT.out (by decide) rfl
theorem rto_8462 (w:World):Calls Tryz.prog 84 #[.int .i64 8462] w fun e w'=>ToPost 8462 w e w':=by
 have HT:Hid (toR 8462=[104]):=by show _=_;decide +kernel
 have HK:Hid (smallR 8462=0):=by show _=_;decide +kernel
 go_enter Tryz.func84,Tryz.ntmps84
 go_wp2_with fail
 refine (small_calls 8462 _).mono ?_
 rintro e _ ⟨rfl,rfl⟩
 rw [HK.out]
 go_wp2_with fail
 refine (within_f 8462 65281 65374 _ (by decide)).mono ?_
 rintro e _ ⟨rfl,rfl⟩
 go_wp2_with fail
 refine (within_f 8462 9312 9320 _ (by decide)).mono ?_
 rintro e _ ⟨rfl,rfl⟩
 go_wp2_with fail
 go_ret
 exact ToPost.lit HT.out (by decide) rfl
theorem rto_wide0 (c:Int) (w:World) (h1:65281≤c) (h2:c≤65374) (h3:c≠65294) (hk:smallR (c-65248)=0):Calls Tryz.prog 84 #[.int .i64 c] w fun e w'=>ToPost c w e w':=by
 have HH:=hid (And.intro h1 (And.intro h2 h3))
 have t304:(c==304)=false:=by rw [beq_eq_false_iff_ne];have:=HH.out;omega
 have t329:(c==329)=false:=by rw [beq_eq_false_iff_ne];have:=HH.out;omega
 have t12290:(c==12290)=false:=by rw [beq_eq_false_iff_ne];have:=HH.out;omega
 have t65294:(c==65294)=false:=by rw [beq_eq_false_iff_ne];have:=HH.out;omega
 have t65377:(c==65377)=false:=by rw [beq_eq_false_iff_ne];have:=HH.out;omega
 have HT:Hid (toR c=[c-65248]):=by
  show _=_
  unfold toR
  rw [small_high (by omega),t304,t329,t12290,t65294,t65377,win_yes h1 h2,hk]
  rfl
 have HS:=hid (small_high (c:=c) (by omega))
 have HK:=hid hk
 clear hk h3
 go_enter Tryz.func84,Tryz.ntmps84
 go_wp2_with fail
 refine (small_calls c _).mono ?_
 rintro e _ ⟨rfl,rfl⟩
 rw [HS.out]
 go_wp2_with fail
 refine (within_t c 65281 65374 _ (by have:=HH.out;omega) (by have:=HH.out;omega)).mono ?_
 rintro e _ ⟨rfl,rfl⟩
 go_wp2_with fail
 refine (small_calls (c-65248) _).mono ?_
 rintro e _ ⟨rfl,rfl⟩
 rw [HK.out]
 go_wp2_with fail
 go_ret
 exact ToPost.lit HT.out (by simp) rfl
theorem rto_wide1 (c:Int) (w:World) (h1:65281≤c) (h2:c≤65374) (h3:c≠65294) (k:Int) (hk:smallR (c-65248)=k) (h:0 < k):Calls Tryz.prog 84 #[.int .i64 c] w fun e w'=>ToPost c w e w':=by
 have HH:=hid (And.intro h1 (And.intro h2 h3))
 have t304:(c==304)=false:=by rw [beq_eq_false_iff_ne];have:=HH.out;omega
 have t329:(c==329)=false:=by rw [beq_eq_false_iff_ne];have:=HH.out;omega
 have t12290:(c==12290)=false:=by rw [beq_eq_false_iff_ne];have:=HH.out;omega
 have t65294:(c==65294)=false:=by rw [beq_eq_false_iff_ne];have:=HH.out;omega
 have t65377:(c==65377)=false:=by rw [beq_eq_false_iff_ne];have:=HH.out;omega
 have tk:(k==0)=false:=bN (by omega)
 have HT:Hid (toR c=[k]):=by
  show _=_
  unfold toR
  rw [small_high (by omega),t304,t329,t12290,t65294,t65377,win_yes h1 h2,hk]
  rw [tk];rfl
 have HS:=hid (small_high (c:=c) (by omega))
 have HK:=hid hk
 clear hk h3
 go_enter Tryz.func84,Tryz.ntmps84
 go_wp2_with fail
 refine (small_calls c _).mono ?_
 rintro e _ ⟨rfl,rfl⟩
 rw [HS.out]
 go_wp2_with fail
 refine (within_t c 65281 65374 _ (by have:=HH.out;omega) (by have:=HH.out;omega)).mono ?_
 rintro e _ ⟨rfl,rfl⟩
 go_wp2_with fail
 refine (small_calls (c-65248) _).mono ?_
 rintro e _ ⟨rfl,rfl⟩
 rw [HK.out]
 go_wp2_with fail
 go_ret
 exact ToPost.lit HT.out (by simp) rfl
theorem rto_ring (c:Int) (w:World) (h1:9312≤c) (h2:c≤9320):Calls Tryz.prog 84 #[.int .i64 c] w fun e w'=>ToPost c w e w':=by
 have HH:=hid (And.intro h1 h2)
 have t304:(c==304)=false:=by rw [beq_eq_false_iff_ne];have:=HH.out;omega
 have t329:(c==329)=false:=by rw [beq_eq_false_iff_ne];have:=HH.out;omega
 have t12290:(c==12290)=false:=by rw [beq_eq_false_iff_ne];have:=HH.out;omega
 have t65294:(c==65294)=false:=by rw [beq_eq_false_iff_ne];have:=HH.out;omega
 have t65377:(c==65377)=false:=by rw [beq_eq_false_iff_ne];have:=HH.out;omega
 have t170:(c==170)=false:=by rw [beq_eq_false_iff_ne];have:=HH.out;omega
 have t186:(c==186)=false:=by rw [beq_eq_false_iff_ne];have:=HH.out;omega
 have t178:(c==178)=false:=by rw [beq_eq_false_iff_ne];have:=HH.out;omega
 have t179:(c==179)=false:=by rw [beq_eq_false_iff_ne];have:=HH.out;omega
 have t185:(c==185)=false:=by rw [beq_eq_false_iff_ne];have:=HH.out;omega
 have HT:Hid (toR c=[c-9312+49]):=by
  show _=_
  unfold toR
  rw [small_high (by omega),t304,t329,t12290,t65294,t65377,win_no (by omega),t170,t186,t178,t179,t185,win_yes h1 h2]
  rfl
 have HS:=hid (small_high (c:=c) (by omega))
 go_enter Tryz.func84,Tryz.ntmps84
 go_wp2_with fail
 refine (small_calls c _).mono ?_
 rintro e _ ⟨rfl,rfl⟩
 rw [HS.out]
 go_wp2_with fail
 refine (within_f c 65281 65374 _ (by have:=HH.out;omega)).mono ?_
 rintro e _ ⟨rfl,rfl⟩
 go_wp2_with fail
 refine (within_t c 9312 9320 _ (by have:=HH.out;omega) (by have:=HH.out;omega)).mono ?_
 rintro e _ ⟨rfl,rfl⟩
 go_wp2_with fail
 go_ret
 exact ToPost.lit HT.out (by simp) rfl
theorem rto_rest (c:Int) (w:World) (hk:smallR c=0) (h1:c < 65281∨65374 < c) (h2:c < 9312∨9320 < c) (t304:(c==304)=false) (t329:(c==329)=false) (t12290:(c==12290)=false) (t65294:(c==65294)=false) (t65377:(c==65377)=false) (t170:(c==170)=false) (t186:(c==186)=false) (t178:(c==178)=false) (t179:(c==179)=false) (t185:(c==185)=false) (t8462:(c==8462)=false):Calls Tryz.prog 84 #[.int .i64 c] w fun e w'=>ToPost c w e w':=by
 have HT:Hid (toR c=[]):=by
  show _=_
  unfold toR
  rw [hk,t304,t329,t12290,t65294,t65377,win_no h1,t170,t186,t178,t179,t185,win_no h2,t8462]
  rfl
 have HK:=hid hk
 have H1:=hid h1
 have H2:=hid h2
 clear hk h1 h2
 go_enter Tryz.func84,Tryz.ntmps84
 go_wp2_with fail
 refine (small_calls c _).mono ?_
 rintro e _ ⟨rfl,rfl⟩
 rw [HK.out]
 go_wp2_with fail
 refine (within_f c 65281 65374 _ H1.out).mono ?_
 rintro e _ ⟨rfl,rfl⟩
 go_wp2_with fail
 refine (within_f c 9312 9320 _ H2.out).mono ?_
 rintro e _ ⟨rfl,rfl⟩
 go_wp2_with fail
 go_ret
 exact ⟨⟨_,rfl,by rw [HT.out];exact Own.nil _ _ _ _⟩,Below.refl _ _⟩
theorem small_le {c:Int}:0≤smallR c:=by
 unfold smallR win
 repeat' split
 all_goals (try simp only [Bool.or_eq_true,Bool.and_eq_true,decide_eq_true_eq] at *)<;>omega
theorem rto_calls (c:Int) (w:World):Calls Tryz.prog 84 #[.int .i64 c] w fun e w'=>ToPost c w e w':=by
 by_cases hs:0 < smallR c
 ·exact rto_small c _ w rfl hs
 ·have hk:smallR c=0:=by have:=small_le (c:=c);omega
  by_cases n304:c=304
  ·subst n304;exact rto_304 w
  by_cases n329:c=329
  ·subst n329;exact rto_329 w
  by_cases n12290:c=12290
  ·subst n12290;exact rto_12290 w
  by_cases n65294:c=65294
  ·subst n65294;exact rto_65294 w
  by_cases n65377:c=65377
  ·subst n65377;exact rto_65377 w
  by_cases n170:c=170
  ·subst n170;exact rto_170 w
  by_cases n186:c=186
  ·subst n186;exact rto_186 w
  by_cases n178:c=178
  ·subst n178;exact rto_178 w
  by_cases n179:c=179
  ·subst n179;exact rto_179 w
  by_cases n185:c=185
  ·subst n185;exact rto_185 w
  by_cases n8462:c=8462
  ·subst n8462;exact rto_8462 w
  by_cases h1:65281≤c∧c≤65374
  ·by_cases h0:smallR (c-65248)=0
   ·exact rto_wide0 c w h1.1 h1.2 n65294 h0
   ·exact rto_wide1 c w h1.1 h1.2 n65294 _ rfl (by have:=small_le (c:=c-65248);omega)
  ·by_cases h2:9312≤c∧c≤9320
   ·exact rto_ring c w h2.1 h2.2
   ·exact rto_rest c w hk (by omega) (by omega) (beq_eq_false_iff_ne.2 n304) (beq_eq_false_iff_ne.2 n329) (beq_eq_false_iff_ne.2 n12290) (beq_eq_false_iff_ne.2 n65294) (beq_eq_false_iff_ne.2 n65377) (beq_eq_false_iff_ne.2 n170) (beq_eq_false_iff_ne.2 n186) (beq_eq_false_iff_ne.2 n178) (beq_eq_false_iff_ne.2 n179) (beq_eq_false_iff_ne.2 n185) (beq_eq_false_iff_ne.2 n8462)
theorem rkind_173 (w:World):Calls Tryz.prog 83 #[.int .i64 173] w fun e w'=>e=.returned (.int .i64 (kindR 173))∧Below w.heap.size w w':=by
 have HK:Hid (kindR 173=3):=by show _=_;decide +kernel
 go_enter Tryz.func83,Tryz.ntmps83
 go_wp2_with fail
 go_ret
 exact ⟨by rw [HK.out];rfl,Below.refl _ _⟩
theorem rkind_8203 (w:World):Calls Tryz.prog 83 #[.int .i64 8203] w fun e w'=>e=.returned (.int .i64 (kindR 8203))∧Below w.heap.size w w':=by
 have HK:Hid (kindR 8203=3):=by show _=_;decide +kernel
 go_enter Tryz.func83,Tryz.ntmps83
 go_wp2_with fail
 go_ret
 exact ⟨by rw [HK.out];rfl,Below.refl _ _⟩
theorem rkind_8288 (w:World):Calls Tryz.prog 83 #[.int .i64 8288] w fun e w'=>e=.returned (.int .i64 (kindR 8288))∧Below w.heap.size w w':=by
 have HK:Hid (kindR 8288=3):=by show _=_;decide +kernel
 go_enter Tryz.func83,Tryz.ntmps83
 go_wp2_with fail
 go_ret
 exact ⟨by rw [HK.out];rfl,Below.refl _ _⟩
theorem rkind_65279 (w:World):Calls Tryz.prog 83 #[.int .i64 65279] w fun e w'=>e=.returned (.int .i64 (kindR 65279))∧Below w.heap.size w w':=by
 have HK:Hid (kindR 65279=3):=by show _=_;decide +kernel
 go_enter Tryz.func83,Tryz.ntmps83
 go_wp2_with fail
 refine (within_f 65279 65024 65039 _ (by decide)).mono ?_
 rintro e _ ⟨rfl,rfl⟩
 go_wp2_with fail
 go_ret
 exact ⟨by rw [HK.out];rfl,Below.refl _ _⟩
theorem rkind_marks (c:Int) (w:World) (h1:65024≤c) (h2:c≤65039):Calls Tryz.prog 83 #[.int .i64 c] w fun e w'=>e=.returned (.int .i64 (kindR c))∧Below w.heap.size w w':=by
 have HH:=hid (And.intro h1 h2)
 have t173:(c==173)=false:=by rw [beq_eq_false_iff_ne];have:=HH.out;omega
 have t8203:(c==8203)=false:=by rw [beq_eq_false_iff_ne];have:=HH.out;omega
 have t8288:(c==8288)=false:=by rw [beq_eq_false_iff_ne];have:=HH.out;omega
 have HK:Hid (kindR c=3):=by
  show _=_
  unfold kindR
  rw [t173,t8203,t8288,win_yes (lo:=65024) h1 h2];rfl
 clear h1 h2
 go_enter Tryz.func83,Tryz.ntmps83
 go_wp2_with fail
 refine (within_t c 65024 65039 _ (by have:=HH.out;omega) (by have:=HH.out;omega)).mono ?_
 rintro e _ ⟨rfl,rfl⟩
 go_wp2_with fail
 go_ret
 exact ⟨by rw [HK.out];rfl,Below.refl _ _⟩
theorem rkind_none (c:Int) (w:World) (t173:(c==173)=false) (t8203:(c==8203)=false) (t8288:(c==8288)=false) (h0:c < 65024∨65039 < c) (t65279:(c==65279)=false) (hs:isS c=false):Calls Tryz.prog 83 #[.int .i64 c] w fun e w'=>e=.returned (.int .i64 (kindR c))∧Below w.heap.size w w':=by
 have H0:=hid h0
 have HK:Hid (kindR c=4):=by
  show _=_
  unfold kindR
  rw [t173,t8203,t8288,win_no h0,t65279,hs];rfl
 have HS:=hid hs
 clear hs h0
 go_enter Tryz.func83,Tryz.ntmps83
 go_wp2_with fail
 refine (within_f c 65024 65039 _ H0.out).mono ?_
 rintro e _ ⟨rfl,rfl⟩
 go_wp2_with fail
 refine (rscalar_calls c _).mono ?_
 rintro e _ ⟨rfl,rfl⟩
 rw [HS.out]
 go_wp2_with fail
 go_ret
 exact ⟨by rw [HK.out];rfl,Below.refl _ _⟩
theorem rkind_bad0 (c:Int) (w:World) (t173:(c==173)=false) (t8203:(c==8203)=false) (t8288:(c==8288)=false) (h0:c < 65024∨65039 < c) (t65279:(c==65279)=false) (hs:isS c=true)  (h1:128≤c) (h2:c≤160):Calls Tryz.prog 83 #[.int .i64 c] w fun e w'=>e=.returned (.int .i64 (kindR c))∧Below w.heap.size w w':=by
 have H0:=hid h0
 have HK:Hid (kindR c=4):=by
  show _=_
  unfold kindR
  rw [t173,t8203,t8288,win_no h0,t65279,hs,win_yes (lo:=128) h1 h2];rfl
 have HS:=hid hs
 have HH:=hid (And.intro h1 h2)
 clear hs h0 h1 h2
 go_enter Tryz.func83,Tryz.ntmps83
 go_wp2_with fail
 refine (within_f c 65024 65039 _ H0.out).mono ?_
 rintro e _ ⟨rfl,rfl⟩
 go_wp2_with fail
 refine (rscalar_calls c _).mono ?_
 rintro e _ ⟨rfl,rfl⟩
 rw [HS.out]
 go_wp2_with fail
 refine (within_t c 128 160 _ (by have:=HH.out;omega) (by have:=HH.out;omega)).mono ?_
 rintro e _ ⟨rfl,rfl⟩
 go_wp2_with fail
 go_ret
 exact ⟨by rw [HK.out];rfl,Below.refl _ _⟩
theorem rkind_bad1 (c:Int) (w:World) (t173:(c==173)=false) (t8203:(c==8203)=false) (t8288:(c==8288)=false) (h0:c < 65024∨65039 < c) (t65279:(c==65279)=false) (hs:isS c=true) (n0:c < 128∨160 < c) (h1:57344≤c) (h2:c≤63743):Calls Tryz.prog 83 #[.int .i64 c] w fun e w'=>e=.returned (.int .i64 (kindR c))∧Below w.heap.size w w':=by
 have H0:=hid h0
 have HK:Hid (kindR c=4):=by
  show _=_
  unfold kindR
  rw [t173,t8203,t8288,win_no h0,t65279,hs,win_no n0,win_yes (lo:=57344) h1 h2];rfl
 have HS:=hid hs
 have HH:=hid (And.intro h1 h2)
 have N0:=hid n0
 clear hs h0 h1 h2 n0
 go_enter Tryz.func83,Tryz.ntmps83
 go_wp2_with fail
 refine (within_f c 65024 65039 _ H0.out).mono ?_
 rintro e _ ⟨rfl,rfl⟩
 go_wp2_with fail
 refine (rscalar_calls c _).mono ?_
 rintro e _ ⟨rfl,rfl⟩
 rw [HS.out]
 go_wp2_with fail
 refine (within_f c 128 160 _ N0.out).mono ?_
 rintro e _ ⟨rfl,rfl⟩
 go_wp2_with fail
 refine (within_t c 57344 63743 _ (by have:=HH.out;omega) (by have:=HH.out;omega)).mono ?_
 rintro e _ ⟨rfl,rfl⟩
 go_wp2_with fail
 go_ret
 exact ⟨by rw [HK.out];rfl,Below.refl _ _⟩
theorem rkind_bad2 (c:Int) (w:World) (t173:(c==173)=false) (t8203:(c==8203)=false) (t8288:(c==8288)=false) (h0:c < 65024∨65039 < c) (t65279:(c==65279)=false) (hs:isS c=true) (n0:c < 128∨160 < c) (n1:c < 57344∨63743 < c) (h1:64976≤c) (h2:c≤65007):Calls Tryz.prog 83 #[.int .i64 c] w fun e w'=>e=.returned (.int .i64 (kindR c))∧Below w.heap.size w w':=by
 have H0:=hid h0
 have HK:Hid (kindR c=4):=by
  show _=_
  unfold kindR
  rw [t173,t8203,t8288,win_no h0,t65279,hs,win_no n0,win_no n1,win_yes (lo:=64976) h1 h2];rfl
 have HS:=hid hs
 have HH:=hid (And.intro h1 h2)
 have N0:=hid n0
 have N1:=hid n1
 clear hs h0 h1 h2 n0 n1
 go_enter Tryz.func83,Tryz.ntmps83
 go_wp2_with fail
 refine (within_f c 65024 65039 _ H0.out).mono ?_
 rintro e _ ⟨rfl,rfl⟩
 go_wp2_with fail
 refine (rscalar_calls c _).mono ?_
 rintro e _ ⟨rfl,rfl⟩
 rw [HS.out]
 go_wp2_with fail
 refine (within_f c 128 160 _ N0.out).mono ?_
 rintro e _ ⟨rfl,rfl⟩
 go_wp2_with fail
 refine (within_f c 57344 63743 _ N1.out).mono ?_
 rintro e _ ⟨rfl,rfl⟩
 go_wp2_with fail
 refine (within_t c 64976 65007 _ (by have:=HH.out;omega) (by have:=HH.out;omega)).mono ?_
 rintro e _ ⟨rfl,rfl⟩
 go_wp2_with fail
 go_ret
 exact ⟨by rw [HK.out];rfl,Below.refl _ _⟩
theorem rkind_high (c:Int) (w:World) (t173:(c==173)=false) (t8203:(c==8203)=false) (t8288:(c==8288)=false) (h0:c < 65024∨65039 < c) (t65279:(c==65279)=false) (hs:isS c=true) (n0:c < 128∨160 < c) (n1:c < 57344∨63743 < c) (n2:c < 64976∨65007 < c) (hh:decide ((983040:Int)≤c)=true):Calls Tryz.prog 83 #[.int .i64 c] w fun e w'=>e=.returned (.int .i64 (kindR c))∧Below w.heap.size w w':=by
 have H0:=hid h0
 have HK:Hid (kindR c=4):=by
  show _=_
  unfold kindR
  rw [t173,t8203,t8288,win_no h0,t65279,hs,win_no n0,win_no n1,win_no n2,hh];rfl
 have HS:=hid hs
 have N0:=hid n0
 have N1:=hid n1
 have N2:=hid n2
 clear hs h0 n0 n1 n2
 go_enter Tryz.func83,Tryz.ntmps83
 go_wp2_with fail
 refine (within_f c 65024 65039 _ H0.out).mono ?_
 rintro e _ ⟨rfl,rfl⟩
 go_wp2_with fail
 refine (rscalar_calls c _).mono ?_
 rintro e _ ⟨rfl,rfl⟩
 rw [HS.out]
 go_wp2_with fail
 refine (within_f c 128 160 _ N0.out).mono ?_
 rintro e _ ⟨rfl,rfl⟩
 go_wp2_with fail
 refine (within_f c 57344 63743 _ N1.out).mono ?_
 rintro e _ ⟨rfl,rfl⟩
 go_wp2_with fail
 refine (within_f c 64976 65007 _ N2.out).mono ?_
 rintro e _ ⟨rfl,rfl⟩
 go_wp2_with fail
 go_ret
 exact ⟨by rw [HK.out];rfl,Below.refl _ _⟩
theorem rkind_low (c:Int) (w:World) (t173:(c==173)=false) (t8203:(c==8203)=false) (t8288:(c==8288)=false) (h0:c < 65024∨65039 < c) (t65279:(c==65279)=false) (hs:isS c=true) (n0:c < 128∨160 < c) (n1:c < 57344∨63743 < c) (n2:c < 64976∨65007 < c) (hh:decide ((983040:Int)≤c)=false) (hl:65534≤c%65536):Calls Tryz.prog 83 #[.int .i64 c] w fun e w'=>e=.returned (.int .i64 (kindR c))∧Below w.heap.size w w':=by
 have H0:=hid h0
 have HK:Hid (kindR c=4):=by
  show _=_
  unfold kindR
  rw [t173,t8203,t8288,win_no h0,t65279,hs,win_no n0,win_no n1,win_no n2,hh,decide_eq_true hl];rfl
 obtain ⟨m,hm⟩:∃m:Int,c%65536=m:=⟨_,rfl⟩
 have hb:bits .and .i64 c 65535=m:=by rw [← hm];exact low_all (isS_iff.1 hs).1 (isS_iff.1 hs).2.1
 rw [hm] at hl
 have HS:=hid hs
 have N0:=hid n0
 have N1:=hid n1
 have N2:=hid n2
 clear hs h0 n0 n1 n2 hm
 go_enter Tryz.func83,Tryz.ntmps83
 go_wp2_with fail
 refine (within_f c 65024 65039 _ H0.out).mono ?_
 rintro e _ ⟨rfl,rfl⟩
 go_wp2_with fail
 refine (rscalar_calls c _).mono ?_
 rintro e _ ⟨rfl,rfl⟩
 rw [HS.out]
 go_wp2_with fail
 refine (within_f c 128 160 _ N0.out).mono ?_
 rintro e _ ⟨rfl,rfl⟩
 go_wp2_with fail
 refine (within_f c 57344 63743 _ N1.out).mono ?_
 rintro e _ ⟨rfl,rfl⟩
 go_wp2_with fail
 refine (within_f c 64976 65007 _ N2.out).mono ?_
 rintro e _ ⟨rfl,rfl⟩
 go_wp2_with fail
 go_ret
 exact ⟨by rw [HK.out];rfl,Below.refl _ _⟩
theorem rkind_rest (c:Int) (w:World) (t173:(c==173)=false) (t8203:(c==8203)=false) (t8288:(c==8288)=false) (h0:c < 65024∨65039 < c) (t65279:(c==65279)=false) (hs:isS c=true) (n0:c < 128∨160 < c) (n1:c < 57344∨63743 < c) (n2:c < 64976∨65007 < c) (hh:decide ((983040:Int)≤c)=false) (hl:¬65534≤c%65536):Calls Tryz.prog 83 #[.int .i64 c] w fun e w'=>e=.returned (.int .i64 (kindR c))∧Below w.heap.size w w':=by
 have H0:=hid h0
 have HK:Hid (kindR c=if 0 < (toR c).length then 2 else 1):=by
  show _=_
  unfold kindR
  rw [t173,t8203,t8288,win_no h0,t65279,hs,win_no n0,win_no n1,win_no n2,hh,decide_eq_false hl];rfl
 obtain ⟨m,hm⟩:∃m:Int,c%65536=m:=⟨_,rfl⟩
 have hb:bits .and .i64 c 65535=m:=by rw [← hm];exact low_all (isS_iff.1 hs).1 (isS_iff.1 hs).2.1
 rw [hm] at hl
 have HS:=hid hs
 have N0:=hid n0
 have N1:=hid n1
 have N2:=hid n2
 clear hs h0 n0 n1 n2 hm
 go_enter Tryz.func83,Tryz.ntmps83
 go_wp2_with fail
 refine (within_f c 65024 65039 _ H0.out).mono ?_
 rintro e _ ⟨rfl,rfl⟩
 go_wp2_with fail
 refine (rscalar_calls c _).mono ?_
 rintro e _ ⟨rfl,rfl⟩
 rw [HS.out]
 go_wp2_with fail
 refine (within_f c 128 160 _ N0.out).mono ?_
 rintro e _ ⟨rfl,rfl⟩
 go_wp2_with fail
 refine (within_f c 57344 63743 _ N1.out).mono ?_
 rintro e _ ⟨rfl,rfl⟩
 go_wp2_with fail
 refine (within_f c 64976 65007 _ N2.out).mono ?_
 rintro e _ ⟨rfl,rfl⟩
 go_wp2_with fail
 refine (rto_calls c _).mono ?_
 rintro e w1 ⟨⟨v',rfl,ho⟩,hb1⟩
 have HB1:=hid hb1
 obtain ⟨a',cap',rfl,-⟩:=ho.row
 clear hb1 ho
 by_cases hlen:0 < (toR c).length
 ·have hlen':(0:Int) < ((toR c).length:Int):=by omega
  rw [if_pos hlen] at HK
  clear hlen
  go_wp2_with fail
  go_ret
  exact ⟨by rw [HK.out];rfl,HB1.out⟩
 ·have hlen':((toR c).length:Int)=0:=by omega
  rw [if_neg hlen] at HK
  clear hlen
  go_wp2_with fail
  go_ret
  exact ⟨by rw [HK.out];rfl,HB1.out⟩
theorem rkind_calls (c:Int) (w:World):Calls Tryz.prog 83 #[.int .i64 c] w fun e w'=>e=.returned (.int .i64 (kindR c))∧Below w.heap.size w w':=by
 by_cases n173:c=173
 ·subst n173;exact rkind_173 w
 by_cases n8203:c=8203
 ·subst n8203;exact rkind_8203 w
 by_cases n8288:c=8288
 ·subst n8288;exact rkind_8288 w
 by_cases n65279:c=65279
 ·subst n65279;exact rkind_65279 w
 by_cases h0:65024≤c∧c≤65039
 ·exact rkind_marks c w h0.1 h0.2
 have t1:=beq_eq_false_iff_ne.2 n173
 have t2:=beq_eq_false_iff_ne.2 n8203
 have t3:=beq_eq_false_iff_ne.2 n8288
 have t4:=beq_eq_false_iff_ne.2 n65279
 have h0':c < 65024∨65039 < c:=by omega
 cases hs:isS c with
 | false=>exact rkind_none c w t1 t2 t3 h0' t4 hs
 | true =>
   by_cases a0:128≤c∧c≤160
   ·exact rkind_bad0 c w t1 t2 t3 h0' t4 hs a0.1 a0.2
   by_cases a1:57344≤c∧c≤63743
   ·exact rkind_bad1 c w t1 t2 t3 h0' t4 hs (by omega) a1.1 a1.2
   by_cases a2:64976≤c∧c≤65007
   ·exact rkind_bad2 c w t1 t2 t3 h0' t4 hs (by omega) (by omega) a2.1 a2.2
   by_cases a3:983040≤c
   ·exact rkind_high c w t1 t2 t3 h0' t4 hs (by omega) (by omega) (by omega) (decide_eq_true a3)
   by_cases a4:65534≤c%65536
   ·exact rkind_low c w t1 t2 t3 h0' t4 hs (by omega) (by omega) (by omega) (decide_eq_false a3) a4
   ·exact rkind_rest c w t1 t2 t3 h0' t4 hs (by omega) (by omega) (by omega) (decide_eq_false a3) a4
theorem kind_four (c:Int):kindOf c=1∨kindOf c=2∨kindOf c=3∨kindOf c=4:=by
 rw [← kind_alike]
 unfold kindR
 repeat' split
 all_goals simp
theorem to_len (c:Int):(toOf c).length≤2:=by unfold toOf;split;exact signs_len _ _;simp
theorem rmap_post (v:Value) (l:List Int) (w:World) (hv:IRow w v l) (hlen:l.length≤100000) :
 Calls Tryz.prog 52 #[v] w fun e w'=>MapPost l w e w':=by
 have HV:=hid hv
 have HL:=hid hlen
 obtain ⟨a,cap,rfl,h1,h2,h3⟩:=hv
 have hl1:(l.length:Int)≤100000:=by omega
 have hc1:(l.length:Int)≤(cap:Int):=by omega
 have hc2:(cap:Int)≤9223372036854775807:=by unfold maxLen at h2;omega
 clear h3 hlen h1 h2
 go_enter Tryz.func52,Tryz.ntmps52
 go_wp2
 go_loopw [5,6] (fun v i wr=>∃k:Nat,k≤l.length∧i=.int .i64 (k:Int)∧IOwn wr w.heap.size v (mapOf (l.take k))∧Below w.heap.size w wr∧Fine (l.take k)) (fun _ i _=>l.length-(intOf i).toNat)
 case atStart=>exact ⟨0,Nat.zero_le _,rfl,Own.nil _ _ _ _,Below.refl _ _,by intro c hc;simp at hc⟩
 case round =>
  obtain ⟨k,hk,rfl,ho,hb,hf⟩:=hrel
  have HO:=hid ho
  have HB:=hid hb
  have HF:=hid hf
  have HS:=hid hb.size
  clear ho hb hf
  by_cases hlt:k < l.length
  ·obtain ⟨b,off,rfl,hbl,hc⟩:∃b off,a=some ⟨b,off,none⟩∧b < w.heap.size∧∀i (h:i < l.length),w.cell? ⟨b,off+i,none⟩=some (fi l[i]):=by
    obtain ⟨a',cap',he,_,_,h3⟩:=HV.out
    injection he with e1 e2 e3
    subst e1
    exact h3 (by intro h;simp [h] at hlt)
   have HC:Hid (∀w',Below w.heap.size w w'→w'.cell? ⟨b,off+k,none⟩=some (.int .i64 l[k])):=fun w' hb=>(hb.cell (p:=⟨b,off+k,none⟩) hbl).trans (hc k hlt)
   have hck:=HC.out wr HB.out
   have HK:=hid hlt
   have HSn:=hid (map_snoc l k hlt)
   have HBad:Hid (kindOf l[k]=4→BadAt l k):=fun h=>⟨hlt,h,HF.out⟩
   have HNx:Hid (kindOf l[k]≠4→Fine (l.take (k+1))):=by
    intro h
    rw [List.take_succ_eq_append_getElem hlt]
    intro c hc
    rcases List.mem_append.1 hc with h' | h'
    ·exact HF.out c h'
    ·rw [List.mem_singleton.1 h'];exact h
   have k0:(0:Int)≤(k:Int):=by omega
   have k1:(k:Int) < (l.length:Int):=by omega
   have HLn:Hid ((mapOf (l.take k)).length≤500000):=by
    show _≤_
    have h1:=map_len (l.take k)
    have h2:=HL.out
    have h3:(l.take k).length≤l.length:=by rw [List.length_take];omega
    omega
   clear hc
   generalize l[k]=c at *
   clear hk hlt HF
   have HKC:=hid (fun w=>rkind_calls c w)
   rw [kind_alike] at HKC
   go_wp2_with fail
   refine (HKC.out _).mono ?_
   rintro e w3 ⟨rfl,hb3⟩
   have HB3:=hid (HB.out.trans (hb3.mono HS.out))
   have HO3:=hid (HO.out.below hb3)
   have HS3:=hid (Nat.le_trans HS.out hb3.size)
   have hck3:=HC.out w3 HB3.out
   clear hb3 HKC HB HO HS hck
   rcases kind_four c with h | h | h | h
   ·rw [signs_one h] at HSn
    have HX:=hid (HNx.out (by rw [h];decide))
    rw [h]
    obtain ⟨v2,w2,hr,ho2,hg⟩:=appendI_run (HO3.out.alloc (.cells #[.int .i64 c] 3)) (Row.lit fi w3 [c] 3 (0,0) (by simp)) (by have:=HLn.out;simp;omega) (by have:=HS3.out;simp;omega)
    have HO4:=hid ho2
    have HB4:=hid ((HB3.out.alloc HS3.out _).grown hg (by have:=HS3.out;simp;omega) (Own.lt HO3.out))
    clear ho2 hg h HBad HNx
    go_wp2_with (at_builtin;go_must (refine wpList_append_run hr rfl _ _ rfl rfl rfl rfl ?_))
    go_roundw
    case rel=>exact ⟨k+1,HK.out,by go_num,by rw [HSn.out];exact HO4.out,HB4.out,HX.out⟩
    case measure=>have:=HK.out;simp [intOf];omega
   ·rw [signs_to h] at HSn
    have HX:=hid (HNx.out (by rw [h];decide))
    have HT:=hid (to_alike h)
    rw [h]
    clear h HBad HNx
    go_wp2_with fail
    refine (rto_calls c _).mono ?_
    rintro e w4 ⟨⟨tv,rfl,ht⟩,hb4⟩
    rw [HT.out] at ht
    obtain ⟨v2,w2,hr,ho2,hg⟩:=appendI_run (HO3.out.below hb4) ht.row (by have:=HLn.out;have:=to_len c;omega) (Nat.le_trans HS3.out hb4.size)
    have HO5:=hid ho2
    have HB5:=hid ((HB3.out.trans (hb4.mono HS3.out)).grown hg (Nat.le_trans HS3.out hb4.size) (Own.lt HO3.out))
    clear ho2 hg ht hb4 hck3
    go_wp2_with (at_builtin;go_must (refine wpList_append_run hr rfl _ _ rfl rfl rfl rfl ?_))
    go_roundw
    case rel=>exact ⟨k+1,HK.out,by go_num,by rw [HSn.out];exact HO5.out,HB5.out,HX.out⟩
    case measure=>have:=HK.out;simp [intOf];omega
   ·rw [signs_none (by rw [h];decide) (by rw [h];decide),List.append_nil] at HSn
    have HX:=hid (HNx.out (by rw [h];decide))
    rw [h]
    clear h HBad HNx hck3
    go_wp2_with fail
    go_roundw
    case rel=>exact ⟨k+1,HK.out,by go_num,by rw [HSn.out];exact HO3.out,HB3.out,HX.out⟩
    case measure=>have:=HK.out;simp [intOf];omega
   ·have HX:=hid (HBad.out h)
    rw [h]
    clear h HBad HNx hck3
    go_wp2_with fail
    go_ret3
    exact MapPost.bad HX.out rfl HB3.out
  ·have hkl:k=l.length:=by omega
   have HX:Hid (Fine l):=by have:=HF.out;rwa [hkl,List.take_length] at this
   have HO2:Hid (IOwn wr w.heap.size u5 (mapOf l)):=by
    have:=HO.out
    rwa [hkl,List.take_length] at this
   clear HO HF
   go_wp2_with fail
   go_ret3
   exact MapPost.fine HX.out rfl HO2.out HB.out
theorem rmap_fine (v:Value) (l:List Int) (w:World) (hv:IRow w v l) (hlen:l.length≤100000) (h:Fine l) :
 Calls Tryz.prog 52 #[v] w fun e w'=>(∃v',e=.returned (.tuple #[v',.int .i64 0,.bool true])∧IOwn w' w.heap.size v' (mapOf l))∧Below w.heap.size w w':=by
 refine (rmap_post v l w hv hlen).mono ?_
 rintro e w' ⟨⟨_,v',he,ho⟩ | ⟨i,hi,_⟩,hb⟩
 ·exact ⟨⟨v',he,ho⟩,hb⟩
 ·exact absurd h hi.not_fine
theorem rmap_bad (v:Value) (l:List Int) (w:World) (hv:IRow w v l) (hlen:l.length≤100000) (i:Nat) (h:BadAt l i) :
 Calls Tryz.prog 52 #[v] w fun e w'=>e=.returned (.tuple #[.slice none 0 0,.int .i64 (i:Int),.bool false])∧Below w.heap.size w w':=by
 refine (rmap_post v l w hv hlen).mono ?_
 rintro e w' ⟨⟨g,_⟩ | ⟨j,hj,he⟩,hb⟩
 ·exact absurd g h.not_fine
 ·rw [h.uniq hj];exact ⟨he,hb⟩
end Go.Proofs.YtpohekldddbneaaGreatDoor
