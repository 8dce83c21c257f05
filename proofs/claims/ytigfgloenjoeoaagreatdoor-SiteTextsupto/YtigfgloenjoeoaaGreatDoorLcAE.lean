import Derived.Test.YtigfgloenjoeoaaGreatDoorLcAC
import Derived.Handy
import Derived.Test.YtigfgloenjoeoaaGreatDoorLcAA
set_option linter.unusedVariables false
set_option linter.unusedSimpArgs false
set_option maxRecDepth 20000
set_option maxHeartbeats 16000000
namespace Go.Proofs.YtigfgloenjoeoaaGreatDoor
open Go.RowKit
def StPost (x:Nat) (w:World) (e:Ending) (w':World):Prop :=
 (match st x with
  | none=>e=.returned (.tuple #[.agg #[.int .i64 0,.int .i64 0,.int .u8 0,.int .u8 0],.bool false])
  | some (c,n,lo,hi)=>e=.returned (.tuple #[.agg #[.int .i64 (c:Int),.int .i64 (n:Int),.int .u8 (lo:Int),.int .u8 (hi:Int)],.bool true]))∧Below w.heap.size w w'
theorem StPost.yes {x c n lo hi:Nat} {w w':World} {e:Ending} (h:st x=some (c,n,lo,hi)) (he:e=.returned (.tuple #[.agg #[.int .i64 (c:Int),.int .i64 (n:Int),.int .u8 (lo:Int),.int .u8 (hi:Int)],.bool true])) (hb:Below w.heap.size w w'):StPost x w e w':=by
 unfold StPost;rw [h];exact ⟨he,hb⟩
theorem StPost.no {x:Nat} {w w':World} (h:st x=none) (hb:Below w.heap.size w w'):StPost x w (.returned (.tuple #[.agg #[.int .i64 0,.int .i64 0,.int .u8 0,.int .u8 0],.bool false])) w':=by
 unfold StPost;rw [h];exact ⟨rfl,hb⟩
theorem StPost.of_no {x:Nat} {w w':World} {e:Ending} (h:st x=none) (hp:StPost x w e w'):e=.returned (.tuple #[.agg #[.int .i64 0,.int .i64 0,.int .u8 0,.int .u8 0],.bool false])∧Below w.heap.size w w':=by
 unfold StPost at hp;rw [h] at hp;exact hp
theorem StPost.of_yes {x c n lo hi:Nat} {w w':World} {e:Ending} (h:st x=some (c,n,lo,hi)) (hp:StPost x w e w'):e=.returned (.tuple #[.agg #[.int .i64 (c:Int),.int .i64 (n:Int),.int .u8 (lo:Int),.int .u8 (hi:Int)],.bool true])∧Below w.heap.size w w':=by
 unfold StPost at hp;rw [h] at hp;exact hp
theorem u8mask (x k:Nat) (hx:x < 256) (hk:k≤8):bits .and .u8 (x:Int) ((2^k-1:Nat):Int)=((x%2^k:Nat):Int):=by
 have:2^k≤2^8:=Nat.pow_le_pow_right (by decide) hk
 rw [u8_and_nat x (2^k-1) hx (by omega),Nat.and_two_pow_sub_one_eq_mod]
theorem st_a {x:Nat} (h:x < 128):st x=some (x,0,128,191):=by unfold st;rw [if_pos h]
theorem st_b {x:Nat} (h1:¬x < 128) (h:x < 194):st x=none:=by unfold st;rw [if_neg h1,if_pos h]
theorem st_c {x:Nat} (h1:¬x < 194) (h:x < 224):st x=some (x-192,1,128,191):=by unfold st;rw [if_neg (by omega),if_neg h1,if_pos h]
theorem st_d {x:Nat} (h1:¬x < 224) (h:x < 240):st x=some (x-224,2,if x=224 then 160 else 128,if x=237 then 159 else 191):=by unfold st;rw [if_neg (by omega),if_neg (by omega),if_neg h1,if_pos h]
theorem st_e {x:Nat} (h1:¬x < 240) (h:x < 245):st x=some (x-240,3,if x=240 then 144 else 128,if x=244 then 143 else 191):=by unfold st;rw [if_neg (by omega),if_neg (by omega),if_neg (by omega),if_neg h1,if_pos h]
theorem st_f {x:Nat} (h1:¬x < 245):st x=none:=by unfold st;rw [if_neg (by omega),if_neg (by omega),if_neg (by omega),if_neg (by omega),if_neg h1]
theorem starting_a (x:Nat) (w:World) (h1:0≤x) (h2:x≤127):Calls Tryz.prog 122 #[.int .u8 (x:Int)] w fun e w'=>StPost x w e w':=by
 have HS:Hid (st x=some (x,0,128,191)):=st_a (by omega)
 have g0:(0:Int)≤(x:Int):=by omega
 have g1:(x:Int)≤127:=by omega
 have t224:((x:Int)==224)=false:=by rw [beq_eq_false_iff_ne];omega
 have t237:((x:Int)==237)=false:=by rw [beq_eq_false_iff_ne];omega
 have t240:((x:Int)==240)=false:=by rw [beq_eq_false_iff_ne];omega
 have t244:((x:Int)==244)=false:=by rw [beq_eq_false_iff_ne];omega
 clear h1 h2
 go_enter Tryz.func122,Tryz.ntmps122
 go_wp2
 go_returns
 exact StPost.yes HS.out rfl (((Below.refl _ _).alloc (Nat.le_refl _) _).alloc (by simp) _)
theorem starting_b (x:Nat) (w:World) (h1:128≤x) (h2:x≤193):Calls Tryz.prog 122 #[.int .u8 (x:Int)] w fun e w'=>StPost x w e w':=by
 have HS:Hid (st x=none):=st_b (by omega) (by omega)
 have g0:(128:Int)≤(x:Int):=by omega
 have g1:(x:Int)≤193:=by omega
 have t224:((x:Int)==224)=false:=by rw [beq_eq_false_iff_ne];omega
 have t237:((x:Int)==237)=false:=by rw [beq_eq_false_iff_ne];omega
 have t240:((x:Int)==240)=false:=by rw [beq_eq_false_iff_ne];omega
 have t244:((x:Int)==244)=false:=by rw [beq_eq_false_iff_ne];omega
 clear h1 h2
 go_enter Tryz.func122,Tryz.ntmps122
 go_wp2
 go_returns
 exact StPost.no HS.out (((Below.refl _ _).alloc (Nat.le_refl _) _).alloc (by simp) _)
theorem starting_c (x:Nat) (w:World) (h1:194≤x) (h2:x≤223):Calls Tryz.prog 122 #[.int .u8 (x:Int)] w fun e w'=>StPost x w e w':=by
 obtain ⟨r,hr⟩:∃r:Nat,r=x-192:=⟨_,rfl⟩
 have e1:=u8mask x 5 (by omega) (by decide)
 rw [show ((2^5-1:Nat):Int)=31 from rfl,show x%2^5=r by omega] at e1
 have HS:Hid (st x=some (r,1,128,191)):=by rw [hr];exact st_c (by omega) (by omega)
 have r0:(r:Int) < 64:=by omega
 clear hr
 have g0:(194:Int)≤(x:Int):=by omega
 have g1:(x:Int)≤223:=by omega
 have t224:((x:Int)==224)=false:=by rw [beq_eq_false_iff_ne];omega
 have t237:((x:Int)==237)=false:=by rw [beq_eq_false_iff_ne];omega
 have t240:((x:Int)==240)=false:=by rw [beq_eq_false_iff_ne];omega
 have t244:((x:Int)==244)=false:=by rw [beq_eq_false_iff_ne];omega
 clear h1 h2
 go_enter Tryz.func122,Tryz.ntmps122
 go_wp2
 go_returns
 exact StPost.yes HS.out rfl (((Below.refl _ _).alloc (Nat.le_refl _) _).alloc (by simp) _)
theorem starting_d1 (x:Nat) (w:World) (h1:224≤x) (h2:x≤224):Calls Tryz.prog 122 #[.int .u8 (x:Int)] w fun e w'=>StPost x w e w':=by
 obtain ⟨r,hr⟩:∃r:Nat,r=x-224:=⟨_,rfl⟩
 have e1:=u8mask x 4 (by omega) (by decide)
 rw [show ((2^4-1:Nat):Int)=15 from rfl,show x%2^4=r by omega] at e1
 have HS:Hid (st x=some (r,2,160,191)):=by
  show st x=_
  rw [st_d (by omega) (by omega),if_pos (by omega),if_neg (by omega),hr]
 have r0:(r:Int) < 64:=by omega
 clear hr
 have g0:(224:Int)≤(x:Int):=by omega
 have g1:(x:Int)≤224:=by omega
 have t224:((x:Int)==224)=true:=by rw [beq_iff_eq];omega
 have t237:((x:Int)==237)=false:=by rw [beq_eq_false_iff_ne];omega
 have t240:((x:Int)==240)=false:=by rw [beq_eq_false_iff_ne];omega
 have t244:((x:Int)==244)=false:=by rw [beq_eq_false_iff_ne];omega
 clear h1 h2
 go_enter Tryz.func122,Tryz.ntmps122
 go_wp2
 go_returns
 exact StPost.yes HS.out rfl (((Below.refl _ _).alloc (Nat.le_refl _) _).alloc (by simp) _)
theorem starting_d2 (x:Nat) (w:World) (h1:225≤x) (h2:x≤236):Calls Tryz.prog 122 #[.int .u8 (x:Int)] w fun e w'=>StPost x w e w':=by
 obtain ⟨r,hr⟩:∃r:Nat,r=x-224:=⟨_,rfl⟩
 have e1:=u8mask x 4 (by omega) (by decide)
 rw [show ((2^4-1:Nat):Int)=15 from rfl,show x%2^4=r by omega] at e1
 have HS:Hid (st x=some (r,2,128,191)):=by
  show st x=_
  rw [st_d (by omega) (by omega),if_neg (by omega),if_neg (by omega),hr]
 have r0:(r:Int) < 64:=by omega
 clear hr
 have g0:(225:Int)≤(x:Int):=by omega
 have g1:(x:Int)≤236:=by omega
 have t224:((x:Int)==224)=false:=by rw [beq_eq_false_iff_ne];omega
 have t237:((x:Int)==237)=false:=by rw [beq_eq_false_iff_ne];omega
 have t240:((x:Int)==240)=false:=by rw [beq_eq_false_iff_ne];omega
 have t244:((x:Int)==244)=false:=by rw [beq_eq_false_iff_ne];omega
 clear h1 h2
 go_enter Tryz.func122,Tryz.ntmps122
 go_wp2
 go_returns
 exact StPost.yes HS.out rfl (((Below.refl _ _).alloc (Nat.le_refl _) _).alloc (by simp) _)
theorem starting_d3 (x:Nat) (w:World) (h1:237≤x) (h2:x≤237):Calls Tryz.prog 122 #[.int .u8 (x:Int)] w fun e w'=>StPost x w e w':=by
 obtain ⟨r,hr⟩:∃r:Nat,r=x-224:=⟨_,rfl⟩
 have e1:=u8mask x 4 (by omega) (by decide)
 rw [show ((2^4-1:Nat):Int)=15 from rfl,show x%2^4=r by omega] at e1
 have HS:Hid (st x=some (r,2,128,159)):=by
  show st x=_
  rw [st_d (by omega) (by omega),if_neg (by omega),if_pos (by omega),hr]
 have r0:(r:Int) < 64:=by omega
 clear hr
 have g0:(237:Int)≤(x:Int):=by omega
 have g1:(x:Int)≤237:=by omega
 have t224:((x:Int)==224)=false:=by rw [beq_eq_false_iff_ne];omega
 have t237:((x:Int)==237)=true:=by rw [beq_iff_eq];omega
 have t240:((x:Int)==240)=false:=by rw [beq_eq_false_iff_ne];omega
 have t244:((x:Int)==244)=false:=by rw [beq_eq_false_iff_ne];omega
 clear h1 h2
 go_enter Tryz.func122,Tryz.ntmps122
 go_wp2
 go_returns
 exact StPost.yes HS.out rfl (((Below.refl _ _).alloc (Nat.le_refl _) _).alloc (by simp) _)
theorem starting_d4 (x:Nat) (w:World) (h1:238≤x) (h2:x≤239):Calls Tryz.prog 122 #[.int .u8 (x:Int)] w fun e w'=>StPost x w e w':=by
 obtain ⟨r,hr⟩:∃r:Nat,r=x-224:=⟨_,rfl⟩
 have e1:=u8mask x 4 (by omega) (by decide)
 rw [show ((2^4-1:Nat):Int)=15 from rfl,show x%2^4=r by omega] at e1
 have HS:Hid (st x=some (r,2,128,191)):=by
  show st x=_
  rw [st_d (by omega) (by omega),if_neg (by omega),if_neg (by omega),hr]
 have r0:(r:Int) < 64:=by omega
 clear hr
 have g0:(238:Int)≤(x:Int):=by omega
 have g1:(x:Int)≤239:=by omega
 have t224:((x:Int)==224)=false:=by rw [beq_eq_false_iff_ne];omega
 have t237:((x:Int)==237)=false:=by rw [beq_eq_false_iff_ne];omega
 have t240:((x:Int)==240)=false:=by rw [beq_eq_false_iff_ne];omega
 have t244:((x:Int)==244)=false:=by rw [beq_eq_false_iff_ne];omega
 clear h1 h2
 go_enter Tryz.func122,Tryz.ntmps122
 go_wp2
 go_returns
 exact StPost.yes HS.out rfl (((Below.refl _ _).alloc (Nat.le_refl _) _).alloc (by simp) _)
theorem starting_e1 (x:Nat) (w:World) (h1:240≤x) (h2:x≤240):Calls Tryz.prog 122 #[.int .u8 (x:Int)] w fun e w'=>StPost x w e w':=by
 obtain ⟨r,hr⟩:∃r:Nat,r=x-240:=⟨_,rfl⟩
 have e1:=u8mask x 3 (by omega) (by decide)
 rw [show ((2^3-1:Nat):Int)=7 from rfl,show x%2^3=r by omega] at e1
 have HS:Hid (st x=some (r,3,144,191)):=by
  show st x=_
  rw [st_e (by omega) (by omega),if_pos (by omega),if_neg (by omega),hr]
 have r0:(r:Int) < 64:=by omega
 clear hr
 have g0:(240:Int)≤(x:Int):=by omega
 have g1:(x:Int)≤240:=by omega
 have t224:((x:Int)==224)=false:=by rw [beq_eq_false_iff_ne];omega
 have t237:((x:Int)==237)=false:=by rw [beq_eq_false_iff_ne];omega
 have t240:((x:Int)==240)=true:=by rw [beq_iff_eq];omega
 have t244:((x:Int)==244)=false:=by rw [beq_eq_false_iff_ne];omega
 clear h1 h2
 go_enter Tryz.func122,Tryz.ntmps122
 go_wp2
 go_returns
 exact StPost.yes HS.out rfl (((Below.refl _ _).alloc (Nat.le_refl _) _).alloc (by simp) _)
theorem starting_e2 (x:Nat) (w:World) (h1:241≤x) (h2:x≤243):Calls Tryz.prog 122 #[.int .u8 (x:Int)] w fun e w'=>StPost x w e w':=by
 obtain ⟨r,hr⟩:∃r:Nat,r=x-240:=⟨_,rfl⟩
 have e1:=u8mask x 3 (by omega) (by decide)
 rw [show ((2^3-1:Nat):Int)=7 from rfl,show x%2^3=r by omega] at e1
 have HS:Hid (st x=some (r,3,128,191)):=by
  show st x=_
  rw [st_e (by omega) (by omega),if_neg (by omega),if_neg (by omega),hr]
 have r0:(r:Int) < 64:=by omega
 clear hr
 have g0:(241:Int)≤(x:Int):=by omega
 have g1:(x:Int)≤243:=by omega
 have t224:((x:Int)==224)=false:=by rw [beq_eq_false_iff_ne];omega
 have t237:((x:Int)==237)=false:=by rw [beq_eq_false_iff_ne];omega
 have t240:((x:Int)==240)=false:=by rw [beq_eq_false_iff_ne];omega
 have t244:((x:Int)==244)=false:=by rw [beq_eq_false_iff_ne];omega
 clear h1 h2
 go_enter Tryz.func122,Tryz.ntmps122
 go_wp2
 go_returns
 exact StPost.yes HS.out rfl (((Below.refl _ _).alloc (Nat.le_refl _) _).alloc (by simp) _)
theorem starting_e3 (x:Nat) (w:World) (h1:244≤x) (h2:x≤244):Calls Tryz.prog 122 #[.int .u8 (x:Int)] w fun e w'=>StPost x w e w':=by
 obtain ⟨r,hr⟩:∃r:Nat,r=x-240:=⟨_,rfl⟩
 have e1:=u8mask x 3 (by omega) (by decide)
 rw [show ((2^3-1:Nat):Int)=7 from rfl,show x%2^3=r by omega] at e1
 have HS:Hid (st x=some (r,3,128,143)):=by
  show st x=_
  rw [st_e (by omega) (by omega),if_neg (by omega),if_pos (by omega),hr]
 have r0:(r:Int) < 64:=by omega
 clear hr
 have g0:(244:Int)≤(x:Int):=by omega
 have g1:(x:Int)≤244:=by omega
 have t224:((x:Int)==224)=false:=by rw [beq_eq_false_iff_ne];omega
 have t237:((x:Int)==237)=false:=by rw [beq_eq_false_iff_ne];omega
 have t240:((x:Int)==240)=false:=by rw [beq_eq_false_iff_ne];omega
 have t244:((x:Int)==244)=true:=by rw [beq_iff_eq];omega
 clear h1 h2
 go_enter Tryz.func122,Tryz.ntmps122
 go_wp2
 go_returns
 exact StPost.yes HS.out rfl (((Below.refl _ _).alloc (Nat.le_refl _) _).alloc (by simp) _)
theorem starting_f (x:Nat) (w:World) (h1:245≤x) (h2:x≤255):Calls Tryz.prog 122 #[.int .u8 (x:Int)] w fun e w'=>StPost x w e w':=by
 have HS:Hid (st x=none):=st_f (by omega)
 have g0:(245:Int)≤(x:Int):=by omega
 have g1:(x:Int)≤255:=by omega
 have t224:((x:Int)==224)=false:=by rw [beq_eq_false_iff_ne];omega
 have t237:((x:Int)==237)=false:=by rw [beq_eq_false_iff_ne];omega
 have t240:((x:Int)==240)=false:=by rw [beq_eq_false_iff_ne];omega
 have t244:((x:Int)==244)=false:=by rw [beq_eq_false_iff_ne];omega
 clear h1 h2
 go_enter Tryz.func122,Tryz.ntmps122
 go_wp2
 go_returns
 exact StPost.no HS.out (((Below.refl _ _).alloc (Nat.le_refl _) _).alloc (by simp) _)
theorem starting_calls (x:Nat) (w:World) (hx:x < 256):Calls Tryz.prog 122 #[.int .u8 (x:Int)] w fun e w'=>StPost x w e w':=by
 rcases (by omega:x≤127∨(128≤x∧x≤193)∨(194≤x∧x≤223)∨(224≤x∧x≤224)∨(225≤x∧x≤236)∨(237≤x∧x≤237)∨(238≤x∧x≤239)∨(240≤x∧x≤240)∨(241≤x∧x≤243)∨(244≤x∧x≤244)∨(245≤x∧x≤255)) with h | ⟨h1,h2⟩ | ⟨h1,h2⟩ | ⟨h1,h2⟩ | ⟨h1,h2⟩ | ⟨h1,h2⟩ | ⟨h1,h2⟩ | ⟨h1,h2⟩ | ⟨h1,h2⟩ | ⟨h1,h2⟩ | ⟨h1,h2⟩
 ·exact starting_a x w (Nat.zero_le _) h
 ·exact starting_b x w h1 h2
 ·exact starting_c x w h1 h2
 ·exact starting_d1 x w h1 h2
 ·exact starting_d2 x w h1 h2
 ·exact starting_d3 x w h1 h2
 ·exact starting_d4 x w h1 h2
 ·exact starting_e1 x w h1 h2
 ·exact starting_e2 x w h1 h2
 ·exact starting_e3 x w h1 h2
 ·exact starting_f x w h1 h2
def NextPost (l:List UInt8) (w:World) (e:Ending) (w':World):Prop :=
 e=.returned (.tuple #[.int .i64 ((nextN l).1:Int),.int .i64 ((nextN l).2.1:Int),.bool (nextN l).2.2])∧Below w.heap.size w w'
theorem NextPost.mk' {l:List UInt8} {w w':World} {c k:Nat} {b:Bool} (h:nextN l=(c,k,b)) {e:Ending} (he:e=.returned (.tuple #[.int .i64 (c:Int),.int .i64 (k:Int),.bool b])) (hb:Below w.heap.size w w'):NextPost l w e w':=by
 unfold NextPost;rw [h];exact ⟨he,hb⟩
theorem next_none (x:UInt8) (r:List UInt8) (h:st x.toNat=none):nextN (x::r)=(65533,1,false):=by simp only [nextN,h]
def Room (c m:Nat):Prop:=(m=3→c < 8)∧(m=2→c < 512)∧(m=1→c < 32768)∧c < 2097152∧m≤3
theorem st_room {x c n lo hi:Nat} (h:st x=some (c,n,lo,hi)) (hx:x < 256):Room c n∧128≤lo∧lo≤160∧143≤hi∧hi≤191:=by
 unfold st at h
 split at h
 ·simp only [Option.some.injEq,Prod.mk.injEq] at h;unfold Room;omega
 ·split at h
  ·cases h
  ·split at h
   ·simp only [Option.some.injEq,Prod.mk.injEq] at h;unfold Room;omega
   ·split at h
    ·simp only [Option.some.injEq,Prod.mk.injEq] at h
     obtain ⟨rfl,rfl,rfl,rfl⟩:=h
     unfold Room
     refine ⟨by omega,?_,?_,?_,?_⟩<;>split<;>omega
    ·split at h
     ·simp only [Option.some.injEq,Prod.mk.injEq] at h
      obtain ⟨rfl,rfl,rfl,rfl⟩:=h
      unfold Room
      refine ⟨by omega,?_,?_,?_,?_⟩<;>split<;>omega
     ·cases h
theorem Room.step {c m r:Nat} (h:Room c (m+1)) (hr:r < 64):Room (c * 64+r) m:=by unfold Room at *;omega
theorem or64 (c r:Nat) (hc:c < 2097152) (hr:r < 64):bits .or .i64 ((c:Int) * 64) (r:Int)=((c * 64+r:Nat):Int):=by
 have:=or_mark (c * 64) r 6 c (by omega) hr
 rw [← this,← i64_or (c * 64) r (by omega) (by omega)]
 rw [show ((c * 64:Nat):Int)=(c:Int) * 64 by omega]
theorem drop_at {l:List UInt8} {i:Nat} (h:i < l.length):l.drop i=l[i]::l.drop (i+1):=(List.drop_eq_getElem_cons h)
theorem next_calls (v:Value) (l:List UInt8) (w:World) (hv:BRow w v l) (hne:l≠[]) (hlen:l.length≤100000) :
 Calls Tryz.prog 86 #[v] w fun e w'=>NextPost l w e w':=by
 obtain ⟨a,cap,rfl,h1,h2,h3⟩:=hv
 obtain ⟨b,off,rfl,hbl,hc⟩:=h3 hne
 have HC:=hid hc
 have hp:0 < l.length:=List.length_pos_iff.2 hne
 have hc0:w.cell? ⟨b,off,none⟩=some (.int .u8 (l[0].toNat:Int)):=hc 0 hp
 have HL:=hid hlen
 have hp0:(0:Int) < (l.length:Int):=by omega
 have hl1:(l.length:Int)≤100000:=by omega
 have HD:Hid (l=l[0]::l.drop 1):=by
  show l=_
  have:=drop_at hp
  rwa [List.drop_zero] at this
 clear h3 hc hlen h1 h2
 have HP:=hid hp
 have hx:=byte_lt l[0]
 have HX:=hid hx
 clear hx
 cases hst:st l[0].toNat with
 | none =>
   have HE:Hid (nextN l=(65533,1,false)):=by
    show nextN l=_
    rw [HD.out];exact next_none _ _ hst
   have HS:=hid (fun w=>(starting_calls l[0].toNat w HX.out).mono fun e w' h=>StPost.of_no hst h)
   clear hst hne HD
   generalize l[0].toNat=x at *
   clear hp
   go_enter Tryz.func86,Tryz.ntmps86
   go_wp2_with fail
   refine (HS.out _).mono ?_
   rintro e w1 ⟨rfl,hb⟩
   have HB:=hid (hb.alloc hb.size (.cells #[.int .i64 0,.int .i64 0,.int .u8 0,.int .u8 0] 137))
   clear hb
   go_wp2_with fail
   go_ret3
   exact NextPost.mk' HE.out rfl HB.out
 | some q =>
   obtain ⟨c,n,lo,hi⟩:=q
   have HE:Hid (nextN l=goN c lo hi 1 (l.drop 1) n):=by
    show nextN l=_
    conv=>lhs;rw [HD.out]
    exact next_cons _ _ hst
   obtain ⟨hroom,b1,b2,b3,b4⟩:=st_room hst HX.out
   have HS:=hid (fun w=>(starting_calls l[0].toNat w HX.out).mono fun e w' h=>StPost.of_yes hst h)
   have HR:=hid hroom
   have HBD:=hid (And.intro (And.intro b1 b2) (And.intro b3 b4))
   clear hst hne HD hroom b1 b2 b3 b4
   generalize l[0].toNat=x at *
   clear hp
   go_enter Tryz.func86,Tryz.ntmps86
   go_wp2_with fail
   refine (HS.out _).mono ?_
   rintro e w1 ⟨rfl,hb⟩
   have HB:=hid (hb.alloc hb.size (.cells #[.int .i64 (c:Int),.int .i64 (n:Int),.int .u8 (lo:Int),.int .u8 (hi:Int)] 137))
   clear hb
   go_wp2_with fail
   go_quiet (fail)
   have HB2:=hid (below_drewN HB.out nq)
   have hn1:((w1.alloc (.cells #[.int .i64 (c:Int),.int .i64 (n:Int),.int .u8 (lo:Int),.int .u8 (hi:Int)] 137)).drewN nq).cell? ⟨w1.heap.size,1,none⟩=some (.int .i64 (n:Int)) :=
    ((below_drewN (Below.refl (w1.heap.size+1) _) nq).cell (p:=⟨w1.heap.size,1,none⟩) (Nat.lt_succ_self _)).trans (by rw [World.cell?_alloc_at _ _ _ _ rfl];rfl)
   generalize (w1.alloc (.cells #[.int .i64 (c:Int),.int .i64 (n:Int),.int .u8 (lo:Int),.int .u8 (hi:Int)] 137)).drewN nq=wx at *
   generalize w1.heap.size=B at *
   clear HB HS hc0 HX
   have hn3:(n:Int)≤3:=by have:=HR.out.2.2.2.2;omega
   go_wp2_with fail
   go_loop [2,7,8,9] (fun sg lo hi i=>∃(k m c lo' hi':Nat),k+m=n+1∧1≤k∧k≤l.length∧i=.int .i64 (k:Int)∧sg=.int .i64 (c:Int)∧lo=.int .u8 (lo':Int)∧hi=.int .u8 (hi':Int)∧nextN l=goN c lo' hi' k (l.drop k) m∧Room c m) (fun _ _ _ i=>n+1-(intOf i).toNat)
   case atStart=>exact ⟨1,n,c,lo,hi,by omega,Nat.le_refl _,HP.out,rfl,rfl,rfl,rfl,HE.out,HR.out⟩
   case round =>
    clear HE HR HBD
    obtain ⟨k,m,c,lo,hi,hkm,hk1,hkl,rfl,rfl,rfl,rfl,he,hr⟩:=hrel
    have HE:=hid he
    have HR:=hid hr
    have HK:=hid (And.intro hkm (And.intro hk1 hkl))
    have c0:(c:Int) < 2097152:=by have:=hr.2.2.2.1;omega
    have k0:(1:Int)≤(k:Int):=by omega
    have k1:(k:Int)≤(l.length:Int):=by omega
    clear he hr
    cases m with
    | zero =>
      have hkn:¬(k:Int)≤(n:Int):=by omega
      have HQ:Hid (k=n+1):=by show k=n+1;omega
      clear hkm hk1 hkl
      rw [goN] at HE
      go_wp2_with fail
      go_quiet (fail)
      have HB3:=hid (below_drewN HB2.out nq)
      generalize wx.drewN nq=wy at *
      go_wp2_with fail
      go_ret3
      exact NextPost.mk' HE.out (by rw [HQ.out];go_num) HB3.out
    | succ m =>
      have hkn:(k:Int)≤(n:Int):=by omega
      by_cases hend:k=l.length
      ·have t0:((k:Int)==(l.length:Int))=true:=by rw [beq_iff_eq];omega
       rw [List.drop_eq_nil_of_le (by omega),goN] at HE
       clear hkm hk1 hkl hend
       go_wp2_with fail
       go_ret3
       exact NextPost.mk' HE.out rfl HB2.out
      ·have hlt:k < l.length:=by omega
       have t0:((k:Int)==(l.length:Int))=false:=by rw [beq_eq_false_iff_ne];omega
       have k2:(k:Int) < (l.length:Int):=by omega
       have hck:wx.cell? ⟨b,off+k,none⟩=some (.int .u8 (l[k].toNat:Int)):=(HB2.out.cell (p:=⟨b,off+k,none⟩) hbl).trans (HC.out k hlt)
       rw [drop_at hlt] at HE
       have hx:=byte_lt l[k]
       generalize l[k]=y at *
       clear hkm hk1 hkl hend hlt
       by_cases hbad:y.toNat < lo∨hi < y.toNat
       ·rw [goN,if_pos hbad] at HE
        by_cases hb1:y.toNat < lo
        ·have t1:(y.toNat:Int) < (lo:Int):=by omega
         clear hbad hb1 hx
         go_wp2_with fail
         go_ret3
         exact NextPost.mk' HE.out rfl HB2.out
        ·have t1:¬(y.toNat:Int) < (lo:Int):=by omega
         have t2:(hi:Int) < (y.toNat:Int):=by omega
         clear hbad hb1 hx
         go_wp2_with fail
         go_ret3
         exact NextPost.mk' HE.out rfl HB2.out
       ·rw [go_step hbad] at HE
        have t1:¬(y.toNat:Int) < (lo:Int):=by omega
        have t2:¬(hi:Int) < (y.toNat:Int):=by omega
        have e1:=u8mask y.toNat 6 hx (by decide)
        rw [show ((2^6-1:Nat):Int)=63 from rfl,show y.toNat%2^6=y.toNat%64 from rfl] at e1
        have hr6:y.toNat%64 < 64:=Nat.mod_lt _ (by decide)
        have e2:=or64 c (y.toNat%64) (by omega) hr6
        have HR2:=hid (HR.out.step hr6)
        generalize y.toNat%64=r at *
        generalize c * 64+r=c2 at *
        have r0:(r:Int) < 64:=by omega
        clear hbad hx hr6
        go_wp2_with fail
        go_round
        case rel=>exact ⟨k+1,m,c2,128,191,by have:=HK.out.1;omega,by omega,by omega,by go_num,rfl,rfl,rfl,HE.out,HR2.out⟩
        case measure=>simp [intOf];omega
theorem next_at {l:List UInt8} {k c n:Nat} {b:Bool} (hq:nextN (l.drop k)=(c,n,b)) {v:Value} {w:World} (hv:BRow w v (l.drop k)) (hk:k < l.length) (hlen:l.length≤100000) :
 Calls Tryz.prog 86 #[v] w fun e w'=>e=.returned (.tuple #[.int .i64 (c:Int),.int .i64 (n:Int),.bool b])∧Below w.heap.size w w':=by
 refine (next_calls v (l.drop k) w hv (drop_ne hk) (by rw [List.length_drop];omega)).mono fun e w' h=>?_
 unfold NextPost at h
 rw [hq] at h
 exact h
theorem one_int (w:World) (x:Int):IRow (w.alloc (.cells #[.int .i64 x] 3)) (.slice (some ⟨w.heap.size,0,none⟩) 1 1) [x]:=Row.lit fi w [x] 3 (0,0) (by simp)
theorem lossy_calls (v:Value) (l:List UInt8) (w:World) (hv:BRow w v l) (hlen:l.length≤100000) :
 Calls Tryz.prog 65 #[v] w fun e w'=>(∃v',e=.returned v'∧IOwn w' w.heap.size v' (lossyL l))∧Below w.heap.size w w':=by
 have HV:=hid hv
 have HL:=hid hlen
 obtain ⟨a,cap,rfl,h1,h2,h3⟩:=hv
 have hmk:=makeI l.length (by omega)
 have hl1:(l.length:Int)≤100000:=by omega
 have hc1:(l.length:Int)≤(cap:Int):=by omega
 have hc2:(cap:Int)≤9223372036854775807:=by unfold maxLen at h2;omega
 clear h3 hlen h1 h2
 go_enter Tryz.func65,Tryz.ntmps65
 go_wp2
 go_loopw [3,4] (fun v i wr=>∃(k:Nat) (o:List Int),k≤l.length∧i=.int .i64 (k:Int)∧IOwn wr w.heap.size v o∧Below w.heap.size w wr∧LosAt l o k) (fun _ i _=>l.length-(intOf i).toNat)
 case atStart=>exact ⟨0,[],Nat.zero_le _,rfl,Own.made fi 3 w _ _ (size_madeCells _ _) (by have:=HL.out;omega),(Below.refl _ _).alloc (Nat.le_refl _) _,LosAt.start l⟩
 case round =>
  obtain ⟨k,o,hk,rfl,ho,hb,hd⟩:=hrel
  have HO:=hid ho
  have HB:=hid hb
  have HD:=hid hd
  have HS:=hid hb.size
  clear hmk ho hb hd
  by_cases hlt:k < l.length
  ·obtain ⟨b,off,rfl,_,_,_,hrow⟩:=(HV.out.below HB.out).from k hlt
   have HR:=hid hrow
   have HK:=hid hlt
   have k0:(0:Int)≤(k:Int):=by omega
   have k1:(k:Int) < (l.length:Int):=by omega
   clear hrow hlt hk
   rcases hq:nextN (l.drop k) with ⟨c,n,wh⟩
   have HQ:=hid hq
   obtain ⟨f1,f2,f3⟩:=next_fits HK.out hq
   have HF:=hid (And.intro f1 f2)
   have n0:(1:Int)≤(n:Int):=by omega
   have n1:(k:Int)+(n:Int)≤(l.length:Int):=by omega
   have HC:=hid (next_at hq HR.out HK.out HL.out)
   clear hq f1 f2 f3
   go_wp2_with fail
   refine HC.out.mono ?_
   rintro e w1 ⟨rfl,hb1⟩
   have HB1:=hid (HB.out.trans (hb1.mono HS.out))
   have HO1:=hid (HO.out.below hb1)
   have HS1:=hid (Nat.le_trans HS.out hb1.size)
   clear hb1 HC HB HO HS HR
   have HX:=hid (HD.out.step HK.out HQ.out)
   obtain ⟨v2,w2,hr,ho2,hg⟩:=appendI_run (HO1.out.alloc (.cells #[.int .i64 (c:Int)] 3)) (one_int w1 (c:Int)) (by have:=HD.out.2;have:=HL.out;have:=HK.out;simp;omega) (by have:=HS1.out;simp;omega)
   have HO2:=hid ho2
   have HB2:=hid ((HB1.out.alloc HS1.out _).grown hg (by have:=HS1.out;simp;omega) (Own.lt HO1.out))
   clear ho2 hg
   go_wp2_with (at_builtin;go_must (refine wpList_append_run hr rfl _ _ rfl rfl rfl rfl ?_))
   go_roundw
   case rel=>exact ⟨k+n,o++[(c:Int)],HF.out.2,by go_num,HO2.out,HB2.out,HX.out⟩
   case measure=>have:=HF.out;simp [intOf];omega
  ·have HX:=hid (HD.out.done hlt)
   go_wp2_with fail
   go_ret
   exact ⟨⟨_,rfl,by rw [HX.out];exact HO.out⟩,HB.out⟩
end Go.Proofs.YtigfgloenjoeoaaGreatDoor
