import Derived.Test.YtpohekldddbneaaGreatDoorDaBP
import Derived.Test.YtpohekldddbneaaGreatDoorDaBK
import Derived.Carry
import Derived.Deep.DeepCutAuto
import Derived.Deep.RegionHeld3
import Derived.Deep.DrawnRows
set_option linter.unusedVariables false
set_option linter.unusedSimpArgs false
set_option maxRecDepth 20000
set_option maxHeartbeats 16000000
namespace Go.Proofs.YtpohekldddbneaaGreatDoor
open Go.RowKit
attribute [local go_sem ↓] Go.wp_at_zero Go.wp_at_succ
theorem print4_short {n:Nat} (h:n < 4294967296):(print4R n).length≤100000:=by have:=print4_len h;omega
theorem print_short {k:Int} {s:ByteArray} {n p0 p1 p2 p3 p4 p5 p6 p7:Nat} (hn:n < 4294967296) (hx:∀x∈[p0,p1,p2,p3,p4,p5,p6,p7],x < 65536) (hs:s.size≤100000):(strOf (printR (k,s.data.toList,n,[p0,p1,p2,p3,p4,p5,p6,p7]))).size≤100000:=by
 show (printR _).length≤100000
 unfold printR
 split
 ·simp only;rw [bytes_num];exact hs
 ·split
  ·exact print4_short hn
  ·split
   ·have:=print6_len (p:=[p0,p1,p2,p3,p4,p5,p6,p7]) rfl hx
    simp only [List.length_cons,List.length_append,List.length_nil]
    omega
   ·simp
theorem may_end {w w2:World} {G X:Nat} {ps:List Value} (hz:BkH w2 X zeroH) (hg:BkH w2 G ps) (hlt:G < X) (hb:Below G w w2) (x0 x1 x2 x3 x4 x5 x6 x7 x8 x9 x10:Value) :
 Below G w (((((((((((w2.setCell ⟨X,0,none⟩ x0).setCell ⟨X,1,none⟩ x1).setCell ⟨X,2,none⟩ x2).setCell ⟨X,3,none⟩ x3).setCell ⟨X,4,none⟩ x4).setCell ⟨X,5,none⟩ x5).setCell ⟨X,6,none⟩ x6).setCell ⟨X,7,none⟩ x7).setCell ⟨X,8,none⟩ x8).setCell ⟨X,9,none⟩ x9).setCell ⟨X,10,none⟩ x10)∧BkH (((((((((((w2.setCell ⟨X,0,none⟩ x0).setCell ⟨X,1,none⟩ x1).setCell ⟨X,2,none⟩ x2).setCell ⟨X,3,none⟩ x3).setCell ⟨X,4,none⟩ x4).setCell ⟨X,5,none⟩ x5).setCell ⟨X,6,none⟩ x6).setCell ⟨X,7,none⟩ x7).setCell ⟨X,8,none⟩ x8).setCell ⟨X,9,none⟩ x9).setCell ⟨X,10,none⟩ x10) G ps∧BkH (((((((((((w2.setCell ⟨X,0,none⟩ x0).setCell ⟨X,1,none⟩ x1).setCell ⟨X,2,none⟩ x2).setCell ⟨X,3,none⟩ x3).setCell ⟨X,4,none⟩ x4).setCell ⟨X,5,none⟩ x5).setCell ⟨X,6,none⟩ x6).setCell ⟨X,7,none⟩ x7).setCell ⟨X,8,none⟩ x8).setCell ⟨X,9,none⟩ x9).setCell ⟨X,10,none⟩ x10) X [x0,x1,x2,x3,x4,x5,x6,x7,x8,x9,x10]:=by
 have hX:=hz.lt
 obtain ⟨h1,h2⟩:=fillZ hz (Below.refl X w2) (Nat.le_refl _) (Nat.le_of_lt hX) x0 x1 x2 x3 x4 x5 x6 x7 x8 x9 x10
 exact ⟨hb.trans (h2.mono (Nat.le_of_lt hlt)),(h2.block G hlt).trans hg,h1⟩
theorem may_new {w w2:World} {G:Nat} {ps:List Value} (hg:BkH w2 G ps) (hb:Below G w w2) (x0 x1 x2 x3 x4 x5 x6 x7 x8 x9 x10:Value) :
 Below G w (w2.alloc (.cells #[x0,x1,x2,x3,x4,x5,x6,x7,x8,x9,x10] 27))∧BkH (w2.alloc (.cells #[x0,x1,x2,x3,x4,x5,x6,x7,x8,x9,x10] 27)) G ps∧BkH (w2.alloc (.cells #[x0,x1,x2,x3,x4,x5,x6,x7,x8,x9,x10] 27)) w2.heap.size [x0,x1,x2,x3,x4,x5,x6,x7,x8,x9,x10] :=
 ⟨hb.alloc (Nat.le_of_lt hg.lt) _,Bk.below hg (ballH _ _),heap_alloc_new w2 _⟩
theorem pair_eq {z:HostN×Nat} {l:List Nat} (h:z.1.2.2.2=l):z=((z.1.1,z.1.2.1,z.1.2.2.1,l),z.2):=by subst h;rfl
theorem may_flag {h:HostN} {M fl:Bool} (hf:(h.1==1||h.1==2)=fl) (hM:mayR h=M):((hostR (printR h) fl).2==0&&(hostR (printR h) fl).1==h)=M:=by
 unfold mayR at hM
 rw [hf] at hM
 exact hM
theorem rmay_one (s:ByteArray) (n p0 p1 p2 p3 p4 p5 p6 p7:Nat) (w:World) (hn:n < 4294967296) (hx:∀x∈[p0,p1,p2,p3,p4,p5,p6,p7],x < 65536) (hs:s.size≤100000) :
 Calls Tryz.prog 16 #[hostV 1 s n p0 p1 p2 p3 p4 p5 p6 p7] w fun e w'=>e=.returned (.bool (mayR (1,s.data.toList,n,[p0,p1,p2,p3,p4,p5,p6,p7])))∧Below w.heap.size w w':=by
 have HPr:=hid (fun w=>rprint_calls 1 s n p0 p1 p2 p3 p4 p5 p6 p7 w hn hx hs)
 have HSz:=print_short (k:=1) (s:=s) hn hx hs
 have HPa:=hid (fun w=>phost_calls (strOf (printR (1,s.data.toList,n,[p0,p1,p2,p3,p4,p5,p6,p7]))) true w HSz)
 rw [str_data] at HPa
 obtain ⟨M,hM⟩:∃M,mayR (1,s.data.toList,n,[p0,p1,p2,p3,p4,p5,p6,p7])=M:=⟨_,rfl⟩
 rw [hM]
 have HM:Hid (((hostR (printR (1,s.data.toList,n,[p0,p1,p2,p3,p4,p5,p6,p7])) true).2==0&&(hostR (printR (1,s.data.toList,n,[p0,p1,p2,p3,p4,p5,p6,p7])) true).1==((1,s.data.toList,n,[p0,p1,p2,p3,p4,p5,p6,p7]):HostN))=M):=hM
 have HG0:Hid (BkH (w.alloc (.cells #[.int .i64 1,.string s,.int .u32 (n:Int),.int .u16 (p0:Int),.int .u16 (p1:Int),.int .u16 (p2:Int),.int .u16 (p3:Int),.int .u16 (p4:Int),.int .u16 (p5:Int),.int .u16 (p6:Int),.int .u16 (p7:Int)] 27)) w.heap.size [.int .i64 1,.string s,.int .u32 (n:Int),.int .u16 (p0:Int),.int .u16 (p1:Int),.int .u16 (p2:Int),.int .u16 (p3:Int),.int .u16 (p4:Int),.int .u16 (p5:Int),.int .u16 (p6:Int),.int .u16 (p7:Int)]):=heap_alloc_new w _
 have HB0:=hid (ballH w (.cells #[.int .i64 1,.string s,.int .u32 (n:Int),.int .u16 (p0:Int),.int .u16 (p1:Int),.int .u16 (p2:Int),.int .u16 (p3:Int),.int .u16 (p4:Int),.int .u16 (p5:Int),.int .u16 (p6:Int),.int .u16 (p7:Int)] 27))
 generalize hostR (printR (1,s.data.toList,n,[p0,p1,p2,p3,p4,p5,p6,p7]))=HR at *
 generalize strOf (printR (1,s.data.toList,n,[p0,p1,p2,p3,p4,p5,p6,p7]))=PS at *
 clear hM HSz hs hn hx
 unfold hostV at HPr ⊢
 go_enter Tryz.func16,Tryz.ntmps16
 go_wp2_with fail
 generalize w.alloc (.cells #[.int .i64 1,.string s,.int .u32 (n:Int),.int .u16 (p0:Int),.int .u16 (p1:Int),.int .u16 (p2:Int),.int .u16 (p3:Int),.int .u16 (p4:Int),.int .u16 (p5:Int),.int .u16 (p6:Int),.int .u16 (p7:Int)] 27)=w0 at *
 generalize hGG:w.heap.size=G at *
 have HGG:=hid hGG
 clear hGG
 go_cut [3,4] (fun vx ve wx=>∃X,vx=.pointer (some ⟨X,0,none⟩)∧G < X∧Below G w wx∧BkH wx G [.int .i64 1,.string s,.int .u32 (n:Int),.int .u16 (p0:Int),.int .u16 (p1:Int),.int .u16 (p2:Int),.int .u16 (p3:Int),.int .u16 (p4:Int),.int .u16 (p5:Int),.int .u16 (p6:Int),.int .u16 (p7:Int)]∧∃(r1:Int) (r2:List UInt8) (r3 a0 a1 a2 a3 a4 a5 a6 a7 m:Nat),HR true=((r1,r2,r3,[a0,a1,a2,a3,a4,a5,a6,a7]),m)∧ve=.int .i64 (m:Int)∧BkH wx X [.int .i64 r1,.string (strOf r2),.int .u32 (r3:Int),.int .u16 (a0:Int),.int .u16 (a1:Int),.int .u16 (a2:Int),.int .u16 (a3:Int),.int .u16 (a4:Int),.int .u16 (a5:Int),.int .u16 (a6:Int),.int .u16 (a7:Int)])
 case first =>
  refine wp_region_held_drew (S:=fun w'=>w'.cell? ⟨G,0,none⟩=some (.int .i64 1)∧w'.cell? ⟨G,1,none⟩=some (.string s)∧w'.cell? ⟨G,2,none⟩=some (.int .u32 (n:Int))∧w'.cell? ⟨G,3,none⟩=some (.int .u16 (p0:Int))∧w'.cell? ⟨G,4,none⟩=some (.int .u16 (p1:Int))∧w'.cell? ⟨G,5,none⟩=some (.int .u16 (p2:Int))∧w'.cell? ⟨G,6,none⟩=some (.int .u16 (p3:Int))∧w'.cell? ⟨G,7,none⟩=some (.int .u16 (p4:Int))∧w'.cell? ⟨G,8,none⟩=some (.int .u16 (p5:Int))∧w'.cell? ⟨G,9,none⟩=some (.int .u16 (p6:Int))∧w'.cell? ⟨G,10,none⟩=some (.int .u16 (p7:Int))) (by kernel_rfl) ?_ (fun hHeld=>?_)
  ·exact (cellsH HG0.out).1
  have HGc:Hid (BkH w0.drew G [.int .i64 1,.string s,.int .u32 (n:Int),.int .u16 (p0:Int),.int .u16 (p1:Int),.int .u16 (p2:Int),.int .u16 (p3:Int),.int .u16 (p4:Int),.int .u16 (p5:Int),.int .u16 (p6:Int),.int .u16 (p7:Int)]):=HG0
  have HBc:=hid (HB0.out.drew)
  refine' wpAnyH_take (i:=0) (v:=?_) rfl (by kernel_rfl) (by kernel_rfl) (by kernel_rfl) (fun _ _ _ h=>h) (Or.inl ⟨by rfl,?hy0x1⟩) hHeld ?rest0x1
  case hy0x1=>(intro w hSw;(try dsimp only at hSw);go_simp;try with_reducible rfl)
  simp only [Act.put,List.setIfInBounds_toArray,List.set_cons_zero,List.set_cons_succ]
  refine' wpAnyH_take (i:=2) (v:=?_) rfl (by kernel_rfl) (by kernel_rfl) (by kernel_rfl) (fun _ _ _ h=>h) (Or.inl ⟨by rfl,?hy2x2⟩) hHeld ?rest2x2
  case hy2x2=>(intro w hSw;(try dsimp only at hSw);go_simp;try with_reducible rfl)
  simp only [Act.put,List.setIfInBounds_toArray,List.set_cons_zero,List.set_cons_succ]
  refine' wpAnyH_take (i:=3) (v:=?_) rfl (by kernel_rfl) (by kernel_rfl) (by kernel_rfl) (fun _ _ _ h=>h) (Or.inl ⟨by rfl,?hy3x3⟩) hHeld ?rest3x3
  case hy3x3=>(intro w hSw;(try dsimp only at hSw);go_simp;try with_reducible rfl)
  simp only [Act.put,List.setIfInBounds_toArray,List.set_cons_zero,List.set_cons_succ]
  refine' wpAnyH_take (i:=4) (v:=?_) rfl (by kernel_rfl) (by kernel_rfl) (by kernel_rfl) (fun _ _ _ h=>h) (Or.inl ⟨by rfl,?hy4x4⟩) hHeld ?rest4x4
  case hy4x4=>(intro w hSw;(try dsimp only at hSw);go_simp;try with_reducible rfl)
  simp only [Act.put,List.setIfInBounds_toArray,List.set_cons_zero,List.set_cons_succ]
  refine wpAnyH_ready (rs:=[1,14]) (by kernel_rfl) (by simp) ?_
  refine' (AllReadyH.cons rfl (fun K hK=>?st9x0) (AllReadyH.cons rfl (fun K hK=>?st9x1) AllReadyH.nil))
  case st9x0 =>
   go_simp
   refine (HPr.out _).mono ?_
   rintro e w1 ⟨rfl,hb1⟩
   have HBc:=hid (HBc.out.trans (hb1.mono (Nat.le_of_lt HGc.out.lt)))
   have HGc:=hid (Bk.below HGc.out hb1)
   go_wp2_with fail
   refine hK.out _ _ ?_ (fun hHeld=>?_)
   ·exact (cellsH HGc.out).1
   clear hK K
   try simp only [Act.put,List.setIfInBounds_toArray,List.set_cons_zero,List.set_cons_succ]
   refine' wpAnyH_take (i:=5) (v:=?_) rfl (by kernel_rfl) (by kernel_rfl) (by kernel_rfl) (fun _ _ _ h=>h) (Or.inl ⟨by rfl,?hy5x5⟩) hHeld ?rest5x5
   case hy5x5=>(intro w hSw;(try dsimp only at hSw);go_simp;try with_reducible rfl)
   simp only [Act.put,List.setIfInBounds_toArray,List.set_cons_zero,List.set_cons_succ]
   refine' wpAnyH_take (i:=6) (v:=undef) rfl (by kernel_rfl) (by kernel_rfl) (by kernel_rfl) (fun _ _ _ h=>h) (Or.inr ⟨by rfl,rfl⟩) hHeld ?_
   simp only [Act.put,List.setIfInBounds_toArray,List.set_cons_zero,List.set_cons_succ]
   refine' wpAnyH_take (i:=7) (v:=undef) rfl (by kernel_rfl) (by kernel_rfl) (by kernel_rfl) (fun _ _ _ h=>h) (Or.inr ⟨by rfl,rfl⟩) hHeld ?_
   simp only [Act.put,List.setIfInBounds_toArray,List.set_cons_zero,List.set_cons_succ]
   refine' wpAnyH_take (i:=8) (v:=undef) rfl (by kernel_rfl) (by kernel_rfl) (by kernel_rfl) (fun _ _ _ h=>h) (Or.inr ⟨by rfl,rfl⟩) hHeld ?_
   simp only [Act.put,List.setIfInBounds_toArray,List.set_cons_zero,List.set_cons_succ]
   refine' wpAnyH_take (i:=9) (v:=?_) rfl (by kernel_rfl) (by kernel_rfl) (by kernel_rfl) (fun _ _ _ h=>h) (Or.inl ⟨by rfl,?hy9x6⟩) hHeld ?rest9x6
   case hy9x6=>(intro w hSw;(try dsimp only at hSw);go_simp;try with_reducible rfl)
   simp only [Act.put,List.setIfInBounds_toArray,List.set_cons_zero,List.set_cons_succ]
   refine wpAnyH_ready (rs:=[10,14]) (by kernel_rfl) (by simp) ?_
   refine' (AllReadyH.cons rfl (fun K hK=>?st5x0) (AllReadyH.cons rfl (fun K hK=>?st5x1) AllReadyH.nil))
   case st5x0 =>
    go_simp
    refine (HPa.out _).mono ?_
    rintro e w2 ⟨a0,a1,a2,a3,a4,a5,a6,a7,hp,rfl,hb2⟩
    unfold hostV
    have HBc:=hid (HBc.out.trans (hb2.mono (Nat.le_of_lt HGc.out.lt)))
    have HGc:=hid (Bk.below HGc.out hb2)
    go_wp2_with fail
    refine hK.out _ _ ?_ (fun hHeld=>?_)
    ·exact (cellsH HGc.out).1
    clear hK K
    try simp only [Act.put,List.setIfInBounds_toArray,List.set_cons_zero,List.set_cons_succ]
    refine' wpAnyH_take (i:=11) (v:=?_) rfl (by kernel_rfl) (by kernel_rfl) (by kernel_rfl) (fun _ _ _ h=>h) (Or.inl ⟨by rfl,?hy11x7⟩) hHeld ?rest11x7
    case hy11x7=>(intro w hSw;(try dsimp only at hSw);go_simp;try with_reducible rfl)
    simp only [Act.put,List.setIfInBounds_toArray,List.set_cons_zero,List.set_cons_succ]
    refine' wpAnyH_take (i:=12) (v:=?_) rfl (by kernel_rfl) (by kernel_rfl) (by kernel_rfl) (fun _ _ _ h=>h) (Or.inl ⟨by rfl,?hy12x8⟩) hHeld ?rest12x8
    case hy12x8=>(intro w hSw;(try dsimp only at hSw);go_simp;try with_reducible rfl)
    simp only [Act.put,List.setIfInBounds_toArray,List.set_cons_zero,List.set_cons_succ]
    refine' wpAnyH_take (i:=13) (v:=?_) rfl (by kernel_rfl) (by kernel_rfl) (by kernel_rfl) (fun _ _ _ h=>h) (Or.inl ⟨by rfl,?hy13x9⟩) hHeld ?rest13x9
    case hy13x9=>(intro w hSw;(try dsimp only at hSw);go_simp;try with_reducible rfl)
    simp only [Act.put,List.setIfInBounds_toArray,List.set_cons_zero,List.set_cons_succ]
    refine wpAnyH_ready (rs:=[14]) (by kernel_rfl) (by simp) ?_
    refine' AllReadyH.cons rfl (fun K hK=>?_) AllReadyH.nil
    have HGp:=hid HGc.out
    have HBp:=hid HBc.out
    go_simp
    have hlt:=hid HGc.out.lt
    have HBc:=hid (HBc.out.alloc (Nat.le_of_lt HGc.out.lt) (.cells #[.int .i64 0,.string ⟨#[]⟩,.int .u32 0,.int .u16 0,.int .u16 0,.int .u16 0,.int .u16 0,.int .u16 0,.int .u16 0,.int .u16 0,.int .u16 0] 27))
    have HZc:=hid (zeroH_world (w2))
    have HGc:=hid (Bk.below HGc.out (ballH (w2) (.cells #[.int .i64 0,.string ⟨#[]⟩,.int .u32 0,.int .u16 0,.int .u16 0,.int .u16 0,.int .u16 0,.int .u16 0,.int .u16 0,.int .u16 0,.int .u16 0] 27)))
    refine hK.out _ _ ?_ (fun hHeld=>?_)
    ·exact (cellsH HGc.out).1
    clear hK K
    try simp only [Act.put,List.setIfInBounds_toArray,List.set_cons_zero,List.set_cons_succ]
    refine wpAnyH_ready (rs:=[15]) (by kernel_rfl) (by simp) ?_
    refine' AllReadyH.cons rfl (fun K hK=>?_) AllReadyH.nil
    have HE:=hid (may_new HGp.out HBp.out (.int .i64 (HR true).1.1) (.string (strOf (HR true).1.2.1)) (.int .u32 (((HR true).1.2.2.1:Nat):Int)) (.int .u16 (a0:Int)) (.int .u16 (a1:Int)) (.int .u16 (a2:Int)) (.int .u16 (a3:Int)) (.int .u16 (a4:Int)) (.int .u16 (a5:Int)) (.int .u16 (a6:Int)) (.int .u16 (a7:Int)))
    go_simp
    refine hK.out _ _ ?_ (fun hHeld=>?_)
    ·exact (cellsH HE.out.2.1).1
    clear hK K
    try simp only [Act.put,List.setIfInBounds_toArray,List.set_cons_zero,List.set_cons_succ]
    refine' wpAnyH_take (i:=16) (v:=?_) (by simp only [List.getElem?_toArray,List.getElem?_cons_succ,List.getElem?_cons_zero];rfl) (by kernel_rfl) (by kernel_rfl) (by kernel_rfl) (by intro _ _ _ h;exact h) (Or.inl ⟨by rfl,?hy16x10⟩) hHeld ?rest16x10
    case hy16x10=>(intro w hSw;(try dsimp only at hSw);go_simp;try with_reducible rfl)
    simp only [Act.put,List.setIfInBounds_toArray,List.set_cons_zero,List.set_cons_succ]
    refine wpAnyH_done (by kernel_rfl) ?_ _
    go_wp2_with fail
    go_meet
    case rel=>exact ⟨_,rfl,hlt.out,HE.out.1,HE.out.2.1,_,_,_,_,_,_,_,_,_,_,_,_,(pair_eq hp),rfl,HE.out.2.2⟩
   case st5x1 =>
    go_simp
    have hlt:=hid HGc.out.lt
    have HBc:=hid (HBc.out.alloc (Nat.le_of_lt HGc.out.lt) (.cells #[.int .i64 0,.string ⟨#[]⟩,.int .u32 0,.int .u16 0,.int .u16 0,.int .u16 0,.int .u16 0,.int .u16 0,.int .u16 0,.int .u16 0,.int .u16 0] 27))
    have HZc:=hid (zeroH_world (w1))
    have HGc:=hid (Bk.below HGc.out (ballH (w1) (.cells #[.int .i64 0,.string ⟨#[]⟩,.int .u32 0,.int .u16 0,.int .u16 0,.int .u16 0,.int .u16 0,.int .u16 0,.int .u16 0,.int .u16 0,.int .u16 0] 27)))
    refine hK.out _ _ ?_ (fun hHeld=>?_)
    ·exact (cellsH HGc.out).1
    clear hK K
    try simp only [Act.put,List.setIfInBounds_toArray,List.set_cons_zero,List.set_cons_succ]
    refine wpAnyH_ready (rs:=[10]) (by kernel_rfl) (by simp) ?_
    refine' AllReadyH.cons rfl (fun K hK=>?_) AllReadyH.nil
    go_simp
    refine (HPa.out _).mono ?_
    rintro e w2 ⟨a0,a1,a2,a3,a4,a5,a6,a7,hp,rfl,hb2⟩
    unfold hostV
    have HBc:=hid (HBc.out.trans (hb2.mono (Nat.le_of_lt HGc.out.lt)))
    have HGc:=hid (Bk.below HGc.out hb2)
    have HZc:=hid (Bk.below HZc.out hb2)
    go_wp2_with fail
    refine hK.out _ _ ?_ (fun hHeld=>?_)
    ·exact (cellsH HGc.out).1
    clear hK K
    try simp only [Act.put,List.setIfInBounds_toArray,List.set_cons_zero,List.set_cons_succ]
    refine' wpAnyH_take (i:=11) (v:=?_) rfl (by kernel_rfl) (by kernel_rfl) (by kernel_rfl) (fun _ _ _ h=>h) (Or.inl ⟨by rfl,?hy11x11⟩) hHeld ?rest11x11
    case hy11x11=>(intro w hSw;(try dsimp only at hSw);go_simp;try with_reducible rfl)
    simp only [Act.put,List.setIfInBounds_toArray,List.set_cons_zero,List.set_cons_succ]
    refine' wpAnyH_take (i:=12) (v:=?_) rfl (by kernel_rfl) (by kernel_rfl) (by kernel_rfl) (fun _ _ _ h=>h) (Or.inl ⟨by rfl,?hy12x12⟩) hHeld ?rest12x12
    case hy12x12=>(intro w hSw;(try dsimp only at hSw);go_simp;try with_reducible rfl)
    simp only [Act.put,List.setIfInBounds_toArray,List.set_cons_zero,List.set_cons_succ]
    refine' wpAnyH_take (i:=13) (v:=?_) rfl (by kernel_rfl) (by kernel_rfl) (by kernel_rfl) (fun _ _ _ h=>h) (Or.inl ⟨by rfl,?hy13x13⟩) hHeld ?rest13x13
    case hy13x13=>(intro w hSw;(try dsimp only at hSw);go_simp;try with_reducible rfl)
    simp only [Act.put,List.setIfInBounds_toArray,List.set_cons_zero,List.set_cons_succ]
    refine wpAnyH_ready (rs:=[15]) (by kernel_rfl) (by simp) ?_
    refine' AllReadyH.cons rfl (fun K hK=>?_) AllReadyH.nil
    obtain ⟨⟨c0,c1,c2,c3,c4,c5,c6,c7,c8,c9,c10⟩,⟨f0,f1,f2,f3,f4,f5,f6,f7,f8,f9,f10⟩⟩:=cellsZ HZc.out
    have HE:=hid (may_end HZc.out HGc.out hlt.out HBc.out (.int .i64 (HR true).1.1) (.string (strOf (HR true).1.2.1)) (.int .u32 (((HR true).1.2.2.1:Nat):Int)) (.int .u16 (a0:Int)) (.int .u16 (a1:Int)) (.int .u16 (a2:Int)) (.int .u16 (a3:Int)) (.int .u16 (a4:Int)) (.int .u16 (a5:Int)) (.int .u16 (a6:Int)) (.int .u16 (a7:Int)))
    go_simp
    refine hK.out _ _ ?_ (fun hHeld=>?_)
    ·exact (cellsH HE.out.2.1).1
    clear hK K
    try simp only [Act.put,List.setIfInBounds_toArray,List.set_cons_zero,List.set_cons_succ]
    refine' wpAnyH_take (i:=16) (v:=?_) (by simp only [List.getElem?_toArray,List.getElem?_cons_succ,List.getElem?_cons_zero];rfl) (by kernel_rfl) (by kernel_rfl) (by kernel_rfl) (by intro _ _ _ h;exact h) (Or.inl ⟨by rfl,?hy16x14⟩) hHeld ?rest16x14
    case hy16x14=>(intro w hSw;(try dsimp only at hSw);go_simp;try with_reducible rfl)
    simp only [Act.put,List.setIfInBounds_toArray,List.set_cons_zero,List.set_cons_succ]
    refine wpAnyH_done (by kernel_rfl) ?_ _
    go_wp2_with fail
    go_meet
    case rel=>exact ⟨_,rfl,hlt.out,HE.out.1,HE.out.2.1,_,_,_,_,_,_,_,_,_,_,_,_,(pair_eq hp),rfl,HE.out.2.2⟩
  case st9x1 =>
   go_simp
   have hlt:Hid (G < w0.heap.size):=hid HGc.out.lt
   have HBc:=hid (HBc.out.alloc (Nat.le_of_lt HGc.out.lt) (.cells #[.int .i64 0,.string ⟨#[]⟩,.int .u32 0,.int .u16 0,.int .u16 0,.int .u16 0,.int .u16 0,.int .u16 0,.int .u16 0,.int .u16 0,.int .u16 0] 27))
   have HZc:Hid (BkH (w0.drew.alloc (.cells #[.int .i64 0,.string ⟨#[]⟩,.int .u32 0,.int .u16 0,.int .u16 0,.int .u16 0,.int .u16 0,.int .u16 0,.int .u16 0,.int .u16 0,.int .u16 0] 27)) w0.heap.size zeroH):=hid (zeroH_world w0.drew)
   have HGc:=hid (Bk.below HGc.out (ballH (w0.drew) (.cells #[.int .i64 0,.string ⟨#[]⟩,.int .u32 0,.int .u16 0,.int .u16 0,.int .u16 0,.int .u16 0,.int .u16 0,.int .u16 0,.int .u16 0,.int .u16 0] 27)))
   refine hK.out _ _ ?_ (fun hHeld=>?_)
   ·exact (cellsH HGc.out).1
   clear hK K
   try simp only [Act.put,List.setIfInBounds_toArray,List.set_cons_zero,List.set_cons_succ]
   refine wpAnyH_ready (rs:=[1]) (by kernel_rfl) (by simp) ?_
   refine' AllReadyH.cons rfl (fun K hK=>?_) AllReadyH.nil
   go_simp
   refine (HPr.out _).mono ?_
   rintro e w1 ⟨rfl,hb1⟩
   have HBc:=hid (HBc.out.trans (hb1.mono (Nat.le_of_lt HGc.out.lt)))
   have HGc:=hid (Bk.below HGc.out hb1)
   have HZc:=hid (Bk.below HZc.out hb1)
   go_wp2_with fail
   refine hK.out _ _ ?_ (fun hHeld=>?_)
   ·exact (cellsH HGc.out).1
   clear hK K
   try simp only [Act.put,List.setIfInBounds_toArray,List.set_cons_zero,List.set_cons_succ]
   refine' wpAnyH_take (i:=5) (v:=?_) rfl (by kernel_rfl) (by kernel_rfl) (by kernel_rfl) (fun _ _ _ h=>h) (Or.inl ⟨by rfl,?hy5x15⟩) hHeld ?rest5x15
   case hy5x15=>(intro w hSw;(try dsimp only at hSw);go_simp;try with_reducible rfl)
   simp only [Act.put,List.setIfInBounds_toArray,List.set_cons_zero,List.set_cons_succ]
   refine' wpAnyH_take (i:=6) (v:=undef) rfl (by kernel_rfl) (by kernel_rfl) (by kernel_rfl) (fun _ _ _ h=>h) (Or.inr ⟨by rfl,rfl⟩) hHeld ?_
   simp only [Act.put,List.setIfInBounds_toArray,List.set_cons_zero,List.set_cons_succ]
   refine' wpAnyH_take (i:=7) (v:=undef) rfl (by kernel_rfl) (by kernel_rfl) (by kernel_rfl) (fun _ _ _ h=>h) (Or.inr ⟨by rfl,rfl⟩) hHeld ?_
   simp only [Act.put,List.setIfInBounds_toArray,List.set_cons_zero,List.set_cons_succ]
   refine' wpAnyH_take (i:=8) (v:=undef) rfl (by kernel_rfl) (by kernel_rfl) (by kernel_rfl) (fun _ _ _ h=>h) (Or.inr ⟨by rfl,rfl⟩) hHeld ?_
   simp only [Act.put,List.setIfInBounds_toArray,List.set_cons_zero,List.set_cons_succ]
   refine' wpAnyH_take (i:=9) (v:=?_) rfl (by kernel_rfl) (by kernel_rfl) (by kernel_rfl) (fun _ _ _ h=>h) (Or.inl ⟨by rfl,?hy9x16⟩) hHeld ?rest9x16
   case hy9x16=>(intro w hSw;(try dsimp only at hSw);go_simp;try with_reducible rfl)
   simp only [Act.put,List.setIfInBounds_toArray,List.set_cons_zero,List.set_cons_succ]
   refine wpAnyH_ready (rs:=[10]) (by kernel_rfl) (by simp) ?_
   refine' AllReadyH.cons rfl (fun K hK=>?_) AllReadyH.nil
   go_simp
   refine (HPa.out _).mono ?_
   rintro e w2 ⟨a0,a1,a2,a3,a4,a5,a6,a7,hp,rfl,hb2⟩
   unfold hostV
   have HBc:=hid (HBc.out.trans (hb2.mono (Nat.le_of_lt HGc.out.lt)))
   have HGc:=hid (Bk.below HGc.out hb2)
   have HZc:=hid (Bk.below HZc.out hb2)
   go_wp2_with fail
   refine hK.out _ _ ?_ (fun hHeld=>?_)
   ·exact (cellsH HGc.out).1
   clear hK K
   try simp only [Act.put,List.setIfInBounds_toArray,List.set_cons_zero,List.set_cons_succ]
   refine' wpAnyH_take (i:=11) (v:=?_) rfl (by kernel_rfl) (by kernel_rfl) (by kernel_rfl) (fun _ _ _ h=>h) (Or.inl ⟨by rfl,?hy11x17⟩) hHeld ?rest11x17
   case hy11x17=>(intro w hSw;(try dsimp only at hSw);go_simp;try with_reducible rfl)
   simp only [Act.put,List.setIfInBounds_toArray,List.set_cons_zero,List.set_cons_succ]
   refine' wpAnyH_take (i:=12) (v:=?_) rfl (by kernel_rfl) (by kernel_rfl) (by kernel_rfl) (fun _ _ _ h=>h) (Or.inl ⟨by rfl,?hy12x18⟩) hHeld ?rest12x18
   case hy12x18=>(intro w hSw;(try dsimp only at hSw);go_simp;try with_reducible rfl)
   simp only [Act.put,List.setIfInBounds_toArray,List.set_cons_zero,List.set_cons_succ]
   refine' wpAnyH_take (i:=13) (v:=?_) rfl (by kernel_rfl) (by kernel_rfl) (by kernel_rfl) (fun _ _ _ h=>h) (Or.inl ⟨by rfl,?hy13x19⟩) hHeld ?rest13x19
   case hy13x19=>(intro w hSw;(try dsimp only at hSw);go_simp;try with_reducible rfl)
   simp only [Act.put,List.setIfInBounds_toArray,List.set_cons_zero,List.set_cons_succ]
   refine wpAnyH_ready (rs:=[15]) (by kernel_rfl) (by simp) ?_
   refine' AllReadyH.cons rfl (fun K hK=>?_) AllReadyH.nil
   obtain ⟨⟨c0,c1,c2,c3,c4,c5,c6,c7,c8,c9,c10⟩,⟨f0,f1,f2,f3,f4,f5,f6,f7,f8,f9,f10⟩⟩:=cellsZ HZc.out
   have HE:=hid (may_end HZc.out HGc.out hlt.out HBc.out (.int .i64 (HR true).1.1) (.string (strOf (HR true).1.2.1)) (.int .u32 (((HR true).1.2.2.1:Nat):Int)) (.int .u16 (a0:Int)) (.int .u16 (a1:Int)) (.int .u16 (a2:Int)) (.int .u16 (a3:Int)) (.int .u16 (a4:Int)) (.int .u16 (a5:Int)) (.int .u16 (a6:Int)) (.int .u16 (a7:Int)))
   go_simp
   refine hK.out _ _ ?_ (fun hHeld=>?_)
   ·exact (cellsH HE.out.2.1).1
   clear hK K
   try simp only [Act.put,List.setIfInBounds_toArray,List.set_cons_zero,List.set_cons_succ]
   refine' wpAnyH_take (i:=16) (v:=?_) (by simp only [List.getElem?_toArray,List.getElem?_cons_succ,List.getElem?_cons_zero];rfl) (by kernel_rfl) (by kernel_rfl) (by kernel_rfl) (by intro _ _ _ h;exact h) (Or.inl ⟨by rfl,?hy16x20⟩) hHeld ?rest16x20
   case hy16x20=>(intro w hSw;(try dsimp only at hSw);go_simp;try with_reducible rfl)
   simp only [Act.put,List.setIfInBounds_toArray,List.set_cons_zero,List.set_cons_succ]
   refine wpAnyH_done (by kernel_rfl) ?_ _
   go_wp2_with fail
   go_meet
   case rel=>exact ⟨_,rfl,hlt.out,HE.out.1,HE.out.2.1,_,_,_,_,_,_,_,_,_,_,_,_,(pair_eq hp),rfl,HE.out.2.2⟩
 case rest =>
  obtain ⟨X,rfl,hlt,hbw,hg,r1,r2,r3,a0,a1,a2,a3,a4,a5,a6,a7,m,hr,rfl,hz⟩:=hcut
  rw [hr] at HM
  have HBw:=hid hbw
  have hlg:=hid hg.lt
  obtain ⟨⟨c0,c1,c2,c3,c4,c5,c6,c7,c8,c9,c10⟩,-⟩:=cellsH hg
  obtain ⟨⟨d0,d1,d2,d3,d4,d5,d6,d7,d8,d9,d10⟩,-⟩:=cellsH hz
  clear hlt hbw hg hz hr HPr HPa HG0 HB0
  by_cases hm:m=0
  ·have m1:((m:Int)==0)=true:=by rw [hm];rfl
   have HM2:Hid ((((r1,r2,r3,[a0,a1,a2,a3,a4,a5,a6,a7]):HostN)==(1,s.data.toList,n,[p0,p1,p2,p3,p4,p5,p6,p7]))=M):=by
    show _=_
    have h:=HM.out
    simp only [hm,beq_self_eq_true,Bool.true_and] at h
    exact h
   clear hm HM
   have HSame:=hid (fun w=>hsame_calls r1 (strOf r2) r3 a0 a1 a2 a3 a4 a5 a6 a7 1 s n p0 p1 p2 p3 p4 p5 p6 p7 w)
   rw [str_data,HM2.out] at HSame
   unfold hostV at HSame
   go_wp2_with fail
   refine (HSame.out _).mono ?_
   rintro e w9 ⟨rfl,hb9⟩
   go_wp2_with fail
   go_ret
   exact ⟨rfl,by rw [HGG.out];exact HBw.out.trans (hb9.mono (Nat.le_of_lt hlg.out))⟩
  ·have m1:((m:Int)==0)=false:=bN (by omega)
   have HM2:Hid (M=false):=by
    show _=_
    have h:=HM.out
    have e:(m==0)=false:=beq_eq_false_iff_ne.2 hm
    simp only [e,Bool.false_and] at h
    exact h.symm
   clear hm HM
   go_wp2_with fail
   go_ret
   exact ⟨by rw [HM2.out];rfl,by rw [HGG.out];exact HBw.out⟩
theorem rmay_any (k:Int) (h1:k≠1) (s:ByteArray) (n p0 p1 p2 p3 p4 p5 p6 p7:Nat) (w:World) (hn:n < 4294967296) (hx:∀x∈[p0,p1,p2,p3,p4,p5,p6,p7],x < 65536) (hs:s.size≤100000) :
 Calls Tryz.prog 16 #[hostV k s n p0 p1 p2 p3 p4 p5 p6 p7] w fun e w'=>e=.returned (.bool (mayR (k,s.data.toList,n,[p0,p1,p2,p3,p4,p5,p6,p7])))∧Below w.heap.size w w':=by
 have e1:((k:Int)==1)=false:=beq_eq_false_iff_ne.2 h1
 obtain ⟨fl,e2⟩:∃fl,((k:Int)==2)=fl:=⟨_,rfl⟩
 clear h1
 have HPr:=hid (fun w=>rprint_calls k s n p0 p1 p2 p3 p4 p5 p6 p7 w hn hx hs)
 have HSz:=print_short (k:=k) (s:=s) hn hx hs
 have HPa:=hid (fun w=>phost_calls (strOf (printR (k,s.data.toList,n,[p0,p1,p2,p3,p4,p5,p6,p7]))) fl w HSz)
 rw [str_data] at HPa
 obtain ⟨M,hM⟩:∃M,mayR (k,s.data.toList,n,[p0,p1,p2,p3,p4,p5,p6,p7])=M:=⟨_,rfl⟩
 rw [hM]
 have HM:Hid (((hostR (printR (k,s.data.toList,n,[p0,p1,p2,p3,p4,p5,p6,p7])) fl).2==0&&(hostR (printR (k,s.data.toList,n,[p0,p1,p2,p3,p4,p5,p6,p7])) fl).1==((k,s.data.toList,n,[p0,p1,p2,p3,p4,p5,p6,p7]):HostN))=M):=(may_flag (by rw [e1,e2];rfl) hM)
 have HG0:Hid (BkH (w.alloc (.cells #[.int .i64 k,.string s,.int .u32 (n:Int),.int .u16 (p0:Int),.int .u16 (p1:Int),.int .u16 (p2:Int),.int .u16 (p3:Int),.int .u16 (p4:Int),.int .u16 (p5:Int),.int .u16 (p6:Int),.int .u16 (p7:Int)] 27)) w.heap.size [.int .i64 k,.string s,.int .u32 (n:Int),.int .u16 (p0:Int),.int .u16 (p1:Int),.int .u16 (p2:Int),.int .u16 (p3:Int),.int .u16 (p4:Int),.int .u16 (p5:Int),.int .u16 (p6:Int),.int .u16 (p7:Int)]):=heap_alloc_new w _
 have HB0:=hid (ballH w (.cells #[.int .i64 k,.string s,.int .u32 (n:Int),.int .u16 (p0:Int),.int .u16 (p1:Int),.int .u16 (p2:Int),.int .u16 (p3:Int),.int .u16 (p4:Int),.int .u16 (p5:Int),.int .u16 (p6:Int),.int .u16 (p7:Int)] 27))
 generalize hostR (printR (k,s.data.toList,n,[p0,p1,p2,p3,p4,p5,p6,p7]))=HR at *
 generalize strOf (printR (k,s.data.toList,n,[p0,p1,p2,p3,p4,p5,p6,p7]))=PS at *
 clear hM HSz hs hn hx
 unfold hostV at HPr ⊢
 go_enter Tryz.func16,Tryz.ntmps16
 go_wp2_with fail
 generalize w.alloc (.cells #[.int .i64 k,.string s,.int .u32 (n:Int),.int .u16 (p0:Int),.int .u16 (p1:Int),.int .u16 (p2:Int),.int .u16 (p3:Int),.int .u16 (p4:Int),.int .u16 (p5:Int),.int .u16 (p6:Int),.int .u16 (p7:Int)] 27)=w0 at *
 generalize hGG:w.heap.size=G at *
 have HGG:=hid hGG
 clear hGG
 go_cut [3,4] (fun vx ve wx=>∃X,vx=.pointer (some ⟨X,0,none⟩)∧G < X∧Below G w wx∧BkH wx G [.int .i64 k,.string s,.int .u32 (n:Int),.int .u16 (p0:Int),.int .u16 (p1:Int),.int .u16 (p2:Int),.int .u16 (p3:Int),.int .u16 (p4:Int),.int .u16 (p5:Int),.int .u16 (p6:Int),.int .u16 (p7:Int)]∧∃(r1:Int) (r2:List UInt8) (r3 a0 a1 a2 a3 a4 a5 a6 a7 m:Nat),HR fl=((r1,r2,r3,[a0,a1,a2,a3,a4,a5,a6,a7]),m)∧ve=.int .i64 (m:Int)∧BkH wx X [.int .i64 r1,.string (strOf r2),.int .u32 (r3:Int),.int .u16 (a0:Int),.int .u16 (a1:Int),.int .u16 (a2:Int),.int .u16 (a3:Int),.int .u16 (a4:Int),.int .u16 (a5:Int),.int .u16 (a6:Int),.int .u16 (a7:Int)])
 case first =>
  refine wp_region_held_drew (S:=fun w'=>w'.cell? ⟨G,0,none⟩=some (.int .i64 k)∧w'.cell? ⟨G,1,none⟩=some (.string s)∧w'.cell? ⟨G,2,none⟩=some (.int .u32 (n:Int))∧w'.cell? ⟨G,3,none⟩=some (.int .u16 (p0:Int))∧w'.cell? ⟨G,4,none⟩=some (.int .u16 (p1:Int))∧w'.cell? ⟨G,5,none⟩=some (.int .u16 (p2:Int))∧w'.cell? ⟨G,6,none⟩=some (.int .u16 (p3:Int))∧w'.cell? ⟨G,7,none⟩=some (.int .u16 (p4:Int))∧w'.cell? ⟨G,8,none⟩=some (.int .u16 (p5:Int))∧w'.cell? ⟨G,9,none⟩=some (.int .u16 (p6:Int))∧w'.cell? ⟨G,10,none⟩=some (.int .u16 (p7:Int))) (by kernel_rfl) ?_ (fun hHeld=>?_)
  ·exact (cellsH HG0.out).1
  have HGc:Hid (BkH w0.drew G [.int .i64 k,.string s,.int .u32 (n:Int),.int .u16 (p0:Int),.int .u16 (p1:Int),.int .u16 (p2:Int),.int .u16 (p3:Int),.int .u16 (p4:Int),.int .u16 (p5:Int),.int .u16 (p6:Int),.int .u16 (p7:Int)]):=HG0
  have HBc:=hid (HB0.out.drew)
  refine' wpAnyH_take (i:=0) (v:=?_) rfl (by kernel_rfl) (by kernel_rfl) (by kernel_rfl) (fun _ _ _ h=>h) (Or.inl ⟨by rfl,?hy0x21⟩) hHeld ?rest0x21
  case hy0x21=>(intro w hSw;(try dsimp only at hSw);go_simp;try with_reducible rfl)
  simp only [Act.put,List.setIfInBounds_toArray,List.set_cons_zero,List.set_cons_succ]
  refine' wpAnyH_take (i:=2) (v:=?_) rfl (by kernel_rfl) (by kernel_rfl) (by kernel_rfl) (fun _ _ _ h=>h) (Or.inl ⟨by rfl,?hy2x22⟩) hHeld ?rest2x22
  case hy2x22=>(intro w hSw;(try dsimp only at hSw);go_simp;try with_reducible rfl)
  simp only [Act.put,List.setIfInBounds_toArray,List.set_cons_zero,List.set_cons_succ]
  refine' wpAnyH_take (i:=3) (v:=?_) rfl (by kernel_rfl) (by kernel_rfl) (by kernel_rfl) (fun _ _ _ h=>h) (Or.inl ⟨by rfl,?hy3x23⟩) hHeld ?rest3x23
  case hy3x23=>(intro w hSw;(try dsimp only at hSw);go_simp;try with_reducible rfl)
  simp only [Act.put,List.setIfInBounds_toArray,List.set_cons_zero,List.set_cons_succ]
  refine' wpAnyH_take (i:=4) (v:=?_) rfl (by kernel_rfl) (by kernel_rfl) (by kernel_rfl) (fun _ _ _ h=>h) (Or.inl ⟨by rfl,?hy4x24⟩) hHeld ?rest4x24
  case hy4x24=>(intro w hSw;(try dsimp only at hSw);go_simp;try with_reducible rfl)
  simp only [Act.put,List.setIfInBounds_toArray,List.set_cons_zero,List.set_cons_succ]
  refine wpAnyH_ready (rs:=[1,14]) (by kernel_rfl) (by simp) ?_
  refine' (AllReadyH.cons rfl (fun K hK=>?st18x0) (AllReadyH.cons rfl (fun K hK=>?st18x1) AllReadyH.nil))
  case st18x0 =>
   go_simp
   refine (HPr.out _).mono ?_
   rintro e w1 ⟨rfl,hb1⟩
   have HBc:=hid (HBc.out.trans (hb1.mono (Nat.le_of_lt HGc.out.lt)))
   have HGc:=hid (Bk.below HGc.out hb1)
   go_wp2_with fail
   refine hK.out _ _ ?_ (fun hHeld=>?_)
   ·exact (cellsH HGc.out).1
   clear hK K
   try simp only [Act.put,List.setIfInBounds_toArray,List.set_cons_zero,List.set_cons_succ]
   refine' wpAnyH_take (i:=5) (v:=?_) rfl (by kernel_rfl) (by kernel_rfl) (by kernel_rfl) (fun _ _ _ h=>h) (Or.inl ⟨by rfl,?hy5x25⟩) hHeld ?rest5x25
   case hy5x25=>(intro w hSw;(try dsimp only at hSw);go_simp;try with_reducible rfl)
   simp only [Act.put,List.setIfInBounds_toArray,List.set_cons_zero,List.set_cons_succ]
   refine' wpAnyH_take (i:=6) (v:=?_) rfl (by kernel_rfl) (by kernel_rfl) (by kernel_rfl) (fun _ _ _ h=>h) (Or.inl ⟨by rfl,?hy6x26⟩) hHeld ?rest6x26
   case hy6x26=>(intro w hSw;(try dsimp only at hSw);go_simp;try with_reducible rfl)
   simp only [Act.put,List.setIfInBounds_toArray,List.set_cons_zero,List.set_cons_succ]
   refine' wpAnyH_take (i:=7) (v:=?_) rfl (by kernel_rfl) (by kernel_rfl) (by kernel_rfl) (fun _ _ _ h=>h) (Or.inl ⟨by rfl,?hy7x27⟩) hHeld ?rest7x27
   case hy7x27=>(intro w hSw;(try dsimp only at hSw);go_simp;try with_reducible rfl)
   simp only [Act.put,List.setIfInBounds_toArray,List.set_cons_zero,List.set_cons_succ]
   refine' wpAnyH_take (i:=8) (v:=?_) rfl (by kernel_rfl) (by kernel_rfl) (by kernel_rfl) (fun _ _ _ h=>h) (Or.inl ⟨by rfl,?hy8x28⟩) hHeld ?rest8x28
   case hy8x28=>(intro w hSw;(try dsimp only at hSw);go_simp;try with_reducible rfl)
   simp only [Act.put,List.setIfInBounds_toArray,List.set_cons_zero,List.set_cons_succ]
   refine' wpAnyH_take (i:=9) (v:=?_) rfl (by kernel_rfl) (by kernel_rfl) (by kernel_rfl) (fun _ _ _ h=>h) (Or.inl ⟨by rfl,?hy9x29⟩) hHeld ?rest9x29
   case hy9x29=>(intro w hSw;(try dsimp only at hSw);go_simp;try with_reducible rfl)
   simp only [Act.put,List.setIfInBounds_toArray,List.set_cons_zero,List.set_cons_succ]
   refine wpAnyH_ready (rs:=[10,14]) (by kernel_rfl) (by simp) ?_
   refine' (AllReadyH.cons rfl (fun K hK=>?st14x0) (AllReadyH.cons rfl (fun K hK=>?st14x1) AllReadyH.nil))
   case st14x0 =>
    go_simp
    refine (HPa.out _).mono ?_
    rintro e w2 ⟨a0,a1,a2,a3,a4,a5,a6,a7,hp,rfl,hb2⟩
    unfold hostV
    have HBc:=hid (HBc.out.trans (hb2.mono (Nat.le_of_lt HGc.out.lt)))
    have HGc:=hid (Bk.below HGc.out hb2)
    go_wp2_with fail
    refine hK.out _ _ ?_ (fun hHeld=>?_)
    ·exact (cellsH HGc.out).1
    clear hK K
    try simp only [Act.put,List.setIfInBounds_toArray,List.set_cons_zero,List.set_cons_succ]
    refine' wpAnyH_take (i:=11) (v:=?_) rfl (by kernel_rfl) (by kernel_rfl) (by kernel_rfl) (fun _ _ _ h=>h) (Or.inl ⟨by rfl,?hy11x30⟩) hHeld ?rest11x30
    case hy11x30=>(intro w hSw;(try dsimp only at hSw);go_simp;try with_reducible rfl)
    simp only [Act.put,List.setIfInBounds_toArray,List.set_cons_zero,List.set_cons_succ]
    refine' wpAnyH_take (i:=12) (v:=?_) rfl (by kernel_rfl) (by kernel_rfl) (by kernel_rfl) (fun _ _ _ h=>h) (Or.inl ⟨by rfl,?hy12x31⟩) hHeld ?rest12x31
    case hy12x31=>(intro w hSw;(try dsimp only at hSw);go_simp;try with_reducible rfl)
    simp only [Act.put,List.setIfInBounds_toArray,List.set_cons_zero,List.set_cons_succ]
    refine' wpAnyH_take (i:=13) (v:=?_) rfl (by kernel_rfl) (by kernel_rfl) (by kernel_rfl) (fun _ _ _ h=>h) (Or.inl ⟨by rfl,?hy13x32⟩) hHeld ?rest13x32
    case hy13x32=>(intro w hSw;(try dsimp only at hSw);go_simp;try with_reducible rfl)
    simp only [Act.put,List.setIfInBounds_toArray,List.set_cons_zero,List.set_cons_succ]
    refine wpAnyH_ready (rs:=[14]) (by kernel_rfl) (by simp) ?_
    refine' AllReadyH.cons rfl (fun K hK=>?_) AllReadyH.nil
    have HGp:=hid HGc.out
    have HBp:=hid HBc.out
    go_simp
    have hlt:=hid HGc.out.lt
    have HBc:=hid (HBc.out.alloc (Nat.le_of_lt HGc.out.lt) (.cells #[.int .i64 0,.string ⟨#[]⟩,.int .u32 0,.int .u16 0,.int .u16 0,.int .u16 0,.int .u16 0,.int .u16 0,.int .u16 0,.int .u16 0,.int .u16 0] 27))
    have HZc:=hid (zeroH_world (w2))
    have HGc:=hid (Bk.below HGc.out (ballH (w2) (.cells #[.int .i64 0,.string ⟨#[]⟩,.int .u32 0,.int .u16 0,.int .u16 0,.int .u16 0,.int .u16 0,.int .u16 0,.int .u16 0,.int .u16 0,.int .u16 0] 27)))
    refine hK.out _ _ ?_ (fun hHeld=>?_)
    ·exact (cellsH HGc.out).1
    clear hK K
    try simp only [Act.put,List.setIfInBounds_toArray,List.set_cons_zero,List.set_cons_succ]
    refine wpAnyH_ready (rs:=[15]) (by kernel_rfl) (by simp) ?_
    refine' AllReadyH.cons rfl (fun K hK=>?_) AllReadyH.nil
    have HE:=hid (may_new HGp.out HBp.out (.int .i64 (HR fl).1.1) (.string (strOf (HR fl).1.2.1)) (.int .u32 (((HR fl).1.2.2.1:Nat):Int)) (.int .u16 (a0:Int)) (.int .u16 (a1:Int)) (.int .u16 (a2:Int)) (.int .u16 (a3:Int)) (.int .u16 (a4:Int)) (.int .u16 (a5:Int)) (.int .u16 (a6:Int)) (.int .u16 (a7:Int)))
    go_simp
    refine hK.out _ _ ?_ (fun hHeld=>?_)
    ·exact (cellsH HE.out.2.1).1
    clear hK K
    try simp only [Act.put,List.setIfInBounds_toArray,List.set_cons_zero,List.set_cons_succ]
    refine' wpAnyH_take (i:=16) (v:=?_) (by simp only [List.getElem?_toArray,List.getElem?_cons_succ,List.getElem?_cons_zero];rfl) (by kernel_rfl) (by kernel_rfl) (by kernel_rfl) (by intro _ _ _ h;exact h) (Or.inl ⟨by rfl,?hy16x33⟩) hHeld ?rest16x33
    case hy16x33=>(intro w hSw;(try dsimp only at hSw);go_simp;try with_reducible rfl)
    simp only [Act.put,List.setIfInBounds_toArray,List.set_cons_zero,List.set_cons_succ]
    refine wpAnyH_done (by kernel_rfl) ?_ _
    go_wp2_with fail
    go_meet
    case rel=>exact ⟨_,rfl,hlt.out,HE.out.1,HE.out.2.1,_,_,_,_,_,_,_,_,_,_,_,_,(pair_eq hp),rfl,HE.out.2.2⟩
   case st14x1 =>
    go_simp
    have hlt:=hid HGc.out.lt
    have HBc:=hid (HBc.out.alloc (Nat.le_of_lt HGc.out.lt) (.cells #[.int .i64 0,.string ⟨#[]⟩,.int .u32 0,.int .u16 0,.int .u16 0,.int .u16 0,.int .u16 0,.int .u16 0,.int .u16 0,.int .u16 0,.int .u16 0] 27))
    have HZc:=hid (zeroH_world (w1))
    have HGc:=hid (Bk.below HGc.out (ballH (w1) (.cells #[.int .i64 0,.string ⟨#[]⟩,.int .u32 0,.int .u16 0,.int .u16 0,.int .u16 0,.int .u16 0,.int .u16 0,.int .u16 0,.int .u16 0,.int .u16 0] 27)))
    refine hK.out _ _ ?_ (fun hHeld=>?_)
    ·exact (cellsH HGc.out).1
    clear hK K
    try simp only [Act.put,List.setIfInBounds_toArray,List.set_cons_zero,List.set_cons_succ]
    refine wpAnyH_ready (rs:=[10]) (by kernel_rfl) (by simp) ?_
    refine' AllReadyH.cons rfl (fun K hK=>?_) AllReadyH.nil
    go_simp
    refine (HPa.out _).mono ?_
    rintro e w2 ⟨a0,a1,a2,a3,a4,a5,a6,a7,hp,rfl,hb2⟩
    unfold hostV
    have HBc:=hid (HBc.out.trans (hb2.mono (Nat.le_of_lt HGc.out.lt)))
    have HGc:=hid (Bk.below HGc.out hb2)
    have HZc:=hid (Bk.below HZc.out hb2)
    go_wp2_with fail
    refine hK.out _ _ ?_ (fun hHeld=>?_)
    ·exact (cellsH HGc.out).1
    clear hK K
    try simp only [Act.put,List.setIfInBounds_toArray,List.set_cons_zero,List.set_cons_succ]
    refine' wpAnyH_take (i:=11) (v:=?_) rfl (by kernel_rfl) (by kernel_rfl) (by kernel_rfl) (fun _ _ _ h=>h) (Or.inl ⟨by rfl,?hy11x34⟩) hHeld ?rest11x34
    case hy11x34=>(intro w hSw;(try dsimp only at hSw);go_simp;try with_reducible rfl)
    simp only [Act.put,List.setIfInBounds_toArray,List.set_cons_zero,List.set_cons_succ]
    refine' wpAnyH_take (i:=12) (v:=?_) rfl (by kernel_rfl) (by kernel_rfl) (by kernel_rfl) (fun _ _ _ h=>h) (Or.inl ⟨by rfl,?hy12x35⟩) hHeld ?rest12x35
    case hy12x35=>(intro w hSw;(try dsimp only at hSw);go_simp;try with_reducible rfl)
    simp only [Act.put,List.setIfInBounds_toArray,List.set_cons_zero,List.set_cons_succ]
    refine' wpAnyH_take (i:=13) (v:=?_) rfl (by kernel_rfl) (by kernel_rfl) (by kernel_rfl) (fun _ _ _ h=>h) (Or.inl ⟨by rfl,?hy13x36⟩) hHeld ?rest13x36
    case hy13x36=>(intro w hSw;(try dsimp only at hSw);go_simp;try with_reducible rfl)
    simp only [Act.put,List.setIfInBounds_toArray,List.set_cons_zero,List.set_cons_succ]
    refine wpAnyH_ready (rs:=[15]) (by kernel_rfl) (by simp) ?_
    refine' AllReadyH.cons rfl (fun K hK=>?_) AllReadyH.nil
    obtain ⟨⟨c0,c1,c2,c3,c4,c5,c6,c7,c8,c9,c10⟩,⟨f0,f1,f2,f3,f4,f5,f6,f7,f8,f9,f10⟩⟩:=cellsZ HZc.out
    have HE:=hid (may_end HZc.out HGc.out hlt.out HBc.out (.int .i64 (HR fl).1.1) (.string (strOf (HR fl).1.2.1)) (.int .u32 (((HR fl).1.2.2.1:Nat):Int)) (.int .u16 (a0:Int)) (.int .u16 (a1:Int)) (.int .u16 (a2:Int)) (.int .u16 (a3:Int)) (.int .u16 (a4:Int)) (.int .u16 (a5:Int)) (.int .u16 (a6:Int)) (.int .u16 (a7:Int)))
    go_simp
    refine hK.out _ _ ?_ (fun hHeld=>?_)
    ·exact (cellsH HE.out.2.1).1
    clear hK K
    try simp only [Act.put,List.setIfInBounds_toArray,List.set_cons_zero,List.set_cons_succ]
    refine' wpAnyH_take (i:=16) (v:=?_) (by simp only [List.getElem?_toArray,List.getElem?_cons_succ,List.getElem?_cons_zero];rfl) (by kernel_rfl) (by kernel_rfl) (by kernel_rfl) (by intro _ _ _ h;exact h) (Or.inl ⟨by rfl,?hy16x37⟩) hHeld ?rest16x37
    case hy16x37=>(intro w hSw;(try dsimp only at hSw);go_simp;try with_reducible rfl)
    simp only [Act.put,List.setIfInBounds_toArray,List.set_cons_zero,List.set_cons_succ]
    refine wpAnyH_done (by kernel_rfl) ?_ _
    go_wp2_with fail
    go_meet
    case rel=>exact ⟨_,rfl,hlt.out,HE.out.1,HE.out.2.1,_,_,_,_,_,_,_,_,_,_,_,_,(pair_eq hp),rfl,HE.out.2.2⟩
  case st18x1 =>
   go_simp
   have hlt:Hid (G < w0.heap.size):=hid HGc.out.lt
   have HBc:=hid (HBc.out.alloc (Nat.le_of_lt HGc.out.lt) (.cells #[.int .i64 0,.string ⟨#[]⟩,.int .u32 0,.int .u16 0,.int .u16 0,.int .u16 0,.int .u16 0,.int .u16 0,.int .u16 0,.int .u16 0,.int .u16 0] 27))
   have HZc:Hid (BkH (w0.drew.alloc (.cells #[.int .i64 0,.string ⟨#[]⟩,.int .u32 0,.int .u16 0,.int .u16 0,.int .u16 0,.int .u16 0,.int .u16 0,.int .u16 0,.int .u16 0,.int .u16 0] 27)) w0.heap.size zeroH):=hid (zeroH_world w0.drew)
   have HGc:=hid (Bk.below HGc.out (ballH (w0.drew) (.cells #[.int .i64 0,.string ⟨#[]⟩,.int .u32 0,.int .u16 0,.int .u16 0,.int .u16 0,.int .u16 0,.int .u16 0,.int .u16 0,.int .u16 0,.int .u16 0] 27)))
   refine hK.out _ _ ?_ (fun hHeld=>?_)
   ·exact (cellsH HGc.out).1
   clear hK K
   try simp only [Act.put,List.setIfInBounds_toArray,List.set_cons_zero,List.set_cons_succ]
   refine wpAnyH_ready (rs:=[1]) (by kernel_rfl) (by simp) ?_
   refine' AllReadyH.cons rfl (fun K hK=>?_) AllReadyH.nil
   go_simp
   refine (HPr.out _).mono ?_
   rintro e w1 ⟨rfl,hb1⟩
   have HBc:=hid (HBc.out.trans (hb1.mono (Nat.le_of_lt HGc.out.lt)))
   have HGc:=hid (Bk.below HGc.out hb1)
   have HZc:=hid (Bk.below HZc.out hb1)
   go_wp2_with fail
   refine hK.out _ _ ?_ (fun hHeld=>?_)
   ·exact (cellsH HGc.out).1
   clear hK K
   try simp only [Act.put,List.setIfInBounds_toArray,List.set_cons_zero,List.set_cons_succ]
   refine' wpAnyH_take (i:=5) (v:=?_) rfl (by kernel_rfl) (by kernel_rfl) (by kernel_rfl) (fun _ _ _ h=>h) (Or.inl ⟨by rfl,?hy5x38⟩) hHeld ?rest5x38
   case hy5x38=>(intro w hSw;(try dsimp only at hSw);go_simp;try with_reducible rfl)
   simp only [Act.put,List.setIfInBounds_toArray,List.set_cons_zero,List.set_cons_succ]
   refine' wpAnyH_take (i:=6) (v:=?_) rfl (by kernel_rfl) (by kernel_rfl) (by kernel_rfl) (fun _ _ _ h=>h) (Or.inl ⟨by rfl,?hy6x39⟩) hHeld ?rest6x39
   case hy6x39=>(intro w hSw;(try dsimp only at hSw);go_simp;try with_reducible rfl)
   simp only [Act.put,List.setIfInBounds_toArray,List.set_cons_zero,List.set_cons_succ]
   refine' wpAnyH_take (i:=7) (v:=?_) rfl (by kernel_rfl) (by kernel_rfl) (by kernel_rfl) (fun _ _ _ h=>h) (Or.inl ⟨by rfl,?hy7x40⟩) hHeld ?rest7x40
   case hy7x40=>(intro w hSw;(try dsimp only at hSw);go_simp;try with_reducible rfl)
   simp only [Act.put,List.setIfInBounds_toArray,List.set_cons_zero,List.set_cons_succ]
   refine' wpAnyH_take (i:=8) (v:=?_) rfl (by kernel_rfl) (by kernel_rfl) (by kernel_rfl) (fun _ _ _ h=>h) (Or.inl ⟨by rfl,?hy8x41⟩) hHeld ?rest8x41
   case hy8x41=>(intro w hSw;(try dsimp only at hSw);go_simp;try with_reducible rfl)
   simp only [Act.put,List.setIfInBounds_toArray,List.set_cons_zero,List.set_cons_succ]
   refine' wpAnyH_take (i:=9) (v:=?_) rfl (by kernel_rfl) (by kernel_rfl) (by kernel_rfl) (fun _ _ _ h=>h) (Or.inl ⟨by rfl,?hy9x42⟩) hHeld ?rest9x42
   case hy9x42=>(intro w hSw;(try dsimp only at hSw);go_simp;try with_reducible rfl)
   simp only [Act.put,List.setIfInBounds_toArray,List.set_cons_zero,List.set_cons_succ]
   refine wpAnyH_ready (rs:=[10]) (by kernel_rfl) (by simp) ?_
   refine' AllReadyH.cons rfl (fun K hK=>?_) AllReadyH.nil
   go_simp
   refine (HPa.out _).mono ?_
   rintro e w2 ⟨a0,a1,a2,a3,a4,a5,a6,a7,hp,rfl,hb2⟩
   unfold hostV
   have HBc:=hid (HBc.out.trans (hb2.mono (Nat.le_of_lt HGc.out.lt)))
   have HGc:=hid (Bk.below HGc.out hb2)
   have HZc:=hid (Bk.below HZc.out hb2)
   go_wp2_with fail
   refine hK.out _ _ ?_ (fun hHeld=>?_)
   ·exact (cellsH HGc.out).1
   clear hK K
   try simp only [Act.put,List.setIfInBounds_toArray,List.set_cons_zero,List.set_cons_succ]
   refine' wpAnyH_take (i:=11) (v:=?_) rfl (by kernel_rfl) (by kernel_rfl) (by kernel_rfl) (fun _ _ _ h=>h) (Or.inl ⟨by rfl,?hy11x43⟩) hHeld ?rest11x43
   case hy11x43=>(intro w hSw;(try dsimp only at hSw);go_simp;try with_reducible rfl)
   simp only [Act.put,List.setIfInBounds_toArray,List.set_cons_zero,List.set_cons_succ]
   refine' wpAnyH_take (i:=12) (v:=?_) rfl (by kernel_rfl) (by kernel_rfl) (by kernel_rfl) (fun _ _ _ h=>h) (Or.inl ⟨by rfl,?hy12x44⟩) hHeld ?rest12x44
   case hy12x44=>(intro w hSw;(try dsimp only at hSw);go_simp;try with_reducible rfl)
   simp only [Act.put,List.setIfInBounds_toArray,List.set_cons_zero,List.set_cons_succ]
   refine' wpAnyH_take (i:=13) (v:=?_) rfl (by kernel_rfl) (by kernel_rfl) (by kernel_rfl) (fun _ _ _ h=>h) (Or.inl ⟨by rfl,?hy13x45⟩) hHeld ?rest13x45
   case hy13x45=>(intro w hSw;(try dsimp only at hSw);go_simp;try with_reducible rfl)
   simp only [Act.put,List.setIfInBounds_toArray,List.set_cons_zero,List.set_cons_succ]
   refine wpAnyH_ready (rs:=[15]) (by kernel_rfl) (by simp) ?_
   refine' AllReadyH.cons rfl (fun K hK=>?_) AllReadyH.nil
   obtain ⟨⟨c0,c1,c2,c3,c4,c5,c6,c7,c8,c9,c10⟩,⟨f0,f1,f2,f3,f4,f5,f6,f7,f8,f9,f10⟩⟩:=cellsZ HZc.out
   have HE:=hid (may_end HZc.out HGc.out hlt.out HBc.out (.int .i64 (HR fl).1.1) (.string (strOf (HR fl).1.2.1)) (.int .u32 (((HR fl).1.2.2.1:Nat):Int)) (.int .u16 (a0:Int)) (.int .u16 (a1:Int)) (.int .u16 (a2:Int)) (.int .u16 (a3:Int)) (.int .u16 (a4:Int)) (.int .u16 (a5:Int)) (.int .u16 (a6:Int)) (.int .u16 (a7:Int)))
   go_simp
   refine hK.out _ _ ?_ (fun hHeld=>?_)
   ·exact (cellsH HE.out.2.1).1
   clear hK K
   try simp only [Act.put,List.setIfInBounds_toArray,List.set_cons_zero,List.set_cons_succ]
   refine' wpAnyH_take (i:=16) (v:=?_) (by simp only [List.getElem?_toArray,List.getElem?_cons_succ,List.getElem?_cons_zero];rfl) (by kernel_rfl) (by kernel_rfl) (by kernel_rfl) (by intro _ _ _ h;exact h) (Or.inl ⟨by rfl,?hy16x46⟩) hHeld ?rest16x46
   case hy16x46=>(intro w hSw;(try dsimp only at hSw);go_simp;try with_reducible rfl)
   simp only [Act.put,List.setIfInBounds_toArray,List.set_cons_zero,List.set_cons_succ]
   refine wpAnyH_done (by kernel_rfl) ?_ _
   go_wp2_with fail
   go_meet
   case rel=>exact ⟨_,rfl,hlt.out,HE.out.1,HE.out.2.1,_,_,_,_,_,_,_,_,_,_,_,_,(pair_eq hp),rfl,HE.out.2.2⟩
 case rest =>
  obtain ⟨X,rfl,hlt,hbw,hg,r1,r2,r3,a0,a1,a2,a3,a4,a5,a6,a7,m,hr,rfl,hz⟩:=hcut
  rw [hr] at HM
  have HBw:=hid hbw
  have hlg:=hid hg.lt
  obtain ⟨⟨c0,c1,c2,c3,c4,c5,c6,c7,c8,c9,c10⟩,-⟩:=cellsH hg
  obtain ⟨⟨d0,d1,d2,d3,d4,d5,d6,d7,d8,d9,d10⟩,-⟩:=cellsH hz
  clear hlt hbw hg hz hr HPr HPa HG0 HB0
  by_cases hm:m=0
  ·have m1:((m:Int)==0)=true:=by rw [hm];rfl
   have HM2:Hid ((((r1,r2,r3,[a0,a1,a2,a3,a4,a5,a6,a7]):HostN)==(k,s.data.toList,n,[p0,p1,p2,p3,p4,p5,p6,p7]))=M):=by
    show _=_
    have h:=HM.out
    simp only [hm,beq_self_eq_true,Bool.true_and] at h
    exact h
   clear hm HM
   have HSame:=hid (fun w=>hsame_calls r1 (strOf r2) r3 a0 a1 a2 a3 a4 a5 a6 a7 k s n p0 p1 p2 p3 p4 p5 p6 p7 w)
   rw [str_data,HM2.out] at HSame
   unfold hostV at HSame
   go_wp2_with fail
   refine (HSame.out _).mono ?_
   rintro e w9 ⟨rfl,hb9⟩
   go_wp2_with fail
   go_ret
   exact ⟨rfl,by rw [HGG.out];exact HBw.out.trans (hb9.mono (Nat.le_of_lt hlg.out))⟩
  ·have m1:((m:Int)==0)=false:=bN (by omega)
   have HM2:Hid (M=false):=by
    show _=_
    have h:=HM.out
    have e:(m==0)=false:=beq_eq_false_iff_ne.2 hm
    simp only [e,Bool.false_and] at h
    exact h.symm
   clear hm HM
   go_wp2_with fail
   go_ret
   exact ⟨by rw [HM2.out];rfl,by rw [HGG.out];exact HBw.out⟩
theorem rmay_calls (k:Int) (s:ByteArray) (n p0 p1 p2 p3 p4 p5 p6 p7:Nat) (w:World) (hn:n < 4294967296) (hx:∀x∈[p0,p1,p2,p3,p4,p5,p6,p7],x < 65536) (hs:s.size≤100000) :
 Calls Tryz.prog 16 #[hostV k s n p0 p1 p2 p3 p4 p5 p6 p7] w fun e w'=>e=.returned (.bool (mayR (k,s.data.toList,n,[p0,p1,p2,p3,p4,p5,p6,p7])))∧Below w.heap.size w w':=by
 by_cases h1:k=1
 ·subst h1
  exact rmay_one s n p0 p1 p2 p3 p4 p5 p6 p7 w hn hx hs
 ·exact rmay_any k h1 s n p0 p1 p2 p3 p4 p5 p6 p7 w hn hx hs
end Go.Proofs.YtpohekldddbneaaGreatDoor
